/- Cy5 -/
import Derived.Test.YtgjokididdffhaaGreatCy2
import Derived.Test.YtgjokididdffhaaGreatCw5
import Derived.Test.YtgjokididdffhaaGreatChd
import Derived.Test.YtgjokididdffhaaGreatCv1
import Derived.Test.YtgjokididdffhaaGreatCu9
import Derived.Test.YtgjokididdffhaaGreatCy1
namespace Go.Proofs.YtgjokididdffhaaGreat
open Go.RowKit Go.Deep
set_option linter.unusedVariables false
theorem tq_small : ∀ d, d < 9 → tqN d 0 ≤ 9000 := by decide
theorem cuE_zero (e : Nat → Nat) : cuE e 0 = fun _ => -1 := by funext i; simp [cuE]
def LeA (bar : (Nat → Int) → Nat → Nat → Prop) (m : Nat) (w w' : World) (e : Ending) : Prop := Below w.heap.size w w' ∧ ((8 < m ∧ e = .returned (.tuple #[.int .i64 0, .int .i64 1])) ∨ (m ≤ 8 ∧ ∃ r : Nat, FwP bar m (fun _ => 0) 0 m r ∧ e = .returned (.tuple #[.int .i64 (r : Int), .int .i64 0])))
set_option maxRecDepth 100000 in
set_option maxHeartbeats 16000000 in
theorem cLeast_yes (bar : (Nat → Int) → Nat → Nat → Prop) (Arr : Nat → World → Prop) (hAB : ∀ X W W', Arr X W → Below W.heap.size W W' → Arr X W') (hAG : ∀ X g W W', g ≠ X → Arr X W → Chg (fun j => j = g) W W' → Arr X W') (hA0 : ∀ X W, RoF W X 16 (fun _ => 0) → Arr X W) (k : Int) (G G1 G2 G3 : Nat) (wd : Bool) (R width m : Nat) (S C : List Int) (a1 a2 : Option Addr) (n1 c1 n2 c2 : Nat) (st cols : List Int) (w : World) (h1 : SlI w a1 n1 c1 st) (h2 : SlI w a2 n2 c2 cols) (hm8 : m ≤ 128) (hFr : ∀ X x d y z g h, FrAll bar (Arr X) X m x S.length d y C.length z g h (some (.func (.func G2) #[] #[])) S C) (hT : ∀ W, SlI W a1 n1 c1 st → SlI W a2 n2 c2 cols → Calls Tryz.prog 34 #[.int .i64 k, patV (R : Int) (width : Int) a1 n1 c1 a2 n2 c2] W fun e w' => TkP W w' e G G1 G2 G3 wd R width a1 n1 c1 a2 n2 c2 m S C) :
    Calls Tryz.prog 10 #[.int .i64 k, patV (R : Int) (width : Int) a1 n1 c1 a2 n2 c2] w fun e w' => LeA bar m w w' e := by
  obtain ⟨wb, hwb⟩ : ∃ x, w.alloc (.cells #[.int .i64 (R : Int), .int .i64 (width : Int), .slice a1 n1 c1, .slice a2 n2 c2] 25) = x := ⟨_, rfl⟩
  have bb : Below w.heap.size w wb := by rw [← hwb]; exact (Below.refl _ _).alloc (Nat.le_refl _) _
  have hT0 := BoxP.made w #[.int .i64 (R : Int), .int .i64 (width : Int), .slice a1 n1 c1, .slice a2 n2 c2] 25
  rw [hwb] at hT0
  have p0 := (hT0.all 0 _ rfl).1
  have p1 := (hT0.all 1 _ rfl).1
  have p2 := (hT0.all 2 _ rfl).1
  have p3 := (hT0.all 3 _ rfl).1
  have KT := hide (hT wb (h1.below bb) (h2.below bb))
  unfold patV at KT
  have HB := hide bb
  have HT0 := hide hT0
  have HPR := hide (And.intro hAB (And.intro hAG (And.intro hA0 hFr)))
  clear hT0 bb h1 h2 hT hAB hAG hA0 hFr
  unfold patV
  go_enter Tryz.func10, Tryz.ntmps10
  go_wp2_with fail
  refine (unhide KT).mono ?_
  rintro _ w2 ⟨x, d, y, z, rfl, hS2, hC2, b2⟩
  unfold tkV
  clear p0 p1 p2 p3 KT
  try dsimp only
  repeat ((fail_if_success (with_reducible (show Code.wp _ _ _ _ (World.alloc w2 (Obj.cells #[_, _, _, _, _, _, _, _, _, _, _, _, .slice y C.length z] _))))); (first | go_values | go_skip | go_guarded | go_step | go_upon | go_back))
  have hR := BoxP.made w2 #[(.func (.func G) #[] #[]), (.func (.func G1) #[] #[]), (.func (.func G2) #[] #[]), (.func (.func G3) #[] #[]), (.bool wd), .int .i64 (R : Int), .int .i64 (width : Int), .slice a1 n1 c1, .slice a2 n2 c2, .int .i64 (m : Int), .int .i64 (m : Int), .slice x S.length d, .slice y C.length z] 80
  have br : Below w2.heap.size w2 (w2.alloc (.cells #[(.func (.func G) #[] #[]), (.func (.func G1) #[] #[]), (.func (.func G2) #[] #[]), (.func (.func G3) #[] #[]), (.bool wd), .int .i64 (R : Int), .int .i64 (width : Int), .slice a1 n1 c1, .slice a2 n2 c2, .int .i64 (m : Int), .int .i64 (m : Int), .slice x S.length d, .slice y C.length z] 80)) := (Below.refl _ _).alloc (Nat.le_refl _) _
  have hb3 := ((unhide HB).trans (b2.mono (unhide HB).size)).trans (br.mono (Nat.le_trans (unhide HB).size b2.size))
  have HSC := hide (And.intro (hS2.below br) (hC2.below br))
  have HT3 := hide (((unhide HT0).below b2).below br)
  clear b2 br hS2 hC2
  generalize w2.alloc (.cells #[(.func (.func G) #[] #[]), (.func (.func G1) #[] #[]), (.func (.func G2) #[] #[]), (.func (.func G3) #[] #[]), (.bool wd), .int .i64 (R : Int), .int .i64 (width : Int), .slice a1 n1 c1, .slice a2 n2 c2, .int .i64 (m : Int), .int .i64 (m : Int), .slice x S.length d, .slice y C.length z] 80) = w3 at *
  have s0 := (hR.all 0 _ rfl).1
  have s1 := (hR.all 1 _ rfl).1
  have s2 := (hR.all 2 _ rfl).1
  have s3 := (hR.all 3 _ rfl).1
  have s4 := (hR.all 4 _ rfl).1
  have s5 := (hR.all 5 _ rfl).1
  have s6 := (hR.all 6 _ rfl).1
  have s7 := (hR.all 7 _ rfl).1
  have s8 := (hR.all 8 _ rfl).1
  have s9 := (hR.all 9 _ rfl).1
  have s10 := (hR.all 10 _ rfl).1
  have s11 := (hR.all 11 _ rfl).1
  have s12 := (hR.all 12 _ rfl).1
  have HB3 := hide hb3
  have HR := hide hR
  have hs1 := (unhide HSC).1
  have hs2 := (unhide HSC).2
  have HSL := hide (And.intro hs1 hs2)
  clear hR hb3 hs1 hs2
  by_cases hb8 : m ≤ 8
  · have hb8' : ¬ (m : Int) > 8 := by omega
    have HIH := hide (show ∀ (X g h : Nat) (W5 : World), BoxP W5 X (bruM (.func (.func G) #[] #[]) (.func (.func G1) #[] #[]) (.func (.func G2) #[] #[]) (.func (.func G3) #[] #[]) wd R width m a1 n1 c1 a2 n2 c2 x S.length d y C.length z g h 1) → RoV W5 g m (fun _ => .int .i64 (-1)) → RoV W5 h m (fun _ => .int .i64 0) → (w3.heap.size ≤ g ∧ g < h ∧ h < X) → Below w3.heap.size w3 W5 → RoF W5 X 16 (fun _ => 0) → Calls Tryz.prog 36 #[.pointer (some ⟨X, 0, none⟩), .int .i64 0, .int .i64 (m : Int)] W5 fun e w' => ∃ r : Nat, e = .returned (.int .i64 (r : Int)) ∧ FwP bar m (fun _ => 0) 0 m r ∧ Chg (fun j => j = g ∨ j = h ∨ j = X) W5 w' from fun X g h W5 hX hg5 hh5 hlt5 b5 hA5 => by
      have hs1 := (unhide HSL).1
      have hs2 := (unhide HSL).2
      have hBr : BrI W5 X m _ x S.length d y C.length z g h 1 (fun _ => -1) (fun _ => 0) S C := ⟨hX, rfl, rfl, rfl, rfl, rfl, rfl, rfl, hg5, hh5, hs1.below b5, hs2.below b5, fun t ht hne => by have := hs1.block_lt hne t ht; omega, fun t ht hne => by have := hs2.block_lt hne t ht; omega, by omega⟩
      have KP := cfewest_any bar (Arr X) ((unhide HPR).1 X) X m x S.length d y C.length z g h (some (.func (.func G2) #[] #[])) S C (fun W W' => (unhide HPR).2.1 X g W W' (by omega)) ((unhide HPR).2.2.2 X x d y z g h) hm8 m (fun _ => 0) 0 1 m (fun _ => 0) _ W5 (by omega) (Nat.le_refl _) (fun j hj => by omega) (by rw [cuE_zero]; exact hBr) rfl (by simp [bruM]) (fun j _ => by omega) (by have := tq_small m (by omega); omega) ((unhide HPR).2.2.1 X W5 hA5)
      simp only [Int.natCast_zero] at KP
      exact KP.mono (fun e w' ⟨r, h1, h2, h3⟩ => ⟨r, h1, h2, h3.chg⟩))
    have HND := hide (show ∀ W, Below w3.heap.size w3 W → ∀ W', (Chg (fun j => w3.heap.size ≤ j) W W') → BoxP W' w2.heap.size [(.func (.func G) #[] #[]), (.func (.func G1) #[] #[]), (.func (.func G2) #[] #[]), (.func (.func G3) #[] #[]), (.bool wd), .int .i64 (R : Int), .int .i64 (width : Int), .slice a1 n1 c1, .slice a2 n2 c2, .int .i64 (m : Int), .int .i64 (m : Int), .slice x S.length d, .slice y C.length z] from fun W b W' k => ((unhide HR).below b).chg k (by have := (unhide HR).lt; omega))
    go_wp2_with fail
    go_region_held3 (fun w' => w'.cell? ⟨w2.heap.size, 0, none⟩ = some (.func (.func G) #[] #[]) ∧ w'.cell? ⟨w2.heap.size, 1, none⟩ = some (.func (.func G1) #[] #[]) ∧ w'.cell? ⟨w2.heap.size, 2, none⟩ = some (.func (.func G2) #[] #[]) ∧ w'.cell? ⟨w2.heap.size, 3, none⟩ = some (.func (.func G3) #[] #[]) ∧ w'.cell? ⟨w2.heap.size, 4, none⟩ = some (.bool wd) ∧ w'.cell? ⟨w2.heap.size, 5, none⟩ = some (.int .i64 (R : Int)) ∧ w'.cell? ⟨w2.heap.size, 6, none⟩ = some (.int .i64 (width : Int)) ∧ w'.cell? ⟨w2.heap.size, 7, none⟩ = some (.slice a1 n1 c1) ∧ w'.cell? ⟨w2.heap.size, 8, none⟩ = some (.slice a2 n2 c2) ∧ w'.cell? ⟨w2.heap.size, 9, none⟩ = some (.int .i64 (m : Int)) ∧ w'.cell? ⟨w2.heap.size, 10, none⟩ = some (.int .i64 (m : Int)) ∧ w'.cell? ⟨w2.heap.size, 11, none⟩ = some (.slice x S.length d) ∧ w'.cell? ⟨w2.heap.size, 12, none⟩ = some (.slice y C.length z)) (first | (exact ⟨s0, s1, s2, s3, s4, s5, s6, s7, s8, s9, s10, s11, s12⟩) | go_keep)
      (first
        | (go_at_call 35; refine (cnewBrush_arr _ _ _ _ wd R width m a1 a2 x y n1 c1 n2 c2 S.length d C.length z _ hm8).mono ?_; rintro _ w5 ⟨X, g, h, rfl, hX, hg5, hh5, hlt5, b5, hA5⟩; have hb35 : Below w3.heap.size w3 w5 := (by first | exact b5 | exact ((Below.refl _ _).drew).trans b5); have hlt5 : w3.heap.size ≤ g ∧ g < h ∧ h < X := (by first | exact hlt5 | (simpa using hlt5)); have hn5 := unhide HND w5 hb35 w5 (Chg.refl _ _); clear s0 s1 s2 s3 s4 s5 s6 s7 s8 s9 s10 s11 s12; have s0 := (hn5.all 0 _ rfl).1; have s1 := (hn5.all 1 _ rfl).1; have s2 := (hn5.all 2 _ rfl).1; have s3 := (hn5.all 3 _ rfl).1; have s4 := (hn5.all 4 _ rfl).1; have s5 := (hn5.all 5 _ rfl).1; have s6 := (hn5.all 6 _ rfl).1; have s7 := (hn5.all 7 _ rfl).1; have s8 := (hn5.all 8 _ rfl).1; have s9 := (hn5.all 9 _ rfl).1; have s10 := (hn5.all 10 _ rfl).1; have s11 := (hn5.all 11 _ rfl).1; have s12 := (hn5.all 12 _ rfl).1; have HG := hide (And.intro hX (And.intro hg5 (And.intro hh5 (And.intro hlt5 (And.intro hb35 hA5))))); clear hX hg5 hh5 hlt5 b5 hA5 hb35 hn5)
        | (go_at_call 36; refine (unhide HIH X g h w5 (unhide HG).1 (unhide HG).2.1 (unhide HG).2.2.1 (unhide HG).2.2.2.1 (unhide HG).2.2.2.2.1 (unhide HG).2.2.2.2.2).mono ?_; rintro _ w6 ⟨r, rfl, hP, hS⟩; have hn5 := unhide HND w5 (unhide HG).2.2.2.2.1 w6 (hS.mono (fun j _ e => by have := (unhide HG).2.2.2.1; have e : j = g ∨ j = h ∨ j = X := e; omega)); clear s0 s1 s2 s3 s4 s5 s6 s7 s8 s9 s10 s11 s12; have s0 := (hn5.all 0 _ rfl).1; have s1 := (hn5.all 1 _ rfl).1; have s2 := (hn5.all 2 _ rfl).1; have s3 := (hn5.all 3 _ rfl).1; have s4 := (hn5.all 4 _ rfl).1; have s5 := (hn5.all 5 _ rfl).1; have s6 := (hn5.all 6 _ rfl).1; have s7 := (hn5.all 7 _ rfl).1; have s8 := (hn5.all 8 _ rfl).1; have s9 := (hn5.all 9 _ rfl).1; have s10 := (hn5.all 10 _ rfl).1; have s11 := (hn5.all 11 _ rfl).1; have s12 := (hn5.all 12 _ rfl).1; have HGS := hide (And.intro hP hS); clear hP hS hn5))
    clear s0 s1 s2 s3 s4 s5 s6 s7 s8 s9 s10 s11 s12
    have hP := (unhide HGS).1
    have HBZ := hide (show Below w.heap.size w w6 from by
      have h1 := (unhide HG).2.2.2.1
      have h0 := (unhide HB3).size
      have hB5 := (unhide HB3).trans ((unhide HG).2.2.2.2.1.mono h0)
      exact hB5.trans ((unhide HGS).2.below hB5.size (fun j hj e => by have e : j = g ∨ j = h ∨ j = X := e; omega)))
    have HP := hide hP
    clear hP HIH HND HG HGS
    go_wp2_with fail
    refine bodyPost_ret (by simp [results, Tryz.results10, go_sem]; try rfl) rfl ?_
    exact ⟨unhide HBZ, .inr ⟨hb8, r, unhide HP, rfl⟩⟩
  · have hb8' : (m : Int) > 8 := by omega
    go_wp2_with fail
    refine bodyPost_ret (by simp [results, Tryz.results10, go_sem]; try rfl) rfl ?_
    exact ⟨unhide HB3, .inl ⟨by omega, rfl⟩⟩
section
variable {X R : Nat} {b1 : Option Addr} {m1 d1 : Nat} {b2 : Option Addr} {m2 d2 : Nat} {g h : Nat} {st cols : List Int}
theorem PvE.us {bar : (Nat → Int) → Nat → Nat → Prop} {e : Nat → Nat} {v : Nat} (h : PvE bar e v) : usE e v ≤ v := usE_small e (fun j hj => (h j hj).1)
theorem frAll_nb (hm : MayP (R : Int) (R : Int) st cols) (hb1 : m1 ≤ 17592186044000) (hb2 : m2 ≤ 17592186044000) : FrAll (BarN st cols) (fun _ => True) X R b1 m1 d1 b2 m2 d2 g h (some (.func (.func 93) #[] #[])) st cols :=
  fun e0 v cnt ls vs W hv hP hB hf hl hls hcn hA =>
    (cfree_nb X R vs b1 m1 d1 b2 m2 d2 g h cnt (cuE e0 v) ls st cols v v W hB hm hv hb1 hb2 (fun i _ => cuE_rng hP.us i) hv hls hcn hf).mono (fun e w' ⟨z, a, c, ls', k⟩ => by
      have hz := NumC.one k.num (cuE_nm e0 (show v ≤ R by omega)).num
      obtain rfl : z = usE e0 v := by omega
      exact ⟨a, c, ls', k.ret, k.sl, k.new, k.bru, k.le, k.chg, trivial⟩)
theorem frAll_st (hm : MayP (R : Int) (R : Int) st cols) (hb1 : m1 ≤ 17592186044000) (hb2 : m2 ≤ 17592186044000) : FrAll (BarP st cols) (fun _ => True) X R b1 m1 d1 b2 m2 d2 g h (some (.func (.func 102) #[] #[])) st cols :=
  fun e0 v cnt ls vs W hv hP hB hf hl hls hcn hA =>
    (cfree_star X R vs b1 m1 d1 b2 m2 d2 g h cnt (cuE e0 v) ls st cols v v W hB hm hv hb1 hb2 (fun i _ => cuE_rng hP.us i) hv hls hcn hf).mono (fun e w' ⟨z, a, c, ls', k⟩ => by
      have hz := NumC.one k.num (cuE_nm e0 (show v ≤ R by omega)).num
      obtain rfl : z = usE e0 v := by omega
      exact ⟨a, c, ls', k.ret, k.sl, k.new, k.bru, k.le, k.chg, trivial⟩)
theorem pve_prp (hm : MayP (R : Int) (R : Int) st cols) (hg : GraP st cols R R) {e : Nat → Nat} {v : Nat} (h : PvE (BarA st cols R) e v) : PrpC st cols R (cuE e v) := fun a b had h0 he => by
  have lt : ∀ i, 0 ≤ cuE e v i → i < v ∧ cuE e v i = (e i : Int) := fun i hi => by
    unfold cuE at hi ⊢
    by_cases k : i < v
    · rw [if_pos k]; exact ⟨k, rfl⟩
    · rw [if_neg k] at hi; omega
  obtain ⟨a1, a2⟩ := lt a h0
  obtain ⟨b1, b2⟩ := lt b (by omega)
  have key : ∀ x y, x < v → y < v → x < y → adG st cols R y x → e x = e y → False := fun x y hx hy hl ha hxy => (h y hy).2 (.inl ((barN_ad hm ha.1).2 ⟨x, ha, by unfold cuE; rw [if_pos hl, hxy]⟩))
  rcases Nat.lt_trichotomy a b with hl | hl | hl
  · exact key a b a1 b1 hl (adG.sy hg _ _ had) (by omega)
  · subst hl; exact adG.ir hg _ had
  · exact key b a b1 a1 hl had (by omega)
theorem frAll_ac (hm : MayP (R : Int) (R : Int) st cols) (hg : GraP st cols R R) (hb1 : m1 ≤ 17592186044000) (hb2 : m2 ≤ 17592186044000) : FrAll (BarA st cols R) (fun W => ∃ pf, RoF W X 16 pf) X R b1 m1 d1 b2 m2 d2 g h (some (.func (.func 104) #[] #[])) st cols :=
  fun e0 v cnt ls vs W hv hP hB hf hl hls hcn hA =>
    (cfree_ac X R vs b1 m1 d1 b2 m2 d2 g h cnt (cuE e0 v) ls st cols v v W hB hm hv hb1 hb2 (fun i _ => cuE_rng hP.us i) hv hls hcn hf hl hA hg (pve_prp hm hg hP)).mono (fun e w' ⟨z, a, c, ls', k⟩ => by
      have hz := NumC.one k.num (cuE_nm e0 (show v ≤ R by omega)).num
      obtain rfl : z = usE e0 v := by omega
      exact ⟨a, c, ls', k.ret, k.sl, k.new, k.bru, k.le, k.chg, k.arr⟩)
end
def cmpC (x y : Int) : Int := if x < y then -1 else if y < x then 1 else 0
set_option maxHeartbeats 400000 in
theorem nanC_int (x : Int) (w : World) : Calls Tryz.prog 137 #[.int .i64 x] w fun e w' => e = .returned (.bool false) ∧ w' = w := by
  have h : (x != x) = false := by simp
  go_enter Tryz.func137, Tryz.ntmps137
  go_wp2
  go_ret
  exact ⟨by simp, rfl⟩
set_option maxHeartbeats 1600000 in
theorem cmpC_int (x y : Int) (w : World) : Calls Tryz.prog 153 #[.int .i64 x, .int .i64 y] w fun e w' => e = .returned (.int .i64 (cmpC x y)) ∧ w' = w := by
  have key : ∀ z, cmpC x y = z → Calls Tryz.prog 153 #[.int .i64 x, .int .i64 y] w (fun e w' => e = .returned (.int .i64 z) ∧ w' = w) → Calls Tryz.prog 153 #[.int .i64 x, .int .i64 y] w (fun e w' => e = .returned (.int .i64 (cmpC x y)) ∧ w' = w) := fun z h k => by rw [h]; exact k
  by_cases h1 : x < y
  · refine key (-1) (by simp [cmpC, h1]) ?_
    clear key
    go_enter Tryz.func153, Tryz.ntmps153
    go_wp2_with fail
    refine (nanC_int x w).mono ?_
    rintro _ w1 ⟨rfl, rfl⟩
    go_wp2_with fail
    refine (nanC_int y w1).mono ?_
    rintro _ w2 ⟨rfl, rfl⟩
    go_wp2_with fail
    go_ret
    exact ⟨rfl, rfl⟩
  · by_cases h2 : y < x
    · refine key 1 (by simp [cmpC, h1, h2]) ?_
      clear key
      go_enter Tryz.func153, Tryz.ntmps153
      go_wp2_with fail
      refine (nanC_int x w).mono ?_
      rintro _ w1 ⟨rfl, rfl⟩
      go_wp2_with fail
      refine (nanC_int y w1).mono ?_
      rintro _ w2 ⟨rfl, rfl⟩
      go_wp2_with fail
      go_ret
      exact ⟨rfl, rfl⟩
    · refine key 0 (by simp [cmpC, h1, h2]) ?_
      clear key
      go_enter Tryz.func153, Tryz.ntmps153
      go_wp2_with fail
      refine (nanC_int x w).mono ?_
      rintro _ w1 ⟨rfl, rfl⟩
      go_wp2_with fail
      refine (nanC_int y w1).mono ?_
      rintro _ w2 ⟨rfl, rfl⟩
      go_wp2_with fail
      go_ret
      exact ⟨rfl, rfl⟩
set_option maxRecDepth 100000 in
set_option maxHeartbeats 4000000 in
theorem scmp_two (a1 a2 : Option Addr) (c1 c2 : Nat) (x1 y1 x2 y2 : Int) (w : World) (h1 : SlI w a1 2 c1 [x1, y1]) (h2 : SlI w a2 2 c2 [x2, y2]) :
    Calls Tryz.prog 133 #[.slice a1 2 c1, .slice a2 2 c2] w fun e w' => ∃ z, e = .returned (.int .i64 z) ∧ (z < 0 ↔ ltP x1 y1 x2 y2) ∧ w' = w := by
  obtain ⟨b1, o1, rfl, k1⟩ := h1.at (by omega)
  obtain ⟨b2, o2, rfl, k2⟩ := h2.at (by omega)
  have HK := hide (And.intro k1 k2)
  clear k1 k2 h1 h2
  go_enter Tryz.func133, Tryz.ntmps133
  go_wp2_with fail
  go_loopw [11, 5, 6, 7, 8] (fun iv _ _ _ _ wr => ∃ i : Nat, i ≤ 2 ∧ iv = .int .i64 (i : Int) ∧ (0 < i → x1 = x2) ∧ (1 < i → y1 = y2) ∧ wr = w) (fun iv _ _ _ _ _ => 2 - (intOf iv).toNat)
  case atStart => exact ⟨0, by omega, rfl, fun h => by omega, fun h => by omega, rfl⟩
  case round =>
    obtain ⟨i, hi, rfl, hE1, hE2, rfl⟩ := hrel
    by_cases hlt : i < 2
    · have hlt' : (i : Int) < 2 := by omega
      have hge' : ¬ (2 : Int) ≤ (i : Int) := by omega
      have sx := (unhide HK).1 i hlt
      have sy := (unhide HK).2 i hlt
      obtain ⟨x, hx⟩ : ∃ x, [x1, y1].getD i 0 = x := ⟨_, rfl⟩
      obtain ⟨y, hy⟩ : ∃ y, [x2, y2].getD i 0 = y := ⟨_, rfl⟩
      rw [hx] at sx
      rw [hy] at sy
      have HXY := hide (show (i = 0 ∧ x = x1 ∧ y = x2) ∨ (i = 1 ∧ x = y1 ∧ y = y2) from by
        have : i = 0 ∨ i = 1 := by omega
        rcases this with rfl | rfl
        · left; simpa using ⟨hx.symm, hy.symm⟩
        · right; simpa using ⟨hx.symm, hy.symm⟩)
      have HE := hide (And.intro hE1 hE2)
      have KC := hide (cmpC_int x y wr)
      clear hx hy hE1 hE2
      go_wp2_with fail
      refine (unhide KC).mono ?_
      rintro _ w2 ⟨rfl, hw⟩
      rw [hw]
      clear hw w2 KC
      by_cases hxy : x = y
      · have hz : cmpC x y = 0 := by unfold cmpC; split <;> (try split) <;> omega
        rw [hz]
        clear sx sy
        go_wp2_with fail
        refine ⟨⟨i + 1, by omega, by (first | rfl | go_num), fun _ => ?_, fun _ => ?_, (by first | rfl | trivial)⟩, by simp [intOf]; omega⟩
        · rcases unhide HXY with ⟨h1, h2, h3⟩ | ⟨h1, h2, h3⟩
          · omega
          · exact (unhide HE).1 (by omega)
        · rcases unhide HXY with ⟨h1, h2, h3⟩ | ⟨h1, h2, h3⟩ <;> omega
      · obtain ⟨z, hz⟩ : ∃ z, cmpC x y = z := ⟨_, rfl⟩
        have hz0 : z ≠ 0 := by rw [← hz]; unfold cmpC; split <;> (try split) <;> omega
        have HZ := hide (show z < 0 ↔ x < y by rw [← hz]; unfold cmpC; split <;> (try split) <;> omega)
        rw [hz]
        clear sx sy hz
        go_wp2_with fail
        go_ret
        refine ⟨z, rfl, (unhide HZ).trans ?_, rfl⟩
        unfold ltP
        rcases unhide HXY with ⟨h1, h2, h3⟩ | ⟨h1, h2, h3⟩
        · omega
        · have := (unhide HE).1 (by omega)
          omega
    · obtain rfl : i = 2 := by omega
      have e1 := hE1 (by omega)
      have e2 := hE2 (by omega)
      have hlt' : ¬ ((2 : Nat) : Int) < 2 := by omega
      have HE := hide (And.intro e1 e2)
      clear hE1 hE2 e1 e2
      go_wp2_with fail
      go_ret
      refine ⟨0, rfl, ?_, rfl⟩
      unfold ltP
      have := unhide HE
      omega
end Go.Proofs.YtgjokididdffhaaGreat
