/-
  COLOURS: what is painted, plain; brush.paint, of star colourings: contract.
-/
import Derived.Test.YtmlodfgpedoloaaGreatChd
import Derived.Test.YtmlodfgpedoloaaGreatCi7
import Derived.Test.YtmlodfgpedoloaaGreatCi1
import Derived.Test.YtmlodfgpedoloaaGreatCgd
namespace Go.Proofs.YtmlodfgpedoloaaGreat
open Go.RowKit Go.Deep
set_option linter.unusedVariables false

theorem grR_head {P : Nat → Nat → Prop} {u : Nat} : ∀ n, (grR P u n = [] ∧ ∀ j, j < n → ¬ P u j) ∨ (∃ y : Nat, (grR P u n).getD 0 0 = (y : Int) ∧ 0 < (grR P u n).length ∧ P u y ∧ ∀ j, j < y → ¬ P u j)
  | 0 => .inl ⟨rfl, fun j hj => absurd hj (Nat.not_lt_zero _)⟩
  | n + 1 => by
    rcases grR_head (P := P) (u := u) n with ⟨h1, h2⟩ | ⟨y, h1, h2, h3, h4⟩
    · by_cases c : P u n
      · right
        have ht : tb (P u n) = true := by simp [tb, c]
        refine ⟨n, ?_, ?_, c, h2⟩ <;> simp [grR, h1, ht]
      · left
        have ht : tb (P u n) = false := by simp [tb, c]
        refine ⟨by simp [grR, h1, ht], fun j hj => ?_⟩
        by_cases e : j = n
        · rw [e]; exact c
        · exact h2 j (by omega)
    · right
      refine ⟨y, ?_, ?_, h3, h4⟩
      · simp only [grR]
        rw [List.getD, List.getElem?_append_left h2]
        exact h1
      · simp only [grR, List.length_append]; omega
/-- The least colour that a thing may have. -/
structure LstP (st cols : List Int) (cs : Nat → Int) (v y : Nat) : Prop where
  may : ¬ BarP st cols cs v y
  bar : ∀ j, j < y → BarP st cols cs v j
theorem LstP.one {st cols : List Int} {cs : Nat → Int} {v y x : Nat} (h : LstP st cols cs v y) (k : LstP st cols cs v x) : y = x := by
  rcases Nat.lt_trichotomy y x with c | c | c
  · exact absurd (k.bar y c) h.may
  · exact c
  · exact absurd (h.bar x c) k.may
/-- A thing is given a colour. -/
def updC (cs : Nat → Int) (v y : Nat) : Nat → Int := fun i => if i = v then (y : Int) else cs i
/-- Things painted in turn. -/
def PntI (st cols xs : List Int) : Nat → (Nat → Int) → Prop
  | 0, cs => cs = fun _ => -1
  | k + 1, cs => ∃ cs0 y, PntI st cols xs k cs0 ∧ LstP st cols cs0 (xs.getD k 0).toNat y ∧ cs = updC cs0 (xs.getD k 0).toNat y
theorem PntI.one {st cols xs : List Int} : ∀ {k : Nat} {cs ds : Nat → Int}, PntI st cols xs k cs → PntI st cols xs k ds → cs = ds
  | 0, _, _, h, g => by unfold PntI at h g; rw [h, g]
  | k + 1, _, _, ⟨c, y, h1, h2, h3⟩, ⟨d, x, g1, g2, g3⟩ => by
    have e := PntI.one h1 g1
    subst e
    have e := h2.one g2
    subst e
    rw [h3, g3]
theorem PntI.rng {R n : Nat} {st cols xs : List Int} (hm : MayP (R : Int) (R : Int) st cols) (hx : ∀ i, i < n → 0 ≤ xs.getD i 0 ∧ xs.getD i 0 < (R : Int)) : ∀ {k : Nat} {cs : Nat → Int}, k ≤ n → PntI st cols xs k cs → ∀ i, -1 ≤ cs i ∧ cs i < (k : Int)
  | 0, cs, _, h, i => by unfold PntI at h; subst h; simp
  | k + 1, cs, hk, ⟨c, y, h1, h2, h3⟩, i => by
    have ih := PntI.rng hm hx (by omega) h1
    subst h3
    unfold updC
    split
    · cases y with
      | zero => omega
      | succ j =>
        obtain ⟨i', _, he⟩ := (h2.bar j (by omega)).used hm (by have := hx k (by omega); omega)
        have := ih i'
        omega
    · have := ih i
      omega
theorem FrP.head {w w' : World} {e : Ending} {X R : Nat} {vs : List Value} {b1 : Option Addr} {m1 d1 : Nat} {b2 : Option Addr} {m2 d2 g h cnt : Nat} {cs : Nat → Int} {st cols : List Int} {v z : Nat} {a : Option Addr} {c : Nat} {ls' : Nat → Int} (k : FrP w w' e X R vs b1 m1 d1 b2 m2 d2 g h cnt cs st cols v z a c ls') (hm : MayP (R : Int) (R : Int) st cols) (hv : v < R) (hc : ∀ i, i < R → -1 ≤ cs i ∧ cs i < (R : Int)) : ∃ y : Nat, (grR (fun _ j => ¬ BarP st cols cs v j) 0 (z + 1)).getD 0 0 = (y : Int) ∧ 0 < (grR (fun _ j => ¬ BarP st cols cs v j) 0 (z + 1)).length ∧ LstP st cols cs v y := by
  rcases grR_head (P := fun _ j => ¬ BarP st cols cs v j) (u := 0) (z + 1) with ⟨_, h2⟩ | ⟨y, h1, h2, h3, h4⟩
  · exfalso
    refine h2 z (by omega) (fun hb => ?_)
    obtain ⟨i, hi, he⟩ := hb.used hm hv
    have := (numC_rng k.num hc).2.2 i hi
    omega
  · exact ⟨y, h1, h2, h3, fun j hj => Classical.byContradiction (h4 j hj)⟩
theorem BrI.paint {W : World} {X R : Nat} {vs : List Value} {b1 : Option Addr} {m1 d1 : Nat} {b2 : Option Addr} {m2 d2 : Nat} {g h cnt : Nat} {cs ls : Nat → Int} {st cols : List Int} (k : BrI W X R vs b1 m1 d1 b2 m2 d2 g h cnt cs ls st cols) (v y : Nat) (hv : v < R) : BrI (W.setCell ⟨g, v, none⟩ (.int .i64 (y : Int))) X R vs b1 m1 d1 b2 m2 d2 g h cnt (updC cs v y) ls st cols := by
  have c : Chg (fun j => j = g) W (W.setCell ⟨g, v, none⟩ (.int .i64 (y : Int))) := Chg.of_set _ _ _ _ rfl
  exact ⟨k.box.chg c (fun e => k.ne.2.1 e.symm), k.v9, k.v10, k.v11, k.v12, k.v13, k.v14, k.v15, (k.col.put v _ hv).congr (fun i _ => by unfold updC; split <;> rfl), k.last.chg c (fun e => k.ne.1 e.symm), k.s1.chg c (fun z hz hne => (k.o1 z hz hne).2.1), k.s2.chg c (fun z hz hne => (k.o2 z hz hne).2.1), k.o1, k.o2, k.ne⟩
/-- What paint wants of free. -/
structure FhP (w w' : World) (e : Ending) (X R : Nat) (vs : List Value) (b1 : Option Addr) (m1 d1 : Nat) (b2 : Option Addr) (m2 d2 : Nat) (g h cnt : Nat) (cs : Nat → Int) (st cols : List Int) (v : Nat) (y b off m c : Nat) (ls' : Nat → Int) : Prop where
  ret : e = .returned (.slice (some ⟨b, off, none⟩) m c)
  pos : 0 < m
  cell : w'.cell? ⟨b, off, none⟩ = some (.int .i64 (y : Int))
  lst : LstP st cols cs v y
  bru : BrI w' X R (vs.set 14 (.int .i64 ((cnt + 1 : Nat) : Int))) b1 m1 d1 b2 m2 d2 g h (cnt + 1) cs ls' st cols
  le : ∀ j, j < R → ls' j ≤ ((cnt + 1 : Nat) : Int)
  chg : Chg (fun j => j = h ∨ j = X) w w'
theorem cfree_head (X R : Nat) (vs : List Value) (b1 : Option Addr) (m1 d1 : Nat) (b2 : Option Addr) (m2 d2 : Nat) (g h cnt : Nat) (cs ls : Nat → Int) (st cols : List Int) (v k : Nat) (w : World) (hB : BrI w X R vs b1 m1 d1 b2 m2 d2 g h cnt cs ls st cols) (hm : MayP (R : Int) (R : Int) st cols) (hv : v < R) (hb1 : m1 ≤ 17592186044000) (hb2 : m2 ≤ 17592186044000) (hcs : ∀ i, i < R → -1 ≤ cs i ∧ cs i < (k : Int)) (hk : k < R) (hls : ∀ j, j < R → ls j ≤ (cnt : Int)) (hcn : cnt ≤ 1000000) (hf : vs[2]? = some (.func (.func 63) #[] #[])) :
    Calls Tryz.prog 77 #[.pointer (some ⟨X, 0, none⟩), .int .i64 (v : Int)] w fun e w' => ∃ y b off m c ls', FhP w w' e X R vs b1 m1 d1 b2 m2 d2 g h cnt cs st cols v y b off m c ls' := by
  refine (cfree_star X R vs b1 m1 d1 b2 m2 d2 g h cnt cs ls st cols v k w hB hm hv hb1 hb2 hcs hk hls hcn hf).mono ?_
  rintro e w' ⟨z, a, c, ls', hF⟩
  obtain ⟨y, h1, h2, h3⟩ := hF.head hm hv (fun i hi => ⟨(hcs i hi).1, by have := (hcs i hi).2; omega⟩)
  obtain ⟨b, off, ea, hc⟩ := hF.sl.at h2
  have h0 := hc 0 h2
  rw [h1, Nat.add_zero] at h0
  exact ⟨y, b, off, _, c, ls', by rw [hF.ret, ea], h2, h0, h3, hF.bru, hF.le, hF.chg⟩
/-- What paint answers. -/
structure PaA (w w' : World) (e : Ending) (X R : Nat) (g h : Nat) (st cols xs : List Int) (n : Nat) (cs : Nat → Int) : Prop where
  ret : e = .returned (.slice (some ⟨g, 0, none⟩) R R)
  pnt : PntI st cols xs n cs
  row : RoV w' g R (fun i => .int .i64 (cs i))
  chg : Chg (fun j => j = g ∨ j = h ∨ j = X) w w'
set_option maxRecDepth 100000 in
set_option maxHeartbeats 16000000 in
/-- colour.brush.paint, of star colourings. -/
theorem cpaint_star (X R : Nat) (vs : List Value) (b1 : Option Addr) (m1 d1 : Nat) (b2 : Option Addr) (m2 d2 : Nat) (g h : Nat) (ls : Nat → Int) (st cols : List Int) (a : Option Addr) (n c : Nat) (xs : List Int) (w : World) (hB : BrI w X R vs b1 m1 d1 b2 m2 d2 g h 1 (fun _ => -1) ls st cols) (hm : MayP (R : Int) (R : Int) st cols) (hb1 : m1 ≤ 17592186044000) (hb2 : m2 ≤ 17592186044000) (hls : ∀ j, j < R → ls j ≤ 1) (hf : vs[2]? = some (.func (.func 63) #[] #[])) (hx : SlI w a n c xs) (hn : n ≤ R) (hrg : ∀ i, i < n → 0 ≤ xs.getD i 0 ∧ xs.getD i 0 < (R : Int)) (hap : ∀ z, a = some z → xs ≠ [] → z.block ≠ g ∧ z.block ≠ h ∧ z.block ≠ X) :
    Calls Tryz.prog 47 #[.pointer (some ⟨X, 0, none⟩), .slice a n c] w fun e w' => ∃ cs, PaA w w' e X R g h st cols xs n cs := by
  have hR8 : R ≤ 128 := by have := hm.head.fit; omega
  have HX := hide hx
  have HM := hide hm
  have HRG := hide hrg
  have HAP := hide hap
  have H0 := hide (And.intro hB (And.intro hls hf))
  clear hB hm hls hf hx hrg hap
  go_enter Tryz.func47, Tryz.ntmps47
  go_wp2_with fail
  go_loopw [9, 6] (fun kv _ wr => ∃ k : Nat, k ≤ n ∧ kv = .int .i64 (k : Int) ∧ Hid (∃ cs ls vs', BrI wr X R vs' b1 m1 d1 b2 m2 d2 g h (1 + k) cs ls st cols ∧ (∀ j, j < R → ls j ≤ ((1 + k : Nat) : Int)) ∧ vs'[2]? = some (.func (.func 63) #[] #[]) ∧ PntI st cols xs k cs ∧ Chg (fun j => j = g ∨ j = h ∨ j = X) w wr)) (fun kv _ _ => n - (intOf kv).toNat)
  case atStart => exact ⟨0, Nat.zero_le _, rfl, hide ⟨fun _ => -1, ls, vs, (unhide H0).1, (unhide H0).2.1, (unhide H0).2.2, rfl, Chg.refl _ _⟩⟩
  case round =>
    obtain ⟨k, hk, rfl, HK⟩ := hrel
    obtain ⟨cs, ls2, vs2, hbr, hle, hf2, hpn, hch⟩ := unhide HK
    by_cases hlt : k < n
    · have hlt' : (k : Int) < (n : Int) := by omega
      obtain ⟨bb, off, e1, hc⟩ := ((unhide HX).chg hch (fun z hz hne e => by have := unhide HAP z hz hne; omega)).at (by omega)
      subst e1
      have sk := hc k hlt
      have hg := unhide HRG k hlt
      obtain ⟨v, hv⟩ : ∃ v : Nat, xs.getD k 0 = (v : Int) := ⟨(xs.getD k 0).toNat, by omega⟩
      rw [hv] at sk hg
      have hvR : v < R := by omega
      have hvR' : (v : Int) < (R : Int) := by omega
      have hrng := PntI.rng (unhide HM) (unhide HRG) hk hpn
      have q13 := (hbr.box.all 13 _ hbr.v13).1
      have KF := hide (fun W (b : Below wr.heap.size wr W) => cfree_head X R vs2 b1 m1 d1 b2 m2 d2 g h (1 + k) cs ls2 st cols v k W (hbr.below b) (unhide HM) hvR hb1 hb2 (fun i _ => hrng i) (by omega) hle (by omega) hf2)
      have HST := hide (fun y (hl : LstP st cols cs v y) => (show PntI st cols xs (k + 1) (updC cs v y) from ⟨cs, y, hpn, by rw [hv]; exact hl, by rw [hv]; rfl⟩))
      have HCh := hide hch
      have HF2 := hide hf2
      have hgX := hbr.ne.2.1
      clear hc hv hg hrng hbr hle hf2 hpn hch HK
      go_wp2_with fail
      go_region_with
        (go_at_call 77; refine (unhide KF _ (by first | exact Below.refl _ _ | exact (Below.refl _ _).drew)).mono ?_; rintro _ w4 ⟨y, b4, o4, m4, c4, ls4, hF⟩; have e4 := hF.ret; subst e4; have hp4 : (0 : Int) < (m4 : Int) := (by have := hF.pos; omega); have hc4 := hF.cell; have k0 := (hF.bru.box.all 13 _ hF.bru.v13).1; have hcv := (hF.bru.col v hvR).1; have hfv := (hF.bru.col v hvR).2; have k1 := (Chg.of_set (S := fun j => j = g) w4 g v (.int .i64 (y : Int)) rfl).cell (b := X) (i := 13) (fun e => hgX e.symm) k0; have HF := hide hF; clear hF)
      all_goals
        have HN := hide (show ∃ cs ls vs', BrI (w4.setCell ⟨g, v, none⟩ (.int .i64 (y : Int))) X R vs' b1 m1 d1 b2 m2 d2 g h (1 + (k + 1)) cs ls st cols ∧ (∀ j, j < R → ls j ≤ ((1 + (k + 1) : Nat) : Int)) ∧ vs'[2]? = some (.func (.func 63) #[] #[]) ∧ PntI st cols xs (k + 1) cs ∧ Chg (fun j => j = g ∨ j = h ∨ j = X) w (w4.setCell ⟨g, v, none⟩ (.int .i64 (y : Int))) from
          ⟨updC cs v y, ls4, _, (show BrI _ X R _ b1 m1 d1 b2 m2 d2 g h (1 + k + 1) _ _ _ _ from (unhide HF).bru.paint v y hvR), (unhide HF).le, by rw [List.getElem?_set_ne (by omega)]; exact unhide HF2, unhide HST y (unhide HF).lst, (unhide HCh).trans (Chg.trans (by first | exact (unhide HF).chg.mono (fun j _ e => .inr e) | exact (Chg.of_drew _).trans ((unhide HF).chg.mono (fun j _ e => .inr e))) (Chg.of_set _ _ _ _ (.inl rfl)))⟩)
        clear HF k0 k1 hcv hfv hc4 hp4
        go_wp2_with fail
        exact ⟨⟨k + 1, by omega, by (first | rfl | go_num), HN⟩, by simp [intOf]; omega⟩
    · obtain rfl : k = n := by omega
      have hlt' : ¬ (k : Int) < (k : Int) := by omega
      have q13 := (hbr.box.all 13 _ hbr.v13).1
      have HA := hide (show PaA w wr (.returned (.slice (some ⟨g, 0, none⟩) R R)) X R g h st cols xs k cs from ⟨rfl, hpn, hbr.col, hch⟩)
      clear hbr hle hf2 hpn hch HK
      go_wp2_with fail
      try go_ret
      exact ⟨cs, unhide HA⟩
end Go.Proofs.YtmlodfgpedoloaaGreat

namespace Go.Proofs.YtmlodfgpedoloaaGreat
open Go.RowKit Go.Deep
set_option linter.unusedVariables false

set_option maxRecDepth 100000 in
set_option maxHeartbeats 16000000 in
/-- colour.taskOf, of star colourings of a graph. -/
theorem ctask_star (R : Nat) (a1 a2 : Option Addr) (n1 c1 n2 c2 : Nat) (st cols : List Int) (w : World) (h1 : SlI w a1 n1 c1 st) (h2 : SlI w a2 n2 c2 cols) (hb1 : n1 ≤ 17592186044000) (hb2 : n2 ≤ 17592186044000) (hm : MayP (R : Int) (R : Int) st cols) (hg : GraP st cols R R) :
    Calls Tryz.prog 13 #[.int .i64 4, patV (R : Int) (R : Int) a1 n1 c1 a2 n2 c2] w fun e w' => e = .returned (.tuple #[.agg #[(.func (.func 52) #[] #[]), (.func (.func 62) #[] #[]), (.func (.func 63) #[] #[]), (.func (.func 55) #[] #[]), (.bool true), .int .i64 (R : Int), .int .i64 (R : Int), .slice a1 n1 c1, .slice a2 n2 c2, .int .i64 (R : Int), .int .i64 (R : Int), .slice a1 n1 c1, .slice a2 n2 c2], .int .i64 0]) ∧ Below w.heap.size w w' := by
  obtain ⟨wb, hwb⟩ : ∃ x, w.alloc (.cells #[.int .i64 (R : Int), .int .i64 (R : Int), .slice a1 n1 c1, .slice a2 n2 c2] 25) = x := ⟨_, rfl⟩
  have bb : Below w.heap.size w wb := by rw [← hwb]; exact (Below.refl _ _).alloc (Nat.le_refl _) _
  have hT := BoxP.made w #[.int .i64 (R : Int), .int .i64 (R : Int), .slice a1 n1 c1, .slice a2 n2 c2] 25
  rw [hwb] at hT
  have hO0 := BoxP.made wb #[Value.nilFunc, Value.nilFunc, Value.nilFunc, Value.nilFunc, .bool false, .int .i64 0, .int .i64 0, .slice none 0 0, .slice none 0 0, .int .i64 0, .int .i64 0, .slice none 0 0, .slice none 0 0] 57
  obtain ⟨wo, hwo⟩ : ∃ x, wb.alloc (.cells #[Value.nilFunc, Value.nilFunc, Value.nilFunc, Value.nilFunc, .bool false, .int .i64 0, .int .i64 0, .slice none 0 0, .slice none 0 0, .int .i64 0, .int .i64 0, .slice none 0 0, .slice none 0 0] 57) = x := ⟨_, rfl⟩
  have bo : Below wb.heap.size wb wo := by rw [← hwo]; exact (Below.refl _ _).alloc (Nat.le_refl _) _
  rw [hwo] at hO0
  have hT1 := hT.below bo
  have p0 := (hT1.all 0 _ rfl).1
  have p1 := (hT1.all 1 _ rfl).1
  have p2 := (hT1.all 2 _ rfl).1
  have p3 := (hT1.all 3 _ rfl).1
  have bw := bb.trans (bo.mono bb.size)
  have KM := hide (smay_any (R : Int) (R : Int) a1 a2 n1 c1 n2 c2 st cols wo (h1.below bw) (h2.below bw) (by omega) (by omega))
  unfold patV at KM
  have HT := hide hT1
  have HO := hide hO0
  have HB := hide bw
  have HWB := hide bb.size
  have HS := hide (And.intro h1 h2)
  have HM := hide hm
  have HG := hide hg
  have HTQ := hide (show TruQ true (MayP (R : Int) (R : Int) st cols) from ⟨fun _ => hm, fun _ => rfl⟩)
  clear hT hT1 hO0 bb bo bw h1 h2 hm hg
  unfold patV
  go_enter Tryz.func13, Tryz.ntmps13
  go_wp2_with fail
  refine (unhide KM).mono ?_
  intro e w2 hq
  obtain ⟨rfl, b2⟩ := hq.known (unhide HTQ)
  have hT2 := (unhide HT).below b2
  have HT2 := hide hT2
  have HO2 := hide ((unhide HO).below b2)
  have HB2 := hide ((unhide HB).trans (b2.mono (unhide HB).size))
  clear hq KM b2 hT2 p0 p1 p2 p3
  go_wp2_with fail
  refine (crules_star w2).mono ?_
  rintro _ w3 ⟨rfl, b3⟩
  try dsimp only
  repeat ((fail_if_success (with_reducible (show Code.wp _ _ _ _ (World.alloc w3 (Obj.cells #[_, _, _, _, .bool true] _))))); (first | go_values | go_skip | go_guarded | go_step | go_upon | go_back))
  have hR := BoxP.made w3 #[(.func (.func 52) #[] #[]), (.func (.func 62) #[] #[]), (.func (.func 63) #[] #[]), (.func (.func 55) #[] #[]), (.bool true)] 55
  have br : Below w3.heap.size w3 (w3.alloc (.cells #[(.func (.func 52) #[] #[]), (.func (.func 62) #[] #[]), (.func (.func 63) #[] #[]), (.func (.func 55) #[] #[]), (.bool true)] 55)) := (Below.refl _ _).alloc (Nat.le_refl _) _
  have hT3 := ((unhide HT2).below b3).below br
  have HO3 := hide (((unhide HO2).below b3).below br)
  have HB3 := hide (((unhide HB2).trans (b3.mono (unhide HB2).size)).trans (br.mono (Nat.le_trans (unhide HB2).size b3.size)))
  clear b3 br
  generalize w3.alloc (.cells #[(.func (.func 52) #[] #[]), (.func (.func 62) #[] #[]), (.func (.func 63) #[] #[]), (.func (.func 55) #[] #[]), (.bool true)] 55) = wr at *
  have s0 := (hR.all 0 _ rfl).1
  have q0 := (hT3.all 0 _ rfl).1
  have q1 := (hT3.all 1 _ rfl).1
  have q2 := (hT3.all 2 _ rfl).1
  have q3 := (hT3.all 3 _ rfl).1
  have HR := hide hR
  have HT3 := hide hT3
  clear hR hT3
  go_wp2_with fail
  have KI := hide (citself_yes R R a1 a2 n1 c1 n2 c2 st cols wr ((unhide HS).1.below (unhide HB3)) ((unhide HS).2.below (unhide HB3)) hb1 hb2 (unhide HM) (unhide HG))
  unfold patV at KI
  refine (unhide KI).mono ?_
  rintro _ w4 ⟨rfl, b4⟩
  have hR4 := (unhide HR).below b4
  have hT4 := (unhide HT3).below b4
  have hO4 := (unhide HO3).below b4
  have bw4 := (unhide HB3).trans (b4.mono (unhide HB3).size)
  clear KI b4 s0 q0 q1 q2 q3
  try dsimp only
  repeat ((fail_if_success (with_reducible (show Code.wp _ _ _ _ (World.alloc w4 (Obj.cells #[_, _, _, .slice a2 n2 c2] _))))); (first | go_values | go_skip | go_guarded | go_step | go_upon | go_back))
  have hG := BoxP.made w4 #[.int .i64 (R : Int), .int .i64 (R : Int), .slice a1 n1 c1, .slice a2 n2 c2] 25
  have bg : Below w4.heap.size w4 (w4.alloc (.cells #[.int .i64 (R : Int), .int .i64 (R : Int), .slice a1 n1 c1, .slice a2 n2 c2] 25)) := (Below.refl _ _).alloc (Nat.le_refl _) _
  have hR5 := hR4.below bg
  have hT5 := hT4.below bg
  have hO5 := hO4.below bg
  have bw5 := bw4.trans (bg.mono bw4.size)
  clear bg bw4 hR4 hT4 hO4
  generalize w4.alloc (.cells #[.int .i64 (R : Int), .int .i64 (R : Int), .slice a1 n1 c1, .slice a2 n2 c2] 25) = wg at *
  have s0 := (hR5.all 0 _ rfl).1
  have s1 := (hR5.all 1 _ rfl).1
  have s2 := (hR5.all 2 _ rfl).1
  have s3 := (hR5.all 3 _ rfl).1
  have s4 := (hR5.all 4 _ rfl).1
  have q0 := (hT5.all 0 _ rfl).1
  have q1 := (hT5.all 1 _ rfl).1
  have q2 := (hT5.all 2 _ rfl).1
  have q3 := (hT5.all 3 _ rfl).1
  have g0 := (hG.all 0 _ rfl).1
  have g1 := (hG.all 1 _ rfl).1
  have g2 := (hG.all 2 _ rfl).1
  have g3 := (hG.all 3 _ rfl).1
  have o0 := (hO5.all 0 _ rfl).1
  have r0 := (hO5.all 0 _ rfl).2
  have o1 := (hO5.all 1 _ rfl).1
  have r1 := (hO5.all 1 _ rfl).2
  have o2 := (hO5.all 2 _ rfl).1
  have r2 := (hO5.all 2 _ rfl).2
  have o3 := (hO5.all 3 _ rfl).1
  have r3 := (hO5.all 3 _ rfl).2
  have o4 := (hO5.all 4 _ rfl).1
  have r4 := (hO5.all 4 _ rfl).2
  have o5 := (hO5.all 5 _ rfl).1
  have r5 := (hO5.all 5 _ rfl).2
  have o6 := (hO5.all 6 _ rfl).1
  have r6 := (hO5.all 6 _ rfl).2
  have o7 := (hO5.all 7 _ rfl).1
  have r7 := (hO5.all 7 _ rfl).2
  have o8 := (hO5.all 8 _ rfl).1
  have r8 := (hO5.all 8 _ rfl).2
  have o9 := (hO5.all 9 _ rfl).1
  have r9 := (hO5.all 9 _ rfl).2
  have o10 := (hO5.all 10 _ rfl).1
  have r10 := (hO5.all 10 _ rfl).2
  have o11 := (hO5.all 11 _ rfl).1
  have r11 := (hO5.all 11 _ rfl).2
  have o12 := (hO5.all 12 _ rfl).1
  have r12 := (hO5.all 12 _ rfl).2
  have HO5 := hide hO5
  have HB5 := hide bw5
  clear hO5 bw5 hG hR5 hT5
  go_wp2_with fail
  have hf := ((((((((((((((unhide HO5).put 0 (.func (.func 52) #[] #[])).put 1 (.func (.func 62) #[] #[])).put 2 (.func (.func 63) #[] #[])).put 3 (.func (.func 55) #[] #[])).put 4 (.bool true)).put 5 (.int .i64 (R : Int))).put 6 (.int .i64 (R : Int))).put 7 (.slice a1 n1 c1)).put 8 (.slice a2 n2 c2)).put 9 (.int .i64 (R : Int))).put 10 (.int .i64 (R : Int))).put 11 (.slice a1 n1 c1)).put 12 (.slice a2 n2 c2))
  have t0 := (hf.all 0 _ rfl).1
  have t1 := (hf.all 1 _ rfl).1
  have t2 := (hf.all 2 _ rfl).1
  have t3 := (hf.all 3 _ rfl).1
  have t4 := (hf.all 4 _ rfl).1
  have t5 := (hf.all 5 _ rfl).1
  have t6 := (hf.all 6 _ rfl).1
  have t7 := (hf.all 7 _ rfl).1
  have t8 := (hf.all 8 _ rfl).1
  have t9 := (hf.all 9 _ rfl).1
  have t10 := (hf.all 10 _ rfl).1
  have t11 := (hf.all 11 _ rfl).1
  have t12 := (hf.all 12 _ rfl).1
  have cc : Chg (fun j => j = wb.heap.size) wg (((((((((((((wg.setCell ⟨wb.heap.size, 0, none⟩ (.func (.func 52) #[] #[])).setCell ⟨wb.heap.size, 1, none⟩ (.func (.func 62) #[] #[])).setCell ⟨wb.heap.size, 2, none⟩ (.func (.func 63) #[] #[])).setCell ⟨wb.heap.size, 3, none⟩ (.func (.func 55) #[] #[])).setCell ⟨wb.heap.size, 4, none⟩ (.bool true)).setCell ⟨wb.heap.size, 5, none⟩ (.int .i64 (R : Int))).setCell ⟨wb.heap.size, 6, none⟩ (.int .i64 (R : Int))).setCell ⟨wb.heap.size, 7, none⟩ (.slice a1 n1 c1)).setCell ⟨wb.heap.size, 8, none⟩ (.slice a2 n2 c2)).setCell ⟨wb.heap.size, 9, none⟩ (.int .i64 (R : Int))).setCell ⟨wb.heap.size, 10, none⟩ (.int .i64 (R : Int))).setCell ⟨wb.heap.size, 11, none⟩ (.slice a1 n1 c1)).setCell ⟨wb.heap.size, 12, none⟩ (.slice a2 n2 c2)) := (((((((((((((Chg.of_set (S := fun j => j = wb.heap.size) _ _ _ _ rfl).trans (Chg.of_set (S := fun j => j = wb.heap.size) _ _ _ _ rfl)).trans (Chg.of_set (S := fun j => j = wb.heap.size) _ _ _ _ rfl)).trans (Chg.of_set (S := fun j => j = wb.heap.size) _ _ _ _ rfl)).trans (Chg.of_set (S := fun j => j = wb.heap.size) _ _ _ _ rfl)).trans (Chg.of_set (S := fun j => j = wb.heap.size) _ _ _ _ rfl)).trans (Chg.of_set (S := fun j => j = wb.heap.size) _ _ _ _ rfl)).trans (Chg.of_set (S := fun j => j = wb.heap.size) _ _ _ _ rfl)).trans (Chg.of_set (S := fun j => j = wb.heap.size) _ _ _ _ rfl)).trans (Chg.of_set (S := fun j => j = wb.heap.size) _ _ _ _ rfl)).trans (Chg.of_set (S := fun j => j = wb.heap.size) _ _ _ _ rfl)).trans (Chg.of_set (S := fun j => j = wb.heap.size) _ _ _ _ rfl)).trans (Chg.of_set (S := fun j => j = wb.heap.size) _ _ _ _ rfl))
  generalize (((((((((((((wg.setCell ⟨wb.heap.size, 0, none⟩ (.func (.func 52) #[] #[])).setCell ⟨wb.heap.size, 1, none⟩ (.func (.func 62) #[] #[])).setCell ⟨wb.heap.size, 2, none⟩ (.func (.func 63) #[] #[])).setCell ⟨wb.heap.size, 3, none⟩ (.func (.func 55) #[] #[])).setCell ⟨wb.heap.size, 4, none⟩ (.bool true)).setCell ⟨wb.heap.size, 5, none⟩ (.int .i64 (R : Int))).setCell ⟨wb.heap.size, 6, none⟩ (.int .i64 (R : Int))).setCell ⟨wb.heap.size, 7, none⟩ (.slice a1 n1 c1)).setCell ⟨wb.heap.size, 8, none⟩ (.slice a2 n2 c2)).setCell ⟨wb.heap.size, 9, none⟩ (.int .i64 (R : Int))).setCell ⟨wb.heap.size, 10, none⟩ (.int .i64 (R : Int))).setCell ⟨wb.heap.size, 11, none⟩ (.slice a1 n1 c1)).setCell ⟨wb.heap.size, 12, none⟩ (.slice a2 n2 c2)) = wf at *
  refine bodyPost_ret (by simp [results, Tryz.results13, go_sem, t0, t1, t2, t3, t4, t5, t6, t7, t8, t9, t10, t11, t12]; try rfl) rfl ?_
  exact ⟨rfl, (unhide HB5).trans (cc.below (unhide HB5).size (fun j hj e => by have := unhide HWB; omega))⟩
end Go.Proofs.YtmlodfgpedoloaaGreat
