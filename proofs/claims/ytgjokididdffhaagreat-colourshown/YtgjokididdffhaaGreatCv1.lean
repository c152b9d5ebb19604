/- Che -/
import Derived.Test.YtgjokididdffhaaGreatCh4
import Derived.Test.YtgjokididdffhaaGreatCxd
import Derived.Test.YtgjokididdffhaaGreatCh9
import Derived.Lib.SlicesCompact
namespace Go.Proofs.YtgjokididdffhaaGreat
open Go.RowKit Go.Deep
set_option linter.unusedVariables false
theorem grR_head {P : Nat → Nat → Prop} {u : Nat} : ∀ n, (grR P u n = [] ∧ ∀ j, j < n → ¬ P u j) ∨ (∃ y : Nat, (grR P u n).getD 0 0 = (y : Int) ∧ 0 < (grR P u n).length ∧ P u y ∧ ∀ j, j < y → ¬ P u j)
  | 0 => .inl ⟨rfl, fun j hj => absurd hj (Nat.not_lt_zero _)⟩
  | n + 1 => by
    rcases grR_head (P := P) (u := u) n with ⟨h1, h2⟩ | ⟨y, h1, h2, h3, h4⟩
    · by_cases c : P u n
      · right
        have ht : tb (P u n) = true := by simp [tb, c]
        refine ⟨n, ?_, ?_, c, h2⟩ <;> simp [grR, h1, ht]
      · left
        have ht : tb (P u n) = false := by simp [tb, c]
        refine ⟨by simp [grR, h1, ht], fun j hj => ?_⟩
        by_cases e : j = n
        · rw [e]; exact c
        · exact h2 j (by omega)
    · right
      refine ⟨y, ?_, ?_, h3, h4⟩
      · simp only [grR]
        rw [List.getD, List.getElem?_append_left h2]
        exact h1
      · simp only [grR, List.length_append]; omega
structure LstP (st cols : List Int) (cs : Nat → Int) (v y : Nat) : Prop where
  may : ¬ BarP st cols cs v y
  bar : ∀ j, j < y → BarP st cols cs v j
theorem LstP.one {st cols : List Int} {cs : Nat → Int} {v y x : Nat} (h : LstP st cols cs v y) (k : LstP st cols cs v x) : y = x := by
  rcases Nat.lt_trichotomy y x with c | c | c
  · exact absurd (k.bar y c) h.may
  · exact c
  · exact absurd (h.bar x c) k.may
def updC (cs : Nat → Int) (v y : Nat) : Nat → Int := fun i => if i = v then (y : Int) else cs i
def PntI (st cols xs : List Int) : Nat → (Nat → Int) → Prop
  | 0, cs => cs = fun _ => -1
  | k + 1, cs => ∃ cs0 y, PntI st cols xs k cs0 ∧ LstP st cols cs0 (xs.getD k 0).toNat y ∧ cs = updC cs0 (xs.getD k 0).toNat y
theorem PntI.one {st cols xs : List Int} : ∀ {k : Nat} {cs ds : Nat → Int}, PntI st cols xs k cs → PntI st cols xs k ds → cs = ds
  | 0, _, _, h, g => by unfold PntI at h g; rw [h, g]
  | k + 1, _, _, ⟨c, y, h1, h2, h3⟩, ⟨d, x, g1, g2, g3⟩ => by
    have e := PntI.one h1 g1
    subst e
    have e := h2.one g2
    subst e
    rw [h3, g3]
theorem PntI.rng {R n : Nat} {st cols xs : List Int} (hm : MayP (R : Int) (R : Int) st cols) (hx : ∀ i, i < n → 0 ≤ xs.getD i 0 ∧ xs.getD i 0 < (R : Int)) : ∀ {k : Nat} {cs : Nat → Int}, k ≤ n → PntI st cols xs k cs → ∀ i, -1 ≤ cs i ∧ cs i < (k : Int)
  | 0, cs, _, h, i => by unfold PntI at h; subst h; simp
  | k + 1, cs, hk, ⟨c, y, h1, h2, h3⟩, i => by
    have ih := PntI.rng hm hx (by omega) h1
    subst h3
    unfold updC
    split
    · cases y with
      | zero => omega
      | succ j =>
        obtain ⟨i', _, he⟩ := (h2.bar j (by omega)).used hm (by have := hx k (by omega); omega)
        have := ih i'
        omega
    · have := ih i
      omega
theorem FrP.head {w w' : World} {e : Ending} {X R : Nat} {vs : List Value} {b1 : Option Addr} {m1 d1 : Nat} {b2 : Option Addr} {m2 d2 g h cnt : Nat} {cs : Nat → Int} {st cols : List Int} {v z : Nat} {a : Option Addr} {c : Nat} {ls' : Nat → Int} (k : FrP w w' e X R vs b1 m1 d1 b2 m2 d2 g h cnt cs st cols v z a c ls') (hm : MayP (R : Int) (R : Int) st cols) (hv : v < R) (hc : ∀ i, i < R → -1 ≤ cs i ∧ cs i < (R : Int)) : ∃ y : Nat, (grR (fun _ j => ¬ BarP st cols cs v j) 0 (z + 1)).getD 0 0 = (y : Int) ∧ 0 < (grR (fun _ j => ¬ BarP st cols cs v j) 0 (z + 1)).length ∧ LstP st cols cs v y := by
  rcases grR_head (P := fun _ j => ¬ BarP st cols cs v j) (u := 0) (z + 1) with ⟨_, h2⟩ | ⟨y, h1, h2, h3, h4⟩
  · exfalso
    refine h2 z (by omega) (fun hb => ?_)
    obtain ⟨i, hi, he⟩ := hb.used hm hv
    have := (numC_rng k.num hc).2.2 i hi
    omega
  · exact ⟨y, h1, h2, h3, fun j hj => Classical.byContradiction (h4 j hj)⟩
theorem BrI.paint {W : World} {X R : Nat} {vs : List Value} {b1 : Option Addr} {m1 d1 : Nat} {b2 : Option Addr} {m2 d2 : Nat} {g h cnt : Nat} {cs ls : Nat → Int} {st cols : List Int} (k : BrI W X R vs b1 m1 d1 b2 m2 d2 g h cnt cs ls st cols) (v y : Nat) (hv : v < R) : BrI (W.setCell ⟨g, v, none⟩ (.int .i64 (y : Int))) X R vs b1 m1 d1 b2 m2 d2 g h cnt (updC cs v y) ls st cols := by
  have c : Chg (fun j => j = g) W (W.setCell ⟨g, v, none⟩ (.int .i64 (y : Int))) := Chg.of_set _ _ _ _ rfl
  exact ⟨k.box.chg c (fun e => k.ne.2.1 e.symm), k.v9, k.v10, k.v11, k.v12, k.v13, k.v14, k.v15, (k.col.put v _ hv).congr (fun i _ => by unfold updC; split <;> rfl), k.last.chg c (fun e => k.ne.1 e.symm), k.s1.chg c (fun z hz hne => (k.o1 z hz hne).2.1), k.s2.chg c (fun z hz hne => (k.o2 z hz hne).2.1), k.o1, k.o2, k.ne⟩
structure FhP (w w' : World) (e : Ending) (X R : Nat) (vs : List Value) (b1 : Option Addr) (m1 d1 : Nat) (b2 : Option Addr) (m2 d2 : Nat) (g h cnt : Nat) (cs : Nat → Int) (st cols : List Int) (v : Nat) (y b off m c : Nat) (ls' : Nat → Int) : Prop where
  ret : e = .returned (.slice (some ⟨b, off, none⟩) m c)
  pos : 0 < m
  cell : w'.cell? ⟨b, off, none⟩ = some (.int .i64 (y : Int))
  lst : LstP st cols cs v y
  bru : BrI w' X R (vs.set 14 (.int .i64 ((cnt + 1 : Nat) : Int))) b1 m1 d1 b2 m2 d2 g h (cnt + 1) cs ls' st cols
  le : ∀ j, j < R → ls' j ≤ ((cnt + 1 : Nat) : Int)
  chg : Chg (fun j => j = h ∨ j = X) w w'
theorem cfree_head (X R : Nat) (vs : List Value) (b1 : Option Addr) (m1 d1 : Nat) (b2 : Option Addr) (m2 d2 : Nat) (g h cnt : Nat) (cs ls : Nat → Int) (st cols : List Int) (v k : Nat) (w : World) (hB : BrI w X R vs b1 m1 d1 b2 m2 d2 g h cnt cs ls st cols) (hm : MayP (R : Int) (R : Int) st cols) (hv : v < R) (hb1 : m1 ≤ 17592186044000) (hb2 : m2 ≤ 17592186044000) (hcs : ∀ i, i < R → -1 ≤ cs i ∧ cs i < (k : Int)) (hk : k < R) (hls : ∀ j, j < R → ls j ≤ (cnt : Int)) (hcn : cnt ≤ 1000000) (hf : vs[2]? = some (.func (.func 102) #[] #[])) :
    Calls Tryz.prog 66 #[.pointer (some ⟨X, 0, none⟩), .int .i64 (v : Int)] w fun e w' => ∃ y b off m c ls', FhP w w' e X R vs b1 m1 d1 b2 m2 d2 g h cnt cs st cols v y b off m c ls' := by
  refine (cfree_star X R vs b1 m1 d1 b2 m2 d2 g h cnt cs ls st cols v k w hB hm hv hb1 hb2 hcs hk hls hcn hf).mono ?_
  rintro e w' ⟨z, a, c, ls', hF⟩
  obtain ⟨y, h1, h2, h3⟩ := hF.head hm hv (fun i hi => ⟨(hcs i hi).1, by have := (hcs i hi).2; omega⟩)
  obtain ⟨b, off, ea, hc⟩ := hF.sl.at h2
  have h0 := hc 0 h2
  rw [h1, Nat.add_zero] at h0
  exact ⟨y, b, off, _, c, ls', by rw [hF.ret, ea], h2, h0, h3, hF.bru, hF.le, hF.chg⟩
structure PaA (w w' : World) (e : Ending) (X R : Nat) (g h : Nat) (st cols xs : List Int) (n : Nat) (cs : Nat → Int) : Prop where
  ret : e = .returned (.slice (some ⟨g, 0, none⟩) R R)
  pnt : PntI st cols xs n cs
  row : RoV w' g R (fun i => .int .i64 (cs i))
  chg : Chg (fun j => j = g ∨ j = h ∨ j = X) w w'
set_option maxRecDepth 100000 in
set_option maxHeartbeats 16000000 in
theorem cpaint_star (X R : Nat) (vs : List Value) (b1 : Option Addr) (m1 d1 : Nat) (b2 : Option Addr) (m2 d2 : Nat) (g h : Nat) (ls : Nat → Int) (st cols : List Int) (a : Option Addr) (n c : Nat) (xs : List Int) (w : World) (hB : BrI w X R vs b1 m1 d1 b2 m2 d2 g h 1 (fun _ => -1) ls st cols) (hm : MayP (R : Int) (R : Int) st cols) (hb1 : m1 ≤ 17592186044000) (hb2 : m2 ≤ 17592186044000) (hls : ∀ j, j < R → ls j ≤ 1) (hf : vs[2]? = some (.func (.func 102) #[] #[])) (hx : SlI w a n c xs) (hn : n ≤ R) (hrg : ∀ i, i < n → 0 ≤ xs.getD i 0 ∧ xs.getD i 0 < (R : Int)) (hap : ∀ z, a = some z → xs ≠ [] → z.block ≠ g ∧ z.block ≠ h ∧ z.block ≠ X) :
    Calls Tryz.prog 41 #[.pointer (some ⟨X, 0, none⟩), .slice a n c] w fun e w' => ∃ cs, PaA w w' e X R g h st cols xs n cs := by
  have hR8 : R ≤ 128 := by have := hm.head.fit; omega
  have HX := hide hx
  have HM := hide hm
  have HRG := hide hrg
  have HAP := hide hap
  have H0 := hide (And.intro hB (And.intro hls hf))
  clear hB hm hls hf hx hrg hap
  go_enter Tryz.func41, Tryz.ntmps41
  go_wp2_with fail
  go_loopw [9, 6] (fun kv _ wr => ∃ k : Nat, k ≤ n ∧ kv = .int .i64 (k : Int) ∧ Hid (∃ cs ls vs', BrI wr X R vs' b1 m1 d1 b2 m2 d2 g h (1 + k) cs ls st cols ∧ (∀ j, j < R → ls j ≤ ((1 + k : Nat) : Int)) ∧ vs'[2]? = some (.func (.func 102) #[] #[]) ∧ PntI st cols xs k cs ∧ Chg (fun j => j = g ∨ j = h ∨ j = X) w wr)) (fun kv _ _ => n - (intOf kv).toNat)
  case atStart => exact ⟨0, Nat.zero_le _, rfl, hide ⟨fun _ => -1, ls, vs, (unhide H0).1, (unhide H0).2.1, (unhide H0).2.2, rfl, Chg.refl _ _⟩⟩
  case round =>
    obtain ⟨k, hk, rfl, HK⟩ := hrel
    obtain ⟨cs, ls2, vs2, hbr, hle, hf2, hpn, hch⟩ := unhide HK
    by_cases hlt : k < n
    · have hlt' : (k : Int) < (n : Int) := by omega
      obtain ⟨bb, off, e1, hc⟩ := ((unhide HX).chg hch (fun z hz hne e => by have := unhide HAP z hz hne; omega)).at (by omega)
      subst e1
      have sk := hc k hlt
      have hg := unhide HRG k hlt
      obtain ⟨v, hv⟩ : ∃ v : Nat, xs.getD k 0 = (v : Int) := ⟨(xs.getD k 0).toNat, by omega⟩
      rw [hv] at sk hg
      have hvR : v < R := by omega
      have hvR' : (v : Int) < (R : Int) := by omega
      have hrng := PntI.rng (unhide HM) (unhide HRG) hk hpn
      have q13 := (hbr.box.all 13 _ hbr.v13).1
      have KF := hide (fun W (b : Below wr.heap.size wr W) => cfree_head X R vs2 b1 m1 d1 b2 m2 d2 g h (1 + k) cs ls2 st cols v k W (hbr.below b) (unhide HM) hvR hb1 hb2 (fun i _ => hrng i) (by omega) hle (by omega) hf2)
      have HST := hide (fun y (hl : LstP st cols cs v y) => (show PntI st cols xs (k + 1) (updC cs v y) from ⟨cs, y, hpn, by rw [hv]; exact hl, by rw [hv]; rfl⟩))
      have HCh := hide hch
      have HF2 := hide hf2
      have hgX := hbr.ne.2.1
      clear hc hv hg hrng hbr hle hf2 hpn hch HK
      go_wp2_with fail
      go_region_with
        (go_at_call 66; refine (unhide KF _ (by first | exact Below.refl _ _ | exact (Below.refl _ _).drew)).mono ?_; rintro _ w4 ⟨y, b4, o4, m4, c4, ls4, hF⟩; have e4 := hF.ret; subst e4; have hp4 : (0 : Int) < (m4 : Int) := (by have := hF.pos; omega); have hc4 := hF.cell; have k0 := (hF.bru.box.all 13 _ hF.bru.v13).1; have hcv := (hF.bru.col v hvR).1; have hfv := (hF.bru.col v hvR).2; have k1 := (Chg.of_set (S := fun j => j = g) w4 g v (.int .i64 (y : Int)) rfl).cell (b := X) (i := 13) (fun e => hgX e.symm) k0; have HF := hide hF; clear hF)
      all_goals
        have HN := hide (show ∃ cs ls vs', BrI (w4.setCell ⟨g, v, none⟩ (.int .i64 (y : Int))) X R vs' b1 m1 d1 b2 m2 d2 g h (1 + (k + 1)) cs ls st cols ∧ (∀ j, j < R → ls j ≤ ((1 + (k + 1) : Nat) : Int)) ∧ vs'[2]? = some (.func (.func 102) #[] #[]) ∧ PntI st cols xs (k + 1) cs ∧ Chg (fun j => j = g ∨ j = h ∨ j = X) w (w4.setCell ⟨g, v, none⟩ (.int .i64 (y : Int))) from
          ⟨updC cs v y, ls4, _, (show BrI _ X R _ b1 m1 d1 b2 m2 d2 g h (1 + k + 1) _ _ _ _ from (unhide HF).bru.paint v y hvR), (unhide HF).le, by rw [List.getElem?_set_ne (by omega)]; exact unhide HF2, unhide HST y (unhide HF).lst, (unhide HCh).trans (Chg.trans (by first | exact (unhide HF).chg.mono (fun j _ e => .inr e) | exact (Chg.of_drew _).trans ((unhide HF).chg.mono (fun j _ e => .inr e))) (Chg.of_set _ _ _ _ (.inl rfl)))⟩)
        clear HF k0 k1 hcv hfv hc4 hp4
        go_wp2_with fail
        exact ⟨⟨k + 1, by omega, by (first | rfl | go_num), HN⟩, by simp [intOf]; omega⟩
    · obtain rfl : k = n := by omega
      have hlt' : ¬ (k : Int) < (k : Int) := by omega
      have q13 := (hbr.box.all 13 _ hbr.v13).1
      have HA := hide (show PaA w wr (.returned (.slice (some ⟨g, 0, none⟩) R R)) X R g h st cols xs k cs from ⟨rfl, hpn, hbr.col, hch⟩)
      clear hbr hle hf2 hpn hch HK
      go_wp2_with fail
      try go_ret
      exact ⟨cs, unhide HA⟩
def BarN (st cols : List Int) (cs : Nat → Int) (v k : Nat) : Prop := ∃ u ∈ rowL st cols v, cs u.toNat = (k : Int)
theorem BarN.used {st cols : List Int} {cs : Nat → Int} {R v k : Nat} (hm : MayP (R : Int) (R : Int) st cols) (hv : v < R) (h : BarN st cols cs v k) : ∃ i, i < R ∧ cs i = (k : Int) := BarP.used hm hv (.inl h)
structure FrN (w w' : World) (e : Ending) (X R : Nat) (vs : List Value) (b1 : Option Addr) (m1 d1 : Nat) (b2 : Option Addr) (m2 d2 : Nat) (g h cnt : Nat) (cs : Nat → Int) (st cols : List Int) (v : Nat) (z : Nat) (a : Option Addr) (c : Nat) (ls' : Nat → Int) : Prop where
  num : NumC (csL cs R) (z : Int)
  ret : e = .returned (.slice a (grR (fun _ j => ¬ BarN st cols cs v j) 0 (z + 1)).length c)
  sl : SlI w' a (grR (fun _ j => ¬ BarN st cols cs v j) 0 (z + 1)).length c (grR (fun _ j => ¬ BarN st cols cs v j) 0 (z + 1))
  new : ∀ x, a = some x → w.heap.size ≤ x.block
  bru : BrI w' X R (vs.set 14 (.int .i64 ((cnt + 1 : Nat) : Int))) b1 m1 d1 b2 m2 d2 g h (cnt + 1) cs ls' st cols
  le : ∀ j, j < R → ls' j ≤ ((cnt + 1 : Nat) : Int)
  chg : Chg (fun j => j = h ∨ j = X) w w'
structure LstN (st cols : List Int) (cs : Nat → Int) (v y : Nat) : Prop where
  may : ¬ BarN st cols cs v y
  bar : ∀ j, j < y → BarN st cols cs v j
theorem LstN.one {st cols : List Int} {cs : Nat → Int} {v y x : Nat} (h : LstN st cols cs v y) (k : LstN st cols cs v x) : y = x := by
  rcases Nat.lt_trichotomy y x with c | c | c
  · exact absurd (k.bar y c) h.may
  · exact c
  · exact absurd (h.bar x c) k.may
def PntN (st cols xs : List Int) : Nat → (Nat → Int) → Prop
  | 0, cs => cs = fun _ => -1
  | k + 1, cs => ∃ cs0 y, PntN st cols xs k cs0 ∧ LstN st cols cs0 (xs.getD k 0).toNat y ∧ cs = updC cs0 (xs.getD k 0).toNat y
theorem PntN.one {st cols xs : List Int} : ∀ {k : Nat} {cs ds : Nat → Int}, PntN st cols xs k cs → PntN st cols xs k ds → cs = ds
  | 0, _, _, h, g => by unfold PntN at h g; rw [h, g]
  | k + 1, _, _, ⟨c, y, h1, h2, h3⟩, ⟨d, x, g1, g2, g3⟩ => by
    have e := PntN.one h1 g1
    subst e
    have e := h2.one g2
    subst e
    rw [h3, g3]
theorem PntN.rng {R n : Nat} {st cols xs : List Int} (hm : MayP (R : Int) (R : Int) st cols) (hx : ∀ i, i < n → 0 ≤ xs.getD i 0 ∧ xs.getD i 0 < (R : Int)) : ∀ {k : Nat} {cs : Nat → Int}, k ≤ n → PntN st cols xs k cs → ∀ i, -1 ≤ cs i ∧ cs i < (k : Int)
  | 0, cs, _, h, i => by unfold PntN at h; subst h; simp
  | k + 1, cs, hk, ⟨c, y, h1, h2, h3⟩, i => by
    have ih := PntN.rng hm hx (by omega) h1
    subst h3
    unfold updC
    split
    · cases y with
      | zero => omega
      | succ j =>
        obtain ⟨i', _, he⟩ := (h2.bar j (by omega)).used hm (by have := hx k (by omega); omega)
        have := ih i'
        omega
    · have := ih i
      omega
theorem FrN.head {w w' : World} {e : Ending} {X R : Nat} {vs : List Value} {b1 : Option Addr} {m1 d1 : Nat} {b2 : Option Addr} {m2 d2 g h cnt : Nat} {cs : Nat → Int} {st cols : List Int} {v z : Nat} {a : Option Addr} {c : Nat} {ls' : Nat → Int} (k : FrN w w' e X R vs b1 m1 d1 b2 m2 d2 g h cnt cs st cols v z a c ls') (hm : MayP (R : Int) (R : Int) st cols) (hv : v < R) (hc : ∀ i, i < R → -1 ≤ cs i ∧ cs i < (R : Int)) : ∃ y : Nat, (grR (fun _ j => ¬ BarN st cols cs v j) 0 (z + 1)).getD 0 0 = (y : Int) ∧ 0 < (grR (fun _ j => ¬ BarN st cols cs v j) 0 (z + 1)).length ∧ LstN st cols cs v y := by
  rcases grR_head (P := fun _ j => ¬ BarN st cols cs v j) (u := 0) (z + 1) with ⟨_, h2⟩ | ⟨y, h1, h2, h3, h4⟩
  · exfalso
    refine h2 z (by omega) (fun hb => ?_)
    obtain ⟨i, hi, he⟩ := hb.used hm hv
    have := (numC_rng k.num hc).2.2 i hi
    omega
  · exact ⟨y, h1, h2, h3, fun j hj => Classical.byContradiction (h4 j hj)⟩
def CirP (st cols : List Int) (R : Nat) (cs : Nat → Int) (v k : Nat) : Prop := ∃ u1 u2 c : Nat, u1 ≠ u2 ∧ adG st cols R v u1 ∧ adG st cols R v u2 ∧ cs u1 = (c : Int) ∧ cs u2 = (c : Int) ∧ WyP (adG st cols R) (TwC cs R (c : Int) (k : Int)) u1 u2
def BarA (st cols : List Int) (R : Nat) (cs : Nat → Int) (v k : Nat) : Prop := BarN st cols cs v k ∨ CirP st cols R cs v k
def PrpC (st cols : List Int) (R : Nat) (cs : Nat → Int) : Prop := ∀ u v, adG st cols R u v → 0 ≤ cs u → cs u ≠ cs v
theorem ad_row {st cols : List Int} {R v u : Nat} (hm : MayP (R : Int) (R : Int) st cols) (hv : v < R) : adG st cols R v u ↔ (u : Int) ∈ rowL st cols v := by
  constructor
  · rintro ⟨_, h2, h3⟩
    exact (rowL_mem hm hv).2 h3
  · intro h
    obtain ⟨i, hi, he⟩ := mem_getD.1 h
    obtain ⟨u', h1, h2⟩ := row_atF hm hv hi
    have : u' = u := by omega
    subst this
    exact ⟨hv, h2, (rowL_mem hm hv).1 h⟩
theorem BarA.used {st cols : List Int} {R v k : Nat} {cs : Nat → Int} (hm : MayP (R : Int) (R : Int) st cols) (hpr : PrpC st cols R cs) (hv : v < R) (h : BarA st cols R cs v k) : ∃ i, i < R ∧ cs i = (k : Int) := by
  rcases h with h | ⟨u1, u2, c, hne, a1, a2, e1, e2, w⟩
  · exact h.used hm hv
  · apply Classical.byContradiction
    intro hn
    have key : ∀ z, WyP (adG st cols R) (TwC cs R (c : Int) (k : Int)) u1 z → z = u1 := by
      intro z w
      induction w with
      | here h => rfl
      | go b d w hd e ih =>
        exfalso
        have hb : cs b = (c : Int) := by rw [ih]; exact e1
        have hd2 : cs d = (c : Int) := hd.2.elim id (fun q => absurd ⟨d, hd.1, q⟩ hn)
        exact hpr b d e (by omega) (by rw [hb, hd2])
    exact hne (key u2 w).symm
end Go.Proofs.YtgjokididdffhaaGreat
