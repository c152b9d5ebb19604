/- Cv5 -/
import Derived.Test.YtgjokididdffhaaGreatCv4
import Derived.Test.YtgjokididdffhaaGreatCv1
import Derived.Test.YtgjokididdffhaaGreatCh3
import Derived.Test.YtgjokididdffhaaGreatCg1
import Derived.Test.YtgjokididdffhaaGreatCi1
namespace Go.Proofs.YtgjokididdffhaaGreat
open Go.RowKit Go.Deep
set_option linter.unusedVariables false
theorem RoF.front {w : World} {X : Nat} {pf : Nat → Nat} (h : RoF w X 16 pf) (i : Nat) (hi : i < 16) (v : Value) : RoF (w.setCell ⟨X, i, none⟩ v) X 16 pf := by
  intro e he
  rw [World.frozen?_setCell]
  refine ⟨?_, (h e he).2⟩
  rw [World.cell?_setCell_other _ _ _ _ (by intro c; simp at c; first | done | omega)]
  exact (h e he).1
structure FrA (w w' : World) (e : Ending) (X R : Nat) (vs : List Value) (b1 : Option Addr) (m1 d1 : Nat) (b2 : Option Addr) (m2 d2 : Nat) (g h cnt : Nat) (cs : Nat → Int) (st cols : List Int) (v : Nat) (z : Nat) (a : Option Addr) (c : Nat) (ls' : Nat → Int) : Prop where
  num : NumC (csL cs R) (z : Int)
  ret : e = .returned (.slice a (grR (fun _ j => ¬ BarA st cols R cs v j) 0 (z + 1)).length c)
  sl : SlI w' a (grR (fun _ j => ¬ BarA st cols R cs v j) 0 (z + 1)).length c (grR (fun _ j => ¬ BarA st cols R cs v j) 0 (z + 1))
  new : ∀ x, a = some x → w.heap.size ≤ x.block
  bru : BrI w' X R (vs.set 14 (.int .i64 ((cnt + 1 : Nat) : Int))) b1 m1 d1 b2 m2 d2 g h (cnt + 1) cs ls' st cols
  le : ∀ j, j < R → ls' j ≤ ((cnt + 1 : Nat) : Int)
  chg : Chg (fun j => j = h ∨ j = X) w w'
  arr : ∃ pf, RoF w' X 16 pf
set_option maxRecDepth 100000 in
set_option maxHeartbeats 16000000 in
theorem cfree_ac (X R : Nat) (vs : List Value) (b1 : Option Addr) (m1 d1 : Nat) (b2 : Option Addr) (m2 d2 : Nat) (g h cnt : Nat) (cs ls : Nat → Int) (st cols : List Int) (v k : Nat) (w : World) (hB : BrI w X R vs b1 m1 d1 b2 m2 d2 g h cnt cs ls st cols) (hm : MayP (R : Int) (R : Int) st cols) (hv : v < R) (hb1 : m1 ≤ 17592186044000) (hb2 : m2 ≤ 17592186044000) (hcs : ∀ i, i < R → -1 ≤ cs i ∧ cs i < (k : Int)) (hk : k < R) (hls : ∀ j, j < R → ls j ≤ (cnt : Int)) (hcn : cnt ≤ 1000000) (hf : vs[2]? = some (.func (.func 104) #[] #[])) (hvl : vs.length ≤ 16) (hA : ∃ pf, RoF w X 16 pf) (hg : GraP st cols R R) (hpr : PrpC st cols R cs) :
    Calls Tryz.prog 66 #[.pointer (some ⟨X, 0, none⟩), .int .i64 (v : Int)] w fun e w' => ∃ z a c ls', FrA w w' e X R vs b1 m1 d1 b2 m2 d2 g h cnt cs st cols v z a c ls' := by
  have hR8 : R ≤ 128 := by have := hm.head.fit; omega
  have q14 := (hB.box.all 14 _ hB.v14).1
  have r14 := (hB.box.all 14 _ hB.v14).2
  have KD := hide (cdrop_any X 14 cnt w q14 r14 (by omega))
  have hB1 := hB.drop (cnt + 1)
  have c1 : Chg (fun j => j = h ∨ j = X) w (w.setCell ⟨X, 14, none⟩ (.int .i64 ((cnt + 1 : Nat) : Int))) := Chg.of_set _ _ _ _ (.inr rfl)
  have q2 := (hB1.box.all 2 _ (by rw [List.getElem?_set_ne (by omega)]; exact hf)).1
  obtain ⟨pf, hpf⟩ := hA
  have KP := hide (cbarC_any X R _ b1 m1 d1 b2 m2 d2 g h (cnt + 1) cs ls st cols v _ hB1 (by simpa using hvl) pf (hpf.front 14 (by omega) _) hm hg hpr hv hb1 hb2 (fun i hi => ⟨(hcs i hi).1, by have := (hcs i hi).2; omega⟩) (fun j hj => by have := hls j hj; omega))
  have HC := hide hcs
  have HM := hide hm
  have HL := hide hls
  have HC1 := hide c1
  have HF := hide hf
  have HGP := hide (And.intro hg hpr)
  clear hcs hm hls hB hB1 c1 hf q14 r14 hpf hg hpr
  go_enter Tryz.func66, Tryz.ntmps66
  go_wp2_with fail
  refine (unhide KD).mono ?_
  rintro _ w1 ⟨⟨z0, rfl⟩, hw1⟩
  rw [← hw1] at q2 KP HC1
  clear KD hw1
  go_wp2_with fail
  refine (unhide KP).mono ?_
  rintro _ w2 ⟨⟨z1, rfl⟩, ls', hP⟩
  have hB2 := hP.bru
  have hM2 := hP.mks
  have hC2 := hP.chg
  have HA2 := hide hP.arr
  clear hP
  have KN := hide (cnumber_any (some ⟨g, 0, none⟩) R R (csL cs R) w2 (hB2.col.sli hR8) hR8 (fun i hi => by rw [csL_get hi]; have := (unhide HC i hi).2; omega) (fun e => by cases e))
  have q13 := (hB2.box.all 13 _ hB2.v13).1
  have HB2 := hide hB2
  have HMK := hide (show ∀ j, j < R → (ls' j = ((cnt + 1 : Nat) : Int) ↔ BarA st cols R cs v j) from fun j hj => by
    rw [hM2.iff j hj]
    have := unhide HL j hj
    exact ⟨fun z => z.elim (fun z => by omega) id, .inr⟩)
  have HLE := hide hM2.le
  have HC2 := hide ((unhide HC1).trans hC2)
  clear KP hB2 hM2 hC2 HC1 q2
  go_wp2_with fail
  refine (unhide KN).mono ?_
  rintro _ w3 ⟨zi, rfl, hN, b3⟩
  obtain ⟨hz0, hzk, _⟩ := numC_rng hN (unhide HC)
  obtain ⟨z, rfl⟩ : ∃ z : Nat, zi = (z : Int) := ⟨zi.toNat, by omega⟩
  have hw7 : IntKind.i64.wrap ((z : Int) + 1) = (z : Int) + 1 := by rw [wrap_i64n]; omega
  have HN := hide hN
  have HB3 := hide ((unhide HB2).below b3)
  have HC3 := hide ((unhide HC2).trans (Chg.of_below b3))
  have HA3 := hide (show ∃ pf, RoF w3 X 16 pf from by obtain ⟨p, k1⟩ := unhide HA2; exact ⟨p, k1.below b3⟩)
  have hzR : z < R := by omega
  obtain ⟨P, hP⟩ : ∃ P : Nat → Nat → Prop, P = (fun _ j => ¬ BarA st cols R cs v j) := ⟨_, rfl⟩
  have HP := hide hP
  obtain ⟨i64, hi, hz, hs, hb⟩ := info_parts Tryz.info_i64
  have HI := hide (And.intro hi (And.intro hz (And.intro hs hb)))
  have hone : ∀ y : Int, ∀ z ∈ [Value.int .i64 y], z.oneCell' = true := by intro y z hz; simp at hz; subst hz; rfl
  clear KN HB2 HC2 hN b3 hz0 hzk q13 hP hi hz hs hb
  go_wp2_with fail
  go_loopw [26, 5] (fun kv lv wr => ∃ j : Nat, j ≤ z + 1 ∧ kv = .int .i64 (j : Int) ∧ Hid (wr.ownsRow w3.heap.size 3 1 lv (grR P 0 j).length (valsI (grR P 0 j))) ∧ Hid (Below w3.heap.size w3 wr)) (fun kv _ _ => z + 1 - (intOf kv).toNat)
  case atStart => exact ⟨0, Nat.zero_le _, rfl, hide (by simpa [grR, valsI] using World.ownsRow_nil w3 w3.heap.size 3 1), hide (Below.refl _ _)⟩
  case round =>
    obtain ⟨j, hj, rfl, HO, HW⟩ := hrel
    by_cases hlt : j < z + 1
    · have hlt' : (j : Int) < (z : Int) + 1 := by omega
      have hjR : j < R := by omega
      have hbr := (unhide HB3).below (unhide HW)
      have q14 := (hbr.box.all 14 _ hbr.v14).1
      have q15 := (hbr.box.all 15 _ hbr.v15).1
      have KH := hide (chas_any X 14 h R ((cnt + 1 : Nat) : Int) j (ls' j) wr q14 q15 hjR hR8 (hbr.last j hjR).1)
      have hcl : (grR P 0 j).length ≤ 128 := by have := grR_len P 0 j; omega
      have hIF := unhide HMK j hjR
      clear hbr q14 q15
      by_cases hbp : BarA st cols R cs v j
      · have he : (ls' j == ((cnt + 1 : Nat) : Int)) = true := by rw [hIF.2 hbp]; simp
        rw [he] at KH
        have HN1 := hide (show grR P 0 (j + 1) = grR P 0 j from by
          have ht : tb (P 0 j) = false := by rw [unhide HP]; simp [tb, hbp]
          simp [grR, ht])
        clear he hIF hbp
        go_wp2_with fail
        refine (unhide KH).mono ?_
        rintro _ w4 ⟨rfl, b4⟩
        have HB4 := hide ((unhide HW).trans (b4.mono (unhide HW).size))
        have HO4 := hide (show w4.ownsRow w3.heap.size 3 1 u5 (grR P 0 (j + 1)).length (valsI (grR P 0 (j + 1))) from by rw [unhide HN1]; exact ownsRow_chg (S := fun _ => False) (unhide HO) (Chg.of_below b4) (fun _ _ x => x))
        clear KH b4
        go_wp2_with fail
        exact ⟨⟨j + 1, by omega, by (first | rfl | go_num), HO4, HB4⟩, by simp [intOf]; omega⟩
      · have he : (ls' j == ((cnt + 1 : Nat) : Int)) = false := by
          rw [Bool.eq_false_iff]; intro e; exact hbp (hIF.1 (by simpa using e))
        rw [he] at KH
        have HN1 := hide (show grR P 0 (j + 1) = grR P 0 j ++ [(j : Int)] from by
          have ht : tb (P 0 j) = true := by rw [unhide HP]; simp [tb, hbp]
          simp [grR, ht])
        clear he hIF hbp
        go_wp2_with fail
        refine (unhide KH).mono ?_
        rintro _ w4 ⟨rfl, b4⟩
        have HB4 := hide ((unhide HW).trans (b4.mono (unhide HW).size))
        obtain ⟨C, hC⟩ : ∃ C, grR P 0 j = C := ⟨_, rfl⟩
        rw [hC] at HO hcl HN1
        have HO4 := hide (ownsRow_chg (S := fun _ => False) (unhide HO) (Chg.of_below b4) (fun _ _ x => x))
        have hmx : C.length + 1 ≤ maxLen := by unfold maxLen; omega
        have hby : (C.length + 1) * 8 ≤ 140737488355328 := by omega
        have hsz := (unhide HB4).size
        clear hC KH b4 HO
        go_wp2_with (at_builtin; refine wpList_append_lies _ rfl _ _ 23 rfl w3.heap.size 3 i64 (.int .i64 0) 1 8 Tryz.underlying23 (unhide HI).1 (unhide HI).2.1 (unhide HI).2.2.1 (unhide HI).2.2.2 rfl (by decide) u5 C.length (valsI C) rfl ((unhide HO4).alloc _) ⟨w4.heap.size, 0, none⟩ 1 1 [.int .i64 (j : Int)] rfl rfl (World.news_of_block (alloc_block _ _)) (hone _) (by decide) hmx hby (by simp; omega) (w4.heap.size + 1) (by simp) ?_)
        intro g2 cap w5 hown hgr hat hlt5
        have hB5 : Below w3.heap.size w3 w5 := ((unhide HB4).trans (((Below.refl w3.heap.size w4).alloc hsz _))).grown hgr (by simp; omega) (fun j hj => (own_ge (unhide HO4) j hj).1)
        have HN := hide (show w5.ownsRow w3.heap.size 3 1 (.slice (some ⟨g2, 0, none⟩) (C.length + 1) cap) (grR P 0 (j + 1)).length (valsI (grR P 0 (j + 1))) from by
          rw [unhide HN1]
          simpa [valsI] using hown)
        have HB5 := hide hB5
        clear hown hgr hat hlt5 hB5
        go_wp2_with fail
        exact ⟨⟨j + 1, by omega, by (first | rfl | go_num), HN, HB5⟩, by simp [intOf]; omega⟩
    · obtain rfl : j = z + 1 := by omega
      have hlt' : ¬ ((z + 1 : Nat) : Int) < (z : Int) + 1 := by omega
      obtain ⟨a, c, hv', hs'⟩ := own_slI (unhide HO)
      have HNEW := hide (show ∀ z, a = some z → w3.heap.size ≤ z.block from fun z hz => (own_ge (unhide HO) z.block (by rw [hv', hz]; rfl)).1)
      have HSS := hide hs'
      subst hv'
      clear hs' HO
      go_wp2_with fail
      try go_ret
      have hP := unhide HP
      subst hP
      exact ⟨z, a, c, ls', unhide HN, rfl, unhide HSS, fun x hx => Nat.le_trans (unhide HC3).size (unhide HNEW x hx), (unhide HB3).below (unhide HW), unhide HLE, (unhide HC3).trans (Chg.of_below (unhide HW)), by obtain ⟨p, k1⟩ := unhide HA3; exact ⟨p, k1.below ((unhide HW))⟩⟩
structure LstA (st cols : List Int) (R : Nat) (cs : Nat → Int) (v y : Nat) : Prop where
  may : ¬ BarA st cols R cs v y
  bar : ∀ j, j < y → BarA st cols R cs v j
theorem LstA.one {st cols : List Int} {R : Nat} {cs : Nat → Int} {v y x : Nat} (h : LstA st cols R cs v y) (k : LstA st cols R cs v x) : y = x := by
  rcases Nat.lt_trichotomy y x with c | c | c
  · exact absurd (k.bar y c) h.may
  · exact c
  · exact absurd (h.bar x c) k.may
def PntA (st cols : List Int) (R : Nat) (xs : List Int) : Nat → (Nat → Int) → Prop
  | 0, cs => cs = fun _ => -1
  | k + 1, cs => ∃ cs0 y, PntA st cols R xs k cs0 ∧ LstA st cols R cs0 (xs.getD k 0).toNat y ∧ cs = updC cs0 (xs.getD k 0).toNat y
theorem PntA.one {st cols : List Int} {R : Nat} {xs : List Int} : ∀ {k : Nat} {cs ds : Nat → Int}, PntA st cols R xs k cs → PntA st cols R xs k ds → cs = ds
  | 0, _, _, h, g => by unfold PntA at h g; rw [h, g]
  | k + 1, _, _, ⟨c, y, h1, h2, h3⟩, ⟨d, x, g1, g2, g3⟩ => by
    have e := PntA.one h1 g1
    subst e
    have e := h2.one g2
    subst e
    rw [h3, g3]
theorem LstA.prp {st cols : List Int} {R : Nat} {cs : Nat → Int} {v y : Nat} (hm : MayP (R : Int) (R : Int) st cols) (hg : GraP st cols R R) (h : LstA st cols R cs v y) (hp : PrpC st cols R cs) : PrpC st cols R (updC cs v y) := by
  intro u w e hu
  have key : ∀ x, adG st cols R v x → cs x ≠ (y : Int) := fun x hx e2 => h.may (.inl ⟨(x : Int), (ad_row hm hx.1).1 hx, by rw [show ((x : Int)).toNat = x by omega]; exact e2⟩)
  have ir := adG.ir hg
  unfold updC at hu ⊢
  by_cases c1 : u = v
  · subst c1
    have c2 : w ≠ u := fun e2 => by subst e2; exact ir _ e
    rw [if_pos rfl, if_neg c2]
    exact (key w e).symm
  · rw [if_neg c1] at hu ⊢
    by_cases c2 : w = v
    · subst c2
      rw [if_pos rfl]
      exact key u (adG.sy hg _ _ e)
    · rw [if_neg c2]
      exact hp u w e hu
theorem PntA.prp {R n : Nat} {st cols xs : List Int} (hm : MayP (R : Int) (R : Int) st cols) (hg : GraP st cols R R) : ∀ {k : Nat} {cs : Nat → Int}, PntA st cols R xs k cs → PrpC st cols R cs
  | 0, cs, h => by unfold PntA at h; subst h; intro u v _ h0; simp at h0
  | k + 1, cs, ⟨c, y, h1, h2, h3⟩ => by
    subst h3
    exact h2.prp hm hg (PntA.prp (n := n) hm hg h1)
theorem PntA.rng {R n : Nat} {st cols xs : List Int} (hm : MayP (R : Int) (R : Int) st cols) (hg : GraP st cols R R) (hx : ∀ i, i < n → 0 ≤ xs.getD i 0 ∧ xs.getD i 0 < (R : Int)) : ∀ {k : Nat} {cs : Nat → Int}, k ≤ n → PntA st cols R xs k cs → ∀ i, -1 ≤ cs i ∧ cs i < (k : Int)
  | 0, cs, _, h, i => by unfold PntA at h; subst h; simp
  | k + 1, cs, hk, ⟨c, y, h1, h2, h3⟩, i => by
    have ih := PntA.rng hm hg hx (by omega) h1
    subst h3
    unfold updC
    split
    · cases y with
      | zero => omega
      | succ j =>
        obtain ⟨i', _, he⟩ := (h2.bar j (by omega)).used hm (PntA.prp (n := n) hm hg h1) (by have := hx k (by omega); omega)
        have := ih i'
        omega
    · have := ih i
      omega
theorem FrA.head {w w' : World} {e : Ending} {X R : Nat} {vs : List Value} {b1 : Option Addr} {m1 d1 : Nat} {b2 : Option Addr} {m2 d2 g h cnt : Nat} {cs : Nat → Int} {st cols : List Int} {v z : Nat} {a : Option Addr} {c : Nat} {ls' : Nat → Int} (hpr : PrpC st cols R cs) (k : FrA w w' e X R vs b1 m1 d1 b2 m2 d2 g h cnt cs st cols v z a c ls') (hm : MayP (R : Int) (R : Int) st cols) (hv : v < R) (hc : ∀ i, i < R → -1 ≤ cs i ∧ cs i < (R : Int)) : ∃ y : Nat, (grR (fun _ j => ¬ BarA st cols R cs v j) 0 (z + 1)).getD 0 0 = (y : Int) ∧ 0 < (grR (fun _ j => ¬ BarA st cols R cs v j) 0 (z + 1)).length ∧ LstA st cols R cs v y := by
  rcases grR_head (P := fun _ j => ¬ BarA st cols R cs v j) (u := 0) (z + 1) with ⟨_, h2⟩ | ⟨y, h1, h2, h3, h4⟩
  · exfalso
    refine h2 z (by omega) (fun hb => ?_)
    obtain ⟨i, hi, he⟩ := hb.used hm hpr hv
    have := (numC_rng k.num hc).2.2 i hi
    omega
  · exact ⟨y, h1, h2, h3, fun j hj => Classical.byContradiction (h4 j hj)⟩
def nuB (f : Nat → Bool) : Nat → Nat
  | 0 => 0
  | i + 1 => nuB f i + (if f i = true then 1 else 0)
theorem nuB_le (f : Nat → Bool) : ∀ i, nuB f i ≤ i
  | 0 => Nat.le_refl _
  | i + 1 => by have := nuB_le f i; simp only [nuB]; split <;> omega
theorem nuB_zero {f : Nat → Bool} : ∀ {i}, nuB f i = 0 ↔ ∀ u, u < i → f u = false
  | 0 => ⟨fun _ u hu => absurd hu (Nat.not_lt_zero _), fun _ => rfl⟩
  | i + 1 => by
    have ih := nuB_zero (f := f) (i := i)
    simp only [nuB]
    constructor
    · intro h u hu
      by_cases e : u = i
      · subst e
        cases hf : f u
        · rfl
        · rw [if_pos hf] at h; omega
      · exact ih.1 (by omega) u (by omega)
    · intro h
      rw [ih.2 (fun u hu => h u (by omega)), if_neg (by rw [h i (by omega)]; decide)]
theorem nuB_congr {f g : Nat → Bool} : ∀ i, (∀ u, u < i → f u = g u) → nuB f i = nuB g i
  | 0, _ => rfl
  | i + 1, h => by simp only [nuB]; rw [nuB_congr i (fun u hu => h u (by omega)), h i (by omega)]
theorem nuB_drop {f : Nat → Bool} {v : Nat} (hf : f v = true) : ∀ i, v < i → nuB (fun u => if u = v then false else f u) i + 1 = nuB f i
  | 0, h => absurd h (Nat.not_lt_zero _)
  | i + 1, h => by
    simp only [nuB]
    by_cases e : v = i
    · subst e
      rw [nuB_congr (g := f) v (fun u hu => by rw [if_neg (by omega)])]
      simp [hf]
    · have := nuB_drop hf i (by omega)
      simp only [show ¬ i = v by omega, if_false]
      omega
theorem nuB_two {f : Nat → Bool} : ∀ {i}, 2 ≤ nuB f i ↔ ∃ p q, p ≠ q ∧ p < i ∧ q < i ∧ f p = true ∧ f q = true
  | 0 => ⟨fun h => absurd h (by simp [nuB]), fun ⟨p, q, _, h, _⟩ => absurd h (Nat.not_lt_zero _)⟩
  | i + 1 => by
    have ih := nuB_two (f := f) (i := i)
    simp only [nuB]
    constructor
    · intro h
      by_cases c : 2 ≤ nuB f i
      · obtain ⟨p, q, h1, h2, h3, h4, h5⟩ := ih.1 c
        exact ⟨p, q, h1, by omega, by omega, h4, h5⟩
      · have h1 : nuB f i = 1 ∧ f i = true := by
          by_cases e : f i = true
          · rw [if_pos e] at h; exact ⟨by omega, e⟩
          · rw [if_neg e] at h; omega
        have h2 : ∃ p, p < i ∧ f p = true := by
          apply Classical.byContradiction
          intro hn
          have : nuB f i = 0 := nuB_zero.2 (fun u hu => by
            cases hu2 : f u
            · rfl
            · exact absurd ⟨u, hu, hu2⟩ hn)
          omega
        obtain ⟨p, hp, hp2⟩ := h2
        exact ⟨p, i, by omega, by omega, by omega, hp2, h1.2⟩
    · rintro ⟨p, q, h1, h2, h3, h4, h5⟩
      by_cases e1 : p = i
      · subst e1
        rw [if_pos h4]
        have : nuB f p ≠ 0 := fun h => by have := nuB_zero.1 h q (by omega); rw [this] at h5; cases h5
        omega
      · by_cases e2 : q = i
        · subst e2
          rw [if_pos h5]
          have : nuB f q ≠ 0 := fun h => by have := nuB_zero.1 h p (by omega); rw [this] at h4; cases h4
          omega
        · have := ih.2 ⟨p, q, h1, by omega, by omega, h4, h5⟩
          split <;> omega
def adQ (Q : Nat → Bool) (N u v : Nat) : Prop := u < N ∧ v < N ∧ Q (u * N + v) = true
structure PaQ (Q : Nat → Bool) (N : Nat) (T0 lf0 : Nat → Bool) (v : Nat) (ag : Bool) (lf : Nat → Bool) : Prop where
  sub : ∀ u, u < N → lf u = true → T0 u = true
  mx : ∀ T : Nat → Prop, (∀ u, T u → u < N ∧ T0 u = true) → CyP (adQ Q N) T → ∀ u, T u → lf u = true
  no : ag = false → (∀ u, u < N → lf u = lf0 u) ∧ ∀ u, u < v → lf u = true → 2 ≤ nuB (fun x => lf x && Q (x * N + u)) N
  yes : ag = true → nuB lf N < nuB lf0 N
theorem PaQ.le {Q : Nat → Bool} {N : Nat} {T0 lf0 : Nat → Bool} {v : Nat} {ag : Bool} {lf : Nat → Bool} (h : PaQ Q N T0 lf0 v ag lf) : nuB lf N ≤ nuB lf0 N := by
  cases ag
  · exact Nat.le_of_eq (nuB_congr N (h.no rfl).1)
  · exact Nat.le_of_lt (h.yes rfl)
theorem PaQ.keep {Q : Nat → Bool} {N : Nat} {T0 lf0 : Nat → Bool} {v : Nat} {ag : Bool} {lf : Nat → Bool} (h : PaQ Q N T0 lf0 v ag lf) (hk : lf v = true → 2 ≤ nuB (fun x => lf x && Q (x * N + v)) N) : PaQ Q N T0 lf0 (v + 1) ag lf :=
  ⟨h.sub, h.mx, fun e => ⟨(h.no e).1, fun u hu hl => by
    by_cases c : u = v
    · subst c; exact hk hl
    · exact (h.no e).2 u (by omega) hl⟩, h.yes⟩
theorem PaQ.drop {Q : Nat → Bool} {N : Nat} {T0 lf0 : Nat → Bool} {v : Nat} {ag : Bool} {lf : Nat → Bool} (h : PaQ Q N T0 lf0 v ag lf) (hv : v < N) (hl : lf v = true) (hk : nuB (fun x => lf x && Q (x * N + v)) N < 2) : PaQ Q N T0 lf0 (v + 1) true (fun u => if u = v then false else lf u) := by
  refine ⟨fun u hu e => ?_, fun T hT hc u hu => ?_, fun e => (by cases e), fun _ => ?_⟩
  · by_cases c : u = v
    · rw [if_pos c] at e; cases e
    · rw [if_neg c] at e; exact h.sub u hu e
  · by_cases c : u = v
    · subst c
      obtain ⟨p, q, h1, h2, h3, h4, h5⟩ := hc u hu
      have : 2 ≤ nuB (fun x => lf x && Q (x * N + u)) N := nuB_two.2 ⟨p, q, h1, h4.1, h5.1, by simp [h.mx T hT hc p h2, h4.2.2], by simp [h.mx T hT hc q h3, h5.2.2]⟩
      omega
    · rw [if_neg c]; exact h.mx T hT hc u hu
  · have h1 := nuB_drop hl N hv
    have h2 := h.le
    omega
theorem PaQ.done {Q : Nat → Bool} {N : Nat} {T0 lf0 lf : Nat → Bool} (h : PaQ Q N T0 lf0 N false lf) : nuB lf N = 0 ↔ FoP (adQ Q N) (fun u => u < N ∧ T0 u = true) := by
  constructor
  · intro h0 T hT hc u hu
    have h1 := h.mx T hT hc u hu
    have h2 := nuB_zero.1 h0 u (hT u hu).1
    rw [h1] at h2
    cases h2
  · intro hF
    refine nuB_zero.2 (fun u hu => ?_)
    cases e : lf u
    · rfl
    · refine absurd ⟨hu, e⟩ (hF (fun x => x < N ∧ lf x = true) (fun x hx => ⟨hx.1, h.sub x hx.1 hx.2⟩) (fun x hx => ?_) u)
      obtain ⟨p, q, h1, h2, h3, h4, h5⟩ := nuB_two.1 ((h.no rfl).2 x hx.1 hx.2)
      simp at h4 h5
      exact ⟨p, q, h1, ⟨h2, h4.1⟩, ⟨h3, h5.1⟩, ⟨h2, hx.1, h4.2⟩, ⟨h3, hx.1, h5.2⟩⟩
def twB (cs : Nat → Int) (c d : Int) (v : Nat) : Bool := (cs v == c) || (cs v == d)
end Go.Proofs.YtgjokididdffhaaGreat
