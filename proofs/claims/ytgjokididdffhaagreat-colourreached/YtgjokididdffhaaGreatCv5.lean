/- Cv5 -/
import Derived.Test.YtgjokididdffhaaGreatCv4
import Derived.Test.YtgjokididdffhaaGreatCv1
namespace Go.Proofs.YtgjokididdffhaaGreat
open Go.RowKit Go.Deep
set_option linter.unusedVariables false
theorem RoF.front {w : World} {X : Nat} {pf : Nat → Nat} (h : RoF w X 16 pf) (i : Nat) (hi : i < 16) (v : Value) : RoF (w.setCell ⟨X, i, none⟩ v) X 16 pf := by
  intro e he
  rw [World.frozen?_setCell]
  refine ⟨?_, (h e he).2⟩
  rw [World.cell?_setCell_other _ _ _ _ (by intro c; simp at c; first | done | omega)]
  exact (h e he).1
structure FrA (w w' : World) (e : Ending) (X R : Nat) (vs : List Value) (b1 : Option Addr) (m1 d1 : Nat) (b2 : Option Addr) (m2 d2 : Nat) (g h cnt : Nat) (cs : Nat → Int) (st cols : List Int) (v : Nat) (z : Nat) (a : Option Addr) (c : Nat) (ls' : Nat → Int) : Prop where
  num : NumC (csL cs R) (z : Int)
  ret : e = .returned (.slice a (grR (fun _ j => ¬ BarA st cols R cs v j) 0 (z + 1)).length c)
  sl : SlI w' a (grR (fun _ j => ¬ BarA st cols R cs v j) 0 (z + 1)).length c (grR (fun _ j => ¬ BarA st cols R cs v j) 0 (z + 1))
  new : ∀ x, a = some x → w.heap.size ≤ x.block
  bru : BrI w' X R (vs.set 14 (.int .i64 ((cnt + 1 : Nat) : Int))) b1 m1 d1 b2 m2 d2 g h (cnt + 1) cs ls' st cols
  le : ∀ j, j < R → ls' j ≤ ((cnt + 1 : Nat) : Int)
  chg : Chg (fun j => j = h ∨ j = X) w w'
  arr : ∃ pf, RoF w' X 16 pf
set_option maxRecDepth 100000 in
set_option maxHeartbeats 16000000 in
theorem cfree_ac (X R : Nat) (vs : List Value) (b1 : Option Addr) (m1 d1 : Nat) (b2 : Option Addr) (m2 d2 : Nat) (g h cnt : Nat) (cs ls : Nat → Int) (st cols : List Int) (v k : Nat) (w : World) (hB : BrI w X R vs b1 m1 d1 b2 m2 d2 g h cnt cs ls st cols) (hm : MayP (R : Int) (R : Int) st cols) (hv : v < R) (hb1 : m1 ≤ 17592186044000) (hb2 : m2 ≤ 17592186044000) (hcs : ∀ i, i < R → -1 ≤ cs i ∧ cs i < (k : Int)) (hk : k < R) (hls : ∀ j, j < R → ls j ≤ (cnt : Int)) (hcn : cnt ≤ 1000000) (hf : vs[2]? = some (.func (.func 104) #[] #[])) (hvl : vs.length ≤ 16) (hA : ∃ pf, RoF w X 16 pf) (hg : GraP st cols R R) (hpr : PrpC st cols R cs) :
    Calls Tryz.prog 66 #[.pointer (some ⟨X, 0, none⟩), .int .i64 (v : Int)] w fun e w' => ∃ z a c ls', FrA w w' e X R vs b1 m1 d1 b2 m2 d2 g h cnt cs st cols v z a c ls' := by
  have hR8 : R ≤ 128 := by have := hm.head.fit; omega
  have q14 := (hB.box.all 14 _ hB.v14).1
  have r14 := (hB.box.all 14 _ hB.v14).2
  have KD := hide (cdrop_any X 14 cnt w q14 r14 (by omega))
  have hB1 := hB.drop (cnt + 1)
  have c1 : Chg (fun j => j = h ∨ j = X) w (w.setCell ⟨X, 14, none⟩ (.int .i64 ((cnt + 1 : Nat) : Int))) := Chg.of_set _ _ _ _ (.inr rfl)
  have q2 := (hB1.box.all 2 _ (by rw [List.getElem?_set_ne (by omega)]; exact hf)).1
  obtain ⟨pf, hpf⟩ := hA
  have KP := hide (cbarC_any X R _ b1 m1 d1 b2 m2 d2 g h (cnt + 1) cs ls st cols v _ hB1 (by simpa using hvl) pf (hpf.front 14 (by omega) _) hm hg hpr hv hb1 hb2 (fun i hi => ⟨(hcs i hi).1, by have := (hcs i hi).2; omega⟩) (fun j hj => by have := hls j hj; omega))
  have HC := hide hcs
  have HM := hide hm
  have HL := hide hls
  have HC1 := hide c1
  have HF := hide hf
  have HGP := hide (And.intro hg hpr)
  clear hcs hm hls hB hB1 c1 hf q14 r14 hpf hg hpr
  go_enter Tryz.func66, Tryz.ntmps66
  go_wp2_with fail
  refine (unhide KD).mono ?_
  rintro _ w1 ⟨⟨z0, rfl⟩, hw1⟩
  rw [← hw1] at q2 KP HC1
  clear KD hw1
  go_wp2_with fail
  refine (unhide KP).mono ?_
  rintro _ w2 ⟨⟨z1, rfl⟩, ls', hP⟩
  have hB2 := hP.bru
  have hM2 := hP.mks
  have hC2 := hP.chg
  have HA2 := hide hP.arr
  clear hP
  have KN := hide (cnumber_any (some ⟨g, 0, none⟩) R R (csL cs R) w2 (hB2.col.sli hR8) hR8 (fun i hi => by rw [csL_get hi]; have := (unhide HC i hi).2; omega) (fun e => by cases e))
  have q13 := (hB2.box.all 13 _ hB2.v13).1
  have HB2 := hide hB2
  have HMK := hide (show ∀ j, j < R → (ls' j = ((cnt + 1 : Nat) : Int) ↔ BarA st cols R cs v j) from fun j hj => by
    rw [hM2.iff j hj]
    have := unhide HL j hj
    exact ⟨fun z => z.elim (fun z => by omega) id, .inr⟩)
  have HLE := hide hM2.le
  have HC2 := hide ((unhide HC1).trans hC2)
  clear KP hB2 hM2 hC2 HC1 q2
  go_wp2_with fail
  refine (unhide KN).mono ?_
  rintro _ w3 ⟨zi, rfl, hN, b3⟩
  obtain ⟨hz0, hzk, _⟩ := numC_rng hN (unhide HC)
  obtain ⟨z, rfl⟩ : ∃ z : Nat, zi = (z : Int) := ⟨zi.toNat, by omega⟩
  have hw7 : IntKind.i64.wrap ((z : Int) + 1) = (z : Int) + 1 := by rw [wrap_i64n]; omega
  have HN := hide hN
  have HB3 := hide ((unhide HB2).below b3)
  have HC3 := hide ((unhide HC2).trans (Chg.of_below b3))
  have HA3 := hide (show ∃ pf, RoF w3 X 16 pf from by obtain ⟨p, k1⟩ := unhide HA2; exact ⟨p, k1.below b3⟩)
  have hzR : z < R := by omega
  obtain ⟨P, hP⟩ : ∃ P : Nat → Nat → Prop, P = (fun _ j => ¬ BarA st cols R cs v j) := ⟨_, rfl⟩
  have HP := hide hP
  obtain ⟨i64, hi, hz, hs, hb⟩ := info_parts Tryz.info_i64
  have HI := hide (And.intro hi (And.intro hz (And.intro hs hb)))
  have hone : ∀ y : Int, ∀ z ∈ [Value.int .i64 y], z.oneCell' = true := by intro y z hz; simp at hz; subst hz; rfl
  clear KN HB2 HC2 hN b3 hz0 hzk q13 hP hi hz hs hb
  go_wp2_with fail
  go_loopw [26, 5] (fun kv lv wr => ∃ j : Nat, j ≤ z + 1 ∧ kv = .int .i64 (j : Int) ∧ Hid (wr.ownsRow w3.heap.size 3 1 lv (grR P 0 j).length (valsI (grR P 0 j))) ∧ Hid (Below w3.heap.size w3 wr)) (fun kv _ _ => z + 1 - (intOf kv).toNat)
  case atStart => exact ⟨0, Nat.zero_le _, rfl, hide (by simpa [grR, valsI] using World.ownsRow_nil w3 w3.heap.size 3 1), hide (Below.refl _ _)⟩
  case round =>
    obtain ⟨j, hj, rfl, HO, HW⟩ := hrel
    by_cases hlt : j < z + 1
    · have hlt' : (j : Int) < (z : Int) + 1 := by omega
      have hjR : j < R := by omega
      have hbr := (unhide HB3).below (unhide HW)
      have q14 := (hbr.box.all 14 _ hbr.v14).1
      have q15 := (hbr.box.all 15 _ hbr.v15).1
      have KH := hide (chas_any X 14 h R ((cnt + 1 : Nat) : Int) j (ls' j) wr q14 q15 hjR hR8 (hbr.last j hjR).1)
      have hcl : (grR P 0 j).length ≤ 128 := by have := grR_len P 0 j; omega
      have hIF := unhide HMK j hjR
      clear hbr q14 q15
      by_cases hbp : BarA st cols R cs v j
      · have he : (ls' j == ((cnt + 1 : Nat) : Int)) = true := by rw [hIF.2 hbp]; simp
        rw [he] at KH
        have HN1 := hide (show grR P 0 (j + 1) = grR P 0 j from by
          have ht : tb (P 0 j) = false := by rw [unhide HP]; simp [tb, hbp]
          simp [grR, ht])
        clear he hIF hbp
        go_wp2_with fail
        refine (unhide KH).mono ?_
        rintro _ w4 ⟨rfl, b4⟩
        have HB4 := hide ((unhide HW).trans (b4.mono (unhide HW).size))
        have HO4 := hide (show w4.ownsRow w3.heap.size 3 1 u5 (grR P 0 (j + 1)).length (valsI (grR P 0 (j + 1))) from by rw [unhide HN1]; exact ownsRow_chg (S := fun _ => False) (unhide HO) (Chg.of_below b4) (fun _ _ x => x))
        clear KH b4
        go_wp2_with fail
        exact ⟨⟨j + 1, by omega, by (first | rfl | go_num), HO4, HB4⟩, by simp [intOf]; omega⟩
      · have he : (ls' j == ((cnt + 1 : Nat) : Int)) = false := by
          rw [Bool.eq_false_iff]; intro e; exact hbp (hIF.1 (by simpa using e))
        rw [he] at KH
        have HN1 := hide (show grR P 0 (j + 1) = grR P 0 j ++ [(j : Int)] from by
          have ht : tb (P 0 j) = true := by rw [unhide HP]; simp [tb, hbp]
          simp [grR, ht])
        clear he hIF hbp
        go_wp2_with fail
        refine (unhide KH).mono ?_
        rintro _ w4 ⟨rfl, b4⟩
        have HB4 := hide ((unhide HW).trans (b4.mono (unhide HW).size))
        obtain ⟨C, hC⟩ : ∃ C, grR P 0 j = C := ⟨_, rfl⟩
        rw [hC] at HO hcl HN1
        have HO4 := hide (ownsRow_chg (S := fun _ => False) (unhide HO) (Chg.of_below b4) (fun _ _ x => x))
        have hmx : C.length + 1 ≤ maxLen := by unfold maxLen; omega
        have hby : (C.length + 1) * 8 ≤ 140737488355328 := by omega
        have hsz := (unhide HB4).size
        clear hC KH b4 HO
        go_wp2_with (at_builtin; refine wpList_append_lies _ rfl _ _ 23 rfl w3.heap.size 3 i64 (.int .i64 0) 1 8 Tryz.underlying23 (unhide HI).1 (unhide HI).2.1 (unhide HI).2.2.1 (unhide HI).2.2.2 rfl (by decide) u5 C.length (valsI C) rfl ((unhide HO4).alloc _) ⟨w4.heap.size, 0, none⟩ 1 1 [.int .i64 (j : Int)] rfl rfl (World.news_of_block (alloc_block _ _)) (hone _) (by decide) hmx hby (by simp; omega) (w4.heap.size + 1) (by simp) ?_)
        intro g2 cap w5 hown hgr hat hlt5
        have hB5 : Below w3.heap.size w3 w5 := ((unhide HB4).trans (((Below.refl w3.heap.size w4).alloc hsz _))).grown hgr (by simp; omega) (fun j hj => (own_ge (unhide HO4) j hj).1)
        have HN := hide (show w5.ownsRow w3.heap.size 3 1 (.slice (some ⟨g2, 0, none⟩) (C.length + 1) cap) (grR P 0 (j + 1)).length (valsI (grR P 0 (j + 1))) from by
          rw [unhide HN1]
          simpa [valsI] using hown)
        have HB5 := hide hB5
        clear hown hgr hat hlt5 hB5
        go_wp2_with fail
        exact ⟨⟨j + 1, by omega, by (first | rfl | go_num), HN, HB5⟩, by simp [intOf]; omega⟩
    · obtain rfl : j = z + 1 := by omega
      have hlt' : ¬ ((z + 1 : Nat) : Int) < (z : Int) + 1 := by omega
      obtain ⟨a, c, hv', hs'⟩ := own_slI (unhide HO)
      have HNEW := hide (show ∀ z, a = some z → w3.heap.size ≤ z.block from fun z hz => (own_ge (unhide HO) z.block (by rw [hv', hz]; rfl)).1)
      have HSS := hide hs'
      subst hv'
      clear hs' HO
      go_wp2_with fail
      try go_ret
      have hP := unhide HP
      subst hP
      exact ⟨z, a, c, ls', unhide HN, rfl, unhide HSS, fun x hx => Nat.le_trans (unhide HC3).size (unhide HNEW x hx), (unhide HB3).below (unhide HW), unhide HLE, (unhide HC3).trans (Chg.of_below (unhide HW)), by obtain ⟨p, k1⟩ := unhide HA3; exact ⟨p, k1.below ((unhide HW))⟩⟩
structure LstA (st cols : List Int) (R : Nat) (cs : Nat → Int) (v y : Nat) : Prop where
  may : ¬ BarA st cols R cs v y
  bar : ∀ j, j < y → BarA st cols R cs v j
theorem LstA.one {st cols : List Int} {R : Nat} {cs : Nat → Int} {v y x : Nat} (h : LstA st cols R cs v y) (k : LstA st cols R cs v x) : y = x := by
  rcases Nat.lt_trichotomy y x with c | c | c
  · exact absurd (k.bar y c) h.may
  · exact c
  · exact absurd (h.bar x c) k.may
def PntA (st cols : List Int) (R : Nat) (xs : List Int) : Nat → (Nat → Int) → Prop
  | 0, cs => cs = fun _ => -1
  | k + 1, cs => ∃ cs0 y, PntA st cols R xs k cs0 ∧ LstA st cols R cs0 (xs.getD k 0).toNat y ∧ cs = updC cs0 (xs.getD k 0).toNat y
theorem PntA.one {st cols : List Int} {R : Nat} {xs : List Int} : ∀ {k : Nat} {cs ds : Nat → Int}, PntA st cols R xs k cs → PntA st cols R xs k ds → cs = ds
  | 0, _, _, h, g => by unfold PntA at h g; rw [h, g]
  | k + 1, _, _, ⟨c, y, h1, h2, h3⟩, ⟨d, x, g1, g2, g3⟩ => by
    have e := PntA.one h1 g1
    subst e
    have e := h2.one g2
    subst e
    rw [h3, g3]
theorem LstA.prp {st cols : List Int} {R : Nat} {cs : Nat → Int} {v y : Nat} (hm : MayP (R : Int) (R : Int) st cols) (hg : GraP st cols R R) (h : LstA st cols R cs v y) (hp : PrpC st cols R cs) : PrpC st cols R (updC cs v y) := by
  intro u w e hu
  have key : ∀ x, adG st cols R v x → cs x ≠ (y : Int) := fun x hx e2 => h.may (.inl ⟨(x : Int), (ad_row hm hx.1).1 hx, by rw [show ((x : Int)).toNat = x by omega]; exact e2⟩)
  have ir := adG.ir hg
  unfold updC at hu ⊢
  by_cases c1 : u = v
  · subst c1
    have c2 : w ≠ u := fun e2 => by subst e2; exact ir _ e
    rw [if_pos rfl, if_neg c2]
    exact (key w e).symm
  · rw [if_neg c1] at hu ⊢
    by_cases c2 : w = v
    · subst c2
      rw [if_pos rfl]
      exact key u (adG.sy hg _ _ e)
    · rw [if_neg c2]
      exact hp u w e hu
theorem PntA.prp {R n : Nat} {st cols xs : List Int} (hm : MayP (R : Int) (R : Int) st cols) (hg : GraP st cols R R) : ∀ {k : Nat} {cs : Nat → Int}, PntA st cols R xs k cs → PrpC st cols R cs
  | 0, cs, h => by unfold PntA at h; subst h; intro u v _ h0; simp at h0
  | k + 1, cs, ⟨c, y, h1, h2, h3⟩ => by
    subst h3
    exact h2.prp hm hg (PntA.prp (n := n) hm hg h1)
theorem PntA.rng {R n : Nat} {st cols xs : List Int} (hm : MayP (R : Int) (R : Int) st cols) (hg : GraP st cols R R) (hx : ∀ i, i < n → 0 ≤ xs.getD i 0 ∧ xs.getD i 0 < (R : Int)) : ∀ {k : Nat} {cs : Nat → Int}, k ≤ n → PntA st cols R xs k cs → ∀ i, -1 ≤ cs i ∧ cs i < (k : Int)
  | 0, cs, _, h, i => by unfold PntA at h; subst h; simp
  | k + 1, cs, hk, ⟨c, y, h1, h2, h3⟩, i => by
    have ih := PntA.rng hm hg hx (by omega) h1
    subst h3
    unfold updC
    split
    · cases y with
      | zero => omega
      | succ j =>
        obtain ⟨i', _, he⟩ := (h2.bar j (by omega)).used hm (PntA.prp (n := n) hm hg h1) (by have := hx k (by omega); omega)
        have := ih i'
        omega
    · have := ih i
      omega
theorem FrA.head {w w' : World} {e : Ending} {X R : Nat} {vs : List Value} {b1 : Option Addr} {m1 d1 : Nat} {b2 : Option Addr} {m2 d2 g h cnt : Nat} {cs : Nat → Int} {st cols : List Int} {v z : Nat} {a : Option Addr} {c : Nat} {ls' : Nat → Int} (hpr : PrpC st cols R cs) (k : FrA w w' e X R vs b1 m1 d1 b2 m2 d2 g h cnt cs st cols v z a c ls') (hm : MayP (R : Int) (R : Int) st cols) (hv : v < R) (hc : ∀ i, i < R → -1 ≤ cs i ∧ cs i < (R : Int)) : ∃ y : Nat, (grR (fun _ j => ¬ BarA st cols R cs v j) 0 (z + 1)).getD 0 0 = (y : Int) ∧ 0 < (grR (fun _ j => ¬ BarA st cols R cs v j) 0 (z + 1)).length ∧ LstA st cols R cs v y := by
  rcases grR_head (P := fun _ j => ¬ BarA st cols R cs v j) (u := 0) (z + 1) with ⟨_, h2⟩ | ⟨y, h1, h2, h3, h4⟩
  · exfalso
    refine h2 z (by omega) (fun hb => ?_)
    obtain ⟨i, hi, he⟩ := hb.used hm hpr hv
    have := (numC_rng k.num hc).2.2 i hi
    omega
  · exact ⟨y, h1, h2, h3, fun j hj => Classical.byContradiction (h4 j hj)⟩
structure FhA (w w' : World) (e : Ending) (X R : Nat) (vs : List Value) (b1 : Option Addr) (m1 d1 : Nat) (b2 : Option Addr) (m2 d2 : Nat) (g h cnt : Nat) (cs : Nat → Int) (st cols : List Int) (v : Nat) (y b off m c : Nat) (ls' : Nat → Int) : Prop where
  ret : e = .returned (.slice (some ⟨b, off, none⟩) m c)
  pos : 0 < m
  cell : w'.cell? ⟨b, off, none⟩ = some (.int .i64 (y : Int))
  lst : LstA st cols R cs v y
  bru : BrI w' X R (vs.set 14 (.int .i64 ((cnt + 1 : Nat) : Int))) b1 m1 d1 b2 m2 d2 g h (cnt + 1) cs ls' st cols
  le : ∀ j, j < R → ls' j ≤ ((cnt + 1 : Nat) : Int)
  chg : Chg (fun j => j = h ∨ j = X) w w'
  arr : ∃ pf, RoF w' X 16 pf
theorem cfree_hda (X R : Nat) (vs : List Value) (b1 : Option Addr) (m1 d1 : Nat) (b2 : Option Addr) (m2 d2 : Nat) (g h cnt : Nat) (cs ls : Nat → Int) (st cols : List Int) (v k : Nat) (w : World) (hB : BrI w X R vs b1 m1 d1 b2 m2 d2 g h cnt cs ls st cols) (hm : MayP (R : Int) (R : Int) st cols) (hv : v < R) (hb1 : m1 ≤ 17592186044000) (hb2 : m2 ≤ 17592186044000) (hcs : ∀ i, i < R → -1 ≤ cs i ∧ cs i < (k : Int)) (hk : k < R) (hls : ∀ j, j < R → ls j ≤ (cnt : Int)) (hcn : cnt ≤ 1000000) (hf : vs[2]? = some (.func (.func 104) #[] #[])) (hvl : vs.length ≤ 16) (hA : ∃ pf, RoF w X 16 pf) (hg : GraP st cols R R) (hpr : PrpC st cols R cs) :
    Calls Tryz.prog 66 #[.pointer (some ⟨X, 0, none⟩), .int .i64 (v : Int)] w fun e w' => ∃ y b off m c ls', FhA w w' e X R vs b1 m1 d1 b2 m2 d2 g h cnt cs st cols v y b off m c ls' := by
  refine (cfree_ac X R vs b1 m1 d1 b2 m2 d2 g h cnt cs ls st cols v k w hB hm hv hb1 hb2 hcs hk hls hcn hf hvl hA hg hpr).mono ?_
  rintro e w' ⟨z, a, c, ls', hF⟩
  obtain ⟨y, h1, h2, h3⟩ := hF.head hpr hm hv (fun i hi => ⟨(hcs i hi).1, by have := (hcs i hi).2; omega⟩)
  obtain ⟨b, off, ea, hc⟩ := hF.sl.at h2
  have h0 := hc 0 h2
  rw [h1, Nat.add_zero] at h0
  exact ⟨y, b, off, _, c, ls', by rw [hF.ret, ea], h2, h0, h3, hF.bru, hF.le, hF.chg, hF.arr⟩
structure PaA2 (w w' : World) (e : Ending) (X R : Nat) (g h : Nat) (st cols xs : List Int) (n : Nat) (cs : Nat → Int) : Prop where
  ret : e = .returned (.slice (some ⟨g, 0, none⟩) R R)
  pnt : PntA st cols R xs n cs
  row : RoV w' g R (fun i => .int .i64 (cs i))
  chg : Chg (fun j => j = g ∨ j = h ∨ j = X) w w'
set_option maxRecDepth 100000 in
set_option maxHeartbeats 16000000 in
theorem cpaint_ac (X R : Nat) (vs : List Value) (b1 : Option Addr) (m1 d1 : Nat) (b2 : Option Addr) (m2 d2 : Nat) (g h : Nat) (ls : Nat → Int) (st cols : List Int) (a : Option Addr) (n c : Nat) (xs : List Int) (w : World) (hB : BrI w X R vs b1 m1 d1 b2 m2 d2 g h 1 (fun _ => -1) ls st cols) (hm : MayP (R : Int) (R : Int) st cols) (hb1 : m1 ≤ 17592186044000) (hb2 : m2 ≤ 17592186044000) (hls : ∀ j, j < R → ls j ≤ 1) (hf : vs[2]? = some (.func (.func 104) #[] #[])) (hx : SlI w a n c xs) (hn : n ≤ R) (hrg : ∀ i, i < n → 0 ≤ xs.getD i 0 ∧ xs.getD i 0 < (R : Int)) (hap : ∀ z, a = some z → xs ≠ [] → z.block ≠ g ∧ z.block ≠ h ∧ z.block ≠ X) (hvl : vs.length ≤ 16) (hA : ∃ pf, RoF w X 16 pf) (hg : GraP st cols R R) :
    Calls Tryz.prog 41 #[.pointer (some ⟨X, 0, none⟩), .slice a n c] w fun e w' => ∃ cs, PaA2 w w' e X R g h st cols xs n cs := by
  have hR8 : R ≤ 128 := by have := hm.head.fit; omega
  have HX := hide hx
  have HM := hide hm
  have HRG := hide hrg
  have HAP := hide hap
  have H0 := hide (And.intro hB (And.intro hls (And.intro hf (And.intro hvl hA))))
  have HG := hide hg
  clear hB hm hls hf hx hrg hap hvl hA hg
  go_enter Tryz.func41, Tryz.ntmps41
  go_wp2_with fail
  go_loopw [9, 6] (fun kv _ wr => ∃ k : Nat, k ≤ n ∧ kv = .int .i64 (k : Int) ∧ Hid (∃ cs ls vs', BrI wr X R vs' b1 m1 d1 b2 m2 d2 g h (1 + k) cs ls st cols ∧ (∀ j, j < R → ls j ≤ ((1 + k : Nat) : Int)) ∧ vs'[2]? = some (.func (.func 104) #[] #[]) ∧ PntA st cols R xs k cs ∧ vs'.length ≤ 16 ∧ (∃ pf, RoF wr X 16 pf) ∧ Chg (fun j => j = g ∨ j = h ∨ j = X) w wr)) (fun kv _ _ => n - (intOf kv).toNat)
  case atStart => exact ⟨0, Nat.zero_le _, rfl, hide ⟨fun _ => -1, ls, vs, (unhide H0).1, (unhide H0).2.1, (unhide H0).2.2.1, rfl, (unhide H0).2.2.2.1, (unhide H0).2.2.2.2, Chg.refl _ _⟩⟩
  case round =>
    obtain ⟨k, hk, rfl, HK⟩ := hrel
    obtain ⟨cs, ls2, vs2, hbr, hle, hf2, hpn, hvl, hA, hch⟩ := unhide HK
    by_cases hlt : k < n
    · have hlt' : (k : Int) < (n : Int) := by omega
      obtain ⟨bb, off, e1, hc⟩ := ((unhide HX).chg hch (fun z hz hne e => by have := unhide HAP z hz hne; omega)).at (by omega)
      subst e1
      have sk := hc k hlt
      have hg := unhide HRG k hlt
      obtain ⟨v, hv⟩ : ∃ v : Nat, xs.getD k 0 = (v : Int) := ⟨(xs.getD k 0).toNat, by omega⟩
      rw [hv] at sk hg
      have hvR : v < R := by omega
      have hvR' : (v : Int) < (R : Int) := by omega
      have hrng := PntA.rng (unhide HM) (unhide HG) (unhide HRG) hk hpn
      have hprp := PntA.prp (n := n) (unhide HM) (unhide HG) hpn
      have q13 := (hbr.box.all 13 _ hbr.v13).1
      have KF := hide (fun W (b : Below wr.heap.size wr W) => cfree_hda X R vs2 b1 m1 d1 b2 m2 d2 g h (1 + k) cs ls2 st cols v k W (hbr.below b) (unhide HM) hvR hb1 hb2 (fun i _ => hrng i) (by omega) hle (by omega) hf2 hvl (by obtain ⟨p, k1⟩ := hA; exact ⟨p, k1.below b⟩) (unhide HG) hprp)
      have HST := hide (fun y (hl : LstA st cols R cs v y) => (show PntA st cols R xs (k + 1) (updC cs v y) from ⟨cs, y, hpn, by rw [hv]; exact hl, by rw [hv]; rfl⟩))
      have HCh := hide hch
      have HF2 := hide (And.intro hf2 hvl)
      have hgX := hbr.ne.2.1
      clear hc hv hg hrng hbr hle hf2 hpn hch HK hvl hA hprp
      go_wp2_with fail
      go_region_with
        (go_at_call 66; refine (unhide KF _ (by first | exact Below.refl _ _ | exact (Below.refl _ _).drew)).mono ?_; rintro _ w4 ⟨y, b4, o4, m4, c4, ls4, hF⟩; have e4 := hF.ret; subst e4; have hp4 : (0 : Int) < (m4 : Int) := (by have := hF.pos; omega); have hc4 := hF.cell; have k0 := (hF.bru.box.all 13 _ hF.bru.v13).1; have hcv := (hF.bru.col v hvR).1; have hfv := (hF.bru.col v hvR).2; have k1 := (Chg.of_set (S := fun j => j = g) w4 g v (.int .i64 (y : Int)) rfl).cell (b := X) (i := 13) (fun e => hgX e.symm) k0; have HF := hide hF; clear hF)
      all_goals
        have HN := hide (show ∃ cs ls vs', BrI (w4.setCell ⟨g, v, none⟩ (.int .i64 (y : Int))) X R vs' b1 m1 d1 b2 m2 d2 g h (1 + (k + 1)) cs ls st cols ∧ (∀ j, j < R → ls j ≤ ((1 + (k + 1) : Nat) : Int)) ∧ vs'[2]? = some (.func (.func 104) #[] #[]) ∧ PntA st cols R xs (k + 1) cs ∧ vs'.length ≤ 16 ∧ (∃ pf, RoF (w4.setCell ⟨g, v, none⟩ (.int .i64 (y : Int))) X 16 pf) ∧ Chg (fun j => j = g ∨ j = h ∨ j = X) w (w4.setCell ⟨g, v, none⟩ (.int .i64 (y : Int))) from
          ⟨updC cs v y, ls4, _, (show BrI _ X R _ b1 m1 d1 b2 m2 d2 g h (1 + k + 1) _ _ _ _ from (unhide HF).bru.paint v y hvR), (unhide HF).le, by rw [List.getElem?_set_ne (by omega)]; exact (unhide HF2).1, unhide HST y (unhide HF).lst, by rw [List.length_set]; exact (unhide HF2).2, (by obtain ⟨p, k1⟩ := (unhide HF).arr; exact ⟨p, k1.chg (S := fun j => j = g) (Chg.of_set _ _ _ _ rfl) (fun e => hgX e.symm)⟩), (unhide HCh).trans (Chg.trans (by first | exact (unhide HF).chg.mono (fun j _ e => .inr e) | exact (Chg.of_drew _).trans ((unhide HF).chg.mono (fun j _ e => .inr e))) (Chg.of_set _ _ _ _ (.inl rfl)))⟩)
        clear HF k0 k1 hcv hfv hc4 hp4
        go_wp2_with fail
        exact ⟨⟨k + 1, by omega, by (first | rfl | go_num), HN⟩, by simp [intOf]; omega⟩
    · obtain rfl : k = n := by omega
      have hlt' : ¬ (k : Int) < (k : Int) := by omega
      have q13 := (hbr.box.all 13 _ hbr.v13).1
      have HA := hide (show PaA2 w wr (.returned (.slice (some ⟨g, 0, none⟩) R R)) X R g h st cols xs k cs from ⟨rfl, hpn, hbr.col, hch⟩)
      clear hbr hle hf2 hpn hch HK hvl hA
      go_wp2_with fail
      try go_ret
      exact ⟨cs, unhide HA⟩
end Go.Proofs.YtgjokididdffhaaGreat
