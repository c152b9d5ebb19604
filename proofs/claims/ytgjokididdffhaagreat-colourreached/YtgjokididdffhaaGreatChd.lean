/- Chd -/
import Derived.Test.YtgjokididdffhaaGreatCh9
import Derived.Test.YtgjokididdffhaaGreatCg8
namespace Go.Proofs.YtgjokididdffhaaGreat
open Go.RowKit Go.Deep
set_option linter.unusedVariables false
def BarP (st cols : List Int) (cs : Nat → Int) (v k : Nat) : Prop := (∃ u ∈ rowL st cols v, cs u.toNat = (k : Int)) ∨ PaP st cols cs v (cldL cs (rowL st cols v)) (cldL cs (rowL st cols v)).length k
def csL (cs : Nat → Int) (R : Nat) : List Int := (List.range R).map cs
theorem csL_len (cs : Nat → Int) (R : Nat) : (csL cs R).length = R := by simp [csL]
theorem csL_get {cs : Nat → Int} {R i : Nat} (h : i < R) : (csL cs R).getD i 0 = cs i := by simp [csL, List.getD, h]
theorem RoV.sli {W : World} {g R : Nat} {cs : Nat → Int} (h : RoV W g R (fun i => .int .i64 (cs i))) (hR : R ≤ 128) : SlI W (some ⟨g, 0, none⟩) R R (csL cs R) :=
  ⟨csL_len cs R, Nat.le_refl _, by unfold maxLen; omega, .inr ⟨g, 0, rfl, fun i hi => by rw [csL_len] at hi; rw [csL_get hi, Nat.zero_add]; exact (h i hi).1⟩⟩
theorem numC_rng {cs : Nat → Int} {R k : Nat} {z : Int} (h : NumC (csL cs R) z) (hc : ∀ i, i < R → -1 ≤ cs i ∧ cs i < (k : Int)) : 0 ≤ z ∧ z ≤ (k : Int) ∧ ∀ i, i < R → cs i < z := by
  have hl := csL_len cs R
  unfold NumC at h
  rw [hl] at h
  have h0 := h.le 0 (by omega)
  simp at h0
  refine ⟨by omega, ?_, fun i hi => ?_⟩
  · obtain ⟨i, hi, he⟩ := h.at_
    cases i with
    | zero => simp at he; omega
    | succ i =>
      rw [List.getD_cons_succ, csL_get (by omega)] at he
      have := hc i (by omega)
      omega
  · have := h.le (i + 1) (by omega)
    rw [List.getD_cons_succ, csL_get hi] at this
    omega
theorem BarP.used {st cols : List Int} {cs : Nat → Int} {R v k : Nat} (hm : MayP (R : Int) (R : Int) st cols) (hv : v < R) (h : BarP st cols cs v k) : ∃ i, i < R ∧ cs i = (k : Int) := by
  have hrow : ∀ {v : Nat}, v < R → ∀ {u : Int}, u ∈ rowL st cols v → 0 ≤ u ∧ u < (R : Int) := fun {v} hv {u} hu => by
    by_cases e : (fun _ : Nat => (0 : Int)) u.toNat = -1
    · simp at e
    · have := cld_rng (cs := fun _ => 0) hm hv (cldL_mem.2 ⟨hu, e⟩)
      omega
  rcases h with ⟨u, hu, he⟩ | ⟨p, hp, x, hx, he, _⟩
  · have := hrow hv hu
    exact ⟨u.toNat, by omega, he⟩
  · have hL := cld_rng (cs := cs) hm hv (mem_getD.2 ⟨p, hp, rfl⟩)
    have hX := cld_rng (cs := cs) hm (v := ((cldL cs (rowL st cols v)).getD p 0).toNat) (by omega) hx
    exact ⟨x.toNat, by omega, he⟩
theorem BrI.drop {W : World} {X R : Nat} {vs : List Value} {b1 : Option Addr} {m1 d1 : Nat} {b2 : Option Addr} {m2 d2 : Nat} {g h cnt : Nat} {cs ls : Nat → Int} {st cols : List Int} (k : BrI W X R vs b1 m1 d1 b2 m2 d2 g h cnt cs ls st cols) (n : Nat) : BrI (W.setCell ⟨X, 14, none⟩ (.int .i64 (n : Int))) X R (vs.set 14 (.int .i64 (n : Int))) b1 m1 d1 b2 m2 d2 g h n cs ls st cols := by
  have c : Chg (fun j => j = X) W (W.setCell ⟨X, 14, none⟩ (.int .i64 (n : Int))) := Chg.of_set _ _ _ _ rfl
  have hl := (List.getElem?_eq_some_iff.1 k.v14).1
  refine ⟨k.box.put 14 _, ?_, ?_, ?_, ?_, ?_, ?_, ?_, k.col.chg c k.ne.2.1, k.last.chg c k.ne.2.2, k.s1.chg c (fun z hz hne => (k.o1 z hz hne).1), k.s2.chg c (fun z hz hne => (k.o2 z hz hne).1), k.o1, k.o2, k.ne⟩
  · rw [List.getElem?_set_ne (by omega)]; exact k.v9
  · rw [List.getElem?_set_ne (by omega)]; exact k.v10
  · rw [List.getElem?_set_ne (by omega)]; exact k.v11
  · rw [List.getElem?_set_ne (by omega)]; exact k.v12
  · rw [List.getElem?_set_ne (by omega)]; exact k.v13
  · rw [List.getElem?_set_self hl]
  · rw [List.getElem?_set_ne (by omega)]; exact k.v15
structure FrP (w w' : World) (e : Ending) (X R : Nat) (vs : List Value) (b1 : Option Addr) (m1 d1 : Nat) (b2 : Option Addr) (m2 d2 : Nat) (g h cnt : Nat) (cs : Nat → Int) (st cols : List Int) (v : Nat) (z : Nat) (a : Option Addr) (c : Nat) (ls' : Nat → Int) : Prop where
  num : NumC (csL cs R) (z : Int)
  ret : e = .returned (.slice a (grR (fun _ j => ¬ BarP st cols cs v j) 0 (z + 1)).length c)
  sl : SlI w' a (grR (fun _ j => ¬ BarP st cols cs v j) 0 (z + 1)).length c (grR (fun _ j => ¬ BarP st cols cs v j) 0 (z + 1))
  new : ∀ x, a = some x → w.heap.size ≤ x.block
  bru : BrI w' X R (vs.set 14 (.int .i64 ((cnt + 1 : Nat) : Int))) b1 m1 d1 b2 m2 d2 g h (cnt + 1) cs ls' st cols
  le : ∀ j, j < R → ls' j ≤ ((cnt + 1 : Nat) : Int)
  chg : Chg (fun j => j = h ∨ j = X) w w'
set_option maxRecDepth 100000 in
set_option maxHeartbeats 16000000 in
theorem cfree_star (X R : Nat) (vs : List Value) (b1 : Option Addr) (m1 d1 : Nat) (b2 : Option Addr) (m2 d2 : Nat) (g h cnt : Nat) (cs ls : Nat → Int) (st cols : List Int) (v k : Nat) (w : World) (hB : BrI w X R vs b1 m1 d1 b2 m2 d2 g h cnt cs ls st cols) (hm : MayP (R : Int) (R : Int) st cols) (hv : v < R) (hb1 : m1 ≤ 17592186044000) (hb2 : m2 ≤ 17592186044000) (hcs : ∀ i, i < R → -1 ≤ cs i ∧ cs i < (k : Int)) (hk : k < R) (hls : ∀ j, j < R → ls j ≤ (cnt : Int)) (hcn : cnt ≤ 1000000) (hf : vs[2]? = some (.func (.func 102) #[] #[])) :
    Calls Tryz.prog 66 #[.pointer (some ⟨X, 0, none⟩), .int .i64 (v : Int)] w fun e w' => ∃ z a c ls', FrP w w' e X R vs b1 m1 d1 b2 m2 d2 g h cnt cs st cols v z a c ls' := by
  have hR8 : R ≤ 128 := by have := hm.head.fit; omega
  have q14 := (hB.box.all 14 _ hB.v14).1
  have r14 := (hB.box.all 14 _ hB.v14).2
  have KD := hide (cdrop_any X 14 cnt w q14 r14 (by omega))
  have hB1 := hB.drop (cnt + 1)
  have c1 : Chg (fun j => j = h ∨ j = X) w (w.setCell ⟨X, 14, none⟩ (.int .i64 ((cnt + 1 : Nat) : Int))) := Chg.of_set _ _ _ _ (.inr rfl)
  have q2 := (hB1.box.all 2 _ (by rw [List.getElem?_set_ne (by omega)]; exact hf)).1
  have KP := hide (cbarP_any X R _ b1 m1 d1 b2 m2 d2 g h (cnt + 1) cs ls st cols v _ hB1 hm hv hb1 hb2 (fun i hi => ⟨(hcs i hi).1, by have := (hcs i hi).2; omega⟩) (fun j hj => by have := hls j hj; omega))
  have HC := hide hcs
  have HM := hide hm
  have HL := hide hls
  have HC1 := hide c1
  have HF := hide hf
  clear hcs hm hls hB hB1 c1 hf q14 r14
  go_enter Tryz.func66, Tryz.ntmps66
  go_wp2_with fail
  refine (unhide KD).mono ?_
  rintro _ w1 ⟨⟨z0, rfl⟩, hw1⟩
  rw [← hw1] at q2 KP HC1
  clear KD hw1
  go_wp2_with fail
  refine (unhide KP).mono ?_
  rintro _ w2 ⟨⟨z1, rfl⟩, ls', hB2, hM2, hC2⟩
  have KN := hide (cnumber_any (some ⟨g, 0, none⟩) R R (csL cs R) w2 (hB2.col.sli hR8) hR8 (fun i hi => by rw [csL_get hi]; have := (unhide HC i hi).2; omega) (fun e => by cases e))
  have q13 := (hB2.box.all 13 _ hB2.v13).1
  have HB2 := hide hB2
  have HMK := hide (show ∀ j, j < R → (ls' j = ((cnt + 1 : Nat) : Int) ↔ BarP st cols cs v j) from fun j hj => by
    rw [hM2.iff j hj]
    have := unhide HL j hj
    exact ⟨fun z => z.elim (fun z => by omega) id, .inr⟩)
  have HLE := hide hM2.le
  have HC2 := hide ((unhide HC1).trans (hC2.mono (fun j _ e => .inl e)))
  clear KP hB2 hM2 hC2 HC1 q2
  go_wp2_with fail
  refine (unhide KN).mono ?_
  rintro _ w3 ⟨zi, rfl, hN, b3⟩
  obtain ⟨hz0, hzk, _⟩ := numC_rng hN (unhide HC)
  obtain ⟨z, rfl⟩ : ∃ z : Nat, zi = (z : Int) := ⟨zi.toNat, by omega⟩
  have hw7 : IntKind.i64.wrap ((z : Int) + 1) = (z : Int) + 1 := by rw [wrap_i64n]; omega
  have HN := hide hN
  have HB3 := hide ((unhide HB2).below b3)
  have HC3 := hide ((unhide HC2).trans (Chg.of_below b3))
  have hzR : z < R := by omega
  obtain ⟨P, hP⟩ : ∃ P : Nat → Nat → Prop, P = (fun _ j => ¬ BarP st cols cs v j) := ⟨_, rfl⟩
  have HP := hide hP
  obtain ⟨i64, hi, hz, hs, hb⟩ := info_parts Tryz.info_i64
  have HI := hide (And.intro hi (And.intro hz (And.intro hs hb)))
  have hone : ∀ y : Int, ∀ z ∈ [Value.int .i64 y], z.oneCell' = true := by intro y z hz; simp at hz; subst hz; rfl
  clear KN HB2 HC2 hN b3 hz0 hzk q13 hP hi hz hs hb
  go_wp2_with fail
  go_loopw [26, 5] (fun kv lv wr => ∃ j : Nat, j ≤ z + 1 ∧ kv = .int .i64 (j : Int) ∧ Hid (wr.ownsRow w3.heap.size 3 1 lv (grR P 0 j).length (valsI (grR P 0 j))) ∧ Hid (Below w3.heap.size w3 wr)) (fun kv _ _ => z + 1 - (intOf kv).toNat)
  case atStart => exact ⟨0, Nat.zero_le _, rfl, hide (by simpa [grR, valsI] using World.ownsRow_nil w3 w3.heap.size 3 1), hide (Below.refl _ _)⟩
  case round =>
    obtain ⟨j, hj, rfl, HO, HW⟩ := hrel
    by_cases hlt : j < z + 1
    · have hlt' : (j : Int) < (z : Int) + 1 := by omega
      have hjR : j < R := by omega
      have hbr := (unhide HB3).below (unhide HW)
      have q14 := (hbr.box.all 14 _ hbr.v14).1
      have q15 := (hbr.box.all 15 _ hbr.v15).1
      have KH := hide (chas_any X 14 h R ((cnt + 1 : Nat) : Int) j (ls' j) wr q14 q15 hjR hR8 (hbr.last j hjR).1)
      have hcl : (grR P 0 j).length ≤ 128 := by have := grR_len P 0 j; omega
      have hIF := unhide HMK j hjR
      clear hbr q14 q15
      by_cases hbp : BarP st cols cs v j
      · have he : (ls' j == ((cnt + 1 : Nat) : Int)) = true := by rw [hIF.2 hbp]; simp
        rw [he] at KH
        have HN1 := hide (show grR P 0 (j + 1) = grR P 0 j from by
          have ht : tb (P 0 j) = false := by rw [unhide HP]; simp [tb, hbp]
          simp [grR, ht])
        clear he hIF hbp
        go_wp2_with fail
        refine (unhide KH).mono ?_
        rintro _ w4 ⟨rfl, b4⟩
        have HB4 := hide ((unhide HW).trans (b4.mono (unhide HW).size))
        have HO4 := hide (show w4.ownsRow w3.heap.size 3 1 u5 (grR P 0 (j + 1)).length (valsI (grR P 0 (j + 1))) from by rw [unhide HN1]; exact ownsRow_chg (S := fun _ => False) (unhide HO) (Chg.of_below b4) (fun _ _ x => x))
        clear KH b4
        go_wp2_with fail
        exact ⟨⟨j + 1, by omega, by (first | rfl | go_num), HO4, HB4⟩, by simp [intOf]; omega⟩
      · have he : (ls' j == ((cnt + 1 : Nat) : Int)) = false := by
          rw [Bool.eq_false_iff]; intro e; exact hbp (hIF.1 (by simpa using e))
        rw [he] at KH
        have HN1 := hide (show grR P 0 (j + 1) = grR P 0 j ++ [(j : Int)] from by
          have ht : tb (P 0 j) = true := by rw [unhide HP]; simp [tb, hbp]
          simp [grR, ht])
        clear he hIF hbp
        go_wp2_with fail
        refine (unhide KH).mono ?_
        rintro _ w4 ⟨rfl, b4⟩
        have HB4 := hide ((unhide HW).trans (b4.mono (unhide HW).size))
        obtain ⟨C, hC⟩ : ∃ C, grR P 0 j = C := ⟨_, rfl⟩
        rw [hC] at HO hcl HN1
        have HO4 := hide (ownsRow_chg (S := fun _ => False) (unhide HO) (Chg.of_below b4) (fun _ _ x => x))
        have hmx : C.length + 1 ≤ maxLen := by unfold maxLen; omega
        have hby : (C.length + 1) * 8 ≤ 140737488355328 := by omega
        have hsz := (unhide HB4).size
        clear hC KH b4 HO
        go_wp2_with (at_builtin; refine wpList_append_lies _ rfl _ _ 23 rfl w3.heap.size 3 i64 (.int .i64 0) 1 8 Tryz.underlying23 (unhide HI).1 (unhide HI).2.1 (unhide HI).2.2.1 (unhide HI).2.2.2 rfl (by decide) u5 C.length (valsI C) rfl ((unhide HO4).alloc _) ⟨w4.heap.size, 0, none⟩ 1 1 [.int .i64 (j : Int)] rfl rfl (World.news_of_block (alloc_block _ _)) (hone _) (by decide) hmx hby (by simp; omega) (w4.heap.size + 1) (by simp) ?_)
        intro g2 cap w5 hown hgr hat hlt5
        have hB5 : Below w3.heap.size w3 w5 := ((unhide HB4).trans (((Below.refl w3.heap.size w4).alloc hsz _))).grown hgr (by simp; omega) (fun j hj => (own_ge (unhide HO4) j hj).1)
        have HN := hide (show w5.ownsRow w3.heap.size 3 1 (.slice (some ⟨g2, 0, none⟩) (C.length + 1) cap) (grR P 0 (j + 1)).length (valsI (grR P 0 (j + 1))) from by
          rw [unhide HN1]
          simpa [valsI] using hown)
        have HB5 := hide hB5
        clear hown hgr hat hlt5 hB5
        go_wp2_with fail
        exact ⟨⟨j + 1, by omega, by (first | rfl | go_num), HN, HB5⟩, by simp [intOf]; omega⟩
    · obtain rfl : j = z + 1 := by omega
      have hlt' : ¬ ((z + 1 : Nat) : Int) < (z : Int) + 1 := by omega
      obtain ⟨a, c, hv', hs'⟩ := own_slI (unhide HO)
      have HNEW := hide (show ∀ z, a = some z → w3.heap.size ≤ z.block from fun z hz => (own_ge (unhide HO) z.block (by rw [hv', hz]; rfl)).1)
      have HSS := hide hs'
      subst hv'
      clear hs' HO
      go_wp2_with fail
      try go_ret
      have hP := unhide HP
      subst hP
      exact ⟨z, a, c, ls', unhide HN, rfl, unhide HSS, fun x hx => Nat.le_trans (unhide HC3).size (unhide HNEW x hx), (unhide HB3).below (unhide HW), unhide HLE, (unhide HC3).trans (Chg.of_below (unhide HW))⟩
end Go.Proofs.YtgjokididdffhaaGreat
