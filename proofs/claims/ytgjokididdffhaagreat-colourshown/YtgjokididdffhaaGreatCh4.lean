/- Chd -/
import Derived.Test.YtgjokididdffhaaGreatCh9
import Derived.Test.YtgjokididdffhaaGreatCg8
import Derived.Test.YtgjokididdffhaaGreatCh2
namespace Go.Proofs.YtgjokididdffhaaGreat
open Go.RowKit Go.Deep
set_option linter.unusedVariables false
def BarP (st cols : List Int) (cs : Nat → Int) (v k : Nat) : Prop := (∃ u ∈ rowL st cols v, cs u.toNat = (k : Int)) ∨ PaP st cols cs v (cldL cs (rowL st cols v)) (cldL cs (rowL st cols v)).length k
def csL (cs : Nat → Int) (R : Nat) : List Int := (List.range R).map cs
theorem csL_len (cs : Nat → Int) (R : Nat) : (csL cs R).length = R := by simp [csL]
theorem csL_get {cs : Nat → Int} {R i : Nat} (h : i < R) : (csL cs R).getD i 0 = cs i := by simp [csL, List.getD, h]
theorem RoV.sli {W : World} {g R : Nat} {cs : Nat → Int} (h : RoV W g R (fun i => .int .i64 (cs i))) (hR : R ≤ 128) : SlI W (some ⟨g, 0, none⟩) R R (csL cs R) :=
  ⟨csL_len cs R, Nat.le_refl _, by unfold maxLen; omega, .inr ⟨g, 0, rfl, fun i hi => by rw [csL_len] at hi; rw [csL_get hi, Nat.zero_add]; exact (h i hi).1⟩⟩
theorem numC_rng {cs : Nat → Int} {R k : Nat} {z : Int} (h : NumC (csL cs R) z) (hc : ∀ i, i < R → -1 ≤ cs i ∧ cs i < (k : Int)) : 0 ≤ z ∧ z ≤ (k : Int) ∧ ∀ i, i < R → cs i < z := by
  have hl := csL_len cs R
  unfold NumC at h
  rw [hl] at h
  have h0 := h.le 0 (by omega)
  simp at h0
  refine ⟨by omega, ?_, fun i hi => ?_⟩
  · obtain ⟨i, hi, he⟩ := h.at_
    cases i with
    | zero => simp at he; omega
    | succ i =>
      rw [List.getD_cons_succ, csL_get (by omega)] at he
      have := hc i (by omega)
      omega
  · have := h.le (i + 1) (by omega)
    rw [List.getD_cons_succ, csL_get hi] at this
    omega
theorem BarP.used {st cols : List Int} {cs : Nat → Int} {R v k : Nat} (hm : MayP (R : Int) (R : Int) st cols) (hv : v < R) (h : BarP st cols cs v k) : ∃ i, i < R ∧ cs i = (k : Int) := by
  have hrow : ∀ {v : Nat}, v < R → ∀ {u : Int}, u ∈ rowL st cols v → 0 ≤ u ∧ u < (R : Int) := fun {v} hv {u} hu => by
    by_cases e : (fun _ : Nat => (0 : Int)) u.toNat = -1
    · simp at e
    · have := cld_rng (cs := fun _ => 0) hm hv (cldL_mem.2 ⟨hu, e⟩)
      omega
  rcases h with ⟨u, hu, he⟩ | ⟨p, hp, x, hx, he, _⟩
  · have := hrow hv hu
    exact ⟨u.toNat, by omega, he⟩
  · have hL := cld_rng (cs := cs) hm hv (mem_getD.2 ⟨p, hp, rfl⟩)
    have hX := cld_rng (cs := cs) hm (v := ((cldL cs (rowL st cols v)).getD p 0).toNat) (by omega) hx
    exact ⟨x.toNat, by omega, he⟩
theorem BrI.drop {W : World} {X R : Nat} {vs : List Value} {b1 : Option Addr} {m1 d1 : Nat} {b2 : Option Addr} {m2 d2 : Nat} {g h cnt : Nat} {cs ls : Nat → Int} {st cols : List Int} (k : BrI W X R vs b1 m1 d1 b2 m2 d2 g h cnt cs ls st cols) (n : Nat) : BrI (W.setCell ⟨X, 14, none⟩ (.int .i64 (n : Int))) X R (vs.set 14 (.int .i64 (n : Int))) b1 m1 d1 b2 m2 d2 g h n cs ls st cols := by
  have c : Chg (fun j => j = X) W (W.setCell ⟨X, 14, none⟩ (.int .i64 (n : Int))) := Chg.of_set _ _ _ _ rfl
  have hl := (List.getElem?_eq_some_iff.1 k.v14).1
  refine ⟨k.box.put 14 _, ?_, ?_, ?_, ?_, ?_, ?_, ?_, k.col.chg c k.ne.2.1, k.last.chg c k.ne.2.2, k.s1.chg c (fun z hz hne => (k.o1 z hz hne).1), k.s2.chg c (fun z hz hne => (k.o2 z hz hne).1), k.o1, k.o2, k.ne⟩
  · rw [List.getElem?_set_ne (by omega)]; exact k.v9
  · rw [List.getElem?_set_ne (by omega)]; exact k.v10
  · rw [List.getElem?_set_ne (by omega)]; exact k.v11
  · rw [List.getElem?_set_ne (by omega)]; exact k.v12
  · rw [List.getElem?_set_ne (by omega)]; exact k.v13
  · rw [List.getElem?_set_self hl]
  · rw [List.getElem?_set_ne (by omega)]; exact k.v15
structure FrP (w w' : World) (e : Ending) (X R : Nat) (vs : List Value) (b1 : Option Addr) (m1 d1 : Nat) (b2 : Option Addr) (m2 d2 : Nat) (g h cnt : Nat) (cs : Nat → Int) (st cols : List Int) (v : Nat) (z : Nat) (a : Option Addr) (c : Nat) (ls' : Nat → Int) : Prop where
  num : NumC (csL cs R) (z : Int)
  ret : e = .returned (.slice a (grR (fun _ j => ¬ BarP st cols cs v j) 0 (z + 1)).length c)
  sl : SlI w' a (grR (fun _ j => ¬ BarP st cols cs v j) 0 (z + 1)).length c (grR (fun _ j => ¬ BarP st cols cs v j) 0 (z + 1))
  new : ∀ x, a = some x → w.heap.size ≤ x.block
  bru : BrI w' X R (vs.set 14 (.int .i64 ((cnt + 1 : Nat) : Int))) b1 m1 d1 b2 m2 d2 g h (cnt + 1) cs ls' st cols
  le : ∀ j, j < R → ls' j ≤ ((cnt + 1 : Nat) : Int)
  chg : Chg (fun j => j = h ∨ j = X) w w'
set_option maxRecDepth 100000 in
set_option maxHeartbeats 16000000 in
theorem cfree_star (X R : Nat) (vs : List Value) (b1 : Option Addr) (m1 d1 : Nat) (b2 : Option Addr) (m2 d2 : Nat) (g h cnt : Nat) (cs ls : Nat → Int) (st cols : List Int) (v k : Nat) (w : World) (hB : BrI w X R vs b1 m1 d1 b2 m2 d2 g h cnt cs ls st cols) (hm : MayP (R : Int) (R : Int) st cols) (hv : v < R) (hb1 : m1 ≤ 17592186044000) (hb2 : m2 ≤ 17592186044000) (hcs : ∀ i, i < R → -1 ≤ cs i ∧ cs i < (k : Int)) (hk : k < R) (hls : ∀ j, j < R → ls j ≤ (cnt : Int)) (hcn : cnt ≤ 1000000) (hf : vs[2]? = some (.func (.func 102) #[] #[])) :
    Calls Tryz.prog 66 #[.pointer (some ⟨X, 0, none⟩), .int .i64 (v : Int)] w fun e w' => ∃ z a c ls', FrP w w' e X R vs b1 m1 d1 b2 m2 d2 g h cnt cs st cols v z a c ls' := by
  have hR8 : R ≤ 128 := by have := hm.head.fit; omega
  have q14 := (hB.box.all 14 _ hB.v14).1
  have r14 := (hB.box.all 14 _ hB.v14).2
  have KD := hide (cdrop_any X 14 cnt w q14 r14 (by omega))
  have hB1 := hB.drop (cnt + 1)
  have c1 : Chg (fun j => j = h ∨ j = X) w (w.setCell ⟨X, 14, none⟩ (.int .i64 ((cnt + 1 : Nat) : Int))) := Chg.of_set _ _ _ _ (.inr rfl)
  have q2 := (hB1.box.all 2 _ (by rw [List.getElem?_set_ne (by omega)]; exact hf)).1
  have KP := hide (cbarP_any X R _ b1 m1 d1 b2 m2 d2 g h (cnt + 1) cs ls st cols v _ hB1 hm hv hb1 hb2 (fun i hi => ⟨(hcs i hi).1, by have := (hcs i hi).2; omega⟩) (fun j hj => by have := hls j hj; omega))
  have HC := hide hcs
  have HM := hide hm
  have HL := hide hls
  have HC1 := hide c1
  have HF := hide hf
  clear hcs hm hls hB hB1 c1 hf q14 r14
  go_enter Tryz.func66, Tryz.ntmps66
  go_wp2_with fail
  refine (unhide KD).mono ?_
  rintro _ w1 ⟨⟨z0, rfl⟩, hw1⟩
  rw [← hw1] at q2 KP HC1
  clear KD hw1
  go_wp2_with fail
  refine (unhide KP).mono ?_
  rintro _ w2 ⟨⟨z1, rfl⟩, ls', hB2, hM2, hC2⟩
  have KN := hide (cnumber_any (some ⟨g, 0, none⟩) R R (csL cs R) w2 (hB2.col.sli hR8) hR8 (fun i hi => by rw [csL_get hi]; have := (unhide HC i hi).2; omega) (fun e => by cases e))
  have q13 := (hB2.box.all 13 _ hB2.v13).1
  have HB2 := hide hB2
  have HMK := hide (show ∀ j, j < R → (ls' j = ((cnt + 1 : Nat) : Int) ↔ BarP st cols cs v j) from fun j hj => by
    rw [hM2.iff j hj]
    have := unhide HL j hj
    exact ⟨fun z => z.elim (fun z => by omega) id, .inr⟩)
  have HLE := hide hM2.le
  have HC2 := hide ((unhide HC1).trans (hC2.mono (fun j _ e => .inl e)))
  clear KP hB2 hM2 hC2 HC1 q2
  go_wp2_with fail
  refine (unhide KN).mono ?_
  rintro _ w3 ⟨zi, rfl, hN, b3⟩
  obtain ⟨hz0, hzk, _⟩ := numC_rng hN (unhide HC)
  obtain ⟨z, rfl⟩ : ∃ z : Nat, zi = (z : Int) := ⟨zi.toNat, by omega⟩
  have hw7 : IntKind.i64.wrap ((z : Int) + 1) = (z : Int) + 1 := by rw [wrap_i64n]; omega
  have HN := hide hN
  have HB3 := hide ((unhide HB2).below b3)
  have HC3 := hide ((unhide HC2).trans (Chg.of_below b3))
  have hzR : z < R := by omega
  obtain ⟨P, hP⟩ : ∃ P : Nat → Nat → Prop, P = (fun _ j => ¬ BarP st cols cs v j) := ⟨_, rfl⟩
  have HP := hide hP
  obtain ⟨i64, hi, hz, hs, hb⟩ := info_parts Tryz.info_i64
  have HI := hide (And.intro hi (And.intro hz (And.intro hs hb)))
  have hone : ∀ y : Int, ∀ z ∈ [Value.int .i64 y], z.oneCell' = true := by intro y z hz; simp at hz; subst hz; rfl
  clear KN HB2 HC2 hN b3 hz0 hzk q13 hP hi hz hs hb
  go_wp2_with fail
  go_loopw [26, 5] (fun kv lv wr => ∃ j : Nat, j ≤ z + 1 ∧ kv = .int .i64 (j : Int) ∧ Hid (wr.ownsRow w3.heap.size 3 1 lv (grR P 0 j).length (valsI (grR P 0 j))) ∧ Hid (Below w3.heap.size w3 wr)) (fun kv _ _ => z + 1 - (intOf kv).toNat)
  case atStart => exact ⟨0, Nat.zero_le _, rfl, hide (by simpa [grR, valsI] using World.ownsRow_nil w3 w3.heap.size 3 1), hide (Below.refl _ _)⟩
  case round =>
    obtain ⟨j, hj, rfl, HO, HW⟩ := hrel
    by_cases hlt : j < z + 1
    · have hlt' : (j : Int) < (z : Int) + 1 := by omega
      have hjR : j < R := by omega
      have hbr := (unhide HB3).below (unhide HW)
      have q14 := (hbr.box.all 14 _ hbr.v14).1
      have q15 := (hbr.box.all 15 _ hbr.v15).1
      have KH := hide (chas_any X 14 h R ((cnt + 1 : Nat) : Int) j (ls' j) wr q14 q15 hjR hR8 (hbr.last j hjR).1)
      have hcl : (grR P 0 j).length ≤ 128 := by have := grR_len P 0 j; omega
      have hIF := unhide HMK j hjR
      clear hbr q14 q15
      by_cases hbp : BarP st cols cs v j
      · have he : (ls' j == ((cnt + 1 : Nat) : Int)) = true := by rw [hIF.2 hbp]; simp
        rw [he] at KH
        have HN1 := hide (show grR P 0 (j + 1) = grR P 0 j from by
          have ht : tb (P 0 j) = false := by rw [unhide HP]; simp [tb, hbp]
          simp [grR, ht])
        clear he hIF hbp
        go_wp2_with fail
        refine (unhide KH).mono ?_
        rintro _ w4 ⟨rfl, b4⟩
        have HB4 := hide ((unhide HW).trans (b4.mono (unhide HW).size))
        have HO4 := hide (show w4.ownsRow w3.heap.size 3 1 u5 (grR P 0 (j + 1)).length (valsI (grR P 0 (j + 1))) from by rw [unhide HN1]; exact ownsRow_chg (S := fun _ => False) (unhide HO) (Chg.of_below b4) (fun _ _ x => x))
        clear KH b4
        go_wp2_with fail
        exact ⟨⟨j + 1, by omega, by (first | rfl | go_num), HO4, HB4⟩, by simp [intOf]; omega⟩
      · have he : (ls' j == ((cnt + 1 : Nat) : Int)) = false := by
          rw [Bool.eq_false_iff]; intro e; exact hbp (hIF.1 (by simpa using e))
        rw [he] at KH
        have HN1 := hide (show grR P 0 (j + 1) = grR P 0 j ++ [(j : Int)] from by
          have ht : tb (P 0 j) = true := by rw [unhide HP]; simp [tb, hbp]
          simp [grR, ht])
        clear he hIF hbp
        go_wp2_with fail
        refine (unhide KH).mono ?_
        rintro _ w4 ⟨rfl, b4⟩
        have HB4 := hide ((unhide HW).trans (b4.mono (unhide HW).size))
        obtain ⟨C, hC⟩ : ∃ C, grR P 0 j = C := ⟨_, rfl⟩
        rw [hC] at HO hcl HN1
        have HO4 := hide (ownsRow_chg (S := fun _ => False) (unhide HO) (Chg.of_below b4) (fun _ _ x => x))
        have hmx : C.length + 1 ≤ maxLen := by unfold maxLen; omega
        have hby : (C.length + 1) * 8 ≤ 140737488355328 := by omega
        have hsz := (unhide HB4).size
        clear hC KH b4 HO
        go_wp2_with (at_builtin; refine wpList_append_lies _ rfl _ _ 23 rfl w3.heap.size 3 i64 (.int .i64 0) 1 8 Tryz.underlying23 (unhide HI).1 (unhide HI).2.1 (unhide HI).2.2.1 (unhide HI).2.2.2 rfl (by decide) u5 C.length (valsI C) rfl ((unhide HO4).alloc _) ⟨w4.heap.size, 0, none⟩ 1 1 [.int .i64 (j : Int)] rfl rfl (World.news_of_block (alloc_block _ _)) (hone _) (by decide) hmx hby (by simp; omega) (w4.heap.size + 1) (by simp) ?_)
        intro g2 cap w5 hown hgr hat hlt5
        have hB5 : Below w3.heap.size w3 w5 := ((unhide HB4).trans (((Below.refl w3.heap.size w4).alloc hsz _))).grown hgr (by simp; omega) (fun j hj => (own_ge (unhide HO4) j hj).1)
        have HN := hide (show w5.ownsRow w3.heap.size 3 1 (.slice (some ⟨g2, 0, none⟩) (C.length + 1) cap) (grR P 0 (j + 1)).length (valsI (grR P 0 (j + 1))) from by
          rw [unhide HN1]
          simpa [valsI] using hown)
        have HB5 := hide hB5
        clear hown hgr hat hlt5 hB5
        go_wp2_with fail
        exact ⟨⟨j + 1, by omega, by (first | rfl | go_num), HN, HB5⟩, by simp [intOf]; omega⟩
    · obtain rfl : j = z + 1 := by omega
      have hlt' : ¬ ((z + 1 : Nat) : Int) < (z : Int) + 1 := by omega
      obtain ⟨a, c, hv', hs'⟩ := own_slI (unhide HO)
      have HNEW := hide (show ∀ z, a = some z → w3.heap.size ≤ z.block from fun z hz => (own_ge (unhide HO) z.block (by rw [hv', hz]; rfl)).1)
      have HSS := hide hs'
      subst hv'
      clear hs' HO
      go_wp2_with fail
      try go_ret
      have hP := unhide HP
      subst hP
      exact ⟨z, a, c, ls', unhide HN, rfl, unhide HSS, fun x hx => Nat.le_trans (unhide HC3).size (unhide HNEW x hx), (unhide HB3).below (unhide HW), unhide HLE, (unhide HC3).trans (Chg.of_below (unhide HW))⟩
set_option maxRecDepth 100000 in
set_option maxHeartbeats 8000000 in
theorem cmarksOf_any (n : Nat) (w : World) (hn : n ≤ 128) :
    Calls Tryz.prog 65 #[.int .i64 (n : Int)] w fun e w' => ∃ g, w.heap.size ≤ g ∧ e = .returned (.agg #[.int .i64 1, .slice (some ⟨g, 0, none⟩) n n]) ∧ RoV w' g n (fun _ => .int .i64 0) ∧ g < w'.heap.size ∧ Below w.heap.size w w' := by
  have hO0 := BoxP.made w #[.int .i64 0, .slice none 0 0] 117
  obtain ⟨wo, hwo⟩ : ∃ x, w.alloc (.cells #[.int .i64 0, .slice none 0 0] 117) = x := ⟨_, rfl⟩
  have bo : Below w.heap.size w wo := by rw [← hwo]; exact (Below.refl _ _).alloc (Nat.le_refl _) _
  rw [hwo] at hO0
  have hmk := make_intsR n (by omega) wo
  have hR := RoV.made wo n 3 (.int .i64 0)
  obtain ⟨wm, hwm⟩ : ∃ x, wo.alloc (.cells (madeCells #[.int .i64 0] n) 3) = x := ⟨_, rfl⟩
  have bm : Below wo.heap.size wo wm := by rw [← hwm]; exact (Below.refl _ _).alloc (Nat.le_refl _) _
  have hgl : wo.heap.size < wm.heap.size := by rw [← hwm]; simp
  rw [hwm] at hR hmk
  have hO := hO0.below bm
  have q0 := (hO.all 0 _ rfl).1
  have q1 := (hO.all 1 _ rfl).1
  have r0 := (hO.all 0 _ rfl).2
  have r1 := (hO.all 1 _ rfl).2
  have HO := hide hO
  have HR := hide hR
  have HB := hide (bo.trans (bm.mono bo.size))
  have HL := hide (And.intro hO0.lt hgl)
  clear hO0 bo bm hR hO hgl
  go_enter Tryz.func65, Tryz.ntmps65
  go_wp2_with fail
  have hf := ((unhide HO).put 0 (.int .i64 1)).put 1 (.slice (some ⟨wo.heap.size, 0, none⟩) n n)
  have t0 := (hf.all 0 _ rfl).1
  have t1 := (hf.all 1 _ rfl).1
  have cc : Chg (fun j => j = w.heap.size) wm ((wm.setCell ⟨w.heap.size, 0, none⟩ (.int .i64 1)).setCell ⟨w.heap.size, 1, none⟩ (.slice (some ⟨wo.heap.size, 0, none⟩) n n)) := (Chg.of_set (S := fun j => j = w.heap.size) _ _ _ _ rfl).trans (Chg.of_set (S := fun j => j = w.heap.size) _ _ _ _ rfl)
  generalize (wm.setCell ⟨w.heap.size, 0, none⟩ (.int .i64 1)).setCell ⟨w.heap.size, 1, none⟩ (.slice (some ⟨wo.heap.size, 0, none⟩) n n) = wf at *
  refine bodyPost_ret (by simp [results, Tryz.results65, go_sem, t0, t1]; try rfl) rfl ?_
  have hl := unhide HL
  exact ⟨wo.heap.size, by omega, rfl, (unhide HR).chg cc (by omega), Nat.lt_of_lt_of_le hl.2 cc.size, (unhide HB).trans (cc.below (unhide HB).size (fun j hj e => by omega))⟩
theorem BoxP.front (w : World) (A : Array Value) (t : TypeId) (vs : List Value) (h0 : 0 < A.size) (h : ∀ (k : Nat) (v : Value), vs[k]? = some v → A[k]? = some v) : BoxP (w.alloc (.cells A t)) w.heap.size vs := by
  refine ⟨fun q u hq => ?_, by simp⟩
  have hq' := h q u hq
  exact ⟨by simp [hq'], by simp⟩
theorem zc_brush : 15 < Tryz.zeroCells123.size := by
  have h : Tryz.zeroCells123[15]? = some (.slice none 0 0) := by kernel_rfl
  exact (Array.getElem?_eq_some_iff.1 h).1
theorem brush_front (x0 x1 x2 x3 x4 x5 x6 x7 x8 x9 xa xb xc xd xe xf : Value) (k : Nat) (v : Value) (hk : [x0, x1, x2, x3, x4, x5, x6, x7, x8, x9, xa, xb, xc, xd, xe, xf][k]? = some v) : ((((((((((((((((Tryz.zeroCells123.setIfInBounds 0 x0).setIfInBounds 1 x1).setIfInBounds 2 x2).setIfInBounds 3 x3).setIfInBounds 4 x4).setIfInBounds 5 x5).setIfInBounds 6 x6).setIfInBounds 7 x7).setIfInBounds 8 x8).setIfInBounds 9 x9).setIfInBounds 10 xa).setIfInBounds 11 xb).setIfInBounds 12 xc).setIfInBounds 13 xd).setIfInBounds 14 xe).setIfInBounds 15 xf)[k]? = some v := by
  have hz := zc_brush
  have hk16 : k < 16 := by have := (List.getElem?_eq_some_iff.1 hk).1; simpa using this
  simp only [Array.getElem?_setIfInBounds, Array.size_setIfInBounds]
  have hc : k = 0 ∨ k = 1 ∨ k = 2 ∨ k = 3 ∨ k = 4 ∨ k = 5 ∨ k = 6 ∨ k = 7 ∨ k = 8 ∨ k = 9 ∨ k = 10 ∨ k = 11 ∨ k = 12 ∨ k = 13 ∨ k = 14 ∨ k = 15 := by omega
  rcases hc with rfl | rfl | rfl | rfl | rfl | rfl | rfl | rfl | rfl | rfl | rfl | rfl | rfl | rfl | rfl | rfl <;> (simp at hk; subst hk; simp; try omega)
def bruL (f0 f1 f2 f3 : Value) (wd : Bool) (R width : Nat) (a1 : Option Addr) (n1 c1 : Nat) (a2 : Option Addr) (n2 c2 : Nat) (b1 : Option Addr) (m1 d1 : Nat) (b2 : Option Addr) (m2 d2 : Nat) (g h cnt : Nat) : List Value := [f0, f1, f2, f3, .bool wd, .int .i64 (R : Int), .int .i64 (width : Int), .slice a1 n1 c1, .slice a2 n2 c2, .int .i64 (R : Int), .int .i64 (R : Int), .slice b1 m1 d1, .slice b2 m2 d2, .slice (some ⟨g, 0, none⟩) R R, .int .i64 (cnt : Int), .slice (some ⟨h, 0, none⟩) R R]
set_option maxRecDepth 100000 in
set_option maxHeartbeats 16000000 in
theorem cnewBrush_any (f0 f1 f2 f3 : Value) (wd : Bool) (R width : Nat) (a1 a2 b1 b2 : Option Addr) (n1 c1 n2 c2 m1 d1 m2 d2 : Nat) (w : World) (hR : R ≤ 128) :
    Calls Tryz.prog 35 #[.agg #[f0, f1, f2, f3, .bool wd, .int .i64 (R : Int), .int .i64 (width : Int), .slice a1 n1 c1, .slice a2 n2 c2, .int .i64 (R : Int), .int .i64 (R : Int), .slice b1 m1 d1, .slice b2 m2 d2]] w fun e w' => ∃ X g h, e = .returned (.pointer (some ⟨X, 0, none⟩)) ∧ BoxP w' X (bruL f0 f1 f2 f3 wd R width a1 n1 c1 a2 n2 c2 b1 m1 d1 b2 m2 d2 g h 1) ∧ RoV w' g R (fun _ => .int .i64 (-1)) ∧ RoV w' h R (fun _ => .int .i64 0) ∧ (w.heap.size ≤ g ∧ g < h ∧ h < X) ∧ Below w.heap.size w w' := by
  obtain ⟨wb, hwb⟩ : ∃ x, w.alloc (.cells #[f0, f1, f2, f3, .bool wd, .int .i64 (R : Int), .int .i64 (width : Int), .slice a1 n1 c1, .slice a2 n2 c2, .int .i64 (R : Int), .int .i64 (R : Int), .slice b1 m1 d1, .slice b2 m2 d2] 80) = x := ⟨_, rfl⟩
  have bb : Below w.heap.size w wb := by rw [← hwb]; exact (Below.refl _ _).alloc (Nat.le_refl _) _
  have hT := BoxP.made w #[f0, f1, f2, f3, .bool wd, .int .i64 (R : Int), .int .i64 (width : Int), .slice a1 n1 c1, .slice a2 n2 c2, .int .i64 (R : Int), .int .i64 (R : Int), .slice b1 m1 d1, .slice b2 m2 d2] 80
  rw [hwb] at hT
  have p0 := (hT.all 0 _ rfl).1
  have p1 := (hT.all 1 _ rfl).1
  have p2 := (hT.all 2 _ rfl).1
  have p3 := (hT.all 3 _ rfl).1
  have p4 := (hT.all 4 _ rfl).1
  have p5 := (hT.all 5 _ rfl).1
  have p6 := (hT.all 6 _ rfl).1
  have p7 := (hT.all 7 _ rfl).1
  have p8 := (hT.all 8 _ rfl).1
  have p9 := (hT.all 9 _ rfl).1
  have p10 := (hT.all 10 _ rfl).1
  have p11 := (hT.all 11 _ rfl).1
  have p12 := (hT.all 12 _ rfl).1
  have HT := hide hT
  have HB := hide bb
  clear hT bb
  go_enter Tryz.func35, Tryz.ntmps35
  go_wp2_with fail
  go_region_held3 (fun w' => w'.cell? ⟨w.heap.size, 0, none⟩ = some (f0) ∧ w'.cell? ⟨w.heap.size, 1, none⟩ = some (f1) ∧ w'.cell? ⟨w.heap.size, 2, none⟩ = some (f2) ∧ w'.cell? ⟨w.heap.size, 3, none⟩ = some (f3) ∧ w'.cell? ⟨w.heap.size, 4, none⟩ = some (.bool wd) ∧ w'.cell? ⟨w.heap.size, 5, none⟩ = some (.int .i64 (R : Int)) ∧ w'.cell? ⟨w.heap.size, 6, none⟩ = some (.int .i64 (width : Int)) ∧ w'.cell? ⟨w.heap.size, 7, none⟩ = some (.slice a1 n1 c1) ∧ w'.cell? ⟨w.heap.size, 8, none⟩ = some (.slice a2 n2 c2) ∧ w'.cell? ⟨w.heap.size, 9, none⟩ = some (.int .i64 (R : Int)) ∧ w'.cell? ⟨w.heap.size, 10, none⟩ = some (.int .i64 (R : Int)) ∧ w'.cell? ⟨w.heap.size, 11, none⟩ = some (.slice b1 m1 d1) ∧ w'.cell? ⟨w.heap.size, 12, none⟩ = some (.slice b2 m2 d2)) (first | (exact ⟨k0, k1, k2, k3, k4, k5, k6, k7, k8, k9, k10, k11, k12⟩) | go_keep)
    (first
      | (go_at_call 64; refine (srepeat_any ⟨wb.heap.size, 0, none⟩ 1 (-1) R _ hR (by simp)).mono ?_; rintro _ w3 ⟨g, hgn, rfl, hgb, b3⟩; have bw3 : Below wb.heap.size wb w3 := (((Below.refl _ _).alloc (Nat.le_refl _) _).drew).trans (b3.mono (by simp)); have hT3 := (unhide HT).below bw3; have k0 := (hT3.all 0 _ rfl).1; have k1 := (hT3.all 1 _ rfl).1; have k2 := (hT3.all 2 _ rfl).1; have k3 := (hT3.all 3 _ rfl).1; have k4 := (hT3.all 4 _ rfl).1; have k5 := (hT3.all 5 _ rfl).1; have k6 := (hT3.all 6 _ rfl).1; have k7 := (hT3.all 7 _ rfl).1; have k8 := (hT3.all 8 _ rfl).1; have k9 := (hT3.all 9 _ rfl).1; have k10 := (hT3.all 10 _ rfl).1; have k11 := (hT3.all 11 _ rfl).1; have k12 := (hT3.all 12 _ rfl).1; have HB3 := hide bw3; have HGB := hide (And.intro hgb (show wb.heap.size ≤ g by simp at hgn; omega)); have HT3 := hide hT3; clear hgb b3 bw3 hT3 hgn)
      | (go_at_call 65; refine (cmarksOf_any R _ hR).mono ?_; rintro _ w4 ⟨h, hhn, rfl, hhr, hhl, b4⟩; clear k0 k1 k2 k3 k4 k5 k6 k7 k8 k9 k10 k11 k12; have hT4 := (unhide HT3).below b4; have k0 := (hT4.all 0 _ rfl).1; have k1 := (hT4.all 1 _ rfl).1; have k2 := (hT4.all 2 _ rfl).1; have k3 := (hT4.all 3 _ rfl).1; have k4 := (hT4.all 4 _ rfl).1; have k5 := (hT4.all 5 _ rfl).1; have k6 := (hT4.all 6 _ rfl).1; have k7 := (hT4.all 7 _ rfl).1; have k8 := (hT4.all 8 _ rfl).1; have k9 := (hT4.all 9 _ rfl).1; have k10 := (hT4.all 10 _ rfl).1; have k11 := (hT4.all 11 _ rfl).1; have k12 := (hT4.all 12 _ rfl).1; have HB4 := hide b4; have HHR := hide (And.intro hhr (And.intro hhn hhl)); clear hhr hhn hhl b4 hT4))
  clear k0 k1 k2 k3 k4 k5 k6 k7 k8 k9 k10 k11 k12
  have hbx := BoxP.front w4 _ 123 (bruL f0 f1 f2 f3 wd R width a1 n1 c1 a2 n2 c2 b1 m1 d1 b2 m2 d2 g h 1) (by simp only [Array.size_setIfInBounds]; have := zc_brush; omega) (fun k v hk => brush_front f0 f1 f2 f3 (.bool wd) (.int .i64 (R : Int)) (.int .i64 (width : Int)) (.slice a1 n1 c1) (.slice a2 n2 c2) (.int .i64 (R : Int)) (.int .i64 (R : Int)) (.slice b1 m1 d1) (.slice b2 m2 d2) (.slice (some ⟨g, 0, none⟩) R R) (.int .i64 1) (.slice (some ⟨h, 0, none⟩) R R) k v hk)
  generalize hZ : ((((((((((((((((Tryz.zeroCells123.setIfInBounds 0 f0).setIfInBounds 1 f1).setIfInBounds 2 f2).setIfInBounds 3 f3).setIfInBounds 4 (Value.bool wd)).setIfInBounds 5 (Value.int IntKind.i64 (R : Int))).setIfInBounds 6 (Value.int IntKind.i64 (width : Int))).setIfInBounds 7 (Value.slice a1 n1 c1)).setIfInBounds 8 (Value.slice a2 n2 c2)).setIfInBounds 9 (Value.int IntKind.i64 (R : Int))).setIfInBounds 10 (Value.int IntKind.i64 (R : Int))).setIfInBounds 11 (Value.slice b1 m1 d1)).setIfInBounds 12 (Value.slice b2 m2 d2)).setIfInBounds 13 (Value.slice (some ⟨g, 0, none⟩) R R)).setIfInBounds 14 (Value.int IntKind.i64 1)).setIfInBounds 15 (Value.slice (some ⟨h, 0, none⟩) R R)) = ZZ at *
  have HX := hide hbx
  clear hbx hZ
  go_wp2_with fail
  try go_ret
  have b4a : Below w4.heap.size w4 (w4.alloc (.cells ZZ 123)) := (Below.refl _ _).alloc (Nat.le_refl _) _
  have h3 := (unhide HB).trans ((unhide HB3).mono (unhide HB).size)
  have h4 := h3.trans ((unhide HB4).mono h3.size)
  have hg3 := (Array.getElem?_eq_some_iff.1 (unhide HGB).1).1
  have hh := (unhide HHR).2
  refine ⟨w4.heap.size, g, h, rfl, unhide HX, ((RoV.rep (unhide HGB).1).below (unhide HB4)).below b4a, (unhide HHR).1.below b4a, ⟨?_, ?_, hh.2⟩, h4.trans (b4a.mono h4.size)⟩
  · have := (unhide HGB).2; have := (unhide HB).size; omega
  · omega
end Go.Proofs.YtgjokididdffhaaGreat
