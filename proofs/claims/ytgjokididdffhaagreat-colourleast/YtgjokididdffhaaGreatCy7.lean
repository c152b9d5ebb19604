/- Cy4 -/
import Derived.Test.YtgjokididdffhaaGreatCx6
import Derived.Test.YtgjokididdffhaaGreatCx8
import Derived.Test.YtgjokididdffhaaGreatCxp
import Derived.Test.YtgjokididdffhaaGreatCy1
import Derived.Test.YtgjokididdffhaaGreatCk3
namespace Go.Proofs.YtgjokididdffhaaGreat
open Go.RowKit Go.Deep
set_option linter.unusedVariables false
def zfE (f : Nat → Nat) (N : Nat) : Nat → Int := fun i => if i < N then (f i : Int) else 0
theorem zfE_get (f : Nat → Nat) (N : Nat) : (fun i => (csL (fun i => (f i : Int)) N).getD i 0) = zfE f N := by
  funext i
  unfold zfE
  by_cases hi : i < N
  · rw [if_pos hi]; exact csL_get (cs := fun i => (f i : Int)) hi
  · rw [if_neg hi]; simp [csL, List.getD, hi]
def FiE (ad : Nat → Nat → Prop) (cs : Nat → Int) (Ci : Int → Int → Prop) (k4 k5 : Bool) : Prop := (∀ u v, ad u v → cs u ≠ cs v) ∧ (k4 = true → ∀ a b c d, ¬ Pa4 ad cs a b c d) ∧ (k4 = false → k5 = true → ∀ c d, ¬ Ci c d)
theorem paL_nil {q : Option (Nat × Nat × Nat × Nat)} : (paL q).length = 0 ↔ q = none := by
  cases q with
  | none => simp [paL]
  | some p => simp [paL]
theorem ciL_nil {q : Option (Int × Int)} : (ciL q).length = 0 ↔ q = none := by
  cases q with
  | none => simp [ciL]
  | some p => simp [ciL]
theorem paO_none {ad : Nat → Nat → Prop} {cs : Nat → Int} {q : Option (Nat × Nat × Nat × Nat)} (h : PaO ad cs q) : q = none ↔ ∀ a b c d, ¬ Pa4 ad cs a b c d := by
  cases q with
  | none => exact ⟨fun _ => h, fun _ => rfl⟩
  | some p => exact ⟨fun e => (by cases e), fun k => absurd h.1 (k _ _ _ _)⟩
theorem bsI_none {P : Int → Int → Prop} {q : Option (Int × Int)} (h : BsI P q) : q = none ↔ ∀ c d, ¬ P c d := by
  cases q with
  | none => exact ⟨fun _ => h, fun _ => rfl⟩
  | some p => exact ⟨fun e => (by cases e), fun k => absurd h.1 (k _ _)⟩
set_option maxRecDepth 100000 in
set_option maxHeartbeats 16000000 in
theorem wfine_any (kd : Int) (k4 k5 : Bool) (hk4 : (kd == 4) = k4) (hk5 : (kd != 5) = !k5) (N gb mm gc : Nat) (Q : Nat → Bool) (ad : Nat → Nat → Prop) (hQ : ∀ u v, u < N → v < N → (Q (u * N + v) = true ↔ ad u v)) (had : ∀ u v, ad u v → u < N ∧ v < N) (hsy : ∀ u v, ad u v → ad v u) (hir : ∀ u, ¬ ad u u) (f : Nat → Nat) (w : World) (hN : N ≤ 128) (hmm : N * N = mm) (hR : RoV w gb mm (fun i => .bool (Q i))) (hC : RoV w gc N (fun i => .int .i64 (f i : Int))) (q4 : Option (Nat × Nat × Nat × Nat)) (hq4 : PaO ad (zfE f N) q4) (q5 : Option (Int × Int)) (hq5 : BsI (CqP ad (zfE f N) (fun c d => FoP (adQ Q N) (fun u => u < N ∧ twB (zfE f N) c d u = true)) N 0) q5)
    (ok : Bool) (hok : TruQ ok (FiE ad (zfE f N) (CqP ad (zfE f N) (fun c d => FoP (adQ Q N) (fun u => u < N ∧ twB (zfE f N) c d u = true)) N 0) k4 k5)) :
    Calls Tryz.prog 85 #[.int .i64 kd, grV N gb mm, .slice (some ⟨gc, 0, none⟩) N N] w fun e w' => e = .returned (.bool ok) ∧ Below w.heap.size w w' := by
  obtain ⟨wb, hwb⟩ : ∃ x, w.alloc (.cells #[.int .i64 (N : Int), .slice (some ⟨gb, 0, none⟩) mm mm] 45) = x := ⟨_, rfl⟩
  have bb : Below w.heap.size w wb := by rw [← hwb]; exact (Below.refl _ _).alloc (Nat.le_refl _) _
  have hT := BoxP.made w #[.int .i64 (N : Int), .slice (some ⟨gb, 0, none⟩) mm mm] 45
  rw [hwb] at hT
  have hmm2 : mm ≤ 16384 := by rw [← hmm]; exact Nat.mul_le_mul hN hN
  have HN := hide (show ∀ W, Below wb.heap.size wb W → BoxP W w.heap.size [.int .i64 (N : Int), .slice (some ⟨gb, 0, none⟩) mm mm] ∧ RoV W gb mm (fun i => .bool (Q i)) ∧ RoV W gc N (fun i => .int .i64 (f i : Int)) ∧ Below w.heap.size w W from fun W b =>
    ⟨hT.below b, (hR.below bb).below b, (hC.below bb).below b, bb.trans (b.mono bb.size)⟩)
  have HM := hide (show ∀ W, Below wb.heap.size wb W → ∀ u z t, u < N → z < N → Q (u * N + z) = t → Calls Tryz.prog 59 #[.agg #[.int .i64 (N : Int), .slice (some ⟨gb, 0, none⟩) mm mm], .int .i64 (u : Int), .int .i64 (z : Int)] W fun e w' => e = .returned (.bool t) ∧ Below W.heap.size W w' from fun W b u z t hu hz ht => by
    subst ht
    exact wmeet_any N gb mm u z Q W hN (by omega) (by omega) (by rw [← hmm]; exact idx_lt hu hz) hmm2 (unhide HN W b).2.1)
  have KP := hide (show ∀ W, Below wb.heap.size wb W → Calls Tryz.prog 61 #[grV N gb mm, .slice (some ⟨gc, 0, none⟩) N N] W fun e w' => OwA (paL q4) W w' e from fun W b =>
    wpath_any N gb mm Q ad hQ had (some ⟨gc, 0, none⟩) N (csL (fun i => (f i : Int)) N) W hN hmm (unhide HN W b).2.1 ((unhide HN W b).2.2.1.sli hN) q4 (by rw [zfE_get]; exact hq4))
  have KC := hide (show ∀ W, Below wb.heap.size wb W → Calls Tryz.prog 62 #[grV N gb mm, .slice (some ⟨gc, 0, none⟩) N N] W fun e w' => OwA (ciL q5) W w' e from fun W b =>
    wcircle_any N gb mm Q ad hQ had (some ⟨gc, 0, none⟩) N (csL (fun i => (f i : Int)) N) W hN hmm (unhide HN W b).2.1 ((unhide HN W b).2.2.1.sli hN) q5 (by rw [zfE_get]; exact hq5))
  unfold grV at KP KC
  have HQ := hide hQ
  have HAD := hide had
  have HSY := hide hsy
  have HIR := hide hir
  have HOK := hide hok
  have H4 := hide (paO_none hq4)
  have H5 := hide (bsI_none hq5)
  clear hT bb hR hC hQ had hsy hir hok hq4 hq5 hmm
  unfold grV
  go_enter Tryz.func85, Tryz.ntmps85
  go_wp2_with fail
  go_loopw [7] (fun vv wr => ∃ v : Nat, v ≤ N ∧ vv = .int .i64 (v : Int) ∧ Hid (∀ u' v', ad u' v' → u' < v' → v' < v → f u' ≠ f v') ∧ Hid (Below wb.heap.size wb wr)) (fun vv _ => N - (intOf vv).toNat)
  case atStart => exact ⟨0, Nat.zero_le _, rfl, hide (fun u' v' _ _ h => by omega), hide (Below.refl _ _)⟩
  case round =>
    obtain ⟨v, hv, rfl, HP, HW⟩ := hrel
    have hx := unhide HN wr (unhide HW)
    have p0 := (hx.1.all 0 _ rfl).1
    by_cases hlt : v < N
    · have hlt' : (v : Int) < (N : Int) := by omega
      clear hx
      go_wp2_with fail
      clear p0
      go_loopw [8] (fun uv wq => ∃ u : Nat, u ≤ v ∧ uv = .int .i64 (u : Int) ∧ Hid (∀ u', u' < u → ad u' v → f u' ≠ f v) ∧ Hid (Below wb.heap.size wb wq)) (fun uv _ => v - (intOf uv).toNat)
      case atStart => exact ⟨0, Nat.zero_le _, rfl, hide (fun u' h => by omega), HW⟩
      case round =>
        obtain ⟨u, hu, rfl, HP2, HW2⟩ := hrel
        by_cases hul : u < v
        · have hul' : (u : Int) < (v : Int) := by omega
          have hx := unhide HN wr (unhide HW2)
          have p0 := (hx.1.all 0 _ rfl).1
          have p1 := (hx.1.all 1 _ rfl).1
          have s0 := (hx.2.2.1 u (by omega)).1
          have s1 := (hx.2.2.1 v hlt).1
          obtain ⟨q1, hq1⟩ : ∃ t, Q (u * N + v) = t := ⟨_, rfl⟩
          obtain ⟨y0, hy0⟩ : ∃ y, (f u : Int) = y := ⟨_, rfl⟩
          obtain ⟨y1, hy1⟩ : ∃ y, (f v : Int) = y := ⟨_, rfl⟩
          simp only [hy0] at s0
          simp only [hy1] at s1
          have HY := hide (And.intro hy0 hy1)
          have F0 := fun x' : Ext wr => x'.cell s0
          have F1 := fun x' : Ext wr => x'.cell s1
          have F2 := fun x' : Ext wr => x'.cell p0
          have F3 := fun x' : Ext wr => x'.cell p1
          have hNE := Ext.ne wr
          have HK1 := hide (show ∀ x' : Ext wr, Calls Tryz.prog 59 #[.agg #[.int .i64 (N : Int), .slice (some ⟨gb, 0, none⟩) mm mm], .int .i64 (u : Int), .int .i64 (v : Int)] x'.w fun e w' => e = .returned (.bool q1) ∧ Below x'.w.heap.size x'.w w' from fun x' => unhide HM x'.w ((unhide HW2).trans (x'.bel.mono (unhide HW2).size)) u v q1 (by omega) hlt hq1)
          have HQ1 := hide (show TruQ q1 (ad u v) from by rw [← hq1]; exact unhide HQ u v (by omega) hlt)
          have HCC := hide hx.2.2.1
          clear hx hq1 hy0 hy1
          cases q1
          · have HP3 := hide (show ∀ u', u' < u + 1 → ad u' v → f u' ≠ f v from fun u' h k => by
              by_cases e : u' = u
              · subst e; exact absurd ((unhide HQ1).2 k) (by simp)
              · exact unhide HP2 u' (by omega) k)
            go_wp2_with fail
            refine wp_region_ext (by kernel_rfl) (by kernel_rfl) ?_
            repeat (go_big_quiet_step ((go_at_call 59; rename_i x'; exact Ext.call (unhide HK1 x') (fun e w' h => h))))
            refine wpQuiet_nil ?_
            rintro _ ⟨xE, rfl⟩
            have HW6 := hide (show Below wb.heap.size wb xE.w from (unhide HW2).trans (xE.bel.mono (unhide HW2).size))
            clear F0 F1 F2 F3 hNE HK1 s0 s1 p0 p1
            go_wp2_with fail
            exact ⟨⟨u + 1, by omega, by (first | rfl | go_num), HP3, HW6⟩, by simp [intOf]; omega⟩
          · by_cases hyy : f u = f v
            · have hyy' : (y0 == y1) = true := by have := (unhide HY).1; have := (unhide HY).2; simp; omega
              have ho : ok = false := by
                cases ok
                · rfl
                · have h9 := (unhide HOK).1 rfl
                  have := h9.1 u v ((unhide HQ1).1 rfl)
                  unfold zfE at this
                  rw [if_pos (by omega), if_pos hlt, hyy] at this
                  exact absurd rfl this
              subst ho
              clear hyy
              go_wp2_with fail
              refine wp_region_ext (by kernel_rfl) (by kernel_rfl) ?_
              repeat (go_big_quiet_step ((go_at_call 59; rename_i x'; exact Ext.call (unhide HK1 x') (fun e w' h => h))))
              refine wpQuiet_nil ?_
              rintro _ ⟨xE, rfl⟩
              have HW6 := hide (show Below wb.heap.size wb xE.w from (unhide HW2).trans (xE.bel.mono (unhide HW2).size))
              clear F0 F1 F2 F3 hNE HK1 s0 s1 p0 p1
              have HB6 := hide (unhide HN xE.w (unhide HW6)).2.2.2
              go_wp2_with fail
              try go_ret
              exact ⟨rfl, unhide HB6⟩
            · have hyy' : (y0 == y1) = false := by have := (unhide HY).1; have := (unhide HY).2; simp; omega
              have HP3 := hide (show ∀ u', u' < u + 1 → ad u' v → f u' ≠ f v from fun u' h k => by
                by_cases e : u' = u
                · subst e; exact hyy
                · exact unhide HP2 u' (by omega) k)
              clear hyy
              go_wp2_with fail
              refine wp_region_ext (by kernel_rfl) (by kernel_rfl) ?_
              repeat (go_big_quiet_step ((go_at_call 59; rename_i x'; exact Ext.call (unhide HK1 x') (fun e w' h => h))))
              refine wpQuiet_nil ?_
              rintro _ ⟨xE, rfl⟩
              have HW6 := hide (show Below wb.heap.size wb xE.w from (unhide HW2).trans (xE.bel.mono (unhide HW2).size))
              clear F0 F1 F2 F3 hNE HK1 s0 s1 p0 p1
              go_wp2_with fail
              exact ⟨⟨u + 1, by omega, by (first | rfl | go_num), HP3, HW6⟩, by simp [intOf]; omega⟩
        · obtain rfl : u = v := by omega
          have hul' : ¬ (u : Int) < (u : Int) := by omega
          have HP3 := hide (show ∀ u' v', ad u' v' → u' < v' → v' < u + 1 → f u' ≠ f v' from fun u' v' k h1 h2 => by
            by_cases e : v' = u
            · subst e; exact unhide HP2 u' h1 k
            · exact unhide HP u' v' k h1 (by omega))
          go_wp2_with fail
          exact ⟨⟨u + 1, by omega, by (first | rfl | go_num), HP3, HW2⟩, by simp [intOf]; omega⟩
    · obtain rfl : v = N := by omega
      have hlt' : ¬ (v : Int) < (v : Int) := by omega
      have hpr : ∀ u z, ad u z → zfE f v u ≠ zfE f v z := fun u z k => by
        have l := unhide HAD u z k
        unfold zfE
        rw [if_pos l.1, if_pos l.2]
        have : f u ≠ f z := by
          rcases Nat.lt_trichotomy u z with h | h | h
          · exact unhide HP u z k h l.2
          · subst h; exact absurd k (unhide HIR u)
          · exact (unhide HP z u (unhide HSY u z k) h l.1).symm
        omega
      have HPR := hide hpr
      have p1 := (hx.1.all 1 _ rfl).1
      have HX4 := hide hx.2.2.2
      clear hpr hx
      cases k4
      · cases k5
        · have ho : ok = true := (unhide HOK).2 ⟨unhide HPR, fun e => (by cases e), fun _ e => (by cases e)⟩
          subst ho
          go_wp2_with fail
          try go_ret
          exact ⟨rfl, unhide HX4⟩
        · have ho : ok = ((ciL q5).length == 0) := by
            have h9 := ciL_nil.trans (unhide H5)
            have h8 := unhide HOK
            unfold TruQ FiE at h8
            cases ok
            · symm
              rw [Bool.eq_false_iff]
              intro e
              have := h8.2 ⟨unhide HPR, fun e => (by cases e), fun _ _ => h9.1 (by simpa using e)⟩
              cases this
            · symm
              simp only [beq_iff_eq]
              exact h9.2 ((h8.1 rfl).2.2 rfl rfl)
          have K := hide (unhide KC wr (unhide HW))
          have HO := hide ho
          have HL4 := hide (ciL_len q5)
          clear ho
          go_wp2_with fail
          refine (unhide K).mono ?_
          rintro _ w6 ⟨vl, rfl, hrow, b6⟩
          obtain ⟨al, cl, rfl, hsl⟩ := own_slI hrow
          have HW6 := hide (unhide HN w6 ((unhide HW).trans (b6.mono (unhide HW).size))).2.2.2
          obtain ⟨z, hz⟩ : ∃ z, (ciL q5).length = z := ⟨_, rfl⟩
          rw [hz] at HO hsl ⊢
          have hcast : (((z : Nat) : Int) == 0) = (z == 0) := by
            cases z <;> simp <;> omega
          clear hrow b6 p0 p1 hsl hz K
          go_wp2_with fail
          try go_ret
          exact ⟨by rw [unhide HO]; first | rw [hcast] | simp, unhide HW6⟩
      · have ho : ok = ((paL q4).length == 0) := by
          have h9 := paL_nil.trans (unhide H4)
          have h8 := unhide HOK
          unfold TruQ FiE at h8
          cases ok
          · symm
            rw [Bool.eq_false_iff]
            intro e
            have := h8.2 ⟨unhide HPR, fun _ => h9.1 (by simpa using e), fun e => (by cases e)⟩
            cases this
          · symm
            simp only [beq_iff_eq]
            exact h9.2 ((h8.1 rfl).2.1 rfl)
        have K := hide (unhide KP wr (unhide HW))
        have HO := hide ho
        clear ho
        go_wp2_with fail
        refine (unhide K).mono ?_
        rintro _ w6 ⟨vl, rfl, hrow, b6⟩
        obtain ⟨al, cl, rfl, hsl⟩ := own_slI hrow
        have HW6 := hide (unhide HN w6 ((unhide HW).trans (b6.mono (unhide HW).size))).2.2.2
        obtain ⟨z, hz⟩ : ∃ z, (paL q4).length = z := ⟨_, rfl⟩
        rw [hz] at HO hsl ⊢
        have hcast : (((z : Nat) : Int) == 0) = (z == 0) := by
          cases z <;> simp <;> omega
        clear hrow b6 p0 p1 hsl hz K
        go_wp2_with fail
        try go_ret
        exact ⟨by rw [unhide HO]; first | rw [hcast] | simp, unhide HW6⟩
theorem SmP.split {Gd : (Nat → Nat) → Prop} {m : Nat} {e : Nat → Nat} {v k : Nat} (hv : v < m) : SmP Gd m e v k ↔ ∃ y, y < k ∧ y ≤ usE e v ∧ SmP Gd m (upE e v y) (v + 1) k := by
  constructor
  · rintro ⟨f, h1, h2, h3⟩
    have h := h2 v (Nat.le_refl _) hv
    rw [h1.us] at h
    refine ⟨f v, h.1, h.2, f, fun i hi => ?_, fun j hj hjm => h2 j (by omega) hjm, h3⟩
    by_cases e2 : i = v
    · subst e2; rw [upE_same]
    · rw [upE_other _ _ e2]; exact h1 i (by omega)
  · rintro ⟨y, hy, hu, f, h1, h2, h3⟩
    have ag : AgE f e v := fun i hi => by rw [h1 i (by omega), upE_other _ _ (by omega)]
    refine ⟨f, ag, fun j hj hjm => ?_, h3⟩
    by_cases e2 : j = v
    · subst e2
      rw [h1 j (by omega), upE_same, ag.us]
      exact ⟨hy, hu⟩
    · exact h2 j (by omega) hjm
def SoQ (Gd : (Nat → Nat) → Prop) (N gc : Nat) (e0 : Nat → Nat) (v k : Nat) (w w' : World) (e : Ending) : Prop := ∃ ok, e = .returned (.bool ok) ∧ TruQ ok (SmP Gd N e0 v k) ∧ (∃ cs : Nat → Int, RoV w' gc N (fun i => .int .i64 (cs i)) ∧ ∀ i, i < v → cs i = (e0 i : Int)) ∧ Chg (fun j => j = gc) w w'
set_option maxRecDepth 100000 in
set_option maxHeartbeats 32000000 in
theorem wsome_any (Gd : (Nat → Nat) → Prop) (kd : Int) (N gb mm gc : Nat) (Q : Nat → Bool) (k : Nat) (hN : N ≤ 128) (hgg : gb ≠ gc) (hmm : N * N = mm) (hGc : ∀ f e, AgE f e N → (Gd f ↔ Gd e))
    (hF : ∀ (f : Nat → Nat) W, RoV W gb mm (fun i => .bool (Q i)) → RoV W gc N (fun i => .int .i64 (f i : Int)) → Calls Tryz.prog 85 #[.int .i64 kd, grV N gb mm, .slice (some ⟨gc, 0, none⟩) N N] W fun e w' => ∃ ok, e = .returned (.bool ok) ∧ TruQ ok (Gd f) ∧ Below W.heap.size W w') :
    ∀ (d : Nat) (e0 : Nat → Nat) (v : Nat) (cs : Nat → Int) (w : World), v + d = N → (∀ j, j < v → e0 j ≤ usE e0 j) → k ≤ N → RoV w gb mm (fun i => .bool (Q i)) → RoV w gc N (fun i => .int .i64 (cs i)) → (∀ i, i < v → cs i = (e0 i : Int)) →
    Calls Tryz.prog 51 #[.int .i64 kd, grV N gb mm, .slice (some ⟨gc, 0, none⟩) N N, .int .i64 (v : Int), .int .i64 (usE e0 v : Int), .int .i64 (k : Int)] w fun e w' => SoQ Gd N gc e0 v k w w' e := by
  intro d
  induction d with
  | zero =>
    intro e0 v cs w hvd hsm hk hR hC hcs
    obtain rfl : v = N := by omega
    obtain ⟨wb, hwb⟩ : ∃ x, w.alloc (.cells #[.int .i64 (v : Int), .slice (some ⟨gb, 0, none⟩) mm mm] 45) = x := ⟨_, rfl⟩
    have bb : Below w.heap.size w wb := by rw [← hwb]; exact (Below.refl _ _).alloc (Nat.le_refl _) _
    have hT := BoxP.made w #[.int .i64 (v : Int), .slice (some ⟨gb, 0, none⟩) mm mm] 45
    rw [hwb] at hT
    have p0 := (hT.all 0 _ rfl).1
    have p1 := (hT.all 1 _ rfl).1
    have hC' : RoV w gc v (fun i => .int .i64 (e0 i : Int)) := hC.congr (fun i hi => by rw [hcs i hi])
    have KF := hide (hF e0 wb (hR.below bb) (hC'.below bb))
    have HC := hide (show ∀ W, Below w.heap.size w W → RoV W gc v (fun i => .int .i64 (e0 i : Int)) from fun W b => hC'.below b)
    have HB := hide bb
    have HS := hide (show SmP Gd v e0 v k ↔ Gd e0 from ⟨fun ⟨f, h1, _, h3⟩ => (hGc f e0 h1).1 h3, fun h => ⟨e0, AgE.refl _ _, fun j h1 h2 => by omega, h⟩⟩)
    have e1 : ((v : Int) == (v : Int)) = true := by simp
    obtain ⟨us, hus⟩ : ∃ us, usE e0 v = us := ⟨_, rfl⟩
    rw [hus]
    unfold grV at KF ⊢
    clear hT bb hR hC hC' hcs hus hF hsm
    go_enter Tryz.func51, Tryz.ntmps51
    go_wp2_with fail
    refine (unhide KF).mono ?_
    rintro _ w2 ⟨ok, rfl, hok, b2⟩
    have hb2 := (unhide HB).trans (b2.mono (unhide HB).size)
    have HB2 := hide hb2
    have HOK := hide hok
    clear KF b2 hb2 hok p0 p1
    go_wp2_with fail
    go_ret
    exact ⟨ok, rfl, Iff.trans (unhide HOK) (unhide HS).symm, ⟨fun i => (e0 i : Int), unhide HC w2 (unhide HB2), fun i _ => rfl⟩, Chg.of_below (unhide HB2)⟩
  | succ d ih =>
    intro e0 v cs w hvd hsm hk hR hC hcs
    have hvN : v < N := by omega
    have hus := usE_small e0 (v := v) hsm
    obtain ⟨wb, hwb⟩ : ∃ x, w.alloc (.cells #[.int .i64 (N : Int), .slice (some ⟨gb, 0, none⟩) mm mm] 45) = x := ⟨_, rfl⟩
    have bb : Below w.heap.size w wb := by rw [← hwb]; exact (Below.refl _ _).alloc (Nat.le_refl _) _
    have hT := BoxP.made w #[.int .i64 (N : Int), .slice (some ⟨gb, 0, none⟩) mm mm] 45
    rw [hwb] at hT
    have p0 := (hT.all 0 _ rfl).1
    have hgl : gc < w.heap.size := World.block_lt_of_cell? _ _ (hC v hvN).1
    have HNx := hide (show ∀ W, Chg (fun j => j = gc) wb W → BoxP W w.heap.size [.int .i64 (N : Int), .slice (some ⟨gb, 0, none⟩) mm mm] ∧ RoV W gb mm (fun i => .bool (Q i)) ∧ Chg (fun j => j = gc) w W from fun W c =>
      ⟨hT.chg c (show ¬ w.heap.size = gc by omega), (hR.below bb).chg c hgg, (Chg.of_below bb).trans c⟩)
    have HIH := hide (show ∀ (y : Nat) (cs' : Nat → Int) (W : World), y ≤ usE e0 v → RoV W gb mm (fun i => .bool (Q i)) → RoV W gc N (fun i => .int .i64 (cs' i)) → (∀ i, i < v + 1 → cs' i = (upE e0 v y i : Int)) → Calls Tryz.prog 51 #[.int .i64 kd, grV N gb mm, .slice (some ⟨gc, 0, none⟩) N N, .int .i64 ((v : Int) + 1), .int .i64 ((max (usE e0 v) (y + 1) : Nat) : Int), .int .i64 (k : Int)] W fun e w' => SoQ Gd N gc (upE e0 v y) (v + 1) k W w' e from fun y cs' W hy h1 h2 h3 => by
      have q := ih (upE e0 v y) (v + 1) cs' W (by omega) (fun j hj => by
        have ag := upE_ag e0 v y
        by_cases e2 : j = v
        · subst e2; rw [upE_same, ag.us]; exact hy
        · rw [upE_other _ _ e2, (ag.mono (show j ≤ v by omega)).us]; exact hsm j (by omega)) hk h1 h2 h3
      rw [usE_succ, (upE_ag e0 v y).us, upE_same, show ((v + 1 : Nat) : Int) = (v : Int) + 1 by omega] at q
      exact q)
    have HCb := hide (hC.below bb)
    have HSP := hide (SmP.split (Gd := Gd) (e := e0) (k := k) hvN)
    have HCS := hide hcs
    obtain ⟨us, hus'⟩ : ∃ us, usE e0 v = us := ⟨_, rfl⟩
    rw [hus'] at HIH HSP hus ⊢
    have hvne : ((v : Int) == (N : Int)) = false := by simp; omega
    have hvN' : (v : Int) < (N : Int) := by omega
    have hw1 : IntKind.i64.wrap ((v : Int) + 1) = (v : Int) + 1 := by rw [IntKind.wrap_i64]; omega
    unfold grV at HIH ⊢
    clear hT bb hR hC hcs hus' hF hsm ih
    go_enter Tryz.func51, Tryz.ntmps51
    go_wp2_with fail
    clear p0
    go_loopw [13] (fun cv wr => ∃ c : Nat, c ≤ k ∧ c ≤ us + 1 ∧ cv = .int .i64 (c : Int) ∧ Hid (∀ y, y < c → ¬ SmP Gd N (upE e0 v y) (v + 1) k) ∧ Hid (∃ cs : Nat → Int, RoV wr gc N (fun i => .int .i64 (cs i)) ∧ ∀ i, i < v → cs i = (e0 i : Int)) ∧ Hid (Chg (fun j => j = gc) wb wr)) (fun cv _ => k - (intOf cv).toNat)
    case atStart => exact ⟨0, Nat.zero_le _, Nat.zero_le _, rfl, hide (fun y hy => by omega), hide ⟨cs, unhide HCb, unhide HCS⟩, hide (Chg.refl _ _)⟩
    case round =>
      obtain ⟨c, hck, hcu, rfl, HNo, HCc, HW⟩ := hrel
      by_cases hlt : c < k ∧ c ≤ us
      · have hl1 : (c : Int) < (k : Int) := by omega
        have hl2 : (c : Int) ≤ (us : Int) := by omega
        have hx := unhide HNx wr (unhide HW)
        have p0 := (hx.1.all 0 _ rfl).1
        have p1 := (hx.1.all 1 _ rfl).1
        obtain ⟨cs', hC', hcs'⟩ := unhide HCc
        have c0 := (hC' v hvN).1
        have c1 := (hC' v hvN).2
        have hCg : Chg (fun j => j = gc) wr (wr.setCell ⟨gc, v, none⟩ (.int .i64 (c : Int))) := Chg.of_set _ _ _ _ rfl
        have hx2 := unhide HNx _ ((unhide HW).trans hCg)
        have KI := hide (unhide HIH c (fun i => if i = v then (c : Int) else cs' i) (wr.setCell ⟨gc, v, none⟩ (.int .i64 (c : Int))) (by omega) hx2.2.1 ((hC'.put v _ hvN).congr (fun i hi => by split <;> rfl)) (fun i hi => by
          by_cases e2 : i = v
          · rw [if_pos e2, e2, upE_same]
          · rw [if_neg e2, upE_other _ _ e2]; exact hcs' i (by omega)))
        have HW2 := hide ((unhide HW).trans hCg)
        have HPL := hide (show ∀ W, Chg (fun j => j = gc) (wr.setCell ⟨gc, v, none⟩ (.int .i64 (c : Int))) W → Chg (fun j => j = gc) wb W from fun W b => ((unhide HW).trans hCg).trans b)
        have HI9 := hide (show c + 1 ≤ k ∧ c + 1 ≤ us + 1 ∧ k - (c + 1) < k - c from by omega)
        have t0 := (hx2.1.all 0 _ rfl).1
        have t1 := (hx2.1.all 1 _ rfl).1
        have hmx : max us (c + 1) = if c = us then us + 1 else us := by split <;> omega
        have HLT := hide hlt
        clear hx hx2 hC' hcs' hCg hlt
        by_cases hceq : c = us
        · have hceq' : ((c : Int) == (us : Int)) = true := by simp [hceq]
          have hm2 : ((max us (c + 1) : Nat) : Int) = (us : Int) + 1 := by rw [hmx, if_pos hceq]; omega
          have hw2 : IntKind.i64.wrap ((us : Int) + 1) = (us : Int) + 1 := by rw [IntKind.wrap_i64]; omega
          rw [hm2] at KI
          have HCE := hide hceq
          clear hmx hm2 hceq
          go_wp2_with fail
          refine (unhide KI).mono ?_
          rintro _ w6 ⟨ok, rfl, hok, ⟨cs6, h6, h6'⟩, hc6⟩
          have HW6 := hide (unhide HPL w6 hc6)
          have HC6 := hide (show ∃ cs : Nat → Int, RoV w6 gc N (fun i => .int .i64 (cs i)) ∧ ∀ i, i < v → cs i = (e0 i : Int) from ⟨cs6, h6, fun i hi => by rw [h6' i (by omega), upE_other _ _ (by omega)]⟩)
          have HOK := hide hok
          clear KI hok h6 h6' hc6 p0 p1 c0 c1 t0 t1
          cases ok
          · have HN2 := hide (show ∀ y, y < c + 1 → ¬ SmP Gd N (upE e0 v y) (v + 1) k from fun y hy hs => by
              by_cases e2 : y = c
              · subst e2; have := (unhide HOK).2 hs; cases this
              · exact unhide HNo y (by omega) hs)
            go_wp2_with fail
            exact ⟨⟨c + 1, (unhide HI9).1, (unhide HI9).2.1, by (first | rfl | go_num), HN2, HC6, HW6⟩, by have := (unhide HI9).2.2; simp only [intOf]; omega⟩
          · have HA := hide (show SoQ Gd N gc e0 v k w w6 (.returned (.bool true)) from ⟨true, rfl, ⟨fun _ => (unhide HSP).2 ⟨c, (unhide HLT).1, (unhide HLT).2, (unhide HOK).1 rfl⟩, fun _ => rfl⟩, unhide HC6, (unhide HNx w6 (unhide HW6)).2.2⟩)
            go_wp2_with fail
            try go_ret
            exact unhide HA
        · have hceq' : ((c : Int) == (us : Int)) = false := by simp; omega
          have hm2 : ((max us (c + 1) : Nat) : Int) = (us : Int) := by rw [hmx, if_neg hceq]
          rw [hm2] at KI
          clear hmx hm2 hceq
          go_wp2_with fail
          refine (unhide KI).mono ?_
          rintro _ w6 ⟨ok, rfl, hok, ⟨cs6, h6, h6'⟩, hc6⟩
          have HW6 := hide (unhide HPL w6 hc6)
          have HC6 := hide (show ∃ cs : Nat → Int, RoV w6 gc N (fun i => .int .i64 (cs i)) ∧ ∀ i, i < v → cs i = (e0 i : Int) from ⟨cs6, h6, fun i hi => by rw [h6' i (by omega), upE_other _ _ (by omega)]⟩)
          have HOK := hide hok
          clear KI hok h6 h6' hc6 p0 p1 c0 c1 t0 t1
          cases ok
          · have HN2 := hide (show ∀ y, y < c + 1 → ¬ SmP Gd N (upE e0 v y) (v + 1) k from fun y hy hs => by
              by_cases e2 : y = c
              · subst e2; have := (unhide HOK).2 hs; cases this
              · exact unhide HNo y (by omega) hs)
            go_wp2_with fail
            exact ⟨⟨c + 1, (unhide HI9).1, (unhide HI9).2.1, by (first | rfl | go_num), HN2, HC6, HW6⟩, by have := (unhide HI9).2.2; simp only [intOf]; omega⟩
          · have HA := hide (show SoQ Gd N gc e0 v k w w6 (.returned (.bool true)) from ⟨true, rfl, ⟨fun _ => (unhide HSP).2 ⟨c, (unhide HLT).1, (unhide HLT).2, (unhide HOK).1 rfl⟩, fun _ => rfl⟩, unhide HC6, (unhide HNx w6 (unhide HW6)).2.2⟩)
            go_wp2_with fail
            try go_ret
            exact unhide HA
      · have HA := hide (show SoQ Gd N gc e0 v k w wr (.returned (.bool false)) from ⟨false, rfl, ⟨fun e => (by cases e), fun hs => (by
          obtain ⟨y, h1, h2, h3⟩ := (unhide HSP).1 hs
          exact absurd h3 (unhide HNo y (by omega)))⟩, unhide HCc, (unhide HNx wr (unhide HW)).2.2⟩)
        by_cases hl : c < k
        · have hl1 : (c : Int) < (k : Int) := by omega
          have hl2 : ¬ (c : Int) ≤ (us : Int) := by omega
          clear hlt
          go_wp2_with fail
          try go_ret
          exact unhide HA
        · have hl1 : ¬ (c : Int) < (k : Int) := by omega
          clear hlt
          go_wp2_with fail
          try go_ret
          exact unhide HA
end Go.Proofs.YtgjokididdffhaaGreat
