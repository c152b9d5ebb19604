/-
  THE LAW RecWays: out of the contracts; the row's step.
-/
import Derived.Test.YtdmfaejngepafaaRw1
namespace Go.Proofs.Ytdmfaejngepafaa
open Go.ChangeShapes Go.WideShapes Go.ChangeAt Go.RowKit Go.Deep
set_option linter.unusedVariables false

theorem num6_any (x : Int) (w : World) : Calls Try.prog 7 #[.int .i64 x] w fun e w' => e = .returned (.int .i64 x) ∧ w' = w := by
  go_enter Try.func7, Try.ntmps7
  go_wp2
  go_ret
  exact ⟨rfl, rfl⟩
theorem row_at {W : World} {b k : Nat} (h : FnB W b 0 24 (rowW 8)) (hk : k < 8) : W.cell? ⟨b, k * 3, none⟩ = some (.bool (b0 k)) ∧ W.cell? ⟨b, k * 3 + 1, none⟩ = some (.bool (b1 k)) ∧ W.cell? ⟨b, k * 3 + 2, none⟩ = some (.bool (b2 k)) := by
  have a0 := (h (k * 3) (by omega)).1
  have a1 := (h (k * 3 + 1) (by omega)).1
  have a2 := (h (k * 3 + 2) (by omega)).1
  rw [Nat.zero_add] at a0 a1 a2
  unfold vB at a0 a1 a2
  refine ⟨a0.trans ?_, a1.trans ?_, a2.trans ?_⟩
  · unfold rowW bitW
    rw [show (k * 3) % 3 = 0 by omega, show (k * 3) / 3 = k by omega]
    simp; omega
  · unfold rowW bitW
    rw [show (k * 3 + 1) % 3 = 1 by omega, show (k * 3 + 1) / 3 = k by omega]
    simp; omega
  · unfold rowW bitW
    rw [show (k * 3 + 2) % 3 = 2 by omega, show (k * 3 + 2) / 3 = k by omega]
    simp; omega
set_option maxHeartbeats 8000000 in
set_option maxRecDepth 100000 in
theorem recWays_part (n : Int) (w : World) (x y z : Bool) (er : Int) (K1 : ∀ w, Calls Try.prog 6 #[.int .i64 n] w fun e w' => e = .returned (.tuple #[wayV x y z, .int .i64 er]) ∧ Below w.heap.size w w') (K2 : ∀ w, Calls Try.prog 5 #[.int .i64 n] w fun e w' => e = .returned (.tuple #[wayV x y z, .int .i64 er]) ∧ Below w.heap.size w w') :
    Calls Try.prog 3 #[.int .i64 n] w fun e w' => e = .returned (.bool true) ∧ Below w.heap.size w w' := by
  have HK1 := hide K1
  have HK2 := hide K2
  have q9 : (er == er) = true := by simp
  clear K1 K2
  go_enter Try.func3, Try.ntmps3
  go_wp2_with fail
  refine (Ways_any w).mono ?_
  rintro _ w1 ⟨b, rfl, hf, hb⟩
  have HF := hide hf
  have HB := hide hb
  clear hf hb
  go_wp2_with fail
  go_loopw [4, 5, 6] (fun i _ _ wr => ∃ k : Nat, k ≤ 8 ∧ i = .int .i64 (k : Int) ∧ Below w1.heap.size w1 wr) (fun i _ _ _ => 8 - (intOf i).toNat)
  case atStart => exact ⟨0, by omega, rfl, Below.refl _ _⟩
  case round =>
    obtain ⟨k, hk, rfl, hbl⟩ := hrel
    by_cases hlt : k < 8
    · have hlt' : (k : Int) < 8 := by omega
      have hk0 : (0 : Int) ≤ (k : Int) := by omega
      have KR := RWayOf_yes k wr hlt
      have hr := (unhide HF).below hbl
      obtain ⟨x1, hx⟩ : ∃ x, b0 k = x := ⟨_, rfl⟩
      obtain ⟨y1, hy⟩ : ∃ x, b1 k = x := ⟨_, rfl⟩
      obtain ⟨z1, hz⟩ : ∃ x, b2 k = x := ⟨_, rfl⟩
      have HRow := hide (fun (w2 : World) (h : Below wr.heap.size wr w2) => row_at (hr.below h) hlt)
      rw [hx, hy, hz] at KR HRow
      have HKR := hide KR
      have HBl := hide hbl
      clear KR hr hx hy hz hbl
      go_wp2_with fail
      refine (unhide HKR).mono ?_
      rintro _ w2 ⟨rfl, hb2⟩
      obtain ⟨w3, hw3⟩ : ∃ x, w2.alloc (.cells #[.bool x1, .bool y1, .bool z1] 25) = x := ⟨_, rfl⟩
      have hb3 : Below wr.heap.size wr w3 := by rw [← hw3]; exact hb2.alloc hb2.size _
      obtain ⟨c0, c1, c2⟩ := unhide HRow w3 hb3
      have t3 : Thr w3 w2.heap.size (.bool x1) (.bool y1) (.bool z1) := by rw [← hw3]; exact Thr.made _ _ _ _ _
      have d0 := t3.c0
      have d1 := t3.c1
      have d2 := t3.c2
      have HB3 := hide ((unhide HBl).trans (hb3.mono (unhide HBl).size))
      clear hb2 hb3 t3 HKR HRow
      unfold wayV
      have F0 := fun x : Ext w3 => x.cell c0
      have F1 := fun x : Ext w3 => x.cell c1
      have F2 := fun x : Ext w3 => x.cell c2
      have G0 := fun x : Ext w3 => x.cell d0
      have G1 := fun x : Ext w3 => x.cell d1
      have G2 := fun x : Ext w3 => x.cell d2
      have hNE := Ext.ne w3
      go_wp2_with fail
      refine wp_region_ext (by kernel_rfl) (by kernel_rfl) ?_
      repeat (go_big_quiet_step (fail))
      refine wpQuiet_nil ?_
      rintro _ ⟨xE, rfl⟩
      have HB4 := hide ((unhide HB3).trans (xE.bel.mono (unhide HB3).size))
      clear F0 F1 F2 G0 G1 G2 hNE
      go_wp2_with fail
      exact ⟨⟨k + 1, by omega, by go_num, unhide HB4⟩, by simp [intOf]; omega⟩
    · have hlt' : ¬ (k : Int) < 8 := by omega
      have HBl := hide ((unhide HB).trans (hbl.mono (unhide HB).size))
      clear hbl HF
      go_wp2_with fail
      refine (unhide HK1 _).mono ?_
      rintro _ w2 ⟨rfl, hb2⟩
      obtain ⟨w3, hw3⟩ : ∃ q, w2.alloc (.cells #[.bool x, .bool y, .bool z] 25) = q := ⟨_, rfl⟩
      have hb3 : Below w.heap.size w w3 := by rw [← hw3]; exact ((unhide HBl).trans (hb2.mono (unhide HBl).size)).alloc (Nat.le_trans (unhide HBl).size hb2.size) _
      have t3 : Thr w3 w2.heap.size (.bool x) (.bool y) (.bool z) := by rw [← hw3]; exact Thr.made _ _ _ _ _
      have HB3 := hide hb3
      have HT3 := hide t3
      clear hb2 hb3 t3 HK1
      unfold wayV
      go_wp2_with fail
      refine (unhide HK2 _).mono ?_
      rintro _ w4 ⟨rfl, hb4⟩
      obtain ⟨w5, hw5⟩ : ∃ q, w4.alloc (.cells #[.bool x, .bool y, .bool z] 25) = q := ⟨_, rfl⟩
      have h45 : Below w3.heap.size w3 w5 := by rw [← hw5]; exact hb4.alloc hb4.size _
      have t5 : Thr w5 w4.heap.size (.bool x) (.bool y) (.bool z) := by rw [← hw5]; exact Thr.made _ _ _ _ _
      have t3 := (unhide HT3).keep h45
      have c0 := t3.c0
      have c1 := t3.c1
      have c2 := t3.c2
      have d0 := t5.c0
      have d1 := t5.c1
      have d2 := t5.c2
      have HB5 := hide ((unhide HB3).trans (h45.mono (unhide HB3).size))
      clear hb4 h45 t5 t3 HK2 HT3
      unfold wayV
      go_wp2_with fail
      refine (num6_any er w5).mono ?_
      rintro _ w6 ⟨rfl, hw6⟩
      obtain rfl := hw6.symm
      go_wp2_with fail
      go_ret
      exact ⟨rfl, unhide HB5⟩
theorem recWays_walk (n : Int) (w : World) (hl : -9223372036854775808 ≤ n) (hh : n ≤ 9223372036854775807) :
    Calls Try.prog 3 #[.int .i64 n] w fun e w' => e = .returned (.bool true) ∧ Below w.heap.size w w' := by
  by_cases h : n < 0 ∨ 8 ≤ n
  · exact recWays_part n w false false false 120 (fun w => WayOf_no n w h hl hh) (fun w => RWayOf_no n w h hl hh)
  · obtain ⟨k, rfl⟩ : ∃ k : Nat, n = (k : Int) := ⟨n.toNat, by omega⟩
    have hk : k < 8 := by omega
    exact recWays_part k w _ _ _ 0 (fun w => WayOf_yes k w hk) (fun w => RWayOf_yes k w hk)

set_option maxRecDepth 100000 in
theorem recWays_lifted (os : Os) (started : os.Started) (H : Type) (enc : TypeId × Value → H) :
    ReturnsInHanded {} Try.checked os 3 .any (Rows.recWaysSpec.pre6 enc Try.prog Try.f3 Rows.recWaysRow.domain false) (Rows.recWaysSpec.post enc Try.prog Try.f3 false true false false) := by
  refine returnsInHanded_of_change_sized (C := Try.checked) law_own started (by kernel_rfl) Try.func3
    (ChangeSpec.witness6 (enc := enc) (C := Try.checked) false ⟨#[], #[.int .i64 0], []⟩ 8 (by kernel_rfl) (by kernel_rfl) (by kernel_rfl) (by kernel_rfl)) ?_
  intro W base args ds gs before hval0 hW hcnd hsz _
  have hval : ∀ (j : Nat) t v, Try.f3.params[j]? = some t → args[j]? = some v → Value.okWide Try.prog W .any base t v := hval0
  have hW' := hW
  obtain ⟨p, q, hA0, hV, rfl, hfz, hnd⟩ := hW
  have hA : DataW.TrodAll enc Try.prog W 0 (fun _ => true) true Try.f3.params.toList args.toList ds p := hA0
  rw [Try.params3] at hA hval hsz
  obtain ⟨v0, vs0, d0, ds0, p0, q0, hargs, rfl, rfl, h0, r0⟩ := trodAll_cons hA
  obtain ⟨rfl, rfl, rfl⟩ := trodAll_nil r0
  obtain rfl : args = #[v0] := by cases args; simp_all
  obtain ⟨rfl, rfl⟩ := trodVars_none hV
  obtain ⟨i0, rfl, rfl, rfl, wf0⟩ := open_int Try.underlying3 (hval 0 3 v0 rfl rfl) h0
  clear hA0 hval0
  refine (recWays_walk i0 W (bounds_i64 wf0).1 (bounds_i64 wf0).2).mono fun e W' ⟨he, bel⟩ => ?_
  subst he
  exact ⟨_, rfl, _, _, _, [], _, [], hW', trodAll_mk1 (shut_bool Try.underlying4 _), (trodAll_cons_mk (shut_int Try.underlying3 wf0) trodAll_mk0), rfl, bel.frame _, fun h => by cases h⟩

theorem recWays_holds : Rows.RecWaysSaid :=
  OpenClaim.holds_of_wide 3 Try.f3 rfl rfl rfl rfl rfl rfl rfl ⟨rfl, rfl, rfl, rfl, rfl⟩ rfl rfl rfl rfl rfl (by kernel_rfl) Try.func3 (by kernel_rfl)
    (of_decide_eq_true (by kernel_rfl)) (by unfold Func.isWrapper; first | (rw [if_pos (by decide +kernel)]; kernel_rfl) | (rw [if_neg (by decide +kernel)]; exact ⟨rfl, rfl⟩))
    (fun os started H enc _ => recWays_lifted os started H enc)
#print axioms recWays_holds
end Go.Proofs.Ytdmfaejngepafaa
