/-
  sloperef2: turned: contract.
-/
import Derived.Test.YtcokaopfaodmkaaGreatDoorWrf
import Derived.Test.YtcokaopfaodmkaaGreatDoorWrh
import Derived.Test.YtcokaopfaodmkaaGreatDoorBy2
namespace Go.Proofs.YtcokaopfaodmkaaGreatDoor
open Go.RowKit Go.Deep
set_option linter.unusedVariables false

set_option maxRecDepth 100000 in
set_option maxHeartbeats 16000000 in
/-- sloperef2.turned. -/
theorem wturned_any (neg : Bool) (a1 b1 : Option Addr) (n1 c1 m1 d1 : Nat) (x1 y1 : List Nat) (w : World) (hx1 : Sl w a1 n1 c1 x1) (hy1 : Sl w b1 m1 d1 y1) (nx : a1 = none → c1 = 0) (ny : b1 = none → d1 = 0) (s1 : n1 ≤ 1000000) (s2 : m1 ≤ 1000000) :
    Calls Tryz.prog 84 #[ratV neg a1 n1 c1 b1 m1 d1] w fun e w' => ∃ v, e = .returned v ∧ NewR w w' ((!neg) && decide (x1 ≠ [])) x1 y1 v := by
  obtain ⟨SG, hSG⟩ : ∃ s, ((!neg) && decide (x1 ≠ [])) = s := ⟨_, rfl⟩
  rw [hSG]
  have bx := Box.made w neg a1 n1 c1 b1 m1 d1
  obtain ⟨wa, hwa⟩ : ∃ wa, ratBox w neg a1 n1 c1 b1 m1 d1 = wa := ⟨_, rfl⟩
  rw [hwa] at bx
  unfold ratBox at hwa
  have hba := bx.bel
  obtain ⟨wo, hwo⟩ : ∃ x, wa.alloc (.cells #[.bool false, .slice none 0 0, .slice none 0 0] 25) = x := ⟨_, rfl⟩
  have hbo : Below wa.heap.size wa wo := by rw [← hwo]; exact (Below.refl _ _).alloc (Nat.le_refl _) _
  have hO : Out wo wa.heap.size := by rw [← hwo]; exact Out.made wa
  have bx2 := bx.keep hbo
  have hB := hba.trans (hbo.mono hba.size)
  have hRw : w.heap.size ≤ wa.heap.size := hba.size
  have hne1 : w.heap.size ≠ wa.heap.size := by have := bx.lt; omega
  have hne3 : wa.heap.size ≠ w.heap.size := by have := bx.lt; omega
  have p0 := bx2.d0
  have p1 := bx2.d1
  have p2 := bx2.d2

  have HRw := hide hRw
  have HO := hide hO
  have HBo := hide hB
  have HC1 := hide (fun (W : World) (hb : Below wo.heap.size wo W) => wcopied_any a1 n1 c1 x1 W ((hx1.below hB).below hb) nx (by omega))
  have HC2 := hide (fun (W : World) (hb : Below wo.heap.size wo W) => wcopied_any b1 m1 d1 y1 W ((hy1.below hB).below hb) ny (by omega))
  have hl := hx1.len
  clear hx1 hy1 nx ny bx bx2 hba hbo hB hO
  unfold ratV
  cases neg
  · by_cases h0 : 0 < n1
    · have t0 : (0:Int) < (n1:Int) := by omega
      have hS : SG = true := by rw [← hSG]; simp; intro e; rw [e] at hl; simp at hl; omega
      subst hS
      clear hSG
      go_enter Tryz.func84, Tryz.ntmps84
      go_wp2_with fail
      go_region_held3 (fun w' => w'.cell? ⟨w.heap.size, 0, none⟩ = some (.bool false) ∧ w'.cell? ⟨w.heap.size, 1, none⟩ = some (.slice a1 n1 c1) ∧ w'.cell? ⟨w.heap.size, 2, none⟩ = some (.slice b1 m1 d1)) (first | go_keep | (exact ⟨k0, k1, k2⟩) | (exact ⟨j0, j1, j2⟩))
        (first
          | (go_at_call_of 68 (Value.slice a1 n1 c1); refine (unhide HC1 _ (Below.refl _ _).drew).mono ?_; rintro _ wk ⟨aq, cq, rfl, oq, bl_k⟩; have hb_k : Below wo.heap.size wo wk := (Below.refl _ _).drew.trans bl_k; have k0 := (hb_k.cell (p := ⟨w.heap.size, 0, none⟩) (World.block_lt_of_cell? _ _ p0)).trans p0; have k1 := (hb_k.cell (p := ⟨w.heap.size, 1, none⟩) (World.block_lt_of_cell? _ _ p1)).trans p1; have k2 := (hb_k.cell (p := ⟨w.heap.size, 2, none⟩) (World.block_lt_of_cell? _ _ p2)).trans p2; have SQ := hide oq; clear oq; have HB_k := hide hb_k; clear hb_k bl_k)
          | (go_at_call_of 68 (Value.slice b1 m1 d1); refine (unhide HC2 _ (unhide HB_k)).mono ?_; rintro _ wj ⟨ar, cr, rfl, orr, bl_j⟩; have hb_j : Below wo.heap.size wo wj := (unhide HB_k).trans (bl_j.mono (unhide HB_k).size); have j0 := (bl_j.cell (p := ⟨w.heap.size, 0, none⟩) (World.block_lt_of_cell? _ _ k0)).trans k0; have j1 := (bl_j.cell (p := ⟨w.heap.size, 1, none⟩) (World.block_lt_of_cell? _ _ k1)).trans k1; have j2 := (bl_j.cell (p := ⟨w.heap.size, 2, none⟩) (World.block_lt_of_cell? _ _ k2)).trans k2; have hO3 := (unhide HO).keep hb_j; obtain ⟨x0, q0⟩ := hO3.cells 0 (by decide); obtain ⟨x1, q1⟩ := hO3.cells 1 (by decide); obtain ⟨x2, q2⟩ := hO3.cells 2 (by decide); have r0 := hO3.fz 0 (by decide); have r1 := hO3.fz 1 (by decide); have r2 := hO3.fz 2 (by decide); have HO3 := hide hO3; have SR := hide (And.intro ((unhide SQ).sl.below bl_j) (And.intro (show NewAt (wa.heap.size + 1) aq from fun x hx => Nat.le_trans (unhide HO).lt (Nat.le_trans (Below.refl wo.heap.size wo).drew.size ((unhide SQ).new x hx))) (And.intro orr.sl (show NewAt (wa.heap.size + 1) ar from fun x hx => Nat.le_trans (unhide HO).lt (Nat.le_trans (unhide HB_k).size (orr.new x hx)))))); clear orr hO3; have HB_j := hide hb_j; clear hb_j bl_j))
      have H4 := hide (three_set wj wa.heap.size (.bool true) (.slice aq n1 cq) (.slice ar m1 cr) (unhide HO3).cells)
      have HB3 := hide ((unhide HBo).trans ((unhide HB_j).mono (unhide HBo).size))
      clear q0 q1 q2 r0 r1 r2
      try go_wp2_with fail
      obtain ⟨t0, t1, t2, c4⟩ := unhide H4
      generalize ((wj.setCell ⟨wa.heap.size, 0, none⟩ (.bool true)).setCell ⟨wa.heap.size, 1, none⟩ (.slice aq n1 cq)).setCell ⟨wa.heap.size, 2, none⟩ (.slice ar m1 cr) = wf at *
      refine bodyPost_ret (by simp [results, Tryz.results84, go_sem, t0, t1, t2]; try rfl) rfl ?_
      obtain ⟨sN, nN, sD, nD⟩ := unhide SR
      exact ⟨_, rfl, newR_of (unhide HRw) (unhide HO3).lt (unhide HB3) sN nN sD nD c4 true⟩
    · have t0 : ¬ (0:Int) < (n1:Int) := by omega
      have hS : SG = false := by rw [← hSG]; simp; exact List.eq_nil_of_length_eq_zero (by omega)
      subst hS
      clear hSG
      go_enter Tryz.func84, Tryz.ntmps84
      go_wp2_with fail
      go_region_held3 (fun w' => w'.cell? ⟨w.heap.size, 0, none⟩ = some (.bool false) ∧ w'.cell? ⟨w.heap.size, 1, none⟩ = some (.slice a1 n1 c1) ∧ w'.cell? ⟨w.heap.size, 2, none⟩ = some (.slice b1 m1 d1)) (first | go_keep | (exact ⟨k0, k1, k2⟩) | (exact ⟨j0, j1, j2⟩))
        (first
          | (go_at_call_of 68 (Value.slice a1 n1 c1); refine (unhide HC1 _ (Below.refl _ _).drew).mono ?_; rintro _ wk ⟨aq, cq, rfl, oq, bl_k⟩; have hb_k : Below wo.heap.size wo wk := (Below.refl _ _).drew.trans bl_k; have k0 := (hb_k.cell (p := ⟨w.heap.size, 0, none⟩) (World.block_lt_of_cell? _ _ p0)).trans p0; have k1 := (hb_k.cell (p := ⟨w.heap.size, 1, none⟩) (World.block_lt_of_cell? _ _ p1)).trans p1; have k2 := (hb_k.cell (p := ⟨w.heap.size, 2, none⟩) (World.block_lt_of_cell? _ _ p2)).trans p2; have SQ := hide oq; clear oq; have HB_k := hide hb_k; clear hb_k bl_k)
          | (go_at_call_of 68 (Value.slice b1 m1 d1); refine (unhide HC2 _ (unhide HB_k)).mono ?_; rintro _ wj ⟨ar, cr, rfl, orr, bl_j⟩; have hb_j : Below wo.heap.size wo wj := (unhide HB_k).trans (bl_j.mono (unhide HB_k).size); have j0 := (bl_j.cell (p := ⟨w.heap.size, 0, none⟩) (World.block_lt_of_cell? _ _ k0)).trans k0; have j1 := (bl_j.cell (p := ⟨w.heap.size, 1, none⟩) (World.block_lt_of_cell? _ _ k1)).trans k1; have j2 := (bl_j.cell (p := ⟨w.heap.size, 2, none⟩) (World.block_lt_of_cell? _ _ k2)).trans k2; have hO3 := (unhide HO).keep hb_j; obtain ⟨x0, q0⟩ := hO3.cells 0 (by decide); obtain ⟨x1, q1⟩ := hO3.cells 1 (by decide); obtain ⟨x2, q2⟩ := hO3.cells 2 (by decide); have r0 := hO3.fz 0 (by decide); have r1 := hO3.fz 1 (by decide); have r2 := hO3.fz 2 (by decide); have HO3 := hide hO3; have SR := hide (And.intro ((unhide SQ).sl.below bl_j) (And.intro (show NewAt (wa.heap.size + 1) aq from fun x hx => Nat.le_trans (unhide HO).lt (Nat.le_trans (Below.refl wo.heap.size wo).drew.size ((unhide SQ).new x hx))) (And.intro orr.sl (show NewAt (wa.heap.size + 1) ar from fun x hx => Nat.le_trans (unhide HO).lt (Nat.le_trans (unhide HB_k).size (orr.new x hx)))))); clear orr hO3; have HB_j := hide hb_j; clear hb_j bl_j))
      have H4 := hide (three_set wj wa.heap.size (.bool false) (.slice aq n1 cq) (.slice ar m1 cr) (unhide HO3).cells)
      have HB3 := hide ((unhide HBo).trans ((unhide HB_j).mono (unhide HBo).size))
      clear q0 q1 q2 r0 r1 r2
      try go_wp2_with fail
      obtain ⟨t0, t1, t2, c4⟩ := unhide H4
      generalize ((wj.setCell ⟨wa.heap.size, 0, none⟩ (.bool false)).setCell ⟨wa.heap.size, 1, none⟩ (.slice aq n1 cq)).setCell ⟨wa.heap.size, 2, none⟩ (.slice ar m1 cr) = wf at *
      refine bodyPost_ret (by simp [results, Tryz.results84, go_sem, t0, t1, t2]; try rfl) rfl ?_
      obtain ⟨sN, nN, sD, nD⟩ := unhide SR
      exact ⟨_, rfl, newR_of (unhide HRw) (unhide HO3).lt (unhide HB3) sN nN sD nD c4 false⟩
  · have hS : SG = false := by rw [← hSG]; rfl
    subst hS
    clear hSG
    go_enter Tryz.func84, Tryz.ntmps84
    go_wp2_with fail
    refine wp_region_held_drew (S := fun w' => w'.cell? ⟨w.heap.size, 0, none⟩ = some (.bool true) ∧ w'.cell? ⟨w.heap.size, 1, none⟩ = some (.slice a1 n1 c1) ∧ w'.cell? ⟨w.heap.size, 2, none⟩ = some (.slice b1 m1 d1)) (by kernel_rfl) (by simp [p0, p1, p2]) (fun hHeld => ?_)
    refine wpAnyH_take (i := 0) (oi := { dst := some 3, op := Op.fieldAddr 25 (Operand.tmp 1) 0, type := 0, pos := "rational.go:150", after := #[], guard := none }) (v := ?v0) rfl (by kernel_rfl) (by kernel_rfl) (by kernel_rfl) (fun _ _ _ h => h) (Or.inl ⟨by rfl, ?y0⟩) (by assumption) ?r0
    case y0 =>
      intro W hSw
      try dsimp only at hSw
      go_simp
      try with_reducible rfl
    try simp only [Act.put, List.setIfInBounds_toArray, List.set_cons_zero, List.set_cons_succ]
    refine wpAnyH_take (i := 1) (oi := { dst := some 4, op := Op.load 4 (Operand.tmp 3), type := 4, pos := "rational.go:150", after := #[{ on := 0, ground := Ground.data }], guard := none }) (v := ?v1) rfl (by kernel_rfl) (by kernel_rfl) (by kernel_rfl) (fun _ _ _ h => h) (Or.inl ⟨by rfl, ?y1⟩) (by assumption) ?r1
    case y1 =>
      intro W hSw
      try dsimp only at hSw
      go_simp
      try with_reducible rfl
    try simp only [Act.put, List.setIfInBounds_toArray, List.set_cons_zero, List.set_cons_succ]
    refine wpAnyH_take (i := 2) (oi := { dst := some 5, op := Op.unOp UnOp.not 4 (Operand.tmp 4), type := 4, pos := "rational.go:150", after := #[{ on := 1, ground := Ground.data }], guard := none }) (v := ?v2) rfl (by kernel_rfl) (by kernel_rfl) (by kernel_rfl) (fun _ _ _ h => h) (Or.inl ⟨by rfl, ?y2⟩) (by assumption) ?r2
    case y2 =>
      intro W hSw
      try dsimp only at hSw
      go_simp
      try with_reducible rfl
    try simp only [Act.put, List.setIfInBounds_toArray, List.set_cons_zero, List.set_cons_succ]
    refine wpAnyH_take (i := 3) (oi := { dst := some 6, op := Op.move (Operand.tmp 5), type := 4, pos := "rational.go:150", after := #[{ on := 2, ground := Ground.data }], guard := none }) (v := ?v3) rfl (by kernel_rfl) (by kernel_rfl) (by kernel_rfl) (fun _ _ _ h => h) (Or.inl ⟨by rfl, ?y3⟩) (by assumption) ?r3
    case y3 =>
      intro W hSw
      try dsimp only at hSw
      go_simp
      try with_reducible rfl
    try simp only [Act.put, List.setIfInBounds_toArray, List.set_cons_zero, List.set_cons_succ]
    refine wpAnyH_take (i := 4) (oi := { dst := some 7, op := Op.fieldAddr 25 (Operand.tmp 1) 1, type := 0, pos := "rational.go:150", after := #[{ on := 3, ground := Ground.guard }], guard := some (3, true) }) (v := _) rfl (by kernel_rfl) (by kernel_rfl) (by kernel_rfl) (fun _ _ _ h => h) (Or.inr ⟨by rfl, rfl⟩) (by assumption) ?r4
    try simp only [Act.put, List.setIfInBounds_toArray, List.set_cons_zero, List.set_cons_succ]
    refine wpAnyH_take (i := 5) (oi := { dst := some 8, op := Op.load 23 (Operand.tmp 7), type := 23, pos := "rational.go:150", after := #[{ on := 4, ground := Ground.data }, { on := 3, ground := Ground.guard }], guard := some (3, true) }) (v := _) rfl (by kernel_rfl) (by kernel_rfl) (by kernel_rfl) (fun _ _ _ h => h) (Or.inr ⟨by rfl, rfl⟩) (by assumption) ?r5
    try simp only [Act.put, List.setIfInBounds_toArray, List.set_cons_zero, List.set_cons_succ]
    refine wpAnyH_take (i := 6) (oi := { dst := some 9, op := Op.call { callee := Callee.builtin Builtin.len, args := #[Operand.tmp 8], argTypes := #[23] }, type := 3, pos := "rational.go:150", after := #[{ on := 5, ground := Ground.data }, { on := 3, ground := Ground.guard }], guard := some (3, true) }) (v := _) rfl (by kernel_rfl) (by kernel_rfl) (by kernel_rfl) (fun _ _ _ h => h) (Or.inr ⟨by rfl, rfl⟩) (by assumption) ?r6
    try simp only [Act.put, List.setIfInBounds_toArray, List.set_cons_zero, List.set_cons_succ]
    refine wpAnyH_take (i := 7) (oi := { dst := some 10, op := Op.binOp BinOp.gtr 3 (Operand.tmp 9) (Operand.const (Value.int IntKind.i64 0)) 3, type := 4, pos := "rational.go:150", after := #[{ on := 6, ground := Ground.data }, { on := 3, ground := Ground.guard }], guard := some (3, true) }) (v := _) rfl (by kernel_rfl) (by kernel_rfl) (by kernel_rfl) (fun _ _ _ h => h) (Or.inr ⟨by rfl, rfl⟩) (by assumption) ?r7
    try simp only [Act.put, List.setIfInBounds_toArray, List.set_cons_zero, List.set_cons_succ]
    refine wpAnyH_take (i := 8) (oi := { dst := some 11, op := Op.pick (Operand.tmp 6) (Operand.tmp 10) (Operand.const (Value.bool false)), type := 4, pos := "rational.go:150", after := #[{ on := 3, ground := Ground.data }, { on := 7, ground := Ground.data }], guard := none }) (v := ?v8) rfl (by kernel_rfl) (by kernel_rfl) (by kernel_rfl) (fun _ _ _ h => h) (Or.inl ⟨by rfl, ?y8⟩) (by assumption) ?r8
    case y8 =>
      intro W hSw
      try dsimp only at hSw
      go_simp
      try with_reducible rfl
    try simp only [Act.put, List.setIfInBounds_toArray, List.set_cons_zero, List.set_cons_succ]
    refine wpAnyH_take (i := 9) (oi := { dst := some 12, op := Op.fieldAddr 25 (Operand.tmp 1) 1, type := 0, pos := "rational.go:150", after := #[], guard := none }) (v := ?v9) rfl (by kernel_rfl) (by kernel_rfl) (by kernel_rfl) (fun _ _ _ h => h) (Or.inl ⟨by rfl, ?y9⟩) (by assumption) ?r9
    case y9 =>
      intro W hSw
      try dsimp only at hSw
      go_simp
      try with_reducible rfl
    try simp only [Act.put, List.setIfInBounds_toArray, List.set_cons_zero, List.set_cons_succ]
    refine wpAnyH_take (i := 10) (oi := { dst := some 13, op := Op.load 23 (Operand.tmp 12), type := 23, pos := "rational.go:150", after := #[{ on := 9, ground := Ground.data }], guard := none }) (v := ?v10) rfl (by kernel_rfl) (by kernel_rfl) (by kernel_rfl) (fun _ _ _ h => h) (Or.inl ⟨by rfl, ?y10⟩) (by assumption) ?r10
    case y10 =>
      intro W hSw
      try dsimp only at hSw
      go_simp
      try with_reducible rfl
    try simp only [Act.put, List.setIfInBounds_toArray, List.set_cons_zero, List.set_cons_succ]
    refine wpAnyH_take (i := 12) (oi := { dst := some 15, op := Op.fieldAddr 25 (Operand.tmp 1) 2, type := 0, pos := "rational.go:150", after := #[], guard := none }) (v := ?v12) rfl (by kernel_rfl) (by kernel_rfl) (by kernel_rfl) (fun _ _ _ h => h) (Or.inl ⟨by rfl, ?y12⟩) (by assumption) ?r12
    case y12 =>
      intro W hSw
      try dsimp only at hSw
      go_simp
      try with_reducible rfl
    try simp only [Act.put, List.setIfInBounds_toArray, List.set_cons_zero, List.set_cons_succ]
    refine wpAnyH_take (i := 13) (oi := { dst := some 16, op := Op.load 23 (Operand.tmp 15), type := 23, pos := "rational.go:150", after := #[{ on := 12, ground := Ground.data }], guard := none }) (v := ?v13) rfl (by kernel_rfl) (by kernel_rfl) (by kernel_rfl) (fun _ _ _ h => h) (Or.inl ⟨by rfl, ?y13⟩) (by assumption) ?r13
    case y13 =>
      intro W hSw
      try dsimp only at hSw
      go_simp
      try with_reducible rfl
    try simp only [Act.put, List.setIfInBounds_toArray, List.set_cons_zero, List.set_cons_succ]
    refine wpAnyH_ready (rs := [11]) (by kernel_rfl) (by simp) ?_
    refine AllReadyH.cons (o := { dst := some 14, op := Op.call { callee := Callee.value (Operand.func 68), args := #[Operand.tmp 13], argTypes := #[22] }, type := 22, pos := "rational.go:150", after := #[{ on := 10, ground := Ground.data }, { on := 3, ground := Ground.chain }], guard := none }) rfl (fun K hK => ?_) AllReadyH.nil
    go_simp
    refine (unhide HC1 _ (Below.refl _ _).drew).mono ?_
    rintro _ wk ⟨aq, cq, rfl, oq, bl_k⟩
    have hb_k : Below wo.heap.size wo wk := (Below.refl _ _).drew.trans bl_k
    have k0 := (hb_k.cell (p := ⟨w.heap.size, 0, none⟩) (World.block_lt_of_cell? _ _ p0)).trans p0
    have k1 := (hb_k.cell (p := ⟨w.heap.size, 1, none⟩) (World.block_lt_of_cell? _ _ p1)).trans p1
    have k2 := (hb_k.cell (p := ⟨w.heap.size, 2, none⟩) (World.block_lt_of_cell? _ _ p2)).trans p2
    have SQ := hide oq
    have HB_k := hide hb_k
    clear oq hb_k bl_k
    refine hK.out _ _ ⟨k0, k1, k2⟩ (fun hHeld => ?_)
    clear hK K
    try simp only [Act.put, List.setIfInBounds_toArray, List.set_cons_zero, List.set_cons_succ]
    refine wpAnyH_ready (rs := [14]) (by kernel_rfl) (by simp) ?_
    refine AllReadyH.cons (o := { dst := some 17, op := Op.call { callee := Callee.value (Operand.func 68), args := #[Operand.tmp 16], argTypes := #[22] }, type := 22, pos := "rational.go:150", after := #[{ on := 13, ground := Ground.data }, { on := 11, ground := Ground.chain }], guard := none }) rfl (fun K hK => ?_) AllReadyH.nil
    go_simp
    refine (unhide HC2 _ (unhide HB_k)).mono ?_
    rintro _ wj ⟨ar, cr, rfl, orr, bl_j⟩
    have hb_j : Below wo.heap.size wo wj := (unhide HB_k).trans (bl_j.mono (unhide HB_k).size)
    have j0 := (bl_j.cell (p := ⟨w.heap.size, 0, none⟩) (World.block_lt_of_cell? _ _ k0)).trans k0
    have j1 := (bl_j.cell (p := ⟨w.heap.size, 1, none⟩) (World.block_lt_of_cell? _ _ k1)).trans k1
    have j2 := (bl_j.cell (p := ⟨w.heap.size, 2, none⟩) (World.block_lt_of_cell? _ _ k2)).trans k2
    have HO3 := hide ((unhide HO).keep hb_j)
    have SR := hide (And.intro ((unhide SQ).sl.below bl_j) (And.intro (show NewAt (wa.heap.size + 1) aq from fun x hx => Nat.le_trans (unhide HO).lt (Nat.le_trans (Below.refl wo.heap.size wo).drew.size ((unhide SQ).new x hx))) (And.intro orr.sl (show NewAt (wa.heap.size + 1) ar from fun x hx => Nat.le_trans (unhide HO).lt (Nat.le_trans (unhide HB_k).size (orr.new x hx))))))
    have HB_j := hide hb_j
    clear orr hb_j bl_j
    refine hK.out _ _ ⟨j0, j1, j2⟩ (fun hHeld => ?_)
    clear hK K
    try simp only [Act.put, List.setIfInBounds_toArray, List.set_cons_zero, List.set_cons_succ]
    refine wpAnyH_take (i := 15) (oi := { dst := some 18, op := Op.build 25 #[(0, Operand.tmp 11), (1, Operand.tmp 14), (2, Operand.tmp 17)], type := 25, pos := "rational.go:150", after := #[{ on := 8, ground := Ground.data }, { on := 11, ground := Ground.data }, { on := 14, ground := Ground.data }], guard := none }) (v := ?v15) rfl (by kernel_rfl) (by kernel_rfl) (by kernel_rfl) (fun _ _ _ h => h) (Or.inl ⟨by rfl, ?y15⟩) (by assumption) ?r15
    case y15 =>
      intro W hSw
      try dsimp only at hSw
      go_simp
      try with_reducible rfl
    try simp only [Act.put, List.setIfInBounds_toArray, List.set_cons_zero, List.set_cons_succ]
    have hO3 := unhide HO3
    obtain ⟨x0, q0⟩ := hO3.cells 0 (by decide)
    obtain ⟨x1, q1⟩ := hO3.cells 1 (by decide)
    obtain ⟨x2, q2⟩ := hO3.cells 2 (by decide)
    have r0 := hO3.fz 0 (by decide)
    have r1 := hO3.fz 1 (by decide)
    have r2 := hO3.fz 2 (by decide)
    clear hO3
    refine wpAnyH_ready (rs := [16]) (by kernel_rfl) (by simp) ?_
    refine AllReadyH.cons rfl (fun K hK => ?_) AllReadyH.nil
    go_simp
    refine hK.out _ _ (by go_keep) (fun hHeld => ?_)
    clear hK K hHeld
    refine wpAnyH_done (by kernel_rfl) ?_ _
    have H4 := hide (three_set wj wa.heap.size (.bool false) (.slice aq n1 cq) (.slice ar m1 cr) (unhide HO3).cells)
    have HB3 := hide ((unhide HBo).trans ((unhide HB_j).mono (unhide HBo).size))
    clear q0 q1 q2 r0 r1 r2
    try go_wp2_with fail
    obtain ⟨t0, t1, t2, c4⟩ := unhide H4
    generalize ((wj.setCell ⟨wa.heap.size, 0, none⟩ (.bool false)).setCell ⟨wa.heap.size, 1, none⟩ (.slice aq n1 cq)).setCell ⟨wa.heap.size, 2, none⟩ (.slice ar m1 cr) = wf at *
    refine bodyPost_ret (by simp [results, Tryz.results84, go_sem, t0, t1, t2]; try rfl) rfl ?_
    obtain ⟨sN, nN, sD, nD⟩ := unhide SR
    exact ⟨_, rfl, newR_of (unhide HRw) (unhide HO3).lt (unhide HB3) sN nN sD nD c4 false⟩
end Go.Proofs.YtcokaopfaodmkaaGreatDoor

namespace Go.Proofs.YtcokaopfaodmkaaGreatDoor
open Go.RowKit Go.Deep
set_option linter.unusedVariables false


theorem plus_lowest {g1 g2 g3 : Bool} {x1 y1 x2 y2 : List Nat} (h1 : MayR g1 x1 y1 = true) (h2 : MayR g2 x2 y2 = true) (h3 : Bool) (e3 : nI h3 (val x2) = nI g3 (val x2)) :
    lowF (cmbV g1 (val x1 * val y2) h3 (val x2 * val y1)).2 (cmbV g1 (val x1 * val y2) h3 (val x2 * val y1)).1 (val y1 * val y2) = if bigN (adN g1 x1 y1 g3 x2 y2) || bigN (adD g1 x1 y1 g3 x2 y2) then ((false, [], []), 2) else (((adS g1 x1 y1 g3 x2 y2).2 && decide (adN g1 x1 y1 g3 x2 y2 ≠ 0), limbs (adN g1 x1 y1 g3 x2 y2), limbs (adD g1 x1 y1 g3 x2 y2)), 0) := by
  obtain ⟨_, _, _, _, l1⟩ := MayR.parts h1
  obtain ⟨_, _, _, _, l2⟩ := MayR.parts h2
  have p1 := mayR_pos h1
  have p2 := mayR_pos h2
  have hGp : 0 < adG y1 y2 := Nat.gcd_pos_of_pos_right _ p2
  have hD : 0 < adD g1 x1 y1 g3 x2 y2 := by
    unfold adD adC
    exact Nat.mul_pos (Nat.mul_pos (div_pos_of_dvd (Nat.gcd_dvd_left _ _) p1) (div_pos_of_dvd (Nat.gcd_dvd_right _ _) p2)) (div_pos_of_dvd (Nat.gcd_dvd_right _ _) hGp)
  refine lowF_is (add_low (G := adG y1 y2) l1 l2 p1 p2 rfl (cmbV_abs g1 g3 _ _)) hD (Nat.mul_pos p1 p2) ?_
  rw [cmbV_val, nI_mul, nI_mul, e3]
  exact add_val (G := adG y1 y2) rfl p2 (cmbV_val g1 g3 _ _)
set_option maxRecDepth 100000 in
set_option maxHeartbeats 16000000 in
/-- sloperef2.Add. -/
theorem wAdd_any (g1 g2 : Bool) (a1 b1 a2 b2 : Option Addr) (n1 c1 m1 d1 n2 c2 m2 d2 : Nat) (x1 y1 x2 y2 : List Nat) (w : World) (hx1 : Sl w a1 n1 c1 x1) (hy1 : Sl w b1 m1 d1 y1) (hx2 : Sl w a2 n2 c2 x2) (hy2 : Sl w b2 m2 d2 y2) (ox1 : Ok x1) (oy1 : Ok y1) (ox2 : Ok x2) (oy2 : Ok y2) :
    Calls Tryz.prog 55 #[ratV g1 a1 n1 c1 b1 m1 d1, ratV g2 a2 n2 c2 b2 m2 d2] w fun e w' => ResF w w' (AddF g1 x1 y1 g2 x2 y2) e := by
  obtain ⟨⟨⟨SG, LN, LD⟩, ER⟩, hFF⟩ : ∃ r, AddF g1 x1 y1 g2 x2 y2 = r := ⟨_, rfl⟩
  rw [hFF]
  unfold ResF
  dsimp only
  have bx := Box.made w g1 a1 n1 c1 b1 m1 d1
  obtain ⟨wa, hwa⟩ : ∃ wa, ratBox w g1 a1 n1 c1 b1 m1 d1 = wa := ⟨_, rfl⟩
  rw [hwa] at bx
  have by_ := Box.made wa g2 a2 n2 c2 b2 m2 d2
  obtain ⟨wb, hwb⟩ : ∃ wb, ratBox wa g2 a2 n2 c2 b2 m2 d2 = wb := ⟨_, rfl⟩
  rw [hwb] at by_
  have hba : Below w.heap.size w wa := by rw [← hwa]; exact (Below.refl _ _).alloc (Nat.le_refl _) _
  have hbb : Below wa.heap.size wa wb := by rw [← hwb]; exact (Below.refl _ _).alloc (Nat.le_refl _) _
  unfold ratBox at hwa hwb
  obtain ⟨wo, hwo⟩ : ∃ x, wb.alloc (.cells #[.bool false, .slice none 0 0, .slice none 0 0] 25) = x := ⟨_, rfl⟩
  have hbo : Below wb.heap.size wb wo := by rw [← hwo]; exact (Below.refl _ _).alloc (Nat.le_refl _) _
  have hO : Out wo wb.heap.size := by rw [← hwo]; exact Out.made wb
  have bx2 := (bx.keep hbb).keep hbo
  have by2 := by_.keep hbo
  have hB := (hba.trans (hbb.mono hba.size)).trans (hbo.mono (Nat.le_trans hba.size hbb.size))
  have hRw : w.heap.size ≤ wb.heap.size := Nat.le_trans hba.size hbb.size
  have hlab : w.heap.size ≠ wa.heap.size := by have := bx.lt; omega
  have hlab2 : w.heap.size < wb.heap.size := Nat.lt_of_lt_of_le bx.lt hbb.size
  have hlab3 : wa.heap.size < wb.heap.size := by_.lt
  have hne1 : w.heap.size ≠ wb.heap.size := by omega
  have hne2 : wa.heap.size ≠ wb.heap.size := by omega
  have hne3 : wb.heap.size ≠ w.heap.size := by omega
  have hne4 : wb.heap.size ≠ wa.heap.size := by omega
  have p0 := bx2.d0
  have p1 := bx2.d1
  have p2 := bx2.d2
  have p3 := by2.d0
  have p4 := by2.d1
  have p5 := by2.d2

  have HRw := hide hRw
  have HO := hide hO
  have HBo := hide hB
  have K1 := wmay_any g1 a1 b1 n1 c1 m1 d1 x1 y1 wo (hx1.below hB) (hy1.below hB) ox1 oy1
  have HK2 := hide (fun (W : World) (hb : Below wo.heap.size wo W) => wmay_any g2 a2 b2 n2 c2 m2 d2 x2 y2 W ((hx2.below hB).below hb) ((hy2.below hB).below hb) ox2 oy2)
  cases k1 : MayR g1 x1 y1
  · rw [k1] at K1
    have h40 := hFF.symm.trans (show AddF g1 x1 y1 g2 x2 y2 = ((false, [], []), 40) from by unfold AddF; rw [k1]; rfl)
    cases h40
    clear hFF
    have HK1 := hide K1
    clear K1 HK2 hx1 hy1 hx2 hy2 bx by_ bx2 by2 hba hbb hbo hB hO
    unfold ratV at HK1 ⊢
    go_enter Tryz.func55, Tryz.ntmps55
    go_wp2_with fail
    refine (unhide HK1).mono ?_
    rintro _ w3 ⟨rfl, b3⟩
    have HO3 := hide ((unhide HO).keep b3)
    have HB3 := hide ((unhide HBo).trans (b3.mono (unhide HBo).size))
    clear b3 HK1 HO HBo
    have hO3 := unhide HO3
    obtain ⟨x0, q0⟩ := hO3.cells 0 (by decide)
    obtain ⟨x1, q1⟩ := hO3.cells 1 (by decide)
    obtain ⟨x2, q2⟩ := hO3.cells 2 (by decide)
    have r0 := hO3.fz 0 (by decide)
    have r1 := hO3.fz 1 (by decide)
    have r2 := hO3.fz 2 (by decide)
    have H4 := hide (three_set w3 wb.heap.size (.bool false) (.slice none 0 0) (.slice none 0 0) hO3.cells)
    clear hO3
    go_wp2_with fail
    obtain ⟨p0, p1, p2, c4⟩ := unhide H4
    generalize ((w3.setCell ⟨wb.heap.size, 0, none⟩ (.bool false)).setCell ⟨wb.heap.size, 1, none⟩ (.slice none 0 0)).setCell ⟨wb.heap.size, 2, none⟩ (.slice none 0 0) = wf at *
    refine bodyPost_ret (by simp [results, Tryz.results55, go_sem, p0, p1, p2]; try rfl) rfl ?_
    exact ⟨_, rfl, newR_of (unhide HRw) (unhide HO3).lt (unhide HB3) (sl_nil _) (newAt_nil _) (sl_nil _) (newAt_nil _) c4 false⟩
  · rw [k1] at K1
    have HK1 := hide K1
    clear K1
    cases k2 : MayR g2 x2 y2
    · rw [k2] at HK2
      have h40 := hFF.symm.trans (show AddF g1 x1 y1 g2 x2 y2 = ((false, [], []), 40) from by unfold AddF; rw [k1, k2]; rfl)
      cases h40
      clear hFF
      clear hx1 hy1 hx2 hy2 bx by_ bx2 by2 hba hbb hbo hB hO
      unfold ratV at HK1 HK2 ⊢
      go_enter Tryz.func55, Tryz.ntmps55
      go_wp2_with fail
      refine (unhide HK1).mono ?_
      rintro _ w2 ⟨rfl, b2⟩
      have e0 := (b2.cell (p := ⟨w.heap.size, 0, none⟩) (World.block_lt_of_cell? _ _ p0)).trans p0
      have e1 := (b2.cell (p := ⟨w.heap.size, 1, none⟩) (World.block_lt_of_cell? _ _ p1)).trans p1
      have e2 := (b2.cell (p := ⟨w.heap.size, 2, none⟩) (World.block_lt_of_cell? _ _ p2)).trans p2
      have e3 := (b2.cell (p := ⟨wa.heap.size, 0, none⟩) (World.block_lt_of_cell? _ _ p3)).trans p3
      have e4 := (b2.cell (p := ⟨wa.heap.size, 1, none⟩) (World.block_lt_of_cell? _ _ p4)).trans p4
      have e5 := (b2.cell (p := ⟨wa.heap.size, 2, none⟩) (World.block_lt_of_cell? _ _ p5)).trans p5
      have HO2 := hide ((unhide HO).keep b2)
      have HB2 := hide ((unhide HBo).trans (b2.mono (unhide HBo).size))
      have HBL2 := hide b2
      clear b2 HK1 HO HBo
      go_wp2_with fail
      refine (unhide HK2 _ (unhide HBL2)).mono ?_
      rintro _ w3 ⟨rfl, b3⟩
      have HO3 := hide ((unhide HO2).keep b3)
      have HB3 := hide ((unhide HB2).trans (b3.mono (unhide HB2).size))
      clear b3 HK2 HO2 HB2 HBL2
      have hO3 := unhide HO3
      obtain ⟨x0, q0⟩ := hO3.cells 0 (by decide)
      obtain ⟨x1, q1⟩ := hO3.cells 1 (by decide)
      obtain ⟨x2, q2⟩ := hO3.cells 2 (by decide)
      have r0 := hO3.fz 0 (by decide)
      have r1 := hO3.fz 1 (by decide)
      have r2 := hO3.fz 2 (by decide)
      have H4 := hide (three_set w3 wb.heap.size (.bool false) (.slice none 0 0) (.slice none 0 0) hO3.cells)
      clear hO3
      go_wp2_with fail
      obtain ⟨p0, p1, p2, c4⟩ := unhide H4
      generalize ((w3.setCell ⟨wb.heap.size, 0, none⟩ (.bool false)).setCell ⟨wb.heap.size, 1, none⟩ (.slice none 0 0)).setCell ⟨wb.heap.size, 2, none⟩ (.slice none 0 0) = wf at *
      refine bodyPost_ret (by simp [results, Tryz.results55, go_sem, p0, p1, p2]; try rfl) rfl ?_
      exact ⟨_, rfl, newR_of (unhide HRw) (unhide HO3).lt (unhide HB3) (sl_nil _) (newAt_nil _) (sl_nil _) (newAt_nil _) c4 false⟩
    · rw [k2] at HK2
      obtain ⟨kx1, ky1, ey1, _, l1⟩ := MayR.parts k1
      obtain ⟨kx2, ky2, ey2, _, l2⟩ := MayR.parts k2
      have s1 : n1 ≤ 2048 := by have := hx1.len; have := MayL.len kx1; omega
      have s2 : m1 ≤ 2048 := by have := hy1.len; have := MayL.len ky1; omega
      have s3 : n2 ≤ 2048 := by have := hx2.len; have := MayL.len kx2; omega
      have s4 : m2 ≤ 2048 := by have := hy2.len; have := MayL.len ky2; omega
      have HR := hide ((show lowF (cmbV g1 (val x1 * val y2) g2 (val x2 * val y1)).2 (cmbV g1 (val x1 * val y2) g2 (val x2 * val y1)).1 (val y1 * val y2) = AddF g1 x1 y1 g2 x2 y2 from by
        rw [plus_lowest k1 k2 (g3 := g2) g2 rfl]
        unfold AddF; rw [k1, k2]; rfl).trans hFF)
      clear hFF
      have HKP := hide (fun (W : World) (hb : Below wo.heap.size wo W) => wplus_any g1 g2 a1 b1 a2 b2 n1 c1 m1 d1 n2 c2 m2 d2 x1 y1 x2 y2 W ((hx1.below hB).below hb) ((hy1.below hB).below hb) ((hx2.below hB).below hb) ((hy2.below hB).below hb) ox1 oy1 ox2 oy2 (MayL.norm kx1) (MayL.norm ky1) (MayL.norm kx2) (MayL.norm ky2) ey1 ey2 (by omega) (by omega) (by omega) (by omega))
      rw [unhide HR] at HKP
      unfold ResF at HKP
      dsimp only at HKP
      unfold ratV at HKP
      clear hx1 hy1 hx2 hy2 bx by_ bx2 by2 hba hbb hbo hB hO k1 k2 kx1 kx2 ky1 ky2 ey1 ey2 l1 l2
      unfold ratV at HK1 HK2 ⊢
      go_enter Tryz.func55, Tryz.ntmps55
      go_wp2_with fail
      refine (unhide HK1).mono ?_
      rintro _ w2 ⟨rfl, b2⟩
      have e0 := (b2.cell (p := ⟨w.heap.size, 0, none⟩) (World.block_lt_of_cell? _ _ p0)).trans p0
      have e1 := (b2.cell (p := ⟨w.heap.size, 1, none⟩) (World.block_lt_of_cell? _ _ p1)).trans p1
      have e2 := (b2.cell (p := ⟨w.heap.size, 2, none⟩) (World.block_lt_of_cell? _ _ p2)).trans p2
      have e3 := (b2.cell (p := ⟨wa.heap.size, 0, none⟩) (World.block_lt_of_cell? _ _ p3)).trans p3
      have e4 := (b2.cell (p := ⟨wa.heap.size, 1, none⟩) (World.block_lt_of_cell? _ _ p4)).trans p4
      have e5 := (b2.cell (p := ⟨wa.heap.size, 2, none⟩) (World.block_lt_of_cell? _ _ p5)).trans p5
      have HBL2 := hide b2
      clear b2 HK1
      go_wp2_with fail
      refine (unhide HK2 _ (unhide HBL2)).mono ?_
      rintro _ w3 ⟨rfl, b3⟩
      have f0 := (b3.cell (p := ⟨w.heap.size, 0, none⟩) (World.block_lt_of_cell? _ _ e0)).trans e0
      have f1 := (b3.cell (p := ⟨w.heap.size, 1, none⟩) (World.block_lt_of_cell? _ _ e1)).trans e1
      have f2 := (b3.cell (p := ⟨w.heap.size, 2, none⟩) (World.block_lt_of_cell? _ _ e2)).trans e2
      have f3 := (b3.cell (p := ⟨wa.heap.size, 0, none⟩) (World.block_lt_of_cell? _ _ e3)).trans e3
      have f4 := (b3.cell (p := ⟨wa.heap.size, 1, none⟩) (World.block_lt_of_cell? _ _ e4)).trans e4
      have f5 := (b3.cell (p := ⟨wa.heap.size, 2, none⟩) (World.block_lt_of_cell? _ _ e5)).trans e5
      have HBL3 := hide ((unhide HBL2).trans (b3.mono (unhide HBL2).size))
      clear b3 HK2 HBL2 e0 e1 e2 e3 e4 e5 p0 p1 p2 p3 p4 p5
      go_wp2_with fail
      refine (unhide HKP _ (unhide HBL3)).mono ?_
      rintro _ wi ⟨vv, rfl, aN, mN, cN, aD, mD, cD, rfl, sN, sD, nN, nD, bl_i⟩
      unfold ratV
      have hzz : wb.heap.size + 1 ≤ w3.heap.size := Nat.le_trans (unhide HO).lt (unhide HBL3).size
      have HS3 := hide (And.intro sN (And.intro (show NewAt (wb.heap.size + 1) aN from fun x hx => Nat.le_trans hzz (nN x hx)) (And.intro sD (show NewAt (wb.heap.size + 1) aD from fun x hx => Nat.le_trans hzz (nD x hx)))))
      have HB_i := hide bl_i
      have hO3 := (unhide HO).keep ((unhide HBL3).trans (bl_i.mono (unhide HBL3).size))
      obtain ⟨x0, q0⟩ := hO3.cells 0 (by decide)
      obtain ⟨x1', q1⟩ := hO3.cells 1 (by decide)
      obtain ⟨x2', q2⟩ := hO3.cells 2 (by decide)
      have r0 := hO3.fz 0 (by decide)
      have r1 := hO3.fz 1 (by decide)
      have r2 := hO3.fz 2 (by decide)
      have HO3 := hide hO3
      have H4 := hide (three_set wi wb.heap.size (.bool SG) (.slice aN mN cN) (.slice aD mD cD) (unhide HO3).cells)
      have HB3 := hide ((unhide HBo).trans (((unhide HBL3).trans ((unhide HB_i).mono (unhide HBL3).size)).mono (unhide HBo).size))
      clear sN sD nN nD bl_i hO3
      go_wp2_with fail
      obtain ⟨t0, t1, t2, c4⟩ := unhide H4
      generalize ((wi.setCell ⟨wb.heap.size, 0, none⟩ (.bool SG)).setCell ⟨wb.heap.size, 1, none⟩ (.slice aN mN cN)).setCell ⟨wb.heap.size, 2, none⟩ (.slice aD mD cD) = wf at *
      refine bodyPost_ret (by simp [results, Tryz.results55, go_sem, t0, t1, t2]; try rfl) rfl ?_
      obtain ⟨sN, nN, sD, nD⟩ := unhide HS3
      exact ⟨_, rfl, newR_of (unhide HRw) (unhide HO3).lt (unhide HB3) sN nN sD nD c4 SG⟩
end Go.Proofs.YtcokaopfaodmkaaGreatDoor

namespace Go.Proofs.YtcokaopfaodmkaaGreatDoor
open Go.RowKit Go.Deep
set_option linter.unusedVariables false

set_option maxRecDepth 100000 in
set_option maxHeartbeats 16000000 in
/-- sloperef2.Sub. -/
theorem wSub_any (g1 g2 : Bool) (a1 b1 a2 b2 : Option Addr) (n1 c1 m1 d1 n2 c2 m2 d2 : Nat) (x1 y1 x2 y2 : List Nat) (w : World) (hx1 : Sl w a1 n1 c1 x1) (hy1 : Sl w b1 m1 d1 y1) (hx2 : Sl w a2 n2 c2 x2) (hy2 : Sl w b2 m2 d2 y2) (ox1 : Ok x1) (oy1 : Ok y1) (ox2 : Ok x2) (oy2 : Ok y2) (nx2 : a2 = none → c2 = 0) (ny2 : b2 = none → d2 = 0) :
    Calls Tryz.prog 57 #[ratV g1 a1 n1 c1 b1 m1 d1, ratV g2 a2 n2 c2 b2 m2 d2] w fun e w' => ResF w w' (SubF g1 x1 y1 g2 x2 y2) e := by
  obtain ⟨⟨⟨SG, LN, LD⟩, ER⟩, hFF⟩ : ∃ r, SubF g1 x1 y1 g2 x2 y2 = r := ⟨_, rfl⟩
  rw [hFF]
  unfold ResF
  dsimp only
  have bx := Box.made w g1 a1 n1 c1 b1 m1 d1
  obtain ⟨wa, hwa⟩ : ∃ wa, ratBox w g1 a1 n1 c1 b1 m1 d1 = wa := ⟨_, rfl⟩
  rw [hwa] at bx
  have by_ := Box.made wa g2 a2 n2 c2 b2 m2 d2
  obtain ⟨wb, hwb⟩ : ∃ wb, ratBox wa g2 a2 n2 c2 b2 m2 d2 = wb := ⟨_, rfl⟩
  rw [hwb] at by_
  have hba : Below w.heap.size w wa := by rw [← hwa]; exact (Below.refl _ _).alloc (Nat.le_refl _) _
  have hbb : Below wa.heap.size wa wb := by rw [← hwb]; exact (Below.refl _ _).alloc (Nat.le_refl _) _
  unfold ratBox at hwa hwb
  obtain ⟨wo, hwo⟩ : ∃ x, wb.alloc (.cells #[.bool false, .slice none 0 0, .slice none 0 0] 25) = x := ⟨_, rfl⟩
  have hbo : Below wb.heap.size wb wo := by rw [← hwo]; exact (Below.refl _ _).alloc (Nat.le_refl _) _
  have hO : Out wo wb.heap.size := by rw [← hwo]; exact Out.made wb
  have bx2 := (bx.keep hbb).keep hbo
  have by2 := by_.keep hbo
  have hB := (hba.trans (hbb.mono hba.size)).trans (hbo.mono (Nat.le_trans hba.size hbb.size))
  have hRw : w.heap.size ≤ wb.heap.size := Nat.le_trans hba.size hbb.size
  have hlab : w.heap.size ≠ wa.heap.size := by have := bx.lt; omega
  have hlab2 : w.heap.size < wb.heap.size := Nat.lt_of_lt_of_le bx.lt hbb.size
  have hlab3 : wa.heap.size < wb.heap.size := by_.lt
  have hne1 : w.heap.size ≠ wb.heap.size := by omega
  have hne2 : wa.heap.size ≠ wb.heap.size := by omega
  have hne3 : wb.heap.size ≠ w.heap.size := by omega
  have hne4 : wb.heap.size ≠ wa.heap.size := by omega
  have p0 := bx2.d0
  have p1 := bx2.d1
  have p2 := bx2.d2
  have p3 := by2.d0
  have p4 := by2.d1
  have p5 := by2.d2

  have HRw := hide hRw
  have HO := hide hO
  have HBo := hide hB
  have K1 := wmay_any g1 a1 b1 n1 c1 m1 d1 x1 y1 wo (hx1.below hB) (hy1.below hB) ox1 oy1
  have HK2 := hide (fun (W : World) (hb : Below wo.heap.size wo W) => wmay_any g2 a2 b2 n2 c2 m2 d2 x2 y2 W ((hx2.below hB).below hb) ((hy2.below hB).below hb) ox2 oy2)
  cases k1 : MayR g1 x1 y1
  · rw [k1] at K1
    have h40 := hFF.symm.trans (show SubF g1 x1 y1 g2 x2 y2 = ((false, [], []), 40) from by unfold SubF; rw [k1]; rfl)
    cases h40
    clear hFF
    have HK1 := hide K1
    clear K1 HK2 hx1 hy1 hx2 hy2 bx by_ bx2 by2 hba hbb hbo hB hO
    unfold ratV at HK1 ⊢
    go_enter Tryz.func57, Tryz.ntmps57
    go_wp2_with fail
    refine (unhide HK1).mono ?_
    rintro _ w3 ⟨rfl, b3⟩
    have HO3 := hide ((unhide HO).keep b3)
    have HB3 := hide ((unhide HBo).trans (b3.mono (unhide HBo).size))
    clear b3 HK1 HO HBo
    have hO3 := unhide HO3
    obtain ⟨x0, q0⟩ := hO3.cells 0 (by decide)
    obtain ⟨x1, q1⟩ := hO3.cells 1 (by decide)
    obtain ⟨x2, q2⟩ := hO3.cells 2 (by decide)
    have r0 := hO3.fz 0 (by decide)
    have r1 := hO3.fz 1 (by decide)
    have r2 := hO3.fz 2 (by decide)
    have H4 := hide (three_set w3 wb.heap.size (.bool false) (.slice none 0 0) (.slice none 0 0) hO3.cells)
    clear hO3
    go_wp2_with fail
    obtain ⟨p0, p1, p2, c4⟩ := unhide H4
    generalize ((w3.setCell ⟨wb.heap.size, 0, none⟩ (.bool false)).setCell ⟨wb.heap.size, 1, none⟩ (.slice none 0 0)).setCell ⟨wb.heap.size, 2, none⟩ (.slice none 0 0) = wf at *
    refine bodyPost_ret (by simp [results, Tryz.results57, go_sem, p0, p1, p2]; try rfl) rfl ?_
    exact ⟨_, rfl, newR_of (unhide HRw) (unhide HO3).lt (unhide HB3) (sl_nil _) (newAt_nil _) (sl_nil _) (newAt_nil _) c4 false⟩
  · rw [k1] at K1
    have HK1 := hide K1
    clear K1
    cases k2 : MayR g2 x2 y2
    · rw [k2] at HK2
      have h40 := hFF.symm.trans (show SubF g1 x1 y1 g2 x2 y2 = ((false, [], []), 40) from by unfold SubF; rw [k1, k2]; rfl)
      cases h40
      clear hFF
      clear hx1 hy1 hx2 hy2 bx by_ bx2 by2 hba hbb hbo hB hO
      unfold ratV at HK1 HK2 ⊢
      go_enter Tryz.func57, Tryz.ntmps57
      go_wp2_with fail
      refine (unhide HK1).mono ?_
      rintro _ w2 ⟨rfl, b2⟩
      have e0 := (b2.cell (p := ⟨w.heap.size, 0, none⟩) (World.block_lt_of_cell? _ _ p0)).trans p0
      have e1 := (b2.cell (p := ⟨w.heap.size, 1, none⟩) (World.block_lt_of_cell? _ _ p1)).trans p1
      have e2 := (b2.cell (p := ⟨w.heap.size, 2, none⟩) (World.block_lt_of_cell? _ _ p2)).trans p2
      have e3 := (b2.cell (p := ⟨wa.heap.size, 0, none⟩) (World.block_lt_of_cell? _ _ p3)).trans p3
      have e4 := (b2.cell (p := ⟨wa.heap.size, 1, none⟩) (World.block_lt_of_cell? _ _ p4)).trans p4
      have e5 := (b2.cell (p := ⟨wa.heap.size, 2, none⟩) (World.block_lt_of_cell? _ _ p5)).trans p5
      have HO2 := hide ((unhide HO).keep b2)
      have HB2 := hide ((unhide HBo).trans (b2.mono (unhide HBo).size))
      have HBL2 := hide b2
      clear b2 HK1 HO HBo
      go_wp2_with fail
      refine (unhide HK2 _ (unhide HBL2)).mono ?_
      rintro _ w3 ⟨rfl, b3⟩
      have HO3 := hide ((unhide HO2).keep b3)
      have HB3 := hide ((unhide HB2).trans (b3.mono (unhide HB2).size))
      clear b3 HK2 HO2 HB2 HBL2
      have hO3 := unhide HO3
      obtain ⟨x0, q0⟩ := hO3.cells 0 (by decide)
      obtain ⟨x1, q1⟩ := hO3.cells 1 (by decide)
      obtain ⟨x2, q2⟩ := hO3.cells 2 (by decide)
      have r0 := hO3.fz 0 (by decide)
      have r1 := hO3.fz 1 (by decide)
      have r2 := hO3.fz 2 (by decide)
      have H4 := hide (three_set w3 wb.heap.size (.bool false) (.slice none 0 0) (.slice none 0 0) hO3.cells)
      clear hO3
      go_wp2_with fail
      obtain ⟨p0, p1, p2, c4⟩ := unhide H4
      generalize ((w3.setCell ⟨wb.heap.size, 0, none⟩ (.bool false)).setCell ⟨wb.heap.size, 1, none⟩ (.slice none 0 0)).setCell ⟨wb.heap.size, 2, none⟩ (.slice none 0 0) = wf at *
      refine bodyPost_ret (by simp [results, Tryz.results57, go_sem, p0, p1, p2]; try rfl) rfl ?_
      exact ⟨_, rfl, newR_of (unhide HRw) (unhide HO3).lt (unhide HB3) (sl_nil _) (newAt_nil _) (sl_nil _) (newAt_nil _) c4 false⟩
    · rw [k2] at HK2
      obtain ⟨kx1, ky1, ey1, _, l1⟩ := MayR.parts k1
      obtain ⟨kx2, ky2, ey2, _, l2⟩ := MayR.parts k2
      have s1 : n1 ≤ 2048 := by have := hx1.len; have := MayL.len kx1; omega
      have s2 : m1 ≤ 2048 := by have := hy1.len; have := MayL.len ky1; omega
      have s3 : n2 ≤ 2048 := by have := hx2.len; have := MayL.len kx2; omega
      have s4 : m2 ≤ 2048 := by have := hy2.len; have := MayL.len ky2; omega
      have HR := hide ((show lowF (cmbV g1 (val x1 * val y2) ((!g2) && decide (x2 ≠ [])) (val x2 * val y1)).2 (cmbV g1 (val x1 * val y2) ((!g2) && decide (x2 ≠ [])) (val x2 * val y1)).1 (val y1 * val y2) = SubF g1 x1 y1 g2 x2 y2 from by
        rw [plus_lowest k1 k2 (g3 := !g2) ((!g2) && decide (x2 ≠ [])) ?_]
        · unfold SubF; rw [k1, k2]; rfl
        · by_cases hz : x2 = []
          · rw [hz]; unfold nI; simp [val]
          · simp [hz]).trans hFF)
      clear hFF
      obtain ⟨gt, hgt⟩ : ∃ g, ((!g2) && decide (x2 ≠ [])) = g := ⟨_, rfl⟩
      rw [hgt] at HR
      have HKT := hide (fun (W : World) (hb : Below wo.heap.size wo W) => wturned_any g2 a2 b2 n2 c2 m2 d2 x2 y2 W ((hx2.below hB).below hb) ((hy2.below hB).below hb) nx2 ny2 (by omega) (by omega))
      rw [hgt] at HKT
      unfold ratV at HKT
      have HKP := hide (fun (W : World) (hb : Below wo.heap.size wo W) at_ mt ct bt nt dt (h1' : Sl W at_ mt ct x2) (h2' : Sl W bt nt dt y2) => wplus_any g1 gt a1 b1 at_ bt n1 c1 m1 d1 mt ct nt dt x1 y1 x2 y2 W ((hx1.below hB).below hb) ((hy1.below hB).below hb) h1' h2' ox1 oy1 ox2 oy2 (MayL.norm kx1) (MayL.norm ky1) (MayL.norm kx2) (MayL.norm ky2) ey1 ey2 (by omega) (by omega) (by have := h1'.len; have := MayL.len kx2; omega) (by have := h2'.len; have := MayL.len ky2; omega))
      rw [unhide HR] at HKP
      unfold ResF at HKP
      dsimp only at HKP
      unfold ratV at HKP
      clear hx1 hy1 hx2 hy2 bx by_ bx2 by2 hba hbb hbo hB hO k1 k2 kx1 kx2 ky1 ky2 ey1 ey2 l1 l2 nx2 ny2 hgt
      unfold ratV at HK1 HK2 ⊢
      go_enter Tryz.func57, Tryz.ntmps57
      go_wp2_with fail
      refine (unhide HK1).mono ?_
      rintro _ w2 ⟨rfl, b2⟩
      have e0 := (b2.cell (p := ⟨w.heap.size, 0, none⟩) (World.block_lt_of_cell? _ _ p0)).trans p0
      have e1 := (b2.cell (p := ⟨w.heap.size, 1, none⟩) (World.block_lt_of_cell? _ _ p1)).trans p1
      have e2 := (b2.cell (p := ⟨w.heap.size, 2, none⟩) (World.block_lt_of_cell? _ _ p2)).trans p2
      have e3 := (b2.cell (p := ⟨wa.heap.size, 0, none⟩) (World.block_lt_of_cell? _ _ p3)).trans p3
      have e4 := (b2.cell (p := ⟨wa.heap.size, 1, none⟩) (World.block_lt_of_cell? _ _ p4)).trans p4
      have e5 := (b2.cell (p := ⟨wa.heap.size, 2, none⟩) (World.block_lt_of_cell? _ _ p5)).trans p5
      have HBL2 := hide b2
      clear b2 HK1
      go_wp2_with fail
      refine (unhide HK2 _ (unhide HBL2)).mono ?_
      rintro _ w3 ⟨rfl, b3⟩
      have f0 := (b3.cell (p := ⟨w.heap.size, 0, none⟩) (World.block_lt_of_cell? _ _ e0)).trans e0
      have f1 := (b3.cell (p := ⟨w.heap.size, 1, none⟩) (World.block_lt_of_cell? _ _ e1)).trans e1
      have f2 := (b3.cell (p := ⟨w.heap.size, 2, none⟩) (World.block_lt_of_cell? _ _ e2)).trans e2
      have f3 := (b3.cell (p := ⟨wa.heap.size, 0, none⟩) (World.block_lt_of_cell? _ _ e3)).trans e3
      have f4 := (b3.cell (p := ⟨wa.heap.size, 1, none⟩) (World.block_lt_of_cell? _ _ e4)).trans e4
      have f5 := (b3.cell (p := ⟨wa.heap.size, 2, none⟩) (World.block_lt_of_cell? _ _ e5)).trans e5
      have HBL3 := hide ((unhide HBL2).trans (b3.mono (unhide HBL2).size))
      clear b3 HK2 HBL2 e0 e1 e2 e3 e4 e5 p0 p1 p2 p3 p4 p5
      have HKT' := hide (fun (W : World) (hb : Below w3.heap.size w3 W) => unhide HKT W ((unhide HBL3).trans (hb.mono (unhide HBL3).size)))
      have HKP' := hide (fun (W : World) (hb : Below w3.heap.size w3 W) => unhide HKP W ((unhide HBL3).trans (hb.mono (unhide HBL3).size)))
      clear HKT HKP
      go_wp2_with fail
      go_region_held3 (fun w' => w'.cell? ⟨w.heap.size, 0, none⟩ = some (.bool g1) ∧ w'.cell? ⟨w.heap.size, 1, none⟩ = some (.slice a1 n1 c1) ∧ w'.cell? ⟨w.heap.size, 2, none⟩ = some (.slice b1 m1 d1) ∧ w'.cell? ⟨wa.heap.size, 0, none⟩ = some (.bool g2) ∧ w'.cell? ⟨wa.heap.size, 1, none⟩ = some (.slice a2 n2 c2) ∧ w'.cell? ⟨wa.heap.size, 2, none⟩ = some (.slice b2 m2 d2)) (first | go_keep | (exact ⟨k0, k1, k2, k3, k4, k5⟩) | (exact ⟨i0, i1, i2, i3, i4, i5⟩))
        (first
          | (go_at_call 84; refine (unhide HKT' _ (Below.refl _ _).drew).mono ?_; rintro _ wk ⟨vt, rfl, at_, mt, ct, bt, nt, dt, rfl, st, su, nt1, nt2, bl_k⟩; have hb_k : Below w3.heap.size w3 wk := (Below.refl _ _).drew.trans bl_k; have k0 := (hb_k.cell (p := ⟨w.heap.size, 0, none⟩) (World.block_lt_of_cell? _ _ f0)).trans f0; have k1 := (hb_k.cell (p := ⟨w.heap.size, 1, none⟩) (World.block_lt_of_cell? _ _ f1)).trans f1; have k2 := (hb_k.cell (p := ⟨w.heap.size, 2, none⟩) (World.block_lt_of_cell? _ _ f2)).trans f2; have k3 := (hb_k.cell (p := ⟨wa.heap.size, 0, none⟩) (World.block_lt_of_cell? _ _ f3)).trans f3; have k4 := (hb_k.cell (p := ⟨wa.heap.size, 1, none⟩) (World.block_lt_of_cell? _ _ f4)).trans f4; have k5 := (hb_k.cell (p := ⟨wa.heap.size, 2, none⟩) (World.block_lt_of_cell? _ _ f5)).trans f5; unfold ratV; have ST := hide (And.intro st su); clear st su nt1 nt2; have HB_k := hide hb_k; clear hb_k bl_k)
          | (go_at_call 93; refine (unhide HKP' _ (unhide HB_k) at_ mt ct bt nt dt (unhide ST).1 (unhide ST).2).mono ?_; rintro _ wi ⟨vv, rfl, aN, mN, cN, aD, mD, cD, rfl, sN, sD, nN, nD, bl_i⟩; unfold ratV; have i0 := (bl_i.cell (p := ⟨w.heap.size, 0, none⟩) (World.block_lt_of_cell? _ _ k0)).trans k0; have i1 := (bl_i.cell (p := ⟨w.heap.size, 1, none⟩) (World.block_lt_of_cell? _ _ k1)).trans k1; have i2 := (bl_i.cell (p := ⟨w.heap.size, 2, none⟩) (World.block_lt_of_cell? _ _ k2)).trans k2; have i3 := (bl_i.cell (p := ⟨wa.heap.size, 0, none⟩) (World.block_lt_of_cell? _ _ k3)).trans k3; have i4 := (bl_i.cell (p := ⟨wa.heap.size, 1, none⟩) (World.block_lt_of_cell? _ _ k4)).trans k4; have i5 := (bl_i.cell (p := ⟨wa.heap.size, 2, none⟩) (World.block_lt_of_cell? _ _ k5)).trans k5; have hzz : wb.heap.size + 1 ≤ wk.heap.size := Nat.le_trans (unhide HO).lt (Nat.le_trans (unhide HBL3).size (unhide HB_k).size); have HS3 := hide (And.intro sN (And.intro (show NewAt (wb.heap.size + 1) aN from fun x hx => Nat.le_trans hzz (nN x hx)) (And.intro sD (show NewAt (wb.heap.size + 1) aD from fun x hx => Nat.le_trans hzz (nD x hx))))); have hb_i := (unhide HB_k).trans (bl_i.mono (unhide HB_k).size); have HB_i := hide hb_i; have hO3 := (unhide HO).keep ((unhide HBL3).trans (hb_i.mono (unhide HBL3).size)); obtain ⟨x0, q0⟩ := hO3.cells 0 (by decide); obtain ⟨x1', q1⟩ := hO3.cells 1 (by decide); obtain ⟨x2', q2⟩ := hO3.cells 2 (by decide); have r0 := hO3.fz 0 (by decide); have r1 := hO3.fz 1 (by decide); have r2 := hO3.fz 2 (by decide); have HO3 := hide hO3; clear sN sD nN nD bl_i hb_i hO3))
      have H4 := hide (three_set wi wb.heap.size (.bool SG) (.slice aN mN cN) (.slice aD mD cD) (unhide HO3).cells)
      have HB3 := hide ((unhide HBo).trans (((unhide HBL3).trans ((unhide HB_i).mono (unhide HBL3).size)).mono (unhide HBo).size))
      clear q0 q1 q2 r0 r1 r2
      try go_wp2_with fail
      obtain ⟨t0, t1, t2, c4⟩ := unhide H4
      generalize ((wi.setCell ⟨wb.heap.size, 0, none⟩ (.bool SG)).setCell ⟨wb.heap.size, 1, none⟩ (.slice aN mN cN)).setCell ⟨wb.heap.size, 2, none⟩ (.slice aD mD cD) = wf at *
      refine bodyPost_ret (by simp [results, Tryz.results57, go_sem, t0, t1, t2]; try rfl) rfl ?_
      obtain ⟨sN, nN, sD, nD⟩ := unhide HS3
      exact ⟨_, rfl, newR_of (unhide HRw) (unhide HO3).lt (unhide HB3) sN nN sD nD c4 SG⟩
end Go.Proofs.YtcokaopfaodmkaaGreatDoor
