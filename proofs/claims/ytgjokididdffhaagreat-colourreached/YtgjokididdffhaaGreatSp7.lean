/- Sp7 -/
import Derived.Test.YtgjokididdffhaaGreatSp6
namespace Go.Proofs.YtgjokididdffhaaGreat
open Go.RowKit Go.Deep
set_option linter.unusedVariables false
theorem Tryz.info_noneN : (Tryz.prog.info? 182).map (fun i => (i.zero, i.size, i.bytes)) = some (some (.agg #[]), 0, 0) := by kernel_rfl
theorem make_none (n : Nat) (hn : n ≤ 17592186044000) (w : World) : (Instr.makeSlice 213 (.int .i64 (n : Int)) (.int .i64 (n : Int))).run Tryz.prog w = .ok (.slice (some ⟨w.heap.size, 0, none⟩) n n) (w.alloc (.cells (madeCells #[] 0) 182)) := by
  obtain ⟨i, hi, hz, hs, hb⟩ := info_parts Tryz.info_noneN
  have hr := run_make (P := Tryz.prog) w 213 182 i (.agg #[]) Tryz.underlying213 hi hz .i64 .i64 n n (by omega) (Int.le_refl _) (by rw [hb]; simp) (by omega)
  simp only [Int.toNat_natCast, hs, Nat.mul_zero] at hr
  exact hr
set_option maxRecDepth 100000 in
set_option maxHeartbeats 16000000 in
theorem sgridOf_any (R : Nat) (width : Int) (a1 a2 : Option Addr) (n1 c1 n2 c2 : Nat) (st cols : List Int) (w : World) (h1 : SlI w a1 n1 c1 st) (h2 : SlI w a2 n2 c2 cols) (hb1 : n1 ≤ 17592186044000) (hb2 : n2 ≤ 17592186044000) (hm : MayP (R : Int) width st cols) :
    Calls Tryz.prog 117 #[patV (R : Int) width a1 n1 c1 a2 n2 c2] w fun e w' => RdP R width st cols w w' e := by
  obtain ⟨wb, hwb⟩ : ∃ x, w.alloc (.cells #[.int .i64 (R : Int), .int .i64 width, .slice a1 n1 c1, .slice a2 n2 c2] 25) = x := ⟨_, rfl⟩
  have bb : Below w.heap.size w wb := by rw [← hwb]; exact (Below.refl _ _).alloc (Nat.le_refl _) _
  have hT := BoxP.made w #[.int .i64 (R : Int), .int .i64 width, .slice a1 n1 c1, .slice a2 n2 c2] 25
  rw [hwb] at hT
  have hO0 := BoxP.made wb #[.int .i64 0, .slice none 0 0] 178
  obtain ⟨wo, hwo⟩ : ∃ x, wb.alloc (.cells #[.int .i64 0, .slice none 0 0] 178) = x := ⟨_, rfl⟩
  have bo : Below wb.heap.size wb wo := by rw [← hwo]; exact (Below.refl _ _).alloc (Nat.le_refl _) _
  rw [hwo] at hO0
  have hT1 := hT.below bo
  have p0 := (hT1.all 0 _ rfl).1
  have p1 := (hT1.all 1 _ rfl).1
  have p2 := (hT1.all 2 _ rfl).1
  have p3 := (hT1.all 3 _ rfl).1
  have hmk := fun w => make_none n2 hb2 w
  have bbo := bb.trans (bo.mono bb.size)
  have HB := hide bbo
  have HO := hide hO0
  have HWB := hide bb.size
  have hlt1 : w.heap.size < wo.heap.size := hT1.lt
  have hne1 : w.heap.size ≠ wb.heap.size := by have := hT.lt; omega
  have hne2 : wb.heap.size ≠ w.heap.size := fun e => hne1 e.symm
  have KR := hide (fun (vb : Nat) (W : World) (k : Below wo.heap.size wo W) => sread_any R width a1 a2 n1 c1 n2 c2 st cols vb W ((h1.below bbo).below k) ((h2.below bbo).below k) hb1 hb2 hm)
  clear hT hT1 hO0 bb bo bbo h1 h2 hm
  unfold patV
  unfold patV at KR
  go_enter Tryz.func117, Tryz.ntmps117
  go_wp2_with fail
  go_region_held3 (fun w' => w'.cell? ⟨w.heap.size, 0, none⟩ = some (.int .i64 (R : Int)) ∧ w'.cell? ⟨w.heap.size, 1, none⟩ = some (.int .i64 width) ∧ w'.cell? ⟨w.heap.size, 2, none⟩ = some (.slice a1 n1 c1) ∧ w'.cell? ⟨w.heap.size, 3, none⟩ = some (.slice a2 n2 c2)) (first | go_keep | (exact ⟨k0, k1, k2, k3⟩))
    (first
      | (go_at_call 138; refine (unhide KR _ _ (by first | exact (((Below.refl _ _).alloc (Nat.le_refl _) _).drew) | exact ((Below.refl _ _).drew.alloc (by simp) _))).mono ?_; rintro _ wk ⟨t, L, f, hLL, rfl, hL, bk⟩; have bk' : Below wo.heap.size wo wk := (((Below.refl _ _).alloc (Nat.le_refl _) _).drew).trans (bk.mono (by simp)); have k0 := (bk'.cell (p := ⟨w.heap.size, 0, none⟩) hlt1).trans p0; have k1 := (bk'.cell (p := ⟨w.heap.size, 1, none⟩) hlt1).trans p1; have k2 := (bk'.cell (p := ⟨w.heap.size, 2, none⟩) hlt1).trans p2; have k3 := (bk'.cell (p := ⟨w.heap.size, 3, none⟩) hlt1).trans p3; have hO := (unhide HO).below bk'; have q0 := (hO.all 0 _ rfl).1; have q1 := (hO.all 1 _ rfl).1; have r0 := (hO.all 0 _ rfl).2; have r1 := (hO.all 1 _ rfl).2; have HOk := hide hO; have HL := hide (And.intro hL (show wo.heap.size ≤ L ∧ L < t from ⟨Nat.le_trans (by simp) hLL.1, hLL.2⟩)); have HBK := hide bk'; clear bk bk' hL hO hLL))
  clear k0 k1 k2 k3 q0 q1 r0 r1
  try go_wp2_with fail
  have hf := ((unhide HOk).put 0 (.int .i64 width)).put 1 (.slice (some ⟨L, 0, none⟩) R R)
  have t0 := (hf.all 0 _ rfl).1
  have t1 := (hf.all 1 _ rfl).1
  have cc : Chg (fun j => j = wb.heap.size) wk ((wk.setCell ⟨wb.heap.size, 0, none⟩ (.int .i64 width)).setCell ⟨wb.heap.size, 1, none⟩ (.slice (some ⟨L, 0, none⟩) R R)) := (Chg.of_set (S := fun j => j = wb.heap.size) _ _ _ _ rfl).trans (Chg.of_set (S := fun j => j = wb.heap.size) _ _ _ _ rfl)
  generalize (wk.setCell ⟨wb.heap.size, 0, none⟩ (.int .i64 width)).setCell ⟨wb.heap.size, 1, none⟩ (.slice (some ⟨L, 0, none⟩) R R) = wf at *
  refine bodyPost_ret (by simp [results, Tryz.results117, go_sem, t0, t1]; try rfl) rfl ?_
  have hlt := (unhide HO).lt
  refine ⟨t, L, f, ⟨by have := (unhide HL).2; have := unhide HWB; omega, (unhide HL).2.2⟩, rfl, (unhide HL).1.chg cc (fun e => by have := (unhide HL).2; omega) (fun j h1 h2 e => by have := (unhide HL).2; omega), ?_⟩
  exact ((unhide HB).trans ((unhide HBK).mono (unhide HB).size)).trans (cc.below (Nat.le_trans (unhide HB).size (unhide HBK).size) (fun j hj e => by have := unhide HWB; omega))
end Go.Proofs.YtgjokididdffhaaGreat
