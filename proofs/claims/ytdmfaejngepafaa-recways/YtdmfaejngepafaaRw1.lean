/-
  Ways of recording: record.wayOf, WayOf, sloperef6.WayOf: their contracts.
-/
import Derived.Test.YtdmfaejngepafaaByg
import Derived.Test.YtdmfaejngepafaaBt8
namespace Go.Proofs.Ytdmfaejngepafaa
open Go.RowKit Go.Deep
set_option linter.unusedVariables false

/-- A way, out of its three bits. -/
def wayV (a b c : Bool) : Value := .agg #[.bool a, .bool b, .bool c]
def b0 (n : Nat) : Bool := n % 2 == 1
def b1 (n : Nat) : Bool := n / 2 % 2 == 1
def b2 (n : Nat) : Bool := n / 4 == 1
theorem Thr.bel {w W : World} (h : Below w.heap.size w W) (R : Nat) (hR : w.heap.size ≤ R) (u0 u1 u2 : Value) : Below w.heap.size w (((W.setCell ⟨R, 0, none⟩ u0).setCell ⟨R, 1, none⟩ u1).setCell ⟨R, 2, none⟩ u2) :=
  ((h.setCell (p := ⟨R, 0, none⟩) hR _).setCell (p := ⟨R, 1, none⟩) hR _).setCell (p := ⟨R, 2, none⟩) hR _

theorem way_bits (n : Nat) (h : n < 8) : (bits BinOp.and IntKind.i64 (n : Int) 1 != 0) = b0 n ∧ (bits BinOp.and IntKind.i64 (n : Int) 2 != 0) = b1 n ∧ (bits BinOp.and IntKind.i64 (n : Int) 4 != 0) = b2 n := by
  match n, h with
  | 0, _ => decide
  | 1, _ => decide
  | 2, _ => decide
  | 3, _ => decide
  | 4, _ => decide
  | 5, _ => decide
  | 6, _ => decide
  | 7, _ => decide
theorem ref_bits (n : Nat) (h : n < 8) : ((n : Int) % 2 == 1) = b0 n ∧ ((n : Int) / 2 % 2 == 1) = b1 n ∧ ((n : Int) / 4 == 1) = b2 n := by
  match n, h with
  | 0, _ => decide
  | 1, _ => decide
  | 2, _ => decide
  | 3, _ => decide
  | 4, _ => decide
  | 5, _ => decide
  | 6, _ => decide
  | 7, _ => decide
set_option maxHeartbeats 4000000 in
/-- record.wayOf. -/
theorem wayOf_any (n : Nat) (w : World) (h : n < 8) : Calls Try.prog 8 #[.int .i64 (n : Int)] w fun e w' => e = .returned (wayV (b0 n) (b1 n) (b2 n)) ∧ Below w.heap.size w w' := by
  obtain ⟨e0, e1, e2⟩ := way_bits n h
  obtain ⟨x, hx⟩ : ∃ x, b0 n = x := ⟨_, rfl⟩
  obtain ⟨y, hy⟩ : ∃ x, b1 n = x := ⟨_, rfl⟩
  obtain ⟨z, hz⟩ : ∃ x, b2 n = x := ⟨_, rfl⟩
  rw [hx] at e0
  rw [hy] at e1
  rw [hz] at e2
  rw [hx, hy, hz]
  clear hx hy hz
  go_enter Try.func8, Try.ntmps8
  go_wp2_with fail
  refine bodyPost_ret (by simp [results, Try.results8, go_sem]; try rfl) rfl ?_
  exact ⟨rfl, (Below.refl _ _).alloc (Nat.le_refl _) _⟩
set_option maxHeartbeats 4000000 in
/-- record.WayOf. -/
theorem WayOf_no (n : Int) (w : World) (h : n < 0 ∨ 8 ≤ n) (hl : -9223372036854775808 ≤ n) (hh : n ≤ 9223372036854775807) : Calls Try.prog 6 #[.int .i64 n] w fun e w' => e = .returned (.tuple #[wayV false false false, .int .i64 120]) ∧ Below w.heap.size w w' := by
  rcases h with h | h
  all_goals
    go_enter Try.func6, Try.ntmps6
    go_wp2_with fail
    refine bodyPost_ret (by simp [results, Try.results6, go_sem]; try rfl) rfl ?_
    exact ⟨rfl, (Below.refl _ _).alloc (Nat.le_refl _) _⟩
set_option maxHeartbeats 4000000 in
theorem WayOf_yes (n : Nat) (w : World) (h : n < 8) : Calls Try.prog 6 #[.int .i64 (n : Int)] w fun e w' => e = .returned (.tuple #[wayV (b0 n) (b1 n) (b2 n), .int .i64 0]) ∧ Below w.heap.size w w' := by
  have h1 : ¬ (n : Int) < 0 := by omega
  have h2 : ¬ (8 : Int) ≤ (n : Int) := by omega
  obtain ⟨x, hx⟩ : ∃ x, b0 n = x := ⟨_, rfl⟩
  obtain ⟨y, hy⟩ : ∃ x, b1 n = x := ⟨_, rfl⟩
  obtain ⟨z, hz⟩ : ∃ x, b2 n = x := ⟨_, rfl⟩
  have K := fun w => wayOf_any n w h
  rw [hx, hy, hz] at K
  rw [hx, hy, hz]
  have HK := hide K
  clear hx hy hz K
  go_enter Try.func6, Try.ntmps6
  go_wp2_with fail
  refine (unhide HK _).mono ?_
  rintro _ w2 ⟨rfl, hb⟩
  have hbw := ((Below.refl w.heap.size w).alloc (Nat.le_refl _) (.cells #[.bool false, .bool false, .bool false] 25)).trans (hb.mono (by simp))
  have t := (Thr.made w (.bool false) (.bool false) (.bool false) 25).keep hb
  have c0 := t.c0
  have c1 := t.c1
  have c2 := t.c2
  have f0 := t.f0
  have f1 := t.f1
  have f2 := t.f2
  have T3 := t.all (.bool x) (.bool y) (.bool z)
  have p0 := T3.c0
  have p1 := T3.c1
  have p2 := T3.c2
  have HB := hide (Thr.bel hbw w.heap.size (Nat.le_refl _) (.bool x) (.bool y) (.bool z))
  clear t T3 hb hbw HK
  unfold wayV
  go_wp2_with fail
  refine bodyPost_ret (by simp [results, Try.results6, go_sem, p0, p1, p2]; try rfl) rfl ?_
  exact ⟨rfl, unhide HB⟩
set_option maxHeartbeats 4000000 in
/-- sloperef6.WayOf. -/
theorem RWayOf_no (n : Int) (w : World) (h : n < 0 ∨ 8 ≤ n) (hl : -9223372036854775808 ≤ n) (hh : n ≤ 9223372036854775807) : Calls Try.prog 5 #[.int .i64 n] w fun e w' => e = .returned (.tuple #[wayV false false false, .int .i64 120]) ∧ Below w.heap.size w w' := by
  rcases h with h | h
  · go_enter Try.func5, Try.ntmps5
    go_wp2_with fail
    refine bodyPost_ret (by simp [results, Try.results5, go_sem]; try rfl) rfl ?_
    exact ⟨rfl, (Below.refl _ _).alloc (Nat.le_refl _) _⟩
  · have h2 : (7 : Int) < n := by omega
    have h3 : ¬ n < 0 := by omega
    go_enter Try.func5, Try.ntmps5
    go_wp2_with fail
    refine bodyPost_ret (by simp [results, Try.results5, go_sem]; try rfl) rfl ?_
    exact ⟨rfl, (Below.refl _ _).alloc (Nat.le_refl _) _⟩
set_option maxHeartbeats 4000000 in
theorem RWayOf_yes (n : Nat) (w : World) (h : n < 8) : Calls Try.prog 5 #[.int .i64 (n : Int)] w fun e w' => e = .returned (.tuple #[wayV (b0 n) (b1 n) (b2 n), .int .i64 0]) ∧ Below w.heap.size w w' := by
  have h1 : ¬ (n : Int) < 0 := by omega
  have h2 : ¬ (7 : Int) < (n : Int) := by omega
  obtain ⟨e0, e1, e2⟩ := ref_bits n h
  obtain ⟨x, hx⟩ : ∃ x, b0 n = x := ⟨_, rfl⟩
  obtain ⟨y, hy⟩ : ∃ x, b1 n = x := ⟨_, rfl⟩
  obtain ⟨z, hz⟩ : ∃ x, b2 n = x := ⟨_, rfl⟩
  rw [hx] at e0
  rw [hy] at e1
  rw [hz] at e2
  rw [hx, hy, hz]
  clear hx hy hz
  go_enter Try.func5, Try.ntmps5
  go_wp2_with fail
  refine bodyPost_ret (by simp [results, Try.results5, go_sem]; try rfl) rfl ?_
  exact ⟨rfl, (Below.refl _ _).alloc (Nat.le_refl _) _⟩
/-- The bits of a row of ways, cell by cell. -/
def bitW (j : Nat) : Bool := if j % 3 = 0 then b0 (j / 3) else if j % 3 = 1 then b1 (j / 3) else b2 (j / 3)
def rowW (k j : Nat) : Bool := decide (j < k * 3) && bitW j
theorem Try.info_way : (Try.prog.info? 25).map (fun i => (i.zero, i.size, i.bytes)) = some (some (.agg #[.bool false, .bool false, .bool false]), 3, 3) := by kernel_rfl
theorem make_way (w : World) : (Instr.makeSlice 22 (.int .i64 8) (.int .i64 8)).run Try.prog w = .ok (.slice (some ⟨w.heap.size, 0, none⟩) 8 8) (w.alloc (.cells (madeCells #[.bool false, .bool false, .bool false] 24) 25)) := by
  obtain ⟨i, hi, hz, hs, hb⟩ := info_parts Try.info_way
  have h := run_makeSlice (w := w) (P := Try.prog) 22 25 i _ Try.underlying22 hi hz .i64 .i64 8 8 (by omega) (by omega) (by rw [hs]; decide) (by rw [hb]; decide) (by omega)
  rw [hs] at h
  exact h
theorem made_ways (w : World) : FnB (w.alloc (.cells (madeCells #[.bool false, .bool false, .bool false] 24) 25)) w.heap.size 0 24 (rowW 0) := by
  refine FnG.congr (f := fun _ => false) ?_ (fun i _ => by simp [rowW])
  intro i hi
  refine ⟨?_, by simp⟩
  rw [Nat.zero_add]
  have h3 : i % 3 = 0 ∨ i % 3 = 1 ∨ i % 3 = 2 := by omega
  rcases h3 with h | h | h <;> simp [madeCells, hi, h, vB]
theorem row_put {W : World} {b k : Nat} (h : FnB W b 0 24 (rowW k)) (hk : k < 8) : FnB (((W.setCell ⟨b, k * 3, none⟩ (.bool (b0 k))).setCell ⟨b, k * 3 + 1, none⟩ (.bool (b1 k))).setCell ⟨b, k * 3 + 2, none⟩ (.bool (b2 k))) b 0 24 (rowW (k + 1)) := by
  have h1 := h.set (k * 3) (b0 k) (by omega)
  have h2 := h1.set (k * 3 + 1) (b1 k) (by omega)
  have h3 := h2.set (k * 3 + 2) (b2 k) (by omega)
  rw [Nat.zero_add, Nat.zero_add, Nat.zero_add] at h3
  refine h3.congr (fun i hi => ?_)
  unfold rowW bitW
  by_cases e2 : i = k * 3 + 2
  · subst e2
    rw [if_pos rfl, show (k * 3 + 2) % 3 = 2 by omega, show (k * 3 + 2) / 3 = k by omega]
    simp; omega
  · rw [if_neg e2]
    by_cases e1 : i = k * 3 + 1
    · subst e1
      rw [if_pos rfl, show (k * 3 + 1) % 3 = 1 by omega, show (k * 3 + 1) / 3 = k by omega]
      simp; omega
    · rw [if_neg e1]
      by_cases e0 : i = k * 3
      · subst e0
        rw [if_pos rfl, show (k * 3) % 3 = 0 by omega, show (k * 3) / 3 = k by omega]
        simp
      · rw [if_neg e0]
        congr 1
        rw [Bool.eq_iff_iff]; simp; omega
set_option maxHeartbeats 4000000 in
set_option maxRecDepth 100000 in
/-- record.Ways. -/
theorem Ways_any (w : World) : Calls Try.prog 4 #[] w fun e w' => ∃ b, e = .returned (.slice (some ⟨b, 0, none⟩) 8 8) ∧ FnB w' b 0 24 (rowW 8) ∧ Below w.heap.size w w' := by
  have HM := hide (made_ways w)
  have HB := hide ((Below.refl w.heap.size w).alloc (Nat.le_refl _) (.cells (madeCells #[.bool false, .bool false, .bool false] 24) 25))
  have hm := make_way
  go_enter Try.func4, Try.ntmps4
  go_wp2_with fail
  clear hm
  have hsz : w.heap.size < (w.alloc (.cells (madeCells #[.bool false, .bool false, .bool false] 24) 25)).heap.size := by simp
  generalize w.alloc (.cells (madeCells #[.bool false, .bool false, .bool false] 24) 25) = wa at *
  go_loopw [6, 2] (fun i _ wr => ∃ k : Nat, k ≤ 8 ∧ i = .int .i64 (k : Int) ∧ FnB wr w.heap.size 0 24 (rowW k) ∧ Below w.heap.size w wr) (fun i _ _ => 8 - (intOf i).toNat)
  case atStart => exact ⟨0, by omega, rfl, unhide HM, unhide HB⟩
  case round =>
    obtain ⟨k, hk, rfl, hf, hbl⟩ := hrel
    by_cases hlt : k < 8
    · have hlt' : (k : Int) < 8 := by omega
      have hk0 : (0 : Int) ≤ (k : Int) := by omega
      obtain ⟨x, hx⟩ : ∃ x, b0 k = x := ⟨_, rfl⟩
      obtain ⟨y, hy⟩ : ∃ x, b1 k = x := ⟨_, rfl⟩
      obtain ⟨z, hz⟩ : ∃ x, b2 k = x := ⟨_, rfl⟩
      have K := wayOf_any k wr hlt
      rw [hx, hy, hz] at K
      have HK := hide K
      have HX := hide (And.intro hx (And.intro hy hz))
      have HF := hide (And.intro hf hbl)
      clear K hx hy hz hf hbl
      go_wp2_with fail
      refine (unhide HK).mono ?_
      rintro _ w2 ⟨rfl, hb⟩
      have f2 := (unhide HF).1.below hb
      have hB2 := (unhide HF).2.trans (hb.mono (unhide HF).2.size)
      have a0 := (f2 (k * 3) (by omega)).1
      have a1 := (f2 (k * 3 + 1) (by omega)).1
      have a2 := (f2 (k * 3 + 2) (by omega)).1
      have e0 := (f2 (k * 3) (by omega)).2
      have e1 := (f2 (k * 3 + 1) (by omega)).2
      have e2 := (f2 (k * 3 + 2) (by omega)).2
      rw [Nat.zero_add] at a0 a1 a2 e0 e1 e2
      unfold vB at a0 a1 a2
      have hp := row_put f2 hlt
      rw [(unhide HX).1, (unhide HX).2.1, (unhide HX).2.2] at hp
      have HP := hide (And.intro hp (((hB2.setCell (p := ⟨w.heap.size, k * 3, none⟩) (Nat.le_refl _) (.bool x)).setCell (p := ⟨w.heap.size, k * 3 + 1, none⟩) (Nat.le_refl _) (.bool y)).setCell (p := ⟨w.heap.size, k * 3 + 2, none⟩) (Nat.le_refl _) (.bool z)))
      generalize rowW k (k * 3) = r0 at a0
      generalize rowW k (k * 3 + 1) = r1 at a1
      generalize rowW k (k * 3 + 2) = r2 at a2
      clear f2 hB2 hp hb HK
      unfold wayV
      go_wp2_with fail
      exact ⟨⟨k + 1, by omega, by go_num, (unhide HP).1, (unhide HP).2⟩, by simp [intOf]; omega⟩
    · have hlt' : ¬ (k : Int) < 8 := by omega
      obtain rfl : k = 8 := by omega
      have HF := hide (And.intro hf hbl)
      clear hf hbl
      go_wp2_with fail
      go_ret
      exact ⟨_, rfl, (unhide HF).1, (unhide HF).2⟩
end Go.Proofs.Ytdmfaejngepafaa
