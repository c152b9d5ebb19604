/-
  slopeplain.CopyInts: contract.
-/
import Derived.Test.YtpmafjofkmefeaaSa1
namespace Go.Proofs.Ytpmafjofkmefeaa
open Go.RowKit Go.Deep
set_option linter.unusedVariables false

def valsI (xs : List Int) : List Value := xs.map (fun x => Value.int .i64 x)
theorem Try.info_i64 : (Try.prog.info? 3).map (fun i => (i.zero, i.size, i.bytes)) = some (some (.int .i64 0), 1, 8) := by kernel_rfl
theorem cells_of_blockI {w : World} {b off : Nat} {cur : Array Value} {e : TypeId} {fr : Nat × Nat} {xs : List Int} (h : w.heap[b]? = some (.cells cur e fr)) (ht : ∀ i, i < xs.length → cur[off + i]? = some (.int .i64 (xs.getD i 0))) : CellsI w b off xs := by
  intro i hi
  rw [cell_of_block h]; exact ht i hi

theorem vals_getI {xs : List Int} {i : Nat} (h : i < xs.length) : (valsI xs)[i]? = some (.int .i64 (xs.getD i 0)) := by
  simp [valsI, h]

theorem take_valsI {cur : Array Value} {n : Nat} {xs : List Int} (hl : xs.length = n) (h : cur.toList.take n = valsI xs) : ∀ i, i < xs.length → cur[i]? = some (.int .i64 (xs.getD i 0)) := by
  intro i hi
  have := vals_getI hi
  rw [← h] at this
  simpa [List.getElem?_take, show i < n from by omega] using this

theorem make_n3I (n : Nat) (hn : n ≤ 17592186044400) (w : World) : (Instr.makeSlice 22 (.int .i64 (n : Int)) (.int .i64 ((n : Int) + 3))).run Try.prog w = .ok (.slice (some ⟨w.heap.size, 0, none⟩) n (n + 3)) (w.alloc (.cells (madeCells #[.int .i64 0] (n + 3)) 3)) := by
  obtain ⟨i, hi, hzz⟩ := Option.map_eq_some_iff.1 Try.info_i64
  simp only [Prod.mk.injEq] at hzz
  obtain ⟨hz, hs, hb⟩ := hzz
  have hr := run_make (P := Try.prog) w 22 3 i (.int .i64 0) Try.underlying22 hi hz .i64 .i64 n ((n : Int) + 3) (by omega) (by omega) (by rw [hb]; omega) (by omega)
  rw [hs, Nat.mul_one, show ((n : Int) + 3).toNat = n + 3 from by omega, show ((n : Int)).toNat = n from by omega] at hr
  exact hr

theorem copy_stepI {wr w : World} {n k : Nat} {cur : Array Value} {xs : List Int} (hblk : wr.heap[w.heap.size]? = some (.cells cur 3)) (hsz : cur.size = n + 3) (hk : k < n)
    (hpre : ∀ i, i < k → cur[i]? = some (.int .i64 (xs.getD i 0))) :
    ∃ cur', (wr.setCell ⟨w.heap.size, k, none⟩ (.int .i64 (xs.getD k 0))).heap[w.heap.size]? = some (.cells cur' 3) ∧ cur'.size = n + 3 ∧ ∀ i, i < k + 1 → cur'[i]? = some (.int .i64 (xs.getD i 0)) := by
  refine ⟨_, set_block hblk k _, by simp [hsz], ?_⟩
  intro i hi
  by_cases e : i = k
  · subst e; simp [show i < cur.size from by omega]
  · rw [Array.getElem?_setIfInBounds_ne (by omega)]; exact hpre i (by omega)

set_option maxHeartbeats 800000 in
theorem copy_someI (b off n c : Nat) (xs : List Int) (w : World) (hn : xs.length = n) (hcm : n ≤ 17592186044400) (hc : CellsI w b off xs) :
    Calls Try.prog 26 #[.slice (some ⟨b, off, none⟩) n c] w fun e w' => ∃ cur, e = .returned (.slice (some ⟨w.heap.size, 0, none⟩) n (n + 3)) ∧ w'.heap[w.heap.size]? = some (.cells cur 3) ∧ cur.size = n + 3 ∧ (∀ i, i < n → cur[i]? = some (.int .i64 (xs.getD i 0))) ∧ w'.heap.size = w.heap.size + 1 ∧ Below w.heap.size w w' := by
  have hmk := make_n3I n hcm
  go_enter Try.func26, Try.ntmps26
  go_wp2
  go_loopw [4] (fun i wr => ∃ k : Nat, k ≤ n ∧ i = .int .i64 k ∧ (∃ cur, wr.heap[w.heap.size]? = some (.cells cur 3) ∧ cur.size = n + 3 ∧ ∀ i, i < k → cur[i]? = some (.int .i64 (xs.getD i 0))) ∧ wr.heap.size = w.heap.size + 1 ∧ Below w.heap.size w wr) (fun i _ => n - (intOf i).toNat)
  case atStart => exact ⟨0, Nat.zero_le _, rfl, ⟨_, alloc_block _ _, size_madeCells _ _, fun i hi => absurd hi (Nat.not_lt_zero _)⟩, by simp, (Below.refl _ _).alloc (Nat.le_refl _) _⟩
  case round =>
    obtain ⟨k, hk, rfl, ⟨cur, hblk, hsz, hpre⟩, hhs, hbel⟩ := hrel
    by_cases hlt : k < n
    · have hlt' : (k:Int) < (n:Int) := by omega
      have g1 : wr.cell? ⟨w.heap.size, k, none⟩ = some cur[k]! := by rw [cell_of_block hblk]; simp [show k < cur.size from by omega]
      have g2 := frozen_of_block hblk k
      have g3 := hc k (by omega)
      have g4 : wr.cell? ⟨b, off + k, none⟩ = _ := (hbel.cell (World.block_lt_of_cell? _ _ g3)).trans g3
      have HS := hide (copy_stepI hblk hsz hlt hpre)
      have HB := hide (hbel.setCell (p := ⟨w.heap.size, k, none⟩) (Nat.le_refl _) (.int .i64 (xs.getD k 0)))
      have HH := hide hhs
      generalize xs.getD k 0 = x at g3 g4 HS HB
      clear hblk hsz hpre hbel g3 hhs
      go_wp2
      refine ⟨⟨k + 1, by omega, by go_num, by simpa using unhide HS, by simpa using unhide HH, unhide HB⟩, by simp [intOf]; omega⟩
    · have HS := hide hpre
      have HB := hide hblk
      have HZ := hide hsz
      have HH := hide hhs
      clear hpre hblk hsz hhs
      go_wp2
      go_ret
      exact ⟨cur, rfl, unhide HB, unhide HZ, fun i hi => unhide HS i (by omega), unhide HH, hbel⟩

set_option maxHeartbeats 800000 in
theorem copy_nilI (a : Option Addr) (c : Nat) (w : World) :
    Calls Try.prog 26 #[.slice a 0 c] w fun e w' => ∃ cur, e = .returned (.slice (some ⟨w.heap.size, 0, none⟩) 0 3) ∧ w'.heap[w.heap.size]? = some (.cells cur 3) ∧ cur.size = 3 ∧ w'.heap.size = w.heap.size + 1 ∧ Below w.heap.size w w' := by
  have hmk : ∀ w, (Instr.makeSlice 22 (.int .i64 0) (.int .i64 3)).run Try.prog w = .ok (.slice (some ⟨w.heap.size, 0, none⟩) 0 3) (w.alloc (.cells (madeCells #[.int .i64 0] 3) 3)) := fun w => make_n3I 0 (by omega) w
  go_enter Try.func26, Try.ntmps26
  go_wp2
  go_loopw [4] (fun i wr => i = .int .i64 0 ∧ (∃ cur, wr.heap[w.heap.size]? = some (.cells cur 3) ∧ cur.size = 3) ∧ wr.heap.size = w.heap.size + 1 ∧ Below w.heap.size w wr) (fun i _ => (intOf i).toNat)
  case atStart => exact ⟨rfl, ⟨_, alloc_block _ _, size_madeCells _ _⟩, by simp, (Below.refl _ _).alloc (Nat.le_refl _) _⟩
  case round =>
    obtain ⟨rfl, ⟨cur, hblk, hsz⟩, hhs, hbel⟩ := hrel
    have HB := hide hblk
    have HZ := hide hsz
    have HH := hide hhs
    clear hblk hsz hhs
    go_wp2
    go_ret
    exact ⟨cur, rfl, unhide HB, unhide HZ, unhide HH, hbel⟩

/-- slopeplain.CopyInts. -/
theorem copy_anyI (a : Option Addr) (n c : Nat) (xs : List Int) (w : World) (h : SlI w a n c xs) (hb : n ≤ 17592186044400) :
    Calls Try.prog 26 #[.slice a n c] w fun e w' => ∃ cur, e = .returned (.slice (some ⟨w.heap.size, 0, none⟩) n (n + 3)) ∧ w'.heap[w.heap.size]? = some (.cells cur 3) ∧ cur.size = n + 3 ∧ (∀ i, i < n → cur[i]? = some (.int .i64 (xs.getD i 0))) ∧ w'.heap.size = w.heap.size + 1 ∧ Below w.heap.size w w' := by
  have hl := h.len
  rcases h.cells with h0 | ⟨b, off, rfl, hc⟩
  · subst h0
    simp at hl
    subst hl
    refine (copy_nilI a c w).mono ?_
    rintro e w' ⟨cur, rfl, h1, h2, h3, h4⟩
    exact ⟨cur, rfl, h1, h2, fun i hi => absurd hi (Nat.not_lt_zero _), h3, h4⟩
  · exact copy_someI b off n c xs w hl hb hc
end Go.Proofs.Ytpmafjofkmefeaa
