/-
  slopeplain.CopyNat, Given.Nat, Given.Intact: contracts.
-/
import Derived.Test.YtlecjjcpidjmhaaRef1
namespace Go.Proofs.Ytlecjjcpidjmhaa
open Go.RowKit Go.Deep
set_option linter.unusedVariables false

def vals (xs : List Nat) : List Value := xs.map (fun x => Value.int .u32 (x : Nat))

theorem cell_of_block {w : World} {b : Nat} {cur : Array Value} {e : TypeId} {fr : Nat × Nat} (h : w.heap[b]? = some (.cells cur e fr)) (i : Nat) : w.cell? ⟨b, i, none⟩ = cur[i]? := by
  simp [World.cell?, h]

theorem frozen_of_block {w : World} {b : Nat} {cur : Array Value} {e : TypeId} (h : w.heap[b]? = some (.cells cur e)) (i : Nat) : w.frozen? ⟨b, i, none⟩ = false := by
  simp [World.frozen?, h]

theorem set_block {w : World} {b : Nat} {cur : Array Value} {e : TypeId} {fr : Nat × Nat} (h : w.heap[b]? = some (.cells cur e fr)) (i : Nat) (v : Value) : (w.setCell ⟨b, i, none⟩ v).heap[b]? = some (.cells (cur.setIfInBounds i v) e fr) := by
  simp only [World.setCell, Array.getElem?_modify, h]
  simp

theorem set_block_other {w : World} {b k i : Nat} (hk : k ≠ b) (v : Value) : (w.setCell ⟨b, i, none⟩ v).heap[k]? = w.heap[k]? :=
  Below.heap_setCell w _ v k hk

theorem alloc_block (w : World) (o : Obj) : (w.alloc o).heap[w.heap.size]? = some o := by
  show (w.heap.push o)[w.heap.size]? = some o
  simp

theorem cells_of_block {w : World} {b off : Nat} {cur : Array Value} {e : TypeId} {fr : Nat × Nat} {xs : List Nat} (h : w.heap[b]? = some (.cells cur e fr)) (ht : ∀ i, i < xs.length → cur[off + i]? = some (.int .u32 (xs.getD i 0 : Nat))) : Cells w b off xs := by
  intro i hi
  rw [cell_of_block h]; exact ht i hi

theorem vals_get {xs : List Nat} {i : Nat} (h : i < xs.length) : (vals xs)[i]? = some (.int .u32 (xs.getD i 0 : Nat)) := by
  simp [vals, h]

theorem take_vals {cur : Array Value} {n : Nat} {xs : List Nat} (hl : xs.length = n) (h : cur.toList.take n = vals xs) : ∀ i, i < xs.length → cur[i]? = some (.int .u32 (xs.getD i 0 : Nat)) := by
  intro i hi
  have := vals_get hi
  rw [← h] at this
  simpa [List.getElem?_take, show i < n from by omega] using this

theorem make_n3 (n : Nat) (hn : n ≤ 70368744177600) (w : World) : (Instr.makeSlice 22 (.int .i64 (n : Int)) (.int .i64 ((n : Int) + 3))).run Try.prog w = .ok (.slice (some ⟨w.heap.size, 0, none⟩) n (n + 3)) (w.alloc (.cells (madeCells #[.int .u32 0] (n + 3)) 77)) := by
  obtain ⟨i, hi, hzz⟩ := Option.map_eq_some_iff.1 Try.info_u32
  simp only [Prod.mk.injEq] at hzz
  obtain ⟨hz, hs, hb⟩ := hzz
  have hr := run_make (P := Try.prog) w 22 77 i (.int .u32 0) Try.underlying22 hi hz .i64 .i64 n ((n : Int) + 3) (by omega) (by omega) (by rw [hb]; omega) (by omega)
  rw [hs, Nat.mul_one, show ((n : Int) + 3).toNat = n + 3 from by omega, show ((n : Int)).toNat = n from by omega] at hr
  exact hr

theorem copy_step {wr w : World} {n k : Nat} {cur : Array Value} {xs : List Nat} (hblk : wr.heap[w.heap.size]? = some (.cells cur 77)) (hsz : cur.size = n + 3) (hk : k < n)
    (hpre : ∀ i, i < k → cur[i]? = some (.int .u32 (xs.getD i 0 : Nat))) :
    ∃ cur', (wr.setCell ⟨w.heap.size, k, none⟩ (.int .u32 (xs.getD k 0 : Nat))).heap[w.heap.size]? = some (.cells cur' 77) ∧ cur'.size = n + 3 ∧ ∀ i, i < k + 1 → cur'[i]? = some (.int .u32 (xs.getD i 0 : Nat)) := by
  refine ⟨_, set_block hblk k _, by simp [hsz], ?_⟩
  intro i hi
  by_cases e : i = k
  · subst e; simp [show i < cur.size from by omega]
  · rw [Array.getElem?_setIfInBounds_ne (by omega)]; exact hpre i (by omega)

set_option maxHeartbeats 800000 in
theorem copy_some (b off n c : Nat) (xs : List Nat) (w : World) (hn : xs.length = n) (hcm : n ≤ 70368744177600) (hc : Cells w b off xs) :
    Calls Try.prog 38 #[.slice (some ⟨b, off, none⟩) n c] w fun e w' => ∃ cur, e = .returned (.slice (some ⟨w.heap.size, 0, none⟩) n (n + 3)) ∧ w'.heap[w.heap.size]? = some (.cells cur 77) ∧ cur.size = n + 3 ∧ (∀ i, i < n → cur[i]? = some (.int .u32 (xs.getD i 0 : Nat))) ∧ w'.heap.size = w.heap.size + 1 ∧ Below w.heap.size w w' := by
  have hmk := make_n3 n hcm
  go_enter Try.func38, Try.ntmps38
  go_wp2
  go_loopw [4] (fun i wr => ∃ k : Nat, k ≤ n ∧ i = .int .i64 k ∧ (∃ cur, wr.heap[w.heap.size]? = some (.cells cur 77) ∧ cur.size = n + 3 ∧ ∀ i, i < k → cur[i]? = some (.int .u32 (xs.getD i 0 : Nat))) ∧ wr.heap.size = w.heap.size + 1 ∧ Below w.heap.size w wr) (fun i _ => n - (intOf i).toNat)
  case atStart => exact ⟨0, Nat.zero_le _, rfl, ⟨_, alloc_block _ _, size_madeCells _ _, fun i hi => absurd hi (Nat.not_lt_zero _)⟩, by simp, (Below.refl _ _).alloc (Nat.le_refl _) _⟩
  case round =>
    obtain ⟨k, hk, rfl, ⟨cur, hblk, hsz, hpre⟩, hhs, hbel⟩ := hrel
    by_cases hlt : k < n
    · have hlt' : (k:Int) < (n:Int) := by omega
      have g1 : wr.cell? ⟨w.heap.size, k, none⟩ = some cur[k]! := by rw [cell_of_block hblk]; simp [show k < cur.size from by omega]
      have g2 := frozen_of_block hblk k
      have g3 := hc k (by omega)
      have g4 : wr.cell? ⟨b, off + k, none⟩ = _ := (hbel.cell (World.block_lt_of_cell? _ _ g3)).trans g3
      have HS := hide (copy_step hblk hsz hlt hpre)
      have HB := hide (hbel.setCell (p := ⟨w.heap.size, k, none⟩) (Nat.le_refl _) (.int .u32 (xs.getD k 0 : Nat)))
      have HH := hide hhs
      generalize xs.getD k 0 = x at g3 g4 HS HB
      clear hblk hsz hpre hbel g3 hhs
      go_wp2
      refine ⟨⟨k + 1, by omega, by go_num, by simpa using unhide HS, by simpa using unhide HH, unhide HB⟩, by simp [intOf]; omega⟩
    · have HS := hide hpre
      have HB := hide hblk
      have HZ := hide hsz
      have HH := hide hhs
      clear hpre hblk hsz hhs
      go_wp2
      go_ret
      exact ⟨cur, rfl, unhide HB, unhide HZ, fun i hi => unhide HS i (by omega), unhide HH, hbel⟩

set_option maxHeartbeats 800000 in
theorem copy_nil (a : Option Addr) (c : Nat) (w : World) :
    Calls Try.prog 38 #[.slice a 0 c] w fun e w' => ∃ cur, e = .returned (.slice (some ⟨w.heap.size, 0, none⟩) 0 3) ∧ w'.heap[w.heap.size]? = some (.cells cur 77) ∧ cur.size = 3 ∧ w'.heap.size = w.heap.size + 1 ∧ Below w.heap.size w w' := by
  have hmk : ∀ w, (Instr.makeSlice 22 (.int .i64 0) (.int .i64 3)).run Try.prog w = .ok (.slice (some ⟨w.heap.size, 0, none⟩) 0 3) (w.alloc (.cells (madeCells #[.int .u32 0] 3) 77)) := fun w => make_n3 0 (by omega) w
  go_enter Try.func38, Try.ntmps38
  go_wp2
  go_loopw [4] (fun i wr => i = .int .i64 0 ∧ (∃ cur, wr.heap[w.heap.size]? = some (.cells cur 77) ∧ cur.size = 3) ∧ wr.heap.size = w.heap.size + 1 ∧ Below w.heap.size w wr) (fun i _ => (intOf i).toNat)
  case atStart => exact ⟨rfl, ⟨_, alloc_block _ _, size_madeCells _ _⟩, by simp, (Below.refl _ _).alloc (Nat.le_refl _) _⟩
  case round =>
    obtain ⟨rfl, ⟨cur, hblk, hsz⟩, hhs, hbel⟩ := hrel
    have HB := hide hblk
    have HZ := hide hsz
    have HH := hide hhs
    clear hblk hsz hhs
    go_wp2
    go_ret
    exact ⟨cur, rfl, unhide HB, unhide HZ, unhide HH, hbel⟩

/-- slopeplain.CopyNat. -/
theorem copy_any (a : Option Addr) (n c : Nat) (xs : List Nat) (w : World) (h : Sl w a n c xs) (hb : n ≤ 70368744177600) :
    Calls Try.prog 38 #[.slice a n c] w fun e w' => ∃ cur, e = .returned (.slice (some ⟨w.heap.size, 0, none⟩) n (n + 3)) ∧ w'.heap[w.heap.size]? = some (.cells cur 77) ∧ cur.size = n + 3 ∧ (∀ i, i < n → cur[i]? = some (.int .u32 (xs.getD i 0 : Nat))) ∧ w'.heap.size = w.heap.size + 1 ∧ Below w.heap.size w w' := by
  have hl := h.len
  rcases h.cells with h0 | ⟨b, off, rfl, hc⟩
  · subst h0
    simp at hl
    subst hl
    refine (copy_nil a c w).mono ?_
    rintro e w' ⟨cur, rfl, h1, h2, h3, h4⟩
    exact ⟨cur, rfl, h1, h2, fun i hi => absurd hi (Nat.not_lt_zero _), h3, h4⟩
  · exact copy_some b off n c xs w hl hb hc
end Go.Proofs.Ytlecjjcpidjmhaa
