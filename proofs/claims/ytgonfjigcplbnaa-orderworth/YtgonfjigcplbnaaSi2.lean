/-
  slopeplain.CopyInts: contract.
-/
import Derived.Test.YtgonfjigcplbnaaSa0
namespace Go.Proofs.Ytgonfjigcplbnaa
open Go.RowKit Go.Deep
set_option linter.unusedVariables false

def valsI (xs : List Int) : List Value := xs.map (fun x => Value.int .i64 x)
theorem Try.info_i64 : (Try.prog.info? 3).map (fun i => (i.zero, i.size, i.bytes)) = some (some (.int .i64 0), 1, 8) := by kernel_rfl
theorem cells_of_blockI {w : World} {b off : Nat} {cur : Array Value} {e : TypeId} {fr : Nat × Nat} {xs : List Int} (h : w.heap[b]? = some (.cells cur e fr)) (ht : ∀ i, i < xs.length → cur[off + i]? = some (.int .i64 (xs.getD i 0))) : CellsI w b off xs := by
  intro i hi
  rw [cell_of_block h]; exact ht i hi

theorem vals_getI {xs : List Int} {i : Nat} (h : i < xs.length) : (valsI xs)[i]? = some (.int .i64 (xs.getD i 0)) := by
  simp [valsI, h]

theorem take_valsI {cur : Array Value} {n : Nat} {xs : List Int} (hl : xs.length = n) (h : cur.toList.take n = valsI xs) : ∀ i, i < xs.length → cur[i]? = some (.int .i64 (xs.getD i 0)) := by
  intro i hi
  have := vals_getI hi
  rw [← h] at this
  simpa [List.getElem?_take, show i < n from by omega] using this

theorem make_n3I (n : Nat) (hn : n ≤ 17592186044400) (w : World) : (Instr.makeSlice 22 (.int .i64 (n : Int)) (.int .i64 ((n : Int) + 3))).run Try.prog w = .ok (.slice (some ⟨w.heap.size, 0, none⟩) n (n + 3)) (w.alloc (.cells (madeCells #[.int .i64 0] (n + 3)) 3)) := by
  obtain ⟨i, hi, hzz⟩ := Option.map_eq_some_iff.1 Try.info_i64
  simp only [Prod.mk.injEq] at hzz
  obtain ⟨hz, hs, hb⟩ := hzz
  have hr := run_make (P := Try.prog) w 22 3 i (.int .i64 0) Try.underlying22 hi hz .i64 .i64 n ((n : Int) + 3) (by omega) (by omega) (by rw [hb]; omega) (by omega)
  rw [hs, Nat.mul_one, show ((n : Int) + 3).toNat = n + 3 from by omega, show ((n : Int)).toNat = n from by omega] at hr
  exact hr

theorem copy_stepI {wr w : World} {n k : Nat} {cur : Array Value} {xs : List Int} (hblk : wr.heap[w.heap.size]? = some (.cells cur 3)) (hsz : cur.size = n + 3) (hk : k < n)
    (hpre : ∀ i, i < k → cur[i]? = some (.int .i64 (xs.getD i 0))) :
    ∃ cur', (wr.setCell ⟨w.heap.size, k, none⟩ (.int .i64 (xs.getD k 0))).heap[w.heap.size]? = some (.cells cur' 3) ∧ cur'.size = n + 3 ∧ ∀ i, i < k + 1 → cur'[i]? = some (.int .i64 (xs.getD i 0)) := by
  refine ⟨_, set_block hblk k _, by simp [hsz], ?_⟩
  intro i hi
  by_cases e : i = k
  · subst e; simp [show i < cur.size from by omega]
  · rw [Array.getElem?_setIfInBounds_ne (by omega)]; exact hpre i (by omega)

end Go.Proofs.Ytgonfjigcplbnaa

namespace Go.Proofs.Ytgonfjigcplbnaa
open Go.RowKit Go.Deep
set_option linter.unusedVariables false

theorem CellsI.chg {S : Nat → Prop} {w w' : World} {b off : Nat} {xs : List Int} (h : CellsI w b off xs) (k : Chg S w w') (hs : ¬ S b) : CellsI w' b off xs :=
  fun i hi => k.cell hs (h i hi)

theorem SlI.chg {S : Nat → Prop} {w w' : World} {a : Option Addr} {n c : Nat} {xs : List Int} (h : SlI w a n c xs) (k : Chg S w w') (hs : ∀ x, a = some x → xs ≠ [] → ¬ S x.block) : SlI w' a n c xs :=
  ⟨h.len, h.le, h.cap, h.cells.elim .inl (fun ⟨b, off, e, kk⟩ => by
    by_cases hx : xs = []
    · exact .inl hx
    · exact .inr ⟨b, off, e, kk.chg k (hs _ e hx)⟩)⟩

theorem SlI.block_lt {w : World} {a : Option Addr} {n c : Nat} {xs : List Int} (h : SlI w a n c xs) (hx : xs ≠ []) : ∀ x, a = some x → x.block < w.heap.size := by
  intro x hx'
  rcases h.cells with e | ⟨b, off, e, kk⟩
  · exact absurd e hx
  · rw [e] at hx'
    cases hx'
    have := kk 0 (by cases xs with | nil => exact absurd rfl hx | cons => simp)
    exact World.block_lt_of_cell? _ _ this

structure EntI where
  b : Nat
  c : Nat
  b0 : Nat
  c0 : Nat
  xs : List Int

def marksI : List Int := [-41, -42, -43]
def EntI.v (e : EntI) : Value := .slice (some ⟨e.b, 0, none⟩) (e.xs.length + 3) e.c
def EntI.v0 (e : EntI) : Value := .slice (some ⟨e.b0, 0, none⟩) (e.xs.length + 3) e.c0

structure EntOkI (w : World) (B : Nat) (v0 v1 : Value) (e : EntI) : Prop where
  sl : SlI w (some ⟨e.b, 0, none⟩) (e.xs.length + 3) e.c (e.xs ++ marksI)
  sl0 : SlI w (some ⟨e.b0, 0, none⟩) (e.xs.length + 3) e.c0 (e.xs ++ marksI)
  s : ¬ Own B v0 v1 e.b
  s0 : ¬ Own B v0 v1 e.b0

theorem Try.info_ints : (Try.prog.info? 22).map (fun i => (i.zero, i.size, i.bytes)) = some (some (.slice none 0 0), 1, 24) := by kernel_rfl
theorem own_of_copyI {w w1 : World} {n : Nat} {cur : Array Value} {xs : List Int} (hl : xs.length = n) (hn : n ≤ 17592186044000) (hblk : w1.heap[w.heap.size]? = some (.cells cur 3)) (hsz : cur.size = n + 3)
    (hpre : ∀ i, i < n → cur[i]? = some (.int .i64 (xs.getD i 0))) : w1.ownsRow w.heap.size 3 1 (.slice (some ⟨w.heap.size, 0, none⟩) n (n + 3)) n (valsI xs) := by
  refine ⟨by simp [valsI, hl], .inr ⟨w.heap.size, n + 3, cur, rfl, Nat.le_refl _, hblk, by omega, ?_, by omega, ?_⟩⟩
  · unfold maxLen; omega
  · apply List.ext_getElem?
    intro i
    by_cases hi : i < n
    · have h1 := hpre i hi
      rw [vals_getI (by omega)]
      simpa [List.getElem?_take, hi] using h1
    · rw [List.getElem?_eq_none (by simp; omega), List.getElem?_eq_none (by simp [valsI]; omega)]

theorem sl_of_ownI {w : World} {base g n c : Nat} {xs : List Int} (h : w.ownsRow base 3 1 (.slice (some ⟨g, 0, none⟩) n c) n (valsI xs)) : SlI w (some ⟨g, 0, none⟩) n c xs := by
  obtain ⟨hl, h2⟩ := h
  have hl' : xs.length = n := by simpa [valsI] using hl
  rcases h2 with ⟨h2, h3⟩ | ⟨g', cap, cur, h3, h4, h5, h6, h7, h8, h9⟩
  · cases h2
  · injection h3 with e1 e2 e3
    injection e1 with e1
    injection e1 with e1
    subst e1 e3
    refine ⟨hl', h6, h7, .inr ⟨_, _, rfl, cells_of_blockI h5 ?_⟩⟩
    have := take_valsI hl' (by simpa using h9)
    simpa using this

theorem vals_appendI (xs ys : List Int) : valsI xs ++ valsI ys = valsI (xs ++ ys) := by simp [valsI]

theorem after_copyI {W w5 : World} {B n : Nat} {v1 : Value} {xs : List Value} (q7 : B < W.heap.size) (q5 : W.cell? ⟨B, 5, none⟩ = some v1) (q6 : W.frozen? ⟨B, 5, none⟩ = false) (ho : W.ownsRow (B + 1) 22 1 v1 n xs)
    (hb : Below W.heap.size W.drew w5) : w5.ownsRow (B + 1) 22 1 v1 n xs ∧ w5.cell? ⟨B, 5, none⟩ = some v1 ∧ w5.frozen? ⟨B, 5, none⟩ = false ∧ B < w5.heap.size := by
  have hb' : Below W.heap.size W w5 := (Below.drew (Below.refl _ _)).trans hb
  exact ⟨ownsRow_chg ho (.of_below (S := fun _ => False) hb') (fun _ _ => id), (hb'.cell q7).trans q5, (hb'.frozen q7).trans q6, Nat.lt_of_lt_of_le q7 hb'.size⟩

theorem after_appendI {w5 w6 : World} {B n : Nat} {v1 : Value} {xs : List Value} {o : Obj} (q7 : B < w5.heap.size) (q5 : w5.cell? ⟨B, 5, none⟩ = some v1) (q6 : w5.frozen? ⟨B, 5, none⟩ = false) (ho : w5.ownsRow (B + 1) 22 1 v1 n xs)
    (hg : (w5.alloc o).grownBy w6 v1.ownBlock) : w6.cell? ⟨B, 5, none⟩ = some v1 ∧ w6.frozen? ⟨B, 5, none⟩ = false := by
  have n0 : some B ≠ v1.ownBlock := fun e => by have := (own_ge ho B e.symm).1; omega
  have r1 := grown_frozen hg (b := B) (i := 5) (by simp; omega) n0
  exact ⟨by rw [r1.1, World.cell?_alloc_lt _ _ _ (by exact q7)]; exact q5, by rw [r1.2, World.frozen?_alloc_old _ _ _ (by simp; omega)]; exact q6⟩

theorem len_maxI {n : Nat} (h : n ≤ 5800000000000) : n + 1 ≤ maxLen := by unfold maxLen; omega
theorem len_bytesI {n : Nat} (h : n ≤ 5800000000000) : (n + 1) * 24 ≤ 140737488355328 := by omega
end Go.Proofs.Ytgonfjigcplbnaa
