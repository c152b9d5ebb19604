/-
  slices.Backward over words: its contract.
-/
import Derived.RangeFuncNested
import Derived.RangeFuncBound
import Derived.RangeFuncCalls
import Derived.RangeFuncLeaves
import Derived.Shelf.Abstract
import Derived.OwnWalkIn
import Derived.TacticsInMore
import Derived.LoopNIn
import Derived.LoopIn
import Derived.Test.YtbendkndnojihaaDoorBt2
namespace Go.Proofs.YtbendkndnojihaaDoor
open Go.RowKit Go.Deep Go.Shelf
set_option linter.unusedVariables false
attribute [local go_sem] Oper.semAt_some

/-- What is handed out: a number and its word. -/
def encB (N : Nat) (xs : List Nat) (x : Fin N) : Array Value := #[.int .i64 ((x.val : Nat) : Int), .int .u64 ((xs[x.val]?.getD 0 : Nat) : Int)]

set_option maxRecDepth 100000 in
set_option maxHeartbeats 2000000 in
/-- The closure of slices.Backward: from the last on; J of what has come. -/
theorem back1_in (F : Fence) (m : Nat) (hF : F.fn 73) (hro : F.round = none) (hm : 1 ≤ m) (l Bs n₀ : Nat) (a : Option Addr) (N cap : Nat) (xs : List Nat) (hN : N ≤ 9223372036854775807) (hBn : Bs < n₀) (J Jx : List (Fin N) → World → Prop)
    (hY : ∀ pre x W, J pre W → pre.length < N → YieldAt F (m - 1) Tryd.prog l (encB N xs x) W fun e W' =>
      (e = .returned (.bool true) ∧ J (pre ++ [x]) W' ∧ Below n₀ W W') ∨ (e = .returned (.bool false) ∧ Jx (pre ++ [x]) W'))
    (W : World) (hBs : W.cell? ⟨Bs, 0, none⟩ = some (.slice a N cap)) (hc : 0 < N → ∃ b off, a = some ⟨b, off, none⟩ ∧ b < n₀ ∧ ∀ j, j < N → W.cell? ⟨b, off + j, none⟩ = some (.int .u64 ((xs[j]?.getD 0 : Nat) : Int))) (h0 : J [] W) :
    CallsIn F m Tryd.prog 73 #[.func (.yield l) #[] #[], .pointer (some ⟨Bs, 0, none⟩)] W fun e W' => (∃ v, e = .returned v) ∧
      ((∃ ys, (∀ j : Fin N, j ∈ ys) ∧ J ys W') ∨ (∃ pre, (∃ ini last, pre = ini ++ [last] ∧ ∀ j : Fin N, last < j → j ∈ ini) ∧ Jx pre W')) := by
  refine callsIn_of_wp Tryd.func73 rfl hF ?_ hro
  simp only [Tryd.ntmps73, List.size_toArray, List.length_cons, List.length_nil, Nat.reduceAdd, Nat.reduceSub, Array.replicate_succ, Array.replicate_zero, List.push_toArray, List.append_toArray, List.nil_append, List.cons_append]
  have HC := hide hc
  have HY := hide hY
  have H0 := hide h0
  clear hc hY h0
  gi_wp2
  gi_loopw [3] (fun i wr => ∃ (k : Nat) (pre : List (Fin N)), k ≤ N ∧ i = .int .i64 ((N : Int) - 1 - k) ∧ pre.length = k ∧ (∀ j : Fin N, N - k ≤ j.val → j ∈ pre) ∧ J pre wr ∧ Below n₀ W wr)
    (fun i _ => (intOf i + 1).toNat)
  case atStart => exact ⟨0, [], Nat.zero_le _, by simp, rfl, fun j hj => by have := j.isLt; omega, unhide H0, Below.refl _ _⟩
  case round =>
    obtain ⟨k, pre, hk, rfl, hlen, hall, hJs, hnx⟩ := hrel
    have hbs : wr.cell? ⟨Bs, 0, none⟩ = some (.slice a N cap) := (hnx.cell (p := ⟨Bs, 0, none⟩) hBn).trans hBs
    have HAll := hide hall
    have HL := hide hlen
    have HJ := hide hJs
    clear hall hJs
    by_cases hlt : k < N
    · obtain ⟨b, off, rfl, hb, hcs⟩ := unhide HC (by omega)
      obtain ⟨q, hq⟩ : ∃ q, N - 1 - k = q := ⟨_, rfl⟩
      have hqN : q < N := by omega
      have hqi : (N : Int) - 1 - k = (q : Int) := by omega
      have hg := (hnx.cell (p := ⟨b, off + q, none⟩) hb).trans (hcs q hqN)
      have h0q : (0 : Int) ≤ (q : Int) := by omega
      have hqN' : (q : Int) < (N : Int) := by omega
      obtain ⟨fn, tmps, assign, body, hy, hR⟩ := unhide HY pre ⟨q, hqN⟩ wr (unhide HJ) (by rw [unhide HL]; exact hlt)
      unfold encB at hy
      dsimp only at hy
      have HR := hide hR
      have HNx := hide hnx
      have HQ := hide (And.intro hq hqi)
      rw [hqi]
      clear hcs hR hnx hq hqi hlen
      gi_wp2
      refine (unhide HR).mono ?_
      rintro e W3 (⟨rfl, hJ3, hk3⟩ | ⟨rfl, hJx3⟩)
      · have HJ3 := hide hJ3
        have HK3 := hide ((unhide HNx).trans hk3)
        clear hJ3 hk3
        gi_wp2
        go_roundw
        case rel =>
          refine ⟨k + 1, pre ++ [⟨q, hqN⟩], by omega, ?_, by simp [unhide HL], fun j hj => ?_, unhide HJ3, unhide HK3⟩
          · congr 1
            have := (unhide HQ).2
            omega
          · by_cases e : j.val = q
            · have : j = ⟨q, hqN⟩ := Fin.ext e
              simp [this]
            · exact List.mem_append.2 (.inl (unhide HAll j (by have := (unhide HQ).1; omega)))
        case measure => first | (simp [intOf]; done) | (simp [intOf]; omega)
      · have HJx3 := hide hJx3
        clear hJx3
        gi_wp2
        refine bodyPost_ret (results_none rfl _ _ _) rfl ?_
        refine ⟨⟨_, rfl⟩, .inr ⟨_, ⟨pre, ⟨q, hqN⟩, rfl, fun j hj => unhide HAll j ?_⟩, unhide HJx3⟩⟩
        have h1 : q < j.val := hj
        have := (unhide HQ).1
        omega
    · obtain rfl : k = N := by omega
      have hneg : (k : Int) - 1 - k = -1 := by omega
      rw [hneg]
      gi_wp2
      go_end0
      exact ⟨⟨_, rfl⟩, .inl ⟨_, fun j => unhide HAll j (by omega), unhide HJ⟩⟩

set_option maxHeartbeats 1000000 in
/-- slices.Backward: the slice is boxed; the closure holds the box. -/
theorem back_in (F : Fence) (m : Nat) (hF : F.fn 69) (hro : F.round = none) (a : Option Addr) (n c : Nat) (w : World) :
    CallsIn F m Tryd.prog 69 #[.slice a n c] w fun e w' => e = .returned (.func (.func 73) #[] #[.pointer (some ⟨w.heap.size, 0, none⟩)]) ∧ w' = w.alloc (.cells #[.slice a n c] 22) := by
  refine callsIn_of_wp Tryd.func69 rfl hF ?_ hro
  simp only [Tryd.ntmps69, List.size_toArray, List.length_cons, List.length_nil, Nat.reduceAdd, Nat.reduceSub, Array.replicate_succ, Array.replicate_zero, List.push_toArray, List.append_toArray, List.nil_append, List.cons_append]
  gi_wp2
  go_ret
  exact ⟨rfl, rfl⟩

/-- What is handed out of words that lie in memory ahead of the loop. -/
theorem back_stops (F : Fence) (m : Nat) (hF : F.fn 73) (hro : F.round = none) (hm : 1 ≤ m) (Bs : Nat) (a : Option Addr) (N cap : Nat) (xs : List Nat) (w : World) (hBs : Bs < w.heap.size)
    (hcB : w.cell? ⟨Bs, 0, none⟩ = some (.slice a N cap)) (h : SlW w a N cap xs) :
    SeqStopsK F m Tryd.prog 73 #[.pointer (some ⟨Bs, 0, none⟩)] (encB N xs) (Below w.heap.size) (fun ys => ∀ j : Fin N, j ∈ ys)
      (fun pre => ∃ ini last, pre = ini ++ [last] ∧ ∀ j : Fin N, last < j → j ∈ ini) N w := fun l J Jx W hW _ _ hY h0 => by
  have hcap := h.cap
  have hle := h.le
  unfold maxLen at hcap
  refine back1_in F m hF hro hm l Bs w.heap.size a N cap xs (by omega) hBs J Jx hY W ((hW.cell (p := ⟨Bs, 0, none⟩) hBs).trans hcB) (fun h0 => ?_) h0
  obtain ⟨b, off, e, hc⟩ := h.at h0
  have hlt := World.block_lt_of_cell? _ _ (hc 0 h0)
  refine ⟨b, off, e, hlt, fun j hj => ?_⟩
  have := (hW.cell (p := ⟨b, off + j, none⟩) hlt).trans (hc j hj)
  simpa [vU, List.getD] using this
end Go.Proofs.YtbendkndnojihaaDoor
