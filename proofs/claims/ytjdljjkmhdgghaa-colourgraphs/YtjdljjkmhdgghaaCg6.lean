/- Cg6 -/
import Derived.Test.YtjdljjkmhdgghaaCg5
namespace Go.Proofs.Ytjdljjkmhdgghaa
open Go.RowKit Go.Deep
set_option linter.unusedVariables false
def fz0:List Value:=[.bool false,.bool false,.bool false,.bool false,.bool false,.bool false,.bool false,.bool false,.bool false,.bool false,.bool false,.bool false,.bool false,.bool false,.bool false,.bool false,.bool false,.bool false,.bool false,.bool false,.bool false,.bool false,.bool false,.bool false,.bool false,.bool false,.bool false,.bool false,.bool false,.bool false,.bool false,.bool false,.bool false,.bool false,.bool false,.bool false,.bool false,.bool false,.bool false,.bool false,.bool false,.bool false,.bool false,.bool false,.bool false,.bool false,.bool false,.bool false,.bool false,.bool false,.bool false,.bool false,.bool false,.bool false,.bool false,.bool false,.bool false,.bool false,.bool false,.bool false,.bool false,.bool false,.bool false,.bool false]
def fz1:List Value:=fz0.append fz0
def fz2:List Value:=fz1.append fz1
def fz3:List Value:=fz2.append fz2
def fz4:List Value:=fz3.append fz3
def fz5:List Value:=fz4.append fz4
def fz6:List Value:=fz5.append fz5
def fz7:List Value:=fz6.append fz6
def fz8:List Value:=fz7.append fz7
theorem fz_two {l:List Value} {n m:Nat} (h:l = List.replicate n (.bool false)) (hm:n + n = m):l.append l = List.replicate m (.bool false):=by
 subst h hm
 exact List.replicate_append_replicate
theorem fz0_is:fz0 = List.replicate 64 (.bool false):=rfl
theorem fz1_is:fz1 = List.replicate 128 (.bool false):=fz_two fz0_is rfl
theorem fz2_is:fz2 = List.replicate 256 (.bool false):=fz_two fz1_is rfl
theorem fz3_is:fz3 = List.replicate 512 (.bool false):=fz_two fz2_is rfl
theorem fz4_is:fz4 = List.replicate 1024 (.bool false):=fz_two fz3_is rfl
theorem fz5_is:fz5 = List.replicate 2048 (.bool false):=fz_two fz4_is rfl
theorem fz6_is:fz6 = List.replicate 4096 (.bool false):=fz_two fz5_is rfl
theorem fz7_is:fz7 = List.replicate 8192 (.bool false):=fz_two fz6_is rfl
theorem fz8_is:fz8 = List.replicate 16384 (.bool false):=fz_two fz7_is rfl
theorem zc_pairs:Try.zeroCells74 = fz8.toArray:=by kernel_rfl
theorem rep_at (l:List Value) (n i:Nat) (v:Value) (h:l = List.replicate n v) (hi:i < n):l.toArray[i]? = some v:=by subst h; simp [hi]
theorem RoV.pairs (w:World):RoV (w.alloc (.cells Try.zeroCells74 74)) w.heap.size 16384 (fun _ => .bool false):=by
 intro i hi
 have hq:Try.zeroCells74[i]? = some (.bool false):=by rw [zc_pairs]; exact rep_at _ _ _ _ fz8_is hi
 exact ⟨by simp [hq],by simp⟩
end Go.Proofs.Ytjdljjkmhdgghaa
