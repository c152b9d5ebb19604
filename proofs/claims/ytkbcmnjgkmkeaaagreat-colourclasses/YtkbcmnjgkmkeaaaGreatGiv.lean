/- Ref1 -/
import Derived.Test.YtkbcmnjgkmkeaaaGreatBase
namespace Go.Proofs.YtkbcmnjgkmkeaaaGreat
open Go.RowKit Go.Deep
set_option linter.unusedVariables false

theorem cell_of_block {w:World} {b:Nat} {cur:Array Value} {e:TypeId} {fr:Nat × Nat} (h:w.heap[b]? = some (.cells cur e fr)) (i:Nat):w.cell? ⟨b,i,none⟩ = cur[i]?:=by
 simp [World.cell?,h]

theorem frozen_of_block {w:World} {b:Nat} {cur:Array Value} {e:TypeId} (h:w.heap[b]? = some (.cells cur e)) (i:Nat):w.frozen? ⟨b,i,none⟩ = false:=by
 simp [World.frozen?,h]

theorem set_block {w:World} {b:Nat} {cur:Array Value} {e:TypeId} {fr:Nat × Nat} (h:w.heap[b]? = some (.cells cur e fr)) (i:Nat) (v:Value):(w.setCell ⟨b,i,none⟩ v).heap[b]? = some (.cells (cur.setIfInBounds i v) e fr):=by
 simp only [World.setCell,Array.getElem?_modify,h]
 simp

theorem set_block_other {w:World} {b k i:Nat} (hk:k ≠ b) (v:Value):(w.setCell ⟨b,i,none⟩ v).heap[k]? = w.heap[k]? :=
 Below.heap_setCell w _ v k hk

theorem alloc_block (w:World) (o:Obj):(w.alloc o).heap[w.heap.size]? = some o:=by
 show (w.heap.push o)[w.heap.size]? = some o
 simp
end Go.Proofs.YtkbcmnjgkmkeaaaGreat
