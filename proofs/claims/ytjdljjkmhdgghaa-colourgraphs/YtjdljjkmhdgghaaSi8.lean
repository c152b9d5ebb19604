/- Si8 -/
import Derived.Test.YtjdljjkmhdgghaaSi4
namespace Go.Proofs.Ytjdljjkmhdgghaa
open Go.RowKit Go.Deep
set_option linter.unusedVariables false
def givO:Obj:=.cells #[.slice none 0 0,.slice none 0 0,.slice none 0 0,.slice none 0 0,.slice none 0 0,.slice none 0 0,.slice none 0 0,.slice none 0 0,.slice none 0 0,.slice none 0 0,.slice none 0 0,.slice none 0 0,.slice none 0 0,.slice none 0 0,.slice none 0 0,.slice none 0 0,.slice none 0 0,.slice none 0 0,.slice none 0 0,.slice none 0 0] 36
theorem nil20 (i:Nat) (h:i < 20):(#[.slice none 0 0,.slice none 0 0,.slice none 0 0,.slice none 0 0,.slice none 0 0,.slice none 0 0,.slice none 0 0,.slice none 0 0,.slice none 0 0,.slice none 0 0,.slice none 0 0,.slice none 0 0,.slice none 0 0,.slice none 0 0,.slice none 0 0,.slice none 0 0,.slice none 0 0,.slice none 0 0,.slice none 0 0,.slice none 0 0]:Array Value)[i]? = some (.slice none 0 0):=by
 have:(#[.slice none 0 0,.slice none 0 0,.slice none 0 0,.slice none 0 0,.slice none 0 0,.slice none 0 0,.slice none 0 0,.slice none 0 0,.slice none 0 0,.slice none 0 0,.slice none 0 0,.slice none 0 0,.slice none 0 0,.slice none 0 0,.slice none 0 0,.slice none 0 0,.slice none 0 0,.slice none 0 0,.slice none 0 0,.slice none 0 0]:Array Value) = Array.replicate 20 (.slice none 0 0):=rfl
 rw [this,Array.getElem?_replicate,if_pos h]
theorem GivI.made (w:World):GivI (w.alloc givO) w.heap.size (.slice none 0 0) (.slice none 0 0) [] (fun _ => .slice none 0 0):=by
 refine ⟨⟨_,alloc_block w _,rfl,rfl,rfl,fun i _ h20 => nil20 i h20⟩,⟨rfl,.inl ⟨rfl,rfl⟩⟩,⟨rfl,.inl ⟨rfl,rfl⟩⟩,fun k e => by simp [Value.ownBlock] at e,fun e he => by cases he⟩
end Go.Proofs.Ytjdljjkmhdgghaa
