/- Rq0 -/
import Derived.Test.YtjdljjkmhdgghaaBase
namespace Go.Proofs.Ytjdljjkmhdgghaa
open Go.RowKit Go.Deep
set_option linter.unusedVariables false
structure Ext (w0:World) where
 w:World
 bel:Below w0.heap.size w0 w
theorem Ext.ne (w:World):Nonempty (Ext w):=⟨⟨w,Below.refl _ _⟩⟩
section
variable {P:Program}
theorem wp_region_ext {id:Nat} {Q:Exit → Act → World → Prop} {a:Act} {w:World} {l:List Oper} (hm:P.follows .mixedOrders = true) (hB:Region.lexB .any l.toArray = true)
  (h:wpQuiet P l.toArray (fun w' => ∃ x:Ext w,w' = x.w) (fun a' => ∀ w',(∃ x:Ext w,w' = x.w) → Q .normal a' w') l a):(Code.region id l.toArray true).wp P Q a w :=
 wp_region_quiet (C:=fun w' => ∃ x:Ext w,w' = x.w) hm hB ⟨⟨w.drew,(Below.refl _ _).drew⟩,rfl⟩ (by simpa using h)
end
theorem Ext.call {P:Program} {f:FuncId} {args:Array Value} {w:World} {x:Ext w} {v:Value} {R:Ending → World → Prop} (h:Calls P f args x.w R) (hR:∀ e w',R e w' → e = .returned v ∧ Below x.w.heap.size x.w w') :
  Calls P f args x.w fun e w'' => e = .returned v ∧ ∃ y:Ext w,w'' = y.w :=
 h.mono fun e w' hr => ⟨(hR e w' hr).1,⟨⟨w',x.bel.trans ((hR e w' hr).2.mono x.bel.size)⟩,rfl⟩⟩
theorem Ext.cell {w:World} (x:Ext w) {p:Addr} {v:Value} (h:w.cell? p = some v):x.w.cell? p = some v:=(x.bel.cell (p:=p) (World.block_lt_of_cell? _ _ h)).trans h
end Go.Proofs.Ytjdljjkmhdgghaa
