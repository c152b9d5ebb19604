/- Num -/

namespace Go.Proofs.Ytjdljjkmhdgghaa
set_option linter.unusedVariables false
def Ok (xs:List Nat):Prop:=∀ x ∈ xs,x < 4294967296

def Norm (xs:List Nat):Prop:=xs = [] ∨ xs.getD (xs.length - 1) 0 ≠ 0

theorem Ok.head {x:Nat} {xs:List Nat} (h:Ok (x :: xs)):x < 4294967296:=h x (List.mem_cons_self)
theorem Ok.nil:Ok []:=fun x h => by cases h
theorem Ok.cons {x:Nat} {xs:List Nat} (h:x < 4294967296) (k:Ok xs):Ok (x :: xs):=by
 intro y hy
 rcases List.mem_cons.1 hy with rfl | hy
 ·exact h
 ·exact k y hy
theorem Ok.getD {xs:List Nat} (h:Ok xs) (i:Nat):xs.getD i 0 < 4294967296:=by
 by_cases hi:i < xs.length
 ·have:xs.getD i 0 = xs[i]:=by simp [List.getD,hi]
  rw [this]; exact h _ (List.getElem_mem hi)
 ·have:xs.getD i 0 = 0:=by simp [List.getD,List.getElem?_eq_none (Nat.le_of_not_lt hi)]
  rw [this]; decide
theorem Ok.take {xs:List Nat} (h:Ok xs) (m:Nat):Ok (xs.take m):=fun x hx => h x (List.mem_of_mem_take hx)
theorem Ok.drop {xs:List Nat} (h:Ok xs) (m:Nat):Ok (xs.drop m):=fun x hx => h x (List.mem_of_mem_drop hx)
end Go.Proofs.Ytjdljjkmhdgghaa
