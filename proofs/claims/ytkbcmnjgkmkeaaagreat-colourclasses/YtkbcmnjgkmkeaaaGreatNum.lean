/- Num -/

namespace Go.Proofs.YtkbcmnjgkmkeaaaGreat
set_option linter.unusedVariables false
def val:List Nat → Nat
 | [] => 0
 | x :: xs => x + 4294967296 * val xs

def Ok (xs:List Nat):Prop:=∀ x ∈ xs,x < 4294967296

def Norm (xs:List Nat):Prop:=xs = [] ∨ xs.getD (xs.length - 1) 0 ≠ 0

structure Rep (n:Nat) (xs:List Nat):Prop where
 ok:Ok xs
 norm:Norm xs
 val:val xs = n

theorem Ok.head {x:Nat} {xs:List Nat} (h:Ok (x :: xs)):x < 4294967296:=h x (List.mem_cons_self)
theorem Ok.nil:Ok []:=fun x h => by cases h
theorem Ok.cons {x:Nat} {xs:List Nat} (h:x < 4294967296) (k:Ok xs):Ok (x :: xs):=by
 intro y hy
 rcases List.mem_cons.1 hy with rfl | hy
 ·exact h
 ·exact k y hy
theorem Ok.getD {xs:List Nat} (h:Ok xs) (i:Nat):xs.getD i 0 < 4294967296:=by
 by_cases hi:i < xs.length
 ·have:xs.getD i 0 = xs[i]:=by simp [List.getD,hi]
  rw [this]; exact h _ (List.getElem_mem hi)
 ·have:xs.getD i 0 = 0:=by simp [List.getD,List.getElem?_eq_none (Nat.le_of_not_lt hi)]
  rw [this]; decide
theorem Ok.take {xs:List Nat} (h:Ok xs) (m:Nat):Ok (xs.take m):=fun x hx => h x (List.mem_of_mem_take hx)
theorem Ok.drop {xs:List Nat} (h:Ok xs) (m:Nat):Ok (xs.drop m):=fun x hx => h x (List.mem_of_mem_drop hx)

structure TrimAt (xs:List Nat) (m:Nat):Prop where
 le:m ≤ xs.length
 top:m = 0 ∨ xs.getD (m - 1) 0 ≠ 0
 zero:∀ i,m ≤ i → xs.getD i 0 = 0

theorem val_zero:∀ (xs:List Nat),(∀ i,xs.getD i 0 = 0) → val xs = 0
 | [],_ => rfl
 | x :: xs,h => by
  have h0:=h 0
  have ht:=val_zero xs (fun i => by simpa using h (i + 1))
  simp at h0
  simp [val,h0,ht]

theorem val_take:∀ (xs:List Nat) (m:Nat),(∀ i,m ≤ i → xs.getD i 0 = 0) → val (xs.take m) = val xs
 | xs,0,h => by simp [val,val_zero xs (fun i => h i (Nat.zero_le _))]
 | [],m + 1,_ => by simp
 | x :: xs,m + 1,h => by
  simp only [List.take_succ_cons,val]
  rw [val_take xs m (fun i hi => by simpa using h (i + 1) (by omega))]

theorem TrimAt.rep {xs:List Nat} {m:Nat} (h:TrimAt xs m) (ok:Ok xs):Rep (val xs) (xs.take m):=by
 refine ⟨ok.take m,?_,val_take xs m h.zero⟩
 rcases h.top with h0 | h0
 ·left; simp [h0]
 ·right
  have hl:(xs.take m).length = m:=by simp [Nat.min_eq_left h.le]
  rw [hl]
  by_cases hm:m = 0
  ·subst hm
   have:=h.zero 0 (Nat.le_refl _)
   simp at h0
   exact absurd (by simpa using this) h0
  ·have:(xs.take m).getD (m - 1) 0 = xs.getD (m - 1) 0:=by
    simp [List.getD,show m - 1 < m from by omega]
   rw [this]; exact h0
end Go.Proofs.YtkbcmnjgkmkeaaaGreat
