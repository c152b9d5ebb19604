/- Num -/
import Derived.Test.YtgjokididdffhaaGreatRows
import Derived.WalkKit
import Derived.WalkSpells
import Derived.WalkLawsBesides
import Derived.Deep.QuietTactic
import Derived.BigQuiet
import Derived.Deep.OwnRows
import Derived.Deep.AppendLies
import Derived.Deep.RegionLaw
import Derived.Deep.DeepMust
namespace Go.Proofs.YtgjokididdffhaaGreat
set_option linter.unusedVariables false
def val:List Nat → Nat
 | [] => 0
 | x :: xs => x + 4294967296 * val xs

def Ok (xs:List Nat):Prop:=∀ x ∈ xs,x < 4294967296

def Norm (xs:List Nat):Prop:=xs = [] ∨ xs.getD (xs.length - 1) 0 ≠ 0

structure Rep (n:Nat) (xs:List Nat):Prop where
 ok:Ok xs
 norm:Norm xs
 val:val xs = n

theorem Ok.tail {x:Nat} {xs:List Nat} (h:Ok (x :: xs)):Ok xs:=fun y hy => h y (List.mem_cons_of_mem _ hy)
theorem Ok.head {x:Nat} {xs:List Nat} (h:Ok (x :: xs)):x < 4294967296:=h x (List.mem_cons_self)
theorem Ok.nil:Ok []:=fun x h => by cases h
theorem Ok.cons {x:Nat} {xs:List Nat} (h:x < 4294967296) (k:Ok xs):Ok (x :: xs):=by
 intro y hy
 rcases List.mem_cons.1 hy with rfl | hy
 ·exact h
 ·exact k y hy
theorem Ok.getD {xs:List Nat} (h:Ok xs) (i:Nat):xs.getD i 0 < 4294967296:=by
 by_cases hi:i < xs.length
 ·have:xs.getD i 0 = xs[i]:=by simp [List.getD,hi]
  rw [this]; exact h _ (List.getElem_mem hi)
 ·have:xs.getD i 0 = 0:=by simp [List.getD,List.getElem?_eq_none (Nat.le_of_not_lt hi)]
  rw [this]; decide
theorem Ok.take {xs:List Nat} (h:Ok xs) (m:Nat):Ok (xs.take m):=fun x hx => h x (List.mem_of_mem_take hx)
theorem Ok.drop {xs:List Nat} (h:Ok xs) (m:Nat):Ok (xs.drop m):=fun x hx => h x (List.mem_of_mem_drop hx)

theorem norm_tail {x:Nat} {xs:List Nat} (h:Norm (x :: xs)):Norm xs:=by
 cases xs with
 | nil => exact .inl rfl
 | cons y ys =>
  right
  rcases h with h | h
  ·cases h
  ·simpa using h

theorem norm_one {x:Nat} (h:Norm [x]):x ≠ 0:=by
 rcases h with h | h
 ·cases h
 ·simpa using h

theorem val_ne:∀ {xs:List Nat},Norm xs → xs ≠ [] → val xs ≠ 0
 | [],_,h => absurd rfl h
 | [x],h,_ => by have:=norm_one h; simp [val]; omega
 | x :: y :: ys,h,_ => by
  have:=val_ne (norm_tail h) (by simp)
  simp only [val] at *
  omega

theorem rep_unique:∀ {xs ys:List Nat},Ok xs → Ok ys → Norm xs → Norm ys → val xs = val ys → xs = ys
 | [],[],_,_,_,_,_ => rfl
 | [],y :: ys,_,_,_,h,e => by have:=val_ne h (by simp); simp only [val] at *; omega
 | x :: xs,[],_,_,h,_,e => by have:=val_ne h (by simp); simp only [val] at *; omega
 | x :: xs,y :: ys,ox,oy,nx,ny,e => by
  have hx:=ox.head
  have hy:=oy.head
  simp only [val] at e
  have e1:x = y:=by omega
  have e2:val xs = val ys:=by omega
  rw [e1,rep_unique ox.tail oy.tail (norm_tail nx) (norm_tail ny) e2]

theorem Rep.unique {n:Nat} {xs ys:List Nat} (h:Rep n xs) (k:Rep n ys):xs = ys :=
 rep_unique h.ok k.ok h.norm k.norm (h.val.trans k.val.symm)

structure TrimAt (xs:List Nat) (m:Nat):Prop where
 le:m ≤ xs.length
 top:m = 0 ∨ xs.getD (m - 1) 0 ≠ 0
 zero:∀ i,m ≤ i → xs.getD i 0 = 0

theorem val_zero:∀ (xs:List Nat),(∀ i,xs.getD i 0 = 0) → val xs = 0
 | [],_ => rfl
 | x :: xs,h => by
  have h0:=h 0
  have ht:=val_zero xs (fun i => by simpa using h (i + 1))
  simp at h0
  simp [val,h0,ht]

theorem val_take:∀ (xs:List Nat) (m:Nat),(∀ i,m ≤ i → xs.getD i 0 = 0) → val (xs.take m) = val xs
 | xs,0,h => by simp [val,val_zero xs (fun i => h i (Nat.zero_le _))]
 | [],m + 1,_ => by simp
 | x :: xs,m + 1,h => by
  simp only [List.take_succ_cons,val]
  rw [val_take xs m (fun i hi => by simpa using h (i + 1) (by omega))]

theorem TrimAt.rep {xs:List Nat} {m:Nat} (h:TrimAt xs m) (ok:Ok xs):Rep (val xs) (xs.take m):=by
 refine ⟨ok.take m,?_,val_take xs m h.zero⟩
 rcases h.top with h0 | h0
 ·left; simp [h0]
 ·right
  have hl:(xs.take m).length = m:=by simp [Nat.min_eq_left h.le]
  rw [hl]
  by_cases hm:m = 0
  ·subst hm
   have:=h.zero 0 (Nat.le_refl _)
   simp at h0
   exact absurd (by simpa using this) h0
  ·have:(xs.take m).getD (m - 1) 0 = xs.getD (m - 1) 0:=by
    simp [List.getD,show m - 1 < m from by omega]
   rw [this]; exact h0

def limbsF:Nat → Nat → List Nat
 | 0,_ => []
 | k + 1,n => if n = 0 then [] else (n % 4294967296) :: limbsF k (n / 4294967296)

def limbs (n:Nat):List Nat:=limbsF n n

theorem norm_cons {x:Nat} {xs:List Nat} (h:Norm xs) (hx:xs ≠ [] ∨ x ≠ 0):Norm (x :: xs):=by
 right
 cases xs with
 | nil =>
  rcases hx with h | h
  ·exact absurd rfl h
  ·simpa using h
 | cons y ys =>
  rcases h with h | h
  ·cases h
  ·simpa using h

theorem limbsF_rep:∀ (k n:Nat),n ≤ k → Rep n (limbsF k n)
 | 0,n,h => by
  have:n = 0:=by omega
  subst this
  exact ⟨Ok.nil,.inl rfl,rfl⟩
 | k + 1,n,h => by
  unfold limbsF
  by_cases h0:n = 0
  ·rw [if_pos h0]; subst h0; exact ⟨Ok.nil,.inl rfl,rfl⟩
  ·rw [if_neg h0]
   have hr:=limbsF_rep k (n / 4294967296) (by omega)
   refine ⟨Ok.cons (by omega) hr.ok,norm_cons hr.norm ?_,?_⟩
   ·by_cases hz:n / 4294967296 = 0
    ·right; omega
    ·left
     intro e
     have hv:=hr.val
     rw [e] at hv
     simp only [val] at hv
     omega
   ·simp only [val]
    rw [hr.val]
    omega

theorem limbs_rep (n:Nat):Rep n (limbs n):=limbsF_rep n n (Nat.le_refl _)
theorem Rep.eq {n:Nat} {xs:List Nat} (h:Rep n xs):xs = limbs n:=h.unique (limbs_rep n)
end Go.Proofs.YtgjokididdffhaaGreat
namespace Go.Proofs.YtgjokididdffhaaGreat
open Go.RowKit Go.Deep
set_option linter.unusedVariables false
theorem hide {p:Prop} (h:p):Hid p:=h
theorem Hj {p:Prop} (h:p):Hid p:=h
theorem unhide {p:Prop} (h:Hid p):p:=h
theorem Uh {p:Prop} (h:Hid p):p:=h
theorem mM1 {X:Type _} {a x0:X} {l:List X}:a ∈ x0 :: a :: l:=.tail _ (.head _)
theorem mM2 {X:Type _} {a x0 x1:X} {l:List X}:a ∈ x0 :: x1 :: a :: l:=.tail _ mM1
theorem mM3 {X:Type _} {a x0 x1 x2:X} {l:List X}:a ∈ x0 :: x1 :: x2 :: a :: l:=.tail _ mM2
theorem mM4 {X:Type _} {a x0 x1 x2 x3:X} {l:List X}:a ∈ x0 :: x1 :: x2 :: x3 :: a :: l:=.tail _ mM3
theorem mM5 {X:Type _} {a x0 x1 x2 x3 x4:X} {l:List X}:a ∈ x0 :: x1 :: x2 :: x3 :: x4 :: a :: l:=.tail _ mM4
theorem mM6 {X:Type _} {a x0 x1 x2 x3 x4 x5:X} {l:List X}:a ∈ x0 :: x1 :: x2 :: x3 :: x4 :: x5 :: a :: l:=.tail _ mM5
theorem mM7 {X:Type _} {a x0 x1 x2 x3 x4 x5 x6:X} {l:List X}:a ∈ x0 :: x1 :: x2 :: x3 :: x4 :: x5 :: x6 :: a :: l:=.tail _ mM6
theorem mM8 {X:Type _} {a x0 x1 x2 x3 x4 x5 x6 x7:X} {l:List X}:a ∈ x0 :: x1 :: x2 :: x3 :: x4 :: x5 :: x6 :: x7 :: a :: l:=.tail _ mM7
theorem mM9 {X:Type _} {a x0 x1 x2 x3 x4 x5 x6 x7 x8:X} {l:List X}:a ∈ x0 :: x1 :: x2 :: x3 :: x4 :: x5 :: x6 :: x7 :: x8 :: a :: l:=.tail _ mM8
theorem mM10 {X:Type _} {a x0 x1 x2 x3 x4 x5 x6 x7 x8 x9:X} {l:List X}:a ∈ x0 :: x1 :: x2 :: x3 :: x4 :: x5 :: x6 :: x7 :: x8 :: x9 :: a :: l:=.tail _ mM9
theorem mM11 {X:Type _} {a x0 x1 x2 x3 x4 x5 x6 x7 x8 x9 x10:X} {l:List X}:a ∈ x0 :: x1 :: x2 :: x3 :: x4 :: x5 :: x6 :: x7 :: x8 :: x9 :: x10 :: a :: l:=.tail _ mM10
theorem mM12 {X:Type _} {a x0 x1 x2 x3 x4 x5 x6 x7 x8 x9 x10 x11:X} {l:List X}:a ∈ x0 :: x1 :: x2 :: x3 :: x4 :: x5 :: x6 :: x7 :: x8 :: x9 :: x10 :: x11 :: a :: l:=.tail _ mM11
theorem mM13 {X:Type _} {a x0 x1 x2 x3 x4 x5 x6 x7 x8 x9 x10 x11 x12:X} {l:List X}:a ∈ x0 :: x1 :: x2 :: x3 :: x4 :: x5 :: x6 :: x7 :: x8 :: x9 :: x10 :: x11 :: x12 :: a :: l:=.tail _ mM12
theorem mM14 {X:Type _} {a x0 x1 x2 x3 x4 x5 x6 x7 x8 x9 x10 x11 x12 x13:X} {l:List X}:a ∈ x0 :: x1 :: x2 :: x3 :: x4 :: x5 :: x6 :: x7 :: x8 :: x9 :: x10 :: x11 :: x12 :: x13 :: a :: l:=.tail _ mM13
theorem mM15 {X:Type _} {a x0 x1 x2 x3 x4 x5 x6 x7 x8 x9 x10 x11 x12 x13 x14:X} {l:List X}:a ∈ x0 :: x1 :: x2 :: x3 :: x4 :: x5 :: x6 :: x7 :: x8 :: x9 :: x10 :: x11 :: x12 :: x13 :: x14 :: a :: l:=.tail _ mM14
theorem mM16 {X:Type _} {a x0 x1 x2 x3 x4 x5 x6 x7 x8 x9 x10 x11 x12 x13 x14 x15:X} {l:List X}:a ∈ x0 :: x1 :: x2 :: x3 :: x4 :: x5 :: x6 :: x7 :: x8 :: x9 :: x10 :: x11 :: x12 :: x13 :: x14 :: x15 :: a :: l:=.tail _ mM15
theorem mM17 {X:Type _} {a x0 x1 x2 x3 x4 x5 x6 x7 x8 x9 x10 x11 x12 x13 x14 x15 x16:X} {l:List X}:a ∈ x0 :: x1 :: x2 :: x3 :: x4 :: x5 :: x6 :: x7 :: x8 :: x9 :: x10 :: x11 :: x12 :: x13 :: x14 :: x15 :: x16 :: a :: l:=.tail _ mM16
theorem mM18 {X:Type _} {a x0 x1 x2 x3 x4 x5 x6 x7 x8 x9 x10 x11 x12 x13 x14 x15 x16 x17:X} {l:List X}:a ∈ x0 :: x1 :: x2 :: x3 :: x4 :: x5 :: x6 :: x7 :: x8 :: x9 :: x10 :: x11 :: x12 :: x13 :: x14 :: x15 :: x16 :: x17 :: a :: l:=.tail _ mM17
theorem mM19 {X:Type _} {a x0 x1 x2 x3 x4 x5 x6 x7 x8 x9 x10 x11 x12 x13 x14 x15 x16 x17 x18:X} {l:List X}:a ∈ x0 :: x1 :: x2 :: x3 :: x4 :: x5 :: x6 :: x7 :: x8 :: x9 :: x10 :: x11 :: x12 :: x13 :: x14 :: x15 :: x16 :: x17 :: x18 :: a :: l:=.tail _ mM18
theorem mM20 {X:Type _} {a x0 x1 x2 x3 x4 x5 x6 x7 x8 x9 x10 x11 x12 x13 x14 x15 x16 x17 x18 x19:X} {l:List X}:a ∈ x0 :: x1 :: x2 :: x3 :: x4 :: x5 :: x6 :: x7 :: x8 :: x9 :: x10 :: x11 :: x12 :: x13 :: x14 :: x15 :: x16 :: x17 :: x18 :: x19 :: a :: l:=.tail _ mM19
theorem mM21 {X:Type _} {a x0 x1 x2 x3 x4 x5 x6 x7 x8 x9 x10 x11 x12 x13 x14 x15 x16 x17 x18 x19 x20:X} {l:List X}:a ∈ x0 :: x1 :: x2 :: x3 :: x4 :: x5 :: x6 :: x7 :: x8 :: x9 :: x10 :: x11 :: x12 :: x13 :: x14 :: x15 :: x16 :: x17 :: x18 :: x19 :: x20 :: a :: l:=.tail _ mM20
theorem mM22 {X:Type _} {a x0 x1 x2 x3 x4 x5 x6 x7 x8 x9 x10 x11 x12 x13 x14 x15 x16 x17 x18 x19 x20 x21:X} {l:List X}:a ∈ x0 :: x1 :: x2 :: x3 :: x4 :: x5 :: x6 :: x7 :: x8 :: x9 :: x10 :: x11 :: x12 :: x13 :: x14 :: x15 :: x16 :: x17 :: x18 :: x19 :: x20 :: x21 :: a :: l:=.tail _ mM21
theorem mM23 {X:Type _} {a x0 x1 x2 x3 x4 x5 x6 x7 x8 x9 x10 x11 x12 x13 x14 x15 x16 x17 x18 x19 x20 x21 x22:X} {l:List X}:a ∈ x0 :: x1 :: x2 :: x3 :: x4 :: x5 :: x6 :: x7 :: x8 :: x9 :: x10 :: x11 :: x12 :: x13 :: x14 :: x15 :: x16 :: x17 :: x18 :: x19 :: x20 :: x21 :: x22 :: a :: l:=.tail _ mM22
theorem mM24 {X:Type _} {a x0 x1 x2 x3 x4 x5 x6 x7 x8 x9 x10 x11 x12 x13 x14 x15 x16 x17 x18 x19 x20 x21 x22 x23:X} {l:List X}:a ∈ x0 :: x1 :: x2 :: x3 :: x4 :: x5 :: x6 :: x7 :: x8 :: x9 :: x10 :: x11 :: x12 :: x13 :: x14 :: x15 :: x16 :: x17 :: x18 :: x19 :: x20 :: x21 :: x22 :: x23 :: a :: l:=.tail _ mM23
theorem mM25 {X:Type _} {a x0 x1 x2 x3 x4 x5 x6 x7 x8 x9 x10 x11 x12 x13 x14 x15 x16 x17 x18 x19 x20 x21 x22 x23 x24:X} {l:List X}:a ∈ x0 :: x1 :: x2 :: x3 :: x4 :: x5 :: x6 :: x7 :: x8 :: x9 :: x10 :: x11 :: x12 :: x13 :: x14 :: x15 :: x16 :: x17 :: x18 :: x19 :: x20 :: x21 :: x22 :: x23 :: x24 :: a :: l:=.tail _ mM24
theorem mM26 {X:Type _} {a x0 x1 x2 x3 x4 x5 x6 x7 x8 x9 x10 x11 x12 x13 x14 x15 x16 x17 x18 x19 x20 x21 x22 x23 x24 x25:X} {l:List X}:a ∈ x0 :: x1 :: x2 :: x3 :: x4 :: x5 :: x6 :: x7 :: x8 :: x9 :: x10 :: x11 :: x12 :: x13 :: x14 :: x15 :: x16 :: x17 :: x18 :: x19 :: x20 :: x21 :: x22 :: x23 :: x24 :: x25 :: a :: l:=.tail _ mM25
theorem mM27 {X:Type _} {a x0 x1 x2 x3 x4 x5 x6 x7 x8 x9 x10 x11 x12 x13 x14 x15 x16 x17 x18 x19 x20 x21 x22 x23 x24 x25 x26:X} {l:List X}:a ∈ x0 :: x1 :: x2 :: x3 :: x4 :: x5 :: x6 :: x7 :: x8 :: x9 :: x10 :: x11 :: x12 :: x13 :: x14 :: x15 :: x16 :: x17 :: x18 :: x19 :: x20 :: x21 :: x22 :: x23 :: x24 :: x25 :: x26 :: a :: l:=.tail _ mM26
theorem mM28 {X:Type _} {a x0 x1 x2 x3 x4 x5 x6 x7 x8 x9 x10 x11 x12 x13 x14 x15 x16 x17 x18 x19 x20 x21 x22 x23 x24 x25 x26 x27:X} {l:List X}:a ∈ x0 :: x1 :: x2 :: x3 :: x4 :: x5 :: x6 :: x7 :: x8 :: x9 :: x10 :: x11 :: x12 :: x13 :: x14 :: x15 :: x16 :: x17 :: x18 :: x19 :: x20 :: x21 :: x22 :: x23 :: x24 :: x25 :: x26 :: x27 :: a :: l:=.tail _ mM27
theorem mM29 {X:Type _} {a x0 x1 x2 x3 x4 x5 x6 x7 x8 x9 x10 x11 x12 x13 x14 x15 x16 x17 x18 x19 x20 x21 x22 x23 x24 x25 x26 x27 x28:X} {l:List X}:a ∈ x0 :: x1 :: x2 :: x3 :: x4 :: x5 :: x6 :: x7 :: x8 :: x9 :: x10 :: x11 :: x12 :: x13 :: x14 :: x15 :: x16 :: x17 :: x18 :: x19 :: x20 :: x21 :: x22 :: x23 :: x24 :: x25 :: x26 :: x27 :: x28 :: a :: l:=.tail _ mM28
theorem mM30 {X:Type _} {a x0 x1 x2 x3 x4 x5 x6 x7 x8 x9 x10 x11 x12 x13 x14 x15 x16 x17 x18 x19 x20 x21 x22 x23 x24 x25 x26 x27 x28 x29:X} {l:List X}:a ∈ x0 :: x1 :: x2 :: x3 :: x4 :: x5 :: x6 :: x7 :: x8 :: x9 :: x10 :: x11 :: x12 :: x13 :: x14 :: x15 :: x16 :: x17 :: x18 :: x19 :: x20 :: x21 :: x22 :: x23 :: x24 :: x25 :: x26 :: x27 :: x28 :: x29 :: a :: l:=.tail _ mM29
theorem mM31 {X:Type _} {a x0 x1 x2 x3 x4 x5 x6 x7 x8 x9 x10 x11 x12 x13 x14 x15 x16 x17 x18 x19 x20 x21 x22 x23 x24 x25 x26 x27 x28 x29 x30:X} {l:List X}:a ∈ x0 :: x1 :: x2 :: x3 :: x4 :: x5 :: x6 :: x7 :: x8 :: x9 :: x10 :: x11 :: x12 :: x13 :: x14 :: x15 :: x16 :: x17 :: x18 :: x19 :: x20 :: x21 :: x22 :: x23 :: x24 :: x25 :: x26 :: x27 :: x28 :: x29 :: x30 :: a :: l:=.tail _ mM30
theorem mM32 {X:Type _} {a x0 x1 x2 x3 x4 x5 x6 x7 x8 x9 x10 x11 x12 x13 x14 x15 x16 x17 x18 x19 x20 x21 x22 x23 x24 x25 x26 x27 x28 x29 x30 x31:X} {l:List X}:a ∈ x0 :: x1 :: x2 :: x3 :: x4 :: x5 :: x6 :: x7 :: x8 :: x9 :: x10 :: x11 :: x12 :: x13 :: x14 :: x15 :: x16 :: x17 :: x18 :: x19 :: x20 :: x21 :: x22 :: x23 :: x24 :: x25 :: x26 :: x27 :: x28 :: x29 :: x30 :: x31 :: a :: l:=.tail _ mM31
theorem mM33 {X:Type _} {a x0 x1 x2 x3 x4 x5 x6 x7 x8 x9 x10 x11 x12 x13 x14 x15 x16 x17 x18 x19 x20 x21 x22 x23 x24 x25 x26 x27 x28 x29 x30 x31 x32:X} {l:List X}:a ∈ x0 :: x1 :: x2 :: x3 :: x4 :: x5 :: x6 :: x7 :: x8 :: x9 :: x10 :: x11 :: x12 :: x13 :: x14 :: x15 :: x16 :: x17 :: x18 :: x19 :: x20 :: x21 :: x22 :: x23 :: x24 :: x25 :: x26 :: x27 :: x28 :: x29 :: x30 :: x31 :: x32 :: a :: l:=.tail _ mM32
theorem mM34 {X:Type _} {a x0 x1 x2 x3 x4 x5 x6 x7 x8 x9 x10 x11 x12 x13 x14 x15 x16 x17 x18 x19 x20 x21 x22 x23 x24 x25 x26 x27 x28 x29 x30 x31 x32 x33:X} {l:List X}:a ∈ x0 :: x1 :: x2 :: x3 :: x4 :: x5 :: x6 :: x7 :: x8 :: x9 :: x10 :: x11 :: x12 :: x13 :: x14 :: x15 :: x16 :: x17 :: x18 :: x19 :: x20 :: x21 :: x22 :: x23 :: x24 :: x25 :: x26 :: x27 :: x28 :: x29 :: x30 :: x31 :: x32 :: x33 :: a :: l:=.tail _ mM33
theorem mM35 {X:Type _} {a x0 x1 x2 x3 x4 x5 x6 x7 x8 x9 x10 x11 x12 x13 x14 x15 x16 x17 x18 x19 x20 x21 x22 x23 x24 x25 x26 x27 x28 x29 x30 x31 x32 x33 x34:X} {l:List X}:a ∈ x0 :: x1 :: x2 :: x3 :: x4 :: x5 :: x6 :: x7 :: x8 :: x9 :: x10 :: x11 :: x12 :: x13 :: x14 :: x15 :: x16 :: x17 :: x18 :: x19 :: x20 :: x21 :: x22 :: x23 :: x24 :: x25 :: x26 :: x27 :: x28 :: x29 :: x30 :: x31 :: x32 :: x33 :: x34 :: a :: l:=.tail _ mM34
theorem mM36 {X:Type _} {a x0 x1 x2 x3 x4 x5 x6 x7 x8 x9 x10 x11 x12 x13 x14 x15 x16 x17 x18 x19 x20 x21 x22 x23 x24 x25 x26 x27 x28 x29 x30 x31 x32 x33 x34 x35:X} {l:List X}:a ∈ x0 :: x1 :: x2 :: x3 :: x4 :: x5 :: x6 :: x7 :: x8 :: x9 :: x10 :: x11 :: x12 :: x13 :: x14 :: x15 :: x16 :: x17 :: x18 :: x19 :: x20 :: x21 :: x22 :: x23 :: x24 :: x25 :: x26 :: x27 :: x28 :: x29 :: x30 :: x31 :: x32 :: x33 :: x34 :: x35 :: a :: l:=.tail _ mM35
theorem mM37 {X:Type _} {a x0 x1 x2 x3 x4 x5 x6 x7 x8 x9 x10 x11 x12 x13 x14 x15 x16 x17 x18 x19 x20 x21 x22 x23 x24 x25 x26 x27 x28 x29 x30 x31 x32 x33 x34 x35 x36:X} {l:List X}:a ∈ x0 :: x1 :: x2 :: x3 :: x4 :: x5 :: x6 :: x7 :: x8 :: x9 :: x10 :: x11 :: x12 :: x13 :: x14 :: x15 :: x16 :: x17 :: x18 :: x19 :: x20 :: x21 :: x22 :: x23 :: x24 :: x25 :: x26 :: x27 :: x28 :: x29 :: x30 :: x31 :: x32 :: x33 :: x34 :: x35 :: x36 :: a :: l:=.tail _ mM36
theorem mM38 {X:Type _} {a x0 x1 x2 x3 x4 x5 x6 x7 x8 x9 x10 x11 x12 x13 x14 x15 x16 x17 x18 x19 x20 x21 x22 x23 x24 x25 x26 x27 x28 x29 x30 x31 x32 x33 x34 x35 x36 x37:X} {l:List X}:a ∈ x0 :: x1 :: x2 :: x3 :: x4 :: x5 :: x6 :: x7 :: x8 :: x9 :: x10 :: x11 :: x12 :: x13 :: x14 :: x15 :: x16 :: x17 :: x18 :: x19 :: x20 :: x21 :: x22 :: x23 :: x24 :: x25 :: x26 :: x27 :: x28 :: x29 :: x30 :: x31 :: x32 :: x33 :: x34 :: x35 :: x36 :: x37 :: a :: l:=.tail _ mM37
theorem mM39 {X:Type _} {a x0 x1 x2 x3 x4 x5 x6 x7 x8 x9 x10 x11 x12 x13 x14 x15 x16 x17 x18 x19 x20 x21 x22 x23 x24 x25 x26 x27 x28 x29 x30 x31 x32 x33 x34 x35 x36 x37 x38:X} {l:List X}:a ∈ x0 :: x1 :: x2 :: x3 :: x4 :: x5 :: x6 :: x7 :: x8 :: x9 :: x10 :: x11 :: x12 :: x13 :: x14 :: x15 :: x16 :: x17 :: x18 :: x19 :: x20 :: x21 :: x22 :: x23 :: x24 :: x25 :: x26 :: x27 :: x28 :: x29 :: x30 :: x31 :: x32 :: x33 :: x34 :: x35 :: x36 :: x37 :: x38 :: a :: l:=.tail _ mM38
theorem mM40 {X:Type _} {a x0 x1 x2 x3 x4 x5 x6 x7 x8 x9 x10 x11 x12 x13 x14 x15 x16 x17 x18 x19 x20 x21 x22 x23 x24 x25 x26 x27 x28 x29 x30 x31 x32 x33 x34 x35 x36 x37 x38 x39:X} {l:List X}:a ∈ x0 :: x1 :: x2 :: x3 :: x4 :: x5 :: x6 :: x7 :: x8 :: x9 :: x10 :: x11 :: x12 :: x13 :: x14 :: x15 :: x16 :: x17 :: x18 :: x19 :: x20 :: x21 :: x22 :: x23 :: x24 :: x25 :: x26 :: x27 :: x28 :: x29 :: x30 :: x31 :: x32 :: x33 :: x34 :: x35 :: x36 :: x37 :: x38 :: x39 :: a :: l:=.tail _ mM39
theorem mM41 {X:Type _} {a x0 x1 x2 x3 x4 x5 x6 x7 x8 x9 x10 x11 x12 x13 x14 x15 x16 x17 x18 x19 x20 x21 x22 x23 x24 x25 x26 x27 x28 x29 x30 x31 x32 x33 x34 x35 x36 x37 x38 x39 x40:X} {l:List X}:a ∈ x0 :: x1 :: x2 :: x3 :: x4 :: x5 :: x6 :: x7 :: x8 :: x9 :: x10 :: x11 :: x12 :: x13 :: x14 :: x15 :: x16 :: x17 :: x18 :: x19 :: x20 :: x21 :: x22 :: x23 :: x24 :: x25 :: x26 :: x27 :: x28 :: x29 :: x30 :: x31 :: x32 :: x33 :: x34 :: x35 :: x36 :: x37 :: x38 :: x39 :: x40 :: a :: l:=.tail _ mM40
theorem mM42 {X:Type _} {a x0 x1 x2 x3 x4 x5 x6 x7 x8 x9 x10 x11 x12 x13 x14 x15 x16 x17 x18 x19 x20 x21 x22 x23 x24 x25 x26 x27 x28 x29 x30 x31 x32 x33 x34 x35 x36 x37 x38 x39 x40 x41:X} {l:List X}:a ∈ x0 :: x1 :: x2 :: x3 :: x4 :: x5 :: x6 :: x7 :: x8 :: x9 :: x10 :: x11 :: x12 :: x13 :: x14 :: x15 :: x16 :: x17 :: x18 :: x19 :: x20 :: x21 :: x22 :: x23 :: x24 :: x25 :: x26 :: x27 :: x28 :: x29 :: x30 :: x31 :: x32 :: x33 :: x34 :: x35 :: x36 :: x37 :: x38 :: x39 :: x40 :: x41 :: a :: l:=.tail _ mM41
theorem mM43 {X:Type _} {a x0 x1 x2 x3 x4 x5 x6 x7 x8 x9 x10 x11 x12 x13 x14 x15 x16 x17 x18 x19 x20 x21 x22 x23 x24 x25 x26 x27 x28 x29 x30 x31 x32 x33 x34 x35 x36 x37 x38 x39 x40 x41 x42:X} {l:List X}:a ∈ x0 :: x1 :: x2 :: x3 :: x4 :: x5 :: x6 :: x7 :: x8 :: x9 :: x10 :: x11 :: x12 :: x13 :: x14 :: x15 :: x16 :: x17 :: x18 :: x19 :: x20 :: x21 :: x22 :: x23 :: x24 :: x25 :: x26 :: x27 :: x28 :: x29 :: x30 :: x31 :: x32 :: x33 :: x34 :: x35 :: x36 :: x37 :: x38 :: x39 :: x40 :: x41 :: x42 :: a :: l:=.tail _ mM42
theorem mM44 {X:Type _} {a x0 x1 x2 x3 x4 x5 x6 x7 x8 x9 x10 x11 x12 x13 x14 x15 x16 x17 x18 x19 x20 x21 x22 x23 x24 x25 x26 x27 x28 x29 x30 x31 x32 x33 x34 x35 x36 x37 x38 x39 x40 x41 x42 x43:X} {l:List X}:a ∈ x0 :: x1 :: x2 :: x3 :: x4 :: x5 :: x6 :: x7 :: x8 :: x9 :: x10 :: x11 :: x12 :: x13 :: x14 :: x15 :: x16 :: x17 :: x18 :: x19 :: x20 :: x21 :: x22 :: x23 :: x24 :: x25 :: x26 :: x27 :: x28 :: x29 :: x30 :: x31 :: x32 :: x33 :: x34 :: x35 :: x36 :: x37 :: x38 :: x39 :: x40 :: x41 :: x42 :: x43 :: a :: l:=.tail _ mM43
theorem mM45 {X:Type _} {a x0 x1 x2 x3 x4 x5 x6 x7 x8 x9 x10 x11 x12 x13 x14 x15 x16 x17 x18 x19 x20 x21 x22 x23 x24 x25 x26 x27 x28 x29 x30 x31 x32 x33 x34 x35 x36 x37 x38 x39 x40 x41 x42 x43 x44:X} {l:List X}:a ∈ x0 :: x1 :: x2 :: x3 :: x4 :: x5 :: x6 :: x7 :: x8 :: x9 :: x10 :: x11 :: x12 :: x13 :: x14 :: x15 :: x16 :: x17 :: x18 :: x19 :: x20 :: x21 :: x22 :: x23 :: x24 :: x25 :: x26 :: x27 :: x28 :: x29 :: x30 :: x31 :: x32 :: x33 :: x34 :: x35 :: x36 :: x37 :: x38 :: x39 :: x40 :: x41 :: x42 :: x43 :: x44 :: a :: l:=.tail _ mM44
theorem bAl {w:World} {o:Obj}:Below w.heap.size w (w.alloc o):=(Below.refl _ _).alloc (Nat.le_refl _) o
theorem ck {w w':World} {p:Addr} {v:Value} (h:Below w.heap.size w w') (t:w.cell? p = some v):w'.cell? p = some v:=(h.cell (World.block_lt_of_cell? _ _ t)).trans t
def Cells (w:World) (b off:Nat) (xs:List Nat):Prop :=
 ∀ i,i < xs.length → w.cell? ⟨b,off + i,none⟩ = some (.int .u32 (xs.getD i 0:Nat))

structure Sl (w:World) (a:Option Addr) (n c:Nat) (xs:List Nat):Prop where
 len:xs.length = n
 le:n ≤ c
 cap:c ≤ maxLen
 cells:xs = [] ∨ ∃ b off,a = some ⟨b,off,none⟩ ∧ Cells w b off xs

def MayL (xs:List Nat):Bool:=decide (xs.length ≤ 2048) && (xs.isEmpty || xs.getD (xs.length - 1) 0 != 0)

theorem MayL.norm {xs:List Nat} (h:MayL xs = true):Norm xs:=by
 simp only [MayL,Bool.and_eq_true,Bool.or_eq_true,decide_eq_true_eq,List.isEmpty_iff,bne_iff_ne] at h
 exact h.2
theorem MayL.len {xs:List Nat} (h:MayL xs = true):xs.length ≤ 2048:=by
 simp only [MayL,Bool.and_eq_true,decide_eq_true_eq] at h
 exact h.1
theorem MayL.mk {xs:List Nat} (h:Norm xs) (k:xs.length ≤ 2048):MayL xs = true:=by
 simp only [MayL,Bool.and_eq_true,Bool.or_eq_true,decide_eq_true_eq,List.isEmpty_iff,bne_iff_ne]
 exact ⟨k,h⟩
/-! ### rows that are written -/
def Fn (w:World) (b off n:Nat) (f:Nat → Nat):Prop :=
 ∀ i,i < n → w.cell? ⟨b,off + i,none⟩ = some (.int .u32 (f i:Nat)) ∧ w.frozen? ⟨b,off + i,none⟩ = false

theorem Fn.set {w:World} {b off n:Nat} {f:Nat → Nat} (h:Fn w b off n f) (k v:Nat) (hk:k < n) :
  Fn (w.setCell ⟨b,off + k,none⟩ (.int .u32 (v:Nat))) b off n (fun i => if i = k then v else f i):=by
 intro i hi
 refine ⟨?_,by rw [World.frozen?_setCell]; exact (h i hi).2⟩
 by_cases e:i = k
 ·subst e
  rw [World.cell?_setCell_same _ _ _ (h i hi).1]
  simp
 ·rw [World.cell?_setCell_other _ _ _ _ (by intro h; injection h with h1 h2; omega)]
  simp [e,(h i hi).1]

theorem Fn.cells {w:World} {b off n:Nat} {f:Nat → Nat} {xs:List Nat} (h:Fn w b off n f) (hl:xs.length ≤ n) (he:∀ i,i < xs.length → f i = xs.getD i 0):Cells w b off xs:=by
 intro i hi
 rw [(h i (by omega)).1,he i hi]

theorem Cells.below {w w':World} {b off:Nat} {xs:List Nat} (h:Cells w b off xs) (hb:Below w.heap.size w w'):Cells w' b off xs:=by
 intro i hi
 have:=h i hi
 rw [hb.cell (World.block_lt_of_cell? _ _ this)]
 exact this

theorem Fn.made (w:World) (n:Nat) (e:TypeId):Fn (w.alloc (.cells (madeCells #[.int .u32 0] n) e)) w.heap.size 0 n (fun _ => 0):=by
 intro i hi
 refine ⟨?_,by simp⟩
 simp [madeCells,hi,Nat.mod_one]

theorem Sl.below {w w':World} {a:Option Addr} {n c:Nat} {xs:List Nat} (h:Sl w a n c xs) (hb:Below w.heap.size w w'):Sl w' a n c xs :=
 ⟨h.len,h.le,h.cap,h.cells.imp id (fun ⟨b,off,e,k⟩ => ⟨b,off,e,k.below hb⟩)⟩

theorem bel_drewN {B:Nat} {a w:World} (h:Below B a w) (k:Nat):Below B a (w.drewN k):=⟨h.os,h.tape,h.output,h.size,h.block⟩

theorem Sl.drewN {w:World} {a:Option Addr} {n c:Nat} {xs:List Nat} (h:Sl w a n c xs) (k:Nat):Sl (w.drewN k) a n c xs :=
 h.below (bel_drewN (Below.refl _ _) k)

theorem cell_of_block {w:World} {b:Nat} {cur:Array Value} {e:TypeId} {fr:Nat × Nat} (h:w.heap[b]? = some (.cells cur e fr)) (i:Nat):w.cell? ⟨b,i,none⟩ = cur[i]?:=by
 simp [World.cell?,h]

theorem frozen_of_block {w:World} {b:Nat} {cur:Array Value} {e:TypeId} (h:w.heap[b]? = some (.cells cur e)) (i:Nat):w.frozen? ⟨b,i,none⟩ = false:=by
 simp [World.frozen?,h]

theorem set_block {w:World} {b:Nat} {cur:Array Value} {e:TypeId} {fr:Nat × Nat} (h:w.heap[b]? = some (.cells cur e fr)) (i:Nat) (v:Value):(w.setCell ⟨b,i,none⟩ v).heap[b]? = some (.cells (cur.setIfInBounds i v) e fr):=by
 simp only [World.setCell,Array.getElem?_modify,h]
 simp

theorem set_block_other {w:World} {b k i:Nat} (hk:k ≠ b) (v:Value):(w.setCell ⟨b,i,none⟩ v).heap[k]? = w.heap[k]? :=
 Below.heap_setCell w _ v k hk

theorem alloc_block (w:World) (o:Obj):(w.alloc o).heap[w.heap.size]? = some o:=by
 show (w.heap.push o)[w.heap.size]? = some o
 simp
structure Chg (S:Nat → Prop) (w w':World):Prop where
 os:w'.os = w.os
 tape:w'.tape = w.tape
 output:w'.output = w.output
 size:w.heap.size ≤ w'.heap.size
 block:∀ k,k < w.heap.size → ¬ S k → w'.heap[k]? = w.heap[k]?

theorem Chg.refl (S:Nat → Prop) (w:World):Chg S w w:=⟨rfl,rfl,rfl,Nat.le_refl _,fun _ _ _ => rfl⟩
theorem Chg.trans {S:Nat → Prop} {a b c:World} (h:Chg S a b) (k:Chg S b c):Chg S a c :=
 ⟨k.os.trans h.os,k.tape.trans h.tape,k.output.trans h.output,Nat.le_trans h.size k.size,fun i hi hs => (k.block i (Nat.lt_of_lt_of_le hi h.size) hs).trans (h.block i hi hs)⟩
theorem Chg.mono {S T:Nat → Prop} {w w':World} (h:Chg S w w') (hs:∀ k,k < w.heap.size → S k → T k):Chg T w w' :=
 ⟨h.os,h.tape,h.output,h.size,fun k hk hn => h.block k hk (fun hh => hn (hs k hk hh))⟩
theorem Chg.of_below {S:Nat → Prop} {w w':World} (h:Below w.heap.size w w'):Chg S w w' :=
 ⟨h.os,h.tape,h.output,h.size,fun k hk _ => h.block k hk⟩
theorem Chg.of_alloc {S:Nat → Prop} (w:World) (o:Obj):Chg S w (w.alloc o):=.of_below ((Below.refl _ _).alloc (Nat.le_refl _) o)
theorem Chg.of_set {S:Nat → Prop} (w:World) (b i:Nat) (v:Value) (hb:S b):Chg S w (w.setCell ⟨b,i,none⟩ v) :=
 ⟨rfl,rfl,rfl,by simp,fun k hk hs => set_block_other (fun e => by subst e; exact hs hb) v⟩
theorem Chg.of_grown {S:Nat → Prop} {w w':World} {row:Option Nat} (h:w.grownBy w' row) (hr:∀ k,row = some k → S k):Chg S w w' :=
 ⟨h.os,h.tape,h.output,h.size,fun k hk hs => h.block k hk (fun e => hs (hr k e.symm))⟩
theorem Chg.of_drew {S:Nat → Prop} (w:World):Chg S w w.drew:=⟨rfl,rfl,rfl,Nat.le_refl _,fun _ _ _ => rfl⟩
theorem Chg.below {S:Nat → Prop} {w w':World} {B:Nat} (h:Chg S w w') (hB:B ≤ w.heap.size) (hs:∀ k,k < B → ¬ S k):Below B w w' :=
 ⟨h.os,h.tape,h.output,h.size,fun k hk => h.block k (by omega) (hs k hk)⟩

theorem Chg.cell {S:Nat → Prop} {w w':World} (h:Chg S w w') {b i:Nat} {v:Value} (hs:¬ S b) (hc:w.cell? ⟨b,i,none⟩ = some v):w'.cell? ⟨b,i,none⟩ = some v:=by
 have hlt:=World.block_lt_of_cell? _ _ hc
 rw [World.cell?_of_block (w:=w) (h.block b hlt hs)]; exact hc

theorem Cells.chg {S:Nat → Prop} {w w':World} {b off:Nat} {xs:List Nat} (h:Cells w b off xs) (k:Chg S w w') (hs:¬ S b):Cells w' b off xs :=
 fun i hi => k.cell hs (h i hi)

theorem Sl.chg {S:Nat → Prop} {w w':World} {a:Option Addr} {n c:Nat} {xs:List Nat} (h:Sl w a n c xs) (k:Chg S w w') (hs:∀ x,a = some x → xs ≠ [] → ¬ S x.block):Sl w' a n c xs :=
 ⟨h.len,h.le,h.cap,h.cells.elim .inl (fun ⟨b,off,e,kk⟩ => by
  by_cases hx:xs = []
  ·exact .inl hx
  ·exact .inr ⟨b,off,e,kk.chg k (hs _ e hx)⟩)⟩

theorem Sl.block_lt {w:World} {a:Option Addr} {n c:Nat} {xs:List Nat} (h:Sl w a n c xs) (hx:xs ≠ []):∀ x,a = some x → x.block < w.heap.size:=by
 intro x hx'
 rcases h.cells with e | ⟨b,off,e,kk⟩
 ·exact absurd e hx
 ·rw [e] at hx'
  cases hx'
  have:=kk 0 (by cases xs with | nil => exact absurd rfl hx | cons => simp)
  exact World.block_lt_of_cell? _ _ this

theorem ownsRow_chg {S:Nat → Prop} {w w':World} {base:Nat} {e:TypeId} {size:Nat} {v:Value} {n:Nat} {xs:List Value} (h:w.ownsRow base e size v n xs) (k:Chg S w w') (hs:∀ k,v.ownBlock = some k → ¬ S k):w'.ownsRow base e size v n xs:=by
 refine ⟨h.1,h.2.imp id ?_⟩
 rintro ⟨g,cap,cur,rfl,hb,hg,h1,h2,h3,h4⟩
 refine ⟨g,cap,cur,rfl,hb,?_,h1,h2,h3,h4⟩
 have hlt:g < w.heap.size:=by
  rcases Nat.lt_or_ge g w.heap.size with hlt | hge
  ·exact hlt
  ·rw [Array.getElem?_eq_none hge] at hg; cases hg
 rw [k.block g hlt (hs g rfl)]; exact hg

structure Ent where
 b:Nat
 c:Nat
 b0:Nat
 c0:Nat
 xs:List Nat

def marks:List Nat:=[42405,23130,42330]
def Ent.v (e:Ent):Value:=.slice (some ⟨e.b,0,none⟩) (e.xs.length + 3) e.c
def Ent.v0 (e:Ent):Value:=.slice (some ⟨e.b0,0,none⟩) (e.xs.length + 3) e.c0

def Own (B:Nat) (v0 v1:Value) (k:Nat):Prop:=k = B ∨ v0.ownBlock = some k ∨ v1.ownBlock = some k

structure EntOk (w:World) (B:Nat) (v0 v1:Value) (e:Ent):Prop where
 sl:Sl w (some ⟨e.b,0,none⟩) (e.xs.length + 3) e.c (e.xs ++ marks)
 sl0:Sl w (some ⟨e.b0,0,none⟩) (e.xs.length + 3) e.c0 (e.xs ++ marks)
 s:¬ Own B v0 v1 e.b
 s0:¬ Own B v0 v1 e.b0

structure Giv (w:World) (B:Nat) (v0 v1:Value) (es:List Ent):Prop where
 blk:∃ cur,w.heap[B]? = some (.cells cur 65) ∧ cur.size = 20 ∧ cur[0]? = some v0 ∧ cur[1]? = some v1 ∧ ∀ i,2 ≤ i → i < 20 → cur[i]? = some (.slice none 0 0)
 own0:w.ownsRow (B + 1) 101 1 v0 es.length (es.map Ent.v)
 own1:w.ownsRow (B + 1) 101 1 v1 es.length (es.map Ent.v0)
 apart:∀ k,v0.ownBlock = some k → v1.ownBlock ≠ some k
 ents:∀ e ∈ es,EntOk w B v0 v1 e

theorem Giv.chg {S:Nat → Prop} {w w':World} {B:Nat} {v0 v1:Value} {es:List Ent} (h:Giv w B v0 v1 es) (k:Chg S w w') (hB:¬ S B) (h0:∀ k,v0.ownBlock = some k → ¬ S k) (h1:∀ k,v1.ownBlock = some k → ¬ S k)
  (hes:∀ e ∈ es,¬ S e.b ∧ ¬ S e.b0):Giv w' B v0 v1 es:=by
 obtain ⟨cur,hc,hr⟩:=h.blk
 have hlt:B < w.heap.size:=by
  rcases Nat.lt_or_ge B w.heap.size with hlt | hge
  ·exact hlt
  ·rw [Array.getElem?_eq_none hge] at hc; cases hc
 refine ⟨⟨cur,by rw [k.block B hlt hB]; exact hc,hr⟩,ownsRow_chg h.own0 k h0,ownsRow_chg h.own1 k h1,h.apart,fun e he => ?_⟩
 have:=h.ents e he
 exact ⟨this.sl.chg k (fun x hx _ => by cases hx; exact (hes e he).1),this.sl0.chg k (fun x hx _ => by cases hx; exact (hes e he).2),this.s,this.s0⟩

theorem Giv.below {w w':World} {B:Nat} {v0 v1:Value} {es:List Ent} (h:Giv w B v0 v1 es) (k:Below w.heap.size w w'):Giv w' B v0 v1 es :=
 h.chg (S:=fun _ => False) (.of_below k) id (fun _ _ => id) (fun _ _ => id) (fun _ _ => ⟨id,id⟩)

theorem Giv.cell0 {w:World} {B:Nat} {v0 v1:Value} {es:List Ent} (h:Giv w B v0 v1 es):w.cell? ⟨B,0,none⟩ = some v0 ∧ w.cell? ⟨B,1,none⟩ = some v1 ∧ w.frozen? ⟨B,0,none⟩ = false ∧ w.frozen? ⟨B,1,none⟩ = false ∧ B < w.heap.size:=by
 obtain ⟨cur,hc,hr⟩:=h.blk
 have e0:w.cell? ⟨B,0,none⟩ = some v0:=by rw [cell_of_block hc]; exact hr.2.1
 exact ⟨e0,by rw [cell_of_block hc]; exact hr.2.2.1,frozen_of_block hc _,frozen_of_block hc _,World.block_lt_of_cell? _ _ e0⟩

theorem own_ge {w:World} {base:Nat} {e:TypeId} {size:Nat} {v:Value} {n:Nat} {xs:List Value} (h:w.ownsRow base e size v n xs):∀ k,v.ownBlock = some k → base ≤ k ∧ k < w.heap.size:=by
 intro k hk
 rcases h.2 with ⟨h2,h3⟩ | ⟨g',cap,cur,h3,h4,h5,h6,h7,h8,h9⟩
 ·subst h2; cases hk
 ·subst h3
  simp [Value.ownBlock] at hk
  subst hk
  refine ⟨h4,?_⟩
  rcases Nat.lt_or_ge g' w.heap.size with hlt | hge
  ·exact hlt
  ·rw [Array.getElem?_eq_none hge] at h5; cases h5

theorem block_lt {w:World} {b:Nat} {o:Obj} (h:w.heap[b]? = some o):b < w.heap.size:=by
 rcases Nat.lt_or_ge b w.heap.size with hlt | hge
 ·exact hlt
 ·rw [Array.getElem?_eq_none hge] at h; cases h
def CellsI (w:World) (b off:Nat) (xs:List Int):Prop :=
 ∀ i,i < xs.length → w.cell? ⟨b,off + i,none⟩ = some (.int .i64 (xs.getD i 0))
structure SlI (w:World) (a:Option Addr) (n c:Nat) (xs:List Int):Prop where
 len:xs.length = n
 le:n ≤ c
 cap:c ≤ maxLen
 cells:xs = [] ∨ ∃ b off,a = some ⟨b,off,none⟩ ∧ CellsI w b off xs
theorem SlI.below {w w':World} {a:Option Addr} {n c:Nat} {xs:List Int} (h:SlI w a n c xs) (hb:Below w.heap.size w w'):SlI w' a n c xs :=
 ⟨h.len,h.le,h.cap,h.cells.imp id (fun ⟨b,off,e,k⟩ => ⟨b,off,e,fun i hi => (Chg.of_below hb).cell (S:=fun _ => False) (fun x => x) (k i hi)⟩)⟩
theorem SlI.at {w:World} {a:Option Addr} {n c:Nat} {xs:List Int} (h:SlI w a n c xs) (hn:0 < n):∃ b off,a = some ⟨b,off,none⟩ ∧ ∀ i,i < n → w.cell? ⟨b,off + i,none⟩ = some (.int .i64 (xs.getD i 0)):=by
 rcases h.cells with e | ⟨b,off,e,k⟩
 ·have:=h.len; rw [e] at this; simp at this; omega
 ·exact ⟨b,off,e,fun i hi => k i (by rw [h.len]; exact hi)⟩
theorem SlI.nil (w:World):SlI w none 0 0 []:=⟨rfl,Nat.le_refl _,Nat.zero_le _,.inl rfl⟩
structure RowP (width:Int) (cols:List Int) (x y:Nat):Prop where
 rng:∀ i,x ≤ i → i < y → 0 ≤ cols.getD i 0 ∧ cols.getD i 0 < width
 up:∀ i,x < i → i < y → cols.getD (i - 1) 0 < cols.getD i 0
structure HeadP (rows width:Int) (st cols:List Int):Prop where
 fit:0 ≤ rows ∧ rows ≤ 128 ∧ 0 ≤ width ∧ width ≤ 128
 len:(st.length:Int) = rows + 1
 first:st.getD 0 0 = 0
 last:st.getD rows.toNat 0 = (cols.length:Int)
def SortP (st:List Int) (x:Nat):Prop:=∀ i,x ≤ i → i + 1 < st.length → st.getD i 0 ≤ st.getD (i + 1) 0
structure MayP (rows width:Int) (st cols:List Int):Prop where
 head:HeadP rows width st cols
 sort:SortP st 0
 row:∀ r,r + 1 < st.length → RowP width cols (st.getD r 0).toNat (st.getD (r + 1) 0).toNat
theorem SortP.mono {st:List Int} (h:SortP st 0):∀ d i,i + d < st.length → st.getD i 0 ≤ st.getD (i + d) 0
 | 0,i,_ => Int.le_refl _
 | d + 1,i,hi => Int.le_trans (SortP.mono h d i (by omega)) (h (i + d) (Nat.zero_le _) (by omega))
theorem HeadP.rng {rows width:Int} {st cols:List Int} (h:HeadP rows width st cols) (hs:SortP st 0) {i:Nat} (hi:i < st.length):0 ≤ st.getD i 0 ∧ st.getD i 0 ≤ (cols.length:Int):=by
 have h1:=hs.mono i 0 (by omega)
 rw [Nat.zero_add,h.first] at h1
 have hl:=h.len
 have hf:=h.fit
 have h2:=hs.mono (rows.toNat - i) i (by omega)
 rw [show i + (rows.toNat - i) = rows.toNat by omega,h.last] at h2
 exact ⟨h1,h2⟩
def InP (size:Int) (xs:List Int) (n:Nat):Prop:=∀ i,i < n → 0 ≤ xs.getD i 0 ∧ xs.getD i 0 < size
def BIs (P:Prop) (w w':World) (e:Ending):Prop:=(∃ b:Bool,e = .returned (.bool b) ∧ (b = true ↔ P)) ∧ Below w.heap.size w w'
def BIq (P:Prop) (w w':World) (e:Ending):Prop:=(∃ b:Bool,e = .returned (.bool b) ∧ (b = true ↔ P)) ∧ w' = w
def Dr (w w':World):Prop:=∃ m,w' = w.drewN m
theorem Dr.refl (w:World):Dr w w:=⟨0,rfl⟩
theorem Dr.drew {w w':World} (h:Dr w w'):Dr w w'.drew:=by obtain ⟨m,rfl⟩:=h; exact ⟨m + 1,by simp⟩
theorem Dr.n {w w':World} (h:Dr w w') (k:Nat):Dr w (w'.drewN k):=by obtain ⟨m,rfl⟩:=h; exact ⟨m + k,by rw [World.drewN_drewN]⟩
theorem Dr.trans {w w' w'':World} (h:Dr w w') (k:Dr w' w''):Dr w w'':=by obtain ⟨m,rfl⟩:=k; exact h.n m
theorem Dr.below {w w':World} (h:Dr w w'):Below w.heap.size w w':=by obtain ⟨m,rfl⟩:=h; exact bel_drewN (Below.refl _ _) m
def QI (ok:Bool) (w w':World) (e:Ending):Prop:=e = .returned (.bool ok) ∧ Dr w w'
theorem QI.yes {P:Prop} {ok:Bool} (ho:ok = true ↔ P) {w w':World} (h:P) (k:Dr w w'):QI ok w w' (.returned (.bool true)):=⟨by rw [ho.2 h],k⟩
theorem QI.no {P:Prop} {ok:Bool} (ho:ok = true ↔ P) {w w':World} (h:¬ P) (k:Dr w w'):QI ok w w' (.returned (.bool false)):=⟨by cases ok; rfl; exact absurd (ho.1 rfl) h,k⟩
theorem truth (P:Prop):∃ ok:Bool,ok = true ↔ P:=by by_cases h:P; exact ⟨true,by simp [h]⟩; exact ⟨false,by simp [h]⟩
theorem BIs.yes {P:Prop} {w w':World} (h:P) (k:Below w.heap.size w w'):BIs P w w' (.returned (.bool true)):=⟨⟨true,rfl,by simp [h]⟩,k⟩
theorem BIs.no {P:Prop} {w w':World} (h:¬ P) (k:Below w.heap.size w w'):BIs P w w' (.returned (.bool false)):=⟨⟨false,rfl,by simp [h]⟩,k⟩
set_option maxRecDepth 20000 in
set_option maxHeartbeats 8000000 in
theorem fits_any (rows width:Int) (w:World):Calls Tryz.prog 67 #[.int .i64 rows,.int .i64 width] w fun e w' => BIq (0 ≤ rows ∧ rows ≤ 128 ∧ 0 ≤ width ∧ width ≤ 128) w w' e:=by
 by_cases h1:0 ≤ rows
 ·by_cases h2:rows ≤ 128
  ·by_cases h3:0 ≤ width
   ·by_cases h4:width ≤ 128
    ·go_enter Tryz.func67,Tryz.ntmps67
     go_wp2_with fail
     go_ret
     exact ⟨⟨true,rfl,by simp [h1,h2,h3,h4]⟩,rfl⟩
    ·go_enter Tryz.func67,Tryz.ntmps67
     go_wp2_with fail
     go_ret
     exact ⟨⟨false,rfl,by simp; omega⟩,rfl⟩
   ·go_enter Tryz.func67,Tryz.ntmps67
    go_wp2_with fail
    go_ret
    exact ⟨⟨false,rfl,by simp; omega⟩,rfl⟩
  ·go_enter Tryz.func67,Tryz.ntmps67
   go_wp2_with fail
   go_ret
   exact ⟨⟨false,rfl,by simp; omega⟩,rfl⟩
 ·go_enter Tryz.func67,Tryz.ntmps67
  go_wp2_with fail
  go_ret
  exact ⟨⟨false,rfl,by simp; omega⟩,rfl⟩
set_option maxRecDepth 20000 in
set_option maxHeartbeats 8000000 in
theorem sized_any (rows width:Int) (w:World):Calls Tryz.prog 75 #[.int .i64 rows,.int .i64 width] w fun e w' => BIq (0 ≤ rows ∧ rows ≤ 128 ∧ 0 ≤ width ∧ width ≤ 128) w w' e:=by
 by_cases h1:0 ≤ rows
 ·by_cases h2:rows ≤ 128
  ·by_cases h3:0 ≤ width
   ·by_cases h4:width ≤ 128
    ·go_enter Tryz.func75,Tryz.ntmps75
     go_wp2_with fail
     go_ret
     exact ⟨⟨true,rfl,by simp [h1,h2,h3,h4]⟩,rfl⟩
    ·go_enter Tryz.func75,Tryz.ntmps75
     go_wp2_with fail
     go_ret
     exact ⟨⟨false,rfl,by simp; omega⟩,rfl⟩
   ·go_enter Tryz.func75,Tryz.ntmps75
    go_wp2_with fail
    go_ret
    exact ⟨⟨false,rfl,by simp; omega⟩,rfl⟩
  ·go_enter Tryz.func75,Tryz.ntmps75
   go_wp2_with fail
   go_ret
   exact ⟨⟨false,rfl,by simp; omega⟩,rfl⟩
 ·go_enter Tryz.func75,Tryz.ntmps75
  go_wp2_with fail
  go_ret
  exact ⟨⟨false,rfl,by simp; omega⟩,rfl⟩
set_option maxRecDepth 20000 in
set_option maxHeartbeats 8000000 in
theorem within_any (a:Option Addr) (n c:Nat) (xs:List Int) (size:Int) (w:World) (h:SlI w a n c xs) (hn:n ≤ 140737488355328) (ok:Bool) (hok:ok = true ↔ InP size xs n):Calls Tryz.prog 109 #[.slice a n c,.int .i64 size] w fun e w' => QI ok w w' e:=by
 have HS:=Hj h
 have HOK:=Hj hok
 clear h hok
 go_enter Tryz.func109,Tryz.ntmps109
 go_wp2_with fail
 go_loopw [9,6] (fun kv _ wr => ∃ k:Nat,k ≤ n ∧ kv = .int .i64 (k:Nat) ∧ Hid (∀ i,i < k → 0 ≤ xs.getD i 0 ∧ xs.getD i 0 < size) ∧ Hid (Dr w wr)) (fun kv _ _ => n - (intOf kv).toNat)
 case atStart => exact ⟨0,Nat.zero_le _,rfl,fun i hi => absurd hi (Nat.not_lt_zero _),Dr.refl _⟩
 case round =>
  obtain ⟨k,hk,rfl,HK,HW⟩:=hrel
  by_cases hlt:k < n
  ·have hlt':(k:Int) < (n:Int):=by omega
   obtain ⟨b,off,rfl,hc⟩:=((Uh HS).below (Uh HW).below).at (by omega)
   have hx:=hc k hlt
   obtain ⟨x,hxx⟩:∃ x,xs.getD k 0 = x:=⟨_,rfl⟩
   rw [hxx] at hx
   have HX:=Hj hxx
   clear hc hxx
   by_cases h0:x < 0
   ·go_wp2_with fail
    go_ret
    exact QI.no (Uh HOK) (fun z => by unfold InP at z; have:=(z k hlt).1; have h9:=Uh HX; rw [h9] at this; omega) (Uh HW)
   ·by_cases h1:size ≤ x
    ·go_wp2_with fail
     go_ret
     exact QI.no (Uh HOK) (fun z => by unfold InP at z; have:=(z k hlt).2; have h9:=Uh HX; rw [h9] at this; omega) (Uh HW)
    ·go_wp2_with fail
     refine ⟨⟨k + 1,by omega,by (first | rfl | go_num),Hj fun i hi => ?_,HW⟩,by simp [intOf]; omega⟩
     rcases Nat.lt_or_eq_of_le (Nat.le_of_lt_succ hi) with e | e
     ·exact Uh HK i e
     ·rw [e,Uh HX]; omega
  ·have hkn:k = n:=by omega
   subst hkn
   have hlt':¬ (k:Int) < (k:Int):=by omega
   go_wp2_with fail
   go_ret
   exact QI.yes (Uh HOK) (Uh HK) (Uh HW)
set_option maxRecDepth 20000 in
set_option maxHeartbeats 8000000 in
theorem isRow_any (a:Option Addr) (n c:Nat) (xs:List Int) (width:Int) (w:World) (h:SlI w a n c xs) (hn:n ≤ 140737488355328) (ok:Bool) (hok:ok = true ↔ RowP width xs 0 n):Calls Tryz.prog 69 #[.slice a n c,.int .i64 width] w fun e w' => QI ok w w' e:=by
 have HS:=Hj h
 have HOK:=Hj hok
 obtain ⟨ok2,hok2⟩:=truth (InP width xs n)
 have HOK2:=Hj hok2
 have KW:=Hj (fun (W:World) (k:Dr w W) => within_any a n c xs width W (h.below k.below) hn ok2 hok2)
 clear hok2
 clear h hok
 go_enter Tryz.func69,Tryz.ntmps69
 go_wp2_with fail
 go_loopw [5] (fun kv wr => ∃ k:Nat,1 ≤ k ∧ (k ≤ n ∨ k = 1) ∧ kv = .int .i64 (k:Nat) ∧ Hid (∀ i,0 < i → i < k → xs.getD (i - 1) 0 < xs.getD i 0) ∧ Hid (Dr w wr)) (fun kv _ => n - (intOf kv).toNat)
 case atStart => exact ⟨1,Nat.le_refl _,.inr rfl,rfl,fun i hi hi2 => by omega,Dr.refl _⟩
 case round =>
  obtain ⟨k,hk1,hk,rfl,HK,HW⟩:=hrel
  by_cases hlt:k < n
  ·have hlt':(k:Int) < (n:Int):=by omega
   obtain ⟨b,off,rfl,hc⟩:=((Uh HS).below (Uh HW).below).at (by omega)
   obtain ⟨j,hj⟩:∃ j,k = j + 1:=⟨k - 1,by omega⟩
   subst hj
   have hx:=hc (j + 1) hlt
   have hy:=hc j (by omega)
   obtain ⟨x,hxx⟩:∃ x,xs.getD (j + 1) 0 = x:=⟨_,rfl⟩
   obtain ⟨y,hyy⟩:∃ y,xs.getD j 0 = y:=⟨_,rfl⟩
   rw [hxx] at hx
   rw [hyy] at hy
   have HX:=Hj (And.intro hxx hyy)
   clear hc hxx hyy hk
   have hlt2:(j:Int) + 1 < (n:Int):=by omega
   clear hlt'
   by_cases h0:x ≤ y
   ·go_wp2_with fail
    go_region
    all_goals go_wp2_with fail
    all_goals go_ret
    all_goals exact QI.no (Uh HOK) (fun z => by have h8:=z.up (j + 1) (by omega) hlt; have h9:=Uh HX; rw [h9.1,Nat.add_sub_cancel,h9.2] at h8; omega) (Uh HW).drew
   ·go_wp2_with fail
    go_region
    all_goals go_wp2_with fail
    all_goals refine ⟨⟨j + 1 + 1,by omega,by omega,by (first | rfl | go_num),Hj fun i hi hi2 => ?_,Hj (Uh HW).drew⟩,by simp [intOf]; omega⟩
    all_goals rcases Nat.lt_or_eq_of_le (Nat.le_of_lt_succ hi2) with e | e
    all_goals first | exact Uh HK i hi e | (have h9:=Uh HX; subst e; rw [h9.1,Nat.add_sub_cancel,h9.2]; omega)
  ·have hlt':¬ (k:Int) < (n:Int):=by omega
   go_wp2_with fail
   refine (Uh KW _ (Uh HW)).mono ?_
   rintro _ w3 ⟨rfl,d3⟩
   have HD:=Hj ((Uh HW).trans d3)
   clear d3
   go_wp2_with fail
   go_ret
   have hK:=Uh HK
   refine ⟨?_,Uh HD⟩
   have:ok2 = ok:=by
    have h1:=Uh HOK
    have h2:=Uh HOK2
    have h3:InP width xs n ↔ RowP width xs 0 n:=⟨fun z => ⟨fun i _ hi => z i hi,fun i h1 h2 => hK i h1 (by omega)⟩,fun z i hi => z.rng i (Nat.zero_le _) hi⟩
    have h4:=(h2.trans h3).trans h1.symm
    cases ok2 <;> cases ok <;> simp_all
   show Ending.returned (Value.bool ok2) = _
   rw [this]
end Go.Proofs.YtgjokididdffhaaGreat
