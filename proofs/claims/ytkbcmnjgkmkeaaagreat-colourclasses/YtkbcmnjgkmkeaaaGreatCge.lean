/- Chg -/
import Derived.Test.YtkbcmnjgkmkeaaaGreatChf
import Derived.Test.YtkbcmnjgkmkeaaaGreatCgc
namespace Go.Proofs.YtkbcmnjgkmkeaaaGreat
open Go.RowKit Go.Deep
set_option linter.unusedVariables false
def stC:List Int:=[0,2,4,6,8]
def colsC:List Int:=[1,3,0,2,1,3,0,2]
def ordC:List Int:=[0,1,2,3]
theorem ordC_ord:OrdTo ordC 4 4:=by
 refine ⟨fun j hj => ?_,fun i j hij hj => ?_⟩
 ·have:j = 0 ∨ j = 1 ∨ j = 2 ∨ j = 3:=by omega
  rcases this with rfl | rfl | rfl | rfl <;> decide
 ·have h1:j = 1 ∨ j = 2 ∨ j = 3:=by omega
  have h2:i = 0 ∨ i = 1 ∨ i = 2:=by omega
  rcases h1 with rfl | rfl | rfl <;> rcases h2 with rfl | rfl | rfl <;> first | decide | omega
theorem mayC:MayP (4:Nat) (4:Nat) stC colsC:=by
 refine ⟨⟨by decide,by decide,by decide,by decide⟩,fun i _ hi => ?_,fun r hr => ?_⟩
 ·have h:∀ i,i < 4 → stC.getD i 0 ≤ stC.getD (i + 1) 0:=by decide
  exact h i (by simp [stC] at hi; omega)
 ·have h1:∀ r,r < 4 → ∀ i,i < 8 → (stC.getD r 0).toNat ≤ i → i < (stC.getD (r + 1) 0).toNat → 0 ≤ colsC.getD i 0 ∧ colsC.getD i 0 < 4:=by decide
  have h2:∀ r,r < 4 → ∀ i,i < 8 → (stC.getD r 0).toNat < i → i < (stC.getD (r + 1) 0).toNat → colsC.getD (i - 1) 0 < colsC.getD i 0:=by decide
  have h3:∀ r,r < 4 → (stC.getD (r + 1) 0).toNat ≤ 8:=by decide
  have hr4:r < 4:=by simp [stC] at hr; omega
  have:=h3 r hr4
  exact ⟨fun i a b => h1 r hr4 i (by omega) a b,fun i a b => h2 r hr4 i (by omega) a b⟩
theorem graC:GraP stC colsC 4 4:=by
 refine ⟨rfl,fun u v hu hv h => ?_,fun ⟨r,hr,h⟩ => ?_⟩
 ·have k:∀ u,u < 4 → ∀ v,v < 4 → ((u:Nat):Int) ∈ rowL stC colsC v → ((v:Nat):Int) ∈ rowL stC colsC u:=by decide
  exact (rowL_mem mayC hu).1 (k u hu v hv ((rowL_mem mayC hv).2 h))
 ·have k:∀ r,r < 4 → ¬ ((r:Nat):Int) ∈ rowL stC colsC r:=by decide
  exact k r hr ((rowL_mem mayC hr).2 h)
theorem pntC:PntI stC colsC ordC 4 (updC (updC (updC (updC (fun _ => -1) 0 0) 1 1) 2 0) 3 2):=by
 refine ⟨_,2,⟨_,0,⟨_,1,⟨_,0,rfl,⟨?_,?_⟩,rfl⟩,⟨?_,?_⟩,rfl⟩,⟨?_,?_⟩,rfl⟩,⟨?_,?_⟩,rfl⟩ <;> unfold BarP PaP TwP <;> decide
theorem SlI.made (w:World) (xs:List Int) (t:TypeId) (h:xs.length ≤ 128):SlI (w.alloc (.cells (xs.map (fun x => Value.int .i64 x)).toArray t)) (some ⟨w.heap.size,0,none⟩) xs.length xs.length xs:=by
 refine ⟨rfl,Nat.le_refl _,by unfold maxLen; omega,.inr ⟨w.heap.size,0,rfl,fun i hi => ?_⟩⟩
 rw [Nat.zero_add]
 exact (cell_of_block (alloc_block _ _) i).trans (by simp [List.getD,hi])
set_option maxRecDepth 100000 in
set_option maxHeartbeats 8000000 in
theorem ccircle_any (w:World) :
  Calls Tryz.prog 22 #[] w fun e w' => ∃ s c,e = .returned (patV (4:Nat) (4:Nat) (some ⟨s,0,none⟩) 5 5 (some ⟨c,0,none⟩) 8 8) ∧ SlI w' (some ⟨s,0,none⟩) 5 5 stC ∧ SlI w' (some ⟨c,0,none⟩) 8 8 colsC ∧ Below w.heap.size w w':=by
 go_enter Tryz.func22,Tryz.ntmps22
 go_wp2_with fail
 refine bodyPost_ret (by simp [results,Tryz.results22,go_sem]; try rfl) rfl ?_
 have b1:Below w.heap.size w (w.alloc (.cells #[Value.int IntKind.i64 4,Value.int IntKind.i64 4,Value.slice (some ⟨w.heap.size + 1,0,none⟩) 5 5,Value.slice (some ⟨w.heap.size + 1 + 1,0,none⟩) 8 8] 61)):=bAl
 have s1:=SlI.made (w.alloc (.cells #[Value.int IntKind.i64 4,Value.int IntKind.i64 4,Value.slice (some ⟨w.heap.size + 1,0,none⟩) 5 5,Value.slice (some ⟨w.heap.size + 1 + 1,0,none⟩) 8 8] 61)) stC 3 (by decide)
 have e1:(w.alloc (.cells #[Value.int IntKind.i64 4,Value.int IntKind.i64 4,Value.slice (some ⟨w.heap.size + 1,0,none⟩) 5 5,Value.slice (some ⟨w.heap.size + 1 + 1,0,none⟩) 8 8] 61)).heap.size = w.heap.size + 1:=by simp
 generalize w.alloc (.cells #[Value.int IntKind.i64 4,Value.int IntKind.i64 4,Value.slice (some ⟨w.heap.size + 1,0,none⟩) 5 5,Value.slice (some ⟨w.heap.size + 1 + 1,0,none⟩) 8 8] 61) = w1 at *
 rw [e1] at s1
 have b2:Below w.heap.size w1 (w1.alloc (.cells (stC.map (fun x => Value.int .i64 x)).toArray 3)):=(Below.refl _ _).alloc (by omega) _
 have e2:(w1.alloc (.cells (stC.map (fun x => Value.int .i64 x)).toArray 3)).heap.size = w.heap.size + 1 + 1:=by simp [e1]
 have s2:=SlI.made (w1.alloc (.cells (stC.map (fun x => Value.int .i64 x)).toArray 3)) colsC 3 (by decide)
 rw [e2] at s2
 have b3:Below (w.heap.size + 1 + 1) (w1.alloc (.cells (stC.map (fun x => Value.int .i64 x)).toArray 3)) ((w1.alloc (.cells (stC.map (fun x => Value.int .i64 x)).toArray 3)).alloc (.cells (colsC.map (fun x => Value.int .i64 x)).toArray 3)):=(Below.refl _ _).alloc (by omega) _
 exact ⟨w.heap.size + 1,w.heap.size + 1 + 1,rfl,s1.below (by rw [e2]; exact b3),s2,(b1.trans b2).trans (b3.mono (by omega))⟩
def LnQ (M:Nat → Nat → Nat → Prop) (n m u v k x:Nat):Prop:=∃ a b j:Nat,a < n ∧ b < n ∧ j < m ∧ x = a * n + b ∧ a ≠ b ∧ M j a b ∧ (a < u ∨ a = u ∧ (b < v ∨ b = v ∧ j < k))
theorem idx_one {n a b u v:Nat} (hb:b < n) (hv:v < n) (h:a * n + b = u * n + v):a = u ∧ b = v:=by
 have h1:(a * n + b) / n = a:=by rw [Nat.mul_comm,Nat.mul_add_div (by omega),Nat.div_eq_of_lt hb]; rfl
 have h2:(u * n + v) / n = u:=by rw [Nat.mul_comm,Nat.mul_add_div (by omega),Nat.div_eq_of_lt hv]; rfl
 have h3:a = u:=by rw [← h1,← h2,h]
 subst h3
 exact ⟨rfl,by omega⟩
theorem LnQ.yes {M:Nat → Nat → Nat → Prop} {n m u v k:Nat} (hu:u < n) (hv:v < n) (hk:k < m) (hne:u ≠ v) (hM:M k u v) (x:Nat):LnQ M n m u v (k + 1) x ↔ (LnQ M n m u v k x ∨ x = u * n + v):=by
 constructor
 ·rintro ⟨a,b,j,h1,h2,h3,h4,h5,h6,h7⟩
  rcases h7 with h7 | ⟨h7,h8 | ⟨h8,h9⟩⟩
  ·exact .inl ⟨a,b,j,h1,h2,h3,h4,h5,h6,.inl h7⟩
  ·exact .inl ⟨a,b,j,h1,h2,h3,h4,h5,h6,.inr ⟨h7,.inl h8⟩⟩
  ·subst h7 h8
   exact .inr h4
 ·rintro (⟨a,b,j,h1,h2,h3,h4,h5,h6,h7⟩ | h)
  ·exact ⟨a,b,j,h1,h2,h3,h4,h5,h6,h7.imp_right (fun h => ⟨h.1,h.2.imp_right (fun h => ⟨h.1,by omega⟩)⟩)⟩
  ·exact ⟨u,v,k,hu,hv,hk,h,hne,hM,.inr ⟨rfl,.inr ⟨rfl,by omega⟩⟩⟩
theorem LnQ.no {M:Nat → Nat → Nat → Prop} {n m u v k:Nat} (hM:¬ M k u v) (x:Nat):LnQ M n m u v (k + 1) x ↔ LnQ M n m u v k x:=by
 constructor
 ·rintro ⟨a,b,j,h1,h2,h3,h4,h5,h6,h7⟩
  refine ⟨a,b,j,h1,h2,h3,h4,h5,h6,h7.imp_right (fun h => ⟨h.1,h.2.imp_right (fun h8 => ⟨h8.1,?_⟩)⟩)⟩
  by_cases e:j = k
  ·obtain ⟨e1,_⟩:=h
   obtain ⟨e2,_⟩:=h8
   subst e e1 e2
   exact absurd h6 hM
  ·omega
 ·rintro ⟨a,b,j,h1,h2,h3,h4,h5,h6,h7⟩
  exact ⟨a,b,j,h1,h2,h3,h4,h5,h6,h7.imp_right (fun h => ⟨h.1,h.2.imp_right (fun h => ⟨h.1,by omega⟩)⟩)⟩
theorem LnQ.first {M:Nat → Nat → Nat → Prop} {n m:Nat} (x:Nat):¬ LnQ M n m 0 0 0 x:=by
 rintro ⟨a,b,j,h1,h2,h3,h4,h5,h6,h7⟩
 omega
theorem LnQ.last {M:Nat → Nat → Nat → Prop} {n m u v:Nat} (hu:u < n) (hv:v < n):LnQ M n m n 0 0 (u * n + v) ↔ (u ≠ v ∧ ∃ j,j < m ∧ M j u v):=by
 constructor
 ·rintro ⟨a,b,j,h1,h2,h3,h4,h5,h6,h7⟩
  obtain ⟨rfl,rfl⟩:=idx_one hv h2 h4
  exact ⟨h5,j,h3,h6⟩
 ·rintro ⟨h1,j,h2,h3⟩
  exact ⟨u,v,j,hu,hv,h2,rfl,h1,h3,.inl hu⟩
theorem OpI.below {w2 W W':World} {b m:Nat} {P:Nat → Prop} (h:OpI w2 W b m P) (k:Below W.heap.size W W'):OpI w2 W' b m P:=⟨h.row.below k,h.chg.trans (Chg.of_below k)⟩
theorem OpI.congr {w2 W:World} {b m:Nat} {P Q:Nat → Prop} (h:OpI w2 W b m P) (e:∀ x,P x ↔ Q x):OpI w2 W b m Q:=⟨h.row.congr (fun x _ => by rw [tb_congr (e x)]),h.chg⟩
end Go.Proofs.YtkbcmnjgkmkeaaaGreat
