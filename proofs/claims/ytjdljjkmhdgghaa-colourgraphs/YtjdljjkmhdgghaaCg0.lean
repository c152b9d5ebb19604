/- Cg0 -/
import Derived.Test.YtjdljjkmhdgghaaSp5
import Derived.Test.YtjdljjkmhdgghaaRq2
namespace Go.Proofs.Ytjdljjkmhdgghaa
open Go.RowKit Go.Deep
set_option linter.unusedVariables false
noncomputable def grR (P:Nat → Nat → Prop) (u:Nat):Nat → List Int
 | 0 => []
 | k + 1 => grR P u k ++ (if tb (P u k) = true then [(k:Int)] else [])
noncomputable def grC (P:Nat → Nat → Prop) (n:Nat):Nat → List Int
 | 0 => []
 | k + 1 => grC P n k ++ grR P k n
noncomputable def grS (P:Nat → Nat → Prop) (n:Nat):Nat → List Int
 | 0 => [0]
 | k + 1 => grS P n k ++ [((grC P n (k + 1)).length:Int)]
theorem grR_len (P:Nat → Nat → Prop) (u:Nat):∀ k,(grR P u k).length ≤ k
 | 0 => Nat.le_refl _
 | k + 1 => by
  have:=grR_len P u k
  simp only [grR,List.length_append]
  split <;> simp <;> omega
theorem grC_len (P:Nat → Nat → Prop) (n:Nat):∀ k,(grC P n k).length ≤ k * n
 | 0 => Nat.zero_le _
 | k + 1 => by
  have h1:=grC_len P n k
  have h2:=grR_len P k n
  simp only [grC,List.length_append]
  rw [Nat.add_mul,Nat.one_mul]
  omega
theorem grS_len (P:Nat → Nat → Prop) (n:Nat):∀ k,(grS P n k).length = k + 1
 | 0 => rfl
 | k + 1 => by simp only [grS,List.length_append,List.length_singleton]; rw [grS_len P n k]
structure PbI (w1 W:World) (B X:Nat) (n:Int) (vS vC:Value) (S C:List Int):Prop where
 box:W.heap[X]? = some (.cells #[.int .i64 n,.int .i64 n,vS,vC] 24 (0,0))
 ownS:W.ownsRow B 3 1 vS S.length (valsI S)
 ownC:W.ownsRow B 3 1 vC C.length (valsI C)
 apart:∀ g,vS.ownBlock = some g → vC.ownBlock ≠ some g
 bel:Below B w1 W
 le:B ≤ W.heap.size
 lx:B ≤ X
theorem own_neB {w:World} {B:Nat} {e:TypeId} {v:Value} {n:Nat} {xs:List Value} (h:w.ownsRow B e 1 v n xs) {k:Nat} {cs:Array Value} {e2:TypeId} (hk:w.heap[k]? = some (.cells cs e2 (0,0))) (hne:e ≠ e2):v.ownBlock ≠ some k:=by
 intro he
 rcases h.2 with ⟨h1,_⟩ | ⟨g,cap,cur,h1,h2,h3,_⟩
 ·rw [h1] at he; simp [Value.ownBlock] at he
 ·rw [h1] at he
  have:g = k:=by simpa [Value.ownBlock] using he
  subst this
  rw [h3] at hk
  cases hk
  exact hne rfl
theorem PbI.below {w1 W Wn:World} {B X:Nat} {n:Int} {vS vC:Value} {S C:List Int} (h:PbI w1 W B X n vS vC S C) (k:Below W.heap.size W Wn):PbI w1 Wn B X n vS vC S C :=
 ⟨(k.block _ (Array.getElem?_eq_some_iff.1 h.box).1).trans h.box,ownsRow_chg (S:=fun _ => False) h.ownS (.of_below k) (fun _ _ => id),ownsRow_chg (S:=fun _ => False) h.ownC (.of_below k) (fun _ _ => id),h.apart,h.bel.trans (k.mono h.le),Nat.le_trans h.le k.size,h.lx⟩
theorem PbI.appC {w1 W W3:World} {B X:Nat} {n:Int} {vS vC:Value} {S C:List Int} {x:Int} {g cap:Nat} (h:PbI w1 W B X n vS vC S C) (hown:W3.ownsRow B 3 1 (.slice (some ⟨g,0,none⟩) (C.length + 1) cap) (C.length + 1) (valsI C ++ [.int .i64 x])) (hg:W.grownBy W3 vC.ownBlock) (hat:vC.ownBlock = some g ∨ g = W.heap.size) :
  PbI w1 (W3.setCell ⟨X,3,none⟩ (.slice (some ⟨g,0,none⟩) (C.length + 1) cap)) B X n vS (.slice (some ⟨g,0,none⟩) (C.length + 1) cap) S (C ++ [x]):=by
 have hX:=(Array.getElem?_eq_some_iff.1 h.box).1
 have nC:=own_neB h.ownC h.box (by decide)
 have nS:=own_neB h.ownS h.box (by decide)
 have hb3:W3.heap[X]? = some (.cells #[.int .i64 n,.int .i64 n,vS,vC] 24 (0,0)):=(hg.block X hX (fun e => nC e.symm)).trans h.box
 have hB:Below B W W3:=(Below.refl B W).grown hg h.le (fun j hj => (own_ge h.ownC j hj).1)
 have hc:Chg (fun j => j = X) W3 (W3.setCell ⟨X,3,none⟩ (.slice (some ⟨g,0,none⟩) (C.length + 1) cap)):=Chg.of_set _ _ _ _ rfl
 have hgX:g ≠ X:=by
  intro e
  rcases hown.2 with ⟨h1,_⟩ | ⟨g',cap',cur,h1,h2,h3,_⟩
  ·cases h1
  ·cases h1
   rw [e,hb3] at h3
   cases h3
 refine ⟨by simp [World.setCell,Array.getElem?_modify,hb3],ownsRow_chg (h.ownS.kept hg ?_) hc (fun j hj e => nS (by rw [← e]; exact hj)),ownsRow_chg (by simpa [valsI] using hown) hc (fun j hj e => ?_),fun j hj hu => ?_,h.bel.trans (hB.trans (hc.below (Nat.le_trans h.le hB.size) (fun j hj e => by have:=h.lx; omega))),Nat.le_trans h.le (Nat.le_trans hB.size hc.size),h.lx⟩
 ·cases hv:vS.ownBlock with
  | none => exact .inl rfl
  | some j => right; intro e; exact h.apart j hv e.symm
 ·have:g = j:=by simpa [Value.ownBlock] using hj
  exact hgX (this.trans e)
 ·have hu':g = j:=by simpa [Value.ownBlock] using hu
  subst hu'
  rcases hat with e | e
  ·exact h.apart _ hj e
  ·have:=(own_ge h.ownS _ hj).2; omega
theorem PbI.appS {w1 W W3:World} {B X:Nat} {n:Int} {vS vC:Value} {S C:List Int} {x:Int} {g cap:Nat} (h:PbI w1 W B X n vS vC S C) (hown:W3.ownsRow B 3 1 (.slice (some ⟨g,0,none⟩) (S.length + 1) cap) (S.length + 1) (valsI S ++ [.int .i64 x])) (hg:W.grownBy W3 vS.ownBlock) (hat:vS.ownBlock = some g ∨ g = W.heap.size) :
  PbI w1 (W3.setCell ⟨X,2,none⟩ (.slice (some ⟨g,0,none⟩) (S.length + 1) cap)) B X n (.slice (some ⟨g,0,none⟩) (S.length + 1) cap) vC (S ++ [x]) C:=by
 have hX:=(Array.getElem?_eq_some_iff.1 h.box).1
 have nC:=own_neB h.ownC h.box (by decide)
 have nS:=own_neB h.ownS h.box (by decide)
 have hb3:W3.heap[X]? = some (.cells #[.int .i64 n,.int .i64 n,vS,vC] 24 (0,0)):=(hg.block X hX (fun e => nS e.symm)).trans h.box
 have hB:Below B W W3:=(Below.refl B W).grown hg h.le (fun j hj => (own_ge h.ownS j hj).1)
 have hc:Chg (fun j => j = X) W3 (W3.setCell ⟨X,2,none⟩ (.slice (some ⟨g,0,none⟩) (S.length + 1) cap)):=Chg.of_set _ _ _ _ rfl
 have hgX:g ≠ X:=by
  intro e
  rcases hown.2 with ⟨h1,_⟩ | ⟨g',cap',cur,h1,h2,h3,_⟩
  ·cases h1
  ·cases h1
   rw [e,hb3] at h3
   cases h3
 refine ⟨by simp [World.setCell,Array.getElem?_modify,hb3],ownsRow_chg (by simpa [valsI] using hown) hc (fun j hj e => ?_),ownsRow_chg (h.ownC.kept hg ?_) hc (fun j hj e => nC (by rw [← e]; exact hj)),fun j hj hu => ?_,h.bel.trans (hB.trans (hc.below (Nat.le_trans h.le hB.size) (fun j hj e => by have:=h.lx; omega))),Nat.le_trans h.le (Nat.le_trans hB.size hc.size),h.lx⟩
 ·have:g = j:=by simpa [Value.ownBlock] using hj
  exact hgX (this.trans e)
 ·cases hv:vC.ownBlock with
  | none => exact .inl rfl
  | some j => right; intro e; exact h.apart j e.symm hv
 ·have hj':g = j:=by simpa [Value.ownBlock] using hj
  subst hj'
  rcases hat with e | e
  ·exact h.apart _ e hu
  ·have:=(own_ge h.ownC _ hu).2; omega
end Go.Proofs.Ytjdljjkmhdgghaa
