/- Cg6 -/
import Derived.Test.YtkbcmnjgkmkeaaaGreatCg5
namespace Go.Proofs.YtkbcmnjgkmkeaaaGreat
open Go.RowKit Go.Deep
set_option linter.unusedVariables false

def LsI (w:World) (L m:Nat) (ls:Nat → List Int):Prop:=∀ i,i < m → ∃ a n c,w.cell? ⟨L,i,none⟩ = some (.slice a n c) ∧ SlI w a n c (ls i) ∧ n ≤ 17592186044416
def MtP (ls:Nat → List Int) (k x:Nat):Prop:=∃ i,i < k ∧ MeP (ls i) (ls i).length 0 x
def rowL (st cols:List Int) (i:Nat):List Int:=(cols.drop (st.getD i 0).toNat).take ((st.getD (i + 1) 0).toNat - (st.getD i 0).toNat)
def NrP (st cols:List Int) (k x:Nat):Prop:=∃ i,i < k ∧ (MeP (rowL st cols i) (rowL st cols i).length 0 x ∨ ∃ t,t < (rowL st cols i).length ∧ (i:Int) * 128 + (rowL st cols i).getD t 0 = (x:Int))
structure LnI (W:World) (t L R:Nat) (f:Nat → Value) (xs:Nat → List Int):Prop where
 row:W.rowIs L 22 R f
 own:∀ r,r < R → W.ownsRow t 3 1 (f r) (xs r).length (valsI (xs r))
 apart:∀ r s,r < R → s < R → r ≠ s → ∀ g,(f r).ownBlock = some g → (f s).ownBlock ≠ some g
theorem LnI.congr {W:World} {t L R:Nat} {f:Nat → Value} {xs ys:Nat → List Int} (h:LnI W t L R f xs) (e:∀ r,r < R → xs r = ys r):LnI W t L R f ys:=⟨h.row,fun r hr => by rw [← e r hr]; exact h.own r hr,h.apart⟩
theorem LnI.chg {S:Nat → Prop} {W W':World} {t L R:Nat} {f:Nat → Value} {xs:Nat → List Int} (h:LnI W t L R f xs) (k:Chg S W W') (hL:¬ S L) (hs:∀ j,t ≤ j → j < W.heap.size → ¬ S j):LnI W' t L R f xs :=
 ⟨h.row.of_block (k.block L h.row.lt hL),fun r hr => ownsRow_chg (h.own r hr) k (fun j hj => hs j (own_ge (h.own r hr) j hj).1 (own_ge (h.own r hr) j hj).2),h.apart⟩
theorem LnI.below {W W':World} {t L R:Nat} {f:Nat → Value} {xs:Nat → List Int} (h:LnI W t L R f xs) (k:Below W.heap.size W W'):LnI W' t L R f xs:=h.chg (S:=fun _ => False) (Chg.of_below k) (fun x => x) (fun _ _ _ x => x)
theorem LnI.app {W W3:World} {t L R k:Nat} {f:Nat → Value} {xs:Nat → List Int} {x:Int} {g cap:Nat} (h:LnI W t L R f xs) (hk:k < R) (hL:L < t) (ht:t ≤ W.heap.size) (o:Obj) (hown:W3.ownsRow t 3 1 (.slice (some ⟨g,0,none⟩) ((xs k).length + 1) cap) ((xs k).length + 1) (valsI (xs k) ++ [.int .i64 x])) (hg:(W.alloc o).grownBy W3 (f k).ownBlock) (hat:(f k).ownBlock = some g ∨ g = W.heap.size + 1) :
  LnI (W3.setCell ⟨L,k,none⟩ (.slice (some ⟨g,0,none⟩) ((xs k).length + 1) cap)) t L R (fun r => if r = k then .slice (some ⟨g,0,none⟩) ((xs k).length + 1) cap else f r) (fun r => if r = k then xs k ++ [x] else xs r) ∧ Chg (fun j => j = L ∨ t ≤ j) W (W3.setCell ⟨L,k,none⟩ (.slice (some ⟨g,0,none⟩) ((xs k).length + 1) cap)):=by
 have hB:Below t W W3:=Below.grown ((Below.refl t W).alloc ht o) hg (by simp; omega) (fun j hj => (own_ge (h.own k hk) j hj).1)
 have hc:Chg (fun j => j = L) W3 (W3.setCell ⟨L,k,none⟩ (.slice (some ⟨g,0,none⟩) ((xs k).length + 1) cap)):=Chg.of_set _ _ _ _ rfl
 have hgL:some L ≠ (f k).ownBlock:=fun e => by have:=(own_ge (h.own k hk) L e.symm).1; omega
 have hgt:t ≤ g:=by
  rcases hat with e | e
  ·exact (own_ge (h.own k hk) g e).1
  ·omega
 refine ⟨⟨((h.row.alloc o).of_block (hg.block L (by simp; omega) hgL)).set k _,fun r hr => ?_,fun r s hr hs hne j hj hj2 => ?_⟩,⟨hc.os.trans hB.os,hc.tape.trans hB.tape,hc.output.trans hB.output,Nat.le_trans hB.size hc.size,fun j hj hS => ?_⟩⟩
 ·by_cases e:r = k
  ·subst e
   simp only [if_true]
   refine ownsRow_chg (by simpa [valsI] using hown) hc (fun j hj => ?_)
   have:g = j:=by simpa [Value.ownBlock] using hj
   omega
  ·simp only [e,if_false]
   have h1:=((h.own r hr).alloc o).kept hg (by
    cases hu:(f r).ownBlock with
    | none => exact .inl rfl
    | some j =>
     right
     intro e2
     exact h.apart r k hr hk e j hu e2.symm)
   exact ownsRow_chg h1 hc (fun j hj => by have:=(own_ge (h.own r hr) j hj).1; omega)
 ·by_cases e1:r = k
  ·have e2:s ≠ k:=fun e => hne (e1.trans e.symm)
   simp only [e1,if_true] at hj
   simp only [e2,if_false] at hj2
   have hj':g = j:=by simpa [Value.ownBlock] using hj
   subst hj'
   rcases hat with e | e
   ·exact h.apart k s hk hs (fun z => e2 z.symm) _ e hj2
   ·have:=(own_ge (h.own s hs) _ hj2).2; omega
  ·simp only [e1,if_false] at hj
   by_cases e2:s = k
   ·simp only [e2,if_true] at hj2
    have hj':g = j:=by simpa [Value.ownBlock] using hj2
    subst hj'
    rcases hat with e | e
    ·exact h.apart r k hr hk e1 _ hj e
    ·have:=(own_ge (h.own r hr) _ hj).2; omega
   ·simp only [e2,if_false] at hj2
    exact h.apart r s hr hs hne j hj hj2
 ·rw [hc.block j (Nat.lt_of_lt_of_le hj hB.size) (fun e => hS (.inl e)),hB.block j (by rcases Nat.lt_or_ge j t with c | c; exact c; exact absurd (.inr c) hS)]
theorem made_getI (R r:Nat) (h:r < R):(madeCells #[Value.slice none 0 0] R)[r]? = some (.slice none 0 0):=by simp [madeCells,h,Nat.mod_one]
def InC (st cols:List Int) (c k:Nat):Prop:=∃ j,(st.getD k 0).toNat ≤ j ∧ j < (st.getD (k + 1) 0).toNat ∧ cols.getD j 0 = (c:Int)
end Go.Proofs.YtkbcmnjgkmkeaaaGreat
