/- Pr7 -/
import Derived.Test.YtcajmdfcanopnaaDoorPr5
import Derived.Test.YtcajmdfcanopnaaDoorDv7
import Derived.Test.YtcajmdfcanopnaaDoorShl
import Derived.Test.YtcajmdfcanopnaaDoorBits
import Derived.Deep.LoopGhost
namespace Go.Proofs.YtcajmdfcanopnaaDoor
open Go.RowKit Go.Deep
set_option linter.unusedVariables false
structure Pows (w:World) (T pb po K wt:Nat):Prop where
 ne:pb ≠ T
 at':∀ i,i < K → ∃ a m,w.cell? ⟨pb,po + i,none⟩ = some (.slice a m m) ∧ Sl w a m m (limbs (wt ^ 2 ^ i)) ∧ m ≤ 2048 ∧ ∀ x,a = some x → x.block ≠ T

theorem Pows.upd {w w':World} {T pb po K wt lo up:Nat} (h:Pows w T pb po K wt) (u:Upd T lo up w w'):Pows w' T pb po K wt:=by
 refine ⟨h.ne,fun i hi => ?_⟩
 obtain ⟨a,m,h1,h2,h3,h4⟩:=h.at' i hi
 refine ⟨a,m,?_,h2.chg u.chg (fun x hx _ => h4 x hx),h3,h4⟩
 have hb:=World.block_lt_of_cell? _ _ h1
 have:w'.cell? ⟨pb,po + i,none⟩ = w.cell? ⟨pb,po + i,none⟩:=by unfold World.cell?; simp only; rw [u.block pb hb h.ne]
 rw [this]; exact h1
theorem Pows.bel {w w':World} {T pb po K wt:Nat} (h:Pows w T pb po K wt) (k:Below w.heap.size w w'):Pows w' T pb po K wt:=by
 refine ⟨h.ne,fun i hi => ?_⟩
 obtain ⟨a,m,h1,h2,h3,h4⟩:=h.at' i hi
 refine ⟨a,m,?_,h2.below k,h3,h4⟩
 have hb:=World.block_lt_of_cell? _ _ h1
 have:w'.cell? ⟨pb,po + i,none⟩ = w.cell? ⟨pb,po + i,none⟩:=by unfold World.cell?; simp only; rw [k.block pb hb]
 rw [this]; exact h1

theorem FnB.left {w:World} {T o L h:Nat} {f:Nat → Nat} (g:FnB w T o L f) (hh:h ≤ L):FnB w T o h f:=fun i hi => g i (by omega)
theorem FnB.right {w:World} {T o L h:Nat} {f:Nat → Nat} (g:FnB w T o L f) (hh:h ≤ L):FnB w T (o + h) (L - h) (fun i => f (h + i)):=fun i hi => by
 have:=g (h + i) (by omega)
 rwa [← Nat.add_assoc] at this

open Go.RowKit Go.Deep
set_option linter.unusedVariables false
def pwV (e:Option Addr × Nat):Value:=.slice e.1 e.2 e.2

structure PwAt (wr:World) (B:Nat) (pv:Value) (e:Option Addr × Nat) (P:Nat):Prop where
 sl:Sl wr e.1 e.2 e.2 (limbs P)
 le:e.2 ≤ 2048
 new:∀ x,e.1 = some x → B + 2 ≤ x.block
 ne:∀ x,e.1 = some x → pv.ownBlock ≠ some x.block

structure NwA (wr w:World) (b cnt wt N k:Nat) (pv:Value) (es:List (Option Addr × Nat)):Prop where
 st:St4 wr (w.heap.size + 1) b cnt wt pv
 fz:wr.frozen? ⟨w.heap.size + 1,3,none⟩ = false
 rs:∀ i,i < 4 → (∃ v,wr.cell? ⟨w.heap.size,i,none⟩ = some v) ∧ wr.frozen? ⟨w.heap.size,i,none⟩ = false
 own:wr.ownsRow (w.heap.size + 2) 54 1 pv k (es.map pwV)
 each:∀ i,i < k → ∃ e,es[i]? = some e ∧ PwAt wr w.heap.size pv e (wt ^ 2 ^ i)
 le:∀ i,i < k → wt ^ 2 ^ i ≤ N
 bel:Below w.heap.size w wr

theorem Chg.frozen {S:Nat → Prop} {w w':World} (h:Chg S w w') {b i:Nat} (hs:¬ S b) (hb:b < w.heap.size):w'.frozen? ⟨b,i,none⟩ = w.frozen? ⟨b,i,none⟩:=by
 unfold World.frozen?; simp only; rw [h.block b hb hs]
theorem limbs_ne0 {v:Nat} (h:0 < v):limbs v ≠ []:=by
 intro e
 have:=(limbs_rep v).val
 rw [e] at this
 simp [val] at this
 omega

theorem NwA.keep {wr w' w:World} {b cnt wt N k:Nat} {pv:Value} {es:List (Option Addr × Nat)} (h:NwA wr w b cnt wt N k pv es) (hb:Below wr.heap.size wr w'):NwA w' w b cnt wt N k pv es:=by
 have hS:w.heap.size + 1 < wr.heap.size:=h.st.lt
 have c:Chg (fun _ => False) wr w':=Chg.of_below hb
 refine ⟨h.st.keep (fun i => ?_),?_,fun i hi => ?_,ownsRow_below h.own hb,fun i hi => ?_,h.le,h.bel.trans (hb.mono h.bel.size)⟩
 ·unfold World.cell?; simp only; rw [hb.block _ hS]
 ·rw [c.frozen (fun h => h) hS]; exact h.fz
 ·obtain ⟨⟨v,hv⟩,hf⟩:=h.rs i hi
  exact ⟨⟨v,c.cell (fun h => h) hv⟩,by rw [c.frozen (fun h => h) (by omega)]; exact hf⟩
 ·obtain ⟨e,he,p⟩:=h.each i hi
  exact ⟨e,he,p.sl.below hb,p.le,p.new,p.ne⟩

theorem NwA.push {wr w1 w:World} {b cnt wt N k g cap:Nat} {pv:Value} {es:List (Option Addr × Nat)} {ap:Option Addr} {mp:Nat} {o:Obj} (h:NwA wr w b cnt wt N k pv es) (hp:PwAt wr w.heap.size pv (ap,mp) (wt ^ 2 ^ k)) (hw:0 < wt) (hN:wt ^ 2 ^ k ≤ N)
  (hown:w1.ownsRow (w.heap.size + 2) 54 1 (.slice (some ⟨g,0,none⟩) (k + 1) cap) (k + 1) (es.map pwV ++ [.slice ap mp mp])) (hg:(wr.alloc o).grownBy w1 pv.ownBlock) (hat:pv.ownBlock = some g ∨ g = wr.heap.size + 1) :
  NwA (w1.setCell ⟨w.heap.size + 1,3,none⟩ (.slice (some ⟨g,0,none⟩) (k + 1) cap)) w b cnt wt N (k + 1) (.slice (some ⟨g,0,none⟩) (k + 1) cap) (es ++ [(ap,mp)]) ∧
   PwAt (w1.setCell ⟨w.heap.size + 1,3,none⟩ (.slice (some ⟨g,0,none⟩) (k + 1) cap)) w.heap.size (.slice (some ⟨g,0,none⟩) (k + 1) cap) (ap,mp) (wt ^ 2 ^ k) ∧
   w1.cell? ⟨w.heap.size + 1,3,none⟩ = some pv ∧ w1.frozen? ⟨w.heap.size + 1,3,none⟩ = false:=by
 have hS:w.heap.size + 1 < wr.heap.size:=h.st.lt
 have hlk:es.length = k:=by have:=h.own.1; simpa using this
 have hoB:∀ j,pv.ownBlock = some j → w.heap.size + 2 ≤ j ∧ j < wr.heap.size:=own_ge h.own
 have hgB:w.heap.size + 2 ≤ g:=by
  rcases hat with e | e
  ·exact (hoB g e).1
  ·omega
 have c1:Chg (fun j => pv.ownBlock = some j) wr w1:=(Chg.of_alloc wr o).trans (Chg.of_grown hg (fun j hj => hj))
 have c2:Chg (fun j => pv.ownBlock = some j ∨ j = w.heap.size + 1) wr (w1.setCell ⟨w.heap.size + 1,3,none⟩ (.slice (some ⟨g,0,none⟩) (k + 1) cap)) :=
  (c1.mono (fun j _ hj => Or.inl hj)).trans (Chg.of_set _ _ _ _ (.inr rfl))
 have nS:¬ pv.ownBlock = some (w.heap.size + 1):=fun e => by have:=(hoB _ e).1; omega
 have nR:¬ (pv.ownBlock = some w.heap.size ∨ w.heap.size = w.heap.size + 1):=by
  rintro (e | e)
  ·have:=(hoB _ e).1; omega
  ·omega
 have moved:∀ {e:Option Addr × Nat} {P:Nat},0 < P → PwAt wr w.heap.size pv e P → PwAt (w1.setCell ⟨w.heap.size + 1,3,none⟩ (.slice (some ⟨g,0,none⟩) (k + 1) cap)) w.heap.size (.slice (some ⟨g,0,none⟩) (k + 1) cap) e P:=by
  intro e P hP p
  refine ⟨p.sl.chg c2 (fun x hx _ => ?_),p.le,p.new,fun x hx => ?_⟩
  ·rintro (e1 | e1)
   ·exact p.ne x hx e1
   ·have:=p.new x hx; omega
  ·intro e1
   simp only [Value.ownBlock,Option.some.injEq] at e1
   have hlt:=p.sl.block_lt (limbs_ne0 hP) x hx
   rcases hat with e2 | e2
   ·exact p.ne x hx (by rw [e2,e1])
   ·omega
 have hPk:∀ i,0 < wt ^ 2 ^ i:=fun i => Nat.pow_pos hw
 refine ⟨⟨?_,?_,?_,?_,?_,?_,?_⟩,moved (hPk k) hp,c1.cell nS h.st.c3,by rw [c1.frozen nS hS]; exact h.fz⟩
 ·refine ⟨?_,?_,?_,?_⟩
  ·rw [World.cell?_setCell_other _ _ _ _ (by simp)]; exact c1.cell nS h.st.c0
  ·rw [World.cell?_setCell_other _ _ _ _ (by simp)]; exact c1.cell nS h.st.c1
  ·rw [World.cell?_setCell_other _ _ _ _ (by simp)]; exact c1.cell nS h.st.c2
  ·rw [World.cell?_setCell_same _ _ _ (c1.cell nS h.st.c3)]
 ·rw [World.frozen?_setCell,c1.frozen nS hS]; exact h.fz
 ·intro i hi
  obtain ⟨⟨v,hv⟩,hf⟩:=h.rs i hi
  exact ⟨⟨v,c2.cell nR hv⟩,by rw [c2.frozen nR (by omega)]; exact hf⟩
 ·rw [List.map_append]
  exact ownsRow_setCell_other hown (by simp [Value.ownBlock]; omega) _
 ·intro i hi
  by_cases hik:i < k
  ·obtain ⟨e,he,p⟩:=h.each i hik
   exact ⟨e,by rw [List.getElem?_append_left (by omega)]; exact he,moved (hPk i) p⟩
  ·obtain rfl:i = k:=by omega
   exact ⟨(ap,mp),by rw [List.getElem?_append_right (by omega),hlk]; simp,moved (hPk i) hp⟩
 ·intro i hi
  by_cases hik:i < k
  ·exact h.le i hik
  ·obtain rfl:i = k:=by omega
   exact hN
 ·exact h.bel.trans (c2.below h.bel.size (fun j hj => by
   rintro (e | e)
   ·have:=(hoB _ e).1; omega
   ·omega))

structure NwPost (w w':World) (b N cnt wt K:Nat) (pv:Value):Prop where
 ch:Chunk b cnt
 wte:b ^ cnt = wt
 lt:N < wt ^ 2 ^ K
 le:∀ i,i < K → wt ^ 2 ^ i ≤ N
 pvs:∃ pb a0 cp,pv = .slice a0 K cp ∧ (K = 0 ∨ pv = .slice (some ⟨pb,0,none⟩) K cp) ∧ pb < w'.heap.size ∧ ∀ i,i < K → ∃ a m,w'.cell? ⟨pb,0 + i,none⟩ = some (.slice a m m) ∧ Sl w' a m m (limbs (wt ^ 2 ^ i)) ∧ m ≤ 2048 ∧ ∀ x,a = some x → x.block < w'.heap.size
 bel:Below w.heap.size w w'

theorem NwA.done {wr w:World} {b cnt wt N k:Nat} {pv:Value} {es:List (Option Addr × Nat)} (h:NwA wr w b cnt wt N k pv es) (ch:Chunk b cnt) (hwt:b ^ cnt = wt) (hb:0 < b) (hN:N < wt ^ 2 ^ k) (W:World) (c:Chg (fun j => j = w.heap.size) wr W):NwPost w W b N cnt wt k pv:=by
 have hS:w.heap.size + 1 < wr.heap.size:=h.st.lt
 have hw:0 < wt:=by rw [← hwt]; exact Nat.pow_pos hb
 refine ⟨ch,hwt,hN,h.le,?_,h.bel.trans (c.below h.bel.size (fun j hj => by omega))⟩
 rcases h.own.2 with ⟨e,h0⟩ | ⟨g,cap,cur,e,hg,hheap,h6,h7,h8,h9⟩
 ·refine ⟨0,none,0,by rw [e,h0],.inl h0,by have:=c.size; omega,fun i hi => by omega⟩
 ·have hgl:g < wr.heap.size:=(own_ge h.own g (by rw [e]; rfl)).2
  refine ⟨g,some ⟨g,0,none⟩,cap,e,.inr e,Nat.lt_of_lt_of_le hgl c.size,fun i hi => ?_⟩
  obtain ⟨x,hx,p⟩:=h.each i hi
  refine ⟨x.1,x.2,?_,p.sl.chg c (fun y hy _ => by have:=p.new y hy; omega),p.le,fun y hy => Nat.lt_of_lt_of_le (p.sl.block_lt (limbs_ne0 (Nat.pow_pos hw)) y hy) c.size⟩
  have ho:=h.own
  rw [e] at ho
  have hc:=ho.cellAt i (by omega)
  rw [List.getElem?_map,hx] at hc
  rw [Nat.zero_add]
  exact c.cell (by omega) hc
end Go.Proofs.YtcajmdfcanopnaaDoor
