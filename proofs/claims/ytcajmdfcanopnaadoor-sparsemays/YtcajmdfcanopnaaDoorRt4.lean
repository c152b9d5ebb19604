/- Rt4 -/
import Derived.Test.YtcajmdfcanopnaaDoorWrd
import Derived.Test.YtcajmdfcanopnaaDoorRv3
namespace Go.Proofs.YtcajmdfcanopnaaDoor
open Go.RowKit Go.Deep
set_option linter.unusedVariables false
theorem Chg.then' {S T:Nat → Prop} {a b c:World} (h:Chg S a b) (k:Chg T b c) (hs:∀ k,k < a.heap.size → ¬ S k → ¬ T k):Chg S a c :=
 ⟨k.os.trans h.os,k.tape.trans h.tape,k.output.trans h.output,Nat.le_trans h.size k.size,fun i hi hS => (k.block i (Nat.lt_of_lt_of_le hi h.size) (hs i hi hS)).trans (h.block i hi hS)⟩

theorem FarQ.mono {w:World} {A N:Nat} {ps:List Nq} {S T:Nat → Prop} (h:FarQ S ps) (hf:FilQ w A N ps) (hs:∀ k,k < w.heap.size → ¬ S k → ¬ T k):FarQ T ps :=
 fun p hp => ⟨fun z hz hne => hs _ ((hf.each p hp).1.1.block_lt hne z hz) ((h p hp).1 z hz hne),fun z hz hne => hs _ ((hf.each p hp).1.2.block_lt hne z hz) ((h p hp).2 z hz hne)⟩

structure Qn where
 b:Nat
 c:Nat
 ps:List Nq
 b0:Nat
 c0:Nat
 ps0:List Nq
def Qn.v (q:Qn):Value:=.slice (some ⟨q.b,0,none⟩) q.ps.length q.c
def Qn.v0 (q:Qn):Value:=.slice (some ⟨q.b0,0,none⟩) q.ps0.length q.c0
structure QnOk (w:World) (S:Nat → Prop) (q:Qn):Prop where
 f:FilQ w q.b q.c q.ps
 f0:FilQ w q.b0 q.c0 q.ps0
 le:q.ps.length ≤ q.c
 le0:q.ps0.length ≤ q.c0
 con:q.ps.map conQ = q.ps0.map conQ
 s:¬ S q.b
 s0:¬ S q.b0
 far:FarQ S q.ps
 far0:FarQ S q.ps0
theorem QnOk.step {w w':World} {S S' T:Nat → Prop} {q:Qn} (h:QnOk w S q) (k:Chg T w w') (h1:∀ k,k < w.heap.size → ¬ S k → ¬ T k) (h2:∀ k,k < w.heap.size → ¬ S k → ¬ S' k):QnOk w' S' q :=
 ⟨h.f.chg k (h1 _ h.f.lt h.s) (h.far.mono h.f h1),h.f0.chg k (h1 _ h.f0.lt h.s0) (h.far0.mono h.f0 h1),h.le,h.le0,h.con,h2 _ h.f.lt h.s,h2 _ h.f0.lt h.s0,h.far.mono h.f h2,h.far0.mono h.f0 h2⟩

def Own4 (B:Nat) (v0 v1 u0 u1:Value) (k:Nat):Prop:=Own B v0 v1 k ∨ u0.ownBlock = some k ∨ u1.ownBlock = some k
def rsQ (rt:Nat → Value) (u0 u1:Value) (i:Nat):Value:=if i = 8 then u0 else if i = 9 then u1 else rt i

structure LawQ (rt:Nat → Value) (w:World) (B:Nat) (v0 v1 u0 u1:Value) (es:List Ent) (qs:List Qn) (w0:World):Prop where
 giv:GivR w B v0 v1 es (rsQ rt u0 u1)
 bel:Below w0.heap.size w0 w
 base:w0.heap.size ≤ B
 own8:w.ownsRow (B + 1) 25 1 u0 qs.length (qs.map Qn.v)
 own9:w.ownsRow (B + 1) 25 1 u1 qs.length (qs.map Qn.v0)
 ap8:∀ k,u0.ownBlock = some k → ¬ Own B v0 v1 k ∧ u1.ownBlock ≠ some k
 ap9:∀ k,u1.ownBlock = some k → ¬ Own B v0 v1 k
 ents:∀ e ∈ es,(u0.ownBlock ≠ some e.b ∧ u1.ownBlock ≠ some e.b) ∧ u0.ownBlock ≠ some e.b0 ∧ u1.ownBlock ≠ some e.b0
 qents:∀ q ∈ qs,QnOk w (Own4 B v0 v1 u0 u1) q

theorem LawQ.grow {rt:Nat → Value} {w w':World} {B:Nat} {v0 v1 v0' v1' u0 u1:Value} {es fs:List Ent} {qs:List Qn} {w0:World} (h:LawQ rt w B v0 v1 u0 u1 es qs w0) (hg:GivR w' B v0' v1' (es ++ fs) (rsQ rt u0 u1)) (hc:Chg (Own B v0 v1) w w')
  (hs:∀ k,k < w.heap.size → ¬ Own B v0 v1 k → ¬ Own B v0' v1' k) (hf:∀ e ∈ fs,w.heap.size ≤ e.b ∧ w.heap.size ≤ e.b0):LawQ rt w' B v0' v1' u0 u1 (es ++ fs) qs w0:=by
 have o8:=own_ge h.own8
 have o9:=own_ge h.own9
 refine ⟨hg,h.bel.trans (hc.below h.bel.size ?_),h.base,ownsRow_chg h.own8 hc (fun k hk => (h.ap8 k hk).1),ownsRow_chg h.own9 hc h.ap9,fun k hk => ⟨hs k (o8 k hk).2 (h.ap8 k hk).1,(h.ap8 k hk).2⟩,fun k hk => hs k (o9 k hk).2 (h.ap9 k hk),?_,?_⟩
 ·intro k hk ho
  have:=h.giv.own_ge ho
  have:=h.base
  omega
 ·intro e he
  rcases List.mem_append.1 he with he | he
  ·exact h.ents e he
  ·have:=hf e he
   refine ⟨⟨fun hh => ?_,fun hh => ?_⟩,fun hh => ?_,fun hh => ?_⟩
   ·have:=(o8 _ hh).2; omega
   ·have:=(o9 _ hh).2; omega
   ·have:=(o8 _ hh).2; omega
   ·have:=(o9 _ hh).2; omega
 ·intro q hq
  refine (h.qents q hq).step hc (fun k _ hn ho => hn (.inl ho)) ?_
  rintro k hk hn (ho | ho)
  ·exact hs k hk (fun hh => hn (.inl hh)) ho
  ·exact hn (.inr ho)

theorem LawQ.own_lt {rt:Nat → Value} {w:World} {B:Nat} {v0 v1 u0 u1:Value} {es:List Ent} {qs:List Qn} {w0:World} (h:LawQ rt w B v0 v1 u0 u1 es qs w0) {k:Nat} (hk:Own4 B v0 v1 u0 u1 k):k < w.heap.size:=by
 rcases hk with hk | hk | hk
 ·exact h.giv.own_lt hk
 ·exact (own_ge h.own8 k hk).2
 ·exact (own_ge h.own9 k hk).2
theorem LawQ.own_ge {rt:Nat → Value} {w:World} {B:Nat} {v0 v1 u0 u1:Value} {es:List Ent} {qs:List Qn} {w0:World} (h:LawQ rt w B v0 v1 u0 u1 es qs w0) {k:Nat} (hk:Own4 B v0 v1 u0 u1 k):B ≤ k:=by
 rcases hk with hk | hk | hk
 ·exact h.giv.own_ge hk
 ·have:=(Go.Proofs.YtcajmdfcanopnaaDoor.own_ge h.own8 k hk).1; omega
 ·have:=(Go.Proofs.YtcajmdfcanopnaaDoor.own_ge h.own9 k hk).1; omega
theorem LawQ.below {rt:Nat → Value} {w w':World} {B:Nat} {v0 v1 u0 u1:Value} {es:List Ent} {qs:List Qn} {w0:World} (h:LawQ rt w B v0 v1 u0 u1 es qs w0) (k:Below w.heap.size w w'):LawQ rt w' B v0 v1 u0 u1 es qs w0:=by
 have:=h.grow (fs:=[]) (w':=w') (v0':=v0) (v1':=v1) (by simpa using h.giv.below k) (.of_below k) (fun _ _ h => h) (fun e he => by cases he)
 simpa using this
theorem LawQ.setA {rt:Nat → Value} {w w':World} {B:Nat} {v0 v1 u0 u1:Value} {es:List Ent} {qs:List Qn} {w0:World} (h:LawQ rt w B v0 v1 u0 u1 es qs w0) {A N:Nat} {ps:List Nq} (hf:FilQ w A N ps) (hc:Chg (fun j => j = A) w w') (hw:w0.heap.size ≤ A) (hO:¬ Own4 B v0 v1 u0 u1 A)
  (hq:∀ q ∈ qs,(q.b ≠ A ∧ q.b0 ≠ A) ∧ FarQ (fun j => j = A) q.ps ∧ FarQ (fun j => j = A) q.ps0):LawQ rt w' B v0 v1 u0 u1 es qs w0:=by
 obtain ⟨b,hR⟩:=hf.first
 refine ⟨h.giv.setR hR hc (fun ho => hO (.inl ho)),h.bel.trans (hc.below h.bel.size (fun k hk => by omega)),h.base,ownsRow_chg h.own8 hc (fun k hk e => hO (.inr (.inl (by rw [← e]; exact hk)))),ownsRow_chg h.own9 hc (fun k hk e => hO (.inr (.inr (by rw [← e]; exact hk)))),h.ap8,h.ap9,h.ents,?_⟩
 intro q hq'
 have Q:=h.qents q hq'
 obtain ⟨⟨h1,h2⟩,h3,h4⟩:=hq q hq'
 exact ⟨Q.f.chg hc h1 h3,Q.f0.chg hc h2 h4,Q.le,Q.le0,Q.con,Q.s,Q.s0,Q.far,Q.far0⟩

theorem rsQ_other {rt:Nat → Value} {u0 u1:Value} {i:Nat} (h8:i ≠ 8) (h9:i ≠ 9):rsQ rt u0 u1 i = rt i:=by unfold rsQ; rw [if_neg h8,if_neg h9]
theorem LawQ.cells {rt:Nat → Value} {w:World} {B:Nat} {v0 v1 u0 u1:Value} {es:List Ent} {qs:List Qn} {w0:World} (h:LawQ rt w B v0 v1 u0 u1 es qs w0):(w.cell? ⟨B,8,none⟩ = some u0 ∧ w.cell? ⟨B,9,none⟩ = some u1) ∧ w.frozen? ⟨B,8,none⟩ = false ∧ w.frozen? ⟨B,9,none⟩ = false ∧ B < w.heap.size:=by
 obtain ⟨cur,hc,hr⟩:=h.giv.blk
 exact ⟨⟨(cell_of_block hc 8).trans (hr.2.2.2 8 (by omega) (by omega)),(cell_of_block hc 9).trans (hr.2.2.2 9 (by omega) (by omega))⟩,frozen_of_block hc _,frozen_of_block hc _,block_lt hc⟩
theorem LawQ.sizeB {rt:Nat → Value} {w:World} {B:Nat} {v0 v1 u0 u1:Value} {es:List Ent} {qs:List Qn} {w0:World} (h:LawQ rt w B v0 v1 u0 u1 es qs w0):B < w.heap.size:=h.cells.2.2.2

theorem rats_fin {rt:Nat → Value} {w2 w3 W w5 w6 w0:World} {B:Nat} {v0 v1 u0 u1:Value} {es:List Ent} {qs:List Qn} {A N n3 c2 c3 g2 g3 A0 N0:Nat} {ps ps0:List Nq} {o1 o2:Obj} (h:LawQ rt w2 B v0 v1 u0 u1 es qs w0)
  (hf:FilQ w2 A N ps) (hl:ps.length = n3) (hle:n3 ≤ N) (hA:¬ Own4 B v0 v1 u0 u1 A) (far:FarQ (Own4 B v0 v1 u0 u1) ps)
  (own3:w3.ownsRow (B + 1) 25 1 (.slice (some ⟨g2,0,none⟩) (qs.length + 1) c2) (qs.length + 1) (qs.map Qn.v ++ [.slice (some ⟨A,0,none⟩) n3 N]))
  (grow3:(w2.alloc o1).grownBy w3 u0.ownBlock) (at3:u0.ownBlock = some g2 ∨ g2 = w2.heap.size + 1) (hlt3:g2 < w3.heap.size)
  (HW:w3.setCell ⟨B,8,none⟩ (.slice (some ⟨g2,0,none⟩) (qs.length + 1) c2) = W)
  (hf0:FilQ w5 A0 N0 ps0) (hl0:ps0.length = n3) (hle0:n3 ≤ N0) (hA0:W.heap.size ≤ A0) (far0:FarQ (fun k => k < W.heap.size) ps0) (hcon:ps.map conQ = ps0.map conQ) (hbel5:Below W.heap.size W w5)
  (own6:w6.ownsRow (B + 1) 25 1 (.slice (some ⟨g3,0,none⟩) (qs.length + 1) c3) (qs.length + 1) (qs.map Qn.v0 ++ [.slice (some ⟨A0,0,none⟩) n3 N0]))
  (grow6:(w5.alloc o2).grownBy w6 u1.ownBlock) (at6:u1.ownBlock = some g3 ∨ g3 = w5.heap.size + 1) :
  ∃ u0' u1' Q,Qn.b Q = A ∧ Q.c = N ∧ Q.ps = ps ∧ LawQ rt (w6.setCell ⟨B,9,none⟩ (.slice (some ⟨g3,0,none⟩) (qs.length + 1) c3)) B v0 v1 u0' u1' es (qs ++ [Q]) w0:=by
 have hB:=h.sizeB
 have o8:=own_ge h.own8
 have o9:=own_ge h.own9
 have hsW:W.heap.size = w3.heap.size:=by rw [← HW]; simp
 have hs3:=grow3.size
 have hs6:=grow6.size
 simp only [World.size_alloc] at hs3 hs6
 have hs5:=hbel5.size
 have g2B:g2 ≠ B:=by have:=(own_ge own3 g2 rfl).1; omega
 have g3B:g3 ≠ B:=by have:=(own_ge own6 g3 rfl).1; omega
 have hge2:B ≤ g2:=by have:=(own_ge own3 g2 rfl).1; omega
 have g2v:u1.ownBlock ≠ some g2:=by
  rcases at3 with e | e
  ·exact (h.ap8 g2 e).2
  ·intro e2; have:=(o9 g2 e2).2; omega
 have g23:g2 ≠ g3:=by
  intro e
  rcases at6 with e2 | e2
  ·exact g2v (e ▸ e2)
  ·omega
 obtain ⟨wf,hwf⟩:∃ x,w6.setCell ⟨B,9,none⟩ (.slice (some ⟨g3,0,none⟩) (qs.length + 1) c3) = x:=⟨_,rfl⟩
 -- the roads
 have kA:Chg (fun k => k = B ∨ u0.ownBlock = some k) w2 W:=by
  rw [← HW]
  exact ((Chg.of_alloc w2 o1).trans (.of_grown grow3 (fun k hk => .inr hk))).trans (.of_set w3 B 8 _ (.inl rfl))
 have kB:Chg (fun k => k = B ∨ u1.ownBlock = some k) w5 wf:=by
  rw [← hwf]
  exact ((Chg.of_alloc w5 o2).trans (.of_grown grow6 (fun k hk => .inr hk))).trans (.of_set w6 B 9 _ (.inl rfl))
 have kW:Chg (fun k => k = B ∨ u1.ownBlock = some k) W wf:=(Chg.of_below hbel5).trans kB
 have k3:Chg (fun k => k = B ∨ u1.ownBlock = some k) w3 wf:=by
  refine Chg.trans ?_ kW
  rw [← HW]
  exact .of_set w3 B 8 _ (.inl rfl)
 have kall:Chg (fun k => k = B ∨ u0.ownBlock = some k ∨ u1.ownBlock = some k) w2 wf :=
  (kA.mono (fun k _ hh => hh.elim .inl (fun hh => .inr (.inl hh)))).trans (kW.mono (fun k _ hh => hh.elim .inl (fun hh => .inr (.inr hh))))
 have hsafe:∀ k,k < w2.heap.size → ¬ Own4 B v0 v1 u0 u1 k → ¬ Own4 B v0 v1 (.slice (some ⟨g2,0,none⟩) (qs.length + 1) c2) (.slice (some ⟨g3,0,none⟩) (qs.length + 1) c3) k:=by
  rintro k hk hn (hh | hh | hh)
  ·exact hn (.inl hh)
  ·simp [Value.ownBlock] at hh
   rcases at3 with e | e
   ·exact hn (.inr (.inl (hh ▸ e)))
   ·omega
  ·simp [Value.ownBlock] at hh
   rcases at6 with e | e
   ·exact hn (.inr (.inr (hh ▸ e)))
   ·omega
 have hall:∀ k,k < w2.heap.size → ¬ Own4 B v0 v1 u0 u1 k → ¬ (k = B ∨ u0.ownBlock = some k ∨ u1.ownBlock = some k):=by
  rintro k _ hn (hh | hh)
  ·exact hn (.inl (.inl hh))
  ·exact hn (.inr hh)
 have nO8:∀ k,Own B v0 v1 k → k ≠ B → u0.ownBlock ≠ some k:=fun k hk _ e => (h.ap8 k e).1 hk
 have nO9:∀ k,Own B v0 v1 k → k ≠ B → u1.ownBlock ≠ some k:=fun k hk _ e => h.ap9 k e hk
 have b0:∀ k,v0.ownBlock = some k → k ≠ B:=fun k hk => by have:=(own_ge h.giv.own0 k hk).1; omega
 have b1:∀ k,v1.ownBlock = some k → k ≠ B:=fun k hk => by have:=(own_ge h.giv.own1 k hk).1; omega
 refine ⟨.slice (some ⟨g2,0,none⟩) (qs.length + 1) c2,.slice (some ⟨g3,0,none⟩) (qs.length + 1) c3,⟨A,N,ps,A0,N0,ps0⟩,rfl,rfl,rfl,?_⟩
 rw [hwf]
 refine ⟨⟨?_,?_,?_,h.giv.apart,?_⟩,?_,h.base,?_,?_,?_,?_,?_,?_⟩
 ·-- the Given's own block
  obtain ⟨cur,hcur,hc20,hc0,hc1,hcr⟩:=h.giv.blk
  have nB8:some B ≠ u0.ownBlock:=fun e => by have:=(o8 B e.symm).1; omega
  have nB9:some B ≠ u1.ownBlock:=fun e => by have:=(o9 B e.symm).1; omega
  have e3:w3.heap[B]? = some (.cells cur 40):=by
   rw [grow3.block B (by simp; omega) nB8,Below.heap_alloc _ _ _ (by omega)]; exact hcur
  have e4:W.heap[B]? = some (.cells (cur.setIfInBounds 8 (.slice (some ⟨g2,0,none⟩) (qs.length + 1) c2)) 40):=by
   rw [← HW]; exact set_block e3 8 _
  have e5:w5.heap[B]? = _:=(hbel5.block B (by omega)).trans e4
  have e6:w6.heap[B]? = w5.heap[B]?:=by
   rw [grow6.block B (by simp; omega) nB9,Below.heap_alloc _ _ _ (by omega)]
  rw [← hwf]
  refine ⟨_,set_block (e6.trans e5) 9 _,by simp [hc20],?_,?_,?_⟩
  ·rw [Array.getElem?_setIfInBounds_ne (by omega),Array.getElem?_setIfInBounds_ne (by omega)]; exact hc0
  ·rw [Array.getElem?_setIfInBounds_ne (by omega),Array.getElem?_setIfInBounds_ne (by omega)]; exact hc1
  ·intro i h2 h20
   by_cases i8:i = 8
   ·subst i8
    rw [Array.getElem?_setIfInBounds_ne (by omega),Array.getElem?_setIfInBounds_self_of_lt (by omega)]
    rfl
   ·by_cases i9:i = 9
    ·subst i9
     rw [Array.getElem?_setIfInBounds_self_of_lt (by simp; omega)]
     rfl
    ·rw [Array.getElem?_setIfInBounds_ne (by omega),Array.getElem?_setIfInBounds_ne (by omega),hcr i h2 h20,rsQ_other i8 i9,rsQ_other i8 i9]
 ·refine ownsRow_chg h.giv.own0 kall ?_
  rintro k hk (e | e | e)
  ·exact b0 k hk e
  ·exact nO8 k (.inr (.inl hk)) (b0 k hk) e
  ·exact nO9 k (.inr (.inl hk)) (b0 k hk) e
 ·refine ownsRow_chg h.giv.own1 kall ?_
  rintro k hk (e | e | e)
  ·exact b1 k hk e
  ·exact nO8 k (.inr (.inr hk)) (b1 k hk) e
  ·exact nO9 k (.inr (.inr hk)) (b1 k hk) e
 ·intro e he
  have E:=h.giv.ents e he
  have F:=h.ents e he
  refine ⟨E.sl.chg kall ?_,E.sl0.chg kall ?_,E.s,E.s0⟩
  ·rintro x hx _ (e1 | e1 | e1) <;> cases hx
   ·exact E.s (.inl e1)
   ·exact F.1.1 e1
   ·exact F.1.2 e1
  ·rintro x hx _ (e1 | e1 | e1) <;> cases hx
   ·exact E.s0 (.inl e1)
   ·exact F.2.1 e1
   ·exact F.2.2 e1
 ·refine h.bel.trans (kall.below h.bel.size ?_)
  rintro k hk (e | e | e)
  ·have:=h.base; omega
  ·have:=(o8 k e).1; have:=h.base; omega
  ·have:=(o9 k e).1; have:=h.base; omega
 ·have:=ownsRow_chg own3 k3 (fun k hk => by
   simp [Value.ownBlock] at hk
   subst hk
   rintro (e | e)
   ·exact g2B e
   ·exact g2v e)
  simpa [Qn.v,hl] using this
 ·have:=ownsRow_chg own6 (Chg.of_set (S:=fun k => k = B) w6 B 9 (.slice (some ⟨g3,0,none⟩) (qs.length + 1) c3) rfl) (fun k hk => by
   simp [Value.ownBlock] at hk
   subst hk
   exact g3B)
  rw [hwf] at this
  simpa [Qn.v0,hl0] using this
 ·intro k hk
  simp [Value.ownBlock] at hk
  subst hk
  refine ⟨?_,fun e => by simp [Value.ownBlock] at e; exact g23 e.symm⟩
  intro ho
  rcases at3 with e | e
  ·exact (h.ap8 _ e).1 ho
  ·have:=h.giv.own_lt ho; omega
 ·intro k hk ho
  simp [Value.ownBlock] at hk
  subst hk
  rcases at6 with e | e
  ·exact h.ap9 _ e ho
  ·have:=h.giv.own_lt ho; omega
 ·intro e he
  have E:=h.giv.ents e he
  have F:=h.ents e he
  have hne:e.xs ++ marks ≠ []:=by simp [marks]
  have l1:=E.sl.block_lt hne _ rfl
  have l2:=E.sl0.block_lt hne _ rfl
  have s1:¬ Own4 B v0 v1 u0 u1 e.b:=fun ho => by
   rcases ho with ho | ho | ho
   ·exact E.s ho
   ·exact F.1.1 ho
   ·exact F.1.2 ho
  have s2:¬ Own4 B v0 v1 u0 u1 e.b0:=fun ho => by
   rcases ho with ho | ho | ho
   ·exact E.s0 ho
   ·exact F.2.1 ho
   ·exact F.2.2 ho
  exact ⟨⟨fun e1 => hsafe _ l1 s1 (.inr (.inl e1)),fun e1 => hsafe _ l1 s1 (.inr (.inr e1))⟩,fun e1 => hsafe _ l2 s2 (.inr (.inl e1)),fun e1 => hsafe _ l2 s2 (.inr (.inr e1))⟩
 ·intro q hq
  rcases List.mem_append.1 hq with hq | hq
  ·exact (h.qents q hq).step kall hall hsafe
  ·obtain rfl:q = ⟨A,N,ps,A0,N0,ps0⟩:=by simpa using hq
   have n9:∀ k,W.heap.size ≤ k → ¬ (k = B ∨ u1.ownBlock = some k):=by
    rintro k hk (e | e)
    ·omega
    ·have:=(o9 k e).2; omega
   have nS:∀ k,W.heap.size ≤ k → k < w5.heap.size → ¬ Own4 B v0 v1 (.slice (some ⟨g2,0,none⟩) (qs.length + 1) c2) (.slice (some ⟨g3,0,none⟩) (qs.length + 1) c3) k:=by
    rintro k hk hk5 (e | e | e)
    ·have:=h.giv.own_lt e; omega
    ·simp [Value.ownBlock] at e; omega
    ·simp [Value.ownBlock] at e
     rcases at6 with e2 | e2
     ·have:=(o9 _ e2).2; omega
     ·omega
   refine ⟨hf.chg kall (hall _ hf.lt hA) (far.mono hf hall),hf0.chg kB (n9 _ hA0) ?_,by simp only; omega,by simp only; omega,hcon,hsafe _ hf.lt hA,nS _ hA0 hf0.lt,far.mono hf hsafe,?_⟩
   ·exact fun p hp => ⟨fun z hz hne => n9 _ (Nat.le_of_not_lt ((far0 p hp).1 z hz hne)),fun z hz hne => n9 _ (Nat.le_of_not_lt ((far0 p hp).2 z hz hne))⟩
   ·exact fun p hp => ⟨fun z hz hne => nS _ (Nat.le_of_not_lt ((far0 p hp).1 z hz hne)) ((hf0.each p hp).1.1.block_lt hne z hz),fun z hz hne => nS _ (Nat.le_of_not_lt ((far0 p hp).2 z hz hne)) ((hf0.each p hp).1.2.block_lt hne z hz)⟩
end Go.Proofs.YtcajmdfcanopnaaDoor
