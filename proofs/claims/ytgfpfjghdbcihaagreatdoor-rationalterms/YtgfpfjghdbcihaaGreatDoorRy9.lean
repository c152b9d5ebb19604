/- Ry7 -/
import Derived.Test.YtgfpfjghdbcihaaGreatDoorRu5
import Derived.Test.YtgfpfjghdbcihaaGreatDoorWi2
import Derived.Test.YtgfpfjghdbcihaaGreatDoorRv4
import Derived.Test.YtgfpfjghdbcihaaGreatDoorPa2
import Derived.Test.YtgfpfjghdbcihaaGreatDoorWr8
import Derived.Test.YtgfpfjghdbcihaaGreatDoorWij
import Derived.Test.YtgfpfjghdbcihaaGreatDoorDv7
import Derived.Test.YtgfpfjghdbcihaaGreatDoorRa6
import Derived.Test.YtgfpfjghdbcihaaGreatDoorRa2
import Derived.Test.YtgfpfjghdbcihaaGreatDoorWic
namespace Go.Proofs.YtgfpfjghdbcihaaGreatDoor
open Go.RowKit Go.Deep
set_option linter.unusedVariables false
def tmP (p:Nq):Bool:=decide (p.y = [1]) && !p.g && !decide (p.x = [])
def tmQ:List Nq → Bool
 | [] => false
 | p :: r => decide (r.length ≤ 1023) && decide (p.y = [1]) && r.all tmP
def tmV (ps:List Nq):List Nat:=ps.map (fun p => val p.x)
def FtF (ps:List Nq):(Bool × List Nat × List Nat) × Int :=
 if mayQ ps then (if tmQ ps then (match ps with
  | [] => ((false,[],[]),1)
  | p :: r => if ftB (tmV r) then ((false,[],[]),2) else AddF p.g p.x p.y false (limbs (ftV (tmV r)).2) (limbs (ftV (tmV r)).1)) else ((false,[],[]),1)) else ((false,[],[]),40)
theorem ftF_bad {ps:List Nq} (h:mayQ ps = false):FtF ps = ((false,[],[]),40):=by unfold FtF; rw [h]; rfl
theorem ftF_no {ps:List Nq} (h:mayQ ps = true) (k:tmQ ps = false):FtF ps = ((false,[],[]),1):=by unfold FtF; rw [h,k]; rfl
theorem ftF_big {p:Nq} {r:List Nq} (h:mayQ (p :: r) = true) (k:tmQ (p :: r) = true) (b:ftB (tmV r) = true):FtF (p :: r) = ((false,[],[]),2):=by unfold FtF; rw [h,k]; simp [b]
theorem ftF_ok {p:Nq} {r:List Nq} (h:mayQ (p :: r) = true) (k:tmQ (p :: r) = true) (b:ftB (tmV r) = false):FtF (p :: r) = AddF p.g p.x p.y false (limbs (ftV (tmV r)).2) (limbs (ftV (tmV r)).1):=by unfold FtF; rw [h,k]; simp [b]
theorem ftB_app (l r:List Nat) (h:ftB r = true):ftB (l ++ r) = true:=by
 induction l with
 | nil => exact h
 | cons t l ih => show (ftB (l ++ r) || _) = true; rw [ih]; rfl
theorem tmP_parts {p:Nq} (h:tmP p = true):p.y = [1] ∧ p.g = false ∧ p.x ≠ []:=by
 unfold tmP at h
 simp only [Bool.and_eq_true,decide_eq_true_eq,Bool.not_eq_true',decide_eq_false_iff_not] at h
 exact ⟨h.1.1,h.1.2,h.2⟩
theorem tmQ_get {p:Nq} {r:List Nq} (h:tmQ (p :: r) = true):r.length ≤ 1023 ∧ p.y = [1] ∧ ∀ q ∈ r,tmP q = true:=by
 unfold tmQ at h
 simp only [Bool.and_eq_true,decide_eq_true_eq] at h
 exact ⟨h.1.1,h.1.2,List.all_eq_true.1 h.2⟩
theorem tm_pos {p:Nq} (ox:Ok p.x) (hm:MayR p.g p.x p.y = true) (h:tmP p = true):0 < val p.x ∧ limbs (val p.x) = p.x ∧ MayL (limbs (val p.x)) = true:=by
 obtain ⟨kx,_,_,_,_⟩:=MayR.parts hm
 have e:=limbs_val ox (MayL.norm kx)
 exact ⟨val_pos_of_may kx (tmP_parts h).2.2,e,by rw [e]; exact kx⟩
theorem FdX.swap {w wr:World} {Rz Ro B:Nat} {z:Nq} (h:FdX w wr Rz Ro B z) (hm:MayR z.g z.y z.x = true) (ha:∀ p,z.a = some p → ¬ p.block = Rz) (hb:∀ p,z.b = some p → ¬ p.block = Rz) :
  FdX w ((wr.setCell ⟨Rz,1,none⟩ (.slice z.b z.m z.d)).setCell ⟨Rz,2,none⟩ (.slice z.a z.n z.c)) Rz Ro B ⟨z.g,z.b,z.m,z.d,z.y,z.a,z.n,z.c,z.x⟩:=by
 have c4:Chg (fun j => j = Rz) wr ((wr.setCell ⟨Rz,1,none⟩ (.slice z.b z.m z.d)).setCell ⟨Rz,2,none⟩ (.slice z.a z.n z.c)):=(Chg.of_set (S:=fun j => j = Rz) _ _ _ _ rfl).trans (Chg.of_set (S:=fun j => j = Rz) _ _ _ _ rfl)
 have t:=h.tx
 have f:∀ j,((wr.setCell ⟨Rz,1,none⟩ (.slice z.b z.m z.d)).setCell ⟨Rz,2,none⟩ (.slice z.a z.n z.c)).frozen? ⟨Rz,j,none⟩ = wr.frozen? ⟨Rz,j,none⟩:=fun j => by rw [World.frozen?_setCell,World.frozen?_setCell]
 have s1:(wr.setCell ⟨Rz,1,none⟩ (.slice z.b z.m z.d)).cell? ⟨Rz,1,none⟩ = some (.slice z.b z.m z.d):=World.cell?_setCell_same _ _ _ t.c1
 have s2:(wr.setCell ⟨Rz,1,none⟩ (.slice z.b z.m z.d)).cell? ⟨Rz,2,none⟩ = some (.slice z.b z.m z.d):=by rw [World.cell?_setCell_other _ _ _ _ (by simp)]; exact t.c2
 have tri:Tri ((wr.setCell ⟨Rz,1,none⟩ (.slice z.b z.m z.d)).setCell ⟨Rz,2,none⟩ (.slice z.a z.n z.c)) Rz (.bool z.g) (.slice z.b z.m z.d) (.slice z.a z.n z.c):=by
  refine ⟨?_,?_,World.cell?_setCell_same _ _ _ s2,(f 0).trans t.f0,(f 1).trans t.f1,(f 2).trans t.f2,Nat.lt_of_lt_of_le t.lt c4.size⟩
  ·rw [World.cell?_setCell_other _ _ _ _ (by simp),World.cell?_setCell_other _ _ _ _ (by simp)]; exact t.c0
  ·rw [World.cell?_setCell_other _ _ _ _ (by simp)]; exact s1
 exact ⟨h.bel.trans (c4.below h.bel.size (fun k hk e => by have:=h.rz; omega)),h.out.chgQ c4 (fun e => h.ne e.symm),tri,h.den.chg c4 (fun p hp _ => hb p hp),h.num.chg c4 (fun p hp _ => ha p hp),h.oy,h.ox,hm,h.nb,h.na,h.pb,h.pa,h.rz,h.ro,h.ne,h.hB⟩
def okT (j:Nat) (p:Nq):Bool:=decide (p.y = [1]) && (decide (j = 0) || (!p.g && !decide (p.x = [])))
theorem tmQ_long {ps:List Nq} (h:1024 < ps.length):tmQ ps = false:=by
 cases ps with
 | nil => simp at h
 | cons p r => unfold tmQ; simp at h; simp; intro k; omega
theorem tmQ_false {ps:List Nq} {i:Nat} {p:Nq} (hp:ps[i]? = some p) (h:okT i p = false):tmQ ps = false:=by
 cases ps with
 | nil => simp at hp
 | cons q r =>
  cases hb:tmQ (q :: r)
  ·rfl
  ·exfalso
   obtain ⟨h1,h2,h3⟩:=tmQ_get hb
   cases i with
   | zero =>
    simp at hp
    subst hp
    unfold okT at h
    rw [h2] at h
    simp at h
   | succ i =>
    have hm:p ∈ r:=List.mem_of_getElem? (by simpa using hp)
    have:=h3 p hm
    unfold okT at h
    unfold tmP at this
    simp only [Bool.and_eq_true,decide_eq_true_eq,Bool.not_eq_true',decide_eq_false_iff_not] at this
    rw [this.1.1,this.1.2] at h
    simp [this.2] at h
theorem tmQ_true {ps:List Nq} {n:Nat} (hl:ps.length = n) (h0:0 < n) (h1:n ≤ 1024) (h:∀ j p,j < n → ps[j]? = some p → okT j p = true):tmQ ps = true:=by
 cases ps with
 | nil => simp at hl; omega
 | cons q r =>
  unfold tmQ
  simp only [Bool.and_eq_true,decide_eq_true_eq]
  refine ⟨⟨by simp at hl; omega,?_⟩,?_⟩
  ·have:=h 0 q h0 rfl
   unfold okT at this
   simp at this
   exact this
  ·rw [List.all_eq_true]
   intro p hp
   obtain ⟨i,hi,e⟩:=List.getElem_of_mem hp
   have:=h (i + 1) p (by simp at hl; omega) (by simp [List.getElem?_eq_getElem hi,e])
   unfold okT at this
   unfold tmP
   simpa [Bool.and_assoc] using this
theorem tm_tail {p:Nq} {r:List Nq} {i:Nat} {q:Nq} (hq:(p :: r)[i + 1]? = some q):tmV ((p :: r).drop (i + 1)) = val q.x :: tmV ((p :: r).drop (i + 2)) ∧ q ∈ r:=by
 refine ⟨?_,List.mem_of_getElem? (by simpa using hq)⟩
 obtain ⟨hi,rfl⟩:=List.getElem?_eq_some_iff.1 hq
 unfold tmV
 rw [List.drop_eq_getElem_cons hi]
 rfl
structure FtX (w wr:World) (Rz Ro:Nat) (ps:List Nq) (i:Nat) (z:Nq):Prop where
 fd:FdX w wr Rz Ro w.heap.size z
 g:z.g = false
 x:z.x = limbs (ftV (tmV (ps.drop i))).2
 y:z.y = limbs (ftV (tmV (ps.drop i))).1
 b:ftB (tmV (ps.drop i)) = false

theorem ft_pos {p0:Nq} {r:List Nq} (hm:mayQ (p0 :: r) = true) (ht:tmQ (p0 :: r) = true) (ho:∀ p ∈ p0 :: r,Ok p.x) (i:Nat):∀ t ∈ tmV ((p0 :: r).drop (i + 1)),0 < t:=by
 intro t h
 unfold tmV at h
 obtain ⟨q,hq,rfl⟩:=List.mem_map.1 h
 have hq1:q ∈ r:=List.mem_of_mem_drop (by simpa using hq)
 have hq2:q ∈ p0 :: r:=List.mem_cons_of_mem _ hq1
 have hmq:MayR q.g q.x q.y = true:=by
  unfold mayQ at hm
  exact List.all_eq_true.1 hm q hq2
 exact (tm_pos (ho q hq2) hmq ((tmQ_get ht).2.2 q hq1)).1
theorem ft_step {p0:Nq} {r:List Nq} (hm:mayQ (p0 :: r) = true) (ht:tmQ (p0 :: r) = true) (ho:∀ p ∈ p0 :: r,Ok p.x) {i:Nat} {q:Nq} (hq:(p0 :: r)[i + 1]? = some q) (hb:ftB (tmV ((p0 :: r).drop (i + 2))) = false) :
  AddF q.g q.x q.y false (limbs (ftV (tmV ((p0 :: r).drop (i + 2)))).2) (limbs (ftV (tmV ((p0 :: r).drop (i + 2)))).1) = if bigN (ftV (tmV ((p0 :: r).drop (i + 1)))).1 then ((false,[],[]),2) else ((false,limbs (ftV (tmV ((p0 :: r).drop (i + 1)))).1,limbs (ftV (tmV ((p0 :: r).drop (i + 1)))).2),0):=by
 obtain ⟨e1,e2⟩:=tm_tail hq
 have hq2:q ∈ p0 :: r:=List.mem_cons_of_mem _ e2
 have hmq:MayR q.g q.x q.y = true:=by
  unfold mayQ at hm
  exact List.all_eq_true.1 hm q hq2
 obtain ⟨t1,t2,t3⟩:=tm_pos (ho q hq2) hmq ((tmQ_get ht).2.2 q e2)
 obtain ⟨u1,u2,_⟩:=tmP_parts ((tmQ_get ht).2.2 q e2)
 have:=addF_term hb (ft_pos hm ht ho (i + 1)) t1 t3
 rw [t2] at this
 rw [u1,u2,this,e1]
theorem ft_big {p0:Nq} {r:List Nq} {i:Nat} (hb:bigN (ftV (tmV ((p0 :: r).drop (i + 1)))).1 = true) (hne:tmV ((p0 :: r).drop (i + 1)) ≠ []):ftB (tmV r) = true:=by
 have h1:ftB (tmV ((p0 :: r).drop (i + 1))) = true:=by
  cases h:tmV ((p0 :: r).drop (i + 1)) with
  | nil => exact absurd h hne
  | cons t s => rw [h] at hb; show (ftB s || _) = true; rw [hb]; simp
 have e:tmV r = tmV (r.take i) ++ tmV (r.drop i):=by unfold tmV; rw [← List.map_append,List.take_append_drop]
 rw [e]
 exact ftB_app _ _ (by simpa using h1)
theorem ft_next {l:List Nat} {t:Nat} (h1:ftB l = false) (h2:bigN (ftV (t :: l)).1 = false):ftB (t :: l) = false:=by
 show (ftB l || _) = false
 rw [h1,h2]; rfl
structure RowQ (w wr:World) (v:Value) (k:Nat) (ps:List Nq):Prop where
 own:wr.ownsRow w.heap.size 25 3 v k (celQ ps)
 each:∀ p ∈ ps,(Sl wr p.a p.n p.c p.x ∧ Sl wr p.b p.m p.d p.y) ∧ Ok p.x ∧ Ok p.y
 far:FarQ (fun j => v.ownBlock = some j) ps
 bel:Below w.heap.size w wr
theorem RowQ.len {w wr:World} {v:Value} {k:Nat} {ps:List Nq} (h:RowQ w wr v k ps):ps.length = k:=by
 have:=h.own.1
 rw [celQ_len] at this
 omega
theorem RowQ.below {w wr w':World} {v:Value} {k:Nat} {ps:List Nq} (h:RowQ w wr v k ps) (b:Below wr.heap.size wr w'):RowQ w w' v k ps :=
 ⟨ownsRow_chg h.own (.of_below (S:=fun _ => False) b) (fun _ _ => id),fun p hp => ⟨⟨(h.each p hp).1.1.below b,(h.each p hp).1.2.below b⟩,(h.each p hp).2⟩,h.far,h.bel.trans (b.mono h.bel.size)⟩
theorem RowQ.form {w wr:World} {v:Value} {k:Nat} {ps:List Nq} (h:RowQ w wr v k ps):∃ a c,v = .slice a k c ∧ SlQ wr a k c ps:=by
 have hl:=h.len
 rcases h.own.2 with ⟨e,h0⟩ | ⟨g,cap,cur,e,hb,h5,h6,h7,h8,h9⟩
 ·subst e h0
  exact ⟨none,0,rfl,⟨hl,Nat.le_refl _,.inl (List.eq_nil_of_length_eq_zero hl),h.each⟩⟩
 ·refine ⟨_,cap,e,?_⟩
  by_cases hp:ps = []
  ·exact ⟨hl,h6,.inl hp,h.each⟩
  ·have ho:=h.own
   rw [e] at ho
   exact (FilQ.of_own ho hp h.each).sl hl h6
theorem RowQ.app {w wr w1:World} {v:Value} {k g c2:Nat} {ps:List Nq} {o:Obj} (h:RowQ w wr v k ps) (p:Nq) (hp:(Sl wr p.a p.n p.c p.x ∧ Sl wr p.b p.m p.d p.y) ∧ Ok p.x ∧ Ok p.y) (hf:FarQ (fun j => v.ownBlock = some j) [p])
  (hown:w1.ownsRow w.heap.size 25 3 (.slice (some ⟨g,0,none⟩) (k + 1) c2) (k + 1) (celQ ps ++ [.bool p.g,.slice p.a p.n p.c,.slice p.b p.m p.d])) (hg:(wr.alloc o).grownBy w1 v.ownBlock) (hat:v.ownBlock = some g ∨ g = wr.heap.size + 1) :
  RowQ w w1 (.slice (some ⟨g,0,none⟩) (k + 1) c2) (k + 1) (ps ++ [p]):=by
 have hz:=h.bel.size
 have al:Below wr.heap.size wr (wr.alloc o):=(Below.refl _ _).alloc (Nat.le_refl _) o
 have kk:Chg (fun j => v.ownBlock = some j) (wr.alloc o) w1:=Chg.of_grown hg (fun k hk => hk)
 have far:FarQ (fun j => v.ownBlock = some j) (ps ++ [p]):=fun q hq => by
  rcases List.mem_append.1 hq with e | e
  ·exact h.far q e
  ·exact hf q e
 have each:∀ q ∈ ps ++ [p],(Sl wr q.a q.n q.c q.x ∧ Sl wr q.b q.m q.d q.y) ∧ Ok q.x ∧ Ok q.y:=fun q hq => by
  rcases List.mem_append.1 hq with e | e
  ·exact h.each q e
  ·obtain rfl:=List.mem_singleton.1 e
   exact hp
 refine ⟨?_,fun q hq => ⟨⟨((each q hq).1.1.below al).chg kk (far q hq).1,((each q hq).1.2.below al).chg kk (far q hq).2⟩,(each q hq).2⟩,?_,Below.grown (h.bel.alloc (by omega) o) hg (by simp; omega) (fun k hk => (own_ge h.own k hk).1)⟩
 ·rw [celQ_app]
  exact hown
 ·intro q hq
  refine ⟨fun z hz' hne e => ?_,fun z hz' hne e => ?_⟩
  ·simp [Value.ownBlock] at e
   rcases hat with h1 | h1
   ·exact (far q hq).1 z hz' hne (by rw [h1,e])
   ·have:=(each q hq).1.1.block_lt hne z hz'
    omega
  ·simp [Value.ownBlock] at e
   rcases hat with h1 | h1
   ·exact (far q hq).2 z hz' hne (by rw [h1,e])
   ·have:=(each q hq).1.2.block_lt hne z hz'
    omega
theorem RowQ.one {w wr:World} (p:Nq) (hp:(Sl wr p.a p.n p.c p.x ∧ Sl wr p.b p.m p.d p.y) ∧ Ok p.x ∧ Ok p.y) (hb:Below w.heap.size w wr) :
  RowQ w (wr.alloc (.cells #[.bool p.g,.slice p.a p.n p.c,.slice p.b p.m p.d] 25)) (.slice (some ⟨wr.heap.size,0,none⟩) 1 1) 1 [p]:=by
 have al:Below wr.heap.size wr (wr.alloc (.cells #[.bool p.g,.slice p.a p.n p.c,.slice p.b p.m p.d] 25)):=bAl
 refine ⟨⟨rfl,.inr ⟨wr.heap.size,1,_,rfl,hb.size,alloc_block _ _,Nat.le_refl _,by unfold maxLen; omega,rfl,rfl⟩⟩,?_,?_,hb.alloc hb.size _⟩
 ·intro q hq
  obtain rfl:=List.mem_singleton.1 hq
  exact ⟨⟨hp.1.1.below al,hp.1.2.below al⟩,hp.2⟩
 ·intro q hq
  obtain rfl:=List.mem_singleton.1 hq
  refine ⟨fun z hz hne e => ?_,fun z hz hne e => ?_⟩
  ·simp [Value.ownBlock] at e
   have:=hp.1.1.block_lt hne z hz
   omega
  ·simp [Value.ownBlock] at e
   have:=hp.1.2.block_lt hne z hz
   omega
def cfT:Nat → Nat → Nat → List Nat × Bool
 | 0,_,l => ([],decide (l = 0))
 | f + 1,d,l => if l = 0 then ([],true) else (d / l :: (cfT f l (d % l)).1,(cfT f l (d % l)).2)
theorem cfT_end (f d:Nat):cfT f d 0 = ([],true):=by
 cases f with
 | zero => simp [cfT]
 | succ f => simp [cfT]
theorem cfT_stop (d:Nat) {l:Nat} (h:l ≠ 0):cfT 0 d l = ([],false):=by simp [cfT,h]
theorem cfT_step (f d:Nat) {l:Nat} (h:l ≠ 0):cfT (f + 1) d l = (d / l :: (cfT f l (d % l)).1,(cfT f l (d % l)).2):=by rw [cfT,if_neg h]
def whN (t:Nat):Bool × List Nat × List Nat:=(false,limbs t,[1])
structure CfR (f0 d0 l0:Nat) (ts:List Nat) (f d l:Nat):Prop where
 eq:cfT f0 d0 l0 = (ts ++ (cfT f d l).1,(cfT f d l).2)
 cnt:ts.length + f = f0
 lt:l < d
 dle:d ≤ d0
theorem CfR.begin (f d l:Nat) (h:l < d):CfR f d l [] f d l:=⟨by simp,by simp,h,Nat.le_refl _⟩
theorem CfR.next {f0 d0 l0 f d l:Nat} {ts:List Nat} (h:CfR f0 d0 l0 ts (f + 1) d l) (hl:l ≠ 0):CfR f0 d0 l0 (ts ++ [d / l]) f l (d % l):=by
 refine ⟨?_,by have:=h.cnt; simp; omega,Nat.mod_lt _ (by omega),by have:=h.lt; have:=h.dle; omega⟩
 rw [h.eq,cfT_step f d hl]
 simp
theorem CfR.all {f0 d0 l0 f d:Nat} {ts:List Nat} (h:CfR f0 d0 l0 ts f d 0):cfT f0 d0 l0 = (ts,true):=by rw [h.eq,cfT_end]; simp
theorem CfR.some {f0 d0 l0 d l:Nat} {ts:List Nat} (h:CfR f0 d0 l0 ts 0 d l) (hl:l ≠ 0):cfT f0 d0 l0 = (ts,false):=by rw [h.eq,cfT_stop d hl]; simp
structure DgO (wr w:World) (V:Nat) (v:Value) (k:Nat):Prop where
 own:wr.ownsRow w.heap.size 5 1 v k (valsB (lst (fun p => chrN (dgt V 10 p)) k))
 top:k = 0 ∨ 0 < V / 10 ^ (k - 1)
 bel:Below w.heap.size w wr
theorem DgO.below {wr w w':World} {V:Nat} {v:Value} {k:Nat} (h:DgO wr w V v k) (b:Below wr.heap.size wr w'):DgO w' w V v k :=
 ⟨ownsRow_below h.own b,h.top,h.bel.trans (b.mono h.bel.size)⟩
theorem DgO.step {wr w w1:World} {V:Nat} {v v':Value} {k:Nat} {o:Obj} (h:DgO wr w V v k) (hp:0 < V / 10 ^ k)
  (hown:w1.ownsRow w.heap.size 5 1 v' (k + 1) (valsB (lst (fun p => chrN (dgt V 10 p)) k) ++ [.int .u8 (chrN (dgt V 10 k):Nat)])) (hg:(wr.alloc o).grownBy w1 v.ownBlock):DgO w1 w V v' (k + 1):=by
 have hz:=h.bel.size
 refine ⟨?_,.inr (by simpa using hp),Below.grown (h.bel.alloc (by omega) o) hg (by simp; omega) (fun k hk => (own_ge h.own k hk).1)⟩
 have e:valsB (lst (fun p => chrN (dgt V 10 p)) k) ++ [.int .u8 (chrN (dgt V 10 k):Nat)] = valsB (lst (fun p => chrN (dgt V 10 p)) (k + 1)):=by
  unfold valsB
  simp only [lst,List.range_succ,List.map_append,List.map_cons,List.map_nil]
 rw [e] at hown
 exact hown
theorem DgO.done {wr w:World} {V:Nat} {v:Value} {k:Nat} (h:DgO wr w V v k) (hV:0 < V) (hq:V / 10 ^ k = 0):TxtOf V 10 k:=by
 have hp:0 < 10 ^ k:=Nat.pow_pos (by decide)
 have h1:V < 10 ^ k:=by
  rcases Nat.lt_or_ge V (10 ^ k) with e | e
  ·exact e
  ·have:=Nat.div_pos e hp
   omega
 rcases h.top with e | e
 ·subst e; simp at h1; omega
 ·have h2:10 ^ (k - 1) ≤ V:=by
   rcases Nat.lt_or_ge V (10 ^ (k - 1)) with g | g
   ·rw [Nat.div_eq_of_lt g] at e; omega
   ·exact g
  refine ⟨?_,h1,.inr h2⟩
  rcases Nat.eq_zero_or_pos k with g | g
  ·subst g; simp at h1; omega
  ·exact g
theorem DgO.len {wr w:World} {V:Nat} {v:Value} {k n:Nat} (h:DgO wr w V v k) (hV:V < 2 ^ (32 * n)):k ≤ 32 * n:=by
 rcases h.top with e | e
 ·omega
 ·rcases Nat.eq_zero_or_pos k with g | g
  ·omega
  have h2:10 ^ (k - 1) ≤ V:=by
   rcases Nat.lt_or_ge V (10 ^ (k - 1)) with g | g
   ·rw [Nat.div_eq_of_lt g] at e; omega
   ·exact g
  have h3:2 ^ (k - 1) ≤ 10 ^ (k - 1):=Nat.pow_le_pow_left (by decide) _
  have:=(Nat.pow_lt_pow_iff_right (by decide:1 < 2)).1 (show 2 ^ (k - 1) < 2 ^ (32 * n) by omega)
  omega
def FarB (v:Value) (a:Option Addr) (xs:List Nat):Prop:=∀ x,a = some x → xs ≠ [] → v.ownBlock ≠ some x.block
theorem FarB.step {w w1:World} {v:Value} {a:Option Addr} {m c g k2 c2:Nat} {xs:List Nat} {o:Obj} (h:FarB v a xs) (hs:Sl w a m c xs) (hg:(w.alloc o).grownBy w1 v.ownBlock) (hat:v.ownBlock = some g ∨ g = w.heap.size + 1):Sl w1 a m c xs ∧ FarB (.slice (some ⟨g,0,none⟩) k2 c2) a xs:=by
 have hs1:Sl (w.alloc o) a m c xs:=hs.below ((Below.refl _ _).alloc (Nat.le_refl _) o)
 refine ⟨hs1.chg (S:=fun k => v.ownBlock = some k) (Chg.of_grown hg (fun k hk => hk)) (fun x hx hne => h x hx hne),?_⟩
 intro x hx hne e
 simp [Value.ownBlock] at e
 rcases hat with h1 | h1
 ·exact h x hx hne (by rw [h1,e])
 ·have:=hs.block_lt hne x hx
  omega
set_option maxHeartbeats 4000000 in
theorem ratIncr_any (a:Option Addr) (n c:Nat) (v:Nat) (w:World) (h:Sl w a n c (limbs v)) (m:MayL (limbs v) = true) (hf:(limbs (v + 1)).length ≤ 2048) :
  Calls Tryz.prog 134 #[.slice a n c] w fun e w' => NewN w w' (v + 1) e:=by
 have H:=Hd h
 have hv:addL (limbs v) [1] = (limbs (v + 1),0):=by
  unfold addL
  have v1:val [1] = 1:=by simp [val]
  have m1:MayL [1] = true:=by decide
  rw [m,m1,(limbs_rep v).val,v1]
  exact fitL_ok (by omega)
 have HV:=Hd hv
 clear h hv
 go_enter Tryz.func134,Tryz.ntmps134
 go_wp2_with fail
 refine (ratOne_any w).mono ?_
 rintro _ w1 ⟨a1,m1,rfl,s1,_,b1⟩
 have K:=nadd_any a a1 n c m1 m1 (limbs v) [1] w1 ((Uh H).below b1) s1 (limbs_rep v).ok (by intro x hx; simp at hx; subst hx; decide)
 rw [Uh HV] at K
 have HK:=Hd K
 have HB:=Hd b1
 clear s1 b1 K
 go_wp2_with fail
 refine (Uh HK).mono ?_
 rintro _ w2 ⟨a2,m2,c2,rfl,s2,n2,b2⟩
 have H2:=Hd (And.intro s2 (And.intro n2 b2))
 clear s2 n2 b2 HK
 go_wp2_with fail
 refine (sure_any _ _ _).mono ?_
 rintro _ _ ⟨rfl,hw⟩
 obtain rfl:=hw.symm
 clear hw
 go_wp2_with fail
 go_ret
 exact ⟨a2,m2,c2,rfl,(Uh H2).1,fun x hx => Nat.le_trans (Uh HB).size ((Uh H2).2.1 x hx),(Uh HB).trans ((Uh H2).2.2.mono (Uh HB).size)⟩

def flQ (g:Bool) (X Y:Nat):Nat:=if g && decide (X % Y ≠ 0) then X / Y + 1 else X / Y
def flL (g:Bool) (X Y:Nat):Nat:=if g && decide (X % Y ≠ 0) then Y - X % Y else X % Y
def FlPost (g:Bool) (X Y:Nat) (w:World) (e:Ending) (w':World):Prop :=
 ∃ a n c b m d a' n' c',e = .returned (.tuple #[ratV (g && decide (flQ g X Y ≠ 0)) a n c b m d,.slice a' n' c']) ∧ Sl w' a n c (limbs (flQ g X Y)) ∧ Sl w' b m d [1] ∧ Sl w' a' n' c' (limbs (flL g X Y)) ∧ NewAt w.heap.size a ∧ NewAt w.heap.size b ∧ Below w.heap.size w w'
theorem limbs_len0 {v:Nat} {m:Nat} (h:(limbs v).length = m):decide (0 < m) = decide (v ≠ 0):=by
 by_cases e:v = 0
 ·have hl:limbs v = []:=by
   have:=limbs_val (xs:=[]) (by intro x hx; cases hx) (by simp [Norm])
   rw [e]; simpa [val] using this
  rw [hl] at h
  simp at h
  simp [e,← h]
 ·have:limbs v ≠ []:=limbs_ne (by omega)
  have h2:=List.length_pos_iff.2 this
  rw [decide_eq_true (by omega),decide_eq_true e]
theorem incr_fit {X Y:Nat} (hY:0 < Y) (h:X % Y ≠ 0):X / Y + 1 ≤ X:=by
 have h2:2 ≤ Y:=by
  rcases Nat.lt_or_ge Y 2 with k | k
  ·obtain rfl:Y = 1:=by omega
   rw [Nat.mod_one] at h
   exact absurd rfl h
  ·exact k
 have h3:=Nat.div_add_mod X Y
 have h4:2 * (X / Y) ≤ Y * (X / Y):=Nat.mul_le_mul_right _ h2
 rcases Nat.eq_zero_or_pos (X / Y) with e | e
 ·rw [e] at h3 ⊢; omega
 ·omega
inductive TmR (g:Bool) (x y:List Nat) (most:Int):List (Bool × List Nat × List Nat) → Bool → Int → Prop where
 | bad (h:MayR g x y = false):TmR g x y most [] false 40
 | arg (h:MayR g x y = true) (hp:most < 1 ∨ 1024 < most):TmR g x y most [] false 1
 | ok (f:Nat) (h:MayR g x y = true) (hp:most = (f:Int) + 1) (hf:f ≤ 1023):TmR g x y most ((g && decide (flQ g (val x) (val y) ≠ 0),limbs (flQ g (val x) (val y)),[1]) :: (cfT f (val y) (flL g (val x) (val y))).1.map whN) (cfT f (val y) (flL g (val x) (val y))).2 0
theorem TmR.uniq {g:Bool} {x y:List Nat} {most:Int} {s t:List (Bool × List Nat × List Nat)} {a b:Bool} {e f:Int} (h:TmR g x y most s a e) (k:TmR g x y most t b f):s = t ∧ a = b ∧ e = f:=by
 cases h with
 | bad h =>
  cases k with
  | bad k => exact ⟨rfl,rfl,rfl⟩
  | arg k hp => rw [h] at k; cases k
  | ok f k hp hf => rw [h] at k; cases k
 | arg h hp =>
  cases k with
  | bad k => rw [h] at k; cases k
  | arg k hp => exact ⟨rfl,rfl,rfl⟩
  | ok f k hp hf => omega
 | ok f h hp hf =>
  cases k with
  | bad k => rw [h] at k; cases k
  | arg k hp => omega
  | ok f2 k hp2 hf2 =>
   obtain rfl:f = f2:=by omega
   exact ⟨rfl,rfl,rfl⟩
def TmPost (g:Bool) (x y:List Nat) (most:Int) (w:World) (e:Ending) (w':World):Prop :=
 ∃ a k c ps b er,e = .returned (.tuple #[.slice a k c,.bool b,.int .i64 er]) ∧ SlQ w' a k c ps ∧ TmR g x y most (ps.map conQ) b er ∧ Below w.heap.size w w'

theorem ok_unit:Ok [1]:=fun y hy => by simp at hy; omega
theorem flL_lt {g:Bool} {X Y:Nat} (hY:0 < Y):flL g X Y < Y:=by
 unfold flL
 have:=Nat.mod_lt X hY
 split
 ·rename_i h
  simp at h
  omega
 ·exact this

structure TmX (w wr:World) (v:Value) (k:Nat) (ps:List Nq) (c0:Bool × List Nat × List Nat) (f0 D0 L0:Nat) (ts:List Nat) (f D L:Nat) (ad:Option Addr) (md cd:Nat) (al:Option Addr) (ml cl:Nat):Prop where
 row:RowQ w wr v k ps
 sd:Sl wr ad md cd (limbs D)
 fd:FarB v ad (limbs D)
 sl:Sl wr al ml cl (limbs L)
 fl:FarB v al (limbs L)
 cf:CfR f0 D0 L0 ts f D L
 con:ps.map conQ = c0 :: ts.map whN
theorem TmX.cnt {w wr:World} {v:Value} {k:Nat} {ps:List Nq} {c0:Bool × List Nat × List Nat} {f0 D0 L0:Nat} {ts:List Nat} {f D L:Nat} {ad:Option Addr} {md cd:Nat} {al:Option Addr} {ml cl:Nat} (h:TmX w wr v k ps c0 f0 D0 L0 ts f D L ad md cd al ml cl):k + f = f0 + 1:=by
 have h1:=h.row.len
 have h2:=congrArg List.length h.con
 simp at h2
 have:=h.cf.cnt
 omega
theorem newFarB {w wr:World} {v:Value} {k:Nat} {ps:List Nq} (h:RowQ w wr v k ps) {a:Option Addr} {xs:List Nat} (h1:NewAt wr.heap.size a):FarB v a xs:=fun x hx _ e => by
 have:=(own_ge h.own _ e).2
 have:=h1 x hx
 omega
theorem FarB.none {a:Option Addr} {xs:List Nat} {wr:World} {m c:Nat} (hs:Sl wr a m c xs) {k c2:Nat}:FarB (.slice (some ⟨wr.heap.size,0,none⟩) k c2) a xs:=fun x hx hne e => by
 simp [Value.ownBlock] at e
 have:=hs.block_lt hne x hx
 omega
theorem TmX.next {w wr w2 w3 w4:World} {v:Value} {k g c2:Nat} {ps:List Nq} {c0:Bool × List Nat × List Nat} {f0 D0 L0:Nat} {ts:List Nat} {f D L:Nat} {ad:Option Addr} {md cd:Nat} {al:Option Addr} {ml cl:Nat} {o:Obj}
  (h:TmX w wr v k ps c0 f0 D0 L0 ts (f + 1) D L ad md cd al ml cl) (hL:L ≠ 0) {an:Option Addr} {mn cn:Nat} (b2:Below wr.heap.size wr w2) (sn:Sl w2 an mn cn (limbs (D % L))) (nn:NewAt wr.heap.size an) (b3:Below w2.heap.size w2 w3)
  (p:Nq) (hp:(Sl w3 p.a p.n p.c p.x ∧ Sl w3 p.b p.m p.d p.y) ∧ Ok p.x ∧ Ok p.y) (np:NewAt wr.heap.size p.a ∧ NewAt wr.heap.size p.b) (hc:conQ p = whN (D / L))
  (hown:w4.ownsRow w.heap.size 25 3 (.slice (some ⟨g,0,none⟩) (k + 1) c2) (k + 1) (celQ ps ++ [.bool p.g,.slice p.a p.n p.c,.slice p.b p.m p.d])) (hg:(w3.alloc o).grownBy w4 v.ownBlock) (hat:v.ownBlock = some g ∨ g = w3.heap.size + 1) :
  TmX w w4 (.slice (some ⟨g,0,none⟩) (k + 1) c2) (k + 1) (ps ++ [p]) c0 f0 D0 L0 (ts ++ [D / L]) f L (D % L) al ml cl an mn cn:=by
 have b23:=b2.trans (b3.mono b2.size)
 have r3:=h.row.below b23
 have farp:FarQ (fun j => v.ownBlock = some j) [p]:=by
  intro q hq
  obtain rfl:=List.mem_singleton.1 hq
  refine ⟨fun z hz _ e => ?_,fun z hz _ e => ?_⟩
  ·have:=(own_ge h.row.own _ e).2; have:=np.1 z hz; omega
  ·have:=(own_ge h.row.own _ e).2; have:=np.2 z hz; omega
 have sl3:=h.sl.below b23
 have sn3:=sn.below b3
 have fn:FarB v an (limbs (D % L)):=newFarB h.row nn
 refine ⟨r3.app p hp farp hown hg hat,(h.fl.step (k2:=k + 1) (c2:=c2) sl3 hg hat).1,(h.fl.step (k2:=k + 1) (c2:=c2) sl3 hg hat).2,(fn.step (k2:=k + 1) (c2:=c2) sn3 hg hat).1,(fn.step (k2:=k + 1) (c2:=c2) sn3 hg hat).2,h.cf.next hL,?_⟩
 rw [List.map_append,h.con]
 simp [hc]
theorem TmX.post {w wr:World} {v:Value} {k:Nat} {ps:List Nq} {g:Bool} {x y:List Nat} {f0:Nat} {ts:List Nat} {f D L:Nat} {ad:Option Addr} {md cd:Nat} {al:Option Addr} {ml cl:Nat} {most:Int}
  (h:TmX w wr v k ps (g && decide (flQ g (val x) (val y) ≠ 0),limbs (flQ g (val x) (val y)),[1]) f0 (val y) (flL g (val x) (val y)) ts f D L ad md cd al ml cl) (hm:MayR g x y = true) (hp:most = (f0:Int) + 1) (hf:f0 ≤ 1023) (hend:L = 0 ∨ f = 0) {W:World} (hb:Below wr.heap.size wr W) :
  TmPost g x y most w (.returned (.tuple #[v,.bool (decide (L = 0)),.int .i64 0])) W:=by
 obtain ⟨a,c,rfl,hs⟩:=(h.row.below hb).form
 refine ⟨a,k,c,ps,decide (L = 0),0,rfl,hs,?_,(h.row.below hb).bel⟩
 rw [h.con]
 have key:cfT f0 (val y) (flL g (val x) (val y)) = (ts,decide (L = 0)):=by
  by_cases hL:L = 0
  ·subst hL
   rw [h.cf.all]
   simp
  ·obtain rfl:f = 0:=by omega
   rw [h.cf.some hL]
   simp [hL]
 have:=TmR.ok (g:=g) (x:=x) (y:=y) (most:=most) f0 hm hp hf
 rw [key] at this
 exact this
theorem signR_lt {g:Bool} {x:List Nat}:decide (signR g x < 1) = (g || decide (x = [])):=by
 unfold signR
 cases g <;> by_cases h:x = [] <;> simp [h]

set_option maxRecDepth 100000 in
set_option maxHeartbeats 8000000 in
theorem rareTerms_any (a:Option Addr) (n c:Nat) (ps:List Nq) (w:World) (h:SlQ w a n c ps) :
  Calls Tryz.prog 88 #[.slice a n c] w fun e w' => e = .returned (.bool (tmQ ps)) ∧ Below w.heap.size w w':=by
 have H:=Hd h
 have HL:=Hd h.len
 by_cases h0:n = 0
 ·subst h0
  have HF:=Hd (show tmQ ps = false by rw [List.eq_nil_of_length_eq_zero h.len]; rfl)
  clear h
  go_enter Tryz.func88,Tryz.ntmps88
  go_wp2_with fail
  go_ret
  rw [Uh HF]
  exact ⟨rfl,Below.refl _ _⟩
 ·by_cases h1:1024 < n
  ·have HF:=Hd (tmQ_long (ps:=ps) (by rw [h.len]; exact h1))
   have t0:((n:Int) == 0) = false:=by simp; omega
   have t1:decide ((1024:Int) < (n:Int)) = true:=by simp; omega
   have t2:(1024:Int) < (n:Int):=by omega
   clear h
   go_enter Tryz.func88,Tryz.ntmps88
   go_wp2_with fail
   go_ret
   rw [Uh HF]
   exact ⟨rfl,Below.refl _ _⟩
  ·have t0:((n:Int) == 0) = false:=by simp; omega
   have t2:¬ (1024:Int) < (n:Int):=by omega
   have t1:decide ((1024:Int) < (n:Int)) = false:=decide_eq_false t2
   have hn1:n ≤ 1024:=by omega
   clear h
   go_enter Tryz.func88,Tryz.ntmps88
   go_wp2_with fail
   go_loopw [14,3] (fun iv _ wr => ∃ i:Nat,i ≤ n ∧ iv = .int .i64 (i:Nat) ∧ Hid (Below w.heap.size w wr) ∧ Hid (∀ j p,j < i → ps[j]? = some p → okT j p = true)) (fun iv _ _ => n - (intOf iv).toNat)
   case atStart => exact ⟨0,Nat.zero_le _,rfl,Below.refl _ _,fun j p hj => by omega⟩
   case round =>
    obtain ⟨i,hi,rfl,HB,HA⟩:=hrel
    by_cases hlt:i < n
    ·have hlt':(i:Int) < (n:Int):=by omega
     obtain ⟨b,off,p,rfl,hp,⟨c0,c1,c2⟩,⟨hs1,hs2⟩,o1,o2⟩:=((Uh H).below (Uh HB)).at' hlt
     have KO:=isOne_any p.b p.m p.d p.y wr hs2 o2
     have KS:=rsign_any p.g p.a p.b p.n p.c p.m p.d p.x wr hs1.len
     unfold ratV at KS
     have HP:=Hd hp
     have HKS:=Hd KS
     clear KS hs1 hs2 o1 o2 hp
     by_cases hy:p.y = [1]
     ·rw [decide_eq_true hy] at KO
      have HKO:=Hd KO
      have HY:=Hd hy
      clear KO hy
      by_cases hi0:i = 0
      ·have ti:¬ (0:Int) < (i:Int):=by omega
       have HA2:=Hd (show ∀ j q,j < i + 1 → ps[j]? = some q → okT j q = true from fun j q hj hq => by
        have hj0:j = i:=by omega
        subst hj0
        rw [Uh HP] at hq
        cases hq
        unfold okT
        rw [Uh HY]
        simp [hi0])
       clear HA HP hi0
       go_wp2_with fail
       refine (Uh HKO).mono ?_
       rintro _ _ ⟨rfl,hw⟩
       obtain rfl:=hw.symm
       clear hw
       go_wp2_with fail
       exact ⟨⟨i + 1,by omega,by go_num,Uh HB,Uh HA2⟩,by simp [intOf]; omega⟩
      ·have ti:(0:Int) < (i:Int):=by omega
       obtain ⟨SV,hSV⟩:∃ s,signR p.g p.x = s:=⟨_,rfl⟩
       have hsl:=signR_lt (g:=p.g) (x:=p.x)
       rw [hSV] at hsl HKS
       have HSL:=Hd hsl
       clear hsl hSV
       by_cases hs:SV < 1
       ·have ts:decide (SV < 1) = true:=decide_eq_true hs
        have HF:=Hd (tmQ_false (Uh HP) (show okT i p = false by
         unfold okT
         rw [Uh HY]
         have:=Uh HSL
         rw [ts] at this
         cases hg:p.g
         ·rw [hg] at this
          simp at this
          simp [hi0,← this]
         ·simp [hi0]))
        clear HA HP HSL hi0
        go_wp2_with fail
        refine (Uh HKO).mono ?_
        rintro _ _ ⟨rfl,hw⟩
        obtain rfl:=hw.symm
        clear hw
        go_wp2_with fail
        refine (Uh HKS).mono ?_
        rintro _ w2 ⟨rfl,b2⟩
        have HB2:=Hd ((Uh HB).trans (b2.mono (Uh HB).size))
        clear b2
        go_wp2_with fail
        go_ret
        rw [Uh HF]
        exact ⟨rfl,Uh HB2⟩
       ·have ts:decide (SV < 1) = false:=decide_eq_false hs
        have HA2:=Hd (show ∀ j q,j < i + 1 → ps[j]? = some q → okT j q = true from fun j q hj hq => by
         by_cases e:j = i
         ·subst e
          rw [Uh HP] at hq
          cases hq
          unfold okT
          rw [Uh HY]
          have:=Uh HSL
          rw [ts] at this
          simp at this
          simp [this.1,this.2]
         ·exact Uh HA j q (by omega) hq)
        clear HA HP HSL hi0
        go_wp2_with fail
        refine (Uh HKO).mono ?_
        rintro _ _ ⟨rfl,hw⟩
        obtain rfl:=hw.symm
        clear hw
        go_wp2_with fail
        refine (Uh HKS).mono ?_
        rintro _ w2 ⟨rfl,b2⟩
        have HB2:=Hd ((Uh HB).trans (b2.mono (Uh HB).size))
        clear b2
        go_wp2_with fail
        exact ⟨⟨i + 1,by omega,by go_num,Uh HB2,Uh HA2⟩,by simp [intOf]; omega⟩
     ·rw [decide_eq_false hy] at KO
      have HKO:=Hd KO
      have HF:=Hd (tmQ_false (Uh HP) (show okT i p = false by unfold okT; simp [hy]))
      clear KO HA HP hy
      go_wp2_with fail
      refine (Uh HKO).mono ?_
      rintro _ _ ⟨rfl,hw⟩
      obtain rfl:=hw.symm
      clear hw
      go_wp2_with fail
      go_ret
      rw [Uh HF]
      exact ⟨rfl,Uh HB⟩
    ·obtain rfl:i = n:=by omega
     have hlt':¬ (i:Int) < (i:Int):=by omega
     have HF:=Hd (tmQ_true (Uh HL) (by omega) hn1 (Uh HA))
     go_wp2_with fail
     go_ret
     rw [Uh HF]
     exact ⟨rfl,Uh HB⟩
end Go.Proofs.YtgfpfjghdbcihaaGreatDoor
