/- Rv3 -/
import Derived.Test.YtcajmdfcanopnaaDoorSa0
import Derived.Test.YtcajmdfcanopnaaDoorWrd
import Derived.Test.YtcajmdfcanopnaaDoorBits
import Derived.Deep.RegionHeld3
namespace Go.Proofs.YtcajmdfcanopnaaDoor
open Go.RowKit Go.Deep
set_option linter.unusedVariables false
theorem copyN_any (a:Option Addr) (n c:Nat) (xs:List Nat) (w:World) (h:Sl w a n c xs) (hb:n ≤ 35184372088000) :
  Calls Tryd.prog 53 #[.slice a n c] w fun e w' => ∃ a' c',e = .returned (.slice a' n c') ∧ (Sl w' a' n c' xs ∧ NewAt w.heap.size a') ∧ Below w.heap.size w w':=by
 refine (copy_any a n c xs w h (by omega)).mono ?_
 rintro _ w' ⟨cur,rfl,hblk,hsz,hpre,hhs,hbel⟩
 refine ⟨_,_,rfl,⟨⟨h.len,by omega,by unfold maxLen; omega,.inr ⟨_,_,rfl,cells_of_block hblk ?_⟩⟩,fun x hx => by cases hx; exact Nat.le_refl _⟩,hbel⟩
 intro i hi
 rw [Nat.zero_add]
 exact hpre i (by have:=h.len; omega)

set_option maxRecDepth 100000 in
set_option maxHeartbeats 16000000 in
theorem copyRat_any (g1:Bool) (a1 b1:Option Addr) (n1 c1 m1 d1:Nat) (x1 y1:List Nat) (w:World) (hx1:Sl w a1 n1 c1 x1) (hy1:Sl w b1 m1 d1 y1) (s1:n1 ≤ 35184372088000) (s2:m1 ≤ 35184372088000) :
  Calls Tryd.prog 45 #[ratV g1 a1 n1 c1 b1 m1 d1] w fun e w' => ∃ v,e = .returned v ∧ NewR w w' g1 x1 y1 v:=by
 have bx:=Box.made w g1 a1 n1 c1 b1 m1 d1
 obtain ⟨wa,hwa⟩:∃ wa,ratBox w g1 a1 n1 c1 b1 m1 d1 = wa:=⟨_,rfl⟩
 rw [hwa] at bx
 unfold ratBox at hwa
 have hba:=bx.bel
 obtain ⟨wo,hwo⟩:∃ x,wa.alloc (.cells #[.bool false,.slice none 0 0,.slice none 0 0] 64) = x:=⟨_,rfl⟩
 have hbo:Below wa.heap.size wa wo:=by rw [← hwo]; exact bAl
 have hO:Out wo wa.heap.size:=by rw [← hwo]; exact Out.made wa
 have bx2:=bx.keep hbo
 have hB:=hba.trans (hbo.mono hba.size)
 have hRw:w.heap.size ≤ wa.heap.size:=hba.size
 have hne1:w.heap.size ≠ wa.heap.size:=by have:=bx.lt; omega
 have hne3:wa.heap.size ≠ w.heap.size:=by have:=bx.lt; omega
 have p0:=bx2.d0
 have p1:=bx2.d1
 have p2:=bx2.d2
 have HRw:=Hj hRw
 have HO:=Hj hO
 have HBo:=Hj hB
 have HC1:=Hj (fun (W:World) (hb:Below wo.heap.size wo W) => copyN_any a1 n1 c1 x1 W ((hx1.below hB).below hb) s1)
 have HC2:=Hj (fun (W:World) (hb:Below wo.heap.size wo W) => copyN_any b1 m1 d1 y1 W ((hy1.below hB).below hb) s2)
 clear hx1 hy1 bx bx2 hba hbo hB hO
 unfold ratV
 go_enter Tryd.func45,Tryd.ntmps45
 go_wp2_with fail
 go_region_held3 (fun w' => w'.cell? ⟨w.heap.size,0,none⟩ = some (.bool g1) ∧ w'.cell? ⟨w.heap.size,1,none⟩ = some (.slice a1 n1 c1) ∧ w'.cell? ⟨w.heap.size,2,none⟩ = some (.slice b1 m1 d1)) (first | go_keep | (exact ⟨k0,k1,k2⟩) | (exact ⟨j0,j1,j2⟩))
  (first
   | (go_at_call_of 53 (Value.slice a1 n1 c1); refine (Uh HC1 _ (Below.refl _ _).drew).mono ?_; rintro _ wk ⟨aq,cq,rfl,oq,bl_k⟩; have hb_k:Below wo.heap.size wo wk:=(Below.refl _ _).drew.trans bl_k; have k0:=(ck hb_k p0); have k1:=(ck hb_k p1); have k2:=(ck hb_k p2); have SQ:=Hj oq; clear oq; have HB_k:=Hj hb_k; clear hb_k bl_k)
   | (go_at_call_of 53 (Value.slice b1 m1 d1); refine (Uh HC2 _ (Uh HB_k)).mono ?_; rintro _ wj ⟨ar,cr,rfl,orr,bl_j⟩; have hb_j:Below wo.heap.size wo wj:=(Uh HB_k).trans (bl_j.mono (Uh HB_k).size); have j0:=(ck bl_j k0); have j1:=(ck bl_j k1); have j2:=(ck bl_j k2); have hO3:=(Uh HO).keep hb_j; obtain ⟨x0,q0⟩:=hO3.cells 0 (by decide); obtain ⟨x1',q1⟩:=hO3.cells 1 (by decide); obtain ⟨x2,q2⟩:=hO3.cells 2 (by decide); have r0:=hO3.fz 0 (by decide); have r1:=hO3.fz 1 (by decide); have r2:=hO3.fz 2 (by decide); have HO3:=Hj hO3; have SR:=Hj (And.intro ((Uh SQ).1.below bl_j) (And.intro (show NewAt (wa.heap.size + 1) aq from fun x hx => Nat.le_trans (Uh HO).lt (Nat.le_trans (Below.refl wo.heap.size wo).drew.size ((Uh SQ).2 x hx))) (And.intro orr.1 (show NewAt (wa.heap.size + 1) ar from fun x hx => Nat.le_trans (Uh HO).lt (Nat.le_trans (Uh HB_k).size (orr.2 x hx)))))); clear orr hO3; have HB_j:=Hj hb_j; clear hb_j bl_j))
 have H4:=Hj (three_set wj wa.heap.size (.bool g1) (.slice aq n1 cq) (.slice ar m1 cr) (Uh HO3).cells)
 have HB3:=Hj ((Uh HBo).trans ((Uh HB_j).mono (Uh HBo).size))
 clear q0 q1 q2 r0 r1 r2
 try go_wp2_with fail
 obtain ⟨t0,t1,t2,c4⟩:=Uh H4
 generalize ((wj.setCell ⟨wa.heap.size,0,none⟩ (.bool g1)).setCell ⟨wa.heap.size,1,none⟩ (.slice aq n1 cq)).setCell ⟨wa.heap.size,2,none⟩ (.slice ar m1 cr) = wf at *
 refine bodyPost_ret (by simp [results,Tryd.results45,go_sem,t0,t1,t2]; try rfl) rfl ?_
 obtain ⟨sN,nN,sD,nD⟩:=Uh SR
 exact ⟨_,rfl,newR_of (Uh HRw) (Uh HO3).lt (Uh HB3) sN nN sD nD c4 g1⟩

structure FilQ (w:World) (A N:Nat) (ps:List Nq):Prop where
 blk:∃ cur,w.heap[A]? = some (.cells cur 64) ∧ cur.size = N * 3 ∧ (∃ b,cur[0]? = some (.bool b)) ∧ ∀ i p,ps[i]? = some p → cur[i * 3]? = some (.bool p.g) ∧ cur[i * 3 + 1]? = some (.slice p.a p.n p.c) ∧ cur[i * 3 + 2]? = some (.slice p.b p.m p.d)
 each:∀ p ∈ ps,(Sl w p.a p.n p.c p.x ∧ Sl w p.b p.m p.d p.y) ∧ Ok p.x ∧ Ok p.y
def FarQ (S:Nat → Prop) (ps:List Nq):Prop:=∀ p ∈ ps,(∀ z,p.a = some z → p.x ≠ [] → ¬ S z.block) ∧ ∀ z,p.b = some z → p.y ≠ [] → ¬ S z.block
theorem FilQ.lt {w:World} {A N:Nat} {ps:List Nq} (h:FilQ w A N ps):A < w.heap.size:=by
 obtain ⟨cur,hc,_⟩:=h.blk
 exact block_lt hc
theorem FilQ.chg {S:Nat → Prop} {w w':World} {A N:Nat} {ps:List Nq} (h:FilQ w A N ps) (k:Chg S w w') (hA:¬ S A) (hf:FarQ S ps):FilQ w' A N ps:=by
 obtain ⟨cur,hc,hr⟩:=h.blk
 refine ⟨⟨cur,by rw [k.block A (block_lt hc) hA]; exact hc,hr⟩,fun p hp => ⟨⟨(h.each p hp).1.1.chg k (hf p hp).1,(h.each p hp).1.2.chg k (hf p hp).2⟩,(h.each p hp).2⟩⟩
theorem FilQ.below {w w':World} {A N:Nat} {ps:List Nq} (h:FilQ w A N ps) (k:Below w.heap.size w w'):FilQ w' A N ps :=
 h.chg (S:=fun _ => False) (.of_below k) id (fun p hp => ⟨fun _ _ _ => id,fun _ _ _ => id⟩)
theorem FilQ.sl {w:World} {A N:Nat} {ps:List Nq} (h:FilQ w A N ps) {n:Nat} (hn:ps.length = n) (hN:n ≤ N):SlQ w (some ⟨A,0,none⟩) n N ps:=by
 obtain ⟨cur,hc,hs,_,hr⟩:=h.blk
 refine ⟨hn,hN,.inr ⟨A,0,rfl,fun i p hp => ?_⟩,h.each⟩
 obtain ⟨h0,h1,h2⟩:=hr i p hp
 rw [cell_of_block hc,cell_of_block hc,cell_of_block hc]
 simp only [Nat.zero_add]
 exact ⟨h0,h1,h2⟩
theorem FilQ.next {w:World} {A N:Nat} {ps:List Nq} (h:FilQ w A N ps) (hN:ps.length < N) (p:Nq)
  (hp:(Sl w p.a p.n p.c p.x ∧ Sl w p.b p.m p.d p.y) ∧ Ok p.x ∧ Ok p.y) (hne:∀ q ∈ ps ++ [p],(∀ z,q.a = some z → q.x ≠ [] → z.block ≠ A) ∧ ∀ z,q.b = some z → q.y ≠ [] → z.block ≠ A) {k:Nat} (hk:ps.length = k) :
  FilQ (((w.setCell ⟨A,k * 3,none⟩ (.bool p.g)).setCell ⟨A,k * 3 + 1,none⟩ (.slice p.a p.n p.c)).setCell ⟨A,k * 3 + 2,none⟩ (.slice p.b p.m p.d)) A N (ps ++ [p]) ∧
  Chg (fun j => j = A) w (((w.setCell ⟨A,k * 3,none⟩ (.bool p.g)).setCell ⟨A,k * 3 + 1,none⟩ (.slice p.a p.n p.c)).setCell ⟨A,k * 3 + 2,none⟩ (.slice p.b p.m p.d)):=by
 have hc:Chg (fun j => j = A) w (((w.setCell ⟨A,k * 3,none⟩ (.bool p.g)).setCell ⟨A,k * 3 + 1,none⟩ (.slice p.a p.n p.c)).setCell ⟨A,k * 3 + 2,none⟩ (.slice p.b p.m p.d)) :=
  ((Chg.of_set (S:=fun j => j = A) _ _ _ _ rfl).trans (Chg.of_set (S:=fun j => j = A) _ _ _ _ rfl)).trans (Chg.of_set (S:=fun j => j = A) _ _ _ _ rfl)
 obtain ⟨cur,hb,hs,⟨b0,hf0⟩,hr⟩:=h.blk
 refine ⟨⟨⟨_,set_block (set_block (set_block hb _ _) _ _) _ _,by simpa using hs,?_,?_⟩,?_⟩,hc⟩
 ·by_cases e:k = 0
  ·subst e
   refine ⟨p.g,?_⟩
   rw [Array.getElem?_setIfInBounds_ne (by omega),Array.getElem?_setIfInBounds_ne (by omega)]
   exact Array.getElem?_setIfInBounds_self_of_lt (by omega)
  ·refine ⟨b0,?_⟩
   rw [Array.getElem?_setIfInBounds_ne (by omega),Array.getElem?_setIfInBounds_ne (by omega),Array.getElem?_setIfInBounds_ne (by omega)]
   exact hf0
 ·intro i q hq
  by_cases e:i < ps.length
  ·rw [List.getElem?_append_left e] at hq
   obtain ⟨h0,h1,h2⟩:=hr i q hq
   refine ⟨?_,?_,?_⟩
   ·rw [Array.getElem?_setIfInBounds_ne (by omega),Array.getElem?_setIfInBounds_ne (by omega),Array.getElem?_setIfInBounds_ne (by omega)]; exact h0
   ·rw [Array.getElem?_setIfInBounds_ne (by omega),Array.getElem?_setIfInBounds_ne (by omega),Array.getElem?_setIfInBounds_ne (by omega)]; exact h1
   ·rw [Array.getElem?_setIfInBounds_ne (by omega),Array.getElem?_setIfInBounds_ne (by omega),Array.getElem?_setIfInBounds_ne (by omega)]; exact h2
  ·have hi:i < (ps ++ [p]).length:=(List.getElem?_eq_some_iff.1 hq).1
   have hi2:i = k:=by simp at hi; omega
   subst hi2
   rw [List.getElem?_append_right (by omega),hk,Nat.sub_self] at hq
   obtain rfl:p = q:=by simpa using hq
   have hsz:i * 3 + 2 < cur.size:=by omega
   refine ⟨?_,?_,?_⟩
   ·rw [Array.getElem?_setIfInBounds_ne (by omega),Array.getElem?_setIfInBounds_ne (by omega),Array.getElem?_setIfInBounds_self_of_lt (by omega)]
   ·rw [Array.getElem?_setIfInBounds_ne (by omega),Array.getElem?_setIfInBounds_self_of_lt (by simp; omega)]
   ·rw [Array.getElem?_setIfInBounds_self_of_lt (by simp; omega)]
 ·intro q hq
  have hf:=hne q hq
  have hS:(Sl w q.a q.n q.c q.x ∧ Sl w q.b q.m q.d q.y) ∧ Ok q.x ∧ Ok q.y:=by
   rcases List.mem_append.1 hq with e | e
   ·exact h.each q e
   ·obtain rfl:q = p:=by simpa using e
    exact hp
  exact ⟨⟨hS.1.1.chg hc hf.1,hS.1.2.chg hc hf.2⟩,hS.2⟩
theorem FilQ.cellsAt {w:World} {A N:Nat} {ps:List Nq} (h:FilQ w A N ps) {j:Nat} (hj:j < N * 3):(∃ v,w.cell? ⟨A,j,none⟩ = some v) ∧ w.frozen? ⟨A,j,none⟩ = false:=by
 obtain ⟨cur,hb,hs,_,hr⟩:=h.blk
 exact ⟨⟨cur[j],by rw [cell_of_block hb]; simp [show j < cur.size from by omega]⟩,frozen_of_block hb _⟩
theorem FilQ.begin (w:World) (N:Nat) (cur:Array Value) (hs:cur.size = N * 3) (h0:∃ b,cur[0]? = some (.bool b)):FilQ (w.alloc (.cells cur 64)) w.heap.size N [] :=
 ⟨⟨cur,alloc_block _ _,hs,h0,fun i p hp => by simp at hp⟩,fun p hp => by cases hp⟩
theorem FilQ.first {w:World} {A N:Nat} {ps:List Nq} (h:FilQ w A N ps):∃ b,w.cell? ⟨A,0,none⟩ = some (.bool b):=by
 obtain ⟨cur,hb,hs,⟨b,h0⟩,hr⟩:=h.blk
 exact ⟨b,(cell_of_block hb 0).trans h0⟩
theorem FilQ.pre {w:World} {A N:Nat} {ps qs:List Nq} (h:FilQ w A N (ps ++ qs)):FilQ w A N ps:=by
 obtain ⟨cur,hb,hs,h0,hr⟩:=h.blk
 refine ⟨⟨cur,hb,hs,h0,fun i p hp => hr i p ?_⟩,fun p hp => h.each p (List.mem_append_left _ hp)⟩
 rw [List.getElem?_append_left (List.getElem?_eq_some_iff.1 hp).1]
 exact hp
def conQ (p:Nq):Bool × List Nat × List Nat:=(p.g,p.x,p.y)
def celQ (ps:List Nq):List Value:=ps.flatMap (fun p => [.bool p.g,.slice p.a p.n p.c,.slice p.b p.m p.d])
theorem celQ_len (ps:List Nq):(celQ ps).length = ps.length * 3:=by
 induction ps with
 | nil => rfl
 | cons p r ih => unfold celQ at ih ⊢; simp only [List.flatMap_cons,List.length_append,List.length_cons,List.length_nil]; omega
theorem celQ_app (ps qs:List Nq):celQ (ps ++ qs) = celQ ps ++ celQ qs:=by unfold celQ; simp
theorem celQ_get (ps:List Nq):∀ {i:Nat} {p:Nq},ps[i]? = some p → (celQ ps)[i * 3]? = some (.bool p.g) ∧ (celQ ps)[i * 3 + 1]? = some (.slice p.a p.n p.c) ∧ (celQ ps)[i * 3 + 2]? = some (.slice p.b p.m p.d):=by
 induction ps with
 | nil => intro i p hp; simp at hp
 | cons q r ih =>
  intro i p hp
  have e:celQ (q :: r) = [.bool q.g,.slice q.a q.n q.c,.slice q.b q.m q.d] ++ celQ r:=by unfold celQ; simp
  rw [e]
  match i with
  | 0 => simp at hp; subst hp; simp
  | i + 1 =>
   obtain ⟨h0,h1,h2⟩:=ih (i:=i) (p:=p) (by simpa using hp)
   refine ⟨?_,?_,?_⟩
   ·rw [List.getElem?_append_right (by simp; omega)]; rw [← h0]; congr 1; simp; omega
   ·rw [List.getElem?_append_right (by simp; omega)]; rw [← h1]; congr 1; simp; omega
   ·rw [List.getElem?_append_right (by simp; omega)]; rw [← h2]; congr 1; simp; omega
theorem FilQ.own {w:World} {A N:Nat} {ps:List Nq} (h:FilQ w A N ps) {n base:Nat} (hn:ps.length = n) (hN:n ≤ N) (hb:base ≤ A) (hm:N ≤ maxLen):w.ownsRow base 64 3 (.slice (some ⟨A,0,none⟩) n N) n (celQ ps):=by
 obtain ⟨cur,hc,hs,_,hr⟩:=h.blk
 refine ⟨by rw [celQ_len,hn],.inr ⟨A,N,cur,rfl,hb,hc,hN,hm,hs,?_⟩⟩
 apply List.ext_getElem?
 intro i
 by_cases hi:i < n * 3
 ·have hj:i / 3 < ps.length:=by omega
  have hp:ps[i / 3]? = some ps[i / 3]:=List.getElem?_eq_getElem hj
  obtain ⟨h0,h1,h2⟩:=hr _ _ hp
  obtain ⟨k0,k1,k2⟩:=celQ_get ps hp
  rw [List.getElem?_take,if_pos hi,Array.getElem?_toList]
  have e3:i = i / 3 * 3 ∨ i = i / 3 * 3 + 1 ∨ i = i / 3 * 3 + 2:=by omega
  rcases e3 with e | e | e <;> rw [e]
  ·exact h0.trans k0.symm
  ·exact h1.trans k1.symm
  ·exact h2.trans k2.symm
 ·rw [List.getElem?_eq_none (by simp; omega),List.getElem?_eq_none (by rw [celQ_len]; omega)]
theorem FilQ.of_own {w:World} {base A n N:Nat} {ps:List Nq} (h:w.ownsRow base 64 3 (.slice (some ⟨A,0,none⟩) n N) n (celQ ps)) (hne:ps ≠ []) (he:∀ p ∈ ps,(Sl w p.a p.n p.c p.x ∧ Sl w p.b p.m p.d p.y) ∧ Ok p.x ∧ Ok p.y):FilQ w A N ps:=by
 obtain ⟨hl,h2⟩:=h
 have hl':ps.length = n:=by rw [celQ_len] at hl; omega
 rcases h2 with ⟨h2,h3⟩ | ⟨g',cap,cur,h3,h4,h5,h6,h7,h8,h9⟩
 ·cases h2
 ·injection h3 with e1 e2 e3
  injection e1 with e1
  injection e1 with e1
  subst e1 e3
  have key:∀ i p,ps[i]? = some p → cur[i * 3]? = some (.bool p.g) ∧ cur[i * 3 + 1]? = some (.slice p.a p.n p.c) ∧ cur[i * 3 + 2]? = some (.slice p.b p.m p.d):=fun i p hp => ?_
  ·refine ⟨⟨cur,h5,h8,?_,key⟩,he⟩
   obtain ⟨p,r,rfl⟩:=List.exists_cons_of_ne_nil hne
   exact ⟨p.g,(key 0 p rfl).1⟩
  have hi:i < n:=by have:=(List.getElem?_eq_some_iff.1 hp).1; omega
  obtain ⟨k0,k1,k2⟩:=celQ_get ps hp
  rw [← h9] at k0 k1 k2
  rw [List.getElem?_take,if_pos (by omega),Array.getElem?_toList] at k0 k1 k2
  exact ⟨k0,k1,k2⟩
end Go.Proofs.YtcajmdfcanopnaaDoor
