/- Rv3 -/
import Derived.Test.YtgfpfjghdbcihaaGreatDoorWrd
import Derived.Test.YtgfpfjghdbcihaaGreatDoorGiv2
import Derived.Deep.RegionHeld3
import Derived.Test.YtgfpfjghdbcihaaGreatDoorWr1
namespace Go.Proofs.YtgfpfjghdbcihaaGreatDoor
open Go.RowKit Go.Deep
set_option linter.unusedVariables false
theorem copyN_any (a:Option Addr) (n c:Nat) (xs:List Nat) (w:World) (h:Sl w a n c xs) (hb:n ≤ 35184372088000) :
  Calls Tryz.prog 70 #[.slice a n c] w fun e w' => ∃ a' c',e = .returned (.slice a' n c') ∧ (Sl w' a' n c' xs ∧ NewAt w.heap.size a') ∧ Below w.heap.size w w':=by
 refine (copy_any a n c xs w h (by omega)).mono ?_
 rintro _ w' ⟨cur,rfl,hblk,hsz,hpre,hhs,hbel⟩
 refine ⟨_,_,rfl,⟨⟨h.len,by omega,by unfold maxLen; omega,.inr ⟨_,_,rfl,cells_of_block hblk ?_⟩⟩,fun x hx => by cases hx; exact Nat.le_refl _⟩,hbel⟩
 intro i hi
 rw [Nat.zero_add]
 exact hpre i (by have:=h.len; omega)

set_option maxRecDepth 100000 in
set_option maxHeartbeats 16000000 in
theorem copyRat_any (g1:Bool) (a1 b1:Option Addr) (n1 c1 m1 d1:Nat) (x1 y1:List Nat) (w:World) (hx1:Sl w a1 n1 c1 x1) (hy1:Sl w b1 m1 d1 y1) (s1:n1 ≤ 35184372088000) (s2:m1 ≤ 35184372088000) :
  Calls Tryz.prog 96 #[ratV g1 a1 n1 c1 b1 m1 d1] w fun e w' => ∃ v,e = .returned v ∧ NewR w w' g1 x1 y1 v:=by
 have bx:=Box.made w g1 a1 n1 c1 b1 m1 d1
 obtain ⟨wa,hwa⟩:∃ wa,ratBox w g1 a1 n1 c1 b1 m1 d1 = wa:=⟨_,rfl⟩
 rw [hwa] at bx
 unfold ratBox at hwa
 have hba:=bx.bel
 obtain ⟨wo,hwo⟩:∃ x,wa.alloc (.cells #[.bool false,.slice none 0 0,.slice none 0 0] 25) = x:=⟨_,rfl⟩
 have hbo:Below wa.heap.size wa wo:=by rw [← hwo]; exact bAl
 have hO:Out wo wa.heap.size:=by rw [← hwo]; exact Out.made wa
 have bx2:=bx.keep hbo
 have hB:=hba.trans (hbo.mono hba.size)
 have hRw:w.heap.size ≤ wa.heap.size:=hba.size
 have hne1:w.heap.size ≠ wa.heap.size:=by have:=bx.lt; omega
 have hne3:wa.heap.size ≠ w.heap.size:=by have:=bx.lt; omega
 have p0:=bx2.d0
 have p1:=bx2.d1
 have p2:=bx2.d2
 have HRw:=Hd hRw
 have HO:=Hd hO
 have HBo:=Hd hB
 have HC1:=Hd (fun (W:World) (hb:Below wo.heap.size wo W) => copyN_any a1 n1 c1 x1 W ((hx1.below hB).below hb) s1)
 have HC2:=Hd (fun (W:World) (hb:Below wo.heap.size wo W) => copyN_any b1 m1 d1 y1 W ((hy1.below hB).below hb) s2)
 clear hx1 hy1 bx bx2 hba hbo hB hO
 unfold ratV
 go_enter Tryz.func96,Tryz.ntmps96
 go_wp2_with fail
 go_region_held3 (fun w' => w'.cell? ⟨w.heap.size,0,none⟩ = some (.bool g1) ∧ w'.cell? ⟨w.heap.size,1,none⟩ = some (.slice a1 n1 c1) ∧ w'.cell? ⟨w.heap.size,2,none⟩ = some (.slice b1 m1 d1)) (first | go_keep | (exact ⟨k0,k1,k2⟩) | (exact ⟨j0,j1,j2⟩))
  (first
   | (go_at_call_of 70 (Value.slice a1 n1 c1); refine (Uh HC1 _ (Below.refl _ _).drew).mono ?_; rintro _ wk ⟨aq,cq,rfl,oq,bl_k⟩; have hb_k:Below wo.heap.size wo wk:=(Below.refl _ _).drew.trans bl_k; have k0:=(ck hb_k p0); have k1:=(ck hb_k p1); have k2:=(ck hb_k p2); have SQ:=Hd oq; clear oq; have HB_k:=Hd hb_k; clear hb_k bl_k)
   | (go_at_call_of 70 (Value.slice b1 m1 d1); refine (Uh HC2 _ (Uh HB_k)).mono ?_; rintro _ wj ⟨ar,cr,rfl,orr,bl_j⟩; have hb_j:Below wo.heap.size wo wj:=(Uh HB_k).trans (bl_j.mono (Uh HB_k).size); have j0:=(ck bl_j k0); have j1:=(ck bl_j k1); have j2:=(ck bl_j k2); have hO3:=(Uh HO).keep hb_j; obtain ⟨x0,q0⟩:=hO3.cells 0 (by decide); obtain ⟨x1',q1⟩:=hO3.cells 1 (by decide); obtain ⟨x2,q2⟩:=hO3.cells 2 (by decide); have r0:=hO3.fz 0 (by decide); have r1:=hO3.fz 1 (by decide); have r2:=hO3.fz 2 (by decide); have HO3:=Hd hO3; have SR:=Hd (And.intro ((Uh SQ).1.below bl_j) (And.intro (show NewAt (wa.heap.size + 1) aq from fun x hx => Nat.le_trans (Uh HO).lt (Nat.le_trans (Below.refl wo.heap.size wo).drew.size ((Uh SQ).2 x hx))) (And.intro orr.1 (show NewAt (wa.heap.size + 1) ar from fun x hx => Nat.le_trans (Uh HO).lt (Nat.le_trans (Uh HB_k).size (orr.2 x hx)))))); clear orr hO3; have HB_j:=Hd hb_j; clear hb_j bl_j))
 have H4:=Hd (three_set wj wa.heap.size (.bool g1) (.slice aq n1 cq) (.slice ar m1 cr) (Uh HO3).cells)
 have HB3:=Hd ((Uh HBo).trans ((Uh HB_j).mono (Uh HBo).size))
 clear q0 q1 q2 r0 r1 r2
 try go_wp2_with fail
 obtain ⟨t0,t1,t2,c4⟩:=Uh H4
 generalize ((wj.setCell ⟨wa.heap.size,0,none⟩ (.bool g1)).setCell ⟨wa.heap.size,1,none⟩ (.slice aq n1 cq)).setCell ⟨wa.heap.size,2,none⟩ (.slice ar m1 cr) = wf at *
 refine bodyPost_ret (by simp [results,Tryz.results96,go_sem,t0,t1,t2]; try rfl) rfl ?_
 obtain ⟨sN,nN,sD,nD⟩:=Uh SR
 exact ⟨_,rfl,newR_of (Uh HRw) (Uh HO3).lt (Uh HB3) sN nN sD nD c4 g1⟩

structure FilQ (w:World) (A N:Nat) (ps:List Nq):Prop where
 blk:∃ cur,w.heap[A]? = some (.cells cur 25) ∧ cur.size = N * 3 ∧ (∃ b,cur[0]? = some (.bool b)) ∧ ∀ i p,ps[i]? = some p → cur[i * 3]? = some (.bool p.g) ∧ cur[i * 3 + 1]? = some (.slice p.a p.n p.c) ∧ cur[i * 3 + 2]? = some (.slice p.b p.m p.d)
 each:∀ p ∈ ps,(Sl w p.a p.n p.c p.x ∧ Sl w p.b p.m p.d p.y) ∧ Ok p.x ∧ Ok p.y
def FarQ (S:Nat → Prop) (ps:List Nq):Prop:=∀ p ∈ ps,(∀ z,p.a = some z → p.x ≠ [] → ¬ S z.block) ∧ ∀ z,p.b = some z → p.y ≠ [] → ¬ S z.block
theorem FilQ.lt {w:World} {A N:Nat} {ps:List Nq} (h:FilQ w A N ps):A < w.heap.size:=by
 obtain ⟨cur,hc,_⟩:=h.blk
 exact block_lt hc
theorem FilQ.chg {S:Nat → Prop} {w w':World} {A N:Nat} {ps:List Nq} (h:FilQ w A N ps) (k:Chg S w w') (hA:¬ S A) (hf:FarQ S ps):FilQ w' A N ps:=by
 obtain ⟨cur,hc,hr⟩:=h.blk
 refine ⟨⟨cur,by rw [k.block A (block_lt hc) hA]; exact hc,hr⟩,fun p hp => ⟨⟨(h.each p hp).1.1.chg k (hf p hp).1,(h.each p hp).1.2.chg k (hf p hp).2⟩,(h.each p hp).2⟩⟩
theorem FilQ.below {w w':World} {A N:Nat} {ps:List Nq} (h:FilQ w A N ps) (k:Below w.heap.size w w'):FilQ w' A N ps :=
 h.chg (S:=fun _ => False) (.of_below k) id (fun p hp => ⟨fun _ _ _ => id,fun _ _ _ => id⟩)
theorem FilQ.sl {w:World} {A N:Nat} {ps:List Nq} (h:FilQ w A N ps) {n:Nat} (hn:ps.length = n) (hN:n ≤ N):SlQ w (some ⟨A,0,none⟩) n N ps:=by
 obtain ⟨cur,hc,hs,_,hr⟩:=h.blk
 refine ⟨hn,hN,.inr ⟨A,0,rfl,fun i p hp => ?_⟩,h.each⟩
 obtain ⟨h0,h1,h2⟩:=hr i p hp
 rw [cell_of_block hc,cell_of_block hc,cell_of_block hc]
 simp only [Nat.zero_add]
 exact ⟨h0,h1,h2⟩
theorem FilQ.next {w:World} {A N:Nat} {ps:List Nq} (h:FilQ w A N ps) (hN:ps.length < N) (p:Nq)
  (hp:(Sl w p.a p.n p.c p.x ∧ Sl w p.b p.m p.d p.y) ∧ Ok p.x ∧ Ok p.y) (hne:∀ q ∈ ps ++ [p],(∀ z,q.a = some z → q.x ≠ [] → z.block ≠ A) ∧ ∀ z,q.b = some z → q.y ≠ [] → z.block ≠ A) {k:Nat} (hk:ps.length = k) :
  FilQ (((w.setCell ⟨A,k * 3,none⟩ (.bool p.g)).setCell ⟨A,k * 3 + 1,none⟩ (.slice p.a p.n p.c)).setCell ⟨A,k * 3 + 2,none⟩ (.slice p.b p.m p.d)) A N (ps ++ [p]) ∧
  Chg (fun j => j = A) w (((w.setCell ⟨A,k * 3,none⟩ (.bool p.g)).setCell ⟨A,k * 3 + 1,none⟩ (.slice p.a p.n p.c)).setCell ⟨A,k * 3 + 2,none⟩ (.slice p.b p.m p.d)):=by
 have hc:Chg (fun j => j = A) w (((w.setCell ⟨A,k * 3,none⟩ (.bool p.g)).setCell ⟨A,k * 3 + 1,none⟩ (.slice p.a p.n p.c)).setCell ⟨A,k * 3 + 2,none⟩ (.slice p.b p.m p.d)) :=
  ((Chg.of_set (S:=fun j => j = A) _ _ _ _ rfl).trans (Chg.of_set (S:=fun j => j = A) _ _ _ _ rfl)).trans (Chg.of_set (S:=fun j => j = A) _ _ _ _ rfl)
 obtain ⟨cur,hb,hs,⟨b0,hf0⟩,hr⟩:=h.blk
 refine ⟨⟨⟨_,set_block (set_block (set_block hb _ _) _ _) _ _,by simpa using hs,?_,?_⟩,?_⟩,hc⟩
 ·by_cases e:k = 0
  ·subst e
   refine ⟨p.g,?_⟩
   rw [Array.getElem?_setIfInBounds_ne (by omega),Array.getElem?_setIfInBounds_ne (by omega)]
   exact Array.getElem?_setIfInBounds_self_of_lt (by omega)
  ·refine ⟨b0,?_⟩
   rw [Array.getElem?_setIfInBounds_ne (by omega),Array.getElem?_setIfInBounds_ne (by omega),Array.getElem?_setIfInBounds_ne (by omega)]
   exact hf0
 ·intro i q hq
  by_cases e:i < ps.length
  ·rw [List.getElem?_append_left e] at hq
   obtain ⟨h0,h1,h2⟩:=hr i q hq
   refine ⟨?_,?_,?_⟩
   ·rw [Array.getElem?_setIfInBounds_ne (by omega),Array.getElem?_setIfInBounds_ne (by omega),Array.getElem?_setIfInBounds_ne (by omega)]; exact h0
   ·rw [Array.getElem?_setIfInBounds_ne (by omega),Array.getElem?_setIfInBounds_ne (by omega),Array.getElem?_setIfInBounds_ne (by omega)]; exact h1
   ·rw [Array.getElem?_setIfInBounds_ne (by omega),Array.getElem?_setIfInBounds_ne (by omega),Array.getElem?_setIfInBounds_ne (by omega)]; exact h2
  ·have hi:i < (ps ++ [p]).length:=(List.getElem?_eq_some_iff.1 hq).1
   have hi2:i = k:=by simp at hi; omega
   subst hi2
   rw [List.getElem?_append_right (by omega),hk,Nat.sub_self] at hq
   obtain rfl:p = q:=by simpa using hq
   have hsz:i * 3 + 2 < cur.size:=by omega
   refine ⟨?_,?_,?_⟩
   ·rw [Array.getElem?_setIfInBounds_ne (by omega),Array.getElem?_setIfInBounds_ne (by omega),Array.getElem?_setIfInBounds_self_of_lt (by omega)]
   ·rw [Array.getElem?_setIfInBounds_ne (by omega),Array.getElem?_setIfInBounds_self_of_lt (by simp; omega)]
   ·rw [Array.getElem?_setIfInBounds_self_of_lt (by simp; omega)]
 ·intro q hq
  have hf:=hne q hq
  have hS:(Sl w q.a q.n q.c q.x ∧ Sl w q.b q.m q.d q.y) ∧ Ok q.x ∧ Ok q.y:=by
   rcases List.mem_append.1 hq with e | e
   ·exact h.each q e
   ·obtain rfl:q = p:=by simpa using e
    exact hp
  exact ⟨⟨hS.1.1.chg hc hf.1,hS.1.2.chg hc hf.2⟩,hS.2⟩
theorem FilQ.cellsAt {w:World} {A N:Nat} {ps:List Nq} (h:FilQ w A N ps) {j:Nat} (hj:j < N * 3):(∃ v,w.cell? ⟨A,j,none⟩ = some v) ∧ w.frozen? ⟨A,j,none⟩ = false:=by
 obtain ⟨cur,hb,hs,_,hr⟩:=h.blk
 exact ⟨⟨cur[j],by rw [cell_of_block hb]; simp [show j < cur.size from by omega]⟩,frozen_of_block hb _⟩
theorem FilQ.begin (w:World) (N:Nat) (cur:Array Value) (hs:cur.size = N * 3) (h0:∃ b,cur[0]? = some (.bool b)):FilQ (w.alloc (.cells cur 25)) w.heap.size N [] :=
 ⟨⟨cur,alloc_block _ _,hs,h0,fun i p hp => by simp at hp⟩,fun p hp => by cases hp⟩
theorem FilQ.first {w:World} {A N:Nat} {ps:List Nq} (h:FilQ w A N ps):∃ b,w.cell? ⟨A,0,none⟩ = some (.bool b):=by
 obtain ⟨cur,hb,hs,⟨b,h0⟩,hr⟩:=h.blk
 exact ⟨b,(cell_of_block hb 0).trans h0⟩
theorem FilQ.pre {w:World} {A N:Nat} {ps qs:List Nq} (h:FilQ w A N (ps ++ qs)):FilQ w A N ps:=by
 obtain ⟨cur,hb,hs,h0,hr⟩:=h.blk
 refine ⟨⟨cur,hb,hs,h0,fun i p hp => hr i p ?_⟩,fun p hp => h.each p (List.mem_append_left _ hp)⟩
 rw [List.getElem?_append_left (List.getElem?_eq_some_iff.1 hp).1]
 exact hp
def conQ (p:Nq):Bool × List Nat × List Nat:=(p.g,p.x,p.y)
def celQ (ps:List Nq):List Value:=ps.flatMap (fun p => [.bool p.g,.slice p.a p.n p.c,.slice p.b p.m p.d])
theorem celQ_len (ps:List Nq):(celQ ps).length = ps.length * 3:=by
 induction ps with
 | nil => rfl
 | cons p r ih => unfold celQ at ih ⊢; simp only [List.flatMap_cons,List.length_append,List.length_cons,List.length_nil]; omega
theorem celQ_app (ps qs:List Nq):celQ (ps ++ qs) = celQ ps ++ celQ qs:=by unfold celQ; simp
theorem celQ_get (ps:List Nq):∀ {i:Nat} {p:Nq},ps[i]? = some p → (celQ ps)[i * 3]? = some (.bool p.g) ∧ (celQ ps)[i * 3 + 1]? = some (.slice p.a p.n p.c) ∧ (celQ ps)[i * 3 + 2]? = some (.slice p.b p.m p.d):=by
 induction ps with
 | nil => intro i p hp; simp at hp
 | cons q r ih =>
  intro i p hp
  have e:celQ (q :: r) = [.bool q.g,.slice q.a q.n q.c,.slice q.b q.m q.d] ++ celQ r:=by unfold celQ; simp
  rw [e]
  match i with
  | 0 => simp at hp; subst hp; simp
  | i + 1 =>
   obtain ⟨h0,h1,h2⟩:=ih (i:=i) (p:=p) (by simpa using hp)
   refine ⟨?_,?_,?_⟩
   ·rw [List.getElem?_append_right (by simp; omega)]; rw [← h0]; congr 1; simp; omega
   ·rw [List.getElem?_append_right (by simp; omega)]; rw [← h1]; congr 1; simp; omega
   ·rw [List.getElem?_append_right (by simp; omega)]; rw [← h2]; congr 1; simp; omega
theorem FilQ.own {w:World} {A N:Nat} {ps:List Nq} (h:FilQ w A N ps) {n base:Nat} (hn:ps.length = n) (hN:n ≤ N) (hb:base ≤ A) (hm:N ≤ maxLen):w.ownsRow base 25 3 (.slice (some ⟨A,0,none⟩) n N) n (celQ ps):=by
 obtain ⟨cur,hc,hs,_,hr⟩:=h.blk
 refine ⟨by rw [celQ_len,hn],.inr ⟨A,N,cur,rfl,hb,hc,hN,hm,hs,?_⟩⟩
 apply List.ext_getElem?
 intro i
 by_cases hi:i < n * 3
 ·have hj:i / 3 < ps.length:=by omega
  have hp:ps[i / 3]? = some ps[i / 3]:=List.getElem?_eq_getElem hj
  obtain ⟨h0,h1,h2⟩:=hr _ _ hp
  obtain ⟨k0,k1,k2⟩:=celQ_get ps hp
  rw [List.getElem?_take,if_pos hi,Array.getElem?_toList]
  have e3:i = i / 3 * 3 ∨ i = i / 3 * 3 + 1 ∨ i = i / 3 * 3 + 2:=by omega
  rcases e3 with e | e | e <;> rw [e]
  ·exact h0.trans k0.symm
  ·exact h1.trans k1.symm
  ·exact h2.trans k2.symm
 ·rw [List.getElem?_eq_none (by simp; omega),List.getElem?_eq_none (by rw [celQ_len]; omega)]
theorem FilQ.of_own {w:World} {base A n N:Nat} {ps:List Nq} (h:w.ownsRow base 25 3 (.slice (some ⟨A,0,none⟩) n N) n (celQ ps)) (hne:ps ≠ []) (he:∀ p ∈ ps,(Sl w p.a p.n p.c p.x ∧ Sl w p.b p.m p.d p.y) ∧ Ok p.x ∧ Ok p.y):FilQ w A N ps:=by
 obtain ⟨hl,h2⟩:=h
 have hl':ps.length = n:=by rw [celQ_len] at hl; omega
 rcases h2 with ⟨h2,h3⟩ | ⟨g',cap,cur,h3,h4,h5,h6,h7,h8,h9⟩
 ·cases h2
 ·injection h3 with e1 e2 e3
  injection e1 with e1
  injection e1 with e1
  subst e1 e3
  have key:∀ i p,ps[i]? = some p → cur[i * 3]? = some (.bool p.g) ∧ cur[i * 3 + 1]? = some (.slice p.a p.n p.c) ∧ cur[i * 3 + 2]? = some (.slice p.b p.m p.d):=fun i p hp => ?_
  ·refine ⟨⟨cur,h5,h8,?_,key⟩,he⟩
   obtain ⟨p,r,rfl⟩:=List.exists_cons_of_ne_nil hne
   exact ⟨p.g,(key 0 p rfl).1⟩
  have hi:i < n:=by have:=(List.getElem?_eq_some_iff.1 hp).1; omega
  obtain ⟨k0,k1,k2⟩:=celQ_get ps hp
  rw [← h9] at k0 k1 k2
  rw [List.getElem?_take,if_pos (by omega),Array.getElem?_toList] at k0 k1 k2
  exact ⟨k0,k1,k2⟩
theorem Chg.then' {S T:Nat → Prop} {a b c:World} (h:Chg S a b) (k:Chg T b c) (hs:∀ k,k < a.heap.size → ¬ S k → ¬ T k):Chg S a c :=
 ⟨k.os.trans h.os,k.tape.trans h.tape,k.output.trans h.output,Nat.le_trans h.size k.size,fun i hi hS => (k.block i (Nat.lt_of_lt_of_le hi h.size) (hs i hi hS)).trans (h.block i hi hS)⟩

theorem FarQ.mono {w:World} {A N:Nat} {ps:List Nq} {S T:Nat → Prop} (h:FarQ S ps) (hf:FilQ w A N ps) (hs:∀ k,k < w.heap.size → ¬ S k → ¬ T k):FarQ T ps :=
 fun p hp => ⟨fun z hz hne => hs _ ((hf.each p hp).1.1.block_lt hne z hz) ((h p hp).1 z hz hne),fun z hz hne => hs _ ((hf.each p hp).1.2.block_lt hne z hz) ((h p hp).2 z hz hne)⟩

structure Qn where
 b:Nat
 c:Nat
 ps:List Nq
 b0:Nat
 c0:Nat
 ps0:List Nq
def Qn.v (q:Qn):Value:=.slice (some ⟨q.b,0,none⟩) q.ps.length q.c
def Qn.v0 (q:Qn):Value:=.slice (some ⟨q.b0,0,none⟩) q.ps0.length q.c0
structure QnOk (w:World) (S:Nat → Prop) (q:Qn):Prop where
 f:FilQ w q.b q.c q.ps
 f0:FilQ w q.b0 q.c0 q.ps0
 le:q.ps.length ≤ q.c
 le0:q.ps0.length ≤ q.c0
 con:q.ps.map conQ = q.ps0.map conQ
 s:¬ S q.b
 s0:¬ S q.b0
 far:FarQ S q.ps
 far0:FarQ S q.ps0
theorem QnOk.step {w w':World} {S S' T:Nat → Prop} {q:Qn} (h:QnOk w S q) (k:Chg T w w') (h1:∀ k,k < w.heap.size → ¬ S k → ¬ T k) (h2:∀ k,k < w.heap.size → ¬ S k → ¬ S' k):QnOk w' S' q :=
 ⟨h.f.chg k (h1 _ h.f.lt h.s) (h.far.mono h.f h1),h.f0.chg k (h1 _ h.f0.lt h.s0) (h.far0.mono h.f0 h1),h.le,h.le0,h.con,h2 _ h.f.lt h.s,h2 _ h.f0.lt h.s0,h.far.mono h.f h2,h.far0.mono h.f0 h2⟩

def Own4 (B:Nat) (v0 v1 u0 u1:Value) (k:Nat):Prop:=Own B v0 v1 k ∨ u0.ownBlock = some k ∨ u1.ownBlock = some k
def rsQ (u0 u1:Value) (i:Nat):Value:=if i = 8 then u0 else if i = 9 then u1 else .slice none 0 0

structure LawQ (w:World) (B:Nat) (v0 v1 u0 u1:Value) (es:List Ent) (qs:List Qn) (w0:World):Prop where
 giv:GivR w B v0 v1 es (rsQ u0 u1)
 bel:Below w0.heap.size w0 w
 base:w0.heap.size ≤ B
 own8:w.ownsRow (B + 1) 50 1 u0 qs.length (qs.map Qn.v)
 own9:w.ownsRow (B + 1) 50 1 u1 qs.length (qs.map Qn.v0)
 ap8:∀ k,u0.ownBlock = some k → ¬ Own B v0 v1 k ∧ u1.ownBlock ≠ some k
 ap9:∀ k,u1.ownBlock = some k → ¬ Own B v0 v1 k
 ents:∀ e ∈ es,(u0.ownBlock ≠ some e.b ∧ u1.ownBlock ≠ some e.b) ∧ u0.ownBlock ≠ some e.b0 ∧ u1.ownBlock ≠ some e.b0
 qents:∀ q ∈ qs,QnOk w (Own4 B v0 v1 u0 u1) q

theorem LawQ.grow {w w':World} {B:Nat} {v0 v1 v0' v1' u0 u1:Value} {es fs:List Ent} {qs:List Qn} {w0:World} (h:LawQ w B v0 v1 u0 u1 es qs w0) (hg:GivR w' B v0' v1' (es ++ fs) (rsQ u0 u1)) (hc:Chg (Own B v0 v1) w w')
  (hs:∀ k,k < w.heap.size → ¬ Own B v0 v1 k → ¬ Own B v0' v1' k) (hf:∀ e ∈ fs,w.heap.size ≤ e.b ∧ w.heap.size ≤ e.b0):LawQ w' B v0' v1' u0 u1 (es ++ fs) qs w0:=by
 have o8:=own_ge h.own8
 have o9:=own_ge h.own9
 refine ⟨hg,h.bel.trans (hc.below h.bel.size ?_),h.base,ownsRow_chg h.own8 hc (fun k hk => (h.ap8 k hk).1),ownsRow_chg h.own9 hc h.ap9,fun k hk => ⟨hs k (o8 k hk).2 (h.ap8 k hk).1,(h.ap8 k hk).2⟩,fun k hk => hs k (o9 k hk).2 (h.ap9 k hk),?_,?_⟩
 ·intro k hk ho
  have:=h.giv.own_ge ho
  have:=h.base
  omega
 ·intro e he
  rcases List.mem_append.1 he with he | he
  ·exact h.ents e he
  ·have:=hf e he
   refine ⟨⟨fun hh => ?_,fun hh => ?_⟩,fun hh => ?_,fun hh => ?_⟩
   ·have:=(o8 _ hh).2; omega
   ·have:=(o9 _ hh).2; omega
   ·have:=(o8 _ hh).2; omega
   ·have:=(o9 _ hh).2; omega
 ·intro q hq
  refine (h.qents q hq).step hc (fun k _ hn ho => hn (.inl ho)) ?_
  rintro k hk hn (ho | ho)
  ·exact hs k hk (fun hh => hn (.inl hh)) ho
  ·exact hn (.inr ho)

theorem LawQ.own_lt {w:World} {B:Nat} {v0 v1 u0 u1:Value} {es:List Ent} {qs:List Qn} {w0:World} (h:LawQ w B v0 v1 u0 u1 es qs w0) {k:Nat} (hk:Own4 B v0 v1 u0 u1 k):k < w.heap.size:=by
 rcases hk with hk | hk | hk
 ·exact h.giv.own_lt hk
 ·exact (own_ge h.own8 k hk).2
 ·exact (own_ge h.own9 k hk).2
theorem LawQ.own_ge {w:World} {B:Nat} {v0 v1 u0 u1:Value} {es:List Ent} {qs:List Qn} {w0:World} (h:LawQ w B v0 v1 u0 u1 es qs w0) {k:Nat} (hk:Own4 B v0 v1 u0 u1 k):B ≤ k:=by
 rcases hk with hk | hk | hk
 ·exact h.giv.own_ge hk
 ·have:=(Go.Proofs.YtgfpfjghdbcihaaGreatDoor.own_ge h.own8 k hk).1; omega
 ·have:=(Go.Proofs.YtgfpfjghdbcihaaGreatDoor.own_ge h.own9 k hk).1; omega
theorem LawQ.below {w w':World} {B:Nat} {v0 v1 u0 u1:Value} {es:List Ent} {qs:List Qn} {w0:World} (h:LawQ w B v0 v1 u0 u1 es qs w0) (k:Below w.heap.size w w'):LawQ w' B v0 v1 u0 u1 es qs w0:=by
 have:=h.grow (fs:=[]) (w':=w') (v0':=v0) (v1':=v1) (by simpa using h.giv.below k) (.of_below k) (fun _ _ h => h) (fun e he => by cases he)
 simpa using this
theorem LawQ.setA {w w':World} {B:Nat} {v0 v1 u0 u1:Value} {es:List Ent} {qs:List Qn} {w0:World} (h:LawQ w B v0 v1 u0 u1 es qs w0) {A N:Nat} {ps:List Nq} (hf:FilQ w A N ps) (hc:Chg (fun j => j = A) w w') (hw:w0.heap.size ≤ A) (hO:¬ Own4 B v0 v1 u0 u1 A)
  (hq:∀ q ∈ qs,(q.b ≠ A ∧ q.b0 ≠ A) ∧ FarQ (fun j => j = A) q.ps ∧ FarQ (fun j => j = A) q.ps0):LawQ w' B v0 v1 u0 u1 es qs w0:=by
 obtain ⟨b,hR⟩:=hf.first
 refine ⟨h.giv.setR hR hc (fun ho => hO (.inl ho)),h.bel.trans (hc.below h.bel.size (fun k hk => by omega)),h.base,ownsRow_chg h.own8 hc (fun k hk e => hO (.inr (.inl (by rw [← e]; exact hk)))),ownsRow_chg h.own9 hc (fun k hk e => hO (.inr (.inr (by rw [← e]; exact hk)))),h.ap8,h.ap9,h.ents,?_⟩
 intro q hq'
 have Q:=h.qents q hq'
 obtain ⟨⟨h1,h2⟩,h3,h4⟩:=hq q hq'
 exact ⟨Q.f.chg hc h1 h3,Q.f0.chg hc h2 h4,Q.le,Q.le0,Q.con,Q.s,Q.s0,Q.far,Q.far0⟩

theorem rsQ_other {u0 u1:Value} {i:Nat} (h8:i ≠ 8) (h9:i ≠ 9):rsQ u0 u1 i = .slice none 0 0:=by unfold rsQ; rw [if_neg h8,if_neg h9]
theorem LawQ.cells {w:World} {B:Nat} {v0 v1 u0 u1:Value} {es:List Ent} {qs:List Qn} {w0:World} (h:LawQ w B v0 v1 u0 u1 es qs w0):(w.cell? ⟨B,8,none⟩ = some u0 ∧ w.cell? ⟨B,9,none⟩ = some u1) ∧ w.frozen? ⟨B,8,none⟩ = false ∧ w.frozen? ⟨B,9,none⟩ = false ∧ B < w.heap.size:=by
 obtain ⟨cur,hc,hr⟩:=h.giv.blk
 exact ⟨⟨(cell_of_block hc 8).trans (hr.2.2.2 8 (by omega) (by omega)),(cell_of_block hc 9).trans (hr.2.2.2 9 (by omega) (by omega))⟩,frozen_of_block hc _,frozen_of_block hc _,block_lt hc⟩
theorem LawQ.sizeB {w:World} {B:Nat} {v0 v1 u0 u1:Value} {es:List Ent} {qs:List Qn} {w0:World} (h:LawQ w B v0 v1 u0 u1 es qs w0):B < w.heap.size:=h.cells.2.2.2

theorem rats_fin {w2 w3 W w5 w6 w0:World} {B:Nat} {v0 v1 u0 u1:Value} {es:List Ent} {qs:List Qn} {A N n3 c2 c3 g2 g3 A0 N0:Nat} {ps ps0:List Nq} {o1 o2:Obj} (h:LawQ w2 B v0 v1 u0 u1 es qs w0)
  (hf:FilQ w2 A N ps) (hl:ps.length = n3) (hle:n3 ≤ N) (hA:¬ Own4 B v0 v1 u0 u1 A) (far:FarQ (Own4 B v0 v1 u0 u1) ps)
  (own3:w3.ownsRow (B + 1) 50 1 (.slice (some ⟨g2,0,none⟩) (qs.length + 1) c2) (qs.length + 1) (qs.map Qn.v ++ [.slice (some ⟨A,0,none⟩) n3 N]))
  (grow3:(w2.alloc o1).grownBy w3 u0.ownBlock) (at3:u0.ownBlock = some g2 ∨ g2 = w2.heap.size + 1) (hlt3:g2 < w3.heap.size)
  (HW:w3.setCell ⟨B,8,none⟩ (.slice (some ⟨g2,0,none⟩) (qs.length + 1) c2) = W)
  (hf0:FilQ w5 A0 N0 ps0) (hl0:ps0.length = n3) (hle0:n3 ≤ N0) (hA0:W.heap.size ≤ A0) (far0:FarQ (fun k => k < W.heap.size) ps0) (hcon:ps.map conQ = ps0.map conQ) (hbel5:Below W.heap.size W w5)
  (own6:w6.ownsRow (B + 1) 50 1 (.slice (some ⟨g3,0,none⟩) (qs.length + 1) c3) (qs.length + 1) (qs.map Qn.v0 ++ [.slice (some ⟨A0,0,none⟩) n3 N0]))
  (grow6:(w5.alloc o2).grownBy w6 u1.ownBlock) (at6:u1.ownBlock = some g3 ∨ g3 = w5.heap.size + 1) :
  ∃ u0' u1' Q,Qn.b Q = A ∧ Q.c = N ∧ Q.ps = ps ∧ LawQ (w6.setCell ⟨B,9,none⟩ (.slice (some ⟨g3,0,none⟩) (qs.length + 1) c3)) B v0 v1 u0' u1' es (qs ++ [Q]) w0:=by
 have hB:=h.sizeB
 have o8:=own_ge h.own8
 have o9:=own_ge h.own9
 have hsW:W.heap.size = w3.heap.size:=by rw [← HW]; simp
 have hs3:=grow3.size
 have hs6:=grow6.size
 simp only [World.size_alloc] at hs3 hs6
 have hs5:=hbel5.size
 have g2B:g2 ≠ B:=by have:=(own_ge own3 g2 rfl).1; omega
 have g3B:g3 ≠ B:=by have:=(own_ge own6 g3 rfl).1; omega
 have hge2:B ≤ g2:=by have:=(own_ge own3 g2 rfl).1; omega
 have g2v:u1.ownBlock ≠ some g2:=by
  rcases at3 with e | e
  ·exact (h.ap8 g2 e).2
  ·intro e2; have:=(o9 g2 e2).2; omega
 have g23:g2 ≠ g3:=by
  intro e
  rcases at6 with e2 | e2
  ·exact g2v (e ▸ e2)
  ·omega
 obtain ⟨wf,hwf⟩:∃ x,w6.setCell ⟨B,9,none⟩ (.slice (some ⟨g3,0,none⟩) (qs.length + 1) c3) = x:=⟨_,rfl⟩
 -- the roads
 have kA:Chg (fun k => k = B ∨ u0.ownBlock = some k) w2 W:=by
  rw [← HW]
  exact ((Chg.of_alloc w2 o1).trans (.of_grown grow3 (fun k hk => .inr hk))).trans (.of_set w3 B 8 _ (.inl rfl))
 have kB:Chg (fun k => k = B ∨ u1.ownBlock = some k) w5 wf:=by
  rw [← hwf]
  exact ((Chg.of_alloc w5 o2).trans (.of_grown grow6 (fun k hk => .inr hk))).trans (.of_set w6 B 9 _ (.inl rfl))
 have kW:Chg (fun k => k = B ∨ u1.ownBlock = some k) W wf:=(Chg.of_below hbel5).trans kB
 have k3:Chg (fun k => k = B ∨ u1.ownBlock = some k) w3 wf:=by
  refine Chg.trans ?_ kW
  rw [← HW]
  exact .of_set w3 B 8 _ (.inl rfl)
 have kall:Chg (fun k => k = B ∨ u0.ownBlock = some k ∨ u1.ownBlock = some k) w2 wf :=
  (kA.mono (fun k _ hh => hh.elim .inl (fun hh => .inr (.inl hh)))).trans (kW.mono (fun k _ hh => hh.elim .inl (fun hh => .inr (.inr hh))))
 have hsafe:∀ k,k < w2.heap.size → ¬ Own4 B v0 v1 u0 u1 k → ¬ Own4 B v0 v1 (.slice (some ⟨g2,0,none⟩) (qs.length + 1) c2) (.slice (some ⟨g3,0,none⟩) (qs.length + 1) c3) k:=by
  rintro k hk hn (hh | hh | hh)
  ·exact hn (.inl hh)
  ·simp [Value.ownBlock] at hh
   rcases at3 with e | e
   ·exact hn (.inr (.inl (hh ▸ e)))
   ·omega
  ·simp [Value.ownBlock] at hh
   rcases at6 with e | e
   ·exact hn (.inr (.inr (hh ▸ e)))
   ·omega
 have hall:∀ k,k < w2.heap.size → ¬ Own4 B v0 v1 u0 u1 k → ¬ (k = B ∨ u0.ownBlock = some k ∨ u1.ownBlock = some k):=by
  rintro k _ hn (hh | hh)
  ·exact hn (.inl (.inl hh))
  ·exact hn (.inr hh)
 have nO8:∀ k,Own B v0 v1 k → k ≠ B → u0.ownBlock ≠ some k:=fun k hk _ e => (h.ap8 k e).1 hk
 have nO9:∀ k,Own B v0 v1 k → k ≠ B → u1.ownBlock ≠ some k:=fun k hk _ e => h.ap9 k e hk
 have b0:∀ k,v0.ownBlock = some k → k ≠ B:=fun k hk => by have:=(own_ge h.giv.own0 k hk).1; omega
 have b1:∀ k,v1.ownBlock = some k → k ≠ B:=fun k hk => by have:=(own_ge h.giv.own1 k hk).1; omega
 refine ⟨.slice (some ⟨g2,0,none⟩) (qs.length + 1) c2,.slice (some ⟨g3,0,none⟩) (qs.length + 1) c3,⟨A,N,ps,A0,N0,ps0⟩,rfl,rfl,rfl,?_⟩
 rw [hwf]
 refine ⟨⟨?_,?_,?_,h.giv.apart,?_⟩,?_,h.base,?_,?_,?_,?_,?_,?_⟩
 ·-- the Given's own block
  obtain ⟨cur,hcur,hc20,hc0,hc1,hcr⟩:=h.giv.blk
  have nB8:some B ≠ u0.ownBlock:=fun e => by have:=(o8 B e.symm).1; omega
  have nB9:some B ≠ u1.ownBlock:=fun e => by have:=(o9 B e.symm).1; omega
  have e3:w3.heap[B]? = some (.cells cur 39):=by
   rw [grow3.block B (by simp; omega) nB8,Below.heap_alloc _ _ _ (by omega)]; exact hcur
  have e4:W.heap[B]? = some (.cells (cur.setIfInBounds 8 (.slice (some ⟨g2,0,none⟩) (qs.length + 1) c2)) 39):=by
   rw [← HW]; exact set_block e3 8 _
  have e5:w5.heap[B]? = _:=(hbel5.block B (by omega)).trans e4
  have e6:w6.heap[B]? = w5.heap[B]?:=by
   rw [grow6.block B (by simp; omega) nB9,Below.heap_alloc _ _ _ (by omega)]
  rw [← hwf]
  refine ⟨_,set_block (e6.trans e5) 9 _,by simp [hc20],?_,?_,?_⟩
  ·rw [Array.getElem?_setIfInBounds_ne (by omega),Array.getElem?_setIfInBounds_ne (by omega)]; exact hc0
  ·rw [Array.getElem?_setIfInBounds_ne (by omega),Array.getElem?_setIfInBounds_ne (by omega)]; exact hc1
  ·intro i h2 h20
   by_cases i8:i = 8
   ·subst i8
    rw [Array.getElem?_setIfInBounds_ne (by omega),Array.getElem?_setIfInBounds_self_of_lt (by omega)]
    rfl
   ·by_cases i9:i = 9
    ·subst i9
     rw [Array.getElem?_setIfInBounds_self_of_lt (by simp; omega)]
     rfl
    ·rw [Array.getElem?_setIfInBounds_ne (by omega),Array.getElem?_setIfInBounds_ne (by omega),hcr i h2 h20,rsQ_other i8 i9,rsQ_other i8 i9]
 ·refine ownsRow_chg h.giv.own0 kall ?_
  rintro k hk (e | e | e)
  ·exact b0 k hk e
  ·exact nO8 k (.inr (.inl hk)) (b0 k hk) e
  ·exact nO9 k (.inr (.inl hk)) (b0 k hk) e
 ·refine ownsRow_chg h.giv.own1 kall ?_
  rintro k hk (e | e | e)
  ·exact b1 k hk e
  ·exact nO8 k (.inr (.inr hk)) (b1 k hk) e
  ·exact nO9 k (.inr (.inr hk)) (b1 k hk) e
 ·intro e he
  have E:=h.giv.ents e he
  have F:=h.ents e he
  refine ⟨E.sl.chg kall ?_,E.sl0.chg kall ?_,E.s,E.s0⟩
  ·rintro x hx _ (e1 | e1 | e1) <;> cases hx
   ·exact E.s (.inl e1)
   ·exact F.1.1 e1
   ·exact F.1.2 e1
  ·rintro x hx _ (e1 | e1 | e1) <;> cases hx
   ·exact E.s0 (.inl e1)
   ·exact F.2.1 e1
   ·exact F.2.2 e1
 ·refine h.bel.trans (kall.below h.bel.size ?_)
  rintro k hk (e | e | e)
  ·have:=h.base; omega
  ·have:=(o8 k e).1; have:=h.base; omega
  ·have:=(o9 k e).1; have:=h.base; omega
 ·have:=ownsRow_chg own3 k3 (fun k hk => by
   simp [Value.ownBlock] at hk
   subst hk
   rintro (e | e)
   ·exact g2B e
   ·exact g2v e)
  simpa [Qn.v,hl] using this
 ·have:=ownsRow_chg own6 (Chg.of_set (S:=fun k => k = B) w6 B 9 (.slice (some ⟨g3,0,none⟩) (qs.length + 1) c3) rfl) (fun k hk => by
   simp [Value.ownBlock] at hk
   subst hk
   exact g3B)
  rw [hwf] at this
  simpa [Qn.v0,hl0] using this
 ·intro k hk
  simp [Value.ownBlock] at hk
  subst hk
  refine ⟨?_,fun e => by simp [Value.ownBlock] at e; exact g23 e.symm⟩
  intro ho
  rcases at3 with e | e
  ·exact (h.ap8 _ e).1 ho
  ·have:=h.giv.own_lt ho; omega
 ·intro k hk ho
  simp [Value.ownBlock] at hk
  subst hk
  rcases at6 with e | e
  ·exact h.ap9 _ e ho
  ·have:=h.giv.own_lt ho; omega
 ·intro e he
  have E:=h.giv.ents e he
  have F:=h.ents e he
  have hne:e.xs ++ marks ≠ []:=by simp [marks]
  have l1:=E.sl.block_lt hne _ rfl
  have l2:=E.sl0.block_lt hne _ rfl
  have s1:¬ Own4 B v0 v1 u0 u1 e.b:=fun ho => by
   rcases ho with ho | ho | ho
   ·exact E.s ho
   ·exact F.1.1 ho
   ·exact F.1.2 ho
  have s2:¬ Own4 B v0 v1 u0 u1 e.b0:=fun ho => by
   rcases ho with ho | ho | ho
   ·exact E.s0 ho
   ·exact F.2.1 ho
   ·exact F.2.2 ho
  exact ⟨⟨fun e1 => hsafe _ l1 s1 (.inr (.inl e1)),fun e1 => hsafe _ l1 s1 (.inr (.inr e1))⟩,fun e1 => hsafe _ l2 s2 (.inr (.inl e1)),fun e1 => hsafe _ l2 s2 (.inr (.inr e1))⟩
 ·intro q hq
  rcases List.mem_append.1 hq with hq | hq
  ·exact (h.qents q hq).step kall hall hsafe
  ·obtain rfl:q = ⟨A,N,ps,A0,N0,ps0⟩:=by simpa using hq
   have n9:∀ k,W.heap.size ≤ k → ¬ (k = B ∨ u1.ownBlock = some k):=by
    rintro k hk (e | e)
    ·omega
    ·have:=(o9 k e).2; omega
   have nS:∀ k,W.heap.size ≤ k → k < w5.heap.size → ¬ Own4 B v0 v1 (.slice (some ⟨g2,0,none⟩) (qs.length + 1) c2) (.slice (some ⟨g3,0,none⟩) (qs.length + 1) c3) k:=by
    rintro k hk hk5 (e | e | e)
    ·have:=h.giv.own_lt e; omega
    ·simp [Value.ownBlock] at e; omega
    ·simp [Value.ownBlock] at e
     rcases at6 with e2 | e2
     ·have:=(o9 _ e2).2; omega
     ·omega
   refine ⟨hf.chg kall (hall _ hf.lt hA) (far.mono hf hall),hf0.chg kB (n9 _ hA0) ?_,by simp only; omega,by simp only; omega,hcon,hsafe _ hf.lt hA,nS _ hA0 hf0.lt,far.mono hf hsafe,?_⟩
   ·exact fun p hp => ⟨fun z hz hne => n9 _ (Nat.le_of_not_lt ((far0 p hp).1 z hz hne)),fun z hz hne => n9 _ (Nat.le_of_not_lt ((far0 p hp).2 z hz hne))⟩
   ·exact fun p hp => ⟨fun z hz hne => nS _ (Nat.le_of_not_lt ((far0 p hp).1 z hz hne)) ((hf0.each p hp).1.1.block_lt hne z hz),fun z hz hne => nS _ (Nat.le_of_not_lt ((far0 p hp).2 z hz hne)) ((hf0.each p hp).1.2.block_lt hne z hz)⟩
end Go.Proofs.YtgfpfjghdbcihaaGreatDoor
