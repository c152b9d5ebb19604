/- Rt6 -/
import Derived.Test.YtcajmdfcanopnaaDoorRt4
import Derived.Test.YtcajmdfcanopnaaDoorSi3
import Derived.Test.YtcajmdfcanopnaaDoorWrd
import Derived.Test.YtcajmdfcanopnaaDoorBy7
namespace Go.Proofs.YtcajmdfcanopnaaDoor
open Go.RowKit Go.Deep
set_option linter.unusedVariables false
theorem con_same {ps qs:List Nq} (h:ps.map conQ = qs.map conQ) {i:Nat} {p q:Nq} (hp:ps[i]? = some p) (hq:qs[i]? = some q):sameR p.g p.x p.y q.g q.x q.y = true:=by
 have h1:(ps.map conQ)[i]? = some (conQ p):=by simp [hp]
 have h2:(qs.map conQ)[i]? = some (conQ q):=by simp [hq]
 rw [h,h2] at h1
 have e:conQ q = conQ p:=Option.some.inj h1
 unfold conQ at e
 injection e with e1 e2
 injection e2 with e2 e3
 unfold sameR
 rw [e1,e2,e3]
 simp

set_option maxRecDepth 100000 in
set_option maxHeartbeats 8000000 in
theorem sameRats_any (a1 a2:Option Addr) (n c1 c2:Nat) (ps qs:List Nq) (w:World) (h1:SlQ w a1 n c1 ps) (h2:SlQ w a2 n c2 qs) (hn:n ≤ 140737488355328) (hc:ps.map conQ = qs.map conQ) :
  Calls Tryd.prog 23 #[.slice a1 n c1,.slice a2 n c2] w fun e w' => e = .returned (.bool true) ∧ Below w.heap.size w w':=by
 have H1:=Hj h1
 have H2:=Hj h2
 have HC:=Hj hc
 have hNN:((n:Int) != (n:Int)) = false:=by simp
 clear h1 h2 hc
 go_enter Tryd.func23,Tryd.ntmps23
 go_wp2_with fail
 go_loopw [5] (fun i wr => ∃ k:Nat,k ≤ n ∧ i = .int .i64 k ∧ Hid (Below w.heap.size w wr)) (fun i _ => n - (intOf i).toNat)
 case atStart => exact ⟨0,Nat.zero_le _,rfl,Below.refl _ _⟩
 case round =>
  obtain ⟨k,hk,rfl,HB⟩:=hrel
  by_cases hlt:k < n
  ·have hlt':(k:Int) < (n:Int):=by omega
   obtain ⟨b,off,p,rfl,hp,⟨p0,p1,p2⟩,⟨hs1,hs2⟩,_⟩:=((Uh H1).below (Uh HB)).at' hlt
   obtain ⟨b',off',q,rfl,hq,⟨q0,q1,q2⟩,⟨ht1,ht2⟩,_⟩:=((Uh H2).below (Uh HB)).at' hlt
   have K:=fun (W:World) (hb:Below wr.heap.size wr W) => sameRat_any p.g q.g p.a p.b q.a q.b p.n p.c p.m p.d q.n q.c q.m q.d p.x p.y q.x q.y W (hs1.below hb) (hs2.below hb) (ht1.below hb) (ht2.below hb)
   rw [con_same (Uh HC) hp hq] at K
   unfold ratV at K
   have HK:=Hj K
   have Fp0:=fun x:Ext wr => x.cell p0
   have Fp1:=fun x:Ext wr => x.cell p1
   have Fp2:=fun x:Ext wr => x.cell p2
   have Fq0:=fun x:Ext wr => x.cell q0
   have Fq1:=fun x:Ext wr => x.cell q1
   have Fq2:=fun x:Ext wr => x.cell q2
   have hNE:=Ext.ne wr
   clear K hs1 hs2 ht1 ht2 hp hq
   go_wp2_with fail
   refine wp_region_ext (by kernel_rfl) (by kernel_rfl) ?_
   repeat (go_big_quiet_step (first | (go_at_call 34; rename_i x; exact Ext.call (Uh HK x.w x.bel) (fun e w' h => h))))
   refine wpQuiet_nil ?_
   rintro _ ⟨xE,rfl⟩
   have HBE:=Hj ((Uh HB).trans (xE.bel.mono (Uh HB).size))
   clear Fp0 Fp1 Fp2 Fq0 Fq1 Fq2 hNE
   go_wp2_with fail
   exact ⟨⟨k + 1,by omega,by go_num,Uh HBE⟩,by simp [intOf]; omega⟩
  ·obtain rfl:k = n:=by omega
   have hlt':¬ (k:Int) < (k:Int):=by omega
   go_wp2_with fail
   go_ret
   exact ⟨rfl,Uh HB⟩

set_option maxHeartbeats 16000000 in
set_option maxRecDepth 100000 in
theorem intactQ_all (w:World) (B:Nat) (a0 a1 a8 a9:Option Addr) (c0 c1 c8 c9 m mq:Nat) (es:List Ent) (qs:List Qn) (a4 a5:Option Addr) (c4 c5 mi:Nat) (is:List EntI) (hmi:is.length = mi) (hi2:mi ≤ maxLen) (hm:es.length = m) (hmq:qs.length = mq) (hm2:m ≤ maxLen) (hq2:mq ≤ maxLen)
  (h0:w.cell? ⟨B,0,none⟩ = some (.slice a0 m c0)) (h1:w.cell? ⟨B,1,none⟩ = some (.slice a1 m c1)) (h8:w.cell? ⟨B,8,none⟩ = some (.slice a8 mq c8)) (h9:w.cell? ⟨B,9,none⟩ = some (.slice a9 mq c9))
  (hr0:∀ k (h:k < es.length),∃ g0 g1,a0 = some ⟨g0,0,none⟩ ∧ a1 = some ⟨g1,0,none⟩ ∧ w.cell? ⟨g0,k,none⟩ = some es[k].v ∧ w.cell? ⟨g1,k,none⟩ = some es[k].v0)
  (hr8:∀ k (h:k < qs.length),∃ g0 g1,a8 = some ⟨g0,0,none⟩ ∧ a9 = some ⟨g1,0,none⟩ ∧ w.cell? ⟨g0,k,none⟩ = some qs[k].v ∧ w.cell? ⟨g1,k,none⟩ = some qs[k].v0)
  (hes:∀ e ∈ es,Sl w (some ⟨Ent.b e,0,none⟩) (e.xs.length + 3) e.c (e.xs ++ marks) ∧ Sl w (some ⟨e.b0,0,none⟩) (e.xs.length + 3) e.c0 (e.xs ++ marks))
  (hqs:∀ q ∈ qs,SlQ w (some ⟨Qn.b q,0,none⟩) q.ps.length q.c q.ps ∧ SlQ w (some ⟨q.b0,0,none⟩) q.ps0.length q.c0 q.ps0 ∧ q.ps.map conQ = q.ps0.map conQ ∧ q.ps.length ≤ 140737488355328)
  (h2:w.cell? ⟨B,2,none⟩ = some (.slice none 0 0)) (h4:w.cell? ⟨B,4,none⟩ = some (.slice a4 mi c4)) (h5:w.cell? ⟨B,5,none⟩ = some (.slice a5 mi c5))
  (hr4:∀ k (h:k < is.length),∃ g0 g1,a4 = some ⟨g0,0,none⟩ ∧ a5 = some ⟨g1,0,none⟩ ∧ w.cell? ⟨g0,k,none⟩ = some is[k].v ∧ w.cell? ⟨g1,k,none⟩ = some is[k].v0)
  (his:∀ e ∈ is,SlI w (some ⟨EntI.b e,0,none⟩) (e.xs.length + 3) e.c (e.xs ++ marksI) ∧ SlI w (some ⟨e.b0,0,none⟩) (e.xs.length + 3) e.c0 (e.xs ++ marksI) ∧ e.xs.length ≤ 17592186044000)
  (h6:w.cell? ⟨B,6,none⟩ = some (.slice none 0 0)) (h10:w.cell? ⟨B,10,none⟩ = some (.slice none 0 0)) (h12:w.cell? ⟨B,12,none⟩ = some (.slice none 0 0)) (h14:w.cell? ⟨B,14,none⟩ = some (.slice none 0 0)) (h16:w.cell? ⟨B,16,none⟩ = some (.slice none 0 0)) (h18:w.cell? ⟨B,18,none⟩ = some (.slice none 0 0)) :
  Calls Tryd.prog 10 #[.pointer (some ⟨B,0,none⟩)] w fun e w' => e = .returned (.bool true) ∧ Below w.heap.size w w':=by
 unfold maxLen at hm2 hq2 hi2
 have HR4:=Hj hr4
 have HIS:=Hj his
 clear hr4 his
 have HR0:=Hj hr0
 have HR8:=Hj hr8
 have HES:=Hj hes
 have HQS:=Hj hqs
 clear hr0 hr8 hes hqs
 go_enter Tryd.func10,Tryd.ntmps10
 go_wp2
 go_loopw [3] (fun i wr => ∃ k:Nat,k ≤ m ∧ i = .int .i64 k ∧ ∃ d,wr = w.drewN d) (fun i _ => m - (intOf i).toNat)
 case atStart => exact ⟨0,Nat.zero_le _,rfl,0,rfl⟩
 case round =>
  obtain ⟨k,hk,rfl,d,rfl⟩:=hrel
  by_cases hlt:k < m
  ·have hlt':(k:Int) < (m:Int):=by omega
   obtain ⟨g0,g1,rfl,rfl,g0',g1'⟩:=Uh HR0 k (by omega)
   have HE:=Hj (Uh HES es[k] (List.getElem_mem (by omega)))
   generalize es[k] = E at g0' g1' HE
   unfold Ent.v at g0'
   unfold Ent.v0 at g1'
   have K:=fun j => (sameNat_any _ _ _ _ _ _ _ _ (w.drewN j) ((Uh HE).1.drewN j) ((Uh HE).2.drewN j))
   rw [show decide (E.xs ++ marks = E.xs ++ marks) = true from by simp] at K
   have KK:=Hj K
   clear K HE
   go_wp2_with fail
   go_quiet ((go_at_call 19; exact quiet_at (Uh KK _)))
   go_wp2
   exact ⟨⟨k + 1,by omega,by go_num,_,rfl⟩,by simp [intOf]; omega⟩
  ·go_wp2_with fail
   go_loopw [4] (fun i wr => i = .int .i64 0 ∧ ∃ d,wr = w.drewN d) (fun i _ => (intOf i).toNat)
   case atStart => exact ⟨rfl,_,rfl⟩
   case round =>
    obtain ⟨rfl,d,rfl⟩:=hrel
    go_wp2_with fail
    go_loopw [5] (fun i wr => ∃ k:Nat,k ≤ mi ∧ i = .int .i64 k ∧ ∃ d,wr = w.drewN d) (fun i _ => mi - (intOf i).toNat)
    case atStart => exact ⟨0,Nat.zero_le _,rfl,_,rfl⟩
    case round =>
     obtain ⟨k,hk,rfl,d,rfl⟩:=hrel
     by_cases hlt:k < mi
     ·have hlt':(k:Int) < (mi:Int):=by omega
      obtain ⟨g0,g1,rfl,rfl,g0',g1'⟩:=Uh HR4 k (by omega)
      have HE:=Hj (Uh HIS is[k] (List.getElem_mem (by omega)))
      generalize is[k] = E at g0' g1' HE
      unfold EntI.v at g0'
      unfold EntI.v0 at g1'
      have KK:=Hj (fun j => (sameInts_eq _ _ _ _ _ _ (w.drewN j) ((Uh HE).1.below (bel_drewN (Below.refl _ _) j)) ((Uh HE).2.1.below (bel_drewN (Below.refl _ _) j)) (by have:=(Uh HE).2.2; omega)))
      clear HE
      go_wp2_with fail
      go_quiet ((go_at_call 21; exact quiet_at (Uh KK _)))
      go_wp2
      exact ⟨⟨k + 1,by omega,by go_num,_,rfl⟩,by simp [intOf]; omega⟩
     ·go_wp2_with fail
      go_loopw [6] (fun i wr => i = .int .i64 0 ∧ ∃ d,wr = w.drewN d) (fun i _ => (intOf i).toNat)
      case atStart => exact ⟨rfl,_,rfl⟩
      case round =>
       obtain ⟨rfl,d,rfl⟩:=hrel
       go_wp2_with fail
       go_loopw [7] (fun i wr => ∃ k:Nat,k ≤ mq ∧ i = .int .i64 k ∧ Hid (Below w.heap.size w wr)) (fun i _ => mq - (intOf i).toNat)
       case atStart => exact ⟨0,Nat.zero_le _,rfl,bel_drewN (Below.refl _ _) _⟩
       case round =>
        obtain ⟨k,hk,rfl,HB⟩:=hrel
        have r8:=(ck (Uh HB) h8)
        have r9:=(ck (Uh HB) h9)
        by_cases hlt:k < mq
        ·have hlt':(k:Int) < (mq:Int):=by omega
         obtain ⟨g8,g9,rfl,rfl,g8',g9'⟩:=Uh HR8 k (by omega)
         have HE:=Hj (Uh HQS qs[k] (List.getElem_mem (by omega)))
         generalize qs[k] = Q at g8' g9' HE
         unfold Qn.v at g8'
         unfold Qn.v0 at g9'
         rw [show Q.ps0.length = Q.ps.length from by have:=congrArg List.length (Uh HE).2.2.1; simpa using this.symm] at g9'
         have s8:=((Uh HB).cell (p:=⟨g8,k,none⟩) (World.block_lt_of_cell? _ _ g8')).trans g8'
         have s9:=((Uh HB).cell (p:=⟨g9,k,none⟩) (World.block_lt_of_cell? _ _ g9')).trans g9'
         have hle:=congrArg List.length (Uh HE).2.2.1
         have K:=Hj (fun (W:World) (hb:Below wr.heap.size wr W) => sameRats_any (some ⟨Q.b,0,none⟩) (some ⟨Q.b0,0,none⟩) Q.ps.length Q.c Q.c0 Q.ps Q.ps0 W (((Uh HE).1.below (Uh HB)).below hb) (by have h3:=(((Uh HE).2.1.below (Uh HB)).below hb); rw [show Q.ps0.length = Q.ps.length from by simpa using hle.symm] at h3; exact h3) (Uh HE).2.2.2 (Uh HE).2.2.1)
         have Fr8:=fun x:Ext wr => x.cell r8
         have Fr9:=fun x:Ext wr => x.cell r9
         have Fs8:=fun x:Ext wr => x.cell s8
         have Fs9:=fun x:Ext wr => x.cell s9
         have hNE:=Ext.ne wr
         clear HE hle g8' g9'
         go_wp2_with fail
         refine wp_region_ext (by kernel_rfl) (by kernel_rfl) ?_
         repeat (go_big_quiet_step (first | (go_at_call 23; rename_i x; exact Ext.call (Uh K x.w x.bel) (fun e w' h => h))))
         refine wpQuiet_nil ?_
         rintro _ ⟨xE,rfl⟩
         have HBE:=Hj ((Uh HB).trans (xE.bel.mono (Uh HB).size))
         clear Fr8 Fr9 Fs8 Fs9 hNE
         go_wp2_with fail
         exact ⟨⟨k + 1,by omega,by go_num,Uh HBE⟩,by simp [intOf]; omega⟩
        ·go_wp2_with fail
         go_loopw [8] (fun i wr => i = .int .i64 0 ∧ Hid (Below w.heap.size w wr)) (fun i _ => (intOf i).toNat)
         case atStart => exact ⟨rfl,Uh HB⟩
         case round =>
          obtain ⟨rfl,HB⟩:=hrel
          have r10:=(ck (Uh HB) h10)
          have r12:=(ck (Uh HB) h12)
          have r14:=(ck (Uh HB) h14)
          have r16:=(ck (Uh HB) h16)
          have r18:=(ck (Uh HB) h18)
          go_wp2_with fail
          refine (whole_any wr B r12 r14 r16 r18).mono ?_
          rintro e w' ⟨rfl,rfl⟩
          go_wp2
          go_ret
          exact ⟨rfl,Uh HB⟩

theorem own_at {w:World} {base:Nat} {e:TypeId} {v:Value} {n:Nat} {xs:List Value} (h:w.ownsRow base e 1 v n xs):∃ a c,v = .slice a n c ∧ n ≤ maxLen ∧ ∀ k (hk:k < xs.length),∃ g,a = some ⟨g,0,none⟩ ∧ w.cell? ⟨g,k,none⟩ = some xs[k]:=by
 obtain ⟨hl,h2⟩:=h
 rcases h2 with ⟨h2,h3⟩ | ⟨g',cap,cur,h3,h4,h5,h6,h7,h8,h9⟩
 ·subst h2 h3
  exact ⟨none,0,rfl,Nat.zero_le _,fun k hk => by omega⟩
 ·refine ⟨_,cap,h3,by omega,fun k hk => ⟨g',rfl,?_⟩⟩
  rw [cell_of_block h5]
  have:xs[k]? = some xs[k]:=List.getElem?_eq_getElem hk
  rw [← this,← h9,List.getElem?_take,if_pos (by omega),Array.getElem?_toList]

theorem intactT_any {rt:Nat → Value} {w:World} {B:Nat} {v0 v1 u0 u1:Value} {es:List Ent} {qs:List Qn} {w0:World} (h:LawQ rt w B v0 v1 u0 u1 es qs w0) (hq:∀ q ∈ qs,q.ps.length ≤ 140737488355328) (is:List EntI) (hn:∀ i,i ≠ 4 → i ≠ 5 → rt i = .slice none 0 0) (o4:w.ownsRow (B + 1) 22 1 (rt 4) is.length (is.map EntI.v)) (o5:w.ownsRow (B + 1) 22 1 (rt 5) is.length (is.map EntI.v0))
  (his:∀ e ∈ is,SlI w (some ⟨EntI.b e,0,none⟩) (e.xs.length + 3) e.c (e.xs ++ marksI) ∧ SlI w (some ⟨e.b0,0,none⟩) (e.xs.length + 3) e.c0 (e.xs ++ marksI) ∧ e.xs.length ≤ 17592186044000) :
  Calls Tryd.prog 10 #[.pointer (some ⟨B,0,none⟩)] w fun e w' => e = .returned (.bool true) ∧ Below w.heap.size w w':=by
 obtain ⟨cur,hcur,hc20,hc0,hc1,hcr⟩:=h.giv.blk
 have cc:∀ i,w.cell? ⟨B,i,none⟩ = cur[i]?:=fun i => cell_of_block hcur i
 have cr:∀ i,2 ≤ i → i < 20 → i ≠ 8 → i ≠ 9 → w.cell? ⟨B,i,none⟩ = some (rt i):=fun i h2 h20 h8 h9 => by rw [cc,hcr i h2 h20,rsQ_other h8 h9]
 have cn:∀ i,2 ≤ i → i < 20 → i ≠ 8 → i ≠ 9 → i ≠ 4 → i ≠ 5 → w.cell? ⟨B,i,none⟩ = some (.slice none 0 0):=fun i h2 h20 h8 h9 h4 h5 => by rw [cr i h2 h20 h8 h9,hn i h4 h5]
 have c8:w.cell? ⟨B,8,none⟩ = some u0:=(cc 8).trans (hcr 8 (by omega) (by omega))
 have c9:w.cell? ⟨B,9,none⟩ = some u1:=(cc 9).trans (hcr 9 (by omega) (by omega))
 have c0:=(cc 0).trans hc0
 have c1:=(cc 1).trans hc1
 obtain ⟨a0,p0,rfl,l0,x0⟩:=own_at h.giv.own0
 obtain ⟨a1,p1,rfl,_,x1⟩:=own_at h.giv.own1
 have c4:=cr 4 (by omega) (by omega) (by omega) (by omega)
 have c5:=cr 5 (by omega) (by omega) (by omega) (by omega)
 obtain ⟨a4,p4,e4,l4,x4⟩:=own_at o4
 obtain ⟨a5,p5,e5,_,x5⟩:=own_at o5
 rw [e4] at c4
 rw [e5] at c5
 obtain ⟨a8,p8,rfl,l8,x8⟩:=own_at h.own8
 obtain ⟨a9,p9,rfl,_,x9⟩:=own_at h.own9
 refine intactQ_all w B a0 a1 a8 a9 p0 p1 p8 p9 es.length qs.length es qs a4 a5 p4 p5 is.length is rfl l4 rfl rfl l0 l8 c0 c1 c8 c9 ?_ ?_ (fun e he => ⟨(h.giv.ents e he).sl,(h.giv.ents e he).sl0⟩) ?_ (cn 2 (by omega) (by omega) (by omega) (by omega) (by omega) (by omega)) c4 c5 ?_ his (cn 6 (by omega) (by omega) (by omega) (by omega) (by omega) (by omega)) (cn 10 (by omega) (by omega) (by omega) (by omega) (by omega) (by omega)) (cn 12 (by omega) (by omega) (by omega) (by omega) (by omega) (by omega)) (cn 14 (by omega) (by omega) (by omega) (by omega) (by omega) (by omega)) (cn 16 (by omega) (by omega) (by omega) (by omega) (by omega) (by omega)) (cn 18 (by omega) (by omega) (by omega) (by omega) (by omega) (by omega))
 ·intro k hk
  obtain ⟨g,e,hg⟩:=x0 k (by simpa using hk)
  obtain ⟨g',e',hg'⟩:=x1 k (by simpa using hk)
  exact ⟨g,g',e,e',by simpa using hg,by simpa using hg'⟩
 ·intro k hk
  obtain ⟨g,e,hg⟩:=x8 k (by simpa using hk)
  obtain ⟨g',e',hg'⟩:=x9 k (by simpa using hk)
  exact ⟨g,g',e,e',by simpa using hg,by simpa using hg'⟩
 ·intro q hq'
  have Q:=h.qents q hq'
  exact ⟨Q.f.sl rfl Q.le,Q.f0.sl rfl Q.le0,Q.con,hq q hq'⟩
 ·intro k hk
  obtain ⟨g,e,hg⟩:=x4 k (by simpa using hk)
  obtain ⟨g',e',hg'⟩:=x5 k (by simpa using hk)
  exact ⟨g,g',e,e',by simpa using hg,by simpa using hg'⟩
end Go.Proofs.YtcajmdfcanopnaaDoor
