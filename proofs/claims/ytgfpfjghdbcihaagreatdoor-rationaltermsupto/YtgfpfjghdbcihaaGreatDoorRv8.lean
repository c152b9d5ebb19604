/- Rv6 -/
import Derived.Test.YtgfpfjghdbcihaaGreatDoorRv4
import Derived.Test.YtgfpfjghdbcihaaGreatDoorRl4
import Derived.Test.YtgfpfjghdbcihaaGreatDoorWic
import Derived.Test.YtgfpfjghdbcihaaGreatDoorWrd
import Derived.Test.YtgfpfjghdbcihaaGreatDoorRows
import Derived.Deep.Matrix
namespace Go.Proofs.YtgfpfjghdbcihaaGreatDoor
open Go.RowKit Go.Deep
set_option linter.unusedVariables false
theorem con_same {ps qs:List Nq} (h:ps.map conQ = qs.map conQ) {i:Nat} {p q:Nq} (hp:ps[i]? = some p) (hq:qs[i]? = some q):sameR p.g p.x p.y q.g q.x q.y = true:=by
 have h1:(ps.map conQ)[i]? = some (conQ p):=by simp [hp]
 have h2:(qs.map conQ)[i]? = some (conQ q):=by simp [hq]
 rw [h,h2] at h1
 have e:conQ q = conQ p:=Option.some.inj h1
 unfold conQ at e
 injection e with e1 e2
 injection e2 with e2 e3
 unfold sameR
 rw [e1,e2,e3]
 simp

set_option maxRecDepth 100000 in
set_option maxHeartbeats 8000000 in
theorem sameRats_any (a1 a2:Option Addr) (n c1 c2:Nat) (ps qs:List Nq) (w:World) (h1:SlQ w a1 n c1 ps) (h2:SlQ w a2 n c2 qs) (hn:n ≤ 140737488355328) (hc:ps.map conQ = qs.map conQ) :
  Calls Tryz.prog 33 #[.slice a1 n c1,.slice a2 n c2] w fun e w' => e = .returned (.bool true) ∧ Below w.heap.size w w':=by
 have H1:=Hd h1
 have H2:=Hd h2
 have HC:=Hd hc
 have hNN:((n:Int) != (n:Int)) = false:=by simp
 clear h1 h2 hc
 go_enter Tryz.func33,Tryz.ntmps33
 go_wp2_with fail
 go_loopw [5] (fun i wr => ∃ k:Nat,k ≤ n ∧ i = .int .i64 k ∧ Hid (Below w.heap.size w wr)) (fun i _ => n - (intOf i).toNat)
 case atStart => exact ⟨0,Nat.zero_le _,rfl,Below.refl _ _⟩
 case round =>
  obtain ⟨k,hk,rfl,HB⟩:=hrel
  by_cases hlt:k < n
  ·have hlt':(k:Int) < (n:Int):=by omega
   obtain ⟨b,off,p,rfl,hp,⟨p0,p1,p2⟩,⟨hs1,hs2⟩,_⟩:=((Uh H1).below (Uh HB)).at' hlt
   obtain ⟨b',off',q,rfl,hq,⟨q0,q1,q2⟩,⟨ht1,ht2⟩,_⟩:=((Uh H2).below (Uh HB)).at' hlt
   have K:=fun (W:World) (hb:Below wr.heap.size wr W) => sameRat_any p.g q.g p.a p.b q.a q.b p.n p.c p.m p.d q.n q.c q.m q.d p.x p.y q.x q.y W (hs1.below hb) (hs2.below hb) (ht1.below hb) (ht2.below hb)
   rw [con_same (Uh HC) hp hq] at K
   unfold ratV at K
   have HK:=Hd K
   have Fp0:=fun x:Ext wr => x.cell p0
   have Fp1:=fun x:Ext wr => x.cell p1
   have Fp2:=fun x:Ext wr => x.cell p2
   have Fq0:=fun x:Ext wr => x.cell q0
   have Fq1:=fun x:Ext wr => x.cell q1
   have Fq2:=fun x:Ext wr => x.cell q2
   have hNE:=Ext.ne wr
   clear K hs1 hs2 ht1 ht2 hp hq
   go_wp2_with fail
   refine wp_region_ext (by kernel_rfl) (by kernel_rfl) ?_
   repeat (go_big_quiet_step (first | (go_at_call 28; rename_i x; exact Ext.call (Uh HK x.w x.bel) (fun e w' h => h))))
   refine wpQuiet_nil ?_
   rintro _ ⟨xE,rfl⟩
   have HBE:=Hd ((Uh HB).trans (xE.bel.mono (Uh HB).size))
   clear Fp0 Fp1 Fp2 Fq0 Fq1 Fq2 hNE
   go_wp2_with fail
   exact ⟨⟨k + 1,by omega,by go_num,Uh HBE⟩,by simp [intOf]; omega⟩
  ·obtain rfl:k = n:=by omega
   have hlt':¬ (k:Int) < (k:Int):=by omega
   go_wp2_with fail
   go_ret
   exact ⟨rfl,Uh HB⟩

set_option maxHeartbeats 16000000 in
set_option maxRecDepth 100000 in
theorem intactQ_all (w:World) (B:Nat) (a0 a1 a8 a9:Option Addr) (c0 c1 c8 c9 m mq:Nat) (es:List Ent) (qs:List Qn) (hm:es.length = m) (hmq:qs.length = mq) (hm2:m ≤ maxLen) (hq2:mq ≤ maxLen)
  (h0:w.cell? ⟨B,0,none⟩ = some (.slice a0 m c0)) (h1:w.cell? ⟨B,1,none⟩ = some (.slice a1 m c1)) (h8:w.cell? ⟨B,8,none⟩ = some (.slice a8 mq c8)) (h9:w.cell? ⟨B,9,none⟩ = some (.slice a9 mq c9))
  (hr0:∀ k (h:k < es.length),∃ g0 g1,a0 = some ⟨g0,0,none⟩ ∧ a1 = some ⟨g1,0,none⟩ ∧ w.cell? ⟨g0,k,none⟩ = some es[k].v ∧ w.cell? ⟨g1,k,none⟩ = some es[k].v0)
  (hr8:∀ k (h:k < qs.length),∃ g0 g1,a8 = some ⟨g0,0,none⟩ ∧ a9 = some ⟨g1,0,none⟩ ∧ w.cell? ⟨g0,k,none⟩ = some qs[k].v ∧ w.cell? ⟨g1,k,none⟩ = some qs[k].v0)
  (hes:∀ e ∈ es,Sl w (some ⟨Ent.b e,0,none⟩) (e.xs.length + 3) e.c (e.xs ++ marks) ∧ Sl w (some ⟨e.b0,0,none⟩) (e.xs.length + 3) e.c0 (e.xs ++ marks))
  (hqs:∀ q ∈ qs,SlQ w (some ⟨Qn.b q,0,none⟩) q.ps.length q.c q.ps ∧ SlQ w (some ⟨q.b0,0,none⟩) q.ps0.length q.c0 q.ps0 ∧ q.ps.map conQ = q.ps0.map conQ ∧ q.ps.length ≤ 140737488355328)
  (h2:w.cell? ⟨B,2,none⟩ = some (.slice none 0 0)) (h4:w.cell? ⟨B,4,none⟩ = some (.slice none 0 0)) (h6:w.cell? ⟨B,6,none⟩ = some (.slice none 0 0)) (h10:w.cell? ⟨B,10,none⟩ = some (.slice none 0 0)) (h12:w.cell? ⟨B,12,none⟩ = some (.slice none 0 0)) (h14:w.cell? ⟨B,14,none⟩ = some (.slice none 0 0)) (h16:w.cell? ⟨B,16,none⟩ = some (.slice none 0 0)) (h18:w.cell? ⟨B,18,none⟩ = some (.slice none 0 0)) :
  Calls Tryz.prog 11 #[.pointer (some ⟨B,0,none⟩)] w fun e w' => e = .returned (.bool true) ∧ Below w.heap.size w w':=by
 unfold maxLen at hm2 hq2
 have HR0:=Hd hr0
 have HR8:=Hd hr8
 have HES:=Hd hes
 have HQS:=Hd hqs
 clear hr0 hr8 hes hqs
 go_enter Tryz.func11,Tryz.ntmps11
 go_wp2
 go_loopw [3] (fun i wr => ∃ k:Nat,k ≤ m ∧ i = .int .i64 k ∧ ∃ d,wr = w.drewN d) (fun i _ => m - (intOf i).toNat)
 case atStart => exact ⟨0,Nat.zero_le _,rfl,0,rfl⟩
 case round =>
  obtain ⟨k,hk,rfl,d,rfl⟩:=hrel
  by_cases hlt:k < m
  ·have hlt':(k:Int) < (m:Int):=by omega
   obtain ⟨g0,g1,rfl,rfl,g0',g1'⟩:=Uh HR0 k (by omega)
   have HE:=Hd (Uh HES es[k] (List.getElem_mem (by omega)))
   generalize es[k] = E at g0' g1' HE
   unfold Ent.v at g0'
   unfold Ent.v0 at g1'
   have K:=fun j => (sameNat_any _ _ _ _ _ _ _ _ (w.drewN j) ((Uh HE).1.drewN j) ((Uh HE).2.drewN j))
   rw [show decide (E.xs ++ marks = E.xs ++ marks) = true from by simp] at K
   have KK:=Hd K
   clear K HE
   go_wp2_with fail
   go_quiet ((go_at_call 29; exact quiet_at (Uh KK _)))
   go_wp2
   exact ⟨⟨k + 1,by omega,by go_num,_,rfl⟩,by simp [intOf]; omega⟩
  ·go_wp2_with fail
   go_loopw [4] (fun i wr => i = .int .i64 0 ∧ ∃ d,wr = w.drewN d) (fun i _ => (intOf i).toNat)
   case atStart => exact ⟨rfl,_,rfl⟩
   case round =>
    obtain ⟨rfl,d,rfl⟩:=hrel
    go_wp2_with fail
    go_loopw [5] (fun i wr => i = .int .i64 0 ∧ ∃ d,wr = w.drewN d) (fun i _ => (intOf i).toNat)
    case atStart => exact ⟨rfl,_,rfl⟩
    case round =>
     obtain ⟨rfl,d,rfl⟩:=hrel
     go_wp2_with fail
     go_loopw [6] (fun i wr => i = .int .i64 0 ∧ ∃ d,wr = w.drewN d) (fun i _ => (intOf i).toNat)
     case atStart => exact ⟨rfl,_,rfl⟩
     case round =>
      obtain ⟨rfl,d,rfl⟩:=hrel
      go_wp2_with fail
      go_loopw [7] (fun i wr => ∃ k:Nat,k ≤ mq ∧ i = .int .i64 k ∧ Hid (Below w.heap.size w wr)) (fun i _ => mq - (intOf i).toNat)
      case atStart => exact ⟨0,Nat.zero_le _,rfl,bel_drewN (Below.refl _ _) _⟩
      case round =>
       obtain ⟨k,hk,rfl,HB⟩:=hrel
       have r8:=(ck (Uh HB) h8)
       have r9:=(ck (Uh HB) h9)
       by_cases hlt:k < mq
       ·have hlt':(k:Int) < (mq:Int):=by omega
        obtain ⟨g8,g9,rfl,rfl,g8',g9'⟩:=Uh HR8 k (by omega)
        have HE:=Hd (Uh HQS qs[k] (List.getElem_mem (by omega)))
        generalize qs[k] = Q at g8' g9' HE
        unfold Qn.v at g8'
        unfold Qn.v0 at g9'
        rw [show Q.ps0.length = Q.ps.length from by have:=congrArg List.length (Uh HE).2.2.1; simpa using this.symm] at g9'
        have s8:=((Uh HB).cell (p:=⟨g8,k,none⟩) (World.block_lt_of_cell? _ _ g8')).trans g8'
        have s9:=((Uh HB).cell (p:=⟨g9,k,none⟩) (World.block_lt_of_cell? _ _ g9')).trans g9'
        have hle:=congrArg List.length (Uh HE).2.2.1
        have K:=Hd (fun (W:World) (hb:Below wr.heap.size wr W) => sameRats_any (some ⟨Q.b,0,none⟩) (some ⟨Q.b0,0,none⟩) Q.ps.length Q.c Q.c0 Q.ps Q.ps0 W (((Uh HE).1.below (Uh HB)).below hb) (by have h3:=(((Uh HE).2.1.below (Uh HB)).below hb); rw [show Q.ps0.length = Q.ps.length from by simpa using hle.symm] at h3; exact h3) (Uh HE).2.2.2 (Uh HE).2.2.1)
        have Fr8:=fun x:Ext wr => x.cell r8
        have Fr9:=fun x:Ext wr => x.cell r9
        have Fs8:=fun x:Ext wr => x.cell s8
        have Fs9:=fun x:Ext wr => x.cell s9
        have hNE:=Ext.ne wr
        clear HE hle g8' g9'
        go_wp2_with fail
        refine wp_region_ext (by kernel_rfl) (by kernel_rfl) ?_
        repeat (go_big_quiet_step (first | (go_at_call 33; rename_i x; exact Ext.call (Uh K x.w x.bel) (fun e w' h => h))))
        refine wpQuiet_nil ?_
        rintro _ ⟨xE,rfl⟩
        have HBE:=Hd ((Uh HB).trans (xE.bel.mono (Uh HB).size))
        clear Fr8 Fr9 Fs8 Fs9 hNE
        go_wp2_with fail
        exact ⟨⟨k + 1,by omega,by go_num,Uh HBE⟩,by simp [intOf]; omega⟩
       ·go_wp2_with fail
        go_loopw [8] (fun i wr => i = .int .i64 0 ∧ Hid (Below w.heap.size w wr)) (fun i _ => (intOf i).toNat)
        case atStart => exact ⟨rfl,Uh HB⟩
        case round =>
         obtain ⟨rfl,HB⟩:=hrel
         have r10:=(ck (Uh HB) h10)
         have r12:=(ck (Uh HB) h12)
         have r14:=(ck (Uh HB) h14)
         have r16:=(ck (Uh HB) h16)
         have r18:=(ck (Uh HB) h18)
         go_wp2_with fail
         refine (whole_any wr B r12 r14 r16 r18).mono ?_
         rintro e w' ⟨rfl,rfl⟩
         go_wp2
         go_ret
         exact ⟨rfl,Uh HB⟩

theorem own_at {w:World} {base:Nat} {e:TypeId} {v:Value} {n:Nat} {xs:List Value} (h:w.ownsRow base e 1 v n xs):∃ a c,v = .slice a n c ∧ n ≤ maxLen ∧ ∀ k (hk:k < xs.length),∃ g,a = some ⟨g,0,none⟩ ∧ w.cell? ⟨g,k,none⟩ = some xs[k]:=by
 obtain ⟨hl,h2⟩:=h
 rcases h2 with ⟨h2,h3⟩ | ⟨g',cap,cur,h3,h4,h5,h6,h7,h8,h9⟩
 ·subst h2 h3
  exact ⟨none,0,rfl,Nat.zero_le _,fun k hk => by omega⟩
 ·refine ⟨_,cap,h3,by omega,fun k hk => ⟨g',rfl,?_⟩⟩
  rw [cell_of_block h5]
  have:xs[k]? = some xs[k]:=List.getElem?_eq_getElem hk
  rw [← this,← h9,List.getElem?_take,if_pos (by omega),Array.getElem?_toList]

theorem intactQ_any {w:World} {B:Nat} {v0 v1 u0 u1:Value} {es:List Ent} {qs:List Qn} {w0:World} (h:LawQ w B v0 v1 u0 u1 es qs w0) (hq:∀ q ∈ qs,q.ps.length ≤ 140737488355328) :
  Calls Tryz.prog 11 #[.pointer (some ⟨B,0,none⟩)] w fun e w' => e = .returned (.bool true) ∧ Below w.heap.size w w':=by
 obtain ⟨cur,hcur,hc20,hc0,hc1,hcr⟩:=h.giv.blk
 have cc:∀ i,w.cell? ⟨B,i,none⟩ = cur[i]?:=fun i => cell_of_block hcur i
 have cr:∀ i,2 ≤ i → i < 20 → i ≠ 8 → i ≠ 9 → w.cell? ⟨B,i,none⟩ = some (.slice none 0 0):=fun i h2 h20 h8 h9 => by rw [cc,hcr i h2 h20,rsQ_other h8 h9]
 have c8:w.cell? ⟨B,8,none⟩ = some u0:=(cc 8).trans (hcr 8 (by omega) (by omega))
 have c9:w.cell? ⟨B,9,none⟩ = some u1:=(cc 9).trans (hcr 9 (by omega) (by omega))
 have c0:=(cc 0).trans hc0
 have c1:=(cc 1).trans hc1
 obtain ⟨a0,p0,rfl,l0,x0⟩:=own_at h.giv.own0
 obtain ⟨a1,p1,rfl,_,x1⟩:=own_at h.giv.own1
 obtain ⟨a8,p8,rfl,l8,x8⟩:=own_at h.own8
 obtain ⟨a9,p9,rfl,_,x9⟩:=own_at h.own9
 refine intactQ_all w B a0 a1 a8 a9 p0 p1 p8 p9 es.length qs.length es qs rfl rfl l0 l8 c0 c1 c8 c9 ?_ ?_ (fun e he => ⟨(h.giv.ents e he).sl,(h.giv.ents e he).sl0⟩) ?_ (cr 2 (by omega) (by omega) (by omega) (by omega)) (cr 4 (by omega) (by omega) (by omega) (by omega)) (cr 6 (by omega) (by omega) (by omega) (by omega)) (cr 10 (by omega) (by omega) (by omega) (by omega)) (cr 12 (by omega) (by omega) (by omega) (by omega)) (cr 14 (by omega) (by omega) (by omega) (by omega)) (cr 16 (by omega) (by omega) (by omega) (by omega)) (cr 18 (by omega) (by omega) (by omega) (by omega))
 ·intro k hk
  obtain ⟨g,e,hg⟩:=x0 k (by simpa using hk)
  obtain ⟨g',e',hg'⟩:=x1 k (by simpa using hk)
  exact ⟨g,g',e,e',by simpa using hg,by simpa using hg'⟩
 ·intro k hk
  obtain ⟨g,e,hg⟩:=x8 k (by simpa using hk)
  obtain ⟨g',e',hg'⟩:=x9 k (by simpa using hk)
  exact ⟨g,g',e,e',by simpa using hg,by simpa using hg'⟩
 ·intro q hq'
  have Q:=h.qents q hq'
  exact ⟨Q.f.sl rfl Q.le,Q.f0.sl rfl Q.le0,Q.con,hq q hq'⟩
end Go.Proofs.YtgfpfjghdbcihaaGreatDoor
namespace Go.Proofs.YtgfpfjghdbcihaaGreatDoor
open Go.ChangeShapes Go.WideShapes Go.ChangeAt Go.RowKit Go.Deep
set_option linter.unusedVariables false
theorem bulk_one {H:Type} (d:DataW H):1 ≤ Rows.uptoBulk d:=by
 cases d with
 | lit l => cases l <;> simp [Rows.uptoBulk]
 | nil => simp [Rows.uptoBulk]
 | ptr d => simp [Rows.uptoBulk]
 | slice elems spare => simp [Rows.uptoBulk]
 | agg parts => simp [Rows.uptoBulk]
 | iface t d => simp [Rows.uptoBulk]
 | map entries => simp [Rows.uptoBulk]
 | held h => simp [Rows.uptoBulk]
theorem bulk_part {H:Type} {d:DataW H} {l:List (DataW H)} (h:d ∈ l):Rows.uptoBulk d ≤ Rows.uptoBulkAll l:=by
 induction l with
 | nil => cases h
 | cons x r ih =>
  simp only [Rows.uptoBulkAll]
  cases List.mem_cons.1 h with
  | inl e => subst e; omega
  | inr e => have:=ih e; omega
theorem bulk_len {H:Type} (l:List (DataW H)):l.length ≤ Rows.uptoBulkAll l:=by
 induction l with
 | nil => simp [Rows.uptoBulkAll]
 | cons x r ih => have:=bulk_one x; simp only [Rows.uptoBulkAll,List.length_cons]; omega

theorem trod_limbsU {H:Type} {enc:TypeId × Value → H} {W:World} {fuel:Nat} {cs:List Value} {x:DataW H × List MemPlace}
  (h:DataW.trod enc Tryz.prog W 0 (fun _ => true) true fuel 23 cs = some x) (hz:Rows.uptoBulk x.1 ≤ 1048576) :
  ∃ a n c xs,cs = [.slice a n c] ∧ Sl W a n c xs ∧ Ok xs ∧ n ≤ 1048576 ∧ (a = none → c = 0):=by
 rcases open_ints Tryz.underlying23 Tryz.underlying66 law_cellsL h with ⟨rfl,_⟩ | ⟨y,n,c,zs,rfl,_,hl,hm,hzl,rfl,hcell,hwz⟩
 ·exact ⟨none,0,0,[],rfl,sl_nil _,Ok.nil,Nat.zero_le _,fun _ => rfl⟩
 ·have hzl':zs.length = c:=by simpa using hzl
  simp only [Rows.uptoBulk] at hz
  have hb2:=bulk_len (lits (H:=H) .u32 (zs.take n))
  have hlen:(lits (H:=H) .u32 (zs.take n)).length = n:=by simp [lits]; omega
  rw [hlen] at hb2
  refine ⟨some y,n,c,(zs.take n).map Int.toNat,rfl,⟨by simp; omega,hl,hm,?_⟩,fun z hzz => ?_,by omega,fun h => by cases h⟩
  ·by_cases h0:n = 0
   ·left; subst h0; simp
   ·right
    obtain ⟨b,off,spot⟩:=y
    have c0:=hcell 0 (by omega)
    have hspot:spot = none:=by simpa [Addr.add] using World.cell?_spot c0
    subst hspot
    refine ⟨b,off,rfl,?_⟩
    intro i hi
    have hi':i < n:=by simp at hi; omega
    have e:(⟨b,off,none⟩:Addr).add i = ⟨b,off + i,none⟩:=by unfold Addr.add; split <;> simp_all
    have hzi:=hcell i (by omega)
    rw [e] at hzi
    rw [hzi]
    have hmem:zs.getD i 0 ∈ zs:=by
     have:zs.getD i 0 = zs[i]'(by omega):=by simp [List.getD,show i < zs.length from by omega]
     rw [this]; exact List.getElem_mem _
    have r:=bounds_u32 (hwz _ hmem)
    have e2:((zs.take n).map Int.toNat).getD i 0 = (zs.getD i 0).toNat:=by
     simp [List.getD,hi',show i < zs.length from by omega]
    rw [e2]
    congr 2
    omega
  ·obtain ⟨u,hu,rfl⟩:=List.mem_map.1 hzz
   have:=bounds_u32 (hwz u (List.mem_of_mem_take hu))
   omega

structure NqOk (W:World) (p:Nq):Prop where
 sl:(Sl W p.a p.n p.c p.x ∧ Sl W p.b p.m p.d p.y) ∧ Ok p.x ∧ Ok p.y
 le:p.n ≤ 1048576 ∧ p.m ≤ 1048576
 nil:(p.a = none → p.c = 0) ∧ (p.b = none → p.d = 0)

set_option maxRecDepth 100000 in
theorem trod_ratU {H:Type} {enc:TypeId × Value → H} {W:World} {fuel:Nat} {cs:List Value} {x:DataW H × List MemPlace}
  (h:DataW.trod enc Tryz.prog W 0 (fun _ => true) true fuel 25 cs = some x) (hz:Rows.uptoBulk x.1 ≤ 1048576) :
  ∃ p:Nq,cs = [.bool p.g,.slice p.a p.n p.c,.slice p.b p.m p.d] ∧ NqOk W p:=by
 obtain ⟨y0,y1,y2,k,hx,hl,h0,h1,h2⟩:=trod_struct3 Tryz.underlying25 h
 rw [law_cellsR] at hl
 subst hx
 simp only [Rows.uptoBulk,Rows.uptoBulkAll] at hz
 match cs,hl with
 | [c0,c1,c2],_ =>
  simp only [List.drop_zero,List.drop_succ_cons,law_cellsB,law_cellsN,List.take_succ_cons,List.take_zero] at h0 h1 h2
  obtain ⟨g,e0,e0'⟩:=DataW.trod_bool Tryz.underlying4 h0
  obtain ⟨a,n,c,xs,e1,k1,k2,k5,k7⟩:=trod_limbsU h1 (by omega)
  obtain ⟨b,m,d,ys,e2,k3,k4,k6,k8⟩:=trod_limbsU h2 (by omega)
  cases e0
  cases e1
  cases e2
  exact ⟨⟨g,a,n,c,xs,b,m,d,ys⟩,rfl,⟨⟨k1,k3⟩,k2,k4⟩,⟨k5,k6⟩,k7,k8⟩

set_option maxRecDepth 100000 in
theorem arg_ratsN {H:Type} {enc:TypeId × Value → H} {W:World} {a:Option Addr} {n c:Nat} {d:DataW H} {p:List MemPlace}
  (h:DataW.Trod enc Tryz.prog W 0 (fun _ => true) true 50 (.slice a n c) d p) (hz:Rows.uptoBulk d ≤ 1048576) :
  ∃ ps,SlQ W a n c ps ∧ n ≤ 1048576 ∧ (∀ q ∈ ps,q.n ≤ 1048576 ∧ q.m ≤ 1048576) ∧ ∀ q ∈ ps,(q.a = none → q.c = 0) ∧ (q.b = none → q.d = 0):=by
 obtain ⟨fuel,h⟩:=h
 rcases DataW.trod_slice Tryz.underlying50 h with ⟨hcs,_⟩ | ⟨a',n',c',elems,rest,m,_,hcs,hx,hb,hl,hm,hlen,hel,hsp,hns⟩
 ·simp [Value.cells] at hcs
  obtain ⟨rfl,rfl,rfl⟩:=hcs
  exact ⟨[],⟨rfl,Nat.le_refl _,.inl rfl,fun e he => by cases he⟩,Nat.zero_le _,(fun e he => by cases he),fun e he => by cases he⟩
 ·simp [Value.cells] at hcs
  obtain ⟨rfl,rfl,rfl⟩:=hcs
  have hd:d = .slice (elems.map Prod.fst) (rest.map Prod.fst):=by injection hx
  rw [hd] at hz
  simp only [Rows.uptoBulk] at hz
  have hbn:=bulk_len (elems.map Prod.fst)
  rw [List.length_map] at hbn
  by_cases h0:n = 0
  ·subst h0
   exact ⟨[],⟨rfl,hl,.inl rfl,fun e he => by cases he⟩,Nat.zero_le _,(fun e he => by cases he),fun e he => by cases he⟩
  ·have hspot:∃ b off,a' = ⟨b,off,none⟩:=by
    have h1:=hel 0 (by omega)
    rw [law_cellsR] at h1
    rw [List.getElem?_eq_getElem (by omega),Option.bind_eq_some_iff] at h1
    obtain ⟨cs',hcs,hy⟩:=h1
    have hh:=World.cells?_some hcs
    have hc0:=hh.2.2 0 (by decide)
    rw [List.getElem?_eq_getElem (by rw [hh.2.1]; decide)] at hc0
    obtain ⟨b,off,spot⟩:=a'
    have:=World.cell?_spot hc0
    have hs:spot = none:=by simpa [Addr.add] using this
    subst hs
    exact ⟨b,off,rfl⟩
   obtain ⟨b,off,rfl⟩:=hspot
   have addr:∀ (o i:Nat),(⟨b,o,none⟩:Addr).add i = ⟨b,o + i,none⟩:=fun o i => by unfold Addr.add; split <;> simp_all
   have each:∀ i,i < n → ∃ e:Nq,(W.cell? ⟨b,off + i * 3,none⟩ = some (.bool e.g) ∧ W.cell? ⟨b,off + i * 3 + 1,none⟩ = some (.slice e.a e.n e.c) ∧ W.cell? ⟨b,off + i * 3 + 2,none⟩ = some (.slice e.b e.m e.d)) ∧ NqOk W e:=by
    intro i hi
    have h1:=hel i hi
    rw [law_cellsR] at h1
    rw [List.getElem?_eq_getElem (by omega),Option.bind_eq_some_iff] at h1
    obtain ⟨cs',hcs,hy⟩:=h1
    have hpart:=bulk_part (List.mem_map_of_mem (f:=Prod.fst) (List.getElem_mem (show i < elems.length by omega)))
    obtain ⟨q,rfl,hq⟩:=trod_ratU hy (by omega)
    have hh:=World.cells?_some hcs
    have g0:=hh.2.2 0 (by decide)
    have g1:=hh.2.2 1 (by decide)
    have g2:=hh.2.2 2 (by decide)
    rw [addr,addr] at g0 g1 g2
    exact ⟨q,⟨by simpa using g0,by simpa using g1,by simpa using g2⟩,hq⟩
   have hch:∃ f:Nat → Nq,∀ i,i < n → (W.cell? ⟨b,off + i * 3,none⟩ = some (.bool (f i).g) ∧ W.cell? ⟨b,off + i * 3 + 1,none⟩ = some (.slice (f i).a (f i).n (f i).c) ∧ W.cell? ⟨b,off + i * 3 + 2,none⟩ = some (.slice (f i).b (f i).m (f i).d)) ∧ NqOk W (f i):=by
    refine ⟨fun i => if h:i < n then Classical.choose (each i h) else ⟨false,none,0,0,[],none,0,0,[]⟩,fun i hi => ?_⟩
    simp only [hi,dif_pos]
    exact Classical.choose_spec (each i hi)
   obtain ⟨f,hf⟩:=hch
   refine ⟨(List.range n).map f,⟨by simp,hl,.inr ⟨b,off,rfl,fun i q hq => ?_⟩,fun q hq => ?_⟩,by omega,(fun q hq => ?_),fun q hq => ?_⟩
   ·obtain ⟨hi,e⟩:=List.getElem?_eq_some_iff.1 hq
    have hi':i < n:=by simpa using hi
    simp at e
    subst e
    exact (hf i hi').1
   ·obtain ⟨i,hi,rfl⟩:=List.mem_map.1 hq
    exact (hf i (List.mem_range.1 hi)).2.sl
   ·obtain ⟨i,hi,rfl⟩:=List.mem_map.1 hq
    exact (hf i (List.mem_range.1 hi)).2.le
   ·obtain ⟨i,hi,rfl⟩:=List.mem_map.1 hq
    exact (hf i (List.mem_range.1 hi)).2.nil
set_option maxRecDepth 100000 in
theorem arg_ratU {H:Type} {enc:TypeId × Value → H} {W:World} {v:Value} {d:DataW H} {p:List MemPlace} {r:Reach} {b0:Nat}
  (hv:Value.okWide Tryz.prog W r b0 25 v) (h:DataW.Trod enc Tryz.prog W 0 (fun _ => true) true 25 v d p) (hz:Rows.uptoBulk d ≤ 1048576) :
  ∃ q:Nq,v = ratV q.g q.a q.n q.c q.b q.m q.d ∧ NqOk W q:=by
 obtain ⟨cs,rfl,hsz⟩:=okWide_struct Tryz.underlying25 hv
 obtain ⟨fuel,hf⟩:=h
 obtain ⟨q,hq,ho⟩:=trod_ratU hf hz
 refine ⟨q,?_,ho⟩
 unfold ratV
 congr 1
 apply Array.ext'
 have hcs:(Value.agg cs).cells.toList = cs.toList:=by simp [Value.cells]
 rw [hcs] at hq
 simpa using hq
end Go.Proofs.YtgfpfjghdbcihaaGreatDoor
