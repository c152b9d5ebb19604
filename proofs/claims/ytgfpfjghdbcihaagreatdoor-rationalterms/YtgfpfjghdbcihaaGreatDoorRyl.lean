/- Rva -/
import Derived.Test.YtgfpfjghdbcihaaGreatDoorRv9
import Derived.Deep.AppendLies
import Derived.Deep.RegionLaw
import Derived.Deep.DeepMust
import Derived.Test.YtgfpfjghdbcihaaGreatDoorRv4
import Derived.Test.YtgfpfjghdbcihaaGreatDoorRl4
import Derived.Test.YtgfpfjghdbcihaaGreatDoorWic
import Derived.Test.YtgfpfjghdbcihaaGreatDoorWrd
import Derived.Test.YtgfpfjghdbcihaaGreatDoorRows
import Derived.Deep.Matrix
namespace Go.Proofs.YtgfpfjghdbcihaaGreatDoor
open Go.RowKit Go.Deep
set_option linter.unusedVariables false
theorem Tryz.info_rats:(Tryz.prog.info? 50).map (fun i => (i.zero,i.size,i.bytes)) = some (some (.slice none 0 0),1,24):=by kernel_rfl
theorem celQ_one (ps:List Nq):∀ u ∈ celQ ps,u.oneCell' = true:=by
 intro u hu
 unfold celQ at hu
 obtain ⟨p,_,hu⟩:=List.mem_flatMap.1 hu
 simp at hu
 rcases hu with rfl | rfl | rfl <;> rfl

theorem marks_ok {wr w1 w2 w3:World} {a1 a2 a3 a4 a5 a6:Option Addr} {m1 d1 m2 d2 m3 d3 m4 d4 m5 d5 m6 d6:Nat} {x1 x2 x3:Nat}
  (h1:Sl w1 a1 m1 d1 [x1] ∧ Sl w1 a2 m2 d2 [] ∧ NewAt wr.heap.size a1 ∧ NewAt wr.heap.size a2 ∧ Below wr.heap.size wr w1)
  (h2:Sl w2 a3 m3 d3 [x2] ∧ Sl w2 a4 m4 d4 [] ∧ NewAt w1.heap.size a3 ∧ NewAt w1.heap.size a4 ∧ Below w1.heap.size w1 w2)
  (h3:Sl w3 a5 m5 d5 [x3] ∧ Sl w3 a6 m6 d6 [] ∧ NewAt w2.heap.size a5 ∧ NewAt w2.heap.size a6 ∧ Below w2.heap.size w2 w3) (hx:x1 < 4294967296 ∧ x2 < 4294967296 ∧ x3 < 4294967296:=by decide) :
  ∀ p ∈ [(⟨false,a1,m1,d1,[x1],a2,m2,d2,[]⟩:Nq),⟨false,a3,m3,d3,[x2],a4,m4,d4,[]⟩,⟨false,a5,m5,d5,[x3],a6,m6,d6,[]⟩],((Sl w3 p.a p.n p.c p.x ∧ Sl w3 p.b p.m p.d p.y) ∧ Ok p.x ∧ Ok p.y) ∧ (NewAt wr.heap.size p.a ∧ NewAt wr.heap.size p.b) ∧ p.n ≤ 35184372088000 ∧ p.m ≤ 35184372088000:=by
 obtain ⟨s1,s2,n1,n2,b1⟩:=h1
 obtain ⟨s3,s4,n3,n4,b2⟩:=h2
 obtain ⟨s5,s6,n5,n6,b3⟩:=h3
 have z1:=b1.size
 have z2:=b2.size
 have l1:1 = m1:=s1.len
 have l2:0 = m2:=s2.len
 have l3:1 = m3:=s3.len
 have l4:0 = m4:=s4.len
 have l5:1 = m5:=s5.len
 have l6:0 = m6:=s6.len
 intro p hp
 simp only [List.mem_cons,or_false,List.not_mem_nil] at hp
 rcases hp with rfl | rfl | rfl
 ·exact ⟨⟨⟨(s1.below b2).below b3,(s2.below b2).below b3⟩,(fun y hy => by simp at hy; omega),Ok.nil⟩,⟨n1,n2⟩,by simp only; omega,by simp only; omega⟩
 ·exact ⟨⟨⟨s3.below b3,s4.below b3⟩,(fun y hy => by simp at hy; omega),Ok.nil⟩,⟨(fun z hz => Nat.le_trans z1 (n3 z hz)),(fun z hz => Nat.le_trans z1 (n4 z hz))⟩,by simp only; omega,by simp only; omega⟩
 ·exact ⟨⟨⟨s5,s6⟩,(fun y hy => by simp at hy; omega),Ok.nil⟩,⟨(fun z hz => Nat.le_trans z1 (Nat.le_trans z2 (n5 z hz))),(fun z hz => Nat.le_trans z1 (Nat.le_trans z2 (n6 z hz)))⟩,by simp only; omega,by simp only; omega⟩

set_option maxRecDepth 100000 in
set_option maxHeartbeats 32000000 in
theorem gratsZ_any {w w0:World} {B:Nat} {v0 v1 u0 u1:Value} {es:List Ent} {qs:List Qn} (hL:LawQ w B v0 v1 u0 u1 es qs w0) (a:Option Addr) (n c:Nat) (ps:List Nq) (hs:SlQ w0 a n c ps) (hn:n ≤ 2513169434850) (hz:∀ p ∈ ps,p.n ≤ 35184372088000 ∧ p.m ≤ 35184372088000) (he:es.length ≤ 10000000) (hq:qs.length ≤ 1000) :
  Calls Tryz.prog 14 #[.pointer (some ⟨B,0,none⟩),.slice a n c] w fun e w' => ∃ Q rs v0' v1' u0' u1' fs,e = .returned (.slice (some ⟨Qn.b Q,0,none⟩) n Q.c) ∧ Q.ps = rs ∧ rs.length = n + 3 ∧ (rs.take n).map conQ = ps.map conQ ∧ List.length fs = 2 * n ∧ LawQ w' B v0' v1' u0' u1' (es ++ fs) (qs ++ [Q]) w0:=by
 have hmk:=make_rats n (by omega)
 have HL:=Hd hL
 have H0:=Hd hs
 have HZ:=Hd hz
 have HE:=Hd (And.intro he hq)
 obtain ⟨i80,hi80,hz80,hs80,hb80⟩:=info_parts Tryz.info_rat
 have I80:=Hd (And.intro hi80 (And.intro hz80 (And.intro hs80 hb80)))
 clear hs hz he hq hi80 hz80 hs80 hb80 hL
 go_enter Tryz.func14,Tryz.ntmps14
 go_wp2_with fail
 go_loopw [6] (fun i wr => ∃ k:Nat,k ≤ n ∧ i = .int .i64 k ∧ ∃ v0' v1' fs qq,Hid (RtQ w wr B v0 v1 v0' v1' es fs (rsQ u0 u1) w.heap.size (n + 3) k ps qq)) (fun i _ => n - (intOf i).toNat)
 case atStart => exact ⟨0,Nat.zero_le _,rfl,v0,v1,[],[],RtQ.begin (Uh HL).giv n ps⟩
 case round =>
  obtain ⟨k,hk,rfl,v0',v1',fs,qq,HC⟩:=hrel
  by_cases hlt:k < n
  ·have hlt':(k:Int) < (n:Int):=by omega
   have hbw:Below w0.heap.size w0 wr:=(Uh HL).bel.trans ((Uh HC).chg.below (Uh HL).bel.size (fun j hj ho => by have:=(Uh HL).giv.own_ge ho; have:=(Uh HL).base; omega))
   obtain ⟨b,off,p,rfl,hp,⟨c0,c1,c2⟩,⟨hs1,hs2⟩,o1,o2⟩:=((Uh H0).below hbw).at' hlt
   have hp0:=((Uh H0).each p (List.mem_of_getElem? hp)).1
   have hz1:=Uh HZ p (List.mem_of_getElem? hp)
   have KG:=gratR_any B v0' v1' (es ++ fs) (rsQ u0 u1) p.g p.a p.n p.c p.x p.b p.m p.d p.y wr (Uh HC).giv hs1 hs2 (fun z hz hne => Nat.lt_of_lt_of_le (hp0.2.block_lt hne z hz) (Uh HL).base) (by omega) (by omega) (by have:=(Uh HC).cnt; have:=(Uh HE).1; simp; omega)
   unfold ratV at KG
   have KG':=Hd KG
   have HN:=Hd (fun (wk:World) (v2 v3:Value) (E1 E2:Ent) (hP:GrPost wr wk B v0' v1' v2 v3 (es ++ fs) (rsQ u0 u1) p.x p.y E1 E2) => (Uh HC).next (Nat.le_refl _) (by omega) hp ⟨o1,o2⟩ ⟨hs1.len,hs2.len⟩ ⟨by omega,by omega⟩ hP)
   have HF:=Hd (fun (wk:World) (v2 v3:Value) (E1 E2:Ent) (hP:GrPost wr wk B v0' v1' v2 v3 (es ++ fs) (rsQ u0 u1) p.x p.y E1 E2) (j:Nat) (hj:j < (n + 3) * 3) => ((Uh HC).fil.chg hP.chg (Uh HC).nA (Uh HC).far).cellsAt hj)
   clear KG hs1 hs2 o1 o2 hp hp0 hz1 hbw HC
   go_wp2_with fail
   refine (Uh KG').mono ?_
   rintro _ wk ⟨v,rfl,v2,v3,E1,E2,rfl,hP⟩
   obtain ⟨⟨x0,q0⟩,r0⟩:=Uh HF wk v2 v3 E1 E2 hP (k * 3) (by omega)
   obtain ⟨⟨x1,q1⟩,r1⟩:=Uh HF wk v2 v3 E1 E2 hP (k * 3 + 1) (by omega)
   obtain ⟨⟨x2,q2⟩,r2⟩:=Uh HF wk v2 v3 E1 E2 hP (k * 3 + 2) (by omega)
   have HR:=Hd (Uh HN wk v2 v3 E1 E2 hP)
   clear hP HF HN KG' c0 c1 c2
   go_wp2_with fail
   exact ⟨⟨k + 1,by omega,by go_num,_,_,_,_,Uh HR⟩,by simp [intOf]; omega⟩
  ·obtain rfl:k = n:=by omega
   have hlt':¬ (k:Int) < (k:Int):=by omega
   go_wp2_with fail
   refine (rat1_any wr).mono ?_
   rintro _ w1 ⟨v,rfl,a1,m1,d1,a2,m2,d2,rfl,s1,s2,n1,n2,b1⟩
   unfold ratV
   have S1:=Hd (And.intro s1 (And.intro s2 (And.intro n1 (And.intro n2 b1))))
   clear s1 s2 n1 n2 b1
   go_wp2_with fail
   refine (rat2_any w1).mono ?_
   rintro _ w2 ⟨v,rfl,a3,m3,d3,a4,m4,d4,rfl,s1,s2,n1,n2,b1⟩
   unfold ratV
   have S2:=Hd (And.intro s1 (And.intro s2 (And.intro n1 (And.intro n2 b1))))
   clear s1 s2 n1 n2 b1
   go_wp2_with fail
   refine (rat3_any w2).mono ?_
   rintro _ w3 ⟨v,rfl,a5,m5,d5,a6,m6,d6,rfl,s1,s2,n1,n2,b1⟩
   unfold ratV
   have S3:=Hd (And.intro s1 (And.intro s2 (And.intro n1 (And.intro n2 b1))))
   clear s1 s2 n1 n2 b1
   have HB3:=Hd (show Below wr.heap.size wr w3 from ((Uh S1).2.2.2.2.trans ((Uh S2).2.2.2.2.mono (Uh S1).2.2.2.2.size)).trans ((Uh S3).2.2.2.2.mono (Nat.le_trans (Uh S1).2.2.2.2.size (Uh S2).2.2.2.2.size)))
   have HO1:=Hd (fun (o:Obj) => ((Uh HC).fil.below ((Uh HB3).alloc (Uh HB3).size o)).own (n:=k) (base:=w.heap.size) (Uh HC).len (by omega) (Nat.le_refl _) (by unfold maxLen; omega))
   go_wp2_with (at_builtin; refine wpList_append_fits _ rfl _ _ 50 rfl w.heap.size 25 i80 3 Tryz.underlying50 (Uh I80).1 (Uh I80).2.2.1 w.heap.size k (k + 3) (celQ qq) rfl (Uh HO1 _) ⟨w3.heap.size,0,none⟩ 3 3 [.bool false,.slice a1 m1 d1,.slice a2 m2 d2,.bool false,.slice a3 m3 d3,.slice a4 m4 d4,.bool false,.slice a5 m5 d5,.slice a6 m6 d6] rfl rfl (World.news_of_block (alloc_block _ _)) ?one1 (Nat.le_refl _) ?_)
   case one1 => exact celQ_one [⟨false,a1,m1,d1,[200014],a2,m2,d2,[]⟩,⟨false,a3,m3,d3,[300024],a4,m4,d4,[]⟩,⟨false,a5,m5,d5,[400034],a6,m6,d6,[]⟩]
   intro w4 hown hgrow
   have HE4:=Hd (RtQ.marks (Uh HL) (Uh HC) (Uh H0).len (Uh HB3) [⟨false,a1,m1,d1,[200014],a2,m2,d2,[]⟩,⟨false,a3,m3,d3,[300024],a4,m4,d4,[]⟩,⟨false,a5,m5,d5,[400034],a6,m6,d6,[]⟩] rfl (marks_ok (Uh S1) (Uh S2) (Uh S3)) hown hgrow)
   clear hown hgrow HO1 S1 S2 S3
   obtain ⟨⟨p8,p9⟩,f8,f9,hB4⟩:=(Uh HE4).law.cells
   obtain ⟨i23,hi23,hz23,hs23,hb23⟩:=info_parts Tryz.info_rats
   have I23:=Hd (And.intro hi23 (And.intro hz23 (And.intro hs23 hb23)))
   clear hi23 hz23 hs23 hb23
   have HQ1:=Hd (show qs.length + 1 ≤ maxLen ∧ (qs.length + 1) * 24 ≤ 140737488355328 by unfold maxLen; have:=(Uh HE).2; omega)
   have HO8:=Hd (fun (o:Obj) => (Uh HE4).law.own8.alloc o)
   have HB4:=Hd (show B + 1 ≤ w4.heap.size + 1 by omega)
   go_wp2_with (at_builtin; refine wpList_append_lies _ rfl _ _ 32 rfl (B + 1) 50 i23 (.slice none 0 0) 1 24 Tryz.underlying32 (Uh I23).1 (Uh I23).2.1 (Uh I23).2.2.1 (Uh I23).2.2.2 rfl (by decide) u0 qs.length (qs.map Qn.v) rfl (Uh HO8 _) ⟨w4.heap.size,0,none⟩ 1 1 [.slice (some ⟨w.heap.size,0,none⟩) (k + 3) (k + 3)] rfl rfl (World.news_of_block (alloc_block _ _)) one_slice (by decide) (Uh HQ1).1 (Uh HQ1).2 ?c52 (w4.heap.size + 1) ?c62 ?_)
   case c52 => simpa using Uh HB4
   case c62 => simp
   intro g2 c2 w5 hown3 hgrow3 hat3 hlt3
   have n0:some B ≠ u0.ownBlock:=fun e => by have:=(own_ge (Uh HE4).law.own8 B e.symm).1; omega
   have t8:=grown_frozen hgrow3 (b:=B) (i:=8) (by simp; omega) n0
   have q0:w5.cell? ⟨B,8,none⟩ = some u0:=by rw [t8.1,World.cell?_alloc_lt _ _ _ (by exact hB4)]; exact p8
   have q2:w5.frozen? ⟨B,8,none⟩ = false:=by rw [t8.2,World.frozen?_alloc_old _ _ _ (by simp; omega)]; exact f8
   have HMd:=Hd (fun (W:World) (HW:w5.setCell ⟨B,8,none⟩ (.slice (some ⟨g2,0,none⟩) (qs.length + 1) c2) = W) => (Uh HE4).mid hgrow3 HW)
   have F3:=Hd (And.intro hown3 (And.intro hgrow3 (And.intro hat3 hlt3)))
   clear hown3 hgrow3 hat3 hlt3 t8 n0 p8 p9 f8 f9 HO8
   go_wp2_with fail
   generalize hW:w5.setCell ⟨B,8,none⟩ (.slice (some ⟨g2,0,none⟩) (qs.length + 1) c2) = W at *
   obtain ⟨⟨hsW,hoW⟩,q5,q6,q7⟩:=Uh HMd W rfl
   have HM:=Hd (And.intro hsW hoW)
   have HW:=Hd hW
   clear hW hsW hoW HMd q0 q2
   have HSZ:=Hd (Uh HE4).sz
   go_region_law (first
    | (refine step_append_lies _ rfl _ _ 32 rfl (B + 1) 50 i23 (.slice none 0 0) 1 24 Tryz.underlying32 (Uh I23).1 (Uh I23).2.1 (Uh I23).2.2.1 (Uh I23).2.2.2 rfl (by decide) u1 qs.length (qs.map Qn.v0) rfl ((Uh O5).alloc _) ⟨w6.heap.size,0,none⟩ 1 1 [.slice (some ⟨W.heap.size,0,none⟩) (k + 3) (k + 3 + 3)] rfl rfl (World.news_of_block (alloc_block _ _)) one_slice (by decide) (Uh HQ1).1 (Uh HQ1).2 (by simp; omega) (w6.heap.size + 1) (by simp) ?_; intro g3 c3 w7 hown6 hgrow6 hat6 hlt6; have L6:=after_appendQ q7b q5b q6b (Uh O5) hgrow6; have q5c:=L6.1; have q6c:=L6.2; have F6:=Hd (And.intro hown6 (And.intro hgrow6 (And.intro hat6 hlt6))); clear hown6 hgrow6 hat6 hlt6 L6)
    | (go_simp; go_at_call 47; go_must (refine (copyRats_any (some ⟨w.heap.size,0,none⟩) (k + 3) (k + 3) _ _ ((Uh HM).1.below ((Below.refl _ _).drew)) (by omega) (Uh HSZ)).mono ?_); rintro e w6 ⟨rfl,rs0,hcp⟩; go_must (have L5:=after_copyQ q7 q5 q6 (Uh HM).2 hcp.bel); have O5:=Hd L5.1; have q5b:=L5.2.1; have q6b:=L5.2.2.1; have q7b:=L5.2.2.2; have F5:=Hd hcp; clear hcp L5))
   all_goals
    have FIN:=rats_fin (Uh HE4).law (Uh HE4).fil (Uh HE4).len (Uh HE4).le (Uh HE4).nA (Uh HE4).far (Uh F3).1 (Uh F3).2.1 (Uh F3).2.2.1 (Uh F3).2.2.2 (Uh HW) (Uh F5).fil (Uh F5).len (by omega) (Nat.le_refl _) (fun p hp => ⟨fun z hz hne hlt => ((Uh F5).far p hp).1 z hz hne (Nat.le_of_lt hlt),fun z hz hne hlt => ((Uh F5).far p hp).2 z hz hne (Nat.le_of_lt hlt)⟩) (by rw [(Uh F5).con,List.take_of_length_le (Nat.le_of_eq (Uh HE4).len)]) ((Below.refl _ _).drew.trans (Uh F5).bel) (Uh F6).1 (Uh F6).2.1 (Uh F6).2.2.1
    have HFIN:=Hd FIN
    have hc1:(k:Int) ≤ (k:Int) + 3:=by omega
    have hc2:(k:Int) ≤ ((k + 3:Nat):Int):=by omega
    clear FIN q5 q6 q7 q5b q6b q7b
    go_wp2
    go_ret
    obtain ⟨u0',u1',Q,e1,e2,e3,hQ⟩:=Uh HFIN
    exact ⟨Q,_,_,_,u0',u1',fs,(by rw [e1,e2]; rfl),e3,(Uh HE4).len,(Uh HE4).con,(Uh HC).cnt,hQ⟩
theorem con_same {ps qs:List Nq} (h:ps.map conQ = qs.map conQ) {i:Nat} {p q:Nq} (hp:ps[i]? = some p) (hq:qs[i]? = some q):sameR p.g p.x p.y q.g q.x q.y = true:=by
 have h1:(ps.map conQ)[i]? = some (conQ p):=by simp [hp]
 have h2:(qs.map conQ)[i]? = some (conQ q):=by simp [hq]
 rw [h,h2] at h1
 have e:conQ q = conQ p:=Option.some.inj h1
 unfold conQ at e
 injection e with e1 e2
 injection e2 with e2 e3
 unfold sameR
 rw [e1,e2,e3]
 simp

set_option maxRecDepth 100000 in
set_option maxHeartbeats 8000000 in
theorem sameRats_any (a1 a2:Option Addr) (n c1 c2:Nat) (ps qs:List Nq) (w:World) (h1:SlQ w a1 n c1 ps) (h2:SlQ w a2 n c2 qs) (hn:n ≤ 140737488355328) (hc:ps.map conQ = qs.map conQ) :
  Calls Tryz.prog 33 #[.slice a1 n c1,.slice a2 n c2] w fun e w' => e = .returned (.bool true) ∧ Below w.heap.size w w':=by
 have H1:=Hd h1
 have H2:=Hd h2
 have HC:=Hd hc
 have hNN:((n:Int) != (n:Int)) = false:=by simp
 clear h1 h2 hc
 go_enter Tryz.func33,Tryz.ntmps33
 go_wp2_with fail
 go_loopw [5] (fun i wr => ∃ k:Nat,k ≤ n ∧ i = .int .i64 k ∧ Hid (Below w.heap.size w wr)) (fun i _ => n - (intOf i).toNat)
 case atStart => exact ⟨0,Nat.zero_le _,rfl,Below.refl _ _⟩
 case round =>
  obtain ⟨k,hk,rfl,HB⟩:=hrel
  by_cases hlt:k < n
  ·have hlt':(k:Int) < (n:Int):=by omega
   obtain ⟨b,off,p,rfl,hp,⟨p0,p1,p2⟩,⟨hs1,hs2⟩,_⟩:=((Uh H1).below (Uh HB)).at' hlt
   obtain ⟨b',off',q,rfl,hq,⟨q0,q1,q2⟩,⟨ht1,ht2⟩,_⟩:=((Uh H2).below (Uh HB)).at' hlt
   have K:=fun (W:World) (hb:Below wr.heap.size wr W) => sameRat_any p.g q.g p.a p.b q.a q.b p.n p.c p.m p.d q.n q.c q.m q.d p.x p.y q.x q.y W (hs1.below hb) (hs2.below hb) (ht1.below hb) (ht2.below hb)
   rw [con_same (Uh HC) hp hq] at K
   unfold ratV at K
   have HK:=Hd K
   have Fp0:=fun x:Ext wr => x.cell p0
   have Fp1:=fun x:Ext wr => x.cell p1
   have Fp2:=fun x:Ext wr => x.cell p2
   have Fq0:=fun x:Ext wr => x.cell q0
   have Fq1:=fun x:Ext wr => x.cell q1
   have Fq2:=fun x:Ext wr => x.cell q2
   have hNE:=Ext.ne wr
   clear K hs1 hs2 ht1 ht2 hp hq
   go_wp2_with fail
   refine wp_region_ext (by kernel_rfl) (by kernel_rfl) ?_
   repeat (go_big_quiet_step (first | (go_at_call 28; rename_i x; exact Ext.call (Uh HK x.w x.bel) (fun e w' h => h))))
   refine wpQuiet_nil ?_
   rintro _ ⟨xE,rfl⟩
   have HBE:=Hd ((Uh HB).trans (xE.bel.mono (Uh HB).size))
   clear Fp0 Fp1 Fp2 Fq0 Fq1 Fq2 hNE
   go_wp2_with fail
   exact ⟨⟨k + 1,by omega,by go_num,Uh HBE⟩,by simp [intOf]; omega⟩
  ·obtain rfl:k = n:=by omega
   have hlt':¬ (k:Int) < (k:Int):=by omega
   go_wp2_with fail
   go_ret
   exact ⟨rfl,Uh HB⟩

set_option maxHeartbeats 16000000 in
set_option maxRecDepth 100000 in
theorem intactQ_all (w:World) (B:Nat) (a0 a1 a8 a9:Option Addr) (c0 c1 c8 c9 m mq:Nat) (es:List Ent) (qs:List Qn) (hm:es.length = m) (hmq:qs.length = mq) (hm2:m ≤ maxLen) (hq2:mq ≤ maxLen)
  (h0:w.cell? ⟨B,0,none⟩ = some (.slice a0 m c0)) (h1:w.cell? ⟨B,1,none⟩ = some (.slice a1 m c1)) (h8:w.cell? ⟨B,8,none⟩ = some (.slice a8 mq c8)) (h9:w.cell? ⟨B,9,none⟩ = some (.slice a9 mq c9))
  (hr0:∀ k (h:k < es.length),∃ g0 g1,a0 = some ⟨g0,0,none⟩ ∧ a1 = some ⟨g1,0,none⟩ ∧ w.cell? ⟨g0,k,none⟩ = some es[k].v ∧ w.cell? ⟨g1,k,none⟩ = some es[k].v0)
  (hr8:∀ k (h:k < qs.length),∃ g0 g1,a8 = some ⟨g0,0,none⟩ ∧ a9 = some ⟨g1,0,none⟩ ∧ w.cell? ⟨g0,k,none⟩ = some qs[k].v ∧ w.cell? ⟨g1,k,none⟩ = some qs[k].v0)
  (hes:∀ e ∈ es,Sl w (some ⟨Ent.b e,0,none⟩) (e.xs.length + 3) e.c (e.xs ++ marks) ∧ Sl w (some ⟨e.b0,0,none⟩) (e.xs.length + 3) e.c0 (e.xs ++ marks))
  (hqs:∀ q ∈ qs,SlQ w (some ⟨Qn.b q,0,none⟩) q.ps.length q.c q.ps ∧ SlQ w (some ⟨q.b0,0,none⟩) q.ps0.length q.c0 q.ps0 ∧ q.ps.map conQ = q.ps0.map conQ ∧ q.ps.length ≤ 140737488355328)
  (h2:w.cell? ⟨B,2,none⟩ = some (.slice none 0 0)) (h4:w.cell? ⟨B,4,none⟩ = some (.slice none 0 0)) (h6:w.cell? ⟨B,6,none⟩ = some (.slice none 0 0)) (h10:w.cell? ⟨B,10,none⟩ = some (.slice none 0 0)) (h12:w.cell? ⟨B,12,none⟩ = some (.slice none 0 0)) (h14:w.cell? ⟨B,14,none⟩ = some (.slice none 0 0)) (h16:w.cell? ⟨B,16,none⟩ = some (.slice none 0 0)) (h18:w.cell? ⟨B,18,none⟩ = some (.slice none 0 0)) :
  Calls Tryz.prog 11 #[.pointer (some ⟨B,0,none⟩)] w fun e w' => e = .returned (.bool true) ∧ Below w.heap.size w w':=by
 unfold maxLen at hm2 hq2
 have HR0:=Hd hr0
 have HR8:=Hd hr8
 have HES:=Hd hes
 have HQS:=Hd hqs
 clear hr0 hr8 hes hqs
 go_enter Tryz.func11,Tryz.ntmps11
 go_wp2
 go_loopw [3] (fun i wr => ∃ k:Nat,k ≤ m ∧ i = .int .i64 k ∧ ∃ d,wr = w.drewN d) (fun i _ => m - (intOf i).toNat)
 case atStart => exact ⟨0,Nat.zero_le _,rfl,0,rfl⟩
 case round =>
  obtain ⟨k,hk,rfl,d,rfl⟩:=hrel
  by_cases hlt:k < m
  ·have hlt':(k:Int) < (m:Int):=by omega
   obtain ⟨g0,g1,rfl,rfl,g0',g1'⟩:=Uh HR0 k (by omega)
   have HE:=Hd (Uh HES es[k] (List.getElem_mem (by omega)))
   generalize es[k] = E at g0' g1' HE
   unfold Ent.v at g0'
   unfold Ent.v0 at g1'
   have K:=fun j => (sameNat_any _ _ _ _ _ _ _ _ (w.drewN j) ((Uh HE).1.drewN j) ((Uh HE).2.drewN j))
   rw [show decide (E.xs ++ marks = E.xs ++ marks) = true from by simp] at K
   have KK:=Hd K
   clear K HE
   go_wp2_with fail
   go_quiet ((go_at_call 29; exact quiet_at (Uh KK _)))
   go_wp2
   exact ⟨⟨k + 1,by omega,by go_num,_,rfl⟩,by simp [intOf]; omega⟩
  ·go_wp2_with fail
   go_loopw [4] (fun i wr => i = .int .i64 0 ∧ ∃ d,wr = w.drewN d) (fun i _ => (intOf i).toNat)
   case atStart => exact ⟨rfl,_,rfl⟩
   case round =>
    obtain ⟨rfl,d,rfl⟩:=hrel
    go_wp2_with fail
    go_loopw [5] (fun i wr => i = .int .i64 0 ∧ ∃ d,wr = w.drewN d) (fun i _ => (intOf i).toNat)
    case atStart => exact ⟨rfl,_,rfl⟩
    case round =>
     obtain ⟨rfl,d,rfl⟩:=hrel
     go_wp2_with fail
     go_loopw [6] (fun i wr => i = .int .i64 0 ∧ ∃ d,wr = w.drewN d) (fun i _ => (intOf i).toNat)
     case atStart => exact ⟨rfl,_,rfl⟩
     case round =>
      obtain ⟨rfl,d,rfl⟩:=hrel
      go_wp2_with fail
      go_loopw [7] (fun i wr => ∃ k:Nat,k ≤ mq ∧ i = .int .i64 k ∧ Hid (Below w.heap.size w wr)) (fun i _ => mq - (intOf i).toNat)
      case atStart => exact ⟨0,Nat.zero_le _,rfl,bel_drewN (Below.refl _ _) _⟩
      case round =>
       obtain ⟨k,hk,rfl,HB⟩:=hrel
       have r8:=(ck (Uh HB) h8)
       have r9:=(ck (Uh HB) h9)
       by_cases hlt:k < mq
       ·have hlt':(k:Int) < (mq:Int):=by omega
        obtain ⟨g8,g9,rfl,rfl,g8',g9'⟩:=Uh HR8 k (by omega)
        have HE:=Hd (Uh HQS qs[k] (List.getElem_mem (by omega)))
        generalize qs[k] = Q at g8' g9' HE
        unfold Qn.v at g8'
        unfold Qn.v0 at g9'
        rw [show Q.ps0.length = Q.ps.length from by have:=congrArg List.length (Uh HE).2.2.1; simpa using this.symm] at g9'
        have s8:=((Uh HB).cell (p:=⟨g8,k,none⟩) (World.block_lt_of_cell? _ _ g8')).trans g8'
        have s9:=((Uh HB).cell (p:=⟨g9,k,none⟩) (World.block_lt_of_cell? _ _ g9')).trans g9'
        have hle:=congrArg List.length (Uh HE).2.2.1
        have K:=Hd (fun (W:World) (hb:Below wr.heap.size wr W) => sameRats_any (some ⟨Q.b,0,none⟩) (some ⟨Q.b0,0,none⟩) Q.ps.length Q.c Q.c0 Q.ps Q.ps0 W (((Uh HE).1.below (Uh HB)).below hb) (by have h3:=(((Uh HE).2.1.below (Uh HB)).below hb); rw [show Q.ps0.length = Q.ps.length from by simpa using hle.symm] at h3; exact h3) (Uh HE).2.2.2 (Uh HE).2.2.1)
        have Fr8:=fun x:Ext wr => x.cell r8
        have Fr9:=fun x:Ext wr => x.cell r9
        have Fs8:=fun x:Ext wr => x.cell s8
        have Fs9:=fun x:Ext wr => x.cell s9
        have hNE:=Ext.ne wr
        clear HE hle g8' g9'
        go_wp2_with fail
        refine wp_region_ext (by kernel_rfl) (by kernel_rfl) ?_
        repeat (go_big_quiet_step (first | (go_at_call 33; rename_i x; exact Ext.call (Uh K x.w x.bel) (fun e w' h => h))))
        refine wpQuiet_nil ?_
        rintro _ ⟨xE,rfl⟩
        have HBE:=Hd ((Uh HB).trans (xE.bel.mono (Uh HB).size))
        clear Fr8 Fr9 Fs8 Fs9 hNE
        go_wp2_with fail
        exact ⟨⟨k + 1,by omega,by go_num,Uh HBE⟩,by simp [intOf]; omega⟩
       ·go_wp2_with fail
        go_loopw [8] (fun i wr => i = .int .i64 0 ∧ Hid (Below w.heap.size w wr)) (fun i _ => (intOf i).toNat)
        case atStart => exact ⟨rfl,Uh HB⟩
        case round =>
         obtain ⟨rfl,HB⟩:=hrel
         have r10:=(ck (Uh HB) h10)
         have r12:=(ck (Uh HB) h12)
         have r14:=(ck (Uh HB) h14)
         have r16:=(ck (Uh HB) h16)
         have r18:=(ck (Uh HB) h18)
         go_wp2_with fail
         refine (whole_any wr B r12 r14 r16 r18).mono ?_
         rintro e w' ⟨rfl,rfl⟩
         go_wp2
         go_ret
         exact ⟨rfl,Uh HB⟩

theorem own_at {w:World} {base:Nat} {e:TypeId} {v:Value} {n:Nat} {xs:List Value} (h:w.ownsRow base e 1 v n xs):∃ a c,v = .slice a n c ∧ n ≤ maxLen ∧ ∀ k (hk:k < xs.length),∃ g,a = some ⟨g,0,none⟩ ∧ w.cell? ⟨g,k,none⟩ = some xs[k]:=by
 obtain ⟨hl,h2⟩:=h
 rcases h2 with ⟨h2,h3⟩ | ⟨g',cap,cur,h3,h4,h5,h6,h7,h8,h9⟩
 ·subst h2 h3
  exact ⟨none,0,rfl,Nat.zero_le _,fun k hk => by omega⟩
 ·refine ⟨_,cap,h3,by omega,fun k hk => ⟨g',rfl,?_⟩⟩
  rw [cell_of_block h5]
  have:xs[k]? = some xs[k]:=List.getElem?_eq_getElem hk
  rw [← this,← h9,List.getElem?_take,if_pos (by omega),Array.getElem?_toList]

theorem intactQ_any {w:World} {B:Nat} {v0 v1 u0 u1:Value} {es:List Ent} {qs:List Qn} {w0:World} (h:LawQ w B v0 v1 u0 u1 es qs w0) (hq:∀ q ∈ qs,q.ps.length ≤ 140737488355328) :
  Calls Tryz.prog 11 #[.pointer (some ⟨B,0,none⟩)] w fun e w' => e = .returned (.bool true) ∧ Below w.heap.size w w':=by
 obtain ⟨cur,hcur,hc20,hc0,hc1,hcr⟩:=h.giv.blk
 have cc:∀ i,w.cell? ⟨B,i,none⟩ = cur[i]?:=fun i => cell_of_block hcur i
 have cr:∀ i,2 ≤ i → i < 20 → i ≠ 8 → i ≠ 9 → w.cell? ⟨B,i,none⟩ = some (.slice none 0 0):=fun i h2 h20 h8 h9 => by rw [cc,hcr i h2 h20,rsQ_other h8 h9]
 have c8:w.cell? ⟨B,8,none⟩ = some u0:=(cc 8).trans (hcr 8 (by omega) (by omega))
 have c9:w.cell? ⟨B,9,none⟩ = some u1:=(cc 9).trans (hcr 9 (by omega) (by omega))
 have c0:=(cc 0).trans hc0
 have c1:=(cc 1).trans hc1
 obtain ⟨a0,p0,rfl,l0,x0⟩:=own_at h.giv.own0
 obtain ⟨a1,p1,rfl,_,x1⟩:=own_at h.giv.own1
 obtain ⟨a8,p8,rfl,l8,x8⟩:=own_at h.own8
 obtain ⟨a9,p9,rfl,_,x9⟩:=own_at h.own9
 refine intactQ_all w B a0 a1 a8 a9 p0 p1 p8 p9 es.length qs.length es qs rfl rfl l0 l8 c0 c1 c8 c9 ?_ ?_ (fun e he => ⟨(h.giv.ents e he).sl,(h.giv.ents e he).sl0⟩) ?_ (cr 2 (by omega) (by omega) (by omega) (by omega)) (cr 4 (by omega) (by omega) (by omega) (by omega)) (cr 6 (by omega) (by omega) (by omega) (by omega)) (cr 10 (by omega) (by omega) (by omega) (by omega)) (cr 12 (by omega) (by omega) (by omega) (by omega)) (cr 14 (by omega) (by omega) (by omega) (by omega)) (cr 16 (by omega) (by omega) (by omega) (by omega)) (cr 18 (by omega) (by omega) (by omega) (by omega))
 ·intro k hk
  obtain ⟨g,e,hg⟩:=x0 k (by simpa using hk)
  obtain ⟨g',e',hg'⟩:=x1 k (by simpa using hk)
  exact ⟨g,g',e,e',by simpa using hg,by simpa using hg'⟩
 ·intro k hk
  obtain ⟨g,e,hg⟩:=x8 k (by simpa using hk)
  obtain ⟨g',e',hg'⟩:=x9 k (by simpa using hk)
  exact ⟨g,g',e,e',by simpa using hg,by simpa using hg'⟩
 ·intro q hq'
  have Q:=h.qents q hq'
  exact ⟨Q.f.sl rfl Q.le,Q.f0.sl rfl Q.le0,Q.con,hq q hq'⟩
end Go.Proofs.YtgfpfjghdbcihaaGreatDoor
namespace Go.Proofs.YtgfpfjghdbcihaaGreatDoor
open Go.ChangeShapes Go.WideShapes Go.ChangeAt Go.RowKit Go.Deep
set_option linter.unusedVariables false

end Go.Proofs.YtgfpfjghdbcihaaGreatDoor
namespace Go.Proofs.YtgfpfjghdbcihaaGreatDoor
open Go.RowKit Go.Deep
set_option linter.unusedVariables false
structure NqZ (W:World) (p:Nq):Prop where
 sl:(Sl W p.a p.n p.c p.x ∧ Sl W p.b p.m p.d p.y) ∧ Ok p.x ∧ Ok p.y
 le:p.n ≤ 35184372088000 ∧ p.m ≤ 35184372088000
 nil:(p.a = none → p.c = 0) ∧ (p.b = none → p.d = 0)
theorem weights_all {H:Type} {P:Program} {e:TypeId} {l:List (DataW H)} {d:DataW H} (h:d ∈ l) {k:Nat} (hk:k ∈ d.weights P e):k ∈ DataW.weightsAll P e l:=by
 induction l with
 | nil => cases h
 | cons x r ih =>
  unfold DataW.weightsAll
  rcases List.mem_cons.1 h with rfl | h
  ·exact List.mem_append_left _ hk
  ·exact List.mem_append_right _ (ih h)

set_option maxRecDepth 100000 in
theorem trod_ratZ {H:Type} {enc:TypeId × Value → H} {W:World} {fuel:Nat} {cs:List Value} {x:DataW H × List MemPlace}
  (h:DataW.trod enc Tryz.prog W 0 (fun _ => true) true fuel 25 cs = some x) (hz:∀ k ∈ x.1.weights Tryz.prog 25,k ≤ reachBytes) :
  ∃ p:Nq,cs = [.bool p.g,.slice p.a p.n p.c,.slice p.b p.m p.d] ∧ NqZ W p:=by
 obtain ⟨y0,y1,y2,k,hx,hl,h0,h1,h2⟩:=trod_struct3 Tryz.underlying25 h
 rw [law_cellsR] at hl
 subst hx
 match cs,hl with
 | [c0,c1,c2],_ =>
  simp only [List.drop_zero,List.drop_succ_cons,law_cellsB,law_cellsN,List.take_succ_cons,List.take_zero] at h0 h1 h2
  obtain ⟨g,e0,e0'⟩:=DataW.trod_bool Tryz.underlying4 h0
  obtain ⟨a,n,c,xs,e1,k1,k2,k5,k7⟩:=trod_limbsZ h1 (fun k hk => hz k (by simp [DataW.weights,DataW.weightsEach,Tryz.underlying25,hk]))
  obtain ⟨b,m,d,ys,e2,k3,k4,k6,k8⟩:=trod_limbsZ h2 (fun k hk => hz k (by simp [DataW.weights,DataW.weightsEach,Tryz.underlying25,hk]))
  cases e0
  cases e1
  cases e2
  exact ⟨⟨g,a,n,c,xs,b,m,d,ys⟩,rfl,⟨⟨k1,k3⟩,k2,k4⟩,⟨k5,k6⟩,k7,k8⟩
theorem rat_bytes:Tryz.prog.bytesOf 25 = 56:=by kernel_rfl

set_option maxRecDepth 100000 in
theorem arg_ratsZ {H:Type} {enc:TypeId × Value → H} {W:World} {a:Option Addr} {n c:Nat} {d:DataW H} {p:List MemPlace}
  (h:DataW.Trod enc Tryz.prog W 0 (fun _ => true) true 50 (.slice a n c) d p) (hz:∀ k ∈ d.weights Tryz.prog 50,k ≤ reachBytes) :
  ∃ ps,SlQ W a n c ps ∧ n ≤ 2513169434850 ∧ (∀ q ∈ ps,q.n ≤ 35184372088000 ∧ q.m ≤ 35184372088000) ∧ ∀ q ∈ ps,(q.a = none → q.c = 0) ∧ (q.b = none → q.d = 0):=by
 obtain ⟨fuel,h⟩:=h
 rcases DataW.trod_slice Tryz.underlying50 h with ⟨hcs,_⟩ | ⟨a',n',c',elems,rest,m,_,hcs,hx,hb,hl,hm,hlen,hel,hsp,hns⟩
 ·simp [Value.cells] at hcs
  obtain ⟨rfl,rfl,rfl⟩:=hcs
  exact ⟨[],⟨rfl,Nat.le_refl _,.inl rfl,fun e he => by cases he⟩,Nat.zero_le _,(fun e he => by cases he),fun e he => by cases he⟩
 ·simp [Value.cells] at hcs
  obtain ⟨rfl,rfl,rfl⟩:=hcs
  have hd:d = .slice (elems.map Prod.fst) (rest.map Prod.fst):=by injection hx
  rw [hd] at hz
  simp only [DataW.weights,Tryz.underlying50] at hz
  have hw0:=hz _ (List.mem_cons_self)
  rw [rat_bytes] at hw0
  simp only [List.length_map] at hw0
  unfold reachBytes at hw0
  have hwe:∀ e ∈ elems.map Prod.fst,∀ k ∈ e.weights Tryz.prog 25,k ≤ reachBytes:=fun e he k hk => hz k (List.mem_cons_of_mem _ (List.mem_append_left _ (weights_all he hk)))
  by_cases h0:n = 0
  ·subst h0
   exact ⟨[],⟨rfl,hl,.inl rfl,fun e he => by cases he⟩,Nat.zero_le _,(fun e he => by cases he),fun e he => by cases he⟩
  ·have hspot:∃ b off,a' = ⟨b,off,none⟩:=by
    have h1:=hel 0 (by omega)
    rw [law_cellsR] at h1
    rw [List.getElem?_eq_getElem (by omega),Option.bind_eq_some_iff] at h1
    obtain ⟨cs',hcs,hy⟩:=h1
    have hh:=World.cells?_some hcs
    have hc0:=hh.2.2 0 (by decide)
    rw [List.getElem?_eq_getElem (by rw [hh.2.1]; decide)] at hc0
    obtain ⟨b,off,spot⟩:=a'
    have:=World.cell?_spot hc0
    have hs:spot = none:=by simpa [Addr.add] using this
    subst hs
    exact ⟨b,off,rfl⟩
   obtain ⟨b,off,rfl⟩:=hspot
   have addr:∀ (o i:Nat),(⟨b,o,none⟩:Addr).add i = ⟨b,o + i,none⟩:=fun o i => by unfold Addr.add; split <;> simp_all
   have each:∀ i,i < n → ∃ e:Nq,(W.cell? ⟨b,off + i * 3,none⟩ = some (.bool e.g) ∧ W.cell? ⟨b,off + i * 3 + 1,none⟩ = some (.slice e.a e.n e.c) ∧ W.cell? ⟨b,off + i * 3 + 2,none⟩ = some (.slice e.b e.m e.d)) ∧ NqZ W e:=by
    intro i hi
    have h1:=hel i hi
    rw [law_cellsR] at h1
    rw [List.getElem?_eq_getElem (by omega),Option.bind_eq_some_iff] at h1
    obtain ⟨cs',hcs,hy⟩:=h1
    obtain ⟨q,rfl,hq⟩:=trod_ratZ hy (hwe _ (List.mem_map_of_mem (f:=Prod.fst) (List.getElem_mem (show i < elems.length by omega))))
    have hh:=World.cells?_some hcs
    have g0:=hh.2.2 0 (by decide)
    have g1:=hh.2.2 1 (by decide)
    have g2:=hh.2.2 2 (by decide)
    rw [addr,addr] at g0 g1 g2
    exact ⟨q,⟨by simpa using g0,by simpa using g1,by simpa using g2⟩,hq⟩
   have hch:∃ f:Nat → Nq,∀ i,i < n → (W.cell? ⟨b,off + i * 3,none⟩ = some (.bool (f i).g) ∧ W.cell? ⟨b,off + i * 3 + 1,none⟩ = some (.slice (f i).a (f i).n (f i).c) ∧ W.cell? ⟨b,off + i * 3 + 2,none⟩ = some (.slice (f i).b (f i).m (f i).d)) ∧ NqZ W (f i):=by
    refine ⟨fun i => if h:i < n then Classical.choose (each i h) else ⟨false,none,0,0,[],none,0,0,[]⟩,fun i hi => ?_⟩
    simp only [hi,dif_pos]
    exact Classical.choose_spec (each i hi)
   obtain ⟨f,hf⟩:=hch
   refine ⟨(List.range n).map f,⟨by simp,hl,.inr ⟨b,off,rfl,fun i q hq => ?_⟩,fun q hq => ?_⟩,by omega,(fun q hq => ?_),fun q hq => ?_⟩
   ·obtain ⟨hi,e⟩:=List.getElem?_eq_some_iff.1 hq
    have hi':i < n:=by simpa using hi
    simp at e
    subst e
    exact (hf i hi').1
   ·obtain ⟨i,hi,rfl⟩:=List.mem_map.1 hq
    exact (hf i (List.mem_range.1 hi)).2.sl
   ·obtain ⟨i,hi,rfl⟩:=List.mem_map.1 hq
    exact (hf i (List.mem_range.1 hi)).2.le
   ·obtain ⟨i,hi,rfl⟩:=List.mem_map.1 hq
    exact (hf i (List.mem_range.1 hi)).2.nil

set_option maxRecDepth 100000 in
theorem arg_ratQ {H:Type} {enc:TypeId × Value → H} {W:World} {v:Value} {d:DataW H} {p:List MemPlace} {r:Reach} {b0:Nat}
  (hv:Value.okWide Tryz.prog W r b0 25 v) (h:DataW.Trod enc Tryz.prog W 0 (fun _ => true) true 25 v d p) (hz:∀ k ∈ d.weights Tryz.prog 25,k ≤ reachBytes) :
  ∃ q:Nq,v = ratV q.g q.a q.n q.c q.b q.m q.d ∧ NqZ W q:=by
 obtain ⟨g,a,n,c,x,b,m,d,y,rfl,s1,s2,o1,o2,z,l1,l2⟩:=arg_ratZ hv h hz
 exact ⟨⟨g,a,n,c,x,b,m,d,y⟩,rfl,⟨⟨s1,s2⟩,o1,o2⟩,z,l1,l2⟩
end Go.Proofs.YtgfpfjghdbcihaaGreatDoor
