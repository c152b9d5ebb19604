/- Rta -/
import Derived.Test.YtcajmdfcanopnaaDoorRt9
import Derived.Deep.AppendLies
import Derived.Deep.RegionLaw
import Derived.Deep.DeepMust
namespace Go.Proofs.YtcajmdfcanopnaaDoor
open Go.RowKit Go.Deep
set_option linter.unusedVariables false
theorem Tryd.info_rats:(Tryd.prog.info? 25).map (fun i => (i.zero,i.size,i.bytes)) = some (some (.slice none 0 0),1,24):=by kernel_rfl
theorem celQ_one (ps:List Nq):∀ u ∈ celQ ps,u.oneCell' = true:=by
 intro u hu
 unfold celQ at hu
 obtain ⟨p,_,hu⟩:=List.mem_flatMap.1 hu
 simp at hu
 rcases hu with rfl | rfl | rfl <;> rfl

theorem marks_ok {wr w1 w2 w3:World} {a1 a2 a3 a4 a5 a6:Option Addr} {m1 d1 m2 d2 m3 d3 m4 d4 m5 d5 m6 d6:Nat} {x1 x2 x3:Nat}
  (h1:Sl w1 a1 m1 d1 [x1] ∧ Sl w1 a2 m2 d2 [] ∧ NewAt wr.heap.size a1 ∧ NewAt wr.heap.size a2 ∧ Below wr.heap.size wr w1)
  (h2:Sl w2 a3 m3 d3 [x2] ∧ Sl w2 a4 m4 d4 [] ∧ NewAt w1.heap.size a3 ∧ NewAt w1.heap.size a4 ∧ Below w1.heap.size w1 w2)
  (h3:Sl w3 a5 m5 d5 [x3] ∧ Sl w3 a6 m6 d6 [] ∧ NewAt w2.heap.size a5 ∧ NewAt w2.heap.size a6 ∧ Below w2.heap.size w2 w3) (hx:x1 < 4294967296 ∧ x2 < 4294967296 ∧ x3 < 4294967296:=by decide) :
  ∀ p ∈ [(⟨false,a1,m1,d1,[x1],a2,m2,d2,[]⟩:Nq),⟨false,a3,m3,d3,[x2],a4,m4,d4,[]⟩,⟨false,a5,m5,d5,[x3],a6,m6,d6,[]⟩],((Sl w3 p.a p.n p.c p.x ∧ Sl w3 p.b p.m p.d p.y) ∧ Ok p.x ∧ Ok p.y) ∧ (NewAt wr.heap.size p.a ∧ NewAt wr.heap.size p.b) ∧ p.n ≤ 35184372088000 ∧ p.m ≤ 35184372088000:=by
 obtain ⟨s1,s2,n1,n2,b1⟩:=h1
 obtain ⟨s3,s4,n3,n4,b2⟩:=h2
 obtain ⟨s5,s6,n5,n6,b3⟩:=h3
 have z1:=b1.size
 have z2:=b2.size
 have l1:1 = m1:=s1.len
 have l2:0 = m2:=s2.len
 have l3:1 = m3:=s3.len
 have l4:0 = m4:=s4.len
 have l5:1 = m5:=s5.len
 have l6:0 = m6:=s6.len
 intro p hp
 simp only [List.mem_cons,or_false,List.not_mem_nil] at hp
 rcases hp with rfl | rfl | rfl
 ·exact ⟨⟨⟨(s1.below b2).below b3,(s2.below b2).below b3⟩,(fun y hy => by simp at hy; omega),Ok.nil⟩,⟨n1,n2⟩,by simp only; omega,by simp only; omega⟩
 ·exact ⟨⟨⟨s3.below b3,s4.below b3⟩,(fun y hy => by simp at hy; omega),Ok.nil⟩,⟨(fun z hz => Nat.le_trans z1 (n3 z hz)),(fun z hz => Nat.le_trans z1 (n4 z hz))⟩,by simp only; omega,by simp only; omega⟩
 ·exact ⟨⟨⟨s5,s6⟩,(fun y hy => by simp at hy; omega),Ok.nil⟩,⟨(fun z hz => Nat.le_trans z1 (Nat.le_trans z2 (n5 z hz))),(fun z hz => Nat.le_trans z1 (Nat.le_trans z2 (n6 z hz)))⟩,by simp only; omega,by simp only; omega⟩

theorem rats_chg {w2 w3 W w5 w6:World} {B:Nat} {u0 u1:Value} {g2 c2 n2:Nat} {o1 o2:Obj} (grow3:(w2.alloc o1).grownBy w3 u0.ownBlock) (HW:w3.setCell ⟨B,8,none⟩ (.slice (some ⟨g2,0,none⟩) n2 c2) = W) (hbel5:Below W.heap.size W w5) (grow6:(w5.alloc o2).grownBy w6 u1.ownBlock) (v:Value):Chg (fun k => k = B ∨ u0.ownBlock = some k ∨ u1.ownBlock = some k) w2 (w6.setCell ⟨B,9,none⟩ v):=by
 have k1:Chg (fun k => k = B ∨ u0.ownBlock = some k ∨ u1.ownBlock = some k) w2 W:=by
  rw [← HW]
  exact ((Chg.of_alloc w2 o1).trans (Chg.of_grown grow3 (fun k hk => .inr (.inl hk)))).trans (Chg.of_set w3 B 8 _ (.inl rfl))
 exact (((k1.trans (Chg.of_below hbel5)).trans (Chg.of_alloc w5 o2)).trans (Chg.of_grown grow6 (fun k hk => .inr (.inr hk)))).trans (Chg.of_set w6 B 9 v (.inl rfl))
set_option maxRecDepth 100000 in
set_option maxHeartbeats 32000000 in
theorem gratsZ_any {rt:Nat → Value} {w w0:World} {B:Nat} {v0 v1 u0 u1:Value} {es:List Ent} {qs:List Qn} (hL:LawQ rt w B v0 v1 u0 u1 es qs w0) (a:Option Addr) (n c:Nat) (ps:List Nq) (hs:SlQ w0 a n c ps) (hn:n ≤ 2513169434850) (hz:∀ p ∈ ps,p.n ≤ 35184372088000 ∧ p.m ≤ 35184372088000) (he:es.length ≤ 10000000) (hq:qs.length ≤ 1000) :
  Calls Tryd.prog 17 #[.pointer (some ⟨B,0,none⟩),.slice a n c] w fun e w' => ∃ Q rs v0' v1' u0' u1' fs,e = .returned (.slice (some ⟨Qn.b Q,0,none⟩) n Q.c) ∧ Q.ps = rs ∧ rs.length = n + 3 ∧ (rs.take n).map conQ = ps.map conQ ∧ List.length fs = 2 * n ∧ LawQ rt w' B v0' v1' u0' u1' (es ++ fs) (qs ++ [Q]) w0 ∧ Chg (Own4 B v0 v1 u0 u1) w w' ∧ (∀ e ∈ fs,w.heap.size ≤ e.b ∧ w.heap.size ≤ e.b0):=by
 have hmk:=make_rats n (by omega)
 have HL:=Hj hL
 have H0:=Hj hs
 have HZ:=Hj hz
 have HE:=Hj (And.intro he hq)
 obtain ⟨i80,hi80,hz80,hs80,hb80⟩:=info_parts Tryd.info_rat
 have I80:=Hj (And.intro hi80 (And.intro hz80 (And.intro hs80 hb80)))
 clear hs hz he hq hi80 hz80 hs80 hb80 hL
 go_enter Tryd.func17,Tryd.ntmps17
 go_wp2_with fail
 go_loopw [6] (fun i wr => ∃ k:Nat,k ≤ n ∧ i = .int .i64 k ∧ ∃ v0' v1' fs qq,Hid (RtQ w wr B v0 v1 v0' v1' es fs (rsQ rt u0 u1) w.heap.size (n + 3) k ps qq)) (fun i _ => n - (intOf i).toNat)
 case atStart => exact ⟨0,Nat.zero_le _,rfl,v0,v1,[],[],RtQ.begin (Uh HL).giv n ps⟩
 case round =>
  obtain ⟨k,hk,rfl,v0',v1',fs,qq,HC⟩:=hrel
  by_cases hlt:k < n
  ·have hlt':(k:Int) < (n:Int):=by omega
   have hbw:Below w0.heap.size w0 wr:=(Uh HL).bel.trans ((Uh HC).chg.below (Uh HL).bel.size (fun j hj ho => by have:=(Uh HL).giv.own_ge ho; have:=(Uh HL).base; omega))
   obtain ⟨b,off,p,rfl,hp,⟨c0,c1,c2⟩,⟨hs1,hs2⟩,o1,o2⟩:=((Uh H0).below hbw).at' hlt
   have hp0:=((Uh H0).each p (List.mem_of_getElem? hp)).1
   have hz1:=Uh HZ p (List.mem_of_getElem? hp)
   have KG:=gratR_any B v0' v1' (es ++ fs) (rsQ rt u0 u1) p.g p.a p.n p.c p.x p.b p.m p.d p.y wr (Uh HC).giv hs1 hs2 (fun z hz hne => Nat.lt_of_lt_of_le (hp0.2.block_lt hne z hz) (Uh HL).base) (by omega) (by omega) (by have:=(Uh HC).cnt; have:=(Uh HE).1; simp; omega)
   unfold ratV at KG
   have KG':=Hj KG
   have HN:=Hj (fun (wk:World) (v2 v3:Value) (E1 E2:Ent) (hP:GrPost wr wk B v0' v1' v2 v3 (es ++ fs) (rsQ rt u0 u1) p.x p.y E1 E2) => (Uh HC).next (Nat.le_refl _) (by omega) hp ⟨o1,o2⟩ ⟨hs1.len,hs2.len⟩ ⟨by omega,by omega⟩ hP)
   have HF:=Hj (fun (wk:World) (v2 v3:Value) (E1 E2:Ent) (hP:GrPost wr wk B v0' v1' v2 v3 (es ++ fs) (rsQ rt u0 u1) p.x p.y E1 E2) (j:Nat) (hj:j < (n + 3) * 3) => ((Uh HC).fil.chg hP.chg (Uh HC).nA (Uh HC).far).cellsAt hj)
   clear KG hs1 hs2 o1 o2 hp hp0 hz1 hbw HC
   go_wp2_with fail
   refine (Uh KG').mono ?_
   rintro _ wk ⟨v,rfl,v2,v3,E1,E2,rfl,hP⟩
   obtain ⟨⟨x0,q0⟩,r0⟩:=Uh HF wk v2 v3 E1 E2 hP (k * 3) (by omega)
   obtain ⟨⟨x1,q1⟩,r1⟩:=Uh HF wk v2 v3 E1 E2 hP (k * 3 + 1) (by omega)
   obtain ⟨⟨x2,q2⟩,r2⟩:=Uh HF wk v2 v3 E1 E2 hP (k * 3 + 2) (by omega)
   have HR:=Hj (Uh HN wk v2 v3 E1 E2 hP)
   clear hP HF HN KG' c0 c1 c2
   go_wp2_with fail
   exact ⟨⟨k + 1,by omega,by go_num,_,_,_,_,Uh HR⟩,by simp [intOf]; omega⟩
  ·obtain rfl:k = n:=by omega
   have hlt':¬ (k:Int) < (k:Int):=by omega
   go_wp2_with fail
   refine (rat1_any wr).mono ?_
   rintro _ w1 ⟨v,rfl,a1,m1,d1,a2,m2,d2,rfl,s1,s2,n1,n2,b1⟩
   unfold ratV
   have S1:=Hj (And.intro s1 (And.intro s2 (And.intro n1 (And.intro n2 b1))))
   clear s1 s2 n1 n2 b1
   go_wp2_with fail
   refine (rat2_any w1).mono ?_
   rintro _ w2 ⟨v,rfl,a3,m3,d3,a4,m4,d4,rfl,s1,s2,n1,n2,b1⟩
   unfold ratV
   have S2:=Hj (And.intro s1 (And.intro s2 (And.intro n1 (And.intro n2 b1))))
   clear s1 s2 n1 n2 b1
   go_wp2_with fail
   refine (rat3_any w2).mono ?_
   rintro _ w3 ⟨v,rfl,a5,m5,d5,a6,m6,d6,rfl,s1,s2,n1,n2,b1⟩
   unfold ratV
   have S3:=Hj (And.intro s1 (And.intro s2 (And.intro n1 (And.intro n2 b1))))
   clear s1 s2 n1 n2 b1
   have HB3:=Hj (show Below wr.heap.size wr w3 from ((Uh S1).2.2.2.2.trans ((Uh S2).2.2.2.2.mono (Uh S1).2.2.2.2.size)).trans ((Uh S3).2.2.2.2.mono (Nat.le_trans (Uh S1).2.2.2.2.size (Uh S2).2.2.2.2.size)))
   have HO1:=Hj (fun (o:Obj) => ((Uh HC).fil.below ((Uh HB3).alloc (Uh HB3).size o)).own (n:=k) (base:=w.heap.size) (Uh HC).len (by omega) (Nat.le_refl _) (by unfold maxLen; omega))
   go_wp2_with (at_builtin; refine wpList_append_fits _ rfl _ _ 25 rfl w.heap.size 64 i80 3 Tryd.underlying25 (Uh I80).1 (Uh I80).2.2.1 w.heap.size k (k + 3) (celQ qq) rfl (Uh HO1 _) ⟨w3.heap.size,0,none⟩ 3 3 [.bool false,.slice a1 m1 d1,.slice a2 m2 d2,.bool false,.slice a3 m3 d3,.slice a4 m4 d4,.bool false,.slice a5 m5 d5,.slice a6 m6 d6] rfl rfl (World.news_of_block (alloc_block _ _)) ?one1 (Nat.le_refl _) ?_)
   case one1 => exact celQ_one [⟨false,a1,m1,d1,[200014],a2,m2,d2,[]⟩,⟨false,a3,m3,d3,[300024],a4,m4,d4,[]⟩,⟨false,a5,m5,d5,[400034],a6,m6,d6,[]⟩]
   intro w4 hown hgrow
   have HE4:=Hj (RtQ.marks (Uh HL) (Uh HC) (Uh H0).len (Uh HB3) [⟨false,a1,m1,d1,[200014],a2,m2,d2,[]⟩,⟨false,a3,m3,d3,[300024],a4,m4,d4,[]⟩,⟨false,a5,m5,d5,[400034],a6,m6,d6,[]⟩] rfl (marks_ok (Uh S1) (Uh S2) (Uh S3)) hown hgrow)
   have HCH:=Hj (show Chg (Own B v0 v1) w w4 from (((Uh HC).chg.trans (Chg.of_below (Uh HB3))).trans (Chg.of_alloc _ _)).then' (Chg.of_grown (S:=fun j => j = w.heap.size) hgrow (fun k hk => (Option.some.inj hk).symm)) (fun k hk _ e => by omega))
   clear hown hgrow HO1 S1 S2 S3
   obtain ⟨⟨p8,p9⟩,f8,f9,hB4⟩:=(Uh HE4).law.cells
   obtain ⟨i23,hi23,hz23,hs23,hb23⟩:=info_parts Tryd.info_rats
   have I23:=Hj (And.intro hi23 (And.intro hz23 (And.intro hs23 hb23)))
   clear hi23 hz23 hs23 hb23
   have HQ1:=Hj (show qs.length + 1 ≤ maxLen ∧ (qs.length + 1) * 24 ≤ 140737488355328 by unfold maxLen; have:=(Uh HE).2; omega)
   have HO8:=Hj (fun (o:Obj) => (Uh HE4).law.own8.alloc o)
   have HB4:=Hj (show B + 1 ≤ w4.heap.size + 1 by omega)
   go_wp2_with (at_builtin; refine wpList_append_lies _ rfl _ _ 33 rfl (B + 1) 25 i23 (.slice none 0 0) 1 24 Tryd.underlying33 (Uh I23).1 (Uh I23).2.1 (Uh I23).2.2.1 (Uh I23).2.2.2 rfl (by decide) u0 qs.length (qs.map Qn.v) rfl (Uh HO8 _) ⟨w4.heap.size,0,none⟩ 1 1 [.slice (some ⟨w.heap.size,0,none⟩) (k + 3) (k + 3)] rfl rfl (World.news_of_block (alloc_block _ _)) one_slice (by decide) (Uh HQ1).1 (Uh HQ1).2 ?c52 (w4.heap.size + 1) ?c62 ?_)
   case c52 => simpa using Uh HB4
   case c62 => simp
   intro g2 c2 w5 hown3 hgrow3 hat3 hlt3
   have n0:some B ≠ u0.ownBlock:=fun e => by have:=(own_ge (Uh HE4).law.own8 B e.symm).1; omega
   have t8:=grown_frozen hgrow3 (b:=B) (i:=8) (by simp; omega) n0
   have q0:w5.cell? ⟨B,8,none⟩ = some u0:=by rw [t8.1,World.cell?_alloc_lt _ _ _ (by exact hB4)]; exact p8
   have q2:w5.frozen? ⟨B,8,none⟩ = false:=by rw [t8.2,World.frozen?_alloc_old _ _ _ (by simp; omega)]; exact f8
   have HMd:=Hj (fun (W:World) (HW:w5.setCell ⟨B,8,none⟩ (.slice (some ⟨g2,0,none⟩) (qs.length + 1) c2) = W) => (Uh HE4).mid hgrow3 HW)
   have F3:=Hj (And.intro hown3 (And.intro hgrow3 (And.intro hat3 hlt3)))
   clear hown3 hgrow3 hat3 hlt3 t8 n0 p8 p9 f8 f9 HO8
   go_wp2_with fail
   generalize hW:w5.setCell ⟨B,8,none⟩ (.slice (some ⟨g2,0,none⟩) (qs.length + 1) c2) = W at *
   obtain ⟨⟨hsW,hoW⟩,q5,q6,q7⟩:=Uh HMd W rfl
   have HM:=Hj (And.intro hsW hoW)
   have HW:=Hj hW
   clear hW hsW hoW HMd q0 q2
   have HSZ:=Hj (Uh HE4).sz
   go_region_law (first
    | (refine step_append_lies _ rfl _ _ 33 rfl (B + 1) 25 i23 (.slice none 0 0) 1 24 Tryd.underlying33 (Uh I23).1 (Uh I23).2.1 (Uh I23).2.2.1 (Uh I23).2.2.2 rfl (by decide) u1 qs.length (qs.map Qn.v0) rfl ((Uh O5).alloc _) ⟨w6.heap.size,0,none⟩ 1 1 [.slice (some ⟨W.heap.size,0,none⟩) (k + 3) (k + 3 + 3)] rfl rfl (World.news_of_block (alloc_block _ _)) one_slice (by decide) (Uh HQ1).1 (Uh HQ1).2 (by simp; omega) (w6.heap.size + 1) (by simp) ?_; intro g3 c3 w7 hown6 hgrow6 hat6 hlt6; have L6:=after_appendQ q7b q5b q6b (Uh O5) hgrow6; have q5c:=L6.1; have q6c:=L6.2; have F6:=Hj (And.intro hown6 (And.intro hgrow6 (And.intro hat6 hlt6))); clear hown6 hgrow6 hat6 hlt6 L6)
    | (go_simp; go_at_call 32; go_must (refine (copyRats_any (some ⟨w.heap.size,0,none⟩) (k + 3) (k + 3) _ _ ((Uh HM).1.below ((Below.refl _ _).drew)) (by omega) (Uh HSZ)).mono ?_); rintro e w6 ⟨rfl,rs0,hcp⟩; go_must (have L5:=after_copyQ q7 q5 q6 (Uh HM).2 hcp.bel); have O5:=Hj L5.1; have q5b:=L5.2.1; have q6b:=L5.2.2.1; have q7b:=L5.2.2.2; have F5:=Hj hcp; clear hcp L5))
   all_goals
    have FIN:=rats_fin (Uh HE4).law (Uh HE4).fil (Uh HE4).len (Uh HE4).le (Uh HE4).nA (Uh HE4).far (Uh F3).1 (Uh F3).2.1 (Uh F3).2.2.1 (Uh F3).2.2.2 (Uh HW) (Uh F5).fil (Uh F5).len (by omega) (Nat.le_refl _) (fun p hp => ⟨fun z hz hne hlt => ((Uh F5).far p hp).1 z hz hne (Nat.le_of_lt hlt),fun z hz hne hlt => ((Uh F5).far p hp).2 z hz hne (Nat.le_of_lt hlt)⟩) (by rw [(Uh F5).con,List.take_of_length_le (Nat.le_of_eq (Uh HE4).len)]) ((Below.refl _ _).drew.trans (Uh F5).bel) (Uh F6).1 (Uh F6).2.1 (Uh F6).2.2.1
    have HFIN:=Hj FIN
    have HCH2:=Hj (rats_chg (w2:=w4) (Uh F3).2.1 (Uh HW) ((Below.refl _ _).drew.trans (Uh F5).bel) (Uh F6).2.1 (.slice (some ⟨g3,0,none⟩) (qs.length + 1) c3))
    have hc1:(k:Int) ≤ (k:Int) + 3:=by omega
    have hc2:(k:Int) ≤ ((k + 3:Nat):Int):=by omega
    clear FIN q5 q6 q7 q5b q6b q7b
    go_wp2
    go_ret
    obtain ⟨u0',u1',Q,e1,e2,e3,hQ⟩:=Uh HFIN
    exact ⟨Q,_,_,_,u0',u1',fs,(by rw [e1,e2]; rfl),e3,(Uh HE4).len,(Uh HE4).con,(Uh HC).cnt,hQ,((Uh HCH).mono (fun k _ h => Or.inl h)).then' (Uh HCH2) (fun k hk hn e => by rcases e with e | e | e; exact hn (.inl (.inl e)); exact hn (.inr (.inl e)); exact hn (.inr (.inr e))),(Uh HC).new⟩
end Go.Proofs.YtcajmdfcanopnaaDoor
