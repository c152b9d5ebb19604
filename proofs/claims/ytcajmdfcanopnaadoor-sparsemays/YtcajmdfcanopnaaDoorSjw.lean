/- Sj2 -/
import Derived.Test.YtcajmdfcanopnaaDoorSi3
import Derived.Test.YtcajmdfcanopnaaDoorSi8
import Derived.Test.YtcajmdfcanopnaaDoorRt6
import Derived.Deep.RegionHeld3
namespace Go.Proofs.YtcajmdfcanopnaaDoor
open Go.RowKit Go.Deep
set_option linter.unusedVariables false
theorem mayQ_conM {ps qs:List Nq} (h:ps.map conQ = qs.map conQ):mayQ ps = mayQ qs:=by
 have e:∀ l:List Nq,mayQ l = (l.map conQ).all (fun p => MayR p.1 p.2.1 p.2.2):=fun l => by
  unfold mayQ
  rw [List.all_map]
  rfl
 rw [e,e,h]
theorem SlI.front {w:World} {a:Option Addr} {c:Nat} {xs ys:List Int} (h:SlI w a (xs.length + 3) c (xs ++ ys)) {n:Nat} {x:List Int} (hx:xs = x) (hn:x.length = n):SlI w a n c x:=by
 subst hx
 refine ⟨hn,by have:=h.le; omega,h.cap,?_⟩
 rcases h.cells with e | ⟨b,off,e,k⟩
 ·left
  exact (List.append_eq_nil_iff.1 e).1
 ·right
  refine ⟨b,off,e,fun i hi => ?_⟩
  have:=k i (by simp; omega)
  rw [this]
  congr 2
  simp [List.getD,List.getElem?_append_left hi]
def TruQ (b:Bool) (P:Prop):Prop:=b = true ↔ P
theorem BIs.known {P:Prop} {w w':World} {e:Ending} {b:Bool} (hb:TruQ b P) (h:BIs P w w' e):e = .returned (.bool b) ∧ Below w.heap.size w w':=by
 obtain ⟨⟨b',rfl,hb'⟩,k⟩:=h
 have:b' = b:=by
  have:=hb'.trans (Iff.symm hb)
  cases b <;> cases b' <;> simp_all
 rw [this]
 exact ⟨rfl,k⟩
theorem LawM.slq {w:World} {B:Nat} {j0 j1 v0 v1 u0 u1:Value} {is:List EntI} {es:List Ent} {qs:List Qn} {w0:World} (h:LawM w B j0 j1 v0 v1 u0 u1 is es qs w0) {Q:Qn} (hQ:Q ∈ qs) {n:Nat} (hl:Q.ps.length = n + 3):SlQ w (some ⟨Q.b,0,none⟩) n Q.c (Q.ps.take n):=by
 have q:=h.law.qents Q hQ
 have f:=q.f
 have le:=q.le
 rw [← List.take_append_drop n Q.ps] at f
 exact f.pre.sl (by simp; omega) (by omega)
theorem LawM.sli {w:World} {B:Nat} {j0 j1 v0 v1 u0 u1:Value} {is:List EntI} {es:List Ent} {qs:List Qn} {w0:World} (h:LawM w B j0 j1 v0 v1 u0 u1 is es qs w0) {E:EntI} (hE:E ∈ is) {x:List Int} {n:Nat} (hx:E.xs = x) (hn:x.length = n):SlI w (some ⟨E.b,0,none⟩) n E.c x:=(h.ints E hE).1.front hx hn
theorem GivI.sli {w:World} {B:Nat} {v0 v1:Value} {is:List EntI} {rs:Nat → Value} (h:GivI w B v0 v1 is rs) {E:EntI} (hE:E ∈ is) {x:List Int} {n:Nat} (hx:E.xs = x) (hn:x.length = n):SlI w (some ⟨E.b,0,none⟩) n E.c x:=(h.ents E hE).sl.front hx hn
theorem intactM_any {w:World} {B:Nat} {j0 j1 v0 v1 u0 u1:Value} {is:List EntI} {es:List Ent} {qs:List Qn} {w0:World} (h:LawM w B j0 j1 v0 v1 u0 u1 is es qs w0) (hq:∀ q ∈ qs,q.ps.length ≤ 140737488355328) :
  Calls Tryd.prog 10 #[.pointer (some ⟨B,0,none⟩)] w fun e w' => e = .returned (.bool true) ∧ Below w.heap.size w w' :=
 intactT_any h.law hq is (fun i h4 h5 => rtI_other h4 h5) (by exact h.own4) (by exact h.own5) h.ints
theorem own_nil {B k:Nat} (hk:k ≠ B):¬ Own B (.slice none 0 0) (.slice none 0 0) k:=fun e => nil4 hk (.inl e)
theorem TruQ.con {b:Bool} {P R:Prop} (h:TruQ b P) (e:R ↔ P):TruQ b R:=Iff.trans h e.symm
theorem mayM_con {rows width:Int} {st cols:List Int} {ps qs:List Nq} (h:ps.map conQ = qs.map conQ):MayM rows width st cols ps ↔ MayM rows width st cols qs:=by
 have hl:ps.length = qs.length:=by have:=congrArg List.length h; simpa using this
 exact ⟨fun z => ⟨z.pat,by rw [← hl]; exact z.len,by rw [← mayQ_conM h]; exact z.nums⟩,fun z => ⟨z.pat,by rw [hl]; exact z.len,by rw [mayQ_conM h]; exact z.nums⟩⟩
end Go.Proofs.YtcajmdfcanopnaaDoor
namespace Go.Proofs.YtcajmdfcanopnaaDoor
open Go.ChangeShapes Go.WideShapes Go.ChangeAt Go.RowKit Go.Deep
set_option linter.unusedVariables false
set_option maxRecDepth 100000 in
set_option maxHeartbeats 64000000 in
theorem sparseMays_walk (rows width:Int) (a1:Option Addr) (n1 c1:Nat) (st:List Int) (a2:Option Addr) (n2 c2:Nat) (cols:List Int) (rm wm:Int) (a3:Option Addr) (n3 c3:Nat) (s3:List Int) (a4:Option Addr) (n4 c4:Nat) (s4:List Int) (a5:Option Addr) (n5 c5:Nat) (qs:List Nq) (w:World) (hP:PatZ w a1 n1 c1 st a2 n2 c2 cols) (hM:PatZ w a3 n3 c3 s3 a4 n4 c4 s4) (hV:ValZ w a5 n5 c5 qs) (hT:Tab64 w) (b1 b2:Bool) (hb1:b1 = true ↔ MayP rows width st cols) (hb2:b2 = true ↔ MayM rm wm s3 s4 qs) :
  Calls Tryd.prog 3 #[patV rows width a1 n1 c1 a2 n2 c2,matV rm wm a3 n3 c3 a4 n4 c4 a5 n5 c5] w fun e w' => e = .returned (.bool true) ∧ Below w.heap.size w w':=by
 obtain ⟨w1,hw1⟩:∃ x,w.alloc (.cells #[.int .i64 rows,.int .i64 width,.slice a1 n1 c1,.slice a2 n2 c2] 24) = x:=⟨_,rfl⟩
 obtain ⟨w2,hw2⟩:∃ x,w1.alloc (.cells #[.int .i64 rm,.int .i64 wm,.slice a3 n3 c3,.slice a4 n4 c4,.slice a5 n5 c5] 27) = x:=⟨_,rfl⟩
 have bb1:Below w.heap.size w w1:=by rw [← hw1]; exact bAl
 have bb2:Below w1.heap.size w1 w2:=by rw [← hw2]; exact bAl
 have hBP:BoxP w2 w.heap.size [.int .i64 rows,.int .i64 width,.slice a1 n1 c1,.slice a2 n2 c2]:=by have:=BoxP.made w #[.int .i64 rows,.int .i64 width,.slice a1 n1 c1,.slice a2 n2 c2] 24; rw [hw1] at this; exact this.below bb2
 have hBM:BoxP w2 w1.heap.size [.int .i64 rm,.int .i64 wm,.slice a3 n3 c3,.slice a4 n4 c4,.slice a5 n5 c5]:=by have:=BoxP.made w1 #[.int .i64 rm,.int .i64 wm,.slice a3 n3 c3,.slice a4 n4 c4,.slice a5 n5 c5] 27; rw [hw2] at this; exact this
 have d0:=(hBP.all 0 _ rfl).1
 have d1:=(hBP.all 1 _ rfl).1
 have d2:=(hBP.all 2 _ rfl).1
 have d3:=(hBP.all 3 _ rfl).1
 have d4:=(hBM.all 0 _ rfl).1
 have d5:=(hBM.all 1 _ rfl).1
 have d6:=(hBM.all 2 _ rfl).1
 have d7:=(hBM.all 3 _ rfl).1
 have d8:=(hBM.all 4 _ rfl).1
 have bb:=bb1.trans (bb2.mono bb1.size)
 obtain ⟨B,hBe⟩:∃ B,w2.heap.size = B:=⟨_,rfl⟩
 have hG:=GivI.made w2
 rw [hBe] at hG
 have bg:Below w2.heap.size w2 (w2.alloc givO):=bAl
 obtain ⟨wg,hwg⟩:∃ x,w2.alloc givO = x:=⟨_,rfl⟩
 rw [hwg] at hG bg
 unfold givO at hwg
 have g0:=(ck bg d0)
 have g1:=(ck bg d1)
 have g2:=(ck bg d2)
 have g3:=(ck bg d3)
 have g4:=(ck bg d4)
 have g5:=(ck bg d5)
 have g6:=(ck bg d6)
 have g7:=(ck bg d7)
 have g8:=(ck bg d8)
 have HEL:=Hj (show ∀ (E1 E2:EntI),E1.xs = st → E2.xs = cols → ∀ e ∈ [] ++ [E1] ++ [E2],e.xs.length ≤ 17592186044000 from fun E1 E2 e1 e2 e he => by
  have l1:=hP.h1.len
  have l2:=hP.h2.len
  have:=hP.l1
  have:=hP.l2
  simp at he
  rcases he with rfl | rfl
  ·rw [e1]; omega
  ·rw [e2]; omega)
 have HLO1:=Hj (show ∀ z,a2 = some z → cols ≠ [] → z.block < B from fun z hz hne => by have:=hP.h2.block_lt hne z hz; have:=bb.size; omega)
 have HLO2:=Hj (show ∀ z,a4 = some z → s4 ≠ [] → z.block < B from fun z hz hne => by have:=hM.h2.block_lt hne z hz; have:=bb.size; omega)
 have HP:=Hj hP
 have HM:=Hj hM
 have HV:=Hj hV
 have HT:=Hj hT
 have HB1:=Hj (show TruQ b1 (MayP rows width st cols) from hb1)
 have HB2:=Hj (show TruQ b2 (MayM rm wm s3 s4 qs) from hb2)
 have HG:=Hj hG
 have HBG:=Hj bg
 have HW2:=Hj bb
 have HBE:=Hj hBe
 clear hP hM hV hT hb1 hb2 hG bg bb bb1 bb2 hBP hBM
 unfold patV matV
 cases b1 <;> cases b2
 all_goals
  go_enter Tryd.func3,Tryd.ntmps3
  go_wp2_with fail
  go_region_held3 (fun w' => w'.cell? ⟨w.heap.size,0,none⟩ = some (.int .i64 rows) ∧ w'.cell? ⟨w.heap.size,1,none⟩ = some (.int .i64 width) ∧ w'.cell? ⟨w.heap.size,2,none⟩ = some (.slice a1 n1 c1) ∧ w'.cell? ⟨w.heap.size,3,none⟩ = some (.slice a2 n2 c2) ∧ w'.cell? ⟨w1.heap.size,0,none⟩ = some (.int .i64 rm) ∧ w'.cell? ⟨w1.heap.size,1,none⟩ = some (.int .i64 wm) ∧ w'.cell? ⟨w1.heap.size,2,none⟩ = some (.slice a3 n3 c3) ∧ w'.cell? ⟨w1.heap.size,3,none⟩ = some (.slice a4 n4 c4) ∧ w'.cell? ⟨w1.heap.size,4,none⟩ = some (.slice a5 n5 c5)) (first | go_keep | (exact ⟨p_0,p_1,p_2,p_3,p_4,p_5,p_6,p_7,p_8⟩) | (exact ⟨q_0,q_1,q_2,q_3,q_4,q_5,q_6,q_7,q_8⟩) | (exact ⟨r_0,r_1,r_2,r_3,r_4,r_5,r_6,r_7,r_8⟩) | (exact ⟨s_0,s_1,s_2,s_3,s_4,s_5,s_6,s_7,s_8⟩) | (exact ⟨t_0,t_1,t_2,t_3,t_4,t_5,t_6,t_7,t_8⟩) | (exact ⟨u_0,u_1,u_2,u_3,u_4,u_5,u_6,u_7,u_8⟩) | (exact ⟨x_0,x_1,x_2,x_3,x_4,x_5,x_6,x_7,x_8⟩))
   (first
    | (go_at_call 5; have K:=gpat_any B (.slice none 0 0) (.slice none 0 0) [] (fun _ => .slice none 0 0) rows width a1 n1 c1 st a2 n2 c2 cols _ ((Uh HG).below (Below.refl _ _).drew) ((((Uh HP).h1.below (Uh HW2)).below (Uh HBG)).below (Below.refl _ _).drew) ((((Uh HP).h2.below (Uh HW2)).below (Uh HBG)).below (Below.refl _ _).drew) (Uh HLO1) (Uh HP).l1 (Uh HP).l2 (by simp); unfold patV at K; refine K.mono ?_; clear K; rintro _ wp ⟨v,rfl,v0,v1,E1,E2,rfl,GP⟩; (try unfold patV); have hK:Below w2.heap.size w2 wp:=(Uh HBG).trans (((Chg.of_drew wg).trans GP.chg).below (Uh HBG).size (fun k hk => own_nil (by have:=Uh HBE; omega))); have p_0:=(ck hK d0); have p_1:=(ck hK d1); have p_2:=(ck hK d2); have p_3:=(ck hK d3); have p_4:=(ck hK d4); have p_5:=(ck hK d5); have p_6:=(ck hK d6); have p_7:=(ck hK d7); have p_8:=(ck hK d8); have HP1:=Hj (And.intro GP.giv (And.intro GP.x1 (And.intro GP.x2 hK))); clear GP hK)
    | (go_at_call 4; have K:=smay_any rows width (some ⟨E1.b,0,none⟩) (some ⟨E2.b,0,none⟩) n1 E1.c n2 E2.c st cols wp ((Uh HP1).1.sli (by simp) (Uh HP1).2.1 (Uh HP).h1.len) ((Uh HP1).1.sli (by simp) (Uh HP1).2.2.1 (Uh HP).h2.len) (by have:=(Uh HP).l1; omega) (by have:=(Uh HP).l2; omega); unfold patV at K; refine K.mono ?_; clear K; intro e wq hq; obtain ⟨rfl,hb⟩:=hq.known (Uh HB1); have hK:=(Uh HP1).2.2.2.trans (hb.mono (Uh HP1).2.2.2.size); have q_0:=(ck hK d0); have q_1:=(ck hK d1); have q_2:=(ck hK d2); have q_3:=(ck hK d3); have q_4:=(ck hK d4); have q_5:=(ck hK d5); have q_6:=(ck hK d6); have q_7:=(ck hK d7); have q_8:=(ck hK d8); have HP2:=Hj (And.intro ((Uh HP1).1.below hb) (And.intro (Uh HP1).2.1 (And.intro (Uh HP1).2.2.1 hK))); clear hq hb hK)
    | (go_at_call 6; have K:=wsmay_any rows width a1 a2 n1 c1 n2 c2 st cols wq (((Uh HP).h1.below (Uh HW2)).below (Uh HP2).2.2.2) (((Uh HP).h2.below (Uh HW2)).below (Uh HP2).2.2.2) (by have:=(Uh HP).l1; omega) (by have:=(Uh HP).l2; omega); unfold patV at K; refine K.mono ?_; clear K; intro e wr hq; obtain ⟨rfl,hb⟩:=hq.known (Uh HB1); have hK:=(Uh HP2).2.2.2.trans (hb.mono (Uh HP2).2.2.2.size); have r_0:=(ck hK d0); have r_1:=(ck hK d1); have r_2:=(ck hK d2); have r_3:=(ck hK d3); have r_4:=(ck hK d4); have r_5:=(ck hK d5); have r_6:=(ck hK d6); have r_7:=(ck hK d7); have r_8:=(ck hK d8); have HP3:=Hj (And.intro ((Uh HP2).1.below hb) (And.intro (Uh HP2).2.1 (And.intro (Uh HP2).2.2.1 hK))); clear hq hb hK)
    | (go_at_call 8; have K:=gmat_any B v0 v1 ([] ++ [E1] ++ [E2]) rm wm a3 n3 c3 s3 a4 n4 c4 s4 a5 n5 c5 qs wr w2 (Uh HP3).1 (Uh HEL E1 E2 (Uh HP3).2.1 (Uh HP3).2.2.1) (Uh HP3).2.2.2 (by have:=Uh HBE; omega) (((Uh HM).h1.below (Uh HW2)).below (Uh HP3).2.2.2) (((Uh HM).h2.below (Uh HW2)).below (Uh HP3).2.2.2) (Uh HLO2) ((Uh HV).sl.below (Uh HW2)) (Uh HM).l1 (Uh HM).l2 (by simp) (Uh HV).le (Uh HV).each; unfold matV at K; refine K.mono ?_; clear K; rintro _ ws ⟨v,rfl,z0,z1,v0m,v1m,u0m,u1m,fs,E3,E4,Q,rfl,GM⟩; (try unfold matV); have hK:=GM.law.law.bel; have s_0:=(ck hK d0); have s_1:=(ck hK d1); have s_2:=(ck hK d2); have s_3:=(ck hK d3); have s_4:=(ck hK d4); have s_5:=(ck hK d5); have s_6:=(ck hK d6); have s_7:=(ck hK d7); have s_8:=(ck hK d8); have HP4:=Hj GM; clear GM hK)
    | (go_at_call 7; have K:=smatMay_any rm wm (some ⟨E3.b,0,none⟩) (some ⟨E4.b,0,none⟩) (some ⟨Q.b,0,none⟩) n3 E3.c n4 E4.c n5 Q.c s3 s4 (Q.ps.take n5) ws ((Uh HP4).law.sli (by simp) (Uh HP4).x1 (Uh HM).h1.len) ((Uh HP4).law.sli (by simp) (Uh HP4).x2 (Uh HM).h2.len) ((Uh HP4).law.slq (by simp) (Uh HP4).len) (by have:=(Uh HM).l1; omega) (by have:=(Uh HM).l2; omega) (by have:=(Uh HV).le; omega) (((Uh HT).below (Uh HW2)).below (Uh HP4).law.law.bel); unfold matV at K; refine K.mono ?_; clear K; intro e wt hq; obtain ⟨rfl,hb⟩:=hq.known ((Uh HB2).con (mayM_con (Uh HP4).con)); have hL:=(Uh HP4).law.below hb; have hK:=hL.law.bel; have t_0:=(ck hK d0); have t_1:=(ck hK d1); have t_2:=(ck hK d2); have t_3:=(ck hK d3); have t_4:=(ck hK d4); have t_5:=(ck hK d5); have t_6:=(ck hK d6); have t_7:=(ck hK d7); have t_8:=(ck hK d8); have HP5:=Hj hL; clear hq hb hK hL)
    | (go_at_call 9; have K:=wsmatMay_any rm wm a3 a4 a5 n3 c3 n4 c4 n5 c5 s3 s4 qs wt (((Uh HM).h1.below (Uh HW2)).below (Uh HP5).law.bel) (((Uh HM).h2.below (Uh HW2)).below (Uh HP5).law.bel) (((Uh HV).sl.below (Uh HW2)).below (Uh HP5).law.bel) (by have:=(Uh HM).l1; omega) (by have:=(Uh HM).l2; omega) (by have:=(Uh HV).le; omega); unfold matV at K; refine K.mono ?_; clear K; intro e wu hq; obtain ⟨rfl,hb⟩:=hq.known (Uh HB2); have hL:=(Uh HP5).below hb; have hK:=hL.law.bel; have u_0:=(ck hK d0); have u_1:=(ck hK d1); have u_2:=(ck hK d2); have u_3:=(ck hK d3); have u_4:=(ck hK d4); have u_5:=(ck hK d5); have u_6:=(ck hK d6); have u_7:=(ck hK d7); have u_8:=(ck hK d8); have HP6:=Hj hL; clear hq hb hK hL)
    | (go_at_call 10; refine (intactM_any (Uh HP6) (fun q hq => by simp at hq; subst hq; rw [(Uh HP4).len]; have:=(Uh HV).le; omega)).mono ?_; rintro _ wx ⟨rfl,hb⟩; have hL:=(Uh HP6).below hb; have hK:=hL.law.bel; have x_0:=(ck hK d0); have x_1:=(ck hK d1); have x_2:=(ck hK d2); have x_3:=(ck hK d3); have x_4:=(ck hK d4); have x_5:=(ck hK d5); have x_6:=(ck hK d6); have x_7:=(ck hK d7); have x_8:=(ck hK d8); have HP7:=Hj hL; clear hb hK hL))
  try go_wp2_with fail
  try go_ret
  exact ⟨rfl,(Uh HW2).trans ((Uh HP7).law.bel.mono (Uh HW2).size)⟩
end Go.Proofs.YtcajmdfcanopnaaDoor
