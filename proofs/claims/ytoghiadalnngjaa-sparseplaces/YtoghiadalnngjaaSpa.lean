/- Spa -/
import Derived.Test.YtoghiadalnngjaaSp9
import Derived.Test.YtoghiadalnngjaaSi3
namespace Go.Proofs.Ytoghiadalnngjaa
open Go.RowKit Go.Deep
set_option linter.unusedVariables false
set_option maxRecDepth 100000 in
set_option maxHeartbeats 16000000 in
theorem splaces_no (rows width:Int) (a1 a2:Option Addr) (n1 c1 n2 c2:Nat) (st cols:List Int) (w:World) (h1:SlI w a1 n1 c1 st) (h2:SlI w a2 n2 c2 cols) (hb1:n1 ≤ 17592186044000) (hb2:n2 ≤ 17592186044000) (hm:¬ MayP rows width st cols) :
  Calls Try.prog 7 #[patV rows width a1 n1 c1 a2 n2 c2] w fun e w' => e = .returned (.tuple #[.slice none 0 0,.slice none 0 0,.int .i64 180]) ∧ Below w.heap.size w w':=by
 obtain ⟨wb,hwb⟩:∃ x,w.alloc (.cells #[.int .i64 rows,.int .i64 width,.slice a1 n1 c1,.slice a2 n2 c2] 24) = x:=⟨_,rfl⟩
 have bb:Below w.heap.size w wb:=by rw [← hwb]; exact bAl
 have hT:=BoxP.made w #[.int .i64 rows,.int .i64 width,.slice a1 n1 c1,.slice a2 n2 c2] 24
 rw [hwb] at hT
 have p0:=(hT.all 0 _ rfl).1
 have p1:=(hT.all 1 _ rfl).1
 have p2:=(hT.all 2 _ rfl).1
 have p3:=(hT.all 3 _ rfl).1
 have KM:=Hj (smay_any rows width a1 a2 n1 c1 n2 c2 st cols wb (h1.below bb) (h2.below bb) (by omega) (by omega))
 have HB:=Hj bb
 have HTR:=Hj (show TruQ false (MayP rows width st cols) from ⟨fun e => (by cases e),fun z => absurd z hm⟩)
 clear hT bb h1 h2 hm
 unfold patV
 unfold patV at KM
 go_enter Try.func7,Try.ntmps7
 go_wp2_with fail
 refine (Uh KM).mono ?_
 intro e w1 hq
 obtain ⟨rfl,b1⟩:=hq.known (Uh HTR)
 have HB1:=Hj ((Uh HB).trans (b1.mono (Uh HB).size))
 clear b1 hq KM HTR p0 p1 p2 p3
 go_wp2_with fail
 refine bodyPost_ret (by simp [results,Try.results7,go_sem]; try rfl) rfl ?_
 exact ⟨rfl,Uh HB1⟩
--PLACES
set_option maxRecDepth 100000 in
set_option maxHeartbeats 64000000 in
theorem places_yes (R:Nat) (width:Int) (e1 d1 e2 d2:Nat) (a1 a2:Option Addr) (n1 c1 n2 c2:Nat) (st cols:List Int) (r t:Int) (w:World) (q1:SlI w (some ⟨e1,0,none⟩) n1 d1 st) (q2:SlI w (some ⟨e2,0,none⟩) n2 d2 cols) (h1:SlI w a1 n1 c1 st) (h2:SlI w a2 n2 c2 cols) (hb1:n1 ≤ 17592186044000) (hb2:n2 ≤ 17592186044000) (hm:MayP (R:Int) width st cols) (okh:Bool) (hok:TruQ okh (HasP (R:Int) width st cols r t)) :
  Calls Try.prog 4 #[patV (R:Int) width (some ⟨e1,0,none⟩) n1 d1 (some ⟨e2,0,none⟩) n2 d2,patV (R:Int) width a1 n1 c1 a2 n2 c2,.int .i64 r,.int .i64 t] w fun e w' => e = .returned (.bool true) ∧ Below w.heap.size w w':=by
 obtain ⟨w1,hw1⟩:∃ x,w.alloc (.cells #[.int .i64 (R:Int),.int .i64 width,.slice (some ⟨e1,0,none⟩) n1 d1,.slice (some ⟨e2,0,none⟩) n2 d2] 24) = x:=⟨_,rfl⟩
 obtain ⟨w2,hw2⟩:∃ x,w1.alloc (.cells #[.int .i64 (R:Int),.int .i64 width,.slice a1 n1 c1,.slice a2 n2 c2] 24) = x:=⟨_,rfl⟩
 have bb1:Below w.heap.size w w1:=by rw [← hw1]; exact bAl
 have bb2:Below w1.heap.size w1 w2:=by rw [← hw2]; exact bAl
 have hBQ:BoxP w2 w.heap.size [.int .i64 (R:Int),.int .i64 width,.slice (some ⟨e1,0,none⟩) n1 d1,.slice (some ⟨e2,0,none⟩) n2 d2]:=by have:=BoxP.made w #[.int .i64 (R:Int),.int .i64 width,.slice (some ⟨e1,0,none⟩) n1 d1,.slice (some ⟨e2,0,none⟩) n2 d2] 24; rw [hw1] at this; exact this.below bb2
 have hBP:BoxP w2 w1.heap.size [.int .i64 (R:Int),.int .i64 width,.slice a1 n1 c1,.slice a2 n2 c2]:=by have:=BoxP.made w1 #[.int .i64 (R:Int),.int .i64 width,.slice a1 n1 c1,.slice a2 n2 c2] 24; rw [hw2] at this; exact this
 have dd0:=(hBQ.all 0 _ rfl).1
 have dd1:=(hBQ.all 1 _ rfl).1
 have dd2:=(hBQ.all 2 _ rfl).1
 have dd3:=(hBQ.all 3 _ rfl).1
 have dd4:=(hBP.all 0 _ rfl).1
 have dd5:=(hBP.all 1 _ rfl).1
 have dd6:=(hBP.all 2 _ rfl).1
 have dd7:=(hBP.all 3 _ rfl).1
 have bb:=bb1.trans (bb2.mono bb1.size)
 have HQ:=Hj (And.intro (q1.below bb) (And.intro (q2.below bb) (And.intro (h1.below bb) (h2.below bb))))
 have HB:=Hj bb
 have HOK:=Hj hok
 have HM:=Hj hm
 have HLN:=Hj (And.intro h1.len h2.len)
 have HTR:=Hj (show TruQ true (MayP (R:Int) width st cols) from ⟨fun _ => hm,fun _ => rfl⟩)
 have KP1:=Hj (splaces_yes R width (some ⟨e1,0,none⟩) (some ⟨e2,0,none⟩) n1 d1 n2 d2 st cols w2 (Uh HQ).1 (Uh HQ).2.1 hb1 hb2 hm)
 clear bb1 bb2 bb hBQ hBP q1 q2 h1 h2 hok hm
 unfold patV
 unfold patV at KP1
 cases okh
 all_goals
  go_enter Try.func4,Try.ntmps4
  go_wp2_with fail
  refine (Uh KP1).mono ?_
  rintro e w3 ⟨⟨x1,y1,x2,y2,rfl,s1,s2⟩,b3⟩
  have A_0:=(ck b3 dd0)
  have A_1:=(ck b3 dd1)
  have A_2:=(ck b3 dd2)
  have A_3:=(ck b3 dd3)
  have A_4:=(ck b3 dd4)
  have A_5:=(ck b3 dd5)
  have A_6:=(ck b3 dd6)
  have A_7:=(ck b3 dd7)
  have KP2:=Hj (wplaces_yes R width a1 a2 n1 c1 n2 c2 st cols w3 ((Uh HQ).2.2.1.below b3) ((Uh HQ).2.2.2.below b3) hb1 hb2 (Uh HM))
  unfold patV at KP2
  have HB3:=Hj b3
  have HS:=Hj (And.intro s1 s2)
  clear b3 KP1 s1 s2
  go_wp2_with fail
  refine (Uh KP2).mono ?_
  rintro e w4 ⟨⟨z1,t1,z2,t2,rfl,s3,s4⟩,b4⟩
  have b24:=(Uh HB3).trans (b4.mono (Uh HB3).size)
  have B_0:=(ck b24 dd0)
  have B_1:=(ck b24 dd1)
  have B_2:=(ck b24 dd2)
  have B_3:=(ck b24 dd3)
  have B_4:=(ck b24 dd4)
  have B_5:=(ck b24 dd5)
  have B_6:=(ck b24 dd6)
  have B_7:=(ck b24 dd7)
  have hpl:=plR_len (Uh HM) R (Nat.le_refl _)
  have hlast:=(Uh HM).head.last
  rw [show ((R:Int)).toNat = R by omega] at hlast
  have hl2:=(Uh HLN).2
  have KS1:=Hj (sameInts_eq x1 z1 _ y1 t1 _ w4 ((Uh HS).1.below b4) s3 (by omega))
  have HS2:=Hj (And.intro ((Uh HS).2.below b4) s4)
  have hl9:cols.length ≤ 140737488355328:=by omega
  clear hpl hlast hl2 s3 s4 HS
  have HB4:=Hj b24
  clear b4 b24 KP2 A_0 A_1 A_2 A_3 A_4 A_5 A_6 A_7
  generalize (plR st R).length = np at *
  go_wp2_with fail
  refine (Uh KS1).mono ?_
  rintro _ w5 ⟨rfl,m5,hm5⟩
  have b5:Below w4.heap.size w4 w5:=by rw [hm5]; exact bel_drewN (Below.refl _ _) m5
  clear hm5 KS1
  have KS2:=Hj (sameInts_eq x2 z2 _ y2 t2 _ w5 ((Uh HS2).1.below b5) ((Uh HS2).2.below b5) hl9)
  have b25:=(Uh HB4).trans (b5.mono (Uh HB4).size)
  have C_0:=(ck b25 dd0)
  have C_1:=(ck b25 dd1)
  have C_2:=(ck b25 dd2)
  have C_3:=(ck b25 dd3)
  have C_4:=(ck b25 dd4)
  have C_5:=(ck b25 dd5)
  have C_6:=(ck b25 dd6)
  have C_7:=(ck b25 dd7)
  have HB5:=Hj b25
  clear b5 b25 B_0 B_1 B_2 B_3 B_4 B_5 B_6 B_7
  generalize hcl9:cols.length = nc at *
  have HCL:=Hj hcl9
  clear hcl9
  go_wp2_with fail
  refine (Uh KS2).mono ?_
  rintro _ w6 ⟨rfl,m6,hm6⟩
  have b6:Below w5.heap.size w5 w6:=by rw [hm6]; exact bel_drewN (Below.refl _ _) m6
  clear hm6 KS2
  have b26:=(Uh HB5).trans (b6.mono (Uh HB5).size)
  have D_0:=(ck b26 dd0)
  have D_1:=(ck b26 dd1)
  have D_2:=(ck b26 dd2)
  have D_3:=(ck b26 dd3)
  have D_4:=(ck b26 dd4)
  have D_5:=(ck b26 dd5)
  have D_6:=(ck b26 dd6)
  have D_7:=(ck b26 dd7)
  have HB6:=Hj b26
  clear b6 b26 C_0 C_1 C_2 C_3 C_4 C_5 C_6 C_7
  go_wp2_with fail
  have HB6D:=Hj (Uh HB6).drew
  go_region_held3 (fun w' => w'.cell? ⟨w.heap.size,0,none⟩ = some (.int .i64 (R:Int)) ∧ w'.cell? ⟨w.heap.size,1,none⟩ = some (.int .i64 width) ∧ w'.cell? ⟨w.heap.size,2,none⟩ = some (.slice (some ⟨e1,0,none⟩) n1 d1) ∧ w'.cell? ⟨w.heap.size,3,none⟩ = some (.slice (some ⟨e2,0,none⟩) n2 d2) ∧ w'.cell? ⟨w1.heap.size,0,none⟩ = some (.int .i64 (R:Int)) ∧ w'.cell? ⟨w1.heap.size,1,none⟩ = some (.int .i64 width) ∧ w'.cell? ⟨w1.heap.size,2,none⟩ = some (.slice a1 n1 c1) ∧ w'.cell? ⟨w1.heap.size,3,none⟩ = some (.slice a2 n2 c2)) (first | go_keep | (exact ⟨G0_0,G0_1,G0_2,G0_3,G0_4,G0_5,G0_6,G0_7⟩) | (exact ⟨G1_0,G1_1,G1_2,G1_3,G1_4,G1_5,G1_6,G1_7⟩) | (exact ⟨G2_0,G2_1,G2_2,G2_3,G2_4,G2_5,G2_6,G2_7⟩) | (exact ⟨G3_0,G3_1,G3_2,G3_3,G3_4,G3_5,G3_6,G3_7⟩))
   (first
    | (go_at_call 10; have K:=shas_any (R:Int) width (some ⟨e1,0,none⟩) (some ⟨e2,0,none⟩) n1 d1 n2 d2 st cols r t _ ((Uh HQ).1.below (Uh HB6).drew) ((Uh HQ).2.1.below (Uh HB6).drew) (by omega) (by omega) _ (Uh HOK); unfold patV at K; refine K.mono ?_; clear K; rintro _ v0 ⟨rfl,hb⟩; have hK:=(Uh HB6D).trans (hb.mono (Uh HB6D).size); have G0_0:=(ck hK dd0); have G0_1:=(ck hK dd1); have G0_2:=(ck hK dd2); have G0_3:=(ck hK dd3); have G0_4:=(ck hK dd4); have G0_5:=(ck hK dd5); have G0_6:=(ck hK dd6); have G0_7:=(ck hK dd7); have HG0:=Hj hK; clear hb hK)
    | (go_at_call 11; have K:=wshas_any (R:Int) width a1 a2 n1 c1 n2 c2 st cols r t v0 ((Uh HQ).2.2.1.below (Uh HG0)) ((Uh HQ).2.2.2.below (Uh HG0)) (by omega) (by omega) _ (Uh HOK); unfold patV at K; refine K.mono ?_; clear K; rintro _ v1 ⟨rfl,hb⟩; have hK:=(Uh HG0).trans (hb.mono (Uh HG0).size); have G1_0:=(ck hK dd0); have G1_1:=(ck hK dd1); have G1_2:=(ck hK dd2); have G1_3:=(ck hK dd3); have G1_4:=(ck hK dd4); have G1_5:=(ck hK dd5); have G1_6:=(ck hK dd6); have G1_7:=(ck hK dd7); have HG1:=Hj hK; clear hb hK)
    | (go_at_call 12; have K:=scount_any (R:Int) width (some ⟨e1,0,none⟩) (some ⟨e2,0,none⟩) n1 d1 n2 d2 st cols v1 ((Uh HQ).1.below (Uh HG1)) ((Uh HQ).2.1.below (Uh HG1)) (by omega) (by omega) _ (Uh HTR); rw [if_pos rfl] at K; unfold patV at K; refine K.mono ?_; clear K; rintro _ v2 ⟨rfl,hb⟩; have hK:=(Uh HG1).trans (hb.mono (Uh HG1).size); have G2_0:=(ck hK dd0); have G2_1:=(ck hK dd1); have G2_2:=(ck hK dd2); have G2_3:=(ck hK dd3); have G2_4:=(ck hK dd4); have G2_5:=(ck hK dd5); have G2_6:=(ck hK dd6); have G2_7:=(ck hK dd7); have HG2:=Hj hK; clear hb hK)
    | (go_at_call 13; have K:=wscount_any (R:Int) width a1 a2 n1 c1 n2 c2 st cols v2 ((Uh HQ).2.2.1.below (Uh HG2)) ((Uh HQ).2.2.2.below (Uh HG2)) (by omega) (by omega) _ (Uh HTR); rw [if_pos rfl] at K; unfold patV at K; refine K.mono ?_; clear K; rintro _ v3 ⟨rfl,hb⟩; have hK:=(Uh HG2).trans (hb.mono (Uh HG2).size); have G3_0:=(ck hK dd0); have G3_1:=(ck hK dd1); have G3_2:=(ck hK dd2); have G3_3:=(ck hK dd3); have G3_4:=(ck hK dd4); have G3_5:=(ck hK dd5); have G3_6:=(ck hK dd6); have G3_7:=(ck hK dd7); have HG3:=Hj hK; clear hb hK))
  try go_wp2_with fail
  try go_ret
  exact ⟨rfl,(Uh HB).trans ((Uh HG3).mono (Uh HB).size)⟩
set_option maxRecDepth 100000 in
set_option maxHeartbeats 64000000 in
theorem places_no (rows:Int) (width:Int) (e1 d1 e2 d2:Nat) (a1 a2:Option Addr) (n1 c1 n2 c2:Nat) (st cols:List Int) (r t:Int) (w:World) (q1:SlI w (some ⟨e1,0,none⟩) n1 d1 st) (q2:SlI w (some ⟨e2,0,none⟩) n2 d2 cols) (h1:SlI w a1 n1 c1 st) (h2:SlI w a2 n2 c2 cols) (hb1:n1 ≤ 17592186044000) (hb2:n2 ≤ 17592186044000) (hm:¬ MayP rows width st cols) (okh:Bool) (hok:TruQ okh (HasP rows width st cols r t)) :
  Calls Try.prog 4 #[patV rows width (some ⟨e1,0,none⟩) n1 d1 (some ⟨e2,0,none⟩) n2 d2,patV rows width a1 n1 c1 a2 n2 c2,.int .i64 r,.int .i64 t] w fun e w' => e = .returned (.bool true) ∧ Below w.heap.size w w':=by
 obtain ⟨w1,hw1⟩:∃ x,w.alloc (.cells #[.int .i64 rows,.int .i64 width,.slice (some ⟨e1,0,none⟩) n1 d1,.slice (some ⟨e2,0,none⟩) n2 d2] 24) = x:=⟨_,rfl⟩
 obtain ⟨w2,hw2⟩:∃ x,w1.alloc (.cells #[.int .i64 rows,.int .i64 width,.slice a1 n1 c1,.slice a2 n2 c2] 24) = x:=⟨_,rfl⟩
 have bb1:Below w.heap.size w w1:=by rw [← hw1]; exact bAl
 have bb2:Below w1.heap.size w1 w2:=by rw [← hw2]; exact bAl
 have hBQ:BoxP w2 w.heap.size [.int .i64 rows,.int .i64 width,.slice (some ⟨e1,0,none⟩) n1 d1,.slice (some ⟨e2,0,none⟩) n2 d2]:=by have:=BoxP.made w #[.int .i64 rows,.int .i64 width,.slice (some ⟨e1,0,none⟩) n1 d1,.slice (some ⟨e2,0,none⟩) n2 d2] 24; rw [hw1] at this; exact this.below bb2
 have hBP:BoxP w2 w1.heap.size [.int .i64 rows,.int .i64 width,.slice a1 n1 c1,.slice a2 n2 c2]:=by have:=BoxP.made w1 #[.int .i64 rows,.int .i64 width,.slice a1 n1 c1,.slice a2 n2 c2] 24; rw [hw2] at this; exact this
 have dd0:=(hBQ.all 0 _ rfl).1
 have dd1:=(hBQ.all 1 _ rfl).1
 have dd2:=(hBQ.all 2 _ rfl).1
 have dd3:=(hBQ.all 3 _ rfl).1
 have dd4:=(hBP.all 0 _ rfl).1
 have dd5:=(hBP.all 1 _ rfl).1
 have dd6:=(hBP.all 2 _ rfl).1
 have dd7:=(hBP.all 3 _ rfl).1
 have bb:=bb1.trans (bb2.mono bb1.size)
 have HQ:=Hj (And.intro (q1.below bb) (And.intro (q2.below bb) (And.intro (h1.below bb) (h2.below bb))))
 have HB:=Hj bb
 have HOK:=Hj hok
 have HM:=Hj hm
 have HLN:=Hj (And.intro h1.len h2.len)
 have HTR:=Hj (show TruQ false (MayP rows width st cols) from ⟨fun e => (by cases e),fun z => absurd z hm⟩)
 have KP1:=Hj (splaces_no rows width (some ⟨e1,0,none⟩) (some ⟨e2,0,none⟩) n1 d1 n2 d2 st cols w2 (Uh HQ).1 (Uh HQ).2.1 hb1 hb2 hm)
 clear bb1 bb2 bb hBQ hBP q1 q2 h1 h2 hok hm
 unfold patV
 unfold patV at KP1
 cases okh
 all_goals
  go_enter Try.func4,Try.ntmps4
  go_wp2_with fail
  refine (Uh KP1).mono ?_
  rintro _ w3 ⟨rfl,b3⟩
  have A_0:=(ck b3 dd0)
  have A_1:=(ck b3 dd1)
  have A_2:=(ck b3 dd2)
  have A_3:=(ck b3 dd3)
  have A_4:=(ck b3 dd4)
  have A_5:=(ck b3 dd5)
  have A_6:=(ck b3 dd6)
  have A_7:=(ck b3 dd7)
  have KP2:=Hj (wplaces_no rows width a1 a2 n1 c1 n2 c2 st cols w3 ((Uh HQ).2.2.1.below b3) ((Uh HQ).2.2.2.below b3) hb1 hb2 (Uh HM))
  unfold patV at KP2
  have HB3:=Hj b3
  clear b3 KP1
  go_wp2_with fail
  refine (Uh KP2).mono ?_
  rintro _ w4 ⟨rfl,b4⟩
  have b24:=(Uh HB3).trans (b4.mono (Uh HB3).size)
  have B_0:=(ck b24 dd0)
  have B_1:=(ck b24 dd1)
  have B_2:=(ck b24 dd2)
  have B_3:=(ck b24 dd3)
  have B_4:=(ck b24 dd4)
  have B_5:=(ck b24 dd5)
  have B_6:=(ck b24 dd6)
  have B_7:=(ck b24 dd7)
  have KS1:=Hj (sameInts_eq none none 0 0 0 [] w4 (SlI.nil _) (SlI.nil _) (by omega))
  have HB4:=Hj b24
  clear b4 b24 KP2 A_0 A_1 A_2 A_3 A_4 A_5 A_6 A_7
  go_wp2_with fail
  refine (Uh KS1).mono ?_
  rintro _ w5 ⟨rfl,m5,hm5⟩
  have b5:Below w4.heap.size w4 w5:=by rw [hm5]; exact bel_drewN (Below.refl _ _) m5
  clear hm5 KS1
  have KS2:=Hj (sameInts_eq none none 0 0 0 [] w5 (SlI.nil _) (SlI.nil _) (by omega))
  have b25:=(Uh HB4).trans (b5.mono (Uh HB4).size)
  have C_0:=(ck b25 dd0)
  have C_1:=(ck b25 dd1)
  have C_2:=(ck b25 dd2)
  have C_3:=(ck b25 dd3)
  have C_4:=(ck b25 dd4)
  have C_5:=(ck b25 dd5)
  have C_6:=(ck b25 dd6)
  have C_7:=(ck b25 dd7)
  have HB5:=Hj b25
  clear b5 b25 B_0 B_1 B_2 B_3 B_4 B_5 B_6 B_7
  go_wp2_with fail
  refine (Uh KS2).mono ?_
  rintro _ w6 ⟨rfl,m6,hm6⟩
  have b6:Below w5.heap.size w5 w6:=by rw [hm6]; exact bel_drewN (Below.refl _ _) m6
  clear hm6 KS2
  have b26:=(Uh HB5).trans (b6.mono (Uh HB5).size)
  have D_0:=(ck b26 dd0)
  have D_1:=(ck b26 dd1)
  have D_2:=(ck b26 dd2)
  have D_3:=(ck b26 dd3)
  have D_4:=(ck b26 dd4)
  have D_5:=(ck b26 dd5)
  have D_6:=(ck b26 dd6)
  have D_7:=(ck b26 dd7)
  have HB6:=Hj b26
  clear b6 b26 C_0 C_1 C_2 C_3 C_4 C_5 C_6 C_7
  go_wp2_with fail
  have HB6D:=Hj (Uh HB6).drew
  go_region_held3 (fun w' => w'.cell? ⟨w.heap.size,0,none⟩ = some (.int .i64 rows) ∧ w'.cell? ⟨w.heap.size,1,none⟩ = some (.int .i64 width) ∧ w'.cell? ⟨w.heap.size,2,none⟩ = some (.slice (some ⟨e1,0,none⟩) n1 d1) ∧ w'.cell? ⟨w.heap.size,3,none⟩ = some (.slice (some ⟨e2,0,none⟩) n2 d2) ∧ w'.cell? ⟨w1.heap.size,0,none⟩ = some (.int .i64 rows) ∧ w'.cell? ⟨w1.heap.size,1,none⟩ = some (.int .i64 width) ∧ w'.cell? ⟨w1.heap.size,2,none⟩ = some (.slice a1 n1 c1) ∧ w'.cell? ⟨w1.heap.size,3,none⟩ = some (.slice a2 n2 c2)) (first | go_keep | (exact ⟨G0_0,G0_1,G0_2,G0_3,G0_4,G0_5,G0_6,G0_7⟩) | (exact ⟨G1_0,G1_1,G1_2,G1_3,G1_4,G1_5,G1_6,G1_7⟩) | (exact ⟨G2_0,G2_1,G2_2,G2_3,G2_4,G2_5,G2_6,G2_7⟩) | (exact ⟨G3_0,G3_1,G3_2,G3_3,G3_4,G3_5,G3_6,G3_7⟩))
   (first
    | (go_at_call 10; have K:=shas_any rows width (some ⟨e1,0,none⟩) (some ⟨e2,0,none⟩) n1 d1 n2 d2 st cols r t _ ((Uh HQ).1.below (Uh HB6).drew) ((Uh HQ).2.1.below (Uh HB6).drew) (by omega) (by omega) _ (Uh HOK); unfold patV at K; refine K.mono ?_; clear K; rintro _ v0 ⟨rfl,hb⟩; have hK:=(Uh HB6D).trans (hb.mono (Uh HB6D).size); have G0_0:=(ck hK dd0); have G0_1:=(ck hK dd1); have G0_2:=(ck hK dd2); have G0_3:=(ck hK dd3); have G0_4:=(ck hK dd4); have G0_5:=(ck hK dd5); have G0_6:=(ck hK dd6); have G0_7:=(ck hK dd7); have HG0:=Hj hK; clear hb hK)
    | (go_at_call 11; have K:=wshas_any rows width a1 a2 n1 c1 n2 c2 st cols r t v0 ((Uh HQ).2.2.1.below (Uh HG0)) ((Uh HQ).2.2.2.below (Uh HG0)) (by omega) (by omega) _ (Uh HOK); unfold patV at K; refine K.mono ?_; clear K; rintro _ v1 ⟨rfl,hb⟩; have hK:=(Uh HG0).trans (hb.mono (Uh HG0).size); have G1_0:=(ck hK dd0); have G1_1:=(ck hK dd1); have G1_2:=(ck hK dd2); have G1_3:=(ck hK dd3); have G1_4:=(ck hK dd4); have G1_5:=(ck hK dd5); have G1_6:=(ck hK dd6); have G1_7:=(ck hK dd7); have HG1:=Hj hK; clear hb hK)
    | (go_at_call 12; have K:=scount_any rows width (some ⟨e1,0,none⟩) (some ⟨e2,0,none⟩) n1 d1 n2 d2 st cols v1 ((Uh HQ).1.below (Uh HG1)) ((Uh HQ).2.1.below (Uh HG1)) (by omega) (by omega) _ (Uh HTR); rw [if_neg (by decide)] at K; unfold patV at K; refine K.mono ?_; clear K; rintro _ v2 ⟨rfl,hb⟩; have hK:=(Uh HG1).trans (hb.mono (Uh HG1).size); have G2_0:=(ck hK dd0); have G2_1:=(ck hK dd1); have G2_2:=(ck hK dd2); have G2_3:=(ck hK dd3); have G2_4:=(ck hK dd4); have G2_5:=(ck hK dd5); have G2_6:=(ck hK dd6); have G2_7:=(ck hK dd7); have HG2:=Hj hK; clear hb hK)
    | (go_at_call 13; have K:=wscount_any rows width a1 a2 n1 c1 n2 c2 st cols v2 ((Uh HQ).2.2.1.below (Uh HG2)) ((Uh HQ).2.2.2.below (Uh HG2)) (by omega) (by omega) _ (Uh HTR); rw [if_neg (by decide)] at K; unfold patV at K; refine K.mono ?_; clear K; rintro _ v3 ⟨rfl,hb⟩; have hK:=(Uh HG2).trans (hb.mono (Uh HG2).size); have G3_0:=(ck hK dd0); have G3_1:=(ck hK dd1); have G3_2:=(ck hK dd2); have G3_3:=(ck hK dd3); have G3_4:=(ck hK dd4); have G3_5:=(ck hK dd5); have G3_6:=(ck hK dd6); have G3_7:=(ck hK dd7); have HG3:=Hj hK; clear hb hK))
  try go_wp2_with fail
  try go_ret
  exact ⟨rfl,(Uh HB).trans ((Uh HG3).mono (Uh HB).size)⟩
end Go.Proofs.Ytoghiadalnngjaa
