/- LCGraphs -/
import Derived.Test.YtjdljjkmhdgghaaCgj
import Derived.Test.YtjdljjkmhdgghaaSjp
import Derived.Test.YtjdljjkmhdgghaaSi8
import Derived.Test.YtjdljjkmhdgghaaRows
import Derived.Deep.DeepHandedRow
import Derived.Deep.RegionHeld3
namespace Go.Proofs.Ytjdljjkmhdgghaa
open Go.ChangeShapes Go.WideShapes Go.ChangeAt Go.RowKit Go.Deep
set_option linter.unusedVariables false
set_option maxRecDepth 100000 in
set_option maxHeartbeats 64000000 in
theorem colourGraphs_walk (rows width:Int) (a1:Option Addr) (n1 c1:Nat) (st:List Int) (a2:Option Addr) (n2 c2:Nat) (cols:List Int) (w:World) (hP:PatZ w a1 n1 c1 st a2 n2 c2 cols) :
  Calls Try.prog 3 #[patV rows width a1 n1 c1 a2 n2 c2] w fun e w' => e = .returned (.bool true) ∧ Below w.heap.size w w':=by
 obtain ⟨w1,hw1⟩:∃ x,w.alloc (.cells #[.int .i64 rows,.int .i64 width,.slice a1 n1 c1,.slice a2 n2 c2] 24) = x:=⟨_,rfl⟩
 have bb:Below w.heap.size w w1:=by rw [← hw1]; exact bAl
 have hBP:BoxP w1 w.heap.size [.int .i64 rows,.int .i64 width,.slice a1 n1 c1,.slice a2 n2 c2]:=by have:=BoxP.made w #[.int .i64 rows,.int .i64 width,.slice a1 n1 c1,.slice a2 n2 c2] 24; rw [hw1] at this; exact this
 obtain ⟨B,hBe⟩:∃ B,w1.heap.size = B:=⟨_,rfl⟩
 have hG:=GivI.made w1
 rw [hBe] at hG
 have bg:Below w1.heap.size w1 (w1.alloc givO):=bAl
 obtain ⟨wg,hwg⟩:∃ x,w1.alloc givO = x:=⟨_,rfl⟩
 rw [hwg] at hG bg
 unfold givO at hwg
 have hg1:=hBP.below bg
 have g0:=(hg1.all 0 _ rfl).1
 have g1:=(hg1.all 1 _ rfl).1
 have g2:=(hg1.all 2 _ rfl).1
 have g3:=(hg1.all 3 _ rfl).1
 have HLO1:=Hj (show ∀ z,a2 = some z → cols ≠ [] → z.block < B from fun z hz hne => by have:=hP.h2.block_lt hne z hz; have:=bb.size; omega)
 obtain ⟨nA,SA,CA,eA,hA⟩:=cols_two rows width n1 n2 st cols hP.l1 hP.l2
 obtain ⟨nB,SB,CB,eB,hB⟩:=rows_two rows width n1 n2 st cols hP.l1 hP.l2
 obtain ⟨nC,SC,CC,eC,hC⟩:=near_two rows width n1 n2 st cols hP.l1 hP.l2
 have HA:=Hj hA
 have HB:=Hj hB
 have HC:=Hj hC
 have HP:=Hj hP
 have HG0:=Hj hG
 have HK0:=Hj bg
 have HBP:=Hj hBP
 have HW1:=Hj bb
 have HBE:=Hj hBe
 clear hP hG bg bb hBP hA hB hC hg1
 unfold patV
 go_enter Try.func3,Try.ntmps3
 go_wp2_with fail
 have K1:=gpat_any B (.slice none 0 0) (.slice none 0 0) ([]) (fun _ => .slice none 0 0) rows width a1 n1 c1 st a2 n2 c2 cols wg (Uh HG0) (((Uh HP).h1.below (Uh HW1)).below (Uh HK0)) (((Uh HP).h2.below (Uh HW1)).below (Uh HK0)) (Uh HLO1) (Uh HP).l1 (Uh HP).l2 (by simp)
 unfold patV at K1
 refine K1.mono ?_
 clear K1 g0 g1 g2 g3
 rintro _ wp1 ⟨_,rfl,p1,q1,E1a,E1b,rfl,GP⟩
 try unfold patV
 have hK:Below w1.heap.size w1 wp1:=(Uh HK0).trans (GP.chg.below (Uh HK0).size (fun k hk e => by have:=(Uh HG0).own_ge e; have:=Uh HBE; omega))
 have KC:=(Uh HA).one wp1 (some ⟨EntI.b E1a,0,none⟩) (some ⟨EntI.b E1b,0,none⟩) (EntI.c E1a) (EntI.c E1b) (GP.giv.sli (by simp) GP.x1 (Uh HP).h1.len) (GP.giv.sli (by simp) GP.x2 (Uh HP).h2.len)
 have KC':Calls Try.prog 4 #[patV rows width (some ⟨EntI.b E1a,0,none⟩) n1 (EntI.c E1a) (some ⟨EntI.b E1b,0,none⟩) n2 (EntI.c E1b)] wp1 fun e w' => GqP wp1 w' e nA SA CA eA:=KC
 unfold patV at KC'
 have HKC:=Hj KC'
 have HGq:=Hj GP.giv
 have HKq:=Hj hK
 have HX1:=Hj (And.intro GP.x1 GP.x2)
 clear KC KC' GP hK
 go_wp2_with fail
 refine (Uh HKC).mono ?_
 clear HKC
 rintro _ wc1 ⟨x1,d1,y1,z1,rfl,f1,f2,bk,e1,e2⟩
 have ba:Below wc1.heap.size wc1 (wc1.alloc (.cells #[.int .i64 (nA:Int),.int .i64 (nA:Int),.slice x1 SA.length d1,.slice y1 CA.length z1] 24)):=bAl
 have bka:=bk.trans (ba.mono bk.size)
 have hKa:=(Uh HKq).trans (bka.mono (Uh HKq).size)
 have hPa:=PaB.made (n:=nA) (Uh HGq) f1 f2 bk e1 e2
 have hga:=(Uh HBP).below hKa
 have g0:=(hga.all 0 _ rfl).1
 have g1:=(hga.all 1 _ rfl).1
 have g2:=(hga.all 2 _ rfl).1
 have g3:=(hga.all 3 _ rfl).1
 have HG1:=Hj ((Uh HGq).below bka)
 have HK1:=Hj hKa
 have Hb11:=Hj hPa
 clear ba bka hKa hPa hga f1 f2 bk e1 e2 HGq HKq
 go_wp2_with fail
 generalize hwa1:wc1.alloc (.cells #[.int .i64 (nA:Int),.int .i64 (nA:Int),.slice x1 SA.length d1,.slice y1 CA.length z1] 24) = wa1 at *
 generalize hX1:wc1.heap.size = X1 at *
 clear hwa1 hX1
 have KC':Calls Try.prog 6 #[patV rows width a1 n1 c1 a2 n2 c2,.bool false] wa1 fun e w' => GqP wa1 w' e nA SA CA eA:=(Uh HA).two wa1 a1 a2 c1 c2 (((Uh HP).h1.below (Uh HW1)).below (Uh HK1)) (((Uh HP).h2.below (Uh HW1)).below (Uh HK1))
 unfold patV at KC'
 refine KC'.mono ?_
 clear KC' g0 g1 g2 g3
 rintro _ wc2 ⟨x2,d2,y2,z2,rfl,f1,f2,bk,e1,e2⟩
 have ba:Below wc2.heap.size wc2 (wc2.alloc (.cells #[.int .i64 (nA:Int),.int .i64 (nA:Int),.slice x2 SA.length d2,.slice y2 CA.length z2] 24)):=bAl
 have bka:=bk.trans (ba.mono bk.size)
 have hKa:=(Uh HK1).trans (bka.mono (Uh HK1).size)
 have hPa:=PaB.made (n:=nA) (Uh HG1) f1 f2 bk e1 e2
 have hga:=(Uh HBP).below hKa
 have g0:=(hga.all 0 _ rfl).1
 have g1:=(hga.all 1 _ rfl).1
 have g2:=(hga.all 2 _ rfl).1
 have g3:=(hga.all 3 _ rfl).1
 have HG2:=Hj ((Uh HG1).below bka)
 have HK2:=Hj hKa
 have Hb22:=Hj hPa
 have Hb12:=Hj ((Uh Hb11).below bka)
 clear ba bka hKa hPa hga f1 f2 bk e1 e2 Hb11 HG1 HK1
 go_wp2_with fail
 generalize hwa2:wc2.alloc (.cells #[.int .i64 (nA:Int),.int .i64 (nA:Int),.slice x2 SA.length d2,.slice y2 CA.length z2] 24) = wa2 at *
 generalize hX2:wc2.heap.size = X2 at *
 clear hwa2 hX2
 have K3:=gpat_any B p1 q1 ([] ++ [E1a] ++ [E1b]) (fun _ => .slice none 0 0) rows width a1 n1 c1 st a2 n2 c2 cols wa2 (Uh HG2) (((Uh HP).h1.below (Uh HW1)).below (Uh HK2)) (((Uh HP).h2.below (Uh HW1)).below (Uh HK2)) (Uh HLO1) (Uh HP).l1 (Uh HP).l2 (by simp)
 unfold patV at K3
 refine K3.mono ?_
 clear K3 g0 g1 g2 g3
 rintro _ wp3 ⟨_,rfl,p3,q3,E3a,E3b,rfl,GP⟩
 try unfold patV
 have hK:Below w1.heap.size w1 wp3:=(Uh HK2).trans (GP.chg.below (Uh HK2).size (fun k hk e => by have:=(Uh HG2).own_ge e; have:=Uh HBE; omega))
 have Hb1q3:=Hj ((Uh Hb12).pat GP.chg GP.safe)
 have Hb2q3:=Hj ((Uh Hb22).pat GP.chg GP.safe)
 have KC:=(Uh HB).one wp3 (some ⟨EntI.b E3a,0,none⟩) (some ⟨EntI.b E3b,0,none⟩) (EntI.c E3a) (EntI.c E3b) (GP.giv.sli (by simp) GP.x1 (Uh HP).h1.len) (GP.giv.sli (by simp) GP.x2 (Uh HP).h2.len)
 have KC':Calls Try.prog 7 #[patV rows width (some ⟨EntI.b E3a,0,none⟩) n1 (EntI.c E3a) (some ⟨EntI.b E3b,0,none⟩) n2 (EntI.c E3b)] wp3 fun e w' => GqP wp3 w' e nB SB CB eB:=KC
 unfold patV at KC'
 have HKC:=Hj KC'
 have HGq:=Hj GP.giv
 have HKq:=Hj hK
 have HX3:=Hj (And.intro GP.x1 GP.x2)
 clear KC KC' GP hK
 go_wp2_with fail
 refine (Uh HKC).mono ?_
 clear HKC
 rintro _ wc3 ⟨x3,d3,y3,z3,rfl,f1,f2,bk,e1,e2⟩
 have ba:Below wc3.heap.size wc3 (wc3.alloc (.cells #[.int .i64 (nB:Int),.int .i64 (nB:Int),.slice x3 SB.length d3,.slice y3 CB.length z3] 24)):=bAl
 have bka:=bk.trans (ba.mono bk.size)
 have hKa:=(Uh HKq).trans (bka.mono (Uh HKq).size)
 have hPa:=PaB.made (n:=nB) (Uh HGq) f1 f2 bk e1 e2
 have hga:=(Uh HBP).below hKa
 have g0:=(hga.all 0 _ rfl).1
 have g1:=(hga.all 1 _ rfl).1
 have g2:=(hga.all 2 _ rfl).1
 have g3:=(hga.all 3 _ rfl).1
 have HG3:=Hj ((Uh HGq).below bka)
 have HK3:=Hj hKa
 have Hb33:=Hj hPa
 have Hb13:=Hj ((Uh Hb1q3).below bka)
 have Hb23:=Hj ((Uh Hb2q3).below bka)
 clear ba bka hKa hPa hga f1 f2 bk e1 e2 HGq HKq Hb1q3 Hb2q3
 go_wp2_with fail
 generalize hwa3:wc3.alloc (.cells #[.int .i64 (nB:Int),.int .i64 (nB:Int),.slice x3 SB.length d3,.slice y3 CB.length z3] 24) = wa3 at *
 generalize hX3:wc3.heap.size = X3 at *
 clear hwa3 hX3
 have KC':Calls Try.prog 6 #[patV rows width a1 n1 c1 a2 n2 c2,.bool true] wa3 fun e w' => GqP wa3 w' e nB SB CB eB:=(Uh HB).two wa3 a1 a2 c1 c2 (((Uh HP).h1.below (Uh HW1)).below (Uh HK3)) (((Uh HP).h2.below (Uh HW1)).below (Uh HK3))
 unfold patV at KC'
 refine KC'.mono ?_
 clear KC' g0 g1 g2 g3
 rintro _ wc4 ⟨x4,d4,y4,z4,rfl,f1,f2,bk,e1,e2⟩
 have ba:Below wc4.heap.size wc4 (wc4.alloc (.cells #[.int .i64 (nB:Int),.int .i64 (nB:Int),.slice x4 SB.length d4,.slice y4 CB.length z4] 24)):=bAl
 have bka:=bk.trans (ba.mono bk.size)
 have hKa:=(Uh HK3).trans (bka.mono (Uh HK3).size)
 have hPa:=PaB.made (n:=nB) (Uh HG3) f1 f2 bk e1 e2
 have hga:=(Uh HBP).below hKa
 have g0:=(hga.all 0 _ rfl).1
 have g1:=(hga.all 1 _ rfl).1
 have g2:=(hga.all 2 _ rfl).1
 have g3:=(hga.all 3 _ rfl).1
 have HG4:=Hj ((Uh HG3).below bka)
 have HK4:=Hj hKa
 have Hb44:=Hj hPa
 have Hb14:=Hj ((Uh Hb13).below bka)
 have Hb24:=Hj ((Uh Hb23).below bka)
 have Hb34:=Hj ((Uh Hb33).below bka)
 clear ba bka hKa hPa hga f1 f2 bk e1 e2 Hb13 Hb23 Hb33 HG3 HK3
 go_wp2_with fail
 generalize hwa4:wc4.alloc (.cells #[.int .i64 (nB:Int),.int .i64 (nB:Int),.slice x4 SB.length d4,.slice y4 CB.length z4] 24) = wa4 at *
 generalize hX4:wc4.heap.size = X4 at *
 clear hwa4 hX4
 have K5:=gpat_any B p3 q3 ([] ++ [E1a] ++ [E1b] ++ [E3a] ++ [E3b]) (fun _ => .slice none 0 0) rows width a1 n1 c1 st a2 n2 c2 cols wa4 (Uh HG4) (((Uh HP).h1.below (Uh HW1)).below (Uh HK4)) (((Uh HP).h2.below (Uh HW1)).below (Uh HK4)) (Uh HLO1) (Uh HP).l1 (Uh HP).l2 (by simp)
 unfold patV at K5
 refine K5.mono ?_
 clear K5 g0 g1 g2 g3
 rintro _ wp5 ⟨_,rfl,p5,q5,E5a,E5b,rfl,GP⟩
 try unfold patV
 have hK:Below w1.heap.size w1 wp5:=(Uh HK4).trans (GP.chg.below (Uh HK4).size (fun k hk e => by have:=(Uh HG4).own_ge e; have:=Uh HBE; omega))
 have Hb1q5:=Hj ((Uh Hb14).pat GP.chg GP.safe)
 have Hb2q5:=Hj ((Uh Hb24).pat GP.chg GP.safe)
 have Hb3q5:=Hj ((Uh Hb34).pat GP.chg GP.safe)
 have Hb4q5:=Hj ((Uh Hb44).pat GP.chg GP.safe)
 have KC:=(Uh HC).one wp5 (some ⟨EntI.b E5a,0,none⟩) (some ⟨EntI.b E5b,0,none⟩) (EntI.c E5a) (EntI.c E5b) (GP.giv.sli (by simp) GP.x1 (Uh HP).h1.len) (GP.giv.sli (by simp) GP.x2 (Uh HP).h2.len)
 have KC':Calls Try.prog 8 #[patV rows width (some ⟨EntI.b E5a,0,none⟩) n1 (EntI.c E5a) (some ⟨EntI.b E5b,0,none⟩) n2 (EntI.c E5b)] wp5 fun e w' => GqP wp5 w' e nC SC CC eC:=KC
 unfold patV at KC'
 have HKC:=Hj KC'
 have HGq:=Hj GP.giv
 have HKq:=Hj hK
 have HX5:=Hj (And.intro GP.x1 GP.x2)
 clear KC KC' GP hK
 go_wp2_with fail
 refine (Uh HKC).mono ?_
 clear HKC
 rintro _ wc5 ⟨x5,d5,y5,z5,rfl,f1,f2,bk,e1,e2⟩
 have ba:Below wc5.heap.size wc5 (wc5.alloc (.cells #[.int .i64 (nC:Int),.int .i64 (nC:Int),.slice x5 SC.length d5,.slice y5 CC.length z5] 24)):=bAl
 have bka:=bk.trans (ba.mono bk.size)
 have hKa:=(Uh HKq).trans (bka.mono (Uh HKq).size)
 have hPa:=PaB.made (n:=nC) (Uh HGq) f1 f2 bk e1 e2
 have hga:=(Uh HBP).below hKa
 have g0:=(hga.all 0 _ rfl).1
 have g1:=(hga.all 1 _ rfl).1
 have g2:=(hga.all 2 _ rfl).1
 have g3:=(hga.all 3 _ rfl).1
 have HG5:=Hj ((Uh HGq).below bka)
 have HK5:=Hj hKa
 have Hb55:=Hj hPa
 have Hb15:=Hj ((Uh Hb1q5).below bka)
 have Hb25:=Hj ((Uh Hb2q5).below bka)
 have Hb35:=Hj ((Uh Hb3q5).below bka)
 have Hb45:=Hj ((Uh Hb4q5).below bka)
 clear ba bka hKa hPa hga f1 f2 bk e1 e2 HGq HKq Hb1q5 Hb2q5 Hb3q5 Hb4q5
 go_wp2_with fail
 generalize hwa5:wc5.alloc (.cells #[.int .i64 (nC:Int),.int .i64 (nC:Int),.slice x5 SC.length d5,.slice y5 CC.length z5] 24) = wa5 at *
 generalize hX5:wc5.heap.size = X5 at *
 clear hwa5 hX5
 have KC':Calls Try.prog 9 #[patV rows width a1 n1 c1 a2 n2 c2] wa5 fun e w' => GqP wa5 w' e nC SC CC eC:=(Uh HC).two wa5 a1 a2 c1 c2 (((Uh HP).h1.below (Uh HW1)).below (Uh HK5)) (((Uh HP).h2.below (Uh HW1)).below (Uh HK5))
 unfold patV at KC'
 refine KC'.mono ?_
 clear KC' g0 g1 g2 g3
 rintro _ wc6 ⟨x6,d6,y6,z6,rfl,f1,f2,bk,e1,e2⟩
 have ba:Below wc6.heap.size wc6 (wc6.alloc (.cells #[.int .i64 (nC:Int),.int .i64 (nC:Int),.slice x6 SC.length d6,.slice y6 CC.length z6] 24)):=bAl
 have bka:=bk.trans (ba.mono bk.size)
 have hKa:=(Uh HK5).trans (bka.mono (Uh HK5).size)
 have hPa:=PaB.made (n:=nC) (Uh HG5) f1 f2 bk e1 e2
 have hga:=(Uh HBP).below hKa
 have g0:=(hga.all 0 _ rfl).1
 have g1:=(hga.all 1 _ rfl).1
 have g2:=(hga.all 2 _ rfl).1
 have g3:=(hga.all 3 _ rfl).1
 have HG6:=Hj ((Uh HG5).below bka)
 have HK6:=Hj hKa
 have Hb66:=Hj hPa
 have Hb16:=Hj ((Uh Hb15).below bka)
 have Hb26:=Hj ((Uh Hb25).below bka)
 have Hb36:=Hj ((Uh Hb35).below bka)
 have Hb46:=Hj ((Uh Hb45).below bka)
 have Hb56:=Hj ((Uh Hb55).below bka)
 clear ba bka hKa hPa hga f1 f2 bk e1 e2 Hb15 Hb25 Hb35 Hb45 Hb55 HG5 HK5
 go_wp2_with fail
 generalize hwa6:wc6.alloc (.cells #[.int .i64 (nC:Int),.int .i64 (nC:Int),.slice x6 SC.length d6,.slice y6 CC.length z6] 24) = wa6 at *
 generalize hX6:wc6.heap.size = X6 at *
 clear hwa6 hX6 g0 g1 g2 g3
 refine (num12_any eA wa6).mono ?_
 rintro _ wnA ⟨rfl,hwn⟩
 rw [hwn]
 clear hwn wnA
 go_wp2_with fail
 refine (num12_any eB wa6).mono ?_
 rintro _ wnB ⟨rfl,hwn⟩
 rw [hwn]
 clear hwn wnB
 go_wp2_with fail
 refine (num12_any eC wa6).mono ?_
 rintro _ wnC ⟨rfl,hwn⟩
 rw [hwn]
 clear hwn wnC
 have k0:=((Uh Hb16).box.all 0 _ rfl).1
 have k1:=((Uh Hb16).box.all 1 _ rfl).1
 have k2:=((Uh Hb16).box.all 2 _ rfl).1
 have k3:=((Uh Hb16).box.all 3 _ rfl).1
 have m0:=((Uh Hb26).box.all 0 _ rfl).1
 have m1:=((Uh Hb26).box.all 1 _ rfl).1
 have m2:=((Uh Hb26).box.all 2 _ rfl).1
 have m3:=((Uh Hb26).box.all 3 _ rfl).1
 go_wp2_with fail
 refine (samePat_eq nA SA CA x1 y1 x2 y2 d1 z1 d2 z2 wa6 (Uh Hb16).s1 (Uh Hb16).s2 (Uh Hb26).s1 (Uh Hb26).s2 (Uh HA).lS (Uh HA).lC).mono ?_
 rintro _ ws0 ⟨rfl,bs⟩
 have HT0:=Hj bs
 have Hb36n:=Hj ((Uh Hb36).below bs)
 have Hb46n:=Hj ((Uh Hb46).below bs)
 have Hb56n:=Hj ((Uh Hb56).below bs)
 have Hb66n:=Hj ((Uh Hb66).below bs)
 have HGs0:=Hj ((Uh HG6).below bs)
 clear bs k0 k1 k2 k3 m0 m1 m2 m3 Hb36 Hb46 Hb56 Hb66
 have k0:=((Uh Hb36n).box.all 0 _ rfl).1
 have k1:=((Uh Hb36n).box.all 1 _ rfl).1
 have k2:=((Uh Hb36n).box.all 2 _ rfl).1
 have k3:=((Uh Hb36n).box.all 3 _ rfl).1
 have m0:=((Uh Hb46n).box.all 0 _ rfl).1
 have m1:=((Uh Hb46n).box.all 1 _ rfl).1
 have m2:=((Uh Hb46n).box.all 2 _ rfl).1
 have m3:=((Uh Hb46n).box.all 3 _ rfl).1
 go_wp2_with fail
 refine (samePat_eq nB SB CB x3 y3 x4 y4 d3 z3 d4 z4 ws0 (Uh Hb36n).s1 (Uh Hb36n).s2 (Uh Hb46n).s1 (Uh Hb46n).s2 (Uh HB).lS (Uh HB).lC).mono ?_
 rintro _ ws1 ⟨rfl,bs⟩
 have HT1:=Hj bs
 have Hb56nn:=Hj ((Uh Hb56n).below bs)
 have Hb66nn:=Hj ((Uh Hb66n).below bs)
 have HGs1:=Hj ((Uh HGs0).below bs)
 clear bs k0 k1 k2 k3 m0 m1 m2 m3 Hb56n Hb66n
 have k0:=((Uh Hb56nn).box.all 0 _ rfl).1
 have k1:=((Uh Hb56nn).box.all 1 _ rfl).1
 have k2:=((Uh Hb56nn).box.all 2 _ rfl).1
 have k3:=((Uh Hb56nn).box.all 3 _ rfl).1
 have m0:=((Uh Hb66nn).box.all 0 _ rfl).1
 have m1:=((Uh Hb66nn).box.all 1 _ rfl).1
 have m2:=((Uh Hb66nn).box.all 2 _ rfl).1
 have m3:=((Uh Hb66nn).box.all 3 _ rfl).1
 go_wp2_with fail
 refine (samePat_eq nC SC CC x5 y5 x6 y6 d5 z5 d6 z6 ws1 (Uh Hb56nn).s1 (Uh Hb56nn).s2 (Uh Hb66nn).s1 (Uh Hb66nn).s2 (Uh HC).lS (Uh HC).lC).mono ?_
 rintro _ ws2 ⟨rfl,bs⟩
 have HT2:=Hj bs
 have HGs2:=Hj ((Uh HGs1).below bs)
 clear bs k0 k1 k2 k3 m0 m1 m2 m3
 go_wp2_with fail
 refine (intactI_any ws2 B p5 q5 ([] ++ [E1a] ++ [E1b] ++ [E3a] ++ [E3b] ++ [E5a] ++ [E5b]) (Uh HGs2) (by simp) (fun e he => by
  have l1:=(Uh HP).h1.len
  have l2:=(Uh HP).h2.len
  have:=(Uh HP).l1
  have:=(Uh HP).l2
  simp at he
  rcases he with rfl | rfl | rfl | rfl | rfl | rfl
  ·rw [(Uh HX1).1]; omega
  ·rw [(Uh HX1).2]; omega
  ·rw [(Uh HX3).1]; omega
  ·rw [(Uh HX3).2]; omega
  ·rw [(Uh HX5).1]; omega
  ·rw [(Uh HX5).2]; omega)).mono ?_
 rintro _ wx ⟨rfl,kx,hkx⟩
 have HXb:=Hj (show Below ws2.heap.size ws2 wx by rw [hkx]; exact bel_drewN (Below.refl _ _) kx)
 clear hkx
 go_wp2_with fail
 try go_ret
 have t1:=(Uh HW1).trans ((Uh HK6).mono (Uh HW1).size)
 have t2:=t1.trans ((Uh HT0).mono t1.size)
 have t3:=t2.trans ((Uh HT1).mono t2.size)
 have t4:=t3.trans ((Uh HT2).mono t3.size)
 exact ⟨rfl,t4.trans ((Uh HXb).mono t4.size)⟩
theorem law_own:ownKnob Try.prog.godebug = none:=by kernel_rfl
theorem law_laid:laidOutB Try.prog = true:=by kernel_rfl
set_option maxRecDepth 100000 in
theorem colourGraphs_lifted (os:Os) (started:os.Started) (H:Type) (enc:TypeId × Value → H) :
  ReturnsInHanded {} Try.checked os 3 .any (Rows.colourGraphsSpec.pre6 enc Try.prog Try.f3 Rows.colourGraphsRow.domain false) (Rows.colourGraphsSpec.post enc Try.prog Try.f3 false true false false):=by
 refine returnsInHanded_of_change_sized (C:=Try.checked) law_own started (by kernel_rfl) Try.func3
  (ChangeSpec.witness6 (enc:=enc) (C:=Try.checked) false ⟨#[],#[.agg #[.int .i64 0,.int .i64 0,.slice none 0 0,.slice none 0 0]],[]⟩ 8 (by kernel_rfl) (by kernel_rfl) (by kernel_rfl) (by kernel_rfl)) ?_
 intro W base args ds gs before hval0 hW hcnd hsz _
 have hval:∀ (j:Nat) t v,Try.f3.params[j]? = some t → args[j]? = some v → Value.okWide Try.prog W .any base t v:=hval0
 have hW':=hW
 obtain ⟨p,q,hA0,hV,rfl,hfz,hnd⟩:=hW
 have hA:DataW.TrodAll enc Try.prog W 0 (fun _ => true) true Try.f3.params.toList args.toList ds p:=hA0
 rw [Try.params3] at hA hval hsz
 obtain ⟨v0,vs0,d0,ds0,p0,q0,hargs,rfl,rfl,h0,r0⟩:=trodAll_cons hA
 obtain ⟨rfl,rfl,rfl⟩:=trodAll_nil r0
 obtain rfl:args = #[v0]:=by cases args; simp_all
 obtain ⟨rfl,rfl⟩:=trodVars_none hV
 have k0:=h0
 have lt0:∀ x ∈ p0,x.block < W.heap.size:=by obtain ⟨m,hm⟩:=k0; exact DataW.trod_lt m _ _ _ hm
 obtain ⟨rows,width,a1,n1,c1,st,a2,n2,c2,cols,rfl,ho0⟩:=arg_patZ (hval 0 24 v0 rfl rfl) h0 (fun k hk => by simpa using List.all_eq_true.1 hsz k (DataW.weights_mem_each (j:=0) rfl rfl k hk))
 clear hA0 hval0
 refine (colourGraphs_walk rows width a1 n1 c1 st a2 n2 c2 cols W ho0).mono fun e W' ⟨he,bel⟩ => ?_
 subst he
 exact ⟨_,rfl,_,_,_,[],_,[],hW',trodAll_mk1 (shut_bool Try.underlying4 _),(trodAll_cons_mk (Below.trod law_laid (by kernel_rfl) (of_decide_eq_true (by kernel_rfl)) k0 bel lt0) trodAll_mk0),rfl,bel.frame _,fun h => by cases h⟩

theorem colourGraphs_holds:Rows.ColourGraphsSaid :=
 OpenClaim.holds_of_wide 3 Try.f3 rfl rfl rfl rfl rfl rfl rfl ⟨rfl,rfl,rfl,rfl,rfl⟩ rfl rfl rfl rfl rfl (by kernel_rfl) Try.func3 (by kernel_rfl)
  (of_decide_eq_true (by kernel_rfl)) (by unfold Func.isWrapper; first | (rw [if_pos (by decide +kernel)]; kernel_rfl) | (rw [if_neg (by decide +kernel)]; exact ⟨rfl,rfl⟩))
  (fun os started H enc _ => colourGraphs_lifted os started H enc)
#print axioms colourGraphs_holds
end Go.Proofs.Ytjdljjkmhdgghaa
