/- Dc6 -/
import Derived.Test.YtgjokididdffhaaGreatDb2
import Derived.Test.YtgjokididdffhaaGreatSp2
import Derived.Test.YtgjokididdffhaaGreatCj1
import Derived.Test.YtgjokididdffhaaGreatCk3
import Derived.Test.YtgjokididdffhaaGreatDc2
import Derived.Test.YtgjokididdffhaaGreatRows
import Derived.ProofKit
import Derived.OpenShut
import Derived.ShutString
import Derived.ChangeOld
import Derived.Below
import Derived.SizedLaws
namespace Go.Proofs.YtgjokididdffhaaGreat
open Go.RowKit Go.Deep
set_option linter.unusedVariables false
set_option maxRecDepth 100000 in
set_option maxHeartbeats 32000000 in
theorem gl_yes (k:Int) (R N m:Nat) (a1:Option Addr) (n1 c1:Nat) (st:List Int) (a2:Option Addr) (n2 c2:Nat) (cols:List Int) (b:Option Addr) (co:Nat) (os:List Int) (S C:List Int) (Gd:List Int → List Int → (Nat → Int) → Prop) (Q:Nat → Bool) (w:World) (h1:SlI w a1 n1 c1 st) (h2:SlI w a2 n2 c2 cols) (h4:SlI w b m co os) (hb1:n1 ≤ 17592186044000) (hb2:n2 ≤ 17592186044000) (hIs:IsOrd os m) (hK:GlK k R N n1 n2 st cols m S C Gd Q os):Calls Tryz.prog 5 #[.int .i64 k,patV (R:Int) (N:Int) a1 n1 c1 a2 n2 c2,.slice b m co] w fun e w' => e = .returned (.bool true) ∧ Below w.heap.size w w':=by
 obtain ⟨wb,hwb⟩:∃ x,w.alloc (.cells #[.int .i64 (R:Int),.int .i64 (N:Int),.slice a1 n1 c1,.slice a2 n2 c2] 25) = x:=⟨_,rfl⟩
 have bb:Below w.heap.size w wb:=by rw [← hwb]; exact bAl
 have hT0:=BoxP.made w #[.int .i64 (R:Int),.int .i64 (N:Int),.slice a1 n1 c1,.slice a2 n2 c2] 25
 rw [hwb] at hT0
 have HN:=Hj (show ∀ W,Below wb.heap.size wb W → BoxP W w.heap.size [.int .i64 (R:Int),.int .i64 (N:Int),.slice a1 n1 c1,.slice a2 n2 c2] ∧ SlI W a1 n1 c1 st ∧ SlI W a2 n2 c2 cols ∧ SlI W b m co os ∧ Below w.heap.size w W from fun W b => ⟨hT0.below b,(h1.below bb).below b,(h2.below bb).below b,(h4.below bb).below b,bb.trans (b.mono bb.size)⟩)
 have hm8:=hK.m8
 have HIS:=Hj hIs
 obtain ⟨B,F,r1,r2,r3⟩:=hK.run
 have HR1:=Hj r1
 have HR2:=Hj r2
 have HR3:=Hj r3
 have HK:=Hj hK
 clear hT0 bb h1 h2 h4 hIs hK r1 r2 r3
 unfold patV
 go_enter Tryz.func5,Tryz.ntmps5
 go_wp2_with fail
 refine (calive_any wb).mono ?_
 rintro _ w1 ⟨rfl,b1⟩
 have HB1:=Hj b1
 have hx:=Uh HN w1 b1
 have p0:=(hx.1.all 0 _ rfl).1
 have p1:=(hx.1.all 1 _ rfl).1
 have p2:=(hx.1.all 2 _ rfl).1
 have p3:=(hx.1.all 3 _ rfl).1
 have KC:=(Uh HR1) a1 a2 b c1 c2 co w1 hx.2.1 hx.2.2.1 hx.2.2.2.1
 unfold patV at KC
 have KC:=Hj KC
 clear hx b1
 go_wp2_with fail
 refine (Uh KC).mono ?_
 rintro _ w2 ⟨b2,g,cs,z,rfl,hR,hg,hG,hB,hF⟩
 have HB2:=Hj ((Uh HB1).trans (b2.mono (Uh HB1).size))
 have HL2:=Hj (hR.sli hm8)
 have HG:=Hj hG
 have hMC:MayC (csL cs m) m:=fun i hi => by
  rw [csL_get hi]
  have:=hG.nn i hi
  have:=hG.zm
  omega
 have hch:=(Uh HK).chk m (csL cs m) (by omega)
 rw [tb_iff.2 (show m = m ∧ MayC (csL cs m) m from ⟨rfl,hMC⟩),tb_iff.2 (show Gd S C (fun j => (csL cs m).getD j 0) from (Uh HK).eq_ S C cs _ (fun i hi => csL_get hi) hG.good)] at hch
 have HCH:=Hj (show ChkP k (R:Int) (N:Int) n1 n2 m st cols (csL cs m) 0 from hch)
 have HMC:=Hj hMC
 clear hch hMC
 have HZB:=Hj hB
 have HZF:=Hj hF
 clear KC hR hg hG hB hF b2 p0 p1 p2 p3 HR1
 have hx:=Uh HN w2 (Uh HB2)
 have p0:=(hx.1.all 0 _ rfl).1
 have p1:=(hx.1.all 1 _ rfl).1
 have p2:=(hx.1.all 2 _ rfl).1
 have p3:=(hx.1.all 3 _ rfl).1
 have KC:=(Uh HR2) a1 a2 b c1 c2 co w2 hx.2.1 hx.2.2.1 hx.2.2.2.1
 unfold patV at KC
 have KC:=Hj KC
 clear hx
 go_wp2_with fail
 refine (Uh KC).mono ?_
 rintro _ w3 ⟨b3,q,rfl,hq⟩
 have HB3:=Hj ((Uh HB2).trans (b3.mono (Uh HB2).size))
 have HL3:=Hj ((Uh HL2).below b3)
 have hq1:=Uh HZB q hq
 have hq1:(z:Int) ≤ (q:Int):=by omega
 clear KC hq b3 p0 p1 p2 p3 HR2
 have hx:=Uh HN w3 (Uh HB3)
 have p0:=(hx.1.all 0 _ rfl).1
 have p1:=(hx.1.all 1 _ rfl).1
 have p2:=(hx.1.all 2 _ rfl).1
 have p3:=(hx.1.all 3 _ rfl).1
 have KC:=(Uh HR3) a1 a2 c1 c2 w3 hx.2.1 hx.2.2.1
 unfold patV at KC
 have KC:=Hj KC
 clear hx
 go_wp2_with fail
 refine (Uh KC).mono ?_
 rintro _ w4 ⟨b4,fl,rfl,hq⟩
 have HB4:=Hj ((Uh HB3).trans (b4.mono (Uh HB3).size))
 have HL4:=Hj ((Uh HL3).below b4)
 have hq2:=Uh HZF fl hq
 have hq2:(fl:Int) ≤ (z:Int):=by omega
 clear KC hq b4 p0 p1 p2 p3 HR3
 have hx:=Uh HN w4 (Uh HB4)
 have p0:=(hx.1.all 0 _ rfl).1
 have p1:=(hx.1.all 1 _ rfl).1
 have p2:=(hx.1.all 2 _ rfl).1
 have p3:=(hx.1.all 3 _ rfl).1
 have KC:=(Uh HK).thg a1 a2 c1 c2 w4 hx.2.1 hx.2.2.1
 unfold patV at KC
 have KC:=Hj KC
 clear hx
 unfold TgQ grV at KC
 go_wp2_with fail
 refine (Uh KC).mono ?_
 rintro _ w5 ⟨gb,rfl,_,b5⟩
 have HB5:=Hj ((Uh HB4).trans (b5.mono (Uh HB4).size))
 have HL5:=Hj ((Uh HL4).below b5)
 clear KC b5 p0 p1 p2 p3
 obtain ⟨mm,hmm⟩:∃ x,m * m = x:=⟨_,rfl⟩
 rw [hmm]
 clear hmm
 have hGb:=BoxP.made w5 #[.int .i64 (m:Int),.slice (some ⟨gb,0,none⟩) mm mm] 45
 have bg:Below w5.heap.size w5 (w5.alloc (.cells #[.int .i64 (m:Int),.slice (some ⟨gb,0,none⟩) mm mm] 45)):=bAl
 have HB6:=Hj ((Uh HB5).trans (bg.mono (Uh HB5).size))
 have HL6:=Hj ((Uh HL5).below bg)
 clear bg HB1 HB2 HB3 HB4 HL2 HL3 HL4 HL5 HZB HZF
 have t0:=(hGb.all 0 _ rfl).1
 clear hGb
 go_wp2_with fail
 generalize w5.alloc (.cells #[.int .i64 (m:Int),.slice (some ⟨gb,0,none⟩) mm mm] 45) = w6 at *
 have hx:=Uh HN w6 (Uh HB6)
 have KO:=Hj (wisOrder_any b m co os m w6 hx.2.2.2.1 (by omega) hm8 true ⟨fun _ => Uh HIS,fun _ => rfl⟩)
 clear hx
 refine (Uh KO).mono ?_
 rintro _ w7 ⟨rfl,b7⟩
 have HB7:=Hj ((Uh HB6).trans (b7.mono (Uh HB6).size))
 have HL7:=Hj ((Uh HL6).below b7)
 clear KO b7 t0 HB5 HB6 HL6
 have hx:=Uh HN w7 (Uh HB7)
 have p0:=(hx.1.all 0 _ rfl).1
 have p1:=(hx.1.all 1 _ rfl).1
 have p2:=(hx.1.all 2 _ rfl).1
 have p3:=(hx.1.all 3 _ rfl).1
 have KC:=(Uh HCH) a1 a2 (some ⟨g,0,none⟩) c1 c2 m w7 hx.2.1 hx.2.2.1 (Uh HL7)
 unfold patV at KC
 have KC:=Hj KC
 have tn:((m:Int) != (m:Int)) = false:=by simp
 clear hx
 go_wp2_with fail
 refine (num12_any 0 w7).mono ?_
 rintro _ wn ⟨rfl,hwn⟩
 rw [hwn]
 clear hwn wn
 go_wp2_with fail
 refine (num12_any 0 w7).mono ?_
 rintro _ wn ⟨rfl,hwn⟩
 rw [hwn]
 clear hwn wn
 go_wp2_with fail
 refine (num12_any 0 w7).mono ?_
 rintro _ wn ⟨rfl,hwn⟩
 rw [hwn]
 clear hwn wn
 go_wp2_with fail
 refine (Uh KC).mono ?_
 rintro _ w8 ⟨rfl,b8⟩
 have HB8:=Hj ((Uh HB7).trans (b8.mono (Uh HB7).size))
 have HL8:=Hj ((Uh HL7).below b8)
 clear KC b8 p0 p1 p2 p3 HB7 HL7
 have hmk:=make_boolsP m (by omega) w8
 have hR:=RoV.made w8 m 4 (.bool false)
 obtain ⟨wm,hwm⟩:∃ x,w8.alloc (.cells (madeCells #[.bool false] m) 4) = x:=⟨_,rfl⟩
 have bm:Below w8.heap.size w8 wm:=by rw [← hwm]; exact bAl
 rw [hwm] at hmk hR
 have HR0:=Hj hR
 have HB9:=Hj ((Uh HB8).trans (bm.mono (Uh HB8).size))
 have HL9:=Hj ((Uh HL8).below bm)
 have HLW:=Hj (show 0 < m → g ≠ w8.heap.size from fun h0 e => by have:=(Uh HL8).block_lt (fun e2 => by have:=congrArg List.length e2; rw [csL_len] at this; simp at this; omega) _ rfl; simp at this; omega)
 obtain ⟨e9,he9⟩:∃ x,w8.heap.size = x:=⟨_,rfl⟩
 rw [he9] at hmk HR0 HLW
 clear hR bm
 have HZM:=Hj (show (z:Int) ≤ (m:Int) from by have:=(Uh HG).zm; omega)
 have HWM:=Hj (show w8.heap.size < wm.heap.size from by rw [← hwm]; simp)
 rw [he9] at HWM
 clear hwm
 go_wp2_with fail
 go_loopw [17] (fun kv wr => ∃ j:Nat,j ≤ m ∧ kv = .int .i64 (j:Int) ∧ Hid (RoV wr e9 m (fun v => .bool (tb (∃ i,i < j ∧ cs i = (v:Int))))) ∧ Hid (Chg (fun x => x = e9) wm wr)) (fun kv _ => m - (intOf kv).toNat)
 case atStart => exact ⟨0,Nat.zero_le _,rfl,Hj ((Uh HR0).congr (fun i _ => by rw [tb_no (fun ⟨i,hi,_⟩ => by omega)])),Hj (Chg.refl _ _)⟩
 case round =>
  obtain ⟨j,hj,rfl,HR,HC⟩:=hrel
  by_cases hlt:j < m
  ·have hlt':(j:Int) < (m:Int):=by omega
   have hsl:=(Uh HL9).chg (Uh HC) (fun z hz hne => by cases hz; exact Uh HLW (by omega))
   obtain ⟨b',off,hb',hc⟩:=hsl.at (by omega)
   cases hb'
   have sk:=hc j hlt
   have hgn:=Uh HLW (by omega)
   have hxr:=(Uh HG).nn j hlt
   obtain ⟨v,hv⟩:∃ v:Nat,cs j = (v:Int):=⟨(cs j).toNat,by omega⟩
   rw [csL_get hlt,hv,Nat.zero_add] at sk
   rw [hv] at hxr
   have hx0:¬ (v:Int) < 0:=by omega
   have hxz:¬ (z:Int) ≤ (v:Int):=by omega
   have hzm:¬ (m:Int) < (z:Int):=by have:=Uh HZM; omega
   have hvm:v < m:=by have:=Uh HZM; omega
   have hvm':(v:Int) < (m:Int):=by omega
   have hc1:=(Uh HR v hvm).1
   have hc2:=(Uh HR v hvm).2
   have HN2:=Hj (show RoV (wr.setCell ⟨e9,v,none⟩ (.bool true)) e9 m (fun u => .bool (tb (∃ i,i < j + 1 ∧ cs i = (u:Int)))) from ((Uh HR).put v (.bool true) hvm).congr (fun u hu => by
    by_cases e:u = v
    ·subst e
     rw [if_pos rfl,tb_yes ⟨j,by omega,hv⟩]
    ·rw [if_neg e]
     congr 1
     apply Bool.eq_iff_iff.2
     rw [tb_iff,tb_iff]
     constructor
     ·rintro ⟨i,hi,h⟩; exact ⟨i,by omega,h⟩
     ·rintro ⟨i,hi,h⟩
      refine ⟨i,?_,h⟩
      have:i ≠ j:=fun e2 => by subst e2; omega
      omega))
   have HN3:=Hj (show Chg (fun x => x = e9) wm (wr.setCell ⟨e9,v,none⟩ (.bool true)) from (Uh HC).trans (Chg.of_set _ _ _ _ rfl))
   clear hsl hc hxr hv hmk
   go_wp2_with fail
   exact ⟨⟨j + 1,by omega,by (first | rfl | go_num),HN2,HN3⟩,by simp [intOf]; omega⟩
  ·obtain rfl:m = j:=by omega
   have hlt':¬ (m:Int) < (m:Int):=by omega
   have HLX:=Hj ((Uh HL9).chg (Uh HC) (fun z hz hne => by cases hz; exact Uh HLW (by have:=csL_len cs m; rcases Nat.eq_zero_or_pos m with e | e; (exfalso; apply hne; apply List.eq_nil_of_length_eq_zero; omega); exact e)))
   have HBX:=Hj (show Below wb.heap.size wb wr from (Uh HB9).trans ((Uh HC).below (Uh HB9).size (fun x hx e => by have:=(Uh HB8).size; omega)))
   clear hmk HB8 HB9 HL8 HL9 HC HR0 HLW HWM
   have HNX:=Hj (show ∀ W,Below wr.heap.size wr W → (BoxP W w.heap.size [.int .i64 (R:Int),.int .i64 (N:Int),.slice a1 n1 c1,.slice a2 n2 c2] ∧ SlI W a1 n1 c1 st ∧ SlI W a2 n2 c2 cols ∧ SlI W b m co os ∧ Below w.heap.size w W) ∧ SlI W (some ⟨g,0,none⟩) m m (csL cs m) ∧ RoV W e9 m (fun v => .bool (tb (∃ i,i < m ∧ cs i = (v:Int)))) from fun W hb => ⟨Uh HN W ((Uh HBX).trans (hb.mono (Uh HBX).size)),(Uh HLX).below hb,(Uh HR).below hb⟩)
   clear HN HBX HLX HR HCH
   go_wp2_with fail
   go_loopw [18] (fun kv wt => ∃ c:Nat,c ≤ z ∧ kv = .int .i64 (c:Int) ∧ Hid (Below wr.heap.size wr wt)) (fun kv _ => z - (intOf kv).toNat)
   case atStart => exact ⟨0,Nat.zero_le _,rfl,Hj (Below.refl _ _)⟩
   case round =>
    obtain ⟨c,hc,rfl,HKL⟩:=hrel
    by_cases hlz:c < z
    ·have hlz':(c:Int) < (z:Int):=by omega
     have hzm:=Uh HZM
     have hcm:c < m:=by omega
     have hcm':(c:Int) < (m:Int):=by omega
     have hx:=Uh HNX wr (Uh HKL)
     have hc1:wr.cell? ⟨e9,c,none⟩ = some (.bool (tb (∃ i,i < m ∧ cs i = (c:Int)))):=(hx.2.2 c hcm).1
     rw [tb_yes ((Uh HG).all c hlz)] at hc1
     clear hx
     go_wp2_with fail
     exact ⟨⟨c + 1,by omega,by (first | rfl | go_num),HKL⟩,by simp [intOf]; omega⟩
    ·obtain rfl:z = c:=by omega
     have hlz':¬ (z:Int) < (z:Int):=by omega
     have HNY:=Hj (show ∀ W,Below wr.heap.size wr W → (BoxP W w.heap.size [.int .i64 (R:Int),.int .i64 (N:Int),.slice a1 n1 c1,.slice a2 n2 c2] ∧ SlI W a1 n1 c1 st ∧ SlI W a2 n2 c2 cols ∧ SlI W b m co os ∧ Below w.heap.size w W) ∧ SlI W (some ⟨g,0,none⟩) m m (csL cs m) from fun W hb => ⟨(Uh HNX W ((Uh HKL).trans (hb.mono (Uh HKL).size))).1,(Uh HNX W ((Uh HKL).trans (hb.mono (Uh HKL).size))).2.1⟩)
     clear HNX HKL HZM
     go_wp2_with fail
     go_loopw [19,20,21,22] (fun iv _ _ _ wt => ∃ i:Nat,i ≤ m ∧ iv = .int .i64 (i:Int) ∧ Hid (Below wr.heap.size wr wt)) (fun iv _ _ _ _ => m - (intOf iv).toNat)
     case atStart => exact ⟨0,Nat.zero_le _,rfl,Hj (Below.refl _ _)⟩
     case round =>
      obtain ⟨i,hi,rfl,HKL⟩:=hrel
      by_cases hlt:i < m
      ·have hlt':(i:Int) < (m:Int):=by omega
       have hx:=Uh HNY wr (Uh HKL)
       have p0:=(hx.1.1.all 0 _ rfl).1
       have p1:=(hx.1.1.all 1 _ rfl).1
       have p2:=(hx.1.1.all 2 _ rfl).1
       have p3:=(hx.1.1.all 3 _ rfl).1
       obtain ⟨S',C',S2,C2,hpt,hPa,hck⟩:=(Uh HK).pt i hlt
       have HPA:=Hj hPa
       have HCK:=Hj hck
       have KC:=hpt a1 a2 b c1 c2 co wr hx.1.2.1 hx.1.2.2.1 hx.1.2.2.2.1
       unfold patV at KC
       have KC:=Hj KC
       clear hx hpt hPa hck
       go_wp2_with fail
       refine (Uh KC).mono ?_
       rintro _ wf ⟨z1,e1,z2,e2,rfl,g3,g4,bq,f1,f2⟩
       have HBF:=Hj ((Uh HKL).trans (bq.mono (Uh HKL).size))
       clear KC f1 f2 bq p0 p1 p2 p3
       try dsimp only
       obtain ⟨sq,hsq⟩:∃ l,S'.length = l:=⟨_,rfl⟩
       obtain ⟨cq,hcq⟩:∃ l,C'.length = l:=⟨_,rfl⟩
       rw [hsq] at g3
       rw [hcq] at g4
       rw [hsq,hcq] at HCK
       rw [hsq,hcq]
       clear hsq hcq
       repeat ((fail_if_success (with_reducible (show Code.wp _ _ _ _ (World.alloc wf (Obj.cells #[_,_,_,.slice z2 _ e2] _))))); (first | go_values | go_skip | go_guarded | go_step | go_upon | go_back))
       have hQb:=BoxP.made wf #[.int .i64 (R:Int),.int .i64 (N:Int),.slice z1 sq e1,.slice z2 cq e2] 25
       have bn:Below wf.heap.size wf (wf.alloc (.cells #[.int .i64 (R:Int),.int .i64 (N:Int),.slice z1 sq e1,.slice z2 cq e2] 25)):=bAl
       have hbg:=(Uh HBF).trans (bn.mono (Uh HBF).size)
       have hg3:=g3.below bn
       have hg4:=g4.below bn
       generalize wf.alloc (.cells #[.int .i64 (R:Int),.int .i64 (N:Int),.slice z1 sq e1,.slice z2 cq e2] 25) = wg at *
       have HNZ:=Hj (show ∀ W,Below wg.heap.size wg W → ((BoxP W w.heap.size [.int .i64 (R:Int),.int .i64 (N:Int),.slice a1 n1 c1,.slice a2 n2 c2] ∧ SlI W a1 n1 c1 st ∧ SlI W a2 n2 c2 cols ∧ SlI W b m co os ∧ Below w.heap.size w W) ∧ SlI W (some ⟨g,0,none⟩) m m (csL cs m)) ∧ BoxP W wf.heap.size [.int .i64 (R:Int),.int .i64 (N:Int),.slice z1 sq e1,.slice z2 cq e2] ∧ SlI W z1 sq e1 S' ∧ SlI W z2 cq e2 C' from fun W hb => ⟨Uh HNY W (hbg.trans (hb.mono hbg.size)),hQb.below hb,hg3.below hb,hg4.below hb⟩)
       have HBG:=Hj hbg
       have hx:=Uh HNZ wg (Below.refl _ _)
       have q0:=(hx.2.1.all 0 _ rfl).1
       have q1:=(hx.2.1.all 1 _ rfl).1
       have q2:=(hx.2.1.all 2 _ rfl).1
       have q3:=(hx.2.1.all 3 _ rfl).1
       have hch:=(Uh HCK) m (csL cs m) (by omega)
       rw [tb_iff.2 (show m = m ∧ MayC (csL cs m) m from ⟨rfl,Uh HMC⟩),tb_iff.2 (show Gd S2 C2 (fun j => (csL cs m).getD j 0) from (Uh HK).eq_ S2 C2 cs _ (fun i hi => csL_get hi) ((Uh HG).sub S2 C2 i hlt (Uh HPA)))] at hch
       have KC:=(show ChkP k (R:Int) (N:Int) sq cq m S' C' (csL cs m) 0 from hch) z1 z2 (some ⟨g,0,none⟩) e1 e2 m wg hx.2.2.1 hx.2.2.2 hx.1.2
       unfold patV at KC
       have KC:=Hj KC
       clear hx hch hQb bn hbg hg3 hg4 g3 g4 HBF
       go_wp2_with fail
       refine (Uh KC).mono ?_
       rintro _ wh ⟨rfl,bq⟩
       have HBH:=Hj bq
       clear KC bq q0 q1 q2 q3
       obtain ⟨v,hv⟩:∃ v:Nat,os.getD i 0 = (v:Int):=⟨(os.getD i 0).toNat,by have:=(Uh HIS).2.rng i hlt; omega⟩
       have hvm:v < m:=by have:=(Uh HIS).2.rng i hlt; omega
       obtain ⟨y,hy⟩:∃ y:Nat,cs v = (y:Int):=⟨(cs v).toNat,by have:=(Uh HG).nn v hvm; omega⟩
       have HBAD:=Hj (show ∀ c:Nat,c < y → ¬ Gd S2 C2 (updC cs v c) from fun c hc => by
        have:=(Uh HG).bad S2 C2 i hlt (Uh HPA) c
        rw [hv,Int.toNat_natCast] at this
        exact this (by omega))
       have HY:=Hj (show y ≤ 128 from by have h1:=(Uh HG).nn v hvm; have:=(Uh HG).zm; omega)
       have HV:=Hj hv
       have HCY:=Hj hy
       have HNI:=Hj (show ∀ W,Below wh.heap.size wh W → ((BoxP W w.heap.size [.int .i64 (R:Int),.int .i64 (N:Int),.slice a1 n1 c1,.slice a2 n2 c2] ∧ SlI W a1 n1 c1 st ∧ SlI W a2 n2 c2 cols ∧ SlI W b m co os ∧ Below w.heap.size w W) ∧ SlI W (some ⟨g,0,none⟩) m m (csL cs m)) ∧ BoxP W wf.heap.size [.int .i64 (R:Int),.int .i64 (N:Int),.slice z1 sq e1,.slice z2 cq e2] ∧ SlI W z1 sq e1 S' ∧ SlI W z2 cq e2 C' from fun W hb => Uh HNZ W ((Uh HBH).trans (hb.mono (Uh HBH).size)))
       have HBL:=Hj ((Uh HBG).trans ((Uh HBH).mono (Uh HBG).size))
       clear HNZ HBH HBG hv hy HKL
       go_wp2_with fail
       go_loopw [21,22] (fun cv _ wt => ∃ c:Nat,c ≤ y ∧ cv = .int .i64 (c:Int) ∧ Hid (Below wh.heap.size wh wt)) (fun cv _ _ => y - (intOf cv).toNat)
       case atStart => exact ⟨0,Nat.zero_le _,rfl,Hj (Below.refl _ _)⟩
       case round =>
        obtain ⟨c,hc,rfl,HKM⟩:=hrel
        have hx:=Uh HNI wr (Uh HKM)
        obtain ⟨bO,oO,hbO,hcO⟩:=hx.1.1.2.2.2.1.at (by omega)
        subst hbO
        have s1:=hcO i hlt
        rw [Uh HV] at s1
        obtain ⟨bL,oL,hbL,hcL⟩:=hx.1.2.at (by omega)
        cases hbL
        have s2:=hcL v hvm
        rw [csL_get hvm,Uh HCY,Nat.zero_add] at s2
        have hvm':(v:Int) < (m:Int):=by omega
        by_cases hcy:c < y
        ·have hcy':(c:Int) < (y:Int):=by omega
         have hy8:(y:Int) ≤ 128:=by have:=Uh HY; omega
         have KC:=Hj (copy_anyI (some ⟨g,0,none⟩) m m (csL cs m) wr hx.1.2 (by omega))
         clear hx hcO hcL
         go_wp2_with fail
         refine (Uh KC).mono ?_
         rintro _ wi ⟨cur,rfl,hh,hsz,hcu,hsi,bi⟩
         have HKN:=Hj ((Uh HKM).trans (bi.mono (Uh HKM).size))
         have HRO:=Hj (show RoV wi wr.heap.size m (fun u => .int .i64 ((csL cs m).getD u 0)) from fun u hu => ⟨(cell_of_block hh u).trans (hcu u hu),frozen_of_block hh u⟩)
         clear KC hh hsz hcu s1 s2
         have bz:Below wh.heap.size wi (wi.setCell ⟨wr.heap.size,v,none⟩ (.int .i64 (c:Int))):=(Chg.of_set (S:=fun x => x = wr.heap.size) _ _ _ _ rfl).below (Uh HKN).size (fun j hj e => by have:=(Uh HKM).size; omega)
         have HKZ:=Hj ((Uh HKN).trans bz)
         have hrz:RoV (wi.setCell ⟨wr.heap.size,v,none⟩ (.int .i64 (c:Int))) wr.heap.size m (fun u => .int .i64 (updC cs v c u)):=((Uh HRO).put v (.int .i64 (c:Int)) hvm).congr (fun u hu => by
          by_cases e:u = v
          ·subst e; rw [if_pos rfl,updC_same]
          ·rw [if_neg e,updC_other _ _ e,csL_get hu])
         have HSZ:=Hj (show SlI (wi.setCell ⟨wr.heap.size,v,none⟩ (.int .i64 (c:Int))) (some ⟨wr.heap.size,0,none⟩) m (m + 3) (csL (updC cs v c) m) from ⟨csL_len _ _,by omega,by unfold maxLen; omega,.inr ⟨_,0,rfl,fun u hu => by rw [csL_len] at hu; rw [csL_get hu,Nat.zero_add]; exact (hrz u hu).1⟩⟩)
         have hx:=Uh HNI wi (Uh HKN)
         obtain ⟨bO2,oO2,hbO2,hcO2⟩:=hx.1.1.2.2.2.1.at (by omega)
         cases hbO2
         have s1:=hcO2 i hlt
         rw [Uh HV] at s1
         have k1:=((Uh HRO) v hvm).1
         have k2:=((Uh HRO) v hvm).2
         have hz:=Uh HNI _ (Uh HKZ)
         have q0:=(hz.2.1.all 0 _ rfl).1
         have q1:=(hz.2.1.all 1 _ rfl).1
         have q2:=(hz.2.1.all 2 _ rfl).1
         have q3:=(hz.2.1.all 3 _ rfl).1
         have hch:=(Uh HCK) m (csL (updC cs v c) m) (by omega)
         rw [tb_iff.2 (show m = m ∧ MayC (csL (updC cs v c) m) m from ⟨rfl,fun u hu => by
          rw [csL_get hu]
          have h1:=Uh HMC u hu
          rw [csL_get hu] at h1
          have:=Uh HY
          unfold updC
          split <;> omega⟩),tb_no (show ¬ Gd S2 C2 (fun j => (csL (updC cs v c) m).getD j 0) from fun hg => Uh HBAD c hcy ((Uh HK).eq_ S2 C2 _ _ (fun i hi => (csL_get hi).symm) hg))] at hch
         have KC:=(show ChkP k (R:Int) (N:Int) sq cq m S' C' (csL (updC cs v c) m) 241 from hch) z1 z2 (some ⟨wr.heap.size,0,none⟩) e1 e2 (m + 3) _ hz.2.2.1 hz.2.2.2 (Uh HSZ)
         unfold patV at KC
         have KC:=Hj KC
         clear hx hz hch hcO2 hrz bz HRO
         go_wp2_with fail
         refine (Uh KC).mono ?_
         rintro _ wj ⟨rfl,bj⟩
         have HKJ:=Hj ((Uh HKZ).trans (bj.mono (Uh HKZ).size))
         clear KC bj q0 q1 q2 q3 k1 k2 s1
         go_wp2_with fail
         refine (num12_any 241 wj).mono ?_
         rintro _ wn ⟨rfl,hwn⟩
         rw [hwn]
         clear hwn wn
         go_wp2_with fail
         exact ⟨⟨c + 1,by omega,by (first | rfl | go_num),HKJ⟩,by simp [intOf]; omega⟩
        ·obtain rfl:y = c:=by omega
         have hcy':¬ (y:Int) < (y:Int):=by omega
         have HKF:=Hj ((Uh HBL).trans ((Uh HKM).mono (Uh HBL).size))
         clear hx hcO hcL
         go_wp2_with fail
         exact ⟨⟨i + 1,by omega,by (first | rfl | go_num),HKF⟩,by simp [intOf]; omega⟩
      ·obtain rfl:m = i:=by omega
       have hlt':¬ (m:Int) < (m:Int):=by omega
       have hx:=Uh HNY wr (Uh HKL)
       have HBZ:=Hj hx.1.2.2.2.2
       clear hx
       go_wp2_with fail
       try go_ret
       exact ⟨rfl,Uh HBZ⟩
set_option maxRecDepth 100000 in
set_option maxHeartbeats 32000000 in
theorem gl_no (k rows width er:Int) (a1:Option Addr) (n1 c1:Nat) (st:List Int) (a2:Option Addr) (n2 c2:Nat) (cols:List Int) (b:Option Addr) (no co:Nat) (os:List Int) (w:World) (h1:SlI w a1 n1 c1 st) (h2:SlI w a2 n2 c2 cols) (h4:SlI w b no co os) (hne:(er != 0) = true) 
  (hG:∀ W,SlI W a1 n1 c1 st → SlI W a2 n2 c2 cols → SlI W b no co os → Calls Tryz.prog 18 #[.int .i64 k,patV rows width a1 n1 c1 a2 n2 c2,.slice b no co] W fun e w' => e = .returned (.tuple #[.slice none 0 0,.int .i64 0,.int .i64 er]) ∧ Below W.heap.size W w')
  (hB:∀ W,SlI W a1 n1 c1 st → SlI W a2 n2 c2 cols → SlI W b no co os → Calls Tryz.prog 19 #[.int .i64 k,patV rows width a1 n1 c1 a2 n2 c2,.slice b no co] W fun e w' => e = .returned (.tuple #[.int .i64 0,.int .i64 er]) ∧ Below W.heap.size W w')
  (hF:∀ W,SlI W a1 n1 c1 st → SlI W a2 n2 c2 cols → Calls Tryz.prog 20 #[.int .i64 k,patV rows width a1 n1 c1 a2 n2 c2] W fun e w' => ∃ fv fe:Int,e = .returned (.tuple #[.int .i64 fv,.int .i64 fe]) ∧ Below W.heap.size W w')
  (hT:∀ W,SlI W a1 n1 c1 st → SlI W a2 n2 c2 cols → Calls Tryz.prog 21 #[.int .i64 k,patV rows width a1 n1 c1 a2 n2 c2] W fun e w' => e = .returned (.tuple #[.agg #[.int .i64 0,.slice none 0 0],.int .i64 er]) ∧ Below W.heap.size W w'):Calls Tryz.prog 5 #[.int .i64 k,patV rows width a1 n1 c1 a2 n2 c2,.slice b no co] w fun e w' => e = .returned (.bool true) ∧ Below w.heap.size w w':=by
 obtain ⟨wb,hwb⟩:∃ x,w.alloc (.cells #[.int .i64 rows,.int .i64 width,.slice a1 n1 c1,.slice a2 n2 c2] 25) = x:=⟨_,rfl⟩
 have bb:Below w.heap.size w wb:=by rw [← hwb]; exact bAl
 have hT0:=BoxP.made w #[.int .i64 rows,.int .i64 width,.slice a1 n1 c1,.slice a2 n2 c2] 25
 rw [hwb] at hT0
 have HN:=Hj (show ∀ W,Below wb.heap.size wb W → BoxP W w.heap.size [.int .i64 rows,.int .i64 width,.slice a1 n1 c1,.slice a2 n2 c2] ∧ SlI W a1 n1 c1 st ∧ SlI W a2 n2 c2 cols ∧ SlI W b no co os ∧ Below w.heap.size w W from fun W b => ⟨hT0.below b,(h1.below bb).below b,(h2.below bb).below b,(h4.below bb).below b,bb.trans (b.mono bb.size)⟩)
 have HR1:=Hj hG
 have HR2:=Hj hB
 have HR3:=Hj hF
 have HR4:=Hj hT
 clear hT0 bb h1 h2 h4 hG hB hF hT
 unfold patV
 go_enter Tryz.func5,Tryz.ntmps5
 go_wp2_with fail
 refine (calive_any wb).mono ?_
 rintro _ w1 ⟨rfl,b1⟩
 have HB1:=Hj b1
 have hx:=Uh HN w1 b1
 have p0:=(hx.1.all 0 _ rfl).1
 have p1:=(hx.1.all 1 _ rfl).1
 have p2:=(hx.1.all 2 _ rfl).1
 have p3:=(hx.1.all 3 _ rfl).1
 have KC:=(Uh HR1) w1 hx.2.1 hx.2.2.1 hx.2.2.2.1
 unfold patV at KC
 have KC:=Hj KC
 clear hx b1
 go_wp2_with fail
 refine (Uh KC).mono ?_
 rintro _ w2 ⟨rfl,b2⟩
 have HB2:=Hj ((Uh HB1).trans (b2.mono (Uh HB1).size))
 clear KC b2 p0 p1 p2 p3 HR1
 have hx:=Uh HN w2 (Uh HB2)
 have p0:=(hx.1.all 0 _ rfl).1
 have p1:=(hx.1.all 1 _ rfl).1
 have p2:=(hx.1.all 2 _ rfl).1
 have p3:=(hx.1.all 3 _ rfl).1
 have KC:=(Uh HR2) w2 hx.2.1 hx.2.2.1 hx.2.2.2.1
 unfold patV at KC
 have KC:=Hj KC
 clear hx
 go_wp2_with fail
 refine (Uh KC).mono ?_
 rintro _ w3 ⟨rfl,b3⟩
 have HB3:=Hj ((Uh HB2).trans (b3.mono (Uh HB2).size))
 clear KC b3 p0 p1 p2 p3 HR2
 have hx:=Uh HN w3 (Uh HB3)
 have p0:=(hx.1.all 0 _ rfl).1
 have p1:=(hx.1.all 1 _ rfl).1
 have p2:=(hx.1.all 2 _ rfl).1
 have p3:=(hx.1.all 3 _ rfl).1
 have KC:=(Uh HR3) w3 hx.2.1 hx.2.2.1
 unfold patV at KC
 have KC:=Hj KC
 clear hx
 go_wp2_with fail
 refine (Uh KC).mono ?_
 rintro _ w4 ⟨fv,fe,rfl,b4⟩
 have HB4:=Hj ((Uh HB3).trans (b4.mono (Uh HB3).size))
 clear KC b4 p0 p1 p2 p3 HR3
 have hx:=Uh HN w4 (Uh HB4)
 have p0:=(hx.1.all 0 _ rfl).1
 have p1:=(hx.1.all 1 _ rfl).1
 have p2:=(hx.1.all 2 _ rfl).1
 have p3:=(hx.1.all 3 _ rfl).1
 have KC:=(Uh HR4) w4 hx.2.1 hx.2.2.1
 unfold patV at KC
 have KC:=Hj KC
 clear hx
 go_wp2_with fail
 refine (Uh KC).mono ?_
 rintro _ w5 ⟨rfl,b5⟩
 have HB5:=Hj ((Uh HB4).trans (b5.mono (Uh HB4).size))
 clear KC b5 p0 p1 p2 p3 HB1 HB2 HB3 HB4
 go_wp2_with fail
 have bg:Below w5.heap.size w5 (w5.alloc (.cells #[.int .i64 0,.slice none 0 0] 45)):=bAl
 have HB6:=Hj ((Uh HB5).trans (bg.mono (Uh HB5).size))
 clear bg
 generalize w5.alloc (.cells #[.int .i64 0,.slice none 0 0] 45) = w6 at *
 have HBZ:=Hj (Uh HN w6 (Uh HB6)).2.2.2.2
 have e1:(er == er) = true:=by simp
 go_wp2_with fail
 refine (num12_any er w6).mono ?_
 rintro _ wn ⟨rfl,hwn⟩
 rw [hwn]
 clear hwn wn
 go_wp2_with fail
 try go_ret
 exact ⟨rfl,Uh HBZ⟩
set_option maxRecDepth 100000 in
set_option maxHeartbeats 32000000 in
theorem gl_nord (k rows width er:Int) (a1:Option Addr) (n1 c1:Nat) (st:List Int) (a2:Option Addr) (n2 c2:Nat) (cols:List Int) (b:Option Addr) (no co:Nat) (os:List Int) (w:World) (h1:SlI w a1 n1 c1 st) (h2:SlI w a2 n2 c2 cols) (h4:SlI w b no co os) (hne:(er != 0) = true) (m:Nat) (Q:Nat → Bool) (hm8:m ≤ 128) (hno:no ≤ 17592186044000) (hIs:¬ IsOrd os m)
  (hG:∀ W,SlI W a1 n1 c1 st → SlI W a2 n2 c2 cols → SlI W b no co os → Calls Tryz.prog 18 #[.int .i64 k,patV rows width a1 n1 c1 a2 n2 c2,.slice b no co] W fun e w' => e = .returned (.tuple #[.slice none 0 0,.int .i64 0,.int .i64 er]) ∧ Below W.heap.size W w')
  (hB:∀ W,SlI W a1 n1 c1 st → SlI W a2 n2 c2 cols → SlI W b no co os → Calls Tryz.prog 19 #[.int .i64 k,patV rows width a1 n1 c1 a2 n2 c2,.slice b no co] W fun e w' => e = .returned (.tuple #[.int .i64 0,.int .i64 er]) ∧ Below W.heap.size W w')
  (hF:∀ W,SlI W a1 n1 c1 st → SlI W a2 n2 c2 cols → Calls Tryz.prog 20 #[.int .i64 k,patV rows width a1 n1 c1 a2 n2 c2] W fun e w' => ∃ fv fe:Int,e = .returned (.tuple #[.int .i64 fv,.int .i64 fe]) ∧ Below W.heap.size W w')
  (hT:∀ W,SlI W a1 n1 c1 st → SlI W a2 n2 c2 cols → Calls Tryz.prog 21 #[.int .i64 k,patV rows width a1 n1 c1 a2 n2 c2] W fun e w' => TgQ W w' e m (m * m) Q):Calls Tryz.prog 5 #[.int .i64 k,patV rows width a1 n1 c1 a2 n2 c2,.slice b no co] w fun e w' => e = .returned (.bool true) ∧ Below w.heap.size w w':=by
 obtain ⟨wb,hwb⟩:∃ x,w.alloc (.cells #[.int .i64 rows,.int .i64 width,.slice a1 n1 c1,.slice a2 n2 c2] 25) = x:=⟨_,rfl⟩
 have bb:Below w.heap.size w wb:=by rw [← hwb]; exact bAl
 have hT0:=BoxP.made w #[.int .i64 rows,.int .i64 width,.slice a1 n1 c1,.slice a2 n2 c2] 25
 rw [hwb] at hT0
 have HN:=Hj (show ∀ W,Below wb.heap.size wb W → BoxP W w.heap.size [.int .i64 rows,.int .i64 width,.slice a1 n1 c1,.slice a2 n2 c2] ∧ SlI W a1 n1 c1 st ∧ SlI W a2 n2 c2 cols ∧ SlI W b no co os ∧ Below w.heap.size w W from fun W b => ⟨hT0.below b,(h1.below bb).below b,(h2.below bb).below b,(h4.below bb).below b,bb.trans (b.mono bb.size)⟩)
 have HR1:=Hj hG
 have HR2:=Hj hB
 have HR3:=Hj hF
 have HR4:=Hj hT
 clear hT0 bb h1 h2 h4 hG hB hF hT
 unfold patV
 go_enter Tryz.func5,Tryz.ntmps5
 go_wp2_with fail
 refine (calive_any wb).mono ?_
 rintro _ w1 ⟨rfl,b1⟩
 have HB1:=Hj b1
 have hx:=Uh HN w1 b1
 have p0:=(hx.1.all 0 _ rfl).1
 have p1:=(hx.1.all 1 _ rfl).1
 have p2:=(hx.1.all 2 _ rfl).1
 have p3:=(hx.1.all 3 _ rfl).1
 have KC:=(Uh HR1) w1 hx.2.1 hx.2.2.1 hx.2.2.2.1
 unfold patV at KC
 have KC:=Hj KC
 clear hx b1
 go_wp2_with fail
 refine (Uh KC).mono ?_
 rintro _ w2 ⟨rfl,b2⟩
 have HB2:=Hj ((Uh HB1).trans (b2.mono (Uh HB1).size))
 clear KC b2 p0 p1 p2 p3 HR1
 have hx:=Uh HN w2 (Uh HB2)
 have p0:=(hx.1.all 0 _ rfl).1
 have p1:=(hx.1.all 1 _ rfl).1
 have p2:=(hx.1.all 2 _ rfl).1
 have p3:=(hx.1.all 3 _ rfl).1
 have KC:=(Uh HR2) w2 hx.2.1 hx.2.2.1 hx.2.2.2.1
 unfold patV at KC
 have KC:=Hj KC
 clear hx
 go_wp2_with fail
 refine (Uh KC).mono ?_
 rintro _ w3 ⟨rfl,b3⟩
 have HB3:=Hj ((Uh HB2).trans (b3.mono (Uh HB2).size))
 clear KC b3 p0 p1 p2 p3 HR2
 have hx:=Uh HN w3 (Uh HB3)
 have p0:=(hx.1.all 0 _ rfl).1
 have p1:=(hx.1.all 1 _ rfl).1
 have p2:=(hx.1.all 2 _ rfl).1
 have p3:=(hx.1.all 3 _ rfl).1
 have KC:=(Uh HR3) w3 hx.2.1 hx.2.2.1
 unfold patV at KC
 have KC:=Hj KC
 clear hx
 go_wp2_with fail
 refine (Uh KC).mono ?_
 rintro _ w4 ⟨fv,fe,rfl,b4⟩
 have HB4:=Hj ((Uh HB3).trans (b4.mono (Uh HB3).size))
 clear KC b4 p0 p1 p2 p3 HR3
 have hx:=Uh HN w4 (Uh HB4)
 have p0:=(hx.1.all 0 _ rfl).1
 have p1:=(hx.1.all 1 _ rfl).1
 have p2:=(hx.1.all 2 _ rfl).1
 have p3:=(hx.1.all 3 _ rfl).1
 have KC:=(Uh HR4) w4 hx.2.1 hx.2.2.1
 unfold patV at KC
 have KC:=Hj KC
 clear hx
 have HIS:=Hj hIs
 clear hIs
 unfold TgQ grV at KC
 go_wp2_with fail
 refine (Uh KC).mono ?_
 rintro _ w5 ⟨gb,rfl,_,b5⟩
 have HB5:=Hj ((Uh HB4).trans (b5.mono (Uh HB4).size))
 clear KC b5 p0 p1 p2 p3
 obtain ⟨mm,hmm⟩:∃ x,m * m = x:=⟨_,rfl⟩
 rw [hmm]
 clear hmm
 have hGb:=BoxP.made w5 #[.int .i64 (m:Int),.slice (some ⟨gb,0,none⟩) mm mm] 45
 have bg:Below w5.heap.size w5 (w5.alloc (.cells #[.int .i64 (m:Int),.slice (some ⟨gb,0,none⟩) mm mm] 45)):=bAl
 have HB6:=Hj ((Uh HB5).trans (bg.mono (Uh HB5).size))
 clear bg HB1 HB2 HB3 HB4
 have t0:=(hGb.all 0 _ rfl).1
 clear hGb
 go_wp2_with fail
 generalize w5.alloc (.cells #[.int .i64 (m:Int),.slice (some ⟨gb,0,none⟩) mm mm] 45) = wo at *
 have hx:=Uh HN wo (Uh HB6)
 have KO:=Hj (wisOrder_any b no co os m wo hx.2.2.2.1 (by omega) hm8 false ⟨fun h => (by cases h),fun h => absurd h (Uh HIS)⟩)
 clear hx
 refine (Uh KO).mono ?_
 rintro _ w6 ⟨rfl,b6⟩
 have HBZ:=Hj (Uh HN w6 ((Uh HB6).trans (b6.mono (Uh HB6).size))).2.2.2.2
 clear KO b6 t0
 have e1:(er == er) = true:=by simp
 go_wp2_with fail
 refine (num12_any er w6).mono ?_
 rintro _ wn ⟨rfl,hwn⟩
 rw [hwn]
 clear hwn wn
 go_wp2_with fail
 try go_ret
 exact ⟨rfl,Uh HBZ⟩
theorem gl_both {k:Int} {R N n1 n2 m:Nat} {st cols S C:List Int} {Q:Nat → Bool} {Gd:List Int → List Int → (Nat → Int) → Prop} {PG:(Nat → Int) → Prop} {fB:Nat → Nat} {PF:Nat → Prop} (a1:Option Addr) (c1:Nat) (a2:Option Addr) (c2:Nat) (b:Option Addr) (no co:Nat) (os:List Int) (w:World) (h1:SlI w a1 n1 c1 st) (h2:SlI w a2 n2 c2 cols) (h4:SlI w b no co os) (hb1:n1 ≤ 17592186044000) (hb2:n2 ≤ 17592186044000) (hno:no ≤ 17592186044000) (hm8:m ≤ 128)
  (hT:∀ (a1 a2:Option Addr) (c1 c2:Nat) w,SlI w a1 n1 c1 st → SlI w a2 n2 c2 cols → Calls Tryz.prog 21 #[.int .i64 k,patV (R:Int) (N:Int) a1 n1 c1 a2 n2 c2] w fun e w' => TgQ w w' e m (m * m) Q)
  (hY:IsOrd os m → GlK k R N n1 n2 st cols m S C Gd Q os)
  (hG:∀ W,SlI W a1 n1 c1 st → SlI W a2 n2 c2 cols → SlI W b no co os → Calls Tryz.prog 18 #[.int .i64 k,patV (R:Int) (N:Int) a1 n1 c1 a2 n2 c2,.slice b no co] W fun e w' => GrB os m PG W w' e)
  (hB:∀ W,SlI W a1 n1 c1 st → SlI W a2 n2 c2 cols → SlI W b no co os → Calls Tryz.prog 19 #[.int .i64 k,patV (R:Int) (N:Int) a1 n1 c1 a2 n2 c2,.slice b no co] W fun e w' => BdP os m fB W w' e)
  (hF:∀ W,SlI W a1 n1 c1 st → SlI W a2 n2 c2 cols → Calls Tryz.prog 20 #[.int .i64 k,patV (R:Int) (N:Int) a1 n1 c1 a2 n2 c2] W fun e w' => FlP m PF W w' e):Calls Tryz.prog 5 #[.int .i64 k,patV (R:Int) (N:Int) a1 n1 c1 a2 n2 c2,.slice b no co] w fun e w' => e = .returned (.bool true) ∧ Below w.heap.size w w':=by
 by_cases ho:IsOrd os m
 ·have e1:no = m:=by have:=h4.len; have:=ho.1; omega
  subst e1
  exact gl_yes k R N no a1 n1 c1 st a2 n2 c2 cols b co os S C Gd Q w h1 h2 h4 hb1 hb2 ho (hY ho)
 ·exact gl_nord k R N 182 a1 n1 c1 st a2 n2 c2 cols b no co os w h1 h2 h4 (by decide) m Q hm8 hno ho (fun W g1 g2 g3 => (hG W g1 g2 g3).mono (fun e w' h => ⟨h.2.2 ho,h.1⟩)) (fun W g1 g2 g3 => (hB W g1 g2 g3).mono (fun e w' h => ⟨h.2.2 ho,h.1⟩)) (fun W g1 g2 => (hF W g1 g2).mono (fun e w' h => by obtain ⟨hb,q,e1,_⟩:=h; exact ⟨_,_,e1,hb⟩)) (fun W g1 g2 => hT a1 a2 c1 c2 W g1 g2)
theorem gl_any (k rows width:Int) (a1:Option Addr) (n1 c1:Nat) (st:List Int) (a2:Option Addr) (n2 c2:Nat) (cols:List Int) (b:Option Addr) (no co:Nat) (os:List Int) (w:World) (h1:SlI w a1 n1 c1 st) (h2:SlI w a2 n2 c2 cols) (h4:SlI w b no co os) (hb1:n1 ≤ 17592186044000) (hb2:n2 ≤ 17592186044000) (hno:no ≤ 17592186044000):Calls Tryz.prog 5 #[.int .i64 k,patV rows width a1 n1 c1 a2 n2 c2,.slice b no co] w fun e w' => e = .returned (.bool true) ∧ Below w.heap.size w w':=by
 have hl1:=h1.len
 have hl2:=h2.len
 have hNo:∀ (k rows width er:Int),KdN k rows width n1 n2 st cols er → Calls Tryz.prog 5 #[.int .i64 k,patV rows width a1 n1 c1 a2 n2 c2,.slice b no co] w fun e w' => e = .returned (.bool true) ∧ Below w.heap.size w w':=fun k rows width er h => gl_no k rows width er a1 n1 c1 st a2 n2 c2 cols b no co os w h1 h2 h4 h.ne (fun W g1 g2 g3 => cGreedy_no k rows width er h.ne b no co a1 a2 n1 c1 n2 c2 st cols W g1 g2 (h.task a1 a2 c1 c2)) (fun W g1 g2 g3 => cBound_no k rows width er h.ne b no co a1 a2 n1 c1 n2 c2 st cols W g1 g2 (h.task a1 a2 c1 c2)) (fun W g1 g2 => (cFloor_no k rows width er h.ne a1 a2 n1 c1 n2 c2 st cols W g1 g2 (h.task a1 a2 c1 c2)).mono (fun e w' q => ⟨_,_,q.1,q.2⟩)) (fun W g1 g2 => h.thg a1 a2 c1 c2 W g1 g2)
 rcases kd_all k rows width n1 n2 st cols hl1 hl2 hb1 hb2 with ⟨er,h⟩ | ⟨R,N,rfl,rfl,hm,h⟩
 ·exact hNo k rows width er h
 ·rcases h with ⟨rfl,Q,h⟩ | ⟨rfl,Q,h⟩ | ⟨rfl,Q,h⟩ | ⟨rfl,Q,h⟩ | ⟨rfl,Q,h⟩
  ·by_cases e:R = N
   ·subst e
    exact gl_both a1 c1 a2 c2 b no co os w h1 h2 h4 hb1 hb2 hno h.m8 h.thg (fun ho => glK_one hl2 hb1 hb2 h ho) (fun W g1 g2 g3 => cGreedy_nb 1 _ _ _ _ R R R st cols b no co os a1 a2 n1 c1 n2 c2 st cols W g1 g2 g3 hno h.sl h.cl h.may (fun W' => h.task a1 a2 c1 c2 W')) (fun W g1 g2 g3 => cBound_yes 1 _ _ _ _ _ R R R st cols b no co os a1 a2 n1 c1 n2 c2 st cols W g1 g2 g3 hno h.sl h.cl h.may (fun W' => h.task a1 a2 c1 c2 W')) (fun W g1 g2 => flo_self hb2 h a1 a2 c1 c2 W g1 g2)
   ·exact hNo _ _ _ _ (kd_asym1 hb1 hb2 hm e)
  ·by_cases e:R = N
   ·subst e
    exact gl_both a1 c1 a2 c2 b no co os w h1 h2 h4 hb1 hb2 hno h.m8 h.thg (fun ho => glK_star hl2 hb1 hb2 h ho) (fun W g1 g2 g3 => cGreedy_st 4 _ _ _ _ R R R st cols b no co os a1 a2 n1 c1 n2 c2 st cols W g1 g2 g3 hno h.sl h.cl h.may (fun W' => h.task a1 a2 c1 c2 W')) (fun W g1 g2 g3 => cBound_yes 4 _ _ _ _ _ R R R st cols b no co os a1 a2 n1 c1 n2 c2 st cols W g1 g2 g3 hno h.sl h.cl h.may (fun W' => h.task a1 a2 c1 c2 W')) (fun W g1 g2 => flo_self hb2 h a1 a2 c1 c2 W g1 g2)
   ·exact hNo _ _ _ _ (kd_asym4 hb1 hb2 hm e)
  ·by_cases e:R = N
   ·subst e
    exact gl_both a1 c1 a2 c2 b no co os w h1 h2 h4 hb1 hb2 hno h.m8 h.thg (fun ho => glK_acyc hl2 hb1 hb2 h ho) (fun W g1 g2 g3 => cGreedy_ac 5 _ _ _ _ R R R st cols b no co os a1 a2 n1 c1 n2 c2 st cols W g1 g2 g3 hno h.sl h.cl h.may h.gra (fun W' => h.task a1 a2 c1 c2 W')) (fun W g1 g2 g3 => cBound_yes 5 _ _ _ _ _ R R R st cols b no co os a1 a2 n1 c1 n2 c2 st cols W g1 g2 g3 hno h.sl h.cl h.may (fun W' => h.task a1 a2 c1 c2 W')) (fun W g1 g2 => flo_self hb2 h a1 a2 c1 c2 W g1 g2)
   ·exact hNo _ _ _ _ (kd_asym5 hb1 hb2 hm e)
  ·exact gl_both a1 c1 a2 c2 b no co os w h1 h2 h4 hb1 hb2 hno h.m8 h.thg (fun ho => glK_cols hb1 hb2 hm h ho) (fun W g1 g2 g3 => cGreedy_nb 2 _ _ _ _ R N N _ _ b no co os a1 a2 n1 c1 n2 c2 st cols W g1 g2 g3 hno h.sl h.cl h.may (fun W' => h.task a1 a2 c1 c2 W')) (fun W g1 g2 g3 => cBound_yes 2 _ _ _ _ _ R N N _ _ b no co os a1 a2 n1 c1 n2 c2 st cols W g1 g2 g3 hno h.sl h.cl h.may (fun W' => h.task a1 a2 c1 c2 W')) (fun W g1 g2 => cFloor_lrow 2 _ _ _ false R N N _ _ (fun q => ∃ y,LgT (fun r => (rowL st cols r).length) R y ∧ q = max 1 y) a1 a2 n1 c1 n2 c2 st cols W g1 g2 (h.task a1 a2 c1 c2) (fun W' q1 q2 => (clrow_any R N a1 a2 n1 c1 n2 c2 st cols W' q1 q2 hb1 hb2 hm).mono (fun e w' ⟨y,he,hy,hb⟩ => ⟨y,he,by
   rcases hy.at_ with e0 | ⟨r,hr,e0⟩
   ·omega
   ·have e1:(rowL st cols r).length = y:=e0
    rw [rowL_cnP hm hr] at e1
    have:=cnP_le (fun c => InC st cols c r) N
    have:=h.m8
    omega,⟨y,hy,rfl⟩,hb⟩)))
  ·exact gl_both a1 c1 a2 c2 b no co os w h1 h2 h4 hb1 hb2 hno h.m8 h.thg (fun ho => glK_rows hb1 hb2 hm h ho) (fun W g1 g2 g3 => cGreedy_nb 3 _ _ _ _ R N R _ _ b no co os a1 a2 n1 c1 n2 c2 st cols W g1 g2 g3 hno h.sl h.cl h.may (fun W' => h.task a1 a2 c1 c2 W')) (fun W g1 g2 g3 => cBound_yes 3 _ _ _ _ _ R N R _ _ b no co os a1 a2 n1 c1 n2 c2 st cols W g1 g2 g3 hno h.sl h.cl h.may (fun W' => h.task a1 a2 c1 c2 W')) (fun W g1 g2 => cFloor_lcol 3 _ _ _ false R N R _ _ (fun q => ∃ y,LgT (fun c => (grR (InC st cols) c R).length) N y ∧ q = max 1 y) a1 a2 n1 c1 n2 c2 st cols W g1 g2 (h.task a1 a2 c1 c2) (fun W' q1 q2 => (clcol_any R N a1 a2 n1 c1 n2 c2 st cols W' q1 q2 hb1 hb2 hm).mono (fun e w' ⟨y,he,hy,hb⟩ => ⟨y,he,by
   rcases hy.at_ with e0 | ⟨r,hr,e0⟩
   ·omega
   ·have e1:(grR (InC st cols) r R).length = y:=e0
    have:=grR_len (InC st cols) r R
    have:=h.m8
    omega,⟨y,hy,rfl⟩,hb⟩)))
end Go.Proofs.YtgjokididdffhaaGreat
namespace Go.Proofs.YtgjokididdffhaaGreat
open Go.ChangeShapes Go.WideShapes Go.ChangeAt Go.RowKit Go.Deep
set_option linter.unusedVariables false
theorem law_bytesI:Tryz.prog.bytesOf 3 = 8:=by kernel_rfl
theorem law_cellsI:Tryz.prog.cellsOf 3 = 1:=by kernel_rfl
theorem law_cellsIs:Tryz.prog.cellsOf 23 = 1:=by kernel_rfl
theorem law_cellsP:Tryz.prog.cellsOf 25 = 4:=by kernel_rfl
theorem trod_s4 {H:Type} {enc:TypeId × Value → H} {P:Program} {w:World} {base:Nat} {spare:Nat → Bool} {held:Bool} {t:TypeId} {f0 f1 f2 f3:Field} {fuel:Nat} {cs:List Value} {x:DataW H × List MemPlace} (ht:P.underlying t = some (.struct #[f0,f1,f2,f3])) (h:DataW.trod enc P w base spare held fuel t cs = some x) :
  ∃ y0 y1 y2 y3 n,x = (.agg [y0.1,y1.1,y2.1,y3.1],y0.2 ++ (y1.2 ++ (y2.2 ++ y3.2))) ∧ cs.length = P.cellsOf t ∧ DataW.trod enc P w base spare held n f0.type ((cs.drop f0.offset).take (P.cellsOf f0.type)) = some y0 ∧
   DataW.trod enc P w base spare held n f1.type ((cs.drop f1.offset).take (P.cellsOf f1.type)) = some y1 ∧ DataW.trod enc P w base spare held n f2.type ((cs.drop f2.offset).take (P.cellsOf f2.type)) = some y2 ∧ DataW.trod enc P w base spare held n f3.type ((cs.drop f3.offset).take (P.cellsOf f3.type)) = some y3:=by
 obtain ⟨xs,n,_,rfl,hl,hlen,hf⟩:=DataW.trod_struct ht h
 match xs,hlen with
 | [y0,y1,y2,y3],_ => exact ⟨y0,y1,y2,y3,n,by simp,hl,by simpa using hf 0 f0 rfl,by simpa using hf 1 f1 rfl,by simpa using hf 2 f2 rfl,by simpa using hf 3 f3 rfl⟩
theorem trod_intsZ {H:Type} {enc:TypeId × Value → H} {W:World} {fuel:Nat} {cs:List Value} {x:DataW H × List MemPlace}
  (h:DataW.trod enc Tryz.prog W 0 (fun _ => true) true fuel 23 cs = some x) (hz:∀ k ∈ x.1.weights Tryz.prog 23,k ≤ reachBytes) :
  ∃ a n c xs,cs = [.slice a n c] ∧ SlI W a n c xs ∧ n ≤ 17592186044000:=by
 rcases open_ints Tryz.underlying23 Tryz.underlying3 law_cellsI h with ⟨rfl,_⟩ | ⟨y,n,c,zs,rfl,_,hl,hm,hzl,rfl,hcell,hwz⟩
 ·exact ⟨none,0,0,[],rfl,SlI.nil _,Nat.zero_le _⟩
 ·have hzl':zs.length = c:=by simpa using hzl
  have hb:=hz (((lits (H:=H) .i64 (zs.take n)).length + (lits (H:=H) .i64 (zs.drop n)).length) * Tryz.prog.bytesOf 3) (by simp [DataW.weights,Tryz.underlying23])
  have hlen:(lits (H:=H) .i64 (zs.take n)).length + (lits (H:=H) .i64 (zs.drop n)).length = c:=by
   simp [lits]; omega
  rw [hlen,law_bytesI] at hb
  unfold reachBytes at hb
  refine ⟨some y,n,c,zs.take n,rfl,⟨by simp; omega,hl,hm,?_⟩,by omega⟩
  by_cases h0:n = 0
  ·left; subst h0; simp
  ·right
   obtain ⟨b,off,spot⟩:=y
   have c0:=hcell 0 (by omega)
   have hspot:spot = none:=by simpa [Addr.add] using World.cell?_spot c0
   subst hspot
   refine ⟨b,off,rfl,?_⟩
   intro i hi
   have hi':i < n:=by simp at hi; omega
   have e:(⟨b,off,none⟩:Addr).add i = ⟨b,off + i,none⟩:=by unfold Addr.add; split <;> simp_all
   have hzi:=hcell i (by omega)
   rw [e] at hzi
   rw [hzi]
   have e2:(zs.take n).getD i 0 = zs.getD i 0:=by
    simp [List.getD,hi',show i < zs.length from by omega]
   rw [e2]
structure PatZ (W:World) (a1:Option Addr) (n1 c1:Nat) (st:List Int) (a2:Option Addr) (n2 c2:Nat) (cols:List Int):Prop where
 h1:SlI W a1 n1 c1 st
 h2:SlI W a2 n2 c2 cols
 l1:n1 ≤ 17592186044000
 l2:n2 ≤ 17592186044000
set_option maxRecDepth 100000 in
theorem trod_patZ {H:Type} {enc:TypeId × Value → H} {W:World} {fuel:Nat} {cs:List Value} {x:DataW H × List MemPlace}
  (h:DataW.trod enc Tryz.prog W 0 (fun _ => true) true fuel 25 cs = some x) (hz:∀ k ∈ x.1.weights Tryz.prog 25,k ≤ reachBytes) :
  ∃ rows width a1 n1 c1 st a2 n2 c2 cols,cs = [.int .i64 rows,.int .i64 width,.slice a1 n1 c1,.slice a2 n2 c2] ∧ PatZ W a1 n1 c1 st a2 n2 c2 cols:=by
 obtain ⟨y0,y1,y2,y3,k,rfl,hl,h0,h1,h2,h3⟩:=trod_s4 Tryz.underlying25 h
 rw [law_cellsP] at hl
 match cs,hl with
 | [c0,c1,c2,c3],_ =>
  simp only [List.drop_zero,List.drop_succ_cons,law_cellsI,law_cellsIs,List.take_succ_cons,List.take_zero] at h0 h1 h2 h3
  obtain ⟨r,e0,_⟩:=DataW.trod_int Tryz.underlying3 h0
  obtain ⟨wd,e1,_⟩:=DataW.trod_int Tryz.underlying3 h1
  obtain ⟨a1,n1,d1,st,e2,k1,k2⟩:=trod_intsZ h2 (fun k hk => hz k (by simp [DataW.weights,DataW.weightsEach,Tryz.underlying25,hk]))
  obtain ⟨a2,n2,d2,cols,e3,k3,k4⟩:=trod_intsZ h3 (fun k hk => hz k (by simp [DataW.weights,DataW.weightsEach,Tryz.underlying25,hk]))
  cases e0
  cases e1
  cases e2
  cases e3
  exact ⟨r,wd,a1,n1,d1,st,a2,n2,d2,cols,rfl,⟨k1,k3,k2,k4⟩⟩
set_option maxRecDepth 100000 in
theorem arg_patZ {H:Type} {enc:TypeId × Value → H} {W:World} {v:Value} {d:DataW H} {p:List MemPlace} {r:Reach} {b0:Nat}
  (hv:Value.okWide Tryz.prog W r b0 25 v) (h:DataW.Trod enc Tryz.prog W 0 (fun _ => true) true 25 v d p) (hz:∀ k ∈ d.weights Tryz.prog 25,k ≤ reachBytes) :
  ∃ rows width a1 n1 c1 st a2 n2 c2 cols,v = patV rows width a1 n1 c1 a2 n2 c2 ∧ PatZ W a1 n1 c1 st a2 n2 c2 cols:=by
 obtain ⟨cs,rfl,hsz⟩:=okWide_struct Tryz.underlying25 hv
 obtain ⟨fuel,hf⟩:=h
 obtain ⟨rows,width,a1,n1,c1,st,a2,n2,c2,cols,e,k⟩:=trod_patZ hf hz
 have hcs:(Value.agg cs).cells.toList = cs.toList:=by simp [Value.cells]
 rw [hcs] at e
 refine ⟨rows,width,a1,n1,c1,st,a2,n2,c2,cols,?_,k⟩
 unfold patV
 congr 1
 apply Array.ext'
 simpa using e
end Go.Proofs.YtgjokididdffhaaGreat
