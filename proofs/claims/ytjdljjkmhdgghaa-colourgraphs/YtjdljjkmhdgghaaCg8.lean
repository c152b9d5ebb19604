/- Cg8 -/
import Derived.Test.YtjdljjkmhdgghaaCg7
namespace Go.Proofs.Ytjdljjkmhdgghaa
open Go.RowKit Go.Deep
set_option linter.unusedVariables false
def rowL (st cols:List Int) (i:Nat):List Int:=(cols.drop (st.getD i 0).toNat).take ((st.getD (i + 1) 0).toNat - (st.getD i 0).toNat)
def NrP (st cols:List Int) (k x:Nat):Prop:=∃ i,i < k ∧ (MeP (rowL st cols i) (rowL st cols i).length 0 x ∨ ∃ t,t < (rowL st cols i).length ∧ (i:Int) * 128 + (rowL st cols i).getD t 0 = (x:Int))
set_option maxRecDepth 100000 in
set_option maxHeartbeats 16000000 in
theorem cnear_any (R:Nat) (width:Nat) (a1 a2:Option Addr) (n1 c1 n2 c2:Nat) (st cols:List Int) (P:Nat → Nat → Prop) (w:World) (h1:SlI w a1 n1 c1 st) (h2:SlI w a2 n2 c2 cols) (hb1:n1 ≤ 17592186044416) (hb2:n2 ≤ 17592186044416) (hm:MayP (R:Int) (width:Int) st cols) (hP:∀ u v,u < R → v < R → ((NrP st cols R (u * 128 + v) ∧ u ≠ v) ↔ P u v)) :
  Calls Try.prog 22 #[patV (R:Int) (width:Int) a1 n1 c1 a2 n2 c2] w fun e w' => GpP w w' e R (grS P R R) (grC P R R):=by
 obtain ⟨wb,hwb⟩:∃ x,w.alloc (.cells #[.int .i64 (R:Int),.int .i64 (width:Int),.slice a1 n1 c1,.slice a2 n2 c2] 24) = x:=⟨_,rfl⟩
 have bb:Below w.heap.size w wb:=by rw [← hwb]; exact bAl
 have hT:=BoxP.made w #[.int .i64 (R:Int),.int .i64 (width:Int),.slice a1 n1 c1,.slice a2 n2 c2] 24
 rw [hwb] at hT
 have hO0:=BoxP.made wb #[.int .i64 0,.int .i64 0,.slice none 0 0,.slice none 0 0] 24
 obtain ⟨wo,hwo⟩:∃ x,wb.alloc (.cells #[.int .i64 0,.int .i64 0,.slice none 0 0,.slice none 0 0] 24) = x:=⟨_,rfl⟩
 have bo:Below wb.heap.size wb wo:=by rw [← hwo]; exact bAl
 rw [hwo] at hO0
 have hS0:=RoV.pairs wo
 obtain ⟨ws,hws⟩:∃ x,wo.alloc (.cells Try.zeroCells74 74) = x:=⟨_,rfl⟩
 have bs:Below wo.heap.size wo ws:=by rw [← hws]; exact bAl
 have hss:wo.heap.size < ws.heap.size:=by rw [← hws]; simp
 rw [hws] at hS0
 have bws:=(bb.trans (bo.mono bb.size)).trans (bs.mono (bb.trans (bo.mono bb.size)).size)
 have hT1:=(hT.below bo).below bs
 have hO1:=hO0.below bs
 have p0:=(hT1.all 0 _ rfl).1
 have p1:=(hT1.all 1 _ rfl).1
 have p2:=(hT1.all 2 _ rfl).1
 have p3:=(hT1.all 3 _ rfl).1
 have hfit:=hm.head.fit
 have hR8:R ≤ 128:=by omega
 have hW8:width ≤ 128:=by omega
 have KR:=Hj (crows_any R (width:Int) a1 a2 n1 c1 n2 c2 st cols ws (h1.below bws) (h2.below bws) hb1 hb2 hm)
 have HT:=Hj hT1
 have HO:=Hj hO1
 have HLt:=Hj (show w.heap.size < wb.heap.size ∧ wb.heap.size < wo.heap.size ∧ wo.heap.size < ws.heap.size from ⟨hT.lt,hO0.lt,hss⟩)
 have HB:=Hj bws
 have HSl:=Hj h2
 have HM:=Hj hm
 have HP:=Hj hP
 have HS:=Hj hS0
 clear hT hT1 hO0 bb bo bs bws hO1 h1 h2 hm hP hS0 hss hfit
 unfold patV
 unfold patV at KR
 go_enter Try.func22,Try.ntmps22
 go_wp2_with fail
 refine (Uh KR).mono ?_
 rintro _ wl ⟨L,hLs,rfl,hL,bl⟩
 have HL:=Hj hL
 have HLL:=Hj hLs
 have HBl:=Hj bl
 have HS1:=Hj ((Uh HS).below bl)
 clear hL hLs bl KR HS p0 p1 p2 p3
 go_wp2_with fail
 go_loopw [11,4] (fun kv _ wr => ∃ k:Nat,k ≤ R ∧ kv = .int .i64 (k:Int) ∧ Hid (PrS wl wr wo.heap.size (NrP st cols k))) (fun kv _ _ => R - (intOf kv).toNat)
 case atStart =>
  refine ⟨0,Nat.zero_le _,rfl,Hj ⟨(Uh HS1).congr (fun i hi => ?_),Chg.refl _ _⟩⟩
  rw [tb_no (show ¬ NrP st cols 0 i from fun ⟨_,h,_⟩ => absurd h (Nat.not_lt_zero _))]
 case round =>
  obtain ⟨k,hk,rfl,HK⟩:=hrel
  by_cases hlt:k < R
  ·have hlt':(k:Int) < (R:Int):=by omega
   obtain ⟨X,Y,hRow⟩:=(Uh HM).rowAt (k:=k) hlt'
   have hln:=(Uh HSl).len
   have hsz:=Uh HLt
   have hLL:=Uh HLL
   have cw:Chg (fun j => j = wo.heap.size) w wr:=(Chg.of_below ((Uh HB).trans ((Uh HBl).mono (Uh HB).size))).trans (Uh HK).chg
   have hsub:=(Uh HSl).sub hRow.le (by rw [← hln]; exact hRow.lt)
   have hcell:=(Uh HL k hlt).1
   have eL:rowL st cols k = (cols.drop X).take (Y - X):=by unfold rowL; rw [hRow.hX,hRow.hY]; simp
   have hV:rowV st a2 c2 k = subV a2 c2 X Y:=by unfold rowV; rw [hRow.hX,hRow.hY]; simp
   rw [hV] at hcell
   unfold subV at hcell
   rw [← eL] at hsub
   have hrow:=(RowP.sub hRow.le).2 hRow.row
   rw [← eL] at hrow
   have hrng:∀ i,i < Y - X → 0 ≤ (rowL st cols k).getD i 0 ∧ (rowL st cols k).getD i 0 < 128:=fun i hi => by have:=hrow.rng i (Nat.zero_le _) hi; omega
   have hYX:Y - X ≤ 17592186044416:=by have:=hRow.lt; omega
   obtain ⟨A,hA⟩:∃ A,(if c2 = X then a2 else Option.map (fun x => x.add X) a2) = A:=⟨_,rfl⟩
   rw [hA] at hcell hsub
   obtain ⟨q,hq⟩:∃ q,Y - X = q:=⟨_,rfl⟩
   obtain ⟨d,hd⟩:∃ d,c2 - X = d:=⟨_,rfl⟩
   rw [hq] at hcell hsub hrng hYX
   rw [hd] at hcell hsub
   obtain ⟨xs,hxs⟩:∃ xs,rowL st cols k = xs:=⟨_,rfl⟩
   rw [hxs] at hsub hrng
   have hc1:=(Uh HK).chg.cell (show ¬ L = wo.heap.size by omega) hcell
   have hne:∀ z,A = some z → xs ≠ [] → z.block ≠ wo.heap.size:=fun z e1 e2 => by have:=hsub.block_lt e2 z e1; omega
   have KM:=Hj (pmeet_any wo.heap.size A q d xs (NrP st cols k) wr (hsub.chg cw (fun z e1 e2 => hne z e1 e2)) hYX hrng hne (Uh HK).row)
   have HQ:=Hj (And.intro hsub.len hxs)
   have HSb:=Hj (show ∀ W,Chg (fun j => j = wo.heap.size) wl W → SlI W A q d xs from fun W c => hsub.chg ((Chg.of_below ((Uh HB).trans ((Uh HBl).mono (Uh HB).size))).trans c) (fun z e1 e2 => hne z e1 e2))
   have HRg:=Hj hrng
   clear hcell hsub cw hne hsz hLL hln eL hV hrow hrng hA hq hd hxs hRow
   go_wp2_with fail
   refine (Uh KM).mono ?_
   rintro _ wk ⟨⟨v,rfl⟩,hpr⟩
   have HN:=Hj (show PrS wl wk wo.heap.size (fun x => (NrP st cols k x ∨ MeP xs q 0 x) ∨ ∃ t,t < 0 ∧ (k:Int) * 128 + xs.getD t 0 = (x:Int)) from ⟨hpr.row.congr (fun i hi => by
    rw [tb_congr (show (NrP st cols k i ∨ MeP xs q 0 i) ↔ ((NrP st cols k i ∨ MeP xs q 0 i) ∨ ∃ t,t < 0 ∧ (k:Int) * 128 + xs.getD t 0 = (i:Int)) from ⟨.inl,fun z => z.elim id (fun ⟨_,h,_⟩ => absurd h (Nat.not_lt_zero _))⟩)]),(Uh HK).chg.trans hpr.chg⟩)
   clear hpr KM hc1
   go_wp2_with fail
   go_loopw [20,7] (fun iv _ wq => ∃ j:Nat,j ≤ q ∧ iv = .int .i64 (j:Int) ∧ Hid (PrS wl wq wo.heap.size (fun x => (NrP st cols k x ∨ MeP xs q 0 x) ∨ ∃ t,t < j ∧ (k:Int) * 128 + xs.getD t 0 = (x:Int)))) (fun iv _ _ => q - (intOf iv).toNat)
   case atStart => exact ⟨0,Nat.zero_le _,rfl,HN⟩
   case round =>
    obtain ⟨j,hj,rfl,HV⟩:=hrel
    by_cases hin:j < q
    ·have hin':(j:Int) < (q:Int):=by omega
     obtain ⟨bb',off',e1,hc⟩:=(Uh HSb _ (Uh HV).chg).at (by omega)
     subst e1
     have sv:=hc j hin
     have hx2:=Uh HRg j hin
     obtain ⟨V,hVV⟩:∃ V:Nat,xs.getD j 0 = (V:Int):=⟨(xs.getD j 0).toNat,by omega⟩
     rw [hVV] at sv hx2
     have hV8:(V:Int) < 128:=hx2.2
     have hk8:(k:Int) < 128:=by omega
     have hcell:=(Uh HV).row (k * 128 + V) (by omega)
     have hc1:=hcell.1
     have hc2:=hcell.2
     have HN2:=Hj (((Uh HV).put (R:=fun x => (NrP st cols k x ∨ MeP xs q 0 x) ∨ ∃ t,t < j + 1 ∧ (k:Int) * 128 + xs.getD t 0 = (x:Int)) (k * 128 + V) (by omega) (fun y => by
      constructor
      ·rintro (z | ⟨t,h,e⟩)
       ·exact .inl (.inl z)
       ·by_cases e2:t = j
        ·subst e2
         right
         omega
        ·exact .inl (.inr ⟨t,by omega,e⟩)
      ·rintro ((z | ⟨t,h,e⟩) | z)
       ·exact .inl z
       ·exact .inr ⟨t,by omega,e⟩
       ·exact .inr ⟨j,by omega,by rw [hVV,z]; omega⟩)))
     clear hc hcell hVV hx2
     go_wp2_with fail
     try go_region
     all_goals (try go_wp2_with fail)
     all_goals exact ⟨⟨j + 1,by omega,by (first | rfl | go_num),Hj (by first | exact Uh HN2 | exact (Uh HN2).drew)⟩,by simp [intOf]; omega⟩
    ·obtain rfl:j = q:=by omega
     have hin':¬ (j:Int) < (j:Int):=by omega
     go_wp2_with fail
     refine ⟨⟨k + 1,by omega,by (first | rfl | go_num),Hj ((Uh HV).congr (fun x => ?_))⟩,by simp [intOf]; omega⟩
     have hq1:=(Uh HQ).1
     have hq2:=(Uh HQ).2
     constructor
     ·rintro ((⟨i,h,e⟩ | e) | ⟨t,h,e⟩)
      ·exact ⟨i,by omega,e⟩
      ·exact ⟨k,by omega,.inl (by rw [hq2,hq1]; exact e)⟩
      ·exact ⟨k,by omega,.inr ⟨t,by rw [hq2,hq1]; exact h,by rw [hq2]; exact e⟩⟩
     ·rintro ⟨i,h,e⟩
      by_cases e2:i = k
      ·subst e2
       rw [hq2,hq1] at e
       rcases e with e | e
       ·exact .inl (.inr e)
       ·exact .inr e
      ·exact .inl (.inl ⟨i,by omega,e⟩)
  ·obtain rfl:k = R:=by omega
   have hlt':¬ (k:Int) < (k:Int):=by omega
   have hsz:=Uh HLt
   have bwl:=(Uh HB).trans ((Uh HBl).mono (Uh HB).size)
   have cw:Chg (fun j => j = wo.heap.size) w wr:=(Chg.of_below bwl).trans (Uh HK).chg
   have KG:=Hj (pgraph_any k wo.heap.size (fun x => tb (NrP st cols k x)) P wr hR8 (Uh HK).row (fun u v hu hv => by rw [tb_iff]; exact Uh HP u v hu hv))
   have HOr:=Hj (((Uh HO).below (Uh HBl)).chg (Uh HK).chg (show ¬ wb.heap.size = wo.heap.size by omega))
   have p0:=((((Uh HT).below (Uh HBl)).chg (Uh HK).chg (show ¬ w.heap.size = wo.heap.size by omega)).all 0 _ rfl).1
   have HCw:=Hj cw
   clear cw hsz bwl
   go_wp2_with fail
   refine (Uh KG).mono ?_
   rintro _ wk ⟨b1,d1,b2,d2,rfl,g1,g2,bk,f1,f2⟩
   have hOk:=(Uh HOr).below bk
   have q0:=(hOk.all 0 _ rfl).1
   have q1:=(hOk.all 1 _ rfl).1
   have q2:=(hOk.all 2 _ rfl).1
   have q3:=(hOk.all 3 _ rfl).1
   have r0:=(hOk.all 0 _ rfl).2
   have r1:=(hOk.all 1 _ rfl).2
   have r2:=(hOk.all 2 _ rfl).2
   have r3:=(hOk.all 3 _ rfl).2
   have HOk:=Hj hOk
   have HG:=Hj (And.intro g1 g2)
   have HBK:=Hj bk
   have HFr:=Hj (And.intro f1 f2)
   clear hOk g1 g2 bk KG f1 f2 p0
   go_wp2_with fail
   have hf:=((((Uh HOk).put 0 (.int .i64 (k:Int))).put 1 (.int .i64 (k:Int))).put 2 (.slice b1 (grS P k k).length d1)).put 3 (.slice b2 (grC P k k).length d2)
   have t0:=(hf.all 0 _ rfl).1
   have t1:=(hf.all 1 _ rfl).1
   have t2:=(hf.all 2 _ rfl).1
   have t3:=(hf.all 3 _ rfl).1
   have cc:Chg (fun j => j = wb.heap.size) wk ((((wk.setCell ⟨wb.heap.size,0,none⟩ (.int .i64 (k:Int))).setCell ⟨wb.heap.size,1,none⟩ (.int .i64 (k:Int))).setCell ⟨wb.heap.size,2,none⟩ (.slice b1 (grS P k k).length d1)).setCell ⟨wb.heap.size,3,none⟩ (.slice b2 (grC P k k).length d2)):=(((Chg.of_set (S:=fun j => j = wb.heap.size) _ _ _ _ rfl).trans (Chg.of_set (S:=fun j => j = wb.heap.size) _ _ _ _ rfl)).trans (Chg.of_set (S:=fun j => j = wb.heap.size) _ _ _ _ rfl)).trans (Chg.of_set (S:=fun j => j = wb.heap.size) _ _ _ _ rfl)
   generalize (((wk.setCell ⟨wb.heap.size,0,none⟩ (.int .i64 (k:Int))).setCell ⟨wb.heap.size,1,none⟩ (.int .i64 (k:Int))).setCell ⟨wb.heap.size,2,none⟩ (.slice b1 (grS P k k).length d1)).setCell ⟨wb.heap.size,3,none⟩ (.slice b2 (grC P k k).length d2) = wf at *
   refine bodyPost_ret (by simp [results,Try.results22,go_sem,t0,t1,t2,t3]; try rfl) rfl ?_
   have hwr:wb.heap.size < wr.heap.size:=(Uh HOr).lt
   have h9:=Uh HLt
   refine ⟨b1,d1,b2,d2,rfl,(Uh HG).1.chg cc (fun z hz _ e => ?_),(Uh HG).2.chg cc (fun z hz _ e => ?_),?_,fun z hz => ?_,fun z hz => ?_⟩
   ·have:=(Uh HFr).1 z hz; omega
   ·have:=(Uh HFr).2 z hz; omega
   ·exact (((Uh HCw).below (Nat.le_refl _) (fun j hj e => by omega)).trans ((Uh HBK).mono (Uh HCw).size)).trans (cc.below (Nat.le_trans (Uh HCw).size (Uh HBK).size) (fun j hj e => by omega))
   ·have:=(Uh HFr).1 z hz; omega
   ·have:=(Uh HFr).2 z hz; omega
end Go.Proofs.Ytjdljjkmhdgghaa
