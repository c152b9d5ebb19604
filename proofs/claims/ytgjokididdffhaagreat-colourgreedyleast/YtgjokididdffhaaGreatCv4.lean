/- Cu7 -/
import Derived.Test.YtgjokididdffhaaGreatCh8
import Derived.Test.YtgjokididdffhaaGreatCv2
import Derived.Test.YtgjokididdffhaaGreatDa1
import Derived.Test.YtgjokididdffhaaGreatChd
namespace Go.Proofs.YtgjokididdffhaaGreat
open Go.RowKit Go.Deep
set_option linter.unusedVariables false
theorem FrC.grow {X o:Nat} {a b c:World} (h:FrC X o a b) (k:Chg (fun j => a.heap.size ≤ j) b c) (hX:X < a.heap.size):FrC X o a c :=
 ⟨h.chg.then2 k (fun j hj e => by have e':a.heap.size ≤ j:=e; omega),fun i hi => by
  have hb:=k.block X (Nat.lt_of_lt_of_le hX h.chg.size) (fun e => by have e':a.heap.size ≤ X:=e; omega)
  have h1:=h.fr i hi
  exact ⟨by rw [← h1.1]; unfold World.cell?; rw [hb],by rw [← h1.2]; unfold World.frozen?; rw [hb]⟩⟩
set_option maxRecDepth 100000 in
set_option maxHeartbeats 16000000 in
theorem cgrow_any (X o R:Nat) (pf:Nat → Nat) (a1:Option Addr) (n1 c1:Nat) (a2:Option Addr) (n2 c2:Nat) (g:Nat) (cs:Nat → Int) (st cols:List Int) (w:World) (hF:RoF w X o pf) (hX:X < w.heap.size) (h1:SlI w a1 n1 c1 st) (h2:SlI w a2 n2 c2 cols) (hb1:n1 ≤ 17592186044000) (hb2:n2 ≤ 17592186044000) (hm:MayP (R:Int) (R:Int) st cols) (hg:GraP st cols R R) (hc:RoV w g R (fun i => .int .i64 (cs i))) (hcs:∀ i,i < R → -1 ≤ cs i ∧ cs i < (R:Int)) (o1:∀ z,a1 = some z → st ≠ [] → z.block ≠ X) (o2:∀ z,a2 = some z → cols ≠ [] → z.block ≠ X) (hgX:g ≠ X) :
  Calls Tryz.prog 130 #[.pointer (some ⟨X,o,none⟩),patV (R:Int) (R:Int) a1 n1 c1 a2 n2 c2,.slice (some ⟨g,0,none⟩) R R] w fun e w' => GwP X o R cs st cols w w' e:=by
 have hR:R ≤ 128:=by have:=hm.head.fit; omega
 obtain ⟨wb,hwb⟩:∃ x,w.alloc (.cells #[.int .i64 (R:Int),.int .i64 (R:Int),.slice a1 n1 c1,.slice a2 n2 c2] 25) = x:=⟨_,rfl⟩
 have bb:Below w.heap.size w wb:=by rw [← hwb]; exact bAl
 have hT:=BoxP.made w #[.int .i64 (R:Int),.int .i64 (R:Int),.slice a1 n1 c1,.slice a2 n2 c2] 25
 rw [hwb] at hT
 have p0:=(hT.all 0 _ rfl).1
 have hXb:w.heap.size ≠ X:=by omega
 have KP:=Hj (cpart_any X o R pf wb hR (hF.below bb))
 have HB:=Hj bb
 have HT:=Hj hT
 have HC0:=Hj (FrC.of_below (X:=X) (o:=o) bb hX)
 have HS:=Hj (And.intro (h1.below bb) (h2.below bb))
 have HC:=Hj (hc.below bb)
 have HM:=Hj (And.intro hm hg)
 have HCS:=Hj hcs
 have HO:=Hj (And.intro o1 o2)
 clear hT bb h1 h2 hc hm hg hcs hF o1 o2
 unfold patV
 go_enter Tryz.func130,Tryz.ntmps130
 go_wp2_with fail
 refine (Uh KP).mono ?_
 rintro _ w2 ⟨⟨z0,rfl⟩,pf2,hF2,hid,hC2⟩
 have HN:=Hj (show ∀ W,Chg (fun j => j = X) wb W → BoxP W w.heap.size [.int .i64 (R:Int),.int .i64 (R:Int),.slice a1 n1 c1,.slice a2 n2 c2] ∧ SlI W a1 n1 c1 st ∧ SlI W a2 n2 c2 cols ∧ RoV W g R (fun i => .int .i64 (cs i)) from fun W k => ⟨(Uh HT).chg k hXb,(Uh HS).1.chg k (fun z hz hn => (Uh HO).1 z hz hn),(Uh HS).2.chg k (fun z hz hn => (Uh HO).2 z hz hn),(Uh HC).chg k hgX⟩)
 have HI0:=Hj (show ∃ pf' ro h M,RoF w2 X o pf' ∧ UfI (elD R) pf' ro h M ∧ UfE (adG st cols R) cs R ro (fun u v => adG st cols R u v ∧ u ≤ v ∧ u < 0) ∧ FrC X o wb w2 from ⟨pf2,_,_,_,hF2,UfI.alone hid,UfE.none.more (fun u v a b h _ _ => absurd h.2.2 (Nat.not_lt_zero _)),hC2⟩)
 have p0:=((Uh HN w2 hC2.chg).1.all 0 _ rfl).1
 clear KP hF2 hid hC2
 go_wp2_with fail
 clear p0
 obtain ⟨i2,hi,hz,hs,hb⟩:=info_parts info_two
 have HI:=Hj (And.intro hi (And.intro hz (And.intro hs hb)))
 clear hi hz hs hb
 go_loopw [19,7] (fun uv cv wr => ∃ u:Nat,u ≤ R ∧ uv = .int .i64 (u:Int) ∧ Hid (ClC wr wb.heap.size cv (u * 128)) ∧ Hid (∃ pf' ro h M,RoF wr X o pf' ∧ UfI (elD R) pf' ro h M ∧ UfE (adG st cols R) cs R ro (fun p q => adG st cols R p q ∧ p ≤ q ∧ p < u) ∧ FrC X o wb wr)) (fun uv _ _ => R - (intOf uv).toNat)
 case atStart => exact ⟨0,Nat.zero_le _,rfl,Hj ⟨0,[],Nat.zero_le _,World.ownsRow_nil _ _ _ _⟩,HI0⟩
 case round =>
  obtain ⟨u,hu,rfl,HCl,HU⟩:=hrel
  obtain ⟨pf0,ro0,h0,M0,hF0,hU0,hE0,hC0⟩:=Uh HU
  have hbx:=Uh HN wr hC0.chg
  have p0:=(hbx.1.all 0 _ rfl).1
  have p1:=(hbx.1.all 1 _ rfl).1
  have p2:=(hbx.1.all 2 _ rfl).1
  have p3:=(hbx.1.all 3 _ rfl).1
  by_cases hlt:u < R
  ·have hlt':(u:Int) < (R:Int):=by omega
   have KR:=Hj (crow_list R (R:Int) a1 a2 n1 c1 n2 c2 st cols u wr hbx.2.1 hbx.2.2.1 hb1 hb2 (Uh HM).1 hlt)
   unfold patV at KR
   clear hF0 hU0 hE0 hC0 hbx
   go_wp2_with fail
   refine (Uh KR).mono ?_
   rintro _ w4 ⟨aN,cN,rfl,hsN,hlN,hbN,b4⟩
   have HCh0:=Hj (show Chg (fun j => j = X) wr w4 from Chg.of_below b4)
   have HNr:=Hj (show ∀ W,Chg (fun j => j = X ∨ wb.heap.size ≤ j) w4 W → SlI W aN (rowL st cols u).length cN (rowL st cols u) from fun W k => hsN.chg k (fun z hz hn e => by
    obtain ⟨t,e1,e2⟩:=hbN z hz hn
    rw [← e2] at e
    rcases e with e | e
    ·exact (Uh HO).2 t e1 (rowL_some hn) e
    ·rcases (Uh HS).2.cells with c | ⟨b,off,c1,c2⟩
     ·exact rowL_some hn c
     ·rw [e1] at c1
      have hlt:=World.block_lt_of_cell? _ _ (c2 0 (by have:=rowL_some hn; cases cols with | nil => exact absurd rfl this | cons _ _ => simp))
      have:t.block = b:=by cases c1; rfl
      have hlt':b < wb.heap.size:=hlt
      omega))
   have HG0:=Hj (show GwI X o R cs st cols wb w4 u 0 from by
    obtain ⟨p,r,a,M,k1,k2,k3,k4⟩:=Uh HU
    have hXr:X < wr.heap.size:=World.block_lt_of_cell? _ _ (k1 0 (by decide)).1
    exact ⟨p,r,a,M,k1.below b4,k2,k3.more (fun x y a' b' he _ _ => ⟨he.1,he.2.1,he.2.2.elim id (fun c => absurd c.2.choose_spec.1 (Nat.not_lt_zero _))⟩),k4.trans (FrC.of_below b4 hXr)⟩)
   have HCl0:=Hj (show ClC w4 wb.heap.size _ (u * 128 + 0) from by
    obtain ⟨n,xs,k1,k2⟩:=Uh HCl
    exact ⟨n,xs,k1,ownsRow_chg (S:=fun _ => False) k2 (.of_below b4) (fun _ _ => id)⟩)
   have hm128:(rowL st cols u).length ≤ 128:=by
    exact Nat.le_trans (row_lenF (Uh HM).1 hlt) hR
   obtain ⟨m,hm⟩:∃ m,(rowL st cols u).length = m:=⟨_,rfl⟩
   have HMM:=Hj hm
   rw [hm] at hlN hm128 HNr ⊢
   clear KR hsN hbN b4 hm p0 p1 p2 p3 HU HCl
   go_wp2_with fail
   go_loopw [26,7] (fun iv cv wr => ∃ i:Nat,i ≤ m ∧ iv = .int .i64 (i:Int) ∧ Hid (ClC wr wb.heap.size cv (u * 128 + i)) ∧ Hid (GwI X o R cs st cols wb wr u i) ∧ Hid (Chg (fun j => j = X ∨ wb.heap.size ≤ j) w4 wr)) (fun iv _ _ => m - (intOf iv).toNat)
   case atStart => exact ⟨0,Nat.zero_le _,rfl,HCl0,HG0,Hj (Chg.refl _ _)⟩
   case round =>
    obtain ⟨i,hi,rfl,HCl,HG,HCh⟩:=hrel
    by_cases hin:i < m
    ·have hin':(i:Int) < (m:Int):=by omega
     obtain ⟨v,hv1,hv2⟩:=row_atF (Uh HM).1 hlt (i:=i) (by rw [Uh HMM]; exact hin)
     have hIn:InC st cols v u:=(rowL_mem (Uh HM).1 hlt).1 (getD_mem (by rw [Uh HMM]; exact hin) hv1)
     obtain ⟨bN,oN,rfl,hcN⟩:=(Uh HNr wr (Uh HCh)).at (by omega)
     have sc:=hcN i hin
     rw [hv1] at sc
     have hgu:=(Uh HCS u hlt)
     have hgv:=(Uh HCS v hv2)
     obtain ⟨p4,r4,a4,M4,hF4,hU4,hE4,hC4⟩:=Uh HG
     have hro:=(Uh HN wr hC4.chg).2.2.2
     have su:=(hro u hlt).1
     have sv:=(hro v hv2).1
     obtain ⟨cu,hcu⟩:∃ y,cs u = y:=⟨_,rfl⟩
     obtain ⟨cv,hcv⟩:∃ y,cs v = y:=⟨_,rfl⟩
     simp only [hcu] at su
     simp only [hcv] at sv
     have hlt2:(v:Int) < (R:Int):=by omega
     have HS1:=Hj (fun hs => (Uh HG).skip (v:=v) hv1 hs)
     have HCl1:=Hj (show ∀ k,k = i + 1 → ClC wr wb.heap.size _ (u * 128 + k) from fun k hk => by
      obtain ⟨n,xs,k1,k2⟩:=Uh HCl
      exact ⟨n,xs,by omega,k2⟩)
     have HV1:=Hj hv1
     have HIN:=Hj hIn
     clear hcN hro hv1 hIn
     by_cases cA:v < u
     ·have cA':(v:Int) < (u:Int):=by omega
      have HG2:=Hj (Uh HS1 (.inl cA))
      clear hF4 hU4 hE4 hC4 hcu hcv HS1
      go_wp2_with fail
      exact ⟨⟨i + 1,by omega,by (first | rfl | go_num),Hj (Uh HCl1 _ rfl),HG2,HCh⟩,by simp [intOf]; omega⟩
     ·have cA':¬ (v:Int) < (u:Int):=by omega
      by_cases cB:cu = -1
      ·have d1:(cu == -1) = true:=by simp [cB]
       have HG2:=Hj (Uh HS1 (.inr (.inl (by rw [hcu,cB]))))
       clear hF4 hU4 hE4 hC4 hcu hcv HS1 cB
       go_wp2_with fail
       exact ⟨⟨i + 1,by omega,by (first | rfl | go_num),Hj (Uh HCl1 _ rfl),HG2,HCh⟩,by simp [intOf]; omega⟩
      ·have d1:(cu == -1) = false:=by simp [cB]
       by_cases cC:cv = -1
       ·have d2:(cv == -1) = true:=by simp [cC]
        have HG2:=Hj (Uh HS1 (.inr (.inr (by rw [hcv,cC]))))
        clear hF4 hU4 hE4 hC4 hcu hcv HS1 cB cC
        go_wp2_with fail
        exact ⟨⟨i + 1,by omega,by (first | rfl | go_num),Hj (Uh HCl1 _ rfl),HG2,HCh⟩,by simp [intOf]; omega⟩
       ·obtain ⟨b,hb⟩:∃ b:Nat,cu = (b:Int):=⟨cu.toNat,by omega⟩
        obtain ⟨a,ha⟩:∃ a:Nat,cv = (a:Int):=⟨cv.toNat,by omega⟩
        subst hb ha
        have d2:((a:Int) == -1) = false:=by simp
        have hbR:b < R:=by omega
        have haR:a < R:=by omega
        have hu8:u < 128:=by omega
        have hv8:v < 128:=by omega
        have ha8:a < 128:=by omega
        have hb8:b < 128:=by omega
        have D1:=elN_D hR hlt haR
        have D2:=elN_D hR hv2 hbR
        have hA:∃ pf',RoF wr X o pf' ∧ UfI (elD R) pf' r4 a4 M4:=⟨p4,hF4,hU4⟩
        have hNE:=RgX.ne hA
        have Fu:=fun x:RgX wr X o R r4 a4 M4 => x.frc.chg.cell (show ¬ g = X from hgX) su
        have Fv:=fun x:RgX wr X o R r4 a4 M4 => x.frc.chg.cell (show ¬ g = X from hgX) sv
        have HA:=Hj hA
        have HE4:=Hj hE4
        have HC4:=Hj hC4
        have HCU:=Hj (And.intro hcu hcv)
        have L1:=elD_lt hR (hU4.rl _ D1)
        have L2:=elD_lt hR (hU4.rl _ D2)
        clear hA hF4 hU4 hE4 hC4 hcu hcv HS1 cB cC hgu hgv HG
        go_wp2_with fail
        refine wp_region_rg (X:=X) (o:=o) (R:=R) (ro:=r4) (h:=a4) (M:=M4) (by kernel_rfl) (by kernel_rfl) (Uh HA) ?_
        repeat (go_big_quiet_step ((first | (go_at_call 147; rename_i x'; exact x'.elem _ _ (by assumption) (by assumption)) | (go_at_call 146; rename_i x'; exact x'.root _ hR (by assumption)))))
        refine wpQuiet_nil ?_
        rintro _ ⟨xE,rfl⟩
        obtain ⟨pf6,hF6,hU6⟩:=xE.arr
        have hfr:=xE.frc
        clear Fu Fv hNE HA
        generalize xE.w = w6 at *
        have hro1:pf6 (r4 (elN u a)) = r4 (elN u a):=hU6.fx _ D1
        obtain ⟨ra,hra⟩:∃ y,r4 (elN u a) = y:=⟨_,rfl⟩
        obtain ⟨rb,hrb⟩:∃ y,r4 (elN v b) = y:=⟨_,rfl⟩
        rw [hra] at L1 hro1
        rw [hrb] at L2
        have hw16:IntKind.i16.wrap (rb:Int) = (rb:Int):=by simp [IntKind.wrap,IntKind.bits,IntKind.signed]; omega
        have L1':(ra:Int) < 16384:=by omega
        have HT6:=Hj (show ∀ W',RoF W' X o (upF pf6 ra rb) → FrC X o wb W' → GwI X o R cs st cols wb W' u (i + 1) from fun W' k1 k2 => GwI.take hR (Uh HM).2 hU6 (Uh HE4) hlt hv2 (Uh HV1) (Uh HIN) (Uh HCU).2 (Uh HCU).1 haR hbR (by rw [hra,hrb]; exact k1) k2)
        have HF6:=Hj hF6
        have HC6:=Hj ((Uh HC4).trans hfr)
        have HCh6:=Hj ((Uh HCh).trans (hfr.chg.mono (fun j _ e => .inl e)))
        have HCh6':=Hj hfr.chg
        simp only [hra,hrb]
        clear hU6 hF6 hfr hra hrb HE4 HC4
        have HCl6:=Hj (show ClC w6 wb.heap.size _ (u * 128 + i) from by
         obtain ⟨n,xs,k1,k2⟩:=Uh HCl
         exact ⟨n,xs,k1,ownsRow_chg k2 (Uh HCh6') (fun j hj e => by
          have:=(own_ge k2 j hj).1
          have:=Uh HB
          have e':j = X:=e
          have:=(Uh HB).size
          omega)⟩)
        have hXB:X < wb.heap.size:=by have:=(Uh HB).size; omega
        by_cases hab:ra = rb
        ·have d3:((ra:Int) == (rb:Int)) = true:=by simp [hab]
         obtain ⟨nn,xs,hnn,hown6⟩:=Uh HCl6
         have hle6:wb.heap.size ≤ w6.heap.size:=(Uh HC6).chg.size
         have HOw:=Hj hown6
         have hmx:nn + 1 ≤ maxLen:=by unfold maxLen; omega
         have hby:(nn + 1) * 16 ≤ 140737488355328:=by omega
         have hone:∀ z ∈ [Value.int .i64 (u:Int),Value.int .i64 (v:Int)],z.oneCell' = true:=by intro z hz; simp at hz; rcases hz with rfl | rfl <;> rfl
         clear hown6 hab
         go_wp2_with (at_builtin; refine wpList_append_lies _ rfl _ _ 204 rfl wb.heap.size 206 i2 _ 2 16 Tryz.underlying204 (Uh HI).1 (Uh HI).2.1 (Uh HI).2.2.1 (Uh HI).2.2.2 rfl (by decide) _ nn xs rfl ((Uh HOw).alloc _) ⟨w6.heap.size,0,none⟩ 1 1 [.int .i64 (u:Int),.int .i64 (v:Int)] rfl rfl (World.news_of_block (alloc_block _ _)) hone (by decide) hmx hby (by simp; omega) (w6.heap.size + 1) (by simp) ?_)
         intro g7 cap7 w7 hown hg7 hat hlt7
         have k67:Chg (fun j => wb.heap.size ≤ j) w6 w7:=(Chg.of_alloc w6 _).trans (Chg.of_grown hg7 (fun k hk => (own_ge (Uh HOw) k hk).1))
         have hF7:=(Uh HF6).chg k67 (fun e => by have e':wb.heap.size ≤ X:=e; omega)
         have hC7:=(Uh HC6).grow k67 hXB
         have c0:=(hF7 ra L1).1
         have f0:=(hF7 ra L1).2
         have HG7:=Hj (Uh HT6 _ (hF7.put ra rb L1) (hC7.trans (FrC.of_set X o w7 ra _)))
         have HCl7:=Hj (show ∀ k,k = i + 1 → ClC (w7.setCell ⟨X,o + ra,none⟩ (.int .i16 (rb:Int))) wb.heap.size _ (u * 128 + k) from fun k hk => ⟨_,_,by omega,ownsRow_chg hown (Chg.of_set (S:=fun j => j = X) _ _ _ _ rfl) (fun j hj e => by have:=(own_ge hown j hj).1; have e':j = X:=e; omega)⟩)
         have HCh7:=Hj (((Uh HCh6).trans (k67.mono (fun j _ e => .inr e))).trans (Chg.of_set (S:=fun j => j = X ∨ wb.heap.size ≤ j) w7 X (o + ra) (.int .i16 (rb:Int)) (.inl rfl)))
         clear HT6 HF6 HC6 hown hg7 hat hlt7 k67 hF7 hC7 HOw
         go_wp2_with fail
         exact ⟨⟨i + 1,by omega,by (first | rfl | go_num),Hj (Uh HCl7 _ rfl),HG7,HCh7⟩,by simp [intOf]; omega⟩
        ·have d3:((ra:Int) == (rb:Int)) = false:=by simp; omega
         have c0:=(Uh HF6 ra L1).1
         have f0:=(Uh HF6 ra L1).2
         have HG7:=Hj (Uh HT6 _ ((Uh HF6).put ra rb L1) ((Uh HC6).trans (FrC.of_set X o w6 ra _)))
         have HCl7:=Hj (show ∀ k,k = i + 1 → ClC (w6.setCell ⟨X,o + ra,none⟩ (.int .i16 (rb:Int))) wb.heap.size _ (u * 128 + k) from fun k hk => by
          obtain ⟨n,xs,k1,k2⟩:=Uh HCl6
          exact ⟨n,xs,by omega,ownsRow_chg k2 (Chg.of_set (S:=fun j => j = X) _ _ _ _ rfl) (fun j hj e => by have:=(own_ge k2 j hj).1; have e':j = X:=e; omega)⟩)
         have HCh7:=Hj ((Uh HCh6).trans (Chg.of_set (S:=fun j => j = X ∨ wb.heap.size ≤ j) w6 X (o + ra) (.int .i16 (rb:Int)) (.inl rfl)))
         clear HT6 HF6 HC6
         go_wp2_with fail
         exact ⟨⟨i + 1,by omega,by (first | rfl | go_num),Hj (Uh HCl7 _ rfl),HG7,HCh7⟩,by simp [intOf]; omega⟩
    ·obtain rfl:i = m:=by omega
     have hin':¬ (i:Int) < (i:Int):=by omega
     have HE:=Hj (show ∃ pf' ro h M,RoF wr X o pf' ∧ UfI (elD R) pf' ro h M ∧ UfE (adG st cols R) cs R ro (fun p q => adG st cols R p q ∧ p ≤ q ∧ p < u + 1) ∧ FrC X o wb wr from by
      obtain ⟨p,r,a,M,k1,k2,k3,k4⟩:=Uh HG
      refine ⟨p,r,a,M,k1,k2,k3.more (fun x y a' b' he _ _ => ⟨he.1,he.2.1,?_⟩),k4⟩
      by_cases e:x = u
      ·right
       subst e
       obtain ⟨j,hj,ej⟩:=mem_getD.1 ((rowL_mem (Uh HM).1 hlt).2 he.1.2.2)
       exact ⟨rfl,j,by rw [← Uh HMM]; exact hj,ej⟩
      ·exact .inl (by omega))
     have HCl1:=Hj (show ClC wr wb.heap.size _ ((u + 1) * 128) from by
      obtain ⟨n,xs,k1,k2⟩:=Uh HCl
      exact ⟨n,xs,by omega,k2⟩)
     clear HG HCl
     go_wp2_with fail
     exact ⟨⟨u + 1,by omega,by (first | rfl | go_num),HCl1,HE⟩,by simp [intOf]; omega⟩
  ·obtain rfl:u = R:=by omega
   have hlt':¬ (u:Int) < (u:Int):=by omega
   have HE:=Hj (show ∃ pf' ro h M,RoF wr X o pf' ∧ UfI (elD u) pf' ro h M ∧ UfE (adG st cols u) cs u ro (fun p q => adG st cols u p q ∧ p ≤ q) ∧ FrC X o w wr from ⟨pf0,ro0,h0,M0,hF0,hU0,hE0.more (fun p q a b h _ _ => ⟨h.1,h.2,h.1.1⟩),(Uh HC0).trans hC0⟩)
   clear hF0 hU0 hE0 hC0 hbx
   go_wp2_with fail
   try go_ret
   exact ⟨⟨_,rfl⟩,Uh HE⟩
theorem own_hold {w:World} {base n:Nat} {v:Value} {xs:List Int} (h:w.ownsRow base 3 1 v n (valsI xs)) (hn:0 < n):∃ g cap,v = .slice (some ⟨g,0,none⟩) n cap ∧ n ≤ cap ∧ base ≤ g ∧ g < w.heap.size ∧ Sort.Holds (Value.int .i64) w g 0 xs.toArray:=by
 have hl:xs.length = n:=by have:=h.1; simpa [valsI] using this
 rcases h.2 with ⟨h2,h3⟩ | ⟨b,cap,cur,rfl,h4,h5,h6,h7,h8,h9⟩
 ·exfalso; omega
 ·refine ⟨b,cap,rfl,h6,h4,(Array.getElem?_eq_some_iff.1 h5).1,fun j hj => ?_⟩
  have hj':j < n:=by simp at hj; omega
  refine ⟨?_,by simp [World.frozen?,h5]⟩
  rw [Nat.zero_add,cell_of_block h5]
  have:(cur.toList.take (n * 1))[j]? = (valsI xs)[j]?:=by rw [h9]
  rw [List.getElem?_take_of_lt (by omega)] at this
  rw [← Array.getElem?_toList,this]
  simp [valsI,show j < xs.length by omega]
theorem chg_put {enc:Int → Value} (w:World) (n blk off:Nat) (d:Array Int):Chg (fun j => j = blk) w (Sort.putRow enc (Sort.ahead w n) blk off d) :=
 ⟨rfl,rfl,rfl,by simp,fun k hk hs => by
  show (w.heap.modify blk _)[k]? = _
  rw [Array.getElem?_modify,if_neg (fun e => hs e.symm)]⟩
theorem chg_growS (w:World) (os:Array Obj):Chg (fun _ => False) w (Sort.grow w os) :=
 ⟨rfl,rfl,rfl,by simp,fun k hk _ => Sort.heap_grow_old w os hk⟩
set_option maxRecDepth 100000 in
theorem csort_own (g n cap:Nat) (zs:List Int) (w:World) (hl:zs.length = n) (hn:n ≤ 128) (hH:Sort.Holds (Value.int .i64) w g 0 zs.toArray) (hg:g < w.heap.size) :
  Calls Tryz.prog 132 #[.slice (some ⟨g,0,none⟩) n cap] w fun e w' => (∃ z,e = .returned z) ∧ Sort.Holds (Value.int .i64) w' g 0 (zs.mergeSort fun x y => decide (x ≤ y)).toArray ∧ Chg (fun j => j = g) w w':=by
 subst hl
 refine (ssort_int g 0 cap zs w hH hg (by omega)).mono ?_
 rintro e w' ⟨rfl,q,os,rfl⟩
 refine ⟨⟨_,rfl⟩,?_,(chg_put w q g 0 _).trans ((chg_growS _ os).mono (fun _ _ x => x.elim))⟩
 exact Sort.holds_grow _ _ os g 0 _ (by simpa using hg) (Sort.holds_putRow _ _ g 0 zs.toArray _ (Sort.holds_ahead _ w q g 0 _ hH) (by simp [List.length_mergeSort]))
set_option maxRecDepth 100000 in
theorem ccompact_own (g n cap:Nat) (zs:List Int) (w:World) (hl:zs.length = n) (hn:n ≤ 128) (hc:n ≤ cap) (hH:Sort.Holds (Value.int .i64) w g 0 (zs.mergeSort fun x y => decide (x ≤ y)).toArray) :
  Calls Tryz.prog 148 #[.slice (some ⟨g,0,none⟩) n cap] w fun e w' => ∃ m,e = .returned (.slice (some ⟨g,0,none⟩) m cap) ∧ (m < n ↔ ¬ zs.Nodup) ∧ m ≤ n ∧ Chg (fun j => j = g) w w':=by
 have hl2:(zs.mergeSort fun x y => decide (x ≤ y)).length = n:=by rw [List.length_mergeSort,hl]
 have h:=scompact_int g 0 cap (zs.mergeSort fun x y => decide (x ≤ y)) w hH (by omega) (by omega)
 rw [hl2] at h
 refine h.mono ?_
 rintro e w' ⟨rfl,q,rfl⟩
 refine ⟨_,rfl,?_,?_,chg_put w q g 0 _⟩
 ·have:=compact_short zs
  unfold Lib.compact
  rw [List.length_mergeSort]
  rw [hl] at this ⊢
  exact this
 ·unfold Lib.compact Lib.compactUpTo
  rw [List.length_map]
  have:=(filt_len (Lib.keeps (zs.mergeSort fun x y => decide (x ≤ y)).toArray) (zs.mergeSort fun x y => decide (x ≤ y)).length).1
  omega
theorem map_snoc {f:Int → Int} {L:List Int} {j x:Nat} (hj:j < L.length) (hx:L.getD j 0 = (x:Int)):(L.take (j + 1)).map f = (L.take j).map f ++ [f (x:Int)]:=by
 rw [List.take_add_one,List.map_append]
 congr 1
 rw [List.getElem?_eq_getElem hj]
 have:L[j] = (x:Int):=by rw [← hx]; simp [List.getD,hj]
 simp [this]
set_option maxRecDepth 100000 in
set_option maxHeartbeats 16000000 in
theorem canyj_any (X R k:Nat) (a:Option Addr) (n c:Nat) (L:List Int) (pf ro h:Nat → Nat) (M:Nat) (w:World) (hR:R ≤ 128) (hF:RoF w X 16 pf) (hU:UfI (elD R) pf ro h M) (hL:SlI w a n c L) (hLr:∀ i,i < n → 0 ≤ L.getD i 0 ∧ L.getD i 0 < (R:Int)) (hk:k < R) (hn:n ≤ 128) (oL:∀ z,a = some z → L ≠ [] → z.block ≠ X) (ok:Bool) (hok:TruQ ok (¬ (L.map (fun u => ((ro (elN u.toNat k):Nat):Int))).Nodup)) :
  Calls Tryz.prog 134 #[.pointer (some ⟨X,0,none⟩),.slice a n c,.int .i64 (k:Int)] w fun e w' => e = .returned (.bool ok) ∧ (∃ pf',RoF w' X 16 pf' ∧ UfI (elD R) pf' ro h M) ∧ FrC X 16 w w':=by
 have hXw:X < w.heap.size:=World.block_lt_of_cell? _ _ (hF 0 (by decide)).1
 have HA:=Hj (show ∃ pf',RoF w X 16 pf' ∧ UfI (elD R) pf' ro h M from ⟨pf,hF,hU⟩)
 have HL:=Hj hL
 have HLR:=Hj hLr
 have HOL:=Hj oL
 have HOK:=Hj hok
 have hln:=hL.len
 obtain ⟨i64,hi,hz,hs,hb⟩:=info_parts Tryz.info_i64
 have HI:=Hj (And.intro hi (And.intro hz (And.intro hs hb)))
 have hone:∀ y:Int,∀ z ∈ [Value.int .i64 y],z.oneCell' = true:=by intro y z hz; simp at hz; subst hz; rfl
 obtain ⟨f,hf⟩:∃ f:Int → Int,f = (fun u => ((ro (elN u.toNat k):Nat):Int)):=⟨_,rfl⟩
 rw [← hf] at HOK
 have HFF:=Hj hf
 clear hF hU hL hLr oL hok hi hz hs hb hf
 go_enter Tryz.func134,Tryz.ntmps134
 go_wp2_with fail
 go_loopw [12,7] (fun jv lv wr => ∃ j:Nat,j ≤ n ∧ jv = .int .i64 (j:Int) ∧ Hid (wr.ownsRow w.heap.size 3 1 lv ((L.take j).map f).length (valsI ((L.take j).map f))) ∧ Hid ((∃ pf',RoF wr X 16 pf' ∧ UfI (elD R) pf' ro h M) ∧ FrC X 16 w wr)) (fun jv _ _ => n - (intOf jv).toNat)
 case atStart => exact ⟨0,Nat.zero_le _,rfl,Hj (by simpa [valsI] using World.ownsRow_nil w w.heap.size 3 1),Hj ⟨Uh HA,FrC.refl _ _ _⟩⟩
 case round =>
  obtain ⟨j,hj,rfl,HO,HW⟩:=hrel
  by_cases hlt:j < n
  ·have hlt':(j:Int) < (n:Int):=by omega
   obtain ⟨bb,off,e1,hc⟩:=((Uh HL).chg (Uh HW).2.chg (fun z hz hne => Uh HOL z hz hne)).at (by omega)
   subst e1
   have sk:=hc j hlt
   have hg:=Uh HLR j hlt
   obtain ⟨x,hx⟩:∃ x:Nat,L.getD j 0 = (x:Int):=⟨(L.getD j 0).toNat,by omega⟩
   rw [hx] at sk hg
   have hxR:x < R:=by omega
   have HSN:=Hj (map_snoc (f:=f) (L:=L) (j:=j) (x:=x) (by omega) hx)
   have hcl:((L.take j).map f).length ≤ 128:=by rw [List.length_map,List.length_take]; omega
   obtain ⟨C,hC⟩:∃ C,(L.take j).map f = C:=⟨_,rfl⟩
   rw [hC] at HO hcl HSN
   clear hc hg hx hC
   have HE:=Hj (celement_any x k)
   have KR:=Hj (fun W (b:Below wr.heap.size wr W) => (show Calls Tryz.prog 146 #[.pointer (some ⟨X,16,none⟩),.int .i64 (elN x k:Int)] W fun e w' => e = .returned (.int .i64 (ro (elN x k):Int)) ∧ (∃ pf',RoF w' X 16 pf' ∧ UfI (elD R) pf' ro h M) ∧ FrC X 16 w w' ∧ FrC X 16 wr w' from by
    obtain ⟨⟨p,k1,k2⟩,k3⟩:=Uh HW
    have hXr:X < wr.heap.size:=World.block_lt_of_cell? _ _ (k1 0 (by decide)).1
    exact (croot_any X 16 R (elN x k) p ro h M W hR (k1.below b) k2 (elN_D hR hxR hk)).mono (fun e w' ⟨h1,p',h2,h3,h4⟩ => ⟨h1,⟨p',h2,h3⟩,(k3.trans (FrC.of_below b hXr)).trans h4,(FrC.of_below b hXr).trans h4⟩)))
   have hx8:x < 128:=by omega
   have hk8:k < 128:=by omega
   have HNX:=Hj (show ∀ k,u7.ownBlock = some k → ¬ (k = X) from fun k hk e => by have:=(own_ge (Uh HO) k hk).1; omega)
   obtain ⟨rr,hrr⟩:∃ rr:Int,((ro (elN x k):Nat):Int) = rr:=⟨_,rfl⟩
   have hfx:f (x:Int) = rr:=by rw [Uh HFF,← hrr]; simp
   rw [hrr] at KR
   rw [hfx] at HSN
   obtain ⟨el,hel⟩:∃ el:Int,((elN x k:Nat):Int) = el:=⟨_,rfl⟩
   rw [hel] at KR HE
   have hmx:C.length + 1 ≤ maxLen:=by unfold maxLen; omega
   have hby:(C.length + 1) * 8 ≤ 140737488355328:=by omega
   clear hel hrr hfx
   go_wp2_with fail
   refine anyTill_region (fun _ => True) 10 (by kernel_rfl) ?_
   refine anyTill_take (i:=0) (v:=?_) rfl rfl (by kernel_rfl) (by kernel_rfl) (by kernel_rfl) (by kernel_rfl) (fun _ _ _ h => h) (Or.inl ⟨by rfl,?_⟩) trivial ?_
   rotate_left 1
   ·intro W hSw
    go_simp
    try with_reducible rfl
   refine anyTill_take (i:=1) (v:=?_) rfl rfl (by kernel_rfl) (by kernel_rfl) (by kernel_rfl) (by kernel_rfl) (fun _ _ _ h => h) (Or.inl ⟨by rfl,?_⟩) trivial ?_
   rotate_left 1
   ·intro W hSw
    go_simp
    try with_reducible rfl
   refine anyTill_take (i:=2) (v:=?_) rfl rfl (by kernel_rfl) (by kernel_rfl) (by kernel_rfl) (by kernel_rfl) (fun _ _ _ h => h) (Or.inl ⟨by rfl,?_⟩) trivial ?_
   rotate_left 1
   ·intro W hSw
    go_simp
    try with_reducible rfl
   refine anyTill_take (i:=3) (v:=?_) rfl rfl (by kernel_rfl) (by kernel_rfl) (by kernel_rfl) (by kernel_rfl) (fun _ _ _ h => h) (Or.inl ⟨by rfl,?_⟩) trivial ?_
   rotate_left 1
   ·intro W hSw
    go_simp
    try with_reducible rfl
   refine anyTill_take (i:=4) (v:=?_) rfl rfl (by kernel_rfl) (by kernel_rfl) (by kernel_rfl) (by kernel_rfl) (fun _ _ _ h => h) (Or.inl ⟨by rfl,?_⟩) trivial ?_
   rotate_left 1
   ·intro W hSw
    go_simp
    try with_reducible rfl
   refine anyTill_take (i:=5) (v:=?_) rfl rfl (by kernel_rfl) (by kernel_rfl) (by kernel_rfl) (by kernel_rfl) (fun _ _ _ h => h) (Or.inl ⟨by rfl,?_⟩) trivial ?_
   rotate_left 1
   ·intro W hSw
    go_simp
    try with_reducible rfl
   refine anyTill_one (i:=6) (by kernel_rfl) rfl (by rfl) (fun K hK => ?_)
   go_simp
   refine (Uh HE _ hx8 hk8).mono ?_
   rintro _ w4 ⟨rfl,hw4⟩
   have b4:Below wr.heap.size wr w4:=by rw [hw4]; exact (Below.refl _ _).drew
   clear hw4 HE
   refine hK _ _ (fun _ => trivial) ?_
   clear hK K
   refine anyTill_one (i:=7) (by kernel_rfl) rfl (by rfl) (fun K hK => ?_)
   go_simp
   refine (Uh KR _ b4).mono ?_
   rintro _ w5 ⟨rfl,hA5,hC5,hD5⟩
   have HA5:=Hj (And.intro hA5 hC5)
   have HO5:=Hj (show w5.ownsRow w.heap.size 3 1 u7 C.length (valsI C) from ownsRow_chg (Uh HO) hD5.chg (Uh HNX))
   clear hA5 hC5 hD5 KR
   refine hK _ _ (fun _ => trivial) ?_
   clear hK K
   refine anyTill_one (i:=8) (by kernel_rfl) rfl (by rfl) (fun K hK => ?_)
   go_simp
   refine hK _ _ (fun _ => trivial) ?_
   clear hK K
   have hsz:w.heap.size ≤ w5.heap.size:=(Uh HA5).2.chg.size
   refine anyTill_one (i:=9) (by kernel_rfl) rfl (by rfl) (fun K hK => ?_)
   refine wp_append_lies _ _ _ 23 rfl w.heap.size 3 i64 (.int .i64 0) 1 8 Tryz.underlying23 (Uh HI).1 (Uh HI).2.1 (Uh HI).2.2.1 (Uh HI).2.2.2 rfl (by decide) u7 C.length (valsI C) rfl ((Uh HO5).alloc _) ⟨w5.heap.size,0,none⟩ 1 1 [.int .i64 rr] rfl rfl (World.news_of_block (alloc_block _ _)) (hone _) (by decide) hmx hby (by simp <;> omega) (w5.heap.size + 1) (by simp) ?_
   intro g2 cap w6 hown hgr hat hlt6
   have HN6:=Hj (show w6.ownsRow w.heap.size 3 1 (.slice (some ⟨g2,0,none⟩) (C.length + 1) cap) ((L.take (j + 1)).map f).length (valsI ((L.take (j + 1)).map f)) from by
    rw [Uh HSN]
    simpa [valsI] using hown)
   have HC6:=Hj (show (∃ pf',RoF w6 X 16 pf' ∧ UfI (elD R) pf' ro h M) ∧ FrC X 16 w w6 from by
    have c6:Chg (fun j => w.heap.size ≤ j) w5 w6:=(Chg.of_below (bAl)).trans (Chg.of_grown hgr (fun k hk => (own_ge (Uh HO5) k hk).1))
    obtain ⟨⟨p,k1,k2⟩,k3⟩:=Uh HA5
    exact ⟨⟨p,k1.chg c6 (by omega),k2⟩,k3.grow c6 hXw⟩)
   clear hown hgr hat hlt6
   refine hK _ _ (fun _ => trivial) ?_
   clear hK K
   refine anyTill_one (i:=10) (by kernel_rfl) rfl (by rfl) (fun K hK => ?_)
   go_simp
   refine hK _ _ (fun h => absurd rfl h) ?_
   clear hK K
   refine anyTill_done (by kernel_rfl) ?_
   go_wp2_with fail
   exact ⟨⟨j + 1,by omega,by (first | rfl | go_num),HN6,HC6⟩,by simp [intOf]; omega⟩
  ·obtain rfl:j = n:=by omega
   have hlt':¬ (j:Int) < (j:Int):=by omega
   have ho:=Uh HO
   have eL:L.take j = L:=by rw [← hln]; exact List.take_length
   rw [eL] at ho
   obtain ⟨rs,hrs⟩:∃ rs,L.map f = rs:=⟨_,rfl⟩
   have hrl:rs.length = j:=by rw [← hrs,List.length_map,hln]
   rw [hrs] at ho HOK
   rw [hrl] at ho
   have HO2:=Hj ho
   clear HO ho hrs eL
   have HT:=Hj (show ∀ W,Chg (fun q => w.heap.size ≤ q) wr W → (∃ pf',RoF W X 16 pf' ∧ UfI (elD R) pf' ro h M) ∧ FrC X 16 w W from fun W c6 => by
    obtain ⟨⟨p,k1,k2⟩,k3⟩:=Uh HW
    exact ⟨⟨p,k1.chg c6 (by omega),k2⟩,k3.grow c6 hXw⟩)
   by_cases h0:j = 0
   ·obtain ⟨a0,c0,rfl,hs0⟩:=own_slI (Uh HO2)
    have hk0:ok = false:=by
     have hr0:rs = []:=List.eq_nil_of_length_eq_zero (by omega)
     have:=Uh HOK
     rw [hr0] at this
     rw [Bool.eq_false_iff]
     intro e
     exact this.1 e List.nodup_nil
    have KS:=Hj (ssort_none a0 c0 wr)
    have KC:=Hj (fun W => scompact_int_empty a0 c0 W)
    have HT0:=Hj (Uh HT wr (Chg.refl _ _))
    subst hk0
    have e0:(j:Int) = 0:=by omega
    rw [← h0] at KS KC
    have hj0:¬ (j:Int) < (j:Int):=by omega
    clear hs0 HO2 h0 e0 HT HOK HL HLR HOL hln hrl
    go_wp2_with fail
    refine (Uh KS).mono ?_
    rintro _ w2 ⟨rfl,hw2⟩
    rw [← hw2] at HT0
    clear hw2 KS
    go_wp2_with fail
    refine (Uh KC w2).mono ?_
    rintro _ w3 ⟨rfl,hw3⟩
    rw [← hw3] at HT0
    clear hw3 KC
    go_wp2_with fail
    try go_ret
    exact ⟨rfl,Uh HT0⟩
   ·obtain ⟨g,cap,rfl,hcap,hgb,hgw,hH⟩:=own_hold (Uh HO2) (by omega)
    have KS:=Hj (csort_own g j cap rs wr hrl hn hH hgw)
    clear hH HO2
    go_wp2_with fail
    refine (Uh KS).mono ?_
    rintro _ w2 ⟨⟨z0,rfl⟩,hH2,hC2⟩
    have KC:=Hj (ccompact_own g j cap rs w2 hrl hn hcap hH2)
    have HC2:=Hj hC2
    clear KS hH2 hC2
    go_wp2_with fail
    refine (Uh KC).mono ?_
    rintro _ w3 ⟨m,rfl,hm,hmj,hC3⟩
    have HT3:=Hj (Uh HT w3 (((Uh HC2).trans hC3).mono (fun q _ e => by rw [e]; exact hgb)))
    have hd:decide ((m:Int) < (j:Int)) = ok:=by
     have h1:=Uh HOK
     by_cases c1:m < j
     ·have:ok = true:=h1.2 (hm.1 c1)
      rw [this]; simp; omega
     ·have:ok = false:=by
       rw [Bool.eq_false_iff]
       intro e
       exact c1 (hm.2 (h1.1 e))
      rw [this]; simp; omega
    clear KC hm hC3 HC2 HT HOK
    go_wp2_with fail
    try go_ret
    exact ⟨by simpa using hd,Uh HT3⟩
theorem BrI.frc {W W':World} {X R:Nat} {vs:List Value} {b1:Option Addr} {m1 d1:Nat} {b2:Option Addr} {m2 d2:Nat} {g h cnt:Nat} {cs ls:Nat → Int} {st cols:List Int} (k:BrI W X R vs b1 m1 d1 b2 m2 d2 g h cnt cs ls st cols) (c:FrC X 16 W W') (hl:vs.length ≤ 16):BrI W' X R vs b1 m1 d1 b2 m2 d2 g h cnt cs ls st cols :=
 ⟨c.box k.box hl,k.v9,k.v10,k.v11,k.v12,k.v13,k.v14,k.v15,k.col.chg c.chg k.ne.2.1,k.last.chg c.chg k.ne.2.2,k.s1.chg c.chg (fun z hz hne => (k.o1 z hz hne).1),k.s2.chg c.chg (fun z hz hne => (k.o2 z hz hne).1),k.o1,k.o2,k.ne⟩
structure BcP (w w':World) (X R:Nat) (vs:List Value) (b1:Option Addr) (m1 d1:Nat) (b2:Option Addr) (m2 d2:Nat) (g h cnt:Nat) (cs ls:Nat → Int) (st cols:List Int) (v:Nat) (ls':Nat → Int):Prop where
 bru:BrI w' X R vs b1 m1 d1 b2 m2 d2 g h cnt cs ls' st cols
 mks:MkI ls ls' cnt R (BarA st cols R cs v)
 arr:∃ pf,RoF w' X 16 pf
 chg:Chg (fun j => j = h ∨ j = X) w w'
set_option maxRecDepth 100000 in
set_option maxHeartbeats 16000000 in
theorem cbarC_any (X R:Nat) (vs:List Value) (b1:Option Addr) (m1 d1:Nat) (b2:Option Addr) (m2 d2:Nat) (g h cnt:Nat) (cs ls:Nat → Int) (st cols:List Int) (v:Nat) (w:World) (hB:BrI w X R vs b1 m1 d1 b2 m2 d2 g h cnt cs ls st cols) (hvl:vs.length ≤ 16) (pf:Nat → Nat) (hF:RoF w X 16 pf) (hm:MayP (R:Int) (R:Int) st cols) (hg:GraP st cols R R) (hpr:PrpC st cols R cs) (hv:v < R) (hb1:m1 ≤ 17592186044000) (hb2:m2 ≤ 17592186044000) (hcs:∀ i,i < R → -1 ≤ cs i ∧ cs i < (R:Int)) (hls:∀ k,k < R → ls k ≤ (cnt:Int)) :
  Calls Tryz.prog 104 #[.pointer (some ⟨X,0,none⟩),.int .i64 (v:Int)] w fun e w' => (∃ z,e = .returned z) ∧ ∃ ls',BcP w w' X R vs b1 m1 d1 b2 m2 d2 g h cnt cs ls st cols v ls':=by
 have hR8:R ≤ 128:=by have:=hm.head.fit; omega
 have hXw:X < w.heap.size:=World.block_lt_of_cell? _ _ (hF 0 (by decide)).1
 have KN:=Hj (cbarN_any X R vs b1 m1 d1 b2 m2 d2 g h cnt cs ls st cols v w hB hm hv hb1 hb2 hcs hls)
 have HF:=Hj hF
 have HM:=Hj (And.intro hm (And.intro hg (And.intro hpr hcs)))
 have HNE:=Hj hB.ne
 have hXh:X ≠ h:=fun e => hB.ne.2.2 e.symm
 clear hB hF hm hg hpr hcs hls
 go_enter Tryz.func104,Tryz.ntmps104
 go_wp2_with fail
 refine (Uh KN).mono ?_
 rintro _ w1 ⟨⟨z0,rfl⟩,ls1,hB1,hM1,hC1⟩
 have q9:=(hB1.box.all 9 _ hB1.v9).1
 have q10:=(hB1.box.all 10 _ hB1.v10).1
 have q11:=(hB1.box.all 11 _ hB1.v11).1
 have q12:=(hB1.box.all 12 _ hB1.v12).1
 have q13:=(hB1.box.all 13 _ hB1.v13).1
 have HB1:=Hj hB1
 have HM1:=Hj hM1
 have HC1:=Hj hC1
 have KG:=Hj (fun W (b:Below w1.heap.size w1 W) => cgrow_any X 16 R pf b1 m1 d1 b2 m2 d2 g cs st cols W (((Uh HF).chg hC1 hXh).below b) (Nat.lt_of_lt_of_le hXw (Nat.le_trans hC1.size b.size)) (hB1.s1.below b) (hB1.s2.below b) hb1 hb2 (Uh HM).1 (Uh HM).2.1 (hB1.col.below b) (Uh HM).2.2.2 (fun z hz hne => (hB1.o1 z hz hne).1) (fun z hz hne => (hB1.o2 z hz hne).1) hB1.ne.2.1)
 unfold patV at KG
 clear KN hB1 hM1 hC1
 go_wp2_with fail
 go_region_held3 (fun w' => w'.cell? ⟨X,9,none⟩ = some (.int .i64 (R:Int)) ∧ w'.cell? ⟨X,10,none⟩ = some (.int .i64 (R:Int)) ∧ w'.cell? ⟨X,11,none⟩ = some (.slice b1 m1 d1) ∧ w'.cell? ⟨X,12,none⟩ = some (.slice b2 m2 d2) ∧ w'.cell? ⟨X,13,none⟩ = some (.slice (some ⟨g,0,none⟩) R R)) (first | (exact ⟨k9,k10,k11,k12,k13⟩) | go_keep)
  ((go_at_call 130; refine (Uh KG _ (by first | exact Below.refl _ _ | exact (Below.refl _ _).drew)).mono ?_; rintro _ w2 ⟨⟨z1,rfl⟩,pf2,ro,hh,M,hF2,hU2,hE2,hC2⟩; have HF2:=Hj (And.intro (show ∃ pf,RoF w2 X 16 pf ∧ UfI (elD R) pf ro hh M from ⟨pf2,hF2,hU2⟩) hE2); have hC2':=(show FrC X 16 w1 w2 from (by first | exact hC2 | exact (FrC.refl _ _ _).drew.trans hC2)); have hB2:=(Uh HB1).frc hC2' hvl; have k9:=(hB2.box.all 9 _ hB2.v9).1; have k10:=(hB2.box.all 10 _ hB2.v10).1; have k11:=(hB2.box.all 11 _ hB2.v11).1; have k12:=(hB2.box.all 12 _ hB2.v12).1; have k13:=(hB2.box.all 13 _ hB2.v13).1; have HC2:=Hj hC2'; clear hF2 hU2 hE2 hC2 hC2'))
 have HB2:=Hj hB2
 have KC:=Hj (ccoloured_any X R vs b1 m1 d1 b2 m2 d2 g h cnt cs ls1 st cols v w2 hB2 (Uh HM).1 hv hb1 hb2)
 clear KG q9 q10 q11 q12 q13 hB2 k9 k10 k11 k12 k13
 go_wp2_with fail
 refine (Uh KC).mono ?_
 rintro _ w3 ⟨a,c,rfl,hs3,hnew,b3⟩
 have hB3:=(Uh HB2).below b3
 have q13:=(hB3.box.all 13 _ hB3.v13).1
 have KM:=Hj (cnumber_any (some ⟨g,0,none⟩) R R (csL cs R) w3 (hB3.col.sli hR8) hR8 (fun i hi => by rw [csL_get hi]; have:=((Uh HM).2.2.2 i hi).2; omega) (fun e => by cases e))
 have HB3:=Hj hB3
 have HB3':=Hj b3
 have HS3:=Hj hs3
 have HNEW:=Hj hnew
 have hcl:(cldL cs (rowL st cols v)).length ≤ 128:=Nat.le_trans (cldL_len _ _) (Nat.le_trans (row_lenF (Uh HM).1 hv) hR8)
 have HLR:=Hj (show ∀ i,i < (cldL cs (rowL st cols v)).length → 0 ≤ (cldL cs (rowL st cols v)).getD i 0 ∧ (cldL cs (rowL st cols v)).getD i 0 < (R:Int) from fun i hi => by
  have:=cld_rng (Uh HM).1 hv (cs:=cs) (u:=(cldL cs (rowL st cols v)).getD i 0) (mem_getD.2 ⟨i,hi,rfl⟩)
  exact ⟨this.1,this.2.1⟩)
 have HRA:=Hj (fun k (hk:k < R) hb => roots_alike (k:=k) (Uh HM).1 (Uh HM).2.1 hv hk (Uh HM).2.2.2 (Uh HM).2.2.1 (Uh HF2).2 hb)
 obtain ⟨NL,hNL⟩:∃ NL,cldL cs (rowL st cols v) = NL:=⟨_,rfl⟩
 rw [hNL] at HS3 hcl HLR HRA ⊢
 clear KC hB3 b3 hs3 hnew hNL
 go_wp2_with fail
 refine (Uh KM).mono ?_
 rintro _ w4 ⟨zi,rfl,hN,b4⟩
 obtain ⟨hz0,hzk,hzu⟩:=numC_rng hN (Uh HM).2.2.2
 obtain ⟨z,rfl⟩:∃ z:Nat,zi = (z:Int):=⟨zi.toNat,by omega⟩
 have hzR:z ≤ R:=by omega
 have HZU:=Hj hzu
 have HB4:=Hj ((Uh HB3).below b4)
 have HS4:=Hj ((Uh HS3).below b4)
 have HA4:=Hj (show ∃ pf,RoF w4 X 16 pf ∧ UfI (elD R) pf ro hh M from by
  obtain ⟨p,k1,k2⟩:=(Uh HF2).1
  exact ⟨p,(k1.below (Uh HB3')).below b4,k2⟩)
 have HC4:=Hj (show Chg (fun j => j = h ∨ j = X) w w4 from ((((Uh HC1).mono (fun j _ e => .inl e)).trans ((Uh HC2).chg.mono (fun j _ e => .inr e))).trans (Chg.of_below (Uh HB3'))).trans (Chg.of_below b4))
 have HOL:=Hj (show ∀ x,a = some x → NL ≠ [] → x.block ≠ X ∧ x.block ≠ h from fun x hx _ => by
  have h1:=Uh HNEW x hx
  have h2:X < w2.heap.size:=(Uh HB2).box.lt
  have h3:=World.block_lt_of_cell? _ _ ((Uh HB2).last 0 (by omega)).1
  simp at h3
  omega)
 clear KM HB3 HS3 HB3' hN b4 hz0 hzk hzu q13 HNEW HB2 HF2 HC2 HB1
 go_wp2_with fail
 go_loopw [30] (fun kv wr => ∃ k:Nat,k ≤ z ∧ kv = .int .i64 (k:Int) ∧ Hid (∃ ls',BrI wr X R vs b1 m1 d1 b2 m2 d2 g h cnt cs ls' st cols ∧ MkI ls ls' cnt R (fun j => BarN st cols cs v j ∨ (j < k ∧ CirP st cols R cs v j)) ∧ (∃ pf,RoF wr X 16 pf ∧ UfI (elD R) pf ro hh M) ∧ Chg (fun j => j = h ∨ j = X) w4 wr)) (fun kv _ => z - (intOf kv).toNat)
 case atStart => exact ⟨0,Nat.zero_le _,rfl,Hj ⟨ls1,Uh HB4,(Uh HM1).same (fun k p => .inl p) (fun k _ q => .inl (q.elim id (fun q => absurd q.1 (Nat.not_lt_zero _)))),Uh HA4,Chg.refl _ _⟩⟩
 case round =>
  obtain ⟨k,hk,rfl,HK⟩:=hrel
  obtain ⟨ls3,hbr,hmk,har,hch⟩:=Uh HK
  by_cases hlt:k < z
  ·have hlt':(k:Int) < (z:Int):=by omega
   have hkR:k < R:=by omega
   have q14:=(hbr.box.all 14 _ hbr.v14).1
   have q15:=(hbr.box.all 15 _ hbr.v15).1
   have hly:=hbr.last k hkR
   have KH:=Hj (chas_any X 14 h R (cnt:Int) k (ls3 k) wr q14 q15 hkR hR8 hly.1)
   obtain ⟨hs,hhs⟩:∃ hs,(ls3 k == (cnt:Int)) = hs:=⟨_,rfl⟩
   rw [hhs] at KH
   have HHS:=Hj hhs
   have HB5:=Hj hbr
   have HM5:=Hj hmk
   have HA5:=Hj har
   have HC5:=Hj hch
   clear hbr hmk har hch q14 q15 hly hhs HK
   cases hs
   ·have hnb:¬ BarN st cols cs v k:=fun hb => by
     have h1:=((Uh HM5).iff k hkR).2 (.inr (.inl hb))
     have h2:=Uh HHS
     rw [h1] at h2
     simp at h2
    obtain ⟨ok,hok⟩:=truth (CirP st cols R cs v k)
    have HOK:=Hj (show TruQ ok (CirP st cols R cs v k) from hok)
    have HNB:=Hj hnb
    have KJ:=Hj (show ∀ W,Below wr.heap.size wr W → Calls Tryz.prog 134 #[.pointer (some ⟨X,0,none⟩),.slice a NL.length c,.int .i64 (k:Int)] W fun e w' => e = .returned (.bool ok) ∧ (∃ pf',RoF w' X 16 pf' ∧ UfI (elD R) pf' ro hh M) ∧ FrC X 16 W w' from fun W b => by
     obtain ⟨p,k1,k2⟩:=Uh HA5
     exact canyj_any X R k a NL.length c NL p ro hh M W hR8 (k1.below b) k2 (((Uh HS4).chg (Uh HC5) (fun x hx hne e => by have:=Uh HOL x hx hne; rcases e with e | e <;> omega)).below b) (Uh HLR) hkR hcl (fun x hx hne => (Uh HOL x hx hne).1) ok (hok.trans (Uh HRA k hkR hnb).symm))
    clear hok hnb
    go_wp2_with fail
    refine (Uh KH).mono ?_
    rintro _ w5 ⟨rfl,b5⟩
    have KJ2:=Hj (Uh KJ w5 b5)
    have HB6:=Hj ((Uh HB5).below b5)
    have HC6:=Hj ((Uh HC5).trans (Chg.of_below b5))
    clear KH KJ b5
    go_wp2_with fail
    refine (Uh KJ2).mono ?_
    rintro _ w6 ⟨rfl,hA6,hC6⟩
    have hB7:=(Uh HB6).frc hC6 hvl
    have HC7:=Hj ((Uh HC6).trans (hC6.chg.mono (fun j _ e => .inr e)))
    have HA7:=Hj hA6
    have HB7:=Hj hB7
    clear KJ2 hA6 hC6
    cases ok
    ·clear hB7
     go_wp2_with fail
     exact ⟨⟨k + 1,by omega,by (first | rfl | go_num),Hj ⟨ls3,Uh HB7,(Uh HM5).same (fun j p => p.imp_right (fun p => ⟨by omega,p.2⟩)) (fun j _ q => .inl (q.imp_right (fun q => ⟨by
      have:=q.1
      by_cases e:j = k
      ·subst e; exact absurd ((Iff.mpr (Uh HOK)) q.2) (by decide)
      ·omega,q.2⟩))),Uh HA7,Uh HC7⟩⟩,by simp [intOf]; omega⟩
    ·have q14:=(hB7.box.all 14 _ hB7.v14).1
     have q15:=(hB7.box.all 15 _ hB7.v15).1
     have hly:=hB7.last k hkR
     have KS:=Hj (cset_any X 14 h R (cnt:Int) k (.int .i64 (ls3 k)) w6 q14 q15 hkR hR8 hly.1 hly.2)
     clear q14 q15 hly hB7
     go_wp2_with fail
     refine (Uh KS).mono ?_
     rintro _ w7 ⟨⟨z7,rfl⟩,c7,r7⟩
     have HB8:=Hj (show BrI w7 X R vs b1 m1 d1 b2 m2 d2 g h cnt cs (fun i => if i = k then (cnt:Int) else ls3 i) st cols from (Uh HB7).chg c7 ((r7 _ (Uh HB7).last).congr (fun i hi => by by_cases e:i = k <;> simp [e])))
     have HA8:=Hj (show ∃ pf,RoF w7 X 16 pf ∧ UfI (elD R) pf ro hh M from by obtain ⟨p,k1,k2⟩:=Uh HA7; exact ⟨p,k1.chg c7 hXh,k2⟩)
     have HC8:=Hj ((Uh HC7).trans (c7.mono (fun j _ e => .inl e)))
     clear KS c7 r7
     go_wp2_with fail
     exact ⟨⟨k + 1,by omega,by (first | rfl | go_num),Hj ⟨_,Uh HB8,(Uh HM5).put (y:=k) (fun j => ⟨fun q => q.elim (fun q => .inl (.inl q)) (fun q => by
      by_cases e:j = k
      ·exact .inr e
      ·exact .inl (.inr ⟨by have:=q.1; omega,q.2⟩)),fun q => q.elim (fun q => q.imp_right (fun p => ⟨by omega,p.2⟩)) (fun e => .inr ⟨by omega,by rw [e]; exact Iff.mp (Uh HOK) rfl⟩)⟩),Uh HA8,Uh HC8⟩⟩,by simp [intOf]; omega⟩
   ·go_wp2_with fail
    refine (Uh KH).mono ?_
    rintro _ w5 ⟨rfl,b5⟩
    have HB6:=Hj ((Uh HB5).below b5)
    have HA6:=Hj (show ∃ pf,RoF w5 X 16 pf ∧ UfI (elD R) pf ro hh M from by obtain ⟨p,k1,k2⟩:=Uh HA5; exact ⟨p,k1.below b5,k2⟩)
    have HC6:=Hj ((Uh HC5).trans (Chg.of_below b5))
    clear KH b5
    go_wp2_with fail
    exact ⟨⟨k + 1,by omega,by (first | rfl | go_num),Hj ⟨ls3,Uh HB6,(Uh HM5).same (fun j p => p.imp_right (fun p => ⟨by omega,p.2⟩)) (fun j _ q => by
     by_cases e:j = k
     ·right
      have:=Uh HHS
      subst e
      simpa using this
     ·exact .inl (q.imp_right (fun q => ⟨by have:=q.1; omega,q.2⟩))),Uh HA6,Uh HC6⟩⟩,by simp [intOf]; omega⟩
  ·obtain rfl:k = z:=by omega
   have hlt':¬ (k:Int) < (k:Int):=by omega
   have HFI:=Hj (show BcP w wr X R vs b1 m1 d1 b2 m2 d2 g h cnt cs ls st cols v ls3 from ⟨hbr,hmk.same (fun j p => p.imp_right (fun p => p.2)) (fun j hj q => .inl (q.imp_right (fun q => ⟨by
    obtain ⟨i,hi,he⟩:=BarA.used (Uh HM).1 (Uh HM).2.2.1 hv (.inr q)
    have:=Uh HZU i hi
    omega,q⟩))),by obtain ⟨p,k1,_⟩:=har; exact ⟨p,k1⟩,(Uh HC4).trans hch⟩)
   clear hbr hmk har hch HK
   go_wp2_with fail
   try go_end0
   exact ⟨⟨_,rfl⟩,ls3,Uh HFI⟩
end Go.Proofs.YtgjokididdffhaaGreat
