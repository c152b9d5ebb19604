/- Cxe -/
import Derived.Test.YtgjokididdffhaaGreatCv4
import Derived.Test.YtgjokididdffhaaGreatCxd
namespace Go.Proofs.YtgjokididdffhaaGreat
open Go.RowKit Go.Deep
set_option linter.unusedVariables false
theorem own_mono9 {w:World} {base base':Nat} {e:TypeId} {s:Nat} {v:Value} {n:Nat} {xs:List Value} (h:w.ownsRow base e s v n xs) (hb:base' ≤ base):w.ownsRow base' e s v n xs:=⟨h.1,h.2.imp id (fun ⟨g,cap,cur,q,hg,r⟩ => ⟨g,cap,cur,q,Nat.le_trans hb hg,r⟩)⟩
def prV (cl:List (Nat × Nat)):List Value:=cl.flatMap (fun p => [.int .i64 (p.1:Int),.int .i64 (p.2:Int)])
def ClL (W:World) (B:Nat) (v:Value) (k:Nat) (cl:List (Nat × Nat)):Prop:=cl.length ≤ k ∧ W.ownsRow B 206 2 v cl.length (prV cl)
def GzI (X o R:Nat) (cs:Nat → Int) (st cols:List Int) (wb W:World) (u i:Nat) (cl:List (Nat × Nat)):Prop:=∃ pf' ro h M,RoF W X o pf' ∧ UfI (elD R) pf' ro h M ∧ UfE (EdS st cols R u i) cs R ro (EdN st cols R u i) ∧ ClE st cols R cs u i cl ∧ FrC X o wb W
section
variable {st cols:List Int} {R:Nat} {cs:Nat → Int}
theorem EdN.zero {p q:Nat}:¬ EdN st cols R 0 0 p q:=by
 rintro ⟨_,_,h | ⟨_,j,hj,_⟩⟩ <;> omega
theorem ClE.zero:ClE st cols R cs 0 0 []:=by
 refine ⟨fun p hp => absurd hp (by simp),fun c d _ _ _ f => absurd (fun S hS hc v hv => ?_) f⟩
 obtain ⟨p,q,_,_,_,h,_⟩:=hc v hv
 exact h.elim EdN.zero EdN.zero
theorem EdN.row {u:Nat} (hm:MayP (R:Int) (R:Int) st cols) (hu:u < R):EdN st cols R (u + 1) 0 = EdN st cols R u (rowL st cols u).length:=by
 funext p q
 apply propext
 unfold EdN
 constructor
 ·rintro ⟨h1,h2,h3 | ⟨_,j,hj,_⟩⟩
  ·refine ⟨h1,h2,?_⟩
   by_cases e:p = u
   ·subst e
    obtain ⟨j,hj,e⟩:=mem_getD.1 ((rowL_mem hm hu).2 h1.2.2)
    exact .inr ⟨rfl,j,hj,e⟩
   ·exact .inl (by omega)
  ·omega
 ·rintro ⟨h1,h2,h3 | ⟨h3,_⟩⟩
  ·exact ⟨h1,h2,.inl (by omega)⟩
  ·exact ⟨h1,h2,.inl (by omega)⟩
theorem GzI.row {X o u:Nat} {wb W:World} {cl:List (Nat × Nat)} (hm:MayP (R:Int) (R:Int) st cols) (hu:u < R) (h:GzI X o R cs st cols wb W u (rowL st cols u).length cl):GzI X o R cs st cols wb W (u + 1) 0 cl:=by
 have e1:=EdN.row hm hu
 have e2:EdS st cols R (u + 1) 0 = EdS st cols R u (rowL st cols u).length:=by
  funext p q
  unfold EdS
  rw [e1]
 obtain ⟨pf,r,a,M,k1,k2,k3,k5,k4⟩:=h
 refine ⟨pf,r,a,M,k1,k2,by rw [e1,e2]; exact k3,⟨fun p hp => by rw [e2]; exact k5.edge p hp,fun c d h1 h2 h3 f => by rw [e2] at f; exact k5.all c d h1 h2 h3 f⟩,k4⟩
theorem EdS.up {u i p q:Nat} (k:EdS st cols R u i p q):EdS st cols R u (i + 1) p q:=k.imp (fun k => EdN.next.2 (.inl k)) (fun k => EdN.next.2 (.inl k))
theorem GzI.skip {X o u i:Nat} {wb W:World} {cl:List (Nat × Nat)} (h:GzI X o R cs st cols wb W u i cl) {v:Nat} (hv:(rowL st cols u).getD i 0 = (v:Int)) (hs:v < u ∨ cs u = -1 ∨ cs v = -1):GzI X o R cs st cols wb W u (i + 1) cl:=by
 obtain ⟨pf,r,a,M,k1,k2,k3,k5,k4⟩:=h
 have old:∀ p q,0 ≤ cs p → 0 ≤ cs q → EdN st cols R u (i + 1) p q → EdN st cols R u i p q:=fun p q hp hq k => by
  rcases EdN.next.1 k with k | ⟨_,h2,rfl,h4⟩
  ·exact k
  ·exfalso
   have e:q = v:=by omega
   subst e
   rcases hs with hs | hs | hs <;> omega
 refine ⟨pf,r,a,M,k1,k2,⟨fun x hx => (k3.link x hx).more (fun _ _ k => k.up),fun p q a' b' he ea eb => k3.edge p q a' b' (old p q (by omega) (by omega) he) ea eb⟩,k5.congr (fun p q hp hq => ⟨fun k => k.imp (old p q hp hq) (old q p hq hp),EdS.up⟩),k4⟩
theorem GzI.take {X o u i:Nat} {wb W':World} {pf ro h:Nat → Nat} {M:Nat} {cl:List (Nat × Nat)} (hR:R ≤ 128) (hg:GraP st cols R R) (hU:UfI (elD R) pf ro h M) (hE:UfE (EdS st cols R u i) cs R ro (EdN st cols R u i)) {v a b:Nat} (hu:u < R) (hv:v < R) (huv:u ≤ v) (hv2:(rowL st cols u).getD i 0 = (v:Int)) (hI:InC st cols v u) (ea:cs v = (a:Int)) (eb:cs u = (b:Int)) (ha:a < R) (hb:b < R) (hcl:ClE st cols R cs u (i + 1) cl) (hF':RoF W' X o (upF pf (ro (elN u a)) (ro (elN v b)))) (hC:FrC X o wb W'):GzI X o R cs st cols wb W' u (i + 1) cl:=by
 have D1:=elN_D hR hu ha
 have D2:=elN_D hR hv hb
 obtain ⟨h',M',hJ⟩:=hU.join (hU.rl _ D1) (hU.rl _ D2) (hU.fx _ D1) (hU.fx _ D2)
 have hE2:UfE (EdS st cols R u (i + 1)) cs R ro (EdN st cols R u i):=⟨fun x hx => (hE.link x hx).more (fun _ _ k => k.up),hE.edge⟩
 refine ⟨_,_,h',M',hF',hJ,(hE2.step EdS.sy hR hu hv ea eb ha hb (.inl (EdN.next.2 (.inr ⟨⟨hu,hv,hI⟩,huv,rfl,hv2⟩)))).more (fun x y a' b' he _ _ => ?_),hcl,hC⟩
 rcases EdN.next.1 he with k | ⟨_,_,k1,k2⟩
 ·exact .inl k
 ·exact .inr ⟨k1,by omega⟩
structure ClF (st cols:List Int) (R:Nat) (cs:Nat → Int) (cl:List (Nat × Nat)):Prop where
 edge:∀ p ∈ cl,adG st cols R p.1 p.2 ∧ 0 ≤ cs p.1 ∧ 0 ≤ cs p.2 ∧ ¬ FoP (adG st cols R) (TwC cs R (cs p.1) (cs p.2))
 all:∀ c d:Int,0 ≤ c → 0 ≤ d → c ≠ d → ¬ FoP (adG st cols R) (TwC cs R c d) → ∃ p ∈ cl,(cs p.1 = c ∧ cs p.2 = d) ∨ (cs p.1 = d ∧ cs p.2 = c)
end
def GzP (X o R:Nat) (cs:Nat → Int) (st cols:List Int) (w w':World) (e:Ending):Prop:=∃ v cl,e = .returned v ∧ w'.ownsRow w.heap.size 206 2 v cl.length (prV cl) ∧ ClF st cols R cs cl ∧ FrC X o w w'
theorem ClE.last {st cols:List Int} {R:Nat} {cs:Nat → Int} {cl:List (Nat × Nat)} (hg:GraP st cols R R) (h:ClE st cols R cs R 0 cl):ClF st cols R cs cl:=by
 have e:EdS st cols R R 0 = adG st cols R:=by
  funext p q
  apply propext
  refine ⟨fun k => k.ad hg,fun k => ?_⟩
  rcases Nat.le_total p q with c | c
  ·exact .inl ⟨k,c,.inl k.1⟩
  ·exact .inr ⟨adG.sy hg _ _ k,c,.inl k.2.1⟩
 exact ⟨fun p hp => ⟨(h.edge p hp).1,(h.edge p hp).2.1,(h.edge p hp).2.2.1,fun f => (h.edge p hp).2.2.2 (by rw [e]; exact f)⟩,fun c d h1 h2 h3 f => h.all c d h1 h2 h3 (by rw [e]; exact f)⟩
set_option maxRecDepth 100000 in
set_option maxHeartbeats 16000000 in
theorem cgrowC_any (X o R:Nat) (pf:Nat → Nat) (a1:Option Addr) (n1 c1:Nat) (a2:Option Addr) (n2 c2:Nat) (g:Nat) (cs:Nat → Int) (st cols:List Int) (w:World) (hF:RoF w X o pf) (hX:X < w.heap.size) (h1:SlI w a1 n1 c1 st) (h2:SlI w a2 n2 c2 cols) (hb1:n1 ≤ 17592186044000) (hb2:n2 ≤ 17592186044000) (hm:MayP (R:Int) (R:Int) st cols) (hg:GraP st cols R R) (hc:RoV w g R (fun i => .int .i64 (cs i))) (hcs:∀ i,i < R → -1 ≤ cs i ∧ cs i < (R:Int)) (hpr:∀ p q,adG st cols R p q → 0 ≤ cs p → cs p ≠ cs q) (o1:∀ z,a1 = some z → st ≠ [] → z.block ≠ X) (o2:∀ z,a2 = some z → cols ≠ [] → z.block ≠ X) (hgX:g ≠ X) :
  Calls Tryz.prog 130 #[.pointer (some ⟨X,o,none⟩),patV (R:Int) (R:Int) a1 n1 c1 a2 n2 c2,.slice (some ⟨g,0,none⟩) R R] w fun e w' => GzP X o R cs st cols w w' e:=by
 have hR:R ≤ 128:=by have:=hm.head.fit; omega
 obtain ⟨wb,hwb⟩:∃ x,w.alloc (.cells #[.int .i64 (R:Int),.int .i64 (R:Int),.slice a1 n1 c1,.slice a2 n2 c2] 25) = x:=⟨_,rfl⟩
 have bb:Below w.heap.size w wb:=by rw [← hwb]; exact bAl
 have hT:=BoxP.made w #[.int .i64 (R:Int),.int .i64 (R:Int),.slice a1 n1 c1,.slice a2 n2 c2] 25
 rw [hwb] at hT
 have p0:=(hT.all 0 _ rfl).1
 have hXb:w.heap.size ≠ X:=by omega
 have KP:=Hj (cpart_any X o R pf wb hR (hF.below bb))
 have HB:=Hj bb
 have HT:=Hj hT
 have HC0:=Hj (FrC.of_below (X:=X) (o:=o) bb hX)
 have HS:=Hj (And.intro (h1.below bb) (h2.below bb))
 have HC:=Hj (hc.below bb)
 have HM:=Hj (And.intro hm hg)
 have HCS:=Hj hcs
 have HPR:=Hj hpr
 have HO:=Hj (And.intro o1 o2)
 clear hT bb h1 h2 hc hm hg hcs hF o1 o2 hpr
 unfold patV
 go_enter Tryz.func130,Tryz.ntmps130
 go_wp2_with fail
 refine (Uh KP).mono ?_
 rintro _ w2 ⟨⟨z0,rfl⟩,pf2,hF2,hid,hC2⟩
 have HN:=Hj (show ∀ W,Chg (fun j => j = X) wb W → BoxP W w.heap.size [.int .i64 (R:Int),.int .i64 (R:Int),.slice a1 n1 c1,.slice a2 n2 c2] ∧ SlI W a1 n1 c1 st ∧ SlI W a2 n2 c2 cols ∧ RoV W g R (fun i => .int .i64 (cs i)) from fun W k => ⟨(Uh HT).chg k hXb,(Uh HS).1.chg k (fun z hz hn => (Uh HO).1 z hz hn),(Uh HS).2.chg k (fun z hz hn => (Uh HO).2 z hz hn),(Uh HC).chg k hgX⟩)
 have HI0:=Hj (show GzI X o R cs st cols wb w2 0 0 [] from ⟨pf2,_,_,_,hF2,UfI.alone hid,UfE.none.more (fun u v a b h _ _ => absurd h EdN.zero),ClE.zero,hC2⟩)
 have p0:=((Uh HN w2 hC2.chg).1.all 0 _ rfl).1
 clear KP hF2 hid hC2
 go_wp2_with fail
 clear p0
 obtain ⟨i2,hi,hz,hs,hb⟩:=info_parts info_two
 have HI:=Hj (And.intro hi (And.intro hz (And.intro hs hb)))
 clear hi hz hs hb
 go_loopw [19,7] (fun uv cv wr => ∃ (u:Nat) (cl:List (Nat × Nat)),u ≤ R ∧ uv = .int .i64 (u:Int) ∧ Hid (ClL wr wb.heap.size cv (u * 128) cl) ∧ Hid (GzI X o R cs st cols wb wr u 0 cl)) (fun uv _ _ => R - (intOf uv).toNat)
 case atStart => exact ⟨0,[],Nat.zero_le _,rfl,Hj ⟨Nat.zero_le _,World.ownsRow_nil _ _ _ _⟩,HI0⟩
 case round =>
  obtain ⟨u,cl,hu,rfl,HCl,HU⟩:=hrel
  obtain ⟨pf0,ro0,h0,M0,hF0,hU0,hE0,hL0,hC0⟩:=Uh HU
  have hbx:=Uh HN wr hC0.chg
  have p0:=(hbx.1.all 0 _ rfl).1
  have p1:=(hbx.1.all 1 _ rfl).1
  have p2:=(hbx.1.all 2 _ rfl).1
  have p3:=(hbx.1.all 3 _ rfl).1
  by_cases hlt:u < R
  ·have hlt':(u:Int) < (R:Int):=by omega
   have KR:=Hj (crow_list R (R:Int) a1 a2 n1 c1 n2 c2 st cols u wr hbx.2.1 hbx.2.2.1 hb1 hb2 (Uh HM).1 hlt)
   unfold patV at KR
   clear hF0 hU0 hE0 hL0 hC0 hbx
   go_wp2_with fail
   refine (Uh KR).mono ?_
   rintro _ w4 ⟨aN,cN,rfl,hsN,hlN,hbN,b4⟩
   have HCh0:=Hj (show Chg (fun j => j = X) wr w4 from Chg.of_below b4)
   have HNr:=Hj (show ∀ W,Chg (fun j => j = X ∨ wb.heap.size ≤ j) w4 W → SlI W aN (rowL st cols u).length cN (rowL st cols u) from fun W k => hsN.chg k (fun z hz hn e => by
    obtain ⟨t,e1,e2⟩:=hbN z hz hn
    rw [← e2] at e
    rcases e with e | e
    ·exact (Uh HO).2 t e1 (rowL_some hn) e
    ·rcases (Uh HS).2.cells with c | ⟨b,off,c1,c2⟩
     ·exact rowL_some hn c
     ·rw [e1] at c1
      have hlt:=World.block_lt_of_cell? _ _ (c2 0 (by have:=rowL_some hn; cases cols with | nil => exact absurd rfl this | cons _ _ => simp))
      have:t.block = b:=by cases c1; rfl
      have hlt':b < wb.heap.size:=hlt
      omega))
   have HG0:=Hj (show GzI X o R cs st cols wb w4 u 0 cl from by
    obtain ⟨p,r,a,M,k1,k2,k3,k5,k4⟩:=Uh HU
    have hXr:X < wr.heap.size:=World.block_lt_of_cell? _ _ (k1 0 (by decide)).1
    exact ⟨p,r,a,M,k1.below b4,k2,k3,k5,k4.trans (FrC.of_below b4 hXr)⟩)
   have HCl0:=Hj (show ClL w4 wb.heap.size _ (u * 128 + 0) cl from ⟨(Uh HCl).1,ownsRow_chg (S:=fun _ => False) (Uh HCl).2 (.of_below b4) (fun _ _ => id)⟩)
   have hm128:(rowL st cols u).length ≤ 128:=by
    exact Nat.le_trans (row_lenF (Uh HM).1 hlt) hR
   obtain ⟨m,hm⟩:∃ m,(rowL st cols u).length = m:=⟨_,rfl⟩
   have HMM:=Hj hm
   rw [hm] at hlN hm128 HNr ⊢
   clear KR hsN hbN b4 hm p0 p1 p2 p3 HU HCl
   go_wp2_with fail
   go_loopw [26,7] (fun iv cv wr => ∃ (i:Nat) (cl:List (Nat × Nat)),i ≤ m ∧ iv = .int .i64 (i:Int) ∧ Hid (ClL wr wb.heap.size cv (u * 128 + i) cl) ∧ Hid (GzI X o R cs st cols wb wr u i cl) ∧ Hid (Chg (fun j => j = X ∨ wb.heap.size ≤ j) w4 wr)) (fun iv _ _ => m - (intOf iv).toNat)
   case atStart => exact ⟨0,cl,Nat.zero_le _,rfl,HCl0,HG0,Hj (Chg.refl _ _)⟩
   case round =>
    obtain ⟨i,cl,hi,rfl,HCl,HG,HCh⟩:=hrel
    by_cases hin:i < m
    ·have hin':(i:Int) < (m:Int):=by omega
     obtain ⟨v,hv1,hv2⟩:=row_atF (Uh HM).1 hlt (i:=i) (by rw [Uh HMM]; exact hin)
     have hIn:InC st cols v u:=(rowL_mem (Uh HM).1 hlt).1 (getD_mem (by rw [Uh HMM]; exact hin) hv1)
     obtain ⟨bN,oN,rfl,hcN⟩:=(Uh HNr wr (Uh HCh)).at (by omega)
     have sc:=hcN i hin
     rw [hv1] at sc
     have hgu:=(Uh HCS u hlt)
     have hgv:=(Uh HCS v hv2)
     obtain ⟨p4,r4,a4,M4,hF4,hU4,hE4,hL4,hC4⟩:=Uh HG
     have hro:=(Uh HN wr hC4.chg).2.2.2
     have su:=(hro u hlt).1
     have sv:=(hro v hv2).1
     obtain ⟨cu,hcu⟩:∃ y,cs u = y:=⟨_,rfl⟩
     obtain ⟨cv,hcv⟩:∃ y,cs v = y:=⟨_,rfl⟩
     simp only [hcu] at su
     simp only [hcv] at sv
     have hlt2:(v:Int) < (R:Int):=by omega
     have HS1:=Hj (fun hs => (Uh HG).skip (v:=v) hv1 hs)
     have HCl1:=Hj (show ∀ k,k = i + 1 → ClL wr wb.heap.size _ (u * 128 + k) cl from fun k hk => ⟨by have:=(Uh HCl).1; omega,(Uh HCl).2⟩)
     have HV1:=Hj hv1
     have HIN:=Hj hIn
     clear hcN hro hv1 hIn
     by_cases cA:v < u
     ·have cA':(v:Int) < (u:Int):=by omega
      have HG2:=Hj (Uh HS1 (.inl cA))
      clear hF4 hU4 hE4 hL4 hC4 hcu hcv HS1
      go_wp2_with fail
      exact ⟨⟨i + 1,cl,by omega,by (first | rfl | go_num),Hj (Uh HCl1 _ rfl),HG2,HCh⟩,by simp [intOf]; omega⟩
     ·have cA':¬ (v:Int) < (u:Int):=by omega
      by_cases cB:cu = -1
      ·have d1:(cu == -1) = true:=by simp [cB]
       have HG2:=Hj (Uh HS1 (.inr (.inl (by rw [hcu,cB]))))
       clear hF4 hU4 hE4 hL4 hC4 hcu hcv HS1 cB
       go_wp2_with fail
       exact ⟨⟨i + 1,cl,by omega,by (first | rfl | go_num),Hj (Uh HCl1 _ rfl),HG2,HCh⟩,by simp [intOf]; omega⟩
      ·have d1:(cu == -1) = false:=by simp [cB]
       by_cases cC:cv = -1
       ·have d2:(cv == -1) = true:=by simp [cC]
        have HG2:=Hj (Uh HS1 (.inr (.inr (by rw [hcv,cC]))))
        clear hF4 hU4 hE4 hL4 hC4 hcu hcv HS1 cB cC
        go_wp2_with fail
        exact ⟨⟨i + 1,cl,by omega,by (first | rfl | go_num),Hj (Uh HCl1 _ rfl),HG2,HCh⟩,by simp [intOf]; omega⟩
       ·obtain ⟨b,hb⟩:∃ b:Nat,cu = (b:Int):=⟨cu.toNat,by omega⟩
        obtain ⟨a,ha⟩:∃ a:Nat,cv = (a:Int):=⟨cv.toNat,by omega⟩
        subst hb ha
        have d2:((a:Int) == -1) = false:=by simp
        have hbR:b < R:=by omega
        have haR:a < R:=by omega
        have hu8:u < 128:=by omega
        have hv8:v < 128:=by omega
        have ha8:a < 128:=by omega
        have hb8:b < 128:=by omega
        have D1:=elN_D hR hlt haR
        have D2:=elN_D hR hv2 hbR
        have hA:∃ pf',RoF wr X o pf' ∧ UfI (elD R) pf' r4 a4 M4:=⟨p4,hF4,hU4⟩
        have hNE:=RgX.ne hA
        have Fu:=fun x:RgX wr X o R r4 a4 M4 => x.frc.chg.cell (show ¬ g = X from hgX) su
        have Fv:=fun x:RgX wr X o R r4 a4 M4 => x.frc.chg.cell (show ¬ g = X from hgX) sv
        have HA:=Hj hA
        have HE4:=Hj (And.intro hE4 hL4)
        have HC4:=Hj hC4
        have HCU:=Hj (And.intro hcu hcv)
        have L1:=elD_lt hR (hU4.rl _ D1)
        have L2:=elD_lt hR (hU4.rl _ D2)
        clear hA hF4 hU4 hE4 hL4 hC4 hcu hcv HS1 cB cC hgu hgv HG
        go_wp2_with fail
        refine wp_region_rg (X:=X) (o:=o) (R:=R) (ro:=r4) (h:=a4) (M:=M4) (by kernel_rfl) (by kernel_rfl) (Uh HA) ?_
        repeat (go_big_quiet_step ((first | (go_at_call 147; rename_i x'; exact x'.elem _ _ (by assumption) (by assumption)) | (go_at_call 146; rename_i x'; exact x'.root _ hR (by assumption)))))
        refine wpQuiet_nil ?_
        rintro _ ⟨xE,rfl⟩
        obtain ⟨pf6,hF6,hU6⟩:=xE.arr
        have hfr:=xE.frc
        clear Fu Fv hNE HA
        generalize xE.w = w6 at *
        have hro1:pf6 (r4 (elN u a)) = r4 (elN u a):=hU6.fx _ D1
        obtain ⟨ra,hra⟩:∃ y,r4 (elN u a) = y:=⟨_,rfl⟩
        obtain ⟨rb,hrb⟩:∃ y,r4 (elN v b) = y:=⟨_,rfl⟩
        rw [hra] at L1 hro1
        rw [hrb] at L2
        have hw16:IntKind.i16.wrap (rb:Int) = (rb:Int):=by simp [IntKind.wrap,IntKind.bits,IntKind.signed]; omega
        have L1':(ra:Int) < 16384:=by omega
        have huv9:u ≠ v:=fun e => adG.ir (Uh HM).2 u ⟨hlt,hlt,by have h9:=Uh HIN; rw [← e] at h9; exact h9⟩
        have huv:u < v:=by omega
        have had9:adG st cols R u v:=⟨hlt,hv2,Uh HIN⟩
        have hST:=(Uh HE4).2.step (Uh HM).1 (Uh HM).2 (Uh HPR) hR (Uh HE4).1 hlt hv2 huv had9 (by rw [Uh HMM]; exact hin) (Uh HV1) (Uh HCU).2 (Uh HCU).1 haR hbR
        have HT6:=Hj (show ∀ W' cl',ClE st cols R cs u (i + 1) cl' → RoF W' X o (upF pf6 ra rb) → FrC X o wb W' → GzI X o R cs st cols wb W' u (i + 1) cl' from fun W' cl' k0 k1 k2 => GzI.take hR (Uh HM).2 hU6 (Uh HE4).1 hlt hv2 (by omega) (Uh HV1) (Uh HIN) (Uh HCU).2 (Uh HCU).1 haR hbR k0 (by rw [hra,hrb]; exact k1) k2)
        rw [hra,hrb] at hST
        have HST:=Hj hST
        clear hST huv9 huv had9
        have HF6:=Hj hF6
        have HC6:=Hj ((Uh HC4).trans hfr)
        have HCh6:=Hj ((Uh HCh).trans (hfr.chg.mono (fun j _ e => .inl e)))
        have HCh6':=Hj hfr.chg
        simp only [hra,hrb]
        clear hU6 hF6 hfr hra hrb HE4 HC4
        have HCl6:=Hj (show ClL w6 wb.heap.size _ (u * 128 + i) cl from ⟨(Uh HCl).1,ownsRow_chg (Uh HCl).2 (Uh HCh6') (fun j hj e => by
          have:=(own_ge (Uh HCl).2 j hj).1
          have e':j = X:=e
          have:=(Uh HB).size
          omega)⟩)
        have hXB:X < wb.heap.size:=by have:=(Uh HB).size; omega
        by_cases hab:ra = rb
        ·have d3:((ra:Int) == (rb:Int)) = true:=by simp [hab]
         obtain ⟨hnn,hown6⟩:=Uh HCl6
         have hcl9:=(Uh HST).1 hab
         have HCL9:=Hj hcl9
         obtain ⟨nn,hnne⟩:∃ nn,cl.length = nn:=⟨_,rfl⟩
         obtain ⟨xs,hxs⟩:∃ xs,prV cl = xs:=⟨_,rfl⟩
         have HXN:=Hj (And.intro hnne hxs)
         rw [hnne] at hnn
         rw [hnne,hxs] at hown6
         clear hcl9 hnne hxs HCl6
         have hle6:wb.heap.size ≤ w6.heap.size:=(Uh HC6).chg.size
         have HOw:=Hj hown6
         have hmx:nn + 1 ≤ maxLen:=by unfold maxLen; omega
         have hby:(nn + 1) * 16 ≤ 140737488355328:=by omega
         have hone:∀ z ∈ [Value.int .i64 (u:Int),Value.int .i64 (v:Int)],z.oneCell' = true:=by intro z hz; simp at hz; rcases hz with rfl | rfl <;> rfl
         clear hown6 hab
         go_wp2_with (at_builtin; refine wpList_append_lies _ rfl _ _ 204 rfl wb.heap.size 206 i2 _ 2 16 Tryz.underlying204 (Uh HI).1 (Uh HI).2.1 (Uh HI).2.2.1 (Uh HI).2.2.2 rfl (by decide) _ nn xs rfl ((Uh HOw).alloc _) ⟨w6.heap.size,0,none⟩ 1 1 [.int .i64 (u:Int),.int .i64 (v:Int)] rfl rfl (World.news_of_block (alloc_block _ _)) hone (by decide) hmx hby (by simp; omega) (w6.heap.size + 1) (by simp) ?_)
         intro g7 cap7 w7 hown hg7 hat hlt7
         have k67:Chg (fun j => wb.heap.size ≤ j) w6 w7:=(Chg.of_alloc w6 _).trans (Chg.of_grown hg7 (fun k hk => (own_ge (Uh HOw) k hk).1))
         have hF7:=(Uh HF6).chg k67 (fun e => by have e':wb.heap.size ≤ X:=e; omega)
         have hC7:=(Uh HC6).grow k67 hXB
         have c0:=(hF7 ra L1).1
         have f0:=(hF7 ra L1).2
         have HG7:=Hj (Uh HT6 _ _ (Uh HCL9) (hF7.put ra rb L1) (hC7.trans (FrC.of_set X o w7 ra _)))
         have HCl7:=Hj (show ∀ k,k = i + 1 → ClL (w7.setCell ⟨X,o + ra,none⟩ (.int .i16 (rb:Int))) wb.heap.size _ (u * 128 + k) (cl ++ [(u,v)]) from fun k hk => ⟨by rw [List.length_append,(Uh HXN).1]; simp; omega,by
          have h9:=ownsRow_chg hown (Chg.of_set (S:=fun j => j = X) w7 X (o + ra) (.int .i16 (rb:Int)) rfl) (fun j hj e => by have:=(own_ge hown j hj).1; have e':j = X:=e; omega)
          rw [← (Uh HXN).2] at h9
          have e1:(cl ++ [(u,v)]).length = nn + 1:=by rw [List.length_append,(Uh HXN).1]; rfl
          have e2:prV (cl ++ [(u,v)]) = prV cl ++ [.int .i64 (u:Int),.int .i64 (v:Int)]:=by unfold prV; simp
          rw [e1,e2]
          exact h9⟩)
         have HCh7:=Hj (((Uh HCh6).trans (k67.mono (fun j _ e => .inr e))).trans (Chg.of_set (S:=fun j => j = X ∨ wb.heap.size ≤ j) w7 X (o + ra) (.int .i16 (rb:Int)) (.inl rfl)))
         clear HT6 HF6 HC6 hown hg7 hat hlt7 k67 hF7 hC7 HOw
         go_wp2_with fail
         exact ⟨⟨i + 1,_,by omega,by (first | rfl | go_num),Hj (Uh HCl7 _ rfl),HG7,HCh7⟩,by simp [intOf]; omega⟩
        ·have d3:((ra:Int) == (rb:Int)) = false:=by simp; omega
         have c0:=(Uh HF6 ra L1).1
         have f0:=(Uh HF6 ra L1).2
         have HG7:=Hj (Uh HT6 _ _ ((Uh HST).2 hab) ((Uh HF6).put ra rb L1) ((Uh HC6).trans (FrC.of_set X o w6 ra _)))
         have HCl7:=Hj (show ∀ k,k = i + 1 → ClL (w6.setCell ⟨X,o + ra,none⟩ (.int .i16 (rb:Int))) wb.heap.size _ (u * 128 + k) cl from fun k hk => ⟨by have:=(Uh HCl6).1; omega,ownsRow_chg (Uh HCl6).2 (Chg.of_set (S:=fun j => j = X) _ _ _ _ rfl) (fun j hj e => by have:=(own_ge (Uh HCl6).2 j hj).1; have e':j = X:=e; omega)⟩)
         have HCh7:=Hj ((Uh HCh6).trans (Chg.of_set (S:=fun j => j = X ∨ wb.heap.size ≤ j) w6 X (o + ra) (.int .i16 (rb:Int)) (.inl rfl)))
         clear HT6 HF6 HC6
         go_wp2_with fail
         exact ⟨⟨i + 1,_,by omega,by (first | rfl | go_num),Hj (Uh HCl7 _ rfl),HG7,HCh7⟩,by simp [intOf]; omega⟩
    ·obtain rfl:i = m:=by omega
     have hin':¬ (i:Int) < (i:Int):=by omega
     have HE:=Hj (show GzI X o R cs st cols wb wr (u + 1) 0 cl from GzI.row (Uh HM).1 hlt (by rw [Uh HMM]; exact Uh HG))
     have HCl1:=Hj (show ClL wr wb.heap.size _ ((u + 1) * 128) cl from ⟨by have:=(Uh HCl).1; omega,(Uh HCl).2⟩)
     clear HG HCl
     go_wp2_with fail
     exact ⟨⟨u + 1,cl,by omega,by (first | rfl | go_num),HCl1,HE⟩,by simp [intOf]; omega⟩
  ·obtain rfl:u = R:=by omega
   have hlt':¬ (u:Int) < (u:Int):=by omega
   have hOw:=own_mono9 (Uh HCl).2 (Uh HB).size
   have HE:=Hj (And.intro hOw (And.intro (ClE.last (Uh HM).2 hL0) ((Uh HC0).trans hC0)))
   clear hOw
   clear hF0 hU0 hE0 hL0 hC0 hbx
   go_wp2_with fail
   try go_ret
   exact ⟨_,cl,rfl,(Uh HE).1,(Uh HE).2.1,(Uh HE).2.2⟩
end Go.Proofs.YtgjokididdffhaaGreat
