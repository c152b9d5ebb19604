/- Wia -/
import Derived.Test.YtmnlhnmlgncedaaGreatDoorWi9
import Derived.Test.YtmnlhnmlgncedaaGreatDoorRq0
import Derived.Test.YtmnlhnmlgncedaaGreatDoorRa6
import Derived.Deep.RegionHeld3
namespace Go.Proofs.YtmnlhnmlgncedaaGreatDoor
open Go.RowKit Go.Deep
set_option linter.unusedVariables false
theorem wide_lt {w:World} {a:Option Addr} {n c v:Nat} {ps:List Pc} (h:Wide w a n c v ps):v < wD ^ n:=by
 rw [← h.val,wv_sF ps n (by rw [h.sl.len]; exact Nat.le_refl _)]
 exact sF_lt wD_pos (fun i _ => (wide_dg h i).2.2.2.2)
theorem wide_ge {w:World} {a:Option Addr} {n c v:Nat} {ps:List Pc} (h:Wide w a n c v ps) (hn:0 < n):wD ^ (n - 1) ≤ v:=by
 have hl:=h.sl.len
 rcases h.top with e | ⟨p,hp,hx⟩
 ·rw [e] at hl; simp at hl; omega
 ·have hlast:ps[n - 1]? = some p:=by rw [List.getLast?_eq_getElem?,hl] at hp; exact hp
  have hmem:=List.mem_of_getElem? hlast
  have hge:=val_ge_of_norm (h.norm p hmem) hx
  have hpos:=pow_pos (p.xs.length - 1)
  have hd:(fun i => val (dgP ps i).xs) (n - 1) ≠ 0:=by
   simp only [dgP,hlast,Option.getD_some]
   omega
  rw [← h.val,wv_sF ps n (by rw [hl]; exact Nat.le_refl _)]
  exact sF_ge (D:=wD) wD_pos (f:=fun i => val (dgP ps i).xs) (i:=n - 1) (n:=n) (by omega) hd
theorem wide_len_le {w:World} {a1 a2:Option Addr} {n1 c1 n2 c2 v1 v2:Nat} {ps qs:List Pc} (h1:Wide w a1 n1 c1 v1 ps) (h2:Wide w a2 n2 c2 v2 qs) (hle:v2 ≤ v1):n2 ≤ n1:=by
 rcases Nat.lt_or_ge n1 n2 with h | h
 ·exfalso
  have k1:=wide_lt h1
  have k2:=wide_ge h2 (by omega)
  have k3:wD ^ n1 ≤ wD ^ (n2 - 1):=Nat.pow_le_pow_right wD_pos (by omega)
  omega
 ·exact h
theorem may_limbs {v:Nat} (h:v < wD * wD):MayL (limbs v) = true:=MayL.mk (limbs_rep v).norm (len_two h)
theorem add_fit {xs ys:List Nat} (m1:MayL xs = true) (m2:MayL ys = true) (h:val xs + val ys < wD * wD):addL xs ys = (limbs (val xs + val ys),0):=by
 unfold addL
 rw [m1,m2]
 exact fitL_ok (by have:=len_two h; omega)
theorem sub_fit {xs ys:List Nat} (m1:MayL xs = true) (m2:MayL ys = true) (h:val ys ≤ val xs):subL xs ys = (limbs (val xs - val ys),0):=by
 unfold subL
 rw [m1,m2]
 simp only [Bool.and_self,if_true]
 rw [if_neg (by omega)]
theorem mn_zero (f h:Nat → Nat) (l:List Pc):sF wD f 0 + wD ^ 0 * val pcNil.xs = sF wD h 0 + wv (l.take 0):=by
 have e:val pcNil.xs = 0:=rfl
 rw [e,Nat.mul_zero,List.take_zero]
 rfl
theorem mn_end {A v1 v2 M b:Nat} (h:v1 + M * b = v2 + A) (hA:A < M) (hle:v2 ≤ v1):A = v1 - v2:=by
 rcases Nat.eq_zero_or_pos b with e | e
 ·subst e; omega
 ·have:M * 1 ≤ M * b:=Nat.mul_le_mul_left M e
  omega
theorem dig_new {w':World} {a:Option Addr} {m c v g B:Nat} (s:Sl w' a m c (limbs v)) (hv:v < wD) (hn:NewAt B a) (hB:g < B):Dig w' g ⟨a,m,c,limbs v⟩ :=
 ⟨s,(limbs_rep v).ok,(limbs_rep v).norm,by have h:=len_oneD hv; have:=s.len; show m ≤ dLimbs; omega,fun _ x hx => by have:=hn x hx; omega⟩
theorem dig_one {w':World} {a:Option Addr} {m c g B:Nat} (s:Sl w' a m c [1]) (hn:NewAt B a) (hB:g < B):Dig w' g ⟨a,m,c,[1]⟩ :=
 ⟨s,fun x hx => by simp at hx; subst hx; decide,.inr (by show ([1]:List Nat).getD (([1]:List Nat).length - 1) 0 ≠ 0; decide),by have:=s.len; show m ≤ dLimbs; rw [dL_eq]; simp at this; omega,fun _ x hx => by have:=hn x hx; omega⟩
theorem RowD.at {w wr:World} {g cap i:Nat} {acc:List Pc} (h:RowD w wr g cap acc) (hi:i < acc.length):(∃ v,wr.cell? ⟨g,i,none⟩ = some v) ∧ wr.frozen? ⟨g,i,none⟩ = false:=by
 rcases h.own with ⟨e0,⟨e,_⟩ | ⟨g',cap',cur,e,q1,q2,q3,q4,q5,q6⟩⟩
 ·cases e
 ·simp only [Value.slice.injEq,Option.some.injEq,Addr.mk.injEq,and_true,true_and] at e
  obtain ⟨rfl,rfl⟩:=e
  have hc:i < cur.size:=by omega
  exact ⟨⟨cur[i],by simp [World.cell?,q2,hc]⟩,by simp [World.frozen?,q2]⟩
theorem may_wD:MayL (limbs wD) = true:=may_limbs (v:=wD) (by
 have h1:=wD_two'
 have h2:wD * 1 < wD * wD:=Nat.mul_lt_mul_of_pos_left (by omega) wD_pos
 rw [Nat.mul_one] at h2
 exact h2)
theorem add_wD {xs:List Nat} (m:MayL xs = true) (h:val xs < wD):addL xs (limbs wD) = (limbs (val xs + wD),0):=by
 have e:=(limbs_rep wD).val
 have h1:=wD_two'
 have hww:4 * wD ≤ wD * wD:=Nat.mul_le_mul_right wD h1
 have k:=add_fit m may_wD (by rw [e]; omega)
 rw [e] at k
 exact k
structure MnI (w wr:World) (g N i:Nat) (f h:Nat → Nat) (acc:List Pc) (bw:Pc):Prop where
 row:RowD w wr g N acc
 len:acc.length = N
 dig:Dig wr g bw
 small:val bw.xs ≤ 1
 sum:sF wD f i + wD ^ i * val bw.xs = sF wD h i + wv (acc.take i)

set_option maxHeartbeats 8000000 in
set_option maxRecDepth 100000 in
theorem minus_any (a1 a2:Option Addr) (n1 c1 n2 c2 v1 v2:Nat) (ps qs:List Pc) (w:World) (h1:Wide w a1 n1 c1 v1 ps) (h2:Wide w a2 n2 c2 v2 qs) (hle:v2 ≤ v1) (hn1:n1 ≤ 1000) :
  Calls Tryz.prog 138 #[.slice a1 n1 c1,.slice a2 n2 c2] w fun e w' => WdPostN n1 w w' (v1 - v2) e:=by
 have hn21:=wide_len_le h1 h2 hle
 have e1:v1 = sF wD (fun i => val (dgP ps i).xs) n1:=by rw [← h1.val]; exact wv_sF ps n1 (by rw [h1.sl.len]; omega)
 have e2:v2 = sF wD (fun i => val (dgP qs i).xs) n1:=by rw [← h2.val]; exact wv_sF qs n1 (by rw [h2.sl.len]; omega)
 have H1:=Hj h1
 have H2:=Hj h2
 have HE:=Hj (And.intro e1 (And.intro e2 hle))
 have hm:=make_wide3 n1 (by omega)
 obtain ⟨wa,hwa⟩:∃ x,w.alloc (.cells (madeCells #[.slice none 0 0] n1) 23) = x:=⟨_,rfl⟩
 have HR0:=Hj (row_nils (n:=n1) (m:=0) hwa (by omega))
 clear h1 h2 e1 e2 hle
 go_enter Tryz.func138,Tryz.ntmps138
 go_wp2_with fail
 clear hm hwa
 go_loopw [15,6,7,8,9] (fun cnt bw _ _ _ wr => ∃ (i:Nat) (acc:List Pc) (B:Pc),i ≤ n1 ∧ cnt = .int .i64 (i:Int) ∧ bw = .slice B.a B.n B.c ∧ MnI w wr w.heap.size n1 i (fun i => val (dgP ps i).xs) (fun i => val (dgP qs i).xs) acc B) (fun cnt _ _ _ _ _ => n1 - (intOf cnt).toNat)
 case atStart => exact ⟨0,List.replicate n1 pcNil,pcNil,Nat.zero_le _,rfl,rfl,⟨by have h:=Uh HR0; rw [Nat.add_zero] at h; exact h,by simp,dig_nil _ _,(by show (0:Nat) ≤ 1; omega),mn_zero _ _ _⟩⟩
 case round =>
  obtain ⟨i,acc,B,hi,rfl,rfl,hst⟩:=hrel
  have HSt:=Hj hst
  have hgl:=hst.row.lt
  by_cases hlti:i < n1
  ·have hlti':(i:Int) < (n1:Int):=by omega
   have hi0:(0:Int) ≤ (i:Int):=by omega
   have W1:=(Uh H1).below hst.row.bel
   have W2:=(Uh H2).below hst.row.bel
   obtain ⟨s1,o1,m1,l1,d1⟩:=wide_dg W1 i
   obtain ⟨s2,o2,m2,l2,d2⟩:=wide_dg W2 i
   obtain ⟨b1,f1,P,rfl,hp,hc1,_,_⟩:=W1.sl.at' hlti
   have eP:dgP ps i = P:=by unfold dgP; rw [hp]; rfl
   obtain ⟨Q,eQ⟩:∃ Q,dgP qs i = Q:=⟨_,rfl⟩
   rw [eP] at s1 o1 m1 l1 d1
   rw [eQ] at s2 o2 m2 l2 d2
   have y1:=dL_may s1.len m1 l1
   have y2:=dL_may s2.len m2 l2
   have yB:=dL_may hst.dig.sl.len hst.dig.norm hst.dig.len
   have hsm:=hst.small
   have hw4:=wD_two'
   have hww:4 * wD ≤ wD * wD:=Nat.mul_le_mul_right wD hw4
   have hadd:=add_fit y2 yB (by omega)
   obtain ⟨TK,hTK⟩:∃ T,val Q.xs + val B.xs = T:=⟨_,rfl⟩
   rw [hTK] at hadd
   have hTw:TK ≤ wD:=by omega
   have HMT:=Hj (may_limbs (v:=TK) (by omega))
   have HKD:=Hj (fun (W:World) (hb:Below wr.heap.size wr W) => (by have K:=wdigit_any a2 n2 c2 qs W (W2.below hb).sl i; rw [eQ] at K; exact K:Calls Tryz.prog 141 #[.slice a2 n2 c2,.int .i64 (i:Int)] W fun e w' => e = .returned (.slice Q.a Q.n Q.c) ∧ w' = W))
   have HKA:=Hj (fun (W:World) (hb:Below wr.heap.size wr W) => (by have K:=nadd_any Q.a B.a Q.n Q.c B.n B.c Q.xs B.xs W (s2.below hb) (hst.dig.sl.below hb) o2 hst.dig.ok; rw [hadd] at K; exact K:Calls Tryz.prog 129 #[.slice Q.a Q.n Q.c,.slice B.a B.n B.c] W fun e w' => Res2 W w' (limbs TK,0) e))
   have HP:=Hj (And.intro s1 (And.intro o1 (And.intro y1 (And.intro eP (And.intro eQ hTK)))))
   clear W1 W2 s1 o1 m1 l1 s2 o2 m2 l2 hp eP eQ y1 y2 yB hadd hst
   go_wp2_with fail
   go_region_with (first
    | (go_at_call 141; refine (Uh HKD _ ?_).mono ?_; exact (Below.refl _ _).drew; rintro _ _ ⟨rfl,hw⟩; obtain rfl:=hw.symm; clear hw)
    | (go_at_call 129; refine (Uh HKA _ ?_).mono ?_; exact (Below.refl _ _).drew; rintro _ wc ⟨at_,nt,ct,rfl,st,nw,bd⟩; have hbM:Below wr.heap.size wr wc:=(Below.refl wr.heap.size wr).drew.trans bd; have c9:=(ck hbM hc1); have HT:=Hj (And.intro st hbM); clear st nw bd hbM)
    | (go_at_call 45; refine (sure_any _ _ _).mono ?_; rintro _ _ ⟨rfl,hw⟩; obtain rfl:=hw.symm; clear hw))
   all_goals
    have hbM:=(Uh HT).2
    have KC:=ncmp_any P.a at_ P.n P.c nt ct P.xs (limbs TK) wc ((Uh HP).1.below hbM) (Uh HT).1 (Uh HP).2.1 (limbs_rep TK).ok
    rw [show cmpL P.xs (limbs TK) = cmpN (val P.xs) TK from by unfold cmpL; rw [(Uh HP).2.2.1,Uh HMT,(limbs_rep TK).val]; rfl] at KC
    by_cases hlt:val P.xs < TK
    ·rw [cmpN_lt hlt] at KC
     have HKC:=Hj KC
     clear KC hbM
     go_wp2_with fail
     refine (Uh HKC).mono ?_
     rintro _ wd ⟨rfl,kk,hwd⟩
     have hbd:Below wr.heap.size wr wd:=by rw [hwd]; exact bel_drewN (Uh HT).2 kk
     have hTd:Sl wd at_ nt ct (limbs TK):=(Uh HT).1.below (by rw [hwd]; exact bel_drewN (Below.refl _ _) kk)
     have HD:=Hj (And.intro hbd hTd)
     have hgd:w.heap.size < wd.heap.size:=Nat.lt_of_lt_of_le hgl hbd.size
     clear hwd hbd hTd HKC
     go_wp2_with fail
     refine (ratOne_any wd).mono ?_
     rintro _ we ⟨ao,mo,rfl,so,no,bo⟩
     have m1:MayL [1] = true:=by decide
     have hS:=shl_wD m1 (show val [1] < wD by have:val [1] = 1:=rfl; omega)
     rw [show val [1] = 1 from rfl,Nat.one_mul] at hS
     have KS:=nshl_any ao mo mo [1] we 32768 so (by intro x hx; simp at hx; subst hx; decide)
     rw [hS] at KS
     have HKS:=Hj KS
     have HO:=Hj (And.intro so (And.intro no bo))
     clear so no bo hS KS m1
     go_wp2_with fail
     refine (Uh HKS).mono ?_
     rintro _ wf ⟨as_,ms,cs,rfl,ss,ns,bs⟩
     dsimp only at ss
     have hbwf:Below wd.heap.size wd wf:=(Uh HO).2.2.trans (bs.mono (Uh HO).2.2.size)
     have hadd:=add_wD (Uh HP).2.2.1 d1
     have hbrf:Below wr.heap.size wr wf:=(Uh HD).1.trans (hbwf.mono (Uh HD).1.size)
     have KA:=nadd_any P.a as_ P.n P.c ms cs P.xs (limbs wD) wf ((Uh HP).1.below hbrf) ss (Uh HP).2.1 (limbs_rep wD).ok
     rw [hadd] at KA
     have HKA2:=Hj KA
     have HF:=Hj (And.intro hbwf (And.intro hbrf bs))
     clear ss ns bs hbwf hbrf hadd KA HKS
     go_wp2_with fail
     refine (sure_any _ _ _).mono ?_
     rintro _ _ ⟨rfl,hw⟩
     obtain rfl:=hw.symm
     clear hw
     go_wp2_with fail
     refine (Uh HKA2).mono ?_
     rintro _ wg ⟨af,mf,cf,rfl,sf_,nf,bf⟩
     dsimp only at sf_
     have hsub:=sub_fit (may_limbs (v:=val P.xs + wD) (by omega)) (Uh HMT) (by rw [(limbs_rep TK).val,(limbs_rep (val P.xs + wD)).val]; omega)
     rw [(limbs_rep TK).val,(limbs_rep (val P.xs + wD)).val] at hsub
     have hbdg:Below wd.heap.size wd wg:=(Uh HF).1.trans (bf.mono (Uh HF).1.size)
     have KB:=nsub_any af at_ mf cf nt ct (limbs (val P.xs + wD)) (limbs TK) wg sf_ ((Uh HD).2.below hbdg) (limbs_rep _).ok (limbs_rep TK).ok
     rw [hsub] at KB
     have HKB:=Hj KB
     have HG:=Hj (And.intro hbdg ((Uh HD).1.trans (hbdg.mono (Uh HD).1.size)))
     have hgg:w.heap.size < wg.heap.size:=Nat.lt_of_lt_of_le hgd hbdg.size
     have hdO:=dig_one ((Uh HO).1.below ((Uh HF).2.2.trans (bf.mono (Uh HF).2.2.size))) (Uh HO).2.1 hgd
     have HDO:=Hj hdO
     clear sf_ nf bf hsub hbdg KB HKA2 hdO
     go_wp2_with fail
     refine (sure_any _ _ _).mono ?_
     rintro _ _ ⟨rfl,hw⟩
     obtain rfl:=hw.symm
     clear hw
     go_wp2_with fail
     refine (Uh HKB).mono ?_
     rintro _ wh ⟨az,mz,cz,rfl,sz,nz,bz⟩
     dsimp only at sz
     have hdB:=(Uh HDO).below bz
     have hR:=(Uh HSt).row.below ((Uh HG).2.trans (bz.mono (Uh HG).2.size))
     have hil:i < acc.length:=by rw [(Uh HSt).len]; exact hlti
     obtain ⟨⟨zv,z0⟩,z1⟩:=hR.at hil
     have hdn:Dig wh w.heap.size ⟨az,mz,cz,limbs (val P.xs + wD - TK)⟩:=dig_new sz (by omega) nz (by omega)
     have HFin:=Hj (show MnI w (wh.setCell ⟨w.heap.size,i,none⟩ (.slice az mz cz)) w.heap.size n1 (i + 1) (fun i => val (dgP ps i).xs) (fun i => val (dgP qs i).xs) (acc.set i ⟨az,mz,cz,limbs (val P.xs + wD - TK)⟩) ⟨ao,mo,mo,[1]⟩ from by
      have hc:Chg (fun k => k = w.heap.size) wh (wh.setCell ⟨w.heap.size,i,none⟩ (.slice az mz cz)):=Chg.of_set (S:=fun k => k = w.heap.size) _ _ _ _ rfl
      refine ⟨hR.put hil hdn,by rw [List.length_set]; exact (Uh HSt).len,?_,(by show val [1] ≤ 1; decide),?_⟩
      ·have hB:=hdB
       exact ⟨hB.sl.chg hc (fun x hx hn => hB.off hn x hx),hB.ok,hB.norm,hB.len,hB.off⟩
      ·rw [wv_take_set hil]
       refine mn_step (Uh HSt).sum ?_
       show val (dgP ps i).xs + wD * _ = _ + val (dgP qs i).xs + val (limbs (val P.xs + wD - TK))
       rw [(Uh HP).2.2.2.1,(Uh HP).2.2.2.2.1,(limbs_rep _).val]
       have hTK:=(Uh HP).2.2.2.2.2
       have e1:val [1] = 1:=rfl
       show val P.xs + wD * val [1] = _
       rw [e1]
       omega)
     clear hR hdn hdB sz nz bz
     go_wp2_with fail
     refine (sure_any _ _ _).mono ?_
     rintro _ _ ⟨rfl,hw⟩
     obtain rfl:=hw.symm
     clear hw
     go_wp2_with fail
     exact ⟨⟨i + 1,_,⟨ao,mo,mo,[1]⟩,by omega,by go_num,rfl,Uh HFin⟩,by simp [intOf]; omega⟩
    ·have hc0:¬ cmpN (val P.xs) TK < 0:=by
      rcases Nat.lt_trichotomy (val P.xs) TK with h | h | h
      ·omega
      ·rw [cmpN_eq h]; decide
      ·rw [cmpN_gt h]; decide
     obtain ⟨cv,hcv⟩:∃ cv,cmpN (val P.xs) TK = cv:=⟨_,rfl⟩
     rw [hcv] at KC hc0
     have HKC:=Hj KC
     clear KC hbM hcv
     go_wp2_with fail
     refine (Uh HKC).mono ?_
     rintro _ wd ⟨rfl,kk,hwd⟩
     have hbd:Below wr.heap.size wr wd:=by rw [hwd]; exact bel_drewN (Uh HT).2 kk
     have hTd:Sl wd at_ nt ct (limbs TK):=(Uh HT).1.below (by rw [hwd]; exact bel_drewN (Below.refl _ _) kk)
     have hgd:w.heap.size < wd.heap.size:=Nat.lt_of_lt_of_le hgl hbd.size
     have hsub:=sub_fit (Uh HP).2.2.1 (Uh HMT) (by rw [(limbs_rep TK).val]; omega)
     rw [(limbs_rep TK).val] at hsub
     have KB:=nsub_any P.a at_ P.n P.c nt ct P.xs (limbs TK) wd ((Uh HP).1.below hbd) hTd (Uh HP).2.1 (limbs_rep TK).ok
     rw [hsub] at KB
     have HKB:=Hj KB
     have HD:=Hj hbd
     clear hwd hbd hTd HKC hsub KB
     go_wp2_with fail
     refine (Uh HKB).mono ?_
     rintro _ wh ⟨az,mz,cz,rfl,sz,nz,bz⟩
     dsimp only at sz
     have hdB:=dig_nil wh w.heap.size
     have hR:=(Uh HSt).row.below ((Uh HD).trans (bz.mono (Uh HD).size))
     have hil:i < acc.length:=by rw [(Uh HSt).len]; exact hlti
     obtain ⟨⟨zv,z0⟩,z1⟩:=hR.at hil
     have hdn:Dig wh w.heap.size ⟨az,mz,cz,limbs (val P.xs - TK)⟩:=dig_new sz (by omega) nz (by omega)
     have HFin:=Hj (show MnI w (wh.setCell ⟨w.heap.size,i,none⟩ (.slice az mz cz)) w.heap.size n1 (i + 1) (fun i => val (dgP ps i).xs) (fun i => val (dgP qs i).xs) (acc.set i ⟨az,mz,cz,limbs (val P.xs - TK)⟩) pcNil from by
      have hc:Chg (fun k => k = w.heap.size) wh (wh.setCell ⟨w.heap.size,i,none⟩ (.slice az mz cz)):=Chg.of_set (S:=fun k => k = w.heap.size) _ _ _ _ rfl
      refine ⟨hR.put hil hdn,by rw [List.length_set]; exact (Uh HSt).len,?_,(by show (0:Nat) ≤ 1; omega),?_⟩
      ·have hB:=hdB
       exact ⟨hB.sl.chg hc (fun x hx hn => hB.off hn x hx),hB.ok,hB.norm,hB.len,hB.off⟩
      ·rw [wv_take_set hil]
       refine mn_step (Uh HSt).sum ?_
       show val (dgP ps i).xs + wD * _ = _ + val (dgP qs i).xs + val (limbs (val P.xs - TK))
       rw [(Uh HP).2.2.2.1,(Uh HP).2.2.2.2.1,(limbs_rep _).val]
       have hTK:=(Uh HP).2.2.2.2.2
       have e1:val pcNil.xs = 0:=rfl
       rw [e1]
       omega)
     clear hR hdn hdB sz nz bz
     go_wp2_with fail
     refine (sure_any _ _ _).mono ?_
     rintro _ _ ⟨rfl,hw⟩
     obtain rfl:=hw.symm
     clear hw
     go_wp2_with fail
     exact ⟨⟨i + 1,_,pcNil,by omega,by go_num,rfl,Uh HFin⟩,by simp [intOf]; omega⟩
  ·have hlti':¬ (i:Int) < (n1:Int):=by omega
   have hin:i = n1:=by omega
   have hlen:=hst.len
   have hval:wv acc = v1 - v2:=by
    have hs:=hst.sum
    rw [hin,List.take_of_length_le (by omega)] at hs
    have e1:=(Uh HE).1
    have e2:=(Uh HE).2.1
    rw [← e1,← e2] at hs
    have hA:wv acc < wD ^ n1:=by
     rw [wv_sF acc n1 (by omega)]
     refine sF_lt wD_pos (fun j hj => ?_)
     have hj2:j < acc.length:=by omega
     have hd:=hst.row.each acc[j] (List.getElem_mem hj2)
     have e:dgP acc j = acc[j]:=by unfold dgP; rw [List.getElem?_eq_getElem hj2]; rfl
     show val (dgP acc j).xs < wD
     rw [e]
     have h1:=val_lt hd.ok
     have h2:4294967296 ^ acc[j].xs.length ≤ 4294967296 ^ dLimbs:=pow_mono (by rw [hd.sl.len]; exact hd.len)
     rw [← wD_def] at h2
     omega
    exact mn_end hs hA (Uh HE).2.2
   have hsl:=hst.row.sl
   rw [hlen] at hsl
   have KT:=wtrim_any (some ⟨w.heap.size,0,none⟩) n1 n1 acc wr hsl (by omega)
   have HKT:=Hj KT
   have HV:=Hj hval
   have HLn:=Hj hlen
   clear hin hlen hval hsl KT hst
   go_wp2_with fail
   refine (Uh HKT).mono ?_
   rintro _ _ ⟨m,qz,rfl,sz,tz,hw⟩
   obtain rfl:=hw.symm
   have hWd:=pl_end (N:=0) (Uh HSt).row tz sz
   rw [Uh HV] at hWd
   have hmle:=tz.le
   rw [Uh HLn] at hmle
   have HFin:=Hj (And.intro hWd (And.intro hmle (Uh HSt).row.bel))
   clear hw sz tz hWd hmle HKT
   go_wp2_with fail
   go_ret
   exact ⟨_,_,_,qz,rfl,(Uh HFin).1,(Uh HFin).2.1,(Uh HFin).2.2⟩
def cmbV (nx:Bool) (v1:Nat) (ny:Bool) (v2:Nat):Nat × Bool:=if nx = ny then (v1 + v2,nx) else if v1 < v2 then (v2 - v1,ny) else (v1 - v2,nx)
def CmPost (N:Nat) (w w':World) (r:Nat × Bool) (e:Ending):Prop:=∃ a n c ps,e = .returned (.tuple #[.slice a n c,.bool r.2]) ∧ Wide w' a n c r.1 ps ∧ n ≤ N ∧ Below w.heap.size w w'

set_option maxHeartbeats 8000000 in
theorem combine_any (nx ny:Bool) (a1 a2:Option Addr) (n1 c1 n2 c2 v1 v2:Nat) (ps qs:List Pc) (w:World) (h1:Wide w a1 n1 c1 v1 ps) (h2:Wide w a2 n2 c2 v2 qs) (hn1:n1 ≤ 1000) (hn2:n2 ≤ 1000) :
  Calls Tryz.prog 85 #[.bool nx,.slice a1 n1 c1,.bool ny,.slice a2 n2 c2] w fun e w' => CmPost (max n1 n2 + 1) w w' (cmbV nx v1 ny v2) e:=by
 by_cases hs:nx = ny
 ·subst hs
  have HE:=Hj (show cmbV nx v1 nx v2 = (v1 + v2,nx) by simp [cmbV])
  have KP:=Hj (plus_any a1 a2 n1 c1 n2 c2 v1 v2 ps qs w h1 h2 hn1 hn2)
  have q:(nx == nx) = true:=by simp
  clear h1 h2
  rw [Uh HE]
  go_enter Tryz.func85,Tryz.ntmps85
  go_wp2_with fail
  refine (Uh KP).mono ?_
  rintro _ wb ⟨ab,nb,cb,bs,rfl,hWb,hnb,hbb⟩
  have HB:=Hj (And.intro hWb (And.intro hnb hbb))
  clear hWb hnb hbb KP
  go_wp2_with fail
  go_ret2
  exact ⟨ab,nb,cb,bs,rfl,(Uh HB).1,(Uh HB).2.1,(Uh HB).2.2⟩
 ·have q:(nx == ny) = false:=by simpa using hs
  have KC:=compareWide_any a1 a2 n1 c1 n2 c2 v1 v2 ps qs w h1 h2 (by omega) (by omega)
  by_cases hlt:v1 < v2
  ·rw [cmpN_lt hlt] at KC
   have HKC:=Hj KC
   have HE:=Hj (show cmbV nx v1 ny v2 = (v2 - v1,ny) by simp [cmbV,hs,hlt])
   have HM:=Hj (fun (W:World) (hb:Below w.heap.size w W) => minus_any a2 a1 n2 c2 n1 c1 v2 v1 qs ps W (h2.below hb) (h1.below hb) (by omega) hn2)
   clear KC h1 h2 hs hlt
   rw [Uh HE]
   go_enter Tryz.func85,Tryz.ntmps85
   go_wp2_with fail
   refine (Uh HKC).mono ?_
   rintro _ wa ⟨rfl,hba⟩
   have KM:=Hj (Uh HM wa hba)
   have HBa:=Hj hba
   clear hba HKC HM
   go_wp2_with fail
   refine (Uh KM).mono ?_
   rintro _ wb ⟨ab,nb,cb,bs,rfl,hWb,hnb,hbb⟩
   have HB:=Hj (And.intro hWb (And.intro hnb ((Uh HBa).trans (hbb.mono (Uh HBa).size))))
   clear hWb hnb hbb KM
   go_wp2_with fail
   go_ret2
   exact ⟨ab,nb,cb,bs,rfl,(Uh HB).1,Nat.le_trans (Uh HB).2.1 (by omega),(Uh HB).2.2⟩
  ·have hc0:¬ cmpN v1 v2 < 0:=by
    rcases Nat.lt_trichotomy v1 v2 with h | h | h
    ·omega
    ·rw [cmpN_eq h]; decide
    ·rw [cmpN_gt h]; decide
   have HE:=Hj (show cmbV nx v1 ny v2 = (v1 - v2,nx) by simp [cmbV,hs,hlt])
   have HM:=Hj (fun (W:World) (hb:Below w.heap.size w W) => minus_any a1 a2 n1 c1 n2 c2 v1 v2 ps qs W (h1.below hb) (h2.below hb) (by omega) hn1)
   obtain ⟨cv,hcv⟩:∃ cv,cmpN v1 v2 = cv:=⟨_,rfl⟩
   rw [hcv] at KC hc0
   have HKC:=Hj KC
   clear KC h1 h2 hs hlt hcv
   rw [Uh HE]
   go_enter Tryz.func85,Tryz.ntmps85
   go_wp2_with fail
   refine (Uh HKC).mono ?_
   rintro _ wa ⟨rfl,hba⟩
   have KM:=Hj (Uh HM wa hba)
   have HBa:=Hj hba
   clear hba HKC HM
   go_wp2_with fail
   refine (Uh KM).mono ?_
   rintro _ wb ⟨ab,nb,cb,bs,rfl,hWb,hnb,hbb⟩
   have HB:=Hj (And.intro hWb (And.intro hnb ((Uh HBa).trans (hbb.mono (Uh HBa).size))))
   clear hWb hnb hbb KM
   go_wp2_with fail
   go_ret2
   exact ⟨ab,nb,cb,bs,rfl,(Uh HB).1,Nat.le_trans (Uh HB).2.1 (by omega),(Uh HB).2.2⟩
theorem prod_less {x1 y2 x2 y1:List Nat} (o1:Ok x1) (o2:Ok y2) (o3:Ok x2) (o4:Ok y1) (n3:Norm x2) (n4:Norm y1) (h3:x2 ≠ []) (h4:y1 ≠ []) (h:bitsN x1 + bitsN y2 + 1 < bitsN x2 + bitsN y1):val x1 * val y2 < val x2 * val y1:=by
 have a1:=val_lt_bits o1
 have a2:=val_lt_bits o2
 obtain ⟨b3,c3⟩:=val_ge_bits o3 n3 h3
 obtain ⟨b4,c4⟩:=val_ge_bits o4 n4 h4
 have e3:bitsN x2 = bitsL x2:=by simp [bitsN,h3]
 have e4:bitsN y1 = bitsL y1:=by simp [bitsN,h4]
 have p1:val x1 * val y2 < 2 ^ bitsN x1 * 2 ^ bitsN y2:=by
  have k1:val x1 * val y2 ≤ val x1 * 2 ^ bitsN y2:=Nat.mul_le_mul_left _ (Nat.le_of_lt a2)
  have k2:val x1 * 2 ^ bitsN y2 < 2 ^ bitsN x1 * 2 ^ bitsN y2:=Nat.mul_lt_mul_of_pos_right a1 (Nat.pow_pos (by decide))
  omega
 have p2:2 ^ (bitsL x2 - 1) * 2 ^ (bitsL y1 - 1) ≤ val x2 * val y1:=Nat.mul_le_mul c3 c4
 rw [← Nat.pow_add] at p1 p2
 have p3:2 ^ (bitsN x1 + bitsN y2) ≤ 2 ^ (bitsL x2 - 1 + (bitsL y1 - 1)):=Nat.pow_le_pow_right (by decide) (by omega)
 omega
structure SzOk (x1 y1 x2 y2:List Nat):Prop where
 lt:bitsN x1 + bitsN y2 + 1 < bitsN x2 + bitsN y1 → val x1 * val y2 < val x2 * val y1
 gt:bitsN x2 + bitsN y1 + 1 < bitsN x1 + bitsN y2 → val x2 * val y1 < val x1 * val y2

set_option maxHeartbeats 8000000 in
set_option maxRecDepth 100000 in
theorem compareSizes_any (g1 g2:Bool) (a1 b1 a2 b2:Option Addr) (n1 c1 m1 d1 n2 c2 m2 d2:Nat) (x1 y1 x2 y2:List Nat) (w:World) (hx1:Sl w a1 n1 c1 x1) (hy1:Sl w b1 m1 d1 y1) (hx2:Sl w a2 n2 c2 x2) (hy2:Sl w b2 m2 d2 y2) (ox1:Ok x1) (oy1:Ok y1) (ox2:Ok x2) (oy2:Ok y2) (kx1:MayL x1 = true) (ky1:MayL y1 = true) (kx2:MayL x2 = true) (ky2:MayL y2 = true) (sz:SzOk x1 y1 x2 y2) :
  Calls Tryz.prog 109 #[ratV g1 a1 n1 c1 b1 m1 d1,ratV g2 a2 n2 c2 b2 m2 d2] w fun e w' => e = .returned (.int .i64 (cmpN (val x1 * val y2) (val x2 * val y1))) ∧ Below w.heap.size w w':=by
 have bx:=Box.made w g1 a1 n1 c1 b1 m1 d1
 obtain ⟨wa,hwa⟩:∃ wa,ratBox w g1 a1 n1 c1 b1 m1 d1 = wa:=⟨_,rfl⟩
 rw [hwa] at bx
 have by_:=Box.made wa g2 a2 n2 c2 b2 m2 d2
 obtain ⟨wb,hwb⟩:∃ wb,ratBox wa g2 a2 n2 c2 b2 m2 d2 = wb:=⟨_,rfl⟩
 rw [hwb] at by_
 have hba:Below w.heap.size w wa:=by rw [← hwa]; exact bAl
 have hbb:Below wa.heap.size wa wb:=by rw [← hwb]; exact bAl
 have bx2:=bx.keep hbb
 have hB:=hba.trans (hbb.mono hba.size)
 unfold ratBox at hwa hwb
 have p1:=bx2.d1
 have p2:=bx2.d2
 have q1:=by_.d1
 have q2:=by_.d2
 have lx1:=bitsN_le ox1 (MayL.len kx1)
 have ly1:=bitsN_le oy1 (MayL.len ky1)
 have lx2:=bitsN_le ox2 (MayL.len kx2)
 have ly2:=bitsN_le oy2 (MayL.len ky2)
 obtain ⟨B1,e1⟩:∃ B,bitsN x1 = B:=⟨_,rfl⟩
 obtain ⟨C1,f1⟩:∃ B,bitsN y1 = B:=⟨_,rfl⟩
 obtain ⟨B2,e2⟩:∃ B,bitsN x2 = B:=⟨_,rfl⟩
 obtain ⟨C2,f2⟩:∃ B,bitsN y2 = B:=⟨_,rfl⟩
 have HK:=Hj (fun (W:World) (hb:Below wb.heap.size wb W) => (⟨by have K:=nbits_any a1 n1 c1 x1 W ((hx1.below hB).below hb) ox1 kx1; rw [e1] at K; exact K,by have K:=nbits_any b1 m1 d1 y1 W ((hy1.below hB).below hb) oy1 ky1; rw [f1] at K; exact K,by have K:=nbits_any a2 n2 c2 x2 W ((hx2.below hB).below hb) ox2 kx2; rw [e2] at K; exact K,by have K:=nbits_any b2 m2 d2 y2 W ((hy2.below hB).below hb) oy2 ky2; rw [f2] at K; exact K⟩ :
  (Calls Tryz.prog 94 #[.slice a1 n1 c1] W fun e w' => e = .returned (.int .i64 (B1:Nat)) ∧ w' = W) ∧ (Calls Tryz.prog 94 #[.slice b1 m1 d1] W fun e w' => e = .returned (.int .i64 (C1:Nat)) ∧ w' = W) ∧ (Calls Tryz.prog 94 #[.slice a2 n2 c2] W fun e w' => e = .returned (.int .i64 (B2:Nat)) ∧ w' = W) ∧ (Calls Tryz.prog 94 #[.slice b2 m2 d2] W fun e w' => e = .returned (.int .i64 (C2:Nat)) ∧ w' = W)))
 have HP1:=Hj (fun (W:World) (hb:Below wb.heap.size wb W) => product_any a1 b2 n1 c1 m2 d2 x1 y2 W ((hx1.below hB).below hb) ((hy2.below hB).below hb) ox1 oy2 kx1 ky2)
 have HP2:=Hj (fun (W:World) (hb:Below wb.heap.size wb W) => product_any a2 b1 n2 c2 m1 d1 x2 y1 W ((hx2.below hB).below hb) ((hy1.below hB).below hb) ox2 oy1 kx2 ky1)
 have hlt:=sz.lt
 have hgt:=sz.gt
 rw [e1,e2,f1,f2] at hlt hgt
 rw [e1] at lx1
 rw [f1] at ly1
 rw [e2] at lx2
 rw [f2] at ly2
 obtain ⟨V1,hV1⟩:∃ V,val x1 * val y2 = V:=⟨_,rfl⟩
 obtain ⟨V2,hV2⟩:∃ V,val x2 * val y1 = V:=⟨_,rfl⟩
 rw [hV1,hV2] at hlt hgt
 rw [hV1] at HP1
 rw [hV2] at HP2
 rw [hV1,hV2]
 have HBB:=Hj hB
 have HHlt:=Hj hlt
 have HHgt:=Hj hgt
 unfold ratV
 clear bx bx2 by_ hba hbb hB hx1 hy1 hx2 hy2 sz e1 e2 f1 f2 hV1 hV2 hlt hgt
 go_enter Tryz.func109,Tryz.ntmps109
 have Fp1:=fun x:Ext wb => x.cell p1
 have Fq2:=fun x:Ext wb => x.cell q2
 have hNE:=Ext.ne wb
 go_wp2_with fail
 refine wp_region_ext (by kernel_rfl) (by kernel_rfl) ?_
 repeat (go_big_quiet_step (first
  | (go_at_call_of 94 (Value.slice a1 n1 c1); rename_i x; exact Ext.call (Uh HK x.w x.bel).1 (fun e w' h => ⟨h.1,by rw [h.2]; exact Below.refl _ _⟩))
  | (go_at_call_of 94 (Value.slice b2 m2 d2); rename_i x; exact Ext.call (Uh HK x.w x.bel).2.2.2 (fun e w' h => ⟨h.1,by rw [h.2]; exact Below.refl _ _⟩))))
 refine wpQuiet_nil ?_
 rintro _ ⟨xE,rfl⟩
 clear Fp1 Fq2 hNE
 have HBE:=Hj xE.bel
 have r1:=xE.cell q1
 have r2:=xE.cell p2
 have r3:=xE.cell p1
 have r4:=xE.cell q2
 clear p1 p2 q1 q2
 have Fr1:=fun x:Ext xE.w => x.cell r1
 have Fr2:=fun x:Ext xE.w => x.cell r2
 have hNE:=Ext.ne xE.w
 go_wp2_with fail
 refine wp_region_ext (by kernel_rfl) (by kernel_rfl) ?_
 repeat (go_big_quiet_step (first
  | (go_at_call_of 94 (Value.slice a2 n2 c2); rename_i x; exact Ext.call (Uh HK x.w ((Uh HBE).trans (x.bel.mono (Uh HBE).size))).2.2.1 (fun e w' h => ⟨h.1,by rw [h.2]; exact Below.refl _ _⟩))
  | (go_at_call_of 94 (Value.slice b1 m1 d1); rename_i x; exact Ext.call (Uh HK x.w ((Uh HBE).trans (x.bel.mono (Uh HBE).size))).2.1 (fun e w' h => ⟨h.1,by rw [h.2]; exact Below.refl _ _⟩))))
 refine wpQuiet_nil ?_
 rintro _ ⟨xG,rfl⟩
 clear Fr1 Fr2 hNE
 have HBG:=Hj ((Uh HBE).trans (xG.bel.mono (Uh HBE).size))
 have s1:=xG.cell r1
 have s2:=xG.cell r2
 have s3:=xG.cell r3
 have s4:=xG.cell r4
 clear r1 r2 r3 r4
 by_cases h1:B1 + C2 + 1 < B2 + C1
 ·have h1':(B1:Int) + (C2:Int) + 1 < (B2:Int) + (C1:Int):=by omega
  have HR:=Hj (cmpN_lt (Uh HHlt h1))
  clear h1
  go_wp2_with fail
  go_ret
  rw [Uh HR]
  exact ⟨rfl,(Uh HBB).trans ((Uh HBG).mono (Uh HBB).size)⟩
 ·have h1':¬ (B1:Int) + (C2:Int) + 1 < (B2:Int) + (C1:Int):=by omega
  by_cases h2:B2 + C1 + 1 < B1 + C2
  ·have h2':(B2:Int) + (C1:Int) + 1 < (B1:Int) + (C2:Int):=by omega
   have HR:=Hj (cmpN_gt (Uh HHgt h2))
   clear h1 h2
   go_wp2_with fail
   go_ret
   rw [Uh HR]
   exact ⟨rfl,(Uh HBB).trans ((Uh HBG).mono (Uh HBB).size)⟩
  ·have h2':¬ (B2:Int) + (C1:Int) + 1 < (B1:Int) + (C2:Int):=by omega
   clear h1 h2
   have l1:w.heap.size < xG.w.heap.size:=World.block_lt_of_cell? _ _ s3
   have l2:wa.heap.size < xG.w.heap.size:=World.block_lt_of_cell? _ _ s1
   go_wp2_with fail
   go_region_held3 (fun w' => w'.cell? ⟨w.heap.size,1,none⟩ = some (.slice a1 n1 c1) ∧ w'.cell? ⟨wa.heap.size,2,none⟩ = some (.slice b2 m2 d2) ∧ w'.cell? ⟨wa.heap.size,1,none⟩ = some (.slice a2 n2 c2) ∧ w'.cell? ⟨w.heap.size,2,none⟩ = some (.slice b1 m1 d1)) (first | go_keep | (exact ⟨k3,k4,k1,k2⟩) | (exact ⟨j3,j4,j1,j2⟩))
    (first
     | (go_at_call_of 86 (Value.slice a1 n1 c1); refine (Uh HP1 _ (Uh HBG).drew).mono ?_; rintro _ wc ⟨ac,nc,cc,cs,rfl,hWc,hnc,hbc⟩; have hbGc:Below xG.w.heap.size xG.w wc:=(Below.refl _ _).drew.trans hbc; have hbc2:=(Uh HBG).trans (hbGc.mono (Uh HBG).size); have k1:=(hbGc.cell (p:=⟨wa.heap.size,1,none⟩) l2).trans s1; have k2:=(hbGc.cell (p:=⟨w.heap.size,2,none⟩) l1).trans s2; have k3:=(hbGc.cell (p:=⟨w.heap.size,1,none⟩) l1).trans s3; have k4:=(hbGc.cell (p:=⟨wa.heap.size,2,none⟩) l2).trans s4; have HC:=Hj (And.intro hWc (And.intro hnc hbc2)); clear hWc hnc hbc hbGc hbc2)
     | (go_at_call_of 86 (Value.slice a2 n2 c2); refine (Uh HP2 _ (Uh HC).2.2).mono ?_; rintro _ wd ⟨ad,nd,cd,ds,rfl,hWd,hnd,hbd⟩; have j1:=(ck hbd k1); have j2:=(ck hbd k2); have j3:=(ck hbd k3); have j4:=(ck hbd k4); have HKC:=Hj (compareWide_any ac ad nc cc nd cd V1 V2 cs ds wd ((Uh HC).1.below hbd) hWd (by have:=(Uh HC).2.1; omega) (by omega)); have HD:=Hj ((Uh HC).2.2.trans (hbd.mono (Uh HC).2.2.size)); clear hWd hnd hbd)
     | (go_at_call 137; refine (Uh HKC).mono ?_; rintro _ we ⟨rfl,hbe⟩; have i1:=(ck hbe j1); have i2:=(ck hbe j2); have i3:=(ck hbe j3); have i4:=(ck hbe j4); have HF:=Hj ((Uh HD).trans (hbe.mono (Uh HD).size)); clear hbe))
   all_goals
    try go_wp2_with fail
    try go_ret
    exact ⟨rfl,(Uh HBB).trans ((Uh HF).mono (Uh HBB).size)⟩
end Go.Proofs.YtmnlhnmlgncedaaGreatDoor
