/- Wio -/
import Derived.Test.YtgfpfjghdbcihaaGreatDoorWin
import Derived.Deep.LoopGhost
import Derived.Test.YtgfpfjghdbcihaaGreatDoorBase
import Derived.Test.YtgfpfjghdbcihaaGreatDoorRa6
import Derived.Deep.RegionHeld3
namespace Go.Proofs.YtgfpfjghdbcihaaGreatDoor
open Go.RowKit Go.Deep
set_option linter.unusedVariables false
structure NdL (w w2 wr:World) (k D Q:Nat) (gv pv:Value):Prop where
 g:∃ a m c,gv = .slice a m c ∧ Sl wr a m c (limbs k) ∧ NewAt w.heap.size a
 p:∃ a n c zs,pv = .slice a n c ∧ Wide wr a n c (k * D) zs ∧ n ≤ 200
 bel:Below w2.heap.size w2 wr
 le:Q ≤ k

set_option maxHeartbeats 8000000 in
set_option maxRecDepth 100000 in
theorem nextDigit_long (ar an ad:Option Addr) (nr cr nn cn nd cd:Nat) (rs xs ys:List Nat) (w:World) (hr:Sl w ar nr cr rs) (hx:Sl w an nn cn xs) (hd:Sl w ad nd cd ys) (or_:Ok rs) (ox:Ok xs) (oy:Ok ys) (kr:MayL rs = true) (nx:Norm xs) (lx:nn ≤ dLimbs) (ky:MayL ys = true) (ey:ys ≠ []) (hlt:val rs < val ys) (hl:1024 < nd) :
  Calls Tryz.prog 153 #[.slice ar nr cr,.slice an nn cn,.slice ad nd cd] w fun e w' => NdPost w w' ((val xs + wD * val rs) / val ys) ((val xs + wD * val rs) % val ys) e:=by
 obtain ⟨i24,hi,hz,hs,hb⟩:=info_parts Tryz.info_nat
 have HInf:=Hd (And.intro hi (And.intro hz (And.intro hs hb)))
 clear hi hz hs hb
 have vx:val xs < wD:=by
  have h1:=val_lt ox
  have h2:=hx.len
  have h3:4294967296 ^ xs.length ≤ 4294967296 ^ dLimbs:=pow_mono (by omega)
  rw [← wD_def] at h3
  omega
 have hdl:=hd.len
 obtain ⟨sp1,sp2,sp3⟩:=nd_split ky (by omega)
 have vyp:=val_pos_of_may ky ey
 have v1p:=val_pos_of_may sp3 sp2
 have hQ:(val xs + wD * val rs) / val ys ≤ val rs / val (ys.drop 1024):=by
  have h:=guess_ge (B:=wD) (d:=val ys) (d1:=val (ys.drop 1024)) (d0:=val (ys.take 1024)) (r:=val rs) (x:=val xs) wD_pos (by rw [sp1,Nat.mul_comm wD,Nat.add_comm]) v1p vx
  rw [Nat.mul_comm (val rs) wD,Nat.add_comm (wD * val rs)] at h
  exact h
 obtain ⟨V,hVV⟩:∃ V,val xs + wD * val rs = V:=⟨_,rfl⟩
 rw [hVV] at hQ ⊢
 obtain ⟨G,hG⟩:∃ G,val rs / val (ys.drop 1024) = G:=⟨_,rfl⟩
 rw [hG] at hQ
 have mG:∀ k,k ≤ G → MayL (limbs k) = true:=fun k hk => may_small kr or_ (Nat.le_trans hk (by rw [← hG]; exact Nat.div_le_self _ _))
 have hle2:=hd.le
 have hcap2:=hd.cap
 obtain ⟨bd,fd,rfl,_⟩:=hd.cells.resolve_left ey
 have sD:=hd.part 1024 (nd - 1024) (cd - 1024) (by omega) (by omega) (by omega)
 rw [List.take_of_length_le (by rw [List.length_drop]; omega)] at sD
 have oD:Ok (ys.drop 1024):=fun y hy => oy y (List.mem_of_mem_drop hy)
 have hdv:divL rs (ys.drop 1024) = (limbs G,limbs (val rs % val (ys.drop 1024)),0):=by
  unfold divL
  rw [kr,sp3,hG]
  simp [sp2]
 have u1:¬ (nd:Int) ≤ 1024:=by omega
 have u2:(1024:Int) ≤ (nd:Int):=by omega
 have u3:¬ cd = 1024:=by omega
 have u4:(1024:Int) ≤ (cd:Int):=by omega
 obtain ⟨wa,hwa⟩:∃ x,w.alloc (.cells #[.slice an nn cn] 23) = x:=⟨_,rfl⟩
 have hba:Below w.heap.size w wa:=by rw [← hwa]; exact bAl
 have hown0:=nd_one hwa rfl
 have KS:=Hd (spread_any ar nr cr rs wa (hr.below hba) or_ kr)
 have H:=Hd (And.intro hr (And.intro hx (And.intro hd (And.intro hba (And.intro hown0 hVV)))))
 have HF:=Hd (And.intro sD (And.intro oD (And.intro hdv (And.intro mG (And.intro hQ vyp)))))
 have HN:=Hd (And.intro nx lx)
 have HE:=Hd (And.intro ky kr)
 obtain ⟨R1,hR1⟩:∃ R1,val rs % val (ys.drop 1024) = R1:=⟨_,rfl⟩
 rw [hR1] at HF
 clear hr hx hd hba hown0 hVV vx hQ hdv mG nx lx kr ky ey hlt sD oD sp1 sp2 sp3 vyp v1p hG hdl hR1
 go_enter Tryz.func153,Tryz.ntmps153
 go_wp2_with fail
 refine (Uh KS).mono ?_
 rintro _ wb ⟨ab,nb,cb,bs,rfl,hWb,hnb,hbb,hfb,_,hnn⟩
 obtain ⟨xa,rfl⟩:∃ x,ab = some x:=by cases ab with | none => exact absurd rfl hnn | some x => exact ⟨x,rfl⟩
 obtain ⟨hr,hx,hd,hba,hown0,hVV⟩:=Uh H
 have hbw:=hba.trans (hbb.mono hba.size)
 have hown1:=own_belR hown0 hbb
 have hDg:∀ g,w.heap.size ≤ g → ∀ q ∈ (⟨an,nn,cn,xs⟩:Pc) :: bs,Dig wb g q:=fun g hg q hq => by
  rcases List.mem_cons.1 hq with e | e
  ·subst e
   exact dig_old hx ox (Uh HN).1 (Uh HN).2 hbw hg
  ·exact dig_spread (wa:=wa) hr hWb hfb hg q e
 have hbl:bs.length = nb:=hWb.sl.len
 have hnews:∀ j u,(bs.map slV)[j]? = some u → wb.cell? (xa.add j) = some u:=by
  intro j u hj
  rw [List.getElem?_map] at hj
  cases hp:bs[j]? with
  | none => rw [hp] at hj; cases hj
  | some p =>
   rw [hp] at hj
   cases hj
   rcases hWb.sl.cells with e | ⟨b,off,e,hc⟩
   ·rw [e] at hp; cases hp
   ·cases e
    have hcj:=hc j p hp
    unfold slV
    by_cases j0:j = 0
    ·subst j0; simpa [Addr.add] using hcj
    ·simpa [Addr.add,j0] using hcj
 have hnl:(bs.map slV).length = nb * 1:=by rw [List.length_map,Nat.mul_one]; exact hbl
 have HA:=Hd (And.intro hown1 (And.intro hnl (And.intro hnews (And.intro hbw.size hDg))))
 have HB:=Hd (And.intro hbw (And.intro (show wv ((⟨an,nn,cn,xs⟩:Pc) :: bs) = V by rw [wv_cons,hWb.val]; exact hVV) hbl))
 clear hr hx hd hba hown0 hVV hbw hown1 hDg hbl hnews hnl hWb hbb hfb hnn KS
 go_wp2_with (at_builtin; refine wpList_append_own _ rfl _ _ 171 rfl w.heap.size 23 i24 (.slice none 0 0) 1 24 Tryz.underlying171 (Uh HInf).1 (Uh HInf).2.1 (Uh HInf).2.2.1 (Uh HInf).2.2.2 rfl (by decide) _ 1 [.slice an nn cn] rfl (Uh HA).1 xa nb cb (bs.map slV) rfl (Uh HA).2.1 (Uh HA).2.2.1 ?c2 ?c3 ?c4 (Uh HA).2.2.2.1 ?_)
 case c2 =>
  intro u hu
  obtain ⟨p,_,rfl⟩:=List.mem_map.1 hu
  rfl
 case c3 => unfold maxLen; omega
 case c4 => omega
 intro v' w2 hown2 hg2 _
 have hbl:=(Uh HB).2.2
 obtain ⟨g,cap,rfl,hRow⟩:=nd_row (p:=⟨an,nn,cn,xs⟩) (ps:=bs) (g0:=w.heap.size) (Uh HB).1 (Uh HA).2.2.2.2 (by rw [hbl]; exact hown2) (Nat.le_refl _) hg2
 have hsl:=hRow.sl
 rw [List.length_cons,hbl] at hsl
 rw [hbl]
 have KT:=wtrim_any (some ⟨g,0,none⟩) (nb + 1) cap _ w2 hsl (by omega)
 rw [Nat.add_comm nb 1] at KT
 have HKT:=Hd KT
 have HR:=Hd hRow
 clear hown2 hg2 hbl hRow hsl KT hwa HA
 go_wp2_with fail
 refine (Uh HKT).mono ?_
 rintro _ _ ⟨m,qz,rfl,sz,tz,hw⟩
 obtain rfl:=hw.symm
 have hWd:=pl_end (N:=0) (Uh HR) tz sz
 rw [(Uh HB).2.1] at hWd
 have hmle:=tz.le
 rw [List.length_cons,(Uh HB).2.2] at hmle
 have hbe:=(Uh HR).bel
 have hWn:=And.intro hWd (show m ≤ 3 by omega)
 have KD:=ndivmod_any ar (some ⟨bd,fd + 1024,none⟩) nr cr (nd - 1024) (cd - 1024) rs (ys.drop 1024) w2 ((Uh H).1.below hbe) ((Uh HF).1.below hbe) or_ (Uh HF).2.1
 rw [(Uh HF).2.2.1] at KD
 have HKD:=Hd KD
 have HW:=Hd hWn
 have HD:=Hd (And.intro ((Uh H).2.2.1.below hbe) hbe)
 clear hw sz tz hWd hmle hWn KD hbe HR HKT HB H
 go_wp2_with fail
 refine (Uh HKD).mono ?_
 rintro _ w3 ⟨aq,mq,cq,ar4,mr4,cr4,rfl,sq,nq,sr4,nr4,_,b3⟩
 have KP:=product_any aq (some ⟨bd,fd,none⟩) mq cq nd cd (limbs G) ys w3 sq ((Uh HD).1.below b3) (limbs_rep G).ok oy ((Uh HF).2.2.2.1 G (Nat.le_refl _)) (Uh HE).1
 rw [(limbs_rep G).val] at KP
 have HKP:=Hd KP
 have HG:=Hd (And.intro sq (And.intro (show NewAt w.heap.size aq from fun x hx => Nat.le_trans (Uh HD).2.size (nq x hx)) b3))
 clear sq nq sr4 nr4 b3 KP HKD
 go_wp2_with fail
 refine (Uh HKP).mono ?_
 rintro _ w4 ⟨ap,np,cp,zs,rfl,hWp,hnp,b4⟩
 have HL:=Hd (show NdL w w2 w4 G (val ys) (V / val ys) (.slice aq mq cq) (.slice ap np cp) from ⟨⟨aq,mq,cq,rfl,(Uh HG).1.below b4,(Uh HG).2.1⟩,⟨ap,np,cp,zs,rfl,hWp,hnp⟩,(Uh HG).2.2.trans (b4.mono (Uh HG).2.2.size),(Uh HF).2.2.2.2.1⟩)
 have HF2:=Hd (And.intro (Uh HF).2.2.2.1 (Uh HF).2.2.2.2.2)
 clear hWp hnp b4 HKP HG HF
 obtain ⟨D,hD⟩:∃ D,val ys = D:=⟨_,rfl⟩
 rw [hD] at HL HF2
 obtain ⟨Q,hQ⟩:∃ Q,V / D = Q:=⟨_,rfl⟩
 rw [hQ] at HL
 have HQ:=Hd (And.intro hD hQ)
 clear hD hQ
 try go_wp2_with fail
 go_loopg [12,15] G (fun k gv pv wr => k ≤ G ∧ Hid (NdL w w2 wr k D Q gv pv))
 case atStart => exact ⟨Nat.le_refl _,HL⟩
 case round =>
  obtain ⟨hkG,HI⟩:=hrel
  obtain ⟨⟨ag,mg,cg,rfl,sg,ng⟩,⟨ap2,np2,cp2,zs2,rfl,hWp,hnp⟩,hbr,hQk⟩:=Uh HI
  have hWn:=(Uh HW).1.below hbr
  have KC:=compareWide_any ap2 (some ⟨g,0,none⟩) np2 cp2 m cap (gk * D) V zs2 qz wr hWp hWn (by omega) (by have:=(Uh HW).2; omega)
  by_cases hgt:V < gk * D
  ·rw [cmpN_gt hgt] at KC
   have hk1:1 ≤ gk:=by
    rcases Nat.eq_zero_or_pos gk with e | e
    ·rw [e,Nat.zero_mul] at hgt; omega
    ·exact e
   have HKC:=Hd KC
   have HX:=Hd (And.intro sg (And.intro hWp (And.intro hnp (And.intro hbr hQk))))
   have HGt:=Hd (And.intro hgt hk1)
   clear KC sg ng hWp hnp hbr hQk hWn hgt hk1 HI HL
   go_wp2_with fail
   refine (Uh HKC).mono ?_
   rintro _ w5 ⟨rfl,b5⟩
   have HB5:=Hd b5
   clear b5 HKC
   go_wp2_with fail
   refine (ratOne_any w5).mono ?_
   rintro _ w6 ⟨a1,m1,rfl,s1,_,b6⟩
   have b46:=(Uh HB5).trans (b6.mono (Uh HB5).size)
   have KS:=nsub_any ag a1 mg cg m1 m1 (limbs gk) [1] w6 ((Uh HX).1.below b46) s1 (limbs_rep gk).ok (by intro x hx; simp at hx; subst hx; decide)
   have m11:MayL [1] = true:=by decide
   have v11:val [1] = 1:=by simp [val]
   rw [sub_fit ((Uh HF2).1 gk hkG) m11 (by rw [(limbs_rep gk).val,v11]; exact (Uh HGt).2),(limbs_rep gk).val,v11] at KS
   have HKS:=Hd KS
   have HB6:=Hd b46
   clear s1 b6 b46 KS m11 v11
   go_wp2_with fail
   refine (Uh HKS).mono ?_
   rintro _ w7 ⟨a7,m7,c7,rfl,s7,n7,b7⟩
   have b47:=(Uh HB6).trans (b7.mono (Uh HB6).size)
   have b27:=(Uh HX).2.2.2.1.trans (b47.mono (Uh HX).2.2.2.1.size)
   have KSp:=spread_any (some ⟨bd,fd,none⟩) nd cd ys w7 ((Uh HD).1.below b27) oy (Uh HE).1
   rw [(Uh HQ).1] at KSp
   have HKSp:=Hd KSp
   have H7:=Hd (And.intro s7 (And.intro (show NewAt w.heap.size a7 from fun x hx => Nat.le_trans (Nat.le_trans (Uh HD).2.size (Nat.le_trans (Uh HX).2.2.2.1.size (Uh HB6).size)) (n7 x hx)) b47))
   clear s7 n7 b7 b47 b27 KSp HKS HB6 HB5
   go_wp2_with fail
   refine (sure_any _ _ _).mono ?_
   rintro _ _ ⟨rfl,hw⟩
   obtain rfl:=hw.symm
   clear hw
   go_wp2_with fail
   refine (Uh HKSp).mono ?_
   rintro _ w8 ⟨a8,n8,c8,ss,rfl,hW8,hn8,b8,_,_,_⟩
   have b48:=(Uh H7).2.2.trans (b8.mono (Uh H7).2.2.size)
   have KM:=minus_any ap2 a8 np2 cp2 n8 c8 (gk * D) D zs2 ss w8 ((Uh HX).2.1.below b48) hW8 (Nat.le_mul_of_pos_left D (Uh HGt).2) (by have:=(Uh HX).2.2.1; omega)
   rw [show gk * D - D = (gk - 1) * D by rw [Nat.sub_mul,Nat.one_mul]] at KM
   have HKM:=Hd KM
   have H8:=Hd (And.intro ((Uh H7).1.below b8) (And.intro (Uh H7).2.1 b48))
   clear hW8 hn8 b8 b48 KM HKSp H7
   go_wp2_with fail
   refine (Uh HKM).mono ?_
   rintro _ w9 ⟨a9,n9,c9,ts,rfl,hW9,hn9,b9⟩
   have HFin:=Hd (show NdL w w2 w9 (gk - 1) D Q (.slice a7 m7 c7) (.slice a9 n9 c9) from by
    have hX:=Uh HX
    have h8:=Uh H8
    have hgt:=Uh HGt
    have bb:=h8.2.2.trans (b9.mono h8.2.2.size)
    refine ⟨⟨a7,m7,c7,rfl,h8.1.below b9,h8.2.1⟩,⟨a9,n9,c9,ts,rfl,hW9,Nat.le_trans hn9 hX.2.2.1⟩,hX.2.2.2.1.trans (bb.mono hX.2.2.2.1.size),?_⟩
    rw [← (Uh HQ).2]
    have:V / D < gk:=(Nat.div_lt_iff_lt_mul (Uh HF2).2).2 hgt.1
    omega)
   have HLt:=Hd (show gk - 1 < gk by have:=(Uh HGt).2; omega)
   clear hW9 hn9 b9 HKM H8 HX HGt
   go_wp2_with fail
   go_roundg (gk - 1)
   case measure => exact Uh HLt
   case rel => exact ⟨by omega,HFin⟩
  ·have hc0:(0:Int) < cmpN (gk * D) V ↔ False:=by
    constructor
    ·intro h
     unfold cmpN at h
     split at h
     ·omega
     ·split at h
      ·omega
      ·omega
    ·intro h; cases h
   have hc1:¬ (0:Int) < cmpN (gk * D) V:=fun h => hc0.1 h
   obtain ⟨cc,hcc⟩:∃ cc,cmpN (gk * D) V = cc:=⟨_,rfl⟩
   rw [hcc] at KC hc1
   have hkQ:gk = Q:=by
    have h1:gk ≤ V / D:=(Nat.le_div_iff_mul_le (Uh HF2).2).2 (by omega)
    rw [(Uh HQ).2] at h1
    omega
   have hle:gk * D ≤ V:=by omega
   have HKC:=Hd KC
   have HX:=Hd (And.intro sg (And.intro ng (And.intro hWp (And.intro hnp hbr))))
   have HGt:=Hd (And.intro hkQ hle)
   clear KC sg ng hWp hnp hbr hQk hWn hgt hc0 hcc hkQ hle HI HL
   go_wp2_with fail
   refine (Uh HKC).mono ?_
   rintro _ w5 ⟨rfl,b5⟩
   have b25:=(Uh HX).2.2.2.2.trans (b5.mono (Uh HX).2.2.2.2.size)
   have KM:=minus_any (some ⟨g,0,none⟩) ap2 m cap np2 cp2 V (gk * D) qz zs2 w5 ((Uh HW).1.below b25) ((Uh HX).2.2.1.below b5) (Uh HGt).2 (by have:=(Uh HW).2; omega)
   have hmod:V - gk * D = V % D:=by
    rw [(Uh HGt).1,← (Uh HQ).2,Nat.mul_comm]
    have:=Nat.div_add_mod V D
    omega
   rw [hmod] at KM
   have HKM:=Hd KM
   have HB5:=Hd (And.intro b5 b25)
   clear b5 b25 KM hmod HKC
   go_wp2_with fail
   refine (Uh HKM).mono ?_
   rintro _ w6 ⟨a6,n6,c6,ts,rfl,hW6,hn6,b6⟩
   have KN:=narrow_any a6 n6 c6 (V % D) ts w6 hW6
   have hmlt:=Nat.mod_lt V (Uh HF2).2
   have hfit:fitL (V % D) = (limbs (V % D),0):=by
    have h1:MayL (limbs (V % D)) = true:=may_small (Uh HE).1 oy (by rw [(Uh HQ).1]; exact Nat.le_of_lt hmlt)
    exact fitL_ok (by have:=MayL.len h1; omega)
   rw [hfit] at KN
   have HKN:=Hd KN
   have HB6:=Hd b6
   clear hW6 hn6 b6 KN hmlt hfit HKM
   go_wp2_with fail
   refine (Uh HKN).mono ?_
   rintro _ w7 ⟨a7,m7,c7,rfl,s7,n7,b7⟩
   have HFin:=Hd (show NdPost w w7 (V / val ys) (V % val ys) (.returned (.tuple #[.slice ag mg cg,.slice a7 m7 c7])) from by
    have hX:=Uh HX
    have h5:=Uh HB5
    have b57:=(Uh HB6).trans (b7.mono (Uh HB6).size)
    have b47:=h5.1.trans (b57.mono h5.1.size)
    have b27:=h5.2.trans (b57.mono h5.2.size)
    have hD:=(Uh HQ).1
    have hQ:=(Uh HQ).2
    rw [hD,hQ,← (Uh HGt).1]
    exact ⟨ag,mg,cg,a7,m7,c7,rfl,hX.1.below b47,hX.2.1,s7,(fun x hx => Nat.le_trans (Nat.le_trans (Uh HD).2.size (Nat.le_trans h5.2.size (Uh HB6).size)) (n7 x hx)),(Uh HD).2.trans (b27.mono (Uh HD).2.size)⟩)
   clear s7 n7 b7 HKN HB6 HB5 HX HGt
   go_wp2_with fail
   refine (sure_any _ _ _).mono ?_
   rintro _ _ ⟨rfl,hw⟩
   obtain rfl:=hw.symm
   clear hw
   go_wp2_with fail
   go_ret2
   exact Uh HFin

theorem nextDigit_any (ar an ad:Option Addr) (nr cr nn cn nd cd:Nat) (rs xs ys:List Nat) (w:World) (hr:Sl w ar nr cr rs) (hx:Sl w an nn cn xs) (hd:Sl w ad nd cd ys) (or_:Ok rs) (ox:Ok xs) (oy:Ok ys) (kr:MayL rs = true) (nx:Norm xs) (lx:nn ≤ dLimbs) (ky:MayL ys = true) (ey:ys ≠ []) (hlt:val rs < val ys) :
  Calls Tryz.prog 153 #[.slice ar nr cr,.slice an nn cn,.slice ad nd cd] w fun e w' => NdPost w w' ((val xs + wD * val rs) / val ys) ((val xs + wD * val rs) % val ys) e:=by
 by_cases hl:nd ≤ 1024
 ·exact nextDigit_short ar an ad nr cr nn cn nd cd rs xs ys w hr hx hd or_ ox oy kr nx lx ky ey hlt hl
 ·exact nextDigit_long ar an ad nr cr nn cn nd cd rs xs ys w hr hx hd or_ ox oy kr nx lx ky ey hlt (by omega)
structure Ext (w0:World) where
 w:World
 bel:Below w0.heap.size w0 w
theorem Ext.ne (w:World):Nonempty (Ext w):=⟨⟨w,Below.refl _ _⟩⟩
section
variable {P:Program}
theorem wp_region_ext {id:Nat} {Q:Exit → Act → World → Prop} {a:Act} {w:World} {l:List Oper} (hm:P.follows .mixedOrders = true) (hB:Region.lexB .any l.toArray = true)
  (h:wpQuiet P l.toArray (fun w' => ∃ x:Ext w,w' = x.w) (fun a' => ∀ w',(∃ x:Ext w,w' = x.w) → Q .normal a' w') l a):(Code.region id l.toArray true).wp P Q a w :=
 wp_region_quiet (C:=fun w' => ∃ x:Ext w,w' = x.w) hm hB ⟨⟨w.drew,(Below.refl _ _).drew⟩,rfl⟩ (by simpa using h)
end
theorem Ext.call {P:Program} {f:FuncId} {args:Array Value} {w:World} {x:Ext w} {v:Value} {R:Ending → World → Prop} (h:Calls P f args x.w R) (hR:∀ e w',R e w' → e = .returned v ∧ Below x.w.heap.size x.w w') :
  Calls P f args x.w fun e w'' => e = .returned v ∧ ∃ y:Ext w,w'' = y.w :=
 h.mono fun e w' hr => ⟨(hR e w' hr).1,⟨⟨w',x.bel.trans ((hR e w' hr).2.mono x.bel.size)⟩,rfl⟩⟩
theorem Ext.cell {w:World} (x:Ext w) {p:Addr} {v:Value} (h:w.cell? p = some v):x.w.cell? p = some v:=(x.bel.cell (p:=p) (World.block_lt_of_cell? _ _ h)).trans h
theorem prod_less {x1 y2 x2 y1:List Nat} (o1:Ok x1) (o2:Ok y2) (o3:Ok x2) (o4:Ok y1) (n3:Norm x2) (n4:Norm y1) (h3:x2 ≠ []) (h4:y1 ≠ []) (h:bitsN x1 + bitsN y2 + 1 < bitsN x2 + bitsN y1):val x1 * val y2 < val x2 * val y1:=by
 have a1:=val_lt_bits o1
 have a2:=val_lt_bits o2
 obtain ⟨b3,c3⟩:=val_ge_bits o3 n3 h3
 obtain ⟨b4,c4⟩:=val_ge_bits o4 n4 h4
 have e3:bitsN x2 = bitsL x2:=by simp [bitsN,h3]
 have e4:bitsN y1 = bitsL y1:=by simp [bitsN,h4]
 have p1:val x1 * val y2 < 2 ^ bitsN x1 * 2 ^ bitsN y2:=by
  have k1:val x1 * val y2 ≤ val x1 * 2 ^ bitsN y2:=Nat.mul_le_mul_left _ (Nat.le_of_lt a2)
  have k2:val x1 * 2 ^ bitsN y2 < 2 ^ bitsN x1 * 2 ^ bitsN y2:=Nat.mul_lt_mul_of_pos_right a1 (Nat.pow_pos (by decide))
  omega
 have p2:2 ^ (bitsL x2 - 1) * 2 ^ (bitsL y1 - 1) ≤ val x2 * val y1:=Nat.mul_le_mul c3 c4
 rw [← Nat.pow_add] at p1 p2
 have p3:2 ^ (bitsN x1 + bitsN y2) ≤ 2 ^ (bitsL x2 - 1 + (bitsL y1 - 1)):=Nat.pow_le_pow_right (by decide) (by omega)
 omega
structure SzOk (x1 y1 x2 y2:List Nat):Prop where
 lt:bitsN x1 + bitsN y2 + 1 < bitsN x2 + bitsN y1 → val x1 * val y2 < val x2 * val y1
 gt:bitsN x2 + bitsN y1 + 1 < bitsN x1 + bitsN y2 → val x2 * val y1 < val x1 * val y2

set_option maxHeartbeats 8000000 in
set_option maxRecDepth 100000 in
theorem compareSizes_any (g1 g2:Bool) (a1 b1 a2 b2:Option Addr) (n1 c1 m1 d1 n2 c2 m2 d2:Nat) (x1 y1 x2 y2:List Nat) (w:World) (hx1:Sl w a1 n1 c1 x1) (hy1:Sl w b1 m1 d1 y1) (hx2:Sl w a2 n2 c2 x2) (hy2:Sl w b2 m2 d2 y2) (ox1:Ok x1) (oy1:Ok y1) (ox2:Ok x2) (oy2:Ok y2) (kx1:MayL x1 = true) (ky1:MayL y1 = true) (kx2:MayL x2 = true) (ky2:MayL y2 = true) (sz:SzOk x1 y1 x2 y2) :
  Calls Tryz.prog 133 #[ratV g1 a1 n1 c1 b1 m1 d1,ratV g2 a2 n2 c2 b2 m2 d2] w fun e w' => e = .returned (.int .i64 (cmpN (val x1 * val y2) (val x2 * val y1))) ∧ Below w.heap.size w w':=by
 have bx:=Box.made w g1 a1 n1 c1 b1 m1 d1
 obtain ⟨wa,hwa⟩:∃ wa,ratBox w g1 a1 n1 c1 b1 m1 d1 = wa:=⟨_,rfl⟩
 rw [hwa] at bx
 have by_:=Box.made wa g2 a2 n2 c2 b2 m2 d2
 obtain ⟨wb,hwb⟩:∃ wb,ratBox wa g2 a2 n2 c2 b2 m2 d2 = wb:=⟨_,rfl⟩
 rw [hwb] at by_
 have hba:Below w.heap.size w wa:=by rw [← hwa]; exact bAl
 have hbb:Below wa.heap.size wa wb:=by rw [← hwb]; exact bAl
 have bx2:=bx.keep hbb
 have hB:=hba.trans (hbb.mono hba.size)
 unfold ratBox at hwa hwb
 have p1:=bx2.d1
 have p2:=bx2.d2
 have q1:=by_.d1
 have q2:=by_.d2
 have lx1:=bitsN_le ox1 (MayL.len kx1)
 have ly1:=bitsN_le oy1 (MayL.len ky1)
 have lx2:=bitsN_le ox2 (MayL.len kx2)
 have ly2:=bitsN_le oy2 (MayL.len ky2)
 obtain ⟨B1,e1⟩:∃ B,bitsN x1 = B:=⟨_,rfl⟩
 obtain ⟨C1,f1⟩:∃ B,bitsN y1 = B:=⟨_,rfl⟩
 obtain ⟨B2,e2⟩:∃ B,bitsN x2 = B:=⟨_,rfl⟩
 obtain ⟨C2,f2⟩:∃ B,bitsN y2 = B:=⟨_,rfl⟩
 have HK:=Hd (fun (W:World) (hb:Below wb.heap.size wb W) => (⟨by have K:=nbits_any a1 n1 c1 x1 W ((hx1.below hB).below hb) ox1 kx1; rw [e1] at K; exact K,by have K:=nbits_any b1 m1 d1 y1 W ((hy1.below hB).below hb) oy1 ky1; rw [f1] at K; exact K,by have K:=nbits_any a2 n2 c2 x2 W ((hx2.below hB).below hb) ox2 kx2; rw [e2] at K; exact K,by have K:=nbits_any b2 m2 d2 y2 W ((hy2.below hB).below hb) oy2 ky2; rw [f2] at K; exact K⟩ :
  (Calls Tryz.prog 119 #[.slice a1 n1 c1] W fun e w' => e = .returned (.int .i64 (B1:Nat)) ∧ w' = W) ∧ (Calls Tryz.prog 119 #[.slice b1 m1 d1] W fun e w' => e = .returned (.int .i64 (C1:Nat)) ∧ w' = W) ∧ (Calls Tryz.prog 119 #[.slice a2 n2 c2] W fun e w' => e = .returned (.int .i64 (B2:Nat)) ∧ w' = W) ∧ (Calls Tryz.prog 119 #[.slice b2 m2 d2] W fun e w' => e = .returned (.int .i64 (C2:Nat)) ∧ w' = W)))
 have HP1:=Hd (fun (W:World) (hb:Below wb.heap.size wb W) => product_any a1 b2 n1 c1 m2 d2 x1 y2 W ((hx1.below hB).below hb) ((hy2.below hB).below hb) ox1 oy2 kx1 ky2)
 have HP2:=Hd (fun (W:World) (hb:Below wb.heap.size wb W) => product_any a2 b1 n2 c2 m1 d1 x2 y1 W ((hx2.below hB).below hb) ((hy1.below hB).below hb) ox2 oy1 kx2 ky1)
 have hlt:=sz.lt
 have hgt:=sz.gt
 rw [e1,e2,f1,f2] at hlt hgt
 rw [e1] at lx1
 rw [f1] at ly1
 rw [e2] at lx2
 rw [f2] at ly2
 obtain ⟨V1,hV1⟩:∃ V,val x1 * val y2 = V:=⟨_,rfl⟩
 obtain ⟨V2,hV2⟩:∃ V,val x2 * val y1 = V:=⟨_,rfl⟩
 rw [hV1,hV2] at hlt hgt
 rw [hV1] at HP1
 rw [hV2] at HP2
 rw [hV1,hV2]
 have HBB:=Hd hB
 have HHlt:=Hd hlt
 have HHgt:=Hd hgt
 unfold ratV
 clear bx bx2 by_ hba hbb hB hx1 hy1 hx2 hy2 sz e1 e2 f1 f2 hV1 hV2 hlt hgt
 go_enter Tryz.func133,Tryz.ntmps133
 have Fp1:=fun x:Ext wb => x.cell p1
 have Fq2:=fun x:Ext wb => x.cell q2
 have hNE:=Ext.ne wb
 go_wp2_with fail
 refine wp_region_ext (by kernel_rfl) (by kernel_rfl) ?_
 repeat (go_big_quiet_step (first
  | (go_at_call_of 119 (Value.slice a1 n1 c1); rename_i x; exact Ext.call (Uh HK x.w x.bel).1 (fun e w' h => ⟨h.1,by rw [h.2]; exact Below.refl _ _⟩))
  | (go_at_call_of 119 (Value.slice b2 m2 d2); rename_i x; exact Ext.call (Uh HK x.w x.bel).2.2.2 (fun e w' h => ⟨h.1,by rw [h.2]; exact Below.refl _ _⟩))))
 refine wpQuiet_nil ?_
 rintro _ ⟨xE,rfl⟩
 clear Fp1 Fq2 hNE
 have HBE:=Hd xE.bel
 have r1:=xE.cell q1
 have r2:=xE.cell p2
 have r3:=xE.cell p1
 have r4:=xE.cell q2
 clear p1 p2 q1 q2
 have Fr1:=fun x:Ext xE.w => x.cell r1
 have Fr2:=fun x:Ext xE.w => x.cell r2
 have hNE:=Ext.ne xE.w
 go_wp2_with fail
 refine wp_region_ext (by kernel_rfl) (by kernel_rfl) ?_
 repeat (go_big_quiet_step (first
  | (go_at_call_of 119 (Value.slice a2 n2 c2); rename_i x; exact Ext.call (Uh HK x.w ((Uh HBE).trans (x.bel.mono (Uh HBE).size))).2.2.1 (fun e w' h => ⟨h.1,by rw [h.2]; exact Below.refl _ _⟩))
  | (go_at_call_of 119 (Value.slice b1 m1 d1); rename_i x; exact Ext.call (Uh HK x.w ((Uh HBE).trans (x.bel.mono (Uh HBE).size))).2.1 (fun e w' h => ⟨h.1,by rw [h.2]; exact Below.refl _ _⟩))))
 refine wpQuiet_nil ?_
 rintro _ ⟨xG,rfl⟩
 clear Fr1 Fr2 hNE
 have HBG:=Hd ((Uh HBE).trans (xG.bel.mono (Uh HBE).size))
 have s1:=xG.cell r1
 have s2:=xG.cell r2
 have s3:=xG.cell r3
 have s4:=xG.cell r4
 clear r1 r2 r3 r4
 by_cases h1:B1 + C2 + 1 < B2 + C1
 ·have h1':(B1:Int) + (C2:Int) + 1 < (B2:Int) + (C1:Int):=by omega
  have HR:=Hd (cmpN_lt (Uh HHlt h1))
  clear h1
  go_wp2_with fail
  go_ret
  rw [Uh HR]
  exact ⟨rfl,(Uh HBB).trans ((Uh HBG).mono (Uh HBB).size)⟩
 ·have h1':¬ (B1:Int) + (C2:Int) + 1 < (B2:Int) + (C1:Int):=by omega
  by_cases h2:B2 + C1 + 1 < B1 + C2
  ·have h2':(B2:Int) + (C1:Int) + 1 < (B1:Int) + (C2:Int):=by omega
   have HR:=Hd (cmpN_gt (Uh HHgt h2))
   clear h1 h2
   go_wp2_with fail
   go_ret
   rw [Uh HR]
   exact ⟨rfl,(Uh HBB).trans ((Uh HBG).mono (Uh HBB).size)⟩
  ·have h2':¬ (B2:Int) + (C1:Int) + 1 < (B1:Int) + (C2:Int):=by omega
   clear h1 h2
   have l1:w.heap.size < xG.w.heap.size:=World.block_lt_of_cell? _ _ s3
   have l2:wa.heap.size < xG.w.heap.size:=World.block_lt_of_cell? _ _ s1
   go_wp2_with fail
   go_region_held3 (fun w' => w'.cell? ⟨w.heap.size,1,none⟩ = some (.slice a1 n1 c1) ∧ w'.cell? ⟨wa.heap.size,2,none⟩ = some (.slice b2 m2 d2) ∧ w'.cell? ⟨wa.heap.size,1,none⟩ = some (.slice a2 n2 c2) ∧ w'.cell? ⟨w.heap.size,2,none⟩ = some (.slice b1 m1 d1)) (first | go_keep | (exact ⟨k3,k4,k1,k2⟩) | (exact ⟨j3,j4,j1,j2⟩))
    (first
     | (go_at_call_of 120 (Value.slice a1 n1 c1); refine (Uh HP1 _ (Uh HBG).drew).mono ?_; rintro _ wc ⟨ac,nc,cc,cs,rfl,hWc,hnc,hbc⟩; have hbGc:Below xG.w.heap.size xG.w wc:=(Below.refl _ _).drew.trans hbc; have hbc2:=(Uh HBG).trans (hbGc.mono (Uh HBG).size); have k1:=(hbGc.cell (p:=⟨wa.heap.size,1,none⟩) l2).trans s1; have k2:=(hbGc.cell (p:=⟨w.heap.size,2,none⟩) l1).trans s2; have k3:=(hbGc.cell (p:=⟨w.heap.size,1,none⟩) l1).trans s3; have k4:=(hbGc.cell (p:=⟨wa.heap.size,2,none⟩) l2).trans s4; have HC:=Hd (And.intro hWc (And.intro hnc hbc2)); clear hWc hnc hbc hbGc hbc2)
     | (go_at_call_of 120 (Value.slice a2 n2 c2); refine (Uh HP2 _ (Uh HC).2.2).mono ?_; rintro _ wd ⟨ad,nd,cd,ds,rfl,hWd,hnd,hbd⟩; have j1:=(ck hbd k1); have j2:=(ck hbd k2); have j3:=(ck hbd k3); have j4:=(ck hbd k4); have HKC:=Hd (compareWide_any ac ad nc cc nd cd V1 V2 cs ds wd ((Uh HC).1.below hbd) hWd (by have:=(Uh HC).2.1; omega) (by omega)); have HD:=Hd ((Uh HC).2.2.trans (hbd.mono (Uh HC).2.2.size)); clear hWd hnd hbd)
     | (go_at_call 160; refine (Uh HKC).mono ?_; rintro _ we ⟨rfl,hbe⟩; have i1:=(ck hbe j1); have i2:=(ck hbe j2); have i3:=(ck hbe j3); have i4:=(ck hbe j4); have HF:=Hd ((Uh HD).trans (hbe.mono (Uh HD).size)); clear hbe))
   all_goals
    try go_wp2_with fail
    try go_ret
    exact ⟨rfl,(Uh HBB).trans ((Uh HF).mono (Uh HBB).size)⟩
end Go.Proofs.YtgfpfjghdbcihaaGreatDoor
