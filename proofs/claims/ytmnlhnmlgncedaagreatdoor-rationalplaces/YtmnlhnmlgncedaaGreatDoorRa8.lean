/- Wim -/
import Derived.Test.YtmnlhnmlgncedaaGreatDoorWik
import Derived.Deep.LoopGhost
import Derived.Test.YtmnlhnmlgncedaaGreatDoorWi2
namespace Go.Proofs.YtmnlhnmlgncedaaGreatDoor
open Go.RowKit Go.Deep
set_option linter.unusedVariables false
def NdPost (w w':World) (q r:Nat) (e:Ending):Prop:=∃ a m c a' m' c',e = .returned (.tuple #[.slice a m c,.slice a' m' c']) ∧ Sl w' a m c (limbs q) ∧ NewAt w.heap.size a ∧ Sl w' a' m' c' (limbs r) ∧ NewAt w.heap.size a' ∧ Below w.heap.size w w'

theorem dig_old {w wb:World} {p:Pc} (hp:Sl w p.a p.n p.c p.xs) (op:Ok p.xs) (np:Norm p.xs) (lp:p.n ≤ dLimbs) (hb:Below w.heap.size w wb) {g:Nat} (hg:w.heap.size ≤ g):Dig wb g p :=
 ⟨hp.below hb,op,np,lp,fun hne x hx hxb => by
  obtain ⟨b,off,e,hc⟩:=hp.cells.resolve_left hne
  rw [e] at hx
  cases hx
  have h0:0 < p.xs.length:=List.length_pos_iff.2 hne
  have h3:b < w.heap.size:=World.block_lt_of_cell? _ _ (hc 0 h0)
  have h2:b = g:=hxb
  omega⟩
theorem dig_spread {w wa wb : World} {a0 : Option Addr} {n0 c0 : Nat} {xs : List Nat} (h0 : Sl w a0 n0 c0 xs) {a : Option Addr} {n c : Nat} {ps : List Pc} (hW : Wide wb a n c (val xs) ps) (hf : WdFrom a0 ps) {g : Nat} (hg : w.heap.size ≤ g) : ∀ p ∈ ps, Dig wb g p := fun p hp =>
  ⟨(hW.sl.each p hp).1, (hW.sl.each p hp).2, hW.norm p hp, hW.len p hp, fun hne x hx hxb => by
    obtain ⟨y, hy, hxy⟩ := hf p hp x hx
    have hx0 : xs ≠ [] := by
      intro e
      have hl := hW.sl.len
      have hpos : 0 < n := by rw [← hl]; exact List.length_pos_iff.2 (fun e2 => by rw [e2] at hp; cases hp)
      have h1 := wide_ge hW hpos
      rw [e] at h1
      have h2 : 0 < wD ^ (n - 1) := Nat.pow_pos wD_pos
      have h3 : val ([] : List Nat) = 0 := rfl
      omega
    obtain ⟨b, off, e, hc⟩ := h0.cells.resolve_left hx0
    rw [hy] at e
    cases e
    have h1 : 0 < xs.length := List.length_pos_iff.2 hx0
    have h3 : b < w.heap.size := World.block_lt_of_cell? _ _ (hc 0 h1)
    have h2 : x.block = b := hxy
    omega⟩
theorem nd_row {w wb w2:World} {p:Pc} {ps:List Pc} {v':Value} {g0:Nat} (hb:Below w.heap.size w wb) (hps:∀ g,w.heap.size ≤ g → ∀ q ∈ p :: ps,Dig wb g q) (hown:w2.ownsRow w.heap.size 23 1 v' (1 + ps.length) ([slV p] ++ ps.map slV)) (hg0:w.heap.size ≤ g0) (hg:wb.grownBy w2 (some g0)):∃ g cap,v' = .slice (some ⟨g,0,none⟩) (1 + ps.length) cap ∧ RowD w w2 g cap (p :: ps):=by
 have hl:(p :: ps).length = 1 + ps.length:=by rw [List.length_cons]; omega
 have hm:(p :: ps).map slV = [slV p] ++ ps.map slV:=rfl
 rcases hown with ⟨e0,⟨_,e1⟩ | ⟨g,cap,cur,e,q1,q2,q3⟩⟩
 ·omega
 ·refine ⟨g,cap,e,⟨?_,fun q hq => ?_,?_,(Array.getElem?_eq_some_iff.1 q2).1,q1⟩⟩
  ·rw [hl,hm]
   exact ⟨e0,.inr ⟨g,cap,cur,rfl,q1,q2,q3⟩⟩
  ·have h1:=(hps g0 hg0 q hq).grown hg
   exact ⟨h1.sl,h1.ok,h1.norm,h1.len,(hps g q1 q hq).off⟩
  ·have hc:=chg_grownR hg
   exact ⟨hc.os.trans hb.os,hc.tape.trans hb.tape,hc.output.trans hb.output,Nat.le_trans hb.size hc.size,fun k hk => by
    rw [hc.block k (Nat.lt_of_lt_of_le hk hb.size) (by omega)]
    exact hb.block k hk⟩
theorem nd_one {w wa:World} {v:Value} (h:w.alloc (.cells #[v] 23) = wa) (hv:v.oneCell' = true):wa.ownsRow w.heap.size 23 1 (.slice (some ⟨w.heap.size,0,none⟩) 1 1) 1 [v]:=by
 refine ⟨rfl,.inr ⟨w.heap.size,1,#[v],rfl,Nat.le_refl _,?_,Nat.le_refl _,by decide,rfl,rfl⟩⟩
 rw [← h]
 exact alloc_block _ _
theorem wv_cons (p:Pc) (ps:List Pc):wv (p :: ps) = val p.xs + wD * wv ps:=rfl
theorem nd_lt {r d x:Nat} (hr:r < d) (hx:x < wD):x + wD * r < wD * d:=by
 have h:wD * (r + 1) ≤ wD * d:=Nat.mul_le_mul_left _ hr
 rw [Nat.mul_add] at h
 omega
theorem nd_split {ys:List Nat} (m:MayL ys = true) (hl:1024 < ys.length):val ys = val (ys.take 1024) + wD * val (ys.drop 1024) ∧ ys.drop 1024 ≠ [] ∧ MayL (ys.drop 1024) = true:=by
 have h:=MayL.len m
 have hld:(ys.drop 1024).length = ys.length - 1024:=by rw [List.length_drop]
 have hdn:ys.drop 1024 ≠ []:=by intro e; rw [e] at hld; simp at hld; omega
 refine ⟨?_,hdn,MayL.mk ?_ (by omega)⟩
 ·have e:=val_split ys dLimbs (by rw [dL_eq]; omega)
  rw [← wD_def] at e
  exact e
 ·right
  rw [hld,getD_dropR,show 1024 + (ys.length - 1024 - 1) = ys.length - 1 from by omega]
  rcases MayL.norm m with e | e
  ·rw [e] at hl; simp at hl
  ·exact e
set_option maxHeartbeats 8000000 in
set_option maxRecDepth 100000 in
theorem nextDigit_short (ar an ad:Option Addr) (nr cr nn cn nd cd:Nat) (rs xs ys:List Nat) (w:World) (hr:Sl w ar nr cr rs) (hx:Sl w an nn cn xs) (hd:Sl w ad nd cd ys) (or_:Ok rs) (ox:Ok xs) (oy:Ok ys) (kr:MayL rs = true) (nx:Norm xs) (lx:nn ≤ dLimbs) (ky:MayL ys = true) (ey:ys ≠ []) (hlt:val rs < val ys) (hl:nd ≤ 1024) :
  Calls Tryz.prog 143 #[.slice ar nr cr,.slice an nn cn,.slice ad nd cd] w fun e w' => NdPost w w' ((val xs + wD * val rs) / val ys) ((val xs + wD * val rs) % val ys) e:=by
 obtain ⟨i24,hi,hz,hs,hb⟩:=info_parts Tryz.info_nat
 have HInf:=Hj (And.intro hi (And.intro hz (And.intro hs hb)))
 clear hi hz hs hb
 have vx:val xs < wD:=by
  have h1:=val_lt ox
  have h2:=hx.len
  have h3:4294967296 ^ xs.length ≤ 4294967296 ^ dLimbs:=pow_mono (by omega)
  rw [← wD_def] at h3
  omega
 have vy:val ys < wD:=by
  have h1:=val_lt oy
  have h2:=hd.len
  have e:=dL_eq
  have h3:4294967296 ^ ys.length ≤ 4294967296 ^ dLimbs:=pow_mono (by omega)
  rw [← wD_def] at h3
  omega
 have hV:=nd_lt hlt vx
 obtain ⟨V,hVV⟩:∃ V,val xs + wD * val rs = V:=⟨_,rfl⟩
 rw [hVV] at hV ⊢
 have hV2:V < wD * wD:=Nat.lt_of_lt_of_le hV (Nat.mul_le_mul_left _ (Nat.le_of_lt vy))
 have hfit:fitL V = (limbs V,0):=fitL_ok (by have:=len_two hV2; omega)
 have mV:MayL (limbs V) = true:=may_limbs hV2
 obtain ⟨wa,hwa⟩:∃ x,w.alloc (.cells #[.slice an nn cn] 23) = x:=⟨_,rfl⟩
 have hba:Below w.heap.size w wa:=by rw [← hwa]; exact bAl
 have hown0:=nd_one hwa rfl
 have KS:=Hj (spread_any ar nr cr rs wa (hr.below hba) or_ kr)
 have H:=Hj (And.intro hr (And.intro hx (And.intro hd (And.intro hba (And.intro hown0 hVV)))))
 have HF:=Hj (And.intro hfit mV)
 have hl':(nd:Int) ≤ 1024:=by omega
 have HN:=Hj (And.intro nx lx)
 have HE:=Hj (And.intro ky ey)
 clear hr hx hd hba hown0 hVV vx vy hV hV2 hfit mV nx lx kr ky ey hlt
 go_enter Tryz.func143,Tryz.ntmps143
 go_wp2_with fail
 refine (Uh KS).mono ?_
 rintro _ wb ⟨ab,nb,cb,bs,rfl,hWb,hnb,hbb,hfb,_,hnn⟩
 obtain ⟨xa,rfl⟩:∃ x,ab = some x:=by cases ab with | none => exact absurd rfl hnn | some x => exact ⟨x,rfl⟩
 obtain ⟨hr,hx,hd,hba,hown0,hVV⟩:=Uh H
 have hbw:=hba.trans (hbb.mono hba.size)
 have hown1:=own_belR hown0 hbb
 have hDg:∀ g,w.heap.size ≤ g → ∀ q ∈ (⟨an,nn,cn,xs⟩:Pc) :: bs,Dig wb g q:=fun g hg q hq => by
  rcases List.mem_cons.1 hq with e | e
  ·subst e
   exact dig_old hx ox (Uh HN).1 (Uh HN).2 hbw hg
  ·exact dig_spread (wa:=wa) hr hWb hfb hg q e
 have hbl:bs.length = nb:=hWb.sl.len
 have hnews:∀ j u,(bs.map slV)[j]? = some u → wb.cell? (xa.add j) = some u:=by
  intro j u hj
  rw [List.getElem?_map] at hj
  cases hp:bs[j]? with
  | none => rw [hp] at hj; cases hj
  | some p =>
   rw [hp] at hj
   cases hj
   rcases hWb.sl.cells with e | ⟨b,off,e,hc⟩
   ·rw [e] at hp; cases hp
   ·cases e
    have hcj:=hc j p hp
    unfold slV
    by_cases j0:j = 0
    ·subst j0; simpa [Addr.add] using hcj
    ·simpa [Addr.add,j0] using hcj
 have hnl:(bs.map slV).length = nb * 1:=by rw [List.length_map,Nat.mul_one]; exact hbl
 have HA:=Hj (And.intro hown1 (And.intro hnl (And.intro hnews (And.intro hbw.size hDg))))
 have HB:=Hj (And.intro hbw (And.intro (show wv ((⟨an,nn,cn,xs⟩:Pc) :: bs) = V by rw [wv_cons,hWb.val]; exact hVV) hbl))
 clear hr hx hd hba hown0 hVV hbw hown1 hDg hbl hnews hnl hWb hbb hfb hnn KS
 go_wp2_with (at_builtin; refine wpList_append_own _ rfl _ _ 117 rfl w.heap.size 23 i24 (.slice none 0 0) 1 24 Tryz.underlying117 (Uh HInf).1 (Uh HInf).2.1 (Uh HInf).2.2.1 (Uh HInf).2.2.2 rfl (by decide) _ 1 [.slice an nn cn] rfl (Uh HA).1 xa nb cb (bs.map slV) rfl (Uh HA).2.1 (Uh HA).2.2.1 ?c2 ?c3 ?c4 (Uh HA).2.2.2.1 ?_)
 case c2 =>
  intro u hu
  obtain ⟨p,_,rfl⟩:=List.mem_map.1 hu
  rfl
 case c3 => unfold maxLen; omega
 case c4 => omega
 intro v' w2 hown2 hg2 _
 have hbl:=(Uh HB).2.2
 obtain ⟨g,cap,rfl,hRow⟩:=nd_row (p:=⟨an,nn,cn,xs⟩) (ps:=bs) (g0:=w.heap.size) (Uh HB).1 (Uh HA).2.2.2.2 (by rw [hbl]; exact hown2) (Nat.le_refl _) hg2
 have hsl:=hRow.sl
 rw [List.length_cons,hbl] at hsl
 rw [hbl]
 have KT:=wtrim_any (some ⟨g,0,none⟩) (nb + 1) cap _ w2 hsl (by omega)
 rw [Nat.add_comm nb 1] at KT
 have HKT:=Hj KT
 have HR:=Hj hRow
 clear hown2 hg2 hbl hRow hsl KT hwa HA
 go_wp2_with fail
 refine (Uh HKT).mono ?_
 rintro _ _ ⟨m,qz,rfl,sz,tz,hw⟩
 obtain rfl:=hw.symm
 have hWd:=pl_end (N:=0) (Uh HR) tz sz
 rw [(Uh HB).2.1] at hWd
 have hmle:=tz.le
 rw [List.length_cons,(Uh HB).2.2] at hmle
 have KN:=narrow_any (some ⟨g,0,none⟩) m cap V qz w2 hWd
 rw [(Uh HF).1] at KN
 have HKN:=Hj KN
 have hbe:=(Uh HR).bel
 have HD:=Hj (And.intro ((Uh H).2.2.1.below hbe) hbe)
 clear hw sz tz hWd hmle KN hbe HR HKT HB H
 go_wp2_with fail
 refine (Uh HKN).mono ?_
 rintro _ w3 ⟨a3,m3,c3,rfl,s3,n3,b3⟩
 have KD:=ndivmod_any a3 ad m3 c3 nd cd (limbs V) ys w3 s3 ((Uh HD).1.below b3) (limbs_rep V).ok oy
 have hdv:divL (limbs V) ys = (limbs (V / val ys),limbs (V % val ys),0):=by
  unfold divL
  rw [(Uh HF).2,(Uh HE).1,(limbs_rep V).val]
  simp [(Uh HE).2]
 rw [hdv] at KD
 have HKD:=Hj KD
 have HB3:=Hj ((Uh HD).2.trans (b3.mono (Uh HD).2.size))
 clear s3 n3 b3 KD hdv HKN HD
 go_wp2_with fail
 refine (sure_any _ _ _).mono ?_
 rintro _ _ ⟨rfl,hw⟩
 obtain rfl:=hw.symm
 clear hw
 go_wp2_with fail
 refine (Uh HKD).mono ?_
 rintro _ w4 ⟨aq,mq,cq,ar4,mr4,cr4,rfl,sq,nq,sr4,nr4,_,b4⟩
 have HFin:=Hj (And.intro sq (And.intro nq (And.intro sr4 (And.intro nr4 b4))))
 clear sq nq sr4 nr4 b4 HKD
 go_wp2_with fail
 go_ret2
 exact ⟨aq,mq,cq,ar4,mr4,cr4,rfl,(Uh HFin).1,(fun x hx => Nat.le_trans (Uh HB3).size ((Uh HFin).2.1 x hx)),(Uh HFin).2.2.1,(fun x hx => Nat.le_trans (Uh HB3).size ((Uh HFin).2.2.2.1 x hx)),(Uh HB3).trans ((Uh HFin).2.2.2.2.mono (Uh HB3).size)⟩
structure NdL (w w2 wr:World) (k D Q:Nat) (gv pv:Value):Prop where
 g:∃ a m c,gv = .slice a m c ∧ Sl wr a m c (limbs k) ∧ NewAt w.heap.size a
 p:∃ a n c zs,pv = .slice a n c ∧ Wide wr a n c (k * D) zs ∧ n ≤ 200
 bel:Below w2.heap.size w2 wr
 le:Q ≤ k

set_option maxHeartbeats 8000000 in
set_option maxRecDepth 100000 in
theorem nextDigit_long (ar an ad:Option Addr) (nr cr nn cn nd cd:Nat) (rs xs ys:List Nat) (w:World) (hr:Sl w ar nr cr rs) (hx:Sl w an nn cn xs) (hd:Sl w ad nd cd ys) (or_:Ok rs) (ox:Ok xs) (oy:Ok ys) (kr:MayL rs = true) (nx:Norm xs) (lx:nn ≤ dLimbs) (ky:MayL ys = true) (ey:ys ≠ []) (hlt:val rs < val ys) (hl:1024 < nd) :
  Calls Tryz.prog 143 #[.slice ar nr cr,.slice an nn cn,.slice ad nd cd] w fun e w' => NdPost w w' ((val xs + wD * val rs) / val ys) ((val xs + wD * val rs) % val ys) e:=by
 obtain ⟨i24,hi,hz,hs,hb⟩:=info_parts Tryz.info_nat
 have HInf:=Hj (And.intro hi (And.intro hz (And.intro hs hb)))
 clear hi hz hs hb
 have vx:val xs < wD:=by
  have h1:=val_lt ox
  have h2:=hx.len
  have h3:4294967296 ^ xs.length ≤ 4294967296 ^ dLimbs:=pow_mono (by omega)
  rw [← wD_def] at h3
  omega
 have hdl:=hd.len
 obtain ⟨sp1,sp2,sp3⟩:=nd_split ky (by omega)
 have vyp:=val_pos_of_may ky ey
 have v1p:=val_pos_of_may sp3 sp2
 have hQ:(val xs + wD * val rs) / val ys ≤ val rs / val (ys.drop 1024):=by
  have h:=guess_ge (B:=wD) (d:=val ys) (d1:=val (ys.drop 1024)) (d0:=val (ys.take 1024)) (r:=val rs) (x:=val xs) wD_pos (by rw [sp1,Nat.mul_comm wD,Nat.add_comm]) v1p vx
  rw [Nat.mul_comm (val rs) wD,Nat.add_comm (wD * val rs)] at h
  exact h
 obtain ⟨V,hVV⟩:∃ V,val xs + wD * val rs = V:=⟨_,rfl⟩
 rw [hVV] at hQ ⊢
 obtain ⟨G,hG⟩:∃ G,val rs / val (ys.drop 1024) = G:=⟨_,rfl⟩
 rw [hG] at hQ
 have mG:∀ k,k ≤ G → MayL (limbs k) = true:=fun k hk => may_small kr or_ (Nat.le_trans hk (by rw [← hG]; exact Nat.div_le_self _ _))
 have hle2:=hd.le
 have hcap2:=hd.cap
 obtain ⟨bd,fd,rfl,_⟩:=hd.cells.resolve_left ey
 have sD:=hd.part 1024 (nd - 1024) (cd - 1024) (by omega) (by omega) (by omega)
 rw [List.take_of_length_le (by rw [List.length_drop]; omega)] at sD
 have oD:Ok (ys.drop 1024):=fun y hy => oy y (List.mem_of_mem_drop hy)
 have hdv:divL rs (ys.drop 1024) = (limbs G,limbs (val rs % val (ys.drop 1024)),0):=by
  unfold divL
  rw [kr,sp3,hG]
  simp [sp2]
 have u1:¬ (nd:Int) ≤ 1024:=by omega
 have u2:(1024:Int) ≤ (nd:Int):=by omega
 have u3:¬ cd = 1024:=by omega
 have u4:(1024:Int) ≤ (cd:Int):=by omega
 obtain ⟨wa,hwa⟩:∃ x,w.alloc (.cells #[.slice an nn cn] 23) = x:=⟨_,rfl⟩
 have hba:Below w.heap.size w wa:=by rw [← hwa]; exact bAl
 have hown0:=nd_one hwa rfl
 have KS:=Hj (spread_any ar nr cr rs wa (hr.below hba) or_ kr)
 have H:=Hj (And.intro hr (And.intro hx (And.intro hd (And.intro hba (And.intro hown0 hVV)))))
 have HF:=Hj (And.intro sD (And.intro oD (And.intro hdv (And.intro mG (And.intro hQ vyp)))))
 have HN:=Hj (And.intro nx lx)
 have HE:=Hj (And.intro ky kr)
 obtain ⟨R1,hR1⟩:∃ R1,val rs % val (ys.drop 1024) = R1:=⟨_,rfl⟩
 rw [hR1] at HF
 clear hr hx hd hba hown0 hVV vx hQ hdv mG nx lx kr ky ey hlt sD oD sp1 sp2 sp3 vyp v1p hG hdl hR1
 go_enter Tryz.func143,Tryz.ntmps143
 go_wp2_with fail
 refine (Uh KS).mono ?_
 rintro _ wb ⟨ab,nb,cb,bs,rfl,hWb,hnb,hbb,hfb,_,hnn⟩
 obtain ⟨xa,rfl⟩:∃ x,ab = some x:=by cases ab with | none => exact absurd rfl hnn | some x => exact ⟨x,rfl⟩
 obtain ⟨hr,hx,hd,hba,hown0,hVV⟩:=Uh H
 have hbw:=hba.trans (hbb.mono hba.size)
 have hown1:=own_belR hown0 hbb
 have hDg:∀ g,w.heap.size ≤ g → ∀ q ∈ (⟨an,nn,cn,xs⟩:Pc) :: bs,Dig wb g q:=fun g hg q hq => by
  rcases List.mem_cons.1 hq with e | e
  ·subst e
   exact dig_old hx ox (Uh HN).1 (Uh HN).2 hbw hg
  ·exact dig_spread (wa:=wa) hr hWb hfb hg q e
 have hbl:bs.length = nb:=hWb.sl.len
 have hnews:∀ j u,(bs.map slV)[j]? = some u → wb.cell? (xa.add j) = some u:=by
  intro j u hj
  rw [List.getElem?_map] at hj
  cases hp:bs[j]? with
  | none => rw [hp] at hj; cases hj
  | some p =>
   rw [hp] at hj
   cases hj
   rcases hWb.sl.cells with e | ⟨b,off,e,hc⟩
   ·rw [e] at hp; cases hp
   ·cases e
    have hcj:=hc j p hp
    unfold slV
    by_cases j0:j = 0
    ·subst j0; simpa [Addr.add] using hcj
    ·simpa [Addr.add,j0] using hcj
 have hnl:(bs.map slV).length = nb * 1:=by rw [List.length_map,Nat.mul_one]; exact hbl
 have HA:=Hj (And.intro hown1 (And.intro hnl (And.intro hnews (And.intro hbw.size hDg))))
 have HB:=Hj (And.intro hbw (And.intro (show wv ((⟨an,nn,cn,xs⟩:Pc) :: bs) = V by rw [wv_cons,hWb.val]; exact hVV) hbl))
 clear hr hx hd hba hown0 hVV hbw hown1 hDg hbl hnews hnl hWb hbb hfb hnn KS
 go_wp2_with (at_builtin; refine wpList_append_own _ rfl _ _ 117 rfl w.heap.size 23 i24 (.slice none 0 0) 1 24 Tryz.underlying117 (Uh HInf).1 (Uh HInf).2.1 (Uh HInf).2.2.1 (Uh HInf).2.2.2 rfl (by decide) _ 1 [.slice an nn cn] rfl (Uh HA).1 xa nb cb (bs.map slV) rfl (Uh HA).2.1 (Uh HA).2.2.1 ?c2 ?c3 ?c4 (Uh HA).2.2.2.1 ?_)
 case c2 =>
  intro u hu
  obtain ⟨p,_,rfl⟩:=List.mem_map.1 hu
  rfl
 case c3 => unfold maxLen; omega
 case c4 => omega
 intro v' w2 hown2 hg2 _
 have hbl:=(Uh HB).2.2
 obtain ⟨g,cap,rfl,hRow⟩:=nd_row (p:=⟨an,nn,cn,xs⟩) (ps:=bs) (g0:=w.heap.size) (Uh HB).1 (Uh HA).2.2.2.2 (by rw [hbl]; exact hown2) (Nat.le_refl _) hg2
 have hsl:=hRow.sl
 rw [List.length_cons,hbl] at hsl
 rw [hbl]
 have KT:=wtrim_any (some ⟨g,0,none⟩) (nb + 1) cap _ w2 hsl (by omega)
 rw [Nat.add_comm nb 1] at KT
 have HKT:=Hj KT
 have HR:=Hj hRow
 clear hown2 hg2 hbl hRow hsl KT hwa HA
 go_wp2_with fail
 refine (Uh HKT).mono ?_
 rintro _ _ ⟨m,qz,rfl,sz,tz,hw⟩
 obtain rfl:=hw.symm
 have hWd:=pl_end (N:=0) (Uh HR) tz sz
 rw [(Uh HB).2.1] at hWd
 have hmle:=tz.le
 rw [List.length_cons,(Uh HB).2.2] at hmle
 have hbe:=(Uh HR).bel
 have hWn:=And.intro hWd (show m ≤ 3 by omega)
 have KD:=ndivmod_any ar (some ⟨bd,fd + 1024,none⟩) nr cr (nd - 1024) (cd - 1024) rs (ys.drop 1024) w2 ((Uh H).1.below hbe) ((Uh HF).1.below hbe) or_ (Uh HF).2.1
 rw [(Uh HF).2.2.1] at KD
 have HKD:=Hj KD
 have HW:=Hj hWn
 have HD:=Hj (And.intro ((Uh H).2.2.1.below hbe) hbe)
 clear hw sz tz hWd hmle hWn KD hbe HR HKT HB H
 go_wp2_with fail
 refine (Uh HKD).mono ?_
 rintro _ w3 ⟨aq,mq,cq,ar4,mr4,cr4,rfl,sq,nq,sr4,nr4,_,b3⟩
 have KP:=product_any aq (some ⟨bd,fd,none⟩) mq cq nd cd (limbs G) ys w3 sq ((Uh HD).1.below b3) (limbs_rep G).ok oy ((Uh HF).2.2.2.1 G (Nat.le_refl _)) (Uh HE).1
 rw [(limbs_rep G).val] at KP
 have HKP:=Hj KP
 have HG:=Hj (And.intro sq (And.intro (show NewAt w.heap.size aq from fun x hx => Nat.le_trans (Uh HD).2.size (nq x hx)) b3))
 clear sq nq sr4 nr4 b3 KP HKD
 go_wp2_with fail
 refine (Uh HKP).mono ?_
 rintro _ w4 ⟨ap,np,cp,zs,rfl,hWp,hnp,b4⟩
 have HL:=Hj (show NdL w w2 w4 G (val ys) (V / val ys) (.slice aq mq cq) (.slice ap np cp) from ⟨⟨aq,mq,cq,rfl,(Uh HG).1.below b4,(Uh HG).2.1⟩,⟨ap,np,cp,zs,rfl,hWp,hnp⟩,(Uh HG).2.2.trans (b4.mono (Uh HG).2.2.size),(Uh HF).2.2.2.2.1⟩)
 have HF2:=Hj (And.intro (Uh HF).2.2.2.1 (Uh HF).2.2.2.2.2)
 clear hWp hnp b4 HKP HG HF
 obtain ⟨D,hD⟩:∃ D,val ys = D:=⟨_,rfl⟩
 rw [hD] at HL HF2
 obtain ⟨Q,hQ⟩:∃ Q,V / D = Q:=⟨_,rfl⟩
 rw [hQ] at HL
 have HQ:=Hj (And.intro hD hQ)
 clear hD hQ
 try go_wp2_with fail
 go_loopg [12,15] G (fun k gv pv wr => k ≤ G ∧ Hid (NdL w w2 wr k D Q gv pv))
 case atStart => exact ⟨Nat.le_refl _,HL⟩
 case round =>
  obtain ⟨hkG,HI⟩:=hrel
  obtain ⟨⟨ag,mg,cg,rfl,sg,ng⟩,⟨ap2,np2,cp2,zs2,rfl,hWp,hnp⟩,hbr,hQk⟩:=Uh HI
  have hWn:=(Uh HW).1.below hbr
  have KC:=compareWide_any ap2 (some ⟨g,0,none⟩) np2 cp2 m cap (gk * D) V zs2 qz wr hWp hWn (by omega) (by have:=(Uh HW).2; omega)
  by_cases hgt:V < gk * D
  ·rw [cmpN_gt hgt] at KC
   have hk1:1 ≤ gk:=by
    rcases Nat.eq_zero_or_pos gk with e | e
    ·rw [e,Nat.zero_mul] at hgt; omega
    ·exact e
   have HKC:=Hj KC
   have HX:=Hj (And.intro sg (And.intro hWp (And.intro hnp (And.intro hbr hQk))))
   have HGt:=Hj (And.intro hgt hk1)
   clear KC sg ng hWp hnp hbr hQk hWn hgt hk1 HI HL
   go_wp2_with fail
   refine (Uh HKC).mono ?_
   rintro _ w5 ⟨rfl,b5⟩
   have HB5:=Hj b5
   clear b5 HKC
   go_wp2_with fail
   refine (ratOne_any w5).mono ?_
   rintro _ w6 ⟨a1,m1,rfl,s1,_,b6⟩
   have b46:=(Uh HB5).trans (b6.mono (Uh HB5).size)
   have KS:=nsub_any ag a1 mg cg m1 m1 (limbs gk) [1] w6 ((Uh HX).1.below b46) s1 (limbs_rep gk).ok (by intro x hx; simp at hx; subst hx; decide)
   have m11:MayL [1] = true:=by decide
   have v11:val [1] = 1:=by simp [val]
   rw [sub_fit ((Uh HF2).1 gk hkG) m11 (by rw [(limbs_rep gk).val,v11]; exact (Uh HGt).2),(limbs_rep gk).val,v11] at KS
   have HKS:=Hj KS
   have HB6:=Hj b46
   clear s1 b6 b46 KS m11 v11
   go_wp2_with fail
   refine (Uh HKS).mono ?_
   rintro _ w7 ⟨a7,m7,c7,rfl,s7,n7,b7⟩
   have b47:=(Uh HB6).trans (b7.mono (Uh HB6).size)
   have b27:=(Uh HX).2.2.2.1.trans (b47.mono (Uh HX).2.2.2.1.size)
   have KSp:=spread_any (some ⟨bd,fd,none⟩) nd cd ys w7 ((Uh HD).1.below b27) oy (Uh HE).1
   rw [(Uh HQ).1] at KSp
   have HKSp:=Hj KSp
   have H7:=Hj (And.intro s7 (And.intro (show NewAt w.heap.size a7 from fun x hx => Nat.le_trans (Nat.le_trans (Uh HD).2.size (Nat.le_trans (Uh HX).2.2.2.1.size (Uh HB6).size)) (n7 x hx)) b47))
   clear s7 n7 b7 b47 b27 KSp HKS HB6 HB5
   go_wp2_with fail
   refine (sure_any _ _ _).mono ?_
   rintro _ _ ⟨rfl,hw⟩
   obtain rfl:=hw.symm
   clear hw
   go_wp2_with fail
   refine (Uh HKSp).mono ?_
   rintro _ w8 ⟨a8,n8,c8,ss,rfl,hW8,hn8,b8,_,_,_⟩
   have b48:=(Uh H7).2.2.trans (b8.mono (Uh H7).2.2.size)
   have KM:=minus_any ap2 a8 np2 cp2 n8 c8 (gk * D) D zs2 ss w8 ((Uh HX).2.1.below b48) hW8 (Nat.le_mul_of_pos_left D (Uh HGt).2) (by have:=(Uh HX).2.2.1; omega)
   rw [show gk * D - D = (gk - 1) * D by rw [Nat.sub_mul,Nat.one_mul]] at KM
   have HKM:=Hj KM
   have H8:=Hj (And.intro ((Uh H7).1.below b8) (And.intro (Uh H7).2.1 b48))
   clear hW8 hn8 b8 b48 KM HKSp H7
   go_wp2_with fail
   refine (Uh HKM).mono ?_
   rintro _ w9 ⟨a9,n9,c9,ts,rfl,hW9,hn9,b9⟩
   have HFin:=Hj (show NdL w w2 w9 (gk - 1) D Q (.slice a7 m7 c7) (.slice a9 n9 c9) from by
    have hX:=Uh HX
    have h8:=Uh H8
    have hgt:=Uh HGt
    have bb:=h8.2.2.trans (b9.mono h8.2.2.size)
    refine ⟨⟨a7,m7,c7,rfl,h8.1.below b9,h8.2.1⟩,⟨a9,n9,c9,ts,rfl,hW9,Nat.le_trans hn9 hX.2.2.1⟩,hX.2.2.2.1.trans (bb.mono hX.2.2.2.1.size),?_⟩
    rw [← (Uh HQ).2]
    have:V / D < gk:=(Nat.div_lt_iff_lt_mul (Uh HF2).2).2 hgt.1
    omega)
   have HLt:=Hj (show gk - 1 < gk by have:=(Uh HGt).2; omega)
   clear hW9 hn9 b9 HKM H8 HX HGt
   go_wp2_with fail
   go_roundg (gk - 1)
   case measure => exact Uh HLt
   case rel => exact ⟨by omega,HFin⟩
  ·have hc0:(0:Int) < cmpN (gk * D) V ↔ False:=by
    constructor
    ·intro h
     unfold cmpN at h
     split at h
     ·omega
     ·split at h
      ·omega
      ·omega
    ·intro h; cases h
   have hc1:¬ (0:Int) < cmpN (gk * D) V:=fun h => hc0.1 h
   obtain ⟨cc,hcc⟩:∃ cc,cmpN (gk * D) V = cc:=⟨_,rfl⟩
   rw [hcc] at KC hc1
   have hkQ:gk = Q:=by
    have h1:gk ≤ V / D:=(Nat.le_div_iff_mul_le (Uh HF2).2).2 (by omega)
    rw [(Uh HQ).2] at h1
    omega
   have hle:gk * D ≤ V:=by omega
   have HKC:=Hj KC
   have HX:=Hj (And.intro sg (And.intro ng (And.intro hWp (And.intro hnp hbr))))
   have HGt:=Hj (And.intro hkQ hle)
   clear KC sg ng hWp hnp hbr hQk hWn hgt hc0 hcc hkQ hle HI HL
   go_wp2_with fail
   refine (Uh HKC).mono ?_
   rintro _ w5 ⟨rfl,b5⟩
   have b25:=(Uh HX).2.2.2.2.trans (b5.mono (Uh HX).2.2.2.2.size)
   have KM:=minus_any (some ⟨g,0,none⟩) ap2 m cap np2 cp2 V (gk * D) qz zs2 w5 ((Uh HW).1.below b25) ((Uh HX).2.2.1.below b5) (Uh HGt).2 (by have:=(Uh HW).2; omega)
   have hmod:V - gk * D = V % D:=by
    rw [(Uh HGt).1,← (Uh HQ).2,Nat.mul_comm]
    have:=Nat.div_add_mod V D
    omega
   rw [hmod] at KM
   have HKM:=Hj KM
   have HB5:=Hj (And.intro b5 b25)
   clear b5 b25 KM hmod HKC
   go_wp2_with fail
   refine (Uh HKM).mono ?_
   rintro _ w6 ⟨a6,n6,c6,ts,rfl,hW6,hn6,b6⟩
   have KN:=narrow_any a6 n6 c6 (V % D) ts w6 hW6
   have hmlt:=Nat.mod_lt V (Uh HF2).2
   have hfit:fitL (V % D) = (limbs (V % D),0):=by
    have h1:MayL (limbs (V % D)) = true:=may_small (Uh HE).1 oy (by rw [(Uh HQ).1]; exact Nat.le_of_lt hmlt)
    exact fitL_ok (by have:=MayL.len h1; omega)
   rw [hfit] at KN
   have HKN:=Hj KN
   have HB6:=Hj b6
   clear hW6 hn6 b6 KN hmlt hfit HKM
   go_wp2_with fail
   refine (Uh HKN).mono ?_
   rintro _ w7 ⟨a7,m7,c7,rfl,s7,n7,b7⟩
   have HFin:=Hj (show NdPost w w7 (V / val ys) (V % val ys) (.returned (.tuple #[.slice ag mg cg,.slice a7 m7 c7])) from by
    have hX:=Uh HX
    have h5:=Uh HB5
    have b57:=(Uh HB6).trans (b7.mono (Uh HB6).size)
    have b47:=h5.1.trans (b57.mono h5.1.size)
    have b27:=h5.2.trans (b57.mono h5.2.size)
    have hD:=(Uh HQ).1
    have hQ:=(Uh HQ).2
    rw [hD,hQ,← (Uh HGt).1]
    exact ⟨ag,mg,cg,a7,m7,c7,rfl,hX.1.below b47,hX.2.1,s7,(fun x hx => Nat.le_trans (Nat.le_trans (Uh HD).2.size (Nat.le_trans h5.2.size (Uh HB6).size)) (n7 x hx)),(Uh HD).2.trans (b27.mono (Uh HD).2.size)⟩)
   clear s7 n7 b7 HKN HB6 HB5 HX HGt
   go_wp2_with fail
   refine (sure_any _ _ _).mono ?_
   rintro _ _ ⟨rfl,hw⟩
   obtain rfl:=hw.symm
   clear hw
   go_wp2_with fail
   go_ret2
   exact Uh HFin

theorem nextDigit_any (ar an ad:Option Addr) (nr cr nn cn nd cd:Nat) (rs xs ys:List Nat) (w:World) (hr:Sl w ar nr cr rs) (hx:Sl w an nn cn xs) (hd:Sl w ad nd cd ys) (or_:Ok rs) (ox:Ok xs) (oy:Ok ys) (kr:MayL rs = true) (nx:Norm xs) (lx:nn ≤ dLimbs) (ky:MayL ys = true) (ey:ys ≠ []) (hlt:val rs < val ys) :
  Calls Tryz.prog 143 #[.slice ar nr cr,.slice an nn cn,.slice ad nd cd] w fun e w' => NdPost w w' ((val xs + wD * val rs) / val ys) ((val xs + wD * val rs) % val ys) e:=by
 by_cases hl:nd ≤ 1024
 ·exact nextDigit_short ar an ad nr cr nn cn nd cd rs xs ys w hr hx hd or_ ox oy kr nx lx ky ey hlt hl
 ·exact nextDigit_long ar an ad nr cr nn cn nd cd rs xs ys w hr hx hd or_ ox oy kr nx lx ky ey hlt (by omega)
def AnPost (w w':World) (neg:Bool) (a1:Option Addr) (n1 c1:Nat) (a2:Option Addr) (n2 c2:Nat) (er:Int) (e:Ending):Prop :=
 e = .returned (.tuple #[if er = 0 then ratV (neg && decide (0 < n1)) a1 n1 c1 a2 n2 c2 else ratV false none 0 0 none 0 0,.int .i64 er]) ∧ Below w.heap.size w w'

set_option maxHeartbeats 8000000 in
theorem answer_any (neg:Bool) (a1 a2:Option Addr) (n1 c1 n2 c2:Nat) (er:Int) (w:World) :
  Calls Tryz.prog 52 #[.bool neg,.slice a1 n1 c1,.slice a2 n2 c2,.int .i64 er] w fun e w' => AnPost w w' neg a1 n1 c1 a2 n2 c2 er e:=by
 obtain ⟨wb,hwb⟩:∃ wb,w.alloc (.cells #[.bool false,.slice none 0 0,.slice none 0 0] 25) = wb:=⟨_,rfl⟩
 have hbb:Below w.heap.size w wb:=by rw [← hwb]; exact bAl
 have hO:Out wb w.heap.size:=by rw [← hwb]; exact Out.made w
 have HO:=Hj hO
 have HB:=Hj hbb
 clear hbb
 by_cases he:er = 0
 ·subst he
  clear hO
  go_enter Tryz.func52,Tryz.ntmps52
  go_wp2_with fail
  refine (signed_any neg a1 a2 n1 c1 n2 c2 wb).mono ?_
  rintro _ w2 ⟨rfl,b2⟩
  have hO3:=(Uh HO).keep b2
  obtain ⟨x0,q0⟩:=hO3.cells 0 (by decide)
  obtain ⟨x1,q1⟩:=hO3.cells 1 (by decide)
  obtain ⟨x2,q2⟩:=hO3.cells 2 (by decide)
  have r0:=hO3.fz 0 (by decide)
  have r1:=hO3.fz 1 (by decide)
  have r2:=hO3.fz 2 (by decide)
  obtain ⟨SG,hSG⟩:∃ SG,(neg && decide (0 < n1)) = SG:=⟨_,rfl⟩
  rw [hSG]
  have HSG:=Hj hSG
  have H4:=Hj (three_set w2 w.heap.size (.bool SG) (.slice a1 n1 c1) (.slice a2 n2 c2) hO3.cells)
  have HB2:=Hj ((Uh HB).trans (b2.mono (Uh HB).size))
  unfold ratV
  clear hO3 b2 hSG
  go_wp2_with fail
  obtain ⟨p0,p1,p2,c4⟩:=Uh H4
  generalize ((w2.setCell ⟨w.heap.size,0,none⟩ (.bool SG)).setCell ⟨w.heap.size,1,none⟩ (.slice a1 n1 c1)).setCell ⟨w.heap.size,2,none⟩ (.slice a2 n2 c2) = wf at *
  refine bodyPost_ret (by simp [results,Tryz.results52,go_sem,p0,p1,p2]; try rfl) rfl ?_
  refine ⟨?_,(Uh HB2).trans (c4.below (Uh HB2).size (fun k hk => by omega))⟩
  rw [if_pos rfl,Uh HSG]
  rfl
 ·have t1:(er == 0) = false:=by simpa using he
  have t2:(er != 0) = true:=by simpa using he
  obtain ⟨x0,q0⟩:=hO.cells 0 (by decide)
  obtain ⟨x1,q1⟩:=hO.cells 1 (by decide)
  obtain ⟨x2,q2⟩:=hO.cells 2 (by decide)
  have r0:=hO.fz 0 (by decide)
  have r1:=hO.fz 1 (by decide)
  have r2:=hO.fz 2 (by decide)
  have H4:=Hj (three_set wb w.heap.size (.bool false) (.slice none 0 0) (.slice none 0 0) hO.cells)
  clear hO
  go_enter Tryz.func52,Tryz.ntmps52
  go_wp2_with fail
  obtain ⟨p0,p1,p2,c4⟩:=Uh H4
  generalize ((wb.setCell ⟨w.heap.size,0,none⟩ (.bool false)).setCell ⟨w.heap.size,1,none⟩ (.slice none 0 0)).setCell ⟨w.heap.size,2,none⟩ (.slice none 0 0) = wf at *
  refine bodyPost_ret (by simp [results,Tryz.results52,go_sem,p0,p1,p2]; try rfl) rfl ?_
  refine ⟨?_,(Uh HB).trans (c4.below (Uh HB).size (fun k hk => by omega))⟩
  rw [if_neg he]
  rfl
end Go.Proofs.YtmnlhnmlgncedaaGreatDoor
