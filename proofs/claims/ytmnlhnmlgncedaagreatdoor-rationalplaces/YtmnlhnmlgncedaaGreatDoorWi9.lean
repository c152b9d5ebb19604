/- Wi7 -/
import Derived.Test.YtmnlhnmlgncedaaGreatDoorWi6
namespace Go.Proofs.YtmnlhnmlgncedaaGreatDoor
open Go.RowKit Go.Deep
set_option linter.unusedVariables false
theorem Wide.dig {w : World} {a : Option Addr} {n c v : Nat} {ps : List Pc} (h : Wide w a n c v ps) {g : Nat} (hg : w.heap.size ≤ g) : ∀ p ∈ ps, Dig w g p := fun p hp =>
  ⟨(h.sl.each p hp).1, (h.sl.each p hp).2, h.norm p hp, h.len p hp, fun hne x hx hb => by
    obtain ⟨b, off, e, hc⟩ := (h.sl.each p hp).1.cells.resolve_left hne
    rw [e] at hx
    cases hx
    have hl := (h.sl.each p hp).1.len
    have h0 : 0 < p.xs.length := List.length_pos_iff.2 hne
    have h3 : b < w.heap.size := World.block_lt_of_cell? _ _ (hc 0 h0)
    have h2 : b = g := hb
    omega⟩
theorem make_wide2 (n m:Nat) (hn:n + m ≤ 100000) (w:World):(Instr.makeSlice 117 (.int .i64 (n:Int)) (.int .i64 ((n:Int) + (m:Int)))).run Tryz.prog w = .ok (.slice (some ⟨w.heap.size,0,none⟩) n (n + m)) (w.alloc (.cells (madeCells #[.slice none 0 0] (n + m)) 23)):=by
 obtain ⟨i,hi,hz,hs,hb⟩:=info_parts Tryz.info_nat
 have h:=run_makeSlice (w:=w) (P:=Tryz.prog) 117 23 i _ Tryz.underlying117 hi hz .i64 .i64 (n:Int) ((n:Int) + (m:Int)) (by omega) (by omega) (by rw [hs]; omega) (by rw [hb]; omega) (by omega)
 rw [hs,show ((n:Int) + (m:Int)).toNat = n + m by omega,Nat.mul_one,Int.toNat_natCast] at h
 exact h
theorem row_nils {w wa:World} {n m:Nat} (hw:w.alloc (.cells (madeCells #[.slice none 0 0] (n + m)) 23) = wa) (hn:n + m ≤ 100000):RowD w wa w.heap.size (n + m) (List.replicate n pcNil):=by
 refine ⟨⟨by simp,.inr ⟨w.heap.size,n + m,madeCells #[.slice none 0 0] (n + m),by simp,Nat.le_refl _,?_,by simp,by unfold maxLen; omega,by simp [madeCells],?_⟩⟩,fun p hp => by rw [List.eq_of_mem_replicate hp]; exact dig_nil _ _,?_,?_,Nat.le_refl _⟩
 ·rw [← hw]; exact alloc_block _ _
 ·refine List.ext_getElem? (fun i => ?_)
  by_cases hi:i < n
  ·rw [List.getElem?_take_of_lt (by simpa using hi),List.getElem?_map,List.getElem?_replicate,if_pos hi]
   simp [madeCells,show i < n + m by omega,Nat.mod_one,slV,pcNil]
  ·rw [List.getElem?_eq_none (by simp; omega),List.getElem?_eq_none (by simp; omega)]
 ·rw [← hw]; exact bAl
 ·rw [← hw]; simp
theorem wv_nils (n:Nat):wv (List.replicate n pcNil) = 0:=wv_zero _ (fun p hp => by rw [List.eq_of_mem_replicate hp]; rfl)
theorem RowD.apps {w wr w2:World} {g cap:Nat} {acc qs:List Pc} (h:RowD w wr g cap acc) (hp:∀ p ∈ qs,Dig wr g p) (hown:w2.ownsRow w.heap.size 23 1 (.slice (some ⟨g,0,none⟩) (acc.length + qs.length) cap) (acc.length + qs.length) (acc.map slV ++ qs.map slV)) (hg:wr.grownBy w2 (some g)):RowD w w2 g cap (acc ++ qs):=by
 refine ⟨?_,fun q hq => ?_,?_,Nat.lt_of_lt_of_le h.lt hg.size,h.ge⟩
 ·simpa using hown
 ·rcases List.mem_append.1 hq with c | c
  ·exact (h.each q c).grown hg
  ·exact (hp q c).grown hg
 ·have hc:=chg_grownR hg
  exact ⟨hc.os.trans h.bel.os,hc.tape.trans h.bel.tape,hc.output.trans h.bel.output,Nat.le_trans h.bel.size hc.size,fun k hk => by
   have hge:=h.ge
   rw [hc.block k (Nat.lt_of_lt_of_le hk h.bel.size) (by omega)]
   exact h.bel.block k hk⟩

set_option maxHeartbeats 8000000 in
set_option maxRecDepth 100000 in
theorem raise_any (a:Option Addr) (n c v:Nat) (ps:List Pc) (k:Nat) (w:World) (h:Wide w a n c v ps) (hn:n ≤ 1000) (hk:k ≤ 1000) (ha:a = none → n = 0 ∧ c = 0) :
  Calls Tryz.prog 180 #[.slice a n c,.int .i64 (k:Int)] w fun e w' => WdPostN (n + k) w w' (wD ^ k * v) e:=by
 by_cases h0:k = 0
 ·have H:=Hj h
  subst h0
  clear h
  go_enter Tryz.func180,Tryz.ntmps180
  go_wp2_with fail
  go_ret
  exact ⟨a,n,c,ps,rfl,by rw [Nat.pow_zero,Nat.one_mul]; exact Uh H,by omega,Below.refl _ _⟩
 ·obtain ⟨i24,hi,hz,hs,hb⟩:=info_parts Tryz.info_nat
  have HInf:=Hj (And.intro hi (And.intro hz (And.intro hs hb)))
  clear hi hz hs hb
  have e0:((k:Int) == 0) = false:=by simp; omega
  have e9:decide (k = 0) = false:=by simpa using h0
  have hm:=make_wide2 k n (by omega)
  obtain ⟨wa,hwa⟩:∃ x,w.alloc (.cells (madeCells #[.slice none 0 0] (k + n)) 23) = x:=⟨_,rfl⟩
  have hR0:=row_nils hwa (by omega)
  have hba:=hR0.bel
  have hSa:=(h.below hba).sl
  have hown:=hR0.own
  rw [List.length_replicate] at hown
  have HOw:=Hj hown
  have HR0:=Hj hR0
  have HDg:=Hj (fun p hp => (h.dig (Nat.le_refl w.heap.size) p hp).below hba)
  have HSa:=Hj hSa
  have HA:=Hj ha
  have hln:=h.sl.len
  have HV:=Hj h.val
  have HLn:=Hj hln
  clear hown hR0 hba hSa h ha hln
  go_enter Tryz.func180,Tryz.ntmps180
  go_wp2_with (at_builtin; refine wpList_append_fits_any _ rfl _ _ 117 rfl w.heap.size 23 i24 1 Tryz.underlying117 (Uh HInf).1 (Uh HInf).2.2.1 w.heap.size k (k + n) ((List.replicate k pcNil).map slV) rfl (Uh HOw) a n c (ps.map slV) rfl ?c0 (Uh HA) ?c1 ?c2 (Nat.le_refl _) ?_)
  case c0 => simp [Uh HLn]
  case c1 =>
   intro ad had j u hj
   rw [List.getElem?_map] at hj
   cases hp:ps[j]? with
   | none => rw [hp] at hj; cases hj
   | some p =>
    rw [hp] at hj
    cases hj
    rcases (Uh HSa).cells with e | ⟨b,off,e,hc⟩
    ·rw [e] at hp; cases hp
    ·rw [e] at had
     cases had
     have hcj:=hc j p hp
     unfold slV
     by_cases j0:j = 0
     ·subst j0; simpa [Addr.add] using hcj
     ·simpa [Addr.add,j0] using hcj
  case c2 =>
   intro u hu
   obtain ⟨p,_,rfl⟩:=List.mem_map.1 hu
   rfl
  intro w4 hown4 hg4
  have hR4:=(Uh HR0).apps (Uh HDg) (by rw [List.length_replicate,Uh HLn,List.map_replicate]; exact hown4) hg4
  have hsl:=hR4.sl
  rw [List.length_append,List.length_replicate,Uh HLn] at hsl
  have KT:=wtrim_any (some ⟨w.heap.size,0,none⟩) (k + n) (k + n) (List.replicate k pcNil ++ ps) w4 hsl (by omega)
  have HKT:=Hj KT
  have HR4:=Hj hR4
  have HVv:=Hj (show wv (List.replicate k pcNil ++ ps) = wD ^ k * v by rw [wv_append,wv_nils,List.length_replicate,Uh HV,Nat.zero_add])
  clear hown4 hg4 hR4 hsl KT hm hwa
  go_wp2_with fail
  refine (Uh HKT).mono ?_
  rintro _ _ ⟨m,qz,rfl,sz,tz,hw⟩
  obtain rfl:=hw.symm
  have hWd:=pl_end (N:=0) (Uh HR4) tz sz
  rw [Uh HVv] at hWd
  have hmle:=tz.le
  rw [List.length_append,List.length_replicate,Uh HLn] at hmle
  have HFin:=Hj (And.intro hWd (And.intro hmle (Uh HR4).bel))
  clear hw sz tz hWd hmle HKT
  go_wp2_with fail
  go_ret
  exact ⟨_,_,_,qz,rfl,(Uh HFin).1,by have:=(Uh HFin).2.1; omega,(Uh HFin).2.2⟩
theorem wide_nil (w:World):Wide w none 0 0 0 []:=⟨⟨rfl,Nat.le_refl _,.inl rfl,(fun p hp => by cases hp)⟩,(fun p hp => by cases hp),(fun p hp => by cases hp),.inl rfl,rfl⟩
structure TmI (w wr:World) (v:Value) (V B:Nat):Prop where
 wide:∃ a n c zs,v = .slice a n c ∧ Wide wr a n c V zs ∧ n ≤ B
 bel:Below w.heap.size w wr
theorem tm_in {f g:Nat → Nat} {i j v2:Nat}:sF wD f i * v2 + wD ^ i * f i * sF wD g j + wD ^ (i + j) * (f i * g j) = sF wD f i * v2 + wD ^ i * f i * sF wD g (j + 1):=by
 simp only [sF,Nat.mul_add]
 rw [Nat.pow_add]
 have e:wD ^ i * wD ^ j * (f i * g j) = wD ^ i * f i * (wD ^ j * g j):=by
  rw [Nat.mul_assoc,Nat.mul_assoc,← Nat.mul_assoc (wD ^ j),Nat.mul_comm (wD ^ j) (f i),Nat.mul_assoc (f i)]
 rw [e]
 omega
theorem tm_out {f g:Nat → Nat} {i n2 v2:Nat} (h:v2 = sF wD g n2):sF wD f i * v2 + wD ^ i * f i * sF wD g n2 = sF wD f (i + 1) * v2:=by
 rw [← h]
 simp only [sF]
 rw [Nat.add_mul]
theorem mul_two {xs ys:List Nat} (m1:MayL xs = true) (m2:MayL ys = true) (h1:val xs < wD) (h2:val ys < wD):mulL xs ys = (limbs (val xs * val ys),0) ∧ (limbs (val xs * val ys)).length ≤ 2048:=by
 have h:=len_two (Nat.lt_of_le_of_lt (Nat.mul_le_mul_left (val xs) (Nat.le_of_lt h2)) (Nat.mul_lt_mul_of_pos_right h1 wD_pos))
 refine ⟨?_,h⟩
 unfold mulL
 rw [m1,m2]
 exact fitL_ok (by omega)

set_option maxHeartbeats 8000000 in
set_option maxRecDepth 100000 in
theorem times_any (a1 a2:Option Addr) (n1 c1 n2 c2 v1 v2:Nat) (ps qs:List Pc) (w:World) (h1:Wide w a1 n1 c1 v1 ps) (h2:Wide w a2 n2 c2 v2 qs) (hn1:n1 ≤ 10) (hn2:n2 ≤ 10) :
  Calls Tryz.prog 140 #[.slice a1 n1 c1,.slice a2 n2 c2] w fun e w' => WdPostN 200 w w' (v1 * v2) e:=by
 have e1:v1 = sF wD (fun i => val (dgP ps i).xs) n1:=by rw [← h1.val]; exact wv_sF ps n1 (by rw [h1.sl.len]; omega)
 have e2:v2 = sF wD (fun i => val (dgP qs i).xs) n2:=by rw [← h2.val]; exact wv_sF qs n2 (by rw [h2.sl.len]; omega)
 have H1:=Hj h1
 have H2:=Hj h2
 have HE:=Hj (And.intro e1 e2)
 clear h1 h2 e1 e2
 go_enter Tryz.func140,Tryz.ntmps140
 go_wp2_with fail
 go_loopw [11,5,6,7,8] (fun cnt z _ _ _ wr => ∃ i:Nat,i ≤ n1 ∧ cnt = .int .i64 (i:Int) ∧ TmI w wr z (sF wD (fun i => val (dgP ps i).xs) i * v2) (30 + 12 * i)) (fun cnt _ _ _ _ _ => n1 - (intOf cnt).toNat)
 case atStart => exact ⟨0,Nat.zero_le _,rfl,⟨none,0,0,[],rfl,by rw [show sF wD (fun i => val (dgP ps i).xs) 0 * v2 = 0 from Nat.zero_mul _]; exact wide_nil w,by omega⟩,Below.refl _ _⟩
 case round =>
  obtain ⟨i,hi,rfl,hst⟩:=hrel
  obtain ⟨W0,hW0⟩:∃ W1,W1 = wr:=⟨_,rfl⟩
  subst hW0
  have HSt:=Hj hst
  clear hst
  by_cases hlti:i < n1
  ·have hlti':(i:Int) < (n1:Int):=by omega
   go_wp2_with fail
   go_loopw [16,5,7,8] (fun cnt z _ _ wr => ∃ j:Nat,j ≤ n2 ∧ cnt = .int .i64 (j:Int) ∧ TmI w wr z (sF wD (fun i => val (dgP ps i).xs) i * v2 + wD ^ i * val (dgP ps i).xs * sF wD (fun i => val (dgP qs i).xs) j) (30 + 12 * i + j)) (fun cnt _ _ _ _ => n2 - (intOf cnt).toNat)
   case atStart => exact ⟨0,Nat.zero_le _,rfl,by have h:=Uh HSt; exact h⟩
   case round =>
    obtain ⟨j,hj,rfl,hst⟩:=hrel
    obtain ⟨⟨az,nz,cz,zs,rfl,hWz,hnz⟩,hbl⟩:=hst
    have HBl:=Hj hbl
    have HWz:=Hj hWz
    by_cases hltj:j < n2
    ·have hltj':(j:Int) < (n2:Int):=by omega
     have W1:=(Uh H1).below hbl
     have W2:=(Uh H2).below hbl
     obtain ⟨s1,o1,m1,l1,d1⟩:=wide_dg W1 i
     obtain ⟨s2,o2,m2,l2,d2⟩:=wide_dg W2 j
     obtain ⟨b1,f1,P,rfl,hp,hc1,_,_⟩:=W1.sl.at' hlti
     obtain ⟨b2,f2,Q,rfl,hq,hc2,_,_⟩:=W2.sl.at' hltj
     have eP:dgP ps i = P:=by unfold dgP; rw [hp]; rfl
     have eQ:dgP qs j = Q:=by unfold dgP; rw [hq]; rfl
     rw [eP] at s1 o1 m1 l1 d1
     rw [eQ] at s2 o2 m2 l2 d2
     obtain ⟨hml,hlen⟩:=mul_two (dL_may s1.len m1 l1) (dL_may s2.len m2 l2) d1 d2
     obtain ⟨T,hT⟩:∃ T,val P.xs * val Q.xs = T:=⟨_,rfl⟩
     rw [hT] at hml hlen
     have HKM:=Hj (fun (W:World) (hb:Below wr.heap.size wr W) => (by have K:=nmul_any P.a Q.a P.n P.c Q.n Q.c P.xs Q.xs W (s1.below hb) (s2.below hb) o1 o2; rw [hml] at K; exact K:Calls Tryz.prog 77 #[.slice P.a P.n P.c,.slice Q.a Q.n Q.c] W fun e w' => Res2 W w' (limbs T,0) e))
     have HM:=Hj (MayL.mk (limbs_rep T).norm hlen)
     have HPQ:=Hj (And.intro eP (And.intro eQ hT))
     have hi0:(0:Int) ≤ (i:Int):=by omega
     have hj0:(0:Int) ≤ (j:Int):=by omega
     clear W1 W2 s1 o1 m1 l1 d1 s2 o2 m2 l2 d2 hp hq eP eQ hml hlen hT hWz hbl
     go_wp2_with fail
     go_region_with (first
      | (go_at_call 77; refine (Uh HKM _ ?_).mono ?_; exact (Below.refl _ _).drew; rintro _ wc ⟨ad,md,cd,rfl,sd,nd,bd⟩; have KF:=Hj (spread_any ad md cd (limbs T) wc sd (limbs_rep T).ok (Uh HM)); have HBD:=Hj bd; clear sd nd bd)
      | (go_at_call 45; refine (sure_any _ _ _).mono ?_; rintro _ _ ⟨rfl,hw⟩; obtain rfl:=hw.symm; clear hw)
      | (go_at_call 139; refine (Uh KF).mono ?_; rintro _ we ⟨ae,ne,ce,ss,rfl,hWe,hne2,hbe,hfe,hnw,hnn⟩; have HWe:=Hj (And.intro hWe (And.intro hne2 (And.intro hbe hnn))); clear hWe hne2 hbe hfe hnw hnn))
     all_goals
      obtain ⟨V,hV⟩:∃ V,sF wD (fun i => val (dgP ps i).xs) i * v2 + wD ^ i * val (dgP ps i).xs * sF wD (fun i => val (dgP qs i).xs) j = V:=⟨_,rfl⟩
      have hWe:=(Uh HWe).1
      rw [(limbs_rep T).val] at hWe
      have hne2:=(Uh HWe).2.1
      have hbre:Below wr.heap.size wr we:=((Below.refl wr.heap.size wr).drew.trans (Uh HBD)).trans ((Uh HWe).2.2.1.mono (Uh HBD).size)
      have hWz2:=(Uh HWz).below hbre
      rw [hV] at hWz2
      have KR:=raise_any ae ne ce T ss (i + j) we hWe (by omega) (by omega) (fun h => absurd h (Uh HWe).2.2.2)
      rw [show ((i + j:Nat):Int) = (i:Int) + (j:Int) by omega] at KR
      have HKR:=Hj KR
      have HW2:=Hj hWz2
      have HBre:=Hj hbre
      have HV:=Hj hV
      clear KR hWe hbre hWz2 hV HKM HBD HWe HM
      go_wp2_with fail
      refine (Uh HKR).mono ?_
      rintro _ wf ⟨ar,nr,cr,rs,rfl,hWr,hnr,hbr⟩
      have KP:=plus_any az ar nz cz nr cr V (wD ^ (i + j) * T) zs rs wf ((Uh HW2).below hbr) hWr (by omega) (by omega)
      have HKP:=Hj KP
      have HBf:=Hj ((Uh HBre).trans (hbr.mono (Uh HBre).size))
      have hmx:max nz nr + 1 ≤ 30 + 12 * i + (j + 1):=by omega
      clear KP hWr hnr hbr HKR HW2 HBre
      go_wp2_with fail
      refine (Uh HKP).mono ?_
      rintro _ wg ⟨at_,nt,ct,ts,rfl,hWt,hnt,hbt⟩
      have HFin:=Hj (show TmI w wg (.slice at_ nt ct) (sF wD (fun i => val (dgP ps i).xs) i * v2 + wD ^ i * val (dgP ps i).xs * sF wD (fun i => val (dgP qs i).xs) (j + 1)) (30 + 12 * i + (j + 1)) from by
       refine ⟨⟨at_,nt,ct,ts,rfl,?_,by omega⟩,?_⟩
       ·have e:=tm_in (f:=fun i => val (dgP ps i).xs) (g:=fun i => val (dgP qs i).xs) (i:=i) (j:=j) (v2:=v2)
        rw [← e,Uh HV,(Uh HPQ).1,(Uh HPQ).2.1,(Uh HPQ).2.2]
        exact hWt
       ·have h1:=(Uh HBl).trans ((Uh HBf).mono (Uh HBl).size)
        exact h1.trans (hbt.mono h1.size))
      clear hWt hnt hbt HKP
      go_wp2_with fail
      exact ⟨⟨j + 1,by omega,by go_num,Uh HFin⟩,by simp [intOf]; omega⟩
    ·have hltj':¬ (j:Int) < (n2:Int):=by omega
     have hjn:j = n2:=by omega
     have HFin:=Hj (show TmI w wr (.slice az nz cz) (sF wD (fun i => val (dgP ps i).xs) (i + 1) * v2) (30 + 12 * (i + 1)) from by
      refine ⟨⟨az,nz,cz,zs,rfl,?_,by omega⟩,hbl⟩
      rw [← tm_out (f:=fun i => val (dgP ps i).xs) (g:=fun i => val (dgP qs i).xs) (n2:=n2) (Uh HE).2,← hjn]
      exact hWz)
     clear hWz hbl hjn
     go_wp2_with fail
     exact ⟨⟨i + 1,by omega,by go_num,Uh HFin⟩,by simp [intOf]; omega⟩
  ·have hlti':¬ (i:Int) < (n1:Int):=by omega
   have hin:i = n1:=by omega
   obtain ⟨⟨az,nz,cz,zs,rfl,hWz,hnz⟩,hbl⟩:=Uh HSt
   have HFin:=Hj (show WdPostN 200 w W0 (v1 * v2) (.returned (.slice az nz cz)) from ⟨az,nz,cz,zs,rfl,by rw [(Uh HE).1,← hin]; exact hWz,by omega,hbl⟩)
   clear hWz hbl hin
   go_wp2_with fail
   go_ret
   exact Uh HFin
set_option maxHeartbeats 8000000 in
theorem product_any (a1 a2:Option Addr) (n1 c1 n2 c2:Nat) (xs ys:List Nat) (w:World) (h1:Sl w a1 n1 c1 xs) (h2:Sl w a2 n2 c2 ys) (o1:Ok xs) (o2:Ok ys) (m1:MayL xs = true) (m2:MayL ys = true) :
  Calls Tryz.prog 86 #[.slice a1 n1 c1,.slice a2 n2 c2] w fun e w' => WdPostN 200 w w' (val xs * val ys) e:=by
 have K1:=Hj (spread_any a1 n1 c1 xs w h1 o1 m1)
 have H2:=Hj h2
 clear h1 h2
 go_enter Tryz.func86,Tryz.ntmps86
 go_wp2_with fail
 refine (Uh K1).mono ?_
 rintro _ wb ⟨ab,nb,cb,bs,rfl,hWb,hnb,hbb,_,_,_⟩
 have K2:=Hj (spread_any a2 n2 c2 ys wb ((Uh H2).below hbb) o2 m2)
 have HB:=Hj (And.intro hWb hbb)
 clear hWb hbb K1
 go_wp2_with fail
 refine (Uh K2).mono ?_
 rintro _ wc ⟨ac,nc,cc,cs,rfl,hWc,hnc,hbc,_,_,_⟩
 have KT:=Hj (times_any ab ac nb cb nc cc (val xs) (val ys) bs cs wc ((Uh HB).1.below hbc) hWc (by omega) (by omega))
 have HC:=Hj ((Uh HB).2.trans (hbc.mono (Uh HB).2.size))
 clear hWc hbc K2 HB
 go_wp2_with fail
 refine (Uh KT).mono ?_
 rintro _ wd ⟨ad,nd,cd,ds,rfl,hWd,hnd,hbd⟩
 have HD:=Hj (And.intro hWd (And.intro hnd ((Uh HC).trans (hbd.mono (Uh HC).size))))
 clear hWd hnd hbd KT
 go_wp2_with fail
 go_ret
 exact ⟨ad,nd,cd,ds,rfl,(Uh HD).1,(Uh HD).2.1,(Uh HD).2.2⟩
theorem RowD.put {w wr:World} {g cap i:Nat} {acc:List Pc} {p:Pc} (h:RowD w wr g cap acc) (hi:i < acc.length) (hp:Dig wr g p):RowD w (wr.setCell ⟨g,i,none⟩ (slV p)) g cap (acc.set i p):=by
 have hc:Chg (fun k => k = g) wr (wr.setCell ⟨g,i,none⟩ (slV p)):=Chg.of_set (S:=fun k => k = g) _ _ _ _ rfl
 have dk:∀ q,Dig wr g q → Dig (wr.setCell ⟨g,i,none⟩ (slV p)) g q:=fun q hq => ⟨hq.sl.chg hc (fun x hx hn => hq.off hn x hx),hq.ok,hq.norm,hq.len,hq.off⟩
 refine ⟨?_,fun q hq => ?_,h.bel.setCell (p:=⟨g,i,none⟩) h.ge _,by simpa using h.lt,h.ge⟩
 ·rcases h.own with ⟨e0,⟨e,_⟩ | ⟨g',cap',cur,e,q1,q2,q3,q4,q5,q6⟩⟩
  ·cases e
  ·simp only [Value.slice.injEq,Option.some.injEq,Addr.mk.injEq,and_true,true_and] at e
   obtain ⟨rfl,rfl⟩:=e
   refine ⟨by simp,.inr ⟨g,cap,cur.setIfInBounds i (slV p),by simp,q1,?_,by simpa using q3,q4,by simpa using q5,?_⟩⟩
   ·exact heap_setCell_same _ _ _ _ _ _ q2
   ·rw [List.length_set,Array.toList_setIfInBounds,List.take_set,q6]
    simp
 ·rcases List.mem_or_eq_of_mem_set hq with c | c
  ·exact dk q (h.each q c)
  ·rw [c]; exact dk p hp
theorem make_wide3 (n:Nat) (hn:n ≤ 100000) (w:World):(Instr.makeSlice 117 (.int .i64 (n:Int)) (.int .i64 (n:Int))).run Tryz.prog w = .ok (.slice (some ⟨w.heap.size,0,none⟩) n n) (w.alloc (.cells (madeCells #[.slice none 0 0] n) 23)):=by
 have h:=make_wide2 n 0 (by omega) w
 simpa using h
theorem len_oneD {v:Nat} (h:v < wD):(limbs v).length ≤ dLimbs:=rep_len_le (limbs_rep v) (by rw [← wD_def]; exact h)
theorem mn_step {f h:Nat → Nat} {i b b' d:Nat} {A:Nat} (hs:sF wD f i + wD ^ i * b = sF wD h i + A) (hd:f i + wD * b' = b + h i + d):sF wD f (i + 1) + wD ^ (i + 1) * b' = sF wD h (i + 1) + (A + wD ^ i * d):=by
 simp only [sF]
 rw [Nat.pow_succ,Nat.mul_assoc]
 have e:wD ^ i * (f i + wD * b') = wD ^ i * (b + h i + d):=by rw [hd]
 rw [Nat.mul_add,Nat.mul_add,Nat.mul_add] at e
 omega
theorem wv_take_set {acc:List Pc} {i:Nat} {p:Pc} (hi:i < acc.length):wv ((acc.set i p).take (i + 1)) = wv (acc.take i) + wD ^ i * val p.xs:=by
 rw [List.take_succ_eq_append_getElem (by simpa using hi),wv_app,List.take_set_of_le (Nat.le_refl i)]
 simp [Nat.min_eq_left (Nat.le_of_lt hi)]
end Go.Proofs.YtmnlhnmlgncedaaGreatDoor
