/- Cxm -/
import Derived.Test.YtgjokididdffhaaGreatCxl
import Derived.Test.YtgjokididdffhaaGreatCx4
import Derived.Test.YtgjokididdffhaaGreatCk3
import Derived.Lib.SlKeysI
import Derived.Test.YtgjokididdffhaaGreatCgd
import Derived.Test.YtgjokididdffhaaGreatCg8
namespace Go.Proofs.YtgjokididdffhaaGreat
open Go.RowKit Go.Deep
set_option linter.unusedVariables false
theorem fz_all:Tryz.zeroCells121.toList.all isZ16 = true:=by kernel_rfl
theorem fz_at (e:Nat) (he:e < 16384):Tryz.zeroCells121[e]? = some (.int .i16 0):=by
 have hs:Tryz.zeroCells121.size = 16384:=by kernel_rfl
 have hl:e < Tryz.zeroCells121.size:=by omega
 rw [Array.getElem?_eq_getElem hl]
 congr 1
 refine isZ16_of (List.all_eq_true.1 fz_all _ ?_)
 rw [List.mem_iff_getElem]
 exact ⟨e,by simpa using hl,by simp⟩
theorem RoF.made0 (w:World) (A:Array Value) (t:TypeId) (h:∀ e,e < 16384 → A[e]? = some (.int .i16 0)):RoF (w.alloc (.cells A t)) w.heap.size 0 (fun _ => 0):=by
 intro e he
 have hq:=h e he
 exact ⟨by simp [hq],by simp⟩
theorem prV_at:∀ (cl:List (Nat × Nat)) (i:Nat) (p:Nat × Nat),cl[i]? = some p → (prV cl)[i * 2]? = some (.int .i64 (p.1:Int)) ∧ (prV cl)[i * 2 + 1]? = some (.int .i64 (p.2:Int))
 | [],i,p,h => by simp at h
 | a :: cl,0,p,h => by
  obtain rfl:a = p:=by simpa using h
  simp [prV]
 | a :: cl,i + 1,p,h => by
  have k:=prV_at cl i p (by simpa using h)
  have e:prV (a :: cl) = .int .i64 (a.1:Int) :: .int .i64 (a.2:Int) :: prV cl:=by simp [prV]
  rw [e,show (i + 1) * 2 = (i * 2 + 1) + 1 by omega]
  simp only [List.getElem?_cons_succ]
  exact k
theorem own2_at {W:World} {B:Nat} {al:Option Addr} {kl:Nat} {cl:List (Nat × Nat)} (h:W.ownsRow B 206 2 (.slice al cl.length kl) cl.length (prV cl)) (hn:0 < cl.length):∃ gl,al = some ⟨gl,0,none⟩ ∧ cl.length ≤ maxLen ∧ ∀ i p,cl[i]? = some p → W.cell? ⟨gl,i * 2,none⟩ = some (.int .i64 (p.1:Int)) ∧ W.cell? ⟨gl,i * 2 + 1,none⟩ = some (.int .i64 (p.2:Int)):=by
 rcases h.2 with ⟨_,h0⟩ | ⟨g,cap,cur,h1,h2,h3,h4,h5,h6,h7⟩
 ·omega
 ·cases h1
  refine ⟨g,rfl,by omega,fun i p hp => ?_⟩
  have hi:i < cl.length:=(List.getElem?_eq_some_iff.1 hp).1
  have k:=prV_at cl i p hp
  rw [← h7] at k
  rw [List.getElem?_take_of_lt (by omega),List.getElem?_take_of_lt (by omega),Array.getElem?_toList,Array.getElem?_toList] at k
  exact ⟨(cell_of_block h3 _).trans k.1,(cell_of_block h3 _).trans k.2⟩
def cfL (o:Option (Nat × Nat)) (q:Option (Int × Int)):List Int:=match o with
 | none => ciL q
 | some _ => prL o
set_option maxRecDepth 100000 in
set_option maxHeartbeats 16000000 in
theorem ccircle_none (f0 f1 f2 f3:Value) (wd:Bool) (R width:Int) (a1:Option Addr) (n1 c1:Nat) (a2:Option Addr) (n2 c2 m:Nat) (b1:Option Addr) (m1 d1:Nat) (b2:Option Addr) (m2 d2:Nat) (S C:List Int) (ac:Option Addr) (cc:Nat) (xs:List Int) (w:World) (h1:SlI w b1 m1 d1 S) (h2:SlI w b2 m2 d2 C) (h3:SlI w ac m cc xs) (hb1:m1 ≤ 17592186044000) (hb2:m2 ≤ 17592186044000) (hm:MayP (m:Int) (m:Int) S C) (hg:GraP S C m m) (ho:PrO (adG S C m) (fun i => xs.getD i 0) none) (q:Option (Int × Int)) (hq:BsI (CiP S C m xs) q) :
  Calls Tryz.prog 103 #[taV f0 f1 f2 f3 wd R width a1 n1 c1 a2 n2 c2 m b1 m1 d1 b2 m2 d2,.slice ac m cc] w fun e w' => OwA (ciL q) w w' e:=by
 have hm8:m ≤ 128:=by have:=hm.head.fit; omega
 obtain ⟨wb,hwb⟩:∃ x,w.alloc (.cells #[f0,f1,f2,f3,.bool wd,.int .i64 R,.int .i64 width,.slice a1 n1 c1,.slice a2 n2 c2,.int .i64 (m:Int),.int .i64 (m:Int),.slice b1 m1 d1,.slice b2 m2 d2] 80) = x:=⟨_,rfl⟩
 have bb:Below w.heap.size w wb:=by rw [← hwb]; exact bAl
 have hT:=BoxP.made w #[f0,f1,f2,f3,.bool wd,.int .i64 R,.int .i64 width,.slice a1 n1 c1,.slice a2 n2 c2,.int .i64 (m:Int),.int .i64 (m:Int),.slice b1 m1 d1,.slice b2 m2 d2] 80
 rw [hwb] at hT
 have p0:=(hT.all 0 _ rfl).1
 have p1:=(hT.all 1 _ rfl).1
 have p2:=(hT.all 2 _ rfl).1
 have p3:=(hT.all 3 _ rfl).1
 have p4:=(hT.all 4 _ rfl).1
 have p5:=(hT.all 5 _ rfl).1
 have p6:=(hT.all 6 _ rfl).1
 have p7:=(hT.all 7 _ rfl).1
 have p8:=(hT.all 8 _ rfl).1
 have p9:=(hT.all 9 _ rfl).1
 have p10:=(hT.all 10 _ rfl).1
 have p11:=(hT.all 11 _ rfl).1
 have p12:=(hT.all 12 _ rfl).1
 have KP:=Hj (cpair_any f0 f1 f2 f3 wd R width a1 n1 c1 a2 n2 c2 m b1 m1 d1 b2 m2 d2 S C ac cc xs wb (h1.below bb) (h2.below bb) (h3.below bb) hb1 hb2 hm none ho)
 have HS:=Hj (And.intro h1 (And.intro h2 h3))
 have HB:=Hj bb
 have HT:=Hj hT
 have HM:=Hj (And.intro hm hg)
 have HO:=Hj ho
 have HQ:=Hj hq
 clear h1 h2 h3 bb hT hm hg ho hq
 unfold taV at KP ⊢
 go_enter Tryz.func103,Tryz.ntmps103
 go_wp2_with fail
 refine (Uh KP).mono ?_
 rintro _ w2 ⟨v,rfl,ov,bw2⟩
 obtain ⟨av,nv,cv,rfl,hsv⟩:∃ a n c,v = .slice a n c ∧ n = 0:=by
  obtain ⟨a,c,e,s⟩:=own_slG ov
  exact ⟨a,_,c,e,rfl⟩
 subst hsv
 have HB2:=Hj ((Uh HB).trans (bw2.mono (Uh HB).size))
 have hT2:=(Uh HT).below bw2
 have HT2:=Hj hT2
 obtain ⟨w3,hw3⟩:∃ x,w2.alloc (.cells Tryz.zeroCells121 121) = x:=⟨_,rfl⟩
 have b3:Below w2.heap.size w2 w3:=by rw [← hw3]; exact bAl
 have hF3:RoF w3 w2.heap.size 0 (fun _ => 0):=by rw [← hw3]; exact RoF.made0 _ _ _ fz_at
 have hX3:w2.heap.size < w3.heap.size:=by rw [← hw3]; simp
 have HW3:=Hj hw3
 have HN:=Hj (show ∀ W,Below w3.heap.size w3 W → BoxP W w.heap.size [f0,f1,f2,f3,.bool wd,.int .i64 R,.int .i64 width,.slice a1 n1 c1,.slice a2 n2 c2,.int .i64 (m:Int),.int .i64 (m:Int),.slice b1 m1 d1,.slice b2 m2 d2] ∧ SlI W b1 m1 d1 S ∧ SlI W b2 m2 d2 C ∧ SlI W ac m cc xs ∧ Below w.heap.size w W ∧ RoF W w2.heap.size 0 (fun _ => 0) from fun W b =>
  have hb3:=(Uh HB2).trans (b3.mono (Uh HB2).size)
  have hb:=hb3.trans (b.mono hb3.size)
  ⟨(hT2.below b3).below b,(Uh HS).1.below hb,(Uh HS).2.1.below hb,(Uh HS).2.2.below hb,hb,hF3.below b⟩)
 have HX3:=Hj hX3
 clear KP p0 p1 p2 p3 p4 p5 p6 p7 p8 p9 p10 p11 p12 ov bw2
 have k9:=((hT2.below b3).all 9 _ rfl).1
 have k10:=((hT2.below b3).all 10 _ rfl).1
 have k11:=((hT2.below b3).all 11 _ rfl).1
 have k12:=((hT2.below b3).all 12 _ rfl).1
 clear hT2 b3 hF3 hX3 hw3
 go_wp2_with fail
 rw [Uh HW3]
 have KR:=Hj (cranks_any ac m cc xs w3.drew (Uh HN w3.drew (Below.refl _ _).drew).2.2.2.1 hm8)
 have HPR:=Hj (show ∀ u v,adG S C m u v → xs.getD u 0 ≠ xs.getD v 0 from fun u v had e => by
  rcases Nat.lt_trichotomy u v with h | h | h
  ·exact (Uh HO) u v ⟨had,h,e⟩
  ·subst h; exact adG.ir (Uh HM).2 _ had
  ·exact (Uh HO) v u ⟨adG.sy (Uh HM).2 _ _ had,h,e.symm⟩)
 have KG:=Hj (show ∀ (g:Nat) (W:World),w3.heap.size ≤ g → RoV W g m (fun i => .int .i64 (rkC xs i)) → Below w3.heap.size w3 W → Calls Tryz.prog 130 #[.pointer (some ⟨w2.heap.size,0,none⟩),patV (m:Int) (m:Int) b1 m1 d1 b2 m2 d2,.slice (some ⟨g,0,none⟩) m m] W fun e w' => GzP w2.heap.size 0 m (rkC xs) S C W w' e from fun g W hgw hro hb => by
  obtain ⟨_,s1,s2,s3,hbw,hF⟩:=Uh HN W hb
  have hl:=s3.len
  have h3:=Uh HX3
  have hsz:=(Uh HB2).size
  refine cgrowC_any w2.heap.size 0 m (fun _ => 0) b1 m1 d1 b2 m2 d2 g (rkC xs) S C W hF (Nat.lt_of_lt_of_le h3 hb.size) s1 s2 hb1 hb2 (Uh HM).1 (Uh HM).2 hro (fun i hi => ?_) (fun p q had _ e => ?_) (fun z hz hne e => ?_) (fun z hz hne e => ?_) (by omega)
  ·have:=rkC_rng (xs:=xs) (i:=i) (by omega)
   omega
  ·exact (Uh HPR) p q had ((rkC_inj (by have:=had.1; omega) (by have:=had.2.1; omega)).1 e)
  ·have:=(Uh HS).1.block_lt hne z hz
   omega
  ·have:=(Uh HS).2.1.block_lt hne z hz
   omega)
 unfold patV at KG
 go_region_held3 (fun w' => w'.cell? ⟨w.heap.size,9,none⟩ = some (.int .i64 (m:Int)) ∧ w'.cell? ⟨w.heap.size,10,none⟩ = some (.int .i64 (m:Int)) ∧ w'.cell? ⟨w.heap.size,11,none⟩ = some (.slice b1 m1 d1) ∧ w'.cell? ⟨w.heap.size,12,none⟩ = some (.slice b2 m2 d2)) (first | (exact ⟨k9,k10,k11,k12⟩) | go_keep)
  (first
   | (go_at_call 131; refine (Uh KR).mono ?_; rintro _ w4 ⟨g,rfl,hgw,hgl,hro,b4⟩; have hn4:=Uh HN w4 (((Below.refl _ _).drew).trans b4); clear k9 k10 k11 k12; have k9:=(hn4.1.all 9 _ rfl).1; have k10:=(hn4.1.all 10 _ rfl).1; have k11:=(hn4.1.all 11 _ rfl).1; have k12:=(hn4.1.all 12 _ rfl).1; have HG:=Hj (And.intro hgw (And.intro hgl (And.intro hro b4))); clear hgw hgl hro b4 hn4)
   | (go_at_call 130; refine (Uh KG g w4 (Uh HG).1 (Uh HG).2.2.1 (((Below.refl _ _).drew).trans (Uh HG).2.2.2)).mono ?_; rintro _ w5 ⟨vl,cl,rfl,hrow,hcl,hfr⟩; obtain ⟨al,kl,hvl⟩:∃ a c,vl = .slice a cl.length c:=(by rcases hrow.2 with ⟨e1,e2⟩ | ⟨gl,cp,cur,e1,_⟩; exact ⟨none,0,by rw [e1,e2]⟩; exact ⟨_,_,e1⟩); subst hvl; have hn5:=((Uh HN w4 (((Below.refl _ _).drew).trans (Uh HG).2.2.2)).1.chg hfr.chg (fun e => by have:=(Uh HB).size; have:=(Uh HB2).size; have:=(Uh HT).lt; have:=(Uh HT2).lt; omega)); clear k9 k10 k11 k12; have k9:=(hn5.all 9 _ rfl).1; have k10:=(hn5.all 10 _ rfl).1; have k11:=(hn5.all 11 _ rfl).1; have k12:=(hn5.all 12 _ rfl).1; have HL:=Hj (And.intro hrow (And.intro hcl hfr)); clear hrow hcl hfr hn5))
 clear k9 k10 k11 k12 KR KG
 have hb5:Below w.heap.size w w5:=by
  have b:=(Uh HN w4 (((Below.refl _ _).drew).trans (Uh HG).2.2.2)).2.2.2.2.1
  have:=(Uh HB2).size
  exact b.trans ((Uh HL).2.2.chg.below b.size (fun j hj e => by omega))
 have HRB:=Hj (show ∀ W,Below w5.heap.size w5 W → SlI W ac m cc xs ∧ W.ownsRow w4.heap.size 206 2 (.slice al cl.length kl) cl.length (prV cl) ∧ Below w.heap.size w W from fun W b =>
  have hb:=hb5.trans (b.mono hb5.size)
  ⟨(Uh HS).2.2.below hb,ownsRow_chg (S:=fun _ => False) (Uh HL).1 (.of_below b) (fun _ _ => id),hb⟩)
 obtain ⟨z,hz⟩:∃ z,cl.length = z:=⟨_,rfl⟩
 have HZ:=Hj hz
 rw [hz] at HRB ⊢
 have HCL:=Hj (Uh HL).2.1
 clear HL HG HN hz hb5
 go_wp2_with fail
 go_loopw [24,7,9,10] (fun iv lv _ _ wr => ∃ (i:Nat) (q':Option (Int × Int)) (la:Option Addr) (lc:Nat),i ≤ z ∧ iv = .int .i64 (i:Int) ∧ lv = .slice la (ciL q').length lc ∧ Hid (LeE xs cl i q') ∧ Hid (wr.ownsRow w.heap.size 3 1 (.slice la (ciL q').length lc) (ciL q').length (valsI (ciL q'))) ∧ Hid (Below w5.heap.size w5 wr)) (fun iv _ _ _ _ => z - (intOf iv).toNat)
 case atStart => exact ⟨0,none,none,0,Nat.zero_le _,rfl,rfl,Hj LeE.zero,Hj (World.ownsRow_nil _ _ _ _),Hj (Below.refl _ _)⟩
 case round =>
  obtain ⟨i,q',la,lc,hi,rfl,rfl,HE,HV,HW⟩:=hrel
  have hx:=Uh HRB wr (Uh HW)
  by_cases hlt:i < z
  ·have hlt':(i:Int) < (z:Int):=by omega
   obtain ⟨p,hp⟩:∃ p,cl[i]? = some p:=⟨_,List.getElem?_eq_getElem (by rw [Uh HZ]; exact hlt)⟩
   have hrow:=hx.2.1
   rw [← Uh HZ] at hrow
   obtain ⟨gl,rfl,hmxl,hcell⟩:=own2_at hrow (by rw [Uh HZ]; omega)
   have e0:=(hcell i p hp).1
   have e1:=(hcell i p hp).2
   have HP:=Hj hp
   have HXC:=Hj hx.1
   clear hcell hrow hx hp
   obtain ⟨p1,p2⟩:=p
   dsimp only at e0 e1
   have hzb:z ≤ 9223372036854775807:=by rw [Uh HZ] at hmxl; unfold maxLen at hmxl; omega
   clear hmxl
   have HI9:=Hj (show i + 1 ≤ z ∧ z - (i + 1) < z - i from by omega)
   have hed:=((Uh HCL).edge (p1,p2) (List.mem_of_getElem? (Uh HP))).1
   have hp1:p1 < m:=hed.1
   have hp2:p2 < m:=hed.2.1
   have hp1':(p1:Int) < (m:Int):=by omega
   have hp2':(p2:Int) < (m:Int):=by omega
   obtain ⟨x,hx⟩:∃ x,xs.getD p1 0 = x:=⟨_,rfl⟩
   obtain ⟨y,hy⟩:∃ y,xs.getD p2 0 = y:=⟨_,rfl⟩
   have HXY:=Hj (And.intro hx hy)
   obtain ⟨bc,oc,rfl,hcc⟩:=(Uh HXC).at (by omega)
   have s1:=hcc p1 hp1
   have s2:=hcc p2 hp2
   rw [hx] at s1
   rw [hy] at s2
   clear hed hx hy hcc
   go_wp2_with fail
   clear e0 e1
   have bx:Below wr.heap.size wr (wr.alloc (.cells #[.int .i64 (p1:Int),.int .i64 (p2:Int)] 206)):=bAl
   have t0:(wr.alloc (.cells #[.int .i64 (p1:Int),.int .i64 (p2:Int)] 206)).cell? ⟨wr.heap.size,0,none⟩ = some (.int .i64 (p1:Int)):=by simp
   have t1:(wr.alloc (.cells #[.int .i64 (p1:Int),.int .i64 (p2:Int)] 206)).cell? ⟨wr.heap.size,1,none⟩ = some (.int .i64 (p2:Int)):=by simp
   have s1:=(bx.cell (p:=⟨bc,oc + p1,none⟩) (World.block_lt_of_cell? _ _ s1)).trans s1
   have s2:=(bx.cell (p:=⟨bc,oc + p2,none⟩) (World.block_lt_of_cell? _ _ s2)).trans s2
   have HBX:=Hj bx
   clear bx
   generalize wr.alloc (.cells #[.int .i64 (p1:Int),.int .i64 (p2:Int)] 206) = wx at *
   go_region_held3 (fun w' => w'.cell? ⟨wr.heap.size,0,none⟩ = some (.int .i64 (p1:Int)) ∧ w'.cell? ⟨wr.heap.size,1,none⟩ = some (.int .i64 (p2:Int)) ∧ w'.cell? ⟨bc,oc + p1,none⟩ = some (.int .i64 x) ∧ w'.cell? ⟨bc,oc + p2,none⟩ = some (.int .i64 y)) (first | (exact ⟨t0,t1,s1,s2⟩) | go_keep) (first
    | fail
    | fail)
   go_wp2_with fail
   obtain ⟨wl,hwl⟩:∃ W,(wx.alloc (.cells #[.int .i64 x,.int .i64 y] 3)).drew = W:=⟨_,rfl⟩
   rw [hwl]
   have kL:wl.heap[wx.heap.size]? = some (.cells #[.int .i64 x,.int .i64 y] 3 (0,0)):=by rw [← hwl]; exact heap_alloc_new wx _
   have bl:Below wx.heap.size wx wl:=by rw [← hwl]; exact (bAl).drew
   obtain ⟨L,hL⟩:∃ L,wx.heap.size = L:=⟨_,rfl⟩
   rw [hL] at kL bl ⊢
   have hLl:L < wl.heap.size:=(Array.getElem?_eq_some_iff.1 kL).1
   have hHd:Sort.Holds (Value.int .i64) wl L 0 ([x,y]:List Int).toArray:=fun j hj => by
    have hj2:j = 0 ∨ j = 1:=by simp at hj; omega
    refine ⟨?_,frz_blk kL _⟩
    rcases hj2 with rfl | rfl
    ·exact (cell_of_block kL _).trans rfl
    ·exact (cell_of_block kL _).trans rfl
   have KSo:=Hj (ssort_int L 0 2 [x,y] wl hHd hLl (by simp))
   have HKL:=Hj (And.intro kL (And.intro bl hL))
   clear kL bl hL hHd hwl t0 t1 s1 s2
   refine (Uh KSo).mono ?_
   rintro _ w7 ⟨rfl,nn,os,hw7⟩
   have o7:w7.ownsRow w.heap.size 3 1 (.slice (some ⟨L,0,none⟩) 2 2) 2 (valsI [min x y,max x y]):=by
    have hs:=srt_two x y
    unfold srtL at hs
    rw [hw7,hs]
    exact ownsRow_sorted_i (ss:=[x,y]) (ts:=[min x y,max x y]) rfl (by have:=(Uh HKL).2.2; have:=(Uh HBX).size; have:=(Uh HW).size; have:=(Uh HRB w5 (Below.refl _ _)).2.2.size; omega) (Uh HKL).1 (by simp) (by decide) rfl
   have cL:Chg (fun j => j = L) wl w7:=by rw [hw7]; exact (chg_put wl nn L 0 _).trans ((chg_growS _ os).mono (fun _ _ e => e.elim))
   have bL:Below L wx w7:=(Uh HKL).2.1.trans (cL.below (by have:=(Uh HKL).2.1.size; have:=(Uh HKL).2.2; omega) (fun j hj e => by omega))
   have bR:Below wr.heap.size wr w7:=(Uh HBX).trans (bL.mono (by have:=(Uh HKL).2.2; have:=(Uh HBX).size; omega))
   have HB7:=Hj ((Uh HW).trans (bR.mono (Uh HW).size))
   have HO7:=Hj o7
   have HV7:=Hj (ownsRow_chg (S:=fun _ => False) (Uh HV) (.of_below bR) (fun _ _ => id))
   have HST:=Hj (LeE.step (Uh HE) (by rw [Uh HZ]; exact hlt) (Uh HP) (c:=min x y) (d:=max x y) (by rw [(Uh HXY).1,(Uh HXY).2]) (by rw [(Uh HXY).1,(Uh HXY).2]))
   clear o7 cL bL bR hw7 KSo HKL HW HV
   obtain ⟨c',hc'⟩:∃ c',min x y = c':=⟨_,rfl⟩
   obtain ⟨d',hd'⟩:∃ d',max x y = d':=⟨_,rfl⟩
   rw [hc',hd'] at HST HO7
   clear hc' hd'
   cases q' with
   | none =>
    simp only [ciL,List.length_nil]
    go_wp2_with fail
    exact ⟨⟨i + 1,some (c',d'),some ⟨L,0,none⟩,2,(Uh HI9).1,by (first | rfl | go_num),rfl,Hj ((Uh HST).1 rfl),HO7,HB7⟩,by have:=(Uh HI9).2; simp only [intOf]; omega⟩
   | some cd =>
    obtain ⟨c0,d0⟩:=cd
    have n1:SlI w7 (some ⟨L,0,none⟩) 2 2 [c',d']:=by
     obtain ⟨a9,c9,e9,s9⟩:=own_slG (Uh HO7)
     cases e9
     exact s9
    have n2:SlI w7 la 2 lc [c0,d0]:=by
     obtain ⟨a9,c9,e9,s9⟩:=own_slG (Uh HV7)
     cases e9
     exact s9
    have KC:=Hj (scmp_two (some ⟨L,0,none⟩) la 2 lc c' d' c0 d0 w7 n1 n2)
    clear n1 n2
    simp only [ciL,List.length_cons,List.length_nil,Nat.reduceAdd]
    go_wp2_with fail
    refine (Uh KC).mono ?_
    rintro _ w8 ⟨zz,rfl,hzz,hw⟩
    rw [hw]
    have HZZ:=Hj hzz
    clear hw w8 hzz KC
    by_cases hneg:zz < 0
    ·go_wp2_with fail
     exact ⟨⟨i + 1,some (c',d'),some ⟨L,0,none⟩,2,(Uh HI9).1,by (first | rfl | go_num),rfl,Hj (((Uh HST).2 c0 d0 rfl).1 ((Uh HZZ).1 hneg)),HO7,HB7⟩,by have:=(Uh HI9).2; simp only [intOf]; omega⟩
    ·go_wp2_with fail
     exact ⟨⟨i + 1,some (c0,d0),la,lc,(Uh HI9).1,by (first | rfl | go_num),rfl,Hj (((Uh HST).2 c0 d0 rfl).2 (fun k => by have:=(Uh HZZ).2 k; omega)),HV7,HB7⟩,by have:=(Uh HI9).2; simp only [intOf]; omega⟩
  ·obtain rfl:i = z:=by omega
   have hlt':¬ (i:Int) < (i:Int):=by omega
   clear hx
   go_wp2_with fail
   go_ret
   have hx:=Uh HRB wr (Uh HW)
   have hE:=Uh HE
   unfold LeE at hE
   rw [List.take_of_length_le (by rw [Uh HZ]; exact Nat.le_refl _)] at hE
   have h2:=hE.congr (fun c d => ((Uh HCL).cip (Uh HM).2 hx.1.len (Uh HPR) c d).symm)
   obtain rfl:q' = q:=BsI.one h2 (Uh HQ)
   exact ⟨_,rfl,Uh HV,hx.2.2⟩
def InL (L:List Int) (u v:Int):Prop:=u ∈ L ∧ v ∈ L
theorem hasX_mem {L:List Int} {t:Int}:HasX L L.length t ↔ t ∈ L:=by
 unfold HasX
 constructor
 ·rintro ⟨j,hj,e⟩
  exact mem_getD.2 ⟨j,hj,e⟩
 ·intro h
  exact mem_getD.1 h
set_option maxRecDepth 100000 in
set_option maxHeartbeats 16000000 in
theorem cwith1_any (a:Option Addr) (n c:Nat) (L:List Int) (ub pb pc:Nat) (u v:Int) (w:World) (h:SlI w a n c L) (hn:n ≤ 17592186044416) (u0:w.cell? ⟨ub,0,none⟩ = some (.slice (some ⟨pb,0,none⟩) 2 pc)) (p0:w.cell? ⟨pb,0,none⟩ = some (.int .i64 u)) (p1:w.cell? ⟨pb,1,none⟩ = some (.int .i64 v)) (ok:Bool) (hok:TruQ ok (InL L u v)) :
  Calls Tryz.prog 142 #[.slice a n c,.pointer (some ⟨ub,0,none⟩)] w fun e w' => e = .returned (.bool ok) ∧ Below w.heap.size w w':=by
 obtain ⟨t1,ht1⟩:=truth (HasX L n u)
 obtain ⟨t2,ht2⟩:=truth (HasX L n v)
 have hl:=h.len
 have hk:ok = (t1 && t2):=by
  have h1:t1 = true ↔ u ∈ L:=by rw [ht1,← hl,hasX_mem]
  have h2:t2 = true ↔ v ∈ L:=by rw [ht2,← hl,hasX_mem]
  rw [Bool.eq_iff_iff,Bool.and_eq_true,h1,h2]
  exact hok
 have HK1:=Hj (scontains_any a n c L u w h (by omega) t1 ht1)
 have HK2:=Hj (fun W (b:Below w.heap.size w W) => scontains_any a n c L v W (h.below b) (by omega) t2 ht2)
 subst hk
 clear hok ht1 ht2 h hl
 cases t1
 ·go_enter Tryz.func142,Tryz.ntmps142
  go_wp2_with fail
  refine (Uh HK1).mono ?_
  rintro _ w2 ⟨rfl,b2⟩
  have HX:=Hj b2
  clear HK1 HK2 b2 u0 p0 p1
  go_wp2_with fail
  try go_ret
  exact ⟨rfl,Uh HX⟩
 ·go_enter Tryz.func142,Tryz.ntmps142
  go_wp2_with fail
  refine (Uh HK1).mono ?_
  rintro _ w2 ⟨rfl,b2⟩
  have u0':=(b2.cell (p:=⟨ub,0,none⟩) (World.block_lt_of_cell? _ _ u0)).trans u0
  have p0':=(b2.cell (p:=⟨pb,0,none⟩) (World.block_lt_of_cell? _ _ p0)).trans p0
  have p1':=(b2.cell (p:=⟨pb,1,none⟩) (World.block_lt_of_cell? _ _ p1)).trans p1
  have HX:=Hj b2
  have HK3:=Hj (Uh HK2 w2 b2)
  clear HK1 HK2 b2 u0 p0 p1
  go_wp2_with fail
  refine (Uh HK3).mono ?_
  rintro _ w3 ⟨rfl,b3⟩
  have HY:=Hj ((Uh HX).trans (b3.mono (Uh HX).size))
  clear HK3 b3 u0' p0' p1'
  go_wp2_with fail
  try go_ret
  exact ⟨by simp,Uh HY⟩
set_option maxRecDepth 20000 in
set_option maxHeartbeats 8000000 in
theorem cindexL_any (L n k:Nat) (ls:Nat → List Int) (u v:Int) (ub pb pc:Nat) (w:World) (h:LsI w L n ls) (hn:n ≤ 128) (hk:k < n) (h1:InL (ls k) u v) (h0:∀ j,j < k → ¬ InL (ls j) u v) (u0:w.cell? ⟨ub,0,none⟩ = some (.slice (some ⟨pb,0,none⟩) 2 pc)) (p0:w.cell? ⟨pb,0,none⟩ = some (.int .i64 u)) (p1:w.cell? ⟨pb,1,none⟩ = some (.int .i64 v)) :
  Calls Tryz.prog 141 #[.slice (some ⟨L,0,none⟩) n n,.func (.func 142) #[] #[.pointer (some ⟨ub,0,none⟩)]] w fun e w' => e = .returned (.int .i64 (k:Int)) ∧ Below w.heap.size w w':=by
 have HL:=Hj h
 have HC:=Hj (And.intro u0 (And.intro p0 p1))
 have HK:=Hj (And.intro h1 h0)
 clear h h1 h0 u0 p0 p1
 go_enter Tryz.func141,Tryz.ntmps141
 go_wp2_with fail
 go_loopw [8] (fun iv wr => ∃ i:Nat,i ≤ k ∧ iv = .int .i64 (i:Int) ∧ Hid (Below w.heap.size w wr)) (fun iv _ => n - (intOf iv).toNat)
 case atStart => exact ⟨0,Nat.zero_le _,rfl,Hj (Below.refl _ _)⟩
 case round =>
  obtain ⟨i,hi,rfl,HW⟩:=hrel
  have hlt':(i:Int) < (n:Int):=by omega
  obtain ⟨a,z,c,e1,e2,e3⟩:=Uh HL i (by omega)
  have hb:=Uh HW
  have hx:=(hb.cell (p:=⟨L,i,none⟩) (World.block_lt_of_cell? _ _ e1)).trans e1
  obtain ⟨ok,hok⟩:=truth (InL (ls i) u v)
  have KF:=Hj (cwith1_any a z c (ls i) ub pb pc u v wr (e2.below hb) e3 ((hb.cell (p:=⟨ub,0,none⟩) (World.block_lt_of_cell? _ _ (Uh HC).1)).trans (Uh HC).1) ((hb.cell (p:=⟨pb,0,none⟩) (World.block_lt_of_cell? _ _ (Uh HC).2.1)).trans (Uh HC).2.1) ((hb.cell (p:=⟨pb,1,none⟩) (World.block_lt_of_cell? _ _ (Uh HC).2.2)).trans (Uh HC).2.2) ok hok)
  have HOK:=Hj (show TruQ ok _ from hok)
  clear e1 e2 e3 hb hok
  by_cases hik:i = k
  ·subst hik
   have hk1:ok = true:=(Uh HOK).2 (Uh HK).1
   subst hk1
   go_wp2_with fail
   refine (Uh KF).mono ?_
   rintro _ w2 ⟨rfl,b2⟩
   have HF:=Hj ((Uh HW).trans (b2.mono (Uh HW).size))
   clear KF b2 hx
   go_wp2_with fail
   try go_ret
   exact ⟨rfl,Uh HF⟩
  ·have hk1:ok = false:=by
    rw [Bool.eq_false_iff]
    intro e
    exact (Uh HK).2 i (by omega) ((Uh HOK).1 e)
   subst hk1
   go_wp2_with fail
   refine (Uh KF).mono ?_
   rintro _ w2 ⟨rfl,b2⟩
   have HF:=Hj ((Uh HW).trans (b2.mono (Uh HW).size))
   clear KF b2 hx
   go_wp2_with fail
   exact ⟨⟨i + 1,by omega,by (first | rfl | go_num),HF⟩,by simp [intOf]; omega⟩
set_option maxRecDepth 100000 in
set_option maxHeartbeats 16000000 in
theorem cwith_nil (a:Option Addr) (c:Nat) (v:Value) (w:World) :
  Calls Tryz.prog 124 #[.slice a 0 c,v] w fun e w' => e = .returned (.slice none 0 0) ∧ Below w.heap.size w w':=by
 obtain ⟨wb,hwb⟩:∃ x,w.alloc (.cells #[.slice a 0 c] 23) = x:=⟨_,rfl⟩
 have bb:Below w.heap.size w wb:=by rw [← hwb]; exact bAl
 have hT:=BoxP.made w #[.slice a 0 c] 23
 rw [hwb] at hT
 have p0:=(hT.all 0 _ rfl).1
 have HB:=Hj bb
 clear hT bb
 go_enter Tryz.func124,Tryz.ntmps124
 go_wp2_with fail
 try go_ret
 exact ⟨rfl,Uh HB⟩
set_option maxRecDepth 100000 in
set_option maxHeartbeats 16000000 in
theorem cwith_two (base:Nat) (pv:Value) (L n k:Nat) (ls:Nat → List Int) (u v:Int) (w:World) (hO:w.ownsRow base 3 1 pv 2 (valsI [u,v])) (hbw:base ≤ w.heap.size) (h:LsI w L n ls) (hn:n ≤ 128) (hk:k < n) (h1:InL (ls k) u v) (h0:∀ j,j < k → ¬ InL (ls j) u v) :
  Calls Tryz.prog 124 #[pv,.slice (some ⟨L,0,none⟩) n n] w fun e w' => ∃ v',e = .returned v' ∧ w'.ownsRow base 3 1 v' 3 (valsI [u,v,(k:Int)]) ∧ Chg (fun j => pv.ownBlock = some j) w w':=by
 obtain ⟨a,c,rfl,hs⟩:=own_slI hO
 obtain ⟨pb,off,rfl,hc⟩:=hs.at (by decide)
 obtain ⟨wb,hwb⟩:∃ x,w.alloc (.cells #[.slice (some ⟨pb,off,none⟩) 2 c] 23) = x:=⟨_,rfl⟩
 have bb:Below w.heap.size w wb:=by rw [← hwb]; exact bAl
 have hT:=BoxP.made w #[.slice (some ⟨pb,off,none⟩) 2 c] 23
 rw [hwb] at hT
 have hoff:off = 0:=by
  rcases hO.2 with ⟨e,_⟩ | ⟨g,cap,cur,e,_⟩
  ·cases e
  ·cases e; rfl
 subst hoff
 have p0:=(hT.all 0 _ rfl).1
 have q0:=(bb.cell (p:=⟨pb,0,none⟩) (World.block_lt_of_cell? _ _ (hc 0 (by decide)))).trans (hc 0 (by decide))
 have q1:=(bb.cell (p:=⟨pb,1,none⟩) (World.block_lt_of_cell? _ _ (hc 1 (by decide)))).trans (hc 1 (by decide))
 have KI:=Hj (cindexL_any L n k ls u v w.heap.size pb c wb (fun i hi => by
  obtain ⟨a',n',c',e1,e2,e3⟩:=h i hi
  exact ⟨a',n',c',(bb.cell (p:=⟨L,i,none⟩) (World.block_lt_of_cell? _ _ e1)).trans e1,e2.below bb,e3⟩) hn hk h1 h0 p0 q0 q1)
 have HO:=Hj (show wb.ownsRow base 3 1 (.slice (some ⟨pb,0,none⟩) 2 c) 2 (valsI [u,v]) from ownsRow_chg (S:=fun _ => False) hO (Chg.of_below bb) (fun _ _ x => x))
 have HB:=Hj bb
 have HT:=Hj hT
 obtain ⟨i64,hi9,hz9,hs9,hb9⟩:=info_parts Tryz.info_i64
 have HI:=Hj (And.intro hi9 (And.intro hz9 (And.intro hs9 hb9)))
 have hone:∀ y:Int,∀ z ∈ [Value.int .i64 y],z.oneCell' = true:=by intro y z hz; simp at hz; subst hz; rfl
 clear hO hs hc bb hT q0 q1 h h1 h0 hi9 hz9 hs9 hb9
 go_enter Tryz.func124,Tryz.ntmps124
 go_wp2_with fail
 refine (Uh KI).mono ?_
 rintro _ w4 ⟨rfl,b4⟩
 have hT4:=(Uh HT).below b4
 have p0':=(hT4.all 0 _ rfl).1
 have HO4:=Hj (ownsRow_chg (S:=fun _ => False) (Uh HO) (Chg.of_below b4) (fun _ _ x => x))
 have HB4:=Hj ((Uh HB).trans (b4.mono (Uh HB).size))
 have hmx:2 + 1 ≤ maxLen:=by decide
 have hsz:=(Uh HB4).size
 clear KI b4 hT4 p0
 go_wp2_with (at_builtin; refine wpList_append_lies _ rfl _ _ 23 rfl base 3 i64 (.int .i64 0) 1 8 Tryz.underlying23 (Uh HI).1 (Uh HI).2.1 (Uh HI).2.2.1 (Uh HI).2.2.2 rfl (by decide) (.slice (some ⟨pb,0,none⟩) 2 c) 2 (valsI [u,v]) rfl ((Uh HO4).alloc _) ⟨w4.heap.size,0,none⟩ 1 1 [.int .i64 (k:Int)] rfl rfl (World.news_of_block (alloc_block _ _)) (hone _) (by decide) hmx (by decide) (by simp; omega) (w4.heap.size + 1) (by simp) ?_)
 intro g2 cap w5 hown hgr hat hlt5
 have hB5:Chg (fun j => (Value.slice (some ⟨pb,0,none⟩) 2 c).ownBlock = some j) w w5:=((Chg.of_below (Uh HB4)).trans (Chg.of_below (bAl))).trans (Chg.of_grown hgr (fun k hk => hk))
 have HN:=Hj (show w5.ownsRow base 3 1 (.slice (some ⟨g2,0,none⟩) 3 cap) 3 (valsI [u,v,(k:Int)]) from by simpa [valsI] using hown)
 have HB5:=Hj hB5
 clear hown hgr hat hlt5 hB5
 go_wp2_with fail
 try go_ret
 exact ⟨_,rfl,Uh HN,Uh HB5⟩
end Go.Proofs.YtgjokididdffhaaGreat
