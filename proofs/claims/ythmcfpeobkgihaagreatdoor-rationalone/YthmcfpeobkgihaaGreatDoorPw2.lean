/- Wrn -/
import Derived.Test.YthmcfpeobkgihaaGreatDoorWrm
import Derived.Test.YthmcfpeobkgihaaGreatDoorWij
import Derived.Test.YthmcfpeobkgihaaGreatDoorFo4
import Derived.Test.YthmcfpeobkgihaaGreatDoorRd1
import Derived.Test.YthmcfpeobkgihaaGreatDoorAdd
namespace Go.Proofs.YthmcfpeobkgihaaGreatDoor
open Go.RowKit Go.Deep
set_option linter.unusedVariables false
set_option maxRecDepth 100000 in
set_option maxHeartbeats 16000000 in
theorem wInv_any (g1:Bool) (a1 b1:Option Addr) (n1 c1 m1 d1:Nat) (x1 y1:List Nat) (w:World) (hx1:Sl w a1 n1 c1 x1) (hy1:Sl w b1 m1 d1 y1) (ox1:Ok x1) (oy1:Ok y1) :
  Calls Tryz.prog 16 #[ratV g1 a1 n1 c1 b1 m1 d1] w fun e w' => ResF w w' (InvF g1 x1 y1) e:=by
 obtain ⟨⟨⟨SG,LN,LD⟩,ER⟩,hFF⟩:∃ r,InvF g1 x1 y1 = r:=⟨_,rfl⟩
 rw [hFF]
 unfold ResF
 dsimp only
 have bx:=Box.made w g1 a1 n1 c1 b1 m1 d1
 obtain ⟨wa,hwa⟩:∃ wa,ratBox w g1 a1 n1 c1 b1 m1 d1 = wa:=⟨_,rfl⟩
 rw [hwa] at bx
 unfold ratBox at hwa
 have hba:=bx.bel
 obtain ⟨wo,hwo⟩:∃ x,wa.alloc (.cells #[.bool false,.slice none 0 0,.slice none 0 0] 25) = x:=⟨_,rfl⟩
 have hbo:Below wa.heap.size wa wo:=by rw [← hwo]; exact bAl
 have hO:Out wo wa.heap.size:=by rw [← hwo]; exact Out.made wa
 have bx2:=bx.keep hbo
 have hB:=hba.trans (hbo.mono hba.size)
 have hRw:w.heap.size ≤ wa.heap.size:=hba.size
 have hne1:w.heap.size ≠ wa.heap.size:=by have:=bx.lt; omega
 have hne3:wa.heap.size ≠ w.heap.size:=by have:=bx.lt; omega
 have p0:=bx2.d0
 have p1:=bx2.d1
 have p2:=bx2.d2
 have HRw:=Hd hRw
 have HO:=Hd hO
 have HBo:=Hd hB
 have HKO:=Hd (fun (W:World) => wone_any W)
 have okone:Ok [1]:=by intro z hz; simp at hz; omega
 have HKD:=Hd (fun (W:World) (hb:Below wo.heap.size wo W) aq mq cq ar mr cr (h1:Sl W aq mq cq [1]) (h2:Sl W ar mr cr [1]) => wDiv_any false g1 aq ar a1 b1 mq cq mr cr n1 c1 m1 d1 [1] [1] x1 y1 W h1 h2 ((hx1.below hB).below hb) ((hy1.below hB).below hb) okone okone ox1 oy1)
 rw [(divF_one g1 x1 y1 ox1 oy1).trans hFF] at HKD
 unfold ResF at HKD
 dsimp only at HKD
 clear hx1 hy1 bx bx2 hba hbo hB hO hFF okone
 unfold ratV at HKD ⊢
 go_enter Tryz.func16,Tryz.ntmps16
 go_wp2_with fail
 go_region_held3 (fun w' => w'.cell? ⟨w.heap.size,0,none⟩ = some (.bool g1) ∧ w'.cell? ⟨w.heap.size,1,none⟩ = some (.slice a1 n1 c1) ∧ w'.cell? ⟨w.heap.size,2,none⟩ = some (.slice b1 m1 d1)) (first | go_keep | (exact ⟨k0,k1,k2⟩) | (exact ⟨j0,j1,j2⟩))
  (first
   | (go_at_call 51; refine (Uh HKO _).mono ?_; rintro _ wk ⟨vt,rfl,aq,mq,cq,ar,mr,cr,rfl,st,su,nt1,nt2,bl_k⟩; unfold ratV; have hb_k:Below wo.heap.size wo wk:=(Below.refl _ _).drew.trans bl_k; have k0:=(ck hb_k p0); have k1:=(ck hb_k p1); have k2:=(ck hb_k p2); have ST:=Hd (And.intro st su); have HB_k:=Hd hb_k; clear hb_k bl_k st su nt1 nt2)
   | (go_at_call 44; refine (Uh HKD _ (Uh HB_k) aq mq cq ar mr cr (Uh ST).1 (Uh ST).2).mono ?_; rintro _ wi ⟨vv,rfl,aN,mN,cN,aD,mD,cD,rfl,sN,sD,nN,nD,bl_i⟩; unfold ratV; have j0:=(ck bl_i k0); have j1:=(ck bl_i k1); have j2:=(ck bl_i k2); have hzz:wa.heap.size + 1 ≤ wk.heap.size:=Nat.le_trans (Uh HO).lt (Uh HB_k).size; have HS3:=Hd (And.intro sN (And.intro (show NewAt (wa.heap.size + 1) aN from fun x hx => Nat.le_trans hzz (nN x hx)) (And.intro sD (show NewAt (wa.heap.size + 1) aD from fun x hx => Nat.le_trans hzz (nD x hx))))); have HB_i:=Hd ((Uh HB_k).trans (bl_i.mono (Uh HB_k).size)); have hO3:=(Uh HO).keep (Uh HB_i); obtain ⟨x0,q0⟩:=hO3.cells 0 (by decide); obtain ⟨x1',q1⟩:=hO3.cells 1 (by decide); obtain ⟨x2',q2⟩:=hO3.cells 2 (by decide); have r0:=hO3.fz 0 (by decide); have r1:=hO3.fz 1 (by decide); have r2:=hO3.fz 2 (by decide); have HO3:=Hd hO3; clear sN sD nN nD bl_i hO3 hzz))
 have H4:=Hd (three_set wi wa.heap.size (.bool SG) (.slice aN mN cN) (.slice aD mD cD) (Uh HO3).cells)
 have HB3:=Hd ((Uh HBo).trans ((Uh HB_i).mono (Uh HBo).size))
 clear q0 q1 q2 r0 r1 r2
 try go_wp2_with fail
 obtain ⟨t0,t1,t2,c4⟩:=Uh H4
 generalize ((wi.setCell ⟨wa.heap.size,0,none⟩ (.bool SG)).setCell ⟨wa.heap.size,1,none⟩ (.slice aN mN cN)).setCell ⟨wa.heap.size,2,none⟩ (.slice aD mD cD) = wf at *
 refine bodyPost_ret (by simp [results,Tryz.results16,go_sem,t0,t1,t2]; try rfl) rfl ?_
 obtain ⟨sN,nN,sD,nD⟩:=Uh HS3
 exact ⟨_,rfl,newR_of (Uh HRw) (Uh HO3).lt (Uh HB3) sN nN sD nD c4 SG⟩
def invL (neg:Bool) (xs ys:List Nat):MkL:=if MayR neg xs ys = true then (if xs = [] then ⟨false,[],[],3⟩ else ⟨neg,ys,xs,0⟩) else ⟨false,[],[],40⟩

set_option maxHeartbeats 8000000 in
theorem ratInv_any (neg : Bool) (a1 a2 : Option Addr) (n1 c1 n2 c2 : Nat) (xs ys : List Nat) (w : World) (h1 : Sl w a1 n1 c1 xs) (h2 : Sl w a2 n2 c2 ys) (ox : Ok xs) (oy : Ok ys) (hT : Tab64 w) :
    Calls Tryz.prog 15 #[ratV neg a1 n1 c1 a2 n2 c2] w fun e w' => ResR w w' (invL neg xs ys).neg (invL neg xs ys).num (invL neg xs ys).den (invL neg xs ys).er e := by
  have bx := Box.made w neg a1 n1 c1 a2 n2 c2
  obtain ⟨wa, hwa⟩ : ∃ wa, ratBox w neg a1 n1 c1 a2 n2 c2 = wa := ⟨_, rfl⟩
  rw [hwa] at bx
  unfold ratBox at hwa
  obtain ⟨wb, hwb⟩ : ∃ wb, wa.alloc (.cells #[.bool false, .slice none 0 0, .slice none 0 0] 25) = wb := ⟨_, rfl⟩
  have hbb : Below wa.heap.size wa wb := by rw [← hwb]; exact (Below.refl _ _).alloc (Nat.le_refl _) _
  have hO : Out wb wa.heap.size := by rw [← hwb]; exact Out.made wa
  have hlt := bx.lt
  have hX := bx.keep hbb
  have d0 := hX.d0
  have d1 := hX.d1
  have d2 := hX.d2
  have KM := ratMay_any neg a1 a2 n1 c1 n2 c2 xs ys wb (h1.below hX.bel) (h2.below hX.bel) ox oy (hT.below hX.bel)
  have HX := hide hX
  have HO := hide hO
  have H1 := hide h1
  have H2 := hide h2
  have HL := hide (And.intro h1.len h2.len)
  clear bx h1 h2 hT hbb hO hX
  cases hm : MayR neg xs ys
  · rw [hm] at KM
    have KM' := hide KM
    have HR := hide (show invL neg xs ys = ⟨false, [], [], 40⟩ from by simp [invL, hm])
    clear KM hm
    unfold ratV at KM' ⊢
    go_enter Tryz.func15, Tryz.ntmps15
    go_wp2_with fail
    refine (unhide KM').mono ?_
    rintro _ w1 ⟨rfl, b1⟩
    have hO1 := (unhide HO).keep b1
    obtain ⟨x0, q0⟩ := hO1.cells 0 (by decide)
    obtain ⟨x1, q1⟩ := hO1.cells 1 (by decide)
    obtain ⟨x2, q2⟩ := hO1.cells 2 (by decide)
    have r0 := hO1.fz 0 (by decide)
    have r1 := hO1.fz 1 (by decide)
    have r2 := hO1.fz 2 (by decide)
    have H4 := hide (three_set w1 wa.heap.size (.bool false) (.slice none 0 0) (.slice none 0 0) hO1.cells)
    have HB := hide ((unhide HX).bel.trans (b1.mono (unhide HX).bel.size))
    clear hO1 b1 KM'
    go_wp2_with fail
    obtain ⟨p0, p1, p2, c4⟩ := unhide H4
    generalize ((w1.setCell ⟨wa.heap.size, 0, none⟩ (.bool false)).setCell ⟨wa.heap.size, 1, none⟩ (.slice none 0 0)).setCell ⟨wa.heap.size, 2, none⟩ (.slice none 0 0) = wf at *
    refine bodyPost_ret (by simp [results, Tryz.results15, go_sem, p0, p1, p2]; try rfl) rfl ?_
    rw [unhide HR]
    exact ⟨_, rfl, none, 0, 0, none, 0, 0, rfl, sl_nil _, sl_nil _, newAt_nil _, newAt_nil _, (unhide HB).trans (c4.below (unhide HB).size (fun k hk => by omega))⟩
  · rw [hm] at KM
    have KM' := hide KM
    have hmm : MayL xs = true ∧ MayL ys = true := by
      have hm' := hm
      unfold MayR at hm'
      simp only [Bool.and_eq_true] at hm'
      exact ⟨hm'.1.1.1.1, hm'.1.1.1.2⟩
    have hn1 : n1 ≤ 1000000 := by have := MayL.len hmm.1; have := (unhide HL).1; omega
    have hn2 : n2 ≤ 1000000 := by have := MayL.len hmm.2; have := (unhide HL).2; omega
    have KZ := fun wx => isZero_any neg a1 a2 n1 c1 n2 c2 wx
    by_cases hx : xs = []
    · have HR := hide (show invL neg xs ys = ⟨false, [], [], 3⟩ from by unfold invL; rw [if_pos hm, if_pos hx])
      have hn0 : n1 = 0 := by rw [← (unhide HL).1, hx]; rfl
      subst hn0
      simp only [decide_true] at KZ
      have KZ' := hide KZ
      clear KM KZ hm hmm hx
      unfold ratV at KM' KZ' ⊢
      go_enter Tryz.func15, Tryz.ntmps15
      go_wp2_with fail
      refine (unhide KM').mono ?_
      rintro _ w1 ⟨rfl, b1⟩
      have hX1 := (unhide HX).keep b1
      have g0 := hX1.d0
      have g1 := hX1.d1
      have g2 := hX1.d2
      have HX1 := hide hX1
      have HO1 := hide ((unhide HO).keep b1)
      clear b1 hX1 KM'
      go_wp2_with fail
      refine (unhide KZ' w1).mono ?_
      rintro _ w2 ⟨rfl, b2⟩
      have hO1 := (unhide HO1).keep b2
      obtain ⟨x0, q0⟩ := hO1.cells 0 (by decide)
      obtain ⟨x1, q1⟩ := hO1.cells 1 (by decide)
      obtain ⟨x2, q2⟩ := hO1.cells 2 (by decide)
      have r0 := hO1.fz 0 (by decide)
      have r1 := hO1.fz 1 (by decide)
      have r2 := hO1.fz 2 (by decide)
      have H4 := hide (three_set w2 wa.heap.size (.bool false) (.slice none 0 0) (.slice none 0 0) hO1.cells)
      have HB := hide ((unhide HX1).bel.trans (b2.mono (unhide HX1).bel.size))
      clear hO1 b2 KZ'
      go_wp2_with fail
      obtain ⟨p0, p1, p2, c4⟩ := unhide H4
      generalize ((w2.setCell ⟨wa.heap.size, 0, none⟩ (.bool false)).setCell ⟨wa.heap.size, 1, none⟩ (.slice none 0 0)).setCell ⟨wa.heap.size, 2, none⟩ (.slice none 0 0) = wf at *
      refine bodyPost_ret (by simp [results, Tryz.results15, go_sem, p0, p1, p2]; try rfl) rfl ?_
      rw [unhide HR]
      exact ⟨_, rfl, none, 0, 0, none, 0, 0, rfl, sl_nil _, sl_nil _, newAt_nil _, newAt_nil _, (unhide HB).trans (c4.below (unhide HB).size (fun k hk => by omega))⟩
    · have HR := hide (show invL neg xs ys = ⟨neg, ys, xs, 0⟩ from by simp [invL, hm, hx])
      have hn0 : ¬ n1 = 0 := by intro e; have := (unhide HL).1; rw [e] at this; exact hx (List.eq_nil_of_length_eq_zero this)
      have KZ' := hide (fun wx => by have := KZ wx; rw [decide_eq_false hn0] at this; exact this)
      clear KM KZ hm hmm hx hn0
      unfold ratV at KM' KZ' ⊢
      go_enter Tryz.func15, Tryz.ntmps15
      go_wp2_with fail
      refine (unhide KM').mono ?_
      rintro _ w1 ⟨rfl, b1⟩
      have hX1 := (unhide HX).keep b1
      have g0 := hX1.d0
      have g1 := hX1.d1
      have g2 := hX1.d2
      have HX1 := hide hX1
      have HO1 := hide ((unhide HO).keep b1)
      clear b1 hX1 KM'
      go_wp2_with fail
      refine (unhide KZ' w1).mono ?_
      rintro _ w2 ⟨rfl, b2⟩
      have hX2 := ((unhide HX1).keep b2).keep (Below.refl w2.heap.size w2).drew
      have e0 := hX2.d0
      have e1 := hX2.d1
      have e2 := hX2.d2
      have KC1 := hide (sclone_any a2 n2 c2 ys w2.drew ((unhide H2).below hX2.bel) hn2)
      have HX2 := hide hX2
      have HO2 := hide (((unhide HO1).keep b2).keep (Below.refl w2.heap.size w2).drew)
      clear b2 hX2 KZ' g0 g1 g2 d0 d1 d2
      go_wp2_with fail
      go_region_with (first
        | (go_at_call 50
           refine (unhide KC1).mono ?_
           clear KC1
           rintro _ w3 ⟨aN, mN, cN, rfl, sN, nN, bN⟩
           have hX3 := (unhide HX2).keep bN
           have f0 := hX3.d0
           have f1 := hX3.d1
           have f2 := hX3.d2
           have KC2 := hide (sclone_any a1 n1 c1 xs w3 ((unhide H1).below hX3.bel) hn1)
           have HN := hide (And.intro sN (And.intro nN bN))
           have HX3 := hide hX3
           clear hX3 sN nN bN)
        | (go_at_call 50
           refine (unhide KC2).mono ?_
           clear KC2
           rintro _ w4 ⟨aD, mD, cD, rfl, sD, nD, bD⟩
           have hX4 := (unhide HX3).keep bD
           have k0 := hX4.d0
           have hO4 := ((unhide HO2).keep (unhide HN).2.2).keep bD
           obtain ⟨x0, q0⟩ := hO4.cells 0 (by decide)
           obtain ⟨x1, q1⟩ := hO4.cells 1 (by decide)
           obtain ⟨x2, q2⟩ := hO4.cells 2 (by decide)
           have r0 := hO4.fz 0 (by decide)
           have r1 := hO4.fz 1 (by decide)
           have r2 := hO4.fz 2 (by decide)
           have H4 := hide (three_set w4 wa.heap.size (.bool neg) (.slice aN mN cN) (.slice aD mD cD) hO4.cells)
           have HD := hide (And.intro sD (And.intro nD bD))
           clear sD nD bD hO4 hX4))
      all_goals
        go_wp2_with fail
        obtain ⟨p0, p1, p2, c4⟩ := unhide H4
        generalize ((w4.setCell ⟨wa.heap.size, 0, none⟩ (.bool neg)).setCell ⟨wa.heap.size, 1, none⟩ (.slice aN mN cN)).setCell ⟨wa.heap.size, 2, none⟩ (.slice aD mD cD) = wf at *
        refine bodyPost_ret (by simp [results, Tryz.results15, go_sem, p0, p1, p2]; try rfl) rfl ?_
        rw [unhide HR]
        obtain ⟨sN, nN, bN⟩ := unhide HN
        obtain ⟨sD, nD, bD⟩ := unhide HD
        obtain ⟨y1, y2, y3, y4, y5⟩ := ratMade_new (unhide HX2).bel (Nat.le_of_lt hlt) (unhide HO2).lt sN nN bN sD nD bD (Below.refl _ _) c4
        exact ⟨_, rfl, aN, mN, cN, aD, mD, cD, rfl, y1, y2, y3, y4, y5⟩
theorem ratInv_F (g:Bool) (a b:Option Addr) (n c m d:Nat) (x y:List Nat) (w:World) (hx:Sl w a n c x) (hy:Sl w b m d y) (ox:Ok x) (oy:Ok y) (hT:Tab64 w) :
  Calls Tryz.prog 15 #[ratV g a n c b m d] w fun e w' => ResF w w' (InvF g x y) e :=
 (ratInv_any g a b n c m d x y w hx hy ox oy hT).mono (fun e w' hr => by
  unfold InvF ResF
  unfold invL at hr
  by_cases h:MayR g x y = true
  ·rw [if_pos h] at hr ⊢
   by_cases h2:x = []
   ·rw [if_pos h2] at hr ⊢; exact hr
   ·rw [if_neg h2] at hr ⊢; exact hr
  ·rw [if_neg h] at hr ⊢; exact hr)
theorem i64_and_one (n:Int):bits .and .i64 n 1 = n % 2:=by
 have h1:(BitVec.ofInt 64 1).toNat = 2 ^ 1 - 1:=by decide
 have key:(BitVec.ofInt 64 n &&& BitVec.ofInt 64 1).toNat = (n % ((2 ^ 64:Nat):Int)).toNat % 2 ^ 1:=by
  rw [BitVec.toNat_and,BitVec.toNat_ofInt,h1,Nat.and_two_pow_sub_one_eq_mod]
 show IntKind.i64.wrap ((BitVec.ofInt 64 n &&& BitVec.ofInt 64 1).toNat:Nat) = n % 2
 rw [key,IntKind.wrap_i64]
 omega

set_option maxHeartbeats 4000000 in
set_option maxRecDepth 100000 in
theorem len64_a (x:Int) (w:World) (h0:0 ≤ x) (h1:x < 256) :
  Calls Tryz.prog 137 #[.int .u64 x] w fun e w' => e = .returned (.int .i64 (Lib.bitLen x.toNat)) ∧ w' = w:=by
 have hs:=tab_size
 have hc:¬ (4294967296:Int) ≤ x:=by omega
 have ha:¬ (65536:Int) ≤ x:=by omega
 have hb:¬ (256:Int) ≤ x:=by omega
 go_enter Tryz.func137,Tryz.ntmps137
 go_wp2
 go_ret
 refine ⟨congrArg Ending.returned (congrArg (Value.int IntKind.i64) ?_),rfl⟩
 rw [tab_at]
 have l:=bl8 x.toNat (by omega)
 rw [wr_small ((Lib.bitLen x.toNat:Nat):Int) (by omega) (by omega)]
 rw [wr_small ((Lib.bitLen x.toNat:Nat):Int) (by omega) (by omega)]

set_option maxHeartbeats 4000000 in
set_option maxRecDepth 100000 in
theorem len64_b (x:Int) (w:World) (h0:256 ≤ x) (h1:x < 65536) :
  Calls Tryz.prog 137 #[.int .u64 x] w fun e w' => e = .returned (.int .i64 (Lib.bitLen x.toNat)) ∧ w' = w:=by
 have hs:=tab_size
 have hc:¬ (4294967296:Int) ≤ x:=by omega
 have ha:¬ (65536:Int) ≤ x:=by omega
 have hb:(256:Int) ≤ x:=by omega
 go_enter Tryz.func137,Tryz.ntmps137
 go_wp2
 go_ret
 refine ⟨congrArg Ending.returned (congrArg (Value.int IntKind.i64) ?_),rfl⟩
 have e:(x / 256).toNat = x.toNat / 256:=by omega
 have l:=bl8 (x.toNat / 256) (by omega)
 have s:=Lib.bitLen_shift8 x.toNat (by omega) (by omega)
 rw [tab_at,e]
 rw [wr_small ((Lib.bitLen (x.toNat / 256):Nat):Int) (by omega) (by omega)]
 rw [wr_small _ (by omega) (by omega)]
 omega

theorem len64_small (x:Nat) (w:World) (h:x < 65536) :
  Calls Tryz.prog 137 #[.int .u64 (x:Nat)] w fun e w' => e = .returned (.int .i64 (Lib.bitLen x:Nat)) ∧ w' = w:=by
 by_cases k:x < 256
 ·exact len64_a (x:Int) w (by omega) (by omega)
 ·exact len64_b (x:Int) w (by omega) (by omega)

set_option maxHeartbeats 1000000 in
theorem blen_small (x:Nat) (w:World) (h:x < 65536) :
  Calls Tryz.prog 112 #[.int .u64 (x:Nat)] w fun e w' => e = .returned (.int .i64 (Lib.bitLen x:Nat)) ∧ w' = w:=by
 have K:=Hd (len64_small x w h)
 have hb:Lib.bitLen x ≤ 16:=Lib.bitLen_le _ 16 (by omega) (by omega)
 generalize Lib.bitLen x = y at *
 go_enter Tryz.func112,Tryz.ntmps112
 go_wp2_with fail
 refine (Uh K).mono ?_
 rintro e w' ⟨rfl,hw⟩
 obtain rfl:=hw.symm
 go_wp2
 go_ret
 exact ⟨rfl,rfl⟩

theorem bitLen_top (k:Nat) (h:k < 65536):k / 2 ^ Lib.bitLen k = 0:=Nat.div_eq_of_lt (bl_lt k k (Nat.le_refl _) (by omega))

theorem pow_half (v k i:Nat):v ^ (k / 2 ^ (i + 1)) * v ^ (k / 2 ^ (i + 1)) * (if k / 2 ^ i % 2 = 1 then v else 1) = v ^ (k / 2 ^ i):=by
 have e:k / 2 ^ (i + 1) = k / 2 ^ i / 2:=by rw [Nat.pow_succ,Nat.div_div_eq_div_mul]
 rw [e,← Nat.pow_add]
 generalize k / 2 ^ i = q
 by_cases h:q % 2 = 1
 ·rw [if_pos h,← Nat.pow_succ]
  congr 1
  omega
 ·rw [if_neg h,Nat.mul_one]
  congr 1
  omega

theorem pow_len {xs zs:List Nat} {n k j:Nat} (ox:Ok xs) (hl:xs.length = n) (hr:Rep (val xs ^ j) zs) (hj:j ≤ k):zs.length ≤ n * k + 1:=by
 refine rep_len_le hr ?_
 have h:=val_lt ox
 rw [hl] at h
 have h1:val xs ^ j ≤ (4294967296 ^ n) ^ j:=Nat.pow_le_pow_left (Nat.le_of_lt h) j
 rw [← Nat.pow_mul] at h1
 have h2:(4294967296:Nat) ^ (n * j) < 4294967296 ^ (n * k + 1):=Nat.pow_lt_pow_right (by decide) (Nat.lt_succ_of_le (Nat.mul_le_mul_left n hj))
 omega

theorem sl_unit (w:World) (x:Nat) (e:TypeId):Sl (w.alloc (.cells #[.int .u32 (x:Nat)] e)) (some ⟨w.heap.size,0,none⟩) 1 1 [x]:=by
 refine ⟨rfl,Nat.le_refl _,by unfold maxLen; omega,.inr ⟨_,_,rfl,?_⟩⟩
 intro i hi
 have:i = 0:=by simp at hi; omega
 subst this
 simp

structure PwR (wr w:World) (v:Value) (t:Nat):Prop where
 has:∃ a m zs,v = .slice a m m ∧ Sl wr a m m zs ∧ Rep t zs ∧ NewAt w.heap.size a
 bel:Below w.heap.size w wr

set_option maxHeartbeats 2000000 in
theorem power_any (a:Option Addr) (n c:Nat) (xs:List Nat) (k:Nat) (w:World) (h:Sl w a n c xs) (ox:Ok xs) (hn:n ≤ 100000) (hk:k ≤ 1024) :
  Calls Tryz.prog 85 #[.slice a n c,.int .i64 (k:Nat)] w fun e w' => NewRep w w' (val xs ^ k) e:=by
 have HL:=Hd h.len
 have H:=Hd h
 have hnk:n * k ≤ 102400000:=by
  have:n * k ≤ 100000 * 1024:=Nat.mul_le_mul hn hk
  omega
 have KB:=Hd (fun w => blen_small k w (by omega))
 have hb:Lib.bitLen k ≤ 16:=Lib.bitLen_le _ 16 (by omega) (by omega)
 have HT:=Hd (bitLen_top k (by omega))
 generalize Lib.bitLen k = y at *
 clear h
 go_enter Tryz.func85,Tryz.ntmps85
 go_wp2_with fail
 refine (Uh KB _).mono ?_
 rintro e w' ⟨rfl,hw⟩
 obtain rfl:=hw.symm
 clear hw KB
 have HR0:=Hd (show PwR (w.alloc (.cells #[.int .u32 1] 65)) w (.slice (some ⟨w.heap.size,0,none⟩) 1 1) (val xs ^ (k / 2 ^ y)) from ⟨⟨some ⟨w.heap.size,0,none⟩,1,[1],rfl,sl_unit w 1 65,by rw [Uh HT,Nat.pow_zero]; exact ⟨Ok.cons (by decide) Ok.nil,.inr (by decide),by simp [val]⟩,fun x hx => by cases hx; exact Nat.le_refl _⟩,(Below.refl w.heap.size w).alloc (Nat.le_refl _) _⟩)
 go_wp2_with fail
 go_loopw [5,6] (fun z iv wr => ∃ i:Nat,i ≤ y ∧ iv = .int .i64 ((i:Int) - 1) ∧ PwR wr w z (val xs ^ (k / 2 ^ i))) (fun _ iv _ => (intOf iv + 1).toNat)
 case atStart => exact ⟨y,Nat.le_refl _,rfl,Uh HR0⟩
 case round =>
  clear HR0
  obtain ⟨i,hi,rfl,⟨az,mz,zs,rfl,hsz,hrz,haz⟩,hbel⟩:=hrel
  rcases i with _ | i
  ·have t0:¬ (0:Int) ≤ ((0:Nat):Int) - 1:=by omega
   rw [Nat.pow_zero,Nat.div_one] at hrz
   have HZ:=Hd (And.intro hsz (And.intro hrz (And.intro haz hbel)))
   clear hsz hrz haz hbel
   go_wp2
   go_ret
   obtain ⟨hsz,hrz,haz,hbel⟩:=Uh HZ
   exact ⟨az,mz,zs,rfl,hsz,hrz,haz,hbel⟩
  ·have t0:((i + 1:Nat):Int) - 1 = (i:Int):=by omega
   rw [t0]
   have t1:(0:Int) ≤ (i:Int):=by omega
   have hml:mz ≤ n * k + 1:=by rw [← hsz.len]; exact pow_len ox (Uh HL) hrz (Nat.div_le_self _ _)
   have KM:=Hd (multiply_any az az mz mz mz mz zs zs wr hsz hsz hrz.ok hrz.ok (by omega))
   rw [hrz.val] at KM
   have HB:=Hd hbel
   have t2:(k:Int) / 2 ^ i = ((k / 2 ^ i:Nat):Int):=by rw [Int.natCast_ediv,Int.natCast_pow]; rfl
   have t3:=i64_and_one ((k / 2 ^ i:Nat):Int)
   have hP:=pow_half (val xs) k i
   have hdk:k / 2 ^ i ≤ k:=Nat.div_le_self _ _
   have hP2:=Hd (fun (zs:List Nat) (hr:Rep (val xs ^ (k / 2 ^ i)) zs) => pow_len ox (Uh HL) hr hdk)
   have hP3:=Hd (fun (zs:List Nat) (hr:Rep (val xs ^ (2 * (k / 2 ^ (i + 1)))) zs) => pow_len (k:=k) ox (Uh HL) hr (by rw [Nat.pow_succ,← Nat.div_div_eq_div_mul]; omega))
   generalize hq0:k / 2 ^ i = q at *
   have HQ0:=Hd hq0
   clear hq0
   generalize hQ:val xs ^ (k / 2 ^ (i + 1)) = Q at *
   have hQ2:=Hd (show Q * Q = val xs ^ (2 * (k / 2 ^ (i + 1))) from by rw [← hQ,← Nat.pow_add]; congr 1; omega)
   clear hsz hrz haz hbel hQ
   go_wp2_with fail
   refine (Uh KM).mono ?_
   rintro e w1 ⟨a1,m1,z1,rfl,hs1,hr1,ha1,hb1⟩
   have hb2:=(Uh HB).trans (hb1.mono (Uh HB).size)
   have ha2:NewAt w.heap.size a1:=fun x hx => Nat.le_trans (Uh HB).size (ha1 x hx)
   by_cases hq:q % 2 = 1
   ·rw [if_pos hq] at hP
    have t4:((q:Int) % 2 == 1) = true:=by simp; omega
    have t5:(q:Int) % 2 = 1:=by omega
    have hl1:m1 ≤ n * k + 1:=by
     rw [← hs1.len]
     exact Uh hP3 z1 (by rw [← Uh hQ2]; exact hr1)
    have KN:=Hd (multiply_any a1 a m1 m1 n c z1 xs w1 hs1 ((Uh H).below hb2) hr1.ok ox (by omega))
    rw [hr1.val,hP] at KN
    have HB2:=Hd hb2
    clear hs1 hr1 ha1 ha2 hb1 hb2 KM hP HB
    go_wp2_with fail
    refine (Uh KN).mono ?_
    rintro e w2 ⟨a2,m2,z2,rfl,hs2,hr2,ha2,hb3⟩
    have HS:=Hd (show PwR w2 w (.slice a2 m2 m2) (val xs ^ q) from ⟨⟨a2,m2,z2,rfl,hs2,hr2,fun x hx => Nat.le_trans (Uh HB2).size (ha2 x hx)⟩,(Uh HB2).trans (hb3.mono (Uh HB2).size)⟩)
    clear hs2 hr2 ha2 hb3 KN HB2
    go_wp2_with fail
    exact ⟨⟨i,by omega,rfl,by rw [Uh HQ0]; exact Uh HS⟩,by show ((i:Int) - 1 + 1).toNat < ((i:Int) + 1).toNat; omega⟩
   ·rw [if_neg hq,Nat.mul_one] at hP
    have t4:((q:Int) % 2 == 1) = false:=by simp; omega
    have t5:¬ (q:Int) % 2 = 1:=by omega
    rw [hP] at hr1
    have HS:=Hd (show PwR w1 w (.slice a1 m1 m1) (val xs ^ q) from ⟨⟨a1,m1,z1,rfl,hs1,hr1,ha2⟩,hb2⟩)
    clear hs1 hr1 ha1 ha2 hb1 hb2 KM hP HB
    go_wp2_with fail
    exact ⟨⟨i,by omega,rfl,by rw [Uh HQ0]; exact Uh HS⟩,by show ((i:Int) - 1 + 1).toNat < ((i:Int) + 1).toNat; omega⟩
def powL (xs:List Nat) (k:Int):List Nat × Int:=if MayL xs then (if k < 0 ∨ 1024 < k then ([],1) else fitL (val xs ^ k.toNat)) else ([],20)

theorem big_len {v E:Nat} (hE:65536 ≤ E) (h:2 ^ E ≤ v):2048 < (limbs v).length:=by
 rcases Nat.lt_or_ge 2048 (limbs v).length with k | k
 ·exact k
 ·exfalso
  have h1:=val_lt (limbs_rep v).ok
  rw [(limbs_rep v).val,pow_limb] at h1
  have:=(Nat.pow_lt_pow_iff_right (by decide:1 < 2)).1 (Nat.lt_of_le_of_lt h h1)
  omega

theorem pow_big {xs:List Nat} {k:Nat} (ox:Ok xs) (nx:Norm xs) (h:65536 ≤ ((bitsN xs:Int) - 1) * (k:Int)):2048 < (limbs (val xs ^ k)).length:=by
 have h0:xs ≠ []:=by
  intro e
  subst e
  simp only [bitsN,if_true] at h
  have:(((0:Nat):Int) - 1) * (k:Int) = -(k:Int):=by rw [show ((0:Nat):Int) - 1 = -1 from rfl,Int.neg_mul,Int.one_mul]
  omega
 have hb:=val_ge_bits ox nx h0
 have e:bitsN xs = bitsL xs:=by unfold bitsN; rw [if_neg h0]
 rw [e] at h
 have h1:(2 ^ (bitsL xs - 1)) ^ k ≤ val xs ^ k:=Nat.pow_le_pow_left hb.2 k
 rw [← Nat.pow_mul] at h1
 refine big_len ?_ h1
 have h2:(((bitsL xs - 1) * k:Nat):Int) = ((bitsL xs:Int) - 1) * (k:Int):=by
  rw [Int.natCast_mul,Int.natCast_sub hb.1]; rfl
 omega

theorem pow_prod {u k:Nat} (hu:u ≤ 100000) (hk:k ≤ 1024):-1024 ≤ ((u:Int) - 1) * (k:Int) ∧ ((u:Int) - 1) * (k:Int) ≤ 102400000:=by
 rcases u with _ | u
 ·have:(((0:Nat):Int) - 1) * (k:Int) = -(k:Int):=by rw [show ((0:Nat):Int) - 1 = -1 from rfl,Int.neg_mul,Int.one_mul]
  omega
 ·have e:(((u + 1:Nat):Int) - 1) * (k:Int) = ((u * k:Nat):Int):=by rw [Int.natCast_mul]; congr 1; omega
  have:u * k ≤ 100000 * 1024:=Nat.mul_le_mul (by omega) hk
  rw [e]
  omega

set_option maxHeartbeats 2000000 in
theorem npow_any (a:Option Addr) (n c:Nat) (xs:List Nat) (k:Int) (w:World) (h:Sl w a n c xs) (ox:Ok xs) :
  Calls Tryz.prog 52 #[.slice a n c,.int .i64 k] w fun e w' => Res2 w w' (powL xs k) e:=by
 have K1:=may_any a n c xs w h
 by_cases m1:MayL xs = true
 ·rw [m1] at K1
  have K1':=Hd K1
  by_cases hk:k < 0
  ·have HC:=Hd (show powL xs k = ([],1) from by simp [powL,m1,hk])
   clear K1 m1 h ox
   go_enter Tryz.func52,Tryz.ntmps52
   go_wp2_with fail
   refine (Uh K1').mono ?_
   rintro e w' ⟨rfl,hw⟩
   obtain rfl:=hw.symm
   go_wp2
   go_ret2
   rw [Uh HC]
   exact ⟨none,0,0,rfl,sl_nil _,newAt_nil _,Below.refl _ _⟩
  ·by_cases hk2:1024 < k
   ·have HC:=Hd (show powL xs k = ([],1) from by simp [powL,m1,hk2])
    clear K1 m1 h ox
    go_enter Tryz.func52,Tryz.ntmps52
    go_wp2_with fail
    refine (Uh K1').mono ?_
    rintro e w' ⟨rfl,hw⟩
    obtain rfl:=hw.symm
    go_wp2
    go_ret2
    rw [Uh HC]
    exact ⟨none,0,0,rfl,sl_nil _,newAt_nil _,Below.refl _ _⟩
   ·obtain ⟨j,rfl⟩:∃ j:Nat,k = (j:Int):=⟨k.toNat,by omega⟩
    have HC:=Hd (show powL xs (j:Int) = fitL (val xs ^ j) from by simp [powL,m1,hk,hk2])
    have nx:=MayL.norm m1
    have hl:n ≤ 2048:=by have:=h.len; have:=MayL.len m1; omega
    have KB:=Hd (bitLen_all a n c xs w h ox (by omega))
    have KP:=Hd (power_any a n c xs j w h ox (by omega) (by omega))
    have HBig:=Hd (pow_big (k:=j) ox nx)
    have hpb:=pow_prod (k:=j) (bitsN_le ox (MayL.len m1)) (by omega)
    have hub:=bitsN_le ox (MayL.len m1)
    generalize bitsN xs = u at *
    generalize hp:((u:Int) - 1) * (j:Int) = p at *
    clear K1 m1 h ox nx
    by_cases hbig:65536 ≤ p
    ·have HF:=Hd (fitL_big (Uh HBig hbig))
     clear KP
     go_enter Tryz.func52,Tryz.ntmps52
     go_wp2_with fail
     refine (Uh K1').mono ?_
     rintro e w' ⟨rfl,hw⟩
     obtain rfl:=hw.symm
     go_wp2_with fail
     refine (Uh KB).mono ?_
     rintro e w' ⟨rfl,hw⟩
     obtain rfl:=hw.symm
     go_wp2
     go_ret2
     rw [Uh HC,Uh HF]
     exact ⟨none,0,0,rfl,sl_nil _,newAt_nil _,Below.refl _ _⟩
    ·go_enter Tryz.func52,Tryz.ntmps52
     go_wp2_with fail
     refine (Uh K1').mono ?_
     rintro e w' ⟨rfl,hw⟩
     obtain rfl:=hw.symm
     go_wp2_with fail
     refine (Uh KB).mono ?_
     rintro e w' ⟨rfl,hw⟩
     obtain rfl:=hw.symm
     go_wp2_with fail
     refine (Uh KP).mono ?_
     rintro e w1 ⟨a',m,zs,rfl,hs,hr,ha,hb⟩
     have KF:=Hd (fit_any a' m m _ zs w1 hs hr)
     have HA:=Hd (And.intro ha hb)
     clear hs hr ha hb KP
     go_wp2_with fail
     refine (Uh KF).mono ?_
     rintro e w' ⟨a2,m2,c2,rfl,hs,ha2,hw⟩
     obtain rfl:=hw.symm
     have HS:=Hd (And.intro hs ha2)
     clear hs ha2 hw
     go_wp2
     go_ret2
     rw [Uh HC]
     refine ⟨a2,m2,c2,rfl,(Uh HS).1,?_,(Uh HA).2⟩
     rcases (Uh HS).2 with e | e
     ·rw [e]; exact (Uh HA).1
     ·rw [e]; exact newAt_nil _
 ·have m1':MayL xs = false:=by simpa using m1
  rw [m1'] at K1
  have K1':=Hd K1
  have HC:=Hd (show powL xs k = ([],20) from by simp [powL,m1'])
  clear K1 m1 m1' h ox
  go_enter Tryz.func52,Tryz.ntmps52
  go_wp2_with fail
  refine (Uh K1').mono ?_
  rintro e w' ⟨rfl,hw⟩
  obtain rfl:=hw.symm
  go_wp2
  go_ret2
  rw [Uh HC]
  exact ⟨none,0,0,rfl,sl_nil _,newAt_nil _,Below.refl _ _⟩
end Go.Proofs.YthmcfpeobkgihaaGreatDoor
