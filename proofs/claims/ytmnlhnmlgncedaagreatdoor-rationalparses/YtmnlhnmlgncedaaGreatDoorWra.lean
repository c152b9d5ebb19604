/- Wib -/
import Derived.Test.YtmnlhnmlgncedaaGreatDoorWia
import Derived.Test.YtmnlhnmlgncedaaGreatDoorRq0
import Derived.Test.YtmnlhnmlgncedaaGreatDoorRa5
import Derived.Deep.RegionHeld3
import Derived.Test.YtmnlhnmlgncedaaGreatDoorWr9
namespace Go.Proofs.YtmnlhnmlgncedaaGreatDoor
open Go.RowKit Go.Deep
set_option linter.unusedVariables false
def cmbV (nx:Bool) (v1:Nat) (ny:Bool) (v2:Nat):Nat × Bool:=if nx = ny then (v1 + v2,nx) else if v1 < v2 then (v2 - v1,ny) else (v1 - v2,nx)
def CmPost (N:Nat) (w w':World) (r:Nat × Bool) (e:Ending):Prop:=∃ a n c ps,e = .returned (.tuple #[.slice a n c,.bool r.2]) ∧ Wide w' a n c r.1 ps ∧ n ≤ N ∧ Below w.heap.size w w'

set_option maxHeartbeats 8000000 in
theorem combine_any (nx ny:Bool) (a1 a2:Option Addr) (n1 c1 n2 c2 v1 v2:Nat) (ps qs:List Pc) (w:World) (h1:Wide w a1 n1 c1 v1 ps) (h2:Wide w a2 n2 c2 v2 qs) (hn1:n1 ≤ 1000) (hn2:n2 ≤ 1000) :
  Calls Tryz.prog 85 #[.bool nx,.slice a1 n1 c1,.bool ny,.slice a2 n2 c2] w fun e w' => CmPost (max n1 n2 + 1) w w' (cmbV nx v1 ny v2) e:=by
 by_cases hs:nx = ny
 ·subst hs
  have HE:=Hj (show cmbV nx v1 nx v2 = (v1 + v2,nx) by simp [cmbV])
  have KP:=Hj (plus_any a1 a2 n1 c1 n2 c2 v1 v2 ps qs w h1 h2 hn1 hn2)
  have q:(nx == nx) = true:=by simp
  clear h1 h2
  rw [Uh HE]
  go_enter Tryz.func85,Tryz.ntmps85
  go_wp2_with fail
  refine (Uh KP).mono ?_
  rintro _ wb ⟨ab,nb,cb,bs,rfl,hWb,hnb,hbb⟩
  have HB:=Hj (And.intro hWb (And.intro hnb hbb))
  clear hWb hnb hbb KP
  go_wp2_with fail
  go_ret2
  exact ⟨ab,nb,cb,bs,rfl,(Uh HB).1,(Uh HB).2.1,(Uh HB).2.2⟩
 ·have q:(nx == ny) = false:=by simpa using hs
  have KC:=compareWide_any a1 a2 n1 c1 n2 c2 v1 v2 ps qs w h1 h2 (by omega) (by omega)
  by_cases hlt:v1 < v2
  ·rw [cmpN_lt hlt] at KC
   have HKC:=Hj KC
   have HE:=Hj (show cmbV nx v1 ny v2 = (v2 - v1,ny) by simp [cmbV,hs,hlt])
   have HM:=Hj (fun (W:World) (hb:Below w.heap.size w W) => minus_any a2 a1 n2 c2 n1 c1 v2 v1 qs ps W (h2.below hb) (h1.below hb) (by omega) hn2)
   clear KC h1 h2 hs hlt
   rw [Uh HE]
   go_enter Tryz.func85,Tryz.ntmps85
   go_wp2_with fail
   refine (Uh HKC).mono ?_
   rintro _ wa ⟨rfl,hba⟩
   have KM:=Hj (Uh HM wa hba)
   have HBa:=Hj hba
   clear hba HKC HM
   go_wp2_with fail
   refine (Uh KM).mono ?_
   rintro _ wb ⟨ab,nb,cb,bs,rfl,hWb,hnb,hbb⟩
   have HB:=Hj (And.intro hWb (And.intro hnb ((Uh HBa).trans (hbb.mono (Uh HBa).size))))
   clear hWb hnb hbb KM
   go_wp2_with fail
   go_ret2
   exact ⟨ab,nb,cb,bs,rfl,(Uh HB).1,Nat.le_trans (Uh HB).2.1 (by omega),(Uh HB).2.2⟩
  ·have hc0:¬ cmpN v1 v2 < 0:=by
    rcases Nat.lt_trichotomy v1 v2 with h | h | h
    ·omega
    ·rw [cmpN_eq h]; decide
    ·rw [cmpN_gt h]; decide
   have HE:=Hj (show cmbV nx v1 ny v2 = (v1 - v2,nx) by simp [cmbV,hs,hlt])
   have HM:=Hj (fun (W:World) (hb:Below w.heap.size w W) => minus_any a1 a2 n1 c1 n2 c2 v1 v2 ps qs W (h1.below hb) (h2.below hb) (by omega) hn1)
   obtain ⟨cv,hcv⟩:∃ cv,cmpN v1 v2 = cv:=⟨_,rfl⟩
   rw [hcv] at KC hc0
   have HKC:=Hj KC
   clear KC h1 h2 hs hlt hcv
   rw [Uh HE]
   go_enter Tryz.func85,Tryz.ntmps85
   go_wp2_with fail
   refine (Uh HKC).mono ?_
   rintro _ wa ⟨rfl,hba⟩
   have KM:=Hj (Uh HM wa hba)
   have HBa:=Hj hba
   clear hba HKC HM
   go_wp2_with fail
   refine (Uh KM).mono ?_
   rintro _ wb ⟨ab,nb,cb,bs,rfl,hWb,hnb,hbb⟩
   have HB:=Hj (And.intro hWb (And.intro hnb ((Uh HBa).trans (hbb.mono (Uh HBa).size))))
   clear hWb hnb hbb KM
   go_wp2_with fail
   go_ret2
   exact ⟨ab,nb,cb,bs,rfl,(Uh HB).1,Nat.le_trans (Uh HB).2.1 (by omega),(Uh HB).2.2⟩
theorem prod_less {x1 y2 x2 y1:List Nat} (o1:Ok x1) (o2:Ok y2) (o3:Ok x2) (o4:Ok y1) (n3:Norm x2) (n4:Norm y1) (h3:x2 ≠ []) (h4:y1 ≠ []) (h:bitsN x1 + bitsN y2 + 1 < bitsN x2 + bitsN y1):val x1 * val y2 < val x2 * val y1:=by
 have a1:=val_lt_bits o1
 have a2:=val_lt_bits o2
 obtain ⟨b3,c3⟩:=val_ge_bits o3 n3 h3
 obtain ⟨b4,c4⟩:=val_ge_bits o4 n4 h4
 have e3:bitsN x2 = bitsL x2:=by simp [bitsN,h3]
 have e4:bitsN y1 = bitsL y1:=by simp [bitsN,h4]
 have p1:val x1 * val y2 < 2 ^ bitsN x1 * 2 ^ bitsN y2:=by
  have k1:val x1 * val y2 ≤ val x1 * 2 ^ bitsN y2:=Nat.mul_le_mul_left _ (Nat.le_of_lt a2)
  have k2:val x1 * 2 ^ bitsN y2 < 2 ^ bitsN x1 * 2 ^ bitsN y2:=Nat.mul_lt_mul_of_pos_right a1 (Nat.pow_pos (by decide))
  omega
 have p2:2 ^ (bitsL x2 - 1) * 2 ^ (bitsL y1 - 1) ≤ val x2 * val y1:=Nat.mul_le_mul c3 c4
 rw [← Nat.pow_add] at p1 p2
 have p3:2 ^ (bitsN x1 + bitsN y2) ≤ 2 ^ (bitsL x2 - 1 + (bitsL y1 - 1)):=Nat.pow_le_pow_right (by decide) (by omega)
 omega
structure SzOk (x1 y1 x2 y2:List Nat):Prop where
 lt:bitsN x1 + bitsN y2 + 1 < bitsN x2 + bitsN y1 → val x1 * val y2 < val x2 * val y1
 gt:bitsN x2 + bitsN y1 + 1 < bitsN x1 + bitsN y2 → val x2 * val y1 < val x1 * val y2

set_option maxHeartbeats 8000000 in
set_option maxRecDepth 100000 in
theorem compareSizes_any (g1 g2:Bool) (a1 b1 a2 b2:Option Addr) (n1 c1 m1 d1 n2 c2 m2 d2:Nat) (x1 y1 x2 y2:List Nat) (w:World) (hx1:Sl w a1 n1 c1 x1) (hy1:Sl w b1 m1 d1 y1) (hx2:Sl w a2 n2 c2 x2) (hy2:Sl w b2 m2 d2 y2) (ox1:Ok x1) (oy1:Ok y1) (ox2:Ok x2) (oy2:Ok y2) (kx1:MayL x1 = true) (ky1:MayL y1 = true) (kx2:MayL x2 = true) (ky2:MayL y2 = true) (sz:SzOk x1 y1 x2 y2) :
  Calls Tryz.prog 109 #[ratV g1 a1 n1 c1 b1 m1 d1,ratV g2 a2 n2 c2 b2 m2 d2] w fun e w' => e = .returned (.int .i64 (cmpN (val x1 * val y2) (val x2 * val y1))) ∧ Below w.heap.size w w':=by
 have bx:=Box.made w g1 a1 n1 c1 b1 m1 d1
 obtain ⟨wa,hwa⟩:∃ wa,ratBox w g1 a1 n1 c1 b1 m1 d1 = wa:=⟨_,rfl⟩
 rw [hwa] at bx
 have by_:=Box.made wa g2 a2 n2 c2 b2 m2 d2
 obtain ⟨wb,hwb⟩:∃ wb,ratBox wa g2 a2 n2 c2 b2 m2 d2 = wb:=⟨_,rfl⟩
 rw [hwb] at by_
 have hba:Below w.heap.size w wa:=by rw [← hwa]; exact bAl
 have hbb:Below wa.heap.size wa wb:=by rw [← hwb]; exact bAl
 have bx2:=bx.keep hbb
 have hB:=hba.trans (hbb.mono hba.size)
 unfold ratBox at hwa hwb
 have p1:=bx2.d1
 have p2:=bx2.d2
 have q1:=by_.d1
 have q2:=by_.d2
 have lx1:=bitsN_le ox1 (MayL.len kx1)
 have ly1:=bitsN_le oy1 (MayL.len ky1)
 have lx2:=bitsN_le ox2 (MayL.len kx2)
 have ly2:=bitsN_le oy2 (MayL.len ky2)
 obtain ⟨B1,e1⟩:∃ B,bitsN x1 = B:=⟨_,rfl⟩
 obtain ⟨C1,f1⟩:∃ B,bitsN y1 = B:=⟨_,rfl⟩
 obtain ⟨B2,e2⟩:∃ B,bitsN x2 = B:=⟨_,rfl⟩
 obtain ⟨C2,f2⟩:∃ B,bitsN y2 = B:=⟨_,rfl⟩
 have HK:=Hj (fun (W:World) (hb:Below wb.heap.size wb W) => (⟨by have K:=nbits_any a1 n1 c1 x1 W ((hx1.below hB).below hb) ox1 kx1; rw [e1] at K; exact K,by have K:=nbits_any b1 m1 d1 y1 W ((hy1.below hB).below hb) oy1 ky1; rw [f1] at K; exact K,by have K:=nbits_any a2 n2 c2 x2 W ((hx2.below hB).below hb) ox2 kx2; rw [e2] at K; exact K,by have K:=nbits_any b2 m2 d2 y2 W ((hy2.below hB).below hb) oy2 ky2; rw [f2] at K; exact K⟩ :
  (Calls Tryz.prog 94 #[.slice a1 n1 c1] W fun e w' => e = .returned (.int .i64 (B1:Nat)) ∧ w' = W) ∧ (Calls Tryz.prog 94 #[.slice b1 m1 d1] W fun e w' => e = .returned (.int .i64 (C1:Nat)) ∧ w' = W) ∧ (Calls Tryz.prog 94 #[.slice a2 n2 c2] W fun e w' => e = .returned (.int .i64 (B2:Nat)) ∧ w' = W) ∧ (Calls Tryz.prog 94 #[.slice b2 m2 d2] W fun e w' => e = .returned (.int .i64 (C2:Nat)) ∧ w' = W)))
 have HP1:=Hj (fun (W:World) (hb:Below wb.heap.size wb W) => product_any a1 b2 n1 c1 m2 d2 x1 y2 W ((hx1.below hB).below hb) ((hy2.below hB).below hb) ox1 oy2 kx1 ky2)
 have HP2:=Hj (fun (W:World) (hb:Below wb.heap.size wb W) => product_any a2 b1 n2 c2 m1 d1 x2 y1 W ((hx2.below hB).below hb) ((hy1.below hB).below hb) ox2 oy1 kx2 ky1)
 have hlt:=sz.lt
 have hgt:=sz.gt
 rw [e1,e2,f1,f2] at hlt hgt
 rw [e1] at lx1
 rw [f1] at ly1
 rw [e2] at lx2
 rw [f2] at ly2
 obtain ⟨V1,hV1⟩:∃ V,val x1 * val y2 = V:=⟨_,rfl⟩
 obtain ⟨V2,hV2⟩:∃ V,val x2 * val y1 = V:=⟨_,rfl⟩
 rw [hV1,hV2] at hlt hgt
 rw [hV1] at HP1
 rw [hV2] at HP2
 rw [hV1,hV2]
 have HBB:=Hj hB
 have HHlt:=Hj hlt
 have HHgt:=Hj hgt
 unfold ratV
 clear bx bx2 by_ hba hbb hB hx1 hy1 hx2 hy2 sz e1 e2 f1 f2 hV1 hV2 hlt hgt
 go_enter Tryz.func109,Tryz.ntmps109
 have Fp1:=fun x:Ext wb => x.cell p1
 have Fq2:=fun x:Ext wb => x.cell q2
 have hNE:=Ext.ne wb
 go_wp2_with fail
 refine wp_region_ext (by kernel_rfl) (by kernel_rfl) ?_
 repeat (go_big_quiet_step (first
  | (go_at_call_of 94 (Value.slice a1 n1 c1); rename_i x; exact Ext.call (Uh HK x.w x.bel).1 (fun e w' h => ⟨h.1,by rw [h.2]; exact Below.refl _ _⟩))
  | (go_at_call_of 94 (Value.slice b2 m2 d2); rename_i x; exact Ext.call (Uh HK x.w x.bel).2.2.2 (fun e w' h => ⟨h.1,by rw [h.2]; exact Below.refl _ _⟩))))
 refine wpQuiet_nil ?_
 rintro _ ⟨xE,rfl⟩
 clear Fp1 Fq2 hNE
 have HBE:=Hj xE.bel
 have r1:=xE.cell q1
 have r2:=xE.cell p2
 have r3:=xE.cell p1
 have r4:=xE.cell q2
 clear p1 p2 q1 q2
 have Fr1:=fun x:Ext xE.w => x.cell r1
 have Fr2:=fun x:Ext xE.w => x.cell r2
 have hNE:=Ext.ne xE.w
 go_wp2_with fail
 refine wp_region_ext (by kernel_rfl) (by kernel_rfl) ?_
 repeat (go_big_quiet_step (first
  | (go_at_call_of 94 (Value.slice a2 n2 c2); rename_i x; exact Ext.call (Uh HK x.w ((Uh HBE).trans (x.bel.mono (Uh HBE).size))).2.2.1 (fun e w' h => ⟨h.1,by rw [h.2]; exact Below.refl _ _⟩))
  | (go_at_call_of 94 (Value.slice b1 m1 d1); rename_i x; exact Ext.call (Uh HK x.w ((Uh HBE).trans (x.bel.mono (Uh HBE).size))).2.1 (fun e w' h => ⟨h.1,by rw [h.2]; exact Below.refl _ _⟩))))
 refine wpQuiet_nil ?_
 rintro _ ⟨xG,rfl⟩
 clear Fr1 Fr2 hNE
 have HBG:=Hj ((Uh HBE).trans (xG.bel.mono (Uh HBE).size))
 have s1:=xG.cell r1
 have s2:=xG.cell r2
 have s3:=xG.cell r3
 have s4:=xG.cell r4
 clear r1 r2 r3 r4
 by_cases h1:B1 + C2 + 1 < B2 + C1
 ·have h1':(B1:Int) + (C2:Int) + 1 < (B2:Int) + (C1:Int):=by omega
  have HR:=Hj (cmpN_lt (Uh HHlt h1))
  clear h1
  go_wp2_with fail
  go_ret
  rw [Uh HR]
  exact ⟨rfl,(Uh HBB).trans ((Uh HBG).mono (Uh HBB).size)⟩
 ·have h1':¬ (B1:Int) + (C2:Int) + 1 < (B2:Int) + (C1:Int):=by omega
  by_cases h2:B2 + C1 + 1 < B1 + C2
  ·have h2':(B2:Int) + (C1:Int) + 1 < (B1:Int) + (C2:Int):=by omega
   have HR:=Hj (cmpN_gt (Uh HHgt h2))
   clear h1 h2
   go_wp2_with fail
   go_ret
   rw [Uh HR]
   exact ⟨rfl,(Uh HBB).trans ((Uh HBG).mono (Uh HBB).size)⟩
  ·have h2':¬ (B2:Int) + (C1:Int) + 1 < (B1:Int) + (C2:Int):=by omega
   clear h1 h2
   have l1:w.heap.size < xG.w.heap.size:=World.block_lt_of_cell? _ _ s3
   have l2:wa.heap.size < xG.w.heap.size:=World.block_lt_of_cell? _ _ s1
   go_wp2_with fail
   go_region_held3 (fun w' => w'.cell? ⟨w.heap.size,1,none⟩ = some (.slice a1 n1 c1) ∧ w'.cell? ⟨wa.heap.size,2,none⟩ = some (.slice b2 m2 d2) ∧ w'.cell? ⟨wa.heap.size,1,none⟩ = some (.slice a2 n2 c2) ∧ w'.cell? ⟨w.heap.size,2,none⟩ = some (.slice b1 m1 d1)) (first | go_keep | (exact ⟨k3,k4,k1,k2⟩) | (exact ⟨j3,j4,j1,j2⟩))
    (first
     | (go_at_call_of 86 (Value.slice a1 n1 c1); refine (Uh HP1 _ (Uh HBG).drew).mono ?_; rintro _ wc ⟨ac,nc,cc,cs,rfl,hWc,hnc,hbc⟩; have hbGc:Below xG.w.heap.size xG.w wc:=(Below.refl _ _).drew.trans hbc; have hbc2:=(Uh HBG).trans (hbGc.mono (Uh HBG).size); have k1:=(hbGc.cell (p:=⟨wa.heap.size,1,none⟩) l2).trans s1; have k2:=(hbGc.cell (p:=⟨w.heap.size,2,none⟩) l1).trans s2; have k3:=(hbGc.cell (p:=⟨w.heap.size,1,none⟩) l1).trans s3; have k4:=(hbGc.cell (p:=⟨wa.heap.size,2,none⟩) l2).trans s4; have HC:=Hj (And.intro hWc (And.intro hnc hbc2)); clear hWc hnc hbc hbGc hbc2)
     | (go_at_call_of 86 (Value.slice a2 n2 c2); refine (Uh HP2 _ (Uh HC).2.2).mono ?_; rintro _ wd ⟨ad,nd,cd,ds,rfl,hWd,hnd,hbd⟩; have j1:=(ck hbd k1); have j2:=(ck hbd k2); have j3:=(ck hbd k3); have j4:=(ck hbd k4); have HKC:=Hj (compareWide_any ac ad nc cc nd cd V1 V2 cs ds wd ((Uh HC).1.below hbd) hWd (by have:=(Uh HC).2.1; omega) (by omega)); have HD:=Hj ((Uh HC).2.2.trans (hbd.mono (Uh HC).2.2.size)); clear hWd hnd hbd)
     | (go_at_call 137; refine (Uh HKC).mono ?_; rintro _ we ⟨rfl,hbe⟩; have i1:=(ck hbe j1); have i2:=(ck hbe j2); have i3:=(ck hbe j3); have i4:=(ck hbe j4); have HF:=Hj ((Uh HD).trans (hbe.mono (Uh HD).size)); clear hbe))
   all_goals
    try go_wp2_with fail
    try go_ret
    exact ⟨rfl,(Uh HBB).trans ((Uh HF).mono (Uh HBB).size)⟩
def cmpR (g1:Bool) (x1 y1:List Nat) (g2:Bool) (x2 y2:List Nat):Int :=
 if signR g1 x1 < signR g2 x2 then -1 else if signR g2 x2 < signR g1 x1 then 1 else if g1 then cmpN (val x2 * val y1) (val x1 * val y2) else cmpN (val x1 * val y2) (val x2 * val y1)
theorem MayR.parts {g:Bool} {x y:List Nat} (h:MayR g x y = true):MayL x = true ∧ MayL y = true ∧ y ≠ [] ∧ (g = true → x ≠ []) ∧ Nat.gcd (val x) (val y) = 1:=by
 unfold MayR at h
 simp only [Bool.and_eq_true,Bool.not_eq_true',decide_eq_false_iff_not,decide_eq_true_eq] at h
 obtain ⟨⟨⟨⟨h1,h2⟩,h3⟩,h4⟩,h5⟩:=h
 refine ⟨h1,h2,h3,fun hg hx => ?_,h5⟩
 rw [hg,hx] at h4
 simp at h4
theorem sz_ok {g1 g2:Bool} {x1 y1 x2 y2:List Nat} (ox1:Ok x1) (oy1:Ok y1) (ox2:Ok x2) (oy2:Ok y2) (h1:MayR g1 x1 y1 = true) (h2:MayR g2 x2 y2 = true) (hs:signR g1 x1 = signR g2 x2):SzOk x1 y1 x2 y2:=by
 obtain ⟨a1,b1,c1,d1,e1⟩:=MayR.parts h1
 obtain ⟨a2,b2,c2,d2,e2⟩:=MayR.parts h2
 by_cases z1:x1 = []
 ·have g10:g1 = false:=by cases g1; rfl; exact absurd z1 (d1 rfl)
  have s1:signR g1 x1 = 0:=by rw [g10,z1]; rfl
  rw [s1] at hs
  have z2:x2 = []:=by
   unfold signR at hs
   cases g2
   ·simp at hs
    by_cases h:x2 = []
    ·exact h
    ·simp [h] at hs
   ·simp at hs
  have v1:val y1 = 1:=by rw [z1] at e1; simpa [val] using e1
  have v2:val y2 = 1:=by rw [z2] at e2; simpa [val] using e2
  have k1:=bitsN_mono oy1 oy2 (MayL.norm b1) (by omega)
  have k2:=bitsN_mono oy2 oy1 (MayL.norm b2) (by omega)
  rw [z1,z2]
  exact ⟨fun h => by omega,fun h => by omega⟩
 ·have z2:x2 ≠ []:=by
   intro z2
   have g20:g2 = false:=by cases g2; rfl; exact absurd z2 (d2 rfl)
   rw [g20,z2] at hs
   unfold signR at hs
   cases g1
   ·simp [z1] at hs
   ·simp at hs
  exact ⟨fun h => prod_less ox1 oy2 ox2 oy1 (MayL.norm a2) (MayL.norm b1) z2 c1 h,fun h => prod_less ox2 oy1 ox1 oy2 (MayL.norm a1) (MayL.norm b2) z1 c2 h⟩

set_option maxHeartbeats 8000000 in
set_option maxRecDepth 100000 in
theorem ratcompare_any (g1 g2:Bool) (a1 b1 a2 b2:Option Addr) (n1 c1 m1 d1 n2 c2 m2 d2:Nat) (x1 y1 x2 y2:List Nat) (w:World) (hx1:Sl w a1 n1 c1 x1) (hy1:Sl w b1 m1 d1 y1) (hx2:Sl w a2 n2 c2 x2) (hy2:Sl w b2 m2 d2 y2) (ox1:Ok x1) (oy1:Ok y1) (ox2:Ok x2) (oy2:Ok y2) (h1:MayR g1 x1 y1 = true) (h2:MayR g2 x2 y2 = true) :
  Calls Tryz.prog 57 #[ratV g1 a1 n1 c1 b1 m1 d1,ratV g2 a2 n2 c2 b2 m2 d2] w fun e w' => e = .returned (.int .i64 (cmpR g1 x1 y1 g2 x2 y2)) ∧ Below w.heap.size w w':=by
 have bx:=Box.made w g1 a1 n1 c1 b1 m1 d1
 obtain ⟨wa,hwa⟩:∃ wa,ratBox w g1 a1 n1 c1 b1 m1 d1 = wa:=⟨_,rfl⟩
 rw [hwa] at bx
 have by_:=Box.made wa g2 a2 n2 c2 b2 m2 d2
 obtain ⟨wb,hwb⟩:∃ wb,ratBox wa g2 a2 n2 c2 b2 m2 d2 = wb:=⟨_,rfl⟩
 rw [hwb] at by_
 have hba:Below w.heap.size w wa:=by rw [← hwa]; exact bAl
 have hbb:Below wa.heap.size wa wb:=by rw [← hwb]; exact bAl
 have bx2:=bx.keep hbb
 have hB:=hba.trans (hbb.mono hba.size)
 unfold ratBox at hwa hwb
 have p0:=bx2.d0
 have p1:=bx2.d1
 have p2:=bx2.d2
 have q0:=by_.d0
 have q1:=by_.d1
 have q2:=by_.d2
 obtain ⟨ka1,kb1,_,_,_⟩:=MayR.parts h1
 obtain ⟨ka2,kb2,_,_,_⟩:=MayR.parts h2
 have HS1:=Hj (fun (W:World) => rsign_any g1 a1 b1 n1 c1 m1 d1 x1 W hx1.len)
 have HS2:=Hj (fun (W:World) => rsign_any g2 a2 b2 n2 c2 m2 d2 x2 W hx2.len)
 have HSz:=Hj (fun hs => sz_ok ox1 oy1 ox2 oy2 h1 h2 hs)
 have HSz2:=Hj (fun hs => sz_ok ox2 oy2 ox1 oy1 h2 h1 hs)
 have HC1:=Hj (fun (W:World) (hb:Below wb.heap.size wb W) sz => compareSizes_any g1 g2 a1 b1 a2 b2 n1 c1 m1 d1 n2 c2 m2 d2 x1 y1 x2 y2 W ((hx1.below hB).below hb) ((hy1.below hB).below hb) ((hx2.below hB).below hb) ((hy2.below hB).below hb) ox1 oy1 ox2 oy2 ka1 kb1 ka2 kb2 sz)
 have HC2:=Hj (fun (W:World) (hb:Below wb.heap.size wb W) sz => compareSizes_any g2 g1 a2 b2 a1 b1 n2 c2 m2 d2 n1 c1 m1 d1 x2 y2 x1 y1 W ((hx2.below hB).below hb) ((hy2.below hB).below hb) ((hx1.below hB).below hb) ((hy1.below hB).below hb) ox2 oy2 ox1 oy1 ka2 kb2 ka1 kb1 sz)
 have HBB:=Hj hB
 have hX1:-1 ≤ signR g1 x1 ∧ signR g1 x1 ≤ 1:=by unfold signR; split; omega; split <;> omega
 have hX2:-1 ≤ signR g2 x2 ∧ signR g2 x2 ≤ 1:=by unfold signR; split; omega; split <;> omega
 obtain ⟨R,hR⟩:∃ R,cmpR g1 x1 y1 g2 x2 y2 = R:=⟨_,rfl⟩
 have HR:=Hj hR
 rw [hR]
 unfold cmpR at HR
 obtain ⟨X,hX⟩:∃ X,signR g1 x1 = X:=⟨_,rfl⟩
 obtain ⟨Y,hY⟩:∃ X,signR g2 x2 = X:=⟨_,rfl⟩
 rw [hX] at HS1 HSz HSz2 hX1 HR
 rw [hY] at HS2 HSz HSz2 hX2 HR
 unfold ratV at HS1 HS2 HC1 HC2 ⊢
 clear bx bx2 by_ hba hbb hB hx1 hy1 hx2 hy2 hX hY hR h1 h2 ka1 kb1 ka2 kb2
 have F0:=fun x:Ext wb => x.cell p0
 have F1:=fun x:Ext wb => x.cell p1
 have F2:=fun x:Ext wb => x.cell p2
 have G0:=fun x:Ext wb => x.cell q0
 have G1:=fun x:Ext wb => x.cell q1
 have G2:=fun x:Ext wb => x.cell q2
 have hNE:=Ext.ne wb
 go_enter Tryz.func57,Tryz.ntmps57
 go_wp2_with fail
 refine wp_region_ext (by kernel_rfl) (by kernel_rfl) ?_
 repeat (go_big_quiet_step (first
  | (go_at_call_of 84 (Value.agg #[Value.bool g1,Value.slice a1 n1 c1,Value.slice b1 m1 d1]); rename_i x; exact Ext.call (Uh HS1 x.w) (fun e w' h => h))
  | (go_at_call_of 84 (Value.agg #[Value.bool g2,Value.slice a2 n2 c2,Value.slice b2 m2 d2]); rename_i x; exact Ext.call (Uh HS2 x.w) (fun e w' h => h))))
 refine wpQuiet_nil ?_
 rintro _ ⟨xE,rfl⟩
 have HBE:=Hj xE.bel
 have r0:=xE.cell p0
 have r1:=xE.cell p1
 have r2:=xE.cell p2
 have s0:=xE.cell q0
 have s1:=xE.cell q1
 have s2:=xE.cell q2
 clear F0 F1 F2 G0 G1 G2 hNE p0 p1 p2 q0 q1 q2
 by_cases t1:X < Y
 ·have HR3:=Hj (show R = -1 by rw [← Uh HR,if_pos t1])
  clear HR
  go_wp2_with fail
  go_ret
  rw [Uh HR3]
  exact ⟨rfl,(Uh HBB).trans ((Uh HBE).mono (Uh HBB).size)⟩
 ·by_cases t2:Y < X
  ·have HR3:=Hj (show R = 1 by rw [← Uh HR,if_neg t1,if_pos t2])
   clear HR
   go_wp2_with fail
   go_ret
   rw [Uh HR3]
   exact ⟨rfl,(Uh HBB).trans ((Uh HBE).mono (Uh HBB).size)⟩
  ·have hXY:X = Y:=by omega
   cases g1
   ·have KS:=Hj (Uh HC1 xE.w (Uh HBE) (Uh HSz hXY))
    have HR3:=Hj (show R = cmpN (val x1 * val y2) (val x2 * val y1) by rw [← Uh HR,if_neg t1,if_neg t2]; rfl)
    clear HR HSz HSz2 HC1 HC2 HS1 HS2 hXY
    go_wp2_with fail
    refine (Uh KS).mono ?_
    rintro _ wz ⟨rfl,hbz⟩
    have HBz:=Hj ((Uh HBE).trans (hbz.mono (Uh HBE).size))
    clear hbz KS
    go_wp2_with fail
    go_ret
    rw [Uh HR3]
    exact ⟨rfl,(Uh HBB).trans ((Uh HBz).mono (Uh HBB).size)⟩
   ·have KS:=Hj (Uh HC2 xE.w (Uh HBE) (Uh HSz2 hXY.symm))
    have HR3:=Hj (show R = cmpN (val x2 * val y1) (val x1 * val y2) by rw [← Uh HR,if_neg t1,if_neg t2]; rfl)
    clear HR HSz HSz2 HC1 HC2 HS1 HS2 hXY
    go_wp2_with fail
    refine (Uh KS).mono ?_
    rintro _ wz ⟨rfl,hbz⟩
    have HBz:=Hj ((Uh HBE).trans (hbz.mono (Uh HBE).size))
    clear hbz KS
    go_wp2_with fail
    go_ret
    rw [Uh HR3]
    exact ⟨rfl,(Uh HBB).trans ((Uh HBz).mono (Uh HBB).size)⟩
def CmpF (g1:Bool) (x1 y1:List Nat) (g2:Bool) (x2 y2:List Nat):Int:=if MayR g1 x1 y1 && MayR g2 x2 y2 then cmpR g1 x1 y1 g2 x2 y2 else 0
set_option maxHeartbeats 8000000 in
set_option maxRecDepth 100000 in
theorem ratCmp_any (g1 g2:Bool) (a1 b1 a2 b2:Option Addr) (n1 c1 m1 d1 n2 c2 m2 d2:Nat) (x1 y1 x2 y2:List Nat) (w:World) (hx1:Sl w a1 n1 c1 x1) (hy1:Sl w b1 m1 d1 y1) (hx2:Sl w a2 n2 c2 x2) (hy2:Sl w b2 m2 d2 y2) (ox1:Ok x1) (oy1:Ok y1) (ox2:Ok x2) (oy2:Ok y2) (hT:Tab64 w) :
  Calls Tryz.prog 23 #[ratV g1 a1 n1 c1 b1 m1 d1,ratV g2 a2 n2 c2 b2 m2 d2] w fun e w' => e = .returned (.int .i64 (CmpF g1 x1 y1 g2 x2 y2)) ∧ Below w.heap.size w w':=by
 have bx:=Box.made w g1 a1 n1 c1 b1 m1 d1
 obtain ⟨wa,hwa⟩:∃ wa,ratBox w g1 a1 n1 c1 b1 m1 d1 = wa:=⟨_,rfl⟩
 rw [hwa] at bx
 have by_:=Box.made wa g2 a2 n2 c2 b2 m2 d2
 obtain ⟨wb,hwb⟩:∃ wb,ratBox wa g2 a2 n2 c2 b2 m2 d2 = wb:=⟨_,rfl⟩
 rw [hwb] at by_
 have hba:Below w.heap.size w wa:=by rw [← hwa]; exact bAl
 have hbb:Below wa.heap.size wa wb:=by rw [← hwb]; exact bAl
 have bx2:=bx.keep hbb
 have hB:=hba.trans (hbb.mono hba.size)
 unfold ratBox at hwa hwb
 have p0:=bx2.d0
 have p1:=bx2.d1
 have p2:=bx2.d2
 have q0:=by_.d0
 have q1:=by_.d1
 have q2:=by_.d2
 have HM1:=Hj (fun (W:World) (hb:Below wb.heap.size wb W) => ratMay_any g1 a1 b1 n1 c1 m1 d1 x1 y1 W ((hx1.below hB).below hb) ((hy1.below hB).below hb) ox1 oy1 ((hT.below hB).below hb))
 have HM2:=Hj (fun (W:World) (hb:Below wb.heap.size wb W) => ratMay_any g2 a2 b2 n2 c2 m2 d2 x2 y2 W ((hx2.below hB).below hb) ((hy2.below hB).below hb) ox2 oy2 ((hT.below hB).below hb))
 have HC:=Hj (fun (W:World) (hb:Below wb.heap.size wb W) h1 h2 => ratcompare_any g1 g2 a1 b1 a2 b2 n1 c1 m1 d1 n2 c2 m2 d2 x1 y1 x2 y2 W ((hx1.below hB).below hb) ((hy1.below hB).below hb) ((hx2.below hB).below hb) ((hy2.below hB).below hb) ox1 oy1 ox2 oy2 h1 h2)
 have HBx:=Hj (And.intro bx2 by_)
 have HBB:=Hj hB
 obtain ⟨R,hR⟩:∃ R,CmpF g1 x1 y1 g2 x2 y2 = R:=⟨_,rfl⟩
 have HR:=Hj hR
 rw [hR]
 unfold CmpF at HR
 unfold ratV at HM1 HM2 HC ⊢
 clear bx bx2 by_ hba hbb hB hx1 hy1 hx2 hy2 hT hR
 cases k1:MayR g1 x1 y1
 ·have HR3:=Hj (show R = 0 by rw [← Uh HR,k1]; rfl)
  have KM:=Hj (Uh HM1 wb (Below.refl _ _))
  rw [k1] at KM
  clear HR HM1 HM2 HC k1
  go_enter Tryz.func23,Tryz.ntmps23
  go_wp2_with fail
  refine (Uh KM).mono ?_
  rintro _ wc ⟨rfl,hbc⟩
  have HF:=Hj ((Uh HBB).trans (hbc.mono (Uh HBB).size))
  clear hbc KM
  go_wp2_with fail
  go_ret
  rw [Uh HR3]
  exact ⟨rfl,Uh HF⟩
 ·have KM:=Hj (Uh HM1 wb (Below.refl _ _))
  rw [k1] at KM
  cases k2:MayR g2 x2 y2
  ·have HR3:=Hj (show R = 0 by rw [← Uh HR,k1,k2]; rfl)
   have HM:=Hj (fun W hb => (by have K:=Uh HM2 W hb; rw [k2] at K; exact K:Calls Tryz.prog 6 #[.agg #[.bool g2,.slice a2 n2 c2,.slice b2 m2 d2]] W fun e w' => e = .returned (.bool false) ∧ Below W.heap.size W w'))
   clear HR HM1 HM2 HC k1 k2
   go_enter Tryz.func23,Tryz.ntmps23
   go_wp2_with fail
   refine (Uh KM).mono ?_
   rintro _ wc ⟨rfl,hbc⟩
   have b2:=(Uh HBx).2.keep hbc
   have r0:=b2.d0
   have r1:=b2.d1
   have r2:=b2.d2
   have KM2:=Hj (Uh HM wc hbc)
   have HBc:=Hj hbc
   clear hbc KM b2 HM p0 p1 p2 q0 q1 q2
   go_wp2_with fail
   refine (Uh KM2).mono ?_
   rintro _ wd ⟨rfl,hbd⟩
   have h9:=(Uh HBc).trans (hbd.mono (Uh HBc).size)
   have HF:=Hj ((Uh HBB).trans (h9.mono (Uh HBB).size))
   clear hbd KM2 h9
   go_wp2_with fail
   go_ret
   rw [Uh HR3]
   exact ⟨rfl,Uh HF⟩
  ·have HR3:=Hj (show R = cmpR g1 x1 y1 g2 x2 y2 by rw [← Uh HR,k1,k2]; rfl)
   have HM:=Hj (fun W hb => (by have K:=Uh HM2 W hb; rw [k2] at K; exact K:Calls Tryz.prog 6 #[.agg #[.bool g2,.slice a2 n2 c2,.slice b2 m2 d2]] W fun e w' => e = .returned (.bool true) ∧ Below W.heap.size W w'))
   have HCC:=Hj (fun W hb => Uh HC W hb k1 k2)
   clear HR HM1 HM2 HC k1 k2
   go_enter Tryz.func23,Tryz.ntmps23
   go_wp2_with fail
   refine (Uh KM).mono ?_
   rintro _ wc ⟨rfl,hbc⟩
   have b2:=(Uh HBx).2.keep hbc
   have b1_:=(Uh HBx).1.keep hbc
   have r0:=b2.d0
   have r1:=b2.d1
   have r2:=b2.d2
   have KM2:=Hj (Uh HM wc hbc)
   have HBc:=Hj hbc
   have HB2:=Hj (And.intro b1_ b2)
   clear hbc KM b2 b1_ HM p0 p1 p2 q0 q1 q2
   go_wp2_with fail
   refine (Uh KM2).mono ?_
   rintro _ wd ⟨rfl,hbd⟩
   have b3:=(Uh HB2).1.keep hbd
   have b4:=(Uh HB2).2.keep hbd
   have u0:=b3.d0
   have u1:=b3.d1
   have u2:=b3.d2
   have v0:=b4.d0
   have v1:=b4.d1
   have v2:=b4.d2
   have h9:=(Uh HBc).trans (hbd.mono (Uh HBc).size)
   have KC:=Hj (Uh HCC wd h9)
   have HD:=Hj h9
   clear hbd KM2 h9 b3 b4 HCC r0 r1 r2
   go_wp2_with fail
   refine (Uh KC).mono ?_
   rintro _ we ⟨rfl,hbe⟩
   have h9:=(Uh HD).trans (hbe.mono (Uh HD).size)
   have HF:=Hj ((Uh HBB).trans (h9.mono (Uh HBB).size))
   clear hbe KC h9
   go_wp2_with fail
   go_ret
   rw [Uh HR3]
   exact ⟨rfl,Uh HF⟩
structure OddP (w w':World) (B:Nat) (a:Option Addr) (n cp v m k u:Nat) (d:Bool):Prop where
 own:Ow w' B a m cp (limbs u)
 eq:v = u * 2 ^ k
 kle:k ≤ 32
 yes:d = true → u % 2 = 1
 no:d = false → m < n
 chg:Chg (fun j => AtB a j) w w'

def OddQ (w:World) (B:Nat) (a:Option Addr) (n cp v:Nat) (e:Ending) (w':World):Prop:=∃ m k u d,e = .returned (.tuple #[.slice a m cp,.int .i64 (k:Nat),.bool d]) ∧ OddP w w' B a n cp v m k u d

structure MvR (wr w:World) (B g n cp:Nat) (xs:List Nat) (k:Nat):Prop where
 own:Ow wr B (some ⟨g,0,none⟩) n cp ((xs.drop 1).take k ++ xs.drop k)
 chg:Chg (fun j => AtB (some ⟨g,0,none⟩) j) w wr

theorem mv_len {xs:List Nat} {k n:Nat} (hl:xs.length = n) (hk:k + 1 ≤ n):((xs.drop 1).take k).length = k:=by simp [hl]; omega
theorem MvR.step {wr w:World} {B g n cp:Nat} {xs:List Nat} {k:Nat} (h:MvR wr w B g n cp xs k) (hl:xs.length = n) (hk:k + 1 < n) :
  MvR (wr.setCell ⟨g,k,none⟩ (.int .u32 (xs.getD (k + 1) 0:Nat))) w B g n cp xs (k + 1):=by
 refine ⟨?_,h.chg.trans (.of_set _ _ _ _ atB_some)⟩
 have:=h.own.set k (xs.getD (k + 1) 0)
 rw [set_mid (mv_len hl (by omega)) hl (by omega)] at this
 have e:(xs.drop 1).take k ++ [xs.getD (k + 1) 0] = (xs.drop 1).take (k + 1):=by
  rw [List.take_succ_eq_append_getElem (by simp; omega)]
  simp [List.getD,show k + 1 < xs.length from by omega]
 rw [e] at this
 exact this
theorem MvR.get {wr w:World} {B g n cp:Nat} {xs:List Nat} {k:Nat} (h:MvR wr w B g n cp xs k) (hl:xs.length = n) (hk:k + 1 < n) :
  wr.cell? ⟨g,k + 1,none⟩ = some (.int .u32 (xs.getD (k + 1) 0:Nat)):=by
 rw [h.own.cell (by omega)]
 congr 3
 have e:=mv_len hl (k:=k) (by omega)
 simp only [List.getD]
 rw [List.getElem?_append_right (by omega),e,List.getElem?_drop]
 congr 2; omega
theorem MvR.fin {wr w:World} {B g n cp v:Nat} {k:Nat} (h:MvR wr w B g n cp (limbs v) k) (hl:(limbs v).length = n) (hk:k + 1 = n) :
  Ow wr B (some ⟨g,0,none⟩) (n - 1) cp (limbs (v / 4294967296)):=by
 have h1:=h.own.take (m:=n - 1) (by omega)
 have e1:=mv_len hl (k:=k) (by omega)
 rw [List.take_append_of_le_length (by omega),List.take_of_length_le (by omega)] at h1
 have e2:((limbs v).drop 1).take k = (limbs v).drop 1:=List.take_of_length_le (by simp; omega)
 rw [e2] at h1
 have e3:(limbs v).drop 1 = limbs (v / 4294967296):=by
  have hv:=val_drop (limbs_ok v) 1
  rw [limbs_v,Nat.pow_one] at hv
  have nn:Norm ((limbs v).drop 1):=by
   have:=limbs_norm v
   cases hh:limbs v with
   | nil => left; rfl
   | cons x xs => rw [hh] at this; simpa using norm_tail this
  rw [← hv]
  exact (limbs_val ((limbs_ok v).drop 1) nn).symm
 rw [← e3]
 exact h1

theorem low_limb (v:Nat):(limbs v).getD 0 0 = v % 4294967296:=by
 have h:=val_drop_step (limbs v) 0
 rw [List.drop_zero,limbs_v] at h
 have:=(limbs_ok v).getD 0
 omega

set_option maxRecDepth 100000 in
set_option maxHeartbeats 4000000 in
theorem wodd_zero (g B n cp v:Nat) (w:World) (h1:Ow w B (some ⟨g,0,none⟩) n cp (limbs v)) (hv:0 < v) (hn:n ≤ 1000000000) (hz:v % 4294967296 = 0) :
  Calls Tryz.prog 212 #[.slice (some ⟨g,0,none⟩) n cp] w fun e w' => OddQ w B (some ⟨g,0,none⟩) n cp v e w':=by
 have hl:=h1.len
 have hcap:=h1.sl.cap
 have hle:=h1.sl.le
 unfold maxLen at hcap
 have hn1:1 < n:=by
  rcases Nat.lt_or_ge 1 n with h | h
  ·exact h
  ·exfalso
   have:=limbs_lt v
   have h2:4294967296 ^ (limbs v).length ≤ 4294967296 ^ 1:=Nat.pow_le_pow_right (by decide) (by omega)
   omega
 have c0:=h1.cell (i:=0) (by omega)
 rw [low_limb,hz] at c0
 have HF:=Hj (fun wr k (h:MvR wr w B g n cp (limbs v) k) (hk:k + 1 = n) => (show OddP w wr B (some ⟨g,0,none⟩) n cp v (n - 1) 32 (v / 4294967296) false from ⟨h.fin hl hk,by omega,Nat.le_refl _,(by intro e; cases e),fun _ => by omega,h.chg⟩))
 have H0:=Hj (show MvR w w B g n cp (limbs v) 0 from ⟨by simpa using h1,Chg.refl _ _⟩)
 have hn1':((n:Int) - 1) = ((n - 1:Nat):Int):=by omega
 obtain ⟨xs,hxs⟩:∃ xs,limbs v = xs:=⟨_,rfl⟩
 have HL:=Hj hl
 rw [hxs] at HF H0 HL
 clear h1 hxs hl hv hz
 obtain ⟨n0,hn0⟩:∃ k,n - 1 = k:=⟨_,rfl⟩
 rw [hn0] at hn1' HF
 have HN0:=Hj hn0
 clear hn0
 go_enter Tryz.func212,Tryz.ntmps212
 go_wp2_with fail
 go_loopw [5] (fun i wr => ∃ k:Nat,k + 1 ≤ n ∧ i = .int .i64 (k:Nat) ∧ MvR wr w B g n cp xs k) (fun i _ => n - (intOf i).toNat)
 case atStart => exact ⟨0,by omega,rfl,Uh H0⟩
 case round =>
  clear H0
  obtain ⟨k,hk,rfl,hR⟩:=hrel
  by_cases hlt:k + 1 < n
  ·have tA:(k:Int) + 1 < (n:Int):=by omega
   have g1:=hR.get (Uh HL) hlt
   have g2:=hR.own.cell (i:=k) (by omega)
   have g3:=hR.own.froz (i:=k)
   have HS:=Hj (hR.step (Uh HL) hlt)
   generalize xs.getD (k + 1) 0 = x at *
   generalize ((xs.drop 1).take k ++ xs.drop k).getD k 0 = y at *
   clear hR c0
   go_wp2_with fail
   exact ⟨⟨k + 1,by omega,by go_num,Uh HS⟩,by simp [intOf]; omega⟩
  ·have tA:¬ (k:Int) + 1 < (n:Int):=by omega
   have HX:=Hj (Uh HF wr k hR (by omega))
   have hb0:n0 ≤ n:=by have:=Uh HN0; omega
   clear hR c0 hlt
   go_wp2_with fail
   go_ret3
   exact ⟨n0,32,_,false,rfl,Uh HX⟩

theorem low_bit {x k:Nat} (hk:x % 2 ^ k = 0) (hb:x / 2 ^ k % 2 = 0):x % 2 ^ (k + 1) = 0:=by
 rw [Nat.pow_succ,Nat.mod_mul,hk,hb,Nat.mul_zero]
theorem low_bit1 {x k:Nat} (hk:x % 2 ^ k = 0):x = x / 2 ^ k * 2 ^ k:=by
 have:=Nat.div_add_mod x (2 ^ k)
 rw [hk,Nat.add_zero,Nat.mul_comm] at this
 exact this.symm

structure MbR (wr w:World) (B g n cp:Nat) (xs:List Nat) (s k:Nat):Prop where
 own:Ow wr B (some ⟨g,0,none⟩) n cp (lst (shF xs 0 s) k ++ xs.drop k)
 chg:Chg (fun j => AtB (some ⟨g,0,none⟩) j) w wr
theorem MbR.step {wr w:World} {B g n cp:Nat} {xs:List Nat} {s k:Nat} (h:MbR wr w B g n cp xs s k) (hl:xs.length = n) (hk:k < n) :
  MbR (wr.setCell ⟨g,k,none⟩ (.int .u32 (srd (xs.getD k 0) (xs.getD (k + 1) 0) s:Nat))) w B g n cp xs s (k + 1):=by
 refine ⟨?_,h.chg.trans (.of_set _ _ _ _ atB_some)⟩
 have:=h.own.set k (srd (xs.getD k 0) (xs.getD (k + 1) 0) s)
 rw [set_mid (lst_len _ _) hl hk] at this
 have e:lst (shF xs 0 s) k ++ [srd (xs.getD k 0) (xs.getD (k + 1) 0) s] = lst (shF xs 0 s) (k + 1):=by
  simp [lst,List.range_succ,shF]
 rw [e] at this
 exact this
theorem MbR.get {wr w:World} {B g n cp:Nat} {xs:List Nat} {s k j:Nat} (h:MbR wr w B g n cp xs s k) (hl:xs.length = n) (hk:k ≤ j) (hj:j < n) :
  wr.cell? ⟨g,j,none⟩ = some (.int .u32 (xs.getD j 0:Nat)):=by
 rw [h.own.cell hj]
 congr 3
 have e:=lst_len (shF xs 0 s) k
 simp only [List.getD]
 rw [List.getElem?_append_right (by omega),e,List.getElem?_drop]
 congr 2; omega

set_option maxRecDepth 100000 in
set_option maxHeartbeats 8000000 in
theorem wodd_some (g B n cp v:Nat) (w:World) (h1:Ow w B (some ⟨g,0,none⟩) n cp (limbs v)) (hn:n ≤ 1000000000) (hz:v % 4294967296 ≠ 0) :
  Calls Tryz.prog 212 #[.slice (some ⟨g,0,none⟩) n cp] w fun e w' => OddQ w B (some ⟨g,0,none⟩) n cp v e w':=by
 have hl:=h1.len
 have hn1:0 < n:=by
  rcases Nat.eq_zero_or_pos n with h | h
  ·exfalso
   rw [h] at hl
   have:=limbs_eq_nil.1 (List.eq_nil_of_length_eq_zero hl)
   subst this
   exact hz rfl
  ·exact h
 have c0:=h1.cell (i:=0) (by omega)
 rw [low_limb] at c0
 obtain ⟨x0,hx0⟩:∃ x,v % 4294967296 = x:=⟨_,rfl⟩
 rw [hx0] at c0
 have hxb:x0 < 4294967296:=by omega
 have hxe:((x0:Int) == 0) = false:=by simp; omega
 have hxn:¬ (x0:Int) = 0:=by omega
 have HX0:=Hj hx0
 have HXN:=Hj (show x0 ≠ 0 by omega)
 have ox:=limbs_ok v
 have HV:=Hj (limbs_v v)
 have H0:=Hj (fun s => (show MbR w w B g n cp (limbs v) s 0 from ⟨by simpa [lst] using h1,Chg.refl _ _⟩))
 obtain ⟨xs,hxs⟩:∃ xs,limbs v = xs:=⟨_,rfl⟩
 have HL:=Hj hl
 have HO:=Hj h1
 rw [hxs] at H0 HL ox HV HO
 have HXS:=Hj hxs
 clear h1 hxs hl hz hx0
 go_enter Tryz.func212,Tryz.ntmps212
 go_wp2_with fail
 go_loop [6] (fun i => ∃ k:Nat,k < 32 ∧ i = .int .i64 (k:Nat) ∧ x0 % 2 ^ k = 0) (fun i => 32 - (intOf i).toNat)
 case atStart => exact ⟨0,by decide,rfl,by rw [Nat.pow_zero,Nat.mod_one]⟩
 case round =>
  obtain ⟨k,hk,rfl,hm⟩:=hrel
  have hy:=shr_lt (s:=k) hxb
  have e1:(x0:Int) / 2 ^ k = ((x0 / 2 ^ k:Nat):Int):=by rw [Int.natCast_ediv,Int.natCast_pow]; rfl
  have e2:=and_one _ hy
  have hy2:x0 / 2 ^ k % 2 < 2:=Nat.mod_lt _ (by decide)
  by_cases hb:x0 / 2 ^ k % 2 = 0
  ·have h2:=low_bit hm hb
   have hk31:k + 1 < 32:=by
    rcases Nat.lt_or_ge (k + 1) 32 with h | h
    ·exact h
    ·exfalso
     have:k = 31:=by omega
     subst this
     rw [show 31 + 1 = 32 from rfl,show (2:Nat) ^ 32 = 4294967296 from by decide,Nat.mod_eq_of_lt hxb] at h2
     exact Uh HXN h2
   have H2:=Hj h2
   have HM:=Hj hm
   rw [hb] at e2
   clear h2 hm hb hy2
   generalize x0 / 2 ^ k = y at *
   go_wp2_with fail
   exact ⟨⟨k + 1,hk31,by go_num,Uh H2⟩,by simp [intOf]; omega⟩
  ·have hb1:x0 / 2 ^ k % 2 = 1:=by omega
   rw [hb1] at e2
   -- v is an odd number times 2 ^ k
   have hvk:v % 2 ^ k = 0:=by
    have hd:2 ^ k ∣ 4294967296:=by rw [show (4294967296:Nat) = 2 ^ 32 from by decide]; exact Nat.pow_dvd_pow 2 (by omega)
    rw [← Uh HX0] at hm
    rw [Nat.mod_mod_of_dvd v hd] at hm
    exact hm
   have hvo:v / 2 ^ k % 2 = 1:=by
    obtain ⟨q,h3⟩:∃ q,v = x0 + 4294967296 * q:=⟨v / 4294967296,by have:=Uh HX0; omega⟩
    have hp:=pow_split (s:=k) hk
    have h4:v / 2 ^ k = x0 / 2 ^ k + 2 ^ (32 - k) * q:=by
     rw [h3,← hp,Nat.mul_assoc,Nat.add_mul_div_left _ _ (Nat.two_pow_pos k)]
    rw [h4,show 32 - k = 31 - k + 1 from by omega,Nat.pow_succ,Nat.mul_comm (2 ^ (31 - k)) 2,Nat.mul_assoc]
    omega
   have HVE:=Hj (low_bit1 hvk)
   have HVO:=Hj hvo
   have HSV:=Hj (shr_val ox (Uh HL) (Nat.zero_le n) (show k / 32 = 0 by omega) (show k % 32 = k by omega))
   clear hb hm hb1 hvk hvo
   generalize x0 / 2 ^ k = y at *
   by_cases hk0:k = 0
   ·have tk:¬ (0:Int) < (k:Int):=by omega
    have HK0:=Hj hk0
    clear hk0
    have K:=wnorm_any (some ⟨g,0,none⟩) n cp B xs w (Uh HO) ox
    rw [Uh HV] at K
    have HK:=Hj K
    clear K
    go_wp2_with fail
    go_loopw [7] (fun i wr => i = .int .i64 0 ∧ wr = w) (fun i _ => (intOf i).toNat)
    case atStart => exact ⟨rfl,rfl⟩
    case round =>
     obtain ⟨rfl,hw⟩:=hrel
     subst hw
     have t1:(0:Int) < (n:Int):=by omega
     go_wp2_with fail
     refine (Uh HK).mono ?_
     rintro e w' ⟨m,rfl,hm,hO,hw⟩
     obtain rfl:=hw.symm
     have HO2:=Hj hO
     clear hO hw HK
     go_wp2_with fail
     go_ret3
     have ho:=Uh HVO
     rw [Uh HK0,Nat.pow_zero,Nat.div_one] at ho
     exact ⟨m,k,v,true,rfl,⟨Uh HO2,by rw [Uh HK0,Nat.pow_zero,Nat.mul_one],by omega,fun _ => ho,(by intro e; cases e),Chg.refl _ _⟩⟩
   ·have tk:(0:Int) < (k:Int):=by omega
    go_wp2_with fail
    go_loopw [7] (fun i wr => ∃ j:Nat,j ≤ n ∧ i = .int .i64 (j:Nat) ∧ MbR wr w B g n cp xs k j) (fun i _ => n - (intOf i).toNat)
    case atStart => exact ⟨0,Nat.zero_le _,rfl,Uh H0 k⟩
    case round =>
     clear c0
     obtain ⟨j,hj,rfl,hR⟩:=hrel
     by_cases hlt:j < n
     ·have tA:(j:Int) < (n:Int):=by omega
      have g1:=hR.get (Uh HL) (Nat.le_refl j) hlt
      have g3:=hR.own.froz (i:=j)
      have HS:=Hj (hR.step (Uh HL) hlt)
      have bx:=ox.getD j
      have bY:=ox.getD (j + 1)
      by_cases hB:j + 1 < n
      ·have tB:(j:Int) + 1 < (n:Int):=by omega
       have g2:=hR.get (j:=j + 1) (Uh HL) (by omega) hB
       have e5:=dv_int2 (lo:=xs.getD j 0) (hi:=xs.getD (j + 1) 0) bx bY
       have e6:=srd_int (xs.getD j 0) (xs.getD (j + 1) 0) k
       have b1:=dv_lt (lo:=xs.getD j 0) (hi:=xs.getD (j + 1) 0) bx bY
       generalize xs.getD j 0 = xx at *
       generalize xs.getD (j + 1) 0 = yy at *
       clear hR
       go_wp2_with fail
       exact ⟨⟨j + 1,by omega,by go_num,Uh HS⟩,by simp [intOf]; omega⟩
      ·have tB:¬ (j:Int) + 1 < (n:Int):=by omega
       have zy:xs.getD (j + 1) 0 = 0:=getD_ge (by rw [Uh HL]; omega)
       have hsr:srd (xs.getD j 0) (xs.getD (j + 1) 0) k = xs.getD j 0 / 2 ^ k:=by
        rw [zy]; unfold srd dv
        rw [Nat.mul_zero,Nat.add_zero,Nat.mod_eq_of_lt (Nat.lt_of_le_of_lt (Nat.div_le_self _ _) bx)]
       have b3:=srd_lt (xs.getD j 0) (xs.getD (j + 1) 0) k
       have e5:((xs.getD j 0:Nat):Int) / 2 ^ k = ((srd (xs.getD j 0) (xs.getD (j + 1) 0) k:Nat):Int):=by rw [hsr,Int.natCast_ediv,Int.natCast_pow]; rfl
       clear hR zy hsr
       generalize srd (xs.getD j 0) (xs.getD (j + 1) 0) k = sd at *
       generalize xs.getD j 0 = xx at *
       go_wp2_with fail
       exact ⟨⟨j + 1,by omega,by go_num,Uh HS⟩,by simp [intOf]; omega⟩
     ·have tA:¬ (j:Int) < (n:Int):=by omega
      have ho:=hR.own
      rw [List.drop_eq_nil_of_le (by rw [Uh HL]; omega),List.append_nil] at ho
      have hjn:j = n - 0:=by omega
      have K:=wnorm_any (some ⟨g,0,none⟩) n cp B _ wr ho (lst_ok (fun i _ => srd_lt _ _ _))
      rw [lst_val,hjn,Uh HSV,Uh HV] at K
      have HK:=Hj K
      have HC:=Hj hR.chg
      clear K hR ho hjn
      go_wp2_with fail
      refine (Uh HK).mono ?_
      rintro e w' ⟨m,rfl,hm,hO,hw⟩
      obtain rfl:=hw.symm
      have HO2:=Hj hO
      clear hO hw HK
      go_wp2_with fail
      go_ret3
      exact ⟨m,k,v / 2 ^ k,true,rfl,⟨Uh HO2,Uh HVE,by omega,fun _ => Uh HVO,(by intro e; cases e),Uh HC⟩⟩

theorem wodd_any (a:Option Addr) (B n cp v:Nat) (w:World) (h1:Ow w B a n cp (limbs v)) (hv:0 < v) (hn:n ≤ 1000000000) :
  Calls Tryz.prog 212 #[.slice a n cp] w fun e w' => OddQ w B a n cp v e w':=by
 have hn0:0 < n:=by
  rcases Nat.eq_zero_or_pos n with h | h
  ·exfalso
   have hl:=h1.len
   rw [h] at hl
   have:=limbs_eq_nil.1 (List.eq_nil_of_length_eq_zero hl)
   omega
  ·exact h
 obtain ⟨g,rfl,_⟩:=h1.form hn0
 by_cases hz:v % 4294967296 = 0
 ·exact wodd_zero g B n cp v w h1 hv hn hz
 ·exact wodd_some g B n cp v w h1 hn hz

structure StrP (w w':World) (B:Nat) (a:Option Addr) (cp v m k u:Nat):Prop where
 own:Ow w' B a m cp (limbs u)
 eq:v = u * 2 ^ k
 odd:u % 2 = 1
 chg:Chg (fun j => AtB a j) w w'

def StrQ (w:World) (B:Nat) (a:Option Addr) (cp v:Nat) (e:Ending) (w':World):Prop:=∃ m k u,e = .returned (.tuple #[.slice a m cp,.int .i64 (k:Nat)]) ∧ StrP w w' B a cp v m k u
def lenV:Value → Nat
 | .slice _ m _ => m
 | _ => 0

theorem two_pow_bound {v k n u:Nat} (hv:v < 4294967296 ^ n) (he:v = u * 2 ^ k) (hu:0 < u):k < 32 * n + 1:=by
 rw [pow_limb] at hv
 rcases Nat.lt_or_ge k (32 * n) with h | h
 ·omega
 ·exfalso
  have h1:2 ^ (32 * n) ≤ 2 ^ k:=Nat.pow_le_pow_right (by decide) h
  have h2:1 * 2 ^ k ≤ u * 2 ^ k:=Nat.mul_le_mul_right _ hu
  omega

set_option maxRecDepth 100000 in
set_option maxHeartbeats 4000000 in
theorem wstrip_any (a:Option Addr) (B n cp v:Nat) (w:World) (h1:Ow w B a n cp (limbs v)) (hv:0 < v) (hn:n ≤ 1000000000) :
  Calls Tryz.prog 185 #[.slice a n cp] w fun e w' => StrQ w B a cp v e w':=by
 have HV:=Hj (show v < 4294967296 ^ n by have:=limbs_lt v; rwa [h1.len] at this)
 have H0:=Hj h1
 clear h1
 go_enter Tryz.func185,Tryz.ntmps185
 go_wp2_with fail
 go_loopw [0,4] (fun av nv wr => ∃ m k u:Nat,av = .slice a m cp ∧ nv = .int .i64 (k:Nat) ∧ m ≤ n ∧ 0 < u ∧ v = u * 2 ^ k ∧ Ow wr B a m cp (limbs u) ∧ Chg (fun j => AtB a j) w wr) (fun av _ _ => lenV av)
 case atStart => exact ⟨n,0,v,rfl,rfl,Nat.le_refl _,hv,by rw [Nat.pow_zero,Nat.mul_one],Uh H0,Chg.refl _ _⟩
 case round =>
  clear H0
  obtain ⟨m,k,u,rfl,rfl,hm,hu,he,hO,hc⟩:=hrel
  have hkb:=two_pow_bound (Uh HV) he hu
  have HK:=Hj (wodd_any a B m cp u wr hO hu (by omega))
  have HE:=Hj he
  have HC:=Hj hc
  clear he hO hc
  go_wp2_with fail
  refine (Uh HK).mono ?_
  rintro e w2 ⟨m2,k2,u2,d,rfl,hP⟩
  have hk2:=hP.kle
  have hu2:0 < u2:=by
   rcases Nat.eq_zero_or_pos u2 with h | h
   ·exfalso
    have:=hP.eq
    rw [h,Nat.zero_mul] at this
    omega
   ·exact h
  have HE2:=Hj (show v = u2 * 2 ^ (k + k2) by rw [Uh HE,hP.eq,Nat.mul_assoc,← Nat.pow_add,Nat.add_comm k2])
  have HP:=Hj hP
  clear hP HK
  cases d
  ·have hmm:=(Uh HP).no rfl
   have HX:=Hj (And.intro (Uh HP).own ((Uh HC).trans (Uh HP).chg))
   clear HP HC HE
   go_wp2_with fail
   exact ⟨⟨m2,k + k2,u2,rfl,by go_num,by omega,hu2,Uh HE2,(Uh HX).1,(Uh HX).2⟩,by simp [lenV]; omega⟩
  ·have HX:=Hj (show StrP w w2 B a cp v m2 (k + k2) u2 from ⟨(Uh HP).own,Uh HE2,(Uh HP).yes rfl,(Uh HC).trans (Uh HP).chg⟩)
   clear HP HC HE
   go_wp2_with fail
   go_ret2
   exact ⟨m2,k + k2,u2,by first | rfl | (congr 1),Uh HX⟩
end Go.Proofs.YtmnlhnmlgncedaaGreatDoor
