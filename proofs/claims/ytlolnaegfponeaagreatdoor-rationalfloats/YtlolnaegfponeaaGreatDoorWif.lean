/- Wib -/
import Derived.Test.YtlolnaegfponeaaGreatDoorWia
import Derived.Test.YtlolnaegfponeaaGreatDoorBase
import Derived.Test.YtlolnaegfponeaaGreatDoorRa5
import Derived.Deep.RegionHeld3
import Derived.Test.YtlolnaegfponeaaGreatDoorWi2
namespace Go.Proofs.YtlolnaegfponeaaGreatDoor
open Go.RowKit Go.Deep
set_option linter.unusedVariables false
def cmbV (nx:Bool) (v1:Nat) (ny:Bool) (v2:Nat):Nat × Bool:=if nx = ny then (v1 + v2,nx) else if v1 < v2 then (v2 - v1,ny) else (v1 - v2,nx)
def CmPost (N:Nat) (w w':World) (r:Nat × Bool) (e:Ending):Prop:=∃ a n c ps,e = .returned (.tuple #[.slice a n c,.bool r.2]) ∧ Wide w' a n c r.1 ps ∧ n ≤ N ∧ Below w.heap.size w w'

set_option maxHeartbeats 8000000 in
theorem combine_any (nx ny:Bool) (a1 a2:Option Addr) (n1 c1 n2 c2 v1 v2:Nat) (ps qs:List Pc) (w:World) (h1:Wide w a1 n1 c1 v1 ps) (h2:Wide w a2 n2 c2 v2 qs) (hn1:n1 ≤ 1000) (hn2:n2 ≤ 1000) :
  Calls Tryz.prog 130 #[.bool nx,.slice a1 n1 c1,.bool ny,.slice a2 n2 c2] w fun e w' => CmPost (max n1 n2 + 1) w w' (cmbV nx v1 ny v2) e:=by
 by_cases hs:nx = ny
 ·subst hs
  have HE:=Hd (show cmbV nx v1 nx v2 = (v1 + v2,nx) by simp [cmbV])
  have KP:=Hd (plus_any a1 a2 n1 c1 n2 c2 v1 v2 ps qs w h1 h2 hn1 hn2)
  have q:(nx == nx) = true:=by simp
  clear h1 h2
  rw [Uh HE]
  go_enter Tryz.func130,Tryz.ntmps130
  go_wp2_with fail
  refine (Uh KP).mono ?_
  rintro _ wb ⟨ab,nb,cb,bs,rfl,hWb,hnb,hbb⟩
  have HB:=Hd (And.intro hWb (And.intro hnb hbb))
  clear hWb hnb hbb KP
  go_wp2_with fail
  go_ret2
  exact ⟨ab,nb,cb,bs,rfl,(Uh HB).1,(Uh HB).2.1,(Uh HB).2.2⟩
 ·have q:(nx == ny) = false:=by simpa using hs
  have KC:=compareWide_any a1 a2 n1 c1 n2 c2 v1 v2 ps qs w h1 h2 (by omega) (by omega)
  by_cases hlt:v1 < v2
  ·rw [cmpN_lt hlt] at KC
   have HKC:=Hd KC
   have HE:=Hd (show cmbV nx v1 ny v2 = (v2 - v1,ny) by simp [cmbV,hs,hlt])
   have HM:=Hd (fun (W:World) (hb:Below w.heap.size w W) => minus_any a2 a1 n2 c2 n1 c1 v2 v1 qs ps W (h2.below hb) (h1.below hb) (by omega) hn2)
   clear KC h1 h2 hs hlt
   rw [Uh HE]
   go_enter Tryz.func130,Tryz.ntmps130
   go_wp2_with fail
   refine (Uh HKC).mono ?_
   rintro _ wa ⟨rfl,hba⟩
   have KM:=Hd (Uh HM wa hba)
   have HBa:=Hd hba
   clear hba HKC HM
   go_wp2_with fail
   refine (Uh KM).mono ?_
   rintro _ wb ⟨ab,nb,cb,bs,rfl,hWb,hnb,hbb⟩
   have HB:=Hd (And.intro hWb (And.intro hnb ((Uh HBa).trans (hbb.mono (Uh HBa).size))))
   clear hWb hnb hbb KM
   go_wp2_with fail
   go_ret2
   exact ⟨ab,nb,cb,bs,rfl,(Uh HB).1,Nat.le_trans (Uh HB).2.1 (by omega),(Uh HB).2.2⟩
  ·have hc0:¬ cmpN v1 v2 < 0:=by
    rcases Nat.lt_trichotomy v1 v2 with h | h | h
    ·omega
    ·rw [cmpN_eq h]; decide
    ·rw [cmpN_gt h]; decide
   have HE:=Hd (show cmbV nx v1 ny v2 = (v1 - v2,nx) by simp [cmbV,hs,hlt])
   have HM:=Hd (fun (W:World) (hb:Below w.heap.size w W) => minus_any a1 a2 n1 c1 n2 c2 v1 v2 ps qs W (h1.below hb) (h2.below hb) (by omega) hn1)
   obtain ⟨cv,hcv⟩:∃ cv,cmpN v1 v2 = cv:=⟨_,rfl⟩
   rw [hcv] at KC hc0
   have HKC:=Hd KC
   clear KC h1 h2 hs hlt hcv
   rw [Uh HE]
   go_enter Tryz.func130,Tryz.ntmps130
   go_wp2_with fail
   refine (Uh HKC).mono ?_
   rintro _ wa ⟨rfl,hba⟩
   have KM:=Hd (Uh HM wa hba)
   have HBa:=Hd hba
   clear hba HKC HM
   go_wp2_with fail
   refine (Uh KM).mono ?_
   rintro _ wb ⟨ab,nb,cb,bs,rfl,hWb,hnb,hbb⟩
   have HB:=Hd (And.intro hWb (And.intro hnb ((Uh HBa).trans (hbb.mono (Uh HBa).size))))
   clear hWb hnb hbb KM
   go_wp2_with fail
   go_ret2
   exact ⟨ab,nb,cb,bs,rfl,(Uh HB).1,Nat.le_trans (Uh HB).2.1 (by omega),(Uh HB).2.2⟩
structure Ext (w0:World) where
 w:World
 bel:Below w0.heap.size w0 w
theorem Ext.ne (w:World):Nonempty (Ext w):=⟨⟨w,Below.refl _ _⟩⟩
section
variable {P:Program}
theorem wp_region_ext {id:Nat} {Q:Exit → Act → World → Prop} {a:Act} {w:World} {l:List Oper} (hm:P.follows .mixedOrders = true) (hB:Region.lexB .any l.toArray = true)
  (h:wpQuiet P l.toArray (fun w' => ∃ x:Ext w,w' = x.w) (fun a' => ∀ w',(∃ x:Ext w,w' = x.w) → Q .normal a' w') l a):(Code.region id l.toArray true).wp P Q a w :=
 wp_region_quiet (C:=fun w' => ∃ x:Ext w,w' = x.w) hm hB ⟨⟨w.drew,(Below.refl _ _).drew⟩,rfl⟩ (by simpa using h)
end
theorem Ext.call {P:Program} {f:FuncId} {args:Array Value} {w:World} {x:Ext w} {v:Value} {R:Ending → World → Prop} (h:Calls P f args x.w R) (hR:∀ e w',R e w' → e = .returned v ∧ Below x.w.heap.size x.w w') :
  Calls P f args x.w fun e w'' => e = .returned v ∧ ∃ y:Ext w,w'' = y.w :=
 h.mono fun e w' hr => ⟨(hR e w' hr).1,⟨⟨w',x.bel.trans ((hR e w' hr).2.mono x.bel.size)⟩,rfl⟩⟩
theorem Ext.cell {w:World} (x:Ext w) {p:Addr} {v:Value} (h:w.cell? p = some v):x.w.cell? p = some v:=(x.bel.cell (p:=p) (World.block_lt_of_cell? _ _ h)).trans h
theorem prod_less {x1 y2 x2 y1:List Nat} (o1:Ok x1) (o2:Ok y2) (o3:Ok x2) (o4:Ok y1) (n3:Norm x2) (n4:Norm y1) (h3:x2 ≠ []) (h4:y1 ≠ []) (h:bitsN x1 + bitsN y2 + 1 < bitsN x2 + bitsN y1):val x1 * val y2 < val x2 * val y1:=by
 have a1:=val_lt_bits o1
 have a2:=val_lt_bits o2
 obtain ⟨b3,c3⟩:=val_ge_bits o3 n3 h3
 obtain ⟨b4,c4⟩:=val_ge_bits o4 n4 h4
 have e3:bitsN x2 = bitsL x2:=by simp [bitsN,h3]
 have e4:bitsN y1 = bitsL y1:=by simp [bitsN,h4]
 have p1:val x1 * val y2 < 2 ^ bitsN x1 * 2 ^ bitsN y2:=by
  have k1:val x1 * val y2 ≤ val x1 * 2 ^ bitsN y2:=Nat.mul_le_mul_left _ (Nat.le_of_lt a2)
  have k2:val x1 * 2 ^ bitsN y2 < 2 ^ bitsN x1 * 2 ^ bitsN y2:=Nat.mul_lt_mul_of_pos_right a1 (Nat.pow_pos (by decide))
  omega
 have p2:2 ^ (bitsL x2 - 1) * 2 ^ (bitsL y1 - 1) ≤ val x2 * val y1:=Nat.mul_le_mul c3 c4
 rw [← Nat.pow_add] at p1 p2
 have p3:2 ^ (bitsN x1 + bitsN y2) ≤ 2 ^ (bitsL x2 - 1 + (bitsL y1 - 1)):=Nat.pow_le_pow_right (by decide) (by omega)
 omega
structure SzOk (x1 y1 x2 y2:List Nat):Prop where
 lt:bitsN x1 + bitsN y2 + 1 < bitsN x2 + bitsN y1 → val x1 * val y2 < val x2 * val y1
 gt:bitsN x2 + bitsN y1 + 1 < bitsN x1 + bitsN y2 → val x2 * val y1 < val x1 * val y2

set_option maxHeartbeats 8000000 in
set_option maxRecDepth 100000 in
theorem compareSizes_any (g1 g2:Bool) (a1 b1 a2 b2:Option Addr) (n1 c1 m1 d1 n2 c2 m2 d2:Nat) (x1 y1 x2 y2:List Nat) (w:World) (hx1:Sl w a1 n1 c1 x1) (hy1:Sl w b1 m1 d1 y1) (hx2:Sl w a2 n2 c2 x2) (hy2:Sl w b2 m2 d2 y2) (ox1:Ok x1) (oy1:Ok y1) (ox2:Ok x2) (oy2:Ok y2) (kx1:MayL x1 = true) (ky1:MayL y1 = true) (kx2:MayL x2 = true) (ky2:MayL y2 = true) (sz:SzOk x1 y1 x2 y2) :
  Calls Tryz.prog 87 #[ratV g1 a1 n1 c1 b1 m1 d1,ratV g2 a2 n2 c2 b2 m2 d2] w fun e w' => e = .returned (.int .i64 (cmpN (val x1 * val y2) (val x2 * val y1))) ∧ Below w.heap.size w w':=by
 have bx:=Box.made w g1 a1 n1 c1 b1 m1 d1
 obtain ⟨wa,hwa⟩:∃ wa,ratBox w g1 a1 n1 c1 b1 m1 d1 = wa:=⟨_,rfl⟩
 rw [hwa] at bx
 have by_:=Box.made wa g2 a2 n2 c2 b2 m2 d2
 obtain ⟨wb,hwb⟩:∃ wb,ratBox wa g2 a2 n2 c2 b2 m2 d2 = wb:=⟨_,rfl⟩
 rw [hwb] at by_
 have hba:Below w.heap.size w wa:=by rw [← hwa]; exact bAl
 have hbb:Below wa.heap.size wa wb:=by rw [← hwb]; exact bAl
 have bx2:=bx.keep hbb
 have hB:=hba.trans (hbb.mono hba.size)
 unfold ratBox at hwa hwb
 have p1:=bx2.d1
 have p2:=bx2.d2
 have q1:=by_.d1
 have q2:=by_.d2
 have lx1:=bitsN_le ox1 (MayL.len kx1)
 have ly1:=bitsN_le oy1 (MayL.len ky1)
 have lx2:=bitsN_le ox2 (MayL.len kx2)
 have ly2:=bitsN_le oy2 (MayL.len ky2)
 obtain ⟨B1,e1⟩:∃ B,bitsN x1 = B:=⟨_,rfl⟩
 obtain ⟨C1,f1⟩:∃ B,bitsN y1 = B:=⟨_,rfl⟩
 obtain ⟨B2,e2⟩:∃ B,bitsN x2 = B:=⟨_,rfl⟩
 obtain ⟨C2,f2⟩:∃ B,bitsN y2 = B:=⟨_,rfl⟩
 have HK:=Hd (fun (W:World) (hb:Below wb.heap.size wb W) => (⟨by have K:=nbits_any a1 n1 c1 x1 W ((hx1.below hB).below hb) ox1 kx1; rw [e1] at K; exact K,by have K:=nbits_any b1 m1 d1 y1 W ((hy1.below hB).below hb) oy1 ky1; rw [f1] at K; exact K,by have K:=nbits_any a2 n2 c2 x2 W ((hx2.below hB).below hb) ox2 kx2; rw [e2] at K; exact K,by have K:=nbits_any b2 m2 d2 y2 W ((hy2.below hB).below hb) oy2 ky2; rw [f2] at K; exact K⟩ :
  (Calls Tryz.prog 73 #[.slice a1 n1 c1] W fun e w' => e = .returned (.int .i64 (B1:Nat)) ∧ w' = W) ∧ (Calls Tryz.prog 73 #[.slice b1 m1 d1] W fun e w' => e = .returned (.int .i64 (C1:Nat)) ∧ w' = W) ∧ (Calls Tryz.prog 73 #[.slice a2 n2 c2] W fun e w' => e = .returned (.int .i64 (B2:Nat)) ∧ w' = W) ∧ (Calls Tryz.prog 73 #[.slice b2 m2 d2] W fun e w' => e = .returned (.int .i64 (C2:Nat)) ∧ w' = W)))
 have HP1:=Hd (fun (W:World) (hb:Below wb.heap.size wb W) => product_any a1 b2 n1 c1 m2 d2 x1 y2 W ((hx1.below hB).below hb) ((hy2.below hB).below hb) ox1 oy2 kx1 ky2)
 have HP2:=Hd (fun (W:World) (hb:Below wb.heap.size wb W) => product_any a2 b1 n2 c2 m1 d1 x2 y1 W ((hx2.below hB).below hb) ((hy1.below hB).below hb) ox2 oy1 kx2 ky1)
 have hlt:=sz.lt
 have hgt:=sz.gt
 rw [e1,e2,f1,f2] at hlt hgt
 rw [e1] at lx1
 rw [f1] at ly1
 rw [e2] at lx2
 rw [f2] at ly2
 obtain ⟨V1,hV1⟩:∃ V,val x1 * val y2 = V:=⟨_,rfl⟩
 obtain ⟨V2,hV2⟩:∃ V,val x2 * val y1 = V:=⟨_,rfl⟩
 rw [hV1,hV2] at hlt hgt
 rw [hV1] at HP1
 rw [hV2] at HP2
 rw [hV1,hV2]
 have HBB:=Hd hB
 have HHlt:=Hd hlt
 have HHgt:=Hd hgt
 unfold ratV
 clear bx bx2 by_ hba hbb hB hx1 hy1 hx2 hy2 sz e1 e2 f1 f2 hV1 hV2 hlt hgt
 go_enter Tryz.func87,Tryz.ntmps87
 have Fp1:=fun x:Ext wb => x.cell p1
 have Fq2:=fun x:Ext wb => x.cell q2
 have hNE:=Ext.ne wb
 go_wp2_with fail
 refine wp_region_ext (by kernel_rfl) (by kernel_rfl) ?_
 repeat (go_big_quiet_step (first
  | (go_at_call_of 73 (Value.slice a1 n1 c1); rename_i x; exact Ext.call (Uh HK x.w x.bel).1 (fun e w' h => ⟨h.1,by rw [h.2]; exact Below.refl _ _⟩))
  | (go_at_call_of 73 (Value.slice b2 m2 d2); rename_i x; exact Ext.call (Uh HK x.w x.bel).2.2.2 (fun e w' h => ⟨h.1,by rw [h.2]; exact Below.refl _ _⟩))))
 refine wpQuiet_nil ?_
 rintro _ ⟨xE,rfl⟩
 clear Fp1 Fq2 hNE
 have HBE:=Hd xE.bel
 have r1:=xE.cell q1
 have r2:=xE.cell p2
 have r3:=xE.cell p1
 have r4:=xE.cell q2
 clear p1 p2 q1 q2
 have Fr1:=fun x:Ext xE.w => x.cell r1
 have Fr2:=fun x:Ext xE.w => x.cell r2
 have hNE:=Ext.ne xE.w
 go_wp2_with fail
 refine wp_region_ext (by kernel_rfl) (by kernel_rfl) ?_
 repeat (go_big_quiet_step (first
  | (go_at_call_of 73 (Value.slice a2 n2 c2); rename_i x; exact Ext.call (Uh HK x.w ((Uh HBE).trans (x.bel.mono (Uh HBE).size))).2.2.1 (fun e w' h => ⟨h.1,by rw [h.2]; exact Below.refl _ _⟩))
  | (go_at_call_of 73 (Value.slice b1 m1 d1); rename_i x; exact Ext.call (Uh HK x.w ((Uh HBE).trans (x.bel.mono (Uh HBE).size))).2.1 (fun e w' h => ⟨h.1,by rw [h.2]; exact Below.refl _ _⟩))))
 refine wpQuiet_nil ?_
 rintro _ ⟨xG,rfl⟩
 clear Fr1 Fr2 hNE
 have HBG:=Hd ((Uh HBE).trans (xG.bel.mono (Uh HBE).size))
 have s1:=xG.cell r1
 have s2:=xG.cell r2
 have s3:=xG.cell r3
 have s4:=xG.cell r4
 clear r1 r2 r3 r4
 by_cases h1:B1 + C2 + 1 < B2 + C1
 ·have h1':(B1:Int) + (C2:Int) + 1 < (B2:Int) + (C1:Int):=by omega
  have HR:=Hd (cmpN_lt (Uh HHlt h1))
  clear h1
  go_wp2_with fail
  go_ret
  rw [Uh HR]
  exact ⟨rfl,(Uh HBB).trans ((Uh HBG).mono (Uh HBB).size)⟩
 ·have h1':¬ (B1:Int) + (C2:Int) + 1 < (B2:Int) + (C1:Int):=by omega
  by_cases h2:B2 + C1 + 1 < B1 + C2
  ·have h2':(B2:Int) + (C1:Int) + 1 < (B1:Int) + (C2:Int):=by omega
   have HR:=Hd (cmpN_gt (Uh HHgt h2))
   clear h1 h2
   go_wp2_with fail
   go_ret
   rw [Uh HR]
   exact ⟨rfl,(Uh HBB).trans ((Uh HBG).mono (Uh HBB).size)⟩
  ·have h2':¬ (B2:Int) + (C1:Int) + 1 < (B1:Int) + (C2:Int):=by omega
   clear h1 h2
   have l1:w.heap.size < xG.w.heap.size:=World.block_lt_of_cell? _ _ s3
   have l2:wa.heap.size < xG.w.heap.size:=World.block_lt_of_cell? _ _ s1
   go_wp2_with fail
   go_region_held3 (fun w' => w'.cell? ⟨w.heap.size,1,none⟩ = some (.slice a1 n1 c1) ∧ w'.cell? ⟨wa.heap.size,2,none⟩ = some (.slice b2 m2 d2) ∧ w'.cell? ⟨wa.heap.size,1,none⟩ = some (.slice a2 n2 c2) ∧ w'.cell? ⟨w.heap.size,2,none⟩ = some (.slice b1 m1 d1)) (first | go_keep | (exact ⟨k3,k4,k1,k2⟩) | (exact ⟨j3,j4,j1,j2⟩))
    (first
     | (go_at_call_of 74 (Value.slice a1 n1 c1); refine (Uh HP1 _ (Uh HBG).drew).mono ?_; rintro _ wc ⟨ac,nc,cc,cs,rfl,hWc,hnc,hbc⟩; have hbGc:Below xG.w.heap.size xG.w wc:=(Below.refl _ _).drew.trans hbc; have hbc2:=(Uh HBG).trans (hbGc.mono (Uh HBG).size); have k1:=(hbGc.cell (p:=⟨wa.heap.size,1,none⟩) l2).trans s1; have k2:=(hbGc.cell (p:=⟨w.heap.size,2,none⟩) l1).trans s2; have k3:=(hbGc.cell (p:=⟨w.heap.size,1,none⟩) l1).trans s3; have k4:=(hbGc.cell (p:=⟨wa.heap.size,2,none⟩) l2).trans s4; have HC:=Hd (And.intro hWc (And.intro hnc hbc2)); clear hWc hnc hbc hbGc hbc2)
     | (go_at_call_of 74 (Value.slice a2 n2 c2); refine (Uh HP2 _ (Uh HC).2.2).mono ?_; rintro _ wd ⟨ad,nd,cd,ds,rfl,hWd,hnd,hbd⟩; have j1:=(ck hbd k1); have j2:=(ck hbd k2); have j3:=(ck hbd k3); have j4:=(ck hbd k4); have HKC:=Hd (compareWide_any ac ad nc cc nd cd V1 V2 cs ds wd ((Uh HC).1.below hbd) hWd (by have:=(Uh HC).2.1; omega) (by omega)); have HD:=Hd ((Uh HC).2.2.trans (hbd.mono (Uh HC).2.2.size)); clear hWd hnd hbd)
     | (go_at_call 144; refine (Uh HKC).mono ?_; rintro _ we ⟨rfl,hbe⟩; have i1:=(ck hbe j1); have i2:=(ck hbe j2); have i3:=(ck hbe j3); have i4:=(ck hbe j4); have HF:=Hd ((Uh HD).trans (hbe.mono (Uh HD).size)); clear hbe))
   all_goals
    try go_wp2_with fail
    try go_ret
    exact ⟨rfl,(Uh HBB).trans ((Uh HF).mono (Uh HBB).size)⟩
def cmpR (g1:Bool) (x1 y1:List Nat) (g2:Bool) (x2 y2:List Nat):Int :=
 if signR g1 x1 < signR g2 x2 then -1 else if signR g2 x2 < signR g1 x1 then 1 else if g1 then cmpN (val x2 * val y1) (val x1 * val y2) else cmpN (val x1 * val y2) (val x2 * val y1)
theorem MayR.parts {g:Bool} {x y:List Nat} (h:MayR g x y = true):MayL x = true ∧ MayL y = true ∧ y ≠ [] ∧ (g = true → x ≠ []) ∧ Nat.gcd (val x) (val y) = 1:=by
 unfold MayR at h
 simp only [Bool.and_eq_true,Bool.not_eq_true',decide_eq_false_iff_not,decide_eq_true_eq] at h
 obtain ⟨⟨⟨⟨h1,h2⟩,h3⟩,h4⟩,h5⟩:=h
 refine ⟨h1,h2,h3,fun hg hx => ?_,h5⟩
 rw [hg,hx] at h4
 simp at h4
theorem sz_ok {g1 g2:Bool} {x1 y1 x2 y2:List Nat} (ox1:Ok x1) (oy1:Ok y1) (ox2:Ok x2) (oy2:Ok y2) (h1:MayR g1 x1 y1 = true) (h2:MayR g2 x2 y2 = true) (hs:signR g1 x1 = signR g2 x2):SzOk x1 y1 x2 y2:=by
 obtain ⟨a1,b1,c1,d1,e1⟩:=MayR.parts h1
 obtain ⟨a2,b2,c2,d2,e2⟩:=MayR.parts h2
 by_cases z1:x1 = []
 ·have g10:g1 = false:=by cases g1; rfl; exact absurd z1 (d1 rfl)
  have s1:signR g1 x1 = 0:=by rw [g10,z1]; rfl
  rw [s1] at hs
  have z2:x2 = []:=by
   unfold signR at hs
   cases g2
   ·simp at hs
    by_cases h:x2 = []
    ·exact h
    ·simp [h] at hs
   ·simp at hs
  have v1:val y1 = 1:=by rw [z1] at e1; simpa [val] using e1
  have v2:val y2 = 1:=by rw [z2] at e2; simpa [val] using e2
  have k1:=bitsN_mono oy1 oy2 (MayL.norm b1) (by omega)
  have k2:=bitsN_mono oy2 oy1 (MayL.norm b2) (by omega)
  rw [z1,z2]
  exact ⟨fun h => by omega,fun h => by omega⟩
 ·have z2:x2 ≠ []:=by
   intro z2
   have g20:g2 = false:=by cases g2; rfl; exact absurd z2 (d2 rfl)
   rw [g20,z2] at hs
   unfold signR at hs
   cases g1
   ·simp [z1] at hs
   ·simp at hs
  exact ⟨fun h => prod_less ox1 oy2 ox2 oy1 (MayL.norm a2) (MayL.norm b1) z2 c1 h,fun h => prod_less ox2 oy1 ox1 oy2 (MayL.norm a1) (MayL.norm b2) z1 c2 h⟩

set_option maxHeartbeats 8000000 in
set_option maxRecDepth 100000 in
theorem ratcompare_any (g1 g2:Bool) (a1 b1 a2 b2:Option Addr) (n1 c1 m1 d1 n2 c2 m2 d2:Nat) (x1 y1 x2 y2:List Nat) (w:World) (hx1:Sl w a1 n1 c1 x1) (hy1:Sl w b1 m1 d1 y1) (hx2:Sl w a2 n2 c2 x2) (hy2:Sl w b2 m2 d2 y2) (ox1:Ok x1) (oy1:Ok y1) (ox2:Ok x2) (oy2:Ok y2) (h1:MayR g1 x1 y1 = true) (h2:MayR g2 x2 y2 = true) :
  Calls Tryz.prog 42 #[ratV g1 a1 n1 c1 b1 m1 d1,ratV g2 a2 n2 c2 b2 m2 d2] w fun e w' => e = .returned (.int .i64 (cmpR g1 x1 y1 g2 x2 y2)) ∧ Below w.heap.size w w':=by
 have bx:=Box.made w g1 a1 n1 c1 b1 m1 d1
 obtain ⟨wa,hwa⟩:∃ wa,ratBox w g1 a1 n1 c1 b1 m1 d1 = wa:=⟨_,rfl⟩
 rw [hwa] at bx
 have by_:=Box.made wa g2 a2 n2 c2 b2 m2 d2
 obtain ⟨wb,hwb⟩:∃ wb,ratBox wa g2 a2 n2 c2 b2 m2 d2 = wb:=⟨_,rfl⟩
 rw [hwb] at by_
 have hba:Below w.heap.size w wa:=by rw [← hwa]; exact bAl
 have hbb:Below wa.heap.size wa wb:=by rw [← hwb]; exact bAl
 have bx2:=bx.keep hbb
 have hB:=hba.trans (hbb.mono hba.size)
 unfold ratBox at hwa hwb
 have p0:=bx2.d0
 have p1:=bx2.d1
 have p2:=bx2.d2
 have q0:=by_.d0
 have q1:=by_.d1
 have q2:=by_.d2
 obtain ⟨ka1,kb1,_,_,_⟩:=MayR.parts h1
 obtain ⟨ka2,kb2,_,_,_⟩:=MayR.parts h2
 have HS1:=Hd (fun (W:World) => rsign_any g1 a1 b1 n1 c1 m1 d1 x1 W hx1.len)
 have HS2:=Hd (fun (W:World) => rsign_any g2 a2 b2 n2 c2 m2 d2 x2 W hx2.len)
 have HSz:=Hd (fun hs => sz_ok ox1 oy1 ox2 oy2 h1 h2 hs)
 have HSz2:=Hd (fun hs => sz_ok ox2 oy2 ox1 oy1 h2 h1 hs)
 have HC1:=Hd (fun (W:World) (hb:Below wb.heap.size wb W) sz => compareSizes_any g1 g2 a1 b1 a2 b2 n1 c1 m1 d1 n2 c2 m2 d2 x1 y1 x2 y2 W ((hx1.below hB).below hb) ((hy1.below hB).below hb) ((hx2.below hB).below hb) ((hy2.below hB).below hb) ox1 oy1 ox2 oy2 ka1 kb1 ka2 kb2 sz)
 have HC2:=Hd (fun (W:World) (hb:Below wb.heap.size wb W) sz => compareSizes_any g2 g1 a2 b2 a1 b1 n2 c2 m2 d2 n1 c1 m1 d1 x2 y2 x1 y1 W ((hx2.below hB).below hb) ((hy2.below hB).below hb) ((hx1.below hB).below hb) ((hy1.below hB).below hb) ox2 oy2 ox1 oy1 ka2 kb2 ka1 kb1 sz)
 have HBB:=Hd hB
 have hX1:-1 ≤ signR g1 x1 ∧ signR g1 x1 ≤ 1:=by unfold signR; split; omega; split <;> omega
 have hX2:-1 ≤ signR g2 x2 ∧ signR g2 x2 ≤ 1:=by unfold signR; split; omega; split <;> omega
 obtain ⟨R,hR⟩:∃ R,cmpR g1 x1 y1 g2 x2 y2 = R:=⟨_,rfl⟩
 have HR:=Hd hR
 rw [hR]
 unfold cmpR at HR
 obtain ⟨X,hX⟩:∃ X,signR g1 x1 = X:=⟨_,rfl⟩
 obtain ⟨Y,hY⟩:∃ X,signR g2 x2 = X:=⟨_,rfl⟩
 rw [hX] at HS1 HSz HSz2 hX1 HR
 rw [hY] at HS2 HSz HSz2 hX2 HR
 unfold ratV at HS1 HS2 HC1 HC2 ⊢
 clear bx bx2 by_ hba hbb hB hx1 hy1 hx2 hy2 hX hY hR h1 h2 ka1 kb1 ka2 kb2
 have F0:=fun x:Ext wb => x.cell p0
 have F1:=fun x:Ext wb => x.cell p1
 have F2:=fun x:Ext wb => x.cell p2
 have G0:=fun x:Ext wb => x.cell q0
 have G1:=fun x:Ext wb => x.cell q1
 have G2:=fun x:Ext wb => x.cell q2
 have hNE:=Ext.ne wb
 go_enter Tryz.func42,Tryz.ntmps42
 go_wp2_with fail
 refine wp_region_ext (by kernel_rfl) (by kernel_rfl) ?_
 repeat (go_big_quiet_step (first
  | (go_at_call_of 35 (Value.agg #[Value.bool g1,Value.slice a1 n1 c1,Value.slice b1 m1 d1]); rename_i x; exact Ext.call (Uh HS1 x.w) (fun e w' h => h))
  | (go_at_call_of 35 (Value.agg #[Value.bool g2,Value.slice a2 n2 c2,Value.slice b2 m2 d2]); rename_i x; exact Ext.call (Uh HS2 x.w) (fun e w' h => h))))
 refine wpQuiet_nil ?_
 rintro _ ⟨xE,rfl⟩
 have HBE:=Hd xE.bel
 have r0:=xE.cell p0
 have r1:=xE.cell p1
 have r2:=xE.cell p2
 have s0:=xE.cell q0
 have s1:=xE.cell q1
 have s2:=xE.cell q2
 clear F0 F1 F2 G0 G1 G2 hNE p0 p1 p2 q0 q1 q2
 by_cases t1:X < Y
 ·have HR3:=Hd (show R = -1 by rw [← Uh HR,if_pos t1])
  clear HR
  go_wp2_with fail
  go_ret
  rw [Uh HR3]
  exact ⟨rfl,(Uh HBB).trans ((Uh HBE).mono (Uh HBB).size)⟩
 ·by_cases t2:Y < X
  ·have HR3:=Hd (show R = 1 by rw [← Uh HR,if_neg t1,if_pos t2])
   clear HR
   go_wp2_with fail
   go_ret
   rw [Uh HR3]
   exact ⟨rfl,(Uh HBB).trans ((Uh HBE).mono (Uh HBB).size)⟩
  ·have hXY:X = Y:=by omega
   cases g1
   ·have KS:=Hd (Uh HC1 xE.w (Uh HBE) (Uh HSz hXY))
    have HR3:=Hd (show R = cmpN (val x1 * val y2) (val x2 * val y1) by rw [← Uh HR,if_neg t1,if_neg t2]; rfl)
    clear HR HSz HSz2 HC1 HC2 HS1 HS2 hXY
    go_wp2_with fail
    refine (Uh KS).mono ?_
    rintro _ wz ⟨rfl,hbz⟩
    have HBz:=Hd ((Uh HBE).trans (hbz.mono (Uh HBE).size))
    clear hbz KS
    go_wp2_with fail
    go_ret
    rw [Uh HR3]
    exact ⟨rfl,(Uh HBB).trans ((Uh HBz).mono (Uh HBB).size)⟩
   ·have KS:=Hd (Uh HC2 xE.w (Uh HBE) (Uh HSz2 hXY.symm))
    have HR3:=Hd (show R = cmpN (val x2 * val y1) (val x1 * val y2) by rw [← Uh HR,if_neg t1,if_neg t2]; rfl)
    clear HR HSz HSz2 HC1 HC2 HS1 HS2 hXY
    go_wp2_with fail
    refine (Uh KS).mono ?_
    rintro _ wz ⟨rfl,hbz⟩
    have HBz:=Hd ((Uh HBE).trans (hbz.mono (Uh HBE).size))
    clear hbz KS
    go_wp2_with fail
    go_ret
    rw [Uh HR3]
    exact ⟨rfl,(Uh HBB).trans ((Uh HBz).mono (Uh HBB).size)⟩
def CmpF (g1:Bool) (x1 y1:List Nat) (g2:Bool) (x2 y2:List Nat):Int:=if MayR g1 x1 y1 && MayR g2 x2 y2 then cmpR g1 x1 y1 g2 x2 y2 else 0
set_option maxHeartbeats 8000000 in
set_option maxRecDepth 100000 in
theorem ratCmp_any (g1 g2:Bool) (a1 b1 a2 b2:Option Addr) (n1 c1 m1 d1 n2 c2 m2 d2:Nat) (x1 y1 x2 y2:List Nat) (w:World) (hx1:Sl w a1 n1 c1 x1) (hy1:Sl w b1 m1 d1 y1) (hx2:Sl w a2 n2 c2 x2) (hy2:Sl w b2 m2 d2 y2) (ox1:Ok x1) (oy1:Ok y1) (ox2:Ok x2) (oy2:Ok y2) (hT:Tab64 w) :
  Calls Tryz.prog 15 #[ratV g1 a1 n1 c1 b1 m1 d1,ratV g2 a2 n2 c2 b2 m2 d2] w fun e w' => e = .returned (.int .i64 (CmpF g1 x1 y1 g2 x2 y2)) ∧ Below w.heap.size w w':=by
 have bx:=Box.made w g1 a1 n1 c1 b1 m1 d1
 obtain ⟨wa,hwa⟩:∃ wa,ratBox w g1 a1 n1 c1 b1 m1 d1 = wa:=⟨_,rfl⟩
 rw [hwa] at bx
 have by_:=Box.made wa g2 a2 n2 c2 b2 m2 d2
 obtain ⟨wb,hwb⟩:∃ wb,ratBox wa g2 a2 n2 c2 b2 m2 d2 = wb:=⟨_,rfl⟩
 rw [hwb] at by_
 have hba:Below w.heap.size w wa:=by rw [← hwa]; exact bAl
 have hbb:Below wa.heap.size wa wb:=by rw [← hwb]; exact bAl
 have bx2:=bx.keep hbb
 have hB:=hba.trans (hbb.mono hba.size)
 unfold ratBox at hwa hwb
 have p0:=bx2.d0
 have p1:=bx2.d1
 have p2:=bx2.d2
 have q0:=by_.d0
 have q1:=by_.d1
 have q2:=by_.d2
 have HM1:=Hd (fun (W:World) (hb:Below wb.heap.size wb W) => ratMay_any g1 a1 b1 n1 c1 m1 d1 x1 y1 W ((hx1.below hB).below hb) ((hy1.below hB).below hb) ox1 oy1 ((hT.below hB).below hb))
 have HM2:=Hd (fun (W:World) (hb:Below wb.heap.size wb W) => ratMay_any g2 a2 b2 n2 c2 m2 d2 x2 y2 W ((hx2.below hB).below hb) ((hy2.below hB).below hb) ox2 oy2 ((hT.below hB).below hb))
 have HC:=Hd (fun (W:World) (hb:Below wb.heap.size wb W) h1 h2 => ratcompare_any g1 g2 a1 b1 a2 b2 n1 c1 m1 d1 n2 c2 m2 d2 x1 y1 x2 y2 W ((hx1.below hB).below hb) ((hy1.below hB).below hb) ((hx2.below hB).below hb) ((hy2.below hB).below hb) ox1 oy1 ox2 oy2 h1 h2)
 have HBx:=Hd (And.intro bx2 by_)
 have HBB:=Hd hB
 obtain ⟨R,hR⟩:∃ R,CmpF g1 x1 y1 g2 x2 y2 = R:=⟨_,rfl⟩
 have HR:=Hd hR
 rw [hR]
 unfold CmpF at HR
 unfold ratV at HM1 HM2 HC ⊢
 clear bx bx2 by_ hba hbb hB hx1 hy1 hx2 hy2 hT hR
 cases k1:MayR g1 x1 y1
 ·have HR3:=Hd (show R = 0 by rw [← Uh HR,k1]; rfl)
  have KM:=Hd (Uh HM1 wb (Below.refl _ _))
  rw [k1] at KM
  clear HR HM1 HM2 HC k1
  go_enter Tryz.func15,Tryz.ntmps15
  go_wp2_with fail
  refine (Uh KM).mono ?_
  rintro _ wc ⟨rfl,hbc⟩
  have HF:=Hd ((Uh HBB).trans (hbc.mono (Uh HBB).size))
  clear hbc KM
  go_wp2_with fail
  go_ret
  rw [Uh HR3]
  exact ⟨rfl,Uh HF⟩
 ·have KM:=Hd (Uh HM1 wb (Below.refl _ _))
  rw [k1] at KM
  cases k2:MayR g2 x2 y2
  ·have HR3:=Hd (show R = 0 by rw [← Uh HR,k1,k2]; rfl)
   have HM:=Hd (fun W hb => (by have K:=Uh HM2 W hb; rw [k2] at K; exact K:Calls Tryz.prog 7 #[.agg #[.bool g2,.slice a2 n2 c2,.slice b2 m2 d2]] W fun e w' => e = .returned (.bool false) ∧ Below W.heap.size W w'))
   clear HR HM1 HM2 HC k1 k2
   go_enter Tryz.func15,Tryz.ntmps15
   go_wp2_with fail
   refine (Uh KM).mono ?_
   rintro _ wc ⟨rfl,hbc⟩
   have b2:=(Uh HBx).2.keep hbc
   have r0:=b2.d0
   have r1:=b2.d1
   have r2:=b2.d2
   have KM2:=Hd (Uh HM wc hbc)
   have HBc:=Hd hbc
   clear hbc KM b2 HM p0 p1 p2 q0 q1 q2
   go_wp2_with fail
   refine (Uh KM2).mono ?_
   rintro _ wd ⟨rfl,hbd⟩
   have h9:=(Uh HBc).trans (hbd.mono (Uh HBc).size)
   have HF:=Hd ((Uh HBB).trans (h9.mono (Uh HBB).size))
   clear hbd KM2 h9
   go_wp2_with fail
   go_ret
   rw [Uh HR3]
   exact ⟨rfl,Uh HF⟩
  ·have HR3:=Hd (show R = cmpR g1 x1 y1 g2 x2 y2 by rw [← Uh HR,k1,k2]; rfl)
   have HM:=Hd (fun W hb => (by have K:=Uh HM2 W hb; rw [k2] at K; exact K:Calls Tryz.prog 7 #[.agg #[.bool g2,.slice a2 n2 c2,.slice b2 m2 d2]] W fun e w' => e = .returned (.bool true) ∧ Below W.heap.size W w'))
   have HCC:=Hd (fun W hb => Uh HC W hb k1 k2)
   clear HR HM1 HM2 HC k1 k2
   go_enter Tryz.func15,Tryz.ntmps15
   go_wp2_with fail
   refine (Uh KM).mono ?_
   rintro _ wc ⟨rfl,hbc⟩
   have b2:=(Uh HBx).2.keep hbc
   have b1_:=(Uh HBx).1.keep hbc
   have r0:=b2.d0
   have r1:=b2.d1
   have r2:=b2.d2
   have KM2:=Hd (Uh HM wc hbc)
   have HBc:=Hd hbc
   have HB2:=Hd (And.intro b1_ b2)
   clear hbc KM b2 b1_ HM p0 p1 p2 q0 q1 q2
   go_wp2_with fail
   refine (Uh KM2).mono ?_
   rintro _ wd ⟨rfl,hbd⟩
   have b3:=(Uh HB2).1.keep hbd
   have b4:=(Uh HB2).2.keep hbd
   have u0:=b3.d0
   have u1:=b3.d1
   have u2:=b3.d2
   have v0:=b4.d0
   have v1:=b4.d1
   have v2:=b4.d2
   have h9:=(Uh HBc).trans (hbd.mono (Uh HBc).size)
   have KC:=Hd (Uh HCC wd h9)
   have HD:=Hd h9
   clear hbd KM2 h9 b3 b4 HCC r0 r1 r2
   go_wp2_with fail
   refine (Uh KC).mono ?_
   rintro _ we ⟨rfl,hbe⟩
   have h9:=(Uh HD).trans (hbe.mono (Uh HD).size)
   have HF:=Hd ((Uh HBB).trans (h9.mono (Uh HBB).size))
   clear hbe KC h9
   go_wp2_with fail
   go_ret
   rw [Uh HR3]
   exact ⟨rfl,Uh HF⟩
def AnPost (w w':World) (neg:Bool) (a1:Option Addr) (n1 c1:Nat) (a2:Option Addr) (n2 c2:Nat) (er:Int) (e:Ending):Prop :=
 e = .returned (.tuple #[if er = 0 then ratV (neg && decide (0 < n1)) a1 n1 c1 a2 n2 c2 else ratV false none 0 0 none 0 0,.int .i64 er]) ∧ Below w.heap.size w w'

set_option maxHeartbeats 8000000 in
theorem answer_any (neg:Bool) (a1 a2:Option Addr) (n1 c1 n2 c2:Nat) (er:Int) (w:World) :
  Calls Tryz.prog 133 #[.bool neg,.slice a1 n1 c1,.slice a2 n2 c2,.int .i64 er] w fun e w' => AnPost w w' neg a1 n1 c1 a2 n2 c2 er e:=by
 obtain ⟨wb,hwb⟩:∃ wb,w.alloc (.cells #[.bool false,.slice none 0 0,.slice none 0 0] 25) = wb:=⟨_,rfl⟩
 have hbb:Below w.heap.size w wb:=by rw [← hwb]; exact bAl
 have hO:Out wb w.heap.size:=by rw [← hwb]; exact Out.made w
 have HO:=Hd hO
 have HB:=Hd hbb
 clear hbb
 by_cases he:er = 0
 ·subst he
  clear hO
  go_enter Tryz.func133,Tryz.ntmps133
  go_wp2_with fail
  refine (signed_any neg a1 a2 n1 c1 n2 c2 wb).mono ?_
  rintro _ w2 ⟨rfl,b2⟩
  have hO3:=(Uh HO).keep b2
  obtain ⟨x0,q0⟩:=hO3.cells 0 (by decide)
  obtain ⟨x1,q1⟩:=hO3.cells 1 (by decide)
  obtain ⟨x2,q2⟩:=hO3.cells 2 (by decide)
  have r0:=hO3.fz 0 (by decide)
  have r1:=hO3.fz 1 (by decide)
  have r2:=hO3.fz 2 (by decide)
  obtain ⟨SG,hSG⟩:∃ SG,(neg && decide (0 < n1)) = SG:=⟨_,rfl⟩
  rw [hSG]
  have HSG:=Hd hSG
  have H4:=Hd (three_set w2 w.heap.size (.bool SG) (.slice a1 n1 c1) (.slice a2 n2 c2) hO3.cells)
  have HB2:=Hd ((Uh HB).trans (b2.mono (Uh HB).size))
  unfold ratV
  clear hO3 b2 hSG
  go_wp2_with fail
  obtain ⟨p0,p1,p2,c4⟩:=Uh H4
  generalize ((w2.setCell ⟨w.heap.size,0,none⟩ (.bool SG)).setCell ⟨w.heap.size,1,none⟩ (.slice a1 n1 c1)).setCell ⟨w.heap.size,2,none⟩ (.slice a2 n2 c2) = wf at *
  refine bodyPost_ret (by simp [results,Tryz.results133,go_sem,p0,p1,p2]; try rfl) rfl ?_
  refine ⟨?_,(Uh HB2).trans (c4.below (Uh HB2).size (fun k hk => by omega))⟩
  rw [if_pos rfl,Uh HSG]
  rfl
 ·have t1:(er == 0) = false:=by simpa using he
  have t2:(er != 0) = true:=by simpa using he
  obtain ⟨x0,q0⟩:=hO.cells 0 (by decide)
  obtain ⟨x1,q1⟩:=hO.cells 1 (by decide)
  obtain ⟨x2,q2⟩:=hO.cells 2 (by decide)
  have r0:=hO.fz 0 (by decide)
  have r1:=hO.fz 1 (by decide)
  have r2:=hO.fz 2 (by decide)
  have H4:=Hd (three_set wb w.heap.size (.bool false) (.slice none 0 0) (.slice none 0 0) hO.cells)
  clear hO
  go_enter Tryz.func133,Tryz.ntmps133
  go_wp2_with fail
  obtain ⟨p0,p1,p2,c4⟩:=Uh H4
  generalize ((wb.setCell ⟨w.heap.size,0,none⟩ (.bool false)).setCell ⟨w.heap.size,1,none⟩ (.slice none 0 0)).setCell ⟨w.heap.size,2,none⟩ (.slice none 0 0) = wf at *
  refine bodyPost_ret (by simp [results,Tryz.results133,go_sem,p0,p1,p2]; try rfl) rfl ?_
  refine ⟨?_,(Uh HB).trans (c4.below (Uh HB).size (fun k hk => by omega))⟩
  rw [if_neg he]
  rfl
def bigN (v:Nat):Bool:=decide (2048 < (limbs v).length)
def MuPost (w w':World) (sg:Bool) (N M:Nat) (e:Ending):Prop:=if bigN N || bigN M then ResR w w' false [] [] 2 e else ResR w w' (sg && decide (N ≠ 0)) (limbs N) (limbs M) 0 e
end Go.Proofs.YtlolnaegfponeaaGreatDoor
