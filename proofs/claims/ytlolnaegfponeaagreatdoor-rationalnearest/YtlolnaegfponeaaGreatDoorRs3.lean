/- Rz9 -/
import Derived.Test.YtlolnaegfponeaaGreatDoorMy2
import Derived.Test.YtlolnaegfponeaaGreatDoorRz8
import Derived.Test.YtlolnaegfponeaaGreatDoorRz3
import Derived.Test.YtlolnaegfponeaaGreatDoorRv3
namespace Go.Proofs.YtlolnaegfponeaaGreatDoor
open Go.RowKit Go.Deep
set_option linter.unusedVariables false
theorem or_top2 {v:Nat} (h:v < 9223372036854775808):bits .or .u64 (v:Int) 9223372036854775808 = ((9223372036854775808 + v:Nat):Int):=by
 have h1:=u64_or_nat v 9223372036854775808 (by omega) (by decide)
 have h2:v ||| 9223372036854775808 = 9223372036854775808 + v:=by
  have:=Nat.two_pow_add_eq_or_of_lt (i:=63) (b:=v) (by omega) 1
  rw [Nat.or_comm]
  simpa using this.symm
 rw [h2] at h1
 exact h1
theorem flN_lt {x y:List Nat} (ox:Ok x) (oy:Ok y) (kx:MayL x = true) (ky:MayL y = true) (ex:x ≠ []) (ey:y ≠ []):flN (bitsN x) (bitsN y) (val x) (val y) < 9223372036854775808:=by
 obtain ⟨x1,x2,x3,x4⟩:=bits_two ox kx ex
 obtain ⟨y1,y2,y3,y4⟩:=bits_two oy ky ey
 have h:=rdE_B x1 x2 y1 y2
 unfold flN
 split <;> omega
set_option maxRecDepth 100000 in
set_option maxHeartbeats 16000000 in
theorem rfloat_no (g:Bool) (a b:Option Addr) (n c m d:Nat) (x y:List Nat) (w:World) (hx:Sl w a n c x) (hy:Sl w b m d y) (ox:Ok x) (oy:Ok y) (hT:Tab64 w) (k1:MayR g x y = false) :
  Calls Tryz.prog 9 #[ratV g a n c b m d] w fun e w' => e = .returned (.tuple #[.int .u64 (((FlF g x y).1:Nat):Int),.int .i64 (FlF g x y).2]) ∧ Below w.heap.size w w':=by
 have bx:=Box.made w g a n c b m d
 obtain ⟨wa,hwa⟩:∃ wa,ratBox w g a n c b m d = wa:=⟨_,rfl⟩
 rw [hwa] at bx
 unfold ratBox at hwa
 have hba:=bx.bel
 have p0:=bx.d0
 have p1:=bx.d1
 have p2:=bx.d2
 have hF:FlF g x y = (0,40):=by unfold FlF; rw [k1]; rfl
 rw [hF]
 have K1:=ratMay_any g a b n c m d x y wa (hx.below hba) (hy.below hba) ox oy (hT.below hba)
 rw [k1] at K1
 have HK1:=Hd K1
 have HBa:=Hd hba
 clear K1 hx hy bx hba hT k1 hF
 unfold ratV at HK1 ⊢
 go_enter Tryz.func9,Tryz.ntmps9
 go_wp2_with fail
 refine (Uh HK1).mono ?_
 rintro _ w3 ⟨rfl,b3⟩
 have HB3:=Hd b3
 clear b3
 go_wp2_with fail
 go_ret2
 exact ⟨rfl,(Uh HBa).trans ((Uh HB3).mono (Uh HBa).size)⟩
set_option maxRecDepth 100000 in
set_option maxHeartbeats 16000000 in
theorem rfloat_fz (a b:Option Addr) (n c m d:Nat) (x y:List Nat) (w:World) (hx:Sl w a n c x) (hy:Sl w b m d y) (ox:Ok x) (oy:Ok y) (hT:Tab64 w) (hT2:Tab32 w) (k1:MayR false x y = true) (ex:x = []) :
  Calls Tryz.prog 9 #[ratV false a n c b m d] w fun e w' => e = .returned (.tuple #[.int .u64 (((FlF false x y).1:Nat):Int),.int .i64 (FlF false x y).2]) ∧ Below w.heap.size w w':=by
 have bx:=Box.made w false a n c b m d
 obtain ⟨wa,hwa⟩:∃ wa,ratBox w false a n c b m d = wa:=⟨_,rfl⟩
 rw [hwa] at bx
 unfold ratBox at hwa
 have hba:=bx.bel
 have p0:=bx.d0
 have p1:=bx.d1
 have p2:=bx.d2
 have hF:FlF false x y = (0 + 0,0):=by unfold FlF; rw [if_pos k1,if_pos ex]; rfl
 rw [hF]
 clear hF
 dsimp only
 have K1:=ratMay_any false a b n c m d x y wa (hx.below hba) (hy.below hba) ox oy (hT.below hba)
 rw [k1] at K1
 obtain ⟨kx,ky,ey,_,_⟩:=MayR.parts k1
 have hn:n = 0:=by have:=hx.len; rw [ex] at this; simpa using this.symm
 subst hn
 have HKF:=Hd (fun (W:World) (hb:Below wa.heap.size wa W) => floatOfSize_nil a b c m d W)
 have HK1:=Hd K1
 have HBa:=Hd hba
 clear K1 hx hy bx hba hT hT2 k1 kx ky ey ex
 unfold ratV at HK1 ⊢
 go_enter Tryz.func9,Tryz.ntmps9
 go_wp2_with fail
 refine (Uh HK1).mono ?_
 rintro _ w3 ⟨rfl,b3⟩
 have q0:=(ck b3 p0)
 have q1:=(ck b3 p1)
 have q2:=(ck b3 p2)
 have HB3:=Hd b3
 clear b3 p0 p1 p2
 go_wp2_with fail
 refine (Uh HKF _ (Uh HB3)).mono ?_
 rintro _ w4 ⟨rfl,b4⟩
 have r0:=(ck b4 q0)
 have HB4:=Hd ((Uh HB3).trans (b4.mono (Uh HB3).size))
 clear b4 HKF q0 q1 q2
 go_wp2_with fail
 go_ret2
 exact ⟨by simp,(Uh HBa).trans ((Uh HB4).mono (Uh HBa).size)⟩
set_option maxRecDepth 100000 in
set_option maxHeartbeats 16000000 in
theorem rfloat_fp (a b:Option Addr) (n c m d:Nat) (x y:List Nat) (w:World) (hx:Sl w a n c x) (hy:Sl w b m d y) (ox:Ok x) (oy:Ok y) (hT:Tab64 w) (hT2:Tab32 w) (k1:MayR false x y = true) (ex:x ≠ []) :
  Calls Tryz.prog 9 #[ratV false a n c b m d] w fun e w' => e = .returned (.tuple #[.int .u64 (((FlF false x y).1:Nat):Int),.int .i64 (FlF false x y).2]) ∧ Below w.heap.size w w':=by
 have bx:=Box.made w false a n c b m d
 obtain ⟨wa,hwa⟩:∃ wa,ratBox w false a n c b m d = wa:=⟨_,rfl⟩
 rw [hwa] at bx
 unfold ratBox at hwa
 have hba:=bx.bel
 have p0:=bx.d0
 have p1:=bx.d1
 have p2:=bx.d2
 have hF:FlF false x y = (0 + flN (bitsN x) (bitsN y) (val x) (val y),0):=by unfold FlF; rw [if_pos k1,if_neg ex]; rfl
 rw [hF]
 clear hF
 dsimp only
 have K1:=ratMay_any false a b n c m d x y wa (hx.below hba) (hy.below hba) ox oy (hT.below hba)
 rw [k1] at K1
 obtain ⟨kx,ky,ey,_,_⟩:=MayR.parts k1
 have HKF:=Hd (fun (W:World) (hb:Below wa.heap.size wa W) => floatOfSize_any a b n c m d x y W ((hx.below hba).below hb) ((hy.below hba).below hb) ox oy kx ky ex ey ((hT2.below hba).below hb))
 obtain ⟨F,hF⟩:∃ F,flN (bitsN x) (bitsN y) (val x) (val y) = F:=⟨_,rfl⟩
 have hFb:F < 9223372036854775808:=by rw [← hF]; exact flN_lt ox oy kx ky ex ey
 rw [hF] at HKF ⊢
 clear hF
 have HK1:=Hd K1
 have HBa:=Hd hba
 clear K1 hx hy bx hba hT hT2 k1 kx ky ey ex
 unfold ratV at HK1 ⊢
 go_enter Tryz.func9,Tryz.ntmps9
 go_wp2_with fail
 refine (Uh HK1).mono ?_
 rintro _ w3 ⟨rfl,b3⟩
 have q0:=(ck b3 p0)
 have q1:=(ck b3 p1)
 have q2:=(ck b3 p2)
 have HB3:=Hd b3
 clear b3 p0 p1 p2
 go_wp2_with fail
 refine (Uh HKF _ (Uh HB3)).mono ?_
 rintro _ w4 ⟨rfl,b4⟩
 have r0:=(ck b4 q0)
 have HB4:=Hd ((Uh HB3).trans (b4.mono (Uh HB3).size))
 clear b4 HKF q0 q1 q2
 go_wp2_with fail
 go_ret2
 exact ⟨by simp,(Uh HBa).trans ((Uh HB4).mono (Uh HBa).size)⟩
set_option maxRecDepth 100000 in
set_option maxHeartbeats 16000000 in
theorem rfloat_tp (a b:Option Addr) (n c m d:Nat) (x y:List Nat) (w:World) (hx:Sl w a n c x) (hy:Sl w b m d y) (ox:Ok x) (oy:Ok y) (hT:Tab64 w) (hT2:Tab32 w) (k1:MayR true x y = true) (ex:x ≠ []) :
  Calls Tryz.prog 9 #[ratV true a n c b m d] w fun e w' => e = .returned (.tuple #[.int .u64 (((FlF true x y).1:Nat):Int),.int .i64 (FlF true x y).2]) ∧ Below w.heap.size w w':=by
 have bx:=Box.made w true a n c b m d
 obtain ⟨wa,hwa⟩:∃ wa,ratBox w true a n c b m d = wa:=⟨_,rfl⟩
 rw [hwa] at bx
 unfold ratBox at hwa
 have hba:=bx.bel
 have p0:=bx.d0
 have p1:=bx.d1
 have p2:=bx.d2
 have hF:FlF true x y = (9223372036854775808 + flN (bitsN x) (bitsN y) (val x) (val y),0):=by unfold FlF; rw [if_pos k1,if_neg ex]; rfl
 rw [hF]
 clear hF
 dsimp only
 have K1:=ratMay_any true a b n c m d x y wa (hx.below hba) (hy.below hba) ox oy (hT.below hba)
 rw [k1] at K1
 obtain ⟨kx,ky,ey,_,_⟩:=MayR.parts k1
 have HKF:=Hd (fun (W:World) (hb:Below wa.heap.size wa W) => floatOfSize_any a b n c m d x y W ((hx.below hba).below hb) ((hy.below hba).below hb) ox oy kx ky ex ey ((hT2.below hba).below hb))
 obtain ⟨F,hF⟩:∃ F,flN (bitsN x) (bitsN y) (val x) (val y) = F:=⟨_,rfl⟩
 have hFb:F < 9223372036854775808:=by rw [← hF]; exact flN_lt ox oy kx ky ex ey
 rw [hF] at HKF ⊢
 clear hF
 have hor:=or_top2 hFb
 have HK1:=Hd K1
 have HBa:=Hd hba
 clear K1 hx hy bx hba hT hT2 k1 kx ky ey ex
 unfold ratV at HK1 ⊢
 go_enter Tryz.func9,Tryz.ntmps9
 go_wp2_with fail
 refine (Uh HK1).mono ?_
 rintro _ w3 ⟨rfl,b3⟩
 have q0:=(ck b3 p0)
 have q1:=(ck b3 p1)
 have q2:=(ck b3 p2)
 have HB3:=Hd b3
 clear b3 p0 p1 p2
 go_wp2_with fail
 refine (Uh HKF _ (Uh HB3)).mono ?_
 rintro _ w4 ⟨rfl,b4⟩
 have r0:=(ck b4 q0)
 have HB4:=Hd ((Uh HB3).trans (b4.mono (Uh HB3).size))
 clear b4 HKF q0 q1 q2
 go_wp2_with fail
 go_ret2
 exact ⟨by go_num,(Uh HBa).trans ((Uh HB4).mono (Uh HBa).size)⟩
theorem rfloat_any (g:Bool) (a b:Option Addr) (n c m d:Nat) (x y:List Nat) (w:World) (hx:Sl w a n c x) (hy:Sl w b m d y) (ox:Ok x) (oy:Ok y) (hT:Tab64 w) (hT2:Tab32 w) :
  Calls Tryz.prog 9 #[ratV g a n c b m d] w fun e w' => e = .returned (.tuple #[.int .u64 (((FlF g x y).1:Nat):Int),.int .i64 (FlF g x y).2]) ∧ Below w.heap.size w w':=by
 cases k1:MayR g x y
 ·exact rfloat_no g a b n c m d x y w hx hy ox oy hT k1
 ·by_cases ex:x = []
  ·cases g
   ·exact rfloat_fz a b n c m d x y w hx hy ox oy hT hT2 k1 ex
   ·exfalso
    unfold MayR at k1
    rw [ex] at k1
    simp at k1
  ·cases g
   ·exact rfloat_fp a b n c m d x y w hx hy ox oy hT hT2 k1 ex
   ·exact rfloat_tp a b n c m d x y w hx hy ox oy hT hT2 k1 ex
def flS (x y:List Nat):Nat:=if x = [] then 0 else flN (bitsN x) (bitsN y) (val x) (val y)
theorem flF_is {g:Bool} {x y:List Nat} (h:MayR g x y = true):FlF g x y = ((if g then 9223372036854775808 else 0) + flS x y,0):=by
 unfold FlF flS
 rw [if_pos h]
theorem flS_le {g:Bool} {x y:List Nat} (ox:Ok x) (oy:Ok y) (h:MayR g x y = true):flS x y ≤ 9218868437227405312:=by
 obtain ⟨kx,ky,ey,_,_⟩:=MayR.parts h
 unfold flS
 split
 ·omega
 ·next ex =>
  obtain ⟨x1,x2,x3,x4⟩:=bits_two ox kx ex
  obtain ⟨y1,y2,y3,y4⟩:=bits_two oy ky ey
  have hb:=rdE_B x1 x2 y1 y2
  unfold flN
  split <;> omega
theorem flS_is {g:Bool} {x y:List Nat} (ox:Ok x) (oy:Ok y) (h:MayR g x y = true) (hf:flS x y ≠ 9218868437227405312) :
  ∃ U R,IsFl (flS x y) U R ∧ rdQ (val x * 2 ^ kB) (val y * 2 ^ U) = R ∧ (0 < U → 4503599627370496 * (val y * 2 ^ U) ≤ val x * 2 ^ kB):=by
 obtain ⟨kx,ky,ey,_,_⟩:=MayR.parts h
 unfold flS at hf ⊢
 by_cases ex:x = []
 ·rw [if_pos ex]
  refine ⟨0,0,⟨rfl,by omega,by omega,by omega⟩,?_,by omega⟩
  subst ex
  have hv:val ([]:List Nat) = 0:=rfl
  rw [hv,Nat.zero_mul]
  unfold rdQ
  have:=Nat.mul_pos (mayR_pos h) (Nat.two_pow_pos 0)
  rw [Nat.zero_mod,Nat.zero_div,if_neg (by omega)]
 ·rw [if_neg ex] at hf ⊢
  exact flN_is ox oy kx ky ex ey hf
theorem flS_inf {g:Bool} {x y:List Nat} (h:flS x y = 9218868437227405312):x ≠ [] ∧ flN (bitsN x) (bitsN y) (val x) (val y) = 9218868437227405312:=by
 unfold flS at h
 by_cases ex:x = []
 ·rw [if_pos ex] at h; omega
 ·rw [if_neg ex] at h; exact ⟨ex,h⟩
theorem ff_of {g:Bool} {s:Nat} (hs:s < 9218868437227405312):∃ gr xr yr,FfF ((if g then 9223372036854775808 else 0) + s) = ((gr,xr,yr),0) ∧ Ok xr ∧ Ok yr ∧ Fr gr xr yr (nI g (flV s)) ((2 ^ kB:Nat):Int):=by
 have e1:exB ((if g then 9223372036854775808 else 0) + s) = exB s:=by
  unfold exB
  cases g
  ·simp
  ·simp only [if_true]; omega
 have e2:frB ((if g then 9223372036854775808 else 0) + s) = frB s:=by
  unfold frB
  cases g
  ·simp
  ·simp only [if_true]; omega
 have e3:flV ((if g then 9223372036854775808 else 0) + s) = flV s:=by
  unfold flV ffN ffE
  rw [e1,e2]
 have e4:decide (9223372036854775808 ≤ (if g then 9223372036854775808 else 0) + s) = g:=by
  cases g
  ·simp; omega
  ·simp
 have hx:exB s ≠ 2047:=by unfold exB; omega
 have h:=ff_fr (b:=(if g then 9223372036854775808 else 0) + s) (by rw [e1]; exact hx)
 rw [e3,e4] at h
 exact h
theorem near_cmp {x1 y1 x2 y2:List Nat} {W d0 d1 s:Nat} (h1:MayR false x1 y1 = true) (h2:MayR false x2 y2 = true) (hW:0 < W) (e1:val x1 * W = d0 * val y1) (e2:val x2 * W = d1 * val y2) (hd:d0 ≤ d1 ∧ (d0 = d1 → s % 2 = 0)) :
  CmpF false x1 y1 false x2 y2 ≤ 0 ∧ (CmpF false x1 y1 false x2 y2 = 0 → s % 2 = 0):=by
 rw [cmp_dif h1 h2 hW e1 e2]
 rcases Nat.lt_or_eq_of_le hd.1 with k | k
 ·rw [Int.sign_eq_neg_one_of_neg (by omega)]
  exact ⟨by decide,fun h => absurd h (by decide)⟩
 ·rw [show (d0:Int) - (d1:Int) = 0 by omega]
  exact ⟨by decide,fun _ => hd.2 k⟩
end Go.Proofs.YtlolnaegfponeaaGreatDoor
namespace Go.Proofs.YtlolnaegfponeaaGreatDoor
open Go.ChangeShapes Go.WideShapes Go.ChangeAt Go.RowKit Go.Deep
set_option linter.unusedVariables false
theorem rfromFloat_c1 (w:World) (hT:Tab64 w):Calls Tryz.prog 13 #[.int .u64 9218868437227405311] w fun e w' => ResR w w' (FfF 9218868437227405311).1.1 (FfF 9218868437227405311).1.2.1 (FfF 9218868437227405311).1.2.2 (FfF 9218868437227405311).2 e:=rfromFloat_any 9218868437227405311 w (by decide) hT
theorem rfromFloat_c2 (w:World) (hT:Tab64 w):Calls Tryz.prog 13 #[.int .u64 9214364837600034816] w fun e w' => ResR w w' (FfF 9214364837600034816).1.1 (FfF 9214364837600034816).1.2.1 (FfF 9214364837600034816).1.2.2 (FfF 9214364837600034816).2 e:=rfromFloat_any 9214364837600034816 w (by decide) hT
theorem ratAbs_R (g:Bool) (a b:Option Addr) (n c m d:Nat) (x y:List Nat) (w:World) (hx:Sl w a n c x) (hy:Sl w b m d y) (ox:Ok x) (oy:Ok y) (hT:Tab64 w) :
  Calls Tryz.prog 36 #[ratV g a n c b m d] w fun e w' => ResR w w' (AbsF g x y).1.1 (AbsF g x y).1.2.1 (AbsF g x y).1.2.2 (AbsF g x y).2 e:=ratAbs_F g a b n c m d x y w hx hy ox oy hT
set_option maxRecDepth 100000 in
set_option maxHeartbeats 64000000 in
theorem beyond_any (g_a:Bool) (a_a:Option Addr) (n_a c_a:Nat) (x_a:List Nat) (b_a:Option Addr) (m_a d_a:Nat) (y_a:List Nat) (w:World) (hx_a:Sl w a_a n_a c_a x_a) (hy_a:Sl w b_a m_a d_a y_a) (ox_a:Ok x_a) (oy_a:Ok y_a) (hT:Tab64 w) (hm:MayR g_a x_a y_a = true) (ex:x_a ≠ []) (hf:flN (bitsN x_a) (bitsN y_a) (val x_a) (val y_a) = 9218868437227405312) :
  Calls Tryz.prog 12 #[ratV g_a a_a n_a c_a b_a m_a d_a] w fun e w' => e = .returned (.bool true) ∧ Below w.heap.size w w':=by
 have A00:Fcts w w [fTab]:=⟨Below.refl _ _,fun f hf => by simp at hf; subst hf; exact hT⟩
 have A01:=A00.add (fN a_a n_a c_a x_a b_a m_a d_a y_a) ⟨hx_a,hy_a⟩
 have O_a:=Hd (And.intro ox_a oy_a)
 have A0:=Hd A01
 obtain ⟨g1,x1,y1,g2,x2,y2,g3,x3,y3,g4,x4,y4,e1,e2,e3,e4,e5,o1,q1,o2,q2,o3,q3,o4,q4,hC⟩:=beyond_all ox_a oy_a hm ex hf
 have H1:=Hd e1
 have H2:=Hd e2
 have H3:=Hd e3
 have H4:=Hd e4
 have H5:=Hd e5
 have O_g:=Hd (And.intro o1 q1)
 have O_h:=Hd (And.intro o2 q2)
 have O_n:=Hd (And.intro o3 q3)
 have O_w:=Hd (And.intro o4 q4)
 have O_b:=Hd (And.intro ox_a oy_a)
 have ol:=addF_lists (g1:=false) (x1:=x_a) (y1:=y_a) (g2:=false) (x2:=x_a) (y2:=y_a)
 obtain ⟨⟨⟨g5,x5,y5⟩,E5⟩,h6⟩:∃ r,AddF false x_a y_a false x_a y_a = r:=⟨_,rfl⟩
 rw [h6] at ol
 have O_c:=Hd ol
 have H6:=Hd h6
 have HC:=Hd (fun (k:E5 = 0) => hC g5 x5 y5 (by rw [h6,k]))
 clear e1 e2 e3 e4 e5 o1 q1 o2 q2 o3 q3 o4 q4 hC h6 ol hm ex hf
 clear A00 hT hx_a hy_a A01 ox_a oy_a
 unfold ratV
 obtain ⟨w1,hw1⟩:∃ x,w.alloc (.cells #[.bool g_a,.slice a_a n_a c_a,.slice b_a m_a d_a] 25) = x:=⟨_,rfl⟩
 have Aw1:=Hd ((Uh A0).box (.bool g_a) (.slice a_a n_a c_a) (.slice b_a m_a d_a) 25)
 rw [hw1] at Aw1
 clear A0
 go_enter Tryz.func12,Tryz.ntmps12
 go_wp2_with fail
 have K:=rfromFloat_c1 w1 ((Uh Aw1).tab mM2)
 rw [Uh H1] at K
 try dsimp only at K
 try unfold ratV at K
 refine K.mono ?_
 clear K
 rintro _ w2 ⟨v,rfl,a_g2,n_g2,c_g2,b_g2,m_g2,d_g2,rfl,sx,sy,nx,ny,hb⟩
 try dsimp only at sx sy
 unfold ratV
 have Aw2:=Hd (((Uh Aw1).step hb).add (fN a_g2 n_g2 c_g2 x1 b_g2 m_g2 d_g2 y1) ⟨sx,sy⟩)
 clear Aw1 sx sy nx ny hb
 obtain ⟨w3,hw3⟩:∃ x,w2.alloc (.cells #[.bool g1,.slice a_g2 n_g2 c_g2,.slice b_g2 m_g2 d_g2] 25) = x:=⟨_,rfl⟩
 have Aw3:=Hd ((Uh Aw2).box (.bool g1) (.slice a_g2 n_g2 c_g2) (.slice b_g2 m_g2 d_g2) 25)
 rw [hw3] at Aw3
 clear Aw2
 go_wp2_with fail
 have K:=rfromFloat_c2 w3 ((Uh Aw3).tab mM4)
 rw [Uh H2] at K
 try dsimp only at K
 try unfold ratV at K
 refine K.mono ?_
 clear K
 rintro _ w4 ⟨v,rfl,a_h4,n_h4,c_h4,b_h4,m_h4,d_h4,rfl,sx,sy,nx,ny,hb⟩
 try dsimp only at sx sy
 unfold ratV
 have Aw4:=Hd (((Uh Aw3).step hb).add (fN a_h4 n_h4 c_h4 x2 b_h4 m_h4 d_h4 y2) ⟨sx,sy⟩)
 clear Aw3 sx sy nx ny hb
 obtain ⟨w5,hw5⟩:∃ x,w4.alloc (.cells #[.bool g2,.slice a_h4 n_h4 c_h4,.slice b_h4 m_h4 d_h4] 25) = x:=⟨_,rfl⟩
 have Aw5:=Hd ((Uh Aw4).box (.bool g2) (.slice a_h4 n_h4 c_h4) (.slice b_h4 m_h4 d_h4) 25)
 rw [hw5] at Aw5
 clear Aw4
 have t6:=(Uh Aw5).r (w4.heap.size) (.bool g2) (.slice a_h4 n_h4 c_h4) (.slice b_h4 m_h4 d_h4) (.head _)
 have t6a:=t6.c0
 have t6b:=t6.c1
 have t6c:=t6.c2
 clear t6
 go_wp2_with fail
 clear t6a t6b t6c
 have K:=ratAdd_any g2 g2 (a_h4) (b_h4) (a_h4) (b_h4) n_h4 c_h4 m_h4 d_h4 n_h4 c_h4 m_h4 d_h4 (x2) (y2) (x2) (y2) w5 ((Uh Aw5).n (a_h4) n_h4 c_h4 (x2) (b_h4) m_h4 d_h4 (y2) mM1).num ((Uh Aw5).n (a_h4) n_h4 c_h4 (x2) (b_h4) m_h4 d_h4 (y2) mM1).den ((Uh Aw5).n (a_h4) n_h4 c_h4 (x2) (b_h4) m_h4 d_h4 (y2) mM1).num ((Uh Aw5).n (a_h4) n_h4 c_h4 (x2) (b_h4) m_h4 d_h4 (y2) mM1).den (Uh O_h).1 (Uh O_h).2 (Uh O_h).1 (Uh O_h).2 ((Uh Aw5).tab mM6)
 rw [Uh H3] at K
 try dsimp only at K
 try unfold ratV at K
 refine K.mono ?_
 clear K
 rintro _ w7 ⟨v,rfl,a_n7,n_n7,c_n7,b_n7,m_n7,d_n7,rfl,sx,sy,nx,ny,hb⟩
 try dsimp only at sx sy
 unfold ratV
 have Aw7:=Hd (((Uh Aw5).step hb).add (fN a_n7 n_n7 c_n7 x3 b_n7 m_n7 d_n7 y3) ⟨sx,sy⟩)
 clear Aw5 sx sy nx ny hb
 obtain ⟨w8,hw8⟩:∃ x,w7.alloc (.cells #[.bool g3,.slice a_n7 n_n7 c_n7,.slice b_n7 m_n7 d_n7] 25) = x:=⟨_,rfl⟩
 have Aw8:=Hd ((Uh Aw7).box (.bool g3) (.slice a_n7 n_n7 c_n7) (.slice b_n7 m_n7 d_n7) 25)
 rw [hw8] at Aw8
 clear Aw7
 have t9:=(Uh Aw8).r (w2.heap.size) (.bool g1) (.slice a_g2 n_g2 c_g2) (.slice b_g2 m_g2 d_g2) mM4
 have t9a:=t9.c0
 have t9b:=t9.c1
 have t9c:=t9.c2
 clear t9
 have t10:=(Uh Aw8).r (w7.heap.size) (.bool g3) (.slice a_n7 n_n7 c_n7) (.slice b_n7 m_n7 d_n7) (.head _)
 have t10a:=t10.c0
 have t10b:=t10.c1
 have t10c:=t10.c2
 clear t10
 go_wp2_with fail
 clear t9a t9b t9c t10a t10b t10c
 have K:=ratAdd_any g1 g3 (a_g2) (b_g2) (a_n7) (b_n7) n_g2 c_g2 m_g2 d_g2 n_n7 c_n7 m_n7 d_n7 (x1) (y1) (x3) (y3) w8 ((Uh Aw8).n (a_g2) n_g2 c_g2 (x1) (b_g2) m_g2 d_g2 (y1) mM5).num ((Uh Aw8).n (a_g2) n_g2 c_g2 (x1) (b_g2) m_g2 d_g2 (y1) mM5).den ((Uh Aw8).n (a_n7) n_n7 c_n7 (x3) (b_n7) m_n7 d_n7 (y3) mM1).num ((Uh Aw8).n (a_n7) n_n7 c_n7 (x3) (b_n7) m_n7 d_n7 (y3) mM1).den (Uh O_g).1 (Uh O_g).2 (Uh O_n).1 (Uh O_n).2 ((Uh Aw8).tab mM8)
 rw [Uh H4] at K
 try dsimp only at K
 try unfold ratV at K
 refine K.mono ?_
 clear K
 rintro _ w11 ⟨v,rfl,a_w11,n_w11,c_w11,b_w11,m_w11,d_w11,rfl,sx,sy,nx,ny,hb⟩
 try dsimp only at sx sy
 unfold ratV
 have Aw11:=Hd (((Uh Aw8).step hb).add (fN a_w11 n_w11 c_w11 x4 b_w11 m_w11 d_w11 y4) ⟨sx,sy⟩)
 clear Aw8 sx sy nx ny hb
 obtain ⟨w12,hw12⟩:∃ x,w11.alloc (.cells #[.bool g4,.slice a_w11 n_w11 c_w11,.slice b_w11 m_w11 d_w11] 25) = x:=⟨_,rfl⟩
 have Aw12:=Hd ((Uh Aw11).box (.bool g4) (.slice a_w11 n_w11 c_w11) (.slice b_w11 m_w11 d_w11) 25)
 rw [hw12] at Aw12
 clear Aw11
 have t13:=(Uh Aw12).r (w.heap.size) (.bool g_a) (.slice a_a n_a c_a) (.slice b_a m_a d_a) mM8
 have t13a:=t13.c0
 have t13b:=t13.c1
 have t13c:=t13.c2
 clear t13
 go_wp2_with fail
 clear t13a t13b t13c
 have K:=ratAbs_R g_a (a_a) (b_a) n_a c_a m_a d_a (x_a) (y_a)  w12 ((Uh Aw12).n (a_a) n_a c_a (x_a) (b_a) m_a d_a (y_a) mM9).num ((Uh Aw12).n (a_a) n_a c_a (x_a) (b_a) m_a d_a (y_a) mM9).den (Uh O_a).1 (Uh O_a).2 ((Uh Aw12).tab mM10)
 rw [Uh H5] at K
 try dsimp only at K
 try unfold ratV at K
 refine K.mono ?_
 clear K
 rintro _ w14 ⟨v,rfl,a_b14,n_b14,c_b14,b_b14,m_b14,d_b14,rfl,sx,sy,nx,ny,hb⟩
 try dsimp only at sx sy
 unfold ratV
 have Aw14:=Hd (((Uh Aw12).step hb).add (fN a_b14 n_b14 c_b14 x_a b_b14 m_b14 d_b14 y_a) ⟨sx,sy⟩)
 clear Aw12 sx sy nx ny hb
 obtain ⟨w15,hw15⟩:∃ x,w14.alloc (.cells #[.bool false,.slice a_b14 n_b14 c_b14,.slice b_b14 m_b14 d_b14] 25) = x:=⟨_,rfl⟩
 have Aw15:=Hd ((Uh Aw14).box (.bool false) (.slice a_b14 n_b14 c_b14) (.slice b_b14 m_b14 d_b14) 25)
 rw [hw15] at Aw15
 clear Aw14
 go_wp2_with fail
 refine (rnum2_any 0 w15).mono ?_
 rintro _ w' ⟨rfl,hw⟩
 obtain rfl:=hw.symm
 clear hw
 go_wp2_with fail
 refine (rnum2_any 0 w15).mono ?_
 rintro _ w' ⟨rfl,hw⟩
 obtain rfl:=hw.symm
 clear hw
 go_wp2_with fail
 refine (rnum2_any 0 w15).mono ?_
 rintro _ w' ⟨rfl,hw⟩
 obtain rfl:=hw.symm
 clear hw
 go_wp2_with fail
 refine (rnum2_any 0 w15).mono ?_
 rintro _ w' ⟨rfl,hw⟩
 obtain rfl:=hw.symm
 clear hw
 go_wp2_with fail
 refine (rnum2_any 0 w15).mono ?_
 rintro _ w' ⟨rfl,hw⟩
 obtain rfl:=hw.symm
 clear hw
 have t16:=(Uh Aw15).r (w14.heap.size) (.bool false) (.slice a_b14 n_b14 c_b14) (.slice b_b14 m_b14 d_b14) (.head _)
 have t16a:=t16.c0
 have t16b:=t16.c1
 have t16c:=t16.c2
 clear t16
 go_wp2_with fail
 clear t16a t16b t16c
 have K:=ratAdd_any false false (a_b14) (b_b14) (a_b14) (b_b14) n_b14 c_b14 m_b14 d_b14 n_b14 c_b14 m_b14 d_b14 (x_a) (y_a) (x_a) (y_a) w15 ((Uh Aw15).n (a_b14) n_b14 c_b14 (x_a) (b_b14) m_b14 d_b14 (y_a) mM1).num ((Uh Aw15).n (a_b14) n_b14 c_b14 (x_a) (b_b14) m_b14 d_b14 (y_a) mM1).den ((Uh Aw15).n (a_b14) n_b14 c_b14 (x_a) (b_b14) m_b14 d_b14 (y_a) mM1).num ((Uh Aw15).n (a_b14) n_b14 c_b14 (x_a) (b_b14) m_b14 d_b14 (y_a) mM1).den (Uh O_b).1 (Uh O_b).2 (Uh O_b).1 (Uh O_b).2 ((Uh Aw15).tab mM12)
 rw [Uh H6] at K
 try dsimp only at K
 try unfold ratV at K
 refine K.mono ?_
 clear K
 rintro _ w17 ⟨v,rfl,a_c17,n_c17,c_c17,b_c17,m_c17,d_c17,rfl,sx,sy,nx,ny,hb⟩
 try dsimp only at sx sy
 unfold ratV
 have Aw17:=Hd (((Uh Aw15).step hb).add (fN a_c17 n_c17 c_c17 x5 b_c17 m_c17 d_c17 y5) ⟨sx,sy⟩)
 clear Aw15 sx sy nx ny hb
 obtain ⟨w18,hw18⟩:∃ x,w17.alloc (.cells #[.bool g5,.slice a_c17 n_c17 c_c17,.slice b_c17 m_c17 d_c17] 25) = x:=⟨_,rfl⟩
 have Aw18:=Hd ((Uh Aw17).box (.bool g5) (.slice a_c17 n_c17 c_c17) (.slice b_c17 m_c17 d_c17) 25)
 rw [hw18] at Aw18
 clear Aw17
 go_wp2_with fail
 refine (rnum2_any E5 w18).mono ?_
 rintro _ w' ⟨rfl,hw⟩
 obtain rfl:=hw.symm
 clear hw
 by_cases k5:E5 = 0
 ·have t5:(E5 != 0) = false:=by simp [k5]
  have HK:=Hd (Uh HC k5)
  clear k5
  have t19:=(Uh Aw18).r (w17.heap.size) (.bool g5) (.slice a_c17 n_c17 c_c17) (.slice b_c17 m_c17 d_c17) (.head _)
  have t19a:=t19.c0
  have t19b:=t19.c1
  have t19c:=t19.c2
  clear t19
  have t20:=(Uh Aw18).r (w11.heap.size) (.bool g4) (.slice a_w11 n_w11 c_w11) (.slice b_w11 m_w11 d_w11) mM4
  have t20a:=t20.c0
  have t20b:=t20.c1
  have t20c:=t20.c2
  clear t20
  go_wp2_with fail
  clear t19a t19b t19c t20a t20b t20c
  have K:=ratCmp_any g5 g4 (a_c17) (b_c17) (a_w11) (b_w11) n_c17 c_c17 m_c17 d_c17 n_w11 c_w11 m_w11 d_w11 (x5) (y5) (x4) (y4) w18 ((Uh Aw18).n (a_c17) n_c17 c_c17 (x5) (b_c17) m_c17 d_c17 (y5) mM1).num ((Uh Aw18).n (a_c17) n_c17 c_c17 (x5) (b_c17) m_c17 d_c17 (y5) mM1).den ((Uh Aw18).n (a_w11) n_w11 c_w11 (x4) (b_w11) m_w11 d_w11 (y4) mM5).num ((Uh Aw18).n (a_w11) n_w11 c_w11 (x4) (b_w11) m_w11 d_w11 (y4) mM5).den (Uh O_c).1 (Uh O_c).2 (Uh O_w).1 (Uh O_w).2 ((Uh Aw18).tab mM14)
  obtain ⟨cv,hcv⟩:∃ z,CmpF g5 (x5) (y5) g4 (x4) (y4) = z:=⟨_,rfl⟩
  rw [hcv] at K
  have tcv:(0:Int) ≤ cv:=by rw [← hcv]; exact Uh HK
  clear hcv
  try unfold ratV at K
  refine K.mono ?_
  clear K
  rintro _ wz ⟨rfl,hb⟩
  have HZ:=Hd (((Uh Aw18).step hb).bel)
  clear hb
  go_wp2_with fail
  go_ret
  exact ⟨rfl,Uh HZ⟩
 ·have t5:(E5 != 0) = true:=by simp [k5]
  have HZ:=Hd ((Uh Aw18).bel)
  clear k5
  go_wp2_with fail
  go_ret
  exact ⟨rfl,Uh HZ⟩
end Go.Proofs.YtlolnaegfponeaaGreatDoor
namespace Go.Proofs.YtlolnaegfponeaaGreatDoor
open Go.RowKit Go.Deep
set_option linter.unusedVariables false
def GapP (w w':World) (xm ym:List Nat) (e:Ending):Prop:=∃ a n c b m d,e = .returned (.tuple #[ratV false a n c b m d,.bool true]) ∧ Sl w' a n c xm ∧ Sl w' b m d ym ∧ Below w.heap.size w w'

set_option maxHeartbeats 8000000 in
set_option maxRecDepth 100000 in
theorem gap_any (g1 g2 gg:Bool) (a1 b1 a2 b2:Option Addr) (n1 c1 m1 d1 n2 c2 m2 d2:Nat) (x1 y1 x2 y2 xm ym:List Nat) (w:World) (hx1:Sl w a1 n1 c1 x1) (hy1:Sl w b1 m1 d1 y1) (hx2:Sl w a2 n2 c2 x2) (hy2:Sl w b2 m2 d2 y2) (ox1:Ok x1) (oy1:Ok y1) (ox2:Ok x2) (oy2:Ok y2) (hT:Tab64 w) (hS:SubF g1 x1 y1 g2 x2 y2 = ((gg,xm,ym),0)) (hA:AbsF gg xm ym = ((false,xm,ym),0)) (om:Ok xm) (oy:Ok ym) :
  Calls Tryz.prog 14 #[ratV g1 a1 n1 c1 b1 m1 d1,ratV g2 a2 n2 c2 b2 m2 d2] w fun e w' => GapP w w' xm ym e:=by
 obtain ⟨wa,hwa⟩:∃ z,w.alloc (.cells #[.bool g1,.slice a1 n1 c1,.slice b1 m1 d1] 25) = z:=⟨_,rfl⟩
 obtain ⟨wb,hwb⟩:∃ z,wa.alloc (.cells #[.bool g2,.slice a2 n2 c2,.slice b2 m2 d2] 25) = z:=⟨_,rfl⟩
 obtain ⟨wo,hwo⟩:∃ z,wb.alloc (.cells #[.bool false,.slice none 0 0,.slice none 0 0] 25) = z:=⟨_,rfl⟩
 have hF0:Fcts w w [fTab,fN a1 n1 c1 x1 b1 m1 d1 y1,fN a2 n2 c2 x2 b2 m2 d2 y2]:=⟨Below.refl _ _,fun f hf => by simp at hf; rcases hf with rfl | rfl | rfl; exact hT; exact ⟨hx1,hy1⟩; exact ⟨hx2,hy2⟩⟩
 have hF1:=hF0.box (.bool g1) (.slice a1 n1 c1) (.slice b1 m1 d1) 25
 rw [hwa] at hF1
 have hF2:=hF1.box (.bool g2) (.slice a2 n2 c2) (.slice b2 m2 d2) 25
 rw [hwb] at hF2
 have hF3:=hF2.box (.bool false) (.slice none 0 0) (.slice none 0 0) 25
 rw [hwo] at hF3
 have HW:=Hd (show w.heap.size ≤ wb.heap.size from hF2.bel.size)
 have q1:=hF3.r w.heap.size (.bool g1) (.slice a1 n1 c1) (.slice b1 m1 d1) mM2
 have q2:=hF3.r wa.heap.size (.bool g2) (.slice a2 n2 c2) (.slice b2 m2 d2) mM1
 have u0:=q1.c0
 have u1:=q1.c1
 have u2:=q1.c2
 have u3:=q2.c0
 have u4:=q2.c1
 have u5:=q2.c2
 have HLo:=Hd (hF3.r wb.heap.size (.bool false) (.slice none 0 0) (.slice none 0 0) (.head _)).lt
 have i1:=hF3.n a1 n1 c1 x1 b1 m1 d1 y1 mM4
 have i2:=hF3.n a2 n2 c2 x2 b2 m2 d2 y2 mM5
 have K:=ratSub_any g1 g2 a1 b1 a2 b2 n1 c1 m1 d1 n2 c2 m2 d2 x1 y1 x2 y2 wo i1.num i1.den i2.num i2.den ox1 oy1 ox2 oy2 (hF3.tab mM3)
 rw [hS] at K
 try dsimp only at K
 unfold ratV at K
 have HK:=Hd K
 have HF3:=Hd hF3
 have HA:=Hd hA
 have HO:=Hd (And.intro om oy)
 clear hS hA om oy hF0 hF1 hF2 hF3 q1 q2 i1 i2 K hx1 hy1 hx2 hy2 hT ox1 oy1 ox2 oy2
 unfold ratV
 go_enter Tryz.func14,Tryz.ntmps14
 go_wp2_with fail
 refine (Uh HK).mono ?_
 rintro _ w1 ⟨v,rfl,ax,nx,cx,bx,mx,dx,rfl,sx,sy,ex,ey,hb⟩
 unfold ratV
 have hF4:=((Uh HF3).step hb).add (fN ax nx cx xm bx mx dx ym) ⟨sx,sy⟩
 obtain ⟨w2,hw2⟩:∃ z,w1.alloc (.cells #[.bool gg,.slice ax nx cx,.slice bx mx dx] 25) = z:=⟨_,rfl⟩
 have hF5:=hF4.box (.bool gg) (.slice ax nx cx) (.slice bx mx dx) 25
 rw [hw2] at hF5
 have qx:=hF5.r w1.heap.size (.bool gg) (.slice ax nx cx) (.slice bx mx dx) (.head _)
 have e0:=qx.c0
 have e1:=qx.c1
 have e2:=qx.c2
 have hn:=hF5.n ax nx cx xm bx mx dx ym mM1
 have K:=ratAbs_F gg ax bx nx cx mx dx xm ym w2 hn.num hn.den (Uh HO).1 (Uh HO).2 (hF5.tab mM5)
 rw [Uh HA] at K
 unfold ResF at K
 try dsimp only at K
 unfold ratV at K
 have HK2:=Hd K
 have HF5:=Hd hF5
 clear sx sy ex ey hb hF4 hF5 qx hn K HK HF3 u0 u1 u2 u3 u4 u5
 go_wp2_with fail
 clear e0 e1 e2
 refine (Uh HK2).mono ?_
 rintro _ w3 ⟨v,rfl,az,nz,cz,bz,mz,dz,rfl,sx,sy,ex,ey,hb⟩
 unfold ratV
 have hF6:=((Uh HF5).step hb).add (fN az nz cz xm bz mz dz ym) ⟨sx,sy⟩
 obtain ⟨w4,hw4⟩:∃ z,w3.alloc (.cells #[.bool false,.slice az nz cz,.slice bz mz dz] 25) = z:=⟨_,rfl⟩
 have hF7:=hF6.box (.bool false) (.slice az nz cz) (.slice bz mz dz) 25
 rw [hw4] at hF7
 have hl5:=(Uh HF5).r wb.heap.size (.bool false) (.slice none 0 0) (.slice none 0 0) mM2
 have HNE:=Hd (And.intro (fun p hp h => by have h1:=ex p hp; have h2:=hl5.lt; omega:∀ p,az = some p → p.block ≠ wb.heap.size) (fun p hp h => by have h1:=ey p hp; have h2:=hl5.lt; omega:∀ p,bz = some p → p.block ≠ wb.heap.size))
 have qo:=hF7.r wb.heap.size (.bool false) (.slice none 0 0) (.slice none 0 0) mM4
 have qx:=hF7.r w3.heap.size (.bool false) (.slice az nz cz) (.slice bz mz dz) (.head _)
 have o0:=qo.c0
 have o1:=qo.c1
 have o2:=qo.c2
 have p0:=qo.f0
 have p1:=qo.f1
 have p2:=qo.f2
 have e0:=qx.c0
 have e1:=qx.c1
 have e2:=qx.c2
 have HRR:=Hd (show w3.heap.size ≠ wb.heap.size from by have h2:=hl5.lt; have h3:=hb.size; omega)
 have H4:=Hd (three_set w4 wb.heap.size (.bool false) (.slice az nz cz) (.slice bz mz dz) qo.out.cells)
 have HF:=Hd hF7
 clear sx sy ex ey hb hF6 hF7 qo qx hl5 HK2 HF5 HLo
 go_wp2_with fail
 have hr1:w3.heap.size ≠ wb.heap.size:=Uh HRR
 have hr2:=hr1.symm
 go_region_held3 (fun w' => w'.cell? ⟨w3.heap.size,0,none⟩ = some (.bool false) ∧ w'.cell? ⟨w3.heap.size,1,none⟩ = some (.slice az nz cz) ∧ w'.cell? ⟨w3.heap.size,2,none⟩ = some (.slice bz mz dz)) (first | go_keep | (exact ⟨e0,e1,e2⟩))
  (first
   | (go_at_call 10; refine (rnum2_any _ _).mono ?_; rintro _ w' ⟨rfl,hw⟩; obtain rfl:=hw))
 go_wp2_with fail
 obtain ⟨t0,t1,t2,c4⟩:=Uh H4
 generalize ((w4.setCell ⟨wb.heap.size,0,none⟩ (.bool false)).setCell ⟨wb.heap.size,1,none⟩ (.slice az nz cz)).setCell ⟨wb.heap.size,2,none⟩ (.slice bz mz dz) = wk at *
 refine bodyPost_ret (by simp [results,Tryz.results14,go_sem,t0,t1,t2]; try rfl) rfl ?_
 have hn:=(Uh HF).n az nz cz xm bz mz dz ym mM1
 have hb:=(Uh HF).bel
 exact ⟨az,nz,cz,bz,mz,dz,rfl,(hn.num.chg c4 (fun p hp _ => (Uh HNE).1 p hp)).below (Below.refl _ _).drew,(hn.den.chg c4 (fun p hp _ => (Uh HNE).2 p hp)).below (Below.refl _ _).drew,(hb.trans (c4.below hb.size (fun k hk h => by have:=Uh HW; omega))).drew⟩
end Go.Proofs.YtlolnaegfponeaaGreatDoor
