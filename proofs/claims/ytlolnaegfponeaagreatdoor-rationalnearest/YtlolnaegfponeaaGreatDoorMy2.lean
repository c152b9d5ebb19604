/- Rf1 -/
import Derived.Test.YtlolnaegfponeaaGreatDoorRv3
import Derived.StillTailTactics
import Derived.Test.YtlolnaegfponeaaGreatDoorWic
import Derived.Test.YtlolnaegfponeaaGreatDoorWip
import Derived.Test.YtlolnaegfponeaaGreatDoorRz5
import Derived.Test.YtlolnaegfponeaaGreatDoorWil
import Derived.Test.YtlolnaegfponeaaGreatDoorLawSt
import Derived.Test.YtlolnaegfponeaaGreatDoorRl2
import Derived.Test.YtlolnaegfponeaaGreatDoorWin
import Derived.Test.YtlolnaegfponeaaGreatDoorRz3
import Derived.Test.YtlolnaegfponeaaGreatDoorWra
import Derived.Test.YtlolnaegfponeaaGreatDoorRa3
import Derived.Test.YtlolnaegfponeaaGreatDoorWr7
import Derived.Test.YtlolnaegfponeaaGreatDoorRz2
import Derived.Test.YtlolnaegfponeaaGreatDoorGb
import Derived.Test.YtlolnaegfponeaaGreatDoorCmp
namespace Go.Proofs.YtlolnaegfponeaaGreatDoor
open Go.RowKit Go.Deep
set_option linter.unusedVariables false
structure Quad (w:World) (R:Nat) (v0 v1 v2 v3:Value):Prop where
 tri:Tri w R v0 v1 v2
 c3:w.cell? ⟨R,3,none⟩ = some v3
 f3:w.frozen? ⟨R,3,none⟩ = false
theorem Quad.keep {w w':World} {R:Nat} {v0 v1 v2 v3:Value} (h:Quad w R v0 v1 v2 v3) (k:Below w.heap.size w w'):Quad w' R v0 v1 v2 v3:=by
 have hc:w'.cell? ⟨R,3,none⟩ = w.cell? ⟨R,3,none⟩:=by unfold World.cell?; simp only; rw [k.block _ h.tri.lt]
 have hf:w'.frozen? ⟨R,3,none⟩ = w.frozen? ⟨R,3,none⟩:=by unfold World.frozen?; simp only; rw [k.block _ h.tri.lt]
 exact ⟨h.tri.keep k,hc.trans h.c3,hf.trans h.f3⟩
theorem Quad.made (w:World) (v0 v1 v2 v3:Value) (e:TypeId):Quad (w.alloc (.cells #[v0,v1,v2,v3] e)) w.heap.size v0 v1 v2 v3:=by
 refine ⟨⟨?_,?_,?_,?_,?_,?_,?_⟩,?_,?_⟩ <;> simp
def fQ (R:Nat) (v0 v1 v2 v3:Value):Fct:=⟨fun w => Quad w R v0 v1 v2 v3,fun k h => h.keep k⟩
theorem Fcts.q {w0 w:World} {L:List Fct} (h:Fcts w0 w L) (R:Nat) (v0 v1 v2 v3:Value) (hm:fQ R v0 v1 v2 v3 ∈ L):Quad w R v0 v1 v2 v3:=h.all _ hm

structure Fr (g:Bool) (x y:List Nat) (P Q:Int):Prop where
 may:MayR g x y = true
 pos:0 < Q
 eq:nI g (val x) * Q = P * (val y:Int)
theorem Fr.self {g:Bool} {x y:List Nat} (h:MayR g x y = true):Fr g x y (nI g (val x)) (val y:Int):=⟨h,posI h,rfl⟩
theorem Fr.add {g1 g2 g:Bool} {x1 y1 x2 y2 x y:List Nat} {P1 Q1 P2 Q2:Int} (h1:Fr g1 x1 y1 P1 Q1) (h2:Fr g2 x2 y2 P2 Q2) (e:AddF g1 x1 y1 g2 x2 y2 = ((g,x,y),0)):Fr g x y (P1 * Q2 + P2 * Q1) (Q1 * Q2):=by
 obtain ⟨g',N,D,e2,m,hD,hv⟩:=addF_ok h1.may h2.may (by rw [e])
 rw [e] at e2
 cases e2
 have yp1:=posI h1.may
 have yp2:=posI h2.may
 refine ⟨m,Int.mul_pos h1.pos h2.pos,?_⟩
 rw [(limbs_rep N).val,(limbs_rep D).val]
 have k1:=h1.eq
 have k2:=h2.eq
 refine Int.eq_of_mul_eq_mul_right (Int.ne_of_gt (Int.mul_pos yp1 yp2)) ?_
 have a1:nI g N * (Q1 * Q2) * ((val y1:Int) * (val y2:Int)) = nI g N * ((val y1:Int) * (val y2:Int)) * (Q1 * Q2):=by ac_rfl
 rw [a1,hv]
 have a2:(nI g1 (val x1) * (val y2:Int) + nI g2 (val x2) * (val y1:Int)) * (D:Int) * (Q1 * Q2) = (nI g1 (val x1) * Q1) * ((val y2:Int) * Q2 * (D:Int)) + (nI g2 (val x2) * Q2) * ((val y1:Int) * Q1 * (D:Int)):=by
  rw [Int.add_mul,Int.add_mul]
  congr 1
  ·ac_rfl
  ·ac_rfl
 rw [a2,k1,k2,Int.add_mul,Int.add_mul]
 congr 1
 ·ac_rfl
 ·ac_rfl
theorem Fr.mul {g1 g2 g:Bool} {x1 y1 x2 y2 x y:List Nat} {P1 Q1 P2 Q2:Int} (h1:Fr g1 x1 y1 P1 Q1) (h2:Fr g2 x2 y2 P2 Q2) (e:MulF g1 x1 y1 g2 x2 y2 = ((g,x,y),0)):Fr g x y (P1 * P2) (Q1 * Q2):=by
 obtain ⟨g',N,D,e2,m,hD,hv⟩:=mulF_ok h1.may h2.may (by rw [e])
 rw [e] at e2
 cases e2
 have yp1:=posI h1.may
 have yp2:=posI h2.may
 refine ⟨m,Int.mul_pos h1.pos h2.pos,?_⟩
 rw [(limbs_rep N).val,(limbs_rep D).val]
 have k1:=h1.eq
 have k2:=h2.eq
 refine Int.eq_of_mul_eq_mul_right (Int.ne_of_gt (Int.mul_pos yp1 yp2)) ?_
 have a1:nI g N * (Q1 * Q2) * ((val y1:Int) * (val y2:Int)) = nI g N * ((val y1:Int) * (val y2:Int)) * (Q1 * Q2):=by ac_rfl
 rw [a1,hv]
 have a2:nI g1 (val x1) * nI g2 (val x2) * (D:Int) * (Q1 * Q2) = (nI g1 (val x1) * Q1) * (nI g2 (val x2) * Q2) * (D:Int):=by ac_rfl
 rw [a2,k1,k2]
 ac_rfl
structure Vl (w:World) (g:Bool) (a:Option Addr) (n c:Nat) (x:List Nat) (b:Option Addr) (m d:Nat) (y:List Nat) (k:Bool) (P Q:Int):Prop where
 nm:Nm w a n c x b m d y
 ox:Ok x
 oy:Ok y
 fr:k = true → Fr g x y P Q
def fV (g:Bool) (a:Option Addr) (n c:Nat) (x:List Nat) (b:Option Addr) (m d:Nat) (y:List Nat) (k:Bool) (P Q:Int):Fct:=⟨fun w => Vl w g a n c x b m d y k P Q,fun h v => ⟨⟨v.nm.num.below h,v.nm.den.below h⟩,v.ox,v.oy,v.fr⟩⟩
theorem Fcts.v {w0 w:World} {L:List Fct} (h:Fcts w0 w L) {g:Bool} {a:Option Addr} {n c:Nat} {x:List Nat} {b:Option Addr} {m d:Nat} {y:List Nat} {k:Bool} {P Q:Int} (hm:fV g a n c x b m d y k P Q ∈ L):Vl w g a n c x b m d y k P Q:=h.all _ hm






def AbsF (g:Bool) (x y:List Nat):(Bool × List Nat × List Nat) × Int:=if MayR g x y = true then ((false,x,y),0) else ((false,[],[]),40)
theorem ratAbs_F (g:Bool) (a b:Option Addr) (n c m d:Nat) (x y:List Nat) (w:World) (hx:Sl w a n c x) (hy:Sl w b m d y) (ox:Ok x) (oy:Ok y) (hT:Tab64 w) :
  Calls Tryz.prog 36 #[ratV g a n c b m d] w fun e w' => ResF w w' (AbsF g x y) e :=
 (ratAbs_any g a b n c m d x y w hx hy ox oy hT).mono (fun e w' hr => by
  unfold AbsF ResF
  cases h:MayR g x y <;> rw [h] at hr <;> simpa using hr)
theorem lv (v:Nat):val (limbs v) = v:=(limbs_rep v).val
theorem gcd_cancel {N M P Q:Nat} (hM:0 < M) (h:N * Q = P * M):N / Nat.gcd N M * Q = P * (M / Nat.gcd N M):=by
 have hg:0 < Nat.gcd N M:=Nat.gcd_pos_of_pos_right _ hM
 obtain ⟨n,hn⟩:=Nat.gcd_dvd_left N M
 obtain ⟨m,hm⟩:=Nat.gcd_dvd_right N M
 generalize Nat.gcd N M = d at *
 subst hn hm
 rw [Nat.mul_div_cancel_left _ hg,Nat.mul_div_cancel_left _ hg]
 refine Nat.eq_of_mul_eq_mul_left hg ?_
 rw [← Nat.mul_assoc,h,Nat.mul_left_comm]
theorem fr_low {sg:Bool} {N M P Q:Nat} (hN:(limbs N).length ≤ 2048) (hM:(limbs M).length ≤ 2048) (hp:0 < M) (hQ:0 < Q) (h:N * Q = P * M):Fr (sg && decide (limbs N ≠ [])) (limbs (N / Nat.gcd N M)) (limbs (M / Nat.gcd N M)) (nI sg P) (Q:Int):=by
 have hg:0 < Nat.gcd N M:=Nat.gcd_pos_of_pos_right _ hp
 have e:decide (limbs N ≠ []) = decide (N / Nat.gcd N M ≠ 0):=by
  by_cases h0:N = 0
  ·subst h0
   rw [limbs_zero,Nat.zero_div]
   rfl
  ·have h1:limbs N ≠ []:=by rw [Ne,limbs_eq_nil]; exact h0
   have h2:0 < N / Nat.gcd N M:=Nat.div_pos (Nat.gcd_le_left _ (by omega)) hg
   simp [h1,Nat.ne_of_gt h2]
 have small:∀ {Z g:Nat},(limbs Z).length ≤ 2048 → bigN (Z / g) = false:=by
  intro Z g hz
  have h1:=limbs_mono (Nat.div_le_self Z g)
  unfold bigN
  simp
  omega
 rw [e]
 have hco:Nat.gcd (N / Nat.gcd N M) (M / Nat.gcd N M) = 1:=Nat.gcd_div_gcd_div_gcd_of_pos_right hp
 refine ⟨mayR_mk (small hN) (small hM) (Nat.div_pos (Nat.gcd_le_right _ hp) hg) hco,by omega,?_⟩
 rw [lv,lv,nI_and,← nI_mul,← nI_mul,gcd_cancel hp h]
theorem ff_fr {b:Nat} (he:exB b ≠ 2047):∃ g x y,FfF b = ((g,x,y),0) ∧ Ok x ∧ Ok y ∧ Fr g x y (nI (decide (9223372036854775808 ≤ b)) (flV b)) ((2 ^ kB:Nat):Int):=by
 have hl:=exB_lt b
 have hn:=ffN_lt b
 have hk:=kB_eq
 have l1:(limbs (ffN b)).length ≤ 2:=limbs_len (by omega)
 have hQ:=Nat.two_pow_pos kB
 have hE:ffE b ≤ 2045:=by unfold ffE; omega
 unfold FfF
 rw [if_neg he]
 by_cases h1:1074 ≤ ffE b
 ·rw [if_pos h1]
  have l2:=limbs_pow_len (ffN b) (ffE b - 1074)
  rw [lowF_small (by omega) (by decide) (by decide)]
  refine ⟨_,_,_,rfl,limbs_ok _,limbs_ok _,fr_low (by omega) (by decide) (by decide) hQ ?_⟩
  unfold flV
  rw [Nat.mul_one,Nat.mul_assoc,← Nat.pow_add,show ffE b - 1074 + kB = ffE b by omega]
 ·rw [if_neg h1]
  have l2:=limbs_two_len (1074 - ffE b)
  rw [lowF_small (by omega) (by omega) (Nat.two_pow_pos _)]
  refine ⟨_,_,_,rfl,limbs_ok _,limbs_ok _,fr_low (by omega) (by omega) (Nat.two_pow_pos _) hQ ?_⟩
  unfold flV
  rw [Nat.mul_assoc,← Nat.pow_add,show ffE b + (1074 - ffE b) = kB by omega]
theorem may_false {g:Bool} {x y:List Nat} (h:MayR g x y = true):MayR false x y = true:=by
 unfold MayR at h ⊢
 simp only [Bool.and_eq_true] at h ⊢
 exact ⟨⟨h.1.1,by simp⟩,h.2⟩
theorem nI_abs (g:Bool) (v:Nat):(nI g v).natAbs = v:=by cases g <;> simp [nI]
theorem nI_dif (g:Bool) (a b:Nat):(nI g a - nI g b).natAbs = dif a b:=by
 unfold dif
 cases g <;> simp [nI] <;> omega
theorem gap_is {g g' gs:Bool} {x y x' y' xs ys:List Nat} {F Q:Nat} (h:MayR g x y = true) (hr:Fr g' x' y' (nI g F) (Q:Int)) (hs:SubF g x y g' x' y' = ((gs,xs,ys),0)):MayR gs xs ys = true ∧ MayR false xs ys = true ∧ Ok xs ∧ Ok ys ∧ val xs * (val y * Q) = dif (val x * Q) (F * val y) * val ys:=by
 obtain ⟨g0,N,D,e,m,hD,hv⟩:=subF_ok h hr.may (by rw [hs])
 rw [hs] at e
 cases e
 refine ⟨m,may_false m,limbs_ok _,limbs_ok _,?_⟩
 rw [lv,lv]
 have y2p:=posI hr.may
 have hreq:=hr.eq
 have h1:nI gs N * ((val y:Int) * (Q:Int)) = (nI g (val x) * (Q:Int) - nI g F * (val y:Int)) * (D:Int):=by
  refine Int.eq_of_mul_eq_mul_right (Int.ne_of_gt y2p) ?_
  generalize nI gs N = n at *
  generalize nI g (val x) = a at *
  generalize nI g' (val x') = b at *
  generalize nI g F = f at *
  generalize (val y:Int) = Y at *
  generalize (val y':Int) = Y' at *
  generalize (Q:Int) = q at *
  generalize (D:Int) = d at *
  grind
 have h2:=congrArg Int.natAbs h1
 rw [← nI_mul,← nI_mul] at h2
 simp only [Int.natAbs_mul,nI_abs,nI_dif,Int.natAbs_natCast] at h2
 exact h2
theorem cmp_dif {x1 y1 x2 y2:List Nat} {W d0 d1:Nat} (h1:MayR false x1 y1 = true) (h2:MayR false x2 y2 = true) (hW:0 < W) (e1:val x1 * W = d0 * val y1) (e2:val x2 * W = d1 * val y2):CmpF false x1 y1 false x2 y2 = Int.sign ((d0:Int) - (d1:Int)):=by
 rw [cmpF_may h1 h2]
 have p1:=posI h1
 have p2:=posI h2
 have e1':(val x1:Int) * (W:Int) = (d0:Int) * (val y1:Int):=by exact_mod_cast e1
 have e2':(val x2:Int) * (W:Int) = (d1:Int) * (val y2:Int):=by exact_mod_cast e2
 have hW':(0:Int) < (W:Int):=by omega
 have e3:(nI false (val x1) * (val y2:Int) - nI false (val x2) * (val y1:Int)) * (W:Int) = ((d0:Int) - (d1:Int)) * ((val y1:Int) * (val y2:Int)):=by
  simp only [nI,Bool.false_eq_true,if_false]
  generalize (val x1:Int) = a at *
  generalize (val x2:Int) = b at *
  generalize (val y1:Int) = c at *
  generalize (val y2:Int) = d at *
  grind
 have e4:=congrArg Int.sign e3
 rw [Int.sign_mul,Int.sign_mul,Int.sign_eq_one_of_pos hW',Int.sign_eq_one_of_pos (Int.mul_pos p1 p2),Int.mul_one,Int.mul_one] at e4
 exact e4
theorem cmbV_le (g1 g2:Bool) (a b:Nat):(cmbV g1 a g2 b).1 ≤ a + b:=by
 unfold cmbV
 repeat' (first | split | (simp only; omega) | omega)
theorem addF_fit {g1 g2:Bool} {x1 y1 x2 y2:List Nat} {p q:Nat} (h1:MayR g1 x1 y1 = true) (h2:MayR g2 x2 y2 = true) (hx1:val x1 < 4294967296 ^ p) (hx2:val x2 < 4294967296 ^ p) (hy1:val y1 < 4294967296 ^ q) (hy2:val y2 < 4294967296 ^ q) (hp:p + q + 1 ≤ 2048) (hq:q + q ≤ 2048) :
  ∃ g N D,AddF g1 x1 y1 g2 x2 y2 = ((g,limbs N,limbs D),0) ∧ N < 4294967296 ^ (p + q + 1) ∧ D < 4294967296 ^ (q + q):=by
 have yp1:=mayR_pos h1
 have yp2:=mayR_pos h2
 have hG:0 < adG y1 y2:=by unfold adG; exact Nat.gcd_pos_of_pos_left _ yp1
 have hN:adN g1 x1 y1 g2 x2 y2 < 4294967296 ^ (p + q + 1):=by
  have a1:adN g1 x1 y1 g2 x2 y2 ≤ (adS g1 x1 y1 g2 x2 y2).1:=Nat.div_le_self _ _
  have a2:(adS g1 x1 y1 g2 x2 y2).1 ≤ val x1 * (val y2 / adG y1 y2) + val x2 * (val y1 / adG y1 y2):=cmbV_le _ _ _ _
  have a3:val x1 * (val y2 / adG y1 y2) ≤ val x1 * val y2:=Nat.mul_le_mul_left _ (Nat.div_le_self _ _)
  have a4:val x2 * (val y1 / adG y1 y2) ≤ val x2 * val y1:=Nat.mul_le_mul_left _ (Nat.div_le_self _ _)
  have a5:val x1 * val y2 < 4294967296 ^ p * 4294967296 ^ q:=Nat.mul_lt_mul'' hx1 hy2
  have a6:val x2 * val y1 < 4294967296 ^ p * 4294967296 ^ q:=Nat.mul_lt_mul'' hx2 hy1
  rw [Nat.pow_succ,Nat.pow_add]
  generalize 4294967296 ^ p * 4294967296 ^ q = Bq at *
  omega
 have hD:adD g1 x1 y1 g2 x2 y2 < 4294967296 ^ (q + q):=by
  have a1:adG y1 y2 / adC g1 x1 y1 g2 x2 y2 ≤ adG y1 y2:=Nat.div_le_self _ _
  have a2:val y2 / adG y1 y2 * (adG y1 y2 / adC g1 x1 y1 g2 x2 y2) ≤ val y2:=Nat.le_trans (Nat.mul_le_mul_left _ a1) (Nat.div_mul_le_self _ _)
  have a3:val y1 / adG y1 y2 ≤ val y1:=Nat.div_le_self _ _
  have a4:adD g1 x1 y1 g2 x2 y2 ≤ val y1 * val y2:=by
   unfold adD
   rw [Nat.mul_assoc]
   exact Nat.mul_le_mul a3 a2
  have a5:val y1 * val y2 < 4294967296 ^ q * 4294967296 ^ q:=Nat.mul_lt_mul'' hy1 hy2
  rw [Nat.pow_add]
  omega
 have l1:=limbs_len hN
 have l2:=limbs_len hD
 have b1:bigN (adN g1 x1 y1 g2 x2 y2) = false:=by unfold bigN; simp; omega
 have b2:bigN (adD g1 x1 y1 g2 x2 y2) = false:=by unfold bigN; simp; omega
 refine ⟨(adS g1 x1 y1 g2 x2 y2).2 && decide (adN g1 x1 y1 g2 x2 y2 ≠ 0),adN g1 x1 y1 g2 x2 y2,adD g1 x1 y1 g2 x2 y2,?_,hN,hD⟩
 unfold AddF
 rw [h1,h2,b1,b2]
 rfl
def kP:Nat:=975
theorem kP_eq:kP = 975:=rfl
theorem ff_big {b U R:Nat} (h:b = U * 4503599627370496 + R) (h1:4503599627370496 ≤ R) (h2:R < 9007199254740992) (hU:U ≤ 2045) (hU2:1074 ≤ U):∃ g x y,FfF b = ((g,x,y),0) ∧ Ok x ∧ Ok y ∧ Fr g x y ((R * 2 ^ U:Nat):Int) ((2 ^ kB:Nat):Int) ∧ val x < 4294967296 ^ kP ∧ val y < 4294967296 ^ 1:=by
 have e:exB b = U + 1:=by unfold exB; omega
 have f:frB b = R - 4503599627370496:=by unfold frB; omega
 have hN:ffN b = R:=by unfold ffN; rw [e,f,if_neg (by omega)]; omega
 have hE:ffE b = U:=by unfold ffE; rw [e]; omega
 have hs:decide (9223372036854775808 ≤ b) = false:=by simp; omega
 have hV:flV b = R * 2 ^ U:=by unfold flV; rw [hN,hE]
 have hk:=kB_eq
 have l1:(limbs R).length ≤ 2:=limbs_len (by omega)
 have l2:=limbs_pow_len R (U - 1074)
 have hF:FfF b = lowF false (R * 2 ^ (U - 1074)) 1:=by
  unfold FfF
  rw [e,hE,hN,hs,if_neg (by omega),if_pos hU2]
 rw [hF,lowF_small (by omega) (by decide) (by decide)]
 refine ⟨_,_,_,rfl,limbs_ok _,limbs_ok _,?_,?_,?_⟩
 ·have:=fr_low (sg:=false) (N:=R * 2 ^ (U - 1074)) (M:=1) (P:=R * 2 ^ U) (Q:=2 ^ kB) (by omega) (by decide) (by decide) (Nat.two_pow_pos kB) (by
   rw [Nat.mul_one,Nat.mul_assoc,← Nat.pow_add,show U - 1074 + kB = U by omega])
  exact this
 ·rw [lv]
  have h3:=limbs_lt (R * 2 ^ (U - 1074))
  have h4:4294967296 ^ (limbs (R * 2 ^ (U - 1074))).length ≤ 4294967296 ^ kP:=Nat.pow_le_pow_right (by decide) (by have:=kP_eq; omega)
  exact Nat.lt_of_le_of_lt (Nat.div_le_self _ _) (Nat.lt_of_lt_of_le h3 h4)
 ·rw [lv]
  have:1 / Nat.gcd (R * 2 ^ (U - 1074)) 1 ≤ 1:=Nat.div_le_self _ _
  omega
theorem sgn_nn {z:Int} (h:0 ≤ z):0 ≤ Int.sign z:=by
 rcases Int.lt_or_eq_of_le h with k | k
 ·rw [Int.sign_eq_one_of_pos k]; decide
 ·rw [← k]; decide
theorem fr_ge {g1 g2:Bool} {x1 y1 x2 y2:List Nat} {P1 Q1 P2 Q2:Int} (h1:Fr g1 x1 y1 P1 Q1) (h2:Fr g2 x2 y2 P2 Q2) (h:P2 * Q1 ≤ P1 * Q2):0 ≤ CmpF g1 x1 y1 g2 x2 y2:=by
 rw [cmpF_may h1.may h2.may]
 have yp1:=posI h1.may
 have yp2:=posI h2.may
 have k1:=h1.eq
 have k2:=h2.eq
 have e3:(nI g1 (val x1) * (val y2:Int) - nI g2 (val x2) * (val y1:Int)) * (Q1 * Q2) = (P1 * Q2 - P2 * Q1) * ((val y1:Int) * (val y2:Int)):=by
  generalize nI g1 (val x1) = a at *
  generalize nI g2 (val x2) = b at *
  generalize (val y1:Int) = c at *
  generalize (val y2:Int) = d at *
  grind
 have e4:=congrArg Int.sign e3
 rw [Int.sign_mul _ (Q1 * Q2),Int.sign_mul _ ((val y1:Int) * (val y2:Int)),Int.sign_eq_one_of_pos (Int.mul_pos h1.pos h2.pos),Int.sign_eq_one_of_pos (Int.mul_pos yp1 yp2),Int.mul_one,Int.mul_one] at e4
 rw [e4]
 exact sgn_nn (by omega)
theorem beyond_all {g:Bool} {x y:List Nat} (ox:Ok x) (oy:Ok y) (h:MayR g x y = true) (ex:x ≠ []) (hf:flN (bitsN x) (bitsN y) (val x) (val y) = 9218868437227405312) :
  ∃ g1 x1 y1 g2 x2 y2 g3 x3 y3 g4 x4 y4,FfF 9218868437227405311 = ((g1,x1,y1),0) ∧ FfF 9214364837600034816 = ((g2,x2,y2),0) ∧ AddF g2 x2 y2 g2 x2 y2 = ((g3,x3,y3),0) ∧ AddF g1 x1 y1 g3 x3 y3 = ((g4,x4,y4),0) ∧ AbsF g x y = ((false,x,y),0) ∧ Ok x1 ∧ Ok y1 ∧ Ok x2 ∧ Ok y2 ∧ Ok x3 ∧ Ok y3 ∧ Ok x4 ∧ Ok y4 ∧
   ∀ g5 x5 y5,AddF false x y false x y = ((g5,x5,y5),0) → 0 ≤ CmpF g5 x5 y5 g4 x4 y4:=by
 obtain ⟨g1,x1,y1,e1,o1,p1,f1,b1,c1⟩:=ff_big (b:=9218868437227405311) (U:=kT) (R:=9007199254740991) (by unfold kT; decide) (by decide) (by decide) (by unfold kT; decide) (by unfold kT; decide)
 obtain ⟨g2,x2,y2,e2,o2,p2,f2,b2,c2⟩:=ff_big (b:=9214364837600034816) (U:=kT) (R:=4503599627370496) (by unfold kT; decide) (by decide) (by decide) (by unfold kT; decide) (by unfold kT; decide)
 obtain ⟨g3,N3,D3,e3,b3,c3⟩:=addF_fit (p:=kP) (q:=1) f2.may f2.may b2 b2 c2 c2 (by unfold kP; decide) (by decide)
 have f3:=f2.add f2 e3
 obtain ⟨g4,N4,D4,e4,b4,c4⟩:=addF_fit (p:=kP + 1 + 1) (q:=1 + 1) f1.may f3.may (Nat.lt_of_lt_of_le b1 (Nat.pow_le_pow_right (by decide) (by omega))) (by rw [lv]; exact b3) (Nat.lt_of_lt_of_le c1 (Nat.pow_le_pow_right (by decide) (by decide))) (by rw [lv]; exact c3) (by unfold kP; decide) (by decide)
 have f4:=f1.add f3 e4
 obtain ⟨kx,ky,ey,_,_⟩:=MayR.parts h
 refine ⟨g1,x1,y1,g2,x2,y2,g3,_,_,g4,_,_,e1,e2,e3,e4,by unfold AbsF; rw [if_pos h],o1,p1,o2,p2,limbs_ok _,limbs_ok _,limbs_ok _,limbs_ok _,?_⟩
 intro g5 x5 y5 e5
 have hm:=may_false h
 have f5:=(Fr.self hm).add (Fr.self hm) e5
 refine fr_ge f5 f4 ?_
 have hi:=flN_inf ox oy kx ky ex ey hf
 have hi':(18014398509481983:Int) * ((val y:Int) * ((2 ^ kT:Nat):Int)) ≤ 2 * ((val x:Int) * ((2 ^ kB:Nat):Int)):=by
  generalize 2 ^ kT = T at *
  generalize 2 ^ kB = k at *
  have h1:=Int.ofNat_le.2 hi
  simp only [Int.natCast_mul] at h1
  exact h1
 have hk:(0:Int) < ((2 ^ kB:Nat):Int):=by have:=Nat.two_pow_pos kB; omega
 have hy:(0:Int) < (val y:Int):=posI h
 rw [Int.natCast_mul,Int.natCast_mul]
 simp only [nI,Bool.false_eq_true,if_false]
 generalize ((2 ^ kB:Nat):Int) = k at *
 generalize ((2 ^ kT:Nat):Int) = T at *
 generalize (val x:Int) = X at *
 generalize (val y:Int) = Y at *
 have h1:(18014398509481983 * (Y * T)) * (Y * (k * k)) ≤ (2 * (X * k)) * (Y * (k * k)):=Int.mul_le_mul_of_nonneg_right hi' (Int.le_of_lt (Int.mul_pos hy (Int.mul_pos hk hk)))
 have h2:(((9007199254740991:Nat):Int) * T * (k * k) + (((4503599627370496:Nat):Int) * T * k + ((4503599627370496:Nat):Int) * T * k) * k) * (Y * Y) = (18014398509481983 * (Y * T)) * (Y * (k * k)):=by grind
 have h3:(X * Y + X * Y) * (k * (k * k)) = (2 * (X * k)) * (Y * (k * k)):=by grind
 rw [h2,h3]
 exact h1
def NewRz (w w':World) (g:Bool) (xs ys:List Nat) (v:Value):Prop:=∃ aN mN cN aD mD cD,v = ratV g aN mN cN aD mD cD ∧ (aN = none → cN = 0) ∧ (aD = none → cD = 0) ∧ Sl w' aN mN cN xs ∧ Sl w' aD mD cD ys ∧ NewAt w.heap.size aN ∧ NewAt w.heap.size aD ∧ Below w.heap.size w w'
theorem NewRz.new {w w':World} {g:Bool} {xs ys:List Nat} {v:Value} (h:NewRz w w' g xs ys v):NewR w w' g xs ys v:=by
 obtain ⟨aN,mN,cN,aD,mD,cD,e,_,_,h1,h2,h3,h4,h5⟩:=h
 exact ⟨aN,mN,cN,aD,mD,cD,e,h1,h2,h3,h4,h5⟩


theorem or_top {v:Nat} (h:v < 9223372036854775808):bits .or .u64 9223372036854775808 (v:Int) = ((9223372036854775808 + v:Nat):Int):=by
 have h1:=u64_or_nat 9223372036854775808 v (by decide) (by omega)
 have h2:9223372036854775808 ||| v = 9223372036854775808 + v:=by
  have:=Nat.two_pow_add_eq_or_of_lt (i:=63) (b:=v) (by omega) 1
  simpa using this.symm
 rw [h2] at h1
 exact h1
theorem or_none {v:Nat} (h:v < 18446744073709551616):bits .or .u64 0 (v:Int) = (v:Int):=by
 have h1:=u64_or_nat 0 v (by decide) h
 rw [Nat.zero_or] at h1
 exact h1
def IsTail (v t:Nat):Prop:=(v = 0 ∧ t = 0) ∨ (bitN v t = 1 ∧ ∀ j,j < t → bitN v j = 0)
theorem bitN_zero (j:Nat):bitN 0 j = 0:=by unfold bitN; rw [Nat.zero_div]
theorem IsTail.unique {v t s:Nat} (h:IsTail v t) (k:IsTail v s):t = s:=by
 rcases h with ⟨h0,h1⟩ | ⟨h0,h1⟩
 ·rcases k with ⟨_,k1⟩ | ⟨k0,_⟩
  ·omega
  ·rw [h0,bitN_zero] at k0; omega
 ·rcases k with ⟨k0,_⟩ | ⟨k0,k1⟩
  ·rw [k0,bitN_zero] at h0; omega
  ·rcases Nat.lt_trichotomy t s with e | e | e
   ·have:=k1 t e; omega
   ·exact e
   ·have:=h1 s e; omega

theorem tail_limb {xs:List Nat} (ox:Ok xs) {k:Nat} (h0:∀ i,i < k → xs.getD i 0 = 0) (hx:0 < xs.getD k 0):IsTail (val xs) (32 * k + tzN (xs.getD k 0)):=by
 have hb:=ox.getD k
 have ht:tzN (xs.getD k 0) = Lib.ntzAux 32 (xs.getD k 0):=by unfold tzN; rw [if_neg (by omega)]
 have hl:=tz_lt 32 _ hx hb
 have hz:=tz_bit 32 _ hx hb
 rw [← ht] at hl hz
 right
 constructor
 ·rw [bit_limb ox (l:=k) (s:=tzN (xs.getD k 0)) (by omega) (by omega)]
  exact hz.1
 ·intro j hj
  rw [bit_limb ox (l:=j / 32) (s:=j % 32) rfl rfl]
  rcases Nat.lt_or_ge (j / 32) k with e | e
  ·rw [h0 _ e,Nat.zero_div]
  ·have e2:j / 32 = k:=by omega
   rw [e2]
   exact hz.2 _ (by omega)
theorem tail_none {xs:List Nat} {n:Nat} (hl:xs.length = n) (h0:∀ i,i < n → xs.getD i 0 = 0):IsTail (val xs) 0:=by
 left
 refine ⟨?_,rfl⟩
 rw [← valF_list,hl,valF_congr (g:=fun _ => 0) h0,valF_zero]

def TailPost (w:World) (xs:List Nat) (e:Ending) (w':World):Prop:=∃ t:Nat,t ≤ 65536 ∧ IsTail (val xs) t ∧ e = .returned (.int .i64 (t:Nat)) ∧ ∃ k,w' = w.drewN k

set_option maxHeartbeats 2000000 in
theorem ntail_any (a:Option Addr) (n c:Nat) (xs:List Nat) (w:World) (h:Sl w a n c xs) (ox:Ok xs) (m:MayL xs = true) (hT:Tab32 w) :
  Calls Tryz.prog 142 #[.slice a n c] w fun e w' => TailPost w xs e w':=by
 have KM:=may_any a n c xs w h
 rw [m] at KM
 have KM':=Hd KM
 have HL:=Hd h.len
 have hn:n ≤ 2048:=by have:=h.len; have:=MayL.len m; omega
 have H:=Hd h
 have HT:=Hd hT
 clear KM h m hT
 go_enter Tryz.func142,Tryz.ntmps142
 go_wp2_with fail
 refine (Uh KM').mono ?_
 rintro e w' ⟨rfl,hw⟩
 obtain rfl:=hw.symm
 go_wp2_with fail
 go_loop [9] (fun iv => ∃ k:Nat,k ≤ n ∧ iv = .int .i64 (k:Nat) ∧ Hid (∀ i,i < k → xs.getD i 0 = 0)) (fun iv => n - (intOf iv).toNat)
 case atStart => exact ⟨0,Nat.zero_le _,rfl,fun i hi => by omega⟩
 case round =>
  obtain ⟨k,hk,rfl,HZ⟩:=hrel
  by_cases hlt:k < n
  ·have hlt':(k:Int) < (n:Int):=by omega
   have hxne:xs ≠ []:=by intro e; have:=Uh HL; rw [e] at this; simp at this; omega
   obtain ⟨b1,o1,rfl,hx⟩:=(Uh H).cells.resolve_left hxne
   have g1:=hx k (by rw [Uh HL]; exact hlt)
   have bx:=ox.getD k
   by_cases h0:xs.getD k 0 = 0
   ·have HZ2:=Hd (show ∀ i,i < k + 1 → xs.getD i 0 = 0 from fun i hi => by
     by_cases e:i = k
     ·rw [e]; exact h0
     ·exact Uh HZ i (by omega))
    rw [h0] at g1
    clear hx hxne HZ h0 bx
    go_wp2_with fail
    exact ⟨⟨k + 1,by omega,by go_num,Uh HZ2⟩,by simp [intOf]; omega⟩
   ·have hp:0 < xs.getD k 0:=by omega
    have HR:=Hd (tail_limb ox (Uh HZ) hp)
    have KT:=Hd (fun v (hv:Tab32 v) => tz32_any (xs.getD k 0) v hp bx hv)
    have hl:tzN (xs.getD k 0) < 32:=by
     obtain ⟨_,_,_,_,_,_,_,_,_,_,hl⟩:=tz_facts hp bx
     exact hl
    generalize tzN (xs.getD k 0) = t at *
    generalize xs.getD k 0 = x at *
    have t1:((x:Int) == 0) = false:=by simp; omega
    have es:(k:Int) * 32 + (t:Int) = ((32 * k + t:Nat):Int):=by omega
    generalize hq:32 * k + t = q at *
    have hqb:q ≤ 65536:=by omega
    clear hq
    have t2:¬ (x:Int) = 0:=by omega
    clear hx hxne HZ
    go_wp2_with fail
    refine (Uh KT _ (Uh HT)).mono ?_
    rintro e w' ⟨rfl,hw⟩
    obtain rfl:=hw.symm
    go_wp2
    go_ret
    exact ⟨q,hqb,Uh HR,rfl,0,rfl⟩
  ·have hkn:k = n:=by omega
   subst hkn
   have hlt':¬ (k:Int) < (k:Int):=by omega
   have HR:=Hd (tail_none (Uh HL) (Uh HZ))
   clear HZ
   go_wp2
   go_ret
   exact ⟨0,by omega,Uh HR,rfl,0,rfl⟩
open Go.RowKit Go.Deep
set_option linter.unusedVariables false

set_option maxHeartbeats 1000000 in
theorem nbit_any (a:Option Addr) (n c:Nat) (xs:List Nat) (i:Nat) (w:World) (h:Sl w a n c xs) (ox:Ok xs) (m:MayL xs = true) (hi:i ≤ 9223372036854775807) :
  Calls Tryz.prog 102 #[.slice a n c,.int .i64 (i:Nat)] w fun e w' => e = .returned (.int .i64 (bitN (val xs) i:Nat)) ∧ w' = w:=by
 have K1:=may_any a n c xs w h
 rw [m] at K1
 have K1':=Hd K1
 have KL:=limbAt_any a n c xs ((i / 32:Nat):Int) w h (by omega)
 rw [show (((i / 32:Nat):Int)).toNat = i / 32 from Int.toNat_natCast _] at KL
 rw [bit_limb ox (l:=i / 32) (s:=i % 32) rfl rfl]
 have bx:=ox.getD (i / 32)
 generalize xs.getD (i / 32) 0 = x at *
 obtain ⟨l,hl⟩:∃ l,i / 32 = l:=⟨_,rfl⟩
 obtain ⟨s,hs⟩:∃ s,i % 32 = s:=⟨_,rfl⟩
 have hs32:s < 32:=by omega
 rw [hl] at KL
 rw [hs]
 have KL':=Hd KL
 have hl2:(i:Int).tdiv 32 = (l:Int):=by rw [Int.tdiv_eq_ediv_of_nonneg (by omega)]; omega
 have hs2:(i:Int).tmod 32 = (s:Int):=by rw [Int.tmod_eq_emod_of_nonneg (by omega)]; omega
 have hl3:(i:Int) / 32 = (l:Int):=by omega
 have hs3:(i:Int) % 32 = (s:Int):=by omega
 have hy:=shr_lt (s:=s) bx
 have e1:(x:Int) / 2 ^ s = ((x / 2 ^ s:Nat):Int):=by rw [Int.natCast_ediv,Int.natCast_pow]; rfl
 have e2:=and_one _ hy
 generalize x / 2 ^ s = y at *
 have hy2:y % 2 < 2:=Nat.mod_lt _ (by decide)
 generalize y % 2 = z at *
 clear K1 KL h m
 go_enter Tryz.func102,Tryz.ntmps102
 go_wp2_with fail
 refine (Uh K1').mono ?_
 rintro e w' ⟨rfl,hw⟩
 obtain rfl:=hw.symm
 go_wp2_with fail
 refine (Uh KL').mono ?_
 rintro e w' ⟨rfl,hw⟩
 obtain rfl:=hw.symm
 go_wp2
 go_ret
 exact ⟨rfl,rfl⟩
end Go.Proofs.YtlolnaegfponeaaGreatDoor
