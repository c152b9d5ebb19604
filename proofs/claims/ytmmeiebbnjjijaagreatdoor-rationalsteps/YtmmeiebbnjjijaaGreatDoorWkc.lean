/- Wr1 -/
import Derived.Test.YtmmeiebbnjjijaaGreatDoorCmp
import Derived.Test.YtmmeiebbnjjijaaGreatDoorUpd
import Derived.Test.YtmmeiebbnjjijaaGreatDoorMul
import Derived.Test.YtmmeiebbnjjijaaGreatDoorRd1
import Derived.Test.YtmmeiebbnjjijaaGreatDoorRa3
import Derived.Test.YtmmeiebbnjjijaaGreatDoorDv4
import Derived.Deep.LoopGhost
import Derived.Test.YtmmeiebbnjjijaaGreatDoorRa6
import Derived.Test.YtmmeiebbnjjijaaGreatDoorWkb
import Derived.Test.YtmmeiebbnjjijaaGreatDoorWil
import Derived.Test.YtmmeiebbnjjijaaGreatDoorWif
import Derived.Test.YtmmeiebbnjjijaaGreatDoorFo4
import Derived.Test.YtmmeiebbnjjijaaGreatDoorPa2
import Derived.Test.YtmmeiebbnjjijaaGreatDoorWij
import Derived.Deep.RegionHeld3
namespace Go.Proofs.YtmmeiebbnjjijaaGreatDoor
open Go.RowKit Go.Deep
set_option linter.unusedVariables false
theorem limbs_ok (v:Nat):Ok (limbs v):=(limbs_rep v).ok
theorem limbs_norm (v:Nat):Norm (limbs v):=(limbs_rep v).norm
theorem limbs_v (v:Nat):val (limbs v) = v:=(limbs_rep v).val
theorem limbs_len {v j:Nat} (hv:v < 4294967296 ^ j):(limbs v).length ≤ j:=by
 rcases Nat.lt_or_ge j (limbs v).length with k | k
 ·exfalso
  have hz:limbs v ≠ []:=by intro e; rw [e] at k; simp at k
  have h1:=val_ge_of_norm (limbs_norm v) hz
  rw [limbs_v] at h1
  have h2:4294967296 ^ j ≤ 4294967296 ^ ((limbs v).length - 1):=Nat.pow_le_pow_right (by decide) (by omega)
  omega
 ·exact k
theorem limbs_lt (v:Nat):v < 4294967296 ^ (limbs v).length:=by have:=val_lt (limbs_ok v); rwa [limbs_v] at this
section
variable {P:Program} {w:World}
end





theorem limbs_mono {a b:Nat} (h:a ≤ b):(limbs a).length ≤ (limbs b).length:=limbs_len (Nat.lt_of_le_of_lt h (limbs_lt b))



theorem newR_of {w wk wf:World} {R:Nat} {aN aD:Option Addr} {mN cN mD cD:Nat} {xs ys:List Nat} (hR:w.heap.size ≤ R) (hRk:R < wk.heap.size) (bel:Below w.heap.size w wk) (sN:Sl wk aN mN cN xs) (nN:NewAt (R + 1) aN) (sD:Sl wk aD mD cD ys) (nD:NewAt (R + 1) aD) (c4:Chg (fun j => j = R) wk wf) (g:Bool) :
  NewR w wf g xs ys (ratV g aN mN cN aD mD cD) :=
 ⟨aN,mN,cN,aD,mD,cD,rfl,sN.chg c4 (fun x hx _ h => by have:=nN x hx; omega),sD.chg c4 (fun x hx _ h => by have:=nD x hx; omega),fun x hx => by have:=nN x hx; omega,fun x hx => by have:=nD x hx; omega,bel.trans (c4.below bel.size (fun k hk => by omega))⟩
theorem six_set (w:World) (R T:Nat) (hne:R ≠ T) (u0 u1 u2 v0 v1 v2:Value) (h:Out w R) (k:Out w T) :
  ∃ wf,((((((w.setCell ⟨R,0,none⟩ u0).setCell ⟨R,1,none⟩ u1).setCell ⟨R,2,none⟩ u2).setCell ⟨T,0,none⟩ v0).setCell ⟨T,1,none⟩ v1).setCell ⟨T,2,none⟩ v2) = wf ∧
  (wf.cell? ⟨R,0,none⟩ = some u0 ∧ wf.cell? ⟨R,1,none⟩ = some u1 ∧ wf.cell? ⟨R,2,none⟩ = some u2) ∧ (wf.cell? ⟨T,0,none⟩ = some v0 ∧ wf.cell? ⟨T,1,none⟩ = some v1 ∧ wf.cell? ⟨T,2,none⟩ = some v2) ∧ Chg (fun j => j = R ∨ j = T) w wf:=by
 obtain ⟨t0,t1,t2,c1⟩:=three_set w R u0 u1 u2 h.cells
 generalize ((w.setCell ⟨R,0,none⟩ u0).setCell ⟨R,1,none⟩ u1).setCell ⟨R,2,none⟩ u2 = w1 at *
 obtain ⟨s0,s1,s2,c2⟩:=three_set w1 T v0 v1 v2 (fun i hi => by obtain ⟨v,hv⟩:=k.cells i hi; exact ⟨v,c1.cell (fun e => hne e.symm) hv⟩)
 generalize ((w1.setCell ⟨T,0,none⟩ v0).setCell ⟨T,1,none⟩ v1).setCell ⟨T,2,none⟩ v2 = w2 at *
 exact ⟨w2,rfl,⟨c2.cell (fun e => hne e) t0,c2.cell (fun e => hne e) t1,c2.cell (fun e => hne e) t2⟩,⟨s0,s1,s2⟩,(c1.mono (fun _ _ h => Or.inl h)).trans (c2.mono (fun _ _ h => Or.inr h))⟩
theorem newR_two {w wk wf:World} {R T:Nat} {aN aD:Option Addr} {mN cN mD cD:Nat} {xs ys:List Nat} (hR:w.heap.size ≤ R) (hT:R < T) (bel:Below w.heap.size w wk) (sN:Sl wk aN mN cN xs) (nN:NewAt (T + 1) aN) (sD:Sl wk aD mD cD ys) (nD:NewAt (T + 1) aD) (c4:Chg (fun j => j = R ∨ j = T) wk wf) (g:Bool) :
  NewR w wf g xs ys (ratV g aN mN cN aD mD cD) :=
 ⟨aN,mN,cN,aD,mD,cD,rfl,sN.chg c4 (fun x hx _ h => by have:=nN x hx; omega),sD.chg c4 (fun x hx _ h => by have:=nD x hx; omega),fun x hx => by have:=nN x hx; omega,fun x hx => by have:=nD x hx; omega,bel.trans (c4.below bel.size (fun k hk => by omega))⟩
def ResD (w w':World) (r:((Bool × List Nat × List Nat) × (Bool × List Nat × List Nat)) × Int) (e:Ending):Prop:=∃ v1 v2,e = .returned (.tuple #[v1,v2,.int .i64 r.2]) ∧ NewR w w' r.1.1.1 r.1.1.2.1 r.1.1.2.2 v1 ∧ NewR w w' r.1.2.1 r.1.2.2.1 r.1.2.2.2 v2
def dvX (x1 y1 y2:Nat):Nat:=x1 * (y2 / Nat.gcd y1 y2)
def dvY (y1 x2 y2:Nat):Nat:=y1 / Nat.gcd y1 y2 * x2
def dvQ (g:Bool) (x1 y1 x2 y2:Nat):Nat:=flQ g (dvX x1 y1 y2) (dvY y1 x2 y2)
def dvL (g:Bool) (x1 y1 x2 y2:Nat):Nat:=flL g (dvX x1 y1 y2) (dvY y1 x2 y2)
def dvN (g:Bool) (x1 y1 x2 y2:Nat):Nat:=dvL g x1 y1 x2 y2 / Nat.gcd (dvL g x1 y1 x2 y2) y2
def dvD (g:Bool) (x1 y1 x2 y2:Nat):Nat:=y1 / Nat.gcd y1 y2 * (y2 / Nat.gcd (dvL g x1 y1 x2 y2) y2)
def DivdG (g1 g2:Bool) (x1 y1 x2 y2:Nat):((Bool × List Nat × List Nat) × (Bool × List Nat × List Nat)) × Int :=
 if bigN (dvQ (g1 != g2) x1 y1 x2 y2) || bigN (dvN (g1 != g2) x1 y1 x2 y2) || bigN (dvD (g1 != g2) x1 y1 x2 y2) then (((false,[],[]),(false,[],[])),2)
 else ((((g1 != g2) && decide (dvQ (g1 != g2) x1 y1 x2 y2 ≠ 0),limbs (dvQ (g1 != g2) x1 y1 x2 y2),[1]),(g2 && decide (dvN (g1 != g2) x1 y1 x2 y2 ≠ 0),limbs (dvN (g1 != g2) x1 y1 x2 y2),limbs (dvD (g1 != g2) x1 y1 x2 y2))),0)
def DivdF (g1:Bool) (x1 y1:List Nat) (g2:Bool) (x2 y2:List Nat):((Bool × List Nat × List Nat) × (Bool × List Nat × List Nat)) × Int :=
 if MayR g1 x1 y1 && MayR g2 x2 y2 then (if x2 = [] then (((false,[],[]),(false,[],[])),3) else DivdG g1 g2 (val x1) (val y1) (val x2) (val y2)) else (((false,[],[]),(false,[],[])),40)
theorem small5 {x B:Nat} (h1:x < wD * wD) (hB:B < wD * wD):x * B < wD ^ 5:=by
 have h:=cmb_small (g1:=true) (g2:=true) (x2:=0) (A:=0) h1 hB (Nat.mul_pos wD_pos wD_pos) (Nat.mul_pos wD_pos wD_pos)
 unfold cmbV at h
 simpa using h
theorem wide_some {w:World} {a:Option Addr} {n c v:Nat} {ps:List Pc} (h:Wide w a n c v ps):decide (0 < n) = decide (v ≠ 0):=by
 by_cases hn:n = 0
 ·have:=wide_lt h
  rw [hn,Nat.pow_zero] at this
  simp [hn]; omega
 ·have h1:=wide_ge h (by omega)
  have:0 < wD ^ (n - 1):=Nat.pow_pos wD_pos
  rw [decide_eq_true (by omega),decide_eq_true (by omega)]
def ResF (w w':World) (r:(Bool × List Nat × List Nat) × Int) (e:Ending):Prop:=ResR w w' r.1.1 r.1.2.1 r.1.2.2 r.2 e


theorem flL_val {g1 g2:Bool} {X Y:Nat} (hY:0 < Y):nI g1 X + nI (!g1) (flQ (g1 != g2) X Y * Y) = nI g2 (flL (g1 != g2) X Y):=by
 have h:=Nat.div_add_mod X Y
 have hl:=Nat.mod_lt X hY
 rw [Nat.mul_comm] at h
 unfold flQ flL
 by_cases hz:X % Y = 0
 ·simp only [hz,ne_eq,not_true_eq_false,decide_false,Bool.and_false,Bool.false_eq_true,if_false]
  rw [hz] at h
  have e:X / Y * Y = X:=by omega
  rw [e]
  cases g1 <;> cases g2 <;> simp [nI] <;> omega
 ·have e2:(X / Y + 1) * Y = X / Y * Y + Y:=by rw [Nat.add_mul,Nat.one_mul]
  have k1:decide (X % Y ≠ 0) = true:=decide_eq_true hz
  rw [k1,Bool.and_true]
  by_cases hg:g1 = g2
  ·subst hg
   rw [show (g1 != g1) = false from by simp,if_neg (by decide),if_neg (by decide)]
   generalize X / Y * Y = M at *
   cases g1 <;> simp [nI] <;> omega
  ·obtain rfl:g2 = !g1:=by cases g1 <;> cases g2 <;> simp at hg ⊢
   rw [show (g1 != !g1) = true from by cases g1 <;> rfl,if_pos rfl,if_pos rfl]
   generalize (X / Y + 1) * Y = N2 at *
   generalize X / Y * Y = M at *
   cases g1 <;> simp [nI] <;> omega
theorem flL_cop {g:Bool} {X Y A:Nat} (hY:0 < Y) (hA:A ∣ Y) (h:Nat.gcd X A = 1):Nat.gcd (flL g X Y) A = 1:=by
 have hX:=Nat.div_add_mod X Y
 have hl:=Nat.mod_lt X hY
 have h1:Nat.gcd (flL g X Y) A ∣ flL g X Y:=Nat.gcd_dvd_left _ _
 have h2:Nat.gcd (flL g X Y) A ∣ A:=Nat.gcd_dvd_right _ _
 have h3:Nat.gcd (flL g X Y) A ∣ Y:=Nat.dvd_trans h2 hA
 have h4:Nat.gcd (flL g X Y) A ∣ X % Y:=by
  generalize Nat.gcd (flL g X Y) A = d at *
  unfold flL at h1
  split at h1
  ·have:=Nat.dvd_sub h3 h1
   rwa [show Y - (Y - X % Y) = X % Y by omega] at this
  ·exact h1
 have h5:Nat.gcd (flL g X Y) A ∣ X:=by
  have h7:=(Nat.dvd_add_right (Nat.dvd_mul_right_of_dvd h3 (X / Y))).2 h4
  rw [hX] at h7
  exact h7
 have h6:=Nat.dvd_gcd h5 h2
 rw [h] at h6
 exact Nat.dvd_one.1 h6
theorem cop_left {a b c:Nat} (h:c ∣ a) (h1:Nat.gcd a b = 1):Nat.gcd c b = 1:=by
 have:=Nat.dvd_gcd (Nat.dvd_trans (Nat.gcd_dvd_left c b) h) (Nat.gcd_dvd_right c b)
 rw [h1] at this
 exact Nat.dvd_one.1 this
theorem cop_right {a b c:Nat} (h:c ∣ b) (h1:Nat.gcd a b = 1):Nat.gcd a c = 1:=by
 rw [Nat.gcd_comm] at h1 ⊢
 exact cop_left h h1
theorem cop_both {a b c:Nat} (h1:Nat.gcd a b = 1) (h2:Nat.gcd a c = 1):Nat.gcd a (b * c) = 1:=Nat.Coprime.mul_right h1 h2
def rdQ (X Y:Nat):Nat:=if Y < X % Y + X % Y ∨ (Y = X % Y + X % Y ∧ X / Y % 2 = 1) then X / Y + 1 else X / Y
def RoundF (g:Bool) (x y:List Nat):(Bool × List Nat × List Nat) × Int:=if MayR g x y then (((g && decide (rdQ (val x) (val y) ≠ 0)),limbs (rdQ (val x) (val y)),[1]),0) else ((false,[],[]),40)
set_option maxHeartbeats 4000000 in
theorem roundsUp_any (al ad:Option Addr) (ml cl md cd:Nat) (xs ys:List Nat) (odd:Bool) (w:World) (h1:Sl w al ml cl xs) (h2:Sl w ad md cd ys) (ox:Ok xs) (oy:Ok ys) (kx:MayL xs = true) (ky:MayL ys = true) (hle:val xs ≤ val ys) :
  Calls Tryz.prog 49 #[.slice al ml cl,.slice ad md cd,.bool odd] w fun e w' => e = .returned (.bool (decide (val ys < val xs + val xs) || (decide (val ys = val xs + val xs) && odd))) ∧ Below w.heap.size w w':=by
 have K1:=nsub_any ad al md cd ml cl ys xs w h2 h1 oy ox
 rw [sub_fit ky kx hle] at K1
 have HK1:=Hd K1
 have HX:=Hd h1
 have mS:MayL (limbs (val ys - val xs)) = true:=may_small ky oy (Nat.sub_le _ _)
 have hC:cmpL xs (limbs (val ys - val xs)) = cmpN (val xs) (val ys - val xs):=by unfold cmpL; rw [kx,mS,(limbs_rep _).val]; rfl
 clear K1 h1 h2 kx ky mS
 rcases Nat.lt_trichotomy (val xs + val xs) (val ys) with h | h | h
 ·have HCV:=Hd (hC.trans (cmpN_lt (show val xs < val ys - val xs by omega)))
  rw [show (decide (val ys < val xs + val xs) || (decide (val ys = val xs + val xs) && odd)) = false from by rw [decide_eq_false (by omega),decide_eq_false (by omega)]; rfl]
  clear hC h hle
  go_enter Tryz.func49,Tryz.ntmps49
  go_wp2_with fail
  refine (Uh HK1).mono ?_
  rintro _ w1 ⟨aS,mS,cS,rfl,ss,nS,b1⟩
  have KC:=ncmp_any al aS ml cl mS cS xs (limbs (val ys - val xs)) w1 ((Uh HX).below b1) ss ox (limbs_rep _).ok
  rw [Uh HCV] at KC
  have HKC:=Hd KC
  have HB1:=Hd b1
  clear KC ss nS b1 HK1
  go_wp2_with fail
  refine (sure_any _ _ _).mono ?_
  rintro _ _ ⟨rfl,hw⟩
  obtain rfl:=hw.symm
  clear hw
  go_wp2_with fail
  refine (Uh HKC).mono ?_
  rintro _ w3 ⟨rfl,jj,hw3⟩
  have HB3:=Hd (show Below w.heap.size w w3 from by rw [hw3]; exact bel_drewN (Uh HB1) jj)
  clear hw3 HKC HB1
  go_wp2_with fail
  go_ret
  exact ⟨rfl,Uh HB3⟩
 ·have HCV:=Hd (hC.trans (show cmpN (val xs) (val ys - val xs) = 0 from by rw [show val ys - val xs = val xs by omega]; simp [cmpN]))
  rw [show (decide (val ys < val xs + val xs) || (decide (val ys = val xs + val xs) && odd)) = odd from by rw [decide_eq_false (by omega),decide_eq_true (by omega)]; simp]
  clear hC h hle
  cases odd
  ·go_enter Tryz.func49,Tryz.ntmps49
   go_wp2_with fail
   refine (Uh HK1).mono ?_
   rintro _ w1 ⟨aS,mS,cS,rfl,ss,nS,b1⟩
   have KC:=ncmp_any al aS ml cl mS cS xs (limbs (val ys - val xs)) w1 ((Uh HX).below b1) ss ox (limbs_rep _).ok
   rw [Uh HCV] at KC
   have HKC:=Hd KC
   have HB1:=Hd b1
   clear KC ss nS b1 HK1
   go_wp2_with fail
   refine (sure_any _ _ _).mono ?_
   rintro _ _ ⟨rfl,hw⟩
   obtain rfl:=hw.symm
   clear hw
   go_wp2_with fail
   refine (Uh HKC).mono ?_
   rintro _ w3 ⟨rfl,jj,hw3⟩
   have HB3:=Hd (show Below w.heap.size w w3 from by rw [hw3]; exact bel_drewN (Uh HB1) jj)
   clear hw3 HKC HB1
   go_wp2_with fail
   go_ret
   exact ⟨rfl,Uh HB3⟩
  ·go_enter Tryz.func49,Tryz.ntmps49
   go_wp2_with fail
   refine (Uh HK1).mono ?_
   rintro _ w1 ⟨aS,mS,cS,rfl,ss,nS,b1⟩
   have KC:=ncmp_any al aS ml cl mS cS xs (limbs (val ys - val xs)) w1 ((Uh HX).below b1) ss ox (limbs_rep _).ok
   rw [Uh HCV] at KC
   have HKC:=Hd KC
   have HB1:=Hd b1
   clear KC ss nS b1 HK1
   go_wp2_with fail
   refine (sure_any _ _ _).mono ?_
   rintro _ _ ⟨rfl,hw⟩
   obtain rfl:=hw.symm
   clear hw
   go_wp2_with fail
   refine (Uh HKC).mono ?_
   rintro _ w3 ⟨rfl,jj,hw3⟩
   have HB3:=Hd (show Below w.heap.size w w3 from by rw [hw3]; exact bel_drewN (Uh HB1) jj)
   clear hw3 HKC HB1
   go_wp2_with fail
   go_ret
   exact ⟨rfl,Uh HB3⟩
 ·have HCV:=Hd (hC.trans (show cmpN (val xs) (val ys - val xs) = 1 from by unfold cmpN; rw [if_neg (by omega),if_neg (by omega)]))
  rw [show (decide (val ys < val xs + val xs) || (decide (val ys = val xs + val xs) && odd)) = true from by rw [decide_eq_true (by omega)]; rfl]
  clear hC h hle
  go_enter Tryz.func49,Tryz.ntmps49
  go_wp2_with fail
  refine (Uh HK1).mono ?_
  rintro _ w1 ⟨aS,mS,cS,rfl,ss,nS,b1⟩
  have KC:=ncmp_any al aS ml cl mS cS xs (limbs (val ys - val xs)) w1 ((Uh HX).below b1) ss ox (limbs_rep _).ok
  rw [Uh HCV] at KC
  have HKC:=Hd KC
  have HB1:=Hd b1
  clear KC ss nS b1 HK1
  go_wp2_with fail
  refine (sure_any _ _ _).mono ?_
  rintro _ _ ⟨rfl,hw⟩
  obtain rfl:=hw.symm
  clear hw
  go_wp2_with fail
  refine (Uh HKC).mono ?_
  rintro _ w3 ⟨rfl,jj,hw3⟩
  have HB3:=Hd (show Below w.heap.size w w3 from by rw [hw3]; exact bel_drewN (Uh HB1) jj)
  clear hw3 HKC HB1
  go_wp2_with fail
  go_ret
  exact ⟨rfl,Uh HB3⟩
def FloorF (g:Bool) (x y:List Nat):(Bool × List Nat × List Nat) × Int:=if MayR g x y then (((g && decide (flQ g (val x) (val y) ≠ 0)),limbs (flQ g (val x) (val y)),[1]),0) else ((false,[],[]),40)

set_option maxHeartbeats 8000000 in
set_option maxRecDepth 100000 in
theorem ratFloor_any (g:Bool) (a b:Option Addr) (n c m d:Nat) (x y:List Nat) (w:World) (hx:Sl w a n c x) (hy:Sl w b m d y) (ox:Ok x) (oy:Ok y) (hT:Tab64 w) :
  Calls Tryz.prog 9 #[ratV g a n c b m d] w fun e w' => ResR w w' (FloorF g x y).1.1 (FloorF g x y).1.2.1 (FloorF g x y).1.2.2 (FloorF g x y).2 e:=by
 have bx:=Box.made w g a n c b m d
 obtain ⟨wa,hwa⟩:∃ wa,ratBox w g a n c b m d = wa:=⟨_,rfl⟩
 rw [hwa] at bx
 obtain ⟨wb,hwb⟩:∃ wb,wa.alloc (.cells #[.bool false,.slice none 0 0,.slice none 0 0] 25) = wb:=⟨_,rfl⟩
 have hba:Below w.heap.size w wa:=by rw [← hwa]; exact bAl
 have hbb:Below wa.heap.size wa wb:=by rw [← hwb]; exact bAl
 have hO:Out wb wa.heap.size:=by rw [← hwb]; exact Out.made wa
 have hX:=bx.keep hbb
 have hB:=hba.trans (hbb.mono hba.size)
 have hlt:=bx.lt
 have d0:=hX.d0
 have d1:=hX.d1
 have d2:=hX.d2
 unfold ratBox at hwa
 have KM:=ratMay_any g a b n c m d x y wb (hx.below hB) (hy.below hB) ox oy (hT.below hB)
 have HX:=Hd (And.intro hX (And.intro hO hB))
 have HS:=Hd (And.intro hx hy)
 obtain ⟨RR,hRR⟩:∃ r,FloorF g x y = r:=⟨_,rfl⟩
 rw [hRR]
 have HRR:=Hd hRR
 clear bx hX hO hB hba hbb hx hy hT hRR
 cases hm:MayR g x y
 ·rw [hm] at KM
  have HKM:=Hd KM
  have HR:=Hd (show RR = ((false,[],[]),40) from by rw [← Uh HRR]; unfold FloorF; rw [hm]; rfl)
  unfold ratV at HKM ⊢
  clear KM hm HRR
  go_enter Tryz.func9,Tryz.ntmps9
  go_wp2_with fail
  refine (Uh HKM).mono ?_
  rintro _ w1 ⟨rfl,b1⟩
  have hO1:=(Uh HX).2.1.keep b1
  obtain ⟨x0,q0⟩:=hO1.cells 0 (by decide)
  obtain ⟨x1,q1⟩:=hO1.cells 1 (by decide)
  obtain ⟨x2,q2⟩:=hO1.cells 2 (by decide)
  have r0:=hO1.fz 0 (by decide)
  have r1:=hO1.fz 1 (by decide)
  have r2:=hO1.fz 2 (by decide)
  have H4:=Hd (three_set w1 wa.heap.size (.bool false) (.slice none 0 0) (.slice none 0 0) hO1.cells)
  have HB:=Hd ((Uh HX).2.2.trans (b1.mono (Uh HX).2.2.size))
  clear hO1 b1 HKM
  go_wp2_with fail
  obtain ⟨p0,p1,p2,c4⟩:=Uh H4
  generalize ((w1.setCell ⟨wa.heap.size,0,none⟩ (.bool false)).setCell ⟨wa.heap.size,1,none⟩ (.slice none 0 0)).setCell ⟨wa.heap.size,2,none⟩ (.slice none 0 0) = wf at *
  refine bodyPost_ret (by simp [results,Tryz.results9,go_sem,p0,p1,p2]; try rfl) rfl ?_
  rw [Uh HR]
  exact ⟨_,rfl,none,0,0,none,0,0,rfl,sl_nil _,sl_nil _,newAt_nil _,newAt_nil _,(Uh HB).trans (c4.below (Uh HB).size (fun k hk => by omega))⟩
 ·rw [hm] at KM
  obtain ⟨kx,ky,ey,_,_⟩:=MayR.parts hm
  have HKM:=Hd KM
  have HM:=Hd (And.intro kx (And.intro ky ey))
  have HR:=Hd (show RR = (((g && decide (flQ g (val x) (val y) ≠ 0)),limbs (flQ g (val x) (val y)),[1]),0) from by rw [← Uh HRR]; unfold FloorF; rw [if_pos hm])
  unfold ratV at HKM ⊢
  clear KM hm HRR kx ky ey
  go_enter Tryz.func9,Tryz.ntmps9
  go_wp2_with fail
  refine (Uh HKM).mono ?_
  rintro _ w1 ⟨rfl,b1⟩
  have hB1:=(Uh HX).2.2.trans (b1.mono (Uh HX).2.2.size)
  have hX1:=(Uh HX).1.keep b1
  have e0:=hX1.d0
  have e1:=hX1.d1
  have e2:=hX1.d2
  have K:=ratfloor_any g a b n c m d x y w1 ((Uh HS).1.below hB1) ((Uh HS).2.below hB1) ox oy (Uh HM).1 (Uh HM).2.1 (Uh HM).2.2
  unfold ratV at K
  have HK:=Hd K
  have HY:=Hd (And.intro ((Uh HX).2.1.keep b1) hB1)
  clear b1 hB1 hX1 K HKM HX d0 d1 d2
  go_wp2_with fail
  refine (Uh HK).mono ?_
  rintro _ w2 ⟨aq,nq,cq,bq,mq,dq,al,ml,cl,rfl,sq,tq,_,nQ,nT,b2⟩
  unfold ratV
  obtain ⟨SG,hSG⟩:∃ SG,(g && decide (flQ g (val x) (val y) ≠ 0)) = SG:=⟨_,rfl⟩
  rw [hSG]
  rw [hSG] at HR
  obtain ⟨w3,hw3⟩:∃ z,w2.alloc (.cells #[.bool SG,.slice aq nq cq,.slice bq mq dq] 25) = z:=⟨_,rfl⟩
  have b3:Below w2.heap.size w2 w3:=by rw [← hw3]; exact bAl
  have u0:w3.cell? ⟨w2.heap.size,0,none⟩ = some (.bool SG):=by rw [← hw3]; simp
  have u1:w3.cell? ⟨w2.heap.size,1,none⟩ = some (.slice aq nq cq):=by rw [← hw3]; simp
  have u2:w3.cell? ⟨w2.heap.size,2,none⟩ = some (.slice bq mq dq):=by rw [← hw3]; simp
  have b13:=b2.trans (b3.mono b2.size)
  have hO3:=(Uh HY).1.keep b13
  have hlo:=(Uh HY).1.lt
  obtain ⟨i0,o0⟩:=hO3.cells 0 (by decide)
  obtain ⟨i1,o1⟩:=hO3.cells 1 (by decide)
  obtain ⟨i2,o2⟩:=hO3.cells 2 (by decide)
  have r0:=hO3.fz 0 (by decide)
  have r1:=hO3.fz 1 (by decide)
  have r2:=hO3.fz 2 (by decide)
  have H4:=Hd (three_set w3 wa.heap.size (.bool SG) (.slice aq nq cq) (.slice bq mq dq) hO3.cells)
  have hsz:=(Uh HY).2.size
  have HZ:=Hd (And.intro (sq.below b3) (And.intro (tq.below b3) (And.intro (fun p hp => by have h1:=nQ p hp; omega:∀ p,aq = some p → p.block ≠ wa.heap.size) (And.intro (fun p hp => by have h1:=nT p hp; omega:∀ p,bq = some p → p.block ≠ wa.heap.size) (And.intro (fun p hp => by have h1:=nQ p hp; omega:NewAt w.heap.size aq) (And.intro (fun p hp => by have h1:=nT p hp; omega:NewAt w.heap.size bq) ((Uh HY).2.trans (b13.mono (Uh HY).2.size))))))))
  clear sq tq nQ nT b2 b3 b13 hO3 hlo hsz HK e0 e1 e2 hSG HY
  go_wp2_with fail
  obtain ⟨t0,t1,t2,c4⟩:=Uh H4
  generalize ((w3.setCell ⟨wa.heap.size,0,none⟩ (.bool SG)).setCell ⟨wa.heap.size,1,none⟩ (.slice aq nq cq)).setCell ⟨wa.heap.size,2,none⟩ (.slice bq mq dq) = wk at *
  refine bodyPost_ret (by simp [results,Tryz.results9,go_sem,t0,t1,t2]; try rfl) rfl ?_
  rw [Uh HR]
  have z:=Uh HZ
  exact ⟨_,rfl,aq,nq,cq,bq,mq,dq,rfl,z.1.chg c4 (fun p hp _ => z.2.2.1 p hp),z.2.1.chg c4 (fun p hp _ => z.2.2.2.1 p hp),z.2.2.2.2.1,z.2.2.2.2.2.1,z.2.2.2.2.2.2.trans (c4.below z.2.2.2.2.2.2.size (fun k hk h => by omega))⟩
end Go.Proofs.YtmmeiebbnjjijaaGreatDoor
