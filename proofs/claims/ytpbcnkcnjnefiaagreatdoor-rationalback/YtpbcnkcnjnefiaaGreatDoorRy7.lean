/- Rb1 -/
import Derived.Test.YtpbcnkcnjnefiaaGreatDoorRz7
import Derived.Test.YtpbcnkcnjnefiaaGreatDoorRz9
import Derived.Test.YtpbcnkcnjnefiaaGreatDoorRl2
import Derived.Test.YtpbcnkcnjnefiaaGreatDoorRz2
import Derived.Test.YtpbcnkcnjnefiaaGreatDoorRp6
import Derived.Test.YtpbcnkcnjnefiaaGreatDoorWi2
namespace Go.Proofs.YtpbcnkcnjnefiaaGreatDoor
open Go.RowKit Go.Deep
set_option linter.unusedVariables false
theorem rd_exact {R E:Nat} {Y:Nat} (hY:0 < Y):rdQ (R * 2 ^ E * Y) (Y * 2 ^ E) = R:=by
 have hB:0 < Y * 2 ^ E:=Nat.mul_pos hY (Nat.two_pow_pos E)
 have e:R * 2 ^ E * Y = R * (Y * 2 ^ E):=by rw [Nat.mul_assoc,Nat.mul_comm (2 ^ E)]
 rw [e]
 unfold rdQ
 rw [Nat.mul_mod_left,Nat.mul_div_cancel _ hB,if_neg (by omega)]
theorem pow_lt_exp {a b:Nat} (h:(2:Nat) ^ a < 2 ^ b):a < b:=(Nat.pow_lt_pow_iff_right (by decide)).1 h
theorem isFl_of {s:Nat} (h:s < 9218868437227405312):∃ U R,IsFl s U R ∧ R < 9007199254740992:=by
 by_cases k:s < 9007199254740992
 ·exact ⟨0,s,⟨by omega,by omega,by omega,h⟩,k⟩
 ·refine ⟨s / 4503599627370496 - 1,s % 4503599627370496 + 4503599627370496,⟨?_,?_,?_,h⟩,?_⟩ <;> omega
theorem flN_back {x y:List Nat} {s:Nat} (ox:Ok x) (oy:Ok y) (kx:MayL x = true) (ky:MayL y = true) (ex:x ≠ []) (ey:y ≠ []) (hs:s < 9218868437227405312) (hv:val x * 2 ^ kB = flV s * val y):flN (bitsN x) (bitsN y) (val x) (val y) = s:=by
 obtain ⟨x1,x2,x3,x4⟩:=bits_two ox kx ex
 obtain ⟨y1,y2,y3,y4⟩:=bits_two oy ky ey
 have hB:=rdE_B' x1 x2 y1 y2
 have hE:=rdE_E x1 x2 y1 y2
 have hY:0 < val y:=val_pos_of_may ky ey
 obtain ⟨U,R,hI,hR⟩:=isFl_of hs
 have hV:=hI.val
 rw [hV] at hv
 unfold flN
 obtain ⟨W,hW⟩:∃ W,flU (bitsN x) (bitsN y) (val x) (val y) = W:=⟨_,rfl⟩
 rw [hW] at hB hE ⊢
 have hB2:R * 2 ^ U < 9007199254740992 * 2 ^ W:=by
  rw [hv,Nat.mul_left_comm,Nat.mul_comm (val y)] at hB
  exact Nat.lt_of_mul_lt_mul_right hB
 have hE2:0 < W → 4503599627370496 * 2 ^ W ≤ R * 2 ^ U:=fun h => by
  have:=hE h
  rw [hv,Nat.mul_left_comm,Nat.mul_comm (val y)] at this
  exact Nat.le_of_mul_le_mul_right this hY
 have hUW:W = U:=by
  rcases Nat.eq_zero_or_pos U with e | e
  ·subst e
   rcases Nat.eq_zero_or_pos W with e2 | e2
   ·exact e2
   ·exfalso
    have h1:=hE2 e2
    have h2:2 ^ 1 ≤ 2 ^ W:=Nat.pow_le_pow_right (by decide) e2
    rw [Nat.pow_zero,Nat.mul_one] at h1
    omega
  ·have h1:=hI.ge e
   have h2:(2:Nat) ^ (52 + U) < 2 ^ (53 + W):=by
    rw [Nat.pow_add,Nat.pow_add]
    exact Nat.lt_of_le_of_lt (Nat.mul_le_mul_right _ (show 2 ^ 52 ≤ R from h1)) hB2
   have h3:=pow_lt_exp h2
   have h4:=hE2 (by omega)
   have h5:(2:Nat) ^ (52 + W) < 2 ^ (53 + U):=by
    rw [Nat.pow_add,Nat.pow_add]
    exact Nat.lt_of_le_of_lt h4 (Nat.mul_lt_mul_of_pos_right (show R < 2 ^ 53 from hR) (Nat.two_pow_pos U))
   have h6:=pow_lt_exp h5
   omega
 rw [hUW]
 have hr:rdE (val x) (val y) U = R:=by
  unfold rdE
  rw [hv]
  exact rd_exact hY
 rw [hr]
 have h7:=hI.eq
 have h8:=hI.fin
 have h9:¬ 2045 < U:=by
  rcases Nat.eq_zero_or_pos U with e | e
  ·omega
  ·have:=hI.ge e; omega
 rw [if_neg h9]
 exact h7.symm
theorem back_top {b s:Nat} (hb:b < 18446744073709551616) (hs:b % 9223372036854775808 = s) (h0:s ≠ 0) (k:9223372036854775808 ≤ b):((9223372036854775808 + s,0):Nat × Int) = (if b = 9223372036854775808 then 0 else b,0):=by
 rw [if_neg (by omega),show 9223372036854775808 + s = b by omega]
theorem back_low {b s:Nat} (hs:b % 9223372036854775808 = s) (k:¬ 9223372036854775808 ≤ b):((0 + s,0):Nat × Int) = (if b = 9223372036854775808 then 0 else b,0):=by
 rw [if_neg (by omega),show 0 + s = b by omega]
theorem float_back {b:Nat} (hb:b < 18446744073709551616) (he:exB b ≠ 2047):∃ g x y,FfF b = ((g,x,y),0) ∧ Ok x ∧ Ok y ∧ FlF g x y = (if b = 9223372036854775808 then 0 else b,0):=by
 obtain ⟨g,x,y,h1,o1,o2,hf⟩:=ff_fr he
 refine ⟨g,x,y,h1,o1,o2,?_⟩
 obtain ⟨kx,ky,ey,hg,_⟩:=MayR.parts hf.may
 have hk:=Nat.two_pow_pos kB
 have hyp:=mayR_pos hf.may
 obtain ⟨s,hs⟩:∃ s,b % 9223372036854775808 = s:=⟨_,rfl⟩
 have hsl:s < 9218868437227405312:=by unfold exB at he; omega
 have hV:flV b = flV s:=by
  have e1:exB b = exB s:=by unfold exB; omega
  have e2:frB b = frB s:=by unfold frB; omega
  unfold flV ffN ffE
  rw [e1,e2]
 have heq:=congrArg Int.natAbs hf.eq
 simp only [Int.natAbs_mul,nI_abs,Int.natAbs_natCast] at heq
 rw [hV] at heq
 by_cases h0:s = 0
 ·have hz:flV s = 0:=by rw [h0]; exact flV_low (by decide)
  rw [hz,Nat.zero_mul] at heq
  have hx0:val x = 0:=by
   rcases Nat.mul_eq_zero.1 heq with h | h
   ·exact h
   ·omega
  have hx:x = []:=(val_zero_iff kx).1 hx0
  subst hx
  have hgf:g = false:=by
   cases g
   ·rfl
   ·have:=hf.may
    unfold MayR at this
    simp at this
  subst hgf
  have:b = 0 ∨ b = 9223372036854775808:=by omega
  unfold FlF
  rw [if_pos hf.may]
  rcases this with e | e <;> simp [e]
 ·have hpos:0 < flV s:=by
   obtain ⟨U,R,hI,_⟩:=isFl_of hsl
   rw [hI.val]
   refine Nat.mul_pos ?_ (Nat.two_pow_pos U)
   rcases Nat.eq_zero_or_pos U with e | e
   ·have:=hI.eq; rw [e] at this; omega
   ·have:=hI.ge e; omega
  have hx:x ≠ []:=by
   intro e
   rw [e] at heq
   rw [show val ([]:List Nat) = 0 from rfl,Nat.zero_mul] at heq
   have:=Nat.mul_pos hpos hyp
   omega
  have hN:=flN_back o1 o2 kx ky hx ey hsl heq
  have hgs:g = decide (9223372036854775808 ≤ b):=by
   have h2:=hf.eq
   rw [hV] at h2
   have hxp:0 < val x:=by
    rcases Nat.eq_zero_or_pos (val x) with e | e
    ·exact absurd ((val_zero_iff kx).1 e) hx
    ·exact e
   have p1:(0:Int) < (val x:Int) * ((2 ^ kB:Nat):Int):=Int.mul_pos (by omega) (by omega)
   have p2:(0:Int) < (flV s:Int) * (val y:Int):=Int.mul_pos (by omega) (by omega)
   rw [← nI_mul,← nI_mul] at h2
   generalize decide (9223372036854775808 ≤ b) = d at *
   have q1:0 < val x * 2 ^ kB:=Nat.mul_pos hxp hk
   have q2:0 < flV s * val y:=Nat.mul_pos hpos hyp
   generalize val x * 2 ^ kB = u at *
   generalize flV s * val y = v at *
   cases g <;> cases d <;> simp [nI] at h2 ⊢ <;> omega
  unfold FlF
  rw [if_pos hf.may,if_neg hx,hN,hgs]
  by_cases k:9223372036854775808 ≤ b
  ·simp only [k,decide_true,if_true]
   exact back_top hb hs h0 k
  ·simp only [k,decide_false,Bool.false_eq_true,if_false]
   exact back_low hs k
def ftV:List Nat → Nat × Nat
 | [] => (1,0)
 | t :: r => (t * (ftV r).1 + (ftV r).2,(ftV r).1)
theorem ftV_gcd (r:List Nat):Nat.gcd (ftV r).1 (ftV r).2 = 1:=by
 induction r with
 | nil => rfl
 | cons t r ih =>
  show Nat.gcd (t * (ftV r).1 + (ftV r).2) (ftV r).1 = 1
  rw [Nat.add_comm,Nat.mul_comm,Nat.gcd_add_mul_left_left,Nat.gcd_comm]
  exact ih
theorem ftV_pos {r:List Nat} (h:∀ t ∈ r,0 < t):0 < (ftV r).1:=by
 induction r with
 | nil => exact Nat.one_pos
 | cons t r ih =>
  have h1:=ih (fun u hu => h u (List.mem_cons_of_mem _ hu))
  have h2:=h t (List.mem_cons_self ..)
  show 0 < t * (ftV r).1 + (ftV r).2
  exact Nat.add_pos_left (Nat.mul_pos h2 h1) _
def ftB:List Nat → Bool
 | [] => false
 | t :: r => ftB r || bigN (ftV (t :: r)).1
theorem ftB_tail {t:Nat} {r:List Nat} (h:ftB (t :: r) = false):ftB r = false ∧ bigN (ftV (t :: r)).1 = false:=by
 unfold ftB at h
 simpa using h
theorem bigN_false {v:Nat} (h:bigN v = false):MayL (limbs v) = true:=by
 have e:¬ 2048 < (limbs v).length:=by
  intro k
  unfold bigN at h
  simp at h
  omega
 exact MayL.mk (limbs_norm v) (by omega)
theorem ftB_fit {r:List Nat} (h:ftB r = false):bigN (ftV r).1 = false ∧ bigN (ftV r).2 = false:=by
 have b1:bigN 1 = false:=by decide
 have b0:bigN 0 = false:=by decide
 cases r with
 | nil => exact ⟨b1,b0⟩
 | cons t r =>
  obtain ⟨h1,h2⟩:=ftB_tail h
  refine ⟨h2,?_⟩
  show bigN (ftV r).1 = false
  cases r with
  | nil => exact b1
  | cons u s => exact (ftB_tail h1).2
theorem ftV_may {r:List Nat} (h:ftB r = false) (hp:∀ t ∈ r,0 < t):MayR false (limbs (ftV r).2) (limbs (ftV r).1) = true:=by
 obtain ⟨h1,h2⟩:=ftB_fit h
 have hpos:=ftV_pos hp
 unfold MayR
 simp only [Bool.and_eq_true,Bool.not_eq_true',decide_eq_false_iff_not,decide_eq_true_eq]
 refine ⟨⟨⟨⟨bigN_false h2,bigN_false h1⟩,?_⟩,?_⟩,?_⟩
 ·rw [limbs_eq_nil]; omega
 ·simp
 ·rw [limbs_v,limbs_v,Nat.gcd_comm]; exact ftV_gcd r
theorem val_1:val [1] = 1:=by decide
theorem addF_is {g1 g2:Bool} {x1 y1 x2 y2:List Nat} (k1:MayR g1 x1 y1 = true) (k2:MayR g2 x2 y2 = true) :
  AddF g1 x1 y1 g2 x2 y2 = lowF (cmbV g1 (val x1 * val y2) g2 (val x2 * val y1)).2 (cmbV g1 (val x1 * val y2) g2 (val x2 * val y1)).1 (val y1 * val y2):=by
 rw [plus_lowest (g3:=g2) k1 k2 g2 rfl]
 unfold AddF; rw [k1,k2]; rfl
theorem whole_may {t:Nat} (h:MayL (limbs t) = true):MayR false (limbs t) [1] = true:=by
 unfold MayR
 simp only [Bool.and_eq_true,Bool.not_eq_true',decide_eq_false_iff_not,decide_eq_true_eq]
 refine ⟨⟨⟨⟨h,by decide⟩,by decide⟩,by simp⟩,?_⟩
 rw [val_1]; exact Nat.gcd_one_right _
theorem addF_term {t:Nat} {r:List Nat} (hB:ftB r = false) (hp:∀ u ∈ r,0 < u) (ht:0 < t) (mt:MayL (limbs t) = true) :
  AddF false (limbs t) [1] false (limbs (ftV r).2) (limbs (ftV r).1) = if bigN (ftV (t :: r)).1 then ((false,[],[]),2) else ((false,limbs (ftV (t :: r)).1,limbs (ftV (t :: r)).2),0):=by
 rw [addF_is (whole_may mt) (ftV_may hB hp),limbs_v,limbs_v,limbs_v,val_1,Nat.mul_one,Nat.one_mul]
 have hN:cmbV false (t * (ftV r).1) false (ftV r).2 = ((ftV (t :: r)).1,false):=rfl
 rw [hN]
 have hP:=ftV_pos hp
 have hN0:(ftV (t :: r)).1 ≠ 0:=by
  show t * (ftV r).1 + (ftV r).2 ≠ 0
  have:=Nat.mul_pos ht hP
  omega
 have hg:Nat.gcd (ftV (t :: r)).1 (ftV r).1 = 1:=ftV_gcd (t :: r)
 unfold lowF
 rw [if_neg hN0,hg,Nat.div_one,Nat.div_one,(ftB_fit hB).1,Bool.or_false]
 rfl
theorem addF_zero {g:Bool} {x:List Nat} (ox:Ok x) (k:MayR g x [1] = true):AddF g x [1] false [] [1] = ((g,x,[1]),0):=by
 obtain ⟨kx,_,_,hg,_⟩:=MayR.parts k
 have k0:MayR false [] [1] = true:=by decide
 rw [addF_is k k0,val_1,show val [] = 0 from rfl,Nat.mul_one,Nat.zero_mul]
 have hc:cmbV g (val x) false 0 = (val x,g) ∨ (g = true ∧ val x = 0):=by
  unfold cmbV
  cases g
  ·left; simp
  ·by_cases e:val x = 0
   ·right; exact ⟨rfl,e⟩
   ·left; simp
 have hx:limbs (val x) = x:=limbs_val ox (MayL.norm kx)
 rcases hc with hc | ⟨h1,h2⟩
 ·rw [hc]
  unfold lowF
  by_cases e:val x = 0
  ·rw [if_pos e]
   have hx0:x = []:=by rw [← hx,e]; rfl
   have hg0:g = false:=by
    cases g
    ·rfl
    ·exact absurd hx0 (hg rfl)
   rw [hx0,hg0]
  ·rw [if_neg e,Nat.gcd_one_right,Nat.div_one,hx]
   have hb:bigN (val x) = false:=by unfold bigN; rw [hx]; have:=MayL.len kx; simp; omega
   have hb1:bigN (1 / 1) = false:=by decide
   rw [hb,hb1]
   rfl
 ·exfalso
  have hx0:x = []:=by rw [← hx,h2]; rfl
  exact hg h1 hx0
structure FdX (w wr:World) (Rz Ro B:Nat) (z:Nq):Prop where
 bel:Below w.heap.size w wr
 out:Out wr Ro
 tx:Tri wr Rz (.bool z.g) (.slice z.a z.n z.c) (.slice z.b z.m z.d)
 num:Sl wr z.a z.n z.c z.x
 den:Sl wr z.b z.m z.d z.y
 ox:Ok z.x
 oy:Ok z.y
 may:MayR z.g z.x z.y = true
 na:NewAt B z.a
 nb:NewAt B z.b
 pa:∀ p,z.a = some p → z.x ≠ [] → ¬ p.block = Ro
 pb:∀ p,z.b = some p → z.y ≠ [] → ¬ p.block = Ro
 rz:w.heap.size ≤ Rz
 ro:w.heap.size ≤ Ro
 ne:Rz ≠ Ro
 hB:B ≤ w.heap.size
def FdP (w w':World) (B:Nat) (r:(Bool × List Nat × List Nat) × Int) (e:Ending):Prop:=∃ a m c b k d,e = .returned (.tuple #[ratV r.1.1 a m c b k d,.int .i64 r.2]) ∧ Sl w' a m c r.1.2.1 ∧ Sl w' b k d r.1.2.2 ∧ NewAt B a ∧ NewAt B b ∧ Below w.heap.size w w'
theorem FdX.next {w wr wk:World} {Rz Ro B:Nat} {z:Nq} {gy:Bool} {ay by_:Option Addr} {ny cy my dy:Nat} {xy yy:List Nat} (h:FdX w wr Rz Ro B z) (hb:Below wr.heap.size wr wk) (hx:Sl wk ay ny cy xy) (hy:Sl wk by_ my dy yy) (nx:NewAt wr.heap.size ay) (ny_:NewAt wr.heap.size by_) (ox:Ok xy) (oy:Ok yy) (hm:MayR gy xy yy = true) :
  FdX w (((wk.setCell ⟨Rz,0,none⟩ (.bool gy)).setCell ⟨Rz,1,none⟩ (.slice ay ny cy)).setCell ⟨Rz,2,none⟩ (.slice by_ my dy)) Rz Ro B ⟨gy,ay,ny,cy,xy,by_,my,dy,yy⟩:=by
 have hO:=(h.tx.keep hb).out
 have c4:=(three_set wk Rz (.bool gy) (.slice ay ny cy) (.slice by_ my dy) hO.cells).2.2.2
 have hlt:=h.tx.lt
 have hlo:=h.out.lt
 have hB:=h.bel.trans (hb.mono h.bel.size)
 have hs:=h.bel.size
 have hbb:=h.hB
 exact ⟨hB.trans (c4.below hB.size (fun k hk e => by have:=h.rz; omega)),(h.out.keep hb).chgQ c4 (fun e => h.ne e.symm),tri_setQ hO _ _ _,hx.chg c4 (fun p hp _ e => by have:=nx p hp; omega),hy.chg c4 (fun p hp _ e => by have:=ny_ p hp; omega),ox,oy,hm,fun p hp => by have:=nx p hp; omega,fun p hp => by have:=ny_ p hp; omega,fun p hp _ e => by have:=nx p hp; omega,fun p hp _ e => by have:=ny_ p hp; omega,h.rz,h.ro,h.ne,h.hB⟩
theorem addF_err {g1 g2 g:Bool} {x1 y1 x2 y2 x y:List Nat} {e:Int} (h:AddF g1 x1 y1 g2 x2 y2 = ((g,x,y),e)) (he:e ≠ 0):g = false ∧ x = [] ∧ y = []:=by
 unfold AddF at h
 split at h
 ·split at h
  ·cases h; exact ⟨rfl,rfl,rfl⟩
  ·cases h; exact absurd rfl he
 ·cases h; exact ⟨rfl,rfl,rfl⟩
theorem ret_F {w wy:World} {Ro B:Nat} {gy:Bool} {ay by_:Option Addr} {ny cy my dy:Nat} {xy yy:List Nat} (hO:Out wy Ro) (hx:Sl wy ay ny cy xy) (hy:Sl wy by_ my dy yy) (na:NewAt B ay) (nb:NewAt B by_) (pa:∀ p,ay = some p → xy ≠ [] → ¬ p.block = Ro) (pb:∀ p,by_ = some p → yy ≠ [] → ¬ p.block = Ro) (hB:Below w.heap.size w wy) (hR:w.heap.size ≤ Ro) (er:Int) :
  FdP w (((wy.setCell ⟨Ro,0,none⟩ (.bool gy)).setCell ⟨Ro,1,none⟩ (.slice ay ny cy)).setCell ⟨Ro,2,none⟩ (.slice by_ my dy)) B ((gy,xy,yy),er) (.returned (.tuple #[.agg #[.bool gy,.slice ay ny cy,.slice by_ my dy],.int .i64 er])):=by
 have c4:=(three_set wy Ro (.bool gy) (.slice ay ny cy) (.slice by_ my dy) hO.cells).2.2.2
 exact ⟨ay,ny,cy,by_,my,dy,rfl,hx.chg c4 (fun p hp hh e => pa p hp hh e),hy.chg c4 (fun p hp hh e => pb p hp hh e),na,nb,hB.trans (c4.below hB.size (fun k hk e => by omega))⟩
theorem FdP.drewQ {w w':World} {B:Nat} {r:(Bool × List Nat × List Nat) × Int} {e:Ending} (h:FdP w w' B r e):FdP w w'.drew B r e:=by
 obtain ⟨a,m,c,b,k,d,e,h1,h2,h3,h4,h5⟩:=h
 exact ⟨a,m,c,b,k,d,e,h1.below (Below.refl _ _).drew,h2.below (Below.refl _ _).drew,h3,h4,h5.drew⟩
def tmP (p:Nq):Bool:=decide (p.y = [1]) && !p.g && !decide (p.x = [])
def tmQ:List Nq → Bool
 | [] => false
 | p :: r => decide (r.length ≤ 1023) && decide (p.y = [1]) && r.all tmP
def tmV (ps:List Nq):List Nat:=ps.map (fun p => val p.x)
def FtF (ps:List Nq):(Bool × List Nat × List Nat) × Int :=
 if mayQ ps then (if tmQ ps then (match ps with
  | [] => ((false,[],[]),1)
  | p :: r => if ftB (tmV r) then ((false,[],[]),2) else AddF p.g p.x p.y false (limbs (ftV (tmV r)).2) (limbs (ftV (tmV r)).1)) else ((false,[],[]),1)) else ((false,[],[]),40)
theorem ftF_bad {ps:List Nq} (h:mayQ ps = false):FtF ps = ((false,[],[]),40):=by unfold FtF; rw [h]; rfl
theorem ftF_no {ps:List Nq} (h:mayQ ps = true) (k:tmQ ps = false):FtF ps = ((false,[],[]),1):=by unfold FtF; rw [h,k]; rfl
theorem ftF_big {p:Nq} {r:List Nq} (h:mayQ (p :: r) = true) (k:tmQ (p :: r) = true) (b:ftB (tmV r) = true):FtF (p :: r) = ((false,[],[]),2):=by unfold FtF; rw [h,k]; simp [b]
theorem ftF_ok {p:Nq} {r:List Nq} (h:mayQ (p :: r) = true) (k:tmQ (p :: r) = true) (b:ftB (tmV r) = false):FtF (p :: r) = AddF p.g p.x p.y false (limbs (ftV (tmV r)).2) (limbs (ftV (tmV r)).1):=by unfold FtF; rw [h,k]; simp [b]
theorem ftB_app (l r:List Nat) (h:ftB r = true):ftB (l ++ r) = true:=by
 induction l with
 | nil => exact h
 | cons t l ih => show (ftB (l ++ r) || _) = true; rw [ih]; rfl
theorem tmP_parts {p:Nq} (h:tmP p = true):p.y = [1] ∧ p.g = false ∧ p.x ≠ []:=by
 unfold tmP at h
 simp only [Bool.and_eq_true,decide_eq_true_eq,Bool.not_eq_true',decide_eq_false_iff_not] at h
 exact ⟨h.1.1,h.1.2,h.2⟩
theorem tmQ_get {p:Nq} {r:List Nq} (h:tmQ (p :: r) = true):r.length ≤ 1023 ∧ p.y = [1] ∧ ∀ q ∈ r,tmP q = true:=by
 unfold tmQ at h
 simp only [Bool.and_eq_true,decide_eq_true_eq] at h
 exact ⟨h.1.1,h.1.2,List.all_eq_true.1 h.2⟩
theorem tm_pos {p:Nq} (ox:Ok p.x) (hm:MayR p.g p.x p.y = true) (h:tmP p = true):0 < val p.x ∧ limbs (val p.x) = p.x ∧ MayL (limbs (val p.x)) = true:=by
 obtain ⟨kx,_,_,_,_⟩:=MayR.parts hm
 have e:=limbs_val ox (MayL.norm kx)
 exact ⟨val_pos_of_may kx (tmP_parts h).2.2,e,by rw [e]; exact kx⟩
theorem FdX.swap {w wr:World} {Rz Ro B:Nat} {z:Nq} (h:FdX w wr Rz Ro B z) (hm:MayR z.g z.y z.x = true) (ha:∀ p,z.a = some p → ¬ p.block = Rz) (hb:∀ p,z.b = some p → ¬ p.block = Rz) :
  FdX w ((wr.setCell ⟨Rz,1,none⟩ (.slice z.b z.m z.d)).setCell ⟨Rz,2,none⟩ (.slice z.a z.n z.c)) Rz Ro B ⟨z.g,z.b,z.m,z.d,z.y,z.a,z.n,z.c,z.x⟩:=by
 have c4:Chg (fun j => j = Rz) wr ((wr.setCell ⟨Rz,1,none⟩ (.slice z.b z.m z.d)).setCell ⟨Rz,2,none⟩ (.slice z.a z.n z.c)):=(Chg.of_set (S:=fun j => j = Rz) _ _ _ _ rfl).trans (Chg.of_set (S:=fun j => j = Rz) _ _ _ _ rfl)
 have t:=h.tx
 have f:∀ j,((wr.setCell ⟨Rz,1,none⟩ (.slice z.b z.m z.d)).setCell ⟨Rz,2,none⟩ (.slice z.a z.n z.c)).frozen? ⟨Rz,j,none⟩ = wr.frozen? ⟨Rz,j,none⟩:=fun j => by rw [World.frozen?_setCell,World.frozen?_setCell]
 have s1:(wr.setCell ⟨Rz,1,none⟩ (.slice z.b z.m z.d)).cell? ⟨Rz,1,none⟩ = some (.slice z.b z.m z.d):=World.cell?_setCell_same _ _ _ t.c1
 have s2:(wr.setCell ⟨Rz,1,none⟩ (.slice z.b z.m z.d)).cell? ⟨Rz,2,none⟩ = some (.slice z.b z.m z.d):=by rw [World.cell?_setCell_other _ _ _ _ (by simp)]; exact t.c2
 have tri:Tri ((wr.setCell ⟨Rz,1,none⟩ (.slice z.b z.m z.d)).setCell ⟨Rz,2,none⟩ (.slice z.a z.n z.c)) Rz (.bool z.g) (.slice z.b z.m z.d) (.slice z.a z.n z.c):=by
  refine ⟨?_,?_,World.cell?_setCell_same _ _ _ s2,(f 0).trans t.f0,(f 1).trans t.f1,(f 2).trans t.f2,Nat.lt_of_lt_of_le t.lt c4.size⟩
  ·rw [World.cell?_setCell_other _ _ _ _ (by simp),World.cell?_setCell_other _ _ _ _ (by simp)]; exact t.c0
  ·rw [World.cell?_setCell_other _ _ _ _ (by simp)]; exact s1
 exact ⟨h.bel.trans (c4.below h.bel.size (fun k hk e => by have:=h.rz; omega)),h.out.chgQ c4 (fun e => h.ne e.symm),tri,h.den.chg c4 (fun p hp _ => hb p hp),h.num.chg c4 (fun p hp _ => ha p hp),h.oy,h.ox,hm,h.nb,h.na,h.pb,h.pa,h.rz,h.ro,h.ne,h.hB⟩
end Go.Proofs.YtpbcnkcnjnefiaaGreatDoor
