/- Wke -/
import Derived.Test.YtpbcnkcnjnefiaaGreatDoorWkb
import Derived.Test.YtpbcnkcnjnefiaaGreatDoorCmp
import Derived.Test.YtpbcnkcnjnefiaaGreatDoorGb
import Derived.Test.YtpbcnkcnjnefiaaGreatDoorPa2
import Derived.Test.YtpbcnkcnjnefiaaGreatDoorRl2
import Derived.Test.YtpbcnkcnjnefiaaGreatDoorRq0
import Derived.Deep.RegionHeld3
import Derived.Test.YtpbcnkcnjnefiaaGreatDoorDv4
import Derived.Test.YtpbcnkcnjnefiaaGreatDoorRp6
namespace Go.Proofs.YtpbcnkcnjnefiaaGreatDoor
open Go.RowKit Go.Deep
set_option linter.unusedVariables false
def rdQ (X Y:Nat):Nat:=if Y < X % Y + X % Y ∨ (Y = X % Y + X % Y ∧ X / Y % 2 = 1) then X / Y + 1 else X / Y
def kB:Nat:=1074
theorem kB_eq:kB = 1074:=rfl
theorem rd_le {A B N:Nat} (hB:0 < B) (h:A < N * B):rdQ A B ≤ N:=by
 have h1:A / B < N:=(Nat.div_lt_iff_lt_mul hB).mpr h
 unfold rdQ
 split <;> omega
theorem rd_scale {A B c:Nat} (hc:0 < c):rdQ (A * c) (B * c) = rdQ A B:=by
 have e1:A * c / (B * c) = A / B:=Nat.mul_div_mul_right _ _ hc
 have e2:A * c % (B * c) = A % B * c:=Nat.mul_mod_mul_right _ _ _
 have e3:A % B * c + A % B * c = (A % B + A % B) * c:=by rw [Nat.add_mul]
 unfold rdQ
 rw [e1,e2,e3]
 have h1:(B * c < (A % B + A % B) * c) ↔ B < A % B + A % B:=Nat.mul_lt_mul_right hc
 have h2:(B * c = (A % B + A % B) * c) ↔ B = A % B + A % B:=Nat.mul_left_inj (Nat.ne_of_gt hc)
 simp only [h1,h2]
def rdE (X Y E:Nat):Nat:=rdQ (X * 2 ^ kB) (Y * 2 ^ E)
def flG (p q:Nat):Nat:=p + kB - (q + 53)
def flU (p q X Y:Nat):Nat:=if Y * 2 ^ (53 + flG p q) ≤ X * 2 ^ kB then flG p q + 1 else flG p q
def flN (p q X Y:Nat):Nat:=if 2045 < flU p q X Y then 9218868437227405312 else flU p q X Y * 4503599627370496 + rdE X Y (flU p q X Y)

theorem fl_ypos {q Y:Nat} (hY1:2 ^ q ≤ Y * 2) (E:Nat):0 < Y * 2 ^ E:=by
 have:=Nat.two_pow_pos q
 exact Nat.mul_pos (by omega) (Nat.two_pow_pos E)
theorem two52:(4503599627370496:Nat) = 2 ^ 52:=rfl
theorem two53:(9007199254740992:Nat) = 2 ^ 53:=rfl
theorem fl_above {p q X Y:Nat} (hX1:2 ^ p ≤ X * 2) (hY2:Y < 2 ^ q) {E j:Nat} (h:q + E + j + 1 ≤ p + kB):2 ^ j * (Y * 2 ^ E) ≤ X * 2 ^ kB:=by
 have h1:2 ^ j * (Y * 2 ^ E) * 2 ≤ 2 ^ j * (2 ^ q * 2 ^ E) * 2:=Nat.mul_le_mul_right _ (Nat.mul_le_mul_left _ (Nat.mul_le_mul_right _ (Nat.le_of_lt hY2)))
 have h2:2 ^ j * (2 ^ q * 2 ^ E) * 2 = 2 ^ (q + E + j + 1):=by
  rw [Nat.pow_succ,Nat.pow_add,Nat.pow_add]
  congr 1
  rw [Nat.mul_comm]
 have h3:2 ^ (q + E + j + 1) ≤ 2 ^ (p + kB):=Nat.pow_le_pow_right (by decide) h
 have h4:2 ^ (p + kB) ≤ X * 2 ^ kB * 2:=by
  rw [Nat.pow_add,Nat.mul_right_comm]
  exact Nat.mul_le_mul_right _ hX1
 omega
theorem fl_under {p q X Y:Nat} (hX2:X < 2 ^ p) (hY1:2 ^ q ≤ Y * 2) {E j:Nat} (h:p + kB + 1 ≤ q + E + j):X * 2 ^ kB < 2 ^ j * (Y * 2 ^ E):=by
 have h1:X * 2 ^ kB * 2 < 2 ^ p * 2 ^ kB * 2:=Nat.mul_lt_mul_of_pos_right (Nat.mul_lt_mul_of_pos_right hX2 (Nat.two_pow_pos _)) (by decide)
 have h2:2 ^ p * 2 ^ kB * 2 = 2 ^ (p + kB + 1):=by rw [Nat.pow_succ,Nat.pow_add]
 have h3:2 ^ (p + kB + 1) ≤ 2 ^ (q + E + j):=Nat.pow_le_pow_right (by decide) h
 have h4:2 ^ (q + E + j) ≤ 2 ^ j * (Y * 2 ^ E) * 2:=by
  rw [Nat.pow_add,Nat.pow_add]
  have:2 ^ j * (Y * 2 ^ E) * 2 = Y * 2 * 2 ^ E * 2 ^ j:=by
   rw [Nat.mul_comm (2 ^ j),Nat.mul_right_comm Y 2,Nat.mul_right_comm]
  rw [this]
  exact Nat.mul_le_mul_right _ (Nat.mul_le_mul_right _ hY1)
 omega
theorem fl_step {X Y:Nat}  {E:Nat} {N:Nat} (h:2 * N * (Y * 2 ^ E) ≤ X * 2 ^ kB):N * (Y * 2 ^ (E + 1)) ≤ X * 2 ^ kB:=by
 have:N * (Y * 2 ^ (E + 1)) = 2 * N * (Y * 2 ^ E):=by
  rw [Nat.pow_succ,← Nat.mul_assoc Y,← Nat.mul_assoc N,Nat.mul_comm _ 2,Nat.mul_assoc 2]
 rw [this]
 exact h
theorem flU_cases {p q X Y:Nat} :(flU p q X Y = flG p q + 1 ∧ 9007199254740992 * (Y * 2 ^ flG p q) ≤ X * 2 ^ kB) ∨ (flU p q X Y = flG p q ∧ X * 2 ^ kB < 9007199254740992 * (Y * 2 ^ flG p q)):=by
 have e:Y * 2 ^ (53 + flG p q) = 9007199254740992 * (Y * 2 ^ flG p q):=by
  rw [Nat.pow_add,two53,← Nat.mul_assoc,Nat.mul_comm Y,Nat.mul_assoc]
 unfold flU
 rw [e]
 split
 ·next h => exact .inl ⟨rfl,h⟩
 ·next h => exact .inr ⟨rfl,Nat.lt_of_not_le h⟩
theorem rdE_B' {p q X Y:Nat} (hX1:2 ^ p ≤ X * 2) (hX2:X < 2 ^ p) (hY1:2 ^ q ≤ Y * 2) (hY2:Y < 2 ^ q):X * 2 ^ kB < 9007199254740992 * (Y * 2 ^ flU p q X Y):=by
 rcases flU_cases (p:=p) (q:=q) (X:=X) (Y:=Y) with ⟨h1,h2⟩ | ⟨h1,h2⟩
 ·rw [h1,two53]
  refine fl_under hX2 hY1 ?_
  unfold flG
  omega
 ·rw [h1]; exact h2
theorem rdE_B {p q X Y:Nat} (hX1:2 ^ p ≤ X * 2) (hX2:X < 2 ^ p) (hY1:2 ^ q ≤ Y * 2) (hY2:Y < 2 ^ q):rdE X Y (flU p q X Y) ≤ 9007199254740992:=rd_le (fl_ypos hY1 _) (rdE_B' hX1 hX2 hY1 hY2)
def FlF (g:Bool) (x y:List Nat):Nat × Int:=if MayR g x y then ((if g then 9223372036854775808 else 0) + (if x = [] then 0 else flN (bitsN x) (bitsN y) (val x) (val y)),0) else (0,40)
theorem bits_two {xs:List Nat} (ox:Ok xs) (kx:MayL xs = true) (h0:xs ≠ []):2 ^ bitsN xs ≤ val xs * 2 ∧ val xs < 2 ^ bitsN xs ∧ 1 ≤ bitsN xs ∧ bitsN xs ≤ 65536:=by
 obtain ⟨h1,h2,h3⟩:=bits_top ox (MayL.norm kx) h0 rfl
 have h4:=MayL.len kx
 refine ⟨?_,val_lt_bits ox,h2,by omega⟩
 obtain ⟨k,hk⟩:∃ k,bitsN xs = k + 1:=⟨bitsN xs - 1,by omega⟩
 rw [hk] at h3 ⊢
 rw [Nat.pow_succ]
 simp only [Nat.add_sub_cancel] at h3
 omega
theorem bits_ge {v k:Nat}:k < bitsN (limbs v) ↔ 2 ^ k ≤ v:=by
 constructor
 ·intro h
  have h0:limbs v ≠ []:=by intro e; rw [e] at h; simp [bitsN] at h
  obtain ⟨h1,h2,h3⟩:=bits_top (limbs_ok v) (limbs_norm v) h0 rfl
  rw [limbs_v] at h3
  exact Nat.le_trans (Nat.pow_le_pow_right (by decide) (by omega)) h3
 ·intro h
  have h1:=val_lt_bits (limbs_ok v)
  rw [limbs_v] at h1
  exact (Nat.pow_lt_pow_iff_right (by decide)).1 (Nat.lt_of_le_of_lt h h1)
def flV (s:Nat):Nat:=ffN s * 2 ^ ffE s
theorem flV_low {s:Nat} (h:s < 4503599627370496):flV s = s:=by
 have e:exB s = 0:=by unfold exB; omega
 have f:frB s = s:=by unfold frB; omega
 unfold flV ffN ffE
 rw [e,f]
 simp
theorem flV_mid {U R:Nat} (h1:4503599627370496 ≤ R) (h2:R < 9007199254740992) (hU:U < 2047):flV (U * 4503599627370496 + R) = R * 2 ^ U:=by
 have e:exB (U * 4503599627370496 + R) = U + 1:=by unfold exB; omega
 have f:frB (U * 4503599627370496 + R) = R - 4503599627370496:=by unfold frB; omega
 unfold flV ffN ffE
 rw [e,f,if_neg (by omega),Nat.add_sub_cancel]
 congr 1
 omega
theorem flV_top {U:Nat} (hU:U < 2046):flV (U * 4503599627370496 + 9007199254740992) = 9007199254740992 * 2 ^ U:=by
 have h:=flV_mid (U:=U + 1) (R:=4503599627370496) (by omega) (by omega) (by omega)
 have e:U * 4503599627370496 + 9007199254740992 = (U + 1) * 4503599627370496 + 4503599627370496:=by omega
 rw [e,h,Nat.pow_succ]
 omega
structure IsFl (s U R:Nat):Prop where
 eq:s = U * 4503599627370496 + R
 le:R ≤ 9007199254740992
 ge:0 < U → 4503599627370496 ≤ R
 fin:s < 9218868437227405312
theorem IsFl.val {s U R:Nat} (h:IsFl s U R):flV s = R * 2 ^ U:=by
 obtain ⟨h1,h2,h3,h4⟩:=h
 subst h1
 by_cases k:R < 4503599627370496
 ·have:U = 0:=by
   rcases Nat.eq_zero_or_pos U with e | e
   ·exact e
   ·have:=h3 e; omega
  subst this
  rw [Nat.zero_mul,Nat.zero_add,flV_low k]
  simp
 ·by_cases k2:R < 9007199254740992
  ·exact flV_mid (by omega) k2 (by omega)
  ·have:R = 9007199254740992:=by omega
   subst this
   exact flV_top (by omega)
theorem IsFl.up {s U R:Nat} (h:IsFl s U R) (h4:s + 1 < 9218868437227405312):flV (s + 1) = (R + 1) * 2 ^ U ∨ (R = 9007199254740992 ∧ flV (s + 1) = (R + 2) * 2 ^ U):=by
 by_cases k:R < 9007199254740992
 ·exact .inl (IsFl.val ⟨by rw [h.eq]; omega,by omega,fun e => by have:=h.ge e; omega,h4⟩)
 ·have e:R = 9007199254740992:=by have:=h.le; omega
  refine .inr ⟨e,?_⟩
  have hf:IsFl (s + 1) (U + 1) 4503599627370497:=⟨by rw [h.eq,e]; omega,by omega,fun _ => by omega,h4⟩
  rw [hf.val,e,Nat.pow_succ]
  omega
theorem IsFl.down {s U R:Nat} (h:IsFl s U R) (h0:0 < s):(0 < R ∧ flV (s - 1) = (R - 1) * 2 ^ U) ∨ (∃ V,U = V + 1 ∧ R = 4503599627370496 ∧ flV (s - 1) = 9007199254740991 * 2 ^ V):=by
 by_cases k:U = 0 ∨ 4503599627370496 < R
 ·refine .inl ⟨?_,IsFl.val ⟨?_,?_,?_,?_⟩⟩
  ·rcases k with k | k
   ·have:=h.eq; rw [k] at this; omega
   ·omega
  ·have:=h.eq
   have:0 < R:=by
    rcases k with k | k
    ·rw [k] at this; omega
    ·omega
   omega
  ·have:=h.le; omega
  ·intro e; omega
  ·have:=h.fin; omega
 ·have k1:U ≠ 0 ∧ R ≤ 4503599627370496:=by omega
  have k2:=h.ge (by omega)
  have e:R = 4503599627370496:=by omega
  refine .inr ⟨U - 1,by omega,e,IsFl.val ⟨?_,by omega,fun _ => by omega,?_⟩⟩
  ·have:=h.eq; omega
  ·have:=h.fin; omega
theorem rdE_E {p q X Y:Nat} (hX1:2 ^ p ≤ X * 2) (hX2:X < 2 ^ p) (hY1:2 ^ q ≤ Y * 2) (hY2:Y < 2 ^ q) (h:0 < flU p q X Y):4503599627370496 * (Y * 2 ^ flU p q X Y) ≤ X * 2 ^ kB:=by
 rcases flU_cases (p:=p) (q:=q) (X:=X) (Y:=Y) with ⟨h1,h2⟩ | ⟨h1,h2⟩
 ·rw [h1]
  exact fl_step h2
 ·rw [h1,two52]
  refine fl_above hX1 hY2 ?_
  rw [h1] at h
  unfold flG at h ⊢
  omega
structure FilQ (w:World) (A N:Nat) (ps:List Nq):Prop where
 blk:∃ cur,w.heap[A]? = some (.cells cur 25) ∧ cur.size = N * 3 ∧ (∃ b,cur[0]? = some (.bool b)) ∧ ∀ i p,ps[i]? = some p → cur[i * 3]? = some (.bool p.g) ∧ cur[i * 3 + 1]? = some (.slice p.a p.n p.c) ∧ cur[i * 3 + 2]? = some (.slice p.b p.m p.d)
 each:∀ p ∈ ps,(Sl w p.a p.n p.c p.x ∧ Sl w p.b p.m p.d p.y) ∧ Ok p.x ∧ Ok p.y
def FarQ (S:Nat → Prop) (ps:List Nq):Prop:=∀ p ∈ ps,(∀ z,p.a = some z → p.x ≠ [] → ¬ S z.block) ∧ ∀ z,p.b = some z → p.y ≠ [] → ¬ S z.block
theorem FilQ.lt {w:World} {A N:Nat} {ps:List Nq} (h:FilQ w A N ps):A < w.heap.size:=by
 obtain ⟨cur,hc,_⟩:=h.blk
 exact block_lt hc
theorem FilQ.chg {S:Nat → Prop} {w w':World} {A N:Nat} {ps:List Nq} (h:FilQ w A N ps) (k:Chg S w w') (hA:¬ S A) (hf:FarQ S ps):FilQ w' A N ps:=by
 obtain ⟨cur,hc,hr⟩:=h.blk
 refine ⟨⟨cur,by rw [k.block A (block_lt hc) hA]; exact hc,hr⟩,fun p hp => ⟨⟨(h.each p hp).1.1.chg k (hf p hp).1,(h.each p hp).1.2.chg k (hf p hp).2⟩,(h.each p hp).2⟩⟩
theorem FilQ.below {w w':World} {A N:Nat} {ps:List Nq} (h:FilQ w A N ps) (k:Below w.heap.size w w'):FilQ w' A N ps :=
 h.chg (S:=fun _ => False) (.of_below k) id (fun p hp => ⟨fun _ _ _ => id,fun _ _ _ => id⟩)
theorem FilQ.sl {w:World} {A N:Nat} {ps:List Nq} (h:FilQ w A N ps) {n:Nat} (hn:ps.length = n) (hN:n ≤ N):SlQ w (some ⟨A,0,none⟩) n N ps:=by
 obtain ⟨cur,hc,hs,_,hr⟩:=h.blk
 refine ⟨hn,hN,.inr ⟨A,0,rfl,fun i p hp => ?_⟩,h.each⟩
 obtain ⟨h0,h1,h2⟩:=hr i p hp
 rw [cell_of_block hc,cell_of_block hc,cell_of_block hc]
 simp only [Nat.zero_add]
 exact ⟨h0,h1,h2⟩
theorem FilQ.next {w:World} {A N:Nat} {ps:List Nq} (h:FilQ w A N ps) (hN:ps.length < N) (p:Nq)
  (hp:(Sl w p.a p.n p.c p.x ∧ Sl w p.b p.m p.d p.y) ∧ Ok p.x ∧ Ok p.y) (hne:∀ q ∈ ps ++ [p],(∀ z,q.a = some z → q.x ≠ [] → z.block ≠ A) ∧ ∀ z,q.b = some z → q.y ≠ [] → z.block ≠ A) {k:Nat} (hk:ps.length = k) :
  FilQ (((w.setCell ⟨A,k * 3,none⟩ (.bool p.g)).setCell ⟨A,k * 3 + 1,none⟩ (.slice p.a p.n p.c)).setCell ⟨A,k * 3 + 2,none⟩ (.slice p.b p.m p.d)) A N (ps ++ [p]) ∧
  Chg (fun j => j = A) w (((w.setCell ⟨A,k * 3,none⟩ (.bool p.g)).setCell ⟨A,k * 3 + 1,none⟩ (.slice p.a p.n p.c)).setCell ⟨A,k * 3 + 2,none⟩ (.slice p.b p.m p.d)):=by
 have hc:Chg (fun j => j = A) w (((w.setCell ⟨A,k * 3,none⟩ (.bool p.g)).setCell ⟨A,k * 3 + 1,none⟩ (.slice p.a p.n p.c)).setCell ⟨A,k * 3 + 2,none⟩ (.slice p.b p.m p.d)) :=
  ((Chg.of_set (S:=fun j => j = A) _ _ _ _ rfl).trans (Chg.of_set (S:=fun j => j = A) _ _ _ _ rfl)).trans (Chg.of_set (S:=fun j => j = A) _ _ _ _ rfl)
 obtain ⟨cur,hb,hs,⟨b0,hf0⟩,hr⟩:=h.blk
 refine ⟨⟨⟨_,set_block (set_block (set_block hb _ _) _ _) _ _,by simpa using hs,?_,?_⟩,?_⟩,hc⟩
 ·by_cases e:k = 0
  ·subst e
   refine ⟨p.g,?_⟩
   rw [Array.getElem?_setIfInBounds_ne (by omega),Array.getElem?_setIfInBounds_ne (by omega)]
   exact Array.getElem?_setIfInBounds_self_of_lt (by omega)
  ·refine ⟨b0,?_⟩
   rw [Array.getElem?_setIfInBounds_ne (by omega),Array.getElem?_setIfInBounds_ne (by omega),Array.getElem?_setIfInBounds_ne (by omega)]
   exact hf0
 ·intro i q hq
  by_cases e:i < ps.length
  ·rw [List.getElem?_append_left e] at hq
   obtain ⟨h0,h1,h2⟩:=hr i q hq
   refine ⟨?_,?_,?_⟩
   ·rw [Array.getElem?_setIfInBounds_ne (by omega),Array.getElem?_setIfInBounds_ne (by omega),Array.getElem?_setIfInBounds_ne (by omega)]; exact h0
   ·rw [Array.getElem?_setIfInBounds_ne (by omega),Array.getElem?_setIfInBounds_ne (by omega),Array.getElem?_setIfInBounds_ne (by omega)]; exact h1
   ·rw [Array.getElem?_setIfInBounds_ne (by omega),Array.getElem?_setIfInBounds_ne (by omega),Array.getElem?_setIfInBounds_ne (by omega)]; exact h2
  ·have hi:i < (ps ++ [p]).length:=(List.getElem?_eq_some_iff.1 hq).1
   have hi2:i = k:=by simp at hi; omega
   subst hi2
   rw [List.getElem?_append_right (by omega),hk,Nat.sub_self] at hq
   obtain rfl:p = q:=by simpa using hq
   have hsz:i * 3 + 2 < cur.size:=by omega
   refine ⟨?_,?_,?_⟩
   ·rw [Array.getElem?_setIfInBounds_ne (by omega),Array.getElem?_setIfInBounds_ne (by omega),Array.getElem?_setIfInBounds_self_of_lt (by omega)]
   ·rw [Array.getElem?_setIfInBounds_ne (by omega),Array.getElem?_setIfInBounds_self_of_lt (by simp; omega)]
   ·rw [Array.getElem?_setIfInBounds_self_of_lt (by simp; omega)]
 ·intro q hq
  have hf:=hne q hq
  have hS:(Sl w q.a q.n q.c q.x ∧ Sl w q.b q.m q.d q.y) ∧ Ok q.x ∧ Ok q.y:=by
   rcases List.mem_append.1 hq with e | e
   ·exact h.each q e
   ·obtain rfl:q = p:=by simpa using e
    exact hp
  exact ⟨⟨hS.1.1.chg hc hf.1,hS.1.2.chg hc hf.2⟩,hS.2⟩
theorem FilQ.begin (w:World) (N:Nat) (cur:Array Value) (hs:cur.size = N * 3) (h0:∃ b,cur[0]? = some (.bool b)):FilQ (w.alloc (.cells cur 25)) w.heap.size N [] :=
 ⟨⟨cur,alloc_block _ _,hs,h0,fun i p hp => by simp at hp⟩,fun p hp => by cases hp⟩
theorem FilQ.first {w:World} {A N:Nat} {ps:List Nq} (h:FilQ w A N ps):∃ b,w.cell? ⟨A,0,none⟩ = some (.bool b):=by
 obtain ⟨cur,hb,hs,⟨b,h0⟩,hr⟩:=h.blk
 exact ⟨b,(cell_of_block hb 0).trans h0⟩
theorem FilQ.pre {w:World} {A N:Nat} {ps qs:List Nq} (h:FilQ w A N (ps ++ qs)):FilQ w A N ps:=by
 obtain ⟨cur,hb,hs,h0,hr⟩:=h.blk
 refine ⟨⟨cur,hb,hs,h0,fun i p hp => hr i p ?_⟩,fun p hp => h.each p (List.mem_append_left _ hp)⟩
 rw [List.getElem?_append_left (List.getElem?_eq_some_iff.1 hp).1]
 exact hp
def conQ (p:Nq):Bool × List Nat × List Nat:=(p.g,p.x,p.y)
def celQ (ps:List Nq):List Value:=ps.flatMap (fun p => [.bool p.g,.slice p.a p.n p.c,.slice p.b p.m p.d])
theorem celQ_len (ps:List Nq):(celQ ps).length = ps.length * 3:=by
 induction ps with
 | nil => rfl
 | cons p r ih => unfold celQ at ih ⊢; simp only [List.flatMap_cons,List.length_append,List.length_cons,List.length_nil]; omega
theorem celQ_app (ps qs:List Nq):celQ (ps ++ qs) = celQ ps ++ celQ qs:=by unfold celQ; simp
theorem celQ_get (ps:List Nq):∀ {i:Nat} {p:Nq},ps[i]? = some p → (celQ ps)[i * 3]? = some (.bool p.g) ∧ (celQ ps)[i * 3 + 1]? = some (.slice p.a p.n p.c) ∧ (celQ ps)[i * 3 + 2]? = some (.slice p.b p.m p.d):=by
 induction ps with
 | nil => intro i p hp; simp at hp
 | cons q r ih =>
  intro i p hp
  have e:celQ (q :: r) = [.bool q.g,.slice q.a q.n q.c,.slice q.b q.m q.d] ++ celQ r:=by unfold celQ; simp
  rw [e]
  match i with
  | 0 => simp at hp; subst hp; simp
  | i + 1 =>
   obtain ⟨h0,h1,h2⟩:=ih (i:=i) (p:=p) (by simpa using hp)
   refine ⟨?_,?_,?_⟩
   ·rw [List.getElem?_append_right (by simp; omega)]; rw [← h0]; congr 1; simp; omega
   ·rw [List.getElem?_append_right (by simp; omega)]; rw [← h1]; congr 1; simp; omega
   ·rw [List.getElem?_append_right (by simp; omega)]; rw [← h2]; congr 1; simp; omega
theorem FilQ.own {w:World} {A N:Nat} {ps:List Nq} (h:FilQ w A N ps) {n base:Nat} (hn:ps.length = n) (hN:n ≤ N) (hb:base ≤ A) (hm:N ≤ maxLen):w.ownsRow base 25 3 (.slice (some ⟨A,0,none⟩) n N) n (celQ ps):=by
 obtain ⟨cur,hc,hs,_,hr⟩:=h.blk
 refine ⟨by rw [celQ_len,hn],.inr ⟨A,N,cur,rfl,hb,hc,hN,hm,hs,?_⟩⟩
 apply List.ext_getElem?
 intro i
 by_cases hi:i < n * 3
 ·have hj:i / 3 < ps.length:=by omega
  have hp:ps[i / 3]? = some ps[i / 3]:=List.getElem?_eq_getElem hj
  obtain ⟨h0,h1,h2⟩:=hr _ _ hp
  obtain ⟨k0,k1,k2⟩:=celQ_get ps hp
  rw [List.getElem?_take,if_pos hi,Array.getElem?_toList]
  have e3:i = i / 3 * 3 ∨ i = i / 3 * 3 + 1 ∨ i = i / 3 * 3 + 2:=by omega
  rcases e3 with e | e | e <;> rw [e]
  ·exact h0.trans k0.symm
  ·exact h1.trans k1.symm
  ·exact h2.trans k2.symm
 ·rw [List.getElem?_eq_none (by simp; omega),List.getElem?_eq_none (by rw [celQ_len]; omega)]
theorem FilQ.of_own {w:World} {base A n N:Nat} {ps:List Nq} (h:w.ownsRow base 25 3 (.slice (some ⟨A,0,none⟩) n N) n (celQ ps)) (hne:ps ≠ []) (he:∀ p ∈ ps,(Sl w p.a p.n p.c p.x ∧ Sl w p.b p.m p.d p.y) ∧ Ok p.x ∧ Ok p.y):FilQ w A N ps:=by
 obtain ⟨hl,h2⟩:=h
 have hl':ps.length = n:=by rw [celQ_len] at hl; omega
 rcases h2 with ⟨h2,h3⟩ | ⟨g',cap,cur,h3,h4,h5,h6,h7,h8,h9⟩
 ·cases h2
 ·injection h3 with e1 e2 e3
  injection e1 with e1
  injection e1 with e1
  subst e1 e3
  have key:∀ i p,ps[i]? = some p → cur[i * 3]? = some (.bool p.g) ∧ cur[i * 3 + 1]? = some (.slice p.a p.n p.c) ∧ cur[i * 3 + 2]? = some (.slice p.b p.m p.d):=fun i p hp => ?_
  ·refine ⟨⟨cur,h5,h8,?_,key⟩,he⟩
   obtain ⟨p,r,rfl⟩:=List.exists_cons_of_ne_nil hne
   exact ⟨p.g,(key 0 p rfl).1⟩
  have hi:i < n:=by have:=(List.getElem?_eq_some_iff.1 hp).1; omega
  obtain ⟨k0,k1,k2⟩:=celQ_get ps hp
  rw [← h9] at k0 k1 k2
  rw [List.getElem?_take,if_pos (by omega),Array.getElem?_toList] at k0 k1 k2
  exact ⟨k0,k1,k2⟩
structure RowQ (w wr:World) (v:Value) (k:Nat) (ps:List Nq):Prop where
 own:wr.ownsRow w.heap.size 25 3 v k (celQ ps)
 each:∀ p ∈ ps,(Sl wr p.a p.n p.c p.x ∧ Sl wr p.b p.m p.d p.y) ∧ Ok p.x ∧ Ok p.y
 far:FarQ (fun j => v.ownBlock = some j) ps
 bel:Below w.heap.size w wr
theorem RowQ.len {w wr:World} {v:Value} {k:Nat} {ps:List Nq} (h:RowQ w wr v k ps):ps.length = k:=by
 have:=h.own.1
 rw [celQ_len] at this
 omega
theorem RowQ.below {w wr w':World} {v:Value} {k:Nat} {ps:List Nq} (h:RowQ w wr v k ps) (b:Below wr.heap.size wr w'):RowQ w w' v k ps :=
 ⟨ownsRow_chg h.own (.of_below (S:=fun _ => False) b) (fun _ _ => id),fun p hp => ⟨⟨(h.each p hp).1.1.below b,(h.each p hp).1.2.below b⟩,(h.each p hp).2⟩,h.far,h.bel.trans (b.mono h.bel.size)⟩
theorem RowQ.form {w wr:World} {v:Value} {k:Nat} {ps:List Nq} (h:RowQ w wr v k ps):∃ a c,v = .slice a k c ∧ SlQ wr a k c ps:=by
 have hl:=h.len
 rcases h.own.2 with ⟨e,h0⟩ | ⟨g,cap,cur,e,hb,h5,h6,h7,h8,h9⟩
 ·subst e h0
  exact ⟨none,0,rfl,⟨hl,Nat.le_refl _,.inl (List.eq_nil_of_length_eq_zero hl),h.each⟩⟩
 ·refine ⟨_,cap,e,?_⟩
  by_cases hp:ps = []
  ·exact ⟨hl,h6,.inl hp,h.each⟩
  ·have ho:=h.own
   rw [e] at ho
   exact (FilQ.of_own ho hp h.each).sl hl h6
theorem RowQ.app {w wr w1:World} {v:Value} {k g c2:Nat} {ps:List Nq} {o:Obj} (h:RowQ w wr v k ps) (p:Nq) (hp:(Sl wr p.a p.n p.c p.x ∧ Sl wr p.b p.m p.d p.y) ∧ Ok p.x ∧ Ok p.y) (hf:FarQ (fun j => v.ownBlock = some j) [p])
  (hown:w1.ownsRow w.heap.size 25 3 (.slice (some ⟨g,0,none⟩) (k + 1) c2) (k + 1) (celQ ps ++ [.bool p.g,.slice p.a p.n p.c,.slice p.b p.m p.d])) (hg:(wr.alloc o).grownBy w1 v.ownBlock) (hat:v.ownBlock = some g ∨ g = wr.heap.size + 1) :
  RowQ w w1 (.slice (some ⟨g,0,none⟩) (k + 1) c2) (k + 1) (ps ++ [p]):=by
 have hz:=h.bel.size
 have al:Below wr.heap.size wr (wr.alloc o):=(Below.refl _ _).alloc (Nat.le_refl _) o
 have kk:Chg (fun j => v.ownBlock = some j) (wr.alloc o) w1:=Chg.of_grown hg (fun k hk => hk)
 have far:FarQ (fun j => v.ownBlock = some j) (ps ++ [p]):=fun q hq => by
  rcases List.mem_append.1 hq with e | e
  ·exact h.far q e
  ·exact hf q e
 have each:∀ q ∈ ps ++ [p],(Sl wr q.a q.n q.c q.x ∧ Sl wr q.b q.m q.d q.y) ∧ Ok q.x ∧ Ok q.y:=fun q hq => by
  rcases List.mem_append.1 hq with e | e
  ·exact h.each q e
  ·obtain rfl:=List.mem_singleton.1 e
   exact hp
 refine ⟨?_,fun q hq => ⟨⟨((each q hq).1.1.below al).chg kk (far q hq).1,((each q hq).1.2.below al).chg kk (far q hq).2⟩,(each q hq).2⟩,?_,Below.grown (h.bel.alloc (by omega) o) hg (by simp; omega) (fun k hk => (own_ge h.own k hk).1)⟩
 ·rw [celQ_app]
  exact hown
 ·intro q hq
  refine ⟨fun z hz' hne e => ?_,fun z hz' hne e => ?_⟩
  ·simp [Value.ownBlock] at e
   rcases hat with h1 | h1
   ·exact (far q hq).1 z hz' hne (by rw [h1,e])
   ·have:=(each q hq).1.1.block_lt hne z hz'
    omega
  ·simp [Value.ownBlock] at e
   rcases hat with h1 | h1
   ·exact (far q hq).2 z hz' hne (by rw [h1,e])
   ·have:=(each q hq).1.2.block_lt hne z hz'
    omega
theorem RowQ.one {w wr:World} (p:Nq) (hp:(Sl wr p.a p.n p.c p.x ∧ Sl wr p.b p.m p.d p.y) ∧ Ok p.x ∧ Ok p.y) (hb:Below w.heap.size w wr) :
  RowQ w (wr.alloc (.cells #[.bool p.g,.slice p.a p.n p.c,.slice p.b p.m p.d] 25)) (.slice (some ⟨wr.heap.size,0,none⟩) 1 1) 1 [p]:=by
 have al:Below wr.heap.size wr (wr.alloc (.cells #[.bool p.g,.slice p.a p.n p.c,.slice p.b p.m p.d] 25)):=bAl
 refine ⟨⟨rfl,.inr ⟨wr.heap.size,1,_,rfl,hb.size,alloc_block _ _,Nat.le_refl _,by unfold maxLen; omega,rfl,rfl⟩⟩,?_,?_,hb.alloc hb.size _⟩
 ·intro q hq
  obtain rfl:=List.mem_singleton.1 hq
  exact ⟨⟨hp.1.1.below al,hp.1.2.below al⟩,hp.2⟩
 ·intro q hq
  obtain rfl:=List.mem_singleton.1 hq
  refine ⟨fun z hz hne e => ?_,fun z hz hne e => ?_⟩
  ·simp [Value.ownBlock] at e
   have:=hp.1.1.block_lt hne z hz
   omega
  ·simp [Value.ownBlock] at e
   have:=hp.1.2.block_lt hne z hz
   omega
def cfT:Nat → Nat → Nat → List Nat × Bool
 | 0,_,l => ([],decide (l = 0))
 | f + 1,d,l => if l = 0 then ([],true) else (d / l :: (cfT f l (d % l)).1,(cfT f l (d % l)).2)
theorem cfT_end (f d:Nat):cfT f d 0 = ([],true):=by
 cases f with
 | zero => simp [cfT]
 | succ f => simp [cfT]
theorem cfT_stop (d:Nat) {l:Nat} (h:l ≠ 0):cfT 0 d l = ([],false):=by simp [cfT,h]
theorem cfT_step (f d:Nat) {l:Nat} (h:l ≠ 0):cfT (f + 1) d l = (d / l :: (cfT f l (d % l)).1,(cfT f l (d % l)).2):=by rw [cfT,if_neg h]
def whN (t:Nat):Bool × List Nat × List Nat:=(false,limbs t,[1])
structure CfR (f0 d0 l0:Nat) (ts:List Nat) (f d l:Nat):Prop where
 eq:cfT f0 d0 l0 = (ts ++ (cfT f d l).1,(cfT f d l).2)
 cnt:ts.length + f = f0
 lt:l < d
 dle:d ≤ d0
theorem CfR.begin (f d l:Nat) (h:l < d):CfR f d l [] f d l:=⟨by simp,by simp,h,Nat.le_refl _⟩
theorem CfR.next {f0 d0 l0 f d l:Nat} {ts:List Nat} (h:CfR f0 d0 l0 ts (f + 1) d l) (hl:l ≠ 0):CfR f0 d0 l0 (ts ++ [d / l]) f l (d % l):=by
 refine ⟨?_,by have:=h.cnt; simp; omega,Nat.mod_lt _ (by omega),by have:=h.lt; have:=h.dle; omega⟩
 rw [h.eq,cfT_step f d hl]
 simp
theorem CfR.all {f0 d0 l0 f d:Nat} {ts:List Nat} (h:CfR f0 d0 l0 ts f d 0):cfT f0 d0 l0 = (ts,true):=by rw [h.eq,cfT_end]; simp
theorem CfR.some {f0 d0 l0 d l:Nat} {ts:List Nat} (h:CfR f0 d0 l0 ts 0 d l) (hl:l ≠ 0):cfT f0 d0 l0 = (ts,false):=by rw [h.eq,cfT_stop d hl]; simp
inductive TmR (g:Bool) (x y:List Nat) (most:Int):List (Bool × List Nat × List Nat) → Bool → Int → Prop where
 | bad (h:MayR g x y = false):TmR g x y most [] false 40
 | arg (h:MayR g x y = true) (hp:most < 1 ∨ 1024 < most):TmR g x y most [] false 1
 | ok (f:Nat) (h:MayR g x y = true) (hp:most = (f:Int) + 1) (hf:f ≤ 1023):TmR g x y most ((g && decide (flQ g (val x) (val y) ≠ 0),limbs (flQ g (val x) (val y)),[1]) :: (cfT f (val y) (flL g (val x) (val y))).1.map whN) (cfT f (val y) (flL g (val x) (val y))).2 0
theorem TmR.uniq {g:Bool} {x y:List Nat} {most:Int} {s t:List (Bool × List Nat × List Nat)} {a b:Bool} {e f:Int} (h:TmR g x y most s a e) (k:TmR g x y most t b f):s = t ∧ a = b ∧ e = f:=by
 cases h with
 | bad h =>
  cases k with
  | bad k => exact ⟨rfl,rfl,rfl⟩
  | arg k hp => rw [h] at k; cases k
  | ok f k hp hf => rw [h] at k; cases k
 | arg h hp =>
  cases k with
  | bad k => rw [h] at k; cases k
  | arg k hp => exact ⟨rfl,rfl,rfl⟩
  | ok f k hp hf => omega
 | ok f h hp hf =>
  cases k with
  | bad k => rw [h] at k; cases k
  | arg k hp => omega
  | ok f2 k hp2 hf2 =>
   obtain rfl:f = f2:=by omega
   exact ⟨rfl,rfl,rfl⟩
def TmPost (g:Bool) (x y:List Nat) (most:Int) (w:World) (e:Ending) (w':World):Prop :=
 ∃ a k c ps b er,e = .returned (.tuple #[.slice a k c,.bool b,.int .i64 er]) ∧ SlQ w' a k c ps ∧ TmR g x y most (ps.map conQ) b er ∧ Below w.heap.size w w'

theorem ok_unit:Ok [1]:=fun y hy => by simp at hy; omega
theorem flL_lt {g:Bool} {X Y:Nat} (hY:0 < Y):flL g X Y < Y:=by
 unfold flL
 have:=Nat.mod_lt X hY
 split
 ·rename_i h
  simp at h
  omega
 ·exact this

structure TmX (w wr:World) (v:Value) (k:Nat) (ps:List Nq) (c0:Bool × List Nat × List Nat) (f0 D0 L0:Nat) (ts:List Nat) (f D L:Nat) (ad:Option Addr) (md cd:Nat) (al:Option Addr) (ml cl:Nat):Prop where
 row:RowQ w wr v k ps
 sd:Sl wr ad md cd (limbs D)
 fd:FarB v ad (limbs D)
 sl:Sl wr al ml cl (limbs L)
 fl:FarB v al (limbs L)
 cf:CfR f0 D0 L0 ts f D L
 con:ps.map conQ = c0 :: ts.map whN
theorem TmX.cnt {w wr:World} {v:Value} {k:Nat} {ps:List Nq} {c0:Bool × List Nat × List Nat} {f0 D0 L0:Nat} {ts:List Nat} {f D L:Nat} {ad:Option Addr} {md cd:Nat} {al:Option Addr} {ml cl:Nat} (h:TmX w wr v k ps c0 f0 D0 L0 ts f D L ad md cd al ml cl):k + f = f0 + 1:=by
 have h1:=h.row.len
 have h2:=congrArg List.length h.con
 simp at h2
 have:=h.cf.cnt
 omega
theorem newFarB {w wr:World} {v:Value} {k:Nat} {ps:List Nq} (h:RowQ w wr v k ps) {a:Option Addr} {xs:List Nat} (h1:NewAt wr.heap.size a):FarB v a xs:=fun x hx _ e => by
 have:=(own_ge h.own _ e).2
 have:=h1 x hx
 omega
theorem FarB.none {a:Option Addr} {xs:List Nat} {wr:World} {m c:Nat} (hs:Sl wr a m c xs) {k c2:Nat}:FarB (.slice (some ⟨wr.heap.size,0,none⟩) k c2) a xs:=fun x hx hne e => by
 simp [Value.ownBlock] at e
 have:=hs.block_lt hne x hx
 omega
theorem TmX.next {w wr w2 w3 w4:World} {v:Value} {k g c2:Nat} {ps:List Nq} {c0:Bool × List Nat × List Nat} {f0 D0 L0:Nat} {ts:List Nat} {f D L:Nat} {ad:Option Addr} {md cd:Nat} {al:Option Addr} {ml cl:Nat} {o:Obj}
  (h:TmX w wr v k ps c0 f0 D0 L0 ts (f + 1) D L ad md cd al ml cl) (hL:L ≠ 0) {an:Option Addr} {mn cn:Nat} (b2:Below wr.heap.size wr w2) (sn:Sl w2 an mn cn (limbs (D % L))) (nn:NewAt wr.heap.size an) (b3:Below w2.heap.size w2 w3)
  (p:Nq) (hp:(Sl w3 p.a p.n p.c p.x ∧ Sl w3 p.b p.m p.d p.y) ∧ Ok p.x ∧ Ok p.y) (np:NewAt wr.heap.size p.a ∧ NewAt wr.heap.size p.b) (hc:conQ p = whN (D / L))
  (hown:w4.ownsRow w.heap.size 25 3 (.slice (some ⟨g,0,none⟩) (k + 1) c2) (k + 1) (celQ ps ++ [.bool p.g,.slice p.a p.n p.c,.slice p.b p.m p.d])) (hg:(w3.alloc o).grownBy w4 v.ownBlock) (hat:v.ownBlock = some g ∨ g = w3.heap.size + 1) :
  TmX w w4 (.slice (some ⟨g,0,none⟩) (k + 1) c2) (k + 1) (ps ++ [p]) c0 f0 D0 L0 (ts ++ [D / L]) f L (D % L) al ml cl an mn cn:=by
 have b23:=b2.trans (b3.mono b2.size)
 have r3:=h.row.below b23
 have farp:FarQ (fun j => v.ownBlock = some j) [p]:=by
  intro q hq
  obtain rfl:=List.mem_singleton.1 hq
  refine ⟨fun z hz _ e => ?_,fun z hz _ e => ?_⟩
  ·have:=(own_ge h.row.own _ e).2; have:=np.1 z hz; omega
  ·have:=(own_ge h.row.own _ e).2; have:=np.2 z hz; omega
 have sl3:=h.sl.below b23
 have sn3:=sn.below b3
 have fn:FarB v an (limbs (D % L)):=newFarB h.row nn
 refine ⟨r3.app p hp farp hown hg hat,(h.fl.step (k2:=k + 1) (c2:=c2) sl3 hg hat).1,(h.fl.step (k2:=k + 1) (c2:=c2) sl3 hg hat).2,(fn.step (k2:=k + 1) (c2:=c2) sn3 hg hat).1,(fn.step (k2:=k + 1) (c2:=c2) sn3 hg hat).2,h.cf.next hL,?_⟩
 rw [List.map_append,h.con]
 simp [hc]
theorem TmX.post {w wr:World} {v:Value} {k:Nat} {ps:List Nq} {g:Bool} {x y:List Nat} {f0:Nat} {ts:List Nat} {f D L:Nat} {ad:Option Addr} {md cd:Nat} {al:Option Addr} {ml cl:Nat} {most:Int}
  (h:TmX w wr v k ps (g && decide (flQ g (val x) (val y) ≠ 0),limbs (flQ g (val x) (val y)),[1]) f0 (val y) (flL g (val x) (val y)) ts f D L ad md cd al ml cl) (hm:MayR g x y = true) (hp:most = (f0:Int) + 1) (hf:f0 ≤ 1023) (hend:L = 0 ∨ f = 0) {W:World} (hb:Below wr.heap.size wr W) :
  TmPost g x y most w (.returned (.tuple #[v,.bool (decide (L = 0)),.int .i64 0])) W:=by
 obtain ⟨a,c,rfl,hs⟩:=(h.row.below hb).form
 refine ⟨a,k,c,ps,decide (L = 0),0,rfl,hs,?_,(h.row.below hb).bel⟩
 rw [h.con]
 have key:cfT f0 (val y) (flL g (val x) (val y)) = (ts,decide (L = 0)):=by
  by_cases hL:L = 0
  ·subst hL
   rw [h.cf.all]
   simp
  ·obtain rfl:f = 0:=by omega
   rw [h.cf.some hL]
   simp [hL]
 have:=TmR.ok (g:=g) (x:=x) (y:=y) (most:=most) f0 hm hp hf
 rw [key] at this
 exact this
theorem limbs_two_len (k:Nat):(limbs (2 ^ k)).length ≤ k + 1:=by
 refine rep_len_le (limbs_rep _) ?_
 have h1:2 ^ k ≤ 4294967296 ^ k:=Nat.pow_le_pow_left (by decide) k
 have h2:4294967296 ^ k < 4294967296 ^ (k + 1):=Nat.pow_lt_pow_right (by decide) (Nat.lt_succ_self k)
 exact Nat.lt_of_le_of_lt h1 h2
theorem limbs_pow_len (v k:Nat):(limbs (v * 2 ^ k)).length ≤ (limbs v).length + (k + 1):=by
 refine rep_len_le (limbs_rep _) ?_
 rw [Nat.pow_add]
 have h1:2 ^ k ≤ 4294967296 ^ k:=Nat.pow_le_pow_left (by decide) k
 have h2:4294967296 ^ k < 4294967296 ^ (k + 1):=Nat.pow_lt_pow_right (by decide) (Nat.lt_succ_self k)
 exact Nat.mul_lt_mul_of_lt_of_lt (limbs_lt v) (Nat.lt_of_le_of_lt h1 h2)
end Go.Proofs.YtpbcnkcnjnefiaaGreatDoor
