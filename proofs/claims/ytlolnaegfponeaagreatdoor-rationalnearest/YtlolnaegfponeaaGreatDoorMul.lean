/- Sub -/
import Derived.Test.YtlolnaegfponeaaGreatDoorAdd
import Derived.Test.YtlolnaegfponeaaGreatDoorCmp
import Derived.Test.YtlolnaegfponeaaGreatDoorGiv
namespace Go.Proofs.YtlolnaegfponeaaGreatDoor
open Go.RowKit Go.Deep
set_option linter.unusedVariables false
set_option maxHeartbeats 2000000 in
theorem nsub_any (a1 a2:Option Addr) (n1 c1 n2 c2:Nat) (xs ys:List Nat) (w:World) (h1:Sl w a1 n1 c1 xs) (h2:Sl w a2 n2 c2 ys) (ox:Ok xs) (oy:Ok ys) :
  Calls Tryz.prog 156 #[.slice a1 n1 c1,.slice a2 n2 c2] w fun e w' => Res2 w w' (subL xs ys) e:=by
 have K1:=may_any a1 n1 c1 xs w h1
 have K2:=may_any a2 n2 c2 ys w h2
 by_cases m1:MayL xs = true
 ·by_cases m2:MayL ys = true
  ·rw [m1] at K1; rw [m2] at K2
   have K1':=Hd K1
   have K2':=Hd K2
   have nx:=MayL.norm m1
   have ny:=MayL.norm m2
   have hl1:n1 ≤ 2048:=by have:=h1.len; have:=MayL.len m1; omega
   have hl2:n2 ≤ 2048:=by have:=h2.len; have:=MayL.len m2; omega
   by_cases hlt:val xs < val ys
   ·have HC:=Hd (show subL xs ys = ([],21) from by simp [subL,m1,m2,hlt])
    have KC:=compare_any a1 a2 n1 c1 n2 c2 xs ys w h1 h2 ox oy nx ny
    rw [cmpN_lt hlt] at KC
    have KC':=Hd KC
    clear KC K1 K2 m1 m2 h1 h2 ox oy nx ny hlt
    go_enter Tryz.func156,Tryz.ntmps156
    go_wp2_with fail
    refine (Uh K1').mono ?_
    rintro e w' ⟨rfl,hw⟩
    obtain rfl:=hw.symm
    go_wp2_with fail
    refine (Uh K2').mono ?_
    rintro e w' ⟨rfl,hw⟩
    obtain rfl:=hw.symm
    go_wp2_with fail
    refine (Uh KC').mono ?_
    rintro e w' ⟨rfl,k,rfl⟩
    go_wp2
    go_ret2
    rw [Uh HC]
    exact ⟨none,0,0,rfl,sl_nil _,newAt_nil _,bel_drewN (Below.refl _ _) k⟩
   ·have HC:=Hd (show subL xs ys = (limbs (val xs - val ys),0) from by simp [subL,m1,m2,hlt])
    have hle:n2 ≤ n1:=by
     rcases Nat.lt_or_ge n1 n2 with h | h
     ·exact absurd (len_lt_val ox ny (by rw [h1.len,h2.len]; exact h)) hlt
     ·exact h
    have KC:=compare_any a1 a2 n1 c1 n2 c2 xs ys w h1 h2 ox oy nx ny
    have hge:¬ cmpN (val xs) (val ys) < 0:=by unfold cmpN; rw [if_neg hlt]; split <;> omega
    have KS:=fun k => subtract_any a1 a2 n1 c1 n2 c2 xs ys (w.drewN k) (h1.drewN k) (h2.drewN k) ox oy (by omega) (by omega) (by omega) hle
    generalize cmpN (val xs) (val ys) = cc at KC hge
    have KC':=Hd KC
    have KS':=Hd KS
    clear KC KS K1 K2 m1 m2 h1 h2 ox oy nx ny hlt hle
    go_enter Tryz.func156,Tryz.ntmps156
    go_wp2_with fail
    refine (Uh K1').mono ?_
    rintro e w' ⟨rfl,hw⟩
    obtain rfl:=hw.symm
    go_wp2_with fail
    refine (Uh K2').mono ?_
    rintro e w' ⟨rfl,hw⟩
    obtain rfl:=hw.symm
    go_wp2_with fail
    refine (Uh KC').mono ?_
    rintro e w' ⟨rfl,k,rfl⟩
    go_wp2_with fail
    refine (Uh KS' k).mono ?_
    rintro e w1 ⟨a',m,zs,rfl,hs,hr,ha,hb⟩
    have HR:=Hd (And.intro hs (And.intro hr (And.intro ha hb)))
    clear hs hr ha hb
    go_wp2
    go_ret2
    rw [Uh HC,← (Uh HR).2.1.eq]
    exact ⟨a',m,m,rfl,(Uh HR).1,(Uh HR).2.2.1,(bel_drewN (Below.refl _ _) k).trans (Uh HR).2.2.2⟩
  ·have m2':MayL ys = false:=by simpa using m2
   rw [m1] at K1; rw [m2'] at K2
   have K1':=Hd K1
   have K2':=Hd K2
   have HC:=Hd (show subL xs ys = ([],20) from by simp [subL,m2'])
   clear K1 K2 m1 m2 m2' h1 h2 ox oy
   go_enter Tryz.func156,Tryz.ntmps156
   go_wp2_with fail
   refine (Uh K1').mono ?_
   rintro e w' ⟨rfl,hw⟩
   obtain rfl:=hw.symm
   go_wp2_with fail
   refine (Uh K2').mono ?_
   rintro e w' ⟨rfl,hw⟩
   obtain rfl:=hw.symm
   go_wp2
   go_ret2
   rw [Uh HC]
   exact ⟨none,0,0,rfl,sl_nil _,newAt_nil _,Below.refl _ _⟩
 ·have m1':MayL xs = false:=by simpa using m1
  rw [m1'] at K1
  have K1':=Hd K1
  have HC:=Hd (show subL xs ys = ([],20) from by simp [subL,m1'])
  clear K1 K2 m1 m1' h1 h2 ox oy
  go_enter Tryz.func156,Tryz.ntmps156
  go_wp2_with fail
  refine (Uh K1').mono ?_
  rintro e w' ⟨rfl,hw⟩
  obtain rfl:=hw.symm
  go_wp2
  go_ret2
  rw [Uh HC]
  exact ⟨none,0,0,rfl,sl_nil _,newAt_nil _,Below.refl _ _⟩
theorem valF_ge (xs:List Nat) (n:Nat) (h:xs.length ≤ n):valF (fun i => xs.getD i 0) n = val xs:=by
 rw [← valF_pad xs n h]
 apply valF_congr
 intro i hi
 by_cases e:i < xs.length
 ·simp [e]
 ·rw [if_neg e]; exact getD_ge (by omega)

structure PlusR (wr w:World) (s t:Nat) (v:Value) (k c:Nat) (zs:List Nat):Prop where
 len:zs.length = k
 ok:Ok zs
 cle:c ≤ 1
 own:wr.ownsRow w.heap.size 43 1 v k (vals zs)
 val:val zs + 4294967296 ^ k * c = s + t
 bel:Below w.heap.size w wr

theorem PlusR.step {wr w w1:World} {s t:Nat} {v v':Value} {k c:Nat} {zs:List Nat} {o:Obj} (h:PlusR wr w s t v k c zs) (x y:Nat) (hx:x < 4294967296) (hy:y < 4294967296)
  (hown:w1.ownsRow w.heap.size 43 1 v' (k + 1) (vals zs ++ [.int .u32 (adl x y c:Nat)])) (hg:(wr.alloc o).grownBy w1 v.ownBlock) :
  PlusR w1 w (s + 4294967296 ^ k * x) (t + 4294967296 ^ k * y) v' (k + 1) (adc x y c) (zs ++ [adl x y c]):=by
 have hs:=h.bel.size
 refine ⟨by simp [h.len],?_,adc_le x y c hx hy h.cle,by simpa [vals] using hown,?_,?_⟩
 ·intro z hz
  rcases List.mem_append.1 hz with hz | hz
  ·exact h.ok z hz
  ·simp at hz; subst hz; exact adl_lt _ _ _
 ·rw [val_append,h.len]
  simp only [Go.Proofs.YtlolnaegfponeaaGreatDoor.val,Nat.mul_zero,Nat.add_zero]
  have e:=ad_eq x y c
  rw [Nat.pow_succ]
  have:4294967296 ^ k * adl x y c + 4294967296 ^ k * 4294967296 * adc x y c = 4294967296 ^ k * x + 4294967296 ^ k * y + 4294967296 ^ k * c:=by
   rw [Nat.mul_assoc,← Nat.mul_add,e,Nat.mul_add,Nat.mul_add]
  have:=h.val
  omega
 ·exact Below.grown (h.bel.alloc (by omega) o) hg (by simp; omega) (fun k hk => (own_ge h.own k hk).1)

theorem own_sl {w:World} {base k:Nat} {v:Value} {zs:List Nat} (h:w.ownsRow base 43 1 v k (vals zs)):∃ a c,v = .slice a k c ∧ Sl w a k c zs ∧ NewAt base a:=by
 have hl:zs.length = k:=by simpa [vals] using h.1
 rcases h.2 with ⟨e,h0⟩ | ⟨g,cap,cur,e,hb,h5,h6,h7,h8,h9⟩
 ·subst e h0
  have:zs = []:=List.eq_nil_of_length_eq_zero hl
  subst this
  exact ⟨none,0,rfl,⟨rfl,Nat.le_refl _,Nat.zero_le _,.inl rfl⟩,fun x hx => by cases hx⟩
 ·subst e
  exact ⟨_,_,rfl,sl_of_own h,fun x hx => by cases hx; exact hb⟩

theorem minus_arith {P A t s c l y x b:Nat} (h1:A + t = s + P * c) (e:l + y + c = x + 4294967296 * b):A + P * l + (t + P * y) = s + P * x + P * 4294967296 * b:=by
 have h2:P * l + P * y + P * c = P * x + P * 4294967296 * b:=by
  rw [← Nat.mul_add,← Nat.mul_add,e,Nat.mul_add,Nat.mul_assoc]
 generalize P * l = a1 at *
 generalize P * y = a2 at *
 generalize P * c = a3 at *
 generalize P * x = a4 at *
 generalize P * 4294967296 * b = a5 at *
 omega

structure MinusR (wr w:World) (s t:Nat) (v:Value) (k c:Nat) (zs:List Nat):Prop where
 len:zs.length = k
 ok:Ok zs
 cle:c ≤ 1
 own:wr.ownsRow w.heap.size 43 1 v k (vals zs)
 val:val zs + t = s + 4294967296 ^ k * c
 bel:Below w.heap.size w wr

theorem MinusR.step {wr w w1:World} {s t:Nat} {v v':Value} {k c:Nat} {zs:List Nat} {o:Obj} (h:MinusR wr w s t v k c zs) (x y:Nat) (hx:x < 4294967296) (hy:y < 4294967296)
  (hown:w1.ownsRow w.heap.size 43 1 v' (k + 1) (vals zs ++ [.int .u32 (lim x y c:Nat)])) (hg:(wr.alloc o).grownBy w1 v.ownBlock) :
  MinusR w1 w (s + 4294967296 ^ k * x) (t + 4294967296 ^ k * y) v' (k + 1) (bor x (y + c)) (zs ++ [lim x y c]):=by
 have hs:=h.bel.size
 refine ⟨by simp [h.len],?_,bor_le _ _,by simpa [vals] using hown,?_,?_⟩
 ·intro z hz
  rcases List.mem_append.1 hz with hz | hz
  ·exact h.ok z hz
  ·simp at hz; subst hz; exact lim_lt _ _ _
 ·rw [val_append,h.len]
  simp only [Go.Proofs.YtlolnaegfponeaaGreatDoor.val,Nat.mul_zero,Nat.add_zero]
  rw [Nat.pow_succ]
  exact minus_arith h.val (lim_eq x y c hx hy h.cle)
 ·exact Below.grown (h.bel.alloc (by omega) o) hg (by simp; omega) (fun k hk => (own_ge h.own k hk).1)
def Ow (w:World) (B:Nat) (a:Option Addr) (n c:Nat) (xs:List Nat):Prop:=w.ownsRow B 43 1 (.slice a n c) n (vals xs)
def AtB (a:Option Addr) (k:Nat):Prop:=∃ x,a = some x ∧ x.block = k
theorem atB_some {g o:Nat}:AtB (some ⟨g,o,none⟩) g:=⟨_,rfl,rfl⟩
theorem atB_none {k:Nat} (h:AtB none k):False:=by obtain ⟨x,e,_⟩:=h; cases e
theorem atB_own {a:Option Addr} {n c k:Nat}:(Value.slice a n c).ownBlock = some k ↔ AtB a k:=by
 cases a with
 | none => exact ⟨fun h => (by cases h),fun h => (atB_none h).elim⟩
 | some x => exact ⟨fun h => ⟨x,rfl,by simpa [Value.ownBlock] using h⟩,fun ⟨y,e,h⟩ => (by cases e; simp [Value.ownBlock,h])⟩

theorem Ow.nil (w:World) (B:Nat):Ow w B none 0 0 []:=World.ownsRow_nil _ _ _ _
theorem Ow.len {w:World} {B n c:Nat} {a:Option Addr} {xs:List Nat} (h:Ow w B a n c xs):xs.length = n:=by have:=h.1; simpa [vals] using this
theorem Ow.sl {w:World} {B n c:Nat} {a:Option Addr} {xs:List Nat} (h:Ow w B a n c xs):Sl w a n c xs:=by
 obtain ⟨a',c',e,k,_⟩:=own_sl h
 cases e; exact k
theorem Ow.new {w:World} {B n c:Nat} {a:Option Addr} {xs:List Nat} (h:Ow w B a n c xs):NewAt B a:=by
 obtain ⟨a',c',e,_,k⟩:=own_sl h
 cases e; exact k
theorem Ow.lt {w:World} {B n c k:Nat} {a:Option Addr} {xs:List Nat} (h:Ow w B a n c xs) (hk:AtB a k):B ≤ k ∧ k < w.heap.size:=own_ge h k (atB_own.2 hk)
theorem Ow.mono {w:World} {B B' n c:Nat} {a:Option Addr} {xs:List Nat} (h:Ow w B a n c xs) (hb:B' ≤ B):Ow w B' a n c xs :=
 ⟨h.1,h.2.imp id (fun ⟨g,cap,cur,e,h1,h2⟩ => ⟨g,cap,cur,e,Nat.le_trans hb h1,h2⟩)⟩
theorem Ow.chg {S:Nat → Prop} {w w':World} {B n c:Nat} {a:Option Addr} {xs:List Nat} (h:Ow w B a n c xs) (k:Chg S w w') (hs:∀ k,AtB a k → ¬ S k):Ow w' B a n c xs :=
 ownsRow_chg h k (fun k hk => hs k (atB_own.1 hk))
theorem Ow.below {w w':World} {B n c:Nat} {a:Option Addr} {xs:List Nat} (h:Ow w B a n c xs) (k:Below w.heap.size w w'):Ow w' B a n c xs :=
 h.chg (S:=fun _ => False) (.of_below k) (fun _ _ => id)
theorem Ow.form {w:World} {B n c:Nat} {a:Option Addr} {xs:List Nat} (h:Ow w B a n c xs) (hn:0 < n):∃ g,a = some ⟨g,0,none⟩ ∧ B ≤ g ∧ g < w.heap.size:=by
 obtain ⟨g,cap,e,h1,h2⟩:=World.ownsRow.form h hn
 cases e
 exact ⟨g,rfl,h1,h2⟩
theorem Ow.cell {w:World} {B g n c i:Nat} {xs:List Nat} (h:Ow w B (some ⟨g,0,none⟩) n c xs) (hi:i < n):w.cell? ⟨g,i,none⟩ = some (.int .u32 (xs.getD i 0:Nat)):=by
 have:=World.ownsRow.cellAt h i (by omega)
 rw [this,vals_get (by rw [h.len]; exact hi)]
theorem Ow.froz {w:World} {B g n c i:Nat} {xs:List Nat} (h:Ow w B (some ⟨g,0,none⟩) n c xs):w.frozen? ⟨g,i,none⟩ = false:=World.ownsRow.frozenAt h i
theorem Ow.set {w:World} {B g n c:Nat} {xs:List Nat} (h:Ow w B (some ⟨g,0,none⟩) n c xs) (j x:Nat):Ow (w.setCell ⟨g,j,none⟩ (.int .u32 (x:Nat))) B (some ⟨g,0,none⟩) n c (xs.set j x):=by
 have:=(World.ownsRow.stored h j (.int .u32 (x:Nat))).1
 have e:(vals xs).set j (.int .u32 (x:Nat)) = vals (xs.set j x):=by simp [vals,List.map_set]
 rw [e] at this
 exact this
theorem Ow.take {w:World} {B n c m:Nat} {a:Option Addr} {xs:List Nat} (h:Ow w B a n c xs) (hm:m ≤ n):Ow w B a m c (xs.take m):=by
 have hl:=h.len
 refine ⟨by simp [vals,hl]; omega,?_⟩
 rcases h.2 with ⟨e,h0⟩ | ⟨g,cap,cur,e,h1,h2,h3,h4,h5,h6⟩
 ·cases e; left; exact ⟨by congr; omega,by omega⟩
 ·cases e
  right
  refine ⟨g,c,cur,rfl,h1,h2,by omega,h4,h5,?_⟩
  have e2:vals (xs.take m) = (vals xs).take m:=by simp [vals]
  rw [e2,← h6,List.take_take]
  congr 1; omega
theorem Ow.made (w:World) (n:Nat) (hn:n ≤ 70368744177600):Ow (w.alloc (.cells (madeCells #[.int .u32 0] n) 43)) w.heap.size (some ⟨w.heap.size,0,none⟩) n n (List.replicate n 0):=by
 have:=World.ownsRow_lit (base:=w.heap.size) (e:=43) (size:=1) w (madeCells #[.int .u32 0] n) n (Nat.le_refl _) (by unfold maxLen; omega) (by simp [madeCells])
 rw [toList_madeCells_one] at this
 have e:vals (List.replicate n 0) = List.replicate n (.int .u32 0):=by simp [vals]
 unfold Ow
 rw [e]
 exact this

theorem TrimAt.limbs {xs:List Nat} {m:Nat} (h:TrimAt xs m) (ok:Ok xs):xs.take m = limbs (val xs):=(h.rep ok).eq
theorem limbs_ok (v:Nat):Ok (limbs v):=(limbs_rep v).ok
theorem limbs_norm (v:Nat):Norm (limbs v):=(limbs_rep v).norm
theorem limbs_v (v:Nat):val (limbs v) = v:=(limbs_rep v).val
theorem limbs_len {v j:Nat} (hv:v < 4294967296 ^ j):(limbs v).length ≤ j:=by
 rcases Nat.lt_or_ge j (limbs v).length with k | k
 ·exfalso
  have hz:limbs v ≠ []:=by intro e; rw [e] at k; simp at k
  have h1:=val_ge_of_norm (limbs_norm v) hz
  rw [limbs_v] at h1
  have h2:4294967296 ^ j ≤ 4294967296 ^ ((limbs v).length - 1):=Nat.pow_le_pow_right (by decide) (by omega)
  omega
 ·exact k
theorem limbs_lt (v:Nat):v < 4294967296 ^ (limbs v).length:=by have:=val_lt (limbs_ok v); rwa [limbs_v] at this
theorem limbs_eq_nil {v:Nat}:limbs v = [] ↔ v = 0:=by
 constructor
 ·intro h; have:=limbs_v v; rw [h] at this; exact this.symm
 ·rintro rfl; rfl
theorem valF_add (f:Nat → Nat) (i:Nat):∀ (m:Nat),valF f (i + m) = valF f i + 4294967296 ^ i * valF (fun k => f (i + k)) m
 | 0 => by simp [valF]
 | m + 1 => by
  rw [← Nat.add_assoc]
  simp only [valF]
  rw [valF_add f i m,Nat.pow_add,Nat.mul_add,Nat.mul_assoc]
  omega

def mdl (x y r c:Nat):Nat:=(x * y + r + c) % 4294967296
def mdh (x y r c:Nat):Nat:=(x * y + r + c) / 4294967296
theorem mdl_lt (x y r c:Nat):mdl x y r c < 4294967296:=by unfold mdl; exact Nat.mod_lt _ (by decide)
theorem md_eq (x y r c:Nat):mdl x y r c + 4294967296 * mdh x y r c = x * y + r + c:=by unfold mdl mdh; exact Nat.mod_add_div _ _
theorem mul_bound {x y:Nat} (hx:x < 4294967296) (hy:y < 4294967296):x * y ≤ 18446744065119617025:=by
 have:x * y ≤ 4294967295 * 4294967295:=Nat.mul_le_mul (by omega) (by omega)
 omega
theorem mdh_lt {x y r c:Nat} (hx:x < 4294967296) (hy:y < 4294967296) (hr:r < 4294967296) (hc:c < 4294967296):mdh x y r c < 4294967296:=by
 have:=mul_bound hx hy
 unfold mdh
 generalize x * y = p at *
 omega
theorem mdl_int (x y r c:Nat):((x:Int) * y + r + c) % 4294967296 = ((mdl x y r c:Nat):Int):=by
 unfold mdl
 rw [← Int.natCast_mul]
 generalize x * y = p
 omega
theorem mdh_int (x y r c:Nat):((x:Int) * y + r + c) / 4294967296 = ((mdh x y r c:Nat):Int):=by
 unfold mdh
 rw [← Int.natCast_mul]
 generalize x * y = p
 omega

structure RowR (wr w:World) (bz oz nz:Nat) (f:Nat → Nat) (i y:Nat) (xs:List Nat) (j c:Nat) (g:Nat → Nat):Prop where
 cle:c < 4294967296
 fn:Fn wr bz oz nz g
 ok:∀ k,k < nz → g k < 4294967296
 lo:∀ k,k < i → g k = f k
 hi:∀ k,i + j ≤ k → k < nz → g k = f k
 val:valF (fun k => g (i + k)) j + 4294967296 ^ j * c = valF (fun k => f (i + k)) j + valF (fun k => xs.getD k 0) j * y
 upd:Upd bz oz (oz + nz) w wr

theorem row_arith {P A F X c l h x y r:Nat} (h1:A + P * c = F + X * y) (e:l + 4294967296 * h = x * y + r + c):A + P * l + P * 4294967296 * h = F + P * r + (X + P * x) * y:=by
 have h2:P * l + P * 4294967296 * h = P * (x * y) + P * r + P * c:=by
  rw [Nat.mul_assoc,← Nat.mul_add,e,Nat.mul_add,Nat.mul_add]
 rw [Nat.add_mul,Nat.mul_assoc P x y]
 generalize P * l = a1 at *
 generalize P * 4294967296 * h = a2 at *
 generalize P * (x * y) = a3 at *
 generalize P * r = a4 at *
 generalize P * c = a5 at *
 generalize X * y = a6 at *
 omega

theorem RowR.step {wr w:World} {bz oz nz:Nat} {f:Nat → Nat} {i y:Nat} {xs:List Nat} {j c:Nat} {g:Nat → Nat} (h:RowR wr w bz oz nz f i y xs j c g) (hj:i + j < nz) (hx:xs.getD j 0 < 4294967296) (hy:y < 4294967296) :
  RowR (wr.setCell ⟨bz,oz + i + j,none⟩ (.int .u32 (mdl (xs.getD j 0) y (g (i + j)) c:Nat))) w bz oz nz f i y xs (j + 1) (mdh (xs.getD j 0) y (g (i + j)) c) (fun k => if k = i + j then mdl (xs.getD j 0) y (g (i + j)) c else g k):=by
 have ew:oz + i + j = oz + (i + j):=by omega
 rw [ew]
 refine ⟨mdh_lt hx hy (h.ok _ hj) h.cle,h.fn.set (i + j) _ hj,?_,?_,?_,?_,h.upd.set _ _ (by omega) (by omega)⟩
 ·intro k hk
  by_cases e:k = i + j
  ·simp only [e,if_true]; exact mdl_lt _ _ _ _
  ·simp only [e,if_false]; exact h.ok k hk
 ·intro k hk
  have:k ≠ i + j:=by omega
  simp only [this,if_false]; exact h.lo k hk
 ·intro k h1 h2
  have:k ≠ i + j:=by omega
  simp only [this,if_false]; exact h.hi k (by omega) h2
 ·simp only [valF]
  rw [valF_congr (g:=fun k => g (i + k)) (fun k hk => by rw [if_neg (by omega)]),if_pos trivial,Nat.pow_succ]
  have e:=md_eq (xs.getD j 0) y (g (i + j)) c
  have:=row_arith h.val e
  rw [h.hi (i + j) (Nat.le_refl _) hj] at this ⊢
  exact this

theorem RowR.drewN {wr w:World} {bz oz nz:Nat} {f:Nat → Nat} {i y:Nat} {xs:List Nat} {j c:Nat} {g:Nat → Nat} (h:RowR wr w bz oz nz f i y xs j c g) (k:Nat):RowR (wr.drewN k) w bz oz nz f i y xs j c g:=⟨h.cle,h.fn,h.ok,h.lo,h.hi,h.val,h.upd.drewN k⟩

structure RowsR (wr w:World) (bz oz nz:Nat) (xs ys:List Nat) (i:Nat) (f:Nat → Nat):Prop where
 fn:Fn wr bz oz nz f
 ok:∀ k,k < nz → f k < 4294967296
 zero:∀ k,i + xs.length ≤ k → k < nz → f k = 0
 val:valF f (i + xs.length) = Go.Proofs.YtlolnaegfponeaaGreatDoor.val xs * valF (fun k => ys.getD k 0) i
 upd:Upd bz oz (oz + nz) w wr

theorem RowsR.step {wr w w1:World} {bz oz nz:Nat} {xs ys:List Nat} {i c:Nat} {f g:Nat → Nat} (h:RowsR wr w bz oz nz xs ys i f) (hr:RowR w1 w bz oz nz f i (ys.getD i 0) xs xs.length c g) (hi:i + xs.length < nz) :
  RowsR (w1.setCell ⟨bz,oz + i + xs.length,none⟩ (.int .u32 (c:Nat))) w bz oz nz xs ys (i + 1) (fun k => if k = i + xs.length then c else g k):=by
 have ew:oz + i + xs.length = oz + (i + xs.length):=by omega
 rw [ew]
 refine ⟨hr.fn.set _ _ hi,?_,?_,?_,hr.upd.set _ _ (by omega) (by omega)⟩
 ·intro k hk
  by_cases e:k = i + xs.length
  ·simp only [e,if_true]; exact hr.cle
  ·simp only [e,if_false]; exact hr.ok k hk
 ·intro k h1 h2
  have:k ≠ i + xs.length:=by omega
  simp only [this,if_false]
  rw [hr.hi k (by omega) h2]; exact h.zero k (by omega) h2
 ·have e1:i + 1 + xs.length = i + (xs.length + 1):=by omega
  rw [e1,valF_add]
  simp only [valF]
  rw [if_pos trivial]
  rw [valF_congr (f:=fun k => if k = i + xs.length then c else g k) (g:=f) (fun k hk => by rw [if_neg (by omega)]; exact hr.lo k hk)]
  rw [valF_congr (f:=fun k => if i + k = i + xs.length then c else g (i + k)) (g:=fun k => g (i + k)) (fun k hk => by rw [if_neg (by omega)])]
  rw [hr.val,valF_list]
  have hv:=h.val
  rw [valF_add] at hv
  rw [Nat.mul_add,Nat.mul_add,← Nat.add_assoc,hv]
  have:4294967296 ^ i * (Go.Proofs.YtlolnaegfponeaaGreatDoor.val xs * ys.getD i 0) = Go.Proofs.YtlolnaegfponeaaGreatDoor.val xs * (4294967296 ^ i * ys.getD i 0):=by rw [Nat.mul_left_comm]
  rw [this]

theorem RowsR.drewN {wr w:World} {bz oz nz:Nat} {xs ys:List Nat} {i:Nat} {f:Nat → Nat} (h:RowsR wr w bz oz nz xs ys i f) (k:Nat):RowsR (wr.drewN k) w bz oz nz xs ys i f:=⟨h.fn,h.ok,h.zero,h.val,h.upd.drewN k⟩

theorem RowsR.begin {wr w:World} {bz oz nz:Nat} {xs ys:List Nat} {i:Nat} {f:Nat → Nat} (h:RowsR wr w bz oz nz xs ys i f) (y:Nat):RowR wr w bz oz nz f i y xs 0 0 f :=
 ⟨by decide,h.fn,h.ok,fun _ _ => rfl,fun _ _ _ => rfl,by simp [valF],h.upd⟩

theorem rows_step {wr w w1:World} {bz oz nz n1:Nat} {xs ys:List Nat} {i c:Nat} {f g:Nat → Nat} (hl:xs.length = n1) (h:RowsR wr w bz oz nz xs ys i f) (hr:RowR w1 w bz oz nz f i (ys.getD i 0) xs n1 c g) (hi:i + n1 < nz) :
  RowsR (w1.setCell ⟨bz,oz + i + n1,none⟩ (.int .u32 (c:Nat))) w bz oz nz xs ys (i + 1) (fun k => if k = i + n1 then c else g k):=by
 subst hl
 exact h.step hr hi

set_option maxHeartbeats 4000000 in
theorem rows_some (bz oz nz cz b1 o1 n1 c1 b2 o2 n2 c2:Nat) (xs ys:List Nat) (w:World) (hb1:b1 ≠ bz ∨ o1 + xs.length ≤ oz ∨ oz + nz ≤ o1) (hb2:b2 ≠ bz ∨ o2 + ys.length ≤ oz ∨ oz + nz ≤ o2) (hl1:xs.length = n1) (hl2:ys.length = n2) (hnz:n1 + n2 = nz) (hcz:nz ≤ cz) (hm:cz ≤ maxLen) (ox:Ok xs) (oy:Ok ys)
  (hz:Fn w bz oz nz (fun _ => 0)) (hx:Cells w b1 o1 xs) (hy:Cells w b2 o2 ys) :
  Calls Tryz.prog 207 #[.slice (some ⟨bz,oz,none⟩) nz cz,.slice (some ⟨b1,o1,none⟩) n1 c1,.slice (some ⟨b2,o2,none⟩) n2 c2] w fun e w' => e = .returned (.tuple #[]) ∧ ∃ f',Fn w' bz oz nz f' ∧ (∀ i,i < nz → f' i < 4294967296) ∧
   valF f' nz = val xs * val ys ∧ Upd bz oz (oz + nz) w w':=by
 unfold maxLen at hm
 have HL1:=Hd hl1
 have HL2:=Hd hl2
 have HNZ:=Hd hnz
 have HB1:=Hd hb1
 have HB2:=Hd hb2
 have hnz1:n1 + n2 ≤ nz:=by omega
 have hR0:RowsR w w bz oz nz xs ys 0 (fun _ => 0):=⟨hz,fun _ _ => by decide,fun _ _ _ => rfl,by simp [valF,valF_zero],Upd.refl _ _ _ _⟩
 clear hl1 hl2 hnz hb1 hb2
 go_enter Tryz.func207,Tryz.ntmps207
 go_wp2
 go_loopw [13] (fun i wr => ∃ k:Nat,∃ f:Nat → Nat,k ≤ n2 ∧ i = .int .i64 k ∧ RowsR wr w bz oz nz xs ys k f) (fun i _ => n2 - (intOf i).toNat)
 case atStart => exact ⟨0,_,Nat.zero_le _,rfl,hR0⟩
 case round =>
  clear hR0 hz
  obtain ⟨k,f,hk,rfl,hR⟩:=hrel
  by_cases hlt:k < n2
  ·have hlt':(k:Int) < (n2:Int):=by omega
   have hs1:(k:Int) + (n1:Int) + 1 ≤ (cz:Int):=by omega
   have hY:=oy.getD k
   obtain ⟨wo,rfl⟩:∃ wo:World,wo = wr:=⟨_,rfl⟩
   have HR:=Hd hR
   clear hR
   have hrl:k + n1 + 1 - k = n1 + 1:=by omega
   go_wp2_with fail
   go_loopw [8,31] (fun cv jv wr => ∃ j c:Nat,∃ g:Nat → Nat,j ≤ n1 ∧ jv = .int .i64 j ∧ cv = .int .u64 (c:Nat) ∧ RowR wr w bz oz nz f k (ys.getD k 0) xs j c g) (fun _ jv _ => n1 - (intOf jv).toNat)
   case atStart => exact ⟨0,0,f,Nat.zero_le _,rfl,rfl,(Uh HR).begin _⟩
   case round =>
    obtain ⟨j,c,g,hj,rfl,rfl,hQ⟩:=hrel
    have hc0:=hQ.cle
    by_cases hjl:j < n1
    ·have hjl':(j:Int) < (n1:Int):=by omega
     have hjl2:(j:Int) < (n1:Int) + 1:=by omega
     have g1:=hQ.upd.cells hx (Uh HB1) j (by rw [Uh HL1]; exact hjl)
     have g2:=hQ.upd.cells hy (Uh HB2) k (by rw [Uh HL2]; exact hlt)
     have g3:=(hQ.fn (k + j) (by omega)).1
     have g4:=(hQ.fn (k + j) (by omega)).2
     rw [← Nat.add_assoc] at g3 g4
     have bx:=ox.getD j
     have br:=hQ.ok (k + j) (by omega)
     have HS:=Hd (hQ.step (by omega) bx hY)
     have mb:((xs.getD j 0:Nat):Int) * ((ys.getD k 0:Nat):Int) ≤ 18446744065119617025:=by
      have:=mul_bound bx hY
      rw [← Int.natCast_mul]; omega
     have mb0:0 ≤ ((xs.getD j 0:Nat):Int) * ((ys.getD k 0:Nat):Int):=Int.mul_nonneg (by omega) (by omega)
     have e1:=mdl_int (xs.getD j 0) (ys.getD k 0) (g (k + j)) c
     have e2:=mdh_int (xs.getD j 0) (ys.getD k 0) (g (k + j)) c
     generalize xs.getD j 0 = x at g1 bx HS mb mb0 e1 e2
     generalize hyy:ys.getD k 0 = y at g2 HS mb mb0 e1 e2 hY
     have HY:=Hd hyy
     generalize g (k + j) = r at g3 br HS e1 e2
     clear hQ hyy hx hy
     go_wp2_with fail
     go_quiet (fail)
     go_wp2
     exact ⟨⟨j + 1,_,_,by omega,by go_num,rfl,(Uh HS).drewN _⟩,by simp [intOf]; omega⟩
    ·have hjn:j = n1:=by omega
     subst hjn
     have hjl':¬ (j:Int) < (j:Int):=by omega
     have hjl3:(j:Int) < (j:Int) + 1:=by omega
     have g3:=(hQ.fn (k + j) (by omega)).1
     have g4:=(hQ.fn (k + j) (by omega)).2
     rw [← Nat.add_assoc] at g3 g4
     have HS:=rows_step (Uh HL1) (Uh HR) hQ (by omega)
     have HS':=Hd HS
     generalize ((g (k + j):Nat):Int) = r at g3
     clear hQ HS hx hy HR
     go_wp2
     exact ⟨⟨k + 1,_,by omega,by go_num,Uh HS'⟩,by simp [intOf]; omega⟩
  ·have hkn:k = n2:=by omega
   have HV:=Hd (show valF f nz = val xs * val ys from by
    have hv:=hR.val
    rw [hkn,Uh HL1,Nat.add_comm n2 n1,Uh HNZ] at hv
    rw [hv,← Uh HL2,valF_list])
   have HR:=Hd hR
   clear hR hx hy hkn
   go_wp2
   go_end0
   exact ⟨rfl,f,(Uh HR).fn,(Uh HR).ok,Uh HV,(Uh HR).upd⟩
end Go.Proofs.YtlolnaegfponeaaGreatDoor
