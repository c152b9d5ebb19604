/- From -/
import Derived.Test.YtjoaijbhpgekoaaGreatDoorGiv2
import Derived.Test.YtjoaijbhpgekoaaGreatDoorCopy
namespace Go.Proofs.YtjoaijbhpgekoaaGreatDoor
open Go.RowKit Go.Deep
set_option linter.unusedVariables false
theorem or_halves (a b:Nat) (ha:a < 4294967296) (hb:b < 4294967296):bits .or .u64 ((a:Int) * 4294967296) (b:Int) = ((b + 4294967296 * a:Nat):Int):=by
 have e:(a:Int) * 4294967296 = ((a * 4294967296:Nat):Int):=by omega
 rw [e,u64_or_nat _ _ (by omega) (by omega)]
 congr 1
 have h:=Nat.shiftLeft_add_eq_or_of_lt (i:=32) (b:=b) (by simpa using hb) a
 rw [Nat.shiftLeft_eq] at h
 have e2:(2:Nat) ^ 32 = 4294967296:=by decide
 rw [e2] at h
 rw [← h]; omega

set_option maxHeartbeats 400000 in
theorem word_any (a:Option Addr) (n c:Nat) (xs:List Nat) (w:World) (h:Sl w a n c xs) (ok:Ok xs) :
  Calls Tryz.prog 114 #[.slice a n c] w fun e w' => e = .returned (.int .u64 ((xs.getD 0 0 + 4294967296 * xs.getD 1 0:Nat):Int)) ∧ w' = w:=by
 have b0:=ok.getD 0
 have b1:=ok.getD 1
 have k1:=limbAt_any a n c xs 1 w h (by decide)
 have k0:=limbAt_any a n c xs 0 w h (by decide)
 rw [show (1:Int).toNat = 1 from rfl] at k1
 rw [show (0:Int).toNat = 0 from rfl] at k0
 generalize xs.getD 0 0 = x0 at *
 generalize xs.getD 1 0 = x1 at *
 have K1:=Hj k1
 have K0:=Hj k0
 clear k1 k0 h ok
 have HO:=Hj (or_halves x1 x0 b1 b0)
 go_enter Tryz.func114,Tryz.ntmps114
 go_wp2_with fail
 refine (Uh K1).mono ?_
 rintro e w' ⟨rfl,rfl⟩
 go_wp2_with fail
 refine (Uh K0).mono ?_
 rintro e w' ⟨rfl,rfl⟩
 go_wp2
 go_ret
 refine ⟨?_,rfl⟩
 show Ending.returned (Value.int IntKind.u64 (bits BinOp.or IntKind.u64 ((x1:Int) * 4294967296) (x0:Int))) = _
 rw [Uh HO]

theorem two_sl (w:World) (x y:Nat) (e:TypeId):Sl (w.alloc (.cells #[.int .u32 (x:Nat),.int .u32 (y:Nat)] e)) (some ⟨w.heap.size,0,none⟩) 2 2 [x,y]:=by
 refine ⟨rfl,Nat.le_refl _,by decide,.inr ⟨_,_,rfl,?_⟩⟩
 intro i hi
 match i,hi with
 | 0,_ => simp
 | 1,_ => simp

theorem two_val (v:Nat):val [v % 4294967296,v / 4294967296] = v:=by
 simp only [val]; omega

theorem two_ok (v:Nat) (hv:v < 18446744073709551616):Ok [v % 4294967296,v / 4294967296] :=
 Ok.cons (by omega) (Ok.cons (by omega) Ok.nil)

set_option maxHeartbeats 400000 in
theorem fromWord_any (v:Nat) (w:World) (hv:v < 18446744073709551616) :
  Calls Tryz.prog 97 #[.int .u64 (v:Nat)] w fun e w' => ∃ a' m ys,e = .returned (.slice a' m m) ∧ Sl w' a' m m ys ∧ Rep v ys ∧ NewAt w.heap.size a' ∧ Below w.heap.size w w':=by
 have K:=Hj (trim_any _ 2 2 _ _ (two_sl w (v % 4294967296) (v / 4294967296) 94) (two_ok v hv))
 go_enter Tryz.func97,Tryz.ntmps97
 go_wp2_with fail
 refine (Uh K).mono ?_
 rintro e w' ⟨a',m,ys,rfl,hs,hr,ha,rfl⟩
 go_wp2
 go_ret
 rw [two_val] at hr
 refine ⟨a',m,ys,rfl,hs,hr,?_,bAl⟩
 intro x hx
 rcases ha with rfl | rfl
 ·cases hx; exact Nat.le_refl _
 ·cases hx

set_option maxHeartbeats 400000 in
theorem from_any (v:Nat) (w:World) (hv:v < 18446744073709551616) :
  Calls Tryz.prog 81 #[.int .u64 (v:Nat)] w fun e w' => ∃ a' m ys,e = .returned (.slice a' m m) ∧ Sl w' a' m m ys ∧ Rep v ys ∧ NewAt w.heap.size a' ∧ Below w.heap.size w w':=by
 have K:=Hj (fromWord_any v w hv)
 go_enter Tryz.func81,Tryz.ntmps81
 go_wp2_with fail
 refine (Uh K).mono ?_
 rintro e w' ⟨a',m,ys,rfl,hs,hr,ha,hb⟩
 go_wp2
 go_ret
 exact ⟨a',m,ys,rfl,hs,hr,ha,hb⟩

set_option maxHeartbeats 400000 in
theorem rfrom_any (v:Nat) (w:World) (hv:v < 18446744073709551616) :
  Calls Tryz.prog 35 #[.int .u64 (v:Nat)] w fun e w' => ∃ a' m ys,e = .returned (.slice a' m m) ∧ Sl w' a' m m ys ∧ Rep v ys ∧ NewAt w.heap.size a' ∧ Below w.heap.size w w':=by
 have K:=Hj (rtrim_any _ 2 2 _ _ (two_sl w (v % 4294967296) (v / 4294967296) 94) (two_ok v hv) (by decide))
 go_enter Tryz.func35,Tryz.ntmps35
 go_wp2_with fail
 refine (Uh K).mono ?_
 rintro e w' ⟨a',m,ys,rfl,hs,hr,ha,hb⟩
 have hz:(w.alloc (.cells #[.int .u32 (v % 4294967296:Nat),.int .u32 (v / 4294967296:Nat)] 94)).heap.size = w.heap.size + 1:=by simp
 rw [hz] at ha hb
 have HB:=Hj (((Below.refl w.heap.size w).alloc (Nat.le_refl _) _).trans (hb.mono (by omega)))
 have HA:=Hj ha
 clear ha hb hz
 go_wp2
 go_ret
 rw [two_val] at hr
 exact ⟨a',m,ys,rfl,hs,hr,fun x hx => by have:=Uh HA x hx; omega,Uh HB⟩

theorem rep_len {v:Nat} {ys:List Nat} (h:Rep v ys) (hv:v < 18446744073709551616):ys.length ≤ 2:=by
 match ys,h with
 | [],_ => simp
 | [_],_ => simp
 | [_,_],_ => simp
 | x :: y :: z :: zs,h =>
  exfalso
  have h1:val (z :: zs) ≠ 0:=val_ne (norm_tail (norm_tail h.norm)) (by simp)
  have h2:=h.val
  simp only [val] at h1 h2
  omega

theorem rep_two {v:Nat} {ys:List Nat} (h:Rep v ys) (hv:v < 18446744073709551616):ys.getD 0 0 + 4294967296 * ys.getD 1 0 = v:=by
 have hl:=rep_len h hv
 have h2:=h.val
 match ys,hl with
 | [],_ => simpa [val] using h2
 | [_],_ => simpa [val] using h2
 | [_,_],_ => simpa [val] using h2
set_option maxHeartbeats 1600000 in
theorem compare_some (b1 o1 b2 o2 : Nat) (n c1 c2 : Nat) (xs ys : List Nat) (w : World) (hn : n ≤ maxLen) (hx : xs.length = n) (hy : ys.length = n) (ox : Ok xs) (oy : Ok ys)
   (h1 : Cells w b1 o1 xs) (h2 : Cells w b2 o2 ys) :
    Calls Tryz.prog 112 #[.slice (some ⟨b1, o1, none⟩) n c1, .slice (some ⟨b2, o2, none⟩) n c2] w fun e w' => e = .returned (.int .i64 (cmpN (val xs) (val ys))) ∧ ∃ k, w' = w.drewN k := by
  unfold maxLen at hn
  go_enter Tryz.func112, Tryz.ntmps112
  go_wp2
  go_loopw [5] (fun i wr => ∃ k : Nat, k ≤ n ∧ i = .int .i64 ((k : Int) - 1) ∧ (∀ j, k ≤ j → xs.getD j 0 = ys.getD j 0) ∧ ∃ d, wr = w.drewN d) (fun i _ => (intOf i + 1).toNat)
  case atStart => exact ⟨n, Nat.le_refl _, rfl, fun j hj => by rw [getD_ge (by omega), getD_ge (by omega)], 0, rfl⟩
  case round =>
    obtain ⟨k, hk, rfl, ht, d, rfl⟩ := hrel
    by_cases hlt : 0 < k
    · have hlt' : (0:Int) ≤ (k:Int) - 1 := by omega
      have hlt2 : (k:Int) - 1 < (n:Int) := by omega
      have hk1 : ((k:Int) - 1).toNat = k - 1 := by omega
      have g1 := h1 (k - 1) (by omega)
      have g2 := h2 (k - 1) (by omega)
      by_cases he : xs.getD (k - 1) 0 = ys.getD (k - 1) 0
      · have HT : ∀ j, k - 1 ≤ j → xs.getD j 0 = ys.getD j 0 := fun j hj => by
          by_cases e : j = k - 1
          · rw [e]; exact he
          · exact ht j (by omega)
        have HT' := hide HT
        have hb : (((xs.getD (k - 1) 0 : Nat) : Int) != ((ys.getD (k - 1) 0 : Nat) : Int)) = false := by rw [he]; simp
        generalize ((xs.getD (k - 1) 0 : Nat) : Int) = u at g1 hb
        generalize ((ys.getD (k - 1) 0 : Nat) : Int) = v at g2 hb
        clear he h1 h2 HT ht
        go_wp2_with fail
        go_quiet (fail)
        go_wp2
        exact ⟨⟨k - 1, by omega, by congr 1; omega, unhide HT', _, rfl⟩, by simp [intOf]; omega⟩
      · have hb : (((xs.getD (k - 1) 0 : Nat) : Int) != ((ys.getD (k - 1) 0 : Nat) : Int)) = true := by rw [bne_iff_ne]; omega
        have hr : ((xs.getD (k - 1) 0 : Nat) : Int) < ((ys.getD (k - 1) 0 : Nat) : Int) ∧ cmpN (val xs) (val ys) = -1 ∨ ¬ ((xs.getD (k - 1) 0 : Nat) : Int) < ((ys.getD (k - 1) 0 : Nat) : Int) ∧ cmpN (val xs) (val ys) = 1 := by
          by_cases hh : xs.getD (k - 1) 0 < ys.getD (k - 1) 0
          · exact .inl ⟨by omega, cmpN_lt (val_lt_of (i := k - 1) (hx.trans hy.symm) ox oy (by omega) (fun j hj => ht j (by omega)) hh)⟩
          · exact .inr ⟨by omega, cmpN_gt (val_lt_of (i := k - 1) (hy.trans hx.symm) oy ox (by omega) (fun j hj => (ht j (by omega)).symm) (by omega))⟩
        generalize ((xs.getD (k - 1) 0 : Nat) : Int) = u at g1 hb hr
        generalize ((ys.getD (k - 1) 0 : Nat) : Int) = v at g2 hb hr
        clear he h1 h2 ht
        rcases hr with ⟨hr, hc⟩ | ⟨hr, hc⟩
        · have HC := hide hc
          clear hc
          go_wp2_with fail
          go_quiet (fail)
          go_wp2_with fail
          go_quiet (fail)
          go_wp2
          go_ret
          exact ⟨by rw [unhide HC]; rfl, _, drewN_add3 _ _ _ _⟩
        · have HC := hide hc
          clear hc
          go_wp2_with fail
          go_quiet (fail)
          go_wp2_with fail
          go_quiet (fail)
          go_wp2
          go_ret
          exact ⟨by rw [unhide HC]; rfl, _, drewN_add3 _ _ _ _⟩
    · have hk0 : ¬ (0:Int) ≤ (k:Int) - 1 := by omega
      have : xs = ys := ext_getD (hx.trans hy.symm) (fun i _ => ht i (by omega))
      have HE := hide this
      clear this h1 h2 ht
      go_wp2
      go_ret
      exact ⟨by rw [cmpN_eq (by rw [unhide HE])]; rfl, _, rfl⟩

set_option maxHeartbeats 400000 in
theorem compare_len (a1 a2:Option Addr) (n1 n2 c1 c2:Nat) (w:World) (hn:((n1:Int) != (n2:Int)) = true) :
  Calls Tryz.prog 112 #[.slice a1 n1 c1,.slice a2 n2 c2] w fun e w' => e = .returned (.int .i64 (if (n1:Int) < (n2:Int) then -1 else 1)) ∧ w' = w:=by
 by_cases h:(n1:Int) < (n2:Int)
 ·go_enter Tryz.func112,Tryz.ntmps112
  go_wp2
  go_ret
  exact ⟨rfl,rfl⟩
 ·go_enter Tryz.func112,Tryz.ntmps112
  go_wp2
  go_ret
  exact ⟨rfl,rfl⟩

set_option maxHeartbeats 400000 in
theorem compare_nil (a1 a2:Option Addr) (c1 c2:Nat) (w:World) :
  Calls Tryz.prog 112 #[.slice a1 0 c1,.slice a2 0 c2] w fun e w' => e = .returned (.int .i64 0) ∧ w' = w:=by
 go_enter Tryz.func112,Tryz.ntmps112
 go_wp2
 go_loop [5] (fun i => i = .int .i64 (-1)) (fun i => (intOf i).toNat)
 case atStart => rfl
 case round =>
  subst hrel
  go_wp2
  go_ret
  exact ⟨rfl,rfl⟩

theorem cmp_len {xs ys:List Nat} (ox:Ok xs) (oy:Ok ys) (nx:Norm xs) (ny:Norm ys) (h:xs.length ≠ ys.length) :
  (if (xs.length:Int) < (ys.length:Int) then -1 else 1:Int) = cmpN (val xs) (val ys):=by
 by_cases hl:xs.length < ys.length
 ·rw [if_pos (by omega),cmpN_lt (len_lt_val ox ny hl)]
 ·rw [if_neg (by omega),cmpN_gt (len_lt_val oy nx (by omega))]

theorem compare_any (a1 a2:Option Addr) (n1 c1 n2 c2:Nat) (xs ys:List Nat) (w:World) (h1:Sl w a1 n1 c1 xs) (h2:Sl w a2 n2 c2 ys) (ox:Ok xs) (oy:Ok ys) (nx:Norm xs) (ny:Norm ys) :
  Calls Tryz.prog 112 #[.slice a1 n1 c1,.slice a2 n2 c2] w fun e w' => e = .returned (.int .i64 (cmpN (val xs) (val ys))) ∧ ∃ k,w' = w.drewN k:=by
 have l1:=h1.len
 have l2:=h2.len
 by_cases e:n1 = n2
 ·subst e
  by_cases z:n1 = 0
  ·subst z
   have e1:xs = []:=List.eq_nil_of_length_eq_zero l1
   have e2:ys = []:=List.eq_nil_of_length_eq_zero l2
   subst e1 e2
   refine (compare_nil a1 a2 c1 c2 w).mono ?_
   rintro e w' ⟨rfl,rfl⟩
   exact ⟨rfl,0,rfl⟩
  ·rcases h1.cells with e1 | ⟨b1,o1,rfl,k1⟩
   ·subst e1; simp at l1; omega
   ·rcases h2.cells with e2 | ⟨b2,o2,rfl,k2⟩
    ·subst e2; simp at l2; omega
    ·exact compare_some b1 o1 b2 o2 n1 c1 c2 xs ys w (Nat.le_trans h1.le h1.cap) l1 l2 ox oy k1 k2
 ·refine (compare_len a1 a2 n1 n2 c1 c2 w (by rw [bne_iff_ne]; omega)).mono ?_
  rintro e w' ⟨rfl,rfl⟩
  rw [← l1,← l2,cmp_len ox oy nx ny (by omega)]
  exact ⟨rfl,0,rfl⟩

set_option maxHeartbeats 400000 in
theorem rmay_nil (a:Option Addr) (cap:Nat) (w:World) :
  Calls Tryz.prog 71 #[.slice a 0 cap] w fun e w' => e = .returned (.bool true) ∧ w' = w:=by
 go_enter Tryz.func71,Tryz.ntmps71
 go_wp2
 go_ret
 exact ⟨rfl,rfl⟩
set_option maxHeartbeats 400000 in
theorem rmay_long (a:Option Addr) (len cap:Nat) (w:World) (h:2048 < len) (hm:len ≤ maxLen) :
  Calls Tryz.prog 71 #[.slice a len cap] w fun e w' => e = .returned (.bool false) ∧ w' = w:=by
 unfold maxLen at hm
 go_enter Tryz.func71,Tryz.ntmps71
 go_wp2
 go_ret
 exact ⟨rfl,rfl⟩
set_option maxHeartbeats 400000 in
theorem rmay_some (b off:Nat) (n cap:Nat) (x:Int) (w:World) (h:(n:Int) ≤ 2048) (h0:0 < n) (hc:w.cell? ⟨b,off + (n-1),none⟩ = some (.int .u32 x)) :
  Calls Tryz.prog 71 #[.slice (some ⟨b,off,none⟩) n cap] w fun e w' => e = .returned (.bool (x != 0)) ∧ w' = w:=by
 have h1:((n:Int) == 0) = false:=by simp; omega
 have h2:((n:Int) - 1).toNat = n - 1:=by omega
 go_enter Tryz.func71,Tryz.ntmps71
 go_wp2
 go_ret
 exact ⟨rfl,rfl⟩

theorem rmay_any (a:Option Addr) (n c:Nat) (xs:List Nat) (w:World) (h:Sl w a n c xs) :
  Calls Tryz.prog 71 #[.slice a n c] w fun e w' => e = .returned (.bool (MayL xs)) ∧ w' = w:=by
 have hl:=h.len
 by_cases hlong:2048 < n
 ·refine (rmay_long a n c w hlong (Nat.le_trans h.le h.cap)).mono ?_
  rintro e w' ⟨rfl,rfl⟩
  have:MayL xs = false:=by simp [MayL]; omega
  rw [this]; exact ⟨rfl,rfl⟩
 ·rcases h.cells with h0 | ⟨b,off,rfl,hc⟩
  ·subst h0
   simp at hl
   subst hl
   refine (rmay_nil a c w).mono ?_
   rintro e w' ⟨rfl,rfl⟩
   exact ⟨rfl,rfl⟩
  ·by_cases hz:n = 0
   ·subst hz
    have:xs = []:=List.eq_nil_of_length_eq_zero hl
    subst this
    refine (rmay_nil _ c w).mono ?_
    rintro e w' ⟨rfl,rfl⟩
    exact ⟨rfl,rfl⟩
   ·have:=hc (n - 1) (by omega)
    refine (rmay_some b off n c _ w (by omega) (by omega) this).mono ?_
    rintro e w' ⟨rfl,rfl⟩
    refine ⟨?_,rfl⟩
    have e1:xs.isEmpty = false:=by cases xs with | nil => simp at hl; omega | cons => rfl
    have e2:MayL xs = (((xs.getD (n - 1) 0:Nat):Int) != 0):=by
     simp only [MayL,hl,e1,Bool.false_or]
     rw [show decide (n ≤ 2048) = true from by simp; omega]
     simp only [Bool.true_and]
     rw [Bool.eq_iff_iff,bne_iff_ne,bne_iff_ne]
     omega
    rw [e2]
def NewRep (w w':World) (v:Nat) (e:Ending):Prop :=
 ∃ a' m ys,e = .returned (.slice a' m m) ∧ Sl w' a' m m ys ∧ Rep v ys ∧ NewAt w.heap.size a' ∧ Below w.heap.size w w'

theorem make_len1 (n:Nat) (hn:n ≤ 70368744177000) (w:World):(Instr.makeSlice 36 (.int .i64 ((n:Int) + 1)) (.int .i64 ((n:Int) + 1))).run Tryz.prog w = .ok (.slice (some ⟨w.heap.size,0,none⟩) (n + 1) (n + 1)) (w.alloc (.cells (madeCells #[.int .u32 0] (n + 1)) 94)):=by
 have:=make_len (n + 1) (by omega) w
 rw [show ((n + 1:Nat):Int) = (n:Int) + 1 from by omega] at this
 exact this

theorem pow_mono {a b:Nat} (h:a ≤ b):4294967296 ^ a ≤ 4294967296 ^ b:=Nat.pow_le_pow_right (by decide) h

def Res2 (w w':World) (r:List Nat × Int) (e:Ending):Prop :=
 ∃ a m c,e = .returned (.tuple #[.slice a m c,.int .i64 r.2]) ∧ Sl w' a m c r.1 ∧ NewAt w.heap.size a ∧ Below w.heap.size w w'

def fitL (v:Nat):List Nat × Int:=if 2048 < (limbs v).length then ([],2) else (limbs v,0)

theorem fitL_big {v:Nat} (h:2048 < (limbs v).length):fitL v = ([],2):=by simp [fitL,h]
theorem fitL_ok {v:Nat} (h:¬ 2048 < (limbs v).length):fitL v = (limbs v,0):=by simp [fitL,h]

theorem sl_nil (w:World):Sl w none 0 0 []:=⟨rfl,Nat.le_refl _,Nat.zero_le _,.inl rfl⟩
theorem newAt_nil (B:Nat):NewAt B none:=fun x hx => by cases hx

set_option maxHeartbeats 400000 in
theorem fit_any (a:Option Addr) (m c v:Nat) (ys:List Nat) (w:World) (h:Sl w a m c ys) (hr:Rep v ys) :
  Calls Tryz.prog 85 #[.slice a m c] w fun e w' => ∃ a' m' c',e = .returned (.tuple #[.slice a' m' c',.int .i64 (fitL v).2]) ∧ Sl w' a' m' c' (fitL v).1 ∧ (a' = a ∨ a' = none) ∧ w' = w:=by
 have hl:=h.len
 have e:=hr.eq
 by_cases hb:2048 < m
 ·have hf:=fitL_big (v:=v) (by rw [← e,hl]; exact hb)
  have hb':(2048:Int) < (m:Int):=by omega
  rw [hf]
  clear hf e hl hr h
  go_enter Tryz.func85,Tryz.ntmps85
  go_wp2
  go_ret2
  exact ⟨none,0,0,rfl,sl_nil _,.inr rfl,rfl⟩
 ·have hf:=fitL_ok (v:=v) (by rw [← e,hl]; exact hb)
  have hb':¬ (2048:Int) < (m:Int):=by omega
  rw [hf,← e]
  have H:=Hj h
  clear hf e hl hr h
  go_enter Tryz.func85,Tryz.ntmps85
  go_wp2
  go_ret2
  exact ⟨a,m,c,rfl,Uh H,.inl rfl,rfl⟩

def subL (xs ys:List Nat):List Nat × Int:=if MayL xs && MayL ys then (if val xs < val ys then ([],21) else (limbs (val xs - val ys),0)) else ([],20)

def sv (x s:Nat):Nat:=x * 2 ^ s
def slo (x s:Nat):Nat:=x * 2 ^ s % 4294967296
def shi (x s:Nat):Nat:=x * 2 ^ s / 4294967296

theorem pow_s {s:Nat} (h:s < 32):1 ≤ 2 ^ s ∧ 2 ^ s ≤ 2147483648:=by
 refine ⟨Nat.pow_pos (by decide),?_⟩
 have:2 ^ s ≤ 2 ^ 31:=Nat.pow_le_pow_right (by decide) (by omega)
 simpa using this

theorem pow_split {s:Nat} (h:s < 32):2 ^ s * 2 ^ (32 - s) = 4294967296:=by
 rw [← Nat.pow_add,show s + (32 - s) = 32 from by omega]

theorem sv_lt {x s:Nat} (hx:x < 4294967296) (h:s < 32):sv x s < 9223372036854775808:=by
 obtain ⟨h1,h2⟩:=pow_s h
 have:x * 2 ^ s ≤ 4294967295 * 2147483648:=Nat.mul_le_mul (by omega) h2
 unfold sv
 omega

theorem sv_int {x s:Nat} (hx:x < 4294967296) (h:s < 32):IntKind.u64.wrap ((x:Int) * 2 ^ s) = ((sv x s:Nat):Int):=by
 have hb:=sv_lt hx h
 have e:(x:Int) * 2 ^ s = ((sv x s:Nat):Int):=by unfold sv; rw [Int.natCast_mul,Int.natCast_pow]; rfl
 rw [e,IntKind.wrap_u64]
 omega

theorem slo_int (x s:Nat):((sv x s:Nat):Int) % 4294967296 = ((slo x s:Nat):Int):=by unfold slo sv; omega
theorem shi_int (x s:Nat):((sv x s:Nat):Int) / 4294967296 = ((shi x s:Nat):Int):=by unfold shi sv; omega
theorem sh_eq (x s:Nat):slo x s + 4294967296 * shi x s = x * 2 ^ s:=by unfold slo shi; exact Nat.mod_add_div _ _
theorem slo_lt (x s:Nat):slo x s < 4294967296:=by unfold slo; exact Nat.mod_lt _ (by decide)
theorem shi_lt {x s:Nat} (hx:x < 4294967296) (h:s < 32):shi x s < 2 ^ s:=by
 unfold shi
 obtain ⟨h1,h2⟩:=pow_s h
 rw [Nat.div_lt_iff_lt_mul (by decide),Nat.mul_comm]
 exact Nat.mul_lt_mul_of_pos_left hx (by omega)

theorem slo_mul {x s:Nat} (h:s < 32):slo x s = 2 ^ s * (x % 2 ^ (32 - s)):=by
 unfold slo
 rw [← pow_split h,Nat.mul_comm x,Nat.mul_mod_mul_left]

theorem or_slo {o x s:Nat} (h:s < 32) (ho:o < 2 ^ s):o ||| slo x s = o + slo x s:=by
 rw [slo_mul h]
 have:=Nat.shiftLeft_add_eq_or_of_lt (i:=s) (b:=o) ho (x % 2 ^ (32 - s))
 rw [Nat.shiftLeft_eq,Nat.mul_comm] at this
 rw [Nat.or_comm,← this,Nat.add_comm]

theorem or_slo_lt {o x s:Nat} (h:s < 32) (ho:o < 2 ^ s):o + slo x s < 4294967296:=by
 rw [← or_slo h ho]
 have:(o ||| slo x s) < 2 ^ 32:=Nat.or_lt_two_pow (by have:=(pow_s h).2; omega) (slo_lt x s)
 exact this

def orv (o x s:Nat):Nat:=o + slo x s
theorem or_int {o x s:Nat} (h:s < 32) (ho:o < 2 ^ s):bits .or .u32 (o:Int) ((slo x s:Nat):Int) = ((orv o x s:Nat):Int):=by
 rw [u32_or_nat _ _ (by have:=(pow_s h).2; omega) (slo_lt x s),or_slo h ho]
 rfl

structure ShR (wr w:World) (m l s:Nat) (xs:List Nat) (i:Nat) (g:Nat → Nat):Prop where
 fn:Fn wr w.heap.size 0 m g
 ok:∀ k,k < m → g k < 4294967296
 top:g (l + i) < 2 ^ s
 zero:∀ k,l + i < k → g k = 0
 val:valF g (l + i + 1) = valF (fun k => xs.getD k 0) i * 2 ^ s * 4294967296 ^ l
 bel:Below w.heap.size w wr

theorem ShR.step {wr w:World} {m l s:Nat} {xs:List Nat} {i:Nat} {g:Nat → Nat} (h:ShR wr w m l s xs i g) (hs:s < 32) (hm:l + i + 1 < m) (ox:Ok xs) :
  ShR ((wr.setCell ⟨w.heap.size,l + i,none⟩ (.int .u32 (orv (g (l + i)) (xs.getD i 0) s:Nat))).setCell ⟨w.heap.size,l + i + 1,none⟩ (.int .u32 (shi (xs.getD i 0) s:Nat))) w m l s xs (i + 1)
   (fun k => if k = l + i + 1 then shi (xs.getD i 0) s else if k = l + i then orv (g (l + i)) (xs.getD i 0) s else g k):=by
 have f1:=h.fn.set (l + i) (orv (g (l + i)) (xs.getD i 0) s) (by omega)
 have f2:=f1.set (l + i + 1) (shi (xs.getD i 0) s) hm
 simp only [Nat.zero_add] at f2
 have hh:=shi_lt (ox.getD i) hs
 have hp:=pow_s hs
 refine ⟨f2,?_,?_,?_,?_,(h.bel.setCell (Nat.le_refl _) _).setCell (Nat.le_refl _) _⟩
 ·intro k hk
  by_cases e:k = l + i + 1
  ·simp only [e,if_true]; omega
  ·by_cases e2:k = l + i
   ·simp only [e2,show ¬ l + i = l + i + 1 from by omega,if_true,if_false]; exact or_slo_lt hs h.top
   ·simp only [e,e2,if_false]; exact h.ok k hk
 ·simp only [show l + (i + 1) = l + i + 1 from by omega,if_true]; exact hh
 ·intro k hk
  simp only [show ¬ k = l + i + 1 from by omega,show ¬ k = l + i from by omega,if_false]
  exact h.zero k (by omega)
 ·have e1:l + (i + 1) + 1 = l + i + 1 + 1:=by omega
  rw [e1]
  simp only [valF]
  simp only [if_true,show ¬ l + i = l + i + 1 from by omega,if_false]
  rw [valF_congr (g:=g) (fun k hk => by rw [if_neg (by omega),if_neg (by omega)])]
  have hv:=h.val
  simp only [valF] at hv
  have e:=sh_eq (xs.getD i 0) s
  have e2:orv (g (l + i)) (xs.getD i 0) s = g (l + i) + slo (xs.getD i 0) s:=rfl
  rw [e2,Nat.mul_add,Nat.pow_succ,Nat.add_mul,Nat.add_mul,← hv]
  have e3:4294967296 ^ (l + i) * slo (xs.getD i 0) s + 4294967296 ^ (l + i) * 4294967296 * shi (xs.getD i 0) s = 4294967296 ^ i * xs.getD i 0 * 2 ^ s * 4294967296 ^ l:=by
   rw [Nat.mul_assoc,← Nat.mul_add,e,Nat.pow_add]
   rw [Nat.mul_comm (4294967296 ^ l),Nat.mul_assoc,Nat.mul_comm (4294967296 ^ l),← Nat.mul_assoc,← Nat.mul_assoc]
  generalize 4294967296 ^ (l + i) * slo (xs.getD i 0) s = t1 at *
  generalize 4294967296 ^ (l + i) * 4294967296 * shi (xs.getD i 0) s = t2 at *
  generalize 4294967296 ^ i * xs.getD i 0 * 2 ^ s * 4294967296 ^ l = t3 at *
  generalize 4294967296 ^ (l + i) * g (l + i) = t4 at *
  omega

theorem ShR.begin (w:World) (m l s:Nat) (xs:List Nat) (hs:s < 32):ShR (w.alloc (.cells (madeCells #[.int .u32 0] m) 94)) w m l s xs 0 (fun _ => 0) :=
 ⟨Fn.made w m _,fun _ _ => by decide,(pow_s hs).1,fun _ _ => rfl,by rw [valF_zero]; simp [valF],bAl⟩

theorem sh_total {v k l s:Nat} (hl:k / 32 = l) (hs:k % 32 = s):v * 2 ^ s * 4294967296 ^ l = v * 2 ^ k:=by
 have e:k = s + 32 * l:=by omega
 have p:(4294967296:Nat) ^ l = 2 ^ (32 * l):=by rw [Nat.pow_mul]
 rw [e,Nat.pow_add,p,Nat.mul_assoc]
set_option maxHeartbeats 400000 in
theorem rat_out (a:Option Addr) (len cap:Nat) (i:Int) (w:World) (h:¬ i < (len:Int)) :
  Calls Tryz.prog 70 #[.slice a len cap,.int .i64 i] w fun e w' => e = .returned (.int .u64 0) ∧ w' = w:=by
 go_enter Tryz.func70,Tryz.ntmps70
 go_wp2
 go_ret
 exact ⟨rfl,rfl⟩
set_option maxHeartbeats 400000 in
theorem rat_in (b off:Nat) (len cap:Nat) (i:Nat) (x:Nat) (w:World) (h:i < len) (hx:x < 4294967296) (hc:w.cell? ⟨b,off + i,none⟩ = some (.int .u32 (x:Nat))) :
  Calls Tryz.prog 70 #[.slice (some ⟨b,off,none⟩) len cap,.int .i64 i] w fun e w' => e = .returned (.int .u64 (x:Nat)) ∧ w' = w:=by
 go_enter Tryz.func70,Tryz.ntmps70
 go_wp2
 go_ret
 exact ⟨rfl,rfl⟩
theorem rat_any (a:Option Addr) (n c:Nat) (xs:List Nat) (i:Nat) (w:World) (h:Sl w a n c xs) (ok:Ok xs) :
  Calls Tryz.prog 70 #[.slice a n c,.int .i64 (i:Nat)] w fun e w' => e = .returned (.int .u64 (xs.getD i 0:Nat)) ∧ w' = w:=by
 by_cases hlt:i < n
 ·rcases h.cells with h0 | ⟨b,off,rfl,hc⟩
  ·have:=h.len; rw [h0] at this; simp at this; omega
  ·exact rat_in b off n c i _ w hlt (ok.getD i) (hc i (by rw [h.len]; exact hlt))
 ·have hz:xs.getD i 0 = 0:=getD_ge (by rw [h.len]; omega)
  rw [hz]
  exact rat_out a n c i w (by omega)

theorem valF_ge (xs:List Nat) (n:Nat) (h:xs.length ≤ n):valF (fun i => xs.getD i 0) n = val xs:=by
 rw [← valF_pad xs n h]
 apply valF_congr
 intro i hi
 by_cases e:i < xs.length
 ·simp [e]
 ·rw [if_neg e]; exact getD_ge (by omega)

theorem one_int {k:IntKind} {x:Int}:∀ u ∈ [Value.int k x],u.oneCell' = true:=by
 intro u hu; simp at hu; subst hu; rfl

structure PlusR (wr w:World) (s t:Nat) (v:Value) (k c:Nat) (zs:List Nat):Prop where
 len:zs.length = k
 ok:Ok zs
 cle:c ≤ 1
 own:wr.ownsRow w.heap.size 94 1 v k (vals zs)
 val:val zs + 4294967296 ^ k * c = s + t
 bel:Below w.heap.size w wr

theorem PlusR.step {wr w w1:World} {s t:Nat} {v v':Value} {k c:Nat} {zs:List Nat} {o:Obj} (h:PlusR wr w s t v k c zs) (x y:Nat) (hx:x < 4294967296) (hy:y < 4294967296)
  (hown:w1.ownsRow w.heap.size 94 1 v' (k + 1) (vals zs ++ [.int .u32 (adl x y c:Nat)])) (hg:(wr.alloc o).grownBy w1 v.ownBlock) :
  PlusR w1 w (s + 4294967296 ^ k * x) (t + 4294967296 ^ k * y) v' (k + 1) (adc x y c) (zs ++ [adl x y c]):=by
 have hs:=h.bel.size
 refine ⟨by simp [h.len],?_,adc_le x y c hx hy h.cle,by simpa [vals] using hown,?_,?_⟩
 ·intro z hz
  rcases List.mem_append.1 hz with hz | hz
  ·exact h.ok z hz
  ·simp at hz; subst hz; exact adl_lt _ _ _
 ·rw [val_append,h.len]
  simp only [Go.Proofs.YtjoaijbhpgekoaaGreatDoor.val,Nat.mul_zero,Nat.add_zero]
  have e:=ad_eq x y c
  rw [Nat.pow_succ]
  have:4294967296 ^ k * adl x y c + 4294967296 ^ k * 4294967296 * adc x y c = 4294967296 ^ k * x + 4294967296 ^ k * y + 4294967296 ^ k * c:=by
   rw [Nat.mul_assoc,← Nat.mul_add,e,Nat.mul_add,Nat.mul_add]
  have:=h.val
  omega
 ·exact Below.grown (h.bel.alloc (by omega) o) hg (by simp; omega) (fun k hk => (own_ge h.own k hk).1)

theorem plus_end {wr w w1:World} {s t:Nat} {v:Value} {k c g1 cc:Nat} {zs:List Nat} {o:Obj} (h:PlusR wr w s t v k c zs)
  (hown:w1.ownsRow w.heap.size 94 1 (.slice (some ⟨g1,0,none⟩) (k + 1) cc) (k + 1) (vals zs ++ [.int .u32 (c:Nat)])) (hg:(wr.alloc o).grownBy w1 v.ownBlock) :
  Sl w1 (some ⟨g1,0,none⟩) (k + 1) cc (zs ++ [c]) ∧ Ok (zs ++ [c]) ∧ Go.Proofs.YtjoaijbhpgekoaaGreatDoor.val (zs ++ [c]) = s + t ∧ NewAt w.heap.size (some ⟨g1,0,none⟩) ∧ Below w.heap.size w w1:=by
 have hs:=h.bel.size
 have e:vals zs ++ [.int .u32 (c:Nat)] = vals (zs ++ [c]):=by simp [vals]
 refine ⟨?_,?_,?_,?_,?_⟩
 ·rw [e] at hown; exact sl_of_own hown
 ·intro z hz
  rcases List.mem_append.1 hz with hz | hz
  ·exact h.ok z hz
  ·simp at hz; subst hz; have:=h.cle; omega
 ·rw [val_append,h.len]
  simp only [Go.Proofs.YtjoaijbhpgekoaaGreatDoor.val,Nat.mul_zero,Nat.add_zero]
  exact h.val
 ·intro x hx
  cases hx
  exact (own_ge hown g1 rfl).1
 ·exact Below.grown (h.bel.alloc (by omega) o) hg (by simp; omega) (fun k hk => (own_ge h.own k hk).1)

set_option maxHeartbeats 2000000 in
theorem rplus_any (a1 a2:Option Addr) (n1 c1 n2 c2:Nat) (xs ys:List Nat) (w:World) (h1:Sl w a1 n1 c1 xs) (h2:Sl w a2 n2 c2 ys) (ox:Ok xs) (oy:Ok ys) (hb1:n1 ≤ 10000000000000) (hb2:n2 ≤ 10000000000000) :
  Calls Tryz.prog 50 #[.slice a1 n1 c1,.slice a2 n2 c2] w fun e w' => ∃ a' m c' zs,e = .returned (.slice a' m c') ∧ m ≤ 20000000000000 ∧ Sl w' a' m c' zs ∧ Ok zs ∧ val zs = val xs + val ys ∧ NewAt w.heap.size a' ∧ Below w.heap.size w w':=by
 have hl1:=Hj h1.len
 have hl2:=Hj h2.len
 obtain ⟨i80,hi80,hz80,hs80,hb80⟩:=info_parts Tryz.info_u32
 have I80:=Hj (And.intro hi80 (And.intro hz80 (And.intro hs80 hb80)))
 clear hi80 hz80 hs80 hb80
 go_enter Tryz.func50,Tryz.ntmps50
 go_wp2
 go_loopw [5,6,7] (fun v cv i wr => ∃ k c:Nat,∃ zs:List Nat,(k ≤ n1 ∨ k ≤ n2) ∧ i = .int .i64 k ∧ cv = .int .u64 (c:Nat) ∧ PlusR wr w (valF (fun i => xs.getD i 0) k) (valF (fun i => ys.getD i 0) k) v k c zs) (fun _ _ i _ => n1 + n2 - (intOf i).toNat)
 case atStart => exact ⟨0,0,[],.inl (Nat.zero_le _),rfl,rfl,⟨rfl,Ok.nil,Nat.zero_le _,World.ownsRow_nil _ _ _ _,rfl,Below.refl _ _⟩⟩
 case round =>
  obtain ⟨k,c,zs,hk,rfl,rfl,hR⟩:=hrel
  by_cases hlt:k < n1 ∨ k < n2
  ·have ht:((k:Int) < (n1:Int)) ∨ ((k:Int) < (n2:Int)):=by omega
   have bx:=ox.getD k
   have bY:=oy.getD k
   have KX:=Hj (rat_any a1 n1 c1 xs k wr (h1.below hR.bel) ox)
   have KY:=Hj (rat_any a2 n2 c2 ys k wr (h2.below hR.bel) oy)
   have HS:=Hj (fun w1 v' o hown hg => (show PlusR w1 w (valF (fun i => xs.getD i 0) (k + 1)) (valF (fun i => ys.getD i 0) (k + 1)) v' (k + 1) _ _ from PlusR.step (o:=o) hR (xs.getD k 0) (ys.getD k 0) bx bY hown hg))
   have e1:=adl_int (xs.getD k 0) (ys.getD k 0) c
   have e2:=adc_int (xs.getD k 0) (ys.getD k 0) c
   have hc1:=hR.cle
   have HR:=Hj hR
   generalize xs.getD k 0 = x at *
   generalize ys.getD k 0 = y at *
   clear hR
   by_cases hA:(k:Int) < (n1:Int)
   all_goals
    have hB:(k:Int) < (n1:Int) ∨ (k:Int) < (n2:Int):=by omega
    go_wp2_with fail
    refine (Uh KX).mono ?_
    rintro e w' ⟨rfl,hw⟩
    obtain rfl:=hw.symm
    go_wp2_with fail
    refine (Uh KY).mono ?_
    rintro e w' ⟨rfl,hw⟩
    obtain rfl:=hw.symm
    go_wp2_with (at_builtin; refine wpList_append_lies _ rfl _ _ 36 rfl w.heap.size 94 i80 (.int .u32 0) 1 4 Tryz.underlying36 (Uh I80).1 (Uh I80).2.1 (Uh I80).2.2.1 (Uh I80).2.2.2 rfl (by decide) _ k (vals zs) rfl ?own1 ⟨wr.heap.size,0,none⟩ 1 1 [.int .u32 (adl x y c:Nat)] rfl rfl ?news1 ?one1 (by decide) ?c31 ?c41 ?c51 (wr.heap.size + 1) ?c61 ?_)
    case own1 => exact (Uh HR).own.alloc _
    case news1 => exact World.news_of_block (alloc_block _ _)
    case one1 => intro u hu; simp at hu; subst hu; rfl
    case c31 => unfold maxLen; omega
    case c41 => omega
    case c51 => have:=(Uh HR).bel.size; simp; omega
    case c61 => simp
    intro g1 cc w2 hown hgrow hat hlt2
    have HN:=Hj (Uh HS w2 _ _ hown hgrow)
    clear hown hgrow hat hlt2 HS HR KX KY
    go_wp2
    exact ⟨⟨k + 1,_,_,by omega,by go_num,rfl,Uh HN⟩,by simp [intOf]; omega⟩
  ·have hA:¬ (k:Int) < (n1:Int):=by omega
   have hB:¬ (k:Int) < (n2:Int):=by omega
   have hc1:=hR.cle
   have e1:valF (fun i => xs.getD i 0) k = val xs:=valF_ge xs k (by rw [Uh hl1]; omega)
   have e2:valF (fun i => ys.getD i 0) k = val ys:=valF_ge ys k (by rw [Uh hl2]; omega)
   rw [e1,e2] at hR
   have HR:=Hj hR
   clear hR e1 e2
   go_wp2_with (at_builtin; refine wpList_append_lies _ rfl _ _ 36 rfl w.heap.size 94 i80 (.int .u32 0) 1 4 Tryz.underlying36 (Uh I80).1 (Uh I80).2.1 (Uh I80).2.2.1 (Uh I80).2.2.2 rfl (by decide) _ k (vals zs) rfl ?own1 ⟨wr.heap.size,0,none⟩ 1 1 [.int .u32 (c:Nat)] rfl rfl (World.news_of_block (alloc_block _ _)) one_int (by decide) ?c31 ?c41 ?c51 (wr.heap.size + 1) (by simp) ?_)
   case own1 => exact (Uh HR).own.alloc _
   case c31 => unfold maxLen; omega
   case c41 => omega
   case c51 => have:=(Uh HR).bel.size; simp; omega
   intro g1 cc w2 hown hgrow hat hlt2
   have HN:=Hj (plus_end (Uh HR) hown hgrow)
   clear hown hgrow hat hlt2
   go_wp2
   go_ret
   refine ⟨_,_,_,zs ++ [c],rfl,by omega,(Uh HN).1,(Uh HN).2.1,(Uh HN).2.2.1,(Uh HN).2.2.2.1,(Uh HN).2.2.2.2⟩

theorem own_sl {w:World} {base k:Nat} {v:Value} {zs:List Nat} (h:w.ownsRow base 94 1 v k (vals zs)):∃ a c,v = .slice a k c ∧ Sl w a k c zs ∧ NewAt base a:=by
 have hl:zs.length = k:=by simpa [vals] using h.1
 rcases h.2 with ⟨e,h0⟩ | ⟨g,cap,cur,e,hb,h5,h6,h7,h8,h9⟩
 ·subst e h0
  have:zs = []:=List.eq_nil_of_length_eq_zero hl
  subst this
  exact ⟨none,0,rfl,⟨rfl,Nat.le_refl _,Nat.zero_le _,.inl rfl⟩,fun x hx => by cases hx⟩
 ·subst e
  exact ⟨_,_,rfl,sl_of_own h,fun x hx => by cases hx; exact hb⟩

theorem lim_int (x y c:Nat) (hx:x < 4294967296) (hy:y < 4294967296) (hc:c ≤ 1):(4294967296 + (x:Int) - y - c) % 4294967296 = ((lim x y c:Nat):Int):=by unfold lim; omega
theorem bor_int (x y c:Nat) (hx:x < 4294967296) (hy:y < 4294967296) (hc:c ≤ 1):1 - (4294967296 + (x:Int) - y - c) / 4294967296 = ((bor x (y + c):Nat):Int):=by
 unfold bor; split <;> omega

theorem minus_arith {P A t s c l y x b:Nat} (h1:A + t = s + P * c) (e:l + y + c = x + 4294967296 * b):A + P * l + (t + P * y) = s + P * x + P * 4294967296 * b:=by
 have h2:P * l + P * y + P * c = P * x + P * 4294967296 * b:=by
  rw [← Nat.mul_add,← Nat.mul_add,e,Nat.mul_add,Nat.mul_assoc]
 generalize P * l = a1 at *
 generalize P * y = a2 at *
 generalize P * c = a3 at *
 generalize P * x = a4 at *
 generalize P * 4294967296 * b = a5 at *
 omega

structure MinusR (wr w:World) (s t:Nat) (v:Value) (k c:Nat) (zs:List Nat):Prop where
 len:zs.length = k
 ok:Ok zs
 cle:c ≤ 1
 own:wr.ownsRow w.heap.size 94 1 v k (vals zs)
 val:val zs + t = s + 4294967296 ^ k * c
 bel:Below w.heap.size w wr

theorem MinusR.step {wr w w1:World} {s t:Nat} {v v':Value} {k c:Nat} {zs:List Nat} {o:Obj} (h:MinusR wr w s t v k c zs) (x y:Nat) (hx:x < 4294967296) (hy:y < 4294967296)
  (hown:w1.ownsRow w.heap.size 94 1 v' (k + 1) (vals zs ++ [.int .u32 (lim x y c:Nat)])) (hg:(wr.alloc o).grownBy w1 v.ownBlock) :
  MinusR w1 w (s + 4294967296 ^ k * x) (t + 4294967296 ^ k * y) v' (k + 1) (bor x (y + c)) (zs ++ [lim x y c]):=by
 have hs:=h.bel.size
 refine ⟨by simp [h.len],?_,bor_le _ _,by simpa [vals] using hown,?_,?_⟩
 ·intro z hz
  rcases List.mem_append.1 hz with hz | hz
  ·exact h.ok z hz
  ·simp at hz; subst hz; exact lim_lt _ _ _
 ·rw [val_append,h.len]
  simp only [Go.Proofs.YtjoaijbhpgekoaaGreatDoor.val,Nat.mul_zero,Nat.add_zero]
  rw [Nat.pow_succ]
  exact minus_arith h.val (lim_eq x y c hx hy h.cle)
 ·exact Below.grown (h.bel.alloc (by omega) o) hg (by simp; omega) (fun k hk => (own_ge h.own k hk).1)

set_option maxHeartbeats 800000 in
theorem rfit_any (a:Option Addr) (m c:Nat) (zs:List Nat) (w:World) (h:Sl w a m c zs) (ok:Ok zs) (hb:m ≤ 70368744177664) :
  Calls Tryz.prog 93 #[.slice a m c] w fun e w' => Res2 w w' (fitL (val zs)) e:=by
 have K:=Hj (rtrim_any a m c zs w h ok hb)
 go_enter Tryz.func93,Tryz.ntmps93
 go_wp2_with fail
 refine (Uh K).mono ?_
 rintro e w1 ⟨a',n,ys,rfl,hs,hr,ha,hbel⟩
 have e1:=hr.eq
 have hl:=hs.len
 by_cases hbig:2048 < n
 ·have hf:=Hj (fitL_big (v:=val zs) (by rw [← e1,hl]; exact hbig))
  have hb':(2048:Int) < (n:Int):=by omega
  have HB:=Hj hbel
  clear K e1 hl hs hr ha hbel
  go_wp2
  go_ret2
  rw [Uh hf]
  exact ⟨none,0,0,rfl,sl_nil _,newAt_nil _,Uh HB⟩
 ·have hf:=Hj (fitL_ok (v:=val zs) (by rw [← e1,hl]; exact hbig))
  have hb':¬ (2048:Int) < (n:Int):=by omega
  rw [← e1] at hf
  have HB:=Hj (And.intro hbel (And.intro hs ha))
  clear K e1 hl hs hr ha hbel
  go_wp2
  go_ret2
  rw [Uh hf]
  exact ⟨a',n,n,rfl,(Uh HB).2.1,(Uh HB).2.2,(Uh HB).1⟩
theorem make_nl (n l:Nat) (h:n + l + 1 ≤ 70368744177600) (w:World):(Instr.makeSlice 36 (.int .i64 ((n:Int) + (l:Int) + 1)) (.int .i64 ((n:Int) + (l:Int) + 1))).run Tryz.prog w = .ok (.slice (some ⟨w.heap.size,0,none⟩) (n + l + 1) (n + l + 1)) (w.alloc (.cells (madeCells #[.int .u32 0] (n + l + 1)) 94)):=by
 have:=make_len (n + l + 1) h w
 rw [show ((n + l + 1:Nat):Int) = (n:Int) + (l:Int) + 1 from by omega] at this
 exact this

set_option maxHeartbeats 2000000 in
theorem shl_some (b off n c:Nat) (xs:List Nat) (w:World) (k l s:Nat) (hl:xs.length = n) (hc:Cells w b off xs) (ox:Ok xs) (hkl:(k:Int) / 32 = (l:Int)) (hks:(k:Int) % 32 = (s:Int)) (hs32:s < 32) (hk0:k ≤ 65536) (hl0:l ≤ 2048) (hn:0 < n) (hn2:n ≤ 2048) :
  Calls Tryz.prog 130 #[.slice (some ⟨b,off,none⟩) n c,.int .i64 (k:Nat)] w fun e w' => NewRep w w' (val xs * 2 ^ k) e:=by
 have hmk:=fun w => make_nl n l (by omega) w
 have hne:((n:Int) == 0) = false:=by simp; omega
 have HL:=Hj hl
 have HT:=Hj (sh_total (v:=val xs) (k:=k) (l:=l) (s:=s) (by omega) (by omega))
 clear hl
 go_enter Tryz.func130,Tryz.ntmps130
 go_wp2_with fail
 rw [hks]
 clear hkl hks hk0
 go_loopw [25] (fun i wr => ∃ j:Nat,∃ g:Nat → Nat,j ≤ n ∧ i = .int .i64 j ∧ ShR wr w (n + l + 1) l s xs j g) (fun i _ => n - (intOf i).toNat)
 case atStart => exact ⟨0,_,Nat.zero_le _,rfl,ShR.begin w (n + l + 1) l s xs hs32⟩
 case round =>
  obtain ⟨j,g,hj,rfl,hR⟩:=hrel
  by_cases hlt:j < n
  ·have hlt':(j:Int) < (n:Int):=by omega
   have hb1:(l:Int) + (j:Int) < (n:Int) + (l:Int) + 1:=by omega
   have hb2:(l:Int) + (j:Int) + 1 < (n:Int) + (l:Int) + 1:=by omega
   have g0:=hc j (by rw [Uh HL]; exact hlt)
   have g1:wr.cell? ⟨b,off + j,none⟩ = _:=(ck hR.bel g0)
   have g2:=hR.fn (l + j) (by omega)
   have g3:=hR.fn (l + j + 1) (by omega)
   simp only [Nat.zero_add] at g2 g3
   have c1:=g2.1
   have c2:=g2.2
   have c3:=g3.1
   have c4:=g3.2
   have bx:=ox.getD j
   have e0:=sv_int (x:=xs.getD j 0) (s:=s) bx hs32
   have e1:=slo_int (xs.getD j 0) s
   have e2:=shi_int (xs.getD j 0) s
   have e3:=or_int (x:=xs.getD j 0) hs32 hR.top
   have b1:=sv_lt (x:=xs.getD j 0) bx hs32
   have b2:shi (xs.getD j 0) s < 4294967296:=by have:=shi_lt (x:=xs.getD j 0) bx hs32; have:=(pow_s hs32).2; omega
   have HS:=Hj (hR.step hs32 (by omega) ox)
   generalize xs.getD j 0 = x at *
   generalize g (l + j) = o at *
   generalize g (l + j + 1) = o2 at *
   clear hR g0 g2 g3
   go_wp2
   exact ⟨⟨j + 1,_,by omega,by go_num,Uh HS⟩,by simp [intOf]; omega⟩
  ·have hjn:j = n:=by omega
   subst hjn
   have hv:valF g (j + l + 1) = val xs * 2 ^ k:=by
    have:=hR.val
    rw [← Uh HL,valF_list,Uh HT,Uh HL,Nat.add_comm l j] at this
    exact this
   have KT:=trim_any _ (j + l + 1) (j + l + 1) _ wr (hR.fn.sl (Nat.le_refl _) (by unfold maxLen; omega)) (lst_ok hR.ok)
   rw [lst_val,hv] at KT
   have KT':=Hj KT
   have HB:=Hj hR.bel
   clear hR KT hv
   go_wp2_with fail
   refine (Uh KT').mono ?_
   rintro e w3 ⟨a',m,zs,rfl,hs,hr,ha,rfl⟩
   go_wp2
   go_ret
   refine ⟨a',m,zs,rfl,hs,hr,?_,Uh HB⟩
   intro x hx
   rcases ha with rfl | rfl
   ·cases hx; exact Nat.le_refl _
   ·cases hx

set_option maxHeartbeats 400000 in
theorem shl_nil (a:Option Addr) (c:Nat) (k:Int) (w:World) :
  Calls Tryz.prog 130 #[.slice a 0 c,.int .i64 k] w fun e w' => e = .returned (.slice none 0 0) ∧ w' = w:=by
 go_enter Tryz.func130,Tryz.ntmps130
 go_wp2
 go_ret
 exact ⟨rfl,rfl⟩

theorem shl_any (a:Option Addr) (n c:Nat) (xs:List Nat) (w:World) (k:Nat) (h:Sl w a n c xs) (ox:Ok xs) (hn:n ≤ 2048) (hk:k ≤ 65536) :
  Calls Tryz.prog 130 #[.slice a n c,.int .i64 (k:Nat)] w fun e w' => NewRep w w' (val xs * 2 ^ k) e:=by
 by_cases h0:xs = []
 ·have hl:=h.len
  subst h0
  simp at hl
  subst hl
  refine (shl_nil a c k w).mono ?_
  rintro e w' ⟨rfl,rfl⟩
  exact ⟨none,0,[],rfl,sl_nil _,⟨Ok.nil,.inl rfl,by simp [val]⟩,newAt_nil _,Below.refl _ _⟩
 ·have hp:0 < xs.length:=List.length_pos_iff.2 h0
  rcases h.cells with e | ⟨b,off,rfl,hc⟩
  ·exact absurd e h0
  ·exact shl_some b off n c xs w k (k / 32) (k % 32) h.len hc ox (by omega) (by omega) (by omega) hk (by omega) (by have:=h.len; omega) hn

def shrL (xs:List Nat) (k:Int):List Nat × Int:=if MayL xs then (if 0 ≤ k ∧ k ≤ 65536 then (limbs (val xs / 2 ^ k.toNat),0) else ([],1)) else ([],20)
end Go.Proofs.YtjoaijbhpgekoaaGreatDoor
