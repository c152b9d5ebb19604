/-
  natural.bitwise, And, Or, Xor, Not: contracts.
-/
import Derived.Test.YtpnhmaenmmelnaaSub
namespace Go.Proofs.Ytpnhmaenmmelnaa
open Go.RowKit Go.Deep
set_option linter.unusedVariables false

/-- Limb by limb. -/
def bwAnd (x y : Nat) : Nat := x &&& y
def bwOr (x y : Nat) : Nat := x ||| y
def bwXor (x y : Nat) : Nat := x ^^^ y
def bwNot (x y : Nat) : Nat := x &&& (4294967295 - y)

set_option maxHeartbeats 400000 in
theorem jand_any (x y : Nat) (w : World) (hx : x < 4294967296) (hy : y < 4294967296) :
    Calls Try.prog 71 #[.int .u32 (x : Nat), .int .u32 (y : Nat)] w fun e w' => e = .returned (.int .u32 (bwAnd x y : Nat)) ∧ w' = w := by
  have H := hide (u32_and_nat x y hx hy)
  go_enter Try.func71, Try.ntmps71
  go_wp2
  go_ret
  refine ⟨?_, rfl⟩
  show Ending.returned (Value.int IntKind.u32 (bits .and .u32 (x : Int) (y : Int))) = _
  rw [unhide H]; rfl
set_option maxHeartbeats 400000 in
theorem jor_any (x y : Nat) (w : World) (hx : x < 4294967296) (hy : y < 4294967296) :
    Calls Try.prog 72 #[.int .u32 (x : Nat), .int .u32 (y : Nat)] w fun e w' => e = .returned (.int .u32 (bwOr x y : Nat)) ∧ w' = w := by
  have H := hide (u32_or_nat x y hx hy)
  go_enter Try.func72, Try.ntmps72
  go_wp2
  go_ret
  refine ⟨?_, rfl⟩
  show Ending.returned (Value.int IntKind.u32 (bits .or .u32 (x : Int) (y : Int))) = _
  rw [unhide H]; rfl
set_option maxHeartbeats 400000 in
theorem jxor_any (x y : Nat) (w : World) (hx : x < 4294967296) (hy : y < 4294967296) :
    Calls Try.prog 73 #[.int .u32 (x : Nat), .int .u32 (y : Nat)] w fun e w' => e = .returned (.int .u32 (bwXor x y : Nat)) ∧ w' = w := by
  have H := hide (u32_xor_nat x y hx hy)
  go_enter Try.func73, Try.ntmps73
  go_wp2
  go_ret
  refine ⟨?_, rfl⟩
  show Ending.returned (Value.int IntKind.u32 (bits .xor .u32 (x : Int) (y : Int))) = _
  rw [unhide H]; rfl
set_option maxHeartbeats 400000 in
theorem jnot_any (x y : Nat) (w : World) (hx : x < 4294967296) (hy : y < 4294967296) :
    Calls Try.prog 74 #[.int .u32 (x : Nat), .int .u32 (y : Nat)] w fun e w' => e = .returned (.int .u32 (bwNot x y : Nat)) ∧ w' = w := by
  have H := hide (u32_andNot_nat x y hx hy)
  go_enter Try.func74, Try.ntmps74
  go_wp2
  go_ret
  refine ⟨?_, rfl⟩
  show Ending.returned (Value.int IntKind.u32 (bits .andNot .u32 (x : Int) (y : Int))) = _
  rw [unhide H]; rfl

theorem bwAnd_lt (x y : Nat) (hx : x < 4294967296) (hy : y < 4294967296) : bwAnd x y < 4294967296 := by
  have : (x &&& y) < 2 ^ 32 := Nat.and_lt_two_pow _ (by omega)
  exact this
theorem bwOr_lt (x y : Nat) (hx : x < 4294967296) (hy : y < 4294967296) : bwOr x y < 4294967296 := by
  have : (x ||| y) < 2 ^ 32 := Nat.or_lt_two_pow (by omega) (by omega)
  exact this
theorem bwXor_lt (x y : Nat) (hx : x < 4294967296) (hy : y < 4294967296) : bwXor x y < 4294967296 := by
  have : (x ^^^ y) < 2 ^ 32 := Nat.xor_lt_two_pow (by omega) (by omega)
  exact this
theorem bwNot_lt (x y : Nat) (hx : x < 4294967296) (hy : y < 4294967296) : bwNot x y < 4294967296 := by
  have : (x &&& (4294967295 - y)) < 2 ^ 32 := Nat.and_lt_two_pow _ (by omega)
  exact this

def bwF (F : Nat → Nat → Nat) (xs ys : List Nat) (i : Nat) : Nat := F (xs.getD i 0) (ys.getD i 0)
def bwV (F : Nat → Nat → Nat) (xs ys : List Nat) : Nat := valF (bwF F xs ys) (max xs.length ys.length)
def bwL (F : Nat → Nat → Nat) (xs ys : List Nat) : List Nat × Int := if MayL xs && MayL ys then (limbs (bwV F xs ys), 0) else ([], 20)

theorem bw_step {F : Nat → Nat → Nat} {wr w : World} {m k : Nat} {xs ys : List Nat} (hf : Fn wr w.heap.size 0 m (fun i => if i < k then bwF F xs ys i else 0)) (hlt : k < m) (hb : Below w.heap.size w wr) :
    Fn (wr.setCell ⟨w.heap.size, k, none⟩ (.int .u32 (F (xs.getD k 0) (ys.getD k 0) : Nat))) w.heap.size 0 m (fun i => if i < k + 1 then bwF F xs ys i else 0) ∧ Below w.heap.size w (wr.setCell ⟨w.heap.size, k, none⟩ (.int .u32 (F (xs.getD k 0) (ys.getD k 0) : Nat))) := by
  refine ⟨?_, hb.setCell (Nat.le_refl _) _⟩
  have h := hf.set k (F (xs.getD k 0) (ys.getD k 0)) hlt
  simp only [Nat.zero_add] at h
  refine h.congr ?_
  intro i hi
  by_cases e : i = k
  · simp [e, bwF]
  · by_cases e2 : i < k
    · simp [e, e2, show i < k + 1 from by omega]
    · simp [e, e2, show ¬ i < k + 1 from by omega]

set_option maxHeartbeats 2000000 in
theorem bitAnd_ge (a1 a2 : Option Addr) (n1 c1 n2 c2 : Nat) (xs ys : List Nat) (w : World) (h1 : Sl w a1 n1 c1 xs) (h2 : Sl w a2 n2 c2 ys) (ox : Ok xs) (oy : Ok ys) (hl1 : n1 ≤ 2048) (hl2 : n2 ≤ 2048)
    (K1 : Hid (Calls Try.prog 40 #[.slice a1 n1 c1] w fun e w' => e = .returned (.bool true) ∧ w' = w)) (K2 : Hid (Calls Try.prog 40 #[.slice a2 n2 c2] w fun e w' => e = .returned (.bool true) ∧ w' = w)) (hge : (n2:Int) ≤ (n1:Int)) :
    Calls Try.prog 70 #[.slice a1 n1 c1, .slice a2 n2 c2, .func (.func 71) #[] #[]] w fun e w' => Res2 w w' (limbs (bwV bwAnd xs ys), 0) e := by
  have hmk := make_len n1 (by omega)
  have HM := hide (show max xs.length ys.length = n1 from by rw [h1.len, h2.len]; omega)
  go_enter Try.func70, Try.ntmps70
  go_wp2_with fail
  refine (unhide K1).mono ?_
  rintro e w' ⟨rfl, hw⟩
  obtain rfl := hw.symm
  go_wp2_with fail
  refine (unhide K2).mono ?_
  rintro e w' ⟨rfl, hw⟩
  obtain rfl := hw.symm
  clear K1 K2
  go_wp2_with fail
  go_loopw [26] (fun i wr => ∃ k : Nat, k ≤ n1 ∧ i = .int .i64 k ∧ Fn wr w.heap.size 0 n1 (fun i => if i < k then bwF bwAnd xs ys i else 0) ∧ Below w.heap.size w wr) (fun i _ => n1 - (intOf i).toNat)
  case atStart => exact ⟨0, Nat.zero_le _, rfl, by simpa using Fn.made w n1 _, (Below.refl _ _).alloc (Nat.le_refl _) _⟩
  case round =>
    obtain ⟨k, hk, rfl, hf, hbel⟩ := hrel
    by_cases hlt : k < n1
    · have hlt' : (k:Int) < (n1:Int) := by omega
      have KX := limbAt_any a1 n1 c1 xs k wr (h1.below hbel) (by omega)
      have KY := limbAt_any a2 n2 c2 ys k wr (h2.below hbel) (by omega)
      rw [show ((k:Int)).toNat = k from Int.toNat_natCast k] at KX KY
      have KX' := hide KX
      have KY' := hide KY
      have KJ := hide (jand_any (xs.getD k 0) (ys.getD k 0) wr (ox.getD k) (oy.getD k))
      have g1 := (hf k hlt).1
      have g2 := (hf k hlt).2
      simp only [Nat.zero_add] at g1 g2
      generalize ((if k < k then bwF bwAnd xs ys k else 0 : Nat) : Int) = old at g1
      have HS := hide (bw_step (F := bwAnd) hf hlt hbel)
      generalize xs.getD k 0 = x at *
      generalize ys.getD k 0 = y at *
      clear KX KY hf hbel
      go_wp2_with fail
      refine (unhide KX').mono ?_
      rintro e w' ⟨rfl, hw⟩
      obtain rfl := hw.symm
      go_wp2_with fail
      refine (unhide KY').mono ?_
      rintro e w' ⟨rfl, hw⟩
      obtain rfl := hw.symm
      go_wp2_with fail
      refine (unhide KJ).mono ?_
      rintro e w' ⟨rfl, hw⟩
      obtain rfl := hw.symm
      go_wp2
      exact ⟨⟨k + 1, by omega, by go_num, (unhide HS).1, (unhide HS).2⟩, by simp [intOf]; omega⟩
    · have hkm : k = n1 := by omega
      subst hkm
      have hf2 : Fn wr w.heap.size 0 k (bwF bwAnd xs ys) := hf.congr (fun i hi => by simp [hi])
      have KT := trim_any _ k k _ wr (hf2.sl (Nat.le_refl _) (by unfold maxLen; omega)) (lst_ok (fun i _ => bwAnd_lt _ _ (ox.getD i) (oy.getD i)))
      rw [lst_val, show valF (bwF bwAnd xs ys) k = bwV bwAnd xs ys from by unfold bwV; rw [unhide HM]] at KT
      have KT' := hide KT
      have HB := hide hbel
      clear hf hf2 KT hbel
      go_wp2_with fail
      refine (unhide KT').mono ?_
      rintro e w3 ⟨a', m, zs, rfl, hs, hr, ha, rfl⟩
      have HX := hide (And.intro hs (And.intro hr ha))
      clear hs hr ha
      go_wp2
      go_ret2
      rw [← (unhide HX).2.1.eq]
      refine ⟨a', m, m, rfl, (unhide HX).1, ?_, unhide HB⟩
      intro x hx
      rcases (unhide HX).2.2 with rfl | rfl
      · cases hx; exact Nat.le_refl _
      · cases hx

set_option maxHeartbeats 2000000 in
theorem bitAnd_lt (a1 a2 : Option Addr) (n1 c1 n2 c2 : Nat) (xs ys : List Nat) (w : World) (h1 : Sl w a1 n1 c1 xs) (h2 : Sl w a2 n2 c2 ys) (ox : Ok xs) (oy : Ok ys) (hl1 : n1 ≤ 2048) (hl2 : n2 ≤ 2048)
    (K1 : Hid (Calls Try.prog 40 #[.slice a1 n1 c1] w fun e w' => e = .returned (.bool true) ∧ w' = w)) (K2 : Hid (Calls Try.prog 40 #[.slice a2 n2 c2] w fun e w' => e = .returned (.bool true) ∧ w' = w)) (hge : (n1:Int) < (n2:Int)) :
    Calls Try.prog 70 #[.slice a1 n1 c1, .slice a2 n2 c2, .func (.func 71) #[] #[]] w fun e w' => Res2 w w' (limbs (bwV bwAnd xs ys), 0) e := by
  have hmk := make_len n2 (by omega)
  have HM := hide (show max xs.length ys.length = n2 from by rw [h1.len, h2.len]; omega)
  go_enter Try.func70, Try.ntmps70
  go_wp2_with fail
  refine (unhide K1).mono ?_
  rintro e w' ⟨rfl, hw⟩
  obtain rfl := hw.symm
  go_wp2_with fail
  refine (unhide K2).mono ?_
  rintro e w' ⟨rfl, hw⟩
  obtain rfl := hw.symm
  clear K1 K2
  go_wp2_with fail
  go_loopw [26] (fun i wr => ∃ k : Nat, k ≤ n2 ∧ i = .int .i64 k ∧ Fn wr w.heap.size 0 n2 (fun i => if i < k then bwF bwAnd xs ys i else 0) ∧ Below w.heap.size w wr) (fun i _ => n2 - (intOf i).toNat)
  case atStart => exact ⟨0, Nat.zero_le _, rfl, by simpa using Fn.made w n2 _, (Below.refl _ _).alloc (Nat.le_refl _) _⟩
  case round =>
    obtain ⟨k, hk, rfl, hf, hbel⟩ := hrel
    by_cases hlt : k < n2
    · have hlt' : (k:Int) < (n2:Int) := by omega
      have KX := limbAt_any a1 n1 c1 xs k wr (h1.below hbel) (by omega)
      have KY := limbAt_any a2 n2 c2 ys k wr (h2.below hbel) (by omega)
      rw [show ((k:Int)).toNat = k from Int.toNat_natCast k] at KX KY
      have KX' := hide KX
      have KY' := hide KY
      have KJ := hide (jand_any (xs.getD k 0) (ys.getD k 0) wr (ox.getD k) (oy.getD k))
      have g1 := (hf k hlt).1
      have g2 := (hf k hlt).2
      simp only [Nat.zero_add] at g1 g2
      generalize ((if k < k then bwF bwAnd xs ys k else 0 : Nat) : Int) = old at g1
      have HS := hide (bw_step (F := bwAnd) hf hlt hbel)
      generalize xs.getD k 0 = x at *
      generalize ys.getD k 0 = y at *
      clear KX KY hf hbel
      go_wp2_with fail
      refine (unhide KX').mono ?_
      rintro e w' ⟨rfl, hw⟩
      obtain rfl := hw.symm
      go_wp2_with fail
      refine (unhide KY').mono ?_
      rintro e w' ⟨rfl, hw⟩
      obtain rfl := hw.symm
      go_wp2_with fail
      refine (unhide KJ).mono ?_
      rintro e w' ⟨rfl, hw⟩
      obtain rfl := hw.symm
      go_wp2
      exact ⟨⟨k + 1, by omega, by go_num, (unhide HS).1, (unhide HS).2⟩, by simp [intOf]; omega⟩
    · have hkm : k = n2 := by omega
      subst hkm
      have hf2 : Fn wr w.heap.size 0 k (bwF bwAnd xs ys) := hf.congr (fun i hi => by simp [hi])
      have KT := trim_any _ k k _ wr (hf2.sl (Nat.le_refl _) (by unfold maxLen; omega)) (lst_ok (fun i _ => bwAnd_lt _ _ (ox.getD i) (oy.getD i)))
      rw [lst_val, show valF (bwF bwAnd xs ys) k = bwV bwAnd xs ys from by unfold bwV; rw [unhide HM]] at KT
      have KT' := hide KT
      have HB := hide hbel
      clear hf hf2 KT hbel
      go_wp2_with fail
      refine (unhide KT').mono ?_
      rintro e w3 ⟨a', m, zs, rfl, hs, hr, ha, rfl⟩
      have HX := hide (And.intro hs (And.intro hr ha))
      clear hs hr ha
      go_wp2
      go_ret2
      rw [← (unhide HX).2.1.eq]
      refine ⟨a', m, m, rfl, (unhide HX).1, ?_, unhide HB⟩
      intro x hx
      rcases (unhide HX).2.2 with rfl | rfl
      · cases hx; exact Nat.le_refl _
      · cases hx

set_option maxHeartbeats 2000000 in
/-- natural.bitwise at And. -/
theorem bitAnd_any (a1 a2 : Option Addr) (n1 c1 n2 c2 : Nat) (xs ys : List Nat) (w : World) (h1 : Sl w a1 n1 c1 xs) (h2 : Sl w a2 n2 c2 ys) (ox : Ok xs) (oy : Ok ys) :
    Calls Try.prog 70 #[.slice a1 n1 c1, .slice a2 n2 c2, .func (.func 71) #[] #[]] w fun e w' => Res2 w w' (bwL bwAnd xs ys) e := by
  have K1 := may_any a1 n1 c1 xs w h1
  have K2 := may_any a2 n2 c2 ys w h2
  by_cases m1 : MayL xs = true
  · by_cases m2 : MayL ys = true
    · rw [m1] at K1; rw [m2] at K2
      have K1' := hide K1
      have K2' := hide K2
      have nx := MayL.norm m1
      have ny := MayL.norm m2
      have hl1 : n1 ≤ 2048 := by have := h1.len; have := MayL.len m1; omega
      have hl2 : n2 ≤ 2048 := by have := h2.len; have := MayL.len m2; omega
      rw [show bwL bwAnd xs ys = (limbs (bwV bwAnd xs ys), 0) from by simp [bwL, m1, m2]]
      by_cases hlt : n1 < n2
      · exact bitAnd_lt a1 a2 n1 c1 n2 c2 xs ys w h1 h2 ox oy hl1 hl2 K1' K2' (by omega)
      · exact bitAnd_ge a1 a2 n1 c1 n2 c2 xs ys w h1 h2 ox oy hl1 hl2 K1' K2' (by omega)
    · have m2' : MayL ys = false := by simpa using m2
      rw [m1] at K1; rw [m2'] at K2
      have K1' := hide K1
      have K2' := hide K2
      have HC := hide (show bwL bwAnd xs ys = ([], 20) from by simp [bwL, m2'])
      clear K1 K2 m1 m2 m2' h1 h2 ox oy
      go_enter Try.func70, Try.ntmps70
      go_wp2_with fail
      refine (unhide K1').mono ?_
      rintro e w' ⟨rfl, hw⟩
      obtain rfl := hw.symm
      go_wp2_with fail
      refine (unhide K2').mono ?_
      rintro e w' ⟨rfl, hw⟩
      obtain rfl := hw.symm
      go_wp2
      go_ret2
      rw [unhide HC]
      exact ⟨none, 0, 0, rfl, sl_nil _, newAt_nil _, Below.refl _ _⟩
  · have m1' : MayL xs = false := by simpa using m1
    rw [m1'] at K1
    have K1' := hide K1
    have HC := hide (show bwL bwAnd xs ys = ([], 20) from by simp [bwL, m1'])
    clear K1 K2 m1 m1' h1 h2 ox oy
    go_enter Try.func70, Try.ntmps70
    go_wp2_with fail
    refine (unhide K1').mono ?_
    rintro e w' ⟨rfl, hw⟩
    obtain rfl := hw.symm
    go_wp2
    go_ret2
    rw [unhide HC]
    exact ⟨none, 0, 0, rfl, sl_nil _, newAt_nil _, Below.refl _ _⟩

set_option maxHeartbeats 400000 in
/-- natural.And. -/
theorem nand_any (a1 a2 : Option Addr) (n1 c1 n2 c2 : Nat) (xs ys : List Nat) (w : World) (h1 : Sl w a1 n1 c1 xs) (h2 : Sl w a2 n2 c2 ys) (ox : Ok xs) (oy : Ok ys) :
    Calls Try.prog 33 #[.slice a1 n1 c1, .slice a2 n2 c2] w fun e w' => Res2 w w' (bwL bwAnd xs ys) e := by
  have K := hide (bitAnd_any a1 a2 n1 c1 n2 c2 xs ys w h1 h2 ox oy)
  clear h1 h2 ox oy
  go_enter Try.func33, Try.ntmps33
  go_wp2_with fail
  refine (unhide K).mono ?_
  rintro e w1 ⟨a, m, c, rfl, hs, hn, hb⟩
  have HX := hide (And.intro hs (And.intro hn hb))
  clear hs hn hb K
  go_wp2
  go_ret2
  exact ⟨a, m, c, rfl, (unhide HX).1, (unhide HX).2.1, (unhide HX).2.2⟩

set_option maxHeartbeats 2000000 in
theorem bitOr_ge (a1 a2 : Option Addr) (n1 c1 n2 c2 : Nat) (xs ys : List Nat) (w : World) (h1 : Sl w a1 n1 c1 xs) (h2 : Sl w a2 n2 c2 ys) (ox : Ok xs) (oy : Ok ys) (hl1 : n1 ≤ 2048) (hl2 : n2 ≤ 2048)
    (K1 : Hid (Calls Try.prog 40 #[.slice a1 n1 c1] w fun e w' => e = .returned (.bool true) ∧ w' = w)) (K2 : Hid (Calls Try.prog 40 #[.slice a2 n2 c2] w fun e w' => e = .returned (.bool true) ∧ w' = w)) (hge : (n2:Int) ≤ (n1:Int)) :
    Calls Try.prog 70 #[.slice a1 n1 c1, .slice a2 n2 c2, .func (.func 72) #[] #[]] w fun e w' => Res2 w w' (limbs (bwV bwOr xs ys), 0) e := by
  have hmk := make_len n1 (by omega)
  have HM := hide (show max xs.length ys.length = n1 from by rw [h1.len, h2.len]; omega)
  go_enter Try.func70, Try.ntmps70
  go_wp2_with fail
  refine (unhide K1).mono ?_
  rintro e w' ⟨rfl, hw⟩
  obtain rfl := hw.symm
  go_wp2_with fail
  refine (unhide K2).mono ?_
  rintro e w' ⟨rfl, hw⟩
  obtain rfl := hw.symm
  clear K1 K2
  go_wp2_with fail
  go_loopw [26] (fun i wr => ∃ k : Nat, k ≤ n1 ∧ i = .int .i64 k ∧ Fn wr w.heap.size 0 n1 (fun i => if i < k then bwF bwOr xs ys i else 0) ∧ Below w.heap.size w wr) (fun i _ => n1 - (intOf i).toNat)
  case atStart => exact ⟨0, Nat.zero_le _, rfl, by simpa using Fn.made w n1 _, (Below.refl _ _).alloc (Nat.le_refl _) _⟩
  case round =>
    obtain ⟨k, hk, rfl, hf, hbel⟩ := hrel
    by_cases hlt : k < n1
    · have hlt' : (k:Int) < (n1:Int) := by omega
      have KX := limbAt_any a1 n1 c1 xs k wr (h1.below hbel) (by omega)
      have KY := limbAt_any a2 n2 c2 ys k wr (h2.below hbel) (by omega)
      rw [show ((k:Int)).toNat = k from Int.toNat_natCast k] at KX KY
      have KX' := hide KX
      have KY' := hide KY
      have KJ := hide (jor_any (xs.getD k 0) (ys.getD k 0) wr (ox.getD k) (oy.getD k))
      have g1 := (hf k hlt).1
      have g2 := (hf k hlt).2
      simp only [Nat.zero_add] at g1 g2
      generalize ((if k < k then bwF bwOr xs ys k else 0 : Nat) : Int) = old at g1
      have HS := hide (bw_step (F := bwOr) hf hlt hbel)
      generalize xs.getD k 0 = x at *
      generalize ys.getD k 0 = y at *
      clear KX KY hf hbel
      go_wp2_with fail
      refine (unhide KX').mono ?_
      rintro e w' ⟨rfl, hw⟩
      obtain rfl := hw.symm
      go_wp2_with fail
      refine (unhide KY').mono ?_
      rintro e w' ⟨rfl, hw⟩
      obtain rfl := hw.symm
      go_wp2_with fail
      refine (unhide KJ).mono ?_
      rintro e w' ⟨rfl, hw⟩
      obtain rfl := hw.symm
      go_wp2
      exact ⟨⟨k + 1, by omega, by go_num, (unhide HS).1, (unhide HS).2⟩, by simp [intOf]; omega⟩
    · have hkm : k = n1 := by omega
      subst hkm
      have hf2 : Fn wr w.heap.size 0 k (bwF bwOr xs ys) := hf.congr (fun i hi => by simp [hi])
      have KT := trim_any _ k k _ wr (hf2.sl (Nat.le_refl _) (by unfold maxLen; omega)) (lst_ok (fun i _ => bwOr_lt _ _ (ox.getD i) (oy.getD i)))
      rw [lst_val, show valF (bwF bwOr xs ys) k = bwV bwOr xs ys from by unfold bwV; rw [unhide HM]] at KT
      have KT' := hide KT
      have HB := hide hbel
      clear hf hf2 KT hbel
      go_wp2_with fail
      refine (unhide KT').mono ?_
      rintro e w3 ⟨a', m, zs, rfl, hs, hr, ha, rfl⟩
      have HX := hide (And.intro hs (And.intro hr ha))
      clear hs hr ha
      go_wp2
      go_ret2
      rw [← (unhide HX).2.1.eq]
      refine ⟨a', m, m, rfl, (unhide HX).1, ?_, unhide HB⟩
      intro x hx
      rcases (unhide HX).2.2 with rfl | rfl
      · cases hx; exact Nat.le_refl _
      · cases hx

set_option maxHeartbeats 2000000 in
theorem bitOr_lt (a1 a2 : Option Addr) (n1 c1 n2 c2 : Nat) (xs ys : List Nat) (w : World) (h1 : Sl w a1 n1 c1 xs) (h2 : Sl w a2 n2 c2 ys) (ox : Ok xs) (oy : Ok ys) (hl1 : n1 ≤ 2048) (hl2 : n2 ≤ 2048)
    (K1 : Hid (Calls Try.prog 40 #[.slice a1 n1 c1] w fun e w' => e = .returned (.bool true) ∧ w' = w)) (K2 : Hid (Calls Try.prog 40 #[.slice a2 n2 c2] w fun e w' => e = .returned (.bool true) ∧ w' = w)) (hge : (n1:Int) < (n2:Int)) :
    Calls Try.prog 70 #[.slice a1 n1 c1, .slice a2 n2 c2, .func (.func 72) #[] #[]] w fun e w' => Res2 w w' (limbs (bwV bwOr xs ys), 0) e := by
  have hmk := make_len n2 (by omega)
  have HM := hide (show max xs.length ys.length = n2 from by rw [h1.len, h2.len]; omega)
  go_enter Try.func70, Try.ntmps70
  go_wp2_with fail
  refine (unhide K1).mono ?_
  rintro e w' ⟨rfl, hw⟩
  obtain rfl := hw.symm
  go_wp2_with fail
  refine (unhide K2).mono ?_
  rintro e w' ⟨rfl, hw⟩
  obtain rfl := hw.symm
  clear K1 K2
  go_wp2_with fail
  go_loopw [26] (fun i wr => ∃ k : Nat, k ≤ n2 ∧ i = .int .i64 k ∧ Fn wr w.heap.size 0 n2 (fun i => if i < k then bwF bwOr xs ys i else 0) ∧ Below w.heap.size w wr) (fun i _ => n2 - (intOf i).toNat)
  case atStart => exact ⟨0, Nat.zero_le _, rfl, by simpa using Fn.made w n2 _, (Below.refl _ _).alloc (Nat.le_refl _) _⟩
  case round =>
    obtain ⟨k, hk, rfl, hf, hbel⟩ := hrel
    by_cases hlt : k < n2
    · have hlt' : (k:Int) < (n2:Int) := by omega
      have KX := limbAt_any a1 n1 c1 xs k wr (h1.below hbel) (by omega)
      have KY := limbAt_any a2 n2 c2 ys k wr (h2.below hbel) (by omega)
      rw [show ((k:Int)).toNat = k from Int.toNat_natCast k] at KX KY
      have KX' := hide KX
      have KY' := hide KY
      have KJ := hide (jor_any (xs.getD k 0) (ys.getD k 0) wr (ox.getD k) (oy.getD k))
      have g1 := (hf k hlt).1
      have g2 := (hf k hlt).2
      simp only [Nat.zero_add] at g1 g2
      generalize ((if k < k then bwF bwOr xs ys k else 0 : Nat) : Int) = old at g1
      have HS := hide (bw_step (F := bwOr) hf hlt hbel)
      generalize xs.getD k 0 = x at *
      generalize ys.getD k 0 = y at *
      clear KX KY hf hbel
      go_wp2_with fail
      refine (unhide KX').mono ?_
      rintro e w' ⟨rfl, hw⟩
      obtain rfl := hw.symm
      go_wp2_with fail
      refine (unhide KY').mono ?_
      rintro e w' ⟨rfl, hw⟩
      obtain rfl := hw.symm
      go_wp2_with fail
      refine (unhide KJ).mono ?_
      rintro e w' ⟨rfl, hw⟩
      obtain rfl := hw.symm
      go_wp2
      exact ⟨⟨k + 1, by omega, by go_num, (unhide HS).1, (unhide HS).2⟩, by simp [intOf]; omega⟩
    · have hkm : k = n2 := by omega
      subst hkm
      have hf2 : Fn wr w.heap.size 0 k (bwF bwOr xs ys) := hf.congr (fun i hi => by simp [hi])
      have KT := trim_any _ k k _ wr (hf2.sl (Nat.le_refl _) (by unfold maxLen; omega)) (lst_ok (fun i _ => bwOr_lt _ _ (ox.getD i) (oy.getD i)))
      rw [lst_val, show valF (bwF bwOr xs ys) k = bwV bwOr xs ys from by unfold bwV; rw [unhide HM]] at KT
      have KT' := hide KT
      have HB := hide hbel
      clear hf hf2 KT hbel
      go_wp2_with fail
      refine (unhide KT').mono ?_
      rintro e w3 ⟨a', m, zs, rfl, hs, hr, ha, rfl⟩
      have HX := hide (And.intro hs (And.intro hr ha))
      clear hs hr ha
      go_wp2
      go_ret2
      rw [← (unhide HX).2.1.eq]
      refine ⟨a', m, m, rfl, (unhide HX).1, ?_, unhide HB⟩
      intro x hx
      rcases (unhide HX).2.2 with rfl | rfl
      · cases hx; exact Nat.le_refl _
      · cases hx

set_option maxHeartbeats 2000000 in
/-- natural.bitwise at Or. -/
theorem bitOr_any (a1 a2 : Option Addr) (n1 c1 n2 c2 : Nat) (xs ys : List Nat) (w : World) (h1 : Sl w a1 n1 c1 xs) (h2 : Sl w a2 n2 c2 ys) (ox : Ok xs) (oy : Ok ys) :
    Calls Try.prog 70 #[.slice a1 n1 c1, .slice a2 n2 c2, .func (.func 72) #[] #[]] w fun e w' => Res2 w w' (bwL bwOr xs ys) e := by
  have K1 := may_any a1 n1 c1 xs w h1
  have K2 := may_any a2 n2 c2 ys w h2
  by_cases m1 : MayL xs = true
  · by_cases m2 : MayL ys = true
    · rw [m1] at K1; rw [m2] at K2
      have K1' := hide K1
      have K2' := hide K2
      have nx := MayL.norm m1
      have ny := MayL.norm m2
      have hl1 : n1 ≤ 2048 := by have := h1.len; have := MayL.len m1; omega
      have hl2 : n2 ≤ 2048 := by have := h2.len; have := MayL.len m2; omega
      rw [show bwL bwOr xs ys = (limbs (bwV bwOr xs ys), 0) from by simp [bwL, m1, m2]]
      by_cases hlt : n1 < n2
      · exact bitOr_lt a1 a2 n1 c1 n2 c2 xs ys w h1 h2 ox oy hl1 hl2 K1' K2' (by omega)
      · exact bitOr_ge a1 a2 n1 c1 n2 c2 xs ys w h1 h2 ox oy hl1 hl2 K1' K2' (by omega)
    · have m2' : MayL ys = false := by simpa using m2
      rw [m1] at K1; rw [m2'] at K2
      have K1' := hide K1
      have K2' := hide K2
      have HC := hide (show bwL bwOr xs ys = ([], 20) from by simp [bwL, m2'])
      clear K1 K2 m1 m2 m2' h1 h2 ox oy
      go_enter Try.func70, Try.ntmps70
      go_wp2_with fail
      refine (unhide K1').mono ?_
      rintro e w' ⟨rfl, hw⟩
      obtain rfl := hw.symm
      go_wp2_with fail
      refine (unhide K2').mono ?_
      rintro e w' ⟨rfl, hw⟩
      obtain rfl := hw.symm
      go_wp2
      go_ret2
      rw [unhide HC]
      exact ⟨none, 0, 0, rfl, sl_nil _, newAt_nil _, Below.refl _ _⟩
  · have m1' : MayL xs = false := by simpa using m1
    rw [m1'] at K1
    have K1' := hide K1
    have HC := hide (show bwL bwOr xs ys = ([], 20) from by simp [bwL, m1'])
    clear K1 K2 m1 m1' h1 h2 ox oy
    go_enter Try.func70, Try.ntmps70
    go_wp2_with fail
    refine (unhide K1').mono ?_
    rintro e w' ⟨rfl, hw⟩
    obtain rfl := hw.symm
    go_wp2
    go_ret2
    rw [unhide HC]
    exact ⟨none, 0, 0, rfl, sl_nil _, newAt_nil _, Below.refl _ _⟩

set_option maxHeartbeats 400000 in
/-- natural.Or. -/
theorem nor_any (a1 a2 : Option Addr) (n1 c1 n2 c2 : Nat) (xs ys : List Nat) (w : World) (h1 : Sl w a1 n1 c1 xs) (h2 : Sl w a2 n2 c2 ys) (ox : Ok xs) (oy : Ok ys) :
    Calls Try.prog 34 #[.slice a1 n1 c1, .slice a2 n2 c2] w fun e w' => Res2 w w' (bwL bwOr xs ys) e := by
  have K := hide (bitOr_any a1 a2 n1 c1 n2 c2 xs ys w h1 h2 ox oy)
  clear h1 h2 ox oy
  go_enter Try.func34, Try.ntmps34
  go_wp2_with fail
  refine (unhide K).mono ?_
  rintro e w1 ⟨a, m, c, rfl, hs, hn, hb⟩
  have HX := hide (And.intro hs (And.intro hn hb))
  clear hs hn hb K
  go_wp2
  go_ret2
  exact ⟨a, m, c, rfl, (unhide HX).1, (unhide HX).2.1, (unhide HX).2.2⟩

set_option maxHeartbeats 2000000 in
theorem bitXor_ge (a1 a2 : Option Addr) (n1 c1 n2 c2 : Nat) (xs ys : List Nat) (w : World) (h1 : Sl w a1 n1 c1 xs) (h2 : Sl w a2 n2 c2 ys) (ox : Ok xs) (oy : Ok ys) (hl1 : n1 ≤ 2048) (hl2 : n2 ≤ 2048)
    (K1 : Hid (Calls Try.prog 40 #[.slice a1 n1 c1] w fun e w' => e = .returned (.bool true) ∧ w' = w)) (K2 : Hid (Calls Try.prog 40 #[.slice a2 n2 c2] w fun e w' => e = .returned (.bool true) ∧ w' = w)) (hge : (n2:Int) ≤ (n1:Int)) :
    Calls Try.prog 70 #[.slice a1 n1 c1, .slice a2 n2 c2, .func (.func 73) #[] #[]] w fun e w' => Res2 w w' (limbs (bwV bwXor xs ys), 0) e := by
  have hmk := make_len n1 (by omega)
  have HM := hide (show max xs.length ys.length = n1 from by rw [h1.len, h2.len]; omega)
  go_enter Try.func70, Try.ntmps70
  go_wp2_with fail
  refine (unhide K1).mono ?_
  rintro e w' ⟨rfl, hw⟩
  obtain rfl := hw.symm
  go_wp2_with fail
  refine (unhide K2).mono ?_
  rintro e w' ⟨rfl, hw⟩
  obtain rfl := hw.symm
  clear K1 K2
  go_wp2_with fail
  go_loopw [26] (fun i wr => ∃ k : Nat, k ≤ n1 ∧ i = .int .i64 k ∧ Fn wr w.heap.size 0 n1 (fun i => if i < k then bwF bwXor xs ys i else 0) ∧ Below w.heap.size w wr) (fun i _ => n1 - (intOf i).toNat)
  case atStart => exact ⟨0, Nat.zero_le _, rfl, by simpa using Fn.made w n1 _, (Below.refl _ _).alloc (Nat.le_refl _) _⟩
  case round =>
    obtain ⟨k, hk, rfl, hf, hbel⟩ := hrel
    by_cases hlt : k < n1
    · have hlt' : (k:Int) < (n1:Int) := by omega
      have KX := limbAt_any a1 n1 c1 xs k wr (h1.below hbel) (by omega)
      have KY := limbAt_any a2 n2 c2 ys k wr (h2.below hbel) (by omega)
      rw [show ((k:Int)).toNat = k from Int.toNat_natCast k] at KX KY
      have KX' := hide KX
      have KY' := hide KY
      have KJ := hide (jxor_any (xs.getD k 0) (ys.getD k 0) wr (ox.getD k) (oy.getD k))
      have g1 := (hf k hlt).1
      have g2 := (hf k hlt).2
      simp only [Nat.zero_add] at g1 g2
      generalize ((if k < k then bwF bwXor xs ys k else 0 : Nat) : Int) = old at g1
      have HS := hide (bw_step (F := bwXor) hf hlt hbel)
      generalize xs.getD k 0 = x at *
      generalize ys.getD k 0 = y at *
      clear KX KY hf hbel
      go_wp2_with fail
      refine (unhide KX').mono ?_
      rintro e w' ⟨rfl, hw⟩
      obtain rfl := hw.symm
      go_wp2_with fail
      refine (unhide KY').mono ?_
      rintro e w' ⟨rfl, hw⟩
      obtain rfl := hw.symm
      go_wp2_with fail
      refine (unhide KJ).mono ?_
      rintro e w' ⟨rfl, hw⟩
      obtain rfl := hw.symm
      go_wp2
      exact ⟨⟨k + 1, by omega, by go_num, (unhide HS).1, (unhide HS).2⟩, by simp [intOf]; omega⟩
    · have hkm : k = n1 := by omega
      subst hkm
      have hf2 : Fn wr w.heap.size 0 k (bwF bwXor xs ys) := hf.congr (fun i hi => by simp [hi])
      have KT := trim_any _ k k _ wr (hf2.sl (Nat.le_refl _) (by unfold maxLen; omega)) (lst_ok (fun i _ => bwXor_lt _ _ (ox.getD i) (oy.getD i)))
      rw [lst_val, show valF (bwF bwXor xs ys) k = bwV bwXor xs ys from by unfold bwV; rw [unhide HM]] at KT
      have KT' := hide KT
      have HB := hide hbel
      clear hf hf2 KT hbel
      go_wp2_with fail
      refine (unhide KT').mono ?_
      rintro e w3 ⟨a', m, zs, rfl, hs, hr, ha, rfl⟩
      have HX := hide (And.intro hs (And.intro hr ha))
      clear hs hr ha
      go_wp2
      go_ret2
      rw [← (unhide HX).2.1.eq]
      refine ⟨a', m, m, rfl, (unhide HX).1, ?_, unhide HB⟩
      intro x hx
      rcases (unhide HX).2.2 with rfl | rfl
      · cases hx; exact Nat.le_refl _
      · cases hx

set_option maxHeartbeats 2000000 in
theorem bitXor_lt (a1 a2 : Option Addr) (n1 c1 n2 c2 : Nat) (xs ys : List Nat) (w : World) (h1 : Sl w a1 n1 c1 xs) (h2 : Sl w a2 n2 c2 ys) (ox : Ok xs) (oy : Ok ys) (hl1 : n1 ≤ 2048) (hl2 : n2 ≤ 2048)
    (K1 : Hid (Calls Try.prog 40 #[.slice a1 n1 c1] w fun e w' => e = .returned (.bool true) ∧ w' = w)) (K2 : Hid (Calls Try.prog 40 #[.slice a2 n2 c2] w fun e w' => e = .returned (.bool true) ∧ w' = w)) (hge : (n1:Int) < (n2:Int)) :
    Calls Try.prog 70 #[.slice a1 n1 c1, .slice a2 n2 c2, .func (.func 73) #[] #[]] w fun e w' => Res2 w w' (limbs (bwV bwXor xs ys), 0) e := by
  have hmk := make_len n2 (by omega)
  have HM := hide (show max xs.length ys.length = n2 from by rw [h1.len, h2.len]; omega)
  go_enter Try.func70, Try.ntmps70
  go_wp2_with fail
  refine (unhide K1).mono ?_
  rintro e w' ⟨rfl, hw⟩
  obtain rfl := hw.symm
  go_wp2_with fail
  refine (unhide K2).mono ?_
  rintro e w' ⟨rfl, hw⟩
  obtain rfl := hw.symm
  clear K1 K2
  go_wp2_with fail
  go_loopw [26] (fun i wr => ∃ k : Nat, k ≤ n2 ∧ i = .int .i64 k ∧ Fn wr w.heap.size 0 n2 (fun i => if i < k then bwF bwXor xs ys i else 0) ∧ Below w.heap.size w wr) (fun i _ => n2 - (intOf i).toNat)
  case atStart => exact ⟨0, Nat.zero_le _, rfl, by simpa using Fn.made w n2 _, (Below.refl _ _).alloc (Nat.le_refl _) _⟩
  case round =>
    obtain ⟨k, hk, rfl, hf, hbel⟩ := hrel
    by_cases hlt : k < n2
    · have hlt' : (k:Int) < (n2:Int) := by omega
      have KX := limbAt_any a1 n1 c1 xs k wr (h1.below hbel) (by omega)
      have KY := limbAt_any a2 n2 c2 ys k wr (h2.below hbel) (by omega)
      rw [show ((k:Int)).toNat = k from Int.toNat_natCast k] at KX KY
      have KX' := hide KX
      have KY' := hide KY
      have KJ := hide (jxor_any (xs.getD k 0) (ys.getD k 0) wr (ox.getD k) (oy.getD k))
      have g1 := (hf k hlt).1
      have g2 := (hf k hlt).2
      simp only [Nat.zero_add] at g1 g2
      generalize ((if k < k then bwF bwXor xs ys k else 0 : Nat) : Int) = old at g1
      have HS := hide (bw_step (F := bwXor) hf hlt hbel)
      generalize xs.getD k 0 = x at *
      generalize ys.getD k 0 = y at *
      clear KX KY hf hbel
      go_wp2_with fail
      refine (unhide KX').mono ?_
      rintro e w' ⟨rfl, hw⟩
      obtain rfl := hw.symm
      go_wp2_with fail
      refine (unhide KY').mono ?_
      rintro e w' ⟨rfl, hw⟩
      obtain rfl := hw.symm
      go_wp2_with fail
      refine (unhide KJ).mono ?_
      rintro e w' ⟨rfl, hw⟩
      obtain rfl := hw.symm
      go_wp2
      exact ⟨⟨k + 1, by omega, by go_num, (unhide HS).1, (unhide HS).2⟩, by simp [intOf]; omega⟩
    · have hkm : k = n2 := by omega
      subst hkm
      have hf2 : Fn wr w.heap.size 0 k (bwF bwXor xs ys) := hf.congr (fun i hi => by simp [hi])
      have KT := trim_any _ k k _ wr (hf2.sl (Nat.le_refl _) (by unfold maxLen; omega)) (lst_ok (fun i _ => bwXor_lt _ _ (ox.getD i) (oy.getD i)))
      rw [lst_val, show valF (bwF bwXor xs ys) k = bwV bwXor xs ys from by unfold bwV; rw [unhide HM]] at KT
      have KT' := hide KT
      have HB := hide hbel
      clear hf hf2 KT hbel
      go_wp2_with fail
      refine (unhide KT').mono ?_
      rintro e w3 ⟨a', m, zs, rfl, hs, hr, ha, rfl⟩
      have HX := hide (And.intro hs (And.intro hr ha))
      clear hs hr ha
      go_wp2
      go_ret2
      rw [← (unhide HX).2.1.eq]
      refine ⟨a', m, m, rfl, (unhide HX).1, ?_, unhide HB⟩
      intro x hx
      rcases (unhide HX).2.2 with rfl | rfl
      · cases hx; exact Nat.le_refl _
      · cases hx

set_option maxHeartbeats 2000000 in
/-- natural.bitwise at Xor. -/
theorem bitXor_any (a1 a2 : Option Addr) (n1 c1 n2 c2 : Nat) (xs ys : List Nat) (w : World) (h1 : Sl w a1 n1 c1 xs) (h2 : Sl w a2 n2 c2 ys) (ox : Ok xs) (oy : Ok ys) :
    Calls Try.prog 70 #[.slice a1 n1 c1, .slice a2 n2 c2, .func (.func 73) #[] #[]] w fun e w' => Res2 w w' (bwL bwXor xs ys) e := by
  have K1 := may_any a1 n1 c1 xs w h1
  have K2 := may_any a2 n2 c2 ys w h2
  by_cases m1 : MayL xs = true
  · by_cases m2 : MayL ys = true
    · rw [m1] at K1; rw [m2] at K2
      have K1' := hide K1
      have K2' := hide K2
      have nx := MayL.norm m1
      have ny := MayL.norm m2
      have hl1 : n1 ≤ 2048 := by have := h1.len; have := MayL.len m1; omega
      have hl2 : n2 ≤ 2048 := by have := h2.len; have := MayL.len m2; omega
      rw [show bwL bwXor xs ys = (limbs (bwV bwXor xs ys), 0) from by simp [bwL, m1, m2]]
      by_cases hlt : n1 < n2
      · exact bitXor_lt a1 a2 n1 c1 n2 c2 xs ys w h1 h2 ox oy hl1 hl2 K1' K2' (by omega)
      · exact bitXor_ge a1 a2 n1 c1 n2 c2 xs ys w h1 h2 ox oy hl1 hl2 K1' K2' (by omega)
    · have m2' : MayL ys = false := by simpa using m2
      rw [m1] at K1; rw [m2'] at K2
      have K1' := hide K1
      have K2' := hide K2
      have HC := hide (show bwL bwXor xs ys = ([], 20) from by simp [bwL, m2'])
      clear K1 K2 m1 m2 m2' h1 h2 ox oy
      go_enter Try.func70, Try.ntmps70
      go_wp2_with fail
      refine (unhide K1').mono ?_
      rintro e w' ⟨rfl, hw⟩
      obtain rfl := hw.symm
      go_wp2_with fail
      refine (unhide K2').mono ?_
      rintro e w' ⟨rfl, hw⟩
      obtain rfl := hw.symm
      go_wp2
      go_ret2
      rw [unhide HC]
      exact ⟨none, 0, 0, rfl, sl_nil _, newAt_nil _, Below.refl _ _⟩
  · have m1' : MayL xs = false := by simpa using m1
    rw [m1'] at K1
    have K1' := hide K1
    have HC := hide (show bwL bwXor xs ys = ([], 20) from by simp [bwL, m1'])
    clear K1 K2 m1 m1' h1 h2 ox oy
    go_enter Try.func70, Try.ntmps70
    go_wp2_with fail
    refine (unhide K1').mono ?_
    rintro e w' ⟨rfl, hw⟩
    obtain rfl := hw.symm
    go_wp2
    go_ret2
    rw [unhide HC]
    exact ⟨none, 0, 0, rfl, sl_nil _, newAt_nil _, Below.refl _ _⟩

set_option maxHeartbeats 400000 in
/-- natural.Xor. -/
theorem nxor_any (a1 a2 : Option Addr) (n1 c1 n2 c2 : Nat) (xs ys : List Nat) (w : World) (h1 : Sl w a1 n1 c1 xs) (h2 : Sl w a2 n2 c2 ys) (ox : Ok xs) (oy : Ok ys) :
    Calls Try.prog 35 #[.slice a1 n1 c1, .slice a2 n2 c2] w fun e w' => Res2 w w' (bwL bwXor xs ys) e := by
  have K := hide (bitXor_any a1 a2 n1 c1 n2 c2 xs ys w h1 h2 ox oy)
  clear h1 h2 ox oy
  go_enter Try.func35, Try.ntmps35
  go_wp2_with fail
  refine (unhide K).mono ?_
  rintro e w1 ⟨a, m, c, rfl, hs, hn, hb⟩
  have HX := hide (And.intro hs (And.intro hn hb))
  clear hs hn hb K
  go_wp2
  go_ret2
  exact ⟨a, m, c, rfl, (unhide HX).1, (unhide HX).2.1, (unhide HX).2.2⟩

set_option maxHeartbeats 2000000 in
theorem bitNot_ge (a1 a2 : Option Addr) (n1 c1 n2 c2 : Nat) (xs ys : List Nat) (w : World) (h1 : Sl w a1 n1 c1 xs) (h2 : Sl w a2 n2 c2 ys) (ox : Ok xs) (oy : Ok ys) (hl1 : n1 ≤ 2048) (hl2 : n2 ≤ 2048)
    (K1 : Hid (Calls Try.prog 40 #[.slice a1 n1 c1] w fun e w' => e = .returned (.bool true) ∧ w' = w)) (K2 : Hid (Calls Try.prog 40 #[.slice a2 n2 c2] w fun e w' => e = .returned (.bool true) ∧ w' = w)) (hge : (n2:Int) ≤ (n1:Int)) :
    Calls Try.prog 70 #[.slice a1 n1 c1, .slice a2 n2 c2, .func (.func 74) #[] #[]] w fun e w' => Res2 w w' (limbs (bwV bwNot xs ys), 0) e := by
  have hmk := make_len n1 (by omega)
  have HM := hide (show max xs.length ys.length = n1 from by rw [h1.len, h2.len]; omega)
  go_enter Try.func70, Try.ntmps70
  go_wp2_with fail
  refine (unhide K1).mono ?_
  rintro e w' ⟨rfl, hw⟩
  obtain rfl := hw.symm
  go_wp2_with fail
  refine (unhide K2).mono ?_
  rintro e w' ⟨rfl, hw⟩
  obtain rfl := hw.symm
  clear K1 K2
  go_wp2_with fail
  go_loopw [26] (fun i wr => ∃ k : Nat, k ≤ n1 ∧ i = .int .i64 k ∧ Fn wr w.heap.size 0 n1 (fun i => if i < k then bwF bwNot xs ys i else 0) ∧ Below w.heap.size w wr) (fun i _ => n1 - (intOf i).toNat)
  case atStart => exact ⟨0, Nat.zero_le _, rfl, by simpa using Fn.made w n1 _, (Below.refl _ _).alloc (Nat.le_refl _) _⟩
  case round =>
    obtain ⟨k, hk, rfl, hf, hbel⟩ := hrel
    by_cases hlt : k < n1
    · have hlt' : (k:Int) < (n1:Int) := by omega
      have KX := limbAt_any a1 n1 c1 xs k wr (h1.below hbel) (by omega)
      have KY := limbAt_any a2 n2 c2 ys k wr (h2.below hbel) (by omega)
      rw [show ((k:Int)).toNat = k from Int.toNat_natCast k] at KX KY
      have KX' := hide KX
      have KY' := hide KY
      have KJ := hide (jnot_any (xs.getD k 0) (ys.getD k 0) wr (ox.getD k) (oy.getD k))
      have g1 := (hf k hlt).1
      have g2 := (hf k hlt).2
      simp only [Nat.zero_add] at g1 g2
      generalize ((if k < k then bwF bwNot xs ys k else 0 : Nat) : Int) = old at g1
      have HS := hide (bw_step (F := bwNot) hf hlt hbel)
      generalize xs.getD k 0 = x at *
      generalize ys.getD k 0 = y at *
      clear KX KY hf hbel
      go_wp2_with fail
      refine (unhide KX').mono ?_
      rintro e w' ⟨rfl, hw⟩
      obtain rfl := hw.symm
      go_wp2_with fail
      refine (unhide KY').mono ?_
      rintro e w' ⟨rfl, hw⟩
      obtain rfl := hw.symm
      go_wp2_with fail
      refine (unhide KJ).mono ?_
      rintro e w' ⟨rfl, hw⟩
      obtain rfl := hw.symm
      go_wp2
      exact ⟨⟨k + 1, by omega, by go_num, (unhide HS).1, (unhide HS).2⟩, by simp [intOf]; omega⟩
    · have hkm : k = n1 := by omega
      subst hkm
      have hf2 : Fn wr w.heap.size 0 k (bwF bwNot xs ys) := hf.congr (fun i hi => by simp [hi])
      have KT := trim_any _ k k _ wr (hf2.sl (Nat.le_refl _) (by unfold maxLen; omega)) (lst_ok (fun i _ => bwNot_lt _ _ (ox.getD i) (oy.getD i)))
      rw [lst_val, show valF (bwF bwNot xs ys) k = bwV bwNot xs ys from by unfold bwV; rw [unhide HM]] at KT
      have KT' := hide KT
      have HB := hide hbel
      clear hf hf2 KT hbel
      go_wp2_with fail
      refine (unhide KT').mono ?_
      rintro e w3 ⟨a', m, zs, rfl, hs, hr, ha, rfl⟩
      have HX := hide (And.intro hs (And.intro hr ha))
      clear hs hr ha
      go_wp2
      go_ret2
      rw [← (unhide HX).2.1.eq]
      refine ⟨a', m, m, rfl, (unhide HX).1, ?_, unhide HB⟩
      intro x hx
      rcases (unhide HX).2.2 with rfl | rfl
      · cases hx; exact Nat.le_refl _
      · cases hx

set_option maxHeartbeats 2000000 in
theorem bitNot_lt (a1 a2 : Option Addr) (n1 c1 n2 c2 : Nat) (xs ys : List Nat) (w : World) (h1 : Sl w a1 n1 c1 xs) (h2 : Sl w a2 n2 c2 ys) (ox : Ok xs) (oy : Ok ys) (hl1 : n1 ≤ 2048) (hl2 : n2 ≤ 2048)
    (K1 : Hid (Calls Try.prog 40 #[.slice a1 n1 c1] w fun e w' => e = .returned (.bool true) ∧ w' = w)) (K2 : Hid (Calls Try.prog 40 #[.slice a2 n2 c2] w fun e w' => e = .returned (.bool true) ∧ w' = w)) (hge : (n1:Int) < (n2:Int)) :
    Calls Try.prog 70 #[.slice a1 n1 c1, .slice a2 n2 c2, .func (.func 74) #[] #[]] w fun e w' => Res2 w w' (limbs (bwV bwNot xs ys), 0) e := by
  have hmk := make_len n2 (by omega)
  have HM := hide (show max xs.length ys.length = n2 from by rw [h1.len, h2.len]; omega)
  go_enter Try.func70, Try.ntmps70
  go_wp2_with fail
  refine (unhide K1).mono ?_
  rintro e w' ⟨rfl, hw⟩
  obtain rfl := hw.symm
  go_wp2_with fail
  refine (unhide K2).mono ?_
  rintro e w' ⟨rfl, hw⟩
  obtain rfl := hw.symm
  clear K1 K2
  go_wp2_with fail
  go_loopw [26] (fun i wr => ∃ k : Nat, k ≤ n2 ∧ i = .int .i64 k ∧ Fn wr w.heap.size 0 n2 (fun i => if i < k then bwF bwNot xs ys i else 0) ∧ Below w.heap.size w wr) (fun i _ => n2 - (intOf i).toNat)
  case atStart => exact ⟨0, Nat.zero_le _, rfl, by simpa using Fn.made w n2 _, (Below.refl _ _).alloc (Nat.le_refl _) _⟩
  case round =>
    obtain ⟨k, hk, rfl, hf, hbel⟩ := hrel
    by_cases hlt : k < n2
    · have hlt' : (k:Int) < (n2:Int) := by omega
      have KX := limbAt_any a1 n1 c1 xs k wr (h1.below hbel) (by omega)
      have KY := limbAt_any a2 n2 c2 ys k wr (h2.below hbel) (by omega)
      rw [show ((k:Int)).toNat = k from Int.toNat_natCast k] at KX KY
      have KX' := hide KX
      have KY' := hide KY
      have KJ := hide (jnot_any (xs.getD k 0) (ys.getD k 0) wr (ox.getD k) (oy.getD k))
      have g1 := (hf k hlt).1
      have g2 := (hf k hlt).2
      simp only [Nat.zero_add] at g1 g2
      generalize ((if k < k then bwF bwNot xs ys k else 0 : Nat) : Int) = old at g1
      have HS := hide (bw_step (F := bwNot) hf hlt hbel)
      generalize xs.getD k 0 = x at *
      generalize ys.getD k 0 = y at *
      clear KX KY hf hbel
      go_wp2_with fail
      refine (unhide KX').mono ?_
      rintro e w' ⟨rfl, hw⟩
      obtain rfl := hw.symm
      go_wp2_with fail
      refine (unhide KY').mono ?_
      rintro e w' ⟨rfl, hw⟩
      obtain rfl := hw.symm
      go_wp2_with fail
      refine (unhide KJ).mono ?_
      rintro e w' ⟨rfl, hw⟩
      obtain rfl := hw.symm
      go_wp2
      exact ⟨⟨k + 1, by omega, by go_num, (unhide HS).1, (unhide HS).2⟩, by simp [intOf]; omega⟩
    · have hkm : k = n2 := by omega
      subst hkm
      have hf2 : Fn wr w.heap.size 0 k (bwF bwNot xs ys) := hf.congr (fun i hi => by simp [hi])
      have KT := trim_any _ k k _ wr (hf2.sl (Nat.le_refl _) (by unfold maxLen; omega)) (lst_ok (fun i _ => bwNot_lt _ _ (ox.getD i) (oy.getD i)))
      rw [lst_val, show valF (bwF bwNot xs ys) k = bwV bwNot xs ys from by unfold bwV; rw [unhide HM]] at KT
      have KT' := hide KT
      have HB := hide hbel
      clear hf hf2 KT hbel
      go_wp2_with fail
      refine (unhide KT').mono ?_
      rintro e w3 ⟨a', m, zs, rfl, hs, hr, ha, rfl⟩
      have HX := hide (And.intro hs (And.intro hr ha))
      clear hs hr ha
      go_wp2
      go_ret2
      rw [← (unhide HX).2.1.eq]
      refine ⟨a', m, m, rfl, (unhide HX).1, ?_, unhide HB⟩
      intro x hx
      rcases (unhide HX).2.2 with rfl | rfl
      · cases hx; exact Nat.le_refl _
      · cases hx

set_option maxHeartbeats 2000000 in
/-- natural.bitwise at Not. -/
theorem bitNot_any (a1 a2 : Option Addr) (n1 c1 n2 c2 : Nat) (xs ys : List Nat) (w : World) (h1 : Sl w a1 n1 c1 xs) (h2 : Sl w a2 n2 c2 ys) (ox : Ok xs) (oy : Ok ys) :
    Calls Try.prog 70 #[.slice a1 n1 c1, .slice a2 n2 c2, .func (.func 74) #[] #[]] w fun e w' => Res2 w w' (bwL bwNot xs ys) e := by
  have K1 := may_any a1 n1 c1 xs w h1
  have K2 := may_any a2 n2 c2 ys w h2
  by_cases m1 : MayL xs = true
  · by_cases m2 : MayL ys = true
    · rw [m1] at K1; rw [m2] at K2
      have K1' := hide K1
      have K2' := hide K2
      have nx := MayL.norm m1
      have ny := MayL.norm m2
      have hl1 : n1 ≤ 2048 := by have := h1.len; have := MayL.len m1; omega
      have hl2 : n2 ≤ 2048 := by have := h2.len; have := MayL.len m2; omega
      rw [show bwL bwNot xs ys = (limbs (bwV bwNot xs ys), 0) from by simp [bwL, m1, m2]]
      by_cases hlt : n1 < n2
      · exact bitNot_lt a1 a2 n1 c1 n2 c2 xs ys w h1 h2 ox oy hl1 hl2 K1' K2' (by omega)
      · exact bitNot_ge a1 a2 n1 c1 n2 c2 xs ys w h1 h2 ox oy hl1 hl2 K1' K2' (by omega)
    · have m2' : MayL ys = false := by simpa using m2
      rw [m1] at K1; rw [m2'] at K2
      have K1' := hide K1
      have K2' := hide K2
      have HC := hide (show bwL bwNot xs ys = ([], 20) from by simp [bwL, m2'])
      clear K1 K2 m1 m2 m2' h1 h2 ox oy
      go_enter Try.func70, Try.ntmps70
      go_wp2_with fail
      refine (unhide K1').mono ?_
      rintro e w' ⟨rfl, hw⟩
      obtain rfl := hw.symm
      go_wp2_with fail
      refine (unhide K2').mono ?_
      rintro e w' ⟨rfl, hw⟩
      obtain rfl := hw.symm
      go_wp2
      go_ret2
      rw [unhide HC]
      exact ⟨none, 0, 0, rfl, sl_nil _, newAt_nil _, Below.refl _ _⟩
  · have m1' : MayL xs = false := by simpa using m1
    rw [m1'] at K1
    have K1' := hide K1
    have HC := hide (show bwL bwNot xs ys = ([], 20) from by simp [bwL, m1'])
    clear K1 K2 m1 m1' h1 h2 ox oy
    go_enter Try.func70, Try.ntmps70
    go_wp2_with fail
    refine (unhide K1').mono ?_
    rintro e w' ⟨rfl, hw⟩
    obtain rfl := hw.symm
    go_wp2
    go_ret2
    rw [unhide HC]
    exact ⟨none, 0, 0, rfl, sl_nil _, newAt_nil _, Below.refl _ _⟩

set_option maxHeartbeats 400000 in
/-- natural.Not. -/
theorem nnot_any (a1 a2 : Option Addr) (n1 c1 n2 c2 : Nat) (xs ys : List Nat) (w : World) (h1 : Sl w a1 n1 c1 xs) (h2 : Sl w a2 n2 c2 ys) (ox : Ok xs) (oy : Ok ys) :
    Calls Try.prog 36 #[.slice a1 n1 c1, .slice a2 n2 c2] w fun e w' => Res2 w w' (bwL bwNot xs ys) e := by
  have K := hide (bitNot_any a1 a2 n1 c1 n2 c2 xs ys w h1 h2 ox oy)
  clear h1 h2 ox oy
  go_enter Try.func36, Try.ntmps36
  go_wp2_with fail
  refine (unhide K).mono ?_
  rintro e w1 ⟨a, m, c, rfl, hs, hn, hb⟩
  have HX := hide (And.intro hs (And.intro hn hb))
  clear hs hn hb K
  go_wp2
  go_ret2
  exact ⟨a, m, c, rfl, (unhide HX).1, (unhide HX).2.1, (unhide HX).2.2⟩
end Go.Proofs.Ytpnhmaenmmelnaa
