/- Len -/
import Derived.Test.YtpicknbdfjjflaaGreatDoorBase
import Derived.Lib.BitFns
import Derived.Test.YtpicknbdfjjflaaGreatDoorMul
namespace Go.Proofs.YtpicknbdfjjflaaGreatDoor
open Go.RowKit Go.Deep
set_option linter.unusedVariables false
theorem tab_size : Lib.len8tab.size = 256 := by decide +kernel
theorem tab_all : ∀ n : Fin 256, (Lib.len8tab[n.val]'(by rw [tab_size]; exact n.isLt)).toNat = Lib.bitLen n.val := by decide +kernel
theorem tab_at (n : Nat) (h : n < Lib.len8tab.size) : (Lib.len8tab[n]'h).toNat = Lib.bitLen n := tab_all ⟨n, by rw [tab_size] at h; exact h⟩
theorem bl8 (n : Nat) (h : n < 256) : Lib.bitLen n ≤ 8 := Lib.bitLen_le8 ⟨n, h⟩
theorem wr_small (n : Int) (h0 : 0 ≤ n) (h1 : n ≤ 100) : wrap64 n = n := by unfold wrap64; omega

set_option maxHeartbeats 4000000 in
set_option maxRecDepth 100000 in
theorem len32_a (x : Int) (w : World) (h0 : 0 ≤ x) (h1 : x < 256) :
    Calls Tryz.prog 140 #[.int .u32 x] w fun e w' => e = .returned (.int .i64 (Lib.bitLen x.toNat)) ∧ w' = w := by
  have hs := tab_size
  have ha : ¬ (65536:Int) ≤ x := by omega
  have hb : ¬ (256:Int) ≤ x := by omega
  go_enter Tryz.func140, Tryz.ntmps140
  go_wp2
  go_ret
  refine ⟨congrArg Ending.returned (congrArg (Value.int IntKind.i64) ?_), rfl⟩
  rw [tab_at]
  have l := bl8 x.toNat (by omega)
  rw [wr_small ((Lib.bitLen x.toNat : Nat) : Int) (by omega) (by omega)]
  rw [wr_small ((Lib.bitLen x.toNat : Nat) : Int) (by omega) (by omega)]

set_option maxHeartbeats 4000000 in
set_option maxRecDepth 100000 in
theorem len32_b (x : Int) (w : World) (h0 : 256 ≤ x) (h1 : x < 65536) :
    Calls Tryz.prog 140 #[.int .u32 x] w fun e w' => e = .returned (.int .i64 (Lib.bitLen x.toNat)) ∧ w' = w := by
  have hs := tab_size
  have ha : ¬ (65536:Int) ≤ x := by omega
  have hb : (256:Int) ≤ x := by omega
  go_enter Tryz.func140, Tryz.ntmps140
  go_wp2
  go_ret
  refine ⟨congrArg Ending.returned (congrArg (Value.int IntKind.i64) ?_), rfl⟩
  have e : (x / 256).toNat = x.toNat / 256 := by omega
  have l := bl8 (x.toNat / 256) (by omega)
  have s := Lib.bitLen_shift8 x.toNat (by omega) (by omega)
  rw [tab_at, e]
  rw [wr_small ((Lib.bitLen (x.toNat / 256) : Nat) : Int) (by omega) (by omega)]
  rw [wr_small _ (by omega) (by omega)]
  omega

set_option maxHeartbeats 4000000 in
set_option maxRecDepth 100000 in
theorem len32_c (x : Int) (w : World) (h0 : 65536 ≤ x) (h1 : x < 16777216) :
    Calls Tryz.prog 140 #[.int .u32 x] w fun e w' => e = .returned (.int .i64 (Lib.bitLen x.toNat)) ∧ w' = w := by
  have hs := tab_size
  have ha : (65536:Int) ≤ x := by omega
  have hb : ¬ (256:Int) ≤ x / 65536 := by omega
  go_enter Tryz.func140, Tryz.ntmps140
  go_wp2
  go_ret
  refine ⟨congrArg Ending.returned (congrArg (Value.int IntKind.i64) ?_), rfl⟩
  have e : (x / 65536).toNat = x.toNat / 65536 := by omega
  have l := bl8 (x.toNat / 65536) (by omega)
  have s := Lib.bitLen_shift16 x.toNat (by omega) (by omega)
  rw [tab_at, e]
  rw [wr_small ((Lib.bitLen (x.toNat / 65536) : Nat) : Int) (by omega) (by omega)]
  rw [wr_small _ (by omega) (by omega)]
  omega

set_option maxHeartbeats 4000000 in
set_option maxRecDepth 100000 in
theorem len32_d (x : Int) (w : World) (h0 : 16777216 ≤ x) (h1 : x ≤ 4294967295) :
    Calls Tryz.prog 140 #[.int .u32 x] w fun e w' => e = .returned (.int .i64 (Lib.bitLen x.toNat)) ∧ w' = w := by
  have hs := tab_size
  have ha : (65536:Int) ≤ x := by omega
  have hb : (256:Int) ≤ x / 65536 := by omega
  go_enter Tryz.func140, Tryz.ntmps140
  go_wp2
  go_ret
  refine ⟨congrArg Ending.returned (congrArg (Value.int IntKind.i64) ?_), rfl⟩
  have e : (x / 65536 / 256).toNat = x.toNat / 16777216 := by omega
  have l := bl8 (x.toNat / 16777216) (by omega)
  have s := Lib.bitLen_shift24 x.toNat (by omega) (by omega)
  rw [tab_at, e]
  rw [wr_small ((Lib.bitLen (x.toNat / 16777216) : Nat) : Int) (by omega) (by omega)]
  rw [wr_small _ (by omega) (by omega)]
  omega

theorem len32_any (x : Nat) (w : World) (h1 : x < 4294967296) :
    Calls Tryz.prog 140 #[.int .u32 (x : Nat)] w fun e w' => e = .returned (.int .i64 (Lib.bitLen x : Nat)) ∧ w' = w := by
  by_cases ha : x < 256
  · exact len32_a x w (by omega) (by omega)
  · by_cases hb : x < 65536
    · exact len32_b x w (by omega) (by omega)
    · by_cases hc : x < 16777216
      · exact len32_c x w (by omega) (by omega)
      · exact len32_d x w (by omega) (by omega)
structure MulPre (w : World) (bz oz nz cz : Nat) (a1 : Option Addr) (n1 c1 : Nat) (xs : List Nat) (a2 : Option Addr) (n2 c2 : Nat) (ys : List Nat) : Prop where
  h1 : Sl w a1 n1 c1 xs
  h2 : Sl w a2 n2 c2 ys
  s1 : ∀ x, a1 = some x → xs ≠ [] → x.block ≠ bz ∨ x.off + xs.length ≤ oz ∨ oz + nz ≤ x.off
  s2 : ∀ x, a2 = some x → ys ≠ [] → x.block ≠ bz ∨ x.off + ys.length ≤ oz ∨ oz + nz ≤ x.off
  ox : Ok xs
  oy : Ok ys
  hz : Fn w bz oz nz (fun _ => 0)
  hnz : n1 + n2 = nz
  hcz : nz ≤ cz
  hm : cz ≤ maxLen

theorem MulPre.swap {w : World} {bz oz nz cz : Nat} {a1 : Option Addr} {n1 c1 : Nat} {xs : List Nat} {a2 : Option Addr} {n2 c2 : Nat} {ys : List Nat} (h : MulPre w bz oz nz cz a1 n1 c1 xs a2 n2 c2 ys) : MulPre w bz oz nz cz a2 n2 c2 ys a1 n1 c1 xs :=
  ⟨h.h2, h.h1, h.s2, h.s1, h.oy, h.ox, h.hz, by have := h.hnz; omega, h.hcz, h.hm⟩

def MulPost (w : World) (bz oz nz : Nat) (v : Nat) (e : Ending) (w' : World) : Prop :=
  e = .returned (.tuple #[]) ∧ ∃ f', Fn w' bz oz nz f' ∧ (∀ i, i < nz → f' i < 4294967296) ∧ valF f' nz = v ∧ Upd bz oz (oz + nz) w w'

set_option maxHeartbeats 800000 in
theorem rows_nil (bz oz nz cz n1 c1 c2 : Nat) (a1 a2 : Option Addr) (w : World) :
    Calls Tryz.prog 150 #[.slice (some ⟨bz, oz, none⟩) nz cz, .slice a1 n1 c1, .slice a2 0 c2] w fun e w' => e = .returned (.tuple #[]) ∧ w' = w := by
  go_enter Tryz.func150, Tryz.ntmps150
  go_wp2
  go_loop [13] (fun i => i = .int .i64 0) (fun i => (intOf i).toNat)
  case atStart => rfl
  case round =>
    subst hrel
    go_wp2
    go_end0
    exact ⟨rfl, rfl⟩

theorem rows_any {w : World} {bz oz nz cz : Nat} {a1 : Option Addr} {n1 c1 : Nat} {xs : List Nat} {a2 : Option Addr} {n2 c2 : Nat} {ys : List Nat} (h : MulPre w bz oz nz cz a1 n1 c1 xs a2 n2 c2 ys) (hle : n2 ≤ n1) :
    Calls Tryz.prog 150 #[.slice (some ⟨bz, oz, none⟩) nz cz, .slice a1 n1 c1, .slice a2 n2 c2] w fun e w' => MulPost w bz oz nz (val xs * val ys) e w' := by
  have l1 := h.h1.len
  have l2 := h.h2.len
  by_cases h0 : ys = []
  · have hh := h.hz
    subst h0
    simp at l2
    subst l2
    refine (rows_nil bz oz nz cz n1 c1 c2 a1 a2 w).mono ?_
    rintro e w' ⟨rfl, rfl⟩
    exact ⟨rfl, _, hh, fun _ _ => by decide, by simp [val, valF_zero], Upd.refl _ _ _ _⟩
  · have hx0 : xs ≠ [] := by
      intro e
      subst e
      simp at l1
      have : ys = [] := List.eq_nil_of_length_eq_zero (by omega)
      exact h0 this
    rcases h.h1.cells with e | ⟨b1, o1, rfl, k1⟩
    · exact absurd e hx0
    · rcases h.h2.cells with e | ⟨b2, o2, rfl, k2⟩
      · exact absurd e h0
      · exact rows_some bz oz nz cz b1 o1 n1 c1 b2 o2 n2 c2 xs ys w (h.s1 _ rfl hx0) (h.s2 _ rfl h0) l1 l2 h.hnz h.hcz h.hm h.ox h.oy h.hz k1 k2

set_option maxHeartbeats 800000 in
theorem into_st {w : World} {bz oz nz cz : Nat} {a1 : Option Addr} {n1 c1 : Nat} {xs : List Nat} {a2 : Option Addr} {n2 c2 : Nat} {ys : List Nat} (h : MulPre w bz oz nz cz a1 n1 c1 xs a2 n2 c2 ys) (hge : n2 ≤ n1) (hs : n2 < 48) :
    Calls Tryz.prog 146 #[.slice (some ⟨bz, oz, none⟩) nz cz, .slice a1 n1 c1, .slice a2 n2 c2] w fun e w' => MulPost w bz oz nz (val xs * val ys) e w' := by
  have K := hide (rows_any h hge)
  have ht : ¬ (n1:Int) < (n2:Int) := by omega
  have ht2 : (n2:Int) < 48 := by omega
  skip
  clear h
  go_enter Tryz.func146, Tryz.ntmps146
  go_wp2_with fail
  refine (unhide K).mono ?_
  rintro e w' ⟨rfl, hp⟩
  have HP := hide hp
  clear hp K
  go_wp2
  go_end0
  exact ⟨rfl, unhide HP⟩

set_option maxHeartbeats 800000 in
theorem into_sw {w : World} {bz oz nz cz : Nat} {a1 : Option Addr} {n1 c1 : Nat} {xs : List Nat} {a2 : Option Addr} {n2 c2 : Nat} {ys : List Nat} (h : MulPre w bz oz nz cz a1 n1 c1 xs a2 n2 c2 ys) (hlt : n1 < n2) (hs : n1 < 48) :
    Calls Tryz.prog 146 #[.slice (some ⟨bz, oz, none⟩) nz cz, .slice a1 n1 c1, .slice a2 n2 c2] w fun e w' => MulPost w bz oz nz (val xs * val ys) e w' := by
  have K := hide (rows_any h.swap (by omega))
  have ht : (n1:Int) < (n2:Int) := by omega
  have ht2 : (n1:Int) < 48 := by omega
  rw [Nat.mul_comm (val xs)]
  clear h
  go_enter Tryz.func146, Tryz.ntmps146
  go_wp2_with fail
  refine (unhide K).mono ?_
  rintro e w' ⟨rfl, hp⟩
  have HP := hide hp
  clear hp K
  go_wp2
  go_end0
  exact ⟨rfl, unhide HP⟩

theorem into_small {w : World} {bz oz nz cz : Nat} {a1 : Option Addr} {n1 c1 : Nat} {xs : List Nat} {a2 : Option Addr} {n2 c2 : Nat} {ys : List Nat} (h : MulPre w bz oz nz cz a1 n1 c1 xs a2 n2 c2 ys) (hs : n1 < 48 ∨ n2 < 48) :
    Calls Tryz.prog 146 #[.slice (some ⟨bz, oz, none⟩) nz cz, .slice a1 n1 c1, .slice a2 n2 c2] w fun e w' => MulPost w bz oz nz (val xs * val ys) e w' := by
  by_cases hlt : n1 < n2
  · exact into_sw h hlt (by omega)
  · exact into_st h (by omega) (by omega)

theorem make_sum (n1 n2 : Nat) (hn : n1 + n2 ≤ 70368744177000) (w : World) : (Instr.makeSlice 50 (.int .i64 ((n1 : Int) + (n2 : Int))) (.int .i64 ((n1 : Int) + (n2 : Int)))).run Tryz.prog w = .ok (.slice (some ⟨w.heap.size, 0, none⟩) (n1 + n2) (n1 + n2)) (w.alloc (.cells (madeCells #[.int .u32 0] (n1 + n2)) 87)) := by
  have := make_len (n1 + n2) (by omega) w
  rw [show ((n1 + n2 : Nat) : Int) = (n1 : Int) + (n2 : Int) from by omega] at this
  exact this

set_option maxHeartbeats 800000 in
theorem multiply_of (a1 a2 : Option Addr) (n1 c1 n2 c2 : Nat) (xs ys : List Nat) (w : World) (h1 : Sl w a1 n1 c1 xs) (h2 : Sl w a2 n2 c2 ys) (ox : Ok xs) (oy : Ok ys) (hb : n1 + n2 ≤ 70368744177000)
    (KI : ∀ w bz oz nz cz, MulPre w bz oz nz cz a1 n1 c1 xs a2 n2 c2 ys → Calls Tryz.prog 146 #[.slice (some ⟨bz, oz, none⟩) nz cz, .slice a1 n1 c1, .slice a2 n2 c2] w fun e w' => MulPost w bz oz nz (val xs * val ys) e w') :
    Calls Tryz.prog 138 #[.slice a1 n1 c1, .slice a2 n2 c2] w fun e w' => NewRep w w' (val xs * val ys) e := by
  have hmk := make_sum n1 n2 hb
  have bel0 := (Below.refl w.heap.size w).alloc (Nat.le_refl _) (.cells (madeCells #[.int .u32 0] (n1 + n2)) 87)
  have KM := hide (KI _ w.heap.size 0 (n1 + n2) (n1 + n2) ⟨h1.below bel0, h2.below bel0, fun x hx hne => .inl (by have := h1.block_lt hne x hx; omega), fun x hx hne => .inl (by have := h2.block_lt hne x hx; omega), ox, oy, Fn.made w (n1 + n2) 87, rfl, Nat.le_refl _, by unfold maxLen; omega⟩)
  have HB0 := hide bel0
  clear KI bel0 h1 h2 ox oy
  go_enter Tryz.func138, Tryz.ntmps138
  go_wp2_with fail
  refine (unhide KM).mono ?_
  rintro e w1 ⟨rfl, f', hF, hf, hv, hupd⟩
  have KT := trim_any _ (n1 + n2) (n1 + n2) _ w1 (hF.sl (Nat.le_refl _) (by unfold maxLen; omega)) (lst_ok hf)
  rw [lst_val, hv] at KT
  have KT' := hide KT
  have HB2 := hide ((unhide HB0).trans (hupd.below (Nat.le_refl _) (unhide HB0).size))
  clear KT hF hf hv hupd KM
  go_wp2_with fail
  refine (unhide KT').mono ?_
  rintro e w2 ⟨a', m, zs, rfl, hs, hr, ha, rfl⟩
  go_wp2
  go_ret
  refine ⟨a', m, zs, rfl, hs, hr, ?_, unhide HB2⟩
  intro x hx
  rcases ha with rfl | rfl
  · cases hx; exact Nat.le_refl _
  · cases hx

def bitsL (xs : List Nat) : Nat := (xs.length - 1) * 32 + Lib.bitLen (xs.getD (xs.length - 1) 0)
theorem bl_pos : ∀ (x : Nat), x ≠ 0 → x < 18446744073709551616 → 1 ≤ Lib.bitLen x := by
  intro x h0 hx
  rw [Lib.bitLen_half x h0 hx]
  omega

theorem bl_ge : ∀ (n x : Nat), x ≤ n → x ≠ 0 → x < 18446744073709551616 → 2 ^ (Lib.bitLen x - 1) ≤ x
  | 0, x, h, h0, _ => by omega
  | n + 1, x, h, h0, hx => by
    by_cases h1 : x / 2 = 0
    · have e : x = 1 := by omega
      subst e
      decide +kernel
    · have ih := bl_ge n (x / 2) (by omega) h1 (by omega)
      have hp := bl_pos (x / 2) h1 (by omega)
      rw [Lib.bitLen_half x h0 hx]
      have e : 1 + Lib.bitLen (x / 2) - 1 = (Lib.bitLen (x / 2) - 1) + 1 := by omega
      rw [e, Nat.pow_succ]
      omega

theorem pow_limb (k : Nat) : (4294967296 : Nat) ^ k = 2 ^ (32 * k) := by
  rw [Nat.pow_mul]
def MI (N : Nat) : Prop := ∀ (w : World) (bz oz nz cz : Nat) (a1 : Option Addr) (n1 c1 : Nat) (xs : List Nat) (a2 : Option Addr) (n2 c2 : Nat) (ys : List Nat), n1 + n2 ≤ N → MulPre w bz oz nz cz a1 n1 c1 xs a2 n2 c2 ys →
  Calls Tryz.prog 146 #[.slice (some ⟨bz, oz, none⟩) nz cz, .slice a1 n1 c1, .slice a2 n2 c2] w fun e w' => MulPost w bz oz nz (val xs * val ys) e w'

theorem Fn.below {w w' : World} {b off n : Nat} {f : Nat → Nat} (h : Fn w b off n f) (k : Below w.heap.size w w') : Fn w' b off n f := by
  intro i hi
  have := h i hi
  have hlt := World.block_lt_of_cell? _ _ this.1
  exact ⟨(k.cell hlt).trans this.1, (k.frozen hlt).trans this.2⟩

theorem Fn.part {w : World} {b off n : Nat} {f : Nat → Nat} (h : Fn w b off n f) (k m : Nat) (hm : k + m ≤ n) : Fn w b (off + k) m (fun i => f (k + i)) := by
  intro i hi
  have := h (k + i) (by omega)
  rw [← Nat.add_assoc] at this
  exact this

theorem Fn.join {w : World} {b off k m : Nat} {f g : Nat → Nat} (h1 : Fn w b off k f) (h2 : Fn w b (off + k) m g) : Fn w b off (k + m) (fun i => if i < k then f i else g (i - k)) := by
  intro i hi
  by_cases e : i < k
  · simp only [e, if_true]; exact h1 i e
  · simp only [e, if_false]
    have := h2 (i - k) (by omega)
    rw [show off + k + (i - k) = off + i from by omega] at this
    exact this

theorem valF_join (f g : Nat → Nat) (k m : Nat) : valF (fun i => if i < k then f i else g (i - k)) (k + m) = valF f k + 4294967296 ^ k * valF g m := by
  rw [valF_add, valF_congr (g := f) (fun i hi => by simp [hi]), valF_congr (f := fun j => if k + j < k then f (k + j) else g (k + j - k)) (g := g) (fun i hi => by rw [if_neg (by omega), Nat.add_sub_cancel_left])]

theorem rep_len_le {v j : Nat} {zs : List Nat} (h : Rep v zs) (hv : v < 4294967296 ^ j) : zs.length ≤ j := by
  rcases Nat.lt_or_ge j zs.length with hlt | hge
  · exfalso
    have h1 := val_ge_of_norm h.norm (by intro e; subst e; simp at hlt)
    rw [h.val] at h1
    have h2 : 4294967296 ^ j ≤ 4294967296 ^ (zs.length - 1) := pow_mono (by omega)
    omega
  · exact hge

theorem carry_zero {x y P c : Nat} (h : x + P * c = y) (hy : y < P) : c = 0 ∧ x = y := by
  rcases Nat.eq_zero_or_pos c with h0 | h0
  · subst h0; simp at h; exact ⟨rfl, h⟩
  · exfalso
    have : P * 1 ≤ P * c := Nat.mul_le_mul_left _ h0
    omega

structure PieceR (wr w : World) (bz oz nz : Nat) (xs ys : List Nat) (k : Nat) (f : Nat → Nat) : Prop where
  fn : Fn wr bz oz nz f
  ok : ∀ i, i < nz → f i < 4294967296
  vl : valF f nz = val (xs.take k) * val ys
  upd : Upd bz oz (oz + nz) w wr

theorem take_lt {xs : List Nat} (ox : Ok xs) (t : Nat) (h : t ≤ xs.length) : val (xs.take t) < 4294967296 ^ t := by
  have := val_lt (ox.take t)
  rwa [List.length_take, Nat.min_eq_left h] at this

theorem take_split (xs : List Nat) (k p : Nat) (h : k + p ≤ xs.length) : val (xs.take (k + p)) = val (xs.take k) + 4294967296 ^ k * val ((xs.drop k).take p) := by
  rw [List.take_add, val_append, List.length_take, Nat.min_eq_left (by omega)]

theorem PieceR.step {wr w w5 w6 : World} {bz oz nz n1 n2 : Nat} {xs ys : List Nat} {k p k' c : Nat} {f f' : Nat → Nat} (h : PieceR wr w bz oz nz xs ys k f) (hl1 : xs.length = n1) (hl2 : ys.length = n2) (hnz : n1 + n2 = nz) (ox : Ok xs) (oy : Ok ys) (hp : k + p ≤ n1)
    (hk' : xs.take k' = xs.take (k + p)) (bz5 : bz < wr.heap.size) (b5 : Below wr.heap.size wr w5) (hF : Fn w6 bz (oz + k) (nz - k) f') (hok : ∀ i, i < nz - k → f' i < 4294967296)
    (hval : valF f' (nz - k) + 4294967296 ^ (nz - k) * c = valF (fun i => f (k + i)) (nz - k) + val ((xs.drop k).take p) * val ys) (hupd : Upd bz (oz + k) (oz + k + (nz - k)) w5 w6) :
    ∃ g, PieceR w6 w bz oz nz xs ys k' g := by
  have hkn : k + (nz - k) = nz := by omega
  have u1 : Upd bz oz (oz + nz) wr w5 := .of_below bz5 b5
  have u2 : Upd bz oz (oz + nz) w5 w6 := hupd.mono (by omega) (by omega)
  have fl : Fn w6 bz oz k f := by
    have := ((h.fn.below b5).part 0 k (by omega))
    simp only [Nat.zero_add, Nat.add_zero] at this
    exact hupd.fn this (.inr (.inl (by omega)))
  have hj := Fn.join fl hF
  rw [hkn] at hj
  refine ⟨_, hj, ?_, ?_, (h.upd.trans u1).trans u2⟩
  · intro i hi
    by_cases e : i < k
    · simp only [e, if_true]; exact h.ok i hi
    · simp only [e, if_false]; exact hok _ (by omega)
  · have e1 := valF_join f f' k (nz - k)
    rw [hkn] at e1
    rw [e1, hk', take_split xs k p (by omega)]
    have e2 := valF_add f k (nz - k)
    rw [hkn, h.vl] at e2
    have e3 : valF f k + 4294967296 ^ k * valF f' (nz - k) + 4294967296 ^ nz * c = (val (xs.take k) + 4294967296 ^ k * val ((xs.drop k).take p)) * val ys := by
      have e4 : 4294967296 ^ nz * c = 4294967296 ^ k * (4294967296 ^ (nz - k) * c) := by rw [← Nat.mul_assoc, ← Nat.pow_add, hkn]
      rw [e4, Nat.add_assoc, ← Nat.mul_add, hval, Nat.mul_add, ← Nat.add_assoc, ← e2, Nat.add_mul, Nat.mul_assoc]
    have hlt : (val (xs.take k) + 4294967296 ^ k * val ((xs.drop k).take p)) * val ys < 4294967296 ^ nz := by
      rw [← take_split xs k p (by omega)]
      have a1 := take_lt ox (k + p) (by omega)
      have a2 := val_lt oy
      have a3 : 4294967296 ^ (k + p) ≤ 4294967296 ^ n1 := pow_mono hp
      rw [← hnz, Nat.pow_add, ← hl2]
      exact Nat.mul_lt_mul_of_lt_of_le (by omega) (by omega) (pow_pos _)
    exact (carry_zero e3 hlt).2
theorem Sl.part {w : World} {b off n c : Nat} {xs : List Nat} (h : Sl w (some ⟨b, off, none⟩) n c xs) (k p c' : Nat) (hp : k + p ≤ n) (hc : p ≤ c') (hm : c' ≤ maxLen) : Sl w (some ⟨b, off + k, none⟩) p c' ((xs.drop k).take p) := by
  have hl := h.len
  refine ⟨by simp; omega, hc, hm, ?_⟩
  rcases h.cells with e | ⟨b', o', e, hh⟩
  · left; subst e; simp
  · right
    injection e with e
    injection e with e1 e2
    subst e1 e2
    refine ⟨_, _, rfl, ?_⟩
    intro i hi
    have hi' : i < p := by simp at hi; omega
    have := hh (k + i) (by omega)
    rw [← Nat.add_assoc] at this
    rw [this]
    simp [List.getD, hi']

theorem piece_mul {N n1 n2 p k c2 b1 o1 : Nat} {a2 : Option Addr} {xs ys : List Nat} (IH : MI N) (hN : p + n2 ≤ N) (hb : p + n2 ≤ 70368744177000) (ox : Ok xs) (oy : Ok ys) (hp : k + p ≤ n1) (w : World) {c1 : Nat} (h1 : Sl w (some ⟨b1, o1, none⟩) n1 c1 xs) (h2 : Sl w a2 n2 c2 ys) :
    Calls Tryz.prog 138 #[.slice (some ⟨b1, o1 + k, none⟩) p p, .slice a2 n2 c2] w fun e w' => NewRep w w' (val ((xs.drop k).take p) * val ys) e :=
  multiply_of _ a2 p p n2 c2 _ ys w (h1.part k p p hp (Nat.le_refl _) (by unfold maxLen; omega)) h2 ((ox.drop k).take p) oy hb (fun w bz oz nz cz h => IH w bz oz nz cz _ p p _ a2 n2 c2 ys hN h)

theorem Sl.upd {w w' : World} {b off n c bz lo hi : Nat} {xs : List Nat} (h : Sl w (some ⟨b, off, none⟩) n c xs) (u : Upd bz lo hi w w') (hd : b ≠ bz ∨ off + xs.length ≤ lo ∨ hi ≤ off) : Sl w' (some ⟨b, off, none⟩) n c xs := by
  refine ⟨h.len, h.le, h.cap, ?_⟩
  rcases h.cells with e | ⟨b', o', e, hh⟩
  · exact .inl e
  · right
    injection e with e
    injection e with e1 e2
    subst e1 e2
    exact ⟨_, _, rfl, u.cells hh hd⟩

theorem piece_add {wr w w5 : World} {bz oz nz cz n1 n2 m : Nat} {a' : Option Addr} {xs ys zs : List Nat} {k p k' : Nat} {f : Nat → Nat} (h : PieceR wr w bz oz nz xs ys k f) (hl1 : xs.length = n1) (hl2 : ys.length = n2) (hnz : n1 + n2 = nz) (hbig : nz ≤ 1000000000) (ox : Ok xs) (oy : Ok ys) (hp : k + p ≤ n1) (hn2 : 0 < n2)
    (hk' : xs.take k' = xs.take (k + p)) (b5 : Below wr.heap.size wr.drew w5) (hs : Sl w5 a' m m zs) (hr : Rep (val ((xs.drop k).take p) * val ys) zs) (ha : NewAt wr.heap.size a') :
    Calls Tryz.prog 149 #[.slice (some ⟨bz, oz + k, none⟩) (nz - k) (cz - k), .slice a' m m] w5 fun e w6 => ∃ c : Nat, e = .returned (.int .u32 (c : Nat)) ∧ ∃ g, PieceR w6 w bz oz nz xs ys k' g := by
  have b5' : Below wr.heap.size wr w5 := (Below.drew (Below.refl _ _)).trans b5
  have hbz : bz < wr.heap.size := World.block_lt_of_cell? _ _ (h.fn 0 (by omega)).1
  have hlen : m ≤ nz - k := by
    rw [← hs.len]
    refine Nat.le_trans (rep_len_le (j := p + n2) hr ?_) (by omega)
    have a1 := take_lt (ox.drop k) p (by simp; omega)
    have a2 := val_lt oy
    rw [Nat.pow_add, ← hl2]
    exact Nat.mul_lt_mul_of_lt_of_le a1 (by omega) (pow_pos _)
  refine (addTo_any bz (oz + k) (nz - k) (cz - k) m m a' (fun i => f (k + i)) zs w5 hs (fun x hx _ => by have := ha x hx; omega) hlen (by unfold maxLen; omega) hr.ok (fun i hi => h.ok _ (by omega)) ((h.fn.below b5').part k (nz - k) (by omega))).mono ?_
  rintro e w6 ⟨f', c, rfl, hc, hF, hok, hval, hupd⟩
  rw [hr.val] at hval
  exact ⟨c, rfl, h.step hl1 hl2 hnz ox oy hp hk' hbz b5' hF hok hval hupd⟩

set_option maxHeartbeats 4000000 in
theorem pieces_some (bz oz nz cz b1 o1 n1 c1 b2 o2 n2 c2 : Nat) (xs ys : List Nat) (w : World) (h : MulPre w bz oz nz cz (some ⟨b1, o1, none⟩) n1 c1 xs (some ⟨b2, o2, none⟩) n2 c2 ys) (h48 : 48 ≤ n2) (hhalf : 2 * n2 ≤ n1 + 1) (hbig : nz ≤ 1000000000) (N : Nat) (hN : n1 + n2 ≤ N + 1) (IH : MI N) :
    Calls Tryz.prog 151 #[.slice (some ⟨bz, oz, none⟩) nz cz, .slice (some ⟨b1, o1, none⟩) n1 c1, .slice (some ⟨b2, o2, none⟩) n2 c2] w fun e w' => MulPost w bz oz nz (val xs * val ys) e w' := by
  have HP := hide h
  have HI := hide IH
  have HX := hide (show xs ≠ [] from by intro e; have := h.h1.len; rw [e] at this; simp at this; omega)
  have HY := hide (show ys ≠ [] from by intro e; have := h.h2.len; rw [e] at this; simp at this; omega)
  have hcz := h.hcz
  have hc1 := h.h1.le
  have hnz1 : n1 + n2 ≤ nz := by have := h.hnz; omega
  have hnz2 : nz ≤ n1 + n2 := by have := h.hnz; omega
  have hR0 : PieceR w w bz oz nz xs ys 0 (fun _ => 0) := ⟨h.hz, fun _ _ => by decide, by simp [val, valF_zero], Upd.refl _ _ _ _⟩
  clear h IH
  go_enter Tryz.func151, Tryz.ntmps151
  go_wp2
  go_loopw [6] (fun i wr => ∃ k : Nat, ∃ f : Nat → Nat, k ≤ n1 + n2 ∧ i = .int .i64 k ∧ PieceR wr w bz oz nz xs ys k f) (fun i _ => n1 + n2 - (intOf i).toNat)
  case atStart => exact ⟨0, _, Nat.zero_le _, rfl, hR0⟩
  case round =>
    clear hR0
    obtain ⟨k, f, hk, rfl, hR⟩ := hrel
    by_cases hlt : k < n1
    · have hlt' : (k:Int) < (n1:Int) := by omega
      have hz1 : (k:Int) ≤ (nz:Int) := by omega
      by_cases hto : k + n2 ≤ n1
      · have hto' : (k:Int) + (n2:Int) ≤ (n1:Int) := by omega
        have hto2 : (k:Int) + (n2:Int) ≤ (c1:Int) := by omega
        have hpl : k + n2 - k = n2 := by omega
        have KM := hide (fun (w' : World) (hb : Below wr.heap.size wr w') => piece_mul (p := n2) (k := k) (unhide HI) (by omega) (by omega) (unhide HP).ox (unhide HP).oy (show k + (n2) ≤ n1 by omega) w' (((unhide HP).h1.upd hR.upd ((unhide HP).s1 _ rfl (unhide HX))).below hb) (((unhide HP).h2.upd hR.upd ((unhide HP).s2 _ rfl (unhide HY))).below hb))
        have KA := hide (fun w5 a' m zs => piece_add (cz := cz) (w5 := w5) (a' := a') (m := m) (zs := zs) (p := n2) (k' := k + n2) hR (unhide HP).h1.len (unhide HP).h2.len (unhide HP).hnz hbig (unhide HP).ox (unhide HP).oy (show k + (n2) ≤ n1 by omega) (by omega) rfl)
        clear hR
        go_wp2_with fail
        go_region_with (first | (go_at_call 138; refine (unhide KM _ ?_).mono ?_; exact (Below.refl _ _).drew; rintro e w5 ⟨a', m, zs, rfl, hs, hr, ha, hb5⟩; have KB := hide (unhide KA w5 a' m zs hb5 hs hr ha); clear hs hr ha hb5) | (go_at_call 149; refine (unhide KB).mono ?_; rintro e w6 ⟨cc, rfl, g, hR2⟩; have HR2 := hide hR2; clear hR2))
        all_goals
          go_wp2
          exact ⟨⟨k + n2, _, by omega, by go_num, unhide HR2⟩, by simp [intOf]; omega⟩
      · have hto' : ¬ (k:Int) + (n2:Int) ≤ (n1:Int) := by omega
        have hto2 : (n1:Int) ≤ (c1:Int) := by omega
        have hto3 : (n1:Int) ≤ (k:Int) + (n2:Int) := by omega
        have KM := hide (fun (w' : World) (hb : Below wr.heap.size wr w') => piece_mul (p := n1 - k) (k := k) (unhide HI) (by omega) (by omega) (unhide HP).ox (unhide HP).oy (show k + (n1 - k) ≤ n1 by omega) w' (((unhide HP).h1.upd hR.upd ((unhide HP).s1 _ rfl (unhide HX))).below hb) (((unhide HP).h2.upd hR.upd ((unhide HP).s2 _ rfl (unhide HY))).below hb))
        have KA := hide (fun w5 a' m zs => piece_add (cz := cz) (w5 := w5) (a' := a') (m := m) (zs := zs) (p := n1 - k) (k' := k + n2) hR (unhide HP).h1.len (unhide HP).h2.len (unhide HP).hnz hbig (unhide HP).ox (unhide HP).oy (show k + (n1 - k) ≤ n1 by omega) (by omega) (by rw [List.take_of_length_le (by rw [(unhide HP).h1.len]; omega), List.take_of_length_le (by rw [(unhide HP).h1.len]; omega)]))
        clear hR
        go_wp2_with fail
        go_region_with (first | (go_at_call 138; refine (unhide KM _ ?_).mono ?_; exact (Below.refl _ _).drew; rintro e w5 ⟨a', m, zs, rfl, hs, hr, ha, hb5⟩; have KB := hide (unhide KA w5 a' m zs hb5 hs hr ha); clear hs hr ha hb5) | (go_at_call 149; refine (unhide KB).mono ?_; rintro e w6 ⟨cc, rfl, g, hR2⟩; have HR2 := hide hR2; clear hR2))
        all_goals
          go_wp2
          exact ⟨⟨k + n2, _, by omega, by go_num, unhide HR2⟩, by simp [intOf]; omega⟩
    · have hlt' : ¬ (k:Int) < (n1:Int) := by omega
      have hv : valF f nz = val xs * val ys := by
        have := hR.vl
        rw [List.take_of_length_le (by rw [(unhide HP).h1.len]; omega)] at this
        exact this
      have HR := hide (And.intro hR hv)
      clear hR hv
      go_wp2
      go_end0
      exact ⟨rfl, f, (unhide HR).1.fn, (unhide HR).1.ok, (unhide HR).2, (unhide HR).1.upd⟩
end Go.Proofs.YtpicknbdfjjflaaGreatDoor
