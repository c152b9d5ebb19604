/- Shr -/
import Derived.Test.YtbbicappjicblaaGreatDoorShl
import Derived.Test.YtbbicappjicblaaGreatDoorNMul
namespace Go.Proofs.YtbbicappjicblaaGreatDoor
open Go.RowKit Go.Deep
set_option linter.unusedVariables false
theorem val_drop {xs : List Nat} (ox : Ok xs) (i : Nat) : val (xs.drop i) = val xs / 4294967296 ^ i := by
 by_cases h : i ≤ xs.length
 ·have e := val_split xs i h
  have b := val_lt (ox.take i)
  rw [List.length_take, Nat.min_eq_left h] at b
  rw [e, Nat.add_mul_div_left _ _ (pow_pos i), Nat.div_eq_of_lt b, Nat.zero_add]
 ·rw [List.drop_eq_nil_of_le (by omega)]
  have b := val_lt ox
  have : 4294967296 ^ xs.length ≤ 4294967296 ^ i := pow_mono (by omega)
  rw [Nat.div_eq_of_lt (by omega)]
  rfl

theorem val_drop_step (xs : List Nat) (i : Nat) : val (xs.drop i) = xs.getD i 0 + 4294967296 * val (xs.drop (i + 1)) := by
 by_cases h : i < xs.length
 ·rw [drop_cons h]; rfl
 ·rw [List.drop_eq_nil_of_le (by omega), List.drop_eq_nil_of_le (by omega), getD_ge (by omega)]; rfl

theorem valF_digits (v : Nat) : ∀ (m : Nat), valF (fun i => v / 4294967296 ^ i % 4294967296) m = v % 4294967296 ^ m
 | 0 => by simp [valF, Nat.mod_one]
 | m + 1 => by
  simp only [valF]
  rw [valF_digits v m, Nat.pow_succ, Nat.mod_mul]

def dv (lo hi : Nat) : Nat := lo + 4294967296 * hi
def srd (lo hi s : Nat) : Nat := dv lo hi / 2 ^ s % 4294967296
theorem srd_lt (lo hi s : Nat) : srd lo hi s < 4294967296 := by unfold srd; exact Nat.mod_lt _ (by decide)
theorem dv_int {lo hi : Nat} (h1 : lo < 4294967296) (h2 : hi < 4294967296) : bits .or .u64 ((hi : Int) * 4294967296) (lo : Int) = ((dv lo hi : Nat) : Int) := or_halves hi lo h2 h1
theorem dv_int2 {lo hi : Nat} (h1 : lo < 4294967296) (h2 : hi < 4294967296) : bits .or .u64 (lo : Int) ((hi : Int) * 4294967296) = ((dv lo hi : Nat) : Int) := by
 rw [← dv_int h1 h2]
 simp only [bits, BitVec.or_comm]
theorem srd_int (lo hi s : Nat) : ((dv lo hi : Nat) : Int) / 2 ^ s % 4294967296 = ((srd lo hi s : Nat) : Int) := by
 unfold srd
 rw [Int.natCast_emod, Int.natCast_ediv, Int.natCast_pow]
 rfl
theorem dv_lt {lo hi : Nat} (h1 : lo < 4294967296) (h2 : hi < 4294967296) : dv lo hi < 18446744073709551616 := by unfold dv; omega

def shF (xs : List Nat) (l s i : Nat) : Nat := srd (xs.getD (l + i) 0) (xs.getD (l + i + 1) 0) s

theorem shF_digit {xs : List Nat} (ox : Ok xs) {l s : Nat} (hs : s < 32) (i : Nat) : shF xs l s i = val xs / (4294967296 ^ l * 2 ^ s) / 4294967296 ^ i % 4294967296 := by
 have e1 := val_drop_step xs (l + i)
 have e2 := val_drop_step xs (l + i + 1)
 have e3 := val_drop ox (l + i)
 have hp := pow_split hs
 have hpos := (pow_s hs).1
 rw [Nat.div_div_eq_div_mul, show 4294967296 ^ l * 2 ^ s * 4294967296 ^ i = 4294967296 ^ (l + i) * 2 ^ s from by rw [Nat.pow_add, Nat.mul_assoc, Nat.mul_comm (2 ^ s), ← Nat.mul_assoc], ← Nat.div_div_eq_div_mul, ← e3, e1, e2]
 unfold shF srd dv
 generalize val (xs.drop (l + i + 1 + 1)) = r
 generalize xs.getD (l + i) 0 = a
 generalize xs.getD (l + i + 1) 0 = b
 have e4 : a + 4294967296 * (b + 4294967296 * r) = (a + 4294967296 * b) + 2 ^ s * (4294967296 * (2 ^ (32 - s) * r)) := by
  have : 2 ^ s * (4294967296 * (2 ^ (32 - s) * r)) = 4294967296 * (4294967296 * r) := by
   rw [Nat.mul_left_comm, ← Nat.mul_assoc (2 ^ s), hp]
  rw [this]; omega
 rw [e4, Nat.add_mul_div_left _ _ (by omega), Nat.add_mul_mod_self_left]

theorem shr_val {xs : List Nat} (ox : Ok xs) {n k l s : Nat} (hl : xs.length = n) (hln : l ≤ n) (hk : k / 32 = l) (hs : k % 32 = s) : valF (shF xs l s) (n - l) = val xs / 2 ^ k := by
 have hs32 : s < 32 := by omega
 rw [valF_congr (fun i _ => shF_digit ox hs32 i), valF_digits]
 have e := sh_total (v := 1) hk hs
 rw [Nat.one_mul, Nat.one_mul, Nat.mul_comm] at e
 rw [e]
 apply Nat.mod_eq_of_lt
 have b := val_lt ox
 rw [hl] at b
 rw [← e, ← Nat.div_div_eq_div_mul]
 have h1 : val xs / 4294967296 ^ l < 4294967296 ^ (n - l) := by
  rw [Nat.div_lt_iff_lt_mul (pow_pos l), ← Nat.pow_add, show n - l + l = n from by omega]
  exact b
 exact Nat.lt_of_le_of_lt (Nat.div_le_self _ _) h1

theorem make_sub (n l : Nat) (hle : l ≤ n) (h : n ≤ 70368744177600) (w : World) : (Instr.makeSlice 68 (.int .i64 ((n : Int) - (l : Int))) (.int .i64 ((n : Int) - (l : Int)))).run Tryz.prog w = .ok (.slice (some ⟨w.heap.size, 0, none⟩) (n - l) (n - l)) (w.alloc (.cells (madeCells #[.int .u32 0] (n - l)) 115)) := by
 have := make_len (n - l) (by omega) w
 rw [show ((n - l : Nat) : Int) = (n : Int) - (l : Int) from by omega] at this
 exact this

theorem sr_step {wr w : World} {m j l s : Nat} {xs : List Nat} (hf : Fn wr w.heap.size 0 m (fun i => if i < j then shF xs l s i else 0)) (hlt : j < m) (hb : Below w.heap.size w wr) :
  Fn (wr.setCell ⟨w.heap.size, j, none⟩ (.int .u32 (srd (xs.getD (l + j) 0) (xs.getD (l + j + 1) 0) s : Nat))) w.heap.size 0 m (fun i => if i < j + 1 then shF xs l s i else 0) ∧ Below w.heap.size w (wr.setCell ⟨w.heap.size, j, none⟩ (.int .u32 (srd (xs.getD (l + j) 0) (xs.getD (l + j + 1) 0) s : Nat))) := by
 refine ⟨?_, hb.setCell (Nat.le_refl _) _⟩
 have h := hf.set j (srd (xs.getD (l + j) 0) (xs.getD (l + j + 1) 0) s) hlt
 simp only [Nat.zero_add] at h
 refine h.congr ?_
 intro i hi
 by_cases e : i = j
 ·simp [e, shF]
 ·by_cases e2 : i < j
  ·simp [e, e2, show i < j + 1 from by omega]
  ·simp [e, e2, show ¬ i < j + 1 from by omega]

theorem fn_drewN {w : World} {b off n : Nat} {f : Nat → Nat} (h : Fn w b off n f) (k : Nat) : Fn (w.drewN k) b off n f := h

def Fz (w : World) (a : Option Addr) (m : Nat) : Prop := ∀ x, a = some x → ∀ i, i < m → w.frozen? ⟨x.block, x.off + i, none⟩ = false
theorem Fz.nil (w : World) (m : Nat) : Fz w none m := fun x hx => by cases hx
def NewRepF (w w' : World) (v : Nat) (e : Ending) : Prop :=
 ∃ a' m ys, e = .returned (.slice a' m m) ∧ Sl w' a' m m ys ∧ Rep v ys ∧ NewAt w.heap.size a' ∧ Below w.heap.size w w' ∧ Fz w' a' m
theorem NewRepF.rep {w w' : World} {v : Nat} {e : Ending} (h : NewRepF w w' v e) : NewRep w w' v e := by
 obtain ⟨a', m, ys, h1, h2, h3, h4, h5, _⟩ := h
 exact ⟨a', m, ys, h1, h2, h3, h4, h5⟩
theorem rep_len_leS {v j : Nat} {zs : List Nat} (h : Rep v zs) (hv : v < 4294967296 ^ j) : zs.length ≤ j := by
 rcases Nat.lt_or_ge j zs.length with k | k
 ·exfalso
  have hz : zs ≠ [] := by intro e; rw [e] at k; simp at k
  have h1 := val_ge_of_norm h.norm hz
  rw [h.val] at h1
  have h2 : 4294967296 ^ j ≤ 4294967296 ^ (zs.length - 1) := pow_mono (by omega)
  omega
 ·exact k

set_option maxHeartbeats 2000000 in
theorem shr_some (b off n c : Nat) (xs : List Nat) (w : World) (k l s : Nat) (hsl : Sl w (some ⟨b, off, none⟩) n c xs) (hc : Cells w b off xs) (ox : Ok xs) (hkl : (k:Int) / 32 = (l:Int)) (hks : (k:Int) % 32 = (s:Int)) (hs32 : s < 32) (hk0 : k ≤ 65536) (hln : l < n) (hn2 : n ≤ 2048) :
  Calls Tryz.prog 153 #[.slice (some ⟨b, off, none⟩) n c, .int .i64 (k : Nat)] w fun e w' => NewRepF w w' (val xs / 2 ^ k) e := by
 have hmk := fun w => make_sub n l (by omega) (by omega) w
 have hge : ¬ (n:Int) ≤ (l:Int) := by omega
 have HL := hide hsl.len
 have HT := hide (shr_val ox hsl.len (by omega) (show k / 32 = l by omega) (show k % 32 = s by omega))
 go_enter Tryz.func153, Tryz.ntmps153
 go_wp2_with fail
 try rw [hks]
 clear hkl hks hk0
 have hnl : ((n - l : Nat) : Int) = (n:Int) - (l:Int) := by omega
 go_loopw [25] (fun i wr => ∃ j : Nat, j ≤ n - l ∧ i = .int .i64 j ∧ Fn wr w.heap.size 0 (n - l) (fun i => if i < j then shF xs l s i else 0) ∧ Below w.heap.size w wr) (fun i _ => n - l - (intOf i).toNat)
 case atStart => exact ⟨0, Nat.zero_le _, rfl, by simpa using Fn.made w (n - l) _, (Below.refl _ _).alloc (Nat.le_refl _) _⟩
 case round =>
  obtain ⟨j, hj, rfl, hf, hbel⟩ := hrel
  by_cases hlt : j < n - l
  ·have hlt' : (j:Int) < (n:Int) - (l:Int) := by omega
   have hb1 : (l:Int) + (j:Int) < (n:Int) := by omega
   have g0 := hc (l + j) (by rw [unhide HL]; omega)
   have g1 : wr.cell? ⟨b, off + (l + j), none⟩ = _ := (hbel.cell (World.block_lt_of_cell? _ _ g0)).trans g0
   have c1 := (hf j hlt).1
   have c2 := (hf j hlt).2
   simp only [Nat.zero_add] at c1 c2
   generalize ((if j < j then shF xs l s j else 0 : Nat) : Int) = old at c1
   have KL := fun q => limbAt_any (some ⟨b, off, none⟩) n c xs ((l:Int) + (j:Int) + 1) (wr.drewN q) ((hsl.below hbel).drewN q) (by omega)
   rw [show ((l:Int) + (j:Int) + 1).toNat = l + j + 1 from by omega] at KL
   have KL' := hide KL
   have bx := ox.getD (l + j)
   have bY := ox.getD (l + j + 1)
   have e0 := dv_int (lo := xs.getD (l + j) 0) (hi := xs.getD (l + j + 1) 0) bx bY
   have e1 := srd_int (xs.getD (l + j) 0) (xs.getD (l + j + 1) 0) s
   have b1 := dv_lt (lo := xs.getD (l + j) 0) (hi := xs.getD (l + j + 1) 0) bx bY
   have HS := hide (sr_step hf hlt hbel)
   generalize xs.getD (l + j) 0 = x at *
   generalize xs.getD (l + j + 1) 0 = y at *
   clear hf hbel g0 KL
   go_wp2_with fail
   go_quiet ((go_at_call 142; exact Calls.quiet_of_same (unhide KL' _)))
   go_wp2
   exact ⟨⟨j + 1, by omega, by go_num, fn_drewN (unhide HS).1 _, bel_drewN (unhide HS).2 _⟩, by simp [intOf]; omega⟩
  ·have hjn : j = n - l := by omega
   have hf2 : Fn wr w.heap.size 0 (n - l) (shF xs l s) := hf.congr (fun i hi => by rw [hjn]; simp [hi])
   have KT := trim_any _ (n - l) (n - l) _ wr (hf2.sl (Nat.le_refl _) (by unfold maxLen; omega)) (lst_ok (fun i _ => srd_lt _ _ _))
   rw [lst_val, unhide HT] at KT
   have KT' := hide KT
   have HB := hide hbel
   have HF2 := hide hf2
   have HVL := hide (show val xs / 2 ^ k < 4294967296 ^ (n - l) from by rw [← unhide HT]; exact valF_lt (fun i _ => srd_lt _ _ _))
   have hlt' : ¬ (j:Int) < (n:Int) - (l:Int) := by omega
   clear hf hf2 KT hbel hjn
   go_wp2_with fail
   refine (unhide KT').mono ?_
   rintro e w3 ⟨a', m, zs, rfl, hs, hr, ha, rfl⟩
   go_wp2
   go_ret
   have hml : m ≤ n - l := by rw [← hs.len]; exact rep_len_leS hr (unhide HVL)
   refine ⟨a', m, zs, rfl, hs, hr, ?_, unhide HB, ?_⟩
   ·intro x hx
    rcases ha with rfl | rfl
    ·cases hx; exact Nat.le_refl _
    ·cases hx
   ·intro x hx i hi
    rcases ha with rfl | rfl
    ·cases hx; exact (unhide HF2 i (by omega)).2
    ·cases hx

set_option maxHeartbeats 400000 in
theorem shr_out (a : Option Addr) (n c k l s : Nat) (w : World) (hk0 : k ≤ 65536) (hl0 : l ≤ 2048) (hs0 : s < 32) (hkl : (k:Int) / 32 = (l:Int)) (hks : (k:Int) % 32 = (s:Int)) (hge : (n:Int) ≤ (l:Int)) :
  Calls Tryz.prog 153 #[.slice a n c, .int .i64 (k : Nat)] w fun e w' => e = .returned (.slice none 0 0) ∧ w' = w := by
 go_enter Tryz.func153, Tryz.ntmps153
 go_wp2
 go_ret
 exact ⟨rfl, rfl⟩

theorem shr_zero {xs : List Nat} (ox : Ok xs) {n k l : Nat} (hl : xs.length = n) (hk : k / 32 = l) (h : n ≤ l) : val xs / 2 ^ k = 0 := by
 apply Nat.div_eq_of_lt
 have b := val_lt ox
 have e := sh_total (v := 1) hk (rfl : k % 32 = k % 32)
 rw [Nat.one_mul, Nat.one_mul] at e
 have h1 : 4294967296 ^ xs.length ≤ 4294967296 ^ l := pow_mono (by omega)
 have h2 : 4294967296 ^ l ≤ 2 ^ (k % 32) * 4294967296 ^ l := Nat.le_mul_of_pos_left _ (Nat.pow_pos (by decide))
 omega

theorem shr_anyF (a : Option Addr) (n c : Nat) (xs : List Nat) (w : World) (k : Nat) (h : Sl w a n c xs) (ox : Ok xs) (hn : n ≤ 2048) (hk : k ≤ 65536) :
  Calls Tryz.prog 153 #[.slice a n c, .int .i64 (k : Nat)] w fun e w' => NewRepF w w' (val xs / 2 ^ k) e := by
 by_cases h0 : n ≤ k / 32
 ·refine (shr_out a n c k (k / 32) (k % 32) w hk (by omega) (by omega) (by omega) (by omega) (by omega)).mono ?_
  rintro e w' ⟨rfl, rfl⟩
  refine ⟨none, 0, [], rfl, sl_nil _, ⟨Ok.nil, .inl rfl, ?_⟩, newAt_nil _, Below.refl _ _, Fz.nil _ _⟩
  rw [shr_zero ox h.len rfl h0]; rfl
 ·have hx : xs ≠ [] := by intro e; have := h.len; rw [e] at this; simp at this; omega
  rcases h.cells with e | ⟨b, off, rfl, hc⟩
  ·exact absurd e hx
  ·exact shr_some b off n c xs w k (k / 32) (k % 32) h hc ox (by omega) (by omega) (by omega) hk (by omega) hn

structure SrR (wr w : World) (xs : List Nat) (l s : Nat) (v : Value) (j : Nat) : Prop where
 own : wr.ownsRow w.heap.size 115 1 v j (vals (lst (shF xs l s) j))
 bel : Below w.heap.size w wr

theorem SrR.step {wr w w1 : World} {xs : List Nat} {l s : Nat} {v v' : Value} {j : Nat} {o : Obj} (h : SrR wr w xs l s v j)
  (hown : w1.ownsRow w.heap.size 115 1 v' (j + 1) (vals (lst (shF xs l s) j) ++ [.int .u32 (srd (xs.getD (l + j) 0) (xs.getD (l + j + 1) 0) s : Nat)])) (hg : (wr.alloc o).grownBy w1 v.ownBlock) : SrR w1 w xs l s v' (j + 1) := by
 have hs := h.bel.size
 refine ⟨?_, Below.grown (h.bel.alloc (by omega) o) hg (by simp; omega) (fun k hk => (own_ge h.own k hk).1)⟩
 have e : vals (lst (shF xs l s) j) ++ [.int .u32 (srd (xs.getD (l + j) 0) (xs.getD (l + j + 1) 0) s : Nat)] = vals (lst (shF xs l s) (j + 1)) := by
  simp [vals, lst, List.range_succ, shF]
 rw [← e]; exact hown
end Go.Proofs.YtbbicappjicblaaGreatDoor

namespace Go.Proofs.YtbbicappjicblaaGreatDoor
open Go.RowKit Go.Deep
set_option linter.unusedVariables false

end Go.Proofs.YtbbicappjicblaaGreatDoor
namespace Go.Proofs.YtbbicappjicblaaGreatDoor
open Go.RowKit Go.Deep
set_option linter.unusedVariables false
theorem and_m2 (x y : Nat) : (x &&& y) % 2 = (x % 2) * (y % 2) := by
 have h := @Nat.and_mod_two_eq_one x y
 rcases Nat.mod_two_eq_zero_or_one x with a | a <;> rcases Nat.mod_two_eq_zero_or_one y with b | b <;> rw [a, b] at h ⊢ <;> omega
theorem and_not_add : ∀ (f x y : Nat), x < 2 ^ f → y < 2 ^ f → (x &&& y) + (x &&& (2 ^ f - 1 - y)) = x
 | 0, x, y, hx, hy => by simp at hx hy; subst hx; subst hy; rfl
 | f + 1, x, y, hx, hy => by
  have hp : 2 ^ (f + 1) = 2 * 2 ^ f := by rw [Nat.pow_succ, Nat.mul_comm]
  have h0 := Nat.two_pow_pos f
  rw [hp] at hx hy ⊢
  have h := and_not_add f (x / 2) (y / 2) (by omega) (by omega)
  have e1 : (2 * 2 ^ f - 1 - y) / 2 = 2 ^ f - 1 - y / 2 := by omega
  have e2 : (2 * 2 ^ f - 1 - y) % 2 = 1 - y % 2 := by omega
  rw [← e1, ← Nat.and_div_two, ← Nat.and_div_two] at h
  have a := and_m2 x y
  have b := and_m2 x (2 * 2 ^ f - 1 - y)
  rw [e2] at b
  generalize 2 * 2 ^ f - 1 - y = z at *
  have c : (x % 2) * (y % 2) + (x % 2) * (1 - y % 2) = x % 2 := by
   rcases Nat.mod_two_eq_zero_or_one y with d | d <;> rw [d] <;> omega
  omega
theorem valF_digit {f : Nat → Nat} {n l : Nat} (ok : ∀ i, i < n → f i < 4294967296) (hl : l < n) : f l = valF f n / 4294967296 ^ l % 4294967296 := by
 have := val_drop (lst_ok ok) l
 rw [lst_val] at this
 rw [← this, val_drop_step, lst_getD f n l hl]
 have := ok l hl
 omega
theorem tz_and : ∀ (f x : Nat), 0 < x → x < 2 ^ f → x &&& (2 ^ f - x) = 2 ^ Lib.ntzAux f x
 | 0, x, h0, h => by simp at h; omega
 | f + 1, x, h0, h => by
  have hp : 2 ^ (f + 1) = 2 * 2 ^ f := by rw [Nat.pow_succ, Nat.mul_comm]
  have hq := Nat.two_pow_pos f
  rw [hp] at h ⊢
  have hd := Nat.div_add_mod (x &&& (2 * 2 ^ f - x)) 2
  have hm := and_m2 x (2 * 2 ^ f - x)
  rw [Nat.and_div_two] at hd
  simp only [Lib.ntzAux]
  rcases Nat.mod_two_eq_zero_or_one x with e | e
  ·rw [if_neg (by omega)]
   have e1 : (2 * 2 ^ f - x) / 2 = 2 ^ f - x / 2 := by omega
   rw [e1, tz_and f (x / 2) (by omega) (by omega)] at hd
   rw [e, Nat.zero_mul] at hm
   rw [show 1 + Lib.ntzAux f (x / 2) = Lib.ntzAux f (x / 2) + 1 from by omega, Nat.pow_succ]
   omega
  ·rw [if_pos e]
   have e1 : (2 * 2 ^ f - x) / 2 = 2 ^ f - 1 - x / 2 := by omega
   have e2 : (2 * 2 ^ f - x) % 2 = 1 := by omega
   have e3 := and_not_add f (x / 2) (x / 2) (by omega) (by omega)
   rw [Nat.and_self] at e3
   rw [e1] at hd
   rw [e, e2] at hm
   simp only [Nat.pow_zero]
   omega

theorem tz_lt : ∀ (f x : Nat), 0 < x → x < 2 ^ f → Lib.ntzAux f x < f
 | 0, x, h0, h => by simp at h; omega
 | f + 1, x, h0, h => by
  rw [Nat.pow_succ] at h
  simp only [Lib.ntzAux]
  split
  ·omega
  ·have := tz_lt f (x / 2) (by omega) (by omega)
   omega

theorem tz_bit : ∀ (f x : Nat), 0 < x → x < 2 ^ f → x / 2 ^ Lib.ntzAux f x % 2 = 1 ∧ ∀ s, s < Lib.ntzAux f x → x / 2 ^ s % 2 = 0
 | 0, x, h0, h => by simp at h; omega
 | f + 1, x, h0, h => by
  rw [Nat.pow_succ] at h
  simp only [Lib.ntzAux]
  split
  ·rename_i e
   exact ⟨by simpa using e, fun s hs => by omega⟩
  ·rename_i e
   have := tz_bit f (x / 2) (by omega) (by omega)
   refine ⟨?_, ?_⟩
   ·rw [show 1 + Lib.ntzAux f (x / 2) = Lib.ntzAux f (x / 2) + 1 from by omega, Nat.pow_succ, Nat.mul_comm, ← Nat.div_div_eq_div_mul]
    exact this.1
   ·intro s hs
    cases s with
    | zero => simp; omega
    | succ s =>
     rw [Nat.pow_succ, Nat.mul_comm, ← Nat.div_div_eq_div_mul]
     exact this.2 s (by omega)

theorem p32 : (2:Nat) ^ 32 = 4294967296 := by decide
theorem bl_lt : ∀ (n x : Nat), x ≤ n → x < 18446744073709551616 → x < 2 ^ Lib.bitLen x
 | 0, x, h, hx => by
  have e : x = 0 := by omega
  subst e
  decide +kernel
 | n + 1, x, h, hx => by
  by_cases h0 : x = 0
  ·subst h0; decide +kernel
  ·have ih := bl_lt n (x / 2) (by omega) (by omega)
   rw [Lib.bitLen_half x h0 hx, Nat.add_comm 1, Nat.pow_succ]
   omega

theorem take_lt_pow {xs : List Nat} (ox : Ok xs) (t : Nat) (h : t ≤ xs.length) : val (xs.take t) < 4294967296 ^ t := by
 have := val_lt (ox.take t)
 rwa [List.length_take, Nat.min_eq_left h] at this

def bitsN (xs : List Nat) : Nat := if xs = [] then 0 else bitsL xs
def bitN (v i : Nat) : Nat := v / 2 ^ i % 2
theorem bitN_lt (v i : Nat) : bitN v i < 2 := Nat.mod_lt _ (by decide)

theorem and_one (y : Nat) (hy : y < 4294967296) : bits .and .u32 (y : Int) 1 = ((y % 2 : Nat) : Int) := by
 have := u32_and_nat y 1 hy (by decide)
 rw [Nat.and_one_is_mod] at this
 exact this

theorem shr_lt {x s : Nat} (hx : x < 4294967296) : x / 2 ^ s < 4294967296 := Nat.lt_of_le_of_lt (Nat.div_le_self _ _) hx
theorem dv_div_lt {lo hi y : Nat} (h1 : lo < 4294967296) (h2 : hi < y) : dv lo hi / y < 4294967296 := by
 unfold dv
 rw [Nat.div_lt_iff_lt_mul (by omega)]
 have : 4294967296 * (hi + 1) ≤ 4294967296 * y := Nat.mul_le_mul_left _ h2
 omega

set_option maxHeartbeats 1000000 in
theorem div32_any (hi lo y : Nat) (w : World) (h1 : lo < 4294967296) (h2 : hi < y) (h3 : y < 4294967296) :
  Calls Tryz.prog 150 #[.int .u32 (hi : Nat), .int .u32 (lo : Nat), .int .u32 (y : Nat)] w fun e w' => e = .returned (.tuple #[.int .u32 (dv lo hi / y : Nat), .int .u32 (dv lo hi % y : Nat)]) ∧ ∃ k, w' = w.drewN k := by
 have t1 : ¬ (y:Int) ≤ (hi:Int) := by omega
 have t2 : ((y:Int) != 0) = true := by rw [bne_iff_ne]; omega
 have t3 : ((y:Int) == 0) = false := by simp; omega
 have t4 : ¬ (y:Int) = 0 := by omega
 have e0 := dv_int h1 (show hi < 4294967296 by omega)
 have hd := dv_lt h1 (show hi < 4294967296 by omega)
 have hq := dv_div_lt h1 h2
 have hr : dv lo hi % y < 4294967296 := Nat.lt_trans (Nat.mod_lt _ (by omega)) h3
 generalize dv lo hi = z at *
 have e1 : ((z : Nat) : Int).tdiv (y : Int) = ((z / y : Nat) : Int) := by rw [Int.tdiv_eq_ediv_of_nonneg (by omega)]; exact (Int.natCast_ediv _ _).symm
 have e2 : ((z : Nat) : Int).tmod (y : Int) = ((z % y : Nat) : Int) := by rw [Int.tmod_eq_emod_of_nonneg (by omega)]; exact (Int.natCast_emod _ _).symm
 have e3 : ((z : Nat) : Int) / (y : Int) = ((z / y : Nat) : Int) := (Int.natCast_ediv _ _).symm
 have e4 : ((z : Nat) : Int) % (y : Int) = ((z % y : Nat) : Int) := (Int.natCast_emod _ _).symm
 generalize z / y = q at *
 generalize z % y = r at *
 go_enter Tryz.func150, Tryz.ntmps150
 go_wp2_with fail
 go_quiet (fail)
 go_wp2
 go_ret2
 exact ⟨rfl, _, rfl⟩

set_option maxHeartbeats 1000000 in
theorem lz32_any (x : Nat) (w : World) (hx : x < 4294967296) :
  Calls Tryz.prog 143 #[.int .u32 (x : Nat)] w fun e w' => e = .returned (.int .i64 (32 - (Lib.bitLen x : Int))) ∧ w' = w := by
 have K := hide (len32_any x w hx)
 have hl : Lib.bitLen x ≤ 64 := Lib.bitLen_le x 64 (by omega) (by omega)
 generalize Lib.bitLen x = u at *
 go_enter Tryz.func143, Tryz.ntmps143
 go_wp2_with fail
 refine (unhide K).mono ?_
 rintro e w' ⟨rfl, hw⟩
 obtain rfl := hw.symm
 go_wp2
 go_ret
 exact ⟨rfl, rfl⟩

structure DlR (wr w : World) (b off n : Nat) (f : Nat → Nat) (d k r : Nat) (g : Nat → Nat) : Prop where
 fn : Fn wr b off n g
 ok : ∀ i, i < n → g i < 4294967296
 eq : ∀ i, i < k → g i = f i
 rlt : r < d
 val : valF (fun i => f (k + i)) (n - k) = valF (fun i => g (k + i)) (n - k) * d + r
 upd : Upd b off (off + n) w wr

theorem valF_head (f : Nat → Nat) (k n : Nat) (h : k < n) : valF (fun i => f (k + i)) (n - k) = f k + 4294967296 * valF (fun i => f (k + 1 + i)) (n - (k + 1)) := by
 have e : n - k = 1 + (n - (k + 1)) := by omega
 rw [e, valF_add]
 simp only [valF, Nat.add_zero, Nat.pow_zero, Nat.pow_one, Nat.one_mul, Nat.zero_add]
 congr 2
 exact valF_congr (fun i _ => by rw [Nat.add_assoc])

theorem dl_arith {F S Q r d q r' : Nat} (h : S = Q * d + r) (e : F + 4294967296 * r = d * q + r') : F + 4294967296 * S = (q + 4294967296 * Q) * d + r' := by
 subst h
 rw [Nat.add_mul, Nat.mul_add, Nat.mul_comm q d, Nat.mul_assoc]
 omega

theorem DlR.step {wr w : World} {b off n : Nat} {f : Nat → Nat} {d k r : Nat} {g : Nat → Nat} (h : DlR wr w b off n f d (k + 1) r g) (hk : k < n) (hd : d < 4294967296) :
  DlR (wr.setCell ⟨b, off + k, none⟩ (.int .u32 (dv (g k) r / d : Nat))) w b off n f d k (dv (g k) r % d) (fun i => if i = k then dv (g k) r / d else g i) := by
 have hq := dv_div_lt (h.ok k hk) h.rlt
 refine ⟨h.fn.set k _ hk, ?_, ?_, Nat.mod_lt _ (by have := h.rlt; omega), ?_, h.upd.set _ _ (by omega) (by omega)⟩
 ·intro i hi
  by_cases e : i = k
  ·simp only [e, if_true]; exact hq
  ·simp only [e, if_false]; exact h.ok i hi
 ·intro i hi
  rw [if_neg (by omega)]
  exact h.eq i (by omega)
 ·rw [valF_head f k n hk, valF_head (fun i => if i = k then dv (g k) r / d else g i) k n hk]
  simp only [if_true]
  have e0 : valF (fun i => if k + 1 + i = k then dv (g k) r / d else g (k + 1 + i)) (n - (k + 1)) = valF (fun i => g (k + 1 + i)) (n - (k + 1)) := valF_congr (fun i _ => by rw [if_neg (by omega)])
  rw [e0, ← h.eq k (by omega)]
  refine dl_arith h.val ?_
  have := Nat.div_add_mod (dv (g k) r) d
  unfold dv at *
  omega

theorem DlR.drew {wr w : World} {b off n : Nat} {f : Nat → Nat} {d k r : Nat} {g : Nat → Nat} (h : DlR wr w b off n f d k r g) : DlR wr.drew w b off n f d k r g := ⟨h.fn, h.ok, h.eq, h.rlt, h.val, h.upd.drew⟩

theorem DlR.drewN {wr w : World} {b off n : Nat} {f : Nat → Nat} {d k r : Nat} {g : Nat → Nat} (h : DlR wr w b off n f d k r g) (j : Nat) : DlR (wr.drewN j) w b off n f d k r g := ⟨h.fn, h.ok, h.eq, h.rlt, h.val, h.upd.drewN j⟩

def DlPost (w : World) (b off n : Nat) (f : Nat → Nat) (d : Nat) (e : Ending) (w' : World) : Prop :=
 ∃ (r : Nat) (g : Nat → Nat), e = .returned (.int .u32 (r : Nat)) ∧ r < d ∧ Fn w' b off n g ∧ (∀ i, i < n → g i < 4294967296) ∧ valF f n = valF g n * d + r ∧ Upd b off (off + n) w w'

set_option maxHeartbeats 2000000 in
theorem divideLimb_any (b off n c d : Nat) (f : Nat → Nat) (w : World) (h : Fn w b off n f) (ok : ∀ i, i < n → f i < 4294967296) (hn : n ≤ 1000000000) (hd0 : 0 < d) (hd : d < 4294967296) :
  Calls Tryz.prog 146 #[.slice (some ⟨b, off, none⟩) n c, .int .u32 (d : Nat)] w fun e w' => DlPost w b off n f d e w' := by
 have hR0 : DlR w w b off n f d n 0 f := ⟨h, ok, fun _ _ => rfl, hd0, by simp [valF], Upd.refl _ _ _ _⟩
 have HR0 := hide hR0
 clear hR0 h ok
 go_enter Tryz.func146, Tryz.ntmps146
 go_wp2
 go_loopw [5, 6] (fun rv i wr => ∃ k r : Nat, ∃ g : Nat → Nat, k ≤ n ∧ i = .int .i64 ((k : Int) - 1) ∧ rv = .int .u32 (r : Nat) ∧ DlR wr w b off n f d k r g) (fun _ i _ => (intOf i + 1).toNat)
 case atStart => exact ⟨n, 0, _, Nat.le_refl _, rfl, rfl, unhide HR0⟩
 case round =>
  clear HR0
  obtain ⟨k, r, g, hk, rfl, rfl, hR⟩ := hrel
  rcases k with _ | k
  ·have t1 : ¬ (0:Int) ≤ ((0:Nat):Int) - 1 := by omega
   have HR := hide hR
   clear hR
   go_wp2
   go_ret
   have hv := (unhide HR).val
   simp only [Nat.zero_add, Nat.sub_zero] at hv
   exact ⟨r, g, rfl, (unhide HR).rlt, (unhide HR).fn, (unhide HR).ok, hv, (unhide HR).upd⟩
  ·have t0 : ((k + 1 : Nat) : Int) - 1 = (k : Int) := by omega
   rw [t0]
   have t1 : (k:Int) < (n:Int) := by omega
   have g1 := (hR.fn k (by omega)).1
   have g2 := (hR.fn k (by omega)).2
   have hkn : k < n := by omega
   have KD := hide (fun w => div32_any r (g k) d w (hR.ok k (by omega)) hR.rlt hd)
   have HR0 := hide hR
   clear hR
   go_wp2_with fail
   refine (unhide KD _).mono ?_
   rintro e w' ⟨rfl, kk, hw⟩
   have hR2 : DlR w' w b off n f d (k + 1) r g := by rw [hw]; exact (unhide HR0).drewN kk
   have g3 := (hR2.fn k hkn).1
   have g4 := (hR2.fn k hkn).2
   have HR := hide (hR2.step hkn hd)
   clear hw hR2 KD HR0
   go_wp2
   exact ⟨⟨k, _, _, by omega, by go_num, rfl, unhide HR⟩, by simp [intOf]⟩
open Go.RowKit Go.Deep
set_option linter.unusedVariables false

structure Gs (P u2 u1 u0 ul top next vl : Nat) : Prop where
 hP : 0 < P
 h2 : u2 < 4294967296
 h1 : u1 < 4294967296
 h0 : u0 < 4294967296
 hl : ul < P
 ht : top < 4294967296
 hb : 2147483648 ≤ top
 hn : next < 4294967296
 hv : vl < P
 lt : ul + P * (u0 + 4294967296 * (u1 + 4294967296 * u2)) < (vl + P * (next + 4294967296 * top)) * 4294967296

theorem low_lt {P ul S X : Nat} (h : ul < P) (k : S < X) : ul + P * S < P * X := by
 have : P * (S + 1) ≤ P * X := Nat.mul_le_mul_left _ k
 rw [Nat.mul_add, Nat.mul_one] at this
 omega

theorem mul_high {g P vl T : Nat} : P * (g * T) ≤ g * (vl + P * T) := by
 rw [Nat.mul_add, Nat.mul_left_comm g P T]
 exact Nat.le_add_left _ _

theorem Gs.top_le {P u2 u1 u0 ul top next vl : Nat} (s : Gs P u2 u1 u0 ul top next vl) : u2 ≤ top := by
 have h := s.lt
 rcases Nat.lt_or_ge top u2 with k | k
 ·exfalso
  have h3 : vl + P * (next + 4294967296 * top) < P * (4294967296 * u2) := low_lt s.hv (by have := s.hn; omega)
  have h4 : P * (4294967296 * u2) * 4294967296 ≤ P * (u0 + 4294967296 * (u1 + 4294967296 * u2)) := by
   rw [Nat.mul_assoc]
   exact Nat.mul_le_mul_left _ (by omega)
  have h5 := Nat.mul_lt_mul_of_pos_right h3 (show 0 < 4294967296 by decide)
  omega
 ·exact k

theorem Gs.start {P u2 u1 u0 ul top next vl : Nat} (s : Gs P u2 u1 u0 ul top next vl) : ul + P * (u0 + 4294967296 * (u1 + 4294967296 * u2)) < ((u1 + 4294967296 * u2) / top + 1) * (vl + P * (next + 4294967296 * top)) := by
 have ht := s.hb
 generalize u1 + 4294967296 * u2 = hd
 have h1 : hd < (hd / top + 1) * top := by
  have e1 := Nat.div_add_mod hd top
  have e2 := Nat.mod_lt hd (show top > 0 by omega)
  rw [Nat.add_mul, Nat.one_mul, Nat.mul_comm (hd / top)]
  omega
 generalize hd / top + 1 = g at *
 have h2 : u0 + 4294967296 * hd < g * (next + 4294967296 * top) := by
  rw [Nat.mul_add, Nat.mul_left_comm]
  have := s.h0
  omega
 exact Nat.lt_of_lt_of_le (low_lt s.hl h2) mul_high

theorem Gs.big {P u2 u1 u0 ul top next vl g : Nat} (s : Gs P u2 u1 u0 ul top next vl) (hg : 4294967296 ≤ g) : ul + P * (u0 + 4294967296 * (u1 + 4294967296 * u2)) < g * (vl + P * (next + 4294967296 * top)) := by
 refine Nat.lt_of_lt_of_le s.lt ?_
 rw [Nat.mul_comm]
 exact Nat.mul_le_mul_right _ hg

theorem Gs.more {P u2 u1 u0 ul top next vl g r : Nat} (s : Gs P u2 u1 u0 ul top next vl) (he : g * top + r = u1 + 4294967296 * u2) (hc : r * 4294967296 + u0 < g * next) : ul + P * (u0 + 4294967296 * (u1 + 4294967296 * u2)) < g * (vl + P * (next + 4294967296 * top)) := by
 refine Nat.lt_of_lt_of_le (low_lt s.hl ?_) (mul_high (vl := vl))
 rw [Nat.mul_add g, Nat.mul_left_comm g]
 omega

theorem Gs.less {P u2 u1 u0 ul top next vl g r : Nat} (s : Gs P u2 u1 u0 ul top next vl) (he : g * top + r = u1 + 4294967296 * u2) (hg : g < 4294967296) (hc : g * next ≤ r * 4294967296 + u0) : g * (vl + P * (next + 4294967296 * top)) < ul + P * (u0 + 4294967296 * (u1 + 4294967296 * u2)) + (vl + P * (next + 4294967296 * top)) := by
 have h1 : g * (next + 4294967296 * top) ≤ u0 + 4294967296 * (u1 + 4294967296 * u2) := by
  rw [Nat.mul_add, Nat.mul_left_comm]
  omega
 have h2 : P * (g * (next + 4294967296 * top)) ≤ P * (u0 + 4294967296 * (u1 + 4294967296 * u2)) := Nat.mul_le_mul_left _ h1
 have h3 : g * vl < 4294967296 * P := Nat.mul_lt_mul'' hg s.hv
 have h4 : P * 4294967296 ≤ P * (next + 4294967296 * top) := Nat.mul_le_mul_left _ (by have := s.hb; omega)
 rw [Nat.mul_add g, Nat.mul_left_comm g P]
 omega

theorem Gs.off {P u2 u1 u0 ul top next vl g r : Nat} (s : Gs P u2 u1 u0 ul top next vl) (he : g * top + r = u1 + 4294967296 * u2) (hr : 4294967296 ≤ r) : g < 4294967296 := by
 rcases Nat.lt_or_ge g 4294967296 with k | k
 ·exact k
 ·exfalso
  have h1 := s.top_le
  have h2 : 4294967296 * top ≤ g * top := Nat.mul_le_mul_right _ k
  have := s.h1
  omega

theorem Gs.less2 {P u2 u1 u0 ul top next vl g r : Nat} (s : Gs P u2 u1 u0 ul top next vl) (he : g * top + r = u1 + 4294967296 * u2) (hr : 4294967296 ≤ r) : g * (vl + P * (next + 4294967296 * top)) < ul + P * (u0 + 4294967296 * (u1 + 4294967296 * u2)) + (vl + P * (next + 4294967296 * top)) := by
 have hg := s.off he hr
 refine s.less he hg ?_
 have h1 : g * next ≤ 4294967296 * 4294967296 := Nat.mul_le_mul (by omega) (by have := s.hn; omega)
 have h2 : 4294967296 * 4294967296 ≤ r * 4294967296 := Nat.mul_le_mul_right _ hr
 omega

structure GR (P u2 u1 u0 ul top next vl g r : Nat) : Prop where
 rlt : r < 4294967296
 eq : g * top + r = u1 + 4294967296 * u2
 gle : g < 18446744073709551616
 lt : ul + P * (u0 + 4294967296 * (u1 + 4294967296 * u2)) < (g + 1) * (vl + P * (next + 4294967296 * top))

theorem GR.down {P u2 u1 u0 ul top next vl g r : Nat} (h : GR P u2 u1 u0 ul top next vl g r) (hg : 1 ≤ g) : (g - 1) * top + (r + top) = u1 + 4294967296 * u2 := by
 have e := h.eq
 obtain ⟨k, rfl⟩ : ∃ k, g = k + 1 := ⟨g - 1, by omega⟩
 rw [Nat.add_mul, Nat.one_mul] at e
 simp only [Nat.add_sub_cancel]
 omega

def GuessPost (U V : Nat) (e : Ending) : Prop := ∃ g : Nat, e = .returned (.int .u32 (g : Nat)) ∧ g < 4294967296 ∧ U < (g + 1) * V ∧ g * V < U + V

set_option maxHeartbeats 4000000 in
theorem guess_any (bu ou n cu bv ov cv : Nat) (P u2 u1 u0 ul top next vl : Nat) (w : World) (s : Gs P u2 u1 u0 ul top next vl) (hn : 2 ≤ n) (hm : n ≤ 1000000000)
  (k2 : w.cell? ⟨bu, ou + n, none⟩ = some (.int .u32 (u2 : Nat))) (k1 : w.cell? ⟨bu, ou + (n - 1), none⟩ = some (.int .u32 (u1 : Nat))) (k0 : w.cell? ⟨bu, ou + (n - 2), none⟩ = some (.int .u32 (u0 : Nat)))
  (l1 : w.cell? ⟨bv, ov + (n - 1), none⟩ = some (.int .u32 (top : Nat))) (l0 : w.cell? ⟨bv, ov + (n - 2), none⟩ = some (.int .u32 (next : Nat))) :
  Calls Tryz.prog 154 #[.slice (some ⟨bu, ou, none⟩) (n + 1) cu, .slice (some ⟨bv, ov, none⟩) n cv] w fun e w' => GuessPost (ul + P * (u0 + 4294967296 * (u1 + 4294967296 * u2))) (vl + P * (next + 4294967296 * top)) e ∧ ∃ k, w' = w.drewN k := by
 have S := hide s
 have b2 := s.h2
 have b1 := s.h1
 have b0 := s.h0
 have bt := s.ht
 have bb := s.hb
 have bn := s.hn
 have ht := s.top_le
 have i1 : ((n:Int) - 1).toNat = n - 1 := by omega
 have i2 : ((n:Int) - 2).toNat = n - 2 := by omega
 have j1 : (n:Int) - 1 < (n:Int) := by omega
 have e0 := dv_int b1 b2
 have hd := dv_lt b1 b2
 have ed : dv u1 u2 = u1 + 4294967296 * u2 := rfl
 have HE := hide ed
 have t3 : ((top:Int) == 0) = false := by simp; omega
 have t4 : ¬ (top:Int) = 0 := by omega
 clear ed s
 generalize dv u1 u2 = z at *
 have e1 : ((z : Nat) : Int).tdiv (top : Int) = ((z / top : Nat) : Int) := by rw [Int.tdiv_eq_ediv_of_nonneg (by omega)]; exact (Int.natCast_ediv _ _).symm
 have e2 : ((z : Nat) : Int).tmod (top : Int) = ((z % top : Nat) : Int) := by rw [Int.tmod_eq_emod_of_nonneg (by omega)]; exact (Int.natCast_emod _ _).symm
 have e3 : ((z : Nat) : Int) / (top : Int) = ((z / top : Nat) : Int) := (Int.natCast_ediv _ _).symm
 have e4 : ((z : Nat) : Int) % (top : Int) = ((z % top : Nat) : Int) := (Int.natCast_emod _ _).symm
 have HZ := hide (Nat.div_add_mod z top)
 have hz1 : z % top < 4294967296 := Nat.lt_trans (Nat.mod_lt _ (by omega)) bt
 have hz2 : z / top ≤ z := Nat.div_le_self _ _
 have HS := hide ((unhide S).start)
 rw [← unhide HE] at HS
 generalize z / top = g0 at *
 generalize z % top = r0 at *
 go_enter Tryz.func154, Tryz.ntmps154
 go_wp2_with fail
 go_quiet (fail)
 go_wp2_with fail
 go_quiet (fail)
 go_wp2_with fail
 go_quiet (fail)
 go_wp2_with fail
 go_loopw [9, 10] (fun gv rv wr => ∃ g r k : Nat, gv = .int .u64 (g : Nat) ∧ rv = .int .u64 (r : Nat) ∧ wr = w.drewN k ∧ GR P u2 u1 u0 ul top next vl g r) (fun gv _ _ => (intOf gv).toNat)
 case atStart =>
  have h1 := unhide HZ
  have h2 := unhide HS
  rw [unhide HE] at h1 h2
  rw [Nat.mul_comm] at h1
  exact ⟨g0, r0, _, rfl, rfl, drewN_add3 _ _ _ _, ⟨hz1, h1, by omega, h2⟩⟩
 case round =>
  obtain ⟨g, r, k, rfl, rfl, rfl, hG⟩ := hrel
  have hr := hG.rlt
  have hg := hG.gle
  have HG := hide hG
  clear hG HS HZ hz1 hz2 hd e0 e1 e2 e3 e4 t3 t4
  have E1 : ((g:Int) / 4294967296 != 0) = decide (4294967296 ≤ g) := by
   by_cases h : 4294967296 ≤ g
   ·rw [decide_eq_true h, bne_iff_ne]; omega
   ·rw [decide_eq_false h]; have : (g:Int) / 4294967296 = 0 := by omega
    rw [this]; rfl
  have E2 : (((r:Int) + (top:Int)) / 4294967296 != 0) = decide (4294967296 ≤ r + top) := by
   by_cases h : 4294967296 ≤ r + top
   ·rw [decide_eq_true h, bne_iff_ne]; omega
   ·rw [decide_eq_false h]; have : ((r:Int) + (top:Int)) / 4294967296 = 0 := by omega
    rw [this]; rfl
  by_cases hbig : 4294967296 ≤ g
  ·rw [decide_eq_true hbig] at E1
   have HN := hide ((unhide S).big hbig)
   have g1 : 1 ≤ g := by omega
   by_cases hr2 : 4294967296 ≤ r + top
   ·rw [decide_eq_true hr2] at E2
    go_wp2
    go_ret
    have hd := (unhide HG).down g1
    refine ⟨⟨g - 1, ?_, (unhide S).off hd hr2, ?_, (unhide S).less2 hd hr2⟩, _, rfl⟩
    ·have := (unhide S).off hd hr2
     show Ending.returned (Value.int IntKind.u32 (((g:Int) - 1) % 4294967296)) = _
     rw [show ((g:Int) - 1) % 4294967296 = ((g - 1 : Nat) : Int) from by omega]
    ·rw [Nat.sub_add_cancel g1]; exact unhide HN
   ·rw [decide_eq_false hr2] at E2
    go_wp2
    have hd := (unhide HG).down g1
    refine ⟨⟨g - 1, r + top, k, ?_, by go_num, rfl, ⟨by omega, hd, by omega, ?_⟩⟩, ?_⟩
    ·rw [show (g:Int) - 1 = ((g - 1 : Nat) : Int) from by omega]
    ·rw [Nat.sub_add_cancel g1]; exact unhide HN
    ·simp [intOf]; omega
  ·rw [decide_eq_false hbig] at E1
   have mb : ((g : Nat) : Int) * ((next : Nat) : Int) ≤ 18446744065119617025 := by
    have := mul_bound (show g < 4294967296 by omega) bn
    rw [← Int.natCast_mul]; omega
   have mb0 : 0 ≤ ((g : Nat) : Int) * ((next : Nat) : Int) := Int.mul_nonneg (by omega) (by omega)
   have eo := dv_int b0 hr
   have eo2 := dv_lt b0 hr
   have HD := hide (show dv u0 r = u0 + 4294967296 * r from rfl)
   generalize dv u0 r = y at *
   have em : ((g : Nat) : Int) * ((next : Nat) : Int) = ((g * next : Nat) : Int) := (Int.natCast_mul _ _).symm
   generalize hx : g * next = x at em
   have HX := hide hx
   rw [em] at mb mb0
   clear hx
   by_cases hmore : y < x
   ·have hm' : (y:Int) < (x:Int) := by omega
    have HN := hide ((unhide S).more (unhide HG).eq (by rw [unhide HX]; have := unhide HD; omega))
    have g1 : 1 ≤ g := by
     rcases Nat.eq_zero_or_pos g with e | e
     ·exfalso; have := unhide HX; rw [e, Nat.zero_mul] at this; omega
     ·exact e
    by_cases hr2 : 4294967296 ≤ r + top
    ·rw [decide_eq_true hr2] at E2
     go_wp2
     go_ret
     have hd := (unhide HG).down g1
     refine ⟨⟨g - 1, ?_, (unhide S).off hd hr2, ?_, (unhide S).less2 hd hr2⟩, _, rfl⟩
     ·have := (unhide S).off hd hr2
      show Ending.returned (Value.int IntKind.u32 ((g:Int) - 1)) = _
      rw [show (g:Int) - 1 = ((g - 1 : Nat) : Int) from by omega]
     ·rw [Nat.sub_add_cancel g1]; exact unhide HN
    ·rw [decide_eq_false hr2] at E2
     go_wp2
     have hd := (unhide HG).down g1
     refine ⟨⟨g - 1, r + top, k, ?_, by go_num, rfl, ⟨by omega, hd, by omega, ?_⟩⟩, ?_⟩
     ·rw [show (g:Int) - 1 = ((g - 1 : Nat) : Int) from by omega]
     ·rw [Nat.sub_add_cancel g1]; exact unhide HN
     ·simp [intOf]; omega
   ·have hm' : ¬ (y:Int) < (x:Int) := by omega
    have HL := hide ((unhide S).less (unhide HG).eq (by omega) (by rw [unhide HX]; have := unhide HD; omega))
    go_wp2
    go_ret
    exact ⟨⟨g, rfl, by omega, (unhide HG).lt, unhide HL⟩, _, rfl⟩
end Go.Proofs.YtbbicappjicblaaGreatDoor
