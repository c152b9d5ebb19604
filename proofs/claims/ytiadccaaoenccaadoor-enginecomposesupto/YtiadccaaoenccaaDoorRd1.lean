/- Shr -/
import Derived.Test.YtiadccaaoenccaaDoorShl
import Derived.Test.YtiadccaaoenccaaDoorCmp
import Derived.Test.YtiadccaaoenccaaDoorNMul
namespace Go.Proofs.YtiadccaaoenccaaDoor
open Go.RowKit Go.Deep
set_option linter.unusedVariables false
theorem val_drop {xs : List Nat} (ox : Ok xs) (i : Nat) : val (xs.drop i) = val xs / 4294967296 ^ i := by
  by_cases h : i ≤ xs.length
  · have e := val_split xs i h
    have b := val_lt (ox.take i)
    rw [List.length_take, Nat.min_eq_left h] at b
    rw [e, Nat.add_mul_div_left _ _ (pow_pos i), Nat.div_eq_of_lt b, Nat.zero_add]
  · rw [List.drop_eq_nil_of_le (by omega)]
    have b := val_lt ox
    have : 4294967296 ^ xs.length ≤ 4294967296 ^ i := pow_mono (by omega)
    rw [Nat.div_eq_of_lt (by omega)]
    rfl

theorem val_drop_step (xs : List Nat) (i : Nat) : val (xs.drop i) = xs.getD i 0 + 4294967296 * val (xs.drop (i + 1)) := by
  by_cases h : i < xs.length
  · rw [drop_cons h]; rfl
  · rw [List.drop_eq_nil_of_le (by omega), List.drop_eq_nil_of_le (by omega), getD_ge (by omega)]; rfl

theorem valF_digits (v : Nat) : ∀ (m : Nat), valF (fun i => v / 4294967296 ^ i % 4294967296) m = v % 4294967296 ^ m
  | 0 => by simp [valF, Nat.mod_one]
  | m + 1 => by
    simp only [valF]
    rw [valF_digits v m, Nat.pow_succ, Nat.mod_mul]

def dv (lo hi : Nat) : Nat := lo + 4294967296 * hi
def srd (lo hi s : Nat) : Nat := dv lo hi / 2 ^ s % 4294967296
theorem srd_lt (lo hi s : Nat) : srd lo hi s < 4294967296 := by unfold srd; exact Nat.mod_lt _ (by decide)
theorem dv_int {lo hi : Nat} (h1 : lo < 4294967296) (h2 : hi < 4294967296) : bits .or .u64 ((hi : Int) * 4294967296) (lo : Int) = ((dv lo hi : Nat) : Int) := or_halves hi lo h2 h1
theorem dv_int2 {lo hi : Nat} (h1 : lo < 4294967296) (h2 : hi < 4294967296) : bits .or .u64 (lo : Int) ((hi : Int) * 4294967296) = ((dv lo hi : Nat) : Int) := by
  rw [← dv_int h1 h2]
  simp only [bits, BitVec.or_comm]
theorem srd_int (lo hi s : Nat) : ((dv lo hi : Nat) : Int) / 2 ^ s % 4294967296 = ((srd lo hi s : Nat) : Int) := by
  unfold srd
  rw [Int.natCast_emod, Int.natCast_ediv, Int.natCast_pow]
  rfl
theorem dv_lt {lo hi : Nat} (h1 : lo < 4294967296) (h2 : hi < 4294967296) : dv lo hi < 18446744073709551616 := by unfold dv; omega

def shF (xs : List Nat) (l s i : Nat) : Nat := srd (xs.getD (l + i) 0) (xs.getD (l + i + 1) 0) s

theorem shF_digit {xs : List Nat} (ox : Ok xs) {l s : Nat} (hs : s < 32) (i : Nat) : shF xs l s i = val xs / (4294967296 ^ l * 2 ^ s) / 4294967296 ^ i % 4294967296 := by
  have e1 := val_drop_step xs (l + i)
  have e2 := val_drop_step xs (l + i + 1)
  have e3 := val_drop ox (l + i)
  have hp := pow_split hs
  have hpos := (pow_s hs).1
  rw [Nat.div_div_eq_div_mul, show 4294967296 ^ l * 2 ^ s * 4294967296 ^ i = 4294967296 ^ (l + i) * 2 ^ s from by rw [Nat.pow_add, Nat.mul_assoc, Nat.mul_comm (2 ^ s), ← Nat.mul_assoc], ← Nat.div_div_eq_div_mul, ← e3, e1, e2]
  unfold shF srd dv
  generalize val (xs.drop (l + i + 1 + 1)) = r
  generalize xs.getD (l + i) 0 = a
  generalize xs.getD (l + i + 1) 0 = b
  have e4 : a + 4294967296 * (b + 4294967296 * r) = (a + 4294967296 * b) + 2 ^ s * (4294967296 * (2 ^ (32 - s) * r)) := by
    have : 2 ^ s * (4294967296 * (2 ^ (32 - s) * r)) = 4294967296 * (4294967296 * r) := by
      rw [Nat.mul_left_comm, ← Nat.mul_assoc (2 ^ s), hp]
    rw [this]; omega
  rw [e4, Nat.add_mul_div_left _ _ (by omega), Nat.add_mul_mod_self_left]

theorem shr_val {xs : List Nat} (ox : Ok xs) {n k l s : Nat} (hl : xs.length = n) (hln : l ≤ n) (hk : k / 32 = l) (hs : k % 32 = s) : valF (shF xs l s) (n - l) = val xs / 2 ^ k := by
  have hs32 : s < 32 := by omega
  rw [valF_congr (fun i _ => shF_digit ox hs32 i), valF_digits]
  have e := sh_total (v := 1) hk hs
  rw [Nat.one_mul, Nat.one_mul, Nat.mul_comm] at e
  rw [e]
  apply Nat.mod_eq_of_lt
  have b := val_lt ox
  rw [hl] at b
  rw [← e, ← Nat.div_div_eq_div_mul]
  have h1 : val xs / 4294967296 ^ l < 4294967296 ^ (n - l) := by
    rw [Nat.div_lt_iff_lt_mul (pow_pos l), ← Nat.pow_add, show n - l + l = n from by omega]
    exact b
  exact Nat.lt_of_le_of_lt (Nat.div_le_self _ _) h1

theorem make_sub (n l : Nat) (hle : l ≤ n) (h : n ≤ 70368744177600) (w : World) : (Instr.makeSlice 49 (.int .i64 ((n : Int) - (l : Int))) (.int .i64 ((n : Int) - (l : Int)))).run Tryd.prog w = .ok (.slice (some ⟨w.heap.size, 0, none⟩) (n - l) (n - l)) (w.alloc (.cells (madeCells #[.int .u32 0] (n - l)) 74)) := by
  have := make_len (n - l) (by omega) w
  rw [show ((n - l : Nat) : Int) = (n : Int) - (l : Int) from by omega] at this
  exact this

theorem sr_step {wr w : World} {m j l s : Nat} {xs : List Nat} (hf : Fn wr w.heap.size 0 m (fun i => if i < j then shF xs l s i else 0)) (hlt : j < m) (hb : Below w.heap.size w wr) :
    Fn (wr.setCell ⟨w.heap.size, j, none⟩ (.int .u32 (srd (xs.getD (l + j) 0) (xs.getD (l + j + 1) 0) s : Nat))) w.heap.size 0 m (fun i => if i < j + 1 then shF xs l s i else 0) ∧ Below w.heap.size w (wr.setCell ⟨w.heap.size, j, none⟩ (.int .u32 (srd (xs.getD (l + j) 0) (xs.getD (l + j + 1) 0) s : Nat))) := by
  refine ⟨?_, hb.setCell (Nat.le_refl _) _⟩
  have h := hf.set j (srd (xs.getD (l + j) 0) (xs.getD (l + j + 1) 0) s) hlt
  simp only [Nat.zero_add] at h
  refine h.congr ?_
  intro i hi
  by_cases e : i = j
  · simp [e, shF]
  · by_cases e2 : i < j
    · simp [e, e2, show i < j + 1 from by omega]
    · simp [e, e2, show ¬ i < j + 1 from by omega]

theorem fn_drewN {w : World} {b off n : Nat} {f : Nat → Nat} (h : Fn w b off n f) (k : Nat) : Fn (w.drewN k) b off n f := h

def Fz (w : World) (a : Option Addr) (m : Nat) : Prop := ∀ x, a = some x → ∀ i, i < m → w.frozen? ⟨x.block, x.off + i, none⟩ = false
theorem Fz.nil (w : World) (m : Nat) : Fz w none m := fun x hx => by cases hx
def NewRepF (w w' : World) (v : Nat) (e : Ending) : Prop :=
  ∃ a' m ys, e = .returned (.slice a' m m) ∧ Sl w' a' m m ys ∧ Rep v ys ∧ NewAt w.heap.size a' ∧ Below w.heap.size w w' ∧ Fz w' a' m
theorem NewRepF.rep {w w' : World} {v : Nat} {e : Ending} (h : NewRepF w w' v e) : NewRep w w' v e := by
  obtain ⟨a', m, ys, h1, h2, h3, h4, h5, _⟩ := h
  exact ⟨a', m, ys, h1, h2, h3, h4, h5⟩
theorem rep_len_leS {v j : Nat} {zs : List Nat} (h : Rep v zs) (hv : v < 4294967296 ^ j) : zs.length ≤ j := by
  rcases Nat.lt_or_ge j zs.length with k | k
  · exfalso
    have hz : zs ≠ [] := by intro e; rw [e] at k; simp at k
    have h1 := val_ge_of_norm h.norm hz
    rw [h.val] at h1
    have h2 : 4294967296 ^ j ≤ 4294967296 ^ (zs.length - 1) := pow_mono (by omega)
    omega
  · exact k

set_option maxHeartbeats 2000000 in
theorem shr_some (b off n c : Nat) (xs : List Nat) (w : World) (k l s : Nat) (hsl : Sl w (some ⟨b, off, none⟩) n c xs) (hc : Cells w b off xs) (ox : Ok xs) (hkl : (k:Int) / 32 = (l:Int)) (hks : (k:Int) % 32 = (s:Int)) (hs32 : s < 32) (hk0 : k ≤ 65536) (hln : l < n) (hn2 : n ≤ 2048) :
    Calls Tryd.prog 93 #[.slice (some ⟨b, off, none⟩) n c, .int .i64 (k : Nat)] w fun e w' => NewRepF w w' (val xs / 2 ^ k) e := by
  have hmk := fun w => make_sub n l (by omega) (by omega) w
  have hge : ¬ (n:Int) ≤ (l:Int) := by omega
  have HL := hide hsl.len
  have HT := hide (shr_val ox hsl.len (by omega) (show k / 32 = l by omega) (show k % 32 = s by omega))
  go_enter Tryd.func93, Tryd.ntmps93
  go_wp2_with fail
  try rw [hks]
  clear hkl hks hk0
  have hnl : ((n - l : Nat) : Int) = (n:Int) - (l:Int) := by omega
  go_loopw [25] (fun i wr => ∃ j : Nat, j ≤ n - l ∧ i = .int .i64 j ∧ Fn wr w.heap.size 0 (n - l) (fun i => if i < j then shF xs l s i else 0) ∧ Below w.heap.size w wr) (fun i _ => n - l - (intOf i).toNat)
  case atStart => exact ⟨0, Nat.zero_le _, rfl, by simpa using Fn.made w (n - l) _, (Below.refl _ _).alloc (Nat.le_refl _) _⟩
  case round =>
    obtain ⟨j, hj, rfl, hf, hbel⟩ := hrel
    by_cases hlt : j < n - l
    · have hlt' : (j:Int) < (n:Int) - (l:Int) := by omega
      have hb1 : (l:Int) + (j:Int) < (n:Int) := by omega
      have g0 := hc (l + j) (by rw [unhide HL]; omega)
      have g1 : wr.cell? ⟨b, off + (l + j), none⟩ = _ := (hbel.cell (World.block_lt_of_cell? _ _ g0)).trans g0
      have c1 := (hf j hlt).1
      have c2 := (hf j hlt).2
      simp only [Nat.zero_add] at c1 c2
      generalize ((if j < j then shF xs l s j else 0 : Nat) : Int) = old at c1
      have KL := fun q => limbAt_any (some ⟨b, off, none⟩) n c xs ((l:Int) + (j:Int) + 1) (wr.drewN q) ((hsl.below hbel).drewN q) (by omega)
      rw [show ((l:Int) + (j:Int) + 1).toNat = l + j + 1 from by omega] at KL
      have KL' := hide KL
      have bx := ox.getD (l + j)
      have bY := ox.getD (l + j + 1)
      have e0 := dv_int (lo := xs.getD (l + j) 0) (hi := xs.getD (l + j + 1) 0) bx bY
      have e1 := srd_int (xs.getD (l + j) 0) (xs.getD (l + j + 1) 0) s
      have b1 := dv_lt (lo := xs.getD (l + j) 0) (hi := xs.getD (l + j + 1) 0) bx bY
      have HS := hide (sr_step hf hlt hbel)
      generalize xs.getD (l + j) 0 = x at *
      generalize xs.getD (l + j + 1) 0 = y at *
      clear hf hbel g0 KL
      go_wp2_with fail
      go_quiet ((go_at_call 82; exact Calls.quiet_of_same (unhide KL' _)))
      go_wp2
      exact ⟨⟨j + 1, by omega, by go_num, fn_drewN (unhide HS).1 _, bel_drewN (unhide HS).2 _⟩, by simp [intOf]; omega⟩
    · have hjn : j = n - l := by omega
      have hf2 : Fn wr w.heap.size 0 (n - l) (shF xs l s) := hf.congr (fun i hi => by rw [hjn]; simp [hi])
      have KT := trim_any _ (n - l) (n - l) _ wr (hf2.sl (Nat.le_refl _) (by unfold maxLen; omega)) (lst_ok (fun i _ => srd_lt _ _ _))
      rw [lst_val, unhide HT] at KT
      have KT' := hide KT
      have HB := hide hbel
      have HF2 := hide hf2
      have HVL := hide (show val xs / 2 ^ k < 4294967296 ^ (n - l) from by rw [← unhide HT]; exact valF_lt (fun i _ => srd_lt _ _ _))
      have hlt' : ¬ (j:Int) < (n:Int) - (l:Int) := by omega
      clear hf hf2 KT hbel hjn
      go_wp2_with fail
      refine (unhide KT').mono ?_
      rintro e w3 ⟨a', m, zs, rfl, hs, hr, ha, rfl⟩
      go_wp2
      go_ret
      have hml : m ≤ n - l := by rw [← hs.len]; exact rep_len_leS hr (unhide HVL)
      refine ⟨a', m, zs, rfl, hs, hr, ?_, unhide HB, ?_⟩
      · intro x hx
        rcases ha with rfl | rfl
        · cases hx; exact Nat.le_refl _
        · cases hx
      · intro x hx i hi
        rcases ha with rfl | rfl
        · cases hx; exact (unhide HF2 i (by omega)).2
        · cases hx

set_option maxHeartbeats 400000 in
theorem shr_out (a : Option Addr) (n c k l s : Nat) (w : World) (hk0 : k ≤ 65536) (hl0 : l ≤ 2048) (hs0 : s < 32) (hkl : (k:Int) / 32 = (l:Int)) (hks : (k:Int) % 32 = (s:Int)) (hge : (n:Int) ≤ (l:Int)) :
    Calls Tryd.prog 93 #[.slice a n c, .int .i64 (k : Nat)] w fun e w' => e = .returned (.slice none 0 0) ∧ w' = w := by
  go_enter Tryd.func93, Tryd.ntmps93
  go_wp2
  go_ret
  exact ⟨rfl, rfl⟩

theorem shr_zero {xs : List Nat} (ox : Ok xs) {n k l : Nat} (hl : xs.length = n) (hk : k / 32 = l) (h : n ≤ l) : val xs / 2 ^ k = 0 := by
  apply Nat.div_eq_of_lt
  have b := val_lt ox
  have e := sh_total (v := 1) hk (rfl : k % 32 = k % 32)
  rw [Nat.one_mul, Nat.one_mul] at e
  have h1 : 4294967296 ^ xs.length ≤ 4294967296 ^ l := pow_mono (by omega)
  have h2 : 4294967296 ^ l ≤ 2 ^ (k % 32) * 4294967296 ^ l := Nat.le_mul_of_pos_left _ (Nat.pow_pos (by decide))
  omega

theorem shr_anyF (a : Option Addr) (n c : Nat) (xs : List Nat) (w : World) (k : Nat) (h : Sl w a n c xs) (ox : Ok xs) (hn : n ≤ 2048) (hk : k ≤ 65536) :
    Calls Tryd.prog 93 #[.slice a n c, .int .i64 (k : Nat)] w fun e w' => NewRepF w w' (val xs / 2 ^ k) e := by
  by_cases h0 : n ≤ k / 32
  · refine (shr_out a n c k (k / 32) (k % 32) w hk (by omega) (by omega) (by omega) (by omega) (by omega)).mono ?_
    rintro e w' ⟨rfl, rfl⟩
    refine ⟨none, 0, [], rfl, sl_nil _, ⟨Ok.nil, .inl rfl, ?_⟩, newAt_nil _, Below.refl _ _, Fz.nil _ _⟩
    rw [shr_zero ox h.len rfl h0]; rfl
  · have hx : xs ≠ [] := by intro e; have := h.len; rw [e] at this; simp at this; omega
    rcases h.cells with e | ⟨b, off, rfl, hc⟩
    · exact absurd e hx
    · exact shr_some b off n c xs w k (k / 32) (k % 32) h hc ox (by omega) (by omega) (by omega) hk (by omega) hn

structure SrR (wr w : World) (xs : List Nat) (l s : Nat) (v : Value) (j : Nat) : Prop where
  own : wr.ownsRow w.heap.size 74 1 v j (vals (lst (shF xs l s) j))
  bel : Below w.heap.size w wr

theorem SrR.step {wr w w1 : World} {xs : List Nat} {l s : Nat} {v v' : Value} {j : Nat} {o : Obj} (h : SrR wr w xs l s v j)
    (hown : w1.ownsRow w.heap.size 74 1 v' (j + 1) (vals (lst (shF xs l s) j) ++ [.int .u32 (srd (xs.getD (l + j) 0) (xs.getD (l + j + 1) 0) s : Nat)])) (hg : (wr.alloc o).grownBy w1 v.ownBlock) : SrR w1 w xs l s v' (j + 1) := by
  have hs := h.bel.size
  refine ⟨?_, Below.grown (h.bel.alloc (by omega) o) hg (by simp; omega) (fun k hk => (own_ge h.own k hk).1)⟩
  have e : vals (lst (shF xs l s) j) ++ [.int .u32 (srd (xs.getD (l + j) 0) (xs.getD (l + j + 1) 0) s : Nat)] = vals (lst (shF xs l s) (j + 1)) := by
    simp [vals, lst, List.range_succ, shF]
  rw [← e]; exact hown
end Go.Proofs.YtiadccaaoenccaaDoor

namespace Go.Proofs.YtiadccaaoenccaaDoor
open Go.RowKit Go.Deep
set_option linter.unusedVariables false

end Go.Proofs.YtiadccaaoenccaaDoor
namespace Go.Proofs.YtiadccaaoenccaaDoor
open Go.RowKit Go.Deep
set_option linter.unusedVariables false
theorem and_m2 (x y : Nat) : (x &&& y) % 2 = (x % 2) * (y % 2) := by
  have h := @Nat.and_mod_two_eq_one x y
  rcases Nat.mod_two_eq_zero_or_one x with a | a <;> rcases Nat.mod_two_eq_zero_or_one y with b | b <;> rw [a, b] at h ⊢ <;> omega
theorem and_not_add : ∀ (f x y : Nat), x < 2 ^ f → y < 2 ^ f → (x &&& y) + (x &&& (2 ^ f - 1 - y)) = x
  | 0, x, y, hx, hy => by simp at hx hy; subst hx; subst hy; rfl
  | f + 1, x, y, hx, hy => by
    have hp : 2 ^ (f + 1) = 2 * 2 ^ f := by rw [Nat.pow_succ, Nat.mul_comm]
    have h0 := Nat.two_pow_pos f
    rw [hp] at hx hy ⊢
    have h := and_not_add f (x / 2) (y / 2) (by omega) (by omega)
    have e1 : (2 * 2 ^ f - 1 - y) / 2 = 2 ^ f - 1 - y / 2 := by omega
    have e2 : (2 * 2 ^ f - 1 - y) % 2 = 1 - y % 2 := by omega
    rw [← e1, ← Nat.and_div_two, ← Nat.and_div_two] at h
    have a := and_m2 x y
    have b := and_m2 x (2 * 2 ^ f - 1 - y)
    rw [e2] at b
    generalize 2 * 2 ^ f - 1 - y = z at *
    have c : (x % 2) * (y % 2) + (x % 2) * (1 - y % 2) = x % 2 := by
      rcases Nat.mod_two_eq_zero_or_one y with d | d <;> rw [d] <;> omega
    omega
theorem valF_digit {f : Nat → Nat} {n l : Nat} (ok : ∀ i, i < n → f i < 4294967296) (hl : l < n) : f l = valF f n / 4294967296 ^ l % 4294967296 := by
  have := val_drop (lst_ok ok) l
  rw [lst_val] at this
  rw [← this, val_drop_step, lst_getD f n l hl]
  have := ok l hl
  omega
theorem tz_and : ∀ (f x : Nat), 0 < x → x < 2 ^ f → x &&& (2 ^ f - x) = 2 ^ Lib.ntzAux f x
  | 0, x, h0, h => by simp at h; omega
  | f + 1, x, h0, h => by
    have hp : 2 ^ (f + 1) = 2 * 2 ^ f := by rw [Nat.pow_succ, Nat.mul_comm]
    have hq := Nat.two_pow_pos f
    rw [hp] at h ⊢
    have hd := Nat.div_add_mod (x &&& (2 * 2 ^ f - x)) 2
    have hm := and_m2 x (2 * 2 ^ f - x)
    rw [Nat.and_div_two] at hd
    simp only [Lib.ntzAux]
    rcases Nat.mod_two_eq_zero_or_one x with e | e
    · rw [if_neg (by omega)]
      have e1 : (2 * 2 ^ f - x) / 2 = 2 ^ f - x / 2 := by omega
      rw [e1, tz_and f (x / 2) (by omega) (by omega)] at hd
      rw [e, Nat.zero_mul] at hm
      rw [show 1 + Lib.ntzAux f (x / 2) = Lib.ntzAux f (x / 2) + 1 from by omega, Nat.pow_succ]
      omega
    · rw [if_pos e]
      have e1 : (2 * 2 ^ f - x) / 2 = 2 ^ f - 1 - x / 2 := by omega
      have e2 : (2 * 2 ^ f - x) % 2 = 1 := by omega
      have e3 := and_not_add f (x / 2) (x / 2) (by omega) (by omega)
      rw [Nat.and_self] at e3
      rw [e1] at hd
      rw [e, e2] at hm
      simp only [Nat.pow_zero]
      omega

theorem tz_lt : ∀ (f x : Nat), 0 < x → x < 2 ^ f → Lib.ntzAux f x < f
  | 0, x, h0, h => by simp at h; omega
  | f + 1, x, h0, h => by
    rw [Nat.pow_succ] at h
    simp only [Lib.ntzAux]
    split
    · omega
    · have := tz_lt f (x / 2) (by omega) (by omega)
      omega

theorem tz_bit : ∀ (f x : Nat), 0 < x → x < 2 ^ f → x / 2 ^ Lib.ntzAux f x % 2 = 1 ∧ ∀ s, s < Lib.ntzAux f x → x / 2 ^ s % 2 = 0
  | 0, x, h0, h => by simp at h; omega
  | f + 1, x, h0, h => by
    rw [Nat.pow_succ] at h
    simp only [Lib.ntzAux]
    split
    · rename_i e
      exact ⟨by simpa using e, fun s hs => by omega⟩
    · rename_i e
      have := tz_bit f (x / 2) (by omega) (by omega)
      refine ⟨?_, ?_⟩
      · rw [show 1 + Lib.ntzAux f (x / 2) = Lib.ntzAux f (x / 2) + 1 from by omega, Nat.pow_succ, Nat.mul_comm, ← Nat.div_div_eq_div_mul]
        exact this.1
      · intro s hs
        cases s with
        | zero => simp; omega
        | succ s =>
          rw [Nat.pow_succ, Nat.mul_comm, ← Nat.div_div_eq_div_mul]
          exact this.2 s (by omega)

theorem p32 : (2:Nat) ^ 32 = 4294967296 := by decide
theorem bl_lt : ∀ (n x : Nat), x ≤ n → x < 18446744073709551616 → x < 2 ^ Lib.bitLen x
  | 0, x, h, hx => by
    have e : x = 0 := by omega
    subst e
    decide +kernel
  | n + 1, x, h, hx => by
    by_cases h0 : x = 0
    · subst h0; decide +kernel
    · have ih := bl_lt n (x / 2) (by omega) (by omega)
      rw [Lib.bitLen_half x h0 hx, Nat.add_comm 1, Nat.pow_succ]
      omega

theorem take_lt_pow {xs : List Nat} (ox : Ok xs) (t : Nat) (h : t ≤ xs.length) : val (xs.take t) < 4294967296 ^ t := by
  have := val_lt (ox.take t)
  rwa [List.length_take, Nat.min_eq_left h] at this

def bitsN (xs : List Nat) : Nat := if xs = [] then 0 else bitsL xs
def bitN (v i : Nat) : Nat := v / 2 ^ i % 2
theorem bitN_lt (v i : Nat) : bitN v i < 2 := Nat.mod_lt _ (by decide)

theorem and_one (y : Nat) (hy : y < 4294967296) : bits .and .u32 (y : Int) 1 = ((y % 2 : Nat) : Int) := by
  have := u32_and_nat y 1 hy (by decide)
  rw [Nat.and_one_is_mod] at this
  exact this

theorem shr_lt {x s : Nat} (hx : x < 4294967296) : x / 2 ^ s < 4294967296 := Nat.lt_of_le_of_lt (Nat.div_le_self _ _) hx
end Go.Proofs.YtiadccaaoenccaaDoor
