/-
  Lists of bytes; natural.Bytes: contract.
-/
import Derived.Test.YtlecjjcpidjmhaaNBits
import Derived.Test.YtlecjjcpidjmhaaShr
namespace Go.Proofs.Ytlecjjcpidjmhaa
open Go.RowKit Go.Deep
set_option linter.unusedVariables false

/-- Bytes at a place that may be written. -/
def FnB (w : World) (b off n : Nat) (f : Nat → Nat) : Prop :=
  ∀ i, i < n → w.cell? ⟨b, off + i, none⟩ = some (.int .u8 (f i : Nat)) ∧ w.frozen? ⟨b, off + i, none⟩ = false
theorem FnB.set {w : World} {b off n : Nat} {f : Nat → Nat} (h : FnB w b off n f) (k v : Nat) (hk : k < n) :
    FnB (w.setCell ⟨b, off + k, none⟩ (.int .u8 (v : Nat))) b off n (fun i => if i = k then v else f i) := by
  intro i hi
  refine ⟨?_, by rw [World.frozen?_setCell]; exact (h i hi).2⟩
  by_cases e : i = k
  · subst e
    rw [World.cell?_setCell_same _ _ _ (h i hi).1]
    simp
  · rw [World.cell?_setCell_other _ _ _ _ (by intro h; injection h with h1 h2; omega)]
    simp [e, (h i hi).1]
theorem FnB.congr {w : World} {b off n : Nat} {f g : Nat → Nat} (h : FnB w b off n f) (he : ∀ i, i < n → f i = g i) : FnB w b off n g := fun i hi => by
  have := h i hi
  rwa [he i hi] at this
theorem FnB.made (w : World) (n : Nat) (e : TypeId) : FnB (w.alloc (.cells (madeCells #[.int .u8 0] n) e)) w.heap.size 0 n (fun _ => 0) := by
  intro i hi
  refine ⟨?_, by simp⟩
  simp [madeCells, hi, Nat.mod_one]

/-- Byte i of a number. -/
def byteN (v i : Nat) : Nat := v / 256 ^ i % 256
theorem byteN_lt (v i : Nat) : byteN v i < 256 := Nat.mod_lt _ (by decide)
theorem byte_limb {xs : List Nat} (ox : Ok xs) {i l s : Nat} (hl : i / 4 = l) (hs : i % 4 = s) : byteN (val xs) i = xs.getD l 0 / 2 ^ (8 * s) % 256 := by
  have hi : i = 4 * l + s := by omega
  have e3 := val_drop ox l
  have e1 := val_drop_step xs l
  unfold byteN
  have p1 : (256:Nat) ^ i = 4294967296 ^ l * 2 ^ (8 * s) := by
    rw [hi, show (256:Nat) = 2 ^ 8 from rfl, ← Nat.pow_mul, pow_limb, ← Nat.pow_add]
    congr 1
    omega
  rw [p1, ← Nat.div_div_eq_div_mul, ← e3, e1]
  generalize xs.getD l 0 = x
  generalize val (xs.drop (l + 1)) = r
  have e4 : x + 4294967296 * r = x + 2 ^ (8 * s) * (256 * (2 ^ (24 - 8 * s) * r)) := by
    have : 2 ^ (8 * s) * (256 * (2 ^ (24 - 8 * s) * r)) = 4294967296 * r := by
      rw [show (256:Nat) = 2 ^ 8 from rfl, ← Nat.mul_assoc, ← Nat.mul_assoc, ← Nat.pow_add, ← Nat.pow_add, show 8 * s + 8 + (24 - 8 * s) = 32 from by omega]
    omega
  rw [e4, Nat.add_mul_div_left _ _ (Nat.two_pow_pos _), Nat.add_mul_mod_self_left]

/-- How many bytes a number has. -/
def bytesN (xs : List Nat) : Nat := (bitsN xs + 7) / 8

theorem Try.info_u8 : (Try.prog.info? 5).map (fun i => (i.zero, i.size, i.bytes)) = some (some (.int .u8 0), 1, 1) := by kernel_rfl
theorem make_b (n : Nat) (hn : n ≤ 1000000) (w : World) : (Instr.makeSlice 53 (.int .i64 (n : Int)) (.int .i64 (n : Int))).run Try.prog w = .ok (.slice (some ⟨w.heap.size, 0, none⟩) n n) (w.alloc (.cells (madeCells #[.int .u8 0] n) 5)) :=
  run_make_row' (P := Try.prog) 53 5 (.int .u8 0) 1 Try.underlying53 Try.info_u8 rfl .i64 .i64 n (by omega) (by omega) w

def BsPost (w : World) (xs : List Nat) (e : Ending) (w' : World) : Prop :=
  ∃ b : Nat, w.heap.size ≤ b ∧ e = .returned (.tuple #[.slice (some ⟨b, 0, none⟩) (bytesN xs) (bytesN xs), .int .i64 0]) ∧ FnB w' b 0 (bytesN xs) (fun p => byteN (val xs) (bytesN xs - 1 - p)) ∧ Below w.heap.size w w'

set_option maxHeartbeats 4000000 in
/-- natural.Bytes. -/
theorem nbytes_ok (a : Option Addr) (n c : Nat) (xs : List Nat) (w : World) (h : Sl w a n c xs) (ox : Ok xs) (m : MayL xs = true) :
    Calls Try.prog 18 #[.slice a n c] w fun e w' => BsPost w xs e w' := by
  have KM := may_any a n c xs w h
  rw [m] at KM
  have KM' := hide KM
  have hn : n ≤ 2048 := by have := h.len; have := MayL.len m; omega
  have KB := hide (bitLen_all a n c xs w h ox (by omega))
  have hL : bytesN xs ≤ 4 * n := by
    unfold bytesN
    by_cases hx : xs = []
    · rw [hx]; simp [bitsN]
    · have hh := val_ge_bits ox (MayL.norm m) hx
      have e : bitsN xs = bitsL xs := by unfold bitsN; rw [if_neg hx]
      have h1 := val_lt ox
      rw [h.len, pow_limb] at h1
      have h2 : 2 ^ (bitsL xs - 1) < 2 ^ (32 * n) := Nat.lt_of_le_of_lt hh.2 h1
      have := (Nat.pow_lt_pow_iff_right (by decide : 1 < 2)).1 h2
      omega
  have t1 : ((bitsN xs : Int) + 7).tdiv 8 = (bytesN xs : Int) := by rw [Int.tdiv_eq_ediv_of_nonneg (by omega)]; unfold bytesN; omega
  have t2 : ((bitsN xs : Int) + 7) / 8 = (bytesN xs : Int) := by unfold bytesN; omega
  have hbn := bitsN_le ox (MayL.len m)
  have hmk := make_b (bytesN xs) (by omega)
  have H := hide h
  have HL := hide h.len
  unfold BsPost
  generalize bytesN xs = L at *
  generalize bitsN xs = b at *
  clear KM h m
  go_enter Try.func18, Try.ntmps18
  go_wp2_with fail
  refine (unhide KM').mono ?_
  rintro e w' ⟨rfl, hw⟩
  obtain rfl := hw.symm
  clear hw KM'
  go_wp2_with fail
  refine (unhide KB).mono ?_
  rintro e w' ⟨rfl, hw⟩
  obtain rfl := hw.symm
  clear hw KB
  go_wp2_with fail
  go_loopw [16] (fun iv wr => ∃ k : Nat, k ≤ L ∧ iv = .int .i64 (k : Nat) ∧ FnB wr w.heap.size 0 L (fun p => if L - 1 - p < k then byteN (val xs) (L - 1 - p) else 0) ∧ Below w.heap.size w wr) (fun iv _ => L - (intOf iv).toNat)
  case atStart => exact ⟨0, Nat.zero_le _, rfl, (FnB.made w L _).congr (fun i hi => by simp), (Below.refl _ _).alloc (Nat.le_refl _) _⟩
  case round =>
    obtain ⟨k, hk, rfl, hF, hB⟩ := hrel
    by_cases hlt : k < L
    · have hlt' : (k:Int) < (L:Int) := by omega
      obtain ⟨l, hl⟩ : ∃ l, k / 4 = l := ⟨_, rfl⟩
      obtain ⟨s, hs⟩ : ∃ s, k % 4 = s := ⟨_, rfl⟩
      obtain ⟨q, hq⟩ : ∃ q, L - 1 - k = q := ⟨_, rfl⟩
      have hln : l < n := by omega
      have hln' : (l:Int) < (n:Int) := by omega
      have hqL : q < L := by omega
      have hqL' : (q:Int) < (L:Int) := by omega
      have a1 : (k:Int).tdiv 4 = (l:Int) := by rw [Int.tdiv_eq_ediv_of_nonneg (by omega)]; omega
      have a2 : (k:Int) / 4 = (l:Int) := by omega
      have a3 : (k:Int).tmod 4 = (s:Int) := by rw [Int.tmod_eq_emod_of_nonneg (by omega)]; omega
      have a4 : (k:Int) % 4 = (s:Int) := by omega
      have a5 : (L:Int) - 1 - (k:Int) = (q:Int) := by omega
      have hxne : xs ≠ [] := by intro e; have := unhide HL; rw [e] at this; simp at this; omega
      obtain ⟨b1, o1, rfl, hx⟩ := (unhide H).cells.resolve_left hxne
      have g0 := hx l (by rw [unhide HL]; exact hln)
      have g1 : wr.cell? ⟨b1, o1 + l, none⟩ = _ := (hB.cell (World.block_lt_of_cell? _ _ g0)).trans g0
      have c1 := (hF q hqL).1
      have c2 := (hF q hqL).2
      rw [Nat.zero_add] at c1 c2
      have eB := byte_limb ox hl hs
      have hS := (hF.set q (byteN (val xs) k) hqL).congr (g := fun p => if L - 1 - p < k + 1 then byteN (val xs) (L - 1 - p) else 0) (fun i hi => by
        by_cases e : i = q
        · rw [if_pos e, if_pos (by omega), show L - 1 - i = k from by omega]
        · rw [if_neg e]
          by_cases l : L - 1 - i < k
          · rw [if_pos l, if_pos (by omega)]
          · rw [if_neg l, if_neg (by omega)])
      rw [Nat.zero_add, eB] at hS
      have bx := ox.getD l
      have hU := (Upd.refl w.heap.size 0 L wr).set q (.int .u8 (xs.getD l 0 / 2 ^ (8 * s) % 256 : Nat)) (by omega) hqL
      have HS := hide (And.intro hS (hB.trans (hU.below (Nat.le_refl _) hB.size)))
      have b8 : (8:Int) * (s:Int) = ((8 * s : Nat) : Int) := by omega
      generalize xs.getD l 0 = x at *
      have e1 : (x:Int) / 2 ^ (8 * s) = ((x / 2 ^ (8 * s) : Nat) : Int) := by rw [Int.natCast_ediv, Int.natCast_pow]; rfl
      have hy : x / 2 ^ (8 * s) < 4294967296 := Nat.lt_of_le_of_lt (Nat.div_le_self _ _) bx
      have hs24 : 8 * s ≤ 24 := by omega
      generalize 8 * s = t at *
      generalize x / 2 ^ t = y at *
      have e2 : (y:Int) % 256 = ((y % 256 : Nat) : Int) := by omega
      generalize y % 256 = z at *
      generalize ((if L - 1 - q < k then byteN (val xs) (L - 1 - q) else 0 : Nat) : Int) = old at c1
      clear hF hB hS hU hx hxne g0 eB hl hs hq
      go_wp2_with fail
      exact ⟨⟨k + 1, by omega, by go_num, (unhide HS).1, (unhide HS).2⟩, by simp [intOf]; omega⟩
    · have hkL : k = L := by omega
      subst hkL
      have hlt' : ¬ (k:Int) < (k:Int) := by omega
      have HN := hide (And.intro (hF.congr (g := fun p => byteN (val xs) (k - 1 - p)) (fun i hi => by rw [if_pos (by omega)])) hB)
      clear hF hB
      go_wp2_with fail
      go_ret2
      exact ⟨w.heap.size, Nat.le_refl _, rfl, (unhide HN).1, (unhide HN).2⟩
end Go.Proofs.Ytlecjjcpidjmhaa
