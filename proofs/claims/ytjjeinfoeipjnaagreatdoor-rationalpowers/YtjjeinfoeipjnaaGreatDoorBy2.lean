/-
  rational.Add, Sub: contracts.
-/
import Derived.Test.YtjjeinfoeipjnaaGreatDoorWip
import Derived.Test.YtjjeinfoeipjnaaGreatDoorWii
import Derived.Test.YtjjeinfoeipjnaaGreatDoorWij
import Derived.Test.YtjjeinfoeipjnaaGreatDoorWiq
import Derived.Test.YtjjeinfoeipjnaaGreatDoorRd1
import Derived.Test.YtjjeinfoeipjnaaGreatDoorShr
import Derived.Test.YtjjeinfoeipjnaaGreatDoorMul
namespace Go.Proofs.YtjjeinfoeipjnaaGreatDoor
open Go.RowKit Go.Deep
set_option linter.unusedVariables false

/-- What Add answers. -/
def AddF (g1 : Bool) (x1 y1 : List Nat) (g2 : Bool) (x2 y2 : List Nat) : (Bool × List Nat × List Nat) × Int :=
  if MayR g1 x1 y1 && MayR g2 x2 y2 then (if bigN (adN g1 x1 y1 g2 x2 y2) || bigN (adD g1 x1 y1 g2 x2 y2) then ((false, [], []), 2) else (((adS g1 x1 y1 g2 x2 y2).2 && decide (adN g1 x1 y1 g2 x2 y2 ≠ 0), limbs (adN g1 x1 y1 g2 x2 y2), limbs (adD g1 x1 y1 g2 x2 y2)), 0)) else ((false, [], []), 40)
/-- rational.Add. -/
theorem ratAdd_any (g1 g2 : Bool) (a1 b1 a2 b2 : Option Addr) (n1 c1 m1 d1 n2 c2 m2 d2 : Nat) (x1 y1 x2 y2 : List Nat) (w : World) (hx1 : Sl w a1 n1 c1 x1) (hy1 : Sl w b1 m1 d1 y1) (hx2 : Sl w a2 n2 c2 x2) (hy2 : Sl w b2 m2 d2 y2) (ox1 : Ok x1) (oy1 : Ok y1) (ox2 : Ok x2) (oy2 : Ok y2) (hT : Tab64 w) :
    Calls Tryz.prog 23 #[ratV g1 a1 n1 c1 b1 m1 d1, ratV g2 a2 n2 c2 b2 m2 d2] w fun e w' => ResR w w' (AddF g1 x1 y1 g2 x2 y2).1.1 (AddF g1 x1 y1 g2 x2 y2).1.2.1 (AddF g1 x1 y1 g2 x2 y2).1.2.2 (AddF g1 x1 y1 g2 x2 y2).2 e := by
  refine ratAdd_face g1 g2 a1 b1 a2 b2 n1 c1 m1 d1 n2 c2 m2 d2 x1 y1 x2 y2 w hx1 hy1 hx2 hy2 ox1 oy1 ox2 oy2 hT _ _ _ _ (fun hm W hb => ?_) (fun hm => ?_)
  · have h12 : MayR g1 x1 y1 = true ∧ MayR g2 x2 y2 = true := by simpa using hm
    obtain ⟨ka1, kb1, e1, _, _⟩ := MayR.parts h12.1
    obtain ⟨ka2, kb2, e2, _, _⟩ := MayR.parts h12.2
    refine (ratadd_any g1 g2 a1 b1 a2 b2 n1 c1 m1 d1 n2 c2 m2 d2 x1 y1 x2 y2 W (hx1.below hb) (hy1.below hb) (hx2.below hb) (hy2.below hb) ox1 oy1 ox2 oy2 ka1 kb1 ka2 kb2 e1 e2 (hT.below hb) (by_any W)).mono (fun e w' h => ?_)
    unfold MuPost at h
    unfold AddF
    rw [if_pos hm]
    split at h
    · rename_i hbig
      rw [if_pos hbig]
      exact h
    · rename_i hbig
      rw [if_neg hbig]
      exact h
  · unfold AddF
    rw [hm]
    exact ⟨rfl, rfl, rfl, rfl⟩

/-- What Sub answers. -/
def SubF (g1 : Bool) (x1 y1 : List Nat) (g2 : Bool) (x2 y2 : List Nat) : (Bool × List Nat × List Nat) × Int :=
  if MayR g1 x1 y1 && MayR g2 x2 y2 then (if bigN (adN g1 x1 y1 (!g2) x2 y2) || bigN (adD g1 x1 y1 (!g2) x2 y2) then ((false, [], []), 2) else (((adS g1 x1 y1 (!g2) x2 y2).2 && decide (adN g1 x1 y1 (!g2) x2 y2 ≠ 0), limbs (adN g1 x1 y1 (!g2) x2 y2), limbs (adD g1 x1 y1 (!g2) x2 y2)), 0)) else ((false, [], []), 40)
/-- rational.Sub. -/
theorem ratSub_any (g1 g2 : Bool) (a1 b1 a2 b2 : Option Addr) (n1 c1 m1 d1 n2 c2 m2 d2 : Nat) (x1 y1 x2 y2 : List Nat) (w : World) (hx1 : Sl w a1 n1 c1 x1) (hy1 : Sl w b1 m1 d1 y1) (hx2 : Sl w a2 n2 c2 x2) (hy2 : Sl w b2 m2 d2 y2) (ox1 : Ok x1) (oy1 : Ok y1) (ox2 : Ok x2) (oy2 : Ok y2) (hT : Tab64 w) :
    Calls Tryz.prog 16 #[ratV g1 a1 n1 c1 b1 m1 d1, ratV g2 a2 n2 c2 b2 m2 d2] w fun e w' => ResR w w' (SubF g1 x1 y1 g2 x2 y2).1.1 (SubF g1 x1 y1 g2 x2 y2).1.2.1 (SubF g1 x1 y1 g2 x2 y2).1.2.2 (SubF g1 x1 y1 g2 x2 y2).2 e := by
  refine ratSub_face g1 g2 a1 b1 a2 b2 n1 c1 m1 d1 n2 c2 m2 d2 x1 y1 x2 y2 w hx1 hy1 hx2 hy2 ox1 oy1 ox2 oy2 hT _ _ _ _ (fun hm W hb => ?_) (fun hm => ?_)
  · have h12 : MayR g1 x1 y1 = true ∧ MayR g2 x2 y2 = true := by simpa using hm
    obtain ⟨ka1, kb1, e1, _, _⟩ := MayR.parts h12.1
    obtain ⟨ka2, kb2, e2, _, _⟩ := MayR.parts h12.2
    refine ratsubtract_any g1 g2 a1 b1 a2 b2 n1 c1 m1 d1 n2 c2 m2 d2 W _ _ _ _ (fun W2 hb2 => ?_)
    have hb3 := hb.trans (hb2.mono hb.size)
    refine (ratadd_any g1 (!g2) a1 b1 a2 b2 n1 c1 m1 d1 n2 c2 m2 d2 x1 y1 x2 y2 W2 (hx1.below hb3) (hy1.below hb3) (hx2.below hb3) (hy2.below hb3) ox1 oy1 ox2 oy2 ka1 kb1 ka2 kb2 e1 e2 (hT.below hb3) (by_any W2)).mono (fun e w' h => ?_)
    unfold MuPost at h
    unfold SubF
    rw [if_pos hm]
    split at h
    · rename_i hbig
      rw [if_pos hbig]
      exact h
    · rename_i hbig
      rw [if_neg hbig]
      exact h
  · unfold SubF
    rw [hm]
    exact ⟨rfl, rfl, rfl, rfl⟩

/-- Sub and Add, where they answer: lowest terms of the difference, of the sum. -/
theorem addF_ok {g1 g2 : Bool} {x1 y1 x2 y2 : List Nat} (h1 : MayR g1 x1 y1 = true) (h2 : MayR g2 x2 y2 = true) (h0 : (AddF g1 x1 y1 g2 x2 y2).2 = 0) :
    ∃ g N D, AddF g1 x1 y1 g2 x2 y2 = ((g, limbs N, limbs D), 0) ∧ MayR g (limbs N) (limbs D) = true ∧ 0 < D ∧ nI g N * ((val y1 : Int) * (val y2 : Int)) = (nI g1 (val x1) * (val y2 : Int) + nI g2 (val x2) * (val y1 : Int)) * (D : Int) := by
  unfold AddF at h0 ⊢
  rw [h1, h2] at h0 ⊢
  simp only [Bool.and_self, if_true] at h0 ⊢
  split at h0
  · simp at h0
  · rename_i hb
    rw [if_neg hb]
    have hb' : bigN (adN g1 x1 y1 g2 x2 y2) = false ∧ bigN (adD g1 x1 y1 g2 x2 y2) = false := by simpa using hb
    obtain ⟨m, e⟩ := addR_may (MayR.parts h1).2.2.2.2 (MayR.parts h2).2.2.2.2 (mayR_pos h1) (mayR_pos h2) hb'.1 hb'.2
    exact ⟨_, _, _, rfl, m, by have := mayR_pos m; rwa [(limbs_rep _).val] at this, e⟩
theorem subF_ok {g1 g2 : Bool} {x1 y1 x2 y2 : List Nat} (h1 : MayR g1 x1 y1 = true) (h2 : MayR g2 x2 y2 = true) (h0 : (SubF g1 x1 y1 g2 x2 y2).2 = 0) :
    ∃ g N D, SubF g1 x1 y1 g2 x2 y2 = ((g, limbs N, limbs D), 0) ∧ MayR g (limbs N) (limbs D) = true ∧ 0 < D ∧ nI g N * ((val y1 : Int) * (val y2 : Int)) = (nI g1 (val x1) * (val y2 : Int) + -nI g2 (val x2) * (val y1 : Int)) * (D : Int) := by
  unfold SubF at h0 ⊢
  rw [h1, h2] at h0 ⊢
  simp only [Bool.and_self, if_true] at h0 ⊢
  split at h0
  · simp at h0
  · rename_i hb
    rw [if_neg hb]
    have hb' : bigN (adN g1 x1 y1 (!g2) x2 y2) = false ∧ bigN (adD g1 x1 y1 (!g2) x2 y2) = false := by simpa using hb
    obtain ⟨m, e⟩ := addR_may (MayR.parts h1).2.2.2.2 (MayR.parts h2).2.2.2.2 (mayR_pos h1) (mayR_pos h2) hb'.1 hb'.2
    have hn : nI (!g2) (val x2) = -nI g2 (val x2) := by cases g2 <;> simp [nI]
    rw [hn] at e
    exact ⟨_, _, _, rfl, m, by have := mayR_pos m; rwa [(limbs_rep _).val] at this, e⟩
theorem mulF_ok {g1 g2 : Bool} {x1 y1 x2 y2 : List Nat} (h1 : MayR g1 x1 y1 = true) (h2 : MayR g2 x2 y2 = true) (h0 : (MulF g1 x1 y1 g2 x2 y2).2 = 0) :
    ∃ g N D, MulF g1 x1 y1 g2 x2 y2 = ((g, limbs N, limbs D), 0) ∧ MayR g (limbs N) (limbs D) = true ∧ 0 < D ∧ nI g N * ((val y1 : Int) * (val y2 : Int)) = nI g1 (val x1) * nI g2 (val x2) * (D : Int) := by
  unfold MulF at h0 ⊢
  rw [h1, h2] at h0 ⊢
  simp only [Bool.and_self, if_true] at h0 ⊢
  split at h0
  · simp at h0
  · rename_i hb
    rw [if_neg hb]
    have hb' : bigN (mulN x1 y1 x2 y2) = false ∧ bigN (mulD x1 y1 x2 y2) = false := by simpa using hb
    obtain ⟨m, e⟩ := mulR_may h1 h2 hb'.1 hb'.2
    exact ⟨_, _, _, rfl, m, by have := mayR_pos m; rwa [(limbs_rep _).val] at this, e⟩
end Go.Proofs.YtjjeinfoeipjnaaGreatDoor

namespace Go.Proofs.YtjjeinfoeipjnaaGreatDoor
open Go.RowKit Go.Deep
set_option linter.unusedVariables false

/-- Bytes at a place that may be written. -/
def FnB (w : World) (b off n : Nat) (f : Nat → Nat) : Prop :=
  ∀ i, i < n → w.cell? ⟨b, off + i, none⟩ = some (.int .u8 (f i : Nat)) ∧ w.frozen? ⟨b, off + i, none⟩ = false
theorem FnB.set {w : World} {b off n : Nat} {f : Nat → Nat} (h : FnB w b off n f) (k v : Nat) (hk : k < n) :
    FnB (w.setCell ⟨b, off + k, none⟩ (.int .u8 (v : Nat))) b off n (fun i => if i = k then v else f i) := by
  intro i hi
  refine ⟨?_, by rw [World.frozen?_setCell]; exact (h i hi).2⟩
  by_cases e : i = k
  · subst e
    rw [World.cell?_setCell_same _ _ _ (h i hi).1]
    simp
  · rw [World.cell?_setCell_other _ _ _ _ (by intro h; injection h with h1 h2; omega)]
    simp [e, (h i hi).1]
theorem FnB.congr {w : World} {b off n : Nat} {f g : Nat → Nat} (h : FnB w b off n f) (he : ∀ i, i < n → f i = g i) : FnB w b off n g := fun i hi => by
  have := h i hi
  rwa [he i hi] at this
theorem FnB.made (w : World) (n : Nat) (e : TypeId) : FnB (w.alloc (.cells (madeCells #[.int .u8 0] n) e)) w.heap.size 0 n (fun _ => 0) := by
  intro i hi
  refine ⟨?_, by simp⟩
  simp [madeCells, hi, Nat.mod_one]

/-- Byte i of a number. -/
def byteN (v i : Nat) : Nat := v / 256 ^ i % 256
theorem byteN_lt (v i : Nat) : byteN v i < 256 := Nat.mod_lt _ (by decide)
theorem byte_limb {xs : List Nat} (ox : Ok xs) {i l s : Nat} (hl : i / 4 = l) (hs : i % 4 = s) : byteN (val xs) i = xs.getD l 0 / 2 ^ (8 * s) % 256 := by
  have hi : i = 4 * l + s := by omega
  have e3 := val_drop ox l
  have e1 := val_drop_step xs l
  unfold byteN
  have p1 : (256:Nat) ^ i = 4294967296 ^ l * 2 ^ (8 * s) := by
    rw [hi, show (256:Nat) = 2 ^ 8 from rfl, ← Nat.pow_mul, pow_limb, ← Nat.pow_add]
    congr 1
    omega
  rw [p1, ← Nat.div_div_eq_div_mul, ← e3, e1]
  generalize xs.getD l 0 = x
  generalize val (xs.drop (l + 1)) = r
  have e4 : x + 4294967296 * r = x + 2 ^ (8 * s) * (256 * (2 ^ (24 - 8 * s) * r)) := by
    have : 2 ^ (8 * s) * (256 * (2 ^ (24 - 8 * s) * r)) = 4294967296 * r := by
      rw [show (256:Nat) = 2 ^ 8 from rfl, ← Nat.mul_assoc, ← Nat.mul_assoc, ← Nat.pow_add, ← Nat.pow_add, show 8 * s + 8 + (24 - 8 * s) = 32 from by omega]
    omega
  rw [e4, Nat.add_mul_div_left _ _ (Nat.two_pow_pos _), Nat.add_mul_mod_self_left]

/-- How many bytes a number has. -/
def bytesN (xs : List Nat) : Nat := (bitsN xs + 7) / 8

theorem Tryz.info_u8 : (Tryz.prog.info? 5).map (fun i => (i.zero, i.size, i.bytes)) = some (some (.int .u8 0), 1, 1) := by kernel_rfl
theorem make_b (n : Nat) (hn : n ≤ 1000000) (w : World) : (Instr.makeSlice 105 (.int .i64 (n : Int)) (.int .i64 (n : Int))).run Tryz.prog w = .ok (.slice (some ⟨w.heap.size, 0, none⟩) n n) (w.alloc (.cells (madeCells #[.int .u8 0] n) 5)) :=
  run_make_row' (P := Tryz.prog) 105 5 (.int .u8 0) 1 Tryz.underlying105 Tryz.info_u8 rfl .i64 .i64 n (by omega) (by omega) w

def BsPost (w : World) (xs : List Nat) (e : Ending) (w' : World) : Prop :=
  ∃ b : Nat, w.heap.size ≤ b ∧ e = .returned (.tuple #[.slice (some ⟨b, 0, none⟩) (bytesN xs) (bytesN xs), .int .i64 0]) ∧ FnB w' b 0 (bytesN xs) (fun p => byteN (val xs) (bytesN xs - 1 - p)) ∧ Below w.heap.size w w'

end Go.Proofs.YtjjeinfoeipjnaaGreatDoor

namespace Go.Proofs.YtjjeinfoeipjnaaGreatDoor
open Go.RowKit Go.Deep
set_option linter.unusedVariables false

theorem byte_high {xs : List Nat} (ox : Ok xs) {i : Nat} (h : bytesN xs ≤ i) : byteN (val xs) i = 0 := by
  unfold byteN
  rw [Nat.div_eq_of_lt, Nat.zero_mod]
  refine Nat.lt_of_lt_of_le (val_lt_bits ox) ?_
  rw [show (256:Nat) = 2 ^ 8 from rfl, ← Nat.pow_mul]
  refine Nat.pow_le_pow_right (by decide) ?_
  unfold bytesN at h
  omega
theorem byte_top {xs : List Nat} (ox : Ok xs) (nx : Norm xs) (h : 0 < bytesN xs) : byteN (val xs) (bytesN xs - 1) ≠ 0 := by
  have hx : xs ≠ [] := by intro e; rw [e] at h; simp [bytesN, bitsN] at h
  have hh := val_ge_bits ox nx hx
  have e : bitsN xs = bitsL xs := by unfold bitsN; rw [if_neg hx]
  unfold byteN
  have h1 : 256 ^ (bytesN xs - 1) ≤ val xs := by
    rw [show (256:Nat) = 2 ^ 8 from rfl, ← Nat.pow_mul]
    refine Nat.le_trans (Nat.pow_le_pow_right (by decide) ?_) hh.2
    unfold bytesN at h ⊢
    omega
  have h2 : val xs < 256 ^ (bytesN xs - 1) * 256 := by
    rw [← Nat.pow_succ, show (256:Nat) = 2 ^ 8 from rfl, ← Nat.pow_mul]
    refine Nat.lt_of_lt_of_le (val_lt_bits ox) (Nat.pow_le_pow_right (by decide) ?_)
    unfold bytesN at h ⊢
    omega
  have hp : 0 < 256 ^ (bytesN xs - 1) := Nat.pow_pos (by decide)
  have h3 : 1 ≤ val xs / 256 ^ (bytesN xs - 1) := (Nat.le_div_iff_mul_le hp).2 (by omega)
  have h4 : val xs / 256 ^ (bytesN xs - 1) < 256 := (Nat.div_lt_iff_lt_mul hp).2 (by rw [Nat.mul_comm]; exact h2)
  rw [Nat.mod_eq_of_lt h4]
  omega

def valsB (xs : List Nat) : List Value := xs.map (fun x => .int .u8 (x : Nat))
/-- The bytes that sloperef1.Bytes has behind k bytes to go. -/
def outB (xs : List Nat) (k : Nat) : List Nat := lst (fun p => byteN (val xs) (bytesN xs - 1 - p)) (bytesN xs - k)

structure ByR (wr w : World) (xs : List Nat) (v : Value) (k : Nat) : Prop where
  own : wr.ownsRow w.heap.size 5 1 v (bytesN xs - k) (valsB (outB xs k))
  bel : Below w.heap.size w wr

theorem ByR.step {wr w w1 : World} {xs : List Nat} {v v' : Value} {k : Nat} {o : Obj} (h : ByR wr w xs v (k + 1)) (hk : k < bytesN xs)
    (hown : w1.ownsRow w.heap.size 5 1 v' (bytesN xs - (k + 1) + 1) (valsB (outB xs (k + 1)) ++ [.int .u8 (byteN (val xs) k : Nat)])) (hg : (wr.alloc o).grownBy w1 v.ownBlock) : ByR w1 w xs v' k := by
  have hs := h.bel.size
  refine ⟨?_, Below.grown (h.bel.alloc (by omega) o) hg (by simp; omega) (fun k hk => (own_ge h.own k hk).1)⟩
  have e1 : bytesN xs - (k + 1) + 1 = bytesN xs - k := by omega
  have e : valsB (outB xs (k + 1)) ++ [.int .u8 (byteN (val xs) k : Nat)] = valsB (outB xs k) := by
    unfold outB valsB
    rw [← e1]
    simp only [lst, List.range_succ, List.map_append, List.map_cons, List.map_nil]
    rw [show bytesN xs - 1 - (bytesN xs - (k + 1)) = k from by omega]
  rw [e, e1] at hown
  exact hown
theorem ByR.skip {wr w : World} {xs : List Nat} {v : Value} {k : Nat} (h : ByR wr w xs v (k + 1)) (hk : bytesN xs ≤ k) : ByR wr w xs v k := by
  have e : bytesN xs - (k + 1) = bytesN xs - k := by omega
  refine ⟨?_, h.bel⟩
  have := h.own
  unfold outB at *
  rw [e] at this
  exact this

theorem own_len {w : World} {base k : Nat} {e : TypeId} {v : Value} {ws : List Value} (h : w.ownsRow base e 1 v k ws) : ∃ a c, v = .slice a k c := by
  rcases h.2 with ⟨e, h0⟩ | ⟨g, cap, cur, e, hb, h5, h6, h7, h8, h9⟩
  · subst e h0
    exact ⟨none, 0, rfl⟩
  · subst e
    exact ⟨_, _, rfl⟩

def RbPost (w : World) (xs : List Nat) (e : Ending) (w' : World) : Prop :=
  ∃ v, e = .returned (.tuple #[v, .int .i64 0]) ∧ w'.ownsRow w.heap.size 5 1 v (bytesN xs) (valsB (outB xs 0)) ∧ Below w.heap.size w w'

end Go.Proofs.YtjjeinfoeipjnaaGreatDoor
