/-
  THE DOCUMENT'S OWN ANSWERS (package sloperef1) and the comparisons: contracts.
-/
import Derived.Test.YtlecjjcpidjmhaaBase
namespace Go.Proofs.Ytlecjjcpidjmhaa
open Go.RowKit Go.Deep
set_option linter.unusedVariables false

theorem Try.info_u32 : (Try.prog.info? 77).map (fun i => (i.zero, i.size, i.bytes)) = some (some (.int .u32 0), 1, 4) := by kernel_rfl

theorem rt_step {wr w : World} {k j : Nat} {xs : List Nat} (hf : Fn wr w.heap.size 0 k (fun i => if i < j then xs.getD i 0 else 0)) (hlt : j < k) (hb : Below w.heap.size w wr) :
    Fn (wr.setCell ⟨w.heap.size, j, none⟩ (.int .u32 (xs.getD j 0 : Nat))) w.heap.size 0 k (fun i => if i < j + 1 then xs.getD i 0 else 0) ∧ Below w.heap.size w (wr.setCell ⟨w.heap.size, j, none⟩ (.int .u32 (xs.getD j 0 : Nat))) := by
  refine ⟨?_, hb.setCell (Nat.le_refl _) _⟩
  have h := hf.set j (xs.getD j 0) hlt
  simp only [Nat.zero_add] at h
  intro i hi
  have := h i hi
  refine ⟨?_, this.2⟩
  rw [this.1]
  by_cases e : i = j
  · simp [e]
  · by_cases e2 : i < j
    · simp [e, e2, show i < j + 1 from by omega]
    · simp [e, e2, show ¬ i < j + 1 from by omega]

theorem rt_end {wr w : World} {k j : Nat} {xs : List Nat} (hf : Fn wr w.heap.size 0 k (fun i => if i < j then xs.getD i 0 else 0)) (hj : j = k) (hk : k ≤ xs.length) :
    Cells wr w.heap.size 0 (xs.take k) := by
  have hlen : (xs.take k).length = k := by simp [Nat.min_eq_left hk]
  refine hf.cells (by omega) (fun i hi => ?_)
  rw [hlen] at hi
  simp [hj, hi, List.getD]

set_option maxHeartbeats 1000000 in
theorem rtrim_some (b off n c : Nat) (xs : List Nat) (w : World) (hn : xs.length = n) (hnc : n ≤ c) (hcm : n ≤ 70368744177664) (hc : Cells w b off xs) :
    Calls Try.prog 31 #[.slice (some ⟨b, off, none⟩) n c] w fun e w' => ∃ m, TrimAt xs m ∧ e = .returned (.slice (some ⟨w.heap.size, 0, none⟩) m m) ∧ Cells w' w.heap.size 0 (xs.take m) ∧ Below w.heap.size w w' := by
  go_enter Try.func31, Try.ntmps31
  go_wp2
  go_loop [3] (fun i => ∃ k : Nat, k ≤ n ∧ i = .int .i64 k ∧ ∀ j, k ≤ j → xs.getD j 0 = 0) (fun i => (intOf i).toNat)
  case atStart => exact ⟨n, Nat.le_refl _, rfl, fun j hj => getD_ge (by omega)⟩
  case round =>
    obtain ⟨k, hk, rfl, hz⟩ := hrel
    have hmk := run_make_row' (P := Try.prog) 23 77 (.int .u32 0) 4 Try.underlying23 Try.info_u32 rfl .i64 .i64 k (by omega) (by omega)
    by_cases h0 : k = 0
    · have hpos : ¬ (0:Int) < (k:Int) := by omega
      have ht : TrimAt xs k := ⟨by omega, .inl h0, hz⟩
      clear h0 hz
      go_wp2
      go_loopw [5] (fun i wr => ∃ j : Nat, j ≤ k ∧ i = .int .i64 j ∧ Fn wr w.heap.size 0 k (fun i => if i < j then xs.getD i 0 else 0) ∧ Below w.heap.size w wr) (fun i _ => k - (intOf i).toNat)
      case atStart => exact ⟨0, Nat.zero_le _, rfl, by simpa using Fn.made w k _, (Below.refl _ _).alloc (Nat.le_refl _) _⟩
      case round =>
        obtain ⟨j, hj, rfl, hf, hbel⟩ := hrel
        by_cases hlt : j < k
        · exact absurd hlt (by omega)
        · have HF := hide (rt_end hf (by omega : j = k) (by omega) )
          clear hf
          go_wp2
          go_ret
          exact ⟨k, ht, rfl, unhide HF, hbel⟩
    · have hpos : (0:Int) < (k:Int) := by omega
      have hk1 : ((k:Int) - 1).toNat = k - 1 := by omega
      have hne : ((k:Int) == 0) = false := by simp; omega
      have hcell := hc (k - 1) (by omega)
      by_cases hx : xs.getD (k - 1) 0 = 0
      · rw [hx] at hcell
        have Hx : Hid (xs.getD (k - 1) 0 = 0) := hx
        clear hx
        go_wp2
        go_round
        case rel => exact ⟨k - 1, by omega, by congr 1; omega, fun j hj => by
          by_cases e : j = k - 1
          · rw [e]; exact Hx.out
          · exact hz j (by omega)⟩
        case measure => simp [intOf]; omega
      · have ht : TrimAt xs k := ⟨by omega, .inr hx, hz⟩
        have hx' : (((xs.getD (k - 1) 0 : Nat) : Int) == 0) = false := by simp at hx ⊢; exact hx
        clear hx hz
        generalize hg : (((xs.getD (k - 1) 0 : Nat) : Int)) = g at hcell hx'
        clear hg
        go_wp2
        go_loopw [5] (fun i wr => ∃ j : Nat, j ≤ k ∧ i = .int .i64 j ∧ Fn wr w.heap.size 0 k (fun i => if i < j then xs.getD i 0 else 0) ∧ Below w.heap.size w wr) (fun i _ => k - (intOf i).toNat)
        case atStart => exact ⟨0, Nat.zero_le _, rfl, by simpa using Fn.made w k _, (Below.refl _ _).alloc (Nat.le_refl _) _⟩
        case round =>
          obtain ⟨j, hj, rfl, hf, hbel⟩ := hrel
          by_cases hlt : j < k
          · have hlt' : (j:Int) < (k:Int) := by omega
            have g1 := (hf j hlt).1
            have g2 := (hf j hlt).2
            simp only [Nat.zero_add] at g1 g2
            have g3 := hc j (by omega)
            have g4 : wr.cell? ⟨b, off + j, none⟩ = _ := (hbel.cell (World.block_lt_of_cell? _ _ g3)).trans g3
            have HF := hide (rt_step hf hlt hbel)
            clear hf hbel g3
            go_wp2
            exact ⟨⟨j + 1, by omega, by go_num, by simpa using (unhide HF).1, by simpa using (unhide HF).2⟩, by simp [intOf]; omega⟩
          · have HF := hide (rt_end hf (by omega : j = k) (by omega) )
            clear hf
            go_wp2
            go_ret
            exact ⟨k, ht, rfl, unhide HF, hbel⟩

theorem make_0 (w : World) : (Instr.makeSlice 23 (.int .i64 0) (.int .i64 0)).run Try.prog w = .ok (.slice (some ⟨w.heap.size, 0, none⟩) 0 0) (w.alloc (.cells (madeCells #[.int .u32 0] 0) 77)) :=
  run_make_row' (P := Try.prog) 23 77 (.int .u32 0) 4 Try.underlying23 Try.info_u32 rfl .i64 .i64 0 (by omega) (by omega) w

theorem rtrim_nil (a : Option Addr) (c : Nat) (w : World) :
    Calls Try.prog 31 #[.slice a 0 c] w fun e w' => e = .returned (.slice (some ⟨w.heap.size, 0, none⟩) 0 0) ∧ Below w.heap.size w w' := by
  have hmk := make_0
  go_enter Try.func31, Try.ntmps31
  go_wp2
  go_loop [3] (fun i => i = .int .i64 0) (fun i => (intOf i).toNat)
  case atStart => rfl
  case round =>
    subst hrel
    go_wp2
    go_loopw [5] (fun i wr => i = .int .i64 0 ∧ Below w.heap.size w wr) (fun i _ => (intOf i).toNat)
    case atStart => exact ⟨rfl, (Below.refl _ _).alloc (Nat.le_refl _) _⟩
    case round =>
      obtain ⟨rfl, hb⟩ := hrel
      go_wp2
      go_ret
      exact ⟨rfl, hb⟩

/-- The block at which a slice lies is new. -/
def NewAt (B : Nat) (a : Option Addr) : Prop := ∀ x, a = some x → B ≤ x.block

/-- sloperef1.Trim: the limbs without the zeros on top, in new memory. -/
theorem rtrim_any (a : Option Addr) (n c : Nat) (xs : List Nat) (w : World) (h : Sl w a n c xs) (ok : Ok xs) (hb : n ≤ 70368744177664) :
    Calls Try.prog 31 #[.slice a n c] w fun e w' => ∃ a' m ys, e = .returned (.slice a' m m) ∧ Sl w' a' m m ys ∧ Rep (val xs) ys ∧ NewAt w.heap.size a' ∧ Below w.heap.size w w' := by
  have hl := h.len
  rcases h.cells with h0 | ⟨b, off, rfl, hc⟩
  · subst h0
    simp at hl
    subst hl
    refine (rtrim_nil a c w).mono ?_
    rintro e w' ⟨rfl, hbel⟩
    exact ⟨_, 0, [], rfl, ⟨rfl, Nat.le_refl _, Nat.zero_le _, .inl rfl⟩, ⟨Ok.nil, .inl rfl, rfl⟩, fun x hx => by cases hx; exact Nat.le_refl _, hbel⟩
  · refine (rtrim_some b off n c xs w hl h.le hb hc).mono ?_
    rintro e w' ⟨m, ht, rfl, hcs, hbel⟩
    have hlen : (xs.take m).length = m := by simp [Nat.min_eq_left ht.le]
    refine ⟨_, m, xs.take m, rfl, ⟨hlen, Nat.le_refl _, ?_, .inr ⟨_, _, rfl, hcs⟩⟩, ht.rep ok, fun x hx => by cases hx; exact Nat.le_refl _, hbel⟩
    have := ht.le; unfold maxLen; omega

set_option maxHeartbeats 800000 in
theorem sameNat_some (b1 o1 b2 o2 : Nat) (n c1 c2 : Nat) (xs ys : List Nat) (w : World) (hn : n ≤ maxLen) (hx : xs.length = n) (hy : ys.length = n)
   (h1 : Cells w b1 o1 xs) (h2 : Cells w b2 o2 ys) :
    Calls Try.prog 35 #[.slice (some ⟨b1, o1, none⟩) n c1, .slice (some ⟨b2, o2, none⟩) n c2] w fun e w' => e = .returned (.bool (decide (xs = ys))) ∧ ∃ k, w' = w.drewN k := by
  unfold maxLen at hn
  go_enter Try.func35, Try.ntmps35
  go_wp2
  go_loopw [5] (fun i wr => ∃ k : Nat, k ≤ n ∧ i = .int .i64 k ∧ (∀ j, j < k → xs.getD j 0 = ys.getD j 0) ∧ ∃ d, wr = w.drewN d) (fun i _ => n - (intOf i).toNat)
  case atStart => exact ⟨0, Nat.zero_le _, rfl, fun j hj => absurd hj (Nat.not_lt_zero _), 0, rfl⟩
  case round =>
    obtain ⟨k, hk, rfl, ht, d, rfl⟩ := hrel
    by_cases hlt : k < n
    · have hlt' : (k:Int) < (n:Int) := by omega
      have g1 := h1 k (by omega)
      have g2 := h2 k (by omega)
      by_cases he : xs.getD k 0 = ys.getD k 0
      · have HE := hide he
        have hb : (((xs.getD k 0 : Nat) : Int) != ((ys.getD k 0 : Nat) : Int)) = false := by rw [he]; simp
        generalize ((xs.getD k 0 : Nat) : Int) = u at g1 hb
        generalize ((ys.getD k 0 : Nat) : Int) = v at g2 hb
        clear he h1 h2
        go_wp2_with fail
        go_quiet (fail)
        go_wp2
        refine ⟨⟨k + 1, by omega, by go_num, fun j hj => ?_, _, rfl⟩, by simp [intOf]; omega⟩
        by_cases e : j = k
        · rw [e]; exact unhide HE
        · exact ht j (by omega)
      · have hb : (((xs.getD k 0 : Nat) : Int) != ((ys.getD k 0 : Nat) : Int)) = true := by rw [bne_iff_ne]; omega
        have HE := hide he
        generalize ((xs.getD k 0 : Nat) : Int) = u at g1 hb
        generalize ((ys.getD k 0 : Nat) : Int) = v at g2 hb
        clear he h1 h2
        go_wp2_with fail
        go_quiet (fail)
        go_wp2
        go_ret
        refine ⟨?_, _, drewN_add _ _ _⟩
        have : ¬ xs = ys := fun e => unhide HE (by rw [e])
        simp [this]
    · have hk' : k = n := by omega
      have : xs = ys := by
        apply List.ext_getElem (by omega)
        intro i a1 a2
        have := ht i (by omega)
        simpa [List.getD, a1, a2] using this
      have HE := hide this
      clear this hk'
      go_wp2
      go_ret
      exact ⟨by simp [unhide HE], _, rfl⟩

set_option maxHeartbeats 400000 in
theorem sameNat_len (a1 a2 : Option Addr) (n1 n2 c1 c2 : Nat) (w : World) (hn : ((n1:Int) != (n2:Int)) = true) :
    Calls Try.prog 35 #[.slice a1 n1 c1, .slice a2 n2 c2] w fun e w' => e = .returned (.bool false) ∧ w' = w := by
  go_enter Try.func35, Try.ntmps35
  go_wp2
  go_ret
  exact ⟨rfl, rfl⟩

set_option maxHeartbeats 400000 in
theorem sameNat_nil (a1 a2 : Option Addr) (c1 c2 : Nat) (w : World) :
    Calls Try.prog 35 #[.slice a1 0 c1, .slice a2 0 c2] w fun e w' => e = .returned (.bool true) ∧ w' = w := by
  go_enter Try.func35, Try.ntmps35
  go_wp2
  go_loop [5] (fun i => i = .int .i64 0) (fun i => (intOf i).toNat)
  case atStart => rfl
  case round =>
    subst hrel
    go_wp2
    go_ret
    exact ⟨rfl, rfl⟩

/-- slopeplain.SameNat. -/
theorem sameNat_any (a1 a2 : Option Addr) (n1 c1 n2 c2 : Nat) (xs ys : List Nat) (w : World) (h1 : Sl w a1 n1 c1 xs) (h2 : Sl w a2 n2 c2 ys) :
    Calls Try.prog 35 #[.slice a1 n1 c1, .slice a2 n2 c2] w fun e w' => e = .returned (.bool (decide (xs = ys))) ∧ ∃ k, w' = w.drewN k := by
  have l1 := h1.len
  have l2 := h2.len
  by_cases e : n1 = n2
  · subst e
    by_cases z : n1 = 0
    · subst z
      have e1 : xs = [] := List.eq_nil_of_length_eq_zero l1
      have e2 : ys = [] := List.eq_nil_of_length_eq_zero l2
      subst e1 e2
      refine (sameNat_nil a1 a2 c1 c2 w).mono ?_
      rintro e w' ⟨rfl, rfl⟩
      exact ⟨rfl, 0, rfl⟩
    · rcases h1.cells with e1 | ⟨b1, o1, rfl, k1⟩
      · subst e1; simp at l1; omega
      · rcases h2.cells with e2 | ⟨b2, o2, rfl, k2⟩
        · subst e2; simp at l2; omega
        · exact sameNat_some b1 o1 b2 o2 n1 c1 c2 xs ys w (Nat.le_trans h1.le h1.cap) l1 l2 k1 k2
  · refine (sameNat_len a1 a2 n1 n2 c1 c2 w (by rw [bne_iff_ne]; omega)).mono ?_
    rintro e w' ⟨rfl, rfl⟩
    have : ¬ xs = ys := fun h => e (by rw [← l1, ← l2, h])
    exact ⟨by simp [this], 0, rfl⟩

set_option maxHeartbeats 400000 in
/-- slopelaw1.same. -/
theorem same_any (a1 a2 : Option Addr) (n1 c1 n2 c2 : Nat) (xs ys : List Nat) (w : World) (h1 : Sl w a1 n1 c1 xs) (h2 : Sl w a2 n2 c2 ys) :
    Calls Try.prog 10 #[.slice a1 n1 c1, .slice a2 n2 c2] w fun e w' => e = .returned (.bool (decide (xs = ys))) ∧ ∃ k, w' = w.drewN k := by
  go_enter Try.func10, Try.ntmps10
  go_wp2_with fail
  refine (sameNat_any a1 a2 n1 c1 n2 c2 xs ys w h1 h2).mono ?_
  rintro e w' ⟨rfl, k, rfl⟩
  go_wp2
  go_ret
  exact ⟨rfl, k, rfl⟩
end Go.Proofs.Ytlecjjcpidjmhaa
