/-
  bitset: fits, bit, wordsFor, blank, put: contracts.
-/
import Derived.Test.YtbendkndnojihaaBt0
import Derived.Test.YtbendkndnojihaaBt1
namespace Go.Proofs.Ytbendkndnojihaa
open Go.RowKit Go.Deep
set_option linter.unusedVariables false

theorem u64_nat {x : Nat} (h : x < 18446744073709551616) : IntKind.u64.wrap (x : Int) = (x : Int) := by
  show (x : Int) % 18446744073709551616 = x
  omega

theorem wrap_i64 (x : Int) : IntKind.i64.wrap x = (x + 9223372036854775808) % 18446744073709551616 - 9223372036854775808 := by
  simp [IntKind.wrap, IntKind.bits, IntKind.signed]
  split <;> omega

def fitsI (s : Int) : Bool := decide (0 ≤ s ∧ s ≤ 4096)
theorem fitsI_nat {s : Int} (h : fitsI s = true) : ∃ n : Nat, s = (n : Int) ∧ n ≤ 4096 := by
  simp [fitsI] at h
  obtain ⟨n, rfl⟩ := Int.eq_ofNat_of_zero_le h.1
  exact ⟨n, rfl, by omega⟩

set_option maxHeartbeats 400000 in
/-- bitset.fits. -/
theorem fits_any (s : Int) (w : World) : Calls Try.prog 41 #[.int .i64 s] w fun e w' => e = .returned (.bool (fitsI s)) ∧ w' = w := by
  by_cases h0 : 0 ≤ s
  · by_cases h1 : s ≤ 4096
    · have e : fitsI s = true := by simp [fitsI, h0, h1]
      rw [e]
      go_enter Try.func41, Try.ntmps41
      go_wp2
      go_ret
      exact ⟨rfl, rfl⟩
    · have e : fitsI s = false := by simp [fitsI]; omega
      rw [e]
      go_enter Try.func41, Try.ntmps41
      go_wp2
      go_ret
      exact ⟨rfl, rfl⟩
  · have e : fitsI s = false := by simp [fitsI]; omega
    rw [e]
    go_enter Try.func41, Try.ntmps41
    go_wp2
    go_ret
    exact ⟨rfl, rfl⟩
set_option maxHeartbeats 400000 in
/-- sloperef3.sized. -/
theorem sized_any (s : Int) (w : World) : Calls Try.prog 51 #[.int .i64 s] w fun e w' => e = .returned (.bool (fitsI s)) ∧ w' = w := by
  by_cases h0 : 0 ≤ s
  · by_cases h1 : s ≤ 4096
    · have e : fitsI s = true := by simp [fitsI, h0, h1]
      rw [e]
      go_enter Try.func51, Try.ntmps51
      go_wp2
      go_ret
      exact ⟨rfl, rfl⟩
    · have e : fitsI s = false := by simp [fitsI]; omega
      rw [e]
      go_enter Try.func51, Try.ntmps51
      go_wp2
      go_ret
      exact ⟨rfl, rfl⟩
  · have e : fitsI s = false := by simp [fitsI]; omega
    rw [e]
    go_enter Try.func51, Try.ntmps51
    go_wp2
    go_ret
    exact ⟨rfl, rfl⟩

set_option maxHeartbeats 400000 in
/-- bitset.bit. -/
theorem bit_any (e : Nat) (w : World) (he : e < 1000000) : Calls Try.prog 58 #[.int .i64 (e : Int)] w fun r w' => r = .returned (.int .u64 ((2 ^ (e % 64) : Nat) : Int)) ∧ w' = w := by
  have H := hide (u64_nat (pow_lt64 (Nat.mod_lt e (by decide : 0 < 64))))
  go_enter Try.func58, Try.ntmps58
  go_wp2
  go_ret
  refine ⟨?_, rfl⟩
  show Ending.returned (.int .u64 (IntKind.u64.wrap ((2 ^ (e % 64))))) = _
  rw [← unhide H]
  simp

set_option maxHeartbeats 400000 in
/-- bitset.wordsFor. -/
theorem wordsFor_any (n : Nat) (w : World) (hn : n ≤ 4096) : Calls Try.prog 42 #[.int .i64 (n : Int)] w fun r w' => r = .returned (.int .i64 (((n + 63) / 64 : Nat) : Int)) ∧ w' = w := by
  go_enter Try.func42, Try.ntmps42
  go_wp2
  go_ret
  refine ⟨?_, rfl⟩
  show Ending.returned (.int .i64 (((n : Int) + 64 - 1) / 64)) = _
  congr 2
  omega

def setV (s : Int) (a : Option Addr) (n c : Nat) : Value := .agg #[.int .i64 s, .slice a n c]
theorem Try.info_u64 : (Try.prog.info? 66).map (fun i => (i.zero, i.size, i.bytes)) = some (some (.int .u64 0), 1, 8) := by kernel_rfl
theorem make_words (n : Nat) (hn : n ≤ 35184372088000) (w : World) : (Instr.makeSlice 22 (.int .i64 (n : Int)) (.int .i64 (n : Int))).run Try.prog w = .ok (.slice (some ⟨w.heap.size, 0, none⟩) n n) (w.alloc (.cells (madeCells #[.int .u64 0] n) 66)) :=
  run_make_row' (P := Try.prog) 22 66 (.int .u64 0) 8 Try.underlying22 Try.info_u64 rfl .i64 .i64 n (by omega) (by omega) w

/-- A struct of two cells in memory. -/
structure Two (w : World) (R : Nat) (v0 v1 : Value) : Prop where
  c0 : w.cell? ⟨R, 0, none⟩ = some v0
  c1 : w.cell? ⟨R, 1, none⟩ = some v1
  f0 : w.frozen? ⟨R, 0, none⟩ = false
  f1 : w.frozen? ⟨R, 1, none⟩ = false
theorem Two.lt {w : World} {R : Nat} {v0 v1 : Value} (h : Two w R v0 v1) : R < w.heap.size := World.block_lt_of_cell? _ _ h.c0
theorem Two.made (w : World) (v0 v1 : Value) (e : TypeId) : Two (w.alloc (.cells #[v0, v1] e)) w.heap.size v0 v1 := ⟨by simp, by simp, by simp, by simp⟩
theorem Two.keep {w w' : World} {R : Nat} {v0 v1 : Value} (h : Two w R v0 v1) (k : Below w.heap.size w w') : Two w' R v0 v1 :=
  ⟨below_cell k h.c0, below_cell k h.c1, by rw [k.frozen h.lt]; exact h.f0, by rw [k.frozen h.lt]; exact h.f1⟩
theorem Two.set {w : World} {R : Nat} {v0 v1 : Value} (h : Two w R v0 v1) (u0 u1 : Value) : Two ((w.setCell ⟨R, 0, none⟩ u0).setCell ⟨R, 1, none⟩ u1) R u0 u1 := by
  have s0 : (w.setCell ⟨R, 0, none⟩ u0).cell? ⟨R, 0, none⟩ = some u0 := World.cell?_setCell_same _ _ _ h.c0
  have s1 : (w.setCell ⟨R, 0, none⟩ u0).cell? ⟨R, 1, none⟩ = some v1 := by rw [World.cell?_setCell_other _ _ _ _ (by simp)]; exact h.c1
  refine ⟨?_, World.cell?_setCell_same _ _ _ s1, ?_, ?_⟩
  · rw [World.cell?_setCell_other _ _ _ _ (by simp)]; exact s0
  · rw [World.frozen?_setCell, World.frozen?_setCell]; exact h.f0
  · rw [World.frozen?_setCell, World.frozen?_setCell]; exact h.f1
theorem Two.other {w : World} {R : Nat} {v0 v1 : Value} (h : Two w R v0 v1) (b i : Nat) (v : Value) (hne : b ≠ R) : Two (w.setCell ⟨b, i, none⟩ v) R v0 v1 :=
  ⟨by rw [World.cell?_setCell_other _ _ _ _ (by intro h; injection h with h1 h2; exact hne h1)]; exact h.c0,
   by rw [World.cell?_setCell_other _ _ _ _ (by intro h; injection h with h1 h2; exact hne h1)]; exact h.c1,
   by rw [World.frozen?_setCell]; exact h.f0, by rw [World.frozen?_setCell]; exact h.f1⟩
theorem Two.chg {S : Nat → Prop} {w w' : World} {R : Nat} {v0 v1 : Value} (h : Two w R v0 v1) (k : Chg S w w') (hs : ¬ S R) : Two w' R v0 v1 :=
  ⟨k.cell hs h.c0, k.cell hs h.c1, by rw [k.froz h.lt hs]; exact h.f0, by rw [k.froz h.lt hs]; exact h.f1⟩
theorem two_chg (w : World) (R : Nat) (u0 u1 : Value) : Chg (fun j => j = R) w ((w.setCell ⟨R, 0, none⟩ u0).setCell ⟨R, 1, none⟩ u1) :=
  (Chg.of_set (S := fun j => j = R) _ _ _ _ rfl).trans (Chg.of_set (S := fun j => j = R) _ _ _ _ rfl)
theorem two_below {w0 w : World} (h : Below w0.heap.size w0 w) (R : Nat) (hR : w0.heap.size ≤ R) (u0 u1 : Value) : Below w0.heap.size w0 ((w.setCell ⟨R, 0, none⟩ u0).setCell ⟨R, 1, none⟩ u1) :=
  (h.setCell (p := ⟨R, 0, none⟩) hR u0).setCell (p := ⟨R, 1, none⟩) hR u1
theorem FnG.two {α : Type} {g : α → Value} {w : World} {b off n : Nat} {f : Nat → α} (h : FnG g w b off n f) (R : Nat) (u0 u1 : Value) (hne : R ≠ b) : FnG g ((w.setCell ⟨R, 0, none⟩ u0).setCell ⟨R, 1, none⟩ u1) b off n f :=
  (h.other R 0 u0 hne).other R 1 u1 hne

/-- A set in new memory, that may be written. -/
def NewS (w w' : World) (s : Int) (n : Nat) (f : Nat → Nat) (v : Value) : Prop :=
  ∃ b c, v = setV s (some ⟨b, 0, none⟩) n c ∧ n ≤ c ∧ c ≤ maxLen ∧ w.heap.size ≤ b ∧ b < w'.heap.size ∧ FnW w' b 0 n f ∧ Below w.heap.size w w'

set_option maxHeartbeats 400000 in
/-- bitset.blank. -/
theorem blank_any (n : Nat) (w : World) (hn : n ≤ 4096) : Calls Try.prog 53 #[.int .i64 (n : Int)] w fun r w' => ∃ v, r = .returned v ∧ NewS w w' n (nW n) (fun _ => 0) v := by
  have hm := make_words (nW n) (by unfold nW; omega)
  have hle : nW n ≤ 64 := by unfold nW; omega
  have HW := hide (show (n + 63) / 64 = nW n from rfl)
  generalize nW n = N at *
  go_enter Try.func53, Try.ntmps53
  go_wp2_with fail
  refine (wordsFor_any n _ hn).mono ?_
  rintro _ w1 ⟨rfl, rfl⟩
  rw [unhide HW]
  clear HW
  have HT := hide (Two.made w (.int .i64 0) (.slice none 0 0) 24)
  have HB := hide ((Below.refl w.heap.size w).alloc (Nat.le_refl _) (.cells #[.int .i64 0, .slice none 0 0] 24))
  have hz : (w.alloc (.cells #[.int .i64 0, .slice none 0 0] 24)).heap.size = w.heap.size + 1 := by simp
  generalize w.alloc (.cells #[.int .i64 0, .slice none 0 0] 24) = wa at *
  have HZ := hide hz
  have HT2 := hide ((unhide HT).keep ((Below.refl wa.heap.size wa).alloc (Nat.le_refl _) (.cells (madeCells #[.int .u64 0] N) 66)))
  have d0 := (unhide HT2).c0
  have d1 := (unhide HT2).c1
  have g0 := (unhide HT2).f0
  have g1 := (unhide HT2).f1
  clear hz
  go_wp2_with fail
  have T3 := (unhide HT2).set (.int .i64 n) (.slice (some ⟨wa.heap.size, 0, none⟩) N N)
  have p0 := T3.c0
  have p1 := T3.c1
  refine bodyPost_ret (by simp [results, Try.results53, go_sem, p0, p1]; try rfl) rfl ?_
  refine ⟨_, rfl, _, _, rfl, Nat.le_refl _, by unfold maxLen; omega, ?_, ?_, ?_, ?_⟩
  · have := unhide HZ; omega
  · simp
  · refine FnG.two ?_ _ _ _ ?_
    · exact FnG.made wa N 66 0 rfl
    · have := unhide HZ; omega
  · refine two_below ?_ _ (Nat.le_refl _) _ _
    exact (unhide HB).alloc (by have := unhide HZ; omega) _

set_option maxHeartbeats 400000 in
/-- bitset.put. -/
theorem put_any (s : Int) (b n c : Nat) (f : Nat → Nat) (e : Nat) (w : World) (hf : FnW w b 0 n f) (hlt : ∀ i, i < n → f i < 18446744073709551616) (he : e / 64 < n) (hn : n ≤ 64) :
    Calls Try.prog 54 #[setV s (some ⟨b, 0, none⟩) n c, .int .i64 (e : Int)] w fun r w' => r = .returned (.tuple #[]) ∧ FnW w' b 0 n (fun i => if i = e / 64 then f (e / 64) ||| 2 ^ (e % 64) else f i) ∧ Chg (fun j => j = b) w w' := by
  obtain ⟨q, hq⟩ : ∃ q, e / 64 = q := ⟨_, rfl⟩
  have hqi : (e : Int) / 64 = (q : Int) := by omega
  have KB := bit_any e
  have hm := pow_lt64 (Nat.mod_lt e (by decide : 0 < 64))
  rw [hq] at he ⊢
  generalize 2 ^ (e % 64) = m at *
  have hx := hlt q he
  have ho := u64_or_nat (f q) m hx hm
  have hbel := (Below.refl w.heap.size w).alloc (Nat.le_refl _) (.cells #[.int .i64 s, .slice (some ⟨b, 0, none⟩) n c] 24)
  have hf1 := hf.below hbel
  have hc0 : (w.alloc (.cells #[.int .i64 s, .slice (some ⟨b, 0, none⟩) n c] 24)).cell? ⟨w.heap.size, 1, none⟩ = some (.slice (some ⟨b, 0, none⟩) n c) := by simp
  have hwb : b ≠ w.heap.size := by
    have := World.block_lt_of_cell? _ _ (hf q he).1
    simp at this
    omega
  have he1 : e < 1000000 := by omega
  obtain ⟨wa, hwa⟩ : ∃ wa, w.alloc (.cells #[.int .i64 s, .slice (some ⟨b, 0, none⟩) n c] 24) = wa := ⟨_, rfl⟩
  rw [hwa] at hbel hf1 hc0
  have HS := hide (hf1.set q (f q ||| m) he)
  have hc1 := (hf1 q he).1
  have hc2 := (hf1 q he).2
  rw [Nat.zero_add] at hc1 hc2 HS
  have HQ := hide hbel
  have HB := hide hwb
  have HKB := hide (fun w => KB w he1)
  generalize f q = x at *
  unfold vU at hc1
  generalize hy : (x ||| m) = y at *
  have hqn : (q : Int) < (n : Int) := by omega
  have hq0 : (0 : Int) ≤ (q : Int) := by omega
  have hqw : IntKind.i64.wrap (q : Int) = (q : Int) := by rw [wrap_i64]; omega
  clear KB hf1 hbel hwb hf hy hlt hq
  unfold setV
  go_enter Try.func54, Try.ntmps54
  go_wp2_with fail
  go_region_with (
    go_at_call 58
    refine (unhide HKB _).mono ?_
    rintro _ w1 ⟨rfl, rfl⟩)
  all_goals
    go_wp2_with fail
    refine bodyPost_end (results_none rfl _ _ _) rfl ?_
    refine ⟨?_, ?_, ?_⟩
    · rfl
    · exact (unhide HS).below (Below.refl _ _).drew
    · exact ((Chg.of_below (unhide HQ)).trans (Chg.of_set (S := fun j => j = b) _ _ _ _ rfl)).drew
end Go.Proofs.Ytbendkndnojihaa
