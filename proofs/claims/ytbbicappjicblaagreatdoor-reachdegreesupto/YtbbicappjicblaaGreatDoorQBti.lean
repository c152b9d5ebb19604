/- QBt2 -/
import Derived.Test.YtbbicappjicblaaGreatDoorQBt0
import Derived.ProofKit
import Derived.OpenShut
import Derived.ShutString
import Derived.ChangeOld
import Derived.SizedLaws
namespace Go.Proofs.YtbbicappjicblaaGreatDoor.Bs
open Go.RowKit Go.Deep
set_option linter.unusedVariables false
theorem u64_nat {x : Nat} (h : x < 18446744073709551616) : IntKind.u64.wrap (x : Int) = (x : Int) := by
 show (x : Int) % 18446744073709551616 = x
 omega

theorem wrap_i64 (x : Int) : IntKind.i64.wrap x = (x + 9223372036854775808) % 18446744073709551616 - 9223372036854775808 := by
 simp [IntKind.wrap, IntKind.bits, IntKind.signed]
 split <;> omega

def fitsI (s : Int) : Bool := decide (0 ≤ s ∧ s ≤ 4096)
theorem fitsI_nat {s : Int} (h : fitsI s = true) : ∃ n : Nat, s = (n : Int) ∧ n ≤ 4096 := by
 simp [fitsI] at h
 obtain ⟨n, rfl⟩ := Int.eq_ofNat_of_zero_le h.1
 exact ⟨n, rfl, by omega⟩

set_option maxHeartbeats 400000 in
theorem fits_any (s : Int) (w : World) : Calls Tryz.prog 91 #[.int .i64 s] w fun e w' => e = .returned (.bool (fitsI s)) ∧ w' = w := by
 by_cases h0 : 0 ≤ s
 ·by_cases h1 : s ≤ 4096
  ·have e : fitsI s = true := by simp [fitsI, h0, h1]
   rw [e]
   go_enter Tryz.func91, Tryz.ntmps91
   go_wp2
   go_ret
   exact ⟨rfl, rfl⟩
  ·have e : fitsI s = false := by simp [fitsI]; omega
   rw [e]
   go_enter Tryz.func91, Tryz.ntmps91
   go_wp2
   go_ret
   exact ⟨rfl, rfl⟩
 ·have e : fitsI s = false := by simp [fitsI]; omega
  rw [e]
  go_enter Tryz.func91, Tryz.ntmps91
  go_wp2
  go_ret
  exact ⟨rfl, rfl⟩
set_option maxHeartbeats 400000 in
theorem bit_any (e : Nat) (w : World) (he : e < 1000000) : Calls Tryz.prog 103 #[.int .i64 (e : Int)] w fun r w' => r = .returned (.int .u64 ((2 ^ (e % 64) : Nat) : Int)) ∧ w' = w := by
 have H := hide (u64_nat (pow_lt64 (Nat.mod_lt e (by decide : 0 < 64))))
 go_enter Tryz.func103, Tryz.ntmps103
 go_wp2
 go_ret
 refine ⟨?_, rfl⟩
 show Ending.returned (.int .u64 (IntKind.u64.wrap ((2 ^ (e % 64))))) = _
 rw [← unhide H]
 simp

set_option maxHeartbeats 400000 in
theorem wordsFor_any (n : Nat) (w : World) (hn : n ≤ 4096) : Calls Tryz.prog 109 #[.int .i64 (n : Int)] w fun r w' => r = .returned (.int .i64 (((n + 63) / 64 : Nat) : Int)) ∧ w' = w := by
 go_enter Tryz.func109, Tryz.ntmps109
 go_wp2
 go_ret
 refine ⟨?_, rfl⟩
 show Ending.returned (.int .i64 (((n : Int) + 64 - 1) / 64)) = _
 congr 2
 omega

def setV (s : Int) (a : Option Addr) (n c : Nat) : Value := .agg #[.int .i64 s, .slice a n c]
theorem Tryz.info_u64 : (Tryz.prog.info? 108).map (fun i => (i.zero, i.size, i.bytes)) = some (some (.int .u64 0), 1, 8) := by kernel_rfl
theorem make_words (n : Nat) (hn : n ≤ 35184372088000) (w : World) : (Instr.makeSlice 80 (.int .i64 (n : Int)) (.int .i64 (n : Int))).run Tryz.prog w = .ok (.slice (some ⟨w.heap.size, 0, none⟩) n n) (w.alloc (.cells (madeCells #[.int .u64 0] n) 108)) :=
 run_make_row' (P := Tryz.prog) 80 108 (.int .u64 0) 8 Tryz.underlying80 Tryz.info_u64 rfl .i64 .i64 n (by omega) (by omega) w

structure Two (w : World) (R : Nat) (v0 v1 : Value) : Prop where
 c0 : w.cell? ⟨R, 0, none⟩ = some v0
 c1 : w.cell? ⟨R, 1, none⟩ = some v1
 f0 : w.frozen? ⟨R, 0, none⟩ = false
 f1 : w.frozen? ⟨R, 1, none⟩ = false
theorem Two.lt {w : World} {R : Nat} {v0 v1 : Value} (h : Two w R v0 v1) : R < w.heap.size := World.block_lt_of_cell? _ _ h.c0
theorem Two.made (w : World) (v0 v1 : Value) (e : TypeId) : Two (w.alloc (.cells #[v0, v1] e)) w.heap.size v0 v1 := ⟨by simp, by simp, by simp, by simp⟩
theorem Two.keep {w w' : World} {R : Nat} {v0 v1 : Value} (h : Two w R v0 v1) (k : Below w.heap.size w w') : Two w' R v0 v1 :=
 ⟨below_cell k h.c0, below_cell k h.c1, by rw [k.frozen h.lt]; exact h.f0, by rw [k.frozen h.lt]; exact h.f1⟩
theorem Two.set {w : World} {R : Nat} {v0 v1 : Value} (h : Two w R v0 v1) (u0 u1 : Value) : Two ((w.setCell ⟨R, 0, none⟩ u0).setCell ⟨R, 1, none⟩ u1) R u0 u1 := by
 have s0 : (w.setCell ⟨R, 0, none⟩ u0).cell? ⟨R, 0, none⟩ = some u0 := World.cell?_setCell_same _ _ _ h.c0
 have s1 : (w.setCell ⟨R, 0, none⟩ u0).cell? ⟨R, 1, none⟩ = some v1 := by rw [World.cell?_setCell_other _ _ _ _ (by simp)]; exact h.c1
 refine ⟨?_, World.cell?_setCell_same _ _ _ s1, ?_, ?_⟩
 ·rw [World.cell?_setCell_other _ _ _ _ (by simp)]; exact s0
 ·rw [World.frozen?_setCell, World.frozen?_setCell]; exact h.f0
 ·rw [World.frozen?_setCell, World.frozen?_setCell]; exact h.f1
theorem Two.other {w : World} {R : Nat} {v0 v1 : Value} (h : Two w R v0 v1) (b i : Nat) (v : Value) (hne : b ≠ R) : Two (w.setCell ⟨b, i, none⟩ v) R v0 v1 :=
  ⟨by rw [World.cell?_setCell_other _ _ _ _ (by intro h; injection h with h1 h2; exact hne h1)]; exact h.c0,
   by rw [World.cell?_setCell_other _ _ _ _ (by intro h; injection h with h1 h2; exact hne h1)]; exact h.c1,
   by rw [World.frozen?_setCell]; exact h.f0, by rw [World.frozen?_setCell]; exact h.f1⟩
theorem Two.chg {S : Nat → Prop} {w w' : World} {R : Nat} {v0 v1 : Value} (h : Two w R v0 v1) (k : Chg S w w') (hs : ¬ S R) : Two w' R v0 v1 :=
 ⟨k.cell hs h.c0, k.cell hs h.c1, by rw [k.froz h.lt hs]; exact h.f0, by rw [k.froz h.lt hs]; exact h.f1⟩
theorem two_chg (w : World) (R : Nat) (u0 u1 : Value) : Chg (fun j => j = R) w ((w.setCell ⟨R, 0, none⟩ u0).setCell ⟨R, 1, none⟩ u1) :=
 (Chg.of_set (S := fun j => j = R) _ _ _ _ rfl).trans (Chg.of_set (S := fun j => j = R) _ _ _ _ rfl)
theorem two_below {w0 w : World} (h : Below w0.heap.size w0 w) (R : Nat) (hR : w0.heap.size ≤ R) (u0 u1 : Value) : Below w0.heap.size w0 ((w.setCell ⟨R, 0, none⟩ u0).setCell ⟨R, 1, none⟩ u1) :=
 (h.setCell (p := ⟨R, 0, none⟩) hR u0).setCell (p := ⟨R, 1, none⟩) hR u1
theorem FnG.two {α : Type} {g : α → Value} {w : World} {b off n : Nat} {f : Nat → α} (h : FnG g w b off n f) (R : Nat) (u0 u1 : Value) (hne : R ≠ b) : FnG g ((w.setCell ⟨R, 0, none⟩ u0).setCell ⟨R, 1, none⟩ u1) b off n f :=
 (h.other R 0 u0 hne).other R 1 u1 hne

def NewS (w w' : World) (s : Int) (n : Nat) (f : Nat → Nat) (v : Value) : Prop :=
 ∃ b c, v = setV s (some ⟨b, 0, none⟩) n c ∧ n ≤ c ∧ c ≤ maxLen ∧ w.heap.size ≤ b ∧ b < w'.heap.size ∧ FnW w' b 0 n f ∧ Below w.heap.size w w'

set_option maxHeartbeats 400000 in
theorem blank_any (n : Nat) (w : World) (hn : n ≤ 4096) : Calls Tryz.prog 92 #[.int .i64 (n : Int)] w fun r w' => ∃ v, r = .returned v ∧ NewS w w' n (nW n) (fun _ => 0) v := by
 have hm := make_words (nW n) (by unfold nW; omega)
 have hle : nW n ≤ 64 := by unfold nW; omega
 have HW := hide (show (n + 63) / 64 = nW n from rfl)
 generalize nW n = N at *
 go_enter Tryz.func92, Tryz.ntmps92
 go_wp2_with fail
 refine (wordsFor_any n _ hn).mono ?_
 rintro _ w1 ⟨rfl, rfl⟩
 rw [unhide HW]
 clear HW
 have HT := hide (Two.made w (.int .i64 0) (.slice none 0 0) 82)
 have HB := hide ((Below.refl w.heap.size w).alloc (Nat.le_refl _) (.cells #[.int .i64 0, .slice none 0 0] 82))
 have hz : (w.alloc (.cells #[.int .i64 0, .slice none 0 0] 82)).heap.size = w.heap.size + 1 := by simp
 generalize w.alloc (.cells #[.int .i64 0, .slice none 0 0] 82) = wa at *
 have HZ := hide hz
 have HT2 := hide ((unhide HT).keep ((Below.refl wa.heap.size wa).alloc (Nat.le_refl _) (.cells (madeCells #[.int .u64 0] N) 108)))
 have d0 := (unhide HT2).c0
 have d1 := (unhide HT2).c1
 have g0 := (unhide HT2).f0
 have g1 := (unhide HT2).f1
 clear hz
 go_wp2_with fail
 have T3 := (unhide HT2).set (.int .i64 n) (.slice (some ⟨wa.heap.size, 0, none⟩) N N)
 have p0 := T3.c0
 have p1 := T3.c1
 refine bodyPost_ret (by simp [results, Tryz.results92, go_sem, p0, p1]; try rfl) rfl ?_
 refine ⟨_, rfl, _, _, rfl, Nat.le_refl _, by unfold maxLen; omega, ?_, ?_, ?_, ?_⟩
 ·have := unhide HZ; omega
 ·simp
 ·refine FnG.two ?_ _ _ _ ?_
  ·exact FnG.made wa N 108 0 rfl
  ·have := unhide HZ; omega
 ·refine two_below ?_ _ (Nat.le_refl _) _ _
  exact (unhide HB).alloc (by have := unhide HZ; omega) _

set_option maxHeartbeats 400000 in
theorem put_any (s : Int) (b n c : Nat) (f : Nat → Nat) (e : Nat) (w : World) (hf : FnW w b 0 n f) (hlt : ∀ i, i < n → f i < 18446744073709551616) (he : e / 64 < n) (hn : n ≤ 64) :
  Calls Tryz.prog 80 #[setV s (some ⟨b, 0, none⟩) n c, .int .i64 (e : Int)] w fun r w' => r = .returned (.tuple #[]) ∧ FnW w' b 0 n (fun i => if i = e / 64 then f (e / 64) ||| 2 ^ (e % 64) else f i) ∧ Chg (fun j => j = b) w w' := by
 obtain ⟨q, hq⟩ : ∃ q, e / 64 = q := ⟨_, rfl⟩
 have hqi : (e : Int) / 64 = (q : Int) := by omega
 have KB := bit_any e
 have hm := pow_lt64 (Nat.mod_lt e (by decide : 0 < 64))
 rw [hq] at he ⊢
 generalize 2 ^ (e % 64) = m at *
 have hx := hlt q he
 have ho := u64_or_nat (f q) m hx hm
 have hbel := (Below.refl w.heap.size w).alloc (Nat.le_refl _) (.cells #[.int .i64 s, .slice (some ⟨b, 0, none⟩) n c] 82)
 have hf1 := hf.below hbel
 have hc0 : (w.alloc (.cells #[.int .i64 s, .slice (some ⟨b, 0, none⟩) n c] 82)).cell? ⟨w.heap.size, 1, none⟩ = some (.slice (some ⟨b, 0, none⟩) n c) := by simp
 have hwb : b ≠ w.heap.size := by
  have := World.block_lt_of_cell? _ _ (hf q he).1
  simp at this
  omega
 have he1 : e < 1000000 := by omega
 obtain ⟨wa, hwa⟩ : ∃ wa, w.alloc (.cells #[.int .i64 s, .slice (some ⟨b, 0, none⟩) n c] 82) = wa := ⟨_, rfl⟩
 rw [hwa] at hbel hf1 hc0
 have HS := hide (hf1.set q (f q ||| m) he)
 have hc1 := (hf1 q he).1
 have hc2 := (hf1 q he).2
 rw [Nat.zero_add] at hc1 hc2 HS
 have HQ := hide hbel
 have HB := hide hwb
 have HKB := hide (fun w => KB w he1)
 generalize f q = x at *
 unfold vU at hc1
 generalize hy : (x ||| m) = y at *
 have hqn : (q : Int) < (n : Int) := by omega
 have hq0 : (0 : Int) ≤ (q : Int) := by omega
 have hqw : IntKind.i64.wrap (q : Int) = (q : Int) := by rw [wrap_i64]; omega
 clear KB hf1 hbel hwb hf hy hlt hq
 unfold setV
 go_enter Tryz.func80, Tryz.ntmps80
 go_wp2_with fail
 go_region_with (
  go_at_call 103
  refine (unhide HKB _).mono ?_
  rintro _ w1 ⟨rfl, rfl⟩)
 all_goals
  go_wp2_with fail
  refine bodyPost_end (results_none rfl _ _ _) rfl ?_
  refine ⟨?_, ?_, ?_⟩
  ·rfl
  ·exact (unhide HS).below (Below.refl _ _).drew
  ·exact ((Chg.of_below (unhide HQ)).trans (Chg.of_set (S := fun j => j = b) _ _ _ _ rfl)).drew
theorem i64_and63 (n : Int) : bits .and .i64 n 63 = n % 64 := by
 have h63 : (BitVec.ofInt 64 63).toNat = 2 ^ 6 - 1 := by decide
 have key : (BitVec.ofInt 64 n &&& BitVec.ofInt 64 63).toNat = (n % ((2 ^ 64 : Nat) : Int)).toNat % 2 ^ 6 := by
  rw [BitVec.toNat_and, BitVec.toNat_ofInt, h63, Nat.and_two_pow_sub_one_eq_mod]
 show IntKind.i64.wrap ((BitVec.ofInt 64 n &&& BitVec.ofInt 64 63).toNat : Nat) = n % 64
 rw [key, wrap_i64]
 omega

def lastB (n : Nat) : Nat := 64 - (64 - n % 64) % 64
theorem ones_shift : ∀ M : Fin 64, (18446744073709551615 : Nat) / 2 ^ M.val = 2 ^ (64 - M.val) - 1 := by decide +kernel

set_option maxHeartbeats 400000 in
theorem inside_any (n : Nat) (w : World) (hn : n ≤ 4096) : Calls Tryz.prog 122 #[.int .i64 (n : Int)] w fun e w' => e = .returned (.int .u64 ((2 ^ lastB n - 1 : Nat) : Int)) ∧ w' = w := by
 have hA := i64_and63 (-(n : Int))
 rw [show -(n : Int) % 64 = (((64 - n % 64) % 64 : Nat) : Int) from by omega] at hA
 have hM : (64 - n % 64) % 64 < 64 := Nat.mod_lt _ (by decide)
 have HE := hide (ones_shift ⟨(64 - n % 64) % 64, hM⟩)
 simp only at HE
 unfold lastB
 generalize (64 - n % 64) % 64 = M at *
 go_enter Tryz.func122, Tryz.ntmps122
 go_wp2_with fail
 go_ret
 refine ⟨?_, rfl⟩
 show Ending.returned (.int .u64 ((18446744073709551615 : Int) / 2 ^ M)) = _
 rw [← unhide HE]
 congr 2

def MayS (s : Int) (xs : List Nat) : Bool :=
 fitsI s && decide (xs.length = nW s.toNat) && (List.range (64 * xs.length)).all (fun x => decide (x < s.toNat) || !hasB (fun i => xs.getD i 0) x)
theorem MayS.fits {s : Int} {xs : List Nat} (h : MayS s xs = true) : fitsI s = true := by
 simp only [MayS, Bool.and_eq_true] at h
 exact h.1.1
theorem MayS.len {s : Int} {xs : List Nat} (h : MayS s xs = true) : xs.length = nW s.toNat := by
 simp only [MayS, Bool.and_eq_true, decide_eq_true_eq] at h
 exact h.1.2
theorem MayS.zero {s : Int} {xs : List Nat} (h : MayS s xs = true) (x : Nat) (h1 : s.toNat ≤ x) (h2 : x < 64 * xs.length) : hasB (fun i => xs.getD i 0) x = false := by
 simp only [MayS, Bool.and_eq_true, List.all_eq_true, List.mem_range, Bool.or_eq_true, decide_eq_true_eq, Bool.not_eq_true'] at h
 rcases h.2 x h2 with h3 | h3
 ·omega
 ·exact h3
theorem MayS.mk {s : Int} {xs : List Nat} (h1 : fitsI s = true) (h2 : xs.length = nW s.toNat) (h3 : ∀ x, s.toNat ≤ x → x < 64 * xs.length → hasB (fun i => xs.getD i 0) x = false) : MayS s xs = true := by
 simp only [MayS, Bool.and_eq_true, List.all_eq_true, List.mem_range, Bool.or_eq_true, decide_eq_true_eq, Bool.not_eq_true']
 refine ⟨⟨h1, h2⟩, fun x hx => ?_⟩
 by_cases h : x < s.toNat
 ·exact .inl h
 ·exact .inr (h3 x (by omega) hx)
theorem MayS.no {s : Int} {xs : List Nat} {x : Nat} (h1 : s.toNat ≤ x) (h2 : x < 64 * xs.length) (h3 : hasB (fun i => xs.getD i 0) x = true) : MayS s xs = false := by
 cases h : MayS s xs
 ·rfl
 ·have := MayS.zero h x h1 h2
  rw [this] at h3
  cases h3
theorem tb_ones (r j : Nat) : (2 ^ r - 1).testBit j = decide (j < r) := Nat.testBit_two_pow_sub_one r j
theorem pow_le64 {r : Nat} (h : r ≤ 64) : 2 ^ r - 1 < 18446744073709551616 := by
 have : (2:Nat) ^ r ≤ 2 ^ 64 := Nat.pow_le_pow_right (by decide) h
 have e : (2:Nat) ^ 64 = 18446744073709551616 := by decide
 have := Nat.two_pow_pos r
 omega
theorem lastB_le (n : Nat) : lastB n ≤ 64 := by unfold lastB; omega
theorem lastB_eq (n : Nat) (h : 0 < nW n) : 64 * (nW n - 1) + lastB n = n := by unfold lastB nW at *; omega
theorem top_zero {x r : Nat} (hx : x < 18446744073709551616) (hr : r ≤ 64) : (anot x (2 ^ r - 1) = 0) ↔ ∀ j, r ≤ j → j < 64 → x.testBit j = false := by
 constructor
 ·intro h j h1 h2
  have := tb_anot (j := j) hx (pow_le64 hr)
  rw [h, tb_ones] at this
  simp at this
  cases hh : x.testBit j
  ·rfl
  ·have := this hh; omega
 ·intro h
  apply Nat.eq_of_testBit_eq
  intro j
  rw [tb_anot hx (pow_le64 hr), tb_ones]
  simp
  intro h1
  by_cases hj : j < 64
  ·by_cases hjr : j < r
   ·exact hjr
   ·rw [h j (by omega) hj] at h1; cases h1
  ·rw [tb_big hx (by omega)] at h1; cases h1

theorem may_top {n : Nat} {xs : List Nat} (hok : ∀ x ∈ xs, x < 18446744073709551616) (hn : n ≤ 4096) (hl : xs.length = nW n) (h0 : 0 < nW n) : MayS n xs = ((anot (xs.getD (nW n - 1) 0) (2 ^ lastB n - 1) : Nat) == 0) := by
 have hx : xs.getD (nW n - 1) 0 < 18446744073709551616 := by
  have : xs.getD (nW n - 1) 0 = xs[nW n - 1]'(by omega) := by simp [List.getD, show nW n - 1 < xs.length from by omega]
  rw [this]; exact hok _ (List.getElem_mem _)
 have he := lastB_eq n h0
 have hlb := lastB_le n
 have key : MayS n xs = true ↔ ∀ j, lastB n ≤ j → j < 64 → (xs.getD (nW n - 1) 0).testBit j = false := by
  constructor
  ·intro h j h1 h2
   have := MayS.zero h (64 * (nW n - 1) + j) (by simp; omega) (by rw [hl]; omega)
   unfold hasB at this
   rwa [show (64 * (nW n - 1) + j) / 64 = nW n - 1 from by omega, show (64 * (nW n - 1) + j) % 64 = j from by omega] at this
  ·intro h
   refine MayS.mk (by simp [fitsI]; omega) (by simpa using hl) (fun x h1 h2 => ?_)
   simp at h1
   rw [hl] at h2
   have e1 : x / 64 = nW n - 1 := by omega
   unfold hasB
   rw [e1]
   exact h (x % 64) (by omega) (by omega)
 rw [Bool.eq_iff_iff, key, ← top_zero hx hlb]
 simp

set_option maxHeartbeats 2000000 in
theorem may_any (s : Int) (a : Option Addr) (n c : Nat) (xs : List Nat) (w : World) (h : SlW w a n c xs) (hok : ∀ x ∈ xs, x < 18446744073709551616) :
  Calls Tryz.prog 100 #[setV s a n c] w fun r w' => r = .returned (.bool (MayS s xs)) ∧ Below w.heap.size w w' := by
 have hle := h.le
 have hcap := h.cap
 unfold maxLen at hcap
 have hl := h.len
 obtain ⟨wa, hwa⟩ : ∃ wa, w.alloc (.cells #[.int .i64 s, .slice a n c] 82) = wa := ⟨_, rfl⟩
 have hb : Below w.heap.size w wa := by rw [← hwa]; exact (Below.refl _ _).alloc (Nat.le_refl _) _
 have hT : Two wa w.heap.size (.int .i64 s) (.slice a n c) := by rw [← hwa]; exact Two.made _ _ _ _
 have t0 := hT.c0
 have t1 := hT.c1
 have HB := hide hb
 have HS := hide (h.below hb)
 have HK := hide (fits_any s)
 have HOk := hide hok
 clear hT hb h hok
 unfold setV
 cases hf : fitsI s
 ·have e0 : MayS s xs = false := by simp [MayS, hf]
  rw [e0]
  rw [hf] at HK
  clear hf
  go_enter Tryz.func100, Tryz.ntmps100
  go_wp2_with fail
  refine (unhide HK _).mono ?_
  rintro _ w' ⟨rfl, hw⟩
  obtain rfl := hw.symm
  go_wp2_with fail
  go_ret
  exact ⟨rfl, unhide HB⟩
 ·obtain ⟨sz, rfl, hsz⟩ := fitsI_nat hf
  rw [hf] at HK
  clear hf
  have HW := hide (fun w => wordsFor_any sz w hsz)
  have HNN := hide (show (sz + 63) / 64 = nW sz from rfl)
  by_cases hne : n = nW sz
  ·have HN0 := hide (fun h0 => may_top (unhide HOk) hsz (by rw [hl]; exact hne) h0)
   have hN : nW sz ≤ 64 := by unfold nW; omega
   by_cases h0 : n = 0
   ·have e0 : MayS sz xs = true := MayS.mk (by simp [fitsI]; omega) (by rw [hl, hne]; simp) (fun x h1 h2 => by rw [hl] at h2; omega)
    rw [e0]
    rw [← hne] at HNN
    subst h0
    clear hne HN0
    go_enter Tryz.func100, Tryz.ntmps100
    go_wp2_with fail
    refine (unhide HK _).mono ?_
    rintro _ w' ⟨rfl, hw⟩
    obtain rfl := hw.symm
    go_wp2_with fail
    refine (unhide HW _).mono ?_
    rintro _ w' ⟨rfl, hw⟩
    obtain rfl := hw.symm
    rw [unhide HNN]
    go_wp2_with fail
    go_quiet (fail)
    go_wp2_with fail
    go_ret
    exact ⟨rfl, bel_drewN (unhide HB) _⟩
   ·have hI := inside_any sz
    have e1 := unhide HN0 (by omega)
    obtain ⟨b, off, rfl, hc⟩ := (unhide HS).at (by omega)
    have hcell := hc (n - 1) (by omega)
    have hx : xs.getD (n - 1) 0 < 18446744073709551616 := by
     have : xs.getD (n - 1) 0 = xs[n - 1]'(by omega) := by simp [List.getD, show n - 1 < xs.length from by omega]
     rw [this]; exact (unhide HOk) _ (List.getElem_mem _)
    rw [← hne] at e1 HNN hN
    have hp := pow_le64 (lastB_le sz)
    have ha := u64_andNot_nat (xs.getD (n - 1) 0) (2 ^ lastB sz - 1) hx hp
    have HA := hide (show bits .andNot .u64 ((xs.getD (n - 1) 0 : Nat) : Int) ((2 ^ lastB sz - 1 : Nat) : Int) = ((anot (xs.getD (n - 1) 0) (2 ^ lastB sz - 1) : Nat) : Int) from ha)
    rw [e1]
    have HI := hide (fun w => hI w hsz)
    unfold vU at hcell
    have h1 : ((n : Int) == 0) = false := by simp; omega
    have h2 : ((n : Int) - 1).toNat = n - 1 := by omega
    have h3 : (0 : Int) ≤ (n : Int) - 1 := by omega
    have h4 : (n : Int) - 1 < (n : Int) := by omega
    generalize xs.getD (n - 1) 0 = x at *
    generalize (2 ^ lastB sz - 1) = m at *
    clear hc hI ha hne HN0 e1
    go_enter Tryz.func100, Tryz.ntmps100
    go_wp2_with fail
    refine (unhide HK _).mono ?_
    rintro _ w' ⟨rfl, hw⟩
    obtain rfl := hw.symm
    go_wp2_with fail
    refine (unhide HW _).mono ?_
    rintro _ w' ⟨rfl, hw⟩
    obtain rfl := hw.symm
    rw [unhide HNN]
    go_wp2_with fail
    go_quiet ((go_at_call 122; exact Calls.quiet_of_same (unhide HI _)))
    go_wp2_with fail
    go_ret
    refine ⟨?_, bel_drewN (unhide HB) _⟩
    show Ending.returned (.bool (bits .andNot .u64 (x : Int) (m : Int) == 0)) = _
    rw [unhide HA]
    generalize anot x m = y
    congr 2
    rw [Bool.eq_iff_iff]
    simp
  ·have e0 : MayS sz xs = false := by
    simp [MayS]
    intro _ h3
    rw [hl] at h3
    exact absurd h3 hne
   rw [e0]
   have hN : nW sz ≤ 64 := by unfold nW; omega
   generalize nW sz = N at *
   have hne' : ((n : Int) == (N : Int)) = false := by simp; omega
   clear hne
   go_enter Tryz.func100, Tryz.ntmps100
   go_wp2_with fail
   refine (unhide HK _).mono ?_
   rintro _ w' ⟨rfl, hw⟩
   obtain rfl := hw.symm
   go_wp2_with fail
   refine (unhide HW _).mono ?_
   rintro _ w' ⟨rfl, hw⟩
   obtain rfl := hw.symm
   rw [unhide HNN]
   go_wp2_with fail
   go_ret
   exact ⟨rfl, unhide HB⟩
section
variable {P : Program} {w : World}
end

theorem SlG.news {α : Type} {g : α → Value} {d : α} {w : World} {a : Option Addr} {n c : Nat} {xs : List α} (h : SlG g d w a n c xs) : ∀ ad, a = some ad → ∀ j u, (xs.map g)[j]? = some u → w.cell? (ad.add j) = some u := by
 intro ad had j u hu
 have hj : j < xs.length := by
  have := (List.getElem?_eq_some_iff.1 hu).1
  simpa using this
 obtain ⟨b, off, e, hc⟩ := h.at (by rw [← h.len]; omega)
 rw [e] at had
 cases had
 rw [addr_add, hc j (by rw [← h.len]; exact hj), ← hu]
 simp [List.getD, hj]

theorem own_sl {α : Type} {g : α → Value} {w : World} {base b n c : Nat} {e : TypeId} {xs : List α} (d : α) (h : w.ownsRow base e 1 (.slice (some ⟨b, 0, none⟩) n c) n (xs.map g)) : SlG g d w (some ⟨b, 0, none⟩) n c xs := by
 obtain ⟨h1, h2, h3, h4, h5⟩ := own_fn d h
 have := h5.sl (d := d) h2 h3
 subst h1
 rwa [lstG_self] at this
theorem SlG.init {α : Type} {g : α → Value} {d : α} {w : World} {a : Option Addr} {n c : Nat} {xs : List α} {y : α} (h : SlG g d w a (n + 1) c (xs ++ [y])) : SlG g d w a n c xs := by
 have := h.pre (m := n) (by omega)
 have hl := h.len
 simp at hl
 rwa [List.take_append_of_le_length (by omega), List.take_of_length_le (by omega)] at this
theorem SlG.last {α : Type} {g : α → Value} {d : α} {w : World} {b n c : Nat} {xs : List α} {y : α} (h : SlG g d w (some ⟨b, 0, none⟩) (n + 1) c (xs ++ [y])) : w.cell? ⟨b, n, none⟩ = some (g y) := by
 have hl := h.len
 simp at hl
 obtain ⟨b', o', e, hc⟩ := h.at (by omega)
 cases e
 have := hc n (by omega)
 rw [Nat.zero_add] at this
 rw [this]
 subst hl
 simp [List.getD]
end Go.Proofs.YtbbicappjicblaaGreatDoor.Bs
namespace Go.Proofs.YtbbicappjicblaaGreatDoor.Bs
open Go.ChangeShapes Go.WideShapes Go.ChangeAt Go.RowKit Go.Deep
set_option linter.unusedVariables false
structure Fact where
 p : World → Prop
 st : ∀ {w w' : World}, Below w.heap.size w w' → p w → p w'
structure Facts (w0 w : World) (L : List Fact) : Prop where
 bel : Below w0.heap.size w0 w
 all : ∀ f ∈ L, f.p w
theorem Facts.step {w0 w w' : World} {L : List Fact} (h : Facts w0 w L) (k : Below w.heap.size w w') : Facts w0 w' L :=
 ⟨h.bel.trans (k.mono h.bel.size), fun f hf => f.st k (h.all f hf)⟩
theorem Facts.add {w0 w : World} {L : List Fact} (h : Facts w0 w L) (f : Fact) (hf : f.p w) : Facts w0 w (f :: L) :=
 ⟨h.bel, fun g hg => by rcases List.mem_cons.1 hg with rfl | hg; exact hf; exact h.all g hg⟩
def fW (a : Option Addr) (n c : Nat) (xs : List Nat) : Fact := ⟨fun w => SlW w a n c xs, fun k h => h.below k⟩
def fI (a : Option Addr) (n c : Nat) (xs : List Int) : Fact := ⟨fun w => SlI w a n c xs, fun k h => h.below k⟩
def fT (R : Nat) (v0 v1 : Value) : Fact := ⟨fun w => Two w R v0 v1, fun k h => h.keep k⟩
theorem Facts.w {w0 w : World} {L : List Fact} (h : Facts w0 w L) (a : Option Addr) (n c : Nat) (xs : List Nat) (hm : fW a n c xs ∈ L) : SlW w a n c xs := h.all _ hm
theorem Facts.i {w0 w : World} {L : List Fact} (h : Facts w0 w L) (a : Option Addr) (n c : Nat) (xs : List Int) (hm : fI a n c xs ∈ L) : SlI w a n c xs := h.all _ hm
theorem Facts.t {w0 w : World} {L : List Fact} (h : Facts w0 w L) (R : Nat) (v0 v1 : Value) (hm : fT R v0 v1 ∈ L) : Two w R v0 v1 := h.all _ hm
theorem Facts.box {w0 w : World} {L : List Fact} (h : Facts w0 w L) (v0 v1 : Value) (e : TypeId) : Facts w0 (w.alloc (.cells #[v0, v1] e)) (fT w.heap.size v0 v1 :: L) :=
 (h.step ((Below.refl _ _).alloc (Nat.le_refl _) _)).add (fT w.heap.size v0 v1) (Two.made _ _ _ _)
theorem Facts.set {w0 w w' : World} {L : List Fact} (h : Facts w0 w L) {s : Int} {a : Option Addr} {n c : Nat} {xs : List Nat} (hs : SlW w' a n c xs) (hb : Below w.heap.size w w') (e : TypeId) :
  Facts w0 (w'.alloc (.cells #[.int .i64 s, .slice a n c] e)) (fT w'.heap.size (.int .i64 s) (.slice a n c) :: fW a n c xs :: L) :=
 ((h.step hb).add (fW a n c xs) hs).box _ _ _

theorem law_own : ownKnob Tryz.prog.godebug = none := by kernel_rfl
theorem law_laid : laidOutB Tryz.prog = true := by kernel_rfl

theorem law_bytesI : Tryz.prog.bytesOf 3 = 8 := by kernel_rfl
theorem law_cellsI : Tryz.prog.cellsOf 3 = 1 := by kernel_rfl
def OkW (xs : List Nat) : Prop := ∀ x ∈ xs, x < 18446744073709551616
end Go.Proofs.YtbbicappjicblaaGreatDoor.Bs
namespace Go.Proofs.YtbbicappjicblaaGreatDoor.Bs
open Go.RowKit Go.Deep
set_option linter.unusedVariables false
structure SetC where
 s : Int
 a : Option Addr
 n : Nat
 c : Nat
 xs : List Nat
def SetC.nul : SetC := ⟨0, none, 0, 0, []⟩
def SetC.In (e : SetC) (w : World) : Prop := SlW w e.a e.n e.c e.xs ∧ OkW e.xs
theorem SetC.In.below {e : SetC} {w w' : World} (h : e.In w) (k : Below w.heap.size w w') : e.In w' := ⟨h.1.below k, h.2⟩

structure SlS (w : World) (a : Option Addr) (n c : Nat) (L : List SetC) : Prop where
 len : L.length = n
 le : n ≤ c
 cap : c ≤ maxLen
 cells : L = [] ∨ ∃ b off, a = some ⟨b, off, none⟩ ∧ ∀ i, i < L.length → w.cell? ⟨b, off + i * 2, none⟩ = some (.int .i64 (L.getD i .nul).s) ∧ w.cell? ⟨b, off + i * 2 + 1, none⟩ = some (.slice (L.getD i .nul).a (L.getD i .nul).n (L.getD i .nul).c)
 all : ∀ e ∈ L, e.In w
theorem SlS.below {w w' : World} {a : Option Addr} {n c : Nat} {L : List SetC} (h : SlS w a n c L) (hb : Below w.heap.size w w') : SlS w' a n c L :=
 ⟨h.len, h.le, h.cap, h.cells.imp id (fun ⟨b, off, e, k⟩ => ⟨b, off, e, fun i hi => ⟨below_cell hb (k i hi).1, below_cell hb (k i hi).2⟩⟩), fun e he => (h.all e he).below hb⟩
theorem SlS.at {w : World} {a : Option Addr} {n c : Nat} {L : List SetC} (h : SlS w a n c L) (hn : 0 < n) : ∃ b off, a = some ⟨b, off, none⟩ ∧ ∀ i, i < n → w.cell? ⟨b, off + i * 2, none⟩ = some (.int .i64 (L.getD i .nul).s) ∧ w.cell? ⟨b, off + i * 2 + 1, none⟩ = some (.slice (L.getD i .nul).a (L.getD i .nul).n (L.getD i .nul).c) := by
 rcases h.cells with e | ⟨b, off, e, k⟩
 ·have := h.len; rw [e] at this; simp at this; omega
 ·exact ⟨b, off, e, fun i hi => k i (by rw [h.len]; exact hi)⟩
theorem SlS.get {w : World} {a : Option Addr} {n c : Nat} {L : List SetC} (h : SlS w a n c L) (i : Nat) (hi : i < n) : (L.getD i .nul).In w := by
 have hl : i < L.length := by rw [h.len]; exact hi
 have : L.getD i .nul = L[i] := by simp [List.getD, hl]
 rw [this]; exact h.all _ (List.getElem_mem hl)

theorem any_takeS {l : List SetC} {k : Nat} (hk : k < l.length) (p : SetC → Bool) : (l.take (k + 1)).any p = (p (l.getD k .nul) || (l.take k).any p) := by
 rw [List.take_add_one, List.getElem?_eq_getElem hk, List.any_append, Bool.or_comm]
 simp [List.getD, hk]
theorem any_badS {l : List SetC} {p : SetC → Bool} {k : Nat} (hk : k < l.length) (h : p (l.getD k .nul) = true) : l.any p = true := by
 rw [List.any_eq_true]
 refine ⟨l[k], List.getElem_mem hk, ?_⟩
 simpa [List.getD, hk] using h

def notMay (e : SetC) : Bool := !MayS e.s e.xs
def offS (size : Int) (e : SetC) : Bool := decide (e.s ≠ size)
def alikeE (size : Int) (L : List SetC) : Int := if L.any notMay then 61 else if (!fitsI size) || L.any (offS size) then 60 else 0

set_option maxHeartbeats 2000000 in
theorem alike_any (size : Int) (a : Option Addr) (n c : Nat) (L : List SetC) (w : World) (h : SlS w a n c L) :
  Calls Tryz.prog 110 #[.int .i64 size, .slice a n c] w fun r w' => r = .returned (.int .i64 (alikeE size L)) ∧ Below w.heap.size w w' := by
 have hle := h.le
 have hcap := h.cap
 unfold maxLen at hcap
 have HSl := hide h
 have HLn := hide h.len
 have HK := hide (fits_any size)
 obtain ⟨fv, hfv⟩ : ∃ f, fitsI size = f := ⟨_, rfl⟩
 rw [hfv] at HK
 have HFV := hide hfv
 clear h hfv
 go_enter Tryz.func110, Tryz.ntmps110
 go_wp2_with fail
 refine (unhide HK _).mono ?_
 rintro _ w' ⟨rfl, hw⟩
 obtain rfl := hw.symm
 go_wp2_with fail
 go_loopw [13, 5, 7] (fun i o _ wr => ∃ k : Nat, k ≤ n ∧ i = .int .i64 k ∧ o = .bool ((!fv) || (L.take k).any (offS size)) ∧ (L.take k).any notMay = false ∧ Below w.heap.size w wr) (fun i _ _ _ => n - (intOf i).toNat)
 case atStart => exact ⟨0, Nat.zero_le _, rfl, by simp, rfl, Below.refl _ _⟩
 case round =>
  obtain ⟨k, hk, rfl, rfl, hok, hbl⟩ := hrel
  by_cases hlt : k < n
  ·have hlt' : (k : Int) < (n : Int) := by omega
   have hkl : k < L.length := by rw [unhide HLn]; exact hlt
   have hS := (unhide HSl).below hbl
   obtain ⟨b, off, rfl, hcells⟩ := hS.at (by omega)
   have g1 := (hcells k hlt).1
   have g2 := (hcells k hlt).2
   have hin := hS.get k hlt
   have HAny := hide (any_takeS hkl (offS size))
   have HAny2 := hide (any_takeS hkl notMay)
   have HBad := hide (fun h => any_badS (p := notMay) hkl h)
   obtain ⟨e, he⟩ : ∃ e, L.getD k .nul = e := ⟨_, rfl⟩
   rw [he] at g1 g2 hin HAny HAny2 HBad
   obtain ⟨es, ea, en, ec, exs⟩ := e
   simp only at g1 g2
   have hal : Below wr.heap.size wr (wr.alloc (.cells #[.int .i64 es, .slice ea en ec] 82)) := (Below.refl _ _).alloc (Nat.le_refl _) _
   have K := may_any es ea en ec exs (wr.alloc (.cells #[.int .i64 es, .slice ea en ec] 82)) (hin.1.below hal) hin.2
   have tZ : Two (wr.alloc (.cells #[.int .i64 es, .slice ea en ec] 82)) wr.heap.size (.int .i64 es) (.slice ea en ec) := Two.made _ _ _ _
   have HZ := hide (And.intro tZ (hbl.trans (hal.mono hbl.size)))
   unfold setV at K
   have HO := hide hok
   generalize hov : ((!fv) || (L.take k).any (offS size)) = ov at *
   have HOV := hide hov
   clear hov
   clear hcells hin he hal tZ hbl hS hok
   cases hm : MayS es exs
   ·rw [hm] at K
    have HKM := hide K
    have HE := hide (show alikeE size L = 61 by
     have : L.any notMay = true := unhide HBad (by simp [notMay, hm])
     simp [alikeE, this])
    clear K hm
    go_wp2_with fail
    refine (unhide HKM).mono ?_
    rintro _ w2 ⟨rfl, hb2⟩
    have HB2 := hide ((unhide HZ).2.trans (hb2.mono (unhide HZ).2.size))
    clear hb2 HKM
    go_wp2_with fail
    go_ret
    rw [unhide HE]
    exact ⟨rfl, unhide HB2⟩
   ·rw [hm] at K
    have HKM := hide K
    have HM := hide hm
    clear K hm
    go_wp2_with fail
    refine (unhide HKM).mono ?_
    rintro _ w2 ⟨rfl, hb2⟩
    have HB2 := hide ((unhide HZ).2.trans (hb2.mono (unhide HZ).2.size))
    have t2 := (unhide HZ).1.keep hb2
    have t20 := t2.c0
    clear hb2 HKM t2
    have HO2 := hide (show (L.take (k + 1)).any notMay = false by rw [unhide HAny2, unhide HO]; simp [notMay, unhide HM])
    have HV := hide (show ∀ v, v = (offS size ⟨es, ea, en, ec, exs⟩ || ov) → v = ((!fv) || (L.take (k + 1)).any (offS size)) by
     intro v hv
     rw [hv, unhide HAny, ← unhide HOV]
     cases fv <;> cases offS size ⟨es, ea, en, ec, exs⟩ <;> simp)
    cases ov
    ·by_cases hes : es = size
     ·subst hes
      go_wp2_with fail
      exact ⟨⟨k + 1, by omega, by go_num, by rw [← unhide HV false (by simp [offS])], unhide HO2, unhide HB2⟩, by simp [intOf]; omega⟩
     ·have hes' : (es == size) = false := by simpa using hes
      go_wp2_with fail
      exact ⟨⟨k + 1, by omega, by go_num, by rw [← unhide HV true (by simp [offS, hes])]; congr 1; simpa using hes, unhide HO2, unhide HB2⟩, by simp [intOf]; omega⟩
    ·go_wp2_with fail
     exact ⟨⟨k + 1, by omega, by go_num, by rw [← unhide HV true (by simp)], unhide HO2, unhide HB2⟩, by simp [intOf]; omega⟩
  ·have hlt' : ¬ (k : Int) < (n : Int) := by omega
   have hkn : k = n := by omega
   subst hkn
   have hall : L.take k = L := by rw [List.take_of_length_le]; rw [unhide HLn]; exact Nat.le_refl _
   rw [hall] at hok ⊢
   have HB2 := hide hbl
   have HE := hide (show alikeE size L = if ((!fv) || L.any (offS size)) = true then 60 else 0 by simp [alikeE, hok, unhide HFV])
   clear hall hok hbl
   cases hv : ((!fv) || L.any (offS size))
   ·rw [hv] at HE
    clear hv
    go_wp2_with fail
    go_ret
    rw [unhide HE]
    exact ⟨rfl, unhide HB2⟩
   ·rw [hv] at HE
    clear hv
    go_wp2_with fail
    go_ret
    rw [unhide HE]
    exact ⟨rfl, unhide HB2⟩
end Go.Proofs.YtbbicappjicblaaGreatDoor.Bs
