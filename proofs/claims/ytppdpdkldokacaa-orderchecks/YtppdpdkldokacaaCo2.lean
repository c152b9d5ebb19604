/-
  BOUNDS: order.Inverse; longest, longestRow, longestColumn, twoIfAny: contracts.
-/
import Derived.Test.YtppdpdkldokacaaCh2
import Derived.Test.YtppdpdkldokacaaRq0
import Derived.Lib.MinMax
import Derived.Test.YtppdpdkldokacaaCo1
import Derived.Test.YtppdpdkldokacaaSi3
namespace Go.Proofs.Ytppdpdkldokacaa
open Go.RowKit Go.Deep
set_option linter.unusedVariables false

set_option maxRecDepth 100000 in
set_option maxHeartbeats 8000000 in
/-- order.Inverse of an order. -/
theorem oinv_yes (a : Option Addr) (n c : Nat) (xs : List Int) (w : World) (h : SlI w a n c xs) (hn : n ≤ 128) (ho : OrdTo xs n n) :
    Calls Try.prog 6 #[.slice a n c] w fun e w' => ∃ g, w.heap.size ≤ g ∧ e = .returned (.tuple #[.slice (some ⟨g, 0, none⟩) n n, .int .i64 0]) ∧ RoV w' g n (fun v => .int .i64 (posI xs n v)) ∧ Below w.heap.size w w' := by
  have h8 : ¬ (128 : Int) < (n : Int) := by omega
  have KP := hide (oplaces_any a n c xs n w h (by omega) hn true ⟨fun _ => ⟨h.len, ho⟩, fun _ => rfl⟩)
  clear h ho
  go_enter Try.func6, Try.ntmps6
  go_wp2_with fail
  refine (unhide KP).mono ?_
  rintro _ w2 ⟨b2, _, hy⟩
  obtain ⟨g, hg, rfl, hR⟩ := hy rfl
  have HB := hide b2
  have HR := hide hR
  clear KP b2 hy hR
  go_wp2_with fail
  refine bodyPost_ret (by simp [results, Try.results6, go_sem]; try rfl) rfl ?_
  exact ⟨g, hg, rfl, unhide HR, unhide HB⟩
/-- The longest of k lines. -/
structure LgT (f : Nat → Nat) (k y : Nat) : Prop where
  le : ∀ i, i < k → f i ≤ y
  at_ : y = 0 ∨ ∃ i, i < k ∧ f i = y
theorem LgT.next {f : Nat → Nat} {k y : Nat} (h : LgT f k y) : LgT f (k + 1) (max y (f k)) := by
  refine ⟨fun i hi => ?_, ?_⟩
  · by_cases e : i = k
    · subst e; omega
    · have := h.le i (by omega); omega
  · by_cases c : y ≤ f k
    · rcases Nat.eq_zero_or_pos (f k) with z | z
      · left; omega
      · right; exact ⟨k, by omega, by omega⟩
    · rcases h.at_ with e | ⟨i, hi, e⟩
      · left; omega
      · right; exact ⟨i, by omega, by omega⟩
theorem LgT.one {f : Nat → Nat} {k y z : Nat} (h : LgT f k y) (g : LgT f k z) : y = z := by
  have h1 : y ≤ z := by
    rcases h.at_ with e | ⟨i, hi, e⟩
    · omega
    · have := g.le i hi; omega
  have h2 : z ≤ y := by
    rcases g.at_ with e | ⟨i, hi, e⟩
    · omega
    · have := h.le i hi; omega
  omega
theorem rowL_len {R : Nat} {width : Int} {st cols : List Int} (hm : MayP (R : Int) width st cols) {r : Nat} (hr : r < R) : (rowL st cols r).length = (st.getD (r + 1) 0).toNat - (st.getD r 0).toNat := by
  obtain ⟨X, Y, h⟩ := hm.rowAt (k := r) (by omega)
  unfold rowL
  rw [List.length_take, List.length_drop, h.hX, h.hY]
  have := h.lt
  omega
end Go.Proofs.Ytppdpdkldokacaa

namespace Go.Proofs.Ytppdpdkldokacaa
open Go.RowKit Go.Deep
set_option linter.unusedVariables false

theorem RoV.sl2 {W : World} {g R : Nat} {f : Nat → Int} (h : RoV W g R (fun i => .int .i64 (f i))) (hR : R ≤ 128) : SlI W (some ⟨g, 0, none⟩) R R ((List.range R).map f) :=
  ⟨by simp, Nat.le_refl _, by unfold maxLen; omega, .inr ⟨g, 0, rfl, fun i hi => by
    have hi' : i < R := by simpa using hi
    rw [Nat.zero_add, (h i hi').1]
    simp [List.getD, hi']⟩⟩
set_option maxHeartbeats 1000000 in
/-- slopelaw11.num. -/
theorem num11_any (x : Int) (w : World) : Calls Try.prog 7 #[.int .i64 x] w fun e w' => e = .returned (.int .i64 x) ∧ w' = w := by
  go_enter Try.func7, Try.ntmps7
  go_wp2_with fail
  try go_ret
  exact ⟨rfl, rfl⟩
/-- Both Checks tell the same. -/
theorem check_two (x : Int) (n : Nat) (xs : List Int) (hl : xs.length = n) (hn : n ≤ 17592186044000) : ∃ er : Int, (∀ (a : Option Addr) (c : Nat) (w : World), SlI w a n c xs → Calls Try.prog 13 #[.int .i64 x, .slice a n c] w fun e w' => e = .returned (.int .i64 er) ∧ Below w.heap.size w w') ∧ (∀ (a : Option Addr) (c : Nat) (w : World), SlI w a n c xs → Calls Try.prog 14 #[.int .i64 x, .slice a n c] w fun e w' => e = .returned (.int .i64 er) ∧ Below w.heap.size w w') := by
  by_cases h : x < 0 ∨ 128 < x
  · exact ⟨220, fun a c w _ => ocheck_out x a n c w h, fun a c w _ => wocheck_out x a n c w h⟩
  · obtain ⟨m, rfl⟩ : ∃ m : Nat, x = (m : Int) := ⟨x.toNat, by omega⟩
    obtain ⟨ok, hok⟩ := truth (IsOrd xs m)
    refine ⟨chkE ok, fun a c w hs => (ocheck_in a n c xs m w hs (by omega) (by omega) ok hok).mono (fun e w' h => ?_), fun a c w hs => wocheck_in a n c xs m w hs (by omega) (by omega) ok hok⟩
    unfold chkE
    cases ok <;> simpa using h
set_option maxRecDepth 100000 in
set_option maxHeartbeats 16000000 in
/-- slopelaw11.checks. -/
theorem ochecks_any (x : Int) (a b : Option Addr) (n c d : Nat) (xs : List Int) (w : World) (ha : SlI w a n c xs) (hb : SlI w b n d xs) (hn : n ≤ 17592186044000) :
    Calls Try.prog 5 #[.int .i64 x, .slice a n c, .slice b n d] w fun e w' => e = .returned (.bool true) ∧ Below w.heap.size w w' := by
  obtain ⟨er, hc1, hc2⟩ := check_two x n xs ha.len hn
  have HC := hide (And.intro hc1 hc2)
  have HA := hide ha
  have HB := hide hb
  have e0 : (er == er) = true := by simp
  clear hc1 hc2
  by_cases hy : n ≤ 128 ∧ IsOrd xs n
  · have KI := hide (oinv_yes a n c xs w ha hy.1 hy.2.2)
    have HY := hide hy
    clear ha hb hy
    go_enter Try.func5, Try.ntmps5
    go_wp2_with fail
    refine (unhide KI).mono ?_
    rintro _ w2 ⟨g, _, rfl, hr, b2⟩
    have KW := hide (woinv_yes b n d xs w2 ((unhide HB).below b2) (unhide HY).1 (unhide HY).2.2)
    have HR := hide hr
    have HB2 := hide b2
    clear KI hr b2
    go_wp2_with fail
    refine (unhide KW).mono ?_
    rintro _ w3 ⟨g', _, rfl, hr', b3⟩
    have HB3 := hide ((unhide HB2).trans (b3.mono (unhide HB2).size))
    have HL := hide (And.intro (((unhide HR).below b3).sl2 (unhide HY).1) (hr'.sl2 (unhide HY).1))
    clear KW hr' b3
    go_wp2_with fail
    refine ((unhide HC).1 a c w3 ((unhide HA).below (unhide HB3))).mono ?_
    rintro _ w4 ⟨rfl, b4⟩
    have HB4 := hide ((unhide HB3).trans (b4.mono (unhide HB3).size))
    have HL4 := hide (And.intro ((unhide HL).1.below b4) ((unhide HL).2.below b4))
    clear b4 HL
    go_wp2_with fail
    refine (num11_any er w4).mono ?_
    rintro _ wn ⟨rfl, hwn⟩
    rw [hwn]
    clear hwn wn
    go_wp2_with fail
    refine ((unhide HC).2 b d w4 ((unhide HB).below (unhide HB4))).mono ?_
    rintro _ w5 ⟨rfl, b5⟩
    have HB5 := hide ((unhide HB4).trans (b5.mono (unhide HB4).size))
    have HL5 := hide (And.intro ((unhide HL4).1.below b5) ((unhide HL4).2.below b5))
    clear b5 HL4
    go_wp2_with fail
    refine (num11_any 0 w5).mono ?_
    rintro _ wn ⟨rfl, hwn⟩
    rw [hwn]
    clear hwn wn
    go_wp2_with fail
    refine (sameInts_eq _ _ n n n _ w5 (unhide HL5).1 (unhide HL5).2 (by omega)).mono ?_
    rintro _ w6 ⟨rfl, k6, hk6⟩
    have HB6 := hide (show Below w.heap.size w w6 by rw [hk6]; exact bel_drewN (unhide HB5) k6)
    clear hk6
    go_wp2_with fail
    try go_ret
    exact ⟨rfl, unhide HB6⟩
  · have KI := hide (oinv_no a n c xs w ha (by omega) hy)
    have HY := hide hy
    clear ha hb hy
    go_enter Try.func5, Try.ntmps5
    go_wp2_with fail
    refine (unhide KI).mono ?_
    rintro _ w2 ⟨rfl, b2⟩
    have KW := hide (woinv_no b n d xs w2 ((unhide HB).below b2) (by omega) (unhide HY))
    have HB2 := hide b2
    clear KI b2
    go_wp2_with fail
    refine (unhide KW).mono ?_
    rintro _ w3 ⟨rfl, b3⟩
    have HB3 := hide ((unhide HB2).trans (b3.mono (unhide HB2).size))
    clear KW b3
    go_wp2_with fail
    refine ((unhide HC).1 a c w3 ((unhide HA).below (unhide HB3))).mono ?_
    rintro _ w4 ⟨rfl, b4⟩
    have HB4 := hide ((unhide HB3).trans (b4.mono (unhide HB3).size))
    clear b4
    go_wp2_with fail
    refine (num11_any er w4).mono ?_
    rintro _ wn ⟨rfl, hwn⟩
    rw [hwn]
    clear hwn wn
    go_wp2_with fail
    refine ((unhide HC).2 b d w4 ((unhide HB).below (unhide HB4))).mono ?_
    rintro _ w5 ⟨rfl, b5⟩
    have HB5 := hide ((unhide HB4).trans (b5.mono (unhide HB4).size))
    clear b5
    go_wp2_with fail
    refine (num11_any 182 w5).mono ?_
    rintro _ wn ⟨rfl, hwn⟩
    rw [hwn]
    clear hwn wn
    go_wp2_with fail
    refine (sameInts_eq none none 0 0 0 [] w5 (SlI.nil _) (SlI.nil _) (by omega)).mono ?_
    rintro _ w6 ⟨rfl, k6, hk6⟩
    have HB6 := hide (show Below w.heap.size w w6 by rw [hk6]; exact bel_drewN (unhide HB5) k6)
    clear hk6
    go_wp2_with fail
    try go_ret
    exact ⟨rfl, unhide HB6⟩
end Go.Proofs.Ytppdpdkldokacaa
