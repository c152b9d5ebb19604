/-
  COLOURS: colour.mayAll, sloperef12.mayColours: contracts; classes, plain.
-/
import Derived.Test.YtkbcmnjgkmkeaaaGreatCh3
import Derived.Test.YtkbcmnjgkmkeaaaGreatCga
namespace Go.Proofs.YtkbcmnjgkmkeaaaGreat
open Go.RowKit Go.Deep
set_option linter.unusedVariables false

/-- The first k are colours. -/
def MayC (xs : List Int) (k : Nat) : Prop := ∀ i, i < k → 0 ≤ xs.getD i 0 ∧ xs.getD i 0 ≤ 65536
theorem MayC.next {xs : List Int} {k : Nat} {x : Int} (h : MayC xs k) (hx : xs.getD k 0 = x) (h0 : 0 ≤ x) (h1 : x ≤ 65536) : MayC xs (k + 1) := fun i hi => by
  by_cases e : i = k
  · subst e; rw [hx]; exact ⟨h0, h1⟩
  · exact h i (by omega)
set_option maxRecDepth 100000 in
set_option maxHeartbeats 8000000 in
/-- colour.mayAll. -/
theorem cmayAll_any (a : Option Addr) (n c : Nat) (xs : List Int) (w : World) (h : SlI w a n c xs) (hn : n ≤ 17592186044416) (ok : Bool) (hok : TruQ ok (MayC xs n)) :
    Calls Tryz.prog 11 #[.slice a n c] w fun e w' => e = .returned (.bool ok) ∧ Below w.heap.size w w' := by
  have HS := hide h
  have HOK := hide hok
  clear h hok
  go_enter Tryz.func11, Tryz.ntmps11
  go_wp2_with fail
  go_loopw [7, 4] (fun kv _ wr => ∃ k : Nat, k ≤ n ∧ kv = .int .i64 (k : Int) ∧ Hid (MayC xs k) ∧ Hid (Below w.heap.size w wr)) (fun kv _ _ => n - (intOf kv).toNat)
  case atStart => exact ⟨0, Nat.zero_le _, rfl, hide (fun i hi => absurd hi (Nat.not_lt_zero _)), hide (Below.refl _ _)⟩
  case round =>
    obtain ⟨k, hk, rfl, HM, HW⟩ := hrel
    by_cases hlt : k < n
    · have hlt' : (k : Int) < (n : Int) := by omega
      obtain ⟨bb, off, e1, hc⟩ := ((unhide HS).below (unhide HW)).at (by omega)
      subst e1
      have sk := hc k hlt
      obtain ⟨x, hx⟩ : ∃ x, xs.getD k 0 = x := ⟨_, rfl⟩
      rw [hx] at sk
      have HX := hide hx
      clear hc hx
      by_cases hr : 0 ≤ x ∧ x ≤ 65536
      · have hx0 : ¬ x < 0 := by omega
        have hx1 : ¬ 65536 < x := by omega
        have HM2 := hide ((unhide HM).next (unhide HX) hr.1 hr.2)
        clear hr
        go_wp2_with fail
        exact ⟨⟨k + 1, by omega, by (first | rfl | go_num), HM2, HW⟩, by simp [intOf]; omega⟩
      · have HF := hide (show ok = false from by
          rw [Bool.eq_false_iff]
          intro e
          have := Iff.mp (unhide HOK) e k hlt
          rw [unhide HX] at this
          exact hr this)
        by_cases h0 : x < 0
        · clear hr
          go_wp2_with fail
          try go_ret
          exact ⟨by have e := unhide HF; subst e; rfl, unhide HW⟩
        · have hx1 : 65536 < x := by omega
          clear hr
          go_wp2_with fail
          try go_ret
          exact ⟨by have e := unhide HF; subst e; rfl, unhide HW⟩
    · obtain rfl : k = n := by omega
      have hlt' : ¬ (k : Int) < (k : Int) := by omega
      have HT := hide (show ok = true from Iff.mpr (unhide HOK) (unhide HM))
      go_wp2_with fail
      try go_ret
      exact ⟨by have e := unhide HT; subst e; rfl, unhide HW⟩
set_option maxRecDepth 100000 in
set_option maxHeartbeats 8000000 in
/-- sloperef12.mayColours. -/
theorem wmayC_any (a : Option Addr) (n c : Nat) (xs : List Int) (w : World) (h : SlI w a n c xs) (hn : n ≤ 17592186044416) (ok : Bool) (hok : TruQ ok (MayC xs n)) :
    Calls Tryz.prog 14 #[.int .i64 (n : Int), .slice a n c] w fun e w' => e = .returned (.bool ok) ∧ Below w.heap.size w w' := by
  have HS := hide h
  have HOK := hide hok
  have tn : ((n:Int) != (n:Int)) = false := by simp
  clear h hok
  go_enter Tryz.func14, Tryz.ntmps14
  go_wp2_with fail
  go_loopw [5, 10] (fun kv _ wr => ∃ k : Nat, k ≤ n ∧ kv = .int .i64 (k : Int) ∧ Hid (MayC xs k) ∧ Hid (Below w.heap.size w wr)) (fun kv _ _ => n - (intOf kv).toNat)
  case atStart => exact ⟨0, Nat.zero_le _, rfl, hide (fun i hi => absurd hi (Nat.not_lt_zero _)), hide (Below.refl _ _)⟩
  case round =>
    obtain ⟨k, hk, rfl, HM, HW⟩ := hrel
    by_cases hlt : k < n
    · have hlt' : (k : Int) < (n : Int) := by omega
      obtain ⟨bb, off, e1, hc⟩ := ((unhide HS).below (unhide HW)).at (by omega)
      subst e1
      have sk := hc k hlt
      obtain ⟨x, hx⟩ : ∃ x, xs.getD k 0 = x := ⟨_, rfl⟩
      rw [hx] at sk
      have HX := hide hx
      clear hc hx
      by_cases hr : 0 ≤ x ∧ x ≤ 65536
      · have hx0 : ¬ x < 0 := by omega
        have hx1 : ¬ 65536 < x := by omega
        have HM2 := hide ((unhide HM).next (unhide HX) hr.1 hr.2)
        clear hr
        go_wp2_with fail
        exact ⟨⟨k + 1, by omega, by (first | rfl | go_num), HM2, HW⟩, by simp [intOf]; omega⟩
      · have HF := hide (show ok = false from by
          rw [Bool.eq_false_iff]
          intro e
          have := Iff.mp (unhide HOK) e k hlt
          rw [unhide HX] at this
          exact hr this)
        by_cases h0 : x < 0
        · clear hr
          go_wp2_with fail
          try go_ret
          exact ⟨by have e := unhide HF; subst e; rfl, unhide HW⟩
        · have hx1 : 65536 < x := by omega
          clear hr
          go_wp2_with fail
          try go_ret
          exact ⟨by have e := unhide HF; subst e; rfl, unhide HW⟩
    · obtain rfl : k = n := by omega
      have hlt' : ¬ (k : Int) < (k : Int) := by omega
      have HT := hide (show ok = true from Iff.mpr (unhide HOK) (unhide HM))
      go_wp2_with fail
      try go_ret
      exact ⟨by have e := unhide HT; subst e; rfl, unhide HW⟩
end Go.Proofs.YtkbcmnjgkmkeaaaGreat
