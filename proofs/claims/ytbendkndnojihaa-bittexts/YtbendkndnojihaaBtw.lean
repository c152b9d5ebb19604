/-
  slopelaw3.keptAll: its contract; lists of sets that are handed in.
-/
import Derived.Test.YtbendkndnojihaaBtv
import Derived.Test.YtbendkndnojihaaBtc
namespace Go.Proofs.Ytbendkndnojihaa
open Go.ChangeShapes Go.WideShapes Go.ChangeAt Go.RowKit Go.Deep
set_option linter.unusedVariables false

set_option maxHeartbeats 8000000 in
/-- slopelaw3.keptAll. -/
theorem keptAll_any (g cap : Nat) (a : Option Addr) (n c : Nat) (L T : List SetC) (w : World) (ht : Twins w g cap n L T) (h : SlS w a n c L) :
    Calls Try.prog 17 #[.slice (some ⟨g, 0, none⟩) n cap, .slice a n c] w fun e w' => e = .returned (.bool true) ∧ Below w.heap.size w w' := by
  have hle := h.le
  have hcap := h.cap
  have hlt := ht.lt
  have hcap2 := ht.sl.cap
  unfold maxLen at hcap hcap2
  have hl := ht.last
  have HA := hide (And.intro ht h)
  clear ht h
  go_enter Try.func17, Try.ntmps17
  go_wp2_with fail
  clear hl
  go_loopw [5] (fun i wr => ∃ k : Nat, k ≤ n ∧ i = .int .i64 k ∧ Below w.heap.size w wr) (fun i _ => n - (intOf i).toNat)
  case atStart => exact ⟨0, Nat.zero_le _, rfl, Below.refl _ _⟩
  case round =>
    obtain ⟨k, hk, rfl, hbl⟩ := hrel
    by_cases hkn : k < n
    · have hkn' : (k : Int) < (n : Int) := by omega
      have hS := (unhide HA).2.below hbl
      have hT := (unhide HA).1.below hbl
      obtain ⟨b, off, rfl, hcells⟩ := hS.at (by omega)
      have g1 := (hcells k hkn).1
      have g2 := (hcells k hkn).2
      obtain ⟨b2, off2, e2, hcells2⟩ := hT.sl.at (by omega)
      cases e2
      have g3 := (hcells2 k hkn).1
      have g4 := (hcells2 k hkn).2
      have hin := hS.get k hkn
      have htw := hT.tw k hkn
      obtain ⟨e, he⟩ : ∃ e, L.getD k .nul = e := ⟨_, rfl⟩
      obtain ⟨t, hte⟩ : ∃ t, T.getD k .nul = t := ⟨_, rfl⟩
      rw [he] at g1 g2 hin htw
      rw [hte] at g3 g4 htw
      obtain ⟨es, ea, en, ec, exs⟩ := e
      obtain ⟨ts, ta, tn, tc, txs⟩ := t
      obtain ⟨q1, q2, q3, ⟨bt, q4, q5⟩, q6⟩ := htw
      simp only at g1 g2 g3 g4 q1 q2 q3 q4 q5
      subst q1 q2 q3 q4
      rw [Nat.zero_add] at g3 g4
      have K := kept_any ts bt tc ea tn ec txs wr.drew (q5.below (Below.refl _ _).drew) (hin.1.below (Below.refl _ _).drew)
      unfold setV at K
      have HK := hide K
      have HB := hide (show Below w.heap.size w wr.drew ∧ w.heap.size ≤ wr.drew.heap.size from ⟨hbl.drew, hbl.size⟩)
      clear hcells hcells2 hS hT hin q5 q6 he hte K hbl
      go_wp2_with fail
      go_region_with (
        go_at_call 14
        refine (unhide HK).mono ?_
        rintro _ w1 ⟨rfl, hb1⟩
        have HB1 := hide ((unhide HB).1.trans (hb1.mono (unhide HB).2))
        clear hb1)
      all_goals
        go_wp2_with fail
        exact ⟨⟨k + 1, by omega, by go_num, unhide HB1⟩, by simp [intOf]; omega⟩
    · have hkn' : ¬ (k : Int) < (n : Int) := by omega
      go_wp2_with fail
      go_ret
      exact ⟨rfl, hbl⟩
end Go.Proofs.Ytbendkndnojihaa
