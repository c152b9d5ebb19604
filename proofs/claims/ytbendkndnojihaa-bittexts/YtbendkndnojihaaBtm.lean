/-
  bitset.join, by andNot: its contract.
-/
import Derived.Test.YtbendkndnojihaaBtj
namespace Go.Proofs.Ytbendkndnojihaa
open Go.RowKit Go.Deep
set_option linter.unusedVariables false

set_option maxHeartbeats 8000000 in
/-- bitset.join, by andNot. -/
theorem join_andNot (s1 s2 : Int) (b N cb : Nat) (f : Nat → Nat) (a : Option Addr) (n c : Nat) (xs : List Nat) (w : World) (hf : FnW w b 0 N f) (hlt : ∀ i, i < N → f i < 18446744073709551616)
    (h : SlW w a n c xs) (hok : OkW xs) (hn : n ≤ N) (hN : N ≤ 64) (hne : 0 < n → ∀ x, a = some x → x.block ≠ b) (hcb : cb ≤ maxLen) (hNc : N ≤ cb) :
    Calls Try.prog 72 #[setV s1 (some ⟨b, 0, none⟩) N cb, setV s2 a n c, .func (.func 64) #[] #[]] w fun r w' => r = .returned (.tuple #[]) ∧ FnW w' b 0 N (jnF jAndNot f xs n) ∧ Chg (fun j => j = b) w w' := by
  have hle := h.le
  have hcap := h.cap
  unfold maxLen at hcap hcb
  obtain ⟨wa, hwa⟩ : ∃ wa, w.alloc (.cells #[.int .i64 s1, .slice (some ⟨b, 0, none⟩) N cb] 24) = wa := ⟨_, rfl⟩
  obtain ⟨wb, hwb⟩ : ∃ wb, wa.alloc (.cells #[.int .i64 s2, .slice a n c] 24) = wb := ⟨_, rfl⟩
  have hba : Below w.heap.size w wa := by rw [← hwa]; exact (Below.refl _ _).alloc (Nat.le_refl _) _
  have hbb : Below wa.heap.size wa wb := by rw [← hwb]; exact (Below.refl _ _).alloc (Nat.le_refl _) _
  have tA : Two wb w.heap.size (.int .i64 s1) (.slice (some ⟨b, 0, none⟩) N cb) := by
    refine Two.keep (w := wa) ?_ hbb
    rw [← hwa]; exact Two.made _ _ _ _
  have tB : Two wb wa.heap.size (.int .i64 s2) (.slice a n c) := by rw [← hwb]; exact Two.made _ _ _ _
  have hB := hba.trans (hbb.mono hba.size)
  have hwl : w.heap.size < wa.heap.size := by rw [← hwa]; simp
  have hS := (h.below hba).below hbb
  have HA := hide (And.intro tA (And.intro tB (And.intro hS hB)))
  have HF := hide (show JnLp wb wb b N (jnF jAndNot f xs 0) from ⟨by rw [jnF_zero]; exact (hf.below hba).below hbb, Chg.refl _ _⟩)
  have HLt := hide hlt
  have HOk := hide hok
  have HNe := hide hne
  have HLn := hide h.len
  have HbA := hide (show 0 < N → b < w.heap.size from fun h0 => by
    have := World.block_lt_of_cell? _ _ (hf 0 h0).1
    exact this)
  have b1 := tB.c1
  clear hf hlt h hok hne hba hbb tA tB hB hS
  unfold setV
  go_enter Try.func72, Try.ntmps72
  go_wp2_with fail
  clear b1 hwb hwa
  go_loopw [11, 6, 7] (fun i _ _ wr => ∃ k : Nat, k ≤ n ∧ i = .int .i64 k ∧ JnLp wb wr b N (jnF jAndNot f xs k)) (fun i _ _ _ => n - (intOf i).toNat)
  case atStart => exact ⟨0, Nat.zero_le _, rfl, unhide HF⟩
  case round =>
    obtain ⟨k, hk, rfl, hst⟩ := hrel
    by_cases hlt : k < n
    · have hlt' : (k : Int) < (n : Int) := by omega
      have hltN : (k : Int) < (N : Int) := by omega
      have hbw := unhide HbA (by omega)
      obtain ⟨qA, qB, qS, qBl⟩ := unhide HA
      have hS2 := qS.chg hst.chg (fun x hx _ => unhide HNe (by omega) x hx)
      have tA := qA.chg hst.chg (by omega)
      obtain ⟨b2, o2, rfl, hc2⟩ := hS2.at (by omega)
      have g1 := hc2 k hlt
      have g2 := (hst.row k (by omega)).1
      have g3 := (hst.row k (by omega)).2
      rw [Nat.zero_add] at g2 g3
      have HS := hide (show JnLp wb (wr.setCell ⟨b, k, none⟩ (.int .u64 ((jAndNot (f k) (xs.getD k 0) : Nat) : Int))) b N (jnF jAndNot f xs (k + 1)) from ⟨jnF_step hst.row (by omega), hst.chg.trans (Chg.of_set (S := fun j => j = b) _ _ _ _ rfl)⟩)
      have hfk : jnF jAndNot f xs k k = f k := by simp [jnF]
      rw [hfk] at g2
      have hx := unhide HLt k (by omega)
      have hy : xs.getD k 0 < 18446744073709551616 := by
        have hkl : k < xs.length := by rw [unhide HLn]; exact hlt
        have : xs.getD k 0 = xs[k] := by simp [List.getD, hkl]
        rw [this]; exact unhide HOk _ (List.getElem_mem hkl)
      have HK := hide (fun w => andNot_fn (f k) (xs.getD k 0) w hx hy)
      unfold vU at g1 g2
      generalize f k = x at *
      generalize xs.getD k 0 = y at *
      generalize jAndNot x y = z at *
      have a1 := tA.c1
      clear hc2 hst qA qB qS qBl hS2 tA hfk hx hy
      go_wp2_with fail
      go_region_with (
        go_at_call 64
        refine (unhide HK _).mono ?_
        rintro _ w1 ⟨rfl, rfl⟩)
      all_goals
        go_wp2_with fail
        exact ⟨⟨k + 1, by omega, by go_num, ⟨(unhide HS).row.below (Below.refl _ _).drew, (unhide HS).chg.drew⟩⟩, by simp [intOf]; omega⟩
    · have hlt' : ¬ (k : Int) < (n : Int) := by omega
      have hkn : k = n := by omega
      subst hkn
      go_wp2_with fail
      refine bodyPost_end (results_none rfl _ _ _) rfl ?_
      exact ⟨rfl, hst.row, (Chg.of_below (unhide HA).2.2.2).trans hst.chg⟩
end Go.Proofs.Ytbendkndnojihaa
