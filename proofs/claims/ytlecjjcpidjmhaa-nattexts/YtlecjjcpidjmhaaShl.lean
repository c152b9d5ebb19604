/-
  natural.shiftLeft, Shl; sloperef1.Shl: contracts.
-/
import Derived.Test.YtlecjjcpidjmhaaShN
import Derived.Test.YtlecjjcpidjmhaaRAdd
namespace Go.Proofs.Ytlecjjcpidjmhaa
open Go.RowKit Go.Deep
set_option linter.unusedVariables false

theorem make_nl (n l : Nat) (h : n + l + 1 ≤ 70368744177600) (w : World) : (Instr.makeSlice 22 (.int .i64 ((n : Int) + (l : Int) + 1)) (.int .i64 ((n : Int) + (l : Int) + 1))).run Try.prog w = .ok (.slice (some ⟨w.heap.size, 0, none⟩) (n + l + 1) (n + l + 1)) (w.alloc (.cells (madeCells #[.int .u32 0] (n + l + 1)) 77)) := by
  have := make_len (n + l + 1) h w
  rw [show ((n + l + 1 : Nat) : Int) = (n : Int) + (l : Int) + 1 from by omega] at this
  exact this

set_option maxHeartbeats 2000000 in
theorem shl_some (b off n c : Nat) (xs : List Nat) (w : World) (k l s : Nat) (hl : xs.length = n) (hc : Cells w b off xs) (ox : Ok xs) (hkl : (k:Int) / 32 = (l:Int)) (hks : (k:Int) % 32 = (s:Int)) (hs32 : s < 32) (hk0 : k ≤ 65536) (hl0 : l ≤ 2048) (hn : 0 < n) (hn2 : n ≤ 2048) :
    Calls Try.prog 85 #[.slice (some ⟨b, off, none⟩) n c, .int .i64 (k : Nat)] w fun e w' => NewRep w w' (val xs * 2 ^ k) e := by
  have hmk := fun w => make_nl n l (by omega) w
  have hne : ((n:Int) == 0) = false := by simp; omega
  have HL := hide hl
  have HT := hide (sh_total (v := val xs) (k := k) (l := l) (s := s) (by omega) (by omega))
  clear hl
  go_enter Try.func85, Try.ntmps85
  go_wp2_with fail
  rw [hks]
  clear hkl hks hk0
  go_loopw [25] (fun i wr => ∃ j : Nat, ∃ g : Nat → Nat, j ≤ n ∧ i = .int .i64 j ∧ ShR wr w (n + l + 1) l s xs j g) (fun i _ => n - (intOf i).toNat)
  case atStart => exact ⟨0, _, Nat.zero_le _, rfl, ShR.begin w (n + l + 1) l s xs hs32⟩
  case round =>
    obtain ⟨j, g, hj, rfl, hR⟩ := hrel
    by_cases hlt : j < n
    · have hlt' : (j:Int) < (n:Int) := by omega
      have hb1 : (l:Int) + (j:Int) < (n:Int) + (l:Int) + 1 := by omega
      have hb2 : (l:Int) + (j:Int) + 1 < (n:Int) + (l:Int) + 1 := by omega
      have g0 := hc j (by rw [unhide HL]; exact hlt)
      have g1 : wr.cell? ⟨b, off + j, none⟩ = _ := (hR.bel.cell (World.block_lt_of_cell? _ _ g0)).trans g0
      have g2 := hR.fn (l + j) (by omega)
      have g3 := hR.fn (l + j + 1) (by omega)
      simp only [Nat.zero_add] at g2 g3
      have c1 := g2.1
      have c2 := g2.2
      have c3 := g3.1
      have c4 := g3.2
      have bx := ox.getD j
      have e0 := sv_int (x := xs.getD j 0) (s := s) bx hs32
      have e1 := slo_int (xs.getD j 0) s
      have e2 := shi_int (xs.getD j 0) s
      have e3 := or_int (x := xs.getD j 0) hs32 hR.top
      have b1 := sv_lt (x := xs.getD j 0) bx hs32
      have b2 : shi (xs.getD j 0) s < 4294967296 := by have := shi_lt (x := xs.getD j 0) bx hs32; have := (pow_s hs32).2; omega
      have HS := hide (hR.step hs32 (by omega) ox)
      generalize xs.getD j 0 = x at *
      generalize g (l + j) = o at *
      generalize g (l + j + 1) = o2 at *
      clear hR g0 g2 g3
      go_wp2
      exact ⟨⟨j + 1, _, by omega, by go_num, unhide HS⟩, by simp [intOf]; omega⟩
    · have hjn : j = n := by omega
      subst hjn
      have hv : valF g (j + l + 1) = val xs * 2 ^ k := by
        have := hR.val
        rw [← unhide HL, valF_list, unhide HT, unhide HL, Nat.add_comm l j] at this
        exact this
      have KT := trim_any _ (j + l + 1) (j + l + 1) _ wr (hR.fn.sl (Nat.le_refl _) (by unfold maxLen; omega)) (lst_ok hR.ok)
      rw [lst_val, hv] at KT
      have KT' := hide KT
      have HB := hide hR.bel
      clear hR KT hv
      go_wp2_with fail
      refine (unhide KT').mono ?_
      rintro e w3 ⟨a', m, zs, rfl, hs, hr, ha, rfl⟩
      go_wp2
      go_ret
      refine ⟨a', m, zs, rfl, hs, hr, ?_, unhide HB⟩
      intro x hx
      rcases ha with rfl | rfl
      · cases hx; exact Nat.le_refl _
      · cases hx

set_option maxHeartbeats 400000 in
theorem shl_nil (a : Option Addr) (c : Nat) (k : Int) (w : World) :
    Calls Try.prog 85 #[.slice a 0 c, .int .i64 k] w fun e w' => e = .returned (.slice none 0 0) ∧ w' = w := by
  go_enter Try.func85, Try.ntmps85
  go_wp2
  go_ret
  exact ⟨rfl, rfl⟩

/-- natural.shiftLeft. -/
theorem shl_any (a : Option Addr) (n c : Nat) (xs : List Nat) (w : World) (k : Nat) (h : Sl w a n c xs) (ox : Ok xs) (hn : n ≤ 2048) (hk : k ≤ 65536) :
    Calls Try.prog 85 #[.slice a n c, .int .i64 (k : Nat)] w fun e w' => NewRep w w' (val xs * 2 ^ k) e := by
  by_cases h0 : xs = []
  · have hl := h.len
    subst h0
    simp at hl
    subst hl
    refine (shl_nil a c k w).mono ?_
    rintro e w' ⟨rfl, rfl⟩
    exact ⟨none, 0, [], rfl, sl_nil _, ⟨Ok.nil, .inl rfl, by simp [val]⟩, newAt_nil _, Below.refl _ _⟩
  · have hp : 0 < xs.length := List.length_pos_iff.2 h0
    rcases h.cells with e | ⟨b, off, rfl, hc⟩
    · exact absurd e h0
    · exact shl_some b off n c xs w k (k / 32) (k % 32) h.len hc ox (by omega) (by omega) (by omega) hk (by omega) (by have := h.len; omega) hn

def chk (xs : List Nat) (k : Int) : Int := if MayL xs then (if 0 ≤ k ∧ k ≤ 65536 then 0 else 1) else 20

def shlL (xs : List Nat) (k : Int) : List Nat × Int := if MayL xs then (if 0 ≤ k ∧ k ≤ 65536 then fitL (val xs * 2 ^ k.toNat) else ([], 1)) else ([], 20)
def shrL (xs : List Nat) (k : Int) : List Nat × Int := if MayL xs then (if 0 ≤ k ∧ k ≤ 65536 then (limbs (val xs / 2 ^ k.toNat), 0) else ([], 1)) else ([], 20)

theorem shlL_bad {xs : List Nat} {k : Int} (h : chk xs k ≠ 0) : shlL xs k = ([], chk xs k) := by
  unfold shlL chk at *
  cases hm : MayL xs <;> simp [hm] at h ⊢
  by_cases hk : 0 ≤ k ∧ k ≤ 65536
  · have := h hk.1
    omega
  · simp [hk]
theorem shrL_bad {xs : List Nat} {k : Int} (h : chk xs k ≠ 0) : shrL xs k = ([], chk xs k) := by
  unfold shrL chk at *
  cases hm : MayL xs <;> simp [hm] at h ⊢
  by_cases hk : 0 ≤ k ∧ k ≤ 65536
  · have := h hk.1
    omega
  · simp [hk]
theorem chk_ok {xs : List Nat} {k : Int} (h : chk xs k = 0) : MayL xs = true ∧ 0 ≤ k ∧ k ≤ 65536 := by
  unfold chk at h
  cases hm : MayL xs
  · simp [hm] at h
  · by_cases hk : 0 ≤ k ∧ k ≤ 65536
    · exact ⟨rfl, hk⟩
    · simp [hm, hk] at h

end Go.Proofs.Ytlecjjcpidjmhaa
