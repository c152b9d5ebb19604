/-
  bitset.trim: its contract; sets joined, plain.
-/
import Derived.Test.YtbendkndnojihaaBtj
import Derived.Test.YtbendkndnojihaaBt4
namespace Go.Proofs.Ytbendkndnojihaa
open Go.RowKit Go.Deep
set_option linter.unusedVariables false

theorem RgLp.chg {w wr w' : World} {R Z b cb N sz : Nat} {P P' : Nat → Bool} {f : Nat → Nat} (h : RgLp w wr R Z b cb N sz P) (hR : R ≠ b) (hZ : Z ≠ b) (hb : w.heap.size ≤ b)
    (hrep : RepB N f P') (hf : FnW w' b 0 N f) (hc : Chg (fun j => j = b) wr w') : RgLp w w' R Z b cb N sz P' :=
  ⟨h.res.chg hc hR, h.two.chg hc hZ, ⟨_, hf, hrep⟩, h.bel.trans (hc.below h.bel.size (fun j hj => by omega))⟩
theorem RgLp.keep {w wr w' : World} {R Z b cb N sz : Nat} {P : Nat → Bool} (h : RgLp w wr R Z b cb N sz P) (k : Below wr.heap.size wr w') : RgLp w w' R Z b cb N sz P :=
  ⟨h.res.keep k, h.two.keep k, by obtain ⟨f, h1, h2⟩ := h.rep; exact ⟨f, h1.below k, h2⟩, h.bel.trans (k.mono h.bel.size)⟩

/-- The last word without what stands for no number. -/
def trF (sz N : Nat) (f : Nat → Nat) (i : Nat) : Nat := if i = N - 1 then f (N - 1) &&& (2 ^ lastB sz - 1) else f i
theorem RepB.trim {sz : Nat} {f : Nat → Nat} {P : Nat → Bool} (h : RepB (nW sz) f P) : RepB (nW sz) (trF sz (nW sz) f) (fun x => P x && decide (x < sz)) := by
  intro i hi
  have he := lastB_eq sz (by omega)
  have hl := lastB_le sz
  unfold trF
  by_cases e : i = nW sz - 1
  · subst e
    simp only [if_true]
    refine ⟨and_lt64 (h _ hi).1, fun j hj => ?_⟩
    rw [Nat.testBit_and, (h _ hi).2 j hj, tb_ones]
    congr 1
    rw [decide_eq_decide]
    omega
  · rw [if_neg e]
    refine ⟨(h _ hi).1, fun j hj => ?_⟩
    rw [(h _ hi).2 j hj]
    have : 64 * i + j < sz := by omega
    simp [this]

set_option maxHeartbeats 4000000 in
/-- bitset.trim. -/
theorem trim_any (sz b N cb : Nat) (f : Nat → Nat) (w : World) (hsz : sz ≤ 4096) (hf : FnW w b 0 N f) (hlt : ∀ i, i < N → f i < 18446744073709551616) (hN : N ≤ 64) :
    Calls Try.prog 83 #[setV sz (some ⟨b, 0, none⟩) N cb] w fun r w' => r = .returned (.tuple #[]) ∧ FnW w' b 0 N (trF sz N f) ∧ Chg (fun j => j = b) w w' := by
  obtain ⟨wa, hwa⟩ : ∃ wa, w.alloc (.cells #[.int .i64 (sz : Int), .slice (some ⟨b, 0, none⟩) N cb] 24) = wa := ⟨_, rfl⟩
  have hba : Below w.heap.size w wa := by rw [← hwa]; exact (Below.refl _ _).alloc (Nat.le_refl _) _
  have tA : Two wa w.heap.size (.int .i64 sz) (.slice (some ⟨b, 0, none⟩) N cb) := by rw [← hwa]; exact Two.made _ _ _ _
  have hf1 := hf.below hba
  have t0 := tA.c0
  have t1 := tA.c1
  have HB := hide hba
  unfold setV
  by_cases h0 : N = 0
  · subst h0
    have HF := hide hf1
    clear hba tA hf1 hf hlt
    go_enter Try.func83, Try.ntmps83
    go_wp2_with fail
    refine bodyPost_end (results_none rfl _ _ _) rfl ?_
    exact ⟨rfl, fun i hi => by omega, Chg.of_below (unhide HB)⟩
  · have hp : (0 : Int) < (N : Int) := by omega
    have h2 : ((N : Int) - 1).toNat = N - 1 := by omega
    have h3 : (0 : Int) ≤ (N : Int) - 1 := by omega
    have h4 : (N : Int) - 1 < (N : Int) := by omega
    have h5 : IntKind.i64.wrap ((N : Int) - 1) = (N : Int) - 1 := by rw [wrap_i64]; omega
    have g1 := (hf1 (N - 1) (by omega)).1
    have g2 := (hf1 (N - 1) (by omega)).2
    rw [Nat.zero_add] at g1 g2
    have hx := hlt (N - 1) (by omega)
    have hm := pow_le64 (lastB_le sz)
    have ho := u64_and_nat (f (N - 1)) (2 ^ lastB sz - 1) hx hm
    have HS := hide (show FnW (wa.setCell ⟨b, N - 1, none⟩ (.int .u64 ((f (N - 1) &&& (2 ^ lastB sz - 1) : Nat) : Int))) b 0 N (trF sz N f) by
      have := hf1.set (N - 1) (f (N - 1) &&& (2 ^ lastB sz - 1)) (by omega)
      rw [Nat.zero_add] at this
      exact this)
    have HK := hide (fun w => inside_any sz w hsz)
    unfold vU at g1
    generalize f (N - 1) = x at *
    generalize (2 ^ lastB sz - 1) = m at *
    generalize (x &&& m) = y at *
    clear hba tA hf1 hf hlt hx hm
    go_enter Try.func83, Try.ntmps83
    go_wp2_with fail
    go_region_with (
      go_at_call 43
      refine (unhide HK _).mono ?_
      rintro _ w1 ⟨rfl, rfl⟩)
    all_goals
      go_wp2_with fail
      refine bodyPost_end (results_none rfl _ _ _) rfl ?_
      exact ⟨rfl, (unhide HS).below (Below.refl _ _).drew, ((Chg.of_below (unhide HB)).trans (Chg.of_set (S := fun j => j = b) _ _ _ _ rfl)).drew⟩

/-- Numbers of sets, joined. -/
def PJ (op : Bool → Bool → Bool) (init : Bool) (sz : Nat) (L : List SetC) (x : Nat) : Bool :=
  L.foldl (fun acc e => op acc (hasB (fun i => e.xs.getD i 0) x)) (init && decide (x < sz))
def joinedR (op : Bool → Bool → Bool) (init : Bool) (size : Int) (L : List SetC) : Int × List Nat × Int :=
  if alikeE size L = 0 then (size, wordsL size.toNat (PJ op init size.toNat L), 0) else (0, [], alikeE size L)
theorem PJ_step {op : Bool → Bool → Bool} {init : Bool} {sz : Nat} {L : List SetC} {k : Nat} (hk : k < L.length) (x : Nat) : PJ op init sz (L.take (k + 1)) x = op (PJ op init sz (L.take k) x) (hasB (fun i => (L.getD k .nul).xs.getD i 0) x) := by
  unfold PJ
  rw [List.take_add_one, List.getElem?_eq_getElem hk, List.foldl_append]
  simp [List.getD, hk]
theorem alike_zero {size : Int} {L : List SetC} (h : alikeE size L = 0) : fitsI size = true ∧ ∀ e ∈ L, MayS e.s e.xs = true ∧ e.s = size := by
  unfold alikeE at h
  split at h
  · cases h
  · rename_i h1
    split at h
    · cases h
    · rename_i h2
      simp at h1 h2
      refine ⟨h2.1, fun e he => ?_⟩
      have a1 := h1 e he
      have a2 := h2.2 e he
      simp [notMay] at a1
      simp [offS] at a2
      exact ⟨a1, a2⟩
theorem jn_rep {F : Nat → Nat → Nat} {op : Bool → Bool → Bool} {N : Nat} {f : Nat → Nat} {P : Nat → Bool} {xs : List Nat} (hF : ∀ x y, x < 18446744073709551616 → y < 18446744073709551616 → F x y < 18446744073709551616 ∧ ∀ j, (F x y).testBit j = op (x.testBit j) (y.testBit j))
    (h : RepB N f P) (hl : xs.length = N) (hok : OkW xs) : RepB N (jnF F f xs N) (fun x => op (P x) (hasB (fun i => xs.getD i 0) x)) := by
  intro i hi
  unfold jnF
  rw [if_pos hi]
  have hy : xs.getD i 0 < 18446744073709551616 := by
    have hkl : i < xs.length := by omega
    have : xs.getD i 0 = xs[i] := by simp [List.getD, hkl]
    rw [this]; exact hok _ (List.getElem_mem hkl)
  obtain ⟨h1, h2⟩ := hF (f i) (xs.getD i 0) (h i hi).1 hy
  refine ⟨h1, fun j hj => ?_⟩
  rw [h2, (h i hi).2 j hj]
  show op (P (64 * i + j)) ((xs.getD i 0).testBit j) = op (P (64 * i + j)) ((xs.getD ((64 * i + j) / 64) 0).testBit ((64 * i + j) % 64))
  rw [show (64 * i + j) / 64 = i from by omega, show (64 * i + j) % 64 = j from by omega]
theorem jOr_bits (x y : Nat) (hx : x < 18446744073709551616) (hy : y < 18446744073709551616) : jOr x y < 18446744073709551616 ∧ ∀ j, (jOr x y).testBit j = (x.testBit j || y.testBit j) := ⟨jOr_lt hx hy, fun j => by unfold jOr; rw [Nat.testBit_or]⟩
theorem jAnd_bits (x y : Nat) (hx : x < 18446744073709551616) (hy : y < 18446744073709551616) : jAnd x y < 18446744073709551616 ∧ ∀ j, (jAnd x y).testBit j = (x.testBit j && y.testBit j) := ⟨jAnd_lt hx hy, fun j => by unfold jAnd; rw [Nat.testBit_and]⟩
theorem jAndNot_bits (x y : Nat) (hx : x < 18446744073709551616) (hy : y < 18446744073709551616) : jAndNot x y < 18446744073709551616 ∧ ∀ j, (jAndNot x y).testBit j = (x.testBit j && !y.testBit j) := ⟨jAndNot_lt hx hy, fun j => tb_anot hx hy⟩
theorem jXor_bits (x y : Nat) (hx : x < 18446744073709551616) (hy : y < 18446744073709551616) : jXor x y < 18446744073709551616 ∧ ∀ j, (jXor x y).testBit j = (x.testBit j != y.testBit j) := ⟨jXor_lt hx hy, fun j => by unfold jXor; rw [Nat.testBit_xor]⟩
/-- All words alike. -/
theorem fill_rep {N k : Nat} {init : Bool} : RepB N (fun i => if i < k then (if init then 18446744073709551615 else 0) else 0) (fun x => decide (x < 64 * k) && init) := by
  intro i hi
  cases init
  · simp
  · by_cases e : i < k
    · simp only [if_pos e, if_true]
      refine ⟨by decide, fun j hj => ?_⟩
      have : (18446744073709551615 : Nat).testBit j = true := by
        have := tb_ones 64 j
        rw [show (2:Nat) ^ 64 - 1 = 18446744073709551615 from by decide] at this
        rw [this]; simp [hj]
      rw [this]
      symm
      simp
      omega
    · simp only [if_neg e]
      refine ⟨by decide, fun j hj => ?_⟩
      simp
      omega
theorem fill_step {N k : Nat} {init : Bool} {f : Nat → Nat} {v : Nat} (hv : v = if init then 18446744073709551615 else 0) (h : RepB N f (fun x => decide (x < 64 * k) && init)) : RepB N (fun i => if i = k then v else f i) (fun x => decide (x < 64 * (k + 1)) && init) := by
  intro i hi
  by_cases e : i = k
  · subst e
    have hh := (fill_rep (N := N) (k := i + 1) (init := init)) i hi
    simp only [Nat.lt_succ_self, if_true] at hh ⊢
    rw [hv]
    exact hh
  · have hh := h i hi
    simp only [if_neg e]
    refine ⟨hh.1, fun j hj => ?_⟩
    rw [hh.2 j hj]
    simp only
    congr 1
    rw [decide_eq_decide]
    omega
end Go.Proofs.Ytbendkndnojihaa
