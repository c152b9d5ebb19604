/-
  THE LAW NatFolds, where what comes in is of bulk at most 1048576: the row's step.
-/
import Derived.Test.YtlecjjcpidjmhaaFo6
import Derived.Test.YtlecjjcpidjmhaaOpen
import Derived.Test.YtlecjjcpidjmhaaRows
import Derived.JoinedCond
import Derived.Deep.Matrix
namespace Go.Proofs.Ytlecjjcpidjmhaa
open Go.ChangeShapes Go.WideShapes Go.ChangeAt Go.RowKit Go.Deep
set_option linter.unusedVariables false

theorem bulk_one {H : Type} (d : DataW H) : 1 ≤ Rows.uptoBulk d := by
  cases d with
  | lit l => cases l <;> simp [Rows.uptoBulk]
  | nil => simp [Rows.uptoBulk]
  | ptr d => simp [Rows.uptoBulk]
  | slice elems spare => simp [Rows.uptoBulk]
  | agg parts => simp [Rows.uptoBulk]
  | iface t d => simp [Rows.uptoBulk]
  | map entries => simp [Rows.uptoBulk]
  | held h => simp [Rows.uptoBulk]
theorem bulk_part {H : Type} {d : DataW H} {l : List (DataW H)} (h : d ∈ l) : Rows.uptoBulk d ≤ Rows.uptoBulkAll l := by
  induction l with
  | nil => cases h
  | cons x r ih =>
    simp only [Rows.uptoBulkAll]
    cases List.mem_cons.1 h with
    | inl e => subst e; omega
    | inr e => have := ih e; omega
theorem bulk_len {H : Type} (l : List (DataW H)) : l.length ≤ Rows.uptoBulkAll l := by
  induction l with
  | nil => simp [Rows.uptoBulkAll]
  | cons x r ih => have := bulk_one x; simp only [Rows.uptoBulkAll, List.length_cons]; omega

theorem law_cells2 : Try.prog.cellsOf 23 = 1 := by kernel_rfl

/-- A list of lists that came in. -/
theorem arg_rows {H : Type} {enc : TypeId × Value → H} {W : World} {a : Option Addr} {n c : Nat} {d : DataW H} {p : List MemPlace}
    (h : DataW.Trod enc Try.prog W 0 (fun _ => true) true 60 (.slice a n c) d p) (hz : Rows.uptoBulk d ≤ 1048576) :
    ∃ ps, SlL W a n c ps ∧ n ≤ 2000000 ∧ ∀ p ∈ ps, p.n ≤ 35184372088000 := by
  obtain ⟨fuel, hf⟩ := h
  rcases open_int_rows Try.underlying60 Try.underlying23 Try.underlying77 law_cells2 law_cells hf with ⟨hcs, _⟩ | ⟨x, l, k, A, L, C, Z, hcs, _, hl, hm, hx, hr⟩
  · simp [Value.cells] at hcs
    obtain ⟨rfl, rfl, rfl⟩ := hcs
    exact ⟨[], ⟨rfl, Nat.le_refl _, .inl rfl, fun p hp => by cases hp⟩, by omega, fun p hp => by cases hp⟩
  · simp [Value.cells] at hcs
    obtain ⟨rfl, rfl, rfl⟩ := hcs
    have hd : d = .slice ((List.range n).map fun r => intRow .u32 (A r) (L r) (Z r)) ((List.range (c - n)).map fun j => intRow .u32 (A (n + j)) (L (n + j)) (Z (n + j))) := by injection hx
    rw [hd] at hz
    simp only [Rows.uptoBulk] at hz
    have hn : n ≤ 1048576 := by
      have := bulk_len ((List.range n).map fun r => intRow (H := H) .u32 (A r) (L r) (Z r))
      simp at this
      omega
    have hS : Rows.uptoBulkAll ((List.range n).map fun r => intRow (H := H) .u32 (A r) (L r) (Z r)) ≤ 1048576 := by omega
    have hrow : ∀ r, r < n → L r ≤ 1048576 := by
      intro r hrn
      have hb1 := bulk_part (List.mem_map_of_mem (f := fun r => intRow (H := H) .u32 (A r) (L r) (Z r)) (List.mem_range.2 hrn))
      have hb : Rows.uptoBulk (intRow (H := H) .u32 (A r) (L r) (Z r)) ≤ 1048576 := Nat.le_trans hb1 hS
      obtain ⟨h1, h2, h3, h4, h5, h6, h7⟩ := hr r (by omega)
      clear hb1 hS hz
      cases hA : A r with
      | none => have := h6 hA; omega
      | some a' =>
        rw [hA] at hb
        simp only [intRow, Rows.uptoBulk] at hb
        have hb2 := bulk_len (lits (H := H) .u32 ((Z r).take (L r)))
        have hlen : (lits (H := H) .u32 ((Z r).take (L r))).length = L r := by simp [lits]; omega
        rw [hlen] at hb2
        omega
    have hsl : ∀ r, r < n → Sl W (A r) (L r) (C r) (((Z r).take (L r)).map Int.toNat) ∧ Ok (((Z r).take (L r)).map Int.toNat) := by
      intro r hrn
      obtain ⟨h1, h2, h3, h4, h5, h6, h7⟩ := hr r (by omega)
      refine ⟨⟨by simp; omega, h2, h3, ?_⟩, ?_⟩
      · by_cases h0 : L r = 0
        · left; rw [h0]; simp
        · right
          cases hA : A r with
          | none => have := h6 hA; omega
          | some x' =>
            obtain ⟨b, off, spot⟩ := x'
            have h8 := (h7 _ hA).2
            have c0 := h8 0 (by omega)
            have hspot : spot = none := by simpa [Addr.add] using World.cell?_spot c0
            subst hspot
            refine ⟨b, off, rfl, ?_⟩
            intro i hi
            have hi' : i < L r := by simp at hi; omega
            have e : (⟨b, off, none⟩ : Addr).add i = ⟨b, off + i, none⟩ := by unfold Addr.add; split <;> simp_all
            have := h8 i (by omega)
            rw [e] at this
            rw [this]
            have hm2 : (Z r).getD i 0 ∈ Z r := by
              have : (Z r).getD i 0 = (Z r)[i]'(by omega) := by simp [List.getD, show i < (Z r).length from by omega]
              rw [this]; exact List.getElem_mem _
            have rr := bounds_u32 (h5 _ hm2)
            have e2 : (((Z r).take (L r)).map Int.toNat).getD i 0 = ((Z r).getD i 0).toNat := by
              simp [List.getD, hi', show i < (Z r).length from by omega]
            rw [e2]
            congr 2
            omega
      · intro y hy
        obtain ⟨z, hz1, rfl⟩ := List.mem_map.1 hy
        have := bounds_u32 (h5 z (List.mem_of_mem_take hz1))
        omega
    refine ⟨(List.range n).map fun r => ⟨A r, L r, C r, ((Z r).take (L r)).map Int.toNat⟩, ⟨by simp, hl, ?_, ?_⟩, by omega, ?_⟩
    · by_cases h0 : n = 0
      · left; subst h0; rfl
      · right
        obtain ⟨b, off, spot⟩ := x
        have c0 := (hr 0 (by omega)).1
        have hspot : spot = none := by simpa [Addr.add] using World.cell?_spot c0
        subst hspot
        refine ⟨b, off, rfl, fun i q hq => ?_⟩
        obtain ⟨hi, e⟩ := List.getElem?_eq_some_iff.1 hq
        have hi' : i < n := by simpa using hi
        have e3 : (⟨b, off, none⟩ : Addr).add i = ⟨b, off + i, none⟩ := by unfold Addr.add; split <;> simp_all
        have := (hr i (by omega)).1
        rw [e3] at this
        rw [this, ← e]
        simp
    · intro q hq
      obtain ⟨r, hr1, rfl⟩ := List.mem_map.1 hq
      exact hsl r (List.mem_range.1 hr1)
    · intro q hq
      obtain ⟨r, hr1, rfl⟩ := List.mem_map.1 hq
      have := hrow r (List.mem_range.1 hr1)
      simp only
      omega

set_option maxRecDepth 100000 in
theorem natFolds_lifted (os : Os) (started : os.Started) (H : Type) (enc : TypeId × Value → H) (F : Stop.Interp) :
    ReturnsInHanded {} Try.checked os 6 .any ((Rows.OpenSpec.upto Rows.natFoldsSpec).pre6 enc Try.prog Try.f6 Rows.natFoldsUptoRow.domain false) (((Rows.OpenSpec.upto Rows.natFoldsSpec).at F).post enc Try.prog Try.f6 false true false false) := by
  refine returnsInHanded_of_cond (C := Try.checked) (s := Rows.OpenSpec.upto Rows.natFoldsSpec) (k := Rows.uptoSmall) rfl law_own started (by kernel_rfl) Try.func6
    (OpenSpec.witness (enc := enc) (C := Try.checked) (s := Rows.OpenSpec.upto Rows.natFoldsSpec) (k := Rows.uptoSmall) rfl false ⟨#[], #[.slice none 0 0], []⟩ 8 (by kernel_rfl) (by kernel_rfl) (by kernel_rfl)
      (x := ([.nil], [], [])) (by kernel_rfl) rfl (by kernel_rfl)) ?_
  intro W base args ds gs before hval0 hW _ hk _
  have hval : ∀ (j : Nat) t v, Try.f6.params[j]? = some t → args[j]? = some v → Value.okWide Try.prog W .any base t v := hval0
  have hW' := hW
  obtain ⟨p, q, hA0, hV, rfl, hfz, hnd⟩ := hW
  have hA : DataW.TrodAll enc Try.prog W 0 (fun _ => true) true Try.f6.params.toList args.toList ds p := hA0
  rw [Try.params6] at hA hval
  obtain ⟨v0, vs0, d0, ds0, p0, q0, hargs, rfl, rfl, h0, r0⟩ := trodAll_cons hA
  obtain ⟨rfl, rfl, rfl⟩ := trodAll_nil r0
  obtain rfl : args = #[v0] := by cases args; simp_all
  obtain ⟨rfl, rfl⟩ := trodVars_none hV
  obtain ⟨a0, n0, c0, rfl⟩ := okWide_slice Try.underlying60 (hval 0 60 v0 rfl rfl)
  have k0 := h0
  have lt0 : ∀ x ∈ p0, x.block < W.heap.size := by obtain ⟨m, hm⟩ := k0; exact DataW.trod_lt m _ _ _ hm
  have hb0 : Rows.uptoBulk d0 ≤ 1048576 := by
    have hb : Rows.uptoBulkAll ([d0] ++ []) ≤ 1048576 := of_decide_eq_true hk
    simp only [List.append_nil, Rows.uptoBulkAll] at hb
    omega
  obtain ⟨ps, s0, hn0, hp0⟩ := arg_rows h0 hb0
  clear hA0 hval0
  refine (natFolds_walk a0 n0 c0 ps W s0 hn0 hp0).mono fun e W' ⟨he, bel⟩ => ?_
  subst he
  exact ⟨_, rfl, _, _, _, [], _, [], hW', trodAll_mk1 (shut_bool Try.underlying4 _), (trodAll_cons_mk (Below.trod law_laid (by kernel_rfl) (of_decide_eq_true (by kernel_rfl)) k0 bel lt0) trodAll_mk0), rfl, bel.frame _, fun h => by cases h⟩

theorem natFolds_holds : Rows.NatFoldsUptoSaid :=
  OpenClaim.holds_of_cond 6 Try.f6 rfl rfl rfl rfl rfl rfl rfl ⟨rfl, rfl, rfl, rfl, rfl⟩ rfl rfl rfl rfl rfl (by kernel_rfl) Try.func6 (by kernel_rfl)
    (of_decide_eq_true (by kernel_rfl)) (by unfold Func.isWrapper; first | (rw [if_pos (by decide +kernel)]; kernel_rfl) | (rw [if_neg (by decide +kernel)]; exact ⟨rfl, rfl⟩))
    (fun os started H enc _ F => natFolds_lifted os started H enc F)
#print axioms natFolds_holds
end Go.Proofs.Ytlecjjcpidjmhaa
