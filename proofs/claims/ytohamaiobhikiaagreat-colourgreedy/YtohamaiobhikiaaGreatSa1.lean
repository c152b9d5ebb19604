/-
  PATTERNS: lists of whole numbers where they lie; which patterns may be: plain.
-/
import Derived.Test.YtohamaiobhikiaaGreatGiv2
namespace Go.Proofs.YtohamaiobhikiaaGreat
open Go.RowKit Go.Deep
set_option linter.unusedVariables false

def CellsI (w : World) (b off : Nat) (xs : List Int) : Prop :=
  ∀ i, i < xs.length → w.cell? ⟨b, off + i, none⟩ = some (.int .i64 (xs.getD i 0))
/-- A list of whole numbers where it lies. -/
structure SlI (w : World) (a : Option Addr) (n c : Nat) (xs : List Int) : Prop where
  len : xs.length = n
  le : n ≤ c
  cap : c ≤ maxLen
  cells : xs = [] ∨ ∃ b off, a = some ⟨b, off, none⟩ ∧ CellsI w b off xs
theorem SlI.below {w w' : World} {a : Option Addr} {n c : Nat} {xs : List Int} (h : SlI w a n c xs) (hb : Below w.heap.size w w') : SlI w' a n c xs :=
  ⟨h.len, h.le, h.cap, h.cells.imp id (fun ⟨b, off, e, k⟩ => ⟨b, off, e, fun i hi => (Chg.of_below hb).cell (S := fun _ => False) (fun x => x) (k i hi)⟩)⟩
theorem SlI.at {w : World} {a : Option Addr} {n c : Nat} {xs : List Int} (h : SlI w a n c xs) (hn : 0 < n) : ∃ b off, a = some ⟨b, off, none⟩ ∧ ∀ i, i < n → w.cell? ⟨b, off + i, none⟩ = some (.int .i64 (xs.getD i 0)) := by
  rcases h.cells with e | ⟨b, off, e, k⟩
  · have := h.len; rw [e] at this; simp at this; omega
  · exact ⟨b, off, e, fun i hi => k i (by rw [h.len]; exact hi)⟩
theorem SlI.nil (w : World) : SlI w none 0 0 [] := ⟨rfl, Nat.le_refl _, Nat.zero_le _, .inl rfl⟩
/-- The columns of a row rise, within their range. -/
structure RowP (width : Int) (cols : List Int) (x y : Nat) : Prop where
  rng : ∀ i, x ≤ i → i < y → 0 ≤ cols.getD i 0 ∧ cols.getD i 0 < width
  up : ∀ i, x < i → i < y → cols.getD (i - 1) 0 < cols.getD i 0
/-- What is asked of a pattern ahead of its rows. -/
structure HeadP (rows width : Int) (st cols : List Int) : Prop where
  fit : 0 ≤ rows ∧ rows ≤ 128 ∧ 0 ≤ width ∧ width ≤ 128
  len : (st.length : Int) = rows + 1
  first : st.getD 0 0 = 0
  last : st.getD rows.toNat 0 = (cols.length : Int)
def SortP (st : List Int) (x : Nat) : Prop := ∀ i, x ≤ i → i + 1 < st.length → st.getD i 0 ≤ st.getD (i + 1) 0
structure MayP (rows width : Int) (st cols : List Int) : Prop where
  head : HeadP rows width st cols
  sort : SortP st 0
  row : ∀ r, r + 1 < st.length → RowP width cols (st.getD r 0).toNat (st.getD (r + 1) 0).toNat
theorem SortP.mono {st : List Int} (h : SortP st 0) : ∀ d i, i + d < st.length → st.getD i 0 ≤ st.getD (i + d) 0
  | 0, i, _ => Int.le_refl _
  | d + 1, i, hi => Int.le_trans (SortP.mono h d i (by omega)) (h (i + d) (Nat.zero_le _) (by omega))
/-- Where rows begin and end. -/
theorem HeadP.rng {rows width : Int} {st cols : List Int} (h : HeadP rows width st cols) (hs : SortP st 0) {i : Nat} (hi : i < st.length) : 0 ≤ st.getD i 0 ∧ st.getD i 0 ≤ (cols.length : Int) := by
  have h1 := hs.mono i 0 (by omega)
  rw [Nat.zero_add, h.first] at h1
  have hl := h.len
  have hf := h.fit
  have h2 := hs.mono (rows.toNat - i) i (by omega)
  rw [show i + (rows.toNat - i) = rows.toNat by omega, h.last] at h2
  exact ⟨h1, h2⟩
end Go.Proofs.YtohamaiobhikiaaGreat

namespace Go.Proofs.YtohamaiobhikiaaGreat
open Go.RowKit Go.Deep
set_option linter.unusedVariables false

/-- All within a range. -/
def InP (size : Int) (xs : List Int) (n : Nat) : Prop := ∀ i, i < n → 0 ≤ xs.getD i 0 ∧ xs.getD i 0 < size
/-- A truth, and nothing that was there is changed. -/
def BIs (P : Prop) (w w' : World) (e : Ending) : Prop := (∃ b : Bool, e = .returned (.bool b) ∧ (b = true ↔ P)) ∧ Below w.heap.size w w'
/-- A truth, and the world is as it was. -/
def BIq (P : Prop) (w w' : World) (e : Ending) : Prop := (∃ b : Bool, e = .returned (.bool b) ∧ (b = true ↔ P)) ∧ w' = w
/-- Only draws are made. -/
def Dr (w w' : World) : Prop := ∃ m, w' = w.drewN m
theorem Dr.refl (w : World) : Dr w w := ⟨0, rfl⟩
theorem Dr.drew {w w' : World} (h : Dr w w') : Dr w w'.drew := by obtain ⟨m, rfl⟩ := h; exact ⟨m + 1, by simp⟩
theorem Dr.n {w w' : World} (h : Dr w w') (k : Nat) : Dr w (w'.drewN k) := by obtain ⟨m, rfl⟩ := h; exact ⟨m + k, by rw [World.drewN_drewN]⟩
theorem Dr.trans {w w' w'' : World} (h : Dr w w') (k : Dr w' w'') : Dr w w'' := by obtain ⟨m, rfl⟩ := k; exact h.n m
theorem Dr.below {w w' : World} (h : Dr w w') : Below w.heap.size w w' := by obtain ⟨m, rfl⟩ := h; exact bel_drewN (Below.refl _ _) m
/-- A truth that is known, and only draws are made. -/
def QI (ok : Bool) (w w' : World) (e : Ending) : Prop := e = .returned (.bool ok) ∧ Dr w w'
theorem QI.yes {P : Prop} {ok : Bool} (ho : ok = true ↔ P) {w w' : World} (h : P) (k : Dr w w') : QI ok w w' (.returned (.bool true)) := ⟨by rw [ho.2 h], k⟩
theorem QI.no {P : Prop} {ok : Bool} (ho : ok = true ↔ P) {w w' : World} (h : ¬ P) (k : Dr w w') : QI ok w w' (.returned (.bool false)) := ⟨by cases ok; rfl; exact absurd (ho.1 rfl) h, k⟩
theorem truth (P : Prop) : ∃ ok : Bool, ok = true ↔ P := by by_cases h : P; exact ⟨true, by simp [h]⟩; exact ⟨false, by simp [h]⟩
theorem BIs.yes {P : Prop} {w w' : World} (h : P) (k : Below w.heap.size w w') : BIs P w w' (.returned (.bool true)) := ⟨⟨true, rfl, by simp [h]⟩, k⟩
theorem BIs.no {P : Prop} {w w' : World} (h : ¬ P) (k : Below w.heap.size w w') : BIs P w w' (.returned (.bool false)) := ⟨⟨false, rfl, by simp [h]⟩, k⟩
set_option maxRecDepth 20000 in
set_option maxHeartbeats 8000000 in
theorem fits_any (rows width : Int) (w : World) : Calls Tryz.prog 44 #[.int .i64 rows, .int .i64 width] w fun e w' => BIq (0 ≤ rows ∧ rows ≤ 128 ∧ 0 ≤ width ∧ width ≤ 128) w w' e := by
  by_cases h1 : 0 ≤ rows
  · by_cases h2 : rows ≤ 128
    · by_cases h3 : 0 ≤ width
      · by_cases h4 : width ≤ 128
        · go_enter Tryz.func44, Tryz.ntmps44
          go_wp2_with fail
          go_ret
          exact ⟨⟨true, rfl, by simp [h1, h2, h3, h4]⟩, rfl⟩
        · go_enter Tryz.func44, Tryz.ntmps44
          go_wp2_with fail
          go_ret
          exact ⟨⟨false, rfl, by simp; omega⟩, rfl⟩
      · go_enter Tryz.func44, Tryz.ntmps44
        go_wp2_with fail
        go_ret
        exact ⟨⟨false, rfl, by simp; omega⟩, rfl⟩
    · go_enter Tryz.func44, Tryz.ntmps44
      go_wp2_with fail
      go_ret
      exact ⟨⟨false, rfl, by simp; omega⟩, rfl⟩
  · go_enter Tryz.func44, Tryz.ntmps44
    go_wp2_with fail
    go_ret
    exact ⟨⟨false, rfl, by simp; omega⟩, rfl⟩
set_option maxRecDepth 20000 in
set_option maxHeartbeats 8000000 in
theorem sized_any (rows width : Int) (w : World) : Calls Tryz.prog 65 #[.int .i64 rows, .int .i64 width] w fun e w' => BIq (0 ≤ rows ∧ rows ≤ 128 ∧ 0 ≤ width ∧ width ≤ 128) w w' e := by
  by_cases h1 : 0 ≤ rows
  · by_cases h2 : rows ≤ 128
    · by_cases h3 : 0 ≤ width
      · by_cases h4 : width ≤ 128
        · go_enter Tryz.func65, Tryz.ntmps65
          go_wp2_with fail
          go_ret
          exact ⟨⟨true, rfl, by simp [h1, h2, h3, h4]⟩, rfl⟩
        · go_enter Tryz.func65, Tryz.ntmps65
          go_wp2_with fail
          go_ret
          exact ⟨⟨false, rfl, by simp; omega⟩, rfl⟩
      · go_enter Tryz.func65, Tryz.ntmps65
        go_wp2_with fail
        go_ret
        exact ⟨⟨false, rfl, by simp; omega⟩, rfl⟩
    · go_enter Tryz.func65, Tryz.ntmps65
      go_wp2_with fail
      go_ret
      exact ⟨⟨false, rfl, by simp; omega⟩, rfl⟩
  · go_enter Tryz.func65, Tryz.ntmps65
    go_wp2_with fail
    go_ret
    exact ⟨⟨false, rfl, by simp; omega⟩, rfl⟩
set_option maxRecDepth 20000 in
set_option maxHeartbeats 8000000 in
/-- sparse.within. -/
theorem within_any (a : Option Addr) (n c : Nat) (xs : List Int) (size : Int) (w : World) (h : SlI w a n c xs) (hn : n ≤ 140737488355328) (ok : Bool) (hok : ok = true ↔ InP size xs n) : Calls Tryz.prog 71 #[.slice a n c, .int .i64 size] w fun e w' => QI ok w w' e := by
  have HS := hide h
  have HOK := hide hok
  clear h hok
  go_enter Tryz.func71, Tryz.ntmps71
  go_wp2_with fail
  go_loopw [9, 6] (fun kv _ wr => ∃ k : Nat, k ≤ n ∧ kv = .int .i64 (k : Nat) ∧ Hid (∀ i, i < k → 0 ≤ xs.getD i 0 ∧ xs.getD i 0 < size) ∧ Hid (Dr w wr)) (fun kv _ _ => n - (intOf kv).toNat)
  case atStart => exact ⟨0, Nat.zero_le _, rfl, fun i hi => absurd hi (Nat.not_lt_zero _), Dr.refl _⟩
  case round =>
    obtain ⟨k, hk, rfl, HK, HW⟩ := hrel
    by_cases hlt : k < n
    · have hlt' : (k:Int) < (n:Int) := by omega
      obtain ⟨b, off, rfl, hc⟩ := ((unhide HS).below (unhide HW).below).at (by omega)
      have hx := hc k hlt
      obtain ⟨x, hxx⟩ : ∃ x, xs.getD k 0 = x := ⟨_, rfl⟩
      rw [hxx] at hx
      have HX := hide hxx
      clear hc hxx
      by_cases h0 : x < 0
      · go_wp2_with fail
        go_ret
        exact QI.no (unhide HOK) (fun z => by unfold InP at z; have := (z k hlt).1; have h9 := unhide HX; rw [h9] at this; omega) (unhide HW)
      · by_cases h1 : size ≤ x
        · go_wp2_with fail
          go_ret
          exact QI.no (unhide HOK) (fun z => by unfold InP at z; have := (z k hlt).2; have h9 := unhide HX; rw [h9] at this; omega) (unhide HW)
        · go_wp2_with fail
          refine ⟨⟨k + 1, by omega, by (first | rfl | go_num), hide fun i hi => ?_, HW⟩, by simp [intOf]; omega⟩
          rcases Nat.lt_or_eq_of_le (Nat.le_of_lt_succ hi) with e | e
          · exact unhide HK i e
          · rw [e, unhide HX]; omega
    · have hkn : k = n := by omega
      subst hkn
      have hlt' : ¬ (k:Int) < (k:Int) := by omega
      go_wp2_with fail
      go_ret
      exact QI.yes (unhide HOK) (unhide HK) (unhide HW)
set_option maxRecDepth 20000 in
set_option maxHeartbeats 8000000 in
/-- sparse.isRow. -/
theorem isRow_any (a : Option Addr) (n c : Nat) (xs : List Int) (width : Int) (w : World) (h : SlI w a n c xs) (hn : n ≤ 140737488355328) (ok : Bool) (hok : ok = true ↔ RowP width xs 0 n) : Calls Tryz.prog 46 #[.slice a n c, .int .i64 width] w fun e w' => QI ok w w' e := by
  have HS := hide h
  have HOK := hide hok
  obtain ⟨ok2, hok2⟩ := truth (InP width xs n)
  have HOK2 := hide hok2
  have KW := hide (fun (W : World) (k : Dr w W) => within_any a n c xs width W (h.below k.below) hn ok2 hok2)
  clear hok2
  clear h hok
  go_enter Tryz.func46, Tryz.ntmps46
  go_wp2_with fail
  go_loopw [5] (fun kv wr => ∃ k : Nat, 1 ≤ k ∧ (k ≤ n ∨ k = 1) ∧ kv = .int .i64 (k : Nat) ∧ Hid (∀ i, 0 < i → i < k → xs.getD (i - 1) 0 < xs.getD i 0) ∧ Hid (Dr w wr)) (fun kv _ => n - (intOf kv).toNat)
  case atStart => exact ⟨1, Nat.le_refl _, .inr rfl, rfl, fun i hi hi2 => by omega, Dr.refl _⟩
  case round =>
    obtain ⟨k, hk1, hk, rfl, HK, HW⟩ := hrel
    by_cases hlt : k < n
    · have hlt' : (k:Int) < (n:Int) := by omega
      obtain ⟨b, off, rfl, hc⟩ := ((unhide HS).below (unhide HW).below).at (by omega)
      obtain ⟨j, hj⟩ : ∃ j, k = j + 1 := ⟨k - 1, by omega⟩
      subst hj
      have hx := hc (j + 1) hlt
      have hy := hc j (by omega)
      obtain ⟨x, hxx⟩ : ∃ x, xs.getD (j + 1) 0 = x := ⟨_, rfl⟩
      obtain ⟨y, hyy⟩ : ∃ y, xs.getD j 0 = y := ⟨_, rfl⟩
      rw [hxx] at hx
      rw [hyy] at hy
      have HX := hide (And.intro hxx hyy)
      clear hc hxx hyy hk
      have hlt2 : (j:Int) + 1 < (n:Int) := by omega
      clear hlt'
      by_cases h0 : x ≤ y
      · go_wp2_with fail
        go_region
        all_goals go_wp2_with fail
        all_goals go_ret
        all_goals exact QI.no (unhide HOK) (fun z => by have h8 := z.up (j + 1) (by omega) hlt; have h9 := unhide HX; rw [h9.1, Nat.add_sub_cancel, h9.2] at h8; omega) (unhide HW).drew
      · go_wp2_with fail
        go_region
        all_goals go_wp2_with fail
        all_goals refine ⟨⟨j + 1 + 1, by omega, by omega, by (first | rfl | go_num), hide fun i hi hi2 => ?_, hide (unhide HW).drew⟩, by simp [intOf]; omega⟩
        all_goals rcases Nat.lt_or_eq_of_le (Nat.le_of_lt_succ hi2) with e | e
        all_goals first | exact unhide HK i hi e | (have h9 := unhide HX; subst e; rw [h9.1, Nat.add_sub_cancel, h9.2]; omega)
    · have hlt' : ¬ (k:Int) < (n:Int) := by omega
      go_wp2_with fail
      refine (unhide KW _ (unhide HW)).mono ?_
      rintro _ w3 ⟨rfl, d3⟩
      have HD := hide ((unhide HW).trans d3)
      clear d3
      go_wp2_with fail
      go_ret
      have hK := unhide HK
      refine ⟨?_, unhide HD⟩
      have : ok2 = ok := by
        have h1 := unhide HOK
        have h2 := unhide HOK2
        have h3 : InP width xs n ↔ RowP width xs 0 n := ⟨fun z => ⟨fun i _ hi => z i hi, fun i h1 h2 => hK i h1 (by omega)⟩, fun z i hi => z.rng i (Nat.zero_le _) hi⟩
        have h4 := (h2.trans h3).trans h1.symm
        cases ok2 <;> cases ok <;> simp_all
      show Ending.returned (Value.bool ok2) = _
      rw [this]
end Go.Proofs.YtohamaiobhikiaaGreat
