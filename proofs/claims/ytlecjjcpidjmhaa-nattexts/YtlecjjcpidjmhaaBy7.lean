/-
  Bytes, both, of any list.
-/
import Derived.Test.YtlecjjcpidjmhaaBy6
import Derived.Test.YtlecjjcpidjmhaaLawSt
namespace Go.Proofs.Ytlecjjcpidjmhaa
open Go.RowKit Go.Deep
set_option linter.unusedVariables false

/-- What Bytes answers. -/
def bytesL (xs : List Nat) : List Nat × Int := if MayL xs = true then (lst (fun p => byteN (val xs) (bytesN xs - 1 - p)) (bytesN xs), 0) else ([], 20)

def ResB (w w' : World) (r : List Nat × Int) (e : Ending) : Prop :=
  ∃ a m c, e = .returned (.tuple #[.slice a m c, .int .i64 r.2]) ∧ SlB w' a m c r.1 ∧ Below w.heap.size w w'

theorem slB_nil (w : World) : SlB w none 0 0 [] := ⟨rfl, Nat.le_refl _, (fun x hx => by cases hx), .inl rfl⟩

theorem lst_mem {f : Nat → Nat} {n x : Nat} (h : x ∈ lst f n) : ∃ i, i < n ∧ f i = x := by
  simpa [lst] using h

set_option maxHeartbeats 4000000 in
theorem nbytes_not (a : Option Addr) (n c : Nat) (xs : List Nat) (w : World) (h : Sl w a n c xs) (m : MayL xs = false) :
    Calls Try.prog 18 #[.slice a n c] w fun e w' => ResB w w' ([], 20) e := by
  have KM := may_any a n c xs w h
  rw [m] at KM
  have KM' := hide KM
  clear KM
  go_enter Try.func18, Try.ntmps18
  go_wp2_with fail
  refine (unhide KM').mono ?_
  rintro e w' ⟨rfl, hw⟩
  obtain rfl := hw.symm
  clear hw KM'
  go_wp2_with fail
  go_ret2
  exact ⟨none, 0, 0, rfl, slB_nil _, Below.refl _ _⟩
theorem own_slB {w : World} {base n : Nat} {v : Value} {bs : List Nat} (h : w.ownsRow base 5 1 v n (valsB bs)) (ok : ∀ x ∈ bs, x < 256) : ∃ a c, v = .slice a n c ∧ SlB w a n c bs := by
  have h1 := h.1
  simp [valsB] at h1
  rcases h.2 with ⟨rfl, rfl⟩ | ⟨g, cap, cur, rfl, h2, h3, h4, h5, h6, h7⟩
  · exact ⟨none, 0, rfl, h1, Nat.le_refl _, ok, .inl (List.eq_nil_of_length_eq_zero h1)⟩
  · refine ⟨_, _, rfl, h1, h4, ok, .inr ⟨g, 0, rfl, fun i hi => ?_⟩⟩
    rw [Nat.zero_add, cell_of_block h3]
    have e : (valsB bs)[i]? = some (.int .u8 (bs.getD i 0 : Nat)) := by simp [valsB, hi]
    rw [← h7] at e
    simpa [List.getElem?_take, show i < n from by omega] using e

theorem nbytes_any (a : Option Addr) (n c : Nat) (xs : List Nat) (w : World) (h : Sl w a n c xs) (ox : Ok xs) :
    Calls Try.prog 18 #[.slice a n c] w fun e w' => ResB w w' (bytesL xs) e := by
  unfold bytesL
  cases m : MayL xs
  · exact nbytes_not a n c xs w h m
  · refine (nbytes_ok a n c xs w h ox m).mono ?_
    rintro e w' ⟨b, hb, rfl, hf, hbel⟩
    refine ⟨some ⟨b, 0, none⟩, _, _, rfl, ⟨lst_len _ _, Nat.le_refl _, ?_, .inr ⟨b, 0, rfl, ?_⟩⟩, hbel⟩
    · intro x hx
      obtain ⟨i, _, rfl⟩ := lst_mem hx
      exact byteN_lt _ _
    · intro i hi
      simp only [if_true, lst_len] at hi ⊢
      rw [lst_getD _ _ _ hi]
      exact (hf i hi).1
end Go.Proofs.Ytlecjjcpidjmhaa
