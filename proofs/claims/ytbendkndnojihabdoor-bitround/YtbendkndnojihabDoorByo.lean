/-
  Texts of sets, plain: the text of numbers is read back.
-/
import Derived.Test.YtbendkndnojihabDoorByn
namespace Go.Proofs.YtbendkndnojihabDoor
open Go.RowKit Go.Deep
set_option linter.unusedVariables false

/-- The same numbers, the places aside. -/
def SameN : List Nu → List Nu → Prop
  | [], [] => True
  | e :: l, d :: m => e.1 = d.1 ∧ e.2.2 = d.2.2 ∧ SameN l m
  | _, _ => False
theorem gaR_places (sz : Nat) : ∀ (l m : List Nu) (b : Int) (P0 P : Nat → Bool), SameN l m → gaR sz m b P0 = .inl P → gaR sz l b P0 = .inl P
  | [], [], b, P0, P, h, hg => hg
  | [], _ :: _, b, P0, P, h, hg => h.elim
  | _ :: _, [], b, P0, P, h, hg => h.elim
  | (v, a, lst) :: l, (v2, a2, lst2) :: m, b, P0, P, h, hg => by
    obtain ⟨h1, h2, h3⟩ := h
    simp only at h1 h2
    subst h1 h2
    obtain ⟨k1, k2, k3⟩ := gaR_cons hg
    have ih := gaR_places sz l m _ _ P h3 k3
    unfold gaR
    simp only
    rw [if_neg (by omega), if_neg (by
      cases lst
      · simp at k2 ⊢; omega
      · simp at k2 ⊢; omega)]
    exact ih
theorem pre_skB {s : ByteArray} {p : Nat} {c : UInt8} (h : Pre s p [c]) : skB s p c.toNat = true := by
  have := pre_one.1 h
  simp [skB, this.1, this.2]
theorem skB_ne {s : ByteArray} {p : Nat} {c : UInt8} (d : Nat) (h : Pre s p [c]) (hne : c.toNat ≠ d) : skB s p d = false := by
  have := pre_one.1 h
  simp [skB, this.2, hne]
theorem skB_end {s : ByteArray} (d : Nat) : skB s s.size d = false := by simp [skB]
theorem dg_of {s : ByteArray} {p : Nat} {c : UInt8} (h : Pre s p [c]) (hne : isDg c.toNat = false) : isDg (bySt s p) = false := by
  rw [(pre_one.1 h).2]; exact hne
theorem txN_false {e : Nu} {l : List Nu} (h : e.2.2 = false) : txN false (e :: l) = [44] ++ txN true (e :: l) := by simp [txN, h]
/-- The numbers of a text are read. -/
theorem nmR_back (s : ByteArray) : ∀ n (A : List Nu), A.length ≤ n → A ≠ [] → Alt true A → (∀ e ∈ A, e.1 ≤ 4096) → ∀ f q acc, A.length ≤ f → Pre s q (txN true A) → q + (txN true A).length = s.size → ∃ A', nmR s f q acc = (acc ++ A', s.size, true) ∧ SameN A' A
  | 0, A, hn, hne, ha, hs, f, q, acc, hf, hp, hq => absurd (List.length_eq_zero_iff.1 (by omega)) hne
  | n + 1, [], hn, hne, ha, hs, f, q, acc, hf, hp, hq => absurd rfl hne
  | n + 1, (v, a, lst) :: A, hn, hne, ha, hs, 0, q, acc, hf, hp, hq => by simp at hf
  | n + 1, (v, a, lst) :: A, hn, hne, ha, hs, f + 1, q, acc, hf, hp, hq => by
    have hl := ha.1 rfl
    simp only at hl
    subst hl
    have hv := hs (v, a, false) (by simp)
    simp only at hv
    have e1 : txN true ((v, a, false) :: A) = Lib.decDigits v ++ txN false A := by simp [txN]
    rw [e1] at hp hq
    rw [List.length_append] at hq
    have hp2 := hp.right
    unfold nmR
    cases A with
    | nil =>
      simp only [txN, List.length_nil, Nat.add_zero] at hq
      have hr := numR_back hp.left hv (.inl (by omega))
      rw [hr]
      simp only [if_true]
      rw [show q + (Lib.decDigits v).length = s.size from by omega, skB_end, skB_end]
      simp only [Bool.false_eq_true, if_false]
      exact ⟨[(v, q, false)], by simp, rfl, rfl, trivial⟩
    | cons d A =>
      obtain ⟨v2, a2, l2⟩ := d
      cases l2
      · rw [txN_false rfl] at hp2 hq
        have hr := numR_back hp.left hv (.inr (dg_of hp2.left (by decide)))
        rw [hr]
        simp only [if_true]
        rw [skB_ne 45 hp2.left (by decide), show skB s (q + (Lib.decDigits v).length) 44 = true from pre_skB hp2.left]
        simp only [Bool.false_eq_true, if_false, if_true]
        obtain ⟨A', g1, g2⟩ := nmR_back s n ((v2, a2, false) :: A) (by simp at hn ⊢; omega) (by simp) ⟨fun _ => rfl, ha.2.2⟩ (fun e he => hs e (List.mem_cons_of_mem _ he)) f (q + (Lib.decDigits v).length + 1) (acc ++ [(v, q, false)]) (by simp at hf ⊢; omega) hp2.right (by rw [List.length_append] at hq; simp at hq ⊢; omega)
        exact ⟨(v, q, false) :: A', by rw [g1]; simp, rfl, rfl, g2⟩
      · have e2 : txN false ((v2, a2, true) :: A) = [45] ++ (Lib.decDigits v2 ++ txN false A) := by simp [txN]
        rw [e2] at hp2 hq
        have hv2 := hs (v2, a2, true) (by simp)
        simp only at hv2
        have hr := numR_back hp.left hv (.inr (dg_of hp2.left (by decide)))
        rw [hr]
        simp only [if_true]
        rw [show skB s (q + (Lib.decDigits v).length) 45 = true from pre_skB hp2.left]
        simp only [if_true]
        have hp3 : Pre s (q + (Lib.decDigits v).length + 1) (Lib.decDigits v2 ++ txN false A) := hp2.right
        rw [List.length_append, List.length_append] at hq
        simp only [List.length_singleton] at hq
        have hp4 := hp3.right
        cases A with
        | nil =>
          simp only [txN, List.length_nil, Nat.add_zero] at hq
          have hr2 := numR_back hp3.left hv2 (.inl (by omega))
          rw [hr2]
          simp only [if_true]
          rw [show q + (Lib.decDigits v).length + 1 + (Lib.decDigits v2).length = s.size from by omega, skB_end]
          simp only [Bool.false_eq_true, if_false]
          exact ⟨[(v, q, false), (v2, q + (Lib.decDigits v).length + 1, true)], by simp, rfl, rfl, rfl, rfl, trivial⟩
        | cons d A =>
          obtain ⟨v3, a3, l3⟩ := d
          have hl3 := ha.2.2.1 rfl
          simp only at hl3
          subst hl3
          rw [txN_false rfl] at hp4 hq
          have hr2 := numR_back hp3.left hv2 (.inr (dg_of hp4.left (by decide)))
          rw [hr2]
          simp only [if_true]
          rw [show skB s (q + (Lib.decDigits v).length + 1 + (Lib.decDigits v2).length) 44 = true from pre_skB hp4.left]
          simp only [if_true]
          obtain ⟨A', g1, g2⟩ := nmR_back s n ((v3, a3, false) :: A) (by simp at hn ⊢; omega) (by simp) ⟨fun _ => rfl, ha.2.2.2⟩ (fun e he => hs e (List.mem_cons_of_mem _ (List.mem_cons_of_mem _ he))) f (q + (Lib.decDigits v).length + 1 + (Lib.decDigits v2).length + 1) (acc ++ [(v, q, false), (v2, q + (Lib.decDigits v).length + 1, true)]) (by simp at hf ⊢; omega) hp4.right (by rw [List.length_append] at hq; simp at hq ⊢; omega)
          exact ⟨(v, q, false) :: (v2, q + (Lib.decDigits v).length + 1, true) :: A', by rw [g1]; simp, rfl, rfl, rfl, rfl, g2⟩
end Go.Proofs.YtbendkndnojihabDoor
