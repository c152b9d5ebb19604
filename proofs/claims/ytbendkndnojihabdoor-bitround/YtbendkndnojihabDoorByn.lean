/-
  Texts of sets, plain: a text that Parse takes is the text of the set that it makes.
-/
import Derived.Test.YtbendkndnojihabDoorBym
namespace Go.Proofs.YtbendkndnojihabDoor
open Go.RowKit Go.Deep
set_option linter.unusedVariables false

def sepA (A : List Nu) : List UInt8 := if A.isEmpty then [] else [44]
theorem txN_app : ∀ (A B : List Nu) (f : Bool), txN f (A ++ B) = txN f A ++ txN (f && A.isEmpty) B
  | [], B, f => by simp [txN]
  | e :: A, B, f => by
    simp only [List.cons_append, txN, txN_app A B false, List.isEmpty_cons, Bool.and_false, Bool.false_and, List.append_assoc]
theorem txN_app1 (A : List Nu) (v q : Nat) : txN true (A ++ [(v, q, false)]) = txN true A ++ sepA A ++ Lib.decDigits v := by
  rw [txN_app]
  cases A <;> simp [txN, sepA]
theorem txN_app2 (A : List Nu) (v q v2 q2 : Nat) : txN true (A ++ [(v, q, false), (v2, q2, true)]) = txN true A ++ sepA A ++ Lib.decDigits v ++ [45] ++ Lib.decDigits v2 := by
  rw [txN_app]
  cases A <;> simp [txN, sepA]
theorem alt_app1 : ∀ (A : List Nu) (pl : Bool) (v q : Nat), Alt pl A → Alt pl (A ++ [(v, q, false)])
  | [], pl, v, q, h => ⟨fun _ => rfl, trivial⟩
  | e :: A, pl, v, q, h => ⟨h.1, alt_app1 A _ v q h.2⟩
theorem alt_app2 : ∀ (A : List Nu) (pl : Bool) (v q v2 q2 : Nat), Alt pl A → Alt pl (A ++ [(v, q, false), (v2, q2, true)])
  | [], pl, v, q, v2, q2, h => ⟨fun _ => rfl, by simp, trivial⟩
  | e :: A, pl, v, q, v2, q2, h => ⟨h.1, alt_app2 A _ v q v2 q2 h.2⟩
theorem nmR_pre (s : ByteArray) : ∀ f q l, (nmR s f q l).2.2 = true → l <+: (nmR s f q l).1
  | 0, q, l, h => by simp [nmR] at h
  | f + 1, q, l, h => by
    unfold nmR at h ⊢
    split at h
    · rename_i c1
      rw [if_pos c1]
      split at h
      · rename_i c2
        rw [if_pos c2]
        split at h
        · rename_i c3
          rw [if_pos c3]
          split at h
          · rename_i c4
            rw [if_pos c4]
            exact (List.prefix_append _ _).trans (nmR_pre s f _ _ h)
          · rename_i c4
            rw [if_neg c4]
            exact List.prefix_append _ _
        · cases h
      · rename_i c2
        rw [if_neg c2]
        split at h
        · rename_i c4
          rw [if_pos c4]
          exact (List.prefix_append _ _).trans (nmR_pre s f _ _ h)
        · rename_i c4
          rw [if_neg c4]
          exact List.prefix_append _ _
    · cases h
theorem skB_pre {s : ByteArray} {p : Nat} {c : UInt8} (h : skB s p c.toNat = true) : Pre s p [c] := pre_one.2 (by simpa [skB] using h)
theorem gaR_small (sz : Nat) : ∀ (l : List Nu) (b : Int) (P0 P : Nat → Bool), gaR sz l b P0 = .inl P → ∀ e ∈ l, e.1 < sz
  | [], b, P0, P, h, e, he => by cases he
  | (v, at_, lst) :: l, b, P0, P, h, e, he => by
    obtain ⟨k1, k2, k3⟩ := gaR_cons h
    rcases List.mem_cons.1 he with c | c
    · rw [c]; exact k1
    · exact gaR_small sz l _ _ P k3 e c
/-- What numerals reads is the text of its numbers. -/
theorem nmR_text (s : ByteArray) (h : Nu) (D : List UInt8) : ∀ f q A, q ≤ s.size → Pre s 0 (D ++ txN true A ++ sepA A) → q = (D ++ txN true A ++ sepA A).length → Alt true A → (nmR s f q (h :: A)).2.2 = true → (∀ e ∈ (nmR s f q (h :: A)).1, e.1 ≤ 4096) → ∃ A', (nmR s f q (h :: A)).1 = h :: A' ∧ Alt true A' ∧ Pre s 0 (D ++ txN true A') ∧ (D ++ txN true A').length = s.size
  | 0, q, A, hq, h1, h2, h3, h4, h5 => by simp [nmR] at h4
  | f + 1, q, A, hq, h1, h2, h3, h4, h5 => by
    have hp := nmR_pre s (f + 1) q (h :: A) h4
    have a1 := numR_le (s := s) (p := q) hq
    have t1 := fun hok hv => numR_text (s := s) (p := q) hq hok hv
    unfold nmR at h4 h5 ⊢
    by_cases c1 : (numR s q).2
    · rw [if_pos c1] at h4 h5 ⊢
      by_cases c2 : skB s (numR s q).1.2 45
      · rw [if_pos c2] at h4 h5 ⊢
        have l1 := skB_lt c2
        have p2 : Pre s (numR s q).1.2 [45] := skB_pre c2
        have a2 := numR_le (s := s) (p := (numR s q).1.2 + 1) (by omega)
        have t2 := fun hok hv => numR_text (s := s) (p := (numR s q).1.2 + 1) (by omega) hok hv
        by_cases c3 : (numR s ((numR s q).1.2 + 1)).2
        · rw [if_pos c3] at h4 h5 ⊢
          generalize hn2 : numR s ((numR s q).1.2 + 1) = n2 at *
          generalize hn1 : numR s q = n1 at *
          obtain ⟨⟨v, q1⟩, ok1⟩ := n1
          obtain ⟨⟨v2, q2⟩, ok2⟩ := n2
          simp only at c1 c2 c3 t1 t2 h4 h5 a1 a2 p2 l1 ⊢
          have key : v ≤ 4096 → v2 ≤ 4096 → Pre s 0 (D ++ txN true (A ++ [(v, q, false), (v2, q1 + 1, true)])) ∧ q2 = (D ++ txN true (A ++ [(v, q, false), (v2, q1 + 1, true)])).length := fun g1 g2 => by
            have t1 := t1 c1 g1
            have t2 := t2 c3 g2
            rw [txN_app2]
            have e1 : Pre s 0 (D ++ txN true A ++ sepA A ++ Lib.decDigits v) := h1.app (by rw [Nat.zero_add, ← h2]; exact t1.1)
            have l1 : q1 = (D ++ txN true A ++ sepA A ++ Lib.decDigits v).length := by rw [t1.2, List.length_append (bs := Lib.decDigits v), ← h2]
            have e2 : Pre s 0 (D ++ txN true A ++ sepA A ++ Lib.decDigits v ++ [45]) := e1.app (by rw [Nat.zero_add, ← l1]; exact p2)
            have l2 : q1 + 1 = (D ++ txN true A ++ sepA A ++ Lib.decDigits v ++ [45]).length := by rw [List.length_append (bs := [45]), ← l1]; rfl
            have e3 := e2.app (b := Lib.decDigits v2) (by rw [Nat.zero_add, ← l2]; exact t2.1)
            have l3 : q2 = (D ++ txN true A ++ sepA A ++ Lib.decDigits v ++ [45] ++ Lib.decDigits v2).length := by rw [t2.2, List.length_append (bs := Lib.decDigits v2), ← l2]
            simp only [List.append_assoc] at e3 l3 ⊢
            exact ⟨e3, l3⟩
          by_cases c4 : skB s q2 44
          · rw [if_pos c4] at h4 h5 ⊢
            have hm := nmR_pre s f _ _ h4
            have g1 := h5 (v, q, false) (hm.subset (by simp))
            have g2 := h5 (v2, q1 + 1, true) (hm.subset (by simp))
            obtain ⟨k1, k2⟩ := key g1 g2
            have hsep : sepA (A ++ [(v, q, false), (v2, q1 + 1, true)]) = [44] := by cases A <;> simp [sepA]
            refine nmR_text s h D f (q2 + 1) (A ++ [(v, q, false), (v2, q1 + 1, true)]) (skB_lt c4) ?_ ?_ (alt_app2 _ _ _ _ _ _ h3) h4 h5
            · rw [hsep]; exact k1.app (by rw [Nat.zero_add, ← k2]; exact skB_pre c4)
            · rw [hsep, List.length_append (bs := [44]), ← k2]; rfl
          · rw [if_neg c4] at h4 h5 ⊢
            have g1 := h5 (v, q, false) (by simp)
            have g2 := h5 (v2, q1 + 1, true) (by simp)
            obtain ⟨k1, k2⟩ := key g1 g2
            have hend : q2 = s.size := by simpa using h4
            exact ⟨_, rfl, alt_app2 _ _ _ _ _ _ h3, k1, k2.symm.trans hend⟩
        · rw [if_neg c3] at h4; cases h4
      · rw [if_neg c2] at h4 h5 ⊢
        generalize hn1 : numR s q = n1 at *
        obtain ⟨⟨v, q1⟩, ok1⟩ := n1
        simp only at c1 c2 t1 h4 h5 a1 ⊢
        have key : v ≤ 4096 → Pre s 0 (D ++ txN true (A ++ [(v, q, false)])) ∧ q1 = (D ++ txN true (A ++ [(v, q, false)])).length := fun g1 => by
          have t1 := t1 c1 g1
          rw [txN_app1]
          have e1 := h1.app (b := Lib.decDigits v) (by rw [Nat.zero_add, ← h2]; exact t1.1)
          have l1 : q1 = (D ++ txN true A ++ sepA A ++ Lib.decDigits v).length := by rw [t1.2, List.length_append (bs := Lib.decDigits v), ← h2]
          simp only [List.append_assoc] at e1 l1 ⊢
          exact ⟨e1, l1⟩
        by_cases c4 : skB s q1 44
        · rw [if_pos c4] at h4 h5 ⊢
          have hm := nmR_pre s f _ _ h4
          have g1 := h5 (v, q, false) (hm.subset (by simp))
          obtain ⟨k1, k2⟩ := key g1
          have hsep : sepA (A ++ [(v, q, false)]) = [44] := by cases A <;> simp [sepA]
          refine nmR_text s h D f (q1 + 1) (A ++ [(v, q, false)]) (skB_lt c4) ?_ ?_ (alt_app1 _ _ _ _ h3) h4 h5
          · rw [hsep]; exact k1.app (by rw [Nat.zero_add, ← k2]; exact skB_pre c4)
          · rw [hsep, List.length_append (bs := [44]), ← k2]; rfl
        · rw [if_neg c4] at h4 h5 ⊢
          have g1 := h5 (v, q, false) (by simp)
          obtain ⟨k1, k2⟩ := key g1
          have hend : q1 = s.size := by simpa using h4
          exact ⟨_, rfl, alt_app1 _ _ _ _ h3, k1, k2.symm.trans hend⟩
    · rw [if_neg c1] at h4; cases h4
theorem pre_all {s : ByteArray} {l : List UInt8} (h : Pre s 0 l) (hl : l.length = s.size) : s = strL l := by
  obtain ⟨t, ht⟩ := h.2
  rw [List.drop_zero] at ht
  have e : s.data.toList.length = s.size := Array.length_toList
  have ht0 : t = [] := by
    have := congrArg List.length ht
    rw [List.length_append, e] at this
    exact List.length_eq_zero_iff.1 (by omega)
  rw [ht0, List.append_nil] at ht
  apply ByteArray.ext
  unfold strL
  rw [ht]
theorem nmsR_text {s : ByteArray} (hok : (nmsR s).2.2 = true) (hall : ∀ e ∈ (nmsR s).1, e.1 ≤ 4096) : ∃ v A, (nmsR s).1 = (v, 0, false) :: A ∧ Alt true A ∧ s = strL (Lib.decDigits v ++ [58] ++ txN true A) := by
  have t1 := fun hok hv => numR_text (s := s) (p := 0) (Nat.zero_le _) hok hv
  have a1 := numR_le (s := s) (p := 0) (Nat.zero_le _)
  unfold nmsR at hok hall ⊢
  by_cases c1 : (numR s 0).2
  · rw [if_pos c1] at hok hall ⊢
    by_cases c2 : skB s (numR s 0).1.2 58
    · rw [if_pos c2] at hok hall ⊢
      have p2 : Pre s (numR s 0).1.2 [58] := skB_pre c2
      have l2 := skB_lt c2
      generalize numR s 0 = n1 at *
      obtain ⟨⟨v, q1⟩, ok1⟩ := n1
      simp only at c1 c2 t1 a1 p2 l2 hok hall ⊢
      have key : v ≤ 4096 → Pre s 0 (Lib.decDigits v ++ [58]) ∧ q1 + 1 = (Lib.decDigits v ++ [58]).length := fun g => by
        have t1 := t1 c1 g
        have l1 : q1 = (Lib.decDigits v).length := by rw [t1.2, Nat.zero_add]
        exact ⟨t1.1.app (by rw [Nat.zero_add, ← l1]; exact p2), by rw [List.length_append, ← l1]; rfl⟩
      by_cases c3 : q1 + 1 = s.size
      · rw [if_pos c3] at hok hall ⊢
        obtain ⟨k1, k2⟩ := key (hall (v, 0, false) (by simp))
        exact ⟨v, [], rfl, trivial, pre_all (by simpa [txN] using k1) (by simp only [txN, List.append_nil]; omega)⟩
      · rw [if_neg c3] at hok hall ⊢
        obtain ⟨k1, k2⟩ := key (hall (v, 0, false) ((nmR_pre s _ _ _ hok).subset (by simp)))
        obtain ⟨A', g1, g2, g3, g4⟩ := nmR_text s (v, 0, false) (Lib.decDigits v ++ [58]) (s.size + 1) (q1 + 1) [] (by omega) (by simpa [txN, sepA] using k1) (by simpa [txN, sepA] using k2) trivial hok hall
        exact ⟨v, A', g1, g2, pre_all g3 g4⟩
    · rw [if_neg c2] at hok; cases hok
  · rw [if_neg c1] at hok; cases hok
/-- A text that Parse takes is its set's. -/
theorem paR_text {s : ByteArray} {sz : Nat} {P : Nat → Bool} (h : paR s = .inl (sz, P)) : sz ≤ 4096 ∧ s = strL (Lib.decDigits sz ++ [58] ++ rnT P sz sz) := by
  unfold paR at h
  split at h
  · cases h
  · split at h
    · rename_i hok
      split at h
      · cases h
      · rename_i hsz
        split at h
        · rename_i P' hg
          cases h
          have hsm := gaR_small _ _ _ _ _ hg
          have hall : ∀ e ∈ (nmsR s).1, e.1 ≤ 4096 := fun e he => by
            cases hL : (nmsR s).1 with
            | nil => rw [hL] at he; cases he
            | cons x L =>
              rw [hL] at he hsm hsz
              have h1 : ¬ 4096 < x.1 := hsz
              rcases List.mem_cons.1 he with c | c
              · rw [c]; omega
              · have h2 : e.1 < x.1 := hsm e c
                omega
          refine ⟨by omega, ?_⟩
          obtain ⟨v, A, g1, g2, g3⟩ := nmsR_text hok hall
          rw [g1] at hg ⊢
          have hg2 : gaR v A (-2) (fun _ => false) = .inl P := hg
          have ht := gaR_text v A (-2) _ P true hg2 g2 (.inl ⟨rfl, rfl⟩) (by omega) (fun _ _ => rfl) (fun x hx => by omega)
          show s = strL (Lib.decDigits v ++ [58] ++ rnT P v v)
          rw [ht]
          exact g3
        · cases h
    · cases h
end Go.Proofs.YtbendkndnojihabDoor
