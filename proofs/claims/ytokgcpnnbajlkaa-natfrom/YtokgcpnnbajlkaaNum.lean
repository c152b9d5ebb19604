/-
  PLAIN NUMBERS: lists of limbs, their value, lists without a zero on top. No Go here.
-/
namespace Go.Proofs.Ytokgcpnnbajlkaa
set_option linter.unusedVariables false

def val : List Nat → Nat
  | [] => 0
  | x :: xs => x + 4294967296 * val xs

def Ok (xs : List Nat) : Prop := ∀ x ∈ xs, x < 4294967296

def Norm (xs : List Nat) : Prop := xs = [] ∨ xs.getD (xs.length - 1) 0 ≠ 0

structure Rep (n : Nat) (xs : List Nat) : Prop where
  ok : Ok xs
  norm : Norm xs
  val : val xs = n

theorem Ok.tail {x : Nat} {xs : List Nat} (h : Ok (x :: xs)) : Ok xs := fun y hy => h y (List.mem_cons_of_mem _ hy)
theorem Ok.head {x : Nat} {xs : List Nat} (h : Ok (x :: xs)) : x < 4294967296 := h x (List.mem_cons_self)
theorem Ok.nil : Ok [] := fun x h => by cases h
theorem Ok.cons {x : Nat} {xs : List Nat} (h : x < 4294967296) (k : Ok xs) : Ok (x :: xs) := by
  intro y hy
  rcases List.mem_cons.1 hy with rfl | hy
  · exact h
  · exact k y hy
theorem Ok.getD {xs : List Nat} (h : Ok xs) (i : Nat) : xs.getD i 0 < 4294967296 := by
  by_cases hi : i < xs.length
  · have : xs.getD i 0 = xs[i] := by simp [List.getD, hi]
    rw [this]; exact h _ (List.getElem_mem hi)
  · have : xs.getD i 0 = 0 := by simp [List.getD, List.getElem?_eq_none (Nat.le_of_not_lt hi)]
    rw [this]; decide
theorem Ok.take {xs : List Nat} (h : Ok xs) (m : Nat) : Ok (xs.take m) := fun x hx => h x (List.mem_of_mem_take hx)
theorem Ok.drop {xs : List Nat} (h : Ok xs) (m : Nat) : Ok (xs.drop m) := fun x hx => h x (List.mem_of_mem_drop hx)

theorem val_lt : ∀ {xs : List Nat}, Ok xs → val xs < 4294967296 ^ xs.length
  | [], _ => by simp [val]
  | x :: xs, h => by
    have ih := val_lt h.tail
    have hx := h.head
    simp only [val, List.length_cons, Nat.pow_succ]
    have : 4294967296 * (val xs + 1) ≤ 4294967296 * 4294967296 ^ xs.length := Nat.mul_le_mul_left _ ih
    rw [Nat.mul_comm (4294967296 ^ xs.length)]
    omega

theorem norm_tail {x : Nat} {xs : List Nat} (h : Norm (x :: xs)) : Norm xs := by
  cases xs with
  | nil => exact .inl rfl
  | cons y ys =>
    right
    rcases h with h | h
    · cases h
    · simpa using h

theorem norm_one {x : Nat} (h : Norm [x]) : x ≠ 0 := by
  rcases h with h | h
  · cases h
  · simpa using h

theorem val_ne : ∀ {xs : List Nat}, Norm xs → xs ≠ [] → val xs ≠ 0
  | [], _, h => absurd rfl h
  | [x], h, _ => by have := norm_one h; simp [val]; omega
  | x :: y :: ys, h, _ => by
    have := val_ne (norm_tail h) (by simp)
    simp only [val] at *
    omega

theorem rep_unique : ∀ {xs ys : List Nat}, Ok xs → Ok ys → Norm xs → Norm ys → val xs = val ys → xs = ys
  | [], [], _, _, _, _, _ => rfl
  | [], y :: ys, _, _, _, h, e => by have := val_ne h (by simp); simp only [val] at *; omega
  | x :: xs, [], _, _, h, _, e => by have := val_ne h (by simp); simp only [val] at *; omega
  | x :: xs, y :: ys, ox, oy, nx, ny, e => by
    have hx := ox.head
    have hy := oy.head
    simp only [val] at e
    have e1 : x = y := by omega
    have e2 : val xs = val ys := by omega
    rw [e1, rep_unique ox.tail oy.tail (norm_tail nx) (norm_tail ny) e2]

theorem Rep.unique {n : Nat} {xs ys : List Nat} (h : Rep n xs) (k : Rep n ys) : xs = ys :=
  rep_unique h.ok k.ok h.norm k.norm (h.val.trans k.val.symm)

/-- The first m are what is left without the zeros on top. -/
structure TrimAt (xs : List Nat) (m : Nat) : Prop where
  le : m ≤ xs.length
  top : m = 0 ∨ xs.getD (m - 1) 0 ≠ 0
  zero : ∀ i, m ≤ i → xs.getD i 0 = 0

theorem val_zero : ∀ (xs : List Nat), (∀ i, xs.getD i 0 = 0) → val xs = 0
  | [], _ => rfl
  | x :: xs, h => by
    have h0 := h 0
    have ht := val_zero xs (fun i => by simpa using h (i + 1))
    simp at h0
    simp [val, h0, ht]

theorem val_take : ∀ (xs : List Nat) (m : Nat), (∀ i, m ≤ i → xs.getD i 0 = 0) → val (xs.take m) = val xs
  | xs, 0, h => by simp [val, val_zero xs (fun i => h i (Nat.zero_le _))]
  | [], m + 1, _ => by simp
  | x :: xs, m + 1, h => by
    simp only [List.take_succ_cons, val]
    rw [val_take xs m (fun i hi => by simpa using h (i + 1) (by omega))]

theorem TrimAt.rep {xs : List Nat} {m : Nat} (h : TrimAt xs m) (ok : Ok xs) : Rep (val xs) (xs.take m) := by
  refine ⟨ok.take m, ?_, val_take xs m h.zero⟩
  rcases h.top with h0 | h0
  · left; simp [h0]
  · right
    have hl : (xs.take m).length = m := by simp [Nat.min_eq_left h.le]
    rw [hl]
    by_cases hm : m = 0
    · subst hm
      have := h.zero 0 (Nat.le_refl _)
      simp at h0
      exact absurd (by simpa using this) h0
    · have : (xs.take m).getD (m - 1) 0 = xs.getD (m - 1) 0 := by
        simp [List.getD, show m - 1 < m from by omega]
      rw [this]; exact h0

theorem getD_ge {xs : List Nat} {i : Nat} (h : xs.length ≤ i) : xs.getD i 0 = 0 := by
  simp [List.getD, List.getElem?_eq_none h]

end Go.Proofs.Ytokgcpnnbajlkaa
