/-
  PLAIN NUMBERS: lists of limbs, their value, lists without a zero on top. No Go here.
-/

namespace Go.Proofs.Ytgonfjigcplbnaa
set_option linter.unusedVariables false

def val : List Nat → Nat
  | [] => 0
  | x :: xs => x + 4294967296 * val xs

def Ok (xs : List Nat) : Prop := ∀ x ∈ xs, x < 4294967296

def Norm (xs : List Nat) : Prop := xs = [] ∨ xs.getD (xs.length - 1) 0 ≠ 0

structure Rep (n : Nat) (xs : List Nat) : Prop where
  ok : Ok xs
  norm : Norm xs
  val : val xs = n

theorem Ok.tail {x : Nat} {xs : List Nat} (h : Ok (x :: xs)) : Ok xs := fun y hy => h y (List.mem_cons_of_mem _ hy)
theorem Ok.head {x : Nat} {xs : List Nat} (h : Ok (x :: xs)) : x < 4294967296 := h x (List.mem_cons_self)
theorem Ok.nil : Ok [] := fun x h => by cases h
theorem Ok.cons {x : Nat} {xs : List Nat} (h : x < 4294967296) (k : Ok xs) : Ok (x :: xs) := by
  intro y hy
  rcases List.mem_cons.1 hy with rfl | hy
  · exact h
  · exact k y hy
theorem Ok.getD {xs : List Nat} (h : Ok xs) (i : Nat) : xs.getD i 0 < 4294967296 := by
  by_cases hi : i < xs.length
  · have : xs.getD i 0 = xs[i] := by simp [List.getD, hi]
    rw [this]; exact h _ (List.getElem_mem hi)
  · have : xs.getD i 0 = 0 := by simp [List.getD, List.getElem?_eq_none (Nat.le_of_not_lt hi)]
    rw [this]; decide
theorem Ok.take {xs : List Nat} (h : Ok xs) (m : Nat) : Ok (xs.take m) := fun x hx => h x (List.mem_of_mem_take hx)
theorem Ok.drop {xs : List Nat} (h : Ok xs) (m : Nat) : Ok (xs.drop m) := fun x hx => h x (List.mem_of_mem_drop hx)

theorem val_lt : ∀ {xs : List Nat}, Ok xs → val xs < 4294967296 ^ xs.length
  | [], _ => by simp [val]
  | x :: xs, h => by
    have ih := val_lt h.tail
    have hx := h.head
    simp only [val, List.length_cons, Nat.pow_succ]
    have : 4294967296 * (val xs + 1) ≤ 4294967296 * 4294967296 ^ xs.length := Nat.mul_le_mul_left _ ih
    rw [Nat.mul_comm (4294967296 ^ xs.length)]
    omega

theorem norm_tail {x : Nat} {xs : List Nat} (h : Norm (x :: xs)) : Norm xs := by
  cases xs with
  | nil => exact .inl rfl
  | cons y ys =>
    right
    rcases h with h | h
    · cases h
    · simpa using h

theorem norm_one {x : Nat} (h : Norm [x]) : x ≠ 0 := by
  rcases h with h | h
  · cases h
  · simpa using h

theorem val_ne : ∀ {xs : List Nat}, Norm xs → xs ≠ [] → val xs ≠ 0
  | [], _, h => absurd rfl h
  | [x], h, _ => by have := norm_one h; simp [val]; omega
  | x :: y :: ys, h, _ => by
    have := val_ne (norm_tail h) (by simp)
    simp only [val] at *
    omega

theorem rep_unique : ∀ {xs ys : List Nat}, Ok xs → Ok ys → Norm xs → Norm ys → val xs = val ys → xs = ys
  | [], [], _, _, _, _, _ => rfl
  | [], y :: ys, _, _, _, h, e => by have := val_ne h (by simp); simp only [val] at *; omega
  | x :: xs, [], _, _, h, _, e => by have := val_ne h (by simp); simp only [val] at *; omega
  | x :: xs, y :: ys, ox, oy, nx, ny, e => by
    have hx := ox.head
    have hy := oy.head
    simp only [val] at e
    have e1 : x = y := by omega
    have e2 : val xs = val ys := by omega
    rw [e1, rep_unique ox.tail oy.tail (norm_tail nx) (norm_tail ny) e2]

theorem Rep.unique {n : Nat} {xs ys : List Nat} (h : Rep n xs) (k : Rep n ys) : xs = ys :=
  rep_unique h.ok k.ok h.norm k.norm (h.val.trans k.val.symm)

/-- The first m are what is left without the zeros on top. -/
structure TrimAt (xs : List Nat) (m : Nat) : Prop where
  le : m ≤ xs.length
  top : m = 0 ∨ xs.getD (m - 1) 0 ≠ 0
  zero : ∀ i, m ≤ i → xs.getD i 0 = 0

theorem val_zero : ∀ (xs : List Nat), (∀ i, xs.getD i 0 = 0) → val xs = 0
  | [], _ => rfl
  | x :: xs, h => by
    have h0 := h 0
    have ht := val_zero xs (fun i => by simpa using h (i + 1))
    simp at h0
    simp [val, h0, ht]

theorem val_take : ∀ (xs : List Nat) (m : Nat), (∀ i, m ≤ i → xs.getD i 0 = 0) → val (xs.take m) = val xs
  | xs, 0, h => by simp [val, val_zero xs (fun i => h i (Nat.zero_le _))]
  | [], m + 1, _ => by simp
  | x :: xs, m + 1, h => by
    simp only [List.take_succ_cons, val]
    rw [val_take xs m (fun i hi => by simpa using h (i + 1) (by omega))]

theorem TrimAt.rep {xs : List Nat} {m : Nat} (h : TrimAt xs m) (ok : Ok xs) : Rep (val xs) (xs.take m) := by
  refine ⟨ok.take m, ?_, val_take xs m h.zero⟩
  rcases h.top with h0 | h0
  · left; simp [h0]
  · right
    have hl : (xs.take m).length = m := by simp [Nat.min_eq_left h.le]
    rw [hl]
    by_cases hm : m = 0
    · subst hm
      have := h.zero 0 (Nat.le_refl _)
      simp at h0
      exact absurd (by simpa using this) h0
    · have : (xs.take m).getD (m - 1) 0 = xs.getD (m - 1) 0 := by
        simp [List.getD, show m - 1 < m from by omega]
      rw [this]; exact h0

theorem getD_ge {xs : List Nat} {i : Nat} (h : xs.length ≤ i) : xs.getD i 0 = 0 := by
  simp [List.getD, List.getElem?_eq_none h]

theorem val_append : ∀ (xs ys : List Nat), val (xs ++ ys) = val xs + 4294967296 ^ xs.length * val ys
  | [], ys => by simp [val]
  | x :: xs, ys => by
    simp only [List.cons_append, val, List.length_cons, Nat.pow_succ]
    have e : 4294967296 * (4294967296 ^ xs.length * val ys) = 4294967296 ^ xs.length * 4294967296 * val ys := by rw [← Nat.mul_assoc, Nat.mul_comm 4294967296]
    rw [val_append xs ys, Nat.mul_add, e, Nat.add_assoc]

theorem val_split (xs : List Nat) (i : Nat) (h : i ≤ xs.length) : val xs = val (xs.take i) + 4294967296 ^ i * val (xs.drop i) := by
  have := val_append (xs.take i) (xs.drop i)
  rw [List.take_append_drop, List.length_take, Nat.min_eq_left h] at this
  exact this

theorem pow_pos (n : Nat) : 0 < 4294967296 ^ n := Nat.pow_pos (by decide)

theorem ext_getD {xs ys : List Nat} (hl : xs.length = ys.length) (h : ∀ i, i < xs.length → xs.getD i 0 = ys.getD i 0) : xs = ys := by
  apply List.ext_getElem hl
  intro i a1 a2
  have := h i a1
  simpa [List.getD, a1, a2] using this

theorem drop_cons {xs : List Nat} {i : Nat} (h : i < xs.length) : xs.drop i = xs.getD i 0 :: xs.drop (i + 1) := by
  rw [List.drop_eq_getElem_cons h]
  simp [List.getD, h]

/-- The top limb that differs tells. -/
theorem val_lt_of {xs ys : List Nat} {i : Nat} (hl : xs.length = ys.length) (ox : Ok xs) (oy : Ok ys) (hi : i < xs.length) (he : ∀ j, i < j → xs.getD j 0 = ys.getD j 0) (hlt : xs.getD i 0 < ys.getD i 0) : val xs < val ys := by
  have e : xs.drop (i + 1) = ys.drop (i + 1) := by
    apply ext_getD (by simp [hl])
    intro j hj
    have := he (i + 1 + j) (by omega)
    simpa [List.getD, List.getElem?_drop] using this
  rw [val_split xs i (by omega), val_split ys i (by omega), drop_cons hi, drop_cons (by omega : i < ys.length), e]
  simp only [val]
  have b1 := val_lt (ox.take i)
  rw [List.length_take, Nat.min_eq_left (by omega)] at b1
  have : 4294967296 ^ i * (xs.getD i 0 + 4294967296 * val (ys.drop (i + 1)) + 1) ≤ 4294967296 ^ i * (ys.getD i 0 + 4294967296 * val (ys.drop (i + 1))) := Nat.mul_le_mul_left _ (by omega)
  rw [Nat.mul_add, Nat.mul_one] at this
  omega

/-- -1, 0, 1. -/
def cmpN (a b : Nat) : Int := if a < b then -1 else if a = b then 0 else 1

theorem cmpN_lt {a b : Nat} (h : a < b) : cmpN a b = -1 := by simp [cmpN, h]
theorem cmpN_eq {a b : Nat} (h : a = b) : cmpN a b = 0 := by simp [cmpN, h]
theorem cmpN_gt {a b : Nat} (h : b < a) : cmpN a b = 1 := by
  unfold cmpN
  rw [if_neg (by omega), if_neg (by omega)]

theorem val_ge_of_norm {xs : List Nat} (h : Norm xs) (hx : xs ≠ []) : 4294967296 ^ (xs.length - 1) ≤ val xs := by
  have hp : 0 < xs.length := List.length_pos_iff.2 hx
  rw [val_split xs (xs.length - 1) (by omega), drop_cons (by omega)]
  rcases h with h | h
  · exact absurd h hx
  · have h0 : 1 ≤ xs.getD (xs.length - 1) 0 := by omega
    simp only [val]
    have : 4294967296 ^ (xs.length - 1) * 1 ≤ 4294967296 ^ (xs.length - 1) * (xs.getD (xs.length - 1) 0 + 4294967296 * val (xs.drop (xs.length - 1 + 1))) := Nat.mul_le_mul_left _ (by omega)
    omega

theorem len_lt_val {xs ys : List Nat} (ox : Ok xs) (ny : Norm ys) (h : xs.length < ys.length) : val xs < val ys := by
  have h1 := val_lt ox
  have h2 := val_ge_of_norm ny (by intro e; subst e; simp at h)
  have h3 : 4294967296 ^ xs.length ≤ 4294967296 ^ (ys.length - 1) := Nat.pow_le_pow_right (by decide) (by omega)
  omega

/-- The limbs of a number, in its one way. -/
def limbsF : Nat → Nat → List Nat
  | 0, _ => []
  | k + 1, n => if n = 0 then [] else (n % 4294967296) :: limbsF k (n / 4294967296)

def limbs (n : Nat) : List Nat := limbsF n n

theorem norm_cons {x : Nat} {xs : List Nat} (h : Norm xs) (hx : xs ≠ [] ∨ x ≠ 0) : Norm (x :: xs) := by
  right
  cases xs with
  | nil =>
    rcases hx with h | h
    · exact absurd rfl h
    · simpa using h
  | cons y ys =>
    rcases h with h | h
    · cases h
    · simpa using h

theorem limbsF_rep : ∀ (k n : Nat), n ≤ k → Rep n (limbsF k n)
  | 0, n, h => by
    have : n = 0 := by omega
    subst this
    exact ⟨Ok.nil, .inl rfl, rfl⟩
  | k + 1, n, h => by
    unfold limbsF
    by_cases h0 : n = 0
    · rw [if_pos h0]; subst h0; exact ⟨Ok.nil, .inl rfl, rfl⟩
    · rw [if_neg h0]
      have hr := limbsF_rep k (n / 4294967296) (by omega)
      refine ⟨Ok.cons (by omega) hr.ok, norm_cons hr.norm ?_, ?_⟩
      · by_cases hz : n / 4294967296 = 0
        · right; omega
        · left
          intro e
          have hv := hr.val
          rw [e] at hv
          simp only [val] at hv
          omega
      · simp only [val]
        rw [hr.val]
        omega

theorem limbs_rep (n : Nat) : Rep n (limbs n) := limbsF_rep n n (Nat.le_refl _)
theorem Rep.eq {n : Nat} {xs : List Nat} (h : Rep n xs) : xs = limbs n := h.unique (limbs_rep n)
theorem limbs_val {xs : List Nat} (ok : Ok xs) (h : Norm xs) : limbs (val xs) = xs := (limbs_rep _).unique ⟨ok, h, rfl⟩
theorem limbs_zero : limbs 0 = [] := rfl

end Go.Proofs.Ytgonfjigcplbnaa
