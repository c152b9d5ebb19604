/- Num -/
import Derived.Test.YtiadccaaoenccaaDoorRows
import Derived.WalkKit
import Derived.WalkSpells
import Derived.WalkLawsBesides
import Derived.Deep.QuietTactic
import Derived.BigQuiet
import Derived.Deep.OwnRows
namespace Go.Proofs.YtiadccaaoenccaaDoor
set_option linter.unusedVariables false
def val : List Nat → Nat
  | [] => 0
  | x :: xs => x + 4294967296 * val xs

def Ok (xs : List Nat) : Prop := ∀ x ∈ xs, x < 4294967296

def Norm (xs : List Nat) : Prop := xs = [] ∨ xs.getD (xs.length - 1) 0 ≠ 0

structure Rep (n : Nat) (xs : List Nat) : Prop where
  ok : Ok xs
  norm : Norm xs
  val : val xs = n

theorem Ok.tail {x : Nat} {xs : List Nat} (h : Ok (x :: xs)) : Ok xs := fun y hy => h y (List.mem_cons_of_mem _ hy)
theorem Ok.head {x : Nat} {xs : List Nat} (h : Ok (x :: xs)) : x < 4294967296 := h x (List.mem_cons_self)
theorem Ok.nil : Ok [] := fun x h => by cases h
theorem Ok.cons {x : Nat} {xs : List Nat} (h : x < 4294967296) (k : Ok xs) : Ok (x :: xs) := by
  intro y hy
  rcases List.mem_cons.1 hy with rfl | hy
  · exact h
  · exact k y hy
theorem Ok.getD {xs : List Nat} (h : Ok xs) (i : Nat) : xs.getD i 0 < 4294967296 := by
  by_cases hi : i < xs.length
  · have : xs.getD i 0 = xs[i] := by simp [List.getD, hi]
    rw [this]; exact h _ (List.getElem_mem hi)
  · have : xs.getD i 0 = 0 := by simp [List.getD, List.getElem?_eq_none (Nat.le_of_not_lt hi)]
    rw [this]; decide
theorem Ok.take {xs : List Nat} (h : Ok xs) (m : Nat) : Ok (xs.take m) := fun x hx => h x (List.mem_of_mem_take hx)
theorem Ok.drop {xs : List Nat} (h : Ok xs) (m : Nat) : Ok (xs.drop m) := fun x hx => h x (List.mem_of_mem_drop hx)

theorem val_lt : ∀ {xs : List Nat}, Ok xs → val xs < 4294967296 ^ xs.length
  | [], _ => by simp [val]
  | x :: xs, h => by
    have ih := val_lt h.tail
    have hx := h.head
    simp only [val, List.length_cons, Nat.pow_succ]
    have : 4294967296 * (val xs + 1) ≤ 4294967296 * 4294967296 ^ xs.length := Nat.mul_le_mul_left _ ih
    rw [Nat.mul_comm (4294967296 ^ xs.length)]
    omega

theorem norm_tail {x : Nat} {xs : List Nat} (h : Norm (x :: xs)) : Norm xs := by
  cases xs with
  | nil => exact .inl rfl
  | cons y ys =>
    right
    rcases h with h | h
    · cases h
    · simpa using h

theorem norm_one {x : Nat} (h : Norm [x]) : x ≠ 0 := by
  rcases h with h | h
  · cases h
  · simpa using h

theorem val_ne : ∀ {xs : List Nat}, Norm xs → xs ≠ [] → val xs ≠ 0
  | [], _, h => absurd rfl h
  | [x], h, _ => by have := norm_one h; simp [val]; omega
  | x :: y :: ys, h, _ => by
    have := val_ne (norm_tail h) (by simp)
    simp only [val] at *
    omega

theorem rep_unique : ∀ {xs ys : List Nat}, Ok xs → Ok ys → Norm xs → Norm ys → val xs = val ys → xs = ys
  | [], [], _, _, _, _, _ => rfl
  | [], y :: ys, _, _, _, h, e => by have := val_ne h (by simp); simp only [val] at *; omega
  | x :: xs, [], _, _, h, _, e => by have := val_ne h (by simp); simp only [val] at *; omega
  | x :: xs, y :: ys, ox, oy, nx, ny, e => by
    have hx := ox.head
    have hy := oy.head
    simp only [val] at e
    have e1 : x = y := by omega
    have e2 : val xs = val ys := by omega
    rw [e1, rep_unique ox.tail oy.tail (norm_tail nx) (norm_tail ny) e2]

theorem Rep.unique {n : Nat} {xs ys : List Nat} (h : Rep n xs) (k : Rep n ys) : xs = ys :=
  rep_unique h.ok k.ok h.norm k.norm (h.val.trans k.val.symm)

structure TrimAt (xs : List Nat) (m : Nat) : Prop where
  le : m ≤ xs.length
  top : m = 0 ∨ xs.getD (m - 1) 0 ≠ 0
  zero : ∀ i, m ≤ i → xs.getD i 0 = 0

theorem val_zero : ∀ (xs : List Nat), (∀ i, xs.getD i 0 = 0) → val xs = 0
  | [], _ => rfl
  | x :: xs, h => by
    have h0 := h 0
    have ht := val_zero xs (fun i => by simpa using h (i + 1))
    simp at h0
    simp [val, h0, ht]

theorem val_take : ∀ (xs : List Nat) (m : Nat), (∀ i, m ≤ i → xs.getD i 0 = 0) → val (xs.take m) = val xs
  | xs, 0, h => by simp [val, val_zero xs (fun i => h i (Nat.zero_le _))]
  | [], m + 1, _ => by simp
  | x :: xs, m + 1, h => by
    simp only [List.take_succ_cons, val]
    rw [val_take xs m (fun i hi => by simpa using h (i + 1) (by omega))]

theorem TrimAt.rep {xs : List Nat} {m : Nat} (h : TrimAt xs m) (ok : Ok xs) : Rep (val xs) (xs.take m) := by
  refine ⟨ok.take m, ?_, val_take xs m h.zero⟩
  rcases h.top with h0 | h0
  · left; simp [h0]
  · right
    have hl : (xs.take m).length = m := by simp [Nat.min_eq_left h.le]
    rw [hl]
    by_cases hm : m = 0
    · subst hm
      have := h.zero 0 (Nat.le_refl _)
      simp at h0
      exact absurd (by simpa using this) h0
    · have : (xs.take m).getD (m - 1) 0 = xs.getD (m - 1) 0 := by
        simp [List.getD, show m - 1 < m from by omega]
      rw [this]; exact h0

theorem getD_ge {xs : List Nat} {i : Nat} (h : xs.length ≤ i) : xs.getD i 0 = 0 := by
  simp [List.getD, List.getElem?_eq_none h]

theorem val_append : ∀ (xs ys : List Nat), val (xs ++ ys) = val xs + 4294967296 ^ xs.length * val ys
  | [], ys => by simp [val]
  | x :: xs, ys => by
    simp only [List.cons_append, val, List.length_cons, Nat.pow_succ]
    have e : 4294967296 * (4294967296 ^ xs.length * val ys) = 4294967296 ^ xs.length * 4294967296 * val ys := by rw [← Nat.mul_assoc, Nat.mul_comm 4294967296]
    rw [val_append xs ys, Nat.mul_add, e, Nat.add_assoc]

theorem val_split (xs : List Nat) (i : Nat) (h : i ≤ xs.length) : val xs = val (xs.take i) + 4294967296 ^ i * val (xs.drop i) := by
  have := val_append (xs.take i) (xs.drop i)
  rw [List.take_append_drop, List.length_take, Nat.min_eq_left h] at this
  exact this

theorem pow_pos (n : Nat) : 0 < 4294967296 ^ n := Nat.pow_pos (by decide)

theorem ext_getD {xs ys : List Nat} (hl : xs.length = ys.length) (h : ∀ i, i < xs.length → xs.getD i 0 = ys.getD i 0) : xs = ys := by
  apply List.ext_getElem hl
  intro i a1 a2
  have := h i a1
  simpa [List.getD, a1, a2] using this

theorem drop_cons {xs : List Nat} {i : Nat} (h : i < xs.length) : xs.drop i = xs.getD i 0 :: xs.drop (i + 1) := by
  rw [List.drop_eq_getElem_cons h]
  simp [List.getD, h]

theorem val_lt_of {xs ys : List Nat} {i : Nat} (hl : xs.length = ys.length) (ox : Ok xs) (oy : Ok ys) (hi : i < xs.length) (he : ∀ j, i < j → xs.getD j 0 = ys.getD j 0) (hlt : xs.getD i 0 < ys.getD i 0) : val xs < val ys := by
  have e : xs.drop (i + 1) = ys.drop (i + 1) := by
    apply ext_getD (by simp [hl])
    intro j hj
    have := he (i + 1 + j) (by omega)
    simpa [List.getD, List.getElem?_drop] using this
  rw [val_split xs i (by omega), val_split ys i (by omega), drop_cons hi, drop_cons (by omega : i < ys.length), e]
  simp only [val]
  have b1 := val_lt (ox.take i)
  rw [List.length_take, Nat.min_eq_left (by omega)] at b1
  have : 4294967296 ^ i * (xs.getD i 0 + 4294967296 * val (ys.drop (i + 1)) + 1) ≤ 4294967296 ^ i * (ys.getD i 0 + 4294967296 * val (ys.drop (i + 1))) := Nat.mul_le_mul_left _ (by omega)
  rw [Nat.mul_add, Nat.mul_one] at this
  omega

def cmpN (a b : Nat) : Int := if a < b then -1 else if a = b then 0 else 1

theorem cmpN_lt {a b : Nat} (h : a < b) : cmpN a b = -1 := by simp [cmpN, h]
theorem cmpN_eq {a b : Nat} (h : a = b) : cmpN a b = 0 := by simp [cmpN, h]
theorem cmpN_gt {a b : Nat} (h : b < a) : cmpN a b = 1 := by
  unfold cmpN
  rw [if_neg (by omega), if_neg (by omega)]

theorem val_ge_of_norm {xs : List Nat} (h : Norm xs) (hx : xs ≠ []) : 4294967296 ^ (xs.length - 1) ≤ val xs := by
  have hp : 0 < xs.length := List.length_pos_iff.2 hx
  rw [val_split xs (xs.length - 1) (by omega), drop_cons (by omega)]
  rcases h with h | h
  · exact absurd h hx
  · have h0 : 1 ≤ xs.getD (xs.length - 1) 0 := by omega
    simp only [val]
    have : 4294967296 ^ (xs.length - 1) * 1 ≤ 4294967296 ^ (xs.length - 1) * (xs.getD (xs.length - 1) 0 + 4294967296 * val (xs.drop (xs.length - 1 + 1))) := Nat.mul_le_mul_left _ (by omega)
    omega

theorem len_lt_val {xs ys : List Nat} (ox : Ok xs) (ny : Norm ys) (h : xs.length < ys.length) : val xs < val ys := by
  have h1 := val_lt ox
  have h2 := val_ge_of_norm ny (by intro e; subst e; simp at h)
  have h3 : 4294967296 ^ xs.length ≤ 4294967296 ^ (ys.length - 1) := Nat.pow_le_pow_right (by decide) (by omega)
  omega

def limbsF : Nat → Nat → List Nat
  | 0, _ => []
  | k + 1, n => if n = 0 then [] else (n % 4294967296) :: limbsF k (n / 4294967296)

def limbs (n : Nat) : List Nat := limbsF n n

theorem norm_cons {x : Nat} {xs : List Nat} (h : Norm xs) (hx : xs ≠ [] ∨ x ≠ 0) : Norm (x :: xs) := by
  right
  cases xs with
  | nil =>
    rcases hx with h | h
    · exact absurd rfl h
    · simpa using h
  | cons y ys =>
    rcases h with h | h
    · cases h
    · simpa using h

theorem limbsF_rep : ∀ (k n : Nat), n ≤ k → Rep n (limbsF k n)
  | 0, n, h => by
    have : n = 0 := by omega
    subst this
    exact ⟨Ok.nil, .inl rfl, rfl⟩
  | k + 1, n, h => by
    unfold limbsF
    by_cases h0 : n = 0
    · rw [if_pos h0]; subst h0; exact ⟨Ok.nil, .inl rfl, rfl⟩
    · rw [if_neg h0]
      have hr := limbsF_rep k (n / 4294967296) (by omega)
      refine ⟨Ok.cons (by omega) hr.ok, norm_cons hr.norm ?_, ?_⟩
      · by_cases hz : n / 4294967296 = 0
        · right; omega
        · left
          intro e
          have hv := hr.val
          rw [e] at hv
          simp only [val] at hv
          omega
      · simp only [val]
        rw [hr.val]
        omega

theorem limbs_rep (n : Nat) : Rep n (limbs n) := limbsF_rep n n (Nat.le_refl _)
theorem Rep.eq {n : Nat} {xs : List Nat} (h : Rep n xs) : xs = limbs n := h.unique (limbs_rep n)
theorem limbs_val {xs : List Nat} (ok : Ok xs) (h : Norm xs) : limbs (val xs) = xs := (limbs_rep _).unique ⟨ok, h, rfl⟩
theorem limbs_zero : limbs 0 = [] := rfl
end Go.Proofs.YtiadccaaoenccaaDoor
namespace Go.Proofs.YtiadccaaoenccaaDoor
open Go.RowKit Go.Deep
set_option linter.unusedVariables false
theorem hide {p : Prop} (h : p) : Hid p := h
theorem unhide {p : Prop} (h : Hid p) : p := h

theorem drewN_add (w : World) (a b : Nat) : (w.drewN a).drewN b = w.drewN (a + b) := by simp [World.drewN, Nat.add_assoc]

theorem drewN_add3 (w : World) (a b c : Nat) : ((w.drewN a).drewN b).drewN c = w.drewN (a + b + c) := by rw [drewN_add, drewN_add, Nat.add_assoc]

def Cells (w : World) (b off : Nat) (xs : List Nat) : Prop :=
  ∀ i, i < xs.length → w.cell? ⟨b, off + i, none⟩ = some (.int .u32 (xs.getD i 0 : Nat))

structure Sl (w : World) (a : Option Addr) (n c : Nat) (xs : List Nat) : Prop where
  len : xs.length = n
  le : n ≤ c
  cap : c ≤ maxLen
  cells : xs = [] ∨ ∃ b off, a = some ⟨b, off, none⟩ ∧ Cells w b off xs

set_option maxHeartbeats 400000 in
theorem limbAt_out (a : Option Addr) (len cap : Nat) (i : Int) (w : World) (h : (len:Int) ≤ i) :
    Calls Tryd.prog 82 #[.slice a len cap, .int .i64 i] w fun e w' => e = .returned (.int .u32 0) ∧ w' = w := by
  go_enter Tryd.func82, Tryd.ntmps82
  go_wp2
  go_ret
  exact ⟨rfl, rfl⟩
set_option maxHeartbeats 400000 in
theorem limbAt_in (b off : Nat) (len cap : Nat) (i : Nat) (x : Int) (w : World) (h : i < len) (hc : w.cell? ⟨b, off + i, none⟩ = some (.int .u32 x)) :
    Calls Tryd.prog 82 #[.slice (some ⟨b, off, none⟩) len cap, .int .i64 i] w fun e w' => e = .returned (.int .u32 x) ∧ w' = w := by
  go_enter Tryd.func82, Tryd.ntmps82
  go_wp2
  go_ret
  exact ⟨rfl, rfl⟩
theorem limbAt_any (a : Option Addr) (n c : Nat) (xs : List Nat) (i : Int) (w : World) (h : Sl w a n c xs) (hi : 0 ≤ i) :
    Calls Tryd.prog 82 #[.slice a n c, .int .i64 i] w fun e w' => e = .returned (.int .u32 (xs.getD i.toNat 0 : Nat)) ∧ w' = w := by
  obtain ⟨i, rfl⟩ := Int.eq_ofNat_of_zero_le hi
  by_cases hlt : i < n
  · rcases h.cells with h0 | ⟨b, off, rfl, hc⟩
    · have := h.len; rw [h0] at this; simp at this; omega
    · have := hc i (by rw [h.len]; exact hlt)
      exact limbAt_in b off n c i _ w hlt this
  · have hz : xs.getD i 0 = 0 := getD_ge (by rw [h.len]; omega)
    rw [show (Int.toNat (i : Int)) = i from Int.toNat_natCast i, hz]
    exact limbAt_out a n c i w (by omega)

set_option maxHeartbeats 400000 in
theorem trim_some (b off n c : Nat) (xs : List Nat) (w : World) (hn : xs.length = n) (hnc : n ≤ c) (hcm : c ≤ maxLen) (hc : Cells w b off xs) :
    Calls Tryd.prog 80 #[.slice (some ⟨b, off, none⟩) n c] w fun e w' => ∃ m, TrimAt xs m ∧ e = .returned (if m = 0 then .slice none 0 0 else .slice (some ⟨b, off, none⟩) m m) ∧ w' = w := by
  unfold maxLen at hcm
  go_enter Tryd.func80, Tryd.ntmps80
  go_wp2
  go_loop [3] (fun i => ∃ k : Nat, k ≤ n ∧ i = .int .i64 k ∧ ∀ j, k ≤ j → xs.getD j 0 = 0) (fun i => (intOf i).toNat)
  case atStart => exact ⟨n, Nat.le_refl _, rfl, fun j hj => getD_ge (by omega)⟩
  case round =>
    obtain ⟨k, hk, rfl, hz⟩ := hrel
    by_cases h0 : k = 0
    · subst h0
      go_wp2
      go_ret
      exact ⟨0, ⟨by omega, .inl rfl, hz⟩, rfl, rfl⟩
    · have hpos : (0:Int) < (k:Int) := by omega
      have hk1 : ((k:Int) - 1).toNat = k - 1 := by omega
      have hne : ((k:Int) == 0) = false := by simp; omega
      have hcell := hc (k - 1) (by omega)
      by_cases hx : xs.getD (k - 1) 0 = 0
      · rw [hx] at hcell
        have Hx : Hid (xs.getD (k - 1) 0 = 0) := hx
        clear hx
        go_wp2
        go_round
        case rel => exact ⟨k - 1, by omega, by congr 1; omega, fun j hj => by
          by_cases e : j = k - 1
          · rw [e]; exact Hx.out
          · exact hz j (by omega)⟩
        case measure => simp [intOf]; omega
      · have Hx : Hid (xs.getD (k - 1) 0 ≠ 0) := hx
        have hx' : (((xs.getD (k - 1) 0 : Nat) : Int) == 0) = false := by simp at hx ⊢; exact hx
        clear hx
        generalize hg : (((xs.getD (k - 1) 0 : Nat) : Int)) = g at hcell hx'
        clear hg
        go_wp2
        go_ret
        refine ⟨k, ⟨by omega, .inr Hx.out, hz⟩, ?_, rfl⟩
        simp [h0]

theorem trim_nil (a : Option Addr) (c : Nat) (w : World) :
    Calls Tryd.prog 80 #[.slice a 0 c] w fun e w' => e = .returned (.slice none 0 0) ∧ w' = w := by
  go_enter Tryd.func80, Tryd.ntmps80
  go_wp2
  go_loop [3] (fun i => i = .int .i64 0) (fun i => (intOf i).toNat)
  case atStart => rfl
  case round =>
    subst hrel
    go_wp2
    go_ret
    exact ⟨rfl, rfl⟩

theorem trim_any (a : Option Addr) (n c : Nat) (xs : List Nat) (w : World) (h : Sl w a n c xs) (ok : Ok xs) :
    Calls Tryd.prog 80 #[.slice a n c] w fun e w' => ∃ a' m ys, e = .returned (.slice a' m m) ∧ Sl w a' m m ys ∧ Rep (val xs) ys ∧ (a' = a ∨ a' = none) ∧ w' = w := by
  have hl := h.len
  rcases h.cells with h0 | ⟨b, off, rfl, hc⟩
  · subst h0
    simp at hl
    subst hl
    refine (trim_nil a c w).mono ?_
    rintro e w' ⟨rfl, rfl⟩
    exact ⟨none, 0, [], rfl, ⟨rfl, Nat.le_refl _, Nat.zero_le _, .inl rfl⟩, ⟨Ok.nil, .inl rfl, rfl⟩, .inr rfl, rfl⟩
  · refine (trim_some b off n c xs w hl h.le h.cap hc).mono ?_
    rintro e w' ⟨m, ht, rfl, rfl⟩
    by_cases hm : m = 0
    · subst hm
      refine ⟨none, 0, [], rfl, ⟨rfl, Nat.le_refl _, Nat.zero_le _, .inl rfl⟩, ?_, .inr rfl, rfl⟩
      simpa using ht.rep ok
    · refine ⟨some ⟨b, off, none⟩, m, xs.take m, by simp [hm], ?_, ht.rep ok, .inl rfl, rfl⟩
      have hlen : (xs.take m).length = m := by simp [Nat.min_eq_left ht.le]
      refine ⟨hlen, Nat.le_refl _, ?_, .inr ⟨b, off, rfl, ?_⟩⟩
      · have := ht.le; have := h.le; have := h.cap; omega
      · intro i hi
        rw [hlen] at hi
        have := hc i (by have := ht.le; omega)
        rw [this]
        simp [List.getD, hi]

set_option maxHeartbeats 400000 in
theorem may_nil (a : Option Addr) (cap : Nat) (w : World) :
    Calls Tryd.prog 50 #[.slice a 0 cap] w fun e w' => e = .returned (.bool true) ∧ w' = w := by
  go_enter Tryd.func50, Tryd.ntmps50
  go_wp2
  go_ret
  exact ⟨rfl, rfl⟩
set_option maxHeartbeats 400000 in
theorem may_long (a : Option Addr) (len cap : Nat) (w : World) (h : 2048 < len) (hm : len ≤ maxLen) :
    Calls Tryd.prog 50 #[.slice a len cap] w fun e w' => e = .returned (.bool false) ∧ w' = w := by
  unfold maxLen at hm
  go_enter Tryd.func50, Tryd.ntmps50
  go_wp2
  go_ret
  exact ⟨rfl, rfl⟩
set_option maxHeartbeats 400000 in
theorem may_some (b off : Nat) (n cap : Nat) (x : Int) (w : World) (h : (n:Int) ≤ 2048) (h0 : 0 < n) (hc : w.cell? ⟨b, off + (n-1), none⟩ = some (.int .u32 x)) :
    Calls Tryd.prog 50 #[.slice (some ⟨b, off, none⟩) n cap] w fun e w' => e = .returned (.bool (x != 0)) ∧ w' = w := by
  have h1 : ((n:Int) == 0) = false := by simp; omega
  have h2 : ((n:Int) - 1).toNat = n - 1 := by omega
  go_enter Tryd.func50, Tryd.ntmps50
  go_wp2
  go_ret
  exact ⟨rfl, rfl⟩

def MayL (xs : List Nat) : Bool := decide (xs.length ≤ 2048) && (xs.isEmpty || xs.getD (xs.length - 1) 0 != 0)

theorem MayL.norm {xs : List Nat} (h : MayL xs = true) : Norm xs := by
  simp only [MayL, Bool.and_eq_true, Bool.or_eq_true, decide_eq_true_eq, List.isEmpty_iff, bne_iff_ne] at h
  exact h.2
theorem MayL.len {xs : List Nat} (h : MayL xs = true) : xs.length ≤ 2048 := by
  simp only [MayL, Bool.and_eq_true, decide_eq_true_eq] at h
  exact h.1
theorem MayL.mk {xs : List Nat} (h : Norm xs) (k : xs.length ≤ 2048) : MayL xs = true := by
  simp only [MayL, Bool.and_eq_true, Bool.or_eq_true, decide_eq_true_eq, List.isEmpty_iff, bne_iff_ne]
  exact ⟨k, h⟩

theorem may_any (a : Option Addr) (n c : Nat) (xs : List Nat) (w : World) (h : Sl w a n c xs) :
    Calls Tryd.prog 50 #[.slice a n c] w fun e w' => e = .returned (.bool (MayL xs)) ∧ w' = w := by
  have hl := h.len
  by_cases hlong : 2048 < n
  · refine (may_long a n c w hlong (Nat.le_trans h.le h.cap)).mono ?_
    rintro e w' ⟨rfl, rfl⟩
    have : MayL xs = false := by simp [MayL]; omega
    rw [this]; exact ⟨rfl, rfl⟩
  · rcases h.cells with h0 | ⟨b, off, rfl, hc⟩
    · subst h0
      simp at hl
      subst hl
      refine (may_nil a c w).mono ?_
      rintro e w' ⟨rfl, rfl⟩
      exact ⟨rfl, rfl⟩
    · by_cases hz : n = 0
      · subst hz
        have : xs = [] := List.eq_nil_of_length_eq_zero hl
        subst this
        refine (may_nil _ c w).mono ?_
        rintro e w' ⟨rfl, rfl⟩
        exact ⟨rfl, rfl⟩
      · have := hc (n - 1) (by omega)
        refine (may_some b off n c _ w (by omega) (by omega) this).mono ?_
        rintro e w' ⟨rfl, rfl⟩
        refine ⟨?_, rfl⟩
        have e1 : xs.isEmpty = false := by cases xs with | nil => simp at hl; omega | cons => rfl
        have e2 : MayL xs = (((xs.getD (n - 1) 0 : Nat) : Int) != 0) := by
          simp only [MayL, hl, e1, Bool.false_or]
          rw [show decide (n ≤ 2048) = true from by simp; omega]
          simp only [Bool.true_and]
          rw [Bool.eq_iff_iff, bne_iff_ne, bne_iff_ne]
          omega
        rw [e2]
/-! ### rows that are written -/
def Fn (w : World) (b off n : Nat) (f : Nat → Nat) : Prop :=
  ∀ i, i < n → w.cell? ⟨b, off + i, none⟩ = some (.int .u32 (f i : Nat)) ∧ w.frozen? ⟨b, off + i, none⟩ = false

theorem Fn.set {w : World} {b off n : Nat} {f : Nat → Nat} (h : Fn w b off n f) (k v : Nat) (hk : k < n) :
    Fn (w.setCell ⟨b, off + k, none⟩ (.int .u32 (v : Nat))) b off n (fun i => if i = k then v else f i) := by
  intro i hi
  refine ⟨?_, by rw [World.frozen?_setCell]; exact (h i hi).2⟩
  by_cases e : i = k
  · subst e
    rw [World.cell?_setCell_same _ _ _ (h i hi).1]
    simp
  · rw [World.cell?_setCell_other _ _ _ _ (by intro h; injection h with h1 h2; omega)]
    simp [e, (h i hi).1]

theorem Fn.cells {w : World} {b off n : Nat} {f : Nat → Nat} {xs : List Nat} (h : Fn w b off n f) (hl : xs.length ≤ n) (he : ∀ i, i < xs.length → f i = xs.getD i 0) : Cells w b off xs := by
  intro i hi
  rw [(h i (by omega)).1, he i hi]

theorem Cells.below {w w' : World} {b off : Nat} {xs : List Nat} (h : Cells w b off xs) (hb : Below w.heap.size w w') : Cells w' b off xs := by
  intro i hi
  have := h i hi
  rw [hb.cell (World.block_lt_of_cell? _ _ this)]
  exact this

theorem Fn.made (w : World) (n : Nat) (e : TypeId) : Fn (w.alloc (.cells (madeCells #[.int .u32 0] n) e)) w.heap.size 0 n (fun _ => 0) := by
  intro i hi
  refine ⟨?_, by simp⟩
  simp [madeCells, hi, Nat.mod_one]

theorem Sl.below {w w' : World} {a : Option Addr} {n c : Nat} {xs : List Nat} (h : Sl w a n c xs) (hb : Below w.heap.size w w') : Sl w' a n c xs :=
  ⟨h.len, h.le, h.cap, h.cells.imp id (fun ⟨b, off, e, k⟩ => ⟨b, off, e, k.below hb⟩)⟩

theorem bel_drewN {B : Nat} {a w : World} (h : Below B a w) (k : Nat) : Below B a (w.drewN k) := ⟨h.os, h.tape, h.output, h.size, h.block⟩

theorem Sl.drewN {w : World} {a : Option Addr} {n c : Nat} {xs : List Nat} (h : Sl w a n c xs) (k : Nat) : Sl (w.drewN k) a n c xs :=
  h.below (bel_drewN (Below.refl _ _) k)
end Go.Proofs.YtiadccaaoenccaaDoor
