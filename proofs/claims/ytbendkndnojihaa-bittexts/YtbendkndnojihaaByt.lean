/-
  Texts of sets, plain: the reference's reader beside the program's.
-/
import Derived.Test.YtbendkndnojihaaByk
namespace Go.Proofs.Ytbendkndnojihaa
open Go.RowKit Go.Deep
set_option linter.unusedVariables false

/-- A number of the reference: what it is worth, where it stands, the byte behind it. -/
abbrev Nr := Nat × Nat × Nat
def aftB (t c : Nat) : Bool := if t = 0 then c == 58 else if t = 1 then (c == 44 || c == 45) else c == 44
def dgB (s : ByteArray) (i a g : Nat) : Bool := isDg (bySt s i) && (decide (g = 0) || !(bySt s a == 48))
def nxV (g v d : Nat) : Nat := if (if g = 0 then 0 else v) < 100000 then 10 * (if g = 0 then 0 else v) + d else (if g = 0 then 0 else v)
def endB (l : List Nr) (t g : Nat) : Bool := (decide (g = 0) && !(decide (l.length = 1) && decide (t = 1))) || (decide (0 < g) && decide (t = 0))
/-- sloperef3.form. -/
def fmR (s : ByteArray) : Nat → Nat → List Nr → Nat → Nat → Nat → Nat → List Nr × Int
  | 0, i, l, v, a, t, g => if endB l t g then (l, (s.size : Int)) else (if 0 < g then l ++ [(v, a, 0)] else l, -1)
  | f + 1, i, l, v, a, t, g =>
    if dgB s i a g then fmR s f (i + 1) l (nxV g v (bySt s i - 48)) (if g = 0 then i else a) t (g + 1)
    else if decide (g = 0) || !aftB t (bySt s i) then (l, (i : Int))
    else fmR s f (i + 1) (l ++ [(v, a, bySt s i)]) v a (if bySt s i = 45 then 2 else 1) 0
theorem fmR_dg {s : ByteArray} {i : Nat} {l : List Nr} {v a t g : Nat} (hi : i < s.size) (h : dgB s i a g = true) : fmR s (s.size - i) i l v a t g = fmR s (s.size - (i + 1)) (i + 1) l (nxV g v (bySt s i - 48)) (if g = 0 then i else a) t (g + 1) := by
  obtain ⟨f, hf⟩ : ∃ f, s.size - i = f + 1 := ⟨s.size - i - 1, by omega⟩
  rw [hf, show s.size - (i + 1) = f from by omega]
  show (if dgB s i a g then _ else _) = _
  rw [if_pos h]
theorem fmR_stop {s : ByteArray} {i : Nat} {l : List Nr} {v a t g : Nat} (hi : i < s.size) (h : dgB s i a g = false) (h2 : (decide (g = 0) || !aftB t (bySt s i)) = true) : fmR s (s.size - i) i l v a t g = (l, (i : Int)) := by
  obtain ⟨f, hf⟩ : ∃ f, s.size - i = f + 1 := ⟨s.size - i - 1, by omega⟩
  rw [hf]
  show (if dgB s i a g then _ else _) = _
  rw [if_neg (by simp [h]), if_pos h2]
theorem fmR_put {s : ByteArray} {i : Nat} {l : List Nr} {v a t g : Nat} (hi : i < s.size) (h : dgB s i a g = false) (hg : 0 < g) (h2 : aftB t (bySt s i) = true) : fmR s (s.size - i) i l v a t g = fmR s (s.size - (i + 1)) (i + 1) (l ++ [(v, a, bySt s i)]) v a (if bySt s i = 45 then 2 else 1) 0 := by
  obtain ⟨f, hf⟩ : ∃ f, s.size - i = f + 1 := ⟨s.size - i - 1, by omega⟩
  rw [hf, show s.size - (i + 1) = f from by omega]
  show (if dgB s i a g then _ else _) = _
  rw [if_neg (by simp [h]), if_neg (by simp [h2]; omega)]
theorem fmR_end {s : ByteArray} {i : Nat} {l : List Nr} {v a t g : Nat} (hi : s.size ≤ i) : fmR s (s.size - i) i l v a t g = if endB l t g then (l, (s.size : Int)) else (if 0 < g then l ++ [(v, a, 0)] else l, -1) := by
  rw [show s.size - i = 0 from by omega]
  rfl
/-- The program's numbers out of the reference's. -/
def toNu (b : Bool) : List Nr → List Nu
  | [] => []
  | (v, a, c) :: l => (min v 4097, a, b) :: toNu (c == 45) l
def dashB (b : Bool) : List Nr → Bool
  | [] => b
  | (v, a, c) :: l => dashB (c == 45) l
theorem toNu_app (b : Bool) (l : List Nr) (v a c : Nat) : toNu b (l ++ [(v, a, c)]) = toNu b l ++ [(min v 4097, a, dashB b l)] := by
  induction l generalizing b with
  | nil => rfl
  | cons e l ih => obtain ⟨x, y, z⟩ := e; simp [toNu, dashB, ih]
theorem dashB_app (b : Bool) (l : List Nr) (v a c : Nat) : dashB b (l ++ [(v, a, c)]) = (c == 45) := by
  induction l generalizing b with
  | nil => rfl
  | cons e l ih => obtain ⟨x, y, z⟩ := e; simp [dashB, ih]
theorem toNu_len (b : Bool) (l : List Nr) : (toNu b l).length = l.length := by
  induction l generalizing b with
  | nil => rfl
  | cons e l ih => obtain ⟨x, y, z⟩ := e; simp [toNu, ih]
/-- A number's digits, from the second on. -/
theorem fm_digits {s : ByteArray} {l : List Nr} {t a : Nat} (ha : ¬ bySt s a = 48) : ∀ k q v V g, s.size - q = k → min V 4097 = v → 0 < g → ∃ V' g', min V' 4097 = (rdV s (s.size - q) q v).1 ∧ 0 < g' ∧ fmR s (s.size - q) q l V a t g = fmR s (s.size - (rdV s (s.size - q) q v).2) (rdV s (s.size - q) q v).2 l V' a t g' ∧ ((rdV s (s.size - q) q v).2 < s.size → isDg (bySt s (rdV s (s.size - q) q v).2) = false)
  | 0, q, v, V, g, hk, hV, hg => by
    rw [rdV_no s (.inl (by omega))]
    exact ⟨V, g, hV, hg, rfl, fun h => by exact absurd h (by show ¬ q < s.size; omega)⟩
  | k + 1, q, v, V, g, hk, hV, hg => by
    by_cases hd : isDg (bySt s q) = true
    · rw [rdV_dg s (by omega) hd]
      have hdb : dgB s q a g = true := by unfold dgB; simp [hd, ha]
      rw [fmR_dg (by omega) hdb, if_neg (show ¬ g = 0 by omega)]
      refine fm_digits ha k (q + 1) _ _ (g + 1) (by omega) ?_ (by omega)
      unfold nxV
      rw [if_neg (show ¬ g = 0 by omega)]
      split <;> omega
    · have hd' : isDg (bySt s q) = false := by simpa using hd
      rw [rdV_no s (.inr hd')]
      exact ⟨V, g, hV, hg, rfl, fun _ => hd'⟩
/-- A number is read: the same place, and worth the same but for what is above 4097. -/
theorem fm_num {s : ByteArray} {l : List Nr} {v a t q : Nat} (hq : q ≤ s.size) (h : (numR s q).2 = true) : ∃ V g, min V 4097 = (numR s q).1.1 ∧ 0 < g ∧ fmR s (s.size - q) q l v a t 0 = fmR s (s.size - (numR s q).1.2) (numR s q).1.2 l V q t g ∧ ((numR s q).1.2 < s.size → dgB s (numR s q).1.2 q g = false) := by
  unfold numR at h ⊢
  by_cases h0 : skB s q 48 = true
  · rw [if_pos h0]
    have hlt := skB_lt h0
    have hc : bySt s q = 48 := by unfold skB at h0; simp at h0; exact h0.2
    refine ⟨0, 1, rfl, by omega, ?_, fun _ => by unfold dgB; simp [hc]⟩
    rw [fmR_dg hlt (by unfold dgB; simp [hc, isDg]), if_pos rfl, hc]
    rfl
  · rw [if_neg h0] at h ⊢
    have hp : q < (rdV s (s.size - q) q 0).2 := by simpa using h
    have hlt : q < s.size := by have := rdV_le s (s.size - q) q 0; omega
    have hc : ¬ bySt s q = 48 := by
      intro hh
      exact h0 (by unfold skB; simp [hlt, hh])
    by_cases hd : isDg (bySt s q) = true
    · rw [rdV_dg s hlt hd] at hp ⊢
      rw [fmR_dg hlt (by unfold dgB; simp [hd]), if_pos rfl]
      obtain ⟨V, g, e1, e2, e3, e4⟩ := fm_digits (s := s) (l := l) (t := t) (a := q) hc _ (q + 1) (min (10 * 0 + (bySt s q - 48)) 4097) (nxV 0 v (bySt s q - 48)) (0 + 1) rfl (by unfold nxV; rw [if_pos rfl]; simp) (by omega)
      exact ⟨V, g, e1, e2, e3, fun hh => by unfold dgB; rw [e4 hh]; rfl⟩
    · rw [rdV_no s (.inr (by simpa using hd))] at hp
      exact absurd hp (by simp)
/-- No number is read. -/
theorem fm_none {s : ByteArray} {l : List Nr} {v a t q : Nat} (hq : q ≤ s.size) (h : (numR s q).2 = false) : (numR s q).1.2 = q ∧ (q < s.size → fmR s (s.size - q) q l v a t 0 = (l, (q : Int))) := by
  unfold numR at h ⊢
  by_cases h0 : skB s q 48 = true
  · rw [if_pos h0] at h
    simp at h
  · rw [if_neg h0] at h ⊢
    have hp : ¬ q < (rdV s (s.size - q) q 0).2 := by simpa using h
    have hle := rdV_le s (s.size - q) q 0
    refine ⟨by show (rdV s (s.size - q) q 0).2 = q; omega, fun hlt => ?_⟩
    by_cases hd : isDg (bySt s q) = true
    · rw [rdV_dg s hlt hd] at hp
      have := rdV_le s (s.size - (q + 1)) (q + 1) (min (10 * 0 + (bySt s q - 48)) 4097)
      omega
    · exact fmR_stop hlt (by unfold dgB; simp [show isDg (bySt s q) = false by simpa using hd]) (by simp)
theorem skB_by {s : ByteArray} {p c : Nat} (h : skB s p c = true) : bySt s p = c := by unfold skB at h; simp at h; exact h.2
theorem skB_no {s : ByteArray} {p c : Nat} (h : skB s p c = false) (hp : p < s.size) : ¬ bySt s p = c := by
  intro e
  unfold skB at h
  simp [hp, e] at h
/-- What the reference's reader says, beside the program's. -/
def SameF (x : List Nu × Nat × Bool) (y : List Nr × Int) : Prop := (x.2.2 = true → y.2 = -1 ∧ toNu false y.1 = x.1) ∧ (x.2.2 = false → y.2 = (x.2.1 : Int))
theorem fm_run {s : ByteArray} : ∀ f q acc l v a, q ≤ s.size → s.size - q < f → toNu false l = acc → dashB false l = false → 1 ≤ l.length → (q = s.size → 2 ≤ l.length) → SameF (nmR s f q acc) (fmR s (s.size - q) q l v a 1 0)
  | 0, q, acc, l, v, a, hq, hf, hacc, hlast, hl1, hl2 => by omega
  | f + 1, q, acc, l, v, a, hq, hf, hacc, hlast, hl1, hl2 => by
    unfold nmR
    by_cases h1 : (numR s q).2 = true
    · rw [if_pos h1]
      obtain ⟨V, g, e1, e2, e3, e4⟩ := fm_num (l := l) (v := v) (a := a) (t := 1) hq h1
      have p1 := numR_ok h1 hq
      rw [e3]
      by_cases h2 : skB s (numR s q).1.2 45 = true
      · rw [if_pos h2]
        have l2 := skB_lt h2
        have c2 := skB_by h2
        rw [fmR_put l2 (e4 l2) e2 (by rw [c2]; rfl), c2, if_pos rfl]
        have hacc2 : toNu false (l ++ [(V, q, 45)]) = acc ++ [((numR s q).1.1, q, false)] := by rw [toNu_app, hacc, hlast, e1]
        by_cases h3 : (numR s ((numR s q).1.2 + 1)).2 = true
        · rw [if_pos h3]
          obtain ⟨V2, g2, k1, k2, k3, k4⟩ := fm_num (l := l ++ [(V, q, 45)]) (v := V) (a := q) (t := 2) (show (numR s q).1.2 + 1 ≤ s.size by omega) h3
          have p2 := numR_ok h3 (show (numR s q).1.2 + 1 ≤ s.size by omega)
          rw [k3]
          have hacc3 : ∀ c, toNu false ((l ++ [(V, q, 45)]) ++ [(V2, (numR s q).1.2 + 1, c)]) = acc ++ [((numR s q).1.1, q, false), ((numR s ((numR s q).1.2 + 1)).1.1, (numR s q).1.2 + 1, true)] := by
            intro c
            rw [toNu_app, hacc2, dashB_app, k1]
            simp
          by_cases h4 : skB s (numR s ((numR s q).1.2 + 1)).1.2 44 = true
          · rw [if_pos h4]
            have l4 := skB_lt h4
            have c4 := skB_by h4
            rw [fmR_put l4 (k4 l4) k2 (by rw [c4]; rfl), c4, if_neg (by decide)]
            exact fm_run f _ _ _ _ _ (by omega) (by omega) (hacc3 44) (by rw [dashB_app]; rfl) (by simp) (fun _ => by simp)
          · rw [if_neg h4]
            have h4' : skB s (numR s ((numR s q).1.2 + 1)).1.2 44 = false := by simpa using h4
            by_cases hE : (numR s ((numR s q).1.2 + 1)).1.2 = s.size
            · rw [fmR_end (by omega), if_neg (by unfold endB; simp; omega), if_pos k2]
              refine ⟨fun _ => ⟨rfl, hacc3 0⟩, fun hh => ?_⟩
              simp [hE] at hh
            · have l4 : (numR s ((numR s q).1.2 + 1)).1.2 < s.size := by omega
              rw [fmR_stop l4 (k4 l4) (by have := skB_no h4' l4; simp [aftB, this])]
              exact ⟨fun hh => by simp [hE] at hh, fun _ => rfl⟩
        · rw [if_neg h3]
          have h3' : (numR s ((numR s q).1.2 + 1)).2 = false := by simpa using h3
          obtain ⟨k1, k2⟩ := fm_none (l := l ++ [(V, q, 45)]) (v := V) (a := q) (t := 2) (show (numR s q).1.2 + 1 ≤ s.size by omega) h3'
          rw [k1]
          by_cases hE : (numR s q).1.2 + 1 = s.size
          · rw [fmR_end (by omega), if_pos (by unfold endB; simp)]
            exact ⟨fun hh => by simp at hh, fun _ => by show (s.size : Int) = (((numR s q).1.2 + 1 : Nat) : Int); omega⟩
          · rw [k2 (by omega)]
            exact ⟨fun hh => by simp at hh, fun _ => rfl⟩
      · rw [if_neg h2]
        have h2' : skB s (numR s q).1.2 45 = false := by simpa using h2
        have hacc2 : ∀ c, toNu false (l ++ [(V, q, c)]) = acc ++ [((numR s q).1.1, q, false)] := by intro c; rw [toNu_app, hacc, hlast, e1]
        by_cases h4 : skB s (numR s q).1.2 44 = true
        · rw [if_pos h4]
          have l4 := skB_lt h4
          have c4 := skB_by h4
          rw [fmR_put l4 (e4 l4) e2 (by rw [c4]; rfl), c4, if_neg (by decide)]
          exact fm_run f _ _ _ _ _ (by omega) (by omega) (hacc2 44) (by rw [dashB_app]; rfl) (by simp) (fun _ => by simp; omega)
        · rw [if_neg h4]
          have h4' : skB s (numR s q).1.2 44 = false := by simpa using h4
          by_cases hE : (numR s q).1.2 = s.size
          · rw [fmR_end (by omega), if_neg (by unfold endB; simp; omega), if_pos e2]
            refine ⟨fun _ => ⟨rfl, hacc2 0⟩, fun hh => ?_⟩
            simp [hE] at hh
          · have l4 : (numR s q).1.2 < s.size := by omega
            rw [fmR_stop l4 (e4 l4) (by have n1 := skB_no h4' l4; have n2 := skB_no h2' l4; simp [aftB, n1, n2])]
            exact ⟨fun hh => by simp [hE] at hh, fun _ => rfl⟩
    · rw [if_neg h1]
      have h1' : (numR s q).2 = false := by simpa using h1
      obtain ⟨k1, k2⟩ := fm_none (l := l) (v := v) (a := a) (t := 1) hq h1'
      rw [k1]
      by_cases hE : q = s.size
      · rw [fmR_end (by omega), if_pos (by have := hl2 hE; unfold endB; simp; omega)]
        exact ⟨fun hh => by simp at hh, fun _ => by show (s.size : Int) = (q : Int); omega⟩
      · rw [k2 (by omega)]
        exact ⟨fun hh => by simp at hh, fun _ => rfl⟩
/-- The reference's reader reads what the program's reads. -/
theorem fm_same (s : ByteArray) : SameF (nmsR s) (fmR s s.size 0 [] 0 0 0 0) := by
  unfold nmsR
  have h00 : (0 : Nat) ≤ s.size := Nat.zero_le _
  by_cases h1 : (numR s 0).2 = true
  · rw [if_pos h1]
    obtain ⟨V, g, e1, e2, e3, e4⟩ := fm_num (l := []) (v := 0) (a := 0) (t := 0) h00 h1
    have p1 := numR_ok h1 h00
    rw [Nat.sub_zero] at e3
    rw [e3]
    by_cases h2 : skB s (numR s 0).1.2 58 = true
    · rw [if_pos h2]
      have l2 := skB_lt h2
      have c2 := skB_by h2
      rw [fmR_put l2 (e4 l2) e2 (by rw [c2]; rfl), c2, if_neg (show ¬ (58 : Nat) = 45 by decide)]
      have hacc : toNu false ([] ++ [(V, 0, 58)]) = [((numR s 0).1.1, 0, false)] := by simp [toNu, e1]
      by_cases hE : (numR s 0).1.2 + 1 = s.size
      · rw [if_pos hE, fmR_end (by omega), if_neg (by simp [endB]), if_neg (by omega)]
        exact ⟨fun _ => ⟨rfl, hacc⟩, fun hh => by simp at hh⟩
      · rw [if_neg hE]
        exact fm_run _ _ _ _ _ _ (by omega) (by omega) hacc rfl (by simp) (fun hh => absurd hh hE)
    · rw [if_neg h2]
      have h2' : skB s (numR s 0).1.2 58 = false := by simpa using h2
      by_cases hE : (numR s 0).1.2 = s.size
      · rw [fmR_end (by omega), if_pos (by unfold endB; simp; omega)]
        exact ⟨fun hh => by simp at hh, fun _ => by show (s.size : Int) = ((numR s 0).1.2 : Int); omega⟩
      · have l2 : (numR s 0).1.2 < s.size := by omega
        rw [fmR_stop l2 (e4 l2) (by have := skB_no h2' l2; simp [aftB, this])]
        exact ⟨fun hh => by simp at hh, fun _ => rfl⟩
  · rw [if_neg h1]
    have h1' : (numR s 0).2 = false := by simpa using h1
    obtain ⟨k1, k2⟩ := fm_none (l := []) (v := 0) (a := 0) (t := 0) h00 h1'
    rw [Nat.sub_zero] at k2
    rw [k1]
    by_cases hE : 0 = s.size
    · have := fmR_end (s := s) (i := 0) (l := []) (v := 0) (a := 0) (t := 0) (g := 0) (by omega)
      rw [Nat.sub_zero] at this
      rw [this, if_pos (by simp [endB])]
      exact ⟨fun hh => by simp at hh, fun _ => by show (s.size : Int) = ((0 : Nat) : Int); omega⟩
    · rw [k2 (by omega)]
      exact ⟨fun hh => by simp at hh, fun _ => rfl⟩
end Go.Proofs.Ytbendkndnojihaa
