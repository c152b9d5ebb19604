/-
  Texts of sets, plain: the text of a set is read back.
-/
import Derived.Test.YtbendkndnojihabDoorByo
namespace Go.Proofs.YtbendkndnojihabDoor
open Go.RowKit Go.Deep
set_option linter.unusedVariables false

/-- The numbers of a set's text. -/
def pcN (P : Nat → Bool) (N e : Nat) : List Nu := if P e then (if bgB P e then [(e, 0, false)] else if enB P N e then [(e, 0, true)] else []) else []
def nuP (P : Nat → Bool) (N : Nat) : Nat → List Nu
  | 0 => []
  | e + 1 => nuP P N e ++ pcN P N e
theorem nuP_none (P : Nat → Bool) (N : Nat) : ∀ e, (∀ x, x < e → P x = false) → nuP P N e = []
  | 0, h => rfl
  | e + 1, h => by simp [nuP, nuP_none P N e (fun x hx => h x (by omega)), pcN, h e (by omega)]
theorem nuP_nil (P : Nat → Bool) (N : Nat) : ∀ e, nuP P N e = [] → ∀ x, x < e → P x = false
  | 0, h, x, hx => by omega
  | e + 1, h, x, hx => by
    simp only [nuP, List.append_eq_nil_iff] at h
    have ih := nuP_nil P N e h.1
    by_cases hxe : x = e
    · subst hxe
      cases hp : P x
      · rfl
      · exfalso
        have hb : bgB P x = true := by
          unfold bgB
          by_cases h1 : 1 ≤ x
          · rw [ih (x - 1) (by omega)]; simp
          · simp [h1]
        have := h.2
        simp [pcN, hp, hb] at this
    · exact ih x (by omega)
theorem nuP_text (P : Nat → Bool) (N : Nat) : ∀ e, txN true (nuP P N e) = rnT P N e
  | 0 => rfl
  | e + 1 => by
    simp only [nuP, rnT]
    rw [txN_app, nuP_text P N e]
    congr 1
    have hc : (nuP P N e).isEmpty = decide (cntB P e = 0) := by
      by_cases h : cntB P e = 0
      · rw [nuP_none P N e (fun x hx => cntB_nil0 P h x hx)]; simp [h]
      · cases hn : nuP P N e with
        | nil => exact absurd (cntB_none P e (nuP_nil P N e hn)) h
        | cons a b => simp [h]
    rw [hc]
    unfold pcN pcT
    cases P e
    · rfl
    · cases bgB P e
      · cases enB P N e
        · rfl
        · simp [txN]
      · by_cases h : cntB P e = 0 <;> simp [txN, h]
def endF : Bool → List Nu → Bool
  | pl, [] => pl
  | pl, e :: l => endF e.2.2 l
theorem alt_app : ∀ (A B : List Nu) (pl : Bool), Alt pl A → Alt (endF pl A) B → Alt pl (A ++ B)
  | [], B, pl, h1, h2 => h2
  | e :: A, B, pl, h1, h2 => ⟨h1.1, alt_app A B _ h1.2 h2⟩
theorem endF_app : ∀ (A : List Nu) (pl : Bool) (x : Nu), endF pl (A ++ [x]) = x.2.2
  | [], pl, x => rfl
  | e :: A, pl, x => endF_app A _ x
theorem gaR_step {sz v a : Nat} {lst : Bool} {l : List Nu} {b : Int} {P0 : Nat → Bool} (h1 : v < sz) (h2 : if lst then b + 1 ≤ (v : Int) else b + 1 < (v : Int)) : gaR sz ((v, a, lst) :: l) b P0 = gaR sz l v (fun x => P0 x || (decide ((if lst then b + 1 else (v : Int)) ≤ (x : Int)) && decide (x ≤ v))) := by
  conv => lhs; unfold gaR
  simp only
  rw [if_neg (by omega), if_neg (by
    cases lst
    · simp at h2 ⊢; omega
    · simp at h2 ⊢; omega)]
/-- Where gather stands behind the numbers below e. -/
structure GaI (P : Nat → Bool) (N e : Nat) (b : Int) (P' : Nat → Bool) : Prop where
  to : ∀ m, gaR N (nuP P N e ++ m) (-2) (fun _ => false) = gaR N m b P'
  alt : Alt true (nuP P N e)
  low : ∀ x : Nat, (x : Int) ≤ b → P' x = P x
  high : ∀ x : Nat, b < (x : Int) → P' x = false
  lt : b < (e : Int)
  mode : ((b = -2 ∨ 0 ≤ b ∧ P b.toNat = true) ∧ (e = 0 ∨ P (e - 1) = false) ∧ ∀ x : Nat, b < (x : Int) → x < e → P x = false) ∨ (0 ≤ b ∧ (∀ x : Nat, b ≤ (x : Int) → x < e → P x = true) ∧ (e < N → P e = true → endF true (nuP P N e) = false) ∧ (b + 1 < (e : Int) → e < N ∧ P e = true))
theorem gaI_all (P : Nat → Bool) (N : Nat) : ∀ e, e ≤ N → ∃ b P', GaI P N e b P'
  | 0, h => ⟨-2, fun _ => false, ⟨fun m => rfl, trivial, fun x hx => by omega, fun _ _ => rfl, by omega, .inl ⟨.inl rfl, .inl rfl, fun x _ hx => by omega⟩⟩⟩
  | e + 1, h => by
    obtain ⟨b, P', g⟩ := gaI_all P N e (by omega)
    have hlt := g.lt
    cases hp : P e
    · have hA : nuP P N (e + 1) = nuP P N e := by simp [nuP, pcN, hp]
      refine ⟨b, P', ⟨by rw [hA]; exact g.to, by rw [hA]; exact g.alt, g.low, g.high, by omega, .inl ?_⟩⟩
      rcases g.mode with ⟨m1, m2, m3⟩ | ⟨m1, m2, m3, m4⟩
      · exact ⟨m1, .inr (by simpa using hp), fun x h1 h2 => by
          by_cases hx : x = e
          · rw [hx]; exact hp
          · exact m3 x h1 (by omega)⟩
      · have hb : ¬ b + 1 < (e : Int) := fun hb => by have := (m4 hb).2; rw [hp] at this; cases this
        exact ⟨.inr ⟨m1, m2 b.toNat (by omega) (by omega)⟩, .inr (by simpa using hp), fun x h1 h2 => by
          have : x = e := by omega
          rw [this]; exact hp⟩
    · rcases g.mode with ⟨m1, m2, m3⟩ | ⟨m1, m2, m3, m4⟩
      · have hbg : bgB P e = true := by
          unfold bgB
          rcases m2 with c | c
          · simp [c]
          · rw [c]; simp
        have hA : nuP P N (e + 1) = nuP P N e ++ [(e, 0, false)] := by simp [nuP, pcN, hp, hbg]
        have hb : b + 1 < (e : Int) := by
          rcases m1 with c | ⟨c, c2⟩
          · omega
          · rcases m2 with d | d
            · omega
            · by_cases hbe : b + 1 = (e : Int)
              · rw [show b.toNat = e - 1 from by omega, d] at c2; cases c2
              · omega
        refine ⟨e, _, ⟨fun m => by rw [hA, List.append_assoc, g.to]; exact gaR_step (by omega) (by simpa using hb), by rw [hA]; exact alt_app1 _ _ _ _ g.alt, fun x hx => ?_, fun x hx => ?_, by omega, .inr ⟨by omega, fun x h1 h2 => by rw [show x = e from by omega]; exact hp, fun _ _ => by rw [hA, endF_app], fun hh => by omega⟩⟩⟩
        · simp only [Bool.false_eq_true, if_false]
          by_cases hxe : x = e
          · subst hxe; rw [hp]; simp
          · rw [show decide ((e : Int) ≤ (x : Int)) = false from by simp; omega]
            simp only [Bool.false_and, Bool.or_false]
            by_cases hxb : (x : Int) ≤ b
            · exact g.low x hxb
            · rw [g.high x (by omega), m3 x (by omega) (by omega)]
        · rw [g.high x (by omega), show decide (x ≤ e) = false from by simp; omega]; simp
      · have hbg : bgB P e = false := by
          unfold bgB
          rw [m2 (e - 1) (by omega) (by omega)]
          simp
          omega
        cases hen : enB P N e
        · have hA : nuP P N (e + 1) = nuP P N e := by simp [nuP, pcN, hp, hbg, hen]
          have hen2 : e + 1 < N ∧ P (e + 1) = true := by simpa [enB] using hen
          exact ⟨b, P', ⟨by rw [hA]; exact g.to, by rw [hA]; exact g.alt, g.low, g.high, by omega, .inr ⟨m1, fun x h1 h2 => by
            by_cases hx : x = e
            · rw [hx]; exact hp
            · exact m2 x h1 (by omega), fun _ _ => by rw [hA]; exact m3 (by omega) hp, fun _ => hen2⟩⟩⟩
        · have hA : nuP P N (e + 1) = nuP P N e ++ [(e, 0, true)] := by simp [nuP, pcN, hp, hbg, hen]
          have hen2 : e + 1 < N → P (e + 1) = true → False := fun h1 h2 => by simp [enB, h1, h2] at hen
          refine ⟨e, _, ⟨fun m => by rw [hA, List.append_assoc, g.to]; exact gaR_step (by omega) (by simp; omega), by rw [hA]; exact alt_app _ _ _ g.alt ⟨fun hh => (by rw [m3 (by omega) hp] at hh; cases hh), trivial⟩, fun x hx => ?_, fun x hx => ?_, by omega, .inr ⟨by omega, fun x h1 h2 => by rw [show x = e from by omega]; exact hp, fun h1 h2 => (hen2 h1 h2).elim, fun hh => by omega⟩⟩⟩
          · simp only [if_true]
            by_cases hxb : (x : Int) ≤ b
            · rw [g.low x hxb, show decide (b + 1 ≤ (x : Int)) = false from by simp; omega]; simp
            · rw [show decide (b + 1 ≤ (x : Int)) = true from by simp; omega, show decide (x ≤ e) = true from by simp; omega]
              have : P x = true := by
                by_cases hxe : x = e
                · rw [hxe]; exact hp
                · exact m2 x (by omega) (by omega)
              rw [this]; simp
          · rw [g.high x (by omega), show decide (x ≤ e) = false from by simp; omega]; simp
/-- gather makes the set again. -/
theorem nuP_ga (P : Nat → Bool) (N : Nat) : ∃ P', gaR N (nuP P N N) (-2) (fun _ => false) = .inl P' ∧ (∀ x, x < N → P' x = P x) ∧ (∀ x, N ≤ x → P' x = false) ∧ Alt true (nuP P N N) := by
  obtain ⟨b, P', g⟩ := gaI_all P N N (Nat.le_refl _)
  have hlt := g.lt
  refine ⟨P', by have := g.to []; rw [List.append_nil] at this; exact this, fun x hx => ?_, fun x hx => g.high x (by omega), g.alt⟩
  by_cases hxb : (x : Int) ≤ b
  · exact g.low x hxb
  · rw [g.high x (by omega)]
    rcases g.mode with ⟨m1, m2, m3⟩ | ⟨m1, m2, m3, m4⟩
    · exact (m3 x (by omega) hx).symm
    · have := (m4 (by omega)).1
      omega
theorem dec_pos (v : Nat) : 0 < (Lib.decDigits v).length := by
  rcases Nat.eq_zero_or_pos (Lib.decDigits v).length with e | e
  · rw [List.length_eq_zero_iff] at e
    rw [Lib.decDigits] at e
    split at e <;> simp at e
  · exact e
theorem txN_len : ∀ (A : List Nu) (f : Bool), A.length ≤ (txN f A).length
  | [], f => Nat.zero_le _
  | e :: A, f => by
    simp only [txN, List.length_append, List.length_cons]
    have := txN_len A false
    have := dec_pos e.1
    omega
/-- A set's text is read back. -/
theorem paR_back {s : ByteArray} {sz : Nat} {P : Nat → Bool} (hsz : sz ≤ 4096) (hs : s = strL (Lib.decDigits sz ++ [58] ++ rnT P sz sz)) (hN : s.size ≤ 65536) : ∃ P', paR s = .inl (sz, P') ∧ (∀ x, x < sz → P' x = P x) ∧ (∀ x, sz ≤ x → P' x = false) := by
  obtain ⟨P', hg, h1, h2, ha⟩ := nuP_ga P sz
  have hsm := gaR_small _ _ _ _ _ hg
  rw [← nuP_text] at hs
  generalize nuP P sz sz = A at *
  have hp : Pre s 0 (Lib.decDigits sz ++ [58] ++ txN true A) := by
    refine ⟨Nat.zero_le _, ?_⟩
    rw [hs]
    simp [strL]
  have hl : (Lib.decDigits sz ++ [58] ++ txN true A).length = s.size := by rw [hs, strL_size]
  have hp1 := hp.left.left
  have hp2 := hp.left.right
  have hp3 := hp.right
  rw [Nat.zero_add] at hp2 hp3
  have hr := numR_back hp1 hsz (.inr (dg_of (by rw [Nat.zero_add]; exact hp2) (by decide)))
  rw [Nat.zero_add] at hr
  have hsk : skB s (Lib.decDigits sz).length 58 = true := pre_skB hp2
  simp only [List.length_append, List.length_singleton] at hl hp3
  have key : ∃ A', nmsR s = ((sz, 0, false) :: A', s.size, true) ∧ SameN A' A := by
    unfold nmsR
    rw [hr]
    simp only [if_true, hsk]
    by_cases hA : A = []
    · subst hA
      simp only [txN, List.length_nil, Nat.add_zero] at hl
      rw [if_pos hl]
      exact ⟨[], rfl, trivial⟩
    · have hne : 0 < (txN true A).length := Nat.lt_of_lt_of_le (List.length_pos_iff.2 hA) (txN_len A true)
      rw [if_neg (by omega)]
      have hle := txN_len A true
      obtain ⟨A', g1, g2⟩ := nmR_back s A.length A (Nat.le_refl _) hA ha (fun e he => by have := hsm e he; omega) (s.size + 1) ((Lib.decDigits sz).length + 1) [(sz, 0, false)] (by omega) hp3 (by omega)
      exact ⟨A', by rw [g1]; rfl, g2⟩
  obtain ⟨A', k1, k2⟩ := key
  refine ⟨P', ?_, h1, h2⟩
  have hg2 := gaR_places sz A' A _ _ P' k2 hg
  unfold paR
  rw [if_neg (by omega), k1]
  show (if 4096 < sz then .inr (0, 60) else match gaR sz A' (-2) (fun _ => false) with
    | .inl P => .inl (sz, P)
    | .inr x => .inr x : Sum (Nat × (Nat → Bool)) (Nat × Int)) = .inl (sz, P')
  rw [if_neg (by omega), hg2]
end Go.Proofs.YtbendkndnojihabDoor
