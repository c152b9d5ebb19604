/-
  TABLES THAT ARE WHAT A PREDICATE SAYS; Turn, Both, Product of them: contracts.
-/
import Derived.Test.YtbendkndnojihabDoorBxr
import Derived.Test.YtbendkndnojihabDoorBxp
import Derived.Test.YtbendkndnojihabDoorBxc
import Derived.Test.YtbendkndnojihabDoorBxd
import Derived.Test.YtbendkndnojihabDoorBv1
namespace Go.Proofs.YtbendkndnojihabDoor
open Go.RowKit Go.Deep
set_option linter.unusedVariables false

structure GoodT (sz n : Nat) (L : List SetC) (P : Nat → Nat → Bool) : Prop where
  key : L.map SetC.key = tabK sz n P
  zero : ∀ i x, sz ≤ x → P i x = false
  out : ∀ i x, n ≤ i → P i x = false
  hs : sz ≤ 4096
  hn : n ≤ 4096
theorem tabK_len (sz n : Nat) (P : Nat → Nat → Bool) : (tabK sz n P).length = n := by simp [tabK]
theorem tabK_congr {sz n : Nat} {P Q : Nat → Nat → Bool} (h : ∀ i x, i < n → x < 64 * nW sz → P i x = Q i x) : tabK sz n P = tabK sz n Q := by
  unfold tabK
  refine List.map_congr_left (fun i hi => ?_)
  rw [wordsL_congr (fun x hx => h i x (List.mem_range.1 hi) hx)]
theorem GoodT.len {sz n : Nat} {L : List SetC} {P : Nat → Nat → Bool} (h : GoodT sz n L P) : L.length = n := by
  have := congrArg List.length h.key
  rw [tabK_len, List.length_map] at this
  exact this
theorem GoodT.get {sz n : Nat} {L : List SetC} {P : Nat → Nat → Bool} (h : GoodT sz n L P) (i : Nat) (hi : i < n) : (L.getD i .nul).s = (sz : Int) ∧ (L.getD i .nul).xs = wordsL sz (P i) := by
  have hl : i < L.length := by rw [h.len]; exact hi
  have h1 : (L.map SetC.key)[i]? = (tabK sz n P)[i]? := by rw [h.key]
  have h2 : L[i].key = ((sz : Int), wordsL sz (P i)) := by simpa [tabK, hi, hl] using h1
  have e : L.getD i .nul = L[i] := by simp [List.getD, hl]
  rw [e]
  exact ⟨congrArg Prod.fst h2, congrArg Prod.snd h2⟩
theorem GoodT.good {sz n : Nat} {L : List SetC} {P : Nat → Nat → Bool} (h : GoodT sz n L P) (i : Nat) (hi : i < n) : Good sz (L.getD i .nul).xs (P i) := ⟨(h.get i hi).2, h.zero i, h.hs⟩
theorem GoodT.inT {sz n : Nat} {L : List SetC} {P : Nat → Nat → Bool} (h : GoodT sz n L P) (i x : Nat) (hi : i < n) (hx : x < 64 * nW sz) : inT L i x = P i x := (h.good i hi).has x hx
theorem GoodT.may {sz n : Nat} {L : List SetC} {P : Nat → Nat → Bool} (h : GoodT sz n L P) : MayT (sz : Int) L = true := by
  have hf : fitsI (sz : Int) = true := by simp [fitsI]; have := h.hs; omega
  have hl : decide (L.length ≤ 4096) = true := by rw [h.len]; simpa using h.hn
  have hb : L.any (badT (sz : Int)) = false := by
    rw [List.any_eq_false]
    intro e he
    obtain ⟨i, hi, rfl⟩ := List.getElem_of_mem he
    have hi' : i < n := by rw [← h.len]; exact hi
    have g := h.get i hi'
    have m := (h.good i hi').may
    have e1 : L.getD i .nul = L[i] := by simp [List.getD, hi]
    rw [e1] at g m
    simp [badT, g.1, m]
  simp [MayT, hf, hl, hb]
theorem MayS.good {sz : Nat} {xs : List Nat} (h : MayS (sz : Int) xs = true) (ho : OkW xs) (hs : sz ≤ 4096) : Good sz xs (fun x => decide (x < sz) && hasB (gW xs) x) := by
  refine ⟨?_, fun x hx => by simp [show ¬ x < sz from by omega], hs⟩
  have hl := MayS.len h
  rw [Int.toNat_natCast] at hl
  have e : xs = (List.range (nW sz)).map (gW xs) := by
    refine List.ext_getElem (by simp [hl]) (fun i h1 h2 => ?_)
    simp [gW, List.getD, h1]
  have r : RepB (nW sz) (gW xs) (hasB (gW xs)) := RepB.self (fun i _ => gW_ok ho i)
  have r2 := wordsL_of r
  rw [← e] at r2
  refine r2.trans (wordsL_congr (fun x hx => ?_))
  by_cases c : x < sz
  · simp [c]
  · rw [show hasB (gW xs) x = false from MayS.zero h x (by rw [Int.toNat_natCast]; omega) (by rw [hl]; exact hx)]
    simp
/-- A table that may be is what its sets say. -/
theorem MayT.good {s : Int} {L : List SetC} (h : MayT s L = true) (ho : ∀ e ∈ L, OkW e.xs) : ∃ sz : Nat, s = (sz : Int) ∧ ∃ P, GoodT sz L.length L P := by
  simp only [MayT, Bool.and_eq_true, decide_eq_true_eq, Bool.not_eq_true', List.any_eq_false] at h
  obtain ⟨⟨hf, hl⟩, hb⟩ := h
  obtain ⟨sz, rfl, hsz⟩ := fitsI_nat hf
  refine ⟨sz, rfl, fun i x => decide (i < L.length) && (decide (x < sz) && inT L i x), ⟨?_, fun i x hx => by simp [show ¬ x < sz from by omega], fun i x hx => by simp [show ¬ i < L.length from by omega], hsz, hl⟩⟩
  refine List.ext_getElem (by simp [tabK]) (fun i h1 h2 => ?_)
  have hi : i < L.length := by simpa using h1
  have hbad := hb L[i] (List.getElem_mem hi)
  have hm : MayS L[i].s L[i].xs = true ∧ L[i].s = (sz : Int) := by simpa [badT] using hbad
  rw [hm.2] at hm
  have e : L.getD i .nul = L[i] := by simp [List.getD, hi]
  have g := (MayS.good hm.1 (ho _ (List.getElem_mem hi)) hsz).eq
  have hs2 : L[i].s = (sz : Int) := by simpa [badT] using (show MayS L[i].s L[i].xs = true ∧ L[i].s = (sz : Int) from by simpa [badT] using hbad).2
  simp only [List.getElem_map, tabK, List.getElem_range]
  refine Prod.ext hs2 (g.trans (wordsL_congr (fun x hx => ?_)))
  show _ = (decide (i < L.length) && (decide (x < sz) && hasB (gW (L.getD i .nul).xs) x))
  rw [e]
  simp [hi]
/-- What Turn, Both and Product make of them. -/
def tuQ (P : Nat → Nat → Bool) (e y : Nat) : Bool := P y e
def boQ (P : Nat → Nat → Bool) (e y : Nat) : Bool := P y e || P e y
def prG (m : Nat) (P Q : Nat → Nat → Bool) (i y : Nat) : Bool := (List.range m).any (fun e => P i e && Q e y)
theorem GoodT.of {sz n : Nat} {L : List SetC} {P : Nat → Nat → Bool} (h : L.map SetC.key = tabK sz n P) (hz : ∀ i x, sz ≤ x → P i x = false) (ho : ∀ i x, n ≤ i → P i x = false) (hs : sz ≤ 4096) (hn : n ≤ 4096) : GoodT sz n L P := ⟨h, hz, ho, hs, hn⟩
/-- A table of n sets that is answered. -/
def ResN (w w' : World) (s : Int) (n : Nat) (K : List (Int × List Nat)) (e : Int) (r : Ending) : Prop :=
  ∃ a c L, r = .returned (.tuple #[setV s a n c, .int .i64 e]) ∧ SlS w' a n c L ∧ L.map SetC.key = K ∧ Below w.heap.size w w'
theorem resN_zero {w w' : World} {er : Int} (h : Below w.heap.size w w') : ResN w w' 0 0 [] er (.returned (.tuple #[setV 0 none 0 0, .int .i64 er])) :=
  ⟨none, 0, [], rfl, ⟨rfl, Nat.le_refl _, Nat.zero_le _, .inl rfl, fun e he => by cases he⟩, rfl, h⟩
theorem NewT.resN {w w' : World} {sz n : Nat} {F : Nat → Nat → Nat} {v : Value} {P : Nat → Nat → Bool} (h : NewT w w' sz n F v) (hr : ∀ i, i < n → RepB (nW sz) (F i) (P i)) (hn : n ≤ 4096) : ResN w w' sz n (tabK sz n P) 0 (.returned (.tuple #[v, .int .i64 0])) := by
  obtain ⟨a, m, c, L, h1, h2, h3, h4⟩ := h.res hr hn
  have hm : m = n := by
    have e := congrArg List.length h3
    rw [List.length_map, tabK_len, h2.len] at e
    exact e
  subst hm
  exact ⟨a, c, L, h1, h2, h3, h4⟩
theorem turn_good (sz n : Nat) (a : Option Addr) (c : Nat) (L : List SetC) (P : Nat → Nat → Bool) (w : World) (h : SlS w a n c L) (g : GoodT sz n L P) (hT : Tab64 w) :
    Calls Tryd.prog 25 #[setV sz a n c] w fun r w' => ResN w w' n sz (tabK n sz (tuQ P)) 0 r := by
  refine (turn_yes sz a n c L w h g.may g.hs g.hn hT).mono ?_
  rintro _ w' ⟨v, rfl, F, h1, h2⟩
  have e : ∀ i, i < sz → RepB (nW n) (F i) (tuQ P i) := fun i hi => (h2 i hi).congr (fun _ _ => rfl) (fun y _ => by
    unfold tuQ
    by_cases c : y < n
    · rw [g.inT y i c (by unfold nW; omega)]; simp [c]
    · rw [g.out y i (by omega)]; simp [c])
  exact h1.resN e g.hs
theorem both_good (n : Nat) (a : Option Addr) (c : Nat) (L : List SetC) (P : Nat → Nat → Bool) (w : World) (h : SlS w a n c L) (g : GoodT n n L P) (hT : Tab64 w) :
    Calls Tryd.prog 32 #[setV n a n c] w fun r w' => ResN w w' n n (tabK n n (boQ P)) 0 r := by
  refine (both_yes a n c L w h g.may g.hn hT).mono ?_
  rintro _ w' ⟨v, rfl, F, h1, h2⟩
  have e : ∀ i, i < n → RepB (nW n) (F i) (boQ P i) := fun i hi => (h2 i hi).congr (fun _ _ => rfl) (fun y hy => by
    unfold boQ boP
    rw [g.inT i y hi hy]
    by_cases c : y < n
    · rw [g.inT y i c (by unfold nW; omega)]; simp [c, hi]
    · rw [g.out y i (by omega)]; simp [c, hi])
  exact h1.resN e g.hn
theorem product_good (sz n : Nat) (a : Option Addr) (c : Nat) (L : List SetC) (P : Nat → Nat → Bool) (sb : Nat) (a2 : Option Addr) (c2 : Nat) (M : List SetC) (Q : Nat → Nat → Bool) (w : World) (h : SlS w a n c L) (h2 : SlS w a2 sz c2 M) (g : GoodT sz n L P) (g2 : GoodT sb sz M Q) (hT : Tab64 w) :
    Calls Tryd.prog 12 #[setV sz a n c, setV sb a2 sz c2] w fun r w' => ResN w w' sb n (tabK sb n (prG sz P Q)) 0 r := by
  refine (product_yes sz a n c L sb a2 c2 M w h h2 g.may g2.may g.hs g.hn g2.hs hT).mono ?_
  rintro _ w' ⟨v, rfl, F, h3, h4⟩
  have e : ∀ i, i < n → RepB (nW sb) (F i) (prG sz P Q i) := fun i hi => (h4 i hi).congr (fun _ _ => rfl) (fun y hy => by
    unfold prQ prG
    rw [Bool.eq_iff_iff]
    simp only [List.any_eq_true, List.mem_range, Bool.and_eq_true]
    constructor
    · rintro ⟨e, he, x1, x2⟩
      rw [g.inT i e hi (by unfold nW; omega)] at x1
      rw [g2.inT e y he hy] at x2
      exact ⟨e, he, x1, x2⟩
    · rintro ⟨e, he, x1, x2⟩
      rw [← g.inT i e hi (by unfold nW; omega)] at x1
      rw [← g2.inT e y he hy] at x2
      exact ⟨e, he, x1, x2⟩)
  exact h3.resN e g.hn
theorem turn_bad (s : Int) (n : Nat) (a : Option Addr) (c : Nat) (L : List SetC) (w : World) (h : SlS w a n c L) (hm : MayT s L = false) :
    Calls Tryd.prog 25 #[setV s a n c] w fun r w' => ResN w w' 0 0 [] 61 r := by
  refine (turn_no s a n c L w h hm).mono ?_
  rintro _ w' ⟨rfl, hb⟩
  exact resN_zero hb
theorem both_bad (sz n : Nat) (a : Option Addr) (c : Nat) (L : List SetC) (P : Nat → Nat → Bool) (w : World) (h : SlS w a n c L) (g : GoodT sz n L P) (hs : ¬ sz = n) :
    Calls Tryd.prog 32 #[setV sz a n c] w fun r w' => ResN w w' 0 0 [] 60 r := by
  have e : sqE (sz : Int) L = 60 := by
    have h1 : ¬ (n : Int) = (sz : Int) := by omega
    simp [sqE, g.may, h.len, h1]
  have K := both_no sz a n c L w h (by rw [e]; decide)
  rw [e] at K
  refine K.mono ?_
  rintro _ w' ⟨rfl, hb⟩
  exact resN_zero hb
theorem product_bad (sz n : Nat) (a : Option Addr) (c : Nat) (L : List SetC) (P : Nat → Nat → Bool) (sb n2 : Nat) (a2 : Option Addr) (c2 : Nat) (M : List SetC) (Q : Nat → Nat → Bool) (w : World) (h : SlS w a n c L) (h2 : SlS w a2 n2 c2 M) (g : GoodT sz n L P) (g2 : GoodT sb n2 M Q) (hs : ¬ sz = n2) :
    Calls Tryd.prog 12 #[setV sz a n c, setV sb a2 n2 c2] w fun r w' => ResN w w' 0 0 [] 60 r := by
  refine (product_no3 sz a n c L sb a2 n2 c2 M w h h2 g.may g2.may (by omega)).mono ?_
  rintro _ w' ⟨rfl, hb⟩
  exact resN_zero hb
theorem GoodT.turn {sz n : Nat} {L M : List SetC} {P : Nat → Nat → Bool} (g : GoodT sz n L P) (h : M.map SetC.key = tabK n sz (tuQ P)) : GoodT n sz M (tuQ P) := ⟨h, fun i x hx => g.out x i hx, fun i x hx => g.zero x i hx, g.hn, g.hs⟩
theorem GoodT.both {n : Nat} {L M : List SetC} {P : Nat → Nat → Bool} (g : GoodT n n L P) (h : M.map SetC.key = tabK n n (boQ P)) : GoodT n n M (boQ P) := ⟨h, fun i x hx => by unfold boQ; rw [g.out x i hx, g.zero i x hx]; rfl, fun i x hx => by unfold boQ; rw [g.zero x i hx, g.out i x hx]; rfl, g.hn, g.hs⟩
theorem prG_zero {m : Nat} {P Q : Nat → Nat → Bool} {i y : Nat} (h : (∀ e, P i e = false) ∨ ∀ e, Q e y = false) : prG m P Q i y = false := by
  unfold prG
  rw [List.any_eq_false]
  intro e _
  rcases h with h | h
  · simp [h e]
  · simp [h e]
theorem GoodT.product {sz n sb : Nat} {L M N : List SetC} {P Q : Nat → Nat → Bool} (g : GoodT sz n L P) (g2 : GoodT sb sz M Q) (h : N.map SetC.key = tabK sb n (prG sz P Q)) : GoodT sb n N (prG sz P Q) :=
  ⟨h, fun i x hx => prG_zero (.inr fun e => g2.zero e x hx), fun i x hx => prG_zero (.inl fun e => g.out i e hx), g2.hs, g.hn⟩
theorem boQ_turn (P : Nat → Nat → Bool) : tuQ (boQ P) = boQ P := by
  funext e y
  unfold tuQ boQ
  exact Bool.or_comm _ _
theorem prG_turn (m : Nat) (P Q : Nat → Nat → Bool) : prG m (tuQ Q) (tuQ P) = tuQ (prG m P Q) := by
  funext i y
  unfold tuQ prG
  congr 1
  funext e
  exact Bool.and_comm _ _
end Go.Proofs.YtbendkndnojihabDoor
