/-
  bitset.Cover, sloperef3.Cover, every case; what hangs on the contents alone.
-/
import Derived.Test.YtbendkndnojihabBk6
import Derived.Test.YtbendkndnojihabBu3
namespace Go.Proofs.Ytbendkndnojihab
open Go.RowKit Go.Deep
set_option linter.unusedVariables false

theorem cover_cases (t : Int) (L : List SetC) (s : Int) (xs : List Nat) : (∃ er, coverR t L s xs = ([], er) ∧ ((MayT t L = false ∧ er = 61) ∨ (MayT t L = true ∧ MayS s xs = false ∧ er = 61) ∨ (MayT t L = true ∧ MayS s xs = true ∧ t ≠ s ∧ er = 60))) ∨
    (MayT t L = true ∧ MayS s xs = true ∧ t = s ∧ coverR t L s xs = covA (covR s.toNat L.length (setP L) 4096 (hasB (gW xs)) [])) := by
  cases m1 : MayT t L
  · exact .inl ⟨61, by unfold coverR; rw [m1]; simp, .inl ⟨rfl, rfl⟩⟩
  · cases m2 : MayS s xs
    · exact .inl ⟨61, by unfold coverR; rw [m1, m2]; simp, .inr (.inl ⟨rfl, rfl, rfl⟩)⟩
    · by_cases e : t = s
      · exact .inr ⟨rfl, rfl, e, by unfold coverR; rw [m1, m2]; simp [e]⟩
      · exact .inl ⟨60, by unfold coverR; rw [m1, m2]; simp [e], .inr (.inr ⟨rfl, rfl, e, rfl⟩)⟩
theorem cover_any (t : Int) (aT : Option Addr) (n cT : Nat) (L : List SetC) (s : Int) (a : Option Addr) (ns c : Nat) (xs : List Nat) (w : World) (hS : SlS w aT n cT L) (h : SlW w a ns c xs) (o : OkW xs) :
    Calls Try.prog 22 #[setV t aT n cT, setV s a ns c] w fun e w' => ResI w w' (coverR t L s xs) e := by
  rcases cover_cases t L s xs with ⟨er, h1, h2⟩ | ⟨m1, m2, rfl, h3⟩
  · rw [h1]; exact cover_no t aT n cT L s a ns c xs w hS h o er h2
  · obtain ⟨sz, rfl, hsz⟩ := fitsI_nat (MayS.fits m2)
    rw [h3, hS.len, Int.toNat_natCast]
    exact cover_yes sz aT n cT L a ns c xs w hS h o m1 m2
theorem rcover_any (t : Int) (aT : Option Addr) (n cT : Nat) (L : List SetC) (s : Int) (a : Option Addr) (ns c : Nat) (xs : List Nat) (w : World) (hS : SlS w aT n cT L) (h : SlW w a ns c xs) :
    Calls Try.prog 23 #[setV t aT n cT, setV s a ns c] w fun e w' => ResI w w' (coverR t L s xs) e := by
  rcases cover_cases t L s xs with ⟨er, h1, h2⟩ | ⟨m1, m2, rfl, h3⟩
  · rw [h1]; exact rcover_no t aT n cT L s a ns c xs w hS h er h2
  · obtain ⟨sz, rfl, hsz⟩ := fitsI_nat (MayS.fits m2)
    rw [h3, hS.len, Int.toNat_natCast]
    exact rcover_yes sz aT n cT L a ns c xs w hS h m1 m2
theorem getD_key (L : List SetC) (i : Nat) : ((L.map SetC.key).getD i (0, [])) = (L.getD i .nul).key := by
  by_cases h : i < L.length
  · simp [List.getD, h]
  · simp [List.getD, List.getElem?_eq_none (show L.length ≤ i by omega), SetC.key, SetC.nul]
theorem setP_key {L T : List SetC} (h : T.map SetC.key = L.map SetC.key) : setP T = setP L := by
  funext i
  have h1 := getD_key T i
  have h2 := getD_key L i
  rw [h, h2] at h1
  have h3 : (T.getD i .nul).xs = (L.getD i .nul).xs := by
    have := congrArg Prod.snd h1
    exact this.symm
  unfold setP
  rw [h3]
theorem cover_key {t : Int} {L T : List SetC} {s : Int} {xs : List Nat} (h : T.map SetC.key = L.map SetC.key) : coverR t T s xs = coverR t L s xs := by
  have hl : T.length = L.length := by simpa using congrArg List.length h
  unfold coverR
  rw [mayT_key h, setP_key h, hl]
end Go.Proofs.Ytbendkndnojihab
