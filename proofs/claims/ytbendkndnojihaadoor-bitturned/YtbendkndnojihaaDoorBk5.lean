/-
  sloperef3.Elements, fresh: contracts.
-/
import Derived.Test.YtbendkndnojihaaDoorBk3
import Derived.Test.YtbendkndnojihaaDoorBt9
namespace Go.Proofs.YtbendkndnojihaaDoor
open Go.RowKit Go.Deep
set_option linter.unusedVariables false

/-- The numbers of a set, rising. -/
def elsL (P : Nat → Bool) : Nat → List Int
  | 0 => []
  | n + 1 => elsL P n ++ (if P n then [(n : Int)] else [])
theorem elsL_len (P : Nat → Bool) : ∀ n, (elsL P n).length = cntB P n
  | 0 => rfl
  | n + 1 => by simp only [elsL, cntB, List.length_append]; rw [elsL_len P n]; split <;> simp_all
def elsR (s : Int) (xs : List Nat) : List Int := if MayS s xs then elsL (hasB (gW xs)) s.toNat else []

set_option maxHeartbeats 8000000 in
/-- sloperef3.Elements. -/
theorem elements_any (s : Int) (a : Option Addr) (n c : Nat) (xs : List Nat) (w : World) (h : SlW w a n c xs) :
    Calls Tryd.prog 22 #[setV s a n c] w fun e w' => ∃ a' c', e = .returned (.slice a' (elsR s xs).length c') ∧ SlI w' a' (elsR s xs).length c' (elsR s xs) ∧ Below w.heap.size w w' := by
  obtain ⟨wa, hwa⟩ : ∃ x, w.alloc (.cells #[.int .i64 s, .slice a n c] 24) = x := ⟨_, rfl⟩
  have hba : Below w.heap.size w wa := by rw [← hwa]; exact (Below.refl _ _).alloc (Nat.le_refl _) _
  have tA : Two wa w.heap.size (.int .i64 s) (.slice a n c) := by rw [← hwa]; exact Two.made _ _ _ _
  have K := rmay_any s a n c xs wa (h.below hba)
  have HA := hide (And.intro tA (And.intro (h.below hba) hba))
  have HL := hide h.len
  have a0 := tA.c0
  have a1 := tA.c1
  clear tA hba h
  unfold setV at K ⊢
  cases m : MayS s xs
  · rw [m] at K
    have e0 : elsR s xs = [] := by simp [elsR, m]
    rw [e0]
    have HK := hide K
    clear K m e0
    go_enter Tryd.func22, Tryd.ntmps22
    go_wp2_with fail
    refine (unhide HK).mono ?_
    rintro _ w1 ⟨rfl, hb1⟩
    have HB := hide ((unhide HA).2.2.trans (hb1.mono (unhide HA).2.2.size))
    clear hb1 HK
    go_wp2_with fail
    go_ret
    exact ⟨none, 0, rfl, SlG.nil _, unhide HB⟩
  · rw [m] at K
    obtain ⟨sz, rfl, hsz⟩ := fitsI_nat (MayS.fits m)
    have e0 : elsR sz xs = elsL (hasB (gW xs)) sz := by simp [elsR, m]
    rw [e0]
    have HQ := hide (show ∀ k, k < sz → k / 64 < n from fun k hk => by rw [← unhide HL, MayS.len m]; unfold nW; simp; omega)
    obtain ⟨i64, hi, hz, hs, hb⟩ := info_parts Tryd.info_int
    have HI := hide (And.intro hi (And.intro hz (And.intro hs hb)))
    have HK := hide K
    obtain ⟨P, hP⟩ : ∃ P, hasB (gW xs) = P := ⟨_, rfl⟩
    rw [hP]
    have HP := hide hP
    obtain ⟨R, hR⟩ : ∃ R, elsL P sz = R := ⟨_, rfl⟩
    rw [hR]
    have HR := hide hR
    clear K m e0 hi hz hs hb hP hR
    go_enter Tryd.func22, Tryd.ntmps22
    go_wp2_with fail
    refine (unhide HK).mono ?_
    rintro _ w1 ⟨rfl, hb1⟩
    have HB1 := hide (And.intro ((unhide HA).1.keep hb1) (And.intro ((unhide HA).2.1.below hb1) ((unhide HA).2.2.trans (hb1.mono (unhide HA).2.2.size))))
    clear hb1 HK HA hwa a0 a1
    obtain ⟨base, hbase⟩ : ∃ x, w1.heap.size = x := ⟨_, rfl⟩
    have HBs := hide hbase
    have hlt0 : w.heap.size < base := by rw [← hbase]; exact (unhide HB1).1.lt
    clear hbase
    go_wp2_with fail
    go_loopw [4, 3] (fun i v wr => ∃ k : Nat, k ≤ sz ∧ i = .int .i64 k ∧ wr.ownsRow base 3 1 v (elsL P k).length ((elsL P k).map vI) ∧ Below base w1 wr) (fun i _ _ => sz - (intOf i).toNat)
    case atStart => exact ⟨0, Nat.zero_le _, rfl, World.ownsRow_nil _ _ _ _, Below.refl _ _⟩
    case round =>
      obtain ⟨k, hk, rfl, hown, hbl⟩ := hrel
      have hbl' : Below w1.heap.size w1 wr := by rw [unhide HBs]; exact hbl
      have tA := (unhide HB1).1.keep hbl'
      have e0 := tA.c0
      have e1 := tA.c1
      have HO := hide hown
      have HBl := hide hbl
      have hsz2 : base ≤ wr.heap.size := by have := hbl.size; rw [unhide HBs] at this; exact this
      have hlen := cntB_le P k
      rw [← elsL_len] at hlen
      clear tA hown hbl
      by_cases hlt : k < sz
      · have hlt' : (k : Int) < (sz : Int) := by omega
        have K := in_any sz a n c xs k wr ((unhide HB1).2.1.below hbl') (unhide HQ k hlt) (by omega)
        unfold setV at K
        have hpk : hasB (fun i => xs.getD i 0) k = P k := by rw [← unhide HP]; rfl
        rw [hpk] at K
        clear hpk hbl'
        cases hv : P k
        · rw [hv] at K
          have HE := hide (show elsL P (k + 1) = elsL P k by simp [elsL, hv])
          have HK := hide K
          clear K hv
          go_wp2_with fail
          refine (unhide HK).mono ?_
          rintro _ w2 ⟨rfl, hb2⟩
          have HO2 := hide (own_chg (S := fun _ => False) (unhide HO) (Chg.of_below hb2) (fun _ _ h => h))
          have HB2 := hide ((unhide HBl).trans (hb2.mono hsz2))
          clear hb2 HK e0 e1
          go_wp2_with fail
          refine ⟨⟨k + 1, by omega, by go_num, ?_, unhide HB2⟩, by simp [intOf]; omega⟩
          rw [unhide HE]
          exact unhide HO2
        · rw [hv] at K
          have HE := hide (show elsL P (k + 1) = elsL P k ++ [(k : Int)] by simp [elsL, hv])
          have HK := hide K
          clear K hv
          go_wp2_with fail
          refine (unhide HK).mono ?_
          rintro _ w2 ⟨rfl, hb2⟩
          have HO2 := hide (own_chg (S := fun _ => False) (unhide HO) (Chg.of_below hb2) (fun _ _ h => h))
          have HB2 := hide ((unhide HBl).trans (hb2.mono hsz2))
          have hsz3 : base ≤ w2.heap.size := Nat.le_trans hsz2 hb2.size
          generalize elsL P k = l at *
          clear hb2 HK e0 e1
          go_wp2_with (at_builtin; refine wpList_append_lies _ rfl _ _ 31 rfl base 3 i64 (.int .i64 0) 1 8 Tryd.underlying31 (unhide HI).1 (unhide HI).2.1 (unhide HI).2.2.1 (unhide HI).2.2.2 rfl (by decide) _ l.length (l.map vI) rfl ((unhide HO2).alloc _) ⟨w2.heap.size, 0, none⟩ 1 1 [.int .i64 (k : Int)] rfl rfl (World.news_of_block (alloc_block _ _)) ?c21 (by decide) ?c31 ?c41 ?c51 (w2.heap.size + 1) (by simp) ?_)
          case c21 => intro u hu; simp at hu; rcases hu with rfl; rfl
          case c31 => unfold maxLen; omega
          case c41 => omega
          case c51 => simp; omega
          intro gb cap w3 hown hg hat hlt4
          have hB3 : Below base w2 w3 := Below.grown ((Below.refl base w2).alloc hsz3 _) hg (by simp; omega) (fun j hj => (own_ge (unhide HO2) j hj).1)
          have HB3 := hide ((unhide HB2).trans hB3)
          have HO3 := hide (show w3.ownsRow base 3 1 (.slice (some ⟨gb, 0, none⟩) (l.length + 1) cap) (l ++ [(k : Int)]).length ((l ++ [(k : Int)]).map vI) by simpa [vI] using hown)
          clear hown hg hat hlt4 hB3
          go_wp2_with fail
          refine ⟨⟨k + 1, by omega, by go_num, ?_, unhide HB3⟩, by simp [intOf]; omega⟩
          rw [unhide HE]
          exact unhide HO3
      · have hlt' : ¬ (k : Int) < (sz : Int) := by omega
        have hkn : k = sz := by omega
        subst hkn
        clear hbl'
        go_wp2_with fail
        go_ret
        obtain ⟨av, cv, rfl, hsv⟩ := own_any (g := vI) (0 : Int) (unhide HO)
        rw [unhide HR] at hsv
        rw [unhide HR]
        exact ⟨av, cv, rfl, hsv, (unhide HB1).2.2.trans ((unhide HBl).mono (by omega))⟩

end Go.Proofs.YtbendkndnojihaaDoor
