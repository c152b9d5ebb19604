/-
  sloperef3.fit, Many: contracts.
-/
import Derived.Test.YtbendkndnojihaaBti
import Derived.Test.YtbendkndnojihaaBt6
namespace Go.Proofs.Ytbendkndnojihaa
open Go.RowKit Go.Deep
set_option linter.unusedVariables false

set_option maxHeartbeats 2000000 in
/-- sloperef3.fit. -/
theorem fit_any (size : Int) (a : Option Addr) (n c : Nat) (L : List SetC) (w : World) (h : SlS w a n c L) :
    Calls Try.prog 67 #[.int .i64 size, .slice a n c] w fun r w' => r = .returned (.int .i64 (alikeE size L)) ∧ Below w.heap.size w w' := by
  have hle := h.le
  have hcap := h.cap
  unfold maxLen at hcap
  have HSl := hide h
  have HLn := hide h.len
  have HK := hide (sized_any size)
  obtain ⟨fv, hfv⟩ : ∃ f, fitsI size = f := ⟨_, rfl⟩
  rw [hfv] at HK
  have HFV := hide hfv
  clear h hfv
  cases fv
  all_goals
    go_enter Try.func67, Try.ntmps67
    go_wp2_with fail
    refine (unhide HK _).mono ?_
    rintro _ w' ⟨rfl, hw⟩
    obtain rfl := hw.symm
    go_wp2_with fail
    go_loopw [6, 5] (fun i o wr => ∃ k : Nat, k ≤ n ∧ i = .int .i64 k ∧ o = .int .i64 (if ((!fitsI size) || (L.take k).any (offS size)) = true then 60 else 0) ∧ (L.take k).any notMay = false ∧ Below w.heap.size w wr) (fun i _ _ => n - (intOf i).toNat)
    case atStart => exact ⟨0, Nat.zero_le _, rfl, by simp [unhide HFV], rfl, Below.refl _ _⟩
    case round =>
      obtain ⟨k, hk, rfl, rfl, hok, hbl⟩ := hrel
      by_cases hlt : k < n
      · have hlt' : (k : Int) < (n : Int) := by omega
        have hkl : k < L.length := by rw [unhide HLn]; exact hlt
        have hS := (unhide HSl).below hbl
        obtain ⟨b, off, rfl, hcells⟩ := hS.at (by omega)
        have g1 := (hcells k hlt).1
        have g2 := (hcells k hlt).2
        have hin := hS.get k hlt
        have HAny := hide (any_takeS hkl (offS size))
        have HAny2 := hide (any_takeS hkl notMay)
        have HBad := hide (fun h => any_badS (p := notMay) hkl h)
        obtain ⟨e, he⟩ : ∃ e, L.getD k .nul = e := ⟨_, rfl⟩
        rw [he] at g1 g2 hin HAny HAny2 HBad
        obtain ⟨es, ea, en, ec, exs⟩ := e
        simp only at g1 g2
        have K := rmay_any es ea en ec exs wr hin.1
        unfold setV at K
        have HO := hide hok
        have HBl := hide hbl
        generalize hov : (if ((!fitsI size) || (L.take k).any (offS size)) = true then (60 : Int) else 0) = ov at *
        have HOV := hide hov
        clear hov
        have HG := hide (And.intro g1 g2)
        clear hcells hin he hbl hS hok
        cases hm : MayS es exs
        · rw [hm] at K
          have HKM := hide K
          have HE := hide (show alikeE size L = 61 by
            have : L.any notMay = true := unhide HBad (by simp [notMay, hm])
            simp [alikeE, this])
          clear K hm
          go_wp2_with fail
          refine (unhide HKM).mono ?_
          rintro _ w2 ⟨rfl, hb2⟩
          have HB2 := hide ((unhide HBl).trans (hb2.mono (unhide HBl).size))
          clear hb2 HKM
          go_wp2_with fail
          go_ret
          rw [unhide HE]
          exact ⟨rfl, unhide HB2⟩
        · rw [hm] at K
          have HKM := hide K
          have HM := hide hm
          clear K hm
          go_wp2_with fail
          refine (unhide HKM).mono ?_
          rintro _ w2 ⟨rfl, hb2⟩
          have HB2 := hide ((unhide HBl).trans (hb2.mono (unhide HBl).size))
          have g3 := below_cell hb2 (unhide HG).1
          have HO2 := hide (show (L.take (k + 1)).any notMay = false by rw [unhide HAny2, unhide HO]; simp [notMay, unhide HM])
          clear hb2 HKM g1 g2
          by_cases hes : es = size
          · have HV := hide (show ov = (if ((!fitsI size) || (L.take (k + 1)).any (offS size)) = true then (60 : Int) else 0) by
              rw [unhide HAny, ← unhide HOV]
              simp [offS, hes])
            subst hes
            go_wp2_with fail
            exact ⟨⟨k + 1, by omega, by go_num, by rw [← unhide HV], unhide HO2, unhide HB2⟩, by simp [intOf]; omega⟩
          · have HV := hide (show (60 : Int) = (if ((!fitsI size) || (L.take (k + 1)).any (offS size)) = true then (60 : Int) else 0) by
              rw [unhide HAny]
              simp [offS, hes])
            have hes' : (es == size) = false := by simpa using hes
            go_wp2_with fail
            exact ⟨⟨k + 1, by omega, by go_num, by rw [← unhide HV], unhide HO2, unhide HB2⟩, by simp [intOf]; omega⟩
      · have hlt' : ¬ (k : Int) < (n : Int) := by omega
        have hkn : k = n := by omega
        subst hkn
        have hall : L.take k = L := by rw [List.take_of_length_le]; rw [unhide HLn]; exact Nat.le_refl _
        rw [hall] at hok ⊢
        have HB2 := hide hbl
        have HE := hide (show alikeE size L = if ((!fitsI size) || L.any (offS size)) = true then 60 else 0 by simp [alikeE, hok])
        clear hall hok hbl
        generalize (if ((!fitsI size) || L.any (offS size)) = true then (60 : Int) else 0) = ov at *
        go_wp2_with fail
        go_ret
        rw [unhide HE]
        exact ⟨rfl, unhide HB2⟩
end Go.Proofs.Ytbendkndnojihaa
