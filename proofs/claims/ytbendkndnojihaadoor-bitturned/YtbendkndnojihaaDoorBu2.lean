/-
  sloperef3.MayTable: its contract.
-/
import Derived.Test.YtbendkndnojihaaDoorBu1
import Derived.Test.YtbendkndnojihaaDoorBx7
namespace Go.Proofs.YtbendkndnojihaaDoor
open Go.RowKit Go.Deep
set_option linter.unusedVariables false

set_option maxHeartbeats 16000000 in
/-- sloperef3.MayTable. -/
theorem rmayT_any (s : Int) (a : Option Addr) (n c : Nat) (L : List SetC) (w : World) (h : SlS w a n c L) :
    Calls Tryd.prog 37 #[setV s a n c] w fun r w' => r = .returned (.bool (MayT s L)) ∧ Below w.heap.size w w' := by
  have hle := h.le
  have hcap := h.cap
  unfold maxLen at hcap
  obtain ⟨wa, hwa⟩ : ∃ wa, w.alloc (.cells #[.int .i64 s, .slice a n c] 56) = wa := ⟨_, rfl⟩
  have hb : Below w.heap.size w wa := by rw [← hwa]; exact (Below.refl _ _).alloc (Nat.le_refl _) _
  have hT : Two wa w.heap.size (.int .i64 s) (.slice a n c) := by rw [← hwa]; exact Two.made _ _ _ _
  have t0 := hT.c0
  have t1 := hT.c1
  have HB := hide hb
  have HT := hide hT
  have HSl := hide h
  have hl := h.len
  have HLn := hide hl
  unfold setV
  clear h hb hT
  by_cases hf : s < 0 ∨ 4096 < s
  · have e0 : MayT s L = false := by
      have : fitsI s = false := by simp [fitsI]; omega
      simp [MayT, this]
    rw [e0]
    rcases hf with hf | hf
    all_goals
      go_enter Tryd.func37, Tryd.ntmps37
      go_wp2_with fail
      all_goals
        go_ret
        exact ⟨rfl, unhide HB⟩
  · have hf0 : ¬ (s < 0) := by omega
    have hf1 : ¬ (4096 < s) := by omega
    have hfit : fitsI s = true := by simp [fitsI]; omega
    clear hf
    by_cases h4 : 4096 < n
    · have e0 : MayT s L = false := by
        have : ¬ L.length ≤ 4096 := by omega
        simp [MayT, hfit, this]
      rw [e0]
      have h4' : (4096 : Int) < (n : Int) := by omega
      clear e0
      go_enter Tryd.func37, Tryd.ntmps37
      go_wp2_with fail
      go_ret
      exact ⟨rfl, unhide HB⟩
    · have e0 : MayT s L = !L.any (badT s) := by
        have : L.length ≤ 4096 := by omega
        simp [MayT, hfit, this]
      rw [e0]
      have h4' : ¬ (4096 : Int) < (n : Int) := by omega
      clear e0 hl hfit
      go_enter Tryd.func37, Tryd.ntmps37
      go_wp2_with fail
      clear t0 t1 hwa
      go_loopw [3] (fun i wr => ∃ k : Nat, k ≤ n ∧ i = .int .i64 k ∧ (L.take k).any (badT s) = false ∧ Two wr w.heap.size (.int .i64 s) (.slice a n c) ∧ Below w.heap.size w wr) (fun i _ => n - (intOf i).toNat)
      case atStart => exact ⟨0, Nat.zero_le _, rfl, rfl, unhide HT, unhide HB⟩
      case round =>
        obtain ⟨k, hk, rfl, hok, ht, hbl⟩ := hrel
        have u0 := ht.c0
        have u1 := ht.c1
        by_cases hlt : k < n
        · have hlt' : (k : Int) < (n : Int) := by omega
          have hkl : k < L.length := by rw [unhide HLn]; exact hlt
          have hS := (unhide HSl).below hbl
          obtain ⟨b, off, rfl, hcells⟩ := hS.at (by omega)
          have g1 := (hcells k hlt).1
          have g2 := (hcells k hlt).2
          have hin := hS.get k hlt
          have HAny := hide (any_takeS hkl (badT s))
          have HBad := hide (fun h => any_badS (p := badT s) hkl h)
          obtain ⟨e, he⟩ : ∃ e, L.getD k .nul = e := ⟨_, rfl⟩
          rw [he] at g1 g2 hin HAny HBad
          obtain ⟨es, ea, en, ec, exs⟩ := e
          simp only at g1 g2
          have F0 : ∀ x : Ext wr, x.w.cell? ⟨w.heap.size, 0, none⟩ = some (.int .i64 s) := fun x => x.cell u0
          have F1 : ∀ x : Ext wr, x.w.cell? ⟨w.heap.size, 1, none⟩ = some (.slice (some ⟨b, off, none⟩) n c) := fun x => x.cell u1
          have F2 : ∀ x : Ext wr, x.w.cell? ⟨b, off + k * 2, none⟩ = some (.int .i64 es) := fun x => x.cell g1
          have F3 : ∀ x : Ext wr, x.w.cell? ⟨b, off + k * 2 + 1, none⟩ = some (.slice ea en ec) := fun x => x.cell g2
          have hNE := Ext.ne wr
          have HIn := hide (fun x : Ext wr => hin.1.below x.bel)
          clear g1 g2 hcells hin he hS
          have HO := hide hok
          have HBl := hide hbl
          have HTw := hide ht
          have hbt : badT s ⟨es, ea, en, ec, exs⟩ = ((!MayS es exs) || decide (es ≠ s)) := rfl
          rw [hbt] at HAny HBad
          clear hok hbl ht hbt
          have K := fun x : Ext wr => rmay_any es ea en ec exs x.w (unhide HIn x)
          unfold setV at K
          cases hm : MayS es exs
          · rw [hm] at K HAny HBad
            have HK := hide K
            clear K hm
            go_wp2_with fail
            refine wp_region_ext (by kernel_rfl) (by kernel_rfl) ?_
            repeat (go_big_quiet_step ((rename_i x; exact Ext.call (unhide HK x) (fun e w' h => h))))
            refine wpQuiet_nil ?_
            rintro _ ⟨x, rfl⟩
            have HB2 := hide ((unhide HBl).trans (x.bel.mono (unhide HBl).size))
            go_wp2_with fail
            go_ret
            rw [unhide HBad (by simp)]
            exact ⟨rfl, unhide HB2⟩
          · rw [hm] at K HAny HBad
            have HK := hide K
            clear K hm
            by_cases hes : es = s
            · subst hes
              go_wp2_with fail
              refine wp_region_ext (by kernel_rfl) (by kernel_rfl) ?_
              repeat (go_big_quiet_step ((rename_i x; exact Ext.call (unhide HK x) (fun e w' h => h))))
              refine wpQuiet_nil ?_
              rintro _ ⟨x, rfl⟩
              have HB2 := hide ((unhide HBl).trans (x.bel.mono (unhide HBl).size))
              have HT2 := hide ((unhide HTw).keep x.bel)
              go_wp2_with fail
              exact ⟨⟨k + 1, by omega, by go_num, by rw [unhide HAny, unhide HO]; simp, unhide HT2, unhide HB2⟩, by simp [intOf]; omega⟩
            · have hes' : (es == s) = false := by simpa using hes
              have hes2 : (es != s) = true := by simpa using hes
              go_wp2_with fail
              refine wp_region_ext (by kernel_rfl) (by kernel_rfl) ?_
              repeat (go_big_quiet_step ((rename_i x; exact Ext.call (unhide HK x) (fun e w' h => h))))
              refine wpQuiet_nil ?_
              rintro _ ⟨x, rfl⟩
              have HB2 := hide ((unhide HBl).trans (x.bel.mono (unhide HBl).size))
              go_wp2_with fail
              go_ret
              rw [unhide HBad (by simp [hes])]
              exact ⟨rfl, unhide HB2⟩
        · have hlt' : ¬ (k : Int) < (n : Int) := by omega
          have hkn : k = n := by omega
          subst hkn
          have hall : L.take k = L := by rw [List.take_of_length_le]; rw [unhide HLn]; exact Nat.le_refl _
          rw [hall] at hok
          have HO := hide hok
          have HBl := hide hbl
          clear hok hbl hall ht
          go_wp2_with fail
          go_ret
          rw [unhide HO]
          exact ⟨rfl, unhide HBl⟩
end Go.Proofs.YtbendkndnojihaaDoor
