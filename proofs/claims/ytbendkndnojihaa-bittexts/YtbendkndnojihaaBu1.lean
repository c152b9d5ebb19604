/-
  bitset.MayTable: its contract.
-/
import Derived.Test.YtbendkndnojihaaBti
namespace Go.Proofs.Ytbendkndnojihaa
open Go.RowKit Go.Deep
set_option linter.unusedVariables false

def badT (s : Int) (e : SetC) : Bool := (!MayS e.s e.xs) || decide (e.s ≠ s)
/-- Which tables may be. -/
def MayT (s : Int) (L : List SetC) : Bool := fitsI s && decide (L.length ≤ 4096) && !L.any (badT s)

set_option maxHeartbeats 2000000 in
/-- bitset.MayTable's function. -/
theorem mayT1_any (s es : Int) (a0 : Value) (B : Nat) (ea : Option Addr) (en ec : Nat) (exs : List Nat) (w : World) (hB : Two w B (.int .i64 s) a0) (h : SlW w ea en ec exs) (hok : OkW exs) :
    Calls Try.prog 46 #[setV es ea en ec, .pointer (some ⟨B, 0, none⟩)] w fun r w' => r = .returned (.bool (badT s ⟨es, ea, en, ec, exs⟩)) ∧ Below w.heap.size w w' := by
  obtain ⟨wa, hwa⟩ : ∃ wa, w.alloc (.cells #[.int .i64 es, .slice ea en ec] 24) = wa := ⟨_, rfl⟩
  have hb : Below w.heap.size w wa := by rw [← hwa]; exact (Below.refl _ _).alloc (Nat.le_refl _) _
  have hT : Two wa w.heap.size (.int .i64 es) (.slice ea en ec) := by rw [← hwa]; exact Two.made _ _ _ _
  have t0 := hT.c0
  have t1 := hT.c1
  have K := may_any es ea en ec exs wa (h.below hb) hok
  have HA := hide (And.intro hT (And.intro (hB.keep hb) hb))
  have hbt : badT s ⟨es, ea, en, ec, exs⟩ = ((!MayS es exs) || decide (es ≠ s)) := rfl
  rw [hbt]
  unfold setV at K ⊢
  clear hT hB h hok hb hbt
  cases hm : MayS es exs
  · rw [hm] at K
    have HK := hide K
    clear K hm
    go_enter Try.func46, Try.ntmps46
    go_wp2_with fail
    refine (unhide HK).mono ?_
    rintro _ w1 ⟨rfl, hb1⟩
    have HB := hide ((unhide HA).2.2.trans (hb1.mono (unhide HA).2.2.size))
    clear hb1 HK
    go_wp2_with fail
    go_ret
    exact ⟨by simp, unhide HB⟩
  · rw [hm] at K
    have HK := hide K
    clear K hm
    by_cases hes : es = s
    all_goals
      try subst hes
      try have hes' : (es == s) = false := by simpa using hes
      go_enter Try.func46, Try.ntmps46
      go_wp2_with fail
      refine (unhide HK).mono ?_
      rintro _ w1 ⟨rfl, hb1⟩
      have HB := hide ((unhide HA).2.2.trans (hb1.mono (unhide HA).2.2.size))
      have q1 := ((unhide HA).1.keep hb1).c0
      have q2 := ((unhide HA).2.1.keep hb1).c0
      clear hb1 HK
      go_wp2_with fail
      go_ret
      exact ⟨by simp [*], unhide HB⟩

/-- What the search gives: a place, if there is one. -/
def IdxPost (w w' : World) (bad : Bool) (e : Ending) : Prop := ∃ k : Int, e = .returned (.int .i64 k) ∧ decide (0 ≤ k) = bad ∧ Below w.heap.size w w'

set_option maxHeartbeats 2000000 in
theorem indexFunc_any (s : Int) (a0 : Value) (B : Nat) (a : Option Addr) (n c : Nat) (L : List SetC) (w : World) (hB : Two w B (.int .i64 s) a0) (h : SlS w a n c L) :
    Calls Try.prog 74 #[.slice a n c, .func (.func 46) #[] #[.pointer (some ⟨B, 0, none⟩)]] w fun e w' => IdxPost w w' (L.any (badT s)) e := by
  have hle := h.le
  have hcap := h.cap
  unfold maxLen at hcap
  have HSl := hide h
  have HLn := hide h.len
  have HBx := hide hB
  clear h hB
  go_enter Try.func74, Try.ntmps74
  go_wp2_with fail
  go_loopw [8, 5] (fun i _ wr => ∃ k : Nat, k ≤ n ∧ i = .int .i64 k ∧ (L.take k).any (badT s) = false ∧ Below w.heap.size w wr) (fun i _ _ => n - (intOf i).toNat)
  case atStart => exact ⟨0, Nat.zero_le _, rfl, rfl, Below.refl _ _⟩
  case round =>
    obtain ⟨k, hk, rfl, hok, hbl⟩ := hrel
    by_cases hlt : k < n
    · have hlt' : (k : Int) < (n : Int) := by omega
      have hkl : k < L.length := by rw [unhide HLn]; exact hlt
      have hS := (unhide HSl).below hbl
      obtain ⟨b, off, rfl, hcells⟩ := hS.at (by omega)
      have g1 := (hcells k hlt).1
      have g2 := (hcells k hlt).2
      have hin := hS.get k hlt
      have HAny := hide (any_takeS hkl (badT s))
      have HBad := hide (fun h => any_badS (p := badT s) hkl h)
      obtain ⟨e, he⟩ : ∃ e, L.getD k .nul = e := ⟨_, rfl⟩
      rw [he] at g1 g2 hin HAny HBad
      obtain ⟨es, ea, en, ec, exs⟩ := e
      simp only at g1 g2
      have K := mayT1_any s es a0 B ea en ec exs wr ((unhide HBx).keep hbl) hin.1 hin.2
      unfold setV at K
      have HO := hide hok
      have HBl := hide hbl
      generalize badT s ⟨es, ea, en, ec, exs⟩ = bv at *
      have HK := hide K
      clear hcells hin he hbl hS hok K
      cases bv
      · go_wp2_with fail
        refine (unhide HK).mono ?_
        rintro _ w2 ⟨rfl, hb2⟩
        have HB2 := hide ((unhide HBl).trans (hb2.mono (unhide HBl).size))
        have HO2 := hide (show (L.take (k + 1)).any (badT s) = false by rw [unhide HAny, unhide HO]; rfl)
        clear hb2 HK g1 g2
        go_wp2_with fail
        exact ⟨⟨k + 1, by omega, by go_num, unhide HO2, unhide HB2⟩, by simp [intOf]; omega⟩
      · go_wp2_with fail
        refine (unhide HK).mono ?_
        rintro _ w2 ⟨rfl, hb2⟩
        have HB2 := hide ((unhide HBl).trans (hb2.mono (unhide HBl).size))
        clear hb2 HK g1 g2
        go_wp2_with fail
        go_ret
        exact ⟨(k : Int), rfl, by rw [unhide HBad (by first | rfl | trivial)]; simp, unhide HB2⟩
    · have hlt' : ¬ (k : Int) < (n : Int) := by omega
      have hkn : k = n := by omega
      subst hkn
      have hall : L.take k = L := by rw [List.take_of_length_le]; rw [unhide HLn]; exact Nat.le_refl _
      rw [hall] at hok
      have HO := hide hok
      have HBl := hide hbl
      clear hok hbl hall
      go_wp2_with fail
      go_ret
      exact ⟨-1, rfl, by rw [unhide HO]; rfl, unhide HBl⟩

set_option maxHeartbeats 2000000 in
theorem containsFunc_any (s : Int) (a0 : Value) (B : Nat) (a : Option Addr) (n c : Nat) (L : List SetC) (w : World) (hB : Two w B (.int .i64 s) a0) (h : SlS w a n c L) :
    Calls Try.prog 45 #[.slice a n c, .func (.func 46) #[] #[.pointer (some ⟨B, 0, none⟩)]] w fun e w' => e = .returned (.bool (L.any (badT s))) ∧ Below w.heap.size w w' := by
  have HK := hide (indexFunc_any s a0 B a n c L w hB h)
  clear hB h
  go_enter Try.func45, Try.ntmps45
  go_wp2_with fail
  refine (unhide HK).mono ?_
  rintro _ w1 ⟨k, rfl, hk, hb⟩
  have HE := hide (And.intro hk hb)
  clear hk hb HK
  go_wp2_with fail
  go_ret
  refine ⟨?_, (unhide HE).2⟩
  rw [← (unhide HE).1]
  rfl

set_option maxHeartbeats 2000000 in
/-- bitset.MayTable. -/
theorem mayT_any (s : Int) (a : Option Addr) (n c : Nat) (L : List SetC) (w : World) (h : SlS w a n c L) :
    Calls Try.prog 15 #[setV s a n c] w fun r w' => r = .returned (.bool (MayT s L)) ∧ Below w.heap.size w w' := by
  have hle := h.le
  have hcap := h.cap
  unfold maxLen at hcap
  obtain ⟨wa, hwa⟩ : ∃ wa, w.alloc (.cells #[.int .i64 s, .slice a n c] 27) = wa := ⟨_, rfl⟩
  have hb : Below w.heap.size w wa := by rw [← hwa]; exact (Below.refl _ _).alloc (Nat.le_refl _) _
  have hT : Two wa w.heap.size (.int .i64 s) (.slice a n c) := by rw [← hwa]; exact Two.made _ _ _ _
  have t0 := hT.c0
  have t1 := hT.c1
  have HK := hide (fits_any s wa)
  have HC := hide (containsFunc_any s (.slice a n c) w.heap.size a n c L wa hT (h.below hb))
  have HB := hide hb
  have hl := h.len
  have hmf : ∀ (fn : Fn) (first cap : Array Value) (w : World), (Instr.makeFunc fn first cap).run Try.prog w = .ok (.func fn first cap) w := fun _ _ _ _ => rfl
  unfold setV
  clear h hb hT
  cases hf : fitsI s
  · have e0 : MayT s L = false := by simp [MayT, hf]
    rw [e0]
    rw [hf] at HK
    clear hf e0
    go_enter Try.func15, Try.ntmps15
    go_wp2_with fail
    refine (unhide HK).mono ?_
    rintro _ w' ⟨rfl, hw⟩
    obtain rfl := hw.symm
    go_wp2_with fail
    go_ret
    exact ⟨rfl, unhide HB⟩
  · rw [hf] at HK
    by_cases h4 : 4096 < n
    · have e0 : MayT s L = false := by
        have : ¬ L.length ≤ 4096 := by omega
        simp [MayT, hf, this]
      rw [e0]
      have h4' : (4096 : Int) < (n : Int) := by omega
      clear hf e0
      go_enter Try.func15, Try.ntmps15
      go_wp2_with fail
      refine (unhide HK).mono ?_
      rintro _ w' ⟨rfl, hw⟩
      obtain rfl := hw.symm
      go_wp2_with fail
      go_ret
      exact ⟨rfl, unhide HB⟩
    · have e0 : MayT s L = !L.any (badT s) := by
        have : L.length ≤ 4096 := by omega
        simp [MayT, hf, this]
      rw [e0]
      have h4' : ¬ (4096 : Int) < (n : Int) := by omega
      generalize L.any (badT s) = bv at *
      clear hf e0 hl
      go_enter Try.func15, Try.ntmps15
      go_wp2_with fail
      refine (unhide HK).mono ?_
      rintro _ w' ⟨rfl, hw⟩
      obtain rfl := hw.symm
      go_wp2_with fail
      refine (unhide HC).mono ?_
      rintro _ w1 ⟨rfl, hb1⟩
      have HB1 := hide ((unhide HB).trans (hb1.mono (unhide HB).size))
      clear hb1 HC
      go_wp2_with fail
      go_ret
      exact ⟨rfl, unhide HB1⟩
end Go.Proofs.Ytbendkndnojihaa
