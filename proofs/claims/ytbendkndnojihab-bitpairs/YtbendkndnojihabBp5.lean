/-
  sloperef3.Related: its contract.
-/
import Derived.Test.YtbendkndnojihabBp0
namespace Go.Proofs.Ytbendkndnojihab
open Go.RowKit Go.Deep
set_option linter.unusedVariables false

def relK (op : Bool → Bool → Bool) (P Q : Nat → Bool) (k : Nat) : Bool := (List.range k).all (fun e => !op (P e) (Q e))
theorem relK_succ (op : Bool → Bool → Bool) (P Q : Nat → Bool) (k : Nat) : relK op P Q (k + 1) = (relK op P Q k && !op (P k) (Q k)) := by
  unfold relK
  rw [List.range_succ, List.all_append]
  simp
def opX (x y : Bool) : Bool := x != y
def opN (x y : Bool) : Bool := x && !y
def opA (x y : Bool) : Bool := x && y
/-- What Related says. -/
def relV (s1 : Int) (x1 : List Nat) (s2 : Int) (x2 : List Nat) : Value := .tuple #[.bool (leavesR jXor s1 x1 s2 x2), .bool (leavesR jAndNot s1 x1 s2 x2), .bool (leavesR jAnd s1 x1 s2 x2)]

set_option maxHeartbeats 4000000 in
theorem related_no (s1 : Int) (a1 : Option Addr) (n1 c1 : Nat) (x1 : List Nat) (s2 : Int) (a2 : Option Addr) (n2 c2 : Nat) (x2 : List Nat) (w : World) (h1 : SlW w a1 n1 c1 x1) (h2 : SlW w a2 n2 c2 x2) (hz : ¬ (MayS s1 x1 = true ∧ MayS s2 x2 = true ∧ s1 = s2)) :
    Calls Try.prog 29 #[setV s1 a1 n1 c1, setV s2 a2 n2 c2] w fun r w' => r = .returned (.tuple #[.bool false, .bool false, .bool false]) ∧ Below w.heap.size w w' := by
  obtain ⟨wa, hwa⟩ : ∃ x, w.alloc (.cells #[.int .i64 s1, .slice a1 n1 c1] 26) = x := ⟨_, rfl⟩
  obtain ⟨wb, hwb⟩ : ∃ x, wa.alloc (.cells #[.int .i64 s2, .slice a2 n2 c2] 26) = x := ⟨_, rfl⟩
  obtain ⟨A0, hl1, hl2⟩ := enter2n hwa hwb h1 h2
  have tA := A0.t w.heap.size (.int .i64 s1) (.slice a1 n1 c1) (by simp)
  have K1 := rmay_any s1 a1 n1 c1 x1 wb (A0.w a1 n1 c1 x1 (by simp))
  have HA := hide A0
  have a0 := tA.c0
  have a1' := tA.c1
  have HZ := hide hz
  clear tA A0 h1 h2 hz
  unfold setV at K1 ⊢
  cases m1 : MayS s1 x1
  · rw [m1] at K1
    have HK1 := hide K1
    clear K1 m1
    go_enter Try.func29, Try.ntmps29
    go_wp2_with fail
    refine (unhide HK1).mono ?_
    rintro _ wd ⟨rfl, hbd⟩
    have HA1 := hide ((unhide HA).step hbd)
    clear hbd HK1 HA a0 a1'
    go_wp2_with fail
    go_ret3
    exact ⟨rfl, (unhide HA1).bel⟩
  · rw [m1] at K1
    have HK1 := hide K1
    have HM1 := hide m1
    clear K1 m1
    cases m2 : MayS s2 x2
    · have HM2 := hide m2
      clear m2
      go_enter Try.func29, Try.ntmps29
      go_wp2_with fail
      refine (unhide HK1).mono ?_
      rintro _ wd ⟨rfl, hbd⟩
      have HA1 := hide ((unhide HA).step hbd)
      have tB := (unhide HA1).t wa.heap.size (.int .i64 s2) (.slice a2 n2 c2) (by simp)
      have K2 := rmay_any s2 a2 n2 c2 x2 wd ((unhide HA1).w a2 n2 c2 x2 (by simp))
      rw [unhide HM2] at K2
      unfold setV at K2
      have HK2 := hide K2
      have b0 := tB.c0
      have b1 := tB.c1
      clear hbd HK1 HA a0 a1' K2 tB
      go_wp2_with fail
      refine (unhide HK2).mono ?_
      rintro _ wd2 ⟨rfl, hbd2⟩
      have HA2 := hide ((unhide HA1).step hbd2)
      clear hbd2 HK2 HA1 b0 b1
      go_wp2_with fail
      go_ret3
      exact ⟨rfl, (unhide HA2).bel⟩
    · have hne : s1 ≠ s2 := fun e => unhide HZ ⟨unhide HM1, m2, e⟩
      have hne1 : (s1 == s2) = false := by simpa using hne
      have hne2 : (s1 != s2) = true := by simpa using hne
      have HM2 := hide m2
      clear m2 hne
      go_enter Try.func29, Try.ntmps29
      go_wp2_with fail
      refine (unhide HK1).mono ?_
      rintro _ wd ⟨rfl, hbd⟩
      have HA1 := hide ((unhide HA).step hbd)
      have tB := (unhide HA1).t wa.heap.size (.int .i64 s2) (.slice a2 n2 c2) (by simp)
      have K2 := rmay_any s2 a2 n2 c2 x2 wd ((unhide HA1).w a2 n2 c2 x2 (by simp))
      rw [unhide HM2] at K2
      unfold setV at K2
      have HK2 := hide K2
      have b0 := tB.c0
      have b1 := tB.c1
      clear hbd HK1 HA a0 a1' K2 tB
      go_wp2_with fail
      refine (unhide HK2).mono ?_
      rintro _ wd2 ⟨rfl, hbd2⟩
      have HA2 := hide ((unhide HA1).step hbd2)
      have e0 := ((unhide HA2).t w.heap.size (.int .i64 s1) (.slice a1 n1 c1) (by simp)).c0
      have e1 := ((unhide HA2).t wa.heap.size (.int .i64 s2) (.slice a2 n2 c2) (by simp)).c0
      clear hbd2 HK2 HA1 b0 b1
      go_wp2_with fail
      go_ret3
      exact ⟨rfl, (unhide HA2).bel⟩

set_option maxHeartbeats 16000000 in
/-- sloperef3.Related. -/
theorem related_any (s1 : Int) (a1 : Option Addr) (n1 c1 : Nat) (x1 : List Nat) (s2 : Int) (a2 : Option Addr) (n2 c2 : Nat) (x2 : List Nat) (w : World) (h1 : SlW w a1 n1 c1 x1) (h2 : SlW w a2 n2 c2 x2) (o1 : OkW x1) (o2 : OkW x2) :
    Calls Try.prog 29 #[setV s1 a1 n1 c1, setV s2 a2 n2 c2] w fun r w' => r = .returned (relV s1 x1 s2 x2) ∧ Below w.heap.size w w' := by
  by_cases hz : MayS s1 x1 = true ∧ MayS s2 x2 = true ∧ s1 = s2
  · obtain ⟨m1, m2, rfl⟩ := hz
    obtain ⟨sz, rfl, hsz⟩ := fitsI_nat (MayS.fits m1)
    have hE : relV sz x1 sz x2 = .tuple #[.bool (relK opX (hasB (gW x1)) (hasB (gW x2)) sz), .bool (relK opN (hasB (gW x1)) (hasB (gW x2)) sz), .bool (relK opA (hasB (gW x1)) (hasB (gW x2)) sz)] := by
      unfold relV
      rw [leaves_bits (op := opX) jXor_bits rfl o1 o2 m1 m2, leaves_bits (op := opN) jAndNot_bits rfl o1 o2 m1 m2, leaves_bits (op := opA) jAnd_bits rfl o1 o2 m1 m2]
      simp [relK]
    have HE := hide hE
    obtain ⟨wa, hwa⟩ : ∃ x, w.alloc (.cells #[.int .i64 (sz : Int), .slice a1 n1 c1] 26) = x := ⟨_, rfl⟩
    obtain ⟨wb, hwb⟩ : ∃ x, wa.alloc (.cells #[.int .i64 (sz : Int), .slice a2 n2 c2] 26) = x := ⟨_, rfl⟩
    obtain ⟨A0, hl1, hl2⟩ := enter2n hwa hwb h1 h2
    have tA := A0.t w.heap.size (.int .i64 sz) (.slice a1 n1 c1) (by simp)
    have K1 := rmay_any sz a1 n1 c1 x1 wb (A0.w a1 n1 c1 x1 (by simp))
    rw [m1] at K1
    have HM2 := hide m2
    have HA := hide A0
    have a0 := tA.c0
    have a1' := tA.c1
    have HQ1 := hide (show ∀ k, k < sz → k / 64 < n1 from fun k hk => by rw [← h1.len, MayS.len m1]; unfold nW; simp; omega)
    have HQ2 := hide (show ∀ k, k < sz → k / 64 < n2 from fun k hk => by rw [← h2.len, MayS.len m2]; unfold nW; simp; omega)
    unfold setV at K1 ⊢
    have HK1 := hide K1
    obtain ⟨V, hV⟩ : ∃ V, relV sz x1 sz x2 = V := ⟨_, rfl⟩
    rw [hV] at HE ⊢
    clear tA A0 h1 h2 K1 m1 m2 hE hV
    go_enter Try.func29, Try.ntmps29
    go_wp2_with fail
    refine (unhide HK1).mono ?_
    rintro _ wd ⟨rfl, hbd⟩
    have HA1 := hide ((unhide HA).step hbd)
    have tB := (unhide HA1).t wa.heap.size (.int .i64 sz) (.slice a2 n2 c2) (by simp)
    have K2 := rmay_any sz a2 n2 c2 x2 wd ((unhide HA1).w a2 n2 c2 x2 (by simp))
    rw [unhide HM2] at K2
    unfold setV at K2
    have HK2 := hide K2
    have b0 := tB.c0
    have b1 := tB.c1
    clear hbd HK1 HA a0 a1' K2 tB
    go_wp2_with fail
    refine (unhide HK2).mono ?_
    rintro _ w1 ⟨rfl, hb1⟩
    have HA2 := hide ((unhide HA1).step hb1)
    have e0 := ((unhide HA2).t w.heap.size (.int .i64 sz) (.slice a1 n1 c1) (by simp)).c0
    have e1 := ((unhide HA2).t wa.heap.size (.int .i64 sz) (.slice a2 n2 c2) (by simp)).c0
    clear hb1 HK2 HA1 b0 b1 hwa hwb
    go_wp2_with fail
    clear e0 e1
    go_loopw [10, 11, 12, 7, 8, 9] (fun i _ _ p q r wr => ∃ k : Nat, k ≤ sz ∧ i = .int .i64 k ∧ p = .bool (relK opX (hasB (gW x1)) (hasB (gW x2)) k) ∧ q = .bool (relK opN (hasB (gW x1)) (hasB (gW x2)) k) ∧ r = .bool (relK opA (hasB (gW x1)) (hasB (gW x2)) k) ∧ Facts w wr [fT wa.heap.size (.int .i64 sz) (.slice a2 n2 c2), fT w.heap.size (.int .i64 sz) (.slice a1 n1 c1), fW a1 n1 c1 x1, fW a2 n2 c2 x2]) (fun i _ _ _ _ _ _ => sz - (intOf i).toNat)
    case atStart => exact ⟨0, Nat.zero_le _, rfl, rfl, rfl, rfl, unhide HA2⟩
    case round =>
      obtain ⟨k, hk, rfl, rfl, rfl, rfl, hA3⟩ := hrel
      have HA3 := hide hA3
      have tA := hA3.t w.heap.size (.int .i64 sz) (.slice a1 n1 c1) (by simp)
      have e0 := tA.c0
      have e1 := tA.c1
      clear tA hA3
      by_cases hlt : k < sz
      · have hlt' : (k : Int) < (sz : Int) := by omega
        have K := in_any sz a1 n1 c1 x1 k wr ((unhide HA3).w a1 n1 c1 x1 (by simp)) (unhide HQ1 k hlt) (by omega)
        unfold setV at K
        have HX := hide (show hasB (gW x1) k = hasB (fun i => x1.getD i 0) k from rfl)
        generalize hasB (fun i => x1.getD i 0) k = v1 at *
        have HK := hide K
        have HN1 := hide (relK_succ opX (hasB (gW x1)) (hasB (gW x2)) k)
        have HN2 := hide (relK_succ opN (hasB (gW x1)) (hasB (gW x2)) k)
        have HN3 := hide (relK_succ opA (hasB (gW x1)) (hasB (gW x2)) k)
        generalize relK opX (hasB (gW x1)) (hasB (gW x2)) k = p at *
        generalize relK opN (hasB (gW x1)) (hasB (gW x2)) k = q at *
        generalize relK opA (hasB (gW x1)) (hasB (gW x2)) k = r at *
        clear K
        go_wp2_with fail
        refine (unhide HK).mono ?_
        rintro _ w2 ⟨rfl, hb2⟩
        have HA4 := hide ((unhide HA3).step hb2)
        have tB := (unhide HA4).t wa.heap.size (.int .i64 sz) (.slice a2 n2 c2) (by simp)
        have g0 := tB.c0
        have g1 := tB.c1
        have K := in_any sz a2 n2 c2 x2 k w2 ((unhide HA4).w a2 n2 c2 x2 (by simp)) (unhide HQ2 k hlt) (by omega)
        unfold setV at K
        have HY := hide (show hasB (gW x2) k = hasB (fun i => x2.getD i 0) k from rfl)
        generalize hasB (fun i => x2.getD i 0) k = v2 at *
        have HK2 := hide K
        clear K tB hb2 HK e0 e1
        go_wp2_with fail
        refine (unhide HK2).mono ?_
        rintro _ w3 ⟨rfl, hb3⟩
        have HA5 := hide ((unhide HA4).step hb3)
        have HF := hide (fun (p' q' r' : Bool) (h1 : p' = (p && !opX v1 v2)) (h2 : q' = (q && !opN v1 v2)) (h3 : r' = (r && !opA v1 v2)) => show relK opX (hasB (gW x1)) (hasB (gW x2)) (k + 1) = p' ∧ relK opN (hasB (gW x1)) (hasB (gW x2)) (k + 1) = q' ∧ relK opA (hasB (gW x1)) (hasB (gW x2)) (k + 1) = r' from by
          rw [h1, h2, h3, unhide HN1, unhide HN2, unhide HN3, unhide HX, unhide HY]; exact ⟨rfl, rfl, rfl⟩)
        clear hb3 HK2 g0 g1 HA4 HN1 HN2 HN3 HX HY
        cases v1 <;> cases v2 <;> cases p <;> cases q <;> cases r
        all_goals
          go_wp2_with fail
          refine ⟨⟨k + 1, by omega, by go_num, ?_, ?_, ?_, unhide HA5⟩, by simp [intOf]; omega⟩
          · rw [(unhide HF _ _ _ rfl rfl rfl).1]; rfl
          · rw [(unhide HF _ _ _ rfl rfl rfl).2.1]; rfl
          · rw [(unhide HF _ _ _ rfl rfl rfl).2.2]; rfl
      · have hlt' : ¬ (k : Int) < (sz : Int) := by omega
        have hkn : k = sz := by omega
        subst hkn
        generalize relK opX (hasB (gW x1)) (hasB (gW x2)) k = p at *
        generalize relK opN (hasB (gW x1)) (hasB (gW x2)) k = q at *
        generalize relK opA (hasB (gW x1)) (hasB (gW x2)) k = r at *
        go_wp2_with fail
        go_ret3
        rw [unhide HE]
        exact ⟨rfl, (unhide HA3).bel⟩
  · have hE : relV s1 x1 s2 x2 = .tuple #[.bool false, .bool false, .bool false] := by
      unfold relV
      rw [leaves_no (fun m1 m2 e => hz ⟨m1, m2, e⟩), leaves_no (fun m1 m2 e => hz ⟨m1, m2, e⟩), leaves_no (fun m1 m2 e => hz ⟨m1, m2, e⟩)]
    rw [hE]
    exact related_no s1 a1 n1 c1 x1 s2 a2 n2 c2 x2 w h1 h2 hz
end Go.Proofs.Ytbendkndnojihab
