/-
  sloperef1.Product, Sum; natural.Sum: contracts.
-/
import Derived.Test.YtlecjjcpidjmhaaFo1
import Derived.Test.YtlecjjcpidjmhaaAdd
import Derived.Test.YtlecjjcpidjmhaaRAdd
namespace Go.Proofs.Ytlecjjcpidjmhaa
open Go.RowKit Go.Deep
set_option linter.unusedVariables false

set_option maxHeartbeats 4000000 in
/-- sloperef1.Product. -/
theorem rprod_any (a : Option Addr) (n c : Nat) (ps : List Pc) (w : World) (h : SlL w a n c ps) (hn : n ≤ 140737488355328) :
    Calls Try.prog 25 #[.slice a n c] w fun e w' => Res2 w w' (prodL ps) e := by
  have H := hide h
  have HL := hide h.len
  clear h
  go_enter Try.func25, Try.ntmps25
  go_wp2_with fail
  go_loop [4] (fun iv => ∃ i : Nat, i ≤ n ∧ iv = .int .i64 (i : Nat) ∧ Hid (∀ j p, j < i → ps[j]? = some p → MayL p.xs = true)) (fun iv => n - (intOf iv).toNat)
  case atStart => exact ⟨0, Nat.zero_le _, rfl, fun j p hj => by omega⟩
  case round =>
    obtain ⟨i, hi, rfl, HA⟩ := hrel
    by_cases hlt : i < n
    · have hlt' : (i:Int) < (n:Int) := by omega
      obtain ⟨b, off, p, rfl, hp, hc, hs, ok⟩ := (unhide H).at' hlt
      have KM := rmay_any p.a p.n p.c p.xs w hs
      have HP := hide hp
      clear hp hs ok
      cases hm : MayL p.xs
      · rw [hm] at KM
        have KM' := hide KM
        have HF := hide (mayB_false (unhide HP) hm)
        clear KM hm
        go_wp2_with fail
        refine (unhide KM').mono ?_
        rintro _ _ ⟨rfl, hw⟩
        obtain rfl := hw.symm
        clear hw
        go_wp2_with fail
        go_ret2
        rw [show prodL ps = ([], 20) from by unfold prodL; rw [unhide HF]; rfl]
        exact ⟨none, 0, 0, rfl, sl_nil _, newAt_nil _, Below.refl _ _⟩
      · rw [hm] at KM
        have KM' := hide KM
        have HA2 := hide (show ∀ j q, j < i + 1 → ps[j]? = some q → MayL q.xs = true from fun j q hj hq => by
          by_cases e : j = i
          · subst e
            rw [unhide HP] at hq
            cases hq
            exact hm
          · exact unhide HA j q (by omega) hq)
        clear KM hm HA
        go_wp2_with fail
        refine (unhide KM').mono ?_
        rintro _ _ ⟨rfl, hw⟩
        obtain rfl := hw.symm
        clear hw
        go_wp2_with fail
        exact ⟨⟨i + 1, by omega, by go_num, unhide HA2⟩, by simp [intOf]; omega⟩
    · obtain rfl : i = n := by omega
      have hlt' : ¬ (i:Int) < (i:Int) := by omega
      have hm := mayB_true (unhide HL) (unhide HA)
      have HM := hide hm
      have HR := hide (show prodL ps = prodF 1 ps from by unfold prodL; rw [if_pos hm])
      clear HA hm
      obtain ⟨n, rfl⟩ : ∃ n, n = i := ⟨i, rfl⟩
      go_wp2_with fail
      refine (rfrom_any 1 w (by decide)).mono ?_
      rintro _ w1 ⟨a1, m1, y1, rfl, s1, r1, n1, b1⟩
      rw [r1.eq] at s1
      have H1 := hide (And.intro s1 (And.intro n1 b1))
      clear s1 r1 n1 b1
      go_wp2_with fail
      go_loopw [5, 7] (fun zv iv wr => ∃ (i Z : Nat) (az : Option Addr) (mz cz : Nat), i ≤ n ∧ iv = .int .i64 (i : Nat) ∧ zv = .slice az mz cz ∧ PdR wr w ps i Z az mz cz) (fun _ iv _ => n - (intOf iv).toNat)
      case atStart => exact ⟨0, 1, a1, m1, m1, Nat.zero_le _, rfl, rfl, (unhide H1).1, (unhide H1).2.1, by decide, by simp, (unhide H1).2.2⟩
      case round =>
        clear H1
        obtain ⟨i, Z, az, mz, cz, hi, rfl, rfl, hR⟩ := hrel
        by_cases hlt : i < n
        · have hlt' : (i:Int) < (n:Int) := by omega
          obtain ⟨b, off, p, rfl, hp, hc, hs, ok⟩ := ((unhide H).below hR.bel).at' hlt
          have hmp := mayB_get (unhide HM) hp
          have KM := rmul_any az p.a mz cz p.n p.c (limbs Z) p.xs wr hR.sl hs (limbs_rep Z).ok ok
          rw [mul_may hR.le hmp] at KM
          have hd := drop_at hp
          have heq := hR.eq
          rw [hd] at heq
          by_cases hbig : 2048 < (limbs (Z * val p.xs)).length
          · rw [fitL_big hbig] at KM
            have HE := hide (show prodF 1 ps = ([], 2) from by rw [heq]; simp [prodF, hbig])
            have KM' := hide KM
            have HB := hide hR.bel
            clear KM hR hp hs ok hd heq hbig
            go_wp2_with fail
            refine (unhide KM').mono ?_
            rintro _ w2 ⟨a2, m2, c2, rfl, s2, n2, b2⟩
            have HB2 := hide ((unhide HB).trans (b2.mono (unhide HB).size))
            clear s2 n2 b2 KM' HB
            go_wp2_with fail
            go_ret2
            rw [unhide HR, unhide HE]
            exact ⟨none, 0, 0, rfl, sl_nil _, newAt_nil _, unhide HB2⟩
          · rw [fitL_ok hbig] at KM
            have HE := hide (show prodF 1 ps = prodF (Z * val p.xs) (ps.drop (i + 1)) from by rw [heq]; simp [prodF, hbig])
            have hle2 : (limbs (Z * val p.xs)).length ≤ 2048 := by omega
            have HL2 := hide hle2
            have KM' := hide KM
            have HB := hide hR.bel
            clear KM hR hp hs ok hd heq hbig hle2
            generalize Z * val p.xs = Z' at *
            go_wp2_with fail
            refine (unhide KM').mono ?_
            rintro _ w2 ⟨a2, m2, c2, rfl, s2, n2, b2⟩
            have HN := hide (show PdR w2 w ps (i + 1) Z' a2 m2 c2 from ⟨s2, fun x hx => Nat.le_trans (unhide HB).size (n2 x hx), unhide HL2, unhide HE, (unhide HB).trans (b2.mono (unhide HB).size)⟩)
            clear s2 n2 b2 KM' HB
            go_wp2_with fail
            exact ⟨⟨i + 1, Z', a2, m2, c2, by omega, by go_num, rfl, unhide HN⟩, by simp [intOf]; omega⟩
        · obtain rfl : i = n := by omega
          have hlt' : ¬ (i:Int) < (i:Int) := by omega
          have heq := hR.eq
          rw [List.drop_eq_nil_of_le (by rw [unhide HL]; exact Nat.le_refl _)] at heq
          have HE := hide (show prodF 1 ps = (limbs Z, 0) from heq)
          have HN := hide hR
          clear hR heq
          go_wp2_with fail
          go_ret2
          rw [unhide HR, unhide HE]
          exact ⟨az, mz, cz, rfl, (unhide HN).sl, (unhide HN).new, (unhide HN).bel⟩
end Go.Proofs.Ytlecjjcpidjmhaa
