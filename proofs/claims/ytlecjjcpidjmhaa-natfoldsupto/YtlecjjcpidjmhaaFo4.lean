/-
  natural.addAll, natural.Sum: contracts.
-/
import Derived.Test.YtlecjjcpidjmhaaFo3
namespace Go.Proofs.Ytlecjjcpidjmhaa
open Go.RowKit Go.Deep
set_option linter.unusedVariables false

theorem sum_bound {w : World} {a : Option Addr} {n c : Nat} {ps : List Pc} (h : SlL w a n c ps) {g : Nat} (hg : ∀ j p, j < n → ps[j]? = some p → p.n ≤ g) : ∀ i, i ≤ n → sumV (ps.take i) ≤ i * 4294967296 ^ g
  | 0, _ => by simp [sumV]
  | i + 1, hi => by
    have ih := sum_bound h hg i (by omega)
    obtain ⟨b, off, p, e, hp, hc, hs, ok⟩ := h.at' (show i < n by omega)
    rw [sumV_take hp, Nat.succ_mul]
    have h1 := val_lt ok
    rw [hs.len] at h1
    have h2 : 4294967296 ^ p.n ≤ 4294967296 ^ g := pow_mono (hg i p (by omega) hp)
    omega

/-- What a round of addAll leaves. -/
structure AaR (wr w : World) (M : Nat) (ps : List Pc) (i : Nat) (f : Nat → Nat) : Prop where
  fn : Fn wr w.heap.size 0 M f
  ok : ∀ i, i < M → f i < 4294967296
  val : valF f M = sumV (ps.take i)
  bel : Below w.heap.size w wr

theorem sum_small {n i g M S : Nat} (hn : n ≤ 140737488355328) (hi : i ≤ n) (hM : g + 2 = M) (h : S ≤ i * 4294967296 ^ g) : S < 4294967296 ^ M := by
  rw [← hM, Nat.pow_add]
  have h1 : i * 4294967296 ^ g ≤ 140737488355328 * 4294967296 ^ g := Nat.mul_le_mul_right _ (by omega)
  have h2 : 0 < 4294967296 ^ g := Nat.pow_pos (by decide)
  have h3 : (4294967296:Nat) ^ 2 = 18446744073709551616 := by decide
  rw [h3]
  generalize 4294967296 ^ g = Y at *
  omega

set_option maxHeartbeats 4000000 in
/-- natural.addAll. -/
theorem naddAll_any (a : Option Addr) (n c : Nat) (ps : List Pc) (w : World) (h : SlL w a n c ps) (hn : n ≤ 140737488355328) (hm : mayB ps = true) :
    Calls Try.prog 53 #[.slice a n c] w fun e w' => NewRep w w' (sumV ps) e := by
  have H := hide h
  have HL := hide h.len
  have HM := hide hm
  clear h hm
  go_enter Try.func53, Try.ntmps53
  go_wp2_with fail
  go_loop [3, 9] (fun gv iv => ∃ i g : Nat, i ≤ n ∧ g ≤ 2048 ∧ gv = .int .i64 (g : Nat) ∧ iv = .int .i64 (i : Nat) ∧ Hid (∀ j p, j < i → ps[j]? = some p → p.n ≤ g)) (fun _ iv => n - (intOf iv).toNat)
  case atStart => exact ⟨0, 0, Nat.zero_le _, Nat.zero_le _, rfl, rfl, fun j p hj => by omega⟩
  case round =>
    obtain ⟨i, g, hi, hg, rfl, rfl, HA⟩ := hrel
    by_cases hlt : i < n
    · have hlt' : (i:Int) < (n:Int) := by omega
      obtain ⟨b, off, p, rfl, hp, hc, hs, ok⟩ := (unhide H).at' hlt
      have hmp := mayB_get (unhide HM) hp
      have hl := hs.len
      have hml := MayL.len hmp
      have hpn : p.n ≤ 2048 := by omega
      have HP := hide hp
      clear hp hs ok hmp hl hml
      by_cases hgl : g < p.n
      · have HA2 := hide (show ∀ j q, j < i + 1 → ps[j]? = some q → q.n ≤ p.n from fun j q hj hq => by
          by_cases e : j = i
          · subst e
            rw [unhide HP] at hq
            cases hq
            exact Nat.le_refl _
          · have := unhide HA j q (by omega) hq; omega)
        have g1 : (g:Int) < (p.n:Int) := by omega
        have g2 : max (g:Int) (p.n:Int) = (p.n:Int) := by omega
        clear HA HP
        go_wp2_with fail
        exact ⟨⟨i + 1, p.n, by omega, hpn, by simp, by go_num, unhide HA2⟩, by simp [intOf]; omega⟩
      · have HA2 := hide (show ∀ j q, j < i + 1 → ps[j]? = some q → q.n ≤ g from fun j q hj hq => by
          by_cases e : j = i
          · subst e
            rw [unhide HP] at hq
            cases hq
            omega
          · exact unhide HA j q (by omega) hq)
        have g1 : ¬ (g:Int) < (p.n:Int) := by omega
        have g2 : max (g:Int) (p.n:Int) = (g:Int) := by omega
        clear HA HP
        go_wp2_with fail
        exact ⟨⟨i + 1, g, by omega, hg, by simp, by go_num, unhide HA2⟩, by simp [intOf]; omega⟩
    · obtain rfl : i = n := by omega
      have hlt' : ¬ (i:Int) < (i:Int) := by omega
      obtain ⟨n, rfl⟩ : ∃ n, n = i := ⟨i, rfl⟩
      obtain ⟨M, hM⟩ : ∃ M, g + 2 = M := ⟨_, rfl⟩
      have hM1 : (g:Int) + 2 = (M:Int) := by omega
      have hmk := make_len M (by omega)
      have HF := hide (Fn.made w M 77)
      have HB := hide ((Below.refl w.heap.size w).alloc (Nat.le_refl _) (.cells (madeCells #[.int .u32 0] M) 77))
      have HMe := hide hM
      clear hM
      go_wp2_with fail
      go_loopw [25] (fun iv wr => ∃ (i : Nat) (f : Nat → Nat), i ≤ n ∧ iv = .int .i64 (i : Nat) ∧ AaR wr w M ps i f) (fun iv _ => n - (intOf iv).toNat)
      case atStart => exact ⟨0, _, Nat.zero_le _, rfl, unhide HF, fun i hi => by simp, by rw [valF_zero]; simp [sumV], unhide HB⟩
      case round =>
        clear HF HB
        obtain ⟨i, f, hi, rfl, hR⟩ := hrel
        by_cases hlt : i < n
        · have hlt' : (i:Int) < (n:Int) := by omega
          obtain ⟨b, off, p, rfl, hp, hc, hs, ok⟩ := ((unhide H).below hR.bel).at' hlt
          have hpg := unhide HA i p hlt hp
          obtain ⟨b', off', p', e', hp', hc', hs', ok'⟩ := (unhide H).at' hlt
          rw [hp] at hp'
          cases hp'
          have KA := addTo_any w.heap.size 0 M M p.n p.c p.a f p.xs wr hs (fun x hx hne => by have := hs'.block_lt hne x hx; omega) (by have := unhide HMe; omega) (by unfold maxLen; have := unhide HMe; omega) ok hR.ok hR.fn
          have hsm := sum_small (i := i + 1) hn (by omega) (unhide HMe) (sum_bound (unhide H) (unhide HA) (i + 1) (by omega))
          have KA' := hide KA
          have HS := hide (And.intro hsm (And.intro hR.val (And.intro hR.bel (sumV_take hp))))
          clear KA hR hp hs ok hs' ok' hc' e' hsm hpg
          go_wp2_with fail
          refine (unhide KA').mono ?_
          rintro _ w2 ⟨f2, c2, rfl, hc2, fn2, ok2, v2, u2⟩
          have hh := unhide HS
          have hc0 : c2 = 0 := by
            rw [hh.2.1, ← hh.2.2.2] at v2
            rcases Nat.eq_zero_or_pos c2 with e | e
            · exact e
            · exfalso
              have : 4294967296 ^ M * 1 ≤ 4294967296 ^ M * c2 := Nat.mul_le_mul_left _ e
              have := hh.1
              omega
          subst hc0
          rw [hh.2.1, ← hh.2.2.2, Nat.mul_zero, Nat.add_zero] at v2
          have HN := hide (show AaR w2 w M ps (i + 1) f2 from ⟨fn2, ok2, v2, hh.2.2.1.trans (u2.below (Nat.le_refl _) hh.2.2.1.size)⟩)
          clear fn2 ok2 v2 u2 hh HS KA' hc2
          go_wp2_with fail
          exact ⟨⟨i + 1, f2, by omega, by go_num, unhide HN⟩, by simp [intOf]; omega⟩
        · obtain rfl : i = n := by omega
          have hlt' : ¬ (i:Int) < (i:Int) := by omega
          have hv := hR.val
          rw [List.take_of_length_le (by rw [unhide HL]; exact Nat.le_refl _)] at hv
          have KT := trim_any (some ⟨w.heap.size, 0, none⟩) M M (lst f M) wr (hR.fn.sl (Nat.le_refl _) (by unfold maxLen; have := unhide HMe; omega)) (lst_ok hR.ok)
          rw [lst_val, hv] at KT
          have KT' := hide KT
          have HB2 := hide hR.bel
          clear KT hR hv
          go_wp2_with fail
          refine (unhide KT').mono ?_
          rintro _ _ ⟨a', m', ys, rfl, hs, hr, ha, hw⟩
          obtain rfl := hw.symm
          have HX := hide (And.intro hs (And.intro hr ha))
          clear hs hr ha hw KT'
          go_wp2_with fail
          go_ret
          refine ⟨a', m', ys, rfl, (unhide HX).1, (unhide HX).2.1, fun x hx => ?_, unhide HB2⟩
          rcases (unhide HX).2.2 with e | e
          · rw [e] at hx; cases hx; exact Nat.le_refl _
          · rw [e] at hx; cases hx

set_option maxHeartbeats 4000000 in
/-- natural.Sum. -/
theorem nsum_any (a : Option Addr) (n c : Nat) (ps : List Pc) (w : World) (h : SlL w a n c ps) (hn : n ≤ 140737488355328) :
    Calls Try.prog 22 #[.slice a n c] w fun e w' => Res2 w w' (sumL ps) e := by
  have KA := nmayAll_any a n c ps w h hn
  cases hm : mayB ps
  · rw [hm] at KA
    have KA' := hide KA
    have HR := hide (show sumL ps = ([], 20) from by unfold sumL; rw [hm]; rfl)
    clear KA hm h
    go_enter Try.func22, Try.ntmps22
    go_wp2_with fail
    refine (unhide KA').mono ?_
    rintro _ _ ⟨rfl, hw⟩
    obtain rfl := hw.symm
    clear hw
    go_wp2_with fail
    go_ret2
    rw [unhide HR]
    exact ⟨none, 0, 0, rfl, sl_nil _, newAt_nil _, Below.refl _ _⟩
  · rw [hm] at KA
    have KA' := hide KA
    have HR := hide (show sumL ps = fitL (sumV ps) from by unfold sumL; rw [if_pos hm])
    have KS := hide (naddAll_any a n c ps w h hn hm)
    clear KA hm h
    go_enter Try.func22, Try.ntmps22
    go_wp2_with fail
    refine (unhide KA').mono ?_
    rintro _ _ ⟨rfl, hw⟩
    obtain rfl := hw.symm
    clear hw
    go_wp2_with fail
    refine (unhide KS).mono ?_
    rintro _ w1 ⟨a1, m1, y1, rfl, s1, r1, n1, b1⟩
    have KF := hide (fit_any a1 m1 m1 (sumV ps) y1 w1 s1 r1)
    have H1 := hide (And.intro n1 b1)
    clear s1 r1 n1 b1 KS
    go_wp2_with fail
    refine (unhide KF).mono ?_
    rintro _ _ ⟨a2, m2, c2, rfl, s2, ha2, hw⟩
    obtain rfl := hw.symm
    have H2 := hide (And.intro s2 ha2)
    clear s2 ha2 hw KF
    go_wp2_with fail
    go_ret2
    rw [unhide HR]
    refine ⟨a2, m2, c2, rfl, (unhide H2).1, fun x hx => ?_, (unhide H1).2⟩
    rcases (unhide H2).2 with e | e
    · rw [e] at hx; exact (unhide H1).1 x hx
    · rw [e] at hx; cases hx
end Go.Proofs.Ytlecjjcpidjmhaa
