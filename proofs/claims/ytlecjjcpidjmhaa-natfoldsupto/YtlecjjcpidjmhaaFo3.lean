/-
  sloperef1.Sum, natural.Sum: contracts.
-/
import Derived.Test.YtlecjjcpidjmhaaFo2
namespace Go.Proofs.Ytlecjjcpidjmhaa
open Go.RowKit Go.Deep
set_option linter.unusedVariables false

def sumV : List Pc → Nat
  | [] => 0
  | p :: ps => val p.xs + sumV ps
def sumL (ps : List Pc) : List Nat × Int := if mayB ps = true then fitL (sumV ps) else ([], 20)
theorem sumV_append (xs ys : List Pc) : sumV (xs ++ ys) = sumV xs + sumV ys := by
  induction xs with
  | nil => simp [sumV]
  | cons p xs ih => simp only [List.cons_append, sumV, ih]; omega
theorem sumV_take {ps : List Pc} {i : Nat} {p : Pc} (h : ps[i]? = some p) : sumV (ps.take (i + 1)) = sumV (ps.take i) + val p.xs := by
  obtain ⟨hi, e⟩ := List.getElem?_eq_some_iff.1 h
  rw [List.take_succ_eq_append_getElem hi, sumV_append, e]
  simp [sumV]
theorem sumV_le (ps : List Pc) (i : Nat) : sumV (ps.take i) ≤ sumV ps := by
  have h := sumV_append (ps.take i) (ps.drop i)
  rw [List.take_append_drop] at h
  omega
theorem limbs_len_monoF {v u : Nat} (h : v ≤ u) : (limbs v).length ≤ (limbs u).length := by
  have h1 := val_lt (limbs_rep u).ok
  rw [(limbs_rep u).val] at h1
  refine rep_len_le (limbs_rep v) (by omega)
theorem add_may {Z : Nat} {xs : List Nat} (hl : (limbs Z).length ≤ 2048) (hm : MayL xs = true) : addL (limbs Z) xs = fitL (Z + val xs) := by
  unfold addL
  rw [show MayL (limbs Z) = true from MayL.mk (limbs_rep _).norm hl, hm, (limbs_rep Z).val]
  rfl

/-- What a round of Sum leaves. -/
structure SmR (wr w : World) (ps : List Pc) (i : Nat) (a : Option Addr) (m c : Nat) : Prop where
  sl : Sl wr a m c (limbs (sumV (ps.take i)))
  new : NewAt w.heap.size a
  le : (limbs (sumV (ps.take i))).length ≤ 2048
  bel : Below w.heap.size w wr

set_option maxHeartbeats 4000000 in
/-- sloperef1.Sum. -/
theorem rsum_any (a : Option Addr) (n c : Nat) (ps : List Pc) (w : World) (h : SlL w a n c ps) (hn : n ≤ 140737488355328) :
    Calls Try.prog 23 #[.slice a n c] w fun e w' => Res2 w w' (sumL ps) e := by
  have H := hide h
  have HL := hide h.len
  clear h
  go_enter Try.func23, Try.ntmps23
  go_wp2_with fail
  go_loop [4] (fun iv => ∃ i : Nat, i ≤ n ∧ iv = .int .i64 (i : Nat) ∧ Hid (∀ j p, j < i → ps[j]? = some p → MayL p.xs = true)) (fun iv => n - (intOf iv).toNat)
  case atStart => exact ⟨0, Nat.zero_le _, rfl, fun j p hj => by omega⟩
  case round =>
    obtain ⟨i, hi, rfl, HA⟩ := hrel
    by_cases hlt : i < n
    · have hlt' : (i:Int) < (n:Int) := by omega
      obtain ⟨b, off, p, rfl, hp, hc, hs, ok⟩ := (unhide H).at' hlt
      have KM := rmay_any p.a p.n p.c p.xs w hs
      have HP := hide hp
      clear hp hs ok
      cases hm : MayL p.xs
      · rw [hm] at KM
        have KM' := hide KM
        have HF := hide (mayB_false (unhide HP) hm)
        clear KM hm
        go_wp2_with fail
        refine (unhide KM').mono ?_
        rintro _ _ ⟨rfl, hw⟩
        obtain rfl := hw.symm
        clear hw
        go_wp2_with fail
        go_ret2
        rw [show sumL ps = ([], 20) from by unfold sumL; rw [unhide HF]; rfl]
        exact ⟨none, 0, 0, rfl, sl_nil _, newAt_nil _, Below.refl _ _⟩
      · rw [hm] at KM
        have KM' := hide KM
        have HA2 := hide (show ∀ j q, j < i + 1 → ps[j]? = some q → MayL q.xs = true from fun j q hj hq => by
          by_cases e : j = i
          · subst e
            rw [unhide HP] at hq
            cases hq
            exact hm
          · exact unhide HA j q (by omega) hq)
        clear KM hm HA
        go_wp2_with fail
        refine (unhide KM').mono ?_
        rintro _ _ ⟨rfl, hw⟩
        obtain rfl := hw.symm
        clear hw
        go_wp2_with fail
        exact ⟨⟨i + 1, by omega, by go_num, unhide HA2⟩, by simp [intOf]; omega⟩
    · obtain rfl : i = n := by omega
      have hlt' : ¬ (i:Int) < (i:Int) := by omega
      have hm := mayB_true (unhide HL) (unhide HA)
      have HM := hide hm
      have HR := hide (show sumL ps = fitL (sumV ps) from by unfold sumL; rw [if_pos hm])
      clear HA hm
      obtain ⟨n, rfl⟩ : ∃ n, n = i := ⟨i, rfl⟩
      go_wp2_with fail
      go_loopw [5, 7] (fun zv iv wr => ∃ (i : Nat) (az : Option Addr) (mz cz : Nat), i ≤ n ∧ iv = .int .i64 (i : Nat) ∧ zv = .slice az mz cz ∧ SmR wr w ps i az mz cz) (fun _ iv _ => n - (intOf iv).toNat)
      case atStart => exact ⟨0, none, 0, 0, Nat.zero_le _, rfl, rfl, sl_nil _, newAt_nil _, by simp [sumV, limbs_zero], Below.refl _ _⟩
      case round =>
        obtain ⟨i, az, mz, cz, hi, rfl, rfl, hR⟩ := hrel
        by_cases hlt : i < n
        · have hlt' : (i:Int) < (n:Int) := by omega
          obtain ⟨b, off, p, rfl, hp, hc, hs, ok⟩ := ((unhide H).below hR.bel).at' hlt
          have hmp := mayB_get (unhide HM) hp
          have KM := radd_any az p.a mz cz p.n p.c _ p.xs wr hR.sl hs (limbs_rep _).ok ok
          rw [add_may hR.le hmp, ← sumV_take hp] at KM
          by_cases hbig : 2048 < (limbs (sumV (ps.take (i + 1)))).length
          · rw [fitL_big hbig] at KM
            have HE := hide (show fitL (sumV ps) = ([], 2) from fitL_big (by have := limbs_len_monoF (sumV_le ps (i + 1)); omega))
            have KM' := hide KM
            have HB := hide hR.bel
            clear KM hR hp hs ok hbig
            go_wp2_with fail
            refine (unhide KM').mono ?_
            rintro _ w2 ⟨a2, m2, c2, rfl, s2, n2, b2⟩
            have HB2 := hide ((unhide HB).trans (b2.mono (unhide HB).size))
            clear s2 n2 b2 KM' HB
            go_wp2_with fail
            go_ret2
            rw [unhide HR, unhide HE]
            exact ⟨none, 0, 0, rfl, sl_nil _, newAt_nil _, unhide HB2⟩
          · rw [fitL_ok hbig] at KM
            have HL2 := hide (show (limbs (sumV (ps.take (i + 1)))).length ≤ 2048 by omega)
            have KM' := hide KM
            have HB := hide hR.bel
            clear KM hR hp hs ok hbig
            go_wp2_with fail
            refine (unhide KM').mono ?_
            rintro _ w2 ⟨a2, m2, c2, rfl, s2, n2, b2⟩
            have HN := hide (show SmR w2 w ps (i + 1) a2 m2 c2 from ⟨s2, fun x hx => Nat.le_trans (unhide HB).size (n2 x hx), unhide HL2, (unhide HB).trans (b2.mono (unhide HB).size)⟩)
            clear s2 n2 b2 KM' HB
            go_wp2_with fail
            exact ⟨⟨i + 1, a2, m2, c2, by omega, by go_num, rfl, unhide HN⟩, by simp [intOf]; omega⟩
        · obtain rfl : i = n := by omega
          have hlt' : ¬ (i:Int) < (i:Int) := by omega
          have ht : ps.take i = ps := List.take_of_length_le (by rw [unhide HL]; exact Nat.le_refl _)
          have hS := hR.sl
          have hl := hR.le
          rw [ht] at hS hl
          have HE := hide (show fitL (sumV ps) = (limbs (sumV ps), 0) from fitL_ok (by omega))
          have HN := hide (And.intro hS (And.intro hR.new hR.bel))
          clear hR hS hl ht
          go_wp2_with fail
          go_ret2
          rw [unhide HR, unhide HE]
          exact ⟨az, mz, cz, rfl, (unhide HN).1, (unhide HN).2.1, (unhide HN).2.2⟩
end Go.Proofs.Ytlecjjcpidjmhaa
