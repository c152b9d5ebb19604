/-
  What NatEuclid needs besides.
-/
import Derived.Test.YtlecjjcpidjmhaaDoorGi
import Derived.Test.YtlecjjcpidjmhaaDoorRng3
namespace Go.Proofs.YtlecjjcpidjmhaaDoor
open Go.RowKit Go.Deep
set_option linter.unusedVariables false

theorem PSt.gcd {w w0 : World} {L : List Pc} (h : PSt w w0 L) (hT : Tab64 w0) (p q : Pc) (hp : p ∈ L) (hq : q ∈ L) (o1 : Ok p.xs) (o2 : Ok q.xs) (r : List Nat × Int) (he : gcdL p.xs q.xs = r) :
    Calls Tryd.prog 7 #[.slice p.a p.n p.c, .slice q.a q.n q.c] w fun e w' => ∃ a m c, e = .returned (.tuple #[.slice a m c, .int .i64 r.2]) ∧ PSt w' w0 (⟨a, m, c, r.1⟩ :: L) := by
  subst he
  exact h.of2 (ngcd_any p.a q.a p.n p.c q.n q.c p.xs q.xs w (h.all p hp) (h.all q hq) o1 o2 (hT.below h.bel))

theorem gcdL_may {xs ys : List Nat} (m1 : MayL xs = true) (m2 : MayL ys = true) : gcdL xs ys = (limbs (Nat.gcd (val xs) (val ys)), 0) := by simp [gcdL, m1, m2]
theorem gcd_may {xs ys : List Nat} (m1 : MayL xs = true) (m2 : MayL ys = true) (ox : Ok xs) (oy : Ok ys) : MayL (limbs (Nat.gcd (val xs) (val ys))) = true := by
  rcases Nat.eq_zero_or_pos (val xs) with e | e
  · rw [e, Nat.gcd_zero_left]; exact may_small m2 oy (Nat.le_refl _)
  · exact may_small m1 ox (Nat.gcd_le_left _ e)

theorem lcm_fit {xs ys : List Nat} (m1 : MayL xs = true) (m2 : MayL ys = true) : lcmL xs ys = fitL (val xs / Nat.gcd (val xs) (val ys) * val ys) := by
  by_cases h : xs = [] ∨ ys = []
  · have e : val xs / Nat.gcd (val xs) (val ys) * val ys = 0 := by
      rcases h with h | h
      · rw [h]; simp [val]
      · rw [h]; simp [val]
    rw [e]
    unfold lcmL
    rw [m1, m2]
    simp [h]
    rfl
  · unfold lcmL
    rw [m1, m2]
    simp [h]

theorem gcd_lcm (a b : Nat) : Nat.gcd a b * (a / Nat.gcd a b * b) = a * b := by
  rw [← Nat.mul_assoc, Nat.mul_div_cancel' (Nat.gcd_dvd_left a b)]

/-- slopelaw1.calls.took, of a number that may be too big. -/
theorem RSt.tookFit {w w0 : World} {K : Nat} {bad wrong : Bool} {L : List Pc} {a : Option Addr} {m c v : Nat} (h : RSt w w0 K bad wrong (⟨a, m, c, fitN v⟩ :: L)) :
    Calls Tryd.prog 12 #[.pointer (some ⟨K, 0, none⟩), .slice a m c, .int .i64 (fitL v).2] w fun e w' => e = .returned (.slice a m c) ∧ RSt w' w0 K (bad || bigN v) wrong (⟨a, m, c, fitN v⟩ :: L) := by
  cases hb : bigN v
  · rw [fitL_zero hb, Bool.or_false]
    refine (took_ok K a m c _ w (h.sl ⟨a, m, c, fitN v⟩ (by simp)) (fitN_may v)).mono ?_
    rintro e w' ⟨rfl, rfl⟩
    exact ⟨rfl, h⟩
  · rw [fitL_two hb, Bool.or_true]
    refine (took_big K a m c bad w h.c0 h.f0).mono ?_
    rintro e w' ⟨rfl, rfl⟩
    exact ⟨rfl, h.setBad⟩

set_option maxHeartbeats 2000000 in
/-- slopelaw1.divides. -/
theorem PSt.divides {w w0 : World} {L : List Pc} (h : PSt w w0 L) (p q : Pc) (hp : p ∈ L) (hq : q ∈ L) (o1 : Ok p.xs) (o2 : Ok q.xs) (m1 : MayL p.xs = true) (m2 : MayL q.xs = true) (b : Bool) (hb : decide (val p.xs ∣ val q.xs) = b) :
    Calls Tryd.prog 10 #[.slice p.a p.n p.c, .slice q.a q.n q.c] w fun e w' => e = .returned (.bool b) ∧ PSt w' w0 L := by
  obtain ⟨pa, pn, pc, px⟩ := p
  obtain ⟨qa, qn, qc, qx⟩ := q
  simp only at *
  have sp := h.all _ hp
  have sq := h.all _ hq
  simp only at sp sq
  by_cases hz : px = []
  · have hn : pn = 0 := by rw [← sp.len, hz]; rfl
    subst hn
    have hd : b = decide (qn = 0) := by
      rw [← hb, hz]
      simp only [val, Nat.zero_dvd]
      by_cases hq0 : qx = []
      · have : qn = 0 := by rw [← sq.len, hq0]; rfl
        simp [hq0, this, val]
      · have h1 : 0 < val qx := val_pos_of_may m2 hq0
        have h2 : 0 < qn := by rw [← sq.len]; exact List.length_pos_iff.2 hq0
        rw [decide_eq_false (by omega), decide_eq_false (by omega)]
    have HS := hide h
    by_cases hq0 : qn = 0
    · subst hq0
      have hb2 : b = true := by rw [hd]; simp
      subst hb2
      clear h sp sq hd hb
      go_enter Tryd.func10, Tryd.ntmps10
      go_wp2
      go_ret
      exact ⟨rfl, unhide HS⟩
    · have hb2 : b = false := by rw [hd]; simp [hq0]
      have t1 : ((qn:Int) == 0) = false := by simp; omega
      have t2 : ¬ (qn:Int) = 0 := by omega
      subst hb2
      clear h sp sq hd hb
      go_enter Tryd.func10, Tryd.ntmps10
      go_wp2
      go_ret
      exact ⟨rfl, unhide HS⟩
  · have hn : 0 < pn := by rw [← sp.len]; exact List.length_pos_iff.2 hz
    have t1 : ((pn:Int) == 0) = false := by simp; omega
    have t2 : ¬ (pn:Int) = 0 := by omega
    have KD := hide (h.divmod ⟨qa, qn, qc, qx⟩ ⟨pa, pn, pc, px⟩ hq hp o2 o1 (limbs (val qx / val px), limbs (val qx % val px), 0) (by simp [divL, m1, m2, hz]))
    have hlen : (limbs (val qx % val px)).length = 0 ↔ b = true := by
      rw [← hb]
      simp only [decide_eq_true_eq]
      rw [Nat.dvd_iff_mod_eq_zero]
      constructor
      · intro e
        have h1 := (limbs_rep (val qx % val px)).val
        rw [List.eq_nil_of_length_eq_zero e] at h1
        simpa [val] using h1.symm
      · intro e; rw [e]; rfl
    have HL := hide hlen
    clear h sp sq hb hlen
    go_enter Tryd.func10, Tryd.ntmps10
    go_wp2_with fail
    refine (unhide KD).mono ?_
    rintro e w1 ⟨a', m', c', b', n', d', rfl, hst⟩
    try simp only at hst
    have hl := (hst.all ⟨b', n', d', limbs (val qx % val px)⟩ (by simp)).len
    try simp only at hl
    have hB := unhide HL
    rw [hl] at hB
    have HS := hide (show PSt w1 w0 L from ⟨hst.bel, fun p hp => hst.all p (by simp [hp])⟩)
    clear hst hl KD HL
    go_wp2_with fail
    refine (num_any _ _).mono ?_
    rintro e w' ⟨rfl, hw⟩
    obtain rfl := hw.symm
    clear hw
    cases b
    · have hn0 : ¬ n' = 0 := fun e => by have := hB.1 e; cases this
      have t3 : ((n':Int) == 0) = false := by simp; omega
      have t4 : ¬ (n':Int) = 0 := by omega
      clear hB
      go_wp2
      go_ret
      exact ⟨rfl, unhide HS⟩
    · have hn0 : n' = 0 := hB.2 rfl
      subst hn0
      clear hB
      go_wp2
      go_ret
      exact ⟨rfl, unhide HS⟩
end Go.Proofs.YtlecjjcpidjmhaaDoor
