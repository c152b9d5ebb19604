/-
  slopelaw1.calls: took, add, mul; may: contracts.
-/
import Derived.Test.YtpnhmaenmmelnaaKarM
import Derived.Test.YtpnhmaenmmelnaaAlive
namespace Go.Proofs.Ytpnhmaenmmelnaa
open Go.RowKit Go.Deep
set_option linter.unusedVariables false

theorem rep_one : Rep 1 [1] := ⟨Ok.cons (by decide) Ok.nil, .inr (by decide), by simp [val]⟩

def fitN (v : Nat) : List Nat := (fitL v).1
def bigN (v : Nat) : Bool := decide (2048 < (limbs v).length)

theorem fitN_ok {v : Nat} (h : bigN v = false) : fitN v = limbs v := by
  unfold fitN
  rw [fitL_ok (by simpa [bigN] using h)]
theorem fitN_big {v : Nat} (h : bigN v = true) : fitN v = [] := by
  unfold fitN
  rw [fitL_big (by simpa [bigN] using h)]
theorem fitL_two {v : Nat} (h : bigN v = true) : fitL v = (fitN v, 2) := by
  rw [fitN_big h, fitL_big (by simpa [bigN] using h)]
theorem fitL_zero {v : Nat} (h : bigN v = false) : fitL v = (fitN v, 0) := by
  rw [fitN_ok h, fitL_ok (by simpa [bigN] using h)]
theorem fitN_may (v : Nat) : MayL (fitN v) = true := by
  cases h : bigN v
  · rw [fitN_ok h]
    refine MayL.mk (limbs_rep v).norm ?_
    simp [bigN] at h
    omega
  · rw [fitN_big h]; decide
theorem fitN_isOk (v : Nat) : Ok (fitN v) := by
  cases h : bigN v
  · rw [fitN_ok h]; exact (limbs_rep v).ok
  · rw [fitN_big h]; exact Ok.nil
theorem fitN_val {v : Nat} (h : bigN v = false) : val (fitN v) = v := by rw [fitN_ok h]; exact (limbs_rep v).val
theorem addL_may {xs ys : List Nat} (m1 : MayL xs = true) (m2 : MayL ys = true) : addL xs ys = fitL (val xs + val ys) := by simp [addL, m1, m2]
theorem mulL_may {xs ys : List Nat} (m1 : MayL xs = true) (m2 : MayL ys = true) : mulL xs ys = fitL (val xs * val ys) := by simp [mulL, m1, m2]
theorem limbs_self {xs : List Nat} (m : MayL xs = true) (ok : Ok xs) : limbs (val xs) = xs := ((limbs_rep (val xs)).unique ⟨ok, MayL.norm m, rfl⟩)
theorem big_self {xs : List Nat} (m : MayL xs = true) (ok : Ok xs) : bigN (val xs) = false := by
  have := MayL.len m
  simp [bigN, limbs_self m ok]
  omega
theorem fitN_self {xs : List Nat} (m : MayL xs = true) (ok : Ok xs) : fitN (val xs) = xs := by
  rw [fitN_ok (big_self m ok), limbs_self m ok]

set_option maxHeartbeats 1000000 in
theorem took_big (K : Nat) (a : Option Addr) (m c : Nat) (bad : Bool) (w : World) (c0 : w.cell? ⟨K, 0, none⟩ = some (.bool bad)) (f0 : w.frozen? ⟨K, 0, none⟩ = false) :
    Calls Try.prog 32 #[.pointer (some ⟨K, 0, none⟩), .slice a m c, .int .i64 2] w fun e w' => e = .returned (.slice a m c) ∧ w' = w.setCell ⟨K, 0, none⟩ (.bool true) := by
  have KN := hide (num_any 2 w)
  go_enter Try.func32, Try.ntmps32
  go_wp2_with fail
  refine (unhide KN).mono ?_
  rintro e w' ⟨rfl, hw⟩
  obtain rfl := hw.symm
  go_wp2
  go_ret
  exact ⟨rfl, rfl⟩

set_option maxHeartbeats 1000000 in
theorem took_ok (K : Nat) (a : Option Addr) (m c : Nat) (xs : List Nat) (w : World) (h : Sl w a m c xs) (hm : MayL xs = true) :
    Calls Try.prog 32 #[.pointer (some ⟨K, 0, none⟩), .slice a m c, .int .i64 0] w fun e w' => e = .returned (.slice a m c) ∧ w' = w := by
  have KN := hide (num_any 0 w)
  have KM := may_any a m c xs w h
  rw [hm] at KM
  have KM' := hide KM
  clear KM h hm
  go_enter Try.func32, Try.ntmps32
  go_wp2_with fail
  refine (unhide KN).mono ?_
  rintro e w' ⟨rfl, hw⟩
  obtain rfl := hw.symm
  go_wp2_with fail
  refine (unhide KN).mono ?_
  rintro e w' ⟨rfl, hw⟩
  obtain rfl := hw.symm
  go_wp2_with fail
  refine (unhide KM').mono ?_
  rintro e w' ⟨rfl, hw⟩
  obtain rfl := hw.symm
  go_wp2
  go_ret
  exact ⟨rfl, rfl⟩

/-- What a law carries from call to call: every list so far. -/
structure PSt (w w0 : World) (L : List Pc) : Prop where
  bel : Below w0.heap.size w0 w
  all : ∀ p ∈ L, Sl w p.a p.n p.c p.xs

/-- And the two flags. -/
structure RSt (w w0 : World) (K : Nat) (bad wrong : Bool) (L : List Pc) : Prop where
  bel : Below w0.heap.size w0 w
  base : w0.heap.size ≤ K
  lt : K < w.heap.size
  c0 : w.cell? ⟨K, 0, none⟩ = some (.bool bad)
  c1 : w.cell? ⟨K, 1, none⟩ = some (.bool wrong)
  f0 : w.frozen? ⟨K, 0, none⟩ = false
  f1 : w.frozen? ⟨K, 1, none⟩ = false
  all : ∀ p ∈ L, Sl w p.a p.n p.c p.xs ∧ ∀ x, p.a = some x → p.xs ≠ [] → x.block ≠ K

theorem PSt.keep {w w' w0 : World} {L : List Pc} (h : PSt w w0 L) (k : Below w.heap.size w w') : PSt w' w0 L :=
  ⟨h.bel.trans (k.mono h.bel.size), fun p hp => (h.all p hp).below k⟩
theorem PSt.res {w w' w0 : World} {L : List Pc} (h : PSt w w0 L) (k : Below w.heap.size w w') {a : Option Addr} {m c : Nat} {ys : List Nat} (hs : Sl w' a m c ys) : PSt w' w0 (⟨a, m, c, ys⟩ :: L) :=
  ⟨h.bel.trans (k.mono h.bel.size), fun p hp => by rcases List.mem_cons.1 hp with rfl | hp; exact hs; exact (h.all p hp).below k⟩
theorem RSt.keep {w w' w0 : World} {K : Nat} {bad wrong : Bool} {L : List Pc} (h : RSt w w0 K bad wrong L) (k : Below w.heap.size w w') : RSt w' w0 K bad wrong L :=
  ⟨h.bel.trans (k.mono h.bel.size), h.base, Nat.lt_of_lt_of_le h.lt k.size, (k.cell h.lt).trans h.c0, (k.cell h.lt).trans h.c1, (k.frozen h.lt).trans h.f0, (k.frozen h.lt).trans h.f1, fun p hp => ⟨(h.all p hp).1.below k, (h.all p hp).2⟩⟩
theorem RSt.drewN {w w0 : World} {K : Nat} {bad wrong : Bool} {L : List Pc} (h : RSt w w0 K bad wrong L) (k : Nat) : RSt (w.drewN k) w0 K bad wrong L := h.keep (bel_drewN (Below.refl _ _) k)
theorem RSt.p {w w0 : World} {K : Nat} {bad wrong : Bool} {L : List Pc} (h : RSt w w0 K bad wrong L) : PSt w w0 L := ⟨h.bel, fun p hp => (h.all p hp).1⟩
theorem RSt.sl {w w0 : World} {K : Nat} {bad wrong : Bool} {L : List Pc} (h : RSt w w0 K bad wrong L) (p : Pc) (hp : p ∈ L) : Sl w p.a p.n p.c p.xs := (h.all p hp).1
theorem RSt.res {w w' w0 : World} {K : Nat} {bad wrong : Bool} {L : List Pc} (h : RSt w w0 K bad wrong L) (k : Below w.heap.size w w') {a : Option Addr} {m c : Nat} {ys : List Nat} (hs : Sl w' a m c ys) (hn : NewAt w.heap.size a) : RSt w' w0 K bad wrong (⟨a, m, c, ys⟩ :: L) := by
  have h' := h.keep k
  refine ⟨h'.bel, h'.base, h'.lt, h'.c0, h'.c1, h'.f0, h'.f1, fun p hp => ?_⟩
  rcases List.mem_cons.1 hp with rfl | hp
  · refine ⟨hs, fun x hx _ => ?_⟩
    have := hn x hx
    have := h.lt
    simp only at *
    omega
  · exact h'.all p hp

theorem RSt.setBad {w w0 : World} {K : Nat} {bad wrong : Bool} {L : List Pc} (h : RSt w w0 K bad wrong L) : RSt (w.setCell ⟨K, 0, none⟩ (.bool true)) w0 K true wrong L := by
  have u : Upd K 0 1 w (w.setCell ⟨K, 0, none⟩ (.bool true)) := (Upd.refl _ _ _ w).set 0 _ (Nat.le_refl _) (by decide)
  refine ⟨h.bel.trans (u.below h.base h.bel.size), h.base, Nat.lt_of_lt_of_le h.lt u.size, ?_, (u.cell 1 (.inr (Nat.le_refl _))).trans h.c1, (u.froz 0).trans h.f0, (u.froz 1).trans h.f1, fun p hp => ⟨?_, (h.all p hp).2⟩⟩
  · exact World.cell?_setCell_same _ _ _ h.c0
  · obtain ⟨hs, hk⟩ := h.all p hp
    refine ⟨hs.len, hs.le, hs.cap, ?_⟩
    rcases hs.cells with e | ⟨b, o, e, hc⟩
    · exact .inl e
    · by_cases h0 : p.xs = []
      · exact .inl h0
      · exact .inr ⟨b, o, e, u.cells hc (.inl (hk _ e h0))⟩

/-- A fresh pair of flags. -/
theorem PSt.flags {w w0 : World} {L : List Pc} (h : PSt w w0 L) (e : TypeId) : RSt (w.alloc (.cells #[.bool false, .bool false] e)) w0 w.heap.size false false L := by
  have k := (Below.refl w.heap.size w).alloc (Nat.le_refl _) (.cells #[.bool false, .bool false] e)
  refine ⟨h.bel.trans (k.mono h.bel.size), h.bel.size, by simp, ?_, ?_, ?_, ?_, fun p hp => ⟨(h.all p hp).below k, fun x hx hne => ?_⟩⟩
  · simp
  · simp
  · simp
  · simp
  · exact Nat.ne_of_lt ((h.all p hp).block_lt hne x hx)

set_option maxHeartbeats 1000000 in
/-- slopelaw1.calls.add. -/
theorem RSt.add {w w0 : World} {K : Nat} {bad wrong : Bool} {L : List Pc} (h : RSt w w0 K bad wrong L) (p q : Pc) (hp : p ∈ L) (hq : q ∈ L) (m1 : MayL p.xs = true) (m2 : MayL q.xs = true) (o1 : Ok p.xs) (o2 : Ok q.xs) :
    Calls Try.prog 37 #[.pointer (some ⟨K, 0, none⟩), .slice p.a p.n p.c, .slice q.a q.n q.c] w fun e w' => ∃ a m c, e = .returned (.slice a m c) ∧ RSt w' w0 K (bad || bigN (val p.xs + val q.xs)) wrong (⟨a, m, c, fitN (val p.xs + val q.xs)⟩ :: L) := by
  have KA := nadd_any p.a q.a p.n p.c q.n q.c p.xs q.xs w (h.sl p hp) (h.sl q hq) o1 o2
  rw [addL_may m1 m2] at KA
  have HS := hide h
  generalize val p.xs + val q.xs = v at *
  cases hb : bigN v
  · rw [fitL_zero hb] at KA
    have KA' := hide KA
    have HB := hide hb
    clear KA h hb
    go_enter Try.func37, Try.ntmps37
    go_wp2_with fail
    refine (unhide KA').mono ?_
    rintro e w1 ⟨a, m, c, rfl, hs, hn, hbl⟩
    have KT := hide (took_ok K a m c _ w1 hs (fitN_may v))
    have HR := hide ((unhide HS).res hbl hs hn)
    clear hs hn hbl KA'
    go_wp2_with fail
    refine (unhide KT).mono ?_
    rintro e w' ⟨rfl, hw⟩
    obtain rfl := hw.symm
    go_wp2
    go_ret
    rw [Bool.or_false]
    exact ⟨a, m, c, rfl, unhide HR⟩
  · rw [fitL_two hb] at KA
    have KA' := hide KA
    have HB := hide hb
    clear KA h hb
    go_enter Try.func37, Try.ntmps37
    go_wp2_with fail
    refine (unhide KA').mono ?_
    rintro e w1 ⟨a, m, c, rfl, hs, hn, hbl⟩
    have hr := (unhide HS).res hbl hs hn
    have KT := hide (took_big K a m c bad w1 hr.c0 hr.f0)
    have HR := hide hr.setBad
    clear hs hn hbl KA' hr
    go_wp2_with fail
    refine (unhide KT).mono ?_
    rintro e w' ⟨rfl, rfl⟩
    go_wp2
    go_ret
    rw [Bool.or_true]
    exact ⟨a, m, c, rfl, unhide HR⟩

end Go.Proofs.Ytpnhmaenmmelnaa
