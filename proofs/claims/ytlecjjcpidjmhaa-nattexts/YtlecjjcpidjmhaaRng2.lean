/-
  slopelaw1.may: its contract.
-/
import Derived.Test.YtlecjjcpidjmhaaNMul
import Derived.Test.YtlecjjcpidjmhaaLawSt
import Derived.Test.YtlecjjcpidjmhaaKarM
import Derived.Test.YtlecjjcpidjmhaaOpen
namespace Go.Proofs.Ytlecjjcpidjmhaa
open Go.RowKit Go.Deep
set_option linter.unusedVariables false

theorem rep_top : Rep 4294967295 [4294967295] := ⟨Ok.cons (by decide) Ok.nil, .inr (by decide), by simp [val]⟩
theorem rep_sq : Rep 18446744065119617025 [1, 4294967294] := ⟨Ok.cons (by decide) (Ok.cons (by decide) Ok.nil), .inr (by decide), by simp [val]⟩
theorem mul_top : mulL [4294967295] [4294967295] = ([1, 4294967294], 0) := by
  have m : MayL [4294967295] = true := by decide
  have e : val [4294967295] * val [4294967295] = 18446744065119617025 := by simp [val]
  unfold mulL
  rw [m, e]
  simp only [Bool.and_self, if_true]
  rw [fitL_ok (by rw [← rep_sq.eq]; decide), ← rep_sq.eq]
theorem mul_bad : mulL [4294967295] [1, 0] = ([], 20) := by
  have m : MayL [1, 0] = false := by decide
  unfold mulL
  rw [m]
  simp

set_option maxHeartbeats 2000000 in
/-- slopelaw1.alive. -/
theorem alive_any (w : World) : Calls Try.prog 15 #[] w fun e w' => e = .returned (.bool true) ∧ Below w.heap.size w w' := by
  have K1 := hide (from_any 4294967295 w (by decide))
  go_enter Try.func15, Try.ntmps15
  go_wp2_with fail
  refine (unhide K1).mono ?_
  rintro e w1 ⟨a1, m1, ys, rfl, hs, hr, ha, hb⟩
  have e1 : ys = [4294967295] := hr.unique rep_top
  subst e1
  have hl := hs.len
  simp at hl
  subst hl
  have ok1 : Ok [4294967295] := hr.ok
  have K2 := nmul_small a1 a1 1 1 1 1 _ _ w1 hs hs ok1 ok1 (by decide) (by decide)
  rw [mul_top] at K2
  have K2' := hide K2
  have HS := hide hs
  have HB := hide hb
  clear K1 K2 hr ha hs hb
  go_wp2_with fail
  refine (unhide K2').mono ?_
  rintro e w2 ⟨a2, m2, c2, rfl, hs2, hn2, hb2⟩
  have hs1 : Sl w2 a1 1 1 [4294967295] := (unhide HS).below hb2
  have bel3 : Below w2.heap.size w2 (w2.alloc (.cells #[.int .u32 1, .int .u32 0] 77)) := (Below.refl _ _).alloc (Nat.le_refl _) _
  have K3 := nmul_small a1 (some ⟨w2.heap.size, 0, none⟩) 1 1 2 2 _ _ _ (hs1.below bel3) (two_sl w2 1 0 77) ok1 (Ok.cons (by decide) (Ok.cons (by decide) Ok.nil)) (by decide) (by decide)
  rw [mul_bad] at K3
  have K3' := hide K3
  have HB2 := hide ((unhide HB).trans ((hb2.trans (bel3.mono hb2.size)).mono (unhide HB).size))
  have HP := hide (hs2.below bel3)
  clear K2' K3 HS HB hs2 hn2 hb2 hs1 bel3 ok1
  go_wp2_with fail
  refine (unhide K3').mono ?_
  rintro e w3 ⟨a3, m3, c3, rfl, hs3, hn3, hb3⟩
  have hp3 : Sl w3 a2 m2 c2 [1, 4294967294] := (unhide HP).below hb3
  have bel4 : Below w3.heap.size w3 (w3.alloc (.cells #[.int .u32 1, .int .u32 4294967294] 77)) := (Below.refl _ _).alloc (Nat.le_refl _) _
  have K5 := same_any a2 (some ⟨w3.heap.size, 0, none⟩) m2 c2 2 2 _ _ _ (hp3.below bel4) (two_sl w3 1 4294967294 77)
  rw [show decide ([1, 4294967294] = [1, 4294967294]) = true from by simp] at K5
  have K5' := hide K5
  have HB3 := hide ((unhide HB2).trans ((hb3.trans (bel4.mono hb3.size)).mono (unhide HB2).size))
  clear K3' K5 HB2 HP hs3 hn3 hb3 hp3 bel4
  go_wp2_with fail
  refine (num_any _ _).mono ?_
  rintro e w' ⟨rfl, hw⟩
  obtain rfl := hw.symm
  go_wp2_with fail
  refine (unhide K5').mono ?_
  rintro e w' ⟨rfl, k, rfl⟩
  go_wp2_with fail
  refine (num_any _ _).mono ?_
  rintro e w' ⟨rfl, hw⟩
  obtain rfl := hw.symm
  go_wp2
  go_ret
  exact ⟨rfl, bel_drewN (unhide HB3) k⟩
open Go.RowKit Go.Deep
set_option linter.unusedVariables false

theorem rep_one : Rep 1 [1] := ⟨Ok.cons (by decide) Ok.nil, .inr (by decide), by simp [val]⟩

def fitN (v : Nat) : List Nat := (fitL v).1
def bigN (v : Nat) : Bool := decide (2048 < (limbs v).length)

theorem fitN_ok {v : Nat} (h : bigN v = false) : fitN v = limbs v := by
  unfold fitN
  rw [fitL_ok (by simpa [bigN] using h)]
theorem fitN_big {v : Nat} (h : bigN v = true) : fitN v = [] := by
  unfold fitN
  rw [fitL_big (by simpa [bigN] using h)]
theorem fitL_two {v : Nat} (h : bigN v = true) : fitL v = (fitN v, 2) := by
  rw [fitN_big h, fitL_big (by simpa [bigN] using h)]
theorem fitL_zero {v : Nat} (h : bigN v = false) : fitL v = (fitN v, 0) := by
  rw [fitN_ok h, fitL_ok (by simpa [bigN] using h)]
theorem fitN_may (v : Nat) : MayL (fitN v) = true := by
  cases h : bigN v
  · rw [fitN_ok h]
    refine MayL.mk (limbs_rep v).norm ?_
    simp [bigN] at h
    omega
  · rw [fitN_big h]; decide
theorem fitN_isOk (v : Nat) : Ok (fitN v) := by
  cases h : bigN v
  · rw [fitN_ok h]; exact (limbs_rep v).ok
  · rw [fitN_big h]; exact Ok.nil
theorem fitN_val {v : Nat} (h : bigN v = false) : val (fitN v) = v := by rw [fitN_ok h]; exact (limbs_rep v).val
theorem addL_may {xs ys : List Nat} (m1 : MayL xs = true) (m2 : MayL ys = true) : addL xs ys = fitL (val xs + val ys) := by simp [addL, m1, m2]
theorem mulL_may {xs ys : List Nat} (m1 : MayL xs = true) (m2 : MayL ys = true) : mulL xs ys = fitL (val xs * val ys) := by simp [mulL, m1, m2]
theorem limbs_self {xs : List Nat} (m : MayL xs = true) (ok : Ok xs) : limbs (val xs) = xs := ((limbs_rep (val xs)).unique ⟨ok, MayL.norm m, rfl⟩)
theorem big_self {xs : List Nat} (m : MayL xs = true) (ok : Ok xs) : bigN (val xs) = false := by
  have := MayL.len m
  simp [bigN, limbs_self m ok]
  omega
theorem fitN_self {xs : List Nat} (m : MayL xs = true) (ok : Ok xs) : fitN (val xs) = xs := by
  rw [fitN_ok (big_self m ok), limbs_self m ok]

/-- What a law carries from call to call: every list so far. -/
structure PSt (w w0 : World) (L : List Pc) : Prop where
  bel : Below w0.heap.size w0 w
  all : ∀ p ∈ L, Sl w p.a p.n p.c p.xs

/-- And the two flags. -/
structure RSt (w w0 : World) (K : Nat) (bad wrong : Bool) (L : List Pc) : Prop where
  bel : Below w0.heap.size w0 w
  base : w0.heap.size ≤ K
  lt : K < w.heap.size
  c0 : w.cell? ⟨K, 0, none⟩ = some (.bool bad)
  c1 : w.cell? ⟨K, 1, none⟩ = some (.bool wrong)
  f0 : w.frozen? ⟨K, 0, none⟩ = false
  f1 : w.frozen? ⟨K, 1, none⟩ = false
  all : ∀ p ∈ L, Sl w p.a p.n p.c p.xs ∧ ∀ x, p.a = some x → p.xs ≠ [] → x.block ≠ K

theorem PSt.keep {w w' w0 : World} {L : List Pc} (h : PSt w w0 L) (k : Below w.heap.size w w') : PSt w' w0 L :=
  ⟨h.bel.trans (k.mono h.bel.size), fun p hp => (h.all p hp).below k⟩
theorem PSt.res {w w' w0 : World} {L : List Pc} (h : PSt w w0 L) (k : Below w.heap.size w w') {a : Option Addr} {m c : Nat} {ys : List Nat} (hs : Sl w' a m c ys) : PSt w' w0 (⟨a, m, c, ys⟩ :: L) :=
  ⟨h.bel.trans (k.mono h.bel.size), fun p hp => by rcases List.mem_cons.1 hp with rfl | hp; exact hs; exact (h.all p hp).below k⟩
theorem RSt.keep {w w' w0 : World} {K : Nat} {bad wrong : Bool} {L : List Pc} (h : RSt w w0 K bad wrong L) (k : Below w.heap.size w w') : RSt w' w0 K bad wrong L :=
  ⟨h.bel.trans (k.mono h.bel.size), h.base, Nat.lt_of_lt_of_le h.lt k.size, (k.cell h.lt).trans h.c0, (k.cell h.lt).trans h.c1, (k.frozen h.lt).trans h.f0, (k.frozen h.lt).trans h.f1, fun p hp => ⟨(h.all p hp).1.below k, (h.all p hp).2⟩⟩
theorem RSt.drewN {w w0 : World} {K : Nat} {bad wrong : Bool} {L : List Pc} (h : RSt w w0 K bad wrong L) (k : Nat) : RSt (w.drewN k) w0 K bad wrong L := h.keep (bel_drewN (Below.refl _ _) k)
theorem RSt.p {w w0 : World} {K : Nat} {bad wrong : Bool} {L : List Pc} (h : RSt w w0 K bad wrong L) : PSt w w0 L := ⟨h.bel, fun p hp => (h.all p hp).1⟩
theorem RSt.sl {w w0 : World} {K : Nat} {bad wrong : Bool} {L : List Pc} (h : RSt w w0 K bad wrong L) (p : Pc) (hp : p ∈ L) : Sl w p.a p.n p.c p.xs := (h.all p hp).1
theorem RSt.res {w w' w0 : World} {K : Nat} {bad wrong : Bool} {L : List Pc} (h : RSt w w0 K bad wrong L) (k : Below w.heap.size w w') {a : Option Addr} {m c : Nat} {ys : List Nat} (hs : Sl w' a m c ys) (hn : NewAt w.heap.size a) : RSt w' w0 K bad wrong (⟨a, m, c, ys⟩ :: L) := by
  have h' := h.keep k
  refine ⟨h'.bel, h'.base, h'.lt, h'.c0, h'.c1, h'.f0, h'.f1, fun p hp => ?_⟩
  rcases List.mem_cons.1 hp with rfl | hp
  · refine ⟨hs, fun x hx _ => ?_⟩
    have := hn x hx
    have := h.lt
    simp only at *
    omega
  · exact h'.all p hp

theorem RSt.setBad {w w0 : World} {K : Nat} {bad wrong : Bool} {L : List Pc} (h : RSt w w0 K bad wrong L) : RSt (w.setCell ⟨K, 0, none⟩ (.bool true)) w0 K true wrong L := by
  have u : Upd K 0 1 w (w.setCell ⟨K, 0, none⟩ (.bool true)) := (Upd.refl _ _ _ w).set 0 _ (Nat.le_refl _) (by decide)
  refine ⟨h.bel.trans (u.below h.base h.bel.size), h.base, Nat.lt_of_lt_of_le h.lt u.size, ?_, (u.cell 1 (.inr (Nat.le_refl _))).trans h.c1, (u.froz 0).trans h.f0, (u.froz 1).trans h.f1, fun p hp => ⟨?_, (h.all p hp).2⟩⟩
  · exact World.cell?_setCell_same _ _ _ h.c0
  · obtain ⟨hs, hk⟩ := h.all p hp
    refine ⟨hs.len, hs.le, hs.cap, ?_⟩
    rcases hs.cells with e | ⟨b, o, e, hc⟩
    · exact .inl e
    · by_cases h0 : p.xs = []
      · exact .inl h0
      · exact .inr ⟨b, o, e, u.cells hc (.inl (hk _ e h0))⟩

/-- A fresh pair of flags. -/
theorem PSt.flags {w w0 : World} {L : List Pc} (h : PSt w w0 L) (e : TypeId) : RSt (w.alloc (.cells #[.bool false, .bool false] e)) w0 w.heap.size false false L := by
  have k := (Below.refl w.heap.size w).alloc (Nat.le_refl _) (.cells #[.bool false, .bool false] e)
  refine ⟨h.bel.trans (k.mono h.bel.size), h.bel.size, by simp, ?_, ?_, ?_, ?_, fun p hp => ⟨(h.all p hp).below k, fun x hx hne => ?_⟩⟩
  · simp
  · simp
  · simp
  · simp
  · exact Nat.ne_of_lt ((h.all p hp).block_lt hne x hx)

open Go.RowKit Go.Deep
set_option linter.unusedVariables false

def nilPc : Pc := ⟨none, 0, 0, []⟩
def mayP (ps : List Pc) : Bool := ps.all (fun p => MayL p.xs)

theorem PSt.drewN {w w0 : World} {L : List Pc} (h : PSt w w0 L) (k : Nat) : PSt (w.drewN k) w0 L := h.keep (bel_drewN (Below.refl _ _) k)
theorem PSt.quiet {w w0 : World} {L : List Pc} (h : PSt w w0 L) {f : FuncId} {args : Array Value} {v : Value} (k : Calls Try.prog f args w fun e w' => e = .returned v ∧ ∃ k, w' = w.drewN k) :
    Calls Try.prog f args w fun e w' => e = .returned v ∧ PSt w' w0 L :=
  k.mono fun _ _ ⟨he, k, hk⟩ => ⟨he, hk ▸ h.drewN k⟩
theorem RSt.quiet {w w0 : World} {K : Nat} {bad wrong : Bool} {L : List Pc} (h : RSt w w0 K bad wrong L) {f : FuncId} {args : Array Value} {v : Value} (k : Calls Try.prog f args w fun e w' => e = .returned v ∧ ∃ k, w' = w.drewN k) :
    Calls Try.prog f args w fun e w' => e = .returned v ∧ RSt w' w0 K bad wrong L :=
  k.mono fun _ _ ⟨he, k, hk⟩ => ⟨he, hk ▸ h.drewN k⟩
theorem RSt.same {w w0 : World} {K : Nat} {bad wrong : Bool} {L : List Pc} (h : RSt w w0 K bad wrong L) (p q : Pc) (hp : p ∈ L) (hq : q ∈ L) (b : Bool) (he : decide (p.xs = q.xs) = b) :
    Calls Try.prog 10 #[.slice p.a p.n p.c, .slice q.a q.n q.c] w fun e w' => e = .returned (.bool b) ∧ RSt w' w0 K bad wrong L := by
  have := h.quiet (same_any p.a q.a p.n p.c q.n q.c p.xs q.xs w (h.sl p hp) (h.sl q hq))
  rwa [he] at this
theorem PSt.same {w w0 : World} {L : List Pc} (h : PSt w w0 L) (p q : Pc) (hp : p ∈ L) (hq : q ∈ L) (b : Bool) (he : decide (p.xs = q.xs) = b) :
    Calls Try.prog 10 #[.slice p.a p.n p.c, .slice q.a q.n q.c] w fun e w' => e = .returned (.bool b) ∧ PSt w' w0 L := by
  have := h.quiet (same_any p.a q.a p.n p.c q.n q.c p.xs q.xs w (h.all p hp) (h.all q hq))
  rwa [he] at this

end Go.Proofs.Ytlecjjcpidjmhaa
