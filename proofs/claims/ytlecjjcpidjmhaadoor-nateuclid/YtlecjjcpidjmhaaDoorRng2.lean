/-
  slopelaw1.may: its contract.
-/
import Derived.Test.YtlecjjcpidjmhaaDoorNMul
import Derived.Test.YtlecjjcpidjmhaaDoorLawSt
import Derived.Test.YtlecjjcpidjmhaaDoorKarM
import Derived.Test.YtlecjjcpidjmhaaDoorOpen
namespace Go.Proofs.YtlecjjcpidjmhaaDoor
open Go.RowKit Go.Deep
set_option linter.unusedVariables false

theorem rep_top : Rep 4294967295 [4294967295] := ⟨Ok.cons (by decide) Ok.nil, .inr (by decide), by simp [val]⟩
theorem rep_sq : Rep 18446744065119617025 [1, 4294967294] := ⟨Ok.cons (by decide) (Ok.cons (by decide) Ok.nil), .inr (by decide), by simp [val]⟩
theorem mul_top : mulL [4294967295] [4294967295] = ([1, 4294967294], 0) := by
  have m : MayL [4294967295] = true := by decide
  have e : val [4294967295] * val [4294967295] = 18446744065119617025 := by simp [val]
  unfold mulL
  rw [m, e]
  simp only [Bool.and_self, if_true]
  rw [fitL_ok (by rw [← rep_sq.eq]; decide), ← rep_sq.eq]
theorem mul_bad : mulL [4294967295] [1, 0] = ([], 20) := by
  have m : MayL [1, 0] = false := by decide
  unfold mulL
  rw [m]
  simp

set_option maxHeartbeats 2000000 in
/-- slopelaw1.alive. -/
theorem alive_any (w : World) : Calls Tryd.prog 5 #[] w fun e w' => e = .returned (.bool true) ∧ Below w.heap.size w w' := by
  have K1 := hide (from_any 4294967295 w (by decide))
  go_enter Tryd.func5, Tryd.ntmps5
  go_wp2_with fail
  refine (unhide K1).mono ?_
  rintro e w1 ⟨a1, m1, ys, rfl, hs, hr, ha, hb⟩
  have e1 : ys = [4294967295] := hr.unique rep_top
  subst e1
  have hl := hs.len
  simp at hl
  subst hl
  have ok1 : Ok [4294967295] := hr.ok
  have K2 := nmul_small a1 a1 1 1 1 1 _ _ w1 hs hs ok1 ok1 (by decide) (by decide)
  rw [mul_top] at K2
  have K2' := hide K2
  have HS := hide hs
  have HB := hide hb
  clear K1 K2 hr ha hs hb
  go_wp2_with fail
  refine (unhide K2').mono ?_
  rintro e w2 ⟨a2, m2, c2, rfl, hs2, hn2, hb2⟩
  have hs1 : Sl w2 a1 1 1 [4294967295] := (unhide HS).below hb2
  have bel3 : Below w2.heap.size w2 (w2.alloc (.cells #[.int .u32 1, .int .u32 0] 53)) := (Below.refl _ _).alloc (Nat.le_refl _) _
  have K3 := nmul_small a1 (some ⟨w2.heap.size, 0, none⟩) 1 1 2 2 _ _ _ (hs1.below bel3) (two_sl w2 1 0 53) ok1 (Ok.cons (by decide) (Ok.cons (by decide) Ok.nil)) (by decide) (by decide)
  rw [mul_bad] at K3
  have K3' := hide K3
  have HB2 := hide ((unhide HB).trans ((hb2.trans (bel3.mono hb2.size)).mono (unhide HB).size))
  have HP := hide (hs2.below bel3)
  clear K2' K3 HS HB hs2 hn2 hb2 hs1 bel3 ok1
  go_wp2_with fail
  refine (unhide K3').mono ?_
  rintro e w3 ⟨a3, m3, c3, rfl, hs3, hn3, hb3⟩
  have hp3 : Sl w3 a2 m2 c2 [1, 4294967294] := (unhide HP).below hb3
  have bel4 : Below w3.heap.size w3 (w3.alloc (.cells #[.int .u32 1, .int .u32 4294967294] 53)) := (Below.refl _ _).alloc (Nat.le_refl _) _
  have K5 := same_any a2 (some ⟨w3.heap.size, 0, none⟩) m2 c2 2 2 _ _ _ (hp3.below bel4) (two_sl w3 1 4294967294 53)
  rw [show decide ([1, 4294967294] = [1, 4294967294]) = true from by simp] at K5
  have K5' := hide K5
  have HB3 := hide ((unhide HB2).trans ((hb3.trans (bel4.mono hb3.size)).mono (unhide HB2).size))
  clear K3' K5 HB2 HP hs3 hn3 hb3 hp3 bel4
  go_wp2_with fail
  refine (num_any _ _).mono ?_
  rintro e w' ⟨rfl, hw⟩
  obtain rfl := hw.symm
  go_wp2_with fail
  refine (unhide K5').mono ?_
  rintro e w' ⟨rfl, k, rfl⟩
  go_wp2_with fail
  refine (num_any _ _).mono ?_
  rintro e w' ⟨rfl, hw⟩
  obtain rfl := hw.symm
  go_wp2
  go_ret
  exact ⟨rfl, bel_drewN (unhide HB3) k⟩
open Go.RowKit Go.Deep
set_option linter.unusedVariables false

theorem rep_one : Rep 1 [1] := ⟨Ok.cons (by decide) Ok.nil, .inr (by decide), by simp [val]⟩

def fitN (v : Nat) : List Nat := (fitL v).1
def bigN (v : Nat) : Bool := decide (2048 < (limbs v).length)

theorem fitN_ok {v : Nat} (h : bigN v = false) : fitN v = limbs v := by
  unfold fitN
  rw [fitL_ok (by simpa [bigN] using h)]
theorem fitN_big {v : Nat} (h : bigN v = true) : fitN v = [] := by
  unfold fitN
  rw [fitL_big (by simpa [bigN] using h)]
theorem fitL_two {v : Nat} (h : bigN v = true) : fitL v = (fitN v, 2) := by
  rw [fitN_big h, fitL_big (by simpa [bigN] using h)]
theorem fitL_zero {v : Nat} (h : bigN v = false) : fitL v = (fitN v, 0) := by
  rw [fitN_ok h, fitL_ok (by simpa [bigN] using h)]
theorem fitN_may (v : Nat) : MayL (fitN v) = true := by
  cases h : bigN v
  · rw [fitN_ok h]
    refine MayL.mk (limbs_rep v).norm ?_
    simp [bigN] at h
    omega
  · rw [fitN_big h]; decide
theorem fitN_isOk (v : Nat) : Ok (fitN v) := by
  cases h : bigN v
  · rw [fitN_ok h]; exact (limbs_rep v).ok
  · rw [fitN_big h]; exact Ok.nil
theorem fitN_val {v : Nat} (h : bigN v = false) : val (fitN v) = v := by rw [fitN_ok h]; exact (limbs_rep v).val
theorem addL_may {xs ys : List Nat} (m1 : MayL xs = true) (m2 : MayL ys = true) : addL xs ys = fitL (val xs + val ys) := by simp [addL, m1, m2]
theorem mulL_may {xs ys : List Nat} (m1 : MayL xs = true) (m2 : MayL ys = true) : mulL xs ys = fitL (val xs * val ys) := by simp [mulL, m1, m2]
theorem limbs_self {xs : List Nat} (m : MayL xs = true) (ok : Ok xs) : limbs (val xs) = xs := ((limbs_rep (val xs)).unique ⟨ok, MayL.norm m, rfl⟩)
theorem big_self {xs : List Nat} (m : MayL xs = true) (ok : Ok xs) : bigN (val xs) = false := by
  have := MayL.len m
  simp [bigN, limbs_self m ok]
  omega
theorem fitN_self {xs : List Nat} (m : MayL xs = true) (ok : Ok xs) : fitN (val xs) = xs := by
  rw [fitN_ok (big_self m ok), limbs_self m ok]

set_option maxHeartbeats 1000000 in
theorem took_big (K : Nat) (a : Option Addr) (m c : Nat) (bad : Bool) (w : World) (c0 : w.cell? ⟨K, 0, none⟩ = some (.bool bad)) (f0 : w.frozen? ⟨K, 0, none⟩ = false) :
    Calls Tryd.prog 12 #[.pointer (some ⟨K, 0, none⟩), .slice a m c, .int .i64 2] w fun e w' => e = .returned (.slice a m c) ∧ w' = w.setCell ⟨K, 0, none⟩ (.bool true) := by
  have KN := hide (num_any 2 w)
  go_enter Tryd.func12, Tryd.ntmps12
  go_wp2_with fail
  refine (unhide KN).mono ?_
  rintro e w' ⟨rfl, hw⟩
  obtain rfl := hw.symm
  go_wp2
  go_ret
  exact ⟨rfl, rfl⟩

set_option maxHeartbeats 1000000 in
theorem took_ok (K : Nat) (a : Option Addr) (m c : Nat) (xs : List Nat) (w : World) (h : Sl w a m c xs) (hm : MayL xs = true) :
    Calls Tryd.prog 12 #[.pointer (some ⟨K, 0, none⟩), .slice a m c, .int .i64 0] w fun e w' => e = .returned (.slice a m c) ∧ w' = w := by
  have KN := hide (num_any 0 w)
  have KM := may_any a m c xs w h
  rw [hm] at KM
  have KM' := hide KM
  clear KM h hm
  go_enter Tryd.func12, Tryd.ntmps12
  go_wp2_with fail
  refine (unhide KN).mono ?_
  rintro e w' ⟨rfl, hw⟩
  obtain rfl := hw.symm
  go_wp2_with fail
  refine (unhide KN).mono ?_
  rintro e w' ⟨rfl, hw⟩
  obtain rfl := hw.symm
  go_wp2_with fail
  refine (unhide KM').mono ?_
  rintro e w' ⟨rfl, hw⟩
  obtain rfl := hw.symm
  go_wp2
  go_ret
  exact ⟨rfl, rfl⟩

/-- What a law carries from call to call: every list so far. -/
structure PSt (w w0 : World) (L : List Pc) : Prop where
  bel : Below w0.heap.size w0 w
  all : ∀ p ∈ L, Sl w p.a p.n p.c p.xs

/-- And the two flags. -/
structure RSt (w w0 : World) (K : Nat) (bad wrong : Bool) (L : List Pc) : Prop where
  bel : Below w0.heap.size w0 w
  base : w0.heap.size ≤ K
  lt : K < w.heap.size
  c0 : w.cell? ⟨K, 0, none⟩ = some (.bool bad)
  c1 : w.cell? ⟨K, 1, none⟩ = some (.bool wrong)
  f0 : w.frozen? ⟨K, 0, none⟩ = false
  f1 : w.frozen? ⟨K, 1, none⟩ = false
  all : ∀ p ∈ L, Sl w p.a p.n p.c p.xs ∧ ∀ x, p.a = some x → p.xs ≠ [] → x.block ≠ K

theorem PSt.keep {w w' w0 : World} {L : List Pc} (h : PSt w w0 L) (k : Below w.heap.size w w') : PSt w' w0 L :=
  ⟨h.bel.trans (k.mono h.bel.size), fun p hp => (h.all p hp).below k⟩
theorem PSt.res {w w' w0 : World} {L : List Pc} (h : PSt w w0 L) (k : Below w.heap.size w w') {a : Option Addr} {m c : Nat} {ys : List Nat} (hs : Sl w' a m c ys) : PSt w' w0 (⟨a, m, c, ys⟩ :: L) :=
  ⟨h.bel.trans (k.mono h.bel.size), fun p hp => by rcases List.mem_cons.1 hp with rfl | hp; exact hs; exact (h.all p hp).below k⟩
theorem RSt.keep {w w' w0 : World} {K : Nat} {bad wrong : Bool} {L : List Pc} (h : RSt w w0 K bad wrong L) (k : Below w.heap.size w w') : RSt w' w0 K bad wrong L :=
  ⟨h.bel.trans (k.mono h.bel.size), h.base, Nat.lt_of_lt_of_le h.lt k.size, (k.cell h.lt).trans h.c0, (k.cell h.lt).trans h.c1, (k.frozen h.lt).trans h.f0, (k.frozen h.lt).trans h.f1, fun p hp => ⟨(h.all p hp).1.below k, (h.all p hp).2⟩⟩
theorem RSt.drewN {w w0 : World} {K : Nat} {bad wrong : Bool} {L : List Pc} (h : RSt w w0 K bad wrong L) (k : Nat) : RSt (w.drewN k) w0 K bad wrong L := h.keep (bel_drewN (Below.refl _ _) k)
theorem RSt.p {w w0 : World} {K : Nat} {bad wrong : Bool} {L : List Pc} (h : RSt w w0 K bad wrong L) : PSt w w0 L := ⟨h.bel, fun p hp => (h.all p hp).1⟩
theorem RSt.sl {w w0 : World} {K : Nat} {bad wrong : Bool} {L : List Pc} (h : RSt w w0 K bad wrong L) (p : Pc) (hp : p ∈ L) : Sl w p.a p.n p.c p.xs := (h.all p hp).1
theorem RSt.res {w w' w0 : World} {K : Nat} {bad wrong : Bool} {L : List Pc} (h : RSt w w0 K bad wrong L) (k : Below w.heap.size w w') {a : Option Addr} {m c : Nat} {ys : List Nat} (hs : Sl w' a m c ys) (hn : NewAt w.heap.size a) : RSt w' w0 K bad wrong (⟨a, m, c, ys⟩ :: L) := by
  have h' := h.keep k
  refine ⟨h'.bel, h'.base, h'.lt, h'.c0, h'.c1, h'.f0, h'.f1, fun p hp => ?_⟩
  rcases List.mem_cons.1 hp with rfl | hp
  · refine ⟨hs, fun x hx _ => ?_⟩
    have := hn x hx
    have := h.lt
    simp only at *
    omega
  · exact h'.all p hp

theorem RSt.setBad {w w0 : World} {K : Nat} {bad wrong : Bool} {L : List Pc} (h : RSt w w0 K bad wrong L) : RSt (w.setCell ⟨K, 0, none⟩ (.bool true)) w0 K true wrong L := by
  have u : Upd K 0 1 w (w.setCell ⟨K, 0, none⟩ (.bool true)) := (Upd.refl _ _ _ w).set 0 _ (Nat.le_refl _) (by decide)
  refine ⟨h.bel.trans (u.below h.base h.bel.size), h.base, Nat.lt_of_lt_of_le h.lt u.size, ?_, (u.cell 1 (.inr (Nat.le_refl _))).trans h.c1, (u.froz 0).trans h.f0, (u.froz 1).trans h.f1, fun p hp => ⟨?_, (h.all p hp).2⟩⟩
  · exact World.cell?_setCell_same _ _ _ h.c0
  · obtain ⟨hs, hk⟩ := h.all p hp
    refine ⟨hs.len, hs.le, hs.cap, ?_⟩
    rcases hs.cells with e | ⟨b, o, e, hc⟩
    · exact .inl e
    · by_cases h0 : p.xs = []
      · exact .inl h0
      · exact .inr ⟨b, o, e, u.cells hc (.inl (hk _ e h0))⟩

/-- A fresh pair of flags. -/
theorem PSt.flags {w w0 : World} {L : List Pc} (h : PSt w w0 L) (e : TypeId) : RSt (w.alloc (.cells #[.bool false, .bool false] e)) w0 w.heap.size false false L := by
  have k := (Below.refl w.heap.size w).alloc (Nat.le_refl _) (.cells #[.bool false, .bool false] e)
  refine ⟨h.bel.trans (k.mono h.bel.size), h.bel.size, by simp, ?_, ?_, ?_, ?_, fun p hp => ⟨(h.all p hp).below k, fun x hx hne => ?_⟩⟩
  · simp
  · simp
  · simp
  · simp
  · exact Nat.ne_of_lt ((h.all p hp).block_lt hne x hx)

set_option maxHeartbeats 1000000 in
/-- slopelaw1.calls.mul. -/
theorem RSt.mul {w w0 : World} {K : Nat} {bad wrong : Bool} {L : List Pc} (h : RSt w w0 K bad wrong L) (p q : Pc) (hp : p ∈ L) (hq : q ∈ L) (m1 : MayL p.xs = true) (m2 : MayL q.xs = true) (o1 : Ok p.xs) (o2 : Ok q.xs) :
    Calls Tryd.prog 11 #[.pointer (some ⟨K, 0, none⟩), .slice p.a p.n p.c, .slice q.a q.n q.c] w fun e w' => ∃ a m c, e = .returned (.slice a m c) ∧ RSt w' w0 K (bad || bigN (val p.xs * val q.xs)) wrong (⟨a, m, c, fitN (val p.xs * val q.xs)⟩ :: L) := by
  have KA := nmul_any p.a q.a p.n p.c q.n q.c p.xs q.xs w (h.sl p hp) (h.sl q hq) o1 o2
  rw [mulL_may m1 m2] at KA
  have HS := hide h
  generalize val p.xs * val q.xs = v at *
  cases hb : bigN v
  · rw [fitL_zero hb] at KA
    have KA' := hide KA
    have HB := hide hb
    clear KA h hb
    go_enter Tryd.func11, Tryd.ntmps11
    go_wp2_with fail
    refine (unhide KA').mono ?_
    rintro e w1 ⟨a, m, c, rfl, hs, hn, hbl⟩
    have KT := hide (took_ok K a m c _ w1 hs (fitN_may v))
    have HR := hide ((unhide HS).res hbl hs hn)
    clear hs hn hbl KA'
    go_wp2_with fail
    refine (unhide KT).mono ?_
    rintro e w' ⟨rfl, hw⟩
    obtain rfl := hw.symm
    go_wp2
    go_ret
    rw [Bool.or_false]
    exact ⟨a, m, c, rfl, unhide HR⟩
  · rw [fitL_two hb] at KA
    have KA' := hide KA
    have HB := hide hb
    clear KA h hb
    go_enter Tryd.func11, Tryd.ntmps11
    go_wp2_with fail
    refine (unhide KA').mono ?_
    rintro e w1 ⟨a, m, c, rfl, hs, hn, hbl⟩
    have hr := (unhide HS).res hbl hs hn
    have KT := hide (took_big K a m c bad w1 hr.c0 hr.f0)
    have HR := hide hr.setBad
    clear hs hn hbl KA' hr
    go_wp2_with fail
    refine (unhide KT).mono ?_
    rintro e w' ⟨rfl, rfl⟩
    go_wp2
    go_ret
    rw [Bool.or_true]
    exact ⟨a, m, c, rfl, unhide HR⟩
open Go.RowKit Go.Deep
set_option linter.unusedVariables false

def nilPc : Pc := ⟨none, 0, 0, []⟩
def mayP (ps : List Pc) : Bool := ps.all (fun p => MayL p.xs)

set_option maxHeartbeats 1000000 in
/-- slopelaw1.may. -/
theorem mays_any (b n : Nat) (ps : List Pc) (w : World) (hl : ps.length = n) (hn : n ≤ 1000) (hc : ∀ i, i < n → w.cell? ⟨b, i, none⟩ = some (.slice (ps.getD i nilPc).a (ps.getD i nilPc).n (ps.getD i nilPc).c)) (hs : ∀ p ∈ ps, Sl w p.a p.n p.c p.xs) :
    Calls Tryd.prog 6 #[.slice (some ⟨b, 0, none⟩) n n] w fun e w' => e = .returned (.bool (mayP ps)) ∧ w' = w := by
  have KM : ∀ i, i < n → Calls Tryd.prog 20 #[.slice (ps.getD i nilPc).a (ps.getD i nilPc).n (ps.getD i nilPc).c] w fun e w' => e = .returned (.bool (MayL (ps.getD i nilPc).xs)) ∧ w' = w := by
    intro i hi
    have hm : ps.getD i nilPc ∈ ps := by
      have : ps.getD i nilPc = ps[i]'(by omega) := by simp [List.getD, show i < ps.length from by omega]
      rw [this]; exact List.getElem_mem _
    exact rmay_any _ _ _ _ w (hs _ hm)
  have KM' := hide KM
  have HL := hide hl
  have HC := hide hc
  clear KM hs hl hc
  go_enter Tryd.func6, Tryd.ntmps6
  go_wp2
  go_loop [3] (fun i => ∃ k : Nat, i = .int .i64 k ∧ k ≤ n ∧ mayP (ps.take k) = true) (fun i => n - (intOf i).toNat)
  case atStart => exact ⟨0, rfl, Nat.zero_le _, rfl⟩
  case round =>
    obtain ⟨k, rfl, hk, hm⟩ := hrel
    have HM := hide hm
    clear hm
    by_cases hlt : k < n
    · have hlt' : (k:Int) < (n:Int) := by omega
      have g1 := unhide HC k hlt
      have K := unhide KM' k hlt
      have e : ps.take (k + 1) = ps.take k ++ [ps.getD k nilPc] := by
        rw [List.take_add_one]
        simp [List.getD, show k < ps.length from by rw [unhide HL]; exact hlt]
      have e2 : mayP (ps.take (k + 1)) = MayL (ps.getD k nilPc).xs := by
        have := unhide HM
        unfold mayP at *
        rw [e, List.all_append, this]
        simp
      have e3 : MayL (ps.getD k nilPc).xs = false → mayP ps = false := by
        intro hf
        unfold mayP
        rw [List.all_eq_false]
        exact ⟨ps.getD k nilPc, by
          have : ps.getD k nilPc = ps[k]'(by rw [unhide HL]; exact hlt) := by simp [List.getD, show k < ps.length from by rw [unhide HL]; exact hlt]
          rw [this]; exact List.getElem_mem _, by rw [hf]; decide⟩
      have E2 := hide e2
      have E3 := hide e3
      generalize ps.getD k nilPc = p at *
      obtain ⟨pa, pn, pc, px⟩ := p
      simp only at g1 K
      have K' := hide K
      clear e e2 e3 K
      cases hmay : MayL px
      · have HY := hide hmay
        rw [hmay] at K'
        clear hmay
        go_wp2_with fail
        refine (unhide K').mono ?_
        rintro e w' ⟨rfl, hw⟩
        obtain rfl := hw.symm
        go_wp2
        go_ret
        rw [unhide E3 (unhide HY)]
        exact ⟨rfl, rfl⟩
      · have HY := hide hmay
        rw [hmay] at K'
        clear hmay
        go_wp2_with fail
        refine (unhide K').mono ?_
        rintro e w' ⟨rfl, hw⟩
        obtain rfl := hw.symm
        go_wp2
        exact ⟨⟨k + 1, by go_num, by omega, (unhide E2).trans (unhide HY)⟩, by simp [intOf]; omega⟩
    · have hlt' : ¬ (k:Int) < (n:Int) := by omega
      have hall : mayP ps = true := by
        have := unhide HM
        rwa [List.take_of_length_le (by rw [unhide HL]; omega)] at this
      have HA := hide hall
      clear hall
      go_wp2
      go_ret
      rw [unhide HA]
      exact ⟨rfl, rfl⟩

theorem PSt.drewN {w w0 : World} {L : List Pc} (h : PSt w w0 L) (k : Nat) : PSt (w.drewN k) w0 L := h.keep (bel_drewN (Below.refl _ _) k)
theorem PSt.quiet {w w0 : World} {L : List Pc} (h : PSt w w0 L) {f : FuncId} {args : Array Value} {v : Value} (k : Calls Tryd.prog f args w fun e w' => e = .returned v ∧ ∃ k, w' = w.drewN k) :
    Calls Tryd.prog f args w fun e w' => e = .returned v ∧ PSt w' w0 L :=
  k.mono fun _ _ ⟨he, k, hk⟩ => ⟨he, hk ▸ h.drewN k⟩
theorem RSt.quiet {w w0 : World} {K : Nat} {bad wrong : Bool} {L : List Pc} (h : RSt w w0 K bad wrong L) {f : FuncId} {args : Array Value} {v : Value} (k : Calls Tryd.prog f args w fun e w' => e = .returned v ∧ ∃ k, w' = w.drewN k) :
    Calls Tryd.prog f args w fun e w' => e = .returned v ∧ RSt w' w0 K bad wrong L :=
  k.mono fun _ _ ⟨he, k, hk⟩ => ⟨he, hk ▸ h.drewN k⟩
theorem RSt.same {w w0 : World} {K : Nat} {bad wrong : Bool} {L : List Pc} (h : RSt w w0 K bad wrong L) (p q : Pc) (hp : p ∈ L) (hq : q ∈ L) (b : Bool) (he : decide (p.xs = q.xs) = b) :
    Calls Tryd.prog 9 #[.slice p.a p.n p.c, .slice q.a q.n q.c] w fun e w' => e = .returned (.bool b) ∧ RSt w' w0 K bad wrong L := by
  have := h.quiet (same_any p.a q.a p.n p.c q.n q.c p.xs q.xs w (h.sl p hp) (h.sl q hq))
  rwa [he] at this
theorem PSt.same {w w0 : World} {L : List Pc} (h : PSt w w0 L) (p q : Pc) (hp : p ∈ L) (hq : q ∈ L) (b : Bool) (he : decide (p.xs = q.xs) = b) :
    Calls Tryd.prog 9 #[.slice p.a p.n p.c, .slice q.a q.n q.c] w fun e w' => e = .returned (.bool b) ∧ PSt w' w0 L := by
  have := h.quiet (same_any p.a q.a p.n p.c q.n q.c p.xs q.xs w (h.all p hp) (h.all q hq))
  rwa [he] at this

/-- may of three, in a row of their own. -/
theorem PSt.may3 {w w0 : World} {L : List Pc} (h : PSt w w0 L) (p q r : Pc) (hp : p ∈ L) (hq : q ∈ L) (hr : r ∈ L) (e : TypeId) :
    Calls Tryd.prog 6 #[.slice (some ⟨w.heap.size, 0, none⟩) 3 3] (w.alloc (.cells #[.slice p.a p.n p.c, .slice q.a q.n q.c, .slice r.a r.n r.c] e)) fun e w' => e = .returned (.bool (MayL p.xs && (MayL q.xs && MayL r.xs))) ∧ PSt w' w0 L := by
  have k := (Below.refl w.heap.size w).alloc (Nat.le_refl _) (.cells #[.slice p.a p.n p.c, .slice q.a q.n q.c, .slice r.a r.n r.c] e)
  have h' := h.keep k
  have K := mays_any w.heap.size 3 [p, q, r] (w.alloc (.cells #[.slice p.a p.n p.c, .slice q.a q.n q.c, .slice r.a r.n r.c] e)) rfl (by decide) (fun i hi => by
      match i, hi with
      | 0, _ => simp
      | 1, _ => simp
      | 2, _ => simp) (fun x hx => by
      simp at hx
      rcases hx with rfl | rfl | rfl
      · exact h'.all _ hp
      · exact h'.all _ hq
      · exact h'.all _ hr)
  refine K.mono ?_
  rintro e w' ⟨rfl, rfl⟩
  exact ⟨by simp [mayP], h'⟩
end Go.Proofs.YtlecjjcpidjmhaaDoor
