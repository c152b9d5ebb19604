/-
  sloperef1.at, plus, minus, fit, Add, Sub, Diff: contracts.
-/
import Derived.Test.YtlecjjcpidjmhaaSub
namespace Go.Proofs.Ytlecjjcpidjmhaa
open Go.RowKit Go.Deep
set_option linter.unusedVariables false

set_option maxHeartbeats 400000 in
theorem rat_out (a : Option Addr) (len cap : Nat) (i : Int) (w : World) (h : ¬ i < (len:Int)) :
    Calls Try.prog 59 #[.slice a len cap, .int .i64 i] w fun e w' => e = .returned (.int .u64 0) ∧ w' = w := by
  go_enter Try.func59, Try.ntmps59
  go_wp2
  go_ret
  exact ⟨rfl, rfl⟩
set_option maxHeartbeats 400000 in
theorem rat_in (b off : Nat) (len cap : Nat) (i : Nat) (x : Nat) (w : World) (h : i < len) (hx : x < 4294967296) (hc : w.cell? ⟨b, off + i, none⟩ = some (.int .u32 (x : Nat))) :
    Calls Try.prog 59 #[.slice (some ⟨b, off, none⟩) len cap, .int .i64 i] w fun e w' => e = .returned (.int .u64 (x : Nat)) ∧ w' = w := by
  go_enter Try.func59, Try.ntmps59
  go_wp2
  go_ret
  exact ⟨rfl, rfl⟩
/-- sloperef1.at. -/
theorem rat_any (a : Option Addr) (n c : Nat) (xs : List Nat) (i : Nat) (w : World) (h : Sl w a n c xs) (ok : Ok xs) :
    Calls Try.prog 59 #[.slice a n c, .int .i64 (i : Nat)] w fun e w' => e = .returned (.int .u64 (xs.getD i 0 : Nat)) ∧ w' = w := by
  by_cases hlt : i < n
  · rcases h.cells with h0 | ⟨b, off, rfl, hc⟩
    · have := h.len; rw [h0] at this; simp at this; omega
    · exact rat_in b off n c i _ w hlt (ok.getD i) (hc i (by rw [h.len]; exact hlt))
  · have hz : xs.getD i 0 = 0 := getD_ge (by rw [h.len]; omega)
    rw [hz]
    exact rat_out a n c i w (by omega)

theorem valF_ge (xs : List Nat) (n : Nat) (h : xs.length ≤ n) : valF (fun i => xs.getD i 0) n = val xs := by
  rw [← valF_pad xs n h]
  apply valF_congr
  intro i hi
  by_cases e : i < xs.length
  · simp [e]
  · rw [if_neg e]; exact getD_ge (by omega)

theorem one_int {k : IntKind} {x : Int} : ∀ u ∈ [Value.int k x], u.oneCell' = true := by
  intro u hu; simp at hu; subst hu; rfl

/-- What a round of plus leaves. -/
structure PlusR (wr w : World) (s t : Nat) (v : Value) (k c : Nat) (zs : List Nat) : Prop where
  len : zs.length = k
  ok : Ok zs
  cle : c ≤ 1
  own : wr.ownsRow w.heap.size 77 1 v k (vals zs)
  val : val zs + 4294967296 ^ k * c = s + t
  bel : Below w.heap.size w wr

theorem PlusR.step {wr w w1 : World} {s t : Nat} {v v' : Value} {k c : Nat} {zs : List Nat} {o : Obj} (h : PlusR wr w s t v k c zs) (x y : Nat) (hx : x < 4294967296) (hy : y < 4294967296)
    (hown : w1.ownsRow w.heap.size 77 1 v' (k + 1) (vals zs ++ [.int .u32 (adl x y c : Nat)])) (hg : (wr.alloc o).grownBy w1 v.ownBlock) :
    PlusR w1 w (s + 4294967296 ^ k * x) (t + 4294967296 ^ k * y) v' (k + 1) (adc x y c) (zs ++ [adl x y c]) := by
  have hs := h.bel.size
  refine ⟨by simp [h.len], ?_, adc_le x y c hx hy h.cle, by simpa [vals] using hown, ?_, ?_⟩
  · intro z hz
    rcases List.mem_append.1 hz with hz | hz
    · exact h.ok z hz
    · simp at hz; subst hz; exact adl_lt _ _ _
  · rw [val_append, h.len]
    simp only [Go.Proofs.Ytlecjjcpidjmhaa.val, Nat.mul_zero, Nat.add_zero]
    have e := ad_eq x y c
    rw [Nat.pow_succ]
    have : 4294967296 ^ k * adl x y c + 4294967296 ^ k * 4294967296 * adc x y c = 4294967296 ^ k * x + 4294967296 ^ k * y + 4294967296 ^ k * c := by
      rw [Nat.mul_assoc, ← Nat.mul_add, e, Nat.mul_add, Nat.mul_add]
    have := h.val
    omega
  · exact Below.grown (h.bel.alloc (by omega) o) hg (by simp; omega) (fun k hk => (own_ge h.own k hk).1)

theorem plus_end {wr w w1 : World} {s t : Nat} {v : Value} {k c g1 cc : Nat} {zs : List Nat} {o : Obj} (h : PlusR wr w s t v k c zs)
    (hown : w1.ownsRow w.heap.size 77 1 (.slice (some ⟨g1, 0, none⟩) (k + 1) cc) (k + 1) (vals zs ++ [.int .u32 (c : Nat)])) (hg : (wr.alloc o).grownBy w1 v.ownBlock) :
    Sl w1 (some ⟨g1, 0, none⟩) (k + 1) cc (zs ++ [c]) ∧ Ok (zs ++ [c]) ∧ Go.Proofs.Ytlecjjcpidjmhaa.val (zs ++ [c]) = s + t ∧ NewAt w.heap.size (some ⟨g1, 0, none⟩) ∧ Below w.heap.size w w1 := by
  have hs := h.bel.size
  have e : vals zs ++ [.int .u32 (c : Nat)] = vals (zs ++ [c]) := by simp [vals]
  refine ⟨?_, ?_, ?_, ?_, ?_⟩
  · rw [e] at hown; exact sl_of_own hown
  · intro z hz
    rcases List.mem_append.1 hz with hz | hz
    · exact h.ok z hz
    · simp at hz; subst hz; have := h.cle; omega
  · rw [val_append, h.len]
    simp only [Go.Proofs.Ytlecjjcpidjmhaa.val, Nat.mul_zero, Nat.add_zero]
    exact h.val
  · intro x hx
    cases hx
    exact (own_ge hown g1 rfl).1
  · exact Below.grown (h.bel.alloc (by omega) o) hg (by simp; omega) (fun k hk => (own_ge h.own k hk).1)

set_option maxHeartbeats 2000000 in
/-- sloperef1.plus. -/
theorem rplus_any (a1 a2 : Option Addr) (n1 c1 n2 c2 : Nat) (xs ys : List Nat) (w : World) (h1 : Sl w a1 n1 c1 xs) (h2 : Sl w a2 n2 c2 ys) (ox : Ok xs) (oy : Ok ys) (hb1 : n1 ≤ 10000000000000) (hb2 : n2 ≤ 10000000000000) :
    Calls Try.prog 32 #[.slice a1 n1 c1, .slice a2 n2 c2] w fun e w' => ∃ a' m c' zs, e = .returned (.slice a' m c') ∧ m ≤ 20000000000000 ∧ Sl w' a' m c' zs ∧ Ok zs ∧ val zs = val xs + val ys ∧ NewAt w.heap.size a' ∧ Below w.heap.size w w' := by
  have hl1 := hide h1.len
  have hl2 := hide h2.len
  obtain ⟨i80, hi80, hz80, hs80, hb80⟩ := info_parts Try.info_u32
  have I80 := hide (And.intro hi80 (And.intro hz80 (And.intro hs80 hb80)))
  clear hi80 hz80 hs80 hb80
  go_enter Try.func32, Try.ntmps32
  go_wp2
  go_loopw [5, 6, 7] (fun v cv i wr => ∃ k c : Nat, ∃ zs : List Nat, (k ≤ n1 ∨ k ≤ n2) ∧ i = .int .i64 k ∧ cv = .int .u64 (c : Nat) ∧ PlusR wr w (valF (fun i => xs.getD i 0) k) (valF (fun i => ys.getD i 0) k) v k c zs) (fun _ _ i _ => n1 + n2 - (intOf i).toNat)
  case atStart => exact ⟨0, 0, [], .inl (Nat.zero_le _), rfl, rfl, ⟨rfl, Ok.nil, Nat.zero_le _, World.ownsRow_nil _ _ _ _, rfl, Below.refl _ _⟩⟩
  case round =>
    obtain ⟨k, c, zs, hk, rfl, rfl, hR⟩ := hrel
    by_cases hlt : k < n1 ∨ k < n2
    · have ht : ((k:Int) < (n1:Int)) ∨ ((k:Int) < (n2:Int)) := by omega
      have bx := ox.getD k
      have bY := oy.getD k
      have KX := hide (rat_any a1 n1 c1 xs k wr (h1.below hR.bel) ox)
      have KY := hide (rat_any a2 n2 c2 ys k wr (h2.below hR.bel) oy)
      have HS := hide (fun w1 v' o hown hg => (show PlusR w1 w (valF (fun i => xs.getD i 0) (k + 1)) (valF (fun i => ys.getD i 0) (k + 1)) v' (k + 1) _ _ from PlusR.step (o := o) hR (xs.getD k 0) (ys.getD k 0) bx bY hown hg))
      have e1 := adl_int (xs.getD k 0) (ys.getD k 0) c
      have e2 := adc_int (xs.getD k 0) (ys.getD k 0) c
      have hc1 := hR.cle
      have HR := hide hR
      generalize xs.getD k 0 = x at *
      generalize ys.getD k 0 = y at *
      clear hR
      by_cases hA : (k:Int) < (n1:Int)
      all_goals
        have hB : (k:Int) < (n1:Int) ∨ (k:Int) < (n2:Int) := by omega
        go_wp2_with fail
        refine (unhide KX).mono ?_
        rintro e w' ⟨rfl, hw⟩
        obtain rfl := hw.symm
        go_wp2_with fail
        refine (unhide KY).mono ?_
        rintro e w' ⟨rfl, hw⟩
        obtain rfl := hw.symm
        go_wp2_with (at_builtin; refine wpList_append_lies _ rfl _ _ 22 rfl w.heap.size 77 i80 (.int .u32 0) 1 4 Try.underlying22 (unhide I80).1 (unhide I80).2.1 (unhide I80).2.2.1 (unhide I80).2.2.2 rfl (by decide) _ k (vals zs) rfl ?own1 ⟨wr.heap.size, 0, none⟩ 1 1 [.int .u32 (adl x y c : Nat)] rfl rfl ?news1 ?one1 (by decide) ?c31 ?c41 ?c51 (wr.heap.size + 1) ?c61 ?_)
        case own1 => exact (unhide HR).own.alloc _
        case news1 => exact World.news_of_block (alloc_block _ _)
        case one1 => intro u hu; simp at hu; subst hu; rfl
        case c31 => unfold maxLen; omega
        case c41 => omega
        case c51 => have := (unhide HR).bel.size; simp; omega
        case c61 => simp
        intro g1 cc w2 hown hgrow hat hlt2
        have HN := hide (unhide HS w2 _ _ hown hgrow)
        clear hown hgrow hat hlt2 HS HR KX KY
        go_wp2
        exact ⟨⟨k + 1, _, _, by omega, by go_num, rfl, unhide HN⟩, by simp [intOf]; omega⟩
    · have hA : ¬ (k:Int) < (n1:Int) := by omega
      have hB : ¬ (k:Int) < (n2:Int) := by omega
      have hc1 := hR.cle
      have e1 : valF (fun i => xs.getD i 0) k = val xs := valF_ge xs k (by rw [unhide hl1]; omega)
      have e2 : valF (fun i => ys.getD i 0) k = val ys := valF_ge ys k (by rw [unhide hl2]; omega)
      rw [e1, e2] at hR
      have HR := hide hR
      clear hR e1 e2
      go_wp2_with (at_builtin; refine wpList_append_lies _ rfl _ _ 22 rfl w.heap.size 77 i80 (.int .u32 0) 1 4 Try.underlying22 (unhide I80).1 (unhide I80).2.1 (unhide I80).2.2.1 (unhide I80).2.2.2 rfl (by decide) _ k (vals zs) rfl ?own1 ⟨wr.heap.size, 0, none⟩ 1 1 [.int .u32 (c : Nat)] rfl rfl (World.news_of_block (alloc_block _ _)) one_int (by decide) ?c31 ?c41 ?c51 (wr.heap.size + 1) (by simp) ?_)
      case own1 => exact (unhide HR).own.alloc _
      case c31 => unfold maxLen; omega
      case c41 => omega
      case c51 => have := (unhide HR).bel.size; simp; omega
      intro g1 cc w2 hown hgrow hat hlt2
      have HN := hide (plus_end (unhide HR) hown hgrow)
      clear hown hgrow hat hlt2
      go_wp2
      go_ret
      refine ⟨_, _, _, zs ++ [c], rfl, by omega, (unhide HN).1, (unhide HN).2.1, (unhide HN).2.2.1, (unhide HN).2.2.2.1, (unhide HN).2.2.2.2⟩

theorem own_sl {w : World} {base k : Nat} {v : Value} {zs : List Nat} (h : w.ownsRow base 77 1 v k (vals zs)) : ∃ a c, v = .slice a k c ∧ Sl w a k c zs ∧ NewAt base a := by
  have hl : zs.length = k := by simpa [vals] using h.1
  rcases h.2 with ⟨e, h0⟩ | ⟨g, cap, cur, e, hb, h5, h6, h7, h8, h9⟩
  · subst e h0
    have : zs = [] := List.eq_nil_of_length_eq_zero hl
    subst this
    exact ⟨none, 0, rfl, ⟨rfl, Nat.le_refl _, Nat.zero_le _, .inl rfl⟩, fun x hx => by cases hx⟩
  · subst e
    exact ⟨_, _, rfl, sl_of_own h, fun x hx => by cases hx; exact hb⟩

theorem lim_int (x y c : Nat) (hx : x < 4294967296) (hy : y < 4294967296) (hc : c ≤ 1) : (4294967296 + (x : Int) - y - c) % 4294967296 = ((lim x y c : Nat) : Int) := by unfold lim; omega
theorem bor_int (x y c : Nat) (hx : x < 4294967296) (hy : y < 4294967296) (hc : c ≤ 1) : 1 - (4294967296 + (x : Int) - y - c) / 4294967296 = ((bor x (y + c) : Nat) : Int) := by
  unfold bor; split <;> omega

theorem minus_arith {P A t s c l y x b : Nat} (h1 : A + t = s + P * c) (e : l + y + c = x + 4294967296 * b) : A + P * l + (t + P * y) = s + P * x + P * 4294967296 * b := by
  have h2 : P * l + P * y + P * c = P * x + P * 4294967296 * b := by
    rw [← Nat.mul_add, ← Nat.mul_add, e, Nat.mul_add, Nat.mul_assoc]
  generalize P * l = a1 at *
  generalize P * y = a2 at *
  generalize P * c = a3 at *
  generalize P * x = a4 at *
  generalize P * 4294967296 * b = a5 at *
  omega

/-- What a round of minus leaves. -/
structure MinusR (wr w : World) (s t : Nat) (v : Value) (k c : Nat) (zs : List Nat) : Prop where
  len : zs.length = k
  ok : Ok zs
  cle : c ≤ 1
  own : wr.ownsRow w.heap.size 77 1 v k (vals zs)
  val : val zs + t = s + 4294967296 ^ k * c
  bel : Below w.heap.size w wr

theorem MinusR.step {wr w w1 : World} {s t : Nat} {v v' : Value} {k c : Nat} {zs : List Nat} {o : Obj} (h : MinusR wr w s t v k c zs) (x y : Nat) (hx : x < 4294967296) (hy : y < 4294967296)
    (hown : w1.ownsRow w.heap.size 77 1 v' (k + 1) (vals zs ++ [.int .u32 (lim x y c : Nat)])) (hg : (wr.alloc o).grownBy w1 v.ownBlock) :
    MinusR w1 w (s + 4294967296 ^ k * x) (t + 4294967296 ^ k * y) v' (k + 1) (bor x (y + c)) (zs ++ [lim x y c]) := by
  have hs := h.bel.size
  refine ⟨by simp [h.len], ?_, bor_le _ _, by simpa [vals] using hown, ?_, ?_⟩
  · intro z hz
    rcases List.mem_append.1 hz with hz | hz
    · exact h.ok z hz
    · simp at hz; subst hz; exact lim_lt _ _ _
  · rw [val_append, h.len]
    simp only [Go.Proofs.Ytlecjjcpidjmhaa.val, Nat.mul_zero, Nat.add_zero]
    rw [Nat.pow_succ]
    exact minus_arith h.val (lim_eq x y c hx hy h.cle)
  · exact Below.grown (h.bel.alloc (by omega) o) hg (by simp; omega) (fun k hk => (own_ge h.own k hk).1)

set_option maxHeartbeats 800000 in
/-- sloperef1.fit. -/
theorem rfit_any (a : Option Addr) (m c : Nat) (zs : List Nat) (w : World) (h : Sl w a m c zs) (ok : Ok zs) (hb : m ≤ 70368744177664) :
    Calls Try.prog 73 #[.slice a m c] w fun e w' => Res2 w w' (fitL (val zs)) e := by
  have K := hide (rtrim_any a m c zs w h ok hb)
  go_enter Try.func73, Try.ntmps73
  go_wp2_with fail
  refine (unhide K).mono ?_
  rintro e w1 ⟨a', n, ys, rfl, hs, hr, ha, hbel⟩
  have e1 := hr.eq
  have hl := hs.len
  by_cases hbig : 2048 < n
  · have hf := hide (fitL_big (v := val zs) (by rw [← e1, hl]; exact hbig))
    have hb' : (2048:Int) < (n:Int) := by omega
    have HB := hide hbel
    clear K e1 hl hs hr ha hbel
    go_wp2
    go_ret2
    rw [unhide hf]
    exact ⟨none, 0, 0, rfl, sl_nil _, newAt_nil _, unhide HB⟩
  · have hf := hide (fitL_ok (v := val zs) (by rw [← e1, hl]; exact hbig))
    have hb' : ¬ (2048:Int) < (n:Int) := by omega
    rw [← e1] at hf
    have HB := hide (And.intro hbel (And.intro hs ha))
    clear K e1 hl hs hr ha hbel
    go_wp2
    go_ret2
    rw [unhide hf]
    exact ⟨a', n, n, rfl, (unhide HB).2.1, (unhide HB).2.2, (unhide HB).1⟩

theorem fit_diff {xs ys : List Nat} {n1 : Nat} (ox : Ok xs) (oy : Ok ys) (hl : n1 ≤ 2048) (h1 : xs.length = n1) : fitL (val xs - val ys) = (limbs (val xs - val ys), 0) := by
  apply fitL_ok
  intro hb
  have hr := limbs_rep (val xs - val ys)
  have h2 := val_ge_of_norm hr.norm (by intro e; rw [e] at hb; simp at hb)
  have h3 := val_lt ox
  have h4 : 4294967296 ^ xs.length ≤ 4294967296 ^ ((limbs (val xs - val ys)).length - 1) := pow_mono (by omega)
  rw [hr.val] at h2
  omega

set_option maxHeartbeats 2000000 in
/-- sloperef1.Add. -/
theorem radd_any (a1 a2 : Option Addr) (n1 c1 n2 c2 : Nat) (xs ys : List Nat) (w : World) (h1 : Sl w a1 n1 c1 xs) (h2 : Sl w a2 n2 c2 ys) (ox : Ok xs) (oy : Ok ys) :
    Calls Try.prog 54 #[.slice a1 n1 c1, .slice a2 n2 c2] w fun e w' => Res2 w w' (addL xs ys) e := by
  have K1 := rmay_any a1 n1 c1 xs w h1
  have K2 := rmay_any a2 n2 c2 ys w h2
  by_cases m1 : MayL xs = true
  · by_cases m2 : MayL ys = true
    · rw [m1] at K1; rw [m2] at K2
      have K1' := hide K1
      have K2' := hide K2
      have nx := MayL.norm m1
      have ny := MayL.norm m2
      have hl1 : n1 ≤ 2048 := by have := h1.len; have := MayL.len m1; omega
      have hl2 : n2 ≤ 2048 := by have := h2.len; have := MayL.len m2; omega
      have HC := hide (show addL xs ys = fitL (val xs + val ys) from by simp [addL, m1, m2])
      have KP := hide (rplus_any a1 a2 n1 c1 n2 c2 xs ys w h1 h2 ox oy (by omega) (by omega))
      clear K1 K2 m1 m2 h1 h2 ox oy nx ny
      go_enter Try.func54, Try.ntmps54
      go_wp2_with fail
      refine (unhide K1').mono ?_
      rintro e w' ⟨rfl, hw⟩
      obtain rfl := hw.symm
      go_wp2_with fail
      refine (unhide K2').mono ?_
      rintro e w' ⟨rfl, hw⟩
      obtain rfl := hw.symm
      go_wp2_with fail
      refine (unhide KP).mono ?_
      rintro e w1 ⟨a', m, c', zs, rfl, hm, hs, hok, hv, ha, hb⟩
      have KF := rfit_any a' m c' zs w1 hs hok (by omega)
      rw [hv] at KF
      have KF' := hide KF
      have HB := hide hb
      clear KF hs hok hv ha hb KP
      go_wp2_with fail
      refine (unhide KF').mono ?_
      rintro e w2 ⟨a2', m2, c2', rfl, hs2, ha2, hb2⟩
      have HX := hide (And.intro hs2 (And.intro ha2 hb2))
      clear hs2 ha2 hb2
      go_wp2
      go_ret2
      rw [unhide HC]
      exact ⟨a2', m2, c2', rfl, (unhide HX).1, fun x hx => Nat.le_trans (unhide HB).size ((unhide HX).2.1 x hx), (unhide HB).trans ((unhide HX).2.2.mono (unhide HB).size)⟩
    · have m2' : MayL ys = false := by simpa using m2
      rw [m1] at K1; rw [m2'] at K2
      have K1' := hide K1
      have K2' := hide K2
      have HC := hide (show addL xs ys = ([], 20) from by simp [addL, m2'])
      clear K1 K2 m1 m2 m2' h1 h2 ox oy
      go_enter Try.func54, Try.ntmps54
      go_wp2_with fail
      refine (unhide K1').mono ?_
      rintro e w' ⟨rfl, hw⟩
      obtain rfl := hw.symm
      go_wp2_with fail
      refine (unhide K2').mono ?_
      rintro e w' ⟨rfl, hw⟩
      obtain rfl := hw.symm
      go_wp2
      go_ret2
      rw [unhide HC]
      exact ⟨none, 0, 0, rfl, sl_nil _, newAt_nil _, Below.refl _ _⟩
  · have m1' : MayL xs = false := by simpa using m1
    rw [m1'] at K1
    have K1' := hide K1
    have HC := hide (show addL xs ys = ([], 20) from by simp [addL, m1'])
    clear K1 K2 m1 m1' h1 h2 ox oy
    go_enter Try.func54, Try.ntmps54
    go_wp2_with fail
    refine (unhide K1').mono ?_
    rintro e w' ⟨rfl, hw⟩
    obtain rfl := hw.symm
    go_wp2
    go_ret2
    rw [unhide HC]
    exact ⟨none, 0, 0, rfl, sl_nil _, newAt_nil _, Below.refl _ _⟩

end Go.Proofs.Ytlecjjcpidjmhaa
