/-
  sloperef1.at, plus, minus, fit, Add, Sub, Diff: contracts.
-/
import Derived.Test.YtlecjjcpidjmhaaDoorSub
namespace Go.Proofs.YtlecjjcpidjmhaaDoor
open Go.RowKit Go.Deep
set_option linter.unusedVariables false

set_option maxHeartbeats 400000 in
theorem rat_out (a : Option Addr) (len cap : Nat) (i : Int) (w : World) (h : ¬ i < (len:Int)) :
    Calls Tryd.prog 72 #[.slice a len cap, .int .i64 i] w fun e w' => e = .returned (.int .u64 0) ∧ w' = w := by
  go_enter Tryd.func72, Tryd.ntmps72
  go_wp2
  go_ret
  exact ⟨rfl, rfl⟩
set_option maxHeartbeats 400000 in
theorem rat_in (b off : Nat) (len cap : Nat) (i : Nat) (x : Nat) (w : World) (h : i < len) (hx : x < 4294967296) (hc : w.cell? ⟨b, off + i, none⟩ = some (.int .u32 (x : Nat))) :
    Calls Tryd.prog 72 #[.slice (some ⟨b, off, none⟩) len cap, .int .i64 i] w fun e w' => e = .returned (.int .u64 (x : Nat)) ∧ w' = w := by
  go_enter Tryd.func72, Tryd.ntmps72
  go_wp2
  go_ret
  exact ⟨rfl, rfl⟩
/-- sloperef1.at. -/
theorem rat_any (a : Option Addr) (n c : Nat) (xs : List Nat) (i : Nat) (w : World) (h : Sl w a n c xs) (ok : Ok xs) :
    Calls Tryd.prog 72 #[.slice a n c, .int .i64 (i : Nat)] w fun e w' => e = .returned (.int .u64 (xs.getD i 0 : Nat)) ∧ w' = w := by
  by_cases hlt : i < n
  · rcases h.cells with h0 | ⟨b, off, rfl, hc⟩
    · have := h.len; rw [h0] at this; simp at this; omega
    · exact rat_in b off n c i _ w hlt (ok.getD i) (hc i (by rw [h.len]; exact hlt))
  · have hz : xs.getD i 0 = 0 := getD_ge (by rw [h.len]; omega)
    rw [hz]
    exact rat_out a n c i w (by omega)

theorem valF_ge (xs : List Nat) (n : Nat) (h : xs.length ≤ n) : valF (fun i => xs.getD i 0) n = val xs := by
  rw [← valF_pad xs n h]
  apply valF_congr
  intro i hi
  by_cases e : i < xs.length
  · simp [e]
  · rw [if_neg e]; exact getD_ge (by omega)

theorem one_int {k : IntKind} {x : Int} : ∀ u ∈ [Value.int k x], u.oneCell' = true := by
  intro u hu; simp at hu; subst hu; rfl

/-- What a round of plus leaves. -/
structure PlusR (wr w : World) (s t : Nat) (v : Value) (k c : Nat) (zs : List Nat) : Prop where
  len : zs.length = k
  ok : Ok zs
  cle : c ≤ 1
  own : wr.ownsRow w.heap.size 53 1 v k (vals zs)
  val : val zs + 4294967296 ^ k * c = s + t
  bel : Below w.heap.size w wr

theorem PlusR.step {wr w w1 : World} {s t : Nat} {v v' : Value} {k c : Nat} {zs : List Nat} {o : Obj} (h : PlusR wr w s t v k c zs) (x y : Nat) (hx : x < 4294967296) (hy : y < 4294967296)
    (hown : w1.ownsRow w.heap.size 53 1 v' (k + 1) (vals zs ++ [.int .u32 (adl x y c : Nat)])) (hg : (wr.alloc o).grownBy w1 v.ownBlock) :
    PlusR w1 w (s + 4294967296 ^ k * x) (t + 4294967296 ^ k * y) v' (k + 1) (adc x y c) (zs ++ [adl x y c]) := by
  have hs := h.bel.size
  refine ⟨by simp [h.len], ?_, adc_le x y c hx hy h.cle, by simpa [vals] using hown, ?_, ?_⟩
  · intro z hz
    rcases List.mem_append.1 hz with hz | hz
    · exact h.ok z hz
    · simp at hz; subst hz; exact adl_lt _ _ _
  · rw [val_append, h.len]
    simp only [Go.Proofs.YtlecjjcpidjmhaaDoor.val, Nat.mul_zero, Nat.add_zero]
    have e := ad_eq x y c
    rw [Nat.pow_succ]
    have : 4294967296 ^ k * adl x y c + 4294967296 ^ k * 4294967296 * adc x y c = 4294967296 ^ k * x + 4294967296 ^ k * y + 4294967296 ^ k * c := by
      rw [Nat.mul_assoc, ← Nat.mul_add, e, Nat.mul_add, Nat.mul_add]
    have := h.val
    omega
  · exact Below.grown (h.bel.alloc (by omega) o) hg (by simp; omega) (fun k hk => (own_ge h.own k hk).1)

theorem plus_end {wr w w1 : World} {s t : Nat} {v : Value} {k c g1 cc : Nat} {zs : List Nat} {o : Obj} (h : PlusR wr w s t v k c zs)
    (hown : w1.ownsRow w.heap.size 53 1 (.slice (some ⟨g1, 0, none⟩) (k + 1) cc) (k + 1) (vals zs ++ [.int .u32 (c : Nat)])) (hg : (wr.alloc o).grownBy w1 v.ownBlock) :
    Sl w1 (some ⟨g1, 0, none⟩) (k + 1) cc (zs ++ [c]) ∧ Ok (zs ++ [c]) ∧ Go.Proofs.YtlecjjcpidjmhaaDoor.val (zs ++ [c]) = s + t ∧ NewAt w.heap.size (some ⟨g1, 0, none⟩) ∧ Below w.heap.size w w1 := by
  have hs := h.bel.size
  have e : vals zs ++ [.int .u32 (c : Nat)] = vals (zs ++ [c]) := by simp [vals]
  refine ⟨?_, ?_, ?_, ?_, ?_⟩
  · rw [e] at hown; exact sl_of_own hown
  · intro z hz
    rcases List.mem_append.1 hz with hz | hz
    · exact h.ok z hz
    · simp at hz; subst hz; have := h.cle; omega
  · rw [val_append, h.len]
    simp only [Go.Proofs.YtlecjjcpidjmhaaDoor.val, Nat.mul_zero, Nat.add_zero]
    exact h.val
  · intro x hx
    cases hx
    exact (own_ge hown g1 rfl).1
  · exact Below.grown (h.bel.alloc (by omega) o) hg (by simp; omega) (fun k hk => (own_ge h.own k hk).1)

theorem own_sl {w : World} {base k : Nat} {v : Value} {zs : List Nat} (h : w.ownsRow base 53 1 v k (vals zs)) : ∃ a c, v = .slice a k c ∧ Sl w a k c zs ∧ NewAt base a := by
  have hl : zs.length = k := by simpa [vals] using h.1
  rcases h.2 with ⟨e, h0⟩ | ⟨g, cap, cur, e, hb, h5, h6, h7, h8, h9⟩
  · subst e h0
    have : zs = [] := List.eq_nil_of_length_eq_zero hl
    subst this
    exact ⟨none, 0, rfl, ⟨rfl, Nat.le_refl _, Nat.zero_le _, .inl rfl⟩, fun x hx => by cases hx⟩
  · subst e
    exact ⟨_, _, rfl, sl_of_own h, fun x hx => by cases hx; exact hb⟩

theorem lim_int (x y c : Nat) (hx : x < 4294967296) (hy : y < 4294967296) (hc : c ≤ 1) : (4294967296 + (x : Int) - y - c) % 4294967296 = ((lim x y c : Nat) : Int) := by unfold lim; omega
theorem bor_int (x y c : Nat) (hx : x < 4294967296) (hy : y < 4294967296) (hc : c ≤ 1) : 1 - (4294967296 + (x : Int) - y - c) / 4294967296 = ((bor x (y + c) : Nat) : Int) := by
  unfold bor; split <;> omega

theorem minus_arith {P A t s c l y x b : Nat} (h1 : A + t = s + P * c) (e : l + y + c = x + 4294967296 * b) : A + P * l + (t + P * y) = s + P * x + P * 4294967296 * b := by
  have h2 : P * l + P * y + P * c = P * x + P * 4294967296 * b := by
    rw [← Nat.mul_add, ← Nat.mul_add, e, Nat.mul_add, Nat.mul_assoc]
  generalize P * l = a1 at *
  generalize P * y = a2 at *
  generalize P * c = a3 at *
  generalize P * x = a4 at *
  generalize P * 4294967296 * b = a5 at *
  omega

/-- What a round of minus leaves. -/
structure MinusR (wr w : World) (s t : Nat) (v : Value) (k c : Nat) (zs : List Nat) : Prop where
  len : zs.length = k
  ok : Ok zs
  cle : c ≤ 1
  own : wr.ownsRow w.heap.size 53 1 v k (vals zs)
  val : val zs + t = s + 4294967296 ^ k * c
  bel : Below w.heap.size w wr

theorem MinusR.step {wr w w1 : World} {s t : Nat} {v v' : Value} {k c : Nat} {zs : List Nat} {o : Obj} (h : MinusR wr w s t v k c zs) (x y : Nat) (hx : x < 4294967296) (hy : y < 4294967296)
    (hown : w1.ownsRow w.heap.size 53 1 v' (k + 1) (vals zs ++ [.int .u32 (lim x y c : Nat)])) (hg : (wr.alloc o).grownBy w1 v.ownBlock) :
    MinusR w1 w (s + 4294967296 ^ k * x) (t + 4294967296 ^ k * y) v' (k + 1) (bor x (y + c)) (zs ++ [lim x y c]) := by
  have hs := h.bel.size
  refine ⟨by simp [h.len], ?_, bor_le _ _, by simpa [vals] using hown, ?_, ?_⟩
  · intro z hz
    rcases List.mem_append.1 hz with hz | hz
    · exact h.ok z hz
    · simp at hz; subst hz; exact lim_lt _ _ _
  · rw [val_append, h.len]
    simp only [Go.Proofs.YtlecjjcpidjmhaaDoor.val, Nat.mul_zero, Nat.add_zero]
    rw [Nat.pow_succ]
    exact minus_arith h.val (lim_eq x y c hx hy h.cle)
  · exact Below.grown (h.bel.alloc (by omega) o) hg (by simp; omega) (fun k hk => (own_ge h.own k hk).1)

set_option maxHeartbeats 800000 in
/-- sloperef1.fit. -/
theorem rfit_any (a : Option Addr) (m c : Nat) (zs : List Nat) (w : World) (h : Sl w a m c zs) (ok : Ok zs) (hb : m ≤ 70368744177664) :
    Calls Tryd.prog 54 #[.slice a m c] w fun e w' => Res2 w w' (fitL (val zs)) e := by
  have K := hide (rtrim_any a m c zs w h ok hb)
  go_enter Tryd.func54, Tryd.ntmps54
  go_wp2_with fail
  refine (unhide K).mono ?_
  rintro e w1 ⟨a', n, ys, rfl, hs, hr, ha, hbel⟩
  have e1 := hr.eq
  have hl := hs.len
  by_cases hbig : 2048 < n
  · have hf := hide (fitL_big (v := val zs) (by rw [← e1, hl]; exact hbig))
    have hb' : (2048:Int) < (n:Int) := by omega
    have HB := hide hbel
    clear K e1 hl hs hr ha hbel
    go_wp2
    go_ret2
    rw [unhide hf]
    exact ⟨none, 0, 0, rfl, sl_nil _, newAt_nil _, unhide HB⟩
  · have hf := hide (fitL_ok (v := val zs) (by rw [← e1, hl]; exact hbig))
    have hb' : ¬ (2048:Int) < (n:Int) := by omega
    rw [← e1] at hf
    have HB := hide (And.intro hbel (And.intro hs ha))
    clear K e1 hl hs hr ha hbel
    go_wp2
    go_ret2
    rw [unhide hf]
    exact ⟨a', n, n, rfl, (unhide HB).2.1, (unhide HB).2.2, (unhide HB).1⟩

theorem fit_diff {xs ys : List Nat} {n1 : Nat} (ox : Ok xs) (oy : Ok ys) (hl : n1 ≤ 2048) (h1 : xs.length = n1) : fitL (val xs - val ys) = (limbs (val xs - val ys), 0) := by
  apply fitL_ok
  intro hb
  have hr := limbs_rep (val xs - val ys)
  have h2 := val_ge_of_norm hr.norm (by intro e; rw [e] at hb; simp at hb)
  have h3 := val_lt ox
  have h4 : 4294967296 ^ xs.length ≤ 4294967296 ^ ((limbs (val xs - val ys)).length - 1) := pow_mono (by omega)
  rw [hr.val] at h2
  omega

end Go.Proofs.YtlecjjcpidjmhaaDoor
