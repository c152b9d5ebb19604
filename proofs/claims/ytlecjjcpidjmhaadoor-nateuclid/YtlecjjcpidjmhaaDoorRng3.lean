/-
  Calls that answer lists, for the laws that carry them.
-/
import Derived.Test.YtlecjjcpidjmhaaDoorRng2
import Derived.Test.YtlecjjcpidjmhaaDoorDv7
namespace Go.Proofs.YtlecjjcpidjmhaaDoor
open Go.RowKit Go.Deep
set_option linter.unusedVariables false

theorem cmpL_may {xs ys : List Nat} (m1 : MayL xs = true) (m2 : MayL ys = true) : cmpL xs ys = cmpN (val xs) (val ys) := by simp [cmpL, m1, m2]
theorem PSt.of2 {w w0 : World} {L : List Pc} (h : PSt w w0 L) {f : FuncId} {args : Array Value} {r : List Nat × Int} (k : Calls Tryd.prog f args w fun e w' => Res2 w w' r e) :
    Calls Tryd.prog f args w fun e w' => ∃ a m c, e = .returned (.tuple #[.slice a m c, .int .i64 r.2]) ∧ PSt w' w0 (⟨a, m, c, r.1⟩ :: L) :=
  k.mono fun _ _ ⟨a, m, c, he, hs, hn, hb⟩ => ⟨a, m, c, he, h.res hb hs⟩
theorem PSt.of3 {w w0 : World} {L : List Pc} (h : PSt w w0 L) {f : FuncId} {args : Array Value} {r : List Nat × Bool × Int} (k : Calls Tryd.prog f args w fun e w' => Res3 w w' r e) :
    Calls Tryd.prog f args w fun e w' => ∃ a m c, e = .returned (.tuple #[.slice a m c, .bool r.2.1, .int .i64 r.2.2]) ∧ PSt w' w0 (⟨a, m, c, r.1⟩ :: L) :=
  k.mono fun _ _ ⟨a, m, c, he, hs, hn, hb⟩ => ⟨a, m, c, he, h.res hb hs⟩
theorem PSt.of4 {w w0 : World} {L : List Pc} (h : PSt w w0 L) {f : FuncId} {args : Array Value} {r : List Nat × List Nat × Int} (k : Calls Tryd.prog f args w fun e w' => Res4 w w' r e) :
    Calls Tryd.prog f args w fun e w' => ∃ a m c b n d, e = .returned (.tuple #[.slice a m c, .slice b n d, .int .i64 r.2.2]) ∧ PSt w' w0 (⟨a, m, c, r.1⟩ :: ⟨b, n, d, r.2.1⟩ :: L) :=
  k.mono fun _ _ ⟨a, m, c, b, n, d, he, hs, hn, hs2, hn2, _, hb⟩ => ⟨a, m, c, b, n, d, he, (h.res hb hs2).res (Below.refl _ _) hs⟩

theorem PSt.divmod {w w0 : World} {L : List Pc} (h : PSt w w0 L) (p q : Pc) (hp : p ∈ L) (hq : q ∈ L) (o1 : Ok p.xs) (o2 : Ok q.xs) (r : List Nat × List Nat × Int) (he : divL p.xs q.xs = r) :
    Calls Tryd.prog 24 #[.slice p.a p.n p.c, .slice q.a q.n q.c] w fun e w' => ∃ a m c b n d, e = .returned (.tuple #[.slice a m c, .slice b n d, .int .i64 r.2.2]) ∧ PSt w' w0 (⟨a, m, c, r.1⟩ :: ⟨b, n, d, r.2.1⟩ :: L) := by
  subst he
  exact h.of4 (ndivmod_any p.a q.a p.n p.c q.n q.c p.xs q.xs w (h.all p hp) (h.all q hq) o1 o2)

theorem limbs_len_mono {v u : Nat} (h : v ≤ u) : (limbs v).length ≤ (limbs u).length := by
  have h1 := val_lt (limbs_rep u).ok
  rw [(limbs_rep u).val] at h1
  exact rep_len_le' (limbs_rep v) (by omega)
theorem big_mono {v u : Nat} (h : v ≤ u) (hb : bigN u = false) : bigN v = false := by
  have := limbs_len_mono h
  simp [bigN] at *
  omega
theorem big_le {v : Nat} {xs : List Nat} (m : MayL xs = true) (ok : Ok xs) (h : v ≤ val xs) : bigN v = false := big_mono h (big_self m ok)
theorem may_pos {xs : List Nat} (m : MayL xs = true) (h : xs ≠ []) : 0 < val xs := by
  have h1 := val_ge_of_norm (MayL.norm m) h
  have h2 := pow_pos (xs.length - 1)
  omega
theorem divL_may {xs ys : List Nat} (m1 : MayL xs = true) (m2 : MayL ys = true) (o1 : Ok xs) (hy : ys ≠ []) : divL xs ys = (fitN (val xs / val ys), fitN (val xs % val ys), 0) := by
  rw [fitN_ok (big_le m1 o1 (Nat.div_le_self _ _)), fitN_ok (big_le m1 o1 (Nat.mod_le _ _))]
  simp [divL, m1, m2, hy]
theorem divL_zero {xs ys : List Nat} (m1 : MayL xs = true) (hy : ys = []) : divL xs ys = ([], [], 3) := by
  subst hy
  simp [divL, m1, show MayL [] = true from rfl]
theorem subL_may {xs ys : List Nat} (m1 : MayL xs = true) (m2 : MayL ys = true) (h : val ys ≤ val xs) : subL xs ys = (limbs (val xs - val ys), 0) := by
  simp [subL, m1, m2]
  omega
theorem sub_back {xs ys zs : List Nat} (m1 : MayL xs = true) (m2 : MayL ys = true) (m3 : MayL zs = true) (o3 : Ok zs) (h : val xs = val zs + val ys) : subL xs ys = (zs, 0) := by
  rw [subL_may m1 m2 (by omega), show val xs - val ys = val zs from by omega, limbs_self m3 o3]
theorem diff_back {xs ys zs : List Nat} (m1 : MayL xs = true) (m2 : MayL ys = true) (m3 : MayL zs = true) (o3 : Ok zs) (h : val ys = val zs + val xs) : diffL xs ys = (zs, decide (zs ≠ []), 0) := by
  by_cases hz : zs = []
  · subst hz
    have e : val ys = val xs := by rw [h]; simp [val]
    simp [diffL, m1, m2, e]
    rfl
  · have hp := may_pos m3 hz
    have hlt : val xs < val ys := by omega
    simp [diffL, m1, m2, hlt, hz]
    rw [show val ys - val xs = val zs from by omega, limbs_self m3 o3]
theorem div_back {x b r : Nat} (hr : r < b) : (x * b + r) / b = x ∧ (x * b + r) % b = r := by
  have hb : 0 < b := by omega
  constructor
  · rw [Nat.add_comm, Nat.add_mul_div_right _ _ hb, Nat.div_eq_of_lt hr, Nat.zero_add]
  · rw [Nat.add_comm, Nat.add_mul_mod_self_right, Nat.mod_eq_of_lt hr]
end Go.Proofs.YtlecjjcpidjmhaaDoor
