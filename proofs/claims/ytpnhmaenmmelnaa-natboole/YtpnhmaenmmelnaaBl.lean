/-
  What NatBoole needs besides.
-/
import Derived.Test.YtpnhmaenmmelnaaOnes
import Derived.Test.YtpnhmaenmmelnaaRng2
namespace Go.Proofs.Ytpnhmaenmmelnaa
open Go.RowKit Go.Deep
set_option linter.unusedVariables false

theorem PSt.may2 {w w0 : World} {L : List Pc} (h : PSt w w0 L) (p q : Pc) (hp : p ∈ L) (hq : q ∈ L) (e : TypeId) :
    Calls Try.prog 31 #[.slice (some ⟨w.heap.size, 0, none⟩) 2 2] (w.alloc (.cells #[.slice p.a p.n p.c, .slice q.a q.n q.c] e)) fun e w' => e = .returned (.bool (MayL p.xs && MayL q.xs)) ∧ PSt w' w0 L := by
  have k := (Below.refl w.heap.size w).alloc (Nat.le_refl _) (.cells #[.slice p.a p.n p.c, .slice q.a q.n q.c] e)
  have h' := h.keep k
  have K := mays_any w.heap.size 2 [p, q] (w.alloc (.cells #[.slice p.a p.n p.c, .slice q.a q.n q.c] e)) rfl (by decide) (fun i hi => by
      match i, hi with
      | 0, _ => simp
      | 1, _ => simp) (fun x hx => by
      simp at hx
      rcases hx with rfl | rfl
      · exact h'.all _ hp
      · exact h'.all _ hq)
  refine K.mono ?_
  rintro e w' ⟨rfl, rfl⟩
  exact ⟨by simp [mayP], h'⟩

/-- A number that natural.And and its like answer. -/
def bwN (F : Nat → Nat → Nat) (xs ys : List Nat) : List Nat := limbs (bwV F xs ys)

theorem RSt.bw {w w' w0 : World} {K : Nat} {bad wrong : Bool} {L : List Pc} (h : RSt w w0 K bad wrong L) {F : Nat → Nat → Nat} {xs ys : List Nat} (m1 : MayL xs = true) (m2 : MayL ys = true) {e : Ending} (hr : Res2 w w' (bwL F xs ys) e) :
    ∃ a m c, e = .returned (.tuple #[.slice a m c, .int .i64 0]) ∧ RSt w' w0 K bad wrong (⟨a, m, c, bwN F xs ys⟩ :: L) := by
  have e1 : bwL F xs ys = (bwN F xs ys, 0) := by simp [bwL, m1, m2, bwN]
  rw [e1] at hr
  obtain ⟨a, m, c, rfl, hs, hn, hb⟩ := hr
  exact ⟨a, m, c, rfl, h.res hb hs hn⟩

theorem bwN_ok (F : Nat → Nat → Nat) (xs ys : List Nat) : Ok (bwN F xs ys) := (limbs_rep _).ok
theorem bwN_val (F : Nat → Nat → Nat) (xs ys : List Nat) : val (bwN F xs ys) = bwV F xs ys := (limbs_rep _).val
theorem bwN_may {F : Nat → Nat → Nat} (hF : ∀ x y, x < 4294967296 → y < 4294967296 → F x y < 4294967296) {xs ys : List Nat} (ox : Ok xs) (oy : Ok ys) (m1 : MayL xs = true) (m2 : MayL ys = true) : MayL (bwN F xs ys) = true := by
  have := boole_len hF ox oy (MayL.len m1) (MayL.len m2)
  exact MayL.mk (limbs_rep _).norm (by unfold bwN; omega)
theorem bwN_fit {F : Nat → Nat → Nat} (hF : ∀ x y, x < 4294967296 → y < 4294967296 → F x y < 4294967296) {xs ys : List Nat} (ox : Ok xs) (oy : Ok ys) (m1 : MayL xs = true) (m2 : MayL ys = true) : bigN (bwV F xs ys) = false ∧ fitN (bwV F xs ys) = bwN F xs ys := by
  have hb : bigN (bwV F xs ys) = false := by
    have := boole_len hF ox oy (MayL.len m1) (MayL.len m2)
    simp [bigN]
    omega
  exact ⟨hb, fitN_ok hb⟩

/-- natural.Ones, in a law. -/
theorem RSt.ones {w w0 : World} {K : Nat} {bad wrong : Bool} {L : List Pc} (h : RSt w w0 K bad wrong L) (p : Pc) (hp : p ∈ L) (o : Ok p.xs) (m : MayL p.xs = true) :
    Calls Try.prog 38 #[.slice p.a p.n p.c] w fun e w' => e = .returned (.int .i64 (onesN p.xs : Nat)) ∧ RSt w' w0 K bad wrong L := by
  refine (nones_any p.a p.n p.c p.xs w (h.sl p hp) o m).mono ?_
  rintro e w' ⟨rfl, k, rfl⟩
  exact ⟨rfl, h.drewN k⟩
theorem onesN_le {xs : List Nat} (m : MayL xs = true) : onesN xs ≤ 65536 := by
  have := onesF_le (fun i => xs.getD i 0) xs.length
  have := MayL.len m
  unfold onesN
  omega
end Go.Proofs.Ytpnhmaenmmelnaa
