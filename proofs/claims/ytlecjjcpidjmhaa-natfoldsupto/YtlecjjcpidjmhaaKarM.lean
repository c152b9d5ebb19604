/-
  natural.multiplyInto, multiply, Mul of every two numbers.
-/
import Derived.Test.YtlecjjcpidjmhaaKarH
namespace Go.Proofs.Ytlecjjcpidjmhaa
open Go.RowKit Go.Deep
set_option linter.unusedVariables false

set_option maxHeartbeats 800000 in
theorem into_p {w : World} {bz oz nz cz : Nat} {a1 : Option Addr} {n1 c1 : Nat} {a2 : Option Addr} {n2 c2 : Nat} {v : Nat} (h : Nat) (hge : n2 ≤ n1) (h48 : 48 ≤ n2) (hh : (n1 + 1) / 2 = h) (hk : (n2:Int) ≤ (h:Int)) (hbig : n1 + n2 ≤ 1000000000)
    (KK : Calls Try.prog 81 #[.slice (some ⟨bz, oz, none⟩) nz cz, .slice a1 n1 c1, .slice a2 n2 c2] w fun e w' => MulPost w bz oz nz v e w') :
    Calls Try.prog 74 #[.slice (some ⟨bz, oz, none⟩) nz cz, .slice a1 n1 c1, .slice a2 n2 c2] w fun e w' => MulPost w bz oz nz v e w' := by
  have K := hide KK
  have ht : ¬ (n1:Int) < (n2:Int) := by omega
  have ht2 : ¬ (n2:Int) < 48 := by omega
  have eh : ((n1:Int) + 1).tdiv 2 = (h:Int) := by rw [Int.tdiv_eq_ediv_of_nonneg (by omega)]; omega
  have eh' : ((n1:Int) + 1) / 2 = (h:Int) := by omega
  clear KK
  go_enter Try.func74, Try.ntmps74
  go_wp2_with fail
  refine (unhide K).mono ?_
  rintro e w' ⟨rfl, hp⟩
  have HP := hide hp
  clear hp K
  go_wp2
  go_end0
  exact ⟨rfl, unhide HP⟩

set_option maxHeartbeats 800000 in
theorem into_ps {w : World} {bz oz nz cz : Nat} {a1 : Option Addr} {n1 c1 : Nat} {a2 : Option Addr} {n2 c2 : Nat} {v : Nat} (h : Nat) (hlt : n1 < n2) (h48 : 48 ≤ n1) (hh : (n2 + 1) / 2 = h) (hk : (n1:Int) ≤ (h:Int)) (hbig : n1 + n2 ≤ 1000000000)
    (KK : Calls Try.prog 81 #[.slice (some ⟨bz, oz, none⟩) nz cz, .slice a2 n2 c2, .slice a1 n1 c1] w fun e w' => MulPost w bz oz nz v e w') :
    Calls Try.prog 74 #[.slice (some ⟨bz, oz, none⟩) nz cz, .slice a1 n1 c1, .slice a2 n2 c2] w fun e w' => MulPost w bz oz nz v e w' := by
  have K := hide KK
  have ht : (n1:Int) < (n2:Int) := by omega
  have ht2 : ¬ (n1:Int) < 48 := by omega
  have eh : ((n2:Int) + 1).tdiv 2 = (h:Int) := by rw [Int.tdiv_eq_ediv_of_nonneg (by omega)]; omega
  have eh' : ((n2:Int) + 1) / 2 = (h:Int) := by omega
  clear KK
  go_enter Try.func74, Try.ntmps74
  go_wp2_with fail
  refine (unhide K).mono ?_
  rintro e w' ⟨rfl, hp⟩
  have HP := hide hp
  clear hp K
  go_wp2
  go_end0
  exact ⟨rfl, unhide HP⟩

set_option maxHeartbeats 800000 in
theorem into_h {w : World} {bz oz nz cz : Nat} {a1 : Option Addr} {n1 c1 : Nat} {a2 : Option Addr} {n2 c2 : Nat} {v : Nat} (h : Nat) (hge : n2 ≤ n1) (h48 : 48 ≤ n2) (hh : (n1 + 1) / 2 = h) (hk : ¬ (n2:Int) ≤ (h:Int)) (hbig : n1 + n2 ≤ 1000000000)
    (KK : Calls Try.prog 82 #[.slice (some ⟨bz, oz, none⟩) nz cz, .slice a1 n1 c1, .slice a2 n2 c2] w fun e w' => MulPost w bz oz nz v e w') :
    Calls Try.prog 74 #[.slice (some ⟨bz, oz, none⟩) nz cz, .slice a1 n1 c1, .slice a2 n2 c2] w fun e w' => MulPost w bz oz nz v e w' := by
  have K := hide KK
  have ht : ¬ (n1:Int) < (n2:Int) := by omega
  have ht2 : ¬ (n2:Int) < 48 := by omega
  have eh : ((n1:Int) + 1).tdiv 2 = (h:Int) := by rw [Int.tdiv_eq_ediv_of_nonneg (by omega)]; omega
  have eh' : ((n1:Int) + 1) / 2 = (h:Int) := by omega
  clear KK
  go_enter Try.func74, Try.ntmps74
  go_wp2_with fail
  refine (unhide K).mono ?_
  rintro e w' ⟨rfl, hp⟩
  have HP := hide hp
  clear hp K
  go_wp2
  go_end0
  exact ⟨rfl, unhide HP⟩

set_option maxHeartbeats 800000 in
theorem into_hs {w : World} {bz oz nz cz : Nat} {a1 : Option Addr} {n1 c1 : Nat} {a2 : Option Addr} {n2 c2 : Nat} {v : Nat} (h : Nat) (hlt : n1 < n2) (h48 : 48 ≤ n1) (hh : (n2 + 1) / 2 = h) (hk : ¬ (n1:Int) ≤ (h:Int)) (hbig : n1 + n2 ≤ 1000000000)
    (KK : Calls Try.prog 82 #[.slice (some ⟨bz, oz, none⟩) nz cz, .slice a2 n2 c2, .slice a1 n1 c1] w fun e w' => MulPost w bz oz nz v e w') :
    Calls Try.prog 74 #[.slice (some ⟨bz, oz, none⟩) nz cz, .slice a1 n1 c1, .slice a2 n2 c2] w fun e w' => MulPost w bz oz nz v e w' := by
  have K := hide KK
  have ht : (n1:Int) < (n2:Int) := by omega
  have ht2 : ¬ (n1:Int) < 48 := by omega
  have eh : ((n2:Int) + 1).tdiv 2 = (h:Int) := by rw [Int.tdiv_eq_ediv_of_nonneg (by omega)]; omega
  have eh' : ((n2:Int) + 1) / 2 = (h:Int) := by omega
  clear KK
  go_enter Try.func74, Try.ntmps74
  go_wp2_with fail
  refine (unhide K).mono ?_
  rintro e w' ⟨rfl, hp⟩
  have HP := hide hp
  clear hp K
  go_wp2
  go_end0
  exact ⟨rfl, unhide HP⟩

theorem MulPre.some {w : World} {bz oz nz cz : Nat} {a1 : Option Addr} {n1 c1 : Nat} {xs : List Nat} {a2 : Option Addr} {n2 c2 : Nat} {ys : List Nat} (h : MulPre w bz oz nz cz a1 n1 c1 xs a2 n2 c2 ys) (h1 : 0 < n1) (h2 : 0 < n2) : ∃ b1 o1 b2 o2, a1 = some ⟨b1, o1, none⟩ ∧ a2 = some ⟨b2, o2, none⟩ := by
  have l1 := h.h1.len
  have l2 := h.h2.len
  rcases h.h1.cells with e | ⟨b1, o1, e1, _⟩
  · subst e; simp at l1; omega
  · rcases h.h2.cells with e | ⟨b2, o2, e2, _⟩
    · subst e; simp at l2; omega
    · exact ⟨b1, o1, b2, o2, e1, e2⟩

/-- natural.multiplyInto. -/
theorem mi_all : ∀ N, N ≤ 1000000000 → MI N
  | 0, _ => fun w bz oz nz cz a1 n1 c1 xs a2 n2 c2 ys hN h => into_small h (.inl (by omega))
  | N + 1, hb => fun w bz oz nz cz a1 n1 c1 xs a2 n2 c2 ys hN h => by
    have IH := mi_all N (by omega)
    have hnz := h.hnz
    by_cases hs : n1 < 48 ∨ n2 < 48
    · exact into_small h hs
    · obtain ⟨b1, o1, b2, o2, rfl, rfl⟩ := h.some (by omega) (by omega)
      by_cases hlt : n1 < n2
      · by_cases hk : 2 * n1 ≤ n2 + 1
        · refine into_ps _ hlt (by omega) rfl (by omega) (by omega) ?_
          rw [Nat.mul_comm (val xs)]
          exact pieces_some bz oz nz cz b2 o2 n2 c2 b1 o1 n1 c1 ys xs w h.swap (by omega) hk (by omega) N (by omega) IH
        · refine into_hs _ hlt (by omega) rfl (by omega) (by omega) ?_
          rw [Nat.mul_comm (val xs)]
          exact halves_some bz oz nz cz b2 o2 n2 c2 b1 o1 n1 c1 ((n2 + 1) / 2) ys xs w h.swap (by omega) (by omega) (by omega) (by omega) (by omega) (by omega) N (by omega) IH
      · by_cases hk : 2 * n2 ≤ n1 + 1
        · refine into_p _ (by omega) (by omega) rfl (by omega) (by omega) ?_
          exact pieces_some bz oz nz cz b1 o1 n1 c1 b2 o2 n2 c2 xs ys w h (by omega) hk (by omega) N (by omega) IH
        · refine into_h _ (by omega) (by omega) rfl (by omega) (by omega) ?_
          exact halves_some bz oz nz cz b1 o1 n1 c1 b2 o2 n2 c2 ((n1 + 1) / 2) xs ys w h (by omega) (by omega) (by omega) (by omega) (by omega) (by omega) N (by omega) IH

/-- natural.multiply. -/
theorem multiply_any (a1 a2 : Option Addr) (n1 c1 n2 c2 : Nat) (xs ys : List Nat) (w : World) (h1 : Sl w a1 n1 c1 xs) (h2 : Sl w a2 n2 c2 ys) (ox : Ok xs) (oy : Ok ys) (hb : n1 + n2 ≤ 1000000000) :
    Calls Try.prog 61 #[.slice a1 n1 c1, .slice a2 n2 c2] w fun e w' => NewRep w w' (val xs * val ys) e :=
  multiply_of a1 a2 n1 c1 n2 c2 xs ys w h1 h2 ox oy (by omega) (fun w bz oz nz cz h => mi_all 1000000000 (Nat.le_refl _) w bz oz nz cz a1 n1 c1 xs a2 n2 c2 ys hb h)

/-- natural.Mul. -/
theorem nmul_any (a1 a2 : Option Addr) (n1 c1 n2 c2 : Nat) (xs ys : List Nat) (w : World) (h1 : Sl w a1 n1 c1 xs) (h2 : Sl w a2 n2 c2 ys) (ox : Ok xs) (oy : Ok ys) :
    Calls Try.prog 48 #[.slice a1 n1 c1, .slice a2 n2 c2] w fun e w' => Res2 w w' (mulL xs ys) e :=
  nmul_of a1 a2 n1 c1 n2 c2 xs ys w h1 h2 ox oy (fun m1 m2 => multiply_any a1 a2 n1 c1 n2 c2 xs ys w h1 h2 ox oy (by have := h1.len; have := h2.len; have := MayL.len m1; have := MayL.len m2; omega))
end Go.Proofs.Ytlecjjcpidjmhaa
