/-
  natural.multiplyInto where one factor is short; multiply, bitLen, Mul there: contracts.
-/
import Derived.Test.YtlecjjcpidjmhaaMul
import Derived.Test.YtlecjjcpidjmhaaLen
namespace Go.Proofs.Ytlecjjcpidjmhaa
open Go.RowKit Go.Deep
set_option linter.unusedVariables false

structure MulPre (w : World) (bz oz nz cz : Nat) (a1 : Option Addr) (n1 c1 : Nat) (xs : List Nat) (a2 : Option Addr) (n2 c2 : Nat) (ys : List Nat) : Prop where
  h1 : Sl w a1 n1 c1 xs
  h2 : Sl w a2 n2 c2 ys
  s1 : ∀ x, a1 = some x → xs ≠ [] → x.block ≠ bz ∨ x.off + xs.length ≤ oz ∨ oz + nz ≤ x.off
  s2 : ∀ x, a2 = some x → ys ≠ [] → x.block ≠ bz ∨ x.off + ys.length ≤ oz ∨ oz + nz ≤ x.off
  ox : Ok xs
  oy : Ok ys
  hz : Fn w bz oz nz (fun _ => 0)
  hnz : n1 + n2 = nz
  hcz : nz ≤ cz
  hm : cz ≤ maxLen

theorem MulPre.swap {w : World} {bz oz nz cz : Nat} {a1 : Option Addr} {n1 c1 : Nat} {xs : List Nat} {a2 : Option Addr} {n2 c2 : Nat} {ys : List Nat} (h : MulPre w bz oz nz cz a1 n1 c1 xs a2 n2 c2 ys) : MulPre w bz oz nz cz a2 n2 c2 ys a1 n1 c1 xs :=
  ⟨h.h2, h.h1, h.s2, h.s1, h.oy, h.ox, h.hz, by have := h.hnz; omega, h.hcz, h.hm⟩

def MulPost (w : World) (bz oz nz : Nat) (v : Nat) (e : Ending) (w' : World) : Prop :=
  e = .returned (.tuple #[]) ∧ ∃ f', Fn w' bz oz nz f' ∧ (∀ i, i < nz → f' i < 4294967296) ∧ valF f' nz = v ∧ Upd bz oz (oz + nz) w w'

set_option maxHeartbeats 800000 in
theorem rows_nil (bz oz nz cz n1 c1 c2 : Nat) (a1 a2 : Option Addr) (w : World) :
    Calls Try.prog 80 #[.slice (some ⟨bz, oz, none⟩) nz cz, .slice a1 n1 c1, .slice a2 0 c2] w fun e w' => e = .returned (.tuple #[]) ∧ w' = w := by
  go_enter Try.func80, Try.ntmps80
  go_wp2
  go_loop [13] (fun i => i = .int .i64 0) (fun i => (intOf i).toNat)
  case atStart => rfl
  case round =>
    subst hrel
    go_wp2
    go_end0
    exact ⟨rfl, rfl⟩

/-- natural.multiplyRows. -/
theorem rows_any {w : World} {bz oz nz cz : Nat} {a1 : Option Addr} {n1 c1 : Nat} {xs : List Nat} {a2 : Option Addr} {n2 c2 : Nat} {ys : List Nat} (h : MulPre w bz oz nz cz a1 n1 c1 xs a2 n2 c2 ys) (hle : n2 ≤ n1) :
    Calls Try.prog 80 #[.slice (some ⟨bz, oz, none⟩) nz cz, .slice a1 n1 c1, .slice a2 n2 c2] w fun e w' => MulPost w bz oz nz (val xs * val ys) e w' := by
  have l1 := h.h1.len
  have l2 := h.h2.len
  by_cases h0 : ys = []
  · have hh := h.hz
    subst h0
    simp at l2
    subst l2
    refine (rows_nil bz oz nz cz n1 c1 c2 a1 a2 w).mono ?_
    rintro e w' ⟨rfl, rfl⟩
    exact ⟨rfl, _, hh, fun _ _ => by decide, by simp [val, valF_zero], Upd.refl _ _ _ _⟩
  · have hx0 : xs ≠ [] := by
      intro e
      subst e
      simp at l1
      have : ys = [] := List.eq_nil_of_length_eq_zero (by omega)
      exact h0 this
    rcases h.h1.cells with e | ⟨b1, o1, rfl, k1⟩
    · exact absurd e hx0
    · rcases h.h2.cells with e | ⟨b2, o2, rfl, k2⟩
      · exact absurd e h0
      · exact rows_some bz oz nz cz b1 o1 n1 c1 b2 o2 n2 c2 xs ys w (h.s1 _ rfl hx0) (h.s2 _ rfl h0) l1 l2 h.hnz h.hcz h.hm h.ox h.oy h.hz k1 k2

set_option maxHeartbeats 800000 in
theorem into_st {w : World} {bz oz nz cz : Nat} {a1 : Option Addr} {n1 c1 : Nat} {xs : List Nat} {a2 : Option Addr} {n2 c2 : Nat} {ys : List Nat} (h : MulPre w bz oz nz cz a1 n1 c1 xs a2 n2 c2 ys) (hge : n2 ≤ n1) (hs : n2 < 48) :
    Calls Try.prog 74 #[.slice (some ⟨bz, oz, none⟩) nz cz, .slice a1 n1 c1, .slice a2 n2 c2] w fun e w' => MulPost w bz oz nz (val xs * val ys) e w' := by
  have K := hide (rows_any h hge)
  have ht : ¬ (n1:Int) < (n2:Int) := by omega
  have ht2 : (n2:Int) < 48 := by omega
  skip
  clear h
  go_enter Try.func74, Try.ntmps74
  go_wp2_with fail
  refine (unhide K).mono ?_
  rintro e w' ⟨rfl, hp⟩
  have HP := hide hp
  clear hp K
  go_wp2
  go_end0
  exact ⟨rfl, unhide HP⟩

set_option maxHeartbeats 800000 in
theorem into_sw {w : World} {bz oz nz cz : Nat} {a1 : Option Addr} {n1 c1 : Nat} {xs : List Nat} {a2 : Option Addr} {n2 c2 : Nat} {ys : List Nat} (h : MulPre w bz oz nz cz a1 n1 c1 xs a2 n2 c2 ys) (hlt : n1 < n2) (hs : n1 < 48) :
    Calls Try.prog 74 #[.slice (some ⟨bz, oz, none⟩) nz cz, .slice a1 n1 c1, .slice a2 n2 c2] w fun e w' => MulPost w bz oz nz (val xs * val ys) e w' := by
  have K := hide (rows_any h.swap (by omega))
  have ht : (n1:Int) < (n2:Int) := by omega
  have ht2 : (n1:Int) < 48 := by omega
  rw [Nat.mul_comm (val xs)]
  clear h
  go_enter Try.func74, Try.ntmps74
  go_wp2_with fail
  refine (unhide K).mono ?_
  rintro e w' ⟨rfl, hp⟩
  have HP := hide hp
  clear hp K
  go_wp2
  go_end0
  exact ⟨rfl, unhide HP⟩

theorem into_small {w : World} {bz oz nz cz : Nat} {a1 : Option Addr} {n1 c1 : Nat} {xs : List Nat} {a2 : Option Addr} {n2 c2 : Nat} {ys : List Nat} (h : MulPre w bz oz nz cz a1 n1 c1 xs a2 n2 c2 ys) (hs : n1 < 48 ∨ n2 < 48) :
    Calls Try.prog 74 #[.slice (some ⟨bz, oz, none⟩) nz cz, .slice a1 n1 c1, .slice a2 n2 c2] w fun e w' => MulPost w bz oz nz (val xs * val ys) e w' := by
  by_cases hlt : n1 < n2
  · exact into_sw h hlt (by omega)
  · exact into_st h (by omega) (by omega)

theorem make_sum (n1 n2 : Nat) (hn : n1 + n2 ≤ 70368744177000) (w : World) : (Instr.makeSlice 22 (.int .i64 ((n1 : Int) + (n2 : Int))) (.int .i64 ((n1 : Int) + (n2 : Int)))).run Try.prog w = .ok (.slice (some ⟨w.heap.size, 0, none⟩) (n1 + n2) (n1 + n2)) (w.alloc (.cells (madeCells #[.int .u32 0] (n1 + n2)) 77)) := by
  have := make_len (n1 + n2) (by omega) w
  rw [show ((n1 + n2 : Nat) : Int) = (n1 : Int) + (n2 : Int) from by omega] at this
  exact this

set_option maxHeartbeats 800000 in
/-- natural.multiply, out of multiplyInto. -/
theorem multiply_of (a1 a2 : Option Addr) (n1 c1 n2 c2 : Nat) (xs ys : List Nat) (w : World) (h1 : Sl w a1 n1 c1 xs) (h2 : Sl w a2 n2 c2 ys) (ox : Ok xs) (oy : Ok ys) (hb : n1 + n2 ≤ 70368744177000)
    (KI : ∀ w bz oz nz cz, MulPre w bz oz nz cz a1 n1 c1 xs a2 n2 c2 ys → Calls Try.prog 74 #[.slice (some ⟨bz, oz, none⟩) nz cz, .slice a1 n1 c1, .slice a2 n2 c2] w fun e w' => MulPost w bz oz nz (val xs * val ys) e w') :
    Calls Try.prog 61 #[.slice a1 n1 c1, .slice a2 n2 c2] w fun e w' => NewRep w w' (val xs * val ys) e := by
  have hmk := make_sum n1 n2 hb
  have bel0 := (Below.refl w.heap.size w).alloc (Nat.le_refl _) (.cells (madeCells #[.int .u32 0] (n1 + n2)) 77)
  have KM := hide (KI _ w.heap.size 0 (n1 + n2) (n1 + n2) ⟨h1.below bel0, h2.below bel0, fun x hx hne => .inl (by have := h1.block_lt hne x hx; omega), fun x hx hne => .inl (by have := h2.block_lt hne x hx; omega), ox, oy, Fn.made w (n1 + n2) 77, rfl, Nat.le_refl _, by unfold maxLen; omega⟩)
  have HB0 := hide bel0
  clear KI bel0 h1 h2 ox oy
  go_enter Try.func61, Try.ntmps61
  go_wp2_with fail
  refine (unhide KM).mono ?_
  rintro e w1 ⟨rfl, f', hF, hf, hv, hupd⟩
  have KT := trim_any _ (n1 + n2) (n1 + n2) _ w1 (hF.sl (Nat.le_refl _) (by unfold maxLen; omega)) (lst_ok hf)
  rw [lst_val, hv] at KT
  have KT' := hide KT
  have HB2 := hide ((unhide HB0).trans (hupd.below (Nat.le_refl _) (unhide HB0).size))
  clear KT hF hf hv hupd KM
  go_wp2_with fail
  refine (unhide KT').mono ?_
  rintro e w2 ⟨a', m, zs, rfl, hs, hr, ha, rfl⟩
  go_wp2
  go_ret
  refine ⟨a', m, zs, rfl, hs, hr, ?_, unhide HB2⟩
  intro x hx
  rcases ha with rfl | rfl
  · cases hx; exact Nat.le_refl _
  · cases hx

/-- The binary digits of a list of limbs. -/
def bitsL (xs : List Nat) : Nat := (xs.length - 1) * 32 + Lib.bitLen (xs.getD (xs.length - 1) 0)

set_option maxHeartbeats 800000 in
theorem bitLen_some (b off n c : Nat) (x : Nat) (w : World) (h0 : 0 < n) (hn : n ≤ 1000000000000) (hx : x < 4294967296) (hc : w.cell? ⟨b, off + (n - 1), none⟩ = some (.int .u32 (x : Nat))) :
    Calls Try.prog 49 #[.slice (some ⟨b, off, none⟩) n c] w fun e w' => e = .returned (.int .i64 (((n - 1) * 32 + Lib.bitLen x : Nat) : Int)) ∧ w' = w := by
  have h1 : ((n:Int) == 0) = false := by simp; omega
  have h2 : ((n:Int) - 1).toNat = n - 1 := by omega
  have K := hide (len32_any x w hx)
  have hl : Lib.bitLen x ≤ 64 := Lib.bitLen_le x 64 (by omega) (by omega)
  have HE := hide (show ((n:Int) - 1) * 32 + ((Lib.bitLen x : Nat) : Int) = (((n - 1) * 32 + Lib.bitLen x : Nat) : Int) from by omega)
  go_enter Try.func49, Try.ntmps49
  go_wp2_with fail
  refine (unhide K).mono ?_
  rintro e w' ⟨rfl, hw⟩
  obtain rfl := hw.symm
  go_wp2
  go_ret
  refine ⟨?_, rfl⟩
  show Ending.returned (Value.int IntKind.i64 (((n:Int) - 1) * 32 + ((Lib.bitLen x : Nat) : Int))) = _
  rw [unhide HE]

/-- natural.bitLen. -/
theorem bitLen_any (a : Option Addr) (n c : Nat) (xs : List Nat) (w : World) (h : Sl w a n c xs) (ok : Ok xs) (h0 : xs ≠ []) (hn : n ≤ 1000000000000) :
    Calls Try.prog 49 #[.slice a n c] w fun e w' => e = .returned (.int .i64 (bitsL xs : Nat)) ∧ w' = w := by
  have hl := h.len
  have hp : 0 < xs.length := List.length_pos_iff.2 h0
  rcases h.cells with e | ⟨b, off, rfl, k⟩
  · exact absurd e h0
  · have := bitLen_some b off n c (xs.getD (n - 1) 0) w (by omega) hn (ok.getD _) (k (n - 1) (by omega))
    unfold bitsL
    rw [hl]
    exact this
end Go.Proofs.Ytlecjjcpidjmhaa
