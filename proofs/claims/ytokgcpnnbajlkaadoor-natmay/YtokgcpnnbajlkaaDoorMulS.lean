/-
  natural.multiplyInto where one factor is short; multiply, bitLen, Mul there: contracts.
-/
import Derived.Test.YtokgcpnnbajlkaaDoorMul
import Derived.Test.YtokgcpnnbajlkaaDoorLen
namespace Go.Proofs.YtokgcpnnbajlkaaDoor
open Go.RowKit Go.Deep
set_option linter.unusedVariables false

structure MulPre (w : World) (bz oz nz cz : Nat) (a1 : Option Addr) (n1 c1 : Nat) (xs : List Nat) (a2 : Option Addr) (n2 c2 : Nat) (ys : List Nat) : Prop where
  h1 : Sl w a1 n1 c1 xs
  h2 : Sl w a2 n2 c2 ys
  s1 : ∀ x, a1 = some x → xs ≠ [] → x.block ≠ bz ∨ x.off + xs.length ≤ oz ∨ oz + nz ≤ x.off
  s2 : ∀ x, a2 = some x → ys ≠ [] → x.block ≠ bz ∨ x.off + ys.length ≤ oz ∨ oz + nz ≤ x.off
  ox : Ok xs
  oy : Ok ys
  hz : Fn w bz oz nz (fun _ => 0)
  hnz : n1 + n2 = nz
  hcz : nz ≤ cz
  hm : cz ≤ maxLen

theorem MulPre.swap {w : World} {bz oz nz cz : Nat} {a1 : Option Addr} {n1 c1 : Nat} {xs : List Nat} {a2 : Option Addr} {n2 c2 : Nat} {ys : List Nat} (h : MulPre w bz oz nz cz a1 n1 c1 xs a2 n2 c2 ys) : MulPre w bz oz nz cz a2 n2 c2 ys a1 n1 c1 xs :=
  ⟨h.h2, h.h1, h.s2, h.s1, h.oy, h.ox, h.hz, by have := h.hnz; omega, h.hcz, h.hm⟩

def MulPost (w : World) (bz oz nz : Nat) (v : Nat) (e : Ending) (w' : World) : Prop :=
  e = .returned (.tuple #[]) ∧ ∃ f', Fn w' bz oz nz f' ∧ (∀ i, i < nz → f' i < 4294967296) ∧ valF f' nz = v ∧ Upd bz oz (oz + nz) w w'

theorem make_sum (n1 n2 : Nat) (hn : n1 + n2 ≤ 70368744177000) (w : World) : (Instr.makeSlice 22 (.int .i64 ((n1 : Int) + (n2 : Int))) (.int .i64 ((n1 : Int) + (n2 : Int)))).run Tryd.prog w = .ok (.slice (some ⟨w.heap.size, 0, none⟩) (n1 + n2) (n1 + n2)) (w.alloc (.cells (madeCells #[.int .u32 0] (n1 + n2)) 47)) := by
  have := make_len (n1 + n2) (by omega) w
  rw [show ((n1 + n2 : Nat) : Int) = (n1 : Int) + (n2 : Int) from by omega] at this
  exact this

/-- The binary digits of a list of limbs. -/
def bitsL (xs : List Nat) : Nat := (xs.length - 1) * 32 + Lib.bitLen (xs.getD (xs.length - 1) 0)

set_option maxHeartbeats 800000 in
theorem bitLen_some (b off n c : Nat) (x : Nat) (w : World) (h0 : 0 < n) (hn : n ≤ 1000000000000) (hx : x < 4294967296) (hc : w.cell? ⟨b, off + (n - 1), none⟩ = some (.int .u32 (x : Nat))) :
    Calls Tryd.prog 20 #[.slice (some ⟨b, off, none⟩) n c] w fun e w' => e = .returned (.int .i64 (((n - 1) * 32 + Lib.bitLen x : Nat) : Int)) ∧ w' = w := by
  have h1 : ((n:Int) == 0) = false := by simp; omega
  have h2 : ((n:Int) - 1).toNat = n - 1 := by omega
  have K := hide (len32_any x w hx)
  have hl : Lib.bitLen x ≤ 64 := Lib.bitLen_le x 64 (by omega) (by omega)
  have HE := hide (show ((n:Int) - 1) * 32 + ((Lib.bitLen x : Nat) : Int) = (((n - 1) * 32 + Lib.bitLen x : Nat) : Int) from by omega)
  go_enter Tryd.func20, Tryd.ntmps20
  go_wp2_with fail
  refine (unhide K).mono ?_
  rintro e w' ⟨rfl, hw⟩
  obtain rfl := hw.symm
  go_wp2
  go_ret
  refine ⟨?_, rfl⟩
  show Ending.returned (Value.int IntKind.i64 (((n:Int) - 1) * 32 + ((Lib.bitLen x : Nat) : Int))) = _
  rw [unhide HE]

/-- natural.bitLen. -/
theorem bitLen_any (a : Option Addr) (n c : Nat) (xs : List Nat) (w : World) (h : Sl w a n c xs) (ok : Ok xs) (h0 : xs ≠ []) (hn : n ≤ 1000000000000) :
    Calls Tryd.prog 20 #[.slice a n c] w fun e w' => e = .returned (.int .i64 (bitsL xs : Nat)) ∧ w' = w := by
  have hl := h.len
  have hp : 0 < xs.length := List.length_pos_iff.2 h0
  rcases h.cells with e | ⟨b, off, rfl, k⟩
  · exact absurd e h0
  · have := bitLen_some b off n c (xs.getD (n - 1) 0) w (by omega) hn (ok.getD _) (k (n - 1) (by omega))
    unfold bitsL
    rw [hl]
    exact this
end Go.Proofs.YtokgcpnnbajlkaaDoor
