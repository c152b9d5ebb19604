/-
  natural.rootByBits: contract.
-/
import Derived.Test.YtpnhmaenmmelnaaDoorRt1
import Derived.Test.YtpnhmaenmmelnaaDoorPw1
import Derived.Test.YtpnhmaenmmelnaaDoorCmp
import Derived.Test.YtpnhmaenmmelnaaDoorOnes
namespace Go.Proofs.YtpnhmaenmmelnaaDoor
open Go.RowKit Go.Deep
set_option linter.unusedVariables false

theorem or_bit2 {x s : Nat} (hx : x < 4294967296) (hs : s < 32) (h : x % 2 ^ (s + 1) = 0) : x ||| 2 ^ s = x + 2 ^ s ∧ x + 2 ^ s < 4294967296 := by
  have h2 : 2 ^ s < 4294967296 := by have := Nat.pow_lt_pow_right (a := 2) (by decide) hs; omega
  have e : x = x / 2 ^ (s + 1) * 2 ^ (s + 1) := by have := Nat.div_add_mod x (2 ^ (s + 1)); rw [h, Nat.add_zero, Nat.mul_comm] at this; exact this.symm
  have e2 : x ||| 2 ^ s = x + 2 ^ s := by
    rw [e]
    have := Nat.shiftLeft_add_eq_or_of_lt (i := s + 1) (b := 2 ^ s) (Nat.pow_lt_pow_right (by decide) (by omega)) (x / 2 ^ (s + 1))
    rw [Nat.shiftLeft_eq] at this
    exact this.symm
  refine ⟨e2, ?_⟩
  rw [← e2]
  exact Nat.or_lt_two_pow (n := 32) hx h2

theorem bit_out {x s : Nat} (hx : x < 4294967296) (hs : s < 32) (h : x % 2 ^ (s + 1) = 0) : (x + 2 ^ s) &&& (4294967295 - 2 ^ s) = x := by
  have ho := or_bit2 hx hs h
  have h2 : 2 ^ s < 4294967296 := by have := Nat.pow_lt_pow_right (a := 2) (by decide) hs; omega
  have hh := and_not_add 32 (x + 2 ^ s) (2 ^ s) ho.2 h2
  have e : (x + 2 ^ s) &&& 2 ^ s = 2 ^ s := by
    rw [← ho.1]
    apply Nat.eq_of_testBit_eq
    intro i
    rw [Nat.testBit_and, Nat.testBit_or]
    cases x.testBit i <;> simp
  have e3 : (2:Nat) ^ 32 - 1 = 4294967295 := by decide
  rw [e, e3] at hh
  generalize (x + 2 ^ s) &&& (4294967295 - 2 ^ s) = q at *
  omega

theorem rb_mod {v i : Nat} (h : v % 2 ^ (i + 1) = 0) : v % 2 ^ i = 0 := by
  have e : v % 2 ^ (i + 1) % 2 ^ i = v % 2 ^ i := by rw [Nat.pow_succ, Nat.mod_mul_right_mod]
  rw [← e, h, Nat.zero_mod]
/-- What a round of rootByBits leaves. -/
structure RbR (wr w : World) (bz n k i v : Nat) : Prop where
  fn : Fn wr bz 0 1 (fun _ => v)
  lt : v < 4294967296
  mul : v % 2 ^ i = 0
  lo : v ^ k ≤ n
  hi : n < (v + 2 ^ i) ^ k
  bel : Below w.heap.size w wr

set_option maxHeartbeats 4000000 in
/-- natural.rootByBits. -/
theorem rootByBits_any (a : Option Addr) (n c : Nat) (xs : List Nat) (k size : Nat) (w : World) (h : Sl w a n c xs) (ox : Ok xs) (nx : Norm xs) (hx : xs ≠ []) (hn : n ≤ 2048) (hk : 1 ≤ k) (hk2 : k ≤ 1024) (hs : size ≤ 20) (hv : val xs < (2 ^ size) ^ k) :
    Calls Tryd.prog 78 #[.slice a n c, .int .i64 (k : Nat), .int .i64 (size : Nat)] w fun e w' => ∃ r, IsRoot (val xs) k r ∧ NewRep w w' r e := by
  have H := hide h
  have bel0 := (Below.refl w.heap.size w).alloc (Nat.le_refl _) (.cells #[.int .u32 0] 64)
  have HR0 := hide (show RbR (w.alloc (.cells #[.int .u32 0] 64)) w w.heap.size (val xs) k size 0 from ⟨fun i hi => by
      have : i = 0 := by omega
      subst this
      exact ⟨by simp, by simp⟩, by decide, by simp, by rw [Nat.zero_pow (by omega)]; omega, by rw [Nat.zero_add]; exact hv, bel0⟩)
  clear h bel0 hv
  go_enter Tryd.func78, Tryd.ntmps78
  go_wp2_with fail
  go_loopw [8] (fun iv wr => ∃ i v : Nat, i ≤ size ∧ iv = .int .i64 ((i : Int) - 1) ∧ RbR wr w w.heap.size (val xs) k i v) (fun iv _ => (intOf iv + 1).toNat)
  case atStart => exact ⟨size, 0, Nat.le_refl _, rfl, unhide HR0⟩
  case round =>
    clear HR0
    obtain ⟨i, v, hi, rfl, hR⟩ := hrel
    rcases i with _ | i
    · have t0 : ¬ (0:Int) ≤ ((0:Nat):Int) - 1 := by omega
      have hlo := hR.lo
      have hhi := hR.hi
      rw [Nat.pow_zero] at hhi
      have hv1 : v ≠ 0 := by
        intro e
        rw [e, Nat.zero_add, Nat.one_pow] at hhi
        have a := val_ge_of_norm nx hx
        have b := pow_pos (xs.length - 1)
        omega
      have hS := hR.fn.sl (Nat.le_refl 1) (by unfold maxLen; omega)
      have hE : lst (fun _ => v) 1 = [v] := rfl
      rw [hE] at hS
      have HN := hide (And.intro (show IsRoot (val xs) k v from ⟨hlo, hhi⟩) (And.intro hS (And.intro (show Rep v [v] from ⟨Ok.cons hR.lt Ok.nil, .inr (by simpa using hv1), by simp [val]⟩) hR.bel)))
      clear hR hlo hhi hS
      go_wp2_with fail
      go_ret
      exact ⟨v, (unhide HN).1, _, _, _, rfl, (unhide HN).2.1, (unhide HN).2.2.1, fun x hx => by cases hx; exact Nat.le_refl _, (unhide HN).2.2.2⟩
    · have t0 : ((i + 1 : Nat) : Int) - 1 = (i : Int) := by omega
      rw [t0]
      have t1 : (0:Int) ≤ (i:Int) := by omega
      have c1 := (hR.fn 0 (by decide)).1
      have c2 := (hR.fn 0 (by decide)).2
      simp only [Nat.zero_add] at c1 c2
      have ho := or_bit2 hR.lt (show i < 32 by omega) hR.mul
      have hp : 2 ^ i < 4294967296 := by have := Nat.pow_lt_pow_right (a := 2) (by decide) (show i < 32 by omega); omega
      have e1 := u32_or_nat v (2 ^ i) hR.lt hp
      rw [ho.1] at e1
      have e8 : (2:Int) ^ i = ((2 ^ i : Nat) : Int) := by rw [Int.natCast_pow]; rfl
      have ho2 := ho.2
      have e9 := bit_out hR.lt (show i < 32 by omega) hR.mul
      have e10 := u32_andNot_nat (v + 2 ^ i) (2 ^ i) ho.2 hp
      rw [e9] at e10
      have HR := hide hR
      have hvl := hR.lt
      clear hR e9 ho
      generalize hP : 2 ^ i = P at *
      have HP := hide hP
      clear hP
      have e11 : (P:Int) % 4294967296 = (P:Int) := by omega
      have e12 : IntKind.u32.wrap (P:Int) = (P:Int) := by rw [IntKind.wrap_u32]; omega
      generalize hu : v + P = u at *
      have HU := hide hu
      clear hu
      have U1 := (Upd.refl w.heap.size 0 1 wr).set 0 (.int .u32 (u : Nat)) (by omega) (by omega)
      have HB1 := hide ((unhide HR).bel.trans (U1.below (Nat.le_refl _) (unhide HR).bel.size)).drew
      have HF1 := hide (show Fn (wr.setCell ⟨w.heap.size, 0, none⟩ (.int .u32 (u : Nat))).drew w.heap.size 0 1 (fun _ => u) from (((unhide HR).fn.set 0 u (by decide)).congr (fun j hj => by simp; omega)))
      have hS1 := (unhide HF1).sl (Nat.le_refl 1) (by unfold maxLen; omega)
      rw [show lst (fun _ => u) 1 = [u] from rfl] at hS1
      have KP := power_any _ 1 1 [u] k _ hS1 (Ok.cons ho2 Ok.nil) (by omega) hk2
      rw [show val [u] = u from by simp [val]] at KP
      have KP' := hide KP
      clear U1 hS1 KP
      go_wp2_with fail
      go_region_with (fail)
      all_goals
        generalize (wr.setCell ⟨w.heap.size, 0, none⟩ (.int .u32 (u : Nat))).drew = wz at *
        go_wp2_with fail
        refine (unhide KP').mono ?_
        rintro e w2 ⟨a2, m2, z2, rfl, s2, r2, n2, b2⟩
        have hB2 := (unhide HB1).trans (b2.mono (unhide HB1).size)
        have KC := compare_any a2 a m2 m2 n c z2 xs w2 s2 ((unhide H).below hB2) r2.ok ox r2.norm nx
        rw [r2.val] at KC
        have HB2 := hide hB2
        have HF2 := hide (Fn.below (unhide HF1) b2)
        by_cases hgt : val xs < u ^ k
        · rw [cmpN_gt hgt] at KC
          have KC' := hide KC
          have HG := hide hgt
          clear KC hgt s2 r2 n2 b2 hB2 KP'
          go_wp2_with fail
          refine (unhide KC').mono ?_
          rintro e w3 ⟨rfl, j, hw⟩
          have HF3 := hide (show Fn w3 w.heap.size 0 1 (fun _ => u) from by rw [hw]; exact fn_drewN (unhide HF2) j)
          have HB3 := hide (show Below w.heap.size w w3 from by rw [hw]; exact bel_drewN (unhide HB2) j)
          have g1 := (unhide HF3 0 (by decide)).1
          have g2 := (unhide HF3 0 (by decide)).2
          simp only [Nat.zero_add] at g1 g2
          clear hw KC'
          go_wp2_with fail
          go_region_with (fail)
          all_goals
            go_wp2_with fail
            have U2 := (Upd.refl w.heap.size 0 1 w3).set 0 (.int .u32 (v : Nat)) (by omega) (by omega)
            refine ⟨⟨i, v, by omega, rfl, ?_, hvl, rb_mod (unhide HR).mul, (unhide HR).lo, ?_, ((unhide HB3).trans (U2.below (Nat.le_refl _) (unhide HB3).size)).drew⟩, by show ((i:Int) - 1 + 1).toNat < ((i:Int) + 1).toNat; omega⟩
            · exact ((unhide HF3).set 0 v (by decide)).congr (fun j hj => by simp; omega)
            · rw [unhide HP, unhide HU]; exact unhide HG
        · have hle : u ^ k ≤ val xs := by omega
          have hc0 : ¬ 0 < cmpN (u ^ k) (val xs) := by
            rcases Nat.lt_or_eq_of_le hle with h | h
            · rw [cmpN_lt h]; decide
            · rw [cmpN_eq h]; decide
          generalize cmpN (u ^ k) (val xs) = cc at *
          have KC' := hide KC
          have HG := hide hle
          clear KC hle hgt s2 r2 n2 b2 hB2 KP'
          go_wp2_with fail
          refine (unhide KC').mono ?_
          rintro e w3 ⟨rfl, j, hw⟩
          have HF3 := hide (show Fn w3 w.heap.size 0 1 (fun _ => u) from by rw [hw]; exact fn_drewN (unhide HF2) j)
          have HB3 := hide (show Below w.heap.size w w3 from by rw [hw]; exact bel_drewN (unhide HB2) j)
          clear hw KC'
          go_wp2_with fail
          refine ⟨⟨i, u, by omega, rfl, unhide HF3, ho2, ?_, unhide HG, ?_, unhide HB3⟩, by show ((i:Int) - 1 + 1).toNat < ((i:Int) + 1).toNat; omega⟩
          · rw [← unhide HU, ← unhide HP, Nat.add_mod_right]
            exact rb_mod (unhide HR).mul
          · have hh := (unhide HR).hi
            rw [show v + 2 ^ (i + 1) = u + 2 ^ i from by rw [← unhide HU, ← unhide HP, Nat.pow_succ]; omega] at hh
            exact hh
end Go.Proofs.YtpnhmaenmmelnaaDoor
