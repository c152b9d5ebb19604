/-
  sloperef1.times, Mul: contracts.
-/
import Derived.Test.YtlecjjcpidjmhaaRAdd
import Derived.Test.YtlecjjcpidjmhaaNMul
namespace Go.Proofs.Ytlecjjcpidjmhaa
open Go.RowKit Go.Deep
set_option linter.unusedVariables false

set_option maxHeartbeats 4000000 in
theorem rtimes_any (a1 a2 : Option Addr) (n1 c1 n2 c2 : Nat) (xs ys : List Nat) (w : World) (h1 : Sl w a1 n1 c1 xs) (h2 : Sl w a2 n2 c2 ys) (ox : Ok xs) (oy : Ok ys) (hb : n1 + n2 ≤ 1000000000) :
    Calls Try.prog 33 #[.slice a1 n1 c1, .slice a2 n2 c2] w fun e w' => ∃ zs, e = .returned (.slice (some ⟨w.heap.size, 0, none⟩) (n1 + n2) (n1 + n2)) ∧ Sl w' (some ⟨w.heap.size, 0, none⟩) (n1 + n2) (n1 + n2) zs ∧ Ok zs ∧ val zs = val xs * val ys ∧ Below w.heap.size w w' := by
  have hmk := make_sum n1 n2 (by omega)
  have bel0 := (Below.refl w.heap.size w).alloc (Nat.le_refl _) (.cells (madeCells #[.int .u32 0] (n1 + n2)) 77)
  have HL1 := hide h1.len
  have HL2 := hide h2.len
  have HN1 := hide (fun (hne : xs ≠ []) => h1.block_lt hne)
  have HN2 := hide (fun (hne : ys ≠ []) => h2.block_lt hne)
  have S1 := hide (h1.below bel0)
  have S2 := hide (h2.below bel0)
  have HB := hide bel0
  have hR0 : RowsR (w.alloc (.cells (madeCells #[.int .u32 0] (n1 + n2)) 77)) (w.alloc (.cells (madeCells #[.int .u32 0] (n1 + n2)) 77)) w.heap.size 0 (n1 + n2) ys xs 0 (fun _ => 0) := ⟨Fn.made w (n1 + n2) 77, fun _ _ => by decide, fun _ _ _ => rfl, by simp [valF, valF_zero], Upd.refl _ _ _ _⟩
  have HR0 := hide hR0
  clear h1 h2 bel0 hR0
  go_enter Try.func33, Try.ntmps33
  go_wp2_with fail
  generalize hw0 : (w.alloc (.cells (madeCells #[.int .u32 0] (n1 + n2)) 77)) = w0 at *
  have HW0 := hide hw0
  clear hw0
  go_loopw [6] (fun i wr => ∃ k : Nat, ∃ f : Nat → Nat, k ≤ n1 ∧ i = .int .i64 k ∧ RowsR wr w0 w.heap.size 0 (n1 + n2) ys xs k f) (fun i _ => n1 - (intOf i).toNat)
  case atStart => exact ⟨0, _, Nat.zero_le _, rfl, unhide HR0⟩
  case round =>
    clear HR0
    obtain ⟨k, f, hk, rfl, hR⟩ := hrel
    by_cases hlt : k < n1
    · have hlt' : (k:Int) < (n1:Int) := by omega
      have hX := ox.getD k
      have hxne : xs ≠ [] := by intro e; have := unhide HL1; rw [e] at this; simp at this; omega
      obtain ⟨b1, o1, rfl, hx⟩ := (unhide S1).cells.resolve_left hxne
      have hb1 : b1 < w.heap.size := unhide HN1 hxne _ rfl
      have HX1 := hide hx
      obtain ⟨wo, rfl⟩ : ∃ wo : World, wo = wr := ⟨_, rfl⟩
      have HR := hide hR
      clear hR hx hxne S1 HN1
      go_wp2_with fail
      go_loopw [7, 8] (fun cv jv wr => ∃ j c : Nat, ∃ g : Nat → Nat, j ≤ n2 ∧ jv = .int .i64 j ∧ cv = .int .u64 (c : Nat) ∧ RowR wr w0 w.heap.size 0 (n1 + n2) f k (xs.getD k 0) ys j c g) (fun _ jv _ => n2 - (intOf jv).toNat)
      case atStart => exact ⟨0, 0, f, Nat.zero_le _, rfl, rfl, (unhide HR).begin _⟩
      case round =>
        obtain ⟨j, c, g, hj, rfl, rfl, hQ⟩ := hrel
        have hc0 := hQ.cle
        by_cases hjl : j < n2
        · have hjl' : (j:Int) < (n2:Int) := by omega
          have hjl2 : (k:Int) + (j:Int) < (n1:Int) + (n2:Int) := by omega
          have hyne : ys ≠ [] := by intro e; have := unhide HL2; rw [e] at this; simp at this; omega
          obtain ⟨b2, o2, rfl, hy⟩ := (unhide S2).cells.resolve_left hyne
          have hb2 : b2 < w.heap.size := unhide HN2 hyne _ rfl
          have g1 := hQ.upd.cells (unhide HX1) (.inl (by omega)) k (by rw [unhide HL1]; exact hlt)
          have g2 := hQ.upd.cells hy (.inl (by omega)) j (by rw [unhide HL2]; exact hjl)
          have g3 := (hQ.fn (k + j) (by omega)).1
          have g4 := (hQ.fn (k + j) (by omega)).2
          rw [Nat.zero_add] at g3 g4
          have by' := oy.getD j
          have br := hQ.ok (k + j) (by omega)
          have HS0 := hQ.step (by omega) by' hX
          rw [Nat.zero_add] at HS0
          have HS := hide HS0
          clear HS0
          have mb : ((xs.getD k 0 : Nat) : Int) * ((ys.getD j 0 : Nat) : Int) ≤ 18446744065119617025 := by
            have := mul_bound hX by'
            rw [← Int.natCast_mul]; omega
          have mb0 : 0 ≤ ((xs.getD k 0 : Nat) : Int) * ((ys.getD j 0 : Nat) : Int) := Int.mul_nonneg (by omega) (by omega)
          have e1 := mdl_int (ys.getD j 0) (xs.getD k 0) (g (k + j)) c
          have e2 := mdh_int (ys.getD j 0) (xs.getD k 0) (g (k + j)) c
          rw [Int.mul_comm] at e1 e2
          generalize ys.getD j 0 = y at g2 by' HS mb mb0 e1 e2
          generalize hyy : xs.getD k 0 = x at g1 HS mb mb0 e1 e2 hX
          have HY := hide hyy
          generalize g (k + j) = r at g3 br HS e1 e2
          clear hQ hyy hy hyne S2 HN2
          go_wp2_with fail
          go_quiet (fail)
          go_wp2
          exact ⟨⟨j + 1, _, _, by omega, by go_num, rfl, (unhide HS).drewN _⟩, by simp [intOf]; omega⟩
        · have hjn : j = n2 := by omega
          subst hjn
          have hjl' : ¬ (j:Int) < (j:Int) := by omega
          have hjl3 : (k:Int) + (j:Int) < (n1:Int) + (j:Int) := by omega
          have g3 := (hQ.fn (k + j) (by omega)).1
          have g4 := (hQ.fn (k + j) (by omega)).2
          rw [Nat.zero_add] at g3 g4
          have HS := rows_step (unhide HL2) (unhide HR) hQ (by omega)
          rw [Nat.zero_add] at HS
          have HS' := hide HS
          generalize ((g (k + j) : Nat) : Int) = r at g3
          clear hQ HS HR
          go_wp2
          exact ⟨⟨k + 1, _, by omega, by go_num, unhide HS'⟩, by simp [intOf]; omega⟩
    · have hkn : k = n1 := by omega
      have hv : valF f (n1 + n2) = val xs * val ys := by
        have hv := hR.val
        rw [hkn, unhide HL2] at hv
        rw [hv, ← unhide HL1, valF_list, Nat.mul_comm]
      have HR := hide (And.intro hR hv)
      clear hR hv hkn
      go_wp2
      go_ret
      refine ⟨_, rfl, (unhide HR).1.fn.sl (Nat.le_refl _) (by unfold maxLen; omega), lst_ok (unhide HR).1.ok, (lst_val _ _).trans (unhide HR).2, (unhide HB).trans ((unhide HR).1.upd.below (Nat.le_refl _) (unhide HB).size)⟩

set_option maxHeartbeats 2000000 in
/-- sloperef1.Mul. -/
theorem rmul_any (a1 a2 : Option Addr) (n1 c1 n2 c2 : Nat) (xs ys : List Nat) (w : World) (h1 : Sl w a1 n1 c1 xs) (h2 : Sl w a2 n2 c2 ys) (ox : Ok xs) (oy : Ok ys) :
    Calls Try.prog 55 #[.slice a1 n1 c1, .slice a2 n2 c2] w fun e w' => Res2 w w' (mulL xs ys) e := by
  have K1 := rmay_any a1 n1 c1 xs w h1
  have K2 := rmay_any a2 n2 c2 ys w h2
  by_cases m1 : MayL xs = true
  · by_cases m2 : MayL ys = true
    · rw [m1] at K1; rw [m2] at K2
      have K1' := hide K1
      have K2' := hide K2
      have nx := MayL.norm m1
      have ny := MayL.norm m2
      have hl1 : n1 ≤ 2048 := by have := h1.len; have := MayL.len m1; omega
      have hl2 : n2 ≤ 2048 := by have := h2.len; have := MayL.len m2; omega
      have HC := hide (show mulL xs ys = fitL (val xs * val ys) from by simp [mulL, m1, m2])
      have KP := hide (rtimes_any a1 a2 n1 c1 n2 c2 xs ys w h1 h2 ox oy (by omega))
      clear K1 K2 m1 m2 h1 h2 ox oy nx ny
      go_enter Try.func55, Try.ntmps55
      go_wp2_with fail
      refine (unhide K1').mono ?_
      rintro e w' ⟨rfl, hw⟩
      obtain rfl := hw.symm
      go_wp2_with fail
      refine (unhide K2').mono ?_
      rintro e w' ⟨rfl, hw⟩
      obtain rfl := hw.symm
      go_wp2_with fail
      refine (unhide KP).mono ?_
      rintro e w1 ⟨zs, rfl, hs, hok, hv, hb⟩
      have KF := rfit_any _ _ _ zs w1 hs hok (by omega)
      rw [hv] at KF
      have KF' := hide KF
      have HB := hide hb
      clear KF hs hok hv hb KP
      go_wp2_with fail
      refine (unhide KF').mono ?_
      rintro e w2 ⟨a2', m2, c2', rfl, hs2, ha2, hb2⟩
      have HX := hide (And.intro hs2 (And.intro ha2 hb2))
      clear hs2 ha2 hb2
      go_wp2
      go_ret2
      rw [unhide HC]
      exact ⟨a2', m2, c2', rfl, (unhide HX).1, fun x hx => Nat.le_trans (unhide HB).size ((unhide HX).2.1 x hx), (unhide HB).trans ((unhide HX).2.2.mono (unhide HB).size)⟩
    · have m2' : MayL ys = false := by simpa using m2
      rw [m1] at K1; rw [m2'] at K2
      have K1' := hide K1
      have K2' := hide K2
      have HC := hide (show mulL xs ys = ([], 20) from by simp [mulL, m2'])
      clear K1 K2 m1 m2 m2' h1 h2 ox oy
      go_enter Try.func55, Try.ntmps55
      go_wp2_with fail
      refine (unhide K1').mono ?_
      rintro e w' ⟨rfl, hw⟩
      obtain rfl := hw.symm
      go_wp2_with fail
      refine (unhide K2').mono ?_
      rintro e w' ⟨rfl, hw⟩
      obtain rfl := hw.symm
      go_wp2
      go_ret2
      rw [unhide HC]
      exact ⟨none, 0, 0, rfl, sl_nil _, newAt_nil _, Below.refl _ _⟩
  · have m1' : MayL xs = false := by simpa using m1
    rw [m1'] at K1
    have K1' := hide K1
    have HC := hide (show mulL xs ys = ([], 20) from by simp [mulL, m1'])
    clear K1 K2 m1 m1' h1 h2 ox oy
    go_enter Try.func55, Try.ntmps55
    go_wp2_with fail
    refine (unhide K1').mono ?_
    rintro e w' ⟨rfl, hw⟩
    obtain rfl := hw.symm
    go_wp2
    go_ret2
    rw [unhide HC]
    exact ⟨none, 0, 0, rfl, sl_nil _, newAt_nil _, Below.refl _ _⟩
end Go.Proofs.Ytlecjjcpidjmhaa
