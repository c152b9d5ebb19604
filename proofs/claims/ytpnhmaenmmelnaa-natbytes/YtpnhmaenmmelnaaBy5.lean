/-
  sloperef1.FromBytes: contract.
-/
import Derived.Test.YtpnhmaenmmelnaaBy4
namespace Go.Proofs.Ytpnhmaenmmelnaa
open Go.RowKit Go.Deep
set_option linter.unusedVariables false

theorem fit_lt {v M : Nat} (h : v < 4294967296 ^ M) (hM : M ≤ 2048) : fitL v = (limbs v, 0) := by
  apply fitL_ok
  intro hb
  have hr := limbs_rep v
  have h2 := val_ge_of_norm hr.norm (by intro e; rw [e] at hb; simp at hb)
  have h4 : 4294967296 ^ M ≤ 4294967296 ^ ((limbs v).length - 1) := pow_mono (by omega)
  rw [hr.val] at h2
  omega

set_option maxHeartbeats 8000000 in
theorem rfromB_any (a : Option Addr) (n c : Nat) (bs : List Nat) (w : World) (h : SlB w a n c bs) (hc : c ≤ maxLen) :
    Calls Try.prog 25 #[.slice a n c] w fun e w' => Res2 w w' (fromBytesL bs) e := by
  have HL := hide h.len
  have hle := h.le
  have HB := hide h
  have hn' : n ≤ 9223372036854775807 := by unfold maxLen at hc; omega
  clear h hc
  go_enter Try.func25, Try.ntmps25
  go_wp2_with fail
  go_loop [4] (fun v => ∃ (d : Nat), d ≤ n ∧ v = .int .i64 (d : Nat) ∧ Hid (∀ i, i < d → bs.getD i 0 = 0)) (fun v => n - (intOf v).toNat)
  case atStart => exact ⟨0, Nat.zero_le _, rfl, fun i hi => by omega⟩
  case round =>
    obtain ⟨d, hd, rfl, HZ⟩ := hrel
    by_cases hlt : d < n ∧ bs.getD d 0 = 0
    · obtain ⟨hlt, hz⟩ := hlt
      have i1 : (d:Int) < (n : Int) := by omega
      have hne : bs ≠ [] := by intro e; have := unhide HL; rw [e] at this; simp at this; omega
      obtain ⟨b', o', rfl, hcell⟩ := (unhide HB).cells.resolve_left hne
      have g1 := hcell d (by rw [unhide HL]; exact hlt)
      rw [hz] at g1
      have HZ2 := hide (show ∀ i, i < d + 1 → bs.getD i 0 = 0 from fun i hi => by
        by_cases e : i = d
        · rw [e]; exact hz
        · exact unhide HZ i (by omega))
      clear hcell hz HZ hne
      go_wp2_with fail
      exact ⟨⟨d + 1, by omega, by go_num, unhide HZ2⟩, by simp [intOf]; omega⟩
    · have HD := hide (strip_drop bs d (by rw [unhide HL]; exact hd) (unhide HZ) (by
        by_cases e : d < n
        · exact .inr (fun hz => hlt ⟨e, hz⟩)
        · exact .inl (by rw [unhide HL]; omega)))
      have HLN := hide (show (bs.drop d).length = n - d by rw [List.length_drop, unhide HL])
      have hlt' : d = n ∨ (d < n ∧ bs.getD d 0 ≠ 0) := by
        by_cases e : d < n
        · exact .inr ⟨e, fun hz => hlt ⟨e, hz⟩⟩
        · exact .inl (by omega)
      clear hlt HZ
      obtain ⟨m, hm⟩ : ∃ m, n - d = m := ⟨_, rfl⟩
      have m0 : (n:Int) - (d:Int) = (m:Int) := by omega
      rcases hlt' with hdn | ⟨hlt, hz⟩
      · have hdn' : ¬ (d:Int) < (n:Int) := by omega
        have hm0 : m = 0 := by omega
        have HC := hide (show fromBytesL bs = (limbs 0, 0) from by unfold fromBytesL; rw [unhide HD, List.drop_eq_nil_of_le (by rw [unhide HL]; omega)]; simp [valB])
        have hmk : ∀ v : World, (Instr.makeSlice 22 (.int .i64 0) (.int .i64 0)).run Try.prog v = .ok (.slice (some ⟨v.heap.size, 0, none⟩) 0 0) (v.alloc (.cells (madeCells #[.int .u32 0] 0) 84)) := fun v => make_len 0 (by omega) v
        have KT := rfit_any (some ⟨w.heap.size, 0, none⟩) 0 0 [] (w.alloc (.cells (madeCells #[.int .u32 0] 0) 84)) ⟨rfl, Nat.le_refl _, Nat.zero_le _, .inl rfl⟩ Ok.nil (by omega)
        have KT' := hide KT
        subst hm0
        clear KT HD hm hdn
        go_wp2_with fail
        go_loopw [6] (fun iv wr => iv = .int .i64 0 ∧ wr = w.alloc (.cells (madeCells #[.int .u32 0] 0) 84)) (fun _ _ => 0)
        case atStart => exact ⟨rfl, rfl⟩
        case round =>
          obtain ⟨rfl, rfl⟩ := hrel
          go_wp2_with fail
          refine (unhide KT').mono ?_
          rintro e w' ⟨az, mz, cz, rfl, sz, nz, hw⟩
          have HZZ := hide (And.intro sz (And.intro nz hw))
          clear sz nz hw KT'
          go_wp2
          go_ret2
          obtain ⟨sz, nz, hw⟩ := unhide HZZ
          rw [unhide HC]
          refine ⟨az, mz, cz, rfl, sz, fun x hx => ?_, ((Below.refl _ _).alloc (Nat.le_refl _) _).trans (hw.mono (by simp))⟩
          have := nz x hx
          simp at this
          omega
      · obtain ⟨x0, hx0⟩ : ∃ x0, bs.getD d 0 = x0 := ⟨_, rfl⟩
        have i1 : (d:Int) < (n:Int) := by omega
        have hne : bs ≠ [] := by intro e; have := unhide HL; rw [e] at this; simp at this; omega
        obtain ⟨b, off, rfl, hcell⟩ := (unhide HB).cells.resolve_left hne
        have g1 := hcell d (by rw [unhide HL]; exact hlt)
        rw [hx0] at g1 hz
        have hz2 : ¬ (x0 : Int) = 0 := by omega
        have hz3 : ((x0 : Int) == 0) = false := by rw [beq_eq_false_iff_ne]; exact hz2
        have HCELL := hide hcell
        rw [hm] at HLN
        clear hcell hne hx0 hz
        by_cases hbig : 8192 < m
        · have HC := hide (show fromBytesL bs = ([], 2) from by unfold fromBytesL; rw [unhide HD, if_pos (by rw [unhide HLN]; exact hbig)])
          have hbig' : (8192:Int) < (m : Int) := by omega
          go_wp2_with fail
          go_ret2
          rw [unhide HC]
          exact ⟨none, 0, 0, rfl, sl_nil _, newAt_nil _, Below.refl _ _⟩
        · have HC := hide (show fromBytesL bs = (limbs (valB (bs.drop d)), 0) from by unfold fromBytesL; rw [unhide HD, if_neg (by rw [unhide HLN]; exact hbig)])
          have hbig' : ¬ (8192:Int) < (m : Int) := by omega
          obtain ⟨M, hM⟩ : ∃ M, (m + 3) / 4 = M := ⟨_, rfl⟩
          have hmk := make_len M (by omega)
          have m1 : ((m : Int) + 3).tdiv 4 = (M:Int) := by rw [Int.tdiv_eq_ediv_of_nonneg (by omega)]; omega
          have m2 : ((m : Int) + 3) / 4 = (M:Int) := by omega
          go_wp2_with fail
          have HM := hide (And.intro hM (show ∀ x ∈ bs.drop d, x < 256 from fun x hx => (unhide HB).ok x (List.mem_of_mem_drop hx)))
          have HR0 := hide (show FbR (w.alloc (.cells (madeCells #[.int .u32 0] M) 84)) w M (bs.drop d) 0 (fun _ => 0) from ⟨Fn.made w M _, fun _ _ => by decide, by rw [valF_zero]; rfl, (Below.refl _ _).alloc (Nat.le_refl _) _⟩)
          have hM3 : M ≤ 2048 := by omega
          clear hM m1 m2 hmk
          go_loopw [6] (fun iv wr => ∃ (i : Nat) (f : Nat → Nat), i ≤ m ∧ iv = .int .i64 (i : Nat) ∧ FbR wr w M (bs.drop d) i f) (fun iv _ => m - (intOf iv).toNat)
          case atStart => exact ⟨0, _, Nat.zero_le _, rfl, unhide HR0⟩
          case round =>
            clear HR0
            obtain ⟨i, f, hi, rfl, hR⟩ := hrel
            by_cases hil : i < m
            · have hil' : (i:Int) < (m:Int) := by omega
              obtain ⟨l, hl⟩ : ∃ l, i / 4 = l := ⟨_, rfl⟩
              obtain ⟨s, hs⟩ : ∃ s, i % 4 = s := ⟨_, rfl⟩
              obtain ⟨q, hq⟩ : ∃ q, n - 1 - i = q := ⟨_, rfl⟩
              have hM2 := (unhide HM).1
              have hlM : l < M := by omega
              have hlM' : (l:Int) < (M:Int) := by omega
              have hqm : q < n := by omega
              have hqm' : (q:Int) < (n:Int) := by omega
              have a1 : (i:Int).tdiv 4 = (l:Int) := by rw [Int.tdiv_eq_ediv_of_nonneg (by omega)]; omega
              have a2 : (i:Int) / 4 = (l:Int) := by omega
              have a3 : (i:Int).tmod 4 = (s:Int) := by rw [Int.tmod_eq_emod_of_nonneg (by omega)]; omega
              have a4 : (i:Int) % 4 = (s:Int) := by omega
              have a5 : (n:Int) - 1 - (i:Int) = (q:Int) := by omega
              have k0 := unhide HCELL q (by rw [unhide HL]; omega)
              have k1 : wr.cell? ⟨b, off + q, none⟩ = _ := (hR.bel.cell (World.block_lt_of_cell? _ _ k0)).trans k0
              have ec : (bs.drop d).getD ((bs.drop d).length - 1 - i) 0 = bs.getD q 0 := by
                rw [unhide HLN, show q = d + (m - 1 - i) from by omega]
                simp [List.getD]
              have hc2 : bs.getD q 0 < 256 := by
                rw [show bs.getD q 0 = bs[q]'(by rw [unhide HL]; omega) from by simp [List.getD, show q < bs.length from by rw [unhide HL]; omega]]
                exact (unhide HB).ok _ (List.getElem_mem _)
              have hS := hR.step (unhide HM).2 hl hs hlM ec hc2
              have hp := byte_put hR.ok hl hs hlM (by rw [hR.val]; exact lowB_lt (unhide HM).2 i) hc2
              have c1 := (hR.fn l hlM).1
              have c2 := (hR.fn l hlM).2
              rw [Nat.zero_add] at c1 c2
              have HS := hide hS
              have e1 := hp.1
              have e2 := hp.2.2.1
              have e3 := hp.2.1
              have fb := hR.ok l hlM
              generalize bs.getD q 0 = x at *
              have b8 : (8:Int) * (s:Int) = ((8 * s : Nat) : Int) := by omega
              have hs24 : 8 * s ≤ 24 := by omega
              generalize 8 * s = t at *
              have e4 : (x:Int) * 2 ^ t = ((x * 2 ^ t : Nat) : Int) := by rw [Int.natCast_mul, Int.natCast_pow]; rfl
              generalize x * 2 ^ t = y at *
              have e5 : IntKind.u32.wrap (y:Int) = (y:Int) := by rw [IntKind.wrap_u32]; omega
              generalize f l = fl at *
              generalize fl + y = z at *
              clear hR hS hp k0 ec hl hs hq hM2
              go_wp2_with fail
              go_region
              go_wp2_with fail
              exact ⟨⟨i + 1, _, by omega, by go_num, by first | exact (unhide HS).drewN _ | exact (unhide HS).drewN 1 | exact unhide HS⟩, by simp [intOf]; omega⟩
            · have him : i = m := by omega
              subst him
              have hil' : ¬ (i:Int) < (i:Int) := by omega
              have hv := hR.val
              rw [← unhide HLN, lowB_all] at hv
              have KT := rfit_any _ M M _ wr (hR.fn.sl (Nat.le_refl _) (by unfold maxLen; omega)) (lst_ok hR.ok) (by omega)
              rw [lst_val, hv] at KT
              have hfit : fitL (valB (bs.drop d)) = (limbs (valB (bs.drop d)), 0) := fit_lt (M := M) (by rw [← hv]; exact valF_lt hR.ok) hM3
              rw [hfit] at KT
              have KT' := hide KT
              have HBB := hide (And.intro hR.bel (hR.fn))
              clear KT hR hv hfit
              go_wp2_with fail
              refine (unhide KT').mono ?_
              rintro e w' ⟨az, mz, cz, rfl, sz, nz, hw⟩
              have HZZ := hide (And.intro sz (And.intro nz hw))
              clear sz nz hw KT'
              go_wp2
              go_ret2
              obtain ⟨sz, nz, hw⟩ := unhide HZZ
              rw [unhide HC]
              have hsz := (unhide HBB).1.size
              refine ⟨az, mz, cz, rfl, sz, fun x hx => ?_, (unhide HBB).1.trans (hw.mono hsz)⟩
              have := nz x hx
              omega
end Go.Proofs.Ytpnhmaenmmelnaa
