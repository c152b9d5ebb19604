/-
  natural.FromBytes: contract.
-/
import Derived.Test.YtlecjjcpidjmhaaBy3
namespace Go.Proofs.Ytlecjjcpidjmhaa
open Go.RowKit Go.Deep
set_option linter.unusedVariables false

structure FbR (wr w : World) (M : Nat) (r : List Nat) (i : Nat) (f : Nat → Nat) : Prop where
  fn : Fn wr w.heap.size 0 M f
  ok : ∀ j, j < M → f j < 4294967296
  val : valF f M = lowB r i
  bel : Below w.heap.size w wr

theorem FbR.drewN {wr w : World} {M : Nat} {r : List Nat} {i : Nat} {f : Nat → Nat} (h : FbR wr w M r i f) (j : Nat) : FbR (wr.drewN j) w M r i f := ⟨h.fn, h.ok, h.val, bel_drewN h.bel j⟩
theorem FbR.step {wr w : World} {M : Nat} {r : List Nat} {i l s c : Nat} {f : Nat → Nat} (h : FbR wr w M r i f) (okr : ∀ x ∈ r, x < 256) (hl : i / 4 = l) (hs : i % 4 = s) (hM : l < M) (hc : r.getD (r.length - 1 - i) 0 = c) (hc2 : c < 256) :
    FbR (wr.setCell ⟨w.heap.size, l, none⟩ (.int .u32 (f l + c * 2 ^ (8 * s) : Nat))) w M r (i + 1) (fun j => if j = l then f l + c * 2 ^ (8 * s) else f j) := by
  have hp := byte_put h.ok hl hs hM (by rw [h.val]; exact lowB_lt okr i) hc2
  have hS := h.fn.set l (f l + c * 2 ^ (8 * s)) hM
  rw [Nat.zero_add] at hS
  refine ⟨hS, ?_, ?_, h.bel.trans (((Upd.refl w.heap.size 0 M wr).set l (.int .u32 (f l + c * 2 ^ (8 * s) : Nat)) (by omega) hM).below (Nat.le_refl _) h.bel.size)⟩
  · intro j hj
    by_cases e : j = l
    · simp only [e, if_true]; exact hp.2.1
    · simp only [e, if_false]; exact h.ok j hj
  · rw [valF_putB hM, h.val, hp.2.2.2]
    simp only [lowB]
    rw [hc]

set_option maxHeartbeats 8000000 in
theorem nfrom_some (b off n c : Nat) (bs : List Nat) (w : World) (h : SlB w (some ⟨b, off, none⟩) n c bs) (hc : c ≤ maxLen) :
    Calls Try.prog 19 #[.slice (some ⟨b, off, none⟩) n c] w fun e w' => Res2 w w' (fromBytesL bs) e := by
  have HL := hide h.len
  have hle := h.le
  have HB := hide h
  have hc' : c ≤ 9223372036854775807 := by unfold maxLen at hc; omega
  clear h hc
  go_enter Try.func19, Try.ntmps19
  go_wp2_with fail
  go_loop [0] (fun v => ∃ (d : Nat) (a' : Option Addr), d ≤ n ∧ v = .slice a' (n - d) (c - d) ∧ Hid (d < n → a' = some ⟨b, off + d, none⟩) ∧ Hid (∀ i, i < d → bs.getD i 0 = 0)) (fun v => match v with | .slice _ m _ => m | _ => 0)
  case atStart => exact ⟨0, _, Nat.zero_le _, rfl, fun _ => rfl, fun i hi => by omega⟩
  case round =>
    obtain ⟨d, a', hd, rfl, HA, HZ⟩ := hrel
    by_cases hlt : d < n
    · obtain rfl := unhide HA hlt
      have i1 : (0:Int) < ((n - d : Nat) : Int) := by omega
      have hne : bs ≠ [] := by intro e; have := unhide HL; rw [e] at this; simp at this; omega
      obtain ⟨b', o', e, hcell⟩ := (unhide HB).cells.resolve_left hne
      cases e
      have g1 := hcell d (by rw [unhide HL]; exact hlt)
      by_cases hz : bs.getD d 0 = 0
      · rw [hz] at g1
        have HZ2 := hide (show ∀ i, i < d + 1 → bs.getD i 0 = 0 from fun i hi => by
          by_cases e : i = d
          · rw [e]; exact hz
          · exact unhide HZ i (by omega))
        clear hcell hz HZ hne HA
        go_wp2_with fail
        refine ⟨⟨d + 1, _, by omega, by rw [show n - d - 1 = n - (d + 1) from by omega, show c - d - 1 = c - (d + 1) from by omega], ?_, unhide HZ2⟩, by simp only; omega⟩
        intro hlt2
        rw [if_neg (by omega), Nat.add_assoc]
      · have HD := hide (strip_drop bs d (by rw [unhide HL]; exact hd) (unhide HZ) (.inr hz))
        have hln : (bs.drop d).length = n - d := by rw [List.length_drop, unhide HL]
        have g2 := g1
        have hz2 : ¬ ((bs.getD d 0 : Nat) : Int) = 0 := by omega
        have hz3 : ((((bs.getD d 0 : Nat) : Int)) == 0) = false := by rw [beq_eq_false_iff_ne]; exact hz2
        generalize bs.getD d 0 = x0 at g1 hz2 hz3 g2
        have HLN := hide hln
        by_cases hbig : 8192 < n - d
        · have HC := hide (show fromBytesL bs = ([], 2) from by unfold fromBytesL; rw [unhide HD, if_pos (by rw [unhide HLN]; exact hbig)])
          have hbig' : (8192:Int) < ((n - d : Nat) : Int) := by omega
          clear hcell hz HZ hne HA
          go_wp2_with fail
          go_ret2
          rw [unhide HC]
          exact ⟨none, 0, 0, rfl, sl_nil _, newAt_nil _, Below.refl _ _⟩
        · have HC := hide (show fromBytesL bs = (limbs (valB (bs.drop d)), 0) from by unfold fromBytesL; rw [unhide HD, if_neg (by rw [unhide HLN]; exact hbig)])
          have hbig' : ¬ (8192:Int) < ((n - d : Nat) : Int) := by omega
          obtain ⟨M, hM⟩ : ∃ M, (n - d + 3) / 4 = M := ⟨_, rfl⟩
          have hmk := make_len M (by omega)
          have m1 : (((n - d : Nat) : Int) + 3).tdiv 4 = (M:Int) := by rw [Int.tdiv_eq_ediv_of_nonneg (by omega)]; omega
          have m2 : (((n - d : Nat) : Int) + 3) / 4 = (M:Int) := by omega
          clear hcell hz HZ hne HA
          go_wp2_with fail
          have HM := hide (And.intro hM (show ∀ x ∈ bs.drop d, x < 256 from fun x hx => (unhide HB).ok x (List.mem_of_mem_drop hx)))
          have HR0 := hide (show FbR (w.alloc (.cells (madeCells #[.int .u32 0] M) 77)) w M (bs.drop d) 0 (fun _ => 0) from ⟨Fn.made w M _, fun _ _ => by decide, by rw [valF_zero]; rfl, (Below.refl _ _).alloc (Nat.le_refl _) _⟩)
          generalize hm : n - d = m at *
          go_loopw [27] (fun iv wr => ∃ (i : Nat) (f : Nat → Nat), i ≤ m ∧ iv = .int .i64 (i : Nat) ∧ FbR wr w M (bs.drop d) i f) (fun iv _ => m - (intOf iv).toNat)
          case atStart => exact ⟨0, _, Nat.zero_le _, rfl, unhide HR0⟩
          case round =>
            clear HR0
            obtain ⟨i, f, hi, rfl, hR⟩ := hrel
            by_cases hil : i < m
            · have hil' : (i:Int) < (m:Int) := by omega
              obtain ⟨l, hl⟩ : ∃ l, i / 4 = l := ⟨_, rfl⟩
              obtain ⟨s, hs⟩ : ∃ s, i % 4 = s := ⟨_, rfl⟩
              obtain ⟨q, hq⟩ : ∃ q, m - 1 - i = q := ⟨_, rfl⟩
              have hM2 := (unhide HM).1
              have hlM : l < M := by omega
              have hlM' : (l:Int) < (M:Int) := by omega
              have hqm : q < m := by omega
              have hqm' : (q:Int) < (m:Int) := by omega
              have a1 : (i:Int).tdiv 4 = (l:Int) := by rw [Int.tdiv_eq_ediv_of_nonneg (by omega)]; omega
              have a2 : (i:Int) / 4 = (l:Int) := by omega
              have a3 : (i:Int).tmod 4 = (s:Int) := by rw [Int.tmod_eq_emod_of_nonneg (by omega)]; omega
              have a4 : (i:Int) % 4 = (s:Int) := by omega
              have a5 : (m:Int) - 1 - (i:Int) = (q:Int) := by omega
              have hne : bs ≠ [] := by intro e; have := unhide HL; rw [e] at this; simp at this; omega
              obtain ⟨b', o', e, hcell⟩ := (unhide HB).cells.resolve_left hne
              cases e
              have k0 := hcell (d + q) (by rw [unhide HL]; omega)
              rw [← Nat.add_assoc] at k0
              have k1 : wr.cell? ⟨b, off + d + q, none⟩ = _ := (hR.bel.cell (World.block_lt_of_cell? _ _ k0)).trans k0
              have ec : (bs.drop d).getD ((bs.drop d).length - 1 - i) 0 = bs.getD (d + q) 0 := by
                rw [unhide HLN, hq]
                simp [List.getD]
              have hc2 : bs.getD (d + q) 0 < 256 := by
                rw [show bs.getD (d + q) 0 = bs[d + q]'(by rw [unhide HL]; omega) from by simp [List.getD, show d + q < bs.length from by rw [unhide HL]; omega]]
                exact (unhide HB).ok _ (List.getElem_mem _)
              have hS := hR.step (unhide HM).2 hl hs hlM ec hc2
              have hp := byte_put hR.ok hl hs hlM (by rw [hR.val]; exact lowB_lt (unhide HM).2 i) hc2
              have c1 := (hR.fn l hlM).1
              have c2 := (hR.fn l hlM).2
              rw [Nat.zero_add] at c1 c2
              have HS := hide hS
              have e1 := hp.1
              have e2 := hp.2.2.1
              have e3 := hp.2.1
              have fb := hR.ok l hlM
              generalize bs.getD (d + q) 0 = x at *
              have b8 : (8:Int) * (s:Int) = ((8 * s : Nat) : Int) := by omega
              have hs24 : 8 * s ≤ 24 := by omega
              generalize 8 * s = t at *
              have e4 : (x:Int) * 2 ^ t = ((x * 2 ^ t : Nat) : Int) := by rw [Int.natCast_mul, Int.natCast_pow]; rfl
              generalize x * 2 ^ t = y at *
              have e5 : IntKind.u32.wrap (y:Int) = (y:Int) := by rw [IntKind.wrap_u32]; omega
              generalize f l = fl at *
              generalize fl + y = z at *
              clear hR hS hp hcell k0 ec hne hl hs hq hM2
              go_wp2_with fail
              go_region
              go_wp2_with fail
              exact ⟨⟨i + 1, _, by omega, by go_num, by first | exact (unhide HS).drewN _ | exact (unhide HS).drewN 1 | exact unhide HS⟩, by simp [intOf]; omega⟩
            · have him : i = m := by omega
              subst him
              have hil' : ¬ (i:Int) < (i:Int) := by omega
              have hv := hR.val
              rw [← unhide HLN, lowB_all] at hv
              have KT := trim_any _ M M _ wr (hR.fn.sl (Nat.le_refl _) (by unfold maxLen; omega)) (lst_ok hR.ok)
              rw [lst_val, hv] at KT
              have KT' := hide KT
              have HBB := hide hR.bel
              clear KT hR hv
              go_wp2_with fail
              refine (unhide KT').mono ?_
              rintro e w' ⟨az, mz, zs, rfl, sz, rz, hz, hw⟩
              obtain rfl := hw.symm
              have HZZ := hide (And.intro sz (And.intro rz hz))
              clear sz rz hz hw KT'
              go_wp2
              go_ret2
              obtain ⟨sz, rz, hz⟩ := unhide HZZ
              rw [unhide HC]
              rw [rz.eq] at sz
              refine ⟨az, mz, mz, rfl, sz, ?_, unhide HBB⟩
              intro x hx
              rcases hz with e | e
              · rw [e] at hx; cases hx; exact Nat.le_refl _
              · rw [e] at hx; cases hx
    · have hdn : d = n := by omega
      have HD := hide (strip_drop bs d (by rw [unhide HL]; exact hd) (unhide HZ) (.inl (by rw [unhide HL]; exact hdn)))
      have HC := hide (show fromBytesL bs = (limbs 0, 0) from by unfold fromBytesL; rw [unhide HD, List.drop_eq_nil_of_le (by rw [unhide HL]; omega)]; simp [valB])
      have hm0 : n - d = 0 := by omega
      rw [hm0]
      have hmk : ∀ v : World, (Instr.makeSlice 22 (.int .i64 0) (.int .i64 0)).run Try.prog v = .ok (.slice (some ⟨v.heap.size, 0, none⟩) 0 0) (v.alloc (.cells (madeCells #[.int .u32 0] 0) 77)) := fun v => make_len 0 (by omega) v
      have KT := trim_any (some ⟨w.heap.size, 0, none⟩) 0 0 [] (w.alloc (.cells (madeCells #[.int .u32 0] 0) 77)) ⟨rfl, Nat.le_refl _, Nat.zero_le _, .inl rfl⟩ Ok.nil
      have KT' := hide KT
      clear KT HA HZ HD hdn hm0
      go_wp2_with fail
      go_loopw [27] (fun iv wr => iv = .int .i64 0 ∧ wr = w.alloc (.cells (madeCells #[.int .u32 0] 0) 77)) (fun _ _ => 0)
      case atStart => exact ⟨rfl, rfl⟩
      case round =>
        obtain ⟨rfl, rfl⟩ := hrel
        go_wp2_with fail
        refine (unhide KT').mono ?_
        rintro e w' ⟨az, mz, zs, rfl, sz, rz, hz, hw⟩
        obtain rfl := hw.symm
        have HZZ := hide (And.intro sz (And.intro rz hz))
        clear sz rz hz hw KT'
        go_wp2
        go_ret2
        obtain ⟨sz, rz, hz⟩ := unhide HZZ
        rw [unhide HC]
        rw [rz.eq] at sz
        refine ⟨az, mz, mz, rfl, sz, ?_, (Below.refl _ _).alloc (Nat.le_refl _) _⟩
        intro x hx
        rcases hz with e | e
        · rw [e] at hx; cases hx; exact Nat.le_refl _
        · rw [e] at hx; cases hx
end Go.Proofs.Ytlecjjcpidjmhaa
