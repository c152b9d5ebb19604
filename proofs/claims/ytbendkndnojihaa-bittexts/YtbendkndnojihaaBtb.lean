/-
  slopelaw3.twin, kept: contracts.
-/
import Derived.Test.YtbendkndnojihaaBt8
namespace Go.Proofs.Ytbendkndnojihaa
open Go.RowKit Go.Deep
set_option linter.unusedVariables false

def markN : Nat := 8608480567731124087

set_option maxHeartbeats 2000000 in
/-- slopelaw3.twin. -/
theorem twin_any (s : Int) (a : Option Addr) (n c : Nat) (xs : List Nat) (w : World) (h : SlW w a n c xs) (hn : n ≤ 17592186043904) (hnil : a = none → n = 0 ∧ c = 0) :
    Calls Try.prog 10 #[setV s a n c] w fun e w' => ∃ b cap, e = .returned (setV s (some ⟨b, 0, none⟩) n cap) ∧ SlW w' (some ⟨b, 0, none⟩) (n + 1) cap (xs ++ [markN]) ∧ Below w.heap.size w w' := by
  have hle := h.le
  have hcap := h.cap
  unfold maxLen at hcap
  obtain ⟨i64, hi, hz, hs, hb⟩ := info_parts Try.info_u64
  have HI := hide (And.intro hi (And.intro hz (And.intro hs hb)))
  obtain ⟨wa, hwa⟩ : ∃ wa, w.alloc (.cells #[.int .i64 s, .slice a n c] 24) = wa := ⟨_, rfl⟩
  obtain ⟨wb, hwb⟩ : ∃ wb, wa.alloc (.cells #[.int .i64 0, .slice none 0 0] 24) = wb := ⟨_, rfl⟩
  have hba : Below w.heap.size w wa := by rw [← hwa]; exact (Below.refl _ _).alloc (Nat.le_refl _) _
  have hbb : Below wa.heap.size wa wb := by rw [← hwb]; exact (Below.refl _ _).alloc (Nat.le_refl _) _
  have hT : Two wb w.heap.size (.int .i64 s) (.slice a n c) := by
    refine Two.keep (w := wa) ?_ hbb
    rw [← hwa]; exact Two.made _ _ _ _
  have hR : Two wb wa.heap.size (.int .i64 0) (.slice none 0 0) := by rw [← hwb]; exact Two.made _ _ _ _
  have hBB := hba.trans (hbb.mono hba.size)
  have HA := hide (And.intro hT (And.intro hR (And.intro ((h.below hba).below hbb) hBB)))
  have t1 := hT.c1
  have hszw : w.heap.size < wa.heap.size := by rw [← hwa]; simp
  have HNil := hide hnil
  have HL := hide h.len
  clear h hnil hi hz hs hb hba hbb hT hR hBB
  unfold setV
  go_enter Try.func10, Try.ntmps10
  go_wp2_with (at_builtin; refine wpList_append_nil rfl _ _ 22 rfl wb.heap.size 66 i64 (.int .u64 0) 8 Try.underlying22 (unhide HI).1 (unhide HI).2.1 (unhide HI).2.2.1 (unhide HI).2.2.2 rfl rfl a n c (xs.map vU) rfl ?hl (unhide HNil) ?hnews ?hone ?h63 ?hby (Nat.le_refl _) ?_)
  case hl => simp [unhide HL]
  case hnews => exact (unhide HA).2.2.1.news
  case hone => intro u hu; simp at hu; obtain ⟨x, _, rfl⟩ := hu; rfl
  case h63 => unfold maxLen; omega
  case hby => omega
  intro v1 w1 hown hg
  have hB1 : Below wb.heap.size wb w1 := Below.grown (Below.refl _ _) hg (Nat.le_refl _) (fun k hk => by cases hk)
  have hz1 := hg.size
  have HO := hide hown
  have HB1 := hide hB1
  clear hown hg hB1
  go_wp2_with (at_builtin; refine wpList_append_lies _ rfl _ _ 22 rfl wb.heap.size 66 i64 (.int .u64 0) 1 8 Try.underlying22 (unhide HI).1 (unhide HI).2.1 (unhide HI).2.2.1 (unhide HI).2.2.2 rfl (by decide) v1 n (xs.map vU) rfl ((unhide HO).alloc _) ⟨w1.heap.size, 0, none⟩ 1 1 [.int .u64 8608480567731124087] rfl rfl (World.news_of_block (alloc_block _ _)) ?c21 (by decide) ?c31 ?c41 ?c51 (w1.heap.size + 1) (by simp) ?_)
  case c21 => intro u hu; simp at hu; rcases hu with rfl; rfl
  case c31 => unfold maxLen; omega
  case c41 => omega
  case c51 => simp; omega
  intro g cap w2 hown hg hat hlt
  have hB2 : Below wb.heap.size wb w2 := Below.grown ((unhide HB1).alloc hz1 _) hg (by simp; omega) (fun k hk => (own_ge (unhide HO) k hk).1)
  have hs2 : SlW w2 (some ⟨g, 0, none⟩) (n + 1) cap (xs ++ [markN]) := own_sl (xs := xs ++ [markN]) 0 (by simpa [vU, markN] using hown)
  have hgb : wb.heap.size ≤ g := (own_ge hown g rfl).1
  have hc2 := hs2.le
  have hc3 := hs2.cap
  unfold maxLen at hc3
  have T2 := (unhide HA).1.keep hB2
  have R2 := (unhide HA).2.1.keep hB2
  have a0 := T2.c0
  have a1 := T2.c1
  have r0 := R2.c0
  have r1 := R2.c1
  have f0 := R2.f0
  have f1 := R2.f1
  have R3 := R2.set (.int .i64 s) (.slice (some ⟨g, 0, none⟩) n cap)
  have p0 := R3.c0
  have p1 := R3.c1
  have hRw := (unhide HA).2.1.lt
  have HE := hide (show SlW ((w2.setCell ⟨wa.heap.size, 0, none⟩ (.int .i64 s)).setCell ⟨wa.heap.size, 1, none⟩ (.slice (some ⟨g, 0, none⟩) n cap)) (some ⟨g, 0, none⟩) (n + 1) cap (xs ++ [markN]) ∧ Below w.heap.size w ((w2.setCell ⟨wa.heap.size, 0, none⟩ (.int .i64 s)).setCell ⟨wa.heap.size, 1, none⟩ (.slice (some ⟨g, 0, none⟩) n cap)) from
    ⟨hs2.chg (two_chg w2 wa.heap.size _ _) (fun x hx _ => by cases hx; show g ≠ _; omega), two_below ((unhide HA).2.2.2.trans (hB2.mono (by omega))) _ (by omega) _ _⟩)
  clear hs2 hown hg hat hlt HO T2 R2 R3 hB2 HB1 HA
  go_wp2_with fail
  go_region
  all_goals
    go_wp2_with fail
    refine bodyPost_ret (by simp [results, Try.results10, go_sem, p0, p1]; try rfl) rfl ?_
    exact ⟨g, cap, rfl, (unhide HE).1.below (Below.refl _ _).drew, (unhide HE).2.drew⟩
end Go.Proofs.Ytbendkndnojihaa
