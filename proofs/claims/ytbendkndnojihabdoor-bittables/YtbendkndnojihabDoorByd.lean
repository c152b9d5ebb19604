/-
  sloperef3.Firsts: its contract; Firsts refused.
-/
import Derived.Test.YtbendkndnojihabDoorByc
import Derived.Test.YtbendkndnojihabDoorBo1
import Derived.Test.YtbendkndnojihabDoorBu2
namespace Go.Proofs.YtbendkndnojihabDoor
open Go.RowKit Go.Deep Go.Maps
set_option linter.unusedVariables false

theorem GoodT.cmp {sz n : Nat} {L : List SetC} {P : Nat → Nat → Bool} (g : GoodT sz n L P) {i j : Nat} (hi : i < n) (hj : j < n) : cmpR (sz : Int) (xfL L j) (sz : Int) (xfL L i) = 0 ↔ xfL L j = xfL L i := by
  have gi := g.good i hi
  have gj := g.good j hj
  constructor
  · intro h
    have hz := (cmpR_zero gj.may gi.may h).2
    show (L.getD j .nul).xs = (L.getD i .nul).xs
    rw [(g.get j hj).2, (g.get i hi).2]
    refine wordsL_congr (fun x hx => ?_)
    by_cases c : x < sz
    · have e := hz x (by simpa using c)
      rw [gj.has x hx, gi.has x hx] at e
      exact e
    · rw [g.zero j x (by omega), g.zero i x (by omega)]
  · intro h
    rw [h]
    exact cmpR_self

set_option maxHeartbeats 8000000 in
set_option maxRecDepth 100000 in
/-- sloperef3.Firsts. -/
theorem rfirsts_good (sz n : Nat) (a : Option Addr) (c : Nat) (L : List SetC) (P : Nat → Nat → Bool) (w : World) (h : SlS w a n c L) (g : GoodT sz n L P) :
    Calls Tryd.prog 28 #[setV sz a n c] w fun r w' => ResI w w' ((List.range n).map (fun i => ((firstI (xfL L) i : Nat) : Int)), 0) r := by
  have hle := h.le
  have hcap := h.cap
  unfold maxLen at hcap
  have hn := g.hn
  have hz4 := g.hs
  obtain ⟨i64, hi, hz, hs, hb⟩ := info_parts Tryd.info_int
  have HI := hide (And.intro hi (And.intro hz (And.intro hs hb)))
  clear hi hz hs hb
  obtain ⟨wa, hwa⟩ : ∃ x, w.alloc (.cells #[.int .i64 (sz : Int), .slice a n c] 24) = x := ⟨_, rfl⟩
  have ba : Below w.heap.size w wa := by rw [← hwa]; exact (Below.refl _ _).alloc (Nat.le_refl _) _
  have la : w.heap.size < wa.heap.size := by rw [← hwa]; simp
  have A0 : Two wa w.heap.size (.int .i64 (sz : Int)) (.slice a n c) := by rw [← hwa]; exact Two.made _ _ _ _
  have K := rmayT_any sz a n c L wa (h.below ba)
  rw [g.may] at K
  have HA := hide (And.intro A0 ba)
  have a0 := A0.c0
  have a1 := A0.c1
  have HG := hide g
  have HSl := hide h
  unfold setV at K ⊢
  have HK := hide K
  clear A0 h ba K g
  go_enter Tryd.func28, Tryd.ntmps28
  go_wp2_with fail
  refine (unhide HK).mono ?_
  rintro _ wd ⟨rfl, hbd⟩
  have A1 := (unhide HA).1.keep hbd
  have hB1 := (unhide HA).2.trans (hbd.mono (unhide HA).2.size)
  have ld := hbd.size
  have HA1 := hide (And.intro A1 hB1)
  clear a0 a1 A1 hB1 hbd HA HK hwa
  go_wp2_with fail
  go_loopw [5, 4, 6, 7, 8] (fun i v _ _ _ wr => ∃ k : Nat, k ≤ n ∧ i = .int .i64 k ∧ wr.ownsRow wd.heap.size 3 1 v k (((List.range k).map (fun i => ((firstI (xfL L) i : Nat) : Int))).map vI) ∧ Below wd.heap.size wd wr) (fun i _ _ _ _ _ => n - (intOf i).toNat)
  case atStart => exact ⟨0, Nat.zero_le _, rfl, World.ownsRow_nil _ _ _ _, Below.refl _ _⟩
  case round =>
    obtain ⟨k, hk, rfl, hown, hbl⟩ := hrel
    obtain ⟨W1, hW1⟩ : ∃ W1, W1 = wr := ⟨_, rfl⟩
    subst hW1
    have A2 := (unhide HA1).1.keep hbl
    have b1 := A2.c1
    by_cases hlt : k < n
    · have hlt' : (k : Int) < (n : Int) := by omega
      have HO := hide (And.intro hown hbl)
      have HA2 := hide (And.intro A2 ((unhide HA1).2.trans (hbl.mono (unhide HA1).2.size)))
      have q1 : IntKind.i64.wrap ((k : Int) - 1) = (k : Int) - 1 := by rw [wrap_i64]; omega
      clear hown hbl A2
      go_wp2_with fail
      clear b1 q1
      go_loopw [7, 6, 8] (fun y f _ wr => ∃ d : Nat, d ≤ k ∧ y = .int .i64 ((k : Int) - 1 - d) ∧ f = .int .i64 ((frF (xfL L) k d : Nat) : Int) ∧ Below W1.heap.size W1 wr) (fun y _ _ _ => (intOf y + 1).toNat)
      case atStart => exact ⟨0, Nat.zero_le _, by simp, rfl, Below.refl _ _⟩
      case round =>
        obtain ⟨d, hd, rfl, rfl, hbl⟩ := hrel
        have A3 := (unhide HA2).1.keep hbl
        have hBr := (unhide HA2).2.trans (hbl.mono (unhide HA2).2.size)
        by_cases hdt : d < k
        · obtain ⟨j, hj⟩ : ∃ j, k - (d + 1) = j := ⟨_, rfl⟩
          have hji : (k : Int) - 1 - (d : Int) = (j : Int) := by omega
          rw [hji]
          have hjn : j < n := by omega
          have hj' : (j : Int) < (n : Int) := by omega
          have hj0 : (0 : Int) ≤ (j : Int) := by omega
          have hk0 : (0 : Int) ≤ (k : Int) := by omega
          have q2 : IntKind.i64.wrap ((j : Int) - 1) = (j : Int) - 1 := by rw [wrap_i64]; omega
          obtain ⟨b, off, rfl, hcells⟩ := (unhide HSl).at (by omega)
          have c1 := A3.c1
          have g1 := below_cell hBr (hcells j hjn).1
          have g2 := below_cell hBr (hcells j hjn).2
          have g3 := below_cell hBr (hcells k hlt).1
          have g4 := below_cell hBr (hcells k hlt).2
          have i1 := ((unhide HSl).get j hjn).1.below hBr
          have i2 := ((unhide HSl).get k hlt).1.below hBr
          have e1 := ((unhide HG).get j hjn).1
          have e2 := ((unhide HG).get k hlt).1
          have hcm := (unhide HG).cmp hlt hjn
          have hx1 : (L.getD j .nul).xs = xfL L j := rfl
          have hx2 : (L.getD k .nul).xs = xfL L k := rfl
          have hfr : frF (xfL L) k (d + 1) = if xfL L j = xfL L k then j else frF (xfL L) k d := by
            show (if xfL L (k - (d + 1)) = xfL L k then k - (d + 1) else frF (xfL L) k d) = _
            rw [hj]
          generalize L.getD j .nul = y1 at *
          generalize L.getD k .nul = y2 at *
          obtain ⟨s1, ea1, en1, ec1, ex1⟩ := y1
          obtain ⟨s2, ea2, en2, ec2, ex2⟩ := y2
          simp only at g1 g2 g3 g4 e1 e2 hx1 hx2
          subst hx1
          subst hx2
          subst e1
          subst e2
          obtain ⟨cc, hcc⟩ : ∃ cc, cmpR (sz : Int) (xfL L j) (sz : Int) (xfL L k) = cc := ⟨_, rfl⟩
          rw [hcc] at hcm
          have K := fun x : Ext wr => rcompare_any (sz : Int) ea1 en1 ec1 (xfL L j) (sz : Int) ea2 en2 ec2 (xfL L k) x.w (i1.below x.bel) (i2.below x.bel)
          rw [hcc] at K
          unfold setV at K
          have HK := hide K
          have F0 := fun x : Ext wr => x.cell c1
          have F1 := fun x : Ext wr => x.cell g1
          have F2 := fun x : Ext wr => x.cell g2
          have F3 := fun x : Ext wr => x.cell g3
          have F4 := fun x : Ext wr => x.cell g4
          have hNE := Ext.ne wr
          have HB := hide hbl
          clear K hcells i1 i2 A3 hBr hbl c1 g1 g2 g3 g4 hcc
          by_cases he : xfL L j = xfL L k
          · have hc0 : cc = 0 := hcm.2 he
            subst hc0
            rw [if_pos he] at hfr
            have HF := hide hfr
            clear hfr hcm he
            go_wp2_with fail
            refine wp_region_ext (by kernel_rfl) (by kernel_rfl) ?_
            repeat (go_big_quiet_step (first | (go_at_call 62; rename_i x; exact Ext.call (unhide HK x) (fun e w' h => h))))
            refine wpQuiet_nil ?_
            rintro _ ⟨xe, rfl⟩
            have HB2 := hide ((unhide HB).trans (xe.bel.mono (unhide HB).size))
            clear F0 F1 F2 F3 F4 HK
            go_wp2_with fail
            exact ⟨⟨d + 1, by omega, by congr 1; omega, by rw [unhide HF], unhide HB2⟩, by simp [intOf] <;> omega⟩
          · have hc0 : (cc == 0) = false := by simp; exact fun x => he (hcm.1 x)
            have hc1 : decide (cc = 0) = false := by simp; exact fun x => he (hcm.1 x)
            rw [if_neg he] at hfr
            have HF := hide hfr
            clear hfr hcm he
            go_wp2_with fail
            refine wp_region_ext (by kernel_rfl) (by kernel_rfl) ?_
            repeat (go_big_quiet_step (first | (go_at_call 62; rename_i x; exact Ext.call (unhide HK x) (fun e w' h => h))))
            refine wpQuiet_nil ?_
            rintro _ ⟨xe, rfl⟩
            have HB2 := hide ((unhide HB).trans (xe.bel.mono (unhide HB).size))
            clear F0 F1 F2 F3 F4 HK
            go_wp2_with fail
            exact ⟨⟨d + 1, by omega, by congr 1; omega, by rw [unhide HF], unhide HB2⟩, by simp [intOf] <;> omega⟩
        · obtain rfl : k = d := by omega
          have hm1 : (k : Int) - 1 - (k : Int) = -1 := by omega
          rw [hm1]
          obtain ⟨F, hF⟩ : ∃ F, frF (xfL L) k k = F := ⟨_, rfl⟩
          rw [hF]
          have HS2 := hide (show ((List.range (k + 1)).map (fun i => ((firstI (xfL L) i : Nat) : Int))).map vI = ((List.range k).map (fun i => ((firstI (xfL L) i : Nat) : Int))).map vI ++ [.int .i64 (F : Int)] from by
            rw [List.range_succ, List.map_append, List.map_append, ← hF]; rfl)
          obtain ⟨LB, hLB⟩ : ∃ l, ((List.range k).map (fun i => ((firstI (xfL L) i : Nat) : Int))).map vI = l := ⟨_, rfl⟩
          rw [hLB] at HS2
          have hBd := (unhide HO).2.trans (hbl.mono (unhide HO).2.size)
          have HO1 := hide (show wr.ownsRow wd.heap.size 3 1 _ k LB from by
            rw [← hLB]
            rcases (unhide HO).1 with ⟨h1, h2 | ⟨g, cap, cur, e, q1, q2, q3⟩⟩
            · exact ⟨h1, .inl h2⟩
            · refine ⟨h1, .inr ⟨g, cap, cur, e, q1, ?_, q3⟩⟩
              rw [hbl.block g]
              · exact q2
              · rcases Nat.lt_or_ge g W1.heap.size with hlt | hge
                · exact hlt
                · rw [Array.getElem?_eq_none hge] at q2; cases q2)
          have HBd := hide hBd
          have hsz := hBd.size
          clear hbl A3 hBr hF hLB hBd HO
          go_wp2_with (at_builtin; refine wpList_append_lies _ rfl _ _ 52 rfl wd.heap.size 3 i64 (.int .i64 0) 1 8 Tryd.underlying52 (unhide HI).1 (unhide HI).2.1 (unhide HI).2.2.1 (unhide HI).2.2.2 rfl (by decide) _ k LB rfl ((unhide HO1).alloc _) ⟨wr.heap.size, 0, none⟩ 1 1 [.int .i64 (F : Int)] rfl rfl (World.news_of_block (alloc_block _ _)) ?c21 (by decide) ?c31 ?c41 ?c51 (wr.heap.size + 1) (by simp) ?_)
          case c21 => intro u hu; simp at hu; rcases hu with rfl; rfl
          case c31 => unfold maxLen; omega
          case c41 => omega
          case c51 => first | omega | (simp; omega)
          intro gg cap w2 hown hg hat hlt2
          have HE := hide (And.intro (show w2.ownsRow wd.heap.size 3 1 (.slice (some ⟨gg, 0, none⟩) (k + 1) cap) (k + 1) (((List.range (k + 1)).map (fun i => ((firstI (xfL L) i : Nat) : Int))).map vI) from by rw [unhide HS2]; exact hown) (Below.grown ((unhide HBd).alloc (unhide HBd).size _) hg (by have := (unhide HBd).size; simp <;> omega) (fun q hq => (own_ge (unhide HO1) q hq).1)))
          clear hown hg hat hlt2
          go_wp2_with fail
          exact ⟨⟨k + 1, by omega, by go_num, (unhide HE).1, (unhide HE).2⟩, by simp [intOf]; omega⟩
    · have hlt' : ¬ (k : Int) < (n : Int) := by omega
      obtain rfl : n = k := by omega
      have HR := hide (show ∃ a' c', _ = Value.slice a' n c' ∧ SlI W1 a' n c' ((List.range n).map (fun i => ((firstI (xfL L) i : Nat) : Int))) from by
        rcases hown.2 with ⟨e, h0⟩ | ⟨gg, cap, cur, e, q1, q2, q3, q4, q5, q6⟩
        · have hn0 : n = 0 := h0
          subst hn0
          exact ⟨none, 0, e, ⟨by simp, Nat.le_refl _, Nat.zero_le _, .inl (by simp)⟩⟩
        · subst e
          exact ⟨some ⟨gg, 0, none⟩, cap, rfl, own_sl (0 : Int) hown⟩)
      obtain ⟨a', c', hv, hsl⟩ := unhide HR
      subst hv
      have HSL := hide (And.intro hsl ((unhide HA1).2.trans (hbl.mono (unhide HA1).2.size)))
      clear hown hbl A2 hsl HR
      go_wp2_with fail
      refine bodyPost_ret (by simp [results, Tryd.results28, go_sem]; try rfl) rfl ?_
      exact ⟨_, _, _, rfl, (unhide HSL).1, (unhide HSL).2⟩
end Go.Proofs.YtbendkndnojihabDoor
