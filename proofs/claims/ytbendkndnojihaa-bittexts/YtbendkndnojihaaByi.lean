/-
  bitset's reader: numerals: its contract.
-/
import Derived.Test.YtbendkndnojihaaByh
namespace Go.Proofs.Ytbendkndnojihaa
open Go.RowKit Go.Deep
set_option linter.unusedVariables false

theorem alloc_block2 (w : World) (o1 : Obj) (o2 : Obj) : ((w.alloc o1).alloc o2).heap[w.heap.size + 1]? = some o2 := by
  have := alloc_block (w.alloc o1) o2
  rwa [show (w.alloc o1).heap.size = w.heap.size + 1 from by simp] at this
/-- What numerals answers. -/
def ResNu (w w' : World) (R : Nat) (s : ByteArray) (x : List Nu × Nat × Bool) (r : Ending) : Prop :=
  ∃ v, r = .returned (.tuple #[v, .bool x.2.2]) ∧ Two w' R (.string s) (.int .i64 (x.2.1 : Int)) ∧ Chg (fun j => j = R) w w' ∧ w'.ownsRow w.heap.size 77 3 v x.1.length (flatN x.1)

set_option maxHeartbeats 8000000 in
set_option maxRecDepth 100000 in
theorem numerals_any (R : Nat) (s : ByteArray) (w : World) (h : Two w R (.string s) (.int .i64 0)) (hN : s.size ≤ 65536) :
    Calls Try.prog 47 #[.pointer (some ⟨R, 0, none⟩)] w fun r w' => ResNu w w' R s (nmsR s) r := by
  have hRl := h.lt
  obtain ⟨i3, hi, hz, hs, hb⟩ := info_parts Try.info_num
  have HInf := hide (And.intro hi (And.intro hz (And.intro hs hb)))
  clear hi hz hs hb
  have K := number_any R s 0 w h hN (Nat.zero_le _)
  obtain ⟨nr, hnr⟩ : ∃ x, numR s 0 = x := ⟨_, rfl⟩
  have hle := numR_le (s := s) (p := 0) (Nat.zero_le _)
  have hok := fun h => numR_ok (s := s) (p := 0) h (Nat.zero_le _)
  rw [hnr] at K hle hok
  obtain ⟨⟨v0, q0⟩, ok0⟩ := nr
  obtain ⟨X, hX⟩ : ∃ X, nmsR s = X := ⟨_, rfl⟩
  have HX := hide hX
  rw [hX]
  simp only at K hle hok
  have HNR := hide hnr
  have HK := hide K
  clear h K hX hnr
  cases ok0
  · have hE : X = ([], q0, false) := by rw [← unhide HX]; unfold nmsR; rw [unhide HNR]; rfl
    subst hE
    clear HX HNR hok
    go_enter Try.func47, Try.ntmps47
    go_wp2_with fail
    refine (unhide HK).mono ?_
    rintro _ w2 ⟨rfl, ht2, hc2⟩
    have hb3 : Below w2.heap.size w2 (w2.alloc (.cells #[.int .i64 (v0 : Int), .int .i64 0, .bool false] 77)) := (Below.refl _ _).alloc (Nat.le_refl _) _
    have HE := hide (And.intro (ht2.keep hb3) (hc2.trans (Chg.of_below hb3)))
    clear ht2 hc2 hb3
    go_wp2_with fail
    refine bodyPost_ret (by simp [results, Try.results47, go_sem]; try rfl) rfl ?_
    exact ⟨_, rfl, (unhide HE).1, (unhide HE).2, World.ownsRow_nil _ _ _ _⟩
  · have hq1 := (hok rfl).1
    have K2 := fun (w' : World) (ht : Two w' R (.string s) (.int .i64 (q0 : Int))) => skip_any R s q0 58 w' ht hN hle.2 (by decide)
    cases hsk : skB s q0 58
    · have hE : X = ([], q0, false) := by rw [← unhide HX]; unfold nmsR; rw [unhide HNR]; simp [hsk]
      subst hE
      have hsp : skP s q0 58 = q0 := by unfold skP; rw [hsk]; rfl
      rw [hsk, hsp] at K2
      have HK2 := hide K2
      clear HX HNR hok K2 hsk hsp
      go_enter Try.func47, Try.ntmps47
      go_wp2_with fail
      refine (unhide HK).mono ?_
      rintro _ w2 ⟨rfl, ht2, hc2⟩
      have hb3 : Below w2.heap.size w2 (w2.alloc (.cells #[.int .i64 (v0 : Int), .int .i64 0, .bool false] 77)) := (Below.refl _ _).alloc (Nat.le_refl _) _
      have HE := hide (And.intro (ht2.keep hb3) (hc2.trans (Chg.of_below hb3)))
      clear ht2 hc2 hb3
      go_wp2_with fail
      generalize w2.alloc (.cells #[.int .i64 (v0 : Int), .int .i64 0, .bool false] 77) = w3 at *
      refine (unhide HK2 _ (unhide HE).1).mono ?_
      rintro _ w4 ⟨rfl, ht4, hc4⟩
      have HE2 := hide (And.intro ht4 ((unhide HE).2.trans hc4))
      clear ht4 hc4
      go_wp2_with fail
      refine bodyPost_ret (by simp [results, Try.results47, go_sem]; try rfl) rfl ?_
      exact ⟨_, rfl, (unhide HE2).1, (unhide HE2).2, World.ownsRow_nil _ _ _ _⟩
    · -- behind the colon
      have hsp : skP s q0 58 = q0 + 1 := by unfold skP; rw [hsk]; rfl
      have hq2 : q0 + 1 ≤ s.size := by unfold skB at hsk; simp at hsk; omega
      have HX2 := hide (show X = if q0 + 1 = s.size then ([(v0, 0, false)], s.size, true) else nmR s (s.size + 1) (q0 + 1) [(v0, 0, false)] from by rw [← unhide HX]; unfold nmsR; rw [unhide HNR]; simp [hsk])
      rw [hsk, hsp] at K2
      have HK2 := hide K2
      clear HX HNR hok K2 hsk hsp
      go_enter Try.func47, Try.ntmps47
      go_wp2_with fail
      refine (unhide HK).mono ?_
      rintro _ w2 ⟨rfl, ht2, hc2⟩
      have hb3 : Below w2.heap.size w2 (w2.alloc (.cells #[.int .i64 (v0 : Int), .int .i64 0, .bool false] 77)) := (Below.refl _ _).alloc (Nat.le_refl _) _
      have HE := hide (And.intro (ht2.keep hb3) (And.intro (hc2.trans (Chg.of_below hb3)) (Thr.made w2 (.int .i64 (v0 : Int)) (.int .i64 0) (.bool false) 77)))
      have hl2 := hc2.size
      clear ht2 hc2 hb3 HK
      go_wp2_with fail
      generalize w2.alloc (.cells #[.int .i64 (v0 : Int), .int .i64 0, .bool false] 77) = w3 at *
      refine (unhide HK2 _ (unhide HE).1).mono ?_
      rintro _ w4 ⟨rfl, ht4, hc4⟩
      have b4 := (unhide HE).2.2.chg hc4 (by omega)
      have s0 := b4.c0
      have s1 := b4.c1
      have s2 := b4.c2
      have hc04 := (unhide HE).2.1.trans hc4
      have hI5 : NuI w (w4.alloc (.cells #[.int .i64 (v0 : Int), .int .i64 0, .bool false] 77)) R s (q0 + 1) [(v0, 0, false)] (.slice (some ⟨w4.heap.size, 0, none⟩) 1 1) := by
        have hb5 : Below w4.heap.size w4 (w4.alloc (.cells #[.int .i64 (v0 : Int), .int .i64 0, .bool false] 77)) := (Below.refl _ _).alloc (Nat.le_refl _) _
        exact ⟨ht4.keep hb5, ⟨rfl, .inr ⟨w4.heap.size, 1, _, rfl, hc04.size, alloc_block _ _, Nat.le_refl _, by unfold maxLen; omega, by simp, by simp [flatN]⟩⟩, hc04.trans (Chg.of_below hb5)⟩
      have HI5 := hide hI5
      clear ht4 hc4 b4 hc04 HK2 HE hI5
      go_wp2_with fail
      clear s0 s1 s2
      generalize hw5 : w4.alloc (.cells #[.int .i64 (v0 : Int), .int .i64 0, .bool false] 77) = w5 at *
      clear hw5
      have K5 := ended_any R s (q0 + 1) w5 (unhide HI5).tr hN hq2
      by_cases he : q0 + 1 = s.size
      · have e2 : decide (q0 + 1 = s.size) = true := by simp [he]
        rw [e2] at K5
        have HK5 := hide K5
        have hE : X = ([(v0, 0, false)], s.size, true) := by rw [unhide HX2, if_pos he]
        subst hE
        have HEq := hide he
        clear K5 e2 he
        refine (unhide HK5).mono ?_
        rintro _ w6 ⟨rfl, hb6⟩
        have HI6 := hide ((unhide HI5).below hRl hb6)
        clear hb6
        go_wp2_with fail
        refine bodyPost_ret (by simp [results, Try.results47, go_sem]; try rfl) rfl ?_
        exact ⟨_, rfl, by rw [← unhide HEq]; exact (unhide HI6).tr, (unhide HI6).chg, (unhide HI6).own⟩
      · have e2 : decide (q0 + 1 = s.size) = false := by simp [he]
        rw [e2] at K5
        have HK5 := hide K5
        have HX3 := hide (show X = nmR s (s.size + 1) (q0 + 1) [(v0, 0, false)] from by rw [unhide HX2, if_neg he])
        clear K5 e2 he HX2
        refine (unhide HK5).mono ?_
        rintro _ w6 ⟨rfl, hb6⟩
        have HI6 := hide ((unhide HI5).below hRl hb6)
        clear hb6 HI5 HK5
        go_wp2_with fail
        go_loopw [6, 7, 8, 9, 10] (fun v _ _ _ _ wr => ∃ (q f : Nat) (l : List Nu), q ≤ s.size ∧ s.size - q < f ∧ l.length ≤ 2 * q ∧ X = nmR s f q l ∧ NuI w wr R s q l v) (fun _ _ _ _ _ wr => s.size - rdI wr R)
        case atStart => exact ⟨q0 + 1, s.size + 1, [(v0, 0, false)], hq2, by omega, by simp; omega, unhide HX3, unhide HI6⟩
        case round =>
          obtain ⟨q, f, l, hq, hf, hll, hXq, hst⟩ := hrel
          obtain ⟨W1, hW1⟩ : ∃ W1, W1 = wr := ⟨_, rfl⟩
          subst hW1
          obtain ⟨f', rfl⟩ : ∃ f', f = f' + 1 := ⟨f - 1, by omega⟩
          have K := number_any R s q W1 hst.tr hN hq
          have hle1 := numR_le (s := s) (p := q) hq
          have hok1 := fun h => numR_ok (s := s) (p := q) h hq
          unfold nmR at hXq
          generalize numR s q = nr at *
          obtain ⟨⟨v1, q1⟩, ok1⟩ := nr
          simp only at K hle1 hok1 hXq
          have HK := hide K
          have HS := hide hst
          have HrdW := hide hst.rd
          have hcs := hst.chg.size
          have HXq := hide hXq
          clear K hst hXq
          cases ok1
          · have hE : X = ([], q1, false) := by rw [unhide HXq]; rfl
            subst hE
            go_wp2_with fail
            refine (unhide HK).mono ?_
            rintro _ w7 ⟨rfl, ht7, hc7⟩
            have HN7 := hide (((unhide HS).read hRl ht7 hc7).below hRl ((Below.refl w7.heap.size w7).alloc (Nat.le_refl _) (.cells #[.int .i64 (v1 : Int), .int .i64 (q : Int), .bool false] 77)))
            clear ht7 hc7 HK
            go_wp2_with fail
            refine bodyPost_ret (by simp [results, Try.results47, go_sem]; try rfl) rfl ?_
            exact ⟨_, rfl, (unhide HN7).tr, (unhide HN7).chg, World.ownsRow_nil _ _ _ _⟩
          · have hq1 := (hok1 rfl).1
            simp only [if_true] at HXq
            go_wp2_with fail
            refine (unhide HK).mono ?_
            rintro _ w7 ⟨rfl, ht7, hc7⟩
            have HN7 := hide ((unhide HS).read hRl ht7 hc7)
            clear ht7 hc7 HK HS
            have b7 := Thr.made w7 (.int .i64 (v1 : Int)) (.int .i64 (q : Int)) (.bool false) 77
            have s0 := b7.c0
            have s1 := b7.c1
            have s2 := b7.c2
            have HN8 := hide ((unhide HN7).below hRl ((Below.refl w7.heap.size w7).alloc (Nat.le_refl _) (.cells #[.int .i64 (v1 : Int), .int .i64 (q : Int), .bool false] 77)))
            clear b7 HN7
            go_wp2_with (at_builtin; refine wpList_append_lies _ rfl _ _ 73 rfl w.heap.size 77 i3 (.agg #[.int .i64 0, .int .i64 0, .bool false]) 3 24 Try.underlying73 (unhide HInf).1 (unhide HInf).2.1 (unhide HInf).2.2.1 (unhide HInf).2.2.2 rfl (by decide) _ l.length (flatN l) rfl ((unhide HN8).own.alloc _) ⟨w7.heap.size + 1, 0, none⟩ 1 1 [.int .i64 (v1 : Int), .int .i64 (q : Int), .bool false] rfl rfl (World.news_of_block (alloc_block2 _ _ _)) ?c21 (by decide) ?c31 ?c41 ?c51 (w7.heap.size + 1 + 1) (by simp) ?_)
            case c21 => intro u hu; simp at hu; rcases hu with rfl | rfl | rfl <;> rfl
            case c31 => unfold maxLen; omega
            case c41 => omega
            case c51 => have hz := (unhide HN8).chg.size; simp at hz ⊢; omega
            intro g9 cap9 w9 hown hg hat hlt2
            have HN9 := hide ((unhide HN8).app (e := (v1, q, false)) hRl hg hown)
            have hl9 : (l ++ [(v1, q, false)]).length = l.length + 1 := by simp
            obtain ⟨L1, hL1⟩ : ∃ L1, l ++ [(v1, q, false)] = L1 := ⟨_, rfl⟩
            rw [hL1] at HN9 hl9
            have HL1 := hide hL1
            clear hown hg hat hlt2 HN8 s0 s1 s2 hL1
            have K3 := skip_any R s q1 45 w9 (unhide HN9).tr hN hle1.2 (by decide)
            rw [unhide HL1] at HXq
            cases hs3 : skB s q1 45
            · have hdummy : True := trivial
              have hsp3 : skP s q1 45 = q1 := by unfold skP; rw [hs3]; rfl
              rw [hs3, hsp3] at K3
              rw [hs3] at HXq
              have HK3 := hide K3
              clear K3 hs3 hsp3
              go_wp2_with fail
              refine (unhide HK3).mono ?_
              rintro _ w10 ⟨rfl, ht, hc⟩
              have HN10 := hide ((unhide HN9).read hRl ht hc)
              clear ht hc HK3 HN9
              simp only [Bool.false_eq_true, if_false] at HXq
              have K4 := skip_any R s q1 44 w10 (unhide HN10).tr hN (by omega) (by decide)
              cases hs4 : skB s q1 44
              · have hle9 : q1 ≤ s.size := by omega
                have hsp4 : skP s q1 44 = q1 := by unfold skP; rw [hs4]; rfl
                rw [hs4, hsp4] at K4
                rw [hs4] at HXq
                have HK4 := hide K4
                clear K4 hs4 hsp4
                go_wp2_with fail
                refine (unhide HK4).mono ?_
                rintro _ w4 ⟨rfl, ht, hc⟩
                have HM4 := hide ((unhide HN10).read hRl ht hc)
                clear ht hc HK4 HN10
                simp only [Bool.false_eq_true, if_false] at HXq
                have K := ended_any R s q1 w4 (unhide HM4).tr hN hle9
                have HKe := hide K
                clear K
                obtain ⟨bv, hbv⟩ : ∃ bv, decide (q1 = s.size) = bv := ⟨_, rfl⟩
                rw [hbv] at HKe
                have hE : X = (L1, q1, bv) := by rw [unhide HXq, hbv]
                subst hE
                clear hbv HXq
                go_wp2_with fail
                refine (unhide HKe).mono ?_
                rintro _ wE ⟨rfl, hbE⟩
                have HE9 := hide ((unhide HM4).below hRl hbE)
                clear hbE HKe
                go_wp2_with fail
                refine bodyPost_ret (by simp [results, Try.results47, go_sem]; try rfl) rfl ?_
                exact ⟨_, rfl, (unhide HE9).tr, (unhide HE9).chg, (unhide HE9).own⟩
              · have hle9 : q1 ≤ s.size := by omega
                have hsp4 : skP s q1 44 = q1 + 1 := by unfold skP; rw [hs4]; rfl
                have hq4 : q1 + 1 ≤ s.size := by unfold skB at hs4; simp at hs4; omega
                rw [hs4, hsp4] at K4
                rw [hs4] at HXq
                have HK4 := hide K4
                clear K4 hs4 hsp4
                go_wp2_with fail
                refine (unhide HK4).mono ?_
                rintro _ w4 ⟨rfl, ht, hc⟩
                have HM4 := hide ((unhide HN10).read hRl ht hc)
                clear ht hc HK4 HN10
                simp only [if_true] at HXq
                go_wp2_with fail
                refine ⟨⟨q1 + 1, f', L1, hq4, by omega, by omega, unhide HXq, unhide HM4⟩, ?_⟩
                rw [(unhide HM4).rd, unhide HrdW]
                omega
            · have hdummy : True := trivial
              have hsp3 : skP s q1 45 = q1 + 1 := by unfold skP; rw [hs3]; rfl
              have hq3 : q1 + 1 ≤ s.size := by unfold skB at hs3; simp at hs3; omega
              rw [hs3, hsp3] at K3
              rw [hs3] at HXq
              have HK3 := hide K3
              clear K3 hs3 hsp3
              go_wp2_with fail
              refine (unhide HK3).mono ?_
              rintro _ w10 ⟨rfl, ht, hc⟩
              have HN10 := hide ((unhide HN9).read hRl ht hc)
              clear ht hc HK3 HN9
              simp only [if_true] at HXq
              have K6 := number_any R s (q1 + 1) w10 (unhide HN10).tr hN hq3
              have hle6 := numR_le (s := s) (p := q1 + 1) hq3
              have hok6 := fun h => numR_ok (s := s) (p := q1 + 1) h hq3
              generalize numR s (q1 + 1) = nr6 at *
              obtain ⟨⟨v2, q3⟩, ok2⟩ := nr6
              simp only at K6 hle6 hok6 HXq
              have HK6 := hide K6
              clear K6
              cases ok2
              · have hE : X = ([], q3, false) := by rw [unhide HXq]; rfl
                subst hE
                go_wp2_with fail
                refine (unhide HK6).mono ?_
                rintro _ w11 ⟨rfl, ht, hc⟩
                have HN11 := hide (((unhide HN10).read hRl ht hc).below hRl ((Below.refl w11.heap.size w11).alloc (Nat.le_refl _) (.cells #[.int .i64 (v2 : Int), .int .i64 ((q1 + 1 : Nat) : Int), .bool false] 77)))
                clear ht hc HK6
                go_wp2_with fail
                refine bodyPost_ret (by simp [results, Try.results47, go_sem]; try rfl) rfl ?_
                exact ⟨_, rfl, (unhide HN11).tr, (unhide HN11).chg, World.ownsRow_nil _ _ _ _⟩
              · have hq6 := (hok6 rfl).1
                simp only [if_true] at HXq
                go_wp2_with fail
                refine (unhide HK6).mono ?_
                rintro _ w11 ⟨rfl, ht, hc⟩
                have HN11 := hide ((unhide HN10).read hRl ht hc)
                clear ht hc HK6 HN10
                have HN12 := hide ((unhide HN11).below hRl ((Below.refl w11.heap.size w11).alloc (Nat.le_refl _) (.cells #[.int .i64 (v2 : Int), .int .i64 ((q1 : Int) + 1), .bool true] 77)))
                have hnat : ((q1 + 1 : Nat) : Int) = (q1 : Int) + 1 := by omega
                go_wp2_with (at_builtin; refine wpList_append_lies _ rfl _ _ 73 rfl w.heap.size 77 i3 (.agg #[.int .i64 0, .int .i64 0, .bool false]) 3 24 Try.underlying73 (unhide HInf).1 (unhide HInf).2.1 (unhide HInf).2.2.1 (unhide HInf).2.2.2 rfl (by decide) _ L1.length (flatN L1) rfl ((unhide HN12).own.alloc _) ⟨w11.heap.size + 1, 0, none⟩ 1 1 [.int .i64 (v2 : Int), .int .i64 ((q1 : Int) + 1), .bool true] rfl rfl (World.news_of_block (alloc_block2 _ _ _)) ?c21 (by decide) ?c31 ?c41 ?c51 (w11.heap.size + 1 + 1) (by simp) ?_)
                case c21 => intro u hu; simp at hu; rcases hu with rfl | rfl | rfl <;> rfl
                case c31 => unfold maxLen; omega
                case c41 => omega
                case c51 => have hz := (unhide HN12).chg.size; simp at hz ⊢; omega
                intro g13 cap13 w13 hown hg hat hlt2
                have HN13 := hide ((unhide HN12).app (e := (v2, q1 + 1, true)) hRl hg (by rw [hnat, hl9]; exact hown))
                have hl13 : (L1 ++ [(v2, q1 + 1, true)]).length = L1.length + 1 := by simp
                obtain ⟨L2, hL2⟩ : ∃ L2, L1 ++ [(v2, q1 + 1, true)] = L2 := ⟨_, rfl⟩
                rw [hL2] at HN13 hl13
                have hL3 : l ++ [(v1, q, false), (v2, q1 + 1, true)] = L2 := by rw [← hL2, ← unhide HL1, List.append_assoc]; rfl
                rw [hL3] at HXq
                clear hown hg hat hlt2 HN12 HN11 hL2 hL3
                have K7 := skip_any R s q3 44 w13 (unhide HN13).tr hN (by omega) (by decide)
                cases hs7 : skB s q3 44
                · have hle9 : q3 ≤ s.size := by omega
                  have hsp7 : skP s q3 44 = q3 := by unfold skP; rw [hs7]; rfl
                  rw [hs7, hsp7] at K7
                  rw [hs7] at HXq
                  have HK7 := hide K7
                  clear K7 hs7 hsp7
                  go_wp2_with fail
                  refine (unhide HK7).mono ?_
                  rintro _ w7 ⟨rfl, ht, hc⟩
                  have HM7 := hide ((unhide HN13).read hRl ht hc)
                  clear ht hc HK7 HN13
                  simp only [Bool.false_eq_true, if_false] at HXq
                  have K := ended_any R s q3 w7 (unhide HM7).tr hN hle9
                  have HKe := hide K
                  clear K
                  obtain ⟨bv, hbv⟩ : ∃ bv, decide (q3 = s.size) = bv := ⟨_, rfl⟩
                  rw [hbv] at HKe
                  have hE : X = (L2, q3, bv) := by rw [unhide HXq, hbv]
                  subst hE
                  clear hbv HXq
                  go_wp2_with fail
                  refine (unhide HKe).mono ?_
                  rintro _ wE ⟨rfl, hbE⟩
                  have HE9 := hide ((unhide HM7).below hRl hbE)
                  clear hbE HKe
                  go_wp2_with fail
                  refine bodyPost_ret (by simp [results, Try.results47, go_sem]; try rfl) rfl ?_
                  exact ⟨_, rfl, (unhide HE9).tr, (unhide HE9).chg, (unhide HE9).own⟩
                · have hle9 : q3 ≤ s.size := by omega
                  have hsp7 : skP s q3 44 = q3 + 1 := by unfold skP; rw [hs7]; rfl
                  have hq7 : q3 + 1 ≤ s.size := by unfold skB at hs7; simp at hs7; omega
                  rw [hs7, hsp7] at K7
                  rw [hs7] at HXq
                  have HK7 := hide K7
                  clear K7 hs7 hsp7
                  go_wp2_with fail
                  refine (unhide HK7).mono ?_
                  rintro _ w7 ⟨rfl, ht, hc⟩
                  have HM7 := hide ((unhide HN13).read hRl ht hc)
                  clear ht hc HK7 HN13
                  simp only [if_true] at HXq
                  go_wp2_with fail
                  refine ⟨⟨q3 + 1, f', L2, hq7, by omega, by omega, unhide HXq, unhide HM7⟩, ?_⟩
                  rw [(unhide HM7).rd, unhide HrdW]
                  omega
end Go.Proofs.Ytbendkndnojihaa
