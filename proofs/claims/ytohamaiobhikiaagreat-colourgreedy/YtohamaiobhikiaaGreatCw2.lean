/-
  COLOURS: sloperef12.Greedy: contracts by premises (written by wip/gens/mkcw2.py).
-/
import Derived.Test.YtohamaiobhikiaaGreatCv8
import Derived.Test.YtohamaiobhikiaaGreatChn
import Derived.Test.YtohamaiobhikiaaGreatChm
namespace Go.Proofs.YtohamaiobhikiaaGreat
open Go.RowKit Go.Deep
set_option linter.unusedVariables false

/-- How many colours there are. -/
structure NmI (cs : Nat → Int) (R z : Nat) : Prop where
  le : ∀ i, i < R → cs i < (z : Int)
  at_ : z = 0 ∨ ∃ i, i < R ∧ cs i = (z : Int) - 1
theorem NmI.none {R : Nat} : NmI (fun _ => -1) R 0 := ⟨fun i _ => by simp, .inl rfl⟩
theorem NmI.num {cs : Nat → Int} {R z : Nat} (h : NmI cs R z) : NumC (csL cs R) (z : Int) := by
  unfold NumC
  rw [csL_len]
  refine ⟨?_, fun i hi => ?_⟩
  · rcases h.at_ with e | ⟨i, hi, e⟩
    · exact ⟨0, by omega, by simp [e]⟩
    · exact ⟨i + 1, by omega, by rw [List.getD_cons_succ, csL_get hi, e]⟩
  · cases i with
    | zero => simp; omega
    | succ i =>
      rw [List.getD_cons_succ, csL_get (by omega)]
      have := h.le i (by omega)
      omega
theorem NmI.upd {cs : Nat → Int} {R z u y : Nat} (h : NmI cs R z) (hu : u < R) (hf : cs u = -1) : NmI (updC cs u y) R (max z (y + 1)) := by
  refine ⟨fun i hi => ?_, ?_⟩
  · by_cases e : i = u
    · subst e; rw [updC_same]; omega
    · rw [updC_other _ _ e]; have := h.le i hi; omega
  · by_cases c : z ≤ y + 1
    · exact .inr ⟨u, hu, by rw [updC_same]; omega⟩
    · rcases h.at_ with e | ⟨i, hi, e⟩
      · omega
      · refine .inr ⟨i, hi, ?_⟩
        have hne : i ≠ u := fun e2 => by rw [e2, hf] at e; omega
        rw [updC_other _ _ hne, e]
        omega
/-- What stands at a place. -/
def colOf (w : World) (g u : Nat) : Int := match w.cell? ⟨g, u, none⟩ with | some (.int _ x) => x | _ => 0
theorem colOf_row {w : World} {g n u : Nat} {cs : Nat → Int} (h : RoV w g n (fun i => .int .i64 (cs i))) (hu : u < n) : colOf w g u = cs u := by unfold colOf; rw [(h u hu).1]
set_option maxRecDepth 100000 in
set_option maxHeartbeats 16000000 in
/-- sloperef12.Greedy, refused. -/
theorem wGreedy_no (k rows width : Int) (er : Int) (her : (er != 0) = true) (a : Option Addr) (n c : Nat) (a1 a2 : Option Addr) (n1 c1 n2 c2 : Nat) (st cols : List Int) (w : World) (h1 : SlI w a1 n1 c1 st) (h2 : SlI w a2 n2 c2 cols) (hT : ∀ W, SlI W a1 n1 c1 st → SlI W a2 n2 c2 cols → Calls Tryz.prog 17 #[.int .i64 k, patV rows width a1 n1 c1 a2 n2 c2] W fun e w' => e = .returned (.tuple #[.agg #[.int .i64 0, .slice none 0 0], .int .i64 er]) ∧ Below W.heap.size W w') :
    Calls Tryz.prog 7 #[.int .i64 k, patV rows width a1 n1 c1 a2 n2 c2, .slice a n c] w fun e w' => e = .returned (.tuple #[.slice none 0 0, .int .i64 0, .int .i64 er]) ∧ Below w.heap.size w w' := by
  obtain ⟨wb, hwb⟩ : ∃ x, w.alloc (.cells #[.int .i64 rows, .int .i64 width, .slice a1 n1 c1, .slice a2 n2 c2] 25) = x := ⟨_, rfl⟩
  have bb : Below w.heap.size w wb := by rw [← hwb]; exact (Below.refl _ _).alloc (Nat.le_refl _) _
  have hT0 := BoxP.made w #[.int .i64 rows, .int .i64 width, .slice a1 n1 c1, .slice a2 n2 c2] 25
  rw [hwb] at hT0
  have p0 := (hT0.all 0 _ rfl).1
  have p1 := (hT0.all 1 _ rfl).1
  have p2 := (hT0.all 2 _ rfl).1
  have p3 := (hT0.all 3 _ rfl).1
  have KT := hide (hT wb (h1.below bb) (h2.below bb))
  unfold patV at KT
  have HB := hide bb
  have HT0 := hide hT0
  clear hT0 bb h1 h2 hT
  unfold patV
  go_enter Tryz.func7, Tryz.ntmps7
  go_wp2_with fail
  refine (unhide KT).mono ?_
  rintro _ w2 ⟨rfl, b2⟩
  clear p0 p1 p2 p3 KT
  try dsimp only
  have HB2 := hide ((unhide HB).trans (b2.mono (unhide HB).size))
  clear b2
  go_wp2_with fail
  refine bodyPost_ret (by simp [results, Tryz.results7, go_sem]; try rfl) rfl ?_
  exact ⟨rfl, (unhide HB2).alloc (unhide HB2).size _⟩
set_option maxRecDepth 100000 in
set_option maxHeartbeats 16000000 in
/-- sloperef12.Greedy. -/
theorem wGreedy_yes (kd : Int) (RT : (Nat → Int) → Nat → Prop) (P : Nat → (Nat → Int) → Prop) (R width m : Nat) (Q : Nat → Bool) (a : Option Addr) (n c : Nat) (xs : List Int) (a1 a2 : Option Addr) (n1 c1 n2 c2 : Nat) (st cols : List Int) (w : World) (h1 : SlI w a1 n1 c1 st) (h2 : SlI w a2 n2 c2 cols) (h3 : SlI w a n c xs) (hn : n ≤ 17592186044000) (hm8 : m ≤ 128)
    (hRT : ∀ (gb gc : Nat) (cs : Nat → Int) (v : Nat) (ok : Bool) (W : World), v < m → RoV W gb (m * m) (fun i => .bool (Q i)) → RoV W gc m (fun i => .int .i64 (cs i)) → TruQ ok (RT cs v) → Calls Tryz.prog 19 #[.int .i64 kd, grV m gb (m * m), .slice (some ⟨gc, 0, none⟩) m m, .int .i64 (v : Int)] W fun e w' => e = .returned (.bool ok) ∧ Below W.heap.size W w')
    (hPX : IsOrd xs m → PnX RT xs m P)
    (hT : ∀ W, SlI W a1 n1 c1 st → SlI W a2 n2 c2 cols → Calls Tryz.prog 17 #[.int .i64 kd, patV (R : Int) (width : Int) a1 n1 c1 a2 n2 c2] W fun e w' => TgQ W w' e m (m * m) Q) :
    Calls Tryz.prog 7 #[.int .i64 kd, patV (R : Int) (width : Int) a1 n1 c1 a2 n2 c2, .slice a n c] w fun e w' => GrB xs m (P m) w w' e := by
  obtain ⟨ok, hok⟩ := truth (IsOrd xs m)
  obtain ⟨wb, hwb⟩ : ∃ x, w.alloc (.cells #[.int .i64 (R : Int), .int .i64 (width : Int), .slice a1 n1 c1, .slice a2 n2 c2] 25) = x := ⟨_, rfl⟩
  have bb : Below w.heap.size w wb := by rw [← hwb]; exact (Below.refl _ _).alloc (Nat.le_refl _) _
  have hT0 := BoxP.made w #[.int .i64 (R : Int), .int .i64 (width : Int), .slice a1 n1 c1, .slice a2 n2 c2] 25
  rw [hwb] at hT0
  have p0 := (hT0.all 0 _ rfl).1
  have p1 := (hT0.all 1 _ rfl).1
  have p2 := (hT0.all 2 _ rfl).1
  have p3 := (hT0.all 3 _ rfl).1
  have KT := hide (hT wb (h1.below bb) (h2.below bb))
  unfold patV at KT
  have HB := hide bb
  have HT0 := hide hT0
  have HX := hide h3
  have HOK := hide (show TruQ ok (IsOrd xs m) from hok)
  have HRT := hide hRT
  have HPX := hide hPX
  obtain ⟨mm, hmm⟩ : ∃ mm, m * m = mm := ⟨_, rfl⟩
  have HMM := hide hmm
  have hmm2 : mm ≤ 16384 := by
    have := Nat.mul_le_mul hm8 hm8
    omega
  rw [hmm] at KT HRT
  unfold TgQ grV at KT
  unfold grV at HRT
  clear hT0 bb h1 h2 hT h3 hok hRT hPX hmm
  unfold patV
  go_enter Tryz.func7, Tryz.ntmps7
  go_wp2_with fail
  refine (unhide KT).mono ?_
  rintro _ w2 ⟨gb, rfl, hRo, b2⟩
  clear p0 p1 p2 p3 KT
  try dsimp only
  repeat ((fail_if_success (with_reducible (show Code.wp _ _ _ _ (World.alloc w2 (Obj.cells #[_, .slice (some ⟨gb, 0, none⟩) mm mm] _))))); (first | go_values | go_skip | go_guarded | go_step | go_upon | go_back))
  have hG := BoxP.made w2 #[.int .i64 (m : Int), .slice (some ⟨gb, 0, none⟩) mm mm] 66
  have bg : Below w2.heap.size w2 (w2.alloc (.cells #[.int .i64 (m : Int), .slice (some ⟨gb, 0, none⟩) mm mm] 66)) := (Below.refl _ _).alloc (Nat.le_refl _) _
  have hb3 := ((unhide HB).trans (b2.mono (unhide HB).size)).trans (bg.mono (Nat.le_trans (unhide HB).size b2.size))
  have HRo := hide (hRo.below bg)
  clear b2 bg hRo
  generalize w2.alloc (.cells #[.int .i64 (m : Int), .slice (some ⟨gb, 0, none⟩) mm mm] 66) = w3 at *
  have s0 := (hG.all 0 _ rfl).1
  have s1 := (hG.all 1 _ rfl).1
  have KO := hide (wisOrder_any a n c xs m w3 ((unhide HX).below hb3) (by omega) hm8 ok (unhide HOK))
  have HB3 := hide hb3
  have HG := hide hG
  clear hG hb3
  go_wp2_with fail
  refine (unhide KO).mono ?_
  rintro _ w4 ⟨rfl, b4'⟩
  have hG4 := (unhide HG).below b4'
  have HRo4 := hide ((unhide HRo).below b4')
  have HB4 := hide ((unhide HB3).trans (b4'.mono (unhide HB3).size))
  have HG4 := hide hG4
  clear KO b4' s0 s1
  cases ok
  · clear hG4
    go_wp2_with fail
    refine bodyPost_ret (by simp [results, Tryz.results7, go_sem]; try rfl) rfl ?_
    exact ⟨unhide HB4, fun ho => absurd (Iff.mpr (unhide HOK) ho) (by decide), fun _ => rfl⟩
  · have ho : IsOrd xs m := Iff.mp (unhide HOK) rfl
    have hnm : n = m := by have := (unhide HX).len; have := ho.1; omega
    subst hnm
    have HO := hide ho
    have HX4 := hide ((unhide HX).below (unhide HB4))
    have HPP := hide (unhide HPX ho)
    have p0 := (hG4.all 0 _ rfl).1
    have p1 := (hG4.all 1 _ rfl).1
    have hmk := make_intsR n (by omega) w4
    have hRoI := RoV.made w4 n 3 (.int .i64 0)
    obtain ⟨w5, hw5⟩ : ∃ x, w4.alloc (.cells (madeCells #[.int .i64 0] n) 3) = x := ⟨_, rfl⟩
    have b5 : Below w4.heap.size w4 w5 := by rw [← hw5]; exact (Below.refl _ _).alloc (Nat.le_refl _) _
    rw [hw5] at hmk hRoI
    obtain ⟨g, hg⟩ : ∃ g, w4.heap.size = g := ⟨_, rfl⟩
    rw [hg] at hmk hRoI
    have hgw : w.heap.size ≤ g := by rw [← hg]; exact (unhide HB4).size
    have HBASE := hide (show ∀ W, Chg (fun j => j = g) w5 W → BoxP W w2.heap.size [.int .i64 (n : Int), .slice (some ⟨gb, 0, none⟩) mm mm] ∧ RoV W gb mm (fun i => .bool (Q i)) ∧ SlI W a n c xs ∧ Below w.heap.size w W from fun W k =>
      have hb5 := (unhide HB4).trans (b5.mono (unhide HB4).size)
      ⟨(hG4.below b5).chg k (fun e => by have := hG4.lt; omega), (by
        by_cases h0 : 0 < mm
        · exact ((unhide HRo4).below b5).chg k (fun e => by have := World.block_lt_of_cell? _ _ (unhide HRo4 0 h0).1; have h9 : gb < w4.heap.size := this; omega)
        · exact fun i hi => by omega), ((unhide HX4).below b5).chg k (fun z hz hne e => by have := (unhide HX4).block_lt hne z hz; omega), hb5.trans (k.below hb5.size (fun j hj e => by omega))⟩)
    have HR0 := hide hRoI
    clear hG4 ho hg hRoI b5
    go_wp2_with fail
    clear hmk p0 p1
    go_loopw [12] (fun vv wr => ∃ v : Nat, v ≤ n ∧ vv = .int .i64 (v : Int) ∧ Hid (RoV wr g n (fun i => .int .i64 (if i < v then -1 else 0))) ∧ Hid (Chg (fun j => j = g) w5 wr)) (fun vv _ => n - (intOf vv).toNat)
    case atStart => exact ⟨0, Nat.zero_le _, rfl, hide ((unhide HR0).congr (fun i _ => by simp)), hide (Chg.refl _ _)⟩
    case round =>
      obtain ⟨v, hv, rfl, HR1, HC1⟩ := hrel
      have hx := unhide HBASE wr (unhide HC1)
      have p0 := (hx.1.all 0 _ rfl).1
      by_cases hlt : v < n
      · have hlt' : (v : Int) < (n : Int) := by omega
        have g0 := (unhide HR1 v hlt).1
        have g1 := (unhide HR1 v hlt).2
        simp only [Nat.lt_irrefl, if_false] at g0
        have HR2 := hide (show RoV (wr.setCell ⟨g, v, none⟩ (.int .i64 (-1))) g n (fun i => .int .i64 (if i < v + 1 then -1 else 0)) from ((unhide HR1).put v _ hlt).congr (fun i hi => by
          by_cases e : i = v
          · subst e; simp
          · rw [if_neg e]
            have : (i < v) ↔ (i < v + 1) := by omega
            simp [this]))
        have HC2 := hide ((unhide HC1).trans (Chg.of_set (S := fun j => j = g) wr g v (.int .i64 (-1)) rfl))
        clear hx
        go_wp2_with fail
        exact ⟨⟨v + 1, by omega, by (first | rfl | go_num), HR2, HC2⟩, by simp [intOf]; omega⟩
      · obtain rfl : v = n := by omega
        have hlt' : ¬ (v : Int) < (v : Int) := by omega
        have HRM := hide (show RoV wr g v (fun i => .int .i64 ((fun _ => -1 : Nat → Int) i)) from (unhide HR1).congr (fun i hi => by simp [hi]))
        clear hx HR1
        go_wp2_with fail
        clear p0
        go_loopw [14, 13] (fun iv nv wr => ∃ (i z : Nat) (cs : Nat → Int), i ≤ v ∧ iv = .int .i64 (i : Int) ∧ nv = .int .i64 (z : Int) ∧ z ≤ v ∧ Hid (P i cs) ∧ Hid (NmI cs v z) ∧ Hid (RoV wr g v (fun i => .int .i64 (cs i))) ∧ Hid (Chg (fun j => j = g) w5 wr)) (fun iv _ _ => v - (intOf iv).toNat)
        case atStart => exact ⟨0, 0, _, Nat.zero_le _, rfl, rfl, Nat.zero_le _, hide (unhide HPP).zero, hide NmI.none, HRM, HC1⟩
        case round =>
          obtain ⟨i, z, cs, hi, rfl, rfl, hz, HP1, HN1, HR1, HC2⟩ := hrel
          have hx := unhide HBASE wr (unhide HC2)
          by_cases hin : i < v
          · have hin' : (i : Int) < (v : Int) := by omega
            obtain ⟨bb, off, ea, hc⟩ := hx.2.2.1.at (by omega)
            subst ea
            have sk := hc i hin
            have hr := (unhide HO).2.rng i hin
            obtain ⟨u, hu⟩ : ∃ u : Nat, xs.getD i 0 = (u : Int) := ⟨(xs.getD i 0).toNat, by omega⟩
            have hun : (xs.getD i 0).toNat = u := by omega
            obtain ⟨y, hy1, hy2, hy3, hy4⟩ := (unhide HPP).next i cs hin (unhide HP1)
            have hfr := (unhide HPP).fresh i cs hin (unhide HP1)
            rw [hun] at hy2 hy3 hy4 hfr
            rw [hu] at sk hr
            have huv : u < v := by omega
            have huv' : (u : Int) < (v : Int) := by omega
            have g0 := (unhide HR1 u huv).1
            have g1 := (unhide HR1 u huv).2
            have HY := hide (And.intro hy2 (And.intro hy3 hy4))
            have HNX := hide (show NmI (updC cs u y) v (max z (y + 1)) from (unhide HN1).upd huv hfr)
            have HR2 := hide (show RoV (wr.setCell ⟨g, u, none⟩ (.int .i64 0)) g v (fun i => .int .i64 (updC cs u 0 i)) from ((unhide HR1).put u _ huv).congr (fun i hi => by unfold updC; split <;> simp))
            have HC3 := hide ((unhide HC2).trans (Chg.of_set (S := fun j => j = g) wr g u (.int .i64 0) rfl))
            have hyv : y ≤ 128 := by omega
            clear hc hx hu hun hy2 hy3 hy4 hfr hr
            go_wp2_with fail
            clear sk g0 g1
            go_loopw [] (fun wr => ∃ j : Nat, j ≤ y ∧ Hid (RoV wr g v (fun i => .int .i64 (updC cs u j i))) ∧ Hid (Chg (fun j => j = g) w5 wr)) (fun wr => y - (colOf wr g u).toNat)
            case atStart => exact ⟨0, Nat.zero_le _, HR2, HC3⟩
            case round =>
              obtain ⟨j, hj, HR3, HC4⟩ := hrel
              have hx := unhide HBASE wr (unhide HC4)
              have p0 := (hx.1.all 0 _ rfl).1
              have p1 := (hx.1.all 1 _ rfl).1
              by_cases hjy : j < y
              · have KR := hide (unhide HRT gb g (updC cs u j) u false wr huv hx.2.1 (unhide HR3) ⟨fun e => by (cases e), fun h => absurd h ((unhide HY).2.1 j hjy)⟩)
                clear hx
                go_wp2_with fail
                refine (unhide KR).mono ?_
                rintro _ w6 ⟨rfl, b6⟩
                have hR4 := (unhide HR3).below b6
                have g0 := (hR4 u huv).1
                have g1 := (hR4 u huv).2
                simp only [updC_same] at g0
                have hw1 : IntKind.i64.wrap ((j : Int) + 1) = (j : Int) + 1 := by rw [IntKind.wrap_i64]; omega
                have HR5 := hide (show RoV (w6.setCell ⟨g, u, none⟩ (.int .i64 ((j : Int) + 1))) g v (fun i => .int .i64 (updC cs u (j + 1) i)) from (hR4.put u _ huv).congr (fun i hi => by unfold updC; split <;> simp))
                have HC6 := hide (((unhide HC4).trans (Chg.of_below b6)).trans (Chg.of_set (S := fun j => j = g) w6 g u (.int .i64 ((j : Int) + 1)) rfl))
                clear KR b6 hR4 p0 p1
                go_wp2_with fail
                exact ⟨⟨j + 1, by omega, HR5, HC6⟩, by rw [colOf_row (unhide HR3) huv, colOf_row (unhide HR5) huv, updC_same, updC_same]; omega⟩
              · obtain rfl : j = y := by omega
                have KR := hide (unhide HRT gb g (updC cs u j) u true wr huv hx.2.1 (unhide HR3) ⟨fun _ => (unhide HY).1, fun _ => rfl⟩)
                clear hx
                go_wp2_with fail
                refine (unhide KR).mono ?_
                rintro _ w6 ⟨rfl, b6⟩
                have hR4 := (unhide HR3).below b6
                have g0 := (hR4 u huv).1
                simp only [updC_same] at g0
                have hw1 : IntKind.i64.wrap ((j : Int) + 1) = (j : Int) + 1 := by rw [IntKind.wrap_i64]; omega
                have HR5 := hide hR4
                have HC6 := hide ((unhide HC4).trans (Chg.of_below b6))
                have HP2 := hide (unhide HY).2.2
                clear KR b6 hR4 p0 p1
                by_cases hgt : z < j + 1
                · have hgt' : (z : Int) < (j : Int) + 1 := by omega
                  have e : max z (j + 1) = j + 1 := by omega
                  rw [e] at HNX
                  clear e
                  go_wp2_with fail
                  exact ⟨⟨i + 1, j + 1, _, by omega, by (first | rfl | go_num), by (first | rfl | go_num), by omega, HP2, HNX, HR5, HC6⟩, by simp [intOf]; omega⟩
                · have hgt' : ¬ (z : Int) < (j : Int) + 1 := by omega
                  have e : max z (j + 1) = z := by omega
                  rw [e] at HNX
                  clear e
                  go_wp2_with fail
                  exact ⟨⟨i + 1, z, _, by omega, by (first | rfl | go_num), rfl, by omega, HP2, HNX, HR5, HC6⟩, by simp [intOf]; omega⟩
          · obtain rfl : i = v := by omega
            have hin' : ¬ (i : Int) < (i : Int) := by omega
            have HF := hide hx.2.2.2
            clear hx
            go_wp2_with fail
            refine bodyPost_ret (by simp [results, Tryz.results7, go_sem]; try rfl) rfl ?_
            exact ⟨unhide HF, fun _ => ⟨g, cs, z, rfl, unhide HP1, (unhide HN1).num, unhide HR1, hgw⟩, fun hno => absurd (unhide HO) hno⟩
end Go.Proofs.YtohamaiobhikiaaGreat
