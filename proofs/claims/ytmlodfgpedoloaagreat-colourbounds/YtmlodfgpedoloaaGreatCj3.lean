/-
  BOUNDS: sloperef12.Bound: contracts by premises.
-/
import Derived.Test.YtmlodfgpedoloaaGreatRq0
import Derived.Test.YtmlodfgpedoloaaGreatCj2
import Derived.Test.YtmlodfgpedoloaaGreatCi8
namespace Go.Proofs.YtmlodfgpedoloaaGreat
open Go.RowKit Go.Deep
set_option linter.unusedVariables false

/-- Near, by places in an order: through the first t. -/
def NwT (E : Nat → Nat → Prop) (xs : List Int) (wd : Bool) (i j t : Nat) : Prop := E (xs.getD i 0).toNat (xs.getD j 0).toNat ∨ (wd = true ∧ ∃ p, p < t ∧ E (xs.getD i 0).toNat (xs.getD p 0).toNat ∧ E (xs.getD p 0).toNat (xs.getD j 0).toNat)
theorem nwT_next {E : Nat → Nat → Prop} {xs : List Int} {i j t : Nat} {nb q1 q2 : Bool} (h : TruQ nb (NwT E xs true i j t)) (h1 : q1 = true ↔ E (xs.getD i 0).toNat (xs.getD t 0).toNat) (h2 : q2 = true ↔ E (xs.getD t 0).toNat (xs.getD j 0).toNat) : TruQ (nb || (q1 && q2)) (NwT E xs true i j (t + 1)) := by
  have h' : nb = true ↔ NwT E xs true i j t := h
  show (nb || (q1 && q2)) = true ↔ _
  rw [Bool.or_eq_true, Bool.and_eq_true, h', h1, h2]
  constructor
  · rintro ((e | ⟨_, p, hp, e⟩) | e)
    · exact .inl e
    · exact .inr ⟨rfl, p, by omega, e⟩
    · exact .inr ⟨rfl, t, by omega, e⟩
  · rintro (e | ⟨_, p, hp, e⟩)
    · exact .inl (.inl e)
    · by_cases c : p = t
      · subst c; exact .inr e
      · exact .inl (.inr ⟨rfl, p, by omega, e⟩)
theorem nwT_zero {E : Nat → Nat → Prop} {xs : List Int} {wd : Bool} {i j : Nat} {q : Bool} (h : q = true ↔ E (xs.getD i 0).toNat (xs.getD j 0).toNat) : TruQ q (NwT E xs wd i j 0) := by
  show q = true ↔ _
  rw [h]
  exact ⟨.inl, fun e => e.elim id (fun ⟨_, p, hp, _⟩ => absurd hp (Nat.not_lt_zero _))⟩
theorem nwT_false {E : Nat → Nat → Prop} {xs : List Int} {i j t u : Nat} {q : Bool} (h : TruQ q (NwT E xs false i j t)) : TruQ q (NwT E xs false i j u) := by
  have h' : q = true ↔ NwT E xs false i j t := h
  show q = true ↔ _
  rw [h']
  exact ⟨fun e => e.elim .inl (fun e => absurd e.1 (by decide)), fun e => e.elim .inl (fun e => absurd e.1 (by decide))⟩
theorem cnP_no {P : Nat → Prop} {k : Nat} (h : ¬ P k) : cnP P (k + 1) = cnP P k := by rw [cnP_next, tb_no h]; rfl
theorem cnP_yes {P : Nat → Prop} {k : Nat} (h : P k) : cnP P (k + 1) = cnP P k + 1 := by rw [cnP_next, tb_yes h]; rfl
noncomputable def bwF (E : Nat → Nat → Prop) (xs : List Int) (wd : Bool) (i : Nat) : Nat := 1 + cnP (fun j => NwT E xs wd i j i) i
set_option maxRecDepth 100000 in
set_option maxHeartbeats 16000000 in
/-- sloperef12.Bound, refused. -/
theorem wBound_no (k rows width : Int) (er : Int) (her : (er != 0) = true) (a : Option Addr) (n c : Nat) (a1 a2 : Option Addr) (n1 c1 n2 c2 : Nat) (st cols : List Int) (w : World) (h1 : SlI w a1 n1 c1 st) (h2 : SlI w a2 n2 c2 cols) (hT : ∀ W, SlI W a1 n1 c1 st → SlI W a2 n2 c2 cols → Calls Tryz.prog 17 #[.int .i64 k, patV rows width a1 n1 c1 a2 n2 c2] W fun e w' => e = .returned (.tuple #[.agg #[.int .i64 0, .slice none 0 0], .int .i64 er]) ∧ Below W.heap.size W w') :
    Calls Tryz.prog 7 #[.int .i64 k, patV rows width a1 n1 c1 a2 n2 c2, .slice a n c] w fun e w' => e = .returned (.tuple #[.int .i64 0, .int .i64 er]) ∧ Below w.heap.size w w' := by
  obtain ⟨wb, hwb⟩ : ∃ x, w.alloc (.cells #[.int .i64 rows, .int .i64 width, .slice a1 n1 c1, .slice a2 n2 c2] 25) = x := ⟨_, rfl⟩
  have bb : Below w.heap.size w wb := by rw [← hwb]; exact (Below.refl _ _).alloc (Nat.le_refl _) _
  have hT0 := BoxP.made w #[.int .i64 rows, .int .i64 width, .slice a1 n1 c1, .slice a2 n2 c2] 25
  rw [hwb] at hT0
  have p0 := (hT0.all 0 _ rfl).1
  have p1 := (hT0.all 1 _ rfl).1
  have p2 := (hT0.all 2 _ rfl).1
  have p3 := (hT0.all 3 _ rfl).1
  have KT := hide (hT wb (h1.below bb) (h2.below bb))
  unfold patV at KT
  have HB := hide bb
  have HT0 := hide hT0
  clear hT0 bb h1 h2 hT
  unfold patV
  go_enter Tryz.func7, Tryz.ntmps7
  go_wp2_with fail
  refine (unhide KT).mono ?_
  rintro _ w2 ⟨rfl, b2⟩
  clear p0 p1 p2 p3 KT
  try dsimp only
  have HB2 := hide ((unhide HB).trans (b2.mono (unhide HB).size))
  clear b2
  go_wp2_with fail
  refine bodyPost_ret (by simp [results, Tryz.results7, go_sem]; try rfl) rfl ?_
  exact ⟨rfl, (unhide HB2).alloc (unhide HB2).size _⟩
set_option maxRecDepth 100000 in
set_option maxHeartbeats 16000000 in
/-- sloperef12.Floor, refused. -/
theorem wFloor_no (k rows width : Int) (er : Int) (her : (er != 0) = true) (a1 a2 : Option Addr) (n1 c1 n2 c2 : Nat) (st cols : List Int) (w : World) (h1 : SlI w a1 n1 c1 st) (h2 : SlI w a2 n2 c2 cols) (hT : ∀ W, SlI W a1 n1 c1 st → SlI W a2 n2 c2 cols → Calls Tryz.prog 17 #[.int .i64 k, patV rows width a1 n1 c1 a2 n2 c2] W fun e w' => e = .returned (.tuple #[.agg #[.int .i64 0, .slice none 0 0], .int .i64 er]) ∧ Below W.heap.size W w') :
    Calls Tryz.prog 9 #[.int .i64 k, patV rows width a1 n1 c1 a2 n2 c2] w fun e w' => e = .returned (.tuple #[.int .i64 0, .int .i64 er]) ∧ Below w.heap.size w w' := by
  obtain ⟨wb, hwb⟩ : ∃ x, w.alloc (.cells #[.int .i64 rows, .int .i64 width, .slice a1 n1 c1, .slice a2 n2 c2] 25) = x := ⟨_, rfl⟩
  have bb : Below w.heap.size w wb := by rw [← hwb]; exact (Below.refl _ _).alloc (Nat.le_refl _) _
  have hT0 := BoxP.made w #[.int .i64 rows, .int .i64 width, .slice a1 n1 c1, .slice a2 n2 c2] 25
  rw [hwb] at hT0
  have p0 := (hT0.all 0 _ rfl).1
  have p1 := (hT0.all 1 _ rfl).1
  have p2 := (hT0.all 2 _ rfl).1
  have p3 := (hT0.all 3 _ rfl).1
  have KT := hide (hT wb (h1.below bb) (h2.below bb))
  unfold patV at KT
  have HB := hide bb
  have HT0 := hide hT0
  clear hT0 bb h1 h2 hT
  unfold patV
  go_enter Tryz.func9, Tryz.ntmps9
  go_wp2_with fail
  refine (unhide KT).mono ?_
  rintro _ w2 ⟨rfl, b2⟩
  clear p0 p1 p2 p3 KT
  try dsimp only
  have HB2 := hide ((unhide HB).trans (b2.mono (unhide HB).size))
  clear b2
  go_wp2_with fail
  refine bodyPost_ret (by simp [results, Tryz.results9, go_sem]; try rfl) rfl ?_
  exact ⟨rfl, (unhide HB2).alloc (unhide HB2).size _⟩
set_option maxRecDepth 100000 in
set_option maxHeartbeats 16000000 in
/-- sloperef12.Bound. -/
theorem wBound_ff (kd : Int) (hk4 : (kd == 4) = false) (hk5 : (kd == 5) = false) (R width m : Nat) (Q : Nat → Bool) (E : Nat → Nat → Prop) (hE : ∀ u v, u < m → v < m → (Q (u * m + v) = true ↔ E u v)) (a : Option Addr) (n c : Nat) (xs : List Int) (a1 a2 : Option Addr) (n1 c1 n2 c2 : Nat) (st cols : List Int) (w : World) (h1 : SlI w a1 n1 c1 st) (h2 : SlI w a2 n2 c2 cols) (h3 : SlI w a n c xs) (hn : n ≤ 17592186044000) (hm8 : m ≤ 128) (hT : ∀ W, SlI W a1 n1 c1 st → SlI W a2 n2 c2 cols → Calls Tryz.prog 17 #[.int .i64 kd, patV (R : Int) (width : Int) a1 n1 c1 a2 n2 c2] W fun e w' => TgQ W w' e m (m * m) Q) :
    Calls Tryz.prog 7 #[.int .i64 kd, patV (R : Int) (width : Int) a1 n1 c1 a2 n2 c2, .slice a n c] w fun e w' => BdP xs m (bwF E xs false) w w' e := by
  obtain ⟨ok, hok⟩ := truth (IsOrd xs m)
  obtain ⟨wb, hwb⟩ : ∃ x, w.alloc (.cells #[.int .i64 (R : Int), .int .i64 (width : Int), .slice a1 n1 c1, .slice a2 n2 c2] 25) = x := ⟨_, rfl⟩
  have bb : Below w.heap.size w wb := by rw [← hwb]; exact (Below.refl _ _).alloc (Nat.le_refl _) _
  have hT0 := BoxP.made w #[.int .i64 (R : Int), .int .i64 (width : Int), .slice a1 n1 c1, .slice a2 n2 c2] 25
  rw [hwb] at hT0
  have p0 := (hT0.all 0 _ rfl).1
  have p1 := (hT0.all 1 _ rfl).1
  have p2 := (hT0.all 2 _ rfl).1
  have p3 := (hT0.all 3 _ rfl).1
  have KT := hide (hT wb (h1.below bb) (h2.below bb))
  unfold patV at KT
  have HB := hide bb
  have HT0 := hide hT0
  have HX := hide h3
  have HOK := hide (show TruQ ok (IsOrd xs m) from hok)
  have HE := hide hE
  obtain ⟨mm, hmm⟩ : ∃ mm, m * m = mm := ⟨_, rfl⟩
  have HMM := hide hmm
  have hmm2 : mm ≤ 16384 := by
    have := Nat.mul_le_mul hm8 hm8
    omega
  rw [hmm] at KT
  unfold TgQ grV at KT
  clear hT0 bb h1 h2 hT h3 hok hE hmm
  unfold patV
  go_enter Tryz.func7, Tryz.ntmps7
  go_wp2_with fail
  refine (unhide KT).mono ?_
  rintro _ w2 ⟨gb, rfl, hRo, b2⟩
  clear p0 p1 p2 p3 KT
  try dsimp only
  repeat ((fail_if_success (with_reducible (show Code.wp _ _ _ _ (World.alloc w2 (Obj.cells #[_, .slice (some ⟨gb, 0, none⟩) mm mm] _))))); (first | go_values | go_skip | go_guarded | go_step | go_upon | go_back))
  have hG := BoxP.made w2 #[.int .i64 (m : Int), .slice (some ⟨gb, 0, none⟩) mm mm] 65
  have bg : Below w2.heap.size w2 (w2.alloc (.cells #[.int .i64 (m : Int), .slice (some ⟨gb, 0, none⟩) mm mm] 65)) := (Below.refl _ _).alloc (Nat.le_refl _) _
  have hb3 := ((unhide HB).trans (b2.mono (unhide HB).size)).trans (bg.mono (Nat.le_trans (unhide HB).size b2.size))
  have HRo := hide (hRo.below bg)
  clear b2 bg hRo
  generalize w2.alloc (.cells #[.int .i64 (m : Int), .slice (some ⟨gb, 0, none⟩) mm mm] 65) = w3 at *
  have s0 := (hG.all 0 _ rfl).1
  have s1 := (hG.all 1 _ rfl).1
  have KO := hide (wisOrder_any a n c xs m w3 ((unhide HX).below hb3) (by omega) hm8 ok (unhide HOK))
  have HB3 := hide hb3
  have HG := hide hG
  clear hG hb3
  go_wp2_with fail
  refine (unhide KO).mono ?_
  rintro _ w4 ⟨rfl, b4'⟩
  have hG4 := (unhide HG).below b4'
  have HRo4 := hide ((unhide HRo).below b4')
  have HB4 := hide ((unhide HB3).trans (b4'.mono (unhide HB3).size))
  have HG4 := hide hG4
  clear KO b4' s0 s1
  cases ok
  · clear hG4
    go_wp2_with fail
    refine bodyPost_ret (by simp [results, Tryz.results7, go_sem]; try rfl) rfl ?_
    exact ⟨unhide HB4, fun ho => absurd (Iff.mpr (unhide HOK) ho) (by decide), fun _ => rfl⟩
  · have ho : IsOrd xs m := Iff.mp (unhide HOK) rfl
    have hnm : n = m := by have := (unhide HX).len; have := ho.1; omega
    subst hnm
    have HO := hide ho
    have HX4 := hide ((unhide HX).below (unhide HB4))
    clear hG4 ho
    obtain ⟨bb, off, HXE⟩ : ∃ bb off, Hid ((0 < n → a = some ⟨bb, off, none⟩) ∧ ∀ i, i < n → w4.cell? ⟨bb, off + i, none⟩ = some (.int .i64 (xs.getD i 0))) := by
      rcases Nat.eq_zero_or_pos n with e | e
      · exact ⟨0, 0, hide ⟨fun h => by omega, fun i hi => by omega⟩⟩
      · obtain ⟨bb, off, ea, hc⟩ := (unhide HX4).at e
        exact ⟨bb, off, hide ⟨fun _ => ea, hc⟩⟩
    have HXC := hide (show ∀ i, i < n → ∃ u : Nat, xs.getD i 0 = (u : Int) ∧ u < n ∧ w4.cell? ⟨bb, off + i, none⟩ = some (.int .i64 (u : Int)) from fun i hi => by
      have hr := (unhide HO).2.rng i hi
      exact ⟨(xs.getD i 0).toNat, by omega, by omega, by rw [(unhide HXE).2 i hi]; congr 2; omega⟩)
    have HKM := hide (show ∀ W, Below w4.heap.size w4 W → ∀ u v, u < n → v < n → Calls Tryz.prog 19 #[.agg #[.int .i64 (n : Int), .slice (some ⟨gb, 0, none⟩) mm mm], .int .i64 (u : Int), .int .i64 (v : Int)] W fun e w' => e = .returned (.bool (Q (u * n + v))) ∧ Below W.heap.size W w' from fun W b u v hu hv =>
      wmeet_any n gb mm u v Q W hm8 (by omega) (by omega) (by rw [← unhide HMM]; have := Nat.mul_le_mul_right n (show u + 1 ≤ n by omega); rw [Nat.add_mul, Nat.one_mul] at this; omega) hmm2 ((unhide HRo4).below b))
    go_wp2_with fail
    go_loopw [11, 10] (fun iv mv wr => ∃ (i q : Nat), i ≤ n ∧ iv = .int .i64 (i : Int) ∧ mv = .int .i64 (q : Int) ∧ q ≤ 129 ∧ Hid (LgT (bwF E xs false) i q) ∧ Hid (Below w4.heap.size w4 wr)) (fun iv _ _ => n - (intOf iv).toNat)
    case atStart => exact ⟨0, 0, Nat.zero_le _, rfl, rfl, by omega, hide ⟨fun i hi => absurd hi (Nat.not_lt_zero _), .inl rfl⟩, hide (Below.refl _ _)⟩
    case round =>
      obtain ⟨i, q, hi, rfl, rfl, hq9, HLG, HW1⟩ := hrel
      by_cases hin : i < n
      · have hin' : (i : Int) < (n : Int) := by omega
        have ha := (unhide HXE).1 (by omega)
        subst ha
        obtain ⟨ui, hui, huin, sci⟩ := unhide HXC i hin
        have HUI := hide (show (xs.getD i 0).toNat = ui by omega)
        clear hui
        go_wp2_with fail
        go_loopw [13, 12] (fun jv kv wr => ∃ (j kk : Nat), j ≤ i ∧ jv = .int .i64 (j : Int) ∧ kv = .int .i64 (kk : Int) ∧ Hid (kk = cnP (fun j => NwT E xs false i j i) j) ∧ Hid (Below w4.heap.size w4 wr)) (fun jv _ _ => i - (intOf jv).toNat)
        case atStart => exact ⟨0, 0, Nat.zero_le _, rfl, rfl, hide rfl, HW1⟩
        case round =>
          obtain ⟨j, kk, hj, rfl, rfl, HKK, HW2⟩ := hrel
          have hkj : kk ≤ j := by have := unhide HKK; have := cnP_le (fun j => NwT E xs false i j i) j; omega
          by_cases hjn : j < i
          · have hjn' : (j : Int) < (i : Int) := by omega
            have hji : (j : Int) < (n : Int) := by omega
            obtain ⟨uj, huj, hujn, scj⟩ := unhide HXC j (by omega)
            have HUJ := hide (show (xs.getD j 0).toNat = uj by omega)
            have scir := ((unhide HW2).cell (p := ⟨bb, off + i, none⟩) (World.block_lt_of_cell? _ _ sci)).trans sci
            have scjr := ((unhide HW2).cell (p := ⟨bb, off + j, none⟩) (World.block_lt_of_cell? _ _ scj)).trans scj
            have hGr := (unhide HG4).below (unhide HW2)
            have g0r := (hGr.all 0 _ rfl).1
            have g1r := (hGr.all 1 _ rfl).1
            have Fg0 := fun x' : Ext wr => x'.cell g0r
            have Fg1 := fun x' : Ext wr => x'.cell g1r
            have Fsi := fun x' : Ext wr => x'.cell scir
            have Fsj := fun x' : Ext wr => x'.cell scjr
            have hNE := Ext.ne wr
            obtain ⟨q0, hq0⟩ : ∃ q0, Q (ui * n + uj) = q0 := ⟨_, rfl⟩
            have HK0 := hide (show ∀ x' : Ext wr, Calls Tryz.prog 19 #[.agg #[.int .i64 (n : Int), .slice (some ⟨gb, 0, none⟩) mm mm], .int .i64 (ui : Int), .int .i64 (uj : Int)] x'.w fun e w' => e = .returned (.bool q0) ∧ Below x'.w.heap.size x'.w w' from fun x' => by rw [← hq0]; exact unhide HKM x'.w ((unhide HW2).trans (x'.bel.mono (unhide HW2).size)) ui uj huin hujn)
            have HQ0 := hide (show TruQ q0 (NwT E xs false i j 0) from nwT_zero (by rw [← hq0, unhide HUI, unhide HUJ]; exact unhide HE ui uj huin hujn))
            clear huj hGr g0r g1r scir scjr hq0
            go_wp2_with fail
            refine wp_region_ext (by kernel_rfl) (by kernel_rfl) ?_
            repeat (go_big_quiet_step ((go_at_call 19; rename_i x'; exact Ext.call (unhide HK0 x') (fun e w' h => h))))
            refine wpQuiet_nil ?_
            rintro _ ⟨xE, rfl⟩
            have HWX := hide (show Below w4.heap.size w4 xE.w from (unhide HW2).trans (xE.bel.mono (unhide HW2).size))
            clear Fg0 Fg1 Fsi Fsj hNE HK0
            go_wp2_with fail
            go_loopw [15, 14] (fun tv nv wr => ∃ (t : Nat) (nb : Bool), t ≤ i ∧ tv = .int .i64 (t : Int) ∧ nv = .bool nb ∧ Hid (TruQ nb (NwT E xs false i j t)) ∧ Hid (Below w4.heap.size w4 wr)) (fun tv _ _ => i - (intOf tv).toNat)
            case atStart => exact ⟨0, q0, Nat.zero_le _, rfl, rfl, HQ0, HWX⟩
            case round =>
              obtain ⟨t, nb, ht, rfl, rfl, HNB, HW3⟩ := hrel
              have HNI := hide (show TruQ nb (NwT E xs false i j i) from nwT_false (unhide HNB))
              first
              | skip
                cases nb
                · have HCK := hide (cnP_no (P := fun j => NwT E xs false i j i) (k := j) (fun h => absurd (Iff.mpr (unhide HNI) h) (by decide)))
                  go_wp2_with fail
                  exact ⟨⟨j + 1, kk, by omega, by (first | rfl | go_num), rfl, hide ((unhide HKK).trans (unhide HCK).symm), HW3⟩, by simp [intOf]; omega⟩
                · have HCK := hide (cnP_yes (P := fun j => NwT E xs false i j i) (k := j) (Iff.mp (unhide HNI) rfl))
                  go_wp2_with fail
                  exact ⟨⟨j + 1, kk + 1, by omega, by (first | rfl | go_num), by (first | rfl | go_num), hide (by rw [unhide HCK, ← unhide HKK]), HW3⟩, by simp [intOf]; omega⟩
          · obtain rfl : j = i := by omega
            have hjn' : ¬ (j : Int) < (j : Int) := by omega
            have HNX := hide (show LgT (bwF E xs false) (j + 1) (max q (kk + 1)) from by
              have := (unhide HLG).next
              rw [show bwF E xs false j = kk + 1 from by unfold bwF; rw [unhide HKK]; omega] at this
              exact this)
            by_cases hgt : q < kk + 1
            · have hgt' : (q : Int) < (kk : Int) + 1 := by omega
              rw [show max q (kk + 1) = kk + 1 by omega] at HNX
              go_wp2_with fail
              exact ⟨⟨j + 1, kk + 1, by omega, by (first | rfl | go_num), by (first | rfl | go_num), by omega, HNX, HW2⟩, by simp [intOf]; omega⟩
            · have hgt' : ¬ (q : Int) < (kk : Int) + 1 := by omega
              rw [show max q (kk + 1) = q by omega] at HNX
              go_wp2_with fail
              exact ⟨⟨j + 1, q, by omega, by (first | rfl | go_num), rfl, by omega, HNX, HW2⟩, by simp [intOf]; omega⟩
      · obtain rfl : i = n := by omega
        have hin' : ¬ (i : Int) < (i : Int) := by omega
        go_wp2_with fail
        refine bodyPost_ret (by simp [results, Tryz.results7, go_sem]; try rfl) rfl ?_
        exact ⟨(unhide HB4).trans ((unhide HW1).mono (unhide HB4).size), fun _ => ⟨q, rfl, unhide HLG⟩, fun hno => absurd (unhide HO) hno⟩
set_option maxRecDepth 100000 in
set_option maxHeartbeats 16000000 in
/-- sloperef12.Bound. -/
theorem wBound_ft (kd : Int) (hk4 : (kd == 4) = false) (hk5 : (kd == 5) = true) (R width m : Nat) (Q : Nat → Bool) (E : Nat → Nat → Prop) (hE : ∀ u v, u < m → v < m → (Q (u * m + v) = true ↔ E u v)) (a : Option Addr) (n c : Nat) (xs : List Int) (a1 a2 : Option Addr) (n1 c1 n2 c2 : Nat) (st cols : List Int) (w : World) (h1 : SlI w a1 n1 c1 st) (h2 : SlI w a2 n2 c2 cols) (h3 : SlI w a n c xs) (hn : n ≤ 17592186044000) (hm8 : m ≤ 128) (hT : ∀ W, SlI W a1 n1 c1 st → SlI W a2 n2 c2 cols → Calls Tryz.prog 17 #[.int .i64 kd, patV (R : Int) (width : Int) a1 n1 c1 a2 n2 c2] W fun e w' => TgQ W w' e m (m * m) Q) :
    Calls Tryz.prog 7 #[.int .i64 kd, patV (R : Int) (width : Int) a1 n1 c1 a2 n2 c2, .slice a n c] w fun e w' => BdP xs m (bwF E xs true) w w' e := by
  obtain ⟨ok, hok⟩ := truth (IsOrd xs m)
  obtain ⟨wb, hwb⟩ : ∃ x, w.alloc (.cells #[.int .i64 (R : Int), .int .i64 (width : Int), .slice a1 n1 c1, .slice a2 n2 c2] 25) = x := ⟨_, rfl⟩
  have bb : Below w.heap.size w wb := by rw [← hwb]; exact (Below.refl _ _).alloc (Nat.le_refl _) _
  have hT0 := BoxP.made w #[.int .i64 (R : Int), .int .i64 (width : Int), .slice a1 n1 c1, .slice a2 n2 c2] 25
  rw [hwb] at hT0
  have p0 := (hT0.all 0 _ rfl).1
  have p1 := (hT0.all 1 _ rfl).1
  have p2 := (hT0.all 2 _ rfl).1
  have p3 := (hT0.all 3 _ rfl).1
  have KT := hide (hT wb (h1.below bb) (h2.below bb))
  unfold patV at KT
  have HB := hide bb
  have HT0 := hide hT0
  have HX := hide h3
  have HOK := hide (show TruQ ok (IsOrd xs m) from hok)
  have HE := hide hE
  obtain ⟨mm, hmm⟩ : ∃ mm, m * m = mm := ⟨_, rfl⟩
  have HMM := hide hmm
  have hmm2 : mm ≤ 16384 := by
    have := Nat.mul_le_mul hm8 hm8
    omega
  rw [hmm] at KT
  unfold TgQ grV at KT
  clear hT0 bb h1 h2 hT h3 hok hE hmm
  unfold patV
  go_enter Tryz.func7, Tryz.ntmps7
  go_wp2_with fail
  refine (unhide KT).mono ?_
  rintro _ w2 ⟨gb, rfl, hRo, b2⟩
  clear p0 p1 p2 p3 KT
  try dsimp only
  repeat ((fail_if_success (with_reducible (show Code.wp _ _ _ _ (World.alloc w2 (Obj.cells #[_, .slice (some ⟨gb, 0, none⟩) mm mm] _))))); (first | go_values | go_skip | go_guarded | go_step | go_upon | go_back))
  have hG := BoxP.made w2 #[.int .i64 (m : Int), .slice (some ⟨gb, 0, none⟩) mm mm] 65
  have bg : Below w2.heap.size w2 (w2.alloc (.cells #[.int .i64 (m : Int), .slice (some ⟨gb, 0, none⟩) mm mm] 65)) := (Below.refl _ _).alloc (Nat.le_refl _) _
  have hb3 := ((unhide HB).trans (b2.mono (unhide HB).size)).trans (bg.mono (Nat.le_trans (unhide HB).size b2.size))
  have HRo := hide (hRo.below bg)
  clear b2 bg hRo
  generalize w2.alloc (.cells #[.int .i64 (m : Int), .slice (some ⟨gb, 0, none⟩) mm mm] 65) = w3 at *
  have s0 := (hG.all 0 _ rfl).1
  have s1 := (hG.all 1 _ rfl).1
  have KO := hide (wisOrder_any a n c xs m w3 ((unhide HX).below hb3) (by omega) hm8 ok (unhide HOK))
  have HB3 := hide hb3
  have HG := hide hG
  clear hG hb3
  go_wp2_with fail
  refine (unhide KO).mono ?_
  rintro _ w4 ⟨rfl, b4'⟩
  have hG4 := (unhide HG).below b4'
  have HRo4 := hide ((unhide HRo).below b4')
  have HB4 := hide ((unhide HB3).trans (b4'.mono (unhide HB3).size))
  have HG4 := hide hG4
  clear KO b4' s0 s1
  cases ok
  · clear hG4
    go_wp2_with fail
    refine bodyPost_ret (by simp [results, Tryz.results7, go_sem]; try rfl) rfl ?_
    exact ⟨unhide HB4, fun ho => absurd (Iff.mpr (unhide HOK) ho) (by decide), fun _ => rfl⟩
  · have ho : IsOrd xs m := Iff.mp (unhide HOK) rfl
    have hnm : n = m := by have := (unhide HX).len; have := ho.1; omega
    subst hnm
    have HO := hide ho
    have HX4 := hide ((unhide HX).below (unhide HB4))
    clear hG4 ho
    obtain ⟨bb, off, HXE⟩ : ∃ bb off, Hid ((0 < n → a = some ⟨bb, off, none⟩) ∧ ∀ i, i < n → w4.cell? ⟨bb, off + i, none⟩ = some (.int .i64 (xs.getD i 0))) := by
      rcases Nat.eq_zero_or_pos n with e | e
      · exact ⟨0, 0, hide ⟨fun h => by omega, fun i hi => by omega⟩⟩
      · obtain ⟨bb, off, ea, hc⟩ := (unhide HX4).at e
        exact ⟨bb, off, hide ⟨fun _ => ea, hc⟩⟩
    have HXC := hide (show ∀ i, i < n → ∃ u : Nat, xs.getD i 0 = (u : Int) ∧ u < n ∧ w4.cell? ⟨bb, off + i, none⟩ = some (.int .i64 (u : Int)) from fun i hi => by
      have hr := (unhide HO).2.rng i hi
      exact ⟨(xs.getD i 0).toNat, by omega, by omega, by rw [(unhide HXE).2 i hi]; congr 2; omega⟩)
    have HKM := hide (show ∀ W, Below w4.heap.size w4 W → ∀ u v, u < n → v < n → Calls Tryz.prog 19 #[.agg #[.int .i64 (n : Int), .slice (some ⟨gb, 0, none⟩) mm mm], .int .i64 (u : Int), .int .i64 (v : Int)] W fun e w' => e = .returned (.bool (Q (u * n + v))) ∧ Below W.heap.size W w' from fun W b u v hu hv =>
      wmeet_any n gb mm u v Q W hm8 (by omega) (by omega) (by rw [← unhide HMM]; have := Nat.mul_le_mul_right n (show u + 1 ≤ n by omega); rw [Nat.add_mul, Nat.one_mul] at this; omega) hmm2 ((unhide HRo4).below b))
    go_wp2_with fail
    go_loopw [11, 10] (fun iv mv wr => ∃ (i q : Nat), i ≤ n ∧ iv = .int .i64 (i : Int) ∧ mv = .int .i64 (q : Int) ∧ q ≤ 129 ∧ Hid (LgT (bwF E xs true) i q) ∧ Hid (Below w4.heap.size w4 wr)) (fun iv _ _ => n - (intOf iv).toNat)
    case atStart => exact ⟨0, 0, Nat.zero_le _, rfl, rfl, by omega, hide ⟨fun i hi => absurd hi (Nat.not_lt_zero _), .inl rfl⟩, hide (Below.refl _ _)⟩
    case round =>
      obtain ⟨i, q, hi, rfl, rfl, hq9, HLG, HW1⟩ := hrel
      by_cases hin : i < n
      · have hin' : (i : Int) < (n : Int) := by omega
        have ha := (unhide HXE).1 (by omega)
        subst ha
        obtain ⟨ui, hui, huin, sci⟩ := unhide HXC i hin
        have HUI := hide (show (xs.getD i 0).toNat = ui by omega)
        clear hui
        go_wp2_with fail
        go_loopw [13, 12] (fun jv kv wr => ∃ (j kk : Nat), j ≤ i ∧ jv = .int .i64 (j : Int) ∧ kv = .int .i64 (kk : Int) ∧ Hid (kk = cnP (fun j => NwT E xs true i j i) j) ∧ Hid (Below w4.heap.size w4 wr)) (fun jv _ _ => i - (intOf jv).toNat)
        case atStart => exact ⟨0, 0, Nat.zero_le _, rfl, rfl, hide rfl, HW1⟩
        case round =>
          obtain ⟨j, kk, hj, rfl, rfl, HKK, HW2⟩ := hrel
          have hkj : kk ≤ j := by have := unhide HKK; have := cnP_le (fun j => NwT E xs true i j i) j; omega
          by_cases hjn : j < i
          · have hjn' : (j : Int) < (i : Int) := by omega
            have hji : (j : Int) < (n : Int) := by omega
            obtain ⟨uj, huj, hujn, scj⟩ := unhide HXC j (by omega)
            have HUJ := hide (show (xs.getD j 0).toNat = uj by omega)
            have scir := ((unhide HW2).cell (p := ⟨bb, off + i, none⟩) (World.block_lt_of_cell? _ _ sci)).trans sci
            have scjr := ((unhide HW2).cell (p := ⟨bb, off + j, none⟩) (World.block_lt_of_cell? _ _ scj)).trans scj
            have hGr := (unhide HG4).below (unhide HW2)
            have g0r := (hGr.all 0 _ rfl).1
            have g1r := (hGr.all 1 _ rfl).1
            have Fg0 := fun x' : Ext wr => x'.cell g0r
            have Fg1 := fun x' : Ext wr => x'.cell g1r
            have Fsi := fun x' : Ext wr => x'.cell scir
            have Fsj := fun x' : Ext wr => x'.cell scjr
            have hNE := Ext.ne wr
            obtain ⟨q0, hq0⟩ : ∃ q0, Q (ui * n + uj) = q0 := ⟨_, rfl⟩
            have HK0 := hide (show ∀ x' : Ext wr, Calls Tryz.prog 19 #[.agg #[.int .i64 (n : Int), .slice (some ⟨gb, 0, none⟩) mm mm], .int .i64 (ui : Int), .int .i64 (uj : Int)] x'.w fun e w' => e = .returned (.bool q0) ∧ Below x'.w.heap.size x'.w w' from fun x' => by rw [← hq0]; exact unhide HKM x'.w ((unhide HW2).trans (x'.bel.mono (unhide HW2).size)) ui uj huin hujn)
            have HQ0 := hide (show TruQ q0 (NwT E xs true i j 0) from nwT_zero (by rw [← hq0, unhide HUI, unhide HUJ]; exact unhide HE ui uj huin hujn))
            clear huj hGr g0r g1r scir scjr hq0
            go_wp2_with fail
            refine wp_region_ext (by kernel_rfl) (by kernel_rfl) ?_
            repeat (go_big_quiet_step ((go_at_call 19; rename_i x'; exact Ext.call (unhide HK0 x') (fun e w' h => h))))
            refine wpQuiet_nil ?_
            rintro _ ⟨xE, rfl⟩
            have HWX := hide (show Below w4.heap.size w4 xE.w from (unhide HW2).trans (xE.bel.mono (unhide HW2).size))
            clear Fg0 Fg1 Fsi Fsj hNE HK0
            go_wp2_with fail
            go_loopw [15, 14] (fun tv nv wr => ∃ (t : Nat) (nb : Bool), t ≤ i ∧ tv = .int .i64 (t : Int) ∧ nv = .bool nb ∧ Hid (TruQ nb (NwT E xs true i j t)) ∧ Hid (Below w4.heap.size w4 wr)) (fun tv _ _ => i - (intOf tv).toNat)
            case atStart => exact ⟨0, q0, Nat.zero_le _, rfl, rfl, HQ0, HWX⟩
            case round =>
              obtain ⟨t, nb, ht, rfl, rfl, HNB, HW3⟩ := hrel
              by_cases htn : t < i
              · have htn' : (t : Int) < (i : Int) := by omega
                have htd : decide (t < i) = true := decide_eq_true htn
                obtain ⟨ut, hut, hutn, sct⟩ := unhide HXC t (by omega)
                have sctr := ((unhide HW3).cell (p := ⟨bb, off + t, none⟩) (World.block_lt_of_cell? _ _ sct)).trans sct
                have scir := ((unhide HW3).cell (p := ⟨bb, off + i, none⟩) (World.block_lt_of_cell? _ _ sci)).trans sci
                have scjr := ((unhide HW3).cell (p := ⟨bb, off + j, none⟩) (World.block_lt_of_cell? _ _ scj)).trans scj
                have hGr := (unhide HG4).below (unhide HW3)
                have g0r := (hGr.all 0 _ rfl).1
                have g1r := (hGr.all 1 _ rfl).1
                have Fg0 := fun x' : Ext wr => x'.cell g0r
                have Fg1 := fun x' : Ext wr => x'.cell g1r
                have Fst := fun x' : Ext wr => x'.cell sctr
                have Fsi := fun x' : Ext wr => x'.cell scir
                have Fsj := fun x' : Ext wr => x'.cell scjr
                have hNE := Ext.ne wr
                obtain ⟨q1, hq1⟩ : ∃ q1, Q (ui * n + ut) = q1 := ⟨_, rfl⟩
                obtain ⟨q2, hq2⟩ : ∃ q2, Q (ut * n + uj) = q2 := ⟨_, rfl⟩
                have HK1 := hide (show ∀ x' : Ext wr, Calls Tryz.prog 19 #[.agg #[.int .i64 (n : Int), .slice (some ⟨gb, 0, none⟩) mm mm], .int .i64 (ui : Int), .int .i64 (ut : Int)] x'.w fun e w' => e = .returned (.bool q1) ∧ Below x'.w.heap.size x'.w w' from fun x' => by rw [← hq1]; exact unhide HKM x'.w ((unhide HW3).trans (x'.bel.mono (unhide HW3).size)) ui ut huin hutn)
                have HK2 := hide (show ∀ x' : Ext wr, Calls Tryz.prog 19 #[.agg #[.int .i64 (n : Int), .slice (some ⟨gb, 0, none⟩) mm mm], .int .i64 (ut : Int), .int .i64 (uj : Int)] x'.w fun e w' => e = .returned (.bool q2) ∧ Below x'.w.heap.size x'.w w' from fun x' => by rw [← hq2]; exact unhide HKM x'.w ((unhide HW3).trans (x'.bel.mono (unhide HW3).size)) ut uj hutn hujn)
                have HQN := hide (show TruQ (nb || (q1 && q2)) (NwT E xs true i j (t + 1)) from nwT_next (unhide HNB) (by rw [hut, ← hq1, unhide HUI]; exact unhide HE ui ut huin hutn) (by rw [hut, ← hq2, unhide HUJ]; exact unhide HE ut uj hutn hujn))
                have hti : (t : Int) < (n : Int) := by omega
                have hii : (i : Int) < (n : Int) := by omega
                have hji : (j : Int) < (n : Int) := by omega
                clear sct hut hGr g0r g1r sctr scir scjr hq1 hq2
                cases nb
                · cases q1
                  · have HQM := hide (show TruQ false (NwT E xs true i j (t + 1)) from unhide HQN)
                    go_wp2_with fail
                    refine wp_region_ext (by kernel_rfl) (by kernel_rfl) ?_
                    repeat (go_big_quiet_step (first | (go_at_call 19; rename_i x'; with_reducible exact Ext.call (unhide HK1 x') (fun e w' h => h)) | (go_at_call 19; rename_i x'; with_reducible exact Ext.call (unhide HK2 x') (fun e w' h => h))))
                    refine wpQuiet_nil ?_
                    rintro _ ⟨xE, rfl⟩
                    have HWE := hide (show Below w4.heap.size w4 xE.w from (unhide HW3).trans (xE.bel.mono (unhide HW3).size))
                    clear Fg0 Fg1 Fst Fsi Fsj hNE HK1 HK2
                    go_wp2_with fail
                    exact ⟨⟨t + 1, false, by omega, by (first | rfl | go_num), rfl, HQM, HWE⟩, by simp [intOf]; omega⟩
                  · have HQM := hide (show TruQ q2 (NwT E xs true i j (t + 1)) from unhide HQN)
                    go_wp2_with fail
                    refine wp_region_ext (by kernel_rfl) (by kernel_rfl) ?_
                    repeat (go_big_quiet_step (first | (go_at_call 19; rename_i x'; with_reducible exact Ext.call (unhide HK1 x') (fun e w' h => h)) | (go_at_call 19; rename_i x'; with_reducible exact Ext.call (unhide HK2 x') (fun e w' h => h))))
                    refine wpQuiet_nil ?_
                    rintro _ ⟨xE, rfl⟩
                    have HWE := hide (show Below w4.heap.size w4 xE.w from (unhide HW3).trans (xE.bel.mono (unhide HW3).size))
                    clear Fg0 Fg1 Fst Fsi Fsj hNE HK1 HK2
                    go_wp2_with fail
                    exact ⟨⟨t + 1, q2, by omega, by (first | rfl | go_num), rfl, HQM, HWE⟩, by simp [intOf]; omega⟩
                · have HQM := hide (show TruQ true (NwT E xs true i j (t + 1)) from unhide HQN)
                  go_wp2_with fail
                  refine wp_region_ext (by kernel_rfl) (by kernel_rfl) ?_
                  repeat (go_big_quiet_step (first | (go_at_call 19; rename_i x'; with_reducible exact Ext.call (unhide HK1 x') (fun e w' h => h)) | (go_at_call 19; rename_i x'; with_reducible exact Ext.call (unhide HK2 x') (fun e w' h => h))))
                  refine wpQuiet_nil ?_
                  rintro _ ⟨xE, rfl⟩
                  have HWE := hide (show Below w4.heap.size w4 xE.w from (unhide HW3).trans (xE.bel.mono (unhide HW3).size))
                  clear Fg0 Fg1 Fst Fsi Fsj hNE HK1 HK2
                  go_wp2_with fail
                  exact ⟨⟨t + 1, true, by omega, by (first | rfl | go_num), rfl, HQM, HWE⟩, by simp [intOf]; omega⟩
              · obtain rfl : t = i := by omega
                have htn' : ¬ (t : Int) < (t : Int) := by omega
                have HNI := hide (unhide HNB)
                cases nb
                · have HCK := hide (cnP_no (P := fun j => NwT E xs true t j t) (k := j) (fun h => absurd (Iff.mpr (unhide HNI) h) (by decide)))
                  go_wp2_with fail
                  exact ⟨⟨j + 1, kk, by omega, by (first | rfl | go_num), rfl, hide ((unhide HKK).trans (unhide HCK).symm), HW3⟩, by simp [intOf]; omega⟩
                · have HCK := hide (cnP_yes (P := fun j => NwT E xs true t j t) (k := j) (Iff.mp (unhide HNI) rfl))
                  go_wp2_with fail
                  exact ⟨⟨j + 1, kk + 1, by omega, by (first | rfl | go_num), by (first | rfl | go_num), hide (by rw [unhide HCK, ← unhide HKK]), HW3⟩, by simp [intOf]; omega⟩
          · obtain rfl : j = i := by omega
            have hjn' : ¬ (j : Int) < (j : Int) := by omega
            have HNX := hide (show LgT (bwF E xs true) (j + 1) (max q (kk + 1)) from by
              have := (unhide HLG).next
              rw [show bwF E xs true j = kk + 1 from by unfold bwF; rw [unhide HKK]; omega] at this
              exact this)
            by_cases hgt : q < kk + 1
            · have hgt' : (q : Int) < (kk : Int) + 1 := by omega
              rw [show max q (kk + 1) = kk + 1 by omega] at HNX
              go_wp2_with fail
              exact ⟨⟨j + 1, kk + 1, by omega, by (first | rfl | go_num), by (first | rfl | go_num), by omega, HNX, HW2⟩, by simp [intOf]; omega⟩
            · have hgt' : ¬ (q : Int) < (kk : Int) + 1 := by omega
              rw [show max q (kk + 1) = q by omega] at HNX
              go_wp2_with fail
              exact ⟨⟨j + 1, q, by omega, by (first | rfl | go_num), rfl, by omega, HNX, HW2⟩, by simp [intOf]; omega⟩
      · obtain rfl : i = n := by omega
        have hin' : ¬ (i : Int) < (i : Int) := by omega
        go_wp2_with fail
        refine bodyPost_ret (by simp [results, Tryz.results7, go_sem]; try rfl) rfl ?_
        exact ⟨(unhide HB4).trans ((unhide HW1).mono (unhide HB4).size), fun _ => ⟨q, rfl, unhide HLG⟩, fun hno => absurd (unhide HO) hno⟩
set_option maxRecDepth 100000 in
set_option maxHeartbeats 16000000 in
/-- sloperef12.Bound. -/
theorem wBound_tt (kd : Int) (hk4 : (kd == 4) = true) (R width m : Nat) (Q : Nat → Bool) (E : Nat → Nat → Prop) (hE : ∀ u v, u < m → v < m → (Q (u * m + v) = true ↔ E u v)) (a : Option Addr) (n c : Nat) (xs : List Int) (a1 a2 : Option Addr) (n1 c1 n2 c2 : Nat) (st cols : List Int) (w : World) (h1 : SlI w a1 n1 c1 st) (h2 : SlI w a2 n2 c2 cols) (h3 : SlI w a n c xs) (hn : n ≤ 17592186044000) (hm8 : m ≤ 128) (hT : ∀ W, SlI W a1 n1 c1 st → SlI W a2 n2 c2 cols → Calls Tryz.prog 17 #[.int .i64 kd, patV (R : Int) (width : Int) a1 n1 c1 a2 n2 c2] W fun e w' => TgQ W w' e m (m * m) Q) :
    Calls Tryz.prog 7 #[.int .i64 kd, patV (R : Int) (width : Int) a1 n1 c1 a2 n2 c2, .slice a n c] w fun e w' => BdP xs m (bwF E xs true) w w' e := by
  obtain ⟨ok, hok⟩ := truth (IsOrd xs m)
  obtain ⟨wb, hwb⟩ : ∃ x, w.alloc (.cells #[.int .i64 (R : Int), .int .i64 (width : Int), .slice a1 n1 c1, .slice a2 n2 c2] 25) = x := ⟨_, rfl⟩
  have bb : Below w.heap.size w wb := by rw [← hwb]; exact (Below.refl _ _).alloc (Nat.le_refl _) _
  have hT0 := BoxP.made w #[.int .i64 (R : Int), .int .i64 (width : Int), .slice a1 n1 c1, .slice a2 n2 c2] 25
  rw [hwb] at hT0
  have p0 := (hT0.all 0 _ rfl).1
  have p1 := (hT0.all 1 _ rfl).1
  have p2 := (hT0.all 2 _ rfl).1
  have p3 := (hT0.all 3 _ rfl).1
  have KT := hide (hT wb (h1.below bb) (h2.below bb))
  unfold patV at KT
  have HB := hide bb
  have HT0 := hide hT0
  have HX := hide h3
  have HOK := hide (show TruQ ok (IsOrd xs m) from hok)
  have HE := hide hE
  obtain ⟨mm, hmm⟩ : ∃ mm, m * m = mm := ⟨_, rfl⟩
  have HMM := hide hmm
  have hmm2 : mm ≤ 16384 := by
    have := Nat.mul_le_mul hm8 hm8
    omega
  rw [hmm] at KT
  unfold TgQ grV at KT
  clear hT0 bb h1 h2 hT h3 hok hE hmm
  unfold patV
  go_enter Tryz.func7, Tryz.ntmps7
  go_wp2_with fail
  refine (unhide KT).mono ?_
  rintro _ w2 ⟨gb, rfl, hRo, b2⟩
  clear p0 p1 p2 p3 KT
  try dsimp only
  repeat ((fail_if_success (with_reducible (show Code.wp _ _ _ _ (World.alloc w2 (Obj.cells #[_, .slice (some ⟨gb, 0, none⟩) mm mm] _))))); (first | go_values | go_skip | go_guarded | go_step | go_upon | go_back))
  have hG := BoxP.made w2 #[.int .i64 (m : Int), .slice (some ⟨gb, 0, none⟩) mm mm] 65
  have bg : Below w2.heap.size w2 (w2.alloc (.cells #[.int .i64 (m : Int), .slice (some ⟨gb, 0, none⟩) mm mm] 65)) := (Below.refl _ _).alloc (Nat.le_refl _) _
  have hb3 := ((unhide HB).trans (b2.mono (unhide HB).size)).trans (bg.mono (Nat.le_trans (unhide HB).size b2.size))
  have HRo := hide (hRo.below bg)
  clear b2 bg hRo
  generalize w2.alloc (.cells #[.int .i64 (m : Int), .slice (some ⟨gb, 0, none⟩) mm mm] 65) = w3 at *
  have s0 := (hG.all 0 _ rfl).1
  have s1 := (hG.all 1 _ rfl).1
  have KO := hide (wisOrder_any a n c xs m w3 ((unhide HX).below hb3) (by omega) hm8 ok (unhide HOK))
  have HB3 := hide hb3
  have HG := hide hG
  clear hG hb3
  go_wp2_with fail
  refine (unhide KO).mono ?_
  rintro _ w4 ⟨rfl, b4'⟩
  have hG4 := (unhide HG).below b4'
  have HRo4 := hide ((unhide HRo).below b4')
  have HB4 := hide ((unhide HB3).trans (b4'.mono (unhide HB3).size))
  have HG4 := hide hG4
  clear KO b4' s0 s1
  cases ok
  · clear hG4
    go_wp2_with fail
    refine bodyPost_ret (by simp [results, Tryz.results7, go_sem]; try rfl) rfl ?_
    exact ⟨unhide HB4, fun ho => absurd (Iff.mpr (unhide HOK) ho) (by decide), fun _ => rfl⟩
  · have ho : IsOrd xs m := Iff.mp (unhide HOK) rfl
    have hnm : n = m := by have := (unhide HX).len; have := ho.1; omega
    subst hnm
    have HO := hide ho
    have HX4 := hide ((unhide HX).below (unhide HB4))
    clear hG4 ho
    obtain ⟨bb, off, HXE⟩ : ∃ bb off, Hid ((0 < n → a = some ⟨bb, off, none⟩) ∧ ∀ i, i < n → w4.cell? ⟨bb, off + i, none⟩ = some (.int .i64 (xs.getD i 0))) := by
      rcases Nat.eq_zero_or_pos n with e | e
      · exact ⟨0, 0, hide ⟨fun h => by omega, fun i hi => by omega⟩⟩
      · obtain ⟨bb, off, ea, hc⟩ := (unhide HX4).at e
        exact ⟨bb, off, hide ⟨fun _ => ea, hc⟩⟩
    have HXC := hide (show ∀ i, i < n → ∃ u : Nat, xs.getD i 0 = (u : Int) ∧ u < n ∧ w4.cell? ⟨bb, off + i, none⟩ = some (.int .i64 (u : Int)) from fun i hi => by
      have hr := (unhide HO).2.rng i hi
      exact ⟨(xs.getD i 0).toNat, by omega, by omega, by rw [(unhide HXE).2 i hi]; congr 2; omega⟩)
    have HKM := hide (show ∀ W, Below w4.heap.size w4 W → ∀ u v, u < n → v < n → Calls Tryz.prog 19 #[.agg #[.int .i64 (n : Int), .slice (some ⟨gb, 0, none⟩) mm mm], .int .i64 (u : Int), .int .i64 (v : Int)] W fun e w' => e = .returned (.bool (Q (u * n + v))) ∧ Below W.heap.size W w' from fun W b u v hu hv =>
      wmeet_any n gb mm u v Q W hm8 (by omega) (by omega) (by rw [← unhide HMM]; have := Nat.mul_le_mul_right n (show u + 1 ≤ n by omega); rw [Nat.add_mul, Nat.one_mul] at this; omega) hmm2 ((unhide HRo4).below b))
    go_wp2_with fail
    go_loopw [11, 10] (fun iv mv wr => ∃ (i q : Nat), i ≤ n ∧ iv = .int .i64 (i : Int) ∧ mv = .int .i64 (q : Int) ∧ q ≤ 129 ∧ Hid (LgT (bwF E xs true) i q) ∧ Hid (Below w4.heap.size w4 wr)) (fun iv _ _ => n - (intOf iv).toNat)
    case atStart => exact ⟨0, 0, Nat.zero_le _, rfl, rfl, by omega, hide ⟨fun i hi => absurd hi (Nat.not_lt_zero _), .inl rfl⟩, hide (Below.refl _ _)⟩
    case round =>
      obtain ⟨i, q, hi, rfl, rfl, hq9, HLG, HW1⟩ := hrel
      by_cases hin : i < n
      · have hin' : (i : Int) < (n : Int) := by omega
        have ha := (unhide HXE).1 (by omega)
        subst ha
        obtain ⟨ui, hui, huin, sci⟩ := unhide HXC i hin
        have HUI := hide (show (xs.getD i 0).toNat = ui by omega)
        clear hui
        go_wp2_with fail
        go_loopw [13, 12] (fun jv kv wr => ∃ (j kk : Nat), j ≤ i ∧ jv = .int .i64 (j : Int) ∧ kv = .int .i64 (kk : Int) ∧ Hid (kk = cnP (fun j => NwT E xs true i j i) j) ∧ Hid (Below w4.heap.size w4 wr)) (fun jv _ _ => i - (intOf jv).toNat)
        case atStart => exact ⟨0, 0, Nat.zero_le _, rfl, rfl, hide rfl, HW1⟩
        case round =>
          obtain ⟨j, kk, hj, rfl, rfl, HKK, HW2⟩ := hrel
          have hkj : kk ≤ j := by have := unhide HKK; have := cnP_le (fun j => NwT E xs true i j i) j; omega
          by_cases hjn : j < i
          · have hjn' : (j : Int) < (i : Int) := by omega
            have hji : (j : Int) < (n : Int) := by omega
            obtain ⟨uj, huj, hujn, scj⟩ := unhide HXC j (by omega)
            have HUJ := hide (show (xs.getD j 0).toNat = uj by omega)
            have scir := ((unhide HW2).cell (p := ⟨bb, off + i, none⟩) (World.block_lt_of_cell? _ _ sci)).trans sci
            have scjr := ((unhide HW2).cell (p := ⟨bb, off + j, none⟩) (World.block_lt_of_cell? _ _ scj)).trans scj
            have hGr := (unhide HG4).below (unhide HW2)
            have g0r := (hGr.all 0 _ rfl).1
            have g1r := (hGr.all 1 _ rfl).1
            have Fg0 := fun x' : Ext wr => x'.cell g0r
            have Fg1 := fun x' : Ext wr => x'.cell g1r
            have Fsi := fun x' : Ext wr => x'.cell scir
            have Fsj := fun x' : Ext wr => x'.cell scjr
            have hNE := Ext.ne wr
            obtain ⟨q0, hq0⟩ : ∃ q0, Q (ui * n + uj) = q0 := ⟨_, rfl⟩
            have HK0 := hide (show ∀ x' : Ext wr, Calls Tryz.prog 19 #[.agg #[.int .i64 (n : Int), .slice (some ⟨gb, 0, none⟩) mm mm], .int .i64 (ui : Int), .int .i64 (uj : Int)] x'.w fun e w' => e = .returned (.bool q0) ∧ Below x'.w.heap.size x'.w w' from fun x' => by rw [← hq0]; exact unhide HKM x'.w ((unhide HW2).trans (x'.bel.mono (unhide HW2).size)) ui uj huin hujn)
            have HQ0 := hide (show TruQ q0 (NwT E xs true i j 0) from nwT_zero (by rw [← hq0, unhide HUI, unhide HUJ]; exact unhide HE ui uj huin hujn))
            clear huj hGr g0r g1r scir scjr hq0
            go_wp2_with fail
            refine wp_region_ext (by kernel_rfl) (by kernel_rfl) ?_
            repeat (go_big_quiet_step ((go_at_call 19; rename_i x'; exact Ext.call (unhide HK0 x') (fun e w' h => h))))
            refine wpQuiet_nil ?_
            rintro _ ⟨xE, rfl⟩
            have HWX := hide (show Below w4.heap.size w4 xE.w from (unhide HW2).trans (xE.bel.mono (unhide HW2).size))
            clear Fg0 Fg1 Fsi Fsj hNE HK0
            go_wp2_with fail
            go_loopw [15, 14] (fun tv nv wr => ∃ (t : Nat) (nb : Bool), t ≤ i ∧ tv = .int .i64 (t : Int) ∧ nv = .bool nb ∧ Hid (TruQ nb (NwT E xs true i j t)) ∧ Hid (Below w4.heap.size w4 wr)) (fun tv _ _ => i - (intOf tv).toNat)
            case atStart => exact ⟨0, q0, Nat.zero_le _, rfl, rfl, HQ0, HWX⟩
            case round =>
              obtain ⟨t, nb, ht, rfl, rfl, HNB, HW3⟩ := hrel
              by_cases htn : t < i
              · have htn' : (t : Int) < (i : Int) := by omega
                have htd : decide (t < i) = true := decide_eq_true htn
                obtain ⟨ut, hut, hutn, sct⟩ := unhide HXC t (by omega)
                have sctr := ((unhide HW3).cell (p := ⟨bb, off + t, none⟩) (World.block_lt_of_cell? _ _ sct)).trans sct
                have scir := ((unhide HW3).cell (p := ⟨bb, off + i, none⟩) (World.block_lt_of_cell? _ _ sci)).trans sci
                have scjr := ((unhide HW3).cell (p := ⟨bb, off + j, none⟩) (World.block_lt_of_cell? _ _ scj)).trans scj
                have hGr := (unhide HG4).below (unhide HW3)
                have g0r := (hGr.all 0 _ rfl).1
                have g1r := (hGr.all 1 _ rfl).1
                have Fg0 := fun x' : Ext wr => x'.cell g0r
                have Fg1 := fun x' : Ext wr => x'.cell g1r
                have Fst := fun x' : Ext wr => x'.cell sctr
                have Fsi := fun x' : Ext wr => x'.cell scir
                have Fsj := fun x' : Ext wr => x'.cell scjr
                have hNE := Ext.ne wr
                obtain ⟨q1, hq1⟩ : ∃ q1, Q (ui * n + ut) = q1 := ⟨_, rfl⟩
                obtain ⟨q2, hq2⟩ : ∃ q2, Q (ut * n + uj) = q2 := ⟨_, rfl⟩
                have HK1 := hide (show ∀ x' : Ext wr, Calls Tryz.prog 19 #[.agg #[.int .i64 (n : Int), .slice (some ⟨gb, 0, none⟩) mm mm], .int .i64 (ui : Int), .int .i64 (ut : Int)] x'.w fun e w' => e = .returned (.bool q1) ∧ Below x'.w.heap.size x'.w w' from fun x' => by rw [← hq1]; exact unhide HKM x'.w ((unhide HW3).trans (x'.bel.mono (unhide HW3).size)) ui ut huin hutn)
                have HK2 := hide (show ∀ x' : Ext wr, Calls Tryz.prog 19 #[.agg #[.int .i64 (n : Int), .slice (some ⟨gb, 0, none⟩) mm mm], .int .i64 (ut : Int), .int .i64 (uj : Int)] x'.w fun e w' => e = .returned (.bool q2) ∧ Below x'.w.heap.size x'.w w' from fun x' => by rw [← hq2]; exact unhide HKM x'.w ((unhide HW3).trans (x'.bel.mono (unhide HW3).size)) ut uj hutn hujn)
                have HQN := hide (show TruQ (nb || (q1 && q2)) (NwT E xs true i j (t + 1)) from nwT_next (unhide HNB) (by rw [hut, ← hq1, unhide HUI]; exact unhide HE ui ut huin hutn) (by rw [hut, ← hq2, unhide HUJ]; exact unhide HE ut uj hutn hujn))
                have hti : (t : Int) < (n : Int) := by omega
                have hii : (i : Int) < (n : Int) := by omega
                have hji : (j : Int) < (n : Int) := by omega
                clear sct hut hGr g0r g1r sctr scir scjr hq1 hq2
                cases nb
                · cases q1
                  · have HQM := hide (show TruQ false (NwT E xs true i j (t + 1)) from unhide HQN)
                    go_wp2_with fail
                    refine wp_region_ext (by kernel_rfl) (by kernel_rfl) ?_
                    repeat (go_big_quiet_step (first | (go_at_call 19; rename_i x'; with_reducible exact Ext.call (unhide HK1 x') (fun e w' h => h)) | (go_at_call 19; rename_i x'; with_reducible exact Ext.call (unhide HK2 x') (fun e w' h => h))))
                    refine wpQuiet_nil ?_
                    rintro _ ⟨xE, rfl⟩
                    have HWE := hide (show Below w4.heap.size w4 xE.w from (unhide HW3).trans (xE.bel.mono (unhide HW3).size))
                    clear Fg0 Fg1 Fst Fsi Fsj hNE HK1 HK2
                    go_wp2_with fail
                    exact ⟨⟨t + 1, false, by omega, by (first | rfl | go_num), rfl, HQM, HWE⟩, by simp [intOf]; omega⟩
                  · have HQM := hide (show TruQ q2 (NwT E xs true i j (t + 1)) from unhide HQN)
                    go_wp2_with fail
                    refine wp_region_ext (by kernel_rfl) (by kernel_rfl) ?_
                    repeat (go_big_quiet_step (first | (go_at_call 19; rename_i x'; with_reducible exact Ext.call (unhide HK1 x') (fun e w' h => h)) | (go_at_call 19; rename_i x'; with_reducible exact Ext.call (unhide HK2 x') (fun e w' h => h))))
                    refine wpQuiet_nil ?_
                    rintro _ ⟨xE, rfl⟩
                    have HWE := hide (show Below w4.heap.size w4 xE.w from (unhide HW3).trans (xE.bel.mono (unhide HW3).size))
                    clear Fg0 Fg1 Fst Fsi Fsj hNE HK1 HK2
                    go_wp2_with fail
                    exact ⟨⟨t + 1, q2, by omega, by (first | rfl | go_num), rfl, HQM, HWE⟩, by simp [intOf]; omega⟩
                · have HQM := hide (show TruQ true (NwT E xs true i j (t + 1)) from unhide HQN)
                  go_wp2_with fail
                  refine wp_region_ext (by kernel_rfl) (by kernel_rfl) ?_
                  repeat (go_big_quiet_step (first | (go_at_call 19; rename_i x'; with_reducible exact Ext.call (unhide HK1 x') (fun e w' h => h)) | (go_at_call 19; rename_i x'; with_reducible exact Ext.call (unhide HK2 x') (fun e w' h => h))))
                  refine wpQuiet_nil ?_
                  rintro _ ⟨xE, rfl⟩
                  have HWE := hide (show Below w4.heap.size w4 xE.w from (unhide HW3).trans (xE.bel.mono (unhide HW3).size))
                  clear Fg0 Fg1 Fst Fsi Fsj hNE HK1 HK2
                  go_wp2_with fail
                  exact ⟨⟨t + 1, true, by omega, by (first | rfl | go_num), rfl, HQM, HWE⟩, by simp [intOf]; omega⟩
              · obtain rfl : t = i := by omega
                have htn' : ¬ (t : Int) < (t : Int) := by omega
                have HNI := hide (unhide HNB)
                cases nb
                · have HCK := hide (cnP_no (P := fun j => NwT E xs true t j t) (k := j) (fun h => absurd (Iff.mpr (unhide HNI) h) (by decide)))
                  go_wp2_with fail
                  exact ⟨⟨j + 1, kk, by omega, by (first | rfl | go_num), rfl, hide ((unhide HKK).trans (unhide HCK).symm), HW3⟩, by simp [intOf]; omega⟩
                · have HCK := hide (cnP_yes (P := fun j => NwT E xs true t j t) (k := j) (Iff.mp (unhide HNI) rfl))
                  go_wp2_with fail
                  exact ⟨⟨j + 1, kk + 1, by omega, by (first | rfl | go_num), by (first | rfl | go_num), hide (by rw [unhide HCK, ← unhide HKK]), HW3⟩, by simp [intOf]; omega⟩
          · obtain rfl : j = i := by omega
            have hjn' : ¬ (j : Int) < (j : Int) := by omega
            have HNX := hide (show LgT (bwF E xs true) (j + 1) (max q (kk + 1)) from by
              have := (unhide HLG).next
              rw [show bwF E xs true j = kk + 1 from by unfold bwF; rw [unhide HKK]; omega] at this
              exact this)
            by_cases hgt : q < kk + 1
            · have hgt' : (q : Int) < (kk : Int) + 1 := by omega
              rw [show max q (kk + 1) = kk + 1 by omega] at HNX
              go_wp2_with fail
              exact ⟨⟨j + 1, kk + 1, by omega, by (first | rfl | go_num), by (first | rfl | go_num), by omega, HNX, HW2⟩, by simp [intOf]; omega⟩
            · have hgt' : ¬ (q : Int) < (kk : Int) + 1 := by omega
              rw [show max q (kk + 1) = q by omega] at HNX
              go_wp2_with fail
              exact ⟨⟨j + 1, q, by omega, by (first | rfl | go_num), rfl, by omega, HNX, HW2⟩, by simp [intOf]; omega⟩
      · obtain rfl : i = n := by omega
        have hin' : ¬ (i : Int) < (i : Int) := by omega
        go_wp2_with fail
        refine bodyPost_ret (by simp [results, Tryz.results7, go_sem]; try rfl) rfl ?_
        exact ⟨(unhide HB4).trans ((unhide HW1).mono (unhide HB4).size), fun _ => ⟨q, rfl, unhide HLG⟩, fun hno => absurd (unhide HO) hno⟩
end Go.Proofs.YtmlodfgpedoloaaGreat
