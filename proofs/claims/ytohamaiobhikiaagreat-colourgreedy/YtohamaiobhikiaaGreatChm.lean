/-
  COLOURS: colour.Greedy: contracts by premises.
-/
import Derived.Test.YtohamaiobhikiaaGreatChn
import Derived.Test.YtohamaiobhikiaaGreatCv1
namespace Go.Proofs.YtohamaiobhikiaaGreat
open Go.RowKit Go.Deep
set_option linter.unusedVariables false

/-- What Greedy answers where it is not refused. -/
def GrB (xs : List Int) (m : Nat) (P : (Nat → Int) → Prop) (w w' : World) (e : Ending) : Prop := Below w.heap.size w w' ∧ (IsOrd xs m → ∃ (g : Nat) (cs : Nat → Int) (z : Nat), e = .returned (.tuple #[.slice (some ⟨g, 0, none⟩) m m, .int .i64 (z : Int), .int .i64 0]) ∧ P cs ∧ NumC (csL cs m) (z : Int) ∧ RoV w' g m (fun i => .int .i64 (cs i)) ∧ w.heap.size ≤ g) ∧ (¬ IsOrd xs m → e = .returned (.tuple #[.slice none 0 0, .int .i64 0, .int .i64 182]))
set_option maxRecDepth 100000 in
set_option maxHeartbeats 16000000 in
/-- colour.Greedy, refused. -/
theorem cGreedy_no (k rows width : Int) (er : Int) (her : (er != 0) = true) (a : Option Addr) (n c : Nat) (a1 a2 : Option Addr) (n1 c1 n2 c2 : Nat) (st cols : List Int) (w : World) (h1 : SlI w a1 n1 c1 st) (h2 : SlI w a2 n2 c2 cols) (hT : ∀ W, SlI W a1 n1 c1 st → SlI W a2 n2 c2 cols → Calls Tryz.prog 11 #[.int .i64 k, patV rows width a1 n1 c1 a2 n2 c2] W fun e w' => TkN W w' e er) :
    Calls Tryz.prog 4 #[.int .i64 k, patV rows width a1 n1 c1 a2 n2 c2, .slice a n c] w fun e w' => e = .returned (.tuple #[.slice none 0 0, .int .i64 0, .int .i64 er]) ∧ Below w.heap.size w w' := by
  obtain ⟨wb, hwb⟩ : ∃ x, w.alloc (.cells #[.int .i64 rows, .int .i64 width, .slice a1 n1 c1, .slice a2 n2 c2] 25) = x := ⟨_, rfl⟩
  have bb : Below w.heap.size w wb := by rw [← hwb]; exact (Below.refl _ _).alloc (Nat.le_refl _) _
  have hT0 := BoxP.made w #[.int .i64 rows, .int .i64 width, .slice a1 n1 c1, .slice a2 n2 c2] 25
  rw [hwb] at hT0
  have p0 := (hT0.all 0 _ rfl).1
  have p1 := (hT0.all 1 _ rfl).1
  have p2 := (hT0.all 2 _ rfl).1
  have p3 := (hT0.all 3 _ rfl).1
  have KT := hide (hT wb (h1.below bb) (h2.below bb))
  unfold patV at KT
  have HB := hide bb
  have HT0 := hide hT0
  clear hT0 bb h1 h2 hT
  unfold patV
  go_enter Tryz.func4, Tryz.ntmps4
  go_wp2_with fail
  refine (unhide KT).mono ?_
  rintro _ w2 ⟨rfl, b2⟩
  unfold tkZ
  clear p0 p1 p2 p3 KT
  try dsimp only
  have HB2 := hide ((unhide HB).trans (b2.mono (unhide HB).size))
  clear b2
  go_wp2_with fail
  refine bodyPost_ret (by simp [results, Tryz.results4, go_sem]; try rfl) rfl ?_
  exact ⟨rfl, (unhide HB2).alloc (unhide HB2).size _⟩
set_option maxRecDepth 100000 in
set_option maxHeartbeats 16000000 in
/-- colour.Greedy. -/
theorem cGreedy_nb (k : Int) (G G1 G3 : Nat) (wd : Bool) (R width m : Nat) (S C : List Int) (a : Option Addr) (n c : Nat) (xs : List Int) (a1 a2 : Option Addr) (n1 c1 n2 c2 : Nat) (st cols : List Int) (w : World) (h1 : SlI w a1 n1 c1 st) (h2 : SlI w a2 n2 c2 cols) (h3 : SlI w a n c xs) (hn : n ≤ 17592186044000) (hbs : S.length ≤ 17592186044000) (hbc : C.length ≤ 17592186044000) (hm : MayP (m : Int) (m : Int) S C) (hT : ∀ W, SlI W a1 n1 c1 st → SlI W a2 n2 c2 cols → Calls Tryz.prog 11 #[.int .i64 k, patV (R : Int) (width : Int) a1 n1 c1 a2 n2 c2] W fun e w' => TkP W w' e G G1 49 G3 wd R width a1 n1 c1 a2 n2 c2 m S C) :
    Calls Tryz.prog 4 #[.int .i64 k, patV (R : Int) (width : Int) a1 n1 c1 a2 n2 c2, .slice a n c] w fun e w' => GrB xs m (PntN S C xs m) w w' e := by
  have hm8 : m ≤ 128 := by have := hm.head.fit; omega
  obtain ⟨ok, hok⟩ := truth (IsOrd xs m)
  obtain ⟨wb, hwb⟩ : ∃ x, w.alloc (.cells #[.int .i64 (R : Int), .int .i64 (width : Int), .slice a1 n1 c1, .slice a2 n2 c2] 25) = x := ⟨_, rfl⟩
  have bb : Below w.heap.size w wb := by rw [← hwb]; exact (Below.refl _ _).alloc (Nat.le_refl _) _
  have hT0 := BoxP.made w #[.int .i64 (R : Int), .int .i64 (width : Int), .slice a1 n1 c1, .slice a2 n2 c2] 25
  rw [hwb] at hT0
  have p0 := (hT0.all 0 _ rfl).1
  have p1 := (hT0.all 1 _ rfl).1
  have p2 := (hT0.all 2 _ rfl).1
  have p3 := (hT0.all 3 _ rfl).1
  have KT := hide (hT wb (h1.below bb) (h2.below bb))
  unfold patV at KT
  have HB := hide bb
  have HT0 := hide hT0
  have HX := hide h3
  have HM := hide hm
  have HOK := hide (show TruQ ok (IsOrd xs m) from hok)
  clear hT0 bb h1 h2 hT h3 hm hok
  unfold patV
  go_enter Tryz.func4, Tryz.ntmps4
  go_wp2_with fail
  refine (unhide KT).mono ?_
  rintro _ w2 ⟨x, d, y, z, rfl, hS2, hC2, b2⟩
  unfold tkV
  clear p0 p1 p2 p3 KT
  try dsimp only
  repeat ((fail_if_success (with_reducible (show Code.wp _ _ _ _ (World.alloc w2 (Obj.cells #[_, _, _, _, _, _, _, _, _, _, _, _, .slice y C.length z] _))))); (first | go_values | go_skip | go_guarded | go_step | go_upon | go_back))
  have hR := BoxP.made w2 #[(.func (.func G) #[] #[]), (.func (.func G1) #[] #[]), (.func (.func 49) #[] #[]), (.func (.func G3) #[] #[]), (.bool wd), .int .i64 (R : Int), .int .i64 (width : Int), .slice a1 n1 c1, .slice a2 n2 c2, .int .i64 (m : Int), .int .i64 (m : Int), .slice x S.length d, .slice y C.length z] 56
  have br : Below w2.heap.size w2 (w2.alloc (.cells #[(.func (.func G) #[] #[]), (.func (.func G1) #[] #[]), (.func (.func 49) #[] #[]), (.func (.func G3) #[] #[]), (.bool wd), .int .i64 (R : Int), .int .i64 (width : Int), .slice a1 n1 c1, .slice a2 n2 c2, .int .i64 (m : Int), .int .i64 (m : Int), .slice x S.length d, .slice y C.length z] 56)) := (Below.refl _ _).alloc (Nat.le_refl _) _
  have hb3 := ((unhide HB).trans (b2.mono (unhide HB).size)).trans (br.mono (Nat.le_trans (unhide HB).size b2.size))
  have HSC := hide (And.intro (hS2.below br) (hC2.below br))
  have HT3 := hide (((unhide HT0).below b2).below br)
  clear b2 br hS2 hC2
  generalize w2.alloc (.cells #[(.func (.func G) #[] #[]), (.func (.func G1) #[] #[]), (.func (.func 49) #[] #[]), (.func (.func G3) #[] #[]), (.bool wd), .int .i64 (R : Int), .int .i64 (width : Int), .slice a1 n1 c1, .slice a2 n2 c2, .int .i64 (m : Int), .int .i64 (m : Int), .slice x S.length d, .slice y C.length z] 56) = w3 at *
  have s0 := (hR.all 0 _ rfl).1
  have s1 := (hR.all 1 _ rfl).1
  have s2 := (hR.all 2 _ rfl).1
  have s3 := (hR.all 3 _ rfl).1
  have s4 := (hR.all 4 _ rfl).1
  have s5 := (hR.all 5 _ rfl).1
  have s6 := (hR.all 6 _ rfl).1
  have s7 := (hR.all 7 _ rfl).1
  have s8 := (hR.all 8 _ rfl).1
  have s9 := (hR.all 9 _ rfl).1
  have s10 := (hR.all 10 _ rfl).1
  have s11 := (hR.all 11 _ rfl).1
  have s12 := (hR.all 12 _ rfl).1
  have HB3 := hide hb3
  have HR := hide hR
  have KO := hide (cisOrder_any a n c xs m w3 ((unhide HX).below hb3) (by omega) hm8 ok (unhide HOK))
  clear hR hb3
  go_wp2_with fail
  refine (unhide KO).mono ?_
  rintro _ w4 ⟨rfl, b4⟩
  have hR4 := (unhide HR).below b4
  have hb4 := (unhide HB3).trans (b4.mono (unhide HB3).size)
  have HSC4 := hide (And.intro ((unhide HSC).1.below b4) ((unhide HSC).2.below b4))
  have HB4 := hide hb4
  clear KO b4 s0 s1 s2 s3 s4 s5 s6 s7 s8 s9 s10 s11 s12
  have s0 := (hR4.all 0 _ rfl).1
  have s1 := (hR4.all 1 _ rfl).1
  have s2 := (hR4.all 2 _ rfl).1
  have s3 := (hR4.all 3 _ rfl).1
  have s4 := (hR4.all 4 _ rfl).1
  have s5 := (hR4.all 5 _ rfl).1
  have s6 := (hR4.all 6 _ rfl).1
  have s7 := (hR4.all 7 _ rfl).1
  have s8 := (hR4.all 8 _ rfl).1
  have s9 := (hR4.all 9 _ rfl).1
  have s10 := (hR4.all 10 _ rfl).1
  have s11 := (hR4.all 11 _ rfl).1
  have s12 := (hR4.all 12 _ rfl).1
  cases ok
  · clear hR4 hb4
    go_wp2_with fail
    refine bodyPost_ret (by simp [results, Tryz.results4, go_sem]; try rfl) rfl ?_
    exact ⟨unhide HB4, fun ho => absurd (Iff.mpr (unhide HOK) ho) (by decide), fun _ => rfl⟩
  · have ho : IsOrd xs m := Iff.mp (unhide HOK) rfl
    have hnm : n = m := by have := (unhide HX).len; have := ho.1; omega
    subst hnm
    have HO := hide ho
    clear hR4 hb4 ho
    go_wp2_with fail
    refine (cnewBrush_gen _ _ _ _ wd R width n a1 a2 x y n1 c1 n2 c2 S.length d C.length z w4 hm8).mono ?_
    rintro _ w5 ⟨X, g, h, rfl, hX, hg5, hh5, hlt5, b5⟩
    have hs1 := (unhide HSC4).1
    have hs2 := (unhide HSC4).2
    have hs3 := (unhide HX).below (unhide HB4)
    have hBr : BrI w5 X n _ x S.length d y C.length z g h 1 (fun _ => -1) (fun _ => 0) S C := ⟨hX, rfl, rfl, rfl, rfl, rfl, rfl, rfl, hg5, hh5, hs1.below b5, hs2.below b5, fun t ht hne => by have := hs1.block_lt hne t ht; omega, fun t ht hne => by have := hs2.block_lt hne t ht; omega, by omega⟩
    have KP := hide (cpaint_nb X n _ x S.length d y C.length z g h (fun _ => 0) S C a n c xs w5 hBr (unhide HM) hbs hbc (fun j _ => by omega) rfl (hs3.below b5) (Nat.le_refl _) (unhide HO).2.rng (fun t ht hne => by have := hs3.block_lt hne t ht; omega))
    have HB5 := hide ((unhide HB4).trans (b5.mono (unhide HB4).size))
    have HLT := hide (And.intro (unhide HB4).size hlt5)
    clear hX hg5 hh5 hlt5 b5 hs1 hs2 hs3 hBr s0 s1 s2 s3 s4 s5 s6 s7 s8 s9 s10 s11 s12
    go_wp2_with fail
    refine (unhide KP).mono ?_
    rintro _ w6 ⟨cs, hP⟩
    have e6 := hP.ret
    subst e6
    have hrg := PntN.rng (unhide HM) (unhide HO).2.rng (Nat.le_refl _) hP.pnt
    have KN := hide (cnumber_any (some ⟨g, 0, none⟩) n n (csL cs n) w6 (hP.row.sli hm8) hm8 (fun i hi => by rw [csL_get hi]; have := hrg i; omega) (fun e => by cases e))
    have HP := hide hP
    have HRG := hide hrg
    clear KP hP hrg
    go_wp2_with fail
    refine (unhide KN).mono ?_
    rintro _ w7 ⟨zi, rfl, hN, b7⟩
    obtain ⟨hz0, hzk, _⟩ := numC_rng hN (fun i _ => unhide HRG i)
    obtain ⟨zn, rfl⟩ : ∃ zn : Nat, zi = (zn : Int) := ⟨zi.toNat, by omega⟩
    have HA := hide (show GrB xs n (PntN S C xs n) w w7 (.returned (.tuple #[.slice (some ⟨g, 0, none⟩) n n, .int .i64 (zn : Int), .int .i64 0])) from
      ⟨(unhide HB5).trans (((unhide HP).chg.below (unhide HB5).size (fun j hj e => by have := unhide HLT; omega)).trans (b7.mono (Nat.le_trans (unhide HB5).size (unhide HP).chg.size))), fun _ => ⟨g, cs, zn, rfl, (unhide HP).pnt, hN, (unhide HP).row.below b7, by have := unhide HLT; omega⟩, fun hno => absurd (unhide HO) hno⟩)
    clear KN hN b7 hz0 hzk
    go_wp2_with fail
    refine bodyPost_ret (by simp [results, Tryz.results4, go_sem]; try rfl) rfl ?_
    exact unhide HA
set_option maxRecDepth 100000 in
set_option maxHeartbeats 16000000 in
/-- colour.Greedy. -/
theorem cGreedy_st (k : Int) (G G1 G3 : Nat) (wd : Bool) (R width m : Nat) (S C : List Int) (a : Option Addr) (n c : Nat) (xs : List Int) (a1 a2 : Option Addr) (n1 c1 n2 c2 : Nat) (st cols : List Int) (w : World) (h1 : SlI w a1 n1 c1 st) (h2 : SlI w a2 n2 c2 cols) (h3 : SlI w a n c xs) (hn : n ≤ 17592186044000) (hbs : S.length ≤ 17592186044000) (hbc : C.length ≤ 17592186044000) (hm : MayP (m : Int) (m : Int) S C) (hT : ∀ W, SlI W a1 n1 c1 st → SlI W a2 n2 c2 cols → Calls Tryz.prog 11 #[.int .i64 k, patV (R : Int) (width : Int) a1 n1 c1 a2 n2 c2] W fun e w' => TkP W w' e G G1 58 G3 wd R width a1 n1 c1 a2 n2 c2 m S C) :
    Calls Tryz.prog 4 #[.int .i64 k, patV (R : Int) (width : Int) a1 n1 c1 a2 n2 c2, .slice a n c] w fun e w' => GrB xs m (PntI S C xs m) w w' e := by
  have hm8 : m ≤ 128 := by have := hm.head.fit; omega
  obtain ⟨ok, hok⟩ := truth (IsOrd xs m)
  obtain ⟨wb, hwb⟩ : ∃ x, w.alloc (.cells #[.int .i64 (R : Int), .int .i64 (width : Int), .slice a1 n1 c1, .slice a2 n2 c2] 25) = x := ⟨_, rfl⟩
  have bb : Below w.heap.size w wb := by rw [← hwb]; exact (Below.refl _ _).alloc (Nat.le_refl _) _
  have hT0 := BoxP.made w #[.int .i64 (R : Int), .int .i64 (width : Int), .slice a1 n1 c1, .slice a2 n2 c2] 25
  rw [hwb] at hT0
  have p0 := (hT0.all 0 _ rfl).1
  have p1 := (hT0.all 1 _ rfl).1
  have p2 := (hT0.all 2 _ rfl).1
  have p3 := (hT0.all 3 _ rfl).1
  have KT := hide (hT wb (h1.below bb) (h2.below bb))
  unfold patV at KT
  have HB := hide bb
  have HT0 := hide hT0
  have HX := hide h3
  have HM := hide hm
  have HOK := hide (show TruQ ok (IsOrd xs m) from hok)
  clear hT0 bb h1 h2 hT h3 hm hok
  unfold patV
  go_enter Tryz.func4, Tryz.ntmps4
  go_wp2_with fail
  refine (unhide KT).mono ?_
  rintro _ w2 ⟨x, d, y, z, rfl, hS2, hC2, b2⟩
  unfold tkV
  clear p0 p1 p2 p3 KT
  try dsimp only
  repeat ((fail_if_success (with_reducible (show Code.wp _ _ _ _ (World.alloc w2 (Obj.cells #[_, _, _, _, _, _, _, _, _, _, _, _, .slice y C.length z] _))))); (first | go_values | go_skip | go_guarded | go_step | go_upon | go_back))
  have hR := BoxP.made w2 #[(.func (.func G) #[] #[]), (.func (.func G1) #[] #[]), (.func (.func 58) #[] #[]), (.func (.func G3) #[] #[]), (.bool wd), .int .i64 (R : Int), .int .i64 (width : Int), .slice a1 n1 c1, .slice a2 n2 c2, .int .i64 (m : Int), .int .i64 (m : Int), .slice x S.length d, .slice y C.length z] 56
  have br : Below w2.heap.size w2 (w2.alloc (.cells #[(.func (.func G) #[] #[]), (.func (.func G1) #[] #[]), (.func (.func 58) #[] #[]), (.func (.func G3) #[] #[]), (.bool wd), .int .i64 (R : Int), .int .i64 (width : Int), .slice a1 n1 c1, .slice a2 n2 c2, .int .i64 (m : Int), .int .i64 (m : Int), .slice x S.length d, .slice y C.length z] 56)) := (Below.refl _ _).alloc (Nat.le_refl _) _
  have hb3 := ((unhide HB).trans (b2.mono (unhide HB).size)).trans (br.mono (Nat.le_trans (unhide HB).size b2.size))
  have HSC := hide (And.intro (hS2.below br) (hC2.below br))
  have HT3 := hide (((unhide HT0).below b2).below br)
  clear b2 br hS2 hC2
  generalize w2.alloc (.cells #[(.func (.func G) #[] #[]), (.func (.func G1) #[] #[]), (.func (.func 58) #[] #[]), (.func (.func G3) #[] #[]), (.bool wd), .int .i64 (R : Int), .int .i64 (width : Int), .slice a1 n1 c1, .slice a2 n2 c2, .int .i64 (m : Int), .int .i64 (m : Int), .slice x S.length d, .slice y C.length z] 56) = w3 at *
  have s0 := (hR.all 0 _ rfl).1
  have s1 := (hR.all 1 _ rfl).1
  have s2 := (hR.all 2 _ rfl).1
  have s3 := (hR.all 3 _ rfl).1
  have s4 := (hR.all 4 _ rfl).1
  have s5 := (hR.all 5 _ rfl).1
  have s6 := (hR.all 6 _ rfl).1
  have s7 := (hR.all 7 _ rfl).1
  have s8 := (hR.all 8 _ rfl).1
  have s9 := (hR.all 9 _ rfl).1
  have s10 := (hR.all 10 _ rfl).1
  have s11 := (hR.all 11 _ rfl).1
  have s12 := (hR.all 12 _ rfl).1
  have HB3 := hide hb3
  have HR := hide hR
  have KO := hide (cisOrder_any a n c xs m w3 ((unhide HX).below hb3) (by omega) hm8 ok (unhide HOK))
  clear hR hb3
  go_wp2_with fail
  refine (unhide KO).mono ?_
  rintro _ w4 ⟨rfl, b4⟩
  have hR4 := (unhide HR).below b4
  have hb4 := (unhide HB3).trans (b4.mono (unhide HB3).size)
  have HSC4 := hide (And.intro ((unhide HSC).1.below b4) ((unhide HSC).2.below b4))
  have HB4 := hide hb4
  clear KO b4 s0 s1 s2 s3 s4 s5 s6 s7 s8 s9 s10 s11 s12
  have s0 := (hR4.all 0 _ rfl).1
  have s1 := (hR4.all 1 _ rfl).1
  have s2 := (hR4.all 2 _ rfl).1
  have s3 := (hR4.all 3 _ rfl).1
  have s4 := (hR4.all 4 _ rfl).1
  have s5 := (hR4.all 5 _ rfl).1
  have s6 := (hR4.all 6 _ rfl).1
  have s7 := (hR4.all 7 _ rfl).1
  have s8 := (hR4.all 8 _ rfl).1
  have s9 := (hR4.all 9 _ rfl).1
  have s10 := (hR4.all 10 _ rfl).1
  have s11 := (hR4.all 11 _ rfl).1
  have s12 := (hR4.all 12 _ rfl).1
  cases ok
  · clear hR4 hb4
    go_wp2_with fail
    refine bodyPost_ret (by simp [results, Tryz.results4, go_sem]; try rfl) rfl ?_
    exact ⟨unhide HB4, fun ho => absurd (Iff.mpr (unhide HOK) ho) (by decide), fun _ => rfl⟩
  · have ho : IsOrd xs m := Iff.mp (unhide HOK) rfl
    have hnm : n = m := by have := (unhide HX).len; have := ho.1; omega
    subst hnm
    have HO := hide ho
    clear hR4 hb4 ho
    go_wp2_with fail
    refine (cnewBrush_gen _ _ _ _ wd R width n a1 a2 x y n1 c1 n2 c2 S.length d C.length z w4 hm8).mono ?_
    rintro _ w5 ⟨X, g, h, rfl, hX, hg5, hh5, hlt5, b5⟩
    have hs1 := (unhide HSC4).1
    have hs2 := (unhide HSC4).2
    have hs3 := (unhide HX).below (unhide HB4)
    have hBr : BrI w5 X n _ x S.length d y C.length z g h 1 (fun _ => -1) (fun _ => 0) S C := ⟨hX, rfl, rfl, rfl, rfl, rfl, rfl, rfl, hg5, hh5, hs1.below b5, hs2.below b5, fun t ht hne => by have := hs1.block_lt hne t ht; omega, fun t ht hne => by have := hs2.block_lt hne t ht; omega, by omega⟩
    have KP := hide (cpaint_star X n _ x S.length d y C.length z g h (fun _ => 0) S C a n c xs w5 hBr (unhide HM) hbs hbc (fun j _ => by omega) rfl (hs3.below b5) (Nat.le_refl _) (unhide HO).2.rng (fun t ht hne => by have := hs3.block_lt hne t ht; omega))
    have HB5 := hide ((unhide HB4).trans (b5.mono (unhide HB4).size))
    have HLT := hide (And.intro (unhide HB4).size hlt5)
    clear hX hg5 hh5 hlt5 b5 hs1 hs2 hs3 hBr s0 s1 s2 s3 s4 s5 s6 s7 s8 s9 s10 s11 s12
    go_wp2_with fail
    refine (unhide KP).mono ?_
    rintro _ w6 ⟨cs, hP⟩
    have e6 := hP.ret
    subst e6
    have hrg := PntI.rng (unhide HM) (unhide HO).2.rng (Nat.le_refl _) hP.pnt
    have KN := hide (cnumber_any (some ⟨g, 0, none⟩) n n (csL cs n) w6 (hP.row.sli hm8) hm8 (fun i hi => by rw [csL_get hi]; have := hrg i; omega) (fun e => by cases e))
    have HP := hide hP
    have HRG := hide hrg
    clear KP hP hrg
    go_wp2_with fail
    refine (unhide KN).mono ?_
    rintro _ w7 ⟨zi, rfl, hN, b7⟩
    obtain ⟨hz0, hzk, _⟩ := numC_rng hN (fun i _ => unhide HRG i)
    obtain ⟨zn, rfl⟩ : ∃ zn : Nat, zi = (zn : Int) := ⟨zi.toNat, by omega⟩
    have HA := hide (show GrB xs n (PntI S C xs n) w w7 (.returned (.tuple #[.slice (some ⟨g, 0, none⟩) n n, .int .i64 (zn : Int), .int .i64 0])) from
      ⟨(unhide HB5).trans (((unhide HP).chg.below (unhide HB5).size (fun j hj e => by have := unhide HLT; omega)).trans (b7.mono (Nat.le_trans (unhide HB5).size (unhide HP).chg.size))), fun _ => ⟨g, cs, zn, rfl, (unhide HP).pnt, hN, (unhide HP).row.below b7, by have := unhide HLT; omega⟩, fun hno => absurd (unhide HO) hno⟩)
    clear KN hN b7 hz0 hzk
    go_wp2_with fail
    refine bodyPost_ret (by simp [results, Tryz.results4, go_sem]; try rfl) rfl ?_
    exact unhide HA
end Go.Proofs.YtohamaiobhikiaaGreat
