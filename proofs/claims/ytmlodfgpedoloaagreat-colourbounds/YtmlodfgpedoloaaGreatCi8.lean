/-
  BOUNDS: colour.Bound, colour.Floor: contracts by premises.
-/
import Derived.Test.YtmlodfgpedoloaaGreatCi7
namespace Go.Proofs.YtmlodfgpedoloaaGreat
open Go.RowKit Go.Deep
set_option linter.unusedVariables false

/-- What Bound answers where it is not refused. -/
def BdP (xs : List Int) (m : Nat) (f : Nat → Nat) (w w' : World) (e : Ending) : Prop := Below w.heap.size w w' ∧ (IsOrd xs m → ∃ q : Nat, e = .returned (.tuple #[.int .i64 (q : Int), .int .i64 0]) ∧ LgT f m q) ∧ (¬ IsOrd xs m → e = .returned (.tuple #[.int .i64 0, .int .i64 182]))
/-- What Floor answers where it is not refused. -/
def FlP (m : Nat) (P : Nat → Prop) (w w' : World) (e : Ending) : Prop := Below w.heap.size w w' ∧ ∃ q : Nat, e = .returned (.tuple #[.int .i64 (q : Int), .int .i64 0]) ∧ (m = 0 → q = 0) ∧ (0 < m → P q)

set_option maxRecDepth 100000 in
set_option maxHeartbeats 16000000 in
/-- colour.Bound, refused. -/
theorem cBound_no (k rows width : Int) (er : Int) (her : (er != 0) = true) (a : Option Addr) (n c : Nat) (a1 a2 : Option Addr) (n1 c1 n2 c2 : Nat) (st cols : List Int) (w : World) (h1 : SlI w a1 n1 c1 st) (h2 : SlI w a2 n2 c2 cols) (hT : ∀ W, SlI W a1 n1 c1 st → SlI W a2 n2 c2 cols → Calls Tryz.prog 13 #[.int .i64 k, patV rows width a1 n1 c1 a2 n2 c2] W fun e w' => TkN W w' e er) :
    Calls Tryz.prog 4 #[.int .i64 k, patV rows width a1 n1 c1 a2 n2 c2, .slice a n c] w fun e w' => e = .returned (.tuple #[.int .i64 0, .int .i64 er]) ∧ Below w.heap.size w w' := by
  obtain ⟨wb, hwb⟩ : ∃ x, w.alloc (.cells #[.int .i64 rows, .int .i64 width, .slice a1 n1 c1, .slice a2 n2 c2] 25) = x := ⟨_, rfl⟩
  have bb : Below w.heap.size w wb := by rw [← hwb]; exact (Below.refl _ _).alloc (Nat.le_refl _) _
  have hT0 := BoxP.made w #[.int .i64 rows, .int .i64 width, .slice a1 n1 c1, .slice a2 n2 c2] 25
  rw [hwb] at hT0
  have p0 := (hT0.all 0 _ rfl).1
  have p1 := (hT0.all 1 _ rfl).1
  have p2 := (hT0.all 2 _ rfl).1
  have p3 := (hT0.all 3 _ rfl).1
  have KT := hide (hT wb (h1.below bb) (h2.below bb))
  unfold patV at KT
  have HB := hide bb
  have HT0 := hide hT0
  clear hT0 bb h1 h2 hT
  unfold patV
  go_enter Tryz.func4, Tryz.ntmps4
  go_wp2_with fail
  refine (unhide KT).mono ?_
  rintro _ w2 ⟨rfl, b2⟩
  unfold tkZ
  clear p0 p1 p2 p3 KT
  try dsimp only
  have HB2 := hide ((unhide HB).trans (b2.mono (unhide HB).size))
  clear b2
  go_wp2_with fail
  refine bodyPost_ret (by simp [results, Tryz.results4, go_sem]; try rfl) rfl ?_
  exact ⟨rfl, (unhide HB2).alloc (unhide HB2).size _⟩
set_option maxRecDepth 100000 in
set_option maxHeartbeats 16000000 in
/-- colour.Floor, refused. -/
theorem cFloor_no (k rows width : Int) (er : Int) (her : (er != 0) = true) (a1 a2 : Option Addr) (n1 c1 n2 c2 : Nat) (st cols : List Int) (w : World) (h1 : SlI w a1 n1 c1 st) (h2 : SlI w a2 n2 c2 cols) (hT : ∀ W, SlI W a1 n1 c1 st → SlI W a2 n2 c2 cols → Calls Tryz.prog 13 #[.int .i64 k, patV rows width a1 n1 c1 a2 n2 c2] W fun e w' => TkN W w' e er) :
    Calls Tryz.prog 8 #[.int .i64 k, patV rows width a1 n1 c1 a2 n2 c2] w fun e w' => e = .returned (.tuple #[.int .i64 0, .int .i64 er]) ∧ Below w.heap.size w w' := by
  obtain ⟨wb, hwb⟩ : ∃ x, w.alloc (.cells #[.int .i64 rows, .int .i64 width, .slice a1 n1 c1, .slice a2 n2 c2] 25) = x := ⟨_, rfl⟩
  have bb : Below w.heap.size w wb := by rw [← hwb]; exact (Below.refl _ _).alloc (Nat.le_refl _) _
  have hT0 := BoxP.made w #[.int .i64 rows, .int .i64 width, .slice a1 n1 c1, .slice a2 n2 c2] 25
  rw [hwb] at hT0
  have p0 := (hT0.all 0 _ rfl).1
  have p1 := (hT0.all 1 _ rfl).1
  have p2 := (hT0.all 2 _ rfl).1
  have p3 := (hT0.all 3 _ rfl).1
  have KT := hide (hT wb (h1.below bb) (h2.below bb))
  unfold patV at KT
  have HB := hide bb
  have HT0 := hide hT0
  clear hT0 bb h1 h2 hT
  unfold patV
  go_enter Tryz.func8, Tryz.ntmps8
  go_wp2_with fail
  refine (unhide KT).mono ?_
  rintro _ w2 ⟨rfl, b2⟩
  unfold tkZ
  clear p0 p1 p2 p3 KT
  try dsimp only
  have HB2 := hide ((unhide HB).trans (b2.mono (unhide HB).size))
  clear b2
  go_wp2_with fail
  refine bodyPost_ret (by simp [results, Tryz.results8, go_sem]; try rfl) rfl ?_
  exact ⟨rfl, (unhide HB2).alloc (unhide HB2).size _⟩
set_option maxRecDepth 100000 in
set_option maxHeartbeats 16000000 in
/-- colour.Bound. -/
theorem cBound_yes (k : Int) (G G1 G2 G3 : Nat) (wd : Bool) (R width m : Nat) (S C : List Int) (a : Option Addr) (n c : Nat) (xs : List Int) (a1 a2 : Option Addr) (n1 c1 n2 c2 : Nat) (st cols : List Int) (w : World) (h1 : SlI w a1 n1 c1 st) (h2 : SlI w a2 n2 c2 cols) (h3 : SlI w a n c xs) (hn : n ≤ 17592186044000) (hbs : S.length ≤ 17592186044000) (hbc : C.length ≤ 17592186044000) (hm : MayP (m : Int) (m : Int) S C) (hT : ∀ W, SlI W a1 n1 c1 st → SlI W a2 n2 c2 cols → Calls Tryz.prog 13 #[.int .i64 k, patV (R : Int) (width : Int) a1 n1 c1 a2 n2 c2] W fun e w' => TkP W w' e G G1 G2 G3 wd R width a1 n1 c1 a2 n2 c2 m S C) :
    Calls Tryz.prog 4 #[.int .i64 k, patV (R : Int) (width : Int) a1 n1 c1 a2 n2 c2, .slice a n c] w fun e w' => BdP xs m (bnF S C xs m wd) w w' e := by
  have hm8 : m ≤ 128 := by have := hm.head.fit; omega
  obtain ⟨ok, hok⟩ := truth (IsOrd xs m)
  obtain ⟨wb, hwb⟩ : ∃ x, w.alloc (.cells #[.int .i64 (R : Int), .int .i64 (width : Int), .slice a1 n1 c1, .slice a2 n2 c2] 25) = x := ⟨_, rfl⟩
  have bb : Below w.heap.size w wb := by rw [← hwb]; exact (Below.refl _ _).alloc (Nat.le_refl _) _
  have hT0 := BoxP.made w #[.int .i64 (R : Int), .int .i64 (width : Int), .slice a1 n1 c1, .slice a2 n2 c2] 25
  rw [hwb] at hT0
  have p0 := (hT0.all 0 _ rfl).1
  have p1 := (hT0.all 1 _ rfl).1
  have p2 := (hT0.all 2 _ rfl).1
  have p3 := (hT0.all 3 _ rfl).1
  have KT := hide (hT wb (h1.below bb) (h2.below bb))
  unfold patV at KT
  have HB := hide bb
  have HT0 := hide hT0
  have HX := hide h3
  have HM := hide hm
  have HOK := hide (show TruQ ok (IsOrd xs m) from hok)
  clear hT0 bb h1 h2 hT h3 hm hok
  unfold patV
  go_enter Tryz.func4, Tryz.ntmps4
  go_wp2_with fail
  refine (unhide KT).mono ?_
  rintro _ w2 ⟨x, d, y, z, rfl, hS2, hC2, b2⟩
  unfold tkV
  clear p0 p1 p2 p3 KT
  try dsimp only
  repeat ((fail_if_success (with_reducible (show Code.wp _ _ _ _ (World.alloc w2 (Obj.cells #[_, _, _, _, _, _, _, _, _, _, _, _, .slice y C.length z] _))))); (first | go_values | go_skip | go_guarded | go_step | go_upon | go_back))
  have hR := BoxP.made w2 #[(.func (.func G) #[] #[]), (.func (.func G1) #[] #[]), (.func (.func G2) #[] #[]), (.func (.func G3) #[] #[]), (.bool wd), .int .i64 (R : Int), .int .i64 (width : Int), .slice a1 n1 c1, .slice a2 n2 c2, .int .i64 (m : Int), .int .i64 (m : Int), .slice x S.length d, .slice y C.length z] 57
  have br : Below w2.heap.size w2 (w2.alloc (.cells #[(.func (.func G) #[] #[]), (.func (.func G1) #[] #[]), (.func (.func G2) #[] #[]), (.func (.func G3) #[] #[]), (.bool wd), .int .i64 (R : Int), .int .i64 (width : Int), .slice a1 n1 c1, .slice a2 n2 c2, .int .i64 (m : Int), .int .i64 (m : Int), .slice x S.length d, .slice y C.length z] 57)) := (Below.refl _ _).alloc (Nat.le_refl _) _
  have hb3 := ((unhide HB).trans (b2.mono (unhide HB).size)).trans (br.mono (Nat.le_trans (unhide HB).size b2.size))
  have HSC := hide (And.intro (hS2.below br) (hC2.below br))
  have HT3 := hide (((unhide HT0).below b2).below br)
  clear b2 br hS2 hC2
  generalize w2.alloc (.cells #[(.func (.func G) #[] #[]), (.func (.func G1) #[] #[]), (.func (.func G2) #[] #[]), (.func (.func G3) #[] #[]), (.bool wd), .int .i64 (R : Int), .int .i64 (width : Int), .slice a1 n1 c1, .slice a2 n2 c2, .int .i64 (m : Int), .int .i64 (m : Int), .slice x S.length d, .slice y C.length z] 57) = w3 at *
  have s0 := (hR.all 0 _ rfl).1
  have s1 := (hR.all 1 _ rfl).1
  have s2 := (hR.all 2 _ rfl).1
  have s3 := (hR.all 3 _ rfl).1
  have s4 := (hR.all 4 _ rfl).1
  have s5 := (hR.all 5 _ rfl).1
  have s6 := (hR.all 6 _ rfl).1
  have s7 := (hR.all 7 _ rfl).1
  have s8 := (hR.all 8 _ rfl).1
  have s9 := (hR.all 9 _ rfl).1
  have s10 := (hR.all 10 _ rfl).1
  have s11 := (hR.all 11 _ rfl).1
  have s12 := (hR.all 12 _ rfl).1
  have HB3 := hide hb3
  have HR := hide hR
  have KO := hide (cisOrder_any a n c xs m w3 ((unhide HX).below hb3) (by omega) hm8 ok (unhide HOK))
  clear hR hb3
  go_wp2_with fail
  refine (unhide KO).mono ?_
  rintro _ w4 ⟨rfl, b4⟩
  have hR4 := (unhide HR).below b4
  have hb4 := (unhide HB3).trans (b4.mono (unhide HB3).size)
  have HSC4 := hide (And.intro ((unhide HSC).1.below b4) ((unhide HSC).2.below b4))
  have HB4 := hide hb4
  clear KO b4 s0 s1 s2 s3 s4 s5 s6 s7 s8 s9 s10 s11 s12
  have s0 := (hR4.all 0 _ rfl).1
  have s1 := (hR4.all 1 _ rfl).1
  have s2 := (hR4.all 2 _ rfl).1
  have s3 := (hR4.all 3 _ rfl).1
  have s4 := (hR4.all 4 _ rfl).1
  have s5 := (hR4.all 5 _ rfl).1
  have s6 := (hR4.all 6 _ rfl).1
  have s7 := (hR4.all 7 _ rfl).1
  have s8 := (hR4.all 8 _ rfl).1
  have s9 := (hR4.all 9 _ rfl).1
  have s10 := (hR4.all 10 _ rfl).1
  have s11 := (hR4.all 11 _ rfl).1
  have s12 := (hR4.all 12 _ rfl).1
  cases ok
  · clear hR4 hb4
    go_wp2_with fail
    refine bodyPost_ret (by simp [results, Tryz.results4, go_sem]; try rfl) rfl ?_
    exact ⟨unhide HB4, fun ho => absurd (Iff.mpr (unhide HOK) ho) (by decide), fun _ => rfl⟩
  · have ho : IsOrd xs m := Iff.mp (unhide HOK) rfl
    have hnm : n = m := by have := (unhide HX).len; have := ho.1; omega
    subst hnm
    have KB := hide (cbound_any G G1 G2 G3 wd R width a1 n1 c1 a2 n2 c2 n x S.length d y C.length z S C a c xs w4 (unhide HSC4).1 (unhide HSC4).2 hbs hbc (unhide HM) ((unhide HX).below hb4) ho.2)
    unfold tkV at KB
    have HO := hide ho
    clear hR4 hb4 ho
    go_wp2_with fail
    refine (unhide KB).mono ?_
    rintro _ w5 ⟨q, rfl, hq, b5⟩
    have HQ := hide hq
    have HB5 := hide ((unhide HB4).trans (b5.mono (unhide HB4).size))
    clear KB hq b5
    go_wp2_with fail
    refine bodyPost_ret (by simp [results, Tryz.results4, go_sem]; try rfl) rfl ?_
    exact ⟨unhide HB5, fun _ => ⟨q, rfl, unhide HQ⟩, fun hno => absurd (unhide HO) hno⟩
set_option maxRecDepth 100000 in
set_option maxHeartbeats 16000000 in
/-- colour.Floor. -/
theorem cFloor_two (k : Int) (G G1 G2 : Nat) (wd : Bool) (R width m : Nat) (S C : List Int) (P : Nat → Prop) (a1 a2 : Option Addr) (n1 c1 n2 c2 : Nat) (st cols : List Int) (w : World) (h1 : SlI w a1 n1 c1 st) (h2 : SlI w a2 n2 c2 cols) (hT : ∀ W, SlI W a1 n1 c1 st → SlI W a2 n2 c2 cols → Calls Tryz.prog 13 #[.int .i64 k, patV (R : Int) (width : Int) a1 n1 c1 a2 n2 c2] W fun e w' => TkP W w' e G G1 G2 55 wd R width a1 n1 c1 a2 n2 c2 m S C) (hF : ∀ W, SlI W a1 n1 c1 st → SlI W a2 n2 c2 cols → Calls Tryz.prog 55 #[patV (R : Int) (width : Int) a1 n1 c1 a2 n2 c2] W fun e w' => ∃ q : Nat, e = .returned (.int .i64 (q : Int)) ∧ q ≤ 17592186044416 ∧ P (max 1 q) ∧ Below W.heap.size W w') :
    Calls Tryz.prog 8 #[.int .i64 k, patV (R : Int) (width : Int) a1 n1 c1 a2 n2 c2] w fun e w' => FlP m P w w' e := by
  obtain ⟨wb, hwb⟩ : ∃ x, w.alloc (.cells #[.int .i64 (R : Int), .int .i64 (width : Int), .slice a1 n1 c1, .slice a2 n2 c2] 25) = x := ⟨_, rfl⟩
  have bb : Below w.heap.size w wb := by rw [← hwb]; exact (Below.refl _ _).alloc (Nat.le_refl _) _
  have hT0 := BoxP.made w #[.int .i64 (R : Int), .int .i64 (width : Int), .slice a1 n1 c1, .slice a2 n2 c2] 25
  rw [hwb] at hT0
  have p0 := (hT0.all 0 _ rfl).1
  have p1 := (hT0.all 1 _ rfl).1
  have p2 := (hT0.all 2 _ rfl).1
  have p3 := (hT0.all 3 _ rfl).1
  have KT := hide (hT wb (h1.below bb) (h2.below bb))
  unfold patV at KT
  have HB := hide bb
  have HT0 := hide hT0
  have HS := hide (And.intro h1 h2)
  have HF := hide hF
  clear hT0 bb h1 h2 hT hF
  unfold patV
  go_enter Tryz.func8, Tryz.ntmps8
  go_wp2_with fail
  refine (unhide KT).mono ?_
  rintro _ w2 ⟨x, d, y, z, rfl, hS2, hC2, b2⟩
  unfold tkV
  clear p0 p1 p2 p3 KT
  try dsimp only
  repeat ((fail_if_success (with_reducible (show Code.wp _ _ _ _ (World.alloc w2 (Obj.cells #[_, _, _, _, _, _, _, _, _, _, _, _, .slice y C.length z] _))))); (first | go_values | go_skip | go_guarded | go_step | go_upon | go_back))
  have hR := BoxP.made w2 #[(.func (.func G) #[] #[]), (.func (.func G1) #[] #[]), (.func (.func G2) #[] #[]), (.func (.func 55) #[] #[]), (.bool wd), .int .i64 (R : Int), .int .i64 (width : Int), .slice a1 n1 c1, .slice a2 n2 c2, .int .i64 (m : Int), .int .i64 (m : Int), .slice x S.length d, .slice y C.length z] 57
  have br : Below w2.heap.size w2 (w2.alloc (.cells #[(.func (.func G) #[] #[]), (.func (.func G1) #[] #[]), (.func (.func G2) #[] #[]), (.func (.func 55) #[] #[]), (.bool wd), .int .i64 (R : Int), .int .i64 (width : Int), .slice a1 n1 c1, .slice a2 n2 c2, .int .i64 (m : Int), .int .i64 (m : Int), .slice x S.length d, .slice y C.length z] 57)) := (Below.refl _ _).alloc (Nat.le_refl _) _
  have hb3 := ((unhide HB).trans (b2.mono (unhide HB).size)).trans (br.mono (Nat.le_trans (unhide HB).size b2.size))
  have HSC := hide (And.intro (hS2.below br) (hC2.below br))
  have HT3 := hide (((unhide HT0).below b2).below br)
  clear b2 br hS2 hC2
  generalize w2.alloc (.cells #[(.func (.func G) #[] #[]), (.func (.func G1) #[] #[]), (.func (.func G2) #[] #[]), (.func (.func 55) #[] #[]), (.bool wd), .int .i64 (R : Int), .int .i64 (width : Int), .slice a1 n1 c1, .slice a2 n2 c2, .int .i64 (m : Int), .int .i64 (m : Int), .slice x S.length d, .slice y C.length z] 57) = w3 at *
  have s0 := (hR.all 0 _ rfl).1
  have s1 := (hR.all 1 _ rfl).1
  have s2 := (hR.all 2 _ rfl).1
  have s3 := (hR.all 3 _ rfl).1
  have s4 := (hR.all 4 _ rfl).1
  have s5 := (hR.all 5 _ rfl).1
  have s6 := (hR.all 6 _ rfl).1
  have s7 := (hR.all 7 _ rfl).1
  have s8 := (hR.all 8 _ rfl).1
  have s9 := (hR.all 9 _ rfl).1
  have s10 := (hR.all 10 _ rfl).1
  have s11 := (hR.all 11 _ rfl).1
  have s12 := (hR.all 12 _ rfl).1
  have HB3 := hide hb3
  have HR := hide hR
  have g0 := ((unhide HT3).all 0 _ rfl).1
  have g1 := ((unhide HT3).all 1 _ rfl).1
  have g2 := ((unhide HT3).all 2 _ rfl).1
  have g3 := ((unhide HT3).all 3 _ rfl).1
  have KF := hide (unhide HF w3 ((unhide HS).1.below hb3) ((unhide HS).2.below hb3))
  unfold patV at KF
  clear hR hb3
  by_cases hm0 : m = 0
  · have hm0' : ((m : Int) == 0) = true := by simp [hm0]
    have HM0 := hide hm0
    clear hm0 KF
    go_wp2_with fail
    refine bodyPost_ret (by simp [results, Tryz.results8, go_sem]; try rfl) rfl ?_
    exact ⟨unhide HB3, 0, rfl, fun _ => rfl, fun h => by have := unhide HM0; omega⟩
  · have hm0' : ((m : Int) == 0) = false := by simp; omega
    have HM0 := hide hm0
    clear hm0
    go_wp2_with fail
    refine (unhide KF).mono ?_
    rintro _ w4 ⟨q, rfl, hq, hP, b4⟩
    obtain ⟨zz, hzz⟩ : ∃ zz : Nat, max 1 q = zz := ⟨_, rfl⟩
    rw [hzz] at hP
    have hzi : max (1 : Int) (q : Int) = (zz : Int) := by omega
    have HP := hide hP
    have HB4 := hide ((unhide HB3).trans (b4.mono (unhide HB3).size))
    clear KF hP b4 hzz
    go_wp2_with fail
    refine bodyPost_ret (v := .tuple #[.int .i64 (zz : Int), .int .i64 0]) (by simp [results, Tryz.results8, go_sem]; try rfl) rfl ?_
    exact ⟨unhide HB4, zz, rfl, fun h => absurd h (unhide HM0), fun _ => unhide HP⟩
set_option maxRecDepth 100000 in
set_option maxHeartbeats 16000000 in
/-- colour.Floor. -/
theorem cFloor_lrow (k : Int) (G G1 G2 : Nat) (wd : Bool) (R width m : Nat) (S C : List Int) (P : Nat → Prop) (a1 a2 : Option Addr) (n1 c1 n2 c2 : Nat) (st cols : List Int) (w : World) (h1 : SlI w a1 n1 c1 st) (h2 : SlI w a2 n2 c2 cols) (hT : ∀ W, SlI W a1 n1 c1 st → SlI W a2 n2 c2 cols → Calls Tryz.prog 13 #[.int .i64 k, patV (R : Int) (width : Int) a1 n1 c1 a2 n2 c2] W fun e w' => TkP W w' e G G1 G2 58 wd R width a1 n1 c1 a2 n2 c2 m S C) (hF : ∀ W, SlI W a1 n1 c1 st → SlI W a2 n2 c2 cols → Calls Tryz.prog 58 #[patV (R : Int) (width : Int) a1 n1 c1 a2 n2 c2] W fun e w' => ∃ q : Nat, e = .returned (.int .i64 (q : Int)) ∧ q ≤ 17592186044416 ∧ P (max 1 q) ∧ Below W.heap.size W w') :
    Calls Tryz.prog 8 #[.int .i64 k, patV (R : Int) (width : Int) a1 n1 c1 a2 n2 c2] w fun e w' => FlP m P w w' e := by
  obtain ⟨wb, hwb⟩ : ∃ x, w.alloc (.cells #[.int .i64 (R : Int), .int .i64 (width : Int), .slice a1 n1 c1, .slice a2 n2 c2] 25) = x := ⟨_, rfl⟩
  have bb : Below w.heap.size w wb := by rw [← hwb]; exact (Below.refl _ _).alloc (Nat.le_refl _) _
  have hT0 := BoxP.made w #[.int .i64 (R : Int), .int .i64 (width : Int), .slice a1 n1 c1, .slice a2 n2 c2] 25
  rw [hwb] at hT0
  have p0 := (hT0.all 0 _ rfl).1
  have p1 := (hT0.all 1 _ rfl).1
  have p2 := (hT0.all 2 _ rfl).1
  have p3 := (hT0.all 3 _ rfl).1
  have KT := hide (hT wb (h1.below bb) (h2.below bb))
  unfold patV at KT
  have HB := hide bb
  have HT0 := hide hT0
  have HS := hide (And.intro h1 h2)
  have HF := hide hF
  clear hT0 bb h1 h2 hT hF
  unfold patV
  go_enter Tryz.func8, Tryz.ntmps8
  go_wp2_with fail
  refine (unhide KT).mono ?_
  rintro _ w2 ⟨x, d, y, z, rfl, hS2, hC2, b2⟩
  unfold tkV
  clear p0 p1 p2 p3 KT
  try dsimp only
  repeat ((fail_if_success (with_reducible (show Code.wp _ _ _ _ (World.alloc w2 (Obj.cells #[_, _, _, _, _, _, _, _, _, _, _, _, .slice y C.length z] _))))); (first | go_values | go_skip | go_guarded | go_step | go_upon | go_back))
  have hR := BoxP.made w2 #[(.func (.func G) #[] #[]), (.func (.func G1) #[] #[]), (.func (.func G2) #[] #[]), (.func (.func 58) #[] #[]), (.bool wd), .int .i64 (R : Int), .int .i64 (width : Int), .slice a1 n1 c1, .slice a2 n2 c2, .int .i64 (m : Int), .int .i64 (m : Int), .slice x S.length d, .slice y C.length z] 57
  have br : Below w2.heap.size w2 (w2.alloc (.cells #[(.func (.func G) #[] #[]), (.func (.func G1) #[] #[]), (.func (.func G2) #[] #[]), (.func (.func 58) #[] #[]), (.bool wd), .int .i64 (R : Int), .int .i64 (width : Int), .slice a1 n1 c1, .slice a2 n2 c2, .int .i64 (m : Int), .int .i64 (m : Int), .slice x S.length d, .slice y C.length z] 57)) := (Below.refl _ _).alloc (Nat.le_refl _) _
  have hb3 := ((unhide HB).trans (b2.mono (unhide HB).size)).trans (br.mono (Nat.le_trans (unhide HB).size b2.size))
  have HSC := hide (And.intro (hS2.below br) (hC2.below br))
  have HT3 := hide (((unhide HT0).below b2).below br)
  clear b2 br hS2 hC2
  generalize w2.alloc (.cells #[(.func (.func G) #[] #[]), (.func (.func G1) #[] #[]), (.func (.func G2) #[] #[]), (.func (.func 58) #[] #[]), (.bool wd), .int .i64 (R : Int), .int .i64 (width : Int), .slice a1 n1 c1, .slice a2 n2 c2, .int .i64 (m : Int), .int .i64 (m : Int), .slice x S.length d, .slice y C.length z] 57) = w3 at *
  have s0 := (hR.all 0 _ rfl).1
  have s1 := (hR.all 1 _ rfl).1
  have s2 := (hR.all 2 _ rfl).1
  have s3 := (hR.all 3 _ rfl).1
  have s4 := (hR.all 4 _ rfl).1
  have s5 := (hR.all 5 _ rfl).1
  have s6 := (hR.all 6 _ rfl).1
  have s7 := (hR.all 7 _ rfl).1
  have s8 := (hR.all 8 _ rfl).1
  have s9 := (hR.all 9 _ rfl).1
  have s10 := (hR.all 10 _ rfl).1
  have s11 := (hR.all 11 _ rfl).1
  have s12 := (hR.all 12 _ rfl).1
  have HB3 := hide hb3
  have HR := hide hR
  have g0 := ((unhide HT3).all 0 _ rfl).1
  have g1 := ((unhide HT3).all 1 _ rfl).1
  have g2 := ((unhide HT3).all 2 _ rfl).1
  have g3 := ((unhide HT3).all 3 _ rfl).1
  have KF := hide (unhide HF w3 ((unhide HS).1.below hb3) ((unhide HS).2.below hb3))
  unfold patV at KF
  clear hR hb3
  by_cases hm0 : m = 0
  · have hm0' : ((m : Int) == 0) = true := by simp [hm0]
    have HM0 := hide hm0
    clear hm0 KF
    go_wp2_with fail
    refine bodyPost_ret (by simp [results, Tryz.results8, go_sem]; try rfl) rfl ?_
    exact ⟨unhide HB3, 0, rfl, fun _ => rfl, fun h => by have := unhide HM0; omega⟩
  · have hm0' : ((m : Int) == 0) = false := by simp; omega
    have HM0 := hide hm0
    clear hm0
    go_wp2_with fail
    refine (unhide KF).mono ?_
    rintro _ w4 ⟨q, rfl, hq, hP, b4⟩
    obtain ⟨zz, hzz⟩ : ∃ zz : Nat, max 1 q = zz := ⟨_, rfl⟩
    rw [hzz] at hP
    have hzi : max (1 : Int) (q : Int) = (zz : Int) := by omega
    have HP := hide hP
    have HB4 := hide ((unhide HB3).trans (b4.mono (unhide HB3).size))
    clear KF hP b4 hzz
    go_wp2_with fail
    refine bodyPost_ret (v := .tuple #[.int .i64 (zz : Int), .int .i64 0]) (by simp [results, Tryz.results8, go_sem]; try rfl) rfl ?_
    exact ⟨unhide HB4, zz, rfl, fun h => absurd h (unhide HM0), fun _ => unhide HP⟩
set_option maxRecDepth 100000 in
set_option maxHeartbeats 16000000 in
/-- colour.Floor. -/
theorem cFloor_lcol (k : Int) (G G1 G2 : Nat) (wd : Bool) (R width m : Nat) (S C : List Int) (P : Nat → Prop) (a1 a2 : Option Addr) (n1 c1 n2 c2 : Nat) (st cols : List Int) (w : World) (h1 : SlI w a1 n1 c1 st) (h2 : SlI w a2 n2 c2 cols) (hT : ∀ W, SlI W a1 n1 c1 st → SlI W a2 n2 c2 cols → Calls Tryz.prog 13 #[.int .i64 k, patV (R : Int) (width : Int) a1 n1 c1 a2 n2 c2] W fun e w' => TkP W w' e G G1 G2 61 wd R width a1 n1 c1 a2 n2 c2 m S C) (hF : ∀ W, SlI W a1 n1 c1 st → SlI W a2 n2 c2 cols → Calls Tryz.prog 61 #[patV (R : Int) (width : Int) a1 n1 c1 a2 n2 c2] W fun e w' => ∃ q : Nat, e = .returned (.int .i64 (q : Int)) ∧ q ≤ 17592186044416 ∧ P (max 1 q) ∧ Below W.heap.size W w') :
    Calls Tryz.prog 8 #[.int .i64 k, patV (R : Int) (width : Int) a1 n1 c1 a2 n2 c2] w fun e w' => FlP m P w w' e := by
  obtain ⟨wb, hwb⟩ : ∃ x, w.alloc (.cells #[.int .i64 (R : Int), .int .i64 (width : Int), .slice a1 n1 c1, .slice a2 n2 c2] 25) = x := ⟨_, rfl⟩
  have bb : Below w.heap.size w wb := by rw [← hwb]; exact (Below.refl _ _).alloc (Nat.le_refl _) _
  have hT0 := BoxP.made w #[.int .i64 (R : Int), .int .i64 (width : Int), .slice a1 n1 c1, .slice a2 n2 c2] 25
  rw [hwb] at hT0
  have p0 := (hT0.all 0 _ rfl).1
  have p1 := (hT0.all 1 _ rfl).1
  have p2 := (hT0.all 2 _ rfl).1
  have p3 := (hT0.all 3 _ rfl).1
  have KT := hide (hT wb (h1.below bb) (h2.below bb))
  unfold patV at KT
  have HB := hide bb
  have HT0 := hide hT0
  have HS := hide (And.intro h1 h2)
  have HF := hide hF
  clear hT0 bb h1 h2 hT hF
  unfold patV
  go_enter Tryz.func8, Tryz.ntmps8
  go_wp2_with fail
  refine (unhide KT).mono ?_
  rintro _ w2 ⟨x, d, y, z, rfl, hS2, hC2, b2⟩
  unfold tkV
  clear p0 p1 p2 p3 KT
  try dsimp only
  repeat ((fail_if_success (with_reducible (show Code.wp _ _ _ _ (World.alloc w2 (Obj.cells #[_, _, _, _, _, _, _, _, _, _, _, _, .slice y C.length z] _))))); (first | go_values | go_skip | go_guarded | go_step | go_upon | go_back))
  have hR := BoxP.made w2 #[(.func (.func G) #[] #[]), (.func (.func G1) #[] #[]), (.func (.func G2) #[] #[]), (.func (.func 61) #[] #[]), (.bool wd), .int .i64 (R : Int), .int .i64 (width : Int), .slice a1 n1 c1, .slice a2 n2 c2, .int .i64 (m : Int), .int .i64 (m : Int), .slice x S.length d, .slice y C.length z] 57
  have br : Below w2.heap.size w2 (w2.alloc (.cells #[(.func (.func G) #[] #[]), (.func (.func G1) #[] #[]), (.func (.func G2) #[] #[]), (.func (.func 61) #[] #[]), (.bool wd), .int .i64 (R : Int), .int .i64 (width : Int), .slice a1 n1 c1, .slice a2 n2 c2, .int .i64 (m : Int), .int .i64 (m : Int), .slice x S.length d, .slice y C.length z] 57)) := (Below.refl _ _).alloc (Nat.le_refl _) _
  have hb3 := ((unhide HB).trans (b2.mono (unhide HB).size)).trans (br.mono (Nat.le_trans (unhide HB).size b2.size))
  have HSC := hide (And.intro (hS2.below br) (hC2.below br))
  have HT3 := hide (((unhide HT0).below b2).below br)
  clear b2 br hS2 hC2
  generalize w2.alloc (.cells #[(.func (.func G) #[] #[]), (.func (.func G1) #[] #[]), (.func (.func G2) #[] #[]), (.func (.func 61) #[] #[]), (.bool wd), .int .i64 (R : Int), .int .i64 (width : Int), .slice a1 n1 c1, .slice a2 n2 c2, .int .i64 (m : Int), .int .i64 (m : Int), .slice x S.length d, .slice y C.length z] 57) = w3 at *
  have s0 := (hR.all 0 _ rfl).1
  have s1 := (hR.all 1 _ rfl).1
  have s2 := (hR.all 2 _ rfl).1
  have s3 := (hR.all 3 _ rfl).1
  have s4 := (hR.all 4 _ rfl).1
  have s5 := (hR.all 5 _ rfl).1
  have s6 := (hR.all 6 _ rfl).1
  have s7 := (hR.all 7 _ rfl).1
  have s8 := (hR.all 8 _ rfl).1
  have s9 := (hR.all 9 _ rfl).1
  have s10 := (hR.all 10 _ rfl).1
  have s11 := (hR.all 11 _ rfl).1
  have s12 := (hR.all 12 _ rfl).1
  have HB3 := hide hb3
  have HR := hide hR
  have g0 := ((unhide HT3).all 0 _ rfl).1
  have g1 := ((unhide HT3).all 1 _ rfl).1
  have g2 := ((unhide HT3).all 2 _ rfl).1
  have g3 := ((unhide HT3).all 3 _ rfl).1
  have KF := hide (unhide HF w3 ((unhide HS).1.below hb3) ((unhide HS).2.below hb3))
  unfold patV at KF
  clear hR hb3
  by_cases hm0 : m = 0
  · have hm0' : ((m : Int) == 0) = true := by simp [hm0]
    have HM0 := hide hm0
    clear hm0 KF
    go_wp2_with fail
    refine bodyPost_ret (by simp [results, Tryz.results8, go_sem]; try rfl) rfl ?_
    exact ⟨unhide HB3, 0, rfl, fun _ => rfl, fun h => by have := unhide HM0; omega⟩
  · have hm0' : ((m : Int) == 0) = false := by simp; omega
    have HM0 := hide hm0
    clear hm0
    go_wp2_with fail
    refine (unhide KF).mono ?_
    rintro _ w4 ⟨q, rfl, hq, hP, b4⟩
    obtain ⟨zz, hzz⟩ : ∃ zz : Nat, max 1 q = zz := ⟨_, rfl⟩
    rw [hzz] at hP
    have hzi : max (1 : Int) (q : Int) = (zz : Int) := by omega
    have HP := hide hP
    have HB4 := hide ((unhide HB3).trans (b4.mono (unhide HB3).size))
    clear KF hP b4 hzz
    go_wp2_with fail
    refine bodyPost_ret (v := .tuple #[.int .i64 (zz : Int), .int .i64 0]) (by simp [results, Tryz.results8, go_sem]; try rfl) rfl ?_
    exact ⟨unhide HB4, zz, rfl, fun h => absurd h (unhide HM0), fun _ => unhide HP⟩
end Go.Proofs.YtmlodfgpedoloaaGreat
