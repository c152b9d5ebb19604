/- Cj3 -/
import Derived.Test.YtgjokididdffhaaGreatCj1
import Derived.Test.YtgjokididdffhaaGreatCj2
import Derived.Test.YtgjokididdffhaaGreatCi8
import Derived.Test.YtgjokididdffhaaGreatChe
import Derived.Test.YtgjokididdffhaaGreatCv1
namespace Go.Proofs.YtgjokididdffhaaGreat
open Go.RowKit Go.Deep
set_option linter.unusedVariables false
theorem cnP_no {P : Nat → Prop} {k : Nat} (h : ¬ P k) : cnP P (k + 1) = cnP P k := by rw [cnP_next, tb_no h]; rfl
theorem cnP_yes {P : Nat → Prop} {k : Nat} (h : P k) : cnP P (k + 1) = cnP P k + 1 := by rw [cnP_next, tb_yes h]; rfl
def bruM (f0 f1 f2 f3 : Value) (wd : Bool) (Rp width R : Nat) (a1 : Option Addr) (n1 c1 : Nat) (a2 : Option Addr) (n2 c2 : Nat) (b1 : Option Addr) (m1 d1 : Nat) (b2 : Option Addr) (m2 d2 : Nat) (g h cnt : Nat) : List Value := [f0, f1, f2, f3, .bool wd, .int .i64 (Rp : Int), .int .i64 (width : Int), .slice a1 n1 c1, .slice a2 n2 c2, .int .i64 (R : Int), .int .i64 (R : Int), .slice b1 m1 d1, .slice b2 m2 d2, .slice (some ⟨g, 0, none⟩) R R, .int .i64 (cnt : Int), .slice (some ⟨h, 0, none⟩) R R]
set_option maxRecDepth 100000 in
set_option maxHeartbeats 16000000 in
theorem cnewBrush_gen (f0 f1 f2 f3 : Value) (wd : Bool) (Rp width R : Nat) (a1 a2 b1 b2 : Option Addr) (n1 c1 n2 c2 m1 d1 m2 d2 : Nat) (w : World) (hR : R ≤ 128) :
    Calls Tryz.prog 35 #[.agg #[f0, f1, f2, f3, .bool wd, .int .i64 (Rp : Int), .int .i64 (width : Int), .slice a1 n1 c1, .slice a2 n2 c2, .int .i64 (R : Int), .int .i64 (R : Int), .slice b1 m1 d1, .slice b2 m2 d2]] w fun e w' => ∃ X g h, e = .returned (.pointer (some ⟨X, 0, none⟩)) ∧ BoxP w' X (bruM f0 f1 f2 f3 wd Rp width R a1 n1 c1 a2 n2 c2 b1 m1 d1 b2 m2 d2 g h 1) ∧ RoV w' g R (fun _ => .int .i64 (-1)) ∧ RoV w' h R (fun _ => .int .i64 0) ∧ (w.heap.size ≤ g ∧ g < h ∧ h < X) ∧ Below w.heap.size w w' := by
  obtain ⟨wb, hwb⟩ : ∃ x, w.alloc (.cells #[f0, f1, f2, f3, .bool wd, .int .i64 (Rp : Int), .int .i64 (width : Int), .slice a1 n1 c1, .slice a2 n2 c2, .int .i64 (R : Int), .int .i64 (R : Int), .slice b1 m1 d1, .slice b2 m2 d2] 80) = x := ⟨_, rfl⟩
  have bb : Below w.heap.size w wb := by rw [← hwb]; exact (Below.refl _ _).alloc (Nat.le_refl _) _
  have hT := BoxP.made w #[f0, f1, f2, f3, .bool wd, .int .i64 (Rp : Int), .int .i64 (width : Int), .slice a1 n1 c1, .slice a2 n2 c2, .int .i64 (R : Int), .int .i64 (R : Int), .slice b1 m1 d1, .slice b2 m2 d2] 80
  rw [hwb] at hT
  have p0 := (hT.all 0 _ rfl).1
  have p1 := (hT.all 1 _ rfl).1
  have p2 := (hT.all 2 _ rfl).1
  have p3 := (hT.all 3 _ rfl).1
  have p4 := (hT.all 4 _ rfl).1
  have p5 := (hT.all 5 _ rfl).1
  have p6 := (hT.all 6 _ rfl).1
  have p7 := (hT.all 7 _ rfl).1
  have p8 := (hT.all 8 _ rfl).1
  have p9 := (hT.all 9 _ rfl).1
  have p10 := (hT.all 10 _ rfl).1
  have p11 := (hT.all 11 _ rfl).1
  have p12 := (hT.all 12 _ rfl).1
  have HT := hide hT
  have HB := hide bb
  clear hT bb
  go_enter Tryz.func35, Tryz.ntmps35
  go_wp2_with fail
  go_region_held3 (fun w' => w'.cell? ⟨w.heap.size, 0, none⟩ = some (f0) ∧ w'.cell? ⟨w.heap.size, 1, none⟩ = some (f1) ∧ w'.cell? ⟨w.heap.size, 2, none⟩ = some (f2) ∧ w'.cell? ⟨w.heap.size, 3, none⟩ = some (f3) ∧ w'.cell? ⟨w.heap.size, 4, none⟩ = some (.bool wd) ∧ w'.cell? ⟨w.heap.size, 5, none⟩ = some (.int .i64 (Rp : Int)) ∧ w'.cell? ⟨w.heap.size, 6, none⟩ = some (.int .i64 (width : Int)) ∧ w'.cell? ⟨w.heap.size, 7, none⟩ = some (.slice a1 n1 c1) ∧ w'.cell? ⟨w.heap.size, 8, none⟩ = some (.slice a2 n2 c2) ∧ w'.cell? ⟨w.heap.size, 9, none⟩ = some (.int .i64 (R : Int)) ∧ w'.cell? ⟨w.heap.size, 10, none⟩ = some (.int .i64 (R : Int)) ∧ w'.cell? ⟨w.heap.size, 11, none⟩ = some (.slice b1 m1 d1) ∧ w'.cell? ⟨w.heap.size, 12, none⟩ = some (.slice b2 m2 d2)) (first | (exact ⟨k0, k1, k2, k3, k4, k5, k6, k7, k8, k9, k10, k11, k12⟩) | go_keep)
    (first
      | (go_at_call 64; refine (srepeat_any ⟨wb.heap.size, 0, none⟩ 1 (-1) R _ hR (by simp)).mono ?_; rintro _ w3 ⟨g, hgn, rfl, hgb, b3⟩; have bw3 : Below wb.heap.size wb w3 := (((Below.refl _ _).alloc (Nat.le_refl _) _).drew).trans (b3.mono (by simp)); have hT3 := (unhide HT).below bw3; have k0 := (hT3.all 0 _ rfl).1; have k1 := (hT3.all 1 _ rfl).1; have k2 := (hT3.all 2 _ rfl).1; have k3 := (hT3.all 3 _ rfl).1; have k4 := (hT3.all 4 _ rfl).1; have k5 := (hT3.all 5 _ rfl).1; have k6 := (hT3.all 6 _ rfl).1; have k7 := (hT3.all 7 _ rfl).1; have k8 := (hT3.all 8 _ rfl).1; have k9 := (hT3.all 9 _ rfl).1; have k10 := (hT3.all 10 _ rfl).1; have k11 := (hT3.all 11 _ rfl).1; have k12 := (hT3.all 12 _ rfl).1; have HB3 := hide bw3; have HGB := hide (And.intro hgb (show wb.heap.size ≤ g by simp at hgn; omega)); have HT3 := hide hT3; clear hgb b3 bw3 hT3 hgn)
      | (go_at_call 65; refine (cmarksOf_any R _ hR).mono ?_; rintro _ w4 ⟨h, hhn, rfl, hhr, hhl, b4⟩; clear k0 k1 k2 k3 k4 k5 k6 k7 k8 k9 k10 k11 k12; have hT4 := (unhide HT3).below b4; have k0 := (hT4.all 0 _ rfl).1; have k1 := (hT4.all 1 _ rfl).1; have k2 := (hT4.all 2 _ rfl).1; have k3 := (hT4.all 3 _ rfl).1; have k4 := (hT4.all 4 _ rfl).1; have k5 := (hT4.all 5 _ rfl).1; have k6 := (hT4.all 6 _ rfl).1; have k7 := (hT4.all 7 _ rfl).1; have k8 := (hT4.all 8 _ rfl).1; have k9 := (hT4.all 9 _ rfl).1; have k10 := (hT4.all 10 _ rfl).1; have k11 := (hT4.all 11 _ rfl).1; have k12 := (hT4.all 12 _ rfl).1; have HB4 := hide b4; have HHR := hide (And.intro hhr (And.intro hhn hhl)); clear hhr hhn hhl b4 hT4))
  clear k0 k1 k2 k3 k4 k5 k6 k7 k8 k9 k10 k11 k12
  have hbx := BoxP.front w4 _ 123 (bruM f0 f1 f2 f3 wd Rp width R a1 n1 c1 a2 n2 c2 b1 m1 d1 b2 m2 d2 g h 1) (by simp only [Array.size_setIfInBounds]; have := zc_brush; omega) (fun k v hk => brush_front f0 f1 f2 f3 (.bool wd) (.int .i64 (Rp : Int)) (.int .i64 (width : Int)) (.slice a1 n1 c1) (.slice a2 n2 c2) (.int .i64 (R : Int)) (.int .i64 (R : Int)) (.slice b1 m1 d1) (.slice b2 m2 d2) (.slice (some ⟨g, 0, none⟩) R R) (.int .i64 1) (.slice (some ⟨h, 0, none⟩) R R) k v hk)
  generalize hZ : ((((((((((((((((Tryz.zeroCells123.setIfInBounds 0 f0).setIfInBounds 1 f1).setIfInBounds 2 f2).setIfInBounds 3 f3).setIfInBounds 4 (Value.bool wd)).setIfInBounds 5 (Value.int IntKind.i64 (Rp : Int))).setIfInBounds 6 (Value.int IntKind.i64 (width : Int))).setIfInBounds 7 (Value.slice a1 n1 c1)).setIfInBounds 8 (Value.slice a2 n2 c2)).setIfInBounds 9 (Value.int IntKind.i64 (R : Int))).setIfInBounds 10 (Value.int IntKind.i64 (R : Int))).setIfInBounds 11 (Value.slice b1 m1 d1)).setIfInBounds 12 (Value.slice b2 m2 d2)).setIfInBounds 13 (Value.slice (some ⟨g, 0, none⟩) R R)).setIfInBounds 14 (Value.int IntKind.i64 1)).setIfInBounds 15 (Value.slice (some ⟨h, 0, none⟩) R R)) = ZZ at *
  have HX := hide hbx
  clear hbx hZ
  go_wp2_with fail
  try go_ret
  have b4a : Below w4.heap.size w4 (w4.alloc (.cells ZZ 123)) := (Below.refl _ _).alloc (Nat.le_refl _) _
  have h3 := (unhide HB).trans ((unhide HB3).mono (unhide HB).size)
  have h4 := h3.trans ((unhide HB4).mono h3.size)
  have hg3 := (Array.getElem?_eq_some_iff.1 (unhide HGB).1).1
  have hh := (unhide HHR).2
  refine ⟨w4.heap.size, g, h, rfl, unhide HX, ((RoV.rep (unhide HGB).1).below (unhide HB4)).below b4a, (unhide HHR).1.below b4a, ⟨?_, ?_, hh.2⟩, h4.trans (b4a.mono h4.size)⟩
  · have := (unhide HGB).2; have := (unhide HB).size; omega
  · omega
def GrB (xs : List Int) (m : Nat) (P : (Nat → Int) → Prop) (w w' : World) (e : Ending) : Prop := Below w.heap.size w w' ∧ (IsOrd xs m → ∃ (g : Nat) (cs : Nat → Int) (z : Nat), e = .returned (.tuple #[.slice (some ⟨g, 0, none⟩) m m, .int .i64 (z : Int), .int .i64 0]) ∧ P cs ∧ NumC (csL cs m) (z : Int) ∧ RoV w' g m (fun i => .int .i64 (cs i)) ∧ w.heap.size ≤ g) ∧ (¬ IsOrd xs m → e = .returned (.tuple #[.slice none 0 0, .int .i64 0, .int .i64 182]))
set_option maxRecDepth 100000 in
set_option maxHeartbeats 16000000 in
theorem cGreedy_no (k rows width : Int) (er : Int) (her : (er != 0) = true) (a : Option Addr) (n c : Nat) (a1 a2 : Option Addr) (n1 c1 n2 c2 : Nat) (st cols : List Int) (w : World) (h1 : SlI w a1 n1 c1 st) (h2 : SlI w a2 n2 c2 cols) (hT : ∀ W, SlI W a1 n1 c1 st → SlI W a2 n2 c2 cols → Calls Tryz.prog 34 #[.int .i64 k, patV rows width a1 n1 c1 a2 n2 c2] W fun e w' => TkN W w' e er) :
    Calls Tryz.prog 18 #[.int .i64 k, patV rows width a1 n1 c1 a2 n2 c2, .slice a n c] w fun e w' => e = .returned (.tuple #[.slice none 0 0, .int .i64 0, .int .i64 er]) ∧ Below w.heap.size w w' := by
  obtain ⟨wb, hwb⟩ : ∃ x, w.alloc (.cells #[.int .i64 rows, .int .i64 width, .slice a1 n1 c1, .slice a2 n2 c2] 25) = x := ⟨_, rfl⟩
  have bb : Below w.heap.size w wb := by rw [← hwb]; exact (Below.refl _ _).alloc (Nat.le_refl _) _
  have hT0 := BoxP.made w #[.int .i64 rows, .int .i64 width, .slice a1 n1 c1, .slice a2 n2 c2] 25
  rw [hwb] at hT0
  have p0 := (hT0.all 0 _ rfl).1
  have p1 := (hT0.all 1 _ rfl).1
  have p2 := (hT0.all 2 _ rfl).1
  have p3 := (hT0.all 3 _ rfl).1
  have KT := hide (hT wb (h1.below bb) (h2.below bb))
  unfold patV at KT
  have HB := hide bb
  have HT0 := hide hT0
  clear hT0 bb h1 h2 hT
  unfold patV
  go_enter Tryz.func18, Tryz.ntmps18
  go_wp2_with fail
  refine (unhide KT).mono ?_
  rintro _ w2 ⟨rfl, b2⟩
  unfold tkZ
  clear p0 p1 p2 p3 KT
  try dsimp only
  have HB2 := hide ((unhide HB).trans (b2.mono (unhide HB).size))
  clear b2
  go_wp2_with fail
  refine bodyPost_ret (by simp [results, Tryz.results18, go_sem]; try rfl) rfl ?_
  exact ⟨rfl, (unhide HB2).alloc (unhide HB2).size _⟩
set_option maxRecDepth 100000 in
set_option maxHeartbeats 16000000 in
theorem cGreedy_nb (k : Int) (G G1 G3 : Nat) (wd : Bool) (R width m : Nat) (S C : List Int) (a : Option Addr) (n c : Nat) (xs : List Int) (a1 a2 : Option Addr) (n1 c1 n2 c2 : Nat) (st cols : List Int) (w : World) (h1 : SlI w a1 n1 c1 st) (h2 : SlI w a2 n2 c2 cols) (h3 : SlI w a n c xs) (hn : n ≤ 17592186044000) (hbs : S.length ≤ 17592186044000) (hbc : C.length ≤ 17592186044000) (hm : MayP (m : Int) (m : Int) S C) (hT : ∀ W, SlI W a1 n1 c1 st → SlI W a2 n2 c2 cols → Calls Tryz.prog 34 #[.int .i64 k, patV (R : Int) (width : Int) a1 n1 c1 a2 n2 c2] W fun e w' => TkP W w' e G G1 93 G3 wd R width a1 n1 c1 a2 n2 c2 m S C) :
    Calls Tryz.prog 18 #[.int .i64 k, patV (R : Int) (width : Int) a1 n1 c1 a2 n2 c2, .slice a n c] w fun e w' => GrB xs m (PntN S C xs m) w w' e := by
  have hm8 : m ≤ 128 := by have := hm.head.fit; omega
  obtain ⟨ok, hok⟩ := truth (IsOrd xs m)
  obtain ⟨wb, hwb⟩ : ∃ x, w.alloc (.cells #[.int .i64 (R : Int), .int .i64 (width : Int), .slice a1 n1 c1, .slice a2 n2 c2] 25) = x := ⟨_, rfl⟩
  have bb : Below w.heap.size w wb := by rw [← hwb]; exact (Below.refl _ _).alloc (Nat.le_refl _) _
  have hT0 := BoxP.made w #[.int .i64 (R : Int), .int .i64 (width : Int), .slice a1 n1 c1, .slice a2 n2 c2] 25
  rw [hwb] at hT0
  have p0 := (hT0.all 0 _ rfl).1
  have p1 := (hT0.all 1 _ rfl).1
  have p2 := (hT0.all 2 _ rfl).1
  have p3 := (hT0.all 3 _ rfl).1
  have KT := hide (hT wb (h1.below bb) (h2.below bb))
  unfold patV at KT
  have HB := hide bb
  have HT0 := hide hT0
  have HX := hide h3
  have HM := hide hm
  have HOK := hide (show TruQ ok (IsOrd xs m) from hok)
  clear hT0 bb h1 h2 hT h3 hm hok
  unfold patV
  go_enter Tryz.func18, Tryz.ntmps18
  go_wp2_with fail
  refine (unhide KT).mono ?_
  rintro _ w2 ⟨x, d, y, z, rfl, hS2, hC2, b2⟩
  unfold tkV
  clear p0 p1 p2 p3 KT
  try dsimp only
  repeat ((fail_if_success (with_reducible (show Code.wp _ _ _ _ (World.alloc w2 (Obj.cells #[_, _, _, _, _, _, _, _, _, _, _, _, .slice y C.length z] _))))); (first | go_values | go_skip | go_guarded | go_step | go_upon | go_back))
  have hR := BoxP.made w2 #[(.func (.func G) #[] #[]), (.func (.func G1) #[] #[]), (.func (.func 93) #[] #[]), (.func (.func G3) #[] #[]), (.bool wd), .int .i64 (R : Int), .int .i64 (width : Int), .slice a1 n1 c1, .slice a2 n2 c2, .int .i64 (m : Int), .int .i64 (m : Int), .slice x S.length d, .slice y C.length z] 80
  have br : Below w2.heap.size w2 (w2.alloc (.cells #[(.func (.func G) #[] #[]), (.func (.func G1) #[] #[]), (.func (.func 93) #[] #[]), (.func (.func G3) #[] #[]), (.bool wd), .int .i64 (R : Int), .int .i64 (width : Int), .slice a1 n1 c1, .slice a2 n2 c2, .int .i64 (m : Int), .int .i64 (m : Int), .slice x S.length d, .slice y C.length z] 80)) := (Below.refl _ _).alloc (Nat.le_refl _) _
  have hb3 := ((unhide HB).trans (b2.mono (unhide HB).size)).trans (br.mono (Nat.le_trans (unhide HB).size b2.size))
  have HSC := hide (And.intro (hS2.below br) (hC2.below br))
  have HT3 := hide (((unhide HT0).below b2).below br)
  clear b2 br hS2 hC2
  generalize w2.alloc (.cells #[(.func (.func G) #[] #[]), (.func (.func G1) #[] #[]), (.func (.func 93) #[] #[]), (.func (.func G3) #[] #[]), (.bool wd), .int .i64 (R : Int), .int .i64 (width : Int), .slice a1 n1 c1, .slice a2 n2 c2, .int .i64 (m : Int), .int .i64 (m : Int), .slice x S.length d, .slice y C.length z] 80) = w3 at *
  have s0 := (hR.all 0 _ rfl).1
  have s1 := (hR.all 1 _ rfl).1
  have s2 := (hR.all 2 _ rfl).1
  have s3 := (hR.all 3 _ rfl).1
  have s4 := (hR.all 4 _ rfl).1
  have s5 := (hR.all 5 _ rfl).1
  have s6 := (hR.all 6 _ rfl).1
  have s7 := (hR.all 7 _ rfl).1
  have s8 := (hR.all 8 _ rfl).1
  have s9 := (hR.all 9 _ rfl).1
  have s10 := (hR.all 10 _ rfl).1
  have s11 := (hR.all 11 _ rfl).1
  have s12 := (hR.all 12 _ rfl).1
  have HB3 := hide hb3
  have HR := hide hR
  have KO := hide (cisOrder_any a n c xs m w3 ((unhide HX).below hb3) (by omega) hm8 ok (unhide HOK))
  clear hR hb3
  go_wp2_with fail
  refine (unhide KO).mono ?_
  rintro _ w4 ⟨rfl, b4⟩
  have hR4 := (unhide HR).below b4
  have hb4 := (unhide HB3).trans (b4.mono (unhide HB3).size)
  have HSC4 := hide (And.intro ((unhide HSC).1.below b4) ((unhide HSC).2.below b4))
  have HB4 := hide hb4
  clear KO b4 s0 s1 s2 s3 s4 s5 s6 s7 s8 s9 s10 s11 s12
  have s0 := (hR4.all 0 _ rfl).1
  have s1 := (hR4.all 1 _ rfl).1
  have s2 := (hR4.all 2 _ rfl).1
  have s3 := (hR4.all 3 _ rfl).1
  have s4 := (hR4.all 4 _ rfl).1
  have s5 := (hR4.all 5 _ rfl).1
  have s6 := (hR4.all 6 _ rfl).1
  have s7 := (hR4.all 7 _ rfl).1
  have s8 := (hR4.all 8 _ rfl).1
  have s9 := (hR4.all 9 _ rfl).1
  have s10 := (hR4.all 10 _ rfl).1
  have s11 := (hR4.all 11 _ rfl).1
  have s12 := (hR4.all 12 _ rfl).1
  cases ok
  · clear hR4 hb4
    go_wp2_with fail
    refine bodyPost_ret (by simp [results, Tryz.results18, go_sem]; try rfl) rfl ?_
    exact ⟨unhide HB4, fun ho => absurd (Iff.mpr (unhide HOK) ho) (by decide), fun _ => rfl⟩
  · have ho : IsOrd xs m := Iff.mp (unhide HOK) rfl
    have hnm : n = m := by have := (unhide HX).len; have := ho.1; omega
    subst hnm
    have HO := hide ho
    clear hR4 hb4 ho
    go_wp2_with fail
    refine (cnewBrush_gen _ _ _ _ wd R width n a1 a2 x y n1 c1 n2 c2 S.length d C.length z w4 hm8).mono ?_
    rintro _ w5 ⟨X, g, h, rfl, hX, hg5, hh5, hlt5, b5⟩
    have hs1 := (unhide HSC4).1
    have hs2 := (unhide HSC4).2
    have hs3 := (unhide HX).below (unhide HB4)
    have hBr : BrI w5 X n _ x S.length d y C.length z g h 1 (fun _ => -1) (fun _ => 0) S C := ⟨hX, rfl, rfl, rfl, rfl, rfl, rfl, rfl, hg5, hh5, hs1.below b5, hs2.below b5, fun t ht hne => by have := hs1.block_lt hne t ht; omega, fun t ht hne => by have := hs2.block_lt hne t ht; omega, by omega⟩
    have KP := hide (cpaint_nb X n _ x S.length d y C.length z g h (fun _ => 0) S C a n c xs w5 hBr (unhide HM) hbs hbc (fun j _ => by omega) rfl (hs3.below b5) (Nat.le_refl _) (unhide HO).2.rng (fun t ht hne => by have := hs3.block_lt hne t ht; omega))
    have HB5 := hide ((unhide HB4).trans (b5.mono (unhide HB4).size))
    have HLT := hide (And.intro (unhide HB4).size hlt5)
    clear hX hg5 hh5 hlt5 b5 hs1 hs2 hs3 hBr s0 s1 s2 s3 s4 s5 s6 s7 s8 s9 s10 s11 s12
    go_wp2_with fail
    refine (unhide KP).mono ?_
    rintro _ w6 ⟨cs, hP⟩
    have e6 := hP.ret
    subst e6
    have hrg := PntN.rng (unhide HM) (unhide HO).2.rng (Nat.le_refl _) hP.pnt
    have KN := hide (cnumber_any (some ⟨g, 0, none⟩) n n (csL cs n) w6 (hP.row.sli hm8) hm8 (fun i hi => by rw [csL_get hi]; have := hrg i; omega) (fun e => by cases e))
    have HP := hide hP
    have HRG := hide hrg
    clear KP hP hrg
    go_wp2_with fail
    refine (unhide KN).mono ?_
    rintro _ w7 ⟨zi, rfl, hN, b7⟩
    obtain ⟨hz0, hzk, _⟩ := numC_rng hN (fun i _ => unhide HRG i)
    obtain ⟨zn, rfl⟩ : ∃ zn : Nat, zi = (zn : Int) := ⟨zi.toNat, by omega⟩
    have HA := hide (show GrB xs n (PntN S C xs n) w w7 (.returned (.tuple #[.slice (some ⟨g, 0, none⟩) n n, .int .i64 (zn : Int), .int .i64 0])) from
      ⟨(unhide HB5).trans (((unhide HP).chg.below (unhide HB5).size (fun j hj e => by have := unhide HLT; omega)).trans (b7.mono (Nat.le_trans (unhide HB5).size (unhide HP).chg.size))), fun _ => ⟨g, cs, zn, rfl, (unhide HP).pnt, hN, (unhide HP).row.below b7, by have := unhide HLT; omega⟩, fun hno => absurd (unhide HO) hno⟩)
    clear KN hN b7 hz0 hzk
    go_wp2_with fail
    refine bodyPost_ret (by simp [results, Tryz.results18, go_sem]; try rfl) rfl ?_
    exact unhide HA
set_option maxRecDepth 100000 in
set_option maxHeartbeats 16000000 in
theorem cGreedy_st (k : Int) (G G1 G3 : Nat) (wd : Bool) (R width m : Nat) (S C : List Int) (a : Option Addr) (n c : Nat) (xs : List Int) (a1 a2 : Option Addr) (n1 c1 n2 c2 : Nat) (st cols : List Int) (w : World) (h1 : SlI w a1 n1 c1 st) (h2 : SlI w a2 n2 c2 cols) (h3 : SlI w a n c xs) (hn : n ≤ 17592186044000) (hbs : S.length ≤ 17592186044000) (hbc : C.length ≤ 17592186044000) (hm : MayP (m : Int) (m : Int) S C) (hT : ∀ W, SlI W a1 n1 c1 st → SlI W a2 n2 c2 cols → Calls Tryz.prog 34 #[.int .i64 k, patV (R : Int) (width : Int) a1 n1 c1 a2 n2 c2] W fun e w' => TkP W w' e G G1 102 G3 wd R width a1 n1 c1 a2 n2 c2 m S C) :
    Calls Tryz.prog 18 #[.int .i64 k, patV (R : Int) (width : Int) a1 n1 c1 a2 n2 c2, .slice a n c] w fun e w' => GrB xs m (PntI S C xs m) w w' e := by
  have hm8 : m ≤ 128 := by have := hm.head.fit; omega
  obtain ⟨ok, hok⟩ := truth (IsOrd xs m)
  obtain ⟨wb, hwb⟩ : ∃ x, w.alloc (.cells #[.int .i64 (R : Int), .int .i64 (width : Int), .slice a1 n1 c1, .slice a2 n2 c2] 25) = x := ⟨_, rfl⟩
  have bb : Below w.heap.size w wb := by rw [← hwb]; exact (Below.refl _ _).alloc (Nat.le_refl _) _
  have hT0 := BoxP.made w #[.int .i64 (R : Int), .int .i64 (width : Int), .slice a1 n1 c1, .slice a2 n2 c2] 25
  rw [hwb] at hT0
  have p0 := (hT0.all 0 _ rfl).1
  have p1 := (hT0.all 1 _ rfl).1
  have p2 := (hT0.all 2 _ rfl).1
  have p3 := (hT0.all 3 _ rfl).1
  have KT := hide (hT wb (h1.below bb) (h2.below bb))
  unfold patV at KT
  have HB := hide bb
  have HT0 := hide hT0
  have HX := hide h3
  have HM := hide hm
  have HOK := hide (show TruQ ok (IsOrd xs m) from hok)
  clear hT0 bb h1 h2 hT h3 hm hok
  unfold patV
  go_enter Tryz.func18, Tryz.ntmps18
  go_wp2_with fail
  refine (unhide KT).mono ?_
  rintro _ w2 ⟨x, d, y, z, rfl, hS2, hC2, b2⟩
  unfold tkV
  clear p0 p1 p2 p3 KT
  try dsimp only
  repeat ((fail_if_success (with_reducible (show Code.wp _ _ _ _ (World.alloc w2 (Obj.cells #[_, _, _, _, _, _, _, _, _, _, _, _, .slice y C.length z] _))))); (first | go_values | go_skip | go_guarded | go_step | go_upon | go_back))
  have hR := BoxP.made w2 #[(.func (.func G) #[] #[]), (.func (.func G1) #[] #[]), (.func (.func 102) #[] #[]), (.func (.func G3) #[] #[]), (.bool wd), .int .i64 (R : Int), .int .i64 (width : Int), .slice a1 n1 c1, .slice a2 n2 c2, .int .i64 (m : Int), .int .i64 (m : Int), .slice x S.length d, .slice y C.length z] 80
  have br : Below w2.heap.size w2 (w2.alloc (.cells #[(.func (.func G) #[] #[]), (.func (.func G1) #[] #[]), (.func (.func 102) #[] #[]), (.func (.func G3) #[] #[]), (.bool wd), .int .i64 (R : Int), .int .i64 (width : Int), .slice a1 n1 c1, .slice a2 n2 c2, .int .i64 (m : Int), .int .i64 (m : Int), .slice x S.length d, .slice y C.length z] 80)) := (Below.refl _ _).alloc (Nat.le_refl _) _
  have hb3 := ((unhide HB).trans (b2.mono (unhide HB).size)).trans (br.mono (Nat.le_trans (unhide HB).size b2.size))
  have HSC := hide (And.intro (hS2.below br) (hC2.below br))
  have HT3 := hide (((unhide HT0).below b2).below br)
  clear b2 br hS2 hC2
  generalize w2.alloc (.cells #[(.func (.func G) #[] #[]), (.func (.func G1) #[] #[]), (.func (.func 102) #[] #[]), (.func (.func G3) #[] #[]), (.bool wd), .int .i64 (R : Int), .int .i64 (width : Int), .slice a1 n1 c1, .slice a2 n2 c2, .int .i64 (m : Int), .int .i64 (m : Int), .slice x S.length d, .slice y C.length z] 80) = w3 at *
  have s0 := (hR.all 0 _ rfl).1
  have s1 := (hR.all 1 _ rfl).1
  have s2 := (hR.all 2 _ rfl).1
  have s3 := (hR.all 3 _ rfl).1
  have s4 := (hR.all 4 _ rfl).1
  have s5 := (hR.all 5 _ rfl).1
  have s6 := (hR.all 6 _ rfl).1
  have s7 := (hR.all 7 _ rfl).1
  have s8 := (hR.all 8 _ rfl).1
  have s9 := (hR.all 9 _ rfl).1
  have s10 := (hR.all 10 _ rfl).1
  have s11 := (hR.all 11 _ rfl).1
  have s12 := (hR.all 12 _ rfl).1
  have HB3 := hide hb3
  have HR := hide hR
  have KO := hide (cisOrder_any a n c xs m w3 ((unhide HX).below hb3) (by omega) hm8 ok (unhide HOK))
  clear hR hb3
  go_wp2_with fail
  refine (unhide KO).mono ?_
  rintro _ w4 ⟨rfl, b4⟩
  have hR4 := (unhide HR).below b4
  have hb4 := (unhide HB3).trans (b4.mono (unhide HB3).size)
  have HSC4 := hide (And.intro ((unhide HSC).1.below b4) ((unhide HSC).2.below b4))
  have HB4 := hide hb4
  clear KO b4 s0 s1 s2 s3 s4 s5 s6 s7 s8 s9 s10 s11 s12
  have s0 := (hR4.all 0 _ rfl).1
  have s1 := (hR4.all 1 _ rfl).1
  have s2 := (hR4.all 2 _ rfl).1
  have s3 := (hR4.all 3 _ rfl).1
  have s4 := (hR4.all 4 _ rfl).1
  have s5 := (hR4.all 5 _ rfl).1
  have s6 := (hR4.all 6 _ rfl).1
  have s7 := (hR4.all 7 _ rfl).1
  have s8 := (hR4.all 8 _ rfl).1
  have s9 := (hR4.all 9 _ rfl).1
  have s10 := (hR4.all 10 _ rfl).1
  have s11 := (hR4.all 11 _ rfl).1
  have s12 := (hR4.all 12 _ rfl).1
  cases ok
  · clear hR4 hb4
    go_wp2_with fail
    refine bodyPost_ret (by simp [results, Tryz.results18, go_sem]; try rfl) rfl ?_
    exact ⟨unhide HB4, fun ho => absurd (Iff.mpr (unhide HOK) ho) (by decide), fun _ => rfl⟩
  · have ho : IsOrd xs m := Iff.mp (unhide HOK) rfl
    have hnm : n = m := by have := (unhide HX).len; have := ho.1; omega
    subst hnm
    have HO := hide ho
    clear hR4 hb4 ho
    go_wp2_with fail
    refine (cnewBrush_gen _ _ _ _ wd R width n a1 a2 x y n1 c1 n2 c2 S.length d C.length z w4 hm8).mono ?_
    rintro _ w5 ⟨X, g, h, rfl, hX, hg5, hh5, hlt5, b5⟩
    have hs1 := (unhide HSC4).1
    have hs2 := (unhide HSC4).2
    have hs3 := (unhide HX).below (unhide HB4)
    have hBr : BrI w5 X n _ x S.length d y C.length z g h 1 (fun _ => -1) (fun _ => 0) S C := ⟨hX, rfl, rfl, rfl, rfl, rfl, rfl, rfl, hg5, hh5, hs1.below b5, hs2.below b5, fun t ht hne => by have := hs1.block_lt hne t ht; omega, fun t ht hne => by have := hs2.block_lt hne t ht; omega, by omega⟩
    have KP := hide (cpaint_star X n _ x S.length d y C.length z g h (fun _ => 0) S C a n c xs w5 hBr (unhide HM) hbs hbc (fun j _ => by omega) rfl (hs3.below b5) (Nat.le_refl _) (unhide HO).2.rng (fun t ht hne => by have := hs3.block_lt hne t ht; omega))
    have HB5 := hide ((unhide HB4).trans (b5.mono (unhide HB4).size))
    have HLT := hide (And.intro (unhide HB4).size hlt5)
    clear hX hg5 hh5 hlt5 b5 hs1 hs2 hs3 hBr s0 s1 s2 s3 s4 s5 s6 s7 s8 s9 s10 s11 s12
    go_wp2_with fail
    refine (unhide KP).mono ?_
    rintro _ w6 ⟨cs, hP⟩
    have e6 := hP.ret
    subst e6
    have hrg := PntI.rng (unhide HM) (unhide HO).2.rng (Nat.le_refl _) hP.pnt
    have KN := hide (cnumber_any (some ⟨g, 0, none⟩) n n (csL cs n) w6 (hP.row.sli hm8) hm8 (fun i hi => by rw [csL_get hi]; have := hrg i; omega) (fun e => by cases e))
    have HP := hide hP
    have HRG := hide hrg
    clear KP hP hrg
    go_wp2_with fail
    refine (unhide KN).mono ?_
    rintro _ w7 ⟨zi, rfl, hN, b7⟩
    obtain ⟨hz0, hzk, _⟩ := numC_rng hN (fun i _ => unhide HRG i)
    obtain ⟨zn, rfl⟩ : ∃ zn : Nat, zi = (zn : Int) := ⟨zi.toNat, by omega⟩
    have HA := hide (show GrB xs n (PntI S C xs n) w w7 (.returned (.tuple #[.slice (some ⟨g, 0, none⟩) n n, .int .i64 (zn : Int), .int .i64 0])) from
      ⟨(unhide HB5).trans (((unhide HP).chg.below (unhide HB5).size (fun j hj e => by have := unhide HLT; omega)).trans (b7.mono (Nat.le_trans (unhide HB5).size (unhide HP).chg.size))), fun _ => ⟨g, cs, zn, rfl, (unhide HP).pnt, hN, (unhide HP).row.below b7, by have := unhide HLT; omega⟩, fun hno => absurd (unhide HO) hno⟩)
    clear KN hN b7 hz0 hzk
    go_wp2_with fail
    refine bodyPost_ret (by simp [results, Tryz.results18, go_sem]; try rfl) rfl ?_
    exact unhide HA
end Go.Proofs.YtgjokididdffhaaGreat
