/-
  COLOURS: colour.marksOf, newBrush: contracts.
-/
import Derived.Test.YtmlodfgpedoloaaGreatCh2
import Derived.Test.YtmlodfgpedoloaaGreatCh5
import Derived.Test.YtmlodfgpedoloaaGreatCi6
import Derived.Test.YtmlodfgpedoloaaGreatCi3
namespace Go.Proofs.YtmlodfgpedoloaaGreat
open Go.RowKit Go.Deep
set_option linter.unusedVariables false

set_option maxRecDepth 100000 in
set_option maxHeartbeats 8000000 in
/-- colour.marksOf. -/
theorem cmarksOf_any (n : Nat) (w : World) (hn : n ≤ 128) :
    Calls Tryz.prog 35 #[.int .i64 (n : Int)] w fun e w' => ∃ g, w.heap.size ≤ g ∧ e = .returned (.agg #[.int .i64 1, .slice (some ⟨g, 0, none⟩) n n]) ∧ RoV w' g n (fun _ => .int .i64 0) ∧ g < w'.heap.size ∧ Below w.heap.size w w' := by
  have hO0 := BoxP.made w #[.int .i64 0, .slice none 0 0] 93
  obtain ⟨wo, hwo⟩ : ∃ x, w.alloc (.cells #[.int .i64 0, .slice none 0 0] 93) = x := ⟨_, rfl⟩
  have bo : Below w.heap.size w wo := by rw [← hwo]; exact (Below.refl _ _).alloc (Nat.le_refl _) _
  rw [hwo] at hO0
  have hmk := make_intsR n (by omega) wo
  have hR := RoV.made wo n 3 (.int .i64 0)
  obtain ⟨wm, hwm⟩ : ∃ x, wo.alloc (.cells (madeCells #[.int .i64 0] n) 3) = x := ⟨_, rfl⟩
  have bm : Below wo.heap.size wo wm := by rw [← hwm]; exact (Below.refl _ _).alloc (Nat.le_refl _) _
  have hgl : wo.heap.size < wm.heap.size := by rw [← hwm]; simp
  rw [hwm] at hR hmk
  have hO := hO0.below bm
  have q0 := (hO.all 0 _ rfl).1
  have q1 := (hO.all 1 _ rfl).1
  have r0 := (hO.all 0 _ rfl).2
  have r1 := (hO.all 1 _ rfl).2
  have HO := hide hO
  have HR := hide hR
  have HB := hide (bo.trans (bm.mono bo.size))
  have HL := hide (And.intro hO0.lt hgl)
  clear hO0 bo bm hR hO hgl
  go_enter Tryz.func35, Tryz.ntmps35
  go_wp2_with fail
  have hf := ((unhide HO).put 0 (.int .i64 1)).put 1 (.slice (some ⟨wo.heap.size, 0, none⟩) n n)
  have t0 := (hf.all 0 _ rfl).1
  have t1 := (hf.all 1 _ rfl).1
  have cc : Chg (fun j => j = w.heap.size) wm ((wm.setCell ⟨w.heap.size, 0, none⟩ (.int .i64 1)).setCell ⟨w.heap.size, 1, none⟩ (.slice (some ⟨wo.heap.size, 0, none⟩) n n)) := (Chg.of_set (S := fun j => j = w.heap.size) _ _ _ _ rfl).trans (Chg.of_set (S := fun j => j = w.heap.size) _ _ _ _ rfl)
  generalize (wm.setCell ⟨w.heap.size, 0, none⟩ (.int .i64 1)).setCell ⟨w.heap.size, 1, none⟩ (.slice (some ⟨wo.heap.size, 0, none⟩) n n) = wf at *
  refine bodyPost_ret (by simp [results, Tryz.results35, go_sem, t0, t1]; try rfl) rfl ?_
  have hl := unhide HL
  exact ⟨wo.heap.size, by omega, rfl, (unhide HR).chg cc (by omega), Nat.lt_of_lt_of_le hl.2 cc.size, (unhide HB).trans (cc.below (unhide HB).size (fun j hj e => by omega))⟩
theorem BoxP.front (w : World) (A : Array Value) (t : TypeId) (vs : List Value) (h0 : 0 < A.size) (h : ∀ (k : Nat) (v : Value), vs[k]? = some v → A[k]? = some v) : BoxP (w.alloc (.cells A t)) w.heap.size vs := by
  refine ⟨fun q u hq => ?_, by simp⟩
  have hq' := h q u hq
  exact ⟨by simp [hq'], by simp⟩
theorem zc_brush : 15 < Tryz.zeroCells150.size := by
  have h : Tryz.zeroCells150[15]? = some (.slice none 0 0) := by kernel_rfl
  exact (Array.getElem?_eq_some_iff.1 h).1
theorem brush_front (x0 x1 x2 x3 x4 x5 x6 x7 x8 x9 xa xb xc xd xe xf : Value) (k : Nat) (v : Value) (hk : [x0, x1, x2, x3, x4, x5, x6, x7, x8, x9, xa, xb, xc, xd, xe, xf][k]? = some v) : ((((((((((((((((Tryz.zeroCells150.setIfInBounds 0 x0).setIfInBounds 1 x1).setIfInBounds 2 x2).setIfInBounds 3 x3).setIfInBounds 4 x4).setIfInBounds 5 x5).setIfInBounds 6 x6).setIfInBounds 7 x7).setIfInBounds 8 x8).setIfInBounds 9 x9).setIfInBounds 10 xa).setIfInBounds 11 xb).setIfInBounds 12 xc).setIfInBounds 13 xd).setIfInBounds 14 xe).setIfInBounds 15 xf)[k]? = some v := by
  have hz := zc_brush
  have hk16 : k < 16 := by have := (List.getElem?_eq_some_iff.1 hk).1; simpa using this
  simp only [Array.getElem?_setIfInBounds, Array.size_setIfInBounds]
  have hc : k = 0 ∨ k = 1 ∨ k = 2 ∨ k = 3 ∨ k = 4 ∨ k = 5 ∨ k = 6 ∨ k = 7 ∨ k = 8 ∨ k = 9 ∨ k = 10 ∨ k = 11 ∨ k = 12 ∨ k = 13 ∨ k = 14 ∨ k = 15 := by omega
  rcases hc with rfl | rfl | rfl | rfl | rfl | rfl | rfl | rfl | rfl | rfl | rfl | rfl | rfl | rfl | rfl | rfl <;> (simp at hk; subst hk; simp; try omega)
/-- A brush in hand: its sixteen cells ahead of the forest. -/
def bruL (f0 f1 f2 f3 : Value) (wd : Bool) (R width : Nat) (a1 : Option Addr) (n1 c1 : Nat) (a2 : Option Addr) (n2 c2 : Nat) (b1 : Option Addr) (m1 d1 : Nat) (b2 : Option Addr) (m2 d2 : Nat) (g h cnt : Nat) : List Value := [f0, f1, f2, f3, .bool wd, .int .i64 (R : Int), .int .i64 (width : Int), .slice a1 n1 c1, .slice a2 n2 c2, .int .i64 (R : Int), .int .i64 (R : Int), .slice b1 m1 d1, .slice b2 m2 d2, .slice (some ⟨g, 0, none⟩) R R, .int .i64 (cnt : Int), .slice (some ⟨h, 0, none⟩) R R]
set_option maxRecDepth 100000 in
set_option maxHeartbeats 16000000 in
/-- colour.newBrush. -/
theorem cnewBrush_any (f0 f1 f2 f3 : Value) (wd : Bool) (R width : Nat) (a1 a2 b1 b2 : Option Addr) (n1 c1 n2 c2 m1 d1 m2 d2 : Nat) (w : World) (hR : R ≤ 128) :
    Calls Tryz.prog 46 #[.agg #[f0, f1, f2, f3, .bool wd, .int .i64 (R : Int), .int .i64 (width : Int), .slice a1 n1 c1, .slice a2 n2 c2, .int .i64 (R : Int), .int .i64 (R : Int), .slice b1 m1 d1, .slice b2 m2 d2]] w fun e w' => ∃ X g h, e = .returned (.pointer (some ⟨X, 0, none⟩)) ∧ BoxP w' X (bruL f0 f1 f2 f3 wd R width a1 n1 c1 a2 n2 c2 b1 m1 d1 b2 m2 d2 g h 1) ∧ RoV w' g R (fun _ => .int .i64 (-1)) ∧ RoV w' h R (fun _ => .int .i64 0) ∧ (w.heap.size ≤ g ∧ g < h ∧ h < X) ∧ Below w.heap.size w w' := by
  obtain ⟨wb, hwb⟩ : ∃ x, w.alloc (.cells #[f0, f1, f2, f3, .bool wd, .int .i64 (R : Int), .int .i64 (width : Int), .slice a1 n1 c1, .slice a2 n2 c2, .int .i64 (R : Int), .int .i64 (R : Int), .slice b1 m1 d1, .slice b2 m2 d2] 57) = x := ⟨_, rfl⟩
  have bb : Below w.heap.size w wb := by rw [← hwb]; exact (Below.refl _ _).alloc (Nat.le_refl _) _
  have hT := BoxP.made w #[f0, f1, f2, f3, .bool wd, .int .i64 (R : Int), .int .i64 (width : Int), .slice a1 n1 c1, .slice a2 n2 c2, .int .i64 (R : Int), .int .i64 (R : Int), .slice b1 m1 d1, .slice b2 m2 d2] 57
  rw [hwb] at hT
  have p0 := (hT.all 0 _ rfl).1
  have p1 := (hT.all 1 _ rfl).1
  have p2 := (hT.all 2 _ rfl).1
  have p3 := (hT.all 3 _ rfl).1
  have p4 := (hT.all 4 _ rfl).1
  have p5 := (hT.all 5 _ rfl).1
  have p6 := (hT.all 6 _ rfl).1
  have p7 := (hT.all 7 _ rfl).1
  have p8 := (hT.all 8 _ rfl).1
  have p9 := (hT.all 9 _ rfl).1
  have p10 := (hT.all 10 _ rfl).1
  have p11 := (hT.all 11 _ rfl).1
  have p12 := (hT.all 12 _ rfl).1
  have HT := hide hT
  have HB := hide bb
  clear hT bb
  go_enter Tryz.func46, Tryz.ntmps46
  go_wp2_with fail
  go_region_held3 (fun w' => w'.cell? ⟨w.heap.size, 0, none⟩ = some (f0) ∧ w'.cell? ⟨w.heap.size, 1, none⟩ = some (f1) ∧ w'.cell? ⟨w.heap.size, 2, none⟩ = some (f2) ∧ w'.cell? ⟨w.heap.size, 3, none⟩ = some (f3) ∧ w'.cell? ⟨w.heap.size, 4, none⟩ = some (.bool wd) ∧ w'.cell? ⟨w.heap.size, 5, none⟩ = some (.int .i64 (R : Int)) ∧ w'.cell? ⟨w.heap.size, 6, none⟩ = some (.int .i64 (width : Int)) ∧ w'.cell? ⟨w.heap.size, 7, none⟩ = some (.slice a1 n1 c1) ∧ w'.cell? ⟨w.heap.size, 8, none⟩ = some (.slice a2 n2 c2) ∧ w'.cell? ⟨w.heap.size, 9, none⟩ = some (.int .i64 (R : Int)) ∧ w'.cell? ⟨w.heap.size, 10, none⟩ = some (.int .i64 (R : Int)) ∧ w'.cell? ⟨w.heap.size, 11, none⟩ = some (.slice b1 m1 d1) ∧ w'.cell? ⟨w.heap.size, 12, none⟩ = some (.slice b2 m2 d2)) (first | (exact ⟨k0, k1, k2, k3, k4, k5, k6, k7, k8, k9, k10, k11, k12⟩) | go_keep)
    (first
      | (go_at_call 76; refine (srepeat_any ⟨wb.heap.size, 0, none⟩ 1 (-1) R _ hR (by simp)).mono ?_; rintro _ w3 ⟨g, hgn, rfl, hgb, b3⟩; have bw3 : Below wb.heap.size wb w3 := (((Below.refl _ _).alloc (Nat.le_refl _) _).drew).trans (b3.mono (by simp)); have hT3 := (unhide HT).below bw3; have k0 := (hT3.all 0 _ rfl).1; have k1 := (hT3.all 1 _ rfl).1; have k2 := (hT3.all 2 _ rfl).1; have k3 := (hT3.all 3 _ rfl).1; have k4 := (hT3.all 4 _ rfl).1; have k5 := (hT3.all 5 _ rfl).1; have k6 := (hT3.all 6 _ rfl).1; have k7 := (hT3.all 7 _ rfl).1; have k8 := (hT3.all 8 _ rfl).1; have k9 := (hT3.all 9 _ rfl).1; have k10 := (hT3.all 10 _ rfl).1; have k11 := (hT3.all 11 _ rfl).1; have k12 := (hT3.all 12 _ rfl).1; have HB3 := hide bw3; have HGB := hide (And.intro hgb (show wb.heap.size ≤ g by simp at hgn; omega)); have HT3 := hide hT3; clear hgb b3 bw3 hT3 hgn)
      | (go_at_call 35; refine (cmarksOf_any R _ hR).mono ?_; rintro _ w4 ⟨h, hhn, rfl, hhr, hhl, b4⟩; clear k0 k1 k2 k3 k4 k5 k6 k7 k8 k9 k10 k11 k12; have hT4 := (unhide HT3).below b4; have k0 := (hT4.all 0 _ rfl).1; have k1 := (hT4.all 1 _ rfl).1; have k2 := (hT4.all 2 _ rfl).1; have k3 := (hT4.all 3 _ rfl).1; have k4 := (hT4.all 4 _ rfl).1; have k5 := (hT4.all 5 _ rfl).1; have k6 := (hT4.all 6 _ rfl).1; have k7 := (hT4.all 7 _ rfl).1; have k8 := (hT4.all 8 _ rfl).1; have k9 := (hT4.all 9 _ rfl).1; have k10 := (hT4.all 10 _ rfl).1; have k11 := (hT4.all 11 _ rfl).1; have k12 := (hT4.all 12 _ rfl).1; have HB4 := hide b4; have HHR := hide (And.intro hhr (And.intro hhn hhl)); clear hhr hhn hhl b4 hT4))
  clear k0 k1 k2 k3 k4 k5 k6 k7 k8 k9 k10 k11 k12
  have hbx := BoxP.front w4 _ 150 (bruL f0 f1 f2 f3 wd R width a1 n1 c1 a2 n2 c2 b1 m1 d1 b2 m2 d2 g h 1) (by simp only [Array.size_setIfInBounds]; have := zc_brush; omega) (fun k v hk => brush_front f0 f1 f2 f3 (.bool wd) (.int .i64 (R : Int)) (.int .i64 (width : Int)) (.slice a1 n1 c1) (.slice a2 n2 c2) (.int .i64 (R : Int)) (.int .i64 (R : Int)) (.slice b1 m1 d1) (.slice b2 m2 d2) (.slice (some ⟨g, 0, none⟩) R R) (.int .i64 1) (.slice (some ⟨h, 0, none⟩) R R) k v hk)
  generalize hZ : ((((((((((((((((Tryz.zeroCells150.setIfInBounds 0 f0).setIfInBounds 1 f1).setIfInBounds 2 f2).setIfInBounds 3 f3).setIfInBounds 4 (Value.bool wd)).setIfInBounds 5 (Value.int IntKind.i64 (R : Int))).setIfInBounds 6 (Value.int IntKind.i64 (width : Int))).setIfInBounds 7 (Value.slice a1 n1 c1)).setIfInBounds 8 (Value.slice a2 n2 c2)).setIfInBounds 9 (Value.int IntKind.i64 (R : Int))).setIfInBounds 10 (Value.int IntKind.i64 (R : Int))).setIfInBounds 11 (Value.slice b1 m1 d1)).setIfInBounds 12 (Value.slice b2 m2 d2)).setIfInBounds 13 (Value.slice (some ⟨g, 0, none⟩) R R)).setIfInBounds 14 (Value.int IntKind.i64 1)).setIfInBounds 15 (Value.slice (some ⟨h, 0, none⟩) R R)) = ZZ at *
  have HX := hide hbx
  clear hbx hZ
  go_wp2_with fail
  try go_ret
  have b4a : Below w4.heap.size w4 (w4.alloc (.cells ZZ 150)) := (Below.refl _ _).alloc (Nat.le_refl _) _
  have h3 := (unhide HB).trans ((unhide HB3).mono (unhide HB).size)
  have h4 := h3.trans ((unhide HB4).mono h3.size)
  have hg3 := (Array.getElem?_eq_some_iff.1 (unhide HGB).1).1
  have hh := (unhide HHR).2
  refine ⟨w4.heap.size, g, h, rfl, unhide HX, ((RoV.rep (unhide HGB).1).below (unhide HB4)).below b4a, (unhide HHR).1.below b4a, ⟨?_, ?_, hh.2⟩, h4.trans (b4a.mono h4.size)⟩
  · have := (unhide HGB).2; have := (unhide HB).size; omega
  · omega
end Go.Proofs.YtmlodfgpedoloaaGreat

namespace Go.Proofs.YtmlodfgpedoloaaGreat
open Go.RowKit Go.Deep
set_option linter.unusedVariables false

/-- One more than how many near things stand ahead of a thing. -/
noncomputable def bnF (S C : List Int) (xs : List Int) (m : Nat) (wd : Bool) (v : Nat) : Nat := 1 + cnP (fun j => NeaC S C xs m wd v (xs.getD j 0).toNat) (posI xs m v).toNat
set_option maxRecDepth 100000 in
set_option maxHeartbeats 16000000 in
/-- colour.task.bound. -/
theorem cbound_any (G G1 G2 G3 : Nat) (wd : Bool) (R width : Nat) (a1 : Option Addr) (n1 c1 : Nat) (a2 : Option Addr) (n2 c2 m : Nat) (x : Option Addr) (sl d : Nat) (y : Option Addr) (cl z : Nat) (S C : List Int) (a : Option Addr) (c : Nat) (xs : List Int) (w : World)
    (hS : SlI w x sl d S) (hC : SlI w y cl z C) (hb1 : sl ≤ 17592186044000) (hb2 : cl ≤ 17592186044000) (hm : MayP (m : Int) (m : Int) S C) (hx : SlI w a m c xs) (ho : OrdTo xs m m) :
    Calls Tryz.prog 15 #[tkV G G1 G2 G3 wd R width a1 n1 c1 a2 n2 c2 m x sl d y cl z, .slice a m c] w fun e w' => ∃ q : Nat, e = .returned (.int .i64 (q : Int)) ∧ LgT (bnF S C xs m wd) m q ∧ Below w.heap.size w w' := by
  have hm8 : m ≤ 128 := by have := hm.head.fit; omega
  unfold tkV
  obtain ⟨wA, hwA⟩ : ∃ q, w.alloc (.cells #[(.func (.func G) #[] #[]), (.func (.func G1) #[] #[]), (.func (.func G2) #[] #[]), (.func (.func G3) #[] #[]), (.bool wd), .int .i64 (R : Int), .int .i64 (width : Int), .slice a1 n1 c1, .slice a2 n2 c2, .int .i64 (m : Int), .int .i64 (m : Int), .slice x sl d, Value.slice y cl z] 57) = q := ⟨_, rfl⟩
  have bA : Below w.heap.size w wA := by rw [← hwA]; exact (Below.refl _ _).alloc (Nat.le_refl _) _
  have xA := BoxP.made w #[(.func (.func G) #[] #[]), (.func (.func G1) #[] #[]), (.func (.func G2) #[] #[]), (.func (.func G3) #[] #[]), (.bool wd), .int .i64 (R : Int), .int .i64 (width : Int), .slice a1 n1 c1, .slice a2 n2 c2, .int .i64 (m : Int), .int .i64 (m : Int), .slice x sl d, Value.slice y cl z] 57
  rw [hwA] at xA
  have KI := hide (oinv_yes a m c xs wA (hx.below bA) hm8 ho)
  have HXA := hide xA
  have HBA := hide bA
  have HSC := hide (And.intro hS hC)
  have HM := hide hm
  have HOR := hide ho
  clear xA bA hS hC hm hx ho
  go_enter Tryz.func15, Tryz.ntmps15
  go_wp2_with fail
  refine (unhide KI).mono ?_
  rintro _ w2 ⟨g, hg, rfl, hpl, b2⟩
  have hX2 := (unhide HXA).below b2
  have t9 := (hX2.all 9 _ rfl).1
  have HX2 := hide hX2
  have HPL := hide hpl
  have HB2 := hide ((unhide HBA).trans (b2.mono (unhide HBA).size))
  have HA2 := hide (And.intro (unhide HXA).lt b2.size)
  have HG := hide (show w.heap.size < g ∧ g < w2.heap.size ∨ m = 0 from by
    rcases Nat.eq_zero_or_pos m with e | e
    · exact .inr e
    · left; have := (unhide HXA).lt; have := World.block_lt_of_cell? _ _ (hpl 0 e).1; simp at this; omega)
  clear KI hX2 hpl b2 hg
  go_wp2_with fail
  refine (cmarksOf_any m w2 hm8).mono ?_
  rintro _ w3 ⟨h, hh, rfl, hls, hlh, b3⟩
  try dsimp only
  repeat ((fail_if_success (with_reducible (show Code.wp _ _ _ _ (World.alloc w3 (Obj.cells #[_, .slice (some ⟨h, 0, none⟩) m m] _))))); (first | go_values | go_skip | go_guarded | go_step | go_upon | go_back))
  have xM := BoxP.made w3 #[.int .i64 1, .slice (some ⟨h, 0, none⟩) m m] 93
  have bM : Below w3.heap.size w3 (w3.alloc (.cells #[.int .i64 1, .slice (some ⟨h, 0, none⟩) m m] 93)) := (Below.refl _ _).alloc (Nat.le_refl _) _
  obtain ⟨X, hX⟩ : ∃ X, w3.heap.size = X := ⟨_, rfl⟩
  have b23 := b3.trans (bM.mono b3.size)
  have HX4 := hide ((unhide HX2).below b23)
  have HPL4 := hide ((unhide HPL).below b23)
  have HLS4 := hide (hls.below bM)
  have HB4 := hide ((unhide HB2).trans (b23.mono (unhide HB2).size))
  have HHX := hide (show w2.heap.size ≤ h ∧ h < X by omega)
  have hbm := bM.size
  clear hls hlh hh b3 b23 t9
  generalize w3.alloc (.cells #[.int .i64 1, .slice (some ⟨h, 0, none⟩) m m] 93) = w4 at *
  rw [hX] at xM
  have HXM := hide xM
  have t9 := ((unhide HX4).all 9 _ rfl).1
  clear bM xM hbm
  go_wp2_with fail
  go_loopw [22, 8] (fun kv mv wr => ∃ (k q : Nat), k ≤ m ∧ kv = .int .i64 (k : Int) ∧ mv = .int .i64 (q : Int) ∧ q ≤ 129 ∧ Hid (LgT (bnF S C xs m wd) k q) ∧ Hid (∃ ls : Nat → Int, RoV wr h m (fun i => .int .i64 (ls i)) ∧ (∀ i, i < m → ls i ≤ ((1 + k : Nat) : Int)) ∧ (wr.cell? ⟨X, 0, none⟩ = some (.int .i64 ((1 + k : Nat) : Int)) ∧ wr.frozen? ⟨X, 0, none⟩ = false) ∧ wr.cell? ⟨X, 0 + 1, none⟩ = some (.slice (some ⟨h, 0, none⟩) m m) ∧ Chg (fun j => j = h ∨ j = X) w4 wr)) (fun kv _ _ => m - (intOf kv).toNat)
  case atStart => exact ⟨0, 0, Nat.zero_le _, rfl, rfl, by omega, hide ⟨fun i hi => absurd hi (Nat.not_lt_zero _), .inl rfl⟩, hide ⟨fun _ => 0, unhide HLS4, fun i _ => by show (0 : Int) ≤ _; omega, (unhide HXM).all 0 _ rfl, ((unhide HXM).all 1 _ rfl).1, Chg.refl _ _⟩⟩
  case round =>
    obtain ⟨k, q, hk, rfl, rfl, hq9, HG2, HJ⟩ := hrel
    by_cases hlt : k < m
    · have hlt' : (k : Int) < (m : Int) := by omega
      obtain ⟨ls, hls, hle, hk0, hk1, hch⟩ := unhide HJ
      have hT := (unhide HX4).chg hch (by have := unhide HHX; have := unhide HA2; omega)
      have hS := (unhide HSC).1
      have hC := (unhide HSC).2
      have hhx := unhide HHX
      have hb2s := (unhide HB2).size
      have KC := hide (ccount_any G G1 G2 G3 wd R width a1 n1 c1 a2 n2 c2 m x sl d y cl z S C xs k g h X 0 (1 + k) ls wr ((hS.below (unhide HB4)).chg hch (fun t ht hn e => by have := hS.block_lt hn t ht; omega)) ((hC.below (unhide HB4)).chg hch (fun t ht hn e => by have := hC.block_lt hn t ht; omega)) hb1 hb2 (unhide HM) (unhide HOR) hlt ((unhide HPL4).chg hch (by have := unhide HG; omega)) hls hk0 hk1 (by omega) (by have := unhide HG; omega) hle (fun t ht hn => by have := hS.block_lt hn t ht; omega) (fun t ht hn => by have := hC.block_lt hn t ht; omega))
      unfold tkV at KC
      have e0 := (hT.all 0 _ rfl).1
      have e1 := (hT.all 1 _ rfl).1
      have e2 := (hT.all 2 _ rfl).1
      have e3 := (hT.all 3 _ rfl).1
      have e4 := (hT.all 4 _ rfl).1
      have e5 := (hT.all 5 _ rfl).1
      have e6 := (hT.all 6 _ rfl).1
      have e7 := (hT.all 7 _ rfl).1
      have e8 := (hT.all 8 _ rfl).1
      have e9 := (hT.all 9 _ rfl).1
      have e10 := (hT.all 10 _ rfl).1
      have e11 := (hT.all 11 _ rfl).1
      have e12 := (hT.all 12 _ rfl).1
      have HCH := hide hch
      have hbn : bnF S C xs m wd k ≤ 129 := by
        unfold bnF
        have h1 := cnP_le (fun j => NeaC S C xs m wd k (xs.getD j 0).toNat) (posI xs m k).toNat
        obtain ⟨jv, hjv, _, ev⟩ := (unhide HOR).place hlt
        rw [ev] at h1 ⊢
        omega
      have HBN := hide (show bnF S C xs m wd k = 1 + cnP (fun j => NeaC S C xs m wd k (xs.getD j 0).toNat) (posI xs m k).toNat from rfl)
      have HNX := hide ((unhide HG2).next)
      clear hls hle hk0 hk1 hch hT hS hC hhx hb2s HJ
      go_wp2_with fail
      refine (unhide KC).mono ?_
      rintro _ w6 ⟨ls6, rfl, h61, h62, h63, h64, h65⟩
      obtain ⟨cq, hcq⟩ : ∃ cq, cnP (fun j => NeaC S C xs m wd k (xs.getD j 0).toNat) (posI xs m k).toNat = cq := ⟨_, rfl⟩
      rw [hcq]
      have hb1' := unhide HBN
      rw [hcq] at hb1'
      rw [hb1'] at HNX hbn
      obtain ⟨zz, hzz⟩ : ∃ zz : Nat, max q (1 + cq) = zz := ⟨_, rfl⟩
      rw [hzz] at HNX
      have hz9 : zz ≤ 129 := by omega
      have hw1 : IntKind.i64.wrap (1 + (cq : Int)) = 1 + (cq : Int) := by rw [wrap_i64n]; omega
      have hzi : max (q : Int) (1 + (cq : Int)) = (zz : Int) := by omega
      have HN6 := hide (show ∃ ls : Nat → Int, RoV w6 h m (fun i => .int .i64 (ls i)) ∧ (∀ i, i < m → ls i ≤ ((1 + (k + 1) : Nat) : Int)) ∧ (w6.cell? ⟨X, 0, none⟩ = some (.int .i64 ((1 + (k + 1) : Nat) : Int)) ∧ w6.frozen? ⟨X, 0, none⟩ = false) ∧ w6.cell? ⟨X, 0 + 1, none⟩ = some (.slice (some ⟨h, 0, none⟩) m m) ∧ Chg (fun j => j = h ∨ j = X) w4 w6 from ⟨ls6, h61, h62, h63, h64, (unhide HCH).trans h65⟩)
      clear KC h61 h62 h63 h64 h65 hcq hb1' hzz hbn
      go_wp2_with fail
      exact ⟨⟨k + 1, zz, by omega, by (first | rfl | go_num), by (first | rfl | simp [hzi]), hz9, HNX, HN6⟩, by simp [intOf]; omega⟩
    · obtain rfl : k = m := by omega
      have hlt' : ¬ (k : Int) < (k : Int) := by omega
      go_wp2_with fail
      try go_ret
      obtain ⟨ls, hls, hle, hk0, hk1, hch⟩ := unhide HJ
      exact ⟨q, rfl, unhide HG2, (unhide HB4).trans (hch.below (unhide HB4).size (fun j hj e => by have := unhide HHX; have := (unhide HB2).size; omega))⟩
end Go.Proofs.YtmlodfgpedoloaaGreat
