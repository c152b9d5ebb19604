/-
  rational.divide, Div: contracts.
-/
import Derived.Test.YtjjeinfoeipjnaaGreatDoorWja
namespace Go.Proofs.YtjjeinfoeipjnaaGreatDoor
open Go.RowKit Go.Deep
set_option linter.unusedVariables false

set_option maxHeartbeats 8000000 in
set_option maxRecDepth 100000 in
/-- rational.divide: multiply by the other number turned over. -/
theorem ratdivide_any (g1 g2 : Bool) (a1 b1 a2 b2 : Option Addr) (n1 c1 m1 d1 n2 c2 m2 d2 : Nat) (w : World) (ng : Bool) (zs us : List Nat) (er : Int)
    (hF : n2 ≠ 0 → ∀ W, Below w.heap.size w W → Calls Tryz.prog 30 #[ratV g1 a1 n1 c1 b1 m1 d1, ratV g2 b2 m2 d2 a2 n2 c2] W fun e w' => ResR W w' ng zs us er e) (hz : n2 = 0 → ng = false ∧ zs = [] ∧ us = [] ∧ er = 3) :
    Calls Tryz.prog 36 #[ratV g1 a1 n1 c1 b1 m1 d1, ratV g2 a2 n2 c2 b2 m2 d2] w fun e w' => ResR w w' ng zs us er e := by
  have bx := Box.made w g1 a1 n1 c1 b1 m1 d1
  obtain ⟨wa, hwa⟩ : ∃ wa, ratBox w g1 a1 n1 c1 b1 m1 d1 = wa := ⟨_, rfl⟩
  rw [hwa] at bx
  have by_ := Box.made wa g2 a2 n2 c2 b2 m2 d2
  obtain ⟨wb, hwb⟩ : ∃ wb, ratBox wa g2 a2 n2 c2 b2 m2 d2 = wb := ⟨_, rfl⟩
  rw [hwb] at by_
  obtain ⟨wo, hwo⟩ : ∃ x, wb.alloc (.cells #[.bool false, .slice none 0 0, .slice none 0 0] 25) = x := ⟨_, rfl⟩
  have hba : Below w.heap.size w wa := by rw [← hwa]; exact (Below.refl _ _).alloc (Nat.le_refl _) _
  have hbb : Below wa.heap.size wa wb := by rw [← hwb]; exact (Below.refl _ _).alloc (Nat.le_refl _) _
  have hbo : Below wb.heap.size wb wo := by rw [← hwo]; exact (Below.refl _ _).alloc (Nat.le_refl _) _
  have hO : Out wo wb.heap.size := by rw [← hwo]; exact Out.made wb
  have bx2 := (bx.keep hbb).keep hbo
  have by2 := by_.keep hbo
  have hB := (hba.trans (hbb.mono hba.size)).trans (hbo.mono (Nat.le_trans hba.size hbb.size))
  have Hwb := hide (show w.heap.size ≤ wb.heap.size from Nat.le_trans hba.size hbb.size)
  unfold ratBox at hwa hwb
  have p0 := bx2.d0
  have p1 := bx2.d1
  have p2 := bx2.d2
  have p3 := by2.d0
  have p4 := by2.d1
  have p5 := by2.d2
  have hoR : Out wo wa.heap.size := by
    have h0 := by2.lt
    refine ⟨fun i hi => ?_, fun i hi => ?_, h0⟩
    · match i, hi with
      | 0, _ => exact ⟨_, p3⟩
      | 1, _ => exact ⟨_, p4⟩
      | 2, _ => exact ⟨_, p5⟩
    · match i, hi with
      | 0, _ => rw [← hwo, ← hwb]; simp
      | 1, _ => rw [← hwo, ← hwb]; simp
      | 2, _ => rw [← hwo, ← hwb]; simp
  have hab : wa.heap.size < wb.heap.size := by_.lt
  have hne : w.heap.size ≠ wa.heap.size := Nat.ne_of_lt bx.lt
  have hwl : w.heap.size ≤ wa.heap.size := hba.size
  have KZ := isZero_any g2 a2 b2 n2 c2 m2 d2 wo
  have HBX := hide (And.intro bx2 (And.intro by2 (And.intro hoR (And.intro hO hB))))
  by_cases h0 : n2 = 0
  · obtain ⟨rfl, rfl, rfl, rfl⟩ := hz h0
    subst h0
    simp only [decide_true] at KZ
    have HKZ := hide KZ
    unfold ratV at HKZ ⊢
    clear KZ bx bx2 by_ by2 hba hbb hbo hB hO hF hz hoR
    go_enter Tryz.func36, Tryz.ntmps36
    go_wp2_with fail
    refine (unhide HKZ).mono ?_
    rintro _ wy ⟨rfl, bz⟩
    have hO3 := (unhide HBX).2.2.2.1.keep bz
    obtain ⟨i0, o0⟩ := hO3.cells 0 (by decide)
    obtain ⟨i1, o1⟩ := hO3.cells 1 (by decide)
    obtain ⟨i2, o2⟩ := hO3.cells 2 (by decide)
    have f0 := hO3.fz 0 (by decide)
    have f1 := hO3.fz 1 (by decide)
    have f2 := hO3.fz 2 (by decide)
    have H4 := hide (three_set wy wb.heap.size (.bool false) (.slice none 0 0) (.slice none 0 0) hO3.cells)
    have HBy := hide ((unhide HBX).2.2.2.2.trans (bz.mono (unhide HBX).2.2.2.2.size))
    clear hO3 bz HKZ HBX p0 p1 p2 p3 p4 p5
    go_wp2_with fail
    obtain ⟨t0, t1, t2, c4⟩ := unhide H4
    generalize ((wy.setCell ⟨wb.heap.size, 0, none⟩ (.bool false)).setCell ⟨wb.heap.size, 1, none⟩ (.slice none 0 0)).setCell ⟨wb.heap.size, 2, none⟩ (.slice none 0 0) = wk at *
    refine bodyPost_ret (by simp [results, Tryz.results36, go_sem, t0, t1, t2]; try rfl) rfl ?_
    exact ⟨_, rfl, none, 0, 0, none, 0, 0, rfl, sl_nil _, sl_nil _, newAt_nil _, newAt_nil _, (unhide HBy).trans (c4.below (unhide HBy).size (fun k hk => by have := unhide Hwb; omega))⟩
  · simp only [h0, decide_false] at KZ
    have HKZ := hide KZ
    have HF := hide (hF h0)
    unfold ratV at HKZ HF ⊢
    clear KZ bx bx2 by_ by2 hba hbb hbo hB hO hF hz hoR
    go_enter Tryz.func36, Tryz.ntmps36
    go_wp2_with fail
    refine (unhide HKZ).mono ?_
    rintro _ wz ⟨rfl, bz⟩
    have bX := (unhide HBX).1.keep bz
    have bY := (unhide HBX).2.1.keep bz
    have oY := (unhide HBX).2.2.1.keep bz
    have oO := (unhide HBX).2.2.2.1.keep bz
    have q0 := bX.d0
    have q1 := bX.d1
    have q2 := bX.d2
    have q3 := bY.d0
    have q4 := bY.d1
    have q5 := bY.d2
    have z1 := oY.fz 1 (by decide)
    have z2 := oY.fz 2 (by decide)
    have hcs : Chg (fun j => j = wa.heap.size) wz ((wz.setCell ⟨wa.heap.size, 1, none⟩ (.slice b2 m2 d2)).setCell ⟨wa.heap.size, 2, none⟩ (.slice a2 n2 c2)) := (Chg.of_set (S := fun j => j = wa.heap.size) _ _ _ _ rfl).trans (Chg.of_set (S := fun j => j = wa.heap.size) _ _ _ _ rfl)
    have hBz := (unhide HBX).2.2.2.2.trans (bz.mono (unhide HBX).2.2.2.2.size)
    have hBs := hBz.trans (hcs.below hBz.size (fun k hk h => by omega))
    have hOs : Out ((wz.setCell ⟨wa.heap.size, 1, none⟩ (.slice b2 m2 d2)).setCell ⟨wa.heap.size, 2, none⟩ (.slice a2 n2 c2)) wb.heap.size := by
      refine ⟨fun i hi => ?_, fun i hi => ?_, Nat.lt_of_lt_of_le oO.lt hcs.size⟩
      · obtain ⟨v, hv⟩ := oO.cells i hi
        exact ⟨v, hcs.cell (show wb.heap.size ≠ wa.heap.size by omega) hv⟩
      · have := oO.fz i hi
        simpa using this
    have HBB := hide hBs
    have HO := hide hOs
    have HKP := hide (unhide HF _ hBs)
    clear bX bY oY oO hcs hBz hBs hOs bz HKZ HBX HF p0 p1 p2 p3 p4 p5
    go_wp2_with fail
    generalize (wz.setCell ⟨wa.heap.size, 1, none⟩ (.slice b2 m2 d2)).setCell ⟨wa.heap.size, 2, none⟩ (.slice a2 n2 c2) = ws at *
    refine (unhide HKP).mono ?_
    rintro _ wy ⟨v, rfl, aN, mN, cN, aM, mM, cM, rfl, sN, sM, nN, nM, hby⟩
    have hlt9 : wb.heap.size < ws.heap.size := (unhide HO).lt
    have HX := hide (And.intro sN (And.intro sM (And.intro nN nM)))
    clear HKP q0 q1 q2 q3 q4 q5 z1 z2 sN sM nN nM
    unfold ratV
    have hO3 := (unhide HO).keep hby
    obtain ⟨i0, o0⟩ := hO3.cells 0 (by decide)
    obtain ⟨i1, o1⟩ := hO3.cells 1 (by decide)
    obtain ⟨i2, o2⟩ := hO3.cells 2 (by decide)
    have f0 := hO3.fz 0 (by decide)
    have f1 := hO3.fz 1 (by decide)
    have f2 := hO3.fz 2 (by decide)
    have H4 := hide (three_set wy wb.heap.size (.bool ng) (.slice aN mN cN) (.slice aM mM cM) hO3.cells)
    have HBy := hide hby
    clear hO3 hby
    go_wp2_with fail
    obtain ⟨t0, t1, t2, c4⟩ := unhide H4
    generalize ((wy.setCell ⟨wb.heap.size, 0, none⟩ (.bool ng)).setCell ⟨wb.heap.size, 1, none⟩ (.slice aN mN cN)).setCell ⟨wb.heap.size, 2, none⟩ (.slice aM mM cM) = wk at *
    refine bodyPost_ret (by simp [results, Tryz.results36, go_sem, t0, t1, t2]; try rfl) rfl ?_
    have hBy : Below w.heap.size w wy := (unhide HBB).trans ((unhide HBy).mono (unhide HBB).size)
    have hBk : Below w.heap.size w wk := hBy.trans (c4.below hBy.size (fun k hk => by have := unhide Hwb; omega))
    have hwd : w.heap.size ≤ ws.heap.size := (unhide HBB).size
    exact ⟨_, rfl, aN, mN, cN, aM, mM, cM, rfl, (unhide HX).1.chg c4 (fun x hx _ h => by have h1 := (unhide HX).2.2.1 x hx; omega), (unhide HX).2.1.chg c4 (fun x hx _ h => by have h1 := (unhide HX).2.2.2 x hx; omega), (fun x hx => Nat.le_trans hwd ((unhide HX).2.2.1 x hx)), (fun x hx => Nat.le_trans hwd ((unhide HX).2.2.2 x hx)), hBk⟩

/-- What Div answers. -/
def DivF (g1 : Bool) (x1 y1 : List Nat) (g2 : Bool) (x2 y2 : List Nat) : (Bool × List Nat × List Nat) × Int :=
  if MayR g1 x1 y1 && MayR g2 x2 y2 then (if x2 = [] then ((false, [], []), 3) else if bigN (mulN x1 y1 y2 x2) || bigN (mulD x1 y1 y2 x2) then ((false, [], []), 2) else (((g1 != g2) && decide (mulN x1 y1 y2 x2 ≠ 0), limbs (mulN x1 y1 y2 x2), limbs (mulD x1 y1 y2 x2)), 0)) else ((false, [], []), 40)
/-- rational.Div. -/
theorem ratDiv_any (g1 g2 : Bool) (a1 b1 a2 b2 : Option Addr) (n1 c1 m1 d1 n2 c2 m2 d2 : Nat) (x1 y1 x2 y2 : List Nat) (w : World) (hx1 : Sl w a1 n1 c1 x1) (hy1 : Sl w b1 m1 d1 y1) (hx2 : Sl w a2 n2 c2 x2) (hy2 : Sl w b2 m2 d2 y2) (ox1 : Ok x1) (oy1 : Ok y1) (ox2 : Ok x2) (oy2 : Ok y2) (hT : Tab64 w) :
    Calls Tryz.prog 17 #[ratV g1 a1 n1 c1 b1 m1 d1, ratV g2 a2 n2 c2 b2 m2 d2] w fun e w' => ResR w w' (DivF g1 x1 y1 g2 x2 y2).1.1 (DivF g1 x1 y1 g2 x2 y2).1.2.1 (DivF g1 x1 y1 g2 x2 y2).1.2.2 (DivF g1 x1 y1 g2 x2 y2).2 e := by
  refine ratDiv_face g1 g2 a1 b1 a2 b2 n1 c1 m1 d1 n2 c2 m2 d2 x1 y1 x2 y2 w hx1 hy1 hx2 hy2 ox1 oy1 ox2 oy2 hT _ _ _ _ (fun hm W hb => ?_) (fun hm => ?_)
  · have h12 : MayR g1 x1 y1 = true ∧ MayR g2 x2 y2 = true := by simpa using hm
    obtain ⟨ka1, kb1, e1, _, _⟩ := MayR.parts h12.1
    obtain ⟨ka2, kb2, e2, _, _⟩ := MayR.parts h12.2
    have hlen := hx2.len
    refine ratdivide_any g1 g2 a1 b1 a2 b2 n1 c1 m1 d1 n2 c2 m2 d2 W _ _ _ _ (fun hn W2 hb2 => ?_) (fun hn => ?_)
    · have hne : x2 ≠ [] := fun e => by rw [e] at hlen; exact hn hlen.symm
      have hb3 := hb.trans (hb2.mono hb.size)
      refine (ratmultiply_any g1 g2 a1 b1 b2 a2 n1 c1 m1 d1 m2 d2 n2 c2 x1 y1 y2 x2 W2 (hx1.below hb3) (hy1.below hb3) (hy2.below hb3) (hx2.below hb3) ox1 oy1 oy2 ox2 ka1 kb1 kb2 ka2 e1 hne (hT.below hb3)).mono (fun e w' h => ?_)
      unfold MuPost at h
      unfold DivF
      rw [if_pos hm, if_neg hne]
      split at h
      · rename_i hbig
        rw [if_pos hbig]
        exact h
      · rename_i hbig
        rw [if_neg hbig]
        exact h
    · have he : x2 = [] := List.eq_nil_of_length_eq_zero (by omega)
      unfold DivF
      rw [if_pos hm, if_pos he]
      exact ⟨rfl, rfl, rfl, rfl⟩
  · unfold DivF
    rw [hm]
    exact ⟨rfl, rfl, rfl, rfl⟩
end Go.Proofs.YtjjeinfoeipjnaaGreatDoor

namespace Go.Proofs.YtjjeinfoeipjnaaGreatDoor
open Go.RowKit Go.Deep
set_option linter.unusedVariables false

theorem big_of_may {x : List Nat} (ox : Ok x) (m : MayL x = true) : bigN (val x) = false := by
  unfold bigN
  rw [limbs_val ox (MayL.norm m)]
  have := MayL.len m
  simpa using this
theorem cross {S T V Y12 D D0 N0 : Int} (hY : 0 < Y12) (e1 : S * Y12 = V * D) (e2 : N0 * Y12 = V * D0) : S * D0 = N0 * D := by
  refine Int.eq_of_mul_eq_mul_right (Int.ne_of_gt hY) ?_
  have a1 : S * D0 * Y12 = (S * Y12) * D0 := by ac_rfl
  have a2 : N0 * D * Y12 = (N0 * Y12) * D := by ac_rfl
  rw [a1, a2, e1, e2]
  ac_rfl
/-- Sub undoes Add. -/
theorem subF_back {ga gb g : Bool} {xa ya xb yb x y : List Nat} (oa : Ok xa) (oa2 : Ok ya) (ha : MayR ga xa ya = true) (hb : MayR gb xb yb = true) (h : Fr g x y (nI ga (val xa) * (val yb : Int) + nI gb (val xb) * (val ya : Int)) ((val ya : Int) * (val yb : Int))) : SubF g x y gb xb yb = ((ga, xa, ya), 0) := by
  have l1 := (MayR.parts h.may).2.2.2.2
  have l2 := (MayR.parts hb).2.2.2.2
  have p1 := mayR_pos h.may
  have p2 := mayR_pos hb
  have hG : 0 < adG y yb := Nat.gcd_pos_of_pos_right _ p2
  have lo := add_low (G := adG y yb) l1 l2 p1 p2 rfl (cmbV_abs g (!gb) (val x * (val yb / adG y yb)) (val xb * (val y / adG y yb)))
  have va := add_val (X1 := val x) (Y1 := val y) (X2 := val xb) (Y2 := val yb) (G := adG y yb) rfl p2 (cmbV_val g (!gb) (val x * (val yb / adG y yb)) (val xb * (val y / adG y yb)))
  have hD : 0 < adD g x y (!gb) xb yb := by
    unfold adD adC
    exact Nat.mul_pos (Nat.mul_pos (div_pos_of_dvd (Nat.gcd_dvd_left _ _) p1) (div_pos_of_dvd (Nat.gcd_dvd_right _ _) p2)) (div_pos_of_dvd (Nat.gcd_dvd_right _ _) hG)
  have lo' : Nat.gcd (adN g x y (!gb) xb yb) (adD g x y (!gb) xb yb) = 1 := lo
  have va' : nI (adS g x y (!gb) xb yb).2 (adN g x y (!gb) xb yb) * ((val y * val yb : Nat) : Int) = (nI g (val x) * (val yb : Int) + nI (!gb) (val xb) * (val y : Int)) * (adD g x y (!gb) xb yb : Int) := va
  have hn : nI (!gb) (val xb) = -nI gb (val xb) := by cases gb <;> simp [nI]
  have e0 : nI ga (val xa) * ((val y * val yb : Nat) : Int) = (nI g (val x) * (val yb : Int) + nI (!gb) (val xb) * (val y : Int)) * (val ya : Int) := by
    have hq := h.eq
    have yap := posI ha
    have ybp := posI hb
    refine Int.eq_of_mul_eq_mul_right (Int.ne_of_gt ybp) ?_
    rw [hn]
    push_cast
    have a1 : (nI g (val x) * (val yb : Int) + -nI gb (val xb) * (val y : Int)) * (val ya : Int) * (val yb : Int) = (nI g (val x) * ((val ya : Int) * (val yb : Int))) * (val yb : Int) + -nI gb (val xb) * (val y : Int) * ((val ya : Int) * (val yb : Int)) := by
      rw [Int.add_mul, Int.add_mul]
      congr 1
      · ac_rfl
      · ac_rfl
    rw [a1, hq]
    grind
  have hY : (0 : Int) < ((val y * val yb : Nat) : Int) := by have := Nat.mul_pos p1 p2; omega
  have hc := cross (T := 0) hY va' e0
  obtain ⟨r1, r2, r3⟩ := low_one (g1 := (adS g x y (!gb) xb yb).2 && decide (adN g x y (!gb) xb yb ≠ 0)) lo' (MayR.parts ha).2.2.2.2 hD (mayR_pos ha) (fun hh => by simp at hh; exact hh.2) (mayR_neg ha) (by rw [nI_and]; exact hc)
  have ex := limbs_val oa (MayL.norm (MayR.parts ha).1)
  have ey := limbs_val oa2 (MayL.norm (MayR.parts ha).2.1)
  unfold SubF
  rw [h.may, hb, r2, r3, big_of_may oa (MayR.parts ha).1, big_of_may oa2 (MayR.parts ha).2.1]
  rw [r2] at r1
  simp only [Bool.and_self, if_true, Bool.or_self, Bool.false_eq_true, if_false]
  rw [ex, ey, r1]
/-- Div undoes Mul. -/
theorem divF_back {ga gb g : Bool} {xa ya xb yb x y : List Nat} (oa : Ok xa) (oa2 : Ok ya) (ha : MayR ga xa ya = true) (hb : MayR gb xb yb = true) (hz : xb ≠ []) (h : Fr g x y (nI ga (val xa) * nI gb (val xb)) ((val ya : Int) * (val yb : Int))) : DivF g x y gb xb yb = ((ga, xa, ya), 0) := by
  have l1 := (MayR.parts h.may).2.2.2.2
  have l2 := (MayR.parts hb).2.2.2.2
  have p1 := mayR_pos h.may
  have p2 := mayR_pos hb
  have px : 0 < val xb := val_pos_of_may (MayR.parts hb).1 hz
  have l2' : Nat.gcd (val yb) (val xb) = 1 := by rw [Nat.gcd_comm]; exact l2
  have lo := mul_low l1 l2' p1 px
  have va := mul_val (X1 := val x) (Y1 := val y) (X2 := val yb) (Y2 := val xb) p1 px
  have lo' : Nat.gcd (mulN x y yb xb) (mulD x y yb xb) = 1 := lo
  have hD : 0 < mulD x y yb xb := Nat.mul_pos (div_pos_of_dvd (Nat.gcd_dvd_right _ _) p1) (div_pos_of_dvd (Nat.gcd_dvd_right _ _) px)
  have va' : nI (g != gb) (mulN x y yb xb) * ((val y * val xb : Nat) : Int) = nI (g != gb) (val x * val yb) * (mulD x y yb xb : Int) := by
    rw [← nI_mul, ← nI_mul]
    exact congrArg _ va
  have hxx : nI gb (val xb) * nI gb 1 = (val xb : Int) := by cases gb <;> simp [nI]
  have e0 : nI ga (val xa) * ((val y * val xb : Nat) : Int) = nI (g != gb) (val x * val yb) * (val ya : Int) := by
    have hq := h.eq
    have yap := posI ha
    have ybp := posI hb
    have e3 : nI (g != gb) (val x * val yb) = nI g (val x) * nI gb (val yb) := nI_xor g gb (val x) (val yb)
    have e4 : nI gb (val yb) = nI gb 1 * (val yb : Int) := by have := nI_mul gb 1 (val yb); rwa [Nat.one_mul] at this
    rw [e3, e4]
    push_cast
    have a1 : nI g (val x) * (nI gb 1 * (val yb : Int)) * (val ya : Int) = (nI g (val x) * ((val ya : Int) * (val yb : Int))) * nI gb 1 := by ac_rfl
    rw [a1, hq]
    have a2 : nI ga (val xa) * nI gb (val xb) * (val y : Int) * nI gb 1 = nI ga (val xa) * (val y : Int) * (nI gb (val xb) * nI gb 1) := by ac_rfl
    rw [a2, hxx]
    ac_rfl
  have hY : (0 : Int) < ((val y * val xb : Nat) : Int) := by have := Nat.mul_pos p1 px; omega
  have hc := cross (T := 0) hY va' e0
  obtain ⟨r1, r2, r3⟩ := low_one (g1 := (g != gb) && decide (mulN x y yb xb ≠ 0)) lo' (MayR.parts ha).2.2.2.2 hD (mayR_pos ha) (fun hh => by simp at hh; exact hh.2) (mayR_neg ha) (by rw [nI_and]; exact hc)
  have ex := limbs_val oa (MayL.norm (MayR.parts ha).1)
  have ey := limbs_val oa2 (MayL.norm (MayR.parts ha).2.1)
  unfold DivF
  rw [h.may, hb, if_neg hz, r2, r3, big_of_may oa (MayR.parts ha).1, big_of_may oa2 (MayR.parts ha).2.1]
  rw [r2] at r1
  simp only [Bool.and_self, if_true, Bool.or_self, Bool.false_eq_true, if_false]
  rw [ex, ey, r1]
theorem invL_zero {g : Bool} {x y : List Nat} (h : MayR g x y = true) (hz : x = []) : invL g x y = ⟨false, [], [], 3⟩ := by unfold invL; rw [if_pos h, if_pos hz]
theorem invL_none : invL false [] [] = ⟨false, [], [], 40⟩ := by
  have : MayR false [] [] = false := by unfold MayR; simp
  unfold invL
  rw [this]
  rfl
theorem invL_some {g : Bool} {x y : List Nat} (h : MayR g x y = true) (hz : x ≠ []) : invL g x y = ⟨g, y, x, 0⟩ := by unfold invL; rw [if_pos h, if_neg hz]
theorem invL_back {g : Bool} {x y : List Nat} (h : MayR g x y = true) (hz : x ≠ []) : invL g y x = ⟨g, x, y, 0⟩ := by
  obtain ⟨a, b, c, d, l⟩ := MayR.parts h
  have l' : Nat.gcd (val y) (val x) = 1 := by rw [Nat.gcd_comm]; exact l
  have m : MayR g y x = true := by
    unfold MayR
    rw [a, b, decide_eq_true l']
    simp [c, hz]
  unfold invL
  rw [if_pos m, if_neg c]
theorem sign_zero {g : Bool} {x y : List Nat} (h : MayR g x y = true) (hz : x = []) : SignF g x y = 0 := by
  rw [signF_may h, hz]
  have v0 : val ([] : List Nat) = 0 := rfl
  rw [v0]
  cases g <;> rfl
theorem sign_some {g : Bool} {x y : List Nat} (h : MayR g x y = true) (hz : x ≠ []) : SignF g x y = -1 ∨ SignF g x y = 1 := by
  have px : 0 < val x := val_pos_of_may (MayR.parts h).1 hz
  rw [signF_may h]
  cases g
  · right; exact Int.sign_eq_one_of_pos (by simp only [nI]; simp; omega)
  · left; exact Int.sign_eq_neg_one_of_neg (by simp only [nI, if_true]; omega)
end Go.Proofs.YtjjeinfoeipjnaaGreatDoor
