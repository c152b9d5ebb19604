/-
  slopelaw2.alive, num.
-/
import Derived.Test.YtcfefobgmhhfkaaGreatDoorRl4
import Derived.Deep.RegionHeld3
namespace Go.Proofs.YtcfefobgmhhfkaaGreatDoor
open Go.RowKit Go.Deep
set_option linter.unusedVariables false

theorem rnum2_any (e : Int) (w : World) : Calls Tryz.prog 11 #[.int .i64 e] w fun x w' => x = .returned (.int .i64 e) ∧ w' = w := by
  go_enter Tryz.func11, Tryz.ntmps11
  go_wp2
  go_ret
  exact ⟨rfl, rfl⟩
theorem limbs_small {v : Nat} (h0 : 0 < v) (h : v < 4294967296) : limbs v = [v] := by
  have := limbs_val (xs := [v]) (by intro x hx; simp at hx; subst hx; exact h) (by right; simp; omega)
  simpa [val] using this
theorem limbs_none : limbs 0 = [] := by
  have := limbs_val (xs := []) (by intro x hx; cases hx) (by simp [Norm])
  simpa [val] using this
theorem alive_make : makeL true [6] [4] = ⟨true, [3], [2], 0⟩ := by
  have e : (MayL [6] && MayL [4]) = true := by decide
  unfold makeL
  rw [if_pos e, if_neg (by decide)]
  have v6 : val [6] = 6 := by simp [val]
  have v4 : val [4] = 4 := by simp [val]
  have hg : Nat.gcd 6 4 = 2 := by decide
  rw [v6, v4, hg, show 6 / 2 = 3 from rfl, show 4 / 2 = 2 from rfl, limbs_small (by decide) (by decide), limbs_small (by decide) (by decide)]
  rfl
theorem mayR_32 : MayR true [3] [2] = true := by
  unfold MayR
  have v3 : val [3] = 3 := by simp [val]
  have v2 : val [2] = 2 := by simp [val]
  rw [v3, v2]
  decide
theorem mayR_21 : MayR false [2] [1] = true := by
  unfold MayR
  have v1 : val [1] = 1 := by simp [val]
  have v2 : val [2] = 2 := by simp [val]
  rw [v1, v2]
  decide
theorem mayR_12 : MayR false [1] [2] = true := by
  unfold MayR
  have v1 : val [1] = 1 := by simp [val]
  have v2 : val [2] = 2 := by simp [val]
  rw [v1, v2]
  decide
theorem alive_add : AddF true [3] [2] false [2] [1] = ((false, [1], [2]), 0) := by
  have v1 : val [1] = 1 := by simp [val]
  have v2 : val [2] = 2 := by simp [val]
  have v3 : val [3] = 3 := by simp [val]
  have eG : adG [2] [1] = 1 := by unfold adG; rw [v2, v1]; decide
  have eS : adS true [3] [2] false [2] [1] = (1, false) := by unfold adS; rw [eG, v1, v2, v3]; decide
  have eC : adC true [3] [2] false [2] [1] = 1 := by unfold adC; rw [eS, eG]; decide
  have eN : adN true [3] [2] false [2] [1] = 1 := by unfold adN; rw [eS, eC]; rfl
  have eD : adD true [3] [2] false [2] [1] = 2 := by unfold adD; rw [eC, eG, v1, v2]
  unfold AddF
  rw [mayR_32, mayR_21, eN, eD, eS, limbs_small (by decide) (by decide), limbs_small (by decide) (by decide)]
  have b1 : bigN 1 = false := by unfold bigN; rw [limbs_small (by decide) (by decide)]; decide
  have b2 : bigN 2 = false := by unfold bigN; rw [limbs_small (by decide) (by decide)]; decide
  rw [b1, b2]
  rfl
theorem alive_cmp : CmpF true [3] [2] false [1] [2] = -1 := by
  unfold CmpF
  rw [mayR_32, mayR_12]
  unfold cmpR signR
  decide
theorem alive_print {s : ByteArray} {e : Int} (h : PrR false [1] [2] s e) : s = ⟨#[49, 47, 50]⟩ ∧ e = 0 := by
  have v1 : val [1] = 1 := by simp [val]
  have v2 : val [2] = 2 := by simp [val]
  cases h with
  | bad h => rw [mayR_12] at h; cases h
  | whole n h hy ht => simp at hy
  | frac n m h hy ht hm =>
    rw [v1] at ht ⊢
    rw [v2] at hm ⊢
    have e1 : n = 1 := ht.uniq (by decide) ⟨by decide, by decide, .inl rfl⟩
    have e2 : m = 1 := hm.uniq (by decide) ⟨by decide, by decide, .inl rfl⟩
    subst e1 e2
    exact ⟨by decide, rfl⟩

theorem sl_made {w : World} {g v : Nat} (h : w.cell? ⟨g, 0, none⟩ = some (.int .u32 (v : Nat))) : Sl w (some ⟨g, 0, none⟩) 1 1 [v] := by
  refine ⟨rfl, Nat.le_refl _, by unfold maxLen; omega, .inr ⟨g, 0, rfl, fun i hi => ?_⟩⟩
  obtain rfl : i = 0 := by simp at hi; exact hi
  simpa using h
theorem ok_one {v : Nat} (h : v < 4294967296) : Ok [v] := fun x hx => by simp at hx; subst hx; exact h

/-- A variable that was made earlier is written: what is older stays, what is newer too. -/
theorem alive_join {w w2 w4 : World} {R : Nat} {L : List Fct} {ay by_ : Option Addr} {ny cy my dy : Nat} {x y : List Nat} (hF : Fcts w w2 L) (hb : Below w2.heap.size w2 w4) (hR : w2.heap.size ≤ R) (hO : Out w4 R) (sx : Sl w4 ay ny cy x) (sy : Sl w4 by_ my dy y) (nx : ∀ p, ay = some p → p.block ≠ R) (ny_ : ∀ p, by_ = some p → p.block ≠ R) (g : Bool) :
    Fcts w (((w4.setCell ⟨R, 0, none⟩ (.bool g)).setCell ⟨R, 1, none⟩ (.slice ay ny cy)).setCell ⟨R, 2, none⟩ (.slice by_ my dy)) (fR R (.bool g) (.slice ay ny cy) (.slice by_ my dy) :: fN ay ny cy x by_ my dy y :: L) := by
  obtain ⟨t0, t1, t2, c4⟩ := three_set w4 R (.bool g) (.slice ay ny cy) (.slice by_ my dy) hO.cells
  have hfz : ∀ i, i < 3 → (((w4.setCell ⟨R, 0, none⟩ (.bool g)).setCell ⟨R, 1, none⟩ (.slice ay ny cy)).setCell ⟨R, 2, none⟩ (.slice by_ my dy)).frozen? ⟨R, i, none⟩ = false := fun i hi => by
    have := hO.fz i hi
    simpa using this
  have hb2 : Below w2.heap.size w2 (((w4.setCell ⟨R, 0, none⟩ (.bool g)).setCell ⟨R, 1, none⟩ (.slice ay ny cy)).setCell ⟨R, 2, none⟩ (.slice by_ my dy)) := hb.trans (c4.below hb.size (fun k hk => by omega))
  exact ((hF.step hb2).add (fN ay ny cy x by_ my dy y) ⟨sx.chg c4 (fun p hp _ => nx p hp), sy.chg c4 (fun p hp _ => ny_ p hp)⟩).add (fR R _ _ _) ⟨t0, t1, t2, hfz 0 (by decide), hfz 1 (by decide), hfz 2 (by decide), Nat.lt_of_lt_of_le hO.lt c4.size⟩

set_option maxHeartbeats 8000000 in
set_option maxRecDepth 100000 in
theorem ralive_any (w : World) (hT : Tab64 w) : Calls Tryz.prog 8 #[] w fun e w' => e = .returned (.bool true) ∧ Below w.heap.size w w' := by
  obtain ⟨wa, hwa⟩ : ∃ x, w.alloc (.cells #[.int .u32 6] 33) = x := ⟨_, rfl⟩
  obtain ⟨wb, hwb⟩ : ∃ x, wa.alloc (.cells #[.int .u32 4] 33) = x := ⟨_, rfl⟩
  have hba : Below w.heap.size w wa := by rw [← hwa]; exact (Below.refl _ _).alloc (Nat.le_refl _) _
  have hbb : Below wa.heap.size wa wb := by rw [← hwb]; exact (Below.refl _ _).alloc (Nat.le_refl _) _
  have hB := hba.trans (hbb.mono hba.size)
  have hsz : wa.heap.size = w.heap.size + 1 := by rw [← hwa]; simp
  have s6 : Sl wb (some ⟨w.heap.size, 0, none⟩) 1 1 [6] := (sl_made (w := wa) (g := w.heap.size) (v := 6) (by rw [← hwa]; simp)).below hbb
  have s4 : Sl wb (some ⟨wa.heap.size, 0, none⟩) 1 1 [4] := sl_made (v := 4) (by rw [← hwb]; simp)
  have KM := ratMake_any true _ _ 1 1 1 1 [6] [4] wb s6 s4 (ok_one (by decide)) (ok_one (by decide)) (hT.below hB)
  rw [alive_make] at KM
  have HKM := hide KM
  have HT := hide (And.intro (hT.below hB) hB)
  clear hT hba hbb hB s6 s4 KM hsz
  go_enter Tryz.func8, Tryz.ntmps8
  go_wp2_with fail
  refine (unhide HKM).mono ?_
  rintro _ w1 ⟨v, rfl, ax, nx, cx, bx, mx, dx, rfl, sx, sy, _, _, b1⟩
  try dsimp only at sx sy
  unfold ratV
  have hF0 : Fcts w w1 [fTab, fN ax nx cx [3] bx mx dx [2]] := ⟨(unhide HT).2.trans (b1.mono (unhide HT).2.size), fun f hf => by simp at hf; rcases hf with rfl | rfl; exact (unhide HT).1.below b1; exact ⟨sx, sy⟩⟩
  obtain ⟨w2, hw2⟩ : ∃ x, w1.alloc (.cells #[.bool true, .slice ax nx cx, .slice bx mx dx] 25) = x := ⟨_, rfl⟩
  have hF1 := hF0.box (.bool true) (.slice ax nx cx) (.slice bx mx dx) 25
  rw [hw2] at hF1
  have HF := hide hF1
  have t := hF1.r w1.heap.size (.bool true) (.slice ax nx cx) (.slice bx mx dx) (.head _)
  have tc0 := t.c0
  have tc1 := t.c1
  have tc2 := t.c2
  have ne1 := World.new_ne w2 _ tc0
  have HI := hide (fun (W : World) => (by have K := fromInt_any 2 (by decide) (by decide) W; rw [show decide ((2:Int) < 0) = false from rfl, show (2:Int).natAbs = 2 from rfl, limbs_small (v := 2) (by decide) (by decide)] at K; exact K : Calls Tryz.prog 14 #[.int .i64 2] W fun e w' => ∃ v, e = .returned v ∧ NewR W w' false [2] [1] v))
  clear HKM HT sx sy b1 hF0 hF1 t
  go_wp2_with fail
  go_region_held3 (fun w' => w'.cell? ⟨w1.heap.size, 0, none⟩ = some (.bool true) ∧ w'.cell? ⟨w1.heap.size, 1, none⟩ = some (.slice ax nx cx) ∧ w'.cell? ⟨w1.heap.size, 2, none⟩ = some (.slice bx mx dx)) (first | go_keep | (exact ⟨e0, e1, e2⟩) | (exact ⟨g0, g1, g2⟩))
    (first
      | (go_at_call 14; refine (unhide HI _).mono ?_; rintro _ w3 ⟨v, rfl, ai, ni, ci, bi, mi, di, rfl, si, ti, _, _, b3⟩; (first | (have hO : Out w3 w2.heap.size := (Out.made w2.drew).keep b3; have HO := hide hO; clear hO) | (have HN := True.intro)); have hb3 : Below w2.heap.size w2 w3 := (by first | exact (Below.refl _ _).drew.trans b3 | exact ((Below.refl w2.heap.size w2).drew.alloc (Nat.le_refl _) _).trans (b3.mono (by simp))); have e0 := (hb3.cell (p := ⟨w1.heap.size, 0, none⟩) (World.block_lt_of_cell? _ _ tc0)).trans tc0; have e1 := (hb3.cell (p := ⟨w1.heap.size, 1, none⟩) (World.block_lt_of_cell? _ _ tc1)).trans tc1; have e2 := (hb3.cell (p := ⟨w1.heap.size, 2, none⟩) (World.block_lt_of_cell? _ _ tc2)).trans tc2; have hF3 := (((unhide HF).step hb3).add (fN ai ni ci [2] bi mi di [1]) ⟨si, ti⟩); have HA := hide (fun (W : World) (hb : Below w3.heap.size w3 W) => (by have hX := hF3.step hb; have K := ratAdd_any true false ax bx ai bi nx cx mx dx ni ci mi di [3] [2] [2] [1] W (hX.n ax nx cx [3] bx mx dx [2] (by simp)).num (hX.n ax nx cx [3] bx mx dx [2] (by simp)).den (si.below hb) (ti.below hb) (ok_one (by decide)) (ok_one (by decide)) (ok_one (by decide)) (ok_one (by decide)) (hX.tab (by simp)); rw [alive_add] at K; unfold ratV at K; exact K : Calls Tryz.prog 38 #[.agg #[.bool true, .slice ax nx cx, .slice bx mx dx], .agg #[.bool false, .slice ai ni ci, .slice bi mi di]] W fun e w' => ResR W w' false [1] [2] 0 e)); have HB3 := hide hb3; have ne2 := World.new_ne w3 _ e0; unfold ratV; clear si ti b3 hb3 hF3)
      | (go_at_call 38; refine (unhide HA _ (by first | exact Below.refl _ _ | exact (Below.refl _ _).alloc (Nat.le_refl _) _)).mono ?_; rintro _ w4 ⟨v, rfl, ay, ny, cy, by_, my, dy, rfl, sy, uy, nY, nU, b4⟩; unfold ratV; (first | (have hO4 := (unhide HO).keep b4) | (have hO4 := (Out.made w3).keep b4) | (have HN4 := True.intro)); have hb4 : Below w3.heap.size w3 w4 := (by first | exact b4 | exact ((Below.refl w3.heap.size w3).alloc (Nat.le_refl _) _).trans (b4.mono (by simp))); have g0 := (hb4.cell (p := ⟨w1.heap.size, 0, none⟩) (World.block_lt_of_cell? _ _ e0)).trans e0; have g1 := (hb4.cell (p := ⟨w1.heap.size, 1, none⟩) (World.block_lt_of_cell? _ _ e1)).trans e1; have g2 := (hb4.cell (p := ⟨w1.heap.size, 2, none⟩) (World.block_lt_of_cell? _ _ e2)).trans e2; (try (obtain ⟨i0, o0⟩ := hO4.cells 0 (by decide); obtain ⟨i1, o1⟩ := hO4.cells 1 (by decide); obtain ⟨i2, o2⟩ := hO4.cells 2 (by decide); have f0 := hO4.fz 0 (by decide); have f1 := hO4.fz 1 (by decide); have f2 := hO4.fz 2 (by decide); have HO4 := hide hO4; clear hO4)); have ne3 := World.new_ne w4 _ g0; have HY := hide (And.intro sy (And.intro uy (And.intro nY (And.intro nU (And.intro b4 (And.intro hb4 ((unhide HB3).trans (hb4.mono (unhide HB3).size)))))))); clear sy uy nY nU b4 hb4))
  rotate_left 0
  focus
    obtain ⟨sy, uy, nY, nU, b4, hb4, hb24⟩ := unhide HY
    have hF5 := (((unhide HF).step hb24).add (fN ay ny cy [1] by_ my dy [2]) ⟨sy, uy⟩).box (.bool false) (.slice ay ny cy) (.slice by_ my dy) 25
    have HF5 := hide hF5
    clear sy uy nY nU b4 hb4 hb24 HY hF5 HF HI HA HB3 tc0 tc1 tc2 e0 e1 e2 g0 g1 g2 ne1 ne2 ne3 hw2
    generalize w4.alloc (.cells #[.bool false, .slice ay ny cy, .slice by_ my dy] 25) = w5 at *
    generalize w4.heap.size = R at *
  rotate_left
  focus
    obtain ⟨sy, uy, nY, nU, b4, hb4, hb24⟩ := unhide HY
    have hF5 := alive_join (x := [1]) (y := [2]) (unhide HF) hb24 (unhide HB3).size (unhide HO4) sy uy (fun p hp h => by have := nY p hp; simp at this; omega) (fun p hp h => by have := nU p hp; simp at this; omega) false
    have HF5 := hide hF5
    clear sy uy nY nU b4 hb4 hb24 HY hF5 HF HI HA HB3 HO4 tc0 tc1 tc2 e0 e1 e2 g0 g1 g2 ne1 ne2 ne3 hw2 o0 o1 o2 f0 f1 f2
    generalize ((w4.setCell ⟨w3.heap.size, 0, none⟩ (.bool false)).setCell ⟨w3.heap.size, 1, none⟩ (.slice ay ny cy)).setCell ⟨w3.heap.size, 2, none⟩ (.slice by_ my dy) = w5 at *
    generalize w3.heap.size = R at *
  rotate_left
  focus
    obtain ⟨sy, uy, nY, nU, b4, hb4, hb24⟩ := unhide HY
    have hlt := (unhide HO).lt
    have hF5 := alive_join (x := [1]) (y := [2]) (unhide HF) hb24 (Nat.le_refl _) (unhide HO4) sy uy (fun p hp h => by have := nY p hp; omega) (fun p hp h => by have := nU p hp; omega) false
    have HF5 := hide hF5
    clear sy uy nY nU b4 hb4 hb24 HY hF5 HF HI HA HB3 HO4 HO tc0 tc1 tc2 e0 e1 e2 g0 g1 g2 ne1 ne2 ne3 hw2 o0 o1 o2 f0 f1 f2 hlt
    generalize ((w4.setCell ⟨w2.heap.size, 0, none⟩ (.bool false)).setCell ⟨w2.heap.size, 1, none⟩ (.slice ay ny cy)).setCell ⟨w2.heap.size, 2, none⟩ (.slice by_ my dy) = w5 at *
    generalize w2.heap.size = R at *
  rotate_left
  all_goals
    have KP := ratPrint_any false ay by_ ny cy my dy [1] [2] w5 ((unhide HF5).n ay ny cy [1] by_ my dy [2] (by simp)).num ((unhide HF5).n ay ny cy [1] by_ my dy [2] (by simp)).den (ok_one (by decide)) (ok_one (by decide)) ((unhide HF5).tab (by simp))
    unfold ratV at KP
    have HKP := hide KP
    have t := (unhide HF5).r R (.bool false) (.slice ay ny cy) (.slice by_ my dy) (.head _)
    have tc0 := t.c0
    have tc1 := t.c1
    have tc2 := t.c2
    clear KP t
    go_wp2_with fail
    refine (unhide HKP).mono ?_
    rintro _ w6 ⟨s, er, rfl, hp, b6⟩
    obtain ⟨rfl, rfl⟩ := alive_print hp
    have HF6 := hide ((unhide HF5).step b6)
    clear hp b6 HKP HF5 tc0 tc1 tc2
    go_wp2_with fail
    refine (rnum2_any _ _).mono ?_
    rintro _ _ ⟨rfl, hw⟩
    obtain rfl := hw.symm
    clear hw
    go_wp2_with fail
    refine (rnum2_any _ _).mono ?_
    rintro _ _ ⟨rfl, hw⟩
    obtain rfl := hw.symm
    clear hw
    go_wp2_with fail
    refine (rnum2_any _ _).mono ?_
    rintro _ _ ⟨rfl, hw⟩
    obtain rfl := hw.symm
    clear hw
    have tx := (unhide HF6).r w1.heap.size (.bool true) (.slice ax nx cx) (.slice bx mx dx) (by simp)
    have tx0 := tx.c0
    have tx1 := tx.c1
    have tx2 := tx.c2
    have KY := ratMay_any true ax bx nx cx mx dx [3] [2] w6 ((unhide HF6).n ax nx cx [3] bx mx dx [2] (by simp)).num ((unhide HF6).n ax nx cx [3] bx mx dx [2] (by simp)).den (ok_one (by decide)) (ok_one (by decide)) ((unhide HF6).tab (by simp))
    rw [mayR_32] at KY
    unfold ratV at KY
    have HKY := hide KY
    clear tx KY
    go_wp2_with fail
    refine (unhide HKY).mono ?_
    rintro _ w7 ⟨rfl, b7⟩
    have hF7 := (unhide HF6).step b7
    have KC := ratCmp_any true false ax bx ay by_ nx cx mx dx ny cy my dy [3] [2] [1] [2] w7 (hF7.n ax nx cx [3] bx mx dx [2] (by simp)).num (hF7.n ax nx cx [3] bx mx dx [2] (by simp)).den (hF7.n ay ny cy [1] by_ my dy [2] (by simp)).num (hF7.n ay ny cy [1] by_ my dy [2] (by simp)).den (ok_one (by decide)) (ok_one (by decide)) (ok_one (by decide)) (ok_one (by decide)) (hF7.tab (by simp))
    rw [alive_cmp] at KC
    unfold ratV at KC
    have HKC := hide KC
    have tx := hF7.r w1.heap.size (.bool true) (.slice ax nx cx) (.slice bx mx dx) (by simp)
    have ty := hF7.r R (.bool false) (.slice ay ny cy) (.slice by_ my dy) (by simp)
    have x0 := tx.c0
    have x1 := tx.c1
    have x2 := tx.c2
    have y0 := ty.c0
    have y1 := ty.c1
    have y2 := ty.c2
    have HF7 := hide hF7
    clear HKY b7 hF7 KC tx ty tx0 tx1 tx2 HF6
    go_wp2_with fail
    refine (unhide HKC).mono ?_
    rintro _ w8 ⟨rfl, b8⟩
    have HF8 := hide ((unhide HF7).step b8)
    clear b8 HKC HF7 x0 x1 x2 y0 y1 y2
    go_wp2_with fail
    go_ret
    exact ⟨rfl, (unhide HF8).bel⟩
end Go.Proofs.YtcfefobgmhhfkaaGreatDoor

namespace Go.Proofs.YtcfefobgmhhfkaaGreatDoor
open Go.RowKit Go.Deep
set_option linter.unusedVariables false

theorem Ok.limbs (v : Nat) : Ok (limbs v) := (limbs_rep v).ok
theorem addF_lists {g1 g2 : Bool} {x1 y1 x2 y2 : List Nat} : Ok (AddF g1 x1 y1 g2 x2 y2).1.2.1 ∧ Ok (AddF g1 x1 y1 g2 x2 y2).1.2.2 := by
  unfold AddF
  split
  · split
    · exact ⟨Ok.nil, Ok.nil⟩
    · exact ⟨Ok.limbs _, Ok.limbs _⟩
  · exact ⟨Ok.nil, Ok.nil⟩
theorem subF_lists {g1 g2 : Bool} {x1 y1 x2 y2 : List Nat} : Ok (SubF g1 x1 y1 g2 x2 y2).1.2.1 ∧ Ok (SubF g1 x1 y1 g2 x2 y2).1.2.2 := by
  unfold SubF
  split
  · split
    · exact ⟨Ok.nil, Ok.nil⟩
    · exact ⟨Ok.limbs _, Ok.limbs _⟩
  · exact ⟨Ok.nil, Ok.nil⟩
theorem mulF_lists {g1 g2 : Bool} {x1 y1 x2 y2 : List Nat} : Ok (MulF g1 x1 y1 g2 x2 y2).1.2.1 ∧ Ok (MulF g1 x1 y1 g2 x2 y2).1.2.2 := by
  unfold MulF
  split
  · split
    · exact ⟨Ok.nil, Ok.nil⟩
    · exact ⟨Ok.limbs _, Ok.limbs _⟩
  · exact ⟨Ok.nil, Ok.nil⟩
theorem cmpF_may {g1 g2 : Bool} {x1 y1 x2 y2 : List Nat} (h1 : MayR g1 x1 y1 = true) (h2 : MayR g2 x2 y2 = true) : CmpF g1 x1 y1 g2 x2 y2 = Int.sign (nI g1 (val x1) * (val y2 : Int) - nI g2 (val x2) * (val y1 : Int)) := by
  unfold CmpF
  rw [h1, h2]
  exact cmpR_sign h1 h2
theorem signF_may {g : Bool} {x y : List Nat} (h : MayR g x y = true) : SignF g x y = Int.sign (nI g (val x)) := by
  unfold SignF
  rw [h]
  exact signR_sign h
theorem posI {g : Bool} {x y : List Nat} (h : MayR g x y = true) : (0 : Int) < (val y : Int) := by have := mayR_pos h; omega
theorem order_neg {g1 g2 : Bool} {x1 y1 x2 y2 : List Nat} (h1 : MayR g1 x1 y1 = true) (h2 : MayR g2 x2 y2 = true) : CmpF g2 x2 y2 g1 x1 y1 = -CmpF g1 x1 y1 g2 x2 y2 := by
  rw [cmpF_may h1 h2, cmpF_may h2 h1]
  exact sgn_neg
theorem order_self {g1 : Bool} {x1 y1 : List Nat} (h1 : MayR g1 x1 y1 = true) : CmpF g1 x1 y1 g1 x1 y1 = 0 := by
  rw [cmpF_may h1 h1, Int.sub_self]
  rfl
theorem order_one {g1 g2 : Bool} {x1 y1 x2 y2 : List Nat} (h1 : MayR g1 x1 y1 = true) (h2 : MayR g2 x2 y2 = true) : CmpF g1 x1 y1 g2 x2 y2 = -1 ∨ CmpF g1 x1 y1 g2 x2 y2 = 0 ∨ CmpF g1 x1 y1 g2 x2 y2 = 1 := by
  rw [cmpF_may h1 h2]
  rcases Int.lt_trichotomy (nI g1 (val x1) * (val y2 : Int) - nI g2 (val x2) * (val y1 : Int)) 0 with h | h | h
  · exact .inl (Int.sign_eq_neg_one_of_neg h)
  · rw [h]; exact .inr (.inl rfl)
  · exact .inr (.inr (Int.sign_eq_one_of_pos h))
theorem order_sone {g : Bool} {x y : List Nat} (h : MayR g x y = true) : SignF g x y = -1 ∨ SignF g x y = 0 ∨ SignF g x y = 1 := by
  rw [signF_may h]
  rcases Int.lt_trichotomy (nI g (val x)) 0 with k | k | k
  · exact .inl (Int.sign_eq_neg_one_of_neg k)
  · rw [k]; exact .inr (.inl rfl)
  · exact .inr (.inr (Int.sign_eq_one_of_pos k))
theorem order_trans {g1 g2 g3 : Bool} {x1 y1 x2 y2 x3 y3 : List Nat} (h1 : MayR g1 x1 y1 = true) (h2 : MayR g2 x2 y2 = true) (h3 : MayR g3 x3 y3 = true) (a : CmpF g1 x1 y1 g2 x2 y2 ≤ 0) (b : CmpF g2 x2 y2 g3 x3 y3 ≤ 0) : CmpF g1 x1 y1 g3 x3 y3 ≤ 0 := by
  rw [cmpF_may h1 h2] at a
  rw [cmpF_may h2 h3] at b
  rw [cmpF_may h1 h3]
  exact sgn_trans (posI h1) (posI h2) (posI h3) a b
theorem order_same {g1 g2 : Bool} {x1 y1 x2 y2 : List Nat} (ox1 : Ok x1) (oy1 : Ok y1) (ox2 : Ok x2) (oy2 : Ok y2) (h1 : MayR g1 x1 y1 = true) (h2 : MayR g2 x2 y2 = true) : sameR g1 x1 y1 g2 x2 y2 = decide (CmpF g1 x1 y1 g2 x2 y2 = 0) := by
  rw [same_cmp ox1 oy1 ox2 oy2 h1 h2, cmpF_may h1 h2, cmpR_sign h1 h2]
theorem order_sub {g1 g2 g : Bool} {x1 y1 x2 y2 x y : List Nat} (h1 : MayR g1 x1 y1 = true) (h2 : MayR g2 x2 y2 = true) (e : SubF g1 x1 y1 g2 x2 y2 = ((g, x, y), 0)) : SignF g x y = CmpF g1 x1 y1 g2 x2 y2 := by
  obtain ⟨g', N, D, e2, m, hD, hv⟩ := subF_ok h1 h2 (by rw [e])
  rw [e] at e2
  cases e2
  rw [signF_may m, cmpF_may h1 h2, (limbs_rep N).val]
  exact sgn_sub (posI h1) (posI h2) (by omega) hv
theorem order_add {g1 g2 g3 gx gy : Bool} {x1 y1 x2 y2 x3 y3 xx yx xy yy : List Nat} (h1 : MayR g1 x1 y1 = true) (h2 : MayR g2 x2 y2 = true) (h3 : MayR g3 x3 y3 = true) (e1 : AddF g1 x1 y1 g3 x3 y3 = ((gx, xx, yx), 0)) (e2 : AddF g2 x2 y2 g3 x3 y3 = ((gy, xy, yy), 0)) : CmpF gx xx yx gy xy yy = CmpF g1 x1 y1 g2 x2 y2 := by
  obtain ⟨g', N, D, k1, m1, hD, hv⟩ := addF_ok h1 h3 (by rw [e1])
  obtain ⟨g'', N2, D2, k2, m2, hD2, hv2⟩ := addF_ok h2 h3 (by rw [e2])
  rw [e1] at k1
  rw [e2] at k2
  cases k1
  cases k2
  rw [cmpF_may m1 m2, cmpF_may h1 h2, (limbs_rep N).val, (limbs_rep D).val, (limbs_rep N2).val, (limbs_rep D2).val]
  exact sgn_add (posI h1) (posI h2) (posI h3) (by omega) (by omega) hv hv2
theorem order_mul {g1 g2 g3 gx gy : Bool} {x1 y1 x2 y2 x3 y3 xx yx xy yy : List Nat} (h1 : MayR g1 x1 y1 = true) (h2 : MayR g2 x2 y2 = true) (h3 : MayR g3 x3 y3 = true) (e1 : MulF g1 x1 y1 g3 x3 y3 = ((gx, xx, yx), 0)) (e2 : MulF g2 x2 y2 g3 x3 y3 = ((gy, xy, yy), 0)) : CmpF gx xx yx gy xy yy = CmpF g1 x1 y1 g2 x2 y2 * SignF g3 x3 y3 := by
  obtain ⟨g', N, D, k1, m1, hD, hv⟩ := mulF_ok h1 h3 (by rw [e1])
  obtain ⟨g'', N2, D2, k2, m2, hD2, hv2⟩ := mulF_ok h2 h3 (by rw [e2])
  rw [e1] at k1
  rw [e2] at k2
  cases k1
  cases k2
  rw [cmpF_may m1 m2, cmpF_may h1 h2, signF_may h3, (limbs_rep N).val, (limbs_rep D).val, (limbs_rep N2).val, (limbs_rep D2).val]
  exact sgn_mul (posI h1) (posI h2) (posI h3) (by omega) (by omega) hv hv2
theorem rnumB_any (e : Int) (w : World) : Calls Tryz.prog 11 #[.int .i64 e] w fun x w' => x = .returned (.int .i64 e) ∧ Below w.heap.size w w' :=
  (rnum2_any e w).mono fun x w' ⟨h1, h2⟩ => ⟨h1, by rw [h2]; exact Below.refl _ _⟩
theorem Tri.out {w : World} {R : Nat} {v0 v1 v2 : Value} (h : Tri w R v0 v1 v2) : Out w R :=
  ⟨fun i hi => by
    match i, hi with
    | 0, _ => exact ⟨_, h.c0⟩
    | 1, _ => exact ⟨_, h.c1⟩
    | 2, _ => exact ⟨_, h.c2⟩,
   fun i hi => by
    match i, hi with
    | 0, _ => exact h.f0
    | 1, _ => exact h.f1
    | 2, _ => exact h.f2, h.lt⟩
theorem Tri.chg {w w' : World} {R S : Nat} {v0 v1 v2 : Value} (h : Tri w R v0 v1 v2) (c : Chg (fun k => k = S) w w') (hne : R ≠ S) : Tri w' R v0 v1 v2 := by
  have hb := c.block R h.lt hne
  have hc : ∀ i, w'.cell? ⟨R, i, none⟩ = w.cell? ⟨R, i, none⟩ := fun i => by unfold World.cell?; simp only; rw [hb]
  have hf : ∀ i, w'.frozen? ⟨R, i, none⟩ = w.frozen? ⟨R, i, none⟩ := fun i => by unfold World.frozen?; simp only; rw [hb]
  exact ⟨(hc 0).trans h.c0, (hc 1).trans h.c1, (hc 2).trans h.c2, (hf 0).trans h.f0, (hf 1).trans h.f1, (hf 2).trans h.f2, Nat.lt_of_lt_of_le h.lt c.size⟩
end Go.Proofs.YtcfefobgmhhfkaaGreatDoor

namespace Go.Proofs.YtcfefobgmhhfkaaGreatDoor
open Go.RowKit Go.Deep
set_option linter.unusedVariables false


theorem Tri.chgW {S : Nat → Prop} {w w' : World} {R : Nat} {v0 v1 v2 : Value} (h : Tri w R v0 v1 v2) (k : Chg S w w') (hs : ¬ S R) : Tri w' R v0 v1 v2 := by
  have hf : ∀ i, w'.frozen? ⟨R, i, none⟩ = w.frozen? ⟨R, i, none⟩ := fun i => World.frozen?_of_block (w := w) (k.block R h.lt hs)
  exact ⟨k.cell hs h.c0, k.cell hs h.c1, k.cell hs h.c2, (hf 0).trans h.f0, (hf 1).trans h.f1, (hf 2).trans h.f2, Nat.lt_of_lt_of_le h.lt k.size⟩
set_option maxRecDepth 100000 in
set_option maxHeartbeats 16000000 in
/-- slopeplain.Given.Rat. -/
theorem grat_any {w : World} {B : Nat} {v0 v1 : Value} {es : List Ent} {w0 : World} {L : List Pc} (h : LawSt w B v0 v1 es w0 L) (g1 : Bool) (p q : Pc) (hp : p ∈ L) (hq : q ∈ L) (hn : p.n ≤ 35184372088000) (hm : q.n ≤ 35184372088000) (he : es.length ≤ 1000) :
    Calls Tryz.prog 27 #[.pointer (some ⟨B, 0, none⟩), ratV g1 p.a p.n p.c q.a q.n q.c] w fun e w' => ∃ v, e = .returned v ∧ ∃ v0' v1' E1 E2, v = ratV g1 (some ⟨Ent.b E1, 0, none⟩) p.n E1.c (some ⟨Ent.b E2, 0, none⟩) q.n E2.c ∧ LawSt w' B v0' v1' (es ++ [E1] ++ [E2]) w0 (⟨some ⟨E2.b, 0, none⟩, q.n, E2.c, q.xs⟩ :: ⟨some ⟨E1.b, 0, none⟩, p.n, E1.c, p.xs⟩ :: L) := by
  have bx := Box.made w g1 p.a p.n p.c q.a q.n q.c
  obtain ⟨wa, hwa⟩ : ∃ wa, ratBox w g1 p.a p.n p.c q.a q.n q.c = wa := ⟨_, rfl⟩
  rw [hwa] at bx
  unfold ratBox at hwa
  have hba := bx.bel
  obtain ⟨wo, hwo⟩ : ∃ x, wa.alloc (.cells #[.bool false, .slice none 0 0, .slice none 0 0] 25) = x := ⟨_, rfl⟩
  have hbo : Below wa.heap.size wa wo := by rw [← hwo]; exact (Below.refl _ _).alloc (Nat.le_refl _) _
  have hT : Tri wo wa.heap.size (.bool false) (.slice none 0 0) (.slice none 0 0) := by rw [← hwo]; exact Tri.made _ _ _ _ _
  have bx2 := bx.keep hbo
  have hB := hba.trans (hbo.mono hba.size)
  have hO := h.keep hB
  have p0 := bx2.d0
  have p1 := bx2.d1
  have p2 := bx2.d2
  have hlt := bx.lt
  have hlt2 : wa.heap.size < wo.heap.size := hT.lt
  have hnb : ¬ Own B v0 v1 w.heap.size := fun ho => by have := h.giv.own_lt ho; omega
  have hnr : ¬ Own B v0 v1 wa.heap.size := fun ho => by have := h.giv.own_lt ho; omega
  have HK1 := hide (fun (W : World) (hb : Below wo.heap.size wo W) => (hO.keep hb).natC p hp hn (by omega))
  have hne1 : w.heap.size ≠ wa.heap.size := by omega
  have hne3 : wa.heap.size ≠ w.heap.size := by omega
  have HW := hide (And.intro h.bel.size (And.intro hnb (And.intro hnr (And.intro hlt hlt2))))
  have HLt := hide (fun r (hr : r ∈ L) x (hx : r.a = some x) (hne : r.xs ≠ []) => (show x.block < w.heap.size from (h.all r hr).sl.block_lt hne x hx))
  have HT := hide hT
  clear bx bx2 hba hbo hB hnb hnr hT hO h
  unfold ratV
  go_enter Tryz.func27, Tryz.ntmps27
  go_wp2_with fail
  go_region_held3 (fun w' => w'.cell? ⟨w.heap.size, 0, none⟩ = some (.bool g1) ∧ w'.cell? ⟨w.heap.size, 1, none⟩ = some (.slice p.a p.n p.c) ∧ w'.cell? ⟨w.heap.size, 2, none⟩ = some (.slice q.a q.n q.c)) (first | go_keep | (exact ⟨k0, k1, k2⟩) | (exact ⟨j0, j1, j2⟩))
    (first
      | (go_at_call_of 24 (Value.slice p.a p.n p.c); refine (unhide HK1 _ (Below.refl _ _).drew).mono ?_; rintro _ wk ⟨u0, u1, E1, rfl, hL1, hE1, hc1, hs1⟩; have hcd : Chg (Own B v0 v1) wo wk := (Chg.of_drew wo).trans hc1; have k0 := hcd.cell (unhide HW).2.1 p0; have k1 := hcd.cell (unhide HW).2.1 p1; have k2 := hcd.cell (unhide HW).2.1 p2; have hT1 : Tri wk wa.heap.size (.bool false) (.slice none 0 0) (.slice none 0 0) := (unhide HT).chgW hcd (unhide HW).2.2.1; have HS1 := hide (And.intro hL1 (And.intro (show wo.heap.size ≤ E1.b from hE1) (And.intro (hs1 w.heap.size (by have := (unhide HW).2.2.2; simp; omega) (unhide HW).2.1) (And.intro (hs1 wa.heap.size (by have := (unhide HW).2.2.2; simp; omega) (unhide HW).2.2.1) (And.intro hT1 hcd.size))))); clear hL1 hE1 hc1 hs1 hcd hT1)
      | (go_at_call_of 24 (Value.slice q.a q.n q.c); refine ((unhide HS1).1.natC q (.tail _ hq) hm (by simp; omega)).mono ?_; rintro _ wj ⟨z0, z1, E2, rfl, hL2, hE2, hc2, hs2⟩; have j0 := hc2.cell (unhide HS1).2.2.1 k0; have j1 := hc2.cell (unhide HS1).2.2.1 k1; have j2 := hc2.cell (unhide HS1).2.2.1 k2; have hT2 : Tri wj wa.heap.size (.bool false) (.slice none 0 0) (.slice none 0 0) := (unhide HS1).2.2.2.2.1.chgW hc2 (unhide HS1).2.2.2.1; have HO3 := hide hT2; have q0 := hT2.c0; have q1 := hT2.c1; have q2 := hT2.c2; have r0 := hT2.f0; have r1 := hT2.f1; have r2 := hT2.f2; have HS2 := hide (And.intro hL2 (And.intro (unhide HS1).2.1 (And.intro (show wo.heap.size ≤ E2.b from Nat.le_trans (unhide HS1).2.2.2.2.2 hE2) (hs2 wa.heap.size (unhide HS1).2.2.2.2.1.lt (unhide HS1).2.2.2.1)))); clear hL2 hE2 hc2 hs2 hT2))
  have H4 := hide (three_set wj wa.heap.size (.bool g1) (.slice (some ⟨E1.b, 0, none⟩) p.n E1.c) (.slice (some ⟨E2.b, 0, none⟩) q.n E2.c) (unhide HO3).out.cells)
  clear q0 q1 q2 r0 r1 r2
  try go_wp2_with fail
  obtain ⟨t0, t1, t2, c4⟩ := unhide H4
  generalize ((wj.setCell ⟨wa.heap.size, 0, none⟩ (.bool g1)).setCell ⟨wa.heap.size, 1, none⟩ (.slice (some ⟨E1.b, 0, none⟩) p.n E1.c)).setCell ⟨wa.heap.size, 2, none⟩ (.slice (some ⟨E2.b, 0, none⟩) q.n E2.c) = wf at *
  refine bodyPost_ret (by simp [results, Tryz.results27, go_sem, t0, t1, t2]; try rfl) rfl ?_
  obtain ⟨hL2, hE1, hE2, hNR⟩ := unhide HS2
  refine ⟨_, rfl, _, _, E1, E2, rfl, hL2.setR (unhide HO3).c0 c4 (by have := (unhide HW).1; have := (unhide HW).2.2.2.1; omega) hNR ?_⟩
  intro r hr x hx hne
  rcases List.mem_cons.1 hr with rfl | hr
  · cases hx; have := (unhide HW).2.2.2.2; simp only; omega
  · rcases List.mem_cons.1 hr with rfl | hr
    · cases hx; have := (unhide HW).2.2.2.2; simp only; omega
    · have := unhide HLt r hr x hx hne
      have := (unhide HW).2.2.2.1
      omega

set_option maxRecDepth 100000 in
set_option maxHeartbeats 16000000 in
/-- slopelaw2.like, of two numbers that are the same. -/
theorem like_any (g1 : Bool) (a1 b1 a2 b2 : Option Addr) (n1 c1 m1 d1 n2 c2 m2 d2 : Nat) (x1 y1 : List Nat) (er : Int) (w : World) (hx1 : Sl w a1 n1 c1 x1) (hy1 : Sl w b1 m1 d1 y1) (hx2 : Sl w a2 n2 c2 x1) (hy2 : Sl w b2 m2 d2 y1) :
    Calls Tryz.prog 29 #[ratV g1 a1 n1 c1 b1 m1 d1, .int .i64 er, ratV g1 a2 n2 c2 b2 m2 d2, .int .i64 er] w fun e w' => e = .returned (.bool true) ∧ Below w.heap.size w w' := by
  have bx := Box.made w g1 a1 n1 c1 b1 m1 d1
  obtain ⟨wa, hwa⟩ : ∃ wa, ratBox w g1 a1 n1 c1 b1 m1 d1 = wa := ⟨_, rfl⟩
  rw [hwa] at bx
  have by_ := Box.made wa g1 a2 n2 c2 b2 m2 d2
  obtain ⟨wb, hwb⟩ : ∃ wb, ratBox wa g1 a2 n2 c2 b2 m2 d2 = wb := ⟨_, rfl⟩
  rw [hwb] at by_
  have hba : Below w.heap.size w wa := by rw [← hwa]; exact (Below.refl _ _).alloc (Nat.le_refl _) _
  have hbb : Below wa.heap.size wa wb := by rw [← hwb]; exact (Below.refl _ _).alloc (Nat.le_refl _) _
  unfold ratBox at hwa hwb
  have bx2 := bx.keep hbb
  have by2 := by_
  have hB := hba.trans (hbb.mono hba.size)
  have p0 := bx2.d0
  have p1 := bx2.d1
  have p2 := bx2.d2
  have p3 := by2.d0
  have p4 := by2.d1
  have p5 := by2.d2

  have HBo := hide hB
  have K := fun (W : World) (hb : Below wb.heap.size wb W) => sameRat_any g1 g1 a1 b1 a2 b2 n1 c1 m1 d1 n2 c2 m2 d2 x1 y1 x1 y1 W ((hx1.below hB).below hb) ((hy1.below hB).below hb) ((hx2.below hB).below hb) ((hy2.below hB).below hb)
  have hs : sameR g1 x1 y1 g1 x1 y1 = true := by unfold sameR; simp
  rw [hs] at K
  have HK := hide K
  have te : (er == er) = true := by simp
  clear K hx1 hy1 hx2 hy2 bx by_ bx2 by2 hba hbb hB hs
  unfold ratV at HK ⊢
  go_enter Tryz.func29, Tryz.ntmps29
  go_wp2_with fail
  refine (rnum2_any er wb).mono ?_
  rintro _ _ ⟨rfl, hw⟩
  obtain rfl := hw.symm
  clear hw
  go_wp2_with fail
  refine (unhide HK _ (Below.refl _ _)).mono ?_
  rintro _ w1 ⟨rfl, b1'⟩
  have HB1 := hide ((unhide HBo).trans (b1'.mono (unhide HBo).size))
  clear b1' HK
  go_wp2_with fail
  go_ret
  exact ⟨rfl, unhide HB1⟩
end Go.Proofs.YtcfefobgmhhfkaaGreatDoor

namespace Go.Proofs.YtcfefobgmhhfkaaGreatDoor
open Go.RowKit Go.Deep
set_option linter.unusedVariables false

set_option maxRecDepth 100000 in
set_option maxHeartbeats 16000000 in
theorem grat_all {w : World} {B : Nat} {v0 v1 : Value} {es : List Ent} {w0 : World} {L : List Pc} (h : LawSt w B v0 v1 es w0 L) (g1 : Bool) (p q : Pc) (hp : p ∈ L) (hq : q ∈ L) (hn : p.n ≤ 35184372088000) (hm : q.n ≤ 35184372088000) (he : es.length ≤ 1000) :
    Calls Tryz.prog 27 #[.pointer (some ⟨B, 0, none⟩), ratV g1 p.a p.n p.c q.a q.n q.c] w fun e w' => ∃ v, e = .returned v ∧ ∃ v0' v1' E1 E2, v = ratV g1 (some ⟨Ent.b E1, 0, none⟩) p.n E1.c (some ⟨Ent.b E2, 0, none⟩) q.n E2.c ∧ LawSt w' B v0' v1' (es ++ [E1] ++ [E2]) w0 (⟨some ⟨E2.b, 0, none⟩, q.n, E2.c, q.xs⟩ :: ⟨some ⟨E1.b, 0, none⟩, p.n, E1.c, p.xs⟩ :: L) ∧ Chg (Own B v0 v1) w w' ∧ ∀ k, k < w.heap.size → ¬ Own B v0 v1 k → ¬ Own B v0' v1' k := by
  have bx := Box.made w g1 p.a p.n p.c q.a q.n q.c
  obtain ⟨wa, hwa⟩ : ∃ wa, ratBox w g1 p.a p.n p.c q.a q.n q.c = wa := ⟨_, rfl⟩
  rw [hwa] at bx
  unfold ratBox at hwa
  have hba := bx.bel
  obtain ⟨wo, hwo⟩ : ∃ x, wa.alloc (.cells #[.bool false, .slice none 0 0, .slice none 0 0] 25) = x := ⟨_, rfl⟩
  have hbo : Below wa.heap.size wa wo := by rw [← hwo]; exact (Below.refl _ _).alloc (Nat.le_refl _) _
  have hT : Tri wo wa.heap.size (.bool false) (.slice none 0 0) (.slice none 0 0) := by rw [← hwo]; exact Tri.made _ _ _ _ _
  have bx2 := bx.keep hbo
  have hB := hba.trans (hbo.mono hba.size)
  have hO := h.keep hB
  have p0 := bx2.d0
  have p1 := bx2.d1
  have p2 := bx2.d2
  have hlt := bx.lt
  have hlt2 : wa.heap.size < wo.heap.size := hT.lt
  have hnb : ¬ Own B v0 v1 w.heap.size := fun ho => by have := h.giv.own_lt ho; omega
  have hnr : ¬ Own B v0 v1 wa.heap.size := fun ho => by have := h.giv.own_lt ho; omega
  have HK1 := hide (fun (W : World) (hb : Below wo.heap.size wo W) => (hO.keep hb).natC p hp hn (by omega))
  have hne1 : w.heap.size ≠ wa.heap.size := by omega
  have hne3 : wa.heap.size ≠ w.heap.size := by omega
  have HW := hide (And.intro h.bel.size (And.intro hnb (And.intro hnr (And.intro hlt hlt2))))
  have HLt := hide (fun r (hr : r ∈ L) x (hx : r.a = some x) (hne : r.xs ≠ []) => (show x.block < w.heap.size from (h.all r hr).sl.block_lt hne x hx))
  have HT := hide hT
  have HCB := hide (show Chg (Own B v0 v1) w wo from Chg.of_below hB)
  clear bx bx2 hba hbo hB hnb hnr hT hO h
  unfold ratV
  go_enter Tryz.func27, Tryz.ntmps27
  go_wp2_with fail
  go_region_held3 (fun w' => w'.cell? ⟨w.heap.size, 0, none⟩ = some (.bool g1) ∧ w'.cell? ⟨w.heap.size, 1, none⟩ = some (.slice p.a p.n p.c) ∧ w'.cell? ⟨w.heap.size, 2, none⟩ = some (.slice q.a q.n q.c)) (first | go_keep | (exact ⟨k0, k1, k2⟩) | (exact ⟨j0, j1, j2⟩))
    (first
      | (go_at_call_of 24 (Value.slice p.a p.n p.c); refine (unhide HK1 _ (Below.refl _ _).drew).mono ?_; rintro _ wk ⟨u0, u1, E1, rfl, hL1, hE1, hc1, hs1⟩; have hcd : Chg (Own B v0 v1) wo wk := (Chg.of_drew wo).trans hc1; have k0 := hcd.cell (unhide HW).2.1 p0; have k1 := hcd.cell (unhide HW).2.1 p1; have k2 := hcd.cell (unhide HW).2.1 p2; have hT1 : Tri wk wa.heap.size (.bool false) (.slice none 0 0) (.slice none 0 0) := (unhide HT).chgW hcd (unhide HW).2.2.1; have HS1 := hide (And.intro hL1 (And.intro (show wo.heap.size ≤ E1.b from hE1) (And.intro (hs1 w.heap.size (by have := (unhide HW).2.2.2; simp; omega) (unhide HW).2.1) (And.intro (hs1 wa.heap.size (by have := (unhide HW).2.2.2; simp; omega) (unhide HW).2.2.1) (And.intro hT1 hcd.size))))); have HC1 := hide (And.intro hcd hs1); clear hL1 hE1 hc1 hs1 hcd hT1)
      | (go_at_call_of 24 (Value.slice q.a q.n q.c); refine ((unhide HS1).1.natC q (.tail _ hq) hm (by simp; omega)).mono ?_; rintro _ wj ⟨z0, z1, E2, rfl, hL2, hE2, hc2, hs2⟩; have j0 := hc2.cell (unhide HS1).2.2.1 k0; have j1 := hc2.cell (unhide HS1).2.2.1 k1; have j2 := hc2.cell (unhide HS1).2.2.1 k2; have hT2 : Tri wj wa.heap.size (.bool false) (.slice none 0 0) (.slice none 0 0) := (unhide HS1).2.2.2.2.1.chgW hc2 (unhide HS1).2.2.2.1; have HO3 := hide hT2; have q0 := hT2.c0; have q1 := hT2.c1; have q2 := hT2.c2; have r0 := hT2.f0; have r1 := hT2.f1; have r2 := hT2.f2; have HS2 := hide (And.intro hL2 (And.intro (unhide HS1).2.1 (And.intro (show wo.heap.size ≤ E2.b from Nat.le_trans (unhide HS1).2.2.2.2.2 hE2) (hs2 wa.heap.size (unhide HS1).2.2.2.2.1.lt (unhide HS1).2.2.2.1)))); have HC2 := hide (And.intro hc2 hs2); clear hL2 hE2 hc2 hs2 hT2))
  have H4 := hide (three_set wj wa.heap.size (.bool g1) (.slice (some ⟨E1.b, 0, none⟩) p.n E1.c) (.slice (some ⟨E2.b, 0, none⟩) q.n E2.c) (unhide HO3).out.cells)
  clear q0 q1 q2 r0 r1 r2
  try go_wp2_with fail
  obtain ⟨t0, t1, t2, c4⟩ := unhide H4
  generalize ((wj.setCell ⟨wa.heap.size, 0, none⟩ (.bool g1)).setCell ⟨wa.heap.size, 1, none⟩ (.slice (some ⟨E1.b, 0, none⟩) p.n E1.c)).setCell ⟨wa.heap.size, 2, none⟩ (.slice (some ⟨E2.b, 0, none⟩) q.n E2.c) = wf at *
  refine bodyPost_ret (by simp [results, Tryz.results27, go_sem, t0, t1, t2]; try rfl) rfl ?_
  obtain ⟨hL2, hE1, hE2, hNR⟩ := unhide HS2
  refine ⟨_, rfl, _, _, E1, E2, rfl, hL2.setR (unhide HO3).c0 c4 (by have := (unhide HW).1; have := (unhide HW).2.2.2.1; omega) hNR ?_, ?_, ?_⟩
  rotate_left
  · have hB := unhide HCB
    have hcd := (unhide HC1).1
    have hc2 := (unhide HC2).1
    refine ⟨c4.os.trans (hc2.os.trans (hcd.os.trans hB.os)), c4.tape.trans (hc2.tape.trans (hcd.tape.trans hB.tape)), c4.output.trans (hc2.output.trans (hcd.output.trans hB.output)), Nat.le_trans hB.size (Nat.le_trans hcd.size (Nat.le_trans hc2.size c4.size)), fun k hk hS => ?_⟩
    have k1 : k < wo.heap.size := Nat.lt_of_lt_of_le hk hB.size
    have k2 : k < wk.heap.size := Nat.lt_of_lt_of_le k1 hcd.size
    have k3 : k < wj.heap.size := Nat.lt_of_lt_of_le k2 hc2.size
    rw [c4.block k k3 (fun e => by have := (unhide HW).2.2.2.1; omega), hc2.block k k2 ((unhide HC1).2 k k1 hS), hcd.block k k1 hS, hB.block k hk hS]
  · intro k hk hS
    have k1 : k < wo.heap.size := Nat.lt_of_lt_of_le hk (unhide HCB).size
    exact (unhide HC2).2 k (Nat.lt_of_lt_of_le k1 (unhide HC1).1.size) ((unhide HC1).2 k k1 hS)
  intro r hr x hx hne
  rcases List.mem_cons.1 hr with rfl | hr
  · cases hx; have := (unhide HW).2.2.2.2; simp only; omega
  · rcases List.mem_cons.1 hr with rfl | hr
    · cases hx; have := (unhide HW).2.2.2.2; simp only; omega
    · have := unhide HLt r hr x hx hne
      have := (unhide HW).2.2.2.1
      omega
end Go.Proofs.YtcfefobgmhhfkaaGreatDoor
