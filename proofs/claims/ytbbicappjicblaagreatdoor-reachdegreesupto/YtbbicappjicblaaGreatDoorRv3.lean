/- Pr9 -/
import Derived.Test.YtbbicappjicblaaGreatDoorPr8
import Derived.Test.YtbbicappjicblaaGreatDoorWie
import Derived.Test.YtbbicappjicblaaGreatDoorBy2
import Derived.ProofKit
import Derived.OpenShut
import Derived.ShutString
import Derived.ChangeOld
import Derived.SizedLaws
import Derived.Test.YtbbicappjicblaaGreatDoorGiv2
import Derived.Deep.RegionHeld3
namespace Go.Proofs.YtbbicappjicblaaGreatDoor
open Go.RowKit Go.Deep
set_option linter.unusedVariables false
theorem top_zero {N b L : Nat} (hb : 0 < b) : ∀ {t : Nat}, t ≤ L → N < b ^ L → (∀ p, p < t → dgt N b (L - 1 - p) = 0) → N < b ^ (L - t)
 | 0, _, h, _ => by simpa using h
 | t + 1, ht, h, hz => by
  have h1 := top_zero hb (t := t) (by omega) h (fun p hp => hz p (by omega))
  have h2 := hz t (by omega)
  unfold dgt at h2
  have hp : 0 < b ^ (L - 1 - t) := Nat.pow_pos hb
  rw [show L - t = (L - 1 - t) + 1 from by omega, Nat.pow_succ] at h1
  have h3 : N / b ^ (L - 1 - t) < b := (Nat.div_lt_iff_lt_mul hp).2 (by rw [Nat.mul_comm]; exact h1)
  rw [Nat.mod_eq_of_lt h3] at h2
  have h4 := Nat.div_eq_zero_iff.1 h2
  rw [show L - (t + 1) = L - 1 - t from by omega]
  omega
end Go.Proofs.YtbbicappjicblaaGreatDoor

namespace Go.Proofs.YtbbicappjicblaaGreatDoor
open Go.RowKit Go.Deep
set_option linter.unusedVariables false

end Go.Proofs.YtbbicappjicblaaGreatDoor
namespace Go.Proofs.YtbbicappjicblaaGreatDoor
open Go.ChangeShapes Go.WideShapes Go.ChangeAt Go.RowKit Go.Deep
set_option linter.unusedVariables false
structure Fct where
 p : World → Prop
 st : ∀ {w w' : World}, Below w.heap.size w w' → p w → p w'
structure Fcts (w0 w : World) (L : List Fct) : Prop where
 bel : Below w0.heap.size w0 w
 all : ∀ f ∈ L, f.p w
theorem Fcts.step {w0 w w' : World} {L : List Fct} (h : Fcts w0 w L) (k : Below w.heap.size w w') : Fcts w0 w' L :=
 ⟨h.bel.trans (k.mono h.bel.size), fun f hf => f.st k (h.all f hf)⟩
theorem Fcts.add {w0 w : World} {L : List Fct} (h : Fcts w0 w L) (f : Fct) (hf : f.p w) : Fcts w0 w (f :: L) :=
 ⟨h.bel, fun g hg => by rcases List.mem_cons.1 hg with rfl | hg; exact hf; exact h.all g hg⟩
structure Nm (w : World) (a : Option Addr) (n c : Nat) (x : List Nat) (b : Option Addr) (m d : Nat) (y : List Nat) : Prop where
 num : Sl w a n c x
 den : Sl w b m d y
structure Tri (w : World) (R : Nat) (v0 v1 v2 : Value) : Prop where
 c0 : w.cell? ⟨R, 0, none⟩ = some v0
 c1 : w.cell? ⟨R, 1, none⟩ = some v1
 c2 : w.cell? ⟨R, 2, none⟩ = some v2
 f0 : w.frozen? ⟨R, 0, none⟩ = false
 f1 : w.frozen? ⟨R, 1, none⟩ = false
 f2 : w.frozen? ⟨R, 2, none⟩ = false
 lt : R < w.heap.size
theorem Tri.keep {w w' : World} {R : Nat} {v0 v1 v2 : Value} (h : Tri w R v0 v1 v2) (k : Below w.heap.size w w') : Tri w' R v0 v1 v2 := by
 have hc : ∀ i, w'.cell? ⟨R, i, none⟩ = w.cell? ⟨R, i, none⟩ := fun i => by unfold World.cell?; simp only; rw [k.block _ h.lt]
 have hf : ∀ i, w'.frozen? ⟨R, i, none⟩ = w.frozen? ⟨R, i, none⟩ := fun i => by unfold World.frozen?; simp only; rw [k.block _ h.lt]
 exact ⟨(hc 0).trans h.c0, (hc 1).trans h.c1, (hc 2).trans h.c2, (hf 0).trans h.f0, (hf 1).trans h.f1, (hf 2).trans h.f2, Nat.lt_of_lt_of_le h.lt k.size⟩
theorem Tri.made (w : World) (v0 v1 v2 : Value) (e : TypeId) : Tri (w.alloc (.cells #[v0, v1, v2] e)) w.heap.size v0 v1 v2 := by
 refine ⟨?_, ?_, ?_, ?_, ?_, ?_, ?_⟩ <;> simp
def fN (a : Option Addr) (n c : Nat) (x : List Nat) (b : Option Addr) (m d : Nat) (y : List Nat) : Fct := ⟨fun w => Nm w a n c x b m d y, fun k h => ⟨h.num.below k, h.den.below k⟩⟩
def fR (R : Nat) (v0 v1 v2 : Value) : Fct := ⟨fun w => Tri w R v0 v1 v2, fun k h => h.keep k⟩
def fTab : Fct := ⟨fun w => Tab64 w, fun k h => h.below k⟩
theorem Fcts.n {w0 w : World} {L : List Fct} (h : Fcts w0 w L) (a : Option Addr) (n c : Nat) (x : List Nat) (b : Option Addr) (m d : Nat) (y : List Nat) (hm : fN a n c x b m d y ∈ L) : Nm w a n c x b m d y := h.all _ hm
theorem Fcts.r {w0 w : World} {L : List Fct} (h : Fcts w0 w L) (R : Nat) (v0 v1 v2 : Value) (hm : fR R v0 v1 v2 ∈ L) : Tri w R v0 v1 v2 := h.all _ hm
theorem Fcts.tab {w0 w : World} {L : List Fct} (h : Fcts w0 w L) (hm : fTab ∈ L) : Tab64 w := h.all _ hm
theorem Fcts.box {w0 w : World} {L : List Fct} (h : Fcts w0 w L) (v0 v1 v2 : Value) (e : TypeId) : Fcts w0 (w.alloc (.cells #[v0, v1, v2] e)) (fR w.heap.size v0 v1 v2 :: L) :=
 (h.step ((Below.refl _ _).alloc (Nat.le_refl _) _)).add (fR w.heap.size v0 v1 v2) (Tri.made _ _ _ _ _)

theorem law_own : ownKnob Tryz.prog.godebug = none := by kernel_rfl
theorem law_laid : laidOutB Tryz.prog = true := by kernel_rfl
theorem law_bytesL : Tryz.prog.bytesOf 115 = 4 := by kernel_rfl
theorem law_cellsL : Tryz.prog.cellsOf 115 = 1 := by kernel_rfl
theorem law_cellsB : Tryz.prog.cellsOf 4 = 1 := by kernel_rfl
theorem law_cellsN : Tryz.prog.cellsOf 69 = 1 := by kernel_rfl
theorem law_cellsR : Tryz.prog.cellsOf 71 = 3 := by kernel_rfl
end Go.Proofs.YtbbicappjicblaaGreatDoor
namespace Go.Proofs.YtbbicappjicblaaGreatDoor
open Go.RowKit Go.Deep
set_option linter.unusedVariables false
structure Nq where
 g : Bool
 a : Option Addr
 n : Nat
 c : Nat
 x : List Nat
 b : Option Addr
 m : Nat
 d : Nat
 y : List Nat
structure SlQ (w : World) (a : Option Addr) (n c : Nat) (ps : List Nq) : Prop where
 len : ps.length = n
 le : n ≤ c
 cells : ps = [] ∨ ∃ b off, a = some ⟨b, off, none⟩ ∧ ∀ i p, ps[i]? = some p → w.cell? ⟨b, off + i * 3, none⟩ = some (.bool p.g) ∧ w.cell? ⟨b, off + i * 3 + 1, none⟩ = some (.slice p.a p.n p.c) ∧ w.cell? ⟨b, off + i * 3 + 2, none⟩ = some (.slice p.b p.m p.d)
 each : ∀ p ∈ ps, (Sl w p.a p.n p.c p.x ∧ Sl w p.b p.m p.d p.y) ∧ Ok p.x ∧ Ok p.y
theorem SlQ.below {w w' : World} {a : Option Addr} {n c : Nat} {ps : List Nq} (h : SlQ w a n c ps) (k : Below w.heap.size w w') : SlQ w' a n c ps := by
 refine ⟨h.len, h.le, ?_, fun p hp => ⟨⟨(h.each p hp).1.1.below k, (h.each p hp).1.2.below k⟩, (h.each p hp).2⟩⟩
 rcases h.cells with e | ⟨b, off, e, hc⟩
 ·exact .inl e
 ·refine .inr ⟨b, off, e, fun i p hp => ?_⟩
  obtain ⟨h1, h2, h3⟩ := hc i p hp
  exact ⟨(k.cell (World.block_lt_of_cell? _ _ h1)).trans h1, (k.cell (World.block_lt_of_cell? _ _ h2)).trans h2, (k.cell (World.block_lt_of_cell? _ _ h3)).trans h3⟩
theorem SlQ.at' {w : World} {a : Option Addr} {n c : Nat} {ps : List Nq} (h : SlQ w a n c ps) {i : Nat} (hi : i < n) :
  ∃ b off p, a = some ⟨b, off, none⟩ ∧ ps[i]? = some p ∧ (w.cell? ⟨b, off + i * 3, none⟩ = some (.bool p.g) ∧ w.cell? ⟨b, off + i * 3 + 1, none⟩ = some (.slice p.a p.n p.c) ∧ w.cell? ⟨b, off + i * 3 + 2, none⟩ = some (.slice p.b p.m p.d)) ∧ (Sl w p.a p.n p.c p.x ∧ Sl w p.b p.m p.d p.y) ∧ Ok p.x ∧ Ok p.y := by
 have hl := h.len
 have hi' : i < ps.length := by omega
 have hp : ps[i]? = some ps[i] := List.getElem?_eq_getElem hi'
 rcases h.cells with e | ⟨b, off, e, hc⟩
 ·rw [e] at hl; simp at hl; omega
 ·exact ⟨b, off, ps[i], e, hp, hc i _ hp, h.each _ (List.getElem_mem hi')⟩
theorem newR_of {w wk wf : World} {R : Nat} {aN aD : Option Addr} {mN cN mD cD : Nat} {xs ys : List Nat} (hR : w.heap.size ≤ R) (hRk : R < wk.heap.size) (bel : Below w.heap.size w wk) (sN : Sl wk aN mN cN xs) (nN : NewAt (R + 1) aN) (sD : Sl wk aD mD cD ys) (nD : NewAt (R + 1) aD) (c4 : Chg (fun j => j = R) wk wf) (g : Bool) :
  NewR w wf g xs ys (ratV g aN mN cN aD mD cD) :=
 ⟨aN, mN, cN, aD, mD, cD, rfl, sN.chg c4 (fun x hx _ h => by have := nN x hx; omega), sD.chg c4 (fun x hx _ h => by have := nD x hx; omega), fun x hx => by have := nN x hx; omega, fun x hx => by have := nD x hx; omega, bel.trans (c4.below bel.size (fun k hk => by omega))⟩
theorem copyN_any (a : Option Addr) (n c : Nat) (xs : List Nat) (w : World) (h : Sl w a n c xs) (hb : n ≤ 35184372088000) :
  Calls Tryz.prog 73 #[.slice a n c] w fun e w' => ∃ a' c', e = .returned (.slice a' n c') ∧ (Sl w' a' n c' xs ∧ NewAt w.heap.size a') ∧ Below w.heap.size w w' := by
 refine (copy_any a n c xs w h (by omega)).mono ?_
 rintro _ w' ⟨cur, rfl, hblk, hsz, hpre, hhs, hbel⟩
 refine ⟨_, _, rfl, ⟨⟨h.len, by omega, by unfold maxLen; omega, .inr ⟨_, _, rfl, cells_of_block hblk ?_⟩⟩, fun x hx => by cases hx; exact Nat.le_refl _⟩, hbel⟩
 intro i hi
 rw [Nat.zero_add]
 exact hpre i (by have := h.len; omega)

set_option maxRecDepth 100000 in
set_option maxHeartbeats 16000000 in
theorem copyRat_any (g1 : Bool) (a1 b1 : Option Addr) (n1 c1 m1 d1 : Nat) (x1 y1 : List Nat) (w : World) (hx1 : Sl w a1 n1 c1 x1) (hy1 : Sl w b1 m1 d1 y1) (s1 : n1 ≤ 35184372088000) (s2 : m1 ≤ 35184372088000) :
  Calls Tryz.prog 46 #[ratV g1 a1 n1 c1 b1 m1 d1] w fun e w' => ∃ v, e = .returned v ∧ NewR w w' g1 x1 y1 v := by
 have bx := Box.made w g1 a1 n1 c1 b1 m1 d1
 obtain ⟨wa, hwa⟩ : ∃ wa, ratBox w g1 a1 n1 c1 b1 m1 d1 = wa := ⟨_, rfl⟩
 rw [hwa] at bx
 unfold ratBox at hwa
 have hba := bx.bel
 obtain ⟨wo, hwo⟩ : ∃ x, wa.alloc (.cells #[.bool false, .slice none 0 0, .slice none 0 0] 71) = x := ⟨_, rfl⟩
 have hbo : Below wa.heap.size wa wo := by rw [← hwo]; exact (Below.refl _ _).alloc (Nat.le_refl _) _
 have hO : Out wo wa.heap.size := by rw [← hwo]; exact Out.made wa
 have bx2 := bx.keep hbo
 have hB := hba.trans (hbo.mono hba.size)
 have hRw : w.heap.size ≤ wa.heap.size := hba.size
 have hne1 : w.heap.size ≠ wa.heap.size := by have := bx.lt; omega
 have hne3 : wa.heap.size ≠ w.heap.size := by have := bx.lt; omega
 have p0 := bx2.d0
 have p1 := bx2.d1
 have p2 := bx2.d2
 have HRw := hide hRw
 have HO := hide hO
 have HBo := hide hB
 have HC1 := hide (fun (W : World) (hb : Below wo.heap.size wo W) => copyN_any a1 n1 c1 x1 W ((hx1.below hB).below hb) s1)
 have HC2 := hide (fun (W : World) (hb : Below wo.heap.size wo W) => copyN_any b1 m1 d1 y1 W ((hy1.below hB).below hb) s2)
 clear hx1 hy1 bx bx2 hba hbo hB hO
 unfold ratV
 go_enter Tryz.func46, Tryz.ntmps46
 go_wp2_with fail
 go_region_held3 (fun w' => w'.cell? ⟨w.heap.size, 0, none⟩ = some (.bool g1) ∧ w'.cell? ⟨w.heap.size, 1, none⟩ = some (.slice a1 n1 c1) ∧ w'.cell? ⟨w.heap.size, 2, none⟩ = some (.slice b1 m1 d1)) (first | go_keep | (exact ⟨k0, k1, k2⟩) | (exact ⟨j0, j1, j2⟩))
  (first
   | (go_at_call_of 73 (Value.slice a1 n1 c1); refine (unhide HC1 _ (Below.refl _ _).drew).mono ?_; rintro _ wk ⟨aq, cq, rfl, oq, bl_k⟩; have hb_k : Below wo.heap.size wo wk := (Below.refl _ _).drew.trans bl_k; have k0 := (hb_k.cell (p := ⟨w.heap.size, 0, none⟩) (World.block_lt_of_cell? _ _ p0)).trans p0; have k1 := (hb_k.cell (p := ⟨w.heap.size, 1, none⟩) (World.block_lt_of_cell? _ _ p1)).trans p1; have k2 := (hb_k.cell (p := ⟨w.heap.size, 2, none⟩) (World.block_lt_of_cell? _ _ p2)).trans p2; have SQ := hide oq; clear oq; have HB_k := hide hb_k; clear hb_k bl_k)
   | (go_at_call_of 73 (Value.slice b1 m1 d1); refine (unhide HC2 _ (unhide HB_k)).mono ?_; rintro _ wj ⟨ar, cr, rfl, orr, bl_j⟩; have hb_j : Below wo.heap.size wo wj := (unhide HB_k).trans (bl_j.mono (unhide HB_k).size); have j0 := (bl_j.cell (p := ⟨w.heap.size, 0, none⟩) (World.block_lt_of_cell? _ _ k0)).trans k0; have j1 := (bl_j.cell (p := ⟨w.heap.size, 1, none⟩) (World.block_lt_of_cell? _ _ k1)).trans k1; have j2 := (bl_j.cell (p := ⟨w.heap.size, 2, none⟩) (World.block_lt_of_cell? _ _ k2)).trans k2; have hO3 := (unhide HO).keep hb_j; obtain ⟨x0, q0⟩ := hO3.cells 0 (by decide); obtain ⟨x1', q1⟩ := hO3.cells 1 (by decide); obtain ⟨x2, q2⟩ := hO3.cells 2 (by decide); have r0 := hO3.fz 0 (by decide); have r1 := hO3.fz 1 (by decide); have r2 := hO3.fz 2 (by decide); have HO3 := hide hO3; have SR := hide (And.intro ((unhide SQ).1.below bl_j) (And.intro (show NewAt (wa.heap.size + 1) aq from fun x hx => Nat.le_trans (unhide HO).lt (Nat.le_trans (Below.refl wo.heap.size wo).drew.size ((unhide SQ).2 x hx))) (And.intro orr.1 (show NewAt (wa.heap.size + 1) ar from fun x hx => Nat.le_trans (unhide HO).lt (Nat.le_trans (unhide HB_k).size (orr.2 x hx)))))); clear orr hO3; have HB_j := hide hb_j; clear hb_j bl_j))
 have H4 := hide (three_set wj wa.heap.size (.bool g1) (.slice aq n1 cq) (.slice ar m1 cr) (unhide HO3).cells)
 have HB3 := hide ((unhide HBo).trans ((unhide HB_j).mono (unhide HBo).size))
 clear q0 q1 q2 r0 r1 r2
 try go_wp2_with fail
 obtain ⟨t0, t1, t2, c4⟩ := unhide H4
 generalize ((wj.setCell ⟨wa.heap.size, 0, none⟩ (.bool g1)).setCell ⟨wa.heap.size, 1, none⟩ (.slice aq n1 cq)).setCell ⟨wa.heap.size, 2, none⟩ (.slice ar m1 cr) = wf at *
 refine bodyPost_ret (by simp [results, Tryz.results46, go_sem, t0, t1, t2]; try rfl) rfl ?_
 obtain ⟨sN, nN, sD, nD⟩ := unhide SR
 exact ⟨_, rfl, newR_of (unhide HRw) (unhide HO3).lt (unhide HB3) sN nN sD nD c4 g1⟩

structure FilQ (w : World) (A N : Nat) (ps : List Nq) : Prop where
 blk : ∃ cur, w.heap[A]? = some (.cells cur 71) ∧ cur.size = N * 3 ∧ (∃ b, cur[0]? = some (.bool b)) ∧ ∀ i p, ps[i]? = some p → cur[i * 3]? = some (.bool p.g) ∧ cur[i * 3 + 1]? = some (.slice p.a p.n p.c) ∧ cur[i * 3 + 2]? = some (.slice p.b p.m p.d)
 each : ∀ p ∈ ps, (Sl w p.a p.n p.c p.x ∧ Sl w p.b p.m p.d p.y) ∧ Ok p.x ∧ Ok p.y
def FarQ (S : Nat → Prop) (ps : List Nq) : Prop := ∀ p ∈ ps, (∀ z, p.a = some z → p.x ≠ [] → ¬ S z.block) ∧ ∀ z, p.b = some z → p.y ≠ [] → ¬ S z.block
theorem FilQ.lt {w : World} {A N : Nat} {ps : List Nq} (h : FilQ w A N ps) : A < w.heap.size := by
 obtain ⟨cur, hc, _⟩ := h.blk
 exact block_lt hc
theorem FilQ.chg {S : Nat → Prop} {w w' : World} {A N : Nat} {ps : List Nq} (h : FilQ w A N ps) (k : Chg S w w') (hA : ¬ S A) (hf : FarQ S ps) : FilQ w' A N ps := by
 obtain ⟨cur, hc, hr⟩ := h.blk
 refine ⟨⟨cur, by rw [k.block A (block_lt hc) hA]; exact hc, hr⟩, fun p hp => ⟨⟨(h.each p hp).1.1.chg k (hf p hp).1, (h.each p hp).1.2.chg k (hf p hp).2⟩, (h.each p hp).2⟩⟩
theorem FilQ.below {w w' : World} {A N : Nat} {ps : List Nq} (h : FilQ w A N ps) (k : Below w.heap.size w w') : FilQ w' A N ps :=
 h.chg (S := fun _ => False) (.of_below k) id (fun p hp => ⟨fun _ _ _ => id, fun _ _ _ => id⟩)
theorem FilQ.sl {w : World} {A N : Nat} {ps : List Nq} (h : FilQ w A N ps) {n : Nat} (hn : ps.length = n) (hN : n ≤ N) : SlQ w (some ⟨A, 0, none⟩) n N ps := by
 obtain ⟨cur, hc, hs, _, hr⟩ := h.blk
 refine ⟨hn, hN, .inr ⟨A, 0, rfl, fun i p hp => ?_⟩, h.each⟩
 obtain ⟨h0, h1, h2⟩ := hr i p hp
 rw [cell_of_block hc, cell_of_block hc, cell_of_block hc]
 simp only [Nat.zero_add]
 exact ⟨h0, h1, h2⟩
theorem FilQ.next {w : World} {A N : Nat} {ps : List Nq} (h : FilQ w A N ps) (hN : ps.length < N) (p : Nq)
  (hp : (Sl w p.a p.n p.c p.x ∧ Sl w p.b p.m p.d p.y) ∧ Ok p.x ∧ Ok p.y) (hne : ∀ q ∈ ps ++ [p], (∀ z, q.a = some z → q.x ≠ [] → z.block ≠ A) ∧ ∀ z, q.b = some z → q.y ≠ [] → z.block ≠ A) {k : Nat} (hk : ps.length = k) :
  FilQ (((w.setCell ⟨A, k * 3, none⟩ (.bool p.g)).setCell ⟨A, k * 3 + 1, none⟩ (.slice p.a p.n p.c)).setCell ⟨A, k * 3 + 2, none⟩ (.slice p.b p.m p.d)) A N (ps ++ [p]) ∧
  Chg (fun j => j = A) w (((w.setCell ⟨A, k * 3, none⟩ (.bool p.g)).setCell ⟨A, k * 3 + 1, none⟩ (.slice p.a p.n p.c)).setCell ⟨A, k * 3 + 2, none⟩ (.slice p.b p.m p.d)) := by
 have hc : Chg (fun j => j = A) w (((w.setCell ⟨A, k * 3, none⟩ (.bool p.g)).setCell ⟨A, k * 3 + 1, none⟩ (.slice p.a p.n p.c)).setCell ⟨A, k * 3 + 2, none⟩ (.slice p.b p.m p.d)) :=
  ((Chg.of_set (S := fun j => j = A) _ _ _ _ rfl).trans (Chg.of_set (S := fun j => j = A) _ _ _ _ rfl)).trans (Chg.of_set (S := fun j => j = A) _ _ _ _ rfl)
 obtain ⟨cur, hb, hs, ⟨b0, hf0⟩, hr⟩ := h.blk
 refine ⟨⟨⟨_, set_block (set_block (set_block hb _ _) _ _) _ _, by simpa using hs, ?_, ?_⟩, ?_⟩, hc⟩
 ·by_cases e : k = 0
  ·subst e
   refine ⟨p.g, ?_⟩
   rw [Array.getElem?_setIfInBounds_ne (by omega), Array.getElem?_setIfInBounds_ne (by omega)]
   exact Array.getElem?_setIfInBounds_self_of_lt (by omega)
  ·refine ⟨b0, ?_⟩
   rw [Array.getElem?_setIfInBounds_ne (by omega), Array.getElem?_setIfInBounds_ne (by omega), Array.getElem?_setIfInBounds_ne (by omega)]
   exact hf0
 ·intro i q hq
  by_cases e : i < ps.length
  ·rw [List.getElem?_append_left e] at hq
   obtain ⟨h0, h1, h2⟩ := hr i q hq
   refine ⟨?_, ?_, ?_⟩
   ·rw [Array.getElem?_setIfInBounds_ne (by omega), Array.getElem?_setIfInBounds_ne (by omega), Array.getElem?_setIfInBounds_ne (by omega)]; exact h0
   ·rw [Array.getElem?_setIfInBounds_ne (by omega), Array.getElem?_setIfInBounds_ne (by omega), Array.getElem?_setIfInBounds_ne (by omega)]; exact h1
   ·rw [Array.getElem?_setIfInBounds_ne (by omega), Array.getElem?_setIfInBounds_ne (by omega), Array.getElem?_setIfInBounds_ne (by omega)]; exact h2
  ·have hi : i < (ps ++ [p]).length := (List.getElem?_eq_some_iff.1 hq).1
   have hi2 : i = k := by simp at hi; omega
   subst hi2
   rw [List.getElem?_append_right (by omega), hk, Nat.sub_self] at hq
   obtain rfl : p = q := by simpa using hq
   have hsz : i * 3 + 2 < cur.size := by omega
   refine ⟨?_, ?_, ?_⟩
   ·rw [Array.getElem?_setIfInBounds_ne (by omega), Array.getElem?_setIfInBounds_ne (by omega), Array.getElem?_setIfInBounds_self_of_lt (by omega)]
   ·rw [Array.getElem?_setIfInBounds_ne (by omega), Array.getElem?_setIfInBounds_self_of_lt (by simp; omega)]
   ·rw [Array.getElem?_setIfInBounds_self_of_lt (by simp; omega)]
 ·intro q hq
  have hf := hne q hq
  have hS : (Sl w q.a q.n q.c q.x ∧ Sl w q.b q.m q.d q.y) ∧ Ok q.x ∧ Ok q.y := by
   rcases List.mem_append.1 hq with e | e
   ·exact h.each q e
   ·obtain rfl : q = p := by simpa using e
    exact hp
  exact ⟨⟨hS.1.1.chg hc hf.1, hS.1.2.chg hc hf.2⟩, hS.2⟩
theorem FilQ.cellsAt {w : World} {A N : Nat} {ps : List Nq} (h : FilQ w A N ps) {j : Nat} (hj : j < N * 3) : (∃ v, w.cell? ⟨A, j, none⟩ = some v) ∧ w.frozen? ⟨A, j, none⟩ = false := by
 obtain ⟨cur, hb, hs, _, hr⟩ := h.blk
 exact ⟨⟨cur[j], by rw [cell_of_block hb]; simp [show j < cur.size from by omega]⟩, frozen_of_block hb _⟩
theorem FilQ.begin (w : World) (N : Nat) (cur : Array Value) (hs : cur.size = N * 3) (h0 : ∃ b, cur[0]? = some (.bool b)) : FilQ (w.alloc (.cells cur 71)) w.heap.size N [] :=
 ⟨⟨cur, alloc_block _ _, hs, h0, fun i p hp => by simp at hp⟩, fun p hp => by cases hp⟩
theorem FilQ.first {w : World} {A N : Nat} {ps : List Nq} (h : FilQ w A N ps) : ∃ b, w.cell? ⟨A, 0, none⟩ = some (.bool b) := by
 obtain ⟨cur, hb, hs, ⟨b, h0⟩, hr⟩ := h.blk
 exact ⟨b, (cell_of_block hb 0).trans h0⟩
theorem FilQ.pre {w : World} {A N : Nat} {ps qs : List Nq} (h : FilQ w A N (ps ++ qs)) : FilQ w A N ps := by
 obtain ⟨cur, hb, hs, h0, hr⟩ := h.blk
 refine ⟨⟨cur, hb, hs, h0, fun i p hp => hr i p ?_⟩, fun p hp => h.each p (List.mem_append_left _ hp)⟩
 rw [List.getElem?_append_left (List.getElem?_eq_some_iff.1 hp).1]
 exact hp
def conQ (p : Nq) : Bool × List Nat × List Nat := (p.g, p.x, p.y)
def celQ (ps : List Nq) : List Value := ps.flatMap (fun p => [.bool p.g, .slice p.a p.n p.c, .slice p.b p.m p.d])
theorem celQ_len (ps : List Nq) : (celQ ps).length = ps.length * 3 := by
 induction ps with
 | nil => rfl
 | cons p r ih => unfold celQ at ih ⊢; simp only [List.flatMap_cons, List.length_append, List.length_cons, List.length_nil]; omega
theorem celQ_get (ps : List Nq) : ∀ {i : Nat} {p : Nq}, ps[i]? = some p → (celQ ps)[i * 3]? = some (.bool p.g) ∧ (celQ ps)[i * 3 + 1]? = some (.slice p.a p.n p.c) ∧ (celQ ps)[i * 3 + 2]? = some (.slice p.b p.m p.d) := by
 induction ps with
 | nil => intro i p hp; simp at hp
 | cons q r ih =>
  intro i p hp
  have e : celQ (q :: r) = [.bool q.g, .slice q.a q.n q.c, .slice q.b q.m q.d] ++ celQ r := by unfold celQ; simp
  rw [e]
  match i with
  | 0 => simp at hp; subst hp; simp
  | i + 1 =>
   obtain ⟨h0, h1, h2⟩ := ih (i := i) (p := p) (by simpa using hp)
   refine ⟨?_, ?_, ?_⟩
   ·rw [List.getElem?_append_right (by simp; omega)]; rw [← h0]; congr 1; simp; omega
   ·rw [List.getElem?_append_right (by simp; omega)]; rw [← h1]; congr 1; simp; omega
   ·rw [List.getElem?_append_right (by simp; omega)]; rw [← h2]; congr 1; simp; omega
theorem FilQ.own {w : World} {A N : Nat} {ps : List Nq} (h : FilQ w A N ps) {n base : Nat} (hn : ps.length = n) (hN : n ≤ N) (hb : base ≤ A) (hm : N ≤ maxLen) : w.ownsRow base 71 3 (.slice (some ⟨A, 0, none⟩) n N) n (celQ ps) := by
 obtain ⟨cur, hc, hs, _, hr⟩ := h.blk
 refine ⟨by rw [celQ_len, hn], .inr ⟨A, N, cur, rfl, hb, hc, hN, hm, hs, ?_⟩⟩
 apply List.ext_getElem?
 intro i
 by_cases hi : i < n * 3
 ·have hj : i / 3 < ps.length := by omega
  have hp : ps[i / 3]? = some ps[i / 3] := List.getElem?_eq_getElem hj
  obtain ⟨h0, h1, h2⟩ := hr _ _ hp
  obtain ⟨k0, k1, k2⟩ := celQ_get ps hp
  rw [List.getElem?_take, if_pos hi, Array.getElem?_toList]
  have e3 : i = i / 3 * 3 ∨ i = i / 3 * 3 + 1 ∨ i = i / 3 * 3 + 2 := by omega
  rcases e3 with e | e | e <;> rw [e]
  ·exact h0.trans k0.symm
  ·exact h1.trans k1.symm
  ·exact h2.trans k2.symm
 ·rw [List.getElem?_eq_none (by simp; omega), List.getElem?_eq_none (by rw [celQ_len]; omega)]
theorem FilQ.of_own {w : World} {base A n N : Nat} {ps : List Nq} (h : w.ownsRow base 71 3 (.slice (some ⟨A, 0, none⟩) n N) n (celQ ps)) (hne : ps ≠ []) (he : ∀ p ∈ ps, (Sl w p.a p.n p.c p.x ∧ Sl w p.b p.m p.d p.y) ∧ Ok p.x ∧ Ok p.y) : FilQ w A N ps := by
 obtain ⟨hl, h2⟩ := h
 have hl' : ps.length = n := by rw [celQ_len] at hl; omega
 rcases h2 with ⟨h2, h3⟩ | ⟨g', cap, cur, h3, h4, h5, h6, h7, h8, h9⟩
 ·cases h2
 ·injection h3 with e1 e2 e3
  injection e1 with e1
  injection e1 with e1
  subst e1 e3
  have key : ∀ i p, ps[i]? = some p → cur[i * 3]? = some (.bool p.g) ∧ cur[i * 3 + 1]? = some (.slice p.a p.n p.c) ∧ cur[i * 3 + 2]? = some (.slice p.b p.m p.d) := fun i p hp => ?_
  ·refine ⟨⟨cur, h5, h8, ?_, key⟩, he⟩
   obtain ⟨p, r, rfl⟩ := List.exists_cons_of_ne_nil hne
   exact ⟨p.g, (key 0 p rfl).1⟩
  have hi : i < n := by have := (List.getElem?_eq_some_iff.1 hp).1; omega
  obtain ⟨k0, k1, k2⟩ := celQ_get ps hp
  rw [← h9] at k0 k1 k2
  rw [List.getElem?_take, if_pos (by omega), Array.getElem?_toList] at k0 k1 k2
  exact ⟨k0, k1, k2⟩
end Go.Proofs.YtbbicappjicblaaGreatDoor
