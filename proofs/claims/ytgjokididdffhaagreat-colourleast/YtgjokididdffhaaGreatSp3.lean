/- Si4 -/
import Derived.Test.YtgjokididdffhaaGreatSp2
import Derived.Test.YtgjokididdffhaaGreatSi3
import Derived.Deep.RegionHeld3
namespace Go.Proofs.YtgjokididdffhaaGreat
open Go.RowKit Go.Deep
set_option linter.unusedVariables false
structure BoxP (w : World) (X : Nat) (vs : List Value) : Prop where
  all : ∀ q u, vs[q]? = some u → w.cell? ⟨X, q, none⟩ = some u ∧ w.frozen? ⟨X, q, none⟩ = false
  lt : X < w.heap.size
theorem Chg.frzP {S : Nat → Prop} {w w' : World} (h : Chg S w w') {b i : Nat} (hb : b < w.heap.size) (hs : ¬ S b) : w'.frozen? ⟨b, i, none⟩ = w.frozen? ⟨b, i, none⟩ := by
  unfold World.frozen?
  rw [h.block b hb hs]
theorem BoxP.chg {S : Nat → Prop} {w w' : World} {X : Nat} {vs : List Value} (h : BoxP w X vs) (k : Chg S w w') (hs : ¬ S X) : BoxP w' X vs :=
  ⟨fun q u hq => ⟨k.cell hs (h.all q u hq).1, by rw [k.frzP h.lt hs]; exact (h.all q u hq).2⟩, Nat.lt_of_lt_of_le h.lt k.size⟩
theorem BoxP.below {w w' : World} {X : Nat} {vs : List Value} (h : BoxP w X vs) (k : Below w.heap.size w w') : BoxP w' X vs := h.chg (S := fun _ => False) (Chg.of_below k) (fun x => x)
theorem BoxP.put {w : World} {X : Nat} {vs : List Value} (h : BoxP w X vs) (q : Nat) (u : Value) : BoxP (w.setCell ⟨X, q, none⟩ u) X (vs.set q u) := by
  refine ⟨fun p x hp => ?_, by simpa using h.lt⟩
  rw [World.frozen?_setCell]
  rw [List.getElem?_set] at hp
  by_cases e : q = p
  · subst e
    rw [if_pos rfl] at hp
    split at hp
    · rename_i hl
      obtain ⟨y, hy⟩ : ∃ y, vs[q]? = some y := ⟨_, List.getElem?_eq_getElem hl⟩
      have h1 := h.all q y hy
      obtain rfl := Option.some.inj hp
      exact ⟨World.cell?_setCell_same _ _ _ h1.1, h1.2⟩
    · cases hp
  · rw [if_neg e] at hp
    have h1 := h.all p x hp
    exact ⟨by rw [World.cell?_setCell_other _ _ _ _ (by intro c; simp at c; try omega)]; exact h1.1, h1.2⟩
theorem BoxP.other {w : World} {X : Nat} {vs : List Value} (h : BoxP w X vs) {Y : Nat} (q : Nat) (u : Value) (hn : X ≠ Y) : BoxP (w.setCell ⟨Y, q, none⟩ u) X vs :=
  h.chg (S := fun j => j = Y) (Chg.of_set _ _ _ _ rfl) hn
theorem BoxP.made (w : World) (vs : Array Value) (e : TypeId) : BoxP (w.alloc (.cells vs e)) w.heap.size vs.toList := by
  refine ⟨fun q u hq => ?_, by simp⟩
  have hq' : vs[q]? = some u := by simpa using hq
  exact ⟨by simp [hq'], by simp⟩
theorem GivI.own_lt {w : World} {B : Nat} {v0 v1 : Value} {es : List EntI} {rs : Nat → Value} (h : GivI w B v0 v1 es rs) {k : Nat} (hk : Own B v0 v1 k) : k < w.heap.size := by
  rcases hk with rfl | hk | hk
  · exact h.cell0.2.2.2.2
  · exact (Go.Proofs.YtgjokididdffhaaGreat.own_ge h.own0 k hk).2
  · exact (Go.Proofs.YtgjokididdffhaaGreat.own_ge h.own1 k hk).2
theorem GivI.own_ge {w : World} {B : Nat} {v0 v1 : Value} {es : List EntI} {rs : Nat → Value} (h : GivI w B v0 v1 es rs) {k : Nat} (hk : Own B v0 v1 k) : B ≤ k := by
  rcases hk with rfl | hk | hk
  · exact Nat.le_refl _
  · have := (Go.Proofs.YtgjokididdffhaaGreat.own_ge h.own0 k hk).1; omega
  · have := (Go.Proofs.YtgjokididdffhaaGreat.own_ge h.own1 k hk).1; omega
theorem EntOkI.ne {w : World} {B : Nat} {v0 v1 : Value} {e : EntI} (h : EntOkI w B v0 v1 e) {R : Nat} {a : Option Addr} {n c : Nat} (hR : w.cell? ⟨R, 2, none⟩ = some (.slice a n c)) : ¬ e.b = R ∧ ¬ e.b0 = R := by
  have k : ∀ {b c' : Nat}, SlI w (some ⟨b, 0, none⟩) (e.xs.length + 3) c' (e.xs ++ marksI) → ¬ b = R := by
    intro b c' hs hb
    obtain ⟨b2, o2, e2, hc⟩ := hs.at (by omega)
    injection e2 with e3
    injection e3 with e4 e5 e6
    subst e4 e5 hb
    have := hc 2 (by omega)
    rw [Nat.zero_add, hR] at this
    cases this
  exact ⟨k h.sl, k h.sl0⟩
theorem GivI.setR {w w' : World} {B : Nat} {v0 v1 : Value} {es : List EntI} {rs : Nat → Value} (h : GivI w B v0 v1 es rs) {R : Nat} {a : Option Addr} {n c : Nat} (hR : w.cell? ⟨R, 2, none⟩ = some (.slice a n c)) (hc : Chg (fun j => j = R) w w') (hO : ¬ Own B v0 v1 R) : GivI w' B v0 v1 es rs :=
  h.chg hc (fun e => hO (by rw [← e]; exact .inl rfl)) (fun k hk e => hO (by rw [← e]; exact .inr (.inl hk))) (fun k hk e => hO (by rw [← e]; exact .inr (.inr hk))) (fun e he => (h.ents e he).ne hR)
structure GpPost (w w' : World) (B : Nat) (v0 v1 v0' v1' : Value) (es : List EntI) (rs : Nat → Value) (x y : List Int) (E1 E2 : EntI) : Prop where
  x1 : E1.xs = x
  x2 : E2.xs = y
  n1 : w.heap.size ≤ E1.b ∧ w.heap.size ≤ E1.b0
  n2 : w.heap.size ≤ E2.b ∧ w.heap.size ≤ E2.b0
  giv : GivI w' B v0' v1' (es ++ [E1] ++ [E2]) rs
  chg : Chg (Own B v0 v1) w w'
  safe : ∀ k, k < w.heap.size → ¬ Own B v0 v1 k → ¬ Own B v0' v1' k
set_option maxRecDepth 100000 in
set_option maxHeartbeats 16000000 in
theorem gpat_any (B : Nat) (v0 v1 : Value) (es : List EntI) (rs : Nat → Value) (rows width : Int) (a : Option Addr) (n c : Nat) (x : List Int) (b : Option Addr) (m d : Nat) (y : List Int) (w : World) (h : GivI w B v0 v1 es rs) (hx : SlI w a n c x) (hy : SlI w b m d y) (lo : ∀ z, b = some z → y ≠ [] → z.block < B) (hn : n ≤ 17592186044000) (hm : m ≤ 17592186044000) (he : es.length ≤ 5700000000000) :
    Calls Tryz.prog 26 #[.pointer (some ⟨B, 0, none⟩), patV rows width a n c b m d] w fun e w' => ∃ v, e = .returned v ∧ ∃ v0' v1' E1 E2, v = patV rows width (some ⟨EntI.b E1, 0, none⟩) n E1.c (some ⟨EntI.b E2, 0, none⟩) m E2.c ∧ GpPost w w' B v0 v1 v0' v1' es rs x y E1 E2 := by
  obtain ⟨wa, hwa⟩ : ∃ x, w.alloc (.cells #[.int .i64 rows, .int .i64 width, .slice a n c, .slice b m d] 25) = x := ⟨_, rfl⟩
  obtain ⟨wo, hwo⟩ : ∃ x, wa.alloc (.cells #[.int .i64 0, .int .i64 0, .slice none 0 0, .slice none 0 0] 25) = x := ⟨_, rfl⟩
  have hba : Below w.heap.size w wa := by rw [← hwa]; exact (Below.refl _ _).alloc (Nat.le_refl _) _
  have hbo : Below wa.heap.size wa wo := by rw [← hwo]; exact (Below.refl _ _).alloc (Nat.le_refl _) _
  have hPB : BoxP wo w.heap.size [.int .i64 rows, .int .i64 width, .slice a n c, .slice b m d] := by have := BoxP.made w #[.int .i64 rows, .int .i64 width, .slice a n c, .slice b m d] 25; rw [hwa] at this; exact this.below hbo
  have hT : BoxP wo wa.heap.size [.int .i64 0, .int .i64 0, .slice none 0 0, .slice none 0 0] := by have := BoxP.made wa #[.int .i64 0, .int .i64 0, .slice none 0 0, .slice none 0 0] 25; rw [hwo] at this; exact this
  have hB := hba.trans (hbo.mono hba.size)
  have hO := h.below hB
  have p0 := (hPB.all 0 _ rfl).1
  have p1 := (hPB.all 1 _ rfl).1
  have p2 := (hPB.all 2 _ rfl).1
  have p3 := (hPB.all 3 _ rfl).1
  have hlt : w.heap.size < wa.heap.size := by rw [← hwa]; simp
  have hlt2 : wa.heap.size < wo.heap.size := hT.lt
  have hnb : ¬ Own B v0 v1 w.heap.size := fun ho => by have := h.own_lt ho; omega
  have hnr : ¬ Own B v0 v1 wa.heap.size := fun ho => by have := h.own_lt ho; omega
  have HK1 := hide (fun (W : World) (hb : Below wo.heap.size wo W) => gints_any B v0 v1 es rs a n c x W (hO.below hb) ((hx.below hB).below hb) hn (by omega))
  have HY := hide (And.intro (hy.below hB) (fun z hz hne ho => by have := h.own_ge ho; have := lo z hz hne; omega : ∀ z, b = some z → y ≠ [] → ¬ Own B v0 v1 z.block))
  have hne1 : w.heap.size ≠ wa.heap.size := by omega
  have hne3 : wa.heap.size ≠ w.heap.size := by omega
  have HW := hide (And.intro hB.size (And.intro hnb (And.intro hnr (And.intro hlt hlt2))))
  have HT := hide hT
  have HPB := hide hPB
  have HCB := hide (show Chg (Own B v0 v1) w wo from Chg.of_below hB)
  have HE := hide he
  clear hba hbo hB hnb hnr hT hO h hx hy lo he hPB
  unfold patV
  go_enter Tryz.func26, Tryz.ntmps26
  go_wp2_with fail
  go_region_held3 (fun w' => w'.cell? ⟨w.heap.size, 0, none⟩ = some (.int .i64 rows) ∧ w'.cell? ⟨w.heap.size, 1, none⟩ = some (.int .i64 width) ∧ w'.cell? ⟨w.heap.size, 2, none⟩ = some (.slice a n c) ∧ w'.cell? ⟨w.heap.size, 3, none⟩ = some (.slice b m d)) (first | go_keep | (exact ⟨k0, k1, k2, k3⟩) | (exact ⟨j0, j1, j2, j3⟩))
    (first
      | (go_at_call_of 29 (Value.slice a n c); refine (unhide HK1 _ (Below.refl _ _).drew).mono ?_; rintro _ wk ⟨u0, u1, E1, rfl, hx1, hE1, hL1, hc1, hs1⟩; have hcd : Chg (Own B v0 v1) wo wk := (Chg.of_drew wo).trans hc1; have hP1 := (unhide HPB).chg hcd (unhide HW).2.1; have k0 := (hP1.all 0 _ rfl).1; have k1 := (hP1.all 1 _ rfl).1; have k2 := (hP1.all 2 _ rfl).1; have k3 := (hP1.all 3 _ rfl).1; have hT1 := (unhide HT).chg hcd (unhide HW).2.2.1; have HS1 := hide (And.intro hL1 (And.intro (And.intro hx1 (show wo.heap.size ≤ E1.b ∧ wo.heap.size ≤ E1.b0 from hE1)) (And.intro (hs1 w.heap.size (by have := (unhide HW).2.2.2; simp; omega) (unhide HW).2.1) (And.intro (hs1 wa.heap.size (by have := (unhide HW).2.2.2; simp; omega) (unhide HW).2.2.1) (And.intro hT1 (And.intro hcd.size (And.intro hP1 ((unhide HY).1.chg hcd (unhide HY).2)))))))); have HC1 := hide (And.intro hcd hs1); clear hL1 hx1 hE1 hc1 hs1 hcd hT1 hP1)
      | (go_at_call_of 29 (Value.slice b m d); refine (gints_any B u0 u1 (es ++ [E1]) rs b m d y _ (unhide HS1).1 (unhide HS1).2.2.2.2.2.2.2 hm (by have := unhide HE; simp; omega)).mono ?_; rintro _ wj ⟨z0, z1, E2, rfl, hx2, hE2, hL2, hc2, hs2⟩; have hP2 := (unhide HS1).2.2.2.2.2.2.1.chg hc2 (unhide HS1).2.2.1; have j0 := (hP2.all 0 _ rfl).1; have j1 := (hP2.all 1 _ rfl).1; have j2 := (hP2.all 2 _ rfl).1; have j3 := (hP2.all 3 _ rfl).1; have hT2 := (unhide HS1).2.2.2.2.1.chg hc2 (unhide HS1).2.2.2.1; have HO3 := hide hT2; have q0 := (hT2.all 0 _ rfl).1; have q1 := (hT2.all 1 _ rfl).1; have q2 := (hT2.all 2 _ rfl).1; have q3 := (hT2.all 3 _ rfl).1; have r0 := (hT2.all 0 _ rfl).2; have r1 := (hT2.all 1 _ rfl).2; have r2 := (hT2.all 2 _ rfl).2; have r3 := (hT2.all 3 _ rfl).2; have HS2 := hide (And.intro hL2 (And.intro (unhide HS1).2.1 (And.intro (And.intro hx2 (show wo.heap.size ≤ E2.b ∧ wo.heap.size ≤ E2.b0 from ⟨Nat.le_trans (unhide HS1).2.2.2.2.2.1 hE2.1, Nat.le_trans (unhide HS1).2.2.2.2.2.1 hE2.2⟩)) (hs2 wa.heap.size (unhide HS1).2.2.2.2.1.lt (unhide HS1).2.2.2.1)))); have HC2 := hide (And.intro hc2 hs2); clear hL2 hx2 hE2 hc2 hs2 hT2 hP2))
  clear q0 q1 q2 q3 r0 r1 r2 r3
  try go_wp2_with fail
  have hf := (((unhide HO3).put 0 (.int .i64 rows)).put 1 (.int .i64 width)).put 2 (.slice (some ⟨E1.b, 0, none⟩) n E1.c) |>.put 3 (.slice (some ⟨E2.b, 0, none⟩) m E2.c)
  have t0 := (hf.all 0 _ rfl).1
  have t1 := (hf.all 1 _ rfl).1
  have t2 := (hf.all 2 _ rfl).1
  have t3 := (hf.all 3 _ rfl).1
  have c4 : Chg (fun j => j = wa.heap.size) wj ((((wj.setCell ⟨wa.heap.size, 0, none⟩ (.int .i64 rows)).setCell ⟨wa.heap.size, 1, none⟩ (.int .i64 width)).setCell ⟨wa.heap.size, 2, none⟩ (.slice (some ⟨E1.b, 0, none⟩) n E1.c)).setCell ⟨wa.heap.size, 3, none⟩ (.slice (some ⟨E2.b, 0, none⟩) m E2.c)) := (((Chg.of_set (S := fun j => j = wa.heap.size) _ _ _ _ rfl).trans (Chg.of_set (S := fun j => j = wa.heap.size) _ _ _ _ rfl)).trans (Chg.of_set (S := fun j => j = wa.heap.size) _ _ _ _ rfl)).trans (Chg.of_set (S := fun j => j = wa.heap.size) _ _ _ _ rfl)
  generalize (((wj.setCell ⟨wa.heap.size, 0, none⟩ (.int .i64 rows)).setCell ⟨wa.heap.size, 1, none⟩ (.int .i64 width)).setCell ⟨wa.heap.size, 2, none⟩ (.slice (some ⟨E1.b, 0, none⟩) n E1.c)).setCell ⟨wa.heap.size, 3, none⟩ (.slice (some ⟨E2.b, 0, none⟩) m E2.c) = wf at *
  refine bodyPost_ret (by simp [results, Tryz.results26, go_sem, t0, t1, t2, t3]; try rfl) rfl ?_
  obtain ⟨hL2, ⟨hX1, hE1⟩, ⟨hX2, hE2⟩, hNR⟩ := unhide HS2
  refine ⟨_, rfl, _, _, E1, E2, rfl, ⟨hX1, hX2, ?_, ?_, hL2.setR ((unhide HO3).all 2 _ rfl).1 c4 hNR, ?_, ?_⟩⟩
  · have := (unhide HW).1; omega
  · have := (unhide HW).1; omega
  · have hB := unhide HCB
    have hcd := (unhide HC1).1
    have hc2 := (unhide HC2).1
    refine ⟨c4.os.trans (hc2.os.trans (hcd.os.trans hB.os)), c4.tape.trans (hc2.tape.trans (hcd.tape.trans hB.tape)), c4.output.trans (hc2.output.trans (hcd.output.trans hB.output)), Nat.le_trans hB.size (Nat.le_trans hcd.size (Nat.le_trans hc2.size c4.size)), fun k hk hS => ?_⟩
    have k1 : k < wo.heap.size := Nat.lt_of_lt_of_le hk hB.size
    have k2 : k < wk.heap.size := Nat.lt_of_lt_of_le k1 hcd.size
    have k3 : k < wj.heap.size := Nat.lt_of_lt_of_le k2 hc2.size
    rw [c4.block k k3 (fun e => by have := (unhide HW).2.2.2.1; omega), hc2.block k k2 ((unhide HC1).2 k k1 hS), hcd.block k k1 hS, hB.block k hk hS]
  · intro k hk hS
    have k1 : k < wo.heap.size := Nat.lt_of_lt_of_le hk (unhide HCB).size
    exact (unhide HC2).2 k (Nat.lt_of_lt_of_le k1 (unhide HC1).1.size) ((unhide HC1).2 k k1 hS)
theorem SlI.front {w : World} {a : Option Addr} {c : Nat} {xs ys : List Int} (h : SlI w a (xs.length + 3) c (xs ++ ys)) {n : Nat} {x : List Int} (hx : xs = x) (hn : x.length = n) : SlI w a n c x := by
  subst hx
  refine ⟨hn, by have := h.le; omega, h.cap, ?_⟩
  rcases h.cells with e | ⟨b, off, e, k⟩
  · left
    exact (List.append_eq_nil_iff.1 e).1
  · right
    refine ⟨b, off, e, fun i hi => ?_⟩
    have := k i (by simp; omega)
    rw [this]
    congr 2
    simp [List.getD, List.getElem?_append_left hi]
def TruQ (b : Bool) (P : Prop) : Prop := b = true ↔ P
theorem BIs.known {P : Prop} {w w' : World} {e : Ending} {b : Bool} (hb : TruQ b P) (h : BIs P w w' e) : e = .returned (.bool b) ∧ Below w.heap.size w w' := by
  obtain ⟨⟨b', rfl, hb'⟩, k⟩ := h
  have : b' = b := by
    have := hb'.trans (Iff.symm hb)
    cases b <;> cases b' <;> simp_all
  rw [this]
  exact ⟨rfl, k⟩
theorem GivI.sli {w : World} {B : Nat} {v0 v1 : Value} {is : List EntI} {rs : Nat → Value} (h : GivI w B v0 v1 is rs) {E : EntI} (hE : E ∈ is) {x : List Int} {n : Nat} (hx : E.xs = x) (hn : x.length = n) : SlI w (some ⟨E.b, 0, none⟩) n E.c x := (h.ents E hE).sl.front hx hn
def RoV (w : World) (b n : Nat) (f : Nat → Value) : Prop := ∀ i, i < n → w.cell? ⟨b, i, none⟩ = some (f i) ∧ w.frozen? ⟨b, i, none⟩ = false
theorem RoV.made (w : World) (n : Nat) (e : TypeId) (z : Value) : RoV (w.alloc (.cells (madeCells #[z] n) e)) w.heap.size n (fun _ => z) := by
  intro i hi
  refine ⟨?_, by simp⟩
  simp [madeCells, hi, Nat.mod_one]
theorem RoV.chg {S : Nat → Prop} {w w' : World} {b n : Nat} {f : Nat → Value} (h : RoV w b n f) (k : Chg S w w') (hs : ¬ S b) : RoV w' b n f := fun i hi => ⟨k.cell hs (h i hi).1, by rw [k.frzP (World.block_lt_of_cell? _ _ (h i hi).1) hs]; exact (h i hi).2⟩
theorem RoV.below {w w' : World} {b n : Nat} {f : Nat → Value} (h : RoV w b n f) (k : Below w.heap.size w w') : RoV w' b n f := h.chg (S := fun _ => False) (Chg.of_below k) (fun x => x)
theorem RoV.put {w : World} {b n : Nat} {f : Nat → Value} (h : RoV w b n f) (k : Nat) (v : Value) (hk : k < n) : RoV (w.setCell ⟨b, k, none⟩ v) b n (fun i => if i = k then v else f i) := by
  intro i hi
  rw [World.frozen?_setCell]
  refine ⟨?_, (h i hi).2⟩
  by_cases e : i = k
  · subst e
    simp only [if_true]
    exact World.cell?_setCell_same _ _ _ (h i hi).1
  · simp only [e, if_false]
    rw [World.cell?_setCell_other _ _ _ _ (by intro c; simp at c; first | done | omega)]
    exact (h i hi).1
theorem RoV.congr {w : World} {b n : Nat} {f g : Nat → Value} (h : RoV w b n f) (e : ∀ i, i < n → f i = g i) : RoV w b n g := fun i hi => by rw [← e i hi]; exact h i hi
noncomputable def tb (P : Prop) : Bool := @decide P (Classical.propDecidable P)
theorem tb_iff {P : Prop} : tb P = true ↔ P := by unfold tb; exact @decide_eq_true_iff P (Classical.propDecidable P)
theorem tb_yes {P : Prop} (h : P) : tb P = true := tb_iff.2 h
theorem tb_no {P : Prop} (h : ¬ P) : tb P = false := by cases hk : tb P; rfl; exact absurd (tb_iff.1 hk) h
theorem tb_congr {P Q : Prop} (h : P ↔ Q) : tb P = tb Q := by by_cases p : P; rw [tb_yes p, tb_yes (h.1 p)]; rw [tb_no p, tb_no (fun q => p (h.2 q))]
theorem Tryz.info_boolP : (Tryz.prog.info? 4).map (fun i => (i.zero, i.size, i.bytes)) = some (some (.bool false), 1, 1) := by kernel_rfl
theorem make_boolsP (n : Nat) (hn : n ≤ 35184372088000) (w : World) : (Instr.makeSlice 32 (.int .i64 (n : Int)) (.int .i64 (n : Int))).run Tryz.prog w = .ok (.slice (some ⟨w.heap.size, 0, none⟩) n n) (w.alloc (.cells (madeCells #[.bool false] n) 4)) :=
  run_make_row' (P := Tryz.prog) 32 4 (.bool false) 1 Tryz.underlying32 Tryz.info_boolP rfl .i64 .i64 n (by omega) (by omega) w
def gridV (rows width : Nat) (b n : Nat) : Value := .agg #[.int .i64 (rows : Int), .int .i64 (width : Int), .slice (some ⟨b, 0, none⟩) n n]
set_option maxRecDepth 100000 in
set_option maxHeartbeats 16000000 in
theorem wempty_any (rows width : Nat) (w : World) (hr : rows ≤ 128) (hw : width ≤ 128) :
    Calls Tryz.prog 78 #[.int .i64 (rows : Int), .int .i64 (width : Int)] w fun e w' => ∃ b, e = .returned (gridV rows width b (rows * width)) ∧ w.heap.size ≤ b ∧ b < w'.heap.size ∧ RoV w' b (rows * width) (fun _ => .bool false) ∧ Below w.heap.size w w' := by
  obtain ⟨m, hm⟩ : ∃ m, rows * width = m := ⟨_, rfl⟩
  have hm1 : (rows : Int) * (width : Int) = (m : Int) := by rw [← hm]; simp
  have hm2 : m ≤ 16384 := by rw [← hm]; exact Nat.mul_le_mul hr hw
  have hmk := make_boolsP m (by omega)
  rw [hm]
  have HM := hide hm
  clear hm
  have hT0 := BoxP.made w #[.int .i64 0, .int .i64 0, .slice none 0 0] 131
  obtain ⟨wo, hwo⟩ : ∃ x, w.alloc (.cells #[.int .i64 0, .int .i64 0, .slice none 0 0] 131) = x := ⟨_, rfl⟩
  have hbo : Below w.heap.size w wo := by rw [← hwo]; exact (Below.refl _ _).alloc (Nat.le_refl _) _
  rw [hwo] at hT0
  have hR := RoV.made wo m 4 (.bool false)
  obtain ⟨wm, hwm⟩ : ∃ x, wo.alloc (.cells (madeCells #[.bool false] m) 4) = x := ⟨_, rfl⟩
  have hbm : Below wo.heap.size wo wm := by rw [← hwm]; exact (Below.refl _ _).alloc (Nat.le_refl _) _
  rw [hwm] at hR
  have hT := hT0.below hbm
  have q0 := (hT.all 0 _ rfl).1
  have q1 := (hT.all 1 _ rfl).1
  have q2 := (hT.all 2 _ rfl).1
  have r0 := (hT.all 0 _ rfl).2
  have r1 := (hT.all 1 _ rfl).2
  have r2 := (hT.all 2 _ rfl).2
  have hmk2 := hmk wo
  rw [hwm] at hmk2
  have HT := hide hT
  have HR := hide hR
  have HB := hide (hbo.trans (hbm.mono hbo.size))
  have HLT := hide (show w.heap.size < wo.heap.size ∧ wo.heap.size < wm.heap.size from ⟨hT0.lt, by rw [← hwm]; simp⟩)
  clear hT hT0 hR hbo hbm hmk
  go_enter Tryz.func78, Tryz.ntmps78
  go_wp2_with fail
  have hf := (((unhide HT).put 0 (.int .i64 (rows : Int))).put 1 (.int .i64 (width : Int))).put 2 (.slice (some ⟨wo.heap.size, 0, none⟩) m m)
  have t0 := (hf.all 0 _ rfl).1
  have t1 := (hf.all 1 _ rfl).1
  have t2 := (hf.all 2 _ rfl).1
  have c3 : Chg (fun j => j = w.heap.size) wm (((wm.setCell ⟨w.heap.size, 0, none⟩ (.int .i64 (rows : Int))).setCell ⟨w.heap.size, 1, none⟩ (.int .i64 (width : Int))).setCell ⟨w.heap.size, 2, none⟩ (.slice (some ⟨wo.heap.size, 0, none⟩) m m)) := ((Chg.of_set (S := fun j => j = w.heap.size) _ _ _ _ rfl).trans (Chg.of_set (S := fun j => j = w.heap.size) _ _ _ _ rfl)).trans (Chg.of_set (S := fun j => j = w.heap.size) _ _ _ _ rfl)
  generalize ((wm.setCell ⟨w.heap.size, 0, none⟩ (.int .i64 (rows : Int))).setCell ⟨w.heap.size, 1, none⟩ (.int .i64 (width : Int))).setCell ⟨w.heap.size, 2, none⟩ (.slice (some ⟨wo.heap.size, 0, none⟩) m m) = wf at *
  refine bodyPost_ret (by simp [results, Tryz.results78, go_sem, t0, t1, t2]; try rfl) rfl ?_
  exact ⟨wo.heap.size, rfl, Nat.le_of_lt (unhide HLT).1, Nat.lt_of_lt_of_le (unhide HLT).2 c3.size, (unhide HR).chg c3 (fun e => by have := unhide HLT; omega), (unhide HB).trans (c3.below (unhide HB).size (fun k hk e => by omega))⟩
set_option maxRecDepth 100000 in
set_option maxHeartbeats 16000000 in
theorem wat_any (rows width b n r c : Nat) (P : Nat → Bool) (w : World) (hw : width ≤ 128) (hr : r < 128) (hc : c < 128) (hn : r * width + c < n) (hn2 : n ≤ 16384) (hR : RoV w b n (fun i => .bool (P i))) :
    Calls Tryz.prog 77 #[gridV rows width b n, .int .i64 (r : Int), .int .i64 (c : Int)] w fun e w' => e = .returned (.bool (P (r * width + c))) ∧ Below w.heap.size w w' := by
  obtain ⟨wb, hwb⟩ : ∃ x, w.alloc (.cells #[.int .i64 (rows : Int), .int .i64 (width : Int), .slice (some ⟨b, 0, none⟩) n n] 131) = x := ⟨_, rfl⟩
  have bb : Below w.heap.size w wb := by rw [← hwb]; exact (Below.refl _ _).alloc (Nat.le_refl _) _
  have hT := BoxP.made w #[.int .i64 (rows : Int), .int .i64 (width : Int), .slice (some ⟨b, 0, none⟩) n n] 131
  rw [hwb] at hT
  have q0 := (hT.all 0 _ rfl).1
  have q1 := (hT.all 1 _ rfl).1
  have q2 := (hT.all 2 _ rfl).1
  obtain ⟨m, hm⟩ : ∃ m, r * width = m := ⟨_, rfl⟩
  obtain ⟨x, hx⟩ : ∃ x, m + c = x := ⟨_, rfl⟩
  have hm1 : (r : Int) * (width : Int) = (m : Int) := by rw [← hm]; simp
  have hx1 : (m : Int) + (c : Int) = (x : Int) := by omega
  rw [hm, hx] at hn ⊢
  have hxn : (x : Int) < (n : Int) := by omega
  have hcell := ((hR.below bb) x hn).1
  have hm2 : m ≤ 16384 := by rw [← hm]; exact Nat.le_trans (Nat.mul_le_mul (Nat.le_of_lt hr) hw) (by omega)
  obtain ⟨v, hv⟩ : ∃ v, P x = v := ⟨_, rfl⟩
  rw [hv] at hcell ⊢
  have HB := hide bb
  clear bb hT hR hm hx hv
  unfold gridV
  go_enter Tryz.func77, Tryz.ntmps77
  go_wp2_with fail
  go_ret
  exact ⟨rfl, unhide HB⟩
end Go.Proofs.YtgjokididdffhaaGreat
