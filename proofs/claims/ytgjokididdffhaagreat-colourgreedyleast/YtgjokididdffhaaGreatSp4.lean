/- Giv3 -/
import Derived.Test.YtgjokididdffhaaGreatSa0
import Derived.Test.YtgjokididdffhaaGreatSi2
import Derived.Test.YtgjokididdffhaaGreatSa4
import Derived.Deep.RegionHeld3
namespace Go.Proofs.YtgjokididdffhaaGreat
open Go.RowKit Go.Deep
set_option linter.unusedVariables false

set_option maxRecDepth 100000 in
set_option maxHeartbeats 8000000 in
theorem sameInts_eq (a1 a2 : Option Addr) (n c1 c2 : Nat) (xs : List Int) (w : World) (h1 : SlI w a1 n c1 xs) (h2 : SlI w a2 n c2 xs) (hn : n ≤ 140737488355328) :
    Calls Tryz.prog 32 #[.slice a1 n c1, .slice a2 n c2] w fun e w' => e = .returned (.bool true) ∧ ∃ m, w' = w.drewN m := by
  have tn : ((n:Int) != (n:Int)) = false := by simp
  have H1 := hide h1
  have H2 := hide h2
  clear h1 h2
  go_enter Tryz.func32, Tryz.ntmps32
  go_wp2_with fail
  go_loopw [5] (fun iv wr => ∃ q : Nat, q ≤ n ∧ iv = .int .i64 (q : Nat) ∧ Hid (Dr w wr)) (fun iv _ => n - (intOf iv).toNat)
  case atStart => exact ⟨0, Nat.zero_le _, rfl, Dr.refl _⟩
  case round =>
    obtain ⟨q, hq, rfl, HW⟩ := hrel
    by_cases hlt : q < n
    · have hlt' : (q:Int) < (n:Int) := by omega
      obtain ⟨g1, o1, rfl, k1⟩ := ((unhide H1).below (unhide HW).below).at (by omega)
      obtain ⟨g2, o2, rfl, k2⟩ := ((unhide H2).below (unhide HW).below).at (by omega)
      have z1 := k1 q hlt
      have z2 := k2 q hlt
      generalize xs.getD q 0 = x at *
      have tx : ((x:Int) != x) = false := by simp
      clear k1 k2
      go_wp2_with fail
      go_quiet (fail)
      go_wp2_with fail
      exact ⟨⟨q + 1, by omega, by (first | rfl | go_num), hide ((unhide HW).n _)⟩, by simp [intOf]; omega⟩
    · have hq2 : q = n := by omega
      subst hq2
      have hlt' : ¬ (q:Int) < (q:Int) := by omega
      go_wp2_with fail
      go_ret
      exact ⟨rfl, unhide HW⟩
structure BoxP (w : World) (X : Nat) (vs : List Value) : Prop where
  all : ∀ q u, vs[q]? = some u → w.cell? ⟨X, q, none⟩ = some u ∧ w.frozen? ⟨X, q, none⟩ = false
  lt : X < w.heap.size
theorem Chg.frzP {S : Nat → Prop} {w w' : World} (h : Chg S w w') {b i : Nat} (hb : b < w.heap.size) (hs : ¬ S b) : w'.frozen? ⟨b, i, none⟩ = w.frozen? ⟨b, i, none⟩ := by
  unfold World.frozen?
  rw [h.block b hb hs]
theorem BoxP.chg {S : Nat → Prop} {w w' : World} {X : Nat} {vs : List Value} (h : BoxP w X vs) (k : Chg S w w') (hs : ¬ S X) : BoxP w' X vs :=
  ⟨fun q u hq => ⟨k.cell hs (h.all q u hq).1, by rw [k.frzP h.lt hs]; exact (h.all q u hq).2⟩, Nat.lt_of_lt_of_le h.lt k.size⟩
theorem BoxP.below {w w' : World} {X : Nat} {vs : List Value} (h : BoxP w X vs) (k : Below w.heap.size w w') : BoxP w' X vs := h.chg (S := fun _ => False) (Chg.of_below k) (fun x => x)
theorem BoxP.put {w : World} {X : Nat} {vs : List Value} (h : BoxP w X vs) (q : Nat) (u : Value) : BoxP (w.setCell ⟨X, q, none⟩ u) X (vs.set q u) := by
  refine ⟨fun p x hp => ?_, by simpa using h.lt⟩
  rw [World.frozen?_setCell]
  rw [List.getElem?_set] at hp
  by_cases e : q = p
  · subst e
    rw [if_pos rfl] at hp
    split at hp
    · rename_i hl
      obtain ⟨y, hy⟩ : ∃ y, vs[q]? = some y := ⟨_, List.getElem?_eq_getElem hl⟩
      have h1 := h.all q y hy
      obtain rfl := Option.some.inj hp
      exact ⟨World.cell?_setCell_same _ _ _ h1.1, h1.2⟩
    · cases hp
  · rw [if_neg e] at hp
    have h1 := h.all p x hp
    exact ⟨by rw [World.cell?_setCell_other _ _ _ _ (by intro c; simp at c; try omega)]; exact h1.1, h1.2⟩
theorem BoxP.other {w : World} {X : Nat} {vs : List Value} (h : BoxP w X vs) {Y : Nat} (q : Nat) (u : Value) (hn : X ≠ Y) : BoxP (w.setCell ⟨Y, q, none⟩ u) X vs :=
  h.chg (S := fun j => j = Y) (Chg.of_set _ _ _ _ rfl) hn
theorem BoxP.made (w : World) (vs : Array Value) (e : TypeId) : BoxP (w.alloc (.cells vs e)) w.heap.size vs.toList := by
  refine ⟨fun q u hq => ?_, by simp⟩
  have hq' : vs[q]? = some u := by simpa using hq
  exact ⟨by simp [hq'], by simp⟩
theorem GivI.own_lt {w : World} {B : Nat} {v0 v1 : Value} {es : List EntI} {rs : Nat → Value} (h : GivI w B v0 v1 es rs) {k : Nat} (hk : Own B v0 v1 k) : k < w.heap.size := by
  rcases hk with rfl | hk | hk
  · exact h.cell0.2.2.2.2
  · exact (Go.Proofs.YtgjokididdffhaaGreat.own_ge h.own0 k hk).2
  · exact (Go.Proofs.YtgjokididdffhaaGreat.own_ge h.own1 k hk).2
theorem GivI.own_ge {w : World} {B : Nat} {v0 v1 : Value} {es : List EntI} {rs : Nat → Value} (h : GivI w B v0 v1 es rs) {k : Nat} (hk : Own B v0 v1 k) : B ≤ k := by
  rcases hk with rfl | hk | hk
  · exact Nat.le_refl _
  · have := (Go.Proofs.YtgjokididdffhaaGreat.own_ge h.own0 k hk).1; omega
  · have := (Go.Proofs.YtgjokididdffhaaGreat.own_ge h.own1 k hk).1; omega
theorem EntOkI.ne {w : World} {B : Nat} {v0 v1 : Value} {e : EntI} (h : EntOkI w B v0 v1 e) {R : Nat} {a : Option Addr} {n c : Nat} (hR : w.cell? ⟨R, 2, none⟩ = some (.slice a n c)) : ¬ e.b = R ∧ ¬ e.b0 = R := by
  have k : ∀ {b c' : Nat}, SlI w (some ⟨b, 0, none⟩) (e.xs.length + 3) c' (e.xs ++ marksI) → ¬ b = R := by
    intro b c' hs hb
    obtain ⟨b2, o2, e2, hc⟩ := hs.at (by omega)
    injection e2 with e3
    injection e3 with e4 e5 e6
    subst e4 e5 hb
    have := hc 2 (by omega)
    rw [Nat.zero_add, hR] at this
    cases this
  exact ⟨k h.sl, k h.sl0⟩
theorem SlI.front {w : World} {a : Option Addr} {c : Nat} {xs ys : List Int} (h : SlI w a (xs.length + 3) c (xs ++ ys)) {n : Nat} {x : List Int} (hx : xs = x) (hn : x.length = n) : SlI w a n c x := by
  subst hx
  refine ⟨hn, by have := h.le; omega, h.cap, ?_⟩
  rcases h.cells with e | ⟨b, off, e, k⟩
  · left
    exact (List.append_eq_nil_iff.1 e).1
  · right
    refine ⟨b, off, e, fun i hi => ?_⟩
    have := k i (by simp; omega)
    rw [this]
    congr 2
    simp [List.getD, List.getElem?_append_left hi]
def TruQ (b : Bool) (P : Prop) : Prop := b = true ↔ P
theorem BIs.known {P : Prop} {w w' : World} {e : Ending} {b : Bool} (hb : TruQ b P) (h : BIs P w w' e) : e = .returned (.bool b) ∧ Below w.heap.size w w' := by
  obtain ⟨⟨b', rfl, hb'⟩, k⟩ := h
  have : b' = b := by
    have := hb'.trans (Iff.symm hb)
    cases b <;> cases b' <;> simp_all
  rw [this]
  exact ⟨rfl, k⟩
theorem GivI.sli {w : World} {B : Nat} {v0 v1 : Value} {is : List EntI} {rs : Nat → Value} (h : GivI w B v0 v1 is rs) {E : EntI} (hE : E ∈ is) {x : List Int} {n : Nat} (hx : E.xs = x) (hn : x.length = n) : SlI w (some ⟨E.b, 0, none⟩) n E.c x := (h.ents E hE).sl.front hx hn
def RoV (w : World) (b n : Nat) (f : Nat → Value) : Prop := ∀ i, i < n → w.cell? ⟨b, i, none⟩ = some (f i) ∧ w.frozen? ⟨b, i, none⟩ = false
theorem RoV.made (w : World) (n : Nat) (e : TypeId) (z : Value) : RoV (w.alloc (.cells (madeCells #[z] n) e)) w.heap.size n (fun _ => z) := by
  intro i hi
  refine ⟨?_, by simp⟩
  simp [madeCells, hi, Nat.mod_one]
theorem RoV.chg {S : Nat → Prop} {w w' : World} {b n : Nat} {f : Nat → Value} (h : RoV w b n f) (k : Chg S w w') (hs : ¬ S b) : RoV w' b n f := fun i hi => ⟨k.cell hs (h i hi).1, by rw [k.frzP (World.block_lt_of_cell? _ _ (h i hi).1) hs]; exact (h i hi).2⟩
theorem RoV.below {w w' : World} {b n : Nat} {f : Nat → Value} (h : RoV w b n f) (k : Below w.heap.size w w') : RoV w' b n f := h.chg (S := fun _ => False) (Chg.of_below k) (fun x => x)
theorem RoV.put {w : World} {b n : Nat} {f : Nat → Value} (h : RoV w b n f) (k : Nat) (v : Value) (hk : k < n) : RoV (w.setCell ⟨b, k, none⟩ v) b n (fun i => if i = k then v else f i) := by
  intro i hi
  rw [World.frozen?_setCell]
  refine ⟨?_, (h i hi).2⟩
  by_cases e : i = k
  · subst e
    simp only [if_true]
    exact World.cell?_setCell_same _ _ _ (h i hi).1
  · simp only [e, if_false]
    rw [World.cell?_setCell_other _ _ _ _ (by intro c; simp at c; first | done | omega)]
    exact (h i hi).1
theorem RoV.congr {w : World} {b n : Nat} {f g : Nat → Value} (h : RoV w b n f) (e : ∀ i, i < n → f i = g i) : RoV w b n g := fun i hi => by rw [← e i hi]; exact h i hi
noncomputable def tb (P : Prop) : Bool := @decide P (Classical.propDecidable P)
theorem tb_iff {P : Prop} : tb P = true ↔ P := by unfold tb; exact @decide_eq_true_iff P (Classical.propDecidable P)
theorem tb_yes {P : Prop} (h : P) : tb P = true := tb_iff.2 h
theorem tb_no {P : Prop} (h : ¬ P) : tb P = false := by cases hk : tb P; rfl; exact absurd (tb_iff.1 hk) h
theorem tb_congr {P Q : Prop} (h : P ↔ Q) : tb P = tb Q := by by_cases p : P; rw [tb_yes p, tb_yes (h.1 p)]; rw [tb_no p, tb_no (fun q => p (h.2 q))]
theorem Tryz.info_boolP : (Tryz.prog.info? 4).map (fun i => (i.zero, i.size, i.bytes)) = some (some (.bool false), 1, 1) := by kernel_rfl
theorem make_boolsP (n : Nat) (hn : n ≤ 35184372088000) (w : World) : (Instr.makeSlice 32 (.int .i64 (n : Int)) (.int .i64 (n : Int))).run Tryz.prog w = .ok (.slice (some ⟨w.heap.size, 0, none⟩) n n) (w.alloc (.cells (madeCells #[.bool false] n) 4)) :=
  run_make_row' (P := Tryz.prog) 32 4 (.bool false) 1 Tryz.underlying32 Tryz.info_boolP rfl .i64 .i64 n (by omega) (by omega) w
def gridV (rows width : Nat) (b n : Nat) : Value := .agg #[.int .i64 (rows : Int), .int .i64 (width : Int), .slice (some ⟨b, 0, none⟩) n n]
set_option maxRecDepth 100000 in
set_option maxHeartbeats 16000000 in
theorem wempty_any (rows width : Nat) (w : World) (hr : rows ≤ 128) (hw : width ≤ 128) :
    Calls Tryz.prog 78 #[.int .i64 (rows : Int), .int .i64 (width : Int)] w fun e w' => ∃ b, e = .returned (gridV rows width b (rows * width)) ∧ w.heap.size ≤ b ∧ b < w'.heap.size ∧ RoV w' b (rows * width) (fun _ => .bool false) ∧ Below w.heap.size w w' := by
  obtain ⟨m, hm⟩ : ∃ m, rows * width = m := ⟨_, rfl⟩
  have hm1 : (rows : Int) * (width : Int) = (m : Int) := by rw [← hm]; simp
  have hm2 : m ≤ 16384 := by rw [← hm]; exact Nat.mul_le_mul hr hw
  have hmk := make_boolsP m (by omega)
  rw [hm]
  have HM := hide hm
  clear hm
  have hT0 := BoxP.made w #[.int .i64 0, .int .i64 0, .slice none 0 0] 131
  obtain ⟨wo, hwo⟩ : ∃ x, w.alloc (.cells #[.int .i64 0, .int .i64 0, .slice none 0 0] 131) = x := ⟨_, rfl⟩
  have hbo : Below w.heap.size w wo := by rw [← hwo]; exact (Below.refl _ _).alloc (Nat.le_refl _) _
  rw [hwo] at hT0
  have hR := RoV.made wo m 4 (.bool false)
  obtain ⟨wm, hwm⟩ : ∃ x, wo.alloc (.cells (madeCells #[.bool false] m) 4) = x := ⟨_, rfl⟩
  have hbm : Below wo.heap.size wo wm := by rw [← hwm]; exact (Below.refl _ _).alloc (Nat.le_refl _) _
  rw [hwm] at hR
  have hT := hT0.below hbm
  have q0 := (hT.all 0 _ rfl).1
  have q1 := (hT.all 1 _ rfl).1
  have q2 := (hT.all 2 _ rfl).1
  have r0 := (hT.all 0 _ rfl).2
  have r1 := (hT.all 1 _ rfl).2
  have r2 := (hT.all 2 _ rfl).2
  have hmk2 := hmk wo
  rw [hwm] at hmk2
  have HT := hide hT
  have HR := hide hR
  have HB := hide (hbo.trans (hbm.mono hbo.size))
  have HLT := hide (show w.heap.size < wo.heap.size ∧ wo.heap.size < wm.heap.size from ⟨hT0.lt, by rw [← hwm]; simp⟩)
  clear hT hT0 hR hbo hbm hmk
  go_enter Tryz.func78, Tryz.ntmps78
  go_wp2_with fail
  have hf := (((unhide HT).put 0 (.int .i64 (rows : Int))).put 1 (.int .i64 (width : Int))).put 2 (.slice (some ⟨wo.heap.size, 0, none⟩) m m)
  have t0 := (hf.all 0 _ rfl).1
  have t1 := (hf.all 1 _ rfl).1
  have t2 := (hf.all 2 _ rfl).1
  have c3 : Chg (fun j => j = w.heap.size) wm (((wm.setCell ⟨w.heap.size, 0, none⟩ (.int .i64 (rows : Int))).setCell ⟨w.heap.size, 1, none⟩ (.int .i64 (width : Int))).setCell ⟨w.heap.size, 2, none⟩ (.slice (some ⟨wo.heap.size, 0, none⟩) m m)) := ((Chg.of_set (S := fun j => j = w.heap.size) _ _ _ _ rfl).trans (Chg.of_set (S := fun j => j = w.heap.size) _ _ _ _ rfl)).trans (Chg.of_set (S := fun j => j = w.heap.size) _ _ _ _ rfl)
  generalize ((wm.setCell ⟨w.heap.size, 0, none⟩ (.int .i64 (rows : Int))).setCell ⟨w.heap.size, 1, none⟩ (.int .i64 (width : Int))).setCell ⟨w.heap.size, 2, none⟩ (.slice (some ⟨wo.heap.size, 0, none⟩) m m) = wf at *
  refine bodyPost_ret (by simp [results, Tryz.results78, go_sem, t0, t1, t2]; try rfl) rfl ?_
  exact ⟨wo.heap.size, rfl, Nat.le_of_lt (unhide HLT).1, Nat.lt_of_lt_of_le (unhide HLT).2 c3.size, (unhide HR).chg c3 (fun e => by have := unhide HLT; omega), (unhide HB).trans (c3.below (unhide HB).size (fun k hk e => by omega))⟩
set_option maxRecDepth 100000 in
set_option maxHeartbeats 16000000 in
theorem wat_any (rows width b n r c : Nat) (P : Nat → Bool) (w : World) (hw : width ≤ 128) (hr : r < 128) (hc : c < 128) (hn : r * width + c < n) (hn2 : n ≤ 16384) (hR : RoV w b n (fun i => .bool (P i))) :
    Calls Tryz.prog 77 #[gridV rows width b n, .int .i64 (r : Int), .int .i64 (c : Int)] w fun e w' => e = .returned (.bool (P (r * width + c))) ∧ Below w.heap.size w w' := by
  obtain ⟨wb, hwb⟩ : ∃ x, w.alloc (.cells #[.int .i64 (rows : Int), .int .i64 (width : Int), .slice (some ⟨b, 0, none⟩) n n] 131) = x := ⟨_, rfl⟩
  have bb : Below w.heap.size w wb := by rw [← hwb]; exact (Below.refl _ _).alloc (Nat.le_refl _) _
  have hT := BoxP.made w #[.int .i64 (rows : Int), .int .i64 (width : Int), .slice (some ⟨b, 0, none⟩) n n] 131
  rw [hwb] at hT
  have q0 := (hT.all 0 _ rfl).1
  have q1 := (hT.all 1 _ rfl).1
  have q2 := (hT.all 2 _ rfl).1
  obtain ⟨m, hm⟩ : ∃ m, r * width = m := ⟨_, rfl⟩
  obtain ⟨x, hx⟩ : ∃ x, m + c = x := ⟨_, rfl⟩
  have hm1 : (r : Int) * (width : Int) = (m : Int) := by rw [← hm]; simp
  have hx1 : (m : Int) + (c : Int) = (x : Int) := by omega
  rw [hm, hx] at hn ⊢
  have hxn : (x : Int) < (n : Int) := by omega
  have hcell := ((hR.below bb) x hn).1
  have hm2 : m ≤ 16384 := by rw [← hm]; exact Nat.le_trans (Nat.mul_le_mul (Nat.le_of_lt hr) hw) (by omega)
  obtain ⟨v, hv⟩ : ∃ v, P x = v := ⟨_, rfl⟩
  rw [hv] at hcell ⊢
  have HB := hide bb
  clear bb hT hR hm hx hv
  unfold gridV
  go_enter Tryz.func77, Tryz.ntmps77
  go_wp2_with fail
  go_ret
  exact ⟨rfl, unhide HB⟩
def Vis (R width : Nat) (st cols : List Int) (i x : Nat) : Prop := ∃ r j : Nat, r < R ∧ st.getD r 0 ≤ (j : Int) ∧ (j : Int) < st.getD (r + 1) 0 ∧ j < i ∧ (r : Int) * (width : Int) + cols.getD j 0 = (x : Int)
theorem Vis.zero {R width : Nat} {st cols : List Int} {x : Nat} : ¬ Vis R width st cols 0 x := fun ⟨_, _, _, _, _, h, _⟩ => absurd h (Nat.not_lt_zero _)
theorem row_one {R : Nat} {width : Int} {st cols : List Int} (hm : MayP (R : Int) width st cols) {r k j : Nat} (hr : r < R) (hk : k < R) (h1 : st.getD r 0 ≤ (j : Int)) (h2 : (j : Int) < st.getD (r + 1) 0) (h3 : st.getD k 0 ≤ (j : Int)) (h4 : (j : Int) < st.getD (k + 1) 0) : r = k := by
  have hl := hm.head.len
  rcases Nat.lt_trichotomy r k with c | c | c
  · have := hm.sort.mono (k - (r + 1)) (r + 1) (by omega)
    rw [show r + 1 + (k - (r + 1)) = k by omega] at this
    omega
  · exact c
  · have := hm.sort.mono (r - (k + 1)) (k + 1) (by omega)
    rw [show k + 1 + (r - (k + 1)) = r by omega] at this
    omega
theorem Vis.step {R width : Nat} {st cols : List Int} (hm : MayP (R : Int) (width : Int) st cols) {k X Y i c : Nat} (hk : k < R) (hR : RowAt st cols (width : Int) k X Y) (h1 : X ≤ i) (h2 : i < Y) (hc : cols.getD i 0 = (c : Int)) (x : Nat) : Vis R width st cols (i + 1) x ↔ (Vis R width st cols i x ∨ x = k * width + c) := by
  constructor
  · rintro ⟨r, j, hr, a1, a2, a3, a4⟩
    by_cases e : j = i
    · subst e
      right
      have := row_one hm hr hk a1 a2 (by rw [hR.hX]; omega) (by rw [hR.hY]; omega)
      subst this
      rw [hc] at a4
      have e2 : ((r * width : Nat) : Int) = (r : Int) * (width : Int) := by simp
      omega
    · exact .inl ⟨r, j, hr, a1, a2, by omega, a4⟩
  · rintro (⟨r, j, hr, a1, a2, a3, a4⟩ | e)
    · exact ⟨r, j, hr, a1, a2, by omega, a4⟩
    · refine ⟨k, i, hk, by rw [hR.hX]; omega, by rw [hR.hY]; omega, by omega, ?_⟩
      rw [hc, e]
      simp
theorem Vis.has {R width : Nat} {st cols : List Int} (hm : MayP (R : Int) (width : Int) st cols) {r c : Nat} (hr : r < R) (hc : c < width) : Vis R width st cols cols.length (r * width + c) ↔ HasP (R : Int) (width : Int) st cols (r : Int) (c : Int) := by
  have e0 : ((r : Int)).toNat = r := by omega
  have hl := hm.head.len
  constructor
  · rintro ⟨q, j, hq, a1, a2, a3, a4⟩
    obtain ⟨X, Y, hR⟩ := hm.rowAt (k := q) (by omega)
    rw [hR.hX] at a1
    rw [hR.hY] at a2
    have hg := hR.row.rng j (by omega) (by omega)
    obtain ⟨d, hd⟩ : ∃ d : Nat, cols.getD j 0 = (d : Int) := ⟨(cols.getD j 0).toNat, by omega⟩
    rw [hd] at a4 hg
    have a5 : q * width + d = r * width + c := by
      have e1 : ((q * width : Nat) : Int) = (q : Int) * (width : Int) := by simp
      have e2 : ((r * width + c : Nat) : Int) = ((r * width : Nat) : Int) + (c : Int) := by simp
      omega
    have a6 : q = r := by
      have h1 : (q * width + d) / width = q := by rw [Nat.mul_comm, Nat.mul_add_div (by omega)]; rw [Nat.div_eq_of_lt (by omega)]; rfl
      have h2 : (r * width + c) / width = r := by rw [Nat.mul_comm, Nat.mul_add_div (by omega)]; rw [Nat.div_eq_of_lt (by omega)]; rfl
      rw [← h1, ← h2, a5]
    subst a6
    exact ⟨hm, by omega, by omega, j, by rw [e0, hR.hX]; omega, by rw [e0, hR.hY]; omega, by rw [hd]; omega⟩
  · rintro ⟨_, _, _, j, a1, a2, a3⟩
    rw [e0] at a1 a2
    obtain ⟨X, Y, hR⟩ := hm.rowAt (k := r) (by omega)
    rw [hR.hX] at a1
    rw [hR.hY] at a2
    refine ⟨r, j, hr, by rw [hR.hX]; omega, by rw [hR.hY]; omega, by have := hR.lt; omega, ?_⟩
    rw [a3]
    simp
structure OpI (w2 W : World) (b : Nat) (m : Nat) (P : Nat → Prop) : Prop where
  row : RoV W b m (fun x => .bool (tb (P x)))
  chg : Chg (fun j => j = b) w2 W
theorem OpI.put {w2 W : World} {b m : Nat} {P Q : Nat → Prop} (h : OpI w2 W b m P) (x : Nat) (hx : x < m) (e : ∀ y, Q y ↔ (P y ∨ y = x)) : OpI w2 (W.setCell ⟨b, x, none⟩ (.bool true)) b m Q := by
  refine ⟨(h.row.put x (.bool true) hx).congr (fun i hi => ?_), h.chg.trans (Chg.of_set _ _ _ _ rfl)⟩
  by_cases c : i = x
  · simp only [c, if_true]
    rw [tb_yes ((e x).2 (.inr rfl))]
  · simp only [c, if_false]
    rw [tb_congr (show P i ↔ Q i from ⟨fun p => (e i).2 (.inl p), fun q => ((e i).1 q).resolve_right c⟩)]
theorem OpI.drew {w2 W : World} {b m : Nat} {P : Nat → Prop} (h : OpI w2 W b m P) : OpI w2 W.drew b m P := ⟨h.row.chg (S := fun _ => False) (Chg.of_drew _) (fun x => x), h.chg.trans (Chg.of_drew _)⟩
set_option maxRecDepth 100000 in
set_option maxHeartbeats 16000000 in
theorem wopen_any (R width : Nat) (a1 a2 : Option Addr) (n1 c1 n2 c2 : Nat) (st cols : List Int) (w : World) (h1 : SlI w a1 n1 c1 st) (h2 : SlI w a2 n2 c2 cols) (hb1 : n1 ≤ 17592186044416) (hb2 : n2 ≤ 17592186044416) (hm : MayP (R : Int) (width : Int) st cols) :
    Calls Tryz.prog 76 #[patV (R : Int) (width : Int) a1 n1 c1 a2 n2 c2] w fun e w' => ∃ b, e = .returned (gridV R width b (R * width)) ∧ RoV w' b (R * width) (fun x => .bool (tb (Vis R width st cols cols.length x))) ∧ Below w.heap.size w w' := by
  obtain ⟨wb, hwb⟩ : ∃ x, w.alloc (.cells #[.int .i64 (R : Int), .int .i64 (width : Int), .slice a1 n1 c1, .slice a2 n2 c2] 25) = x := ⟨_, rfl⟩
  have bb : Below w.heap.size w wb := by rw [← hwb]; exact (Below.refl _ _).alloc (Nat.le_refl _) _
  have hT := BoxP.made w #[.int .i64 (R : Int), .int .i64 (width : Int), .slice a1 n1 c1, .slice a2 n2 c2] 25
  rw [hwb] at hT
  have hO0 := BoxP.made wb #[.int .i64 0, .int .i64 0, .slice none 0 0] 131
  obtain ⟨wo, hwo⟩ : ∃ x, wb.alloc (.cells #[.int .i64 0, .int .i64 0, .slice none 0 0] 131) = x := ⟨_, rfl⟩
  have bo : Below wb.heap.size wb wo := by rw [← hwo]; exact (Below.refl _ _).alloc (Nat.le_refl _) _
  rw [hwo] at hO0
  have hT1 := hT.below bo
  have p0 := (hT1.all 0 _ rfl).1
  have p1 := (hT1.all 1 _ rfl).1
  have p2 := (hT1.all 2 _ rfl).1
  have p3 := (hT1.all 3 _ rfl).1
  have hfit := hm.head.fit
  have KE := hide (wempty_any R width wo (by omega) (by omega))
  have HP := hide (And.intro hT1 hO0)
  have bbo := bb.trans (bo.mono bb.size)
  have HS := hide (And.intro (h1.below bbo) (h2.below bbo))
  have HLW := hide (And.intro (fun hne => h1.block_lt hne) (fun hne => h2.block_lt hne))
  have HB := hide bbo
  have HM := hide hm
  have HF := hide hfit
  have HWB := hide bb.size
  clear hT hT1 hO0 bb bo bbo h1 h2 hm hfit
  obtain ⟨m, hmm⟩ : ∃ m, R * width = m := ⟨_, rfl⟩
  rw [hmm] at KE
  rw [hmm]
  unfold gridV at KE
  have HMM := hide hmm
  clear hmm
  unfold patV
  go_enter Tryz.func76, Tryz.ntmps76
  go_wp2_with fail
  refine (unhide KE).mono ?_
  rintro _ w2 ⟨b, rfl, hbn, hbl, hR, b2⟩
  have HR := hide hR
  have HB2 := hide b2
  have hbn' := hide hbn
  have hT2 := (unhide HP).1.below b2
  have p0 := (hT2.all 0 _ rfl).1
  have p1 := (hT2.all 1 _ rfl).1
  have p2 := (hT2.all 2 _ rfl).1
  have p3 := (hT2.all 3 _ rfl).1
  have hG0 := BoxP.made w2 #[.int .i64 (R : Int), .int .i64 (width : Int), .slice (some ⟨b, 0, none⟩) m m] 131
  obtain ⟨wg, hwg⟩ : ∃ x, w2.alloc (.cells #[.int .i64 (R : Int), .int .i64 (width : Int), .slice (some ⟨b, 0, none⟩) m m] 131) = x := ⟨_, rfl⟩
  have bg : Below w2.heap.size w2 wg := by rw [← hwg]; exact (Below.refl _ _).alloc (Nat.le_refl _) _
  rw [hwg] at hG0
  have b2g := b2.trans (bg.mono b2.size)
  have hlo := And.intro (unhide HP).1.lt (unhide HP).2.lt
  have hRg := hR.below bg
  have HG := hide (And.intro ((unhide HP).1.below b2g) (And.intro ((unhide HP).2.below b2g) hG0))
  have HS2 := hide (And.intro ((unhide HS).1.below b2g) ((unhide HS).2.below b2g))
  have HI0 := hide (show OpI wg wg b m (fun _ => False) from ⟨hRg.congr (fun i hi => by rw [tb_no (fun x => x)]), Chg.refl _ _⟩)
  have HBW := hide ((unhide HB).trans (b2g.mono (unhide HB).size))
  have HNB := hide (show w.heap.size ≠ b ∧ wb.heap.size ≠ b ∧ w2.heap.size ≠ b ∧ w.heap.size ≤ b ∧ wo.heap.size ≤ b from ⟨by omega, by omega, by omega, by have := (unhide HB).size; omega, hbn⟩)
  clear hR b2 hbn KE hT2 hG0 bg b2g hlo hRg hbl p0 p1 p2 p3
  go_wp2_with fail
  go_loopw [4] (fun kv wr => ∃ k X : Nat, k ≤ R ∧ kv = .int .i64 (k : Int) ∧ Hid (st.getD k 0 = (X : Int)) ∧ Hid (OpI wg wr b m (Vis R width st cols X))) (fun kv _ => R - (intOf kv).toNat)
  case atStart =>
    refine ⟨0, 0, Nat.zero_le _, rfl, hide (by rw [(unhide HM).head.first]; rfl), hide ⟨(unhide HI0).row.congr (fun i hi => ?_), (unhide HI0).chg⟩⟩
    rw [tb_congr (show False ↔ Vis R width st cols 0 i from ⟨fun x => x.elim, fun x => Vis.zero x⟩)]
  case round =>
    obtain ⟨k, X, hk, rfl, HX, HI⟩ := hrel
    have hbx := fun (W : World) (c : Chg (fun j => j = b) wg W) => And.intro ((unhide HG).1.chg c (unhide HNB).1) (And.intro ((unhide HG).2.1.chg c (unhide HNB).2.1) ((unhide HG).2.2.chg c (unhide HNB).2.2.1))
    have HBX := hide hbx
    have hw1 := hbx wr (unhide HI).chg
    have p0 := (hw1.1.all 0 _ rfl).1
    have p2 := (hw1.1.all 2 _ rfl).1
    clear hbx hw1
    by_cases hlt : k < R
    · have hlt' : (k : Int) < (R : Int) := by omega
      obtain ⟨X', Y, hRow⟩ := (unhide HM).rowAt (k := k) (by omega)
      obtain rfl : X' = X := by have h8 := hRow.hX; rw [unhide HX] at h8; omega
      have hl1 := (unhide HS2).1.len
      have hl2 := (unhide HS2).2.len
      have hhl := (unhide HM).head.len
      have hlo1 := (unhide HNB)
      have HSW := hide (show ∀ W, Chg (fun j => j = b) wg W → SlI W a1 n1 c1 st ∧ SlI W a2 n2 c2 cols from fun W c => ⟨(unhide HS2).1.chg c (fun z hz hne e => by have := (unhide HLW).1 hne z hz; omega), (unhide HS2).2.chg c (fun z hz hne e => by have := (unhide HLW).2 hne z hz; omega)⟩)
      obtain ⟨b1, o1, rfl, hc1⟩ := (unhide HSW wr (unhide HI).chg).1.at (by omega)
      have sk := hc1 k (by omega)
      rw [hRow.hX] at sk
      have tk1 : (k : Int) < (n1 : Int) := by omega
      have tk2 : (k : Int) + 1 < (n1 : Int) := by omega
      have hrl := hRow.le
      have hrt := hRow.lt
      have HRow := hide hRow
      have HHL := hide (And.intro hl1 (And.intro hl2 hhl))
      clear hlo1 hc1 hl1 hl2 hhl hRow
      go_wp2_with fail
      go_loopw [5] (fun iv wq => ∃ i : Nat, X' ≤ i ∧ i ≤ Y ∧ iv = .int .i64 (i : Int) ∧ Hid (OpI wg wq b m (Vis R width st cols i))) (fun iv _ => Y - (intOf iv).toNat)
      case atStart => exact ⟨X', Nat.le_refl _, hrl, rfl, HI⟩
      case round =>
        clear p0 p2 sk
        obtain ⟨i, hi1, hi2, rfl, HQ⟩ := hrel
        have hw1 := unhide HBX wr (unhide HQ).chg
        have p1 := (hw1.1.all 1 _ rfl).1
        have p2 := (hw1.1.all 2 _ rfl).1
        have p3 := (hw1.1.all 3 _ rfl).1
        have g2 := (hw1.2.2.all 2 _ rfl).1
        obtain ⟨b1', o1', e1, hc1⟩ := (unhide HSW wr (unhide HQ).chg).1.at (by omega)
        cases e1
        have sk1 := hc1 (k + 1) (by omega)
        rw [(unhide HRow).hY] at sk1
        clear hw1 hc1
        by_cases hin : i < Y
        · have hin' : (i : Int) < (Y : Int) := by omega
          have h22 := (unhide HHL).2.1
          obtain ⟨b2, o2, rfl, hc2⟩ := (unhide HSW wr (unhide HQ).chg).2.at (by omega)
          have sc := hc2 i (by omega)
          have hg := (unhide HRow).row.rng i hi1 hin
          obtain ⟨c, hc⟩ : ∃ c : Nat, cols.getD i 0 = (c : Int) := ⟨(cols.getD i 0).toNat, by omega⟩
          rw [hc] at sc hg
          obtain ⟨kw, hkw⟩ : ∃ kw, k * width = kw := ⟨_, rfl⟩
          obtain ⟨x, hx⟩ : ∃ x, kw + c = x := ⟨_, rfl⟩
          have hx1 : (k : Int) * (width : Int) = (kw : Int) := by rw [← hkw]; simp
          have hx2 : (kw : Int) + (c : Int) = (x : Int) := by omega
          have hf := unhide HF
          have hxm : x < m := by
            rw [← unhide HMM, ← hx, ← hkw]
            have h1 : (k + 1) * width ≤ R * width := Nat.mul_le_mul_right _ hlt
            rw [Nat.add_mul] at h1
            omega
          have hm16 : m ≤ 16384 := by rw [← unhide HMM]; exact Nat.mul_le_mul (show R ≤ 128 by omega) (show width ≤ 128 by omega)
          have hxm' : (x : Int) < (m : Int) := by omega
          have hin2 : (i : Int) < (n2 : Int) := by omega
          have hon := ((unhide HQ).row x hxm).1
          have hof := ((unhide HQ).row x hxm).2
          have HN := hide (((unhide HQ).put (Q := Vis R width st cols (i + 1)) x hxm (fun y => by have := Vis.step (unhide HM) hlt (unhide HRow) hi1 hin hc y; rw [hkw, hx] at this; exact this)).drew)
          clear hc2 hg hf h22 hkw hx
          go_wp2_with fail
          go_region
          all_goals go_wp2_with fail
          all_goals exact ⟨⟨i + 1, by omega, by omega, by (first | rfl | go_num), HN⟩, by simp [intOf]; omega⟩
        · obtain rfl : i = Y := by omega
          have hin' : ¬ (i : Int) < (i : Int) := by omega
          go_wp2_with fail
          exact ⟨⟨k + 1, i, by omega, by (first | rfl | go_num), hide (unhide HRow).hY, HQ⟩, by simp [intOf]; omega⟩
    · obtain rfl : k = R := by omega
      have hlt' : ¬ (k : Int) < (k : Int) := by omega
      have hw2 := unhide HBX wr (unhide HI).chg
      have g0 := (hw2.2.2.all 0 _ rfl).1
      have g1 := (hw2.2.2.all 1 _ rfl).1
      have g2 := (hw2.2.2.all 2 _ rfl).1
      have q0 := (hw2.2.1.all 0 _ rfl).1
      have q1 := (hw2.2.1.all 1 _ rfl).1
      have q2 := (hw2.2.1.all 2 _ rfl).1
      have r0 := (hw2.2.1.all 0 _ rfl).2
      have r1 := (hw2.2.1.all 1 _ rfl).2
      have r2 := (hw2.2.1.all 2 _ rfl).2
      have HO := hide hw2.2.1
      clear hw2
      go_wp2_with fail
      have hf := (((unhide HO).put 0 (.int .i64 (k : Int))).put 1 (.int .i64 (width : Int))).put 2 (.slice (some ⟨b, 0, none⟩) m m)
      have t0 := (hf.all 0 _ rfl).1
      have t1 := (hf.all 1 _ rfl).1
      have t2 := (hf.all 2 _ rfl).1
      have c3 : Chg (fun j => j = wb.heap.size) wr (((wr.setCell ⟨wb.heap.size, 0, none⟩ (.int .i64 (k : Int))).setCell ⟨wb.heap.size, 1, none⟩ (.int .i64 (width : Int))).setCell ⟨wb.heap.size, 2, none⟩ (.slice (some ⟨b, 0, none⟩) m m)) := ((Chg.of_set (S := fun j => j = wb.heap.size) _ _ _ _ rfl).trans (Chg.of_set (S := fun j => j = wb.heap.size) _ _ _ _ rfl)).trans (Chg.of_set (S := fun j => j = wb.heap.size) _ _ _ _ rfl)
      generalize ((wr.setCell ⟨wb.heap.size, 0, none⟩ (.int .i64 (k : Int))).setCell ⟨wb.heap.size, 1, none⟩ (.int .i64 (width : Int))).setCell ⟨wb.heap.size, 2, none⟩ (.slice (some ⟨b, 0, none⟩) m m) = wf at *
      refine bodyPost_ret (by simp [results, Tryz.results76, go_sem, t0, t1, t2]; try rfl) rfl ?_
      have hlast : X = cols.length := by
        have h8 := (unhide HM).head.last
        rw [show ((k : Int)).toNat = k by omega, unhide HX] at h8
        omega
      refine ⟨b, rfl, ?_, ?_⟩
      · have := (unhide HI).row.chg c3 (fun e => (unhide HNB).2.1 e.symm)
        rw [hlast] at this
        exact this
      · exact (unhide HBW).trans (((unhide HI).chg.below (unhide HBW).size (fun j hj e => by have := (unhide HNB).2.2.2.1; omega)).trans (c3.below (Nat.le_trans (unhide HBW).size (unhide HI).chg.size) (fun j hj e => by have := unhide HWB; omega)))
end Go.Proofs.YtgjokididdffhaaGreat
