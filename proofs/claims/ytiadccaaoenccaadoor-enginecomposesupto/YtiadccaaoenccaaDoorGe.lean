/- Ge -/
import Derived.Test.YtiadccaaoenccaaDoorGc
import Derived.Test.YtiadccaaoenccaaDoorBits
import Derived.Test.YtiadccaaoenccaaDoorShl
namespace Go.Proofs.YtiadccaaoenccaaDoor
open Go.RowKit Go.Deep
set_option linter.unusedVariables false
def lnv (p m b : Nat) (i : Nat) : Value := match i with
  | 0 => .int .u64 (p : Nat)
  | 1 => .int .u64 (m : Nat)
  | _ => .int .u32 (b : Nat)
def Ln (w : World) (l : Nat) (p m b : Nat) : Prop := ∀ i, i < 3 → w.cell? ⟨l, i, none⟩ = some (lnv p m b i) ∧ w.frozen? ⟨l, i, none⟩ = false
theorem Ln.set {w : World} {l p m b : Nat} (h : Ln w l p m b) (p' m' b' : Nat) : Ln (((w.setCell ⟨l, 0, none⟩ (.int .u64 (p' : Nat))).setCell ⟨l, 1, none⟩ (.int .u64 (m' : Nat))).setCell ⟨l, 2, none⟩ (.int .u32 (b' : Nat))) l p' m' b' := by
  have h0 := (h 0 (by decide)).1
  have h1 := (h 1 (by decide)).1
  have h2 := (h 2 (by decide)).1
  have e01 : ∀ v : Value, (w.setCell ⟨l, 0, none⟩ v).cell? ⟨l, 1, none⟩ = some (lnv p m b 1) := fun v => by rw [World.cell?_setCell_other _ _ _ _ (by intro hh; injection hh with h1 h2; omega)]; exact h1
  have e02 : ∀ v : Value, (w.setCell ⟨l, 0, none⟩ v).cell? ⟨l, 2, none⟩ = some (lnv p m b 2) := fun v => by rw [World.cell?_setCell_other _ _ _ _ (by intro hh; injection hh with h1 h2; omega)]; exact h2
  have e12 : ∀ v u : Value, ((w.setCell ⟨l, 0, none⟩ v).setCell ⟨l, 1, none⟩ u).cell? ⟨l, 2, none⟩ = some (lnv p m b 2) := fun v u => by rw [World.cell?_setCell_other _ _ _ _ (by intro hh; injection hh with h1 h2; omega)]; exact e02 v
  intro i hi
  refine ⟨?_, by rw [World.frozen?_setCell, World.frozen?_setCell, World.frozen?_setCell]; exact (h i hi).2⟩
  match i, hi with
  | 0, _ =>
    rw [World.cell?_setCell_other _ _ _ _ (by intro hh; injection hh with h1 h2; omega), World.cell?_setCell_other _ _ _ _ (by intro hh; injection hh with h1 h2; omega), World.cell?_setCell_same _ _ _ h0]
    rfl
  | 1, _ =>
    rw [World.cell?_setCell_other _ _ _ _ (by intro hh; injection hh with h1 h2; omega), World.cell?_setCell_same _ _ _ (e01 _)]
    rfl
  | 2, _ =>
    rw [World.cell?_setCell_same _ _ _ (e12 _ _)]
    rfl

structure NxR (w w' : World) (l : Nat) (P M p m b z p' m' b' : Nat) : Prop where
  zlt : z < 4294967296
  plt : p' < 4294967296
  mlt : m' < 4294967296
  ble : b' ≤ 1
  eq : z + (M + m) + b + 4294967296 * p' = P + p + 4294967296 * m' + 4294967296 * b'
  ln : Ln w' l p' m' b'
  upd : Upd l 0 3 w w'

set_option maxHeartbeats 4000000 in
theorem next_any (l P M p m b : Nat) (w : World) (h : Ln w l p m b) (hp : p < 4294967296) (hm : m < 4294967296) (hb : b ≤ 1) (hP : P ≤ 18446744065119617025) (hM : M ≤ 18446744065119617025) :
    Calls Tryd.prog 85 #[.pointer (some ⟨l, 0, none⟩), .int .u64 (P : Nat), .int .u64 (M : Nat)] w fun e w' => ∃ z p' m' b', e = .returned (.int .u32 (z : Nat)) ∧ NxR w w' l P M p m b z p' m' b' := by
  have g0 := (h 0 (by decide)).1
  have g1 := (h 1 (by decide)).1
  have g2 := (h 2 (by decide)).1
  have f0 := (h 0 (by decide)).2
  have f1 := (h 1 (by decide)).2
  have f2 := (h 2 (by decide)).2
  simp only [lnv] at g0 g1 g2
  have hS := hide (fun p' m' b' => h.set p' m' b')
  have hU := hide (fun (p' m' b' : Nat) => (((Upd.refl l 0 3 w).set 0 (.int .u64 (p' : Nat)) (by omega) (by omega)).set 1 (.int .u64 (m' : Nat)) (by omega) (by omega)).set 2 (.int .u32 (b' : Nat)) (by omega) (by omega))
  clear h
  obtain ⟨pl, ph, hpe, hpl⟩ : ∃ pl ph, P + p = pl + 4294967296 * ph ∧ pl < 4294967296 := ⟨(P + p) % 4294967296, (P + p) / 4294967296, by omega, by omega⟩
  obtain ⟨ml, mh, hme, hml⟩ : ∃ ml mh, M + m = ml + 4294967296 * mh ∧ ml < 4294967296 := ⟨(M + m) % 4294967296, (M + m) / 4294967296, by omega, by omega⟩
  have e1 : ((P:Int) + (p:Int)) % 4294967296 = (pl:Int) := by omega
  have e2 : ((P:Int) + (p:Int)) / 4294967296 = (ph:Int) := by omega
  have e3 : ((M:Int) + (m:Int)) % 4294967296 = (ml:Int) := by omega
  have e4 : ((M:Int) + (m:Int)) / 4294967296 = (mh:Int) := by omega
  have hph : ph < 4294967296 := by omega
  have hmh : mh < 4294967296 := by omega
  have KS := hide (fun v => sub32_any pl ml b v hpl hml hb)
  have hl := lim_eq pl ml b hpl hml hb
  have hl1 := lim_lt pl ml b
  have hb1 := bor_le pl (ml + b)
  generalize lim pl ml b = z at *
  generalize bor pl (ml + b) = b' at *
  have HE := hide (show z + (M + m) + b + 4294967296 * ph = P + p + 4294967296 * mh + 4294967296 * b' from by omega)
  clear hpe hme hl
  go_enter Tryd.func85, Tryd.ntmps85
  go_wp2_with fail
  refine (unhide KS _).mono ?_
  rintro e w' ⟨rfl, hw⟩
  obtain rfl := hw.symm
  clear hw KS
  go_wp2_with fail
  go_ret
  exact ⟨z, ph, mh, b', rfl, hl1, hph, hmh, hb1, unhide HE, unhide hS ph mh b', unhide hU ph mh b'⟩
open Go.RowKit Go.Deep
set_option linter.unusedVariables false

structure LaneR (u v : Nat) (f g z : Nat → Nat) (k p m b : Nat) : Prop where
  plt : p < 4294967296
  mlt : m < 4294967296
  ble : b ≤ 1
  eq : valF z k + v * valF g k + 4294967296 ^ k * p = u * valF f k + 4294967296 ^ k * (m + b)

theorem lane_arith {Z V U P F G k p m b z p' m' b' fk gk u v : Nat} (h : Z + V + P * p = U + P * (m + b)) (e : z + (v * gk + m) + b + 4294967296 * p' = u * fk + p + 4294967296 * m' + 4294967296 * b') :
    Z + P * z + (V + P * (v * gk)) + P * 4294967296 * p' = U + P * (u * fk) + P * 4294967296 * (m' + b') := by
  have h2 : P * (z + (v * gk + m) + b + 4294967296 * p') = P * (u * fk + p + 4294967296 * m' + 4294967296 * b') := by rw [e]
  have a1 : P * (z + (v * gk + m) + b + 4294967296 * p') = P * z + P * (v * gk) + P * (m + b) + P * 4294967296 * p' := by
    rw [show z + (v * gk + m) + b + 4294967296 * p' = z + v * gk + (m + b) + 4294967296 * p' from by omega, Nat.mul_add, Nat.mul_add, Nat.mul_add, Nat.mul_assoc]
  have a2 : P * (u * fk + p + 4294967296 * m' + 4294967296 * b') = P * (u * fk) + P * p + P * 4294967296 * (m' + b') := by
    rw [show u * fk + p + 4294967296 * m' + 4294967296 * b' = u * fk + p + 4294967296 * (m' + b') from by omega, Nat.mul_add, Nat.mul_add, Nat.mul_assoc]
  rw [a1, a2] at h2
  generalize P * z = G1 at *
  generalize P * (v * gk) = G2 at *
  generalize P * (m + b) = G3 at *
  generalize P * 4294967296 * p' = G4 at *
  generalize P * (u * fk) = G5 at *
  generalize P * p = G6 at *
  generalize P * 4294967296 * (m' + b') = G7 at *
  clear a1 a2 e
  omega

theorem LaneR.step {u v : Nat} {f g z : Nat → Nat} {k p m b : Nat} (h : LaneR u v f g z k p m b) {y p' m' b' : Nat} (hp : p' < 4294967296) (hm : m' < 4294967296) (hb : b' ≤ 1) (e : y + (v * g k + m) + b + 4294967296 * p' = u * f k + p + 4294967296 * m' + 4294967296 * b') (z' : Nat → Nat) (hz : ∀ i, i < k → z' i = z i) (hk : z' k = y) :
    LaneR u v f g z' (k + 1) p' m' b' := by
  refine ⟨hp, hm, hb, ?_⟩
  simp only [valF]
  rw [valF_congr hz, hk, Nat.pow_succ, Nat.mul_add v, Nat.mul_add u]
  have := lane_arith (k := k) (fk := f k) (gk := g k) (u := u) (v := v) (Z := valF z k) (V := v * valF g k) (U := u * valF f k) (F := 0) (G := 0) h.eq e
  have e1 : v * (4294967296 ^ k * g k) = 4294967296 ^ k * (v * g k) := by rw [← Nat.mul_assoc, Nat.mul_comm v, Nat.mul_assoc]
  have e2 : u * (4294967296 ^ k * f k) = 4294967296 ^ k * (u * f k) := by rw [← Nat.mul_assoc, Nat.mul_comm u, Nat.mul_assoc]
  rw [e1, e2]
  exact this

theorem mod_eq {a b N s t : Nat} (h : a + N * s = b + N * t) (ha : a < N) (hb : b < N) : a = b := by
  have h1 := Nat.add_mul_mod_self_left a N s
  have h2 := Nat.add_mul_mod_self_left b N t
  rw [h, h2, Nat.mod_eq_of_lt ha, Nat.mod_eq_of_lt hb] at h1
  exact h1.symm

theorem LaneR.done {u v : Nat} {f g z : Nat → Nat} {n p m b : Nat} (h : LaneR u v f g z n p m b) {P Q hp hq R : Nat} (hP : P = valF f n + 4294967296 ^ n * hp) (hQ : Q = valF g n + 4294967296 ^ n * hq) (hR : R + v * Q = u * P) (hlt : R < 4294967296 ^ n) (hz : valF z n < 4294967296 ^ n) : valF z n = R := by
  subst hP hQ
  have e := h.eq
  have e1 : v * (valF g n + 4294967296 ^ n * hq) = v * valF g n + 4294967296 ^ n * (v * hq) := by rw [Nat.mul_add, ← Nat.mul_assoc, Nat.mul_comm v (4294967296 ^ n), Nat.mul_assoc]
  have e2 : u * (valF f n + 4294967296 ^ n * hp) = u * valF f n + 4294967296 ^ n * (u * hp) := by rw [Nat.mul_add, ← Nat.mul_assoc, Nat.mul_comm u (4294967296 ^ n), Nat.mul_assoc]
  rw [e1, e2] at hR
  refine mod_eq (N := 4294967296 ^ n) (s := p + u * hp) (t := v * hq + (m + b)) ?_ hz hlt
  rw [Nat.mul_add (4294967296 ^ n) p, Nat.mul_add (4294967296 ^ n) (v * hq)]
  generalize 4294967296 ^ n * (m + b) = G1 at *
  generalize 4294967296 ^ n * (u * hp) = G2 at *
  generalize 4294967296 ^ n * (v * hq) = G3 at *
  generalize 4294967296 ^ n * p = G4 at *
  generalize v * valF g n = G5 at *
  generalize u * valF f n = G6 at *
  clear e1 e2 hz hlt
  omega

def WkPost (w : World) (ba bb : Nat) (R0 R1 : Nat) (e : Ending) (w' : World) : Prop :=
  ∃ a1 m1 z1 a2 m2 z2, e = .returned (.tuple #[.slice a1 m1 m1, .slice a2 m2 m2]) ∧ Sl w' a1 m1 m1 z1 ∧ Rep R0 z1 ∧ Fz w' a1 m1 ∧ Sl w' a2 m2 m2 z2 ∧ Rep R1 z2 ∧ Fz w' a2 m2 ∧
    (∀ x, a1 = some x → x.block = ba ∨ x.block = bb) ∧ (∀ x, a2 = some x → x.block = ba ∨ x.block = bb) ∧ (∀ x y, a1 = some x → a2 = some y → x.block ≠ y.block) ∧ Chg (fun k => k = ba ∨ k = bb) w w'

theorem Upd.st5 {b lo hi : Nat} {w w' : World} (h : Upd b lo hi w w') {S : Nat} {f : Nat → Value} (hs : St5 w S f) (hne : S ≠ b) : St5 w' S f := by
  intro i hi
  have hl := World.block_lt_of_cell? _ _ (hs i hi).1
  have hb := h.block S hl hne
  exact ⟨(World.cell?_of_block (w := w) hb).trans (hs i hi).1, (World.frozen?_of_block (w := w) hb).trans (hs i hi).2⟩
theorem Upd.ln {b lo hi : Nat} {w w' : World} (h : Upd b lo hi w w') {S p m c : Nat} (hs : Ln w S p m c) (hne : S ≠ b) : Ln w' S p m c := by
  intro i hi
  have hl := World.block_lt_of_cell? _ _ (hs i hi).1
  have hb := h.block S hl hne
  exact ⟨(World.cell?_of_block (w := w) hb).trans (hs i hi).1, (World.frozen?_of_block (w := w) hb).trans (hs i hi).2⟩
theorem Ln.drewN {w : World} {l p m b : Nat} (h : Ln w l p m b) (k : Nat) : Ln (w.drewN k) l p m b := h
theorem fn_drw {w : World} {b off n : Nat} {f : Nat → Nat} (h : Fn w b off n f) (k : Nat) : Fn (w.drewN k) b off n f := h

structure WkR (wr w : World) (ba oa bb ob nb : Nat) (sv : Nat → Value) (U0 V0 U1 V1 : Nat) (f g : Nat → Nat) (k : Nat) (z1 z2 : Nat → Nat) (p1 m1 b1 p2 m2 b2 : Nat) : Prop where
  x : Fn wr ba oa nb (fun i => if i < k then z1 i else f i)
  y : Fn wr bb ob nb (fun i => if i < k then z2 i else g i)
  o1 : ∀ i, i < k → z1 i < 4294967296
  o2 : ∀ i, i < k → z2 i < 4294967296
  st : St5 wr w.heap.size sv
  l1 : Ln wr (w.heap.size + 1) p1 m1 b1
  l2 : Ln wr (w.heap.size + 1 + 1) p2 m2 b2
  r1 : LaneR U0 V0 f g z1 k p1 m1 b1
  r2 : LaneR V1 U1 g f z2 k p2 m2 b2
  chg : Chg (fun k => k = ba ∨ k = bb) w wr

theorem Chg.upd {S : Nat → Prop} {w w' w'' : World} {b lo hi : Nat} (h : Chg S w w') (u : Upd b lo hi w' w'') (hb : w.heap.size ≤ b ∨ S b) : Chg S w w'' := by
  refine ⟨u.os.trans h.os, u.tape.trans h.tape, u.output.trans h.output, Nat.le_trans h.size u.size, ?_⟩
  intro k hk hs
  rw [u.block k (Nat.lt_of_lt_of_le hk h.size) ?_, h.block k hk hs]
  rintro rfl
  rcases hb with e | e
  · omega
  · exact hs e

theorem fn_put {w : World} {b off n k y : Nat} {z f : Nat → Nat} (h : Fn w b off n (fun i => if i < k then z i else f i)) (hk : k < n) : Fn (w.setCell ⟨b, off + k, none⟩ (.int .u32 (y : Nat))) b off n (fun i => if i < k + 1 then (if i = k then y else z i) else f i) := by
  refine (h.set k y hk).congr ?_
  intro i hi
  by_cases e : i = k
  · subst e; simp
  · simp only [e, if_false]
    by_cases l : i < k
    · rw [if_pos l, if_pos (by omega)]
    · rw [if_neg l, if_neg (by omega)]

structure WkH (w3 wr w : World) (ba oa bb ob nb : Nat) (sv : Nat → Value) (g : Nat → Nat) (k : Nat) (z1 z2 f : Nat → Nat) (z p1 m1 b1 p2 m2 b2 : Nat) : Prop where
  x : Fn (w3.setCell ⟨ba, oa + k, none⟩ (.int .u32 (z : Nat))) ba oa nb (fun i => if i < k + 1 then (if i = k then z else z1 i) else f i)
  y : Fn (w3.setCell ⟨ba, oa + k, none⟩ (.int .u32 (z : Nat))) bb ob nb (fun i => if i < k then z2 i else g i)
  st : St5 (w3.setCell ⟨ba, oa + k, none⟩ (.int .u32 (z : Nat))) w.heap.size sv
  l1 : Ln (w3.setCell ⟨ba, oa + k, none⟩ (.int .u32 (z : Nat))) (w.heap.size + 1) p1 m1 b1
  l2 : Ln (w3.setCell ⟨ba, oa + k, none⟩ (.int .u32 (z : Nat))) (w.heap.size + 1 + 1) p2 m2 b2
  chg : Chg (fun k => k = ba ∨ k = bb) w (w3.setCell ⟨ba, oa + k, none⟩ (.int .u32 (z : Nat)))

theorem WkR.half {wr w : World} {ba oa bb ob nb : Nat} {sv : Nat → Value} {U0 V0 U1 V1 : Nat} {f g : Nat → Nat} {k : Nat} {z1 z2 : Nat → Nat} {p1 m1 b1 p2 m2 b2 : Nat} (h : WkR wr w ba oa bb ob nb sv U0 V0 U1 V1 f g k z1 z2 p1 m1 b1 p2 m2 b2) (hk : k < nb) (hne : ba ≠ bb) (ha : ba < w.heap.size) (hb : bb < w.heap.size)
    {w3 : World} {j P M z p' m' b' : Nat} (n : NxR (wr.drewN j) w3 (w.heap.size + 1) P M p1 m1 b1 z p' m' b') : Fn w3 ba oa nb (fun i => if i < k then z1 i else f i) ∧ WkH w3 wr w ba oa bb ob nb sv g k z1 z2 f z p' m' b' p2 m2 b2 := by
  have u : Upd (w.heap.size + 1) 0 3 (wr.drewN j) w3 := n.upd
  have x3 := u.fn (fn_drw h.x j) (.inl (by omega))
  have y3 := u.fn (fn_drw h.y j) (.inl (by omega))
  have s3 := u.st5 (h.st.drewN j) (by omega)
  have l3 := u.ln (h.l2.drewN j) (by omega)
  have v := (Upd.refl ba oa (oa + nb) w3).set (oa + k) (.int .u32 (z : Nat)) (by omega) (by omega)
  exact ⟨x3, fn_put x3 hk, v.fn y3 (.inl (by omega)), v.st5 s3 (by omega), v.ln n.ln (by omega), v.ln l3 (by omega), ((h.chg.trans (Chg.of_drewN wr j)).upd u (.inl (by omega))).upd v (.inr (.inl rfl))⟩

theorem WkH.full {w3 wr w : World} {ba oa bb ob nb : Nat} {sv : Nat → Value} {U0 V0 U1 V1 : Nat} {f g : Nat → Nat} {k : Nat} {z1 z2 : Nat → Nat} {z q1 q2 q3 p1 m1 b1 p2 m2 b2 : Nat} (h : WkR wr w ba oa bb ob nb sv U0 V0 U1 V1 f g k z1 z2 p1 m1 b1 p2 m2 b2) (hh : WkH w3 wr w ba oa bb ob nb sv g k z1 z2 f z q1 q2 q3 p2 m2 b2) (hk : k < nb) (hne : ba ≠ bb) (ha : ba < w.heap.size) (hb : bb < w.heap.size)
    {j : Nat} (n1 : NxR (wr.drewN j) w3 (w.heap.size + 1) (U0 * f k) (V0 * g k) p1 m1 b1 z q1 q2 q3) {w5 : World} {y p' m' b' : Nat} (n2 : NxR (w3.setCell ⟨ba, oa + k, none⟩ (.int .u32 (z : Nat))) w5 (w.heap.size + 1 + 1) (V1 * g k) (U1 * f k) p2 m2 b2 y p' m' b') :
    Fn w5 bb ob nb (fun i => if i < k then z2 i else g i) ∧ WkR (w5.setCell ⟨bb, ob + k, none⟩ (.int .u32 (y : Nat))) w ba oa bb ob nb sv U0 V0 U1 V1 f g (k + 1) (fun i => if i = k then z else z1 i) (fun i => if i = k then y else z2 i) q1 q2 q3 p' m' b' := by
  have u := n2.upd
  have x5 := u.fn hh.x (.inl (by omega))
  have y5 := u.fn hh.y (.inl (by omega))
  have s5 := u.st5 hh.st (by omega)
  have l5 := u.ln hh.l1 (by omega)
  have v := (Upd.refl bb ob (ob + nb) w5).set (ob + k) (.int .u32 (y : Nat)) (by omega) (by omega)
  refine ⟨y5, v.fn x5 (.inl (by omega)), fn_put y5 hk, ?_, ?_, v.st5 s5 (by omega), v.ln l5 (by omega), v.ln n2.ln (by omega), ?_, ?_, (hh.chg.upd u (.inl (by omega))).upd v (.inr (.inr rfl))⟩
  · intro i hi
    by_cases e : i = k
    · simp only [e, if_true]; exact n1.zlt
    · simp only [e, if_false]; exact h.o1 i (by omega)
  · intro i hi
    by_cases e : i = k
    · simp only [e, if_true]; exact n2.zlt
    · simp only [e, if_false]; exact h.o2 i (by omega)
  · exact h.r1.step n1.plt n1.mlt n1.ble n1.eq _ (fun i hi => by rw [if_neg (by omega)]) (by simp)
  · exact h.r2.step n2.plt n2.mlt n2.ble n2.eq _ (fun i hi => by rw [if_neg (by omega)]) (by simp)

theorem LaneR.zero (u v : Nat) (f g z : Nat → Nat) : LaneR u v f g z 0 0 0 0 := ⟨by decide, by decide, by decide, by simp [valF]⟩
theorem Ln.made (w : World) (t : TypeId) : Ln (w.alloc (.cells #[.int .u64 0, .int .u64 0, .int .u32 0] t)) w.heap.size 0 0 0 := fun i hi => by
  refine ⟨?_, alloc_frozen _ _ _ _⟩
  match i, hi with
  | 0, _ | 1, _ | 2, _ => simp; rfl
theorem Ln.below {w w' : World} {l p m b : Nat} (h : Ln w l p m b) (k : Below w.heap.size w w') : Ln w' l p m b := by
  intro i hi
  have hl := World.block_lt_of_cell? _ _ (h i hi).1
  exact ⟨(k.cell hl).trans (h i hi).1, (k.frozen hl).trans (h i hi).2⟩

set_option maxHeartbeats 16000000 in
theorem walk_even (u0 u1 v0 v1 ba oa na ca bb ob nb cb : Nat) (f g : Nat → Nat) (P Q hp hq R0 R1 : Nat) (w : World) (hA : Fn w ba oa nb f) (hB : Fn w bb ob nb g) (hne : ba ≠ bb) (of : ∀ i, i < nb → f i < 4294967296) (og : ∀ i, i < nb → g i < 4294967296)
    (bu0 : u0 < 4294967296) (bu1 : u1 < 4294967296) (bv0 : v0 < 4294967296) (bv1 : v1 < 4294967296) (hn : nb ≤ 2048) (hn0 : 1 ≤ nb) (hca : nb ≤ ca) (hcm : ca ≤ maxLen) (hcb : nb ≤ cb) (hcbm : cb ≤ maxLen) (hna : nb ≤ na) (hnca : na ≤ ca)
    (hP : P = valF f nb + 4294967296 ^ nb * hp) (hQ : Q = valF g nb + 4294967296 ^ nb * hq) (d0 : R0 + v0 * Q = u0 * P) (d1 : R1 + u1 * P = v1 * Q) (l0 : R0 < 4294967296 ^ nb) (l1 : R1 < 4294967296 ^ nb) :
    Calls Tryd.prog 78 #[stepsV false u0 u1 v0 v1, .slice (some ⟨ba, oa, none⟩) na ca, .slice (some ⟨bb, ob, none⟩) nb cb] w fun e w' => WkPost w ba bb R0 R1 e w' := by
  have hba : ba < w.heap.size := World.block_lt_of_cell? _ _ (hA 0 hn0).1
  have hbb : bb < w.heap.size := World.block_lt_of_cell? _ _ (hB 0 hn0).1
  have hA' := hide hA
  have hB' := hide hB
  have OF := hide of
  have OG := hide og
  have HF := hide (And.intro hP (And.intro hQ (And.intro d0 (And.intro d1 (And.intro l0 l1)))))
  have i1 : (nb:Int) ≤ (ca:Int) := by omega
  have i2 : (nb:Int) ≤ (na:Int) := by omega
  have i3 : (na:Int) ≤ (ca:Int) := by omega
  unfold maxLen at hcm hcbm
  clear hA hB of og hP hQ d0 d1 l0 l1
  unfold stepsV
  go_enter Tryd.func78, Tryd.ntmps78
  go_wp2_with fail
  have HR0 := hide (show WkR (((w.alloc (.cells #[.int .u64 (u0 : Nat), .int .u64 (u1 : Nat), .int .u64 (v0 : Nat), .int .u64 (v1 : Nat), .bool false] 136)).alloc (.cells #[.int .u64 0, .int .u64 0, .int .u32 0] 145)).alloc (.cells #[.int .u64 0, .int .u64 0, .int .u32 0] 145)) w ba oa bb ob nb (stv false u0 u1 v0 v1) u0 v0 u1 v1 f g 0 (fun _ => 0) (fun _ => 0) 0 0 0 0 0 0 from by
    have c1 := (Below.refl w.heap.size w).alloc (Nat.le_refl _) (.cells #[.int .u64 (u0 : Nat), .int .u64 (u1 : Nat), .int .u64 (v0 : Nat), .int .u64 (v1 : Nat), .bool false] 136)
    generalize hwa : w.alloc (.cells #[.int .u64 (u0 : Nat), .int .u64 (u1 : Nat), .int .u64 (v0 : Nat), .int .u64 (v1 : Nat), .bool false] 136) = wa at *
    have s1 : wa.heap.size = w.heap.size + 1 := by rw [← hwa]; simp
    have c2 := (Below.refl wa.heap.size wa).alloc (Nat.le_refl _) (.cells #[.int .u64 0, .int .u64 0, .int .u32 0] 145)
    have L1 := Ln.made wa 145
    generalize hwb : wa.alloc (.cells #[.int .u64 0, .int .u64 0, .int .u32 0] 145) = wb at *
    have s2 : wb.heap.size = w.heap.size + 1 + 1 := by rw [← hwb]; simp; omega
    have c3 := (Below.refl wb.heap.size wb).alloc (Nat.le_refl _) (.cells #[.int .u64 0, .int .u64 0, .int .u32 0] 145)
    have L2 := Ln.made wb 145
    have St : St5 wa w.heap.size (stv false u0 u1 v0 v1) := by rw [← hwa]; exact St5.made _ _ _ _ _ _ _
    have hX := Fn.below (Fn.below (Fn.below (unhide hA') c1) c2) c3
    have hY := Fn.below (Fn.below (Fn.below (unhide hB') c1) c2) c3
    rw [s1] at L1
    rw [s2] at L2
    have l1 := L1.below c3
    exact ⟨hX.congr (fun i _ => by simp), hY.congr (fun i _ => by simp), fun i hi => by omega, fun i hi => by omega, (St.below c2).below c3, l1, L2, LaneR.zero _ _ _ _ _, LaneR.zero _ _ _ _ _, Chg.of_below ((c1.trans (c2.mono (by omega))).trans (c3.mono (by omega)))⟩)
  generalize ((w.alloc (.cells #[.int .u64 (u0 : Nat), .int .u64 (u1 : Nat), .int .u64 (v0 : Nat), .int .u64 (v1 : Nat), .bool false] 136)).alloc (.cells #[.int .u64 0, .int .u64 0, .int .u32 0] 145)).alloc (.cells #[.int .u64 0, .int .u64 0, .int .u32 0] 145) = w0 at HR0 ⊢
  go_loopw [40] (fun iv wr => ∃ (k : Nat) (z1 z2 : Nat → Nat) (p1 m1 b1 p2 m2 b2 : Nat), k ≤ nb ∧ iv = .int .i64 (k : Nat) ∧ WkR wr w ba oa bb ob nb (stv false u0 u1 v0 v1) u0 v0 u1 v1 f g k z1 z2 p1 m1 b1 p2 m2 b2) (fun iv _ => nb - (intOf iv).toNat)
  case atStart => exact ⟨0, _, _, _, _, _, _, _, _, Nat.zero_le _, rfl, unhide HR0⟩
  case round =>
    clear HR0
    obtain ⟨k, z1, z2, p1, m1, b1, p2, m2, b2, hk, rfl, hR⟩ := hrel
    by_cases hlt : k < nb
    · have hlt' : (k:Int) < (nb:Int) := by omega
      have x1 := (hR.x k hlt).1
      have y1 := (hR.y k hlt).1
      simp only [Nat.lt_irrefl, if_false] at x1 y1
      have bx := unhide OF k hlt
      have bY := unhide OG k hlt
      have S0 := (hR.st 0 (by decide)).1
      have S1 := (hR.st 1 (by decide)).1
      have S2 := (hR.st 2 (by decide)).1
      have S3 := (hR.st 3 (by decide)).1
      simp only [stv] at S0 S1 S2 S3
      have P0 : u0 * f k ≤ 18446744065119617025 := mul_bound bu0 bx
      have P2 : v0 * g k ≤ 18446744065119617025 := mul_bound bv0 bY
      have P3 : v1 * g k ≤ 18446744065119617025 := mul_bound bv1 bY
      have P1 : u1 * f k ≤ 18446744065119617025 := mul_bound bu1 bx
      have K1 := hide (fun j => next_any (w.heap.size + 1) (u0 * f k) (v0 * g k) p1 m1 b1 (wr.drewN j) (hR.l1.drewN j) hR.r1.plt hR.r1.mlt hR.r1.ble P0 P2)
      have HR := hide hR
      have q0 : (u0 : Int) * (f k : Int) = ((u0 * f k : Nat) : Int) := by rw [Int.natCast_mul]
      have q2 : (v0 : Int) * (g k : Int) = ((v0 * g k : Nat) : Int) := by rw [Int.natCast_mul]
      have q3 : (v1 : Int) * (g k : Int) = ((v1 * g k : Nat) : Int) := by rw [Int.natCast_mul]
      have q1 : (u1 : Int) * (f k : Int) = ((u1 * f k : Nat) : Int) := by rw [Int.natCast_mul]
      have HK1 := hide (fun (w3 : World) j z p' m' b' (n : NxR (wr.drewN j) w3 (w.heap.size + 1) (u0 * f k) (v0 * g k) p1 m1 b1 z p' m' b') => (unhide HR).half hlt hne hba hbb n)
      have HK2 := hide (fun (w3 : World) j z q1 q2 q3 (n1 : NxR (wr.drewN j) w3 (w.heap.size + 1) (u0 * f k) (v0 * g k) p1 m1 b1 z q1 q2 q3) (hh : WkH w3 wr w ba oa bb ob nb (stv false u0 u1 v0 v1) g k z1 z2 f z q1 q2 q3 p2 m2 b2) (w5 : World) y p' m' b' (n2 : NxR (w3.setCell ⟨ba, oa + k, none⟩ (.int .u32 (z : Nat))) w5 (w.heap.size + 1 + 1) (v1 * g k) (u1 * f k) p2 m2 b2 y p' m' b') => WkH.full (unhide HR) hh hlt hne hba hbb n1 n2)
      have R2 := hide (And.intro hR.r2.plt (And.intro hR.r2.mlt hR.r2.ble))
      generalize u0 * f k = a0 at *
      generalize v0 * g k = a2 at *
      generalize v1 * g k = a3 at *
      generalize u1 * f k = a1 at *
      generalize f k = X at *
      generalize g k = Y at *
      clear hR
      go_wp2_with fail
      go_quiet (fail)
      go_wp2_with fail
      refine (unhide K1 _).mono ?_
      rintro e w3 ⟨z, p', m', b', rfl, hN⟩
      obtain ⟨x3, hH⟩ := unhide HK1 w3 _ z p' m' b' hN
      have x4 := (x3 k hlt).1
      have x5 := (x3 k hlt).2
      generalize ((if k < k then z1 k else _ : Nat) : Int) = old at x4
      have T1 := (hH.st 1 (by decide)).1
      have T3 := (hH.st 3 (by decide)).1
      simp only [stv] at T1 T3
      have r2 := unhide R2
      have K2 := hide (next_any (w.heap.size + 1 + 1) a3 a1 p2 m2 b2 (w3.setCell ⟨ba, oa + k, none⟩ (.int .u32 (z : Nat))) hH.l2 r2.1 r2.2.1 r2.2.2 P3 P1)
      have HN := hide hN
      have HH := hide hH
      clear hN hH x3 r2 K1
      go_wp2_with fail
      refine (unhide K2).mono ?_
      rintro e w5 ⟨y, p3, m3, b3, rfl, hN2⟩
      obtain ⟨y3, hS⟩ := unhide HK2 w3 _ z p' m' b' (unhide HN) (unhide HH) w5 y p3 m3 b3 hN2
      have y4 := (y3 k hlt).1
      have y5 := (y3 k hlt).2
      generalize ((if k < k then z2 k else _ : Nat) : Int) = old2 at y4
      have HS := hide hS
      clear y3 hS hN2 K2 HK1 HK2
      go_wp2_with fail
      exact ⟨⟨k + 1, _, _, _, _, _, _, _, _, by omega, by go_num, unhide HS⟩, by simp [intOf]; omega⟩
    · have hkn : k = nb := by omega
      subst hkn
      have hlt' : ¬ (k:Int) < (k:Int) := by omega
      have hF := unhide HF
      have fx : Fn wr ba oa k z1 := hR.x.congr (fun i hi => by simp [hi])
      have fy : Fn wr bb ob k z2 := hR.y.congr (fun i hi => by simp [hi])
      have v1' : valF z1 k = R0 := hR.r1.done hF.1 hF.2.1 hF.2.2.1 hF.2.2.2.2.1 (valF_lt hR.o1)
      have v2' : valF z2 k = R1 := hR.r2.done hF.2.1 hF.1 hF.2.2.2.1 hF.2.2.2.2.2 (valF_lt hR.o2)
      have KX := trim_any (some ⟨ba, oa, none⟩) k k _ wr (fx.sl (by omega) (by unfold maxLen; omega)) (lst_ok hR.o1)
      have KY := fun j => trim_any (some ⟨bb, ob, none⟩) k cb _ (wr.drewN j) ((fy.sl (by omega) (by unfold maxLen; omega)).drewN j) (lst_ok hR.o2)
      rw [lst_val, v1'] at KX
      rw [lst_val, v2'] at KY
      have KX' := hide KX
      have KY' := hide (KY 0)
      have HC := hide (And.intro hR.chg (And.intro fx (And.intro fy (And.intro hF.2.2.2.2.1 hF.2.2.2.2.2))))
      clear KX KY hR hF fx fy v1' v2'
      go_wp2_with fail
      refine (unhide KX').mono ?_
      rintro e w' ⟨a1, m1, y1, rfl, hs1, hr1, ha1, hw⟩
      obtain rfl := hw.symm
      have H1 := hide (And.intro hs1 (And.intro hr1 ha1))
      clear hs1 hr1 ha1 hw KX'
      go_wp2_with fail
      refine (unhide KY').mono ?_
      rintro e w' ⟨a2, m2, y2, rfl, hs2, hr2, ha2, hw⟩
      obtain rfl := hw.symm
      have H2 := hide (And.intro hs2 (And.intro hr2 ha2))
      clear hs2 hr2 ha2 hw KY'
      go_wp2
      go_ret2
      obtain ⟨hs1, hr1, ha1⟩ := unhide H1
      obtain ⟨hs2, hr2, ha2⟩ := unhide H2
      obtain ⟨hc, fx, fy, l0, l1⟩ := unhide HC
      have q1 : m1 ≤ k := by rw [← hs1.len]; exact rep_len_leS hr1 l0
      have q2 : m2 ≤ k := by rw [← hs2.len]; exact rep_len_leS hr2 l1
      refine ⟨a1, m1, y1, a2, m2, y2, rfl, hs1, hr1, ?_, hs2, hr2, ?_, ?_, ?_, ?_, hc⟩
      · intro x hx i hi
        rcases ha1 with e | e
        · rw [e] at hx; cases hx; exact (fx i (by omega)).2
        · rw [e] at hx; cases hx
      · intro x hx i hi
        rcases ha2 with e | e
        · rw [e] at hx; cases hx; exact (fy i (by omega)).2
        · rw [e] at hx; cases hx
      · intro x hx
        rcases ha1 with e | e
        · rw [e] at hx; cases hx; exact .inl rfl
        · rw [e] at hx; cases hx
      · intro x hx
        rcases ha2 with e | e
        · rw [e] at hx; cases hx; exact .inr rfl
        · rw [e] at hx; cases hx
      · intro x y hx hy
        rcases ha1 with e | e
        · rcases ha2 with e2 | e2
          · rw [e] at hx; rw [e2] at hy; cases hx; cases hy; exact hne
          · rw [e2] at hy; cases hy
        · rw [e] at hx; cases hx

set_option maxHeartbeats 16000000 in
theorem walk_odd (u0 u1 v0 v1 ba oa na ca bb ob nb cb : Nat) (f g : Nat → Nat) (P Q hp hq R0 R1 : Nat) (w : World) (hA : Fn w ba oa nb f) (hB : Fn w bb ob nb g) (hne : ba ≠ bb) (of : ∀ i, i < nb → f i < 4294967296) (og : ∀ i, i < nb → g i < 4294967296)
    (bu0 : u0 < 4294967296) (bu1 : u1 < 4294967296) (bv0 : v0 < 4294967296) (bv1 : v1 < 4294967296) (hn : nb ≤ 2048) (hn0 : 1 ≤ nb) (hca : nb ≤ ca) (hcm : ca ≤ maxLen) (hcb : nb ≤ cb) (hcbm : cb ≤ maxLen) (hna : nb ≤ na) (hnca : na ≤ ca)
    (hP : P = valF f nb + 4294967296 ^ nb * hp) (hQ : Q = valF g nb + 4294967296 ^ nb * hq) (d0 : R0 + u0 * P = v0 * Q) (d1 : R1 + v1 * Q = u1 * P) (l0 : R0 < 4294967296 ^ nb) (l1 : R1 < 4294967296 ^ nb) :
    Calls Tryd.prog 78 #[stepsV true u0 u1 v0 v1, .slice (some ⟨ba, oa, none⟩) na ca, .slice (some ⟨bb, ob, none⟩) nb cb] w fun e w' => WkPost w ba bb R0 R1 e w' := by
  have hba : ba < w.heap.size := World.block_lt_of_cell? _ _ (hA 0 hn0).1
  have hbb : bb < w.heap.size := World.block_lt_of_cell? _ _ (hB 0 hn0).1
  have hA' := hide hA
  have hB' := hide hB
  have OF := hide of
  have OG := hide og
  have HF := hide (And.intro hP (And.intro hQ (And.intro d0 (And.intro d1 (And.intro l0 l1)))))
  have i1 : (nb:Int) ≤ (ca:Int) := by omega
  have i2 : (nb:Int) ≤ (na:Int) := by omega
  have i3 : (na:Int) ≤ (ca:Int) := by omega
  unfold maxLen at hcm hcbm
  clear hA hB of og hP hQ d0 d1 l0 l1
  unfold stepsV
  go_enter Tryd.func78, Tryd.ntmps78
  go_wp2_with fail
  have HR0 := hide (show WkR (((w.alloc (.cells #[.int .u64 (v0 : Nat), .int .u64 (v1 : Nat), .int .u64 (u0 : Nat), .int .u64 (u1 : Nat), .bool true] 136)).alloc (.cells #[.int .u64 0, .int .u64 0, .int .u32 0] 145)).alloc (.cells #[.int .u64 0, .int .u64 0, .int .u32 0] 145)) w bb ob ba oa nb (stv true v0 v1 u0 u1) v0 u0 v1 u1 g f 0 (fun _ => 0) (fun _ => 0) 0 0 0 0 0 0 from by
    have c1 := (Below.refl w.heap.size w).alloc (Nat.le_refl _) (.cells #[.int .u64 (v0 : Nat), .int .u64 (v1 : Nat), .int .u64 (u0 : Nat), .int .u64 (u1 : Nat), .bool true] 136)
    generalize hwa : w.alloc (.cells #[.int .u64 (v0 : Nat), .int .u64 (v1 : Nat), .int .u64 (u0 : Nat), .int .u64 (u1 : Nat), .bool true] 136) = wa at *
    have s1 : wa.heap.size = w.heap.size + 1 := by rw [← hwa]; simp
    have c2 := (Below.refl wa.heap.size wa).alloc (Nat.le_refl _) (.cells #[.int .u64 0, .int .u64 0, .int .u32 0] 145)
    have L1 := Ln.made wa 145
    generalize hwb : wa.alloc (.cells #[.int .u64 0, .int .u64 0, .int .u32 0] 145) = wb at *
    have s2 : wb.heap.size = w.heap.size + 1 + 1 := by rw [← hwb]; simp; omega
    have c3 := (Below.refl wb.heap.size wb).alloc (Nat.le_refl _) (.cells #[.int .u64 0, .int .u64 0, .int .u32 0] 145)
    have L2 := Ln.made wb 145
    have St : St5 wa w.heap.size (stv true v0 v1 u0 u1) := by rw [← hwa]; exact St5.made _ _ _ _ _ _ _
    have hX := Fn.below (Fn.below (Fn.below (unhide hB') c1) c2) c3
    have hY := Fn.below (Fn.below (Fn.below (unhide hA') c1) c2) c3
    rw [s1] at L1
    rw [s2] at L2
    have l1 := L1.below c3
    exact ⟨hX.congr (fun i _ => by simp), hY.congr (fun i _ => by simp), fun i hi => by omega, fun i hi => by omega, (St.below c2).below c3, l1, L2, LaneR.zero _ _ _ _ _, LaneR.zero _ _ _ _ _, Chg.of_below ((c1.trans (c2.mono (by omega))).trans (c3.mono (by omega)))⟩)
  generalize ((w.alloc (.cells #[.int .u64 (v0 : Nat), .int .u64 (v1 : Nat), .int .u64 (u0 : Nat), .int .u64 (u1 : Nat), .bool true] 136)).alloc (.cells #[.int .u64 0, .int .u64 0, .int .u32 0] 145)).alloc (.cells #[.int .u64 0, .int .u64 0, .int .u32 0] 145) = w0 at HR0 ⊢
  go_loopw [40] (fun iv wr => ∃ (k : Nat) (z1 z2 : Nat → Nat) (p1 m1 b1 p2 m2 b2 : Nat), k ≤ nb ∧ iv = .int .i64 (k : Nat) ∧ WkR wr w bb ob ba oa nb (stv true v0 v1 u0 u1) v0 u0 v1 u1 g f k z1 z2 p1 m1 b1 p2 m2 b2) (fun iv _ => nb - (intOf iv).toNat)
  case atStart => exact ⟨0, _, _, _, _, _, _, _, _, Nat.zero_le _, rfl, unhide HR0⟩
  case round =>
    clear HR0
    obtain ⟨k, z1, z2, p1, m1, b1, p2, m2, b2, hk, rfl, hR⟩ := hrel
    by_cases hlt : k < nb
    · have hlt' : (k:Int) < (nb:Int) := by omega
      have x1 := (hR.x k hlt).1
      have y1 := (hR.y k hlt).1
      simp only [Nat.lt_irrefl, if_false] at x1 y1
      have bx := unhide OG k hlt
      have bY := unhide OF k hlt
      have S0 := (hR.st 0 (by decide)).1
      have S1 := (hR.st 1 (by decide)).1
      have S2 := (hR.st 2 (by decide)).1
      have S3 := (hR.st 3 (by decide)).1
      simp only [stv] at S0 S1 S2 S3
      have P0 : v0 * g k ≤ 18446744065119617025 := mul_bound bv0 bx
      have P2 : u0 * f k ≤ 18446744065119617025 := mul_bound bu0 bY
      have P3 : u1 * f k ≤ 18446744065119617025 := mul_bound bu1 bY
      have P1 : v1 * g k ≤ 18446744065119617025 := mul_bound bv1 bx
      have K1 := hide (fun j => next_any (w.heap.size + 1) (v0 * g k) (u0 * f k) p1 m1 b1 (wr.drewN j) (hR.l1.drewN j) hR.r1.plt hR.r1.mlt hR.r1.ble P0 P2)
      have HR := hide hR
      have q0 : (v0 : Int) * (g k : Int) = ((v0 * g k : Nat) : Int) := by rw [Int.natCast_mul]
      have q2 : (u0 : Int) * (f k : Int) = ((u0 * f k : Nat) : Int) := by rw [Int.natCast_mul]
      have q3 : (u1 : Int) * (f k : Int) = ((u1 * f k : Nat) : Int) := by rw [Int.natCast_mul]
      have q1 : (v1 : Int) * (g k : Int) = ((v1 * g k : Nat) : Int) := by rw [Int.natCast_mul]
      have HK1 := hide (fun (w3 : World) j z p' m' b' (n : NxR (wr.drewN j) w3 (w.heap.size + 1) (v0 * g k) (u0 * f k) p1 m1 b1 z p' m' b') => (unhide HR).half hlt hne.symm hbb hba n)
      have HK2 := hide (fun (w3 : World) j z q1 q2 q3 (n1 : NxR (wr.drewN j) w3 (w.heap.size + 1) (v0 * g k) (u0 * f k) p1 m1 b1 z q1 q2 q3) (hh : WkH w3 wr w bb ob ba oa nb (stv true v0 v1 u0 u1) f k z1 z2 g z q1 q2 q3 p2 m2 b2) (w5 : World) y p' m' b' (n2 : NxR (w3.setCell ⟨bb, ob + k, none⟩ (.int .u32 (z : Nat))) w5 (w.heap.size + 1 + 1) (u1 * f k) (v1 * g k) p2 m2 b2 y p' m' b') => WkH.full (unhide HR) hh hlt hne.symm hbb hba n1 n2)
      have R2 := hide (And.intro hR.r2.plt (And.intro hR.r2.mlt hR.r2.ble))
      generalize v0 * g k = a0 at *
      generalize u0 * f k = a2 at *
      generalize u1 * f k = a3 at *
      generalize v1 * g k = a1 at *
      generalize g k = X at *
      generalize f k = Y at *
      clear hR
      go_wp2_with fail
      go_quiet (fail)
      go_wp2_with fail
      refine (unhide K1 _).mono ?_
      rintro e w3 ⟨z, p', m', b', rfl, hN⟩
      obtain ⟨x3, hH⟩ := unhide HK1 w3 _ z p' m' b' hN
      have x4 := (x3 k hlt).1
      have x5 := (x3 k hlt).2
      generalize ((if k < k then z1 k else _ : Nat) : Int) = old at x4
      have T1 := (hH.st 1 (by decide)).1
      have T3 := (hH.st 3 (by decide)).1
      simp only [stv] at T1 T3
      have r2 := unhide R2
      have K2 := hide (next_any (w.heap.size + 1 + 1) a3 a1 p2 m2 b2 (w3.setCell ⟨bb, ob + k, none⟩ (.int .u32 (z : Nat))) hH.l2 r2.1 r2.2.1 r2.2.2 P3 P1)
      have HN := hide hN
      have HH := hide hH
      clear hN hH x3 r2 K1
      go_wp2_with fail
      refine (unhide K2).mono ?_
      rintro e w5 ⟨y, p3, m3, b3, rfl, hN2⟩
      obtain ⟨y3, hS⟩ := unhide HK2 w3 _ z p' m' b' (unhide HN) (unhide HH) w5 y p3 m3 b3 hN2
      have y4 := (y3 k hlt).1
      have y5 := (y3 k hlt).2
      generalize ((if k < k then z2 k else _ : Nat) : Int) = old2 at y4
      have HS := hide hS
      clear y3 hS hN2 K2 HK1 HK2
      go_wp2_with fail
      exact ⟨⟨k + 1, _, _, _, _, _, _, _, _, by omega, by go_num, unhide HS⟩, by simp [intOf]; omega⟩
    · have hkn : k = nb := by omega
      subst hkn
      have hlt' : ¬ (k:Int) < (k:Int) := by omega
      have hF := unhide HF
      have fx : Fn wr bb ob k z1 := hR.x.congr (fun i hi => by simp [hi])
      have fy : Fn wr ba oa k z2 := hR.y.congr (fun i hi => by simp [hi])
      have v1' : valF z1 k = R0 := hR.r1.done hF.2.1 hF.1 hF.2.2.1 hF.2.2.2.2.1 (valF_lt hR.o1)
      have v2' : valF z2 k = R1 := hR.r2.done hF.1 hF.2.1 hF.2.2.2.1 hF.2.2.2.2.2 (valF_lt hR.o2)
      have KX := trim_any (some ⟨bb, ob, none⟩) k cb _ wr (fx.sl (by omega) (by unfold maxLen; omega)) (lst_ok hR.o1)
      have KY := fun j => trim_any (some ⟨ba, oa, none⟩) k k _ (wr.drewN j) ((fy.sl (by omega) (by unfold maxLen; omega)).drewN j) (lst_ok hR.o2)
      rw [lst_val, v1'] at KX
      rw [lst_val, v2'] at KY
      have KX' := hide KX
      have KY' := hide (KY 0)
      have HC := hide (And.intro hR.chg (And.intro fx (And.intro fy (And.intro hF.2.2.2.2.1 hF.2.2.2.2.2))))
      clear KX KY hR hF fx fy v1' v2'
      go_wp2_with fail
      refine (unhide KX').mono ?_
      rintro e w' ⟨a1, m1, y1, rfl, hs1, hr1, ha1, hw⟩
      obtain rfl := hw.symm
      have H1 := hide (And.intro hs1 (And.intro hr1 ha1))
      clear hs1 hr1 ha1 hw KX'
      go_wp2_with fail
      refine (unhide KY').mono ?_
      rintro e w' ⟨a2, m2, y2, rfl, hs2, hr2, ha2, hw⟩
      obtain rfl := hw.symm
      have H2 := hide (And.intro hs2 (And.intro hr2 ha2))
      clear hs2 hr2 ha2 hw KY'
      go_wp2
      go_ret2
      obtain ⟨hs1, hr1, ha1⟩ := unhide H1
      obtain ⟨hs2, hr2, ha2⟩ := unhide H2
      obtain ⟨hc, fx, fy, l0, l1⟩ := unhide HC
      have q1 : m1 ≤ k := by rw [← hs1.len]; exact rep_len_leS hr1 l0
      have q2 : m2 ≤ k := by rw [← hs2.len]; exact rep_len_leS hr2 l1
      refine ⟨a1, m1, y1, a2, m2, y2, rfl, hs1, hr1, ?_, hs2, hr2, ?_, ?_, ?_, ?_, hc.mono (fun _ _ h => h.symm)⟩
      · intro x hx i hi
        rcases ha1 with e | e
        · rw [e] at hx; cases hx; exact (fx i (by omega)).2
        · rw [e] at hx; cases hx
      · intro x hx i hi
        rcases ha2 with e | e
        · rw [e] at hx; cases hx; exact (fy i (by omega)).2
        · rw [e] at hx; cases hx
      · intro x hx
        rcases ha1 with e | e
        · rw [e] at hx; cases hx; exact .inr rfl
        · rw [e] at hx; cases hx
      · intro x hx
        rcases ha2 with e | e
        · rw [e] at hx; cases hx; exact .inl rfl
        · rw [e] at hx; cases hx
      · intro x y hx hy
        rcases ha1 with e | e
        · rcases ha2 with e2 | e2
          · rw [e] at hx; rw [e2] at hy; cases hx; cases hy; exact hne.symm
          · rw [e2] at hy; cases hy
        · rw [e] at hx; cases hx
end Go.Proofs.YtiadccaaoenccaaDoor
