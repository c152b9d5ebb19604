/- Si3 -/
import Derived.Test.YtiadccaaoenccaaDoorSi1
import Derived.Test.YtiadccaaoenccaaDoorSi2
import Derived.Test.YtiadccaaoenccaaDoorBits
import Derived.Deep.RegionHeld3
namespace Go.Proofs.YtiadccaaoenccaaDoor
open Go.RowKit Go.Deep
set_option linter.unusedVariables false
set_option maxRecDepth 100000 in
set_option maxHeartbeats 8000000 in
theorem sameInts_eq (a1 a2 : Option Addr) (n c1 c2 : Nat) (xs : List Int) (w : World) (h1 : SlI w a1 n c1 xs) (h2 : SlI w a2 n c2 xs) (hn : n ≤ 140737488355328) :
    Calls Tryd.prog 15 #[.slice a1 n c1, .slice a2 n c2] w fun e w' => e = .returned (.bool true) ∧ ∃ m, w' = w.drewN m := by
  have tn : ((n:Int) != (n:Int)) = false := by simp
  have H1 := hide h1
  have H2 := hide h2
  clear h1 h2
  go_enter Tryd.func15, Tryd.ntmps15
  go_wp2_with fail
  go_loopw [5] (fun iv wr => ∃ q : Nat, q ≤ n ∧ iv = .int .i64 (q : Nat) ∧ Hid (Dr w wr)) (fun iv _ => n - (intOf iv).toNat)
  case atStart => exact ⟨0, Nat.zero_le _, rfl, Dr.refl _⟩
  case round =>
    obtain ⟨q, hq, rfl, HW⟩ := hrel
    by_cases hlt : q < n
    · have hlt' : (q:Int) < (n:Int) := by omega
      obtain ⟨g1, o1, rfl, k1⟩ := ((unhide H1).below (unhide HW).below).at (by omega)
      obtain ⟨g2, o2, rfl, k2⟩ := ((unhide H2).below (unhide HW).below).at (by omega)
      have z1 := k1 q hlt
      have z2 := k2 q hlt
      generalize xs.getD q 0 = x at *
      have tx : ((x:Int) != x) = false := by simp
      clear k1 k2
      go_wp2_with fail
      go_quiet (fail)
      go_wp2_with fail
      exact ⟨⟨q + 1, by omega, by (first | rfl | go_num), hide ((unhide HW).n _)⟩, by simp [intOf]; omega⟩
    · have hq2 : q = n := by omega
      subst hq2
      have hlt' : ¬ (q:Int) < (q:Int) := by omega
      go_wp2_with fail
      go_ret
      exact ⟨rfl, unhide HW⟩
theorem Dr.cell {w w' : World} (h : Dr w w') {a : Addr} {v : Value} (k : w.cell? a = some v) : w'.cell? a = some v := by obtain ⟨m, rfl⟩ := h; exact k
theorem SlI.sub {w : World} {a : Option Addr} {n c X Y : Nat} {xs : List Int} (h : SlI w a n c xs) (hXY : X ≤ Y) (hY : Y ≤ n) : SlI w (if c = X then a else Option.map (fun x => x.add X) a) (Y - X) (c - X) ((xs.drop X).take (Y - X)) := by
  have hl := h.len
  have hle := h.le
  have hcap := h.cap
  have hln : ((xs.drop X).take (Y - X)).length = Y - X := by simp; omega
  refine ⟨hln, by omega, by omega, ?_⟩
  by_cases h0 : Y - X = 0
  · left
    exact List.length_eq_zero_iff.1 (by omega)
  · right
    obtain ⟨b, off, rfl, hc⟩ := h.at (by omega)
    refine ⟨b, off + X, ?_, fun i hi => ?_⟩
    · rw [if_neg (by omega)]
      show some (Addr.add ⟨b, off, none⟩ X) = _
      congr 1
      unfold Addr.add
      split <;> simp_all
    · rw [hln] at hi
      have := hc (X + i) (by omega)
      rw [Nat.add_assoc, this]
      simp [List.getD, List.getElem?_drop, show i < Y - X from hi]
theorem RowP.sub {width : Int} {cols : List Int} {X Y : Nat} (hXY : X ≤ Y) : RowP width ((cols.drop X).take (Y - X)) 0 (Y - X) ↔ RowP width cols X Y := by
  have e : ∀ i, i < Y - X → ((cols.drop X).take (Y - X)).getD i 0 = cols.getD (X + i) 0 := fun i hi => by simp [List.getD, List.getElem?_drop, hi]
  constructor
  · intro z
    refine ⟨fun i h1 h2 => ?_, fun i h1 h2 => ?_⟩
    · have := z.rng (i - X) (Nat.zero_le _) (by omega)
      rw [e _ (by omega), show X + (i - X) = i by omega] at this
      exact this
    · have := z.up (i - X) (by omega) (by omega)
      rw [e _ (by omega), e _ (by omega), show X + (i - X) = i by omega, show X + (i - X - 1) = i - 1 by omega] at this
      exact this
  · intro z
    refine ⟨fun i h1 h2 => ?_, fun i h1 h2 => ?_⟩
    · rw [e _ h2]
      exact z.rng (X + i) (by omega) (by omega)
    · rw [e _ h2, e _ (by omega)]
      have := z.up (X + i) (by omega) (by omega)
      rw [show X + i - 1 = X + (i - 1) by omega] at this
      exact this
structure BoxP (w : World) (X : Nat) (vs : List Value) : Prop where
  all : ∀ q u, vs[q]? = some u → w.cell? ⟨X, q, none⟩ = some u ∧ w.frozen? ⟨X, q, none⟩ = false
  lt : X < w.heap.size
theorem Chg.frzP {S : Nat → Prop} {w w' : World} (h : Chg S w w') {b i : Nat} (hb : b < w.heap.size) (hs : ¬ S b) : w'.frozen? ⟨b, i, none⟩ = w.frozen? ⟨b, i, none⟩ := by
  unfold World.frozen?
  rw [h.block b hb hs]
theorem BoxP.chg {S : Nat → Prop} {w w' : World} {X : Nat} {vs : List Value} (h : BoxP w X vs) (k : Chg S w w') (hs : ¬ S X) : BoxP w' X vs :=
  ⟨fun q u hq => ⟨k.cell hs (h.all q u hq).1, by rw [k.frzP h.lt hs]; exact (h.all q u hq).2⟩, Nat.lt_of_lt_of_le h.lt k.size⟩
theorem BoxP.below {w w' : World} {X : Nat} {vs : List Value} (h : BoxP w X vs) (k : Below w.heap.size w w') : BoxP w' X vs := h.chg (S := fun _ => False) (Chg.of_below k) (fun x => x)
theorem BoxP.put {w : World} {X : Nat} {vs : List Value} (h : BoxP w X vs) (q : Nat) (u : Value) : BoxP (w.setCell ⟨X, q, none⟩ u) X (vs.set q u) := by
  refine ⟨fun p x hp => ?_, by simpa using h.lt⟩
  rw [World.frozen?_setCell]
  rw [List.getElem?_set] at hp
  by_cases e : q = p
  · subst e
    rw [if_pos rfl] at hp
    split at hp
    · rename_i hl
      obtain ⟨y, hy⟩ : ∃ y, vs[q]? = some y := ⟨_, List.getElem?_eq_getElem hl⟩
      have h1 := h.all q y hy
      obtain rfl := Option.some.inj hp
      exact ⟨World.cell?_setCell_same _ _ _ h1.1, h1.2⟩
    · cases hp
  · rw [if_neg e] at hp
    have h1 := h.all p x hp
    exact ⟨by rw [World.cell?_setCell_other _ _ _ _ (by intro c; simp at c; try omega)]; exact h1.1, h1.2⟩
theorem BoxP.other {w : World} {X : Nat} {vs : List Value} (h : BoxP w X vs) {Y : Nat} (q : Nat) (u : Value) (hn : X ≠ Y) : BoxP (w.setCell ⟨Y, q, none⟩ u) X vs :=
  h.chg (S := fun j => j = Y) (Chg.of_set _ _ _ _ rfl) hn
theorem BoxP.made (w : World) (vs : Array Value) (e : TypeId) : BoxP (w.alloc (.cells vs e)) w.heap.size vs.toList := by
  refine ⟨fun q u hq => ?_, by simp⟩
  have hq' : vs[q]? = some u := by simpa using hq
  exact ⟨by simp [hq'], by simp⟩
theorem GivI.own_lt {w : World} {B : Nat} {v0 v1 : Value} {es : List EntI} {rs : Nat → Value} (h : GivI w B v0 v1 es rs) {k : Nat} (hk : Own B v0 v1 k) : k < w.heap.size := by
  rcases hk with rfl | hk | hk
  · exact h.cell0.2.2.2.2
  · exact (Go.Proofs.YtiadccaaoenccaaDoor.own_ge h.own0 k hk).2
  · exact (Go.Proofs.YtiadccaaoenccaaDoor.own_ge h.own1 k hk).2
theorem GivI.own_ge {w : World} {B : Nat} {v0 v1 : Value} {es : List EntI} {rs : Nat → Value} (h : GivI w B v0 v1 es rs) {k : Nat} (hk : Own B v0 v1 k) : B ≤ k := by
  rcases hk with rfl | hk | hk
  · exact Nat.le_refl _
  · have := (Go.Proofs.YtiadccaaoenccaaDoor.own_ge h.own0 k hk).1; omega
  · have := (Go.Proofs.YtiadccaaoenccaaDoor.own_ge h.own1 k hk).1; omega
theorem EntOkI.ne {w : World} {B : Nat} {v0 v1 : Value} {e : EntI} (h : EntOkI w B v0 v1 e) {R : Nat} {a : Option Addr} {n c : Nat} (hR : w.cell? ⟨R, 2, none⟩ = some (.slice a n c)) : ¬ e.b = R ∧ ¬ e.b0 = R := by
  have k : ∀ {b c' : Nat}, SlI w (some ⟨b, 0, none⟩) (e.xs.length + 3) c' (e.xs ++ marksI) → ¬ b = R := by
    intro b c' hs hb
    obtain ⟨b2, o2, e2, hc⟩ := hs.at (by omega)
    injection e2 with e3
    injection e3 with e4 e5 e6
    subst e4 e5 hb
    have := hc 2 (by omega)
    rw [Nat.zero_add, hR] at this
    cases this
  exact ⟨k h.sl, k h.sl0⟩
theorem GivI.setR {w w' : World} {B : Nat} {v0 v1 : Value} {es : List EntI} {rs : Nat → Value} (h : GivI w B v0 v1 es rs) {R : Nat} {a : Option Addr} {n c : Nat} (hR : w.cell? ⟨R, 2, none⟩ = some (.slice a n c)) (hc : Chg (fun j => j = R) w w') (hO : ¬ Own B v0 v1 R) : GivI w' B v0 v1 es rs :=
  h.chg hc (fun e => hO (by rw [← e]; exact .inl rfl)) (fun k hk e => hO (by rw [← e]; exact .inr (.inl hk))) (fun k hk e => hO (by rw [← e]; exact .inr (.inr hk))) (fun e he => (h.ents e he).ne hR)
structure On where
  k : Int
  a : Int
  b : Int
  n : Int
  p : Nq
def cellsO (o : On) : List Value := [.int .i64 o.k, .int .i64 o.a, .int .i64 o.b, .int .i64 o.n, .bool o.p.g, .slice o.p.a o.p.n o.p.c, .slice o.p.b o.p.m o.p.d]
def opV (o : On) : Value := .agg #[.int .i64 o.k, .int .i64 o.a, .int .i64 o.b, .int .i64 o.n, .bool o.p.g, .slice o.p.a o.p.n o.p.c, .slice o.p.b o.p.m o.p.d]
def tapV (i : Int) (a : Option Addr) (n c : Nat) (b : Option Addr) (m d : Nat) : Value := .agg #[.int .i64 i, .slice a n c, .slice b m d]
def conO (o : On) : (Int × Int × Int × Int) × (Bool × List Nat × List Nat) := ((o.k, o.a, o.b, o.n), conQ o.p)
structure OpAt (w : World) (b q : Nat) (o : On) : Prop where
  c0 : w.cell? ⟨b, q, none⟩ = some (.int .i64 o.k)
  c1 : w.cell? ⟨b, q + 1, none⟩ = some (.int .i64 o.a)
  c2 : w.cell? ⟨b, q + 2, none⟩ = some (.int .i64 o.b)
  c3 : w.cell? ⟨b, q + 3, none⟩ = some (.int .i64 o.n)
  c4 : w.cell? ⟨b, q + 4, none⟩ = some (.bool o.p.g)
  c5 : w.cell? ⟨b, q + 5, none⟩ = some (.slice o.p.a o.p.n o.p.c)
  c6 : w.cell? ⟨b, q + 6, none⟩ = some (.slice o.p.b o.p.m o.p.d)
structure NqL (w : World) (p : Nq) : Prop where
  x : Sl w p.a p.n p.c p.x
  y : Sl w p.b p.m p.d p.y
  ox : Ok p.x
  oy : Ok p.y
structure FarN (S : Nat → Prop) (p : Nq) : Prop where
  x : ∀ z, p.a = some z → p.x ≠ [] → ¬ S z.block
  y : ∀ z, p.b = some z → p.y ≠ [] → ¬ S z.block
theorem NqL.chg {S : Nat → Prop} {w w' : World} {p : Nq} (h : NqL w p) (k : Chg S w w') (hf : FarN S p) : NqL w' p := ⟨h.x.chg k hf.x, h.y.chg k hf.y, h.ox, h.oy⟩
theorem NqL.below {w w' : World} {p : Nq} (h : NqL w p) (k : Below w.heap.size w w') : NqL w' p := ⟨h.x.below k, h.y.below k, h.ox, h.oy⟩
theorem FarN.mono {w : World} {p : Nq} {S T : Nat → Prop} (h : FarN S p) (hk : NqL w p) (hs : ∀ k, k < w.heap.size → ¬ S k → ¬ T k) : FarN T p :=
  ⟨fun z hz hne => hs _ (hk.x.block_lt hne z hz) (h.x z hz hne), fun z hz hne => hs _ (hk.y.block_lt hne z hz) (h.y z hz hne)⟩
theorem OpAt.keep {w w' : World} {b q : Nat} {o : On} (h : OpAt w b q o) (hc : ∀ i v, w.cell? ⟨b, i, none⟩ = some v → w'.cell? ⟨b, i, none⟩ = some v) : OpAt w' b q o :=
  ⟨hc _ _ h.c0, hc _ _ h.c1, hc _ _ h.c2, hc _ _ h.c3, hc _ _ h.c4, hc _ _ h.c5, hc _ _ h.c6⟩
structure SlO (w : World) (a : Option Addr) (n c : Nat) (os : List On) : Prop where
  len : os.length = n
  le : n ≤ c
  cells : os = [] ∨ ∃ b off, a = some ⟨b, off, none⟩ ∧ ∀ i o, os[i]? = some o → OpAt w b (off + i * 7) o
  each : ∀ o ∈ os, NqL w o.p
theorem SlO.below {w w' : World} {a : Option Addr} {n c : Nat} {os : List On} (h : SlO w a n c os) (k : Below w.heap.size w w') : SlO w' a n c os := by
  refine ⟨h.len, h.le, ?_, fun p hp => (h.each p hp).below k⟩
  rcases h.cells with e | ⟨b, off, e, hc⟩
  · exact .inl e
  · exact .inr ⟨b, off, e, fun i p hp => (hc i p hp).keep (fun j v hv => (k.cell (World.block_lt_of_cell? _ _ hv)).trans hv)⟩
theorem SlO.at' {w : World} {a : Option Addr} {n c : Nat} {os : List On} (h : SlO w a n c os) {i : Nat} (hi : i < n) : ∃ b off o, a = some ⟨b, off, none⟩ ∧ os[i]? = some o ∧ OpAt w b (off + i * 7) o ∧ NqL w o.p := by
  have hl := h.len
  have hi' : i < os.length := by omega
  have hp : os[i]? = some os[i] := List.getElem?_eq_getElem hi'
  rcases h.cells with e | ⟨b, off, e, hc⟩
  · rw [e] at hl; simp at hl; omega
  · exact ⟨b, off, os[i], e, hp, hc i _ hp, h.each _ (List.getElem_mem hi')⟩
def celO (os : List On) : List Value := os.flatMap cellsO
theorem celO_len (os : List On) : (celO os).length = os.length * 7 := by
  induction os with
  | nil => rfl
  | cons p r ih => unfold celO at ih ⊢; simp only [List.flatMap_cons, List.length_append, List.length_cons]; rw [ih]; simp [cellsO]; omega
theorem celO_app (ps qs : List On) : celO (ps ++ qs) = celO ps ++ celO qs := by unfold celO; simp
theorem celO_get (os : List On) : ∀ {i : Nat} {o : On}, os[i]? = some o → ∀ j, j < 7 → (celO os)[i * 7 + j]? = (cellsO o)[j]? := by
  induction os with
  | nil => intro i p hp; simp at hp
  | cons q r ih =>
    intro i p hp j hj
    have e : celO (q :: r) = cellsO q ++ celO r := by unfold celO; simp
    have h7 : (cellsO q).length = 7 := rfl
    rw [e]
    match i with
    | 0 => simp at hp; subst hp; rw [List.getElem?_append_left (by omega)]; simp
    | i + 1 =>
      have h0 := ih (i := i) (o := p) (by simpa using hp) j hj
      rw [List.getElem?_append_right (by omega), ← h0]
      congr 1
      omega
structure FilC (e : TypeId) (w : World) (A L : Nat) (vs : List Value) : Prop where
  blk : ∃ cur : Array Value, w.heap[A]? = some (.cells cur e) ∧ cur.size = L ∧ ∀ (i : Nat) (v : Value), vs[i]? = some v → cur[i]? = some v
theorem FilC.lt {e : TypeId} {w : World} {A L : Nat} {vs : List Value} (h : FilC e w A L vs) : A < w.heap.size := by
  obtain ⟨cur, hc, _⟩ := h.blk
  exact block_lt hc
theorem FilC.chg {S : Nat → Prop} {e : TypeId} {w w' : World} {A L : Nat} {vs : List Value} (h : FilC e w A L vs) (k : Chg S w w') (hA : ¬ S A) : FilC e w' A L vs := by
  obtain ⟨cur, hc, hr⟩ := h.blk
  exact ⟨cur, by rw [k.block A (block_lt hc) hA]; exact hc, hr⟩
theorem FilC.below {e : TypeId} {w w' : World} {A L : Nat} {vs : List Value} (h : FilC e w A L vs) (k : Below w.heap.size w w') : FilC e w' A L vs := h.chg (S := fun _ => False) (.of_below k) id
theorem FilC.made (e : TypeId) (w : World) (cur : Array Value) (L : Nat) (hs : cur.size = L) : FilC e (w.alloc (.cells cur e)) w.heap.size L [] := ⟨⟨cur, alloc_block _ _, hs, fun i v hv => by simp at hv⟩⟩
theorem FilC.push {e : TypeId} {w : World} {A L : Nat} {vs : List Value} (h : FilC e w A L vs) {q : Nat} (hq : vs.length = q) (hL : q < L) (u : Value) : FilC e (w.setCell ⟨A, q, none⟩ u) A L (vs ++ [u]) := by
  obtain ⟨cur, hb, hs, hr⟩ := h.blk
  refine ⟨_, set_block hb _ _, by simpa using hs, fun i v hv => ?_⟩
  by_cases e : i < vs.length
  · rw [List.getElem?_append_left e] at hv
    rw [Array.getElem?_setIfInBounds_ne (by omega)]
    exact hr i v hv
  · have hi : i < (vs ++ [u]).length := (List.getElem?_eq_some_iff.1 hv).1
    have hi2 : i = q := by simp at hi; omega
    subst hi2
    rw [List.getElem?_append_right (by omega), hq, Nat.sub_self] at hv
    rw [Array.getElem?_setIfInBounds_self_of_lt (by omega)]
    simpa using hv
theorem FilC.put {e : TypeId} {w : World} {A L : Nat} {vs : List Value} (h : FilC e w A L vs) (q : Nat) (hL : q < L) (u : Value) : FilC e (w.setCell ⟨A, q, none⟩ u) A L (vs.set q u) := by
  obtain ⟨cur, hb, hs, hr⟩ := h.blk
  refine ⟨_, set_block hb _ _, by simpa using hs, fun i v hv => ?_⟩
  rw [List.getElem?_set] at hv
  by_cases e : q = i
  · subst e
    rw [if_pos rfl] at hv
    rw [Array.getElem?_setIfInBounds_self_of_lt (by omega)]
    split at hv
    · exact hv
    · cases hv
  · rw [if_neg e] at hv
    rw [Array.getElem?_setIfInBounds_ne e]
    exact hr i v hv
theorem FilC.cellsAt {e : TypeId} {w : World} {A L : Nat} {vs : List Value} (h : FilC e w A L vs) {j : Nat} (hj : j < L) : (∃ v, w.cell? ⟨A, j, none⟩ = some v) ∧ w.frozen? ⟨A, j, none⟩ = false := by
  obtain ⟨cur, hb, hs, hr⟩ := h.blk
  exact ⟨⟨cur[j], by rw [cell_of_block hb]; simp [show j < cur.size from by omega]⟩, frozen_of_block hb _⟩
theorem FilC.cell {e : TypeId} {w : World} {A L : Nat} {vs : List Value} (h : FilC e w A L vs) {j : Nat} {v : Value} (hv : vs[j]? = some v) : w.cell? ⟨A, j, none⟩ = some v := by
  obtain ⟨cur, hb, hs, hr⟩ := h.blk
  rw [cell_of_block hb]
  exact hr j v hv
theorem FilC.own {e : TypeId} {w : World} {A N K : Nat} {vs : List Value} (h : FilC e w A (N * K) vs) {n base : Nat} (hn : vs.length = n * K) (hN : n ≤ N) (hb : base ≤ A) (hm : N ≤ maxLen) : w.ownsRow base e K (.slice (some ⟨A, 0, none⟩) n N) n vs := by
  obtain ⟨cur, hc, hs, hr⟩ := h.blk
  have hNK : n * K ≤ N * K := Nat.mul_le_mul_right _ hN
  refine ⟨by rw [hn], .inr ⟨A, N, cur, rfl, hb, hc, hN, hm, hs, ?_⟩⟩
  apply List.ext_getElem?
  intro i
  by_cases hi : i < n * K
  · have hv : vs[i]? = some vs[i] := List.getElem?_eq_getElem (by omega)
    rw [List.getElem?_take, if_pos hi, Array.getElem?_toList, hv]
    exact hr i _ hv
  · rw [List.getElem?_eq_none (by simp; omega), List.getElem?_eq_none (by omega)]
theorem FilC.of_own {e : TypeId} {w : World} {base A n N K : Nat} {vs : List Value} (h : w.ownsRow base e K (.slice (some ⟨A, 0, none⟩) n N) n vs) : FilC e w A (N * K) vs := by
  obtain ⟨hl, h2⟩ := h
  rcases h2 with ⟨h2, h3⟩ | ⟨g', cap, cur, h3, h4, h5, h6, h7, h8, h9⟩
  · cases h2
  · injection h3 with e1 e2 e3
    injection e1 with e1
    injection e1 with e1
    subst e1 e3
    refine ⟨cur, h5, h8, fun i v hv => ?_⟩
    have hi : i < n * K := by
      have := (List.getElem?_eq_some_iff.1 hv).1
      omega
    rw [← h9, List.getElem?_take, if_pos hi, Array.getElem?_toList] at hv
    exact hv
theorem FilC.slo {w : World} {A N n : Nat} {os : List On} (h : FilC 54 w A (N * 7) (celO os)) (hn : os.length = n) (hN : n ≤ N) (he : ∀ o ∈ os, NqL w o.p) : SlO w (some ⟨A, 0, none⟩) n N os := by
  refine ⟨hn, hN, .inr ⟨A, 0, rfl, fun i o ho => ?_⟩, he⟩
  have k := celO_get os ho
  have c : ∀ j, j < 7 → ∀ v, (cellsO o)[j]? = some v → w.cell? ⟨A, i * 7 + j, none⟩ = some v := fun j hj v hv => h.cell (by rw [k j hj]; exact hv)
  rw [Nat.zero_add]
  exact ⟨c 0 (by omega) _ rfl, c 1 (by omega) _ rfl, c 2 (by omega) _ rfl, c 3 (by omega) _ rfl, c 4 (by omega) _ rfl, c 5 (by omega) _ rfl, c 6 (by omega) _ rfl⟩
theorem FilC.seven {w : World} {A N k : Nat} {os : List On} (h : FilC 54 w A (N * 7) (celO os)) (hk : os.length = k) (hN : k < N) (o : On) :
    FilC 54 (((((((w.setCell ⟨A, k * 7, none⟩ (.int .i64 o.k)).setCell ⟨A, k * 7 + 1, none⟩ (.int .i64 o.a)).setCell ⟨A, k * 7 + 2, none⟩ (.int .i64 o.b)).setCell ⟨A, k * 7 + 3, none⟩ (.int .i64 o.n)).setCell ⟨A, k * 7 + 4, none⟩ (.bool o.p.g)).setCell ⟨A, k * 7 + 5, none⟩ (.slice o.p.a o.p.n o.p.c)).setCell ⟨A, k * 7 + 6, none⟩ (.slice o.p.b o.p.m o.p.d)) A (N * 7) (celO (os ++ [o])) ∧
    Chg (fun j => j = A) w (((((((w.setCell ⟨A, k * 7, none⟩ (.int .i64 o.k)).setCell ⟨A, k * 7 + 1, none⟩ (.int .i64 o.a)).setCell ⟨A, k * 7 + 2, none⟩ (.int .i64 o.b)).setCell ⟨A, k * 7 + 3, none⟩ (.int .i64 o.n)).setCell ⟨A, k * 7 + 4, none⟩ (.bool o.p.g)).setCell ⟨A, k * 7 + 5, none⟩ (.slice o.p.a o.p.n o.p.c)).setCell ⟨A, k * 7 + 6, none⟩ (.slice o.p.b o.p.m o.p.d)) := by
  have hl := celO_len os
  have c : ∀ (w : World) (q : Nat) (v : Value), Chg (fun j => j = A) w (w.setCell ⟨A, q, none⟩ v) := fun w q v => Chg.of_set w A q v rfl
  refine ⟨?_, ((((((c _ _ _).trans (c _ _ _)).trans (c _ _ _)).trans (c _ _ _)).trans (c _ _ _)).trans (c _ _ _)).trans (c _ _ _)⟩
  have e : celO (os ++ [o]) = ((((((celO os ++ [.int .i64 o.k]) ++ [.int .i64 o.a]) ++ [.int .i64 o.b]) ++ [.int .i64 o.n]) ++ [.bool o.p.g]) ++ [.slice o.p.a o.p.n o.p.c]) ++ [.slice o.p.b o.p.m o.p.d] := by rw [celO_app]; simp [celO, cellsO]
  rw [e]
  exact ((((((h.push (by omega) (by omega) _).push (by simp; omega) (by omega) _).push (by simp; omega) (by omega) _).push (by simp; omega) (by omega) _).push (by simp; omega) (by omega) _).push (by simp; omega) (by omega) _).push (by simp; omega) (by omega) _
theorem FilC.three {w : World} {A N k : Nat} {os : List On} {o : On} (h : FilC 54 w A (N * 7) (celO (os ++ [o]))) (hk : os.length = k) (hN : k < N) (g : Bool) (a1 a2 : Option Addr) (n1 c1 n2 c2 : Nat) (x y : List Nat) :
    FilC 54 (((w.setCell ⟨A, k * 7 + 4, none⟩ (.bool g)).setCell ⟨A, k * 7 + 5, none⟩ (.slice a1 n1 c1)).setCell ⟨A, k * 7 + 6, none⟩ (.slice a2 n2 c2)) A (N * 7) (celO (os ++ [⟨o.k, o.a, o.b, o.n, ⟨g, a1, n1, c1, x, a2, n2, c2, y⟩⟩])) ∧
    Chg (fun j => j = A) w (((w.setCell ⟨A, k * 7 + 4, none⟩ (.bool g)).setCell ⟨A, k * 7 + 5, none⟩ (.slice a1 n1 c1)).setCell ⟨A, k * 7 + 6, none⟩ (.slice a2 n2 c2)) := by
  have hl := celO_len os
  have c : ∀ (w : World) (q : Nat) (v : Value), Chg (fun j => j = A) w (w.setCell ⟨A, q, none⟩ v) := fun w q v => Chg.of_set w A q v rfl
  refine ⟨?_, ((c _ _ _).trans (c _ _ _)).trans (c _ _ _)⟩
  have := ((h.put (k * 7 + 4) (by omega) (.bool g)).put (k * 7 + 5) (by omega) (.slice a1 n1 c1)).put (k * 7 + 6) (by omega) (.slice a2 n2 c2)
  have e : (((celO (os ++ [o])).set (k * 7 + 4) (.bool g)).set (k * 7 + 5) (.slice a1 n1 c1)).set (k * 7 + 6) (.slice a2 n2 c2) = celO (os ++ [⟨o.k, o.a, o.b, o.n, ⟨g, a1, n1, c1, x, a2, n2, c2, y⟩⟩]) := by
    rw [celO_app, celO_app, List.set_append_right _ _ (by omega), List.set_append_right _ _ (by omega), List.set_append_right _ _ (by omega), hl, hk]
    rw [show k * 7 + 4 - k * 7 = 4 by omega, show k * 7 + 5 - k * 7 = 5 by omega, show k * 7 + 6 - k * 7 = 6 by omega]
    simp [celO, cellsO]
  rw [e] at this
  exact this
end Go.Proofs.YtiadccaaoenccaaDoor
