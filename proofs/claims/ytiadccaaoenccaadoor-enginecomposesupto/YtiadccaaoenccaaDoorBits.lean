/- Giv2 -/
import Derived.Test.YtiadccaaoenccaaDoorGiv
import Derived.Deep.AppendLies
import Derived.Deep.RegionLaw
import Derived.Deep.DeepMust
import Derived.Test.YtiadccaaoenccaaDoorBase
namespace Go.Proofs.YtiadccaaoenccaaDoor
open Go.RowKit Go.Deep
set_option linter.unusedVariables false
structure Chg (S : Nat → Prop) (w w' : World) : Prop where
  os : w'.os = w.os
  tape : w'.tape = w.tape
  output : w'.output = w.output
  size : w.heap.size ≤ w'.heap.size
  block : ∀ k, k < w.heap.size → ¬ S k → w'.heap[k]? = w.heap[k]?

theorem Chg.refl (S : Nat → Prop) (w : World) : Chg S w w := ⟨rfl, rfl, rfl, Nat.le_refl _, fun _ _ _ => rfl⟩
theorem Chg.trans {S : Nat → Prop} {a b c : World} (h : Chg S a b) (k : Chg S b c) : Chg S a c :=
  ⟨k.os.trans h.os, k.tape.trans h.tape, k.output.trans h.output, Nat.le_trans h.size k.size, fun i hi hs => (k.block i (Nat.lt_of_lt_of_le hi h.size) hs).trans (h.block i hi hs)⟩
theorem Chg.mono {S T : Nat → Prop} {w w' : World} (h : Chg S w w') (hs : ∀ k, k < w.heap.size → S k → T k) : Chg T w w' :=
  ⟨h.os, h.tape, h.output, h.size, fun k hk hn => h.block k hk (fun hh => hn (hs k hk hh))⟩
theorem Chg.of_below {S : Nat → Prop} {w w' : World} (h : Below w.heap.size w w') : Chg S w w' :=
  ⟨h.os, h.tape, h.output, h.size, fun k hk _ => h.block k hk⟩
theorem Chg.of_alloc {S : Nat → Prop} (w : World) (o : Obj) : Chg S w (w.alloc o) := .of_below ((Below.refl _ _).alloc (Nat.le_refl _) o)
theorem Chg.of_set {S : Nat → Prop} (w : World) (b i : Nat) (v : Value) (hb : S b) : Chg S w (w.setCell ⟨b, i, none⟩ v) :=
  ⟨rfl, rfl, rfl, by simp, fun k hk hs => set_block_other (fun e => by subst e; exact hs hb) v⟩
theorem Chg.of_grown {S : Nat → Prop} {w w' : World} {row : Option Nat} (h : w.grownBy w' row) (hr : ∀ k, row = some k → S k) : Chg S w w' :=
  ⟨h.os, h.tape, h.output, h.size, fun k hk hs => h.block k hk (fun e => hs (hr k e.symm))⟩
theorem Chg.of_drewN {S : Nat → Prop} (w : World) (k : Nat) : Chg S w (w.drewN k) := ⟨rfl, rfl, rfl, Nat.le_refl _, fun _ _ _ => rfl⟩
theorem Chg.of_drew {S : Nat → Prop} (w : World) : Chg S w w.drew := ⟨rfl, rfl, rfl, Nat.le_refl _, fun _ _ _ => rfl⟩
theorem Chg.below {S : Nat → Prop} {w w' : World} {B : Nat} (h : Chg S w w') (hB : B ≤ w.heap.size) (hs : ∀ k, k < B → ¬ S k) : Below B w w' :=
  ⟨h.os, h.tape, h.output, h.size, fun k hk => h.block k (by omega) (hs k hk)⟩

theorem Chg.cell {S : Nat → Prop} {w w' : World} (h : Chg S w w') {b i : Nat} {v : Value} (hs : ¬ S b) (hc : w.cell? ⟨b, i, none⟩ = some v) : w'.cell? ⟨b, i, none⟩ = some v := by
  have hlt := World.block_lt_of_cell? _ _ hc
  rw [World.cell?_of_block (w := w) (h.block b hlt hs)]; exact hc

theorem Cells.chg {S : Nat → Prop} {w w' : World} {b off : Nat} {xs : List Nat} (h : Cells w b off xs) (k : Chg S w w') (hs : ¬ S b) : Cells w' b off xs :=
  fun i hi => k.cell hs (h i hi)

theorem Sl.chg {S : Nat → Prop} {w w' : World} {a : Option Addr} {n c : Nat} {xs : List Nat} (h : Sl w a n c xs) (k : Chg S w w') (hs : ∀ x, a = some x → xs ≠ [] → ¬ S x.block) : Sl w' a n c xs :=
  ⟨h.len, h.le, h.cap, h.cells.elim .inl (fun ⟨b, off, e, kk⟩ => by
    by_cases hx : xs = []
    · exact .inl hx
    · exact .inr ⟨b, off, e, kk.chg k (hs _ e hx)⟩)⟩

theorem Sl.block_lt {w : World} {a : Option Addr} {n c : Nat} {xs : List Nat} (h : Sl w a n c xs) (hx : xs ≠ []) : ∀ x, a = some x → x.block < w.heap.size := by
  intro x hx'
  rcases h.cells with e | ⟨b, off, e, kk⟩
  · exact absurd e hx
  · rw [e] at hx'
    cases hx'
    have := kk 0 (by cases xs with | nil => exact absurd rfl hx | cons => simp)
    exact World.block_lt_of_cell? _ _ this

theorem ownsRow_chg {S : Nat → Prop} {w w' : World} {base : Nat} {e : TypeId} {size : Nat} {v : Value} {n : Nat} {xs : List Value} (h : w.ownsRow base e size v n xs) (k : Chg S w w') (hs : ∀ k, v.ownBlock = some k → ¬ S k) : w'.ownsRow base e size v n xs := by
  refine ⟨h.1, h.2.imp id ?_⟩
  rintro ⟨g, cap, cur, rfl, hb, hg, h1, h2, h3, h4⟩
  refine ⟨g, cap, cur, rfl, hb, ?_, h1, h2, h3, h4⟩
  have hlt : g < w.heap.size := by
    rcases Nat.lt_or_ge g w.heap.size with hlt | hge
    · exact hlt
    · rw [Array.getElem?_eq_none hge] at hg; cases hg
  rw [k.block g hlt (hs g rfl)]; exact hg

structure Ent where
  b : Nat
  c : Nat
  b0 : Nat
  c0 : Nat
  xs : List Nat

def marks : List Nat := [42405, 23130, 42330]
def Ent.v (e : Ent) : Value := .slice (some ⟨e.b, 0, none⟩) (e.xs.length + 3) e.c
def Ent.v0 (e : Ent) : Value := .slice (some ⟨e.b0, 0, none⟩) (e.xs.length + 3) e.c0

def Own (B : Nat) (v0 v1 : Value) (k : Nat) : Prop := k = B ∨ v0.ownBlock = some k ∨ v1.ownBlock = some k

structure EntOk (w : World) (B : Nat) (v0 v1 : Value) (e : Ent) : Prop where
  sl : Sl w (some ⟨e.b, 0, none⟩) (e.xs.length + 3) e.c (e.xs ++ marks)
  sl0 : Sl w (some ⟨e.b0, 0, none⟩) (e.xs.length + 3) e.c0 (e.xs ++ marks)
  s : ¬ Own B v0 v1 e.b
  s0 : ¬ Own B v0 v1 e.b0

structure Giv (w : World) (B : Nat) (v0 v1 : Value) (es : List Ent) : Prop where
  blk : ∃ cur, w.heap[B]? = some (.cells cur 38) ∧ cur.size = 20 ∧ cur[0]? = some v0 ∧ cur[1]? = some v1 ∧ ∀ i, 2 ≤ i → i < 20 → cur[i]? = some (.slice none 0 0)
  own0 : w.ownsRow (B + 1) 49 1 v0 es.length (es.map Ent.v)
  own1 : w.ownsRow (B + 1) 49 1 v1 es.length (es.map Ent.v0)
  apart : ∀ k, v0.ownBlock = some k → v1.ownBlock ≠ some k
  ents : ∀ e ∈ es, EntOk w B v0 v1 e

theorem Tryd.info_limbs : (Tryd.prog.info? 49).map (fun i => (i.zero, i.size, i.bytes)) = some (some (.slice none 0 0), 1, 24) := by kernel_rfl

theorem own_of_copy {w w1 : World} {n : Nat} {cur : Array Value} {xs : List Nat} (hl : xs.length = n) (hn : n ≤ 35184372088000) (hblk : w1.heap[w.heap.size]? = some (.cells cur 74)) (hsz : cur.size = n + 3)
    (hpre : ∀ i, i < n → cur[i]? = some (.int .u32 (xs.getD i 0 : Nat))) : w1.ownsRow w.heap.size 74 1 (.slice (some ⟨w.heap.size, 0, none⟩) n (n + 3)) n (vals xs) := by
  refine ⟨by simp [vals, hl], .inr ⟨w.heap.size, n + 3, cur, rfl, Nat.le_refl _, hblk, by omega, ?_, by omega, ?_⟩⟩
  · unfold maxLen; omega
  · apply List.ext_getElem?
    intro i
    by_cases hi : i < n
    · have h1 := hpre i hi
      rw [vals_get (by omega)]
      simpa [List.getElem?_take, hi] using h1
    · rw [List.getElem?_eq_none (by simp; omega), List.getElem?_eq_none (by simp [vals]; omega)]

theorem Giv.chg {S : Nat → Prop} {w w' : World} {B : Nat} {v0 v1 : Value} {es : List Ent} (h : Giv w B v0 v1 es) (k : Chg S w w') (hB : ¬ S B) (h0 : ∀ k, v0.ownBlock = some k → ¬ S k) (h1 : ∀ k, v1.ownBlock = some k → ¬ S k)
    (hes : ∀ e ∈ es, ¬ S e.b ∧ ¬ S e.b0) : Giv w' B v0 v1 es := by
  obtain ⟨cur, hc, hr⟩ := h.blk
  have hlt : B < w.heap.size := by
    rcases Nat.lt_or_ge B w.heap.size with hlt | hge
    · exact hlt
    · rw [Array.getElem?_eq_none hge] at hc; cases hc
  refine ⟨⟨cur, by rw [k.block B hlt hB]; exact hc, hr⟩, ownsRow_chg h.own0 k h0, ownsRow_chg h.own1 k h1, h.apart, fun e he => ?_⟩
  have := h.ents e he
  exact ⟨this.sl.chg k (fun x hx _ => by cases hx; exact (hes e he).1), this.sl0.chg k (fun x hx _ => by cases hx; exact (hes e he).2), this.s, this.s0⟩

theorem Giv.below {w w' : World} {B : Nat} {v0 v1 : Value} {es : List Ent} (h : Giv w B v0 v1 es) (k : Below w.heap.size w w') : Giv w' B v0 v1 es :=
  h.chg (S := fun _ => False) (.of_below k) id (fun _ _ => id) (fun _ _ => id) (fun _ _ => ⟨id, id⟩)

theorem Giv.cell0 {w : World} {B : Nat} {v0 v1 : Value} {es : List Ent} (h : Giv w B v0 v1 es) : w.cell? ⟨B, 0, none⟩ = some v0 ∧ w.cell? ⟨B, 1, none⟩ = some v1 ∧ w.frozen? ⟨B, 0, none⟩ = false ∧ w.frozen? ⟨B, 1, none⟩ = false ∧ B < w.heap.size := by
  obtain ⟨cur, hc, hr⟩ := h.blk
  have e0 : w.cell? ⟨B, 0, none⟩ = some v0 := by rw [cell_of_block hc]; exact hr.2.1
  exact ⟨e0, by rw [cell_of_block hc]; exact hr.2.2.1, frozen_of_block hc _, frozen_of_block hc _, World.block_lt_of_cell? _ _ e0⟩

theorem grown_frozen {w w' : World} {row : Option Nat} (hg : w.grownBy w' row) {b i : Nat} (hlt : b < w.heap.size) (hne : some b ≠ row) : w'.cell? ⟨b, i, none⟩ = w.cell? ⟨b, i, none⟩ ∧ w'.frozen? ⟨b, i, none⟩ = w.frozen? ⟨b, i, none⟩ :=
  ⟨hg.cell_far ⟨b, i, none⟩ hlt hne, hg.frozen_far ⟨b, i, none⟩ hlt hne⟩

theorem sl_of_own {w : World} {base g n c : Nat} {xs : List Nat} (h : w.ownsRow base 74 1 (.slice (some ⟨g, 0, none⟩) n c) n (vals xs)) : Sl w (some ⟨g, 0, none⟩) n c xs := by
  obtain ⟨hl, h2⟩ := h
  have hl' : xs.length = n := by simpa [vals] using hl
  rcases h2 with ⟨h2, h3⟩ | ⟨g', cap, cur, h3, h4, h5, h6, h7, h8, h9⟩
  · cases h2
  · injection h3 with e1 e2 e3
    injection e1 with e1
    injection e1 with e1
    subst e1 e3
    refine ⟨hl', h6, h7, .inr ⟨_, _, rfl, cells_of_block h5 ?_⟩⟩
    have := take_vals hl' (by simpa using h9)
    simpa using this

theorem vals_append (xs ys : List Nat) : vals xs ++ vals ys = vals (xs ++ ys) := by simp [vals]

theorem own_ge {w : World} {base : Nat} {e : TypeId} {size : Nat} {v : Value} {n : Nat} {xs : List Value} (h : w.ownsRow base e size v n xs) : ∀ k, v.ownBlock = some k → base ≤ k ∧ k < w.heap.size := by
  intro k hk
  rcases h.2 with ⟨h2, h3⟩ | ⟨g', cap, cur, h3, h4, h5, h6, h7, h8, h9⟩
  · subst h2; cases hk
  · subst h3
    simp [Value.ownBlock] at hk
    subst hk
    refine ⟨h4, ?_⟩
    rcases Nat.lt_or_ge g' w.heap.size with hlt | hge
    · exact hlt
    · rw [Array.getElem?_eq_none hge] at h5; cases h5

theorem after_copy {W w5 : World} {B n : Nat} {v1 : Value} {xs : List Value} (q7 : B < W.heap.size) (q5 : W.cell? ⟨B, 1, none⟩ = some v1) (q6 : W.frozen? ⟨B, 1, none⟩ = false) (ho : W.ownsRow (B + 1) 49 1 v1 n xs)
    (hb : Below W.heap.size W.drew w5) : w5.ownsRow (B + 1) 49 1 v1 n xs ∧ w5.cell? ⟨B, 1, none⟩ = some v1 ∧ w5.frozen? ⟨B, 1, none⟩ = false ∧ B < w5.heap.size := by
  have hb' : Below W.heap.size W w5 := (Below.drew (Below.refl _ _)).trans hb
  exact ⟨ownsRow_chg ho (.of_below (S := fun _ => False) hb') (fun _ _ => id), (hb'.cell q7).trans q5, (hb'.frozen q7).trans q6, Nat.lt_of_lt_of_le q7 hb'.size⟩

theorem after_append {w5 w6 : World} {B n : Nat} {v1 : Value} {xs : List Value} {o : Obj} (q7 : B < w5.heap.size) (q5 : w5.cell? ⟨B, 1, none⟩ = some v1) (q6 : w5.frozen? ⟨B, 1, none⟩ = false) (ho : w5.ownsRow (B + 1) 49 1 v1 n xs)
    (hg : (w5.alloc o).grownBy w6 v1.ownBlock) : w6.cell? ⟨B, 1, none⟩ = some v1 ∧ w6.frozen? ⟨B, 1, none⟩ = false := by
  have n0 : some B ≠ v1.ownBlock := fun e => by have := (own_ge ho B e.symm).1; omega
  have r1 := grown_frozen hg (b := B) (i := 1) (by simp; omega) n0
  exact ⟨by rw [r1.1, World.cell?_alloc_lt _ _ _ (by exact q7)]; exact q5, by rw [r1.2, World.frozen?_alloc_old _ _ _ (by simp; omega)]; exact q6⟩

theorem one_slice {a : Option Addr} {n c : Nat} : ∀ u ∈ [Value.slice a n c], u.oneCell' = true := by
  intro u hu; simp at hu; subst hu; rfl
theorem block_lt {w : World} {b : Nat} {o : Obj} (h : w.heap[b]? = some o) : b < w.heap.size := by
  rcases Nat.lt_or_ge b w.heap.size with hlt | hge
  · exact hlt
  · rw [Array.getElem?_eq_none hge] at h; cases h
theorem quiet_at {P : Program} {f : FuncId} {args : Array Value} {w : World} {d x : Nat} {v : Value} (h : Calls P f args (w.drewN (d + x)) fun e w' => e = .returned v ∧ ∃ k, w' = (w.drewN (d + x)).drewN k) :
    Calls P f args (w.drewN (d + x)) fun e w'' => e = .returned v ∧ ∃ n, w'' = w.drewN (d + n) :=
  h.mono fun _ _ ⟨he, m, hm⟩ => ⟨he, x + m, by rw [hm, drewN_add, Nat.add_assoc]⟩
def adl (x y c : Nat) : Nat := (x + y + c) % 4294967296
def adc (x y c : Nat) : Nat := (x + y + c) / 4294967296
theorem adl_lt (x y c : Nat) : adl x y c < 4294967296 := by unfold adl; omega
theorem adc_le (x y c : Nat) (hx : x < 4294967296) (hy : y < 4294967296) (hc : c ≤ 1) : adc x y c ≤ 1 := by unfold adc; omega
theorem ad_eq (x y c : Nat) : adl x y c + 4294967296 * adc x y c = x + y + c := by unfold adl adc; omega
theorem adl_int (x y c : Nat) : ((x : Int) + y + c) % 4294967296 = ((adl x y c : Nat) : Int) := by unfold adl; omega
theorem adc_int (x y c : Nat) : ((x : Int) + y + c) / 4294967296 = ((adc x y c : Nat) : Int) := by unfold adc; omega

set_option maxHeartbeats 400000 in
theorem add32_any (x y c : Nat) (w : World) (hx : x < 4294967296) (hy : y < 4294967296) (hc : c ≤ 1) :
    Calls Tryd.prog 97 #[.int .u32 (x : Nat), .int .u32 (y : Nat), .int .u32 (c : Nat)] w fun e w' => e = .returned (.tuple #[.int .u32 (adl x y c : Nat), .int .u32 (adc x y c : Nat)]) ∧ w' = w := by
  have H1 := hide (adl_int x y c)
  have H2 := hide (adc_int x y c)
  go_enter Tryd.func97, Tryd.ntmps97
  go_wp2
  go_ret2
  refine ⟨?_, rfl⟩
  show Ending.returned (Value.tuple #[Value.int IntKind.u32 (((x : Int) + y + c) % 4294967296), Value.int IntKind.u32 (((x : Int) + y + c) / 4294967296)]) = _
  rw [unhide H1, unhide H2]

theorem top_bit {n : Nat} (h : n < 4294967296) : n.testBit 31 = decide (2147483648 ≤ n) := by
  rw [Nat.testBit_eq_decide_div_mod_eq]
  have e : (2:Nat) ^ 31 = 2147483648 := by decide
  rw [e]
  rw [decide_eq_decide]
  omega

theorem div_top {n : Nat} (h : n < 4294967296) : n / 2147483648 = if n.testBit 31 = true then 1 else 0 := by
  rw [top_bit h]
  by_cases hh : 2147483648 ≤ n
  · simp [hh]; omega
  · simp [hh]; omega

theorem borrow_nat (x y c d : Nat) (hx : x < 4294967296) (hy : y < 4294967296) (hc : c ≤ 1) (hd : d = (8589934592 + x - y - c) % 4294967296) :
    (((4294967295 ^^^ x) &&& y) ||| ((4294967295 ^^^ (x ^^^ y)) &&& d)) / 2147483648 = if x < y + c then 1 else 0 := by
  have hd' : d < 4294967296 := by omega
  have b1 : ((4294967295 ^^^ x) &&& y) < 2 ^ 32 := Nat.and_lt_two_pow _ (by omega)
  have b2 : ((4294967295 ^^^ (x ^^^ y)) &&& d) < 2 ^ 32 := Nat.and_lt_two_pow _ (by omega)
  have b3 := Nat.or_lt_two_pow b1 b2
  rw [div_top (by omega)]
  have m : (4294967295 : Nat).testBit 31 = true := by decide
  simp only [Nat.testBit_or, Nat.testBit_and, Nat.testBit_xor, m, top_bit hx, top_bit hy, top_bit hd']
  by_cases h1 : 2147483648 ≤ x <;> by_cases h2 : 2147483648 ≤ y <;> by_cases h3 : 2147483648 ≤ d <;> by_cases h4 : x < y + c <;> simp [h1, h2, h3, h4] <;> omega

def bor (x y : Nat) : Nat := if x < y then 1 else 0
def lim (x y c : Nat) : Nat := (8589934592 + x - y - c) % 4294967296
theorem bor_le (x y : Nat) : bor x y ≤ 1 := by unfold bor; split <;> omega
theorem lim_lt (x y c : Nat) : lim x y c < 4294967296 := by unfold lim; omega
theorem lim_eq (x y c : Nat) (hx : x < 4294967296) (hy : y < 4294967296) (hc : c ≤ 1) : lim x y c + y + c = x + 4294967296 * bor x (y + c) := by
  unfold lim bor; split <;> omega

theorem u32_max : IntKind.u32.max = ((4294967295 : Nat) : Int) := by decide

theorem borrow_int (x y c : Nat) (hx : x < 4294967296) (hy : y < 4294967296) (hc : c ≤ 1) :
    bits .or .u32 (bits .and .u32 (bits .xor .u32 IntKind.u32.max (x : Int)) (y : Int)) (bits .and .u32 (bits .xor .u32 IntKind.u32.max (bits .xor .u32 (x : Int) (y : Int))) (((x : Int) - y - c) % 4294967296)) / 2147483648 = ((bor x (y + c) : Nat) : Int) := by
  have e : ((x : Int) - y - c) % 4294967296 = (((8589934592 + x - y - c) % 4294967296 : Nat) : Int) := by omega
  have p32 : (4294967296 : Nat) = 2 ^ 32 := by decide
  have x1 : (4294967295 ^^^ x : Nat) < 4294967296 := by rw [p32]; exact Nat.xor_lt_two_pow (by decide) (by omega)
  have x2 : (x ^^^ y : Nat) < 4294967296 := by rw [p32]; exact Nat.xor_lt_two_pow (by omega) (by omega)
  have x3 : (4294967295 ^^^ (x ^^^ y) : Nat) < 4294967296 := by rw [p32]; exact Nat.xor_lt_two_pow (by decide) (by omega)
  have x4 : ((4294967295 ^^^ x) &&& y : Nat) < 4294967296 := by rw [p32]; exact Nat.and_lt_two_pow _ (by omega)
  have x5 : ((4294967295 ^^^ (x ^^^ y)) &&& ((8589934592 + x - y - c) % 4294967296) : Nat) < 4294967296 := by rw [p32]; exact Nat.and_lt_two_pow _ (by omega)
  rw [e, u32_max, u32_xor_nat _ _ (by decide) hx, u32_xor_nat _ _ hx hy, u32_xor_nat _ _ (by decide) x2, u32_and_nat _ _ x1 hy, u32_and_nat _ _ x3 (by omega), u32_or_nat _ _ x4 x5]
  unfold bor
  rw [← borrow_nat x y c _ hx hy hc rfl]
  omega

theorem sub_mod (x y c : Nat) (hx : x < 4294967296) (hy : y < 4294967296) (hc : c ≤ 1) : ((x : Int) - y - c) % 4294967296 = ((lim x y c : Nat) : Int) := by unfold lim; omega

set_option maxHeartbeats 400000 in
theorem sub32_any (x y c : Nat) (w : World) (hx : x < 4294967296) (hy : y < 4294967296) (hc : c ≤ 1) :
    Calls Tryd.prog 89 #[.int .u32 (x : Nat), .int .u32 (y : Nat), .int .u32 (c : Nat)] w fun e w' => e = .returned (.tuple #[.int .u32 (lim x y c : Nat), .int .u32 (bor x (y + c) : Nat)]) ∧ w' = w := by
  have HB := hide (borrow_int x y c hx hy hc)
  have HM := hide (sub_mod x y c hx hy hc)
  go_enter Tryd.func89, Tryd.ntmps89
  go_wp2
  go_ret2
  refine ⟨?_, rfl⟩
  show Ending.returned (Value.tuple #[Value.int IntKind.u32 (((x : Int) - y - c) % 4294967296), Value.int IntKind.u32 (bits .or .u32 (bits .and .u32 (bits .xor .u32 IntKind.u32.max (x : Int)) (y : Int)) (bits .and .u32 (bits .xor .u32 IntKind.u32.max (bits .xor .u32 (x : Int) (y : Int))) (((x : Int) - y - c) % 4294967296)) / 2147483648)]) = _
  rw [unhide HB, unhide HM]
end Go.Proofs.YtiadccaaoenccaaDoor
