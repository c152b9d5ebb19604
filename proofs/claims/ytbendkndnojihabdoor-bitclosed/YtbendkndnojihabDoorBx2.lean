/-
  TABLES IN NEW MEMORY; bitset.blankTable: its contract.
-/
import Derived.Test.YtbendkndnojihabDoorBx1
import Derived.Test.YtbendkndnojihabDoorBtv
namespace Go.Proofs.YtbendkndnojihabDoor
open Go.RowKit Go.Deep
set_option linter.unusedVariables false

theorem make_sets (n : Nat) (hn : n ≤ 4398046510976) (w : World) : (Instr.makeSlice 22 (.int .i64 (n : Int)) (.int .i64 (n : Int))).run Tryd.prog w = .ok (.slice (some ⟨w.heap.size, 0, none⟩) n n) (w.alloc (.cells (madeCells #[.int .i64 0, .slice none 0 0] (n * 2)) 35)) := by
  obtain ⟨i, hi, hz, hs, hb⟩ := info_parts Tryd.info_set
  have hr := run_make (P := Tryd.prog) w 22 35 i _ Tryd.underlying22 hi hz .i64 .i64 n n (by omega) (Int.le_refl _) (by rw [hb]; omega) (by omega)
  simp only [Int.toNat_natCast, hs] at hr
  exact hr
theorem made_two (w : World) (n : Nat) (t : TypeId) (i : Nat) (hi : i < n) : (w.alloc (.cells (madeCells #[.int .i64 0, .slice none 0 0] (n * 2)) t)).cell? ⟨w.heap.size, i * 2, none⟩ = some (.int .i64 0) ∧ (w.alloc (.cells (madeCells #[.int .i64 0, .slice none 0 0] (n * 2)) t)).cell? ⟨w.heap.size, i * 2 + 1, none⟩ = some (.slice none 0 0) := by
  rw [cell_of_block (alloc_block _ _), cell_of_block (alloc_block _ _)]
  constructor
  · simp [madeCells, show i * 2 < n * 2 from by omega]
  · simp [madeCells, show i * 2 + 1 < n * 2 from by omega, show (i * 2 + 1) % 2 = 1 from by omega]

/-- A table in new memory, whose first k sets are made: block T holds the sets, block bs i the words of set i. -/
structure TbM (B : Nat) (W : World) (T n N : Nat) (sz : Int) (F : Nat → Nat → Nat) (k : Nat) (bs cs : Nat → Nat) : Prop where
  tge : B ≤ T
  tlt : T < W.heap.size
  row : ∀ i, i < k → W.cell? ⟨T, i * 2, none⟩ = some (.int .i64 sz) ∧ W.cell? ⟨T, i * 2 + 1, none⟩ = some (.slice (some ⟨bs i, 0, none⟩) N (cs i))
  rest : ∀ i, k ≤ i → i < n → W.cell? ⟨T, i * 2, none⟩ = some (.int .i64 0) ∧ W.cell? ⟨T, i * 2 + 1, none⟩ = some (.slice none 0 0)
  froz : ∀ j, j < n * 2 → W.frozen? ⟨T, j, none⟩ = false
  words : ∀ i, i < k → FnW W (bs i) 0 N (F i)
  ge : ∀ i, i < k → B ≤ bs i ∧ bs i ≠ T ∧ bs i < W.heap.size
  apart : ∀ i j, i < k → j < k → bs i = bs j → i = j
  cap : ∀ i, i < k → N ≤ cs i ∧ cs i ≤ maxLen
theorem TbM.below {B : Nat} {W W' : World} {T n N : Nat} {sz : Int} {F : Nat → Nat → Nat} {k : Nat} {bs cs : Nat → Nat} (h : TbM B W T n N sz F k bs cs) (hb : Below W.heap.size W W') : TbM B W' T n N sz F k bs cs :=
  ⟨h.tge, Nat.lt_of_lt_of_le h.tlt hb.size, fun i hi => ⟨below_cell hb (h.row i hi).1, below_cell hb (h.row i hi).2⟩, fun i h1 h2 => ⟨below_cell hb (h.rest i h1 h2).1, below_cell hb (h.rest i h1 h2).2⟩,
   fun j hj => by rw [hb.frozen (by exact h.tlt)]; exact h.froz j hj, fun i hi => (h.words i hi).below hb, fun i hi => ⟨(h.ge i hi).1, (h.ge i hi).2.1, Nat.lt_of_lt_of_le (h.ge i hi).2.2 hb.size⟩, h.apart, h.cap⟩
/-- Blocks that are not the table's are written. -/
theorem TbM.chg {B : Nat} {S : Nat → Prop} {W W' : World} {T n N : Nat} {sz : Int} {F : Nat → Nat → Nat} {k : Nat} {bs cs : Nat → Nat} (h : TbM B W T n N sz F k bs cs) (hc : Chg S W W') (hT : ¬ S T) (hS : ∀ i, i < k → ¬ S (bs i)) : TbM B W' T n N sz F k bs cs :=
  ⟨h.tge, Nat.lt_of_lt_of_le h.tlt hc.size, fun i hi => ⟨hc.cell hT (h.row i hi).1, hc.cell hT (h.row i hi).2⟩, fun i h1 h2 => ⟨hc.cell hT (h.rest i h1 h2).1, hc.cell hT (h.rest i h1 h2).2⟩,
   fun j hj => by rw [hc.froz h.tlt hT]; exact h.froz j hj,
   fun i hi j hj => ⟨hc.cell (hS i hi) ((h.words i hi) j hj).1, by rw [hc.froz (h.ge i hi).2.2 (hS i hi)]; exact ((h.words i hi) j hj).2⟩,
   fun i hi => ⟨(h.ge i hi).1, (h.ge i hi).2.1, Nat.lt_of_lt_of_le (h.ge i hi).2.2 hc.size⟩, h.apart, h.cap⟩
/-- The words of one set are written. -/
theorem TbM.upd {B : Nat} {W W' : World} {T n N : Nat} {sz : Int} {F : Nat → Nat → Nat} {k : Nat} {bs cs : Nat → Nat} (h : TbM B W T n N sz F k bs cs) {e : Nat} (he : e < k) {g : Nat → Nat} (hc : Chg (fun j => j = bs e) W W') (hg : FnW W' (bs e) 0 N g) : TbM B W' T n N sz (fun i => if i = e then g else F i) k bs cs := by
  have hT : ¬ T = bs e := fun x => (h.ge e he).2.1 x.symm
  refine ⟨h.tge, Nat.lt_of_lt_of_le h.tlt hc.size, fun i hi => ⟨hc.cell hT (h.row i hi).1, hc.cell hT (h.row i hi).2⟩, fun i h1 h2 => ⟨hc.cell hT (h.rest i h1 h2).1, hc.cell hT (h.rest i h1 h2).2⟩,
   fun j hj => by rw [hc.froz h.tlt hT]; exact h.froz j hj, ?_,
   fun i hi => ⟨(h.ge i hi).1, (h.ge i hi).2.1, Nat.lt_of_lt_of_le (h.ge i hi).2.2 hc.size⟩, h.apart, h.cap⟩
  intro i hi
  by_cases c : i = e
  · subst c
    simpa using hg
  · have hne : ¬ bs i = bs e := fun x => c (h.apart i e hi he x)
    simp only [if_neg c]
    exact fun j hj => ⟨hc.cell hne ((h.words i hi) j hj).1, by rw [hc.froz (h.ge i hi).2.2 hne]; exact ((h.words i hi) j hj).2⟩
theorem TbM.congr {B : Nat} {W : World} {T n N : Nat} {sz : Int} {F F' : Nat → Nat → Nat} {k : Nat} {bs cs : Nat → Nat} (h : TbM B W T n N sz F k bs cs) (e : ∀ i j, i < k → j < N → F i j = F' i j) : TbM B W T n N sz F' k bs cs :=
  ⟨h.tge, h.tlt, h.row, h.rest, h.froz, fun i hi => (h.words i hi).congr (fun j hj => e i j hi hj), h.ge, h.apart, h.cap⟩
theorem TbM.made (w : World) (n N : Nat) (sz : Int) (F : Nat → Nat → Nat) {B : Nat} (hB : B ≤ w.heap.size) : TbM B (w.alloc (.cells (madeCells #[.int .i64 0, .slice none 0 0] (n * 2)) 35)) w.heap.size n N sz F 0 (fun _ => 0) (fun _ => 0) :=
  ⟨hB, by simp, fun i hi => by omega, fun i _ hi => made_two w n _ i hi, fun j _ => frozen_of_block (alloc_block _ _) j, fun i hi => by omega, fun i hi => by omega, fun i j hi => by omega, fun i hi => by omega⟩
/-- One more set. -/
theorem TbM.step {B : Nat} {W W1 : World} {T n N : Nat} {sz : Int} {F : Nat → Nat → Nat} {k : Nat} {bs cs : Nat → Nat} (h : TbM B W T n N sz F k bs cs) (hB : B ≤ W.heap.size) (hk : k < n) {b c : Nat} (hb : Below W.heap.size W W1) (hb1 : W.heap.size ≤ b) (hb2 : b < W1.heap.size) (hf : FnW W1 b 0 N (F k)) (hc1 : N ≤ c) (hc2 : c ≤ maxLen) :
    TbM B ((W1.setCell ⟨T, k * 2, none⟩ (.int .i64 sz)).setCell ⟨T, k * 2 + 1, none⟩ (.slice (some ⟨b, 0, none⟩) N c)) T n N sz F (k + 1) (fun i => if i = k then b else bs i) (fun i => if i = k then c else cs i) := by
  have h1 := h.below hb
  have hlt := h.tlt
  have hbT : T ≠ b := by omega
  have other : ∀ (j : Nat) (v : Value), j ≠ k * 2 → j ≠ k * 2 + 1 → W1.cell? ⟨T, j, none⟩ = some v → ((W1.setCell ⟨T, k * 2, none⟩ (.int .i64 sz)).setCell ⟨T, k * 2 + 1, none⟩ (.slice (some ⟨b, 0, none⟩) N c)).cell? ⟨T, j, none⟩ = some v := by
    intro j v n1 n2 hv
    rw [World.cell?_setCell_other _ _ _ _ (by intro h; injection h with _ h2; exact n2 h2.symm), World.cell?_setCell_other _ _ _ _ (by intro h; injection h with _ h2; exact n1 h2.symm)]
    exact hv
  have s0 := World.cell?_setCell_same _ _ (.int .i64 sz) (h1.rest k (Nat.le_refl _) hk).1
  have s1 : (W1.setCell ⟨T, k * 2, none⟩ (.int .i64 sz)).cell? ⟨T, k * 2 + 1, none⟩ = some (.slice none 0 0) := by
    rw [World.cell?_setCell_other _ _ _ _ (by simp)]
    exact (h1.rest k (Nat.le_refl _) hk).2
  refine ⟨h.tge, by simpa using h1.tlt, ?_, ?_, ?_, ?_, ?_, ?_, ?_⟩
  · intro i hi
    by_cases e : i = k
    · subst e
      simp only [if_true]
      refine ⟨?_, World.cell?_setCell_same _ _ _ s1⟩
      rw [World.cell?_setCell_other _ _ _ _ (by simp)]
      exact s0
    · simp only [if_neg e]
      exact ⟨other _ _ (by omega) (by omega) (h1.row i (by omega)).1, other _ _ (by omega) (by omega) (h1.row i (by omega)).2⟩
  · intro i hi hin
    exact ⟨other _ _ (by omega) (by omega) (h1.rest i (by omega) hin).1, other _ _ (by omega) (by omega) (h1.rest i (by omega) hin).2⟩
  · intro j hj
    rw [World.frozen?_setCell, World.frozen?_setCell]
    exact h1.froz j hj
  · intro i hi
    by_cases e : i = k
    · subst e
      simp only [if_true]
      exact FnG.other (FnG.other hf _ _ _ hbT) _ _ _ hbT
    · simp only [if_neg e]
      have := (h.ge i (by omega)).2.1
      exact FnG.other (FnG.other (h1.words i (by omega)) _ _ _ (Ne.symm this)) _ _ _ (Ne.symm this)
  · intro i hi
    by_cases e : i = k
    · subst e
      simp only [if_true]
      exact ⟨by omega, Ne.symm hbT, by simpa using hb2⟩
    · simp only [if_neg e]
      have := h1.ge i (by omega)
      exact ⟨this.1, this.2.1, by simpa using this.2.2⟩
  · intro i j hi hj
    by_cases e : i = k
    · by_cases e2 : j = k
      · intro _; omega
      · simp only [if_pos e, if_neg e2]
        have := (h.ge j (by omega)).2.2
        intro x; omega
    · by_cases e2 : j = k
      · simp only [if_neg e, if_pos e2]
        have := (h.ge i (by omega)).2.2
        intro x; omega
      · simp only [if_neg e, if_neg e2]
        exact h.apart i j (by omega) (by omega)
  · intro i hi
    by_cases e : i = k
    · subst e
      simp only [if_true]
      exact ⟨hc1, hc2⟩
    · simp only [if_neg e]
      exact h.cap i (by omega)
end Go.Proofs.YtbendkndnojihabDoor
