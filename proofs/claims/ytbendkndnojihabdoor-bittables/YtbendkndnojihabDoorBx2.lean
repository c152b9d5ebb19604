/-
  bitset.or, and, andNot, xor: contracts.
-/
import Derived.Test.YtbendkndnojihabDoorBti
import Derived.Test.YtbendkndnojihabDoorBtc
import Derived.Test.YtbendkndnojihabDoorBtv
namespace Go.Proofs.YtbendkndnojihabDoor
open Go.RowKit Go.Deep
set_option linter.unusedVariables false

/-- What two words are joined to. -/
def jOr (x y : Nat) : Nat := x ||| y
def jAnd (x y : Nat) : Nat := x &&& y
def jAndNot (x y : Nat) : Nat := anot x y
def jXor (x y : Nat) : Nat := x ^^^ y
theorem jOr_lt {x y : Nat} (hx : x < 18446744073709551616) (hy : y < 18446744073709551616) : jOr x y < 18446744073709551616 := or_lt64 hx hy
theorem jAnd_lt {x y : Nat} (hx : x < 18446744073709551616) (hy : y < 18446744073709551616) : jAnd x y < 18446744073709551616 := and_lt64 hx
theorem jAndNot_lt {x y : Nat} (hx : x < 18446744073709551616) (hy : y < 18446744073709551616) : jAndNot x y < 18446744073709551616 := anot_lt hx
theorem jXor_lt {x y : Nat} (hx : x < 18446744073709551616) (hy : y < 18446744073709551616) : jXor x y < 18446744073709551616 := xor_lt64 hx hy

set_option maxHeartbeats 400000 in
theorem or_fn (x y : Nat) (w : World) (hx : x < 18446744073709551616) (hy : y < 18446744073709551616) :
    Calls Tryd.prog 46 #[.int .u64 (x : Nat), .int .u64 (y : Nat)] w fun e w' => e = .returned (.int .u64 (jOr x y : Nat)) ∧ w' = w := by
  have H := hide (u64_or_nat x y hx hy)
  go_enter Tryd.func46, Tryd.ntmps46
  go_wp2
  go_ret
  refine ⟨?_, rfl⟩
  show Ending.returned (Value.int IntKind.u64 (bits .or .u64 (x : Int) (y : Int))) = _
  rw [unhide H]; rfl

set_option maxHeartbeats 400000 in
theorem andNot_fn (x y : Nat) (w : World) (hx : x < 18446744073709551616) (hy : y < 18446744073709551616) :
    Calls Tryd.prog 48 #[.int .u64 (x : Nat), .int .u64 (y : Nat)] w fun e w' => e = .returned (.int .u64 (jAndNot x y : Nat)) ∧ w' = w := by
  have H := hide (u64_andNot_nat x y hx hy)
  go_enter Tryd.func48, Tryd.ntmps48
  go_wp2
  go_ret
  refine ⟨?_, rfl⟩
  show Ending.returned (Value.int IntKind.u64 (bits .andNot .u64 (x : Int) (y : Int))) = _
  rw [unhide H]; rfl

/-- Joined up to k. -/
def jnF (F : Nat → Nat → Nat) (f : Nat → Nat) (xs : List Nat) (k i : Nat) : Nat := if i < k then F (f i) (xs.getD i 0) else f i
theorem jnF_zero (F : Nat → Nat → Nat) (f : Nat → Nat) (xs : List Nat) : jnF F f xs 0 = f := by funext i; simp [jnF]
theorem jnF_step {F : Nat → Nat → Nat} {f : Nat → Nat} {xs : List Nat} {w : World} {b N k : Nat} (h : FnW w b 0 N (jnF F f xs k)) (hk : k < N) :
    FnW (w.setCell ⟨b, k, none⟩ (.int .u64 ((F (f k) (xs.getD k 0) : Nat) : Int))) b 0 N (jnF F f xs (k + 1)) := by
  have := h.set k (F (f k) (xs.getD k 0)) hk
  rw [Nat.zero_add] at this
  refine this.congr (fun i hi => ?_)
  unfold jnF
  by_cases e : i = k
  · subst e; simp
  · by_cases e2 : i < k
    · simp [e, e2, show i < k + 1 from by omega]
    · simp [e, e2, show ¬ i < k + 1 from by omega]
/-- In the loop. -/
structure JnLp (w wr : World) (b N : Nat) (g : Nat → Nat) : Prop where
  row : FnW wr b 0 N g
  chg : Chg (fun j => j = b) w wr
end Go.Proofs.YtbendkndnojihabDoor

namespace Go.Proofs.YtbendkndnojihabDoor
open Go.RowKit Go.Deep
set_option linter.unusedVariables false

set_option maxHeartbeats 4000000 in
/-- bitset.unite: the words lie apart. -/
theorem unite_any (b N cb : Nat) (f : Nat → Nat) (a : Option Addr) (c : Nat) (xs : List Nat) (w : World) (hf : FnW w b 0 N f) (hlt : ∀ i, i < N → f i < 18446744073709551616)
    (h : SlW w a N c xs) (hok : OkW xs) (hN : N ≤ 64) (hne : 0 < N → ∀ x, a = some x → x.block ≠ b) (hcb : cb ≤ maxLen) (hNc : N ≤ cb) :
    Calls Tryd.prog 41 #[.slice (some ⟨b, 0, none⟩) N cb, .slice a N c] w fun r w' => r = .returned (.tuple #[]) ∧ FnW w' b 0 N (jnF jOr f xs N) ∧ Chg (fun j => j = b) w w' := by
  have hle := h.le
  have hcap := h.cap
  unfold maxLen at hcap hcb
  have HA := hide h
  have HF := hide (show JnLp w w b N (jnF jOr f xs 0) from ⟨by rw [jnF_zero]; exact hf, Chg.refl _ _⟩)
  have HLt := hide hlt
  have HOk := hide hok
  have HNe := hide hne
  have HLn := hide h.len
  clear hf hlt h hok hne
  go_enter Tryd.func41, Tryd.ntmps41
  go_wp2_with fail
  go_loopw [12, 4, 5] (fun i _ _ wr => ∃ k : Nat, k ≤ N ∧ i = .int .i64 k ∧ JnLp w wr b N (jnF jOr f xs k)) (fun i _ _ _ => N - (intOf i).toNat)
  case atStart => exact ⟨0, Nat.zero_le _, rfl, unhide HF⟩
  case round =>
    obtain ⟨k, hk, rfl, hst⟩ := hrel
    by_cases hlt : k < N
    · have hlt' : (k : Int) < (N : Int) := by omega
      have hS2 := (unhide HA).chg hst.chg (fun x hx _ => unhide HNe (by omega) x hx)
      obtain ⟨b2, o2, rfl, hc2⟩ := hS2.at (by omega)
      have g1 := hc2 k hlt
      have g2 := (hst.row k (by omega)).1
      have g3 := (hst.row k (by omega)).2
      rw [Nat.zero_add] at g2 g3
      have HS := hide (show JnLp w (wr.setCell ⟨b, k, none⟩ (.int .u64 ((jOr (f k) (xs.getD k 0) : Nat) : Int))) b N (jnF jOr f xs (k + 1)) from ⟨jnF_step hst.row (by omega), hst.chg.trans (Chg.of_set (S := fun j => j = b) _ _ _ _ rfl)⟩)
      have hfk : jnF jOr f xs k k = f k := by simp [jnF]
      rw [hfk] at g2
      have hx := unhide HLt k (by omega)
      have hy : xs.getD k 0 < 18446744073709551616 := by
        have hkl : k < xs.length := by rw [unhide HLn]; exact hlt
        have : xs.getD k 0 = xs[k] := by simp [List.getD, hkl]
        rw [this]; exact unhide HOk _ (List.getElem_mem hkl)
      have ho := u64_or_nat (f k) (xs.getD k 0) hx hy
      unfold vU at g1 g2
      unfold jOr at HS
      generalize f k = x at *
      generalize xs.getD k 0 = y at *
      generalize (x ||| y) = z at *
      clear hc2 hst hS2 hfk hx hy
      go_wp2_with fail
      exact ⟨⟨k + 1, by omega, by go_num, unhide HS⟩, by simp [intOf]; omega⟩
    · have hlt' : ¬ (k : Int) < (N : Int) := by omega
      have hkn : k = N := by omega
      subst hkn
      go_wp2_with fail
      refine bodyPost_end (results_none rfl _ _ _) rfl ?_
      exact ⟨rfl, hst.row, hst.chg⟩
set_option maxHeartbeats 4000000 in
/-- bitset.unite, of the very same words. -/
theorem unite_self (b N cb : Nat) (f : Nat → Nat) (w : World) (hf : FnW w b 0 N f) (hlt : ∀ i, i < N → f i < 18446744073709551616)
    (hN : N ≤ 64) (hcb : cb ≤ maxLen) (hNc : N ≤ cb) :
    Calls Tryd.prog 41 #[.slice (some ⟨b, 0, none⟩) N cb, .slice (some ⟨b, 0, none⟩) N cb] w fun r w' => r = .returned (.tuple #[]) ∧ FnW w' b 0 N f ∧ Chg (fun j => j = b) w w' := by
  unfold maxLen at hcb
  have HF := hide (show JnLp w w b N f from ⟨hf, Chg.refl _ _⟩)
  have HLt := hide hlt
  clear hf hlt
  go_enter Tryd.func41, Tryd.ntmps41
  go_wp2_with fail
  go_loopw [12, 4, 5] (fun i _ _ wr => ∃ k : Nat, k ≤ N ∧ i = .int .i64 k ∧ JnLp w wr b N f) (fun i _ _ _ => N - (intOf i).toNat)
  case atStart => exact ⟨0, Nat.zero_le _, rfl, unhide HF⟩
  case round =>
    obtain ⟨k, hk, rfl, hst⟩ := hrel
    by_cases hlt : k < N
    · have hlt' : (k : Int) < (N : Int) := by omega
      have g2 := (hst.row k (by omega)).1
      have g3 := (hst.row k (by omega)).2
      have HS := hide (show JnLp w (wr.setCell ⟨b, 0 + k, none⟩ (vU (f k))) b N f from ⟨(hst.row.set k (f k) hlt).congr (fun i _ => by split <;> simp_all), hst.chg.trans (Chg.of_set (S := fun j => j = b) _ _ _ _ rfl)⟩)
      have hx := unhide HLt k (by omega)
      have ho := u64_or_nat (f k) (f k) hx hx
      rw [Nat.or_self] at ho
      rw [Nat.zero_add] at g2 g3 HS
      unfold vU at g2 HS
      generalize f k = x at *
      clear hst hx
      go_wp2_with fail
      exact ⟨⟨k + 1, by omega, by go_num, unhide HS⟩, by simp [intOf]; omega⟩
    · have hlt' : ¬ (k : Int) < (N : Int) := by omega
      have hkn : k = N := by omega
      subst hkn
      go_wp2_with fail
      refine bodyPost_end (results_none rfl _ _ _) rfl ?_
      exact ⟨rfl, hst.row, hst.chg⟩
end Go.Proofs.YtbendkndnojihabDoor

namespace Go.Proofs.YtbendkndnojihabDoor
open Go.RowKit Go.Deep
set_option linter.unusedVariables false

theorem make_sets (n : Nat) (hn : n ≤ 4398046510976) (w : World) : (Instr.makeSlice 22 (.int .i64 (n : Int)) (.int .i64 (n : Int))).run Tryd.prog w = .ok (.slice (some ⟨w.heap.size, 0, none⟩) n n) (w.alloc (.cells (madeCells #[.int .i64 0, .slice none 0 0] (n * 2)) 35)) := by
  obtain ⟨i, hi, hz, hs, hb⟩ := info_parts Tryd.info_set
  have hr := run_make (P := Tryd.prog) w 22 35 i _ Tryd.underlying22 hi hz .i64 .i64 n n (by omega) (Int.le_refl _) (by rw [hb]; omega) (by omega)
  simp only [Int.toNat_natCast, hs] at hr
  exact hr
theorem made_two (w : World) (n : Nat) (t : TypeId) (i : Nat) (hi : i < n) : (w.alloc (.cells (madeCells #[.int .i64 0, .slice none 0 0] (n * 2)) t)).cell? ⟨w.heap.size, i * 2, none⟩ = some (.int .i64 0) ∧ (w.alloc (.cells (madeCells #[.int .i64 0, .slice none 0 0] (n * 2)) t)).cell? ⟨w.heap.size, i * 2 + 1, none⟩ = some (.slice none 0 0) := by
  rw [cell_of_block (alloc_block _ _), cell_of_block (alloc_block _ _)]
  constructor
  · simp [madeCells, show i * 2 < n * 2 from by omega]
  · simp [madeCells, show i * 2 + 1 < n * 2 from by omega, show (i * 2 + 1) % 2 = 1 from by omega]

/-- A table in new memory, whose first k sets are made: block T holds the sets, block bs i the words of set i. -/
structure TbM (B : Nat) (W : World) (T n N : Nat) (sz : Int) (F : Nat → Nat → Nat) (k : Nat) (bs cs : Nat → Nat) : Prop where
  tge : B ≤ T
  tlt : T < W.heap.size
  row : ∀ i, i < k → W.cell? ⟨T, i * 2, none⟩ = some (.int .i64 sz) ∧ W.cell? ⟨T, i * 2 + 1, none⟩ = some (.slice (some ⟨bs i, 0, none⟩) N (cs i))
  rest : ∀ i, k ≤ i → i < n → W.cell? ⟨T, i * 2, none⟩ = some (.int .i64 0) ∧ W.cell? ⟨T, i * 2 + 1, none⟩ = some (.slice none 0 0)
  froz : ∀ j, j < n * 2 → W.frozen? ⟨T, j, none⟩ = false
  words : ∀ i, i < k → FnW W (bs i) 0 N (F i)
  ge : ∀ i, i < k → B ≤ bs i ∧ bs i ≠ T ∧ bs i < W.heap.size
  apart : ∀ i j, i < k → j < k → bs i = bs j → i = j
  cap : ∀ i, i < k → N ≤ cs i ∧ cs i ≤ maxLen
theorem TbM.below {B : Nat} {W W' : World} {T n N : Nat} {sz : Int} {F : Nat → Nat → Nat} {k : Nat} {bs cs : Nat → Nat} (h : TbM B W T n N sz F k bs cs) (hb : Below W.heap.size W W') : TbM B W' T n N sz F k bs cs :=
  ⟨h.tge, Nat.lt_of_lt_of_le h.tlt hb.size, fun i hi => ⟨below_cell hb (h.row i hi).1, below_cell hb (h.row i hi).2⟩, fun i h1 h2 => ⟨below_cell hb (h.rest i h1 h2).1, below_cell hb (h.rest i h1 h2).2⟩,
   fun j hj => by rw [hb.frozen (by exact h.tlt)]; exact h.froz j hj, fun i hi => (h.words i hi).below hb, fun i hi => ⟨(h.ge i hi).1, (h.ge i hi).2.1, Nat.lt_of_lt_of_le (h.ge i hi).2.2 hb.size⟩, h.apart, h.cap⟩
/-- Blocks that are not the table's are written. -/
theorem TbM.chg {B : Nat} {S : Nat → Prop} {W W' : World} {T n N : Nat} {sz : Int} {F : Nat → Nat → Nat} {k : Nat} {bs cs : Nat → Nat} (h : TbM B W T n N sz F k bs cs) (hc : Chg S W W') (hT : ¬ S T) (hS : ∀ i, i < k → ¬ S (bs i)) : TbM B W' T n N sz F k bs cs :=
  ⟨h.tge, Nat.lt_of_lt_of_le h.tlt hc.size, fun i hi => ⟨hc.cell hT (h.row i hi).1, hc.cell hT (h.row i hi).2⟩, fun i h1 h2 => ⟨hc.cell hT (h.rest i h1 h2).1, hc.cell hT (h.rest i h1 h2).2⟩,
   fun j hj => by rw [hc.froz h.tlt hT]; exact h.froz j hj,
   fun i hi j hj => ⟨hc.cell (hS i hi) ((h.words i hi) j hj).1, by rw [hc.froz (h.ge i hi).2.2 (hS i hi)]; exact ((h.words i hi) j hj).2⟩,
   fun i hi => ⟨(h.ge i hi).1, (h.ge i hi).2.1, Nat.lt_of_lt_of_le (h.ge i hi).2.2 hc.size⟩, h.apart, h.cap⟩
/-- The words of one set are written. -/
theorem TbM.upd {B : Nat} {W W' : World} {T n N : Nat} {sz : Int} {F : Nat → Nat → Nat} {k : Nat} {bs cs : Nat → Nat} (h : TbM B W T n N sz F k bs cs) {e : Nat} (he : e < k) {g : Nat → Nat} (hc : Chg (fun j => j = bs e) W W') (hg : FnW W' (bs e) 0 N g) : TbM B W' T n N sz (fun i => if i = e then g else F i) k bs cs := by
  have hT : ¬ T = bs e := fun x => (h.ge e he).2.1 x.symm
  refine ⟨h.tge, Nat.lt_of_lt_of_le h.tlt hc.size, fun i hi => ⟨hc.cell hT (h.row i hi).1, hc.cell hT (h.row i hi).2⟩, fun i h1 h2 => ⟨hc.cell hT (h.rest i h1 h2).1, hc.cell hT (h.rest i h1 h2).2⟩,
   fun j hj => by rw [hc.froz h.tlt hT]; exact h.froz j hj, ?_,
   fun i hi => ⟨(h.ge i hi).1, (h.ge i hi).2.1, Nat.lt_of_lt_of_le (h.ge i hi).2.2 hc.size⟩, h.apart, h.cap⟩
  intro i hi
  by_cases c : i = e
  · subst c
    simpa using hg
  · have hne : ¬ bs i = bs e := fun x => c (h.apart i e hi he x)
    simp only [if_neg c]
    exact fun j hj => ⟨hc.cell hne ((h.words i hi) j hj).1, by rw [hc.froz (h.ge i hi).2.2 hne]; exact ((h.words i hi) j hj).2⟩
theorem TbM.congr {B : Nat} {W : World} {T n N : Nat} {sz : Int} {F F' : Nat → Nat → Nat} {k : Nat} {bs cs : Nat → Nat} (h : TbM B W T n N sz F k bs cs) (e : ∀ i j, i < k → j < N → F i j = F' i j) : TbM B W T n N sz F' k bs cs :=
  ⟨h.tge, h.tlt, h.row, h.rest, h.froz, fun i hi => (h.words i hi).congr (fun j hj => e i j hi hj), h.ge, h.apart, h.cap⟩
theorem TbM.made (w : World) (n N : Nat) (sz : Int) (F : Nat → Nat → Nat) {B : Nat} (hB : B ≤ w.heap.size) : TbM B (w.alloc (.cells (madeCells #[.int .i64 0, .slice none 0 0] (n * 2)) 35)) w.heap.size n N sz F 0 (fun _ => 0) (fun _ => 0) :=
  ⟨hB, by simp, fun i hi => by omega, fun i _ hi => made_two w n _ i hi, fun j _ => frozen_of_block (alloc_block _ _) j, fun i hi => by omega, fun i hi => by omega, fun i j hi => by omega, fun i hi => by omega⟩
/-- One more set. -/
theorem TbM.step {B : Nat} {W W1 : World} {T n N : Nat} {sz : Int} {F : Nat → Nat → Nat} {k : Nat} {bs cs : Nat → Nat} (h : TbM B W T n N sz F k bs cs) (hB : B ≤ W.heap.size) (hk : k < n) {b c : Nat} (hb : Below W.heap.size W W1) (hb1 : W.heap.size ≤ b) (hb2 : b < W1.heap.size) (hf : FnW W1 b 0 N (F k)) (hc1 : N ≤ c) (hc2 : c ≤ maxLen) :
    TbM B ((W1.setCell ⟨T, k * 2, none⟩ (.int .i64 sz)).setCell ⟨T, k * 2 + 1, none⟩ (.slice (some ⟨b, 0, none⟩) N c)) T n N sz F (k + 1) (fun i => if i = k then b else bs i) (fun i => if i = k then c else cs i) := by
  have h1 := h.below hb
  have hlt := h.tlt
  have hbT : T ≠ b := by omega
  have other : ∀ (j : Nat) (v : Value), j ≠ k * 2 → j ≠ k * 2 + 1 → W1.cell? ⟨T, j, none⟩ = some v → ((W1.setCell ⟨T, k * 2, none⟩ (.int .i64 sz)).setCell ⟨T, k * 2 + 1, none⟩ (.slice (some ⟨b, 0, none⟩) N c)).cell? ⟨T, j, none⟩ = some v := by
    intro j v n1 n2 hv
    rw [World.cell?_setCell_other _ _ _ _ (by intro h; injection h with _ h2; exact n2 h2.symm), World.cell?_setCell_other _ _ _ _ (by intro h; injection h with _ h2; exact n1 h2.symm)]
    exact hv
  have s0 := World.cell?_setCell_same _ _ (.int .i64 sz) (h1.rest k (Nat.le_refl _) hk).1
  have s1 : (W1.setCell ⟨T, k * 2, none⟩ (.int .i64 sz)).cell? ⟨T, k * 2 + 1, none⟩ = some (.slice none 0 0) := by
    rw [World.cell?_setCell_other _ _ _ _ (by simp)]
    exact (h1.rest k (Nat.le_refl _) hk).2
  refine ⟨h.tge, by simpa using h1.tlt, ?_, ?_, ?_, ?_, ?_, ?_, ?_⟩
  · intro i hi
    by_cases e : i = k
    · subst e
      simp only [if_true]
      refine ⟨?_, World.cell?_setCell_same _ _ _ s1⟩
      rw [World.cell?_setCell_other _ _ _ _ (by simp)]
      exact s0
    · simp only [if_neg e]
      exact ⟨other _ _ (by omega) (by omega) (h1.row i (by omega)).1, other _ _ (by omega) (by omega) (h1.row i (by omega)).2⟩
  · intro i hi hin
    exact ⟨other _ _ (by omega) (by omega) (h1.rest i (by omega) hin).1, other _ _ (by omega) (by omega) (h1.rest i (by omega) hin).2⟩
  · intro j hj
    rw [World.frozen?_setCell, World.frozen?_setCell]
    exact h1.froz j hj
  · intro i hi
    by_cases e : i = k
    · subst e
      simp only [if_true]
      exact FnG.other (FnG.other hf _ _ _ hbT) _ _ _ hbT
    · simp only [if_neg e]
      have := (h.ge i (by omega)).2.1
      exact FnG.other (FnG.other (h1.words i (by omega)) _ _ _ (Ne.symm this)) _ _ _ (Ne.symm this)
  · intro i hi
    by_cases e : i = k
    · subst e
      simp only [if_true]
      exact ⟨by omega, Ne.symm hbT, by simpa using hb2⟩
    · simp only [if_neg e]
      have := h1.ge i (by omega)
      exact ⟨this.1, this.2.1, by simpa using this.2.2⟩
  · intro i j hi hj
    by_cases e : i = k
    · by_cases e2 : j = k
      · intro _; omega
      · simp only [if_pos e, if_neg e2]
        have := (h.ge j (by omega)).2.2
        intro x; omega
    · by_cases e2 : j = k
      · simp only [if_neg e, if_pos e2]
        have := (h.ge i (by omega)).2.2
        intro x; omega
      · simp only [if_neg e, if_neg e2]
        exact h.apart i j (by omega) (by omega)
  · intro i hi
    by_cases e : i = k
    · subst e
      simp only [if_true]
      exact ⟨hc1, hc2⟩
    · simp only [if_neg e]
      exact h.cap i (by omega)
end Go.Proofs.YtbendkndnojihabDoor
