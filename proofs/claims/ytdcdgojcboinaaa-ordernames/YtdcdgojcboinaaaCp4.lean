/-
  ORDERS: slices.Insert of one number: contract.
-/
import Derived.Test.YtdcdgojcboinaaaCp3
namespace Go.Proofs.Ytdcdgojcboinaaa
open Go.Shelf Go.RowKit Go.Deep
set_option linter.unusedVariables false
variable {A : Nat → Prop}

theorem shape_of_cell {W : World} {g i : Nat} (h : (W.cell? ⟨g, i, none⟩).isSome = true) : ∃ e k, W.shape? g = some (e, k) ∧ k ≠ 0 := by
  unfold World.cell? at h
  unfold World.shape?
  cases hh : W.heap[g]? with
  | none => simp [hh] at h
  | some ob =>
    cases ob with
    | cells c e fr =>
      simp [hh] at h
      exact ⟨e, c.size, rfl, by omega⟩
    | _ => simp [hh] at h
theorem BkC.new {W : World} {g cap : Nat} {arr : Array Value} {xs : List Int} {e : TypeId} (hg : W.heap[g]? = some (.cells arr e)) (hl : xs.length ≤ cap) (hm : cap ≤ maxLen) (hs : cap ≤ arr.size) (hv : ∀ j, j < xs.length → arr[j]? = some (.int .i64 (xs.getD j 0))) : BkC W g 0 cap xs :=
  ⟨hl, hm, fun j hj => ⟨by rw [cell_of_block hg, Nat.zero_add, Array.getElem?_eq_getElem (by omega)]; rfl, by simp [World.frozen?, hg]⟩, fun j hj => by rw [cell_of_block hg, Nat.zero_add]; exact hv j hj, (Array.getElem?_eq_some_iff.1 hg).1⟩
/-- x at place i. -/
def putL (xs : List Int) (i : Nat) (x : Int) : List Int := xs.take i ++ x :: xs.drop i
theorem putL_len {xs : List Int} {i : Nat} {x : Int} (h : i ≤ xs.length) : (putL xs i x).length = xs.length + 1 := by
  unfold putL
  simp
  omega
theorem putL_lo {xs : List Int} {i j : Nat} {x : Int} (h : i ≤ xs.length) (hj : j < i) : (putL xs i x).getD j 0 = xs.getD j 0 := by
  unfold putL
  simp only [List.getD]
  rw [List.getElem?_append_left (by simp; omega), List.getElem?_take_of_lt hj]
theorem putL_at {xs : List Int} {i : Nat} {x : Int} (h : i ≤ xs.length) : (putL xs i x).getD i 0 = x := by
  unfold putL
  simp only [List.getD]
  rw [List.getElem?_append_right (by simp; omega)]
  have : i - (xs.take i).length = 0 := by simp; omega
  rw [this]
  rfl
theorem putL_hi {xs : List Int} {i j : Nat} {x : Int} (h : i ≤ xs.length) (hj : i < j) : (putL xs i x).getD j 0 = xs.getD (j - 1) 0 := by
  unfold putL
  simp only [List.getD]
  rw [List.getElem?_append_right (by simp; omega)]
  have : j - (xs.take i).length = (j - 1 - i) + 1 := by simp; omega
  rw [this, List.getElem?_cons_succ, List.getElem?_drop, show i + (j - 1 - i) = j - 1 by omega]
/-- What Insert answers. -/
def InsP (A : Nat → Prop) (t : Nat) (v : Value) (ys : List Int) (w w' : World) (e : Ending) : Prop := ∃ v', e = .returned v' ∧ BkR A w' t v' ys ∧ Chg (fun j => v.ownBlock = some j) w w' ∧ (∀ j, v'.ownBlock = some j → v.ownBlock = some j ∨ w.heap.size ≤ j)
theorem getD_valsI {xs : List Int} {j : Nat} (h : j < xs.length) : (valsI xs)[j]? = some (.int .i64 (xs.getD j 0)) := by
  simp [valsI, List.getD, List.getElem?_eq_getElem h]
theorem one_valsI (xs : List Int) : ∀ u ∈ valsI xs, u.oneCell' = true := by
  intro u hu
  obtain ⟨y, _, rfl⟩ := List.mem_map.1 hu
  rfl
theorem val_of {xs : List Int} {j : Nat} {u : Value} (h : (valsI xs)[j]? = some u) : j < xs.length ∧ u = .int .i64 (xs.getD j 0) := by
  have hl : j < xs.length := by
    have := (List.getElem?_eq_some_iff.1 h).1
    simpa [valsI] using this
  rw [getD_valsI hl] at h
  exact ⟨hl, (Option.some.inj h).symm⟩
set_option maxRecDepth 100000 in
set_option maxHeartbeats 4000000 in
/-- slices.Insert of one number at the end, without room. -/
theorem oins_grow_end (base : Option Addr) (n c : Nat) (xs : List Int) (x : Int) (vb t : Nat) (w : World) (ht : t ≤ w.heap.size ∧ ¬ A w.heap.size) (hn : xs.length = n) (hl : n ≤ 1000) (hnc : n ≤ c) (hroom : c < n + 1) (hnil : base = none → n = 0) (hcs : ∀ a, base = some a → ∀ j u, (valsI xs)[j]? = some u → w.cell? (a.add j) = some u) (hb : w.heap[vb]? = some (.cells #[.int .i64 x] 3)) :
    Calls Try.prog 56 #[.slice base n c, .int .i64 (n : Int), .slice (some ⟨vb, 0, none⟩) 1 1] w fun e w' => InsP A t (.slice base n c) (putL xs n x) w w' e := by
  have K := Any2.slices_Insert_int_end_grow shIns base n c vb 0 1 1 (valsI xs) [.int .i64 x] w (by omega) hnc hroom (by omega) (by simp [valsI, hn]) rfl hnil hcs (fun j u hj => by
    rw [cell_of_block hb, Nat.zero_add]
    simpa using hj) (fun u hu => by simp at hu; subst hu; rfl)
  refine Calls.mono K ?_
  rintro e w' ⟨rfl, rfl⟩
  have hG := grownCap_ge w (n + 1) c (shIns_ren.t 3)
  have hM := grownCap_le_maxLen w (n + 1) c (shIns_ren.t 3) (by unfold maxLen; omega)
  obtain ⟨G, hGe⟩ : ∃ G, grownCap w (n + 1) c (shIns_ren.t 3) = G := ⟨_, rfl⟩
  rw [hGe] at hG hM ⊢
  have hpl : (putL xs n x).length = n + 1 := by rw [putL_len (by omega), hn]
  refine ⟨_, rfl, .inr ⟨w.heap.size, 0, G, by rw [hpl], ht, BkC.new (alloc_block _ _) (by omega) hM (by simp [Builtin.zeroCells, Value.cells, valsI, hn]; omega) (fun j hj => ?_)⟩, Chg.of_below (Below.refl _ _).drew |>.trans (Chg.of_alloc _ _), fun j hj => .inr ?_⟩
  · rw [hpl] at hj
    rw [Array.getElem?_append_left (by simp [valsI]; omega)]
    simp only [List.getElem?_toArray]
    by_cases e : j < n
    · rw [List.getElem?_append_left (by simp [valsI]; omega), getD_valsI (by omega), putL_lo (by omega) e]
    · obtain rfl : j = n := by omega
      rw [List.getElem?_append_right (by simp [valsI]; omega), putL_at (by omega)]
      simp [valsI, hn]
  · have : w.heap.size = j := by simpa [Value.ownBlock] using hj
    omega
set_option maxRecDepth 100000 in
set_option maxHeartbeats 4000000 in
/-- slices.Insert of one number at the end, with room. -/
theorem oins_room_end (g o cap : Nat) (xs : List Int) (x : Int) (vb t : Nat) (w : World) (h : BkC w g o cap xs) (ht : t ≤ g ∧ ¬ A g) (hl : xs.length ≤ 1000) (hroom : xs.length + 1 ≤ cap) (hb : w.heap[vb]? = some (.cells #[.int .i64 x] 3)) :
    Calls Try.prog 56 #[.slice (some ⟨g, o, none⟩) xs.length cap, .int .i64 (xs.length : Int), .slice (some ⟨vb, 0, none⟩) 1 1] w fun e w' => InsP A t (.slice (some ⟨g, o, none⟩) xs.length cap) (putL xs xs.length x) w w' e := by
  have hbig : cap ≤ 9223372036854775807 := by have := h.big; unfold maxLen at this; omega
  have K := Any2.slices_Insert_int_end_room shIns g o xs.length cap vb 0 1 1 [.int .i64 x] w (by omega) hroom hbig rfl (fun j hj => by rw [Nat.add_assoc]; exact (h.has _ (by omega)).1) (fun j hj => by rw [Nat.add_assoc]; exact (h.has _ (by omega)).2) (fun j u hj => by
    rw [cell_of_block hb, Nat.zero_add]
    simpa using hj) (fun u hu => by simp at hu; subst hu; rfl)
  refine Calls.mono K ?_
  rintro e w' ⟨rfl, rfl⟩
  have hC := Chg.of_setCells (S := fun j => (Value.slice (some ⟨g, o, none⟩) xs.length cap).ownBlock = some j) g rfl [Value.int .i64 x] (o + xs.length) w
  have hpl : (putL xs xs.length x).length = xs.length + 1 := putL_len (Nat.le_refl _)
  refine ⟨_, rfl, .inr ⟨g, o, cap, by rw [hpl], ht, by omega, h.big, fun j hj => ⟨?_, ?_⟩, fun j hj => ?_, Nat.lt_of_lt_of_le h.lt hC.size⟩, hC, fun j hj => .inl ?_⟩
  · exact isSome_setCells g _ _ w (fun j hj => by simp at hj; subst hj; exact (h.has _ (by omega)).1) _ (h.has j hj).1
  · rw [World.frozen?_setCells]; exact (h.has j hj).2
  · rw [hpl] at hj
    by_cases e : j < xs.length
    · rw [World.cell?_setCells_out g _ _ w ⟨g, o + j, none⟩ (fun _ _ => by show o + j < _ ∨ _; omega), h.val j e, putL_lo (Nat.le_refl _) e]
    · obtain rfl : j = xs.length := by omega
      have := World.cell?_setCells_in g [Value.int .i64 x] (o + xs.length) w (fun j hj => by simp at hj; subst hj; exact (h.has _ (by omega)).1) 0 (by simp)
      rw [Nat.add_zero] at this
      rw [this, putL_at (Nat.le_refl _)]
      rfl
  · simpa [Value.ownBlock] using hj
set_option maxRecDepth 100000 in
set_option maxHeartbeats 4000000 in
/-- slices.Insert of one number ahead of others, with room. -/
theorem oins_room_mid (g o cap i : Nat) (xs : List Int) (x : Int) (vb t : Nat) (w : World) (h : BkC w g o cap xs) (hi : i < xs.length) (ht : t ≤ g ∧ ¬ A g) (hl : xs.length ≤ 1000) (hroom : xs.length + 1 ≤ cap) (hb : w.heap[vb]? = some (.cells #[.int .i64 x] 3)) (hvb : vb ≠ g) :
    Calls Try.prog 56 #[.slice (some ⟨g, o, none⟩) xs.length cap, .int .i64 (i : Int), .slice (some ⟨vb, 0, none⟩) 1 1] w fun e w' => InsP A t (.slice (some ⟨g, o, none⟩) xs.length cap) (putL xs i x) w w' e := by
  have hbig : cap ≤ 9223372036854775807 := by have := h.big; unfold maxLen at this; omega
  obtain ⟨tB, kB, hsb, hkB⟩ := shape_of_cell (h.has 0 (by omega)).1
  have K := Any2.slices_Insert_int_shift shIns g o xs.length cap i vb 0 1 1 (valsI xs) [.int .i64 x] w hi (by omega) hroom hbig hvb (by simp [valsI]) rfl
    (fun j u hj => by obtain ⟨hl, rfl⟩ := val_of hj; exact h.val j hl) (fun j hj => (h.has j (by omega)).1) (fun j hj => (h.has j (by omega)).2)
    (fun j u hj => by
      rw [cell_of_block hb, Nat.zero_add]
      simpa using hj) (one_valsI xs) (fun u hu => by simp at hu; subst hu; rfl)
    3 tB 1 kB (by simp [World.shape?, hb]) hsb hkB (by simp [World.frozen?, hb]) (by simp [World.frozen?, hb])
  refine Calls.mono K ?_
  rintro e w' ⟨rfl, rfl⟩
  obtain ⟨W1, hW1⟩ : ∃ W1, w.drew.setCells g (o + (i + 1)) ((valsI xs).drop i) = W1 := ⟨_, rfl⟩
  have hC1 : Chg (fun j => (Value.slice (some ⟨g, o, none⟩) xs.length cap).ownBlock = some j) w W1 := by rw [← hW1]; exact (Chg.of_drew w).trans (Chg.of_setCells (S := fun j => (Value.slice (some ⟨g, o, none⟩) xs.length cap).ownBlock = some j) g rfl _ _ _)
  have hC2 := Chg.of_setCells (S := fun j => (Value.slice (some ⟨g, o, none⟩) xs.length cap).ownBlock = some j) g rfl [Value.int .i64 x] (o + i) W1
  have hdl : ((valsI xs).drop i).length = xs.length - i := by simp [valsI]
  have h1s : ∀ j, j < cap → (W1.cell? ⟨g, o + j, none⟩).isSome = true := fun j hj => by
    rw [← hW1]
    exact isSome_setCells g _ _ _ (fun q hq => by rw [hdl] at hq; rw [Nat.add_assoc]; exact (h.has _ (by omega)).1) _ (h.has j hj).1
  have hpl : (putL xs i x).length = xs.length + 1 := putL_len (by omega)
  rw [hW1]
  refine ⟨_, rfl, .inr ⟨g, o, cap, by rw [hpl], ht, by omega, h.big, fun j hj => ⟨?_, ?_⟩, fun j hj => ?_, Nat.lt_of_lt_of_le h.lt (hC1.trans hC2).size⟩, hC1.trans hC2, fun j hj => .inl ?_⟩
  · exact isSome_setCells g _ _ W1 (fun q hq => by simp at hq; subst hq; exact h1s i (by omega)) _ (h1s j hj)
  · rw [World.frozen?_setCells, ← hW1, World.frozen?_setCells]; exact (h.has j hj).2
  · rw [hpl] at hj
    by_cases e : j = i
    · subst e
      have := World.cell?_setCells_in g [Value.int .i64 x] (o + j) W1 (fun q hq => by simp at hq; subst hq; exact h1s j (by omega)) 0 (by simp)
      rw [Nat.add_zero] at this
      rw [this, putL_at (by omega)]
      rfl
    · rw [World.cell?_setCells_out g _ _ W1 ⟨g, o + j, none⟩ (fun _ _ => by show o + j < _ ∨ _ ≤ o + j; simp; omega), ← hW1]
      by_cases e2 : j < i
      · rw [World.cell?_setCells_out g _ _ _ ⟨g, o + j, none⟩ (fun _ _ => by show o + j < _ ∨ _; omega), putL_lo (by omega) e2]
        exact h.val j (by omega)
      · obtain ⟨q, rfl⟩ : ∃ q, j = i + 1 + q := ⟨j - (i + 1), by omega⟩
        have := World.cell?_setCells_in g ((valsI xs).drop i) (o + (i + 1)) w.drew (fun r hr => by rw [hdl] at hr; rw [Nat.add_assoc]; exact (h.has _ (by omega)).1) q (by rw [hdl]; omega)
        rw [show o + (i + 1 + q) = o + (i + 1) + q by omega, this, putL_hi (by omega) (by omega)]
        rw [← List.getElem?_eq_getElem, List.getElem?_drop, getD_valsI (by omega)]
        rw [show i + 1 + q - 1 = i + q by omega]
  · simpa [Value.ownBlock] using hj
set_option maxRecDepth 100000 in
set_option maxHeartbeats 4000000 in
/-- slices.Insert of one number ahead of others, without room. -/
theorem oins_grow_mid (g o cap i : Nat) (xs : List Int) (x : Int) (vb t : Nat) (w : World) (h : BkC w g o cap xs) (hi : i < xs.length) (ht : t ≤ w.heap.size ∧ ¬ A w.heap.size) (hl : xs.length ≤ 1000) (hroom : cap < xs.length + 1) (hb : w.heap[vb]? = some (.cells #[.int .i64 x] 3)) :
    Calls Try.prog 56 #[.slice (some ⟨g, o, none⟩) xs.length cap, .int .i64 (i : Int), .slice (some ⟨vb, 0, none⟩) 1 1] w fun e w' => InsP A t (.slice (some ⟨g, o, none⟩) xs.length cap) (putL xs i x) w w' e := by
  have K := Any2.slices_Insert_int_grow shIns g o xs.length cap i vb 0 1 1 (valsI xs) [.int .i64 x] w hi (by omega) h.len hroom (by omega) (by simp [valsI]) rfl
    (fun j u hj => by obtain ⟨hl, rfl⟩ := val_of hj; exact h.val j hl)
    (fun j u hj => by
      rw [cell_of_block hb, Nat.zero_add]
      simpa using hj) (one_valsI xs) (fun u hu => by simp at hu; subst hu; rfl)
  refine Calls.mono K ?_
  rintro e w' ⟨rfl, rfl⟩
  have hG := grownCap_ge w (xs.length + 1) cap (shIns_ren.t 3)
  have hM := grownCap_le_maxLen w (xs.length + 1) cap (shIns_ren.t 3) (by unfold maxLen; omega)
  obtain ⟨G, hGe⟩ : ∃ G, grownCap w (xs.length + 1) cap (shIns_ren.t 3) = G := ⟨_, rfl⟩
  rw [hGe] at hG hM ⊢
  obtain ⟨arr, harr⟩ : ∃ arr : Array Value, ((valsI xs).take i).toArray ++ Builtin.zeroCells (Value.int .i64 0).cells (xs.length + 1 - i) ++ Builtin.zeroCells (Value.int .i64 0).cells (G - (xs.length + 1)) = arr := ⟨_, rfl⟩
  have hasz : arr.size = G := by rw [← harr]; simp [Builtin.zeroCells, Value.cells, valsI]; omega
  have hlo : ∀ j, j < i → arr[j]? = some (.int .i64 (xs.getD j 0)) := fun j hj => by
    rw [← harr, Array.getElem?_append_left (by simp [Builtin.zeroCells, Value.cells, valsI]; omega), Array.getElem?_append_left (by simp [valsI]; omega)]
    simp only [List.getElem?_toArray]
    rw [List.getElem?_take_of_lt hj, getD_valsI (by omega)]
  rw [harr]
  clear harr
  obtain ⟨W0, hW0⟩ : ∃ W0, (w.alloc (.cells arr (shIns_ren.t 3))).drew = W0 := ⟨_, rfl⟩
  have hb0 : W0.heap[w.heap.size]? = some (.cells arr (shIns_ren.t 3)) := by rw [← hW0]; exact alloc_block w (.cells arr (shIns_ren.t 3))
  have hC0 : Chg (fun j => (Value.slice (some ⟨g, o, none⟩) xs.length cap).ownBlock = some j ∨ j = w.heap.size) w W0 := by rw [← hW0]; exact (Chg.of_alloc _ _).trans (Chg.of_drew _)
  have hs0 : ∀ j, j < G → (W0.cell? ⟨w.heap.size, j, none⟩).isSome = true := fun j hj => by rw [cell_of_block hb0, Array.getElem?_eq_getElem (by omega)]; rfl
  rw [hW0]
  obtain ⟨W1, hW1⟩ : ∃ W1, (W0.setCells w.heap.size i [Value.int .i64 x]).drew = W1 := ⟨_, rfl⟩
  have hc1 : ∀ a, W1.cell? a = (W0.setCells w.heap.size i [Value.int .i64 x]).cell? a := fun a => by rw [← hW1]; rfl
  have hf1 : ∀ a, W1.frozen? a = W0.frozen? a := fun a => by rw [← hW1]; exact World.frozen?_setCells _ _ _ _ _
  have hC1 : Chg (fun j => (Value.slice (some ⟨g, o, none⟩) xs.length cap).ownBlock = some j ∨ j = w.heap.size) W0 W1 := by rw [← hW1]; exact (Chg.of_setCells w.heap.size (.inr rfl) _ _ _).trans (Chg.of_drew _)
  have hs1 : ∀ j, j < G → (W1.cell? ⟨w.heap.size, j, none⟩).isSome = true := fun j hj => by
    rw [hc1]
    exact isSome_setCells w.heap.size _ _ W0 (fun q hq => by simp at hq; subst hq; exact hs0 i (by omega)) _ (hs0 j hj)
  rw [hW1]
  have hC2 := Chg.of_setCells (S := fun j => (Value.slice (some ⟨g, o, none⟩) xs.length cap).ownBlock = some j ∨ j = w.heap.size) w.heap.size (.inr rfl) ((valsI xs).drop i) (i + 1) W1
  have hC := (hC0.trans hC1).trans hC2
  have hdl : ((valsI xs).drop i).length = xs.length - i := by simp [valsI]
  have hpl : (putL xs i x).length = xs.length + 1 := putL_len (by omega)
  have hgt : w.heap.size < (W1.setCells w.heap.size (i + 1) ((valsI xs).drop i)).heap.size := Nat.lt_of_lt_of_le (by rw [← hW0]; simp [World.drew]) (hC1.trans hC2).size
  refine ⟨_, rfl, .inr ⟨w.heap.size, 0, G, by rw [hpl], ht, by omega, hM, fun j hj => ⟨?_, ?_⟩, fun j hj => ?_, hgt⟩, hC.mono (fun j hj e => e.resolve_right (by omega)), fun j hj => .inr ?_⟩
  · rw [Nat.zero_add]
    exact isSome_setCells w.heap.size _ _ W1 (fun q hq => by rw [hdl] at hq; exact hs1 _ (by omega)) _ (hs1 j hj)
  · rw [World.frozen?_setCells, hf1]
    simp [World.frozen?, hb0]
  · rw [hpl] at hj
    rw [Nat.zero_add]
    by_cases e2 : i < j
    · obtain ⟨q, rfl⟩ : ∃ q, j = i + 1 + q := ⟨j - (i + 1), by omega⟩
      have := World.cell?_setCells_in w.heap.size ((valsI xs).drop i) (i + 1) W1 (fun r hr => by rw [hdl] at hr; exact hs1 _ (by omega)) q (by rw [hdl]; omega)
      rw [this, putL_hi (by omega) (by omega)]
      rw [← List.getElem?_eq_getElem, List.getElem?_drop, getD_valsI (by omega)]
      rw [show i + 1 + q - 1 = i + q by omega]
    · rw [World.cell?_setCells_out w.heap.size _ _ W1 ⟨w.heap.size, j, none⟩ (fun _ _ => by show j < _ ∨ _; omega), hc1]
      by_cases e : j = i
      · subst e
        have := World.cell?_setCells_in w.heap.size [Value.int .i64 x] j W0 (fun q hq => by simp at hq; subst hq; exact hs0 j (by omega)) 0 (by simp)
        rw [Nat.add_zero] at this
        rw [this, putL_at (by omega)]
        rfl
      · rw [World.cell?_setCells_out w.heap.size _ _ W0 ⟨w.heap.size, j, none⟩ (fun _ _ => by show j < _ ∨ _; omega), cell_of_block hb0, hlo j (by omega), putL_lo (by omega) (by omega)]
  · have : w.heap.size = j := by simpa [Value.ownBlock] using hj
    omega
/-- slices.Insert of one number into a bucket. -/
theorem oins_any (v : Value) (i : Nat) (xs : List Int) (x : Int) (vb t : Nat) (w : World) (h : BkR A w t v xs) (hi : i ≤ xs.length) (ht : t ≤ w.heap.size ∧ ¬ A w.heap.size) (hl : xs.length ≤ 1000) (hb : w.heap[vb]? = some (.cells #[.int .i64 x] 3)) (hvb : v.ownBlock ≠ some vb) :
    Calls Try.prog 56 #[v, .int .i64 (i : Int), .slice (some ⟨vb, 0, none⟩) 1 1] w fun e w' => InsP A t v (putL xs i x) w w' e := by
  rcases h with ⟨rfl, rfl⟩ | ⟨g, o, cap, rfl, htg, hc⟩
  · obtain rfl : i = 0 := by simpa using hi
    exact oins_grow_end none 0 0 [] x vb t w ht rfl (by omega) (by omega) (by omega) (fun _ => rfl) (fun a ha => by cases ha) hb
  · have hne : vb ≠ g := fun e => hvb (by subst e; rfl)
    by_cases hi2 : i < xs.length
    · by_cases hr : xs.length + 1 ≤ cap
      · exact oins_room_mid g o cap i xs x vb t w hc hi2 htg hl hr hb hne
      · exact oins_grow_mid g o cap i xs x vb t w hc hi2 ht hl (by omega) hb
    · obtain rfl : i = xs.length := by omega
      by_cases hr : xs.length + 1 ≤ cap
      · exact oins_room_end g o cap xs x vb t w hc htg hl hr hb
      · exact oins_grow_end (some ⟨g, o, none⟩) xs.length cap xs x vb t w ht rfl hl hc.len (by omega) (fun e => by cases e) (fun a ha j u hj => by
          cases ha
          obtain ⟨hl2, rfl⟩ := val_of hj
          rw [Addr.add_lit]
          exact hc.val j hl2) hb
end Go.Proofs.Ytdcdgojcboinaaa
