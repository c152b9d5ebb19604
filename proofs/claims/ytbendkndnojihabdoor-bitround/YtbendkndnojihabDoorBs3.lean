/-
  bitset.Print: contract, over that of strconv.AppendInt.
-/
import Derived.Test.YtbendkndnojihabDoorBs2
import Derived.Test.YtbendkndnojihabDoorBrs1
import Derived.Test.YtbendkndnojihabDoorBz3
import Derived.Lib.AppendIntMem
import Derived.Stop.RegionWithIn
namespace Go.Proofs.YtbendkndnojihabDoor
open Go.RowKit Go.Deep Go.Shelf
set_option linter.unusedVariables false
attribute [local go_sem] Oper.semAt_some

theorem Tryd.info_u8 : (Tryd.prog.info? 5).map (fun i => (i.zero, i.size, i.bytes)) = some (some (.int .u8 0), 1, 1) := by kernel_rfl
theorem own_slice {w : World} {B : Nat} {e : TypeId} {v : Value} {n : Nat} {xs : List Value} (h : w.ownsRow B e 1 v n xs) (hn : 0 < n) : ∃ g cap, v = .slice (some ⟨g, 0, none⟩) n cap ∧ n ≤ cap ∧ cap ≤ maxLen ∧ B ≤ g ∧ g < w.heap.size := by
  rcases h.2 with ⟨_, h0⟩ | ⟨g, cap, cur, h1, h2, h3, h4, h5, h6, h7⟩
  · omega
  · refine ⟨g, cap, h1, h4, h5, h2, ?_⟩
    rcases Nat.lt_or_ge g w.heap.size with hlt | hge
    · exact hlt
    · rw [Array.getElem?_eq_none hge] at h3; cases h3
/-- What strconv.AppendInt does at base 10. -/
def AIc : Prop := ∀ (B n : Nat) (i : Int) (sv : Value) (xs : List Value) (w : World), -9223372036854775808 ≤ i → i ≤ 9223372036854775807 → w.ownsRow B 5 1 sv n xs → B ≤ w.heap.size → n + 21 ≤ 140737488355328 →
    Lib.TabBelow Tryd.prog B w "internal/strconv.uint64pow10" .u64 Lib.pow10Tab →
    Calls Tryd.prog 51 #[sv, .int .i64 i, .int .i64 10] w fun e w' => ∃ v', e = .returned v' ∧ w'.ownsRow B 5 1 v' (n + (Lib.itoa i).length) (xs ++ Lib.byteCells (Lib.itoa i)) ∧ Below B w w' ∧ Lib.OthersKept 5 none w w'

theorem rnT_top {P : Nat → Bool} {N sz : Nat} : ∀ {q : Nat}, sz ≤ q → (∀ y, sz ≤ y → y < q → P y = false) → rnT P N q = rnT P N sz
  | 0, h, _ => by rw [show sz = 0 from by omega]
  | q + 1, h, hz => by
    by_cases e : sz = q + 1
    · rw [e]
    · simp only [rnT]
      rw [rnT_top (q := q) (by omega) (fun y h1 h2 => hz y h1 (by omega)), show pcT P N q = [] from by simp [pcT, hz q (by omega) (by omega)], List.append_nil]
/-- A row of bytes as a string. -/
theorem conv_row {w : World} {B g cap : Nat} {T : List UInt8} (h : w.ownsRow B 5 1 (.slice (some ⟨g, 0, none⟩) T.length cap) T.length (Lib.byteCells T)) : (convert 78 9 (.slice (some ⟨g, 0, none⟩) T.length cap)).run Tryd.prog w = .ok (.string (strL T)) w := by
  refine (run_convert_bytes_arg w 78 5 Tryd.underlying78 Tryd.underlying5 g 0 T.length cap (T.map (fun b => (b.toNat : Int))) (by simp) (fun i hi => ?_) 9 Tryd.underlying9).trans ?_
  · rcases h.2 with ⟨h1, _⟩ | ⟨g', cap', cur, h1, h2, h3, h4, h5, h6, h7⟩
    · cases h1
    · cases h1
      rw [Nat.zero_add, cell_of_block h3]
      have : (cur.toList.take (T.length * 1))[i]? = (Lib.byteCells T)[i]? := by rw [h7]
      rw [List.getElem?_take_of_lt (by omega)] at this
      rw [← Array.getElem?_toList, this]
      simp [Lib.byteCells, List.getD, hi]
  · have : strOfNums (T.map (fun b => (b.toNat : Int))) = strL T := by
      unfold strOfNums strL
      congr 2
      rw [List.map_map]
      have : ((fun n : Int => UInt8.ofNat n.toNat) ∘ fun b : UInt8 => (b.toNat : Int)) = id := by funext b; simp
      rw [this, List.map_id]
    rw [this]
/-- What a number puts to the text, and what stands ahead of the next run. -/
def stepT (P : Nat → Bool) (N : Nat) (t : List UInt8 × List UInt8) (e : Nat) : List UInt8 × List UInt8 :=
  if bgB P e then (t.1 ++ t.2 ++ Lib.decDigits e, [44]) else if enB P N e then (t.1 ++ 45 :: Lib.decDigits e, t.2) else t
theorem fold_rn {P : Nat → Bool} {N : Nat} (H : List UInt8) : ∀ q, (elN P q).foldl (stepT P N) (H, []) = (H ++ rnT P N q, commaT P q)
  | 0 => by simp [elN, rnT, commaT, cntB]
  | q + 1 => by
    simp only [elN, rnT, List.foldl_append]
    rw [fold_rn H q]
    cases hp : P q
    · have hc : commaT P (q + 1) = commaT P q := by
        unfold commaT
        have := cnt_zero_succ (P := P) (e := q)
        by_cases c : cntB P q = 0
        · rw [if_pos c, if_pos (this.2 ⟨c, hp⟩)]
        · rw [if_neg c, if_neg (fun h => c (this.1 h).1)]
      simp [pcT, hp, hc]
    · have hc : commaT P (q + 1) = [44] := by
        unfold commaT
        rw [if_neg (fun h => by have := (cnt_zero_succ (P := P) (e := q)).1 h; rw [hp] at this; cases this.2)]
      rw [hc]
      simp only [if_true, List.foldl_cons, List.foldl_nil, stepT, pcT, hp]
      cases hb : bgB P q
      · have h0 : commaT P q = [44] := by
          unfold commaT
          simp [bgB] at hb
          rw [if_neg (fun h => by have := cntB_lt P (show q - 1 < q by omega) hb.2; omega)]
        cases he : enB P N q
        · simp [h0]
        · simp [h0]
      · simp [commaT]
/-- In the round of Print. -/
structure PrI (w W : World) (B b1 b2 : Nat) (sz : Nat) (a : Option Addr) (n c : Nat) (t : List UInt8 × List UInt8) : Prop where
  bel : Below w.heap.size w W
  two : Two W w.heap.size (.int .i64 (sz : Int)) (.slice a n c)
  row : ∃ sv, W.heap[b1]? = some (.cells #[sv] 78 (0, 0)) ∧ W.ownsRow B 5 1 sv t.1.length (Lib.byteCells t.1)
  ahd : W.heap[b2]? = some (.cells #[.string (strL t.2)] 9 (0, 0))
  clo : W.heap[b2 + 1]? = some (.cells #[.slice a n c] 33 (0, 0))

theorem own_kept {w w' : World} {B : Nat} {e : TypeId} {v : Value} {n : Nat} {xs : List Value} (h : w.ownsRow B e 1 v n xs) {row : Option Nat} (hg : w.grownBy w' row) (hr : ∀ r, row = some r → ∃ o : Obj, w.heap[r]? = some o ∧ o.isCells = false) : w'.ownsRow B e 1 v n xs := by
  refine h.kept hg ?_
  rcases h.2 with ⟨h1, _⟩ | ⟨g, cap, cur, h1, h2, h3, _⟩
  · left; rw [h1]; rfl
  · right
    rw [h1]
    intro he
    obtain ⟨o, ho, hc⟩ := hr g he.symm
    rw [h3] at ho
    cases ho
    cases hc
/-- append of a text's bytes, inside a fence. -/
theorem append_str_in {F : Fence} {k : Nat} {ops : Array Oper} {rest : List Oper} {o : Oper} {act : Act} {Q : Exit → Act → World → Prop} (W : World) (hgd : o.guard = none) (sl tx : Operand) (t u : TypeId)
    (hop : o.op = .call { callee := .builtin .append, args := #[sl, tx], argTypes := #[t, u] })
    (B : Nat) (e : TypeId) (i : TypeInfo) (ht : Tryd.prog.underlying t = some (.slice e)) (hu : Tryd.prog.underlying u = some .string) (hi : Tryd.prog.info? e = some i) (hz : i.zero = some (.int .u8 0)) (hs1 : i.size = 1) (hby : i.bytes = 1)
    (v : Value) (n : Nat) (xs : List Value) (hv : act.eval sl = v) (hown : W.ownsRow B e 1 v n xs) (s : ByteArray) (hx : act.eval tx = .string s) (h1 : n + s.size ≤ 140737488355328) (hB : B ≤ W.heap.size)
    (hK : ∀ v' W', W'.ownsRow B e 1 v' (n + s.size) (xs ++ Lib.strCells s) → W.grownBy W' v.ownBlock → wpListIn F k Tryd.prog ops Q rest (act.put o.dst v') W') : wpListIn F k Tryd.prog ops Q (o :: rest) act W := by
  obtain ⟨v', W', hr, q1, q2, _⟩ := Lib.run_append_own_string (P := Tryd.prog) W B t u o.type e i ht hu hi hz hs1 hby v n xs hown s (by unfold maxLen; omega) h1 hB
  refine wpListIn_plain hgd fun K hK' => ⟨by simp [Oper.about, hop, resolve, Target.leads, Sem.run_pure], ?_⟩
  rw [Oper.semAt_plain F _ _ (by rw [hop]; intro c hc; cases hc)]
  simp [execOp, hop, resolve, invoke, builtin, hv, hx, hr, Result.andThen]
  exact hK' _ _ (hK v' W' q1 q2)
theorem fold_len {P : Nat → Bool} {N n : Nat} {x : List Nat} (hn : 64 * n ≤ 10000) : ∀ (pre : List (Elem n x)) (t : List UInt8 × List UInt8), t.2.length ≤ 1 → (pre.foldl (fun t e => stepT P N t e.val) t).1.length ≤ t.1.length + 9 * pre.length ∧ (pre.foldl (fun t e => stepT P N t e.val) t).2.length ≤ 1
  | [], t, h => ⟨by simp, by simpa using h⟩
  | e :: pre, t, h => by
    have hd := dec_len e.val (by have := e.property.1; omega)
    have h1 : (stepT P N t e.val).1.length ≤ t.1.length + 9 ∧ (stepT P N t e.val).2.length ≤ 1 := by
      unfold stepT
      split
      · simp; omega
      · split
        · simp; omega
        · exact ⟨by omega, h⟩
    have ih := fold_len (P := P) (N := N) hn pre (stepT P N t e.val) h1.2
    simp only [List.foldl_cons, List.length_cons]
    omega
theorem fold_ge {P : Nat → Bool} {N n : Nat} {x : List Nat} : ∀ (pre : List (Elem n x)) (t : List UInt8 × List UInt8), t.1.length ≤ (pre.foldl (fun t e => stepT P N t e.val) t).1.length
  | [], t => by simp
  | e :: pre, t => by
    have h1 : t.1.length ≤ (stepT P N t e.val).1.length := by
      unfold stepT
      split
      · simp
        try omega
      · split
        · simp
        · exact Nat.le_refl _
    have ih := fold_ge (P := P) (N := N) pre (stepT P N t e.val)
    simp only [List.foldl_cons]
    omega
theorem has_bg {sz : Nat} {x : List Nat} (m : MayS sz x = true) {e : Nat} (he : e < sz) : hasR sz x ((e : Int) - 1) = !bgB (hasB (gW x)) e ∧ hasR sz x ((e : Int) + 1) = !enB (hasB (gW x)) sz e := by
  unfold hasR bgB enB
  rw [m]
  simp only [Bool.true_and, Bool.not_not]
  constructor
  · by_cases c : 1 ≤ e
    · rw [decide_eq_true (show (0 : Int) ≤ (e : Int) - 1 by omega), decide_eq_true (show (e : Int) - 1 < (sz : Int) by omega), decide_eq_true c, show ((e : Int) - 1).toNat = e - 1 from by omega]; rfl
    · rw [decide_eq_false (show ¬ (0 : Int) ≤ (e : Int) - 1 by omega), decide_eq_false c]; rfl
  · rw [decide_eq_true (show (0 : Int) ≤ (e : Int) + 1 by omega), show ((e : Int) + 1).toNat = e + 1 from by omega]
    by_cases c : e + 1 < sz
    · rw [decide_eq_true (show (e : Int) + 1 < (sz : Int) by omega), decide_eq_true c]; rfl
    · rw [decide_eq_false (show ¬ (e : Int) + 1 < (sz : Int) by omega), decide_eq_false c]; rfl
/-- What is kept while bytes are put: the round's end. -/
theorem PrI.fin {w W W' : World} {B b1 b2 sz : Nat} {a : Option Addr} {n c : Nat} {t : List UInt8 × List UInt8} {T : List UInt8} {sv : Value} (h : PrI w W B b1 b2 sz a n c t) (hB : w.heap.size < B) (hb1 : B ≤ b1) (hb2 : b1 < b2) (hb : Below B W W') (hk : Lib.OthersKept 5 none W W') (ho : W'.ownsRow B 5 1 sv T.length (Lib.byteCells T)) :
    PrI w (W'.setCell ⟨b1, 0, none⟩ sv) B b1 b2 sz a n c (T, t.2) := by
  obtain ⟨sv0, r1, r3⟩ := h.row
  have q1 := hk _ _ r1 (by simp) (fun c fz e => by cases e)
  have q2 := hk _ _ h.ahd (by simp) (fun c fz e => by cases e)
  have q3 := hk _ _ h.clo (by simp) (fun c fz e => by cases e)
  have hbw : Below w.heap.size w W' := h.bel.trans (hb.mono (by omega))
  have t2 := h.two
  have tw : Two W' w.heap.size (.int .i64 (sz : Int)) (.slice a n c) := ⟨(hb.cell (p := ⟨w.heap.size, 0, none⟩) hB).trans t2.c0, (hb.cell (p := ⟨w.heap.size, 1, none⟩) hB).trans t2.c1, (hb.frozen (p := ⟨w.heap.size, 0, none⟩) hB).trans t2.f0, (hb.frozen (p := ⟨w.heap.size, 1, none⟩) hB).trans t2.f1⟩
  refine ⟨hbw.setCell (p := ⟨b1, 0, none⟩) (by show w.heap.size ≤ b1; omega) _, tw.other b1 0 sv (by omega), ⟨sv, one_setCell q1, ?_⟩, ?_, ?_⟩
  · refine ⟨ho.1, ?_⟩
    rcases ho.2 with h2 | ⟨g, cap, cur, h3, h4, h5, h6⟩
    · exact .inl h2
    · refine .inr ⟨g, cap, cur, h3, h4, ?_, h6⟩
      rw [Below.heap_setCell _ _ _ _ (by
        intro e
        have e' : g = b1 := e
        rw [e', q1] at h5
        cases h5)]
      exact h5
  · rw [Below.heap_setCell _ _ _ _ (by show b2 ≠ b1; omega)]; exact q2
  · rw [Below.heap_setCell _ _ _ _ (by show b2 + 1 ≠ b1; omega)]; exact q3
theorem PrI.comma {w W : World} {B b1 b2 sz : Nat} {a : Option Addr} {n c : Nat} {T C : List UInt8} (h : PrI w W B b1 b2 sz a n c (T, C)) (D : List UInt8) (hB : w.heap.size < B) (hb1 : B ≤ b1) (hb2 : b1 < b2) : PrI w (W.setCell ⟨b2, 0, none⟩ (.string (strL D))) B b1 b2 sz a n c (T, D) := by
  obtain ⟨sv0, r1, r3⟩ := h.row
  refine ⟨h.bel.setCell (p := ⟨b2, 0, none⟩) (by show w.heap.size ≤ b2; omega) _, h.two.other b2 0 _ (by omega), ⟨sv0, ?_, r3.1, ?_⟩, one_setCell h.ahd, ?_⟩
  · rw [Below.heap_setCell _ _ _ _ (by show b1 ≠ b2; omega)]; exact r1
  · rcases r3.2 with h2 | ⟨g, cap, cur, h3, h4, h5, h6⟩
    · exact .inl h2
    · refine .inr ⟨g, cap, cur, h3, h4, ?_, h6⟩
      rw [Below.heap_setCell _ _ _ _ (by
        intro e
        have e' : g = b2 := e
        rw [e', h.ahd] at h5
        cases h5)]
      exact h5
  · rw [Below.heap_setCell _ _ _ _ (by show b2 + 1 ≠ b2; omega)]; exact h.clo
theorem PrI.own {β : Type} {w : World} {B b1 b2 sz : Nat} {a : Option Addr} {n c Bb : Nat} (T : β → List UInt8 × List UInt8) (hB : w.heap.size ≤ Bb) : OwnFrom Bb (fun (s : β) W => PrI w W B b1 b2 sz a n c (T s)) := by
  intro s W W' row h hg hr
  have hr' : ∀ r, row = some r → ∃ o : Obj, W.heap[r]? = some o ∧ o.isCells = false := fun r e => (hr r e).2
  obtain ⟨sv, r1, r3⟩ := h.row
  have t := h.two
  exact ⟨h.bel.grown hg h.bel.size (fun k e => Nat.le_trans hB (hr k e).1), ⟨cell_kept t.c0 hg hr', cell_kept t.c1 hg hr', (frozen_kept t.c0 hg hr').trans t.f0, (frozen_kept t.c1 hg hr').trans t.f1⟩,
    ⟨sv, (grownBy_keeps_cells hg hr' r1 rfl).trans r1, own_kept r3 hg hr'⟩, (grownBy_keeps_cells hg hr' h.ahd rfl).trans h.ahd, (grownBy_keeps_cells hg hr' h.clo rfl).trans h.clo⟩
theorem PrI.step {w W W' : World} {B b1 b2 sz : Nat} {a : Option Addr} {n c : Nat} {t : List UInt8 × List UInt8} (h : PrI w W B b1 b2 sz a n c t) (k : Below W.heap.size W W') : PrI w W' B b1 b2 sz a n c t := by
  obtain ⟨sv, r1, r3⟩ := h.row
  have lt : ∀ {i : Nat} {o : Obj}, W.heap[i]? = some o → i < W.heap.size := fun h => (Array.getElem?_eq_some_iff.1 h).1
  exact ⟨h.bel.trans (k.mono h.bel.size), h.two.keep k, ⟨sv, (k.block _ (lt r1)).trans r1, own_chg (S := fun _ => False) r3 (Chg.of_below k) (fun _ _ h => h)⟩, (k.block _ (lt h.ahd)).trans h.ahd, (k.block _ (lt h.clo)).trans h.clo⟩
theorem others_below {W W' : World} {e : TypeId} (k : Below W.heap.size W W') : Lib.OthersKept e none W W' := fun i o hi _ _ => (k.block i (Array.getElem?_eq_some_iff.1 hi).1).trans hi
theorem PrI.keep {w W W' : World} {B b1 b2 sz n₀ : Nat} {a : Option Addr} {n c : Nat} {t : List UInt8 × List UInt8} {sv : Value} (h : PrI w W B b1 b2 sz a n c t) (hB : w.heap.size < B) (hb1 : B ≤ b1) (hb2 : b1 < b2) (hn : b2 + 1 < n₀) (hb : Below B W W') (hk : Lib.OthersKept 5 none W W') :
    KeepsFrom n₀ W (W'.setCell ⟨b1, 0, none⟩ sv) ∧ KpZ (fun j => w.heap.size ≤ j ∧ j ≠ b2 + 1) n₀ W (W'.setCell ⟨b1, 0, none⟩ sv) := by
  constructor
  · refine ⟨by simpa using hb.size, fun k o h1 h2 h3 => ?_⟩
    rw [Below.heap_setCell _ _ _ _ (by show k ≠ b1; omega)]
    exact hk k o h2 (by simp) (fun c fz e => by subst e; cases h3)
  · refine ⟨hb.os, hb.tape, hb.output, by simpa using hb.size, fun k h1 h2 => ?_⟩
    have h4 : k < w.heap.size ∨ k = b2 + 1 := by
      rcases Nat.lt_or_ge k w.heap.size with c | c
      · exact .inl c
      · right
        rcases Nat.decEq k (b2 + 1) with d | d
        · exact absurd (.inl ⟨c, d⟩) h2
        · exact d
    rcases h4 with h4 | h4
    · rw [Below.heap_setCell _ _ _ _ (by show k ≠ b1; omega)]
      exact hb.block k (by omega)
    · subst h4
      rw [Below.heap_setCell _ _ _ _ (by show b2 + 1 ≠ b1; omega)]
      exact (hk _ _ h.clo (by simp) (fun c fz e => by cases e)).trans h.clo.symm
theorem kpZ_t {Z : Nat → Prop} {n₀ : Nat} {A B C : World} (h : KpZ Z n₀ A B) (k : KpZ Z n₀ B C) : KpZ Z n₀ A C := Chg.trans h k
theorem kpZ_b {Z : Nat → Prop} {n₀ : Nat} {w : World} (hn : n₀ ≤ w.heap.size) (W : World) (l : Nat) (o o' : Obj) (hl : w.heap.size ≤ l) (h : W.heap[l]? = some o) (_ : o.isCells = false) (_ : o.isWalk = false) : KpZ Z n₀ W (W.putObj l o') :=
  ⟨rfl, rfl, rfl, by simp, fun k hk hs => World.putObj_heap_other (fun e => hs (.inr (by omega)))⟩

set_option maxHeartbeats 8000000 in
set_option maxRecDepth 100000 in
/-- bitset.Print, of a set that may be. -/
theorem sprint_yes (ai : AIc) (sz : Nat) (a : Option Addr) (n c : Nat) (x : List Nat) (w : World) (h : SlW w a n c x) (o : OkW x) (hT : Tab64 w) (hP : Lib.TabBelow Tryd.prog w.heap.size w "internal/strconv.uint64pow10" .u64 Lib.pow10Tab) (m : MayS sz x = true) :
    Calls Tryd.prog 19 #[setV sz a n c] w fun e w' => e = .returned (.tuple #[.string (strL (prT sz x).1), .int .i64 0]) ∧ Below w.heap.size w w' := by
  obtain ⟨wa, hwa⟩ : ∃ x, w.alloc (.cells #[.int .i64 (sz : Int), .slice a n c] 35) = x := ⟨_, rfl⟩
  have hba : Below w.heap.size w wa := by rw [← hwa]; exact (Below.refl _ _).alloc (Nat.le_refl _) _
  have tA : Two wa w.heap.size (.int .i64 (sz : Int)) (.slice a n c) := by rw [← hwa]; exact Two.made _ _ _ _
  have K := may_any sz a n c x wa (h.below hba) o
  rw [m] at K
  have a0 := tA.c0
  have a1 := tA.c1
  have HA := hide (And.intro tA (And.intro (h.below hba) hba))
  have HL := hide h.len
  have HO := hide o
  have HSl := hide h
  have HT := hide hT
  have HP := hide hP
  have HAi := hide ai
  have HM := hide m
  unfold setV at K ⊢
  have HK := hide K
  clear tA hba h o hT hP ai m K
  refine (callsIn_wide (n := 4)).1 ?_
  refine callsIn_of_wp_marks Tryd.func19 rfl trivial ?_ rfl
  simp only [Tryd.ntmps19, List.size_toArray, List.length_cons, List.length_nil, Nat.reduceAdd, Nat.reduceSub, Array.replicate_succ, Array.replicate_zero, List.push_toArray, List.append_toArray, List.nil_append, List.cons_append]
  gi_wp2_with fail
  refine ⟨trivial, (callsIn_wide.2 (unhide HK)).mono ?_⟩
  rintro _ w1 ⟨rfl, hb1⟩
  have HA1 := hide (And.intro ((unhide HA).1.keep hb1) ((unhide HA).2.2.trans (hb1.mono (unhide HA).2.2.size)))
  have b0 := (unhide HA1).1.c0
  have b1 := (unhide HA1).1.c1
  clear hb1 HK HA a0 a1
  have hB0 := (unhide HA1).2.size
  have htab1 : Lib.TabBelow Tryd.prog w1.heap.size w1 "internal/strconv.uint64pow10" .u64 Lib.pow10Tab := fun w' hb' => unhide HP w' ((unhide HA1).2.trans (hb'.mono hB0))
  have hsz : sz ≤ 4096 := by have hf := MayS.fits (unhide HM); simp [fitsI] at hf; omega
  have KA := (unhide HAi) w1.heap.size 0 (sz : Int) (.slice none 0 0) [] w1 (by omega) (by omega) (World.ownsRow_nil _ _ _ _) (Nat.le_refl _) (by omega) htab1
  have hit : Lib.itoa (sz : Int) = Lib.decDigits sz := by unfold Lib.itoa; rw [if_neg (by omega)]; rfl
  rw [hit] at KA
  have HKA := hide KA
  have hd7 := dec_len sz (by omega)
  clear KA htab1 hit
  gi_wp2_with fail
  refine ⟨trivial, (callsIn_wide.2 (unhide HKA)).mono ?_⟩
  rintro _ w2 ⟨v2, rfl, hown2, hb2, hok2⟩
  have HOw2 := hide hown2
  have HB2 := hide hb2
  have hw2 := hb2.size
  clear hown2 hb2 hok2 HKA
  obtain ⟨i8, hi, hz, hs, hb⟩ := info_parts Tryd.info_u8
  have HI := hide (And.intro hi (And.intro hz (And.intro hs hb)))
  clear hi hz hs hb
  gi_wp2_with (gi_at_builtin; refine wpListIn_append_own _ rfl _ _ 78 rfl w1.heap.size 5 i8 (.int .u8 0) 1 1 Tryd.underlying78 (unhide HI).1 (unhide HI).2.1 (unhide HI).2.2.1 (unhide HI).2.2.2 rfl (by decide) _ (0 + (Lib.decDigits sz).length) ([] ++ Lib.byteCells (Lib.decDigits sz)) rfl ((unhide HOw2).alloc _) ⟨w2.heap.size, 0, none⟩ 1 1 [.int .u8 58] rfl rfl ?c1 ?c2 ?c3 ?c4 ?c5 ?_)
  case c1 =>
    intro j u hj
    match j, hj with
    | 0, hj => simp at hj; subst hj; simp [Addr.add]
    | (j + 1), hj => simp at hj
  case c2 => intro u hu; simp at hu; subst hu; rfl
  case c3 => unfold maxLen; omega
  case c4 => omega
  case c5 => simp; omega
  intro v3 w3 hown3 hg3 _
  have hb3 : Below w1.heap.size w1 w3 := by
    refine ((unhide HB2).alloc hw2 _).grown hg3 (by simp; omega) (fun j hj => ?_)
    exact (own_ge (unhide HOw2) j hj).1
  have HOw3 := hide (show w3.ownsRow w1.heap.size 5 1 v3 (Lib.decDigits sz ++ [58]).length (Lib.byteCells (Lib.decDigits sz ++ [58])) by simpa [Lib.byteCells] using hown3)
  obtain ⟨g3, cap3, rfl, hc31, hc32, hg31, hg32⟩ := own_slice (unhide HOw3) (by simp)
  have hcm3 : cap3 ≤ 9223372036854775807 := by unfold maxLen at hc32; omega
  have HB3 := hide hb3
  have tA3 := (unhide HA1).1.keep hb3
  have hw3 := hb3.size
  have d0 := tA3.c0
  have d1 := tA3.c1
  clear hown3 hg3 hb3 tA3 HOw2 HB2 b0 b1
  obtain ⟨L3, hL3⟩ : ∃ L, (Lib.decDigits sz ++ [58]).length = L := ⟨_, rfl⟩
  rw [hL3] at HOw3 hc31 ⊢
  have HL3 := hide hL3
  clear hL3
  have d1x : ∀ o1 o2 : Obj, ((w3.alloc o1).alloc o2).cell? ⟨w.heap.size, 1, none⟩ = some (.slice a n c) := fun o1 o2 => by
    have h1 := World.block_lt_of_cell? _ _ d1
    exact below_cell (w := w3) (((Below.refl _ _).alloc (Nat.le_refl _) _).alloc (by simp) _) d1
  gi_wp2_with fail
  obtain ⟨w4, hw4⟩ : ∃ y, (w3.alloc (.cells #[.slice (some ⟨g3, 0, none⟩) L3 cap3] 78)).alloc (.cells #[.string { data := #[] }] 9) = y := ⟨_, rfl⟩
  have hb4 : Below w3.heap.size w3 w4 := by rw [← hw4]; exact ((Below.refl _ _).alloc (Nat.le_refl _) _).alloc (by simp) _
  have cb4 : w4.cell? ⟨w3.heap.size, 0, none⟩ = some (.slice (some ⟨g3, 0, none⟩) L3 cap3) ∧ w4.frozen? ⟨w3.heap.size, 0, none⟩ = false := by rw [← hw4]; simp
  have ca4 : w4.cell? ⟨w3.heap.size + 1, 0, none⟩ = some (.string (strL [])) ∧ w4.frozen? ⟨w3.heap.size + 1, 0, none⟩ = false := by rw [← hw4]; simp [strL]
  have HZ4 := hide (show w4.heap.size = w3.heap.size + 2 by rw [← hw4]; simp)
  have hk1 : w4.heap[w3.heap.size]? = some (.cells #[.slice (some ⟨g3, 0, none⟩) L3 cap3] 78 (0, 0)) := by rw [← hw4]; exact (((Below.refl (w3.alloc (.cells #[.slice (some ⟨g3, 0, none⟩) L3 cap3] 78)).heap.size _).alloc (Nat.le_refl _) _).block _ (by simp)).trans (alloc_block _ _)
  have hk2 : w4.heap[w3.heap.size + 1]? = some (.cells #[.string (strL [])] 9 (0, 0)) := by rw [← hw4]; have := alloc_block (w3.alloc (.cells #[.slice (some ⟨g3, 0, none⟩) L3 cap3] 78)) (.cells #[.string { data := #[] }] 9); rwa [show (w3.alloc (.cells #[.slice (some ⟨g3, 0, none⟩) L3 cap3] 78)).heap.size = w3.heap.size + 1 from by simp] at this
  have ho4 : w4.ownsRow w1.heap.size 5 1 (.slice (some ⟨g3, 0, none⟩) L3 cap3) L3 (Lib.byteCells (Lib.decDigits sz ++ [58])) := by rw [← hw4]; exact ((unhide HOw3).alloc _).alloc _
  rw [hw4]
  refine ⟨trivial, (rise_in 3 a n c w4).mono ?_⟩
  rintro _ _ ⟨rfl, rfl⟩
  gi_wp2_with fail
  obtain ⟨wf, hwf⟩ : ∃ y, w4.alloc (.cells #[.slice a n c] 33) = y := ⟨_, rfl⟩
  have hbf : Below w4.heap.size w4 wf := by rw [← hwf]; exact (Below.refl _ _).alloc (Nat.le_refl _) _
  have cF : wf.cell? ⟨w4.heap.size, 0, none⟩ = some (.slice a n c) := by rw [← hwf]; simp
  have hszf : w4.heap.size < wf.heap.size := by rw [← hwf]; simp
  have hk3 : wf.heap[w3.heap.size + 1 + 1]? = some (.cells #[.slice a n c] 33 (0, 0)) := by rw [show w3.heap.size + 1 + 1 = w4.heap.size from by rw [unhide HZ4]]; rw [← hwf]; exact alloc_block _ _
  rw [hwf]
  have hbw3 : Below w.heap.size w w3 := (unhide HA1).2.trans ((unhide HB3).mono hB0)
  have h44 := hb4.size
  have hbwf : Below w.heap.size w wf := (hbw3.trans (hb4.mono hbw3.size)).trans (hbf.mono (by have := hbw3.size; omega))
  have hG := World.block_lt_of_cell? _ _ (unhide HT 0 (by decide))
  have hn64 : n ≤ 64 := by have := MayS.len (unhide HM); rw [unhide HL] at this; rw [this]; unfold nW; simp; omega
  have hsn : sz ≤ 64 * n := by have := MayS.len (unhide HM); rw [unhide HL] at this; rw [this]; unfold nW; simp; omega
  have hwf0 := hbw3.size
  have HSeq := rise_stops 3 (by decide) (fun j => w.heap.size ≤ j ∧ j ≠ w4.heap.size) w4.heap.size a n c x wf (by omega) (unhide HO) (by simp) (by have h9 : 0 < w.heap.size := hG; omega) ((unhide HT).below hbwf) cF ((unhide HSl).below hbwf) (fun h0 z hz => by
    obtain ⟨b9, o9, e9, k9⟩ := (unhide HSl).at h0
    rw [e9] at hz
    cases hz
    have h9 : b9 < w.heap.size := World.block_lt_of_cell? _ _ (k9 0 h0)
    show ¬ (w.heap.size ≤ b9 ∧ b9 ≠ w4.heap.size)
    omega)
  have tSf : Two wf w.heap.size (.int .i64 (sz : Int)) (.slice a n c) := (((unhide HA1).1.keep (unhide HB3)).keep hb4).keep hbf
  have HI0 := hide (show PrI w wf w1.heap.size w3.heap.size (w3.heap.size + 1) sz a n c (([] : List (Elem n x)).foldl (fun t e => stepT (hasB (gW x)) sz t e.val) (Lib.decDigits sz ++ [58], [])) from
    ⟨hbwf, tSf, ⟨_, (hbf.block _ (World.block_lt_of_cell? _ _ cb4.1)).trans hk1, by
      have h1 : wf.ownsRow w1.heap.size 5 1 (.slice (some ⟨g3, 0, none⟩) L3 cap3) L3 (Lib.byteCells (Lib.decDigits sz ++ [58])) := by rw [← hwf]; exact ho4.alloc _
      have e : (([] : List (Elem n x)).foldl (fun t e => stepT (hasB (gW x)) sz t e.val) (Lib.decDigits sz ++ [58], [])).1.length = L3 := unhide HL3
      rw [e]
      exact h1⟩, (hbf.block _ (World.block_lt_of_cell? _ _ ca4.1)).trans hk2, hk3⟩)
  have hwlt := (unhide HA1).1.lt
  have hw4s : w4.heap.size = w3.heap.size + 1 + 1 := by rw [unhide HZ4]
  clear hwf hw4 hbf cF hb4 cb4 ca4 ho4 d0 d1 d1x tSf HOw3 HB3 HA1 hk1 hk2 hk3 HZ4
  have hle9 : w.heap.size ≤ wf.heap.size := hbwf.size
  have HW4 := hide hw4s
  have hb12 : w1.heap.size ≤ w3.heap.size := hw3
  clear hw4s
  refine wpIn_rangeFunc_ownG (F := Fence.wide) (n := 4) rfl (by decide) (gf := 72) (lb := #[.pointer (some ⟨w4.heap.size, 0, none⟩)]) rfl trivial (enters_of Tryd.func72 (by kernel_rfl) rfl)
    HSeq kpZ_t (kpZ_b (Nat.le_refl _)) (Below.refl _ _) (fun _ => rfl)
    (fun pre W => PrI w W w1.heap.size w3.heap.size (w3.heap.size + 1) sz a n c (pre.foldl (fun t e => stepT (hasB (gW x)) sz t e.val) (Lib.decDigits sz ++ [58], [])))
    (fun c pre W => False)
    (PrI.own _ hle9)
    (fun c s W W' row h => h.elim)
    (unhide HI0)
    (fun e => { tmps :=
        #[Value.agg #[Value.int IntKind.i64 ↑sz, Value.slice a n c],
          Value.pointer (some { block := w.heap.size, off := 0 }), Value.string { data := #[] },
          Value.int IntKind.i64 0, Value.pointer (some { block := w3.heap.size, off := 0 }),
          Value.pointer (some { block := w3.heap.size + 1, off := 0 }), .int .i64 ((e.val : Nat) : Int),
          Value.agg #[Value.int IntKind.i64 ↑sz, Value.slice a n c], Value.bool true, Value.bool false,
          Value.pointer (some { block := w.heap.size, off := 0 }), Value.int IntKind.i64 ↑sz, v2,
          Value.slice (some { block := w2.heap.size, off := 0 }) 1 1,
          Value.slice (some { block := g3, off := 0 }) L3 cap3, Value.pointer (some { block := w.heap.size, off := 1 }),
          Value.slice a n c,
          Value.func (Fn.func 72) #[] #[Value.pointer (some { block := w4.heap.size, off := 0 })], .int .i64 ((e.val : Nat) : Int), undef,
          undef, undef, undef, undef, undef, undef, undef, undef, undef, undef, undef, undef, undef, undef, undef,
          undef, undef, undef, undef, undef, undef], defers := [] }) ?assign ?body ?done ?stop
  case assign =>
    intro l e W K hK
    unfold encR
    gi_wp2
    exact hK
  case body =>
    rintro l pre ⟨e, he1, he2⟩ W hI hlenP
    dsimp only
    have hesz : e < sz := by
      rcases Nat.lt_or_ge e sz with c | c
      · exact c
      · have hz : hasB (gW x) e = false := MayS.zero (unhide HM) e (by simpa using c) (by rw [unhide HL]; exact he1)
        rw [hz] at he2; cases he2
    obtain ⟨hv1, hv2⟩ := has_bg (unhide HM) hesz
    have hfl := fold_len (P := hasB (gW x)) (N := sz) (by omega) pre (Lib.decDigits sz ++ [58], []) (by simp)
    have hfg := fold_ge (P := hasB (gW x)) (N := sz) pre (Lib.decDigits sz ++ [58], [])
    have hpl : pre.length ≤ 4096 := by have := cntB_le (hasB (gW x)) (64 * n); omega
    have hfs : (pre ++ [(⟨e, he1, he2⟩ : Elem n x)]).foldl (fun t e => stepT (hasB (gW x)) sz t e.val) (Lib.decDigits sz ++ [58], []) = stepT (hasB (gW x)) sz (pre.foldl (fun t e => stepT (hasB (gW x)) sz t e.val) (Lib.decDigits sz ++ [58], [])) e := by simp
    obtain ⟨t, ht⟩ : ∃ t, pre.foldl (fun t e => stepT (hasB (gW x)) sz t e.val) (Lib.decDigits sz ++ [58], []) = t := ⟨_, rfl⟩
    rw [ht] at hfs hfl hI hfg
    obtain ⟨T, C⟩ := t
    simp only at hfl hfg
    have hT0 : 0 < T.length := by simp at hfg; omega
    have hTl : T.length ≤ 40000 := by have := hfl.1; simp at this; omega
    have hCl : C.length ≤ 1 := hfl.2
    have hSW := (unhide HSl).below hI.bel
    have K1 := has_any sz a n c x ((e : Int) - 1) W hSW (unhide HO) (by omega) (by omega)
    rw [hv1] at K1
    unfold setV at K1
    have HK1 := hide K1
    have HFs := hide hfs
    have HIb := hide hI
    have s0 := hI.two.c0
    have s1 := hI.two.c1
    have HV2 := hide hv2
    clear K1 hfs hI hv1 hv2 ht hfl hfg HSeq hSW
    have hB1 : w.heap.size < w1.heap.size := hwlt
    have hn0 : w3.heap.size + 1 + 1 < wf.heap.size := by rw [← unhide HW4]; exact hszf
    have hit : Lib.itoa (e : Int) = Lib.decDigits e := by unfold Lib.itoa; rw [if_neg (by omega)]; rfl
    have hde := dec_len e (by omega)
    have htabW : ∀ W', Below w.heap.size w W' → Lib.TabBelow Tryd.prog w1.heap.size W' "internal/strconv.uint64pow10" .u64 Lib.pow10Tab := fun W' h1 w' h2 => unhide HP w' (h1.trans (h2.mono (by omega)))
    have HTab := hide htabW
    clear htabW
    cases hbg : bgB (hasB (gW x)) e
    · rw [hbg] at HK1
      gi_wp2_with fail
      refine ⟨trivial, (CallsIn.inRound l (callsIn_wide.2 (unhide HK1))).mono ?_⟩
      rintro _ Wa ⟨rfl, hba⟩
      have HIa := hide ((unhide HIb).step hba)
      have u0 := (unhide HIa).two.c0
      have u1 := (unhide HIa).two.c1
      have K2 := has_any sz a n c x ((e : Int) + 1) Wa ((unhide HSl).below (unhide HIa).bel) (unhide HO) (by omega) (by omega)
      rw [unhide HV2] at K2
      unfold setV at K2
      have HBa := hide hba
      clear hba HK1 s0 s1
      cases hen : enB (hasB (gW x)) sz e
      · rw [hen] at K2
        have HK2 := hide K2
        have HSt := hide (show stepT (hasB (gW x)) sz (T, C) e = (T, C) by simp [stepT, hbg, hen])
        clear K2 hbg hen
        gi_wp2_with fail
        refine ⟨trivial, (CallsIn.inRound l (callsIn_wide.2 (unhide HK2))).mono ?_⟩
        rintro _ Wb ⟨rfl, hbb⟩
        have HIc := hide ((unhide HIa).step hbb)
        have HBb := hide ((unhide HBa).trans (hbb.mono (unhide HBa).size))
        clear hbb HK2 u0 u1
        gi_wp2_with fail
        refine ⟨⟨(unhide HBb).size, fun k o h1 h2 h3 => ((unhide HBb).block k (Array.getElem?_eq_some_iff.1 h2).1).trans h2⟩, Chg.of_below (unhide HBb), ?_⟩
        show PrI w Wb w1.heap.size w3.heap.size (w3.heap.size + 1) sz a n c ((pre ++ [(⟨e, he1, he2⟩ : Elem n x)]).foldl (fun t e => stepT (hasB (gW x)) sz t e.val) (Lib.decDigits sz ++ [58], []))
        rw [unhide HFs, unhide HSt]
        exact unhide HIc
      · rw [hen] at K2
        have HK2 := hide K2
        have HSt := hide (show stepT (hasB (gW x)) sz (T, C) e = (T ++ 45 :: Lib.decDigits e, C) by simp [stepT, hbg, hen])
        clear K2 hbg hen
        gi_wp2_with fail
        refine ⟨trivial, (CallsIn.inRound l (callsIn_wide.2 (unhide HK2))).mono ?_⟩
        rintro _ Wb ⟨rfl, hbb⟩
        have HIc := hide ((unhide HIa).step hbb)
        have HBb := hide ((unhide HBa).trans (hbb.mono (unhide HBa).size))
        clear hbb HK2 u0 u1 HIa HBa
        obtain ⟨sv, r1, r3⟩ := (unhide HIc).row
        obtain ⟨g, cap, rfl, hc1, hc2, hg1, hg2⟩ := own_slice r3 hT0
        have hcm : cap ≤ 9223372036854775807 := by unfold maxLen at hc2; omega
        have rc := cell_of_block r1 0
        simp at rc
        have rf := frozen_of_block r1 0
        have HR3 := hide r3
        have hwb : w1.heap.size ≤ Wb.heap.size := by have := (Array.getElem?_eq_some_iff.1 r1).1; omega
        clear r3
        gi_wp2_with (gi_at_builtin; refine wpListIn_append_own _ rfl _ _ 78 rfl w1.heap.size 5 i8 (.int .u8 0) 1 1 Tryd.underlying78 (unhide HI).1 (unhide HI).2.1 (unhide HI).2.2.1 (unhide HI).2.2.2 rfl (by decide) _ T.length (Lib.byteCells T) rfl ((unhide HR3).alloc _) ⟨Wb.heap.size, 0, none⟩ 1 1 [.int .u8 45] rfl rfl ?c1 ?c2 ?c3 ?c4 ?c5 ?_)
        case c1 =>
          intro j u hj
          match j, hj with
          | 0, hj => simp at hj; subst hj; simp [Addr.add]
          | (j + 1), hj => simp at hj
        case c2 => intro u hu; simp at hu; subst hu; rfl
        case c3 => unfold maxLen; omega
        case c4 => omega
        case c5 => simp; omega
        intro v5 W5 hown5 hg5 _
        have hb5 : Below w1.heap.size Wb W5 := ((Below.refl _ Wb).alloc hwb _).grown hg5 (by simp; omega) (fun j hj => (own_ge (unhide HR3) j hj).1)
        have ho5 : Lib.OthersKept 5 none Wb W5 := ((Lib.OthersKept.refl _ _ Wb).alloc _).grown hg5 (Lib.ownsRowF_kind (World.ownsRowF_of ((unhide HR3).alloc _)))
        have hbw5 : Below w.heap.size w W5 := (unhide HIc).bel.trans (hb5.mono (by omega))
        have hw5 := hb5.size
        have KA := (unhide HAi) w1.heap.size (T.length + 1) (e : Int) v5 (Lib.byteCells T ++ [.int .u8 45]) W5 (by omega) (by omega) hown5 (by omega) (by omega) (unhide HTab W5 hbw5)
        rw [hit] at KA
        have HKA := hide KA
        have HB5 := hide hb5
        have HO5 := hide ho5
        clear KA hb5 ho5 hown5 hg5 hbw5
        gi_wp2_with fail
        refine ⟨trivial, (CallsIn.inRound l (callsIn_wide.2 (unhide HKA))).mono ?_⟩
        rintro _ W6 ⟨v6, rfl, hown6, hb6, ho6⟩
        have hbT := (unhide HB5).trans hb6
        have hoT := (unhide HO5).trans ho6
        have hownT : W6.ownsRow w1.heap.size 5 1 v6 (T ++ 45 :: Lib.decDigits e).length (Lib.byteCells (T ++ 45 :: Lib.decDigits e)) := by
          have e1 : (T ++ 45 :: Lib.decDigits e).length = T.length + 1 + (Lib.decDigits e).length := by simp; omega
          have e2 : Lib.byteCells (T ++ 45 :: Lib.decDigits e) = Lib.byteCells T ++ [.int .u8 45] ++ Lib.byteCells (Lib.decDigits e) := by simp [Lib.byteCells]
          rw [e1, e2]
          exact hown6
        obtain ⟨g6, cap6, rfl, hc61, hc62, hg61, hg62⟩ := own_slice hownT (by simp; omega)
        have hcm6 : cap6 ≤ 9223372036854775807 := by unfold maxLen at hc62; omega
        have q1 := hoT _ _ r1 (by simp) (fun c fz e => by cases e)
        have rc6 := cell_of_block q1 0
        simp at rc6
        have rf6 := frozen_of_block q1 0
        have hkp := (unhide HIc).keep (n₀ := wf.heap.size) (sv := .slice (some ⟨g6, 0, none⟩) (T ++ 45 :: Lib.decDigits e).length cap6) hB1 hb12 (by omega) hn0 hbT hoT
        have hfn := (unhide HIc).fin hB1 hb12 (by omega) hbT hoT hownT
        have HKp := hide hkp
        have HFn := hide hfn
        have HSz := hide hc61
        obtain ⟨LT, hLT⟩ : ∃ L, (T ++ 45 :: Lib.decDigits e).length = L := ⟨_, rfl⟩
        rw [hLT] at HKp HFn hc61 ⊢
        clear hbT hoT hownT q1 hkp hfn hown6 hb6 ho6 HKA HB5 HO5 HSz rc rf hLT
        gi_wp2_with fail
        refine ⟨(show KeepsFrom wf.heap.size W Wb from ⟨(unhide HBb).size, fun k o h1 h2 h3 => ((unhide HBb).block k (Array.getElem?_eq_some_iff.1 h2).1).trans h2⟩).trans (unhide HKp).1, Chg.trans (Chg.of_below (unhide HBb)) (show KpZ (fun j => w.heap.size ≤ j ∧ j ≠ w4.heap.size) wf.heap.size Wb _ from by rw [unhide HW4]; exact (unhide HKp).2), ?_⟩
        show PrI w _ w1.heap.size w3.heap.size (w3.heap.size + 1) sz a n c ((pre ++ [(⟨e, he1, he2⟩ : Elem n x)]).foldl (fun t e => stepT (hasB (gW x)) sz t e.val) (Lib.decDigits sz ++ [58], []))
        rw [unhide HFs, unhide HSt]
        exact unhide HFn
    · rw [hbg] at HK1
      have HSt := hide (show stepT (hasB (gW x)) sz (T, C) e = (T ++ C ++ Lib.decDigits e, [44]) by simp [stepT, hbg])
      clear hbg
      gi_wp2_with fail
      refine ⟨trivial, (CallsIn.inRound l (callsIn_wide.2 (unhide HK1))).mono ?_⟩
      rintro _ Wb ⟨rfl, hbb⟩
      have HIc := hide ((unhide HIb).step hbb)
      have HBb := hide hbb
      clear hbb HK1 s0 s1
      obtain ⟨sv, r1, r3⟩ := (unhide HIc).row
      obtain ⟨g, cap, rfl, hc1, hc2, hg1, hg2⟩ := own_slice r3 hT0
      have hcm : cap ≤ 9223372036854775807 := by unfold maxLen at hc2; omega
      have rc := cell_of_block r1 0
      simp at rc
      have rf := frozen_of_block r1 0
      have r2 := (unhide HIc).ahd
      have ac := cell_of_block r2 0
      simp at ac
      have HR3 := hide r3
      have hwb : w1.heap.size ≤ Wb.heap.size := by have := (Array.getElem?_eq_some_iff.1 r1).1; omega
      have hCs := strL_size C
      obtain ⟨S, hS⟩ : ∃ S, strL C = S := ⟨_, rfl⟩
      rw [hS] at ac hCs r2
      have HS := hide hS
      clear r3 hS
      gi_wp2_with (gi_at_builtin; refine append_str_in _ rfl _ _ 78 9 rfl w1.heap.size 5 i8 Tryd.underlying78 Tryd.underlying9 (unhide HI).1 (unhide HI).2.1 (unhide HI).2.2.1 (unhide HI).2.2.2 _ T.length (Lib.byteCells T) rfl (unhide HR3) S rfl ?c1 ?c2 ?_)
      case c1 => rw [hCs]; omega
      case c2 => omega
      intro v5 W5 hown5 hg5
      have hb5 : Below w1.heap.size Wb W5 := (Below.refl _ Wb).grown hg5 hwb (fun j hj => (own_ge (unhide HR3) j hj).1)
      have ho5 : Lib.OthersKept 5 none Wb W5 := (Lib.OthersKept.refl _ _ Wb).grown hg5 (Lib.ownsRowF_kind (World.ownsRowF_of (unhide HR3)))
      have hown5' : W5.ownsRow w1.heap.size 5 1 v5 (T.length + C.length) (Lib.byteCells T ++ Lib.byteCells C) := by
        have e1 : Lib.strCells S = Lib.byteCells C := by rw [← unhide HS, Lib.strCells_eq]; simp [strL]
        rw [← e1]
        first | exact hown5 | (rw [← hCs]; exact hown5)
      have hbw5 : Below w.heap.size w W5 := (unhide HIc).bel.trans (hb5.mono (by omega))
      have hw5 := hb5.size
      have KA := (unhide HAi) w1.heap.size (T.length + C.length) (e : Int) v5 (Lib.byteCells T ++ Lib.byteCells C) W5 (by omega) (by omega) hown5' (by omega) (by omega) (unhide HTab W5 hbw5)
      rw [hit] at KA
      have HKA := hide KA
      have HB5 := hide hb5
      have HO5 := hide ho5
      clear KA hb5 ho5 hown5 hown5' hg5 hbw5
      gi_wp2_with fail
      refine ⟨trivial, (CallsIn.inRound l (callsIn_wide.2 (unhide HKA))).mono ?_⟩
      rintro _ W6 ⟨v6, rfl, hown6, hb6, ho6⟩
      have hbT := (unhide HB5).trans hb6
      have hoT := (unhide HO5).trans ho6
      have hownT : W6.ownsRow w1.heap.size 5 1 v6 (T ++ C ++ Lib.decDigits e).length (Lib.byteCells (T ++ C ++ Lib.decDigits e)) := by
        have e1 : (T ++ C ++ Lib.decDigits e).length = T.length + C.length + (Lib.decDigits e).length := by simp; try omega
        have e2 : Lib.byteCells (T ++ C ++ Lib.decDigits e) = Lib.byteCells T ++ Lib.byteCells C ++ Lib.byteCells (Lib.decDigits e) := by simp [Lib.byteCells]
        rw [e1, e2]
        exact hown6
      obtain ⟨g6, cap6, rfl, hc61, hc62, hg61, hg62⟩ := own_slice hownT (by simp; omega)
      have hcm6 : cap6 ≤ 9223372036854775807 := by unfold maxLen at hc62; omega
      have q1 := hoT _ _ r1 (by simp) (fun c fz e => by cases e)
      have q2 := hoT _ _ r2 (by simp) (fun c fz e => by cases e)
      have rc6 := cell_of_block q1 0
      simp at rc6
      have rf6 := frozen_of_block q1 0
      have ac6 := cell_of_block q2 0
      simp at ac6
      have af6 := frozen_of_block q2 0
      have HKp := hide ((unhide HIc).keep (n₀ := wf.heap.size) (sv := .slice (some ⟨g6, 0, none⟩) (T ++ C ++ Lib.decDigits e).length cap6) hB1 hb12 (by omega) hn0 hbT hoT)
      have HFn := hide (((unhide HIc).fin hB1 hb12 (by omega) hbT hoT hownT).comma [44] hB1 hb12 (by omega))
      obtain ⟨LT, hLT⟩ : ∃ L, (T ++ C ++ Lib.decDigits e).length = L := ⟨_, rfl⟩
      rw [hLT] at HKp HFn hc61 ⊢
      clear hbT hoT hownT q1 q2 hown6 hb6 ho6 HKA HB5 HO5 rc rf ac hLT
      gi_wp2_with fail
      refine ⟨((show KeepsFrom wf.heap.size W Wb from ⟨(unhide HBb).size, fun k o h1 h2 h3 => ((unhide HBb).block k (Array.getElem?_eq_some_iff.1 h2).1).trans h2⟩).trans (unhide HKp).1).trans ((KeepsOthers.setCell _ _ _).from _), Chg.trans (Chg.trans (Chg.of_below (unhide HBb)) (show KpZ (fun j => w.heap.size ≤ j ∧ j ≠ w4.heap.size) wf.heap.size Wb _ from by rw [unhide HW4]; exact (unhide HKp).2)) (Chg.of_set (S := fun k => (w.heap.size ≤ k ∧ k ≠ w4.heap.size) ∨ wf.heap.size ≤ k) _ _ _ _ (.inl ⟨by omega, by rw [unhide HW4]; omega⟩)), ?_⟩
      show PrI w _ w1.heap.size w3.heap.size (w3.heap.size + 1) sz a n c ((pre ++ [(⟨e, he1, he2⟩ : Elem n x)]).foldl (fun t e => stepT (hasB (gW x)) sz t e.val) (Lib.decDigits sz ++ [58], []))
      rw [unhide HFs, unhide HSt]
      exact unhide HFn
  case done =>
    rintro D ys W hD hys hI hK
    have hfd : ys.foldl (fun t e => stepT (hasB (gW x)) sz t e.val) (Lib.decDigits sz ++ [58], []) = ((Lib.decDigits sz ++ [58]) ++ rnT (hasB (gW x)) sz sz, commaT (hasB (gW x)) (64 * n)) := by
      have e1 : ys.foldl (fun t e => stepT (hasB (gW x)) sz t e.val) (Lib.decDigits sz ++ [58], []) = (ys.map (·.val)).foldl (stepT (hasB (gW x)) sz) (Lib.decDigits sz ++ [58], []) := by rw [List.foldl_map]
      rw [e1, hys, fold_rn]
      rw [rnT_top (P := hasB (gW x)) hsn (fun y h1 h2 => MayS.zero (unhide HM) y (by simpa using h1) (by rw [unhide HL]; exact h2))]
    rw [hfd] at hI
    have hpr : (prT sz x).1 = (Lib.decDigits sz ++ [58]) ++ rnT (hasB (gW x)) sz sz := by simp [prT, unhide HM]
    rw [← hpr] at hI
    obtain ⟨T, hT⟩ : ∃ T, (prT sz x).1 = T := ⟨_, rfl⟩
    rw [hT] at hI
    have HTT := hide hT
    have hT0 : 0 < T.length := by rw [← hT, hpr]; simp; omega
    obtain ⟨sv, r1, r3⟩ := hI.row
    simp only at r3
    obtain ⟨g, cap, rfl, hc1, hc2, hg1, hg2⟩ := own_slice r3 hT0
    have hcm : cap ≤ 9223372036854775807 := by unfold maxLen at hc2; omega
    have rc := cell_of_block r1 0
    simp at rc
    have hcv := conv_row r3
    have HBw := hide hI.bel
    clear r3 r1 hI hfd hpr hys HSeq hT
    obtain ⟨ST, hTL⟩ : ∃ ST, strL T = ST := ⟨_, rfl⟩
    rw [hTL] at hcv
    have HTL := hide hTL
    clear hTL
    gi_wp2_with fail
    refine ⟨by simp, .inl ⟨_, _, rfl, run_takeDeferred hK, ?_⟩⟩
    refine ⟨.tuple #[.string ST, .int .i64 0], by simp [results, Tryd.results19, go_sem]; try rfl, ?_, ?_⟩
    · rw [unhide HTT, unhide HTL]
    · exact (unhide HBw).trans (belowK_b (w := w) (Nat.le_refl _) W D _ _ (by omega) hK rfl rfl)
  case stop =>
    rintro D c pre W hD _ h
    exact h.elim

set_option maxHeartbeats 4000000 in
/-- bitset.Print, of all sets. -/
theorem sprint_any (ai : AIc) (s : Int) (a : Option Addr) (n c : Nat) (x : List Nat) (w : World) (h : SlW w a n c x) (o : OkW x) (hT : Tab64 w) (hP : Lib.TabBelow Tryd.prog w.heap.size w "internal/strconv.uint64pow10" .u64 Lib.pow10Tab) :
    Calls Tryd.prog 19 #[setV s a n c] w fun e w' => e = .returned (.tuple #[.string (strL (prT s x).1), .int .i64 (prT s x).2]) ∧ Below w.heap.size w w' := by
  cases m : MayS s x
  · obtain ⟨wa, hwa⟩ : ∃ x, w.alloc (.cells #[.int .i64 s, .slice a n c] 35) = x := ⟨_, rfl⟩
    have hba : Below w.heap.size w wa := by rw [← hwa]; exact (Below.refl _ _).alloc (Nat.le_refl _) _
    have tA : Two wa w.heap.size (.int .i64 s) (.slice a n c) := by rw [← hwa]; exact Two.made _ _ _ _
    have K := may_any s a n c x wa (h.below hba) o
    have a0 := tA.c0
    have a1 := tA.c1
    have HB := hide hba
    rw [m] at K
    have e0 : prT s x = ([], 61) := by simp [prT, m]
    rw [e0]
    unfold setV at K ⊢
    have HK := hide K
    clear K m e0 tA hba h o hT hP ai
    go_enter Tryd.func19, Tryd.ntmps19
    go_wp2_with fail
    refine (unhide HK).mono ?_
    rintro _ w1 ⟨rfl, hb1⟩
    have HB1 := hide ((unhide HB).trans (hb1.mono (unhide HB).size))
    clear hb1 HK
    go_wp2_with fail
    refine bodyPost_ret (by simp [results, Tryd.results19, go_sem]; try rfl) rfl ?_
    exact ⟨rfl, unhide HB1⟩
  · obtain ⟨sz, rfl, hsz⟩ := fitsI_nat (MayS.fits m)
    have e2 : (prT sz x).2 = 0 := by simp [prT, m]
    rw [e2]
    exact sprint_yes ai sz a n c x w h o hT hP m
end Go.Proofs.YtbendkndnojihabDoor
