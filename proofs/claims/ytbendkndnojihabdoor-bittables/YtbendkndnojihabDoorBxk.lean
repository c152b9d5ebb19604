/-
  LISTS OF SETS THAT GROW.
-/
import Derived.Test.YtbendkndnojihabDoorBxc
import Derived.Test.YtbendkndnojihabDoorBxz
import Derived.Test.YtbendkndnojihabDoorBxe
import Derived.Test.YtbendkndnojihabDoorBtm
namespace Go.Proofs.YtbendkndnojihabDoor
open Go.RowKit Go.Deep
set_option linter.unusedVariables false

/-- A set whose words begin at offset 0. -/
def SetC.Z (e : SetC) (w : World) : Prop := e.In w ∧ ∀ x, e.a = some x → x.off = 0
theorem SetC.Z.below {e : SetC} {w w' : World} (h : e.Z w) (k : Below w.heap.size w w') : e.Z w' := ⟨h.1.below k, h.2⟩
structure GrT (w wr : World) (v : Value) (T : List SetC) : Prop where
  nil : T.length = 0 → v = .slice none 0 0
  own : wr.ownsRow w.heap.size 35 2 v T.length (flatS T)
  ins : ∀ e ∈ T, e.Z wr
  bel : Below w.heap.size w wr
theorem GrT.start (w : World) : GrT w w (.slice none 0 0) [] := ⟨fun _ => rfl, World.ownsRow_nil _ _ _ _, (fun e he => by cases he), Below.refl _ _⟩
theorem GrT.below {w wr w1 : World} {v : Value} {T : List SetC} (h : GrT w wr v T) (hb : Below wr.heap.size wr w1) : GrT w w1 v T := by
  refine ⟨h.nil, ?_, fun e he => (h.ins e he).below hb, h.bel.trans (hb.mono h.bel.size)⟩
  rcases h.own with ⟨h1, h2 | ⟨g, cap, cur, e, q1, q2, q3⟩⟩
  · exact ⟨h1, .inl h2⟩
  · refine ⟨h1, .inr ⟨g, cap, cur, e, q1, ?_, q3⟩⟩
    rw [hb.block g]
    · exact q2
    · rcases Nat.lt_or_ge g wr.heap.size with hlt | hge
      · exact hlt
      · rw [Array.getElem?_eq_none hge] at q2; cases q2
/-- The row's block holds no words. -/
theorem GrT.apart {w wr : World} {v : Value} {T : List SetC} (h : GrT w wr v T) {t : SetC} (ht : t.Z wr) (h0 : 0 < t.n) (x : Addr) (hx : t.a = some x) : v.ownBlock ≠ some x.block := by
  intro hv
  rcases h.own.2 with ⟨e, hk⟩ | ⟨g, cap, cur, e, hb, hblk, h1, h2, h3, h4⟩
  · rw [e] at hv; cases hv
  · rw [e] at hv
    simp [Value.ownBlock] at hv
    subst hv
    obtain ⟨b', o', e', hc⟩ := ht.1.1.at h0
    rw [e'] at hx
    have hoff := ht.2 _ e'
    cases hx
    have ho : o' = 0 := hoff
    subst ho
    have c0 := hc 0 h0
    rw [Nat.zero_add, cell_of_block hblk] at c0
    by_cases hk : T.length = 0
    · have := h.nil hk
      rw [e] at this
      cases this
    · have f := (flatS_get T 0 (by omega)).1
      rw [← h4] at f
      have f2 : cur[0]? = some (.int .i64 (T.getD 0 .nul).s) := by
        simpa [List.getElem?_take, show 0 < T.length * 2 from by omega] using f
      rw [f2] at c0
      cases c0
/-- One more. -/
theorem GrT.step {w wr w1 w2 : World} {v v2 : Value} {T : List SetC} {t : SetC} (h : GrT w wr v T) (hb : Below wr.heap.size wr w1) (ht : t.Z w1) (hnz : v2 ≠ .slice none 0 0)
    (hg : (w1.alloc (.cells #[.int .i64 t.s, .slice t.a t.n t.c] 35)).grownBy w2 v.ownBlock) (hown : w2.ownsRow w.heap.size 35 2 v2 (T.length + 1) (flatS T ++ [.int .i64 t.s, .slice t.a t.n t.c])) : GrT w w2 v2 (T ++ [t]) := by
  have hal : Below w1.heap.size w1 (w1.alloc (.cells #[.int .i64 t.s, .slice t.a t.n t.c] 35)) := (Below.refl _ _).alloc (Nat.le_refl _) _
  have hlp := (h.below hb).below hal
  have hc := chg_grown hg
  have keep : ∀ u : SetC, u.Z (w1.alloc (.cells #[.int .i64 t.s, .slice t.a t.n t.c] 35)) → u.Z w2 := fun u hu =>
    ⟨⟨by
      by_cases h0 : 0 < u.n
      · exact hu.1.1.chg hc (fun x hx _ => hlp.apart hu h0 x hx)
      · have hs := hu.1.1
        have e0 : u.xs = [] := List.length_eq_zero_iff.1 (by rw [hs.len]; omega)
        exact ⟨hs.len, hs.le, hs.cap, .inl e0⟩, hu.1.2⟩, hu.2⟩
  refine ⟨fun hk => by simp at hk, by rw [flatS_append, List.length_append]; exact hown, fun e he => ?_, Below.grown hlp.bel hg hlp.bel.size (fun j hj => (own_ge h.own j hj).1)⟩
  rcases List.mem_append.1 he with c | c
  · exact keep e (hlp.ins e c)
  · rw [List.mem_singleton.1 c]; exact keep t (ht.below hal)
/-- What has grown, as a slice of sets. -/
theorem GrT.sl {w wr : World} {v : Value} {T : List SetC} (h : GrT w wr v T) (hl : T.length ≤ maxLen) : ∃ a c, v = .slice a T.length c ∧ SlS wr a T.length c T := by
  rcases h.own.2 with ⟨e, hk⟩ | ⟨g, cap, cur, e, q1, q2, q3, q4, q5, q6⟩
  · have ht : T = [] := by first | exact List.length_eq_zero_iff.1 hk | simpa using hk
    subst ht
    exact ⟨none, 0, e, ⟨rfl, Nat.le_refl _, Nat.zero_le _, .inl rfl, fun e he => by cases he⟩⟩
  · refine ⟨some ⟨g, 0, none⟩, cap, e, ⟨rfl, q3, q4, ?_, fun e he => (h.ins e he).1⟩⟩
    by_cases h0 : T = []
    · exact .inl h0
    · refine .inr ⟨g, 0, rfl, fun i hi => ?_⟩
      have hcell : ∀ j, j < T.length * 2 → wr.cell? ⟨g, j, none⟩ = (flatS T)[j]? := by
        intro j hj
        rw [cell_of_block q2, ← q6]
        simp [hj]
      have f := flatS_get T i hi
      rw [Nat.zero_add, hcell _ (by omega), hcell _ (by omega)]
      exact f
end Go.Proofs.YtbendkndnojihabDoor

namespace Go.Proofs.YtbendkndnojihabDoor
open Go.RowKit Go.Deep
set_option linter.unusedVariables false

structure GrB (w W : World) (Z : Nat) (s : Int) (T : List SetC) (v : Value) : Prop where
  own : W.ownsRow w.heap.size 35 2 v T.length (flatS T)
  two : Two W Z (.int .i64 s) v
  zne : v.ownBlock ≠ some Z
  sep : ∀ e ∈ T, ∀ x, e.a = some x → 0 < e.n → v.ownBlock ≠ some x.block ∧ x.block ≠ Z ∧ w.heap.size ≤ x.block
  ins : ∀ e ∈ T, e.In W
  zge : w.heap.size ≤ Z
  bel : Below w.heap.size w W
theorem GrB.below {w W W1 : World} {Z : Nat} {s : Int} {T : List SetC} {v : Value} (h : GrB w W Z s T v) (hb : Below W.heap.size W W1) : GrB w W1 Z s T v := by
  refine ⟨?_, h.two.keep hb, h.zne, h.sep, fun e he => (h.ins e he).below hb, h.zge, h.bel.trans (hb.mono h.bel.size)⟩
  rcases h.own with ⟨h1, h2 | ⟨g, cap, cur, e, q1, q2, q3⟩⟩
  · exact ⟨h1, .inl h2⟩
  · refine ⟨h1, .inr ⟨g, cap, cur, e, q1, ?_, q3⟩⟩
    rw [hb.block g]
    · exact q2
    · rcases Nat.lt_or_ge g W.heap.size with hlt | hge
      · exact hlt
      · rw [Array.getElem?_eq_none hge] at q2; cases q2
/-- Blocks that are not the table's are written. -/
theorem GrB.chg {w W W1 : World} {Z : Nat} {s : Int} {T : List SetC} {v : Value} {S : Nat → Prop} (h : GrB w W Z s T v) (hc : Chg S W W1) (hZ : ¬ S Z) (hv : ∀ k, v.ownBlock = some k → ¬ S k) (hw : ∀ e ∈ T, ∀ x, e.a = some x → 0 < e.n → ¬ S x.block) (hlow : ∀ k, S k → w.heap.size ≤ k) : GrB w W1 Z s T v := by
  refine ⟨?_, h.two.chg hc hZ, h.zne, h.sep, fun e he => ?_, h.zge, h.bel.trans (hc.below h.bel.size (fun k hk hs => by have := hlow k hs; omega))⟩
  · rcases h.own with ⟨h1, h2 | ⟨g, cap, cur, e, q1, q2, q3⟩⟩
    · exact ⟨h1, .inl h2⟩
    · refine ⟨h1, .inr ⟨g, cap, cur, e, q1, ?_, q3⟩⟩
      rw [hc.block g]
      · exact q2
      · rcases Nat.lt_or_ge g W.heap.size with hlt | hge
        · exact hlt
        · rw [Array.getElem?_eq_none hge] at q2; cases q2
      · exact hv g (by rw [e]; rfl)
  · have hs := (h.ins e he).1
    refine ⟨?_, (h.ins e he).2⟩
    by_cases h0 : 0 < e.n
    · exact hs.chg hc (fun x hx _ => hw e he x hx h0)
    · have e0 : e.xs = [] := List.length_eq_zero_iff.1 (by rw [hs.len]; omega)
      exact ⟨hs.len, hs.le, hs.cap, .inl e0⟩
theorem GrB.start {w W : World} {Z : Nat} {s : Int} (h : Two W Z (.int .i64 s) (.slice none 0 0)) (hZ : w.heap.size ≤ Z) (hb : Below w.heap.size w W) : GrB w W Z s [] (.slice none 0 0) :=
  ⟨World.ownsRow_nil _ _ _ _, h, by simp [Value.ownBlock], (fun e he => by cases he), (fun e he => by cases he), hZ, hb⟩
/-- One more, in new memory. -/
theorem GrB.step {w W w1 w2 : World} {Z : Nat} {s : Int} {T : List SetC} {v : Value} {t : SetC} {g n cap H : Nat} (h : GrB w W Z s T v) (hb : Below W.heap.size W w1) (ht : t.In w1) (hf : ∀ x, t.a = some x → W.heap.size ≤ x.block)
    (hg : (w1.alloc (.cells #[.int .i64 t.s, .slice t.a t.n t.c] 35)).grownBy w2 v.ownBlock) (hown : w2.ownsRow w.heap.size 35 2 (.slice (some ⟨g, 0, none⟩) n cap) (T.length + 1) (flatS T ++ [.int .i64 t.s, .slice t.a t.n t.c]))
    (hat : v.ownBlock = some g ∨ g = H) (hH : H = w1.heap.size + 1) : GrB w (w2.setCell ⟨Z, 1, none⟩ (.slice (some ⟨g, 0, none⟩) n cap)) Z s (T ++ [t]) (.slice (some ⟨g, 0, none⟩) n cap) := by
  have hal : Below w1.heap.size w1 (w1.alloc (.cells #[.int .i64 t.s, .slice t.a t.n t.c] 35)) := (Below.refl _ _).alloc (Nat.le_refl _) _
  have hlp := (h.below hb).below hal
  have hW := hb.size
  have hrow := own_ge h.own
  have hc := chg_grown hg
  have hZW := h.two.lt
  have hgZ : g ≠ Z := by
    rcases hat with e | e
    · intro x; exact h.zne (by rw [e, x])
    · omega
  have gB : v.ownBlock = some g → g < W.heap.size := fun e => (hrow g e).2
  have keepW : ∀ e ∈ T ++ [t], e.In (w1.alloc (.cells #[.int .i64 t.s, .slice t.a t.n t.c] 35)) ∧ ∀ x, e.a = some x → 0 < e.n → v.ownBlock ≠ some x.block ∧ x.block ≠ Z ∧ x.block < w1.heap.size ∧ w.heap.size ≤ x.block := by
    intro e he
    rcases List.mem_append.1 he with c | c
    · refine ⟨hlp.ins e c, fun x hx h0 => ⟨(h.sep e c x hx h0).1, (h.sep e c x hx h0).2.1, ?_, (h.sep e c x hx h0).2.2⟩⟩
      obtain ⟨b, o, e1, hcell⟩ := (h.ins e c).1.at h0
      rw [hx] at e1
      cases e1
      have := World.block_lt_of_cell? _ _ (hcell 0 h0)
      simp only at this ⊢
      omega
    · rw [List.mem_singleton.1 c]
      refine ⟨ht.below hal, fun x hx h0 => ?_⟩
      have hfx := hf x hx
      obtain ⟨b, o, e1, hcell⟩ := ht.1.at h0
      rw [hx] at e1
      cases e1
      have := World.block_lt_of_cell? _ _ (hcell 0 h0)
      have hbs := h.bel.size
      refine ⟨fun e => ?_, ?_, this, by omega⟩
      · have := (hrow _ e).2; omega
      · omega
  have tw2 : Two w2 Z (.int .i64 s) v := hlp.two.chg hc h.zne
  have hb2 : Below w.heap.size w w2 := Below.grown hlp.bel hg hlp.bel.size (fun j hj => (hrow j hj).1)
  have hcs : Chg (fun j => j = Z) w2 (w2.setCell ⟨Z, 1, none⟩ (.slice (some ⟨g, 0, none⟩) n cap)) := Chg.of_set (S := fun j => j = Z) _ _ _ _ rfl
  refine ⟨?_, ⟨?_, World.cell?_setCell_same _ _ _ tw2.c1, by rw [World.frozen?_setCell]; exact tw2.f0, by rw [World.frozen?_setCell]; exact tw2.f1⟩, by simp [Value.ownBlock]; exact hgZ, ?_, ?_, h.zge, hb2.setCell (p := ⟨Z, 1, none⟩) h.zge _⟩
  · rw [flatS_append, List.length_append]
    rcases hown with ⟨h1, h2 | ⟨g', cap', cur, e, q1, q2, q3⟩⟩
    · exact ⟨h1, .inl h2⟩
    · refine ⟨h1, .inr ⟨g', cap', cur, e, q1, ?_, q3⟩⟩
      cases e
      rw [hcs.block g]
      · exact q2
      · rcases Nat.lt_or_ge g w2.heap.size with hlt | hge
        · exact hlt
        · rw [Array.getElem?_eq_none hge] at q2; cases q2
      · exact hgZ
  · rw [World.cell?_setCell_other _ _ _ _ (by simp)]
    exact tw2.c0
  · intro e he x hx h0
    obtain ⟨_, k⟩ := keepW e he
    have k := k x hx h0
    refine ⟨?_, k.2.1, k.2.2.2⟩
    simp only [Value.ownBlock]
    intro hh
    have hgx : g = x.block := by simpa using hh
    rcases hat with e1 | e1
    · exact k.1 (by rw [e1, hgx])
    · omega
  · intro e he
    obtain ⟨k1, k2⟩ := keepW e he
    refine ⟨?_, k1.2⟩
    by_cases h0 : 0 < e.n
    · exact (k1.1.chg hc (fun x hx _ => (k2 x hx h0).1)).chg hcs (fun x hx _ => (k2 x hx h0).2.1)
    · have e0 : e.xs = [] := List.length_eq_zero_iff.1 (by rw [k1.1.len]; omega)
      exact ⟨k1.1.len, k1.1.le, k1.1.cap, .inl e0⟩
theorem two_ones (s : Int) (a : Option Addr) (n c : Nat) : ∀ u ∈ [Value.int .i64 s, Value.slice a n c], u.oneCell' = true := by
  intro u hu
  simp at hu
  rcases hu with rfl | rfl <;> rfl
theorem GrB.app {w W w2 : World} {Z : Nat} {s : Int} {T : List SetC} {v : Value} {o : Obj} (h : GrB w W Z s T v) (hg : (W.alloc o).grownBy w2 v.ownBlock) : w2.cell? ⟨Z, 1, none⟩ = some v ∧ w2.frozen? ⟨Z, 1, none⟩ = false := by
  have t := (h.two.keep ((Below.refl W.heap.size W).alloc (Nat.le_refl _) o)).chg (chg_grown hg) h.zne
  exact ⟨t.c1, t.f1⟩
/-- What Of makes of a row of yes and no. -/
theorem of_row {n b : Nat} {g : Nat → Bool} {W w' : World} (h : FnB W b 0 n g) (hb : Below W.heap.size W w') (hn : n ≤ 4096) (hg : ∀ x, n ≤ x → g x = false) :
    Calls Tryd.prog 60 #[.slice (some ⟨b, 0, none⟩) n n] w' fun e w5 => ∃ a n' c, e = .returned (.agg #[.int .i64 (n : Int), .slice a n' c]) ∧ SlW w5 a n' c (wordsL n g) ∧ OkW (wordsL n g) ∧ (∀ x, a = some x → W.heap.size ≤ x.block) ∧ Below w'.heap.size w' w5 ∧ Below W.heap.size W w5 := by
  refine (of_any (some ⟨b, 0, none⟩) n n (lstG g n) w' ((h.below hb).sl (Nat.le_refl _) (by unfold maxLen; omega)) hn).mono ?_
  rintro _ w5 ⟨v, rfl, a, n', c, rfl, hs, hf, hb5⟩
  have e : bitsL (lstG g n) = wordsL n g := by
    rw [bits_fn]
    refine wordsL_congr (fun x _ => ?_)
    by_cases c : x < n
    · simp [c]
    · rw [hg x (by omega)]; simp
  rw [e] at hs
  exact ⟨a, n', c, rfl, hs, (Good.mk' hg hn).ok, fun x hx => Nat.le_trans hb.size (hf x hx), hb5, hb.trans (hb5.mono hb.size)⟩
theorem GrB.sl {w W : World} {Z : Nat} {s : Int} {T : List SetC} {v : Value} (h : GrB w W Z s T v) : ∃ a c, v = .slice a T.length c ∧ SlS W a T.length c T := by
  rcases h.own.2 with ⟨e, hk⟩ | ⟨g, cap, cur, e, q1, q2, q3, q4, q5, q6⟩
  · have ht : T = [] := by first | exact List.length_eq_zero_iff.1 hk | simpa using hk
    subst ht
    exact ⟨none, 0, e, ⟨rfl, Nat.le_refl _, Nat.zero_le _, .inl rfl, fun e he => by cases he⟩⟩
  · refine ⟨some ⟨g, 0, none⟩, cap, e, ⟨rfl, q3, q4, ?_, h.ins⟩⟩
    by_cases h0 : T = []
    · exact .inl h0
    · refine .inr ⟨g, 0, rfl, fun i hi => ?_⟩
      have hcell : ∀ j, j < T.length * 2 → W.cell? ⟨g, j, none⟩ = (flatS T)[j]? := by
        intro j hj
        rw [cell_of_block q2, ← q6]
        simp [hj]
      have f := flatS_get T i hi
      rw [Nat.zero_add, hcell _ (by omega), hcell _ (by omega)]
      exact f
/-- What has grown is answered: the answer's place R is written. -/
theorem GrB.res {w0 w W : World} {Z R : Nat} {sz n : Nat} {T : List SetC} {v : Value} {P : Nat → Nat → Bool} (h : GrB w W Z sz T v) (h0 : Below w0.heap.size w0 w) (hl : T.length = n) (hk : T.map SetC.key = tabK sz n P) (hR : w0.heap.size ≤ R) (hRl : R < w.heap.size) :
    ∃ a c, v = .slice a n c ∧ ResN w0 ((W.setCell ⟨R, 0, none⟩ (.int .i64 sz)).setCell ⟨R, 1, none⟩ v) sz n (tabK sz n P) 0 (.returned (.tuple #[.agg #[.int .i64 sz, v], .int .i64 0])) := by
  obtain ⟨a, c, e, hs⟩ := h.sl
  subst hl
  refine ⟨a, c, e, a, c, T, by rw [e]; rfl, ?_, hk, two_below (h0.trans (h.bel.mono h0.size)) R hR _ _⟩
  have hc := two_chg W R (.int .i64 sz) v
  refine ⟨hs.len, hs.le, hs.cap, ?_, fun t ht => ?_⟩
  · rcases hs.cells with x | ⟨b, off, x, k⟩
    · exact .inl x
    · refine .inr ⟨b, off, x, fun i hi => ?_⟩
      have hb : b ≠ R := by
        have := (own_ge h.own b (by rw [e, x]; rfl)).1
        omega
      exact ⟨hc.cell hb (k i hi).1, hc.cell hb (k i hi).2⟩
  · refine ⟨?_, (hs.all t ht).2⟩
    by_cases hn : 0 < t.n
    · exact (hs.all t ht).1.chg hc (fun x hx _ => by have := (h.sep t ht x hx hn).2.2; omega)
    · have e0 : t.xs = [] := List.length_eq_zero_iff.1 (by rw [(hs.all t ht).1.len]; omega)
      exact ⟨(hs.all t ht).1.len, (hs.all t ht).1.le, (hs.all t ht).1.cap, .inl e0⟩
end Go.Proofs.YtbendkndnojihabDoor
