/-
  LISTS OF SETS THAT GROW.
-/
import Derived.Test.YtbendkndnojihabDoorBxc
import Derived.Test.YtbendkndnojihabDoorBxz
namespace Go.Proofs.YtbendkndnojihabDoor
open Go.RowKit Go.Deep
set_option linter.unusedVariables false

/-- A set whose words begin at offset 0. -/
def SetC.Z (e : SetC) (w : World) : Prop := e.In w ∧ ∀ x, e.a = some x → x.off = 0
theorem SetC.Z.below {e : SetC} {w w' : World} (h : e.Z w) (k : Below w.heap.size w w') : e.Z w' := ⟨h.1.below k, h.2⟩
structure GrT (w wr : World) (v : Value) (T : List SetC) : Prop where
  nil : T.length = 0 → v = .slice none 0 0
  own : wr.ownsRow w.heap.size 35 2 v T.length (flatS T)
  ins : ∀ e ∈ T, e.Z wr
  bel : Below w.heap.size w wr
theorem GrT.start (w : World) : GrT w w (.slice none 0 0) [] := ⟨fun _ => rfl, World.ownsRow_nil _ _ _ _, (fun e he => by cases he), Below.refl _ _⟩
theorem GrT.below {w wr w1 : World} {v : Value} {T : List SetC} (h : GrT w wr v T) (hb : Below wr.heap.size wr w1) : GrT w w1 v T := by
  refine ⟨h.nil, ?_, fun e he => (h.ins e he).below hb, h.bel.trans (hb.mono h.bel.size)⟩
  rcases h.own with ⟨h1, h2 | ⟨g, cap, cur, e, q1, q2, q3⟩⟩
  · exact ⟨h1, .inl h2⟩
  · refine ⟨h1, .inr ⟨g, cap, cur, e, q1, ?_, q3⟩⟩
    rw [hb.block g]
    · exact q2
    · rcases Nat.lt_or_ge g wr.heap.size with hlt | hge
      · exact hlt
      · rw [Array.getElem?_eq_none hge] at q2; cases q2
/-- The row's block holds no words. -/
theorem GrT.apart {w wr : World} {v : Value} {T : List SetC} (h : GrT w wr v T) {t : SetC} (ht : t.Z wr) (h0 : 0 < t.n) (x : Addr) (hx : t.a = some x) : v.ownBlock ≠ some x.block := by
  intro hv
  rcases h.own.2 with ⟨e, hk⟩ | ⟨g, cap, cur, e, hb, hblk, h1, h2, h3, h4⟩
  · rw [e] at hv; cases hv
  · rw [e] at hv
    simp [Value.ownBlock] at hv
    subst hv
    obtain ⟨b', o', e', hc⟩ := ht.1.1.at h0
    rw [e'] at hx
    have hoff := ht.2 _ e'
    cases hx
    have ho : o' = 0 := hoff
    subst ho
    have c0 := hc 0 h0
    rw [Nat.zero_add, cell_of_block hblk] at c0
    by_cases hk : T.length = 0
    · have := h.nil hk
      rw [e] at this
      cases this
    · have f := (flatS_get T 0 (by omega)).1
      rw [← h4] at f
      have f2 : cur[0]? = some (.int .i64 (T.getD 0 .nul).s) := by
        simpa [List.getElem?_take, show 0 < T.length * 2 from by omega] using f
      rw [f2] at c0
      cases c0
/-- One more. -/
theorem GrT.step {w wr w1 w2 : World} {v v2 : Value} {T : List SetC} {t : SetC} (h : GrT w wr v T) (hb : Below wr.heap.size wr w1) (ht : t.Z w1) (hnz : v2 ≠ .slice none 0 0)
    (hg : (w1.alloc (.cells #[.int .i64 t.s, .slice t.a t.n t.c] 35)).grownBy w2 v.ownBlock) (hown : w2.ownsRow w.heap.size 35 2 v2 (T.length + 1) (flatS T ++ [.int .i64 t.s, .slice t.a t.n t.c])) : GrT w w2 v2 (T ++ [t]) := by
  have hal : Below w1.heap.size w1 (w1.alloc (.cells #[.int .i64 t.s, .slice t.a t.n t.c] 35)) := (Below.refl _ _).alloc (Nat.le_refl _) _
  have hlp := (h.below hb).below hal
  have hc := chg_grown hg
  have keep : ∀ u : SetC, u.Z (w1.alloc (.cells #[.int .i64 t.s, .slice t.a t.n t.c] 35)) → u.Z w2 := fun u hu =>
    ⟨⟨by
      by_cases h0 : 0 < u.n
      · exact hu.1.1.chg hc (fun x hx _ => hlp.apart hu h0 x hx)
      · have hs := hu.1.1
        have e0 : u.xs = [] := List.length_eq_zero_iff.1 (by rw [hs.len]; omega)
        exact ⟨hs.len, hs.le, hs.cap, .inl e0⟩, hu.1.2⟩, hu.2⟩
  refine ⟨fun hk => by simp at hk, by rw [flatS_append, List.length_append]; exact hown, fun e he => ?_, Below.grown hlp.bel hg hlp.bel.size (fun j hj => (own_ge h.own j hj).1)⟩
  rcases List.mem_append.1 he with c | c
  · exact keep e (hlp.ins e c)
  · rw [List.mem_singleton.1 c]; exact keep t (ht.below hal)
/-- What has grown, as a slice of sets. -/
theorem GrT.sl {w wr : World} {v : Value} {T : List SetC} (h : GrT w wr v T) (hl : T.length ≤ maxLen) : ∃ a c, v = .slice a T.length c ∧ SlS wr a T.length c T := by
  rcases h.own.2 with ⟨e, hk⟩ | ⟨g, cap, cur, e, q1, q2, q3, q4, q5, q6⟩
  · have ht : T = [] := by first | exact List.length_eq_zero_iff.1 hk | simpa using hk
    subst ht
    exact ⟨none, 0, e, ⟨rfl, Nat.le_refl _, Nat.zero_le _, .inl rfl, fun e he => by cases he⟩⟩
  · refine ⟨some ⟨g, 0, none⟩, cap, e, ⟨rfl, q3, q4, ?_, fun e he => (h.ins e he).1⟩⟩
    by_cases h0 : T = []
    · exact .inl h0
    · refine .inr ⟨g, 0, rfl, fun i hi => ?_⟩
      have hcell : ∀ j, j < T.length * 2 → wr.cell? ⟨g, j, none⟩ = (flatS T)[j]? := by
        intro j hj
        rw [cell_of_block q2, ← q6]
        simp [hj]
      have f := flatS_get T i hi
      rw [Nat.zero_add, hcell _ (by omega), hcell _ (by omega)]
      exact f
end Go.Proofs.YtbendkndnojihabDoor
