/-
  sloperef3.after, form: their contracts.
-/
import Derived.Test.YtbendkndnojihaaByt
namespace Go.Proofs.Ytbendkndnojihaa
open Go.RowKit Go.Deep
set_option linter.unusedVariables false

theorem Try.info_nr : (Try.prog.info? 84).map (fun i => (i.zero, i.size, i.bytes)) = some (some (.agg #[.int .i64 0, .int .i64 0, .int .u8 0]), 3, 24) := by kernel_rfl
def flatR : List Nr → List Value
  | [] => []
  | e :: l => .int .i64 (e.1 : Int) :: .int .i64 (e.2.1 : Int) :: .int .u8 (e.2.2 : Int) :: flatR l
theorem flatR_append : ∀ (l m : List Nr), flatR (l ++ m) = flatR l ++ flatR m
  | [], m => rfl
  | e :: l, m => by simp [flatR, flatR_append l m]
theorem flatR_len : ∀ l : List Nr, (flatR l).length = l.length * 3
  | [] => rfl
  | e :: l => by simp [flatR, flatR_len l]; omega
theorem after_any (t c : Nat) (w : World) (ht : t ≤ 2) (hc : c < 256) : Calls Try.prog 78 #[.int .i64 (t : Int), .int .u8 (c : Int)] w fun e w' => e = .returned (.bool (aftB t c)) ∧ w' = w := by
  have e0 : ((c : Int) == 58) = (c == 58) := by rw [Bool.eq_iff_iff]; simp; omega
  have e1 : ((c : Int) == 44) = (c == 44) := by rw [Bool.eq_iff_iff]; simp; omega
  have e2 : ((c : Int) == 45) = (c == 45) := by rw [Bool.eq_iff_iff]; simp; omega
  obtain ⟨r, hr⟩ : ∃ r, aftB t c = r := ⟨_, rfl⟩
  have HR := hide hr
  rw [hr]
  clear hr
  match t, ht with
  | 0, _ =>
    have hE : r = (c == 58) := by rw [← unhide HR]; rfl
    cases h0 : (c == 58)
    all_goals
      rw [h0] at e0 hE
      subst hE
      clear e1 e2 HR h0
      go_enter Try.func78, Try.ntmps78
      go_wp2_with fail
      go_ret
      exact ⟨rfl, rfl⟩
  | 1, _ =>
    have hE : r = ((c == 44) || (c == 45)) := by rw [← unhide HR]; rfl
    cases h0 : (c == 44)
    all_goals
      cases h1 : (c == 45)
      all_goals
        rw [h0] at e1
        rw [h1] at e2
        rw [h0, h1] at hE
        simp only [Bool.or_true, Bool.or_false] at hE
        subst hE
        clear e0 HR h0 h1
        go_enter Try.func78, Try.ntmps78
        go_wp2_with fail
        go_ret
        exact ⟨rfl, rfl⟩
  | 2, _ =>
    have hE : r = (c == 44) := by rw [← unhide HR]; rfl
    cases h0 : (c == 44)
    all_goals
      rw [h0] at e1 hE
      subst hE
      clear e0 e2 HR h0
      go_enter Try.func78, Try.ntmps78
      go_wp2_with fail
      go_ret
      exact ⟨rfl, rfl⟩
/-- What form carries along: its number in a box, its list in a row of its own. -/
structure FmI (w wr : World) (V A B : Nat) (l : List Nr) (v : Value) : Prop where
  tn : Thr wr w.heap.size (.int .i64 (V : Int)) (.int .i64 (A : Int)) (.int .u8 (B : Int))
  own : wr.ownsRow (w.heap.size + 1) 84 3 v l.length (flatR l)
  bel : Below w.heap.size w wr
theorem FmI.below {w wr w2 : World} {V A B : Nat} {l : List Nr} {v : Value} (h : FmI w wr V A B l v) (hb : Below wr.heap.size wr w2) : FmI w w2 V A B l v :=
  ⟨h.tn.keep hb, own_chgN h.own (Chg.of_below (S := fun _ => False) hb) (fun _ _ x => x), h.bel.trans (hb.mono h.bel.size)⟩
/-- A cell of the box is written. -/
theorem FmI.put {w wr : World} {V A B V2 A2 B2 : Nat} {l : List Nr} {v : Value} (h : FmI w wr V A B l v) (W : World) (ht : Thr W w.heap.size (.int .i64 (V2 : Int)) (.int .i64 (A2 : Int)) (.int .u8 (B2 : Int))) (hc : Chg (fun j => j = w.heap.size) wr W) (hb : Below w.heap.size w W) : FmI w W V2 A2 B2 l v :=
  ⟨ht, own_chgN h.own hc (fun k hk => by have := (own_ge h.own k hk).1; omega), hb⟩
theorem FmI.val {w wr : World} {V A B : Nat} {l : List Nr} {v : Value} (h : FmI w wr V A B l v) (V2 : Nat) : FmI w (wr.setCell ⟨w.heap.size, 0, none⟩ (.int .i64 (V2 : Int))) V2 A B l v :=
  h.put _ (h.tn.put0 _) (Chg.of_set (S := fun j => j = w.heap.size) _ _ _ _ rfl) (h.bel.setCell (p := ⟨w.heap.size, 0, none⟩) (Nat.le_refl _) _)
theorem Thr.put2 {w : World} {R : Nat} {v0 v1 v2 : Value} (h : Thr w R v0 v1 v2) (u : Value) : Thr (w.setCell ⟨R, 2, none⟩ u) R v0 v1 u :=
  ⟨by rw [World.cell?_setCell_other _ _ _ _ (by simp)]; exact h.c0, by rw [World.cell?_setCell_other _ _ _ _ (by simp)]; exact h.c1, World.cell?_setCell_same _ _ _ h.c2, by rw [World.frozen?_setCell]; exact h.f0, by rw [World.frozen?_setCell]; exact h.f1, by rw [World.frozen?_setCell]; exact h.f2⟩
theorem FmI.beh {w wr : World} {V A B : Nat} {l : List Nr} {v : Value} (h : FmI w wr V A B l v) (B2 : Nat) : FmI w (wr.setCell ⟨w.heap.size, 2, none⟩ (.int .u8 (B2 : Int))) V A B2 l v :=
  h.put _ (h.tn.put2 _) (Chg.of_set (S := fun j => j = w.heap.size) _ _ _ _ rfl) (h.bel.setCell (p := ⟨w.heap.size, 2, none⟩) (Nat.le_refl _) _)
theorem FmI.all {w wr : World} {V A B : Nat} {l : List Nr} {v : Value} (h : FmI w wr V A B l v) (V2 A2 B2 : Nat) : FmI w (((wr.setCell ⟨w.heap.size, 0, none⟩ (.int .i64 (V2 : Int))).setCell ⟨w.heap.size, 1, none⟩ (.int .i64 (A2 : Int))).setCell ⟨w.heap.size, 2, none⟩ (.int .u8 (B2 : Int))) V2 A2 B2 l v :=
  h.put _ (h.tn.all _ _ _) (((Chg.of_set (S := fun j => j = w.heap.size) _ _ _ _ rfl).trans (Chg.of_set (S := fun j => j = w.heap.size) _ _ _ _ rfl)).trans (Chg.of_set (S := fun j => j = w.heap.size) _ _ _ _ rfl)) (((h.bel.setCell (p := ⟨w.heap.size, 0, none⟩) (Nat.le_refl _) _).setCell (p := ⟨w.heap.size, 1, none⟩) (Nat.le_refl _) _).setCell (p := ⟨w.heap.size, 2, none⟩) (Nat.le_refl _) _)
/-- One more number. -/
theorem FmI.app {w wr w2 : World} {V A B : Nat} {l : List Nr} {v v2 : Value} {e : Nr} {o : Obj} (h : FmI w wr V A B l v) (hg : (wr.alloc o).grownBy w2 v.ownBlock) (hown : w2.ownsRow (w.heap.size + 1) 84 3 v2 (l.length + 1) (flatR l ++ [.int .i64 (e.1 : Int), .int .i64 (e.2.1 : Int), .int .u8 (e.2.2 : Int)])) : FmI w w2 V A B (l ++ [e]) v2 := by
  have hal := h.below ((Below.refl wr.heap.size wr).alloc (Nat.le_refl _) o)
  refine ⟨hal.tn.chg (chg_grown hg) (fun hh => by have := (own_ge h.own _ hh).1; omega), ?_, ?_⟩
  · rw [flatR_append, List.length_append]
    exact hown
  · exact (Chg.grown (Chg.of_below (S := fun _ => False) hal.bel) hg (fun k hk => by have := (own_ge h.own k hk).1; omega)).below (Nat.le_refl _) (fun _ _ x => x)
theorem own_shape {w : World} {B : Nat} {e : TypeId} {sz : Nat} {v : Value} {n : Nat} {xs : List Value} (h : w.ownsRow B e sz v n xs) : ∃ a c, v = .slice a n c := by
  rcases h.2 with ⟨e1, hk⟩ | ⟨g, cap, cur, e1, q⟩
  · exact ⟨none, 0, by rw [e1, hk]⟩
  · exact ⟨_, _, e1⟩
theorem own_down {w : World} {B C : Nat} {e : TypeId} {sz : Nat} {v : Value} {n : Nat} {xs : List Value} (h : w.ownsRow B e sz v n xs) (hC : C ≤ B) : w.ownsRow C e sz v n xs := by
  rcases h with ⟨h1, h2 | ⟨g, cap, cur, e1, q1, q2⟩⟩
  · exact ⟨h1, .inl h2⟩
  · exact ⟨h1, .inr ⟨g, cap, cur, e1, Nat.le_trans hC q1, q2⟩⟩
end Go.Proofs.Ytbendkndnojihaa
