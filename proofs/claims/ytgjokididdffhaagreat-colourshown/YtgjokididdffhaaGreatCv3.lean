/- Cu7 -/
import Derived.Test.YtgjokididdffhaaGreatCxd
import Derived.Test.YtgjokididdffhaaGreatCv2
import Derived.Test.YtgjokididdffhaaGreatCg1
namespace Go.Proofs.YtgjokididdffhaaGreat
open Go.RowKit Go.Deep
set_option linter.unusedVariables false
theorem FrC.grow {X o : Nat} {a b c : World} (h : FrC X o a b) (k : Chg (fun j => a.heap.size ≤ j) b c) (hX : X < a.heap.size) : FrC X o a c :=
  ⟨h.chg.then2 k (fun j hj e => by have e' : a.heap.size ≤ j := e; omega), fun i hi => by
    have hb := k.block X (Nat.lt_of_lt_of_le hX h.chg.size) (fun e => by have e' : a.heap.size ≤ X := e; omega)
    have h1 := h.fr i hi
    exact ⟨by rw [← h1.1]; unfold World.cell?; rw [hb], by rw [← h1.2]; unfold World.frozen?; rw [hb]⟩⟩
theorem own_hold {w : World} {base n : Nat} {v : Value} {xs : List Int} (h : w.ownsRow base 3 1 v n (valsI xs)) (hn : 0 < n) : ∃ g cap, v = .slice (some ⟨g, 0, none⟩) n cap ∧ n ≤ cap ∧ base ≤ g ∧ g < w.heap.size ∧ Sort.Holds (Value.int .i64) w g 0 xs.toArray := by
  have hl : xs.length = n := by have := h.1; simpa [valsI] using this
  rcases h.2 with ⟨h2, h3⟩ | ⟨b, cap, cur, rfl, h4, h5, h6, h7, h8, h9⟩
  · exfalso; omega
  · refine ⟨b, cap, rfl, h6, h4, (Array.getElem?_eq_some_iff.1 h5).1, fun j hj => ?_⟩
    have hj' : j < n := by simp at hj; omega
    refine ⟨?_, by simp [World.frozen?, h5]⟩
    rw [Nat.zero_add, cell_of_block h5]
    have : (cur.toList.take (n * 1))[j]? = (valsI xs)[j]? := by rw [h9]
    rw [List.getElem?_take_of_lt (by omega)] at this
    rw [← Array.getElem?_toList, this]
    simp [valsI, show j < xs.length by omega]
theorem chg_put {enc : Int → Value} (w : World) (n blk off : Nat) (d : Array Int) : Chg (fun j => j = blk) w (Sort.putRow enc (Sort.ahead w n) blk off d) :=
  ⟨rfl, rfl, rfl, by simp, fun k hk hs => by
    show (w.heap.modify blk _)[k]? = _
    rw [Array.getElem?_modify, if_neg (fun e => hs e.symm)]⟩
theorem chg_growS (w : World) (os : Array Obj) : Chg (fun _ => False) w (Sort.grow w os) :=
  ⟨rfl, rfl, rfl, by simp, fun k hk _ => Sort.heap_grow_old w os hk⟩
set_option maxRecDepth 100000 in
theorem csort_own (g n cap : Nat) (zs : List Int) (w : World) (hl : zs.length = n) (hn : n ≤ 128) (hH : Sort.Holds (Value.int .i64) w g 0 zs.toArray) (hg : g < w.heap.size) :
    Calls Tryz.prog 132 #[.slice (some ⟨g, 0, none⟩) n cap] w fun e w' => (∃ z, e = .returned z) ∧ Sort.Holds (Value.int .i64) w' g 0 (zs.mergeSort fun x y => decide (x ≤ y)).toArray ∧ Chg (fun j => j = g) w w' := by
  subst hl
  refine (ssort_int g 0 cap zs w hH hg (by omega)).mono ?_
  rintro e w' ⟨rfl, q, os, rfl⟩
  refine ⟨⟨_, rfl⟩, ?_, (chg_put w q g 0 _).trans ((chg_growS _ os).mono (fun _ _ x => x.elim))⟩
  exact Sort.holds_grow _ _ os g 0 _ (by simpa using hg) (Sort.holds_putRow _ _ g 0 zs.toArray _ (Sort.holds_ahead _ w q g 0 _ hH) (by simp [List.length_mergeSort]))
end Go.Proofs.YtgjokididdffhaaGreat
