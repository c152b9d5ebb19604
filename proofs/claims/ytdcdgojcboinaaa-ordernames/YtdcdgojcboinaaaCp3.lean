/-
  ORDERS: buckets where they lie; slices.Delete and slices.Insert of one number: contracts.
-/
import Derived.Test.YtdcdgojcboinaaaCp2
namespace Go.Proofs.Ytdcdgojcboinaaa
open Go.Shelf Go.RowKit Go.Deep
set_option linter.unusedVariables false
variable {A : Nat → Prop}

/-- A list with room behind it, at a place of a block. -/
structure BkC (W : World) (g o cap : Nat) (xs : List Int) : Prop where
  len : xs.length ≤ cap
  big : cap ≤ maxLen
  has : ∀ j, j < cap → (W.cell? ⟨g, o + j, none⟩).isSome = true ∧ W.frozen? ⟨g, o + j, none⟩ = false
  val : ∀ j, j < xs.length → W.cell? ⟨g, o + j, none⟩ = some (.int .i64 (xs.getD j 0))
  lt : g < W.heap.size
/-- A bucket: none, or such a list from block t on. -/
def BkR (A : Nat → Prop) (W : World) (t : Nat) (v : Value) (xs : List Int) : Prop := (v = .slice none 0 0 ∧ xs = []) ∨ ∃ g o cap, v = .slice (some ⟨g, o, none⟩) xs.length cap ∧ (t ≤ g ∧ ¬ A g) ∧ BkC W g o cap xs
theorem BkC.chg {S : Nat → Prop} {W W' : World} {g o cap : Nat} {xs : List Int} (h : BkC W g o cap xs) (k : Chg S W W') (hs : ¬ S g) : BkC W' g o cap xs := by
  have e : ∀ j, W'.cell? ⟨g, j, none⟩ = W.cell? ⟨g, j, none⟩ := fun j => World.cell?_of_block (k.block g h.lt hs)
  exact ⟨h.len, h.big, fun j hj => ⟨by rw [e]; exact (h.has j hj).1, by rw [k.frzP h.lt hs]; exact (h.has j hj).2⟩, fun j hj => by rw [e]; exact h.val j hj, Nat.lt_of_lt_of_le h.lt k.size⟩
theorem BkR.chg {S : Nat → Prop} {W W' : World} {t : Nat} {v : Value} {xs : List Int} (h : BkR A W t v xs) (k : Chg S W W') (hs : ∀ j, v.ownBlock = some j → ¬ S j) : BkR A W' t v xs := by
  rcases h with h | ⟨g, o, cap, e, ht, hc⟩
  · exact .inl h
  · exact .inr ⟨g, o, cap, e, ht, hc.chg k (hs g (by rw [e]; rfl))⟩
theorem BkR.ge {W : World} {t : Nat} {v : Value} {xs : List Int} (h : BkR A W t v xs) : ∀ j, v.ownBlock = some j → t ≤ j ∧ j < W.heap.size := by
  intro j hj
  rcases h with ⟨e, _⟩ | ⟨g, o, cap, e, ht, hc⟩
  · rw [e] at hj; simp [Value.ownBlock] at hj
  · rw [e] at hj
    have : g = j := by simpa [Value.ownBlock] using hj
    subst this
    exact ⟨ht.1, hc.lt⟩
theorem BkR.na {W : World} {t : Nat} {v : Value} {xs : List Int} (h : BkR A W t v xs) : ∀ j, v.ownBlock = some j → ¬ A j := by
  intro j hj
  rcases h with ⟨e, _⟩ | ⟨g, o, cap, e, ht, hc⟩
  · rw [e] at hj; simp [Value.ownBlock] at hj
  · rw [e] at hj
    have : g = j := by simpa [Value.ownBlock] using hj
    subst this
    exact ht.2
theorem BkR.re {B : Nat → Prop} {W : World} {t : Nat} {v : Value} {xs : List Int} (h : BkR A W t v xs) (hB : ∀ j, v.ownBlock = some j → ¬ B j) : BkR B W t v xs := by
  rcases h with h | ⟨g, o, cap, e, ht, hc⟩
  · exact .inl h
  · exact .inr ⟨g, o, cap, e, ⟨ht.1, hB g (by rw [e]; rfl)⟩, hc⟩
theorem BkR.of_owns {W : World} {t : Nat} {v : Value} {xs : List Int} (h : W.ownsRow t 3 1 v xs.length (valsI xs)) : BkR (fun _ => False) W t v xs := by
  rcases h.2 with ⟨e, e2⟩ | ⟨g, cap, cur, e, ht, hg, hl, hm, hs, hx⟩
  · exact .inl ⟨e, List.length_eq_zero_iff.1 e2⟩
  · refine .inr ⟨g, 0, cap, e, ⟨ht, fun x => x⟩, hl, hm, fun j hj => ⟨?_, by simp [World.frozen?, hg]⟩, fun j hj => ?_, (Array.getElem?_eq_some_iff.1 hg).1⟩
    · rw [cell_of_block hg, Nat.zero_add, Array.getElem?_eq_getElem (by omega)]; rfl
    · rw [cell_of_block hg, Nat.zero_add]
      have h1 : (cur.toList.take (xs.length * 1))[j]? = (valsI xs)[j]? := by rw [hx]
      rw [List.getElem?_take_of_lt (by omega)] at h1
      simp only [Array.getElem?_toList] at h1
      rw [h1]
      simp [valsI, List.getD, List.getElem?_eq_getElem hj]
/-- Buckets in a list. -/
structure BnI (A : Nat → Prop) (W : World) (t L R : Nat) (f : Nat → Value) (xs : Nat → List Int) : Prop where
  row : RoV W L R f
  own : ∀ r, r < R → BkR A W t (f r) (xs r)
  apart : ∀ r s, r < R → s < R → r ≠ s → ∀ g, (f r).ownBlock = some g → (f s).ownBlock ≠ some g
theorem BnI.of_lnI {W : World} {t L R : Nat} {f : Nat → Value} {xs : Nat → List Int} (h : LnI W t L R f xs) : BnI (fun _ => False) W t L R f xs := ⟨fun i hi => ⟨h.row.cell hi, h.row.frozen i⟩, fun r hr => BkR.of_owns (h.own r hr), h.apart⟩
theorem BnI.re {B : Nat → Prop} {W : World} {t L R : Nat} {f : Nat → Value} {xs : Nat → List Int} (h : BnI A W t L R f xs) (hB : ∀ j, j < W.heap.size → A j ∨ ¬ B j) : BnI B W t L R f xs := ⟨h.row, fun r hr => (h.own r hr).re (fun j hj => (hB j ((h.own r hr).ge j hj).2).resolve_left ((h.own r hr).na j hj)), h.apart⟩
theorem BnI.congr {W : World} {t L R : Nat} {f : Nat → Value} {xs ys : Nat → List Int} (h : BnI A W t L R f xs) (e : ∀ r, r < R → xs r = ys r) : BnI A W t L R f ys := ⟨h.row, fun r hr => by rw [← e r hr]; exact h.own r hr, h.apart⟩
theorem BnI.chg {S : Nat → Prop} {W W' : World} {t L R : Nat} {f : Nat → Value} {xs : Nat → List Int} (h : BnI A W t L R f xs) (k : Chg S W W') (hL : ¬ S L) (hs : ∀ j, t ≤ j → j < W.heap.size → ¬ S j) : BnI A W' t L R f xs :=
  ⟨h.row.chg k hL, fun r hr => (h.own r hr).chg k (fun j hj => hs j ((h.own r hr).ge j hj).1 ((h.own r hr).ge j hj).2), h.apart⟩
theorem BnI.below {W W' : World} {t L R : Nat} {f : Nat → Value} {xs : Nat → List Int} (h : BnI A W t L R f xs) (k : Below W.heap.size W W') : BnI A W' t L R f xs := h.chg (S := fun _ => False) (Chg.of_below k) (fun x => x) (fun _ _ _ x => x)
/-- One bucket is another one. -/
theorem BnI.upd {W W2 : World} {t L R c : Nat} {f : Nat → Value} {xs : Nat → List Int} {v : Value} {ys : List Int} (h : BnI A W t L R f xs) (hc : c < R) (hL : L < t) (ht : t ≤ W.heap.size) (k : Chg (fun j => (f c).ownBlock = some j) W W2) (hv : BkR A W2 t v ys) (hat : ∀ j, v.ownBlock = some j → (f c).ownBlock = some j ∨ W.heap.size ≤ j) :
    BnI A (W2.setCell ⟨L, c, none⟩ v) t L R (fun r => if r = c then v else f r) (fun r => if r = c then ys else xs r) ∧ Chg (fun j => j = L ∨ (t ≤ j ∧ ¬ A j)) W (W2.setCell ⟨L, c, none⟩ v) := by
  have hs : Chg (fun j => j = L) W2 (W2.setCell ⟨L, c, none⟩ v) := Chg.of_set _ _ _ _ rfl
  have hg := fun r hr => (h.own r hr).ge
  refine ⟨⟨(h.row.chg k (fun e => by have := (hg c hc L e).1; omega)).put c v hc, fun r hr => ?_, fun r s hr hsr hne j hj hj2 => ?_⟩, ⟨hs.os.trans k.os, hs.tape.trans k.tape, hs.output.trans k.output, Nat.le_trans k.size hs.size, fun j hj hS => ?_⟩⟩
  · by_cases e : r = c
    · simp only [e, if_true]
      exact hv.chg hs (fun j hj e2 => by have := (hv.ge j hj).1; omega)
    · simp only [e, if_false]
      refine ((h.own r hr).chg k (fun j hj e2 => h.apart r c hr hc e j hj e2)).chg hs (fun j hj e2 => ?_)
      have := (hg r hr j hj).1
      omega
  · by_cases e1 : r = c
    · have e2 : s ≠ c := fun e => hne (e1.trans e.symm)
      simp only [e1, if_true] at hj
      simp only [e2, if_false] at hj2
      rcases hat j hj with e | e
      · exact h.apart c s hc hsr (fun z => e2 z.symm) _ e hj2
      · have := (hg s hsr _ hj2).2; omega
    · simp only [e1, if_false] at hj
      by_cases e2 : s = c
      · simp only [e2, if_true] at hj2
        rcases hat j hj2 with e | e
        · exact h.apart r c hr hc e1 _ hj e
        · have := (hg r hr _ hj).2; omega
      · simp only [e2, if_false] at hj2
        exact h.apart r s hr hsr hne j hj hj2
  · rw [hs.block j (Nat.lt_of_lt_of_le hj k.size) (fun e => hS (.inl e)), k.block j hj (fun e => hS (.inr ⟨(hg c hc j e).1, (h.own c hc).na j e⟩))]
theorem Chg.of_putRow {S : Nat → Prop} (w : World) (q g o : Nat) (d : Array Int) (hb : S g) : Chg S w (Sort.putRow (Value.int .i64) (Sort.ahead w q) g o d) := by
  refine ⟨rfl, rfl, rfl, by simp [Sort.ahead], fun k hk hS => ?_⟩
  have : g ≠ k := fun e => hS (e ▸ hb)
  simp [Sort.putRow, Sort.mapBlock, Sort.ahead, Array.getElem?_modify, this]
theorem Chg.of_setCells {S : Nat → Prop} (b : Nat) (hb : S b) : ∀ (vs : List Value) (o : Nat) (w : World), Chg S w (w.setCells b o vs)
  | [], _, w => Chg.refl _ _
  | v :: r, o, w => (Chg.of_set w b o v hb).trans (Chg.of_setCells b hb r (o + 1) _)
set_option maxRecDepth 100000 in
set_option maxHeartbeats 4000000 in
/-- slices.Delete of one number. -/
theorem odel_any (g o cap i : Nat) (xs : List Int) (w : World) (h : BkC w g o cap xs) (hi : i < xs.length) :
    Calls Try.prog 55 #[.slice (some ⟨g, o, none⟩) xs.length cap, .int .i64 (i : Int), .int .i64 ((i + 1 : Nat) : Int)] w fun e w' => e = .returned (.slice (some ⟨g, o, none⟩) (xs.length - 1) cap) ∧ BkC w' g o cap (xs.eraseIdx i) ∧ Chg (fun j => j = g) w w' := by
  have hH : Sort.Holds (Value.int .i64) w g o xs.toArray := fun j hj => by
    have hj' : j < xs.length := by simpa using hj
    refine ⟨(h.val j hj').trans ?_, (h.has j (Nat.lt_of_lt_of_le hj' h.len)).2⟩
    simp [List.getD, getElem!_pos, hj']
  have hbig : cap ≤ 9223372036854775807 := by have := h.big; unfold maxLen at this; omega
  have K := Any.slices_Delete_int shDel g o cap i (i + 1) xs w hH h.len hbig (by omega) (by omega)
  refine Calls.mono K ?_
  rintro e w' ⟨he, q, rfl⟩
  have hsz : (xs.take i ++ xs.drop (i + 1) ++ List.replicate (i + 1 - i) 0).toArray.size = xs.toArray.size := by simp; omega
  have hN := Sort.holds_putRow (Value.int .i64) (Sort.ahead w q) g o xs.toArray _ (Sort.holds_ahead (Value.int .i64) w q g o _ hH) hsz
  have hC := Chg.of_putRow (S := fun j => j = g) w q g o (xs.take i ++ xs.drop (i + 1) ++ List.replicate (i + 1 - i) 0).toArray rfl
  refine ⟨by rw [he, show i + 1 - i = 1 by omega], ⟨?_, h.big, fun j hj => ⟨?_, ?_⟩, fun j hj => ?_, Nat.lt_of_lt_of_le h.lt hC.size⟩, hC⟩
  · have := h.len
    rw [List.length_eraseIdx_of_lt hi]; omega
  · by_cases hl : j < xs.length
    · rw [(hN j (by rw [hsz]; simpa using hl)).1]; rfl
    · rw [Sort.cell?_putRow_other _ _ _ _ _ _ (.inr (.inr (by rw [hsz]; simp; omega)))]
      exact (h.has j hj).1
  · rw [Sort.frozen?_putRow]
    exact (h.has j hj).2
  · rw [List.length_eraseIdx_of_lt hi] at hj
    rw [(hN j (by rw [hsz]; simp; omega)).1]
    rw [List.eraseIdx_eq_take_drop_succ]
    have hj2 : j < (xs.take i ++ xs.drop (i + 1)).length := by simp; omega
    rw [getElem!_pos _ _ (by rw [hsz]; simp; omega)]
    simp only [List.getElem_toArray, List.getD, List.getElem?_eq_getElem hj2]
    rw [List.getElem_append_left hj2]
    rfl
end Go.Proofs.Ytdcdgojcboinaaa
