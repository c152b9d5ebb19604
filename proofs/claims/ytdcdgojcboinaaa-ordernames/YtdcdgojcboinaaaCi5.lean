/-
  ORDERS: a path of three vertices, plain; slopelaw11.alive: contract.
-/
import Derived.Test.YtdcdgojcboinaaaCpg
import Derived.Test.YtdcdgojcboinaaaCr5
import Derived.Test.YtdcdgojcboinaaaCs8
import Derived.Test.YtdcdgojcboinaaaRq0
namespace Go.Proofs.Ytdcdgojcboinaaa
open Go.Shelf Go.RowKit Go.Deep
set_option linter.unusedVariables false

def stT : List Int := [0, 1, 3, 4]
def colsT : List Int := [1, 0, 2, 1]
theorem mayT3 : MayP (3 : Nat) (3 : Nat) stT colsT := by
  refine ⟨⟨by decide, by decide, by decide, by decide⟩, fun i _ hi => ?_, fun r hr => ?_⟩
  · have h : ∀ i, i < 3 → stT.getD i 0 ≤ stT.getD (i + 1) 0 := by decide
    exact h i (by simp [stT] at hi; omega)
  · have h1 : ∀ r, r < 3 → ∀ i, i < 4 → (stT.getD r 0).toNat ≤ i → i < (stT.getD (r + 1) 0).toNat → 0 ≤ colsT.getD i 0 ∧ colsT.getD i 0 < 3 := by decide
    have h2 : ∀ r, r < 3 → ∀ i, i < 4 → (stT.getD r 0).toNat < i → i < (stT.getD (r + 1) 0).toNat → colsT.getD (i - 1) 0 < colsT.getD i 0 := by decide
    have h3 : ∀ r, r < 3 → (stT.getD (r + 1) 0).toNat ≤ 4 := by decide
    have hr4 : r < 3 := by simp [stT] at hr; omega
    have := h3 r hr4
    exact ⟨fun i a b => h1 r hr4 i (by omega) a b, fun i a b => h2 r hr4 i (by omega) a b⟩
theorem graT3 : GraP stT colsT 3 3 := by
  refine ⟨rfl, fun u v hu hv h => ?_, fun ⟨r, hr, h⟩ => ?_⟩
  · have k : ∀ u, u < 3 → ∀ v, v < 3 → ((u : Nat) : Int) ∈ rowL stT colsT v → ((v : Nat) : Int) ∈ rowL stT colsT u := by decide
    exact (rowL_mem mayT3 hu).1 (k u hu v hv ((rowL_mem mayT3 hv).2 h))
  · have k : ∀ r, r < 3 → ¬ ((r : Nat) : Int) ∈ rowL stT colsT r := by decide
    exact k r hr ((rowL_mem mayT3 hr).2 h)
theorem degT3 : ∀ v, v < 3 → (rowL stT colsT v).length < 3 := by decide
def dgT (v : Nat) : Nat := (rowL stT colsT v).length
theorem peoT : ∀ k, k < 3 → PeO 3 (nbL stT colsT) dgT k := by
  have h1 : ∀ k, k < 3 → ∃ r, r < 3 ∧ (peS 3 (nbL stT colsT) dgT k).1 (brF 3 r) = false ∧ (peS 3 (nbL stT colsT) dgT k).2 (brF 3 r) < 3 := by decide
  have h2 : ∀ k, k < 3 → ∀ v, v < 3 → (peS 3 (nbL stT colsT) dgT k).2 v < 3 := by decide
  have h3 : ∀ k, k < 3 → (nbL stT colsT (peV 3 (nbL stT colsT) dgT k)).length ≤ 2 := by decide
  have h4 : ∀ k, k < 3 → ∀ i, i < 2 → ∀ u, u < 3 → (nbL stT colsT (peV 3 (nbL stT colsT) dgT k))[i]? = some u → peG 3 (nbL stT colsT) dgT k u = false → 1 ≤ peT 3 (nbL stT colsT) dgT k i u := by decide
  have h5 : ∀ k, k < 3 → ∀ u ∈ nbL stT colsT (peV 3 (nbL stT colsT) dgT k), u < 3 := by decide
  intro k hk
  refine ⟨h1 k hk, h2 k hk, fun i u hu hg => ?_⟩
  have hi := (List.getElem?_eq_some_iff.1 hu).1
  have := h3 k hk
  exact h4 k hk i (by omega) u (h5 k hk u (List.mem_of_getElem? hu)) hu hg
theorem corT : ∀ v, v < 3 → coF (peV 3 (nbL stT colsT) dgT) (peC 3 (nbL stT colsT) dgT) 3 v = 1 := by decide
def rfT (i : Nat) : Int := [1, 0, 2].getD i 0
theorem sorT : SoR 2 3 (fun i => ((rowL stT colsT i).length : Int)) rfT := by
  refine ⟨rfl, by omega, #[1, 0, 2], ?_, rfl, ?_⟩
  · have e : natF 2 = #[0, 1, 2] := by
      apply Array.ext
      · simp [natF]
      · intro i h1 h2
        have hi : i < 3 := by simpa using h2
        have : i = 0 ∨ i = 1 ∨ i = 2 := by omega
        rcases this with rfl | rfl | rfl <;> simp [natF]
    rw [e]
    unfold Sort.insertionSort
    rw [Sort.insOuter, if_pos (by decide), Sort.insOuter, if_pos (by decide), Sort.insOuter, if_neg (by decide)]
    decide
  · intro i hi
    have : i = 0 ∨ i = 1 ∨ i = 2 := by omega
    rcases this with rfl | rfl | rfl <;> rfl
theorem sli_made (w : World) (xs : List Int) (t : TypeId) (h : xs.length ≤ 128) : SlI (w.alloc (.cells (xs.map (fun x => Value.int .i64 x)).toArray t)) (some ⟨w.heap.size, 0, none⟩) xs.length xs.length xs := by
  refine ⟨rfl, Nat.le_refl _, by unfold maxLen; omega, .inr ⟨w.heap.size, 0, rfl, fun i hi => ?_⟩⟩
  rw [Nat.zero_add]
  exact (cell_of_block (alloc_block _ _) i).trans (by simp [List.getD, hi])
set_option maxRecDepth 100000 in
set_option maxHeartbeats 8000000 in
/-- slopelaw11.alive. -/
theorem oalive_any (w : World) :
    Calls Try.prog 8 #[] w fun e w' => e = .returned (.bool true) ∧ Below w.heap.size w w' := by
  go_enter Try.func8, Try.ntmps8
  go_wp2_with fail
  change Calls Try.prog 17 _ (((w.alloc (.cells (stT.map (fun x => Value.int .i64 x)).toArray 3)).alloc (.cells (colsT.map (fun x => Value.int .i64 x)).toArray 3)).alloc (.cells #[.int .i64 3, .int .i64 3, .slice (some ⟨w.heap.size, 0, none⟩) 4 4, .slice (some ⟨w.heap.size + 1, 0, none⟩) 4 4] 24)) _
  have s1 := sli_made w stT 3 (by decide)
  have b1 : Below w.heap.size w (w.alloc (.cells (stT.map (fun x => Value.int .i64 x)).toArray 3)) := (Below.refl _ _).alloc (Nat.le_refl _) _
  have e1 : (w.alloc (.cells (stT.map (fun x => Value.int .i64 x)).toArray 3)).heap.size = w.heap.size + 1 := by simp
  have s2 := sli_made (w.alloc (.cells (stT.map (fun x => Value.int .i64 x)).toArray 3)) colsT 3 (by decide)
  have b2 : Below (w.alloc (.cells (stT.map (fun x => Value.int .i64 x)).toArray 3)).heap.size (w.alloc (.cells (stT.map (fun x => Value.int .i64 x)).toArray 3)) ((w.alloc (.cells (stT.map (fun x => Value.int .i64 x)).toArray 3)).alloc (.cells (colsT.map (fun x => Value.int .i64 x)).toArray 3)) := (Below.refl _ _).alloc (Nat.le_refl _) _
  have e2 : ((w.alloc (.cells (stT.map (fun x => Value.int .i64 x)).toArray 3)).alloc (.cells (colsT.map (fun x => Value.int .i64 x)).toArray 3)).heap.size = w.heap.size + 1 + 1 := by simp
  have s1' := s1.below b2
  rw [e1] at s2
  have b12 := b1.trans (b2.mono b1.size)
  generalize hw2 : (w.alloc (.cells (stT.map (fun x => Value.int .i64 x)).toArray 3)).alloc (.cells (colsT.map (fun x => Value.int .i64 x)).toArray 3) = w2 at *
  have hT := BoxP.made w2 #[.int .i64 3, .int .i64 3, .slice (some ⟨w.heap.size, 0, none⟩) 4 4, .slice (some ⟨w.heap.size + 1, 0, none⟩) 4 4] 24
  have b3 : Below w2.heap.size w2 (w2.alloc (.cells #[.int .i64 3, .int .i64 3, .slice (some ⟨w.heap.size, 0, none⟩) 4 4, .slice (some ⟨w.heap.size + 1, 0, none⟩) 4 4] 24)) := (Below.refl _ _).alloc (Nat.le_refl _) _
  rw [e2] at hT
  have H1 := hide (s1'.below b3)
  have H2 := hide (s2.below b3)
  have HB := hide (b12.trans (b3.mono b12.size))
  clear s1 s2 b1 b2 e1 e2 s1' b12 b3 hw2
  generalize w2.alloc (.cells #[.int .i64 3, .int .i64 3, .slice (some ⟨w.heap.size, 0, none⟩) 4 4, .slice (some ⟨w.heap.size + 1, 0, none⟩) 4 4] 24) = w3 at *
  have HT := hide hT
  have K1 := oOrder_largest 2 3 (some ⟨w.heap.size, 0, none⟩) (some ⟨w.heap.size + 1, 0, none⟩) 4 4 4 4 stT colsT w3 (unhide H1) (unhide H2) (by omega) (by omega) mayT3 graT3 rfT sorT
  unfold patV at K1
  refine K1.mono ?_
  rintro _ w4 ⟨g4, hg4, rfl, hr4, b4⟩
  have K2 := odegen_any 3 (some ⟨w.heap.size, 0, none⟩) (some ⟨w.heap.size + 1, 0, none⟩) 4 4 4 4 stT colsT w4 ((unhide H1).below b4) ((unhide H2).below b4) (by omega) (by omega) mayT3 graT3 degT3 peoT (by omega)
  unfold patV at K2
  have hT4 := hT.below b4
  have p0 := (hT4.all 0 _ rfl).1
  have p1 := (hT4.all 1 _ rfl).1
  have p2 := (hT4.all 2 _ rfl).1
  have p3 := (hT4.all 3 _ rfl).1
  have HK2 := hide K2
  have HL := hide (show SlI w4 (some ⟨g4, 0, none⟩) 3 3 [1, 0, 2] from hr4.sl2 (by omega))
  have HB4 := hide ((unhide HB).trans (b4.mono (unhide HB).size))
  clear K1 K2 hr4 hT hT4 b4 hg4
  go_wp2_with fail
  refine (unhide HK2).mono ?_
  rintro _ w5 ⟨v, g5, hg5, rfl, hr5, hm5, b5⟩
  have ev : v = 1 := by
    have k : MaxTo (0 :: (List.range 3).map (fun i => (coF (peV 3 (nbL stT colsT) dgT) (peC 3 (nbL stT colsT) dgT) 3 i : Int))) (3 + 1) 1 := ⟨⟨1, by decide, by decide⟩, by decide⟩
    exact MaxTo.one hm5 k
  subst ev
  have HL5 := hide ((unhide HL).below b5)
  have HM5 := hide (show SlI w5 (some ⟨g5, 0, none⟩) 3 3 [1, 1, 1] from by
    have q : RoV w5 g5 3 (fun i => .int .i64 (1 : Int)) := hr5.congr (fun i hi => by have e := corT i hi; exact congrArg (fun z : Nat => Value.int .i64 (z : Int)) e)
    exact q.sl2 (f := fun _ => 1) (by omega))
  have HB5 := hide ((unhide HB4).trans (b5.mono (unhide HB4).size))
  clear HK2 hr5 hm5 b5 hg5 p0 p1 p2 p3
  go_wp2_with ((go_at_call 7; refine (num11_any _ _).mono ?_; rintro _ _ ⟨rfl, rfl⟩))
  refine (sameInts_eq (some ⟨g4, 0, none⟩) _ 3 3 3 [1, 0, 2] _ ((unhide HL5).below ((Below.refl _ _).alloc (Nat.le_refl _) _)) (sli_made _ [1, 0, 2] 3 (by decide)) (by omega)).mono ?_
  rintro _ w7 ⟨rfl, m, hm⟩
  have HM7 := hide (show SlI w7 (some ⟨g5, 0, none⟩) 3 3 [1, 1, 1] from by rw [hm]; exact ((unhide HM5).below ((Below.refl _ _).alloc (Nat.le_refl _) _)).below (bel_drewN (Below.refl _ _) m))
  have HB7 := hide (show Below w.heap.size w w7 from by rw [hm]; exact bel_drewN ((unhide HB5).alloc (unhide HB5).size _) m)
  clear hm
  go_wp2_with ((go_at_call 7; refine (num11_any _ _).mono ?_; rintro _ _ ⟨rfl, hw⟩; subst hw))
  refine (sameInts_eq (some ⟨g5, 0, none⟩) _ 3 3 3 [1, 1, 1] _ ((unhide HM7).below ((Below.refl _ _).alloc (Nat.le_refl _) _)) (sli_made _ [1, 1, 1] 3 (by decide)) (by omega)).mono ?_
  rintro _ _ ⟨rfl, m2, rfl⟩
  go_wp2_with fail
  try go_ret
  exact ⟨rfl, bel_drewN ((unhide HB7).alloc (unhide HB7).size _) m2⟩
end Go.Proofs.Ytdcdgojcboinaaa

namespace Go.Proofs.Ytdcdgojcboinaaa
open Go.Shelf Go.RowKit Go.Deep
set_option linter.unusedVariables false

set_option maxRecDepth 100000 in
set_option maxHeartbeats 4000000 in
/-- slopelaw11.wrong. -/
theorem wowrong_any (rows width : Int) (a1 a2 : Option Addr) (n1 c1 n2 c2 : Nat) (st cols : List Int) (w : World) (h1 : SlI w a1 n1 c1 st) (h2 : SlI w a2 n2 c2 cols) (hb1 : n1 ≤ 17592186044000) (hb2 : n2 ≤ 17592186044000) (ok : Bool) (hok : TruQ ok (IsGr rows width st cols)) :
    Calls Try.prog 6 #[patV rows width a1 n1 c1 a2 n2 c2] w fun e w' => e = .returned (.bool (!ok)) ∧ Below w.heap.size w w' := by
  obtain ⟨wb, hwb⟩ : ∃ x, w.alloc (.cells #[.int .i64 rows, .int .i64 width, .slice a1 n1 c1, .slice a2 n2 c2] 24) = x := ⟨_, rfl⟩
  have bb : Below w.heap.size w wb := by rw [← hwb]; exact (Below.refl _ _).alloc (Nat.le_refl _) _
  have hT := BoxP.made w #[.int .i64 rows, .int .i64 width, .slice a1 n1 c1, .slice a2 n2 c2] 24
  rw [hwb] at hT
  have p0 := (hT.all 0 _ rfl).1
  have p1 := (hT.all 1 _ rfl).1
  have p2 := (hT.all 2 _ rfl).1
  have p3 := (hT.all 3 _ rfl).1
  have K := hide (wograph_any rows width a1 a2 n1 c1 n2 c2 st cols wb (h1.below bb) (h2.below bb) hb1 hb2 ok hok)
  unfold patV at K
  have HB := hide bb
  clear hT bb h1 h2 hok
  unfold patV
  cases ok
  all_goals
    go_enter Try.func6, Try.ntmps6
    go_wp2_with fail
    refine (unhide K).mono ?_
    rintro _ w2 ⟨rfl, b2⟩
    have HB2 := hide ((unhide HB).trans (b2.mono (unhide HB).size))
    clear K b2 p0 p1 p2 p3
    go_wp2_with fail
    try go_ret
    exact ⟨rfl, unhide HB2⟩
end Go.Proofs.Ytdcdgojcboinaaa

namespace Go.Proofs.Ytdcdgojcboinaaa
open Go.RowKit Go.Deep
set_option linter.unusedVariables false

theorem grS_get {P : Nat → Nat → Prop} {n : Nat} : ∀ k i, i ≤ k → (grS P n k).getD i 0 = ((grC P n i).length : Int)
  | 0, i, hi => by rw [show i = 0 by omega]; rfl
  | k + 1, i, hi => by
    simp only [grS]
    by_cases e : i = k + 1
    · subst e
      rw [List.getD, List.getElem?_append_right (by rw [grS_len]; omega), grS_len]
      simp
    · rw [List.getD, List.getElem?_append_left (by rw [grS_len]; omega)]
      exact grS_get k i (by omega)
theorem grC_split {P : Nat → Nat → Prop} {n v : Nat} : ∀ k, v < k → ∃ r, grC P n k = grC P n v ++ (grR P v n ++ r)
  | 0, h => absurd h (Nat.not_lt_zero _)
  | k + 1, h => by
    by_cases e : v = k
    · subst e; exact ⟨[], by simp [grC]⟩
    · obtain ⟨r, hr⟩ := grC_split (P := P) (n := n) (v := v) k (by omega)
      exact ⟨r ++ grR P k n, by simp only [grC]; rw [hr]; simp⟩
theorem rowL_gr {P : Nat → Nat → Prop} {n v k : Nat} (h : v < k) : rowL (grS P n k) (grC P n k) v = grR P v n := by
  unfold rowL
  rw [grS_get k v (by omega), grS_get k (v + 1) (by omega)]
  obtain ⟨r, hr⟩ := grC_split (P := P) (n := n) k h
  rw [hr]
  simp only [grC, List.length_append]
  rw [show ((((grC P n v).length : Nat) : Int)).toNat = (grC P n v).length by omega, show (((((grC P n v).length + (grR P v n).length : Nat)) : Int)).toNat = (grC P n v).length + (grR P v n).length by omega]
  rw [List.drop_left, show (grC P n v).length + (grR P v n).length - (grC P n v).length = (grR P v n).length by omega, List.take_left]
theorem grR_ok {P : Nat → Nat → Prop} {u : Nat} : ∀ k, (∀ i, i < (grR P u k).length → 0 ≤ (grR P u k).getD i 0 ∧ (grR P u k).getD i 0 < (k : Int)) ∧ (∀ i, 0 < i → i < (grR P u k).length → (grR P u k).getD (i - 1) 0 < (grR P u k).getD i 0)
  | 0 => ⟨fun i hi => absurd hi (Nat.not_lt_zero _), fun i _ hi => absurd hi (Nat.not_lt_zero _)⟩
  | k + 1 => by
    obtain ⟨h1, h2⟩ := grR_ok (P := P) (u := u) k
    by_cases c : P u k
    · have e : grR P u (k + 1) = grR P u k ++ [(k : Int)] := by simp [grR, tb_yes c]
      rw [e]
      have gl : ∀ i, i < (grR P u k).length → (grR P u k ++ [(k : Int)]).getD i 0 = (grR P u k).getD i 0 := fun i hi => by rw [List.getD, List.getElem?_append_left hi]; rfl
      have gr : (grR P u k ++ [(k : Int)]).getD (grR P u k).length 0 = (k : Int) := by simp [List.getD]
      refine ⟨fun i hi => ?_, fun i h0 hi => ?_⟩
      · by_cases q : i = (grR P u k).length
        · rw [q, gr]; omega
        · have hi' : i < (grR P u k).length := by simp at hi; omega
          rw [gl i hi']
          have := h1 i hi'
          omega
      · by_cases q : i = (grR P u k).length
        · rw [q, gr, gl _ (by omega)]
          exact (h1 _ (by omega)).2
        · have hi' : i < (grR P u k).length := by simp at hi; omega
          rw [gl i hi', gl _ (by omega)]
          exact h2 i h0 hi'
    · have e : grR P u (k + 1) = grR P u k := by simp [grR, tb_no c]
      rw [e]
      exact ⟨fun i hi => by have := h1 i hi; omega, h2⟩
theorem grC_get {P : Nat → Nat → Prop} {n v k i : Nat} (h : v < k) (hi : i < (grR P v n).length) : (grC P n k).getD ((grC P n v).length + i) 0 = (grR P v n).getD i 0 := by
  obtain ⟨r, hr⟩ := grC_split (P := P) (n := n) k h
  rw [hr, List.getD, List.getElem?_append_right (by omega), show (grC P n v).length + i - (grC P n v).length = i by omega, List.getElem?_append_left hi]
  rfl
theorem may_gr {P : Nat → Nat → Prop} {n : Nat} (hn : n ≤ 128) : MayP (n : Int) (n : Int) (grS P n n) (grC P n n) := by
  refine ⟨⟨by omega, by rw [grS_len]; omega, by rw [grS_get n 0 (by omega)]; rfl, by rw [show ((n : Int)).toNat = n by omega]; exact grS_get n n (Nat.le_refl _)⟩, fun i _ hi => ?_, fun r hr => ?_⟩
  · rw [grS_len] at hi
    rw [grS_get n i (by omega), grS_get n (i + 1) (by omega)]
    simp only [grC, List.length_append]
    omega
  · rw [grS_len] at hr
    rw [grS_get n r (by omega), grS_get n (r + 1) (by omega)]
    simp only [grC, List.length_append]
    obtain ⟨h1, h2⟩ := grR_ok (P := P) (u := r) n
    refine ⟨fun i a b => ?_, fun i a b => ?_⟩
    · obtain ⟨j, rfl⟩ : ∃ j, i = (grC P n r).length + j := ⟨i - (grC P n r).length, by omega⟩
      rw [grC_get (by omega) (by omega)]
      exact h1 j (by omega)
    · obtain ⟨j, rfl⟩ : ∃ j, i = (grC P n r).length + j := ⟨i - (grC P n r).length, by omega⟩
      rw [show (grC P n r).length + j - 1 = (grC P n r).length + (j - 1) by omega, grC_get (by omega) (by omega), grC_get (by omega) (by omega)]
      exact h2 j (by omega) (by omega)
theorem mem_gr {P : Nat → Nat → Prop} {n u v : Nat} (hv : v < n) (hu : u < n) : ((u : Int) ∈ rowL (grS P n n) (grC P n n) v) ↔ P v u := by
  rw [rowL_gr hv, grR_mem]
  constructor
  · rintro ⟨j, _, e, h⟩
    rw [show u = j by omega]; exact h
  · intro h
    exact ⟨u, hu, rfl, h⟩
end Go.Proofs.Ytdcdgojcboinaaa
