/-
  ORDERS: Order of OrderSmallest: contract.
-/
import Derived.Test.YtdcdgojcboinaaaCpc
import Derived.Test.YtdcdgojcboinaaaCpg
import Derived.Test.YtdcdgojcboinaaaCh2
import Derived.Test.YtdcdgojcboinaaaRq0
import Derived.Lib.MinMax
import Derived.Test.YtdcdgojcboinaaaCo1
import Derived.Test.YtdcdgojcboinaaaSi3
import Derived.Test.YtdcdgojcboinaaaCr4
import Derived.Test.YtdcdgojcboinaaaCq8
namespace Go.Proofs.Ytdcdgojcboinaaa
open Go.Shelf Go.RowKit Go.Deep
set_option linter.unusedVariables false

/-- What Order answers of a graph. -/
def SoP (R : Nat) (xs : List Int) (w w' : World) (e : Ending) : Prop := ∃ b d, e = .returned (.tuple #[.slice b R d, .int .i64 0]) ∧ BkR (fun _ => False) w' w.heap.size (.slice b R d) xs ∧ Below w.heap.size w w'
set_option maxRecDepth 100000 in
set_option maxHeartbeats 8000000 in
/-- order.Order of OrderSmallest. -/
theorem oOrder_smallest (R : Nat) (a1 a2 : Option Addr) (n1 c1 n2 c2 : Nat) (st cols : List Int) (w : World) (h1 : SlI w a1 n1 c1 st) (h2 : SlI w a2 n2 c2 cols) (hb1 : n1 ≤ 17592186044000) (hb2 : n2 ≤ 17592186044000) (hm : MayP (R : Int) (R : Int) st cols) (hg : GraP st cols R R) (hdg : ∀ v, v < R → (rowL st cols v).length < R) (hok : ∀ k, k < R → PeO R (nbL st cols) (fun v => (rowL st cols v).length) k) :
    Calls Try.prog 17 #[.int .i64 3, patV (R : Int) (R : Int) a1 n1 c1 a2 n2 c2, .slice none 0 0] w fun e w' => SoP R (smL R st cols) w w' e := by
  obtain ⟨wb, hwb⟩ : ∃ x, w.alloc (.cells #[.int .i64 (R : Int), .int .i64 (R : Int), .slice a1 n1 c1, .slice a2 n2 c2] 24) = x := ⟨_, rfl⟩
  have bb : Below w.heap.size w wb := by rw [← hwb]; exact (Below.refl _ _).alloc (Nat.le_refl _) _
  have hT := BoxP.made w #[.int .i64 (R : Int), .int .i64 (R : Int), .slice a1 n1 c1, .slice a2 n2 c2] 24
  rw [hwb] at hT
  have p0 := (hT.all 0 _ rfl).1
  have p1 := (hT.all 1 _ rfl).1
  have p2 := (hT.all 2 _ rfl).1
  have p3 := (hT.all 3 _ rfl).1
  have K1 := hide (oisGraph_yes R a1 a2 n1 c1 n2 c2 st cols wb (h1.below bb) (h2.below bb) hb1 hb2 hm hg)
  have K2 := hide (fun (W : World) (b : Below w.heap.size w W) => osmall_any R a1 a2 n1 c1 n2 c2 st cols (.slice none 0 0) W (h1.below b) (h2.below b) hb1 hb2 hm hdg hok)
  unfold patV at K1 K2
  have HB := hide bb
  have HT := hide hT
  clear hT bb h1 h2 hm hg hdg hok
  unfold patV
  go_enter Try.func17, Try.ntmps17
  go_wp2_with fail
  refine (unhide K1).mono ?_
  rintro _ w2 ⟨rfl, b2⟩
  have HB2 := hide ((unhide HB).trans (b2.mono (unhide HB).size))
  have hT2 := (unhide HT).below b2
  clear K1 b2 p0 p1 p2 p3
  have p0 := (hT2.all 0 _ rfl).1
  have p1 := (hT2.all 1 _ rfl).1
  have p2 := (hT2.all 2 _ rfl).1
  have p3 := (hT2.all 3 _ rfl).1
  have HT2 := hide hT2
  clear hT2
  go_wp2_with fail
  have hHeld : (fun w' => w'.cell? ⟨w.heap.size, 0, none⟩ = some (.int .i64 (R : Int)) ∧ w'.cell? ⟨w.heap.size, 1, none⟩ = some (.int .i64 (R : Int)) ∧ w'.cell? ⟨w.heap.size, 2, none⟩ = some (.slice a1 n1 c1) ∧ w'.cell? ⟨w.heap.size, 3, none⟩ = some (.slice a2 n2 c2)) w2.drew := ⟨p0, p1, p2, p3⟩
  refine anyTill_region (fun w' => w'.cell? ⟨w.heap.size, 0, none⟩ = some (.int .i64 (R : Int)) ∧ w'.cell? ⟨w.heap.size, 1, none⟩ = some (.int .i64 (R : Int)) ∧ w'.cell? ⟨w.heap.size, 2, none⟩ = some (.slice a1 n1 c1) ∧ w'.cell? ⟨w.heap.size, 3, none⟩ = some (.slice a2 n2 c2)) 7 (by kernel_rfl) ?_
  refine anyTill_take (i := 1) (v := ?_) rfl rfl (by kernel_rfl) (by kernel_rfl) (by kernel_rfl) (by kernel_rfl) (fun _ _ _ h => h) (Or.inl ⟨by rfl, ?_⟩) (by assumption) ?_
  rotate_left 1
  · intro W hSw
    try dsimp only at hSw
    go_simp
    try with_reducible rfl
  refine anyTill_take (i := 3) (v := ?_) rfl rfl (by kernel_rfl) (by kernel_rfl) (by kernel_rfl) (by kernel_rfl) (fun _ _ _ h => h) (Or.inl ⟨by rfl, ?_⟩) (by assumption) ?_
  rotate_left 1
  · intro W hSw
    try dsimp only at hSw
    go_simp
    try with_reducible rfl
  refine anyTill_take (i := 4) (v := ?_) rfl rfl (by kernel_rfl) (by kernel_rfl) (by kernel_rfl) (by kernel_rfl) (fun _ _ _ h => h) (Or.inl ⟨by rfl, ?_⟩) (by assumption) ?_
  rotate_left 1
  · intro W hSw
    try dsimp only at hSw
    go_simp
    try with_reducible rfl
  refine anyTill_one (i := 0) (by kernel_rfl) rfl (by rfl) (fun K hK => ?_)
  go_simp
  refine (omakers_any _).mono ?_
  rintro _ w3 ⟨rfl, b3⟩
  have b3' : Below w2.heap.size w2 w3 := (Below.refl _ _).drew.trans b3
  have hlw := (unhide HT2).lt
  have HT3 := hide ((unhide HT2).below b3')
  have HB3 := hide ((unhide HB2).trans (b3'.mono (unhide HB2).size))
  clear b3 b3' p0 p1 p2 p3 hHeld
  have p0 := ((unhide HT3).all 0 _ rfl).1
  have p1 := ((unhide HT3).all 1 _ rfl).1
  have p2 := ((unhide HT3).all 2 _ rfl).1
  have p3 := ((unhide HT3).all 3 _ rfl).1
  refine hK _ _ (fun _ => ⟨p0, p1, p2, p3⟩) ?_
  clear hK K
  refine anyTill_one (i := 2) (by kernel_rfl) rfl (by rfl) (fun K hK => ?_)
  go_simp
  refine hK _ _ (fun _ => ⟨p0, p1, p2, p3⟩) ?_
  clear hK K
  refine anyTill_one (i := 5) (by kernel_rfl) rfl (by rfl) (fun K hK => ?_)
  go_simp
  refine (unhide K2 w3 (unhide HB3)).mono ?_
  rintro _ w4 ⟨b, d, rfl, hr, b4⟩
  have HT4 := hide ((unhide HT3).below b4)
  have HF := hide (And.intro (hr.low (unhide HB3).size) ((unhide HB3).trans (b4.mono (unhide HB3).size)))
  clear hr b4 p0 p1 p2 p3
  have p0 := ((unhide HT4).all 0 _ rfl).1
  have p1 := ((unhide HT4).all 1 _ rfl).1
  have p2 := ((unhide HT4).all 2 _ rfl).1
  have p3 := ((unhide HT4).all 3 _ rfl).1
  refine hK _ _ (fun _ => ⟨p0, p1, p2, p3⟩) ?_
  clear hK K
  refine anyTill_one (i := 6) (by kernel_rfl) rfl (by rfl) (fun K hK => ?_)
  go_simp
  refine hK _ _ (fun _ => ⟨p0, p1, p2, p3⟩) ?_
  clear hK K
  refine anyTill_one (i := 7) (by kernel_rfl) rfl (by rfl) (fun K hK => ?_)
  go_simp
  refine hK _ _ (fun h => absurd rfl h) ?_
  clear hK K p0 p1 p2 p3 K2
  refine anyTill_done (by kernel_rfl) ?_
  go_wp2_with fail
  refine bodyPost_ret (by simp [results, Try.results17, go_sem]; try rfl) rfl ?_
  exact ⟨b, d, rfl, (unhide HF).1, (unhide HF).2⟩
end Go.Proofs.Ytdcdgojcboinaaa

namespace Go.Proofs.Ytdcdgojcboinaaa
open Go.RowKit Go.Deep
set_option linter.unusedVariables false

/-- The longest of k lines. -/
structure LgT (f : Nat → Nat) (k y : Nat) : Prop where
  le : ∀ i, i < k → f i ≤ y
  at_ : y = 0 ∨ ∃ i, i < k ∧ f i = y
theorem LgT.next {f : Nat → Nat} {k y : Nat} (h : LgT f k y) : LgT f (k + 1) (max y (f k)) := by
  refine ⟨fun i hi => ?_, ?_⟩
  · by_cases e : i = k
    · subst e; omega
    · have := h.le i (by omega); omega
  · by_cases c : y ≤ f k
    · rcases Nat.eq_zero_or_pos (f k) with z | z
      · left; omega
      · right; exact ⟨k, by omega, by omega⟩
    · rcases h.at_ with e | ⟨i, hi, e⟩
      · left; omega
      · right; exact ⟨i, by omega, by omega⟩
theorem LgT.one {f : Nat → Nat} {k y z : Nat} (h : LgT f k y) (g : LgT f k z) : y = z := by
  have h1 : y ≤ z := by
    rcases h.at_ with e | ⟨i, hi, e⟩
    · omega
    · have := g.le i hi; omega
  have h2 : z ≤ y := by
    rcases g.at_ with e | ⟨i, hi, e⟩
    · omega
    · have := h.le i hi; omega
  omega
theorem rowL_len {R : Nat} {width : Int} {st cols : List Int} (hm : MayP (R : Int) width st cols) {r : Nat} (hr : r < R) : (rowL st cols r).length = (st.getD (r + 1) 0).toNat - (st.getD r 0).toNat := by
  obtain ⟨X, Y, h⟩ := hm.rowAt (k := r) (by omega)
  unfold rowL
  rw [List.length_take, List.length_drop, h.hX, h.hY]
  have := h.lt
  omega
end Go.Proofs.Ytdcdgojcboinaaa

namespace Go.Proofs.Ytdcdgojcboinaaa
open Go.RowKit Go.Deep
set_option linter.unusedVariables false

theorem RoV.sl2 {W : World} {g R : Nat} {f : Nat → Int} (h : RoV W g R (fun i => .int .i64 (f i))) (hR : R ≤ 128) : SlI W (some ⟨g, 0, none⟩) R R ((List.range R).map f) :=
  ⟨by simp, Nat.le_refl _, by unfold maxLen; omega, .inr ⟨g, 0, rfl, fun i hi => by
    have hi' : i < R := by simpa using hi
    rw [Nat.zero_add, (h i hi').1]
    simp [List.getD, hi']⟩⟩
set_option maxHeartbeats 1000000 in
/-- slopelaw11.num. -/
theorem num11_any (x : Int) (w : World) : Calls Try.prog 7 #[.int .i64 x] w fun e w' => e = .returned (.int .i64 x) ∧ w' = w := by
  go_enter Try.func7, Try.ntmps7
  go_wp2_with fail
  try go_ret
  exact ⟨rfl, rfl⟩
end Go.Proofs.Ytdcdgojcboinaaa

namespace Go.Proofs.Ytdcdgojcboinaaa
open Go.RowKit Go.Deep
set_option linter.unusedVariables false

set_option maxRecDepth 100000 in
set_option maxHeartbeats 16000000 in
/-- order.Degeneracy of a graph, of no vertices too. -/
theorem odegen_all (R : Nat) (a1 a2 : Option Addr) (n1 c1 n2 c2 : Nat) (st cols : List Int) (w : World) (h1 : SlI w a1 n1 c1 st) (h2 : SlI w a2 n2 c2 cols) (hb1 : n1 ≤ 17592186044000) (hb2 : n2 ≤ 17592186044000) (hm : MayP (R : Int) (R : Int) st cols) (hg : GraP st cols R R) (hdg : ∀ v, v < R → (rowL st cols v).length < R) (hok : ∀ k, k < R → PeO R (nbL st cols) (fun v => (rowL st cols v).length) k) :
    Calls Try.prog 5 #[patV (R : Int) (R : Int) a1 n1 c1 a2 n2 c2] w fun e w' => ∃ (v : Int) (g : Nat), w.heap.size ≤ g ∧ e = .returned (.tuple #[.int .i64 v, .slice (some ⟨g, 0, none⟩) R R, .int .i64 0]) ∧ RoV w' g R (fun v => .int .i64 (coF (peV R (nbL st cols) (fun v => (rowL st cols v).length)) (peC R (nbL st cols) (fun v => (rowL st cols v).length)) R v : Int)) ∧ MaxTo (0 :: (List.range R).map (fun i => (coF (peV R (nbL st cols) (fun v => (rowL st cols v).length)) (peC R (nbL st cols) (fun v => (rowL st cols v).length)) R i : Int))) (R + 1) v ∧ Below w.heap.size w w' := by
  have hR : R ≤ 128 := by have := hm.head.fit; omega
  obtain ⟨wb, hwb⟩ : ∃ x, w.alloc (.cells #[.int .i64 (R : Int), .int .i64 (R : Int), .slice a1 n1 c1, .slice a2 n2 c2] 24) = x := ⟨_, rfl⟩
  have bb : Below w.heap.size w wb := by rw [← hwb]; exact (Below.refl _ _).alloc (Nat.le_refl _) _
  have hT := BoxP.made w #[.int .i64 (R : Int), .int .i64 (R : Int), .slice a1 n1 c1, .slice a2 n2 c2] 24
  rw [hwb] at hT
  have p0 := (hT.all 0 _ rfl).1
  have p1 := (hT.all 1 _ rfl).1
  have p2 := (hT.all 2 _ rfl).1
  have p3 := (hT.all 3 _ rfl).1
  have K1 := hide (oisGraph_yes R a1 a2 n1 c1 n2 c2 st cols wb (h1.below bb) (h2.below bb) hb1 hb2 hm hg)
  have K2 := hide (fun (W : World) (b : Below w.heap.size w W) => ocores_any R a1 a2 n1 c1 n2 c2 st cols W (h1.below b) (h2.below b) hb1 hb2 hm hdg hok)
  generalize coF (peV R (nbL st cols) (fun v => (rowL st cols v).length)) (peC R (nbL st cols) (fun v => (rowL st cols v).length)) R = co at *
  unfold patV at K1 K2
  have HB := hide bb
  have HT := hide hT
  clear hT bb h1 h2 hm hg hdg hok
  unfold patV
  go_enter Try.func5, Try.ntmps5
  go_wp2_with fail
  refine (unhide K1).mono ?_
  rintro _ w2 ⟨rfl, b2⟩
  have HB2 := hide ((unhide HB).trans (b2.mono (unhide HB).size))
  have hT2 := (unhide HT).below b2
  have K3 := hide (unhide K2 w2 (unhide HB2))
  clear K1 K2 b2 p0 p1 p2 p3
  have p0 := (hT2.all 0 _ rfl).1
  have p1 := (hT2.all 1 _ rfl).1
  have p2 := (hT2.all 2 _ rfl).1
  have p3 := (hT2.all 3 _ rfl).1
  clear hT2
  go_wp2_with fail
  refine (unhide K3).mono ?_
  rintro _ w3 ⟨g, hg, rfl, hr, hl, b3⟩
  have K4 := hide (ogreatest_all g R co w3 hr hR)
  have HB3 := hide ((unhide HB2).trans (b3.mono (unhide HB2).size))
  have HR3 := hide (And.intro hr (And.intro hg hl))
  clear K3 hg hr hl b3 p0 p1 p2 p3
  go_wp2_with fail
  refine (unhide K4).mono ?_
  rintro _ w4 ⟨v, rfl, hm, b4⟩
  have HF := hide (And.intro hm (And.intro ((unhide HR3).1.below b4) ((unhide HB3).trans (b4.mono (unhide HB3).size))))
  clear K4 hm b4
  go_wp2_with fail
  refine bodyPost_ret (by simp [results, Try.results5, go_sem]; try rfl) rfl ?_
  exact ⟨v, g, Nat.le_trans (unhide HB2).size (unhide HR3).2.1, rfl, (unhide HF).2.1, (unhide HF).1, (unhide HF).2.2⟩
set_option maxRecDepth 100000 in
set_option maxHeartbeats 8000000 in
/-- order.Degeneracy of no graph. -/
theorem odegen_nogr (rows width : Int) (a1 a2 : Option Addr) (n1 c1 n2 c2 : Nat) (st cols : List Int) (w : World) (h1 : SlI w a1 n1 c1 st) (h2 : SlI w a2 n2 c2 cols) (hb1 : n1 ≤ 17592186044000) (hb2 : n2 ≤ 17592186044000) (hno : ¬ IsGr rows width st cols) :
    Calls Try.prog 5 #[patV rows width a1 n1 c1 a2 n2 c2] w fun e w' => e = .returned (.tuple #[.int .i64 0, .slice none 0 0, .int .i64 220]) ∧ Below w.heap.size w w' := by
  obtain ⟨wb, hwb⟩ : ∃ x, w.alloc (.cells #[.int .i64 rows, .int .i64 width, .slice a1 n1 c1, .slice a2 n2 c2] 24) = x := ⟨_, rfl⟩
  have bb : Below w.heap.size w wb := by rw [← hwb]; exact (Below.refl _ _).alloc (Nat.le_refl _) _
  have hT := BoxP.made w #[.int .i64 rows, .int .i64 width, .slice a1 n1 c1, .slice a2 n2 c2] 24
  rw [hwb] at hT
  have p0 := (hT.all 0 _ rfl).1
  have p1 := (hT.all 1 _ rfl).1
  have p2 := (hT.all 2 _ rfl).1
  have p3 := (hT.all 3 _ rfl).1
  have K := hide (oisGraph_no rows width a1 a2 n1 c1 n2 c2 st cols wb (h1.below bb) (h2.below bb) hb1 hb2 hno)
  unfold patV at K
  have HB := hide bb
  clear hT bb h1 h2 hno
  unfold patV
  go_enter Try.func5, Try.ntmps5
  go_wp2_with fail
  refine (unhide K).mono ?_
  rintro _ w2 ⟨rfl, b2⟩
  have HB2 := hide ((unhide HB).trans (b2.mono (unhide HB).size))
  clear K b2 p0 p1 p2 p3
  go_wp2_with fail
  refine bodyPost_ret (by simp [results, Try.results5, go_sem]; try rfl) rfl ?_
  exact ⟨rfl, unhide HB2⟩
end Go.Proofs.Ytdcdgojcboinaaa
