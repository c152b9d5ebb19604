/-
  ORDERS: slopelaw11.wrong; OrderWorth of no graph.
-/
import Derived.Test.YtdcdgojcboinaaaCpf
import Derived.Test.YtdcdgojcboinaaaCr5
import Derived.Test.YtdcdgojcboinaaaCph
import Derived.Test.YtdcdgojcboinaaaCs3
namespace Go.Proofs.Ytdcdgojcboinaaa
open Go.Shelf Go.RowKit Go.Deep
set_option linter.unusedVariables false

set_option maxRecDepth 100000 in
set_option maxHeartbeats 4000000 in
/-- slopelaw11.wrong. -/
theorem wowrong_any (rows width : Int) (a1 a2 : Option Addr) (n1 c1 n2 c2 : Nat) (st cols : List Int) (w : World) (h1 : SlI w a1 n1 c1 st) (h2 : SlI w a2 n2 c2 cols) (hb1 : n1 ≤ 17592186044000) (hb2 : n2 ≤ 17592186044000) (ok : Bool) (hok : TruQ ok (IsGr rows width st cols)) :
    Calls Try.prog 6 #[patV rows width a1 n1 c1 a2 n2 c2] w fun e w' => e = .returned (.bool (!ok)) ∧ Below w.heap.size w w' := by
  obtain ⟨wb, hwb⟩ : ∃ x, w.alloc (.cells #[.int .i64 rows, .int .i64 width, .slice a1 n1 c1, .slice a2 n2 c2] 24) = x := ⟨_, rfl⟩
  have bb : Below w.heap.size w wb := by rw [← hwb]; exact (Below.refl _ _).alloc (Nat.le_refl _) _
  have hT := BoxP.made w #[.int .i64 rows, .int .i64 width, .slice a1 n1 c1, .slice a2 n2 c2] 24
  rw [hwb] at hT
  have p0 := (hT.all 0 _ rfl).1
  have p1 := (hT.all 1 _ rfl).1
  have p2 := (hT.all 2 _ rfl).1
  have p3 := (hT.all 3 _ rfl).1
  have K := hide (wograph_any rows width a1 a2 n1 c1 n2 c2 st cols wb (h1.below bb) (h2.below bb) hb1 hb2 ok hok)
  unfold patV at K
  have HB := hide bb
  clear hT bb h1 h2 hok
  unfold patV
  cases ok
  all_goals
    go_enter Try.func6, Try.ntmps6
    go_wp2_with fail
    refine (unhide K).mono ?_
    rintro _ w2 ⟨rfl, b2⟩
    have HB2 := hide ((unhide HB).trans (b2.mono (unhide HB).size))
    clear K b2 p0 p1 p2 p3
    go_wp2_with fail
    try go_ret
    exact ⟨rfl, unhide HB2⟩
end Go.Proofs.Ytdcdgojcboinaaa

namespace Go.Proofs.Ytdcdgojcboinaaa
open Go.RowKit Go.Deep
set_option linter.unusedVariables false
section
variable {R : Nat} {st cols : List Int}

/-- Who lies in a set where each has k neighbours has a core of k. -/
theorem set_core (hm : MayP (R : Int) (R : Int) st cols) (hg : GraP st cols R R) {T : Nat → Bool} {k : Nat} (hT : StB R st cols k T) {v : Nat} (hv : v < R) (e : T v = true) : k ≤ coV R st cols v := by
  rcases Nat.eq_zero_or_pos k with h | h
  · omega
  · exact (inK_iff hm hg h hv).1 ⟨T, hT, e⟩
/-- In a set that is not empty some vertex has no more than the degeneracy. -/
theorem set_dgN (hm : MayP (R : Int) (R : Int) st cols) (hg : GraP st cols R R) {T : Nat → Bool} {k : Nat} (hT : StB R st cols k T) (hex : ∃ v, v < R ∧ T v = true) : k ≤ dgN R st cols := by
  obtain ⟨v, hv, e⟩ := hex
  exact Nat.le_trans (set_core hm hg hT hv e) ((core_most hm hg).1 v hv)
/-- Among all of a core of k each has k neighbours. -/
theorem high_set (hm : MayP (R : Int) (R : Int) st cols) (hg : GraP st cols R R) (k : Nat) : StB R st cols k (fun v => decide (k ≤ coV R st cols v)) := by
  intro v hv e
  rcases Nat.eq_zero_or_pos k with h | h
  · subst h
    exact Nat.zero_le _
  · have e' : k ≤ coV R st cols v := by simpa using e
    obtain ⟨T, hT, hTv⟩ := (inK_iff hm hg h hv).2 e'
    refine Nat.le_trans (hT v hv hTv) (amN_mono hm hv (fun u hu hTu => ?_) _ (Nat.le_refl _))
    simpa using set_core hm hg hT hu hTu
end
end Go.Proofs.Ytdcdgojcboinaaa

namespace Go.Proofs.Ytdcdgojcboinaaa
open Go.Shelf Go.RowKit Go.Deep
set_option linter.unusedVariables false

/-- A list of truths where it lies. -/
structure SlB (w : World) (a : Option Addr) (n c : Nat) (B : Nat → Bool) : Prop where
  le : n ≤ c
  cap : c ≤ maxLen
  cells : n = 0 ∨ ∃ b off, a = some ⟨b, off, none⟩ ∧ ∀ i, i < n → w.cell? ⟨b, off + i, none⟩ = some (.bool (B i))
theorem SlB.below {w w' : World} {a : Option Addr} {n c : Nat} {B : Nat → Bool} (h : SlB w a n c B) (hb : Below w.heap.size w w') : SlB w' a n c B :=
  ⟨h.le, h.cap, h.cells.imp id (fun ⟨b, off, e, k⟩ => ⟨b, off, e, fun i hi => (Chg.of_below hb).cell (S := fun _ => False) (fun x => x) (k i hi)⟩)⟩
theorem SlB.at {w : World} {a : Option Addr} {n c : Nat} {B : Nat → Bool} (h : SlB w a n c B) (hn : 0 < n) : ∃ b off, a = some ⟨b, off, none⟩ ∧ ∀ i, i < n → w.cell? ⟨b, off + i, none⟩ = some (.bool (B i)) := by
  rcases h.cells with e | k
  · omega
  · exact k
theorem SlB.of_row {w : World} {g R : Nat} {f : Nat → Bool} (h : RoV w g R (fun u => .bool (f u))) (hR : R ≤ 128) : SlB w (some ⟨g, 0, none⟩) R R f :=
  ⟨Nat.le_refl _, by unfold maxLen; omega, .inr ⟨g, 0, rfl, fun i hi => by rw [Nat.zero_add]; exact (h i hi).1⟩⟩
/-- The set that a list of truths tells. -/
def seB (n : Nat) (B : Nat → Bool) (u : Nat) : Bool := decide (u < n) && B u
set_option maxRecDepth 100000 in
set_option maxHeartbeats 8000000 in
/-- slopelaw11.inside. -/
theorem oinside_any (R : Nat) (a1 a2 : Option Addr) (n1 c1 n2 c2 : Nat) (a : Option Addr) (n c : Nat) (B : Nat → Bool) (st cols : List Int) (v : Nat) (w : World) (h1 : SlI w a1 n1 c1 st) (h2 : SlI w a2 n2 c2 cols) (hb1 : n1 ≤ 17592186044000) (hb2 : n2 ≤ 17592186044000) (hm : MayP (R : Int) (R : Int) st cols) (hv : v < R) (hin : SlB w a n c B) :
    Calls Try.prog 9 #[patV (R : Int) (R : Int) a1 n1 c1 a2 n2 c2, .int .i64 (v : Int), .slice a n c] w fun e w' => e = .returned (.int .i64 (amN (seB n B) (rowL st cols v) (rowL st cols v).length : Int)) ∧ Below w.heap.size w w' := by
  have hR : R ≤ 128 := by have := hm.head.fit; omega
  obtain ⟨wb, hwb⟩ : ∃ x, w.alloc (.cells #[.int .i64 (R : Int), .int .i64 (R : Int), .slice a1 n1 c1, .slice a2 n2 c2] 24) = x := ⟨_, rfl⟩
  have bb : Below w.heap.size w wb := by rw [← hwb]; exact (Below.refl _ _).alloc (Nat.le_refl _) _
  have hT := BoxP.made w #[.int .i64 (R : Int), .int .i64 (R : Int), .slice a1 n1 c1, .slice a2 n2 c2] 24
  rw [hwb] at hT
  have p0 := (hT.all 0 _ rfl).1
  have p1 := (hT.all 1 _ rfl).1
  have p2 := (hT.all 2 _ rfl).1
  have p3 := (hT.all 3 _ rfl).1
  have KN := hide (woneigh_list R (R : Int) a1 a2 n1 c1 n2 c2 st cols v wb (h1.below bb) (h2.below bb) hb1 hb2 hm hv)
  unfold patV at KN
  have HB := hide bb
  have HI := hide (hin.below bb)
  have HM := hide hm
  clear hT bb h1 h2 hm hin
  unfold patV
  go_enter Try.func9, Try.ntmps9
  go_wp2_with fail
  refine (unhide KN).mono ?_
  rintro _ w4 ⟨aN, cN, rfl, hsN, hlN, hbN, b4⟩
  obtain ⟨m, hm⟩ : ∃ m, (rowL st cols v).length = m := ⟨_, rfl⟩
  have HMM := hide hm
  rw [hm] at hsN hlN ⊢
  have HS := hide hsN
  have HI4 := hide ((unhide HI).below b4)
  have HB4 := hide ((unhide HB).trans (b4.mono (unhide HB).size))
  clear KN hsN hbN b4 hm p0 p1 p2 p3 HI
  go_wp2_with fail
  go_loopw [9, 7] (fun iv nv wr => ∃ i : Nat, i ≤ m ∧ iv = .int .i64 (i : Int) ∧ nv = .int .i64 (amN (seB n B) (rowL st cols v) i : Int) ∧ Hid (wr = w4)) (fun iv _ _ => m - (intOf iv).toNat)
  case atStart => exact ⟨0, Nat.zero_le _, rfl, rfl, hide rfl⟩
  case round =>
    obtain ⟨i, hi, rfl, rfl, HW⟩ := hrel
    have hwr := unhide HW
    subst hwr
    by_cases hin : i < m
    · have hin' : (i : Int) < (m : Int) := by omega
      obtain ⟨u, hu1, hu2⟩ := row_atW (unhide HM) hv (i := i) (by rw [unhide HMM]; exact hin)
      obtain ⟨bN, oN, rfl, hcN⟩ := (unhide HS).at (by omega)
      have sc := hcN i hin
      rw [hu1] at sc
      obtain ⟨z, hz⟩ : ∃ z, amN (seB n B) (rowL st cols v) i = z := ⟨_, rfl⟩
      have hzl : z ≤ m := by have := amN_le (seB n B) (rowL st cols v) i; omega
      have hst : amN (seB n B) (rowL st cols v) (i + 1) = z + (if seB n B u = true then 1 else 0) := by
        simp only [amN]
        rw [hu1, show ((u : Int)).toNat = u by omega, hz]
      have HST := hide hst
      rw [hz]
      have hw1 : IntKind.i64.wrap ((z : Int) + 1) = (z : Int) + 1 := by rw [IntKind.wrap_i64]; omega
      clear hcN hu1 hz hst
      by_cases hun : u < n
      · have hun' : (u : Int) < (n : Int) := by omega
        obtain ⟨bS, oS, rfl, hcS⟩ := (unhide HI4).at (by omega)
        have su := hcS u hun
        clear hcS
        obtain ⟨t, ht⟩ : ∃ t, B u = t := ⟨_, rfl⟩
        rw [ht] at su
        have HT := hide (show seB n B u = t by unfold seB; rw [ht]; simp [hun])
        clear ht
        cases t
        · go_wp2_with fail
          exact ⟨⟨i + 1, by omega, by (first | rfl | go_num), by rw [unhide HST, unhide HT]; simp, hide (by first | rfl | trivial)⟩, by simp [intOf]; omega⟩
        · go_wp2_with fail
          exact ⟨⟨i + 1, by omega, by (first | rfl | go_num), by rw [unhide HST, unhide HT]; simp, hide (by first | rfl | trivial)⟩, by simp [intOf]; omega⟩
      · have hun' : ¬ (u : Int) < (n : Int) := by omega
        have HT := hide (show seB n B u = false by unfold seB; simp [hun])
        go_wp2_with fail
        exact ⟨⟨i + 1, by omega, by (first | rfl | go_num), by rw [unhide HST, unhide HT]; simp, hide (by first | rfl | trivial)⟩, by simp [intOf]; omega⟩
    · obtain rfl : i = m := by omega
      have hin' : ¬ (i : Int) < (i : Int) := by omega
      go_wp2_with fail
      try go_ret
      exact ⟨by simp [unhide HMM], unhide HB4⟩
end Go.Proofs.Ytdcdgojcboinaaa
