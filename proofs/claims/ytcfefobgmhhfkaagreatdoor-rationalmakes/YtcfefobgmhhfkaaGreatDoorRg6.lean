/-
  rational.Int: contract; what Int answers.
-/
import Derived.Test.YtcfefobgmhhfkaaGreatDoorRa8
import Derived.Test.YtcfefobgmhhfkaaGreatDoorMy2
import Derived.Test.YtcfefobgmhhfkaaGreatDoorRa1
import Derived.Test.YtcfefobgmhhfkaaGreatDoorWrd
import Derived.Test.YtcfefobgmhhfkaaGreatDoorWr7
import Derived.Test.YtcfefobgmhhfkaaGreatDoorWr2
import Derived.Test.YtcfefobgmhhfkaaGreatDoorRg5
import Derived.Test.YtcfefobgmhhfkaaGreatDoorWi2
import Derived.Test.YtcfefobgmhhfkaaGreatDoorRl4
namespace Go.Proofs.YtcfefobgmhhfkaaGreatDoor
open Go.RowKit Go.Deep
set_option linter.unusedVariables false

/-- What Int answers. -/
def IntF (g : Bool) (x y : List Nat) : Int × Bool := if MayR g x y = true then (if y = [1] then (if g = true then (if val x ≤ 9223372036854775808 then (-(val x : Int), true) else (0, false)) else (if val x ≤ 9223372036854775807 then ((val x : Int), true) else (0, false))) else (0, false)) else (0, false)
theorem uint_two {x : List Nat} (m : MayL x = true) (h : x.length ≤ 2) : uintI x = (val x, true) := by
  unfold uintI
  rw [if_pos (by simp [m, h])]
  match x, h with
  | [], _ => rfl
  | [p], _ => simp [val]
  | [p, q], _ => simp [val]
  | p :: q :: r :: t, h => simp at h
theorem uint_long {x : List Nat} (h : ¬ x.length ≤ 2) : uintI x = (0, false) := by
  unfold uintI
  simp [h]
theorem val_two {x : List Nat} (ox : Ok x) (h : x.length ≤ 2) : val x < 18446744073709551616 := by
  have h1 := val_lt ox
  exact Nat.lt_of_lt_of_le h1 (Nat.le_trans (Nat.pow_le_pow_right (by decide) h) (by decide))
theorem val_three {x : List Nat} (ox : Ok x) (nx : Norm x) (h : ¬ x.length ≤ 2) : 18446744073709551616 ≤ val x := by
  apply Nat.le_of_not_lt
  intro hv
  exact h (rep_len ⟨ox, nx, rfl⟩ hv)

set_option maxRecDepth 1000000 in
set_option maxHeartbeats 16000000 in
/-- rational.Int. -/
theorem ratInt_any (g : Bool) (a b : Option Addr) (n c m d : Nat) (x y : List Nat) (w : World) (hx : Sl w a n c x) (hy : Sl w b m d y) (ox : Ok x) (oy : Ok y) (hT : Tab64 w) :
    Calls Tryz.prog 26 #[ratV g a n c b m d] w fun e w' => e = .returned (.tuple #[.int .i64 (IntF g x y).1, .bool (IntF g x y).2]) ∧ Below w.heap.size w w' := by
  obtain ⟨⟨KI, KB⟩, hF⟩ : ∃ r, IntF g x y = r := ⟨_, rfl⟩
  rw [hF]
  dsimp only
  have bx := Box.made w g a n c b m d
  obtain ⟨wa, hwa⟩ : ∃ wa, ratBox w g a n c b m d = wa := ⟨_, rfl⟩
  rw [hwa] at bx
  have hba : Below w.heap.size w wa := by rw [← hwa]; exact (Below.refl _ _).alloc (Nat.le_refl _) _
  unfold ratBox at hwa
  have p0 := bx.d0
  have p1 := bx.d1
  have p2 := bx.d2
  have KM := ratMay_any g a b n c m d x y wa (hx.below hba) (hy.below hba) ox oy (hT.below hba)
  have HS := hide (And.intro (hx.below hba) (And.intro (hy.below hba) (And.intro ox oy)))
  have HBa := hide hba
  unfold ratV at KM ⊢
  cases hm : MayR g x y
  · rw [hm] at KM
    have HKM := hide KM
    have e := hF.symm.trans (show IntF g x y = (0, false) from by unfold IntF; rw [hm]; rfl)
    cases e
    clear KM hx hy hT bx hba hm hF ox oy
    go_enter Tryz.func26, Tryz.ntmps26
    go_wp2_with fail
    refine (unhide HKM).mono ?_
    rintro _ w3 ⟨rfl, b3⟩
    have f0 := (b3.cell (p := ⟨w.heap.size, 0, none⟩) (World.block_lt_of_cell? _ _ p0)).trans p0
    have f1 := (b3.cell (p := ⟨w.heap.size, 1, none⟩) (World.block_lt_of_cell? _ _ p1)).trans p1
    have f2 := (b3.cell (p := ⟨w.heap.size, 2, none⟩) (World.block_lt_of_cell? _ _ p2)).trans p2
    have HB3 := hide ((unhide HBa).trans (b3.mono (unhide HBa).size))
    clear b3
    go_wp2_with fail
    go_ret2
    exact ⟨rfl, (unhide HB3)⟩
  · rw [hm] at KM
    have HKM := hide KM
    have hmx := (MayR.parts hm).1
    by_cases h1 : y = [1]
    · have hl := hx.len
      obtain ⟨V, hV⟩ : ∃ V, val x = V := ⟨_, rfl⟩
      by_cases h2 : x.length ≤ 2
      · have hv2 := val_two ox h2
        rw [hV] at hv2
        have hU := uint_two hmx h2
        rw [hV] at hU
        cases g
        · by_cases h3 : V ≤ 9223372036854775807
          · have e := hF.symm.trans (show IntF false x y = ((V : Int), true) from by unfold IntF; rw [if_pos hm, if_pos h1, if_neg (by decide), hV, if_pos h3])
            cases e
            have t3 : (V : Int) ≤ 9223372036854775807 := by omega
            have t4 : IntKind.i64.wrap (V : Int) = (V : Int) := by rw [IntKind.wrap_i64]; omega
            have hdd : decide (y = [1]) = true := decide_eq_true h1
            have HU := hide hU
            clear KM hx hy hT bx hba hm hF ox oy hmx h1 h2 hU h3 hV hl
            go_enter Tryz.func26, Tryz.ntmps26
            go_wp2_with fail
            refine (unhide HKM).mono ?_
            rintro _ w3 ⟨rfl, b3⟩
            have f0 := (b3.cell (p := ⟨w.heap.size, 0, none⟩) (World.block_lt_of_cell? _ _ p0)).trans p0
            have f1 := (b3.cell (p := ⟨w.heap.size, 1, none⟩) (World.block_lt_of_cell? _ _ p1)).trans p1
            have f2 := (b3.cell (p := ⟨w.heap.size, 2, none⟩) (World.block_lt_of_cell? _ _ p2)).trans p2
            have HB3 := hide ((unhide HBa).trans (b3.mono (unhide HBa).size))
            have K := isOne_any b m d y w3 ((unhide HS).2.1.below b3) (unhide HS).2.2.2
            rw [hdd] at K
            have HKO := hide K
            have K2 := nuint_all a n c x w3 ((unhide HS).1.below b3) (unhide HS).2.2.1
            rw [unhide HU] at K2
            dsimp only at K2
            have HKU := hide K2
            clear b3 K K2 hdd
            go_wp2_with fail
            refine (unhide HKO).mono ?_
            rintro _ wq ⟨rfl, hwq⟩
            obtain rfl := hwq.symm
            clear hwq
            go_wp2_with fail
            refine (unhide HKU).mono ?_
            rintro _ wq ⟨rfl, hwq⟩
            obtain rfl := hwq.symm
            clear hwq
            go_wp2_with fail
            go_ret2
            refine ⟨?_, unhide HB3⟩
            first | rfl | rw [t4]
          · have e := hF.symm.trans (show IntF false x y = (0, false) from by unfold IntF; rw [if_pos hm, if_pos h1, if_neg (by decide), hV, if_neg h3])
            cases e
            have t3 : ¬ (V : Int) ≤ 9223372036854775807 := by omega
            have hdd : decide (y = [1]) = true := decide_eq_true h1
            have HU := hide hU
            clear KM hx hy hT bx hba hm hF ox oy hmx h1 h2 hU h3 hV hl
            go_enter Tryz.func26, Tryz.ntmps26
            go_wp2_with fail
            refine (unhide HKM).mono ?_
            rintro _ w3 ⟨rfl, b3⟩
            have f0 := (b3.cell (p := ⟨w.heap.size, 0, none⟩) (World.block_lt_of_cell? _ _ p0)).trans p0
            have f1 := (b3.cell (p := ⟨w.heap.size, 1, none⟩) (World.block_lt_of_cell? _ _ p1)).trans p1
            have f2 := (b3.cell (p := ⟨w.heap.size, 2, none⟩) (World.block_lt_of_cell? _ _ p2)).trans p2
            have HB3 := hide ((unhide HBa).trans (b3.mono (unhide HBa).size))
            have K := isOne_any b m d y w3 ((unhide HS).2.1.below b3) (unhide HS).2.2.2
            rw [hdd] at K
            have HKO := hide K
            have K2 := nuint_all a n c x w3 ((unhide HS).1.below b3) (unhide HS).2.2.1
            rw [unhide HU] at K2
            dsimp only at K2
            have HKU := hide K2
            clear b3 K K2 hdd
            go_wp2_with fail
            refine (unhide HKO).mono ?_
            rintro _ wq ⟨rfl, hwq⟩
            obtain rfl := hwq.symm
            clear hwq
            go_wp2_with fail
            refine (unhide HKU).mono ?_
            rintro _ wq ⟨rfl, hwq⟩
            obtain rfl := hwq.symm
            clear hwq
            go_wp2_with fail
            go_ret2
            refine ⟨?_, unhide HB3⟩
            first | rfl | rw [t4]
        · by_cases h3 : V ≤ 9223372036854775808
          · have e := hF.symm.trans (show IntF true x y = (-(V : Int), true) from by unfold IntF; rw [if_pos hm, if_pos h1, if_pos rfl, hV, if_pos h3])
            cases e
            have t3 : (V : Int) ≤ 9223372036854775808 := by omega
            have t4 : IntKind.i64.wrap (IntKind.u64.wrap (-(V : Int))) = -(V : Int) := by rw [IntKind.wrap_i64, IntKind.wrap_u64]; omega
            have hdd : decide (y = [1]) = true := decide_eq_true h1
            have HU := hide hU
            clear KM hx hy hT bx hba hm hF ox oy hmx h1 h2 hU h3 hV hl
            go_enter Tryz.func26, Tryz.ntmps26
            go_wp2_with fail
            refine (unhide HKM).mono ?_
            rintro _ w3 ⟨rfl, b3⟩
            have f0 := (b3.cell (p := ⟨w.heap.size, 0, none⟩) (World.block_lt_of_cell? _ _ p0)).trans p0
            have f1 := (b3.cell (p := ⟨w.heap.size, 1, none⟩) (World.block_lt_of_cell? _ _ p1)).trans p1
            have f2 := (b3.cell (p := ⟨w.heap.size, 2, none⟩) (World.block_lt_of_cell? _ _ p2)).trans p2
            have HB3 := hide ((unhide HBa).trans (b3.mono (unhide HBa).size))
            have K := isOne_any b m d y w3 ((unhide HS).2.1.below b3) (unhide HS).2.2.2
            rw [hdd] at K
            have HKO := hide K
            have K2 := nuint_all a n c x w3 ((unhide HS).1.below b3) (unhide HS).2.2.1
            rw [unhide HU] at K2
            dsimp only at K2
            have HKU := hide K2
            clear b3 K K2 hdd
            go_wp2_with fail
            refine (unhide HKO).mono ?_
            rintro _ wq ⟨rfl, hwq⟩
            obtain rfl := hwq.symm
            clear hwq
            go_wp2_with fail
            refine (unhide HKU).mono ?_
            rintro _ wq ⟨rfl, hwq⟩
            obtain rfl := hwq.symm
            clear hwq
            go_wp2_with fail
            go_ret2
            refine ⟨?_, unhide HB3⟩
            first | rfl | rw [t4]
          · have e := hF.symm.trans (show IntF true x y = (0, false) from by unfold IntF; rw [if_pos hm, if_pos h1, if_pos rfl, hV, if_neg h3])
            cases e
            have t3 : ¬ (V : Int) ≤ 9223372036854775808 := by omega
            have hdd : decide (y = [1]) = true := decide_eq_true h1
            have HU := hide hU
            clear KM hx hy hT bx hba hm hF ox oy hmx h1 h2 hU h3 hV hl
            go_enter Tryz.func26, Tryz.ntmps26
            go_wp2_with fail
            refine (unhide HKM).mono ?_
            rintro _ w3 ⟨rfl, b3⟩
            have f0 := (b3.cell (p := ⟨w.heap.size, 0, none⟩) (World.block_lt_of_cell? _ _ p0)).trans p0
            have f1 := (b3.cell (p := ⟨w.heap.size, 1, none⟩) (World.block_lt_of_cell? _ _ p1)).trans p1
            have f2 := (b3.cell (p := ⟨w.heap.size, 2, none⟩) (World.block_lt_of_cell? _ _ p2)).trans p2
            have HB3 := hide ((unhide HBa).trans (b3.mono (unhide HBa).size))
            have K := isOne_any b m d y w3 ((unhide HS).2.1.below b3) (unhide HS).2.2.2
            rw [hdd] at K
            have HKO := hide K
            have K2 := nuint_all a n c x w3 ((unhide HS).1.below b3) (unhide HS).2.2.1
            rw [unhide HU] at K2
            dsimp only at K2
            have HKU := hide K2
            clear b3 K K2 hdd
            go_wp2_with fail
            refine (unhide HKO).mono ?_
            rintro _ wq ⟨rfl, hwq⟩
            obtain rfl := hwq.symm
            clear hwq
            go_wp2_with fail
            refine (unhide HKU).mono ?_
            rintro _ wq ⟨rfl, hwq⟩
            obtain rfl := hwq.symm
            clear hwq
            go_wp2_with fail
            go_ret2
            refine ⟨?_, unhide HB3⟩
            first | rfl | rw [t4]
      · have hv2 := val_three ox (MayL.norm hmx) h2
        have hU := uint_long h2
        have e := hF.symm.trans (show IntF g x y = (0, false) from by
          unfold IntF
          rw [if_pos hm, if_pos h1]
          split
          · rw [if_neg (by omega)]
          · rw [if_neg (by omega)])
        cases e
        cases g
        · have hdd : decide (y = [1]) = true := decide_eq_true h1
          have HU := hide hU
          clear KM hx hy hT bx hba hm hF ox oy hmx h1 h2 hU hv2 hV hl
          go_enter Tryz.func26, Tryz.ntmps26
          go_wp2_with fail
          refine (unhide HKM).mono ?_
          rintro _ w3 ⟨rfl, b3⟩
          have f0 := (b3.cell (p := ⟨w.heap.size, 0, none⟩) (World.block_lt_of_cell? _ _ p0)).trans p0
          have f1 := (b3.cell (p := ⟨w.heap.size, 1, none⟩) (World.block_lt_of_cell? _ _ p1)).trans p1
          have f2 := (b3.cell (p := ⟨w.heap.size, 2, none⟩) (World.block_lt_of_cell? _ _ p2)).trans p2
          have HB3 := hide ((unhide HBa).trans (b3.mono (unhide HBa).size))
          have K := isOne_any b m d y w3 ((unhide HS).2.1.below b3) (unhide HS).2.2.2
          rw [hdd] at K
          have HKO := hide K
          have K2 := nuint_all a n c x w3 ((unhide HS).1.below b3) (unhide HS).2.2.1
          rw [unhide HU] at K2
          dsimp only at K2
          have HKU := hide K2
          clear b3 K K2 hdd
          go_wp2_with fail
          refine (unhide HKO).mono ?_
          rintro _ wq ⟨rfl, hwq⟩
          obtain rfl := hwq.symm
          clear hwq
          go_wp2_with fail
          refine (unhide HKU).mono ?_
          rintro _ wq ⟨rfl, hwq⟩
          obtain rfl := hwq.symm
          clear hwq
          go_wp2_with fail
          go_ret2
          refine ⟨?_, unhide HB3⟩
          rfl
        · have hdd : decide (y = [1]) = true := decide_eq_true h1
          have HU := hide hU
          clear KM hx hy hT bx hba hm hF ox oy hmx h1 h2 hU hv2 hV hl
          go_enter Tryz.func26, Tryz.ntmps26
          go_wp2_with fail
          refine (unhide HKM).mono ?_
          rintro _ w3 ⟨rfl, b3⟩
          have f0 := (b3.cell (p := ⟨w.heap.size, 0, none⟩) (World.block_lt_of_cell? _ _ p0)).trans p0
          have f1 := (b3.cell (p := ⟨w.heap.size, 1, none⟩) (World.block_lt_of_cell? _ _ p1)).trans p1
          have f2 := (b3.cell (p := ⟨w.heap.size, 2, none⟩) (World.block_lt_of_cell? _ _ p2)).trans p2
          have HB3 := hide ((unhide HBa).trans (b3.mono (unhide HBa).size))
          have K := isOne_any b m d y w3 ((unhide HS).2.1.below b3) (unhide HS).2.2.2
          rw [hdd] at K
          have HKO := hide K
          have K2 := nuint_all a n c x w3 ((unhide HS).1.below b3) (unhide HS).2.2.1
          rw [unhide HU] at K2
          dsimp only at K2
          have HKU := hide K2
          clear b3 K K2 hdd
          go_wp2_with fail
          refine (unhide HKO).mono ?_
          rintro _ wq ⟨rfl, hwq⟩
          obtain rfl := hwq.symm
          clear hwq
          go_wp2_with fail
          refine (unhide HKU).mono ?_
          rintro _ wq ⟨rfl, hwq⟩
          obtain rfl := hwq.symm
          clear hwq
          go_wp2_with fail
          go_ret2
          refine ⟨?_, unhide HB3⟩
          rfl
    · have e := hF.symm.trans (show IntF g x y = (0, false) from by unfold IntF; rw [if_pos hm, if_neg h1])
      cases e
      have hdd : decide (y = [1]) = false := decide_eq_false h1
      clear KM hx hy hT bx hba hm hF ox oy hmx h1
      go_enter Tryz.func26, Tryz.ntmps26
      go_wp2_with fail
      refine (unhide HKM).mono ?_
      rintro _ w3 ⟨rfl, b3⟩
      have f0 := (b3.cell (p := ⟨w.heap.size, 0, none⟩) (World.block_lt_of_cell? _ _ p0)).trans p0
      have f1 := (b3.cell (p := ⟨w.heap.size, 1, none⟩) (World.block_lt_of_cell? _ _ p1)).trans p1
      have f2 := (b3.cell (p := ⟨w.heap.size, 2, none⟩) (World.block_lt_of_cell? _ _ p2)).trans p2
      have HB3 := hide ((unhide HBa).trans (b3.mono (unhide HBa).size))
      have K := isOne_any b m d y w3 ((unhide HS).2.1.below b3) (unhide HS).2.2.2
      rw [hdd] at K
      have HKO := hide K
      clear b3 K hdd
      go_wp2_with fail
      refine (unhide HKO).mono ?_
      rintro _ wq ⟨rfl, hwq⟩
      obtain rfl := hwq.symm
      clear hwq
      go_wp2_with fail
      go_ret2
      exact ⟨rfl, (unhide HB3)⟩

end Go.Proofs.YtcfefobgmhhfkaaGreatDoor

namespace Go.Proofs.YtcfefobgmhhfkaaGreatDoor
open Go.RowKit Go.Deep
set_option linter.unusedVariables false

set_option maxRecDepth 20000 in
set_option maxHeartbeats 16000000 in
/-- sloperef2.Int. -/
theorem wInt_any (g : Bool) (a b : Option Addr) (n c m d : Nat) (x y : List Nat) (w : World) (hx : Sl w a n c x) (hy : Sl w b m d y) (ox : Ok x) (oy : Ok y) :
    Calls Tryz.prog 28 #[ratV g a n c b m d] w fun e w' => e = .returned (.tuple #[.int .i64 (IntF g x y).1, .bool (IntF g x y).2]) ∧ Below w.heap.size w w' := by
  obtain ⟨⟨KI, KB⟩, hF⟩ : ∃ r, IntF g x y = r := ⟨_, rfl⟩
  rw [hF]
  dsimp only
  have bx := Box.made w g a n c b m d
  obtain ⟨wa, hwa⟩ : ∃ wa, ratBox w g a n c b m d = wa := ⟨_, rfl⟩
  rw [hwa] at bx
  have hba : Below w.heap.size w wa := by rw [← hwa]; exact (Below.refl _ _).alloc (Nat.le_refl _) _
  unfold ratBox at hwa
  have p0 := bx.d0
  have p1 := bx.d1
  have p2 := bx.d2
  have KM := wmay_any g a b n c m d x y wa (hx.below hba) (hy.below hba) ox oy
  have HS := hide (And.intro (hx.below hba) (And.intro (hy.below hba) (And.intro ox oy)))
  have HBa := hide hba
  have hl := hx.len
  have hly := hy.len
  unfold ratV at KM ⊢
  cases hm : MayR g x y
  · rw [hm] at KM
    have HKM := hide KM
    have e := hF.symm.trans (show IntF g x y = (0, false) from by unfold IntF; rw [hm]; rfl)
    cases e
    clear KM hx hy bx hba hm hF ox oy HS
    go_enter Tryz.func28, Tryz.ntmps28
    go_wp2_with fail
    refine (unhide HKM).mono ?_
    rintro _ w3 ⟨rfl, b3⟩
    have f0 := (b3.cell (p := ⟨w.heap.size, 0, none⟩) (World.block_lt_of_cell? _ _ p0)).trans p0
    have f1 := (b3.cell (p := ⟨w.heap.size, 1, none⟩) (World.block_lt_of_cell? _ _ p1)).trans p1
    have f2 := (b3.cell (p := ⟨w.heap.size, 2, none⟩) (World.block_lt_of_cell? _ _ p2)).trans p2
    have HB3 := hide ((unhide HBa).trans (b3.mono (unhide HBa).size))
    clear b3
    go_wp2_with fail
    go_ret2
    exact ⟨rfl, unhide HB3⟩
  · rw [hm] at KM
    have HKM := hide KM
    have hmx := (MayR.parts hm).1
    by_cases h1 : y = [1]
    · subst h1
      obtain rfl : m = 1 := by simpa using hly.symm
      obtain ⟨V, hV⟩ : ∃ V, val x = V := ⟨_, rfl⟩
      have HV := hide hV
      by_cases h2 : x.length ≤ 2
      · have hv2 := val_two ox h2
        rw [hV] at hv2
        have t2 : ¬ (2 : Int) < (n : Int) := by omega
        have HI := hide (show IntF g x [1] = (if g = true then (if V ≤ 9223372036854775808 then (-(V : Int), true) else (0, false)) else (if V ≤ 9223372036854775807 then ((V : Int), true) else (0, false))) from by unfold IntF; rw [if_pos hm, if_pos rfl, hV])
        have HF := hide hF
        have HV2 := hide hv2
        clear KM hx hy bx hba hm hF ox oy hmx hV hv2 h2
        go_enter Tryz.func28, Tryz.ntmps28
        go_wp2_with fail
        refine (unhide HKM).mono ?_
        rintro _ w3 ⟨rfl, b3⟩
        have f0 := (b3.cell (p := ⟨w.heap.size, 0, none⟩) (World.block_lt_of_cell? _ _ p0)).trans p0
        have f1 := (b3.cell (p := ⟨w.heap.size, 1, none⟩) (World.block_lt_of_cell? _ _ p1)).trans p1
        have f2 := (b3.cell (p := ⟨w.heap.size, 2, none⟩) (World.block_lt_of_cell? _ _ p2)).trans p2
        have HB3 := hide ((unhide HBa).trans (b3.mono (unhide HBa).size))
        obtain ⟨b2, o2, hbb, hc⟩ := ((unhide HS).2.1.below b3).cells.resolve_left (by simp)
        have c0 := hc 0 (by simp)
        rw [Nat.add_zero] at c0
        subst hbb
        clear hc
        have K2 := wsmall_any a n c x w3 ((unhide HS).1.below b3) (unhide HS).2.2.1 (by omega)
        rw [unhide HV] at K2
        have HKU := hide K2
        clear b3 K2
        go_wp2_with fail
        refine (unhide HKU).mono ?_
        rintro _ wq ⟨rfl, hwq⟩
        obtain rfl := hwq.symm
        clear hwq
        cases g
        · by_cases h3 : V ≤ 9223372036854775807
          · have e := (unhide HF).symm.trans ((unhide HI).trans (by rw [if_neg (by decide), if_pos h3]))
            cases e
            have t3 : (V : Int) < 9223372036854775808 := by omega
            have t4 : IntKind.i64.wrap (V : Int) = (V : Int) := by rw [IntKind.wrap_i64]; omega
            have t5 := t4
            clear HF HI h3
            go_wp2_with fail
            go_ret2
            refine ⟨?_, unhide HB3⟩
            first | rfl | rw [t4] | rw [t5]
          · have e := (unhide HF).symm.trans ((unhide HI).trans (by rw [if_neg (by decide), if_neg h3]))
            cases e
            have t3 : decide ((V : Int) < 9223372036854775808) = false := decide_eq_false (by omega)
            clear HF HI h3
            go_wp2_with fail
            go_ret2
            exact ⟨rfl, unhide HB3⟩
        · by_cases h3 : V ≤ 9223372036854775808
          · have e := (unhide HF).symm.trans ((unhide HI).trans (by rw [if_pos rfl, if_pos h3]))
            cases e
            have t3 : (V : Int) ≤ 9223372036854775808 := by omega
            have t4 : IntKind.i64.wrap (IntKind.u64.wrap (0 - (V : Int))) = -(V : Int) := by have := unhide HV2; rw [IntKind.wrap_i64, IntKind.wrap_u64]; omega
            have t5 : IntKind.i64.wrap (IntKind.u64.wrap (-(V : Int))) = -(V : Int) := by have := unhide HV2; rw [IntKind.wrap_i64, IntKind.wrap_u64]; omega
            clear HF HI h3
            go_wp2_with fail
            go_ret2
            refine ⟨?_, unhide HB3⟩
            first | rfl | rw [t4] | rw [t5]
          · have e := (unhide HF).symm.trans ((unhide HI).trans (by rw [if_pos rfl, if_neg h3]))
            cases e
            have t3 : ¬ (V : Int) ≤ 9223372036854775808 := by omega
            clear HF HI h3
            go_wp2_with fail
            go_ret2
            exact ⟨rfl, unhide HB3⟩
      · have hv2 := val_three ox (MayL.norm hmx) h2
        have t2 : (2 : Int) < (n : Int) := by omega
        have e := hF.symm.trans (show IntF g x [1] = (0, false) from by
          unfold IntF
          rw [if_pos hm, if_pos rfl]
          split
          · rw [if_neg (by omega)]
          · rw [if_neg (by omega)])
        cases e
        clear KM hx hy bx hba hm hF ox oy hmx hV HV h2 hv2
        go_enter Tryz.func28, Tryz.ntmps28
        go_wp2_with fail
        refine (unhide HKM).mono ?_
        rintro _ w3 ⟨rfl, b3⟩
        have f0 := (b3.cell (p := ⟨w.heap.size, 0, none⟩) (World.block_lt_of_cell? _ _ p0)).trans p0
        have f1 := (b3.cell (p := ⟨w.heap.size, 1, none⟩) (World.block_lt_of_cell? _ _ p1)).trans p1
        have f2 := (b3.cell (p := ⟨w.heap.size, 2, none⟩) (World.block_lt_of_cell? _ _ p2)).trans p2
        have HB3 := hide ((unhide HBa).trans (b3.mono (unhide HBa).size))
        obtain ⟨b2, o2, hbb, hc⟩ := ((unhide HS).2.1.below b3).cells.resolve_left (by simp)
        have c0 := hc 0 (by simp)
        rw [Nat.add_zero] at c0
        subst hbb
        clear hc
        clear b3
        go_wp2_with fail
        go_ret2
        exact ⟨rfl, unhide HB3⟩
    · have e := hF.symm.trans (show IntF g x y = (0, false) from by unfold IntF; rw [if_pos hm, if_neg h1])
      cases e
      by_cases h5 : m = 1
      · obtain ⟨q, rfl⟩ : ∃ q, y = [q] := by
          match y, hly with
          | [q], _ => exact ⟨q, rfl⟩
          | [], e => simp at e; omega
          | p :: q :: r, e => simp at e; omega
        subst h5
        have hq : q ≠ 1 := fun e => h1 (by rw [e])
        have t1 : ((q : Int) == 1) = false := by simp; omega
        have t2 : ((q : Int) != 1) = true := by simp; omega
        clear KM hx hy bx hba hm hF ox oy hmx h1 hq
        go_enter Tryz.func28, Tryz.ntmps28
        go_wp2_with fail
        refine (unhide HKM).mono ?_
        rintro _ w3 ⟨rfl, b3⟩
        have f0 := (b3.cell (p := ⟨w.heap.size, 0, none⟩) (World.block_lt_of_cell? _ _ p0)).trans p0
        have f1 := (b3.cell (p := ⟨w.heap.size, 1, none⟩) (World.block_lt_of_cell? _ _ p1)).trans p1
        have f2 := (b3.cell (p := ⟨w.heap.size, 2, none⟩) (World.block_lt_of_cell? _ _ p2)).trans p2
        have HB3 := hide ((unhide HBa).trans (b3.mono (unhide HBa).size))
        obtain ⟨b2, o2, hbb, hc⟩ := ((unhide HS).2.1.below b3).cells.resolve_left (by simp)
        have c0 := hc 0 (by simp)
        rw [Nat.add_zero] at c0
        subst hbb
        clear hc
        simp only [List.getD_cons_zero] at c0
        clear b3
        go_wp2_with fail
        go_ret2
        exact ⟨rfl, unhide HB3⟩
      · have t1 : ((m : Int) == 1) = false := by simp; omega
        have t2 : ((m : Int) != 1) = true := by simp; omega
        clear KM hx hy bx hba hm hF ox oy hmx h1 h5
        go_enter Tryz.func28, Tryz.ntmps28
        go_wp2_with fail
        refine (unhide HKM).mono ?_
        rintro _ w3 ⟨rfl, b3⟩
        have f0 := (b3.cell (p := ⟨w.heap.size, 0, none⟩) (World.block_lt_of_cell? _ _ p0)).trans p0
        have f1 := (b3.cell (p := ⟨w.heap.size, 1, none⟩) (World.block_lt_of_cell? _ _ p1)).trans p1
        have f2 := (b3.cell (p := ⟨w.heap.size, 2, none⟩) (World.block_lt_of_cell? _ _ p2)).trans p2
        have HB3 := hide ((unhide HBa).trans (b3.mono (unhide HBa).size))
        clear b3
        go_wp2_with fail
        go_ret2
        exact ⟨rfl, unhide HB3⟩

end Go.Proofs.YtcfefobgmhhfkaaGreatDoor

namespace Go.Proofs.YtcfefobgmhhfkaaGreatDoor
open Go.RowKit Go.Deep
set_option linter.unusedVariables false

theorem may_from (n : Int) (h1 : -9223372036854775808 ≤ n) (h2 : n ≤ 9223372036854775807) : MayR (decide (n < 0)) (limbs n.natAbs) [1] = true := by
  have hl : (limbs n.natAbs).length ≤ 2 := rep_len (limbs_rep _) (by omega)
  have m1 : MayL (limbs n.natAbs) = true := MayL.mk (limbs_norm _) (by omega)
  have m2 : MayL [1] = true := by decide
  have hz : decide (n < 0) = true → limbs n.natAbs ≠ [] := fun h e => by
    have := limbs_eq_nil.1 e
    have := of_decide_eq_true h
    omega
  unfold MayR
  rw [m1, m2, limbs_v]
  have v1 : val [1] = 1 := by simp [val]
  rw [v1]
  cases hd : decide (n < 0)
  · simp
  · simp [hz hd]
theorem intF_from (n : Int) (h1 : -9223372036854775808 ≤ n) (h2 : n ≤ 9223372036854775807) : IntF (decide (n < 0)) (limbs n.natAbs) [1] = (n, true) := by
  unfold IntF
  rw [if_pos (may_from n h1 h2), if_pos rfl, limbs_v]
  by_cases h : n < 0
  · rw [decide_eq_true h, if_pos rfl, if_pos (by omega)]
    congr 1
    omega
  · rw [decide_eq_false h, if_neg (by decide), if_pos (by omega)]
    congr 1
    omega
end Go.Proofs.YtcfefobgmhhfkaaGreatDoor

namespace Go.Proofs.YtcfefobgmhhfkaaGreatDoor
open Go.RowKit Go.Deep
set_option linter.unusedVariables false

set_option maxRecDepth 100000 in
set_option maxHeartbeats 64000000 in
theorem rationalMakes_all (neg : Bool) (a_t : Option Addr) (n_t c_t : Nat) (x_t : List Nat) (a_b : Option Addr) (n_b c_b : Nat) (x_b : List Nat) (i_n : Int) (g_a : Bool) (a_a : Option Addr) (n_a c_a : Nat) (x_a : List Nat) (b_a : Option Addr) (m_a d_a : Nat) (y_a : List Nat) (w : World) (hx_t : Sl w a_t n_t c_t x_t) (hx_b : Sl w a_b n_b c_b x_b) (hx_a : Sl w a_a n_a c_a x_a) (hy_a : Sl w b_a m_a d_a y_a) (ox_t : Ok x_t) (ox_b : Ok x_b) (ox_a : Ok x_a) (oy_a : Ok y_a) (z_t : n_t ≤ 35184372088000) (z_b : n_b ≤ 35184372088000) (z_a : n_a ≤ 35184372088000 ∧ m_a ≤ 35184372088000) (hl_n : -9223372036854775808 ≤ i_n) (hh_n : i_n ≤ 9223372036854775807) (hT : Tab64 w) :
    Calls Tryz.prog 4 #[.bool neg, .slice a_t n_t c_t, .slice a_b n_b c_b, .int .i64 i_n, ratV g_a a_a n_a c_a b_a m_a d_a] w fun e w' => e = .returned (.bool true) ∧ Below w.heap.size w w' := by
  obtain ⟨⟨⟨g_r, x_r, y_r⟩, e_r⟩, hFF⟩ : ∃ r, MakeF neg x_t x_b = r := ⟨_, rfl⟩
  obtain ⟨⟨KI, KB⟩, hKI⟩ : ∃ r, IntF g_a x_a y_a = r := ⟨_, rfl⟩
  have HFF := hide hFF
  have HKI := hide hKI
  have bx0 := Box.made w g_a a_a n_a c_a b_a m_a d_a
  obtain ⟨w1, hw1⟩ : ∃ x, ratBox w g_a a_a n_a c_a b_a m_a d_a = x := ⟨_, rfl⟩
  rw [hw1] at bx0
  have hb0 : Below w.heap.size w w1 := by rw [← hw1]; exact (Below.refl _ _).alloc (Nat.le_refl _) _
  have d0 := bx0.d0
  have d1 := bx0.d1
  have d2 := bx0.d2
  unfold ratBox at hw1
  have LL : ∀ r ∈ [(⟨a_t, n_t, c_t, x_t⟩ : Pc), (⟨a_b, n_b, c_b, x_b⟩ : Pc), (⟨a_a, n_a, c_a, x_a⟩ : Pc), (⟨b_a, m_a, d_a, y_a⟩ : Pc)], Sl w1 r.a r.n r.c r.xs := by
    intro r hr
    simp only [List.mem_cons, or_false, List.not_mem_nil] at hr
    rcases hr with rfl | rfl | rfl | rfl
    · exact hx_t.below hb0
    · exact hx_b.below hb0
    · exact hx_a.below hb0
    · exact hy_a.below hb0
  have HT := hide (hT.below hb0)
  have HB0 := hide hb0
  have hS0 := LawSt.begin (w := w1) (L := [(⟨a_t, n_t, c_t, x_t⟩ : Pc), (⟨a_b, n_b, c_b, x_b⟩ : Pc), (⟨a_a, n_a, c_a, x_a⟩ : Pc), (⟨b_a, m_a, d_a, y_a⟩ : Pc)]) (.cells #[.slice none 0 0, .slice none 0 0, .slice none 0 0, .slice none 0 0, .slice none 0 0, .slice none 0 0, .slice none 0 0, .slice none 0 0, .slice none 0 0, .slice none 0 0, .slice none 0 0, .slice none 0 0, .slice none 0 0, .slice none 0 0, .slice none 0 0, .slice none 0 0, .slice none 0 0, .slice none 0 0, .slice none 0 0, .slice none 0 0] 58) rfl LL
  obtain ⟨wg, hwg⟩ : ∃ x, w1.alloc (.cells #[.slice none 0 0, .slice none 0 0, .slice none 0 0, .slice none 0 0, .slice none 0 0, .slice none 0 0, .slice none 0 0, .slice none 0 0, .slice none 0 0, .slice none 0 0, .slice none 0 0, .slice none 0 0, .slice none 0 0, .slice none 0 0, .slice none 0 0, .slice none 0 0, .slice none 0 0, .slice none 0 0, .slice none 0 0, .slice none 0 0] 58) = x := ⟨_, rfl⟩
  rw [hwg] at hS0
  have HS0 := hide hS0
  have HOK := hide (And.intro ox_t (And.intro ox_b (And.intro ox_a oy_a)))
  have HZ := hide (And.intro z_t (And.intro z_b z_a))
  have HN := hide (And.intro hl_n hh_n)
  clear hx_t hx_b hx_a hy_a ox_t ox_b ox_a oy_a z_t z_b z_a hl_n hh_n hT hb0 bx0 LL hS0 hFF hKI
  unfold ratV
  go_enter Tryz.func4, Tryz.ntmps4
  go_wp2_with fail
  refine ((unhide HS0).natC ⟨a_t, n_t, c_t, x_t⟩ (.head _) (unhide HZ).1 (by simp)).mono ?_
  rintro _ w2 ⟨u0, u1, E1, rfl, hS1, _, _, _⟩
  have HS1 := hide hS1
  clear hS1 HS0
  go_wp2_with fail
  refine ((unhide HS1).natC ⟨a_b, n_b, c_b, x_b⟩ (.tail _ (.tail _ (.head _))) (unhide HZ).2.1 (by simp)).mono ?_
  rintro _ w3 ⟨v0, v1, E2, rfl, hS2, _, _, _⟩
  have HS2 := hide hS2
  clear hS2 HS1
  go_wp2_with fail
  have K := ratMake_F neg (some ⟨E1.b, 0, none⟩) (some ⟨E2.b, 0, none⟩) n_t E1.c n_b E2.c x_t x_b w3 ((unhide HS2).sl _ (.tail _ (.head _))) ((unhide HS2).sl _ (.head _)) (unhide HOK).1 (unhide HOK).2.1 ((unhide HT).below (unhide HS2).bel)
  rw [unhide HFF] at K
  unfold ResF at K
  dsimp only at K
  refine K.mono ?_
  clear K
  rintro _ w4 ⟨v, rfl, ar, nr, cr, br, mr, dr, rfl, sx, sy, nx, ny, hb⟩
  unfold ratV
  obtain ⟨w5, hw5⟩ : ∃ x, w4.alloc (.cells #[.bool g_r, .slice ar nr cr, .slice br mr dr] 25) = x := ⟨_, rfl⟩
  have hal : Below w4.heap.size w4 w5 := by rw [← hw5]; exact (Below.refl _ _).alloc (Nat.le_refl _) _
  have TR := hide (show Tri w5 w4.heap.size (.bool g_r) (.slice ar nr cr) (.slice br mr dr) by rw [← hw5]; exact Tri.made _ _ _ _ _)
  have LR := hide (And.intro (sx.below hal) (And.intro (sy.below hal) (And.intro nx ny)))
  have HB5 := hide (hb.trans (hal.mono hb.size))
  have HZ34 := hide (show w3.heap.size ≤ w4.heap.size from hb.size)
  clear sx sy nx ny hb hal
  go_wp2_with fail
  have hS5 := (unhide HS2).keep (unhide HB5)
  have K := wMake_any neg a_t a_b n_t c_t n_b c_b x_t x_b w5 (hS5.sl _ (.tail _ (.tail _ (.head _)))) (hS5.sl _ (.tail _ (.tail _ (.tail _ (.head _))))) (unhide HOK).1 (unhide HOK).2.1
  rw [unhide HFF] at K
  unfold ResF at K
  dsimp only at K
  refine K.mono ?_
  clear K hS5
  rintro _ w6 ⟨v, rfl, as_, ns, cs, bs, ms, ds, rfl, sx, sy, nx, ny, hb⟩
  unfold ratV
  obtain ⟨w7, hw7⟩ : ∃ x, w6.alloc (.cells #[.bool g_r, .slice as_ ns cs, .slice bs ms ds] 25) = x := ⟨_, rfl⟩
  have hal : Below w6.heap.size w6 w7 := by rw [← hw7]; exact (Below.refl _ _).alloc (Nat.le_refl _) _
  have TS := hide (show Tri w7 w6.heap.size (.bool g_r) (.slice as_ ns cs) (.slice bs ms ds) by rw [← hw7]; exact Tri.made _ _ _ _ _)
  have hb7 := hb.trans (hal.mono hb.size)
  have TR7 := hide ((unhide TR).keep hb7)
  have HB7 := hide ((unhide HB5).trans (hb7.mono (unhide HB5).size))
  have hz5 := (unhide HB5).size
  have LS := hide (show Sl w7 as_ ns cs x_r ∧ Sl w7 bs ms ds y_r ∧ NewAt w3.heap.size as_ ∧ NewAt w3.heap.size bs from ⟨sx.below hal, sy.below hal, fun p hp => Nat.le_trans hz5 (nx p hp), fun p hp => Nat.le_trans hz5 (ny p hp)⟩)
  have LR7 := hide (show Sl w7 ar nr cr x_r ∧ Sl w7 br mr dr y_r ∧ NewAt w3.heap.size ar ∧ NewAt w3.heap.size br from ⟨(unhide LR).1.below hb7, (unhide LR).2.1.below hb7, (unhide LR).2.2.1, (unhide LR).2.2.2⟩)
  have HRB := hide (show w3.heap.size ≤ w4.heap.size ∧ w3.heap.size ≤ w6.heap.size from ⟨unhide HZ34, Nat.le_trans hz5 hb.size⟩)
  clear sx sy nx ny hb hal hb7 hz5 TR LR
  have hS7 := (unhide HS2).keep (unhide HB7)
  have p0 := (hS7.bel.cell (p := ⟨w.heap.size, 0, none⟩) (World.block_lt_of_cell? _ _ d0)).trans d0
  have p1 := (hS7.bel.cell (p := ⟨w.heap.size, 1, none⟩) (World.block_lt_of_cell? _ _ d1)).trans d1
  have p2 := (hS7.bel.cell (p := ⟨w.heap.size, 2, none⟩) (World.block_lt_of_cell? _ _ d2)).trans d2
  have HS7 := hide hS7
  clear hS7
  go_wp2_with fail
  clear p0 p1 p2
  have K := grat_all (unhide HS7) g_a ⟨a_a, n_a, c_a, x_a⟩ ⟨b_a, m_a, d_a, y_a⟩ (.tail _ (.tail _ (.tail _ (.tail _ (.head _))))) (.tail _ (.tail _ (.tail _ (.tail _ (.tail _ (.head _)))))) (unhide HZ).2.2.1 (unhide HZ).2.2.2 (by simp)
  unfold ratV at K
  refine K.mono ?_
  clear K
  rintro _ w8 ⟨v, rfl, y0, y1, E3, E4, rfl, hS8, hC8, hs8⟩
  have hO : ∀ k, w3.heap.size ≤ k → ¬ Own w1.heap.size v0 v1 k := fun k hk ho => by have := (unhide HS2).giv.own_lt ho; omega
  have TR8 := hide ((unhide TR7).chgW hC8 (hO _ (unhide HRB).1))
  have TS8 := hide ((unhide TS).chgW hC8 (hO _ (unhide HRB).2))
  have LR8 := hide (And.intro ((unhide LR7).1.chg hC8 (fun x hx hn => hO x.block ((unhide LR7).2.2.1 x hx))) ((unhide LR7).2.1.chg hC8 (fun x hx hn => hO x.block ((unhide LR7).2.2.2 x hx))))
  have LS8 := hide (And.intro ((unhide LS).1.chg hC8 (fun x hx hn => hO x.block ((unhide LS).2.2.1 x hx))) ((unhide LS).2.1.chg hC8 (fun x hx hn => hO x.block ((unhide LS).2.2.2 x hx))))
  have HS8 := hide hS8
  clear hS8 hC8 hs8 hO HS7 TR7 TS LR7 LS HRB HB7 HB5 HZ34 HS2
  go_wp2_with fail
  have K := ratInt_any g_a (some ⟨E3.b, 0, none⟩) (some ⟨E4.b, 0, none⟩) n_a E3.c m_a E4.c x_a y_a w8 ((unhide HS8).sl _ (.tail _ (.head _))) ((unhide HS8).sl _ (.head _)) (unhide HOK).2.2.1 (unhide HOK).2.2.2 ((unhide HT).below (unhide HS8).bel)
  rw [unhide HKI] at K
  dsimp only at K
  unfold ratV at K
  refine K.mono ?_
  clear K
  rintro _ w9 ⟨rfl, hb⟩
  have HB9 := hide hb
  have hS9 := (unhide HS8).keep hb
  have p0 := (hS9.bel.cell (p := ⟨w.heap.size, 0, none⟩) (World.block_lt_of_cell? _ _ d0)).trans d0
  have p1 := (hS9.bel.cell (p := ⟨w.heap.size, 1, none⟩) (World.block_lt_of_cell? _ _ d1)).trans d1
  have p2 := (hS9.bel.cell (p := ⟨w.heap.size, 2, none⟩) (World.block_lt_of_cell? _ _ d2)).trans d2
  have HSI := hide (And.intro (hS9.sl _ (.tail _ (.tail _ (.tail _ (.tail _ (.tail _ (.tail _ (.head _)))))))) (hS9.sl _ (.tail _ (.tail _ (.tail _ (.tail _ (.tail _ (.tail _ (.tail _ (.head _))))))))))
  clear hb hS9
  go_wp2_with fail
  clear p0 p1 p2
  have K := wInt_any g_a a_a b_a n_a c_a m_a d_a x_a y_a w9 (unhide HSI).1 (unhide HSI).2 (unhide HOK).2.2.1 (unhide HOK).2.2.2
  rw [unhide HKI] at K
  dsimp only at K
  unfold ratV at K
  refine K.mono ?_
  clear K HSI
  rintro _ w10 ⟨rfl, hb⟩
  have HB10 := hide ((unhide HB9).trans (hb.mono (unhide HB9).size))
  clear hb HB9
  go_wp2_with fail
  have K := fromInt_any i_n (unhide HN).1 (unhide HN).2 w10
  have KN := hide (intF_from i_n (unhide HN).1 (unhide HN).2)
  have HFI := hide (fun (W : World) => fromInt_any i_n (unhide HN).1 (unhide HN).2 W)
  have HGI := hide (fun (W : World) => wFromInt_any i_n (unhide HN).1 (unhide HN).2 W)
  obtain ⟨gn, hgn⟩ : ∃ b, decide (i_n < 0) = b := ⟨_, rfl⟩
  obtain ⟨xn, hxn⟩ : ∃ l, limbs i_n.natAbs = l := ⟨_, rfl⟩
  rw [hgn, hxn] at K KN HFI HGI
  have HXN := hide (show Ok xn from by rw [← hxn]; exact limbs_ok _)
  clear hgn hxn
  refine K.mono ?_
  clear K
  rintro _ w11 ⟨v, rfl, af, nf, cf, bf, mf, df, rfl, sf, tf, _, _, hb⟩
  unfold ratV
  have HB11 := hide ((unhide HB10).trans (hb.mono (unhide HB10).size))
  have HF11 := hide (And.intro sf tf)
  clear hb HB10 sf tf
  go_wp2_with fail
  have K := ratInt_any gn af bf nf cf mf df xn [1] w11 (unhide HF11).1 (unhide HF11).2 (unhide HXN) (ok_one (by decide)) (((unhide HT).below (unhide HS8).bel).below (unhide HB11))
  rw [unhide KN] at K
  dsimp only at K
  unfold ratV at K
  refine K.mono ?_
  clear K HF11
  rintro _ w12 ⟨rfl, hb⟩
  have hb12 := (unhide HB11).trans (hb.mono (unhide HB11).size)
  have HB12 := hide hb12
  have tr := (unhide TR8).keep hb12
  have ts := (unhide TS8).keep hb12
  have r0 := tr.c0
  have r1 := tr.c1
  have r2 := tr.c2
  have s0 := ts.c0
  have s1 := ts.c1
  have s2 := ts.c2
  have ek : (KI == KI) = true := by simp
  have eb : (KB == KB) = true := by simp
  have en : (i_n == i_n) = true := by simp
  clear hb hb12 tr ts HB11
  go_wp2_with fail
  clear r0 r1 r2 s0 s1 s2
  have K := like_any g_r ar br as_ bs nr cr mr dr ns cs ms ds x_r y_r e_r w12 ((unhide LR8).1.below (unhide HB12)) ((unhide LR8).2.below (unhide HB12)) ((unhide LS8).1.below (unhide HB12)) ((unhide LS8).2.below (unhide HB12))
  unfold ratV at K
  refine K.mono ?_
  clear K
  rintro _ w13 ⟨rfl, hb⟩
  have HB13 := hide ((unhide HB12).trans (hb.mono (unhide HB12).size))
  clear hb HB12 LR8 LS8 TR8 TS8
  go_wp2_with fail
  refine (unhide HFI w13).mono ?_
  rintro _ w14 ⟨v, rfl, a1, n1, c1, b1, m1, d1', rfl, s1, t1, _, _, hb⟩
  unfold ratV
  have HB14 := hide ((unhide HB13).trans (hb.mono (unhide HB13).size))
  have HL1 := hide (And.intro s1 t1)
  clear hb s1 t1 HB13
  go_wp2_with fail
  refine (unhide HGI w14).mono ?_
  rintro _ w15 ⟨v, rfl, a2, n2, c2, b2, m2, d2', rfl, s2, t2, _, _, hb⟩
  unfold ratV
  have HB15 := hide ((unhide HB14).trans (hb.mono (unhide HB14).size))
  have HL2 := hide (And.intro ((unhide HL1).1.below hb) (And.intro ((unhide HL1).2.below hb) (And.intro s2 t2)))
  clear hb s2 t2 HB14 HL1
  go_wp2_with fail
  have K := sameRat_any gn gn a1 b1 a2 b2 n1 c1 m1 d1' n2 c2 m2 d2' xn [1] xn [1] w15 (unhide HL2).1 (unhide HL2).2.1 (unhide HL2).2.2.1 (unhide HL2).2.2.2
  rw [show sameR gn xn [1] gn xn [1] = true from by unfold sameR; simp] at K
  unfold ratV at K
  refine K.mono ?_
  clear K HL2
  rintro _ w16 ⟨rfl, hb⟩
  have HS16 := hide ((unhide HS8).keep ((unhide HB15).trans (hb.mono (unhide HB15).size)))
  clear hb HB15
  go_wp2_with fail
  refine (unhide HS16).intact.mono ?_
  rintro _ w17 ⟨rfl, hS⟩
  have HS17 := hide hS
  clear hS HS16
  go_wp2_with fail
  refine (ralive_any w17 ((unhide HT).below (unhide HS17).bel)).mono ?_
  rintro _ w18 ⟨rfl, hb⟩
  have HB18 := hide ((unhide HS17).bel.trans (hb.mono (unhide HS17).bel.size))
  clear hb HS17
  go_wp2_with fail
  go_ret
  exact ⟨rfl, (unhide HB0).trans ((unhide HB18).mono (unhide HB0).size)⟩
end Go.Proofs.YtcfefobgmhhfkaaGreatDoor
