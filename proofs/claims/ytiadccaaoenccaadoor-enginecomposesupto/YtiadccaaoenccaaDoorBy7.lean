/- Wrc -/
import Derived.Test.YtiadccaaoenccaaDoorWrb
import Derived.Test.YtiadccaaoenccaaDoorWi4
import Derived.Test.YtiadccaaoenccaaDoorWr1
import Derived.Deep.LoopGhost
import Derived.Test.YtiadccaaoenccaaDoorRd1
import Derived.Test.YtiadccaaoenccaaDoorRa2
import Derived.Test.YtiadccaaoenccaaDoorNMul
import Derived.Laws.BytesArg
namespace Go.Proofs.YtiadccaaoenccaaDoor
open Go.RowKit Go.Deep
set_option linter.unusedVariables false
set_option maxHeartbeats 400000 in
theorem wmay_nil (a : Option Addr) (cap : Nat) (w : World) :
    Calls Tryd.prog 54 #[.slice a 0 cap] w fun e w' => e = .returned (.bool true) ∧ w' = w := by
  go_enter Tryd.func54, Tryd.ntmps54
  go_wp2
  go_ret
  exact ⟨rfl, rfl⟩
set_option maxHeartbeats 400000 in
theorem wmay_long (a : Option Addr) (len cap : Nat) (w : World) (h : 2048 < len) (hm : len ≤ maxLen) :
    Calls Tryd.prog 54 #[.slice a len cap] w fun e w' => e = .returned (.bool false) ∧ w' = w := by
  unfold maxLen at hm
  go_enter Tryd.func54, Tryd.ntmps54
  go_wp2
  go_ret
  exact ⟨rfl, rfl⟩
set_option maxHeartbeats 400000 in
theorem wmay_some (b off : Nat) (n cap : Nat) (x : Int) (w : World) (h : (n:Int) ≤ 2048) (h0 : 0 < n) (hc : w.cell? ⟨b, off + (n-1), none⟩ = some (.int .u32 x)) :
    Calls Tryd.prog 54 #[.slice (some ⟨b, off, none⟩) n cap] w fun e w' => e = .returned (.bool (x != 0)) ∧ w' = w := by
  have h1 : ((n:Int) == 0) = false := by simp; omega
  have h2 : ((n:Int) - 1).toNat = n - 1 := by omega
  go_enter Tryd.func54, Tryd.ntmps54
  go_wp2
  go_ret
  exact ⟨rfl, rfl⟩

theorem wmaynat_any (a : Option Addr) (n c : Nat) (xs : List Nat) (w : World) (h : Sl w a n c xs) :
    Calls Tryd.prog 54 #[.slice a n c] w fun e w' => e = .returned (.bool (MayL xs)) ∧ w' = w := by
  have hl := h.len
  by_cases hlong : 2048 < n
  · refine (wmay_long a n c w hlong (Nat.le_trans h.le h.cap)).mono ?_
    rintro e w' ⟨rfl, rfl⟩
    have : MayL xs = false := by simp [MayL]; omega
    rw [this]; exact ⟨rfl, rfl⟩
  · rcases h.cells with h0 | ⟨b, off, rfl, hc⟩
    · subst h0
      simp at hl
      subst hl
      refine (wmay_nil a c w).mono ?_
      rintro e w' ⟨rfl, rfl⟩
      exact ⟨rfl, rfl⟩
    · by_cases hz : n = 0
      · subst hz
        have : xs = [] := List.eq_nil_of_length_eq_zero hl
        subst this
        refine (wmay_nil _ c w).mono ?_
        rintro e w' ⟨rfl, rfl⟩
        exact ⟨rfl, rfl⟩
      · have := hc (n - 1) (by omega)
        refine (wmay_some b off n c _ w (by omega) (by omega) this).mono ?_
        rintro e w' ⟨rfl, rfl⟩
        refine ⟨?_, rfl⟩
        have e1 : xs.isEmpty = false := by cases xs with | nil => simp at hl; omega | cons => rfl
        have e2 : MayL xs = (((xs.getD (n - 1) 0 : Nat) : Int) != 0) := by
          simp only [MayL, hl, e1, Bool.false_or]
          rw [show decide (n ≤ 2048) = true from by simp; omega]
          simp only [Bool.true_and]
          rw [Bool.eq_iff_iff, bne_iff_ne, bne_iff_ne]
          omega
        rw [e2]

theorem limbs_one_iff {G : Nat} {m : Nat} (hl : (limbs G).length = m) : (m = 1 ∧ (limbs G).getD 0 0 = 1) ↔ G = 1 := by
  constructor
  · rintro ⟨h1, h2⟩
    have e : limbs G = [1] := by
      match hh : limbs G, (by rw [hl, h1] : (limbs G).length = 1) with
      | [x], _ => rw [hh] at h2; simp at h2; rw [h2]
    have := limbs_v G
    rw [e] at this
    simpa [val] using this.symm
  · rintro rfl
    have e : limbs 1 = [1] := rfl
    rw [e] at hl ⊢
    exact ⟨hl.symm, rfl⟩

set_option maxHeartbeats 8000000 in
theorem wmay_any (neg : Bool) (a1 a2 : Option Addr) (n1 c1 n2 c2 : Nat) (xs ys : List Nat) (w : World) (h1 : Sl w a1 n1 c1 xs) (h2 : Sl w a2 n2 c2 ys) (ox : Ok xs) (oy : Ok ys) :
    Calls Tryd.prog 46 #[ratV neg a1 n1 c1 a2 n2 c2] w fun e w' => e = .returned (.bool (MayR neg xs ys)) ∧ Below w.heap.size w w' := by
  have bx := Box.made w neg a1 n1 c1 a2 n2 c2
  obtain ⟨wa, hwa⟩ : ∃ wa, ratBox w neg a1 n1 c1 a2 n2 c2 = wa := ⟨_, rfl⟩
  rw [hwa] at bx
  unfold ratBox at hwa
  have bel := bx.bel
  have d0 := bx.d0
  have d1 := bx.d1
  have d2 := bx.d2
  have K1 := wmaynat_any a1 n1 c1 xs wa (h1.below bel)
  have K2 := wmaynat_any a2 n2 c2 ys wa (h2.below bel)
  have hl1 := h1.len
  have hl2 := h2.len
  have HB := hide bel
  cases m1 : MayL xs
  · rw [m1] at K1
    have K1' := hide K1
    have HR := hide (show MayR neg xs ys = false from by simp [MayR, m1])
    clear K1 K2 h1 h2 m1 bel bx
    unfold ratV
    go_enter Tryd.func46, Tryd.ntmps46
    go_wp2_with fail
    refine (unhide K1').mono ?_
    rintro _ _ ⟨rfl, hw⟩
    obtain rfl := hw.symm
    clear hw
    go_wp2_with fail
    go_ret
    rw [unhide HR]
    exact ⟨rfl, unhide HB⟩
  · rw [m1] at K1
    cases m2 : MayL ys
    · rw [m2] at K2
      have K1' := hide K1
      have K2' := hide K2
      have HR := hide (show MayR neg xs ys = false from by simp [MayR, m2])
      clear K1 K2 h1 h2 m1 m2 bel bx
      unfold ratV
      go_enter Tryd.func46, Tryd.ntmps46
      go_wp2_with fail
      refine (unhide K1').mono ?_
      rintro _ _ ⟨rfl, hw⟩
      obtain rfl := hw.symm
      clear hw
      go_wp2_with fail
      refine (unhide K2').mono ?_
      rintro _ _ ⟨rfl, hw⟩
      obtain rfl := hw.symm
      clear hw
      go_wp2_with fail
      go_ret
      rw [unhide HR]
      exact ⟨rfl, unhide HB⟩
    · rw [m2] at K2
      have K1' := hide K1
      have K2' := hide K2
      by_cases hy : ys = []
      · have HR := hide (show MayR neg xs ys = false from by simp [MayR, hy])
        have hn2 : n2 = 0 := by rw [← hl2, hy]; rfl
        subst hn2
        clear K1 K2 h1 h2 m1 m2 bel bx
        unfold ratV
        go_enter Tryd.func46, Tryd.ntmps46
        go_wp2_with fail
        refine (unhide K1').mono ?_
        rintro _ _ ⟨rfl, hw⟩
        obtain rfl := hw.symm
        clear hw
        go_wp2_with fail
        refine (unhide K2').mono ?_
        rintro _ _ ⟨rfl, hw⟩
        obtain rfl := hw.symm
        clear hw
        go_wp2_with fail
        go_ret
        rw [unhide HR]
        exact ⟨rfl, unhide HB⟩
      · have hn2 : 0 < n2 := by rw [← hl2]; exact List.length_pos_iff.2 hy
        have t1 : ((n2:Int) == 0) = false := by simp; omega
        have t2 : ¬ (n2:Int) = 0 := by omega
        obtain ⟨b2, o2, e2, hc2⟩ := h2.cells.resolve_left hy
        have g2 := (h2.below bel).cells.resolve_left hy
        subst e2
        obtain ⟨b2', o2', e2', g2⟩ := g2
        cases e2'
        have g2 := g2 0 (by omega)
        rw [Nat.add_zero] at g2
        by_cases hx : xs = []
        · have hn1 : n1 = 0 := by rw [← hl1, hx]; rfl
          have hiff := limbs_one_iff (G := val ys) (m := n2) (by rw [limbs_val oy (MayL.norm m2)]; exact hl2)
          rw [limbs_val oy (MayL.norm m2)] at hiff
          have hM0 : MayR true xs ys = false := by simp [MayR, hx]
          have hM1 : val ys = 1 → MayR false xs ys = true := fun e => by
            have e1 : Nat.gcd (val xs) (val ys) = 1 := by rw [hx, e]; rfl
            simp [MayR, m1, m2, hy, e1]
          have hM2 : val ys ≠ 1 → MayR false xs ys = false := fun e => by
            have e1 : ¬ Nat.gcd (val xs) (val ys) = 1 := by rw [hx]; simpa [val] using e
            simp [MayR, e1]
          subst hn1
          have by0 := oy.getD 0
          generalize ys.getD 0 0 = y0 at *
          clear h1 h2 K1 K2 bx bel hc2 hx
          cases neg
          · by_cases hl : n2 = 1
            · have t3 : ((n2:Int) == 1) = true := by simp; omega
              by_cases h0 : y0 = 1
              · have t4 : ((y0:Int) == 1) = true := by simp; omega
                have HR := hide (show MayR false xs ys = true from by exact hM1 (hiff.1 ⟨hl, h0⟩))
                clear hM0 hM1 hM2 hiff m1 m2 hl h0
                unfold ratV
                go_enter Tryd.func46, Tryd.ntmps46
                go_wp2_with fail
                refine (unhide K1').mono ?_
                rintro _ _ ⟨rfl, hw⟩
                obtain rfl := hw.symm
                clear hw
                go_wp2_with fail
                refine (unhide K2').mono ?_
                rintro _ _ ⟨rfl, hw⟩
                obtain rfl := hw.symm
                clear hw
                go_wp2_with fail
                go_ret
                rw [unhide HR]
                exact ⟨rfl, unhide HB⟩
              · have t4 : ((y0:Int) == 1) = false := by simp; omega
                have HR := hide (show MayR false xs ys = false from hM2 (fun e => h0 (hiff.2 e).2))
                clear hM0 hM1 hM2 hiff m1 m2 hl h0
                unfold ratV
                go_enter Tryd.func46, Tryd.ntmps46
                go_wp2_with fail
                refine (unhide K1').mono ?_
                rintro _ _ ⟨rfl, hw⟩
                obtain rfl := hw.symm
                clear hw
                go_wp2_with fail
                refine (unhide K2').mono ?_
                rintro _ _ ⟨rfl, hw⟩
                obtain rfl := hw.symm
                clear hw
                go_wp2_with fail
                go_ret
                rw [unhide HR]
                exact ⟨rfl, unhide HB⟩
            · have t3 : ((n2:Int) == 1) = false := by simp; omega
              have HR := hide (show MayR false xs ys = false from hM2 (fun e => hl (hiff.2 e).1))
              clear hM0 hM1 hM2 hiff m1 m2 hl
              unfold ratV
              go_enter Tryd.func46, Tryd.ntmps46
              go_wp2_with fail
              refine (unhide K1').mono ?_
              rintro _ _ ⟨rfl, hw⟩
              obtain rfl := hw.symm
              clear hw
              go_wp2_with fail
              refine (unhide K2').mono ?_
              rintro _ _ ⟨rfl, hw⟩
              obtain rfl := hw.symm
              clear hw
              go_wp2_with fail
              go_ret
              rw [unhide HR]
              exact ⟨rfl, unhide HB⟩
          · have HR := hide (show MayR true xs ys = false from hM0)
            clear hM0 hM1 hM2 hiff m1 m2
            unfold ratV
            go_enter Tryd.func46, Tryd.ntmps46
            go_wp2_with fail
            refine (unhide K1').mono ?_
            rintro _ _ ⟨rfl, hw⟩
            obtain rfl := hw.symm
            clear hw
            go_wp2_with fail
            refine (unhide K2').mono ?_
            rintro _ _ ⟨rfl, hw⟩
            obtain rfl := hw.symm
            clear hw
            go_wp2_with fail
            go_ret
            rw [unhide HR]
            exact ⟨rfl, unhide HB⟩
        · have hn1 : 0 < n1 := by rw [← hl1]; exact List.length_pos_iff.2 hx
          have t5 : ((n1:Int) == 0) = false := by simp; omega
          have hb1 : n1 ≤ 10000000 := by have := MayL.len m1; omega
          have hb2 : n2 ≤ 10000000 := by have := MayL.len m2; omega
          have K := wgcd_any a1 _ n1 c1 n2 c2 xs ys wa (h1.below bel) (h2.below bel) ox oy (MayL.norm m1) (MayL.norm m2) hx hy hb1 hb2
          obtain ⟨G, hG⟩ : ∃ G, Nat.gcd (val xs) (val ys) = G := ⟨_, rfl⟩
          have hM1 : G = 1 → MayR neg xs ys = true := fun e => by
            have e1 : Nat.gcd (val xs) (val ys) = 1 := hG.trans e
            simp [MayR, m1, m2, hy, hx, e1]
          have hM2 : G ≠ 1 → MayR neg xs ys = false := fun e => by
            have e1 : ¬ Nat.gcd (val xs) (val ys) = 1 := fun h => e (hG.symm.trans h)
            simp [MayR, e1]
          rw [hG] at K
          have HG := hide (show 0 < G by rw [← hG]; exact Nat.gcd_pos_of_pos_left _ (Nat.pos_of_ne_zero (val_ne (MayL.norm m1) hx)))
          have HK := hide K
          have HM := hide (And.intro hM1 hM2)
          clear K hM1 hM2 hG h1 h2 K1 K2 bx bel hc2 hx hy m1 m2
          unfold ratV
          go_enter Tryd.func46, Tryd.ntmps46
          go_wp2_with fail
          refine (unhide K1').mono ?_
          rintro _ _ ⟨rfl, hw⟩
          obtain rfl := hw.symm
          clear hw
          go_wp2_with fail
          refine (unhide K2').mono ?_
          rintro _ _ ⟨rfl, hw⟩
          obtain rfl := hw.symm
          clear hw
          go_wp2_with fail
          refine (unhide HK).mono ?_
          rintro _ w1 ⟨a3, m3, c3, rfl, s3, n3, hnl, b3⟩
          have hm3 : 0 < m3 := by
            rw [← s3.len]
            refine List.length_pos_iff.2 (fun e => ?_)
            have := limbs_eq_nil.1 e
            have := unhide HG
            omega
          obtain ⟨b4, o4, rfl, hc4⟩ := s3.cells.resolve_left (fun e => by have := s3.len; rw [e] at this; simp at this; omega)
          have g4 := hc4 0 (by rw [s3.len]; exact hm3)
          rw [Nat.add_zero] at g4
          have hiff := limbs_one_iff (G := G) s3.len
          have bg0 := (limbs_ok G).getD 0
          have HB1 := hide ((unhide HB).trans (b3.mono (unhide HB).size))
          generalize (limbs G).getD 0 0 = y0 at *
          clear s3 n3 hnl b3 hc4 HK
          by_cases hl : m3 = 1
          · have t6 : ((m3:Int) == 1) = true := by simp; omega
            by_cases h0 : y0 = 1
            · have t7 : ((y0:Int) == 1) = true := by simp; omega
              have HR := hide (show MayR neg xs ys = true from (unhide HM).1 (hiff.1 ⟨hl, h0⟩))
              clear hl h0 hiff
              go_wp2_with fail
              go_ret
              rw [unhide HR]
              exact ⟨rfl, unhide HB1⟩
            · have t7 : ((y0:Int) == 1) = false := by simp; omega
              have HR := hide (show MayR neg xs ys = false from (unhide HM).2 (fun e => h0 (hiff.2 e).2))
              clear hl h0 hiff
              go_wp2_with fail
              go_ret
              rw [unhide HR]
              exact ⟨rfl, unhide HB1⟩
          · have t6 : ((m3:Int) == 1) = false := by simp; omega
            have HR := hide (show MayR neg xs ys = false from (unhide HM).2 (fun e => hl (hiff.2 e).1))
            clear hl hiff
            go_wp2_with fail
            go_ret
            rw [unhide HR]
            exact ⟨rfl, unhide HB1⟩
end Go.Proofs.YtiadccaaoenccaaDoor

namespace Go.Proofs.YtiadccaaoenccaaDoor
open Go.RowKit Go.Deep
set_option linter.unusedVariables false

end Go.Proofs.YtiadccaaoenccaaDoor

namespace Go.Proofs.YtiadccaaoenccaaDoor
open Go.RowKit Go.Deep
set_option linter.unusedVariables false

end Go.Proofs.YtiadccaaoenccaaDoor

namespace Go.Proofs.YtiadccaaoenccaaDoor
open Go.RowKit Go.Deep
set_option linter.unusedVariables false

end Go.Proofs.YtiadccaaoenccaaDoor

namespace Go.Proofs.YtiadccaaoenccaaDoor
open Go.RowKit Go.Deep
set_option linter.unusedVariables false

end Go.Proofs.YtiadccaaoenccaaDoor

namespace Go.Proofs.YtiadccaaoenccaaDoor
open Go.RowKit Go.Deep
set_option linter.unusedVariables false

end Go.Proofs.YtiadccaaoenccaaDoor

namespace Go.Proofs.YtiadccaaoenccaaDoor
open Go.RowKit Go.Deep
set_option linter.unusedVariables false

end Go.Proofs.YtiadccaaoenccaaDoor

namespace Go.Proofs.YtiadccaaoenccaaDoor
open Go.RowKit Go.Deep
set_option linter.unusedVariables false

end Go.Proofs.YtiadccaaoenccaaDoor

namespace Go.Proofs.YtiadccaaoenccaaDoor
open Go.RowKit Go.Deep
set_option linter.unusedVariables false

end Go.Proofs.YtiadccaaoenccaaDoor

namespace Go.Proofs.YtiadccaaoenccaaDoor
open Go.RowKit Go.Deep
set_option linter.unusedVariables false

end Go.Proofs.YtiadccaaoenccaaDoor

namespace Go.Proofs.YtiadccaaoenccaaDoor
open Go.RowKit Go.Deep
set_option linter.unusedVariables false

end Go.Proofs.YtiadccaaoenccaaDoor

namespace Go.Proofs.YtiadccaaoenccaaDoor
open Go.RowKit Go.Deep
set_option linter.unusedVariables false

end Go.Proofs.YtiadccaaoenccaaDoor

namespace Go.Proofs.YtiadccaaoenccaaDoor
open Go.RowKit Go.Deep
set_option linter.unusedVariables false

end Go.Proofs.YtiadccaaoenccaaDoor

namespace Go.Proofs.YtiadccaaoenccaaDoor
open Go.RowKit Go.Deep
set_option linter.unusedVariables false

end Go.Proofs.YtiadccaaoenccaaDoor

namespace Go.Proofs.YtiadccaaoenccaaDoor
open Go.RowKit Go.Deep
set_option linter.unusedVariables false

end Go.Proofs.YtiadccaaoenccaaDoor
namespace Go.Proofs.YtiadccaaoenccaaDoor
open Go.RowKit Go.Deep
set_option linter.unusedVariables false
def FnB (w : World) (b off n : Nat) (f : Nat → Nat) : Prop :=
  ∀ i, i < n → w.cell? ⟨b, off + i, none⟩ = some (.int .u8 (f i : Nat)) ∧ w.frozen? ⟨b, off + i, none⟩ = false
theorem FnB.set {w : World} {b off n : Nat} {f : Nat → Nat} (h : FnB w b off n f) (k v : Nat) (hk : k < n) :
    FnB (w.setCell ⟨b, off + k, none⟩ (.int .u8 (v : Nat))) b off n (fun i => if i = k then v else f i) := by
  intro i hi
  refine ⟨?_, by rw [World.frozen?_setCell]; exact (h i hi).2⟩
  by_cases e : i = k
  · subst e
    rw [World.cell?_setCell_same _ _ _ (h i hi).1]
    simp
  · rw [World.cell?_setCell_other _ _ _ _ (by intro h; injection h with h1 h2; omega)]
    simp [e, (h i hi).1]
theorem FnB.congr {w : World} {b off n : Nat} {f g : Nat → Nat} (h : FnB w b off n f) (he : ∀ i, i < n → f i = g i) : FnB w b off n g := fun i hi => by
  have := h i hi
  rwa [he i hi] at this
theorem FnB.made (w : World) (n : Nat) (e : TypeId) : FnB (w.alloc (.cells (madeCells #[.int .u8 0] n) e)) w.heap.size 0 n (fun _ => 0) := by
  intro i hi
  refine ⟨?_, by simp⟩
  simp [madeCells, hi, Nat.mod_one]

def byteN (v i : Nat) : Nat := v / 256 ^ i % 256
def bytesN (xs : List Nat) : Nat := (bitsN xs + 7) / 8
def valsB (xs : List Nat) : List Value := xs.map (fun x => .int .u8 (x : Nat))
def outB (xs : List Nat) (k : Nat) : List Nat := lst (fun p => byteN (val xs) (bytesN xs - 1 - p)) (bytesN xs - k)

structure ByR (wr w : World) (xs : List Nat) (v : Value) (k : Nat) : Prop where
  own : wr.ownsRow w.heap.size 5 1 v (bytesN xs - k) (valsB (outB xs k))
  bel : Below w.heap.size w wr

theorem ByR.step {wr w w1 : World} {xs : List Nat} {v v' : Value} {k : Nat} {o : Obj} (h : ByR wr w xs v (k + 1)) (hk : k < bytesN xs)
    (hown : w1.ownsRow w.heap.size 5 1 v' (bytesN xs - (k + 1) + 1) (valsB (outB xs (k + 1)) ++ [.int .u8 (byteN (val xs) k : Nat)])) (hg : (wr.alloc o).grownBy w1 v.ownBlock) : ByR w1 w xs v' k := by
  have hs := h.bel.size
  refine ⟨?_, Below.grown (h.bel.alloc (by omega) o) hg (by simp; omega) (fun k hk => (own_ge h.own k hk).1)⟩
  have e1 : bytesN xs - (k + 1) + 1 = bytesN xs - k := by omega
  have e : valsB (outB xs (k + 1)) ++ [.int .u8 (byteN (val xs) k : Nat)] = valsB (outB xs k) := by
    unfold outB valsB
    rw [← e1]
    simp only [lst, List.range_succ, List.map_append, List.map_cons, List.map_nil]
    rw [show bytesN xs - 1 - (bytesN xs - (k + 1)) = k from by omega]
  rw [e, e1] at hown
  exact hown
structure SlB (w : World) (a : Option Addr) (n c : Nat) (bs : List Nat) : Prop where
  len : bs.length = n
  le : n ≤ c
  ok : ∀ x ∈ bs, x < 256
  cells : bs = [] ∨ ∃ b off, a = some ⟨b, off, none⟩ ∧ ∀ i, i < bs.length → w.cell? ⟨b, off + i, none⟩ = some (.int .u8 (bs.getD i 0 : Nat))
theorem SlB.below {w w' : World} {a : Option Addr} {n c : Nat} {bs : List Nat} (h : SlB w a n c bs) (k : Below w.heap.size w w') : SlB w' a n c bs := by
  refine ⟨h.len, h.le, h.ok, ?_⟩
  rcases h.cells with e | ⟨b, off, e, hc⟩
  · exact .inl e
  · refine .inr ⟨b, off, e, fun i hi => ?_⟩
    have h1 := hc i hi
    rw [k.cell (World.block_lt_of_cell? _ _ h1)]
    exact h1

def lowB (bs : List Nat) : Nat → Nat
  | 0 => 0
  | k + 1 => lowB bs k + bs.getD (bs.length - 1 - k) 0 * 256 ^ k
theorem lowB_lt {bs : List Nat} (ok : ∀ x ∈ bs, x < 256) : ∀ (k : Nat), lowB bs k < 256 ^ k
  | 0 => by simp [lowB]
  | k + 1 => by
    have h1 := lowB_lt ok k
    simp only [lowB]
    have h2 : bs.getD (bs.length - 1 - k) 0 < 256 := by
      by_cases hl : bs.length - 1 - k < bs.length
      · rw [show bs.getD (bs.length - 1 - k) 0 = bs[bs.length - 1 - k] from by simp [List.getD, hl]]
        exact ok _ (List.getElem_mem _)
      · rw [getD_ge (by omega)]; decide
    have h3 : bs.getD (bs.length - 1 - k) 0 * 256 ^ k ≤ 255 * 256 ^ k := Nat.mul_le_mul_right _ (by omega)
    rw [Nat.pow_succ]
    generalize 256 ^ k = P at *
    omega

theorem valF_putB {f : Nat → Nat} {l d : Nat} : ∀ {n : Nat}, l < n → valF (fun i => if i = l then f l + d else f i) n = valF f n + 4294967296 ^ l * d
  | 0, h => by omega
  | n + 1, h => by
    simp only [valF]
    by_cases e : n = l
    · subst e
      rw [valF_congr (g := f) (fun i hi => by rw [if_neg (by omega)])]
      simp only [if_true, Nat.mul_add]
      omega
    · rw [valF_putB (n := n) (by omega), if_neg e]
      omega

theorem byte_put {f : Nat → Nat} {M i l s c : Nat} (ok : ∀ j, j < M → f j < 4294967296) (hl : i / 4 = l) (hs : i % 4 = s) (hM : l < M) (hv : valF f M < 256 ^ i) (hc : c < 256) :
    bits .or .u32 (f l : Int) ((c * 2 ^ (8 * s) : Nat) : Int) = ((f l + c * 2 ^ (8 * s) : Nat) : Int) ∧ f l + c * 2 ^ (8 * s) < 4294967296 ∧ c * 2 ^ (8 * s) < 4294967296 ∧ 4294967296 ^ l * (c * 2 ^ (8 * s)) = c * 256 ^ i := by
  have p1 : (256:Nat) ^ i = 4294967296 ^ l * 2 ^ (8 * s) := by
    rw [show i = 4 * l + s from by omega, show (256:Nat) = 2 ^ 8 from rfl, ← Nat.pow_mul, pow_limb, ← Nat.pow_add]
    congr 1
    omega
  have hd : f l < 2 ^ (8 * s) := by
    rw [valF_digit ok hM]
    refine Nat.lt_of_le_of_lt (Nat.mod_le _ _) ?_
    rw [Nat.div_lt_iff_lt_mul (pow_pos l), Nat.mul_comm, ← p1]
    exact hv
  have hp : 2 ^ (8 * s) * 256 ≤ 4294967296 := by
    rw [show (256:Nat) = 2 ^ 8 from rfl, ← Nat.pow_add]
    exact Nat.le_trans (Nat.pow_le_pow_right (by decide) (show 8 * s + 8 ≤ 32 by omega)) (by decide)
  have hcm : c * 2 ^ (8 * s) + 2 ^ (8 * s) ≤ 2 ^ (8 * s) * 256 := by
    rw [← Nat.succ_mul, Nat.mul_comm]
    exact Nat.mul_le_mul_left _ hc
  have hP := Nat.two_pow_pos (8 * s)
  have ho : c * 2 ^ (8 * s) ||| f l = c * 2 ^ (8 * s) + f l := by
    have := Nat.shiftLeft_add_eq_or_of_lt hd c
    rw [Nat.shiftLeft_eq] at this
    exact this.symm
  have h1 : c * 2 ^ (8 * s) < 4294967296 := by omega
  have h2 : f l < 4294967296 := ok l hM
  refine ⟨?_, by omega, h1, ?_⟩
  · rw [u32_or_nat _ _ h2 h1, Nat.or_comm, ho, Nat.add_comm]
  · rw [p1, ← Nat.mul_assoc, Nat.mul_comm _ c, Nat.mul_assoc]
structure FbR (wr w : World) (M : Nat) (r : List Nat) (i : Nat) (f : Nat → Nat) : Prop where
  fn : Fn wr w.heap.size 0 M f
  ok : ∀ j, j < M → f j < 4294967296
  val : valF f M = lowB r i
  bel : Below w.heap.size w wr

theorem FbR.drewN {wr w : World} {M : Nat} {r : List Nat} {i : Nat} {f : Nat → Nat} (h : FbR wr w M r i f) (j : Nat) : FbR (wr.drewN j) w M r i f := ⟨h.fn, h.ok, h.val, bel_drewN h.bel j⟩
theorem FbR.step {wr w : World} {M : Nat} {r : List Nat} {i l s c : Nat} {f : Nat → Nat} (h : FbR wr w M r i f) (okr : ∀ x ∈ r, x < 256) (hl : i / 4 = l) (hs : i % 4 = s) (hM : l < M) (hc : r.getD (r.length - 1 - i) 0 = c) (hc2 : c < 256) :
    FbR (wr.setCell ⟨w.heap.size, l, none⟩ (.int .u32 (f l + c * 2 ^ (8 * s) : Nat))) w M r (i + 1) (fun j => if j = l then f l + c * 2 ^ (8 * s) else f j) := by
  have hp := byte_put h.ok hl hs hM (by rw [h.val]; exact lowB_lt okr i) hc2
  have hS := h.fn.set l (f l + c * 2 ^ (8 * s)) hM
  rw [Nat.zero_add] at hS
  refine ⟨hS, ?_, ?_, h.bel.trans (((Upd.refl w.heap.size 0 M wr).set l (.int .u32 (f l + c * 2 ^ (8 * s) : Nat)) (by omega) hM).below (Nat.le_refl _) h.bel.size)⟩
  · intro j hj
    by_cases e : j = l
    · simp only [e, if_true]; exact hp.2.1
    · simp only [e, if_false]; exact h.ok j hj
  · rw [valF_putB hM, h.val, hp.2.2.2]
    simp only [lowB]
    rw [hc]
end Go.Proofs.YtiadccaaoenccaaDoor

namespace Go.Proofs.YtiadccaaoenccaaDoor
open Go.RowKit Go.Deep
set_option linter.unusedVariables false

end Go.Proofs.YtiadccaaoenccaaDoor
namespace Go.Proofs.YtiadccaaoenccaaDoor
open Go.RowKit Go.Deep
set_option linter.unusedVariables false
def strB (bs : List Nat) : ByteArray := strOfNums (bs.map (fun x : Nat => (x : Int)))
end Go.Proofs.YtiadccaaoenccaaDoor

namespace Go.Proofs.YtiadccaaoenccaaDoor
open Go.RowKit Go.Deep
set_option linter.unusedVariables false

end Go.Proofs.YtiadccaaoenccaaDoor
