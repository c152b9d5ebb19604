/- Wrc -/
import Derived.Test.YtbbicappjicblaaGreatDoorWrb
import Derived.Test.YtbbicappjicblaaGreatDoorWie
import Derived.Deep.LoopGhost
import Derived.Test.YtbbicappjicblaaGreatDoorDv2
import Derived.Test.YtbbicappjicblaaGreatDoorRa1
import Derived.Test.YtbbicappjicblaaGreatDoorNMul
namespace Go.Proofs.YtbbicappjicblaaGreatDoor
open Go.RowKit Go.Deep
set_option linter.unusedVariables false
set_option maxHeartbeats 400000 in
theorem wmay_nil (a : Option Addr) (cap : Nat) (w : World) :
  Calls Tryz.prog 96 #[.slice a 0 cap] w fun e w' => e = .returned (.bool true) ∧ w' = w := by
 go_enter Tryz.func96, Tryz.ntmps96
 go_wp2
 go_ret
 exact ⟨rfl, rfl⟩
set_option maxHeartbeats 400000 in
theorem wmay_long (a : Option Addr) (len cap : Nat) (w : World) (h : 2048 < len) (hm : len ≤ maxLen) :
  Calls Tryz.prog 96 #[.slice a len cap] w fun e w' => e = .returned (.bool false) ∧ w' = w := by
 unfold maxLen at hm
 go_enter Tryz.func96, Tryz.ntmps96
 go_wp2
 go_ret
 exact ⟨rfl, rfl⟩
set_option maxHeartbeats 400000 in
theorem wmay_some (b off : Nat) (n cap : Nat) (x : Int) (w : World) (h : (n:Int) ≤ 2048) (h0 : 0 < n) (hc : w.cell? ⟨b, off + (n-1), none⟩ = some (.int .u32 x)) :
  Calls Tryz.prog 96 #[.slice (some ⟨b, off, none⟩) n cap] w fun e w' => e = .returned (.bool (x != 0)) ∧ w' = w := by
 have h1 : ((n:Int) == 0) = false := by simp; omega
 have h2 : ((n:Int) - 1).toNat = n - 1 := by omega
 go_enter Tryz.func96, Tryz.ntmps96
 go_wp2
 go_ret
 exact ⟨rfl, rfl⟩

theorem wmaynat_any (a : Option Addr) (n c : Nat) (xs : List Nat) (w : World) (h : Sl w a n c xs) :
  Calls Tryz.prog 96 #[.slice a n c] w fun e w' => e = .returned (.bool (MayL xs)) ∧ w' = w := by
 have hl := h.len
 by_cases hlong : 2048 < n
 ·refine (wmay_long a n c w hlong (Nat.le_trans h.le h.cap)).mono ?_
  rintro e w' ⟨rfl, rfl⟩
  have : MayL xs = false := by simp [MayL]; omega
  rw [this]; exact ⟨rfl, rfl⟩
 ·rcases h.cells with h0 | ⟨b, off, rfl, hc⟩
  ·subst h0
   simp at hl
   subst hl
   refine (wmay_nil a c w).mono ?_
   rintro e w' ⟨rfl, rfl⟩
   exact ⟨rfl, rfl⟩
  ·by_cases hz : n = 0
   ·subst hz
    have : xs = [] := List.eq_nil_of_length_eq_zero hl
    subst this
    refine (wmay_nil _ c w).mono ?_
    rintro e w' ⟨rfl, rfl⟩
    exact ⟨rfl, rfl⟩
   ·have := hc (n - 1) (by omega)
    refine (wmay_some b off n c _ w (by omega) (by omega) this).mono ?_
    rintro e w' ⟨rfl, rfl⟩
    refine ⟨?_, rfl⟩
    have e1 : xs.isEmpty = false := by cases xs with | nil => simp at hl; omega | cons => rfl
    have e2 : MayL xs = (((xs.getD (n - 1) 0 : Nat) : Int) != 0) := by
     simp only [MayL, hl, e1, Bool.false_or]
     rw [show decide (n ≤ 2048) = true from by simp; omega]
     simp only [Bool.true_and]
     rw [Bool.eq_iff_iff, bne_iff_ne, bne_iff_ne]
     omega
    rw [e2]

theorem limbs_one_iff {G : Nat} {m : Nat} (hl : (limbs G).length = m) : (m = 1 ∧ (limbs G).getD 0 0 = 1) ↔ G = 1 := by
 constructor
 ·rintro ⟨h1, h2⟩
  have e : limbs G = [1] := by
   match hh : limbs G, (by rw [hl, h1] : (limbs G).length = 1) with
   | [x], _ => rw [hh] at h2; simp at h2; rw [h2]
  have := limbs_v G
  rw [e] at this
  simpa [val] using this.symm
 ·rintro rfl
  have e : limbs 1 = [1] := rfl
  rw [e] at hl ⊢
  exact ⟨hl.symm, rfl⟩

set_option maxHeartbeats 8000000 in
theorem wmay_any (neg : Bool) (a1 a2 : Option Addr) (n1 c1 n2 c2 : Nat) (xs ys : List Nat) (w : World) (h1 : Sl w a1 n1 c1 xs) (h2 : Sl w a2 n2 c2 ys) (ox : Ok xs) (oy : Ok ys) :
  Calls Tryz.prog 75 #[ratV neg a1 n1 c1 a2 n2 c2] w fun e w' => e = .returned (.bool (MayR neg xs ys)) ∧ Below w.heap.size w w' := by
 have bx := Box.made w neg a1 n1 c1 a2 n2 c2
 obtain ⟨wa, hwa⟩ : ∃ wa, ratBox w neg a1 n1 c1 a2 n2 c2 = wa := ⟨_, rfl⟩
 rw [hwa] at bx
 unfold ratBox at hwa
 have bel := bx.bel
 have d0 := bx.d0
 have d1 := bx.d1
 have d2 := bx.d2
 have K1 := wmaynat_any a1 n1 c1 xs wa (h1.below bel)
 have K2 := wmaynat_any a2 n2 c2 ys wa (h2.below bel)
 have hl1 := h1.len
 have hl2 := h2.len
 have HB := hide bel
 cases m1 : MayL xs
 ·rw [m1] at K1
  have K1' := hide K1
  have HR := hide (show MayR neg xs ys = false from by simp [MayR, m1])
  clear K1 K2 h1 h2 m1 bel bx
  unfold ratV
  go_enter Tryz.func75, Tryz.ntmps75
  go_wp2_with fail
  refine (unhide K1').mono ?_
  rintro _ _ ⟨rfl, hw⟩
  obtain rfl := hw.symm
  clear hw
  go_wp2_with fail
  go_ret
  rw [unhide HR]
  exact ⟨rfl, unhide HB⟩
 ·rw [m1] at K1
  cases m2 : MayL ys
  ·rw [m2] at K2
   have K1' := hide K1
   have K2' := hide K2
   have HR := hide (show MayR neg xs ys = false from by simp [MayR, m2])
   clear K1 K2 h1 h2 m1 m2 bel bx
   unfold ratV
   go_enter Tryz.func75, Tryz.ntmps75
   go_wp2_with fail
   refine (unhide K1').mono ?_
   rintro _ _ ⟨rfl, hw⟩
   obtain rfl := hw.symm
   clear hw
   go_wp2_with fail
   refine (unhide K2').mono ?_
   rintro _ _ ⟨rfl, hw⟩
   obtain rfl := hw.symm
   clear hw
   go_wp2_with fail
   go_ret
   rw [unhide HR]
   exact ⟨rfl, unhide HB⟩
  ·rw [m2] at K2
   have K1' := hide K1
   have K2' := hide K2
   by_cases hy : ys = []
   ·have HR := hide (show MayR neg xs ys = false from by simp [MayR, hy])
    have hn2 : n2 = 0 := by rw [← hl2, hy]; rfl
    subst hn2
    clear K1 K2 h1 h2 m1 m2 bel bx
    unfold ratV
    go_enter Tryz.func75, Tryz.ntmps75
    go_wp2_with fail
    refine (unhide K1').mono ?_
    rintro _ _ ⟨rfl, hw⟩
    obtain rfl := hw.symm
    clear hw
    go_wp2_with fail
    refine (unhide K2').mono ?_
    rintro _ _ ⟨rfl, hw⟩
    obtain rfl := hw.symm
    clear hw
    go_wp2_with fail
    go_ret
    rw [unhide HR]
    exact ⟨rfl, unhide HB⟩
   ·have hn2 : 0 < n2 := by rw [← hl2]; exact List.length_pos_iff.2 hy
    have t1 : ((n2:Int) == 0) = false := by simp; omega
    have t2 : ¬ (n2:Int) = 0 := by omega
    obtain ⟨b2, o2, e2, hc2⟩ := h2.cells.resolve_left hy
    have g2 := (h2.below bel).cells.resolve_left hy
    subst e2
    obtain ⟨b2', o2', e2', g2⟩ := g2
    cases e2'
    have g2 := g2 0 (by omega)
    rw [Nat.add_zero] at g2
    by_cases hx : xs = []
    ·have hn1 : n1 = 0 := by rw [← hl1, hx]; rfl
     have hiff := limbs_one_iff (G := val ys) (m := n2) (by rw [limbs_val oy (MayL.norm m2)]; exact hl2)
     rw [limbs_val oy (MayL.norm m2)] at hiff
     have hM0 : MayR true xs ys = false := by simp [MayR, hx]
     have hM1 : val ys = 1 → MayR false xs ys = true := fun e => by
      have e1 : Nat.gcd (val xs) (val ys) = 1 := by rw [hx, e]; rfl
      simp [MayR, m1, m2, hy, e1]
     have hM2 : val ys ≠ 1 → MayR false xs ys = false := fun e => by
      have e1 : ¬ Nat.gcd (val xs) (val ys) = 1 := by rw [hx]; simpa [val] using e
      simp [MayR, e1]
     subst hn1
     have by0 := oy.getD 0
     generalize ys.getD 0 0 = y0 at *
     clear h1 h2 K1 K2 bx bel hc2 hx
     cases neg
     ·by_cases hl : n2 = 1
      ·have t3 : ((n2:Int) == 1) = true := by simp; omega
       by_cases h0 : y0 = 1
       ·have t4 : ((y0:Int) == 1) = true := by simp; omega
        have HR := hide (show MayR false xs ys = true from by exact hM1 (hiff.1 ⟨hl, h0⟩))
        clear hM0 hM1 hM2 hiff m1 m2 hl h0
        unfold ratV
        go_enter Tryz.func75, Tryz.ntmps75
        go_wp2_with fail
        refine (unhide K1').mono ?_
        rintro _ _ ⟨rfl, hw⟩
        obtain rfl := hw.symm
        clear hw
        go_wp2_with fail
        refine (unhide K2').mono ?_
        rintro _ _ ⟨rfl, hw⟩
        obtain rfl := hw.symm
        clear hw
        go_wp2_with fail
        go_ret
        rw [unhide HR]
        exact ⟨rfl, unhide HB⟩
       ·have t4 : ((y0:Int) == 1) = false := by simp; omega
        have HR := hide (show MayR false xs ys = false from hM2 (fun e => h0 (hiff.2 e).2))
        clear hM0 hM1 hM2 hiff m1 m2 hl h0
        unfold ratV
        go_enter Tryz.func75, Tryz.ntmps75
        go_wp2_with fail
        refine (unhide K1').mono ?_
        rintro _ _ ⟨rfl, hw⟩
        obtain rfl := hw.symm
        clear hw
        go_wp2_with fail
        refine (unhide K2').mono ?_
        rintro _ _ ⟨rfl, hw⟩
        obtain rfl := hw.symm
        clear hw
        go_wp2_with fail
        go_ret
        rw [unhide HR]
        exact ⟨rfl, unhide HB⟩
      ·have t3 : ((n2:Int) == 1) = false := by simp; omega
       have HR := hide (show MayR false xs ys = false from hM2 (fun e => hl (hiff.2 e).1))
       clear hM0 hM1 hM2 hiff m1 m2 hl
       unfold ratV
       go_enter Tryz.func75, Tryz.ntmps75
       go_wp2_with fail
       refine (unhide K1').mono ?_
       rintro _ _ ⟨rfl, hw⟩
       obtain rfl := hw.symm
       clear hw
       go_wp2_with fail
       refine (unhide K2').mono ?_
       rintro _ _ ⟨rfl, hw⟩
       obtain rfl := hw.symm
       clear hw
       go_wp2_with fail
       go_ret
       rw [unhide HR]
       exact ⟨rfl, unhide HB⟩
     ·have HR := hide (show MayR true xs ys = false from hM0)
      clear hM0 hM1 hM2 hiff m1 m2
      unfold ratV
      go_enter Tryz.func75, Tryz.ntmps75
      go_wp2_with fail
      refine (unhide K1').mono ?_
      rintro _ _ ⟨rfl, hw⟩
      obtain rfl := hw.symm
      clear hw
      go_wp2_with fail
      refine (unhide K2').mono ?_
      rintro _ _ ⟨rfl, hw⟩
      obtain rfl := hw.symm
      clear hw
      go_wp2_with fail
      go_ret
      rw [unhide HR]
      exact ⟨rfl, unhide HB⟩
    ·have hn1 : 0 < n1 := by rw [← hl1]; exact List.length_pos_iff.2 hx
     have t5 : ((n1:Int) == 0) = false := by simp; omega
     have hb1 : n1 ≤ 10000000 := by have := MayL.len m1; omega
     have hb2 : n2 ≤ 10000000 := by have := MayL.len m2; omega
     have K := wgcd_any a1 _ n1 c1 n2 c2 xs ys wa (h1.below bel) (h2.below bel) ox oy (MayL.norm m1) (MayL.norm m2) hx hy hb1 hb2
     obtain ⟨G, hG⟩ : ∃ G, Nat.gcd (val xs) (val ys) = G := ⟨_, rfl⟩
     have hM1 : G = 1 → MayR neg xs ys = true := fun e => by
      have e1 : Nat.gcd (val xs) (val ys) = 1 := hG.trans e
      simp [MayR, m1, m2, hy, hx, e1]
     have hM2 : G ≠ 1 → MayR neg xs ys = false := fun e => by
      have e1 : ¬ Nat.gcd (val xs) (val ys) = 1 := fun h => e (hG.symm.trans h)
      simp [MayR, e1]
     rw [hG] at K
     have HG := hide (show 0 < G by rw [← hG]; exact Nat.gcd_pos_of_pos_left _ (Nat.pos_of_ne_zero (val_ne (MayL.norm m1) hx)))
     have HK := hide K
     have HM := hide (And.intro hM1 hM2)
     clear K hM1 hM2 hG h1 h2 K1 K2 bx bel hc2 hx hy m1 m2
     unfold ratV
     go_enter Tryz.func75, Tryz.ntmps75
     go_wp2_with fail
     refine (unhide K1').mono ?_
     rintro _ _ ⟨rfl, hw⟩
     obtain rfl := hw.symm
     clear hw
     go_wp2_with fail
     refine (unhide K2').mono ?_
     rintro _ _ ⟨rfl, hw⟩
     obtain rfl := hw.symm
     clear hw
     go_wp2_with fail
     refine (unhide HK).mono ?_
     rintro _ w1 ⟨a3, m3, c3, rfl, s3, n3, hnl, b3⟩
     have hm3 : 0 < m3 := by
      rw [← s3.len]
      refine List.length_pos_iff.2 (fun e => ?_)
      have := limbs_eq_nil.1 e
      have := unhide HG
      omega
     obtain ⟨b4, o4, rfl, hc4⟩ := s3.cells.resolve_left (fun e => by have := s3.len; rw [e] at this; simp at this; omega)
     have g4 := hc4 0 (by rw [s3.len]; exact hm3)
     rw [Nat.add_zero] at g4
     have hiff := limbs_one_iff (G := G) s3.len
     have bg0 := (limbs_ok G).getD 0
     have HB1 := hide ((unhide HB).trans (b3.mono (unhide HB).size))
     generalize (limbs G).getD 0 0 = y0 at *
     clear s3 n3 hnl b3 hc4 HK
     by_cases hl : m3 = 1
     ·have t6 : ((m3:Int) == 1) = true := by simp; omega
      by_cases h0 : y0 = 1
      ·have t7 : ((y0:Int) == 1) = true := by simp; omega
       have HR := hide (show MayR neg xs ys = true from (unhide HM).1 (hiff.1 ⟨hl, h0⟩))
       clear hl h0 hiff
       go_wp2_with fail
       go_ret
       rw [unhide HR]
       exact ⟨rfl, unhide HB1⟩
      ·have t7 : ((y0:Int) == 1) = false := by simp; omega
       have HR := hide (show MayR neg xs ys = false from (unhide HM).2 (fun e => h0 (hiff.2 e).2))
       clear hl h0 hiff
       go_wp2_with fail
       go_ret
       rw [unhide HR]
       exact ⟨rfl, unhide HB1⟩
     ·have t6 : ((m3:Int) == 1) = false := by simp; omega
      have HR := hide (show MayR neg xs ys = false from (unhide HM).2 (fun e => hl (hiff.2 e).1))
      clear hl hiff
      go_wp2_with fail
      go_ret
      rw [unhide HR]
      exact ⟨rfl, unhide HB1⟩
end Go.Proofs.YtbbicappjicblaaGreatDoor

namespace Go.Proofs.YtbbicappjicblaaGreatDoor
open Go.RowKit Go.Deep
set_option linter.unusedVariables false

end Go.Proofs.YtbbicappjicblaaGreatDoor

namespace Go.Proofs.YtbbicappjicblaaGreatDoor
open Go.RowKit Go.Deep
set_option linter.unusedVariables false

end Go.Proofs.YtbbicappjicblaaGreatDoor

namespace Go.Proofs.YtbbicappjicblaaGreatDoor
open Go.RowKit Go.Deep
set_option linter.unusedVariables false

end Go.Proofs.YtbbicappjicblaaGreatDoor

namespace Go.Proofs.YtbbicappjicblaaGreatDoor
open Go.RowKit Go.Deep
set_option linter.unusedVariables false

end Go.Proofs.YtbbicappjicblaaGreatDoor

namespace Go.Proofs.YtbbicappjicblaaGreatDoor
open Go.RowKit Go.Deep
set_option linter.unusedVariables false

end Go.Proofs.YtbbicappjicblaaGreatDoor

namespace Go.Proofs.YtbbicappjicblaaGreatDoor
open Go.RowKit Go.Deep
set_option linter.unusedVariables false

end Go.Proofs.YtbbicappjicblaaGreatDoor

namespace Go.Proofs.YtbbicappjicblaaGreatDoor
open Go.RowKit Go.Deep
set_option linter.unusedVariables false

end Go.Proofs.YtbbicappjicblaaGreatDoor

namespace Go.Proofs.YtbbicappjicblaaGreatDoor
open Go.RowKit Go.Deep
set_option linter.unusedVariables false

end Go.Proofs.YtbbicappjicblaaGreatDoor

namespace Go.Proofs.YtbbicappjicblaaGreatDoor
open Go.RowKit Go.Deep
set_option linter.unusedVariables false

end Go.Proofs.YtbbicappjicblaaGreatDoor

namespace Go.Proofs.YtbbicappjicblaaGreatDoor
open Go.RowKit Go.Deep
set_option linter.unusedVariables false

end Go.Proofs.YtbbicappjicblaaGreatDoor

namespace Go.Proofs.YtbbicappjicblaaGreatDoor
open Go.RowKit Go.Deep
set_option linter.unusedVariables false

end Go.Proofs.YtbbicappjicblaaGreatDoor

namespace Go.Proofs.YtbbicappjicblaaGreatDoor
open Go.RowKit Go.Deep
set_option linter.unusedVariables false

end Go.Proofs.YtbbicappjicblaaGreatDoor

namespace Go.Proofs.YtbbicappjicblaaGreatDoor
open Go.RowKit Go.Deep
set_option linter.unusedVariables false

end Go.Proofs.YtbbicappjicblaaGreatDoor

namespace Go.Proofs.YtbbicappjicblaaGreatDoor
open Go.RowKit Go.Deep
set_option linter.unusedVariables false

end Go.Proofs.YtbbicappjicblaaGreatDoor
namespace Go.Proofs.YtbbicappjicblaaGreatDoor
open Go.RowKit Go.Deep
set_option linter.unusedVariables false
def FnB (w : World) (b off n : Nat) (f : Nat → Nat) : Prop :=
 ∀ i, i < n → w.cell? ⟨b, off + i, none⟩ = some (.int .u8 (f i : Nat)) ∧ w.frozen? ⟨b, off + i, none⟩ = false
theorem FnB.set {w : World} {b off n : Nat} {f : Nat → Nat} (h : FnB w b off n f) (k v : Nat) (hk : k < n) :
  FnB (w.setCell ⟨b, off + k, none⟩ (.int .u8 (v : Nat))) b off n (fun i => if i = k then v else f i) := by
 intro i hi
 refine ⟨?_, by rw [World.frozen?_setCell]; exact (h i hi).2⟩
 by_cases e : i = k
 ·subst e
  rw [World.cell?_setCell_same _ _ _ (h i hi).1]
  simp
 ·rw [World.cell?_setCell_other _ _ _ _ (by intro h; injection h with h1 h2; omega)]
  simp [e, (h i hi).1]
theorem FnB.congr {w : World} {b off n : Nat} {f g : Nat → Nat} (h : FnB w b off n f) (he : ∀ i, i < n → f i = g i) : FnB w b off n g := fun i hi => by
 have := h i hi
 rwa [he i hi] at this
theorem FnB.made (w : World) (n : Nat) (e : TypeId) : FnB (w.alloc (.cells (madeCells #[.int .u8 0] n) e)) w.heap.size 0 n (fun _ => 0) := by
 intro i hi
 refine ⟨?_, by simp⟩
 simp [madeCells, hi, Nat.mod_one]

def byteN (v i : Nat) : Nat := v / 256 ^ i % 256
def bytesN (xs : List Nat) : Nat := (bitsN xs + 7) / 8
def valsB (xs : List Nat) : List Value := xs.map (fun x => .int .u8 (x : Nat))
def outB (xs : List Nat) (k : Nat) : List Nat := lst (fun p => byteN (val xs) (bytesN xs - 1 - p)) (bytesN xs - k)

structure ByR (wr w : World) (xs : List Nat) (v : Value) (k : Nat) : Prop where
 own : wr.ownsRow w.heap.size 5 1 v (bytesN xs - k) (valsB (outB xs k))
 bel : Below w.heap.size w wr

theorem ByR.step {wr w w1 : World} {xs : List Nat} {v v' : Value} {k : Nat} {o : Obj} (h : ByR wr w xs v (k + 1)) (hk : k < bytesN xs)
  (hown : w1.ownsRow w.heap.size 5 1 v' (bytesN xs - (k + 1) + 1) (valsB (outB xs (k + 1)) ++ [.int .u8 (byteN (val xs) k : Nat)])) (hg : (wr.alloc o).grownBy w1 v.ownBlock) : ByR w1 w xs v' k := by
 have hs := h.bel.size
 refine ⟨?_, Below.grown (h.bel.alloc (by omega) o) hg (by simp; omega) (fun k hk => (own_ge h.own k hk).1)⟩
 have e1 : bytesN xs - (k + 1) + 1 = bytesN xs - k := by omega
 have e : valsB (outB xs (k + 1)) ++ [.int .u8 (byteN (val xs) k : Nat)] = valsB (outB xs k) := by
  unfold outB valsB
  rw [← e1]
  simp only [lst, List.range_succ, List.map_append, List.map_cons, List.map_nil]
  rw [show bytesN xs - 1 - (bytesN xs - (k + 1)) = k from by omega]
 rw [e, e1] at hown
 exact hown
end Go.Proofs.YtbbicappjicblaaGreatDoor
