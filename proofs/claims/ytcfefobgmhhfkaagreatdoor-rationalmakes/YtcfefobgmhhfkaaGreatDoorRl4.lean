/-
  rational.digits, minus, Print: contracts.
-/
import Derived.Test.YtcfefobgmhhfkaaGreatDoorPr9
import Derived.Test.YtcfefobgmhhfkaaGreatDoorRa8
import Derived.Test.YtcfefobgmhhfkaaGreatDoorBy2
import Derived.Test.YtcfefobgmhhfkaaGreatDoorWi2
import Derived.ProofKit
import Derived.OpenShut
import Derived.ShutString
import Derived.ChangeOld
import Derived.SizedLaws
import Derived.Deep.Strs
import Derived.ChangeArms
import Derived.Test.YtcfefobgmhhfkaaGreatDoorMul
import Derived.Test.YtcfefobgmhhfkaaGreatDoorGiv
namespace Go.Proofs.YtcfefobgmhhfkaaGreatDoor
open Go.RowKit Go.Deep
set_option linter.unusedVariables false

/-- What stands ahead of a number below 0. -/
def mnB (g : Bool) : ByteArray := if g then ⟨#[45]⟩ else ⟨#[]⟩
/-- What Print answers. -/
inductive PrR (g : Bool) (x y : List Nat) : ByteArray → Int → Prop where
  | bad (h : MayR g x y = false) : PrR g x y ⟨#[]⟩ 40
  | whole (n : Nat) (h : MayR g x y = true) (hy : y = [1]) (ht : TxtOf (val x) 10 n) : PrR g x y (mnB g ++ strB (txtL (val x) 10 n)) 0
  | frac (n m : Nat) (h : MayR g x y = true) (hy : y ≠ [1]) (ht : TxtOf (val x) 10 n) (hm : TxtOf (val y) 10 m) : PrR g x y (mnB g ++ (strB (txtL (val x) 10 n) ++ (⟨#[47]⟩ ++ strB (txtL (val y) 10 m)))) 0
def PrRPost (g : Bool) (x y : List Nat) (w : World) (e : Ending) (w' : World) : Prop :=
  ∃ s er, e = .returned (.tuple #[.string s, .int .i64 er]) ∧ PrR g x y s er ∧ Below w.heap.size w w'

theorem txt_len {xs : List Nat} {k : Nat} (ox : Ok xs) (m : MayL xs = true) (h : TxtOf (val xs) 10 k) : (strB (txtL (val xs) 10 k)).size ≤ 70000 := by
  have hl : (strB (txtL (val xs) 10 k)).size = k := by unfold strB; rw [strOfNums_size]; simp only [List.length_map]; exact lst_len _ _
  rw [hl]
  rcases h.ge with e | e
  · omega
  · have h1 := val_lt ox
    have h2 := MayL.len m
    have h3 : 2 ^ (k - 1) ≤ 10 ^ (k - 1) := Nat.pow_le_pow_left (by decide) _
    rw [pow_limb] at h1
    have h4 := (Nat.pow_lt_pow_iff_right (by decide : 1 < 2)).1 (show 2 ^ (k - 1) < 2 ^ (32 * xs.length) by omega)
    omega
theorem mnB_size (g : Bool) : (mnB g).size ≤ 1 := by cases g <;> decide

set_option maxHeartbeats 4000000 in
/-- rational.digits. -/
theorem digits_any (a : Option Addr) (n c : Nat) (xs : List Nat) (w : World) (h : Sl w a n c xs) (ox : Ok xs) (m : MayL xs = true) :
    Calls Tryz.prog 96 #[.slice a n c] w fun e w' => ∃ k, TxtOf (val xs) 10 k ∧ e = .returned (.string (strB (txtL (val xs) 10 k))) ∧ Below w.heap.size w w' := by
  have K := hide (nprint_any a n c xs 10 w h ox)
  have HM := hide m
  clear h m
  go_enter Tryz.func96, Tryz.ntmps96
  go_wp2_with fail
  refine (unhide K).mono ?_
  rintro _ w' ⟨s, er, rfl, hp, hb⟩
  have H := hide (And.intro hp hb)
  clear hp hb K
  go_wp2_with fail
  go_ret
  obtain ⟨hp, hb⟩ := unhide H
  cases hp with
  | nat k => rw [unhide HM] at k; cases k
  | base k kb => exact absurd (by decide) kb
  | text k _ _ ht => exact ⟨k, ht, rfl, hb⟩

/-- rational.minus, of a sign. -/
theorem ratMinusS_any (g : Bool) (w : World) : Calls Tryz.prog 97 #[.bool g] w fun e w' => e = .returned (.string (mnB g)) ∧ w' = w := by
  cases g
  · go_enter Tryz.func97, Tryz.ntmps97
    go_wp2
    go_ret
    exact ⟨rfl, rfl⟩
  · go_enter Tryz.func97, Tryz.ntmps97
    go_wp2
    go_ret
    exact ⟨rfl, rfl⟩

set_option maxHeartbeats 8000000 in
/-- rational.Print. -/
theorem ratPrint_any (g : Bool) (a b : Option Addr) (n c m d : Nat) (x y : List Nat) (w : World) (hx : Sl w a n c x) (hy : Sl w b m d y) (ox : Ok x) (oy : Ok y) (hT : Tab64 w) :
    Calls Tryz.prog 39 #[ratV g a n c b m d] w fun e w' => PrRPost g x y w e w' := by
  have bx := Box.made w g a n c b m d
  obtain ⟨wa, hwa⟩ : ∃ wa, ratBox w g a n c b m d = wa := ⟨_, rfl⟩
  rw [hwa] at bx
  have hba : Below w.heap.size w wa := by rw [← hwa]; exact (Below.refl _ _).alloc (Nat.le_refl _) _
  unfold ratBox at hwa
  have p0 := bx.d0
  have p1 := bx.d1
  have p2 := bx.d2
  have KM := ratMay_any g a b n c m d x y wa (hx.below hba) (hy.below hba) ox oy (hT.below hba)
  have HBx := hide bx
  have HBa := hide hba
  unfold ratV at KM ⊢
  cases hm : MayR g x y
  · rw [hm] at KM
    have HKM := hide KM
    have HR := hide (PrR.bad hm)
    clear KM hx hy hT bx hba hm
    go_enter Tryz.func39, Tryz.ntmps39
    go_wp2_with fail
    refine (unhide HKM).mono ?_
    rintro _ wb ⟨rfl, hbb⟩
    have HB := hide ((unhide HBa).trans (hbb.mono (unhide HBa).size))
    clear hbb HKM
    go_wp2_with fail
    go_ret2
    exact ⟨_, _, rfl, unhide HR, unhide HB⟩
  · rw [hm] at KM
    obtain ⟨kx, ky, ey, _, _⟩ := MayR.parts hm
    have HKM := hide KM
    have HX := hide (And.intro hx hy)
    have HM := hide (And.intro hm (And.intro kx ky))
    clear KM hx hy hT bx hba hm kx ky ey
    go_enter Tryz.func39, Tryz.ntmps39
    go_wp2_with fail
    refine (unhide HKM).mono ?_
    rintro _ wb ⟨rfl, hbb⟩
    have b2 := (unhide HBx).keep hbb
    have r0 := b2.d0
    have r1 := b2.d1
    have r2 := b2.d2
    have hB := (unhide HBa).trans (hbb.mono (unhide HBa).size)
    have KD := digits_any a n c x wb ((unhide HX).1.below hB) ox (unhide HM).2.1
    have HKD := hide KD
    have HB := hide hB
    have HB2 := hide b2
    clear hbb HKM b2 p0 p1 p2 KD hB
    go_wp2_with fail
    refine (unhide HKD).mono ?_
    rintro _ wc ⟨k1, ht1, rfl, hbc⟩
    have hC := (unhide HB).trans (hbc.mono (unhide HB).size)
    have b3 := (unhide HB2).keep hbc
    have q0 := b3.d0
    have q1 := b3.d1
    have q2 := b3.d2
    have KO := isOne_any b m d y wc ((unhide HX).2.below hC) oy
    have HT1 := hide ht1
    obtain ⟨S1, hS1⟩ : ∃ S1, strB (txtL (val x) 10 k1) = S1 := ⟨_, rfl⟩
    rw [hS1]
    have HS1 := hide hS1
    have l1 := txt_len ox (unhide HM).2.1 ht1
    rw [hS1] at l1
    have l3 := mnB_size g
    obtain ⟨MB, hMB⟩ : ∃ MB, mnB g = MB := ⟨_, rfl⟩
    rw [hMB] at l3
    have KMB : ∀ W, Calls Tryz.prog 97 #[.bool g] W fun e w' => e = .returned (.string MB) ∧ w' = W := fun W => by rw [← hMB]; exact ratMinusS_any g W
    have HMB := hide hMB
    have HKMB := hide KMB
    clear hMB KMB
    by_cases e1 : y = [1]
    · rw [decide_eq_true e1] at KO
      have HKO := hide KO
      have HE := hide e1
      have HC := hide hC
      clear ht1 hS1 hC hbc b3 KO e1 r0 r1 r2 HKD
      go_wp2_with fail
      refine (unhide HKO).mono ?_
      rintro _ _ ⟨rfl, hw⟩
      obtain rfl := hw.symm
      clear hw HKO
      go_wp2_with fail
      refine (unhide HKMB wc).mono ?_
      rintro _ _ ⟨rfl, hw⟩
      obtain rfl := hw.symm
      clear hw
      go_wp2_with fail
      go_ret2
      exact ⟨_, _, rfl, by rw [← unhide HS1, ← unhide HMB]; exact PrR.whole k1 (unhide HM).1 (unhide HE) (unhide HT1), unhide HC⟩
    · rw [decide_eq_false e1] at KO
      have HKO := hide KO
      have HE := hide e1
      have KD2 := hide (digits_any b m d y wc ((unhide HX).2.below hC) oy (unhide HM).2.2)
      have HC := hide hC
      have HB3 := hide b3
      clear ht1 hS1 hC hbc b3 KO e1 r0 r1 r2 HKD
      go_wp2_with fail
      refine (unhide HKO).mono ?_
      rintro _ _ ⟨rfl, hw⟩
      obtain rfl := hw.symm
      clear hw HKO
      go_wp2_with fail
      refine (unhide KD2).mono ?_
      rintro _ wd ⟨k2, ht2, rfl, hbd⟩
      obtain ⟨S2, hS2⟩ : ∃ S2, strB (txtL (val y) 10 k2) = S2 := ⟨_, rfl⟩
      rw [hS2]
      have HS2 := hide (And.intro hS2 ht2)
      have l2 := txt_len oy (unhide HM).2.2 ht2
      rw [hS2] at l2
      have b4 := (unhide HB3).keep hbd
      have s0 := b4.d0
      have HD := hide ((unhide HC).trans (hbd.mono (unhide HC).size))
      clear ht2 hS2 hbd b4 q0 q1 q2 KD2
      go_wp2_with fail
      refine (unhide HKMB wd).mono ?_
      rintro _ _ ⟨rfl, hw⟩
      obtain rfl := hw.symm
      clear hw
      go_wp2_with fail
      go_ret2
      exact ⟨_, _, rfl, by rw [← unhide HS1, ← (unhide HS2).1, ← unhide HMB]; exact PrR.frac k1 k2 (unhide HM).1 (unhide HE) (unhide HT1) (unhide HS2).2, unhide HD⟩
end Go.Proofs.YtcfefobgmhhfkaaGreatDoor

namespace Go.Proofs.YtcfefobgmhhfkaaGreatDoor
open Go.ChangeShapes Go.WideShapes Go.ChangeAt Go.RowKit Go.Deep
set_option linter.unusedVariables false

/-- A fact that new blocks do not change. -/
structure Fct where
  p : World → Prop
  st : ∀ {w w' : World}, Below w.heap.size w w' → p w → p w'
structure Fcts (w0 w : World) (L : List Fct) : Prop where
  bel : Below w0.heap.size w0 w
  all : ∀ f ∈ L, f.p w
theorem Fcts.step {w0 w w' : World} {L : List Fct} (h : Fcts w0 w L) (k : Below w.heap.size w w') : Fcts w0 w' L :=
  ⟨h.bel.trans (k.mono h.bel.size), fun f hf => f.st k (h.all f hf)⟩
theorem Fcts.add {w0 w : World} {L : List Fct} (h : Fcts w0 w L) (f : Fct) (hf : f.p w) : Fcts w0 w (f :: L) :=
  ⟨h.bel, fun g hg => by rcases List.mem_cons.1 hg with rfl | hg; exact hf; exact h.all g hg⟩
/-- A rational's two lists. -/
structure Nm (w : World) (a : Option Addr) (n c : Nat) (x : List Nat) (b : Option Addr) (m d : Nat) (y : List Nat) : Prop where
  num : Sl w a n c x
  den : Sl w b m d y
/-- Three cells of a variable of one's own. -/
structure Tri (w : World) (R : Nat) (v0 v1 v2 : Value) : Prop where
  c0 : w.cell? ⟨R, 0, none⟩ = some v0
  c1 : w.cell? ⟨R, 1, none⟩ = some v1
  c2 : w.cell? ⟨R, 2, none⟩ = some v2
  f0 : w.frozen? ⟨R, 0, none⟩ = false
  f1 : w.frozen? ⟨R, 1, none⟩ = false
  f2 : w.frozen? ⟨R, 2, none⟩ = false
  lt : R < w.heap.size
theorem Tri.keep {w w' : World} {R : Nat} {v0 v1 v2 : Value} (h : Tri w R v0 v1 v2) (k : Below w.heap.size w w') : Tri w' R v0 v1 v2 := by
  have hc : ∀ i, w'.cell? ⟨R, i, none⟩ = w.cell? ⟨R, i, none⟩ := fun i => by unfold World.cell?; simp only; rw [k.block _ h.lt]
  have hf : ∀ i, w'.frozen? ⟨R, i, none⟩ = w.frozen? ⟨R, i, none⟩ := fun i => by unfold World.frozen?; simp only; rw [k.block _ h.lt]
  exact ⟨(hc 0).trans h.c0, (hc 1).trans h.c1, (hc 2).trans h.c2, (hf 0).trans h.f0, (hf 1).trans h.f1, (hf 2).trans h.f2, Nat.lt_of_lt_of_le h.lt k.size⟩
theorem Tri.made (w : World) (v0 v1 v2 : Value) (e : TypeId) : Tri (w.alloc (.cells #[v0, v1, v2] e)) w.heap.size v0 v1 v2 := by
  refine ⟨?_, ?_, ?_, ?_, ?_, ?_, ?_⟩ <;> simp
def fN (a : Option Addr) (n c : Nat) (x : List Nat) (b : Option Addr) (m d : Nat) (y : List Nat) : Fct := ⟨fun w => Nm w a n c x b m d y, fun k h => ⟨h.num.below k, h.den.below k⟩⟩
def fR (R : Nat) (v0 v1 v2 : Value) : Fct := ⟨fun w => Tri w R v0 v1 v2, fun k h => h.keep k⟩
def fTab : Fct := ⟨fun w => Tab64 w, fun k h => h.below k⟩
/-- What has been since a world. -/
def fSince (w1 : World) : Fct := ⟨fun w => Below w1.heap.size w1 w, fun k h => h.trans (k.mono h.size)⟩
theorem Fcts.n {w0 w : World} {L : List Fct} (h : Fcts w0 w L) (a : Option Addr) (n c : Nat) (x : List Nat) (b : Option Addr) (m d : Nat) (y : List Nat) (hm : fN a n c x b m d y ∈ L) : Nm w a n c x b m d y := h.all _ hm
theorem Fcts.r {w0 w : World} {L : List Fct} (h : Fcts w0 w L) (R : Nat) (v0 v1 v2 : Value) (hm : fR R v0 v1 v2 ∈ L) : Tri w R v0 v1 v2 := h.all _ hm
theorem Fcts.tab {w0 w : World} {L : List Fct} (h : Fcts w0 w L) (hm : fTab ∈ L) : Tab64 w := h.all _ hm
theorem Fcts.since {w0 w : World} {L : List Fct} (h : Fcts w0 w L) (w1 : World) (hm : fSince w1 ∈ L) : Below w1.heap.size w1 w := h.all _ hm
theorem Fcts.box {w0 w : World} {L : List Fct} (h : Fcts w0 w L) (v0 v1 v2 : Value) (e : TypeId) : Fcts w0 (w.alloc (.cells #[v0, v1, v2] e)) (fR w.heap.size v0 v1 v2 :: L) :=
  (h.step ((Below.refl _ _).alloc (Nat.le_refl _) _)).add (fR w.heap.size v0 v1 v2) (Tri.made _ _ _ _ _)

theorem law_own : ownKnob Tryz.prog.godebug = none := by kernel_rfl
theorem law_laid : laidOutB Tryz.prog = true := by kernel_rfl
theorem law_bytesL : Tryz.prog.bytesOf 33 = 4 := by kernel_rfl
theorem law_cellsL : Tryz.prog.cellsOf 33 = 1 := by kernel_rfl
theorem law_cellsB : Tryz.prog.cellsOf 4 = 1 := by kernel_rfl
theorem law_cellsN : Tryz.prog.cellsOf 23 = 1 := by kernel_rfl
theorem law_cellsR : Tryz.prog.cellsOf 25 = 3 := by kernel_rfl
end Go.Proofs.YtcfefobgmhhfkaaGreatDoor

namespace Go.Proofs.YtcfefobgmhhfkaaGreatDoor
open Go.ChangeShapes Go.WideShapes Go.ChangeAt Go.RowKit Go.Deep
set_option linter.unusedVariables false

theorem trod_limbs {H : Type} {enc : TypeId × Value → H} {W : World} {fuel : Nat} {cs : List Value} {x : DataW H × List MemPlace}
    (h : DataW.trod enc Tryz.prog W 0 (fun _ => true) true fuel 23 cs = some x) :
    ∃ a n c xs, cs = [.slice a n c] ∧ Sl W a n c xs ∧ Ok xs := by
  rcases open_ints Tryz.underlying23 Tryz.underlying33 law_cellsL h with ⟨rfl, _⟩ | ⟨y, n, c, zs, rfl, _, hl, hm, hzl, rfl, hcell, hwz⟩
  · exact ⟨none, 0, 0, [], rfl, sl_nil _, Ok.nil⟩
  · have hzl' : zs.length = c := by simpa using hzl
    refine ⟨some y, n, c, (zs.take n).map Int.toNat, rfl, ⟨by simp; omega, hl, hm, ?_⟩, fun z hzz => ?_⟩
    · by_cases h0 : n = 0
      · left; subst h0; simp
      · right
        obtain ⟨b, off, spot⟩ := y
        have c0 := hcell 0 (by omega)
        have hspot : spot = none := by simpa [Addr.add] using World.cell?_spot c0
        subst hspot
        refine ⟨b, off, rfl, ?_⟩
        intro i hi
        have hi' : i < n := by simp at hi; omega
        have e : (⟨b, off, none⟩ : Addr).add i = ⟨b, off + i, none⟩ := by unfold Addr.add; split <;> simp_all
        have hzi := hcell i (by omega)
        rw [e] at hzi
        rw [hzi]
        have hmem : zs.getD i 0 ∈ zs := by
          have : zs.getD i 0 = zs[i]'(by omega) := by simp [List.getD, show i < zs.length from by omega]
          rw [this]; exact List.getElem_mem _
        have r := bounds_u32 (hwz _ hmem)
        have e2 : ((zs.take n).map Int.toNat).getD i 0 = (zs.getD i 0).toNat := by
          simp [List.getD, hi', show i < zs.length from by omega]
        rw [e2]
        congr 2
        omega
    · obtain ⟨u, hu, rfl⟩ := List.mem_map.1 hzz
      have := bounds_u32 (hwz u (List.mem_of_mem_take hu))
      omega

set_option maxRecDepth 100000 in
theorem arg_rat {H : Type} {enc : TypeId × Value → H} {W : World} {v : Value} {d : DataW H} {p : List MemPlace} {r : Reach} {b0 : Nat}
    (hv : Value.okWide Tryz.prog W r b0 25 v) (h : DataW.Trod enc Tryz.prog W 0 (fun _ => true) true 25 v d p) :
    ∃ g a n c x b m d y, v = ratV g a n c b m d ∧ Sl W a n c x ∧ Sl W b m d y ∧ Ok x ∧ Ok y := by
  obtain ⟨cs, rfl, hsz⟩ := okWide_struct Tryz.underlying25 hv
  obtain ⟨fuel, hf⟩ := h
  obtain ⟨y0, y1, y2, k, hx, hl, h0, h1, h2⟩ := trod_struct3 Tryz.underlying25 hf
  rw [law_cellsR] at hl
  have hcs : (Value.agg cs).cells.toList = cs.toList := by simp [Value.cells]
  generalize hL : (Value.agg cs).cells.toList = L at hl h0 h1 h2
  match L, hl with
  | [c0, c1, c2], _ =>
    simp only [List.drop_zero, List.drop_succ_cons, law_cellsB, law_cellsN, List.take_succ_cons, List.take_zero] at h0 h1 h2
    obtain ⟨g, e0, _⟩ := DataW.trod_bool Tryz.underlying4 h0
    obtain ⟨a, n, c, xs, e1, k1, k2⟩ := trod_limbs h1
    obtain ⟨b, m, d, ys, e2, k3, k4⟩ := trod_limbs h2
    cases e0
    cases e1
    cases e2
    refine ⟨g, a, n, c, xs, b, m, d, ys, ?_, k1, k3, k2, k4⟩
    unfold ratV
    congr 1
    apply Array.ext'
    rw [hcs] at hL
    simpa using hL
end Go.Proofs.YtcfefobgmhhfkaaGreatDoor

namespace Go.Proofs.YtcfefobgmhhfkaaGreatDoor
open Go.ChangeShapes Go.WideShapes Go.ChangeAt Go.RowKit Go.Deep
set_option linter.unusedVariables false

theorem trod_limbsZ {H : Type} {enc : TypeId × Value → H} {W : World} {fuel : Nat} {cs : List Value} {x : DataW H × List MemPlace}
    (h : DataW.trod enc Tryz.prog W 0 (fun _ => true) true fuel 23 cs = some x) (hz : ∀ k ∈ x.1.weights Tryz.prog 23, k ≤ reachBytes) :
    ∃ a n c xs, cs = [.slice a n c] ∧ Sl W a n c xs ∧ Ok xs ∧ n ≤ 35184372088000 ∧ (a = none → c = 0) := by
  rcases open_ints Tryz.underlying23 Tryz.underlying33 law_cellsL h with ⟨rfl, _⟩ | ⟨y, n, c, zs, rfl, _, hl, hm, hzl, rfl, hcell, hwz⟩
  · exact ⟨none, 0, 0, [], rfl, sl_nil _, Ok.nil, Nat.zero_le _, fun _ => rfl⟩
  · have hzl' : zs.length = c := by simpa using hzl
    have hb := hz (((lits (H := H) .u32 (zs.take n)).length + (lits (H := H) .u32 (zs.drop n)).length) * Tryz.prog.bytesOf 33) (by simp [DataW.weights, Tryz.underlying23])
    have hlen : (lits (H := H) .u32 (zs.take n)).length + (lits (H := H) .u32 (zs.drop n)).length = c := by
      simp [lits]; omega
    rw [hlen, law_bytesL] at hb
    unfold reachBytes at hb
    refine ⟨some y, n, c, (zs.take n).map Int.toNat, rfl, ⟨by simp; omega, hl, hm, ?_⟩, fun z hzz => ?_, by omega, fun h => by cases h⟩
    · by_cases h0 : n = 0
      · left; subst h0; simp
      · right
        obtain ⟨b, off, spot⟩ := y
        have c0 := hcell 0 (by omega)
        have hspot : spot = none := by simpa [Addr.add] using World.cell?_spot c0
        subst hspot
        refine ⟨b, off, rfl, ?_⟩
        intro i hi
        have hi' : i < n := by simp at hi; omega
        have e : (⟨b, off, none⟩ : Addr).add i = ⟨b, off + i, none⟩ := by unfold Addr.add; split <;> simp_all
        have hzi := hcell i (by omega)
        rw [e] at hzi
        rw [hzi]
        have hmem : zs.getD i 0 ∈ zs := by
          have : zs.getD i 0 = zs[i]'(by omega) := by simp [List.getD, show i < zs.length from by omega]
          rw [this]; exact List.getElem_mem _
        have r := bounds_u32 (hwz _ hmem)
        have e2 : ((zs.take n).map Int.toNat).getD i 0 = (zs.getD i 0).toNat := by
          simp [List.getD, hi', show i < zs.length from by omega]
        rw [e2]
        congr 2
        omega
    · obtain ⟨u, hu, rfl⟩ := List.mem_map.1 hzz
      have := bounds_u32 (hwz u (List.mem_of_mem_take hu))
      omega

set_option maxRecDepth 100000 in
theorem arg_ratZ {H : Type} {enc : TypeId × Value → H} {W : World} {v : Value} {d : DataW H} {p : List MemPlace} {r : Reach} {b0 : Nat}
    (hv : Value.okWide Tryz.prog W r b0 25 v) (h : DataW.Trod enc Tryz.prog W 0 (fun _ => true) true 25 v d p) (hz : ∀ k ∈ d.weights Tryz.prog 25, k ≤ reachBytes) :
    ∃ g a n c x b m d y, v = ratV g a n c b m d ∧ Sl W a n c x ∧ Sl W b m d y ∧ Ok x ∧ Ok y ∧ (n ≤ 35184372088000 ∧ m ≤ 35184372088000) ∧ (a = none → c = 0) ∧ (b = none → d = 0) := by
  obtain ⟨cs, rfl, hsz⟩ := okWide_struct Tryz.underlying25 hv
  obtain ⟨fuel, hf⟩ := h
  obtain ⟨y0, y1, y2, k, hx, hl, h0, h1, h2⟩ := trod_struct3 Tryz.underlying25 hf
  rw [law_cellsR] at hl
  have hcs : (Value.agg cs).cells.toList = cs.toList := by simp [Value.cells]
  generalize hL : (Value.agg cs).cells.toList = L at hl h0 h1 h2
  match L, hl with
  | [c0, c1, c2], _ =>
    simp only [List.drop_zero, List.drop_succ_cons, law_cellsB, law_cellsN, List.take_succ_cons, List.take_zero] at h0 h1 h2
    obtain ⟨g, e0, e0'⟩ := DataW.trod_bool Tryz.underlying4 h0
    cases hx
    obtain ⟨a, n, c, xs, e1, k1, k2, k5, k7⟩ := trod_limbsZ h1 (fun k hk => hz k (by simp [DataW.weights, DataW.weightsEach, Tryz.underlying25, hk]))
    obtain ⟨b, m, d, ys, e2, k3, k4, k6, k8⟩ := trod_limbsZ h2 (fun k hk => hz k (by simp [DataW.weights, DataW.weightsEach, Tryz.underlying25, hk]))
    cases e0
    cases e1
    cases e2
    refine ⟨g, a, n, c, xs, b, m, d, ys, ?_, k1, k3, k2, k4, ⟨k5, k6⟩, k7, k8⟩
    unfold ratV
    congr 1
    apply Array.ext'
    rw [hcs] at hL
    simpa using hL

/-- Given.Nat, and what it leaves. -/
theorem LawSt.natC {w : World} {B : Nat} {v0 v1 : Value} {es : List Ent} {w0 : World} {L : List Pc} (h : LawSt w B v0 v1 es w0 L) (p : Pc) (hp : p ∈ L) (hn : p.n ≤ 35184372088000) (he : es.length ≤ 1000000000000) :
    Calls Tryz.prog 24 #[.pointer (some ⟨B, 0, none⟩), .slice p.a p.n p.c] w fun e w' => ∃ v0' v1' E, e = .returned (.slice (some ⟨Ent.b E, 0, none⟩) p.n E.c) ∧ LawSt w' B v0' v1' (es ++ [E]) w0 (⟨some ⟨E.b, 0, none⟩, p.n, E.c, p.xs⟩ :: L) ∧ w.heap.size ≤ E.b ∧ Chg (Own B v0 v1) w w' ∧ ∀ k, k < w.heap.size → ¬ Own B v0 v1 k → ¬ Own B v0' v1' k := by
  refine (gnat_any B v0 v1 es p.a p.n p.c p.xs w h.giv (h.all p hp).sl hn he).mono ?_
  rintro e w' ⟨v0', v1', E, rfl, hxs, hge, hg, hc, hsafe⟩
  refine ⟨v0', v1', E, rfl, ⟨hg, ?_, h.base, ?_⟩, hge, hc, hsafe⟩
  · refine h.bel.trans (hc.below h.bel.size ?_)
    intro k hk ho
    have := h.giv.own_ge ho
    have := h.base
    omega
  · intro q hq
    rcases List.mem_cons.1 hq with rfl | hq
    · have E1 := hg.ents E (by simp)
      have := E1.sl.pre (n := p.n) (by rw [hxs]; exact (h.all p hp).sl.len) (by rfl)
      rw [hxs] at this
      exact ⟨this, fun x hx _ => by cases hx; exact E1.s⟩
    · have K := h.all q hq
      refine ⟨K.sl.chg hc K.safe, ?_⟩
      intro x hx hne
      exact hsafe _ (K.sl.block_lt hne x hx) (K.safe x hx hne)

theorem EntOk.ne {w : World} {B : Nat} {v0 v1 : Value} {e : Ent} (h : EntOk w B v0 v1 e) {R : Nat} {b : Bool} (hR : w.cell? ⟨R, 0, none⟩ = some (.bool b)) : e.b ≠ R ∧ e.b0 ≠ R := by
  have key : ∀ (g n c : Nat) (xs : List Nat), Sl w (some ⟨g, 0, none⟩) n c xs → xs ≠ [] → g ≠ R := by
    intro g n c xs hs hne hg
    obtain ⟨b', off', e', hc⟩ := hs.cells.resolve_left hne
    cases e'
    have := hc 0 (List.length_pos_iff.2 hne)
    rw [Nat.zero_add, hg, hR] at this
    cases this
  exact ⟨key _ _ _ _ h.sl (by simp [marks]), key _ _ _ _ h.sl0 (by simp [marks])⟩

/-- A variable of one's own is written. -/
theorem LawSt.setR {w w' : World} {B : Nat} {v0 v1 : Value} {es : List Ent} {w0 : World} {L : List Pc} (h : LawSt w B v0 v1 es w0 L) {R : Nat} {b : Bool} (hR : w.cell? ⟨R, 0, none⟩ = some (.bool b)) (hc : Chg (fun j => j = R) w w') (hw : w0.heap.size ≤ R) (hO : ¬ Own B v0 v1 R) (hL : ∀ p ∈ L, ∀ x, p.a = some x → p.xs ≠ [] → x.block ≠ R) :
    LawSt w' B v0 v1 es w0 L := by
  refine ⟨h.giv.chg hc (fun e => hO (by rw [← e]; exact .inl rfl)) (fun k hk e => hO (by rw [← e]; exact .inr (.inl hk))) (fun k hk e => hO (by rw [← e]; exact .inr (.inr hk))) (fun e he => (h.giv.ents e he).ne hR), h.bel.trans (hc.below h.bel.size (fun k hk => by omega)), h.base, ?_⟩
  intro p hp
  have K := h.all p hp
  exact ⟨K.sl.chg hc (fun x hx hne => hL p hp x hx hne), K.safe⟩
end Go.Proofs.YtcfefobgmhhfkaaGreatDoor

namespace Go.Proofs.YtcfefobgmhhfkaaGreatDoor
open Go.RowKit Go.Deep
set_option linter.unusedVariables false

/-- Field by field. -/
def sameR (g1 : Bool) (x1 y1 : List Nat) (g2 : Bool) (x2 y2 : List Nat) : Bool := (g1 == g2) && (decide (x1 = x2) && decide (y1 = y2))
set_option maxHeartbeats 8000000 in
/-- slopeplain.SameRat. -/
theorem sameRat_any (g1 g2 : Bool) (a1 b1 a2 b2 : Option Addr) (n1 c1 m1 d1 n2 c2 m2 d2 : Nat) (x1 y1 x2 y2 : List Nat) (w : World) (hx1 : Sl w a1 n1 c1 x1) (hy1 : Sl w b1 m1 d1 y1) (hx2 : Sl w a2 n2 c2 x2) (hy2 : Sl w b2 m2 d2 y2) :
    Calls Tryz.prog 18 #[ratV g1 a1 n1 c1 b1 m1 d1, ratV g2 a2 n2 c2 b2 m2 d2] w fun e w' => e = .returned (.bool (sameR g1 x1 y1 g2 x2 y2)) ∧ Below w.heap.size w w' := by
  have bx := Box.made w g1 a1 n1 c1 b1 m1 d1
  obtain ⟨wa, hwa⟩ : ∃ wa, ratBox w g1 a1 n1 c1 b1 m1 d1 = wa := ⟨_, rfl⟩
  rw [hwa] at bx
  have by_ := Box.made wa g2 a2 n2 c2 b2 m2 d2
  obtain ⟨wb, hwb⟩ : ∃ wb, ratBox wa g2 a2 n2 c2 b2 m2 d2 = wb := ⟨_, rfl⟩
  rw [hwb] at by_
  have hba : Below w.heap.size w wa := by rw [← hwa]; exact (Below.refl _ _).alloc (Nat.le_refl _) _
  have hbb : Below wa.heap.size wa wb := by rw [← hwb]; exact (Below.refl _ _).alloc (Nat.le_refl _) _
  have bx2 := bx.keep hbb
  have hB := hba.trans (hbb.mono hba.size)
  unfold ratBox at hwa hwb
  have K1 := sameNat_any a1 a2 n1 c1 n2 c2 x1 x2 wb (hx1.below hB) (hx2.below hB)
  have HK2 := hide (fun k => sameNat_any b1 b2 m1 d1 m2 d2 y1 y2 (wb.drewN k) ((hy1.below hB).below (bel_drewN (Below.refl _ _) k)) ((hy2.below hB).below (bel_drewN (Below.refl _ _) k)))
  have HB := hide hB
  have HBx := hide (And.intro bx2 by_)
  have p0 := bx2.d0
  have p1 := bx2.d1
  have p2 := bx2.d2
  have p3 := by_.d0
  have p4 := by_.d1
  have p5 := by_.d2
  unfold ratV
  by_cases hg : g1 = g2
  · have t1 : (g1 == g2) = true := by simp [hg]
    obtain ⟨s1, hs1⟩ : ∃ s, decide (x1 = x2) = s := ⟨_, rfl⟩
    obtain ⟨s2, hs2⟩ : ∃ s, decide (y1 = y2) = s := ⟨_, rfl⟩
    have HR := hide (show sameR g1 x1 y1 g2 x2 y2 = (s1 && s2) by unfold sameR; rw [t1, hs1, hs2]; rfl)
    rw [hs1] at K1
    rw [hs2] at HK2
    have HK1 := hide K1
    obtain ⟨rr, hrr⟩ : ∃ r, sameR g1 x1 y1 g2 x2 y2 = r := ⟨_, rfl⟩
    rw [hrr] at HR ⊢
    subst hg
    clear K1 hx1 hy1 hx2 hy2 bx by_ bx2 hba hbb hB hs1 hs2 hrr t1
    cases s1
    · go_enter Tryz.func18, Tryz.ntmps18
      go_wp2_with fail
      refine (unhide HK1).mono ?_
      rintro _ _ ⟨rfl, k, rfl⟩
      go_wp2_with fail
      go_ret
      exact ⟨by rw [unhide HR]; rfl, bel_drewN (unhide HB) _⟩
    · go_enter Tryz.func18, Tryz.ntmps18
      go_wp2_with fail
      refine (unhide HK1).mono ?_
      rintro _ _ ⟨rfl, k, rfl⟩
      have q2 : (wb.drewN k).cell? ⟨w.heap.size, 2, none⟩ = some (.slice b1 m1 d1) := p2
      have q5 : (wb.drewN k).cell? ⟨wa.heap.size, 2, none⟩ = some (.slice b2 m2 d2) := p5
      go_wp2_with fail
      refine (unhide HK2 k).mono ?_
      rintro _ _ ⟨rfl, k2, rfl⟩
      go_wp2_with fail
      go_ret
      exact ⟨by rw [unhide HR]; simp, bel_drewN (unhide HB) _⟩
  · have t1 : (g1 == g2) = false := by simp [hg]
    have HR := hide (show sameR g1 x1 y1 g2 x2 y2 = false by unfold sameR; rw [t1]; rfl)
    obtain ⟨rr, hrr⟩ : ∃ r, sameR g1 x1 y1 g2 x2 y2 = r := ⟨_, rfl⟩
    rw [hrr] at HR ⊢
    clear K1 hx1 hy1 hx2 hy2 bx by_ bx2 hba hbb hB hrr HK2
    go_enter Tryz.func18, Tryz.ntmps18
    go_wp2_with fail
    go_ret
    exact ⟨by rw [unhide HR]; rfl, unhide HB⟩
/-- Cmp is 0 just of the same. -/
theorem same_cmp {g1 g2 : Bool} {x1 y1 x2 y2 : List Nat} (ox1 : Ok x1) (oy1 : Ok y1) (ox2 : Ok x2) (oy2 : Ok y2) (h1 : MayR g1 x1 y1 = true) (h2 : MayR g2 x2 y2 = true) : sameR g1 x1 y1 g2 x2 y2 = decide (cmpR g1 x1 y1 g2 x2 y2 = 0) := by
  rw [cmpR_sign h1 h2]
  obtain ⟨a1, b1, c1, _, l1⟩ := MayR.parts h1
  obtain ⟨a2, b2, c2, _, l2⟩ := MayR.parts h2
  by_cases e : Int.sign (nI g1 (val x1) * (val y2 : Int) - nI g2 (val x2) * (val y1 : Int)) = 0
  · rw [decide_eq_true e]
    have e2 := Int.sign_eq_zero_iff_zero.1 e
    obtain ⟨r1, r2, r3⟩ := low_one l1 l2 (mayR_pos h1) (mayR_pos h2) (mayR_neg h1) (mayR_neg h2) (by omega)
    have q1 : x1 = x2 := by rw [← limbs_val ox1 (MayL.norm a1), ← limbs_val ox2 (MayL.norm a2), r2]
    have q2 : y1 = y2 := by rw [← limbs_val oy1 (MayL.norm b1), ← limbs_val oy2 (MayL.norm b2), r3]
    unfold sameR
    simp [r1, q1, q2]
  · rw [decide_eq_false e]
    cases hs : sameR g1 x1 y1 g2 x2 y2
    · rfl
    · exfalso
      unfold sameR at hs
      simp at hs
      obtain ⟨r1, r2, r3⟩ := hs
      subst r1 r2 r3
      exact e (by simp)
end Go.Proofs.YtcfefobgmhhfkaaGreatDoor
