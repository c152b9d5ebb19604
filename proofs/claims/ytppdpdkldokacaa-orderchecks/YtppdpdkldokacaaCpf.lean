/-
  ORDERS: the stable sort of few vertices by falling degrees: contracts.
-/
import Derived.Test.YtppdpdkldokacaaCpd
namespace Go.Proofs.Ytppdpdkldokacaa
open Go.Shelf Go.RowKit Go.Deep
set_option linter.unusedVariables false

set_option maxRecDepth 100000 in
set_option maxHeartbeats 8000000 in
/-- cmp.Compare of whole numbers: nothing is laid. -/
theorem ocmp_dr (x y : Int) (w : World) : Calls Try.prog 58 #[.int .i64 x, .int .i64 y] w fun e w' => e = .returned (.int .i64 (cmpI x y)) ∧ Dr w w' := by
  by_cases h1 : x < y
  · have e : cmpI x y = -1 := by unfold cmpI; rw [if_pos h1]
    rw [e]
    clear e
    go_enter Try.func58, Try.ntmps58
    go_wp2_with ((go_at_call 71; refine (nan_int _ _).mono ?_; rintro _ _ ⟨rfl, hw⟩; subst hw))
    try go_ret
    exact ⟨rfl, Dr.refl _⟩
  · by_cases h2 : y < x
    · have e : cmpI x y = 1 := by unfold cmpI; rw [if_neg h1, if_pos h2]
      rw [e]
      clear e
      go_enter Try.func58, Try.ntmps58
      go_wp2_with ((go_at_call 71; refine (nan_int _ _).mono ?_; rintro _ _ ⟨rfl, hw⟩; subst hw))
      try go_ret
      exact ⟨rfl, Dr.refl _⟩
    · have e : cmpI x y = 0 := by unfold cmpI; rw [if_neg h1, if_neg h2]
      rw [e]
      clear e
      go_enter Try.func58, Try.ntmps58
      go_wp2_with ((go_at_call 71; refine (nan_int _ _).mono ?_; rintro _ _ ⟨rfl, hw⟩; subst hw))
      try go_ret
      exact ⟨rfl, Dr.refl _⟩
set_option maxRecDepth 100000 in
set_option maxHeartbeats 8000000 in
/-- byDegree's closure: nothing is laid. -/
theorem obydeg1_dr (u v R g pb : Nat) (f : Nat → Int) (w : World) (hu : u < R) (hv : v < R) (hR : R ≤ 128) (hp : w.cell? ⟨pb, 0, none⟩ = some (.slice (some ⟨g, 0, none⟩) R R)) (hf : RoV w g R (fun i => .int .i64 (f i))) :
    Calls Try.prog 57 #[.int .i64 (u : Int), .int .i64 (v : Int), .pointer (some ⟨pb, 0, none⟩)] w fun e w' => e = .returned (.int .i64 (cmpI (f v) (f u))) ∧ Dr w w' := by
  have hu' : (u : Int) < (R : Int) := by omega
  have hv' : (v : Int) < (R : Int) := by omega
  have cu := (hf u hu).1
  have cv := (hf v hv).1
  obtain ⟨x, hx⟩ : ∃ x, f u = x := ⟨_, rfl⟩
  obtain ⟨y, hy⟩ : ∃ y, f v = y := ⟨_, rfl⟩
  simp only [hx] at cu
  simp only [hy] at cv
  rw [hx, hy]
  have HK := hide (fun W => ocmp_dr y x W)
  clear hf hx hy
  go_enter Try.func57, Try.ntmps57
  go_wp2_with fail
  go_quiet ((go_at_call 58; exact Calls.quiet_of (unhide HK _)))
  go_wp2_with fail
  try go_ret
  exact ⟨rfl, ⟨_, rfl⟩⟩
/-- A vertex below R, as a value. -/
def encF (q : Nat) (x : Fin (q + 1)) : Value := .int .i64 (x.val : Int)
/-- By falling degrees. -/
def cfF (q : Nat) (f : Nat → Int) (u v : Fin (q + 1)) : Int := cmpI (f v.val) (f u.val)
theorem Chg.of_sort {S : Nat → Prop} (q : Nat) (w : World) (m blk off : Nat) (dk : Array (Fin (q + 1))) (os : Array Obj) (hb : S blk) : Chg S w (sortWorld (encF q) w blk off m dk os) := by
  refine ⟨rfl, rfl, rfl, by simp [sortWorld, Sort.grow, Sort.putRow, Sort.mapBlock, Sort.ahead], fun k hk hS => ?_⟩
  have : blk ≠ k := fun e => hS (e ▸ hb)
  simp only [sortWorld, Sort.grow]
  rw [Array.getElem?_append_left (by simp [Sort.ahead]; exact hk)]
  simp [Sort.putRow, Sort.mapBlock, Sort.ahead, Array.getElem?_modify, this]
theorem ocmp_reads (q g pb blk n : Nat) (f : Nat → Int) (w : World) (hR : q + 1 ≤ 128) (hp : w.cell? ⟨pb, 0, none⟩ = some (.slice (some ⟨g, 0, none⟩) (q + 1) (q + 1))) (hf : RoV w g (q + 1) (fun i => .int .i64 (f i))) (h1 : pb ≠ blk) (h2 : g ≠ blk) :
    CmpReads Try.prog 57 #[.pointer (some ⟨pb, 0, none⟩)] (encF q) (cfF q f) blk 0 n w := by
  intro m os dk hs x y
  have hC := Chg.of_sort (S := fun j => j = blk) q w m blk 0 dk os rfl
  refine (obydeg1_dr x.val y.val (q + 1) g pb f _ x.isLt y.isLt hR (hC.cell h1 hp) (hf.chg hC h2)).mono ?_
  rintro e w' ⟨rfl, k, rfl⟩
  exact ⟨rfl, k, rfl⟩
end Go.Proofs.Ytppdpdkldokacaa

namespace Go.Proofs.Ytppdpdkldokacaa
open Go.Shelf Go.RowKit Go.Deep
set_option linter.unusedVariables false

/-- What the sort leaves. -/
def SrP (q blk : Nat) (res : Array (Fin (q + 1))) (w w' : World) (e : Ending) : Prop := e = .returned (.tuple #[]) ∧ ∃ n, w' = (Sort.putRow (encF q) w blk 0 res).drewN n
theorem oinsSort_any (q g pb blk : Nat) (f : Nat → Int) (d res : Array (Fin (q + 1))) (w : World) (hR : q + 1 ≤ 20) (hd : d.size = q + 1) (hH : Sort.Holds (encF q) w blk 0 d) (hp : w.cell? ⟨pb, 0, none⟩ = some (.slice (some ⟨g, 0, none⟩) (q + 1) (q + 1))) (hf : RoV w g (q + 1) (fun i => .int .i64 (f i))) (h1 : pb ≠ blk) (h2 : g ≠ blk) (hres : Sort.insertionSort (ltOf (cfF q f)) d 0 (q + 1) = res) :
    Calls Try.prog 81 #[.slice (some ⟨blk, 0, none⟩) (q + 1) (q + 1), .int .i64 0, .int .i64 ((q + 1 : Nat) : Int), .func (.func 57) #[] #[.pointer (some ⟨pb, 0, none⟩)]] w fun e w' => SrP q blk res w w' e := by
  have eg : ∀ args w, (callFunc 57 args).run Try.prog w = .ok (.enter 57 args) w := enters_of Try.func57 (by kernel_rfl) rfl
  have hc := ocmp_reads q g pb blk d.size f w (by omega) hp hf h1 h2
  have K := Any.insertionSortCmpFunc_one shSrt (encF q) (fun _ => rfl) (cfF q f) 57 #[.pointer (some ⟨pb, 0, none⟩)] blk 0 (q + 1) 0 (q + 1) d w eg hc hH (by omega) (by omega) (by omega)
  rw [hres] at K
  simp only [hd] at K
  exact K
set_option maxRecDepth 100000 in
set_option maxHeartbeats 8000000 in
/-- slices.stableCmpFunc of few. -/
theorem ostable_any (q blk pb R : Nat) (res : Array (Fin (q + 1))) (w : World) (hR : R ≤ 19) (K : Calls Try.prog 81 #[.slice (some ⟨blk, 0, none⟩) R R, .int .i64 0, .int .i64 (R : Int), .func (.func 57) #[] #[.pointer (some ⟨pb, 0, none⟩)]] w fun e w' => SrP q blk res w w' e) :
    Calls Try.prog 70 #[.slice (some ⟨blk, 0, none⟩) R R, .int .i64 (R : Int), .func (.func 57) #[] #[.pointer (some ⟨pb, 0, none⟩)]] w fun e w' => SrP q blk res w w' e := by
  have h1 : ¬ (20 : Int) ≤ (R : Int) := by omega
  have h2 : ¬ (20 : Int) < (R : Int) := by omega
  have HK := hide K
  clear K
  go_enter Try.func70, Try.ntmps70
  go_wp2_with fail
  go_loopw [7, 8] (fun av bv wr => av = .int .i64 0 ∧ bv = .int .i64 20 ∧ wr = w) (fun _ _ _ => 0)
  case atStart => exact ⟨rfl, rfl, rfl⟩
  case round =>
    obtain ⟨rfl, rfl, rfl⟩ := hrel
    go_wp2_with fail
    refine (unhide HK).mono ?_
    rintro _ w2 ⟨rfl, hw2⟩
    have HW2 := hide hw2
    clear HK hw2
    go_wp2_with fail
    go_loopw [6] (fun sv wq => sv = .int .i64 20 ∧ wq = w2) (fun _ _ => 0)
    case atStart => exact ⟨rfl, rfl⟩
    case round =>
      obtain ⟨rfl, rfl⟩ := hrel
      go_wp2_with fail
      go_end0
      exact ⟨rfl, unhide HW2⟩
set_option maxRecDepth 100000 in
set_option maxHeartbeats 8000000 in
/-- slices.SortStableFunc of few. -/
theorem osortSt_any (q blk pb R : Nat) (res : Array (Fin (q + 1))) (w : World) (hR : R ≤ 19) (K : Calls Try.prog 81 #[.slice (some ⟨blk, 0, none⟩) R R, .int .i64 0, .int .i64 (R : Int), .func (.func 57) #[] #[.pointer (some ⟨pb, 0, none⟩)]] w fun e w' => SrP q blk res w w' e) :
    Calls Try.prog 56 #[.slice (some ⟨blk, 0, none⟩) R R, .func (.func 57) #[] #[.pointer (some ⟨pb, 0, none⟩)]] w fun e w' => SrP q blk res w w' e := by
  have HK := hide (ostable_any q blk pb R res w hR K)
  clear K
  go_enter Try.func56, Try.ntmps56
  go_wp2_with fail
  refine (unhide HK).mono ?_
  rintro _ w2 ⟨rfl, hw2⟩
  have HW2 := hide hw2
  clear HK hw2
  go_wp2_with fail
  go_end0
  exact ⟨rfl, unhide HW2⟩
end Go.Proofs.Ytppdpdkldokacaa
