/-
  ORDERS: the stable sort of few vertices by falling degrees: contracts.
-/
import Derived.Test.YtdcdgojcboinaaaCq1
namespace Go.Proofs.Ytdcdgojcboinaaa
open Go.Shelf Go.RowKit Go.Deep
set_option linter.unusedVariables false

set_option maxRecDepth 100000 in
set_option maxHeartbeats 8000000 in
/-- cmp.Compare of whole numbers: nothing is laid. -/
theorem ocmp_dr (x y : Int) (w : World) : Calls Try.prog 59 #[.int .i64 x, .int .i64 y] w fun e w' => e = .returned (.int .i64 (cmpI x y)) ∧ Dr w w' := by
  by_cases h1 : x < y
  · have e : cmpI x y = -1 := by unfold cmpI; rw [if_pos h1]
    rw [e]
    clear e
    go_enter Try.func59, Try.ntmps59
    go_wp2_with ((go_at_call 72; refine (nan_int _ _).mono ?_; rintro _ _ ⟨rfl, hw⟩; subst hw))
    try go_ret
    exact ⟨rfl, Dr.refl _⟩
  · by_cases h2 : y < x
    · have e : cmpI x y = 1 := by unfold cmpI; rw [if_neg h1, if_pos h2]
      rw [e]
      clear e
      go_enter Try.func59, Try.ntmps59
      go_wp2_with ((go_at_call 72; refine (nan_int _ _).mono ?_; rintro _ _ ⟨rfl, hw⟩; subst hw))
      try go_ret
      exact ⟨rfl, Dr.refl _⟩
    · have e : cmpI x y = 0 := by unfold cmpI; rw [if_neg h1, if_neg h2]
      rw [e]
      clear e
      go_enter Try.func59, Try.ntmps59
      go_wp2_with ((go_at_call 72; refine (nan_int _ _).mono ?_; rintro _ _ ⟨rfl, hw⟩; subst hw))
      try go_ret
      exact ⟨rfl, Dr.refl _⟩
set_option maxRecDepth 100000 in
set_option maxHeartbeats 8000000 in
/-- byDegree's closure: nothing is laid. -/
theorem obydeg1_dr (u v R g pb : Nat) (f : Nat → Int) (w : World) (hu : u < R) (hv : v < R) (hR : R ≤ 128) (hp : w.cell? ⟨pb, 0, none⟩ = some (.slice (some ⟨g, 0, none⟩) R R)) (hf : RoV w g R (fun i => .int .i64 (f i))) :
    Calls Try.prog 58 #[.int .i64 (u : Int), .int .i64 (v : Int), .pointer (some ⟨pb, 0, none⟩)] w fun e w' => e = .returned (.int .i64 (cmpI (f v) (f u))) ∧ Dr w w' := by
  have hu' : (u : Int) < (R : Int) := by omega
  have hv' : (v : Int) < (R : Int) := by omega
  have cu := (hf u hu).1
  have cv := (hf v hv).1
  obtain ⟨x, hx⟩ : ∃ x, f u = x := ⟨_, rfl⟩
  obtain ⟨y, hy⟩ : ∃ y, f v = y := ⟨_, rfl⟩
  simp only [hx] at cu
  simp only [hy] at cv
  rw [hx, hy]
  have HK := hide (fun W => ocmp_dr y x W)
  clear hf hx hy
  go_enter Try.func58, Try.ntmps58
  go_wp2_with fail
  go_quiet ((go_at_call 59; exact Calls.quiet_of (unhide HK _)))
  go_wp2_with fail
  try go_ret
  exact ⟨rfl, ⟨_, rfl⟩⟩
/-- A vertex below R, as a value. -/
def encF (q : Nat) (x : Fin (q + 1)) : Value := .int .i64 (x.val : Int)
/-- By falling degrees. -/
def cfF (q : Nat) (f : Nat → Int) (u v : Fin (q + 1)) : Int := cmpI (f v.val) (f u.val)
theorem Chg.of_sort {S : Nat → Prop} (q : Nat) (w : World) (m blk off : Nat) (dk : Array (Fin (q + 1))) (os : Array Obj) (hb : S blk) : Chg S w (sortWorld (encF q) w blk off m dk os) := by
  refine ⟨rfl, rfl, rfl, by simp [sortWorld, Sort.grow, Sort.putRow, Sort.mapBlock, Sort.ahead], fun k hk hS => ?_⟩
  have : blk ≠ k := fun e => hS (e ▸ hb)
  simp only [sortWorld, Sort.grow]
  rw [Array.getElem?_append_left (by simp [Sort.ahead]; exact hk)]
  simp [Sort.putRow, Sort.mapBlock, Sort.ahead, Array.getElem?_modify, this]
theorem ocmp_reads (q g pb blk n : Nat) (f : Nat → Int) (w : World) (hR : q + 1 ≤ 128) (hp : w.cell? ⟨pb, 0, none⟩ = some (.slice (some ⟨g, 0, none⟩) (q + 1) (q + 1))) (hf : RoV w g (q + 1) (fun i => .int .i64 (f i))) (h1 : pb ≠ blk) (h2 : g ≠ blk) :
    CmpReads Try.prog 58 #[.pointer (some ⟨pb, 0, none⟩)] (encF q) (cfF q f) blk 0 n w := by
  intro m os dk hs x y
  have hC := Chg.of_sort (S := fun j => j = blk) q w m blk 0 dk os rfl
  refine (obydeg1_dr x.val y.val (q + 1) g pb f _ x.isLt y.isLt hR (hC.cell h1 hp) (hf.chg hC h2)).mono ?_
  rintro e w' ⟨rfl, k, rfl⟩
  exact ⟨rfl, k, rfl⟩
end Go.Proofs.Ytdcdgojcboinaaa

namespace Go.Proofs.Ytdcdgojcboinaaa
open Go.Shelf Go.RowKit Go.Deep
set_option linter.unusedVariables false

/-- What the sort leaves. -/
def SrP (q blk : Nat) (res : Array (Fin (q + 1))) (w w' : World) (e : Ending) : Prop := e = .returned (.tuple #[]) ∧ ∃ n, w' = (Sort.putRow (encF q) w blk 0 res).drewN n
theorem oinsSort_any (q g pb blk : Nat) (f : Nat → Int) (d res : Array (Fin (q + 1))) (w : World) (hR : q + 1 ≤ 20) (hd : d.size = q + 1) (hH : Sort.Holds (encF q) w blk 0 d) (hp : w.cell? ⟨pb, 0, none⟩ = some (.slice (some ⟨g, 0, none⟩) (q + 1) (q + 1))) (hf : RoV w g (q + 1) (fun i => .int .i64 (f i))) (h1 : pb ≠ blk) (h2 : g ≠ blk) (hres : Sort.insertionSort (ltOf (cfF q f)) d 0 (q + 1) = res) :
    Calls Try.prog 75 #[.slice (some ⟨blk, 0, none⟩) (q + 1) (q + 1), .int .i64 0, .int .i64 ((q + 1 : Nat) : Int), .func (.func 58) #[] #[.pointer (some ⟨pb, 0, none⟩)]] w fun e w' => SrP q blk res w w' e := by
  have eg : ∀ args w, (callFunc 58 args).run Try.prog w = .ok (.enter 58 args) w := enters_of Try.func58 (by kernel_rfl) rfl
  have hc := ocmp_reads q g pb blk d.size f w (by omega) hp hf h1 h2
  have K := Any.insertionSortCmpFunc_one shSrt (encF q) (fun _ => rfl) (cfF q f) 58 #[.pointer (some ⟨pb, 0, none⟩)] blk 0 (q + 1) 0 (q + 1) d w eg hc hH (by omega) (by omega) (by omega)
  rw [hres] at K
  simp only [hd] at K
  exact K
set_option maxRecDepth 100000 in
set_option maxHeartbeats 8000000 in
/-- slices.stableCmpFunc of few. -/
theorem ostable_any (q blk pb R : Nat) (res : Array (Fin (q + 1))) (w : World) (hR : R ≤ 19) (K : Calls Try.prog 75 #[.slice (some ⟨blk, 0, none⟩) R R, .int .i64 0, .int .i64 (R : Int), .func (.func 58) #[] #[.pointer (some ⟨pb, 0, none⟩)]] w fun e w' => SrP q blk res w w' e) :
    Calls Try.prog 71 #[.slice (some ⟨blk, 0, none⟩) R R, .int .i64 (R : Int), .func (.func 58) #[] #[.pointer (some ⟨pb, 0, none⟩)]] w fun e w' => SrP q blk res w w' e := by
  have h1 : ¬ (20 : Int) ≤ (R : Int) := by omega
  have h2 : ¬ (20 : Int) < (R : Int) := by omega
  have HK := hide K
  clear K
  go_enter Try.func71, Try.ntmps71
  go_wp2_with fail
  go_loopw [7, 8] (fun av bv wr => av = .int .i64 0 ∧ bv = .int .i64 20 ∧ wr = w) (fun _ _ _ => 0)
  case atStart => exact ⟨rfl, rfl, rfl⟩
  case round =>
    obtain ⟨rfl, rfl, rfl⟩ := hrel
    go_wp2_with fail
    refine (unhide HK).mono ?_
    rintro _ w2 ⟨rfl, hw2⟩
    have HW2 := hide hw2
    clear HK hw2
    go_wp2_with fail
    go_loopw [6] (fun sv wq => sv = .int .i64 20 ∧ wq = w2) (fun _ _ => 0)
    case atStart => exact ⟨rfl, rfl⟩
    case round =>
      obtain ⟨rfl, rfl⟩ := hrel
      go_wp2_with fail
      go_end0
      exact ⟨rfl, unhide HW2⟩
set_option maxRecDepth 100000 in
set_option maxHeartbeats 8000000 in
/-- slices.SortStableFunc of few. -/
theorem osortSt_any (q blk pb R : Nat) (res : Array (Fin (q + 1))) (w : World) (hR : R ≤ 19) (K : Calls Try.prog 75 #[.slice (some ⟨blk, 0, none⟩) R R, .int .i64 0, .int .i64 (R : Int), .func (.func 58) #[] #[.pointer (some ⟨pb, 0, none⟩)]] w fun e w' => SrP q blk res w w' e) :
    Calls Try.prog 57 #[.slice (some ⟨blk, 0, none⟩) R R, .func (.func 58) #[] #[.pointer (some ⟨pb, 0, none⟩)]] w fun e w' => SrP q blk res w w' e := by
  have HK := hide (ostable_any q blk pb R res w hR K)
  clear K
  go_enter Try.func57, Try.ntmps57
  go_wp2_with fail
  refine (unhide HK).mono ?_
  rintro _ w2 ⟨rfl, hw2⟩
  have HW2 := hide hw2
  clear HK hw2
  go_wp2_with fail
  go_end0
  exact ⟨rfl, unhide HW2⟩
end Go.Proofs.Ytdcdgojcboinaaa

namespace Go.Proofs.Ytdcdgojcboinaaa
open Go.Shelf Go.RowKit Go.Deep
set_option linter.unusedVariables false

/-- 0, 1, .. -/
def natF (q : Nat) : Array (Fin (q + 1)) := Array.ofFn (fun i => i)
/-- What the sort makes of 0, 1, .. -/
structure SoR (q R : Nat) (f : Nat → Int) (rf : Nat → Int) : Prop where
  eq : q + 1 = R
  le : R ≤ 19
  ex : ∃ res : Array (Fin (q + 1)), Sort.insertionSort (ltOf (cfF q f)) (natF q) 0 (q + 1) = res ∧ res.size = q + 1 ∧ ∀ i, i < R → encF q res[i]! = .int .i64 (rf i)
theorem natF_at (q i : Nat) (h : i < q + 1) : encF q (natF q)[i]! = .int .i64 (i : Int) := by
  unfold encF natF
  rw [getElem!_pos _ _ (by simpa using h)]
  simp
/-- slices.SortStableFunc of 0, 1, .. -/
theorem osortR_any (q R g pb blk : Nat) (f rf : Nat → Int) (w : World) (hS : SoR q R f rf) (hH : RoV w blk R (fun i => .int .i64 (i : Int))) (hp : w.cell? ⟨pb, 0, none⟩ = some (.slice (some ⟨g, 0, none⟩) R R)) (hf : RoV w g R (fun i => .int .i64 (f i))) (h1 : pb ≠ blk) (h2 : g ≠ blk) :
    Calls Try.prog 57 #[.slice (some ⟨blk, 0, none⟩) R R, .func (.func 58) #[] #[.pointer (some ⟨pb, 0, none⟩)]] w fun e w' => e = .returned (.tuple #[]) ∧ RoV w' blk R (fun i => .int .i64 (rf i)) ∧ Chg (fun j => j = blk) w w' := by
  obtain ⟨rfl, hle, res, hres, hrs, hrf⟩ := hS
  have hd : (natF q).size = q + 1 := by simp [natF]
  have hHo : Sort.Holds (encF q) w blk 0 (natF q) := fun j hj => by
    rw [hd] at hj
    rw [Nat.zero_add, natF_at q j hj]
    exact hH j hj
  refine (osortSt_any q blk pb (q + 1) res w hle (oinsSort_any q g pb blk f (natF q) res w (by omega) hd hHo hp hf h1 h2 hres)).mono ?_
  rintro e w' ⟨rfl, n, rfl⟩
  have hN := Sort.holds_putRow (encF q) w blk 0 (natF q) res hHo (by rw [hrs, hd])
  refine ⟨rfl, fun i hi => ?_, ?_⟩
  · have h3 := hN i (by rw [hrs]; exact hi)
    rw [Nat.zero_add, hrf i hi] at h3
    exact h3
  · have hC := Chg.of_sort (S := fun j => j = blk) q w 0 blk 0 res #[] rfl
    rw [sortWorld_none] at hC
    exact hC.trans (Chg.of_drewN _ n)
set_option maxRecDepth 100000 in
set_option maxHeartbeats 8000000 in
/-- order.byDegree of few vertices. -/
theorem obyDegree_any (q R : Nat) (a1 a2 : Option Addr) (n1 c1 n2 c2 : Nat) (st cols : List Int) (s : Value) (w : World) (h1 : SlI w a1 n1 c1 st) (h2 : SlI w a2 n2 c2 cols) (hb1 : n1 ≤ 17592186044000) (hb2 : n2 ≤ 17592186044000) (hm : MayP (R : Int) (R : Int) st cols) (rf : Nat → Int) (hS : SoR q R (fun i => ((rowL st cols i).length : Int)) rf) :
    Calls Try.prog 44 #[patV (R : Int) (R : Int) a1 n1 c1 a2 n2 c2, s] w fun e w' => ∃ g, w.heap.size ≤ g ∧ e = .returned (.slice (some ⟨g, 0, none⟩) R R) ∧ RoV w' g R (fun i => .int .i64 (rf i)) ∧ Below w.heap.size w w' := by
  have hRq := hS.le
  have K1 := hide (fun (W : World) (b : Below w.heap.size w W) => odegrees_any R (R : Int) a1 a2 n1 c1 n2 c2 st cols W (h1.below b) (h2.below b) hb1 hb2 hm)
  have K2 := hide (fun (W : World) => obyNumber_any R (R : Int) a1 a2 n1 c1 n2 c2 (.slice none 0 0) W (by omega))
  obtain ⟨wb, hwb⟩ : ∃ x, w.alloc (.cells #[.int .i64 (R : Int), .int .i64 (R : Int), .slice a1 n1 c1, .slice a2 n2 c2] 24) = x := ⟨_, rfl⟩
  have bb : Below w.heap.size w wb := by rw [← hwb]; exact (Below.refl _ _).alloc (Nat.le_refl _) _
  have hT := BoxP.made w #[.int .i64 (R : Int), .int .i64 (R : Int), .slice a1 n1 c1, .slice a2 n2 c2] 24
  rw [hwb] at hT
  have p0 := (hT.all 0 _ rfl).1
  have p1 := (hT.all 1 _ rfl).1
  have p2 := (hT.all 2 _ rfl).1
  have p3 := (hT.all 3 _ rfl).1
  have HT := hide hT
  have HB := hide bb
  unfold patV at K1 K2
  have HSo := hide hS
  clear hT bb h1 h2 hm hS
  unfold patV
  go_enter Try.func44, Try.ntmps44
  go_wp2_with fail
  refine (unhide K1 wb (unhide HB)).mono ?_
  rintro _ w2 ⟨gd, hgd, rfl, hrd, hld, b2⟩
  have HB2 := hide ((unhide HB).trans (b2.mono (unhide HB).size))
  have HD2 := hide (And.intro hrd (And.intro hgd hld))
  -- the box of the variable that the closure reads
  obtain ⟨w3, hw3⟩ : ∃ x, w2.alloc (.cells #[.slice (some ⟨gd, 0, none⟩) R R] 22) = x := ⟨_, rfl⟩
  have b3 : Below w2.heap.size w2 w3 := by rw [← hw3]; exact (Below.refl _ _).alloc (Nat.le_refl _) _
  have hbx := BoxP.made w2 #[.slice (some ⟨gd, 0, none⟩) R R] 22
  rw [hw3] at hbx
  have HX := hide (And.intro hbx (And.intro (hrd.below b3) b3))
  have hT3 := ((unhide HT).below b2).below b3
  clear K1 hrd hgd hld b2 b3 hbx p0 p1 p2 p3
  have p0 := (hT3.all 0 _ rfl).1
  have p1 := (hT3.all 1 _ rfl).1
  have p2 := (hT3.all 2 _ rfl).1
  have p3 := (hT3.all 3 _ rfl).1
  clear hT3
  go_wp2_with fail
  refine (unhide K2 w3).mono ?_
  rintro _ w4 ⟨gl, hgl, rfl, hrl, hll, b4⟩
  have hw3s : w2.heap.size < w3.heap.size := (unhide HX).1.lt
  have hS4 := hide (osortR_any q R gd w2.heap.size gl (fun i => ((rowL st cols i).length : Int)) rf w4 (unhide HSo) hrl (((unhide HX).1.below b4).all 0 _ rfl).1 ((unhide HX).2.1.below b4) (by omega) (by have := (unhide HD2).2.2; omega))
  have HB4 := hide ((unhide HB2).trans (((unhide HX).2.2.mono (unhide HB2).size).trans (b4.mono (Nat.le_trans (unhide HB2).size (unhide HX).2.2.size))))
  have HGL := hide (And.intro hgl hll)
  clear K2 hrl hgl hll b4 p0 p1 p2 p3
  go_wp2_with fail
  refine (unhide hS4).mono ?_
  rintro _ w5 ⟨rfl, hr5, c5⟩
  have HF := hide (And.intro hr5 ((unhide HB4).trans (c5.below (unhide HB4).size (fun j hj e => by have e' : j = gl := e; have := (unhide HGL).1; have := (unhide HB2).size; omega))))
  clear hS4 hr5 c5
  go_wp2_with fail
  try go_ret
  exact ⟨gl, by have := (unhide HGL).1; have := (unhide HB2).size; omega, rfl, (unhide HF).1, (unhide HF).2⟩
set_option maxRecDepth 100000 in
set_option maxHeartbeats 8000000 in
/-- order.Order of OrderLargest, few vertices. -/
theorem oOrder_largest (q R : Nat) (a1 a2 : Option Addr) (n1 c1 n2 c2 : Nat) (st cols : List Int) (w : World) (h1 : SlI w a1 n1 c1 st) (h2 : SlI w a2 n2 c2 cols) (hb1 : n1 ≤ 17592186044000) (hb2 : n2 ≤ 17592186044000) (hm : MayP (R : Int) (R : Int) st cols) (hg : GraP st cols R R) (rf : Nat → Int) (hS : SoR q R (fun i => ((rowL st cols i).length : Int)) rf) :
    Calls Try.prog 17 #[.int .i64 2, patV (R : Int) (R : Int) a1 n1 c1 a2 n2 c2, .slice none 0 0] w fun e w' => ∃ g, w.heap.size ≤ g ∧ e = .returned (.tuple #[.slice (some ⟨g, 0, none⟩) R R, .int .i64 0]) ∧ RoV w' g R (fun i => .int .i64 (rf i)) ∧ Below w.heap.size w w' := by
  obtain ⟨wb, hwb⟩ : ∃ x, w.alloc (.cells #[.int .i64 (R : Int), .int .i64 (R : Int), .slice a1 n1 c1, .slice a2 n2 c2] 24) = x := ⟨_, rfl⟩
  have bb : Below w.heap.size w wb := by rw [← hwb]; exact (Below.refl _ _).alloc (Nat.le_refl _) _
  have hT := BoxP.made w #[.int .i64 (R : Int), .int .i64 (R : Int), .slice a1 n1 c1, .slice a2 n2 c2] 24
  rw [hwb] at hT
  have p0 := (hT.all 0 _ rfl).1
  have p1 := (hT.all 1 _ rfl).1
  have p2 := (hT.all 2 _ rfl).1
  have p3 := (hT.all 3 _ rfl).1
  have K1 := hide (oisGraph_yes R a1 a2 n1 c1 n2 c2 st cols wb (h1.below bb) (h2.below bb) hb1 hb2 hm hg)
  have K2 := hide (fun (W : World) (b : Below w.heap.size w W) => obyDegree_any q R a1 a2 n1 c1 n2 c2 st cols (.slice none 0 0) W (h1.below b) (h2.below b) hb1 hb2 hm rf hS)
  unfold patV at K1 K2
  have HB := hide bb
  have HT := hide hT
  clear hT bb h1 h2 hm hg hS
  unfold patV
  go_enter Try.func17, Try.ntmps17
  go_wp2_with fail
  refine (unhide K1).mono ?_
  rintro _ w2 ⟨rfl, b2⟩
  have HB2 := hide ((unhide HB).trans (b2.mono (unhide HB).size))
  have hT2 := (unhide HT).below b2
  clear K1 b2 p0 p1 p2 p3
  have p0 := (hT2.all 0 _ rfl).1
  have p1 := (hT2.all 1 _ rfl).1
  have p2 := (hT2.all 2 _ rfl).1
  have p3 := (hT2.all 3 _ rfl).1
  have HT2 := hide hT2
  clear hT2
  go_wp2_with fail
  have hHeld : (fun w' => w'.cell? ⟨w.heap.size, 0, none⟩ = some (.int .i64 (R : Int)) ∧ w'.cell? ⟨w.heap.size, 1, none⟩ = some (.int .i64 (R : Int)) ∧ w'.cell? ⟨w.heap.size, 2, none⟩ = some (.slice a1 n1 c1) ∧ w'.cell? ⟨w.heap.size, 3, none⟩ = some (.slice a2 n2 c2)) w2.drew := ⟨p0, p1, p2, p3⟩
  refine anyTill_region (fun w' => w'.cell? ⟨w.heap.size, 0, none⟩ = some (.int .i64 (R : Int)) ∧ w'.cell? ⟨w.heap.size, 1, none⟩ = some (.int .i64 (R : Int)) ∧ w'.cell? ⟨w.heap.size, 2, none⟩ = some (.slice a1 n1 c1) ∧ w'.cell? ⟨w.heap.size, 3, none⟩ = some (.slice a2 n2 c2)) 7 (by kernel_rfl) ?_
  refine anyTill_take (i := 1) (v := ?_) rfl rfl (by kernel_rfl) (by kernel_rfl) (by kernel_rfl) (by kernel_rfl) (fun _ _ _ h => h) (Or.inl ⟨by rfl, ?_⟩) (by assumption) ?_
  rotate_left 1
  · intro W hSw
    try dsimp only at hSw
    go_simp
    try with_reducible rfl
  refine anyTill_take (i := 3) (v := ?_) rfl rfl (by kernel_rfl) (by kernel_rfl) (by kernel_rfl) (by kernel_rfl) (fun _ _ _ h => h) (Or.inl ⟨by rfl, ?_⟩) (by assumption) ?_
  rotate_left 1
  · intro W hSw
    try dsimp only at hSw
    go_simp
    try with_reducible rfl
  refine anyTill_take (i := 4) (v := ?_) rfl rfl (by kernel_rfl) (by kernel_rfl) (by kernel_rfl) (by kernel_rfl) (fun _ _ _ h => h) (Or.inl ⟨by rfl, ?_⟩) (by assumption) ?_
  rotate_left 1
  · intro W hSw
    try dsimp only at hSw
    go_simp
    try with_reducible rfl
  refine anyTill_one (i := 0) (by kernel_rfl) rfl (by rfl) (fun K hK => ?_)
  go_simp
  refine (omakers_any _).mono ?_
  rintro _ w3 ⟨rfl, b3⟩
  have b3' : Below w2.heap.size w2 w3 := (Below.refl _ _).drew.trans b3
  have hlw := (unhide HT2).lt
  have HT3 := hide ((unhide HT2).below b3')
  have HB3 := hide ((unhide HB2).trans (b3'.mono (unhide HB2).size))
  clear b3 b3' p0 p1 p2 p3 hHeld
  have p0 := ((unhide HT3).all 0 _ rfl).1
  have p1 := ((unhide HT3).all 1 _ rfl).1
  have p2 := ((unhide HT3).all 2 _ rfl).1
  have p3 := ((unhide HT3).all 3 _ rfl).1
  refine hK _ _ (fun _ => ⟨p0, p1, p2, p3⟩) ?_
  clear hK K
  refine anyTill_one (i := 2) (by kernel_rfl) rfl (by rfl) (fun K hK => ?_)
  go_simp
  refine hK _ _ (fun _ => ⟨p0, p1, p2, p3⟩) ?_
  clear hK K
  refine anyTill_one (i := 5) (by kernel_rfl) rfl (by rfl) (fun K hK => ?_)
  go_simp
  refine (unhide K2 w3 (unhide HB3)).mono ?_
  rintro _ w4 ⟨g, hg, rfl, hr, b4⟩
  have HT4 := hide ((unhide HT3).below b4)
  have HF := hide (And.intro hr (And.intro ((unhide HB3).trans (b4.mono (unhide HB3).size)) (Nat.le_trans (unhide HB3).size hg)))
  clear hr b4 hg p0 p1 p2 p3
  have p0 := ((unhide HT4).all 0 _ rfl).1
  have p1 := ((unhide HT4).all 1 _ rfl).1
  have p2 := ((unhide HT4).all 2 _ rfl).1
  have p3 := ((unhide HT4).all 3 _ rfl).1
  refine hK _ _ (fun _ => ⟨p0, p1, p2, p3⟩) ?_
  clear hK K
  refine anyTill_one (i := 6) (by kernel_rfl) rfl (by rfl) (fun K hK => ?_)
  go_simp
  refine hK _ _ (fun _ => ⟨p0, p1, p2, p3⟩) ?_
  clear hK K
  refine anyTill_one (i := 7) (by kernel_rfl) rfl (by rfl) (fun K hK => ?_)
  go_simp
  refine hK _ _ (fun h => absurd rfl h) ?_
  clear hK K p0 p1 p2 p3 K2
  refine anyTill_done (by kernel_rfl) ?_
  go_wp2_with fail
  refine bodyPost_ret (by simp [results, Try.results17, go_sem]; try rfl) rfl ?_
  exact ⟨g, (unhide HF).2.2, rfl, (unhide HF).1, (unhide HF).2.1⟩
end Go.Proofs.Ytdcdgojcboinaaa
