/-
  ORDERS: order.isGraph of a graph: contract.
-/
import Derived.Test.YtppdpdkldokacaaCo5
import Derived.Test.YtppdpdkldokacaaCgc
import Derived.Laws.EntriesVeiled
import Derived.Test.YtppdpdkldokacaaSa2
import Derived.Test.YtppdpdkldokacaaRq0
namespace Go.Proofs.Ytppdpdkldokacaa
open Go.RowKit Go.Deep
set_option linter.unusedVariables false

set_option maxRecDepth 100000 in
set_option maxHeartbeats 8000000 in
/-- order.isGraph of a graph. -/
theorem oisGraph_yes (R : Nat) (a1 a2 : Option Addr) (n1 c1 n2 c2 : Nat) (st cols : List Int) (w : World) (h1 : SlI w a1 n1 c1 st) (h2 : SlI w a2 n2 c2 cols) (hb1 : n1 ≤ 17592186044000) (hb2 : n2 ≤ 17592186044000) (hm : MayP (R : Int) (R : Int) st cols) (hg : GraP st cols R R) :
    Calls Try.prog 31 #[patV (R : Int) (R : Int) a1 n1 c1 a2 n2 c2] w fun e w' => e = .returned (.bool true) ∧ Below w.heap.size w w' := by
  have hR : R ≤ 128 := by have := hm.head.fit; omega
  obtain ⟨wb, hwb⟩ : ∃ x, w.alloc (.cells #[.int .i64 (R : Int), .int .i64 (R : Int), .slice a1 n1 c1, .slice a2 n2 c2] 61) = x := ⟨_, rfl⟩
  have bb : Below w.heap.size w wb := by rw [← hwb]; exact (Below.refl _ _).alloc (Nat.le_refl _) _
  have hT := BoxP.made w #[.int .i64 (R : Int), .int .i64 (R : Int), .slice a1 n1 c1, .slice a2 n2 c2] 61
  rw [hwb] at hT
  have p0 := (hT.all 0 _ rfl).1
  have p1 := (hT.all 1 _ rfl).1
  have p2 := (hT.all 2 _ rfl).1
  have p3 := (hT.all 3 _ rfl).1
  have KS := hide (ssym_any R a1 a2 n1 c1 n2 c2 st cols wb (h1.below bb) (h2.below bb) hb1 hb2 hm true ⟨fun _ => hg.2.1, fun _ => rfl⟩)
  unfold patV at KS
  have HB := hide bb
  have HT := hide hT
  have HS := hide (And.intro h1 h2)
  have HM := hide hm
  have HG := hide hg
  clear hT bb h1 h2 hm hg
  unfold patV
  go_enter Try.func31, Try.ntmps31
  go_wp2_with fail
  refine (unhide KS).mono ?_
  rintro _ w2 ⟨rfl, b2⟩
  have HT2 := hide ((unhide HT).below b2)
  have HB2 := hide ((unhide HB).trans (b2.mono (unhide HB).size))
  clear KS b2 p0 p1 p2 p3
  have p0 := ((unhide HT2).all 0 _ rfl).1
  go_wp2_with fail
  go_loopw [9, 3] (fun kv _ wr => ∃ k : Nat, k ≤ R ∧ kv = .int .i64 (k : Int) ∧ Hid (Below w2.heap.size w2 wr)) (fun kv _ _ => R - (intOf kv).toNat)
  case atStart => exact ⟨0, Nat.zero_le _, rfl, hide (Below.refl _ _)⟩
  case round =>
    obtain ⟨k, hk, rfl, HW⟩ := hrel
    by_cases hlt : k < R
    · have hlt' : (k : Int) < (R : Int) := by omega
      have hTr := (unhide HT2).below (unhide HW)
      have q0 := (hTr.all 0 _ rfl).1
      have q1 := (hTr.all 1 _ rfl).1
      have q2 := (hTr.all 2 _ rfl).1
      have q3 := (hTr.all 3 _ rfl).1
      have KN := hide (oneigh_list R (R : Int) a1 a2 n1 c1 n2 c2 st cols k wr (((unhide HS).1.below (unhide HB2)).below (unhide HW)) (((unhide HS).2.below (unhide HB2)).below (unhide HW)) hb1 hb2 (unhide HM) hlt)
      unfold patV at KN
      clear hTr p0
      go_wp2_with fail
      refine (unhide KN).mono ?_
      rintro _ w4 ⟨a4, c4, rfl, hs4, hl4, _, b4⟩
      have KC := hide (scontains_any a4 _ c4 _ (k : Int) w4 hs4 (by omega) false ⟨fun e => absurd e (by decide), fun hh => absurd ((rowL_mem (unhide HM) hlt).1 (mem_getD.2 (by obtain ⟨i, hi, e⟩ := hh; exact ⟨i, hi, e⟩))) (fun hin => (unhide HG).2.2 ⟨k, hlt, hin⟩)⟩)
      have HW4 := hide ((unhide HW).trans (b4.mono (unhide HW).size))
      clear KN hs4 b4 q0 q1 q2 q3
      go_wp2_with fail
      refine (unhide KC).mono ?_
      rintro _ w5 ⟨rfl, b5⟩
      have HW5 := hide ((unhide HW4).trans (b5.mono (unhide HW4).size))
      clear KC b5
      go_wp2_with fail
      exact ⟨⟨k + 1, by omega, by (first | rfl | go_num), HW5⟩, by simp [intOf]; omega⟩
    · obtain rfl : k = R := by omega
      have hlt' : ¬ (k : Int) < (k : Int) := by omega
      go_wp2_with fail
      try go_ret
      exact ⟨rfl, (unhide HB2).trans ((unhide HW).mono (unhide HB2).size)⟩
end Go.Proofs.Ytppdpdkldokacaa

namespace Go.Proofs.Ytppdpdkldokacaa
open Go.RowKit Go.Deep
set_option linter.unusedVariables false

set_option maxRecDepth 100000 in
set_option maxHeartbeats 8000000 in
/-- order.makers. -/
theorem omakers_any (w : World) :
    Calls Try.prog 32 #[] w fun e w' => e = .returned (.agg #[Value.nilFunc, (.func (.func 41) #[] #[]), (.func (.func 42) #[] #[]), (.func (.func 43) #[] #[]), (.func (.func 44) #[] #[]), (.func (.func 45) #[] #[])]) ∧ Below w.heap.size w w' := by
  go_enter Try.func32, Try.ntmps32
  go_wp2_with fail
  refine bodyPost_ret (by simp [results, Try.results32, go_sem]; try rfl) rfl ?_
  exact ⟨rfl, (Below.refl _ _).alloc (Nat.le_refl _) _⟩
end Go.Proofs.Ytppdpdkldokacaa

namespace Go.Proofs.Ytppdpdkldokacaa
open Go.RowKit Go.Deep
set_option linter.unusedVariables false

/-- How two numbers stand. -/
def cmpI (x y : Int) : Int := if x < y then -1 else if y < x then 1 else 0
set_option maxRecDepth 100000 in
set_option maxHeartbeats 8000000 in
/-- cmp.Compare of whole numbers. -/
theorem ocmp_any (x y : Int) (w : World) : Calls Try.prog 58 #[.int .i64 x, .int .i64 y] w fun e w' => e = .returned (.int .i64 (cmpI x y)) ∧ Below w.heap.size w w' := by
  by_cases h1 : x < y
  · have e : cmpI x y = -1 := by unfold cmpI; rw [if_pos h1]
    rw [e]
    clear e
    go_enter Try.func58, Try.ntmps58
    go_wp2_with ((go_at_call 71; refine (nan_int _ _).mono ?_; rintro _ _ ⟨rfl, hw⟩; subst hw))
    try go_ret
    exact ⟨rfl, Below.refl _ _⟩
  · by_cases h2 : y < x
    · have e : cmpI x y = 1 := by unfold cmpI; rw [if_neg h1, if_pos h2]
      rw [e]
      clear e
      go_enter Try.func58, Try.ntmps58
      go_wp2_with ((go_at_call 71; refine (nan_int _ _).mono ?_; rintro _ _ ⟨rfl, hw⟩; subst hw))
      try go_ret
      exact ⟨rfl, Below.refl _ _⟩
    · have e : cmpI x y = 0 := by unfold cmpI; rw [if_neg h1, if_neg h2]
      rw [e]
      clear e
      go_enter Try.func58, Try.ntmps58
      go_wp2_with ((go_at_call 71; refine (nan_int _ _).mono ?_; rintro _ _ ⟨rfl, hw⟩; subst hw))
      try go_ret
      exact ⟨rfl, Below.refl _ _⟩
set_option maxRecDepth 100000 in
set_option maxHeartbeats 8000000 in
/-- byDegree's closure: by falling degrees. -/
theorem obydeg1_any (u v R g pb : Nat) (f : Nat → Int) (w : World) (hu : u < R) (hv : v < R) (hR : R ≤ 128) (hp : w.cell? ⟨pb, 0, none⟩ = some (.slice (some ⟨g, 0, none⟩) R R)) (hf : RoV w g R (fun i => .int .i64 (f i))) :
    Calls Try.prog 57 #[.int .i64 (u : Int), .int .i64 (v : Int), .pointer (some ⟨pb, 0, none⟩)] w fun e w' => e = .returned (.int .i64 (cmpI (f v) (f u))) ∧ Below w.heap.size w w' := by
  have hu' : (u : Int) < (R : Int) := by omega
  have hv' : (v : Int) < (R : Int) := by omega
  have cu := (hf u hu).1
  have cv := (hf v hv).1
  obtain ⟨x, hx⟩ : ∃ x, f u = x := ⟨_, rfl⟩
  obtain ⟨y, hy⟩ : ∃ y, f v = y := ⟨_, rfl⟩
  simp only [hx] at cu
  simp only [hy] at cv
  rw [hx, hy]
  have Fp := fun x' : Ext w => x'.cell hp
  have Fu := fun x' : Ext w => x'.cell cu
  have Fv := fun x' : Ext w => x'.cell cv
  have hNE := Ext.ne w
  have HK := hide (show ∀ x' : Ext w, Calls Try.prog 58 #[.int .i64 y, .int .i64 x] x'.w fun e w' => e = .returned (.int .i64 (cmpI y x)) ∧ Below x'.w.heap.size x'.w w' from fun x' => ocmp_any y x x'.w)
  clear hf hx hy hp cu cv
  go_enter Try.func57, Try.ntmps57
  go_wp2_with fail
  refine wp_region_ext (by kernel_rfl) (by kernel_rfl) ?_
  repeat (go_big_quiet_step ((go_at_call 58; rename_i x'; exact Ext.call (unhide HK x') (fun e w' h => h))))
  refine wpQuiet_nil ?_
  rintro _ ⟨xE, rfl⟩
  have HB := hide xE.bel
  clear Fp Fu Fv hNE HK
  go_wp2_with fail
  try go_ret
  exact ⟨rfl, unhide HB⟩
end Go.Proofs.Ytppdpdkldokacaa
