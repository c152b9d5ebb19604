/-
  GRAPHS: slices.Contains; colour.hasDiagonal, itself, Near: contracts.
-/
import Derived.Test.YtdcdgojcboinaaaCgb
import Derived.Test.YtdcdgojcboinaaaCo5
import Derived.Laws.EntriesVeiled
import Derived.Test.YtdcdgojcboinaaaSa2
import Derived.Test.YtdcdgojcboinaaaRq0
namespace Go.Proofs.Ytdcdgojcboinaaa
open Go.RowKit Go.Deep
set_option linter.unusedVariables false

set_option maxRecDepth 100000 in
set_option maxHeartbeats 16000000 in
/-- sparse.Symmetric, of a pattern that is not square. -/
theorem ssym_no (R width : Nat) (a1 a2 : Option Addr) (n1 c1 n2 c2 : Nat) (st cols : List Int) (w : World) (h1 : SlI w a1 n1 c1 st) (h2 : SlI w a2 n2 c2 cols) (hb1 : n1 ≤ 17592186044000) (hb2 : n2 ≤ 17592186044000) (hm : MayP (R : Int) (width : Int) st cols) (hne : R ≠ width) :
    Calls Try.prog 23 #[patV (R : Int) (width : Int) a1 n1 c1 a2 n2 c2] w fun e w' => e = .returned (.bool false) ∧ Below w.heap.size w w' := by
  obtain ⟨wb, hwb⟩ : ∃ x, w.alloc (.cells #[.int .i64 (R : Int), .int .i64 (width : Int), .slice a1 n1 c1, .slice a2 n2 c2] 24) = x := ⟨_, rfl⟩
  have bb : Below w.heap.size w wb := by rw [← hwb]; exact (Below.refl _ _).alloc (Nat.le_refl _) _
  have hT := BoxP.made w #[.int .i64 (R : Int), .int .i64 (width : Int), .slice a1 n1 c1, .slice a2 n2 c2] 24
  rw [hwb] at hT
  have hO0 := BoxP.made wb #[.bool false] 4
  obtain ⟨wo, hwo⟩ : ∃ x, wb.alloc (.cells #[.bool false] 4) = x := ⟨_, rfl⟩
  have bo : Below wb.heap.size wb wo := by rw [← hwo]; exact (Below.refl _ _).alloc (Nat.le_refl _) _
  rw [hwo] at hO0
  have hT1 := hT.below bo
  have p0 := (hT1.all 0 _ rfl).1
  have p1 := (hT1.all 1 _ rfl).1
  have p2 := (hT1.all 2 _ rfl).1
  have p3 := (hT1.all 3 _ rfl).1
  have bw := bb.trans (bo.mono bb.size)
  have KM := hide (ssquare_yes R width a1 a2 n1 c1 n2 c2 st cols wo (h1.below bw) (h2.below bw) (by omega) (by omega) hm)
  rw [if_neg hne] at KM
  have HO := hide hO0
  have HB := hide bw
  have HWB := hide bb.size
  clear hT hT1 hO0 bb bo bw h1 h2 hm hne
  unfold patV
  unfold patV at KM
  go_enter Try.func23, Try.ntmps23
  go_wp2_with fail
  refine (unhide KM).mono ?_
  rintro _ w2 ⟨rfl, b2⟩
  have hO2 := (unhide HO).below b2
  have o0 := (hO2.all 0 _ rfl).1
  have r0 := (hO2.all 0 _ rfl).2
  have HB2 := hide ((unhide HB).trans (b2.mono (unhide HB).size))
  have HO2 := hide hO2
  clear b2 hO2 KM p0 p1 p2 p3
  go_wp2_with fail
  have hf := (unhide HO2).put 0 (.bool false)
  have t0 := (hf.all 0 _ rfl).1
  have cc : Chg (fun j => j = wb.heap.size) w2 (w2.setCell ⟨wb.heap.size, 0, none⟩ (.bool false)) := Chg.of_set _ _ _ _ rfl
  generalize w2.setCell ⟨wb.heap.size, 0, none⟩ (.bool false) = wf at *
  refine bodyPost_ret (by simp [results, Try.results23, go_sem, t0]; try rfl) rfl ?_
  exact ⟨rfl, (unhide HB2).trans (cc.below (unhide HB2).size (fun j hj e => by have := unhide HWB; omega))⟩
set_option maxRecDepth 20000 in
set_option maxHeartbeats 8000000 in
/-- slices.Index of whole numbers. -/
theorem sindex_any (a : Option Addr) (n c : Nat) (xs : List Int) (t : Int) (w : World) (h : SlI w a n c xs) (hn : n ≤ 140737488355328) :
    Calls Try.prog 36 #[.slice a n c, .int .i64 t] w fun e w' => ∃ z : Int, e = .returned (.int .i64 z) ∧ (0 ≤ z ↔ HasX xs n t) ∧ Below w.heap.size w w' := by
  have HS := hide h
  clear h
  go_enter Try.func36, Try.ntmps36
  go_wp2_with fail
  go_loopw [8, 5] (fun iv _ wr => ∃ i : Nat, i ≤ n ∧ iv = .int .i64 (i : Int) ∧ Hid (∀ k, k < i → xs.getD k 0 ≠ t) ∧ Hid (Below w.heap.size w wr)) (fun iv _ _ => n - (intOf iv).toNat)
  case atStart => exact ⟨0, Nat.zero_le _, rfl, hide (fun k hk => by omega), hide (Below.refl _ _)⟩
  case round =>
    obtain ⟨i, hi, rfl, HA, HW⟩ := hrel
    by_cases hlt : i < n
    · have hlt' : (i : Int) < (n : Int) := by omega
      obtain ⟨b, off, rfl, hc⟩ := ((unhide HS).below (unhide HW)).at (by omega)
      have hx := hc i hlt
      obtain ⟨x, hxx⟩ : ∃ x, xs.getD i 0 = x := ⟨_, rfl⟩
      rw [hxx] at hx
      have HX := hide hxx
      clear hc hxx
      by_cases he : t = x
      · have he' : (t == x) = true := by simp [he]
        have HE := hide he
        clear he
        go_wp2_with fail
        try go_ret
        exact ⟨_, rfl, ⟨fun _ => ⟨i, hlt, (unhide HX).trans (unhide HE).symm⟩, fun _ => by omega⟩, unhide HW⟩
      · have he' : (t == x) = false := by simp [he]
        have HE := hide he
        clear he
        go_wp2_with fail
        refine ⟨⟨i + 1, by omega, by (first | rfl | go_num), hide (fun k hk => ?_), HW⟩, by simp [intOf]; omega⟩
        by_cases e : k = i
        · rw [e, unhide HX]; exact fun h => unhide HE h.symm
        · exact unhide HA k (by omega)
    · obtain rfl : i = n := by omega
      have hlt' : ¬ (i : Int) < (i : Int) := by omega
      go_wp2_with fail
      try go_ret
      exact ⟨_, rfl, ⟨fun h => by omega, fun ⟨k, hk, e⟩ => absurd e (unhide HA k hk)⟩, unhide HW⟩
set_option maxRecDepth 20000 in
set_option maxHeartbeats 8000000 in
/-- slices.Contains of whole numbers. -/
theorem scontains_any (a : Option Addr) (n c : Nat) (xs : List Int) (t : Int) (w : World) (h : SlI w a n c xs) (hn : n ≤ 140737488355328) (ok : Bool) (hok : TruQ ok (HasX xs n t)) :
    Calls Try.prog 24 #[.slice a n c, .int .i64 t] w fun e w' => e = .returned (.bool ok) ∧ Below w.heap.size w w' := by
  have KI := hide (sindex_any a n c xs t w h hn)
  have HOK := hide hok
  clear h hok
  go_enter Try.func24, Try.ntmps24
  go_wp2_with fail
  refine (unhide KI).mono ?_
  rintro _ w2 ⟨z, rfl, hz, b2⟩
  have hd : decide (0 ≤ z) = ok := by
    cases hk : ok
    · exact decide_eq_false (fun h => by have := Iff.mpr (unhide HOK) (hz.1 h); rw [hk] at this; cases this)
    · exact decide_eq_true (hz.2 (Iff.mp (unhide HOK) hk))
  have HB := hide b2
  clear KI hz b2 HOK
  go_wp2_with fail
  try go_ret
  exact ⟨by simp_all, unhide HB⟩
/-- No thing is its own neighbour. -/
def DiP (st cols : List Int) (k : Nat) : Prop := ∃ r, r < k ∧ InC st cols r r
/-- A pattern that is a graph. -/
def GraP (st cols : List Int) (R width : Nat) : Prop := R = width ∧ SyP st cols R ∧ ¬ DiP st cols R
end Go.Proofs.Ytdcdgojcboinaaa

namespace Go.Proofs.Ytdcdgojcboinaaa
open Go.RowKit Go.Deep
set_option linter.unusedVariables false

set_option maxRecDepth 100000 in
set_option maxHeartbeats 8000000 in
/-- order.isGraph of a graph. -/
theorem oisGraph_yes (R : Nat) (a1 a2 : Option Addr) (n1 c1 n2 c2 : Nat) (st cols : List Int) (w : World) (h1 : SlI w a1 n1 c1 st) (h2 : SlI w a2 n2 c2 cols) (hb1 : n1 ≤ 17592186044000) (hb2 : n2 ≤ 17592186044000) (hm : MayP (R : Int) (R : Int) st cols) (hg : GraP st cols R R) :
    Calls Try.prog 13 #[patV (R : Int) (R : Int) a1 n1 c1 a2 n2 c2] w fun e w' => e = .returned (.bool true) ∧ Below w.heap.size w w' := by
  have hR : R ≤ 128 := by have := hm.head.fit; omega
  obtain ⟨wb, hwb⟩ : ∃ x, w.alloc (.cells #[.int .i64 (R : Int), .int .i64 (R : Int), .slice a1 n1 c1, .slice a2 n2 c2] 24) = x := ⟨_, rfl⟩
  have bb : Below w.heap.size w wb := by rw [← hwb]; exact (Below.refl _ _).alloc (Nat.le_refl _) _
  have hT := BoxP.made w #[.int .i64 (R : Int), .int .i64 (R : Int), .slice a1 n1 c1, .slice a2 n2 c2] 24
  rw [hwb] at hT
  have p0 := (hT.all 0 _ rfl).1
  have p1 := (hT.all 1 _ rfl).1
  have p2 := (hT.all 2 _ rfl).1
  have p3 := (hT.all 3 _ rfl).1
  have KS := hide (ssym_any R a1 a2 n1 c1 n2 c2 st cols wb (h1.below bb) (h2.below bb) hb1 hb2 hm true ⟨fun _ => hg.2.1, fun _ => rfl⟩)
  unfold patV at KS
  have HB := hide bb
  have HT := hide hT
  have HS := hide (And.intro h1 h2)
  have HM := hide hm
  have HG := hide hg
  clear hT bb h1 h2 hm hg
  unfold patV
  go_enter Try.func13, Try.ntmps13
  go_wp2_with fail
  refine (unhide KS).mono ?_
  rintro _ w2 ⟨rfl, b2⟩
  have HT2 := hide ((unhide HT).below b2)
  have HB2 := hide ((unhide HB).trans (b2.mono (unhide HB).size))
  clear KS b2 p0 p1 p2 p3
  have p0 := ((unhide HT2).all 0 _ rfl).1
  go_wp2_with fail
  go_loopw [9, 3] (fun kv _ wr => ∃ k : Nat, k ≤ R ∧ kv = .int .i64 (k : Int) ∧ Hid (Below w2.heap.size w2 wr)) (fun kv _ _ => R - (intOf kv).toNat)
  case atStart => exact ⟨0, Nat.zero_le _, rfl, hide (Below.refl _ _)⟩
  case round =>
    obtain ⟨k, hk, rfl, HW⟩ := hrel
    by_cases hlt : k < R
    · have hlt' : (k : Int) < (R : Int) := by omega
      have hTr := (unhide HT2).below (unhide HW)
      have q0 := (hTr.all 0 _ rfl).1
      have q1 := (hTr.all 1 _ rfl).1
      have q2 := (hTr.all 2 _ rfl).1
      have q3 := (hTr.all 3 _ rfl).1
      have KN := hide (oneigh_list R (R : Int) a1 a2 n1 c1 n2 c2 st cols k wr (((unhide HS).1.below (unhide HB2)).below (unhide HW)) (((unhide HS).2.below (unhide HB2)).below (unhide HW)) hb1 hb2 (unhide HM) hlt)
      unfold patV at KN
      clear hTr p0
      go_wp2_with fail
      refine (unhide KN).mono ?_
      rintro _ w4 ⟨a4, c4, rfl, hs4, hl4, _, b4⟩
      have KC := hide (scontains_any a4 _ c4 _ (k : Int) w4 hs4 (by omega) false ⟨fun e => absurd e (by decide), fun hh => absurd ((rowL_mem (unhide HM) hlt).1 (mem_getD.2 (by obtain ⟨i, hi, e⟩ := hh; exact ⟨i, hi, e⟩))) (fun hin => (unhide HG).2.2 ⟨k, hlt, hin⟩)⟩)
      have HW4 := hide ((unhide HW).trans (b4.mono (unhide HW).size))
      clear KN hs4 b4 q0 q1 q2 q3
      go_wp2_with fail
      refine (unhide KC).mono ?_
      rintro _ w5 ⟨rfl, b5⟩
      have HW5 := hide ((unhide HW4).trans (b5.mono (unhide HW4).size))
      clear KC b5
      go_wp2_with fail
      exact ⟨⟨k + 1, by omega, by (first | rfl | go_num), HW5⟩, by simp [intOf]; omega⟩
    · obtain rfl : k = R := by omega
      have hlt' : ¬ (k : Int) < (k : Int) := by omega
      go_wp2_with fail
      try go_ret
      exact ⟨rfl, (unhide HB2).trans ((unhide HW).mono (unhide HB2).size)⟩
end Go.Proofs.Ytdcdgojcboinaaa

namespace Go.Proofs.Ytdcdgojcboinaaa
open Go.RowKit Go.Deep
set_option linter.unusedVariables false

set_option maxRecDepth 100000 in
set_option maxHeartbeats 8000000 in
/-- order.makers. -/
theorem omakers_any (w : World) :
    Calls Try.prog 30 #[] w fun e w' => e = .returned (.agg #[Value.nilFunc, (.func (.func 37) #[] #[]), (.func (.func 44) #[] #[]), (.func (.func 45) #[] #[]), (.func (.func 46) #[] #[]), (.func (.func 47) #[] #[])]) ∧ Below w.heap.size w w' := by
  go_enter Try.func30, Try.ntmps30
  go_wp2_with fail
  refine bodyPost_ret (by simp [results, Try.results30, go_sem]; try rfl) rfl ?_
  exact ⟨rfl, (Below.refl _ _).alloc (Nat.le_refl _) _⟩
end Go.Proofs.Ytdcdgojcboinaaa

namespace Go.Proofs.Ytdcdgojcboinaaa
open Go.RowKit Go.Deep
set_option linter.unusedVariables false

/-- How two numbers stand. -/
def cmpI (x y : Int) : Int := if x < y then -1 else if y < x then 1 else 0
set_option maxRecDepth 100000 in
set_option maxHeartbeats 8000000 in
/-- cmp.Compare of whole numbers. -/
theorem ocmp_any (x y : Int) (w : World) : Calls Try.prog 59 #[.int .i64 x, .int .i64 y] w fun e w' => e = .returned (.int .i64 (cmpI x y)) ∧ Below w.heap.size w w' := by
  by_cases h1 : x < y
  · have e : cmpI x y = -1 := by unfold cmpI; rw [if_pos h1]
    rw [e]
    clear e
    go_enter Try.func59, Try.ntmps59
    go_wp2_with ((go_at_call 72; refine (nan_int _ _).mono ?_; rintro _ _ ⟨rfl, hw⟩; subst hw))
    try go_ret
    exact ⟨rfl, Below.refl _ _⟩
  · by_cases h2 : y < x
    · have e : cmpI x y = 1 := by unfold cmpI; rw [if_neg h1, if_pos h2]
      rw [e]
      clear e
      go_enter Try.func59, Try.ntmps59
      go_wp2_with ((go_at_call 72; refine (nan_int _ _).mono ?_; rintro _ _ ⟨rfl, hw⟩; subst hw))
      try go_ret
      exact ⟨rfl, Below.refl _ _⟩
    · have e : cmpI x y = 0 := by unfold cmpI; rw [if_neg h1, if_neg h2]
      rw [e]
      clear e
      go_enter Try.func59, Try.ntmps59
      go_wp2_with ((go_at_call 72; refine (nan_int _ _).mono ?_; rintro _ _ ⟨rfl, hw⟩; subst hw))
      try go_ret
      exact ⟨rfl, Below.refl _ _⟩
set_option maxRecDepth 100000 in
set_option maxHeartbeats 8000000 in
/-- byDegree's closure: by falling degrees. -/
theorem obydeg1_any (u v R g pb : Nat) (f : Nat → Int) (w : World) (hu : u < R) (hv : v < R) (hR : R ≤ 128) (hp : w.cell? ⟨pb, 0, none⟩ = some (.slice (some ⟨g, 0, none⟩) R R)) (hf : RoV w g R (fun i => .int .i64 (f i))) :
    Calls Try.prog 58 #[.int .i64 (u : Int), .int .i64 (v : Int), .pointer (some ⟨pb, 0, none⟩)] w fun e w' => e = .returned (.int .i64 (cmpI (f v) (f u))) ∧ Below w.heap.size w w' := by
  have hu' : (u : Int) < (R : Int) := by omega
  have hv' : (v : Int) < (R : Int) := by omega
  have cu := (hf u hu).1
  have cv := (hf v hv).1
  obtain ⟨x, hx⟩ : ∃ x, f u = x := ⟨_, rfl⟩
  obtain ⟨y, hy⟩ : ∃ y, f v = y := ⟨_, rfl⟩
  simp only [hx] at cu
  simp only [hy] at cv
  rw [hx, hy]
  have Fp := fun x' : Ext w => x'.cell hp
  have Fu := fun x' : Ext w => x'.cell cu
  have Fv := fun x' : Ext w => x'.cell cv
  have hNE := Ext.ne w
  have HK := hide (show ∀ x' : Ext w, Calls Try.prog 59 #[.int .i64 y, .int .i64 x] x'.w fun e w' => e = .returned (.int .i64 (cmpI y x)) ∧ Below x'.w.heap.size x'.w w' from fun x' => ocmp_any y x x'.w)
  clear hf hx hy hp cu cv
  go_enter Try.func58, Try.ntmps58
  go_wp2_with fail
  refine wp_region_ext (by kernel_rfl) (by kernel_rfl) ?_
  repeat (go_big_quiet_step ((go_at_call 59; rename_i x'; exact Ext.call (unhide HK x') (fun e w' h => h))))
  refine wpQuiet_nil ?_
  rintro _ ⟨xE, rfl⟩
  have HB := hide xE.bel
  clear Fp Fu Fv hNE HK
  go_wp2_with fail
  try go_ret
  exact ⟨rfl, unhide HB⟩
end Go.Proofs.Ytdcdgojcboinaaa
