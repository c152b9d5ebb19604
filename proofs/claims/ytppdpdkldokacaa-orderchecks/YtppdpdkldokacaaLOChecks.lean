/-
  THE LAW OrderChecks: the walk, the row.
-/
import Derived.Test.YtppdpdkldokacaaCph
import Derived.Test.YtppdpdkldokacaaSi8
import Derived.Test.YtppdpdkldokacaaRows
import Derived.Deep.DeepHandedRow
import Derived.Deep.RegionHeld3
namespace Go.Proofs.Ytppdpdkldokacaa
open Go.ChangeShapes Go.WideShapes Go.ChangeAt Go.RowKit Go.Deep
set_option linter.unusedVariables false

theorem own_nilP {B k : Nat} (hk : k ≠ B) : ¬ Own B (.slice none 0 0) (.slice none 0 0) k := fun e => by
  rcases e with e | e | e
  · exact hk e
  · simp [Value.ownBlock] at e
  · simp [Value.ownBlock] at e
set_option maxRecDepth 100000 in
theorem arg_intsZ {H : Type} {enc : TypeId × Value → H} {W : World} {v : Value} {d : DataW H} {p : List MemPlace} {r : Reach} {b0 : Nat}
    (hv : Value.okWide Try.prog W r b0 22 v) (h : DataW.Trod enc Try.prog W 0 (fun _ => true) true 22 v d p) (hz : ∀ k ∈ d.weights Try.prog 22, k ≤ reachBytes) :
    ∃ a n c xs, v = .slice a n c ∧ SlI W a n c xs ∧ n ≤ 17592186044000 := by
  obtain ⟨a, n, c, rfl⟩ := okWide_slice Try.underlying22 hv
  obtain ⟨fuel, hf⟩ := h
  obtain ⟨a', n', c', xs, e, h1, h2⟩ := trod_intsZ hf hz
  simp [Value.cells] at e
  obtain ⟨rfl, rfl, rfl⟩ := e
  exact ⟨a, n, c, xs, rfl, h1, h2⟩
theorem map_getD (xs : List Int) : (List.range xs.length).map (fun i => xs.getD i 0) = xs := by
  apply List.ext_getElem
  · simp
  · intro i h1 h2
    simp [List.getD, List.getElem?_eq_getElem h2]
set_option maxRecDepth 100000 in
set_option maxHeartbeats 64000000 in
theorem orderChecks_walk (x : Int) (a : Option Addr) (n c : Nat) (xs : List Int) (w : World) (hS : SlI w a n c xs) (hn : n ≤ 17592186044000) :
    Calls Try.prog 3 #[.int .i64 x, .slice a n c] w fun e w' => e = .returned (.bool true) ∧ Below w.heap.size w w' := by
  obtain ⟨B, hBe⟩ : ∃ B, w.heap.size = B := ⟨_, rfl⟩
  have hG := GivI.made w
  rw [hBe] at hG
  have bg : Below w.heap.size w (w.alloc givO) := (Below.refl _ _).alloc (Nat.le_refl _) _
  obtain ⟨wg, hwg⟩ : ∃ x, w.alloc givO = x := ⟨_, rfl⟩
  rw [hwg] at hG bg
  unfold givO at hwg
  have KI := hide (gints_any B (.slice none 0 0) (.slice none 0 0) [] (fun _ => .slice none 0 0) a n c xs wg hG (hS.below bg) hn (by simp))
  have HS := hide hS
  have HBG := hide bg
  have HBE := hide hBe
  clear hG bg hS
  go_enter Try.func3, Try.ntmps3
  go_wp2_with fail
  refine (unhide KI).mono ?_
  rintro _ w1 ⟨v0, v1, E, rfl, hE, hEn, hG1, hC1, hO1⟩
  have b1 : Below w.heap.size w w1 := (unhide HBG).trans (hC1.below (unhide HBG).size (fun k hk => own_nilP (by have := unhide HBE; omega)))
  have hSE := hG1.sli (E := E) (by simp) hE (unhide HS).len
  have hS1 := (unhide HS).below b1
  have HG1 := hide hG1
  have HB1 := hide b1
  have HEL := hide (show ∀ e ∈ [] ++ [E], e.xs.length ≤ 17592186044000 from fun e he => by
    simp at he
    subst he
    rw [hE, (unhide HS).len]
    exact hn)
  have KC := hide (ochecks_any x (some ⟨E.b, 0, none⟩) a n E.c c xs w1 hSE hS1 hn)
  have HSE := hide hSE
  clear hG1 hC1 hO1 hEn b1 KI hSE hS1 hE
  go_wp2_with fail
  refine (unhide KC).mono ?_
  rintro _ w2 ⟨rfl, b2⟩
  have HG2 := hide ((unhide HG1).below b2)
  have HB2 := hide ((unhide HB1).trans (b2.mono (unhide HB1).size))
  have HSE2 := hide ((unhide HSE).below b2)
  clear KC b2 HG1 HB1 HSE
  by_cases hy : n ≤ 128 ∧ OrdTo xs n n
  · have KI := hide (oinv_yes (some ⟨E.b, 0, none⟩) n E.c xs w2 (unhide HSE2) hy.1 hy.2)
    have HY := hide hy
    clear hy
    go_wp2_with fail
    refine (unhide KI).mono ?_
    rintro _ w3 ⟨g3, hg3, rfl, hr3, b3⟩
    have s3 : SlI w3 (some ⟨g3, 0, none⟩) n n (plL xs n) := hr3.sl2 (unhide HY).1
    have KJ := hide (oinv_yes (some ⟨g3, 0, none⟩) n n (plL xs n) w3 s3 (unhide HY).1 (plL_ord (unhide HY).2))
    have HG3 := hide ((unhide HG2).below b3)
    have HB3 := hide ((unhide HB2).trans (b3.mono (unhide HB2).size))
    clear KI hg3 hr3 b3 s3 HG2 HB2
    go_wp2_with fail
    refine (unhide KJ).mono ?_
    rintro _ w4 ⟨g4, hg4, rfl, hr4, b4⟩
    have HG4 := hide ((unhide HG3).below b4)
    have HB4 := hide ((unhide HB3).trans (b4.mono (unhide HB3).size))
    have s4 : SlI w4 (some ⟨g4, 0, none⟩) n n xs := by
      have q : RoV w4 g4 n (fun v => .int .i64 (xs.getD v 0)) := hr4.congr (fun v hv => by rw [plL_twice (unhide HY).2 hv])
      have q2 := q.sl2 (f := fun v => xs.getD v 0) (unhide HY).1
      have e : (List.range n).map (fun v => xs.getD v 0) = xs := by rw [← (unhide HS).len]; exact map_getD xs
      rw [e] at q2
      exact q2
    have KS := hide (sameInts_eq (some ⟨g4, 0, none⟩) a n n c xs w4 s4 ((unhide HS).below (unhide HB4)) (by omega))
    clear KJ hg4 hr4 b4 s4 HG3 HB3
    go_wp2_with ((go_at_call 7; refine (num11_any _ _).mono ?_; rintro _ wn ⟨rfl, hwn⟩; rw [hwn]; clear hwn wn))
    refine (unhide KS).mono ?_
    rintro _ w5 ⟨rfl, m5, hm5⟩
    have b5 : Below w4.heap.size w4 w5 := by rw [hm5]; exact bel_drewN (Below.refl _ _) m5
    have HG5 := hide ((unhide HG4).below b5)
    have HB5 := hide ((unhide HB4).trans (b5.mono (unhide HB4).size))
    clear KS hm5 b5 HG4
    go_wp2_with fail
    refine (intactI_any w5 B v0 v1 ([] ++ [E]) (unhide HG5) (by simp) (unhide HEL)).mono ?_
    rintro _ w8 ⟨rfl, kx, hkx⟩
    have HB8 := hide (show Below w.heap.size w w8 from by rw [hkx]; exact bel_drewN (unhide HB5) kx)
    clear hkx
    go_wp2_with fail
    refine (oalive_any w8).mono ?_
    rintro _ w9 ⟨rfl, b9⟩
    have HB9 := hide ((unhide HB8).trans (b9.mono (unhide HB8).size))
    clear b9
    go_wp2_with fail
    try go_ret
    exact ⟨rfl, by have h9 := unhide HB9; first | exact h9 | (rw [unhide HBE] at h9; exact h9)⟩
  · have KI := hide (oinv_no (some ⟨E.b, 0, none⟩) n E.c xs w2 (unhide HSE2) (by omega) (fun h => hy ⟨h.1, h.2.2⟩))
    clear hy
    go_wp2_with fail
    refine (unhide KI).mono ?_
    rintro _ w3 ⟨rfl, b3⟩
    have KJ := hide (oinv_yes none 0 0 [] w3 (SlI.nil _) (by omega) ⟨fun j hj => absurd hj (Nat.not_lt_zero j), fun i j _ hj => absurd hj (Nat.not_lt_zero j)⟩)
    have HG3 := hide ((unhide HG2).below b3)
    have HB3 := hide ((unhide HB2).trans (b3.mono (unhide HB2).size))
    clear KI b3 HG2 HB2
    go_wp2_with fail
    refine (unhide KJ).mono ?_
    rintro _ w4 ⟨g4, hg4, rfl, hr4, b4⟩
    have HG4 := hide ((unhide HG3).below b4)
    have HB4 := hide ((unhide HB3).trans (b4.mono (unhide HB3).size))
    clear KJ hg4 hr4 b4 HG3 HB3
    go_wp2_with ((go_at_call 7; refine (num11_any _ _).mono ?_; rintro _ wn ⟨rfl, hwn⟩; rw [hwn]; clear hwn wn))
    refine (intactI_any w4 B v0 v1 ([] ++ [E]) (unhide HG4) (by simp) (unhide HEL)).mono ?_
    rintro _ w8 ⟨rfl, kx, hkx⟩
    have HB8 := hide (show Below w.heap.size w w8 from by rw [hkx]; exact bel_drewN (unhide HB4) kx)
    clear hkx
    go_wp2_with fail
    refine (oalive_any w8).mono ?_
    rintro _ w9 ⟨rfl, b9⟩
    have HB9 := hide ((unhide HB8).trans (b9.mono (unhide HB8).size))
    clear b9
    go_wp2_with fail
    try go_ret
    exact ⟨rfl, by have h9 := unhide HB9; first | exact h9 | (rw [unhide HBE] at h9; exact h9)⟩
theorem law_own : ownKnob Try.prog.godebug = none := by kernel_rfl
theorem law_laid : laidOutB Try.prog = true := by kernel_rfl
set_option maxRecDepth 100000 in
theorem orderChecks_lifted (os : Os) (started : os.Started) (H : Type) (enc : TypeId × Value → H) :
    ReturnsInHanded {} Try.checked os 3 .any (Rows.orderChecksSpec.pre6 enc Try.prog Try.f3 Rows.orderChecksRow.domain false) (Rows.orderChecksSpec.post enc Try.prog Try.f3 false true false false) := by
  refine returnsInHanded_of_change_sized (C := Try.checked) law_own started (by kernel_rfl) Try.func3
    (ChangeSpec.witness6 (enc := enc) (C := Try.checked) false ⟨#[], #[.int .i64 0, .slice none 0 0], []⟩ 8 (by kernel_rfl) (by kernel_rfl) (by kernel_rfl) (by kernel_rfl)) ?_
  intro W base args ds gs before hval0 hW hcnd hsz _
  have hval : ∀ (j : Nat) t v, Try.f3.params[j]? = some t → args[j]? = some v → Value.okWide Try.prog W .any base t v := hval0
  have hW' := hW
  obtain ⟨p, q, hA0, hV, rfl, hfz, hnd⟩ := hW
  have hA : DataW.TrodAll enc Try.prog W 0 (fun _ => true) true Try.f3.params.toList args.toList ds p := hA0
  rw [Try.params3] at hA hval hsz
  obtain ⟨v0, vs0, d0, ds0, p0, q0, hargs, rfl, rfl, h0, r0⟩ := trodAll_cons hA
  obtain ⟨v1, vs1, d1, ds1, p1, q1, rfl, rfl, rfl, h1, r1⟩ := trodAll_cons r0
  obtain ⟨rfl, rfl, rfl⟩ := trodAll_nil r1
  obtain rfl : args = #[v0, v1] := by cases args; simp_all
  obtain ⟨rfl, rfl⟩ := trodVars_none hV
  have k1 := h1
  have lt1 : ∀ x ∈ p1, x.block < W.heap.size := by obtain ⟨m, hm⟩ := k1; exact DataW.trod_lt m _ _ _ hm
  obtain ⟨k, rfl, rfl, rfl, wf0⟩ := open_int Try.underlying3 (hval 0 3 v0 rfl rfl) h0
  obtain ⟨a, n, c, xs, rfl, ho1, hn1⟩ := arg_intsZ (hval 1 22 v1 rfl rfl) h1 (fun k hk => by simpa using List.all_eq_true.1 hsz k (DataW.weights_mem_each (j := 1) rfl rfl k hk))
  clear hA0 hval0
  refine (orderChecks_walk k a n c xs W ho1 hn1).mono fun e W' ⟨he, bel⟩ => ?_
  subst he
  exact ⟨_, rfl, _, _, _, [], _, [], hW', trodAll_mk1 (shut_bool Try.underlying4 _), (trodAll_cons_mk (shut_int Try.underlying3 wf0) (trodAll_cons_mk (Below.trod law_laid (by kernel_rfl) (of_decide_eq_true (by kernel_rfl)) k1 bel lt1) trodAll_mk0)), rfl, bel.frame _, fun h => by cases h⟩

theorem orderChecks_holds : Rows.OrderChecksSaid :=
  OpenClaim.holds_of_wide 3 Try.f3 rfl rfl rfl rfl rfl rfl rfl ⟨rfl, rfl, rfl, rfl, rfl⟩ rfl rfl rfl rfl rfl (by kernel_rfl) Try.func3 (by kernel_rfl)
    (of_decide_eq_true (by kernel_rfl)) (by unfold Func.isWrapper; first | (rw [if_pos (by decide +kernel)]; kernel_rfl) | (rw [if_neg (by decide +kernel)]; exact ⟨rfl, rfl⟩))
    (fun os started H enc _ => orderChecks_lifted os started H enc)
#print axioms orderChecks_holds
end Go.Proofs.Ytppdpdkldokacaa
