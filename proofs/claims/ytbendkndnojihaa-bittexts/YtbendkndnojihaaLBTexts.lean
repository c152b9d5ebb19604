/-
  THE LAW BitTexts: out of the contracts; the row's step.
-/
import Derived.Test.YtbendkndnojihaaByx
import Derived.Test.YtbendkndnojihaaBt7
import Derived.Test.YtbendkndnojihaaBt8
import Derived.Test.YtbendkndnojihaaBtg0
import Derived.Test.YtbendkndnojihaaBtb
import Derived.Test.YtbendkndnojihaaBtc
import Derived.Test.YtbendkndnojihaaBu3
import Derived.Test.YtbendkndnojihaaBq0
import Derived.ChangeMaps5
namespace Go.Proofs.Ytbendkndnojihaa
open Go.ChangeShapes Go.WideShapes Go.ChangeAt Go.RowKit Go.Deep
set_option linter.unusedVariables false

set_option maxRecDepth 100000 in
set_option maxHeartbeats 64000000 in
theorem bitTexts_t (t_text : ByteArray) (w : World) (hm_text : t_text.size ≤ 9223372036854775807) (sz2 : Nat) (P2 : Nat → Bool) (hpa : paR t_text = .inl (sz2, P2)) :
    Calls Try.prog 4 #[.string t_text] w fun e w' => e = .returned (.bool true) ∧ Below w.heap.size w w' := by
  have A00 : Facts w w [] := ⟨Below.refl _ _, fun f hf => by cases hf⟩
  have A0 := hide A00
  have hmx := hide hm_text
  obtain ⟨X2, hX2⟩ : ∃ X, wordsL sz2 P2 = X := ⟨_, rfl⟩
  have PP2 := hide hpa
  have PW2 := hide hX2
  clear hpa hX2 hm_text
  clear A00
  go_enter Try.func4, Try.ntmps4
  go_wp2_with fail
  have Kw1 := parse_yes t_text sz2 P2 w (unhide hmx) (unhide PP2)
  rw [unhide PW2] at Kw1
  try unfold setV at Kw1
  refine Kw1.mono ?_
  clear Kw1
  rintro _ w1 ⟨a_a, n_a, c_a, rfl, hs, hb⟩
  have Aw1 := hide (((unhide A0).step hb).add (fW a_a n_a c_a X2) hs)
  clear A0 hs hb
  try unfold setV
  obtain ⟨w2, hw2⟩ : ∃ x, w1.alloc (.cells #[.int .i64 (sz2 : Int), .slice a_a n_a c_a] 24) = x := ⟨_, rfl⟩
  have Aw2 := hide ((unhide Aw1).box (.int .i64 (sz2 : Int)) (.slice a_a n_a c_a) 24)
  rw [hw2] at Aw2
  clear Aw1
  go_wp2_with fail
  have Kw3 := rparse_yes t_text sz2 P2 w2 (unhide hmx) (unhide PP2)
  rw [unhide PW2] at Kw3
  try unfold setV at Kw3
  refine Kw3.mono ?_
  clear Kw3
  rintro _ w3 ⟨a_b, n_b, c_b, rfl, hs, hb⟩
  have Aw3 := hide (((unhide Aw2).step hb).add (fW a_b n_b c_b X2) hs)
  clear Aw2 hs hb
  try unfold setV
  obtain ⟨w4, hw4⟩ : ∃ x, w3.alloc (.cells #[.int .i64 (sz2 : Int), .slice a_b n_b c_b] 24) = x := ⟨_, rfl⟩
  have Aw4 := hide ((unhide Aw3).box (.int .i64 (sz2 : Int)) (.slice a_b n_b c_b) 24)
  rw [hw4] at Aw4
  clear Aw3
  have EL : n_b = n_a := by rw [← ((unhide Aw4).w (a_b) (n_b) c_b (X2) (.tail _ (.head _))).len, ← ((unhide Aw4).w (a_a) (n_a) c_a (X2) (.tail _ (.tail _ (.tail _ (.head _))))).len]
  subst EL
  have t5 := (unhide Aw4).t (w1.heap.size) (.int .i64 (sz2 : Int)) (.slice a_a n_b c_a) (.tail _ (.tail _ (.head _)))
  have t5a := t5.c0
  have t5b := t5.c1
  clear t5
  have t6 := (unhide Aw4).t (w3.heap.size) (.int .i64 (sz2 : Int)) (.slice a_b n_b c_b) (.head _)
  have t6a := t6.c0
  have t6b := t6.c1
  clear t6
  go_wp2_with fail
  clear t5a t5b t6a t6b
  have Kw7 := same_eq (sz2 : Int) a_a a_b n_b c_a c_b X2 w4 ((unhide Aw4).w (a_a) (n_b) c_a (X2) (.tail _ (.tail _ (.tail _ (.head _))))) ((unhide Aw4).w (a_b) (n_b) c_b (X2) (.tail _ (.head _)))
  unfold setV at Kw7
  refine Kw7.mono ?_
  clear Kw7
  rintro _ w7 ⟨rfl, hb⟩
  have Aw7 := hide ((unhide Aw4).step hb)
  clear Aw4 hb
  go_wp2_with fail
  refine (num_any 0 w7).mono ?_
  rintro _ w' ⟨rfl, hw⟩
  obtain rfl := hw.symm
  go_wp2_with fail
  go_ret
  exact ⟨rfl, (unhide Aw7).bel⟩

set_option maxRecDepth 100000 in
set_option maxHeartbeats 64000000 in
theorem bitTexts_r (t_text : ByteArray) (w : World) (hm_text : t_text.size ≤ 9223372036854775807) (p : Nat) (er : Int) (hpa : paR t_text = .inr (p, er)) :
    Calls Try.prog 4 #[.string t_text] w fun e w' => e = .returned (.bool true) ∧ Below w.heap.size w w' := by
  have A00 : Facts w w [] := ⟨Below.refl _ _, fun f hf => by cases hf⟩
  have A0 := hide A00
  have hmx := hide hm_text
  have PP2 := hide hpa
  have q8 : ((p : Int) == (p : Int)) = true := by simp
  have q9 : (er == er) = true := by simp
  clear hpa hm_text
  clear A00
  go_enter Try.func4, Try.ntmps4
  go_wp2_with fail
  refine (parse_no t_text p er w (unhide hmx) (unhide PP2)).mono ?_
  rintro _ w1 ⟨rfl, hb⟩
  have Aw1 := hide ((unhide A0).step hb)
  clear A0 hb
  go_wp2_with fail
  refine (rparse_no t_text p er _ (unhide hmx) (unhide PP2)).mono ?_
  rintro _ w2 ⟨rfl, hb⟩
  obtain ⟨w3, hw3⟩ : ∃ x, w1.alloc (.cells #[.int .i64 0, .slice none 0 0] 24) = x := ⟨_, rfl⟩
  have Aw3 := hide ((unhide Aw1).box (.int .i64 0) (.slice none 0 0) 24)
  rw [hw3] at Aw3
  clear Aw1
  rw [hw3] at hb
  have Aw2 := hide ((unhide Aw3).step hb)
  clear Aw3 hb
  have Aw4 := hide ((unhide Aw2).box (.int .i64 0) (.slice none 0 0) 24)
  have t5 := (unhide Aw4).t (w1.heap.size) (.int .i64 0) (.slice none 0 0) (.tail _ (.head _))
  have t5a := t5.c0
  have t5b := t5.c1
  clear t5
  have t6 := (unhide Aw4).t (w2.heap.size) (.int .i64 0) (.slice none 0 0) (.head _)
  have t6a := t6.c0
  have t6b := t6.c1
  clear t6
  go_wp2_with fail
  have K := same_eq 0 none none 0 0 0 [] (w2.alloc (.cells #[.int .i64 0, .slice none 0 0] 24)) (SlG.nil _) (SlG.nil _)
  unfold setV at K
  refine K.mono ?_
  clear K t5a t5b t6a t6b
  rintro _ w7 ⟨rfl, hb⟩
  have Aw7 := hide ((unhide Aw4).step hb)
  clear Aw4 hb
  go_wp2_with fail
  refine (num_any er w7).mono ?_
  rintro _ w' ⟨rfl, hw⟩
  obtain rfl := hw.symm
  go_wp2_with fail
  go_ret
  exact ⟨rfl, (unhide Aw7).bel⟩

theorem bitTexts_walk (t_text : ByteArray) (w : World) (hm_text : t_text.size ≤ 9223372036854775807) :
    Calls Try.prog 4 #[.string t_text] w fun e w' => e = .returned (.bool true) ∧ Below w.heap.size w w' := by
  rcases hpa : paR t_text with ⟨sz2, P2⟩ | ⟨p, er⟩
  · exact bitTexts_t t_text w hm_text sz2 P2 hpa
  · exact bitTexts_r t_text w hm_text p er hpa

set_option maxRecDepth 100000 in
theorem bitTexts_lifted (os : Os) (started : os.Started) (H : Type) (enc : TypeId × Value → H) :
    ReturnsInHanded {} Try.checked os 4 .any (Rows.bitTextsSpec.pre6 enc Try.prog Try.f4 Rows.bitTextsRow.domain false) (Rows.bitTextsSpec.post enc Try.prog Try.f4 false true false false) := by
  refine returnsInHanded_of_change_sized (C := Try.checked) law_own started (by kernel_rfl) Try.func4
    (ChangeSpec.witness6 (enc := enc) (C := Try.checked) false ⟨#[], #[.string ByteArray.empty], []⟩ 8 (by kernel_rfl) (by kernel_rfl) (by kernel_rfl) (by kernel_rfl)) ?_
  intro W base args ds gs before hval0 hW hcnd hsz _
  have hval : ∀ (j : Nat) t v, Try.f4.params[j]? = some t → args[j]? = some v → Value.okWide Try.prog W .any base t v := hval0
  have hW' := hW
  obtain ⟨p, q, hA0, hV, rfl, hfz, hnd⟩ := hW
  have hA : DataW.TrodAll enc Try.prog W 0 (fun _ => true) true Try.f4.params.toList args.toList ds p := hA0
  rw [Try.params4] at hA hval hsz
  obtain ⟨v0, vs0, d0, ds0, p0, q0, hargs, rfl, rfl, h0, r0⟩ := trodAll_cons hA
  obtain ⟨rfl, rfl, rfl⟩ := trodAll_nil r0
  obtain rfl : args = #[v0] := by cases args; simp_all
  obtain ⟨rfl, rfl⟩ := trodVars_none hV
  obtain ⟨t0, rfl, rfl, rfl, wf0⟩ := ChangeMaps.open_string Try.underlying9 (hval 0 9 v0 rfl rfl) h0
  clear hA0 hval0
  refine (bitTexts_walk t0 W (by have := wf0; unfold maxLen at this; omega)).mono fun e W' ⟨he, bel⟩ => ?_
  subst he
  exact ⟨_, rfl, _, _, _, [], _, [], hW', trodAll_mk1 (shut_bool Try.underlying4 _), (trodAll_cons_mk (ChangeMaps.shut_string Try.underlying9 wf0) trodAll_mk0), rfl, bel.frame _, fun h => by cases h⟩

theorem bitTexts_holds : Rows.BitTextsSaid :=
  OpenClaim.holds_of_wide 4 Try.f4 rfl rfl rfl rfl rfl rfl rfl ⟨rfl, rfl, rfl, rfl, rfl⟩ rfl rfl rfl rfl rfl (by kernel_rfl) Try.func4 (by kernel_rfl)
    (of_decide_eq_true (by kernel_rfl)) (by unfold Func.isWrapper; first | (rw [if_pos (by decide +kernel)]; kernel_rfl) | (rw [if_neg (by decide +kernel)]; exact ⟨rfl, rfl⟩))
    (fun os started H enc _ => bitTexts_lifted os started H enc)
#print axioms bitTexts_holds
end Go.Proofs.Ytbendkndnojihaa
