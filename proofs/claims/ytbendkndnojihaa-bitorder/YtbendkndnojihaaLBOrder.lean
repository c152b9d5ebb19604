/-
  THE LAW BitOrder: out of the contracts; the row's step.
-/
import Derived.Test.YtbendkndnojihaaBc5
import Derived.Test.YtbendkndnojihaaBl4
import Derived.Test.YtbendkndnojihaaBl5
import Derived.Test.YtbendkndnojihaaBo1
import Derived.Test.YtbendkndnojihaaBt8
namespace Go.Proofs.Ytbendkndnojihaa
open Go.ChangeShapes Go.WideShapes Go.ChangeAt Go.RowKit Go.Deep
set_option linter.unusedVariables false

set_option maxHeartbeats 16000000 in
theorem bitOrder_no1 (s_a : Int) (a_a : Option Addr) (n_a c_a : Nat) (x_a : List Nat) (s_b : Int) (a_b : Option Addr) (n_b c_b : Nat) (x_b : List Nat) (s_c : Int) (a_c : Option Addr) (n_c c_c : Nat) (x_c : List Nat) (w : World) (h_a : SlW w a_a n_a c_a x_a) (o_a : OkW x_a) (b_a : n_a ≤ 17592186043904) (e_a : a_a = none → n_a = 0 ∧ c_a = 0) (hl_a : -9223372036854775808 ≤ s_a) (hh_a : s_a ≤ 9223372036854775807) (h_b : SlW w a_b n_b c_b x_b) (o_b : OkW x_b) (b_b : n_b ≤ 17592186043904) (e_b : a_b = none → n_b = 0 ∧ c_b = 0) (hl_b : -9223372036854775808 ≤ s_b) (hh_b : s_b ≤ 9223372036854775807) (h_c : SlW w a_c n_c c_c x_c) (o_c : OkW x_c) (b_c : n_c ≤ 17592186043904) (e_c : a_c = none → n_c = 0 ∧ c_c = 0) (hl_c : -9223372036854775808 ≤ s_c) (hh_c : s_c ≤ 9223372036854775807) (m_a : MayS s_a x_a = false) :
    Calls Try.prog 7 #[setV s_a a_a n_a c_a, setV s_b a_b n_b c_b, setV s_c a_c n_c c_c] w fun e w' => e = .returned (.bool true) ∧ Below w.heap.size w w' := by
  have A00 : Facts w w [] := ⟨Below.refl _ _, fun f hf => by cases hf⟩
  have A01 := A00.add (fW a_a n_a c_a x_a) h_a
  have A02 := A01.add (fW a_b n_b c_b x_b) h_b
  have A03 := A02.add (fW a_c n_c c_c x_c) h_c
  have A0 := hide A03
  have O_a := hide o_a
  have E_a := hide e_a
  have B_a := hide (And.intro hl_a hh_a)
  have O_b := hide o_b
  have E_b := hide e_b
  have B_b := hide (And.intro hl_b hh_b)
  have O_c := hide o_c
  have E_c := hide e_c
  have B_c := hide (And.intro hl_c hh_c)
  have M_a := hide m_a
  clear m_a
  clear A00 A01 A02 A03 h_a h_b h_c o_a o_b o_c e_a e_b e_c hl_a hh_a hl_b hh_b hl_c hh_c
  unfold setV
  go_enter Try.func7, Try.ntmps7
  obtain ⟨w1, hw1⟩ : ∃ x, w.alloc (.cells #[.int .i64 s_a, .slice a_a n_a c_a] 24) = x := ⟨_, rfl⟩
  have Aw1 := hide ((unhide A0).box (.int .i64 s_a) (.slice a_a n_a c_a) 24)
  rw [hw1] at Aw1
  clear A0
  obtain ⟨w2, hw2⟩ : ∃ x, w1.alloc (.cells #[.int .i64 s_b, .slice a_b n_b c_b] 24) = x := ⟨_, rfl⟩
  have Aw2 := hide ((unhide Aw1).box (.int .i64 s_b) (.slice a_b n_b c_b) 24)
  rw [hw2] at Aw2
  clear Aw1
  obtain ⟨w3, hw3⟩ : ∃ x, w2.alloc (.cells #[.int .i64 s_c, .slice a_c n_c c_c] 24) = x := ⟨_, rfl⟩
  have Aw3 := hide ((unhide Aw2).box (.int .i64 s_c) (.slice a_c n_c c_c) 24)
  rw [hw3] at Aw3
  clear Aw2
  obtain ⟨ab, hab⟩ : ∃ r, cmpR s_a x_a s_b x_b = r := ⟨_, rfl⟩
  have Hab := hide hab
  have one_ab := cmpR_one (s1 := s_a) (x1 := x_a) (s2 := s_b) (x2 := x_b)
  rw [hab] at one_ab
  have One_ab := hide one_ab
  clear hab one_ab
  obtain ⟨bc, hbc⟩ : ∃ r, cmpR s_b x_b s_c x_c = r := ⟨_, rfl⟩
  have Hbc := hide hbc
  have one_bc := cmpR_one (s1 := s_b) (x1 := x_b) (s2 := s_c) (x2 := x_c)
  rw [hbc] at one_bc
  have One_bc := hide one_bc
  clear hbc one_bc
  obtain ⟨ac, hac⟩ : ∃ r, cmpR s_a x_a s_c x_c = r := ⟨_, rfl⟩
  have Hac := hide hac
  have one_ac := cmpR_one (s1 := s_a) (x1 := x_a) (s2 := s_c) (x2 := x_c)
  rw [hac] at one_ac
  have One_ac := hide one_ac
  clear hac one_ac
  have Hba := hide (show cmpR s_b x_b s_a x_a = -ab by rw [cmpR_neg, unhide Hab])
  go_wp2_with fail
  have K := alive_any w3
  try unfold setV at K
  refine K.mono ?_
  clear K
  rintro _ w4 ⟨rfl, hb⟩
  have Aw4 := hide ((unhide Aw3).step hb)
  clear Aw3 hb
  have t5 := (unhide Aw4).t (w.heap.size) (.int .i64 s_a) (.slice a_a n_a c_a) (by simp)
  have t5a := t5.c0
  have t5b := t5.c1
  clear t5
  have t6 := (unhide Aw4).t (w1.heap.size) (.int .i64 s_b) (.slice a_b n_b c_b) (by simp)
  have t6a := t6.c0
  have t6b := t6.c1
  clear t6
  go_wp2_with fail
  clear t5a t5b t6a t6b
  have K := compare_any s_a a_a n_a c_a x_a s_b a_b n_b c_b x_b w4 ((unhide Aw4).w (a_a) (n_a) c_a (x_a) (by simp)) ((unhide Aw4).w (a_b) (n_b) c_b (x_b) (by simp)) (unhide O_a) (unhide O_b)
  rw [unhide Hab] at K
  try unfold setV at K
  refine K.mono ?_
  clear K
  rintro _ w7 ⟨rfl, hb⟩
  have Aw7 := hide ((unhide Aw4).step hb)
  clear Aw4 hb
  have t8 := (unhide Aw7).t (w.heap.size) (.int .i64 s_a) (.slice a_a n_a c_a) (by simp)
  have t8a := t8.c0
  have t8b := t8.c1
  clear t8
  have t9 := (unhide Aw7).t (w1.heap.size) (.int .i64 s_b) (.slice a_b n_b c_b) (by simp)
  have t9a := t9.c0
  have t9b := t9.c1
  clear t9
  go_wp2_with fail
  clear t8a t8b t9a t9b
  have K := compare_any s_b a_b n_b c_b x_b s_a a_a n_a c_a x_a w7 ((unhide Aw7).w (a_b) (n_b) c_b (x_b) (by simp)) ((unhide Aw7).w (a_a) (n_a) c_a (x_a) (by simp)) (unhide O_b) (unhide O_a)
  rw [unhide Hba] at K
  try unfold setV at K
  refine K.mono ?_
  clear K
  rintro _ w10 ⟨rfl, hb⟩
  have Aw10 := hide ((unhide Aw7).step hb)
  clear Aw7 hb
  have t11 := (unhide Aw10).t (w1.heap.size) (.int .i64 s_b) (.slice a_b n_b c_b) (by simp)
  have t11a := t11.c0
  have t11b := t11.c1
  clear t11
  have t12 := (unhide Aw10).t (w2.heap.size) (.int .i64 s_c) (.slice a_c n_c c_c) (by simp)
  have t12a := t12.c0
  have t12b := t12.c1
  clear t12
  go_wp2_with fail
  clear t11a t11b t12a t12b
  have K := compare_any s_b a_b n_b c_b x_b s_c a_c n_c c_c x_c w10 ((unhide Aw10).w (a_b) (n_b) c_b (x_b) (by simp)) ((unhide Aw10).w (a_c) (n_c) c_c (x_c) (by simp)) (unhide O_b) (unhide O_c)
  rw [unhide Hbc] at K
  try unfold setV at K
  refine K.mono ?_
  clear K
  rintro _ w13 ⟨rfl, hb⟩
  have Aw13 := hide ((unhide Aw10).step hb)
  clear Aw10 hb
  have t14 := (unhide Aw13).t (w.heap.size) (.int .i64 s_a) (.slice a_a n_a c_a) (by simp)
  have t14a := t14.c0
  have t14b := t14.c1
  clear t14
  have t15 := (unhide Aw13).t (w2.heap.size) (.int .i64 s_c) (.slice a_c n_c c_c) (by simp)
  have t15a := t15.c0
  have t15b := t15.c1
  clear t15
  go_wp2_with fail
  clear t14a t14b t15a t15b
  have K := compare_any s_a a_a n_a c_a x_a s_c a_c n_c c_c x_c w13 ((unhide Aw13).w (a_a) (n_a) c_a (x_a) (by simp)) ((unhide Aw13).w (a_c) (n_c) c_c (x_c) (by simp)) (unhide O_a) (unhide O_c)
  rw [unhide Hac] at K
  try unfold setV at K
  refine K.mono ?_
  clear K
  rintro _ w16 ⟨rfl, hb⟩
  have Aw16 := hide ((unhide Aw13).step hb)
  clear Aw13 hb
  have t17 := (unhide Aw16).t (w.heap.size) (.int .i64 s_a) (.slice a_a n_a c_a) (by simp)
  have t17a := t17.c0
  have t17b := t17.c1
  clear t17
  have t18 := (unhide Aw16).t (w1.heap.size) (.int .i64 s_b) (.slice a_b n_b c_b) (by simp)
  have t18a := t18.c0
  have t18b := t18.c1
  clear t18
  have t19 := (unhide Aw16).t (w2.heap.size) (.int .i64 s_c) (.slice a_c n_c c_c) (by simp)
  have t19a := t19.c0
  have t19b := t19.c1
  clear t19
  go_wp2_with fail
  clear t17a t17b t18a t18b t19a t19b
  have K := rmay_any s_a a_a n_a c_a x_a w16 ((unhide Aw16).w (a_a) (n_a) c_a (x_a) (by simp))
  rw [unhide M_a] at K
  try unfold setV at K
  refine K.mono ?_
  clear K
  rintro _ w20 ⟨rfl, hb⟩
  have Aw20 := hide ((unhide Aw16).step hb)
  clear Aw16 hb
  rcases unhide One_ab with h | h | h
  all_goals
    subst h
    go_wp2_with fail
    go_ret
    exact ⟨rfl, (unhide Aw20).bel⟩

set_option maxHeartbeats 16000000 in
theorem bitOrder_no2 (s_a : Int) (a_a : Option Addr) (n_a c_a : Nat) (x_a : List Nat) (s_b : Int) (a_b : Option Addr) (n_b c_b : Nat) (x_b : List Nat) (s_c : Int) (a_c : Option Addr) (n_c c_c : Nat) (x_c : List Nat) (w : World) (h_a : SlW w a_a n_a c_a x_a) (o_a : OkW x_a) (b_a : n_a ≤ 17592186043904) (e_a : a_a = none → n_a = 0 ∧ c_a = 0) (hl_a : -9223372036854775808 ≤ s_a) (hh_a : s_a ≤ 9223372036854775807) (h_b : SlW w a_b n_b c_b x_b) (o_b : OkW x_b) (b_b : n_b ≤ 17592186043904) (e_b : a_b = none → n_b = 0 ∧ c_b = 0) (hl_b : -9223372036854775808 ≤ s_b) (hh_b : s_b ≤ 9223372036854775807) (h_c : SlW w a_c n_c c_c x_c) (o_c : OkW x_c) (b_c : n_c ≤ 17592186043904) (e_c : a_c = none → n_c = 0 ∧ c_c = 0) (hl_c : -9223372036854775808 ≤ s_c) (hh_c : s_c ≤ 9223372036854775807) (m_a : MayS s_a x_a = true) (m_b : MayS s_b x_b = false) :
    Calls Try.prog 7 #[setV s_a a_a n_a c_a, setV s_b a_b n_b c_b, setV s_c a_c n_c c_c] w fun e w' => e = .returned (.bool true) ∧ Below w.heap.size w w' := by
  have A00 : Facts w w [] := ⟨Below.refl _ _, fun f hf => by cases hf⟩
  have A01 := A00.add (fW a_a n_a c_a x_a) h_a
  have A02 := A01.add (fW a_b n_b c_b x_b) h_b
  have A03 := A02.add (fW a_c n_c c_c x_c) h_c
  have A0 := hide A03
  have O_a := hide o_a
  have E_a := hide e_a
  have B_a := hide (And.intro hl_a hh_a)
  have O_b := hide o_b
  have E_b := hide e_b
  have B_b := hide (And.intro hl_b hh_b)
  have O_c := hide o_c
  have E_c := hide e_c
  have B_c := hide (And.intro hl_c hh_c)
  have M_a := hide m_a
  have M_b := hide m_b
  clear m_a m_b
  clear A00 A01 A02 A03 h_a h_b h_c o_a o_b o_c e_a e_b e_c hl_a hh_a hl_b hh_b hl_c hh_c
  unfold setV
  go_enter Try.func7, Try.ntmps7
  obtain ⟨w1, hw1⟩ : ∃ x, w.alloc (.cells #[.int .i64 s_a, .slice a_a n_a c_a] 24) = x := ⟨_, rfl⟩
  have Aw1 := hide ((unhide A0).box (.int .i64 s_a) (.slice a_a n_a c_a) 24)
  rw [hw1] at Aw1
  clear A0
  obtain ⟨w2, hw2⟩ : ∃ x, w1.alloc (.cells #[.int .i64 s_b, .slice a_b n_b c_b] 24) = x := ⟨_, rfl⟩
  have Aw2 := hide ((unhide Aw1).box (.int .i64 s_b) (.slice a_b n_b c_b) 24)
  rw [hw2] at Aw2
  clear Aw1
  obtain ⟨w3, hw3⟩ : ∃ x, w2.alloc (.cells #[.int .i64 s_c, .slice a_c n_c c_c] 24) = x := ⟨_, rfl⟩
  have Aw3 := hide ((unhide Aw2).box (.int .i64 s_c) (.slice a_c n_c c_c) 24)
  rw [hw3] at Aw3
  clear Aw2
  obtain ⟨ab, hab⟩ : ∃ r, cmpR s_a x_a s_b x_b = r := ⟨_, rfl⟩
  have Hab := hide hab
  have one_ab := cmpR_one (s1 := s_a) (x1 := x_a) (s2 := s_b) (x2 := x_b)
  rw [hab] at one_ab
  have One_ab := hide one_ab
  clear hab one_ab
  obtain ⟨bc, hbc⟩ : ∃ r, cmpR s_b x_b s_c x_c = r := ⟨_, rfl⟩
  have Hbc := hide hbc
  have one_bc := cmpR_one (s1 := s_b) (x1 := x_b) (s2 := s_c) (x2 := x_c)
  rw [hbc] at one_bc
  have One_bc := hide one_bc
  clear hbc one_bc
  obtain ⟨ac, hac⟩ : ∃ r, cmpR s_a x_a s_c x_c = r := ⟨_, rfl⟩
  have Hac := hide hac
  have one_ac := cmpR_one (s1 := s_a) (x1 := x_a) (s2 := s_c) (x2 := x_c)
  rw [hac] at one_ac
  have One_ac := hide one_ac
  clear hac one_ac
  have Hba := hide (show cmpR s_b x_b s_a x_a = -ab by rw [cmpR_neg, unhide Hab])
  go_wp2_with fail
  have K := alive_any w3
  try unfold setV at K
  refine K.mono ?_
  clear K
  rintro _ w4 ⟨rfl, hb⟩
  have Aw4 := hide ((unhide Aw3).step hb)
  clear Aw3 hb
  have t5 := (unhide Aw4).t (w.heap.size) (.int .i64 s_a) (.slice a_a n_a c_a) (by simp)
  have t5a := t5.c0
  have t5b := t5.c1
  clear t5
  have t6 := (unhide Aw4).t (w1.heap.size) (.int .i64 s_b) (.slice a_b n_b c_b) (by simp)
  have t6a := t6.c0
  have t6b := t6.c1
  clear t6
  go_wp2_with fail
  clear t5a t5b t6a t6b
  have K := compare_any s_a a_a n_a c_a x_a s_b a_b n_b c_b x_b w4 ((unhide Aw4).w (a_a) (n_a) c_a (x_a) (by simp)) ((unhide Aw4).w (a_b) (n_b) c_b (x_b) (by simp)) (unhide O_a) (unhide O_b)
  rw [unhide Hab] at K
  try unfold setV at K
  refine K.mono ?_
  clear K
  rintro _ w7 ⟨rfl, hb⟩
  have Aw7 := hide ((unhide Aw4).step hb)
  clear Aw4 hb
  have t8 := (unhide Aw7).t (w.heap.size) (.int .i64 s_a) (.slice a_a n_a c_a) (by simp)
  have t8a := t8.c0
  have t8b := t8.c1
  clear t8
  have t9 := (unhide Aw7).t (w1.heap.size) (.int .i64 s_b) (.slice a_b n_b c_b) (by simp)
  have t9a := t9.c0
  have t9b := t9.c1
  clear t9
  go_wp2_with fail
  clear t8a t8b t9a t9b
  have K := compare_any s_b a_b n_b c_b x_b s_a a_a n_a c_a x_a w7 ((unhide Aw7).w (a_b) (n_b) c_b (x_b) (by simp)) ((unhide Aw7).w (a_a) (n_a) c_a (x_a) (by simp)) (unhide O_b) (unhide O_a)
  rw [unhide Hba] at K
  try unfold setV at K
  refine K.mono ?_
  clear K
  rintro _ w10 ⟨rfl, hb⟩
  have Aw10 := hide ((unhide Aw7).step hb)
  clear Aw7 hb
  have t11 := (unhide Aw10).t (w1.heap.size) (.int .i64 s_b) (.slice a_b n_b c_b) (by simp)
  have t11a := t11.c0
  have t11b := t11.c1
  clear t11
  have t12 := (unhide Aw10).t (w2.heap.size) (.int .i64 s_c) (.slice a_c n_c c_c) (by simp)
  have t12a := t12.c0
  have t12b := t12.c1
  clear t12
  go_wp2_with fail
  clear t11a t11b t12a t12b
  have K := compare_any s_b a_b n_b c_b x_b s_c a_c n_c c_c x_c w10 ((unhide Aw10).w (a_b) (n_b) c_b (x_b) (by simp)) ((unhide Aw10).w (a_c) (n_c) c_c (x_c) (by simp)) (unhide O_b) (unhide O_c)
  rw [unhide Hbc] at K
  try unfold setV at K
  refine K.mono ?_
  clear K
  rintro _ w13 ⟨rfl, hb⟩
  have Aw13 := hide ((unhide Aw10).step hb)
  clear Aw10 hb
  have t14 := (unhide Aw13).t (w.heap.size) (.int .i64 s_a) (.slice a_a n_a c_a) (by simp)
  have t14a := t14.c0
  have t14b := t14.c1
  clear t14
  have t15 := (unhide Aw13).t (w2.heap.size) (.int .i64 s_c) (.slice a_c n_c c_c) (by simp)
  have t15a := t15.c0
  have t15b := t15.c1
  clear t15
  go_wp2_with fail
  clear t14a t14b t15a t15b
  have K := compare_any s_a a_a n_a c_a x_a s_c a_c n_c c_c x_c w13 ((unhide Aw13).w (a_a) (n_a) c_a (x_a) (by simp)) ((unhide Aw13).w (a_c) (n_c) c_c (x_c) (by simp)) (unhide O_a) (unhide O_c)
  rw [unhide Hac] at K
  try unfold setV at K
  refine K.mono ?_
  clear K
  rintro _ w16 ⟨rfl, hb⟩
  have Aw16 := hide ((unhide Aw13).step hb)
  clear Aw13 hb
  have t17 := (unhide Aw16).t (w.heap.size) (.int .i64 s_a) (.slice a_a n_a c_a) (by simp)
  have t17a := t17.c0
  have t17b := t17.c1
  clear t17
  have t18 := (unhide Aw16).t (w1.heap.size) (.int .i64 s_b) (.slice a_b n_b c_b) (by simp)
  have t18a := t18.c0
  have t18b := t18.c1
  clear t18
  have t19 := (unhide Aw16).t (w2.heap.size) (.int .i64 s_c) (.slice a_c n_c c_c) (by simp)
  have t19a := t19.c0
  have t19b := t19.c1
  clear t19
  go_wp2_with fail
  clear t17a t17b t18a t18b t19a t19b
  have K := rmay_any s_a a_a n_a c_a x_a w16 ((unhide Aw16).w (a_a) (n_a) c_a (x_a) (by simp))
  rw [unhide M_a] at K
  try unfold setV at K
  refine K.mono ?_
  clear K
  rintro _ w20 ⟨rfl, hb⟩
  have Aw20 := hide ((unhide Aw16).step hb)
  clear Aw16 hb
  have t21 := (unhide Aw20).t (w.heap.size) (.int .i64 s_a) (.slice a_a n_a c_a) (by simp)
  have t21a := t21.c0
  have t21b := t21.c1
  clear t21
  have t22 := (unhide Aw20).t (w1.heap.size) (.int .i64 s_b) (.slice a_b n_b c_b) (by simp)
  have t22a := t22.c0
  have t22b := t22.c1
  clear t22
  have t23 := (unhide Aw20).t (w2.heap.size) (.int .i64 s_c) (.slice a_c n_c c_c) (by simp)
  have t23a := t23.c0
  have t23b := t23.c1
  clear t23
  go_wp2_with fail
  clear t21a t21b t22a t22b t23a t23b
  have K := rmay_any s_b a_b n_b c_b x_b w20 ((unhide Aw20).w (a_b) (n_b) c_b (x_b) (by simp))
  rw [unhide M_b] at K
  try unfold setV at K
  refine K.mono ?_
  clear K
  rintro _ w24 ⟨rfl, hb⟩
  have Aw24 := hide ((unhide Aw20).step hb)
  clear Aw20 hb
  rcases unhide One_ab with h | h | h
  all_goals
    subst h
    go_wp2_with fail
    go_ret
    exact ⟨rfl, (unhide Aw24).bel⟩

set_option maxHeartbeats 16000000 in
theorem bitOrder_no3 (s_a : Int) (a_a : Option Addr) (n_a c_a : Nat) (x_a : List Nat) (s_b : Int) (a_b : Option Addr) (n_b c_b : Nat) (x_b : List Nat) (s_c : Int) (a_c : Option Addr) (n_c c_c : Nat) (x_c : List Nat) (w : World) (h_a : SlW w a_a n_a c_a x_a) (o_a : OkW x_a) (b_a : n_a ≤ 17592186043904) (e_a : a_a = none → n_a = 0 ∧ c_a = 0) (hl_a : -9223372036854775808 ≤ s_a) (hh_a : s_a ≤ 9223372036854775807) (h_b : SlW w a_b n_b c_b x_b) (o_b : OkW x_b) (b_b : n_b ≤ 17592186043904) (e_b : a_b = none → n_b = 0 ∧ c_b = 0) (hl_b : -9223372036854775808 ≤ s_b) (hh_b : s_b ≤ 9223372036854775807) (h_c : SlW w a_c n_c c_c x_c) (o_c : OkW x_c) (b_c : n_c ≤ 17592186043904) (e_c : a_c = none → n_c = 0 ∧ c_c = 0) (hl_c : -9223372036854775808 ≤ s_c) (hh_c : s_c ≤ 9223372036854775807) (m_a : MayS s_a x_a = true) (m_b : MayS s_b x_b = true) (m_c : MayS s_c x_c = false) :
    Calls Try.prog 7 #[setV s_a a_a n_a c_a, setV s_b a_b n_b c_b, setV s_c a_c n_c c_c] w fun e w' => e = .returned (.bool true) ∧ Below w.heap.size w w' := by
  have A00 : Facts w w [] := ⟨Below.refl _ _, fun f hf => by cases hf⟩
  have A01 := A00.add (fW a_a n_a c_a x_a) h_a
  have A02 := A01.add (fW a_b n_b c_b x_b) h_b
  have A03 := A02.add (fW a_c n_c c_c x_c) h_c
  have A0 := hide A03
  have O_a := hide o_a
  have E_a := hide e_a
  have B_a := hide (And.intro hl_a hh_a)
  have O_b := hide o_b
  have E_b := hide e_b
  have B_b := hide (And.intro hl_b hh_b)
  have O_c := hide o_c
  have E_c := hide e_c
  have B_c := hide (And.intro hl_c hh_c)
  have M_a := hide m_a
  have M_b := hide m_b
  have M_c := hide m_c
  clear m_a m_b m_c
  clear A00 A01 A02 A03 h_a h_b h_c o_a o_b o_c e_a e_b e_c hl_a hh_a hl_b hh_b hl_c hh_c
  unfold setV
  go_enter Try.func7, Try.ntmps7
  obtain ⟨w1, hw1⟩ : ∃ x, w.alloc (.cells #[.int .i64 s_a, .slice a_a n_a c_a] 24) = x := ⟨_, rfl⟩
  have Aw1 := hide ((unhide A0).box (.int .i64 s_a) (.slice a_a n_a c_a) 24)
  rw [hw1] at Aw1
  clear A0
  obtain ⟨w2, hw2⟩ : ∃ x, w1.alloc (.cells #[.int .i64 s_b, .slice a_b n_b c_b] 24) = x := ⟨_, rfl⟩
  have Aw2 := hide ((unhide Aw1).box (.int .i64 s_b) (.slice a_b n_b c_b) 24)
  rw [hw2] at Aw2
  clear Aw1
  obtain ⟨w3, hw3⟩ : ∃ x, w2.alloc (.cells #[.int .i64 s_c, .slice a_c n_c c_c] 24) = x := ⟨_, rfl⟩
  have Aw3 := hide ((unhide Aw2).box (.int .i64 s_c) (.slice a_c n_c c_c) 24)
  rw [hw3] at Aw3
  clear Aw2
  obtain ⟨ab, hab⟩ : ∃ r, cmpR s_a x_a s_b x_b = r := ⟨_, rfl⟩
  have Hab := hide hab
  have one_ab := cmpR_one (s1 := s_a) (x1 := x_a) (s2 := s_b) (x2 := x_b)
  rw [hab] at one_ab
  have One_ab := hide one_ab
  clear hab one_ab
  obtain ⟨bc, hbc⟩ : ∃ r, cmpR s_b x_b s_c x_c = r := ⟨_, rfl⟩
  have Hbc := hide hbc
  have one_bc := cmpR_one (s1 := s_b) (x1 := x_b) (s2 := s_c) (x2 := x_c)
  rw [hbc] at one_bc
  have One_bc := hide one_bc
  clear hbc one_bc
  obtain ⟨ac, hac⟩ : ∃ r, cmpR s_a x_a s_c x_c = r := ⟨_, rfl⟩
  have Hac := hide hac
  have one_ac := cmpR_one (s1 := s_a) (x1 := x_a) (s2 := s_c) (x2 := x_c)
  rw [hac] at one_ac
  have One_ac := hide one_ac
  clear hac one_ac
  have Hba := hide (show cmpR s_b x_b s_a x_a = -ab by rw [cmpR_neg, unhide Hab])
  go_wp2_with fail
  have K := alive_any w3
  try unfold setV at K
  refine K.mono ?_
  clear K
  rintro _ w4 ⟨rfl, hb⟩
  have Aw4 := hide ((unhide Aw3).step hb)
  clear Aw3 hb
  have t5 := (unhide Aw4).t (w.heap.size) (.int .i64 s_a) (.slice a_a n_a c_a) (by simp)
  have t5a := t5.c0
  have t5b := t5.c1
  clear t5
  have t6 := (unhide Aw4).t (w1.heap.size) (.int .i64 s_b) (.slice a_b n_b c_b) (by simp)
  have t6a := t6.c0
  have t6b := t6.c1
  clear t6
  go_wp2_with fail
  clear t5a t5b t6a t6b
  have K := compare_any s_a a_a n_a c_a x_a s_b a_b n_b c_b x_b w4 ((unhide Aw4).w (a_a) (n_a) c_a (x_a) (by simp)) ((unhide Aw4).w (a_b) (n_b) c_b (x_b) (by simp)) (unhide O_a) (unhide O_b)
  rw [unhide Hab] at K
  try unfold setV at K
  refine K.mono ?_
  clear K
  rintro _ w7 ⟨rfl, hb⟩
  have Aw7 := hide ((unhide Aw4).step hb)
  clear Aw4 hb
  have t8 := (unhide Aw7).t (w.heap.size) (.int .i64 s_a) (.slice a_a n_a c_a) (by simp)
  have t8a := t8.c0
  have t8b := t8.c1
  clear t8
  have t9 := (unhide Aw7).t (w1.heap.size) (.int .i64 s_b) (.slice a_b n_b c_b) (by simp)
  have t9a := t9.c0
  have t9b := t9.c1
  clear t9
  go_wp2_with fail
  clear t8a t8b t9a t9b
  have K := compare_any s_b a_b n_b c_b x_b s_a a_a n_a c_a x_a w7 ((unhide Aw7).w (a_b) (n_b) c_b (x_b) (by simp)) ((unhide Aw7).w (a_a) (n_a) c_a (x_a) (by simp)) (unhide O_b) (unhide O_a)
  rw [unhide Hba] at K
  try unfold setV at K
  refine K.mono ?_
  clear K
  rintro _ w10 ⟨rfl, hb⟩
  have Aw10 := hide ((unhide Aw7).step hb)
  clear Aw7 hb
  have t11 := (unhide Aw10).t (w1.heap.size) (.int .i64 s_b) (.slice a_b n_b c_b) (by simp)
  have t11a := t11.c0
  have t11b := t11.c1
  clear t11
  have t12 := (unhide Aw10).t (w2.heap.size) (.int .i64 s_c) (.slice a_c n_c c_c) (by simp)
  have t12a := t12.c0
  have t12b := t12.c1
  clear t12
  go_wp2_with fail
  clear t11a t11b t12a t12b
  have K := compare_any s_b a_b n_b c_b x_b s_c a_c n_c c_c x_c w10 ((unhide Aw10).w (a_b) (n_b) c_b (x_b) (by simp)) ((unhide Aw10).w (a_c) (n_c) c_c (x_c) (by simp)) (unhide O_b) (unhide O_c)
  rw [unhide Hbc] at K
  try unfold setV at K
  refine K.mono ?_
  clear K
  rintro _ w13 ⟨rfl, hb⟩
  have Aw13 := hide ((unhide Aw10).step hb)
  clear Aw10 hb
  have t14 := (unhide Aw13).t (w.heap.size) (.int .i64 s_a) (.slice a_a n_a c_a) (by simp)
  have t14a := t14.c0
  have t14b := t14.c1
  clear t14
  have t15 := (unhide Aw13).t (w2.heap.size) (.int .i64 s_c) (.slice a_c n_c c_c) (by simp)
  have t15a := t15.c0
  have t15b := t15.c1
  clear t15
  go_wp2_with fail
  clear t14a t14b t15a t15b
  have K := compare_any s_a a_a n_a c_a x_a s_c a_c n_c c_c x_c w13 ((unhide Aw13).w (a_a) (n_a) c_a (x_a) (by simp)) ((unhide Aw13).w (a_c) (n_c) c_c (x_c) (by simp)) (unhide O_a) (unhide O_c)
  rw [unhide Hac] at K
  try unfold setV at K
  refine K.mono ?_
  clear K
  rintro _ w16 ⟨rfl, hb⟩
  have Aw16 := hide ((unhide Aw13).step hb)
  clear Aw13 hb
  have t17 := (unhide Aw16).t (w.heap.size) (.int .i64 s_a) (.slice a_a n_a c_a) (by simp)
  have t17a := t17.c0
  have t17b := t17.c1
  clear t17
  have t18 := (unhide Aw16).t (w1.heap.size) (.int .i64 s_b) (.slice a_b n_b c_b) (by simp)
  have t18a := t18.c0
  have t18b := t18.c1
  clear t18
  have t19 := (unhide Aw16).t (w2.heap.size) (.int .i64 s_c) (.slice a_c n_c c_c) (by simp)
  have t19a := t19.c0
  have t19b := t19.c1
  clear t19
  go_wp2_with fail
  clear t17a t17b t18a t18b t19a t19b
  have K := rmay_any s_a a_a n_a c_a x_a w16 ((unhide Aw16).w (a_a) (n_a) c_a (x_a) (by simp))
  rw [unhide M_a] at K
  try unfold setV at K
  refine K.mono ?_
  clear K
  rintro _ w20 ⟨rfl, hb⟩
  have Aw20 := hide ((unhide Aw16).step hb)
  clear Aw16 hb
  have t21 := (unhide Aw20).t (w.heap.size) (.int .i64 s_a) (.slice a_a n_a c_a) (by simp)
  have t21a := t21.c0
  have t21b := t21.c1
  clear t21
  have t22 := (unhide Aw20).t (w1.heap.size) (.int .i64 s_b) (.slice a_b n_b c_b) (by simp)
  have t22a := t22.c0
  have t22b := t22.c1
  clear t22
  have t23 := (unhide Aw20).t (w2.heap.size) (.int .i64 s_c) (.slice a_c n_c c_c) (by simp)
  have t23a := t23.c0
  have t23b := t23.c1
  clear t23
  go_wp2_with fail
  clear t21a t21b t22a t22b t23a t23b
  have K := rmay_any s_b a_b n_b c_b x_b w20 ((unhide Aw20).w (a_b) (n_b) c_b (x_b) (by simp))
  rw [unhide M_b] at K
  try unfold setV at K
  refine K.mono ?_
  clear K
  rintro _ w24 ⟨rfl, hb⟩
  have Aw24 := hide ((unhide Aw20).step hb)
  clear Aw20 hb
  have t25 := (unhide Aw24).t (w.heap.size) (.int .i64 s_a) (.slice a_a n_a c_a) (by simp)
  have t25a := t25.c0
  have t25b := t25.c1
  clear t25
  have t26 := (unhide Aw24).t (w1.heap.size) (.int .i64 s_b) (.slice a_b n_b c_b) (by simp)
  have t26a := t26.c0
  have t26b := t26.c1
  clear t26
  have t27 := (unhide Aw24).t (w2.heap.size) (.int .i64 s_c) (.slice a_c n_c c_c) (by simp)
  have t27a := t27.c0
  have t27b := t27.c1
  clear t27
  go_wp2_with fail
  clear t25a t25b t26a t26b t27a t27b
  have K := rmay_any s_c a_c n_c c_c x_c w24 ((unhide Aw24).w (a_c) (n_c) c_c (x_c) (by simp))
  rw [unhide M_c] at K
  try unfold setV at K
  refine K.mono ?_
  clear K
  rintro _ w28 ⟨rfl, hb⟩
  have Aw28 := hide ((unhide Aw24).step hb)
  clear Aw24 hb
  rcases unhide One_ab with h | h | h
  all_goals
    subst h
    go_wp2_with fail
    go_ret
    exact ⟨rfl, (unhide Aw28).bel⟩

set_option maxHeartbeats 16000000 in
theorem bitOrder_yes (s_a : Int) (a_a : Option Addr) (n_a c_a : Nat) (x_a : List Nat) (s_b : Int) (a_b : Option Addr) (n_b c_b : Nat) (x_b : List Nat) (s_c : Int) (a_c : Option Addr) (n_c c_c : Nat) (x_c : List Nat) (w : World) (h_a : SlW w a_a n_a c_a x_a) (o_a : OkW x_a) (b_a : n_a ≤ 17592186043904) (e_a : a_a = none → n_a = 0 ∧ c_a = 0) (hl_a : -9223372036854775808 ≤ s_a) (hh_a : s_a ≤ 9223372036854775807) (h_b : SlW w a_b n_b c_b x_b) (o_b : OkW x_b) (b_b : n_b ≤ 17592186043904) (e_b : a_b = none → n_b = 0 ∧ c_b = 0) (hl_b : -9223372036854775808 ≤ s_b) (hh_b : s_b ≤ 9223372036854775807) (h_c : SlW w a_c n_c c_c x_c) (o_c : OkW x_c) (b_c : n_c ≤ 17592186043904) (e_c : a_c = none → n_c = 0 ∧ c_c = 0) (hl_c : -9223372036854775808 ≤ s_c) (hh_c : s_c ≤ 9223372036854775807) (m_a : MayS s_a x_a = true) (m_b : MayS s_b x_b = true) (m_c : MayS s_c x_c = true) :
    Calls Try.prog 7 #[setV s_a a_a n_a c_a, setV s_b a_b n_b c_b, setV s_c a_c n_c c_c] w fun e w' => e = .returned (.bool true) ∧ Below w.heap.size w w' := by
  have A00 : Facts w w [] := ⟨Below.refl _ _, fun f hf => by cases hf⟩
  have A01 := A00.add (fW a_a n_a c_a x_a) h_a
  have A02 := A01.add (fW a_b n_b c_b x_b) h_b
  have A03 := A02.add (fW a_c n_c c_c x_c) h_c
  have A0 := hide A03
  have O_a := hide o_a
  have E_a := hide e_a
  have B_a := hide (And.intro hl_a hh_a)
  have O_b := hide o_b
  have E_b := hide e_b
  have B_b := hide (And.intro hl_b hh_b)
  have O_c := hide o_c
  have E_c := hide e_c
  have B_c := hide (And.intro hl_c hh_c)
  have M_a := hide m_a
  have M_b := hide m_b
  have M_c := hide m_c
  clear A00 A01 A02 A03 h_a h_b h_c o_a o_b o_c e_a e_b e_c hl_a hh_a hl_b hh_b hl_c hh_c
  unfold setV
  go_enter Try.func7, Try.ntmps7
  obtain ⟨w1, hw1⟩ : ∃ x, w.alloc (.cells #[.int .i64 s_a, .slice a_a n_a c_a] 24) = x := ⟨_, rfl⟩
  have Aw1 := hide ((unhide A0).box (.int .i64 s_a) (.slice a_a n_a c_a) 24)
  rw [hw1] at Aw1
  clear A0
  obtain ⟨w2, hw2⟩ : ∃ x, w1.alloc (.cells #[.int .i64 s_b, .slice a_b n_b c_b] 24) = x := ⟨_, rfl⟩
  have Aw2 := hide ((unhide Aw1).box (.int .i64 s_b) (.slice a_b n_b c_b) 24)
  rw [hw2] at Aw2
  clear Aw1
  obtain ⟨w3, hw3⟩ : ∃ x, w2.alloc (.cells #[.int .i64 s_c, .slice a_c n_c c_c] 24) = x := ⟨_, rfl⟩
  have Aw3 := hide ((unhide Aw2).box (.int .i64 s_c) (.slice a_c n_c c_c) 24)
  rw [hw3] at Aw3
  clear Aw2
  obtain ⟨ab, hab⟩ : ∃ r, cmpR s_a x_a s_b x_b = r := ⟨_, rfl⟩
  have Hab := hide hab
  have one_ab := cmpR_one (s1 := s_a) (x1 := x_a) (s2 := s_b) (x2 := x_b)
  rw [hab] at one_ab
  have One_ab := hide one_ab
  clear hab one_ab
  obtain ⟨bc, hbc⟩ : ∃ r, cmpR s_b x_b s_c x_c = r := ⟨_, rfl⟩
  have Hbc := hide hbc
  have one_bc := cmpR_one (s1 := s_b) (x1 := x_b) (s2 := s_c) (x2 := x_c)
  rw [hbc] at one_bc
  have One_bc := hide one_bc
  clear hbc one_bc
  obtain ⟨ac, hac⟩ : ∃ r, cmpR s_a x_a s_c x_c = r := ⟨_, rfl⟩
  have Hac := hide hac
  have one_ac := cmpR_one (s1 := s_a) (x1 := x_a) (s2 := s_c) (x2 := x_c)
  rw [hac] at one_ac
  have One_ac := hide one_ac
  clear hac one_ac
  have Hba := hide (show cmpR s_b x_b s_a x_a = -ab by rw [cmpR_neg, unhide Hab])
  have HT1 := hide (show ab ≤ 0 → bc ≤ 0 → ac ≤ 0 by rw [← unhide Hab, ← unhide Hbc, ← unhide Hac]; exact cmpR_trans m_a m_b m_c)
  have HT2 := hide (show 0 ≤ ab → 0 ≤ bc → 0 ≤ ac by
    have k := cmpR_trans m_c m_b m_a
    rw [cmpR_neg (s1 := s_b), cmpR_neg (s1 := s_a), cmpR_neg (s1 := s_a) (s2 := s_c), unhide Hab, unhide Hbc, unhide Hac] at k
    intro h1 h2
    have := k (by omega) (by omega)
    omega)
  have HT3 := hide (show ab = 0 → ac = bc by rw [← unhide Hab, ← unhide Hbc, ← unhide Hac]; exact cmpR_alike m_a m_b m_c)
  have HEq := hide (show leavesR jXor s_a x_a s_b x_b = decide (ab = 0) by rw [← unhide Hab]; exact equal_cmp (unhide O_a) (unhide O_b) m_a m_b)
  obtain ⟨sb, hsb⟩ : ∃ r, leavesR jAndNot s_a x_a s_b x_b = r := ⟨_, rfl⟩
  have HSb := hide hsb
  have HSu := hide (show sb = true → ab ≤ 0 by intro h; rw [← unhide Hab]; rw [h] at hsb; exact subset_cmp (unhide O_a) (unhide O_b) m_a m_b hsb)
  have HSelf := hide (cmpR_self (s1 := s_a) (x1 := x_a))
  clear m_a m_b m_c hsb
  go_wp2_with fail
  have K := alive_any w3
  try unfold setV at K
  refine K.mono ?_
  clear K
  rintro _ w4 ⟨rfl, hb⟩
  have Aw4 := hide ((unhide Aw3).step hb)
  clear Aw3 hb
  have t5 := (unhide Aw4).t (w.heap.size) (.int .i64 s_a) (.slice a_a n_a c_a) (by simp)
  have t5a := t5.c0
  have t5b := t5.c1
  clear t5
  have t6 := (unhide Aw4).t (w1.heap.size) (.int .i64 s_b) (.slice a_b n_b c_b) (by simp)
  have t6a := t6.c0
  have t6b := t6.c1
  clear t6
  go_wp2_with fail
  clear t5a t5b t6a t6b
  have K := compare_any s_a a_a n_a c_a x_a s_b a_b n_b c_b x_b w4 ((unhide Aw4).w (a_a) (n_a) c_a (x_a) (by simp)) ((unhide Aw4).w (a_b) (n_b) c_b (x_b) (by simp)) (unhide O_a) (unhide O_b)
  rw [unhide Hab] at K
  try unfold setV at K
  refine K.mono ?_
  clear K
  rintro _ w7 ⟨rfl, hb⟩
  have Aw7 := hide ((unhide Aw4).step hb)
  clear Aw4 hb
  have t8 := (unhide Aw7).t (w.heap.size) (.int .i64 s_a) (.slice a_a n_a c_a) (by simp)
  have t8a := t8.c0
  have t8b := t8.c1
  clear t8
  have t9 := (unhide Aw7).t (w1.heap.size) (.int .i64 s_b) (.slice a_b n_b c_b) (by simp)
  have t9a := t9.c0
  have t9b := t9.c1
  clear t9
  go_wp2_with fail
  clear t8a t8b t9a t9b
  have K := compare_any s_b a_b n_b c_b x_b s_a a_a n_a c_a x_a w7 ((unhide Aw7).w (a_b) (n_b) c_b (x_b) (by simp)) ((unhide Aw7).w (a_a) (n_a) c_a (x_a) (by simp)) (unhide O_b) (unhide O_a)
  rw [unhide Hba] at K
  try unfold setV at K
  refine K.mono ?_
  clear K
  rintro _ w10 ⟨rfl, hb⟩
  have Aw10 := hide ((unhide Aw7).step hb)
  clear Aw7 hb
  have t11 := (unhide Aw10).t (w1.heap.size) (.int .i64 s_b) (.slice a_b n_b c_b) (by simp)
  have t11a := t11.c0
  have t11b := t11.c1
  clear t11
  have t12 := (unhide Aw10).t (w2.heap.size) (.int .i64 s_c) (.slice a_c n_c c_c) (by simp)
  have t12a := t12.c0
  have t12b := t12.c1
  clear t12
  go_wp2_with fail
  clear t11a t11b t12a t12b
  have K := compare_any s_b a_b n_b c_b x_b s_c a_c n_c c_c x_c w10 ((unhide Aw10).w (a_b) (n_b) c_b (x_b) (by simp)) ((unhide Aw10).w (a_c) (n_c) c_c (x_c) (by simp)) (unhide O_b) (unhide O_c)
  rw [unhide Hbc] at K
  try unfold setV at K
  refine K.mono ?_
  clear K
  rintro _ w13 ⟨rfl, hb⟩
  have Aw13 := hide ((unhide Aw10).step hb)
  clear Aw10 hb
  have t14 := (unhide Aw13).t (w.heap.size) (.int .i64 s_a) (.slice a_a n_a c_a) (by simp)
  have t14a := t14.c0
  have t14b := t14.c1
  clear t14
  have t15 := (unhide Aw13).t (w2.heap.size) (.int .i64 s_c) (.slice a_c n_c c_c) (by simp)
  have t15a := t15.c0
  have t15b := t15.c1
  clear t15
  go_wp2_with fail
  clear t14a t14b t15a t15b
  have K := compare_any s_a a_a n_a c_a x_a s_c a_c n_c c_c x_c w13 ((unhide Aw13).w (a_a) (n_a) c_a (x_a) (by simp)) ((unhide Aw13).w (a_c) (n_c) c_c (x_c) (by simp)) (unhide O_a) (unhide O_c)
  rw [unhide Hac] at K
  try unfold setV at K
  refine K.mono ?_
  clear K
  rintro _ w16 ⟨rfl, hb⟩
  have Aw16 := hide ((unhide Aw13).step hb)
  clear Aw13 hb
  have t17 := (unhide Aw16).t (w.heap.size) (.int .i64 s_a) (.slice a_a n_a c_a) (by simp)
  have t17a := t17.c0
  have t17b := t17.c1
  clear t17
  have t18 := (unhide Aw16).t (w1.heap.size) (.int .i64 s_b) (.slice a_b n_b c_b) (by simp)
  have t18a := t18.c0
  have t18b := t18.c1
  clear t18
  have t19 := (unhide Aw16).t (w2.heap.size) (.int .i64 s_c) (.slice a_c n_c c_c) (by simp)
  have t19a := t19.c0
  have t19b := t19.c1
  clear t19
  go_wp2_with fail
  clear t17a t17b t18a t18b t19a t19b
  have K := rmay_any s_a a_a n_a c_a x_a w16 ((unhide Aw16).w (a_a) (n_a) c_a (x_a) (by simp))
  rw [unhide M_a] at K
  try unfold setV at K
  refine K.mono ?_
  clear K
  rintro _ w20 ⟨rfl, hb⟩
  have Aw20 := hide ((unhide Aw16).step hb)
  clear Aw16 hb
  have t21 := (unhide Aw20).t (w.heap.size) (.int .i64 s_a) (.slice a_a n_a c_a) (by simp)
  have t21a := t21.c0
  have t21b := t21.c1
  clear t21
  have t22 := (unhide Aw20).t (w1.heap.size) (.int .i64 s_b) (.slice a_b n_b c_b) (by simp)
  have t22a := t22.c0
  have t22b := t22.c1
  clear t22
  have t23 := (unhide Aw20).t (w2.heap.size) (.int .i64 s_c) (.slice a_c n_c c_c) (by simp)
  have t23a := t23.c0
  have t23b := t23.c1
  clear t23
  go_wp2_with fail
  clear t21a t21b t22a t22b t23a t23b
  have K := rmay_any s_b a_b n_b c_b x_b w20 ((unhide Aw20).w (a_b) (n_b) c_b (x_b) (by simp))
  rw [unhide M_b] at K
  try unfold setV at K
  refine K.mono ?_
  clear K
  rintro _ w24 ⟨rfl, hb⟩
  have Aw24 := hide ((unhide Aw20).step hb)
  clear Aw20 hb
  have t25 := (unhide Aw24).t (w.heap.size) (.int .i64 s_a) (.slice a_a n_a c_a) (by simp)
  have t25a := t25.c0
  have t25b := t25.c1
  clear t25
  have t26 := (unhide Aw24).t (w1.heap.size) (.int .i64 s_b) (.slice a_b n_b c_b) (by simp)
  have t26a := t26.c0
  have t26b := t26.c1
  clear t26
  have t27 := (unhide Aw24).t (w2.heap.size) (.int .i64 s_c) (.slice a_c n_c c_c) (by simp)
  have t27a := t27.c0
  have t27b := t27.c1
  clear t27
  go_wp2_with fail
  clear t25a t25b t26a t26b t27a t27b
  have K := rmay_any s_c a_c n_c c_c x_c w24 ((unhide Aw24).w (a_c) (n_c) c_c (x_c) (by simp))
  rw [unhide M_c] at K
  try unfold setV at K
  refine K.mono ?_
  clear K
  rintro _ w28 ⟨rfl, hb⟩
  have Aw28 := hide ((unhide Aw24).step hb)
  clear Aw24 hb
  have c1 := unhide HT1
  have c2 := unhide HT2
  have c3 := unhide HT3
  have c4 := unhide HSu
  rcases unhide One_ab with h | h | h <;> rcases unhide One_bc with h2 | h2 | h2 <;> rcases unhide One_ac with h3 | h3 | h3 <;> cases sb
  all_goals subst h
  all_goals subst h2
  all_goals subst h3
  all_goals first | (exfalso; omega) | (exfalso; have c5 := c4 rfl; omega) | skip
  all_goals clear c1 c2 c3 c4
  all_goals
    have t29 := (unhide Aw28).t (w.heap.size) (.int .i64 s_a) (.slice a_a n_a c_a) (by simp)
    have t29a := t29.c0
    have t29b := t29.c1
    clear t29
    have t30 := (unhide Aw28).t (w1.heap.size) (.int .i64 s_b) (.slice a_b n_b c_b) (by simp)
    have t30a := t30.c0
    have t30b := t30.c1
    clear t30
    go_wp2_with fail
    clear t29a t29b t30a t30b
    have K := equal_any s_a a_a n_a c_a x_a s_b a_b n_b c_b x_b w28 ((unhide Aw28).w (a_a) (n_a) c_a (x_a) (by simp)) ((unhide Aw28).w (a_b) (n_b) c_b (x_b) (by simp)) (unhide O_a) (unhide O_b)
    rw [unhide HEq] at K
    simp only [decide_true, Int.reduceNeg, Int.reduceEq, decide_false] at K
    try unfold setV at K
    refine K.mono ?_
    clear K
    rintro _ w31 ⟨rfl, hb⟩
    have Aw31 := hide ((unhide Aw28).step hb)
    clear Aw28 hb
    have t32 := (unhide Aw31).t (w.heap.size) (.int .i64 s_a) (.slice a_a n_a c_a) (by simp)
    have t32a := t32.c0
    have t32b := t32.c1
    clear t32
    have t33 := (unhide Aw31).t (w1.heap.size) (.int .i64 s_b) (.slice a_b n_b c_b) (by simp)
    have t33a := t33.c0
    have t33b := t33.c1
    clear t33
    go_wp2_with fail
    clear t32a t32b t33a t33b
    have K := subset_any s_a a_a n_a c_a x_a s_b a_b n_b c_b x_b w31 ((unhide Aw31).w (a_a) (n_a) c_a (x_a) (by simp)) ((unhide Aw31).w (a_b) (n_b) c_b (x_b) (by simp)) (unhide O_a) (unhide O_b)
    rw [unhide HSb] at K
    try unfold setV at K
    refine K.mono ?_
    clear K
    rintro _ w34 ⟨rfl, hb⟩
    have Aw34 := hide ((unhide Aw31).step hb)
    clear Aw31 hb
    have t35 := (unhide Aw34).t (w.heap.size) (.int .i64 s_a) (.slice a_a n_a c_a) (by simp)
    have t35a := t35.c0
    have t35b := t35.c1
    clear t35
    go_wp2_with fail
    clear t35a t35b
    have K := compare_any s_a a_a n_a c_a x_a s_a a_a n_a c_a x_a w34 ((unhide Aw34).w (a_a) (n_a) c_a (x_a) (by simp)) ((unhide Aw34).w (a_a) (n_a) c_a (x_a) (by simp)) (unhide O_a) (unhide O_a)
    rw [unhide HSelf] at K
    try unfold setV at K
    refine K.mono ?_
    clear K
    rintro _ w36 ⟨rfl, hb⟩
    have Aw36 := hide ((unhide Aw34).step hb)
    clear Aw34 hb
    go_wp2_with fail
    go_ret
    exact ⟨rfl, (unhide Aw36).bel⟩

theorem bitOrder_walk (s_a : Int) (a_a : Option Addr) (n_a c_a : Nat) (x_a : List Nat) (s_b : Int) (a_b : Option Addr) (n_b c_b : Nat) (x_b : List Nat) (s_c : Int) (a_c : Option Addr) (n_c c_c : Nat) (x_c : List Nat) (w : World) (h_a : SlW w a_a n_a c_a x_a) (o_a : OkW x_a) (b_a : n_a ≤ 17592186043904) (e_a : a_a = none → n_a = 0 ∧ c_a = 0) (hl_a : -9223372036854775808 ≤ s_a) (hh_a : s_a ≤ 9223372036854775807) (h_b : SlW w a_b n_b c_b x_b) (o_b : OkW x_b) (b_b : n_b ≤ 17592186043904) (e_b : a_b = none → n_b = 0 ∧ c_b = 0) (hl_b : -9223372036854775808 ≤ s_b) (hh_b : s_b ≤ 9223372036854775807) (h_c : SlW w a_c n_c c_c x_c) (o_c : OkW x_c) (b_c : n_c ≤ 17592186043904) (e_c : a_c = none → n_c = 0 ∧ c_c = 0) (hl_c : -9223372036854775808 ≤ s_c) (hh_c : s_c ≤ 9223372036854775807) :
    Calls Try.prog 7 #[setV s_a a_a n_a c_a, setV s_b a_b n_b c_b, setV s_c a_c n_c c_c] w fun e w' => e = .returned (.bool true) ∧ Below w.heap.size w w' := by
  cases ma : MayS s_a x_a
  · exact bitOrder_no1 s_a a_a n_a c_a x_a s_b a_b n_b c_b x_b s_c a_c n_c c_c x_c w h_a o_a b_a e_a hl_a hh_a h_b o_b b_b e_b hl_b hh_b h_c o_c b_c e_c hl_c hh_c ma
  · cases mb : MayS s_b x_b
    · exact bitOrder_no2 s_a a_a n_a c_a x_a s_b a_b n_b c_b x_b s_c a_c n_c c_c x_c w h_a o_a b_a e_a hl_a hh_a h_b o_b b_b e_b hl_b hh_b h_c o_c b_c e_c hl_c hh_c ma mb
    · cases mc : MayS s_c x_c
      · exact bitOrder_no3 s_a a_a n_a c_a x_a s_b a_b n_b c_b x_b s_c a_c n_c c_c x_c w h_a o_a b_a e_a hl_a hh_a h_b o_b b_b e_b hl_b hh_b h_c o_c b_c e_c hl_c hh_c ma mb mc
      · exact bitOrder_yes s_a a_a n_a c_a x_a s_b a_b n_b c_b x_b s_c a_c n_c c_c x_c w h_a o_a b_a e_a hl_a hh_a h_b o_b b_b e_b hl_b hh_b h_c o_c b_c e_c hl_c hh_c ma mb mc

set_option maxRecDepth 100000 in
theorem bitOrder_lifted (os : Os) (started : os.Started) (H : Type) (enc : TypeId × Value → H) :
    ReturnsInHanded {} Try.checked os 7 .any (Rows.bitOrderSpec.pre6 enc Try.prog Try.f7 Rows.bitOrderRow.domain false) (Rows.bitOrderSpec.post enc Try.prog Try.f7 false true false false) := by
  refine returnsInHanded_of_change_sized (C := Try.checked) law_own started (by kernel_rfl) Try.func7
    (ChangeSpec.witness6 (enc := enc) (C := Try.checked) false ⟨#[], #[.agg #[.int .i64 0, .slice none 0 0], .agg #[.int .i64 0, .slice none 0 0], .agg #[.int .i64 0, .slice none 0 0]], []⟩ 8 (by kernel_rfl) (by kernel_rfl) (by kernel_rfl) (by kernel_rfl)) ?_
  intro W base args ds gs before hval0 hW hcnd hsz _
  have hval : ∀ (j : Nat) t v, Try.f7.params[j]? = some t → args[j]? = some v → Value.okWide Try.prog W .any base t v := hval0
  have hW' := hW
  obtain ⟨p, q, hA0, hV, rfl, hfz, hnd⟩ := hW
  have hA : DataW.TrodAll enc Try.prog W 0 (fun _ => true) true Try.f7.params.toList args.toList ds p := hA0
  rw [Try.params7] at hA hval hsz
  obtain ⟨v0, vs0, d0, ds0, p0, q0, hargs, rfl, rfl, h0, r0⟩ := trodAll_cons hA
  obtain ⟨v1, vs1, d1, ds1, p1, q1, rfl, rfl, rfl, h1, r1⟩ := trodAll_cons r0
  obtain ⟨v2, vs2, d2, ds2, p2, q2, rfl, rfl, rfl, h2, r2⟩ := trodAll_cons r1
  obtain ⟨rfl, rfl, rfl⟩ := trodAll_nil r2
  obtain rfl : args = #[v0, v1, v2] := by cases args; simp_all
  obtain ⟨rfl, rfl⟩ := trodVars_none hV
  have k0 := h0
  have lt0 : ∀ x ∈ p0, x.block < W.heap.size := by obtain ⟨m, hm⟩ := k0; exact DataW.trod_lt m _ _ _ hm
  obtain ⟨s0, a0, n0, c0, x0, rfl, l0, g0, y0, o0, b0, e0⟩ := arg_set (hval 0 24 v0 rfl rfl) h0 (fun k hk => by simpa using List.all_eq_true.1 hsz k (DataW.weights_mem_each (j := 0) rfl rfl k hk))
  have k1 := h1
  have lt1 : ∀ x ∈ p1, x.block < W.heap.size := by obtain ⟨m, hm⟩ := k1; exact DataW.trod_lt m _ _ _ hm
  obtain ⟨s1, a1, n1, c1, x1, rfl, l1, g1, y1, o1, b1, e1⟩ := arg_set (hval 1 24 v1 rfl rfl) h1 (fun k hk => by simpa using List.all_eq_true.1 hsz k (DataW.weights_mem_each (j := 1) rfl rfl k hk))
  have k2 := h2
  have lt2 : ∀ x ∈ p2, x.block < W.heap.size := by obtain ⟨m, hm⟩ := k2; exact DataW.trod_lt m _ _ _ hm
  obtain ⟨s2, a2, n2, c2, x2, rfl, l2, g2, y2, o2, b2, e2⟩ := arg_set (hval 2 24 v2 rfl rfl) h2 (fun k hk => by simpa using List.all_eq_true.1 hsz k (DataW.weights_mem_each (j := 2) rfl rfl k hk))
  clear hA0 hval0
  refine (bitOrder_walk s0 a0 n0 c0 x0 s1 a1 n1 c1 x1 s2 a2 n2 c2 x2 W y0 o0 b0 e0 l0 g0 y1 o1 b1 e1 l1 g1 y2 o2 b2 e2 l2 g2).mono fun e W' ⟨he, bel⟩ => ?_
  subst he
  exact ⟨_, rfl, _, _, _, [], _, [], hW', trodAll_mk1 (shut_bool Try.underlying4 _), (trodAll_cons_mk (Below.trod law_laid (by kernel_rfl) (of_decide_eq_true (by kernel_rfl)) k0 bel lt0) (trodAll_cons_mk (Below.trod law_laid (by kernel_rfl) (of_decide_eq_true (by kernel_rfl)) k1 bel lt1) (trodAll_cons_mk (Below.trod law_laid (by kernel_rfl) (of_decide_eq_true (by kernel_rfl)) k2 bel lt2) trodAll_mk0))), rfl, bel.frame _, fun h => by cases h⟩

theorem bitOrder_holds : Rows.BitOrderSaid :=
  OpenClaim.holds_of_wide 7 Try.f7 rfl rfl rfl rfl rfl rfl rfl ⟨rfl, rfl, rfl, rfl, rfl⟩ rfl rfl rfl rfl rfl (by kernel_rfl) Try.func7 (by kernel_rfl)
    (of_decide_eq_true (by kernel_rfl)) (by unfold Func.isWrapper; first | (rw [if_pos (by decide +kernel)]; kernel_rfl) | (rw [if_neg (by decide +kernel)]; exact ⟨rfl, rfl⟩))
    (fun os started H enc _ => bitOrder_lifted os started H enc)
#print axioms bitOrder_holds
end Go.Proofs.Ytbendkndnojihaa
