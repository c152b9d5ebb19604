/-
  THE LAW BitPairs: out of the contracts; the row's step.
-/
import Derived.Test.YtbendkndnojihabBp1
import Derived.Test.YtbendkndnojihabBp2
import Derived.Test.YtbendkndnojihabBp3
import Derived.Test.YtbendkndnojihabBp4
import Derived.Test.YtbendkndnojihabBp5
import Derived.Test.YtbendkndnojihabBp6
import Derived.Test.YtbendkndnojihabBc5
import Derived.Test.YtbendkndnojihabBl4
import Derived.Test.YtbendkndnojihabBq0
import Derived.Test.YtbendkndnojihabBtc
namespace Go.Proofs.Ytbendkndnojihab
open Go.ChangeShapes Go.WideShapes Go.ChangeAt Go.RowKit Go.Deep
set_option linter.unusedVariables false

set_option maxHeartbeats 16000000 in
theorem bitPairs_walk (s_a : Int) (a_a : Option Addr) (n_a c_a : Nat) (x_a : List Nat) (s_b : Int) (a_b : Option Addr) (n_b c_b : Nat) (x_b : List Nat) (w : World) (h_a : SlW w a_a n_a c_a x_a) (o_a : OkW x_a) (b_a : n_a ≤ 17592186043904) (e_a : a_a = none → n_a = 0 ∧ c_a = 0) (hl_a : -9223372036854775808 ≤ s_a) (hh_a : s_a ≤ 9223372036854775807) (h_b : SlW w a_b n_b c_b x_b) (o_b : OkW x_b) (b_b : n_b ≤ 17592186043904) (e_b : a_b = none → n_b = 0 ∧ c_b = 0) (hl_b : -9223372036854775808 ≤ s_b) (hh_b : s_b ≤ 9223372036854775807)  :
    Calls Try.prog 5 #[setV s_a a_a n_a c_a, setV s_b a_b n_b c_b] w fun e w' => e = .returned (.bool true) ∧ Below w.heap.size w w' := by
  have A00 : Facts w w [] := ⟨Below.refl _ _, fun f hf => by cases hf⟩
  have A01 := A00.add (fW a_a n_a c_a x_a) h_a
  have A02 := A01.add (fW a_b n_b c_b x_b) h_b
  have A0 := hide A02
  have O_a := hide o_a
  have E_a := hide e_a
  have B_a := hide (And.intro hl_a hh_a)
  have O_b := hide o_b
  have E_b := hide e_b
  have B_b := hide (And.intro hl_b hh_b)
  clear A00 A01 A02 h_a h_b o_a o_b e_a e_b hl_a hh_a hl_b hh_b
  obtain ⟨r1, hr_r1⟩ : ∃ r, pairR false s_a x_a s_b x_b = r := ⟨_, rfl⟩
  have HR_r1 := hide hr_r1
  obtain ⟨s_r1, x_r1, e_r1⟩ := r1
  clear hr_r1
  obtain ⟨r2, hr_r2⟩ : ∃ r, pairR true s_a x_a s_b x_b = r := ⟨_, rfl⟩
  have HR_r2 := hide hr_r2
  obtain ⟨s_r2, x_r2, e_r2⟩ := r2
  clear hr_r2
  obtain ⟨r3, hr_r3⟩ : ∃ r, restR s_a x_a = r := ⟨_, rfl⟩
  have HR_r3 := hide hr_r3
  obtain ⟨s_r3, x_r3, e_r3⟩ := r3
  clear hr_r3
  unfold setV
  go_enter Try.func5, Try.ntmps5
  obtain ⟨w1, hw1⟩ : ∃ x, w.alloc (.cells #[.int .i64 s_a, .slice a_a n_a c_a] 26) = x := ⟨_, rfl⟩
  have Aw1 := hide ((unhide A0).box (.int .i64 s_a) (.slice a_a n_a c_a) 26)
  rw [hw1] at Aw1
  clear A0
  obtain ⟨w2, hw2⟩ : ∃ x, w1.alloc (.cells #[.int .i64 s_b, .slice a_b n_b c_b] 26) = x := ⟨_, rfl⟩
  have Aw2 := hide ((unhide Aw1).box (.int .i64 s_b) (.slice a_b n_b c_b) 26)
  rw [hw2] at Aw2
  clear Aw1
  obtain ⟨q1, hq1⟩ : ∃ r, leavesR jXor s_a x_a s_b x_b = r := ⟨_, rfl⟩
  have HQ1 := hide hq1
  clear hq1
  have bq1 : (q1 != q1) = false := by simp
  obtain ⟨q2, hq2⟩ : ∃ r, leavesR jAndNot s_a x_a s_b x_b = r := ⟨_, rfl⟩
  have HQ2 := hide hq2
  clear hq2
  have bq2 : (q2 != q2) = false := by simp
  obtain ⟨q3, hq3⟩ : ∃ r, leavesR jAnd s_a x_a s_b x_b = r := ⟨_, rfl⟩
  have HQ3 := hide hq3
  clear hq3
  have bq3 : (q3 != q3) = false := by simp
  obtain ⟨cc, hcc⟩ : ∃ r, cmpR s_a x_a s_b x_b = r := ⟨_, rfl⟩
  have HCC := hide hcc
  clear hcc
  have t3 := (unhide Aw2).t (w.heap.size) (.int .i64 s_a) (.slice a_a n_a c_a) (by simp)
  have t3a := t3.c0
  have t3b := t3.c1
  clear t3
  go_wp2_with fail
  clear t3a t3b
  have Kw4 := twin_any s_a a_a n_a c_a x_a w2 ((unhide Aw2).w (a_a) (n_a) c_a (x_a) (by simp)) b_a (unhide E_a)
  unfold setV at Kw4
  refine Kw4.mono ?_
  clear Kw4
  rintro _ w4 ⟨b_u, k_u, rfl, hs, hb⟩
  have Aw4 := hide (((unhide Aw2).step hb).add (fW (some ⟨b_u, 0, none⟩) (n_a + 1) k_u (x_a ++ [markN])) hs)
  clear Aw2 hs hb
  obtain ⟨w5, hw5⟩ : ∃ x, w4.alloc (.cells #[.int .i64 s_a, .slice (some ⟨b_u, 0, none⟩) n_a k_u] 26) = x := ⟨_, rfl⟩
  have Aw5 := hide ((unhide Aw4).box (.int .i64 s_a) (.slice (some ⟨b_u, 0, none⟩) n_a k_u) 26)
  rw [hw5] at Aw5
  clear Aw4
  have t6 := (unhide Aw5).t (w1.heap.size) (.int .i64 s_b) (.slice a_b n_b c_b) (by simp)
  have t6a := t6.c0
  have t6b := t6.c1
  clear t6
  go_wp2_with fail
  clear t6a t6b
  have Kw7 := twin_any s_b a_b n_b c_b x_b w5 ((unhide Aw5).w (a_b) (n_b) c_b (x_b) (by simp)) b_b (unhide E_b)
  unfold setV at Kw7
  refine Kw7.mono ?_
  clear Kw7
  rintro _ w7 ⟨b_v, k_v, rfl, hs, hb⟩
  have Aw7 := hide (((unhide Aw5).step hb).add (fW (some ⟨b_v, 0, none⟩) (n_b + 1) k_v (x_b ++ [markN])) hs)
  clear Aw5 hs hb
  obtain ⟨w8, hw8⟩ : ∃ x, w7.alloc (.cells #[.int .i64 s_b, .slice (some ⟨b_v, 0, none⟩) n_b k_v] 26) = x := ⟨_, rfl⟩
  have Aw8 := hide ((unhide Aw7).box (.int .i64 s_b) (.slice (some ⟨b_v, 0, none⟩) n_b k_v) 26)
  rw [hw8] at Aw8
  clear Aw7
  have t9 := (unhide Aw8).t (w4.heap.size) (.int .i64 s_a) (.slice (some ⟨b_u, 0, none⟩) n_a k_u) (by simp)
  have t9a := t9.c0
  have t9b := t9.c1
  clear t9
  have t10 := (unhide Aw8).t (w7.heap.size) (.int .i64 s_b) (.slice (some ⟨b_v, 0, none⟩) n_b k_v) (by simp)
  have t10a := t10.c0
  have t10b := t10.c1
  clear t10
  go_wp2_with fail
  clear t9a t9b t10a t10b
  have Kw11 := minus_any s_a (some ⟨b_u, 0, none⟩) n_a k_u x_a s_b (some ⟨b_v, 0, none⟩) n_b k_v x_b w8 ((unhide Aw8).w (some ⟨b_u, 0, none⟩) (n_a + 1) k_u (x_a ++ [markN]) (by simp)).init ((unhide Aw8).w (some ⟨b_v, 0, none⟩) (n_b + 1) k_v (x_b ++ [markN]) (by simp)).init (unhide O_a) (unhide O_b)
  rw [unhide HR_r1] at Kw11
  try unfold setV at Kw11
  refine Kw11.mono ?_
  clear Kw11
  rintro _ w11 ⟨a_c, n_c, c_c, rfl, hs, hb⟩
  have Aw11 := hide (((unhide Aw8).step hb).add (fW a_c n_c c_c x_r1) hs)
  clear Aw8 hs hb
  unfold setV
  obtain ⟨w12, hw12⟩ : ∃ x, w11.alloc (.cells #[.int .i64 s_r1, .slice a_c n_c c_c] 26) = x := ⟨_, rfl⟩
  have Aw12 := hide ((unhide Aw11).box (.int .i64 s_r1) (.slice a_c n_c c_c) 26)
  rw [hw12] at Aw12
  clear Aw11
  have t13 := (unhide Aw12).t (w.heap.size) (.int .i64 s_a) (.slice a_a n_a c_a) (by simp)
  have t13a := t13.c0
  have t13b := t13.c1
  clear t13
  have t14 := (unhide Aw12).t (w1.heap.size) (.int .i64 s_b) (.slice a_b n_b c_b) (by simp)
  have t14a := t14.c0
  have t14b := t14.c1
  clear t14
  go_wp2_with fail
  clear t13a t13b t14a t14b
  have Kw15 := rminus_any s_a a_a n_a c_a x_a s_b a_b n_b c_b x_b false w12 ((unhide Aw12).w (a_a) (n_a) c_a (x_a) (by simp)) ((unhide Aw12).w (a_b) (n_b) c_b (x_b) (by simp))
  rw [unhide HR_r1] at Kw15
  try unfold setV at Kw15
  refine Kw15.mono ?_
  clear Kw15
  rintro _ w15 ⟨a_d, n_d, c_d, rfl, hs, hb⟩
  have Aw15 := hide (((unhide Aw12).step hb).add (fW a_d n_d c_d x_r1) hs)
  clear Aw12 hs hb
  unfold setV
  obtain ⟨w16, hw16⟩ : ∃ x, w15.alloc (.cells #[.int .i64 s_r1, .slice a_d n_d c_d] 26) = x := ⟨_, rfl⟩
  have Aw16 := hide ((unhide Aw15).box (.int .i64 s_r1) (.slice a_d n_d c_d) 26)
  rw [hw16] at Aw16
  clear Aw15
  have t17 := (unhide Aw16).t (w4.heap.size) (.int .i64 s_a) (.slice (some ⟨b_u, 0, none⟩) n_a k_u) (by simp)
  have t17a := t17.c0
  have t17b := t17.c1
  clear t17
  have t18 := (unhide Aw16).t (w7.heap.size) (.int .i64 s_b) (.slice (some ⟨b_v, 0, none⟩) n_b k_v) (by simp)
  have t18a := t18.c0
  have t18b := t18.c1
  clear t18
  go_wp2_with fail
  clear t17a t17b t18a t18b
  have Kw19 := differ_any s_a (some ⟨b_u, 0, none⟩) n_a k_u x_a s_b (some ⟨b_v, 0, none⟩) n_b k_v x_b w16 ((unhide Aw16).w (some ⟨b_u, 0, none⟩) (n_a + 1) k_u (x_a ++ [markN]) (by simp)).init ((unhide Aw16).w (some ⟨b_v, 0, none⟩) (n_b + 1) k_v (x_b ++ [markN]) (by simp)).init (unhide O_a) (unhide O_b)
  rw [unhide HR_r2] at Kw19
  try unfold setV at Kw19
  refine Kw19.mono ?_
  clear Kw19
  rintro _ w19 ⟨a_g, n_g, c_g, rfl, hs, hb⟩
  have Aw19 := hide (((unhide Aw16).step hb).add (fW a_g n_g c_g x_r2) hs)
  clear Aw16 hs hb
  unfold setV
  obtain ⟨w20, hw20⟩ : ∃ x, w19.alloc (.cells #[.int .i64 s_r2, .slice a_g n_g c_g] 26) = x := ⟨_, rfl⟩
  have Aw20 := hide ((unhide Aw19).box (.int .i64 s_r2) (.slice a_g n_g c_g) 26)
  rw [hw20] at Aw20
  clear Aw19
  have t21 := (unhide Aw20).t (w.heap.size) (.int .i64 s_a) (.slice a_a n_a c_a) (by simp)
  have t21a := t21.c0
  have t21b := t21.c1
  clear t21
  have t22 := (unhide Aw20).t (w1.heap.size) (.int .i64 s_b) (.slice a_b n_b c_b) (by simp)
  have t22a := t22.c0
  have t22b := t22.c1
  clear t22
  go_wp2_with fail
  clear t21a t21b t22a t22b
  have Kw23 := rminus_any s_a a_a n_a c_a x_a s_b a_b n_b c_b x_b true w20 ((unhide Aw20).w (a_a) (n_a) c_a (x_a) (by simp)) ((unhide Aw20).w (a_b) (n_b) c_b (x_b) (by simp))
  rw [unhide HR_r2] at Kw23
  try unfold setV at Kw23
  refine Kw23.mono ?_
  clear Kw23
  rintro _ w23 ⟨a_i, n_i, c_i, rfl, hs, hb⟩
  have Aw23 := hide (((unhide Aw20).step hb).add (fW a_i n_i c_i x_r2) hs)
  clear Aw20 hs hb
  unfold setV
  obtain ⟨w24, hw24⟩ : ∃ x, w23.alloc (.cells #[.int .i64 s_r2, .slice a_i n_i c_i] 26) = x := ⟨_, rfl⟩
  have Aw24 := hide ((unhide Aw23).box (.int .i64 s_r2) (.slice a_i n_i c_i) 26)
  rw [hw24] at Aw24
  clear Aw23
  have t25 := (unhide Aw24).t (w4.heap.size) (.int .i64 s_a) (.slice (some ⟨b_u, 0, none⟩) n_a k_u) (by simp)
  have t25a := t25.c0
  have t25b := t25.c1
  clear t25
  go_wp2_with fail
  clear t25a t25b
  have Kw26 := rest_any s_a (some ⟨b_u, 0, none⟩) n_a k_u x_a w24 ((unhide Aw24).w (some ⟨b_u, 0, none⟩) (n_a + 1) k_u (x_a ++ [markN]) (by simp)).init (unhide O_a)
  rw [unhide HR_r3] at Kw26
  try unfold setV at Kw26
  refine Kw26.mono ?_
  clear Kw26
  rintro _ w26 ⟨a_k, n_k, c_k, rfl, hs, hb⟩
  have Aw26 := hide (((unhide Aw24).step hb).add (fW a_k n_k c_k x_r3) hs)
  clear Aw24 hs hb
  unfold setV
  obtain ⟨w27, hw27⟩ : ∃ x, w26.alloc (.cells #[.int .i64 s_r3, .slice a_k n_k c_k] 26) = x := ⟨_, rfl⟩
  have Aw27 := hide ((unhide Aw26).box (.int .i64 s_r3) (.slice a_k n_k c_k) 26)
  rw [hw27] at Aw27
  clear Aw26
  have t28 := (unhide Aw27).t (w.heap.size) (.int .i64 s_a) (.slice a_a n_a c_a) (by simp)
  have t28a := t28.c0
  have t28b := t28.c1
  clear t28
  go_wp2_with fail
  clear t28a t28b
  have Kw29 := rrest_any s_a a_a n_a c_a x_a w27 ((unhide Aw27).w (a_a) (n_a) c_a (x_a) (by simp))
  rw [unhide HR_r3] at Kw29
  try unfold setV at Kw29
  refine Kw29.mono ?_
  clear Kw29
  rintro _ w29 ⟨a_m, n_m, c_m, rfl, hs, hb⟩
  have Aw29 := hide (((unhide Aw27).step hb).add (fW a_m n_m c_m x_r3) hs)
  clear Aw27 hs hb
  unfold setV
  obtain ⟨w30, hw30⟩ : ∃ x, w29.alloc (.cells #[.int .i64 s_r3, .slice a_m n_m c_m] 26) = x := ⟨_, rfl⟩
  have Aw30 := hide ((unhide Aw29).box (.int .i64 s_r3) (.slice a_m n_m c_m) 26)
  rw [hw30] at Aw30
  clear Aw29
  have EL : n_d = n_c := by rw [← ((unhide Aw30).w (a_d) (n_d) c_d (x_r1) (by simp)).len, ← ((unhide Aw30).w (a_c) (n_c) c_c (x_r1) (by simp)).len]
  subst EL
  have t31 := (unhide Aw30).t (w11.heap.size) (.int .i64 s_r1) (.slice a_c n_d c_c) (by simp)
  have t31a := t31.c0
  have t31b := t31.c1
  clear t31
  have t32 := (unhide Aw30).t (w15.heap.size) (.int .i64 s_r1) (.slice a_d n_d c_d) (by simp)
  have t32a := t32.c0
  have t32b := t32.c1
  clear t32
  go_wp2_with fail
  clear t31a t31b t32a t32b
  have Kw33 := same_eq s_r1 a_c a_d n_d c_c c_d x_r1 w30 ((unhide Aw30).w (a_c) (n_d) c_c (x_r1) (by simp)) ((unhide Aw30).w (a_d) (n_d) c_d (x_r1) (by simp))
  unfold setV at Kw33
  refine Kw33.mono ?_
  clear Kw33
  rintro _ w33 ⟨rfl, hb⟩
  have Aw33 := hide ((unhide Aw30).step hb)
  clear Aw30 hb
  go_wp2_with fail
  refine (num_any e_r1 w33).mono ?_
  rintro _ w' ⟨rfl, hw⟩
  obtain rfl := hw.symm
  have EL : n_i = n_g := by rw [← ((unhide Aw33).w (a_i) (n_i) c_i (x_r2) (by simp)).len, ← ((unhide Aw33).w (a_g) (n_g) c_g (x_r2) (by simp)).len]
  subst EL
  have t34 := (unhide Aw33).t (w19.heap.size) (.int .i64 s_r2) (.slice a_g n_i c_g) (by simp)
  have t34a := t34.c0
  have t34b := t34.c1
  clear t34
  have t35 := (unhide Aw33).t (w23.heap.size) (.int .i64 s_r2) (.slice a_i n_i c_i) (by simp)
  have t35a := t35.c0
  have t35b := t35.c1
  clear t35
  go_wp2_with fail
  clear t34a t34b t35a t35b
  have Kw36 := same_eq s_r2 a_g a_i n_i c_g c_i x_r2 w33 ((unhide Aw33).w (a_g) (n_i) c_g (x_r2) (by simp)) ((unhide Aw33).w (a_i) (n_i) c_i (x_r2) (by simp))
  unfold setV at Kw36
  refine Kw36.mono ?_
  clear Kw36
  rintro _ w36 ⟨rfl, hb⟩
  have Aw36 := hide ((unhide Aw33).step hb)
  clear Aw33 hb
  go_wp2_with fail
  refine (num_any e_r2 w36).mono ?_
  rintro _ w' ⟨rfl, hw⟩
  obtain rfl := hw.symm
  have EL : n_m = n_k := by rw [← ((unhide Aw36).w (a_m) (n_m) c_m (x_r3) (by simp)).len, ← ((unhide Aw36).w (a_k) (n_k) c_k (x_r3) (by simp)).len]
  subst EL
  have t37 := (unhide Aw36).t (w26.heap.size) (.int .i64 s_r3) (.slice a_k n_m c_k) (by simp)
  have t37a := t37.c0
  have t37b := t37.c1
  clear t37
  have t38 := (unhide Aw36).t (w29.heap.size) (.int .i64 s_r3) (.slice a_m n_m c_m) (by simp)
  have t38a := t38.c0
  have t38b := t38.c1
  clear t38
  go_wp2_with fail
  clear t37a t37b t38a t38b
  have Kw39 := same_eq s_r3 a_k a_m n_m c_k c_m x_r3 w36 ((unhide Aw36).w (a_k) (n_m) c_k (x_r3) (by simp)) ((unhide Aw36).w (a_m) (n_m) c_m (x_r3) (by simp))
  unfold setV at Kw39
  refine Kw39.mono ?_
  clear Kw39
  rintro _ w39 ⟨rfl, hb⟩
  have Aw39 := hide ((unhide Aw36).step hb)
  clear Aw36 hb
  go_wp2_with fail
  refine (num_any e_r3 w39).mono ?_
  rintro _ w' ⟨rfl, hw⟩
  obtain rfl := hw.symm
  have t40 := (unhide Aw39).t (w.heap.size) (.int .i64 s_a) (.slice a_a n_a c_a) (by simp)
  have t40a := t40.c0
  have t40b := t40.c1
  clear t40
  have t41 := (unhide Aw39).t (w1.heap.size) (.int .i64 s_b) (.slice a_b n_b c_b) (by simp)
  have t41a := t41.c0
  have t41b := t41.c1
  clear t41
  go_wp2_with fail
  clear t40a t40b t41a t41b
  have K := related_any s_a a_a n_a c_a x_a s_b a_b n_b c_b x_b w39 ((unhide Aw39).w (a_a) (n_a) c_a (x_a) (by simp)) ((unhide Aw39).w (a_b) (n_b) c_b (x_b) (by simp)) (unhide O_a) (unhide O_b)
  unfold relV at K
  rw [unhide HQ1, unhide HQ2, unhide HQ3] at K
  try unfold setV at K
  refine K.mono ?_
  clear K
  rintro _ w42 ⟨rfl, hb⟩
  have Aw42 := hide ((unhide Aw39).step hb)
  clear Aw39 hb
  have t43 := (unhide Aw42).t (w4.heap.size) (.int .i64 s_a) (.slice (some ⟨b_u, 0, none⟩) n_a k_u) (by simp)
  have t43a := t43.c0
  have t43b := t43.c1
  clear t43
  have t44 := (unhide Aw42).t (w7.heap.size) (.int .i64 s_b) (.slice (some ⟨b_v, 0, none⟩) n_b k_v) (by simp)
  have t44a := t44.c0
  have t44b := t44.c1
  clear t44
  go_wp2_with fail
  clear t43a t43b t44a t44b
  have K := equal_any s_a (some ⟨b_u, 0, none⟩) n_a k_u x_a s_b (some ⟨b_v, 0, none⟩) n_b k_v x_b w42 ((unhide Aw42).w (some ⟨b_u, 0, none⟩) (n_a + 1) k_u (x_a ++ [markN]) (by simp)).init ((unhide Aw42).w (some ⟨b_v, 0, none⟩) (n_b + 1) k_v (x_b ++ [markN]) (by simp)).init (unhide O_a) (unhide O_b)
  rw [unhide HQ1] at K
  try unfold setV at K
  refine K.mono ?_
  clear K
  rintro _ w45 ⟨rfl, hb⟩
  have Aw45 := hide ((unhide Aw42).step hb)
  clear Aw42 hb
  have t46 := (unhide Aw45).t (w4.heap.size) (.int .i64 s_a) (.slice (some ⟨b_u, 0, none⟩) n_a k_u) (by simp)
  have t46a := t46.c0
  have t46b := t46.c1
  clear t46
  have t47 := (unhide Aw45).t (w7.heap.size) (.int .i64 s_b) (.slice (some ⟨b_v, 0, none⟩) n_b k_v) (by simp)
  have t47a := t47.c0
  have t47b := t47.c1
  clear t47
  go_wp2_with fail
  clear t46a t46b t47a t47b
  have K := subset_any s_a (some ⟨b_u, 0, none⟩) n_a k_u x_a s_b (some ⟨b_v, 0, none⟩) n_b k_v x_b w45 ((unhide Aw45).w (some ⟨b_u, 0, none⟩) (n_a + 1) k_u (x_a ++ [markN]) (by simp)).init ((unhide Aw45).w (some ⟨b_v, 0, none⟩) (n_b + 1) k_v (x_b ++ [markN]) (by simp)).init (unhide O_a) (unhide O_b)
  rw [unhide HQ2] at K
  try unfold setV at K
  refine K.mono ?_
  clear K
  rintro _ w48 ⟨rfl, hb⟩
  have Aw48 := hide ((unhide Aw45).step hb)
  clear Aw45 hb
  have t49 := (unhide Aw48).t (w4.heap.size) (.int .i64 s_a) (.slice (some ⟨b_u, 0, none⟩) n_a k_u) (by simp)
  have t49a := t49.c0
  have t49b := t49.c1
  clear t49
  have t50 := (unhide Aw48).t (w7.heap.size) (.int .i64 s_b) (.slice (some ⟨b_v, 0, none⟩) n_b k_v) (by simp)
  have t50a := t50.c0
  have t50b := t50.c1
  clear t50
  go_wp2_with fail
  clear t49a t49b t50a t50b
  have K := disjoint_any s_a (some ⟨b_u, 0, none⟩) n_a k_u x_a s_b (some ⟨b_v, 0, none⟩) n_b k_v x_b w48 ((unhide Aw48).w (some ⟨b_u, 0, none⟩) (n_a + 1) k_u (x_a ++ [markN]) (by simp)).init ((unhide Aw48).w (some ⟨b_v, 0, none⟩) (n_b + 1) k_v (x_b ++ [markN]) (by simp)).init (unhide O_a) (unhide O_b)
  rw [unhide HQ3] at K
  try unfold setV at K
  refine K.mono ?_
  clear K
  rintro _ w51 ⟨rfl, hb⟩
  have Aw51 := hide ((unhide Aw48).step hb)
  clear Aw48 hb
  have t52 := (unhide Aw51).t (w.heap.size) (.int .i64 s_a) (.slice a_a n_a c_a) (by simp)
  have t52a := t52.c0
  have t52b := t52.c1
  clear t52
  have t53 := (unhide Aw51).t (w1.heap.size) (.int .i64 s_b) (.slice a_b n_b c_b) (by simp)
  have t53a := t53.c0
  have t53b := t53.c1
  clear t53
  have t54 := (unhide Aw51).t (w4.heap.size) (.int .i64 s_a) (.slice (some ⟨b_u, 0, none⟩) n_a k_u) (by simp)
  have t54a := t54.c0
  have t54b := t54.c1
  clear t54
  have t55 := (unhide Aw51).t (w7.heap.size) (.int .i64 s_b) (.slice (some ⟨b_v, 0, none⟩) n_b k_v) (by simp)
  have t55a := t55.c0
  have t55b := t55.c1
  clear t55
  have AX56 := hide (fun x : Ext w51 => (unhide Aw51).step x.bel)
  have hNE56 := Ext.ne w51
  have Ft52a := fun x : Ext w51 => x.cell t52a
  have Ft52b := fun x : Ext w51 => x.cell t52b
  have Ft53a := fun x : Ext w51 => x.cell t53a
  have Ft53b := fun x : Ext w51 => x.cell t53b
  have Ft54a := fun x : Ext w51 => x.cell t54a
  have Ft54b := fun x : Ext w51 => x.cell t54b
  have Ft55a := fun x : Ext w51 => x.cell t55a
  have Ft55b := fun x : Ext w51 => x.cell t55b
  have K := fun x : Ext w51 => compare_any s_a (some ⟨b_u, 0, none⟩) n_a k_u x_a s_b (some ⟨b_v, 0, none⟩) n_b k_v x_b x.w ((unhide AX56 x).w (some ⟨b_u, 0, none⟩) (n_a + 1) k_u (x_a ++ [markN]) (by simp)).init ((unhide AX56 x).w (some ⟨b_v, 0, none⟩) (n_b + 1) k_v (x_b ++ [markN]) (by simp)).init (unhide O_a) (unhide O_b)
  rw [unhide HCC] at K
  try unfold setV at K
  have HK56_0 := hide K
  clear K
  have K := fun x : Ext w51 => rcompare_any s_a a_a n_a c_a x_a s_b a_b n_b c_b x_b x.w ((unhide AX56 x).w (a_a) (n_a) c_a (x_a) (by simp)) ((unhide AX56 x).w (a_b) (n_b) c_b (x_b) (by simp))
  rw [unhide HCC] at K
  try unfold setV at K
  have HK56_1 := hide K
  clear K
  have K := fun x : Ext w51 => kept_any s_a b_u k_u a_a n_a c_a x_a x.w ((unhide AX56 x).w (some ⟨b_u, 0, none⟩) (n_a + 1) k_u (x_a ++ [markN]) (by simp)) ((unhide AX56 x).w (a_a) (n_a) c_a (x_a) (by simp))
  try unfold setV at K
  have HK56_2 := hide K
  clear K
  have K := fun x : Ext w51 => kept_any s_b b_v k_v a_b n_b c_b x_b x.w ((unhide AX56 x).w (some ⟨b_v, 0, none⟩) (n_b + 1) k_v (x_b ++ [markN]) (by simp)) ((unhide AX56 x).w (a_b) (n_b) c_b (x_b) (by simp))
  try unfold setV at K
  have HK56_3 := hide K
  clear K
  have hcc2 : (cc == cc) = true := by simp
  go_wp2_with fail
  clear t52a t52b t53a t53b t54a t54b t55a t55b
  refine wp_region_ext (by kernel_rfl) (by kernel_rfl) ?_
  repeat (go_big_quiet_step (first
    | (go_at_call 30; rename_i x; exact Ext.call (unhide HK56_0 x) (fun e w' h => h))
    | (go_at_call 31; rename_i x; exact Ext.call (unhide HK56_1 x) (fun e w' h => h))
    | (go_at_call_of 26 (Value.agg #[.int .i64 s_a, .slice (some ⟨b_u, 0, none⟩) n_a k_u]); rename_i x; exact Ext.call (unhide HK56_2 x) (fun e w' h => h))
    | (go_at_call_of 26 (Value.agg #[.int .i64 s_b, .slice (some ⟨b_v, 0, none⟩) n_b k_v]); rename_i x; exact Ext.call (unhide HK56_3 x) (fun e w' h => h))))
  refine wpQuiet_nil ?_
  rintro _ ⟨x56, rfl⟩
  have A56 := hide (unhide AX56 x56)
  clear AX56 Aw51 Ft52a Ft52b Ft53a Ft53b Ft54a Ft54b Ft55a Ft55b HK56_0 HK56_1 HK56_2 HK56_3
  go_wp2_with fail
  go_ret
  exact ⟨rfl, (unhide A56).bel⟩

set_option maxRecDepth 100000 in
theorem bitPairs_lifted (os : Os) (started : os.Started) (H : Type) (enc : TypeId × Value → H) :
    ReturnsInHanded {} Try.checked os 5 .any (Rows.bitPairsSpec.pre6 enc Try.prog Try.f5 Rows.bitPairsRow.domain false) (Rows.bitPairsSpec.post enc Try.prog Try.f5 false true false false) := by
  refine returnsInHanded_of_change_sized (C := Try.checked) law_own started (by kernel_rfl) Try.func5
    (ChangeSpec.witness6 (enc := enc) (C := Try.checked) false ⟨#[], #[.agg #[.int .i64 0, .slice none 0 0], .agg #[.int .i64 0, .slice none 0 0]], []⟩ 8 (by kernel_rfl) (by kernel_rfl) (by kernel_rfl) (by kernel_rfl)) ?_
  intro W base args ds gs before hval0 hW hcnd hsz _
  have hval : ∀ (j : Nat) t v, Try.f5.params[j]? = some t → args[j]? = some v → Value.okWide Try.prog W .any base t v := hval0
  have hW' := hW
  obtain ⟨p, q, hA0, hV, rfl, hfz, hnd⟩ := hW
  have hA : DataW.TrodAll enc Try.prog W 0 (fun _ => true) true Try.f5.params.toList args.toList ds p := hA0
  rw [Try.params5] at hA hval hsz
  obtain ⟨v0, vs0, d0, ds0, p0, q0, hargs, rfl, rfl, h0, r0⟩ := trodAll_cons hA
  obtain ⟨v1, vs1, d1, ds1, p1, q1, rfl, rfl, rfl, h1, r1⟩ := trodAll_cons r0
  obtain ⟨rfl, rfl, rfl⟩ := trodAll_nil r1
  obtain rfl : args = #[v0, v1] := by cases args; simp_all
  obtain ⟨rfl, rfl⟩ := trodVars_none hV
  have k0 := h0
  have lt0 : ∀ x ∈ p0, x.block < W.heap.size := by obtain ⟨m, hm⟩ := k0; exact DataW.trod_lt m _ _ _ hm
  obtain ⟨s0, a0, n0, c0, x0, rfl, l0, g0, y0, o0, b0, e0⟩ := arg_set (hval 0 26 v0 rfl rfl) h0 (fun k hk => by simpa using List.all_eq_true.1 hsz k (DataW.weights_mem_each (j := 0) rfl rfl k hk))
  have k1 := h1
  have lt1 : ∀ x ∈ p1, x.block < W.heap.size := by obtain ⟨m, hm⟩ := k1; exact DataW.trod_lt m _ _ _ hm
  obtain ⟨s1, a1, n1, c1, x1, rfl, l1, g1, y1, o1, b1, e1⟩ := arg_set (hval 1 26 v1 rfl rfl) h1 (fun k hk => by simpa using List.all_eq_true.1 hsz k (DataW.weights_mem_each (j := 1) rfl rfl k hk))
  clear hA0 hval0
  refine (bitPairs_walk s0 a0 n0 c0 x0 s1 a1 n1 c1 x1 W y0 o0 b0 e0 l0 g0 y1 o1 b1 e1 l1 g1).mono fun e W' ⟨he, bel⟩ => ?_
  subst he
  exact ⟨_, rfl, _, _, _, [], _, [], hW', trodAll_mk1 (shut_bool Try.underlying4 _), (trodAll_cons_mk (Below.trod law_laid (by kernel_rfl) (of_decide_eq_true (by kernel_rfl)) k0 bel lt0) (trodAll_cons_mk (Below.trod law_laid (by kernel_rfl) (of_decide_eq_true (by kernel_rfl)) k1 bel lt1) trodAll_mk0)), rfl, bel.frame _, fun h => by cases h⟩

theorem bitPairs_holds : Rows.BitPairsSaid :=
  OpenClaim.holds_of_wide 5 Try.f5 rfl rfl rfl rfl rfl rfl rfl ⟨rfl, rfl, rfl, rfl, rfl⟩ rfl rfl rfl rfl rfl (by kernel_rfl) Try.func5 (by kernel_rfl)
    (of_decide_eq_true (by kernel_rfl)) (by unfold Func.isWrapper; first | (rw [if_pos (by decide +kernel)]; kernel_rfl) | (rw [if_neg (by decide +kernel)]; exact ⟨rfl, rfl⟩))
    (fun os started H enc _ => bitPairs_lifted os started H enc)
#print axioms bitPairs_holds
end Go.Proofs.Ytbendkndnojihab
