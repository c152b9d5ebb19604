/-
  THE LAW BitProducts: out of the contracts; the row's step.
-/
import Derived.Test.YtbendkndnojihabDoorBl5
import Derived.Test.YtbendkndnojihabDoorBxa
import Derived.Test.YtbendkndnojihabDoorBth
import Derived.Test.YtbendkndnojihabDoorBt9
import Derived.Test.YtbendkndnojihabDoorBtv
import Derived.Test.YtbendkndnojihabDoorBty
import Derived.Test.YtbendkndnojihabDoorBv1
import Derived.Test.YtbendkndnojihabDoorCards
import Derived.Test.YtbendkndnojihabDoorTie
import Derived.SevenTiedAt
import Derived.LaidMore
import Derived.Stop.Joined
import Derived.Lib.LaidTab
namespace Go.Proofs.YtbendkndnojihabDoor
open Go.ChangeShapes Go.WideShapes Go.ChangeAt Go.RowKit Go.Deep
set_option linter.unusedVariables false

set_option maxRecDepth 100000 in
set_option maxHeartbeats 64000000 in
theorem bitProducts_walk (s_a : Int) (a_a : Option Addr) (n_a c_a : Nat) (x_a : List SetC) (s_b : Int) (a_b : Option Addr) (n_b c_b : Nat) (x_b : List SetC) (w : World) (h_a : SlS w a_a n_a c_a x_a) (o_a : ∀ e ∈ x_a, e.Arg) (b_a : n_a ≤ 4398046510976) (e_a : a_a = none → n_a = 0 ∧ c_a = 0) (hl_a : -9223372036854775808 ≤ s_a) (hh_a : s_a ≤ 9223372036854775807) (h_b : SlS w a_b n_b c_b x_b) (o_b : ∀ e ∈ x_b, e.Arg) (b_b : n_b ≤ 4398046510976) (e_b : a_b = none → n_b = 0 ∧ c_b = 0) (hl_b : -9223372036854775808 ≤ s_b) (hh_b : s_b ≤ 9223372036854775807) (hT : Tab64 w) :
    Calls Tryd.prog 6 #[setV s_a a_a n_a c_a, setV s_b a_b n_b c_b] w fun e w' => e = .returned (.bool true) ∧ Below w.heap.size w w' := by
  have A00 : Facts w w [] := ⟨Below.refl _ _, fun f hf => by cases hf⟩
  have A01 := A00.add (fS a_a n_a c_a x_a) h_a
  have L_a := hide h_a.len
  have hle_a := h_a.le
  have hcap_a := h_a.cap
  unfold maxLen at hcap_a
  have A02 := A01.add (fS a_b n_b c_b x_b) h_b
  have L_b := hide h_b.len
  have hle_b := h_b.le
  have hcap_b := h_b.cap
  unfold maxLen at hcap_b
  have A0 := hide A02
  have O_a := hide o_a
  have B_a := hide (And.intro hl_a hh_a)
  have O_b := hide o_b
  have B_b := hide (And.intro hl_b hh_b)
  have HT := hide hT
  clear hT
  obtain ⟨r1s, r1n, r1K, r1e, h1⟩ := prd_same s_a n_a x_a s_b n_b x_b h_a.len h_b.len (fun e he => (h_a.all e he).2) (fun e he => (h_b.all e he).2)
  have H1 := hide h1
  obtain ⟨r2s, r2n, r2K, r2e, h2⟩ := bo_same s_a n_a x_a h_a.len (fun e he => (h_a.all e he).2)
  have H2 := hide h2
  obtain ⟨r3s, r3n, r3K, r3e, h3⟩ := cl_same s_a n_a x_a h_a.len (fun e he => (h_a.all e he).2)
  have H3 := hide h3
  clear h1 h2 h3
  have q1 : (r1e == r1e) = true := by simp
  have q2 : (r2e == r2e) = true := by simp
  have q3 : (r3e == r3e) = true := by simp
  have p1 : (r1e != r1e) = false := by simp
  have p2 : (r2e != r2e) = false := by simp
  have p3 : (r3e != r3e) = false := by simp
  clear A00 A01 A02 h_a h_b o_a o_b e_a e_b hl_a hh_a hl_b hh_b
  unfold setV
  go_enter Tryd.func6, Tryd.ntmps6
  obtain ⟨w1, hw1⟩ : ∃ x, w.alloc (.cells #[.int .i64 s_a, .slice a_a n_a c_a] 24) = x := ⟨_, rfl⟩
  have Aw1 := hide ((unhide A0).box (.int .i64 s_a) (.slice a_a n_a c_a) 24)
  rw [hw1] at Aw1
  clear A0
  obtain ⟨w2, hw2⟩ : ∃ x, w1.alloc (.cells #[.int .i64 s_b, .slice a_b n_b c_b] 24) = x := ⟨_, rfl⟩
  have Aw2 := hide ((unhide Aw1).box (.int .i64 s_b) (.slice a_b n_b c_b) 24)
  rw [hw2] at Aw2
  clear Aw1
  have t3 := (unhide Aw2).t (w.heap.size) (.int .i64 s_a) (.slice a_a n_a c_a) (.tail _ (.head _))
  have t3a := t3.c0
  have t3b := t3.c1
  clear t3
  go_wp2_with fail
  clear t3a t3b
  refine (twins_any a_a n_a c_a x_a w2 ((unhide Aw2).ss (a_a) (n_a) c_a (x_a) (.tail _ (.tail _ (.tail _ (.head _))))) (unhide O_a) b_a).mono ?_
  rintro _ w4 ⟨g_k, k_k, t_k, rfl, hs, hb⟩
  have KY_k := hide (hs.key (unhide L_a))
  have Aw4 := hide (((unhide Aw2).step hb).add (fTw g_k k_k n_a x_a t_k) hs)
  clear Aw2 hs hb
  have t5 := (unhide Aw4).t (w1.heap.size) (.int .i64 s_b) (.slice a_b n_b c_b) (.tail _ (.head _))
  have t5a := t5.c0
  have t5b := t5.c1
  clear t5
  go_wp2_with fail
  clear t5a t5b
  refine (twins_any a_b n_b c_b x_b w4 ((unhide Aw4).ss (a_b) (n_b) c_b (x_b) (.tail _ (.tail _ (.tail _ (.head _))))) (unhide O_b) b_b).mono ?_
  rintro _ w6 ⟨g_l, k_l, t_l, rfl, hs, hb⟩
  have KY_l := hide (hs.key (unhide L_b))
  have Aw6 := hide (((unhide Aw4).step hb).add (fTw g_l k_l n_b x_b t_l) hs)
  clear Aw4 hs hb
  have t7 := (unhide Aw6).t (w.heap.size) (.int .i64 s_a) (.slice a_a n_a c_a) (.tail _ (.tail _ (.tail _ (.head _))))
  have t7a := t7.c0
  have t7b := t7.c1
  clear t7
  have t8 := (unhide Aw6).t (w1.heap.size) (.int .i64 s_b) (.slice a_b n_b c_b) (.tail _ (.tail _ (.head _)))
  have t8a := t8.c0
  have t8b := t8.c1
  clear t8
  obtain ⟨w9, hw9⟩ : ∃ x, w6.alloc (.cells #[.int .i64 s_a, .slice (some ⟨g_k, 0, none⟩) n_a k_k] 24) = x := ⟨_, rfl⟩
  have Aw9 := hide ((unhide Aw6).box (.int .i64 s_a) (.slice (some ⟨g_k, 0, none⟩) n_a k_k) 24)
  rw [hw9] at Aw9
  clear Aw6
  have t10 := (unhide Aw9).t (w.heap.size) (.int .i64 s_a) (.slice a_a n_a c_a) (.tail _ (.tail _ (.tail _ (.tail _ (.head _)))))
  have t10a := t10.c0
  have t10b := t10.c1
  clear t10
  have t11 := (unhide Aw9).t (w1.heap.size) (.int .i64 s_b) (.slice a_b n_b c_b) (.tail _ (.tail _ (.tail _ (.head _))))
  have t11a := t11.c0
  have t11b := t11.c1
  clear t11
  obtain ⟨w12, hw12⟩ : ∃ x, w9.alloc (.cells #[.int .i64 s_b, .slice (some ⟨g_l, 0, none⟩) n_b k_l] 24) = x := ⟨_, rfl⟩
  have Aw12 := hide ((unhide Aw9).box (.int .i64 s_b) (.slice (some ⟨g_l, 0, none⟩) n_b k_l) 24)
  rw [hw12] at Aw12
  clear Aw9
  have t13 := (unhide Aw12).t (w.heap.size) (.int .i64 s_a) (.slice a_a n_a c_a) (.tail _ (.tail _ (.tail _ (.tail _ (.tail _ (.head _))))))
  have t13a := t13.c0
  have t13b := t13.c1
  clear t13
  have t14 := (unhide Aw12).t (w1.heap.size) (.int .i64 s_b) (.slice a_b n_b c_b) (.tail _ (.tail _ (.tail _ (.tail _ (.head _)))))
  have t14a := t14.c0
  have t14b := t14.c1
  clear t14
  have t15 := (unhide Aw12).t (w6.heap.size) (.int .i64 s_a) (.slice (some ⟨g_k, 0, none⟩) n_a k_k) (.tail _ (.head _))
  have t15a := t15.c0
  have t15b := t15.c1
  clear t15
  have t16 := (unhide Aw12).t (w9.heap.size) (.int .i64 s_b) (.slice (some ⟨g_l, 0, none⟩) n_b k_l) (.head _)
  have t16a := t16.c0
  have t16b := t16.c1
  clear t16
  go_wp2_with fail
  clear t7a t7b t8a t8b t10a t10b t11a t11b t13a t13b t14a t14b t15a t15b t16a t16b
  have Kw17 := (unhide H1 w12 (some ⟨g_k, 0, none⟩) k_k t_k (some ⟨g_l, 0, none⟩) k_l t_l ((unhide Aw12).tw g_k k_k (n_a) x_a t_k (.tail _ (.tail _ (.tail _ (.head _))))).sl ((unhide Aw12).tw g_l k_l (n_b) x_b t_l (.tail _ (.tail _ (.head _)))).sl (unhide KY_k) (unhide KY_l) ((unhide HT).below (unhide Aw12).bel)).1
  try unfold setV at Kw17
  refine Kw17.mono ?_
  clear Kw17
  rintro _ w17 ⟨a_c, c_c, x_c, rfl, hs, hk, hb⟩
  have G_c := hide (hk)
  have hle_c := hs.le
  have hcap_c := hs.cap
  unfold maxLen at hcap_c
  have Aw17 := hide (((unhide Aw12).step hb).add (fS a_c (r1n) c_c x_c) hs)
  clear Aw12 hs hb hk
  unfold setV
  obtain ⟨w18, hw18⟩ : ∃ x, w17.alloc (.cells #[.int .i64 r1s, .slice a_c r1n c_c] 24) = x := ⟨_, rfl⟩
  have Aw18 := hide ((unhide Aw17).box (.int .i64 r1s) (.slice a_c r1n c_c) 24)
  rw [hw18] at Aw18
  clear Aw17
  have t19 := (unhide Aw18).t (w.heap.size) (.int .i64 s_a) (.slice a_a n_a c_a) (.tail _ (.tail _ (.tail _ (.tail _ (.tail _ (.tail _ (.tail _ (.head _))))))))
  have t19a := t19.c0
  have t19b := t19.c1
  clear t19
  have t20 := (unhide Aw18).t (w1.heap.size) (.int .i64 s_b) (.slice a_b n_b c_b) (.tail _ (.tail _ (.tail _ (.tail _ (.tail _ (.tail _ (.head _)))))))
  have t20a := t20.c0
  have t20b := t20.c1
  clear t20
  go_wp2_with fail
  clear t19a t19b t20a t20b
  have Kw21 := (unhide H1 w18 a_a c_a x_a a_b c_b x_b ((unhide Aw18).ss (a_a) (n_a) c_a (x_a) (.tail _ (.tail _ (.tail _ (.tail _ (.tail _ (.tail _ (.tail _ (.tail _ (.tail _ (.head _))))))))))) ((unhide Aw18).ss (a_b) (n_b) c_b (x_b) (.tail _ (.tail _ (.tail _ (.tail _ (.tail _ (.tail _ (.tail _ (.tail _ (.head _)))))))))) rfl rfl ((unhide HT).below (unhide Aw18).bel)).2
  try unfold setV at Kw21
  refine Kw21.mono ?_
  clear Kw21
  rintro _ w21 ⟨a_d, c_d, x_d, rfl, hs, hk, hb⟩
  have G_d := hide (hk)
  have hle_d := hs.le
  have hcap_d := hs.cap
  unfold maxLen at hcap_d
  have Aw21 := hide (((unhide Aw18).step hb).add (fS a_d (r1n) c_d x_d) hs)
  clear Aw18 hs hb hk
  unfold setV
  obtain ⟨w22, hw22⟩ : ∃ x, w21.alloc (.cells #[.int .i64 r1s, .slice a_d r1n c_d] 24) = x := ⟨_, rfl⟩
  have Aw22 := hide ((unhide Aw21).box (.int .i64 r1s) (.slice a_d r1n c_d) 24)
  rw [hw22] at Aw22
  clear Aw21
  have t23 := (unhide Aw22).t (w6.heap.size) (.int .i64 s_a) (.slice (some ⟨g_k, 0, none⟩) n_a k_k) (.tail _ (.tail _ (.tail _ (.tail _ (.tail _ (.head _))))))
  have t23a := t23.c0
  have t23b := t23.c1
  clear t23
  go_wp2_with fail
  clear t23a t23b
  have Kw24 := (unhide H2 w22 (some ⟨g_k, 0, none⟩) k_k t_k ((unhide Aw22).tw g_k k_k (n_a) x_a t_k (.tail _ (.tail _ (.tail _ (.tail _ (.tail _ (.tail _ (.tail _ (.head _))))))))).sl (unhide KY_k) ((unhide HT).below (unhide Aw22).bel)).1
  try unfold setV at Kw24
  refine Kw24.mono ?_
  clear Kw24
  rintro _ w24 ⟨a_g, c_g, x_g, rfl, hs, hk, hb⟩
  have G_g := hide (hk)
  have hle_g := hs.le
  have hcap_g := hs.cap
  unfold maxLen at hcap_g
  have Aw24 := hide (((unhide Aw22).step hb).add (fS a_g (r2n) c_g x_g) hs)
  clear Aw22 hs hb hk
  unfold setV
  obtain ⟨w25, hw25⟩ : ∃ x, w24.alloc (.cells #[.int .i64 r2s, .slice a_g r2n c_g] 24) = x := ⟨_, rfl⟩
  have Aw25 := hide ((unhide Aw24).box (.int .i64 r2s) (.slice a_g r2n c_g) 24)
  rw [hw25] at Aw25
  clear Aw24
  have t26 := (unhide Aw25).t (w.heap.size) (.int .i64 s_a) (.slice a_a n_a c_a) (.tail _ (.tail _ (.tail _ (.tail _ (.tail _ (.tail _ (.tail _ (.tail _ (.tail _ (.tail _ (.tail _ (.head _))))))))))))
  have t26a := t26.c0
  have t26b := t26.c1
  clear t26
  go_wp2_with fail
  clear t26a t26b
  have Kw27 := (unhide H2 w25 a_a c_a x_a ((unhide Aw25).ss (a_a) (n_a) c_a (x_a) (.tail _ (.tail _ (.tail _ (.tail _ (.tail _ (.tail _ (.tail _ (.tail _ (.tail _ (.tail _ (.tail _ (.tail _ (.tail _ (.head _))))))))))))))) rfl ((unhide HT).below (unhide Aw25).bel)).2
  try unfold setV at Kw27
  refine Kw27.mono ?_
  clear Kw27
  rintro _ w27 ⟨a_i, c_i, x_i, rfl, hs, hk, hb⟩
  have G_i := hide (hk)
  have hle_i := hs.le
  have hcap_i := hs.cap
  unfold maxLen at hcap_i
  have Aw27 := hide (((unhide Aw25).step hb).add (fS a_i (r2n) c_i x_i) hs)
  clear Aw25 hs hb hk
  unfold setV
  obtain ⟨w28, hw28⟩ : ∃ x, w27.alloc (.cells #[.int .i64 r2s, .slice a_i r2n c_i] 24) = x := ⟨_, rfl⟩
  have Aw28 := hide ((unhide Aw27).box (.int .i64 r2s) (.slice a_i r2n c_i) 24)
  rw [hw28] at Aw28
  clear Aw27
  have t29 := (unhide Aw28).t (w6.heap.size) (.int .i64 s_a) (.slice (some ⟨g_k, 0, none⟩) n_a k_k) (.tail _ (.tail _ (.tail _ (.tail _ (.tail _ (.tail _ (.tail _ (.tail _ (.tail _ (.head _))))))))))
  have t29a := t29.c0
  have t29b := t29.c1
  clear t29
  go_wp2_with fail
  clear t29a t29b
  have Kw30 := (unhide H3 w28 (some ⟨g_k, 0, none⟩) k_k t_k ((unhide Aw28).tw g_k k_k (n_a) x_a t_k (.tail _ (.tail _ (.tail _ (.tail _ (.tail _ (.tail _ (.tail _ (.tail _ (.tail _ (.tail _ (.tail _ (.head _))))))))))))).sl (unhide KY_k)).1
  try unfold setV at Kw30
  refine Kw30.mono ?_
  clear Kw30
  rintro _ w30 ⟨a_m, c_m, x_m, rfl, hs, hk, hb⟩
  have G_m := hide (hk)
  have hle_m := hs.le
  have hcap_m := hs.cap
  unfold maxLen at hcap_m
  have Aw30 := hide (((unhide Aw28).step hb).add (fS a_m (r3n) c_m x_m) hs)
  clear Aw28 hs hb hk
  unfold setV
  obtain ⟨w31, hw31⟩ : ∃ x, w30.alloc (.cells #[.int .i64 r3s, .slice a_m r3n c_m] 24) = x := ⟨_, rfl⟩
  have Aw31 := hide ((unhide Aw30).box (.int .i64 r3s) (.slice a_m r3n c_m) 24)
  rw [hw31] at Aw31
  clear Aw30
  have t32 := (unhide Aw31).t (w.heap.size) (.int .i64 s_a) (.slice a_a n_a c_a) (.tail _ (.tail _ (.tail _ (.tail _ (.tail _ (.tail _ (.tail _ (.tail _ (.tail _ (.tail _ (.tail _ (.tail _ (.tail _ (.tail _ (.tail _ (.head _))))))))))))))))
  have t32a := t32.c0
  have t32b := t32.c1
  clear t32
  go_wp2_with fail
  clear t32a t32b
  have Kw33 := (unhide H3 w31 a_a c_a x_a ((unhide Aw31).ss (a_a) (n_a) c_a (x_a) (.tail _ (.tail _ (.tail _ (.tail _ (.tail _ (.tail _ (.tail _ (.tail _ (.tail _ (.tail _ (.tail _ (.tail _ (.tail _ (.tail _ (.tail _ (.tail _ (.tail _ (.head _))))))))))))))))))) rfl).2
  try unfold setV at Kw33
  refine Kw33.mono ?_
  clear Kw33
  rintro _ w33 ⟨a_o, c_o, x_o, rfl, hs, hk, hb⟩
  have G_o := hide (hk)
  have hle_o := hs.le
  have hcap_o := hs.cap
  unfold maxLen at hcap_o
  have Aw33 := hide (((unhide Aw31).step hb).add (fS a_o (r3n) c_o x_o) hs)
  clear Aw31 hs hb hk
  unfold setV
  obtain ⟨w34, hw34⟩ : ∃ x, w33.alloc (.cells #[.int .i64 r3s, .slice a_o r3n c_o] 24) = x := ⟨_, rfl⟩
  have Aw34 := hide ((unhide Aw33).box (.int .i64 r3s) (.slice a_o r3n c_o) 24)
  rw [hw34] at Aw34
  clear Aw33
  have t35 := (unhide Aw34).t (w17.heap.size) (.int .i64 r1s) (.slice a_c r1n c_c) (.tail _ (.tail _ (.tail _ (.tail _ (.tail _ (.tail _ (.tail _ (.tail _ (.tail _ (.tail _ (.head _)))))))))))
  have t35a := t35.c0
  have t35b := t35.c1
  clear t35
  have t36 := (unhide Aw34).t (w21.heap.size) (.int .i64 r1s) (.slice a_d r1n c_d) (.tail _ (.tail _ (.tail _ (.tail _ (.tail _ (.tail _ (.tail _ (.tail _ (.head _)))))))))
  have t36a := t36.c0
  have t36b := t36.c1
  clear t36
  go_wp2_with fail
  clear t35a t35b t36a t36b
  have K := sameTable_eq r1s (a_c) (a_d) r1n c_c c_d x_c x_d w34 ((unhide Aw34).ss (a_c) (r1n) c_c (x_c) (.tail _ (.tail _ (.tail _ (.tail _ (.tail _ (.tail _ (.tail _ (.tail _ (.tail _ (.tail _ (.tail _ (.head _))))))))))))) ((unhide Aw34).ss (a_d) (r1n) c_d (x_d) (.tail _ (.tail _ (.tail _ (.tail _ (.tail _ (.tail _ (.tail _ (.tail _ (.tail _ (.head _))))))))))) ((unhide G_d).trans (unhide G_c).symm)
  try unfold setV at K
  refine K.mono ?_
  clear K
  rintro _ w37 ⟨rfl, hb⟩
  have Aw37 := hide ((unhide Aw34).step hb)
  clear Aw34 hb
  go_wp2_with fail
  refine (num_any r1e w37).mono ?_
  rintro _ w' ⟨rfl, hw⟩
  obtain rfl := hw.symm
  have t38 := (unhide Aw37).t (w24.heap.size) (.int .i64 r2s) (.slice a_g r2n c_g) (.tail _ (.tail _ (.tail _ (.tail _ (.tail _ (.tail _ (.head _)))))))
  have t38a := t38.c0
  have t38b := t38.c1
  clear t38
  have t39 := (unhide Aw37).t (w27.heap.size) (.int .i64 r2s) (.slice a_i r2n c_i) (.tail _ (.tail _ (.tail _ (.tail _ (.head _)))))
  have t39a := t39.c0
  have t39b := t39.c1
  clear t39
  go_wp2_with fail
  clear t38a t38b t39a t39b
  have K := sameTable_eq r2s (a_g) (a_i) r2n c_g c_i x_g x_i w37 ((unhide Aw37).ss (a_g) (r2n) c_g (x_g) (.tail _ (.tail _ (.tail _ (.tail _ (.tail _ (.tail _ (.tail _ (.head _))))))))) ((unhide Aw37).ss (a_i) (r2n) c_i (x_i) (.tail _ (.tail _ (.tail _ (.tail _ (.tail _ (.head _))))))) ((unhide G_i).trans (unhide G_g).symm)
  try unfold setV at K
  refine K.mono ?_
  clear K
  rintro _ w40 ⟨rfl, hb⟩
  have Aw40 := hide ((unhide Aw37).step hb)
  clear Aw37 hb
  go_wp2_with fail
  refine (num_any r2e w40).mono ?_
  rintro _ w' ⟨rfl, hw⟩
  obtain rfl := hw.symm
  have t41 := (unhide Aw40).t (w30.heap.size) (.int .i64 r3s) (.slice a_m r3n c_m) (.tail _ (.tail _ (.head _)))
  have t41a := t41.c0
  have t41b := t41.c1
  clear t41
  have t42 := (unhide Aw40).t (w33.heap.size) (.int .i64 r3s) (.slice a_o r3n c_o) (.head _)
  have t42a := t42.c0
  have t42b := t42.c1
  clear t42
  go_wp2_with fail
  clear t41a t41b t42a t42b
  have K := sameTable_eq r3s (a_m) (a_o) r3n c_m c_o x_m x_o w40 ((unhide Aw40).ss (a_m) (r3n) c_m (x_m) (.tail _ (.tail _ (.tail _ (.head _))))) ((unhide Aw40).ss (a_o) (r3n) c_o (x_o) (.tail _ (.head _))) ((unhide G_o).trans (unhide G_m).symm)
  try unfold setV at K
  refine K.mono ?_
  clear K
  rintro _ w43 ⟨rfl, hb⟩
  have Aw43 := hide ((unhide Aw40).step hb)
  clear Aw40 hb
  go_wp2_with fail
  refine (num_any r3e w43).mono ?_
  rintro _ w' ⟨rfl, hw⟩
  obtain rfl := hw.symm
  have t44 := (unhide Aw43).t (w.heap.size) (.int .i64 s_a) (.slice a_a n_a c_a) (.tail _ (.tail _ (.tail _ (.tail _ (.tail _ (.tail _ (.tail _ (.tail _ (.tail _ (.tail _ (.tail _ (.tail _ (.tail _ (.tail _ (.tail _ (.tail _ (.tail _ (.head _))))))))))))))))))
  have t44a := t44.c0
  have t44b := t44.c1
  clear t44
  go_wp2_with fail
  clear t44a t44b
  refine (keptAll_any g_k k_k a_a n_a c_a x_a t_k w43 ((unhide Aw43).tw g_k k_k (n_a) x_a t_k (.tail _ (.tail _ (.tail _ (.tail _ (.tail _ (.tail _ (.tail _ (.tail _ (.tail _ (.tail _ (.tail _ (.tail _ (.tail _ (.tail _ (.tail _ (.head _))))))))))))))))) ((unhide Aw43).ss (a_a) (n_a) c_a (x_a) (.tail _ (.tail _ (.tail _ (.tail _ (.tail _ (.tail _ (.tail _ (.tail _ (.tail _ (.tail _ (.tail _ (.tail _ (.tail _ (.tail _ (.tail _ (.tail _ (.tail _ (.tail _ (.tail _ (.head _)))))))))))))))))))))).mono ?_
  rintro _ w45 ⟨rfl, hb⟩
  have Aw45 := hide ((unhide Aw43).step hb)
  clear Aw43 hb
  have t46 := (unhide Aw45).t (w1.heap.size) (.int .i64 s_b) (.slice a_b n_b c_b) (.tail _ (.tail _ (.tail _ (.tail _ (.tail _ (.tail _ (.tail _ (.tail _ (.tail _ (.tail _ (.tail _ (.tail _ (.tail _ (.tail _ (.tail _ (.tail _ (.head _)))))))))))))))))
  have t46a := t46.c0
  have t46b := t46.c1
  clear t46
  go_wp2_with fail
  clear t46a t46b
  refine (keptAll_any g_l k_l a_b n_b c_b x_b t_l w45 ((unhide Aw45).tw g_l k_l (n_b) x_b t_l (.tail _ (.tail _ (.tail _ (.tail _ (.tail _ (.tail _ (.tail _ (.tail _ (.tail _ (.tail _ (.tail _ (.tail _ (.tail _ (.tail _ (.head _)))))))))))))))) ((unhide Aw45).ss (a_b) (n_b) c_b (x_b) (.tail _ (.tail _ (.tail _ (.tail _ (.tail _ (.tail _ (.tail _ (.tail _ (.tail _ (.tail _ (.tail _ (.tail _ (.tail _ (.tail _ (.tail _ (.tail _ (.tail _ (.tail _ (.head _))))))))))))))))))))).mono ?_
  rintro _ w47 ⟨rfl, hb⟩
  have Aw47 := hide ((unhide Aw45).step hb)
  clear Aw45 hb
  go_wp2_with fail
  go_ret
  exact ⟨rfl, (unhide Aw47).bel⟩

set_option maxRecDepth 100000 in
theorem bitProducts_door (os : Os) (args : Array Value) : laidMetH Tryd.prog [("math/bits.deBruijn64tab", Rows.laid_math_bits_deBruijn64tab)] ((World.doorLaid Tryd.prog 400 os).forCall (fun _ _ => 0) ⟨#[], args, []⟩).memory :=
  laidMetH_of_parts3 (fuel := 8) (laidMet_of_run' 8 (by kernel_rfl) (by kernel_rfl)) (by kernel_rfl) (by kernel_rfl)

set_option maxRecDepth 100000 in
theorem bitProducts_lifted (os : Os) (started : os.Started) (H : Type) (enc : TypeId × Value → H) :
    ReturnsInHanded {} Tryd.checked os 6 .any (fun w args => (Rows.bitProductsSpec.pre enc Tryd.prog Tryd.f6 [] false w args ∧ laidMetH Tryd.prog [("math/bits.deBruijn64tab", Rows.laid_math_bits_deBruijn64tab)] w) ∧ sizedMet enc Tryd.prog Tryd.f6 (OpenSpec.ofChange Rows.bitProductsSpec) false w args) (Rows.bitProductsSpec.post enc Tryd.prog Tryd.f6 false true false false) := by
  refine returnsInHanded_of_change_and (C := Tryd.checked) (X := fun w _ => laidMetH Tryd.prog [("math/bits.deBruijn64tab", Rows.laid_math_bits_deBruijn64tab)] w) (fun _ _ _ hh h => h.of_heap hh) law_own started (by kernel_rfl) Tryd.func6
    (ChangeSpec.witness_shaped (enc := enc) (C := Tryd.checked) (os := os) (X := fun w _ => laidMetH Tryd.prog [("math/bits.deBruijn64tab", Rows.laid_math_bits_deBruijn64tab)] w) false (World.doorLaid Tryd.prog 400 os) #[.agg #[.int .i64 0, .slice none 0 0], .agg #[.int .i64 0, .slice none 0 0]] 8 rfl (World.shaped_of_RefB (by kernel_rfl) (by kernel_rfl)) (by kernel_rfl) (by kernel_rfl) (by kernel_rfl) (bitProducts_door os _)) ?_
  intro W base args ds gs before hval0 hW hcnd hsz hL _
  have hval : ∀ (j : Nat) t v, Tryd.f6.params[j]? = some t → args[j]? = some v → Value.okWide Tryd.prog W .any base t v := hval0
  have hW' := hW
  obtain ⟨p, q, hA0, hV, rfl, hfz, hnd⟩ := hW
  have hA : DataW.TrodAll enc Tryd.prog W 0 (fun _ => true) true Tryd.f6.params.toList args.toList ds p := hA0
  rw [Tryd.params6] at hA hval hsz
  obtain ⟨v0, vs0, d0, ds0, p0, q0, hargs, rfl, rfl, h0, r0⟩ := trodAll_cons hA
  obtain ⟨v1, vs1, d1, ds1, p1, q1, rfl, rfl, rfl, h1, r1⟩ := trodAll_cons r0
  obtain ⟨rfl, rfl, rfl⟩ := trodAll_nil r1
  obtain rfl : args = #[v0, v1] := by cases args; simp_all
  obtain ⟨rfl, rfl⟩ := trodVars_none hV
  have k0 := h0
  have lt0 : ∀ x ∈ p0, x.block < W.heap.size := by obtain ⟨m, hm⟩ := k0; exact DataW.trod_lt m _ _ _ hm
  obtain ⟨s0, a0, n0, c0, x0, rfl, l0, g0, y0, o0, b0, e0⟩ := arg_table (hval 0 24 v0 rfl rfl) h0 (fun k hk => by simpa using List.all_eq_true.1 hsz k (DataW.weights_mem_each (j := 0) rfl rfl k hk))
  have k1 := h1
  have lt1 : ∀ x ∈ p1, x.block < W.heap.size := by obtain ⟨m, hm⟩ := k1; exact DataW.trod_lt m _ _ _ hm
  obtain ⟨s1, a1, n1, c1, x1, rfl, l1, g1, y1, o1, b1, e1⟩ := arg_table (hval 1 24 v1 rfl rfl) h1 (fun k hk => by simpa using List.all_eq_true.1 hsz k (DataW.weights_mem_each (j := 1) rfl rfl k hk))
  clear hA0 hval0
  have hT : Tab64 W := by
    rw [MakeChecks.laidMetH_plain _ _ _ (by kernel_rfl)] at hL
    have hI := Lib.tabIs_of_head (k := .u8) (zs := tab64) (rest := []) (show Tryd.prog.globalNamed "math/bits.deBruijn64tab" = some 0 by kernel_rfl) (show (Tryd.prog.globals[0]?).map (·.type) = some 115 by kernel_rfl) Tryd.underlying115 Tryd.underlying5 (by kernel_rfl) (by kernel_rfl) hL
    intro j hj
    exact hI.cell (by kernel_rfl) j hj
  refine (bitProducts_walk s0 a0 n0 c0 x0 s1 a1 n1 c1 x1 W y0 o0 b0 e0 l0 g0 y1 o1 b1 e1 l1 g1 hT).mono fun e W' ⟨he, bel⟩ => ?_
  subst he
  exact ⟨_, rfl, _, _, _, [], _, [], hW', trodAll_mk1 (shut_bool Tryd.underlying4 _), (trodAll_cons_mk (Below.trod law_laid (by kernel_rfl) (of_decide_eq_true (by kernel_rfl)) k0 bel lt0) (trodAll_cons_mk (Below.trod law_laid (by kernel_rfl) (of_decide_eq_true (by kernel_rfl)) k1 bel lt1) trodAll_mk0)), rfl, bel.frame _, fun h => by cases h⟩

theorem bitProducts_row : Rows.BitProductsSaid :=
  OpenClaim.holds_of_wide 6 Tryd.f6 rfl rfl rfl rfl rfl rfl rfl ⟨rfl, rfl, rfl, rfl, rfl⟩ rfl rfl rfl rfl rfl (by kernel_rfl) Tryd.func6 (by kernel_rfl)
    (of_decide_eq_true (by kernel_rfl)) (by unfold Func.isWrapper; first | (rw [if_pos (by decide +kernel)]; kernel_rfl) | (rw [if_neg (by decide +kernel)]; exact ⟨rfl, rfl⟩))
    (fun os started H enc _ => bitProducts_lifted os started H enc)

theorem bitProducts_holds : Rows.BitProductsCardSaid :=
  Claim7.holds_tied_plain_at .later [] [.data] true Rows.bitProductsCard.stood.harness false
    bitProducts_row (fun _ h => by cases h) (by kernel_rfl) (fun _ h => by cases h) bitProducts_row_tie rfl ⟨rfl, rfl⟩ (by kernel_rfl) rfl
    (fun f fn hf hfn => by
      obtain rfl : f = 6 := Option.some.inj ((show Tryd.prog.funcNamed "slope/slopelaw3.BitProducts" = some 6 by kernel_rfl).symm.trans hf) |>.symm
      obtain rfl : fn = Tryd.f6 := (Option.some.inj (Tryd.func6.symm.trans hfn)).symm
      exact ⟨by kernel_rfl, fun j t ht => by
        rw [Tryd.params6] at ht
        have hm : t ∈ [24, 24] := by simpa using Array.mem_of_getElem? ht
        have hall : ([24, 24].all fun u => !Tryd.prog.wantsStandIn u) = true := by kernel_rfl
        exact (show Tryd.prog.wantsStandIn t = false by simpa using List.all_eq_true.1 hall t hm)⟩)
    (by kernel_rfl)
#print axioms bitProducts_holds
end Go.Proofs.YtbendkndnojihabDoor
