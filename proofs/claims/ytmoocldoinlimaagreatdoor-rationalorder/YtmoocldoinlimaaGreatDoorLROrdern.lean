/-
  THE LAW RationalOrder: out of the contracts; the row's step.
-/
import Derived.Test.YtmoocldoinlimaaGreatDoorRl5
import Derived.Test.YtmoocldoinlimaaGreatDoorWic
namespace Go.Proofs.YtmoocldoinlimaaGreatDoor
open Go.ChangeShapes Go.WideShapes Go.ChangeAt Go.RowKit Go.Deep
set_option linter.unusedVariables false

set_option maxRecDepth 100000 in
set_option maxHeartbeats 64000000 in
theorem rationalOrder_yn (g_a : Bool) (a_a : Option Addr) (n_a c_a : Nat) (x_a : List Nat) (b_a : Option Addr) (m_a d_a : Nat) (y_a : List Nat) (g_b : Bool) (a_b : Option Addr) (n_b c_b : Nat) (x_b : List Nat) (b_b : Option Addr) (m_b d_b : Nat) (y_b : List Nat) (g_c : Bool) (a_c : Option Addr) (n_c c_c : Nat) (x_c : List Nat) (b_c : Option Addr) (m_c d_c : Nat) (y_c : List Nat) (w : World) (hx_a : Sl w a_a n_a c_a x_a) (hy_a : Sl w b_a m_a d_a y_a) (ox_a : Ok x_a) (oy_a : Ok y_a) (hx_b : Sl w a_b n_b c_b x_b) (hy_b : Sl w b_b m_b d_b y_b) (ox_b : Ok x_b) (oy_b : Ok y_b) (hx_c : Sl w a_c n_c c_c x_c) (hy_c : Sl w b_c m_c d_c y_c) (ox_c : Ok x_c) (oy_c : Ok y_c) (hT : Tab64 w) (k_a : MayR g_a x_a y_a = true) (k_b : MayR g_b x_b y_b = true) (k_c : MayR g_c x_c y_c = true) (hab : CmpF g_a x_a y_a g_b x_b y_b = -1) :
    Calls Tryz.prog 3 #[ratV g_a a_a n_a c_a b_a m_a d_a, ratV g_b a_b n_b c_b b_b m_b d_b, ratV g_c a_c n_c c_c b_c m_c d_c] w fun e w' => e = .returned (.bool true) ∧ Below w.heap.size w w' := by
  have A00 : Fcts w w [fTab] := ⟨Below.refl _ _, fun f hf => by simp at hf; subst hf; exact hT⟩
  have A01 := A00.add (fN a_a n_a c_a x_a b_a m_a d_a y_a) ⟨hx_a, hy_a⟩
  have O_a := hide (And.intro ox_a oy_a)
  have A02 := A01.add (fN a_b n_b c_b x_b b_b m_b d_b y_b) ⟨hx_b, hy_b⟩
  have O_b := hide (And.intro ox_b oy_b)
  have A03 := A02.add (fN a_c n_c c_c x_c b_c m_c d_c y_c) ⟨hx_c, hy_c⟩
  have O_c := hide (And.intro ox_c oy_c)
  have A0 := hide A03
  have HBA := hide (show CmpF g_b x_b y_b g_a x_a y_a = 1 by have h := order_neg k_a k_b; rw [hab] at h; exact h.trans (by decide))
  have HAA := hide (order_self k_a)
  have HSM := hide (show sameR g_a x_a y_a g_b x_b y_b = false by rw [order_same ox_a oy_a ox_b oy_b k_a k_b, hab]; rfl)
  obtain ⟨bc, hbc2⟩ : ∃ r, CmpF g_b x_b y_b g_c x_c y_c = r := ⟨_, rfl⟩
  obtain ⟨ac, hac2⟩ : ∃ r, CmpF g_a x_a y_a g_c x_c y_c = r := ⟨_, rfl⟩
  have HTR := hide (show bc ≤ 0 → ac ≤ 0 from fun h => by rw [← hac2]; exact order_trans k_a k_b k_c (by rw [hab]; decide) (by rw [hbc2]; exact h))
  have HAC := hide hac2
  clear hac2
  have HBC := hide hbc2
  clear hbc2
  obtain ⟨⟨⟨g_d, x_d, y_d⟩, e_d⟩, hd⟩ : ∃ r, SubF g_a x_a y_a g_b x_b y_b = r := ⟨_, rfl⟩
  have O_d := hide (show Ok x_d ∧ Ok y_d by have := subF_lists (g1 := g_a) (x1 := x_a) (y1 := y_a) (g2 := g_b) (x2 := x_b) (y2 := y_b); rw [hd] at this; exact this)
  have HSD := hide (show e_d = 0 → SignF g_d x_d y_d = -1 from fun h => by subst h; rw [order_sub k_a k_b hd, hab])
  have HD := hide hd
  clear hd
  obtain ⟨⟨⟨g_x, x_x, y_x⟩, e_x⟩, hx⟩ : ∃ r, AddF g_a x_a y_a g_c x_c y_c = r := ⟨_, rfl⟩
  have O_x := hide (show Ok x_x ∧ Ok y_x by have := addF_lists (g1 := g_a) (x1 := x_a) (y1 := y_a) (g2 := g_c) (x2 := x_c) (y2 := y_c); rw [hx] at this; exact this)
  obtain ⟨⟨⟨g_y, x_y, y_y⟩, e_y⟩, hy⟩ : ∃ r, AddF g_b x_b y_b g_c x_c y_c = r := ⟨_, rfl⟩
  have O_y := hide (show Ok x_y ∧ Ok y_y by have := addF_lists (g1 := g_b) (x1 := x_b) (y1 := y_b) (g2 := g_c) (x2 := x_c) (y2 := y_c); rw [hy] at this; exact this)
  obtain ⟨⟨⟨g_u, x_u, y_u⟩, e_u⟩, hu⟩ : ∃ r, MulF g_a x_a y_a g_c x_c y_c = r := ⟨_, rfl⟩
  have O_u := hide (show Ok x_u ∧ Ok y_u by have := mulF_lists (g1 := g_a) (x1 := x_a) (y1 := y_a) (g2 := g_c) (x2 := x_c) (y2 := y_c); rw [hu] at this; exact this)
  obtain ⟨⟨⟨g_v, x_v, y_v⟩, e_v⟩, hv⟩ : ∃ r, MulF g_b x_b y_b g_c x_c y_c = r := ⟨_, rfl⟩
  have O_v := hide (show Ok x_v ∧ Ok y_v by have := mulF_lists (g1 := g_b) (x1 := x_b) (y1 := y_b) (g2 := g_c) (x2 := x_c) (y2 := y_c); rw [hv] at this; exact this)
  have HXY := hide (show e_x = 0 → e_y = 0 → CmpF g_x x_x y_x g_y x_y y_y = -1 from fun h1 h2 => by subst h1 h2; rw [order_add k_a k_b k_c hx hy, hab])
  obtain ⟨sc, hsc⟩ : ∃ r, SignF g_c x_c y_c = r := ⟨_, rfl⟩
  have HUV := hide (show e_u = 0 → e_v = 0 → CmpF g_u x_u y_u g_v x_v y_v = -1 * sc from fun h1 h2 => by subst h1 h2; rw [order_mul k_a k_b k_c hu hv, hab, hsc])
  have HS1 := hide (show sc = -1 ∨ sc = 0 ∨ sc = 1 by rw [← hsc]; exact order_sone k_c)
  have HSC := hide hsc
  have HX := hide hx
  have HY := hide hy
  have HU := hide hu
  have HV := hide hv
  have HAB := hide hab
  have M_a := hide k_a
  have M_b := hide k_b
  have M_c := hide k_c
  clear hsc hx hy hu hv hab k_a k_b k_c
  clear A00 hT hx_a hy_a A01 ox_a oy_a hx_b hy_b A02 ox_b oy_b hx_c hy_c A03 ox_c oy_c
  unfold ratV
  obtain ⟨w1, hw1⟩ : ∃ x, w.alloc (.cells #[.bool g_a, .slice a_a n_a c_a, .slice b_a m_a d_a] 25) = x := ⟨_, rfl⟩
  have Aw1 := hide ((unhide A0).box (.bool g_a) (.slice a_a n_a c_a) (.slice b_a m_a d_a) 25)
  rw [hw1] at Aw1
  clear A0
  obtain ⟨w2, hw2⟩ : ∃ x, w1.alloc (.cells #[.bool g_b, .slice a_b n_b c_b, .slice b_b m_b d_b] 25) = x := ⟨_, rfl⟩
  have Aw2 := hide ((unhide Aw1).box (.bool g_b) (.slice a_b n_b c_b) (.slice b_b m_b d_b) 25)
  rw [hw2] at Aw2
  clear Aw1
  obtain ⟨w3, hw3⟩ : ∃ x, w2.alloc (.cells #[.bool g_c, .slice a_c n_c c_c, .slice b_c m_c d_c] 25) = x := ⟨_, rfl⟩
  have Aw3 := hide ((unhide Aw2).box (.bool g_c) (.slice a_c n_c c_c) (.slice b_c m_c d_c) 25)
  rw [hw3] at Aw3
  clear Aw2
  go_enter Tryz.func3, Tryz.ntmps3
  have t4 := (unhide Aw3).r (w.heap.size) (.bool g_a) (.slice a_a n_a c_a) (.slice b_a m_a d_a) (.tail _ (.tail _ (.head _)))
  have t4a := t4.c0
  have t4b := t4.c1
  have t4c := t4.c2
  clear t4
  go_wp2_with fail
  clear t4a t4b t4c
  have K := ratMay_any g_a (a_a) (b_a) n_a c_a m_a d_a (x_a) (y_a) w3 ((unhide Aw3).n (a_a) n_a c_a (x_a) (b_a) m_a d_a (y_a) (.tail _ (.tail _ (.tail _ (.tail _ (.tail _ (.head _))))))).num ((unhide Aw3).n (a_a) n_a c_a (x_a) (b_a) m_a d_a (y_a) (.tail _ (.tail _ (.tail _ (.tail _ (.tail _ (.head _))))))).den (unhide O_a).1 (unhide O_a).2 ((unhide Aw3).tab (.tail _ (.tail _ (.tail _ (.tail _ (.tail _ (.tail _ (.head _))))))))
  rw [unhide M_a] at K
  try unfold ratV at K
  refine K.mono ?_
  clear K
  rintro _ w5 ⟨rfl, hb⟩
  have Aw5 := hide ((unhide Aw3).step hb)
  clear Aw3 hb
  have t6 := (unhide Aw5).r (w1.heap.size) (.bool g_b) (.slice a_b n_b c_b) (.slice b_b m_b d_b) (.tail _ (.head _))
  have t6a := t6.c0
  have t6b := t6.c1
  have t6c := t6.c2
  clear t6
  go_wp2_with fail
  clear t6a t6b t6c
  have K := ratMay_any g_b (a_b) (b_b) n_b c_b m_b d_b (x_b) (y_b) w5 ((unhide Aw5).n (a_b) n_b c_b (x_b) (b_b) m_b d_b (y_b) (.tail _ (.tail _ (.tail _ (.tail _ (.head _)))))).num ((unhide Aw5).n (a_b) n_b c_b (x_b) (b_b) m_b d_b (y_b) (.tail _ (.tail _ (.tail _ (.tail _ (.head _)))))).den (unhide O_b).1 (unhide O_b).2 ((unhide Aw5).tab (.tail _ (.tail _ (.tail _ (.tail _ (.tail _ (.tail _ (.head _))))))))
  rw [unhide M_b] at K
  try unfold ratV at K
  refine K.mono ?_
  clear K
  rintro _ w7 ⟨rfl, hb⟩
  have Aw7 := hide ((unhide Aw5).step hb)
  clear Aw5 hb
  have t8 := (unhide Aw7).r (w2.heap.size) (.bool g_c) (.slice a_c n_c c_c) (.slice b_c m_c d_c) (.head _)
  have t8a := t8.c0
  have t8b := t8.c1
  have t8c := t8.c2
  clear t8
  go_wp2_with fail
  clear t8a t8b t8c
  have K := ratMay_any g_c (a_c) (b_c) n_c c_c m_c d_c (x_c) (y_c) w7 ((unhide Aw7).n (a_c) n_c c_c (x_c) (b_c) m_c d_c (y_c) (.tail _ (.tail _ (.tail _ (.head _))))).num ((unhide Aw7).n (a_c) n_c c_c (x_c) (b_c) m_c d_c (y_c) (.tail _ (.tail _ (.tail _ (.head _))))).den (unhide O_c).1 (unhide O_c).2 ((unhide Aw7).tab (.tail _ (.tail _ (.tail _ (.tail _ (.tail _ (.tail _ (.head _))))))))
  rw [unhide M_c] at K
  try unfold ratV at K
  refine K.mono ?_
  clear K
  rintro _ w9 ⟨rfl, hb⟩
  have Aw9 := hide ((unhide Aw7).step hb)
  clear Aw7 hb
  go_wp2_with fail
  have K := ralive_any w9 ((unhide Aw9).tab (.tail _ (.tail _ (.tail _ (.tail _ (.tail _ (.tail _ (.head _))))))))
  try unfold ratV at K
  refine K.mono ?_
  clear K
  rintro _ w10 ⟨rfl, hb⟩
  have Aw10 := hide ((unhide Aw9).step hb)
  clear Aw9 hb
  have t11 := (unhide Aw10).r (w.heap.size) (.bool g_a) (.slice a_a n_a c_a) (.slice b_a m_a d_a) (.tail _ (.tail _ (.head _)))
  have t11a := t11.c0
  have t11b := t11.c1
  have t11c := t11.c2
  clear t11
  have t12 := (unhide Aw10).r (w1.heap.size) (.bool g_b) (.slice a_b n_b c_b) (.slice b_b m_b d_b) (.tail _ (.head _))
  have t12a := t12.c0
  have t12b := t12.c1
  have t12c := t12.c2
  clear t12
  go_wp2_with fail
  clear t11a t11b t11c t12a t12b t12c
  have K := ratCmp_any g_a g_b (a_a) (b_a) (a_b) (b_b) n_a c_a m_a d_a n_b c_b m_b d_b (x_a) (y_a) (x_b) (y_b) w10 ((unhide Aw10).n (a_a) n_a c_a (x_a) (b_a) m_a d_a (y_a) (.tail _ (.tail _ (.tail _ (.tail _ (.tail _ (.head _))))))).num ((unhide Aw10).n (a_a) n_a c_a (x_a) (b_a) m_a d_a (y_a) (.tail _ (.tail _ (.tail _ (.tail _ (.tail _ (.head _))))))).den ((unhide Aw10).n (a_b) n_b c_b (x_b) (b_b) m_b d_b (y_b) (.tail _ (.tail _ (.tail _ (.tail _ (.head _)))))).num ((unhide Aw10).n (a_b) n_b c_b (x_b) (b_b) m_b d_b (y_b) (.tail _ (.tail _ (.tail _ (.tail _ (.head _)))))).den (unhide O_a).1 (unhide O_a).2 (unhide O_b).1 (unhide O_b).2 ((unhide Aw10).tab (.tail _ (.tail _ (.tail _ (.tail _ (.tail _ (.tail _ (.head _))))))))
  rw [unhide HAB] at K
  try unfold ratV at K
  refine K.mono ?_
  clear K
  rintro _ w13 ⟨rfl, hb⟩
  have Aw13 := hide ((unhide Aw10).step hb)
  clear Aw10 hb
  have t14 := (unhide Aw13).r (w1.heap.size) (.bool g_b) (.slice a_b n_b c_b) (.slice b_b m_b d_b) (.tail _ (.head _))
  have t14a := t14.c0
  have t14b := t14.c1
  have t14c := t14.c2
  clear t14
  have t15 := (unhide Aw13).r (w2.heap.size) (.bool g_c) (.slice a_c n_c c_c) (.slice b_c m_c d_c) (.head _)
  have t15a := t15.c0
  have t15b := t15.c1
  have t15c := t15.c2
  clear t15
  go_wp2_with fail
  clear t14a t14b t14c t15a t15b t15c
  have K := ratCmp_any g_b g_c (a_b) (b_b) (a_c) (b_c) n_b c_b m_b d_b n_c c_c m_c d_c (x_b) (y_b) (x_c) (y_c) w13 ((unhide Aw13).n (a_b) n_b c_b (x_b) (b_b) m_b d_b (y_b) (.tail _ (.tail _ (.tail _ (.tail _ (.head _)))))).num ((unhide Aw13).n (a_b) n_b c_b (x_b) (b_b) m_b d_b (y_b) (.tail _ (.tail _ (.tail _ (.tail _ (.head _)))))).den ((unhide Aw13).n (a_c) n_c c_c (x_c) (b_c) m_c d_c (y_c) (.tail _ (.tail _ (.tail _ (.head _))))).num ((unhide Aw13).n (a_c) n_c c_c (x_c) (b_c) m_c d_c (y_c) (.tail _ (.tail _ (.tail _ (.head _))))).den (unhide O_b).1 (unhide O_b).2 (unhide O_c).1 (unhide O_c).2 ((unhide Aw13).tab (.tail _ (.tail _ (.tail _ (.tail _ (.tail _ (.tail _ (.head _))))))))
  rw [unhide HBC] at K
  try unfold ratV at K
  refine K.mono ?_
  clear K
  rintro _ w16 ⟨rfl, hb⟩
  have Aw16 := hide ((unhide Aw13).step hb)
  clear Aw13 hb
  have t17 := (unhide Aw16).r (w.heap.size) (.bool g_a) (.slice a_a n_a c_a) (.slice b_a m_a d_a) (.tail _ (.tail _ (.head _)))
  have t17a := t17.c0
  have t17b := t17.c1
  have t17c := t17.c2
  clear t17
  have t18 := (unhide Aw16).r (w1.heap.size) (.bool g_b) (.slice a_b n_b c_b) (.slice b_b m_b d_b) (.tail _ (.head _))
  have t18a := t18.c0
  have t18b := t18.c1
  have t18c := t18.c2
  clear t18
  go_wp2_with fail
  clear t17a t17b t17c t18a t18b t18c
  have K := ratCmp_any g_b g_a (a_b) (b_b) (a_a) (b_a) n_b c_b m_b d_b n_a c_a m_a d_a (x_b) (y_b) (x_a) (y_a) w16 ((unhide Aw16).n (a_b) n_b c_b (x_b) (b_b) m_b d_b (y_b) (.tail _ (.tail _ (.tail _ (.tail _ (.head _)))))).num ((unhide Aw16).n (a_b) n_b c_b (x_b) (b_b) m_b d_b (y_b) (.tail _ (.tail _ (.tail _ (.tail _ (.head _)))))).den ((unhide Aw16).n (a_a) n_a c_a (x_a) (b_a) m_a d_a (y_a) (.tail _ (.tail _ (.tail _ (.tail _ (.tail _ (.head _))))))).num ((unhide Aw16).n (a_a) n_a c_a (x_a) (b_a) m_a d_a (y_a) (.tail _ (.tail _ (.tail _ (.tail _ (.tail _ (.head _))))))).den (unhide O_b).1 (unhide O_b).2 (unhide O_a).1 (unhide O_a).2 ((unhide Aw16).tab (.tail _ (.tail _ (.tail _ (.tail _ (.tail _ (.tail _ (.head _))))))))
  rw [unhide HBA] at K
  try unfold ratV at K
  refine K.mono ?_
  clear K
  rintro _ w19 ⟨rfl, hb⟩
  have Aw19 := hide ((unhide Aw16).step hb)
  clear Aw16 hb
  have t20 := (unhide Aw19).r (w.heap.size) (.bool g_a) (.slice a_a n_a c_a) (.slice b_a m_a d_a) (.tail _ (.tail _ (.head _)))
  have t20a := t20.c0
  have t20b := t20.c1
  have t20c := t20.c2
  clear t20
  go_wp2_with fail
  clear t20a t20b t20c
  have K := ratCmp_any g_a g_a (a_a) (b_a) (a_a) (b_a) n_a c_a m_a d_a n_a c_a m_a d_a (x_a) (y_a) (x_a) (y_a) w19 ((unhide Aw19).n (a_a) n_a c_a (x_a) (b_a) m_a d_a (y_a) (.tail _ (.tail _ (.tail _ (.tail _ (.tail _ (.head _))))))).num ((unhide Aw19).n (a_a) n_a c_a (x_a) (b_a) m_a d_a (y_a) (.tail _ (.tail _ (.tail _ (.tail _ (.tail _ (.head _))))))).den ((unhide Aw19).n (a_a) n_a c_a (x_a) (b_a) m_a d_a (y_a) (.tail _ (.tail _ (.tail _ (.tail _ (.tail _ (.head _))))))).num ((unhide Aw19).n (a_a) n_a c_a (x_a) (b_a) m_a d_a (y_a) (.tail _ (.tail _ (.tail _ (.tail _ (.tail _ (.head _))))))).den (unhide O_a).1 (unhide O_a).2 (unhide O_a).1 (unhide O_a).2 ((unhide Aw19).tab (.tail _ (.tail _ (.tail _ (.tail _ (.tail _ (.tail _ (.head _))))))))
  rw [unhide HAA] at K
  try unfold ratV at K
  refine K.mono ?_
  clear K
  rintro _ w21 ⟨rfl, hb⟩
  have Aw21 := hide ((unhide Aw19).step hb)
  clear Aw19 hb
  have t22 := (unhide Aw21).r (w.heap.size) (.bool g_a) (.slice a_a n_a c_a) (.slice b_a m_a d_a) (.tail _ (.tail _ (.head _)))
  have t22a := t22.c0
  have t22b := t22.c1
  have t22c := t22.c2
  clear t22
  have t23 := (unhide Aw21).r (w1.heap.size) (.bool g_b) (.slice a_b n_b c_b) (.slice b_b m_b d_b) (.tail _ (.head _))
  have t23a := t23.c0
  have t23b := t23.c1
  have t23c := t23.c2
  clear t23
  go_wp2_with fail
  clear t22a t22b t22c t23a t23b t23c
  have K := sameRat_any g_a g_b (a_a) (b_a) (a_b) (b_b) n_a c_a m_a d_a n_b c_b m_b d_b (x_a) (y_a) (x_b) (y_b) w21 ((unhide Aw21).n (a_a) n_a c_a (x_a) (b_a) m_a d_a (y_a) (.tail _ (.tail _ (.tail _ (.tail _ (.tail _ (.head _))))))).num ((unhide Aw21).n (a_a) n_a c_a (x_a) (b_a) m_a d_a (y_a) (.tail _ (.tail _ (.tail _ (.tail _ (.tail _ (.head _))))))).den ((unhide Aw21).n (a_b) n_b c_b (x_b) (b_b) m_b d_b (y_b) (.tail _ (.tail _ (.tail _ (.tail _ (.head _)))))).num ((unhide Aw21).n (a_b) n_b c_b (x_b) (b_b) m_b d_b (y_b) (.tail _ (.tail _ (.tail _ (.tail _ (.head _)))))).den
  rw [unhide HSM] at K
  try unfold ratV at K
  refine K.mono ?_
  clear K
  rintro _ w24 ⟨rfl, hb⟩
  have Aw24 := hide ((unhide Aw21).step hb)
  clear Aw21 hb
  clear HBA HAA HSM HAB M_a M_b M_c HBC
  by_cases hbc : bc ≤ 0
  focus
    have hac := unhide HTR hbc
    have hac3 : ¬ 0 < ac := by omega
    clear hac HTR
    have t25 := (unhide Aw24).r (w.heap.size) (.bool g_a) (.slice a_a n_a c_a) (.slice b_a m_a d_a) (.tail _ (.tail _ (.head _)))
    have t25a := t25.c0
    have t25b := t25.c1
    have t25c := t25.c2
    clear t25
    have t26 := (unhide Aw24).r (w2.heap.size) (.bool g_c) (.slice a_c n_c c_c) (.slice b_c m_c d_c) (.head _)
    have t26a := t26.c0
    have t26b := t26.c1
    have t26c := t26.c2
    clear t26
    go_wp2_with fail
    clear t25a t25b t25c t26a t26b t26c
    have K := ratCmp_any g_a g_c (a_a) (b_a) (a_c) (b_c) n_a c_a m_a d_a n_c c_c m_c d_c (x_a) (y_a) (x_c) (y_c) w24 ((unhide Aw24).n (a_a) n_a c_a (x_a) (b_a) m_a d_a (y_a) (.tail _ (.tail _ (.tail _ (.tail _ (.tail _ (.head _))))))).num ((unhide Aw24).n (a_a) n_a c_a (x_a) (b_a) m_a d_a (y_a) (.tail _ (.tail _ (.tail _ (.tail _ (.tail _ (.head _))))))).den ((unhide Aw24).n (a_c) n_c c_c (x_c) (b_c) m_c d_c (y_c) (.tail _ (.tail _ (.tail _ (.head _))))).num ((unhide Aw24).n (a_c) n_c c_c (x_c) (b_c) m_c d_c (y_c) (.tail _ (.tail _ (.tail _ (.head _))))).den (unhide O_a).1 (unhide O_a).2 (unhide O_c).1 (unhide O_c).2 ((unhide Aw24).tab (.tail _ (.tail _ (.tail _ (.tail _ (.tail _ (.tail _ (.head _))))))))
    rw [unhide HAC] at K
    try unfold ratV at K
    refine K.mono ?_
    clear K
    rintro _ w27 ⟨rfl, hb⟩
    have Aw27 := hide ((unhide Aw24).step hb)
    clear Aw24 hb
    obtain ⟨wM1, hwM⟩ : ∃ x, x = w27 := ⟨_, rfl⟩
    subst hwM
    have AM1 := Aw27
    clear Aw27
  rotate_left
  focus
    clear HTR
    obtain ⟨wM1, hwM⟩ : ∃ x, x = w24 := ⟨_, rfl⟩
    subst hwM
    have AM1 := Aw24
    clear Aw24
  rotate_left
  all_goals
    have t28 := (unhide AM1).r (w.heap.size) (.bool g_a) (.slice a_a n_a c_a) (.slice b_a m_a d_a) (.tail _ (.tail _ (.head _)))
    have t28a := t28.c0
    have t28b := t28.c1
    have t28c := t28.c2
    clear t28
    have t29 := (unhide AM1).r (w1.heap.size) (.bool g_b) (.slice a_b n_b c_b) (.slice b_b m_b d_b) (.tail _ (.head _))
    have t29a := t29.c0
    have t29b := t29.c1
    have t29c := t29.c2
    clear t29
    go_wp2_with fail
    clear t28a t28b t28c t29a t29b t29c
    have K := ratSub_any g_a g_b (a_a) (b_a) (a_b) (b_b) n_a c_a m_a d_a n_b c_b m_b d_b (x_a) (y_a) (x_b) (y_b) wM1 ((unhide AM1).n (a_a) n_a c_a (x_a) (b_a) m_a d_a (y_a) (.tail _ (.tail _ (.tail _ (.tail _ (.tail _ (.head _))))))).num ((unhide AM1).n (a_a) n_a c_a (x_a) (b_a) m_a d_a (y_a) (.tail _ (.tail _ (.tail _ (.tail _ (.tail _ (.head _))))))).den ((unhide AM1).n (a_b) n_b c_b (x_b) (b_b) m_b d_b (y_b) (.tail _ (.tail _ (.tail _ (.tail _ (.head _)))))).num ((unhide AM1).n (a_b) n_b c_b (x_b) (b_b) m_b d_b (y_b) (.tail _ (.tail _ (.tail _ (.tail _ (.head _)))))).den (unhide O_a).1 (unhide O_a).2 (unhide O_b).1 (unhide O_b).2 ((unhide AM1).tab (.tail _ (.tail _ (.tail _ (.tail _ (.tail _ (.tail _ (.head _))))))))
    rw [unhide HD] at K
    unfold ratV at K
    refine K.mono ?_
    clear K
    rintro _ w30 ⟨v, rfl, a_d30, n_d30, c_d30, b_d30, m_d30, d_d30, rfl, sx, sy, nx, ny, hb⟩
    try dsimp only at sx sy
    unfold ratV
    have Aw30 := hide (((unhide AM1).step hb).add (fN a_d30 n_d30 c_d30 x_d b_d30 m_d30 d_d30 y_d) ⟨sx, sy⟩)
    clear AM1 sx sy nx ny hb
    obtain ⟨w31, hw31⟩ : ∃ x, w30.alloc (.cells #[.bool g_d, .slice a_d30 n_d30 c_d30, .slice b_d30 m_d30 d_d30] 25) = x := ⟨_, rfl⟩
    have Aw31 := hide ((unhide Aw30).box (.bool g_d) (.slice a_d30 n_d30 c_d30) (.slice b_d30 m_d30 d_d30) 25)
    rw [hw31] at Aw31
    clear Aw30
    go_wp2_with fail
    refine (rnum2_any e_d w31).mono ?_
    rintro _ w' ⟨rfl, hw⟩
    obtain rfl := hw.symm
    clear hw
    by_cases zd : e_d = 0
    focus
      have hsd := unhide HSD zd
      have HSD2 := hide hsd
      clear hsd HSD
      subst zd
      have t32 := (unhide Aw31).r (w30.heap.size) (.bool g_d) (.slice a_d30 n_d30 c_d30) (.slice b_d30 m_d30 d_d30) (.head _)
      have t32a := t32.c0
      have t32b := t32.c1
      have t32c := t32.c2
      clear t32
      go_wp2_with fail
      clear t32a t32b t32c
      have K := ratSign_any g_d (a_d30) (b_d30) n_d30 c_d30 m_d30 d_d30 (x_d) (y_d) w31 ((unhide Aw31).n (a_d30) n_d30 c_d30 (x_d) (b_d30) m_d30 d_d30 (y_d) (.tail _ (.head _))).num ((unhide Aw31).n (a_d30) n_d30 c_d30 (x_d) (b_d30) m_d30 d_d30 (y_d) (.tail _ (.head _))).den (unhide O_d).1 (unhide O_d).2 ((unhide Aw31).tab (.tail _ (.tail _ (.tail _ (.tail _ (.tail _ (.tail _ (.tail _ (.tail _ (.head _))))))))))
      rw [unhide HSD2] at K
      try unfold ratV at K
      refine K.mono ?_
      clear K
      rintro _ w33 ⟨rfl, hb⟩
      have Aw33 := hide ((unhide Aw31).step hb)
      clear Aw31 hb
      clear HSD2
      obtain ⟨wM2, hwM⟩ : ∃ x, x = w33 := ⟨_, rfl⟩
      subst hwM
      have AM2 := Aw33
      clear Aw33
    rotate_left
    focus
      have zd2 : (e_d == 0) = false := by simpa using zd
      clear HSD
      obtain ⟨wM2, hwM⟩ : ∃ x, x = w31 := ⟨_, rfl⟩
      subst hwM
      have AM2 := Aw31
      clear Aw31
    rotate_left
    all_goals
      have t34 := (unhide AM2).r (w.heap.size) (.bool g_a) (.slice a_a n_a c_a) (.slice b_a m_a d_a) (.tail _ (.tail _ (.tail _ (.tail _ (.head _)))))
      have t34a := t34.c0
      have t34b := t34.c1
      have t34c := t34.c2
      clear t34
      have t35 := (unhide AM2).r (w2.heap.size) (.bool g_c) (.slice a_c n_c c_c) (.slice b_c m_c d_c) (.tail _ (.tail _ (.head _)))
      have t35a := t35.c0
      have t35b := t35.c1
      have t35c := t35.c2
      clear t35
      go_wp2_with fail
      clear t34a t34b t34c t35a t35b t35c
      have K := ratAdd_any g_a g_c (a_a) (b_a) (a_c) (b_c) n_a c_a m_a d_a n_c c_c m_c d_c (x_a) (y_a) (x_c) (y_c) wM2 ((unhide AM2).n (a_a) n_a c_a (x_a) (b_a) m_a d_a (y_a) (.tail _ (.tail _ (.tail _ (.tail _ (.tail _ (.tail _ (.tail _ (.head _))))))))).num ((unhide AM2).n (a_a) n_a c_a (x_a) (b_a) m_a d_a (y_a) (.tail _ (.tail _ (.tail _ (.tail _ (.tail _ (.tail _ (.tail _ (.head _))))))))).den ((unhide AM2).n (a_c) n_c c_c (x_c) (b_c) m_c d_c (y_c) (.tail _ (.tail _ (.tail _ (.tail _ (.tail _ (.head _))))))).num ((unhide AM2).n (a_c) n_c c_c (x_c) (b_c) m_c d_c (y_c) (.tail _ (.tail _ (.tail _ (.tail _ (.tail _ (.head _))))))).den (unhide O_a).1 (unhide O_a).2 (unhide O_c).1 (unhide O_c).2 ((unhide AM2).tab (.tail _ (.tail _ (.tail _ (.tail _ (.tail _ (.tail _ (.tail _ (.tail _ (.head _))))))))))
      rw [unhide HX] at K
      unfold ratV at K
      refine K.mono ?_
      clear K
      rintro _ w36 ⟨v, rfl, a_x36, n_x36, c_x36, b_x36, m_x36, d_x36, rfl, sx, sy, nx, ny, hb⟩
      try dsimp only at sx sy
      unfold ratV
      have Aw36 := hide (((unhide AM2).step hb).add (fN a_x36 n_x36 c_x36 x_x b_x36 m_x36 d_x36 y_x) ⟨sx, sy⟩)
      clear AM2 sx sy nx ny hb
      have AK := Aw36
      have A37s := hide ((unhide Aw36).add (fSince w36) (Below.refl _ _))
      clear Aw36
      obtain ⟨w38, hw38⟩ : ∃ x, w36.alloc (.cells #[.bool g_x, .slice a_x36 n_x36 c_x36, .slice b_x36 m_x36 d_x36] 25) = x := ⟨_, rfl⟩
      have Aw38 := hide ((unhide A37s).box (.bool g_x) (.slice a_x36 n_x36 c_x36) (.slice b_x36 m_x36 d_x36) 25)
      rw [hw38] at Aw38
      clear A37s
      have t39 := (unhide Aw38).r (w1.heap.size) (.bool g_b) (.slice a_b n_b c_b) (.slice b_b m_b d_b) (.tail _ (.tail _ (.tail _ (.tail _ (.tail _ (.tail _ (.head _)))))))
      have t39a := t39.c0
      have t39b := t39.c1
      have t39c := t39.c2
      clear t39
      have t40 := (unhide Aw38).r (w2.heap.size) (.bool g_c) (.slice a_c n_c c_c) (.slice b_c m_c d_c) (.tail _ (.tail _ (.tail _ (.tail _ (.tail _ (.head _))))))
      have t40a := t40.c0
      have t40b := t40.c1
      have t40c := t40.c2
      clear t40
      go_wp2_with fail
      clear t39a t39b t39c t40a t40b t40c
      have K := ratAdd_any g_b g_c (a_b) (b_b) (a_c) (b_c) n_b c_b m_b d_b n_c c_c m_c d_c (x_b) (y_b) (x_c) (y_c) w38 ((unhide Aw38).n (a_b) n_b c_b (x_b) (b_b) m_b d_b (y_b) (.tail _ (.tail _ (.tail _ (.tail _ (.tail _ (.tail _ (.tail _ (.tail _ (.tail _ (.head _))))))))))).num ((unhide Aw38).n (a_b) n_b c_b (x_b) (b_b) m_b d_b (y_b) (.tail _ (.tail _ (.tail _ (.tail _ (.tail _ (.tail _ (.tail _ (.tail _ (.tail _ (.head _))))))))))).den ((unhide Aw38).n (a_c) n_c c_c (x_c) (b_c) m_c d_c (y_c) (.tail _ (.tail _ (.tail _ (.tail _ (.tail _ (.tail _ (.tail _ (.tail _ (.head _)))))))))).num ((unhide Aw38).n (a_c) n_c c_c (x_c) (b_c) m_c d_c (y_c) (.tail _ (.tail _ (.tail _ (.tail _ (.tail _ (.tail _ (.tail _ (.tail _ (.head _)))))))))).den (unhide O_b).1 (unhide O_b).2 (unhide O_c).1 (unhide O_c).2 ((unhide Aw38).tab (.tail _ (.tail _ (.tail _ (.tail _ (.tail _ (.tail _ (.tail _ (.tail _ (.tail _ (.tail _ (.tail _ (.head _)))))))))))))
      rw [unhide HY] at K
      unfold ratV at K
      refine K.mono ?_
      clear K
      rintro _ w41 ⟨v, rfl, a_y41, n_y41, c_y41, b_y41, m_y41, d_y41, rfl, sx, sy, nx, ny, hb⟩
      try dsimp only at sx sy
      unfold ratV
      have Aw41 := hide (((unhide Aw38).step hb).add (fN a_y41 n_y41 c_y41 x_y b_y41 m_y41 d_y41 y_y) ⟨sx, sy⟩)
      clear Aw38 sx sy nx ny hb
      have RXY := hide (((unhide Aw41).r (w36.heap.size) (.bool g_x) (.slice a_x36 n_x36 c_x36) (.slice b_x36 m_x36 d_x36) (.tail _ (.head _))).lt)
      obtain ⟨w42, hw42⟩ : ∃ x, w41.alloc (.cells #[.bool g_y, .slice a_y41 n_y41 c_y41, .slice b_y41 m_y41 d_y41] 25) = x := ⟨_, rfl⟩
      have Aw42 := hide ((unhide Aw41).box (.bool g_y) (.slice a_y41 n_y41 c_y41) (.slice b_y41 m_y41 d_y41) 25)
      rw [hw42] at Aw42
      clear Aw41
      go_wp2_with fail
      refine (rnum2_any e_x w42).mono ?_
      rintro _ w' ⟨rfl, hw⟩
      obtain rfl := hw.symm
      clear hw
      clear HX HY HD
      by_cases zx : e_x = 0
      focus
        subst zx
        go_wp2_with fail
        refine (rnum2_any e_y w42).mono ?_
        rintro _ w' ⟨rfl, hw⟩
        obtain rfl := hw.symm
        clear hw
        by_cases zy : e_y = 0
        focus
          subst zy
          have hxy := unhide HXY (by simp) (by simp)
          have HXY2 := hide hxy
          clear hxy HXY
          have t43 := (unhide Aw42).r (w36.heap.size) (.bool g_x) (.slice a_x36 n_x36 c_x36) (.slice b_x36 m_x36 d_x36) (.tail _ (.tail _ (.head _)))
          have t43a := t43.c0
          have t43b := t43.c1
          have t43c := t43.c2
          clear t43
          have t44 := (unhide Aw42).r (w41.heap.size) (.bool g_y) (.slice a_y41 n_y41 c_y41) (.slice b_y41 m_y41 d_y41) (.head _)
          have t44a := t44.c0
          have t44b := t44.c1
          have t44c := t44.c2
          clear t44
          go_wp2_with fail
          clear t43a t43b t43c t44a t44b t44c
          have K := ratCmp_any g_x g_y (a_x36) (b_x36) (a_y41) (b_y41) n_x36 c_x36 m_x36 d_x36 n_y41 c_y41 m_y41 d_y41 (x_x) (y_x) (x_y) (y_y) w42 ((unhide Aw42).n (a_x36) n_x36 c_x36 (x_x) (b_x36) m_x36 d_x36 (y_x) (.tail _ (.tail _ (.tail _ (.tail _ (.head _)))))).num ((unhide Aw42).n (a_x36) n_x36 c_x36 (x_x) (b_x36) m_x36 d_x36 (y_x) (.tail _ (.tail _ (.tail _ (.tail _ (.head _)))))).den ((unhide Aw42).n (a_y41) n_y41 c_y41 (x_y) (b_y41) m_y41 d_y41 (y_y) (.tail _ (.head _))).num ((unhide Aw42).n (a_y41) n_y41 c_y41 (x_y) (b_y41) m_y41 d_y41 (y_y) (.tail _ (.head _))).den (unhide O_x).1 (unhide O_x).2 (unhide O_y).1 (unhide O_y).2 ((unhide Aw42).tab (.tail _ (.tail _ (.tail _ (.tail _ (.tail _ (.tail _ (.tail _ (.tail _ (.tail _ (.tail _ (.tail _ (.tail _ (.tail _ (.head _)))))))))))))))
          rw [unhide HXY2] at K
          try unfold ratV at K
          refine K.mono ?_
          clear K
          rintro _ w45 ⟨rfl, hb⟩
          have Aw45 := hide ((unhide Aw42).step hb)
          clear Aw42 hb
          clear HXY2
          obtain ⟨wM3, hwM⟩ : ∃ x, x = w45 := ⟨_, rfl⟩
          subst hwM
          have AM3 := Aw45
          clear Aw45
        rotate_left
        focus
          have zy2 : (e_y == 0) = false := by simpa using zy
          clear HXY
          obtain ⟨wM3, hwM⟩ : ∃ x, x = w42 := ⟨_, rfl⟩
          subst hwM
          have AM3 := Aw42
          clear Aw42
        rotate_left
      rotate_left 2
      focus
        have zx2 : (e_x == 0) = false := by simpa using zx
        clear HXY
        obtain ⟨wM3, hwM⟩ : ∃ x, x = w42 := ⟨_, rfl⟩
        subst hwM
        have AM3 := Aw42
        clear Aw42
      rotate_left
      all_goals
        have t46 := (unhide AM3).r (w.heap.size) (.bool g_a) (.slice a_a n_a c_a) (.slice b_a m_a d_a) (.tail _ (.tail _ (.tail _ (.tail _ (.tail _ (.tail _ (.tail _ (.tail _ (.tail _ (.head _))))))))))
        have t46a := t46.c0
        have t46b := t46.c1
        have t46c := t46.c2
        clear t46
        have t47 := (unhide AM3).r (w2.heap.size) (.bool g_c) (.slice a_c n_c c_c) (.slice b_c m_c d_c) (.tail _ (.tail _ (.tail _ (.tail _ (.tail _ (.tail _ (.tail _ (.head _))))))))
        have t47a := t47.c0
        have t47b := t47.c1
        have t47c := t47.c2
        clear t47
        go_wp2_with fail
        clear t46a t46b t46c t47a t47b t47c
        have K := ratMul_any g_a g_c (a_a) (b_a) (a_c) (b_c) n_a c_a m_a d_a n_c c_c m_c d_c (x_a) (y_a) (x_c) (y_c) wM3 ((unhide AM3).n (a_a) n_a c_a (x_a) (b_a) m_a d_a (y_a) (.tail _ (.tail _ (.tail _ (.tail _ (.tail _ (.tail _ (.tail _ (.tail _ (.tail _ (.tail _ (.tail _ (.tail _ (.head _)))))))))))))).num ((unhide AM3).n (a_a) n_a c_a (x_a) (b_a) m_a d_a (y_a) (.tail _ (.tail _ (.tail _ (.tail _ (.tail _ (.tail _ (.tail _ (.tail _ (.tail _ (.tail _ (.tail _ (.tail _ (.head _)))))))))))))).den ((unhide AM3).n (a_c) n_c c_c (x_c) (b_c) m_c d_c (y_c) (.tail _ (.tail _ (.tail _ (.tail _ (.tail _ (.tail _ (.tail _ (.tail _ (.tail _ (.tail _ (.head _)))))))))))).num ((unhide AM3).n (a_c) n_c c_c (x_c) (b_c) m_c d_c (y_c) (.tail _ (.tail _ (.tail _ (.tail _ (.tail _ (.tail _ (.tail _ (.tail _ (.tail _ (.tail _ (.head _)))))))))))).den (unhide O_a).1 (unhide O_a).2 (unhide O_c).1 (unhide O_c).2 ((unhide AM3).tab (.tail _ (.tail _ (.tail _ (.tail _ (.tail _ (.tail _ (.tail _ (.tail _ (.tail _ (.tail _ (.tail _ (.tail _ (.tail _ (.head _)))))))))))))))
        rw [unhide HU] at K
        unfold ratV at K
        refine K.mono ?_
        clear K
        rintro _ w48 ⟨v, rfl, a_u48, n_u48, c_u48, b_u48, m_u48, d_u48, rfl, sx, sy, nx, ny, hb⟩
        try dsimp only at sx sy
        unfold ratV
        have hA := (unhide AM3).step hb
        have tx := hA.r (w36.heap.size) (.bool g_x) (.slice a_x36 n_x36 c_x36) (.slice b_x36 m_x36 d_x36) (.tail _ (.tail _ (.head _)))
        have ty := hA.r (w41.heap.size) (.bool g_y) (.slice a_y41 n_y41 c_y41) (.slice b_y41 m_y41 d_y41) (.head _)
        have hs := hA.since w36 (.tail _ (.tail _ (.tail _ (.head _))))
        have lx := ((unhide AM3).r (w36.heap.size) (.bool g_x) (.slice a_x36 n_x36 c_x36) (.slice b_x36 m_x36 d_x36) (.tail _ (.tail _ (.head _)))).lt
        have ly := ((unhide AM3).r (w41.heap.size) (.bool g_y) (.slice a_y41 n_y41 c_y41) (.slice b_y41 m_y41 d_y41) (.head _)).lt
        have c4 := (three_set w48 (w36.heap.size) (.bool g_u) (.slice a_u48 n_u48 c_u48) (.slice b_u48 m_u48 d_u48) tx.out.cells).2.2.2
        have hJ := alive_join (x := x_u) (y := y_u) (unhide AK) hs (Nat.le_refl _) tx.out sx sy (fun p hp h => by have := nx p hp; omega) (fun p hp h => by have := ny p hp; omega) g_u
        have hJ2 := (hJ.add (fR (w41.heap.size) (.bool g_y) (.slice a_y41 n_y41 c_y41) (.slice b_y41 m_y41 d_y41)) (ty.chg c4 (fun h => by have := unhide RXY; omega))).add (fSince w36) (hs.trans (c4.below hs.size (fun k hk h => by omega)))
        have NU := hide (show (∀ p, a_u48 = some p → p.block ≠ w41.heap.size) ∧ (∀ p, b_u48 = some p → p.block ≠ w41.heap.size) from ⟨fun p hp h => by have := nx p hp; omega, fun p hp h => by have := ny p hp; omega⟩)
        have tx0 := tx.c0
        have fx0 := tx.f0
        have tx1 := tx.c1
        have fx1 := tx.f1
        have tx2 := tx.c2
        have fx2 := tx.f2
        have HJ := hide hJ2
        clear hA tx ty hs lx ly c4 hJ hJ2 sx sy nx ny hb AM3
        have t49 := (unhide HJ).r (w1.heap.size) (.bool g_b) (.slice a_b n_b c_b) (.slice b_b m_b d_b) (.tail _ (.tail _ (.tail _ (.tail _ (.tail _ (.tail _ (.tail _ (.tail _ (.head _)))))))))
        have t49a := t49.c0
        have t49b := t49.c1
        have t49c := t49.c2
        clear t49
        have t50 := (unhide HJ).r (w2.heap.size) (.bool g_c) (.slice a_c n_c c_c) (.slice b_c m_c d_c) (.tail _ (.tail _ (.tail _ (.tail _ (.tail _ (.tail _ (.tail _ (.head _))))))))
        have t50a := t50.c0
        have t50b := t50.c1
        have t50c := t50.c2
        clear t50
        go_wp2_with fail
        clear t49a t49b t49c t50a t50b t50c tx0 tx1 tx2 fx0 fx1 fx2
        generalize ((w48.setCell ⟨w36.heap.size, 0, none⟩ (.bool g_u)).setCell ⟨w36.heap.size, 1, none⟩ (.slice a_u48 n_u48 c_u48)).setCell ⟨w36.heap.size, 2, none⟩ (.slice b_u48 m_u48 d_u48) = w51 at *
        have K := ratMul_any g_b g_c (a_b) (b_b) (a_c) (b_c) n_b c_b m_b d_b n_c c_c m_c d_c (x_b) (y_b) (x_c) (y_c) w51 ((unhide HJ).n (a_b) n_b c_b (x_b) (b_b) m_b d_b (y_b) (.tail _ (.tail _ (.tail _ (.tail _ (.tail _ (.tail _ (.tail _ (.tail _ (.tail _ (.tail _ (.tail _ (.head _))))))))))))).num ((unhide HJ).n (a_b) n_b c_b (x_b) (b_b) m_b d_b (y_b) (.tail _ (.tail _ (.tail _ (.tail _ (.tail _ (.tail _ (.tail _ (.tail _ (.tail _ (.tail _ (.tail _ (.head _))))))))))))).den ((unhide HJ).n (a_c) n_c c_c (x_c) (b_c) m_c d_c (y_c) (.tail _ (.tail _ (.tail _ (.tail _ (.tail _ (.tail _ (.tail _ (.tail _ (.tail _ (.tail _ (.head _)))))))))))).num ((unhide HJ).n (a_c) n_c c_c (x_c) (b_c) m_c d_c (y_c) (.tail _ (.tail _ (.tail _ (.tail _ (.tail _ (.tail _ (.tail _ (.tail _ (.tail _ (.tail _ (.head _)))))))))))).den (unhide O_b).1 (unhide O_b).2 (unhide O_c).1 (unhide O_c).2 ((unhide HJ).tab (.tail _ (.tail _ (.tail _ (.tail _ (.tail _ (.tail _ (.tail _ (.tail _ (.tail _ (.tail _ (.tail _ (.tail _ (.tail _ (.head _)))))))))))))))
        rw [unhide HV] at K
        unfold ratV at K
        refine K.mono ?_
        clear K
        rintro _ w52 ⟨v, rfl, a_v52, n_v52, c_v52, b_v52, m_v52, d_v52, rfl, sx, sy, nx, ny, hb⟩
        try dsimp only at sx sy
        unfold ratV
        have hA := (unhide HJ).step hb
        have tx := hA.r (w36.heap.size) (.bool g_u) (.slice a_u48 n_u48 c_u48) (.slice b_u48 m_u48 d_u48) (.tail _ (.tail _ (.head _)))
        have ty := hA.r (w41.heap.size) (.bool g_y) (.slice a_y41 n_y41 c_y41) (.slice b_y41 m_y41 d_y41) (.tail _ (.head _))
        have hs := hA.since w36 (.head _)
        have nu := hA.n (a_u48) n_u48 c_u48 (x_u) (b_u48) m_u48 d_u48 (y_u) (.tail _ (.tail _ (.tail _ (.head _))))
        have ly := ((unhide HJ).r (w41.heap.size) (.bool g_y) (.slice a_y41 n_y41 c_y41) (.slice b_y41 m_y41 d_y41) (.tail _ (.head _))).lt
        have c4 := (three_set w52 (w41.heap.size) (.bool g_v) (.slice a_v52 n_v52 c_v52) (.slice b_v52 m_v52 d_v52) ty.out.cells).2.2.2
        have hJ := alive_join (x := x_v) (y := y_v) (unhide AK) hs (Nat.le_of_lt (unhide RXY)) ty.out sx sy (fun p hp h => by have := nx p hp; omega) (fun p hp h => by have := ny p hp; omega) g_v
        have hJ2 := (hJ.add (fN (a_u48) n_u48 c_u48 (x_u) (b_u48) m_u48 d_u48 (y_u)) ⟨nu.num.chg c4 (fun p hp _ => (unhide NU).1 p hp), nu.den.chg c4 (fun p hp _ => (unhide NU).2 p hp)⟩).add (fR (w36.heap.size) (.bool g_u) (.slice a_u48 n_u48 c_u48) (.slice b_u48 m_u48 d_u48)) (tx.chg c4 (fun h => by have := unhide RXY; omega))
        have ty0 := ty.c0
        have fy0 := ty.f0
        have ty1 := ty.c1
        have fy1 := ty.f1
        have ty2 := ty.c2
        have fy2 := ty.f2
        have HJ3 := hide hJ2
        clear hA tx ty hs nu ly c4 hJ hJ2 sx sy nx ny hb HJ NU AK RXY
        go_wp2_with fail
        clear ty0 ty1 ty2 fy0 fy1 fy2
        generalize ((w52.setCell ⟨w41.heap.size, 0, none⟩ (.bool g_v)).setCell ⟨w41.heap.size, 1, none⟩ (.slice a_v52 n_v52 c_v52)).setCell ⟨w41.heap.size, 2, none⟩ (.slice b_v52 m_v52 d_v52) = w53 at *
        by_cases zu : e_u = 0
        · subst zu
          by_cases zv : e_v = 0
          · subst zv
            have huv := unhide HUV (by simp) (by simp)
            have HUV2 := hide huv
            clear huv
            rcases unhide HS1 with hq | hq | hq
            all_goals
              subst hq
              have t54 := (unhide HJ3).r (w36.heap.size) (.bool g_u) (.slice a_u48 n_u48 c_u48) (.slice b_u48 m_u48 d_u48) (.head _)
              have t54a := t54.c0
              have t54b := t54.c1
              have t54c := t54.c2
              clear t54
              have t55 := (unhide HJ3).r (w41.heap.size) (.bool g_v) (.slice a_v52 n_v52 c_v52) (.slice b_v52 m_v52 d_v52) (.tail _ (.tail _ (.head _)))
              have t55a := t55.c0
              have t55b := t55.c1
              have t55c := t55.c2
              clear t55
              have t56 := (unhide HJ3).r (w2.heap.size) (.bool g_c) (.slice a_c n_c c_c) (.slice b_c m_c d_c) (.tail _ (.tail _ (.tail _ (.tail _ (.tail _ (.tail _ (.tail _ (.head _))))))))
              have t56a := t56.c0
              have t56b := t56.c1
              have t56c := t56.c2
              clear t56
              have AX57 := hide (fun x : Ext w53 => (unhide HJ3).step x.bel)
              have hNE57 := Ext.ne w53
              have Ft54a := fun x : Ext w53 => x.cell t54a
              have Ft54b := fun x : Ext w53 => x.cell t54b
              have Ft54c := fun x : Ext w53 => x.cell t54c
              have Ft55a := fun x : Ext w53 => x.cell t55a
              have Ft55b := fun x : Ext w53 => x.cell t55b
              have Ft55c := fun x : Ext w53 => x.cell t55c
              have Ft56a := fun x : Ext w53 => x.cell t56a
              have Ft56b := fun x : Ext w53 => x.cell t56b
              have Ft56c := fun x : Ext w53 => x.cell t56c
              have K := fun x : Ext w53 => ratCmp_any g_u g_v (a_u48) (b_u48) (a_v52) (b_v52) n_u48 c_u48 m_u48 d_u48 n_v52 c_v52 m_v52 d_v52 (x_u) (y_u) (x_v) (y_v) x.w ((unhide AX57 x).n (a_u48) n_u48 c_u48 (x_u) (b_u48) m_u48 d_u48 (y_u) (.tail _ (.head _))).num ((unhide AX57 x).n (a_u48) n_u48 c_u48 (x_u) (b_u48) m_u48 d_u48 (y_u) (.tail _ (.head _))).den ((unhide AX57 x).n (a_v52) n_v52 c_v52 (x_v) (b_v52) m_v52 d_v52 (y_v) (.tail _ (.tail _ (.tail _ (.head _))))).num ((unhide AX57 x).n (a_v52) n_v52 c_v52 (x_v) (b_v52) m_v52 d_v52 (y_v) (.tail _ (.tail _ (.tail _ (.head _))))).den (unhide O_u).1 (unhide O_u).2 (unhide O_v).1 (unhide O_v).2 ((unhide AX57 x).tab (.tail _ (.tail _ (.tail _ (.tail _ (.tail _ (.tail _ (.tail _ (.tail _ (.tail _ (.tail _ (.tail _ (.tail _ (.tail _ (.head _)))))))))))))))
              rw [unhide HUV2] at K
              try unfold ratV at K
              have HK57_1 := hide K
              clear K
              have K := fun x : Ext w53 => ratSign_any g_c (a_c) (b_c) n_c c_c m_c d_c (x_c) (y_c) x.w ((unhide AX57 x).n (a_c) n_c c_c (x_c) (b_c) m_c d_c (y_c) (.tail _ (.tail _ (.tail _ (.tail _ (.tail _ (.tail _ (.tail _ (.tail _ (.tail _ (.tail _ (.head _)))))))))))).num ((unhide AX57 x).n (a_c) n_c c_c (x_c) (b_c) m_c d_c (y_c) (.tail _ (.tail _ (.tail _ (.tail _ (.tail _ (.tail _ (.tail _ (.tail _ (.tail _ (.tail _ (.head _)))))))))))).den (unhide O_c).1 (unhide O_c).2 ((unhide AX57 x).tab (.tail _ (.tail _ (.tail _ (.tail _ (.tail _ (.tail _ (.tail _ (.tail _ (.tail _ (.tail _ (.tail _ (.tail _ (.tail _ (.head _)))))))))))))))
              rw [unhide HSC] at K
              try unfold ratV at K
              have HK57_2 := hide K
              clear K
              try go_wp2_with fail
              clear t54a t54b t54c t55a t55b t55c t56a t56b t56c
              refine wp_region_ext (by kernel_rfl) (by kernel_rfl) ?_
              repeat (go_big_quiet_step (first
                | (go_at_call 9; rename_i x; exact Ext.call (rnumB_any _ x.w) (fun e w' h => h))
                | (go_at_call 6; rename_i x; exact Ext.call (unhide HK57_1 x) (fun e w' h => h))
                | (go_at_call 10; rename_i x; exact Ext.call (unhide HK57_2 x) (fun e w' h => h))))
              refine wpQuiet_nil ?_
              rintro _ ⟨x57, rfl⟩
              have A57 := hide (unhide AX57 x57)
              clear AX57 HJ3 Ft54a Ft54b Ft54c Ft55a Ft55b Ft55c Ft56a Ft56b Ft56c HK57_1 HK57_2
              go_wp2_with fail
              go_ret
              exact ⟨rfl, (unhide A57).bel⟩
          · have zv2 : (e_v != 0) = true := by simpa using zv
            have t58 := (unhide HJ3).r (w36.heap.size) (.bool g_u) (.slice a_u48 n_u48 c_u48) (.slice b_u48 m_u48 d_u48) (.head _)
            have t58a := t58.c0
            have t58b := t58.c1
            have t58c := t58.c2
            clear t58
            have t59 := (unhide HJ3).r (w41.heap.size) (.bool g_v) (.slice a_v52 n_v52 c_v52) (.slice b_v52 m_v52 d_v52) (.tail _ (.tail _ (.head _)))
            have t59a := t59.c0
            have t59b := t59.c1
            have t59c := t59.c2
            clear t59
            have t60 := (unhide HJ3).r (w2.heap.size) (.bool g_c) (.slice a_c n_c c_c) (.slice b_c m_c d_c) (.tail _ (.tail _ (.tail _ (.tail _ (.tail _ (.tail _ (.tail _ (.head _))))))))
            have t60a := t60.c0
            have t60b := t60.c1
            have t60c := t60.c2
            clear t60
            have AX61 := hide (fun x : Ext w53 => (unhide HJ3).step x.bel)
            have hNE61 := Ext.ne w53
            have Ft58a := fun x : Ext w53 => x.cell t58a
            have Ft58b := fun x : Ext w53 => x.cell t58b
            have Ft58c := fun x : Ext w53 => x.cell t58c
            have Ft59a := fun x : Ext w53 => x.cell t59a
            have Ft59b := fun x : Ext w53 => x.cell t59b
            have Ft59c := fun x : Ext w53 => x.cell t59c
            have Ft60a := fun x : Ext w53 => x.cell t60a
            have Ft60b := fun x : Ext w53 => x.cell t60b
            have Ft60c := fun x : Ext w53 => x.cell t60c
            try go_wp2_with fail
            clear t58a t58b t58c t59a t59b t59c t60a t60b t60c
            refine wp_region_ext (by kernel_rfl) (by kernel_rfl) ?_
            repeat (go_big_quiet_step (first
              | (go_at_call 9; rename_i x; exact Ext.call (rnumB_any _ x.w) (fun e w' h => h))))
            refine wpQuiet_nil ?_
            rintro _ ⟨x61, rfl⟩
            have A61 := hide (unhide AX61 x61)
            clear AX61 HJ3 Ft58a Ft58b Ft58c Ft59a Ft59b Ft59c Ft60a Ft60b Ft60c
            go_wp2_with fail
            go_ret
            exact ⟨rfl, (unhide A61).bel⟩
        · have zu2 : (e_u != 0) = true := by simpa using zu
          have t62 := (unhide HJ3).r (w36.heap.size) (.bool g_u) (.slice a_u48 n_u48 c_u48) (.slice b_u48 m_u48 d_u48) (.head _)
          have t62a := t62.c0
          have t62b := t62.c1
          have t62c := t62.c2
          clear t62
          have t63 := (unhide HJ3).r (w41.heap.size) (.bool g_v) (.slice a_v52 n_v52 c_v52) (.slice b_v52 m_v52 d_v52) (.tail _ (.tail _ (.head _)))
          have t63a := t63.c0
          have t63b := t63.c1
          have t63c := t63.c2
          clear t63
          have t64 := (unhide HJ3).r (w2.heap.size) (.bool g_c) (.slice a_c n_c c_c) (.slice b_c m_c d_c) (.tail _ (.tail _ (.tail _ (.tail _ (.tail _ (.tail _ (.tail _ (.head _))))))))
          have t64a := t64.c0
          have t64b := t64.c1
          have t64c := t64.c2
          clear t64
          have AX65 := hide (fun x : Ext w53 => (unhide HJ3).step x.bel)
          have hNE65 := Ext.ne w53
          have Ft62a := fun x : Ext w53 => x.cell t62a
          have Ft62b := fun x : Ext w53 => x.cell t62b
          have Ft62c := fun x : Ext w53 => x.cell t62c
          have Ft63a := fun x : Ext w53 => x.cell t63a
          have Ft63b := fun x : Ext w53 => x.cell t63b
          have Ft63c := fun x : Ext w53 => x.cell t63c
          have Ft64a := fun x : Ext w53 => x.cell t64a
          have Ft64b := fun x : Ext w53 => x.cell t64b
          have Ft64c := fun x : Ext w53 => x.cell t64c
          try go_wp2_with fail
          clear t62a t62b t62c t63a t63b t63c t64a t64b t64c
          refine wp_region_ext (by kernel_rfl) (by kernel_rfl) ?_
          repeat (go_big_quiet_step (first
            | (go_at_call 9; rename_i x; exact Ext.call (rnumB_any _ x.w) (fun e w' h => h))))
          refine wpQuiet_nil ?_
          rintro _ ⟨x65, rfl⟩
          have A65 := hide (unhide AX65 x65)
          clear AX65 HJ3 Ft62a Ft62b Ft62c Ft63a Ft63b Ft63c Ft64a Ft64b Ft64c
          go_wp2_with fail
          go_ret
          exact ⟨rfl, (unhide A65).bel⟩
end Go.Proofs.YtmoocldoinlimaaGreatDoor
