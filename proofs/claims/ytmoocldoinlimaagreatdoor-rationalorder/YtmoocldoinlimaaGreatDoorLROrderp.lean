/-
  THE LAW RationalOrder: out of the contracts; the row's step.
-/
import Derived.Test.YtmoocldoinlimaaGreatDoorRl5
import Derived.Test.YtmoocldoinlimaaGreatDoorWic
namespace Go.Proofs.YtmoocldoinlimaaGreatDoor
open Go.ChangeShapes Go.WideShapes Go.ChangeAt Go.RowKit Go.Deep
set_option linter.unusedVariables false

set_option maxRecDepth 100000 in
set_option maxHeartbeats 64000000 in
theorem rationalOrder_yp (g_a : Bool) (a_a : Option Addr) (n_a c_a : Nat) (x_a : List Nat) (b_a : Option Addr) (m_a d_a : Nat) (y_a : List Nat) (g_b : Bool) (a_b : Option Addr) (n_b c_b : Nat) (x_b : List Nat) (b_b : Option Addr) (m_b d_b : Nat) (y_b : List Nat) (g_c : Bool) (a_c : Option Addr) (n_c c_c : Nat) (x_c : List Nat) (b_c : Option Addr) (m_c d_c : Nat) (y_c : List Nat) (w : World) (hx_a : Sl w a_a n_a c_a x_a) (hy_a : Sl w b_a m_a d_a y_a) (ox_a : Ok x_a) (oy_a : Ok y_a) (hx_b : Sl w a_b n_b c_b x_b) (hy_b : Sl w b_b m_b d_b y_b) (ox_b : Ok x_b) (oy_b : Ok y_b) (hx_c : Sl w a_c n_c c_c x_c) (hy_c : Sl w b_c m_c d_c y_c) (ox_c : Ok x_c) (oy_c : Ok y_c) (hT : Tab64 w) (k_a : MayR g_a x_a y_a = true) (k_b : MayR g_b x_b y_b = true) (k_c : MayR g_c x_c y_c = true) (hab : CmpF g_a x_a y_a g_b x_b y_b = 1) :
    Calls Tryz.prog 3 #[ratV g_a a_a n_a c_a b_a m_a d_a, ratV g_b a_b n_b c_b b_b m_b d_b, ratV g_c a_c n_c c_c b_c m_c d_c] w fun e w' => e = .returned (.bool true) ∧ Below w.heap.size w w' := by
  have A00 : Fcts w w [fTab] := ⟨Below.refl _ _, fun f hf => by simp at hf; subst hf; exact hT⟩
  have A01 := A00.add (fN a_a n_a c_a x_a b_a m_a d_a y_a) ⟨hx_a, hy_a⟩
  have O_a := hide (And.intro ox_a oy_a)
  have A02 := A01.add (fN a_b n_b c_b x_b b_b m_b d_b y_b) ⟨hx_b, hy_b⟩
  have O_b := hide (And.intro ox_b oy_b)
  have A03 := A02.add (fN a_c n_c c_c x_c b_c m_c d_c y_c) ⟨hx_c, hy_c⟩
  have O_c := hide (And.intro ox_c oy_c)
  have A0 := hide A03
  have HBA := hide (show CmpF g_b x_b y_b g_a x_a y_a = -1 by have h := order_neg k_a k_b; rw [hab] at h; exact h.trans (by decide))
  have HAA := hide (order_self k_a)
  have HSM := hide (show sameR g_a x_a y_a g_b x_b y_b = false by rw [order_same ox_a oy_a ox_b oy_b k_a k_b, hab]; rfl)
  obtain ⟨bc, hbc2⟩ : ∃ r, CmpF g_b x_b y_b g_c x_c y_c = r := ⟨_, rfl⟩
  have HBC := hide hbc2
  clear hbc2
  obtain ⟨⟨⟨g_d, x_d, y_d⟩, e_d⟩, hd⟩ : ∃ r, SubF g_a x_a y_a g_b x_b y_b = r := ⟨_, rfl⟩
  have O_d := hide (show Ok x_d ∧ Ok y_d by have := subF_lists (g1 := g_a) (x1 := x_a) (y1 := y_a) (g2 := g_b) (x2 := x_b) (y2 := y_b); rw [hd] at this; exact this)
  have HSD := hide (show e_d = 0 → SignF g_d x_d y_d = 1 from fun h => by subst h; rw [order_sub k_a k_b hd, hab])
  have HD := hide hd
  clear hd
  obtain ⟨⟨⟨g_x, x_x, y_x⟩, e_x⟩, hx⟩ : ∃ r, AddF g_a x_a y_a g_c x_c y_c = r := ⟨_, rfl⟩
  have O_x := hide (show Ok x_x ∧ Ok y_x by have := addF_lists (g1 := g_a) (x1 := x_a) (y1 := y_a) (g2 := g_c) (x2 := x_c) (y2 := y_c); rw [hx] at this; exact this)
  obtain ⟨⟨⟨g_y, x_y, y_y⟩, e_y⟩, hy⟩ : ∃ r, AddF g_b x_b y_b g_c x_c y_c = r := ⟨_, rfl⟩
  have O_y := hide (show Ok x_y ∧ Ok y_y by have := addF_lists (g1 := g_b) (x1 := x_b) (y1 := y_b) (g2 := g_c) (x2 := x_c) (y2 := y_c); rw [hy] at this; exact this)
  obtain ⟨⟨⟨g_u, x_u, y_u⟩, e_u⟩, hu⟩ : ∃ r, MulF g_a x_a y_a g_c x_c y_c = r := ⟨_, rfl⟩
  have O_u := hide (show Ok x_u ∧ Ok y_u by have := mulF_lists (g1 := g_a) (x1 := x_a) (y1 := y_a) (g2 := g_c) (x2 := x_c) (y2 := y_c); rw [hu] at this; exact this)
  obtain ⟨⟨⟨g_v, x_v, y_v⟩, e_v⟩, hv⟩ : ∃ r, MulF g_b x_b y_b g_c x_c y_c = r := ⟨_, rfl⟩
  have O_v := hide (show Ok x_v ∧ Ok y_v by have := mulF_lists (g1 := g_b) (x1 := x_b) (y1 := y_b) (g2 := g_c) (x2 := x_c) (y2 := y_c); rw [hv] at this; exact this)
  have HXY := hide (show e_x = 0 → e_y = 0 → CmpF g_x x_x y_x g_y x_y y_y = 1 from fun h1 h2 => by subst h1 h2; rw [order_add k_a k_b k_c hx hy, hab])
  obtain ⟨sc, hsc⟩ : ∃ r, SignF g_c x_c y_c = r := ⟨_, rfl⟩
  have HUV := hide (show e_u = 0 → e_v = 0 → CmpF g_u x_u y_u g_v x_v y_v = 1 * sc from fun h1 h2 => by subst h1 h2; rw [order_mul k_a k_b k_c hu hv, hab, hsc])
  have HS1 := hide (show sc = -1 ∨ sc = 0 ∨ sc = 1 by rw [← hsc]; exact order_sone k_c)
  have HSC := hide hsc
  have HX := hide hx
  have HY := hide hy
  have HU := hide hu
  have HV := hide hv
  have HAB := hide hab
  have M_a := hide k_a
  have M_b := hide k_b
  have M_c := hide k_c
  clear hsc hx hy hu hv hab k_a k_b k_c
  clear A00 hT hx_a hy_a A01 ox_a oy_a hx_b hy_b A02 ox_b oy_b hx_c hy_c A03 ox_c oy_c
  unfold ratV
  obtain ⟨w1, hw1⟩ : ∃ x, w.alloc (.cells #[.bool g_a, .slice a_a n_a c_a, .slice b_a m_a d_a] 25) = x := ⟨_, rfl⟩
  have Aw1 := hide ((unhide A0).box (.bool g_a) (.slice a_a n_a c_a) (.slice b_a m_a d_a) 25)
  rw [hw1] at Aw1
  clear A0
  obtain ⟨w2, hw2⟩ : ∃ x, w1.alloc (.cells #[.bool g_b, .slice a_b n_b c_b, .slice b_b m_b d_b] 25) = x := ⟨_, rfl⟩
  have Aw2 := hide ((unhide Aw1).box (.bool g_b) (.slice a_b n_b c_b) (.slice b_b m_b d_b) 25)
  rw [hw2] at Aw2
  clear Aw1
  obtain ⟨w3, hw3⟩ : ∃ x, w2.alloc (.cells #[.bool g_c, .slice a_c n_c c_c, .slice b_c m_c d_c] 25) = x := ⟨_, rfl⟩
  have Aw3 := hide ((unhide Aw2).box (.bool g_c) (.slice a_c n_c c_c) (.slice b_c m_c d_c) 25)
  rw [hw3] at Aw3
  clear Aw2
  go_enter Tryz.func3, Tryz.ntmps3
  have t4 := (unhide Aw3).r (w.heap.size) (.bool g_a) (.slice a_a n_a c_a) (.slice b_a m_a d_a) (.tail _ (.tail _ (.head _)))
  have t4a := t4.c0
  have t4b := t4.c1
  have t4c := t4.c2
  clear t4
  go_wp2_with fail
  clear t4a t4b t4c
  have K := ratMay_any g_a (a_a) (b_a) n_a c_a m_a d_a (x_a) (y_a) w3 ((unhide Aw3).n (a_a) n_a c_a (x_a) (b_a) m_a d_a (y_a) (.tail _ (.tail _ (.tail _ (.tail _ (.tail _ (.head _))))))).num ((unhide Aw3).n (a_a) n_a c_a (x_a) (b_a) m_a d_a (y_a) (.tail _ (.tail _ (.tail _ (.tail _ (.tail _ (.head _))))))).den (unhide O_a).1 (unhide O_a).2 ((unhide Aw3).tab (.tail _ (.tail _ (.tail _ (.tail _ (.tail _ (.tail _ (.head _))))))))
  rw [unhide M_a] at K
  try unfold ratV at K
  refine K.mono ?_
  clear K
  rintro _ w5 ⟨rfl, hb⟩
  have Aw5 := hide ((unhide Aw3).step hb)
  clear Aw3 hb
  have t6 := (unhide Aw5).r (w1.heap.size) (.bool g_b) (.slice a_b n_b c_b) (.slice b_b m_b d_b) (.tail _ (.head _))
  have t6a := t6.c0
  have t6b := t6.c1
  have t6c := t6.c2
  clear t6
  go_wp2_with fail
  clear t6a t6b t6c
  have K := ratMay_any g_b (a_b) (b_b) n_b c_b m_b d_b (x_b) (y_b) w5 ((unhide Aw5).n (a_b) n_b c_b (x_b) (b_b) m_b d_b (y_b) (.tail _ (.tail _ (.tail _ (.tail _ (.head _)))))).num ((unhide Aw5).n (a_b) n_b c_b (x_b) (b_b) m_b d_b (y_b) (.tail _ (.tail _ (.tail _ (.tail _ (.head _)))))).den (unhide O_b).1 (unhide O_b).2 ((unhide Aw5).tab (.tail _ (.tail _ (.tail _ (.tail _ (.tail _ (.tail _ (.head _))))))))
  rw [unhide M_b] at K
  try unfold ratV at K
  refine K.mono ?_
  clear K
  rintro _ w7 ⟨rfl, hb⟩
  have Aw7 := hide ((unhide Aw5).step hb)
  clear Aw5 hb
  have t8 := (unhide Aw7).r (w2.heap.size) (.bool g_c) (.slice a_c n_c c_c) (.slice b_c m_c d_c) (.head _)
  have t8a := t8.c0
  have t8b := t8.c1
  have t8c := t8.c2
  clear t8
  go_wp2_with fail
  clear t8a t8b t8c
  have K := ratMay_any g_c (a_c) (b_c) n_c c_c m_c d_c (x_c) (y_c) w7 ((unhide Aw7).n (a_c) n_c c_c (x_c) (b_c) m_c d_c (y_c) (.tail _ (.tail _ (.tail _ (.head _))))).num ((unhide Aw7).n (a_c) n_c c_c (x_c) (b_c) m_c d_c (y_c) (.tail _ (.tail _ (.tail _ (.head _))))).den (unhide O_c).1 (unhide O_c).2 ((unhide Aw7).tab (.tail _ (.tail _ (.tail _ (.tail _ (.tail _ (.tail _ (.head _))))))))
  rw [unhide M_c] at K
  try unfold ratV at K
  refine K.mono ?_
  clear K
  rintro _ w9 ⟨rfl, hb⟩
  have Aw9 := hide ((unhide Aw7).step hb)
  clear Aw7 hb
  go_wp2_with fail
  have K := ralive_any w9 ((unhide Aw9).tab (.tail _ (.tail _ (.tail _ (.tail _ (.tail _ (.tail _ (.head _))))))))
  try unfold ratV at K
  refine K.mono ?_
  clear K
  rintro _ w10 ⟨rfl, hb⟩
  have Aw10 := hide ((unhide Aw9).step hb)
  clear Aw9 hb
  have t11 := (unhide Aw10).r (w.heap.size) (.bool g_a) (.slice a_a n_a c_a) (.slice b_a m_a d_a) (.tail _ (.tail _ (.head _)))
  have t11a := t11.c0
  have t11b := t11.c1
  have t11c := t11.c2
  clear t11
  have t12 := (unhide Aw10).r (w1.heap.size) (.bool g_b) (.slice a_b n_b c_b) (.slice b_b m_b d_b) (.tail _ (.head _))
  have t12a := t12.c0
  have t12b := t12.c1
  have t12c := t12.c2
  clear t12
  go_wp2_with fail
  clear t11a t11b t11c t12a t12b t12c
  have K := ratCmp_any g_a g_b (a_a) (b_a) (a_b) (b_b) n_a c_a m_a d_a n_b c_b m_b d_b (x_a) (y_a) (x_b) (y_b) w10 ((unhide Aw10).n (a_a) n_a c_a (x_a) (b_a) m_a d_a (y_a) (.tail _ (.tail _ (.tail _ (.tail _ (.tail _ (.head _))))))).num ((unhide Aw10).n (a_a) n_a c_a (x_a) (b_a) m_a d_a (y_a) (.tail _ (.tail _ (.tail _ (.tail _ (.tail _ (.head _))))))).den ((unhide Aw10).n (a_b) n_b c_b (x_b) (b_b) m_b d_b (y_b) (.tail _ (.tail _ (.tail _ (.tail _ (.head _)))))).num ((unhide Aw10).n (a_b) n_b c_b (x_b) (b_b) m_b d_b (y_b) (.tail _ (.tail _ (.tail _ (.tail _ (.head _)))))).den (unhide O_a).1 (unhide O_a).2 (unhide O_b).1 (unhide O_b).2 ((unhide Aw10).tab (.tail _ (.tail _ (.tail _ (.tail _ (.tail _ (.tail _ (.head _))))))))
  rw [unhide HAB] at K
  try unfold ratV at K
  refine K.mono ?_
  clear K
  rintro _ w13 ⟨rfl, hb⟩
  have Aw13 := hide ((unhide Aw10).step hb)
  clear Aw10 hb
  have t14 := (unhide Aw13).r (w1.heap.size) (.bool g_b) (.slice a_b n_b c_b) (.slice b_b m_b d_b) (.tail _ (.head _))
  have t14a := t14.c0
  have t14b := t14.c1
  have t14c := t14.c2
  clear t14
  have t15 := (unhide Aw13).r (w2.heap.size) (.bool g_c) (.slice a_c n_c c_c) (.slice b_c m_c d_c) (.head _)
  have t15a := t15.c0
  have t15b := t15.c1
  have t15c := t15.c2
  clear t15
  go_wp2_with fail
  clear t14a t14b t14c t15a t15b t15c
  have K := ratCmp_any g_b g_c (a_b) (b_b) (a_c) (b_c) n_b c_b m_b d_b n_c c_c m_c d_c (x_b) (y_b) (x_c) (y_c) w13 ((unhide Aw13).n (a_b) n_b c_b (x_b) (b_b) m_b d_b (y_b) (.tail _ (.tail _ (.tail _ (.tail _ (.head _)))))).num ((unhide Aw13).n (a_b) n_b c_b (x_b) (b_b) m_b d_b (y_b) (.tail _ (.tail _ (.tail _ (.tail _ (.head _)))))).den ((unhide Aw13).n (a_c) n_c c_c (x_c) (b_c) m_c d_c (y_c) (.tail _ (.tail _ (.tail _ (.head _))))).num ((unhide Aw13).n (a_c) n_c c_c (x_c) (b_c) m_c d_c (y_c) (.tail _ (.tail _ (.tail _ (.head _))))).den (unhide O_b).1 (unhide O_b).2 (unhide O_c).1 (unhide O_c).2 ((unhide Aw13).tab (.tail _ (.tail _ (.tail _ (.tail _ (.tail _ (.tail _ (.head _))))))))
  rw [unhide HBC] at K
  try unfold ratV at K
  refine K.mono ?_
  clear K
  rintro _ w16 ⟨rfl, hb⟩
  have Aw16 := hide ((unhide Aw13).step hb)
  clear Aw13 hb
  have t17 := (unhide Aw16).r (w.heap.size) (.bool g_a) (.slice a_a n_a c_a) (.slice b_a m_a d_a) (.tail _ (.tail _ (.head _)))
  have t17a := t17.c0
  have t17b := t17.c1
  have t17c := t17.c2
  clear t17
  have t18 := (unhide Aw16).r (w1.heap.size) (.bool g_b) (.slice a_b n_b c_b) (.slice b_b m_b d_b) (.tail _ (.head _))
  have t18a := t18.c0
  have t18b := t18.c1
  have t18c := t18.c2
  clear t18
  go_wp2_with fail
  clear t17a t17b t17c t18a t18b t18c
  have K := ratCmp_any g_b g_a (a_b) (b_b) (a_a) (b_a) n_b c_b m_b d_b n_a c_a m_a d_a (x_b) (y_b) (x_a) (y_a) w16 ((unhide Aw16).n (a_b) n_b c_b (x_b) (b_b) m_b d_b (y_b) (.tail _ (.tail _ (.tail _ (.tail _ (.head _)))))).num ((unhide Aw16).n (a_b) n_b c_b (x_b) (b_b) m_b d_b (y_b) (.tail _ (.tail _ (.tail _ (.tail _ (.head _)))))).den ((unhide Aw16).n (a_a) n_a c_a (x_a) (b_a) m_a d_a (y_a) (.tail _ (.tail _ (.tail _ (.tail _ (.tail _ (.head _))))))).num ((unhide Aw16).n (a_a) n_a c_a (x_a) (b_a) m_a d_a (y_a) (.tail _ (.tail _ (.tail _ (.tail _ (.tail _ (.head _))))))).den (unhide O_b).1 (unhide O_b).2 (unhide O_a).1 (unhide O_a).2 ((unhide Aw16).tab (.tail _ (.tail _ (.tail _ (.tail _ (.tail _ (.tail _ (.head _))))))))
  rw [unhide HBA] at K
  try unfold ratV at K
  refine K.mono ?_
  clear K
  rintro _ w19 ⟨rfl, hb⟩
  have Aw19 := hide ((unhide Aw16).step hb)
  clear Aw16 hb
  have t20 := (unhide Aw19).r (w.heap.size) (.bool g_a) (.slice a_a n_a c_a) (.slice b_a m_a d_a) (.tail _ (.tail _ (.head _)))
  have t20a := t20.c0
  have t20b := t20.c1
  have t20c := t20.c2
  clear t20
  go_wp2_with fail
  clear t20a t20b t20c
  have K := ratCmp_any g_a g_a (a_a) (b_a) (a_a) (b_a) n_a c_a m_a d_a n_a c_a m_a d_a (x_a) (y_a) (x_a) (y_a) w19 ((unhide Aw19).n (a_a) n_a c_a (x_a) (b_a) m_a d_a (y_a) (.tail _ (.tail _ (.tail _ (.tail _ (.tail _ (.head _))))))).num ((unhide Aw19).n (a_a) n_a c_a (x_a) (b_a) m_a d_a (y_a) (.tail _ (.tail _ (.tail _ (.tail _ (.tail _ (.head _))))))).den ((unhide Aw19).n (a_a) n_a c_a (x_a) (b_a) m_a d_a (y_a) (.tail _ (.tail _ (.tail _ (.tail _ (.tail _ (.head _))))))).num ((unhide Aw19).n (a_a) n_a c_a (x_a) (b_a) m_a d_a (y_a) (.tail _ (.tail _ (.tail _ (.tail _ (.tail _ (.head _))))))).den (unhide O_a).1 (unhide O_a).2 (unhide O_a).1 (unhide O_a).2 ((unhide Aw19).tab (.tail _ (.tail _ (.tail _ (.tail _ (.tail _ (.tail _ (.head _))))))))
  rw [unhide HAA] at K
  try unfold ratV at K
  refine K.mono ?_
  clear K
  rintro _ w21 ⟨rfl, hb⟩
  have Aw21 := hide ((unhide Aw19).step hb)
  clear Aw19 hb
  have t22 := (unhide Aw21).r (w.heap.size) (.bool g_a) (.slice a_a n_a c_a) (.slice b_a m_a d_a) (.tail _ (.tail _ (.head _)))
  have t22a := t22.c0
  have t22b := t22.c1
  have t22c := t22.c2
  clear t22
  have t23 := (unhide Aw21).r (w1.heap.size) (.bool g_b) (.slice a_b n_b c_b) (.slice b_b m_b d_b) (.tail _ (.head _))
  have t23a := t23.c0
  have t23b := t23.c1
  have t23c := t23.c2
  clear t23
  go_wp2_with fail
  clear t22a t22b t22c t23a t23b t23c
  have K := sameRat_any g_a g_b (a_a) (b_a) (a_b) (b_b) n_a c_a m_a d_a n_b c_b m_b d_b (x_a) (y_a) (x_b) (y_b) w21 ((unhide Aw21).n (a_a) n_a c_a (x_a) (b_a) m_a d_a (y_a) (.tail _ (.tail _ (.tail _ (.tail _ (.tail _ (.head _))))))).num ((unhide Aw21).n (a_a) n_a c_a (x_a) (b_a) m_a d_a (y_a) (.tail _ (.tail _ (.tail _ (.tail _ (.tail _ (.head _))))))).den ((unhide Aw21).n (a_b) n_b c_b (x_b) (b_b) m_b d_b (y_b) (.tail _ (.tail _ (.tail _ (.tail _ (.head _)))))).num ((unhide Aw21).n (a_b) n_b c_b (x_b) (b_b) m_b d_b (y_b) (.tail _ (.tail _ (.tail _ (.tail _ (.head _)))))).den
  rw [unhide HSM] at K
  try unfold ratV at K
  refine K.mono ?_
  clear K
  rintro _ w24 ⟨rfl, hb⟩
  have Aw24 := hide ((unhide Aw21).step hb)
  clear Aw21 hb
  clear HBA HAA HSM HAB M_a M_b M_c HBC
  have t25 := (unhide Aw24).r (w.heap.size) (.bool g_a) (.slice a_a n_a c_a) (.slice b_a m_a d_a) (.tail _ (.tail _ (.head _)))
  have t25a := t25.c0
  have t25b := t25.c1
  have t25c := t25.c2
  clear t25
  have t26 := (unhide Aw24).r (w1.heap.size) (.bool g_b) (.slice a_b n_b c_b) (.slice b_b m_b d_b) (.tail _ (.head _))
  have t26a := t26.c0
  have t26b := t26.c1
  have t26c := t26.c2
  clear t26
  go_wp2_with fail
  clear t25a t25b t25c t26a t26b t26c
  have K := ratSub_any g_a g_b (a_a) (b_a) (a_b) (b_b) n_a c_a m_a d_a n_b c_b m_b d_b (x_a) (y_a) (x_b) (y_b) w24 ((unhide Aw24).n (a_a) n_a c_a (x_a) (b_a) m_a d_a (y_a) (.tail _ (.tail _ (.tail _ (.tail _ (.tail _ (.head _))))))).num ((unhide Aw24).n (a_a) n_a c_a (x_a) (b_a) m_a d_a (y_a) (.tail _ (.tail _ (.tail _ (.tail _ (.tail _ (.head _))))))).den ((unhide Aw24).n (a_b) n_b c_b (x_b) (b_b) m_b d_b (y_b) (.tail _ (.tail _ (.tail _ (.tail _ (.head _)))))).num ((unhide Aw24).n (a_b) n_b c_b (x_b) (b_b) m_b d_b (y_b) (.tail _ (.tail _ (.tail _ (.tail _ (.head _)))))).den (unhide O_a).1 (unhide O_a).2 (unhide O_b).1 (unhide O_b).2 ((unhide Aw24).tab (.tail _ (.tail _ (.tail _ (.tail _ (.tail _ (.tail _ (.head _))))))))
  rw [unhide HD] at K
  unfold ratV at K
  refine K.mono ?_
  clear K
  rintro _ w27 ⟨v, rfl, a_d27, n_d27, c_d27, b_d27, m_d27, d_d27, rfl, sx, sy, nx, ny, hb⟩
  try dsimp only at sx sy
  unfold ratV
  have Aw27 := hide (((unhide Aw24).step hb).add (fN a_d27 n_d27 c_d27 x_d b_d27 m_d27 d_d27 y_d) ⟨sx, sy⟩)
  clear Aw24 sx sy nx ny hb
  obtain ⟨w28, hw28⟩ : ∃ x, w27.alloc (.cells #[.bool g_d, .slice a_d27 n_d27 c_d27, .slice b_d27 m_d27 d_d27] 25) = x := ⟨_, rfl⟩
  have Aw28 := hide ((unhide Aw27).box (.bool g_d) (.slice a_d27 n_d27 c_d27) (.slice b_d27 m_d27 d_d27) 25)
  rw [hw28] at Aw28
  clear Aw27
  go_wp2_with fail
  refine (rnum2_any e_d w28).mono ?_
  rintro _ w' ⟨rfl, hw⟩
  obtain rfl := hw.symm
  clear hw
  by_cases zd : e_d = 0
  focus
    have hsd := unhide HSD zd
    have HSD2 := hide hsd
    clear hsd HSD
    subst zd
    have t29 := (unhide Aw28).r (w27.heap.size) (.bool g_d) (.slice a_d27 n_d27 c_d27) (.slice b_d27 m_d27 d_d27) (.head _)
    have t29a := t29.c0
    have t29b := t29.c1
    have t29c := t29.c2
    clear t29
    go_wp2_with fail
    clear t29a t29b t29c
    have K := ratSign_any g_d (a_d27) (b_d27) n_d27 c_d27 m_d27 d_d27 (x_d) (y_d) w28 ((unhide Aw28).n (a_d27) n_d27 c_d27 (x_d) (b_d27) m_d27 d_d27 (y_d) (.tail _ (.head _))).num ((unhide Aw28).n (a_d27) n_d27 c_d27 (x_d) (b_d27) m_d27 d_d27 (y_d) (.tail _ (.head _))).den (unhide O_d).1 (unhide O_d).2 ((unhide Aw28).tab (.tail _ (.tail _ (.tail _ (.tail _ (.tail _ (.tail _ (.tail _ (.tail _ (.head _))))))))))
    rw [unhide HSD2] at K
    try unfold ratV at K
    refine K.mono ?_
    clear K
    rintro _ w30 ⟨rfl, hb⟩
    have Aw30 := hide ((unhide Aw28).step hb)
    clear Aw28 hb
    clear HSD2
    obtain ⟨wM2, hwM⟩ : ∃ x, x = w30 := ⟨_, rfl⟩
    subst hwM
    have AM2 := Aw30
    clear Aw30
  rotate_left
  focus
    have zd2 : (e_d == 0) = false := by simpa using zd
    clear HSD
    obtain ⟨wM2, hwM⟩ : ∃ x, x = w28 := ⟨_, rfl⟩
    subst hwM
    have AM2 := Aw28
    clear Aw28
  rotate_left
  all_goals
    have t31 := (unhide AM2).r (w.heap.size) (.bool g_a) (.slice a_a n_a c_a) (.slice b_a m_a d_a) (.tail _ (.tail _ (.tail _ (.tail _ (.head _)))))
    have t31a := t31.c0
    have t31b := t31.c1
    have t31c := t31.c2
    clear t31
    have t32 := (unhide AM2).r (w2.heap.size) (.bool g_c) (.slice a_c n_c c_c) (.slice b_c m_c d_c) (.tail _ (.tail _ (.head _)))
    have t32a := t32.c0
    have t32b := t32.c1
    have t32c := t32.c2
    clear t32
    go_wp2_with fail
    clear t31a t31b t31c t32a t32b t32c
    have K := ratAdd_any g_a g_c (a_a) (b_a) (a_c) (b_c) n_a c_a m_a d_a n_c c_c m_c d_c (x_a) (y_a) (x_c) (y_c) wM2 ((unhide AM2).n (a_a) n_a c_a (x_a) (b_a) m_a d_a (y_a) (.tail _ (.tail _ (.tail _ (.tail _ (.tail _ (.tail _ (.tail _ (.head _))))))))).num ((unhide AM2).n (a_a) n_a c_a (x_a) (b_a) m_a d_a (y_a) (.tail _ (.tail _ (.tail _ (.tail _ (.tail _ (.tail _ (.tail _ (.head _))))))))).den ((unhide AM2).n (a_c) n_c c_c (x_c) (b_c) m_c d_c (y_c) (.tail _ (.tail _ (.tail _ (.tail _ (.tail _ (.head _))))))).num ((unhide AM2).n (a_c) n_c c_c (x_c) (b_c) m_c d_c (y_c) (.tail _ (.tail _ (.tail _ (.tail _ (.tail _ (.head _))))))).den (unhide O_a).1 (unhide O_a).2 (unhide O_c).1 (unhide O_c).2 ((unhide AM2).tab (.tail _ (.tail _ (.tail _ (.tail _ (.tail _ (.tail _ (.tail _ (.tail _ (.head _))))))))))
    rw [unhide HX] at K
    unfold ratV at K
    refine K.mono ?_
    clear K
    rintro _ w33 ⟨v, rfl, a_x33, n_x33, c_x33, b_x33, m_x33, d_x33, rfl, sx, sy, nx, ny, hb⟩
    try dsimp only at sx sy
    unfold ratV
    have Aw33 := hide (((unhide AM2).step hb).add (fN a_x33 n_x33 c_x33 x_x b_x33 m_x33 d_x33 y_x) ⟨sx, sy⟩)
    clear AM2 sx sy nx ny hb
    have AK := Aw33
    have A34s := hide ((unhide Aw33).add (fSince w33) (Below.refl _ _))
    clear Aw33
    obtain ⟨w35, hw35⟩ : ∃ x, w33.alloc (.cells #[.bool g_x, .slice a_x33 n_x33 c_x33, .slice b_x33 m_x33 d_x33] 25) = x := ⟨_, rfl⟩
    have Aw35 := hide ((unhide A34s).box (.bool g_x) (.slice a_x33 n_x33 c_x33) (.slice b_x33 m_x33 d_x33) 25)
    rw [hw35] at Aw35
    clear A34s
    have t36 := (unhide Aw35).r (w1.heap.size) (.bool g_b) (.slice a_b n_b c_b) (.slice b_b m_b d_b) (.tail _ (.tail _ (.tail _ (.tail _ (.tail _ (.tail _ (.head _)))))))
    have t36a := t36.c0
    have t36b := t36.c1
    have t36c := t36.c2
    clear t36
    have t37 := (unhide Aw35).r (w2.heap.size) (.bool g_c) (.slice a_c n_c c_c) (.slice b_c m_c d_c) (.tail _ (.tail _ (.tail _ (.tail _ (.tail _ (.head _))))))
    have t37a := t37.c0
    have t37b := t37.c1
    have t37c := t37.c2
    clear t37
    go_wp2_with fail
    clear t36a t36b t36c t37a t37b t37c
    have K := ratAdd_any g_b g_c (a_b) (b_b) (a_c) (b_c) n_b c_b m_b d_b n_c c_c m_c d_c (x_b) (y_b) (x_c) (y_c) w35 ((unhide Aw35).n (a_b) n_b c_b (x_b) (b_b) m_b d_b (y_b) (.tail _ (.tail _ (.tail _ (.tail _ (.tail _ (.tail _ (.tail _ (.tail _ (.tail _ (.head _))))))))))).num ((unhide Aw35).n (a_b) n_b c_b (x_b) (b_b) m_b d_b (y_b) (.tail _ (.tail _ (.tail _ (.tail _ (.tail _ (.tail _ (.tail _ (.tail _ (.tail _ (.head _))))))))))).den ((unhide Aw35).n (a_c) n_c c_c (x_c) (b_c) m_c d_c (y_c) (.tail _ (.tail _ (.tail _ (.tail _ (.tail _ (.tail _ (.tail _ (.tail _ (.head _)))))))))).num ((unhide Aw35).n (a_c) n_c c_c (x_c) (b_c) m_c d_c (y_c) (.tail _ (.tail _ (.tail _ (.tail _ (.tail _ (.tail _ (.tail _ (.tail _ (.head _)))))))))).den (unhide O_b).1 (unhide O_b).2 (unhide O_c).1 (unhide O_c).2 ((unhide Aw35).tab (.tail _ (.tail _ (.tail _ (.tail _ (.tail _ (.tail _ (.tail _ (.tail _ (.tail _ (.tail _ (.tail _ (.head _)))))))))))))
    rw [unhide HY] at K
    unfold ratV at K
    refine K.mono ?_
    clear K
    rintro _ w38 ⟨v, rfl, a_y38, n_y38, c_y38, b_y38, m_y38, d_y38, rfl, sx, sy, nx, ny, hb⟩
    try dsimp only at sx sy
    unfold ratV
    have Aw38 := hide (((unhide Aw35).step hb).add (fN a_y38 n_y38 c_y38 x_y b_y38 m_y38 d_y38 y_y) ⟨sx, sy⟩)
    clear Aw35 sx sy nx ny hb
    have RXY := hide (((unhide Aw38).r (w33.heap.size) (.bool g_x) (.slice a_x33 n_x33 c_x33) (.slice b_x33 m_x33 d_x33) (.tail _ (.head _))).lt)
    obtain ⟨w39, hw39⟩ : ∃ x, w38.alloc (.cells #[.bool g_y, .slice a_y38 n_y38 c_y38, .slice b_y38 m_y38 d_y38] 25) = x := ⟨_, rfl⟩
    have Aw39 := hide ((unhide Aw38).box (.bool g_y) (.slice a_y38 n_y38 c_y38) (.slice b_y38 m_y38 d_y38) 25)
    rw [hw39] at Aw39
    clear Aw38
    go_wp2_with fail
    refine (rnum2_any e_x w39).mono ?_
    rintro _ w' ⟨rfl, hw⟩
    obtain rfl := hw.symm
    clear hw
    clear HX HY HD
    by_cases zx : e_x = 0
    focus
      subst zx
      go_wp2_with fail
      refine (rnum2_any e_y w39).mono ?_
      rintro _ w' ⟨rfl, hw⟩
      obtain rfl := hw.symm
      clear hw
      by_cases zy : e_y = 0
      focus
        subst zy
        have hxy := unhide HXY (by simp) (by simp)
        have HXY2 := hide hxy
        clear hxy HXY
        have t40 := (unhide Aw39).r (w33.heap.size) (.bool g_x) (.slice a_x33 n_x33 c_x33) (.slice b_x33 m_x33 d_x33) (.tail _ (.tail _ (.head _)))
        have t40a := t40.c0
        have t40b := t40.c1
        have t40c := t40.c2
        clear t40
        have t41 := (unhide Aw39).r (w38.heap.size) (.bool g_y) (.slice a_y38 n_y38 c_y38) (.slice b_y38 m_y38 d_y38) (.head _)
        have t41a := t41.c0
        have t41b := t41.c1
        have t41c := t41.c2
        clear t41
        go_wp2_with fail
        clear t40a t40b t40c t41a t41b t41c
        have K := ratCmp_any g_x g_y (a_x33) (b_x33) (a_y38) (b_y38) n_x33 c_x33 m_x33 d_x33 n_y38 c_y38 m_y38 d_y38 (x_x) (y_x) (x_y) (y_y) w39 ((unhide Aw39).n (a_x33) n_x33 c_x33 (x_x) (b_x33) m_x33 d_x33 (y_x) (.tail _ (.tail _ (.tail _ (.tail _ (.head _)))))).num ((unhide Aw39).n (a_x33) n_x33 c_x33 (x_x) (b_x33) m_x33 d_x33 (y_x) (.tail _ (.tail _ (.tail _ (.tail _ (.head _)))))).den ((unhide Aw39).n (a_y38) n_y38 c_y38 (x_y) (b_y38) m_y38 d_y38 (y_y) (.tail _ (.head _))).num ((unhide Aw39).n (a_y38) n_y38 c_y38 (x_y) (b_y38) m_y38 d_y38 (y_y) (.tail _ (.head _))).den (unhide O_x).1 (unhide O_x).2 (unhide O_y).1 (unhide O_y).2 ((unhide Aw39).tab (.tail _ (.tail _ (.tail _ (.tail _ (.tail _ (.tail _ (.tail _ (.tail _ (.tail _ (.tail _ (.tail _ (.tail _ (.tail _ (.head _)))))))))))))))
        rw [unhide HXY2] at K
        try unfold ratV at K
        refine K.mono ?_
        clear K
        rintro _ w42 ⟨rfl, hb⟩
        have Aw42 := hide ((unhide Aw39).step hb)
        clear Aw39 hb
        clear HXY2
        obtain ⟨wM3, hwM⟩ : ∃ x, x = w42 := ⟨_, rfl⟩
        subst hwM
        have AM3 := Aw42
        clear Aw42
      rotate_left
      focus
        have zy2 : (e_y == 0) = false := by simpa using zy
        clear HXY
        obtain ⟨wM3, hwM⟩ : ∃ x, x = w39 := ⟨_, rfl⟩
        subst hwM
        have AM3 := Aw39
        clear Aw39
      rotate_left
    rotate_left 2
    focus
      have zx2 : (e_x == 0) = false := by simpa using zx
      clear HXY
      obtain ⟨wM3, hwM⟩ : ∃ x, x = w39 := ⟨_, rfl⟩
      subst hwM
      have AM3 := Aw39
      clear Aw39
    rotate_left
    all_goals
      have t43 := (unhide AM3).r (w.heap.size) (.bool g_a) (.slice a_a n_a c_a) (.slice b_a m_a d_a) (.tail _ (.tail _ (.tail _ (.tail _ (.tail _ (.tail _ (.tail _ (.tail _ (.tail _ (.head _))))))))))
      have t43a := t43.c0
      have t43b := t43.c1
      have t43c := t43.c2
      clear t43
      have t44 := (unhide AM3).r (w2.heap.size) (.bool g_c) (.slice a_c n_c c_c) (.slice b_c m_c d_c) (.tail _ (.tail _ (.tail _ (.tail _ (.tail _ (.tail _ (.tail _ (.head _))))))))
      have t44a := t44.c0
      have t44b := t44.c1
      have t44c := t44.c2
      clear t44
      go_wp2_with fail
      clear t43a t43b t43c t44a t44b t44c
      have K := ratMul_any g_a g_c (a_a) (b_a) (a_c) (b_c) n_a c_a m_a d_a n_c c_c m_c d_c (x_a) (y_a) (x_c) (y_c) wM3 ((unhide AM3).n (a_a) n_a c_a (x_a) (b_a) m_a d_a (y_a) (.tail _ (.tail _ (.tail _ (.tail _ (.tail _ (.tail _ (.tail _ (.tail _ (.tail _ (.tail _ (.tail _ (.tail _ (.head _)))))))))))))).num ((unhide AM3).n (a_a) n_a c_a (x_a) (b_a) m_a d_a (y_a) (.tail _ (.tail _ (.tail _ (.tail _ (.tail _ (.tail _ (.tail _ (.tail _ (.tail _ (.tail _ (.tail _ (.tail _ (.head _)))))))))))))).den ((unhide AM3).n (a_c) n_c c_c (x_c) (b_c) m_c d_c (y_c) (.tail _ (.tail _ (.tail _ (.tail _ (.tail _ (.tail _ (.tail _ (.tail _ (.tail _ (.tail _ (.head _)))))))))))).num ((unhide AM3).n (a_c) n_c c_c (x_c) (b_c) m_c d_c (y_c) (.tail _ (.tail _ (.tail _ (.tail _ (.tail _ (.tail _ (.tail _ (.tail _ (.tail _ (.tail _ (.head _)))))))))))).den (unhide O_a).1 (unhide O_a).2 (unhide O_c).1 (unhide O_c).2 ((unhide AM3).tab (.tail _ (.tail _ (.tail _ (.tail _ (.tail _ (.tail _ (.tail _ (.tail _ (.tail _ (.tail _ (.tail _ (.tail _ (.tail _ (.head _)))))))))))))))
      rw [unhide HU] at K
      unfold ratV at K
      refine K.mono ?_
      clear K
      rintro _ w45 ⟨v, rfl, a_u45, n_u45, c_u45, b_u45, m_u45, d_u45, rfl, sx, sy, nx, ny, hb⟩
      try dsimp only at sx sy
      unfold ratV
      have hA := (unhide AM3).step hb
      have tx := hA.r (w33.heap.size) (.bool g_x) (.slice a_x33 n_x33 c_x33) (.slice b_x33 m_x33 d_x33) (.tail _ (.tail _ (.head _)))
      have ty := hA.r (w38.heap.size) (.bool g_y) (.slice a_y38 n_y38 c_y38) (.slice b_y38 m_y38 d_y38) (.head _)
      have hs := hA.since w33 (.tail _ (.tail _ (.tail _ (.head _))))
      have lx := ((unhide AM3).r (w33.heap.size) (.bool g_x) (.slice a_x33 n_x33 c_x33) (.slice b_x33 m_x33 d_x33) (.tail _ (.tail _ (.head _)))).lt
      have ly := ((unhide AM3).r (w38.heap.size) (.bool g_y) (.slice a_y38 n_y38 c_y38) (.slice b_y38 m_y38 d_y38) (.head _)).lt
      have c4 := (three_set w45 (w33.heap.size) (.bool g_u) (.slice a_u45 n_u45 c_u45) (.slice b_u45 m_u45 d_u45) tx.out.cells).2.2.2
      have hJ := alive_join (x := x_u) (y := y_u) (unhide AK) hs (Nat.le_refl _) tx.out sx sy (fun p hp h => by have := nx p hp; omega) (fun p hp h => by have := ny p hp; omega) g_u
      have hJ2 := (hJ.add (fR (w38.heap.size) (.bool g_y) (.slice a_y38 n_y38 c_y38) (.slice b_y38 m_y38 d_y38)) (ty.chg c4 (fun h => by have := unhide RXY; omega))).add (fSince w33) (hs.trans (c4.below hs.size (fun k hk h => by omega)))
      have NU := hide (show (∀ p, a_u45 = some p → p.block ≠ w38.heap.size) ∧ (∀ p, b_u45 = some p → p.block ≠ w38.heap.size) from ⟨fun p hp h => by have := nx p hp; omega, fun p hp h => by have := ny p hp; omega⟩)
      have tx0 := tx.c0
      have fx0 := tx.f0
      have tx1 := tx.c1
      have fx1 := tx.f1
      have tx2 := tx.c2
      have fx2 := tx.f2
      have HJ := hide hJ2
      clear hA tx ty hs lx ly c4 hJ hJ2 sx sy nx ny hb AM3
      have t46 := (unhide HJ).r (w1.heap.size) (.bool g_b) (.slice a_b n_b c_b) (.slice b_b m_b d_b) (.tail _ (.tail _ (.tail _ (.tail _ (.tail _ (.tail _ (.tail _ (.tail _ (.head _)))))))))
      have t46a := t46.c0
      have t46b := t46.c1
      have t46c := t46.c2
      clear t46
      have t47 := (unhide HJ).r (w2.heap.size) (.bool g_c) (.slice a_c n_c c_c) (.slice b_c m_c d_c) (.tail _ (.tail _ (.tail _ (.tail _ (.tail _ (.tail _ (.tail _ (.head _))))))))
      have t47a := t47.c0
      have t47b := t47.c1
      have t47c := t47.c2
      clear t47
      go_wp2_with fail
      clear t46a t46b t46c t47a t47b t47c tx0 tx1 tx2 fx0 fx1 fx2
      generalize ((w45.setCell ⟨w33.heap.size, 0, none⟩ (.bool g_u)).setCell ⟨w33.heap.size, 1, none⟩ (.slice a_u45 n_u45 c_u45)).setCell ⟨w33.heap.size, 2, none⟩ (.slice b_u45 m_u45 d_u45) = w48 at *
      have K := ratMul_any g_b g_c (a_b) (b_b) (a_c) (b_c) n_b c_b m_b d_b n_c c_c m_c d_c (x_b) (y_b) (x_c) (y_c) w48 ((unhide HJ).n (a_b) n_b c_b (x_b) (b_b) m_b d_b (y_b) (.tail _ (.tail _ (.tail _ (.tail _ (.tail _ (.tail _ (.tail _ (.tail _ (.tail _ (.tail _ (.tail _ (.head _))))))))))))).num ((unhide HJ).n (a_b) n_b c_b (x_b) (b_b) m_b d_b (y_b) (.tail _ (.tail _ (.tail _ (.tail _ (.tail _ (.tail _ (.tail _ (.tail _ (.tail _ (.tail _ (.tail _ (.head _))))))))))))).den ((unhide HJ).n (a_c) n_c c_c (x_c) (b_c) m_c d_c (y_c) (.tail _ (.tail _ (.tail _ (.tail _ (.tail _ (.tail _ (.tail _ (.tail _ (.tail _ (.tail _ (.head _)))))))))))).num ((unhide HJ).n (a_c) n_c c_c (x_c) (b_c) m_c d_c (y_c) (.tail _ (.tail _ (.tail _ (.tail _ (.tail _ (.tail _ (.tail _ (.tail _ (.tail _ (.tail _ (.head _)))))))))))).den (unhide O_b).1 (unhide O_b).2 (unhide O_c).1 (unhide O_c).2 ((unhide HJ).tab (.tail _ (.tail _ (.tail _ (.tail _ (.tail _ (.tail _ (.tail _ (.tail _ (.tail _ (.tail _ (.tail _ (.tail _ (.tail _ (.head _)))))))))))))))
      rw [unhide HV] at K
      unfold ratV at K
      refine K.mono ?_
      clear K
      rintro _ w49 ⟨v, rfl, a_v49, n_v49, c_v49, b_v49, m_v49, d_v49, rfl, sx, sy, nx, ny, hb⟩
      try dsimp only at sx sy
      unfold ratV
      have hA := (unhide HJ).step hb
      have tx := hA.r (w33.heap.size) (.bool g_u) (.slice a_u45 n_u45 c_u45) (.slice b_u45 m_u45 d_u45) (.tail _ (.tail _ (.head _)))
      have ty := hA.r (w38.heap.size) (.bool g_y) (.slice a_y38 n_y38 c_y38) (.slice b_y38 m_y38 d_y38) (.tail _ (.head _))
      have hs := hA.since w33 (.head _)
      have nu := hA.n (a_u45) n_u45 c_u45 (x_u) (b_u45) m_u45 d_u45 (y_u) (.tail _ (.tail _ (.tail _ (.head _))))
      have ly := ((unhide HJ).r (w38.heap.size) (.bool g_y) (.slice a_y38 n_y38 c_y38) (.slice b_y38 m_y38 d_y38) (.tail _ (.head _))).lt
      have c4 := (three_set w49 (w38.heap.size) (.bool g_v) (.slice a_v49 n_v49 c_v49) (.slice b_v49 m_v49 d_v49) ty.out.cells).2.2.2
      have hJ := alive_join (x := x_v) (y := y_v) (unhide AK) hs (Nat.le_of_lt (unhide RXY)) ty.out sx sy (fun p hp h => by have := nx p hp; omega) (fun p hp h => by have := ny p hp; omega) g_v
      have hJ2 := (hJ.add (fN (a_u45) n_u45 c_u45 (x_u) (b_u45) m_u45 d_u45 (y_u)) ⟨nu.num.chg c4 (fun p hp _ => (unhide NU).1 p hp), nu.den.chg c4 (fun p hp _ => (unhide NU).2 p hp)⟩).add (fR (w33.heap.size) (.bool g_u) (.slice a_u45 n_u45 c_u45) (.slice b_u45 m_u45 d_u45)) (tx.chg c4 (fun h => by have := unhide RXY; omega))
      have ty0 := ty.c0
      have fy0 := ty.f0
      have ty1 := ty.c1
      have fy1 := ty.f1
      have ty2 := ty.c2
      have fy2 := ty.f2
      have HJ3 := hide hJ2
      clear hA tx ty hs nu ly c4 hJ hJ2 sx sy nx ny hb HJ NU AK RXY
      go_wp2_with fail
      clear ty0 ty1 ty2 fy0 fy1 fy2
      generalize ((w49.setCell ⟨w38.heap.size, 0, none⟩ (.bool g_v)).setCell ⟨w38.heap.size, 1, none⟩ (.slice a_v49 n_v49 c_v49)).setCell ⟨w38.heap.size, 2, none⟩ (.slice b_v49 m_v49 d_v49) = w50 at *
      by_cases zu : e_u = 0
      · subst zu
        by_cases zv : e_v = 0
        · subst zv
          have huv := unhide HUV (by simp) (by simp)
          have HUV2 := hide huv
          clear huv
          rcases unhide HS1 with hq | hq | hq
          all_goals
            subst hq
            have t51 := (unhide HJ3).r (w33.heap.size) (.bool g_u) (.slice a_u45 n_u45 c_u45) (.slice b_u45 m_u45 d_u45) (.head _)
            have t51a := t51.c0
            have t51b := t51.c1
            have t51c := t51.c2
            clear t51
            have t52 := (unhide HJ3).r (w38.heap.size) (.bool g_v) (.slice a_v49 n_v49 c_v49) (.slice b_v49 m_v49 d_v49) (.tail _ (.tail _ (.head _)))
            have t52a := t52.c0
            have t52b := t52.c1
            have t52c := t52.c2
            clear t52
            have t53 := (unhide HJ3).r (w2.heap.size) (.bool g_c) (.slice a_c n_c c_c) (.slice b_c m_c d_c) (.tail _ (.tail _ (.tail _ (.tail _ (.tail _ (.tail _ (.tail _ (.head _))))))))
            have t53a := t53.c0
            have t53b := t53.c1
            have t53c := t53.c2
            clear t53
            have AX54 := hide (fun x : Ext w50 => (unhide HJ3).step x.bel)
            have hNE54 := Ext.ne w50
            have Ft51a := fun x : Ext w50 => x.cell t51a
            have Ft51b := fun x : Ext w50 => x.cell t51b
            have Ft51c := fun x : Ext w50 => x.cell t51c
            have Ft52a := fun x : Ext w50 => x.cell t52a
            have Ft52b := fun x : Ext w50 => x.cell t52b
            have Ft52c := fun x : Ext w50 => x.cell t52c
            have Ft53a := fun x : Ext w50 => x.cell t53a
            have Ft53b := fun x : Ext w50 => x.cell t53b
            have Ft53c := fun x : Ext w50 => x.cell t53c
            have K := fun x : Ext w50 => ratCmp_any g_u g_v (a_u45) (b_u45) (a_v49) (b_v49) n_u45 c_u45 m_u45 d_u45 n_v49 c_v49 m_v49 d_v49 (x_u) (y_u) (x_v) (y_v) x.w ((unhide AX54 x).n (a_u45) n_u45 c_u45 (x_u) (b_u45) m_u45 d_u45 (y_u) (.tail _ (.head _))).num ((unhide AX54 x).n (a_u45) n_u45 c_u45 (x_u) (b_u45) m_u45 d_u45 (y_u) (.tail _ (.head _))).den ((unhide AX54 x).n (a_v49) n_v49 c_v49 (x_v) (b_v49) m_v49 d_v49 (y_v) (.tail _ (.tail _ (.tail _ (.head _))))).num ((unhide AX54 x).n (a_v49) n_v49 c_v49 (x_v) (b_v49) m_v49 d_v49 (y_v) (.tail _ (.tail _ (.tail _ (.head _))))).den (unhide O_u).1 (unhide O_u).2 (unhide O_v).1 (unhide O_v).2 ((unhide AX54 x).tab (.tail _ (.tail _ (.tail _ (.tail _ (.tail _ (.tail _ (.tail _ (.tail _ (.tail _ (.tail _ (.tail _ (.tail _ (.tail _ (.head _)))))))))))))))
            rw [unhide HUV2] at K
            try unfold ratV at K
            have HK54_1 := hide K
            clear K
            have K := fun x : Ext w50 => ratSign_any g_c (a_c) (b_c) n_c c_c m_c d_c (x_c) (y_c) x.w ((unhide AX54 x).n (a_c) n_c c_c (x_c) (b_c) m_c d_c (y_c) (.tail _ (.tail _ (.tail _ (.tail _ (.tail _ (.tail _ (.tail _ (.tail _ (.tail _ (.tail _ (.head _)))))))))))).num ((unhide AX54 x).n (a_c) n_c c_c (x_c) (b_c) m_c d_c (y_c) (.tail _ (.tail _ (.tail _ (.tail _ (.tail _ (.tail _ (.tail _ (.tail _ (.tail _ (.tail _ (.head _)))))))))))).den (unhide O_c).1 (unhide O_c).2 ((unhide AX54 x).tab (.tail _ (.tail _ (.tail _ (.tail _ (.tail _ (.tail _ (.tail _ (.tail _ (.tail _ (.tail _ (.tail _ (.tail _ (.tail _ (.head _)))))))))))))))
            rw [unhide HSC] at K
            try unfold ratV at K
            have HK54_2 := hide K
            clear K
            try go_wp2_with fail
            clear t51a t51b t51c t52a t52b t52c t53a t53b t53c
            refine wp_region_ext (by kernel_rfl) (by kernel_rfl) ?_
            repeat (go_big_quiet_step (first
              | (go_at_call 9; rename_i x; exact Ext.call (rnumB_any _ x.w) (fun e w' h => h))
              | (go_at_call 6; rename_i x; exact Ext.call (unhide HK54_1 x) (fun e w' h => h))
              | (go_at_call 10; rename_i x; exact Ext.call (unhide HK54_2 x) (fun e w' h => h))))
            refine wpQuiet_nil ?_
            rintro _ ⟨x54, rfl⟩
            have A54 := hide (unhide AX54 x54)
            clear AX54 HJ3 Ft51a Ft51b Ft51c Ft52a Ft52b Ft52c Ft53a Ft53b Ft53c HK54_1 HK54_2
            go_wp2_with fail
            go_ret
            exact ⟨rfl, (unhide A54).bel⟩
        · have zv2 : (e_v != 0) = true := by simpa using zv
          have t55 := (unhide HJ3).r (w33.heap.size) (.bool g_u) (.slice a_u45 n_u45 c_u45) (.slice b_u45 m_u45 d_u45) (.head _)
          have t55a := t55.c0
          have t55b := t55.c1
          have t55c := t55.c2
          clear t55
          have t56 := (unhide HJ3).r (w38.heap.size) (.bool g_v) (.slice a_v49 n_v49 c_v49) (.slice b_v49 m_v49 d_v49) (.tail _ (.tail _ (.head _)))
          have t56a := t56.c0
          have t56b := t56.c1
          have t56c := t56.c2
          clear t56
          have t57 := (unhide HJ3).r (w2.heap.size) (.bool g_c) (.slice a_c n_c c_c) (.slice b_c m_c d_c) (.tail _ (.tail _ (.tail _ (.tail _ (.tail _ (.tail _ (.tail _ (.head _))))))))
          have t57a := t57.c0
          have t57b := t57.c1
          have t57c := t57.c2
          clear t57
          have AX58 := hide (fun x : Ext w50 => (unhide HJ3).step x.bel)
          have hNE58 := Ext.ne w50
          have Ft55a := fun x : Ext w50 => x.cell t55a
          have Ft55b := fun x : Ext w50 => x.cell t55b
          have Ft55c := fun x : Ext w50 => x.cell t55c
          have Ft56a := fun x : Ext w50 => x.cell t56a
          have Ft56b := fun x : Ext w50 => x.cell t56b
          have Ft56c := fun x : Ext w50 => x.cell t56c
          have Ft57a := fun x : Ext w50 => x.cell t57a
          have Ft57b := fun x : Ext w50 => x.cell t57b
          have Ft57c := fun x : Ext w50 => x.cell t57c
          try go_wp2_with fail
          clear t55a t55b t55c t56a t56b t56c t57a t57b t57c
          refine wp_region_ext (by kernel_rfl) (by kernel_rfl) ?_
          repeat (go_big_quiet_step (first
            | (go_at_call 9; rename_i x; exact Ext.call (rnumB_any _ x.w) (fun e w' h => h))))
          refine wpQuiet_nil ?_
          rintro _ ⟨x58, rfl⟩
          have A58 := hide (unhide AX58 x58)
          clear AX58 HJ3 Ft55a Ft55b Ft55c Ft56a Ft56b Ft56c Ft57a Ft57b Ft57c
          go_wp2_with fail
          go_ret
          exact ⟨rfl, (unhide A58).bel⟩
      · have zu2 : (e_u != 0) = true := by simpa using zu
        have t59 := (unhide HJ3).r (w33.heap.size) (.bool g_u) (.slice a_u45 n_u45 c_u45) (.slice b_u45 m_u45 d_u45) (.head _)
        have t59a := t59.c0
        have t59b := t59.c1
        have t59c := t59.c2
        clear t59
        have t60 := (unhide HJ3).r (w38.heap.size) (.bool g_v) (.slice a_v49 n_v49 c_v49) (.slice b_v49 m_v49 d_v49) (.tail _ (.tail _ (.head _)))
        have t60a := t60.c0
        have t60b := t60.c1
        have t60c := t60.c2
        clear t60
        have t61 := (unhide HJ3).r (w2.heap.size) (.bool g_c) (.slice a_c n_c c_c) (.slice b_c m_c d_c) (.tail _ (.tail _ (.tail _ (.tail _ (.tail _ (.tail _ (.tail _ (.head _))))))))
        have t61a := t61.c0
        have t61b := t61.c1
        have t61c := t61.c2
        clear t61
        have AX62 := hide (fun x : Ext w50 => (unhide HJ3).step x.bel)
        have hNE62 := Ext.ne w50
        have Ft59a := fun x : Ext w50 => x.cell t59a
        have Ft59b := fun x : Ext w50 => x.cell t59b
        have Ft59c := fun x : Ext w50 => x.cell t59c
        have Ft60a := fun x : Ext w50 => x.cell t60a
        have Ft60b := fun x : Ext w50 => x.cell t60b
        have Ft60c := fun x : Ext w50 => x.cell t60c
        have Ft61a := fun x : Ext w50 => x.cell t61a
        have Ft61b := fun x : Ext w50 => x.cell t61b
        have Ft61c := fun x : Ext w50 => x.cell t61c
        try go_wp2_with fail
        clear t59a t59b t59c t60a t60b t60c t61a t61b t61c
        refine wp_region_ext (by kernel_rfl) (by kernel_rfl) ?_
        repeat (go_big_quiet_step (first
          | (go_at_call 9; rename_i x; exact Ext.call (rnumB_any _ x.w) (fun e w' h => h))))
        refine wpQuiet_nil ?_
        rintro _ ⟨x62, rfl⟩
        have A62 := hide (unhide AX62 x62)
        clear AX62 HJ3 Ft59a Ft59b Ft59c Ft60a Ft60b Ft60c Ft61a Ft61b Ft61c
        go_wp2_with fail
        go_ret
        exact ⟨rfl, (unhide A62).bel⟩
end Go.Proofs.YtmoocldoinlimaaGreatDoor
