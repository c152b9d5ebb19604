/-
  THE LAW RationalField: out of the contracts; the row's step.
-/
import Derived.Test.YtjjeinfoeipjnaaGreatDoorRf4
import Derived.Test.YtjjeinfoeipjnaaGreatDoorRl6
import Derived.Test.YtjjeinfoeipjnaaGreatDoorRl2
namespace Go.Proofs.YtjjeinfoeipjnaaGreatDoor
open Go.ChangeShapes Go.WideShapes Go.ChangeAt Go.RowKit Go.Deep
set_option linter.unusedVariables false

set_option maxRecDepth 100000 in
set_option maxHeartbeats 64000000 in
theorem rationalField_yes (g_a : Bool) (a_a : Option Addr) (n_a c_a : Nat) (x_a : List Nat) (b_a : Option Addr) (m_a d_a : Nat) (y_a : List Nat) (g_b : Bool) (a_b : Option Addr) (n_b c_b : Nat) (x_b : List Nat) (b_b : Option Addr) (m_b d_b : Nat) (y_b : List Nat) (g_c : Bool) (a_c : Option Addr) (n_c c_c : Nat) (x_c : List Nat) (b_c : Option Addr) (m_c d_c : Nat) (y_c : List Nat) (w : World) (hx_a : Sl w a_a n_a c_a x_a) (hy_a : Sl w b_a m_a d_a y_a) (ox_a : Ok x_a) (oy_a : Ok y_a) (hx_b : Sl w a_b n_b c_b x_b) (hy_b : Sl w b_b m_b d_b y_b) (ox_b : Ok x_b) (oy_b : Ok y_b) (hx_c : Sl w a_c n_c c_c x_c) (hy_c : Sl w b_c m_c d_c y_c) (ox_c : Ok x_c) (oy_c : Ok y_c) (hT : Tab64 w) (k_a : MayR g_a x_a y_a = true) (k_b : MayR g_b x_b y_b = true) (k_c : MayR g_c x_c y_c = true) :
    Calls Tryz.prog 4 #[ratV g_a a_a n_a c_a b_a m_a d_a, ratV g_b a_b n_b c_b b_b m_b d_b, ratV g_c a_c n_c c_c b_c m_c d_c] w fun e w' => e = .returned (.bool true) ∧ Below w.heap.size w w' := by
  have A00 : Fcts w w [fTab] := ⟨Below.refl _ _, fun f hf => by simp at hf; subst hf; exact hT⟩
  have A01 := A00.add (fN a_a n_a c_a x_a b_a m_a d_a y_a) ⟨hx_a, hy_a⟩
  have O_a := hide (And.intro ox_a oy_a)
  have A02 := A01.add (fN a_b n_b c_b x_b b_b m_b d_b y_b) ⟨hx_b, hy_b⟩
  have O_b := hide (And.intro ox_b oy_b)
  have A03 := A02.add (fN a_c n_c c_c x_c b_c m_c d_c y_c) ⟨hx_c, hy_c⟩
  have O_c := hide (And.intro ox_c oy_c)
  have A0 := hide A03
  have M_a := hide k_a
  have M_b := hide k_b
  have M_c := hide k_c
  obtain ⟨P_a, hP_a⟩ : ∃ z, nI g_a (val x_a) = z := ⟨_, rfl⟩
  obtain ⟨Q_a, hQ_a⟩ : ∃ z, (val y_a : Int) = z := ⟨_, rfl⟩
  have V_a := hide (show Fr g_a x_a y_a P_a Q_a by rw [← hP_a, ← hQ_a]; exact Fr.self k_a)
  obtain ⟨P_b, hP_b⟩ : ∃ z, nI g_b (val x_b) = z := ⟨_, rfl⟩
  obtain ⟨Q_b, hQ_b⟩ : ∃ z, (val y_b : Int) = z := ⟨_, rfl⟩
  have V_b := hide (show Fr g_b x_b y_b P_b Q_b by rw [← hP_b, ← hQ_b]; exact Fr.self k_b)
  obtain ⟨P_c, hP_c⟩ : ∃ z, nI g_c (val x_c) = z := ⟨_, rfl⟩
  obtain ⟨Q_c, hQ_c⟩ : ∃ z, (val y_c : Int) = z := ⟨_, rfl⟩
  have V_c := hide (show Fr g_c x_c y_c P_c Q_c by rw [← hP_c, ← hQ_c]; exact Fr.self k_c)
  have HBackS := hide (fun (g : Bool) (x y : List Nat) (h : Fr g x y (P_a * Q_b + P_b * Q_a) (Q_a * Q_b)) => (show SubF g x y g_b x_b y_b = ((g_a, x_a, y_a), 0) from by subst hP_a hQ_a hP_b hQ_b; exact subF_back ox_a oy_a k_a k_b h))
  have HBackP := hide (fun (g : Bool) (x y : List Nat) (hz : x_b ≠ []) (h : Fr g x y (P_a * P_b) (Q_a * Q_b)) => (show DivF g x y g_b x_b y_b = ((g_a, x_a, y_a), 0) from by subst hP_a hQ_a hP_b hQ_b; exact divF_back ox_a oy_a k_a k_b hz h))
  clear hP_a hQ_a hP_b hQ_b hP_c hQ_c
  obtain ⟨⟨g_i, x_i, y_i, e_i⟩, hi⟩ : ∃ r, invL g_a x_a y_a = r := ⟨_, rfl⟩
  have O_i := hide (show Ok x_i ∧ Ok y_i by have := invL_lists (g := g_a) ox_a oy_a; rw [hi] at this; exact this)
  obtain ⟨⟨g_j, x_j, y_j, e_j⟩, hj⟩ : ∃ r, invL g_i x_i y_i = r := ⟨_, rfl⟩
  have HI := hide hi
  have HJJ := hide hj
  obtain ⟨sb, hsb⟩ : ∃ r, SignF g_b x_b y_b = r := ⟨_, rfl⟩
  obtain ⟨sa, hsa⟩ : ∃ r, SignF g_a x_a y_a = r := ⟨_, rfl⟩
  have HSB := hide hsb
  have HSA := hide hsa
  clear hi hj hsb hsa
  clear k_a k_b k_c
  clear A00 hT hx_a hy_a A01 ox_a oy_a hx_b hy_b A02 ox_b oy_b hx_c hy_c A03 ox_c oy_c
  unfold ratV
  obtain ⟨w1, hw1⟩ : ∃ x, w.alloc (.cells #[.bool g_a, .slice a_a n_a c_a, .slice b_a m_a d_a] 25) = x := ⟨_, rfl⟩
  have Aw1 := hide ((unhide A0).box (.bool g_a) (.slice a_a n_a c_a) (.slice b_a m_a d_a) 25)
  rw [hw1] at Aw1
  clear A0
  obtain ⟨w2, hw2⟩ : ∃ x, w1.alloc (.cells #[.bool g_b, .slice a_b n_b c_b, .slice b_b m_b d_b] 25) = x := ⟨_, rfl⟩
  have Aw2 := hide ((unhide Aw1).box (.bool g_b) (.slice a_b n_b c_b) (.slice b_b m_b d_b) 25)
  rw [hw2] at Aw2
  clear Aw1
  obtain ⟨w3, hw3⟩ : ∃ x, w2.alloc (.cells #[.bool g_c, .slice a_c n_c c_c, .slice b_c m_c d_c] 25) = x := ⟨_, rfl⟩
  have Aw3 := hide ((unhide Aw2).box (.bool g_c) (.slice a_c n_c c_c) (.slice b_c m_c d_c) 25)
  rw [hw3] at Aw3
  clear Aw2
  go_enter Tryz.func4, Tryz.ntmps4
  have t4 := (unhide Aw3).r (w.heap.size) (.bool g_a) (.slice a_a n_a c_a) (.slice b_a m_a d_a) (.tail _ (.tail _ (.head _)))
  have t4a := t4.c0
  have t4b := t4.c1
  have t4c := t4.c2
  clear t4
  go_wp2_with fail
  clear t4a t4b t4c
  have K := ratMay_any g_a (a_a) (b_a) n_a c_a m_a d_a (x_a) (y_a)  w3 ((unhide Aw3).n (a_a) n_a c_a (x_a) (b_a) m_a d_a (y_a) (.tail _ (.tail _ (.tail _ (.tail _ (.tail _ (.head _))))))).num ((unhide Aw3).n (a_a) n_a c_a (x_a) (b_a) m_a d_a (y_a) (.tail _ (.tail _ (.tail _ (.tail _ (.tail _ (.head _))))))).den (unhide O_a).1 (unhide O_a).2 ((unhide Aw3).tab (.tail _ (.tail _ (.tail _ (.tail _ (.tail _ (.tail _ (.head _))))))))
  rw [unhide M_a] at K
  try unfold ratV at K
  refine K.mono ?_
  clear K
  rintro _ w5 ⟨rfl, hb⟩
  have Aw5 := hide ((unhide Aw3).step hb)
  clear Aw3 hb
  have t6 := (unhide Aw5).r (w1.heap.size) (.bool g_b) (.slice a_b n_b c_b) (.slice b_b m_b d_b) (.tail _ (.head _))
  have t6a := t6.c0
  have t6b := t6.c1
  have t6c := t6.c2
  clear t6
  go_wp2_with fail
  clear t6a t6b t6c
  have K := ratMay_any g_b (a_b) (b_b) n_b c_b m_b d_b (x_b) (y_b)  w5 ((unhide Aw5).n (a_b) n_b c_b (x_b) (b_b) m_b d_b (y_b) (.tail _ (.tail _ (.tail _ (.tail _ (.head _)))))).num ((unhide Aw5).n (a_b) n_b c_b (x_b) (b_b) m_b d_b (y_b) (.tail _ (.tail _ (.tail _ (.tail _ (.head _)))))).den (unhide O_b).1 (unhide O_b).2 ((unhide Aw5).tab (.tail _ (.tail _ (.tail _ (.tail _ (.tail _ (.tail _ (.head _))))))))
  rw [unhide M_b] at K
  try unfold ratV at K
  refine K.mono ?_
  clear K
  rintro _ w7 ⟨rfl, hb⟩
  have Aw7 := hide ((unhide Aw5).step hb)
  clear Aw5 hb
  have t8 := (unhide Aw7).r (w2.heap.size) (.bool g_c) (.slice a_c n_c c_c) (.slice b_c m_c d_c) (.head _)
  have t8a := t8.c0
  have t8b := t8.c1
  have t8c := t8.c2
  clear t8
  go_wp2_with fail
  clear t8a t8b t8c
  have K := ratMay_any g_c (a_c) (b_c) n_c c_c m_c d_c (x_c) (y_c)  w7 ((unhide Aw7).n (a_c) n_c c_c (x_c) (b_c) m_c d_c (y_c) (.tail _ (.tail _ (.tail _ (.head _))))).num ((unhide Aw7).n (a_c) n_c c_c (x_c) (b_c) m_c d_c (y_c) (.tail _ (.tail _ (.tail _ (.head _))))).den (unhide O_c).1 (unhide O_c).2 ((unhide Aw7).tab (.tail _ (.tail _ (.tail _ (.tail _ (.tail _ (.tail _ (.head _))))))))
  rw [unhide M_c] at K
  try unfold ratV at K
  refine K.mono ?_
  clear K
  rintro _ w9 ⟨rfl, hb⟩
  have Aw9 := hide ((unhide Aw7).step hb)
  clear Aw7 hb
  go_wp2_with fail
  have K := ralive_any w9 ((unhide Aw9).tab (.tail _ (.tail _ (.tail _ (.tail _ (.tail _ (.tail _ (.head _))))))))
  try unfold ratV at K
  refine K.mono ?_
  clear K
  rintro _ w10 ⟨rfl, hb⟩
  have Aw10 := hide ((unhide Aw9).step hb)
  clear Aw9 hb
  have t11 := (unhide Aw10).r (w.heap.size) (.bool g_a) (.slice a_a n_a c_a) (.slice b_a m_a d_a) (.tail _ (.tail _ (.head _)))
  have t11a := t11.c0
  have t11b := t11.c1
  have t11c := t11.c2
  clear t11
  obtain ⟨w12, hw12⟩ : ∃ x, w10.alloc (.cells #[.bool g_a, .slice a_a n_a c_a, .slice b_a m_a d_a, .bool true] 37) = x := ⟨_, rfl⟩
  have Aw12 := hide ((unhide Aw10).quad (.bool g_a) (.slice a_a n_a c_a) (.slice b_a m_a d_a) (.bool true) 37)
  rw [hw12] at Aw12
  clear Aw10
  have t13 := (unhide Aw12).r (w1.heap.size) (.bool g_b) (.slice a_b n_b c_b) (.slice b_b m_b d_b) (.tail _ (.tail _ (.head _)))
  have t13a := t13.c0
  have t13b := t13.c1
  have t13c := t13.c2
  clear t13
  obtain ⟨w14, hw14⟩ : ∃ x, w12.alloc (.cells #[.bool g_b, .slice a_b n_b c_b, .slice b_b m_b d_b, .bool true] 37) = x := ⟨_, rfl⟩
  have Aw14 := hide ((unhide Aw12).quad (.bool g_b) (.slice a_b n_b c_b) (.slice b_b m_b d_b) (.bool true) 37)
  rw [hw14] at Aw14
  clear Aw12
  have t15 := (unhide Aw14).r (w2.heap.size) (.bool g_c) (.slice a_c n_c c_c) (.slice b_c m_c d_c) (.tail _ (.tail _ (.head _)))
  have t15a := t15.c0
  have t15b := t15.c1
  have t15c := t15.c2
  clear t15
  obtain ⟨w16, hw16⟩ : ∃ x, w14.alloc (.cells #[.bool g_c, .slice a_c n_c c_c, .slice b_c m_c d_c, .bool true] 37) = x := ⟨_, rfl⟩
  have Aw16 := hide ((unhide Aw14).quad (.bool g_c) (.slice a_c n_c c_c) (.slice b_c m_c d_c) (.bool true) 37)
  rw [hw16] at Aw16
  clear Aw14
  go_wp2_with fail
  clear t11a t11b t11c t13a t13b t13c t15a t15b t15c
  have K := fromInt_any 0 (by decide) (by decide) w16
  rw [show decide ((0 : Int) < 0) = false from rfl, show (0 : Int).natAbs = 0 from rfl] at K
  refine K.mono ?_
  clear K
  rintro _ w17 ⟨v, rfl, a_o, n_o, c_o, b_o, m_o, d_o, rfl, sx, sy, _, _, hb⟩
  unfold ratV
  have Aw17 := hide (((unhide Aw16).step hb).add (fV false a_o n_o c_o (limbs 0) b_o m_o d_o [1] true 0 1) ⟨⟨sx, sy⟩, Ok.limbs _, ok_one (by decide), fun _ => fr_small0⟩)
  clear Aw16 sx sy hb
  obtain ⟨w18, hw18⟩ : ∃ x, w17.alloc (.cells #[.bool false, .slice a_o n_o c_o, .slice b_o m_o d_o, .bool true] 37) = x := ⟨_, rfl⟩
  have Aw18 := hide ((unhide Aw17).quad (.bool false) (.slice a_o n_o c_o) (.slice b_o m_o d_o) (.bool true) 37)
  rw [hw18] at Aw18
  clear Aw17
  go_wp2_with fail
  have K := fromInt_any 1 (by decide) (by decide) w18
  rw [show decide ((1 : Int) < 0) = false from rfl, show (1 : Int).natAbs = 1 from rfl] at K
  refine K.mono ?_
  clear K
  rintro _ w19 ⟨v, rfl, a_e, n_e, c_e, b_e, m_e, d_e, rfl, sx, sy, _, _, hb⟩
  unfold ratV
  have Aw19 := hide (((unhide Aw18).step hb).add (fV false a_e n_e c_e (limbs 1) b_e m_e d_e [1] true 1 1) ⟨⟨sx, sy⟩, Ok.limbs _, ok_one (by decide), fun _ => fr_small1⟩)
  clear Aw18 sx sy hb
  obtain ⟨w20, hw20⟩ : ∃ x, w19.alloc (.cells #[.bool false, .slice a_e n_e c_e, .slice b_e m_e d_e, .bool true] 37) = x := ⟨_, rfl⟩
  have Aw20 := hide ((unhide Aw19).quad (.bool false) (.slice a_e n_e c_e) (.slice b_e m_e d_e) (.bool true) 37)
  rw [hw20] at Aw20
  clear Aw19
  have A21v := hide ((unhide Aw20).add (fV g_a a_a n_a c_a x_a b_a m_a d_a y_a true P_a Q_a) ⟨((unhide Aw20).n (a_a) n_a c_a (x_a) (b_a) m_a d_a (y_a) (.tail _ (.tail _ (.tail _ (.tail _ (.tail _ (.tail _ (.tail _ (.tail _ (.tail _ (.tail _ (.tail _ (.tail _ (.head _)))))))))))))), (unhide O_a).1, (unhide O_a).2, fun _ => unhide V_a⟩)
  clear Aw20
  have A22v := hide ((unhide A21v).add (fV g_b a_b n_b c_b x_b b_b m_b d_b y_b true P_b Q_b) ⟨((unhide A21v).n (a_b) n_b c_b (x_b) (b_b) m_b d_b (y_b) (.tail _ (.tail _ (.tail _ (.tail _ (.tail _ (.tail _ (.tail _ (.tail _ (.tail _ (.tail _ (.tail _ (.tail _ (.head _)))))))))))))), (unhide O_b).1, (unhide O_b).2, fun _ => unhide V_b⟩)
  clear A21v
  have A23v := hide ((unhide A22v).add (fV g_c a_c n_c c_c x_c b_c m_c d_c y_c true P_c Q_c) ⟨((unhide A22v).n (a_c) n_c c_c (x_c) (b_c) m_c d_c (y_c) (.tail _ (.tail _ (.tail _ (.tail _ (.tail _ (.tail _ (.tail _ (.tail _ (.tail _ (.tail _ (.tail _ (.tail _ (.head _)))))))))))))), (unhide O_c).1, (unhide O_c).2, fun _ => unhide V_c⟩)
  clear A22v
  have t24 := (unhide A23v).q (w10.heap.size) (.bool g_a) (.slice a_a n_a c_a) (.slice b_a m_a d_a) (.bool true) (.tail _ (.tail _ (.tail _ (.tail _ (.tail _ (.tail _ (.tail _ (.tail _ (.tail _ (.head _))))))))))
  have t24a := t24.tri.c0
  have t24b := t24.tri.c1
  have t24c := t24.tri.c2
  have t24d := t24.c3
  clear t24
  have t25 := (unhide A23v).q (w12.heap.size) (.bool g_b) (.slice a_b n_b c_b) (.slice b_b m_b d_b) (.bool true) (.tail _ (.tail _ (.tail _ (.tail _ (.tail _ (.tail _ (.tail _ (.tail _ (.head _)))))))))
  have t25a := t25.tri.c0
  have t25b := t25.tri.c1
  have t25c := t25.tri.c2
  have t25d := t25.c3
  clear t25
  have t26 := (unhide A23v).q (w14.heap.size) (.bool g_c) (.slice a_c n_c c_c) (.slice b_c m_c d_c) (.bool true) (.tail _ (.tail _ (.tail _ (.tail _ (.tail _ (.tail _ (.tail _ (.head _))))))))
  have t26a := t26.tri.c0
  have t26b := t26.tri.c1
  have t26c := t26.tri.c2
  have t26d := t26.c3
  clear t26
  go_wp2_with fail
  have HG := hide ((unhide A23v).step (Below.refl _ _).drew)
  clear A23v
  have HH := HG
  clear HG
  go_region_held3 (fun w' => w'.cell? ⟨w10.heap.size, 0, none⟩ = some (.bool g_a) ∧ w'.cell? ⟨w10.heap.size, 1, none⟩ = some (.slice a_a n_a c_a) ∧ w'.cell? ⟨w10.heap.size, 2, none⟩ = some (.slice b_a m_a d_a) ∧ w'.cell? ⟨w10.heap.size, 3, none⟩ = some (.bool true) ∧ w'.cell? ⟨w12.heap.size, 0, none⟩ = some (.bool g_b) ∧ w'.cell? ⟨w12.heap.size, 1, none⟩ = some (.slice a_b n_b c_b) ∧ w'.cell? ⟨w12.heap.size, 2, none⟩ = some (.slice b_b m_b d_b) ∧ w'.cell? ⟨w12.heap.size, 3, none⟩ = some (.bool true) ∧ w'.cell? ⟨w14.heap.size, 0, none⟩ = some (.bool g_c) ∧ w'.cell? ⟨w14.heap.size, 1, none⟩ = some (.slice a_c n_c c_c) ∧ w'.cell? ⟨w14.heap.size, 2, none⟩ = some (.slice b_c m_c d_c) ∧ w'.cell? ⟨w14.heap.size, 3, none⟩ = some (.bool true)) (first | go_keep | (exact ⟨((unhide HH).q (w10.heap.size) (.bool g_a) (.slice a_a n_a c_a) (.slice b_a m_a d_a) (.bool true) (by repeat (first | exact List.Mem.head _ | apply List.Mem.tail))).tri.c0, ((unhide HH).q (w10.heap.size) (.bool g_a) (.slice a_a n_a c_a) (.slice b_a m_a d_a) (.bool true) (by repeat (first | exact List.Mem.head _ | apply List.Mem.tail))).tri.c1, ((unhide HH).q (w10.heap.size) (.bool g_a) (.slice a_a n_a c_a) (.slice b_a m_a d_a) (.bool true) (by repeat (first | exact List.Mem.head _ | apply List.Mem.tail))).tri.c2, ((unhide HH).q (w10.heap.size) (.bool g_a) (.slice a_a n_a c_a) (.slice b_a m_a d_a) (.bool true) (by repeat (first | exact List.Mem.head _ | apply List.Mem.tail))).c3, ((unhide HH).q (w12.heap.size) (.bool g_b) (.slice a_b n_b c_b) (.slice b_b m_b d_b) (.bool true) (by repeat (first | exact List.Mem.head _ | apply List.Mem.tail))).tri.c0, ((unhide HH).q (w12.heap.size) (.bool g_b) (.slice a_b n_b c_b) (.slice b_b m_b d_b) (.bool true) (by repeat (first | exact List.Mem.head _ | apply List.Mem.tail))).tri.c1, ((unhide HH).q (w12.heap.size) (.bool g_b) (.slice a_b n_b c_b) (.slice b_b m_b d_b) (.bool true) (by repeat (first | exact List.Mem.head _ | apply List.Mem.tail))).tri.c2, ((unhide HH).q (w12.heap.size) (.bool g_b) (.slice a_b n_b c_b) (.slice b_b m_b d_b) (.bool true) (by repeat (first | exact List.Mem.head _ | apply List.Mem.tail))).c3, ((unhide HH).q (w14.heap.size) (.bool g_c) (.slice a_c n_c c_c) (.slice b_c m_c d_c) (.bool true) (by repeat (first | exact List.Mem.head _ | apply List.Mem.tail))).tri.c0, ((unhide HH).q (w14.heap.size) (.bool g_c) (.slice a_c n_c c_c) (.slice b_c m_c d_c) (.bool true) (by repeat (first | exact List.Mem.head _ | apply List.Mem.tail))).tri.c1, ((unhide HH).q (w14.heap.size) (.bool g_c) (.slice a_c n_c c_c) (.slice b_c m_c d_c) (.bool true) (by repeat (first | exact List.Mem.head _ | apply List.Mem.tail))).tri.c2, ((unhide HH).q (w14.heap.size) (.bool g_c) (.slice a_c n_c c_c) (.slice b_c m_c d_c) (.bool true) (by repeat (first | exact List.Mem.head _ | apply List.Mem.tail))).c3⟩))
    (first
      | (go_at_call 14; refine (vlSum (unhide HH) (by repeat (first | exact List.Mem.head _ | apply List.Mem.tail)) (by repeat (first | exact List.Mem.head _ | apply List.Mem.tail)) (by repeat (first | exact List.Mem.head _ | apply List.Mem.tail))).mono ?_; rintro _ wn ⟨gn, an, nn_, cn, xn, bn, mn, dn, yn, kn, rfl, hn⟩; have HN := hide hn; clear hn HH; have HH := HN; clear HN)
      | (go_at_call 15; refine (vlTimes (unhide HH) (by repeat (first | exact List.Mem.head _ | apply List.Mem.tail)) (by repeat (first | exact List.Mem.head _ | apply List.Mem.tail)) (by repeat (first | exact List.Mem.head _ | apply List.Mem.tail))).mono ?_; rintro _ wn ⟨gn, an, nn_, cn, xn, bn, mn, dn, yn, kn, rfl, hn⟩; have HN := hide hn; clear hn HH; have HH := HN; clear HN)
      | (go_at_call 13; refine (vlAlike (unhide HH) (by repeat (first | exact List.Mem.head _ | apply List.Mem.tail)) (by repeat (first | exact List.Mem.head _ | apply List.Mem.tail)) (by repeat (first | exact List.Mem.head _ | apply List.Mem.tail)) (by grind)).mono ?_; rintro _ wn ⟨rfl, hn⟩; have HN := hide hn; clear hn HH; have HH := HN; clear HN))
  clear t24a t24b t24c t24d t25a t25b t25c t25d t26a t26b t26c t26d
  have t27 := (unhide HH).q (w10.heap.size) (.bool g_a) (.slice a_a n_a c_a) (.slice b_a m_a d_a) (.bool true) (by repeat (first | exact List.Mem.head _ | apply List.Mem.tail))
  have t27a := t27.tri.c0
  have t27b := t27.tri.c1
  have t27c := t27.tri.c2
  have t27d := t27.c3
  clear t27
  have t28 := (unhide HH).q (w12.heap.size) (.bool g_b) (.slice a_b n_b c_b) (.slice b_b m_b d_b) (.bool true) (by repeat (first | exact List.Mem.head _ | apply List.Mem.tail))
  have t28a := t28.tri.c0
  have t28b := t28.tri.c1
  have t28c := t28.tri.c2
  have t28d := t28.c3
  clear t28
  have t29 := (unhide HH).q (w14.heap.size) (.bool g_c) (.slice a_c n_c c_c) (.slice b_c m_c d_c) (.bool true) (by repeat (first | exact List.Mem.head _ | apply List.Mem.tail))
  have t29a := t29.tri.c0
  have t29b := t29.tri.c1
  have t29c := t29.tri.c2
  have t29d := t29.c3
  clear t29
  have t30 := (unhide HH).q (w17.heap.size) (.bool false) (.slice a_o n_o c_o) (.slice b_o m_o d_o) (.bool true) (by repeat (first | exact List.Mem.head _ | apply List.Mem.tail))
  have t30a := t30.tri.c0
  have t30b := t30.tri.c1
  have t30c := t30.tri.c2
  have t30d := t30.c3
  clear t30
  have t31 := (unhide HH).q (w19.heap.size) (.bool false) (.slice a_e n_e c_e) (.slice b_e m_e d_e) (.bool true) (by repeat (first | exact List.Mem.head _ | apply List.Mem.tail))
  have t31a := t31.tri.c0
  have t31b := t31.tri.c1
  have t31c := t31.tri.c2
  have t31d := t31.c3
  clear t31
  go_wp2_with fail
  have HG := hide ((unhide HH).step (Below.refl _ _).drew)
  clear HH
  have HH := HG
  clear HG
  go_region_held3 (fun w' => w'.cell? ⟨w10.heap.size, 0, none⟩ = some (.bool g_a) ∧ w'.cell? ⟨w10.heap.size, 1, none⟩ = some (.slice a_a n_a c_a) ∧ w'.cell? ⟨w10.heap.size, 2, none⟩ = some (.slice b_a m_a d_a) ∧ w'.cell? ⟨w10.heap.size, 3, none⟩ = some (.bool true) ∧ w'.cell? ⟨w12.heap.size, 0, none⟩ = some (.bool g_b) ∧ w'.cell? ⟨w12.heap.size, 1, none⟩ = some (.slice a_b n_b c_b) ∧ w'.cell? ⟨w12.heap.size, 2, none⟩ = some (.slice b_b m_b d_b) ∧ w'.cell? ⟨w12.heap.size, 3, none⟩ = some (.bool true) ∧ w'.cell? ⟨w14.heap.size, 0, none⟩ = some (.bool g_c) ∧ w'.cell? ⟨w14.heap.size, 1, none⟩ = some (.slice a_c n_c c_c) ∧ w'.cell? ⟨w14.heap.size, 2, none⟩ = some (.slice b_c m_c d_c) ∧ w'.cell? ⟨w14.heap.size, 3, none⟩ = some (.bool true) ∧ w'.cell? ⟨w17.heap.size, 0, none⟩ = some (.bool false) ∧ w'.cell? ⟨w17.heap.size, 1, none⟩ = some (.slice a_o n_o c_o) ∧ w'.cell? ⟨w17.heap.size, 2, none⟩ = some (.slice b_o m_o d_o) ∧ w'.cell? ⟨w17.heap.size, 3, none⟩ = some (.bool true) ∧ w'.cell? ⟨w19.heap.size, 0, none⟩ = some (.bool false) ∧ w'.cell? ⟨w19.heap.size, 1, none⟩ = some (.slice a_e n_e c_e) ∧ w'.cell? ⟨w19.heap.size, 2, none⟩ = some (.slice b_e m_e d_e) ∧ w'.cell? ⟨w19.heap.size, 3, none⟩ = some (.bool true)) (first | go_keep | (exact ⟨((unhide HH).q (w10.heap.size) (.bool g_a) (.slice a_a n_a c_a) (.slice b_a m_a d_a) (.bool true) (by repeat (first | exact List.Mem.head _ | apply List.Mem.tail))).tri.c0, ((unhide HH).q (w10.heap.size) (.bool g_a) (.slice a_a n_a c_a) (.slice b_a m_a d_a) (.bool true) (by repeat (first | exact List.Mem.head _ | apply List.Mem.tail))).tri.c1, ((unhide HH).q (w10.heap.size) (.bool g_a) (.slice a_a n_a c_a) (.slice b_a m_a d_a) (.bool true) (by repeat (first | exact List.Mem.head _ | apply List.Mem.tail))).tri.c2, ((unhide HH).q (w10.heap.size) (.bool g_a) (.slice a_a n_a c_a) (.slice b_a m_a d_a) (.bool true) (by repeat (first | exact List.Mem.head _ | apply List.Mem.tail))).c3, ((unhide HH).q (w12.heap.size) (.bool g_b) (.slice a_b n_b c_b) (.slice b_b m_b d_b) (.bool true) (by repeat (first | exact List.Mem.head _ | apply List.Mem.tail))).tri.c0, ((unhide HH).q (w12.heap.size) (.bool g_b) (.slice a_b n_b c_b) (.slice b_b m_b d_b) (.bool true) (by repeat (first | exact List.Mem.head _ | apply List.Mem.tail))).tri.c1, ((unhide HH).q (w12.heap.size) (.bool g_b) (.slice a_b n_b c_b) (.slice b_b m_b d_b) (.bool true) (by repeat (first | exact List.Mem.head _ | apply List.Mem.tail))).tri.c2, ((unhide HH).q (w12.heap.size) (.bool g_b) (.slice a_b n_b c_b) (.slice b_b m_b d_b) (.bool true) (by repeat (first | exact List.Mem.head _ | apply List.Mem.tail))).c3, ((unhide HH).q (w14.heap.size) (.bool g_c) (.slice a_c n_c c_c) (.slice b_c m_c d_c) (.bool true) (by repeat (first | exact List.Mem.head _ | apply List.Mem.tail))).tri.c0, ((unhide HH).q (w14.heap.size) (.bool g_c) (.slice a_c n_c c_c) (.slice b_c m_c d_c) (.bool true) (by repeat (first | exact List.Mem.head _ | apply List.Mem.tail))).tri.c1, ((unhide HH).q (w14.heap.size) (.bool g_c) (.slice a_c n_c c_c) (.slice b_c m_c d_c) (.bool true) (by repeat (first | exact List.Mem.head _ | apply List.Mem.tail))).tri.c2, ((unhide HH).q (w14.heap.size) (.bool g_c) (.slice a_c n_c c_c) (.slice b_c m_c d_c) (.bool true) (by repeat (first | exact List.Mem.head _ | apply List.Mem.tail))).c3, ((unhide HH).q (w17.heap.size) (.bool false) (.slice a_o n_o c_o) (.slice b_o m_o d_o) (.bool true) (by repeat (first | exact List.Mem.head _ | apply List.Mem.tail))).tri.c0, ((unhide HH).q (w17.heap.size) (.bool false) (.slice a_o n_o c_o) (.slice b_o m_o d_o) (.bool true) (by repeat (first | exact List.Mem.head _ | apply List.Mem.tail))).tri.c1, ((unhide HH).q (w17.heap.size) (.bool false) (.slice a_o n_o c_o) (.slice b_o m_o d_o) (.bool true) (by repeat (first | exact List.Mem.head _ | apply List.Mem.tail))).tri.c2, ((unhide HH).q (w17.heap.size) (.bool false) (.slice a_o n_o c_o) (.slice b_o m_o d_o) (.bool true) (by repeat (first | exact List.Mem.head _ | apply List.Mem.tail))).c3, ((unhide HH).q (w19.heap.size) (.bool false) (.slice a_e n_e c_e) (.slice b_e m_e d_e) (.bool true) (by repeat (first | exact List.Mem.head _ | apply List.Mem.tail))).tri.c0, ((unhide HH).q (w19.heap.size) (.bool false) (.slice a_e n_e c_e) (.slice b_e m_e d_e) (.bool true) (by repeat (first | exact List.Mem.head _ | apply List.Mem.tail))).tri.c1, ((unhide HH).q (w19.heap.size) (.bool false) (.slice a_e n_e c_e) (.slice b_e m_e d_e) (.bool true) (by repeat (first | exact List.Mem.head _ | apply List.Mem.tail))).tri.c2, ((unhide HH).q (w19.heap.size) (.bool false) (.slice a_e n_e c_e) (.slice b_e m_e d_e) (.bool true) (by repeat (first | exact List.Mem.head _ | apply List.Mem.tail))).c3⟩))
    (first
      | (go_at_call 14; refine (vlSum (unhide HH) (by repeat (first | exact List.Mem.head _ | apply List.Mem.tail)) (by repeat (first | exact List.Mem.head _ | apply List.Mem.tail)) (by repeat (first | exact List.Mem.head _ | apply List.Mem.tail))).mono ?_; rintro _ wn ⟨gn, an, nn_, cn, xn, bn, mn, dn, yn, kn, rfl, hn⟩; have HN := hide hn; clear hn HH; have HH := HN; clear HN)
      | (go_at_call 15; refine (vlTimes (unhide HH) (by repeat (first | exact List.Mem.head _ | apply List.Mem.tail)) (by repeat (first | exact List.Mem.head _ | apply List.Mem.tail)) (by repeat (first | exact List.Mem.head _ | apply List.Mem.tail))).mono ?_; rintro _ wn ⟨gn, an, nn_, cn, xn, bn, mn, dn, yn, kn, rfl, hn⟩; have HN := hide hn; clear hn HH; have HH := HN; clear HN)
      | (go_at_call 13; refine (vlAlike (unhide HH) (by repeat (first | exact List.Mem.head _ | apply List.Mem.tail)) (by repeat (first | exact List.Mem.head _ | apply List.Mem.tail)) (by repeat (first | exact List.Mem.head _ | apply List.Mem.tail)) (by grind)).mono ?_; rintro _ wn ⟨rfl, hn⟩; have HN := hide hn; clear hn HH; have HH := HN; clear HN))
  clear t27a t27b t27c t27d t28a t28b t28c t28d t29a t29b t29c t29d t30a t30b t30c t30d t31a t31b t31c t31d
  obtain ⟨wM0, hwM⟩ : ∃ x, x = wn := ⟨_, rfl⟩
  subst hwM
  have AM0 := HH
  clear HH
  have t32 := (unhide AM0).q (w10.heap.size) (.bool g_a) (.slice a_a n_a c_a) (.slice b_a m_a d_a) (.bool true) (by repeat (first | exact List.Mem.head _ | apply List.Mem.tail))
  have t32a := t32.tri.c0
  have t32b := t32.tri.c1
  have t32c := t32.tri.c2
  have t32d := t32.c3
  clear t32
  have t33 := (unhide AM0).q (w12.heap.size) (.bool g_b) (.slice a_b n_b c_b) (.slice b_b m_b d_b) (.bool true) (by repeat (first | exact List.Mem.head _ | apply List.Mem.tail))
  have t33a := t33.tri.c0
  have t33b := t33.tri.c1
  have t33c := t33.tri.c2
  have t33d := t33.c3
  clear t33
  go_wp2_with fail
  clear t32a t32b t32c t32d t33a t33b t33c t33d
  refine (vlSum (unhide AM0) (by repeat (first | exact List.Mem.head _ | apply List.Mem.tail)) (by repeat (first | exact List.Mem.head _ | apply List.Mem.tail)) (by repeat (first | exact List.Mem.head _ | apply List.Mem.tail))).mono ?_
  rintro _ w34 ⟨g_s, a_s, n_s, c_s, x_s, b_s, m_s, d_s, y_s, k_s, rfl, hn⟩
  have Aw34 := hide hn
  clear hn AM0
  obtain ⟨w35, hw35⟩ : ∃ x, w34.alloc (.cells #[.bool g_s, .slice a_s n_s c_s, .slice b_s m_s d_s, .bool k_s] 37) = x := ⟨_, rfl⟩
  have Aw35 := hide ((unhide Aw34).quad (.bool g_s) (.slice a_s n_s c_s) (.slice b_s m_s d_s) (.bool k_s) 37)
  rw [hw35] at Aw35
  clear Aw34
  have v := ((unhide Aw35).v (g := g_s) (a := a_s) (n := n_s) (c := c_s) (x := x_s) (b := b_s) (m := m_s) (d := d_s) (y := y_s) (k := k_s) (P := P_a * Q_b + P_b * Q_a) (Q := Q_a * Q_b) (by repeat (first | exact List.Mem.head _ | apply List.Mem.tail)))
  have O_s := hide (And.intro v.ox v.oy)
  have FS := hide v.fr
  have NS := hide v.nm
  clear v
  have A35t := hide ((unhide Aw35).add (fN a_s n_s c_s x_s b_s m_s d_s y_s) (unhide NS))
  clear Aw35 NS
  obtain ⟨⟨⟨g_d, x_d, y_d⟩, e_d⟩, hd⟩ : ∃ r, SubF g_s x_s y_s g_b x_b y_b = r := ⟨_, rfl⟩
  have HD := hide hd
  clear hd
  have t36 := (unhide A35t).q (w34.heap.size) (.bool g_s) (.slice a_s n_s c_s) (.slice b_s m_s d_s) (.bool k_s) (by repeat (first | exact List.Mem.head _ | apply List.Mem.tail))
  have t36a := t36.tri.c0
  have t36b := t36.tri.c1
  have t36c := t36.tri.c2
  have t36d := t36.c3
  clear t36
  have t37 := (unhide A35t).r (w1.heap.size) (.bool g_b) (.slice a_b n_b c_b) (.slice b_b m_b d_b) (by repeat (first | exact List.Mem.head _ | apply List.Mem.tail))
  have t37a := t37.c0
  have t37b := t37.c1
  have t37c := t37.c2
  clear t37
  go_wp2_with fail
  clear t36a t36b t36c t36d t37a t37b t37c
  have K := ratSub_any g_s g_b (a_s) (b_s) (a_b) (b_b) n_s c_s m_s d_s n_b c_b m_b d_b (x_s) (y_s) (x_b) (y_b) w35 ((unhide A35t).n (a_s) n_s c_s (x_s) (b_s) m_s d_s (y_s) (by repeat (first | exact List.Mem.head _ | apply List.Mem.tail))).num ((unhide A35t).n (a_s) n_s c_s (x_s) (b_s) m_s d_s (y_s) (by repeat (first | exact List.Mem.head _ | apply List.Mem.tail))).den ((unhide A35t).n (a_b) n_b c_b (x_b) (b_b) m_b d_b (y_b) (by repeat (first | exact List.Mem.head _ | apply List.Mem.tail))).num ((unhide A35t).n (a_b) n_b c_b (x_b) (b_b) m_b d_b (y_b) (by repeat (first | exact List.Mem.head _ | apply List.Mem.tail))).den (unhide O_s).1 (unhide O_s).2 (unhide O_b).1 (unhide O_b).2 ((unhide A35t).tab (by repeat (first | exact List.Mem.head _ | apply List.Mem.tail)))
  rw [unhide HD] at K
  try dsimp only at K
  unfold ratV at K
  refine K.mono ?_
  clear K
  rintro _ w38 ⟨v, rfl, a_d38, n_d38, c_d38, b_d38, m_d38, d_d38, rfl, sx, sy, nx, ny, hb⟩
  try dsimp only at sx sy
  unfold ratV
  have Aw38 := hide (((unhide A35t).step hb).add (fN a_d38 n_d38 c_d38 (x_d) b_d38 m_d38 d_d38 (y_d)) ⟨sx, sy⟩)
  clear A35t sx sy nx ny hb
  obtain ⟨w39, hw39⟩ : ∃ x, w38.alloc (.cells #[.bool g_d, .slice a_d38 n_d38 c_d38, .slice b_d38 m_d38 d_d38] 25) = x := ⟨_, rfl⟩
  have Aw39 := hide ((unhide Aw38).box (.bool g_d) (.slice a_d38 n_d38 c_d38) (.slice b_d38 m_d38 d_d38) 25)
  rw [hw39] at Aw39
  clear Aw38
  cases hk : k_s
  focus
    subst hk
    have t40 := (unhide Aw39).q (w34.heap.size) (.bool g_s) (.slice a_s n_s c_s) (.slice b_s m_s d_s) (.bool false) (by repeat (first | exact List.Mem.head _ | apply List.Mem.tail))
    have t40a := t40.tri.c0
    have t40b := t40.tri.c1
    have t40c := t40.tri.c2
    have t40d := t40.c3
    clear t40
    have t41 := (unhide Aw39).q (w10.heap.size) (.bool g_a) (.slice a_a n_a c_a) (.slice b_a m_a d_a) (.bool true) (by repeat (first | exact List.Mem.head _ | apply List.Mem.tail))
    have t41a := t41.tri.c0
    have t41b := t41.tri.c1
    have t41c := t41.tri.c2
    have t41d := t41.c3
    clear t41
    have t42 := (unhide Aw39).q (w12.heap.size) (.bool g_b) (.slice a_b n_b c_b) (.slice b_b m_b d_b) (.bool true) (by repeat (first | exact List.Mem.head _ | apply List.Mem.tail))
    have t42a := t42.tri.c0
    have t42b := t42.tri.c1
    have t42c := t42.tri.c2
    have t42d := t42.c3
    clear t42
    go_wp2_with fail
    clear t40a t40b t40c t40d t41a t41b t41c t41d t42a t42b t42c t42d
    obtain ⟨wM1, hwM⟩ : ∃ x, x = w39 := ⟨_, rfl⟩
    subst hwM
    have AM1 := Aw39
    clear Aw39
  rotate_left
  focus
    have hx := unhide HBackS g_s x_s y_s (unhide FS hk)
    rw [unhide HD] at hx
    cases hx
    subst hk
    have t43 := (unhide Aw39).q (w34.heap.size) (.bool g_s) (.slice a_s n_s c_s) (.slice b_s m_s d_s) (.bool true) (by repeat (first | exact List.Mem.head _ | apply List.Mem.tail))
    have t43a := t43.tri.c0
    have t43b := t43.tri.c1
    have t43c := t43.tri.c2
    have t43d := t43.c3
    clear t43
    go_wp2_with fail
    clear t43a t43b t43c t43d
    refine (rnum2_any 0 w39).mono ?_
    rintro _ w' ⟨rfl, hw⟩
    obtain rfl := hw.symm
    clear hw
    have t44 := (unhide Aw39).r (w38.heap.size) (.bool g_a) (.slice a_d38 n_d38 c_d38) (.slice b_d38 m_d38 d_d38) (by repeat (first | exact List.Mem.head _ | apply List.Mem.tail))
    have t44a := t44.c0
    have t44b := t44.c1
    have t44c := t44.c2
    clear t44
    have t45 := (unhide Aw39).r (w.heap.size) (.bool g_a) (.slice a_a n_a c_a) (.slice b_a m_a d_a) (by repeat (first | exact List.Mem.head _ | apply List.Mem.tail))
    have t45a := t45.c0
    have t45b := t45.c1
    have t45c := t45.c2
    clear t45
    go_wp2_with fail
    clear t44a t44b t44c t45a t45b t45c
    have K := sameRat_any g_a g_a (a_d38) (b_d38) (a_a) (b_a) n_d38 c_d38 m_d38 d_d38 n_a c_a m_a d_a (x_a) (y_a) (x_a) (y_a) w39 ((unhide Aw39).n (a_d38) n_d38 c_d38 (x_a) (b_d38) m_d38 d_d38 (y_a) (by repeat (first | exact List.Mem.head _ | apply List.Mem.tail))).num ((unhide Aw39).n (a_d38) n_d38 c_d38 (x_a) (b_d38) m_d38 d_d38 (y_a) (by repeat (first | exact List.Mem.head _ | apply List.Mem.tail))).den ((unhide Aw39).n (a_a) n_a c_a (x_a) (b_a) m_a d_a (y_a) (by repeat (first | exact List.Mem.head _ | apply List.Mem.tail))).num ((unhide Aw39).n (a_a) n_a c_a (x_a) (b_a) m_a d_a (y_a) (by repeat (first | exact List.Mem.head _ | apply List.Mem.tail))).den
    rw [same_self] at K
    try unfold ratV at K
    refine K.mono ?_
    clear K
    rintro _ w46 ⟨rfl, hb⟩
    have Aw46 := hide ((unhide Aw39).step hb)
    clear Aw39 hb
    have t47 := (unhide Aw46).q (w10.heap.size) (.bool g_a) (.slice a_a n_a c_a) (.slice b_a m_a d_a) (.bool true) (by repeat (first | exact List.Mem.head _ | apply List.Mem.tail))
    have t47a := t47.tri.c0
    have t47b := t47.tri.c1
    have t47c := t47.tri.c2
    have t47d := t47.c3
    clear t47
    have t48 := (unhide Aw46).q (w12.heap.size) (.bool g_b) (.slice a_b n_b c_b) (.slice b_b m_b d_b) (.bool true) (by repeat (first | exact List.Mem.head _ | apply List.Mem.tail))
    have t48a := t48.tri.c0
    have t48b := t48.tri.c1
    have t48c := t48.tri.c2
    have t48d := t48.c3
    clear t48
    go_wp2_with fail
    clear t47a t47b t47c t47d t48a t48b t48c t48d
    obtain ⟨wM1, hwM⟩ : ∃ x, x = w46 := ⟨_, rfl⟩
    subst hwM
    have AM1 := Aw46
    clear Aw46
  rotate_left
  all_goals
    refine (vlTimes (unhide AM1) (by repeat (first | exact List.Mem.head _ | apply List.Mem.tail)) (by repeat (first | exact List.Mem.head _ | apply List.Mem.tail)) (by repeat (first | exact List.Mem.head _ | apply List.Mem.tail))).mono ?_
    rintro _ w49 ⟨g_p, a_p, n_p, c_p, x_p, b_p, m_p, d_p, y_p, k_p, rfl, hn⟩
    have Aw49 := hide hn
    clear hn AM1
    obtain ⟨w50, hw50⟩ : ∃ x, w49.alloc (.cells #[.bool g_p, .slice a_p n_p c_p, .slice b_p m_p d_p, .bool k_p] 37) = x := ⟨_, rfl⟩
    have Aw50 := hide ((unhide Aw49).quad (.bool g_p) (.slice a_p n_p c_p) (.slice b_p m_p d_p) (.bool k_p) 37)
    rw [hw50] at Aw50
    clear Aw49
    have v := ((unhide Aw50).v (g := g_p) (a := a_p) (n := n_p) (c := c_p) (x := x_p) (b := b_p) (m := m_p) (d := d_p) (y := y_p) (k := k_p) (P := P_a * P_b) (Q := Q_a * Q_b) (by repeat (first | exact List.Mem.head _ | apply List.Mem.tail)))
    have O_p := hide (And.intro v.ox v.oy)
    have FP := hide v.fr
    have NS := hide v.nm
    clear v
    have A50t := hide ((unhide Aw50).add (fN a_p n_p c_p x_p b_p m_p d_p y_p) (unhide NS))
    clear Aw50 NS
    obtain ⟨⟨⟨g_q, x_q, y_q⟩, e_q⟩, hq⟩ : ∃ r, DivF g_p x_p y_p g_b x_b y_b = r := ⟨_, rfl⟩
    have HQ := hide hq
    clear hq
    have t51 := (unhide A50t).q (w49.heap.size) (.bool g_p) (.slice a_p n_p c_p) (.slice b_p m_p d_p) (.bool k_p) (by repeat (first | exact List.Mem.head _ | apply List.Mem.tail))
    have t51a := t51.tri.c0
    have t51b := t51.tri.c1
    have t51c := t51.tri.c2
    have t51d := t51.c3
    clear t51
    have t52 := (unhide A50t).r (w1.heap.size) (.bool g_b) (.slice a_b n_b c_b) (.slice b_b m_b d_b) (by repeat (first | exact List.Mem.head _ | apply List.Mem.tail))
    have t52a := t52.c0
    have t52b := t52.c1
    have t52c := t52.c2
    clear t52
    go_wp2_with fail
    clear t51a t51b t51c t51d t52a t52b t52c
    have K := ratDiv_any g_p g_b (a_p) (b_p) (a_b) (b_b) n_p c_p m_p d_p n_b c_b m_b d_b (x_p) (y_p) (x_b) (y_b) w50 ((unhide A50t).n (a_p) n_p c_p (x_p) (b_p) m_p d_p (y_p) (by repeat (first | exact List.Mem.head _ | apply List.Mem.tail))).num ((unhide A50t).n (a_p) n_p c_p (x_p) (b_p) m_p d_p (y_p) (by repeat (first | exact List.Mem.head _ | apply List.Mem.tail))).den ((unhide A50t).n (a_b) n_b c_b (x_b) (b_b) m_b d_b (y_b) (by repeat (first | exact List.Mem.head _ | apply List.Mem.tail))).num ((unhide A50t).n (a_b) n_b c_b (x_b) (b_b) m_b d_b (y_b) (by repeat (first | exact List.Mem.head _ | apply List.Mem.tail))).den (unhide O_p).1 (unhide O_p).2 (unhide O_b).1 (unhide O_b).2 ((unhide A50t).tab (by repeat (first | exact List.Mem.head _ | apply List.Mem.tail)))
    rw [unhide HQ] at K
    try dsimp only at K
    unfold ratV at K
    refine K.mono ?_
    clear K
    rintro _ w53 ⟨v, rfl, a_q53, n_q53, c_q53, b_q53, m_q53, d_q53, rfl, sx, sy, nx, ny, hb⟩
    try dsimp only at sx sy
    unfold ratV
    have Aw53 := hide (((unhide A50t).step hb).add (fN a_q53 n_q53 c_q53 (x_q) b_q53 m_q53 d_q53 (y_q)) ⟨sx, sy⟩)
    clear A50t sx sy nx ny hb
    obtain ⟨w54, hw54⟩ : ∃ x, w53.alloc (.cells #[.bool g_q, .slice a_q53 n_q53 c_q53, .slice b_q53 m_q53 d_q53] 25) = x := ⟨_, rfl⟩
    have Aw54 := hide ((unhide Aw53).box (.bool g_q) (.slice a_q53 n_q53 c_q53) (.slice b_q53 m_q53 d_q53) 25)
    rw [hw54] at Aw54
    clear Aw53
    cases hk : k_p
    focus
      subst hk
      have t55 := (unhide Aw54).q (w49.heap.size) (.bool g_p) (.slice a_p n_p c_p) (.slice b_p m_p d_p) (.bool false) (by repeat (first | exact List.Mem.head _ | apply List.Mem.tail))
      have t55a := t55.tri.c0
      have t55b := t55.tri.c1
      have t55c := t55.tri.c2
      have t55d := t55.c3
      clear t55
      have t56 := (unhide Aw54).r (w.heap.size) (.bool g_a) (.slice a_a n_a c_a) (.slice b_a m_a d_a) (by repeat (first | exact List.Mem.head _ | apply List.Mem.tail))
      have t56a := t56.c0
      have t56b := t56.c1
      have t56c := t56.c2
      clear t56
      go_wp2_with fail
      clear t55a t55b t55c t55d t56a t56b t56c
      obtain ⟨wM2, hwM⟩ : ∃ x, x = w54 := ⟨_, rfl⟩
      subst hwM
      have AM2 := Aw54
      clear Aw54
    rotate_left
    focus
      have FP2 := hide (unhide FP hk)
      subst hk
      have t57 := (unhide Aw54).q (w49.heap.size) (.bool g_p) (.slice a_p n_p c_p) (.slice b_p m_p d_p) (.bool true) (by repeat (first | exact List.Mem.head _ | apply List.Mem.tail))
      have t57a := t57.tri.c0
      have t57b := t57.tri.c1
      have t57c := t57.tri.c2
      have t57d := t57.c3
      clear t57
      have t58 := (unhide Aw54).r (w1.heap.size) (.bool g_b) (.slice a_b n_b c_b) (.slice b_b m_b d_b) (by repeat (first | exact List.Mem.head _ | apply List.Mem.tail))
      have t58a := t58.c0
      have t58b := t58.c1
      have t58c := t58.c2
      clear t58
      go_wp2_with fail
      clear t57a t57b t57c t57d t58a t58b t58c
      have K := ratSign_any g_b (a_b) (b_b) n_b c_b m_b d_b (x_b) (y_b)  w54 ((unhide Aw54).n (a_b) n_b c_b (x_b) (b_b) m_b d_b (y_b) (by repeat (first | exact List.Mem.head _ | apply List.Mem.tail))).num ((unhide Aw54).n (a_b) n_b c_b (x_b) (b_b) m_b d_b (y_b) (by repeat (first | exact List.Mem.head _ | apply List.Mem.tail))).den (unhide O_b).1 (unhide O_b).2 ((unhide Aw54).tab (by repeat (first | exact List.Mem.head _ | apply List.Mem.tail)))
      rw [unhide HSB] at K
      try unfold ratV at K
      refine K.mono ?_
      clear K
      rintro _ w59 ⟨rfl, hb⟩
      have Aw59 := hide ((unhide Aw54).step hb)
      clear Aw54 hb
      by_cases hz : x_b = []
      focus
        have hz2 : (sb != 0) = false := by rw [← unhide HSB, sign_zero (unhide M_b) hz]; rfl
        clear hz
        have t60 := (unhide Aw59).r (w.heap.size) (.bool g_a) (.slice a_a n_a c_a) (.slice b_a m_a d_a) (by repeat (first | exact List.Mem.head _ | apply List.Mem.tail))
        have t60a := t60.c0
        have t60b := t60.c1
        have t60c := t60.c2
        clear t60
        go_wp2_with fail
        clear t60a t60b t60c
        obtain ⟨wM2, hwM⟩ : ∃ x, x = w59 := ⟨_, rfl⟩
        subst hwM
        have AM2 := Aw59
        clear Aw59
      rotate_left
      focus
        have hz2 : (sb != 0) = true := by rw [← unhide HSB]; rcases sign_some (unhide M_b) hz with h | h <;> rw [h] <;> rfl
        have hx := unhide HBackP g_p x_p y_p hz (unhide FP2)
        rw [unhide HQ] at hx
        cases hx
        clear hz
        go_wp2_with fail
        refine (rnum2_any 0 w59).mono ?_
        rintro _ w' ⟨rfl, hw⟩
        obtain rfl := hw.symm
        clear hw
        have t61 := (unhide Aw59).r (w53.heap.size) (.bool g_a) (.slice a_q53 n_q53 c_q53) (.slice b_q53 m_q53 d_q53) (by repeat (first | exact List.Mem.head _ | apply List.Mem.tail))
        have t61a := t61.c0
        have t61b := t61.c1
        have t61c := t61.c2
        clear t61
        have t62 := (unhide Aw59).r (w.heap.size) (.bool g_a) (.slice a_a n_a c_a) (.slice b_a m_a d_a) (by repeat (first | exact List.Mem.head _ | apply List.Mem.tail))
        have t62a := t62.c0
        have t62b := t62.c1
        have t62c := t62.c2
        clear t62
        go_wp2_with fail
        clear t61a t61b t61c t62a t62b t62c
        have K := sameRat_any g_a g_a (a_q53) (b_q53) (a_a) (b_a) n_q53 c_q53 m_q53 d_q53 n_a c_a m_a d_a (x_a) (y_a) (x_a) (y_a) w59 ((unhide Aw59).n (a_q53) n_q53 c_q53 (x_a) (b_q53) m_q53 d_q53 (y_a) (by repeat (first | exact List.Mem.head _ | apply List.Mem.tail))).num ((unhide Aw59).n (a_q53) n_q53 c_q53 (x_a) (b_q53) m_q53 d_q53 (y_a) (by repeat (first | exact List.Mem.head _ | apply List.Mem.tail))).den ((unhide Aw59).n (a_a) n_a c_a (x_a) (b_a) m_a d_a (y_a) (by repeat (first | exact List.Mem.head _ | apply List.Mem.tail))).num ((unhide Aw59).n (a_a) n_a c_a (x_a) (b_a) m_a d_a (y_a) (by repeat (first | exact List.Mem.head _ | apply List.Mem.tail))).den
        rw [same_self] at K
        try unfold ratV at K
        refine K.mono ?_
        clear K
        rintro _ w63 ⟨rfl, hb⟩
        have Aw63 := hide ((unhide Aw59).step hb)
        clear Aw59 hb
        have t64 := (unhide Aw63).r (w.heap.size) (.bool g_a) (.slice a_a n_a c_a) (.slice b_a m_a d_a) (by repeat (first | exact List.Mem.head _ | apply List.Mem.tail))
        have t64a := t64.c0
        have t64b := t64.c1
        have t64c := t64.c2
        clear t64
        go_wp2_with fail
        clear t64a t64b t64c
        obtain ⟨wM2, hwM⟩ : ∃ x, x = w63 := ⟨_, rfl⟩
        subst hwM
        have AM2 := Aw63
        clear Aw63
      rotate_left
    rotate_left
    all_goals
      have K := ratInv_any g_a (a_a) (b_a) n_a c_a m_a d_a (x_a) (y_a)  wM2 ((unhide AM2).n (a_a) n_a c_a (x_a) (b_a) m_a d_a (y_a) (by repeat (first | exact List.Mem.head _ | apply List.Mem.tail))).num ((unhide AM2).n (a_a) n_a c_a (x_a) (b_a) m_a d_a (y_a) (by repeat (first | exact List.Mem.head _ | apply List.Mem.tail))).den (unhide O_a).1 (unhide O_a).2 ((unhide AM2).tab (by repeat (first | exact List.Mem.head _ | apply List.Mem.tail)))
      rw [unhide HI] at K
      try dsimp only at K
      unfold ratV at K
      refine K.mono ?_
      clear K
      rintro _ w65 ⟨v, rfl, a_i65, n_i65, c_i65, b_i65, m_i65, d_i65, rfl, sx, sy, nx, ny, hb⟩
      try dsimp only at sx sy
      unfold ratV
      have Aw65 := hide (((unhide AM2).step hb).add (fN a_i65 n_i65 c_i65 (x_i) b_i65 m_i65 d_i65 (y_i)) ⟨sx, sy⟩)
      clear AM2 sx sy nx ny hb
      obtain ⟨w66, hw66⟩ : ∃ x, w65.alloc (.cells #[.bool g_i, .slice a_i65 n_i65 c_i65, .slice b_i65 m_i65 d_i65] 25) = x := ⟨_, rfl⟩
      have Aw66 := hide ((unhide Aw65).box (.bool g_i) (.slice a_i65 n_i65 c_i65) (.slice b_i65 m_i65 d_i65) 25)
      rw [hw66] at Aw66
      clear Aw65
      have t67 := (unhide Aw66).r (w65.heap.size) (.bool g_i) (.slice a_i65 n_i65 c_i65) (.slice b_i65 m_i65 d_i65) (by repeat (first | exact List.Mem.head _ | apply List.Mem.tail))
      have t67a := t67.c0
      have t67b := t67.c1
      have t67c := t67.c2
      clear t67
      go_wp2_with fail
      clear t67a t67b t67c
      have K := ratInv_any g_i (a_i65) (b_i65) n_i65 c_i65 m_i65 d_i65 (x_i) (y_i)  w66 ((unhide Aw66).n (a_i65) n_i65 c_i65 (x_i) (b_i65) m_i65 d_i65 (y_i) (by repeat (first | exact List.Mem.head _ | apply List.Mem.tail))).num ((unhide Aw66).n (a_i65) n_i65 c_i65 (x_i) (b_i65) m_i65 d_i65 (y_i) (by repeat (first | exact List.Mem.head _ | apply List.Mem.tail))).den (unhide O_i).1 (unhide O_i).2 ((unhide Aw66).tab (by repeat (first | exact List.Mem.head _ | apply List.Mem.tail)))
      rw [unhide HJJ] at K
      try dsimp only at K
      unfold ratV at K
      refine K.mono ?_
      clear K
      rintro _ w68 ⟨v, rfl, a_j68, n_j68, c_j68, b_j68, m_j68, d_j68, rfl, sx, sy, nx, ny, hb⟩
      try dsimp only at sx sy
      unfold ratV
      have Aw68 := hide (((unhide Aw66).step hb).add (fN a_j68 n_j68 c_j68 (x_j) b_j68 m_j68 d_j68 (y_j)) ⟨sx, sy⟩)
      clear Aw66 sx sy nx ny hb
      obtain ⟨w69, hw69⟩ : ∃ x, w68.alloc (.cells #[.bool g_j, .slice a_j68 n_j68 c_j68, .slice b_j68 m_j68 d_j68] 25) = x := ⟨_, rfl⟩
      have Aw69 := hide ((unhide Aw68).box (.bool g_j) (.slice a_j68 n_j68 c_j68) (.slice b_j68 m_j68 d_j68) 25)
      rw [hw69] at Aw69
      clear Aw68
      have t70 := (unhide Aw69).r (w.heap.size) (.bool g_a) (.slice a_a n_a c_a) (.slice b_a m_a d_a) (by repeat (first | exact List.Mem.head _ | apply List.Mem.tail))
      have t70a := t70.c0
      have t70b := t70.c1
      have t70c := t70.c2
      clear t70
      go_wp2_with fail
      clear t70a t70b t70c
      have K := ratSign_any g_a (a_a) (b_a) n_a c_a m_a d_a (x_a) (y_a)  w69 ((unhide Aw69).n (a_a) n_a c_a (x_a) (b_a) m_a d_a (y_a) (by repeat (first | exact List.Mem.head _ | apply List.Mem.tail))).num ((unhide Aw69).n (a_a) n_a c_a (x_a) (b_a) m_a d_a (y_a) (by repeat (first | exact List.Mem.head _ | apply List.Mem.tail))).den (unhide O_a).1 (unhide O_a).2 ((unhide Aw69).tab (by repeat (first | exact List.Mem.head _ | apply List.Mem.tail)))
      rw [unhide HSA] at K
      try unfold ratV at K
      refine K.mono ?_
      clear K
      rintro _ w71 ⟨rfl, hb⟩
      have Aw71 := hide ((unhide Aw69).step hb)
      clear Aw69 hb
      by_cases hza : x_a = []
      · have h1 := invL_zero (unhide M_a) hza
        rw [unhide HI] at h1
        have he : e_i = 3 := by cases h1; rfl
        have hs : sa = 0 := by rw [← unhide HSA]; exact sign_zero (unhide M_a) hza
        have hs2 : (sa == 0) = true := by rw [hs]; rfl
        have he2 : (e_i != 0) = true := by rw [he]; rfl
        clear h1 he hs hza
        go_wp2_with fail
        refine (rnum2_any e_i w71).mono ?_
        rintro _ w' ⟨rfl, hw⟩
        obtain rfl := hw.symm
        clear hw
        go_wp2_with fail
        go_ret
        exact ⟨rfl, (unhide Aw71).bel⟩
      · have h1 := invL_some (unhide M_a) hza
        have h2 := invL_back (unhide M_a) hza
        have hs2 : (sa == 0) = false := by rw [← unhide HSA]; rcases sign_some (unhide M_a) hza with h | h <;> rw [h] <;> rfl
        clear hza
        rw [unhide HI] at h1
        cases h1
        rw [unhide HJJ] at h2
        cases h2
        go_wp2_with fail
        refine (rnum2_any 0 w71).mono ?_
        rintro _ w' ⟨rfl, hw⟩
        obtain rfl := hw.symm
        clear hw
        go_wp2_with fail
        refine (rnum2_any 0 w71).mono ?_
        rintro _ w' ⟨rfl, hw⟩
        obtain rfl := hw.symm
        clear hw
        have t72 := (unhide Aw71).r (w68.heap.size) (.bool g_a) (.slice a_j68 n_j68 c_j68) (.slice b_j68 m_j68 d_j68) (by repeat (first | exact List.Mem.head _ | apply List.Mem.tail))
        have t72a := t72.c0
        have t72b := t72.c1
        have t72c := t72.c2
        clear t72
        have t73 := (unhide Aw71).r (w.heap.size) (.bool g_a) (.slice a_a n_a c_a) (.slice b_a m_a d_a) (by repeat (first | exact List.Mem.head _ | apply List.Mem.tail))
        have t73a := t73.c0
        have t73b := t73.c1
        have t73c := t73.c2
        clear t73
        go_wp2_with fail
        clear t72a t72b t72c t73a t73b t73c
        have K := sameRat_any g_a g_a (a_j68) (b_j68) (a_a) (b_a) n_j68 c_j68 m_j68 d_j68 n_a c_a m_a d_a (x_a) (y_a) (x_a) (y_a) w71 ((unhide Aw71).n (a_j68) n_j68 c_j68 (x_a) (b_j68) m_j68 d_j68 (y_a) (by repeat (first | exact List.Mem.head _ | apply List.Mem.tail))).num ((unhide Aw71).n (a_j68) n_j68 c_j68 (x_a) (b_j68) m_j68 d_j68 (y_a) (by repeat (first | exact List.Mem.head _ | apply List.Mem.tail))).den ((unhide Aw71).n (a_a) n_a c_a (x_a) (b_a) m_a d_a (y_a) (by repeat (first | exact List.Mem.head _ | apply List.Mem.tail))).num ((unhide Aw71).n (a_a) n_a c_a (x_a) (b_a) m_a d_a (y_a) (by repeat (first | exact List.Mem.head _ | apply List.Mem.tail))).den
        rw [same_self] at K
        try unfold ratV at K
        refine K.mono ?_
        clear K
        rintro _ w74 ⟨rfl, hb⟩
        have Aw74 := hide ((unhide Aw71).step hb)
        clear Aw71 hb
        go_wp2_with fail
        go_ret
        exact ⟨rfl, (unhide Aw74).bel⟩
end Go.Proofs.YtjjeinfoeipjnaaGreatDoor
