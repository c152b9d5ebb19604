/-
  THE LAW RationalField: out of the contracts; the row's step.
-/
import Derived.Test.YtjjeinfoeipjnaaGreatDoorLRFieldy
import Derived.Test.YtjjeinfoeipjnaaGreatDoorRl2
import Derived.Test.YtjjeinfoeipjnaaGreatDoorCards
import Derived.Test.YtjjeinfoeipjnaaGreatDoorTie
import Derived.SevenTiedAt
import Derived.LaidMore
import Derived.Stop.Joined
import Derived.Lib.LaidTab
namespace Go.Proofs.YtjjeinfoeipjnaaGreatDoor
open Go.ChangeShapes Go.WideShapes Go.ChangeAt Go.RowKit Go.Deep
set_option linter.unusedVariables false

set_option maxRecDepth 100000 in
set_option maxHeartbeats 64000000 in
theorem rationalField_no1 (g_a : Bool) (a_a : Option Addr) (n_a c_a : Nat) (x_a : List Nat) (b_a : Option Addr) (m_a d_a : Nat) (y_a : List Nat) (g_b : Bool) (a_b : Option Addr) (n_b c_b : Nat) (x_b : List Nat) (b_b : Option Addr) (m_b d_b : Nat) (y_b : List Nat) (g_c : Bool) (a_c : Option Addr) (n_c c_c : Nat) (x_c : List Nat) (b_c : Option Addr) (m_c d_c : Nat) (y_c : List Nat) (w : World) (hx_a : Sl w a_a n_a c_a x_a) (hy_a : Sl w b_a m_a d_a y_a) (ox_a : Ok x_a) (oy_a : Ok y_a) (hx_b : Sl w a_b n_b c_b x_b) (hy_b : Sl w b_b m_b d_b y_b) (ox_b : Ok x_b) (oy_b : Ok y_b) (hx_c : Sl w a_c n_c c_c x_c) (hy_c : Sl w b_c m_c d_c y_c) (ox_c : Ok x_c) (oy_c : Ok y_c) (hT : Tab64 w) (k_a : MayR g_a x_a y_a = false) :
    Calls Tryz.prog 4 #[ratV g_a a_a n_a c_a b_a m_a d_a, ratV g_b a_b n_b c_b b_b m_b d_b, ratV g_c a_c n_c c_c b_c m_c d_c] w fun e w' => e = .returned (.bool true) ∧ Below w.heap.size w w' := by
  have A00 : Fcts w w [fTab] := ⟨Below.refl _ _, fun f hf => by simp at hf; subst hf; exact hT⟩
  have A01 := A00.add (fN a_a n_a c_a x_a b_a m_a d_a y_a) ⟨hx_a, hy_a⟩
  have O_a := hide (And.intro ox_a oy_a)
  have A02 := A01.add (fN a_b n_b c_b x_b b_b m_b d_b y_b) ⟨hx_b, hy_b⟩
  have O_b := hide (And.intro ox_b oy_b)
  have A03 := A02.add (fN a_c n_c c_c x_c b_c m_c d_c y_c) ⟨hx_c, hy_c⟩
  have O_c := hide (And.intro ox_c oy_c)
  have A0 := hide A03
  have M_a := hide k_a
  clear k_a
  clear A00 hT hx_a hy_a A01 ox_a oy_a hx_b hy_b A02 ox_b oy_b hx_c hy_c A03 ox_c oy_c
  unfold ratV
  obtain ⟨w1, hw1⟩ : ∃ x, w.alloc (.cells #[.bool g_a, .slice a_a n_a c_a, .slice b_a m_a d_a] 25) = x := ⟨_, rfl⟩
  have Aw1 := hide ((unhide A0).box (.bool g_a) (.slice a_a n_a c_a) (.slice b_a m_a d_a) 25)
  rw [hw1] at Aw1
  clear A0
  obtain ⟨w2, hw2⟩ : ∃ x, w1.alloc (.cells #[.bool g_b, .slice a_b n_b c_b, .slice b_b m_b d_b] 25) = x := ⟨_, rfl⟩
  have Aw2 := hide ((unhide Aw1).box (.bool g_b) (.slice a_b n_b c_b) (.slice b_b m_b d_b) 25)
  rw [hw2] at Aw2
  clear Aw1
  obtain ⟨w3, hw3⟩ : ∃ x, w2.alloc (.cells #[.bool g_c, .slice a_c n_c c_c, .slice b_c m_c d_c] 25) = x := ⟨_, rfl⟩
  have Aw3 := hide ((unhide Aw2).box (.bool g_c) (.slice a_c n_c c_c) (.slice b_c m_c d_c) 25)
  rw [hw3] at Aw3
  clear Aw2
  go_enter Tryz.func4, Tryz.ntmps4
  have t4 := (unhide Aw3).r (w.heap.size) (.bool g_a) (.slice a_a n_a c_a) (.slice b_a m_a d_a) (.tail _ (.tail _ (.head _)))
  have t4a := t4.c0
  have t4b := t4.c1
  have t4c := t4.c2
  clear t4
  go_wp2_with fail
  clear t4a t4b t4c
  have K := ratMay_any g_a (a_a) (b_a) n_a c_a m_a d_a (x_a) (y_a)  w3 ((unhide Aw3).n (a_a) n_a c_a (x_a) (b_a) m_a d_a (y_a) (.tail _ (.tail _ (.tail _ (.tail _ (.tail _ (.head _))))))).num ((unhide Aw3).n (a_a) n_a c_a (x_a) (b_a) m_a d_a (y_a) (.tail _ (.tail _ (.tail _ (.tail _ (.tail _ (.head _))))))).den (unhide O_a).1 (unhide O_a).2 ((unhide Aw3).tab (.tail _ (.tail _ (.tail _ (.tail _ (.tail _ (.tail _ (.head _))))))))
  rw [unhide M_a] at K
  try unfold ratV at K
  refine K.mono ?_
  clear K
  rintro _ w5 ⟨rfl, hb⟩
  have Aw5 := hide ((unhide Aw3).step hb)
  clear Aw3 hb
  go_wp2_with fail
  have K := ralive_any w5 ((unhide Aw5).tab (.tail _ (.tail _ (.tail _ (.tail _ (.tail _ (.tail _ (.head _))))))))
  try unfold ratV at K
  refine K.mono ?_
  clear K
  rintro _ w6 ⟨rfl, hb⟩
  have Aw6 := hide ((unhide Aw5).step hb)
  clear Aw5 hb
  go_wp2_with fail
  go_ret
  exact ⟨rfl, (unhide Aw6).bel⟩

set_option maxRecDepth 100000 in
set_option maxHeartbeats 64000000 in
theorem rationalField_no2 (g_a : Bool) (a_a : Option Addr) (n_a c_a : Nat) (x_a : List Nat) (b_a : Option Addr) (m_a d_a : Nat) (y_a : List Nat) (g_b : Bool) (a_b : Option Addr) (n_b c_b : Nat) (x_b : List Nat) (b_b : Option Addr) (m_b d_b : Nat) (y_b : List Nat) (g_c : Bool) (a_c : Option Addr) (n_c c_c : Nat) (x_c : List Nat) (b_c : Option Addr) (m_c d_c : Nat) (y_c : List Nat) (w : World) (hx_a : Sl w a_a n_a c_a x_a) (hy_a : Sl w b_a m_a d_a y_a) (ox_a : Ok x_a) (oy_a : Ok y_a) (hx_b : Sl w a_b n_b c_b x_b) (hy_b : Sl w b_b m_b d_b y_b) (ox_b : Ok x_b) (oy_b : Ok y_b) (hx_c : Sl w a_c n_c c_c x_c) (hy_c : Sl w b_c m_c d_c y_c) (ox_c : Ok x_c) (oy_c : Ok y_c) (hT : Tab64 w) (k_a : MayR g_a x_a y_a = true) (k_b : MayR g_b x_b y_b = false) :
    Calls Tryz.prog 4 #[ratV g_a a_a n_a c_a b_a m_a d_a, ratV g_b a_b n_b c_b b_b m_b d_b, ratV g_c a_c n_c c_c b_c m_c d_c] w fun e w' => e = .returned (.bool true) ∧ Below w.heap.size w w' := by
  have A00 : Fcts w w [fTab] := ⟨Below.refl _ _, fun f hf => by simp at hf; subst hf; exact hT⟩
  have A01 := A00.add (fN a_a n_a c_a x_a b_a m_a d_a y_a) ⟨hx_a, hy_a⟩
  have O_a := hide (And.intro ox_a oy_a)
  have A02 := A01.add (fN a_b n_b c_b x_b b_b m_b d_b y_b) ⟨hx_b, hy_b⟩
  have O_b := hide (And.intro ox_b oy_b)
  have A03 := A02.add (fN a_c n_c c_c x_c b_c m_c d_c y_c) ⟨hx_c, hy_c⟩
  have O_c := hide (And.intro ox_c oy_c)
  have A0 := hide A03
  have M_a := hide k_a
  have M_b := hide k_b
  clear k_a k_b
  clear A00 hT hx_a hy_a A01 ox_a oy_a hx_b hy_b A02 ox_b oy_b hx_c hy_c A03 ox_c oy_c
  unfold ratV
  obtain ⟨w1, hw1⟩ : ∃ x, w.alloc (.cells #[.bool g_a, .slice a_a n_a c_a, .slice b_a m_a d_a] 25) = x := ⟨_, rfl⟩
  have Aw1 := hide ((unhide A0).box (.bool g_a) (.slice a_a n_a c_a) (.slice b_a m_a d_a) 25)
  rw [hw1] at Aw1
  clear A0
  obtain ⟨w2, hw2⟩ : ∃ x, w1.alloc (.cells #[.bool g_b, .slice a_b n_b c_b, .slice b_b m_b d_b] 25) = x := ⟨_, rfl⟩
  have Aw2 := hide ((unhide Aw1).box (.bool g_b) (.slice a_b n_b c_b) (.slice b_b m_b d_b) 25)
  rw [hw2] at Aw2
  clear Aw1
  obtain ⟨w3, hw3⟩ : ∃ x, w2.alloc (.cells #[.bool g_c, .slice a_c n_c c_c, .slice b_c m_c d_c] 25) = x := ⟨_, rfl⟩
  have Aw3 := hide ((unhide Aw2).box (.bool g_c) (.slice a_c n_c c_c) (.slice b_c m_c d_c) 25)
  rw [hw3] at Aw3
  clear Aw2
  go_enter Tryz.func4, Tryz.ntmps4
  have t4 := (unhide Aw3).r (w.heap.size) (.bool g_a) (.slice a_a n_a c_a) (.slice b_a m_a d_a) (.tail _ (.tail _ (.head _)))
  have t4a := t4.c0
  have t4b := t4.c1
  have t4c := t4.c2
  clear t4
  go_wp2_with fail
  clear t4a t4b t4c
  have K := ratMay_any g_a (a_a) (b_a) n_a c_a m_a d_a (x_a) (y_a)  w3 ((unhide Aw3).n (a_a) n_a c_a (x_a) (b_a) m_a d_a (y_a) (.tail _ (.tail _ (.tail _ (.tail _ (.tail _ (.head _))))))).num ((unhide Aw3).n (a_a) n_a c_a (x_a) (b_a) m_a d_a (y_a) (.tail _ (.tail _ (.tail _ (.tail _ (.tail _ (.head _))))))).den (unhide O_a).1 (unhide O_a).2 ((unhide Aw3).tab (.tail _ (.tail _ (.tail _ (.tail _ (.tail _ (.tail _ (.head _))))))))
  rw [unhide M_a] at K
  try unfold ratV at K
  refine K.mono ?_
  clear K
  rintro _ w5 ⟨rfl, hb⟩
  have Aw5 := hide ((unhide Aw3).step hb)
  clear Aw3 hb
  have t6 := (unhide Aw5).r (w1.heap.size) (.bool g_b) (.slice a_b n_b c_b) (.slice b_b m_b d_b) (.tail _ (.head _))
  have t6a := t6.c0
  have t6b := t6.c1
  have t6c := t6.c2
  clear t6
  go_wp2_with fail
  clear t6a t6b t6c
  have K := ratMay_any g_b (a_b) (b_b) n_b c_b m_b d_b (x_b) (y_b)  w5 ((unhide Aw5).n (a_b) n_b c_b (x_b) (b_b) m_b d_b (y_b) (.tail _ (.tail _ (.tail _ (.tail _ (.head _)))))).num ((unhide Aw5).n (a_b) n_b c_b (x_b) (b_b) m_b d_b (y_b) (.tail _ (.tail _ (.tail _ (.tail _ (.head _)))))).den (unhide O_b).1 (unhide O_b).2 ((unhide Aw5).tab (.tail _ (.tail _ (.tail _ (.tail _ (.tail _ (.tail _ (.head _))))))))
  rw [unhide M_b] at K
  try unfold ratV at K
  refine K.mono ?_
  clear K
  rintro _ w7 ⟨rfl, hb⟩
  have Aw7 := hide ((unhide Aw5).step hb)
  clear Aw5 hb
  go_wp2_with fail
  have K := ralive_any w7 ((unhide Aw7).tab (.tail _ (.tail _ (.tail _ (.tail _ (.tail _ (.tail _ (.head _))))))))
  try unfold ratV at K
  refine K.mono ?_
  clear K
  rintro _ w8 ⟨rfl, hb⟩
  have Aw8 := hide ((unhide Aw7).step hb)
  clear Aw7 hb
  go_wp2_with fail
  go_ret
  exact ⟨rfl, (unhide Aw8).bel⟩

set_option maxRecDepth 100000 in
set_option maxHeartbeats 64000000 in
theorem rationalField_no3 (g_a : Bool) (a_a : Option Addr) (n_a c_a : Nat) (x_a : List Nat) (b_a : Option Addr) (m_a d_a : Nat) (y_a : List Nat) (g_b : Bool) (a_b : Option Addr) (n_b c_b : Nat) (x_b : List Nat) (b_b : Option Addr) (m_b d_b : Nat) (y_b : List Nat) (g_c : Bool) (a_c : Option Addr) (n_c c_c : Nat) (x_c : List Nat) (b_c : Option Addr) (m_c d_c : Nat) (y_c : List Nat) (w : World) (hx_a : Sl w a_a n_a c_a x_a) (hy_a : Sl w b_a m_a d_a y_a) (ox_a : Ok x_a) (oy_a : Ok y_a) (hx_b : Sl w a_b n_b c_b x_b) (hy_b : Sl w b_b m_b d_b y_b) (ox_b : Ok x_b) (oy_b : Ok y_b) (hx_c : Sl w a_c n_c c_c x_c) (hy_c : Sl w b_c m_c d_c y_c) (ox_c : Ok x_c) (oy_c : Ok y_c) (hT : Tab64 w) (k_a : MayR g_a x_a y_a = true) (k_b : MayR g_b x_b y_b = true) (k_c : MayR g_c x_c y_c = false) :
    Calls Tryz.prog 4 #[ratV g_a a_a n_a c_a b_a m_a d_a, ratV g_b a_b n_b c_b b_b m_b d_b, ratV g_c a_c n_c c_c b_c m_c d_c] w fun e w' => e = .returned (.bool true) ∧ Below w.heap.size w w' := by
  have A00 : Fcts w w [fTab] := ⟨Below.refl _ _, fun f hf => by simp at hf; subst hf; exact hT⟩
  have A01 := A00.add (fN a_a n_a c_a x_a b_a m_a d_a y_a) ⟨hx_a, hy_a⟩
  have O_a := hide (And.intro ox_a oy_a)
  have A02 := A01.add (fN a_b n_b c_b x_b b_b m_b d_b y_b) ⟨hx_b, hy_b⟩
  have O_b := hide (And.intro ox_b oy_b)
  have A03 := A02.add (fN a_c n_c c_c x_c b_c m_c d_c y_c) ⟨hx_c, hy_c⟩
  have O_c := hide (And.intro ox_c oy_c)
  have A0 := hide A03
  have M_a := hide k_a
  have M_b := hide k_b
  have M_c := hide k_c
  clear k_a k_b k_c
  clear A00 hT hx_a hy_a A01 ox_a oy_a hx_b hy_b A02 ox_b oy_b hx_c hy_c A03 ox_c oy_c
  unfold ratV
  obtain ⟨w1, hw1⟩ : ∃ x, w.alloc (.cells #[.bool g_a, .slice a_a n_a c_a, .slice b_a m_a d_a] 25) = x := ⟨_, rfl⟩
  have Aw1 := hide ((unhide A0).box (.bool g_a) (.slice a_a n_a c_a) (.slice b_a m_a d_a) 25)
  rw [hw1] at Aw1
  clear A0
  obtain ⟨w2, hw2⟩ : ∃ x, w1.alloc (.cells #[.bool g_b, .slice a_b n_b c_b, .slice b_b m_b d_b] 25) = x := ⟨_, rfl⟩
  have Aw2 := hide ((unhide Aw1).box (.bool g_b) (.slice a_b n_b c_b) (.slice b_b m_b d_b) 25)
  rw [hw2] at Aw2
  clear Aw1
  obtain ⟨w3, hw3⟩ : ∃ x, w2.alloc (.cells #[.bool g_c, .slice a_c n_c c_c, .slice b_c m_c d_c] 25) = x := ⟨_, rfl⟩
  have Aw3 := hide ((unhide Aw2).box (.bool g_c) (.slice a_c n_c c_c) (.slice b_c m_c d_c) 25)
  rw [hw3] at Aw3
  clear Aw2
  go_enter Tryz.func4, Tryz.ntmps4
  have t4 := (unhide Aw3).r (w.heap.size) (.bool g_a) (.slice a_a n_a c_a) (.slice b_a m_a d_a) (.tail _ (.tail _ (.head _)))
  have t4a := t4.c0
  have t4b := t4.c1
  have t4c := t4.c2
  clear t4
  go_wp2_with fail
  clear t4a t4b t4c
  have K := ratMay_any g_a (a_a) (b_a) n_a c_a m_a d_a (x_a) (y_a)  w3 ((unhide Aw3).n (a_a) n_a c_a (x_a) (b_a) m_a d_a (y_a) (.tail _ (.tail _ (.tail _ (.tail _ (.tail _ (.head _))))))).num ((unhide Aw3).n (a_a) n_a c_a (x_a) (b_a) m_a d_a (y_a) (.tail _ (.tail _ (.tail _ (.tail _ (.tail _ (.head _))))))).den (unhide O_a).1 (unhide O_a).2 ((unhide Aw3).tab (.tail _ (.tail _ (.tail _ (.tail _ (.tail _ (.tail _ (.head _))))))))
  rw [unhide M_a] at K
  try unfold ratV at K
  refine K.mono ?_
  clear K
  rintro _ w5 ⟨rfl, hb⟩
  have Aw5 := hide ((unhide Aw3).step hb)
  clear Aw3 hb
  have t6 := (unhide Aw5).r (w1.heap.size) (.bool g_b) (.slice a_b n_b c_b) (.slice b_b m_b d_b) (.tail _ (.head _))
  have t6a := t6.c0
  have t6b := t6.c1
  have t6c := t6.c2
  clear t6
  go_wp2_with fail
  clear t6a t6b t6c
  have K := ratMay_any g_b (a_b) (b_b) n_b c_b m_b d_b (x_b) (y_b)  w5 ((unhide Aw5).n (a_b) n_b c_b (x_b) (b_b) m_b d_b (y_b) (.tail _ (.tail _ (.tail _ (.tail _ (.head _)))))).num ((unhide Aw5).n (a_b) n_b c_b (x_b) (b_b) m_b d_b (y_b) (.tail _ (.tail _ (.tail _ (.tail _ (.head _)))))).den (unhide O_b).1 (unhide O_b).2 ((unhide Aw5).tab (.tail _ (.tail _ (.tail _ (.tail _ (.tail _ (.tail _ (.head _))))))))
  rw [unhide M_b] at K
  try unfold ratV at K
  refine K.mono ?_
  clear K
  rintro _ w7 ⟨rfl, hb⟩
  have Aw7 := hide ((unhide Aw5).step hb)
  clear Aw5 hb
  have t8 := (unhide Aw7).r (w2.heap.size) (.bool g_c) (.slice a_c n_c c_c) (.slice b_c m_c d_c) (.head _)
  have t8a := t8.c0
  have t8b := t8.c1
  have t8c := t8.c2
  clear t8
  go_wp2_with fail
  clear t8a t8b t8c
  have K := ratMay_any g_c (a_c) (b_c) n_c c_c m_c d_c (x_c) (y_c)  w7 ((unhide Aw7).n (a_c) n_c c_c (x_c) (b_c) m_c d_c (y_c) (.tail _ (.tail _ (.tail _ (.head _))))).num ((unhide Aw7).n (a_c) n_c c_c (x_c) (b_c) m_c d_c (y_c) (.tail _ (.tail _ (.tail _ (.head _))))).den (unhide O_c).1 (unhide O_c).2 ((unhide Aw7).tab (.tail _ (.tail _ (.tail _ (.tail _ (.tail _ (.tail _ (.head _))))))))
  rw [unhide M_c] at K
  try unfold ratV at K
  refine K.mono ?_
  clear K
  rintro _ w9 ⟨rfl, hb⟩
  have Aw9 := hide ((unhide Aw7).step hb)
  clear Aw7 hb
  go_wp2_with fail
  have K := ralive_any w9 ((unhide Aw9).tab (.tail _ (.tail _ (.tail _ (.tail _ (.tail _ (.tail _ (.head _))))))))
  try unfold ratV at K
  refine K.mono ?_
  clear K
  rintro _ w10 ⟨rfl, hb⟩
  have Aw10 := hide ((unhide Aw9).step hb)
  clear Aw9 hb
  go_wp2_with fail
  go_ret
  exact ⟨rfl, (unhide Aw10).bel⟩

theorem rationalField_walk (g_a : Bool) (a_a : Option Addr) (n_a c_a : Nat) (x_a : List Nat) (b_a : Option Addr) (m_a d_a : Nat) (y_a : List Nat) (g_b : Bool) (a_b : Option Addr) (n_b c_b : Nat) (x_b : List Nat) (b_b : Option Addr) (m_b d_b : Nat) (y_b : List Nat) (g_c : Bool) (a_c : Option Addr) (n_c c_c : Nat) (x_c : List Nat) (b_c : Option Addr) (m_c d_c : Nat) (y_c : List Nat) (w : World) (hx_a : Sl w a_a n_a c_a x_a) (hy_a : Sl w b_a m_a d_a y_a) (ox_a : Ok x_a) (oy_a : Ok y_a) (hx_b : Sl w a_b n_b c_b x_b) (hy_b : Sl w b_b m_b d_b y_b) (ox_b : Ok x_b) (oy_b : Ok y_b) (hx_c : Sl w a_c n_c c_c x_c) (hy_c : Sl w b_c m_c d_c y_c) (ox_c : Ok x_c) (oy_c : Ok y_c) (hT : Tab64 w) :
    Calls Tryz.prog 4 #[ratV g_a a_a n_a c_a b_a m_a d_a, ratV g_b a_b n_b c_b b_b m_b d_b, ratV g_c a_c n_c c_c b_c m_c d_c] w fun e w' => e = .returned (.bool true) ∧ Below w.heap.size w w' := by
  cases ma : MayR g_a x_a y_a
  · exact rationalField_no1 g_a a_a n_a c_a x_a b_a m_a d_a y_a g_b a_b n_b c_b x_b b_b m_b d_b y_b g_c a_c n_c c_c x_c b_c m_c d_c y_c w hx_a hy_a ox_a oy_a hx_b hy_b ox_b oy_b hx_c hy_c ox_c oy_c hT ma
  · cases mb : MayR g_b x_b y_b
    · exact rationalField_no2 g_a a_a n_a c_a x_a b_a m_a d_a y_a g_b a_b n_b c_b x_b b_b m_b d_b y_b g_c a_c n_c c_c x_c b_c m_c d_c y_c w hx_a hy_a ox_a oy_a hx_b hy_b ox_b oy_b hx_c hy_c ox_c oy_c hT ma mb
    · cases mc : MayR g_c x_c y_c
      · exact rationalField_no3 g_a a_a n_a c_a x_a b_a m_a d_a y_a g_b a_b n_b c_b x_b b_b m_b d_b y_b g_c a_c n_c c_c x_c b_c m_c d_c y_c w hx_a hy_a ox_a oy_a hx_b hy_b ox_b oy_b hx_c hy_c ox_c oy_c hT ma mb mc
      · exact rationalField_yes g_a a_a n_a c_a x_a b_a m_a d_a y_a g_b a_b n_b c_b x_b b_b m_b d_b y_b g_c a_c n_c c_c x_c b_c m_c d_c y_c w hx_a hy_a ox_a oy_a hx_b hy_b ox_b oy_b hx_c hy_c ox_c oy_c hT ma mb mc

set_option maxRecDepth 100000 in
theorem rationalField_door (os : Os) (args : Array Value) : laidMetH Tryz.prog [("math/bits.deBruijn64tab", Rows.laid_math_bits_deBruijn64tab)] ((World.doorLaid Tryz.prog 400 os).forCall (fun _ _ => 0) ⟨#[], args, []⟩).memory :=
  laidMetH_of_parts3 (fuel := 8) (laidMet_of_run' 8 (by kernel_rfl) (by kernel_rfl)) (by kernel_rfl) (by kernel_rfl)

set_option maxRecDepth 100000 in
theorem rationalField_lifted (os : Os) (started : os.Started) (H : Type) (enc : TypeId × Value → H) :
    ReturnsInHanded {} Tryz.checked os 4 .any (fun w args => (Rows.rationalFieldSpec.pre enc Tryz.prog Tryz.f4 [] false w args ∧ laidMetH Tryz.prog [("math/bits.deBruijn64tab", Rows.laid_math_bits_deBruijn64tab)] w) ∧ sizedMet enc Tryz.prog Tryz.f4 (OpenSpec.ofChange Rows.rationalFieldSpec) false w args) (Rows.rationalFieldSpec.post enc Tryz.prog Tryz.f4 false true false false) := by
  refine returnsInHanded_of_change_and (C := Tryz.checked) (X := fun w _ => laidMetH Tryz.prog [("math/bits.deBruijn64tab", Rows.laid_math_bits_deBruijn64tab)] w) (fun _ _ _ hh h => h.of_heap hh) law_own started (by kernel_rfl) Tryz.func4
    (ChangeSpec.witness_shaped (enc := enc) (C := Tryz.checked) (os := os) (X := fun w _ => laidMetH Tryz.prog [("math/bits.deBruijn64tab", Rows.laid_math_bits_deBruijn64tab)] w) false (World.doorLaid Tryz.prog 400 os) #[.agg #[.bool false, .slice none 0 0, .slice none 0 0], .agg #[.bool false, .slice none 0 0, .slice none 0 0], .agg #[.bool false, .slice none 0 0, .slice none 0 0]] 8 rfl (World.shaped_of_RefB (by kernel_rfl) (by kernel_rfl)) (by kernel_rfl) (by kernel_rfl) (by kernel_rfl) (rationalField_door os _)) ?_
  intro W base args ds gs before hval0 hW hcnd hsz hL _
  have hval : ∀ (j : Nat) t v, Tryz.f4.params[j]? = some t → args[j]? = some v → Value.okWide Tryz.prog W .any base t v := hval0
  have hW' := hW
  obtain ⟨p, q, hA0, hV, rfl, hfz, hnd⟩ := hW
  have hA : DataW.TrodAll enc Tryz.prog W 0 (fun _ => true) true Tryz.f4.params.toList args.toList ds p := hA0
  rw [Tryz.params4] at hA hval hsz
  obtain ⟨v0, vs0, d0, ds0, p0, q0, hargs, rfl, rfl, h0, r0⟩ := trodAll_cons hA
  obtain ⟨v1, vs1, d1, ds1, p1, q1, rfl, rfl, rfl, h1, r1⟩ := trodAll_cons r0
  obtain ⟨v2, vs2, d2, ds2, p2, q2, rfl, rfl, rfl, h2, r2⟩ := trodAll_cons r1
  obtain ⟨rfl, rfl, rfl⟩ := trodAll_nil r2
  obtain rfl : args = #[v0, v1, v2] := by cases args; simp_all
  obtain ⟨rfl, rfl⟩ := trodVars_none hV
  have k0 := h0
  have lt0 : ∀ x ∈ p0, x.block < W.heap.size := by obtain ⟨m, hm⟩ := k0; exact DataW.trod_lt m _ _ _ hm
  obtain ⟨g0, a0, n0, c0, x0, b0, m0, e0, y0, rfl, sx0, sy0, ox0, oy0⟩ := arg_rat (hval 0 25 v0 rfl rfl) h0
  have k1 := h1
  have lt1 : ∀ x ∈ p1, x.block < W.heap.size := by obtain ⟨m, hm⟩ := k1; exact DataW.trod_lt m _ _ _ hm
  obtain ⟨g1, a1, n1, c1, x1, b1, m1, e1, y1, rfl, sx1, sy1, ox1, oy1⟩ := arg_rat (hval 1 25 v1 rfl rfl) h1
  have k2 := h2
  have lt2 : ∀ x ∈ p2, x.block < W.heap.size := by obtain ⟨m, hm⟩ := k2; exact DataW.trod_lt m _ _ _ hm
  obtain ⟨g2, a2, n2, c2, x2, b2, m2, e2, y2, rfl, sx2, sy2, ox2, oy2⟩ := arg_rat (hval 2 25 v2 rfl rfl) h2
  clear hA0 hval0
  have hT : Tab64 W := by
    rw [MakeChecks.laidMetH_plain _ _ _ (by kernel_rfl)] at hL
    have hI := Lib.tabIs_of_head (k := .u8) (zs := tab64) (rest := []) (show Tryz.prog.globalNamed "math/bits.deBruijn64tab" = some 0 by kernel_rfl) (show (Tryz.prog.globals[0]?).map (·.type) = some 125 by kernel_rfl) Tryz.underlying125 Tryz.underlying5 (by kernel_rfl) (by kernel_rfl) hL
    intro j hj
    exact hI.cell (by kernel_rfl) j hj
  refine (rationalField_walk g0 a0 n0 c0 x0 b0 m0 e0 y0 g1 a1 n1 c1 x1 b1 m1 e1 y1 g2 a2 n2 c2 x2 b2 m2 e2 y2 W sx0 sy0 ox0 oy0 sx1 sy1 ox1 oy1 sx2 sy2 ox2 oy2 hT).mono fun e W' ⟨he, bel⟩ => ?_
  subst he
  exact ⟨_, rfl, _, _, _, [], _, [], hW', trodAll_mk1 (shut_bool Tryz.underlying4 _), (trodAll_cons_mk (Below.trod law_laid (by kernel_rfl) (of_decide_eq_true (by kernel_rfl)) k0 bel lt0) (trodAll_cons_mk (Below.trod law_laid (by kernel_rfl) (of_decide_eq_true (by kernel_rfl)) k1 bel lt1) (trodAll_cons_mk (Below.trod law_laid (by kernel_rfl) (of_decide_eq_true (by kernel_rfl)) k2 bel lt2) trodAll_mk0))), rfl, bel.frame _, fun h => by cases h⟩

theorem rationalField_row : Rows.RationalFieldSaid :=
  OpenClaim.holds_of_wide 4 Tryz.f4 rfl rfl rfl rfl rfl rfl rfl ⟨rfl, rfl, rfl, rfl, rfl⟩ rfl rfl rfl rfl rfl (by kernel_rfl) Tryz.func4 (by kernel_rfl)
    (of_decide_eq_true (by kernel_rfl)) (by unfold Func.isWrapper; first | (rw [if_pos (by decide +kernel)]; kernel_rfl) | (rw [if_neg (by decide +kernel)]; exact ⟨rfl, rfl⟩))
    (fun os started H enc _ => rationalField_lifted os started H enc)

theorem rationalField_holds : Rows.RationalFieldCardSaid :=
  Claim7.holds_tied_plain_at .later [] [.data] true Rows.rationalFieldCard.stood.harness false
    rationalField_row (fun _ h => by cases h) (by kernel_rfl) (fun _ h => by cases h) rationalField_row_tie rfl ⟨rfl, rfl⟩ (by kernel_rfl) rfl
    (fun f fn hf hfn => by
      obtain rfl : f = 4 := Option.some.inj ((show Tryz.prog.funcNamed "slope/slopelaw2.RationalField" = some 4 by kernel_rfl).symm.trans hf) |>.symm
      obtain rfl : fn = Tryz.f4 := (Option.some.inj (Tryz.func4.symm.trans hfn)).symm
      exact ⟨by kernel_rfl, fun j t ht => by
        rw [Tryz.params4] at ht
        have hm : t ∈ [25, 25, 25] := by simpa using Array.mem_of_getElem? ht
        have hall : ([25, 25, 25].all fun u => !Tryz.prog.wantsStandIn u) = true := by kernel_rfl
        exact (show Tryz.prog.wantsStandIn t = false by simpa using List.all_eq_true.1 hall t hm)⟩)
    (by kernel_rfl)
#print axioms rationalField_holds
end Go.Proofs.YtjjeinfoeipjnaaGreatDoor
