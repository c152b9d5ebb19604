/-
  THE LAW RationalPowers: out of the contracts; the row's step.
-/
import Derived.Test.YtjjeinfoeipjnaaGreatDoorRl6
import Derived.Test.YtjjeinfoeipjnaaGreatDoorRl2
import Derived.Test.YtjjeinfoeipjnaaGreatDoorWjd
import Derived.Test.YtjjeinfoeipjnaaGreatDoorCards
import Derived.Test.YtjjeinfoeipjnaaGreatDoorTie
import Derived.SevenTiedAt
import Derived.LaidMore
import Derived.Stop.Joined
import Derived.Lib.LaidTab
namespace Go.Proofs.YtjjeinfoeipjnaaGreatDoor
open Go.ChangeShapes Go.WideShapes Go.ChangeAt Go.RowKit Go.Deep
set_option linter.unusedVariables false

set_option maxRecDepth 100000 in
set_option maxHeartbeats 64000000 in
theorem rationalPowers_no (g_a : Bool) (a_a : Option Addr) (n_a c_a : Nat) (x_a : List Nat) (b_a : Option Addr) (m_a d_a : Nat) (y_a : List Nat) (i_m : Int) (i_n : Int) (w : World) (hx_a : Sl w a_a n_a c_a x_a) (hy_a : Sl w b_a m_a d_a y_a) (ox_a : Ok x_a) (oy_a : Ok y_a) (hl_m : -9223372036854775808 ≤ i_m) (hh_m : i_m ≤ 9223372036854775807) (hl_n : -9223372036854775808 ≤ i_n) (hh_n : i_n ≤ 9223372036854775807) (hT : Tab64 w) (k_a : MayR g_a x_a y_a = false) :
    Calls Tryz.prog 3 #[ratV g_a a_a n_a c_a b_a m_a d_a, .int .i64 i_m, .int .i64 i_n] w fun e w' => e = .returned (.bool true) ∧ Below w.heap.size w w' := by
  have A00 : Fcts w w [fTab] := ⟨Below.refl _ _, fun f hf => by simp at hf; subst hf; exact hT⟩
  have A01 := A00.add (fN a_a n_a c_a x_a b_a m_a d_a y_a) ⟨hx_a, hy_a⟩
  have O_a := hide (And.intro ox_a oy_a)
  have A0 := hide A01
  have M_a := hide k_a
  clear k_a
  clear A00 hT hx_a hy_a A01 ox_a oy_a
  unfold ratV
  obtain ⟨w1, hw1⟩ : ∃ x, w.alloc (.cells #[.bool g_a, .slice a_a n_a c_a, .slice b_a m_a d_a] 25) = x := ⟨_, rfl⟩
  have Aw1 := hide ((unhide A0).box (.bool g_a) (.slice a_a n_a c_a) (.slice b_a m_a d_a) 25)
  rw [hw1] at Aw1
  clear A0
  go_enter Tryz.func3, Tryz.ntmps3
  have t2 := (unhide Aw1).r (w.heap.size) (.bool g_a) (.slice a_a n_a c_a) (.slice b_a m_a d_a) (.head _)
  have t2a := t2.c0
  have t2b := t2.c1
  have t2c := t2.c2
  clear t2
  go_wp2_with fail
  clear t2a t2b t2c
  have K := ratMay_any g_a (a_a) (b_a) n_a c_a m_a d_a (x_a) (y_a)  w1 ((unhide Aw1).n (a_a) n_a c_a (x_a) (b_a) m_a d_a (y_a) (.tail _ (.head _))).num ((unhide Aw1).n (a_a) n_a c_a (x_a) (b_a) m_a d_a (y_a) (.tail _ (.head _))).den (unhide O_a).1 (unhide O_a).2 ((unhide Aw1).tab (.tail _ (.tail _ (.head _))))
  rw [unhide M_a] at K
  try unfold ratV at K
  refine K.mono ?_
  clear K
  rintro _ w3 ⟨rfl, hb⟩
  have Aw3 := hide ((unhide Aw1).step hb)
  clear Aw1 hb
  go_wp2_with fail
  have K := ralive_any w3 ((unhide Aw3).tab (.tail _ (.tail _ (.head _))))
  try unfold ratV at K
  refine K.mono ?_
  clear K
  rintro _ w4 ⟨rfl, hb⟩
  have Aw4 := hide ((unhide Aw3).step hb)
  clear Aw3 hb
  go_wp2_with fail
  go_ret
  exact ⟨rfl, (unhide Aw4).bel⟩

set_option maxRecDepth 100000 in
set_option maxHeartbeats 64000000 in
theorem rationalPowers_yes (g_a : Bool) (a_a : Option Addr) (n_a c_a : Nat) (x_a : List Nat) (b_a : Option Addr) (m_a d_a : Nat) (y_a : List Nat) (i_m : Int) (i_n : Int) (w : World) (hx_a : Sl w a_a n_a c_a x_a) (hy_a : Sl w b_a m_a d_a y_a) (ox_a : Ok x_a) (oy_a : Ok y_a) (hl_m : -9223372036854775808 ≤ i_m) (hh_m : i_m ≤ 9223372036854775807) (hl_n : -9223372036854775808 ≤ i_n) (hh_n : i_n ≤ 9223372036854775807) (hT : Tab64 w) (k_a : MayR g_a x_a y_a = true) :
    Calls Tryz.prog 3 #[ratV g_a a_a n_a c_a b_a m_a d_a, .int .i64 i_m, .int .i64 i_n] w fun e w' => e = .returned (.bool true) ∧ Below w.heap.size w w' := by
  have A00 : Fcts w w [fTab] := ⟨Below.refl _ _, fun f hf => by simp at hf; subst hf; exact hT⟩
  have A01 := A00.add (fN a_a n_a c_a x_a b_a m_a d_a y_a) ⟨hx_a, hy_a⟩
  have O_a := hide (And.intro ox_a oy_a)
  have A0 := hide A01
  obtain ⟨mn, hmn⟩ : ∃ r, IntKind.i64.wrap (i_m + i_n) = r := ⟨_, rfl⟩
  obtain ⟨nn, hnn⟩ : ∃ r, IntKind.i64.wrap (-i_n) = r := ⟨_, rfl⟩
  have wmn : -1024 ≤ i_m → i_m ≤ 1024 → -1024 ≤ i_n → i_n ≤ 1024 → mn = i_m + i_n := fun h1 h2 h3 h4 => by rw [← hmn]; exact (by rw [IntKind.wrap_i64]; omega)
  have wnn : -1024 ≤ i_n → i_n ≤ 1024 → nn = -i_n := fun h1 h2 => by rw [← hnn]; exact (by rw [IntKind.wrap_i64]; omega)
  obtain ⟨⟨⟨g_x, x_x, y_x⟩, e_x⟩, hx⟩ : ∃ r, PowF g_a x_a y_a i_m = r := ⟨_, rfl⟩
  have O_x := hide (show Ok x_x ∧ Ok y_x by have := powF_lists (g := g_a) (x := x_a) (y := y_a) (k := i_m); rw [hx] at this; exact this)
  obtain ⟨⟨⟨g_y, x_y, y_y⟩, e_y⟩, hy⟩ : ∃ r, PowF g_a x_a y_a i_n = r := ⟨_, rfl⟩
  have O_y := hide (show Ok x_y ∧ Ok y_y by have := powF_lists (g := g_a) (x := x_a) (y := y_a) (k := i_n); rw [hy] at this; exact this)
  obtain ⟨⟨⟨g_z, x_z, y_z⟩, e_z⟩, hz⟩ : ∃ r, PowF g_a x_a y_a mn = r := ⟨_, rfl⟩
  have O_z := hide (show Ok x_z ∧ Ok y_z by have := powF_lists (g := g_a) (x := x_a) (y := y_a) (k := mn); rw [hz] at this; exact this)
  obtain ⟨⟨⟨g_u, x_u, y_u⟩, e_u⟩, hu⟩ : ∃ r, PowF g_a x_a y_a nn = r := ⟨_, rfl⟩
  have O_u := hide (show Ok x_u ∧ Ok y_u by have := powF_lists (g := g_a) (x := x_a) (y := y_a) (k := nn); rw [hu] at this; exact this)
  obtain ⟨⟨⟨g_p, x_p, y_p⟩, e_p⟩, hp⟩ : ∃ r, MulF g_x x_x y_x g_y x_y y_y = r := ⟨_, rfl⟩
  have O_p := hide (show Ok x_p ∧ Ok y_p by have := mulF_lists (g1 := g_x) (x1 := x_x) (y1 := y_x) (g2 := g_y) (x2 := x_y) (y2 := y_y); rw [hp] at this; exact this)
  obtain ⟨⟨g_v, x_v, y_v, e_v⟩, hv⟩ : ∃ r, invL g_y x_y y_y = r := ⟨_, rfl⟩
  have O_v := hide (show Ok x_v ∧ Ok y_v by have := invL_lists (g := g_y) (unhide O_y).1 (unhide O_y).2; rw [hv] at this; exact this)
  have HPZ := hide (show e_x = 0 → e_y = 0 → e_z = 0 → e_p = 0 → sameR g_p x_p y_p g_z x_z y_z = true from fun h1 h2 h3 h4 => by subst h1 h2 h3 h4; exact powers_add k_a hx hy wmn hz hp)
  have HUV := hide (show e_y = 0 → e_u = 0 → e_v = 0 ∧ sameR g_u x_u y_u g_v x_v y_v = true from fun h1 h2 => by subst h1 h2; have h := powers_inv k_a hy wnn hu; rw [hv] at h; cases h; exact ⟨rfl, same_self _ _ _⟩)
  have HW := hide (powers_one ox_a oy_a k_a)
  have HX := hide hx
  have HY := hide hy
  have HZ := hide hz
  have HP := hide hp
  have HU := hide hu
  have HV := hide hv
  have HWA := hide (same_self g_a x_a y_a)
  have M_a := hide k_a
  have O_w := O_a
  clear hx hy hz hp hu hv k_a wmn wnn
  clear A00 hT hx_a hy_a A01 ox_a oy_a
  unfold ratV
  obtain ⟨w1, hw1⟩ : ∃ x, w.alloc (.cells #[.bool g_a, .slice a_a n_a c_a, .slice b_a m_a d_a] 25) = x := ⟨_, rfl⟩
  have Aw1 := hide ((unhide A0).box (.bool g_a) (.slice a_a n_a c_a) (.slice b_a m_a d_a) 25)
  rw [hw1] at Aw1
  clear A0
  go_enter Tryz.func3, Tryz.ntmps3
  have t2 := (unhide Aw1).r (w.heap.size) (.bool g_a) (.slice a_a n_a c_a) (.slice b_a m_a d_a) (.head _)
  have t2a := t2.c0
  have t2b := t2.c1
  have t2c := t2.c2
  clear t2
  go_wp2_with fail
  clear t2a t2b t2c
  have K := ratMay_any g_a (a_a) (b_a) n_a c_a m_a d_a (x_a) (y_a)  w1 ((unhide Aw1).n (a_a) n_a c_a (x_a) (b_a) m_a d_a (y_a) (.tail _ (.head _))).num ((unhide Aw1).n (a_a) n_a c_a (x_a) (b_a) m_a d_a (y_a) (.tail _ (.head _))).den (unhide O_a).1 (unhide O_a).2 ((unhide Aw1).tab (.tail _ (.tail _ (.head _))))
  rw [unhide M_a] at K
  try unfold ratV at K
  refine K.mono ?_
  clear K
  rintro _ w3 ⟨rfl, hb⟩
  have Aw3 := hide ((unhide Aw1).step hb)
  clear Aw1 hb
  have t4 := (unhide Aw3).r (w.heap.size) (.bool g_a) (.slice a_a n_a c_a) (.slice b_a m_a d_a) (.head _)
  have t4a := t4.c0
  have t4b := t4.c1
  have t4c := t4.c2
  clear t4
  go_wp2_with fail
  clear t4a t4b t4c
  have K := ratPow_any g_a (a_a) (b_a) n_a c_a m_a d_a (x_a) (y_a) i_m w3 ((unhide Aw3).n (a_a) n_a c_a (x_a) (b_a) m_a d_a (y_a) (.tail _ (.head _))).num ((unhide Aw3).n (a_a) n_a c_a (x_a) (b_a) m_a d_a (y_a) (.tail _ (.head _))).den (unhide O_a).1 (unhide O_a).2 ((unhide Aw3).tab (.tail _ (.tail _ (.head _))))
  rw [unhide HX] at K
  try dsimp only at K
  unfold ratV at K
  refine K.mono ?_
  clear K
  rintro _ w5 ⟨v, rfl, a_x5, n_x5, c_x5, b_x5, m_x5, d_x5, rfl, sx, sy, nx, ny, hb⟩
  try dsimp only at sx sy
  unfold ratV
  have Aw5 := hide (((unhide Aw3).step hb).add (fN a_x5 n_x5 c_x5 x_x b_x5 m_x5 d_x5 y_x) ⟨sx, sy⟩)
  clear Aw3 sx sy nx ny hb
  obtain ⟨w6, hw6⟩ : ∃ x, w5.alloc (.cells #[.bool g_x, .slice a_x5 n_x5 c_x5, .slice b_x5 m_x5 d_x5] 25) = x := ⟨_, rfl⟩
  have Aw6 := hide ((unhide Aw5).box (.bool g_x) (.slice a_x5 n_x5 c_x5) (.slice b_x5 m_x5 d_x5) 25)
  rw [hw6] at Aw6
  clear Aw5
  have t7 := (unhide Aw6).r (w.heap.size) (.bool g_a) (.slice a_a n_a c_a) (.slice b_a m_a d_a) (.tail _ (.tail _ (.head _)))
  have t7a := t7.c0
  have t7b := t7.c1
  have t7c := t7.c2
  clear t7
  go_wp2_with fail
  clear t7a t7b t7c
  have K := ratPow_any g_a (a_a) (b_a) n_a c_a m_a d_a (x_a) (y_a) i_n w6 ((unhide Aw6).n (a_a) n_a c_a (x_a) (b_a) m_a d_a (y_a) (.tail _ (.tail _ (.tail _ (.head _))))).num ((unhide Aw6).n (a_a) n_a c_a (x_a) (b_a) m_a d_a (y_a) (.tail _ (.tail _ (.tail _ (.head _))))).den (unhide O_a).1 (unhide O_a).2 ((unhide Aw6).tab (.tail _ (.tail _ (.tail _ (.tail _ (.head _))))))
  rw [unhide HY] at K
  try dsimp only at K
  unfold ratV at K
  refine K.mono ?_
  clear K
  rintro _ w8 ⟨v, rfl, a_y8, n_y8, c_y8, b_y8, m_y8, d_y8, rfl, sx, sy, nx, ny, hb⟩
  try dsimp only at sx sy
  unfold ratV
  have Aw8 := hide (((unhide Aw6).step hb).add (fN a_y8 n_y8 c_y8 x_y b_y8 m_y8 d_y8 y_y) ⟨sx, sy⟩)
  clear Aw6 sx sy nx ny hb
  obtain ⟨w9, hw9⟩ : ∃ x, w8.alloc (.cells #[.bool g_y, .slice a_y8 n_y8 c_y8, .slice b_y8 m_y8 d_y8] 25) = x := ⟨_, rfl⟩
  have Aw9 := hide ((unhide Aw8).box (.bool g_y) (.slice a_y8 n_y8 c_y8) (.slice b_y8 m_y8 d_y8) 25)
  rw [hw9] at Aw9
  clear Aw8
  have t10 := (unhide Aw9).r (w.heap.size) (.bool g_a) (.slice a_a n_a c_a) (.slice b_a m_a d_a) (.tail _ (.tail _ (.tail _ (.tail _ (.head _)))))
  have t10a := t10.c0
  have t10b := t10.c1
  have t10c := t10.c2
  clear t10
  go_wp2_with fail
  clear t10a t10b t10c
  have K := ratPow_any g_a (a_a) (b_a) n_a c_a m_a d_a (x_a) (y_a) mn w9 ((unhide Aw9).n (a_a) n_a c_a (x_a) (b_a) m_a d_a (y_a) (.tail _ (.tail _ (.tail _ (.tail _ (.tail _ (.head _))))))).num ((unhide Aw9).n (a_a) n_a c_a (x_a) (b_a) m_a d_a (y_a) (.tail _ (.tail _ (.tail _ (.tail _ (.tail _ (.head _))))))).den (unhide O_a).1 (unhide O_a).2 ((unhide Aw9).tab (.tail _ (.tail _ (.tail _ (.tail _ (.tail _ (.tail _ (.head _))))))))
  rw [unhide HZ] at K
  try dsimp only at K
  unfold ratV at K
  refine K.mono ?_
  clear K
  rintro _ w11 ⟨v, rfl, a_z11, n_z11, c_z11, b_z11, m_z11, d_z11, rfl, sx, sy, nx, ny, hb⟩
  try dsimp only at sx sy
  unfold ratV
  have Aw11 := hide (((unhide Aw9).step hb).add (fN a_z11 n_z11 c_z11 x_z b_z11 m_z11 d_z11 y_z) ⟨sx, sy⟩)
  clear Aw9 sx sy nx ny hb
  obtain ⟨w12, hw12⟩ : ∃ x, w11.alloc (.cells #[.bool g_z, .slice a_z11 n_z11 c_z11, .slice b_z11 m_z11 d_z11] 25) = x := ⟨_, rfl⟩
  have Aw12 := hide ((unhide Aw11).box (.bool g_z) (.slice a_z11 n_z11 c_z11) (.slice b_z11 m_z11 d_z11) 25)
  rw [hw12] at Aw12
  clear Aw11
  have t13 := (unhide Aw12).r (w5.heap.size) (.bool g_x) (.slice a_x5 n_x5 c_x5) (.slice b_x5 m_x5 d_x5) (.tail _ (.tail _ (.tail _ (.tail _ (.head _)))))
  have t13a := t13.c0
  have t13b := t13.c1
  have t13c := t13.c2
  clear t13
  have t14 := (unhide Aw12).r (w8.heap.size) (.bool g_y) (.slice a_y8 n_y8 c_y8) (.slice b_y8 m_y8 d_y8) (.tail _ (.tail _ (.head _)))
  have t14a := t14.c0
  have t14b := t14.c1
  have t14c := t14.c2
  clear t14
  go_wp2_with fail
  clear t13a t13b t13c t14a t14b t14c
  have K := ratMul_any g_x g_y (a_x5) (b_x5) (a_y8) (b_y8) n_x5 c_x5 m_x5 d_x5 n_y8 c_y8 m_y8 d_y8 (x_x) (y_x) (x_y) (y_y) w12 ((unhide Aw12).n (a_x5) n_x5 c_x5 (x_x) (b_x5) m_x5 d_x5 (y_x) (.tail _ (.tail _ (.tail _ (.tail _ (.tail _ (.head _))))))).num ((unhide Aw12).n (a_x5) n_x5 c_x5 (x_x) (b_x5) m_x5 d_x5 (y_x) (.tail _ (.tail _ (.tail _ (.tail _ (.tail _ (.head _))))))).den ((unhide Aw12).n (a_y8) n_y8 c_y8 (x_y) (b_y8) m_y8 d_y8 (y_y) (.tail _ (.tail _ (.tail _ (.head _))))).num ((unhide Aw12).n (a_y8) n_y8 c_y8 (x_y) (b_y8) m_y8 d_y8 (y_y) (.tail _ (.tail _ (.tail _ (.head _))))).den (unhide O_x).1 (unhide O_x).2 (unhide O_y).1 (unhide O_y).2 ((unhide Aw12).tab (.tail _ (.tail _ (.tail _ (.tail _ (.tail _ (.tail _ (.tail _ (.tail _ (.head _))))))))))
  rw [unhide HP] at K
  try dsimp only at K
  unfold ratV at K
  refine K.mono ?_
  clear K
  rintro _ w15 ⟨v, rfl, a_p15, n_p15, c_p15, b_p15, m_p15, d_p15, rfl, sx, sy, nx, ny, hb⟩
  try dsimp only at sx sy
  unfold ratV
  have Aw15 := hide (((unhide Aw12).step hb).add (fN a_p15 n_p15 c_p15 x_p b_p15 m_p15 d_p15 y_p) ⟨sx, sy⟩)
  clear Aw12 sx sy nx ny hb
  obtain ⟨w16, hw16⟩ : ∃ x, w15.alloc (.cells #[.bool g_p, .slice a_p15 n_p15 c_p15, .slice b_p15 m_p15 d_p15] 25) = x := ⟨_, rfl⟩
  have Aw16 := hide ((unhide Aw15).box (.bool g_p) (.slice a_p15 n_p15 c_p15) (.slice b_p15 m_p15 d_p15) 25)
  rw [hw16] at Aw16
  clear Aw15
  clear HX HY HZ HP
  go_wp2_with fail
  refine (rnum2_any e_x w16).mono ?_
  rintro _ w' ⟨rfl, hw⟩
  obtain rfl := hw.symm
  clear hw
  by_cases zx : e_x = 0
  focus
    have zx2 : (e_x == 0) = true := by simpa using zx
    have Zx := hide zx
    clear zx
    go_wp2_with fail
    refine (rnum2_any e_y w16).mono ?_
    rintro _ w' ⟨rfl, hw⟩
    obtain rfl := hw.symm
    clear hw
    by_cases zy : e_y = 0
    focus
      have zy2 : (e_y == 0) = true := by simpa using zy
      have Zy := hide zy
      clear zy
      go_wp2_with fail
      refine (rnum2_any e_z w16).mono ?_
      rintro _ w' ⟨rfl, hw⟩
      obtain rfl := hw.symm
      clear hw
      by_cases zz : e_z = 0
      focus
        have zz2 : (e_z == 0) = true := by simpa using zz
        have Zz := hide zz
        clear zz
        go_wp2_with fail
        refine (rnum2_any e_p w16).mono ?_
        rintro _ w' ⟨rfl, hw⟩
        obtain rfl := hw.symm
        clear hw
        by_cases zp : e_p = 0
        focus
          have zp2 : (e_p == 0) = true := by simpa using zp
          have Zp := hide zp
          clear zp
          have hpz := unhide HPZ (unhide Zx) (unhide Zy) (unhide Zz) (unhide Zp)
          have HPZ2 := hide hpz
          clear hpz
          have t17 := (unhide Aw16).r (w15.heap.size) (.bool g_p) (.slice a_p15 n_p15 c_p15) (.slice b_p15 m_p15 d_p15) (.head _)
          have t17a := t17.c0
          have t17b := t17.c1
          have t17c := t17.c2
          clear t17
          have t18 := (unhide Aw16).r (w11.heap.size) (.bool g_z) (.slice a_z11 n_z11 c_z11) (.slice b_z11 m_z11 d_z11) (.tail _ (.tail _ (.head _)))
          have t18a := t18.c0
          have t18b := t18.c1
          have t18c := t18.c2
          clear t18
          go_wp2_with fail
          clear t17a t17b t17c t18a t18b t18c
          have K := sameRat_any g_p g_z (a_p15) (b_p15) (a_z11) (b_z11) n_p15 c_p15 m_p15 d_p15 n_z11 c_z11 m_z11 d_z11 (x_p) (y_p) (x_z) (y_z) w16 ((unhide Aw16).n (a_p15) n_p15 c_p15 (x_p) (b_p15) m_p15 d_p15 (y_p) (.tail _ (.head _))).num ((unhide Aw16).n (a_p15) n_p15 c_p15 (x_p) (b_p15) m_p15 d_p15 (y_p) (.tail _ (.head _))).den ((unhide Aw16).n (a_z11) n_z11 c_z11 (x_z) (b_z11) m_z11 d_z11 (y_z) (.tail _ (.tail _ (.tail _ (.head _))))).num ((unhide Aw16).n (a_z11) n_z11 c_z11 (x_z) (b_z11) m_z11 d_z11 (y_z) (.tail _ (.tail _ (.tail _ (.head _))))).den
          rw [unhide HPZ2] at K
          try unfold ratV at K
          refine K.mono ?_
          clear K
          rintro _ w19 ⟨rfl, hb⟩
          have Aw19 := hide ((unhide Aw16).step hb)
          clear Aw16 hb
          clear HPZ2
          clear HPZ
          have t20 := (unhide Aw19).r (w.heap.size) (.bool g_a) (.slice a_a n_a c_a) (.slice b_a m_a d_a) (.tail _ (.tail _ (.tail _ (.tail _ (.tail _ (.tail _ (.tail _ (.tail _ (.head _)))))))))
          have t20a := t20.c0
          have t20b := t20.c1
          have t20c := t20.c2
          clear t20
          go_wp2_with fail
          clear t20a t20b t20c
          clear zx2 Zx zy2 Zy zz2 Zz zp2 Zp
          obtain ⟨wM1, hwM⟩ : ∃ x, x = w19 := ⟨_, rfl⟩
          subst hwM
          have AM1 := Aw19
          clear Aw19
        rotate_left
        focus
          have zp2 : (e_p == 0) = false := by simpa using zp
          clear HPZ
          have t21 := (unhide Aw16).r (w.heap.size) (.bool g_a) (.slice a_a n_a c_a) (.slice b_a m_a d_a) (.tail _ (.tail _ (.tail _ (.tail _ (.tail _ (.tail _ (.tail _ (.tail _ (.head _)))))))))
          have t21a := t21.c0
          have t21b := t21.c1
          have t21c := t21.c2
          clear t21
          go_wp2_with fail
          clear t21a t21b t21c
          clear zx2 Zx zy2 Zy zz2 Zz zp zp2
          obtain ⟨wM1, hwM⟩ : ∃ x, x = w16 := ⟨_, rfl⟩
          subst hwM
          have AM1 := Aw16
          clear Aw16
        rotate_left
      rotate_left 2
      focus
        have zz2 : (e_z == 0) = false := by simpa using zz
        clear HPZ
        have t22 := (unhide Aw16).r (w.heap.size) (.bool g_a) (.slice a_a n_a c_a) (.slice b_a m_a d_a) (.tail _ (.tail _ (.tail _ (.tail _ (.tail _ (.tail _ (.tail _ (.tail _ (.head _)))))))))
        have t22a := t22.c0
        have t22b := t22.c1
        have t22c := t22.c2
        clear t22
        go_wp2_with fail
        clear t22a t22b t22c
        clear zx2 Zx zy2 Zy zz zz2
        obtain ⟨wM1, hwM⟩ : ∃ x, x = w16 := ⟨_, rfl⟩
        subst hwM
        have AM1 := Aw16
        clear Aw16
      rotate_left
    rotate_left 3
    focus
      have zy2 : (e_y == 0) = false := by simpa using zy
      clear HPZ
      have t23 := (unhide Aw16).r (w.heap.size) (.bool g_a) (.slice a_a n_a c_a) (.slice b_a m_a d_a) (.tail _ (.tail _ (.tail _ (.tail _ (.tail _ (.tail _ (.tail _ (.tail _ (.head _)))))))))
      have t23a := t23.c0
      have t23b := t23.c1
      have t23c := t23.c2
      clear t23
      go_wp2_with fail
      clear t23a t23b t23c
      clear zx2 Zx zy zy2
      obtain ⟨wM1, hwM⟩ : ∃ x, x = w16 := ⟨_, rfl⟩
      subst hwM
      have AM1 := Aw16
      clear Aw16
    rotate_left
  rotate_left 4
  focus
    have zx2 : (e_x == 0) = false := by simpa using zx
    clear HPZ
    have t24 := (unhide Aw16).r (w.heap.size) (.bool g_a) (.slice a_a n_a c_a) (.slice b_a m_a d_a) (.tail _ (.tail _ (.tail _ (.tail _ (.tail _ (.tail _ (.tail _ (.tail _ (.head _)))))))))
    have t24a := t24.c0
    have t24b := t24.c1
    have t24c := t24.c2
    clear t24
    go_wp2_with fail
    clear t24a t24b t24c
    clear zx zx2
    obtain ⟨wM1, hwM⟩ : ∃ x, x = w16 := ⟨_, rfl⟩
    subst hwM
    have AM1 := Aw16
    clear Aw16
  rotate_left
  all_goals
    have K := ratPow_any g_a (a_a) (b_a) n_a c_a m_a d_a (x_a) (y_a) nn wM1 ((unhide AM1).n (a_a) n_a c_a (x_a) (b_a) m_a d_a (y_a) (.tail _ (.tail _ (.tail _ (.tail _ (.tail _ (.tail _ (.tail _ (.tail _ (.tail _ (.head _))))))))))).num ((unhide AM1).n (a_a) n_a c_a (x_a) (b_a) m_a d_a (y_a) (.tail _ (.tail _ (.tail _ (.tail _ (.tail _ (.tail _ (.tail _ (.tail _ (.tail _ (.head _))))))))))).den (unhide O_a).1 (unhide O_a).2 ((unhide AM1).tab (.tail _ (.tail _ (.tail _ (.tail _ (.tail _ (.tail _ (.tail _ (.tail _ (.tail _ (.tail _ (.head _))))))))))))
    rw [unhide HU] at K
    try dsimp only at K
    unfold ratV at K
    refine K.mono ?_
    clear K
    rintro _ w25 ⟨v, rfl, a_u25, n_u25, c_u25, b_u25, m_u25, d_u25, rfl, sx, sy, nx, ny, hb⟩
    try dsimp only at sx sy
    unfold ratV
    have Aw25 := hide (((unhide AM1).step hb).add (fN a_u25 n_u25 c_u25 x_u b_u25 m_u25 d_u25 y_u) ⟨sx, sy⟩)
    clear AM1 sx sy nx ny hb
    obtain ⟨w26, hw26⟩ : ∃ x, w25.alloc (.cells #[.bool g_u, .slice a_u25 n_u25 c_u25, .slice b_u25 m_u25 d_u25] 25) = x := ⟨_, rfl⟩
    have Aw26 := hide ((unhide Aw25).box (.bool g_u) (.slice a_u25 n_u25 c_u25) (.slice b_u25 m_u25 d_u25) 25)
    rw [hw26] at Aw26
    clear Aw25
    have t27 := (unhide Aw26).r (w8.heap.size) (.bool g_y) (.slice a_y8 n_y8 c_y8) (.slice b_y8 m_y8 d_y8) (.tail _ (.tail _ (.tail _ (.tail _ (.tail _ (.tail _ (.head _)))))))
    have t27a := t27.c0
    have t27b := t27.c1
    have t27c := t27.c2
    clear t27
    go_wp2_with fail
    clear t27a t27b t27c
    have K := ratInv_any g_y (a_y8) (b_y8) n_y8 c_y8 m_y8 d_y8 (x_y) (y_y)  w26 ((unhide Aw26).n (a_y8) n_y8 c_y8 (x_y) (b_y8) m_y8 d_y8 (y_y) (.tail _ (.tail _ (.tail _ (.tail _ (.tail _ (.tail _ (.tail _ (.head _))))))))).num ((unhide Aw26).n (a_y8) n_y8 c_y8 (x_y) (b_y8) m_y8 d_y8 (y_y) (.tail _ (.tail _ (.tail _ (.tail _ (.tail _ (.tail _ (.tail _ (.head _))))))))).den (unhide O_y).1 (unhide O_y).2 ((unhide Aw26).tab (.tail _ (.tail _ (.tail _ (.tail _ (.tail _ (.tail _ (.tail _ (.tail _ (.tail _ (.tail _ (.tail _ (.tail _ (.head _))))))))))))))
    rw [unhide HV] at K
    try dsimp only at K
    unfold ratV at K
    refine K.mono ?_
    clear K
    rintro _ w28 ⟨v, rfl, a_v28, n_v28, c_v28, b_v28, m_v28, d_v28, rfl, sx, sy, nx, ny, hb⟩
    try dsimp only at sx sy
    unfold ratV
    have Aw28 := hide (((unhide Aw26).step hb).add (fN a_v28 n_v28 c_v28 x_v b_v28 m_v28 d_v28 y_v) ⟨sx, sy⟩)
    clear Aw26 sx sy nx ny hb
    obtain ⟨w29, hw29⟩ : ∃ x, w28.alloc (.cells #[.bool g_v, .slice a_v28 n_v28 c_v28, .slice b_v28 m_v28 d_v28] 25) = x := ⟨_, rfl⟩
    have Aw29 := hide ((unhide Aw28).box (.bool g_v) (.slice a_v28 n_v28 c_v28) (.slice b_v28 m_v28 d_v28) 25)
    rw [hw29] at Aw29
    clear Aw28
    clear HU HV
    go_wp2_with fail
    refine (rnum2_any e_y w29).mono ?_
    rintro _ w' ⟨rfl, hw⟩
    obtain rfl := hw.symm
    clear hw
    by_cases zy : e_y = 0
    focus
      have zy2 : (e_y == 0) = true := by simpa using zy
      have Zy := hide zy
      clear zy
      go_wp2_with fail
      refine (rnum2_any e_u w29).mono ?_
      rintro _ w' ⟨rfl, hw⟩
      obtain rfl := hw.symm
      clear hw
      by_cases zu : e_u = 0
      focus
        have zu2 : (e_u == 0) = true := by simpa using zu
        have Zu := hide zu
        clear zu
        obtain ⟨hv0, huv⟩ := unhide HUV (unhide Zy) (unhide Zu)
        have hv2 : (e_v != 0) = false := by simpa using hv0
        clear hv0
        have HUV2 := hide huv
        clear huv
        go_wp2_with fail
        refine (rnum2_any e_v w29).mono ?_
        rintro _ w' ⟨rfl, hw⟩
        obtain rfl := hw.symm
        clear hw
        have t30 := (unhide Aw29).r (w25.heap.size) (.bool g_u) (.slice a_u25 n_u25 c_u25) (.slice b_u25 m_u25 d_u25) (.tail _ (.tail _ (.head _)))
        have t30a := t30.c0
        have t30b := t30.c1
        have t30c := t30.c2
        clear t30
        have t31 := (unhide Aw29).r (w28.heap.size) (.bool g_v) (.slice a_v28 n_v28 c_v28) (.slice b_v28 m_v28 d_v28) (.head _)
        have t31a := t31.c0
        have t31b := t31.c1
        have t31c := t31.c2
        clear t31
        go_wp2_with fail
        clear t30a t30b t30c t31a t31b t31c
        have K := sameRat_any g_u g_v (a_u25) (b_u25) (a_v28) (b_v28) n_u25 c_u25 m_u25 d_u25 n_v28 c_v28 m_v28 d_v28 (x_u) (y_u) (x_v) (y_v) w29 ((unhide Aw29).n (a_u25) n_u25 c_u25 (x_u) (b_u25) m_u25 d_u25 (y_u) (.tail _ (.tail _ (.tail _ (.head _))))).num ((unhide Aw29).n (a_u25) n_u25 c_u25 (x_u) (b_u25) m_u25 d_u25 (y_u) (.tail _ (.tail _ (.tail _ (.head _))))).den ((unhide Aw29).n (a_v28) n_v28 c_v28 (x_v) (b_v28) m_v28 d_v28 (y_v) (.tail _ (.head _))).num ((unhide Aw29).n (a_v28) n_v28 c_v28 (x_v) (b_v28) m_v28 d_v28 (y_v) (.tail _ (.head _))).den
        rw [unhide HUV2] at K
        try unfold ratV at K
        refine K.mono ?_
        clear K
        rintro _ w32 ⟨rfl, hb⟩
        have Aw32 := hide ((unhide Aw29).step hb)
        clear Aw29 hb
        clear HUV2
        clear HUV
        have t33 := (unhide Aw32).r (w.heap.size) (.bool g_a) (.slice a_a n_a c_a) (.slice b_a m_a d_a) (.tail _ (.tail _ (.tail _ (.tail _ (.tail _ (.tail _ (.tail _ (.tail _ (.tail _ (.tail _ (.tail _ (.tail _ (.head _)))))))))))))
        have t33a := t33.c0
        have t33b := t33.c1
        have t33c := t33.c2
        clear t33
        go_wp2_with fail
        clear t33a t33b t33c
        try clear hv2
        clear zy2 Zy zu2 Zu
        obtain ⟨wM2, hwM⟩ : ∃ x, x = w32 := ⟨_, rfl⟩
        subst hwM
        have AM2 := Aw32
        clear Aw32
      rotate_left
      focus
        have zu2 : (e_u == 0) = false := by simpa using zu
        clear HUV
        have t34 := (unhide Aw29).r (w.heap.size) (.bool g_a) (.slice a_a n_a c_a) (.slice b_a m_a d_a) (.tail _ (.tail _ (.tail _ (.tail _ (.tail _ (.tail _ (.tail _ (.tail _ (.tail _ (.tail _ (.tail _ (.tail _ (.head _)))))))))))))
        have t34a := t34.c0
        have t34b := t34.c1
        have t34c := t34.c2
        clear t34
        go_wp2_with fail
        clear t34a t34b t34c
        try clear hv2
        clear zy2 Zy zu zu2
        obtain ⟨wM2, hwM⟩ : ∃ x, x = w29 := ⟨_, rfl⟩
        subst hwM
        have AM2 := Aw29
        clear Aw29
      rotate_left
    rotate_left 2
    focus
      have zy2 : (e_y == 0) = false := by simpa using zy
      clear HUV
      have t35 := (unhide Aw29).r (w.heap.size) (.bool g_a) (.slice a_a n_a c_a) (.slice b_a m_a d_a) (.tail _ (.tail _ (.tail _ (.tail _ (.tail _ (.tail _ (.tail _ (.tail _ (.tail _ (.tail _ (.tail _ (.tail _ (.head _)))))))))))))
      have t35a := t35.c0
      have t35b := t35.c1
      have t35c := t35.c2
      clear t35
      go_wp2_with fail
      clear t35a t35b t35c
      try clear hv2
      clear zy zy2
      obtain ⟨wM2, hwM⟩ : ∃ x, x = w29 := ⟨_, rfl⟩
      subst hwM
      have AM2 := Aw29
      clear Aw29
    rotate_left
    all_goals
      have K := ratPow_any g_a (a_a) (b_a) n_a c_a m_a d_a (x_a) (y_a) 1 wM2 ((unhide AM2).n (a_a) n_a c_a (x_a) (b_a) m_a d_a (y_a) (.tail _ (.tail _ (.tail _ (.tail _ (.tail _ (.tail _ (.tail _ (.tail _ (.tail _ (.tail _ (.tail _ (.tail _ (.tail _ (.head _))))))))))))))).num ((unhide AM2).n (a_a) n_a c_a (x_a) (b_a) m_a d_a (y_a) (.tail _ (.tail _ (.tail _ (.tail _ (.tail _ (.tail _ (.tail _ (.tail _ (.tail _ (.tail _ (.tail _ (.tail _ (.tail _ (.head _))))))))))))))).den (unhide O_a).1 (unhide O_a).2 ((unhide AM2).tab (.tail _ (.tail _ (.tail _ (.tail _ (.tail _ (.tail _ (.tail _ (.tail _ (.tail _ (.tail _ (.tail _ (.tail _ (.tail _ (.tail _ (.head _))))))))))))))))
      rw [unhide HW] at K
      try dsimp only at K
      unfold ratV at K
      refine K.mono ?_
      clear K
      rintro _ w36 ⟨v, rfl, a_w36, n_w36, c_w36, b_w36, m_w36, d_w36, rfl, sx, sy, nx, ny, hb⟩
      try dsimp only at sx sy
      unfold ratV
      have Aw36 := hide (((unhide AM2).step hb).add (fN a_w36 n_w36 c_w36 x_a b_w36 m_w36 d_w36 y_a) ⟨sx, sy⟩)
      clear AM2 sx sy nx ny hb
      obtain ⟨w37, hw37⟩ : ∃ x, w36.alloc (.cells #[.bool g_a, .slice a_w36 n_w36 c_w36, .slice b_w36 m_w36 d_w36] 25) = x := ⟨_, rfl⟩
      have Aw37 := hide ((unhide Aw36).box (.bool g_a) (.slice a_w36 n_w36 c_w36) (.slice b_w36 m_w36 d_w36) 25)
      rw [hw37] at Aw37
      clear Aw36
      go_wp2_with fail
      refine (rnum2_any 0 w37).mono ?_
      rintro _ w' ⟨rfl, hw⟩
      obtain rfl := hw.symm
      clear hw
      have t38 := (unhide Aw37).r (w36.heap.size) (.bool g_a) (.slice a_w36 n_w36 c_w36) (.slice b_w36 m_w36 d_w36) (.head _)
      have t38a := t38.c0
      have t38b := t38.c1
      have t38c := t38.c2
      clear t38
      have t39 := (unhide Aw37).r (w.heap.size) (.bool g_a) (.slice a_a n_a c_a) (.slice b_a m_a d_a) (.tail _ (.tail _ (.tail _ (.tail _ (.tail _ (.tail _ (.tail _ (.tail _ (.tail _ (.tail _ (.tail _ (.tail _ (.tail _ (.tail _ (.head _)))))))))))))))
      have t39a := t39.c0
      have t39b := t39.c1
      have t39c := t39.c2
      clear t39
      go_wp2_with fail
      clear t38a t38b t38c t39a t39b t39c
      have K := sameRat_any g_a g_a (a_w36) (b_w36) (a_a) (b_a) n_w36 c_w36 m_w36 d_w36 n_a c_a m_a d_a (x_a) (y_a) (x_a) (y_a) w37 ((unhide Aw37).n (a_w36) n_w36 c_w36 (x_a) (b_w36) m_w36 d_w36 (y_a) (.tail _ (.head _))).num ((unhide Aw37).n (a_w36) n_w36 c_w36 (x_a) (b_w36) m_w36 d_w36 (y_a) (.tail _ (.head _))).den ((unhide Aw37).n (a_a) n_a c_a (x_a) (b_a) m_a d_a (y_a) (.tail _ (.tail _ (.tail _ (.tail _ (.tail _ (.tail _ (.tail _ (.tail _ (.tail _ (.tail _ (.tail _ (.tail _ (.tail _ (.tail _ (.tail _ (.head _))))))))))))))))).num ((unhide Aw37).n (a_a) n_a c_a (x_a) (b_a) m_a d_a (y_a) (.tail _ (.tail _ (.tail _ (.tail _ (.tail _ (.tail _ (.tail _ (.tail _ (.tail _ (.tail _ (.tail _ (.tail _ (.tail _ (.tail _ (.tail _ (.head _))))))))))))))))).den
      rw [unhide HWA] at K
      try unfold ratV at K
      refine K.mono ?_
      clear K
      rintro _ w40 ⟨rfl, hb⟩
      have Aw40 := hide ((unhide Aw37).step hb)
      clear Aw37 hb
      go_wp2_with fail
      have K := ralive_any w40 ((unhide Aw40).tab (.tail _ (.tail _ (.tail _ (.tail _ (.tail _ (.tail _ (.tail _ (.tail _ (.tail _ (.tail _ (.tail _ (.tail _ (.tail _ (.tail _ (.tail _ (.tail _ (.head _))))))))))))))))))
      try unfold ratV at K
      refine K.mono ?_
      clear K
      rintro _ w41 ⟨rfl, hb⟩
      have Aw41 := hide ((unhide Aw40).step hb)
      clear Aw40 hb
      go_wp2_with fail
      go_ret
      exact ⟨rfl, (unhide Aw41).bel⟩

theorem rationalPowers_walk (g_a : Bool) (a_a : Option Addr) (n_a c_a : Nat) (x_a : List Nat) (b_a : Option Addr) (m_a d_a : Nat) (y_a : List Nat) (i_m : Int) (i_n : Int) (w : World) (hx_a : Sl w a_a n_a c_a x_a) (hy_a : Sl w b_a m_a d_a y_a) (ox_a : Ok x_a) (oy_a : Ok y_a) (hl_m : -9223372036854775808 ≤ i_m) (hh_m : i_m ≤ 9223372036854775807) (hl_n : -9223372036854775808 ≤ i_n) (hh_n : i_n ≤ 9223372036854775807) (hT : Tab64 w) :
    Calls Tryz.prog 3 #[ratV g_a a_a n_a c_a b_a m_a d_a, .int .i64 i_m, .int .i64 i_n] w fun e w' => e = .returned (.bool true) ∧ Below w.heap.size w w' := by
  cases ma : MayR g_a x_a y_a
  · exact rationalPowers_no g_a a_a n_a c_a x_a b_a m_a d_a y_a i_m i_n w hx_a hy_a ox_a oy_a hl_m hh_m hl_n hh_n hT ma
  · exact rationalPowers_yes g_a a_a n_a c_a x_a b_a m_a d_a y_a i_m i_n w hx_a hy_a ox_a oy_a hl_m hh_m hl_n hh_n hT ma

set_option maxRecDepth 100000 in
theorem rationalPowers_door (os : Os) (args : Array Value) : laidMetH Tryz.prog [("math/bits.deBruijn64tab", Rows.laid_math_bits_deBruijn64tab)] ((World.doorLaid Tryz.prog 400 os).forCall (fun _ _ => 0) ⟨#[], args, []⟩).memory :=
  laidMetH_of_parts3 (fuel := 8) (laidMet_of_run' 8 (by kernel_rfl) (by kernel_rfl)) (by kernel_rfl) (by kernel_rfl)

set_option maxRecDepth 100000 in
theorem rationalPowers_lifted (os : Os) (started : os.Started) (H : Type) (enc : TypeId × Value → H) :
    ReturnsInHanded {} Tryz.checked os 3 .any (fun w args => (Rows.rationalPowersSpec.pre enc Tryz.prog Tryz.f3 [] false w args ∧ laidMetH Tryz.prog [("math/bits.deBruijn64tab", Rows.laid_math_bits_deBruijn64tab)] w) ∧ sizedMet enc Tryz.prog Tryz.f3 (OpenSpec.ofChange Rows.rationalPowersSpec) false w args) (Rows.rationalPowersSpec.post enc Tryz.prog Tryz.f3 false true false false) := by
  refine returnsInHanded_of_change_and (C := Tryz.checked) (X := fun w _ => laidMetH Tryz.prog [("math/bits.deBruijn64tab", Rows.laid_math_bits_deBruijn64tab)] w) (fun _ _ _ hh h => h.of_heap hh) law_own started (by kernel_rfl) Tryz.func3
    (ChangeSpec.witness_shaped (enc := enc) (C := Tryz.checked) (os := os) (X := fun w _ => laidMetH Tryz.prog [("math/bits.deBruijn64tab", Rows.laid_math_bits_deBruijn64tab)] w) false (World.doorLaid Tryz.prog 400 os) #[.agg #[.bool false, .slice none 0 0, .slice none 0 0], .int .i64 0, .int .i64 0] 8 rfl (World.shaped_of_RefB (by kernel_rfl) (by kernel_rfl)) (by kernel_rfl) (by kernel_rfl) (by kernel_rfl) (rationalPowers_door os _)) ?_
  intro W base args ds gs before hval0 hW hcnd hsz hL _
  have hval : ∀ (j : Nat) t v, Tryz.f3.params[j]? = some t → args[j]? = some v → Value.okWide Tryz.prog W .any base t v := hval0
  have hW' := hW
  obtain ⟨p, q, hA0, hV, rfl, hfz, hnd⟩ := hW
  have hA : DataW.TrodAll enc Tryz.prog W 0 (fun _ => true) true Tryz.f3.params.toList args.toList ds p := hA0
  rw [Tryz.params3] at hA hval hsz
  obtain ⟨v0, vs0, d0, ds0, p0, q0, hargs, rfl, rfl, h0, r0⟩ := trodAll_cons hA
  obtain ⟨v1, vs1, d1, ds1, p1, q1, rfl, rfl, rfl, h1, r1⟩ := trodAll_cons r0
  obtain ⟨v2, vs2, d2, ds2, p2, q2, rfl, rfl, rfl, h2, r2⟩ := trodAll_cons r1
  obtain ⟨rfl, rfl, rfl⟩ := trodAll_nil r2
  obtain rfl : args = #[v0, v1, v2] := by cases args; simp_all
  obtain ⟨rfl, rfl⟩ := trodVars_none hV
  have k0 := h0
  have lt0 : ∀ x ∈ p0, x.block < W.heap.size := by obtain ⟨m, hm⟩ := k0; exact DataW.trod_lt m _ _ _ hm
  obtain ⟨g0, a0, n0, c0, x0, b0, m0, e0, y0, rfl, sx0, sy0, ox0, oy0⟩ := arg_rat (hval 0 25 v0 rfl rfl) h0
  obtain ⟨i1, rfl, rfl, rfl, wf1⟩ := open_int Tryz.underlying3 (hval 1 3 v1 rfl rfl) h1
  obtain ⟨i2, rfl, rfl, rfl, wf2⟩ := open_int Tryz.underlying3 (hval 2 3 v2 rfl rfl) h2
  clear hA0 hval0
  have hT : Tab64 W := by
    rw [MakeChecks.laidMetH_plain _ _ _ (by kernel_rfl)] at hL
    have hI := Lib.tabIs_of_head (k := .u8) (zs := tab64) (rest := []) (show Tryz.prog.globalNamed "math/bits.deBruijn64tab" = some 0 by kernel_rfl) (show (Tryz.prog.globals[0]?).map (·.type) = some 125 by kernel_rfl) Tryz.underlying125 Tryz.underlying5 (by kernel_rfl) (by kernel_rfl) hL
    intro j hj
    exact hI.cell (by kernel_rfl) j hj
  refine (rationalPowers_walk g0 a0 n0 c0 x0 b0 m0 e0 y0 i1 i2 W sx0 sy0 ox0 oy0 (bounds_i64 wf1).1 (bounds_i64 wf1).2 (bounds_i64 wf2).1 (bounds_i64 wf2).2 hT).mono fun e W' ⟨he, bel⟩ => ?_
  subst he
  exact ⟨_, rfl, _, _, _, [], _, [], hW', trodAll_mk1 (shut_bool Tryz.underlying4 _), (trodAll_cons_mk (Below.trod law_laid (by kernel_rfl) (of_decide_eq_true (by kernel_rfl)) k0 bel lt0) (trodAll_cons_mk (shut_int Tryz.underlying3 wf1) (trodAll_cons_mk (shut_int Tryz.underlying3 wf2) trodAll_mk0))), rfl, bel.frame _, fun h => by cases h⟩

theorem rationalPowers_row : Rows.RationalPowersSaid :=
  OpenClaim.holds_of_wide 3 Tryz.f3 rfl rfl rfl rfl rfl rfl rfl ⟨rfl, rfl, rfl, rfl, rfl⟩ rfl rfl rfl rfl rfl (by kernel_rfl) Tryz.func3 (by kernel_rfl)
    (of_decide_eq_true (by kernel_rfl)) (by unfold Func.isWrapper; first | (rw [if_pos (by decide +kernel)]; kernel_rfl) | (rw [if_neg (by decide +kernel)]; exact ⟨rfl, rfl⟩))
    (fun os started H enc _ => rationalPowers_lifted os started H enc)

theorem rationalPowers_holds : Rows.RationalPowersCardSaid :=
  Claim7.holds_tied_plain_at .later [] [.data] true Rows.rationalPowersCard.stood.harness false
    rationalPowers_row (fun _ h => by cases h) (by kernel_rfl) (fun _ h => by cases h) rationalPowers_row_tie rfl ⟨rfl, rfl⟩ (by kernel_rfl) rfl
    (fun f fn hf hfn => by
      obtain rfl : f = 3 := Option.some.inj ((show Tryz.prog.funcNamed "slope/slopelaw2.RationalPowers" = some 3 by kernel_rfl).symm.trans hf) |>.symm
      obtain rfl : fn = Tryz.f3 := (Option.some.inj (Tryz.func3.symm.trans hfn)).symm
      exact ⟨by kernel_rfl, fun j t ht => by
        rw [Tryz.params3] at ht
        have hm : t ∈ [25, 3, 3] := by simpa using Array.mem_of_getElem? ht
        have hall : ([25, 3, 3].all fun u => !Tryz.prog.wantsStandIn u) = true := by kernel_rfl
        exact (show Tryz.prog.wantsStandIn t = false by simpa using List.all_eq_true.1 hall t hm)⟩)
    (by kernel_rfl)
#print axioms rationalPowers_holds
end Go.Proofs.YtjjeinfoeipjnaaGreatDoor
