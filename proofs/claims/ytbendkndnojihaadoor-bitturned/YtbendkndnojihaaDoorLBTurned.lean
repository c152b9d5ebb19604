/-
  THE LAW BitTurned: out of the contracts; the row's step.
-/
import Derived.Test.YtbendkndnojihaaDoorBxe
import Derived.Test.YtbendkndnojihaaDoorBu2
import Derived.Test.YtbendkndnojihaaDoorBl5
import Derived.Test.YtbendkndnojihaaDoorBt8
import Derived.Test.YtbendkndnojihaaDoorBtg0
import Derived.Test.YtbendkndnojihaaDoorBx7
import Derived.Test.YtbendkndnojihaaDoorCards
import Derived.Test.YtbendkndnojihaaDoorTie
import Derived.SevenTiedAt
import Derived.LaidMore
import Derived.Stop.Joined
import Derived.Lib.LaidTab
namespace Go.Proofs.YtbendkndnojihaaDoor
open Go.ChangeShapes Go.WideShapes Go.ChangeAt Go.RowKit Go.Deep
set_option linter.unusedVariables false

set_option maxRecDepth 100000 in
set_option maxHeartbeats 64000000 in
theorem bitTurned_n1 (s_a : Int) (a_a : Option Addr) (n_a c_a : Nat) (x_a : List SetC) (s_b : Int) (a_b : Option Addr) (n_b c_b : Nat) (x_b : List SetC) (w : World) (h_a : SlS w a_a n_a c_a x_a) (o_a : ∀ e ∈ x_a, e.Arg) (b_a : n_a ≤ 4398046510976) (e_a : a_a = none → n_a = 0 ∧ c_a = 0) (hl_a : -9223372036854775808 ≤ s_a) (hh_a : s_a ≤ 9223372036854775807) (h_b : SlS w a_b n_b c_b x_b) (o_b : ∀ e ∈ x_b, e.Arg) (b_b : n_b ≤ 4398046510976) (e_b : a_b = none → n_b = 0 ∧ c_b = 0) (hl_b : -9223372036854775808 ≤ s_b) (hh_b : s_b ≤ 9223372036854775807) (hT : Tab64 w) (hma : MayT s_a x_a = false) (hmb : MayT s_b x_b = false) :
    Calls Tryd.prog 7 #[setV s_a a_a n_a c_a, setV s_b a_b n_b c_b] w fun e w' => e = .returned (.bool true) ∧ Below w.heap.size w w' := by
  have A00 : Facts w w [] := ⟨Below.refl _ _, fun f hf => by cases hf⟩
  have A01 := A00.add (fS a_a n_a c_a x_a) h_a
  have L_a := hide h_a.len
  have hle_a := h_a.le
  have hcap_a := h_a.cap
  unfold maxLen at hcap_a
  have A02 := A01.add (fS a_b n_b c_b x_b) h_b
  have L_b := hide h_b.len
  have hle_b := h_b.le
  have hcap_b := h_b.cap
  unfold maxLen at hcap_b
  have A0 := hide A02
  have O_a := hide o_a
  have B_a := hide (And.intro hl_a hh_a)
  have O_b := hide o_b
  have B_b := hide (And.intro hl_b hh_b)
  have HT := hide hT
  clear hT
  have M_a := hide hma
  clear hma
  have M_b := hide hmb
  clear hmb
  clear A00 A01 A02 h_a h_b o_a o_b e_a e_b hl_a hh_a hl_b hh_b
  unfold setV
  go_enter Tryd.func7, Tryd.ntmps7
  obtain ⟨w1, hw1⟩ : ∃ x, w.alloc (.cells #[.int .i64 s_a, .slice a_a n_a c_a] 56) = x := ⟨_, rfl⟩
  have Aw1 := hide ((unhide A0).box (.int .i64 s_a) (.slice a_a n_a c_a) 56)
  rw [hw1] at Aw1
  clear A0
  obtain ⟨w2, hw2⟩ : ∃ x, w1.alloc (.cells #[.int .i64 s_b, .slice a_b n_b c_b] 56) = x := ⟨_, rfl⟩
  have Aw2 := hide ((unhide Aw1).box (.int .i64 s_b) (.slice a_b n_b c_b) 56)
  rw [hw2] at Aw2
  clear Aw1
  go_wp2_with fail
  have K := alive_any w2
  try unfold setV at K
  refine K.mono ?_
  clear K
  rintro _ w3 ⟨rfl, hb⟩
  have Aw3 := hide ((unhide Aw2).step hb)
  clear Aw2 hb
  have t4 := (unhide Aw3).t (w.heap.size) (.int .i64 s_a) (.slice a_a n_a c_a) (.tail _ (.head _))
  have t4a := t4.c0
  have t4b := t4.c1
  clear t4
  go_wp2_with fail
  clear t4a t4b
  have Kw5 := turn_bad s_a n_a a_a c_a x_a w3 ((unhide Aw3).ss (a_a) (n_a) c_a (x_a) (.tail _ (.tail _ (.tail _ (.head _))))) (unhide M_a)
  try unfold setV at Kw5
  refine Kw5.mono ?_
  clear Kw5
  rintro _ w5 ⟨a_t, c_t, x_t, rfl, hs, hk, hb⟩
  have hle_t := hs.le
  have hcap_t := hs.cap
  unfold maxLen at hcap_t
  have Aw5 := hide (((unhide Aw3).step hb).add (fS a_t (0) c_t x_t) hs)
  clear Aw3 hs hb hk
  unfold setV
  obtain ⟨w6, hw6⟩ : ∃ x, w5.alloc (.cells #[.int .i64 0, .slice a_t 0 c_t] 56) = x := ⟨_, rfl⟩
  have Aw6 := hide ((unhide Aw5).box (.int .i64 0) (.slice a_t 0 c_t) 56)
  rw [hw6] at Aw6
  clear Aw5
  have t7 := (unhide Aw6).t (w1.heap.size) (.int .i64 s_b) (.slice a_b n_b c_b) (.tail _ (.tail _ (.head _)))
  have t7a := t7.c0
  have t7b := t7.c1
  clear t7
  go_wp2_with fail
  clear t7a t7b
  have Kw8 := turn_bad s_b n_b a_b c_b x_b w6 ((unhide Aw6).ss (a_b) (n_b) c_b (x_b) (.tail _ (.tail _ (.tail _ (.tail _ (.head _)))))) (unhide M_b)
  try unfold setV at Kw8
  refine Kw8.mono ?_
  clear Kw8
  rintro _ w8 ⟨a_u, c_u, x_u, rfl, hs, hk, hb⟩
  have hle_u := hs.le
  have hcap_u := hs.cap
  unfold maxLen at hcap_u
  have Aw8 := hide (((unhide Aw6).step hb).add (fS a_u (0) c_u x_u) hs)
  clear Aw6 hs hb hk
  unfold setV
  obtain ⟨w9, hw9⟩ : ∃ x, w8.alloc (.cells #[.int .i64 0, .slice a_u 0 c_u] 56) = x := ⟨_, rfl⟩
  have Aw9 := hide ((unhide Aw8).box (.int .i64 0) (.slice a_u 0 c_u) 56)
  rw [hw9] at Aw9
  clear Aw8
  have t10 := (unhide Aw9).t (w.heap.size) (.int .i64 s_a) (.slice a_a n_a c_a) (.tail _ (.tail _ (.tail _ (.tail _ (.tail _ (.head _))))))
  have t10a := t10.c0
  have t10b := t10.c1
  clear t10
  go_wp2_with fail
  clear t10a t10b
  have K := rmayT_any s_a a_a n_a c_a x_a w9 ((unhide Aw9).ss (a_a) (n_a) c_a (x_a) (.tail _ (.tail _ (.tail _ (.tail _ (.tail _ (.tail _ (.tail _ (.head _)))))))))
  rw [unhide M_a] at K
  try unfold setV at K
  refine K.mono ?_
  clear K
  rintro _ w11 ⟨rfl, hb⟩
  have Aw11 := hide ((unhide Aw9).step hb)
  clear Aw9 hb
  go_wp2_with fail
  refine (num_any 61 w11).mono ?_
  rintro _ w' ⟨rfl, hw⟩
  obtain rfl := hw.symm
  go_wp2_with fail
  go_ret
  exact ⟨rfl, (unhide Aw11).bel⟩

set_option maxRecDepth 100000 in
set_option maxHeartbeats 64000000 in
theorem bitTurned_n2 (s_a : Int) (a_a : Option Addr) (n_a c_a : Nat) (x_a : List SetC) (s_b : Int) (a_b : Option Addr) (n_b c_b : Nat) (x_b : List SetC) (w : World) (h_a : SlS w a_a n_a c_a x_a) (o_a : ∀ e ∈ x_a, e.Arg) (b_a : n_a ≤ 4398046510976) (e_a : a_a = none → n_a = 0 ∧ c_a = 0) (hl_a : -9223372036854775808 ≤ s_a) (hh_a : s_a ≤ 9223372036854775807) (h_b : SlS w a_b n_b c_b x_b) (o_b : ∀ e ∈ x_b, e.Arg) (b_b : n_b ≤ 4398046510976) (e_b : a_b = none → n_b = 0 ∧ c_b = 0) (hl_b : -9223372036854775808 ≤ s_b) (hh_b : s_b ≤ 9223372036854775807) (hT : Tab64 w) (hma : MayT s_a x_a = false) (hmb : MayT s_b x_b = true) :
    Calls Tryd.prog 7 #[setV s_a a_a n_a c_a, setV s_b a_b n_b c_b] w fun e w' => e = .returned (.bool true) ∧ Below w.heap.size w w' := by
  have A00 : Facts w w [] := ⟨Below.refl _ _, fun f hf => by cases hf⟩
  have A01 := A00.add (fS a_a n_a c_a x_a) h_a
  have L_a := hide h_a.len
  have hle_a := h_a.le
  have hcap_a := h_a.cap
  unfold maxLen at hcap_a
  have A02 := A01.add (fS a_b n_b c_b x_b) h_b
  have L_b := hide h_b.len
  have hle_b := h_b.le
  have hcap_b := h_b.cap
  unfold maxLen at hcap_b
  have A0 := hide A02
  have O_a := hide o_a
  have B_a := hide (And.intro hl_a hh_a)
  have O_b := hide o_b
  have B_b := hide (And.intro hl_b hh_b)
  have HT := hide hT
  clear hT
  have M_a := hide hma
  clear hma
  obtain ⟨sb, rfl, Pb, gb⟩ := MayT.good hmb (fun e he => (h_b.all e he).2)
  rw [h_b.len] at gb
  have G_b := hide gb
  clear gb hmb
  clear A00 A01 A02 h_a h_b o_a o_b e_a e_b hl_a hh_a hl_b hh_b
  unfold setV
  go_enter Tryd.func7, Tryd.ntmps7
  obtain ⟨w1, hw1⟩ : ∃ x, w.alloc (.cells #[.int .i64 s_a, .slice a_a n_a c_a] 56) = x := ⟨_, rfl⟩
  have Aw1 := hide ((unhide A0).box (.int .i64 s_a) (.slice a_a n_a c_a) 56)
  rw [hw1] at Aw1
  clear A0
  obtain ⟨w2, hw2⟩ : ∃ x, w1.alloc (.cells #[.int .i64 (sb : Int), .slice a_b n_b c_b] 56) = x := ⟨_, rfl⟩
  have Aw2 := hide ((unhide Aw1).box (.int .i64 (sb : Int)) (.slice a_b n_b c_b) 56)
  rw [hw2] at Aw2
  clear Aw1
  go_wp2_with fail
  have K := alive_any w2
  try unfold setV at K
  refine K.mono ?_
  clear K
  rintro _ w3 ⟨rfl, hb⟩
  have Aw3 := hide ((unhide Aw2).step hb)
  clear Aw2 hb
  have t4 := (unhide Aw3).t (w.heap.size) (.int .i64 s_a) (.slice a_a n_a c_a) (.tail _ (.head _))
  have t4a := t4.c0
  have t4b := t4.c1
  clear t4
  go_wp2_with fail
  clear t4a t4b
  have Kw5 := turn_bad s_a n_a a_a c_a x_a w3 ((unhide Aw3).ss (a_a) (n_a) c_a (x_a) (.tail _ (.tail _ (.tail _ (.head _))))) (unhide M_a)
  try unfold setV at Kw5
  refine Kw5.mono ?_
  clear Kw5
  rintro _ w5 ⟨a_t, c_t, x_t, rfl, hs, hk, hb⟩
  have hle_t := hs.le
  have hcap_t := hs.cap
  unfold maxLen at hcap_t
  have Aw5 := hide (((unhide Aw3).step hb).add (fS a_t (0) c_t x_t) hs)
  clear Aw3 hs hb hk
  unfold setV
  obtain ⟨w6, hw6⟩ : ∃ x, w5.alloc (.cells #[.int .i64 0, .slice a_t 0 c_t] 56) = x := ⟨_, rfl⟩
  have Aw6 := hide ((unhide Aw5).box (.int .i64 0) (.slice a_t 0 c_t) 56)
  rw [hw6] at Aw6
  clear Aw5
  have t7 := (unhide Aw6).t (w1.heap.size) (.int .i64 (sb : Int)) (.slice a_b n_b c_b) (.tail _ (.tail _ (.head _)))
  have t7a := t7.c0
  have t7b := t7.c1
  clear t7
  go_wp2_with fail
  clear t7a t7b
  have Kw8 := turn_good sb n_b a_b c_b x_b Pb w6 ((unhide Aw6).ss (a_b) (n_b) c_b (x_b) (.tail _ (.tail _ (.tail _ (.tail _ (.head _)))))) (unhide G_b) ((unhide HT).below (unhide Aw6).bel)
  try unfold setV at Kw8
  refine Kw8.mono ?_
  clear Kw8
  rintro _ w8 ⟨a_u, c_u, x_u, rfl, hs, hk, hb⟩
  have hle_u := hs.le
  have hcap_u := hs.cap
  unfold maxLen at hcap_u
  have Aw8 := hide (((unhide Aw6).step hb).add (fS a_u (sb) c_u x_u) hs)
  clear Aw6 hs hb hk
  unfold setV
  obtain ⟨w9, hw9⟩ : ∃ x, w8.alloc (.cells #[.int .i64 (n_b : Int), .slice a_u sb c_u] 56) = x := ⟨_, rfl⟩
  have Aw9 := hide ((unhide Aw8).box (.int .i64 (n_b : Int)) (.slice a_u sb c_u) 56)
  rw [hw9] at Aw9
  clear Aw8
  have t10 := (unhide Aw9).t (w.heap.size) (.int .i64 s_a) (.slice a_a n_a c_a) (.tail _ (.tail _ (.tail _ (.tail _ (.tail _ (.head _))))))
  have t10a := t10.c0
  have t10b := t10.c1
  clear t10
  go_wp2_with fail
  clear t10a t10b
  have K := rmayT_any s_a a_a n_a c_a x_a w9 ((unhide Aw9).ss (a_a) (n_a) c_a (x_a) (.tail _ (.tail _ (.tail _ (.tail _ (.tail _ (.tail _ (.tail _ (.head _)))))))))
  rw [unhide M_a] at K
  try unfold setV at K
  refine K.mono ?_
  clear K
  rintro _ w11 ⟨rfl, hb⟩
  have Aw11 := hide ((unhide Aw9).step hb)
  clear Aw9 hb
  go_wp2_with fail
  refine (num_any 61 w11).mono ?_
  rintro _ w' ⟨rfl, hw⟩
  obtain rfl := hw.symm
  go_wp2_with fail
  go_ret
  exact ⟨rfl, (unhide Aw11).bel⟩

set_option maxRecDepth 100000 in
set_option maxHeartbeats 64000000 in
theorem bitTurned_n3 (s_a : Int) (a_a : Option Addr) (n_a c_a : Nat) (x_a : List SetC) (s_b : Int) (a_b : Option Addr) (n_b c_b : Nat) (x_b : List SetC) (w : World) (h_a : SlS w a_a n_a c_a x_a) (o_a : ∀ e ∈ x_a, e.Arg) (b_a : n_a ≤ 4398046510976) (e_a : a_a = none → n_a = 0 ∧ c_a = 0) (hl_a : -9223372036854775808 ≤ s_a) (hh_a : s_a ≤ 9223372036854775807) (h_b : SlS w a_b n_b c_b x_b) (o_b : ∀ e ∈ x_b, e.Arg) (b_b : n_b ≤ 4398046510976) (e_b : a_b = none → n_b = 0 ∧ c_b = 0) (hl_b : -9223372036854775808 ≤ s_b) (hh_b : s_b ≤ 9223372036854775807) (hT : Tab64 w) (hma : MayT s_a x_a = true) (hmb : MayT s_b x_b = false) :
    Calls Tryd.prog 7 #[setV s_a a_a n_a c_a, setV s_b a_b n_b c_b] w fun e w' => e = .returned (.bool true) ∧ Below w.heap.size w w' := by
  have A00 : Facts w w [] := ⟨Below.refl _ _, fun f hf => by cases hf⟩
  have A01 := A00.add (fS a_a n_a c_a x_a) h_a
  have L_a := hide h_a.len
  have hle_a := h_a.le
  have hcap_a := h_a.cap
  unfold maxLen at hcap_a
  have A02 := A01.add (fS a_b n_b c_b x_b) h_b
  have L_b := hide h_b.len
  have hle_b := h_b.le
  have hcap_b := h_b.cap
  unfold maxLen at hcap_b
  have A0 := hide A02
  have O_a := hide o_a
  have B_a := hide (And.intro hl_a hh_a)
  have O_b := hide o_b
  have B_b := hide (And.intro hl_b hh_b)
  have HT := hide hT
  clear hT
  obtain ⟨sa, rfl, Pa, ga⟩ := MayT.good hma (fun e he => (h_a.all e he).2)
  rw [h_a.len] at ga
  have G_a := hide ga
  clear ga hma
  have M_b := hide hmb
  clear hmb
  clear A00 A01 A02 h_a h_b o_a o_b e_a e_b hl_a hh_a hl_b hh_b
  unfold setV
  go_enter Tryd.func7, Tryd.ntmps7
  obtain ⟨w1, hw1⟩ : ∃ x, w.alloc (.cells #[.int .i64 (sa : Int), .slice a_a n_a c_a] 56) = x := ⟨_, rfl⟩
  have Aw1 := hide ((unhide A0).box (.int .i64 (sa : Int)) (.slice a_a n_a c_a) 56)
  rw [hw1] at Aw1
  clear A0
  obtain ⟨w2, hw2⟩ : ∃ x, w1.alloc (.cells #[.int .i64 s_b, .slice a_b n_b c_b] 56) = x := ⟨_, rfl⟩
  have Aw2 := hide ((unhide Aw1).box (.int .i64 s_b) (.slice a_b n_b c_b) 56)
  rw [hw2] at Aw2
  clear Aw1
  go_wp2_with fail
  have K := alive_any w2
  try unfold setV at K
  refine K.mono ?_
  clear K
  rintro _ w3 ⟨rfl, hb⟩
  have Aw3 := hide ((unhide Aw2).step hb)
  clear Aw2 hb
  have t4 := (unhide Aw3).t (w.heap.size) (.int .i64 (sa : Int)) (.slice a_a n_a c_a) (.tail _ (.head _))
  have t4a := t4.c0
  have t4b := t4.c1
  clear t4
  go_wp2_with fail
  clear t4a t4b
  have Kw5 := turn_good sa n_a a_a c_a x_a Pa w3 ((unhide Aw3).ss (a_a) (n_a) c_a (x_a) (.tail _ (.tail _ (.tail _ (.head _))))) (unhide G_a) ((unhide HT).below (unhide Aw3).bel)
  try unfold setV at Kw5
  refine Kw5.mono ?_
  clear Kw5
  rintro _ w5 ⟨a_t, c_t, x_t, rfl, hs, hk, hb⟩
  have hle_t := hs.le
  have hcap_t := hs.cap
  unfold maxLen at hcap_t
  have Aw5 := hide (((unhide Aw3).step hb).add (fS a_t (sa) c_t x_t) hs)
  clear Aw3 hs hb hk
  unfold setV
  obtain ⟨w6, hw6⟩ : ∃ x, w5.alloc (.cells #[.int .i64 (n_a : Int), .slice a_t sa c_t] 56) = x := ⟨_, rfl⟩
  have Aw6 := hide ((unhide Aw5).box (.int .i64 (n_a : Int)) (.slice a_t sa c_t) 56)
  rw [hw6] at Aw6
  clear Aw5
  have t7 := (unhide Aw6).t (w1.heap.size) (.int .i64 s_b) (.slice a_b n_b c_b) (.tail _ (.tail _ (.head _)))
  have t7a := t7.c0
  have t7b := t7.c1
  clear t7
  go_wp2_with fail
  clear t7a t7b
  have Kw8 := turn_bad s_b n_b a_b c_b x_b w6 ((unhide Aw6).ss (a_b) (n_b) c_b (x_b) (.tail _ (.tail _ (.tail _ (.tail _ (.head _)))))) (unhide M_b)
  try unfold setV at Kw8
  refine Kw8.mono ?_
  clear Kw8
  rintro _ w8 ⟨a_u, c_u, x_u, rfl, hs, hk, hb⟩
  have hle_u := hs.le
  have hcap_u := hs.cap
  unfold maxLen at hcap_u
  have Aw8 := hide (((unhide Aw6).step hb).add (fS a_u (0) c_u x_u) hs)
  clear Aw6 hs hb hk
  unfold setV
  obtain ⟨w9, hw9⟩ : ∃ x, w8.alloc (.cells #[.int .i64 0, .slice a_u 0 c_u] 56) = x := ⟨_, rfl⟩
  have Aw9 := hide ((unhide Aw8).box (.int .i64 0) (.slice a_u 0 c_u) 56)
  rw [hw9] at Aw9
  clear Aw8
  have t10 := (unhide Aw9).t (w.heap.size) (.int .i64 (sa : Int)) (.slice a_a n_a c_a) (.tail _ (.tail _ (.tail _ (.tail _ (.tail _ (.head _))))))
  have t10a := t10.c0
  have t10b := t10.c1
  clear t10
  go_wp2_with fail
  clear t10a t10b
  have K := rmayT_any (sa : Int) a_a n_a c_a x_a w9 ((unhide Aw9).ss (a_a) (n_a) c_a (x_a) (.tail _ (.tail _ (.tail _ (.tail _ (.tail _ (.tail _ (.tail _ (.head _)))))))))
  rw [(unhide G_a).may] at K
  try unfold setV at K
  refine K.mono ?_
  clear K
  rintro _ w11 ⟨rfl, hb⟩
  have Aw11 := hide ((unhide Aw9).step hb)
  clear Aw9 hb
  have t12 := (unhide Aw11).t (w1.heap.size) (.int .i64 s_b) (.slice a_b n_b c_b) (.tail _ (.tail _ (.tail _ (.tail _ (.head _)))))
  have t12a := t12.c0
  have t12b := t12.c1
  clear t12
  go_wp2_with fail
  clear t12a t12b
  have K := rmayT_any s_b a_b n_b c_b x_b w11 ((unhide Aw11).ss (a_b) (n_b) c_b (x_b) (.tail _ (.tail _ (.tail _ (.tail _ (.tail _ (.tail _ (.head _))))))))
  rw [unhide M_b] at K
  try unfold setV at K
  refine K.mono ?_
  clear K
  rintro _ w13 ⟨rfl, hb⟩
  have Aw13 := hide ((unhide Aw11).step hb)
  clear Aw11 hb
  go_wp2_with fail
  refine (num_any 0 w13).mono ?_
  rintro _ w' ⟨rfl, hw⟩
  obtain rfl := hw.symm
  go_wp2_with fail
  refine (num_any 61 w13).mono ?_
  rintro _ w' ⟨rfl, hw⟩
  obtain rfl := hw.symm
  go_wp2_with fail
  go_ret
  exact ⟨rfl, (unhide Aw13).bel⟩

set_option maxRecDepth 100000 in
set_option maxHeartbeats 64000000 in
theorem bitTurned_ff (s_a : Int) (a_a : Option Addr) (n_a c_a : Nat) (x_a : List SetC) (s_b : Int) (a_b : Option Addr) (n_b c_b : Nat) (x_b : List SetC) (w : World) (h_a : SlS w a_a n_a c_a x_a) (o_a : ∀ e ∈ x_a, e.Arg) (b_a : n_a ≤ 4398046510976) (e_a : a_a = none → n_a = 0 ∧ c_a = 0) (hl_a : -9223372036854775808 ≤ s_a) (hh_a : s_a ≤ 9223372036854775807) (h_b : SlS w a_b n_b c_b x_b) (o_b : ∀ e ∈ x_b, e.Arg) (b_b : n_b ≤ 4398046510976) (e_b : a_b = none → n_b = 0 ∧ c_b = 0) (hl_b : -9223372036854775808 ≤ s_b) (hh_b : s_b ≤ 9223372036854775807) (hT : Tab64 w) (hma : MayT s_a x_a = true) (hmb : MayT s_b x_b = true) (hsq : ¬ s_a = (n_a : Int)) (hft : ¬ s_a = (n_b : Int)) :
    Calls Tryd.prog 7 #[setV s_a a_a n_a c_a, setV s_b a_b n_b c_b] w fun e w' => e = .returned (.bool true) ∧ Below w.heap.size w w' := by
  have A00 : Facts w w [] := ⟨Below.refl _ _, fun f hf => by cases hf⟩
  have A01 := A00.add (fS a_a n_a c_a x_a) h_a
  have L_a := hide h_a.len
  have hle_a := h_a.le
  have hcap_a := h_a.cap
  unfold maxLen at hcap_a
  have A02 := A01.add (fS a_b n_b c_b x_b) h_b
  have L_b := hide h_b.len
  have hle_b := h_b.le
  have hcap_b := h_b.cap
  unfold maxLen at hcap_b
  have A0 := hide A02
  have O_a := hide o_a
  have B_a := hide (And.intro hl_a hh_a)
  have O_b := hide o_b
  have B_b := hide (And.intro hl_b hh_b)
  have HT := hide hT
  clear hT
  have la := h_a.len
  have lb := h_b.len
  obtain ⟨sa, rfl, Pa, ga⟩ := MayT.good hma (fun e he => (h_a.all e he).2)
  rw [la] at ga
  obtain ⟨sb, rfl, Pb, gb⟩ := MayT.good hmb (fun e he => (h_b.all e he).2)
  rw [lb] at gb
  have q1 : ((sa : Int) == (n_a : Int)) = false := by simp; omega
  have q2 : decide (sa = n_a) = false := by simp; omega
  have q5 : ¬ sa = n_a := by omega
  have q3 : ((sa : Int) == (n_b : Int)) = false := by simp; omega
  have q4 : decide (sa = n_b) = false := by simp; omega
  have q6 : ¬ sa = n_b := by omega
  have G_a := hide ga
  have G_b := hide gb
  clear ga gb hma hmb hsq hft la lb
  clear A00 A01 A02 h_a h_b o_a o_b e_a e_b hl_a hh_a hl_b hh_b
  unfold setV
  go_enter Tryd.func7, Tryd.ntmps7
  obtain ⟨w1, hw1⟩ : ∃ x, w.alloc (.cells #[.int .i64 (sa : Int), .slice a_a n_a c_a] 56) = x := ⟨_, rfl⟩
  have Aw1 := hide ((unhide A0).box (.int .i64 (sa : Int)) (.slice a_a n_a c_a) 56)
  rw [hw1] at Aw1
  clear A0
  obtain ⟨w2, hw2⟩ : ∃ x, w1.alloc (.cells #[.int .i64 (sb : Int), .slice a_b n_b c_b] 56) = x := ⟨_, rfl⟩
  have Aw2 := hide ((unhide Aw1).box (.int .i64 (sb : Int)) (.slice a_b n_b c_b) 56)
  rw [hw2] at Aw2
  clear Aw1
  go_wp2_with fail
  have K := alive_any w2
  try unfold setV at K
  refine K.mono ?_
  clear K
  rintro _ w3 ⟨rfl, hb⟩
  have Aw3 := hide ((unhide Aw2).step hb)
  clear Aw2 hb
  have t4 := (unhide Aw3).t (w.heap.size) (.int .i64 (sa : Int)) (.slice a_a n_a c_a) (.tail _ (.head _))
  have t4a := t4.c0
  have t4b := t4.c1
  clear t4
  go_wp2_with fail
  clear t4a t4b
  have Kw5 := turn_good sa n_a a_a c_a x_a Pa w3 ((unhide Aw3).ss (a_a) (n_a) c_a (x_a) (.tail _ (.tail _ (.tail _ (.head _))))) (unhide G_a) ((unhide HT).below (unhide Aw3).bel)
  try unfold setV at Kw5
  refine Kw5.mono ?_
  clear Kw5
  rintro _ w5 ⟨a_t, c_t, x_t, rfl, hs, hk, hb⟩
  have G_t := hide ((unhide G_a).turn hk)
  have hle_t := hs.le
  have hcap_t := hs.cap
  unfold maxLen at hcap_t
  have Aw5 := hide (((unhide Aw3).step hb).add (fS a_t (sa) c_t x_t) hs)
  clear Aw3 hs hb hk
  unfold setV
  obtain ⟨w6, hw6⟩ : ∃ x, w5.alloc (.cells #[.int .i64 (n_a : Int), .slice a_t sa c_t] 56) = x := ⟨_, rfl⟩
  have Aw6 := hide ((unhide Aw5).box (.int .i64 (n_a : Int)) (.slice a_t sa c_t) 56)
  rw [hw6] at Aw6
  clear Aw5
  have t7 := (unhide Aw6).t (w1.heap.size) (.int .i64 (sb : Int)) (.slice a_b n_b c_b) (.tail _ (.tail _ (.head _)))
  have t7a := t7.c0
  have t7b := t7.c1
  clear t7
  go_wp2_with fail
  clear t7a t7b
  have Kw8 := turn_good sb n_b a_b c_b x_b Pb w6 ((unhide Aw6).ss (a_b) (n_b) c_b (x_b) (.tail _ (.tail _ (.tail _ (.tail _ (.head _)))))) (unhide G_b) ((unhide HT).below (unhide Aw6).bel)
  try unfold setV at Kw8
  refine Kw8.mono ?_
  clear Kw8
  rintro _ w8 ⟨a_u, c_u, x_u, rfl, hs, hk, hb⟩
  have G_u := hide ((unhide G_b).turn hk)
  have hle_u := hs.le
  have hcap_u := hs.cap
  unfold maxLen at hcap_u
  have Aw8 := hide (((unhide Aw6).step hb).add (fS a_u (sb) c_u x_u) hs)
  clear Aw6 hs hb hk
  unfold setV
  obtain ⟨w9, hw9⟩ : ∃ x, w8.alloc (.cells #[.int .i64 (n_b : Int), .slice a_u sb c_u] 56) = x := ⟨_, rfl⟩
  have Aw9 := hide ((unhide Aw8).box (.int .i64 (n_b : Int)) (.slice a_u sb c_u) 56)
  rw [hw9] at Aw9
  clear Aw8
  have t10 := (unhide Aw9).t (w.heap.size) (.int .i64 (sa : Int)) (.slice a_a n_a c_a) (.tail _ (.tail _ (.tail _ (.tail _ (.tail _ (.head _))))))
  have t10a := t10.c0
  have t10b := t10.c1
  clear t10
  go_wp2_with fail
  clear t10a t10b
  have K := rmayT_any (sa : Int) a_a n_a c_a x_a w9 ((unhide Aw9).ss (a_a) (n_a) c_a (x_a) (.tail _ (.tail _ (.tail _ (.tail _ (.tail _ (.tail _ (.tail _ (.head _)))))))))
  rw [(unhide G_a).may] at K
  try unfold setV at K
  refine K.mono ?_
  clear K
  rintro _ w11 ⟨rfl, hb⟩
  have Aw11 := hide ((unhide Aw9).step hb)
  clear Aw9 hb
  have t12 := (unhide Aw11).t (w1.heap.size) (.int .i64 (sb : Int)) (.slice a_b n_b c_b) (.tail _ (.tail _ (.tail _ (.tail _ (.head _)))))
  have t12a := t12.c0
  have t12b := t12.c1
  clear t12
  go_wp2_with fail
  clear t12a t12b
  have K := rmayT_any (sb : Int) a_b n_b c_b x_b w11 ((unhide Aw11).ss (a_b) (n_b) c_b (x_b) (.tail _ (.tail _ (.tail _ (.tail _ (.tail _ (.tail _ (.head _))))))))
  rw [(unhide G_b).may] at K
  try unfold setV at K
  refine K.mono ?_
  clear K
  rintro _ w13 ⟨rfl, hb⟩
  have Aw13 := hide ((unhide Aw11).step hb)
  clear Aw11 hb
  have t14 := (unhide Aw13).t (w5.heap.size) (.int .i64 (n_a : Int)) (.slice a_t sa c_t) (.tail _ (.tail _ (.head _)))
  have t14a := t14.c0
  have t14b := t14.c1
  clear t14
  go_wp2_with fail
  clear t14a t14b
  have Kw15 := turn_good n_a sa a_t c_t x_t (tuQ Pa) w13 ((unhide Aw13).ss (a_t) (sa) c_t (x_t) (.tail _ (.tail _ (.tail _ (.head _))))) (unhide G_t) ((unhide HT).below (unhide Aw13).bel)
  try unfold setV at Kw15
  refine Kw15.mono ?_
  clear Kw15
  rintro _ w15 ⟨a_v, c_v, x_v, rfl, hs, hk, hb⟩
  have G_v := hide ((unhide G_t).turn hk)
  have hle_v := hs.le
  have hcap_v := hs.cap
  unfold maxLen at hcap_v
  have Aw15 := hide (((unhide Aw13).step hb).add (fS a_v (n_a) c_v x_v) hs)
  clear Aw13 hs hb hk
  unfold setV
  obtain ⟨w16, hw16⟩ : ∃ x, w15.alloc (.cells #[.int .i64 (sa : Int), .slice a_v n_a c_v] 56) = x := ⟨_, rfl⟩
  have Aw16 := hide ((unhide Aw15).box (.int .i64 (sa : Int)) (.slice a_v n_a c_v) 56)
  rw [hw16] at Aw16
  clear Aw15
  go_wp2_with fail
  refine (num_any 0 w16).mono ?_
  rintro _ w' ⟨rfl, hw⟩
  obtain rfl := hw.symm
  go_wp2_with fail
  refine (num_any 0 w16).mono ?_
  rintro _ w' ⟨rfl, hw⟩
  obtain rfl := hw.symm
  go_wp2_with fail
  refine (num_any 0 w16).mono ?_
  rintro _ w' ⟨rfl, hw⟩
  obtain rfl := hw.symm
  have t17 := (unhide Aw16).t (w15.heap.size) (.int .i64 (sa : Int)) (.slice a_v n_a c_v) (.head _)
  have t17a := t17.c0
  have t17b := t17.c1
  clear t17
  have t18 := (unhide Aw16).t (w.heap.size) (.int .i64 (sa : Int)) (.slice a_a n_a c_a) (.tail _ (.tail _ (.tail _ (.tail _ (.tail _ (.tail _ (.tail _ (.head _))))))))
  have t18a := t18.c0
  have t18b := t18.c1
  clear t18
  go_wp2_with fail
  clear t17a t17b t18a t18b
  have K := sameTable_eq (sa : Int) (a_v) (a_a) n_a c_v c_a x_v x_a w16 ((unhide Aw16).ss (a_v) (n_a) c_v (x_v) (.tail _ (.head _))) ((unhide Aw16).ss (a_a) (n_a) c_a (x_a) (.tail _ (.tail _ (.tail _ (.tail _ (.tail _ (.tail _ (.tail _ (.tail _ (.tail _ (.head _))))))))))) ((unhide G_a).key.trans (unhide G_v).key.symm)
  try unfold setV at K
  refine K.mono ?_
  clear K
  rintro _ w19 ⟨rfl, hb⟩
  have Aw19 := hide ((unhide Aw16).step hb)
  clear Aw16 hb
  have t20 := (unhide Aw19).t (w5.heap.size) (.int .i64 (n_a : Int)) (.slice a_t sa c_t) (.tail _ (.tail _ (.tail _ (.tail _ (.head _)))))
  have t20a := t20.c0
  have t20b := t20.c1
  clear t20
  have t21 := (unhide Aw19).t (w.heap.size) (.int .i64 (sa : Int)) (.slice a_a n_a c_a) (.tail _ (.tail _ (.tail _ (.tail _ (.tail _ (.tail _ (.tail _ (.head _))))))))
  have t21a := t21.c0
  have t21b := t21.c1
  clear t21
  go_wp2_with fail
  clear t20a t20b t21a t21b
  have Kw22 := both_bad sa n_a a_a c_a x_a Pa w19 ((unhide Aw19).ss (a_a) (n_a) c_a (x_a) (.tail _ (.tail _ (.tail _ (.tail _ (.tail _ (.tail _ (.tail _ (.tail _ (.tail _ (.head _))))))))))) (unhide G_a) q5
  try unfold setV at Kw22
  refine Kw22.mono ?_
  clear Kw22
  rintro _ w22 ⟨a_both, c_both, x_both, rfl, hs, hk, hb⟩
  have hle_both := hs.le
  have hcap_both := hs.cap
  unfold maxLen at hcap_both
  have Aw22 := hide (((unhide Aw19).step hb).add (fS a_both (0) c_both x_both) hs)
  clear Aw19 hs hb hk
  unfold setV
  obtain ⟨w23, hw23⟩ : ∃ x, w22.alloc (.cells #[.int .i64 0, .slice a_both 0 c_both] 56) = x := ⟨_, rfl⟩
  have Aw23 := hide ((unhide Aw22).box (.int .i64 0) (.slice a_both 0 c_both) 56)
  rw [hw23] at Aw23
  clear Aw22
  have t24 := (unhide Aw23).t (w.heap.size) (.int .i64 (sa : Int)) (.slice a_a n_a c_a) (.tail _ (.tail _ (.tail _ (.tail _ (.tail _ (.tail _ (.tail _ (.tail _ (.tail _ (.head _))))))))))
  have t24a := t24.c0
  have t24b := t24.c1
  clear t24
  have t25 := (unhide Aw23).t (w1.heap.size) (.int .i64 (sb : Int)) (.slice a_b n_b c_b) (.tail _ (.tail _ (.tail _ (.tail _ (.tail _ (.tail _ (.tail _ (.tail _ (.head _)))))))))
  have t25a := t25.c0
  have t25b := t25.c1
  clear t25
  go_wp2_with fail
  clear t24a t24b t25a t25b
  have Kw26 := product_bad sa n_a a_a c_a x_a Pa sb n_b a_b c_b x_b Pb w23 ((unhide Aw23).ss (a_a) (n_a) c_a (x_a) (.tail _ (.tail _ (.tail _ (.tail _ (.tail _ (.tail _ (.tail _ (.tail _ (.tail _ (.tail _ (.tail _ (.head _))))))))))))) ((unhide Aw23).ss (a_b) (n_b) c_b (x_b) (.tail _ (.tail _ (.tail _ (.tail _ (.tail _ (.tail _ (.tail _ (.tail _ (.tail _ (.tail _ (.head _)))))))))))) (unhide G_a) (unhide G_b) q6
  try unfold setV at Kw26
  refine Kw26.mono ?_
  clear Kw26
  rintro _ w26 ⟨a_p, c_p, x_p, rfl, hs, hk, hb⟩
  have hle_p := hs.le
  have hcap_p := hs.cap
  unfold maxLen at hcap_p
  have Aw26 := hide (((unhide Aw23).step hb).add (fS a_p (0) c_p x_p) hs)
  clear Aw23 hs hb hk
  unfold setV
  obtain ⟨w27, hw27⟩ : ∃ x, w26.alloc (.cells #[.int .i64 0, .slice a_p 0 c_p] 56) = x := ⟨_, rfl⟩
  have Aw27 := hide ((unhide Aw26).box (.int .i64 0) (.slice a_p 0 c_p) 56)
  rw [hw27] at Aw27
  clear Aw26
  have t28 := (unhide Aw27).t (w.heap.size) (.int .i64 (sa : Int)) (.slice a_a n_a c_a) (.tail _ (.tail _ (.tail _ (.tail _ (.tail _ (.tail _ (.tail _ (.tail _ (.tail _ (.tail _ (.tail _ (.head _))))))))))))
  have t28a := t28.c0
  have t28b := t28.c1
  clear t28
  have t29 := (unhide Aw27).t (w1.heap.size) (.int .i64 (sb : Int)) (.slice a_b n_b c_b) (.tail _ (.tail _ (.tail _ (.tail _ (.tail _ (.tail _ (.tail _ (.tail _ (.tail _ (.tail _ (.head _)))))))))))
  have t29a := t29.c0
  have t29b := t29.c1
  clear t29
  go_wp2_with fail
  clear t28a t28b t29a t29b
  refine (num_any 60 w27).mono ?_
  rintro _ w' ⟨rfl, hw⟩
  obtain rfl := hw.symm
  go_wp2_with fail
  go_ret
  exact ⟨rfl, (unhide Aw27).bel⟩

set_option maxRecDepth 100000 in
set_option maxHeartbeats 64000000 in
theorem bitTurned_ft (s_a : Int) (a_a : Option Addr) (n_a c_a : Nat) (x_a : List SetC) (s_b : Int) (a_b : Option Addr) (n_b c_b : Nat) (x_b : List SetC) (w : World) (h_a : SlS w a_a n_a c_a x_a) (o_a : ∀ e ∈ x_a, e.Arg) (b_a : n_a ≤ 4398046510976) (e_a : a_a = none → n_a = 0 ∧ c_a = 0) (hl_a : -9223372036854775808 ≤ s_a) (hh_a : s_a ≤ 9223372036854775807) (h_b : SlS w a_b n_b c_b x_b) (o_b : ∀ e ∈ x_b, e.Arg) (b_b : n_b ≤ 4398046510976) (e_b : a_b = none → n_b = 0 ∧ c_b = 0) (hl_b : -9223372036854775808 ≤ s_b) (hh_b : s_b ≤ 9223372036854775807) (hT : Tab64 w) (hma : MayT s_a x_a = true) (hmb : MayT s_b x_b = true) (hsq : ¬ s_a = (n_a : Int)) (hft : s_a = (n_b : Int)) :
    Calls Tryd.prog 7 #[setV s_a a_a n_a c_a, setV s_b a_b n_b c_b] w fun e w' => e = .returned (.bool true) ∧ Below w.heap.size w w' := by
  have A00 : Facts w w [] := ⟨Below.refl _ _, fun f hf => by cases hf⟩
  have A01 := A00.add (fS a_a n_a c_a x_a) h_a
  have L_a := hide h_a.len
  have hle_a := h_a.le
  have hcap_a := h_a.cap
  unfold maxLen at hcap_a
  have A02 := A01.add (fS a_b n_b c_b x_b) h_b
  have L_b := hide h_b.len
  have hle_b := h_b.le
  have hcap_b := h_b.cap
  unfold maxLen at hcap_b
  have A0 := hide A02
  have O_a := hide o_a
  have B_a := hide (And.intro hl_a hh_a)
  have O_b := hide o_b
  have B_b := hide (And.intro hl_b hh_b)
  have HT := hide hT
  clear hT
  have la := h_a.len
  have lb := h_b.len
  obtain ⟨sa, rfl, Pa, ga⟩ := MayT.good hma (fun e he => (h_a.all e he).2)
  rw [la] at ga
  obtain ⟨sb, rfl, Pb, gb⟩ := MayT.good hmb (fun e he => (h_b.all e he).2)
  rw [lb] at gb
  obtain rfl : n_b = sa := by omega
  have q1 : ((n_b : Int) == (n_a : Int)) = false := by simp; omega
  have q2 : decide (n_b = n_a) = false := by simp; omega
  have q5 : ¬ n_b = n_a := by omega
  have G_a := hide ga
  have G_b := hide gb
  clear ga gb hma hmb hsq hft la lb
  clear A00 A01 A02 h_a h_b o_a o_b e_a e_b hl_a hh_a hl_b hh_b
  unfold setV
  go_enter Tryd.func7, Tryd.ntmps7
  obtain ⟨w1, hw1⟩ : ∃ x, w.alloc (.cells #[.int .i64 (n_b : Int), .slice a_a n_a c_a] 56) = x := ⟨_, rfl⟩
  have Aw1 := hide ((unhide A0).box (.int .i64 (n_b : Int)) (.slice a_a n_a c_a) 56)
  rw [hw1] at Aw1
  clear A0
  obtain ⟨w2, hw2⟩ : ∃ x, w1.alloc (.cells #[.int .i64 (sb : Int), .slice a_b n_b c_b] 56) = x := ⟨_, rfl⟩
  have Aw2 := hide ((unhide Aw1).box (.int .i64 (sb : Int)) (.slice a_b n_b c_b) 56)
  rw [hw2] at Aw2
  clear Aw1
  go_wp2_with fail
  have K := alive_any w2
  try unfold setV at K
  refine K.mono ?_
  clear K
  rintro _ w3 ⟨rfl, hb⟩
  have Aw3 := hide ((unhide Aw2).step hb)
  clear Aw2 hb
  have t4 := (unhide Aw3).t (w.heap.size) (.int .i64 (n_b : Int)) (.slice a_a n_a c_a) (.tail _ (.head _))
  have t4a := t4.c0
  have t4b := t4.c1
  clear t4
  go_wp2_with fail
  clear t4a t4b
  have Kw5 := turn_good n_b n_a a_a c_a x_a Pa w3 ((unhide Aw3).ss (a_a) (n_a) c_a (x_a) (.tail _ (.tail _ (.tail _ (.head _))))) (unhide G_a) ((unhide HT).below (unhide Aw3).bel)
  try unfold setV at Kw5
  refine Kw5.mono ?_
  clear Kw5
  rintro _ w5 ⟨a_t, c_t, x_t, rfl, hs, hk, hb⟩
  have G_t := hide ((unhide G_a).turn hk)
  have hle_t := hs.le
  have hcap_t := hs.cap
  unfold maxLen at hcap_t
  have Aw5 := hide (((unhide Aw3).step hb).add (fS a_t (n_b) c_t x_t) hs)
  clear Aw3 hs hb hk
  unfold setV
  obtain ⟨w6, hw6⟩ : ∃ x, w5.alloc (.cells #[.int .i64 (n_a : Int), .slice a_t n_b c_t] 56) = x := ⟨_, rfl⟩
  have Aw6 := hide ((unhide Aw5).box (.int .i64 (n_a : Int)) (.slice a_t n_b c_t) 56)
  rw [hw6] at Aw6
  clear Aw5
  have t7 := (unhide Aw6).t (w1.heap.size) (.int .i64 (sb : Int)) (.slice a_b n_b c_b) (.tail _ (.tail _ (.head _)))
  have t7a := t7.c0
  have t7b := t7.c1
  clear t7
  go_wp2_with fail
  clear t7a t7b
  have Kw8 := turn_good sb n_b a_b c_b x_b Pb w6 ((unhide Aw6).ss (a_b) (n_b) c_b (x_b) (.tail _ (.tail _ (.tail _ (.tail _ (.head _)))))) (unhide G_b) ((unhide HT).below (unhide Aw6).bel)
  try unfold setV at Kw8
  refine Kw8.mono ?_
  clear Kw8
  rintro _ w8 ⟨a_u, c_u, x_u, rfl, hs, hk, hb⟩
  have G_u := hide ((unhide G_b).turn hk)
  have hle_u := hs.le
  have hcap_u := hs.cap
  unfold maxLen at hcap_u
  have Aw8 := hide (((unhide Aw6).step hb).add (fS a_u (sb) c_u x_u) hs)
  clear Aw6 hs hb hk
  unfold setV
  obtain ⟨w9, hw9⟩ : ∃ x, w8.alloc (.cells #[.int .i64 (n_b : Int), .slice a_u sb c_u] 56) = x := ⟨_, rfl⟩
  have Aw9 := hide ((unhide Aw8).box (.int .i64 (n_b : Int)) (.slice a_u sb c_u) 56)
  rw [hw9] at Aw9
  clear Aw8
  have t10 := (unhide Aw9).t (w.heap.size) (.int .i64 (n_b : Int)) (.slice a_a n_a c_a) (.tail _ (.tail _ (.tail _ (.tail _ (.tail _ (.head _))))))
  have t10a := t10.c0
  have t10b := t10.c1
  clear t10
  go_wp2_with fail
  clear t10a t10b
  have K := rmayT_any (n_b : Int) a_a n_a c_a x_a w9 ((unhide Aw9).ss (a_a) (n_a) c_a (x_a) (.tail _ (.tail _ (.tail _ (.tail _ (.tail _ (.tail _ (.tail _ (.head _)))))))))
  rw [(unhide G_a).may] at K
  try unfold setV at K
  refine K.mono ?_
  clear K
  rintro _ w11 ⟨rfl, hb⟩
  have Aw11 := hide ((unhide Aw9).step hb)
  clear Aw9 hb
  have t12 := (unhide Aw11).t (w1.heap.size) (.int .i64 (sb : Int)) (.slice a_b n_b c_b) (.tail _ (.tail _ (.tail _ (.tail _ (.head _)))))
  have t12a := t12.c0
  have t12b := t12.c1
  clear t12
  go_wp2_with fail
  clear t12a t12b
  have K := rmayT_any (sb : Int) a_b n_b c_b x_b w11 ((unhide Aw11).ss (a_b) (n_b) c_b (x_b) (.tail _ (.tail _ (.tail _ (.tail _ (.tail _ (.tail _ (.head _))))))))
  rw [(unhide G_b).may] at K
  try unfold setV at K
  refine K.mono ?_
  clear K
  rintro _ w13 ⟨rfl, hb⟩
  have Aw13 := hide ((unhide Aw11).step hb)
  clear Aw11 hb
  have t14 := (unhide Aw13).t (w5.heap.size) (.int .i64 (n_a : Int)) (.slice a_t n_b c_t) (.tail _ (.tail _ (.head _)))
  have t14a := t14.c0
  have t14b := t14.c1
  clear t14
  go_wp2_with fail
  clear t14a t14b
  have Kw15 := turn_good n_a n_b a_t c_t x_t (tuQ Pa) w13 ((unhide Aw13).ss (a_t) (n_b) c_t (x_t) (.tail _ (.tail _ (.tail _ (.head _))))) (unhide G_t) ((unhide HT).below (unhide Aw13).bel)
  try unfold setV at Kw15
  refine Kw15.mono ?_
  clear Kw15
  rintro _ w15 ⟨a_v, c_v, x_v, rfl, hs, hk, hb⟩
  have G_v := hide ((unhide G_t).turn hk)
  have hle_v := hs.le
  have hcap_v := hs.cap
  unfold maxLen at hcap_v
  have Aw15 := hide (((unhide Aw13).step hb).add (fS a_v (n_a) c_v x_v) hs)
  clear Aw13 hs hb hk
  unfold setV
  obtain ⟨w16, hw16⟩ : ∃ x, w15.alloc (.cells #[.int .i64 (n_b : Int), .slice a_v n_a c_v] 56) = x := ⟨_, rfl⟩
  have Aw16 := hide ((unhide Aw15).box (.int .i64 (n_b : Int)) (.slice a_v n_a c_v) 56)
  rw [hw16] at Aw16
  clear Aw15
  go_wp2_with fail
  refine (num_any 0 w16).mono ?_
  rintro _ w' ⟨rfl, hw⟩
  obtain rfl := hw.symm
  go_wp2_with fail
  refine (num_any 0 w16).mono ?_
  rintro _ w' ⟨rfl, hw⟩
  obtain rfl := hw.symm
  go_wp2_with fail
  refine (num_any 0 w16).mono ?_
  rintro _ w' ⟨rfl, hw⟩
  obtain rfl := hw.symm
  have t17 := (unhide Aw16).t (w15.heap.size) (.int .i64 (n_b : Int)) (.slice a_v n_a c_v) (.head _)
  have t17a := t17.c0
  have t17b := t17.c1
  clear t17
  have t18 := (unhide Aw16).t (w.heap.size) (.int .i64 (n_b : Int)) (.slice a_a n_a c_a) (.tail _ (.tail _ (.tail _ (.tail _ (.tail _ (.tail _ (.tail _ (.head _))))))))
  have t18a := t18.c0
  have t18b := t18.c1
  clear t18
  go_wp2_with fail
  clear t17a t17b t18a t18b
  have K := sameTable_eq (n_b : Int) (a_v) (a_a) n_a c_v c_a x_v x_a w16 ((unhide Aw16).ss (a_v) (n_a) c_v (x_v) (.tail _ (.head _))) ((unhide Aw16).ss (a_a) (n_a) c_a (x_a) (.tail _ (.tail _ (.tail _ (.tail _ (.tail _ (.tail _ (.tail _ (.tail _ (.tail _ (.head _))))))))))) ((unhide G_a).key.trans (unhide G_v).key.symm)
  try unfold setV at K
  refine K.mono ?_
  clear K
  rintro _ w19 ⟨rfl, hb⟩
  have Aw19 := hide ((unhide Aw16).step hb)
  clear Aw16 hb
  have t20 := (unhide Aw19).t (w5.heap.size) (.int .i64 (n_a : Int)) (.slice a_t n_b c_t) (.tail _ (.tail _ (.tail _ (.tail _ (.head _)))))
  have t20a := t20.c0
  have t20b := t20.c1
  clear t20
  have t21 := (unhide Aw19).t (w.heap.size) (.int .i64 (n_b : Int)) (.slice a_a n_a c_a) (.tail _ (.tail _ (.tail _ (.tail _ (.tail _ (.tail _ (.tail _ (.head _))))))))
  have t21a := t21.c0
  have t21b := t21.c1
  clear t21
  go_wp2_with fail
  clear t20a t20b t21a t21b
  have Kw22 := both_bad n_b n_a a_a c_a x_a Pa w19 ((unhide Aw19).ss (a_a) (n_a) c_a (x_a) (.tail _ (.tail _ (.tail _ (.tail _ (.tail _ (.tail _ (.tail _ (.tail _ (.tail _ (.head _))))))))))) (unhide G_a) q5
  try unfold setV at Kw22
  refine Kw22.mono ?_
  clear Kw22
  rintro _ w22 ⟨a_both, c_both, x_both, rfl, hs, hk, hb⟩
  have hle_both := hs.le
  have hcap_both := hs.cap
  unfold maxLen at hcap_both
  have Aw22 := hide (((unhide Aw19).step hb).add (fS a_both (0) c_both x_both) hs)
  clear Aw19 hs hb hk
  unfold setV
  obtain ⟨w23, hw23⟩ : ∃ x, w22.alloc (.cells #[.int .i64 0, .slice a_both 0 c_both] 56) = x := ⟨_, rfl⟩
  have Aw23 := hide ((unhide Aw22).box (.int .i64 0) (.slice a_both 0 c_both) 56)
  rw [hw23] at Aw23
  clear Aw22
  have t24 := (unhide Aw23).t (w.heap.size) (.int .i64 (n_b : Int)) (.slice a_a n_a c_a) (.tail _ (.tail _ (.tail _ (.tail _ (.tail _ (.tail _ (.tail _ (.tail _ (.tail _ (.head _))))))))))
  have t24a := t24.c0
  have t24b := t24.c1
  clear t24
  have t25 := (unhide Aw23).t (w1.heap.size) (.int .i64 (sb : Int)) (.slice a_b n_b c_b) (.tail _ (.tail _ (.tail _ (.tail _ (.tail _ (.tail _ (.tail _ (.tail _ (.head _)))))))))
  have t25a := t25.c0
  have t25b := t25.c1
  clear t25
  go_wp2_with fail
  clear t24a t24b t25a t25b
  have Kw26 := product_good n_b n_a a_a c_a x_a Pa sb a_b c_b x_b Pb w23 ((unhide Aw23).ss (a_a) (n_a) c_a (x_a) (.tail _ (.tail _ (.tail _ (.tail _ (.tail _ (.tail _ (.tail _ (.tail _ (.tail _ (.tail _ (.tail _ (.head _))))))))))))) ((unhide Aw23).ss (a_b) (n_b) c_b (x_b) (.tail _ (.tail _ (.tail _ (.tail _ (.tail _ (.tail _ (.tail _ (.tail _ (.tail _ (.tail _ (.head _)))))))))))) (unhide G_a) (unhide G_b) ((unhide HT).below (unhide Aw23).bel)
  try unfold setV at Kw26
  refine Kw26.mono ?_
  clear Kw26
  rintro _ w26 ⟨a_p, c_p, x_p, rfl, hs, hk, hb⟩
  have G_p := hide ((unhide G_a).product (unhide G_b) hk)
  have hle_p := hs.le
  have hcap_p := hs.cap
  unfold maxLen at hcap_p
  have Aw26 := hide (((unhide Aw23).step hb).add (fS a_p (n_a) c_p x_p) hs)
  clear Aw23 hs hb hk
  unfold setV
  obtain ⟨w27, hw27⟩ : ∃ x, w26.alloc (.cells #[.int .i64 (sb : Int), .slice a_p n_a c_p] 56) = x := ⟨_, rfl⟩
  have Aw27 := hide ((unhide Aw26).box (.int .i64 (sb : Int)) (.slice a_p n_a c_p) 56)
  rw [hw27] at Aw27
  clear Aw26
  have t28 := (unhide Aw27).t (w.heap.size) (.int .i64 (n_b : Int)) (.slice a_a n_a c_a) (.tail _ (.tail _ (.tail _ (.tail _ (.tail _ (.tail _ (.tail _ (.tail _ (.tail _ (.tail _ (.tail _ (.head _))))))))))))
  have t28a := t28.c0
  have t28b := t28.c1
  clear t28
  have t29 := (unhide Aw27).t (w1.heap.size) (.int .i64 (sb : Int)) (.slice a_b n_b c_b) (.tail _ (.tail _ (.tail _ (.tail _ (.tail _ (.tail _ (.tail _ (.tail _ (.tail _ (.tail _ (.head _)))))))))))
  have t29a := t29.c0
  have t29b := t29.c1
  clear t29
  have t30 := (unhide Aw27).t (w8.heap.size) (.int .i64 (n_b : Int)) (.slice a_u sb c_u) (.tail _ (.tail _ (.tail _ (.tail _ (.tail _ (.tail _ (.head _)))))))
  have t30a := t30.c0
  have t30b := t30.c1
  clear t30
  have t31 := (unhide Aw27).t (w5.heap.size) (.int .i64 (n_a : Int)) (.slice a_t n_b c_t) (.tail _ (.tail _ (.tail _ (.tail _ (.tail _ (.tail _ (.tail _ (.tail _ (.head _)))))))))
  have t31a := t31.c0
  have t31b := t31.c1
  clear t31
  go_wp2_with fail
  clear t28a t28b t29a t29b t30a t30b t31a t31b
  have Kw32 := product_good n_b sb a_u c_u x_u (tuQ Pb) n_a a_t c_t x_t (tuQ Pa) w27 ((unhide Aw27).ss (a_u) (sb) c_u (x_u) (.tail _ (.tail _ (.tail _ (.tail _ (.tail _ (.tail _ (.tail _ (.head _))))))))) ((unhide Aw27).ss (a_t) (n_b) c_t (x_t) (.tail _ (.tail _ (.tail _ (.tail _ (.tail _ (.tail _ (.tail _ (.tail _ (.tail _ (.head _))))))))))) (unhide G_u) (unhide G_t) ((unhide HT).below (unhide Aw27).bel)
  try unfold setV at Kw32
  refine Kw32.mono ?_
  clear Kw32
  rintro _ w32 ⟨a_q, c_q, x_q, rfl, hs, hk, hb⟩
  have G_q := hide ((unhide G_u).product (unhide G_t) hk)
  have hle_q := hs.le
  have hcap_q := hs.cap
  unfold maxLen at hcap_q
  have Aw32 := hide (((unhide Aw27).step hb).add (fS a_q (sb) c_q x_q) hs)
  clear Aw27 hs hb hk
  unfold setV
  obtain ⟨w33, hw33⟩ : ∃ x, w32.alloc (.cells #[.int .i64 (n_a : Int), .slice a_q sb c_q] 56) = x := ⟨_, rfl⟩
  have Aw33 := hide ((unhide Aw32).box (.int .i64 (n_a : Int)) (.slice a_q sb c_q) 56)
  rw [hw33] at Aw33
  clear Aw32
  have t34 := (unhide Aw33).t (w26.heap.size) (.int .i64 (sb : Int)) (.slice a_p n_a c_p) (.tail _ (.tail _ (.head _)))
  have t34a := t34.c0
  have t34b := t34.c1
  clear t34
  go_wp2_with fail
  clear t34a t34b
  have Kw35 := turn_good sb n_a a_p c_p x_p (prG n_b Pa Pb) w33 ((unhide Aw33).ss (a_p) (n_a) c_p (x_p) (.tail _ (.tail _ (.tail _ (.head _))))) (unhide G_p) ((unhide HT).below (unhide Aw33).bel)
  try unfold setV at Kw35
  refine Kw35.mono ?_
  clear Kw35
  rintro _ w35 ⟨a_r, c_r, x_r, rfl, hs, hk, hb⟩
  have G_r := hide ((unhide G_p).turn hk)
  have hle_r := hs.le
  have hcap_r := hs.cap
  unfold maxLen at hcap_r
  have Aw35 := hide (((unhide Aw33).step hb).add (fS a_r (sb) c_r x_r) hs)
  clear Aw33 hs hb hk
  unfold setV
  obtain ⟨w36, hw36⟩ : ∃ x, w35.alloc (.cells #[.int .i64 (n_a : Int), .slice a_r sb c_r] 56) = x := ⟨_, rfl⟩
  have Aw36 := hide ((unhide Aw35).box (.int .i64 (n_a : Int)) (.slice a_r sb c_r) 56)
  rw [hw36] at Aw36
  clear Aw35
  go_wp2_with fail
  refine (num_any 0 w36).mono ?_
  rintro _ w' ⟨rfl, hw⟩
  obtain rfl := hw.symm
  go_wp2_with fail
  refine (num_any 0 w36).mono ?_
  rintro _ w' ⟨rfl, hw⟩
  obtain rfl := hw.symm
  go_wp2_with fail
  refine (num_any 0 w36).mono ?_
  rintro _ w' ⟨rfl, hw⟩
  obtain rfl := hw.symm
  have t37 := (unhide Aw36).t (w32.heap.size) (.int .i64 (n_a : Int)) (.slice a_q sb c_q) (.tail _ (.tail _ (.head _)))
  have t37a := t37.c0
  have t37b := t37.c1
  clear t37
  have t38 := (unhide Aw36).t (w35.heap.size) (.int .i64 (n_a : Int)) (.slice a_r sb c_r) (.head _)
  have t38a := t38.c0
  have t38b := t38.c1
  clear t38
  go_wp2_with fail
  clear t37a t37b t38a t38b
  have K := sameTable_eq (n_a : Int) (a_q) (a_r) sb c_q c_r x_q x_r w36 ((unhide Aw36).ss (a_q) (sb) c_q (x_q) (.tail _ (.tail _ (.tail _ (.head _))))) ((unhide Aw36).ss (a_r) (sb) c_r (x_r) (.tail _ (.head _))) ((unhide G_r).key.trans ((congrArg (tabK n_a sb) (prG_turn n_b Pa Pb)).symm.trans (unhide G_q).key.symm))
  try unfold setV at K
  refine K.mono ?_
  clear K
  rintro _ w39 ⟨rfl, hb⟩
  have Aw39 := hide ((unhide Aw36).step hb)
  clear Aw36 hb
  go_wp2_with fail
  go_ret
  exact ⟨rfl, (unhide Aw39).bel⟩

set_option maxRecDepth 100000 in
set_option maxHeartbeats 64000000 in
theorem bitTurned_tf (s_a : Int) (a_a : Option Addr) (n_a c_a : Nat) (x_a : List SetC) (s_b : Int) (a_b : Option Addr) (n_b c_b : Nat) (x_b : List SetC) (w : World) (h_a : SlS w a_a n_a c_a x_a) (o_a : ∀ e ∈ x_a, e.Arg) (b_a : n_a ≤ 4398046510976) (e_a : a_a = none → n_a = 0 ∧ c_a = 0) (hl_a : -9223372036854775808 ≤ s_a) (hh_a : s_a ≤ 9223372036854775807) (h_b : SlS w a_b n_b c_b x_b) (o_b : ∀ e ∈ x_b, e.Arg) (b_b : n_b ≤ 4398046510976) (e_b : a_b = none → n_b = 0 ∧ c_b = 0) (hl_b : -9223372036854775808 ≤ s_b) (hh_b : s_b ≤ 9223372036854775807) (hT : Tab64 w) (hma : MayT s_a x_a = true) (hmb : MayT s_b x_b = true) (hsq : s_a = (n_a : Int)) (hft : ¬ s_a = (n_b : Int)) :
    Calls Tryd.prog 7 #[setV s_a a_a n_a c_a, setV s_b a_b n_b c_b] w fun e w' => e = .returned (.bool true) ∧ Below w.heap.size w w' := by
  have A00 : Facts w w [] := ⟨Below.refl _ _, fun f hf => by cases hf⟩
  have A01 := A00.add (fS a_a n_a c_a x_a) h_a
  have L_a := hide h_a.len
  have hle_a := h_a.le
  have hcap_a := h_a.cap
  unfold maxLen at hcap_a
  have A02 := A01.add (fS a_b n_b c_b x_b) h_b
  have L_b := hide h_b.len
  have hle_b := h_b.le
  have hcap_b := h_b.cap
  unfold maxLen at hcap_b
  have A0 := hide A02
  have O_a := hide o_a
  have B_a := hide (And.intro hl_a hh_a)
  have O_b := hide o_b
  have B_b := hide (And.intro hl_b hh_b)
  have HT := hide hT
  clear hT
  have la := h_a.len
  have lb := h_b.len
  obtain ⟨sa, rfl, Pa, ga⟩ := MayT.good hma (fun e he => (h_a.all e he).2)
  rw [la] at ga
  obtain ⟨sb, rfl, Pb, gb⟩ := MayT.good hmb (fun e he => (h_b.all e he).2)
  rw [lb] at gb
  obtain rfl : n_a = sa := by omega
  have q1 : ((n_a : Int) == (n_a : Int)) = true := by simp
  have q3 : ((n_a : Int) == (n_b : Int)) = false := by simp; omega
  have q4 : decide (n_a = n_b) = false := by simp; omega
  have q6 : ¬ n_a = n_b := by omega
  have G_a := hide ga
  have G_b := hide gb
  clear ga gb hma hmb hsq hft la lb
  clear A00 A01 A02 h_a h_b o_a o_b e_a e_b hl_a hh_a hl_b hh_b
  unfold setV
  go_enter Tryd.func7, Tryd.ntmps7
  obtain ⟨w1, hw1⟩ : ∃ x, w.alloc (.cells #[.int .i64 (n_a : Int), .slice a_a n_a c_a] 56) = x := ⟨_, rfl⟩
  have Aw1 := hide ((unhide A0).box (.int .i64 (n_a : Int)) (.slice a_a n_a c_a) 56)
  rw [hw1] at Aw1
  clear A0
  obtain ⟨w2, hw2⟩ : ∃ x, w1.alloc (.cells #[.int .i64 (sb : Int), .slice a_b n_b c_b] 56) = x := ⟨_, rfl⟩
  have Aw2 := hide ((unhide Aw1).box (.int .i64 (sb : Int)) (.slice a_b n_b c_b) 56)
  rw [hw2] at Aw2
  clear Aw1
  go_wp2_with fail
  have K := alive_any w2
  try unfold setV at K
  refine K.mono ?_
  clear K
  rintro _ w3 ⟨rfl, hb⟩
  have Aw3 := hide ((unhide Aw2).step hb)
  clear Aw2 hb
  have t4 := (unhide Aw3).t (w.heap.size) (.int .i64 (n_a : Int)) (.slice a_a n_a c_a) (.tail _ (.head _))
  have t4a := t4.c0
  have t4b := t4.c1
  clear t4
  go_wp2_with fail
  clear t4a t4b
  have Kw5 := turn_good n_a n_a a_a c_a x_a Pa w3 ((unhide Aw3).ss (a_a) (n_a) c_a (x_a) (.tail _ (.tail _ (.tail _ (.head _))))) (unhide G_a) ((unhide HT).below (unhide Aw3).bel)
  try unfold setV at Kw5
  refine Kw5.mono ?_
  clear Kw5
  rintro _ w5 ⟨a_t, c_t, x_t, rfl, hs, hk, hb⟩
  have G_t := hide ((unhide G_a).turn hk)
  have hle_t := hs.le
  have hcap_t := hs.cap
  unfold maxLen at hcap_t
  have Aw5 := hide (((unhide Aw3).step hb).add (fS a_t (n_a) c_t x_t) hs)
  clear Aw3 hs hb hk
  unfold setV
  obtain ⟨w6, hw6⟩ : ∃ x, w5.alloc (.cells #[.int .i64 (n_a : Int), .slice a_t n_a c_t] 56) = x := ⟨_, rfl⟩
  have Aw6 := hide ((unhide Aw5).box (.int .i64 (n_a : Int)) (.slice a_t n_a c_t) 56)
  rw [hw6] at Aw6
  clear Aw5
  have t7 := (unhide Aw6).t (w1.heap.size) (.int .i64 (sb : Int)) (.slice a_b n_b c_b) (.tail _ (.tail _ (.head _)))
  have t7a := t7.c0
  have t7b := t7.c1
  clear t7
  go_wp2_with fail
  clear t7a t7b
  have Kw8 := turn_good sb n_b a_b c_b x_b Pb w6 ((unhide Aw6).ss (a_b) (n_b) c_b (x_b) (.tail _ (.tail _ (.tail _ (.tail _ (.head _)))))) (unhide G_b) ((unhide HT).below (unhide Aw6).bel)
  try unfold setV at Kw8
  refine Kw8.mono ?_
  clear Kw8
  rintro _ w8 ⟨a_u, c_u, x_u, rfl, hs, hk, hb⟩
  have G_u := hide ((unhide G_b).turn hk)
  have hle_u := hs.le
  have hcap_u := hs.cap
  unfold maxLen at hcap_u
  have Aw8 := hide (((unhide Aw6).step hb).add (fS a_u (sb) c_u x_u) hs)
  clear Aw6 hs hb hk
  unfold setV
  obtain ⟨w9, hw9⟩ : ∃ x, w8.alloc (.cells #[.int .i64 (n_b : Int), .slice a_u sb c_u] 56) = x := ⟨_, rfl⟩
  have Aw9 := hide ((unhide Aw8).box (.int .i64 (n_b : Int)) (.slice a_u sb c_u) 56)
  rw [hw9] at Aw9
  clear Aw8
  have t10 := (unhide Aw9).t (w.heap.size) (.int .i64 (n_a : Int)) (.slice a_a n_a c_a) (.tail _ (.tail _ (.tail _ (.tail _ (.tail _ (.head _))))))
  have t10a := t10.c0
  have t10b := t10.c1
  clear t10
  go_wp2_with fail
  clear t10a t10b
  have K := rmayT_any (n_a : Int) a_a n_a c_a x_a w9 ((unhide Aw9).ss (a_a) (n_a) c_a (x_a) (.tail _ (.tail _ (.tail _ (.tail _ (.tail _ (.tail _ (.tail _ (.head _)))))))))
  rw [(unhide G_a).may] at K
  try unfold setV at K
  refine K.mono ?_
  clear K
  rintro _ w11 ⟨rfl, hb⟩
  have Aw11 := hide ((unhide Aw9).step hb)
  clear Aw9 hb
  have t12 := (unhide Aw11).t (w1.heap.size) (.int .i64 (sb : Int)) (.slice a_b n_b c_b) (.tail _ (.tail _ (.tail _ (.tail _ (.head _)))))
  have t12a := t12.c0
  have t12b := t12.c1
  clear t12
  go_wp2_with fail
  clear t12a t12b
  have K := rmayT_any (sb : Int) a_b n_b c_b x_b w11 ((unhide Aw11).ss (a_b) (n_b) c_b (x_b) (.tail _ (.tail _ (.tail _ (.tail _ (.tail _ (.tail _ (.head _))))))))
  rw [(unhide G_b).may] at K
  try unfold setV at K
  refine K.mono ?_
  clear K
  rintro _ w13 ⟨rfl, hb⟩
  have Aw13 := hide ((unhide Aw11).step hb)
  clear Aw11 hb
  have t14 := (unhide Aw13).t (w5.heap.size) (.int .i64 (n_a : Int)) (.slice a_t n_a c_t) (.tail _ (.tail _ (.head _)))
  have t14a := t14.c0
  have t14b := t14.c1
  clear t14
  go_wp2_with fail
  clear t14a t14b
  have Kw15 := turn_good n_a n_a a_t c_t x_t (tuQ Pa) w13 ((unhide Aw13).ss (a_t) (n_a) c_t (x_t) (.tail _ (.tail _ (.tail _ (.head _))))) (unhide G_t) ((unhide HT).below (unhide Aw13).bel)
  try unfold setV at Kw15
  refine Kw15.mono ?_
  clear Kw15
  rintro _ w15 ⟨a_v, c_v, x_v, rfl, hs, hk, hb⟩
  have G_v := hide ((unhide G_t).turn hk)
  have hle_v := hs.le
  have hcap_v := hs.cap
  unfold maxLen at hcap_v
  have Aw15 := hide (((unhide Aw13).step hb).add (fS a_v (n_a) c_v x_v) hs)
  clear Aw13 hs hb hk
  unfold setV
  obtain ⟨w16, hw16⟩ : ∃ x, w15.alloc (.cells #[.int .i64 (n_a : Int), .slice a_v n_a c_v] 56) = x := ⟨_, rfl⟩
  have Aw16 := hide ((unhide Aw15).box (.int .i64 (n_a : Int)) (.slice a_v n_a c_v) 56)
  rw [hw16] at Aw16
  clear Aw15
  go_wp2_with fail
  refine (num_any 0 w16).mono ?_
  rintro _ w' ⟨rfl, hw⟩
  obtain rfl := hw.symm
  go_wp2_with fail
  refine (num_any 0 w16).mono ?_
  rintro _ w' ⟨rfl, hw⟩
  obtain rfl := hw.symm
  go_wp2_with fail
  refine (num_any 0 w16).mono ?_
  rintro _ w' ⟨rfl, hw⟩
  obtain rfl := hw.symm
  have t17 := (unhide Aw16).t (w15.heap.size) (.int .i64 (n_a : Int)) (.slice a_v n_a c_v) (.head _)
  have t17a := t17.c0
  have t17b := t17.c1
  clear t17
  have t18 := (unhide Aw16).t (w.heap.size) (.int .i64 (n_a : Int)) (.slice a_a n_a c_a) (.tail _ (.tail _ (.tail _ (.tail _ (.tail _ (.tail _ (.tail _ (.head _))))))))
  have t18a := t18.c0
  have t18b := t18.c1
  clear t18
  go_wp2_with fail
  clear t17a t17b t18a t18b
  have K := sameTable_eq (n_a : Int) (a_v) (a_a) n_a c_v c_a x_v x_a w16 ((unhide Aw16).ss (a_v) (n_a) c_v (x_v) (.tail _ (.head _))) ((unhide Aw16).ss (a_a) (n_a) c_a (x_a) (.tail _ (.tail _ (.tail _ (.tail _ (.tail _ (.tail _ (.tail _ (.tail _ (.tail _ (.head _))))))))))) ((unhide G_a).key.trans (unhide G_v).key.symm)
  try unfold setV at K
  refine K.mono ?_
  clear K
  rintro _ w19 ⟨rfl, hb⟩
  have Aw19 := hide ((unhide Aw16).step hb)
  clear Aw16 hb
  have t20 := (unhide Aw19).t (w5.heap.size) (.int .i64 (n_a : Int)) (.slice a_t n_a c_t) (.tail _ (.tail _ (.tail _ (.tail _ (.head _)))))
  have t20a := t20.c0
  have t20b := t20.c1
  clear t20
  have t21 := (unhide Aw19).t (w.heap.size) (.int .i64 (n_a : Int)) (.slice a_a n_a c_a) (.tail _ (.tail _ (.tail _ (.tail _ (.tail _ (.tail _ (.tail _ (.head _))))))))
  have t21a := t21.c0
  have t21b := t21.c1
  clear t21
  go_wp2_with fail
  clear t20a t20b t21a t21b
  have Kw22 := both_good n_a a_a c_a x_a Pa w19 ((unhide Aw19).ss (a_a) (n_a) c_a (x_a) (.tail _ (.tail _ (.tail _ (.tail _ (.tail _ (.tail _ (.tail _ (.tail _ (.tail _ (.head _))))))))))) (unhide G_a) ((unhide HT).below (unhide Aw19).bel)
  try unfold setV at Kw22
  refine Kw22.mono ?_
  clear Kw22
  rintro _ w22 ⟨a_both, c_both, x_both, rfl, hs, hk, hb⟩
  have G_both := hide ((unhide G_a).both hk)
  have hle_both := hs.le
  have hcap_both := hs.cap
  unfold maxLen at hcap_both
  have Aw22 := hide (((unhide Aw19).step hb).add (fS a_both (n_a) c_both x_both) hs)
  clear Aw19 hs hb hk
  unfold setV
  obtain ⟨w23, hw23⟩ : ∃ x, w22.alloc (.cells #[.int .i64 (n_a : Int), .slice a_both n_a c_both] 56) = x := ⟨_, rfl⟩
  have Aw23 := hide ((unhide Aw22).box (.int .i64 (n_a : Int)) (.slice a_both n_a c_both) 56)
  rw [hw23] at Aw23
  clear Aw22
  have t24 := (unhide Aw23).t (w.heap.size) (.int .i64 (n_a : Int)) (.slice a_a n_a c_a) (.tail _ (.tail _ (.tail _ (.tail _ (.tail _ (.tail _ (.tail _ (.tail _ (.tail _ (.head _))))))))))
  have t24a := t24.c0
  have t24b := t24.c1
  clear t24
  have t25 := (unhide Aw23).t (w22.heap.size) (.int .i64 (n_a : Int)) (.slice a_both n_a c_both) (.head _)
  have t25a := t25.c0
  have t25b := t25.c1
  clear t25
  go_wp2_with fail
  clear t24a t24b t25a t25b
  have Kw26 := turn_good n_a n_a a_both c_both x_both (boQ Pa) w23 ((unhide Aw23).ss (a_both) (n_a) c_both (x_both) (.tail _ (.head _))) (unhide G_both) ((unhide HT).below (unhide Aw23).bel)
  try unfold setV at Kw26
  refine Kw26.mono ?_
  clear Kw26
  rintro _ w26 ⟨a_turned, c_turned, x_turned, rfl, hs, hk, hb⟩
  have G_turned := hide ((unhide G_both).turn hk)
  have hle_turned := hs.le
  have hcap_turned := hs.cap
  unfold maxLen at hcap_turned
  have Aw26 := hide (((unhide Aw23).step hb).add (fS a_turned (n_a) c_turned x_turned) hs)
  clear Aw23 hs hb hk
  unfold setV
  obtain ⟨w27, hw27⟩ : ∃ x, w26.alloc (.cells #[.int .i64 (n_a : Int), .slice a_turned n_a c_turned] 56) = x := ⟨_, rfl⟩
  have Aw27 := hide ((unhide Aw26).box (.int .i64 (n_a : Int)) (.slice a_turned n_a c_turned) 56)
  rw [hw27] at Aw27
  clear Aw26
  go_wp2_with fail
  refine (num_any 0 w27).mono ?_
  rintro _ w' ⟨rfl, hw⟩
  obtain rfl := hw.symm
  go_wp2_with fail
  refine (num_any 0 w27).mono ?_
  rintro _ w' ⟨rfl, hw⟩
  obtain rfl := hw.symm
  have t28 := (unhide Aw27).t (w26.heap.size) (.int .i64 (n_a : Int)) (.slice a_turned n_a c_turned) (.head _)
  have t28a := t28.c0
  have t28b := t28.c1
  clear t28
  have t29 := (unhide Aw27).t (w22.heap.size) (.int .i64 (n_a : Int)) (.slice a_both n_a c_both) (.tail _ (.tail _ (.head _)))
  have t29a := t29.c0
  have t29b := t29.c1
  clear t29
  go_wp2_with fail
  clear t28a t28b t29a t29b
  have K := sameTable_eq (n_a : Int) (a_turned) (a_both) n_a c_turned c_both x_turned x_both w27 ((unhide Aw27).ss (a_turned) (n_a) c_turned (x_turned) (.tail _ (.head _))) ((unhide Aw27).ss (a_both) (n_a) c_both (x_both) (.tail _ (.tail _ (.tail _ (.head _))))) ((unhide G_both).key.trans ((congrArg (tabK n_a n_a) (boQ_turn Pa)).symm.trans (unhide G_turned).key.symm))
  try unfold setV at K
  refine K.mono ?_
  clear K
  rintro _ w30 ⟨rfl, hb⟩
  have Aw30 := hide ((unhide Aw27).step hb)
  clear Aw27 hb
  have t31 := (unhide Aw30).t (w.heap.size) (.int .i64 (n_a : Int)) (.slice a_a n_a c_a) (.tail _ (.tail _ (.tail _ (.tail _ (.tail _ (.tail _ (.tail _ (.tail _ (.tail _ (.tail _ (.tail _ (.head _))))))))))))
  have t31a := t31.c0
  have t31b := t31.c1
  clear t31
  have t32 := (unhide Aw30).t (w1.heap.size) (.int .i64 (sb : Int)) (.slice a_b n_b c_b) (.tail _ (.tail _ (.tail _ (.tail _ (.tail _ (.tail _ (.tail _ (.tail _ (.tail _ (.tail _ (.head _)))))))))))
  have t32a := t32.c0
  have t32b := t32.c1
  clear t32
  go_wp2_with fail
  clear t31a t31b t32a t32b
  have Kw33 := product_bad n_a n_a a_a c_a x_a Pa sb n_b a_b c_b x_b Pb w30 ((unhide Aw30).ss (a_a) (n_a) c_a (x_a) (.tail _ (.tail _ (.tail _ (.tail _ (.tail _ (.tail _ (.tail _ (.tail _ (.tail _ (.tail _ (.tail _ (.tail _ (.tail _ (.head _))))))))))))))) ((unhide Aw30).ss (a_b) (n_b) c_b (x_b) (.tail _ (.tail _ (.tail _ (.tail _ (.tail _ (.tail _ (.tail _ (.tail _ (.tail _ (.tail _ (.tail _ (.tail _ (.head _)))))))))))))) (unhide G_a) (unhide G_b) q6
  try unfold setV at Kw33
  refine Kw33.mono ?_
  clear Kw33
  rintro _ w33 ⟨a_p, c_p, x_p, rfl, hs, hk, hb⟩
  have hle_p := hs.le
  have hcap_p := hs.cap
  unfold maxLen at hcap_p
  have Aw33 := hide (((unhide Aw30).step hb).add (fS a_p (0) c_p x_p) hs)
  clear Aw30 hs hb hk
  unfold setV
  obtain ⟨w34, hw34⟩ : ∃ x, w33.alloc (.cells #[.int .i64 0, .slice a_p 0 c_p] 56) = x := ⟨_, rfl⟩
  have Aw34 := hide ((unhide Aw33).box (.int .i64 0) (.slice a_p 0 c_p) 56)
  rw [hw34] at Aw34
  clear Aw33
  have t35 := (unhide Aw34).t (w.heap.size) (.int .i64 (n_a : Int)) (.slice a_a n_a c_a) (.tail _ (.tail _ (.tail _ (.tail _ (.tail _ (.tail _ (.tail _ (.tail _ (.tail _ (.tail _ (.tail _ (.tail _ (.tail _ (.head _))))))))))))))
  have t35a := t35.c0
  have t35b := t35.c1
  clear t35
  have t36 := (unhide Aw34).t (w1.heap.size) (.int .i64 (sb : Int)) (.slice a_b n_b c_b) (.tail _ (.tail _ (.tail _ (.tail _ (.tail _ (.tail _ (.tail _ (.tail _ (.tail _ (.tail _ (.tail _ (.tail _ (.head _)))))))))))))
  have t36a := t36.c0
  have t36b := t36.c1
  clear t36
  go_wp2_with fail
  clear t35a t35b t36a t36b
  refine (num_any 60 w34).mono ?_
  rintro _ w' ⟨rfl, hw⟩
  obtain rfl := hw.symm
  go_wp2_with fail
  go_ret
  exact ⟨rfl, (unhide Aw34).bel⟩

set_option maxRecDepth 100000 in
set_option maxHeartbeats 64000000 in
theorem bitTurned_tt (s_a : Int) (a_a : Option Addr) (n_a c_a : Nat) (x_a : List SetC) (s_b : Int) (a_b : Option Addr) (n_b c_b : Nat) (x_b : List SetC) (w : World) (h_a : SlS w a_a n_a c_a x_a) (o_a : ∀ e ∈ x_a, e.Arg) (b_a : n_a ≤ 4398046510976) (e_a : a_a = none → n_a = 0 ∧ c_a = 0) (hl_a : -9223372036854775808 ≤ s_a) (hh_a : s_a ≤ 9223372036854775807) (h_b : SlS w a_b n_b c_b x_b) (o_b : ∀ e ∈ x_b, e.Arg) (b_b : n_b ≤ 4398046510976) (e_b : a_b = none → n_b = 0 ∧ c_b = 0) (hl_b : -9223372036854775808 ≤ s_b) (hh_b : s_b ≤ 9223372036854775807) (hT : Tab64 w) (hma : MayT s_a x_a = true) (hmb : MayT s_b x_b = true) (hsq : s_a = (n_a : Int)) (hft : s_a = (n_b : Int)) :
    Calls Tryd.prog 7 #[setV s_a a_a n_a c_a, setV s_b a_b n_b c_b] w fun e w' => e = .returned (.bool true) ∧ Below w.heap.size w w' := by
  have A00 : Facts w w [] := ⟨Below.refl _ _, fun f hf => by cases hf⟩
  have A01 := A00.add (fS a_a n_a c_a x_a) h_a
  have L_a := hide h_a.len
  have hle_a := h_a.le
  have hcap_a := h_a.cap
  unfold maxLen at hcap_a
  have A02 := A01.add (fS a_b n_b c_b x_b) h_b
  have L_b := hide h_b.len
  have hle_b := h_b.le
  have hcap_b := h_b.cap
  unfold maxLen at hcap_b
  have A0 := hide A02
  have O_a := hide o_a
  have B_a := hide (And.intro hl_a hh_a)
  have O_b := hide o_b
  have B_b := hide (And.intro hl_b hh_b)
  have HT := hide hT
  clear hT
  have la := h_a.len
  have lb := h_b.len
  obtain ⟨sa, rfl, Pa, ga⟩ := MayT.good hma (fun e he => (h_a.all e he).2)
  rw [la] at ga
  obtain ⟨sb, rfl, Pb, gb⟩ := MayT.good hmb (fun e he => (h_b.all e he).2)
  rw [lb] at gb
  obtain rfl : n_a = sa := by omega
  obtain rfl : n_a = n_b := by omega
  have q1 : ((n_a : Int) == (n_a : Int)) = true := by simp
  have G_a := hide ga
  have G_b := hide gb
  clear ga gb hma hmb hsq hft la lb
  clear A00 A01 A02 h_a h_b o_a o_b e_a e_b hl_a hh_a hl_b hh_b
  unfold setV
  go_enter Tryd.func7, Tryd.ntmps7
  obtain ⟨w1, hw1⟩ : ∃ x, w.alloc (.cells #[.int .i64 (n_a : Int), .slice a_a n_a c_a] 56) = x := ⟨_, rfl⟩
  have Aw1 := hide ((unhide A0).box (.int .i64 (n_a : Int)) (.slice a_a n_a c_a) 56)
  rw [hw1] at Aw1
  clear A0
  obtain ⟨w2, hw2⟩ : ∃ x, w1.alloc (.cells #[.int .i64 (sb : Int), .slice a_b n_a c_b] 56) = x := ⟨_, rfl⟩
  have Aw2 := hide ((unhide Aw1).box (.int .i64 (sb : Int)) (.slice a_b n_a c_b) 56)
  rw [hw2] at Aw2
  clear Aw1
  go_wp2_with fail
  have K := alive_any w2
  try unfold setV at K
  refine K.mono ?_
  clear K
  rintro _ w3 ⟨rfl, hb⟩
  have Aw3 := hide ((unhide Aw2).step hb)
  clear Aw2 hb
  have t4 := (unhide Aw3).t (w.heap.size) (.int .i64 (n_a : Int)) (.slice a_a n_a c_a) (.tail _ (.head _))
  have t4a := t4.c0
  have t4b := t4.c1
  clear t4
  go_wp2_with fail
  clear t4a t4b
  have Kw5 := turn_good n_a n_a a_a c_a x_a Pa w3 ((unhide Aw3).ss (a_a) (n_a) c_a (x_a) (.tail _ (.tail _ (.tail _ (.head _))))) (unhide G_a) ((unhide HT).below (unhide Aw3).bel)
  try unfold setV at Kw5
  refine Kw5.mono ?_
  clear Kw5
  rintro _ w5 ⟨a_t, c_t, x_t, rfl, hs, hk, hb⟩
  have G_t := hide ((unhide G_a).turn hk)
  have hle_t := hs.le
  have hcap_t := hs.cap
  unfold maxLen at hcap_t
  have Aw5 := hide (((unhide Aw3).step hb).add (fS a_t (n_a) c_t x_t) hs)
  clear Aw3 hs hb hk
  unfold setV
  obtain ⟨w6, hw6⟩ : ∃ x, w5.alloc (.cells #[.int .i64 (n_a : Int), .slice a_t n_a c_t] 56) = x := ⟨_, rfl⟩
  have Aw6 := hide ((unhide Aw5).box (.int .i64 (n_a : Int)) (.slice a_t n_a c_t) 56)
  rw [hw6] at Aw6
  clear Aw5
  have t7 := (unhide Aw6).t (w1.heap.size) (.int .i64 (sb : Int)) (.slice a_b n_a c_b) (.tail _ (.tail _ (.head _)))
  have t7a := t7.c0
  have t7b := t7.c1
  clear t7
  go_wp2_with fail
  clear t7a t7b
  have Kw8 := turn_good sb n_a a_b c_b x_b Pb w6 ((unhide Aw6).ss (a_b) (n_a) c_b (x_b) (.tail _ (.tail _ (.tail _ (.tail _ (.head _)))))) (unhide G_b) ((unhide HT).below (unhide Aw6).bel)
  try unfold setV at Kw8
  refine Kw8.mono ?_
  clear Kw8
  rintro _ w8 ⟨a_u, c_u, x_u, rfl, hs, hk, hb⟩
  have G_u := hide ((unhide G_b).turn hk)
  have hle_u := hs.le
  have hcap_u := hs.cap
  unfold maxLen at hcap_u
  have Aw8 := hide (((unhide Aw6).step hb).add (fS a_u (sb) c_u x_u) hs)
  clear Aw6 hs hb hk
  unfold setV
  obtain ⟨w9, hw9⟩ : ∃ x, w8.alloc (.cells #[.int .i64 (n_a : Int), .slice a_u sb c_u] 56) = x := ⟨_, rfl⟩
  have Aw9 := hide ((unhide Aw8).box (.int .i64 (n_a : Int)) (.slice a_u sb c_u) 56)
  rw [hw9] at Aw9
  clear Aw8
  have t10 := (unhide Aw9).t (w.heap.size) (.int .i64 (n_a : Int)) (.slice a_a n_a c_a) (.tail _ (.tail _ (.tail _ (.tail _ (.tail _ (.head _))))))
  have t10a := t10.c0
  have t10b := t10.c1
  clear t10
  go_wp2_with fail
  clear t10a t10b
  have K := rmayT_any (n_a : Int) a_a n_a c_a x_a w9 ((unhide Aw9).ss (a_a) (n_a) c_a (x_a) (.tail _ (.tail _ (.tail _ (.tail _ (.tail _ (.tail _ (.tail _ (.head _)))))))))
  rw [(unhide G_a).may] at K
  try unfold setV at K
  refine K.mono ?_
  clear K
  rintro _ w11 ⟨rfl, hb⟩
  have Aw11 := hide ((unhide Aw9).step hb)
  clear Aw9 hb
  have t12 := (unhide Aw11).t (w1.heap.size) (.int .i64 (sb : Int)) (.slice a_b n_a c_b) (.tail _ (.tail _ (.tail _ (.tail _ (.head _)))))
  have t12a := t12.c0
  have t12b := t12.c1
  clear t12
  go_wp2_with fail
  clear t12a t12b
  have K := rmayT_any (sb : Int) a_b n_a c_b x_b w11 ((unhide Aw11).ss (a_b) (n_a) c_b (x_b) (.tail _ (.tail _ (.tail _ (.tail _ (.tail _ (.tail _ (.head _))))))))
  rw [(unhide G_b).may] at K
  try unfold setV at K
  refine K.mono ?_
  clear K
  rintro _ w13 ⟨rfl, hb⟩
  have Aw13 := hide ((unhide Aw11).step hb)
  clear Aw11 hb
  have t14 := (unhide Aw13).t (w5.heap.size) (.int .i64 (n_a : Int)) (.slice a_t n_a c_t) (.tail _ (.tail _ (.head _)))
  have t14a := t14.c0
  have t14b := t14.c1
  clear t14
  go_wp2_with fail
  clear t14a t14b
  have Kw15 := turn_good n_a n_a a_t c_t x_t (tuQ Pa) w13 ((unhide Aw13).ss (a_t) (n_a) c_t (x_t) (.tail _ (.tail _ (.tail _ (.head _))))) (unhide G_t) ((unhide HT).below (unhide Aw13).bel)
  try unfold setV at Kw15
  refine Kw15.mono ?_
  clear Kw15
  rintro _ w15 ⟨a_v, c_v, x_v, rfl, hs, hk, hb⟩
  have G_v := hide ((unhide G_t).turn hk)
  have hle_v := hs.le
  have hcap_v := hs.cap
  unfold maxLen at hcap_v
  have Aw15 := hide (((unhide Aw13).step hb).add (fS a_v (n_a) c_v x_v) hs)
  clear Aw13 hs hb hk
  unfold setV
  obtain ⟨w16, hw16⟩ : ∃ x, w15.alloc (.cells #[.int .i64 (n_a : Int), .slice a_v n_a c_v] 56) = x := ⟨_, rfl⟩
  have Aw16 := hide ((unhide Aw15).box (.int .i64 (n_a : Int)) (.slice a_v n_a c_v) 56)
  rw [hw16] at Aw16
  clear Aw15
  go_wp2_with fail
  refine (num_any 0 w16).mono ?_
  rintro _ w' ⟨rfl, hw⟩
  obtain rfl := hw.symm
  go_wp2_with fail
  refine (num_any 0 w16).mono ?_
  rintro _ w' ⟨rfl, hw⟩
  obtain rfl := hw.symm
  go_wp2_with fail
  refine (num_any 0 w16).mono ?_
  rintro _ w' ⟨rfl, hw⟩
  obtain rfl := hw.symm
  have t17 := (unhide Aw16).t (w15.heap.size) (.int .i64 (n_a : Int)) (.slice a_v n_a c_v) (.head _)
  have t17a := t17.c0
  have t17b := t17.c1
  clear t17
  have t18 := (unhide Aw16).t (w.heap.size) (.int .i64 (n_a : Int)) (.slice a_a n_a c_a) (.tail _ (.tail _ (.tail _ (.tail _ (.tail _ (.tail _ (.tail _ (.head _))))))))
  have t18a := t18.c0
  have t18b := t18.c1
  clear t18
  go_wp2_with fail
  clear t17a t17b t18a t18b
  have K := sameTable_eq (n_a : Int) (a_v) (a_a) n_a c_v c_a x_v x_a w16 ((unhide Aw16).ss (a_v) (n_a) c_v (x_v) (.tail _ (.head _))) ((unhide Aw16).ss (a_a) (n_a) c_a (x_a) (.tail _ (.tail _ (.tail _ (.tail _ (.tail _ (.tail _ (.tail _ (.tail _ (.tail _ (.head _))))))))))) ((unhide G_a).key.trans (unhide G_v).key.symm)
  try unfold setV at K
  refine K.mono ?_
  clear K
  rintro _ w19 ⟨rfl, hb⟩
  have Aw19 := hide ((unhide Aw16).step hb)
  clear Aw16 hb
  have t20 := (unhide Aw19).t (w5.heap.size) (.int .i64 (n_a : Int)) (.slice a_t n_a c_t) (.tail _ (.tail _ (.tail _ (.tail _ (.head _)))))
  have t20a := t20.c0
  have t20b := t20.c1
  clear t20
  have t21 := (unhide Aw19).t (w.heap.size) (.int .i64 (n_a : Int)) (.slice a_a n_a c_a) (.tail _ (.tail _ (.tail _ (.tail _ (.tail _ (.tail _ (.tail _ (.head _))))))))
  have t21a := t21.c0
  have t21b := t21.c1
  clear t21
  go_wp2_with fail
  clear t20a t20b t21a t21b
  have Kw22 := both_good n_a a_a c_a x_a Pa w19 ((unhide Aw19).ss (a_a) (n_a) c_a (x_a) (.tail _ (.tail _ (.tail _ (.tail _ (.tail _ (.tail _ (.tail _ (.tail _ (.tail _ (.head _))))))))))) (unhide G_a) ((unhide HT).below (unhide Aw19).bel)
  try unfold setV at Kw22
  refine Kw22.mono ?_
  clear Kw22
  rintro _ w22 ⟨a_both, c_both, x_both, rfl, hs, hk, hb⟩
  have G_both := hide ((unhide G_a).both hk)
  have hle_both := hs.le
  have hcap_both := hs.cap
  unfold maxLen at hcap_both
  have Aw22 := hide (((unhide Aw19).step hb).add (fS a_both (n_a) c_both x_both) hs)
  clear Aw19 hs hb hk
  unfold setV
  obtain ⟨w23, hw23⟩ : ∃ x, w22.alloc (.cells #[.int .i64 (n_a : Int), .slice a_both n_a c_both] 56) = x := ⟨_, rfl⟩
  have Aw23 := hide ((unhide Aw22).box (.int .i64 (n_a : Int)) (.slice a_both n_a c_both) 56)
  rw [hw23] at Aw23
  clear Aw22
  have t24 := (unhide Aw23).t (w.heap.size) (.int .i64 (n_a : Int)) (.slice a_a n_a c_a) (.tail _ (.tail _ (.tail _ (.tail _ (.tail _ (.tail _ (.tail _ (.tail _ (.tail _ (.head _))))))))))
  have t24a := t24.c0
  have t24b := t24.c1
  clear t24
  have t25 := (unhide Aw23).t (w22.heap.size) (.int .i64 (n_a : Int)) (.slice a_both n_a c_both) (.head _)
  have t25a := t25.c0
  have t25b := t25.c1
  clear t25
  go_wp2_with fail
  clear t24a t24b t25a t25b
  have Kw26 := turn_good n_a n_a a_both c_both x_both (boQ Pa) w23 ((unhide Aw23).ss (a_both) (n_a) c_both (x_both) (.tail _ (.head _))) (unhide G_both) ((unhide HT).below (unhide Aw23).bel)
  try unfold setV at Kw26
  refine Kw26.mono ?_
  clear Kw26
  rintro _ w26 ⟨a_turned, c_turned, x_turned, rfl, hs, hk, hb⟩
  have G_turned := hide ((unhide G_both).turn hk)
  have hle_turned := hs.le
  have hcap_turned := hs.cap
  unfold maxLen at hcap_turned
  have Aw26 := hide (((unhide Aw23).step hb).add (fS a_turned (n_a) c_turned x_turned) hs)
  clear Aw23 hs hb hk
  unfold setV
  obtain ⟨w27, hw27⟩ : ∃ x, w26.alloc (.cells #[.int .i64 (n_a : Int), .slice a_turned n_a c_turned] 56) = x := ⟨_, rfl⟩
  have Aw27 := hide ((unhide Aw26).box (.int .i64 (n_a : Int)) (.slice a_turned n_a c_turned) 56)
  rw [hw27] at Aw27
  clear Aw26
  go_wp2_with fail
  refine (num_any 0 w27).mono ?_
  rintro _ w' ⟨rfl, hw⟩
  obtain rfl := hw.symm
  go_wp2_with fail
  refine (num_any 0 w27).mono ?_
  rintro _ w' ⟨rfl, hw⟩
  obtain rfl := hw.symm
  have t28 := (unhide Aw27).t (w26.heap.size) (.int .i64 (n_a : Int)) (.slice a_turned n_a c_turned) (.head _)
  have t28a := t28.c0
  have t28b := t28.c1
  clear t28
  have t29 := (unhide Aw27).t (w22.heap.size) (.int .i64 (n_a : Int)) (.slice a_both n_a c_both) (.tail _ (.tail _ (.head _)))
  have t29a := t29.c0
  have t29b := t29.c1
  clear t29
  go_wp2_with fail
  clear t28a t28b t29a t29b
  have K := sameTable_eq (n_a : Int) (a_turned) (a_both) n_a c_turned c_both x_turned x_both w27 ((unhide Aw27).ss (a_turned) (n_a) c_turned (x_turned) (.tail _ (.head _))) ((unhide Aw27).ss (a_both) (n_a) c_both (x_both) (.tail _ (.tail _ (.tail _ (.head _))))) ((unhide G_both).key.trans ((congrArg (tabK n_a n_a) (boQ_turn Pa)).symm.trans (unhide G_turned).key.symm))
  try unfold setV at K
  refine K.mono ?_
  clear K
  rintro _ w30 ⟨rfl, hb⟩
  have Aw30 := hide ((unhide Aw27).step hb)
  clear Aw27 hb
  have t31 := (unhide Aw30).t (w.heap.size) (.int .i64 (n_a : Int)) (.slice a_a n_a c_a) (.tail _ (.tail _ (.tail _ (.tail _ (.tail _ (.tail _ (.tail _ (.tail _ (.tail _ (.tail _ (.tail _ (.head _))))))))))))
  have t31a := t31.c0
  have t31b := t31.c1
  clear t31
  have t32 := (unhide Aw30).t (w1.heap.size) (.int .i64 (sb : Int)) (.slice a_b n_a c_b) (.tail _ (.tail _ (.tail _ (.tail _ (.tail _ (.tail _ (.tail _ (.tail _ (.tail _ (.tail _ (.head _)))))))))))
  have t32a := t32.c0
  have t32b := t32.c1
  clear t32
  go_wp2_with fail
  clear t31a t31b t32a t32b
  have Kw33 := product_good n_a n_a a_a c_a x_a Pa sb a_b c_b x_b Pb w30 ((unhide Aw30).ss (a_a) (n_a) c_a (x_a) (.tail _ (.tail _ (.tail _ (.tail _ (.tail _ (.tail _ (.tail _ (.tail _ (.tail _ (.tail _ (.tail _ (.tail _ (.tail _ (.head _))))))))))))))) ((unhide Aw30).ss (a_b) (n_a) c_b (x_b) (.tail _ (.tail _ (.tail _ (.tail _ (.tail _ (.tail _ (.tail _ (.tail _ (.tail _ (.tail _ (.tail _ (.tail _ (.head _)))))))))))))) (unhide G_a) (unhide G_b) ((unhide HT).below (unhide Aw30).bel)
  try unfold setV at Kw33
  refine Kw33.mono ?_
  clear Kw33
  rintro _ w33 ⟨a_p, c_p, x_p, rfl, hs, hk, hb⟩
  have G_p := hide ((unhide G_a).product (unhide G_b) hk)
  have hle_p := hs.le
  have hcap_p := hs.cap
  unfold maxLen at hcap_p
  have Aw33 := hide (((unhide Aw30).step hb).add (fS a_p (n_a) c_p x_p) hs)
  clear Aw30 hs hb hk
  unfold setV
  obtain ⟨w34, hw34⟩ : ∃ x, w33.alloc (.cells #[.int .i64 (sb : Int), .slice a_p n_a c_p] 56) = x := ⟨_, rfl⟩
  have Aw34 := hide ((unhide Aw33).box (.int .i64 (sb : Int)) (.slice a_p n_a c_p) 56)
  rw [hw34] at Aw34
  clear Aw33
  have t35 := (unhide Aw34).t (w.heap.size) (.int .i64 (n_a : Int)) (.slice a_a n_a c_a) (.tail _ (.tail _ (.tail _ (.tail _ (.tail _ (.tail _ (.tail _ (.tail _ (.tail _ (.tail _ (.tail _ (.tail _ (.tail _ (.head _))))))))))))))
  have t35a := t35.c0
  have t35b := t35.c1
  clear t35
  have t36 := (unhide Aw34).t (w1.heap.size) (.int .i64 (sb : Int)) (.slice a_b n_a c_b) (.tail _ (.tail _ (.tail _ (.tail _ (.tail _ (.tail _ (.tail _ (.tail _ (.tail _ (.tail _ (.tail _ (.tail _ (.head _)))))))))))))
  have t36a := t36.c0
  have t36b := t36.c1
  clear t36
  have t37 := (unhide Aw34).t (w8.heap.size) (.int .i64 (n_a : Int)) (.slice a_u sb c_u) (.tail _ (.tail _ (.tail _ (.tail _ (.tail _ (.tail _ (.tail _ (.tail _ (.head _)))))))))
  have t37a := t37.c0
  have t37b := t37.c1
  clear t37
  have t38 := (unhide Aw34).t (w5.heap.size) (.int .i64 (n_a : Int)) (.slice a_t n_a c_t) (.tail _ (.tail _ (.tail _ (.tail _ (.tail _ (.tail _ (.tail _ (.tail _ (.tail _ (.tail _ (.head _)))))))))))
  have t38a := t38.c0
  have t38b := t38.c1
  clear t38
  go_wp2_with fail
  clear t35a t35b t36a t36b t37a t37b t38a t38b
  have Kw39 := product_good n_a sb a_u c_u x_u (tuQ Pb) n_a a_t c_t x_t (tuQ Pa) w34 ((unhide Aw34).ss (a_u) (sb) c_u (x_u) (.tail _ (.tail _ (.tail _ (.tail _ (.tail _ (.tail _ (.tail _ (.tail _ (.tail _ (.head _))))))))))) ((unhide Aw34).ss (a_t) (n_a) c_t (x_t) (.tail _ (.tail _ (.tail _ (.tail _ (.tail _ (.tail _ (.tail _ (.tail _ (.tail _ (.tail _ (.tail _ (.head _))))))))))))) (unhide G_u) (unhide G_t) ((unhide HT).below (unhide Aw34).bel)
  try unfold setV at Kw39
  refine Kw39.mono ?_
  clear Kw39
  rintro _ w39 ⟨a_q, c_q, x_q, rfl, hs, hk, hb⟩
  have G_q := hide ((unhide G_u).product (unhide G_t) hk)
  have hle_q := hs.le
  have hcap_q := hs.cap
  unfold maxLen at hcap_q
  have Aw39 := hide (((unhide Aw34).step hb).add (fS a_q (sb) c_q x_q) hs)
  clear Aw34 hs hb hk
  unfold setV
  obtain ⟨w40, hw40⟩ : ∃ x, w39.alloc (.cells #[.int .i64 (n_a : Int), .slice a_q sb c_q] 56) = x := ⟨_, rfl⟩
  have Aw40 := hide ((unhide Aw39).box (.int .i64 (n_a : Int)) (.slice a_q sb c_q) 56)
  rw [hw40] at Aw40
  clear Aw39
  have t41 := (unhide Aw40).t (w33.heap.size) (.int .i64 (sb : Int)) (.slice a_p n_a c_p) (.tail _ (.tail _ (.head _)))
  have t41a := t41.c0
  have t41b := t41.c1
  clear t41
  go_wp2_with fail
  clear t41a t41b
  have Kw42 := turn_good sb n_a a_p c_p x_p (prG n_a Pa Pb) w40 ((unhide Aw40).ss (a_p) (n_a) c_p (x_p) (.tail _ (.tail _ (.tail _ (.head _))))) (unhide G_p) ((unhide HT).below (unhide Aw40).bel)
  try unfold setV at Kw42
  refine Kw42.mono ?_
  clear Kw42
  rintro _ w42 ⟨a_r, c_r, x_r, rfl, hs, hk, hb⟩
  have G_r := hide ((unhide G_p).turn hk)
  have hle_r := hs.le
  have hcap_r := hs.cap
  unfold maxLen at hcap_r
  have Aw42 := hide (((unhide Aw40).step hb).add (fS a_r (sb) c_r x_r) hs)
  clear Aw40 hs hb hk
  unfold setV
  obtain ⟨w43, hw43⟩ : ∃ x, w42.alloc (.cells #[.int .i64 (n_a : Int), .slice a_r sb c_r] 56) = x := ⟨_, rfl⟩
  have Aw43 := hide ((unhide Aw42).box (.int .i64 (n_a : Int)) (.slice a_r sb c_r) 56)
  rw [hw43] at Aw43
  clear Aw42
  go_wp2_with fail
  refine (num_any 0 w43).mono ?_
  rintro _ w' ⟨rfl, hw⟩
  obtain rfl := hw.symm
  go_wp2_with fail
  refine (num_any 0 w43).mono ?_
  rintro _ w' ⟨rfl, hw⟩
  obtain rfl := hw.symm
  go_wp2_with fail
  refine (num_any 0 w43).mono ?_
  rintro _ w' ⟨rfl, hw⟩
  obtain rfl := hw.symm
  have t44 := (unhide Aw43).t (w39.heap.size) (.int .i64 (n_a : Int)) (.slice a_q sb c_q) (.tail _ (.tail _ (.head _)))
  have t44a := t44.c0
  have t44b := t44.c1
  clear t44
  have t45 := (unhide Aw43).t (w42.heap.size) (.int .i64 (n_a : Int)) (.slice a_r sb c_r) (.head _)
  have t45a := t45.c0
  have t45b := t45.c1
  clear t45
  go_wp2_with fail
  clear t44a t44b t45a t45b
  have K := sameTable_eq (n_a : Int) (a_q) (a_r) sb c_q c_r x_q x_r w43 ((unhide Aw43).ss (a_q) (sb) c_q (x_q) (.tail _ (.tail _ (.tail _ (.head _))))) ((unhide Aw43).ss (a_r) (sb) c_r (x_r) (.tail _ (.head _))) ((unhide G_r).key.trans ((congrArg (tabK n_a sb) (prG_turn n_a Pa Pb)).symm.trans (unhide G_q).key.symm))
  try unfold setV at K
  refine K.mono ?_
  clear K
  rintro _ w46 ⟨rfl, hb⟩
  have Aw46 := hide ((unhide Aw43).step hb)
  clear Aw43 hb
  go_wp2_with fail
  go_ret
  exact ⟨rfl, (unhide Aw46).bel⟩

theorem bitTurned_walk (s_a : Int) (a_a : Option Addr) (n_a c_a : Nat) (x_a : List SetC) (s_b : Int) (a_b : Option Addr) (n_b c_b : Nat) (x_b : List SetC) (w : World) (h_a : SlS w a_a n_a c_a x_a) (o_a : ∀ e ∈ x_a, e.Arg) (b_a : n_a ≤ 4398046510976) (e_a : a_a = none → n_a = 0 ∧ c_a = 0) (hl_a : -9223372036854775808 ≤ s_a) (hh_a : s_a ≤ 9223372036854775807) (h_b : SlS w a_b n_b c_b x_b) (o_b : ∀ e ∈ x_b, e.Arg) (b_b : n_b ≤ 4398046510976) (e_b : a_b = none → n_b = 0 ∧ c_b = 0) (hl_b : -9223372036854775808 ≤ s_b) (hh_b : s_b ≤ 9223372036854775807) (hT : Tab64 w) :
    Calls Tryd.prog 7 #[setV s_a a_a n_a c_a, setV s_b a_b n_b c_b] w fun e w' => e = .returned (.bool true) ∧ Below w.heap.size w w' := by
  cases hma : MayT s_a x_a
  · cases hmb : MayT s_b x_b
    · exact bitTurned_n1 s_a a_a n_a c_a x_a s_b a_b n_b c_b x_b w h_a o_a b_a e_a hl_a hh_a h_b o_b b_b e_b hl_b hh_b hT hma hmb
    · exact bitTurned_n2 s_a a_a n_a c_a x_a s_b a_b n_b c_b x_b w h_a o_a b_a e_a hl_a hh_a h_b o_b b_b e_b hl_b hh_b hT hma hmb
  · cases hmb : MayT s_b x_b
    · exact bitTurned_n3 s_a a_a n_a c_a x_a s_b a_b n_b c_b x_b w h_a o_a b_a e_a hl_a hh_a h_b o_b b_b e_b hl_b hh_b hT hma hmb
    · by_cases hsq : s_a = (n_a : Int)
      · by_cases hft : s_a = (n_b : Int)
        · exact bitTurned_tt s_a a_a n_a c_a x_a s_b a_b n_b c_b x_b w h_a o_a b_a e_a hl_a hh_a h_b o_b b_b e_b hl_b hh_b hT hma hmb hsq hft
        · exact bitTurned_tf s_a a_a n_a c_a x_a s_b a_b n_b c_b x_b w h_a o_a b_a e_a hl_a hh_a h_b o_b b_b e_b hl_b hh_b hT hma hmb hsq hft
      · by_cases hft : s_a = (n_b : Int)
        · exact bitTurned_ft s_a a_a n_a c_a x_a s_b a_b n_b c_b x_b w h_a o_a b_a e_a hl_a hh_a h_b o_b b_b e_b hl_b hh_b hT hma hmb hsq hft
        · exact bitTurned_ff s_a a_a n_a c_a x_a s_b a_b n_b c_b x_b w h_a o_a b_a e_a hl_a hh_a h_b o_b b_b e_b hl_b hh_b hT hma hmb hsq hft

set_option maxRecDepth 100000 in
theorem bitTurned_door (os : Os) (args : Array Value) : laidMetH Tryd.prog [("math/bits.deBruijn64tab", Rows.laid_math_bits_deBruijn64tab)] ((World.doorLaid Tryd.prog 400 os).forCall (fun _ _ => 0) ⟨#[], args, []⟩).memory :=
  laidMetH_of_parts3 (fuel := 8) (laidMet_of_run' 8 (by kernel_rfl) (by kernel_rfl)) (by kernel_rfl) (by kernel_rfl)

set_option maxRecDepth 100000 in
theorem bitTurned_lifted (os : Os) (started : os.Started) (H : Type) (enc : TypeId × Value → H) :
    ReturnsInHanded {} Tryd.checked os 7 .any (fun w args => (Rows.bitTurnedSpec.pre enc Tryd.prog Tryd.f7 [] false w args ∧ laidMetH Tryd.prog [("math/bits.deBruijn64tab", Rows.laid_math_bits_deBruijn64tab)] w) ∧ sizedMet enc Tryd.prog Tryd.f7 (OpenSpec.ofChange Rows.bitTurnedSpec) false w args) (Rows.bitTurnedSpec.post enc Tryd.prog Tryd.f7 false true false false) := by
  refine returnsInHanded_of_change_and (C := Tryd.checked) (X := fun w _ => laidMetH Tryd.prog [("math/bits.deBruijn64tab", Rows.laid_math_bits_deBruijn64tab)] w) (fun _ _ _ hh h => h.of_heap hh) law_own started (by kernel_rfl) Tryd.func7
    (ChangeSpec.witness_shaped (enc := enc) (C := Tryd.checked) (os := os) (X := fun w _ => laidMetH Tryd.prog [("math/bits.deBruijn64tab", Rows.laid_math_bits_deBruijn64tab)] w) false (World.doorLaid Tryd.prog 400 os) #[.agg #[.int .i64 0, .slice none 0 0], .agg #[.int .i64 0, .slice none 0 0]] 8 rfl (World.shaped_of_RefB (by kernel_rfl) (by kernel_rfl)) (by kernel_rfl) (by kernel_rfl) (by kernel_rfl) (bitTurned_door os _)) ?_
  intro W base args ds gs before hval0 hW hcnd hsz hL _
  have hval : ∀ (j : Nat) t v, Tryd.f7.params[j]? = some t → args[j]? = some v → Value.okWide Tryd.prog W .any base t v := hval0
  have hW' := hW
  obtain ⟨p, q, hA0, hV, rfl, hfz, hnd⟩ := hW
  have hA : DataW.TrodAll enc Tryd.prog W 0 (fun _ => true) true Tryd.f7.params.toList args.toList ds p := hA0
  rw [Tryd.params7] at hA hval hsz
  obtain ⟨v0, vs0, d0, ds0, p0, q0, hargs, rfl, rfl, h0, r0⟩ := trodAll_cons hA
  obtain ⟨v1, vs1, d1, ds1, p1, q1, rfl, rfl, rfl, h1, r1⟩ := trodAll_cons r0
  obtain ⟨rfl, rfl, rfl⟩ := trodAll_nil r1
  obtain rfl : args = #[v0, v1] := by cases args; simp_all
  obtain ⟨rfl, rfl⟩ := trodVars_none hV
  have k0 := h0
  have lt0 : ∀ x ∈ p0, x.block < W.heap.size := by obtain ⟨m, hm⟩ := k0; exact DataW.trod_lt m _ _ _ hm
  obtain ⟨s0, a0, n0, c0, x0, rfl, l0, g0, y0, o0, b0, e0⟩ := arg_table (hval 0 56 v0 rfl rfl) h0 (fun k hk => by simpa using List.all_eq_true.1 hsz k (DataW.weights_mem_each (j := 0) rfl rfl k hk))
  have k1 := h1
  have lt1 : ∀ x ∈ p1, x.block < W.heap.size := by obtain ⟨m, hm⟩ := k1; exact DataW.trod_lt m _ _ _ hm
  obtain ⟨s1, a1, n1, c1, x1, rfl, l1, g1, y1, o1, b1, e1⟩ := arg_table (hval 1 56 v1 rfl rfl) h1 (fun k hk => by simpa using List.all_eq_true.1 hsz k (DataW.weights_mem_each (j := 1) rfl rfl k hk))
  clear hA0 hval0
  have hT : Tab64 W := by
    rw [MakeChecks.laidMetH_plain _ _ _ (by kernel_rfl)] at hL
    have hI := Lib.tabIs_of_head (k := .u8) (zs := tab64) (rest := []) (show Tryd.prog.globalNamed "math/bits.deBruijn64tab" = some 0 by kernel_rfl) (show (Tryd.prog.globals[0]?).map (·.type) = some 82 by kernel_rfl) Tryd.underlying82 Tryd.underlying5 (by kernel_rfl) (by kernel_rfl) hL
    intro j hj
    exact hI.cell (by kernel_rfl) j hj
  refine (bitTurned_walk s0 a0 n0 c0 x0 s1 a1 n1 c1 x1 W y0 o0 b0 e0 l0 g0 y1 o1 b1 e1 l1 g1 hT).mono fun e W' ⟨he, bel⟩ => ?_
  subst he
  exact ⟨_, rfl, _, _, _, [], _, [], hW', trodAll_mk1 (shut_bool Tryd.underlying4 _), (trodAll_cons_mk (Below.trod law_laid (by kernel_rfl) (of_decide_eq_true (by kernel_rfl)) k0 bel lt0) (trodAll_cons_mk (Below.trod law_laid (by kernel_rfl) (of_decide_eq_true (by kernel_rfl)) k1 bel lt1) trodAll_mk0)), rfl, bel.frame _, fun h => by cases h⟩

theorem bitTurned_row : Rows.BitTurnedSaid :=
  OpenClaim.holds_of_wide 7 Tryd.f7 rfl rfl rfl rfl rfl rfl rfl ⟨rfl, rfl, rfl, rfl, rfl⟩ rfl rfl rfl rfl rfl (by kernel_rfl) Tryd.func7 (by kernel_rfl)
    (of_decide_eq_true (by kernel_rfl)) (by unfold Func.isWrapper; first | (rw [if_pos (by decide +kernel)]; kernel_rfl) | (rw [if_neg (by decide +kernel)]; exact ⟨rfl, rfl⟩))
    (fun os started H enc _ => bitTurned_lifted os started H enc)

theorem bitTurned_holds : Rows.BitTurnedCardSaid :=
  Claim7.holds_tied_plain_at .later [] [.data] true Rows.bitTurnedCard.stood.harness false
    bitTurned_row (fun _ h => by cases h) (by kernel_rfl) (fun _ h => by cases h) bitTurned_row_tie rfl ⟨rfl, rfl⟩ (by kernel_rfl) rfl
    (fun f fn hf hfn => by
      obtain rfl : f = 7 := Option.some.inj ((show Tryd.prog.funcNamed "slope/slopelaw3.BitTurned" = some 7 by kernel_rfl).symm.trans hf) |>.symm
      obtain rfl : fn = Tryd.f7 := (Option.some.inj (Tryd.func7.symm.trans hfn)).symm
      exact ⟨by kernel_rfl, fun j t ht => by
        rw [Tryd.params7] at ht
        have hm : t ∈ [56, 56] := by simpa using Array.mem_of_getElem? ht
        have hall : ([56, 56].all fun u => !Tryd.prog.wantsStandIn u) = true := by kernel_rfl
        exact (show Tryd.prog.wantsStandIn t = false by simpa using List.all_eq_true.1 hall t hm)⟩)
    (by kernel_rfl)
#print axioms bitTurned_holds
end Go.Proofs.YtbendkndnojihaaDoor
