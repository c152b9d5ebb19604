/-
  THE LAW BitRound: out of the contracts; the row's step.
-/
import Derived.Test.YtbendkndnojihabDoorByl
import Derived.Test.YtbendkndnojihabDoorBrs0
import Derived.Test.YtbendkndnojihabDoorBs0
import Derived.Test.YtbendkndnojihabDoorBs3
import Derived.Test.YtbendkndnojihabDoorBc4
import Derived.Test.YtbendkndnojihabDoorBka
import Derived.Test.YtbendkndnojihabDoorBt7
import Derived.Test.YtbendkndnojihabDoorBtb
import Derived.Test.YtbendkndnojihabDoorBt9
import Derived.Test.YtbendkndnojihabDoorBp0
import Derived.Test.YtbendkndnojihabDoorBtc
import Derived.Test.YtbendkndnojihabDoorBu3
import Derived.Test.YtbendkndnojihabDoorByf
import Derived.Test.YtbendkndnojihabDoorCards
import Derived.Test.YtbendkndnojihabDoorTie
import Derived.Stop.LaidErr
import Derived.ChangeMaps5
import Derived.SevenTiedAt
import Derived.LaidMore
import Derived.Stop.Joined
import Derived.Lib.LaidTab
namespace Go.Proofs.YtbendkndnojihabDoor
open Go.ChangeShapes Go.WideShapes Go.ChangeAt Go.RowKit Go.Deep
set_option linter.unusedVariables false

set_option maxRecDepth 100000 in
set_option maxHeartbeats 64000000 in
theorem bitRound_nr (s_s : Int) (a_s : Option Addr) (n_s c_s : Nat) (x_s : List Nat) (t_text : ByteArray) (w : World) (h_s : SlW w a_s n_s c_s x_s) (o_s : OkW x_s) (b_s : n_s ≤ 17592186043904) (e_s : a_s = none → n_s = 0 ∧ c_s = 0) (hl_s : -9223372036854775808 ≤ s_s) (hh_s : s_s ≤ 9223372036854775807) (hm_text : t_text.size ≤ 9223372036854775807) (hT : Tab64 w) (hP : Lib.TabBelow Tryd.prog w.heap.size w "internal/strconv.uint64pow10" .u64 Lib.pow10Tab) (hma : MayS s_s x_s = false) (p : Nat) (er : Int) (hpa : paR t_text = .inr (p, er)) :
    Calls Tryd.prog 7 #[setV s_s a_s n_s c_s, .string t_text] w fun e w' => e = .returned (.bool true) ∧ Below w.heap.size w w' := by
  have A00 : Facts w w [] := ⟨Below.refl _ _, fun f hf => by cases hf⟩
  have A01 := A00.add (fW a_s n_s c_s x_s) h_s
  have A0 := hide A01
  have O_s := hide o_s
  have E_s := hide e_s
  have B_s := hide (And.intro hl_s hh_s)
  have HT := hide hT
  have HP := hide hP
  have hmx := hide hm_text
  have M_s := hide hma
  have PR1 := hide (show prT s_s x_s = ([], 61) by simp [prT, hma])
  obtain ⟨ST, hST⟩ : ∃ S, strL [] = S := ⟨_, rfl⟩
  have ST1 := hide hST
  clear hma hST
  obtain ⟨hpl, hne⟩ := paR_place hpa
  have PP2 := hide hpa
  have q8 : (er == 0) = false := by simpa using hne
  have q7 : (p : Int) ≤ (t_text.size : Int) := by omega
  have q6 : (0 : Int) ≤ (p : Int) := by omega
  clear hpa hne
  clear hT hP hm_text
  clear A00 A01 h_s o_s e_s hl_s hh_s
  unfold setV
  go_enter Tryd.func7, Tryd.ntmps7
  obtain ⟨w1, hw1⟩ : ∃ x, w.alloc (.cells #[.int .i64 s_s, .slice a_s n_s c_s] 35) = x := ⟨_, rfl⟩
  have Aw1 := hide ((unhide A0).box (.int .i64 s_s) (.slice a_s n_s c_s) 35)
  rw [hw1] at Aw1
  clear A0
  go_wp2_with fail
  have K := alive_any w1
  try unfold setV at K
  refine K.mono ?_
  clear K
  rintro _ w2 ⟨rfl, hb⟩
  have Aw2 := hide ((unhide Aw1).step hb)
  clear Aw1 hb
  have t3 := (unhide Aw2).t (w.heap.size) (.int .i64 s_s) (.slice a_s n_s c_s) (.head _)
  have t3a := t3.c0
  have t3b := t3.c1
  clear t3
  go_wp2_with fail
  clear t3a t3b
  have K := sprint_any ai_lies s_s (a_s) n_s c_s x_s w2 ((unhide Aw2).w (a_s) (n_s) c_s (x_s) (.tail _ (.head _))) (unhide O_s) ((unhide HT).below (unhide Aw2).bel) (tabOn (unhide HP) (unhide Aw2).bel)
  rw [unhide PR1] at K
  simp only at K
  rw [unhide ST1] at K
  unfold setV at K
  refine K.mono ?_
  clear K
  rintro _ w4 ⟨rfl, hb⟩
  have Aw4 := hide ((unhide Aw2).step hb)
  clear Aw2 hb
  have t5 := (unhide Aw4).t (w.heap.size) (.int .i64 s_s) (.slice a_s n_s c_s) (.head _)
  have t5a := t5.c0
  have t5b := t5.c1
  clear t5
  go_wp2_with fail
  clear t5a t5b
  have K := rmay_any s_s a_s n_s c_s x_s w4 ((unhide Aw4).w (a_s) (n_s) c_s (x_s) (.tail _ (.head _)))
  rw [unhide M_s] at K
  try unfold setV at K
  refine K.mono ?_
  clear K
  rintro _ w6 ⟨rfl, hb⟩
  have Aw6 := hide ((unhide Aw4).step hb)
  clear Aw4 hb
  go_wp2_with fail
  refine (num_any 61 w6).mono ?_
  rintro _ w' ⟨rfl, hw⟩
  obtain rfl := hw.symm
  go_wp2_with fail
  refine (num_any 61 w6).mono ?_
  rintro _ w' ⟨rfl, hw⟩
  obtain rfl := hw.symm
  go_wp2_with fail
  refine (parse_no t_text p er w6 (unhide hmx) (unhide PP2)).mono ?_
  rintro _ w7 ⟨rfl, hb⟩
  have Aw7 := hide ((unhide Aw6).step hb)
  clear Aw6 hb
  go_wp2_with fail
  refine (num_any er _).mono ?_
  rintro _ w' ⟨rfl, hw⟩
  obtain rfl := hw.symm
  clear hw
  obtain ⟨w8, hw8⟩ : ∃ x, w7.alloc (.cells #[.int .i64 0, .slice none 0 0] 35) = x := ⟨_, rfl⟩
  have Aw8 := hide ((unhide Aw7).box (.int .i64 0) (.slice none 0 0) 35)
  rw [hw8] at Aw8
  clear Aw7
  have t9 := (unhide Aw8).t (w7.heap.size) (.int .i64 0) (.slice none 0 0) (.head _)
  have t9a := t9.c0
  have t9b := t9.c1
  clear t9
  go_wp2_with fail
  go_ret
  exact ⟨rfl, (unhide Aw8).bel⟩

set_option maxRecDepth 100000 in
set_option maxHeartbeats 64000000 in
theorem bitRound_nt (s_s : Int) (a_s : Option Addr) (n_s c_s : Nat) (x_s : List Nat) (t_text : ByteArray) (w : World) (h_s : SlW w a_s n_s c_s x_s) (o_s : OkW x_s) (b_s : n_s ≤ 17592186043904) (e_s : a_s = none → n_s = 0 ∧ c_s = 0) (hl_s : -9223372036854775808 ≤ s_s) (hh_s : s_s ≤ 9223372036854775807) (hm_text : t_text.size ≤ 9223372036854775807) (hT : Tab64 w) (hP : Lib.TabBelow Tryd.prog w.heap.size w "internal/strconv.uint64pow10" .u64 Lib.pow10Tab) (hma : MayS s_s x_s = false) (sz2 : Nat) (P2 : Nat → Bool) (hpa : paR t_text = .inl (sz2, P2)) :
    Calls Tryd.prog 7 #[setV s_s a_s n_s c_s, .string t_text] w fun e w' => e = .returned (.bool true) ∧ Below w.heap.size w w' := by
  have A00 : Facts w w [] := ⟨Below.refl _ _, fun f hf => by cases hf⟩
  have A01 := A00.add (fW a_s n_s c_s x_s) h_s
  have A0 := hide A01
  have O_s := hide o_s
  have E_s := hide e_s
  have B_s := hide (And.intro hl_s hh_s)
  have HT := hide hT
  have HP := hide hP
  have hmx := hide hm_text
  have M_s := hide hma
  have PR1 := hide (show prT s_s x_s = ([], 61) by simp [prT, hma])
  obtain ⟨ST, hST⟩ : ∃ S, strL [] = S := ⟨_, rfl⟩
  have ST1 := hide hST
  clear hma hST
  obtain ⟨g2, r1, r2⟩ := round_text hpa
  obtain ⟨X2, hX2⟩ : ∃ X, wordsL sz2 P2 = X := ⟨_, rfl⟩
  rw [hX2] at g2 r1 r2
  have O2 := hide g2.ok
  obtain ⟨T2, e2, hpr2⟩ : ∃ T er, prT (sz2 : Int) X2 = (T, er) := ⟨_, _, rfl⟩
  rw [hpr2] at r1 r2
  simp only at r1 r2
  subst r1
  have PR2 := hide hpr2
  have ST2 := hide r2
  have PP2 := hide hpa
  have PW2 := hide hX2
  clear g2 hpr2 r2 hpa hX2
  clear hT hP hm_text
  clear A00 A01 h_s o_s e_s hl_s hh_s
  unfold setV
  go_enter Tryd.func7, Tryd.ntmps7
  obtain ⟨w1, hw1⟩ : ∃ x, w.alloc (.cells #[.int .i64 s_s, .slice a_s n_s c_s] 35) = x := ⟨_, rfl⟩
  have Aw1 := hide ((unhide A0).box (.int .i64 s_s) (.slice a_s n_s c_s) 35)
  rw [hw1] at Aw1
  clear A0
  go_wp2_with fail
  have K := alive_any w1
  try unfold setV at K
  refine K.mono ?_
  clear K
  rintro _ w2 ⟨rfl, hb⟩
  have Aw2 := hide ((unhide Aw1).step hb)
  clear Aw1 hb
  have t3 := (unhide Aw2).t (w.heap.size) (.int .i64 s_s) (.slice a_s n_s c_s) (.head _)
  have t3a := t3.c0
  have t3b := t3.c1
  clear t3
  go_wp2_with fail
  clear t3a t3b
  have K := sprint_any ai_lies s_s (a_s) n_s c_s x_s w2 ((unhide Aw2).w (a_s) (n_s) c_s (x_s) (.tail _ (.head _))) (unhide O_s) ((unhide HT).below (unhide Aw2).bel) (tabOn (unhide HP) (unhide Aw2).bel)
  rw [unhide PR1] at K
  simp only at K
  rw [unhide ST1] at K
  unfold setV at K
  refine K.mono ?_
  clear K
  rintro _ w4 ⟨rfl, hb⟩
  have Aw4 := hide ((unhide Aw2).step hb)
  clear Aw2 hb
  have t5 := (unhide Aw4).t (w.heap.size) (.int .i64 s_s) (.slice a_s n_s c_s) (.head _)
  have t5a := t5.c0
  have t5b := t5.c1
  clear t5
  go_wp2_with fail
  clear t5a t5b
  have K := rmay_any s_s a_s n_s c_s x_s w4 ((unhide Aw4).w (a_s) (n_s) c_s (x_s) (.tail _ (.head _)))
  rw [unhide M_s] at K
  try unfold setV at K
  refine K.mono ?_
  clear K
  rintro _ w6 ⟨rfl, hb⟩
  have Aw6 := hide ((unhide Aw4).step hb)
  clear Aw4 hb
  go_wp2_with fail
  refine (num_any 61 w6).mono ?_
  rintro _ w' ⟨rfl, hw⟩
  obtain rfl := hw.symm
  go_wp2_with fail
  refine (num_any 61 w6).mono ?_
  rintro _ w' ⟨rfl, hw⟩
  obtain rfl := hw.symm
  go_wp2_with fail
  have Kw7 := parse_yes t_text sz2 P2 w6 (unhide hmx) (unhide PP2)
  rw [unhide PW2] at Kw7
  try unfold setV at Kw7
  refine Kw7.mono ?_
  clear Kw7
  rintro _ w7 ⟨a_u2, n_u2, c_u2, rfl, hs, hb⟩
  have Aw7 := hide (((unhide Aw6).step hb).add (fW a_u2 n_u2 c_u2 X2) hs)
  clear Aw6 hs hb
  try unfold setV
  obtain ⟨w8, hw8⟩ : ∃ x, w7.alloc (.cells #[.int .i64 (sz2 : Int), .slice a_u2 n_u2 c_u2] 35) = x := ⟨_, rfl⟩
  have Aw8 := hide ((unhide Aw7).box (.int .i64 (sz2 : Int)) (.slice a_u2 n_u2 c_u2) 35)
  rw [hw8] at Aw8
  clear Aw7
  go_wp2_with fail
  refine (num_any 0 w8).mono ?_
  rintro _ w' ⟨rfl, hw⟩
  obtain rfl := hw.symm
  have t9 := (unhide Aw8).t (w7.heap.size) (.int .i64 (sz2 : Int)) (.slice a_u2 n_u2 c_u2) (.head _)
  have t9a := t9.c0
  have t9b := t9.c1
  clear t9
  go_wp2_with fail
  clear t9a t9b
  have K := sprint_any ai_lies (sz2 : Int) (a_u2) n_u2 c_u2 X2 w8 ((unhide Aw8).w (a_u2) (n_u2) c_u2 (X2) (.tail _ (.head _))) (unhide O2) ((unhide HT).below (unhide Aw8).bel) (tabOn (unhide HP) (unhide Aw8).bel)
  rw [unhide PR2] at K
  simp only at K
  rw [unhide ST2] at K
  unfold setV at K
  refine K.mono ?_
  clear K
  rintro _ w10 ⟨rfl, hb⟩
  have Aw10 := hide ((unhide Aw8).step hb)
  clear Aw8 hb
  go_wp2_with fail
  refine (num_any 0 w10).mono ?_
  rintro _ w' ⟨rfl, hw⟩
  obtain rfl := hw.symm
  go_wp2_with fail
  go_ret
  exact ⟨rfl, (unhide Aw10).bel⟩

set_option maxRecDepth 100000 in
set_option maxHeartbeats 64000000 in
theorem bitRound_yr (s_s : Int) (a_s : Option Addr) (n_s c_s : Nat) (x_s : List Nat) (t_text : ByteArray) (w : World) (h_s : SlW w a_s n_s c_s x_s) (o_s : OkW x_s) (b_s : n_s ≤ 17592186043904) (e_s : a_s = none → n_s = 0 ∧ c_s = 0) (hl_s : -9223372036854775808 ≤ s_s) (hh_s : s_s ≤ 9223372036854775807) (hm_text : t_text.size ≤ 9223372036854775807) (hT : Tab64 w) (hP : Lib.TabBelow Tryd.prog w.heap.size w "internal/strconv.uint64pow10" .u64 Lib.pow10Tab) (hma : MayS s_s x_s = true) (p : Nat) (er : Int) (hpa : paR t_text = .inr (p, er)) :
    Calls Tryd.prog 7 #[setV s_s a_s n_s c_s, .string t_text] w fun e w' => e = .returned (.bool true) ∧ Below w.heap.size w w' := by
  have A00 : Facts w w [] := ⟨Below.refl _ _, fun f hf => by cases hf⟩
  have A01 := A00.add (fW a_s n_s c_s x_s) h_s
  have A0 := hide A01
  have O_s := hide o_s
  have E_s := hide e_s
  have B_s := hide (And.intro hl_s hh_s)
  have HT := hide hT
  have HP := hide hP
  have hmx := hide hm_text
  obtain ⟨sz, rfl⟩ : ∃ sz : Nat, s_s = (sz : Int) := by have hf := MayS.fits hma; simp [fitsI] at hf; exact ⟨s_s.toNat, by omega⟩
  obtain ⟨P, p1, p2, p3⟩ := round_set (good_may hma o_s)
  have M_s := hide hma
  obtain ⟨T, er, hpr⟩ : ∃ T er, prT (sz : Int) x_s = (T, er) := ⟨_, _, rfl⟩
  rw [hpr] at p1 p3
  simp only at p1 p3
  subst p3
  obtain ⟨ST, hST⟩ : ∃ S, strL T = S := ⟨_, rfl⟩
  rw [hST] at p1
  have PR1 := hide hpr
  have ST1 := hide hST
  have PP1 := hide p1
  have PW1 := hide p2
  have SM1 := hide (show ST.size ≤ 9223372036854775807 by have := paR_small p1; omega)
  clear hpr hST p1 p2 hma
  obtain ⟨hpl, hne⟩ := paR_place hpa
  have PP2 := hide hpa
  have q8 : (er == 0) = false := by simpa using hne
  have q7 : (p : Int) ≤ (t_text.size : Int) := by omega
  have q6 : (0 : Int) ≤ (p : Int) := by omega
  clear hpa hne
  clear hT hP hm_text
  clear A00 A01 h_s o_s e_s hl_s hh_s
  unfold setV
  go_enter Tryd.func7, Tryd.ntmps7
  obtain ⟨w1, hw1⟩ : ∃ x, w.alloc (.cells #[.int .i64 (sz : Int), .slice a_s n_s c_s] 35) = x := ⟨_, rfl⟩
  have Aw1 := hide ((unhide A0).box (.int .i64 (sz : Int)) (.slice a_s n_s c_s) 35)
  rw [hw1] at Aw1
  clear A0
  go_wp2_with fail
  have K := alive_any w1
  try unfold setV at K
  refine K.mono ?_
  clear K
  rintro _ w2 ⟨rfl, hb⟩
  have Aw2 := hide ((unhide Aw1).step hb)
  clear Aw1 hb
  have t3 := (unhide Aw2).t (w.heap.size) (.int .i64 (sz : Int)) (.slice a_s n_s c_s) (.head _)
  have t3a := t3.c0
  have t3b := t3.c1
  clear t3
  go_wp2_with fail
  clear t3a t3b
  have K := sprint_any ai_lies (sz : Int) (a_s) n_s c_s x_s w2 ((unhide Aw2).w (a_s) (n_s) c_s (x_s) (.tail _ (.head _))) (unhide O_s) ((unhide HT).below (unhide Aw2).bel) (tabOn (unhide HP) (unhide Aw2).bel)
  rw [unhide PR1] at K
  simp only at K
  rw [unhide ST1] at K
  unfold setV at K
  refine K.mono ?_
  clear K
  rintro _ w4 ⟨rfl, hb⟩
  have Aw4 := hide ((unhide Aw2).step hb)
  clear Aw2 hb
  have t5 := (unhide Aw4).t (w.heap.size) (.int .i64 (sz : Int)) (.slice a_s n_s c_s) (.head _)
  have t5a := t5.c0
  have t5b := t5.c1
  clear t5
  go_wp2_with fail
  clear t5a t5b
  have K := rmay_any (sz : Int) a_s n_s c_s x_s w4 ((unhide Aw4).w (a_s) (n_s) c_s (x_s) (.tail _ (.head _)))
  rw [unhide M_s] at K
  try unfold setV at K
  refine K.mono ?_
  clear K
  rintro _ w6 ⟨rfl, hb⟩
  have Aw6 := hide ((unhide Aw4).step hb)
  clear Aw4 hb
  go_wp2_with fail
  refine (num_any 0 w6).mono ?_
  rintro _ w' ⟨rfl, hw⟩
  obtain rfl := hw.symm
  go_wp2_with fail
  refine (num_any 0 w6).mono ?_
  rintro _ w' ⟨rfl, hw⟩
  obtain rfl := hw.symm
  go_wp2_with fail
  have Kw7 := parse_yes ST sz P w6 (unhide SM1) (unhide PP1)
  rw [unhide PW1] at Kw7
  try unfold setV at Kw7
  refine Kw7.mono ?_
  clear Kw7
  rintro _ w7 ⟨a_u1, n_u1, c_u1, rfl, hs, hb⟩
  have Aw7 := hide (((unhide Aw6).step hb).add (fW a_u1 n_u1 c_u1 x_s) hs)
  clear Aw6 hs hb
  try unfold setV
  obtain ⟨w8, hw8⟩ : ∃ x, w7.alloc (.cells #[.int .i64 (sz : Int), .slice a_u1 n_u1 c_u1] 35) = x := ⟨_, rfl⟩
  have Aw8 := hide ((unhide Aw7).box (.int .i64 (sz : Int)) (.slice a_u1 n_u1 c_u1) 35)
  rw [hw8] at Aw8
  clear Aw7
  go_wp2_with fail
  refine (num_any 0 w8).mono ?_
  rintro _ w' ⟨rfl, hw⟩
  obtain rfl := hw.symm
  have EL : n_s = n_u1 := by rw [← ((unhide Aw8).w (a_s) (n_s) c_s (x_s) (.tail _ (.tail _ (.tail _ (.head _))))).len, ← ((unhide Aw8).w (a_u1) (n_u1) c_u1 (x_s) (.tail _ (.head _))).len]
  subst EL
  have t9 := (unhide Aw8).t (w7.heap.size) (.int .i64 (sz : Int)) (.slice a_u1 n_s c_u1) (.head _)
  have t9a := t9.c0
  have t9b := t9.c1
  clear t9
  have t10 := (unhide Aw8).t (w.heap.size) (.int .i64 (sz : Int)) (.slice a_s n_s c_s) (.tail _ (.tail _ (.head _)))
  have t10a := t10.c0
  have t10b := t10.c1
  clear t10
  go_wp2_with fail
  clear t9a t9b t10a t10b
  have Kw11 := same_eq (sz : Int) a_u1 a_s n_s c_u1 c_s x_s w8 ((unhide Aw8).w (a_u1) (n_s) c_u1 (x_s) (.tail _ (.head _))) ((unhide Aw8).w (a_s) (n_s) c_s (x_s) (.tail _ (.tail _ (.tail _ (.head _)))))
  unfold setV at Kw11
  refine Kw11.mono ?_
  clear Kw11
  rintro _ w11 ⟨rfl, hb⟩
  have Aw11 := hide ((unhide Aw8).step hb)
  clear Aw8 hb
  go_wp2_with fail
  refine (parse_no t_text p er w11 (unhide hmx) (unhide PP2)).mono ?_
  rintro _ w12 ⟨rfl, hb⟩
  have Aw12 := hide ((unhide Aw11).step hb)
  clear Aw11 hb
  go_wp2_with fail
  refine (num_any er _).mono ?_
  rintro _ w' ⟨rfl, hw⟩
  obtain rfl := hw.symm
  clear hw
  obtain ⟨w13, hw13⟩ : ∃ x, w12.alloc (.cells #[.int .i64 0, .slice none 0 0] 35) = x := ⟨_, rfl⟩
  have Aw13 := hide ((unhide Aw12).box (.int .i64 0) (.slice none 0 0) 35)
  rw [hw13] at Aw13
  clear Aw12
  have t14 := (unhide Aw13).t (w12.heap.size) (.int .i64 0) (.slice none 0 0) (.head _)
  have t14a := t14.c0
  have t14b := t14.c1
  clear t14
  go_wp2_with fail
  go_ret
  exact ⟨rfl, (unhide Aw13).bel⟩

set_option maxRecDepth 100000 in
set_option maxHeartbeats 64000000 in
theorem bitRound_yt (s_s : Int) (a_s : Option Addr) (n_s c_s : Nat) (x_s : List Nat) (t_text : ByteArray) (w : World) (h_s : SlW w a_s n_s c_s x_s) (o_s : OkW x_s) (b_s : n_s ≤ 17592186043904) (e_s : a_s = none → n_s = 0 ∧ c_s = 0) (hl_s : -9223372036854775808 ≤ s_s) (hh_s : s_s ≤ 9223372036854775807) (hm_text : t_text.size ≤ 9223372036854775807) (hT : Tab64 w) (hP : Lib.TabBelow Tryd.prog w.heap.size w "internal/strconv.uint64pow10" .u64 Lib.pow10Tab) (hma : MayS s_s x_s = true) (sz2 : Nat) (P2 : Nat → Bool) (hpa : paR t_text = .inl (sz2, P2)) :
    Calls Tryd.prog 7 #[setV s_s a_s n_s c_s, .string t_text] w fun e w' => e = .returned (.bool true) ∧ Below w.heap.size w w' := by
  have A00 : Facts w w [] := ⟨Below.refl _ _, fun f hf => by cases hf⟩
  have A01 := A00.add (fW a_s n_s c_s x_s) h_s
  have A0 := hide A01
  have O_s := hide o_s
  have E_s := hide e_s
  have B_s := hide (And.intro hl_s hh_s)
  have HT := hide hT
  have HP := hide hP
  have hmx := hide hm_text
  obtain ⟨sz, rfl⟩ : ∃ sz : Nat, s_s = (sz : Int) := by have hf := MayS.fits hma; simp [fitsI] at hf; exact ⟨s_s.toNat, by omega⟩
  obtain ⟨P, p1, p2, p3⟩ := round_set (good_may hma o_s)
  have M_s := hide hma
  obtain ⟨T, er, hpr⟩ : ∃ T er, prT (sz : Int) x_s = (T, er) := ⟨_, _, rfl⟩
  rw [hpr] at p1 p3
  simp only at p1 p3
  subst p3
  obtain ⟨ST, hST⟩ : ∃ S, strL T = S := ⟨_, rfl⟩
  rw [hST] at p1
  have PR1 := hide hpr
  have ST1 := hide hST
  have PP1 := hide p1
  have PW1 := hide p2
  have SM1 := hide (show ST.size ≤ 9223372036854775807 by have := paR_small p1; omega)
  clear hpr hST p1 p2 hma
  obtain ⟨g2, r1, r2⟩ := round_text hpa
  obtain ⟨X2, hX2⟩ : ∃ X, wordsL sz2 P2 = X := ⟨_, rfl⟩
  rw [hX2] at g2 r1 r2
  have O2 := hide g2.ok
  obtain ⟨T2, e2, hpr2⟩ : ∃ T er, prT (sz2 : Int) X2 = (T, er) := ⟨_, _, rfl⟩
  rw [hpr2] at r1 r2
  simp only at r1 r2
  subst r1
  have PR2 := hide hpr2
  have ST2 := hide r2
  have PP2 := hide hpa
  have PW2 := hide hX2
  clear g2 hpr2 r2 hpa hX2
  clear hT hP hm_text
  clear A00 A01 h_s o_s e_s hl_s hh_s
  unfold setV
  go_enter Tryd.func7, Tryd.ntmps7
  obtain ⟨w1, hw1⟩ : ∃ x, w.alloc (.cells #[.int .i64 (sz : Int), .slice a_s n_s c_s] 35) = x := ⟨_, rfl⟩
  have Aw1 := hide ((unhide A0).box (.int .i64 (sz : Int)) (.slice a_s n_s c_s) 35)
  rw [hw1] at Aw1
  clear A0
  go_wp2_with fail
  have K := alive_any w1
  try unfold setV at K
  refine K.mono ?_
  clear K
  rintro _ w2 ⟨rfl, hb⟩
  have Aw2 := hide ((unhide Aw1).step hb)
  clear Aw1 hb
  have t3 := (unhide Aw2).t (w.heap.size) (.int .i64 (sz : Int)) (.slice a_s n_s c_s) (.head _)
  have t3a := t3.c0
  have t3b := t3.c1
  clear t3
  go_wp2_with fail
  clear t3a t3b
  have K := sprint_any ai_lies (sz : Int) (a_s) n_s c_s x_s w2 ((unhide Aw2).w (a_s) (n_s) c_s (x_s) (.tail _ (.head _))) (unhide O_s) ((unhide HT).below (unhide Aw2).bel) (tabOn (unhide HP) (unhide Aw2).bel)
  rw [unhide PR1] at K
  simp only at K
  rw [unhide ST1] at K
  unfold setV at K
  refine K.mono ?_
  clear K
  rintro _ w4 ⟨rfl, hb⟩
  have Aw4 := hide ((unhide Aw2).step hb)
  clear Aw2 hb
  have t5 := (unhide Aw4).t (w.heap.size) (.int .i64 (sz : Int)) (.slice a_s n_s c_s) (.head _)
  have t5a := t5.c0
  have t5b := t5.c1
  clear t5
  go_wp2_with fail
  clear t5a t5b
  have K := rmay_any (sz : Int) a_s n_s c_s x_s w4 ((unhide Aw4).w (a_s) (n_s) c_s (x_s) (.tail _ (.head _)))
  rw [unhide M_s] at K
  try unfold setV at K
  refine K.mono ?_
  clear K
  rintro _ w6 ⟨rfl, hb⟩
  have Aw6 := hide ((unhide Aw4).step hb)
  clear Aw4 hb
  go_wp2_with fail
  refine (num_any 0 w6).mono ?_
  rintro _ w' ⟨rfl, hw⟩
  obtain rfl := hw.symm
  go_wp2_with fail
  refine (num_any 0 w6).mono ?_
  rintro _ w' ⟨rfl, hw⟩
  obtain rfl := hw.symm
  go_wp2_with fail
  have Kw7 := parse_yes ST sz P w6 (unhide SM1) (unhide PP1)
  rw [unhide PW1] at Kw7
  try unfold setV at Kw7
  refine Kw7.mono ?_
  clear Kw7
  rintro _ w7 ⟨a_u1, n_u1, c_u1, rfl, hs, hb⟩
  have Aw7 := hide (((unhide Aw6).step hb).add (fW a_u1 n_u1 c_u1 x_s) hs)
  clear Aw6 hs hb
  try unfold setV
  obtain ⟨w8, hw8⟩ : ∃ x, w7.alloc (.cells #[.int .i64 (sz : Int), .slice a_u1 n_u1 c_u1] 35) = x := ⟨_, rfl⟩
  have Aw8 := hide ((unhide Aw7).box (.int .i64 (sz : Int)) (.slice a_u1 n_u1 c_u1) 35)
  rw [hw8] at Aw8
  clear Aw7
  go_wp2_with fail
  refine (num_any 0 w8).mono ?_
  rintro _ w' ⟨rfl, hw⟩
  obtain rfl := hw.symm
  have EL : n_s = n_u1 := by rw [← ((unhide Aw8).w (a_s) (n_s) c_s (x_s) (.tail _ (.tail _ (.tail _ (.head _))))).len, ← ((unhide Aw8).w (a_u1) (n_u1) c_u1 (x_s) (.tail _ (.head _))).len]
  subst EL
  have t9 := (unhide Aw8).t (w7.heap.size) (.int .i64 (sz : Int)) (.slice a_u1 n_s c_u1) (.head _)
  have t9a := t9.c0
  have t9b := t9.c1
  clear t9
  have t10 := (unhide Aw8).t (w.heap.size) (.int .i64 (sz : Int)) (.slice a_s n_s c_s) (.tail _ (.tail _ (.head _)))
  have t10a := t10.c0
  have t10b := t10.c1
  clear t10
  go_wp2_with fail
  clear t9a t9b t10a t10b
  have Kw11 := same_eq (sz : Int) a_u1 a_s n_s c_u1 c_s x_s w8 ((unhide Aw8).w (a_u1) (n_s) c_u1 (x_s) (.tail _ (.head _))) ((unhide Aw8).w (a_s) (n_s) c_s (x_s) (.tail _ (.tail _ (.tail _ (.head _)))))
  unfold setV at Kw11
  refine Kw11.mono ?_
  clear Kw11
  rintro _ w11 ⟨rfl, hb⟩
  have Aw11 := hide ((unhide Aw8).step hb)
  clear Aw8 hb
  go_wp2_with fail
  have Kw12 := parse_yes t_text sz2 P2 w11 (unhide hmx) (unhide PP2)
  rw [unhide PW2] at Kw12
  try unfold setV at Kw12
  refine Kw12.mono ?_
  clear Kw12
  rintro _ w12 ⟨a_u2, n_u2, c_u2, rfl, hs, hb⟩
  have Aw12 := hide (((unhide Aw11).step hb).add (fW a_u2 n_u2 c_u2 X2) hs)
  clear Aw11 hs hb
  try unfold setV
  obtain ⟨w13, hw13⟩ : ∃ x, w12.alloc (.cells #[.int .i64 (sz2 : Int), .slice a_u2 n_u2 c_u2] 35) = x := ⟨_, rfl⟩
  have Aw13 := hide ((unhide Aw12).box (.int .i64 (sz2 : Int)) (.slice a_u2 n_u2 c_u2) 35)
  rw [hw13] at Aw13
  clear Aw12
  go_wp2_with fail
  refine (num_any 0 w13).mono ?_
  rintro _ w' ⟨rfl, hw⟩
  obtain rfl := hw.symm
  have t14 := (unhide Aw13).t (w12.heap.size) (.int .i64 (sz2 : Int)) (.slice a_u2 n_u2 c_u2) (.head _)
  have t14a := t14.c0
  have t14b := t14.c1
  clear t14
  go_wp2_with fail
  clear t14a t14b
  have K := sprint_any ai_lies (sz2 : Int) (a_u2) n_u2 c_u2 X2 w13 ((unhide Aw13).w (a_u2) (n_u2) c_u2 (X2) (.tail _ (.head _))) (unhide O2) ((unhide HT).below (unhide Aw13).bel) (tabOn (unhide HP) (unhide Aw13).bel)
  rw [unhide PR2] at K
  simp only at K
  rw [unhide ST2] at K
  unfold setV at K
  refine K.mono ?_
  clear K
  rintro _ w15 ⟨rfl, hb⟩
  have Aw15 := hide ((unhide Aw13).step hb)
  clear Aw13 hb
  go_wp2_with fail
  refine (num_any 0 w15).mono ?_
  rintro _ w' ⟨rfl, hw⟩
  obtain rfl := hw.symm
  go_wp2_with fail
  go_ret
  exact ⟨rfl, (unhide Aw15).bel⟩

theorem bitRound_walk (s_s : Int) (a_s : Option Addr) (n_s c_s : Nat) (x_s : List Nat) (t_text : ByteArray) (w : World) (h_s : SlW w a_s n_s c_s x_s) (o_s : OkW x_s) (b_s : n_s ≤ 17592186043904) (e_s : a_s = none → n_s = 0 ∧ c_s = 0) (hl_s : -9223372036854775808 ≤ s_s) (hh_s : s_s ≤ 9223372036854775807) (hm_text : t_text.size ≤ 9223372036854775807) (hT : Tab64 w) (hP : Lib.TabBelow Tryd.prog w.heap.size w "internal/strconv.uint64pow10" .u64 Lib.pow10Tab) :
    Calls Tryd.prog 7 #[setV s_s a_s n_s c_s, .string t_text] w fun e w' => e = .returned (.bool true) ∧ Below w.heap.size w w' := by
  cases hma : MayS s_s x_s
  · rcases hpa : paR t_text with ⟨sz2, P2⟩ | ⟨p, er⟩
    · exact bitRound_nt s_s a_s n_s c_s x_s t_text w h_s o_s b_s e_s hl_s hh_s hm_text hT hP hma sz2 P2 hpa
    · exact bitRound_nr s_s a_s n_s c_s x_s t_text w h_s o_s b_s e_s hl_s hh_s hm_text hT hP hma p er hpa
  · rcases hpa : paR t_text with ⟨sz2, P2⟩ | ⟨p, er⟩
    · exact bitRound_yt s_s a_s n_s c_s x_s t_text w h_s o_s b_s e_s hl_s hh_s hm_text hT hP hma sz2 P2 hpa
    · exact bitRound_yr s_s a_s n_s c_s x_s t_text w h_s o_s b_s e_s hl_s hh_s hm_text hT hP hma p er hpa

set_option maxRecDepth 100000 in
theorem bitRound_door (os : Os) (args : Array Value) : laidMetH Tryd.prog [("math/bits.deBruijn32tab", Rows.laid_math_bits_deBruijn32tab), ("math/bits.deBruijn64tab", Rows.laid_math_bits_deBruijn64tab), ("internal/strconv.uint64pow10", Rows.laid_internal_strconv_uint64pow10)] ((World.doorLaid Tryd.prog 400 os).forCall (fun _ _ => 0) ⟨#[], args, []⟩).memory :=
  laidMetH_of_parts3 (fuel := 8) (laidMet_of_run' 8 (by kernel_rfl) (by kernel_rfl)) (by kernel_rfl) (by kernel_rfl)

set_option maxRecDepth 100000 in
theorem bitRound_lifted (os : Os) (started : os.Started) (H : Type) (enc : TypeId × Value → H) :
    ReturnsInHanded {} Tryd.checked os 7 .any (fun w args => (Rows.bitRoundSpec.pre enc Tryd.prog Tryd.f7 [] false w args ∧ laidMetH Tryd.prog [("math/bits.deBruijn32tab", Rows.laid_math_bits_deBruijn32tab), ("math/bits.deBruijn64tab", Rows.laid_math_bits_deBruijn64tab), ("internal/strconv.uint64pow10", Rows.laid_internal_strconv_uint64pow10)] w) ∧ sizedMet enc Tryd.prog Tryd.f7 (OpenSpec.ofChange Rows.bitRoundSpec) false w args) (Rows.bitRoundSpec.post enc Tryd.prog Tryd.f7 false true false false) := by
  refine returnsInHanded_of_change_and (C := Tryd.checked) (X := fun w _ => laidMetH Tryd.prog [("math/bits.deBruijn32tab", Rows.laid_math_bits_deBruijn32tab), ("math/bits.deBruijn64tab", Rows.laid_math_bits_deBruijn64tab), ("internal/strconv.uint64pow10", Rows.laid_internal_strconv_uint64pow10)] w) (fun _ _ _ hh h => h.of_heap hh) law_own started (by kernel_rfl) Tryd.func7
    (ChangeSpec.witness_shaped (enc := enc) (C := Tryd.checked) (os := os) (X := fun w _ => laidMetH Tryd.prog [("math/bits.deBruijn32tab", Rows.laid_math_bits_deBruijn32tab), ("math/bits.deBruijn64tab", Rows.laid_math_bits_deBruijn64tab), ("internal/strconv.uint64pow10", Rows.laid_internal_strconv_uint64pow10)] w) false (World.doorLaid Tryd.prog 400 os) #[.agg #[.int .i64 0, .slice none 0 0], .string ByteArray.empty] 8 rfl (World.shaped_of_RefB (by kernel_rfl) (by kernel_rfl)) (by kernel_rfl) (by kernel_rfl) (by kernel_rfl) (bitRound_door os _)) ?_
  intro W base args ds gs before hval0 hW hcnd hsz hL _
  have hval : ∀ (j : Nat) t v, Tryd.f7.params[j]? = some t → args[j]? = some v → Value.okWide Tryd.prog W .any base t v := hval0
  have hW' := hW
  obtain ⟨p, q, hA0, hV, rfl, hfz, hnd⟩ := hW
  have hA : DataW.TrodAll enc Tryd.prog W 0 (fun _ => true) true Tryd.f7.params.toList args.toList ds p := hA0
  rw [Tryd.params7] at hA hval hsz
  obtain ⟨v0, vs0, d0, ds0, p0, q0, hargs, rfl, rfl, h0, r0⟩ := trodAll_cons hA
  obtain ⟨v1, vs1, d1, ds1, p1, q1, rfl, rfl, rfl, h1, r1⟩ := trodAll_cons r0
  obtain ⟨rfl, rfl, rfl⟩ := trodAll_nil r1
  obtain rfl : args = #[v0, v1] := by cases args; simp_all
  obtain ⟨rfl, rfl⟩ := trodVars_none hV
  have k0 := h0
  have lt0 : ∀ x ∈ p0, x.block < W.heap.size := by obtain ⟨m, hm⟩ := k0; exact DataW.trod_lt m _ _ _ hm
  obtain ⟨s0, a0, n0, c0, x0, rfl, l0, g0, y0, o0, b0, e0⟩ := arg_set (hval 0 35 v0 rfl rfl) h0 (fun k hk => by simpa using List.all_eq_true.1 hsz k (DataW.weights_mem_each (j := 0) rfl rfl k hk))
  obtain ⟨t1, rfl, rfl, rfl, wf1⟩ := ChangeMaps.open_string Tryd.underlying9 (hval 1 9 v1 rfl rfl) h1
  clear hA0 hval0
  have hT : Tab64 W := by
    rw [MakeChecks.laidMetH_plain _ _ _ (by kernel_rfl)] at hL
    have hI := Lib.tabIs_of_head (k := .u8) (zs := tab64) (rest := [("internal/strconv.uint64pow10", Rows.laid_internal_strconv_uint64pow10)]) (show Tryd.prog.globalNamed "math/bits.deBruijn64tab" = some 0 by kernel_rfl) (show (Tryd.prog.globals[0]?).map (·.type) = some 115 by kernel_rfl) Tryd.underlying115 Tryd.underlying5 (by kernel_rfl) (by kernel_rfl) hL.tail
    intro j hj
    exact hI.cell (by kernel_rfl) j hj
  have hP : Lib.TabBelow Tryd.prog W.heap.size W "internal/strconv.uint64pow10" .u64 Lib.pow10Tab := by
    rw [MakeChecks.laidMetH_plain _ _ _ (by kernel_rfl)] at hL
    exact tabB (Lib.tabIs_of_head (k := .u64) (zs := Lib.pow10Tab) (rest := []) (show Tryd.prog.globalNamed "internal/strconv.uint64pow10" = some 1 by kernel_rfl) (show (Tryd.prog.globals[1]?).map (·.type) = some 122 by kernel_rfl) Tryd.underlying122 Tryd.underlying65 (by kernel_rfl) (by kernel_rfl) hL.tail.tail)
  refine (bitRound_walk s0 a0 n0 c0 x0 t1 W y0 o0 b0 e0 l0 g0 (by have := wf1; unfold maxLen at this; omega) hT hP).mono fun e W' ⟨he, bel⟩ => ?_
  subst he
  exact ⟨_, rfl, _, _, _, [], _, [], hW', trodAll_mk1 (shut_bool Tryd.underlying4 _), (trodAll_cons_mk (Below.trod law_laid (by kernel_rfl) (of_decide_eq_true (by kernel_rfl)) k0 bel lt0) (trodAll_cons_mk (ChangeMaps.shut_string Tryd.underlying9 wf1) trodAll_mk0)), rfl, bel.frame _, fun h => by cases h⟩

theorem bitRound_row : Rows.BitRoundSaid :=
  OpenClaim.holds_of_wide 7 Tryd.f7 rfl rfl rfl rfl rfl rfl rfl ⟨rfl, rfl, rfl, rfl, rfl⟩ rfl rfl rfl rfl rfl (by kernel_rfl) Tryd.func7 (by kernel_rfl)
    (of_decide_eq_true (by kernel_rfl)) (by unfold Func.isWrapper; first | (rw [if_pos (by decide +kernel)]; kernel_rfl) | (rw [if_neg (by decide +kernel)]; exact ⟨rfl, rfl⟩))
    (fun os started H enc _ => bitRound_lifted os started H enc)

theorem bitRound_holds : Rows.BitRoundCardSaid :=
  Claim7.holds_tied_plain_at .later [] [.data, .data, .data] true Rows.bitRoundCard.stood.harness false
    bitRound_row (fun _ h => by cases h) (by kernel_rfl) (fun _ h => by cases h) bitRound_row_tie rfl ⟨rfl, rfl⟩ (by kernel_rfl) rfl
    (fun f fn hf hfn => by
      obtain rfl : f = 7 := Option.some.inj ((show Tryd.prog.funcNamed "slope/slopelaw3.BitRound" = some 7 by kernel_rfl).symm.trans hf) |>.symm
      obtain rfl : fn = Tryd.f7 := (Option.some.inj (Tryd.func7.symm.trans hfn)).symm
      exact ⟨by kernel_rfl, fun j t ht => by
        rw [Tryd.params7] at ht
        have hm : t ∈ [35, 9] := by simpa using Array.mem_of_getElem? ht
        have hall : ([35, 9].all fun u => !Tryd.prog.wantsStandIn u) = true := by kernel_rfl
        exact (show Tryd.prog.wantsStandIn t = false by simpa using List.all_eq_true.1 hall t hm)⟩)
    (by kernel_rfl)
#print axioms bitRound_holds
end Go.Proofs.YtbendkndnojihabDoor
