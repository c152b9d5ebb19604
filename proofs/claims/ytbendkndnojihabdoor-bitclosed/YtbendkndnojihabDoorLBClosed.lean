/-
  THE LAW BitClosed: out of the contracts; the row's step.
-/
import Derived.Test.YtbendkndnojihabDoorLBCl1
import Derived.Test.YtbendkndnojihabDoorLBCl2
import Derived.Test.YtbendkndnojihabDoorBxj
import Derived.Test.YtbendkndnojihabDoorBl5
import Derived.Test.YtbendkndnojihabDoorBth
import Derived.Test.YtbendkndnojihabDoorBtg0
import Derived.Test.YtbendkndnojihabDoorBv1
import Derived.Test.YtbendkndnojihabDoorBzb
import Derived.Test.YtbendkndnojihabDoorCards
import Derived.Test.YtbendkndnojihabDoorTie
import Derived.SevenTiedAt
import Derived.LaidMore
import Derived.Stop.Joined
import Derived.Lib.LaidTab
namespace Go.Proofs.YtbendkndnojihabDoor
open Go.ChangeShapes Go.WideShapes Go.ChangeAt Go.RowKit Go.Deep
set_option linter.unusedVariables false

set_option maxRecDepth 100000 in
set_option maxHeartbeats 64000000 in
theorem bitClosed_yes (s_t : Int) (a_t : Option Addr) (n_t c_t : Nat) (x_t : List SetC) (s_other : Int) (a_other : Option Addr) (n_other c_other : Nat) (x_other : List SetC) (length : Int) (from_ : Int) (w : World) (h_t : SlS w a_t n_t c_t x_t) (o_t : ∀ e ∈ x_t, e.Arg) (b_t : n_t ≤ 4398046510976) (e_t : a_t = none → n_t = 0 ∧ c_t = 0) (hl_t : -9223372036854775808 ≤ s_t) (hh_t : s_t ≤ 9223372036854775807) (h_other : SlS w a_other n_other c_other x_other) (o_other : ∀ e ∈ x_other, e.Arg) (b_other : n_other ≤ 4398046510976) (e_other : a_other = none → n_other = 0 ∧ c_other = 0) (hl_other : -9223372036854775808 ≤ s_other) (hh_other : s_other ≤ 9223372036854775807) (hl_length : -9223372036854775808 ≤ length) (hh_length : length ≤ 9223372036854775807) (hl_from_ : -9223372036854775808 ≤ from_) (hh_from_ : from_ ≤ 9223372036854775807) (hT : Tab64 w) (hma : MayT s_t x_t = true) (hsq : s_t = (n_t : Int)) (hmo : MayT s_other x_other = true) (hso : s_other = (n_t : Int)) (hno : n_other = n_t) :
    Calls Tryd.prog 3 #[setV s_t a_t n_t c_t, setV s_other a_other n_other c_other, .int .i64 length, .int .i64 from_] w fun e w' => e = .returned (.bool true) ∧ Below w.heap.size w w' := by
  have A00 : Facts w w [] := ⟨Below.refl _ _, fun f hf => by cases hf⟩
  have A01 := A00.add (fS a_t n_t c_t x_t) h_t
  have L_t := hide h_t.len
  have hle_t := h_t.le
  have hcap_t := h_t.cap
  unfold maxLen at hcap_t
  have A02 := A01.add (fS a_other n_other c_other x_other) h_other
  have L_other := hide h_other.len
  have hle_other := h_other.le
  have hcap_other := h_other.cap
  unfold maxLen at hcap_other
  have A0 := hide A02
  have O_t := hide o_t
  have B_t := hide (And.intro hl_t hh_t)
  have O_other := hide o_other
  have B_other := hide (And.intro hl_other hh_other)
  have B_length := hide (And.intro hl_length hh_length)
  have B_from_ := hide (And.intro hl_from_ hh_from_)
  have HT := hide hT
  clear hT
  obtain ⟨st, rfl, P, gt⟩ := MayT.good hma (fun e he => (h_t.all e he).2)
  rw [h_t.len] at gt
  obtain rfl : n_t = st := by omega
  have G_t := hide gt
  have WY := hide (ways_of gt.zero gt.out)
  have hn4 := gt.hn
  clear gt hma hsq
  subst hso
  obtain rfl : n_t = n_other := hno.symm
  obtain ⟨so, hso, O, go⟩ := MayT.good hmo (fun e he => (h_other.all e he).2)
  obtain rfl : n_t = so := by omega
  rw [h_other.len] at go
  have G_other := hide go
  have M_o := hide hmo
  have q3 : ((n_t : Int) == (n_t : Int)) = true := by simp
  clear hmo hso go
  clear A00 A01 A02 h_t h_other o_t o_other e_t e_other hl_t hh_t hl_other hh_other hl_length hh_length hl_from_ hh_from_
  unfold setV
  go_enter Tryd.func3, Tryd.ntmps3
  obtain ⟨w1, hw1⟩ : ∃ x, w.alloc (.cells #[.int .i64 (n_t : Int), .slice a_t n_t c_t] 24) = x := ⟨_, rfl⟩
  have Aw1 := hide ((unhide A0).box (.int .i64 (n_t : Int)) (.slice a_t n_t c_t) 24)
  rw [hw1] at Aw1
  clear A0
  obtain ⟨w2, hw2⟩ : ∃ x, w1.alloc (.cells #[.int .i64 (n_t : Int), .slice a_other n_t c_other] 24) = x := ⟨_, rfl⟩
  have Aw2 := hide ((unhide Aw1).box (.int .i64 (n_t : Int)) (.slice a_other n_t c_other) 24)
  rw [hw2] at Aw2
  clear Aw1
  go_wp2_with fail
  have K := alive_any w2
  try unfold setV at K
  refine K.mono ?_
  clear K
  rintro _ w3 ⟨rfl, hb⟩
  have Aw3 := hide ((unhide Aw2).step hb)
  clear Aw2 hb
  have t4 := (unhide Aw3).t (w.heap.size) (.int .i64 (n_t : Int)) (.slice a_t n_t c_t) (.tail _ (.head _))
  have t4a := t4.c0
  have t4b := t4.c1
  clear t4
  go_wp2_with fail
  clear t4a t4b
  have Kw5 := closure_good n_t a_t c_t x_t P w3 ((unhide Aw3).ss (a_t) (n_t) c_t (x_t) (.tail _ (.tail _ (.tail _ (.head _))))) (unhide G_t)
  try unfold setV at Kw5
  refine Kw5.mono ?_
  clear Kw5
  rintro _ w5 ⟨a_c, c_c, x_c, rfl, hs, hk, hb⟩
  have G_c := hide ((unhide G_t).closure hk)
  have hle_c := hs.le
  have hcap_c := hs.cap
  unfold maxLen at hcap_c
  have Aw5 := hide (((unhide Aw3).step hb).add (fS a_c (n_t) c_c x_c) hs)
  clear Aw3 hs hb hk
  unfold setV
  obtain ⟨w6, hw6⟩ : ∃ x, w5.alloc (.cells #[.int .i64 (n_t : Int), .slice a_c n_t c_c] 24) = x := ⟨_, rfl⟩
  have Aw6 := hide ((unhide Aw5).box (.int .i64 (n_t : Int)) (.slice a_c n_t c_c) 24)
  rw [hw6] at Aw6
  clear Aw5
  have t7 := (unhide Aw6).t (w.heap.size) (.int .i64 (n_t : Int)) (.slice a_t n_t c_t) (.tail _ (.tail _ (.tail _ (.head _))))
  have t7a := t7.c0
  have t7b := t7.c1
  clear t7
  go_wp2_with fail
  clear t7a t7b
  have K := rmayT_any (n_t : Int) a_t n_t c_t x_t w6 ((unhide Aw6).ss (a_t) (n_t) c_t (x_t) (.tail _ (.tail _ (.tail _ (.tail _ (.tail _ (.head _)))))))
  rw [(unhide G_t).may] at K
  try unfold setV at K
  refine K.mono ?_
  clear K
  rintro _ w8 ⟨rfl, hb⟩
  have Aw8 := hide ((unhide Aw6).step hb)
  clear Aw6 hb
  have t9 := (unhide Aw8).t (w.heap.size) (.int .i64 (n_t : Int)) (.slice a_t n_t c_t) (.tail _ (.tail _ (.tail _ (.head _))))
  have t9a := t9.c0
  have t9b := t9.c1
  clear t9
  have t10 := (unhide Aw8).t (w5.heap.size) (.int .i64 (n_t : Int)) (.slice a_c n_t c_c) (.head _)
  have t10a := t10.c0
  have t10b := t10.c1
  clear t10
  go_wp2_with fail
  clear t9a t9b t10a t10b
  have Kw11 := product_good n_t n_t a_t c_t x_t P n_t a_c c_c x_c (waP P n_t) w8 ((unhide Aw8).ss (a_t) (n_t) c_t (x_t) (.tail _ (.tail _ (.tail _ (.tail _ (.tail _ (.head _))))))) ((unhide Aw8).ss (a_c) (n_t) c_c (x_c) (.tail _ (.head _))) (unhide G_t) (unhide G_c) ((unhide HT).below (unhide Aw8).bel)
  try unfold setV at Kw11
  refine Kw11.mono ?_
  clear Kw11
  rintro _ w11 ⟨a_p, c_p, x_p, rfl, hs, hk, hb⟩
  have G_p := hide ((unhide G_t).product (unhide G_c) hk)
  have hle_p := hs.le
  have hcap_p := hs.cap
  unfold maxLen at hcap_p
  have Aw11 := hide (((unhide Aw8).step hb).add (fS a_p (n_t) c_p x_p) hs)
  clear Aw8 hs hb hk
  unfold setV
  obtain ⟨w12, hw12⟩ : ∃ x, w11.alloc (.cells #[.int .i64 (n_t : Int), .slice a_p n_t c_p] 24) = x := ⟨_, rfl⟩
  have Aw12 := hide ((unhide Aw11).box (.int .i64 (n_t : Int)) (.slice a_p n_t c_p) 24)
  rw [hw12] at Aw12
  clear Aw11
  have t13 := (unhide Aw12).t (w5.heap.size) (.int .i64 (n_t : Int)) (.slice a_c n_t c_c) (.tail _ (.tail _ (.head _)))
  have t13a := t13.c0
  have t13b := t13.c1
  clear t13
  go_wp2_with fail
  clear t13a t13b
  have Kw14 := product_good n_t n_t a_c c_c x_c (waP P n_t) n_t a_c c_c x_c (waP P n_t) w12 ((unhide Aw12).ss (a_c) (n_t) c_c (x_c) (.tail _ (.tail _ (.tail _ (.head _))))) ((unhide Aw12).ss (a_c) (n_t) c_c (x_c) (.tail _ (.tail _ (.tail _ (.head _))))) (unhide G_c) (unhide G_c) ((unhide HT).below (unhide Aw12).bel)
  try unfold setV at Kw14
  refine Kw14.mono ?_
  clear Kw14
  rintro _ w14 ⟨a_q, c_q, x_q, rfl, hs, hk, hb⟩
  have G_q := hide ((unhide G_c).product (unhide G_c) hk)
  have hle_q := hs.le
  have hcap_q := hs.cap
  unfold maxLen at hcap_q
  have Aw14 := hide (((unhide Aw12).step hb).add (fS a_q (n_t) c_q x_q) hs)
  clear Aw12 hs hb hk
  unfold setV
  obtain ⟨w15, hw15⟩ : ∃ x, w14.alloc (.cells #[.int .i64 (n_t : Int), .slice a_q n_t c_q] 24) = x := ⟨_, rfl⟩
  have Aw15 := hide ((unhide Aw14).box (.int .i64 (n_t : Int)) (.slice a_q n_t c_q) 24)
  rw [hw15] at Aw15
  clear Aw14
  have t16 := (unhide Aw15).t (w5.heap.size) (.int .i64 (n_t : Int)) (.slice a_c n_t c_c) (.tail _ (.tail _ (.tail _ (.tail _ (.head _)))))
  have t16a := t16.c0
  have t16b := t16.c1
  clear t16
  go_wp2_with fail
  clear t16a t16b
  have Kw17 := closure_good n_t a_c c_c x_c (waP P n_t) w15 ((unhide Aw15).ss (a_c) (n_t) c_c (x_c) (.tail _ (.tail _ (.tail _ (.tail _ (.tail _ (.head _))))))) (unhide G_c)
  try unfold setV at Kw17
  refine Kw17.mono ?_
  clear Kw17
  rintro _ w17 ⟨a_d, c_d, x_d, rfl, hs, hk, hb⟩
  have G_d := hide ((unhide G_c).closure hk)
  have hle_d := hs.le
  have hcap_d := hs.cap
  unfold maxLen at hcap_d
  have Aw17 := hide (((unhide Aw15).step hb).add (fS a_d (n_t) c_d x_d) hs)
  clear Aw15 hs hb hk
  unfold setV
  obtain ⟨w18, hw18⟩ : ∃ x, w17.alloc (.cells #[.int .i64 (n_t : Int), .slice a_d n_t c_d] 24) = x := ⟨_, rfl⟩
  have Aw18 := hide ((unhide Aw17).box (.int .i64 (n_t : Int)) (.slice a_d n_t c_d) 24)
  rw [hw18] at Aw18
  clear Aw17
  go_wp2_with fail
  refine (num_any 0 w18).mono ?_
  rintro _ w' ⟨rfl, hw⟩
  obtain rfl := hw.symm
  go_wp2_with fail
  refine (num_any 0 w18).mono ?_
  rintro _ w' ⟨rfl, hw⟩
  obtain rfl := hw.symm
  go_wp2_with fail
  refine (num_any 0 w18).mono ?_
  rintro _ w' ⟨rfl, hw⟩
  obtain rfl := hw.symm
  go_wp2_with fail
  refine (num_any 0 w18).mono ?_
  rintro _ w' ⟨rfl, hw⟩
  obtain rfl := hw.symm
  have t19 := (unhide Aw18).t (w5.heap.size) (.int .i64 (n_t : Int)) (.slice a_c n_t c_c) (.tail _ (.tail _ (.tail _ (.tail _ (.tail _ (.tail _ (.head _)))))))
  have t19a := t19.c0
  have t19b := t19.c1
  clear t19
  have t20 := (unhide Aw18).t (w17.heap.size) (.int .i64 (n_t : Int)) (.slice a_d n_t c_d) (.head _)
  have t20a := t20.c0
  have t20b := t20.c1
  clear t20
  go_wp2_with fail
  clear t19a t19b t20a t20b
  have K := sameTable_eq (n_t : Int) (a_c) (a_d) n_t c_c c_d x_c x_d w18 ((unhide Aw18).ss (a_c) (n_t) c_c (x_c) (.tail _ (.tail _ (.tail _ (.tail _ (.tail _ (.tail _ (.tail _ (.head _))))))))) ((unhide Aw18).ss (a_d) (n_t) c_d (x_d) (.tail _ (.head _))) ((unhide G_d).key.trans ((congrArg (tabK n_t n_t) ((unhide WY).still n_t)).trans (unhide G_c).key.symm))
  try unfold setV at K
  refine K.mono ?_
  clear K
  rintro _ w21 ⟨rfl, hb⟩
  have Aw21 := hide ((unhide Aw18).step hb)
  clear Aw18 hb
  have t22 := (unhide Aw21).t (w5.heap.size) (.int .i64 (n_t : Int)) (.slice a_c n_t c_c) (.tail _ (.tail _ (.tail _ (.tail _ (.tail _ (.tail _ (.head _)))))))
  have t22a := t22.c0
  have t22b := t22.c1
  clear t22
  have t23 := (unhide Aw21).t (w.heap.size) (.int .i64 (n_t : Int)) (.slice a_t n_t c_t) (.tail _ (.tail _ (.tail _ (.tail _ (.tail _ (.tail _ (.tail _ (.tail _ (.tail _ (.head _))))))))))
  have t23a := t23.c0
  have t23b := t23.c1
  clear t23
  go_wp2_with fail
  clear t22a t22b t23a t23b
  go_loopw [17, 18, 19] (fun i _ _ wr => ∃ k : Nat, k ≤ n_t ∧ i = .int .i64 k ∧ Below w21.heap.size w21 wr) (fun i _ _ _ => n_t - (intOf i).toNat)
  case atStart => exact ⟨0, Nat.zero_le _, rfl, Below.refl _ _⟩
  case round =>
    obtain ⟨k, hk, rfl, hbl⟩ := hrel
    obtain ⟨W1, hW1⟩ : ∃ W1, W1 = wr := ⟨_, rfl⟩
    subst hW1
    have AR := hide (((unhide Aw21).step hbl).add (fBel w21) hbl)
    clear hbl
    by_cases hlt : k < n_t
    · have hlt' : (k : Int) < (n_t : Int) := by omega
      have hS_1 := ((unhide AR).ss (a_t) (n_t) c_t (x_t) (.tail _ (.tail _ (.tail _ (.tail _ (.tail _ (.tail _ (.tail _ (.tail _ (.tail _ (.tail _ (.tail _ (.tail _ (.head _))))))))))))))
      obtain ⟨b_1, o_1, rfl, hc_1⟩ := hS_1.at (by omega)
      have g1_1 := (hc_1 k hlt).1
      have g2_1 := (hc_1 k hlt).2
      have i_1 := (hS_1.get k hlt).1
      have gg_1 := (unhide G_t).get k hlt
      generalize x_t.getD k .nul = e_1 at *
      obtain ⟨es_1, ea_1, en_1, ec_1, ex_1⟩ := e_1
      simp only at g1_1 g2_1 gg_1
      obtain ⟨rfl, rfl⟩ := gg_1
      clear hc_1 hS_1
      have hS_2 := ((unhide AR).ss (a_p) (n_t) c_p (x_p) (.tail _ (.tail _ (.tail _ (.tail _ (.tail _ (.tail _ (.head _))))))))
      obtain ⟨b_2, o_2, rfl, hc_2⟩ := hS_2.at (by omega)
      have g1_2 := (hc_2 k hlt).1
      have g2_2 := (hc_2 k hlt).2
      have i_2 := (hS_2.get k hlt).1
      have gg_2 := (unhide G_p).get k hlt
      generalize x_p.getD k .nul = e_2 at *
      obtain ⟨es_2, ea_2, en_2, ec_2, ex_2⟩ := e_2
      simp only at g1_2 g2_2 gg_2
      obtain ⟨rfl, rfl⟩ := gg_2
      clear hc_2 hS_2
      have t24 := (unhide AR).t (w.heap.size) (.int .i64 (n_t : Int)) (.slice (some ⟨b_1, o_1, none⟩) n_t c_t) (.tail _ (.tail _ (.tail _ (.tail _ (.tail _ (.tail _ (.tail _ (.tail _ (.tail _ (.tail _ (.head _)))))))))))
      have t24a := t24.c0
      have t24b := t24.c1
      clear t24
      have t25 := (unhide AR).t (w11.heap.size) (.int .i64 (n_t : Int)) (.slice (some ⟨b_2, o_2, none⟩) n_t c_p) (.tail _ (.tail _ (.tail _ (.tail _ (.tail _ (.head _))))))
      have t25a := t25.c0
      have t25b := t25.c1
      clear t25
      have HKM := hide (fun (w' : World) (b : Nat) (hb : Below W1.heap.size W1 w') k0 k1 k2 k3 => union_two (n := n_t) (X := (wordsL n_t (waP P n_t k))) i_1 i_2 (Good.mk' (fun x hx => (unhide G_t).zero k x hx) hn4) (Good.mk' (fun x hx => (unhide G_p).zero k x hx) hn4) (words_eq (fun x _ => (unhide WY).one k x)) w' b hb k0 k1 k2 k3)
      have q0 : w.heap.size < W1.heap.size := World.block_lt_of_cell? _ _ t24a
      have n0 : w.heap.size ≠ W1.heap.size := by omega
      have m0 : w.heap.size ≠ W1.heap.size + 1 := by omega
      have q1 : w11.heap.size < W1.heap.size := World.block_lt_of_cell? _ _ t25b
      have n1 : w11.heap.size ≠ W1.heap.size := by omega
      have m1 : w11.heap.size ≠ W1.heap.size + 1 := by omega
      have q2 : b_1 < W1.heap.size := World.block_lt_of_cell? _ _ g1_1
      have n2 : b_1 ≠ W1.heap.size := by omega
      have m2 : b_1 ≠ W1.heap.size + 1 := by omega
      have q3 : b_2 < W1.heap.size := World.block_lt_of_cell? _ _ g1_2
      have n3 : b_2 ≠ W1.heap.size := by omega
      have m3 : b_2 ≠ W1.heap.size + 1 := by omega
      have hki : (0 : Int) ≤ (k : Int) := by omega
      go_wp2_with fail
      go_region_held3 (fun w' => w'.cell? ⟨w.heap.size, 0, none⟩ = some (.int .i64 (n_t : Int)) ∧ w'.cell? ⟨w.heap.size, 1, none⟩ = some (.slice (some ⟨b_1, o_1, none⟩) n_t c_t) ∧ w'.cell? ⟨w11.heap.size, 1, none⟩ = some (.slice (some ⟨b_2, o_2, none⟩) n_t c_p) ∧ w'.cell? ⟨b_1, o_1 + k * 2, none⟩ = some (.int .i64 (n_t : Int)) ∧ w'.cell? ⟨b_1, o_1 + k * 2 + 1, none⟩ = some (.slice ea_1 en_1 ec_1) ∧ w'.cell? ⟨b_2, o_2 + k * 2, none⟩ = some (.int .i64 (n_t : Int)) ∧ w'.cell? ⟨b_2, o_2 + k * 2 + 1, none⟩ = some (.slice ea_2 en_2 ec_2)) (first | go_keep | (refine ⟨?_, ?_, ?_, ?_, ?_, ?_, ?_⟩ <;> (rw [set2_other _ _ _ _ _ _ (by assumption)]; assumption)))
        (first | (go_at_call 14; refine (unhide HKM _ _ (by first | exact bel_one _ _ | exact bel_both _ _ _) (by simp) (by simp) (by simp) (by simp)).mono ?_; rintro _ wy ⟨ay, ny, cy, rfl, hs5, hb5, hq5, ho5⟩; have u0 := below_cell hq5 t24a; have u1 := below_cell hq5 t24b; have u2 := below_cell hq5 t25b; have u3 := below_cell hq5 g1_1; have u4 := below_cell hq5 g2_1; have u5 := below_cell hq5 g1_2; have u6 := below_cell hq5 g2_2; have H5 := hide (And.intro hs5 (And.intro hb5 (And.intro hq5 ho5))); have q5 := hq5.size; have v0 : w.heap.size < wy.heap.size := (by omega); have v1 : w11.heap.size < wy.heap.size := (by omega); have v2 : b_1 < wy.heap.size := (by omega); have v3 : b_2 < wy.heap.size := (by omega); (first | (have tb := box_first hb5; have k0 := tb.c0; have k1 := tb.c1; have k2 := tb.f0; have k3 := tb.f1; clear tb) | (have tb := box_then hb5; have k0 := tb.c0; have k1 := tb.c1; have k2 := tb.f0; have k3 := tb.f1; clear tb) | (have aa := box_none W1 hb5; clear aa)); clear hs5 hb5 hq5 ho5))
      all_goals
        first
        | (obtain ⟨wz, hz⟩ : ∃ x, wy.alloc (.cells #[.int .i64 (n_t : Int), .slice ay ny cy] 35) = x := ⟨_, rfl⟩
           rw [hz]
           obtain ⟨hs5, hb5, hq5, ho5⟩ := unhide H5
           have hbz : Below wy.heap.size wy wz := (by rw [← hz]; exact (Below.refl _ _).alloc (Nat.le_refl _) _)
           have hqz := hq5.trans (hbz.mono hq5.size)
           have TZ := hide (show Two wz wy.heap.size (.int .i64 (n_t : Int)) (.slice ay ny cy) from (by rw [← hz]; exact Two.made _ _ _ _))
           have SZ := hide (hs5.below hbz)
           obtain ⟨Y, hY⟩ : ∃ y, wy.heap.size = y := ⟨_, rfl⟩
           rw [hY] at TZ ⊢
           have OZ := hide ho5
           have QZ := hide hqz
           have AZ := hide ((unhide AR).step hqz)
           clear hs5 hq5 ho5 hqz hz hY H5 q5 v0 v1 v2 v3 u0 u1 u2 u3 u4 u5 u6 hb5 hbz)
        | (obtain ⟨wz, hz⟩ : ∃ x, (wy.setCell ⟨W1.heap.size, 0, none⟩ (.int .i64 (n_t : Int))).setCell ⟨W1.heap.size, 1, none⟩ (.slice ay ny cy) = x := ⟨_, rfl⟩
           rw [hz]
           obtain ⟨hs5, hb5, hq5, ho5⟩ := unhide H5
           have t5 : Two wy (W1.heap.size) (.int .i64 0) (.slice none 0 0) := ⟨k0, k1, k2, k3⟩
           have hqz : Below W1.heap.size W1 wz := (by rw [← hz]; exact two_below hq5 _ (by omega) _ _)
           have TZ := hide (show Two wz (W1.heap.size) (.int .i64 (n_t : Int)) (.slice ay ny cy) from (by rw [← hz]; exact t5.set _ _))
           have SZ := hide (show SlW wz ay ny cy (wordsL n_t (waP P n_t k)) from (by rw [← hz]; exact SlW.two hs5 t5 _ _))
           obtain ⟨Y, hY⟩ : ∃ y, W1.heap.size = y := ⟨_, rfl⟩
           rw [hY] at TZ ⊢
           have OZ := hide ho5
           have QZ := hide hqz
           have AZ := hide ((unhide AR).step hqz)
           clear hs5 hq5 ho5 hqz hz hY H5 q5 v0 v1 v2 v3 u0 u1 u2 u3 u4 u5 u6 hb5 t5 k0 k1 k2 k3)
        | (obtain ⟨wz, hz⟩ : ∃ x, (wy.setCell ⟨W1.heap.size + 1, 0, none⟩ (.int .i64 (n_t : Int))).setCell ⟨W1.heap.size + 1, 1, none⟩ (.slice ay ny cy) = x := ⟨_, rfl⟩
           rw [hz]
           obtain ⟨hs5, hb5, hq5, ho5⟩ := unhide H5
           have t5 : Two wy (W1.heap.size + 1) (.int .i64 0) (.slice none 0 0) := ⟨k0, k1, k2, k3⟩
           have hqz : Below W1.heap.size W1 wz := (by rw [← hz]; exact two_below hq5 _ (by omega) _ _)
           have TZ := hide (show Two wz (W1.heap.size + 1) (.int .i64 (n_t : Int)) (.slice ay ny cy) from (by rw [← hz]; exact t5.set _ _))
           have SZ := hide (show SlW wz ay ny cy (wordsL n_t (waP P n_t k)) from (by rw [← hz]; exact SlW.two hs5 t5 _ _))
           obtain ⟨Y, hY⟩ : ∃ y, W1.heap.size + 1 = y := ⟨_, rfl⟩
           rw [hY] at TZ ⊢
           have OZ := hide ho5
           have QZ := hide hqz
           have AZ := hide ((unhide AR).step hqz)
           clear hs5 hq5 ho5 hqz hz hY H5 q5 v0 v1 v2 v3 u0 u1 u2 u3 u4 u5 u6 hb5 t5 k0 k1 k2 k3)
      all_goals
        clear t24a t24b t25a t25b q0 q1 q2 q3 n0 n1 n2 n3 m0 m1 m2 m3 HKM g1_1 g2_1 i_1 g1_2 g2_2 i_2
        have hS_3 := ((unhide AZ).ss (a_c) (n_t) c_c (x_c) (.tail _ (.tail _ (.tail _ (.tail _ (.tail _ (.tail _ (.tail _ (.tail _ (.head _))))))))))
        obtain ⟨b_3, o_3, rfl, hc_3⟩ := hS_3.at (by omega)
        have g1_3 := (hc_3 k hlt).1
        have g2_3 := (hc_3 k hlt).2
        have i_3 := (hS_3.get k hlt).1
        have gg_3 := (unhide G_c).get k hlt
        generalize x_c.getD k .nul = e_3 at *
        obtain ⟨es_3, ea_3, en_3, ec_3, ex_3⟩ := e_3
        simp only at g1_3 g2_3 gg_3
        obtain ⟨rfl, rfl⟩ := gg_3
        clear hc_3 hS_3
        have hS_4 := ((unhide AZ).ss (a_q) (n_t) c_q (x_q) (.tail _ (.tail _ (.tail _ (.tail _ (.head _))))))
        obtain ⟨b_4, o_4, rfl, hc_4⟩ := hS_4.at (by omega)
        have g1_4 := (hc_4 k hlt).1
        have g2_4 := (hc_4 k hlt).2
        have i_4 := (hS_4.get k hlt).1
        have gg_4 := (unhide G_q).get k hlt
        generalize x_q.getD k .nul = e_4 at *
        obtain ⟨es_4, ea_4, en_4, ec_4, ex_4⟩ := e_4
        simp only at g1_4 g2_4 gg_4
        obtain ⟨rfl, rfl⟩ := gg_4
        clear hc_4 hS_4
        have hfn : en_3 = ny := by have x1 := i_3.len; have x2 := (unhide SZ).len; simp only at x1 x2; omega
        subst hfn
        have one0 := (unhide TZ).c0
        have one1 := (unhide TZ).c1
        have t26 := (unhide AZ).t (w5.heap.size) (.int .i64 (n_t : Int)) (.slice (some ⟨b_3, o_3, none⟩) n_t c_c) (.tail _ (.tail _ (.tail _ (.tail _ (.tail _ (.tail _ (.tail _ (.head _))))))))
        have t26a := t26.c0
        have t26b := t26.c1
        clear t26
        have t27 := (unhide AZ).t (w14.heap.size) (.int .i64 (n_t : Int)) (.slice (some ⟨b_4, o_4, none⟩) n_t c_q) (.tail _ (.tail _ (.tail _ (.head _))))
        have t27a := t27.c0
        have t27b := t27.c1
        clear t27
        have F_one0 := fun x : Ext wz => x.cell one0
        have F_one1 := fun x : Ext wz => x.cell one1
        have F_t26b := fun x : Ext wz => x.cell t26b
        have F_t27b := fun x : Ext wz => x.cell t27b
        have F_g1_3 := fun x : Ext wz => x.cell g1_3
        have F_g2_3 := fun x : Ext wz => x.cell g2_3
        have F_g1_4 := fun x : Ext wz => x.cell g1_4
        have F_g2_4 := fun x : Ext wz => x.cell g2_4
        have hNE := Ext.ne wz
        have K := fun x : Ext wz => (num_any 0 x.w).mono (fun e w' (h : _ ∧ _) => (⟨h.1, by rw [h.2]; exact Below.refl _ _⟩ : _ ∧ Below x.w.heap.size x.w w'))
        try unfold setV at K
        have HKE0 := hide K
        clear K
        have K := fun x : Ext wz => same_eq (n_t : Int) ay ea_3 en_3 cy ec_3 (wordsL n_t (waP P n_t k)) x.w ((unhide SZ).below x.bel) (i_3.below x.bel)
        try unfold setV at K
        have HKE1 := hide K
        clear K
        have K := fun x : Ext wz => subset_any (n_t : Int) ea_4 en_4 ec_4 _ (n_t : Int) ea_3 en_3 ec_3 _ x.w (i_4.below x.bel) (i_3.below x.bel) (Good.mk' (fun x hx => (unhide G_q).zero k x hx) hn4).ok (Good.mk' (fun x hx => (unhide G_c).zero k x hx) hn4).ok
        rw [subset_good (Good.mk' (fun x hx => (unhide G_q).zero k x hx) hn4) (Good.mk' (fun x hx => (unhide G_c).zero k x hx) hn4) (fun x hx => (unhide WY).two k x hx)] at K
        try unfold setV at K
        have HKE2 := hide K
        clear K
        go_wp2_with fail
        clear one0 one1 t26b t27b g1_3 g2_3 g1_4 g2_4
        refine wp_region_ext (by kernel_rfl) (by kernel_rfl) ?_
        repeat (go_big_quiet_step (first
          | (go_at_call 11; rename_i x; exact Ext.call (unhide HKE0 x) (fun e w' h => h))
          | (go_at_call 15; rename_i x; exact Ext.call (unhide HKE1 x) (fun e w' h => h))
          | (go_at_call 16; rename_i x; exact Ext.call (unhide HKE2 x) (fun e w' h => h))))
        refine wpQuiet_nil ?_
        rintro _ ⟨xe, rfl⟩
        clear F_one0 F_one1 F_t26b F_t27b F_g1_3 F_g2_3 F_g1_4 F_g2_4 HKE0 HKE1 HKE2
        have AX := hide ((unhide AZ).step xe.bel)
        go_wp2_with fail
        exact ⟨⟨k + 1, by omega, by go_num, (unhide AX).all _ (.head _)⟩, by simp [intOf]; omega⟩
    · have hlt' : ¬ (k : Int) < (n_t : Int) := by omega
      obtain rfl : n_t = k := by omega
      have t28 := (unhide AR).t (w1.heap.size) (.int .i64 (n_t : Int)) (.slice a_other n_t c_other) (.tail _ (.tail _ (.tail _ (.tail _ (.tail _ (.tail _ (.tail _ (.tail _ (.tail _ (.head _))))))))))
      have t28a := t28.c0
      have t28b := t28.c1
      clear t28
      have t29 := (unhide AR).t (w.heap.size) (.int .i64 (n_t : Int)) (.slice a_t n_t c_t) (.tail _ (.tail _ (.tail _ (.tail _ (.tail _ (.tail _ (.tail _ (.tail _ (.tail _ (.tail _ (.head _)))))))))))
      have t29a := t29.c0
      have t29b := t29.c1
      clear t29
      go_wp2_with fail
      clear t28a t28b t29a t29b
      have K := rmayT_any (n_t : Int) a_other n_t c_other x_other W1 ((unhide AR).ss (a_other) (n_t) c_other (x_other) (.tail _ (.tail _ (.tail _ (.tail _ (.tail _ (.tail _ (.tail _ (.tail _ (.tail _ (.tail _ (.tail _ (.head _)))))))))))))
      rw [unhide M_o] at K
      try unfold setV at K
      refine K.mono ?_
      clear K
      rintro _ w30 ⟨rfl, hb⟩
      have Aw30 := hide ((unhide AR).step hb)
      clear AR hb
      obtain ⟨i24, hi, hz, hs, hb⟩ := info_parts Tryd.info_set
      have HInf := hide (And.intro hi (And.intro hz (And.intro hs hb)))
      clear hi hz hs hb
      have t31 := (unhide Aw30).t (w1.heap.size) (.int .i64 (n_t : Int)) (.slice a_other n_t c_other) (.tail _ (.tail _ (.tail _ (.tail _ (.tail _ (.tail _ (.tail _ (.tail _ (.tail _ (.head _))))))))))
      have t31a := t31.c0
      have t31b := t31.c1
      clear t31
      have t32 := (unhide Aw30).t (w.heap.size) (.int .i64 (n_t : Int)) (.slice a_t n_t c_t) (.tail _ (.tail _ (.tail _ (.tail _ (.tail _ (.tail _ (.tail _ (.tail _ (.tail _ (.tail _ (.head _)))))))))))
      have t32a := t32.c0
      have t32b := t32.c1
      clear t32
      go_wp2_with fail
      clear t31a t31b t32a t32b
      go_loopw [21, 20, 22, 23] (fun i v _ _ wr => ∃ (k : Nat) (T : List SetC), k ≤ n_t ∧ i = .int .i64 k ∧ T.length = k ∧ T.map SetC.key = tabK n_t k (fun i j => P i j || O i j) ∧ GrT w30 wr v T) (fun i _ _ _ _ => n_t - (intOf i).toNat)
      case atStart => exact ⟨0, [], Nat.zero_le _, rfl, rfl, rfl, GrT.start w30⟩
      case round =>
        obtain ⟨k, T, hk, rfl, hl, hkey, hst⟩ := hrel
        obtain ⟨W3, hW3⟩ : ∃ W3, W3 = wr := ⟨_, rfl⟩
        subst hW3
        have AR2 := hide ((unhide Aw30).step hst.bel)
        have HS := hide hst
        have HKey := hide (And.intro hl hkey)
        have hbase := hst.bel.size
        clear hst hkey hl
        by_cases hlt : k < n_t
        · have hlt' : (k : Int) < (n_t : Int) := by omega
          have hS_1 := ((unhide AR2).ss (a_t) (n_t) c_t (x_t) (.tail _ (.tail _ (.tail _ (.tail _ (.tail _ (.tail _ (.tail _ (.tail _ (.tail _ (.tail _ (.tail _ (.tail _ (.head _))))))))))))))
          obtain ⟨b_1, o_1, rfl, hc_1⟩ := hS_1.at (by omega)
          have g1_1 := (hc_1 k hlt).1
          have g2_1 := (hc_1 k hlt).2
          have i_1 := (hS_1.get k hlt).1
          have gg_1 := (unhide G_t).get k hlt
          generalize x_t.getD k .nul = e_1 at *
          obtain ⟨es_1, ea_1, en_1, ec_1, ex_1⟩ := e_1
          simp only at g1_1 g2_1 gg_1
          obtain ⟨rfl, rfl⟩ := gg_1
          clear hc_1 hS_1
          have hS_2 := ((unhide AR2).ss (a_other) (n_t) c_other (x_other) (.tail _ (.tail _ (.tail _ (.tail _ (.tail _ (.tail _ (.tail _ (.tail _ (.tail _ (.tail _ (.tail _ (.head _)))))))))))))
          obtain ⟨b_2, o_2, rfl, hc_2⟩ := hS_2.at (by omega)
          have g1_2 := (hc_2 k hlt).1
          have g2_2 := (hc_2 k hlt).2
          have i_2 := (hS_2.get k hlt).1
          have gg_2 := (unhide G_other).get k hlt
          generalize x_other.getD k .nul = e_2 at *
          obtain ⟨es_2, ea_2, en_2, ec_2, ex_2⟩ := e_2
          simp only at g1_2 g2_2 gg_2
          obtain ⟨rfl, rfl⟩ := gg_2
          clear hc_2 hS_2
          have t33 := (unhide AR2).t (w.heap.size) (.int .i64 (n_t : Int)) (.slice (some ⟨b_1, o_1, none⟩) n_t c_t) (.tail _ (.tail _ (.tail _ (.tail _ (.tail _ (.tail _ (.tail _ (.tail _ (.tail _ (.tail _ (.head _)))))))))))
          have t33a := t33.c0
          have t33b := t33.c1
          clear t33
          have t34 := (unhide AR2).t (w1.heap.size) (.int .i64 (n_t : Int)) (.slice (some ⟨b_2, o_2, none⟩) n_t c_other) (.tail _ (.tail _ (.tail _ (.tail _ (.tail _ (.tail _ (.tail _ (.tail _ (.tail _ (.head _))))))))))
          have t34a := t34.c0
          have t34b := t34.c1
          clear t34
          have HKM := hide (fun (w' : World) (b : Nat) (hb : Below W3.heap.size W3 w') k0 k1 k2 k3 => union_two (n := n_t) (X := (wordsL n_t (fun x => P k x || O k x))) i_1 i_2 (Good.mk' (fun x hx => (unhide G_t).zero k x hx) hn4) (Good.mk' (fun x hx => (unhide G_other).zero k x hx) hn4) rfl w' b hb k0 k1 k2 k3)
          have q0 : w.heap.size < W3.heap.size := World.block_lt_of_cell? _ _ t33a
          have n0 : w.heap.size ≠ W3.heap.size := by omega
          have m0 : w.heap.size ≠ W3.heap.size + 1 := by omega
          have q1 : w1.heap.size < W3.heap.size := World.block_lt_of_cell? _ _ t34b
          have n1 : w1.heap.size ≠ W3.heap.size := by omega
          have m1 : w1.heap.size ≠ W3.heap.size + 1 := by omega
          have q2 : b_1 < W3.heap.size := World.block_lt_of_cell? _ _ g1_1
          have n2 : b_1 ≠ W3.heap.size := by omega
          have m2 : b_1 ≠ W3.heap.size + 1 := by omega
          have q3 : b_2 < W3.heap.size := World.block_lt_of_cell? _ _ g1_2
          have n3 : b_2 ≠ W3.heap.size := by omega
          have m3 : b_2 ≠ W3.heap.size + 1 := by omega
          have hki : (0 : Int) ≤ (k : Int) := by omega
          go_wp2_with fail
          go_region_held3 (fun w' => w'.cell? ⟨w.heap.size, 0, none⟩ = some (.int .i64 (n_t : Int)) ∧ w'.cell? ⟨w.heap.size, 1, none⟩ = some (.slice (some ⟨b_1, o_1, none⟩) n_t c_t) ∧ w'.cell? ⟨w1.heap.size, 1, none⟩ = some (.slice (some ⟨b_2, o_2, none⟩) n_t c_other) ∧ w'.cell? ⟨b_1, o_1 + k * 2, none⟩ = some (.int .i64 (n_t : Int)) ∧ w'.cell? ⟨b_1, o_1 + k * 2 + 1, none⟩ = some (.slice ea_1 en_1 ec_1) ∧ w'.cell? ⟨b_2, o_2 + k * 2, none⟩ = some (.int .i64 (n_t : Int)) ∧ w'.cell? ⟨b_2, o_2 + k * 2 + 1, none⟩ = some (.slice ea_2 en_2 ec_2)) (first | go_keep | (refine ⟨?_, ?_, ?_, ?_, ?_, ?_, ?_⟩ <;> (rw [set2_other _ _ _ _ _ _ (by assumption)]; assumption)))
            (first | (go_at_call 14; refine (unhide HKM _ _ (by first | exact bel_one _ _ | exact bel_both _ _ _) (by simp) (by simp) (by simp) (by simp)).mono ?_; rintro _ wy ⟨ay, ny, cy, rfl, hs5, hb5, hq5, ho5⟩; have u0 := below_cell hq5 t33a; have u1 := below_cell hq5 t33b; have u2 := below_cell hq5 t34b; have u3 := below_cell hq5 g1_1; have u4 := below_cell hq5 g2_1; have u5 := below_cell hq5 g1_2; have u6 := below_cell hq5 g2_2; have H5 := hide (And.intro hs5 (And.intro hb5 (And.intro hq5 ho5))); have q5 := hq5.size; have v0 : w.heap.size < wy.heap.size := (by omega); have v1 : w1.heap.size < wy.heap.size := (by omega); have v2 : b_1 < wy.heap.size := (by omega); have v3 : b_2 < wy.heap.size := (by omega); (first | (have tb := box_first hb5; have k0 := tb.c0; have k1 := tb.c1; have k2 := tb.f0; have k3 := tb.f1; clear tb) | (have tb := box_then hb5; have k0 := tb.c0; have k1 := tb.c1; have k2 := tb.f0; have k3 := tb.f1; clear tb) | (have aa := box_none W3 hb5; clear aa)); clear hs5 hb5 hq5 ho5))
          all_goals
            first
            | (obtain ⟨wz, hz⟩ : ∃ x, wy.alloc (.cells #[.int .i64 (n_t : Int), .slice ay ny cy] 35) = x := ⟨_, rfl⟩
               rw [hz]
               obtain ⟨hs5, hb5, hq5, ho5⟩ := unhide H5
               have hbz : Below wy.heap.size wy wz := (by rw [← hz]; exact (Below.refl _ _).alloc (Nat.le_refl _) _)
               have hqz := hq5.trans (hbz.mono hq5.size)
               have TZ := hide (show Two wz wy.heap.size (.int .i64 (n_t : Int)) (.slice ay ny cy) from (by rw [← hz]; exact Two.made _ _ _ _))
               have SZ := hide (hs5.below hbz)
               obtain ⟨Y, hY⟩ : ∃ y, wy.heap.size = y := ⟨_, rfl⟩
               rw [hY] at TZ ⊢
               have OZ := hide ho5
               have QZ := hide hqz
               have AZ := hide ((unhide AR2).step hqz)
               clear hs5 hq5 ho5 hqz hz hY H5 q5 v0 v1 v2 v3 u0 u1 u2 u3 u4 u5 u6 hb5 hbz)
            | (obtain ⟨wz, hz⟩ : ∃ x, (wy.setCell ⟨W3.heap.size, 0, none⟩ (.int .i64 (n_t : Int))).setCell ⟨W3.heap.size, 1, none⟩ (.slice ay ny cy) = x := ⟨_, rfl⟩
               rw [hz]
               obtain ⟨hs5, hb5, hq5, ho5⟩ := unhide H5
               have t5 : Two wy (W3.heap.size) (.int .i64 0) (.slice none 0 0) := ⟨k0, k1, k2, k3⟩
               have hqz : Below W3.heap.size W3 wz := (by rw [← hz]; exact two_below hq5 _ (by omega) _ _)
               have TZ := hide (show Two wz (W3.heap.size) (.int .i64 (n_t : Int)) (.slice ay ny cy) from (by rw [← hz]; exact t5.set _ _))
               have SZ := hide (show SlW wz ay ny cy (wordsL n_t (fun x => P k x || O k x)) from (by rw [← hz]; exact SlW.two hs5 t5 _ _))
               obtain ⟨Y, hY⟩ : ∃ y, W3.heap.size = y := ⟨_, rfl⟩
               rw [hY] at TZ ⊢
               have OZ := hide ho5
               have QZ := hide hqz
               have AZ := hide ((unhide AR2).step hqz)
               clear hs5 hq5 ho5 hqz hz hY H5 q5 v0 v1 v2 v3 u0 u1 u2 u3 u4 u5 u6 hb5 t5 k0 k1 k2 k3)
            | (obtain ⟨wz, hz⟩ : ∃ x, (wy.setCell ⟨W3.heap.size + 1, 0, none⟩ (.int .i64 (n_t : Int))).setCell ⟨W3.heap.size + 1, 1, none⟩ (.slice ay ny cy) = x := ⟨_, rfl⟩
               rw [hz]
               obtain ⟨hs5, hb5, hq5, ho5⟩ := unhide H5
               have t5 : Two wy (W3.heap.size + 1) (.int .i64 0) (.slice none 0 0) := ⟨k0, k1, k2, k3⟩
               have hqz : Below W3.heap.size W3 wz := (by rw [← hz]; exact two_below hq5 _ (by omega) _ _)
               have TZ := hide (show Two wz (W3.heap.size + 1) (.int .i64 (n_t : Int)) (.slice ay ny cy) from (by rw [← hz]; exact t5.set _ _))
               have SZ := hide (show SlW wz ay ny cy (wordsL n_t (fun x => P k x || O k x)) from (by rw [← hz]; exact SlW.two hs5 t5 _ _))
               obtain ⟨Y, hY⟩ : ∃ y, W3.heap.size + 1 = y := ⟨_, rfl⟩
               rw [hY] at TZ ⊢
               have OZ := hide ho5
               have QZ := hide hqz
               have AZ := hide ((unhide AR2).step hqz)
               clear hs5 hq5 ho5 hqz hz hY H5 q5 v0 v1 v2 v3 u0 u1 u2 u3 u4 u5 u6 hb5 t5 k0 k1 k2 k3)
          all_goals
            obtain ⟨t, ht⟩ : ∃ t : SetC, t = ⟨(n_t : Int), ay, ny, cy, (wordsL n_t (fun x => P k x || O k x))⟩ := ⟨_, rfl⟩
            have HZ := hide (show t.Z wz from by rw [ht]; exact ⟨⟨unhide SZ, (Good.mk' (fun x hx => by rw [(unhide G_t).zero k x hx, (unhide G_other).zero k x hx]; rfl) hn4).ok⟩, unhide OZ⟩)
            have HO1 := hide (((unhide HS).below (unhide QZ)).below ((Below.refl wz.heap.size wz).alloc (Nat.le_refl _) (.cells #[.int .i64 (n_t : Int), .slice ay ny cy] 35))).own
            have HSt := hide (fun (w3 : World) (v2 : Value) hnz hg hown => (unhide HS).step (w1 := wz) (w2 := w3) (v2 := v2) (t := t) (unhide QZ) (unhide HZ) hnz hg hown)
            rw [ht] at HSt
            simp only at HSt
            rw [(unhide HKey).1] at HO1 HSt
            have HK2 := hide (tabK_snoc (t := t) (unhide HKey).2 (by rw [ht]; rfl))
            rw [ht] at HK2
            have hl2 : w30.heap.size ≤ wz.heap.size := by have := (unhide QZ).size; omega
            have HL := hide (unhide HKey).1
            have one0 := (unhide TZ).c0
            have one1 := (unhide TZ).c1
            clear t33a t33b t34a t34b q0 q1 q2 q3 n0 n1 n2 n3 m0 m1 m2 m3 HKM g1_1 g2_1 i_1 g1_2 g2_2 i_2 HZ HKey ht HS
            go_wp2_with fail
            refine (num_any 0 wz).mono ?_
            rintro _ w' ⟨rfl, hw⟩
            obtain rfl := hw.symm
            go_wp2_with (at_builtin; refine wpList_append_lies _ rfl _ _ 22 rfl w30.heap.size 35 i24 (.agg #[.int .i64 0, .slice none 0 0]) 2 32 Tryd.underlying22 (unhide HInf).1 (unhide HInf).2.1 (unhide HInf).2.2.1 (unhide HInf).2.2.2 rfl (by decide) _ k (flatS T) rfl (unhide HO1) ⟨wz.heap.size, 0, none⟩ 1 1 [.int .i64 (n_t : Int), .slice ay ny cy] rfl rfl (World.news_of_block (alloc_block _ _)) ?c21 (by decide) ?c31 ?c41 ?c51 (wz.heap.size + 1) (by simp) ?_)
            case c21 => first | (intro u hu; simp at hu; rcases hu with rfl | rfl <;> rfl) | exact ⟨rfl, rfl⟩
            case c31 => unfold maxLen; omega
            case c41 => omega
            case c51 => first | omega | (simp; omega)
            intro gg cap w3 hown hg hat hlt2
            have HS2 := hide (unhide HSt w3 _ (by intro h; cases h) hg hown)
            clear hown hg hat hlt2 HO1 HSt one0 one1
            go_wp2_with fail
            exact ⟨⟨k + 1, _, by omega, by go_num, by rw [List.length_append, unhide HL]; rfl, unhide HK2, unhide HS2⟩, by simp [intOf]; omega⟩
        · have hlt' : ¬ (k : Int) < (n_t : Int) := by omega
          obtain rfl : n_t = k := by omega
          obtain ⟨a_l, c_l, rfl, hsl⟩ := (unhide HS).sl (by rw [(unhide HKey).1]; unfold maxLen; omega)
          rw [(unhide HKey).1] at hsl ⊢
          have GL := hide (show GoodT n_t n_t T (fun i j => P i j || O i j) from ⟨(unhide HKey).2, fun i x hx => by show (P i x || O i x) = false; rw [(unhide G_t).zero i x hx, (unhide G_other).zero i x hx]; rfl, fun i x hx => by show (P i x || O i x) = false; rw [(unhide G_t).out i x hx, (unhide G_other).out i x hx]; rfl, hn4, hn4⟩)
          have hle_l := hsl.le
          have hcap_l := hsl.cap
          unfold maxLen at hcap_l
          have HSL := hide hsl
          clear hsl HS
          have t35 := (unhide AR2).t (w.heap.size) (.int .i64 (n_t : Int)) (.slice a_t n_t c_t) (.tail _ (.tail _ (.tail _ (.tail _ (.tail _ (.tail _ (.tail _ (.tail _ (.tail _ (.tail _ (.head _)))))))))))
          have t35a := t35.c0
          have t35b := t35.c1
          clear t35
          go_wp2_with fail
          clear t35a t35b
          have Kw36 := closure_good n_t a_l c_l T (fun i j => P i j || O i j) W3 (unhide HSL) (unhide GL)
          try unfold setV at Kw36
          refine Kw36.mono ?_
          clear Kw36
          rintro _ w36 ⟨a_w, c_w, x_w, rfl, hs, hk, hb⟩
          have G_w := hide ((unhide GL).closure hk)
          have hle_w := hs.le
          have hcap_w := hs.cap
          unfold maxLen at hcap_w
          have Aw36 := hide (((unhide AR2).step hb).add (fS a_w (n_t) c_w x_w) hs)
          clear AR2 hs hb hk
          unfold setV
          obtain ⟨w37, hw37⟩ : ∃ x, w36.alloc (.cells #[.int .i64 (n_t : Int), .slice a_w n_t c_w] 24) = x := ⟨_, rfl⟩
          have Aw37 := hide ((unhide Aw36).box (.int .i64 (n_t : Int)) (.slice a_w n_t c_w) 24)
          rw [hw37] at Aw37
          clear Aw36
          go_wp2_with fail
          refine (num_any 0 w37).mono ?_
          rintro _ w' ⟨rfl, hw⟩
          obtain rfl := hw.symm
          have t38 := (unhide Aw37).t (w.heap.size) (.int .i64 (n_t : Int)) (.slice a_t n_t c_t) (.tail _ (.tail _ (.tail _ (.tail _ (.tail _ (.tail _ (.tail _ (.tail _ (.tail _ (.tail _ (.tail _ (.tail _ (.head _)))))))))))))
          have t38a := t38.c0
          have t38b := t38.c1
          clear t38
          go_wp2_with fail
          clear t38a t38b
          go_loopw [26] (fun i wr => ∃ k : Nat, k ≤ n_t ∧ i = .int .i64 k ∧ Below w37.heap.size w37 wr) (fun i _ => n_t - (intOf i).toNat)
          case atStart => exact ⟨0, Nat.zero_le _, rfl, Below.refl _ _⟩
          case round =>
            obtain ⟨k, hk, rfl, hbl⟩ := hrel
            obtain ⟨W5, hW5⟩ : ∃ W5, W5 = wr := ⟨_, rfl⟩
            subst hW5
            have AR4 := hide (((unhide Aw37).step hbl).add (fBel w37) hbl)
            clear hbl
            by_cases hlt : k < n_t
            · have hlt' : (k : Int) < (n_t : Int) := by omega
              have hS_5 := ((unhide AR4).ss (a_c) (n_t) c_c (x_c) (.tail _ (.tail _ (.tail _ (.tail _ (.tail _ (.tail _ (.tail _ (.tail _ (.tail _ (.tail _ (.tail _ (.head _)))))))))))))
              obtain ⟨b_5, o_5, rfl, hc_5⟩ := hS_5.at (by omega)
              have g1_5 := (hc_5 k hlt).1
              have g2_5 := (hc_5 k hlt).2
              have i_5 := (hS_5.get k hlt).1
              have gg_5 := (unhide G_c).get k hlt
              generalize x_c.getD k .nul = e_5 at *
              obtain ⟨es_5, ea_5, en_5, ec_5, ex_5⟩ := e_5
              simp only at g1_5 g2_5 gg_5
              obtain ⟨rfl, rfl⟩ := gg_5
              clear hc_5 hS_5
              have hS_6 := ((unhide AR4).ss (a_w) (n_t) c_w (x_w) (.tail _ (.tail _ (.head _))))
              obtain ⟨b_6, o_6, rfl, hc_6⟩ := hS_6.at (by omega)
              have g1_6 := (hc_6 k hlt).1
              have g2_6 := (hc_6 k hlt).2
              have i_6 := (hS_6.get k hlt).1
              have gg_6 := (unhide G_w).get k hlt
              generalize x_w.getD k .nul = e_6 at *
              obtain ⟨es_6, ea_6, en_6, ec_6, ex_6⟩ := e_6
              simp only at g1_6 g2_6 gg_6
              obtain ⟨rfl, rfl⟩ := gg_6
              clear hc_6 hS_6
              have hki : (0 : Int) ≤ (k : Int) := by omega
              have t39 := (unhide AR4).t (w5.heap.size) (.int .i64 (n_t : Int)) (.slice (some ⟨b_5, o_5, none⟩) n_t c_c) (.tail _ (.tail _ (.tail _ (.tail _ (.tail _ (.tail _ (.tail _ (.tail _ (.tail _ (.tail _ (.head _)))))))))))
              have t39a := t39.c0
              have t39b := t39.c1
              clear t39
              have t40 := (unhide AR4).t (w36.heap.size) (.int .i64 (n_t : Int)) (.slice (some ⟨b_6, o_6, none⟩) n_t c_w) (.tail _ (.head _))
              have t40a := t40.c0
              have t40b := t40.c1
              clear t40
              have t41 := (unhide AR4).t (w.heap.size) (.int .i64 (n_t : Int)) (.slice a_t n_t c_t) (.tail _ (.tail _ (.tail _ (.tail _ (.tail _ (.tail _ (.tail _ (.tail _ (.tail _ (.tail _ (.tail _ (.tail _ (.tail _ (.head _))))))))))))))
              have t41a := t41.c0
              have t41b := t41.c1
              clear t41
              have F_t39b := fun x : Ext W5 => x.cell t39b
              have F_t40b := fun x : Ext W5 => x.cell t40b
              have F_t41a := fun x : Ext W5 => x.cell t41a
              have F_g1_5 := fun x : Ext W5 => x.cell g1_5
              have F_g2_5 := fun x : Ext W5 => x.cell g2_5
              have F_g1_6 := fun x : Ext W5 => x.cell g1_6
              have F_g2_6 := fun x : Ext W5 => x.cell g2_6
              have hNE := Ext.ne W5
              have K := fun x : Ext W5 => subset_any (n_t : Int) ea_5 en_5 ec_5 _ (n_t : Int) ea_6 en_6 ec_6 _ x.w (i_5.below x.bel) (i_6.below x.bel) (Good.mk' (fun x hx => (unhide G_c).zero k x hx) hn4).ok (Good.mk' (fun x hx => (unhide G_w).zero k x hx) hn4).ok
              rw [subset_good (Good.mk' (fun x hx => (unhide G_c).zero k x hx) hn4) (Good.mk' (fun x hx => (unhide G_w).zero k x hx) hn4) (fun x hx => waP_sub (fun i j h => by show (P i j || O i j) = true; rw [h]; rfl) n_t k x hx)] at K
              try unfold setV at K
              have HKE0 := hide K
              clear K
              go_wp2_with fail
              clear t39b t40b t41a g1_5 g2_5 g1_6 g2_6
              refine wp_region_ext (by kernel_rfl) (by kernel_rfl) ?_
              repeat (go_big_quiet_step (first
                | (go_at_call 16; rename_i x; exact Ext.call (unhide HKE0 x) (fun e w' h => h))))
              refine wpQuiet_nil ?_
              rintro _ ⟨xe, rfl⟩
              clear F_t39b F_t40b F_t41a F_g1_5 F_g2_5 F_g1_6 F_g2_6 HKE0
              have AX := hide ((unhide AR4).step xe.bel)
              go_wp2_with fail
              exact ⟨⟨k + 1, by omega, by go_num, (unhide AX).all _ (.head _)⟩, by simp [intOf]; omega⟩
            · have hlt' : ¬ (k : Int) < (n_t : Int) := by omega
              obtain rfl : n_t = k := by omega
              have t42 := (unhide AR4).t (w.heap.size) (.int .i64 (n_t : Int)) (.slice a_t n_t c_t) (.tail _ (.tail _ (.tail _ (.tail _ (.tail _ (.tail _ (.tail _ (.tail _ (.tail _ (.tail _ (.tail _ (.tail _ (.tail _ (.head _))))))))))))))
              have t42a := t42.c0
              have t42b := t42.c1
              clear t42
              go_wp2_with fail
              clear t42a t42b
              have K := chain_any length from_ W5
              try unfold setV at K
              refine K.mono ?_
              clear K
              rintro _ w43 ⟨rfl, hb⟩
              have Aw43 := hide ((unhide AR4).step hb)
              clear AR4 hb
              go_wp2_with fail
              go_ret
              exact ⟨rfl, (unhide Aw43).bel⟩

theorem bitClosed_walk (s_t : Int) (a_t : Option Addr) (n_t c_t : Nat) (x_t : List SetC) (s_other : Int) (a_other : Option Addr) (n_other c_other : Nat) (x_other : List SetC) (length : Int) (from_ : Int) (w : World) (h_t : SlS w a_t n_t c_t x_t) (o_t : ∀ e ∈ x_t, e.Arg) (b_t : n_t ≤ 4398046510976) (e_t : a_t = none → n_t = 0 ∧ c_t = 0) (hl_t : -9223372036854775808 ≤ s_t) (hh_t : s_t ≤ 9223372036854775807) (h_other : SlS w a_other n_other c_other x_other) (o_other : ∀ e ∈ x_other, e.Arg) (b_other : n_other ≤ 4398046510976) (e_other : a_other = none → n_other = 0 ∧ c_other = 0) (hl_other : -9223372036854775808 ≤ s_other) (hh_other : s_other ≤ 9223372036854775807) (hl_length : -9223372036854775808 ≤ length) (hh_length : length ≤ 9223372036854775807) (hl_from_ : -9223372036854775808 ≤ from_) (hh_from_ : from_ ≤ 9223372036854775807) (hT : Tab64 w) :
    Calls Tryd.prog 3 #[setV s_t a_t n_t c_t, setV s_other a_other n_other c_other, .int .i64 length, .int .i64 from_] w fun e w' => e = .returned (.bool true) ∧ Below w.heap.size w w' := by
  cases hma : MayT s_t x_t
  · exact bitClosed_n1 s_t a_t n_t c_t x_t s_other a_other n_other c_other x_other length from_ w h_t o_t b_t e_t hl_t hh_t h_other o_other b_other e_other hl_other hh_other hl_length hh_length hl_from_ hh_from_ hT hma
  · by_cases hsq : s_t = (n_t : Int)
    · cases hmo : MayT s_other x_other
      · exact bitClosed_f1 s_t a_t n_t c_t x_t s_other a_other n_other c_other x_other length from_ w h_t o_t b_t e_t hl_t hh_t h_other o_other b_other e_other hl_other hh_other hl_length hh_length hl_from_ hh_from_ hT hma hsq hmo
      · by_cases hso : s_other = (n_t : Int)
        · by_cases hno : n_other = n_t
          · exact bitClosed_yes s_t a_t n_t c_t x_t s_other a_other n_other c_other x_other length from_ w h_t o_t b_t e_t hl_t hh_t h_other o_other b_other e_other hl_other hh_other hl_length hh_length hl_from_ hh_from_ hT hma hsq hmo hso hno
          · exact bitClosed_f3 s_t a_t n_t c_t x_t s_other a_other n_other c_other x_other length from_ w h_t o_t b_t e_t hl_t hh_t h_other o_other b_other e_other hl_other hh_other hl_length hh_length hl_from_ hh_from_ hT hma hsq hmo hso hno
        · exact bitClosed_f2 s_t a_t n_t c_t x_t s_other a_other n_other c_other x_other length from_ w h_t o_t b_t e_t hl_t hh_t h_other o_other b_other e_other hl_other hh_other hl_length hh_length hl_from_ hh_from_ hT hma hsq hmo hso
    · exact bitClosed_n2 s_t a_t n_t c_t x_t s_other a_other n_other c_other x_other length from_ w h_t o_t b_t e_t hl_t hh_t h_other o_other b_other e_other hl_other hh_other hl_length hh_length hl_from_ hh_from_ hT hma hsq

set_option maxRecDepth 100000 in
theorem bitClosed_door (os : Os) (args : Array Value) : laidMetH Tryd.prog [("math/bits.deBruijn64tab", Rows.laid_math_bits_deBruijn64tab)] ((World.doorLaid Tryd.prog 400 os).forCall (fun _ _ => 0) ⟨#[], args, []⟩).memory :=
  laidMetH_of_parts3 (fuel := 8) (laidMet_of_run' 8 (by kernel_rfl) (by kernel_rfl)) (by kernel_rfl) (by kernel_rfl)

set_option maxRecDepth 100000 in
theorem bitClosed_lifted (os : Os) (started : os.Started) (H : Type) (enc : TypeId × Value → H) :
    ReturnsInHanded {} Tryd.checked os 3 .any (fun w args => (Rows.bitClosedSpec.pre enc Tryd.prog Tryd.f3 [] false w args ∧ laidMetH Tryd.prog [("math/bits.deBruijn64tab", Rows.laid_math_bits_deBruijn64tab)] w) ∧ sizedMet enc Tryd.prog Tryd.f3 (OpenSpec.ofChange Rows.bitClosedSpec) false w args) (Rows.bitClosedSpec.post enc Tryd.prog Tryd.f3 false true false false) := by
  refine returnsInHanded_of_change_and (C := Tryd.checked) (X := fun w _ => laidMetH Tryd.prog [("math/bits.deBruijn64tab", Rows.laid_math_bits_deBruijn64tab)] w) (fun _ _ _ hh h => h.of_heap hh) law_own started (by kernel_rfl) Tryd.func3
    (ChangeSpec.witness_shaped (enc := enc) (C := Tryd.checked) (os := os) (X := fun w _ => laidMetH Tryd.prog [("math/bits.deBruijn64tab", Rows.laid_math_bits_deBruijn64tab)] w) false (World.doorLaid Tryd.prog 400 os) #[.agg #[.int .i64 0, .slice none 0 0], .agg #[.int .i64 0, .slice none 0 0], .int .i64 0, .int .i64 0] 8 rfl (World.shaped_of_RefB (by kernel_rfl) (by kernel_rfl)) (by kernel_rfl) (by kernel_rfl) (by kernel_rfl) (bitClosed_door os _)) ?_
  intro W base args ds gs before hval0 hW hcnd hsz hL _
  have hval : ∀ (j : Nat) t v, Tryd.f3.params[j]? = some t → args[j]? = some v → Value.okWide Tryd.prog W .any base t v := hval0
  have hW' := hW
  obtain ⟨p, q, hA0, hV, rfl, hfz, hnd⟩ := hW
  have hA : DataW.TrodAll enc Tryd.prog W 0 (fun _ => true) true Tryd.f3.params.toList args.toList ds p := hA0
  rw [Tryd.params3] at hA hval hsz
  obtain ⟨v0, vs0, d0, ds0, p0, q0, hargs, rfl, rfl, h0, r0⟩ := trodAll_cons hA
  obtain ⟨v1, vs1, d1, ds1, p1, q1, rfl, rfl, rfl, h1, r1⟩ := trodAll_cons r0
  obtain ⟨v2, vs2, d2, ds2, p2, q2, rfl, rfl, rfl, h2, r2⟩ := trodAll_cons r1
  obtain ⟨v3, vs3, d3, ds3, p3, q3, rfl, rfl, rfl, h3, r3⟩ := trodAll_cons r2
  obtain ⟨rfl, rfl, rfl⟩ := trodAll_nil r3
  obtain rfl : args = #[v0, v1, v2, v3] := by cases args; simp_all
  obtain ⟨rfl, rfl⟩ := trodVars_none hV
  have k0 := h0
  have lt0 : ∀ x ∈ p0, x.block < W.heap.size := by obtain ⟨m, hm⟩ := k0; exact DataW.trod_lt m _ _ _ hm
  obtain ⟨s0, a0, n0, c0, x0, rfl, l0, g0, y0, o0, b0, e0⟩ := arg_table (hval 0 24 v0 rfl rfl) h0 (fun k hk => by simpa using List.all_eq_true.1 hsz k (DataW.weights_mem_each (j := 0) rfl rfl k hk))
  have k1 := h1
  have lt1 : ∀ x ∈ p1, x.block < W.heap.size := by obtain ⟨m, hm⟩ := k1; exact DataW.trod_lt m _ _ _ hm
  obtain ⟨s1, a1, n1, c1, x1, rfl, l1, g1, y1, o1, b1, e1⟩ := arg_table (hval 1 24 v1 rfl rfl) h1 (fun k hk => by simpa using List.all_eq_true.1 hsz k (DataW.weights_mem_each (j := 1) rfl rfl k hk))
  obtain ⟨i2, rfl, rfl, rfl, wf2⟩ := open_int Tryd.underlying3 (hval 2 3 v2 rfl rfl) h2
  obtain ⟨i3, rfl, rfl, rfl, wf3⟩ := open_int Tryd.underlying3 (hval 3 3 v3 rfl rfl) h3
  clear hA0 hval0
  have hT : Tab64 W := by
    rw [MakeChecks.laidMetH_plain _ _ _ (by kernel_rfl)] at hL
    have hI := Lib.tabIs_of_head (k := .u8) (zs := tab64) (rest := []) (show Tryd.prog.globalNamed "math/bits.deBruijn64tab" = some 0 by kernel_rfl) (show (Tryd.prog.globals[0]?).map (·.type) = some 115 by kernel_rfl) Tryd.underlying115 Tryd.underlying5 (by kernel_rfl) (by kernel_rfl) hL
    intro j hj
    exact hI.cell (by kernel_rfl) j hj
  refine (bitClosed_walk s0 a0 n0 c0 x0 s1 a1 n1 c1 x1 i2 i3 W y0 o0 b0 e0 l0 g0 y1 o1 b1 e1 l1 g1 (bounds_i64 wf2).1 (bounds_i64 wf2).2 (bounds_i64 wf3).1 (bounds_i64 wf3).2 hT).mono fun e W' ⟨he, bel⟩ => ?_
  subst he
  exact ⟨_, rfl, _, _, _, [], _, [], hW', trodAll_mk1 (shut_bool Tryd.underlying4 _), (trodAll_cons_mk (Below.trod law_laid (by kernel_rfl) (of_decide_eq_true (by kernel_rfl)) k0 bel lt0) (trodAll_cons_mk (Below.trod law_laid (by kernel_rfl) (of_decide_eq_true (by kernel_rfl)) k1 bel lt1) (trodAll_cons_mk (shut_int Tryd.underlying3 wf2) (trodAll_cons_mk (shut_int Tryd.underlying3 wf3) trodAll_mk0)))), rfl, bel.frame _, fun h => by cases h⟩

theorem bitClosed_row : Rows.BitClosedSaid :=
  OpenClaim.holds_of_wide 3 Tryd.f3 rfl rfl rfl rfl rfl rfl rfl ⟨rfl, rfl, rfl, rfl, rfl⟩ rfl rfl rfl rfl rfl (by kernel_rfl) Tryd.func3 (by kernel_rfl)
    (of_decide_eq_true (by kernel_rfl)) (by unfold Func.isWrapper; first | (rw [if_pos (by decide +kernel)]; kernel_rfl) | (rw [if_neg (by decide +kernel)]; exact ⟨rfl, rfl⟩))
    (fun os started H enc _ => bitClosed_lifted os started H enc)

theorem bitClosed_holds : Rows.BitClosedCardSaid :=
  Claim7.holds_tied_plain_at .later [] [.data] true Rows.bitClosedCard.stood.harness false
    bitClosed_row (fun _ h => by cases h) (by kernel_rfl) (fun _ h => by cases h) bitClosed_row_tie rfl ⟨rfl, rfl⟩ (by kernel_rfl) rfl
    (fun f fn hf hfn => by
      obtain rfl : f = 3 := Option.some.inj ((show Tryd.prog.funcNamed "slope/slopelaw3.BitClosed" = some 3 by kernel_rfl).symm.trans hf) |>.symm
      obtain rfl : fn = Tryd.f3 := (Option.some.inj (Tryd.func3.symm.trans hfn)).symm
      exact ⟨by kernel_rfl, fun j t ht => by
        rw [Tryd.params3] at ht
        have hm : t ∈ [24, 24, 3, 3] := by simpa using Array.mem_of_getElem? ht
        have hall : ([24, 24, 3, 3].all fun u => !Tryd.prog.wantsStandIn u) = true := by kernel_rfl
        exact (show Tryd.prog.wantsStandIn t = false by simpa using List.all_eq_true.1 hall t hm)⟩)
    (by kernel_rfl)
#print axioms bitClosed_holds
end Go.Proofs.YtbendkndnojihabDoor
