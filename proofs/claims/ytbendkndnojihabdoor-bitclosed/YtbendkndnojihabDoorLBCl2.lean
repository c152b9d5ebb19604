/-
  THE LAW BitClosed: out of the contracts; the row's step.
-/
import Derived.Test.YtbendkndnojihabDoorBxj
import Derived.Test.YtbendkndnojihabDoorBl5
import Derived.Test.YtbendkndnojihabDoorBth
import Derived.Test.YtbendkndnojihabDoorBtg0
import Derived.Test.YtbendkndnojihabDoorBv1
import Derived.Test.YtbendkndnojihabDoorBzb
import Derived.Test.YtbendkndnojihabDoorCards
import Derived.Test.YtbendkndnojihabDoorTie
import Derived.SevenTiedAt
import Derived.LaidMore
import Derived.Stop.Joined
import Derived.Lib.LaidTab
namespace Go.Proofs.YtbendkndnojihabDoor
open Go.ChangeShapes Go.WideShapes Go.ChangeAt Go.RowKit Go.Deep
set_option linter.unusedVariables false

set_option maxRecDepth 100000 in
set_option maxHeartbeats 64000000 in
theorem bitClosed_f2 (s_t : Int) (a_t : Option Addr) (n_t c_t : Nat) (x_t : List SetC) (s_other : Int) (a_other : Option Addr) (n_other c_other : Nat) (x_other : List SetC) (length : Int) (from_ : Int) (w : World) (h_t : SlS w a_t n_t c_t x_t) (o_t : ∀ e ∈ x_t, e.Arg) (b_t : n_t ≤ 4398046510976) (e_t : a_t = none → n_t = 0 ∧ c_t = 0) (hl_t : -9223372036854775808 ≤ s_t) (hh_t : s_t ≤ 9223372036854775807) (h_other : SlS w a_other n_other c_other x_other) (o_other : ∀ e ∈ x_other, e.Arg) (b_other : n_other ≤ 4398046510976) (e_other : a_other = none → n_other = 0 ∧ c_other = 0) (hl_other : -9223372036854775808 ≤ s_other) (hh_other : s_other ≤ 9223372036854775807) (hl_length : -9223372036854775808 ≤ length) (hh_length : length ≤ 9223372036854775807) (hl_from_ : -9223372036854775808 ≤ from_) (hh_from_ : from_ ≤ 9223372036854775807) (hT : Tab64 w) (hma : MayT s_t x_t = true) (hsq : s_t = (n_t : Int)) (hmo : MayT s_other x_other = true) (hso : ¬ s_other = (n_t : Int)) :
    Calls Tryd.prog 3 #[setV s_t a_t n_t c_t, setV s_other a_other n_other c_other, .int .i64 length, .int .i64 from_] w fun e w' => e = .returned (.bool true) ∧ Below w.heap.size w w' := by
  have A00 : Facts w w [] := ⟨Below.refl _ _, fun f hf => by cases hf⟩
  have A01 := A00.add (fS a_t n_t c_t x_t) h_t
  have L_t := hide h_t.len
  have hle_t := h_t.le
  have hcap_t := h_t.cap
  unfold maxLen at hcap_t
  have A02 := A01.add (fS a_other n_other c_other x_other) h_other
  have L_other := hide h_other.len
  have hle_other := h_other.le
  have hcap_other := h_other.cap
  unfold maxLen at hcap_other
  have A0 := hide A02
  have O_t := hide o_t
  have B_t := hide (And.intro hl_t hh_t)
  have O_other := hide o_other
  have B_other := hide (And.intro hl_other hh_other)
  have B_length := hide (And.intro hl_length hh_length)
  have B_from_ := hide (And.intro hl_from_ hh_from_)
  have HT := hide hT
  clear hT
  obtain ⟨st, rfl, P, gt⟩ := MayT.good hma (fun e he => (h_t.all e he).2)
  rw [h_t.len] at gt
  obtain rfl : n_t = st := by omega
  have G_t := hide gt
  have WY := hide (ways_of gt.zero gt.out)
  have hn4 := gt.hn
  clear gt hma hsq
  have M_o := hide hmo
  have q3 : (s_other == (n_t : Int)) = false := by simpa using hso
  have q4 : decide (s_other = (n_t : Int)) = false := by simpa using hso
  clear hmo hso
  clear A00 A01 A02 h_t h_other o_t o_other e_t e_other hl_t hh_t hl_other hh_other hl_length hh_length hl_from_ hh_from_
  unfold setV
  go_enter Tryd.func3, Tryd.ntmps3
  obtain ⟨w1, hw1⟩ : ∃ x, w.alloc (.cells #[.int .i64 (n_t : Int), .slice a_t n_t c_t] 24) = x := ⟨_, rfl⟩
  have Aw1 := hide ((unhide A0).box (.int .i64 (n_t : Int)) (.slice a_t n_t c_t) 24)
  rw [hw1] at Aw1
  clear A0
  obtain ⟨w2, hw2⟩ : ∃ x, w1.alloc (.cells #[.int .i64 s_other, .slice a_other n_other c_other] 24) = x := ⟨_, rfl⟩
  have Aw2 := hide ((unhide Aw1).box (.int .i64 s_other) (.slice a_other n_other c_other) 24)
  rw [hw2] at Aw2
  clear Aw1
  go_wp2_with fail
  have K := alive_any w2
  try unfold setV at K
  refine K.mono ?_
  clear K
  rintro _ w3 ⟨rfl, hb⟩
  have Aw3 := hide ((unhide Aw2).step hb)
  clear Aw2 hb
  have t4 := (unhide Aw3).t (w.heap.size) (.int .i64 (n_t : Int)) (.slice a_t n_t c_t) (.tail _ (.head _))
  have t4a := t4.c0
  have t4b := t4.c1
  clear t4
  go_wp2_with fail
  clear t4a t4b
  have Kw5 := closure_good n_t a_t c_t x_t P w3 ((unhide Aw3).ss (a_t) (n_t) c_t (x_t) (.tail _ (.tail _ (.tail _ (.head _))))) (unhide G_t)
  try unfold setV at Kw5
  refine Kw5.mono ?_
  clear Kw5
  rintro _ w5 ⟨a_c, c_c, x_c, rfl, hs, hk, hb⟩
  have G_c := hide ((unhide G_t).closure hk)
  have hle_c := hs.le
  have hcap_c := hs.cap
  unfold maxLen at hcap_c
  have Aw5 := hide (((unhide Aw3).step hb).add (fS a_c (n_t) c_c x_c) hs)
  clear Aw3 hs hb hk
  unfold setV
  obtain ⟨w6, hw6⟩ : ∃ x, w5.alloc (.cells #[.int .i64 (n_t : Int), .slice a_c n_t c_c] 24) = x := ⟨_, rfl⟩
  have Aw6 := hide ((unhide Aw5).box (.int .i64 (n_t : Int)) (.slice a_c n_t c_c) 24)
  rw [hw6] at Aw6
  clear Aw5
  have t7 := (unhide Aw6).t (w.heap.size) (.int .i64 (n_t : Int)) (.slice a_t n_t c_t) (.tail _ (.tail _ (.tail _ (.head _))))
  have t7a := t7.c0
  have t7b := t7.c1
  clear t7
  go_wp2_with fail
  clear t7a t7b
  have K := rmayT_any (n_t : Int) a_t n_t c_t x_t w6 ((unhide Aw6).ss (a_t) (n_t) c_t (x_t) (.tail _ (.tail _ (.tail _ (.tail _ (.tail _ (.head _)))))))
  rw [(unhide G_t).may] at K
  try unfold setV at K
  refine K.mono ?_
  clear K
  rintro _ w8 ⟨rfl, hb⟩
  have Aw8 := hide ((unhide Aw6).step hb)
  clear Aw6 hb
  have t9 := (unhide Aw8).t (w.heap.size) (.int .i64 (n_t : Int)) (.slice a_t n_t c_t) (.tail _ (.tail _ (.tail _ (.head _))))
  have t9a := t9.c0
  have t9b := t9.c1
  clear t9
  have t10 := (unhide Aw8).t (w5.heap.size) (.int .i64 (n_t : Int)) (.slice a_c n_t c_c) (.head _)
  have t10a := t10.c0
  have t10b := t10.c1
  clear t10
  go_wp2_with fail
  clear t9a t9b t10a t10b
  have Kw11 := product_good n_t n_t a_t c_t x_t P n_t a_c c_c x_c (waP P n_t) w8 ((unhide Aw8).ss (a_t) (n_t) c_t (x_t) (.tail _ (.tail _ (.tail _ (.tail _ (.tail _ (.head _))))))) ((unhide Aw8).ss (a_c) (n_t) c_c (x_c) (.tail _ (.head _))) (unhide G_t) (unhide G_c) ((unhide HT).below (unhide Aw8).bel)
  try unfold setV at Kw11
  refine Kw11.mono ?_
  clear Kw11
  rintro _ w11 ⟨a_p, c_p, x_p, rfl, hs, hk, hb⟩
  have G_p := hide ((unhide G_t).product (unhide G_c) hk)
  have hle_p := hs.le
  have hcap_p := hs.cap
  unfold maxLen at hcap_p
  have Aw11 := hide (((unhide Aw8).step hb).add (fS a_p (n_t) c_p x_p) hs)
  clear Aw8 hs hb hk
  unfold setV
  obtain ⟨w12, hw12⟩ : ∃ x, w11.alloc (.cells #[.int .i64 (n_t : Int), .slice a_p n_t c_p] 24) = x := ⟨_, rfl⟩
  have Aw12 := hide ((unhide Aw11).box (.int .i64 (n_t : Int)) (.slice a_p n_t c_p) 24)
  rw [hw12] at Aw12
  clear Aw11
  have t13 := (unhide Aw12).t (w5.heap.size) (.int .i64 (n_t : Int)) (.slice a_c n_t c_c) (.tail _ (.tail _ (.head _)))
  have t13a := t13.c0
  have t13b := t13.c1
  clear t13
  go_wp2_with fail
  clear t13a t13b
  have Kw14 := product_good n_t n_t a_c c_c x_c (waP P n_t) n_t a_c c_c x_c (waP P n_t) w12 ((unhide Aw12).ss (a_c) (n_t) c_c (x_c) (.tail _ (.tail _ (.tail _ (.head _))))) ((unhide Aw12).ss (a_c) (n_t) c_c (x_c) (.tail _ (.tail _ (.tail _ (.head _))))) (unhide G_c) (unhide G_c) ((unhide HT).below (unhide Aw12).bel)
  try unfold setV at Kw14
  refine Kw14.mono ?_
  clear Kw14
  rintro _ w14 ⟨a_q, c_q, x_q, rfl, hs, hk, hb⟩
  have G_q := hide ((unhide G_c).product (unhide G_c) hk)
  have hle_q := hs.le
  have hcap_q := hs.cap
  unfold maxLen at hcap_q
  have Aw14 := hide (((unhide Aw12).step hb).add (fS a_q (n_t) c_q x_q) hs)
  clear Aw12 hs hb hk
  unfold setV
  obtain ⟨w15, hw15⟩ : ∃ x, w14.alloc (.cells #[.int .i64 (n_t : Int), .slice a_q n_t c_q] 24) = x := ⟨_, rfl⟩
  have Aw15 := hide ((unhide Aw14).box (.int .i64 (n_t : Int)) (.slice a_q n_t c_q) 24)
  rw [hw15] at Aw15
  clear Aw14
  have t16 := (unhide Aw15).t (w5.heap.size) (.int .i64 (n_t : Int)) (.slice a_c n_t c_c) (.tail _ (.tail _ (.tail _ (.tail _ (.head _)))))
  have t16a := t16.c0
  have t16b := t16.c1
  clear t16
  go_wp2_with fail
  clear t16a t16b
  have Kw17 := closure_good n_t a_c c_c x_c (waP P n_t) w15 ((unhide Aw15).ss (a_c) (n_t) c_c (x_c) (.tail _ (.tail _ (.tail _ (.tail _ (.tail _ (.head _))))))) (unhide G_c)
  try unfold setV at Kw17
  refine Kw17.mono ?_
  clear Kw17
  rintro _ w17 ⟨a_d, c_d, x_d, rfl, hs, hk, hb⟩
  have G_d := hide ((unhide G_c).closure hk)
  have hle_d := hs.le
  have hcap_d := hs.cap
  unfold maxLen at hcap_d
  have Aw17 := hide (((unhide Aw15).step hb).add (fS a_d (n_t) c_d x_d) hs)
  clear Aw15 hs hb hk
  unfold setV
  obtain ⟨w18, hw18⟩ : ∃ x, w17.alloc (.cells #[.int .i64 (n_t : Int), .slice a_d n_t c_d] 24) = x := ⟨_, rfl⟩
  have Aw18 := hide ((unhide Aw17).box (.int .i64 (n_t : Int)) (.slice a_d n_t c_d) 24)
  rw [hw18] at Aw18
  clear Aw17
  go_wp2_with fail
  refine (num_any 0 w18).mono ?_
  rintro _ w' ⟨rfl, hw⟩
  obtain rfl := hw.symm
  go_wp2_with fail
  refine (num_any 0 w18).mono ?_
  rintro _ w' ⟨rfl, hw⟩
  obtain rfl := hw.symm
  go_wp2_with fail
  refine (num_any 0 w18).mono ?_
  rintro _ w' ⟨rfl, hw⟩
  obtain rfl := hw.symm
  go_wp2_with fail
  refine (num_any 0 w18).mono ?_
  rintro _ w' ⟨rfl, hw⟩
  obtain rfl := hw.symm
  have t19 := (unhide Aw18).t (w5.heap.size) (.int .i64 (n_t : Int)) (.slice a_c n_t c_c) (.tail _ (.tail _ (.tail _ (.tail _ (.tail _ (.tail _ (.head _)))))))
  have t19a := t19.c0
  have t19b := t19.c1
  clear t19
  have t20 := (unhide Aw18).t (w17.heap.size) (.int .i64 (n_t : Int)) (.slice a_d n_t c_d) (.head _)
  have t20a := t20.c0
  have t20b := t20.c1
  clear t20
  go_wp2_with fail
  clear t19a t19b t20a t20b
  have K := sameTable_eq (n_t : Int) (a_c) (a_d) n_t c_c c_d x_c x_d w18 ((unhide Aw18).ss (a_c) (n_t) c_c (x_c) (.tail _ (.tail _ (.tail _ (.tail _ (.tail _ (.tail _ (.tail _ (.head _))))))))) ((unhide Aw18).ss (a_d) (n_t) c_d (x_d) (.tail _ (.head _))) ((unhide G_d).key.trans ((congrArg (tabK n_t n_t) ((unhide WY).still n_t)).trans (unhide G_c).key.symm))
  try unfold setV at K
  refine K.mono ?_
  clear K
  rintro _ w21 ⟨rfl, hb⟩
  have Aw21 := hide ((unhide Aw18).step hb)
  clear Aw18 hb
  have t22 := (unhide Aw21).t (w5.heap.size) (.int .i64 (n_t : Int)) (.slice a_c n_t c_c) (.tail _ (.tail _ (.tail _ (.tail _ (.tail _ (.tail _ (.head _)))))))
  have t22a := t22.c0
  have t22b := t22.c1
  clear t22
  have t23 := (unhide Aw21).t (w.heap.size) (.int .i64 (n_t : Int)) (.slice a_t n_t c_t) (.tail _ (.tail _ (.tail _ (.tail _ (.tail _ (.tail _ (.tail _ (.tail _ (.tail _ (.head _))))))))))
  have t23a := t23.c0
  have t23b := t23.c1
  clear t23
  go_wp2_with fail
  clear t22a t22b t23a t23b
  go_loopw [17, 18, 19] (fun i _ _ wr => ∃ k : Nat, k ≤ n_t ∧ i = .int .i64 k ∧ Below w21.heap.size w21 wr) (fun i _ _ _ => n_t - (intOf i).toNat)
  case atStart => exact ⟨0, Nat.zero_le _, rfl, Below.refl _ _⟩
  case round =>
    obtain ⟨k, hk, rfl, hbl⟩ := hrel
    obtain ⟨W1, hW1⟩ : ∃ W1, W1 = wr := ⟨_, rfl⟩
    subst hW1
    have AR := hide (((unhide Aw21).step hbl).add (fBel w21) hbl)
    clear hbl
    by_cases hlt : k < n_t
    · have hlt' : (k : Int) < (n_t : Int) := by omega
      have hS_1 := ((unhide AR).ss (a_t) (n_t) c_t (x_t) (.tail _ (.tail _ (.tail _ (.tail _ (.tail _ (.tail _ (.tail _ (.tail _ (.tail _ (.tail _ (.tail _ (.tail _ (.head _))))))))))))))
      obtain ⟨b_1, o_1, rfl, hc_1⟩ := hS_1.at (by omega)
      have g1_1 := (hc_1 k hlt).1
      have g2_1 := (hc_1 k hlt).2
      have i_1 := (hS_1.get k hlt).1
      have gg_1 := (unhide G_t).get k hlt
      generalize x_t.getD k .nul = e_1 at *
      obtain ⟨es_1, ea_1, en_1, ec_1, ex_1⟩ := e_1
      simp only at g1_1 g2_1 gg_1
      obtain ⟨rfl, rfl⟩ := gg_1
      clear hc_1 hS_1
      have hS_2 := ((unhide AR).ss (a_p) (n_t) c_p (x_p) (.tail _ (.tail _ (.tail _ (.tail _ (.tail _ (.tail _ (.head _))))))))
      obtain ⟨b_2, o_2, rfl, hc_2⟩ := hS_2.at (by omega)
      have g1_2 := (hc_2 k hlt).1
      have g2_2 := (hc_2 k hlt).2
      have i_2 := (hS_2.get k hlt).1
      have gg_2 := (unhide G_p).get k hlt
      generalize x_p.getD k .nul = e_2 at *
      obtain ⟨es_2, ea_2, en_2, ec_2, ex_2⟩ := e_2
      simp only at g1_2 g2_2 gg_2
      obtain ⟨rfl, rfl⟩ := gg_2
      clear hc_2 hS_2
      have t24 := (unhide AR).t (w.heap.size) (.int .i64 (n_t : Int)) (.slice (some ⟨b_1, o_1, none⟩) n_t c_t) (.tail _ (.tail _ (.tail _ (.tail _ (.tail _ (.tail _ (.tail _ (.tail _ (.tail _ (.tail _ (.head _)))))))))))
      have t24a := t24.c0
      have t24b := t24.c1
      clear t24
      have t25 := (unhide AR).t (w11.heap.size) (.int .i64 (n_t : Int)) (.slice (some ⟨b_2, o_2, none⟩) n_t c_p) (.tail _ (.tail _ (.tail _ (.tail _ (.tail _ (.head _))))))
      have t25a := t25.c0
      have t25b := t25.c1
      clear t25
      have HKM := hide (fun (w' : World) (b : Nat) (hb : Below W1.heap.size W1 w') k0 k1 k2 k3 => union_two (n := n_t) (X := (wordsL n_t (waP P n_t k))) i_1 i_2 (Good.mk' (fun x hx => (unhide G_t).zero k x hx) hn4) (Good.mk' (fun x hx => (unhide G_p).zero k x hx) hn4) (words_eq (fun x _ => (unhide WY).one k x)) w' b hb k0 k1 k2 k3)
      have q0 : w.heap.size < W1.heap.size := World.block_lt_of_cell? _ _ t24a
      have n0 : w.heap.size ≠ W1.heap.size := by omega
      have m0 : w.heap.size ≠ W1.heap.size + 1 := by omega
      have q1 : w11.heap.size < W1.heap.size := World.block_lt_of_cell? _ _ t25b
      have n1 : w11.heap.size ≠ W1.heap.size := by omega
      have m1 : w11.heap.size ≠ W1.heap.size + 1 := by omega
      have q2 : b_1 < W1.heap.size := World.block_lt_of_cell? _ _ g1_1
      have n2 : b_1 ≠ W1.heap.size := by omega
      have m2 : b_1 ≠ W1.heap.size + 1 := by omega
      have q3 : b_2 < W1.heap.size := World.block_lt_of_cell? _ _ g1_2
      have n3 : b_2 ≠ W1.heap.size := by omega
      have m3 : b_2 ≠ W1.heap.size + 1 := by omega
      have hki : (0 : Int) ≤ (k : Int) := by omega
      go_wp2_with fail
      go_region_held3 (fun w' => w'.cell? ⟨w.heap.size, 0, none⟩ = some (.int .i64 (n_t : Int)) ∧ w'.cell? ⟨w.heap.size, 1, none⟩ = some (.slice (some ⟨b_1, o_1, none⟩) n_t c_t) ∧ w'.cell? ⟨w11.heap.size, 1, none⟩ = some (.slice (some ⟨b_2, o_2, none⟩) n_t c_p) ∧ w'.cell? ⟨b_1, o_1 + k * 2, none⟩ = some (.int .i64 (n_t : Int)) ∧ w'.cell? ⟨b_1, o_1 + k * 2 + 1, none⟩ = some (.slice ea_1 en_1 ec_1) ∧ w'.cell? ⟨b_2, o_2 + k * 2, none⟩ = some (.int .i64 (n_t : Int)) ∧ w'.cell? ⟨b_2, o_2 + k * 2 + 1, none⟩ = some (.slice ea_2 en_2 ec_2)) (first | go_keep | (refine ⟨?_, ?_, ?_, ?_, ?_, ?_, ?_⟩ <;> (rw [set2_other _ _ _ _ _ _ (by assumption)]; assumption)))
        (first | (go_at_call 14; refine (unhide HKM _ _ (by first | exact bel_one _ _ | exact bel_both _ _ _) (by simp) (by simp) (by simp) (by simp)).mono ?_; rintro _ wy ⟨ay, ny, cy, rfl, hs5, hb5, hq5, ho5⟩; have u0 := below_cell hq5 t24a; have u1 := below_cell hq5 t24b; have u2 := below_cell hq5 t25b; have u3 := below_cell hq5 g1_1; have u4 := below_cell hq5 g2_1; have u5 := below_cell hq5 g1_2; have u6 := below_cell hq5 g2_2; have H5 := hide (And.intro hs5 (And.intro hb5 (And.intro hq5 ho5))); have q5 := hq5.size; have v0 : w.heap.size < wy.heap.size := (by omega); have v1 : w11.heap.size < wy.heap.size := (by omega); have v2 : b_1 < wy.heap.size := (by omega); have v3 : b_2 < wy.heap.size := (by omega); (first | (have tb := box_first hb5; have k0 := tb.c0; have k1 := tb.c1; have k2 := tb.f0; have k3 := tb.f1; clear tb) | (have tb := box_then hb5; have k0 := tb.c0; have k1 := tb.c1; have k2 := tb.f0; have k3 := tb.f1; clear tb) | (have aa := box_none W1 hb5; clear aa)); clear hs5 hb5 hq5 ho5))
      all_goals
        first
        | (obtain ⟨wz, hz⟩ : ∃ x, wy.alloc (.cells #[.int .i64 (n_t : Int), .slice ay ny cy] 35) = x := ⟨_, rfl⟩
           rw [hz]
           obtain ⟨hs5, hb5, hq5, ho5⟩ := unhide H5
           have hbz : Below wy.heap.size wy wz := (by rw [← hz]; exact (Below.refl _ _).alloc (Nat.le_refl _) _)
           have hqz := hq5.trans (hbz.mono hq5.size)
           have TZ := hide (show Two wz wy.heap.size (.int .i64 (n_t : Int)) (.slice ay ny cy) from (by rw [← hz]; exact Two.made _ _ _ _))
           have SZ := hide (hs5.below hbz)
           obtain ⟨Y, hY⟩ : ∃ y, wy.heap.size = y := ⟨_, rfl⟩
           rw [hY] at TZ ⊢
           have OZ := hide ho5
           have QZ := hide hqz
           have AZ := hide ((unhide AR).step hqz)
           clear hs5 hq5 ho5 hqz hz hY H5 q5 v0 v1 v2 v3 u0 u1 u2 u3 u4 u5 u6 hb5 hbz)
        | (obtain ⟨wz, hz⟩ : ∃ x, (wy.setCell ⟨W1.heap.size, 0, none⟩ (.int .i64 (n_t : Int))).setCell ⟨W1.heap.size, 1, none⟩ (.slice ay ny cy) = x := ⟨_, rfl⟩
           rw [hz]
           obtain ⟨hs5, hb5, hq5, ho5⟩ := unhide H5
           have t5 : Two wy (W1.heap.size) (.int .i64 0) (.slice none 0 0) := ⟨k0, k1, k2, k3⟩
           have hqz : Below W1.heap.size W1 wz := (by rw [← hz]; exact two_below hq5 _ (by omega) _ _)
           have TZ := hide (show Two wz (W1.heap.size) (.int .i64 (n_t : Int)) (.slice ay ny cy) from (by rw [← hz]; exact t5.set _ _))
           have SZ := hide (show SlW wz ay ny cy (wordsL n_t (waP P n_t k)) from (by rw [← hz]; exact SlW.two hs5 t5 _ _))
           obtain ⟨Y, hY⟩ : ∃ y, W1.heap.size = y := ⟨_, rfl⟩
           rw [hY] at TZ ⊢
           have OZ := hide ho5
           have QZ := hide hqz
           have AZ := hide ((unhide AR).step hqz)
           clear hs5 hq5 ho5 hqz hz hY H5 q5 v0 v1 v2 v3 u0 u1 u2 u3 u4 u5 u6 hb5 t5 k0 k1 k2 k3)
        | (obtain ⟨wz, hz⟩ : ∃ x, (wy.setCell ⟨W1.heap.size + 1, 0, none⟩ (.int .i64 (n_t : Int))).setCell ⟨W1.heap.size + 1, 1, none⟩ (.slice ay ny cy) = x := ⟨_, rfl⟩
           rw [hz]
           obtain ⟨hs5, hb5, hq5, ho5⟩ := unhide H5
           have t5 : Two wy (W1.heap.size + 1) (.int .i64 0) (.slice none 0 0) := ⟨k0, k1, k2, k3⟩
           have hqz : Below W1.heap.size W1 wz := (by rw [← hz]; exact two_below hq5 _ (by omega) _ _)
           have TZ := hide (show Two wz (W1.heap.size + 1) (.int .i64 (n_t : Int)) (.slice ay ny cy) from (by rw [← hz]; exact t5.set _ _))
           have SZ := hide (show SlW wz ay ny cy (wordsL n_t (waP P n_t k)) from (by rw [← hz]; exact SlW.two hs5 t5 _ _))
           obtain ⟨Y, hY⟩ : ∃ y, W1.heap.size + 1 = y := ⟨_, rfl⟩
           rw [hY] at TZ ⊢
           have OZ := hide ho5
           have QZ := hide hqz
           have AZ := hide ((unhide AR).step hqz)
           clear hs5 hq5 ho5 hqz hz hY H5 q5 v0 v1 v2 v3 u0 u1 u2 u3 u4 u5 u6 hb5 t5 k0 k1 k2 k3)
      all_goals
        clear t24a t24b t25a t25b q0 q1 q2 q3 n0 n1 n2 n3 m0 m1 m2 m3 HKM g1_1 g2_1 i_1 g1_2 g2_2 i_2
        have hS_3 := ((unhide AZ).ss (a_c) (n_t) c_c (x_c) (.tail _ (.tail _ (.tail _ (.tail _ (.tail _ (.tail _ (.tail _ (.tail _ (.head _))))))))))
        obtain ⟨b_3, o_3, rfl, hc_3⟩ := hS_3.at (by omega)
        have g1_3 := (hc_3 k hlt).1
        have g2_3 := (hc_3 k hlt).2
        have i_3 := (hS_3.get k hlt).1
        have gg_3 := (unhide G_c).get k hlt
        generalize x_c.getD k .nul = e_3 at *
        obtain ⟨es_3, ea_3, en_3, ec_3, ex_3⟩ := e_3
        simp only at g1_3 g2_3 gg_3
        obtain ⟨rfl, rfl⟩ := gg_3
        clear hc_3 hS_3
        have hS_4 := ((unhide AZ).ss (a_q) (n_t) c_q (x_q) (.tail _ (.tail _ (.tail _ (.tail _ (.head _))))))
        obtain ⟨b_4, o_4, rfl, hc_4⟩ := hS_4.at (by omega)
        have g1_4 := (hc_4 k hlt).1
        have g2_4 := (hc_4 k hlt).2
        have i_4 := (hS_4.get k hlt).1
        have gg_4 := (unhide G_q).get k hlt
        generalize x_q.getD k .nul = e_4 at *
        obtain ⟨es_4, ea_4, en_4, ec_4, ex_4⟩ := e_4
        simp only at g1_4 g2_4 gg_4
        obtain ⟨rfl, rfl⟩ := gg_4
        clear hc_4 hS_4
        have hfn : en_3 = ny := by have x1 := i_3.len; have x2 := (unhide SZ).len; simp only at x1 x2; omega
        subst hfn
        have one0 := (unhide TZ).c0
        have one1 := (unhide TZ).c1
        have t26 := (unhide AZ).t (w5.heap.size) (.int .i64 (n_t : Int)) (.slice (some ⟨b_3, o_3, none⟩) n_t c_c) (.tail _ (.tail _ (.tail _ (.tail _ (.tail _ (.tail _ (.tail _ (.head _))))))))
        have t26a := t26.c0
        have t26b := t26.c1
        clear t26
        have t27 := (unhide AZ).t (w14.heap.size) (.int .i64 (n_t : Int)) (.slice (some ⟨b_4, o_4, none⟩) n_t c_q) (.tail _ (.tail _ (.tail _ (.head _))))
        have t27a := t27.c0
        have t27b := t27.c1
        clear t27
        have F_one0 := fun x : Ext wz => x.cell one0
        have F_one1 := fun x : Ext wz => x.cell one1
        have F_t26b := fun x : Ext wz => x.cell t26b
        have F_t27b := fun x : Ext wz => x.cell t27b
        have F_g1_3 := fun x : Ext wz => x.cell g1_3
        have F_g2_3 := fun x : Ext wz => x.cell g2_3
        have F_g1_4 := fun x : Ext wz => x.cell g1_4
        have F_g2_4 := fun x : Ext wz => x.cell g2_4
        have hNE := Ext.ne wz
        have K := fun x : Ext wz => (num_any 0 x.w).mono (fun e w' (h : _ ∧ _) => (⟨h.1, by rw [h.2]; exact Below.refl _ _⟩ : _ ∧ Below x.w.heap.size x.w w'))
        try unfold setV at K
        have HKE0 := hide K
        clear K
        have K := fun x : Ext wz => same_eq (n_t : Int) ay ea_3 en_3 cy ec_3 (wordsL n_t (waP P n_t k)) x.w ((unhide SZ).below x.bel) (i_3.below x.bel)
        try unfold setV at K
        have HKE1 := hide K
        clear K
        have K := fun x : Ext wz => subset_any (n_t : Int) ea_4 en_4 ec_4 _ (n_t : Int) ea_3 en_3 ec_3 _ x.w (i_4.below x.bel) (i_3.below x.bel) (Good.mk' (fun x hx => (unhide G_q).zero k x hx) hn4).ok (Good.mk' (fun x hx => (unhide G_c).zero k x hx) hn4).ok
        rw [subset_good (Good.mk' (fun x hx => (unhide G_q).zero k x hx) hn4) (Good.mk' (fun x hx => (unhide G_c).zero k x hx) hn4) (fun x hx => (unhide WY).two k x hx)] at K
        try unfold setV at K
        have HKE2 := hide K
        clear K
        go_wp2_with fail
        clear one0 one1 t26b t27b g1_3 g2_3 g1_4 g2_4
        refine wp_region_ext (by kernel_rfl) (by kernel_rfl) ?_
        repeat (go_big_quiet_step (first
          | (go_at_call 11; rename_i x; exact Ext.call (unhide HKE0 x) (fun e w' h => h))
          | (go_at_call 15; rename_i x; exact Ext.call (unhide HKE1 x) (fun e w' h => h))
          | (go_at_call 16; rename_i x; exact Ext.call (unhide HKE2 x) (fun e w' h => h))))
        refine wpQuiet_nil ?_
        rintro _ ⟨xe, rfl⟩
        clear F_one0 F_one1 F_t26b F_t27b F_g1_3 F_g2_3 F_g1_4 F_g2_4 HKE0 HKE1 HKE2
        have AX := hide ((unhide AZ).step xe.bel)
        go_wp2_with fail
        exact ⟨⟨k + 1, by omega, by go_num, (unhide AX).all _ (.head _)⟩, by simp [intOf]; omega⟩
    · have hlt' : ¬ (k : Int) < (n_t : Int) := by omega
      obtain rfl : n_t = k := by omega
      have t28 := (unhide AR).t (w1.heap.size) (.int .i64 s_other) (.slice a_other n_other c_other) (.tail _ (.tail _ (.tail _ (.tail _ (.tail _ (.tail _ (.tail _ (.tail _ (.tail _ (.head _))))))))))
      have t28a := t28.c0
      have t28b := t28.c1
      clear t28
      have t29 := (unhide AR).t (w.heap.size) (.int .i64 (n_t : Int)) (.slice a_t n_t c_t) (.tail _ (.tail _ (.tail _ (.tail _ (.tail _ (.tail _ (.tail _ (.tail _ (.tail _ (.tail _ (.head _)))))))))))
      have t29a := t29.c0
      have t29b := t29.c1
      clear t29
      go_wp2_with fail
      clear t28a t28b t29a t29b
      have K := rmayT_any s_other a_other n_other c_other x_other W1 ((unhide AR).ss (a_other) (n_other) c_other (x_other) (.tail _ (.tail _ (.tail _ (.tail _ (.tail _ (.tail _ (.tail _ (.tail _ (.tail _ (.tail _ (.tail _ (.head _)))))))))))))
      rw [unhide M_o] at K
      try unfold setV at K
      refine K.mono ?_
      clear K
      rintro _ w30 ⟨rfl, hb⟩
      have Aw30 := hide ((unhide AR).step hb)
      clear AR hb
      have t31 := (unhide Aw30).t (w1.heap.size) (.int .i64 s_other) (.slice a_other n_other c_other) (.tail _ (.tail _ (.tail _ (.tail _ (.tail _ (.tail _ (.tail _ (.tail _ (.tail _ (.head _))))))))))
      have t31a := t31.c0
      have t31b := t31.c1
      clear t31
      have t32 := (unhide Aw30).t (w.heap.size) (.int .i64 (n_t : Int)) (.slice a_t n_t c_t) (.tail _ (.tail _ (.tail _ (.tail _ (.tail _ (.tail _ (.tail _ (.tail _ (.tail _ (.tail _ (.head _)))))))))))
      have t32a := t32.c0
      have t32b := t32.c1
      clear t32
      go_wp2_with fail
      clear t31a t31b t32a t32b
      have K := chain_any length from_ w30
      try unfold setV at K
      refine K.mono ?_
      clear K
      rintro _ w33 ⟨rfl, hb⟩
      have Aw33 := hide ((unhide Aw30).step hb)
      clear Aw30 hb
      go_wp2_with fail
      go_ret
      exact ⟨rfl, (unhide Aw33).bel⟩

set_option maxRecDepth 100000 in
set_option maxHeartbeats 64000000 in
theorem bitClosed_f3 (s_t : Int) (a_t : Option Addr) (n_t c_t : Nat) (x_t : List SetC) (s_other : Int) (a_other : Option Addr) (n_other c_other : Nat) (x_other : List SetC) (length : Int) (from_ : Int) (w : World) (h_t : SlS w a_t n_t c_t x_t) (o_t : ∀ e ∈ x_t, e.Arg) (b_t : n_t ≤ 4398046510976) (e_t : a_t = none → n_t = 0 ∧ c_t = 0) (hl_t : -9223372036854775808 ≤ s_t) (hh_t : s_t ≤ 9223372036854775807) (h_other : SlS w a_other n_other c_other x_other) (o_other : ∀ e ∈ x_other, e.Arg) (b_other : n_other ≤ 4398046510976) (e_other : a_other = none → n_other = 0 ∧ c_other = 0) (hl_other : -9223372036854775808 ≤ s_other) (hh_other : s_other ≤ 9223372036854775807) (hl_length : -9223372036854775808 ≤ length) (hh_length : length ≤ 9223372036854775807) (hl_from_ : -9223372036854775808 ≤ from_) (hh_from_ : from_ ≤ 9223372036854775807) (hT : Tab64 w) (hma : MayT s_t x_t = true) (hsq : s_t = (n_t : Int)) (hmo : MayT s_other x_other = true) (hso : s_other = (n_t : Int)) (hno : ¬ n_other = n_t) :
    Calls Tryd.prog 3 #[setV s_t a_t n_t c_t, setV s_other a_other n_other c_other, .int .i64 length, .int .i64 from_] w fun e w' => e = .returned (.bool true) ∧ Below w.heap.size w w' := by
  have A00 : Facts w w [] := ⟨Below.refl _ _, fun f hf => by cases hf⟩
  have A01 := A00.add (fS a_t n_t c_t x_t) h_t
  have L_t := hide h_t.len
  have hle_t := h_t.le
  have hcap_t := h_t.cap
  unfold maxLen at hcap_t
  have A02 := A01.add (fS a_other n_other c_other x_other) h_other
  have L_other := hide h_other.len
  have hle_other := h_other.le
  have hcap_other := h_other.cap
  unfold maxLen at hcap_other
  have A0 := hide A02
  have O_t := hide o_t
  have B_t := hide (And.intro hl_t hh_t)
  have O_other := hide o_other
  have B_other := hide (And.intro hl_other hh_other)
  have B_length := hide (And.intro hl_length hh_length)
  have B_from_ := hide (And.intro hl_from_ hh_from_)
  have HT := hide hT
  clear hT
  obtain ⟨st, rfl, P, gt⟩ := MayT.good hma (fun e he => (h_t.all e he).2)
  rw [h_t.len] at gt
  obtain rfl : n_t = st := by omega
  have G_t := hide gt
  have WY := hide (ways_of gt.zero gt.out)
  have hn4 := gt.hn
  clear gt hma hsq
  subst hso
  have M_o := hide hmo
  have q3 : ((n_t : Int) == (n_t : Int)) = true := by simp
  have q4 : ((n_other : Int) == (n_t : Int)) = false := by simp; omega
  have q5 : decide (n_other = n_t) = false := by simpa using hno
  clear hmo hno
  clear A00 A01 A02 h_t h_other o_t o_other e_t e_other hl_t hh_t hl_other hh_other hl_length hh_length hl_from_ hh_from_
  unfold setV
  go_enter Tryd.func3, Tryd.ntmps3
  obtain ⟨w1, hw1⟩ : ∃ x, w.alloc (.cells #[.int .i64 (n_t : Int), .slice a_t n_t c_t] 24) = x := ⟨_, rfl⟩
  have Aw1 := hide ((unhide A0).box (.int .i64 (n_t : Int)) (.slice a_t n_t c_t) 24)
  rw [hw1] at Aw1
  clear A0
  obtain ⟨w2, hw2⟩ : ∃ x, w1.alloc (.cells #[.int .i64 (n_t : Int), .slice a_other n_other c_other] 24) = x := ⟨_, rfl⟩
  have Aw2 := hide ((unhide Aw1).box (.int .i64 (n_t : Int)) (.slice a_other n_other c_other) 24)
  rw [hw2] at Aw2
  clear Aw1
  go_wp2_with fail
  have K := alive_any w2
  try unfold setV at K
  refine K.mono ?_
  clear K
  rintro _ w3 ⟨rfl, hb⟩
  have Aw3 := hide ((unhide Aw2).step hb)
  clear Aw2 hb
  have t4 := (unhide Aw3).t (w.heap.size) (.int .i64 (n_t : Int)) (.slice a_t n_t c_t) (.tail _ (.head _))
  have t4a := t4.c0
  have t4b := t4.c1
  clear t4
  go_wp2_with fail
  clear t4a t4b
  have Kw5 := closure_good n_t a_t c_t x_t P w3 ((unhide Aw3).ss (a_t) (n_t) c_t (x_t) (.tail _ (.tail _ (.tail _ (.head _))))) (unhide G_t)
  try unfold setV at Kw5
  refine Kw5.mono ?_
  clear Kw5
  rintro _ w5 ⟨a_c, c_c, x_c, rfl, hs, hk, hb⟩
  have G_c := hide ((unhide G_t).closure hk)
  have hle_c := hs.le
  have hcap_c := hs.cap
  unfold maxLen at hcap_c
  have Aw5 := hide (((unhide Aw3).step hb).add (fS a_c (n_t) c_c x_c) hs)
  clear Aw3 hs hb hk
  unfold setV
  obtain ⟨w6, hw6⟩ : ∃ x, w5.alloc (.cells #[.int .i64 (n_t : Int), .slice a_c n_t c_c] 24) = x := ⟨_, rfl⟩
  have Aw6 := hide ((unhide Aw5).box (.int .i64 (n_t : Int)) (.slice a_c n_t c_c) 24)
  rw [hw6] at Aw6
  clear Aw5
  have t7 := (unhide Aw6).t (w.heap.size) (.int .i64 (n_t : Int)) (.slice a_t n_t c_t) (.tail _ (.tail _ (.tail _ (.head _))))
  have t7a := t7.c0
  have t7b := t7.c1
  clear t7
  go_wp2_with fail
  clear t7a t7b
  have K := rmayT_any (n_t : Int) a_t n_t c_t x_t w6 ((unhide Aw6).ss (a_t) (n_t) c_t (x_t) (.tail _ (.tail _ (.tail _ (.tail _ (.tail _ (.head _)))))))
  rw [(unhide G_t).may] at K
  try unfold setV at K
  refine K.mono ?_
  clear K
  rintro _ w8 ⟨rfl, hb⟩
  have Aw8 := hide ((unhide Aw6).step hb)
  clear Aw6 hb
  have t9 := (unhide Aw8).t (w.heap.size) (.int .i64 (n_t : Int)) (.slice a_t n_t c_t) (.tail _ (.tail _ (.tail _ (.head _))))
  have t9a := t9.c0
  have t9b := t9.c1
  clear t9
  have t10 := (unhide Aw8).t (w5.heap.size) (.int .i64 (n_t : Int)) (.slice a_c n_t c_c) (.head _)
  have t10a := t10.c0
  have t10b := t10.c1
  clear t10
  go_wp2_with fail
  clear t9a t9b t10a t10b
  have Kw11 := product_good n_t n_t a_t c_t x_t P n_t a_c c_c x_c (waP P n_t) w8 ((unhide Aw8).ss (a_t) (n_t) c_t (x_t) (.tail _ (.tail _ (.tail _ (.tail _ (.tail _ (.head _))))))) ((unhide Aw8).ss (a_c) (n_t) c_c (x_c) (.tail _ (.head _))) (unhide G_t) (unhide G_c) ((unhide HT).below (unhide Aw8).bel)
  try unfold setV at Kw11
  refine Kw11.mono ?_
  clear Kw11
  rintro _ w11 ⟨a_p, c_p, x_p, rfl, hs, hk, hb⟩
  have G_p := hide ((unhide G_t).product (unhide G_c) hk)
  have hle_p := hs.le
  have hcap_p := hs.cap
  unfold maxLen at hcap_p
  have Aw11 := hide (((unhide Aw8).step hb).add (fS a_p (n_t) c_p x_p) hs)
  clear Aw8 hs hb hk
  unfold setV
  obtain ⟨w12, hw12⟩ : ∃ x, w11.alloc (.cells #[.int .i64 (n_t : Int), .slice a_p n_t c_p] 24) = x := ⟨_, rfl⟩
  have Aw12 := hide ((unhide Aw11).box (.int .i64 (n_t : Int)) (.slice a_p n_t c_p) 24)
  rw [hw12] at Aw12
  clear Aw11
  have t13 := (unhide Aw12).t (w5.heap.size) (.int .i64 (n_t : Int)) (.slice a_c n_t c_c) (.tail _ (.tail _ (.head _)))
  have t13a := t13.c0
  have t13b := t13.c1
  clear t13
  go_wp2_with fail
  clear t13a t13b
  have Kw14 := product_good n_t n_t a_c c_c x_c (waP P n_t) n_t a_c c_c x_c (waP P n_t) w12 ((unhide Aw12).ss (a_c) (n_t) c_c (x_c) (.tail _ (.tail _ (.tail _ (.head _))))) ((unhide Aw12).ss (a_c) (n_t) c_c (x_c) (.tail _ (.tail _ (.tail _ (.head _))))) (unhide G_c) (unhide G_c) ((unhide HT).below (unhide Aw12).bel)
  try unfold setV at Kw14
  refine Kw14.mono ?_
  clear Kw14
  rintro _ w14 ⟨a_q, c_q, x_q, rfl, hs, hk, hb⟩
  have G_q := hide ((unhide G_c).product (unhide G_c) hk)
  have hle_q := hs.le
  have hcap_q := hs.cap
  unfold maxLen at hcap_q
  have Aw14 := hide (((unhide Aw12).step hb).add (fS a_q (n_t) c_q x_q) hs)
  clear Aw12 hs hb hk
  unfold setV
  obtain ⟨w15, hw15⟩ : ∃ x, w14.alloc (.cells #[.int .i64 (n_t : Int), .slice a_q n_t c_q] 24) = x := ⟨_, rfl⟩
  have Aw15 := hide ((unhide Aw14).box (.int .i64 (n_t : Int)) (.slice a_q n_t c_q) 24)
  rw [hw15] at Aw15
  clear Aw14
  have t16 := (unhide Aw15).t (w5.heap.size) (.int .i64 (n_t : Int)) (.slice a_c n_t c_c) (.tail _ (.tail _ (.tail _ (.tail _ (.head _)))))
  have t16a := t16.c0
  have t16b := t16.c1
  clear t16
  go_wp2_with fail
  clear t16a t16b
  have Kw17 := closure_good n_t a_c c_c x_c (waP P n_t) w15 ((unhide Aw15).ss (a_c) (n_t) c_c (x_c) (.tail _ (.tail _ (.tail _ (.tail _ (.tail _ (.head _))))))) (unhide G_c)
  try unfold setV at Kw17
  refine Kw17.mono ?_
  clear Kw17
  rintro _ w17 ⟨a_d, c_d, x_d, rfl, hs, hk, hb⟩
  have G_d := hide ((unhide G_c).closure hk)
  have hle_d := hs.le
  have hcap_d := hs.cap
  unfold maxLen at hcap_d
  have Aw17 := hide (((unhide Aw15).step hb).add (fS a_d (n_t) c_d x_d) hs)
  clear Aw15 hs hb hk
  unfold setV
  obtain ⟨w18, hw18⟩ : ∃ x, w17.alloc (.cells #[.int .i64 (n_t : Int), .slice a_d n_t c_d] 24) = x := ⟨_, rfl⟩
  have Aw18 := hide ((unhide Aw17).box (.int .i64 (n_t : Int)) (.slice a_d n_t c_d) 24)
  rw [hw18] at Aw18
  clear Aw17
  go_wp2_with fail
  refine (num_any 0 w18).mono ?_
  rintro _ w' ⟨rfl, hw⟩
  obtain rfl := hw.symm
  go_wp2_with fail
  refine (num_any 0 w18).mono ?_
  rintro _ w' ⟨rfl, hw⟩
  obtain rfl := hw.symm
  go_wp2_with fail
  refine (num_any 0 w18).mono ?_
  rintro _ w' ⟨rfl, hw⟩
  obtain rfl := hw.symm
  go_wp2_with fail
  refine (num_any 0 w18).mono ?_
  rintro _ w' ⟨rfl, hw⟩
  obtain rfl := hw.symm
  have t19 := (unhide Aw18).t (w5.heap.size) (.int .i64 (n_t : Int)) (.slice a_c n_t c_c) (.tail _ (.tail _ (.tail _ (.tail _ (.tail _ (.tail _ (.head _)))))))
  have t19a := t19.c0
  have t19b := t19.c1
  clear t19
  have t20 := (unhide Aw18).t (w17.heap.size) (.int .i64 (n_t : Int)) (.slice a_d n_t c_d) (.head _)
  have t20a := t20.c0
  have t20b := t20.c1
  clear t20
  go_wp2_with fail
  clear t19a t19b t20a t20b
  have K := sameTable_eq (n_t : Int) (a_c) (a_d) n_t c_c c_d x_c x_d w18 ((unhide Aw18).ss (a_c) (n_t) c_c (x_c) (.tail _ (.tail _ (.tail _ (.tail _ (.tail _ (.tail _ (.tail _ (.head _))))))))) ((unhide Aw18).ss (a_d) (n_t) c_d (x_d) (.tail _ (.head _))) ((unhide G_d).key.trans ((congrArg (tabK n_t n_t) ((unhide WY).still n_t)).trans (unhide G_c).key.symm))
  try unfold setV at K
  refine K.mono ?_
  clear K
  rintro _ w21 ⟨rfl, hb⟩
  have Aw21 := hide ((unhide Aw18).step hb)
  clear Aw18 hb
  have t22 := (unhide Aw21).t (w5.heap.size) (.int .i64 (n_t : Int)) (.slice a_c n_t c_c) (.tail _ (.tail _ (.tail _ (.tail _ (.tail _ (.tail _ (.head _)))))))
  have t22a := t22.c0
  have t22b := t22.c1
  clear t22
  have t23 := (unhide Aw21).t (w.heap.size) (.int .i64 (n_t : Int)) (.slice a_t n_t c_t) (.tail _ (.tail _ (.tail _ (.tail _ (.tail _ (.tail _ (.tail _ (.tail _ (.tail _ (.head _))))))))))
  have t23a := t23.c0
  have t23b := t23.c1
  clear t23
  go_wp2_with fail
  clear t22a t22b t23a t23b
  go_loopw [17, 18, 19] (fun i _ _ wr => ∃ k : Nat, k ≤ n_t ∧ i = .int .i64 k ∧ Below w21.heap.size w21 wr) (fun i _ _ _ => n_t - (intOf i).toNat)
  case atStart => exact ⟨0, Nat.zero_le _, rfl, Below.refl _ _⟩
  case round =>
    obtain ⟨k, hk, rfl, hbl⟩ := hrel
    obtain ⟨W1, hW1⟩ : ∃ W1, W1 = wr := ⟨_, rfl⟩
    subst hW1
    have AR := hide (((unhide Aw21).step hbl).add (fBel w21) hbl)
    clear hbl
    by_cases hlt : k < n_t
    · have hlt' : (k : Int) < (n_t : Int) := by omega
      have hS_1 := ((unhide AR).ss (a_t) (n_t) c_t (x_t) (.tail _ (.tail _ (.tail _ (.tail _ (.tail _ (.tail _ (.tail _ (.tail _ (.tail _ (.tail _ (.tail _ (.tail _ (.head _))))))))))))))
      obtain ⟨b_1, o_1, rfl, hc_1⟩ := hS_1.at (by omega)
      have g1_1 := (hc_1 k hlt).1
      have g2_1 := (hc_1 k hlt).2
      have i_1 := (hS_1.get k hlt).1
      have gg_1 := (unhide G_t).get k hlt
      generalize x_t.getD k .nul = e_1 at *
      obtain ⟨es_1, ea_1, en_1, ec_1, ex_1⟩ := e_1
      simp only at g1_1 g2_1 gg_1
      obtain ⟨rfl, rfl⟩ := gg_1
      clear hc_1 hS_1
      have hS_2 := ((unhide AR).ss (a_p) (n_t) c_p (x_p) (.tail _ (.tail _ (.tail _ (.tail _ (.tail _ (.tail _ (.head _))))))))
      obtain ⟨b_2, o_2, rfl, hc_2⟩ := hS_2.at (by omega)
      have g1_2 := (hc_2 k hlt).1
      have g2_2 := (hc_2 k hlt).2
      have i_2 := (hS_2.get k hlt).1
      have gg_2 := (unhide G_p).get k hlt
      generalize x_p.getD k .nul = e_2 at *
      obtain ⟨es_2, ea_2, en_2, ec_2, ex_2⟩ := e_2
      simp only at g1_2 g2_2 gg_2
      obtain ⟨rfl, rfl⟩ := gg_2
      clear hc_2 hS_2
      have t24 := (unhide AR).t (w.heap.size) (.int .i64 (n_t : Int)) (.slice (some ⟨b_1, o_1, none⟩) n_t c_t) (.tail _ (.tail _ (.tail _ (.tail _ (.tail _ (.tail _ (.tail _ (.tail _ (.tail _ (.tail _ (.head _)))))))))))
      have t24a := t24.c0
      have t24b := t24.c1
      clear t24
      have t25 := (unhide AR).t (w11.heap.size) (.int .i64 (n_t : Int)) (.slice (some ⟨b_2, o_2, none⟩) n_t c_p) (.tail _ (.tail _ (.tail _ (.tail _ (.tail _ (.head _))))))
      have t25a := t25.c0
      have t25b := t25.c1
      clear t25
      have HKM := hide (fun (w' : World) (b : Nat) (hb : Below W1.heap.size W1 w') k0 k1 k2 k3 => union_two (n := n_t) (X := (wordsL n_t (waP P n_t k))) i_1 i_2 (Good.mk' (fun x hx => (unhide G_t).zero k x hx) hn4) (Good.mk' (fun x hx => (unhide G_p).zero k x hx) hn4) (words_eq (fun x _ => (unhide WY).one k x)) w' b hb k0 k1 k2 k3)
      have q0 : w.heap.size < W1.heap.size := World.block_lt_of_cell? _ _ t24a
      have n0 : w.heap.size ≠ W1.heap.size := by omega
      have m0 : w.heap.size ≠ W1.heap.size + 1 := by omega
      have q1 : w11.heap.size < W1.heap.size := World.block_lt_of_cell? _ _ t25b
      have n1 : w11.heap.size ≠ W1.heap.size := by omega
      have m1 : w11.heap.size ≠ W1.heap.size + 1 := by omega
      have q2 : b_1 < W1.heap.size := World.block_lt_of_cell? _ _ g1_1
      have n2 : b_1 ≠ W1.heap.size := by omega
      have m2 : b_1 ≠ W1.heap.size + 1 := by omega
      have q3 : b_2 < W1.heap.size := World.block_lt_of_cell? _ _ g1_2
      have n3 : b_2 ≠ W1.heap.size := by omega
      have m3 : b_2 ≠ W1.heap.size + 1 := by omega
      have hki : (0 : Int) ≤ (k : Int) := by omega
      go_wp2_with fail
      go_region_held3 (fun w' => w'.cell? ⟨w.heap.size, 0, none⟩ = some (.int .i64 (n_t : Int)) ∧ w'.cell? ⟨w.heap.size, 1, none⟩ = some (.slice (some ⟨b_1, o_1, none⟩) n_t c_t) ∧ w'.cell? ⟨w11.heap.size, 1, none⟩ = some (.slice (some ⟨b_2, o_2, none⟩) n_t c_p) ∧ w'.cell? ⟨b_1, o_1 + k * 2, none⟩ = some (.int .i64 (n_t : Int)) ∧ w'.cell? ⟨b_1, o_1 + k * 2 + 1, none⟩ = some (.slice ea_1 en_1 ec_1) ∧ w'.cell? ⟨b_2, o_2 + k * 2, none⟩ = some (.int .i64 (n_t : Int)) ∧ w'.cell? ⟨b_2, o_2 + k * 2 + 1, none⟩ = some (.slice ea_2 en_2 ec_2)) (first | go_keep | (refine ⟨?_, ?_, ?_, ?_, ?_, ?_, ?_⟩ <;> (rw [set2_other _ _ _ _ _ _ (by assumption)]; assumption)))
        (first | (go_at_call 14; refine (unhide HKM _ _ (by first | exact bel_one _ _ | exact bel_both _ _ _) (by simp) (by simp) (by simp) (by simp)).mono ?_; rintro _ wy ⟨ay, ny, cy, rfl, hs5, hb5, hq5, ho5⟩; have u0 := below_cell hq5 t24a; have u1 := below_cell hq5 t24b; have u2 := below_cell hq5 t25b; have u3 := below_cell hq5 g1_1; have u4 := below_cell hq5 g2_1; have u5 := below_cell hq5 g1_2; have u6 := below_cell hq5 g2_2; have H5 := hide (And.intro hs5 (And.intro hb5 (And.intro hq5 ho5))); have q5 := hq5.size; have v0 : w.heap.size < wy.heap.size := (by omega); have v1 : w11.heap.size < wy.heap.size := (by omega); have v2 : b_1 < wy.heap.size := (by omega); have v3 : b_2 < wy.heap.size := (by omega); (first | (have tb := box_first hb5; have k0 := tb.c0; have k1 := tb.c1; have k2 := tb.f0; have k3 := tb.f1; clear tb) | (have tb := box_then hb5; have k0 := tb.c0; have k1 := tb.c1; have k2 := tb.f0; have k3 := tb.f1; clear tb) | (have aa := box_none W1 hb5; clear aa)); clear hs5 hb5 hq5 ho5))
      all_goals
        first
        | (obtain ⟨wz, hz⟩ : ∃ x, wy.alloc (.cells #[.int .i64 (n_t : Int), .slice ay ny cy] 35) = x := ⟨_, rfl⟩
           rw [hz]
           obtain ⟨hs5, hb5, hq5, ho5⟩ := unhide H5
           have hbz : Below wy.heap.size wy wz := (by rw [← hz]; exact (Below.refl _ _).alloc (Nat.le_refl _) _)
           have hqz := hq5.trans (hbz.mono hq5.size)
           have TZ := hide (show Two wz wy.heap.size (.int .i64 (n_t : Int)) (.slice ay ny cy) from (by rw [← hz]; exact Two.made _ _ _ _))
           have SZ := hide (hs5.below hbz)
           obtain ⟨Y, hY⟩ : ∃ y, wy.heap.size = y := ⟨_, rfl⟩
           rw [hY] at TZ ⊢
           have OZ := hide ho5
           have QZ := hide hqz
           have AZ := hide ((unhide AR).step hqz)
           clear hs5 hq5 ho5 hqz hz hY H5 q5 v0 v1 v2 v3 u0 u1 u2 u3 u4 u5 u6 hb5 hbz)
        | (obtain ⟨wz, hz⟩ : ∃ x, (wy.setCell ⟨W1.heap.size, 0, none⟩ (.int .i64 (n_t : Int))).setCell ⟨W1.heap.size, 1, none⟩ (.slice ay ny cy) = x := ⟨_, rfl⟩
           rw [hz]
           obtain ⟨hs5, hb5, hq5, ho5⟩ := unhide H5
           have t5 : Two wy (W1.heap.size) (.int .i64 0) (.slice none 0 0) := ⟨k0, k1, k2, k3⟩
           have hqz : Below W1.heap.size W1 wz := (by rw [← hz]; exact two_below hq5 _ (by omega) _ _)
           have TZ := hide (show Two wz (W1.heap.size) (.int .i64 (n_t : Int)) (.slice ay ny cy) from (by rw [← hz]; exact t5.set _ _))
           have SZ := hide (show SlW wz ay ny cy (wordsL n_t (waP P n_t k)) from (by rw [← hz]; exact SlW.two hs5 t5 _ _))
           obtain ⟨Y, hY⟩ : ∃ y, W1.heap.size = y := ⟨_, rfl⟩
           rw [hY] at TZ ⊢
           have OZ := hide ho5
           have QZ := hide hqz
           have AZ := hide ((unhide AR).step hqz)
           clear hs5 hq5 ho5 hqz hz hY H5 q5 v0 v1 v2 v3 u0 u1 u2 u3 u4 u5 u6 hb5 t5 k0 k1 k2 k3)
        | (obtain ⟨wz, hz⟩ : ∃ x, (wy.setCell ⟨W1.heap.size + 1, 0, none⟩ (.int .i64 (n_t : Int))).setCell ⟨W1.heap.size + 1, 1, none⟩ (.slice ay ny cy) = x := ⟨_, rfl⟩
           rw [hz]
           obtain ⟨hs5, hb5, hq5, ho5⟩ := unhide H5
           have t5 : Two wy (W1.heap.size + 1) (.int .i64 0) (.slice none 0 0) := ⟨k0, k1, k2, k3⟩
           have hqz : Below W1.heap.size W1 wz := (by rw [← hz]; exact two_below hq5 _ (by omega) _ _)
           have TZ := hide (show Two wz (W1.heap.size + 1) (.int .i64 (n_t : Int)) (.slice ay ny cy) from (by rw [← hz]; exact t5.set _ _))
           have SZ := hide (show SlW wz ay ny cy (wordsL n_t (waP P n_t k)) from (by rw [← hz]; exact SlW.two hs5 t5 _ _))
           obtain ⟨Y, hY⟩ : ∃ y, W1.heap.size + 1 = y := ⟨_, rfl⟩
           rw [hY] at TZ ⊢
           have OZ := hide ho5
           have QZ := hide hqz
           have AZ := hide ((unhide AR).step hqz)
           clear hs5 hq5 ho5 hqz hz hY H5 q5 v0 v1 v2 v3 u0 u1 u2 u3 u4 u5 u6 hb5 t5 k0 k1 k2 k3)
      all_goals
        clear t24a t24b t25a t25b q0 q1 q2 q3 n0 n1 n2 n3 m0 m1 m2 m3 HKM g1_1 g2_1 i_1 g1_2 g2_2 i_2
        have hS_3 := ((unhide AZ).ss (a_c) (n_t) c_c (x_c) (.tail _ (.tail _ (.tail _ (.tail _ (.tail _ (.tail _ (.tail _ (.tail _ (.head _))))))))))
        obtain ⟨b_3, o_3, rfl, hc_3⟩ := hS_3.at (by omega)
        have g1_3 := (hc_3 k hlt).1
        have g2_3 := (hc_3 k hlt).2
        have i_3 := (hS_3.get k hlt).1
        have gg_3 := (unhide G_c).get k hlt
        generalize x_c.getD k .nul = e_3 at *
        obtain ⟨es_3, ea_3, en_3, ec_3, ex_3⟩ := e_3
        simp only at g1_3 g2_3 gg_3
        obtain ⟨rfl, rfl⟩ := gg_3
        clear hc_3 hS_3
        have hS_4 := ((unhide AZ).ss (a_q) (n_t) c_q (x_q) (.tail _ (.tail _ (.tail _ (.tail _ (.head _))))))
        obtain ⟨b_4, o_4, rfl, hc_4⟩ := hS_4.at (by omega)
        have g1_4 := (hc_4 k hlt).1
        have g2_4 := (hc_4 k hlt).2
        have i_4 := (hS_4.get k hlt).1
        have gg_4 := (unhide G_q).get k hlt
        generalize x_q.getD k .nul = e_4 at *
        obtain ⟨es_4, ea_4, en_4, ec_4, ex_4⟩ := e_4
        simp only at g1_4 g2_4 gg_4
        obtain ⟨rfl, rfl⟩ := gg_4
        clear hc_4 hS_4
        have hfn : en_3 = ny := by have x1 := i_3.len; have x2 := (unhide SZ).len; simp only at x1 x2; omega
        subst hfn
        have one0 := (unhide TZ).c0
        have one1 := (unhide TZ).c1
        have t26 := (unhide AZ).t (w5.heap.size) (.int .i64 (n_t : Int)) (.slice (some ⟨b_3, o_3, none⟩) n_t c_c) (.tail _ (.tail _ (.tail _ (.tail _ (.tail _ (.tail _ (.tail _ (.head _))))))))
        have t26a := t26.c0
        have t26b := t26.c1
        clear t26
        have t27 := (unhide AZ).t (w14.heap.size) (.int .i64 (n_t : Int)) (.slice (some ⟨b_4, o_4, none⟩) n_t c_q) (.tail _ (.tail _ (.tail _ (.head _))))
        have t27a := t27.c0
        have t27b := t27.c1
        clear t27
        have F_one0 := fun x : Ext wz => x.cell one0
        have F_one1 := fun x : Ext wz => x.cell one1
        have F_t26b := fun x : Ext wz => x.cell t26b
        have F_t27b := fun x : Ext wz => x.cell t27b
        have F_g1_3 := fun x : Ext wz => x.cell g1_3
        have F_g2_3 := fun x : Ext wz => x.cell g2_3
        have F_g1_4 := fun x : Ext wz => x.cell g1_4
        have F_g2_4 := fun x : Ext wz => x.cell g2_4
        have hNE := Ext.ne wz
        have K := fun x : Ext wz => (num_any 0 x.w).mono (fun e w' (h : _ ∧ _) => (⟨h.1, by rw [h.2]; exact Below.refl _ _⟩ : _ ∧ Below x.w.heap.size x.w w'))
        try unfold setV at K
        have HKE0 := hide K
        clear K
        have K := fun x : Ext wz => same_eq (n_t : Int) ay ea_3 en_3 cy ec_3 (wordsL n_t (waP P n_t k)) x.w ((unhide SZ).below x.bel) (i_3.below x.bel)
        try unfold setV at K
        have HKE1 := hide K
        clear K
        have K := fun x : Ext wz => subset_any (n_t : Int) ea_4 en_4 ec_4 _ (n_t : Int) ea_3 en_3 ec_3 _ x.w (i_4.below x.bel) (i_3.below x.bel) (Good.mk' (fun x hx => (unhide G_q).zero k x hx) hn4).ok (Good.mk' (fun x hx => (unhide G_c).zero k x hx) hn4).ok
        rw [subset_good (Good.mk' (fun x hx => (unhide G_q).zero k x hx) hn4) (Good.mk' (fun x hx => (unhide G_c).zero k x hx) hn4) (fun x hx => (unhide WY).two k x hx)] at K
        try unfold setV at K
        have HKE2 := hide K
        clear K
        go_wp2_with fail
        clear one0 one1 t26b t27b g1_3 g2_3 g1_4 g2_4
        refine wp_region_ext (by kernel_rfl) (by kernel_rfl) ?_
        repeat (go_big_quiet_step (first
          | (go_at_call 11; rename_i x; exact Ext.call (unhide HKE0 x) (fun e w' h => h))
          | (go_at_call 15; rename_i x; exact Ext.call (unhide HKE1 x) (fun e w' h => h))
          | (go_at_call 16; rename_i x; exact Ext.call (unhide HKE2 x) (fun e w' h => h))))
        refine wpQuiet_nil ?_
        rintro _ ⟨xe, rfl⟩
        clear F_one0 F_one1 F_t26b F_t27b F_g1_3 F_g2_3 F_g1_4 F_g2_4 HKE0 HKE1 HKE2
        have AX := hide ((unhide AZ).step xe.bel)
        go_wp2_with fail
        exact ⟨⟨k + 1, by omega, by go_num, (unhide AX).all _ (.head _)⟩, by simp [intOf]; omega⟩
    · have hlt' : ¬ (k : Int) < (n_t : Int) := by omega
      obtain rfl : n_t = k := by omega
      have t28 := (unhide AR).t (w1.heap.size) (.int .i64 (n_t : Int)) (.slice a_other n_other c_other) (.tail _ (.tail _ (.tail _ (.tail _ (.tail _ (.tail _ (.tail _ (.tail _ (.tail _ (.head _))))))))))
      have t28a := t28.c0
      have t28b := t28.c1
      clear t28
      have t29 := (unhide AR).t (w.heap.size) (.int .i64 (n_t : Int)) (.slice a_t n_t c_t) (.tail _ (.tail _ (.tail _ (.tail _ (.tail _ (.tail _ (.tail _ (.tail _ (.tail _ (.tail _ (.head _)))))))))))
      have t29a := t29.c0
      have t29b := t29.c1
      clear t29
      go_wp2_with fail
      clear t28a t28b t29a t29b
      have K := rmayT_any (n_t : Int) a_other n_other c_other x_other W1 ((unhide AR).ss (a_other) (n_other) c_other (x_other) (.tail _ (.tail _ (.tail _ (.tail _ (.tail _ (.tail _ (.tail _ (.tail _ (.tail _ (.tail _ (.tail _ (.head _)))))))))))))
      rw [unhide M_o] at K
      try unfold setV at K
      refine K.mono ?_
      clear K
      rintro _ w30 ⟨rfl, hb⟩
      have Aw30 := hide ((unhide AR).step hb)
      clear AR hb
      have t31 := (unhide Aw30).t (w1.heap.size) (.int .i64 (n_t : Int)) (.slice a_other n_other c_other) (.tail _ (.tail _ (.tail _ (.tail _ (.tail _ (.tail _ (.tail _ (.tail _ (.tail _ (.head _))))))))))
      have t31a := t31.c0
      have t31b := t31.c1
      clear t31
      have t32 := (unhide Aw30).t (w.heap.size) (.int .i64 (n_t : Int)) (.slice a_t n_t c_t) (.tail _ (.tail _ (.tail _ (.tail _ (.tail _ (.tail _ (.tail _ (.tail _ (.tail _ (.tail _ (.head _)))))))))))
      have t32a := t32.c0
      have t32b := t32.c1
      clear t32
      go_wp2_with fail
      clear t31a t31b t32a t32b
      have K := chain_any length from_ w30
      try unfold setV at K
      refine K.mono ?_
      clear K
      rintro _ w33 ⟨rfl, hb⟩
      have Aw33 := hide ((unhide Aw30).step hb)
      clear Aw30 hb
      go_wp2_with fail
      go_ret
      exact ⟨rfl, (unhide Aw33).bel⟩

end Go.Proofs.YtbendkndnojihabDoor
