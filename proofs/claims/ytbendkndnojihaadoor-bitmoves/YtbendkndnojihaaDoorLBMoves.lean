/-
  THE LAW BitMoves: out of the contracts; the row's step.
-/
import Derived.Test.YtbendkndnojihaaDoorBm3
import Derived.Test.YtbendkndnojihaaDoorBm5
import Derived.Test.YtbendkndnojihaaDoorBt8
import Derived.Test.YtbendkndnojihaaDoorBtg0
import Derived.Test.YtbendkndnojihaaDoorBu3
import Derived.Test.YtbendkndnojihaaDoorBq0
import Derived.Test.YtbendkndnojihaaDoorBtb
import Derived.Test.YtbendkndnojihaaDoorCards
import Derived.Test.YtbendkndnojihaaDoorTie
import Derived.SevenTiedAt
import Derived.LaidMore
import Derived.Stop.Joined
import Derived.Lib.LaidTab
namespace Go.Proofs.YtbendkndnojihaaDoor
open Go.ChangeShapes Go.WideShapes Go.ChangeAt Go.RowKit Go.Deep
set_option linter.unusedVariables false

set_option maxRecDepth 100000 in
set_option maxHeartbeats 64000000 in
theorem bitMoves_walk (s_s : Int) (a_s : Option Addr) (n_s c_s : Nat) (x_s : List Nat) (n : Int) (size : Int) (a_to : Option Addr) (n_to c_to : Nat) (x_to : List Int) (w : World) (h_s : SlW w a_s n_s c_s x_s) (o_s : OkW x_s) (b_s : n_s ≤ 17592186043904) (e_s : a_s = none → n_s = 0 ∧ c_s = 0) (hl_s : -9223372036854775808 ≤ s_s) (hh_s : s_s ≤ 9223372036854775807) (hl_n : -9223372036854775808 ≤ n) (hh_n : n ≤ 9223372036854775807) (hl_size : -9223372036854775808 ≤ size) (hh_size : size ≤ 9223372036854775807) (h_to : SlI w a_to n_to c_to x_to) (b_to : n_to ≤ 17592186043904) (e_to : a_to = none → n_to = 0 ∧ c_to = 0) (hT : Tab64 w) :
    Calls Tryd.prog 6 #[setV s_s a_s n_s c_s, .int .i64 n, .int .i64 size, .slice a_to n_to c_to] w fun e w' => e = .returned (.bool true) ∧ Below w.heap.size w w' := by
  have A00 : Facts w w [] := ⟨Below.refl _ _, fun f hf => by cases hf⟩
  have A01 := A00.add (fW a_s n_s c_s x_s) h_s
  have A02 := A01.add (fI a_to n_to c_to x_to) h_to
  have A0 := hide A02
  have O_s := hide o_s
  have E_s := hide e_s
  have B_s := hide (And.intro hl_s hh_s)
  have B_n := hide (And.intro hl_n hh_n)
  have B_size := hide (And.intro hl_size hh_size)
  have E_to := hide e_to
  have HT := hide hT
  clear hT
  clear A00 A01 A02 h_s h_to o_s e_s e_to hl_s hh_s hl_n hh_n hl_size hh_size
  obtain ⟨r1, hr_r1⟩ : ∃ r, shiftR s_s x_s n = r := ⟨_, rfl⟩
  have HR_r1 := hide hr_r1
  obtain ⟨s_r1, x_r1, e_r1⟩ := r1
  clear hr_r1
  obtain ⟨r2, hr_r2⟩ : ∃ r, moveR s_s x_s size x_to = r := ⟨_, rfl⟩
  have HR_r2 := hide hr_r2
  obtain ⟨s_r2, x_r2, e_r2⟩ := r2
  clear hr_r2
  unfold setV
  go_enter Tryd.func6, Tryd.ntmps6
  obtain ⟨w1, hw1⟩ : ∃ x, w.alloc (.cells #[.int .i64 s_s, .slice a_s n_s c_s] 24) = x := ⟨_, rfl⟩
  have Aw1 := hide ((unhide A0).box (.int .i64 s_s) (.slice a_s n_s c_s) 24)
  rw [hw1] at Aw1
  clear A0
  have t2 := (unhide Aw1).t (w.heap.size) (.int .i64 s_s) (.slice a_s n_s c_s) (.head _)
  have t2a := t2.c0
  have t2b := t2.c1
  clear t2
  go_wp2_with fail
  clear t2a t2b
  have Kw3 := twin_any s_s a_s n_s c_s x_s w1 ((unhide Aw1).w (a_s) (n_s) c_s (x_s) (.tail _ (.tail _ (.head _)))) b_s (unhide E_s)
  unfold setV at Kw3
  refine Kw3.mono ?_
  clear Kw3
  rintro _ w3 ⟨b_u, k_u, rfl, hs, hb⟩
  have Aw3 := hide (((unhide Aw1).step hb).add (fW (some ⟨b_u, 0, none⟩) (n_s + 1) k_u (x_s ++ [markN])) hs)
  clear Aw1 hs hb
  obtain ⟨w4, hw4⟩ : ∃ x, w3.alloc (.cells #[.int .i64 s_s, .slice (some ⟨b_u, 0, none⟩) n_s k_u] 24) = x := ⟨_, rfl⟩
  have Aw4 := hide ((unhide Aw3).box (.int .i64 s_s) (.slice (some ⟨b_u, 0, none⟩) n_s k_u) 24)
  rw [hw4] at Aw4
  clear Aw3
  go_wp2_with fail
  refine (lent_any a_to n_to c_to x_to w4 ((unhide Aw4).i (a_to) (n_to) c_to (x_to) (.tail _ (.tail _ (.tail _ (.head _))))) b_to (unhide E_to)).mono ?_
  rintro _ w5 ⟨b_l, k_l, rfl, hs, hb⟩
  have Aw5 := hide (((unhide Aw4).step hb).add (fI (some ⟨b_l, 0, none⟩) (n_to + 1) k_l (x_to ++ [77777])) hs)
  clear Aw4 hs hb
  have t6 := (unhide Aw5).t (w3.heap.size) (.int .i64 s_s) (.slice (some ⟨b_u, 0, none⟩) n_s k_u) (.tail _ (.head _))
  have t6a := t6.c0
  have t6b := t6.c1
  clear t6
  go_wp2_with fail
  clear t6a t6b
  have Kw7 := shift_any s_s (some ⟨b_u, 0, none⟩) n_s k_u x_s n w5 ((unhide Aw5).w (some ⟨b_u, 0, none⟩) (n_s + 1) k_u (x_s ++ [markN]) (.tail _ (.tail _ (.head _)))).init (unhide O_s) (unhide B_n).1 (unhide B_n).2
  rw [unhide HR_r1] at Kw7
  try unfold setV at Kw7
  refine Kw7.mono ?_
  clear Kw7
  rintro _ w7 ⟨a_a, n_a, c_a, rfl, hs, hb⟩
  have Aw7 := hide (((unhide Aw5).step hb).add (fW a_a n_a c_a x_r1) hs)
  clear Aw5 hs hb
  unfold setV
  obtain ⟨w8, hw8⟩ : ∃ x, w7.alloc (.cells #[.int .i64 s_r1, .slice a_a n_a c_a] 24) = x := ⟨_, rfl⟩
  have Aw8 := hide ((unhide Aw7).box (.int .i64 s_r1) (.slice a_a n_a c_a) 24)
  rw [hw8] at Aw8
  clear Aw7
  have t9 := (unhide Aw8).t (w.heap.size) (.int .i64 s_s) (.slice a_s n_s c_s) (.tail _ (.tail _ (.tail _ (.tail _ (.tail _ (.head _))))))
  have t9a := t9.c0
  have t9b := t9.c1
  clear t9
  go_wp2_with fail
  clear t9a t9b
  have Kw10 := rshift_any s_s a_s n_s c_s x_s n w8 ((unhide Aw8).w (a_s) (n_s) c_s (x_s) (.tail _ (.tail _ (.tail _ (.tail _ (.tail _ (.tail _ (.tail _ (.head _)))))))))
  rw [unhide HR_r1] at Kw10
  try unfold setV at Kw10
  refine Kw10.mono ?_
  clear Kw10
  rintro _ w10 ⟨a_b, n_b, c_b, rfl, hs, hb⟩
  have Aw10 := hide (((unhide Aw8).step hb).add (fW a_b n_b c_b x_r1) hs)
  clear Aw8 hs hb
  unfold setV
  obtain ⟨w11, hw11⟩ : ∃ x, w10.alloc (.cells #[.int .i64 s_r1, .slice a_b n_b c_b] 24) = x := ⟨_, rfl⟩
  have Aw11 := hide ((unhide Aw10).box (.int .i64 s_r1) (.slice a_b n_b c_b) 24)
  rw [hw11] at Aw11
  clear Aw10
  have t12 := (unhide Aw11).t (w3.heap.size) (.int .i64 s_s) (.slice (some ⟨b_u, 0, none⟩) n_s k_u) (.tail _ (.tail _ (.tail _ (.tail _ (.tail _ (.head _))))))
  have t12a := t12.c0
  have t12b := t12.c1
  clear t12
  go_wp2_with fail
  clear t12a t12b
  have Kw13 := move_any s_s (some ⟨b_u, 0, none⟩) n_s k_u x_s size (some ⟨b_l, 0, none⟩) n_to k_l x_to w11 ((unhide Aw11).w (some ⟨b_u, 0, none⟩) (n_s + 1) k_u (x_s ++ [markN]) (.tail _ (.tail _ (.tail _ (.tail _ (.tail _ (.tail _ (.head _)))))))).init (unhide O_s) ((unhide Aw11).i (some ⟨b_l, 0, none⟩) (n_to + 1) k_l (x_to ++ [77777]) (.tail _ (.tail _ (.tail _ (.tail _ (.head _)))))).init ((unhide HT).below (unhide Aw11).bel)
  rw [unhide HR_r2] at Kw13
  try unfold setV at Kw13
  refine Kw13.mono ?_
  clear Kw13
  rintro _ w13 ⟨a_c, n_c, c_c, rfl, hs, hb⟩
  have Aw13 := hide (((unhide Aw11).step hb).add (fW a_c n_c c_c x_r2) hs)
  clear Aw11 hs hb
  unfold setV
  obtain ⟨w14, hw14⟩ : ∃ x, w13.alloc (.cells #[.int .i64 s_r2, .slice a_c n_c c_c] 24) = x := ⟨_, rfl⟩
  have Aw14 := hide ((unhide Aw13).box (.int .i64 s_r2) (.slice a_c n_c c_c) 24)
  rw [hw14] at Aw14
  clear Aw13
  have t15 := (unhide Aw14).t (w.heap.size) (.int .i64 s_s) (.slice a_s n_s c_s) (.tail _ (.tail _ (.tail _ (.tail _ (.tail _ (.tail _ (.tail _ (.tail _ (.tail _ (.head _))))))))))
  have t15a := t15.c0
  have t15b := t15.c1
  clear t15
  go_wp2_with fail
  clear t15a t15b
  have Kw16 := rmove_any s_s a_s n_s c_s x_s size a_to n_to c_to x_to w14 ((unhide Aw14).w (a_s) (n_s) c_s (x_s) (.tail _ (.tail _ (.tail _ (.tail _ (.tail _ (.tail _ (.tail _ (.tail _ (.tail _ (.tail _ (.tail _ (.head _))))))))))))) ((unhide Aw14).i (a_to) (n_to) c_to (x_to) (.tail _ (.tail _ (.tail _ (.tail _ (.tail _ (.tail _ (.tail _ (.tail _ (.tail _ (.tail _ (.head _))))))))))))
  rw [unhide HR_r2] at Kw16
  try unfold setV at Kw16
  refine Kw16.mono ?_
  clear Kw16
  rintro _ w16 ⟨a_d, n_d, c_d, rfl, hs, hb⟩
  have Aw16 := hide (((unhide Aw14).step hb).add (fW a_d n_d c_d x_r2) hs)
  clear Aw14 hs hb
  unfold setV
  obtain ⟨w17, hw17⟩ : ∃ x, w16.alloc (.cells #[.int .i64 s_r2, .slice a_d n_d c_d] 24) = x := ⟨_, rfl⟩
  have Aw17 := hide ((unhide Aw16).box (.int .i64 s_r2) (.slice a_d n_d c_d) 24)
  rw [hw17] at Aw17
  clear Aw16
  have EL : n_b = n_a := by rw [← ((unhide Aw17).w (a_b) (n_b) c_b (x_r1) (.tail _ (.tail _ (.tail _ (.tail _ (.tail _ (.head _))))))).len, ← ((unhide Aw17).w (a_a) (n_a) c_a (x_r1) (.tail _ (.tail _ (.tail _ (.tail _ (.tail _ (.tail _ (.tail _ (.head _))))))))).len]
  subst EL
  have t18 := (unhide Aw17).t (w7.heap.size) (.int .i64 s_r1) (.slice a_a n_b c_a) (.tail _ (.tail _ (.tail _ (.tail _ (.tail _ (.tail _ (.head _)))))))
  have t18a := t18.c0
  have t18b := t18.c1
  clear t18
  have t19 := (unhide Aw17).t (w10.heap.size) (.int .i64 s_r1) (.slice a_b n_b c_b) (.tail _ (.tail _ (.tail _ (.tail _ (.head _)))))
  have t19a := t19.c0
  have t19b := t19.c1
  clear t19
  go_wp2_with fail
  clear t18a t18b t19a t19b
  have Kw20 := same_eq s_r1 a_a a_b n_b c_a c_b x_r1 w17 ((unhide Aw17).w (a_a) (n_b) c_a (x_r1) (.tail _ (.tail _ (.tail _ (.tail _ (.tail _ (.tail _ (.tail _ (.head _))))))))) ((unhide Aw17).w (a_b) (n_b) c_b (x_r1) (.tail _ (.tail _ (.tail _ (.tail _ (.tail _ (.head _)))))))
  unfold setV at Kw20
  refine Kw20.mono ?_
  clear Kw20
  rintro _ w20 ⟨rfl, hb⟩
  have Aw20 := hide ((unhide Aw17).step hb)
  clear Aw17 hb
  go_wp2_with fail
  refine (num_any e_r1 w20).mono ?_
  rintro _ w' ⟨rfl, hw⟩
  obtain rfl := hw.symm
  have EL : n_d = n_c := by rw [← ((unhide Aw20).w (a_d) (n_d) c_d (x_r2) (.tail _ (.head _))).len, ← ((unhide Aw20).w (a_c) (n_c) c_c (x_r2) (.tail _ (.tail _ (.tail _ (.head _))))).len]
  subst EL
  have t21 := (unhide Aw20).t (w13.heap.size) (.int .i64 s_r2) (.slice a_c n_d c_c) (.tail _ (.tail _ (.head _)))
  have t21a := t21.c0
  have t21b := t21.c1
  clear t21
  have t22 := (unhide Aw20).t (w16.heap.size) (.int .i64 s_r2) (.slice a_d n_d c_d) (.head _)
  have t22a := t22.c0
  have t22b := t22.c1
  clear t22
  go_wp2_with fail
  clear t21a t21b t22a t22b
  have Kw23 := same_eq s_r2 a_c a_d n_d c_c c_d x_r2 w20 ((unhide Aw20).w (a_c) (n_d) c_c (x_r2) (.tail _ (.tail _ (.tail _ (.head _))))) ((unhide Aw20).w (a_d) (n_d) c_d (x_r2) (.tail _ (.head _)))
  unfold setV at Kw23
  refine Kw23.mono ?_
  clear Kw23
  rintro _ w23 ⟨rfl, hb⟩
  have Aw23 := hide ((unhide Aw20).step hb)
  clear Aw20 hb
  go_wp2_with fail
  refine (num_any e_r2 w23).mono ?_
  rintro _ w' ⟨rfl, hw⟩
  obtain rfl := hw.symm
  have t24 := (unhide Aw23).t (w3.heap.size) (.int .i64 s_s) (.slice (some ⟨b_u, 0, none⟩) n_s k_u) (.tail _ (.tail _ (.tail _ (.tail _ (.tail _ (.tail _ (.tail _ (.tail _ (.tail _ (.head _))))))))))
  have t24a := t24.c0
  have t24b := t24.c1
  clear t24
  have t25 := (unhide Aw23).t (w.heap.size) (.int .i64 s_s) (.slice a_s n_s c_s) (.tail _ (.tail _ (.tail _ (.tail _ (.tail _ (.tail _ (.tail _ (.tail _ (.tail _ (.tail _ (.tail _ (.head _))))))))))))
  have t25a := t25.c0
  have t25b := t25.c1
  clear t25
  go_wp2_with fail
  clear t24a t24b t25a t25b
  have Kw26 := kept_any s_s b_u k_u a_s n_s c_s x_s w23 ((unhide Aw23).w (some ⟨b_u, 0, none⟩) (n_s + 1) k_u (x_s ++ [markN]) (.tail _ (.tail _ (.tail _ (.tail _ (.tail _ (.tail _ (.tail _ (.tail _ (.tail _ (.tail _ (.head _)))))))))))) ((unhide Aw23).w (a_s) (n_s) c_s (x_s) (.tail _ (.tail _ (.tail _ (.tail _ (.tail _ (.tail _ (.tail _ (.tail _ (.tail _ (.tail _ (.tail _ (.tail _ (.tail _ (.head _)))))))))))))))
  unfold setV at Kw26
  refine Kw26.mono ?_
  clear Kw26
  rintro _ w26 ⟨rfl, hb⟩
  have Aw26 := hide ((unhide Aw23).step hb)
  clear Aw23 hb
  go_wp2_with fail
  refine (back_any b_l k_l a_to n_to c_to x_to w26 ((unhide Aw26).i (some ⟨b_l, 0, none⟩) (n_to + 1) k_l (x_to ++ [77777]) (.tail _ (.tail _ (.tail _ (.tail _ (.tail _ (.tail _ (.tail _ (.tail _ (.head _)))))))))) ((unhide Aw26).i (a_to) (n_to) c_to (x_to) (.tail _ (.tail _ (.tail _ (.tail _ (.tail _ (.tail _ (.tail _ (.tail _ (.tail _ (.tail _ (.tail _ (.tail _ (.head _))))))))))))))).mono ?_
  rintro _ w27 ⟨rfl, hb⟩
  have Aw27 := hide ((unhide Aw26).step hb)
  clear Aw26 hb
  go_wp2_with fail
  go_ret
  exact ⟨rfl, (unhide Aw27).bel⟩

set_option maxRecDepth 100000 in
theorem bitMoves_door (os : Os) (args : Array Value) : laidMetH Tryd.prog [("math/bits.deBruijn64tab", Rows.laid_math_bits_deBruijn64tab)] ((World.doorLaid Tryd.prog 400 os).forCall (fun _ _ => 0) ⟨#[], args, []⟩).memory :=
  laidMetH_of_parts3 (fuel := 8) (laidMet_of_run' 8 (by kernel_rfl) (by kernel_rfl)) (by kernel_rfl) (by kernel_rfl)

set_option maxRecDepth 100000 in
theorem bitMoves_lifted (os : Os) (started : os.Started) (H : Type) (enc : TypeId × Value → H) :
    ReturnsInHanded {} Tryd.checked os 6 .any (fun w args => (Rows.bitMovesSpec.pre enc Tryd.prog Tryd.f6 [] false w args ∧ laidMetH Tryd.prog [("math/bits.deBruijn64tab", Rows.laid_math_bits_deBruijn64tab)] w) ∧ sizedMet enc Tryd.prog Tryd.f6 (OpenSpec.ofChange Rows.bitMovesSpec) false w args) (Rows.bitMovesSpec.post enc Tryd.prog Tryd.f6 false true false false) := by
  refine returnsInHanded_of_change_and (C := Tryd.checked) (X := fun w _ => laidMetH Tryd.prog [("math/bits.deBruijn64tab", Rows.laid_math_bits_deBruijn64tab)] w) (fun _ _ _ hh h => h.of_heap hh) law_own started (by kernel_rfl) Tryd.func6
    (ChangeSpec.witness_shaped (enc := enc) (C := Tryd.checked) (os := os) (X := fun w _ => laidMetH Tryd.prog [("math/bits.deBruijn64tab", Rows.laid_math_bits_deBruijn64tab)] w) false (World.doorLaid Tryd.prog 400 os) #[.agg #[.int .i64 0, .slice none 0 0], .int .i64 0, .int .i64 0, .slice none 0 0] 8 rfl (World.shaped_of_RefB (by kernel_rfl) (by kernel_rfl)) (by kernel_rfl) (by kernel_rfl) (by kernel_rfl) (bitMoves_door os _)) ?_
  intro W base args ds gs before hval0 hW hcnd hsz hL _
  have hval : ∀ (j : Nat) t v, Tryd.f6.params[j]? = some t → args[j]? = some v → Value.okWide Tryd.prog W .any base t v := hval0
  have hW' := hW
  obtain ⟨p, q, hA0, hV, rfl, hfz, hnd⟩ := hW
  have hA : DataW.TrodAll enc Tryd.prog W 0 (fun _ => true) true Tryd.f6.params.toList args.toList ds p := hA0
  rw [Tryd.params6] at hA hval hsz
  obtain ⟨v0, vs0, d0, ds0, p0, q0, hargs, rfl, rfl, h0, r0⟩ := trodAll_cons hA
  obtain ⟨v1, vs1, d1, ds1, p1, q1, rfl, rfl, rfl, h1, r1⟩ := trodAll_cons r0
  obtain ⟨v2, vs2, d2, ds2, p2, q2, rfl, rfl, rfl, h2, r2⟩ := trodAll_cons r1
  obtain ⟨v3, vs3, d3, ds3, p3, q3, rfl, rfl, rfl, h3, r3⟩ := trodAll_cons r2
  obtain ⟨rfl, rfl, rfl⟩ := trodAll_nil r3
  obtain rfl : args = #[v0, v1, v2, v3] := by cases args; simp_all
  obtain ⟨rfl, rfl⟩ := trodVars_none hV
  have k0 := h0
  have lt0 : ∀ x ∈ p0, x.block < W.heap.size := by obtain ⟨m, hm⟩ := k0; exact DataW.trod_lt m _ _ _ hm
  obtain ⟨s0, a0, n0, c0, x0, rfl, l0, g0, y0, o0, b0, e0⟩ := arg_set (hval 0 24 v0 rfl rfl) h0 (fun k hk => by simpa using List.all_eq_true.1 hsz k (DataW.weights_mem_each (j := 0) rfl rfl k hk))
  obtain ⟨i1, rfl, rfl, rfl, wf1⟩ := open_int Tryd.underlying3 (hval 1 3 v1 rfl rfl) h1
  obtain ⟨i2, rfl, rfl, rfl, wf2⟩ := open_int Tryd.underlying3 (hval 2 3 v2 rfl rfl) h2
  have k3 := h3
  have lt3 : ∀ x ∈ p3, x.block < W.heap.size := by obtain ⟨m, hm⟩ := k3; exact DataW.trod_lt m _ _ _ hm
  obtain ⟨a3, n3, c3, rfl⟩ := okWide_slice Tryd.underlying31 (hval 3 31 v3 rfl rfl)
  obtain ⟨x3, y3, o3, b3, e3⟩ := arg_ints h3 (fun el sp e => by subst e; exact sized_slice (j := 3) hsz rfl rfl Tryd.underlying31)
  clear hA0 hval0
  have hT : Tab64 W := by
    rw [MakeChecks.laidMetH_plain _ _ _ (by kernel_rfl)] at hL
    have hI := Lib.tabIs_of_head (k := .u8) (zs := tab64) (rest := []) (show Tryd.prog.globalNamed "math/bits.deBruijn64tab" = some 0 by kernel_rfl) (show (Tryd.prog.globals[0]?).map (·.type) = some 82 by kernel_rfl) Tryd.underlying82 Tryd.underlying5 (by kernel_rfl) (by kernel_rfl) hL
    intro j hj
    exact hI.cell (by kernel_rfl) j hj
  refine (bitMoves_walk s0 a0 n0 c0 x0 i1 i2 a3 n3 c3 x3 W y0 o0 b0 e0 l0 g0 (bounds_i64 wf1).1 (bounds_i64 wf1).2 (bounds_i64 wf2).1 (bounds_i64 wf2).2 y3 b3 e3 hT).mono fun e W' ⟨he, bel⟩ => ?_
  subst he
  exact ⟨_, rfl, _, _, _, [], _, [], hW', trodAll_mk1 (shut_bool Tryd.underlying4 _), (trodAll_cons_mk (Below.trod law_laid (by kernel_rfl) (of_decide_eq_true (by kernel_rfl)) k0 bel lt0) (trodAll_cons_mk (shut_int Tryd.underlying3 wf1) (trodAll_cons_mk (shut_int Tryd.underlying3 wf2) (trodAll_cons_mk (Below.trod law_laid (by kernel_rfl) (of_decide_eq_true (by kernel_rfl)) k3 bel lt3) trodAll_mk0)))), rfl, bel.frame _, fun h => by cases h⟩

theorem bitMoves_row : Rows.BitMovesSaid :=
  OpenClaim.holds_of_wide 6 Tryd.f6 rfl rfl rfl rfl rfl rfl rfl ⟨rfl, rfl, rfl, rfl, rfl⟩ rfl rfl rfl rfl rfl (by kernel_rfl) Tryd.func6 (by kernel_rfl)
    (of_decide_eq_true (by kernel_rfl)) (by unfold Func.isWrapper; first | (rw [if_pos (by decide +kernel)]; kernel_rfl) | (rw [if_neg (by decide +kernel)]; exact ⟨rfl, rfl⟩))
    (fun os started H enc _ => bitMoves_lifted os started H enc)

theorem bitMoves_holds : Rows.BitMovesCardSaid :=
  Claim7.holds_tied_plain_at .later [] [.data] true Rows.bitMovesCard.stood.harness false
    bitMoves_row (fun _ h => by cases h) (by kernel_rfl) (fun _ h => by cases h) bitMoves_row_tie rfl ⟨rfl, rfl⟩ (by kernel_rfl) rfl
    (fun f fn hf hfn => by
      obtain rfl : f = 6 := Option.some.inj ((show Tryd.prog.funcNamed "slope/slopelaw3.BitMoves" = some 6 by kernel_rfl).symm.trans hf) |>.symm
      obtain rfl : fn = Tryd.f6 := (Option.some.inj (Tryd.func6.symm.trans hfn)).symm
      exact ⟨by kernel_rfl, fun j t ht => by
        rw [Tryd.params6] at ht
        have hm : t ∈ [24, 3, 3, 31] := by simpa using Array.mem_of_getElem? ht
        have hall : ([24, 3, 3, 31].all fun u => !Tryd.prog.wantsStandIn u) = true := by kernel_rfl
        exact (show Tryd.prog.wantsStandIn t = false by simpa using List.all_eq_true.1 hall t hm)⟩)
    (by kernel_rfl)
#print axioms bitMoves_holds
end Go.Proofs.YtbendkndnojihaaDoor
