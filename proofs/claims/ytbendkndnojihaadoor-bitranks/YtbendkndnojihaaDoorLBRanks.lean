/-
  THE LAW BitRanks: out of the contracts; the row's step.
-/
import Derived.Test.YtbendkndnojihaaDoorBz3
import Derived.Test.YtbendkndnojihaaDoorBz4
import Derived.Test.YtbendkndnojihaaDoorBz5
import Derived.Test.YtbendkndnojihaaDoorBz6
import Derived.Test.YtbendkndnojihaaDoorBz7
import Derived.Test.YtbendkndnojihaaDoorBzb
import Derived.Test.YtbendkndnojihaaDoorBl5
import Derived.Test.YtbendkndnojihaaDoorBt8
import Derived.Test.YtbendkndnojihaaDoorBtg0
import Derived.Test.YtbendkndnojihaaDoorBu3
import Derived.Test.YtbendkndnojihaaDoorBq0
import Derived.Test.YtbendkndnojihaaDoorCards
import Derived.Test.YtbendkndnojihaaDoorTie
import Derived.SevenTiedAt
import Derived.LaidMore
import Derived.Stop.Joined
import Derived.Lib.LaidTab
namespace Go.Proofs.YtbendkndnojihaaDoor
open Go.ChangeShapes Go.WideShapes Go.ChangeAt Go.RowKit Go.Deep
set_option linter.unusedVariables false

set_option maxRecDepth 100000 in
set_option maxHeartbeats 64000000 in
theorem bitRanks_no (size : Int) (a_x : Option Addr) (n_x c_x : Nat) (x_x : List Int) (w : World) (hl_size : -9223372036854775808 ≤ size) (hh_size : size ≤ 9223372036854775807) (h_x : SlI w a_x n_x c_x x_x) (b_x : n_x ≤ 17592186043904) (e_x : a_x = none → n_x = 0 ∧ c_x = 0) (er : Int) (her : ¬ er = 0) (hmk : mkR size x_x = (0, [], er)) :
    Calls Tryd.prog 4 #[.int .i64 size, .slice a_x n_x c_x] w fun e w' => e = .returned (.bool true) ∧ Below w.heap.size w w' := by
  have A00 : Facts w w [] := ⟨Below.refl _ _, fun f hf => by cases hf⟩
  have A01 := A00.add (fI a_x n_x c_x x_x) h_x
  have A0 := hide A01
  have B_size := hide (And.intro hl_size hh_size)
  have E_x := hide e_x
  have HMK := hide hmk
  have her2 : (er == 0) = false := by simp [her]
  clear hmk
  clear A00 A01 h_x e_x hl_size hh_size
  go_enter Tryd.func4, Tryd.ntmps4
  go_wp2_with fail
  have K := alive_any w
  try unfold setV at K
  refine K.mono ?_
  clear K
  rintro _ w1 ⟨rfl, hb⟩
  have Aw1 := hide ((unhide A0).step hb)
  clear A0 hb
  go_wp2_with fail
  have Kw2 := make_any size a_x n_x c_x x_x w1 ((unhide Aw1).i (a_x) (n_x) c_x (x_x) (.head _))
  rw [unhide HMK] at Kw2
  try unfold setV at Kw2
  refine Kw2.mono ?_
  clear Kw2
  rintro _ w2 ⟨a_s, n_s, c_s, rfl, hs, hb⟩
  have Aw2 := hide (((unhide Aw1).step hb).add (fW a_s n_s c_s ([] : List Nat)) hs)
  clear Aw1 hs hb
  unfold setV
  obtain ⟨w3, hw3⟩ : ∃ x, w2.alloc (.cells #[.int .i64 0, .slice a_s n_s c_s] 24) = x := ⟨_, rfl⟩
  have Aw3 := hide ((unhide Aw2).box (.int .i64 0) (.slice a_s n_s c_s) 24)
  rw [hw3] at Aw3
  clear Aw2
  have hn_s : n_s = 0 := by rw [← ((unhide Aw3).w (a_s) (n_s) c_s (([] : List Nat)) (.tail _ (.head _))).len]; rfl
  subst hn_s
  go_wp2_with fail
  refine (num_any er w3).mono ?_
  rintro _ w' ⟨rfl, hw⟩
  obtain rfl := hw.symm
  have t4 := (unhide Aw3).t (w2.heap.size) (.int .i64 0) (.slice a_s 0 c_s) (.head _)
  have t4a := t4.c0
  have t4b := t4.c1
  clear t4
  go_wp2_with fail
  go_ret
  exact ⟨rfl, (unhide Aw3).bel⟩

set_option maxRecDepth 100000 in
set_option maxHeartbeats 64000000 in
theorem bitRanks_yes (size : Int) (a_x : Option Addr) (n_x c_x : Nat) (x_x : List Int) (w : World) (hl_size : -9223372036854775808 ≤ size) (hh_size : size ≤ 9223372036854775807) (h_x : SlI w a_x n_x c_x x_x) (b_x : n_x ≤ 17592186043904) (e_x : a_x = none → n_x = 0 ∧ c_x = 0) (hf : fitsI size = true) (hb : x_x.any (badE size) = false) (hT : Tab64 w) :
    Calls Tryd.prog 4 #[.int .i64 size, .slice a_x n_x c_x] w fun e w' => e = .returned (.bool true) ∧ Below w.heap.size w w' := by
  have A00 : Facts w w [] := ⟨Below.refl _ _, fun f hf => by cases hf⟩
  have A01 := A00.add (fI a_x n_x c_x x_x) h_x
  have A0 := hide A01
  have B_size := hide (And.intro hl_size hh_size)
  have E_x := hide e_x
  obtain ⟨sz, rfl, hsz⟩ := fitsI_nat hf
  have HT := hide hT
  obtain ⟨X, hX⟩ : ∃ X, wordsL sz (fun x => x_x.any (fun e => e == (x : Int))) = X := ⟨_, rfl⟩
  have gd := make_good hf hb
  simp only [Int.toNat_natCast] at gd
  rw [hX] at gd
  have RK := rkf hsz hb gd
  have HMK := hide (show mkR (sz : Int) x_x = ((sz : Int), X, 0) by simp [mkR, hf, hb, hX])
  have OX := hide gd.ok
  have lx := h_x.len
  have hlex := h_x.le
  have hcapx := h_x.cap
  unfold maxLen at hcapx
  obtain ⟨N, hN⟩ : ∃ N, countR sz X = N := ⟨_, rfl⟩
  have HN := hide hN
  have hNl : N ≤ n_x := by rw [← hN, ← lx]; exact RK.le
  have hN4 : N ≤ 4096 := by rw [← hN]; exact RK.le2
  have R1 := hide RK.all
  have R2 := hide RK.end_
  have R3 := hide RK.neg
  have R4 := hide RK.at_
  have R5 := hide RK.next
  have R6 := hide RK.mem
  have R7 := hide RK.last
  have R8 := hide RK.range
  rw [hN] at R1 R2 R4 R5 R8
  have LX := hide lx
  clear hf hb hT hX gd RK hN lx
  clear A00 A01 h_x e_x hl_size hh_size
  go_enter Tryd.func4, Tryd.ntmps4
  go_wp2_with fail
  have K := alive_any w
  try unfold setV at K
  refine K.mono ?_
  clear K
  rintro _ w1 ⟨rfl, hb⟩
  have Aw1 := hide ((unhide A0).step hb)
  clear A0 hb
  go_wp2_with fail
  have Kw2 := make_any (sz : Int) a_x n_x c_x x_x w1 ((unhide Aw1).i (a_x) (n_x) c_x (x_x) (.head _))
  rw [unhide HMK] at Kw2
  try unfold setV at Kw2
  refine Kw2.mono ?_
  clear Kw2
  rintro _ w2 ⟨a_s, n_s, c_s, rfl, hs, hb⟩
  have Aw2 := hide (((unhide Aw1).step hb).add (fW a_s n_s c_s X) hs)
  clear Aw1 hs hb
  unfold setV
  obtain ⟨w3, hw3⟩ : ∃ x, w2.alloc (.cells #[.int .i64 (sz : Int), .slice a_s n_s c_s] 24) = x := ⟨_, rfl⟩
  have Aw3 := hide ((unhide Aw2).box (.int .i64 (sz : Int)) (.slice a_s n_s c_s) 24)
  rw [hw3] at Aw3
  clear Aw2
  go_wp2_with fail
  refine (num_any 0 w3).mono ?_
  rintro _ w' ⟨rfl, hw⟩
  obtain rfl := hw.symm
  have t4 := (unhide Aw3).t (w2.heap.size) (.int .i64 (sz : Int)) (.slice a_s n_s c_s) (.head _)
  have t4a := t4.c0
  have t4b := t4.c1
  clear t4
  go_wp2_with fail
  clear t4a t4b
  have K := Count_any (sz : Int) a_s n_s c_s X w3 ((unhide Aw3).w (a_s) (n_s) c_s (X) (.tail _ (.head _))) (unhide OX)
  rw [unhide HN] at K
  try unfold setV at K
  refine K.mono ?_
  clear K
  rintro _ w5 ⟨rfl, hb⟩
  have Aw5 := hide ((unhide Aw3).step hb)
  clear Aw3 hb
  have hNx : ¬ (n_x : Int) < (N : Int) := by omega
  have hNd : decide (n_x < N) = false := by simp; omega
  have hNx2 : ((N : Int) == (N : Int)) = true := by simp
  have t6 := (unhide Aw5).t (w2.heap.size) (.int .i64 (sz : Int)) (.slice a_s n_s c_s) (.head _)
  have t6a := t6.c0
  have t6b := t6.c1
  clear t6
  go_wp2_with fail
  clear t6a t6b
  have K := rank_any (sz : Int) a_s n_s c_s X (sz : Int) w5 ((unhide Aw5).w (a_s) (n_s) c_s (X) (.tail _ (.head _))) (unhide OX) (by omega) (by omega)
  rw [unhide R1] at K
  try unfold setV at K
  refine K.mono ?_
  clear K
  rintro _ w7 ⟨rfl, hb⟩
  have Aw7 := hide ((unhide Aw5).step hb)
  clear Aw5 hb
  have t8 := (unhide Aw7).t (w2.heap.size) (.int .i64 (sz : Int)) (.slice a_s n_s c_s) (.head _)
  have t8a := t8.c0
  have t8b := t8.c1
  clear t8
  go_wp2_with fail
  clear t8a t8b
  have K := select_any (sz : Int) a_s n_s c_s X (N : Int) w7 ((unhide Aw7).w (a_s) (n_s) c_s (X) (.tail _ (.head _))) (unhide OX) (by omega) (by omega) ((unhide HT).below (unhide Aw7).bel)
  rw [unhide R2] at K
  try unfold setV at K
  refine K.mono ?_
  clear K
  rintro _ w9 ⟨rfl, hb⟩
  have Aw9 := hide ((unhide Aw7).step hb)
  clear Aw7 hb
  have t10 := (unhide Aw9).t (w2.heap.size) (.int .i64 (sz : Int)) (.slice a_s n_s c_s) (.head _)
  have t10a := t10.c0
  have t10b := t10.c1
  clear t10
  go_wp2_with fail
  clear t10a t10b
  have K := select_any (sz : Int) a_s n_s c_s X (-1) w9 ((unhide Aw9).w (a_s) (n_s) c_s (X) (.tail _ (.head _))) (unhide OX) (by omega) (by omega) ((unhide HT).below (unhide Aw9).bel)
  rw [unhide R3] at K
  try unfold setV at K
  refine K.mono ?_
  clear K
  rintro _ w11 ⟨rfl, hb⟩
  have Aw11 := hide ((unhide Aw9).step hb)
  clear Aw9 hb
  have t12 := (unhide Aw11).t (w2.heap.size) (.int .i64 (sz : Int)) (.slice a_s n_s c_s) (.head _)
  have t12a := t12.c0
  have t12b := t12.c1
  clear t12
  go_wp2_with fail
  clear t12a t12b
  go_loopw [9, 8, 10, 11, 12] (fun i at_ _ _ _ wr => ∃ k : Nat, k ≤ N ∧ i = .int .i64 k ∧ at_ = .int .i64 (selR (sz : Int) X ((k : Int) - 1)) ∧ Below w11.heap.size w11 wr) (fun i _ _ _ _ _ => N - (intOf i).toNat)
  case atStart => exact ⟨0, Nat.zero_le _, rfl, by rw [show (((0 : Nat) : Int) - 1) = -1 from rfl, unhide R3], Below.refl _ _⟩
  case round =>
    obtain ⟨k, hk, rfl, rfl, hbl⟩ := hrel
    obtain ⟨W1, hW1⟩ : ∃ W1, W1 = wr := ⟨_, rfl⟩
    subst hW1
    have AR := hide (((unhide Aw11).step hbl).add (fBel w11) hbl)
    clear hbl
    by_cases hlt : k < N
    · have hlt' : (k : Int) < (N : Int) := by omega
      obtain ⟨c, c1, c2, c3, c4, c5, c6, c7, c8, c9⟩ := unhide R4 k hlt
      obtain ⟨A, hA⟩ : ∃ A, selR (sz : Int) X ((k : Int) - 1) = A := ⟨_, rfl⟩
      rw [hA] at c7 c8 c9 ⊢
      have C2 := hide c2
      have C3 := hide c3
      have C4 := hide c4
      have C5 := hide c5
      have C6 := hide c6
      have C9 := hide c9
      have e1 : ¬ (c : Int) ≤ A := by omega
      clear c2 c3 c4 c5 c6 c9 hA
      have t13 := (unhide AR).t (w2.heap.size) (.int .i64 (sz : Int)) (.slice a_s n_s c_s) (.tail _ (.head _))
      have t13a := t13.c0
      have t13b := t13.c1
      clear t13
      go_wp2_with fail
      clear t13a t13b
      have K := select_any (sz : Int) a_s n_s c_s X (k : Int) W1 ((unhide AR).w (a_s) (n_s) c_s (X) (.tail _ (.tail _ (.head _)))) (unhide OX) (by omega) (by omega) ((unhide HT).below (unhide AR).bel)
      rw [unhide C2] at K
      try unfold setV at K
      refine K.mono ?_
      clear K
      rintro _ w14 ⟨rfl, hb⟩
      have Aw14 := hide ((unhide AR).step hb)
      clear AR hb
      have t15 := (unhide Aw14).t (w2.heap.size) (.int .i64 (sz : Int)) (.slice a_s n_s c_s) (.tail _ (.head _))
      have t15a := t15.c0
      have t15b := t15.c1
      clear t15
      go_wp2_with fail
      clear t15a t15b
      have K := next_any (sz : Int) a_s n_s c_s X (A + 1) w14 ((unhide Aw14).w (a_s) (n_s) c_s (X) (.tail _ (.tail _ (.head _)))) (unhide OX) (by omega) (by omega) ((unhide HT).below (unhide Aw14).bel)
      rw [unhide C9] at K
      try unfold setV at K
      refine K.mono ?_
      clear K
      rintro _ w16 ⟨rfl, hb⟩
      have Aw16 := hide ((unhide Aw14).step hb)
      clear Aw14 hb
      have t17 := (unhide Aw16).t (w2.heap.size) (.int .i64 (sz : Int)) (.slice a_s n_s c_s) (.tail _ (.head _))
      have t17a := t17.c0
      have t17b := t17.c1
      clear t17
      go_wp2_with fail
      clear t17a t17b
      have K := last_any (sz : Int) a_s n_s c_s X (c : Int) w16 ((unhide Aw16).w (a_s) (n_s) c_s (X) (.tail _ (.tail _ (.head _)))) (unhide OX) (by omega) (by omega)
      rw [unhide C3] at K
      try unfold setV at K
      refine K.mono ?_
      clear K
      rintro _ w18 ⟨rfl, hb⟩
      have Aw18 := hide ((unhide Aw16).step hb)
      clear Aw16 hb
      have f1 : ((c : Int) == (c : Int)) = true := by simp
      have f2 : ((k : Int) == (k : Int)) = true := by simp
      have f3 : (((k + 1 : Nat) : Int) == (k : Int) + 1) = true := by simp
      have t19 := (unhide Aw18).t (w2.heap.size) (.int .i64 (sz : Int)) (.slice a_s n_s c_s) (.tail _ (.head _))
      have t19a := t19.c0
      have t19b := t19.c1
      clear t19
      go_wp2_with fail
      clear t19a t19b
      have K := has_any (sz : Int) a_s n_s c_s X (c : Int) w18 ((unhide Aw18).w (a_s) (n_s) c_s (X) (.tail _ (.tail _ (.head _)))) (unhide OX) (by omega) (by omega)
      rw [unhide C4] at K
      try unfold setV at K
      refine K.mono ?_
      clear K
      rintro _ w20 ⟨rfl, hb⟩
      have Aw20 := hide ((unhide Aw18).step hb)
      clear Aw18 hb
      have t21 := (unhide Aw20).t (w2.heap.size) (.int .i64 (sz : Int)) (.slice a_s n_s c_s) (.tail _ (.head _))
      have t21a := t21.c0
      have t21b := t21.c1
      clear t21
      go_wp2_with fail
      clear t21a t21b
      have K := rank_any (sz : Int) a_s n_s c_s X (c : Int) w20 ((unhide Aw20).w (a_s) (n_s) c_s (X) (.tail _ (.tail _ (.head _)))) (unhide OX) (by omega) (by omega)
      rw [unhide C5] at K
      try unfold setV at K
      refine K.mono ?_
      clear K
      rintro _ w22 ⟨rfl, hb⟩
      have Aw22 := hide ((unhide Aw20).step hb)
      clear Aw20 hb
      have t23 := (unhide Aw22).t (w2.heap.size) (.int .i64 (sz : Int)) (.slice a_s n_s c_s) (.tail _ (.head _))
      have t23a := t23.c0
      have t23b := t23.c1
      clear t23
      go_wp2_with fail
      clear t23a t23b
      have K := rank_any (sz : Int) a_s n_s c_s X ((c : Int) + 1) w22 ((unhide Aw22).w (a_s) (n_s) c_s (X) (.tail _ (.tail _ (.head _)))) (unhide OX) (by omega) (by omega)
      rw [unhide C6] at K
      try unfold setV at K
      refine K.mono ?_
      clear K
      rintro _ w24 ⟨rfl, hb⟩
      have Aw24 := hide ((unhide Aw22).step hb)
      clear Aw22 hb
      go_wp2_with fail
      refine ⟨⟨k + 1, by omega, by go_num, ?_, (unhide Aw24).all _ (.head _)⟩, by simp [intOf]; omega⟩
      rw [show (((k + 1 : Nat) : Int) - 1) = (k : Int) from by omega, unhide C2]
    · have hlt' : ¬ (k : Int) < (N : Int) := by omega
      obtain rfl : k = N := by omega
      obtain ⟨A, hA⟩ : ∃ A, selR (sz : Int) X ((k : Int) - 1) = A := ⟨_, rfl⟩
      have r5 := unhide R5
      have r8 := unhide R8
      rw [hA] at r5 r8 ⊢
      have R5 := hide r5
      obtain ⟨r8a, r8b⟩ := r8
      clear hA r5 R1 R2 R3 R4 R8
      have t25 := (unhide AR).t (w2.heap.size) (.int .i64 (sz : Int)) (.slice a_s n_s c_s) (.tail _ (.head _))
      have t25a := t25.c0
      have t25b := t25.c1
      clear t25
      go_wp2_with fail
      clear t25a t25b
      go_loopw [13, 14] (fun i _ wr => ∃ j : Nat, j ≤ n_x ∧ i = .int .i64 j ∧ Below W1.heap.size W1 wr) (fun i _ _ => n_x - (intOf i).toNat)
      case atStart => exact ⟨0, Nat.zero_le _, rfl, Below.refl _ _⟩
      case round =>
        obtain ⟨j, hj, rfl, hbl⟩ := hrel
        have AQ := hide (((unhide AR).step hbl).add (fBel W1) hbl)
        clear hbl
        by_cases hlt : j < n_x
        · have hlt' : (j : Int) < (n_x : Int) := by omega
          obtain ⟨bx, ox, rfl, hcx⟩ := ((unhide AQ).i (a_x) (n_x) c_x (x_x) (.tail _ (.tail _ (.tail _ (.tail _ (.head _)))))).at (by omega)
          have gx := hcx j hlt
          unfold vI at gx
          have hmem : x_x.getD j 0 ∈ x_x := by have hl : j < x_x.length := (by rw [unhide LX]; exact hlt); rw [show x_x.getD j 0 = x_x[j] from by simp [List.getD, hl]]; exact List.getElem_mem hl
          obtain ⟨d1, d2, d3, d4, d5⟩ := unhide R6 _ hmem
          obtain ⟨E, hE⟩ : ∃ E, x_x.getD j 0 = E := ⟨_, rfl⟩
          rw [hE] at gx d1 d2 d3 d4 d5
          obtain ⟨r, hr⟩ : ∃ r, rankR (sz : Int) X E = r := ⟨_, rfl⟩
          rw [hr] at d4 d5
          have D3 := hide d3
          have D4 := hide d4
          have HR := hide hr
          have f9 : (E == E) = true := by simp
          clear hcx hmem hE d3 d4 hr
          have t26 := (unhide AQ).t (w2.heap.size) (.int .i64 (sz : Int)) (.slice a_s n_s c_s) (.tail _ (.tail _ (.head _)))
          have t26a := t26.c0
          have t26b := t26.c1
          clear t26
          have AX27 := hide (fun x : Ext wr => (unhide AQ).step x.bel)
          have hNE27 := Ext.ne wr
          have Ft26a := fun x : Ext wr => x.cell t26a
          have Ft26b := fun x : Ext wr => x.cell t26b
          have K := fun x : Ext wr => rank_any (sz : Int) a_s n_s c_s X E x.w ((unhide AX27 x).w (a_s) (n_s) c_s (X) (.tail _ (.tail _ (.tail _ (.head _))))) (unhide OX) (by omega) (by omega)
          rw [unhide HR] at K
          try unfold setV at K
          have HK27_0 := hide K
          clear K
          have FGx := fun x : Ext wr => x.cell gx
          go_wp2_with fail
          clear t26a t26b
          refine wp_region_ext (by kernel_rfl) (by kernel_rfl) ?_
          repeat (go_big_quiet_step (first
            | (go_at_call 10; rename_i x; exact Ext.call (unhide HK27_0 x) (fun e w' h => h))))
          refine wpQuiet_nil ?_
          rintro _ ⟨x27, rfl⟩
          have A27 := hide (unhide AX27 x27)
          clear AX27 AQ Ft26a Ft26b HK27_0
          have gx := x27.cell gx
          clear FGx
          have t28 := (unhide A27).t (w2.heap.size) (.int .i64 (sz : Int)) (.slice a_s n_s c_s) (.tail _ (.tail _ (.head _)))
          have t28a := t28.c0
          have t28b := t28.c1
          clear t28
          have AX29 := hide (fun x : Ext x27.w => (unhide A27).step x.bel)
          have hNE29 := Ext.ne x27.w
          have Ft28a := fun x : Ext x27.w => x.cell t28a
          have Ft28b := fun x : Ext x27.w => x.cell t28b
          have K := fun x : Ext x27.w => has_any (sz : Int) a_s n_s c_s X E x.w ((unhide AX29 x).w (a_s) (n_s) c_s (X) (.tail _ (.tail _ (.tail _ (.head _))))) (unhide OX) (by omega) (by omega)
          rw [unhide D3] at K
          try unfold setV at K
          have HK29_0 := hide K
          clear K
          have K := fun x : Ext x27.w => select_any (sz : Int) a_s n_s c_s X (r : Int) x.w ((unhide AX29 x).w (a_s) (n_s) c_s (X) (.tail _ (.tail _ (.tail _ (.head _))))) (unhide OX) (by omega) (by omega) ((unhide HT).below (unhide AX29 x).bel)
          rw [unhide D4] at K
          try unfold setV at K
          have HK29_1 := hide K
          clear K
          have FGx := fun x : Ext x27.w => x.cell gx
          go_wp2_with fail
          clear t28a t28b
          refine wp_region_ext (by kernel_rfl) (by kernel_rfl) ?_
          repeat (go_big_quiet_step (first
            | (go_at_call 21; rename_i x; exact Ext.call (unhide HK29_0 x) (fun e w' h => h))
            | (go_at_call 12; rename_i x; exact Ext.call (unhide HK29_1 x) (fun e w' h => h))))
          refine wpQuiet_nil ?_
          rintro _ ⟨x29, rfl⟩
          have A29 := hide (unhide AX29 x29)
          clear AX29 A27 Ft28a Ft28b HK29_0 HK29_1
          have gx := x29.cell gx
          clear FGx
          go_wp2_with fail
          exact ⟨⟨j + 1, by omega, by go_num, (unhide A29).all _ (.head _)⟩, by simp [intOf]; omega⟩
        · have hlt' : ¬ (j : Int) < (n_x : Int) := by omega
          have t30 := (unhide AQ).t (w2.heap.size) (.int .i64 (sz : Int)) (.slice a_s n_s c_s) (.tail _ (.tail _ (.head _)))
          have t30a := t30.c0
          have t30b := t30.c1
          clear t30
          go_wp2_with fail
          clear t30a t30b
          have K := next_any (sz : Int) a_s n_s c_s X (A + 1) wr ((unhide AQ).w (a_s) (n_s) c_s (X) (.tail _ (.tail _ (.tail _ (.head _))))) (unhide OX) (by omega) (by omega) ((unhide HT).below (unhide AQ).bel)
          rw [unhide R5] at K
          try unfold setV at K
          refine K.mono ?_
          clear K
          rintro _ w31 ⟨rfl, hb⟩
          have Aw31 := hide ((unhide AQ).step hb)
          clear AQ hb
          have t32 := (unhide Aw31).t (w2.heap.size) (.int .i64 (sz : Int)) (.slice a_s n_s c_s) (.tail _ (.tail _ (.head _)))
          have t32a := t32.c0
          have t32b := t32.c1
          clear t32
          go_wp2_with fail
          clear t32a t32b
          have K := last_any (sz : Int) a_s n_s c_s X (-1) w31 ((unhide Aw31).w (a_s) (n_s) c_s (X) (.tail _ (.tail _ (.tail _ (.head _))))) (unhide OX) (by omega) (by omega)
          rw [unhide R7] at K
          try unfold setV at K
          refine K.mono ?_
          clear K
          rintro _ w33 ⟨rfl, hb⟩
          have Aw33 := hide ((unhide Aw31).step hb)
          clear Aw31 hb
          go_wp2_with fail
          go_ret
          exact ⟨rfl, (unhide Aw33).bel⟩

theorem bitRanks_walk (size : Int) (a_x : Option Addr) (n_x c_x : Nat) (x_x : List Int) (w : World) (hl_size : -9223372036854775808 ≤ size) (hh_size : size ≤ 9223372036854775807) (h_x : SlI w a_x n_x c_x x_x) (b_x : n_x ≤ 17592186043904) (e_x : a_x = none → n_x = 0 ∧ c_x = 0) (hT : Tab64 w) :
    Calls Tryd.prog 4 #[.int .i64 size, .slice a_x n_x c_x] w fun e w' => e = .returned (.bool true) ∧ Below w.heap.size w w' := by
  cases hf : fitsI size
  · exact bitRanks_no size a_x n_x c_x x_x w hl_size hh_size h_x b_x e_x 60 (by decide) (by simp [mkR, hf])
  · cases hb : x_x.any (badE size)
    · exact bitRanks_yes size a_x n_x c_x x_x w hl_size hh_size h_x b_x e_x hf hb hT
    · exact bitRanks_no size a_x n_x c_x x_x w hl_size hh_size h_x b_x e_x 62 (by decide) (by simp [mkR, hf, hb])

set_option maxRecDepth 100000 in
theorem bitRanks_door (os : Os) (args : Array Value) : laidMetH Tryd.prog [("math/bits.deBruijn64tab", Rows.laid_math_bits_deBruijn64tab)] ((World.doorLaid Tryd.prog 400 os).forCall (fun _ _ => 0) ⟨#[], args, []⟩).memory :=
  laidMetH_of_parts3 (fuel := 8) (laidMet_of_run' 8 (by kernel_rfl) (by kernel_rfl)) (by kernel_rfl) (by kernel_rfl)

set_option maxRecDepth 100000 in
theorem bitRanks_lifted (os : Os) (started : os.Started) (H : Type) (enc : TypeId × Value → H) :
    ReturnsInHanded {} Tryd.checked os 4 .any (fun w args => (Rows.bitRanksSpec.pre enc Tryd.prog Tryd.f4 [] false w args ∧ laidMetH Tryd.prog [("math/bits.deBruijn64tab", Rows.laid_math_bits_deBruijn64tab)] w) ∧ sizedMet enc Tryd.prog Tryd.f4 (OpenSpec.ofChange Rows.bitRanksSpec) false w args) (Rows.bitRanksSpec.post enc Tryd.prog Tryd.f4 false true false false) := by
  refine returnsInHanded_of_change_and (C := Tryd.checked) (X := fun w _ => laidMetH Tryd.prog [("math/bits.deBruijn64tab", Rows.laid_math_bits_deBruijn64tab)] w) (fun _ _ _ hh h => h.of_heap hh) law_own started (by kernel_rfl) Tryd.func4
    (ChangeSpec.witness_shaped (enc := enc) (C := Tryd.checked) (os := os) (X := fun w _ => laidMetH Tryd.prog [("math/bits.deBruijn64tab", Rows.laid_math_bits_deBruijn64tab)] w) false (World.doorLaid Tryd.prog 400 os) #[.int .i64 0, .slice none 0 0] 8 rfl (World.shaped_of_RefB (by kernel_rfl) (by kernel_rfl)) (by kernel_rfl) (by kernel_rfl) (by kernel_rfl) (bitRanks_door os _)) ?_
  intro W base args ds gs before hval0 hW hcnd hsz hL _
  have hval : ∀ (j : Nat) t v, Tryd.f4.params[j]? = some t → args[j]? = some v → Value.okWide Tryd.prog W .any base t v := hval0
  have hW' := hW
  obtain ⟨p, q, hA0, hV, rfl, hfz, hnd⟩ := hW
  have hA : DataW.TrodAll enc Tryd.prog W 0 (fun _ => true) true Tryd.f4.params.toList args.toList ds p := hA0
  rw [Tryd.params4] at hA hval hsz
  obtain ⟨v0, vs0, d0, ds0, p0, q0, hargs, rfl, rfl, h0, r0⟩ := trodAll_cons hA
  obtain ⟨v1, vs1, d1, ds1, p1, q1, rfl, rfl, rfl, h1, r1⟩ := trodAll_cons r0
  obtain ⟨rfl, rfl, rfl⟩ := trodAll_nil r1
  obtain rfl : args = #[v0, v1] := by cases args; simp_all
  obtain ⟨rfl, rfl⟩ := trodVars_none hV
  obtain ⟨i0, rfl, rfl, rfl, wf0⟩ := open_int Tryd.underlying3 (hval 0 3 v0 rfl rfl) h0
  have k1 := h1
  have lt1 : ∀ x ∈ p1, x.block < W.heap.size := by obtain ⟨m, hm⟩ := k1; exact DataW.trod_lt m _ _ _ hm
  obtain ⟨a1, n1, c1, rfl⟩ := okWide_slice Tryd.underlying31 (hval 1 31 v1 rfl rfl)
  obtain ⟨x1, y1, o1, b1, e1⟩ := arg_ints h1 (fun el sp e => by subst e; exact sized_slice (j := 1) hsz rfl rfl Tryd.underlying31)
  clear hA0 hval0
  have hT : Tab64 W := by
    rw [MakeChecks.laidMetH_plain _ _ _ (by kernel_rfl)] at hL
    have hI := Lib.tabIs_of_head (k := .u8) (zs := tab64) (rest := []) (show Tryd.prog.globalNamed "math/bits.deBruijn64tab" = some 0 by kernel_rfl) (show (Tryd.prog.globals[0]?).map (·.type) = some 82 by kernel_rfl) Tryd.underlying82 Tryd.underlying5 (by kernel_rfl) (by kernel_rfl) hL
    intro j hj
    exact hI.cell (by kernel_rfl) j hj
  refine (bitRanks_walk i0 a1 n1 c1 x1 W (bounds_i64 wf0).1 (bounds_i64 wf0).2 y1 b1 e1 hT).mono fun e W' ⟨he, bel⟩ => ?_
  subst he
  exact ⟨_, rfl, _, _, _, [], _, [], hW', trodAll_mk1 (shut_bool Tryd.underlying4 _), (trodAll_cons_mk (shut_int Tryd.underlying3 wf0) (trodAll_cons_mk (Below.trod law_laid (by kernel_rfl) (of_decide_eq_true (by kernel_rfl)) k1 bel lt1) trodAll_mk0)), rfl, bel.frame _, fun h => by cases h⟩

theorem bitRanks_row : Rows.BitRanksSaid :=
  OpenClaim.holds_of_wide 4 Tryd.f4 rfl rfl rfl rfl rfl rfl rfl ⟨rfl, rfl, rfl, rfl, rfl⟩ rfl rfl rfl rfl rfl (by kernel_rfl) Tryd.func4 (by kernel_rfl)
    (of_decide_eq_true (by kernel_rfl)) (by unfold Func.isWrapper; first | (rw [if_pos (by decide +kernel)]; kernel_rfl) | (rw [if_neg (by decide +kernel)]; exact ⟨rfl, rfl⟩))
    (fun os started H enc _ => bitRanks_lifted os started H enc)

theorem bitRanks_holds : Rows.BitRanksCardSaid :=
  Claim7.holds_tied_plain_at .later [] [.data] true Rows.bitRanksCard.stood.harness false
    bitRanks_row (fun _ h => by cases h) (by kernel_rfl) (fun _ h => by cases h) bitRanks_row_tie rfl ⟨rfl, rfl⟩ (by kernel_rfl) rfl
    (fun f fn hf hfn => by
      obtain rfl : f = 4 := Option.some.inj ((show Tryd.prog.funcNamed "slope/slopelaw3.BitRanks" = some 4 by kernel_rfl).symm.trans hf) |>.symm
      obtain rfl : fn = Tryd.f4 := (Option.some.inj (Tryd.func4.symm.trans hfn)).symm
      exact ⟨by kernel_rfl, fun j t ht => by
        rw [Tryd.params4] at ht
        have hm : t ∈ [3, 31] := by simpa using Array.mem_of_getElem? ht
        have hall : ([3, 31].all fun u => !Tryd.prog.wantsStandIn u) = true := by kernel_rfl
        exact (show Tryd.prog.wantsStandIn t = false by simpa using List.all_eq_true.1 hall t hm)⟩)
    (by kernel_rfl)
#print axioms bitRanks_holds
end Go.Proofs.YtbendkndnojihaaDoor
