/-
  THE LAW BitLattice: out of the contracts; the row's step.
-/
import Derived.Test.YtbendkndnojihabBv2
import Derived.Test.YtbendkndnojihabBv3
import Derived.Test.YtbendkndnojihabBp1
import Derived.Test.YtbendkndnojihabBp2
import Derived.Test.YtbendkndnojihabBp3
import Derived.Test.YtbendkndnojihabBl4
import Derived.Test.YtbendkndnojihabBl5
import Derived.Test.YtbendkndnojihabBn2
import Derived.Test.YtbendkndnojihabBq0
import Derived.Test.YtbendkndnojihabBt8
namespace Go.Proofs.Ytbendkndnojihab
open Go.ChangeShapes Go.WideShapes Go.ChangeAt Go.RowKit Go.Deep
set_option linter.unusedVariables false

set_option maxRecDepth 100000 in
set_option maxHeartbeats 64000000 in
theorem bitLattice_no (size : Int) (a_x : Option Addr) (n_x c_x : Nat) (x_x : List Int) (a_y : Option Addr) (n_y c_y : Nat) (x_y : List Int) (a_z : Option Addr) (n_z c_z : Nat) (x_z : List Int) (w : World) (hl_size : -9223372036854775808 ≤ size) (hh_size : size ≤ 9223372036854775807) (h_x : SlI w a_x n_x c_x x_x) (b_x : n_x ≤ 17592186043904) (e_x : a_x = none → n_x = 0 ∧ c_x = 0) (h_y : SlI w a_y n_y c_y x_y) (b_y : n_y ≤ 17592186043904) (e_y : a_y = none → n_y = 0 ∧ c_y = 0) (h_z : SlI w a_z n_z c_z x_z) (b_z : n_z ≤ 17592186043904) (e_z : a_z = none → n_z = 0 ∧ c_z = 0) (hf : fitsI size = false) :
    Calls Try.prog 3 #[.int .i64 size, .slice a_x n_x c_x, .slice a_y n_y c_y, .slice a_z n_z c_z] w fun e w' => e = .returned (.bool true) ∧ Below w.heap.size w w' := by
  have A00 : Facts w w [] := ⟨Below.refl _ _, fun f hf => by cases hf⟩
  have A01 := A00.add (fI a_x n_x c_x x_x) h_x
  have A02 := A01.add (fI a_y n_y c_y x_y) h_y
  have A03 := A02.add (fI a_z n_z c_z x_z) h_z
  have A0 := hide A03
  have B_size := hide (And.intro hl_size hh_size)
  have E_x := hide e_x
  have E_y := hide e_y
  have E_z := hide e_z
  have HF := hide hf
  have hb : size < 0 ∨ 4096 < size := by simp [fitsI] at hf; omega
  clear hf
  clear A00 A01 A02 A03 h_x h_y h_z e_x e_y e_z hl_size hh_size
  obtain ⟨r2, hr_r2⟩ : ∃ r, mkR size x_y = r := ⟨_, rfl⟩
  have HR_r2 := hide hr_r2
  obtain ⟨s_r2, x_r2, e_r2⟩ := r2
  clear hr_r2
  obtain ⟨r3, hr_r3⟩ : ∃ r, mkR size x_z = r := ⟨_, rfl⟩
  have HR_r3 := hide hr_r3
  obtain ⟨s_r3, x_r3, e_r3⟩ := r3
  clear hr_r3
  go_enter Try.func3, Try.ntmps3
  go_wp2_with fail
  have K := alive_any w
  try unfold setV at K
  refine K.mono ?_
  clear K
  rintro _ w1 ⟨rfl, hb⟩
  have Aw1 := hide ((unhide A0).step hb)
  clear A0 hb
  go_wp2_with fail
  have Kw2 := make_any size a_x n_x c_x x_x w1 ((unhide Aw1).i (a_x) (n_x) c_x (x_x) (.tail _ (.tail _ (.head _))))
  rw [show mkR size x_x = (0, [], 60) by simp [mkR, unhide HF]] at Kw2
  try unfold setV at Kw2
  refine Kw2.mono ?_
  clear Kw2
  rintro _ w2 ⟨a_a, n_a, c_a, rfl, hs, hb⟩
  have Aw2 := hide (((unhide Aw1).step hb).add (fW a_a n_a c_a ([] : List Nat)) hs)
  clear Aw1 hs hb
  unfold setV
  obtain ⟨w3, hw3⟩ : ∃ x, w2.alloc (.cells #[.int .i64 0, .slice a_a n_a c_a] 26) = x := ⟨_, rfl⟩
  have Aw3 := hide ((unhide Aw2).box (.int .i64 0) (.slice a_a n_a c_a) 26)
  rw [hw3] at Aw3
  clear Aw2
  go_wp2_with fail
  have Kw4 := make_any size a_y n_y c_y x_y w3 ((unhide Aw3).i (a_y) (n_y) c_y (x_y) (.tail _ (.tail _ (.tail _ (.head _)))))
  rw [unhide HR_r2] at Kw4
  try unfold setV at Kw4
  refine Kw4.mono ?_
  clear Kw4
  rintro _ w4 ⟨a_b, n_b, c_b, rfl, hs, hb⟩
  have Aw4 := hide (((unhide Aw3).step hb).add (fW a_b n_b c_b x_r2) hs)
  clear Aw3 hs hb
  unfold setV
  obtain ⟨w5, hw5⟩ : ∃ x, w4.alloc (.cells #[.int .i64 s_r2, .slice a_b n_b c_b] 26) = x := ⟨_, rfl⟩
  have Aw5 := hide ((unhide Aw4).box (.int .i64 s_r2) (.slice a_b n_b c_b) 26)
  rw [hw5] at Aw5
  clear Aw4
  go_wp2_with fail
  have Kw6 := make_any size a_z n_z c_z x_z w5 ((unhide Aw5).i (a_z) (n_z) c_z (x_z) (.tail _ (.tail _ (.tail _ (.tail _ (.head _))))))
  rw [unhide HR_r3] at Kw6
  try unfold setV at Kw6
  refine Kw6.mono ?_
  clear Kw6
  rintro _ w6 ⟨a_c, n_c, c_c, rfl, hs, hb⟩
  have Aw6 := hide (((unhide Aw5).step hb).add (fW a_c n_c c_c x_r3) hs)
  clear Aw5 hs hb
  unfold setV
  obtain ⟨w7, hw7⟩ : ∃ x, w6.alloc (.cells #[.int .i64 s_r3, .slice a_c n_c c_c] 26) = x := ⟨_, rfl⟩
  have Aw7 := hide ((unhide Aw6).box (.int .i64 s_r3) (.slice a_c n_c c_c) 26)
  rw [hw7] at Aw7
  clear Aw6
  rcases hb with hb | hb
  all_goals
    go_wp2_with fail
    refine (num_any 60 w7).mono ?_
    rintro _ w' ⟨rfl, hw⟩
    obtain rfl := hw.symm
    go_wp2_with fail
    go_ret
    exact ⟨rfl, (unhide Aw7).bel⟩

set_option maxRecDepth 100000 in
set_option maxHeartbeats 64000000 in
theorem bitLattice_bad1 (size : Int) (a_x : Option Addr) (n_x c_x : Nat) (x_x : List Int) (a_y : Option Addr) (n_y c_y : Nat) (x_y : List Int) (a_z : Option Addr) (n_z c_z : Nat) (x_z : List Int) (w : World) (hl_size : -9223372036854775808 ≤ size) (hh_size : size ≤ 9223372036854775807) (h_x : SlI w a_x n_x c_x x_x) (b_x : n_x ≤ 17592186043904) (e_x : a_x = none → n_x = 0 ∧ c_x = 0) (h_y : SlI w a_y n_y c_y x_y) (b_y : n_y ≤ 17592186043904) (e_y : a_y = none → n_y = 0 ∧ c_y = 0) (h_z : SlI w a_z n_z c_z x_z) (b_z : n_z ≤ 17592186043904) (e_z : a_z = none → n_z = 0 ∧ c_z = 0) (hf : fitsI size = true) (hb_x : x_x.any (badE size) = true) :
    Calls Try.prog 3 #[.int .i64 size, .slice a_x n_x c_x, .slice a_y n_y c_y, .slice a_z n_z c_z] w fun e w' => e = .returned (.bool true) ∧ Below w.heap.size w w' := by
  have A00 : Facts w w [] := ⟨Below.refl _ _, fun f hf => by cases hf⟩
  have A01 := A00.add (fI a_x n_x c_x x_x) h_x
  have A02 := A01.add (fI a_y n_y c_y x_y) h_y
  have A03 := A02.add (fI a_z n_z c_z x_z) h_z
  have A0 := hide A03
  have B_size := hide (And.intro hl_size hh_size)
  have E_x := hide e_x
  have E_y := hide e_y
  have E_z := hide e_z
  obtain ⟨sz, rfl, hsz⟩ := fitsI_nat hf
  have HF := hide hf
  have hs0 : ¬ ((sz : Int) < 0) := by omega
  have hs1 : ¬ (4096 < (sz : Int)) := by omega
  clear hf
  have HB_x := hide hb_x
  clear hb_x
  clear A00 A01 A02 A03 h_x h_y h_z e_x e_y e_z hl_size hh_size
  obtain ⟨r2, hr_r2⟩ : ∃ r, mkR (sz : Int) x_y = r := ⟨_, rfl⟩
  have HR_r2 := hide hr_r2
  obtain ⟨s_r2, x_r2, e_r2⟩ := r2
  clear hr_r2
  obtain ⟨r3, hr_r3⟩ : ∃ r, mkR (sz : Int) x_z = r := ⟨_, rfl⟩
  have HR_r3 := hide hr_r3
  obtain ⟨s_r3, x_r3, e_r3⟩ := r3
  clear hr_r3
  go_enter Try.func3, Try.ntmps3
  go_wp2_with fail
  have K := alive_any w
  try unfold setV at K
  refine K.mono ?_
  clear K
  rintro _ w1 ⟨rfl, hb⟩
  have Aw1 := hide ((unhide A0).step hb)
  clear A0 hb
  go_wp2_with fail
  have Kw2 := make_any (sz : Int) a_x n_x c_x x_x w1 ((unhide Aw1).i (a_x) (n_x) c_x (x_x) (.tail _ (.tail _ (.head _))))
  rw [show mkR (sz : Int) x_x = (0, [], 62) by simp [mkR, unhide HF, unhide HB_x]] at Kw2
  try unfold setV at Kw2
  refine Kw2.mono ?_
  clear Kw2
  rintro _ w2 ⟨a_a, n_a, c_a, rfl, hs, hb⟩
  have Aw2 := hide (((unhide Aw1).step hb).add (fW a_a n_a c_a ([] : List Nat)) hs)
  clear Aw1 hs hb
  unfold setV
  obtain ⟨w3, hw3⟩ : ∃ x, w2.alloc (.cells #[.int .i64 0, .slice a_a n_a c_a] 26) = x := ⟨_, rfl⟩
  have Aw3 := hide ((unhide Aw2).box (.int .i64 0) (.slice a_a n_a c_a) 26)
  rw [hw3] at Aw3
  clear Aw2
  go_wp2_with fail
  have Kw4 := make_any (sz : Int) a_y n_y c_y x_y w3 ((unhide Aw3).i (a_y) (n_y) c_y (x_y) (.tail _ (.tail _ (.tail _ (.head _)))))
  rw [unhide HR_r2] at Kw4
  try unfold setV at Kw4
  refine Kw4.mono ?_
  clear Kw4
  rintro _ w4 ⟨a_b, n_b, c_b, rfl, hs, hb⟩
  have Aw4 := hide (((unhide Aw3).step hb).add (fW a_b n_b c_b x_r2) hs)
  clear Aw3 hs hb
  unfold setV
  obtain ⟨w5, hw5⟩ : ∃ x, w4.alloc (.cells #[.int .i64 s_r2, .slice a_b n_b c_b] 26) = x := ⟨_, rfl⟩
  have Aw5 := hide ((unhide Aw4).box (.int .i64 s_r2) (.slice a_b n_b c_b) 26)
  rw [hw5] at Aw5
  clear Aw4
  go_wp2_with fail
  have Kw6 := make_any (sz : Int) a_z n_z c_z x_z w5 ((unhide Aw5).i (a_z) (n_z) c_z (x_z) (.tail _ (.tail _ (.tail _ (.tail _ (.head _))))))
  rw [unhide HR_r3] at Kw6
  try unfold setV at Kw6
  refine Kw6.mono ?_
  clear Kw6
  rintro _ w6 ⟨a_c, n_c, c_c, rfl, hs, hb⟩
  have Aw6 := hide (((unhide Aw5).step hb).add (fW a_c n_c c_c x_r3) hs)
  clear Aw5 hs hb
  unfold setV
  obtain ⟨w7, hw7⟩ : ∃ x, w6.alloc (.cells #[.int .i64 s_r3, .slice a_c n_c c_c] 26) = x := ⟨_, rfl⟩
  have Aw7 := hide ((unhide Aw6).box (.int .i64 s_r3) (.slice a_c n_c c_c) 26)
  rw [hw7] at Aw7
  clear Aw6
  go_wp2_with fail
  refine (num_any 62 w7).mono ?_
  rintro _ w' ⟨rfl, hw⟩
  obtain rfl := hw.symm
  go_wp2_with fail
  go_ret
  exact ⟨rfl, (unhide Aw7).bel⟩

set_option maxRecDepth 100000 in
set_option maxHeartbeats 64000000 in
theorem bitLattice_bad2 (size : Int) (a_x : Option Addr) (n_x c_x : Nat) (x_x : List Int) (a_y : Option Addr) (n_y c_y : Nat) (x_y : List Int) (a_z : Option Addr) (n_z c_z : Nat) (x_z : List Int) (w : World) (hl_size : -9223372036854775808 ≤ size) (hh_size : size ≤ 9223372036854775807) (h_x : SlI w a_x n_x c_x x_x) (b_x : n_x ≤ 17592186043904) (e_x : a_x = none → n_x = 0 ∧ c_x = 0) (h_y : SlI w a_y n_y c_y x_y) (b_y : n_y ≤ 17592186043904) (e_y : a_y = none → n_y = 0 ∧ c_y = 0) (h_z : SlI w a_z n_z c_z x_z) (b_z : n_z ≤ 17592186043904) (e_z : a_z = none → n_z = 0 ∧ c_z = 0) (hf : fitsI size = true) (hb_x : x_x.any (badE size) = false) (hb_y : x_y.any (badE size) = true) :
    Calls Try.prog 3 #[.int .i64 size, .slice a_x n_x c_x, .slice a_y n_y c_y, .slice a_z n_z c_z] w fun e w' => e = .returned (.bool true) ∧ Below w.heap.size w w' := by
  have A00 : Facts w w [] := ⟨Below.refl _ _, fun f hf => by cases hf⟩
  have A01 := A00.add (fI a_x n_x c_x x_x) h_x
  have A02 := A01.add (fI a_y n_y c_y x_y) h_y
  have A03 := A02.add (fI a_z n_z c_z x_z) h_z
  have A0 := hide A03
  have B_size := hide (And.intro hl_size hh_size)
  have E_x := hide e_x
  have E_y := hide e_y
  have E_z := hide e_z
  obtain ⟨sz, rfl, hsz⟩ := fitsI_nat hf
  have HF := hide hf
  have hs0 : ¬ ((sz : Int) < 0) := by omega
  have hs1 : ¬ (4096 < (sz : Int)) := by omega
  clear hf
  have HB_x := hide hb_x
  have HB_y := hide hb_y
  clear hb_x hb_y
  clear A00 A01 A02 A03 h_x h_y h_z e_x e_y e_z hl_size hh_size
  obtain ⟨r3, hr_r3⟩ : ∃ r, mkR (sz : Int) x_z = r := ⟨_, rfl⟩
  have HR_r3 := hide hr_r3
  obtain ⟨s_r3, x_r3, e_r3⟩ := r3
  clear hr_r3
  go_enter Try.func3, Try.ntmps3
  go_wp2_with fail
  have K := alive_any w
  try unfold setV at K
  refine K.mono ?_
  clear K
  rintro _ w1 ⟨rfl, hb⟩
  have Aw1 := hide ((unhide A0).step hb)
  clear A0 hb
  go_wp2_with fail
  have Kw2 := make_any (sz : Int) a_x n_x c_x x_x w1 ((unhide Aw1).i (a_x) (n_x) c_x (x_x) (.tail _ (.tail _ (.head _))))
  rw [show mkR (sz : Int) x_x = ((sz : Int), wordsL sz (fun x => x_x.any (fun e => e == (x : Int))), 0) by simp [mkR, unhide HF, unhide HB_x]] at Kw2
  try unfold setV at Kw2
  refine Kw2.mono ?_
  clear Kw2
  rintro _ w2 ⟨a_a, n_a, c_a, rfl, hs, hb⟩
  have Aw2 := hide (((unhide Aw1).step hb).add (fW a_a n_a c_a (wordsL sz (fun x => x_x.any (fun e => e == (x : Int))))) hs)
  clear Aw1 hs hb
  unfold setV
  obtain ⟨w3, hw3⟩ : ∃ x, w2.alloc (.cells #[.int .i64 (sz : Int), .slice a_a n_a c_a] 26) = x := ⟨_, rfl⟩
  have Aw3 := hide ((unhide Aw2).box (.int .i64 (sz : Int)) (.slice a_a n_a c_a) 26)
  rw [hw3] at Aw3
  clear Aw2
  go_wp2_with fail
  have Kw4 := make_any (sz : Int) a_y n_y c_y x_y w3 ((unhide Aw3).i (a_y) (n_y) c_y (x_y) (.tail _ (.tail _ (.tail _ (.head _)))))
  rw [show mkR (sz : Int) x_y = (0, [], 62) by simp [mkR, unhide HF, unhide HB_y]] at Kw4
  try unfold setV at Kw4
  refine Kw4.mono ?_
  clear Kw4
  rintro _ w4 ⟨a_b, n_b, c_b, rfl, hs, hb⟩
  have Aw4 := hide (((unhide Aw3).step hb).add (fW a_b n_b c_b ([] : List Nat)) hs)
  clear Aw3 hs hb
  unfold setV
  obtain ⟨w5, hw5⟩ : ∃ x, w4.alloc (.cells #[.int .i64 0, .slice a_b n_b c_b] 26) = x := ⟨_, rfl⟩
  have Aw5 := hide ((unhide Aw4).box (.int .i64 0) (.slice a_b n_b c_b) 26)
  rw [hw5] at Aw5
  clear Aw4
  go_wp2_with fail
  have Kw6 := make_any (sz : Int) a_z n_z c_z x_z w5 ((unhide Aw5).i (a_z) (n_z) c_z (x_z) (.tail _ (.tail _ (.tail _ (.tail _ (.head _))))))
  rw [unhide HR_r3] at Kw6
  try unfold setV at Kw6
  refine Kw6.mono ?_
  clear Kw6
  rintro _ w6 ⟨a_c, n_c, c_c, rfl, hs, hb⟩
  have Aw6 := hide (((unhide Aw5).step hb).add (fW a_c n_c c_c x_r3) hs)
  clear Aw5 hs hb
  unfold setV
  obtain ⟨w7, hw7⟩ : ∃ x, w6.alloc (.cells #[.int .i64 s_r3, .slice a_c n_c c_c] 26) = x := ⟨_, rfl⟩
  have Aw7 := hide ((unhide Aw6).box (.int .i64 s_r3) (.slice a_c n_c c_c) 26)
  rw [hw7] at Aw7
  clear Aw6
  go_wp2_with fail
  refine (num_any 0 w7).mono ?_
  rintro _ w' ⟨rfl, hw⟩
  obtain rfl := hw.symm
  go_wp2_with fail
  refine (num_any 62 w7).mono ?_
  rintro _ w' ⟨rfl, hw⟩
  obtain rfl := hw.symm
  go_wp2_with fail
  go_ret
  exact ⟨rfl, (unhide Aw7).bel⟩

set_option maxRecDepth 100000 in
set_option maxHeartbeats 64000000 in
theorem bitLattice_bad3 (size : Int) (a_x : Option Addr) (n_x c_x : Nat) (x_x : List Int) (a_y : Option Addr) (n_y c_y : Nat) (x_y : List Int) (a_z : Option Addr) (n_z c_z : Nat) (x_z : List Int) (w : World) (hl_size : -9223372036854775808 ≤ size) (hh_size : size ≤ 9223372036854775807) (h_x : SlI w a_x n_x c_x x_x) (b_x : n_x ≤ 17592186043904) (e_x : a_x = none → n_x = 0 ∧ c_x = 0) (h_y : SlI w a_y n_y c_y x_y) (b_y : n_y ≤ 17592186043904) (e_y : a_y = none → n_y = 0 ∧ c_y = 0) (h_z : SlI w a_z n_z c_z x_z) (b_z : n_z ≤ 17592186043904) (e_z : a_z = none → n_z = 0 ∧ c_z = 0) (hf : fitsI size = true) (hb_x : x_x.any (badE size) = false) (hb_y : x_y.any (badE size) = false) (hb_z : x_z.any (badE size) = true) :
    Calls Try.prog 3 #[.int .i64 size, .slice a_x n_x c_x, .slice a_y n_y c_y, .slice a_z n_z c_z] w fun e w' => e = .returned (.bool true) ∧ Below w.heap.size w w' := by
  have A00 : Facts w w [] := ⟨Below.refl _ _, fun f hf => by cases hf⟩
  have A01 := A00.add (fI a_x n_x c_x x_x) h_x
  have A02 := A01.add (fI a_y n_y c_y x_y) h_y
  have A03 := A02.add (fI a_z n_z c_z x_z) h_z
  have A0 := hide A03
  have B_size := hide (And.intro hl_size hh_size)
  have E_x := hide e_x
  have E_y := hide e_y
  have E_z := hide e_z
  obtain ⟨sz, rfl, hsz⟩ := fitsI_nat hf
  have HF := hide hf
  have hs0 : ¬ ((sz : Int) < 0) := by omega
  have hs1 : ¬ (4096 < (sz : Int)) := by omega
  clear hf
  have HB_x := hide hb_x
  have HB_y := hide hb_y
  have HB_z := hide hb_z
  clear hb_x hb_y hb_z
  clear A00 A01 A02 A03 h_x h_y h_z e_x e_y e_z hl_size hh_size
  go_enter Try.func3, Try.ntmps3
  go_wp2_with fail
  have K := alive_any w
  try unfold setV at K
  refine K.mono ?_
  clear K
  rintro _ w1 ⟨rfl, hb⟩
  have Aw1 := hide ((unhide A0).step hb)
  clear A0 hb
  go_wp2_with fail
  have Kw2 := make_any (sz : Int) a_x n_x c_x x_x w1 ((unhide Aw1).i (a_x) (n_x) c_x (x_x) (.tail _ (.tail _ (.head _))))
  rw [show mkR (sz : Int) x_x = ((sz : Int), wordsL sz (fun x => x_x.any (fun e => e == (x : Int))), 0) by simp [mkR, unhide HF, unhide HB_x]] at Kw2
  try unfold setV at Kw2
  refine Kw2.mono ?_
  clear Kw2
  rintro _ w2 ⟨a_a, n_a, c_a, rfl, hs, hb⟩
  have Aw2 := hide (((unhide Aw1).step hb).add (fW a_a n_a c_a (wordsL sz (fun x => x_x.any (fun e => e == (x : Int))))) hs)
  clear Aw1 hs hb
  unfold setV
  obtain ⟨w3, hw3⟩ : ∃ x, w2.alloc (.cells #[.int .i64 (sz : Int), .slice a_a n_a c_a] 26) = x := ⟨_, rfl⟩
  have Aw3 := hide ((unhide Aw2).box (.int .i64 (sz : Int)) (.slice a_a n_a c_a) 26)
  rw [hw3] at Aw3
  clear Aw2
  go_wp2_with fail
  have Kw4 := make_any (sz : Int) a_y n_y c_y x_y w3 ((unhide Aw3).i (a_y) (n_y) c_y (x_y) (.tail _ (.tail _ (.tail _ (.head _)))))
  rw [show mkR (sz : Int) x_y = ((sz : Int), wordsL sz (fun x => x_y.any (fun e => e == (x : Int))), 0) by simp [mkR, unhide HF, unhide HB_y]] at Kw4
  try unfold setV at Kw4
  refine Kw4.mono ?_
  clear Kw4
  rintro _ w4 ⟨a_b, n_b, c_b, rfl, hs, hb⟩
  have Aw4 := hide (((unhide Aw3).step hb).add (fW a_b n_b c_b (wordsL sz (fun x => x_y.any (fun e => e == (x : Int))))) hs)
  clear Aw3 hs hb
  unfold setV
  obtain ⟨w5, hw5⟩ : ∃ x, w4.alloc (.cells #[.int .i64 (sz : Int), .slice a_b n_b c_b] 26) = x := ⟨_, rfl⟩
  have Aw5 := hide ((unhide Aw4).box (.int .i64 (sz : Int)) (.slice a_b n_b c_b) 26)
  rw [hw5] at Aw5
  clear Aw4
  go_wp2_with fail
  have Kw6 := make_any (sz : Int) a_z n_z c_z x_z w5 ((unhide Aw5).i (a_z) (n_z) c_z (x_z) (.tail _ (.tail _ (.tail _ (.tail _ (.head _))))))
  rw [show mkR (sz : Int) x_z = (0, [], 62) by simp [mkR, unhide HF, unhide HB_z]] at Kw6
  try unfold setV at Kw6
  refine Kw6.mono ?_
  clear Kw6
  rintro _ w6 ⟨a_c, n_c, c_c, rfl, hs, hb⟩
  have Aw6 := hide (((unhide Aw5).step hb).add (fW a_c n_c c_c ([] : List Nat)) hs)
  clear Aw5 hs hb
  unfold setV
  obtain ⟨w7, hw7⟩ : ∃ x, w6.alloc (.cells #[.int .i64 0, .slice a_c n_c c_c] 26) = x := ⟨_, rfl⟩
  have Aw7 := hide ((unhide Aw6).box (.int .i64 0) (.slice a_c n_c c_c) 26)
  rw [hw7] at Aw7
  clear Aw6
  go_wp2_with fail
  refine (num_any 0 w7).mono ?_
  rintro _ w' ⟨rfl, hw⟩
  obtain rfl := hw.symm
  go_wp2_with fail
  refine (num_any 0 w7).mono ?_
  rintro _ w' ⟨rfl, hw⟩
  obtain rfl := hw.symm
  go_wp2_with fail
  refine (num_any 62 w7).mono ?_
  rintro _ w' ⟨rfl, hw⟩
  obtain rfl := hw.symm
  go_wp2_with fail
  go_ret
  exact ⟨rfl, (unhide Aw7).bel⟩

set_option maxRecDepth 100000 in
set_option maxHeartbeats 64000000 in
theorem bitLattice_yes (size : Int) (a_x : Option Addr) (n_x c_x : Nat) (x_x : List Int) (a_y : Option Addr) (n_y c_y : Nat) (x_y : List Int) (a_z : Option Addr) (n_z c_z : Nat) (x_z : List Int) (w : World) (hl_size : -9223372036854775808 ≤ size) (hh_size : size ≤ 9223372036854775807) (h_x : SlI w a_x n_x c_x x_x) (b_x : n_x ≤ 17592186043904) (e_x : a_x = none → n_x = 0 ∧ c_x = 0) (h_y : SlI w a_y n_y c_y x_y) (b_y : n_y ≤ 17592186043904) (e_y : a_y = none → n_y = 0 ∧ c_y = 0) (h_z : SlI w a_z n_z c_z x_z) (b_z : n_z ≤ 17592186043904) (e_z : a_z = none → n_z = 0 ∧ c_z = 0) (hf : fitsI size = true) (hb_x : x_x.any (badE size) = false) (hb_y : x_y.any (badE size) = false) (hb_z : x_z.any (badE size) = false) :
    Calls Try.prog 3 #[.int .i64 size, .slice a_x n_x c_x, .slice a_y n_y c_y, .slice a_z n_z c_z] w fun e w' => e = .returned (.bool true) ∧ Below w.heap.size w w' := by
  have A00 : Facts w w [] := ⟨Below.refl _ _, fun f hf => by cases hf⟩
  have A01 := A00.add (fI a_x n_x c_x x_x) h_x
  have A02 := A01.add (fI a_y n_y c_y x_y) h_y
  have A03 := A02.add (fI a_z n_z c_z x_z) h_z
  have A0 := hide A03
  have B_size := hide (And.intro hl_size hh_size)
  have E_x := hide e_x
  have E_y := hide e_y
  have E_z := hide e_z
  obtain ⟨sz, rfl, hsz⟩ := fitsI_nat hf
  have HF := hide hf
  have hs0 : ¬ ((sz : Int) < 0) := by omega
  have hs1 : ¬ (4096 < (sz : Int)) := by omega
  clear hf
  obtain ⟨X0, p0, m0, g0⟩ := lat_make hsz hb_x
  obtain ⟨X1, p1, m1, g1⟩ := lat_make hsz hb_y
  obtain ⟨X2, p2, m2, g2⟩ := lat_make hsz hb_z
  clear hb_x hb_y hb_z
  clear A00 A01 A02 A03 h_x h_y h_z e_x e_y e_z hl_size hh_size
  go_enter Try.func3, Try.ntmps3
  obtain ⟨U1, gU1⟩ := Good.new (sz := sz) (fun x => p0 x || p1 x) (fun x hx => by have h0 := g0.zero x hx; have h1 := g1.zero x hx; have h2 := g2.zero x hx; have hd : decide (x < sz) = false := (by simp; omega); show (p0 x || p1 x) = false; rw [h0, h1]; try rfl) hsz
  obtain ⟨U2, gU2⟩ := Good.new (sz := sz) (fun x => p1 x || p2 x) (fun x hx => by have h0 := g0.zero x hx; have h1 := g1.zero x hx; have h2 := g2.zero x hx; have hd : decide (x < sz) = false := (by simp; omega); show (p1 x || p2 x) = false; rw [h1, h2]; try rfl) hsz
  obtain ⟨U3, gU3⟩ := Good.new (sz := sz) (fun x => (p0 x || p1 x) || p2 x) (fun x hx => by have h0 := g0.zero x hx; have h1 := g1.zero x hx; have h2 := g2.zero x hx; have hd : decide (x < sz) = false := (by simp; omega); show ((p0 x || p1 x) || p2 x) = false; rw [h0, h1, h2]; try rfl) hsz
  obtain ⟨I1, gI1⟩ := Good.new (sz := sz) (fun x => p0 x && p1 x) (fun x hx => by have h0 := g0.zero x hx; have h1 := g1.zero x hx; have h2 := g2.zero x hx; have hd : decide (x < sz) = false := (by simp; omega); show (p0 x && p1 x) = false; rw [h0, h1]; try rfl) hsz
  obtain ⟨I2, gI2⟩ := Good.new (sz := sz) (fun x => p0 x && p2 x) (fun x hx => by have h0 := g0.zero x hx; have h1 := g1.zero x hx; have h2 := g2.zero x hx; have hd : decide (x < sz) = false := (by simp; omega); show (p0 x && p2 x) = false; rw [h0, h2]; try rfl) hsz
  obtain ⟨OO, gOO⟩ := Good.new (sz := sz) (fun x => p0 x && (p1 x || p2 x)) (fun x hx => by have h0 := g0.zero x hx; have h1 := g1.zero x hx; have h2 := g2.zero x hx; have hd : decide (x < sz) = false := (by simp; omega); show (p0 x && (p1 x || p2 x)) = false; rw [h0, h1, h2]; try rfl) hsz
  obtain ⟨R1, gR1⟩ := Good.new (sz := sz) (fun x => decide (x < sz) && !p0 x) (fun x hx => by have h0 := g0.zero x hx; have h1 := g1.zero x hx; have h2 := g2.zero x hx; have hd : decide (x < sz) = false := (by simp; omega); show (decide (x < sz) && !p0 x) = false; rw [hd]; try rfl) hsz
  obtain ⟨R2, gR2⟩ := Good.new (sz := sz) (fun x => decide (x < sz) && !p1 x) (fun x hx => by have h0 := g0.zero x hx; have h1 := g1.zero x hx; have h2 := g2.zero x hx; have hd : decide (x < sz) = false := (by simp; omega); show (decide (x < sz) && !p1 x) = false; rw [hd]; try rfl) hsz
  obtain ⟨R3, gR3⟩ := Good.new (sz := sz) (fun x => decide (x < sz) && !(p0 x || p1 x)) (fun x hx => by have h0 := g0.zero x hx; have h1 := g1.zero x hx; have h2 := g2.zero x hx; have hd : decide (x < sz) = false := (by simp; omega); show (decide (x < sz) && !(p0 x || p1 x)) = false; rw [hd]; try rfl) hsz
  obtain ⟨MM, gMM⟩ := Good.new (sz := sz) (fun x => mOp false (p0 x) (p1 x)) (fun x hx => by have h0 := g0.zero x hx; have h1 := g1.zero x hx; have h2 := g2.zero x hx; have hd : decide (x < sz) = false := (by simp; omega); show (mOp false (p0 x) (p1 x)) = false; rw [h0, h1]; try rfl) hsz
  obtain ⟨DD, gDD⟩ := Good.new (sz := sz) (fun x => mOp true (p0 x) (p1 x)) (fun x hx => by have h0 := g0.zero x hx; have h1 := g1.zero x hx; have h2 := g2.zero x hx; have hd : decide (x < sz) = false := (by simp; omega); show (mOp true (p0 x) (p1 x)) = false; rw [h0, h1]; try rfl) hsz
  have ID_ab := hide (show wordsL sz (fun x => (if false = true then (p0 x && p1 x) else (p0 x || p1 x))) = U1 from (words_eq (fun x _ => by simp)).trans gU1.eq.symm)
  have ID_ba := hide (show wordsL sz (fun x => (if false = true then (p1 x && p0 x) else (p1 x || p0 x))) = U1 from (words_eq (fun x _ => by simp [Bool.or_comm])).trans gU1.eq.symm)
  have ID_bc := hide (show wordsL sz (fun x => (if false = true then (p1 x && p2 x) else (p1 x || p2 x))) = U2 from (words_eq (fun x _ => by simp)).trans gU2.eq.symm)
  have ID_left := hide (show wordsL sz (fun x => (if false = true then ((fun x => p0 x || p1 x) x && p2 x) else ((fun x => p0 x || p1 x) x || p2 x))) = U3 from (words_eq (fun x _ => by simp)).trans gU3.eq.symm)
  have ID_right := hide (show wordsL sz (fun x => (if false = true then (p0 x && (fun x => p1 x || p2 x) x) else (p0 x || (fun x => p1 x || p2 x) x))) = U3 from (words_eq (fun x _ => by simp [Bool.or_assoc])).trans gU3.eq.symm)
  have ID_all := hide (show wordsL sz (fun x => p0 x || p1 x || p2 x) = U3 from (words_eq (fun x _ => rfl)).trans gU3.eq.symm)
  have ID_ib := hide (show wordsL sz (fun x => (if true = true then (p0 x && p1 x) else (p0 x || p1 x))) = I1 from (words_eq (fun x _ => by simp)).trans gI1.eq.symm)
  have ID_ic := hide (show wordsL sz (fun x => (if true = true then (p0 x && p2 x) else (p0 x || p2 x))) = I2 from (words_eq (fun x _ => by simp)).trans gI2.eq.symm)
  have ID_over := hide (show wordsL sz (fun x => (if true = true then (p0 x && (fun x => p1 x || p2 x) x) else (p0 x || (fun x => p1 x || p2 x) x))) = OO from (words_eq (fun x _ => by simp)).trans gOO.eq.symm)
  have ID_sum := hide (show wordsL sz (fun x => (if false = true then ((fun x => p0 x && p1 x) x && (fun x => p0 x && p2 x) x) else ((fun x => p0 x && p1 x) x || (fun x => p0 x && p2 x) x))) = OO from (words_eq (fun x _ => by simp only [Bool.false_eq_true, if_false]; exact id_sum _ _ _)).trans gOO.eq.symm)
  have ID_ra := hide (show wordsL sz (fun x => decide (x < sz) && !p0 x) = R1 from (words_eq (fun x _ => rfl)).trans gR1.eq.symm)
  have ID_rb := hide (show wordsL sz (fun x => decide (x < sz) && !p1 x) = R2 from (words_eq (fun x _ => rfl)).trans gR2.eq.symm)
  have ID_rab := hide (show wordsL sz (fun x => decide (x < sz) && !(fun x => p0 x || p1 x) x) = R3 from (words_eq (fun x _ => rfl)).trans gR3.eq.symm)
  have ID_both := hide (show wordsL sz (fun x => (if true = true then ((fun x => decide (x < sz) && !p0 x) x && (fun x => decide (x < sz) && !p1 x) x) else ((fun x => decide (x < sz) && !p0 x) x || (fun x => decide (x < sz) && !p1 x) x))) = R3 from (words_eq (fun x _ => by simp only [if_true]; exact id_both _ _ _)).trans gR3.eq.symm)
  have ID_m := hide (show wordsL sz (fun x => mOp false (p0 x) (p1 x)) = MM from (words_eq (fun x _ => rfl)).trans gMM.eq.symm)
  have ID_mb := hide (show wordsL sz (fun x => (if true = true then (p0 x && (fun x => decide (x < sz) && !p1 x) x) else (p0 x || (fun x => decide (x < sz) && !p1 x) x))) = MM from (words_eq (fun x _ => by simp only [if_true]; exact id_mb _ _ _ (fun h => g0.zero x (by simpa using h)))).trans gMM.eq.symm)
  have ID_d := hide (show wordsL sz (fun x => mOp true (p0 x) (p1 x)) = DD from (words_eq (fun x _ => rfl)).trans gDD.eq.symm)
  have ID_du := hide (show wordsL sz (fun x => mOp false ((fun x => p0 x || p1 x) x) ((fun x => p0 x && p1 x) x)) = DD from (words_eq (fun x _ => id_du _ _)).trans gDD.eq.symm)
  have LV_OO_OO := hide (leaves_good (op := opX') jXor_bits rfl gOO gOO (fun x _ => id_eq _))
  have LV_I1_a := hide (leaves_good (op := opN') jAndNot_bits rfl gI1 g0 (fun x _ => id_sub1 _ _))
  have LV_a_U1 := hide (leaves_good (op := opN') jAndNot_bits rfl g0 gU1 (fun x _ => id_sub2 _ _))
  have LV_a_R1 := hide (leaves_good (op := opA') jAnd_bits rfl g0 gR1 (fun x _ => id_dis _ _))
  have LV_MM_b := hide (leaves_good (op := opA') jAnd_bits rfl gMM g1 (fun x _ => id_dis2 _ _))
  obtain ⟨cu, hcu⟩ : ∃ n, countR sz U1 = n := ⟨_, rfl⟩
  have Hcu := hide hcu
  have lcu : cu ≤ 4096 := by rw [← hcu]; exact countR_le
  obtain ⟨ci, hci⟩ : ∃ n, countR sz I1 = n := ⟨_, rfl⟩
  have Hci := hide hci
  have lci : ci ≤ 4096 := by rw [← hci]; exact countR_le
  obtain ⟨ca, hca⟩ : ∃ n, countR sz X0 = n := ⟨_, rfl⟩
  have Hca := hide hca
  have lca : ca ≤ 4096 := by rw [← hca]; exact countR_le
  obtain ⟨cb, hcb⟩ : ∃ n, countR sz X1 = n := ⟨_, rfl⟩
  have Hcb := hide hcb
  have lcb : cb ≤ 4096 := by rw [← hcb]; exact countR_le
  obtain ⟨cr, hcr⟩ : ∃ n, countR sz R1 = n := ⟨_, rfl⟩
  have Hcr := hide hcr
  have lcr : cr ≤ 4096 := by rw [← hcr]; exact countR_le
  have q1 : cu + ci = ca + cb := by rw [← hcu, ← hci, ← hca, ← hcb, count_good gU1, count_good gI1, count_good g0, count_good g1]; exact cnt_or_and _ _ _
  have q2 : ca + cr = sz := by rw [← hca, ← hcr, count_good g0, count_good gR1]; exact cnt_not _ _ _ (Nat.le_refl _)
  have Q1 : ((cu : Int) + (ci : Int) == (ca : Int) + (cb : Int)) = true := by simp; omega
  have Q2 : ((ca : Int) + (cr : Int) == (sz : Int)) = true := by simp; omega
  have QQ := hide (And.intro Q1 Q2)
  clear hcu hci hca hcb hcr q1 q2 Q1 Q2
  have G0 := hide g0
  have G1 := hide g1
  have G2 := hide g2
  have GU1 := hide gU1
  have GU2 := hide gU2
  have GU3 := hide gU3
  have GI1 := hide gI1
  have GI2 := hide gI2
  have GOO := hide gOO
  have GR1 := hide gR1
  have GR2 := hide gR2
  have GR3 := hide gR3
  have GMM := hide gMM
  have GDD := hide gDD
  have M0 := hide m0
  have M1 := hide m1
  have M2 := hide m2
  clear g0 g1 g2 gU1 gU2 gU3 gI1 gI2 gOO gR1 gR2 gR3 gMM gDD m0 m1 m2
  go_wp2_with fail
  have K := alive_any w
  try unfold setV at K
  refine K.mono ?_
  clear K
  rintro _ w1 ⟨rfl, hb⟩
  have Aw1 := hide ((unhide A0).step hb)
  clear A0 hb
  go_wp2_with fail
  have Kw2 := make_any (sz : Int) a_x n_x c_x x_x w1 ((unhide Aw1).i (a_x) (n_x) c_x (x_x) (.tail _ (.tail _ (.head _))))
  rw [unhide M0] at Kw2
  try unfold setV at Kw2
  refine Kw2.mono ?_
  clear Kw2
  rintro _ w2 ⟨a_a, n_a, c_a, rfl, hs, hb⟩
  have Aw2 := hide (((unhide Aw1).step hb).add (fW a_a n_a c_a X0) hs)
  clear Aw1 hs hb
  unfold setV
  obtain ⟨w3, hw3⟩ : ∃ x, w2.alloc (.cells #[.int .i64 (sz : Int), .slice a_a n_a c_a] 26) = x := ⟨_, rfl⟩
  have Aw3 := hide ((unhide Aw2).box (.int .i64 (sz : Int)) (.slice a_a n_a c_a) 26)
  rw [hw3] at Aw3
  clear Aw2
  go_wp2_with fail
  have Kw4 := make_any (sz : Int) a_y n_y c_y x_y w3 ((unhide Aw3).i (a_y) (n_y) c_y (x_y) (.tail _ (.tail _ (.tail _ (.head _)))))
  rw [unhide M1] at Kw4
  try unfold setV at Kw4
  refine Kw4.mono ?_
  clear Kw4
  rintro _ w4 ⟨a_b, n_b, c_b, rfl, hs, hb⟩
  have Aw4 := hide (((unhide Aw3).step hb).add (fW a_b n_b c_b X1) hs)
  clear Aw3 hs hb
  unfold setV
  obtain ⟨w5, hw5⟩ : ∃ x, w4.alloc (.cells #[.int .i64 (sz : Int), .slice a_b n_b c_b] 26) = x := ⟨_, rfl⟩
  have Aw5 := hide ((unhide Aw4).box (.int .i64 (sz : Int)) (.slice a_b n_b c_b) 26)
  rw [hw5] at Aw5
  clear Aw4
  go_wp2_with fail
  have Kw6 := make_any (sz : Int) a_z n_z c_z x_z w5 ((unhide Aw5).i (a_z) (n_z) c_z (x_z) (.tail _ (.tail _ (.tail _ (.tail _ (.head _))))))
  rw [unhide M2] at Kw6
  try unfold setV at Kw6
  refine Kw6.mono ?_
  clear Kw6
  rintro _ w6 ⟨a_c, n_c, c_c, rfl, hs, hb⟩
  have Aw6 := hide (((unhide Aw5).step hb).add (fW a_c n_c c_c X2) hs)
  clear Aw5 hs hb
  unfold setV
  obtain ⟨w7, hw7⟩ : ∃ x, w6.alloc (.cells #[.int .i64 (sz : Int), .slice a_c n_c c_c] 26) = x := ⟨_, rfl⟩
  have Aw7 := hide ((unhide Aw6).box (.int .i64 (sz : Int)) (.slice a_c n_c c_c) 26)
  rw [hw7] at Aw7
  clear Aw6
  go_wp2_with fail
  refine (num_any 0 w7).mono ?_
  rintro _ w' ⟨rfl, hw⟩
  obtain rfl := hw.symm
  go_wp2_with fail
  refine (num_any 0 w7).mono ?_
  rintro _ w' ⟨rfl, hw⟩
  obtain rfl := hw.symm
  go_wp2_with fail
  refine (num_any 0 w7).mono ?_
  rintro _ w' ⟨rfl, hw⟩
  obtain rfl := hw.symm
  have t8 := (unhide Aw7).t (w2.heap.size) (.int .i64 (sz : Int)) (.slice a_a n_a c_a) (.tail _ (.tail _ (.tail _ (.tail _ (.head _)))))
  have t8a := t8.c0
  have t8b := t8.c1
  clear t8
  have t9 := (unhide Aw7).t (w4.heap.size) (.int .i64 (sz : Int)) (.slice a_b n_b c_b) (.tail _ (.tail _ (.head _)))
  have t9a := t9.c0
  have t9b := t9.c1
  clear t9
  go_wp2_with fail
  clear t8a t8b t9a t9b
  have Kw10 := unionL_good sz (a_a) (n_a) c_a X0 p0 (a_b) (n_b) c_b X1 p1 w7 ((unhide Aw7).w (a_a) (n_a) c_a (X0) (.tail _ (.tail _ (.tail _ (.tail _ (.tail _ (.head _))))))) ((unhide Aw7).w (a_b) (n_b) c_b (X1) (.tail _ (.tail _ (.tail _ (.head _))))) (unhide G0) (unhide G1) U1 (unhide ID_ab)
  try unfold setV at Kw10
  refine Kw10.mono ?_
  clear Kw10
  rintro _ w10 ⟨a_ab, n_ab, c_ab, rfl, hs, hb⟩
  have Aw10 := hide (((unhide Aw7).step hb).add (fW a_ab n_ab c_ab U1) hs)
  clear Aw7 hs hb
  unfold setV
  obtain ⟨w11, hw11⟩ : ∃ x, w10.alloc (.cells #[.int .i64 (sz : Int), .slice a_ab n_ab c_ab] 26) = x := ⟨_, rfl⟩
  have Aw11 := hide ((unhide Aw10).box (.int .i64 (sz : Int)) (.slice a_ab n_ab c_ab) 26)
  rw [hw11] at Aw11
  clear Aw10
  have t12 := (unhide Aw11).t (w4.heap.size) (.int .i64 (sz : Int)) (.slice a_b n_b c_b) (.tail _ (.tail _ (.tail _ (.tail _ (.head _)))))
  have t12a := t12.c0
  have t12b := t12.c1
  clear t12
  have t13 := (unhide Aw11).t (w2.heap.size) (.int .i64 (sz : Int)) (.slice a_a n_a c_a) (.tail _ (.tail _ (.tail _ (.tail _ (.tail _ (.tail _ (.head _)))))))
  have t13a := t13.c0
  have t13b := t13.c1
  clear t13
  go_wp2_with fail
  clear t12a t12b t13a t13b
  have Kw14 := unionL_good sz (a_b) (n_b) c_b X1 p1 (a_a) (n_a) c_a X0 p0 w11 ((unhide Aw11).w (a_b) (n_b) c_b (X1) (.tail _ (.tail _ (.tail _ (.tail _ (.tail _ (.head _))))))) ((unhide Aw11).w (a_a) (n_a) c_a (X0) (.tail _ (.tail _ (.tail _ (.tail _ (.tail _ (.tail _ (.tail _ (.head _))))))))) (unhide G1) (unhide G0) U1 (unhide ID_ba)
  try unfold setV at Kw14
  refine Kw14.mono ?_
  clear Kw14
  rintro _ w14 ⟨a_ba, n_ba, c_ba, rfl, hs, hb⟩
  have Aw14 := hide (((unhide Aw11).step hb).add (fW a_ba n_ba c_ba U1) hs)
  clear Aw11 hs hb
  unfold setV
  obtain ⟨w15, hw15⟩ : ∃ x, w14.alloc (.cells #[.int .i64 (sz : Int), .slice a_ba n_ba c_ba] 26) = x := ⟨_, rfl⟩
  have Aw15 := hide ((unhide Aw14).box (.int .i64 (sz : Int)) (.slice a_ba n_ba c_ba) 26)
  rw [hw15] at Aw15
  clear Aw14
  have t16 := (unhide Aw15).t (w4.heap.size) (.int .i64 (sz : Int)) (.slice a_b n_b c_b) (.tail _ (.tail _ (.tail _ (.tail _ (.tail _ (.tail _ (.head _)))))))
  have t16a := t16.c0
  have t16b := t16.c1
  clear t16
  have t17 := (unhide Aw15).t (w6.heap.size) (.int .i64 (sz : Int)) (.slice a_c n_c c_c) (.tail _ (.tail _ (.tail _ (.tail _ (.head _)))))
  have t17a := t17.c0
  have t17b := t17.c1
  clear t17
  go_wp2_with fail
  clear t16a t16b t17a t17b
  have Kw18 := unionL_good sz (a_b) (n_b) c_b X1 p1 (a_c) (n_c) c_c X2 p2 w15 ((unhide Aw15).w (a_b) (n_b) c_b (X1) (.tail _ (.tail _ (.tail _ (.tail _ (.tail _ (.tail _ (.tail _ (.head _))))))))) ((unhide Aw15).w (a_c) (n_c) c_c (X2) (.tail _ (.tail _ (.tail _ (.tail _ (.tail _ (.head _))))))) (unhide G1) (unhide G2) U2 (unhide ID_bc)
  try unfold setV at Kw18
  refine Kw18.mono ?_
  clear Kw18
  rintro _ w18 ⟨a_bc, n_bc, c_bc, rfl, hs, hb⟩
  have Aw18 := hide (((unhide Aw15).step hb).add (fW a_bc n_bc c_bc U2) hs)
  clear Aw15 hs hb
  unfold setV
  obtain ⟨w19, hw19⟩ : ∃ x, w18.alloc (.cells #[.int .i64 (sz : Int), .slice a_bc n_bc c_bc] 26) = x := ⟨_, rfl⟩
  have Aw19 := hide ((unhide Aw18).box (.int .i64 (sz : Int)) (.slice a_bc n_bc c_bc) 26)
  rw [hw19] at Aw19
  clear Aw18
  have t20 := (unhide Aw19).t (w10.heap.size) (.int .i64 (sz : Int)) (.slice a_ab n_ab c_ab) (.tail _ (.tail _ (.tail _ (.tail _ (.head _)))))
  have t20a := t20.c0
  have t20b := t20.c1
  clear t20
  have t21 := (unhide Aw19).t (w6.heap.size) (.int .i64 (sz : Int)) (.slice a_c n_c c_c) (.tail _ (.tail _ (.tail _ (.tail _ (.tail _ (.tail _ (.head _)))))))
  have t21a := t21.c0
  have t21b := t21.c1
  clear t21
  go_wp2_with fail
  clear t20a t20b t21a t21b
  have Kw22 := unionL_good sz (a_ab) (n_ab) c_ab U1 (fun x => p0 x || p1 x) (a_c) (n_c) c_c X2 p2 w19 ((unhide Aw19).w (a_ab) (n_ab) c_ab (U1) (.tail _ (.tail _ (.tail _ (.tail _ (.tail _ (.head _))))))) ((unhide Aw19).w (a_c) (n_c) c_c (X2) (.tail _ (.tail _ (.tail _ (.tail _ (.tail _ (.tail _ (.tail _ (.head _))))))))) (unhide GU1) (unhide G2) U3 (unhide ID_left)
  try unfold setV at Kw22
  refine Kw22.mono ?_
  clear Kw22
  rintro _ w22 ⟨a_left, n_left, c_left, rfl, hs, hb⟩
  have Aw22 := hide (((unhide Aw19).step hb).add (fW a_left n_left c_left U3) hs)
  clear Aw19 hs hb
  unfold setV
  obtain ⟨w23, hw23⟩ : ∃ x, w22.alloc (.cells #[.int .i64 (sz : Int), .slice a_left n_left c_left] 26) = x := ⟨_, rfl⟩
  have Aw23 := hide ((unhide Aw22).box (.int .i64 (sz : Int)) (.slice a_left n_left c_left) 26)
  rw [hw23] at Aw23
  clear Aw22
  have t24 := (unhide Aw23).t (w2.heap.size) (.int .i64 (sz : Int)) (.slice a_a n_a c_a) (.tail _ (.tail _ (.tail _ (.tail _ (.tail _ (.tail _ (.tail _ (.tail _ (.tail _ (.tail _ (.tail _ (.tail _ (.head _)))))))))))))
  have t24a := t24.c0
  have t24b := t24.c1
  clear t24
  have t25 := (unhide Aw23).t (w18.heap.size) (.int .i64 (sz : Int)) (.slice a_bc n_bc c_bc) (.tail _ (.tail _ (.head _)))
  have t25a := t25.c0
  have t25b := t25.c1
  clear t25
  go_wp2_with fail
  clear t24a t24b t25a t25b
  have Kw26 := unionL_good sz (a_a) (n_a) c_a X0 p0 (a_bc) (n_bc) c_bc U2 (fun x => p1 x || p2 x) w23 ((unhide Aw23).w (a_a) (n_a) c_a (X0) (.tail _ (.tail _ (.tail _ (.tail _ (.tail _ (.tail _ (.tail _ (.tail _ (.tail _ (.tail _ (.tail _ (.tail _ (.tail _ (.head _))))))))))))))) ((unhide Aw23).w (a_bc) (n_bc) c_bc (U2) (.tail _ (.tail _ (.tail _ (.head _))))) (unhide G0) (unhide GU2) U3 (unhide ID_right)
  try unfold setV at Kw26
  refine Kw26.mono ?_
  clear Kw26
  rintro _ w26 ⟨a_right, n_right, c_right, rfl, hs, hb⟩
  have Aw26 := hide (((unhide Aw23).step hb).add (fW a_right n_right c_right U3) hs)
  clear Aw23 hs hb
  unfold setV
  obtain ⟨w27, hw27⟩ : ∃ x, w26.alloc (.cells #[.int .i64 (sz : Int), .slice a_right n_right c_right] 26) = x := ⟨_, rfl⟩
  have Aw27 := hide ((unhide Aw26).box (.int .i64 (sz : Int)) (.slice a_right n_right c_right) 26)
  rw [hw27] at Aw27
  clear Aw26
  obtain ⟨w28, hw28⟩ : ∃ x, w27.alloc (.cells #[.int .i64 (sz : Int), .slice (a_a) (n_a) c_a, .int .i64 (sz : Int), .slice (a_b) (n_b) c_b, .int .i64 (sz : Int), .slice (a_c) (n_c) c_c] 26) = x := ⟨_, rfl⟩
  have hbw28 : Below w27.heap.size w27 w28 := by rw [← hw28]; exact (Below.refl _ _).alloc (Nat.le_refl _) _
  have Aw28 := hide ((unhide Aw27).step hbw28)
  have hSw28 := hide (three_sets (wb := w27) hw28 ((unhide Aw28).w (a_a) (n_a) c_a (X0) (.tail _ (.tail _ (.tail _ (.tail _ (.tail _ (.tail _ (.tail _ (.tail _ (.tail _ (.tail _ (.tail _ (.tail _ (.tail _ (.tail _ (.tail _ (.head _))))))))))))))))) ((unhide Aw28).w (a_b) (n_b) c_b (X1) (.tail _ (.tail _ (.tail _ (.tail _ (.tail _ (.tail _ (.tail _ (.tail _ (.tail _ (.tail _ (.tail _ (.tail _ (.tail _ (.head _))))))))))))))) ((unhide Aw28).w (a_c) (n_c) c_c (X2) (.tail _ (.tail _ (.tail _ (.tail _ (.tail _ (.tail _ (.tail _ (.tail _ (.tail _ (.tail _ (.tail _ (.head _))))))))))))) (unhide G0).ok (unhide G1).ok (unhide G2).ok)
  have t29 := (unhide Aw27).t (w2.heap.size) (.int .i64 (sz : Int)) (.slice a_a n_a c_a) (.tail _ (.tail _ (.tail _ (.tail _ (.tail _ (.tail _ (.tail _ (.tail _ (.tail _ (.tail _ (.tail _ (.tail _ (.tail _ (.tail _ (.head _)))))))))))))))
  have t29a := t29.c0
  have t29b := t29.c1
  clear t29
  have t30 := (unhide Aw27).t (w4.heap.size) (.int .i64 (sz : Int)) (.slice a_b n_b c_b) (.tail _ (.tail _ (.tail _ (.tail _ (.tail _ (.tail _ (.tail _ (.tail _ (.tail _ (.tail _ (.tail _ (.tail _ (.head _)))))))))))))
  have t30a := t30.c0
  have t30b := t30.c1
  clear t30
  have t31 := (unhide Aw27).t (w6.heap.size) (.int .i64 (sz : Int)) (.slice a_c n_c c_c) (.tail _ (.tail _ (.tail _ (.tail _ (.tail _ (.tail _ (.tail _ (.tail _ (.tail _ (.tail _ (.head _)))))))))))
  have t31a := t31.c0
  have t31b := t31.c1
  clear t31
  go_wp2_with fail
  clear t29a t29b t30a t30b t31a t31b
  clear Aw27 hbw28
  have Kw32 := union_any (sz : Int) (some ⟨w27.heap.size, 0, none⟩) 3 3 _ w28 (unhide hSw28)
  rw [many_good3 (unhide G0) (unhide G1) (unhide G2) (unhide ID_all)] at Kw32
  refine Kw32.mono ?_
  clear Kw32
  rintro _ w32 ⟨a_all, n_all, c_all, rfl, hs, hb⟩
  have Aw32 := hide (((unhide Aw28).step hb).add (fW a_all n_all c_all U3) hs)
  clear Aw28 hs hb
  unfold setV
  obtain ⟨w33, hw33⟩ : ∃ x, w32.alloc (.cells #[.int .i64 (sz : Int), .slice a_all n_all c_all] 26) = x := ⟨_, rfl⟩
  have Aw33 := hide ((unhide Aw32).box (.int .i64 (sz : Int)) (.slice a_all n_all c_all) 26)
  rw [hw33] at Aw33
  clear Aw32
  have t34 := (unhide Aw33).t (w2.heap.size) (.int .i64 (sz : Int)) (.slice a_a n_a c_a) (.tail _ (.tail _ (.tail _ (.tail _ (.tail _ (.tail _ (.tail _ (.tail _ (.tail _ (.tail _ (.tail _ (.tail _ (.tail _ (.tail _ (.tail _ (.tail _ (.head _)))))))))))))))))
  have t34a := t34.c0
  have t34b := t34.c1
  clear t34
  have t35 := (unhide Aw33).t (w4.heap.size) (.int .i64 (sz : Int)) (.slice a_b n_b c_b) (.tail _ (.tail _ (.tail _ (.tail _ (.tail _ (.tail _ (.tail _ (.tail _ (.tail _ (.tail _ (.tail _ (.tail _ (.tail _ (.tail _ (.head _)))))))))))))))
  have t35a := t35.c0
  have t35b := t35.c1
  clear t35
  go_wp2_with fail
  clear t34a t34b t35a t35b
  have Kw36 := interL_good sz (a_a) (n_a) c_a X0 p0 (a_b) (n_b) c_b X1 p1 w33 ((unhide Aw33).w (a_a) (n_a) c_a (X0) (.tail _ (.tail _ (.tail _ (.tail _ (.tail _ (.tail _ (.tail _ (.tail _ (.tail _ (.tail _ (.tail _ (.tail _ (.tail _ (.tail _ (.tail _ (.tail _ (.tail _ (.head _))))))))))))))))))) ((unhide Aw33).w (a_b) (n_b) c_b (X1) (.tail _ (.tail _ (.tail _ (.tail _ (.tail _ (.tail _ (.tail _ (.tail _ (.tail _ (.tail _ (.tail _ (.tail _ (.tail _ (.tail _ (.tail _ (.head _))))))))))))))))) (unhide G0) (unhide G1) I1 (unhide ID_ib)
  try unfold setV at Kw36
  refine Kw36.mono ?_
  clear Kw36
  rintro _ w36 ⟨a_ib, n_ib, c_ib, rfl, hs, hb⟩
  have Aw36 := hide (((unhide Aw33).step hb).add (fW a_ib n_ib c_ib I1) hs)
  clear Aw33 hs hb
  unfold setV
  obtain ⟨w37, hw37⟩ : ∃ x, w36.alloc (.cells #[.int .i64 (sz : Int), .slice a_ib n_ib c_ib] 26) = x := ⟨_, rfl⟩
  have Aw37 := hide ((unhide Aw36).box (.int .i64 (sz : Int)) (.slice a_ib n_ib c_ib) 26)
  rw [hw37] at Aw37
  clear Aw36
  have t38 := (unhide Aw37).t (w2.heap.size) (.int .i64 (sz : Int)) (.slice a_a n_a c_a) (.tail _ (.tail _ (.tail _ (.tail _ (.tail _ (.tail _ (.tail _ (.tail _ (.tail _ (.tail _ (.tail _ (.tail _ (.tail _ (.tail _ (.tail _ (.tail _ (.tail _ (.tail _ (.head _)))))))))))))))))))
  have t38a := t38.c0
  have t38b := t38.c1
  clear t38
  have t39 := (unhide Aw37).t (w6.heap.size) (.int .i64 (sz : Int)) (.slice a_c n_c c_c) (.tail _ (.tail _ (.tail _ (.tail _ (.tail _ (.tail _ (.tail _ (.tail _ (.tail _ (.tail _ (.tail _ (.tail _ (.tail _ (.tail _ (.head _)))))))))))))))
  have t39a := t39.c0
  have t39b := t39.c1
  clear t39
  go_wp2_with fail
  clear t38a t38b t39a t39b
  have Kw40 := interL_good sz (a_a) (n_a) c_a X0 p0 (a_c) (n_c) c_c X2 p2 w37 ((unhide Aw37).w (a_a) (n_a) c_a (X0) (.tail _ (.tail _ (.tail _ (.tail _ (.tail _ (.tail _ (.tail _ (.tail _ (.tail _ (.tail _ (.tail _ (.tail _ (.tail _ (.tail _ (.tail _ (.tail _ (.tail _ (.tail _ (.tail _ (.head _))))))))))))))))))))) ((unhide Aw37).w (a_c) (n_c) c_c (X2) (.tail _ (.tail _ (.tail _ (.tail _ (.tail _ (.tail _ (.tail _ (.tail _ (.tail _ (.tail _ (.tail _ (.tail _ (.tail _ (.tail _ (.tail _ (.head _))))))))))))))))) (unhide G0) (unhide G2) I2 (unhide ID_ic)
  try unfold setV at Kw40
  refine Kw40.mono ?_
  clear Kw40
  rintro _ w40 ⟨a_ic, n_ic, c_ic, rfl, hs, hb⟩
  have Aw40 := hide (((unhide Aw37).step hb).add (fW a_ic n_ic c_ic I2) hs)
  clear Aw37 hs hb
  unfold setV
  obtain ⟨w41, hw41⟩ : ∃ x, w40.alloc (.cells #[.int .i64 (sz : Int), .slice a_ic n_ic c_ic] 26) = x := ⟨_, rfl⟩
  have Aw41 := hide ((unhide Aw40).box (.int .i64 (sz : Int)) (.slice a_ic n_ic c_ic) 26)
  rw [hw41] at Aw41
  clear Aw40
  have t42 := (unhide Aw41).t (w2.heap.size) (.int .i64 (sz : Int)) (.slice a_a n_a c_a) (.tail _ (.tail _ (.tail _ (.tail _ (.tail _ (.tail _ (.tail _ (.tail _ (.tail _ (.tail _ (.tail _ (.tail _ (.tail _ (.tail _ (.tail _ (.tail _ (.tail _ (.tail _ (.tail _ (.tail _ (.head _)))))))))))))))))))))
  have t42a := t42.c0
  have t42b := t42.c1
  clear t42
  have t43 := (unhide Aw41).t (w18.heap.size) (.int .i64 (sz : Int)) (.slice a_bc n_bc c_bc) (.tail _ (.tail _ (.tail _ (.tail _ (.tail _ (.tail _ (.tail _ (.tail _ (.tail _ (.tail _ (.head _)))))))))))
  have t43a := t43.c0
  have t43b := t43.c1
  clear t43
  go_wp2_with fail
  clear t42a t42b t43a t43b
  have Kw44 := interL_good sz (a_a) (n_a) c_a X0 p0 (a_bc) (n_bc) c_bc U2 (fun x => p1 x || p2 x) w41 ((unhide Aw41).w (a_a) (n_a) c_a (X0) (.tail _ (.tail _ (.tail _ (.tail _ (.tail _ (.tail _ (.tail _ (.tail _ (.tail _ (.tail _ (.tail _ (.tail _ (.tail _ (.tail _ (.tail _ (.tail _ (.tail _ (.tail _ (.tail _ (.tail _ (.tail _ (.head _))))))))))))))))))))))) ((unhide Aw41).w (a_bc) (n_bc) c_bc (U2) (.tail _ (.tail _ (.tail _ (.tail _ (.tail _ (.tail _ (.tail _ (.tail _ (.tail _ (.tail _ (.tail _ (.head _))))))))))))) (unhide G0) (unhide GU2) OO (unhide ID_over)
  try unfold setV at Kw44
  refine Kw44.mono ?_
  clear Kw44
  rintro _ w44 ⟨a_over, n_over, c_over, rfl, hs, hb⟩
  have Aw44 := hide (((unhide Aw41).step hb).add (fW a_over n_over c_over OO) hs)
  clear Aw41 hs hb
  unfold setV
  obtain ⟨w45, hw45⟩ : ∃ x, w44.alloc (.cells #[.int .i64 (sz : Int), .slice a_over n_over c_over] 26) = x := ⟨_, rfl⟩
  have Aw45 := hide ((unhide Aw44).box (.int .i64 (sz : Int)) (.slice a_over n_over c_over) 26)
  rw [hw45] at Aw45
  clear Aw44
  have t46 := (unhide Aw45).t (w36.heap.size) (.int .i64 (sz : Int)) (.slice a_ib n_ib c_ib) (.tail _ (.tail _ (.tail _ (.tail _ (.head _)))))
  have t46a := t46.c0
  have t46b := t46.c1
  clear t46
  have t47 := (unhide Aw45).t (w40.heap.size) (.int .i64 (sz : Int)) (.slice a_ic n_ic c_ic) (.tail _ (.tail _ (.head _)))
  have t47a := t47.c0
  have t47b := t47.c1
  clear t47
  go_wp2_with fail
  clear t46a t46b t47a t47b
  have Kw48 := unionL_good sz (a_ib) (n_ib) c_ib I1 (fun x => p0 x && p1 x) (a_ic) (n_ic) c_ic I2 (fun x => p0 x && p2 x) w45 ((unhide Aw45).w (a_ib) (n_ib) c_ib (I1) (.tail _ (.tail _ (.tail _ (.tail _ (.tail _ (.head _))))))) ((unhide Aw45).w (a_ic) (n_ic) c_ic (I2) (.tail _ (.tail _ (.tail _ (.head _))))) (unhide GI1) (unhide GI2) OO (unhide ID_sum)
  try unfold setV at Kw48
  refine Kw48.mono ?_
  clear Kw48
  rintro _ w48 ⟨a_sum, n_sum, c_sum, rfl, hs, hb⟩
  have Aw48 := hide (((unhide Aw45).step hb).add (fW a_sum n_sum c_sum OO) hs)
  clear Aw45 hs hb
  unfold setV
  obtain ⟨w49, hw49⟩ : ∃ x, w48.alloc (.cells #[.int .i64 (sz : Int), .slice a_sum n_sum c_sum] 26) = x := ⟨_, rfl⟩
  have Aw49 := hide ((unhide Aw48).box (.int .i64 (sz : Int)) (.slice a_sum n_sum c_sum) 26)
  rw [hw49] at Aw49
  clear Aw48
  go_wp2_with fail
  refine (num_any 0 w49).mono ?_
  rintro _ w' ⟨rfl, hw⟩
  obtain rfl := hw.symm
  have EL : n_ba = n_ab := by rw [← ((unhide Aw49).w (a_ba) (n_ba) c_ba (U1) (.tail _ (.tail _ (.tail _ (.tail _ (.tail _ (.tail _ (.tail _ (.tail _ (.tail _ (.tail _ (.tail _ (.tail _ (.tail _ (.tail _ (.tail _ (.tail _ (.tail _ (.head _))))))))))))))))))).len, ← ((unhide Aw49).w (a_ab) (n_ab) c_ab (U1) (.tail _ (.tail _ (.tail _ (.tail _ (.tail _ (.tail _ (.tail _ (.tail _ (.tail _ (.tail _ (.tail _ (.tail _ (.tail _ (.tail _ (.tail _ (.tail _ (.tail _ (.tail _ (.tail _ (.head _))))))))))))))))))))).len]
  subst EL
  have t50 := (unhide Aw49).t (w10.heap.size) (.int .i64 (sz : Int)) (.slice a_ab n_ba c_ab) (.tail _ (.tail _ (.tail _ (.tail _ (.tail _ (.tail _ (.tail _ (.tail _ (.tail _ (.tail _ (.tail _ (.tail _ (.tail _ (.tail _ (.tail _ (.tail _ (.tail _ (.tail _ (.head _)))))))))))))))))))
  have t50a := t50.c0
  have t50b := t50.c1
  clear t50
  have t51 := (unhide Aw49).t (w14.heap.size) (.int .i64 (sz : Int)) (.slice a_ba n_ba c_ba) (.tail _ (.tail _ (.tail _ (.tail _ (.tail _ (.tail _ (.tail _ (.tail _ (.tail _ (.tail _ (.tail _ (.tail _ (.tail _ (.tail _ (.tail _ (.tail _ (.head _)))))))))))))))))
  have t51a := t51.c0
  have t51b := t51.c1
  clear t51
  go_wp2_with fail
  clear t50a t50b t51a t51b
  have Kw52 := same_eq (sz : Int) a_ab a_ba n_ba c_ab c_ba U1 w49 ((unhide Aw49).w (a_ab) (n_ba) c_ab (U1) (.tail _ (.tail _ (.tail _ (.tail _ (.tail _ (.tail _ (.tail _ (.tail _ (.tail _ (.tail _ (.tail _ (.tail _ (.tail _ (.tail _ (.tail _ (.tail _ (.tail _ (.tail _ (.tail _ (.head _))))))))))))))))))))) ((unhide Aw49).w (a_ba) (n_ba) c_ba (U1) (.tail _ (.tail _ (.tail _ (.tail _ (.tail _ (.tail _ (.tail _ (.tail _ (.tail _ (.tail _ (.tail _ (.tail _ (.tail _ (.tail _ (.tail _ (.tail _ (.tail _ (.head _)))))))))))))))))))
  unfold setV at Kw52
  refine Kw52.mono ?_
  clear Kw52
  rintro _ w52 ⟨rfl, hb⟩
  have Aw52 := hide ((unhide Aw49).step hb)
  clear Aw49 hb
  have EL : n_right = n_left := by rw [← ((unhide Aw52).w (a_right) (n_right) c_right (U3) (.tail _ (.tail _ (.tail _ (.tail _ (.tail _ (.tail _ (.tail _ (.tail _ (.tail _ (.tail _ (.tail _ (.head _))))))))))))).len, ← ((unhide Aw52).w (a_left) (n_left) c_left (U3) (.tail _ (.tail _ (.tail _ (.tail _ (.tail _ (.tail _ (.tail _ (.tail _ (.tail _ (.tail _ (.tail _ (.tail _ (.tail _ (.head _))))))))))))))).len]
  subst EL
  have t53 := (unhide Aw52).t (w22.heap.size) (.int .i64 (sz : Int)) (.slice a_left n_right c_left) (.tail _ (.tail _ (.tail _ (.tail _ (.tail _ (.tail _ (.tail _ (.tail _ (.tail _ (.tail _ (.tail _ (.tail _ (.head _)))))))))))))
  have t53a := t53.c0
  have t53b := t53.c1
  clear t53
  have t54 := (unhide Aw52).t (w26.heap.size) (.int .i64 (sz : Int)) (.slice a_right n_right c_right) (.tail _ (.tail _ (.tail _ (.tail _ (.tail _ (.tail _ (.tail _ (.tail _ (.tail _ (.tail _ (.head _)))))))))))
  have t54a := t54.c0
  have t54b := t54.c1
  clear t54
  go_wp2_with fail
  clear t53a t53b t54a t54b
  have Kw55 := same_eq (sz : Int) a_left a_right n_right c_left c_right U3 w52 ((unhide Aw52).w (a_left) (n_right) c_left (U3) (.tail _ (.tail _ (.tail _ (.tail _ (.tail _ (.tail _ (.tail _ (.tail _ (.tail _ (.tail _ (.tail _ (.tail _ (.tail _ (.head _))))))))))))))) ((unhide Aw52).w (a_right) (n_right) c_right (U3) (.tail _ (.tail _ (.tail _ (.tail _ (.tail _ (.tail _ (.tail _ (.tail _ (.tail _ (.tail _ (.tail _ (.head _)))))))))))))
  unfold setV at Kw55
  refine Kw55.mono ?_
  clear Kw55
  rintro _ w55 ⟨rfl, hb⟩
  have Aw55 := hide ((unhide Aw52).step hb)
  clear Aw52 hb
  have EL : n_all = n_right := by rw [← ((unhide Aw55).w (a_all) (n_all) c_all (U3) (.tail _ (.tail _ (.tail _ (.tail _ (.tail _ (.tail _ (.tail _ (.tail _ (.tail _ (.head _))))))))))).len, ← ((unhide Aw55).w (a_left) (n_right) c_left (U3) (.tail _ (.tail _ (.tail _ (.tail _ (.tail _ (.tail _ (.tail _ (.tail _ (.tail _ (.tail _ (.tail _ (.tail _ (.tail _ (.head _))))))))))))))).len]
  subst EL
  have t56 := (unhide Aw55).t (w22.heap.size) (.int .i64 (sz : Int)) (.slice a_left n_all c_left) (.tail _ (.tail _ (.tail _ (.tail _ (.tail _ (.tail _ (.tail _ (.tail _ (.tail _ (.tail _ (.tail _ (.tail _ (.head _)))))))))))))
  have t56a := t56.c0
  have t56b := t56.c1
  clear t56
  have t57 := (unhide Aw55).t (w32.heap.size) (.int .i64 (sz : Int)) (.slice a_all n_all c_all) (.tail _ (.tail _ (.tail _ (.tail _ (.tail _ (.tail _ (.tail _ (.tail _ (.head _)))))))))
  have t57a := t57.c0
  have t57b := t57.c1
  clear t57
  go_wp2_with fail
  clear t56a t56b t57a t57b
  have Kw58 := same_eq (sz : Int) a_left a_all n_all c_left c_all U3 w55 ((unhide Aw55).w (a_left) (n_all) c_left (U3) (.tail _ (.tail _ (.tail _ (.tail _ (.tail _ (.tail _ (.tail _ (.tail _ (.tail _ (.tail _ (.tail _ (.tail _ (.tail _ (.head _))))))))))))))) ((unhide Aw55).w (a_all) (n_all) c_all (U3) (.tail _ (.tail _ (.tail _ (.tail _ (.tail _ (.tail _ (.tail _ (.tail _ (.tail _ (.head _)))))))))))
  unfold setV at Kw58
  refine Kw58.mono ?_
  clear Kw58
  rintro _ w58 ⟨rfl, hb⟩
  have Aw58 := hide ((unhide Aw55).step hb)
  clear Aw55 hb
  have EL : n_sum = n_over := by rw [← ((unhide Aw58).w (a_sum) (n_sum) c_sum (OO) (.tail _ (.head _))).len, ← ((unhide Aw58).w (a_over) (n_over) c_over (OO) (.tail _ (.tail _ (.tail _ (.head _))))).len]
  subst EL
  have t59 := (unhide Aw58).t (w44.heap.size) (.int .i64 (sz : Int)) (.slice a_over n_sum c_over) (.tail _ (.tail _ (.head _)))
  have t59a := t59.c0
  have t59b := t59.c1
  clear t59
  have t60 := (unhide Aw58).t (w48.heap.size) (.int .i64 (sz : Int)) (.slice a_sum n_sum c_sum) (.head _)
  have t60a := t60.c0
  have t60b := t60.c1
  clear t60
  go_wp2_with fail
  clear t59a t59b t60a t60b
  have Kw61 := same_eq (sz : Int) a_over a_sum n_sum c_over c_sum OO w58 ((unhide Aw58).w (a_over) (n_sum) c_over (OO) (.tail _ (.tail _ (.tail _ (.head _))))) ((unhide Aw58).w (a_sum) (n_sum) c_sum (OO) (.tail _ (.head _)))
  unfold setV at Kw61
  refine Kw61.mono ?_
  clear Kw61
  rintro _ w61 ⟨rfl, hb⟩
  have Aw61 := hide ((unhide Aw58).step hb)
  clear Aw58 hb
  have t62 := (unhide Aw61).t (w44.heap.size) (.int .i64 (sz : Int)) (.slice a_over n_sum c_over) (.tail _ (.tail _ (.head _)))
  have t62a := t62.c0
  have t62b := t62.c1
  clear t62
  have t63 := (unhide Aw61).t (w48.heap.size) (.int .i64 (sz : Int)) (.slice a_sum n_sum c_sum) (.head _)
  have t63a := t63.c0
  have t63b := t63.c1
  clear t63
  go_wp2_with fail
  clear t62a t62b t63a t63b
  have K := equal_any (sz : Int) (a_over) (n_sum) c_over OO (sz : Int) (a_sum) (n_sum) c_sum OO w61 ((unhide Aw61).w (a_over) (n_sum) c_over (OO) (.tail _ (.tail _ (.tail _ (.head _))))) ((unhide Aw61).w (a_sum) (n_sum) c_sum (OO) (.tail _ (.head _))) (unhide GOO).ok (unhide GOO).ok
  rw [unhide LV_OO_OO] at K
  try unfold setV at K
  refine K.mono ?_
  clear K
  rintro _ w64 ⟨rfl, hb⟩
  have Aw64 := hide ((unhide Aw61).step hb)
  clear Aw61 hb
  have t65 := (unhide Aw64).t (w36.heap.size) (.int .i64 (sz : Int)) (.slice a_ib n_ib c_ib) (.tail _ (.tail _ (.tail _ (.tail _ (.tail _ (.tail _ (.head _)))))))
  have t65a := t65.c0
  have t65b := t65.c1
  clear t65
  have t66 := (unhide Aw64).t (w2.heap.size) (.int .i64 (sz : Int)) (.slice a_a n_a c_a) (.tail _ (.tail _ (.tail _ (.tail _ (.tail _ (.tail _ (.tail _ (.tail _ (.tail _ (.tail _ (.tail _ (.tail _ (.tail _ (.tail _ (.tail _ (.tail _ (.tail _ (.tail _ (.tail _ (.tail _ (.tail _ (.tail _ (.tail _ (.tail _ (.head _)))))))))))))))))))))))))
  have t66a := t66.c0
  have t66b := t66.c1
  clear t66
  go_wp2_with fail
  clear t65a t65b t66a t66b
  have K := subset_any (sz : Int) (a_ib) (n_ib) c_ib I1 (sz : Int) (a_a) (n_a) c_a X0 w64 ((unhide Aw64).w (a_ib) (n_ib) c_ib (I1) (.tail _ (.tail _ (.tail _ (.tail _ (.tail _ (.tail _ (.tail _ (.head _))))))))) ((unhide Aw64).w (a_a) (n_a) c_a (X0) (.tail _ (.tail _ (.tail _ (.tail _ (.tail _ (.tail _ (.tail _ (.tail _ (.tail _ (.tail _ (.tail _ (.tail _ (.tail _ (.tail _ (.tail _ (.tail _ (.tail _ (.tail _ (.tail _ (.tail _ (.tail _ (.tail _ (.tail _ (.tail _ (.tail _ (.head _))))))))))))))))))))))))))) (unhide GI1).ok (unhide G0).ok
  rw [unhide LV_I1_a] at K
  try unfold setV at K
  refine K.mono ?_
  clear K
  rintro _ w67 ⟨rfl, hb⟩
  have Aw67 := hide ((unhide Aw64).step hb)
  clear Aw64 hb
  have t68 := (unhide Aw67).t (w2.heap.size) (.int .i64 (sz : Int)) (.slice a_a n_a c_a) (.tail _ (.tail _ (.tail _ (.tail _ (.tail _ (.tail _ (.tail _ (.tail _ (.tail _ (.tail _ (.tail _ (.tail _ (.tail _ (.tail _ (.tail _ (.tail _ (.tail _ (.tail _ (.tail _ (.tail _ (.tail _ (.tail _ (.tail _ (.tail _ (.head _)))))))))))))))))))))))))
  have t68a := t68.c0
  have t68b := t68.c1
  clear t68
  have t69 := (unhide Aw67).t (w10.heap.size) (.int .i64 (sz : Int)) (.slice a_ab n_ba c_ab) (.tail _ (.tail _ (.tail _ (.tail _ (.tail _ (.tail _ (.tail _ (.tail _ (.tail _ (.tail _ (.tail _ (.tail _ (.tail _ (.tail _ (.tail _ (.tail _ (.tail _ (.tail _ (.head _)))))))))))))))))))
  have t69a := t69.c0
  have t69b := t69.c1
  clear t69
  go_wp2_with fail
  clear t68a t68b t69a t69b
  have K := subset_any (sz : Int) (a_a) (n_a) c_a X0 (sz : Int) (a_ab) (n_ba) c_ab U1 w67 ((unhide Aw67).w (a_a) (n_a) c_a (X0) (.tail _ (.tail _ (.tail _ (.tail _ (.tail _ (.tail _ (.tail _ (.tail _ (.tail _ (.tail _ (.tail _ (.tail _ (.tail _ (.tail _ (.tail _ (.tail _ (.tail _ (.tail _ (.tail _ (.tail _ (.tail _ (.tail _ (.tail _ (.tail _ (.tail _ (.head _))))))))))))))))))))))))))) ((unhide Aw67).w (a_ab) (n_ba) c_ab (U1) (.tail _ (.tail _ (.tail _ (.tail _ (.tail _ (.tail _ (.tail _ (.tail _ (.tail _ (.tail _ (.tail _ (.tail _ (.tail _ (.tail _ (.tail _ (.tail _ (.tail _ (.tail _ (.tail _ (.head _))))))))))))))))))))) (unhide G0).ok (unhide GU1).ok
  rw [unhide LV_a_U1] at K
  try unfold setV at K
  refine K.mono ?_
  clear K
  rintro _ w70 ⟨rfl, hb⟩
  have Aw70 := hide ((unhide Aw67).step hb)
  clear Aw67 hb
  have t71 := (unhide Aw70).t (w2.heap.size) (.int .i64 (sz : Int)) (.slice a_a n_a c_a) (.tail _ (.tail _ (.tail _ (.tail _ (.tail _ (.tail _ (.tail _ (.tail _ (.tail _ (.tail _ (.tail _ (.tail _ (.tail _ (.tail _ (.tail _ (.tail _ (.tail _ (.tail _ (.tail _ (.tail _ (.tail _ (.tail _ (.tail _ (.tail _ (.head _)))))))))))))))))))))))))
  have t71a := t71.c0
  have t71b := t71.c1
  clear t71
  go_wp2_with fail
  clear t71a t71b
  have Kw72 := rest_any (sz : Int) (a_a) (n_a) c_a X0 w70 ((unhide Aw70).w (a_a) (n_a) c_a (X0) (.tail _ (.tail _ (.tail _ (.tail _ (.tail _ (.tail _ (.tail _ (.tail _ (.tail _ (.tail _ (.tail _ (.tail _ (.tail _ (.tail _ (.tail _ (.tail _ (.tail _ (.tail _ (.tail _ (.tail _ (.tail _ (.tail _ (.tail _ (.tail _ (.tail _ (.head _))))))))))))))))))))))))))) (unhide G0).ok
  rw [rest_good (unhide G0) (unhide ID_ra)] at Kw72
  try unfold setV at Kw72
  refine Kw72.mono ?_
  clear Kw72
  rintro _ w72 ⟨a_ra, n_ra, c_ra, rfl, hs, hb⟩
  have Aw72 := hide (((unhide Aw70).step hb).add (fW a_ra n_ra c_ra R1) hs)
  clear Aw70 hs hb
  unfold setV
  obtain ⟨w73, hw73⟩ : ∃ x, w72.alloc (.cells #[.int .i64 (sz : Int), .slice a_ra n_ra c_ra] 26) = x := ⟨_, rfl⟩
  have Aw73 := hide ((unhide Aw72).box (.int .i64 (sz : Int)) (.slice a_ra n_ra c_ra) 26)
  rw [hw73] at Aw73
  clear Aw72
  have t74 := (unhide Aw73).t (w4.heap.size) (.int .i64 (sz : Int)) (.slice a_b n_b c_b) (.tail _ (.tail _ (.tail _ (.tail _ (.tail _ (.tail _ (.tail _ (.tail _ (.tail _ (.tail _ (.tail _ (.tail _ (.tail _ (.tail _ (.tail _ (.tail _ (.tail _ (.tail _ (.tail _ (.tail _ (.tail _ (.tail _ (.tail _ (.tail _ (.head _)))))))))))))))))))))))))
  have t74a := t74.c0
  have t74b := t74.c1
  clear t74
  go_wp2_with fail
  clear t74a t74b
  have Kw75 := rest_any (sz : Int) (a_b) (n_b) c_b X1 w73 ((unhide Aw73).w (a_b) (n_b) c_b (X1) (.tail _ (.tail _ (.tail _ (.tail _ (.tail _ (.tail _ (.tail _ (.tail _ (.tail _ (.tail _ (.tail _ (.tail _ (.tail _ (.tail _ (.tail _ (.tail _ (.tail _ (.tail _ (.tail _ (.tail _ (.tail _ (.tail _ (.tail _ (.tail _ (.tail _ (.head _))))))))))))))))))))))))))) (unhide G1).ok
  rw [rest_good (unhide G1) (unhide ID_rb)] at Kw75
  try unfold setV at Kw75
  refine Kw75.mono ?_
  clear Kw75
  rintro _ w75 ⟨a_rb, n_rb, c_rb, rfl, hs, hb⟩
  have Aw75 := hide (((unhide Aw73).step hb).add (fW a_rb n_rb c_rb R2) hs)
  clear Aw73 hs hb
  unfold setV
  obtain ⟨w76, hw76⟩ : ∃ x, w75.alloc (.cells #[.int .i64 (sz : Int), .slice a_rb n_rb c_rb] 26) = x := ⟨_, rfl⟩
  have Aw76 := hide ((unhide Aw75).box (.int .i64 (sz : Int)) (.slice a_rb n_rb c_rb) 26)
  rw [hw76] at Aw76
  clear Aw75
  have t77 := (unhide Aw76).t (w10.heap.size) (.int .i64 (sz : Int)) (.slice a_ab n_ba c_ab) (.tail _ (.tail _ (.tail _ (.tail _ (.tail _ (.tail _ (.tail _ (.tail _ (.tail _ (.tail _ (.tail _ (.tail _ (.tail _ (.tail _ (.tail _ (.tail _ (.tail _ (.tail _ (.tail _ (.tail _ (.tail _ (.tail _ (.head _)))))))))))))))))))))))
  have t77a := t77.c0
  have t77b := t77.c1
  clear t77
  go_wp2_with fail
  clear t77a t77b
  have Kw78 := rest_any (sz : Int) (a_ab) (n_ba) c_ab U1 w76 ((unhide Aw76).w (a_ab) (n_ba) c_ab (U1) (.tail _ (.tail _ (.tail _ (.tail _ (.tail _ (.tail _ (.tail _ (.tail _ (.tail _ (.tail _ (.tail _ (.tail _ (.tail _ (.tail _ (.tail _ (.tail _ (.tail _ (.tail _ (.tail _ (.tail _ (.tail _ (.tail _ (.tail _ (.head _))))))))))))))))))))))))) (unhide GU1).ok
  rw [rest_good (unhide GU1) (unhide ID_rab)] at Kw78
  try unfold setV at Kw78
  refine Kw78.mono ?_
  clear Kw78
  rintro _ w78 ⟨a_rab, n_rab, c_rab, rfl, hs, hb⟩
  have Aw78 := hide (((unhide Aw76).step hb).add (fW a_rab n_rab c_rab R3) hs)
  clear Aw76 hs hb
  unfold setV
  obtain ⟨w79, hw79⟩ : ∃ x, w78.alloc (.cells #[.int .i64 (sz : Int), .slice a_rab n_rab c_rab] 26) = x := ⟨_, rfl⟩
  have Aw79 := hide ((unhide Aw78).box (.int .i64 (sz : Int)) (.slice a_rab n_rab c_rab) 26)
  rw [hw79] at Aw79
  clear Aw78
  have t80 := (unhide Aw79).t (w72.heap.size) (.int .i64 (sz : Int)) (.slice a_ra n_ra c_ra) (.tail _ (.tail _ (.tail _ (.tail _ (.head _)))))
  have t80a := t80.c0
  have t80b := t80.c1
  clear t80
  have t81 := (unhide Aw79).t (w75.heap.size) (.int .i64 (sz : Int)) (.slice a_rb n_rb c_rb) (.tail _ (.tail _ (.head _)))
  have t81a := t81.c0
  have t81b := t81.c1
  clear t81
  go_wp2_with fail
  clear t80a t80b t81a t81b
  have Kw82 := interL_good sz (a_ra) (n_ra) c_ra R1 (fun x => decide (x < sz) && !p0 x) (a_rb) (n_rb) c_rb R2 (fun x => decide (x < sz) && !p1 x) w79 ((unhide Aw79).w (a_ra) (n_ra) c_ra (R1) (.tail _ (.tail _ (.tail _ (.tail _ (.tail _ (.head _))))))) ((unhide Aw79).w (a_rb) (n_rb) c_rb (R2) (.tail _ (.tail _ (.tail _ (.head _))))) (unhide GR1) (unhide GR2) R3 (unhide ID_both)
  try unfold setV at Kw82
  refine Kw82.mono ?_
  clear Kw82
  rintro _ w82 ⟨a_both, n_both, c_both, rfl, hs, hb⟩
  have Aw82 := hide (((unhide Aw79).step hb).add (fW a_both n_both c_both R3) hs)
  clear Aw79 hs hb
  unfold setV
  obtain ⟨w83, hw83⟩ : ∃ x, w82.alloc (.cells #[.int .i64 (sz : Int), .slice a_both n_both c_both] 26) = x := ⟨_, rfl⟩
  have Aw83 := hide ((unhide Aw82).box (.int .i64 (sz : Int)) (.slice a_both n_both c_both) 26)
  rw [hw83] at Aw83
  clear Aw82
  have t84 := (unhide Aw83).t (w2.heap.size) (.int .i64 (sz : Int)) (.slice a_a n_a c_a) (.tail _ (.tail _ (.tail _ (.tail _ (.tail _ (.tail _ (.tail _ (.tail _ (.tail _ (.tail _ (.tail _ (.tail _ (.tail _ (.tail _ (.tail _ (.tail _ (.tail _ (.tail _ (.tail _ (.tail _ (.tail _ (.tail _ (.tail _ (.tail _ (.tail _ (.tail _ (.tail _ (.tail _ (.tail _ (.tail _ (.tail _ (.tail _ (.head _)))))))))))))))))))))))))))))))))
  have t84a := t84.c0
  have t84b := t84.c1
  clear t84
  have t85 := (unhide Aw83).t (w4.heap.size) (.int .i64 (sz : Int)) (.slice a_b n_b c_b) (.tail _ (.tail _ (.tail _ (.tail _ (.tail _ (.tail _ (.tail _ (.tail _ (.tail _ (.tail _ (.tail _ (.tail _ (.tail _ (.tail _ (.tail _ (.tail _ (.tail _ (.tail _ (.tail _ (.tail _ (.tail _ (.tail _ (.tail _ (.tail _ (.tail _ (.tail _ (.tail _ (.tail _ (.tail _ (.tail _ (.head _)))))))))))))))))))))))))))))))
  have t85a := t85.c0
  have t85b := t85.c1
  clear t85
  go_wp2_with fail
  clear t84a t84b t85a t85b
  have Kw86 := minus_any (sz : Int) (a_a) (n_a) c_a X0 (sz : Int) (a_b) (n_b) c_b X1 w83 ((unhide Aw83).w (a_a) (n_a) c_a (X0) (.tail _ (.tail _ (.tail _ (.tail _ (.tail _ (.tail _ (.tail _ (.tail _ (.tail _ (.tail _ (.tail _ (.tail _ (.tail _ (.tail _ (.tail _ (.tail _ (.tail _ (.tail _ (.tail _ (.tail _ (.tail _ (.tail _ (.tail _ (.tail _ (.tail _ (.tail _ (.tail _ (.tail _ (.tail _ (.tail _ (.tail _ (.tail _ (.tail _ (.head _))))))))))))))))))))))))))))))))))) ((unhide Aw83).w (a_b) (n_b) c_b (X1) (.tail _ (.tail _ (.tail _ (.tail _ (.tail _ (.tail _ (.tail _ (.tail _ (.tail _ (.tail _ (.tail _ (.tail _ (.tail _ (.tail _ (.tail _ (.tail _ (.tail _ (.tail _ (.tail _ (.tail _ (.tail _ (.tail _ (.tail _ (.tail _ (.tail _ (.tail _ (.tail _ (.tail _ (.tail _ (.tail _ (.tail _ (.head _))))))))))))))))))))))))))))))))) (unhide G0).ok (unhide G1).ok
  rw [pair_good false (unhide G0) (unhide G1) (unhide ID_m)] at Kw86
  try unfold setV at Kw86
  refine Kw86.mono ?_
  clear Kw86
  rintro _ w86 ⟨a_m, n_m, c_m, rfl, hs, hb⟩
  have Aw86 := hide (((unhide Aw83).step hb).add (fW a_m n_m c_m MM) hs)
  clear Aw83 hs hb
  unfold setV
  obtain ⟨w87, hw87⟩ : ∃ x, w86.alloc (.cells #[.int .i64 (sz : Int), .slice a_m n_m c_m] 26) = x := ⟨_, rfl⟩
  have Aw87 := hide ((unhide Aw86).box (.int .i64 (sz : Int)) (.slice a_m n_m c_m) 26)
  rw [hw87] at Aw87
  clear Aw86
  have t88 := (unhide Aw87).t (w2.heap.size) (.int .i64 (sz : Int)) (.slice a_a n_a c_a) (.tail _ (.tail _ (.tail _ (.tail _ (.tail _ (.tail _ (.tail _ (.tail _ (.tail _ (.tail _ (.tail _ (.tail _ (.tail _ (.tail _ (.tail _ (.tail _ (.tail _ (.tail _ (.tail _ (.tail _ (.tail _ (.tail _ (.tail _ (.tail _ (.tail _ (.tail _ (.tail _ (.tail _ (.tail _ (.tail _ (.tail _ (.tail _ (.tail _ (.tail _ (.head _)))))))))))))))))))))))))))))))))))
  have t88a := t88.c0
  have t88b := t88.c1
  clear t88
  have t89 := (unhide Aw87).t (w75.heap.size) (.int .i64 (sz : Int)) (.slice a_rb n_rb c_rb) (.tail _ (.tail _ (.tail _ (.tail _ (.tail _ (.tail _ (.head _)))))))
  have t89a := t89.c0
  have t89b := t89.c1
  clear t89
  go_wp2_with fail
  clear t88a t88b t89a t89b
  have Kw90 := interL_good sz (a_a) (n_a) c_a X0 p0 (a_rb) (n_rb) c_rb R2 (fun x => decide (x < sz) && !p1 x) w87 ((unhide Aw87).w (a_a) (n_a) c_a (X0) (.tail _ (.tail _ (.tail _ (.tail _ (.tail _ (.tail _ (.tail _ (.tail _ (.tail _ (.tail _ (.tail _ (.tail _ (.tail _ (.tail _ (.tail _ (.tail _ (.tail _ (.tail _ (.tail _ (.tail _ (.tail _ (.tail _ (.tail _ (.tail _ (.tail _ (.tail _ (.tail _ (.tail _ (.tail _ (.tail _ (.tail _ (.tail _ (.tail _ (.tail _ (.tail _ (.head _))))))))))))))))))))))))))))))))))))) ((unhide Aw87).w (a_rb) (n_rb) c_rb (R2) (.tail _ (.tail _ (.tail _ (.tail _ (.tail _ (.tail _ (.tail _ (.head _))))))))) (unhide G0) (unhide GR2) MM (unhide ID_mb)
  try unfold setV at Kw90
  refine Kw90.mono ?_
  clear Kw90
  rintro _ w90 ⟨a_mb, n_mb, c_mb, rfl, hs, hb⟩
  have Aw90 := hide (((unhide Aw87).step hb).add (fW a_mb n_mb c_mb MM) hs)
  clear Aw87 hs hb
  unfold setV
  obtain ⟨w91, hw91⟩ : ∃ x, w90.alloc (.cells #[.int .i64 (sz : Int), .slice a_mb n_mb c_mb] 26) = x := ⟨_, rfl⟩
  have Aw91 := hide ((unhide Aw90).box (.int .i64 (sz : Int)) (.slice a_mb n_mb c_mb) 26)
  rw [hw91] at Aw91
  clear Aw90
  have t92 := (unhide Aw91).t (w2.heap.size) (.int .i64 (sz : Int)) (.slice a_a n_a c_a) (.tail _ (.tail _ (.tail _ (.tail _ (.tail _ (.tail _ (.tail _ (.tail _ (.tail _ (.tail _ (.tail _ (.tail _ (.tail _ (.tail _ (.tail _ (.tail _ (.tail _ (.tail _ (.tail _ (.tail _ (.tail _ (.tail _ (.tail _ (.tail _ (.tail _ (.tail _ (.tail _ (.tail _ (.tail _ (.tail _ (.tail _ (.tail _ (.tail _ (.tail _ (.tail _ (.tail _ (.head _)))))))))))))))))))))))))))))))))))))
  have t92a := t92.c0
  have t92b := t92.c1
  clear t92
  have t93 := (unhide Aw91).t (w4.heap.size) (.int .i64 (sz : Int)) (.slice a_b n_b c_b) (.tail _ (.tail _ (.tail _ (.tail _ (.tail _ (.tail _ (.tail _ (.tail _ (.tail _ (.tail _ (.tail _ (.tail _ (.tail _ (.tail _ (.tail _ (.tail _ (.tail _ (.tail _ (.tail _ (.tail _ (.tail _ (.tail _ (.tail _ (.tail _ (.tail _ (.tail _ (.tail _ (.tail _ (.tail _ (.tail _ (.tail _ (.tail _ (.tail _ (.tail _ (.head _)))))))))))))))))))))))))))))))))))
  have t93a := t93.c0
  have t93b := t93.c1
  clear t93
  go_wp2_with fail
  clear t92a t92b t93a t93b
  have Kw94 := differ_any (sz : Int) (a_a) (n_a) c_a X0 (sz : Int) (a_b) (n_b) c_b X1 w91 ((unhide Aw91).w (a_a) (n_a) c_a (X0) (.tail _ (.tail _ (.tail _ (.tail _ (.tail _ (.tail _ (.tail _ (.tail _ (.tail _ (.tail _ (.tail _ (.tail _ (.tail _ (.tail _ (.tail _ (.tail _ (.tail _ (.tail _ (.tail _ (.tail _ (.tail _ (.tail _ (.tail _ (.tail _ (.tail _ (.tail _ (.tail _ (.tail _ (.tail _ (.tail _ (.tail _ (.tail _ (.tail _ (.tail _ (.tail _ (.tail _ (.tail _ (.head _))))))))))))))))))))))))))))))))))))))) ((unhide Aw91).w (a_b) (n_b) c_b (X1) (.tail _ (.tail _ (.tail _ (.tail _ (.tail _ (.tail _ (.tail _ (.tail _ (.tail _ (.tail _ (.tail _ (.tail _ (.tail _ (.tail _ (.tail _ (.tail _ (.tail _ (.tail _ (.tail _ (.tail _ (.tail _ (.tail _ (.tail _ (.tail _ (.tail _ (.tail _ (.tail _ (.tail _ (.tail _ (.tail _ (.tail _ (.tail _ (.tail _ (.tail _ (.tail _ (.head _))))))))))))))))))))))))))))))))))))) (unhide G0).ok (unhide G1).ok
  rw [pair_good true (unhide G0) (unhide G1) (unhide ID_d)] at Kw94
  try unfold setV at Kw94
  refine Kw94.mono ?_
  clear Kw94
  rintro _ w94 ⟨a_d, n_d, c_d, rfl, hs, hb⟩
  have Aw94 := hide (((unhide Aw91).step hb).add (fW a_d n_d c_d DD) hs)
  clear Aw91 hs hb
  unfold setV
  obtain ⟨w95, hw95⟩ : ∃ x, w94.alloc (.cells #[.int .i64 (sz : Int), .slice a_d n_d c_d] 26) = x := ⟨_, rfl⟩
  have Aw95 := hide ((unhide Aw94).box (.int .i64 (sz : Int)) (.slice a_d n_d c_d) 26)
  rw [hw95] at Aw95
  clear Aw94
  have t96 := (unhide Aw95).t (w10.heap.size) (.int .i64 (sz : Int)) (.slice a_ab n_ba c_ab) (.tail _ (.tail _ (.tail _ (.tail _ (.tail _ (.tail _ (.tail _ (.tail _ (.tail _ (.tail _ (.tail _ (.tail _ (.tail _ (.tail _ (.tail _ (.tail _ (.tail _ (.tail _ (.tail _ (.tail _ (.tail _ (.tail _ (.tail _ (.tail _ (.tail _ (.tail _ (.tail _ (.tail _ (.tail _ (.tail _ (.tail _ (.tail _ (.head _)))))))))))))))))))))))))))))))))
  have t96a := t96.c0
  have t96b := t96.c1
  clear t96
  have t97 := (unhide Aw95).t (w36.heap.size) (.int .i64 (sz : Int)) (.slice a_ib n_ib c_ib) (.tail _ (.tail _ (.tail _ (.tail _ (.tail _ (.tail _ (.tail _ (.tail _ (.tail _ (.tail _ (.tail _ (.tail _ (.tail _ (.tail _ (.tail _ (.tail _ (.tail _ (.tail _ (.tail _ (.tail _ (.head _)))))))))))))))))))))
  have t97a := t97.c0
  have t97b := t97.c1
  clear t97
  go_wp2_with fail
  clear t96a t96b t97a t97b
  have Kw98 := minus_any (sz : Int) (a_ab) (n_ba) c_ab U1 (sz : Int) (a_ib) (n_ib) c_ib I1 w95 ((unhide Aw95).w (a_ab) (n_ba) c_ab (U1) (.tail _ (.tail _ (.tail _ (.tail _ (.tail _ (.tail _ (.tail _ (.tail _ (.tail _ (.tail _ (.tail _ (.tail _ (.tail _ (.tail _ (.tail _ (.tail _ (.tail _ (.tail _ (.tail _ (.tail _ (.tail _ (.tail _ (.tail _ (.tail _ (.tail _ (.tail _ (.tail _ (.tail _ (.tail _ (.tail _ (.tail _ (.tail _ (.tail _ (.head _))))))))))))))))))))))))))))))))))) ((unhide Aw95).w (a_ib) (n_ib) c_ib (I1) (.tail _ (.tail _ (.tail _ (.tail _ (.tail _ (.tail _ (.tail _ (.tail _ (.tail _ (.tail _ (.tail _ (.tail _ (.tail _ (.tail _ (.tail _ (.tail _ (.tail _ (.tail _ (.tail _ (.tail _ (.tail _ (.head _))))))))))))))))))))))) (unhide GU1).ok (unhide GI1).ok
  rw [pair_good false (unhide GU1) (unhide GI1) (unhide ID_du)] at Kw98
  try unfold setV at Kw98
  refine Kw98.mono ?_
  clear Kw98
  rintro _ w98 ⟨a_du, n_du, c_du, rfl, hs, hb⟩
  have Aw98 := hide (((unhide Aw95).step hb).add (fW a_du n_du c_du DD) hs)
  clear Aw95 hs hb
  unfold setV
  obtain ⟨w99, hw99⟩ : ∃ x, w98.alloc (.cells #[.int .i64 (sz : Int), .slice a_du n_du c_du] 26) = x := ⟨_, rfl⟩
  have Aw99 := hide ((unhide Aw98).box (.int .i64 (sz : Int)) (.slice a_du n_du c_du) 26)
  rw [hw99] at Aw99
  clear Aw98
  go_wp2_with fail
  refine (num_any 0 w99).mono ?_
  rintro _ w' ⟨rfl, hw⟩
  obtain rfl := hw.symm
  go_wp2_with fail
  refine (num_any 0 w99).mono ?_
  rintro _ w' ⟨rfl, hw⟩
  obtain rfl := hw.symm
  go_wp2_with fail
  refine (num_any 0 w99).mono ?_
  rintro _ w' ⟨rfl, hw⟩
  obtain rfl := hw.symm
  go_wp2_with fail
  refine (num_any 0 w99).mono ?_
  rintro _ w' ⟨rfl, hw⟩
  obtain rfl := hw.symm
  go_wp2_with fail
  refine (num_any 0 w99).mono ?_
  rintro _ w' ⟨rfl, hw⟩
  obtain rfl := hw.symm
  go_wp2_with fail
  refine (num_any 0 w99).mono ?_
  rintro _ w' ⟨rfl, hw⟩
  obtain rfl := hw.symm
  have EL : n_both = n_rab := by rw [← ((unhide Aw99).w (a_both) (n_both) c_both (R3) (.tail _ (.tail _ (.tail _ (.tail _ (.tail _ (.tail _ (.tail _ (.tail _ (.tail _ (.head _))))))))))).len, ← ((unhide Aw99).w (a_rab) (n_rab) c_rab (R3) (.tail _ (.tail _ (.tail _ (.tail _ (.tail _ (.tail _ (.tail _ (.tail _ (.tail _ (.tail _ (.tail _ (.head _))))))))))))).len]
  subst EL
  have t100 := (unhide Aw99).t (w78.heap.size) (.int .i64 (sz : Int)) (.slice a_rab n_both c_rab) (.tail _ (.tail _ (.tail _ (.tail _ (.tail _ (.tail _ (.tail _ (.tail _ (.tail _ (.tail _ (.head _)))))))))))
  have t100a := t100.c0
  have t100b := t100.c1
  clear t100
  have t101 := (unhide Aw99).t (w82.heap.size) (.int .i64 (sz : Int)) (.slice a_both n_both c_both) (.tail _ (.tail _ (.tail _ (.tail _ (.tail _ (.tail _ (.tail _ (.tail _ (.head _)))))))))
  have t101a := t101.c0
  have t101b := t101.c1
  clear t101
  go_wp2_with fail
  clear t100a t100b t101a t101b
  have Kw102 := same_eq (sz : Int) a_rab a_both n_both c_rab c_both R3 w99 ((unhide Aw99).w (a_rab) (n_both) c_rab (R3) (.tail _ (.tail _ (.tail _ (.tail _ (.tail _ (.tail _ (.tail _ (.tail _ (.tail _ (.tail _ (.tail _ (.head _))))))))))))) ((unhide Aw99).w (a_both) (n_both) c_both (R3) (.tail _ (.tail _ (.tail _ (.tail _ (.tail _ (.tail _ (.tail _ (.tail _ (.tail _ (.head _)))))))))))
  unfold setV at Kw102
  refine Kw102.mono ?_
  clear Kw102
  rintro _ w102 ⟨rfl, hb⟩
  have Aw102 := hide ((unhide Aw99).step hb)
  clear Aw99 hb
  have EL : n_mb = n_m := by rw [← ((unhide Aw102).w (a_mb) (n_mb) c_mb (MM) (.tail _ (.tail _ (.tail _ (.tail _ (.tail _ (.head _))))))).len, ← ((unhide Aw102).w (a_m) (n_m) c_m (MM) (.tail _ (.tail _ (.tail _ (.tail _ (.tail _ (.tail _ (.tail _ (.head _))))))))).len]
  subst EL
  have t103 := (unhide Aw102).t (w86.heap.size) (.int .i64 (sz : Int)) (.slice a_m n_mb c_m) (.tail _ (.tail _ (.tail _ (.tail _ (.tail _ (.tail _ (.head _)))))))
  have t103a := t103.c0
  have t103b := t103.c1
  clear t103
  have t104 := (unhide Aw102).t (w90.heap.size) (.int .i64 (sz : Int)) (.slice a_mb n_mb c_mb) (.tail _ (.tail _ (.tail _ (.tail _ (.head _)))))
  have t104a := t104.c0
  have t104b := t104.c1
  clear t104
  go_wp2_with fail
  clear t103a t103b t104a t104b
  have Kw105 := same_eq (sz : Int) a_m a_mb n_mb c_m c_mb MM w102 ((unhide Aw102).w (a_m) (n_mb) c_m (MM) (.tail _ (.tail _ (.tail _ (.tail _ (.tail _ (.tail _ (.tail _ (.head _))))))))) ((unhide Aw102).w (a_mb) (n_mb) c_mb (MM) (.tail _ (.tail _ (.tail _ (.tail _ (.tail _ (.head _)))))))
  unfold setV at Kw105
  refine Kw105.mono ?_
  clear Kw105
  rintro _ w105 ⟨rfl, hb⟩
  have Aw105 := hide ((unhide Aw102).step hb)
  clear Aw102 hb
  have EL : n_du = n_d := by rw [← ((unhide Aw105).w (a_du) (n_du) c_du (DD) (.tail _ (.head _))).len, ← ((unhide Aw105).w (a_d) (n_d) c_d (DD) (.tail _ (.tail _ (.tail _ (.head _))))).len]
  subst EL
  have t106 := (unhide Aw105).t (w94.heap.size) (.int .i64 (sz : Int)) (.slice a_d n_du c_d) (.tail _ (.tail _ (.head _)))
  have t106a := t106.c0
  have t106b := t106.c1
  clear t106
  have t107 := (unhide Aw105).t (w98.heap.size) (.int .i64 (sz : Int)) (.slice a_du n_du c_du) (.head _)
  have t107a := t107.c0
  have t107b := t107.c1
  clear t107
  go_wp2_with fail
  clear t106a t106b t107a t107b
  have Kw108 := same_eq (sz : Int) a_d a_du n_du c_d c_du DD w105 ((unhide Aw105).w (a_d) (n_du) c_d (DD) (.tail _ (.tail _ (.tail _ (.head _))))) ((unhide Aw105).w (a_du) (n_du) c_du (DD) (.tail _ (.head _)))
  unfold setV at Kw108
  refine Kw108.mono ?_
  clear Kw108
  rintro _ w108 ⟨rfl, hb⟩
  have Aw108 := hide ((unhide Aw105).step hb)
  clear Aw105 hb
  have t109 := (unhide Aw108).t (w2.heap.size) (.int .i64 (sz : Int)) (.slice a_a n_a c_a) (.tail _ (.tail _ (.tail _ (.tail _ (.tail _ (.tail _ (.tail _ (.tail _ (.tail _ (.tail _ (.tail _ (.tail _ (.tail _ (.tail _ (.tail _ (.tail _ (.tail _ (.tail _ (.tail _ (.tail _ (.tail _ (.tail _ (.tail _ (.tail _ (.tail _ (.tail _ (.tail _ (.tail _ (.tail _ (.tail _ (.tail _ (.tail _ (.tail _ (.tail _ (.tail _ (.tail _ (.tail _ (.tail _ (.tail _ (.tail _ (.head _)))))))))))))))))))))))))))))))))))))))))
  have t109a := t109.c0
  have t109b := t109.c1
  clear t109
  have t110 := (unhide Aw108).t (w72.heap.size) (.int .i64 (sz : Int)) (.slice a_ra n_ra c_ra) (.tail _ (.tail _ (.tail _ (.tail _ (.tail _ (.tail _ (.tail _ (.tail _ (.tail _ (.tail _ (.tail _ (.tail _ (.tail _ (.tail _ (.head _)))))))))))))))
  have t110a := t110.c0
  have t110b := t110.c1
  clear t110
  go_wp2_with fail
  clear t109a t109b t110a t110b
  have K := disjoint_any (sz : Int) (a_a) (n_a) c_a X0 (sz : Int) (a_ra) (n_ra) c_ra R1 w108 ((unhide Aw108).w (a_a) (n_a) c_a (X0) (.tail _ (.tail _ (.tail _ (.tail _ (.tail _ (.tail _ (.tail _ (.tail _ (.tail _ (.tail _ (.tail _ (.tail _ (.tail _ (.tail _ (.tail _ (.tail _ (.tail _ (.tail _ (.tail _ (.tail _ (.tail _ (.tail _ (.tail _ (.tail _ (.tail _ (.tail _ (.tail _ (.tail _ (.tail _ (.tail _ (.tail _ (.tail _ (.tail _ (.tail _ (.tail _ (.tail _ (.tail _ (.tail _ (.tail _ (.tail _ (.tail _ (.head _))))))))))))))))))))))))))))))))))))))))))) ((unhide Aw108).w (a_ra) (n_ra) c_ra (R1) (.tail _ (.tail _ (.tail _ (.tail _ (.tail _ (.tail _ (.tail _ (.tail _ (.tail _ (.tail _ (.tail _ (.tail _ (.tail _ (.tail _ (.tail _ (.head _))))))))))))))))) (unhide G0).ok (unhide GR1).ok
  rw [unhide LV_a_R1] at K
  try unfold setV at K
  refine K.mono ?_
  clear K
  rintro _ w111 ⟨rfl, hb⟩
  have Aw111 := hide ((unhide Aw108).step hb)
  clear Aw108 hb
  have t112 := (unhide Aw111).t (w86.heap.size) (.int .i64 (sz : Int)) (.slice a_m n_mb c_m) (.tail _ (.tail _ (.tail _ (.tail _ (.tail _ (.tail _ (.head _)))))))
  have t112a := t112.c0
  have t112b := t112.c1
  clear t112
  have t113 := (unhide Aw111).t (w4.heap.size) (.int .i64 (sz : Int)) (.slice a_b n_b c_b) (.tail _ (.tail _ (.tail _ (.tail _ (.tail _ (.tail _ (.tail _ (.tail _ (.tail _ (.tail _ (.tail _ (.tail _ (.tail _ (.tail _ (.tail _ (.tail _ (.tail _ (.tail _ (.tail _ (.tail _ (.tail _ (.tail _ (.tail _ (.tail _ (.tail _ (.tail _ (.tail _ (.tail _ (.tail _ (.tail _ (.tail _ (.tail _ (.tail _ (.tail _ (.tail _ (.tail _ (.tail _ (.tail _ (.head _)))))))))))))))))))))))))))))))))))))))
  have t113a := t113.c0
  have t113b := t113.c1
  clear t113
  go_wp2_with fail
  clear t112a t112b t113a t113b
  have K := disjoint_any (sz : Int) (a_m) (n_mb) c_m MM (sz : Int) (a_b) (n_b) c_b X1 w111 ((unhide Aw111).w (a_m) (n_mb) c_m (MM) (.tail _ (.tail _ (.tail _ (.tail _ (.tail _ (.tail _ (.tail _ (.head _))))))))) ((unhide Aw111).w (a_b) (n_b) c_b (X1) (.tail _ (.tail _ (.tail _ (.tail _ (.tail _ (.tail _ (.tail _ (.tail _ (.tail _ (.tail _ (.tail _ (.tail _ (.tail _ (.tail _ (.tail _ (.tail _ (.tail _ (.tail _ (.tail _ (.tail _ (.tail _ (.tail _ (.tail _ (.tail _ (.tail _ (.tail _ (.tail _ (.tail _ (.tail _ (.tail _ (.tail _ (.tail _ (.tail _ (.tail _ (.tail _ (.tail _ (.tail _ (.tail _ (.tail _ (.head _))))))))))))))))))))))))))))))))))))))))) (unhide GMM).ok (unhide G1).ok
  rw [unhide LV_MM_b] at K
  try unfold setV at K
  refine K.mono ?_
  clear K
  rintro _ w114 ⟨rfl, hb⟩
  have Aw114 := hide ((unhide Aw111).step hb)
  clear Aw111 hb
  have t115 := (unhide Aw114).t (w10.heap.size) (.int .i64 (sz : Int)) (.slice a_ab n_ba c_ab) (.tail _ (.tail _ (.tail _ (.tail _ (.tail _ (.tail _ (.tail _ (.tail _ (.tail _ (.tail _ (.tail _ (.tail _ (.tail _ (.tail _ (.tail _ (.tail _ (.tail _ (.tail _ (.tail _ (.tail _ (.tail _ (.tail _ (.tail _ (.tail _ (.tail _ (.tail _ (.tail _ (.tail _ (.tail _ (.tail _ (.tail _ (.tail _ (.tail _ (.tail _ (.head _)))))))))))))))))))))))))))))))))))
  have t115a := t115.c0
  have t115b := t115.c1
  clear t115
  have t116 := (unhide Aw114).t (w36.heap.size) (.int .i64 (sz : Int)) (.slice a_ib n_ib c_ib) (.tail _ (.tail _ (.tail _ (.tail _ (.tail _ (.tail _ (.tail _ (.tail _ (.tail _ (.tail _ (.tail _ (.tail _ (.tail _ (.tail _ (.tail _ (.tail _ (.tail _ (.tail _ (.tail _ (.tail _ (.tail _ (.tail _ (.head _)))))))))))))))))))))))
  have t116a := t116.c0
  have t116b := t116.c1
  clear t116
  have t117 := (unhide Aw114).t (w2.heap.size) (.int .i64 (sz : Int)) (.slice a_a n_a c_a) (.tail _ (.tail _ (.tail _ (.tail _ (.tail _ (.tail _ (.tail _ (.tail _ (.tail _ (.tail _ (.tail _ (.tail _ (.tail _ (.tail _ (.tail _ (.tail _ (.tail _ (.tail _ (.tail _ (.tail _ (.tail _ (.tail _ (.tail _ (.tail _ (.tail _ (.tail _ (.tail _ (.tail _ (.tail _ (.tail _ (.tail _ (.tail _ (.tail _ (.tail _ (.tail _ (.tail _ (.tail _ (.tail _ (.tail _ (.tail _ (.head _)))))))))))))))))))))))))))))))))))))))))
  have t117a := t117.c0
  have t117b := t117.c1
  clear t117
  have t118 := (unhide Aw114).t (w4.heap.size) (.int .i64 (sz : Int)) (.slice a_b n_b c_b) (.tail _ (.tail _ (.tail _ (.tail _ (.tail _ (.tail _ (.tail _ (.tail _ (.tail _ (.tail _ (.tail _ (.tail _ (.tail _ (.tail _ (.tail _ (.tail _ (.tail _ (.tail _ (.tail _ (.tail _ (.tail _ (.tail _ (.tail _ (.tail _ (.tail _ (.tail _ (.tail _ (.tail _ (.tail _ (.tail _ (.tail _ (.tail _ (.tail _ (.tail _ (.tail _ (.tail _ (.tail _ (.tail _ (.head _)))))))))))))))))))))))))))))))))))))))
  have t118a := t118.c0
  have t118b := t118.c1
  clear t118
  have t119 := (unhide Aw114).t (w72.heap.size) (.int .i64 (sz : Int)) (.slice a_ra n_ra c_ra) (.tail _ (.tail _ (.tail _ (.tail _ (.tail _ (.tail _ (.tail _ (.tail _ (.tail _ (.tail _ (.tail _ (.tail _ (.tail _ (.tail _ (.head _)))))))))))))))
  have t119a := t119.c0
  have t119b := t119.c1
  clear t119
  have AX120 := hide (fun x : Ext w114 => (unhide Aw114).step x.bel)
  have hNE120 := Ext.ne w114
  have Ft115a := fun x : Ext w114 => x.cell t115a
  have Ft115b := fun x : Ext w114 => x.cell t115b
  have Ft116a := fun x : Ext w114 => x.cell t116a
  have Ft116b := fun x : Ext w114 => x.cell t116b
  have Ft117a := fun x : Ext w114 => x.cell t117a
  have Ft117b := fun x : Ext w114 => x.cell t117b
  have Ft118a := fun x : Ext w114 => x.cell t118a
  have Ft118b := fun x : Ext w114 => x.cell t118b
  have Ft119a := fun x : Ext w114 => x.cell t119a
  have Ft119b := fun x : Ext w114 => x.cell t119b
  have K := fun x : Ext w114 => Count_any (sz : Int) (a_ab) (n_ba) c_ab U1 x.w ((unhide AX120 x).w (a_ab) (n_ba) c_ab (U1) (.tail _ (.tail _ (.tail _ (.tail _ (.tail _ (.tail _ (.tail _ (.tail _ (.tail _ (.tail _ (.tail _ (.tail _ (.tail _ (.tail _ (.tail _ (.tail _ (.tail _ (.tail _ (.tail _ (.tail _ (.tail _ (.tail _ (.tail _ (.tail _ (.tail _ (.tail _ (.tail _ (.tail _ (.tail _ (.tail _ (.tail _ (.tail _ (.tail _ (.tail _ (.tail _ (.head _))))))))))))))))))))))))))))))))))))) (unhide GU1).ok
  rw [unhide Hcu] at K
  try unfold setV at K
  have HK120_0 := hide K
  clear K
  have K := fun x : Ext w114 => Count_any (sz : Int) (a_ib) (n_ib) c_ib I1 x.w ((unhide AX120 x).w (a_ib) (n_ib) c_ib (I1) (.tail _ (.tail _ (.tail _ (.tail _ (.tail _ (.tail _ (.tail _ (.tail _ (.tail _ (.tail _ (.tail _ (.tail _ (.tail _ (.tail _ (.tail _ (.tail _ (.tail _ (.tail _ (.tail _ (.tail _ (.tail _ (.tail _ (.tail _ (.head _))))))))))))))))))))))))) (unhide GI1).ok
  rw [unhide Hci] at K
  try unfold setV at K
  have HK120_1 := hide K
  clear K
  have K := fun x : Ext w114 => Count_any (sz : Int) (a_a) (n_a) c_a X0 x.w ((unhide AX120 x).w (a_a) (n_a) c_a (X0) (.tail _ (.tail _ (.tail _ (.tail _ (.tail _ (.tail _ (.tail _ (.tail _ (.tail _ (.tail _ (.tail _ (.tail _ (.tail _ (.tail _ (.tail _ (.tail _ (.tail _ (.tail _ (.tail _ (.tail _ (.tail _ (.tail _ (.tail _ (.tail _ (.tail _ (.tail _ (.tail _ (.tail _ (.tail _ (.tail _ (.tail _ (.tail _ (.tail _ (.tail _ (.tail _ (.tail _ (.tail _ (.tail _ (.tail _ (.tail _ (.tail _ (.head _))))))))))))))))))))))))))))))))))))))))))) (unhide G0).ok
  rw [unhide Hca] at K
  try unfold setV at K
  have HK120_2 := hide K
  clear K
  have K := fun x : Ext w114 => Count_any (sz : Int) (a_b) (n_b) c_b X1 x.w ((unhide AX120 x).w (a_b) (n_b) c_b (X1) (.tail _ (.tail _ (.tail _ (.tail _ (.tail _ (.tail _ (.tail _ (.tail _ (.tail _ (.tail _ (.tail _ (.tail _ (.tail _ (.tail _ (.tail _ (.tail _ (.tail _ (.tail _ (.tail _ (.tail _ (.tail _ (.tail _ (.tail _ (.tail _ (.tail _ (.tail _ (.tail _ (.tail _ (.tail _ (.tail _ (.tail _ (.tail _ (.tail _ (.tail _ (.tail _ (.tail _ (.tail _ (.tail _ (.tail _ (.head _))))))))))))))))))))))))))))))))))))))))) (unhide G1).ok
  rw [unhide Hcb] at K
  try unfold setV at K
  have HK120_3 := hide K
  clear K
  have K := fun x : Ext w114 => Count_any (sz : Int) (a_ra) (n_ra) c_ra R1 x.w ((unhide AX120 x).w (a_ra) (n_ra) c_ra (R1) (.tail _ (.tail _ (.tail _ (.tail _ (.tail _ (.tail _ (.tail _ (.tail _ (.tail _ (.tail _ (.tail _ (.tail _ (.tail _ (.tail _ (.tail _ (.head _))))))))))))))))) (unhide GR1).ok
  rw [unhide Hcr] at K
  try unfold setV at K
  have HK120_4 := hide K
  clear K
  have Q1 := (unhide QQ).1
  have Q2 := (unhide QQ).2
  go_wp2_with fail
  clear t115a t115b t116a t116b t117a t117b t118a t118b t119a t119b
  refine wp_region_ext (by kernel_rfl) (by kernel_rfl) ?_
  repeat (go_big_quiet_step (first
    | (go_at_call_of 19 (Value.agg #[.int .i64 (sz : Int), .slice (a_ab) (n_ba) c_ab]); rename_i x; exact Ext.call (unhide HK120_0 x) (fun e w' h => h))
    | (go_at_call_of 19 (Value.agg #[.int .i64 (sz : Int), .slice (a_ib) (n_ib) c_ib]); rename_i x; exact Ext.call (unhide HK120_1 x) (fun e w' h => h))
    | (go_at_call_of 19 (Value.agg #[.int .i64 (sz : Int), .slice (a_a) (n_a) c_a]); rename_i x; exact Ext.call (unhide HK120_2 x) (fun e w' h => h))
    | (go_at_call_of 19 (Value.agg #[.int .i64 (sz : Int), .slice (a_b) (n_b) c_b]); rename_i x; exact Ext.call (unhide HK120_3 x) (fun e w' h => h))
    | (go_at_call_of 19 (Value.agg #[.int .i64 (sz : Int), .slice (a_ra) (n_ra) c_ra]); rename_i x; exact Ext.call (unhide HK120_4 x) (fun e w' h => h))))
  refine wpQuiet_nil ?_
  rintro _ ⟨x120, rfl⟩
  have A120 := hide (unhide AX120 x120)
  clear AX120 Aw114 Ft115a Ft115b Ft116a Ft116b Ft117a Ft117b Ft118a Ft118b Ft119a Ft119b HK120_0 HK120_1 HK120_2 HK120_3 HK120_4
  go_wp2_with fail
  go_ret
  exact ⟨rfl, (unhide A120).bel⟩

theorem bitLattice_walk (size : Int) (a_x : Option Addr) (n_x c_x : Nat) (x_x : List Int) (a_y : Option Addr) (n_y c_y : Nat) (x_y : List Int) (a_z : Option Addr) (n_z c_z : Nat) (x_z : List Int) (w : World) (hl_size : -9223372036854775808 ≤ size) (hh_size : size ≤ 9223372036854775807) (h_x : SlI w a_x n_x c_x x_x) (b_x : n_x ≤ 17592186043904) (e_x : a_x = none → n_x = 0 ∧ c_x = 0) (h_y : SlI w a_y n_y c_y x_y) (b_y : n_y ≤ 17592186043904) (e_y : a_y = none → n_y = 0 ∧ c_y = 0) (h_z : SlI w a_z n_z c_z x_z) (b_z : n_z ≤ 17592186043904) (e_z : a_z = none → n_z = 0 ∧ c_z = 0) :
    Calls Try.prog 3 #[.int .i64 size, .slice a_x n_x c_x, .slice a_y n_y c_y, .slice a_z n_z c_z] w fun e w' => e = .returned (.bool true) ∧ Below w.heap.size w w' := by
  cases hf : fitsI size
  · exact bitLattice_no size a_x n_x c_x x_x a_y n_y c_y x_y a_z n_z c_z x_z w hl_size hh_size h_x b_x e_x h_y b_y e_y h_z b_z e_z hf
  · cases hx : x_x.any (badE size)
    · cases hy : x_y.any (badE size)
      · cases hz : x_z.any (badE size)
        · exact bitLattice_yes size a_x n_x c_x x_x a_y n_y c_y x_y a_z n_z c_z x_z w hl_size hh_size h_x b_x e_x h_y b_y e_y h_z b_z e_z hf hx hy hz
        · exact bitLattice_bad3 size a_x n_x c_x x_x a_y n_y c_y x_y a_z n_z c_z x_z w hl_size hh_size h_x b_x e_x h_y b_y e_y h_z b_z e_z hf hx hy hz
      · exact bitLattice_bad2 size a_x n_x c_x x_x a_y n_y c_y x_y a_z n_z c_z x_z w hl_size hh_size h_x b_x e_x h_y b_y e_y h_z b_z e_z hf hx hy
    · exact bitLattice_bad1 size a_x n_x c_x x_x a_y n_y c_y x_y a_z n_z c_z x_z w hl_size hh_size h_x b_x e_x h_y b_y e_y h_z b_z e_z hf hx

set_option maxRecDepth 100000 in
theorem bitLattice_lifted (os : Os) (started : os.Started) (H : Type) (enc : TypeId × Value → H) :
    ReturnsInHanded {} Try.checked os 3 .any (Rows.bitLatticeSpec.pre6 enc Try.prog Try.f3 Rows.bitLatticeRow.domain false) (Rows.bitLatticeSpec.post enc Try.prog Try.f3 false true false false) := by
  refine returnsInHanded_of_change_sized (C := Try.checked) law_own started (by kernel_rfl) Try.func3
    (ChangeSpec.witness6 (enc := enc) (C := Try.checked) false ⟨#[], #[.int .i64 0, .slice none 0 0, .slice none 0 0, .slice none 0 0], []⟩ 8 (by kernel_rfl) (by kernel_rfl) (by kernel_rfl) (by kernel_rfl)) ?_
  intro W base args ds gs before hval0 hW hcnd hsz _
  have hval : ∀ (j : Nat) t v, Try.f3.params[j]? = some t → args[j]? = some v → Value.okWide Try.prog W .any base t v := hval0
  have hW' := hW
  obtain ⟨p, q, hA0, hV, rfl, hfz, hnd⟩ := hW
  have hA : DataW.TrodAll enc Try.prog W 0 (fun _ => true) true Try.f3.params.toList args.toList ds p := hA0
  rw [Try.params3] at hA hval hsz
  obtain ⟨v0, vs0, d0, ds0, p0, q0, hargs, rfl, rfl, h0, r0⟩ := trodAll_cons hA
  obtain ⟨v1, vs1, d1, ds1, p1, q1, rfl, rfl, rfl, h1, r1⟩ := trodAll_cons r0
  obtain ⟨v2, vs2, d2, ds2, p2, q2, rfl, rfl, rfl, h2, r2⟩ := trodAll_cons r1
  obtain ⟨v3, vs3, d3, ds3, p3, q3, rfl, rfl, rfl, h3, r3⟩ := trodAll_cons r2
  obtain ⟨rfl, rfl, rfl⟩ := trodAll_nil r3
  obtain rfl : args = #[v0, v1, v2, v3] := by cases args; simp_all
  obtain ⟨rfl, rfl⟩ := trodVars_none hV
  obtain ⟨i0, rfl, rfl, rfl, wf0⟩ := open_int Try.underlying3 (hval 0 3 v0 rfl rfl) h0
  have k1 := h1
  have lt1 : ∀ x ∈ p1, x.block < W.heap.size := by obtain ⟨m, hm⟩ := k1; exact DataW.trod_lt m _ _ _ hm
  obtain ⟨a1, n1, c1, rfl⟩ := okWide_slice Try.underlying22 (hval 1 22 v1 rfl rfl)
  obtain ⟨x1, y1, o1, b1, e1⟩ := arg_ints h1 (fun el sp e => by subst e; exact sized_slice (j := 1) hsz rfl rfl Try.underlying22)
  have k2 := h2
  have lt2 : ∀ x ∈ p2, x.block < W.heap.size := by obtain ⟨m, hm⟩ := k2; exact DataW.trod_lt m _ _ _ hm
  obtain ⟨a2, n2, c2, rfl⟩ := okWide_slice Try.underlying22 (hval 2 22 v2 rfl rfl)
  obtain ⟨x2, y2, o2, b2, e2⟩ := arg_ints h2 (fun el sp e => by subst e; exact sized_slice (j := 2) hsz rfl rfl Try.underlying22)
  have k3 := h3
  have lt3 : ∀ x ∈ p3, x.block < W.heap.size := by obtain ⟨m, hm⟩ := k3; exact DataW.trod_lt m _ _ _ hm
  obtain ⟨a3, n3, c3, rfl⟩ := okWide_slice Try.underlying22 (hval 3 22 v3 rfl rfl)
  obtain ⟨x3, y3, o3, b3, e3⟩ := arg_ints h3 (fun el sp e => by subst e; exact sized_slice (j := 3) hsz rfl rfl Try.underlying22)
  clear hA0 hval0
  refine (bitLattice_walk i0 a1 n1 c1 x1 a2 n2 c2 x2 a3 n3 c3 x3 W (bounds_i64 wf0).1 (bounds_i64 wf0).2 y1 b1 e1 y2 b2 e2 y3 b3 e3).mono fun e W' ⟨he, bel⟩ => ?_
  subst he
  exact ⟨_, rfl, _, _, _, [], _, [], hW', trodAll_mk1 (shut_bool Try.underlying4 _), (trodAll_cons_mk (shut_int Try.underlying3 wf0) (trodAll_cons_mk (Below.trod law_laid (by kernel_rfl) (of_decide_eq_true (by kernel_rfl)) k1 bel lt1) (trodAll_cons_mk (Below.trod law_laid (by kernel_rfl) (of_decide_eq_true (by kernel_rfl)) k2 bel lt2) (trodAll_cons_mk (Below.trod law_laid (by kernel_rfl) (of_decide_eq_true (by kernel_rfl)) k3 bel lt3) trodAll_mk0)))), rfl, bel.frame _, fun h => by cases h⟩

theorem bitLattice_holds : Rows.BitLatticeSaid :=
  OpenClaim.holds_of_wide 3 Try.f3 rfl rfl rfl rfl rfl rfl rfl ⟨rfl, rfl, rfl, rfl, rfl⟩ rfl rfl rfl rfl rfl (by kernel_rfl) Try.func3 (by kernel_rfl)
    (of_decide_eq_true (by kernel_rfl)) (by unfold Func.isWrapper; first | (rw [if_pos (by decide +kernel)]; kernel_rfl) | (rw [if_neg (by decide +kernel)]; exact ⟨rfl, rfl⟩))
    (fun os started H enc _ => bitLattice_lifted os started H enc)
#print axioms bitLattice_holds
end Go.Proofs.Ytbendkndnojihab
