/-
  THE LAW BitCovered: out of the contracts; the row's step.
-/
import Derived.Test.YtbendkndnojihaaBka
import Derived.Test.YtbendkndnojihaaBk4
import Derived.Test.YtbendkndnojihaaBp1
import Derived.Test.YtbendkndnojihaaBl4
import Derived.Test.YtbendkndnojihaaBl5
import Derived.Test.YtbendkndnojihaaBu2
import Derived.Test.YtbendkndnojihaaBu3
import Derived.Test.YtbendkndnojihaaBq0
import Derived.Test.YtbendkndnojihaaBt8
import Derived.Test.YtbendkndnojihaaBt7
namespace Go.Proofs.Ytbendkndnojihaa
open Go.ChangeShapes Go.WideShapes Go.ChangeAt Go.RowKit Go.Deep
set_option linter.unusedVariables false

theorem cover_any (t : Int) (aT : Option Addr) (n cT : Nat) (L : List SetC) (s : Int) (a : Option Addr) (ns c : Nat) (xs : List Nat) (w : World) (hS : SlS w aT n cT L) (h : SlW w a ns c xs) (o : OkW xs) :
    Calls Try.prog 38 #[setV t aT n cT, setV s a ns c] w fun e w' => ResI w w' (coverR t L s xs) e := by
  cases m1 : MayT t L
  · rw [show coverR t L s xs = ([], 61) by unfold coverR; rw [m1]; simp]
    exact cover_no t aT n cT L s a ns c xs w hS h o 61 (.inl ⟨m1, rfl⟩)
  · cases m2 : MayS s xs
    · rw [show coverR t L s xs = ([], 61) by unfold coverR; rw [m1, m2]; simp]
      exact cover_no t aT n cT L s a ns c xs w hS h o 61 (.inr (.inl ⟨m1, m2, rfl⟩))
    · by_cases e : t = s
      · subst e
        obtain ⟨sz, rfl, hsz⟩ := fitsI_nat (MayS.fits m2)
        rw [show coverR sz L sz xs = covA (covR sz L.length (setP L) 4096 (hasB (gW xs)) []) by unfold coverR; rw [m1, m2]; simp, hS.len]
        exact cover_yes sz aT n cT L a ns c xs w hS h o m1 m2
      · rw [show coverR t L s xs = ([], 60) by unfold coverR; rw [m1, m2]; simp [e]]
        exact cover_no t aT n cT L s a ns c xs w hS h o 60 (.inr (.inr ⟨m1, m2, e, rfl⟩))

set_option maxRecDepth 100000 in
set_option maxHeartbeats 64000000 in
theorem bitCovered_no1 (s_t : Int) (a_t : Option Addr) (n_t c_t : Nat) (x_t : List SetC) (s_s : Int) (a_s : Option Addr) (n_s c_s : Nat) (x_s : List Nat) (w : World) (h_t : SlS w a_t n_t c_t x_t) (o_t : ∀ e ∈ x_t, e.Arg) (b_t : n_t ≤ 4398046510976) (e_t : a_t = none → n_t = 0 ∧ c_t = 0) (hl_t : -9223372036854775808 ≤ s_t) (hh_t : s_t ≤ 9223372036854775807) (h_s : SlW w a_s n_s c_s x_s) (o_s : OkW x_s) (b_s : n_s ≤ 17592186043904) (e_s : a_s = none → n_s = 0 ∧ c_s = 0) (hl_s : -9223372036854775808 ≤ s_s) (hh_s : s_s ≤ 9223372036854775807) (m1 : MayT s_t x_t = false) :
    Calls Try.prog 9 #[setV s_t a_t n_t c_t, setV s_s a_s n_s c_s] w fun e w' => e = .returned (.bool true) ∧ Below w.heap.size w w' := by
  have A00 : Facts w w [] := ⟨Below.refl _ _, fun f hf => by cases hf⟩
  have A01 := A00.add (fS a_t n_t c_t x_t) h_t
  have L_t := hide h_t.len
  have hle_t := h_t.le
  have hcap_t := h_t.cap
  unfold maxLen at hcap_t
  have A02 := A01.add (fW a_s n_s c_s x_s) h_s
  have A0 := hide A02
  have O_t := hide o_t
  have B_t := hide (And.intro hl_t hh_t)
  have O_s := hide o_s
  have E_s := hide e_s
  have B_s := hide (And.intro hl_s hh_s)
  have HR := hide (show coverR s_t x_t s_s x_s = ([], 61) by unfold coverR; rw [m1]; simp)
  have M1 := hide m1
  clear m1
  clear A00 A01 A02 h_t h_s o_t o_s e_t e_s hl_t hh_t hl_s hh_s
  unfold setV
  go_enter Try.func9, Try.ntmps9
  obtain ⟨w1, hw1⟩ : ∃ x, w.alloc (.cells #[.int .i64 s_t, .slice a_t n_t c_t] 27) = x := ⟨_, rfl⟩
  have Aw1 := hide ((unhide A0).box (.int .i64 s_t) (.slice a_t n_t c_t) 27)
  rw [hw1] at Aw1
  clear A0
  obtain ⟨w2, hw2⟩ : ∃ x, w1.alloc (.cells #[.int .i64 s_s, .slice a_s n_s c_s] 24) = x := ⟨_, rfl⟩
  have Aw2 := hide ((unhide Aw1).box (.int .i64 s_s) (.slice a_s n_s c_s) 24)
  rw [hw2] at Aw2
  clear Aw1
  go_wp2_with fail
  have K := alive_any w2
  try unfold setV at K
  refine K.mono ?_
  clear K
  rintro _ w3 ⟨rfl, hb⟩
  have Aw3 := hide ((unhide Aw2).step hb)
  clear Aw2 hb
  have t4 := (unhide Aw3).t (w.heap.size) (.int .i64 s_t) (.slice a_t n_t c_t) (.tail _ (.head _))
  have t4a := t4.c0
  have t4b := t4.c1
  clear t4
  have t5 := (unhide Aw3).t (w1.heap.size) (.int .i64 s_s) (.slice a_s n_s c_s) (.head _)
  have t5a := t5.c0
  have t5b := t5.c1
  clear t5
  go_wp2_with fail
  clear t4a t4b t5a t5b
  have Kw6 := cover_any s_t a_t n_t c_t x_t s_s a_s n_s c_s x_s w3 ((unhide Aw3).ss (a_t) (n_t) c_t (x_t) (.tail _ (.tail _ (.tail _ (.head _))))) ((unhide Aw3).w (a_s) (n_s) c_s (x_s) (.tail _ (.tail _ (.head _)))) (unhide O_s)
  rw [unhide HR] at Kw6
  try unfold setV at Kw6
  refine Kw6.mono ?_
  clear Kw6
  rintro _ w6 ⟨a_l, n_l, c_l, rfl, hs, hb⟩
  have Aw6 := hide (((unhide Aw3).step hb).add (fI a_l n_l c_l ([] : List Int)) hs)
  clear Aw3 hs hb
  have EL : n_l = 0 := by rw [← ((unhide Aw6).i (a_l) (n_l) c_l (([] : List Int)) (.head _)).len]; rfl
  subst EL
  have t7 := (unhide Aw6).t (w.heap.size) (.int .i64 s_t) (.slice a_t n_t c_t) (.tail _ (.tail _ (.head _)))
  have t7a := t7.c0
  have t7b := t7.c1
  clear t7
  have t8 := (unhide Aw6).t (w1.heap.size) (.int .i64 s_s) (.slice a_s n_s c_s) (.tail _ (.head _))
  have t8a := t8.c0
  have t8b := t8.c1
  clear t8
  go_wp2_with fail
  clear t7a t7b t8a t8b
  have K := rmayT_any s_t a_t n_t c_t x_t w6 ((unhide Aw6).ss (a_t) (n_t) c_t (x_t) (.tail _ (.tail _ (.tail _ (.tail _ (.head _))))))
  rw [unhide M1] at K
  try unfold setV at K
  refine K.mono ?_
  clear K
  rintro _ w9 ⟨rfl, hb⟩
  have Aw9 := hide ((unhide Aw6).step hb)
  clear Aw6 hb
  go_wp2_with fail
  refine (num_any 61 w9).mono ?_
  rintro _ w' ⟨rfl, hw⟩
  obtain rfl := hw.symm
  go_wp2_with fail
  go_ret
  exact ⟨rfl, (unhide Aw9).bel⟩

set_option maxRecDepth 100000 in
set_option maxHeartbeats 64000000 in
theorem bitCovered_no2 (s_t : Int) (a_t : Option Addr) (n_t c_t : Nat) (x_t : List SetC) (s_s : Int) (a_s : Option Addr) (n_s c_s : Nat) (x_s : List Nat) (w : World) (h_t : SlS w a_t n_t c_t x_t) (o_t : ∀ e ∈ x_t, e.Arg) (b_t : n_t ≤ 4398046510976) (e_t : a_t = none → n_t = 0 ∧ c_t = 0) (hl_t : -9223372036854775808 ≤ s_t) (hh_t : s_t ≤ 9223372036854775807) (h_s : SlW w a_s n_s c_s x_s) (o_s : OkW x_s) (b_s : n_s ≤ 17592186043904) (e_s : a_s = none → n_s = 0 ∧ c_s = 0) (hl_s : -9223372036854775808 ≤ s_s) (hh_s : s_s ≤ 9223372036854775807) (m1 : MayT s_t x_t = true) (m2 : MayS s_s x_s = false) :
    Calls Try.prog 9 #[setV s_t a_t n_t c_t, setV s_s a_s n_s c_s] w fun e w' => e = .returned (.bool true) ∧ Below w.heap.size w w' := by
  have A00 : Facts w w [] := ⟨Below.refl _ _, fun f hf => by cases hf⟩
  have A01 := A00.add (fS a_t n_t c_t x_t) h_t
  have L_t := hide h_t.len
  have hle_t := h_t.le
  have hcap_t := h_t.cap
  unfold maxLen at hcap_t
  have A02 := A01.add (fW a_s n_s c_s x_s) h_s
  have A0 := hide A02
  have O_t := hide o_t
  have B_t := hide (And.intro hl_t hh_t)
  have O_s := hide o_s
  have E_s := hide e_s
  have B_s := hide (And.intro hl_s hh_s)
  have HR := hide (show coverR s_t x_t s_s x_s = ([], 61) by unfold coverR; rw [m1, m2]; simp)
  have M1 := hide m1
  have M2 := hide m2
  clear m1 m2
  clear A00 A01 A02 h_t h_s o_t o_s e_t e_s hl_t hh_t hl_s hh_s
  unfold setV
  go_enter Try.func9, Try.ntmps9
  obtain ⟨w1, hw1⟩ : ∃ x, w.alloc (.cells #[.int .i64 s_t, .slice a_t n_t c_t] 27) = x := ⟨_, rfl⟩
  have Aw1 := hide ((unhide A0).box (.int .i64 s_t) (.slice a_t n_t c_t) 27)
  rw [hw1] at Aw1
  clear A0
  obtain ⟨w2, hw2⟩ : ∃ x, w1.alloc (.cells #[.int .i64 s_s, .slice a_s n_s c_s] 24) = x := ⟨_, rfl⟩
  have Aw2 := hide ((unhide Aw1).box (.int .i64 s_s) (.slice a_s n_s c_s) 24)
  rw [hw2] at Aw2
  clear Aw1
  go_wp2_with fail
  have K := alive_any w2
  try unfold setV at K
  refine K.mono ?_
  clear K
  rintro _ w3 ⟨rfl, hb⟩
  have Aw3 := hide ((unhide Aw2).step hb)
  clear Aw2 hb
  have t4 := (unhide Aw3).t (w.heap.size) (.int .i64 s_t) (.slice a_t n_t c_t) (.tail _ (.head _))
  have t4a := t4.c0
  have t4b := t4.c1
  clear t4
  have t5 := (unhide Aw3).t (w1.heap.size) (.int .i64 s_s) (.slice a_s n_s c_s) (.head _)
  have t5a := t5.c0
  have t5b := t5.c1
  clear t5
  go_wp2_with fail
  clear t4a t4b t5a t5b
  have Kw6 := cover_any s_t a_t n_t c_t x_t s_s a_s n_s c_s x_s w3 ((unhide Aw3).ss (a_t) (n_t) c_t (x_t) (.tail _ (.tail _ (.tail _ (.head _))))) ((unhide Aw3).w (a_s) (n_s) c_s (x_s) (.tail _ (.tail _ (.head _)))) (unhide O_s)
  rw [unhide HR] at Kw6
  try unfold setV at Kw6
  refine Kw6.mono ?_
  clear Kw6
  rintro _ w6 ⟨a_l, n_l, c_l, rfl, hs, hb⟩
  have Aw6 := hide (((unhide Aw3).step hb).add (fI a_l n_l c_l ([] : List Int)) hs)
  clear Aw3 hs hb
  have EL : n_l = 0 := by rw [← ((unhide Aw6).i (a_l) (n_l) c_l (([] : List Int)) (.head _)).len]; rfl
  subst EL
  have t7 := (unhide Aw6).t (w.heap.size) (.int .i64 s_t) (.slice a_t n_t c_t) (.tail _ (.tail _ (.head _)))
  have t7a := t7.c0
  have t7b := t7.c1
  clear t7
  have t8 := (unhide Aw6).t (w1.heap.size) (.int .i64 s_s) (.slice a_s n_s c_s) (.tail _ (.head _))
  have t8a := t8.c0
  have t8b := t8.c1
  clear t8
  go_wp2_with fail
  clear t7a t7b t8a t8b
  have K := rmayT_any s_t a_t n_t c_t x_t w6 ((unhide Aw6).ss (a_t) (n_t) c_t (x_t) (.tail _ (.tail _ (.tail _ (.tail _ (.head _))))))
  rw [unhide M1] at K
  try unfold setV at K
  refine K.mono ?_
  clear K
  rintro _ w9 ⟨rfl, hb⟩
  have Aw9 := hide ((unhide Aw6).step hb)
  clear Aw6 hb
  have t10 := (unhide Aw9).t (w.heap.size) (.int .i64 s_t) (.slice a_t n_t c_t) (.tail _ (.tail _ (.head _)))
  have t10a := t10.c0
  have t10b := t10.c1
  clear t10
  have t11 := (unhide Aw9).t (w1.heap.size) (.int .i64 s_s) (.slice a_s n_s c_s) (.tail _ (.head _))
  have t11a := t11.c0
  have t11b := t11.c1
  clear t11
  go_wp2_with fail
  clear t10a t10b t11a t11b
  have K := rmay_any s_s a_s n_s c_s x_s w9 ((unhide Aw9).w (a_s) (n_s) c_s (x_s) (.tail _ (.tail _ (.tail _ (.head _)))))
  rw [unhide M2] at K
  try unfold setV at K
  refine K.mono ?_
  clear K
  rintro _ w12 ⟨rfl, hb⟩
  have Aw12 := hide ((unhide Aw9).step hb)
  clear Aw9 hb
  go_wp2_with fail
  refine (num_any 61 w12).mono ?_
  rintro _ w' ⟨rfl, hw⟩
  obtain rfl := hw.symm
  go_wp2_with fail
  go_ret
  exact ⟨rfl, (unhide Aw12).bel⟩

set_option maxRecDepth 100000 in
set_option maxHeartbeats 64000000 in
theorem bitCovered_no3 (s_t : Int) (a_t : Option Addr) (n_t c_t : Nat) (x_t : List SetC) (s_s : Int) (a_s : Option Addr) (n_s c_s : Nat) (x_s : List Nat) (w : World) (h_t : SlS w a_t n_t c_t x_t) (o_t : ∀ e ∈ x_t, e.Arg) (b_t : n_t ≤ 4398046510976) (e_t : a_t = none → n_t = 0 ∧ c_t = 0) (hl_t : -9223372036854775808 ≤ s_t) (hh_t : s_t ≤ 9223372036854775807) (h_s : SlW w a_s n_s c_s x_s) (o_s : OkW x_s) (b_s : n_s ≤ 17592186043904) (e_s : a_s = none → n_s = 0 ∧ c_s = 0) (hl_s : -9223372036854775808 ≤ s_s) (hh_s : s_s ≤ 9223372036854775807) (m1 : MayT s_t x_t = true) (m2 : MayS s_s x_s = true) (hne : s_t ≠ s_s) :
    Calls Try.prog 9 #[setV s_t a_t n_t c_t, setV s_s a_s n_s c_s] w fun e w' => e = .returned (.bool true) ∧ Below w.heap.size w w' := by
  have A00 : Facts w w [] := ⟨Below.refl _ _, fun f hf => by cases hf⟩
  have A01 := A00.add (fS a_t n_t c_t x_t) h_t
  have L_t := hide h_t.len
  have hle_t := h_t.le
  have hcap_t := h_t.cap
  unfold maxLen at hcap_t
  have A02 := A01.add (fW a_s n_s c_s x_s) h_s
  have A0 := hide A02
  have O_t := hide o_t
  have B_t := hide (And.intro hl_t hh_t)
  have O_s := hide o_s
  have E_s := hide e_s
  have B_s := hide (And.intro hl_s hh_s)
  have HR := hide (show coverR s_t x_t s_s x_s = ([], 60) by unfold coverR; rw [m1, m2]; simp [hne])
  have M1 := hide m1
  have M2 := hide m2
  have hn1 : (s_t == s_s) = false := by simpa using hne
  have hn2 : (s_t != s_s) = true := by simpa using hne
  clear m1 m2 hne
  clear A00 A01 A02 h_t h_s o_t o_s e_t e_s hl_t hh_t hl_s hh_s
  unfold setV
  go_enter Try.func9, Try.ntmps9
  obtain ⟨w1, hw1⟩ : ∃ x, w.alloc (.cells #[.int .i64 s_t, .slice a_t n_t c_t] 27) = x := ⟨_, rfl⟩
  have Aw1 := hide ((unhide A0).box (.int .i64 s_t) (.slice a_t n_t c_t) 27)
  rw [hw1] at Aw1
  clear A0
  obtain ⟨w2, hw2⟩ : ∃ x, w1.alloc (.cells #[.int .i64 s_s, .slice a_s n_s c_s] 24) = x := ⟨_, rfl⟩
  have Aw2 := hide ((unhide Aw1).box (.int .i64 s_s) (.slice a_s n_s c_s) 24)
  rw [hw2] at Aw2
  clear Aw1
  go_wp2_with fail
  have K := alive_any w2
  try unfold setV at K
  refine K.mono ?_
  clear K
  rintro _ w3 ⟨rfl, hb⟩
  have Aw3 := hide ((unhide Aw2).step hb)
  clear Aw2 hb
  have t4 := (unhide Aw3).t (w.heap.size) (.int .i64 s_t) (.slice a_t n_t c_t) (.tail _ (.head _))
  have t4a := t4.c0
  have t4b := t4.c1
  clear t4
  have t5 := (unhide Aw3).t (w1.heap.size) (.int .i64 s_s) (.slice a_s n_s c_s) (.head _)
  have t5a := t5.c0
  have t5b := t5.c1
  clear t5
  go_wp2_with fail
  clear t4a t4b t5a t5b
  have Kw6 := cover_any s_t a_t n_t c_t x_t s_s a_s n_s c_s x_s w3 ((unhide Aw3).ss (a_t) (n_t) c_t (x_t) (.tail _ (.tail _ (.tail _ (.head _))))) ((unhide Aw3).w (a_s) (n_s) c_s (x_s) (.tail _ (.tail _ (.head _)))) (unhide O_s)
  rw [unhide HR] at Kw6
  try unfold setV at Kw6
  refine Kw6.mono ?_
  clear Kw6
  rintro _ w6 ⟨a_l, n_l, c_l, rfl, hs, hb⟩
  have Aw6 := hide (((unhide Aw3).step hb).add (fI a_l n_l c_l ([] : List Int)) hs)
  clear Aw3 hs hb
  have EL : n_l = 0 := by rw [← ((unhide Aw6).i (a_l) (n_l) c_l (([] : List Int)) (.head _)).len]; rfl
  subst EL
  have t7 := (unhide Aw6).t (w.heap.size) (.int .i64 s_t) (.slice a_t n_t c_t) (.tail _ (.tail _ (.head _)))
  have t7a := t7.c0
  have t7b := t7.c1
  clear t7
  have t8 := (unhide Aw6).t (w1.heap.size) (.int .i64 s_s) (.slice a_s n_s c_s) (.tail _ (.head _))
  have t8a := t8.c0
  have t8b := t8.c1
  clear t8
  go_wp2_with fail
  clear t7a t7b t8a t8b
  have K := rmayT_any s_t a_t n_t c_t x_t w6 ((unhide Aw6).ss (a_t) (n_t) c_t (x_t) (.tail _ (.tail _ (.tail _ (.tail _ (.head _))))))
  rw [unhide M1] at K
  try unfold setV at K
  refine K.mono ?_
  clear K
  rintro _ w9 ⟨rfl, hb⟩
  have Aw9 := hide ((unhide Aw6).step hb)
  clear Aw6 hb
  have t10 := (unhide Aw9).t (w.heap.size) (.int .i64 s_t) (.slice a_t n_t c_t) (.tail _ (.tail _ (.head _)))
  have t10a := t10.c0
  have t10b := t10.c1
  clear t10
  have t11 := (unhide Aw9).t (w1.heap.size) (.int .i64 s_s) (.slice a_s n_s c_s) (.tail _ (.head _))
  have t11a := t11.c0
  have t11b := t11.c1
  clear t11
  go_wp2_with fail
  clear t10a t10b t11a t11b
  have K := rmay_any s_s a_s n_s c_s x_s w9 ((unhide Aw9).w (a_s) (n_s) c_s (x_s) (.tail _ (.tail _ (.tail _ (.head _)))))
  rw [unhide M2] at K
  try unfold setV at K
  refine K.mono ?_
  clear K
  rintro _ w12 ⟨rfl, hb⟩
  have Aw12 := hide ((unhide Aw9).step hb)
  clear Aw9 hb
  have t13 := (unhide Aw12).t (w.heap.size) (.int .i64 s_t) (.slice a_t n_t c_t) (.tail _ (.tail _ (.head _)))
  have t13a := t13.c0
  have t13b := t13.c1
  clear t13
  have t14 := (unhide Aw12).t (w1.heap.size) (.int .i64 s_s) (.slice a_s n_s c_s) (.tail _ (.head _))
  have t14a := t14.c0
  have t14b := t14.c1
  clear t14
  go_wp2_with fail
  clear t13a t13b t14a t14b
  go_wp2_with fail
  refine (num_any 60 w12).mono ?_
  rintro _ w' ⟨rfl, hw⟩
  obtain rfl := hw.symm
  go_wp2_with fail
  go_ret
  exact ⟨rfl, (unhide Aw12).bel⟩

set_option maxRecDepth 100000 in
set_option maxHeartbeats 64000000 in
theorem bitCovered_none (s_t : Int) (a_t : Option Addr) (n_t c_t : Nat) (x_t : List SetC) (s_s : Int) (a_s : Option Addr) (n_s c_s : Nat) (x_s : List Nat) (w : World) (h_t : SlS w a_t n_t c_t x_t) (o_t : ∀ e ∈ x_t, e.Arg) (b_t : n_t ≤ 4398046510976) (e_t : a_t = none → n_t = 0 ∧ c_t = 0) (hl_t : -9223372036854775808 ≤ s_t) (hh_t : s_t ≤ 9223372036854775807) (h_s : SlW w a_s n_s c_s x_s) (o_s : OkW x_s) (b_s : n_s ≤ 17592186043904) (e_s : a_s = none → n_s = 0 ∧ c_s = 0) (hl_s : -9223372036854775808 ≤ s_s) (hh_s : s_s ≤ 9223372036854775807) (hf : fitsI s_s = true) (m1 : MayT s_t x_t = true) (m2 : MayS s_s x_s = true) (hst : s_t = s_s) (hR : covR s_s.toNat x_t.length (setP x_t) 4096 (hasB (gW x_s)) [] = none) :
    Calls Try.prog 9 #[setV s_t a_t n_t c_t, setV s_s a_s n_s c_s] w fun e w' => e = .returned (.bool true) ∧ Below w.heap.size w w' := by
  have A00 : Facts w w [] := ⟨Below.refl _ _, fun f hf => by cases hf⟩
  have A01 := A00.add (fS a_t n_t c_t x_t) h_t
  have L_t := hide h_t.len
  have hle_t := h_t.le
  have hcap_t := h_t.cap
  unfold maxLen at hcap_t
  have A02 := A01.add (fW a_s n_s c_s x_s) h_s
  have A0 := hide A02
  have O_t := hide o_t
  have B_t := hide (And.intro hl_t hh_t)
  have O_s := hide o_s
  have E_s := hide e_s
  have B_s := hide (And.intro hl_s hh_s)
  rw [← hst] at hR
  subst hst
  obtain ⟨sz, rfl, hsz⟩ := fitsI_nat hf
  obtain ⟨U, hU, gU⟩ := many_may m1 hsz
  have HU := hide hU
  have GU := hide gU
  have M1 := hide m1
  have M2 := hide m2
  have GS := hide (good_may m2 o_s)
  have Hnl := hide h_t.len
  have hn4 : n_t ≤ 4096 := by rw [← h_t.len]; exact MayT.len m1
  have HR := hide (show coverR (sz : Int) x_t (sz : Int) x_s = ([], 321) by unfold coverR; rw [m1, m2, hR]; simp [covA])
  have HSub := hide (show leavesR jAndNot (sz : Int) x_s (sz : Int) U = false by rw [cover_sub o_s m2 gU, ← Int.toNat_natCast sz, hR]; rfl)
  rw [Int.toNat_natCast, h_t.len] at hR
  have HRR := hide hR
  clear hR
  clear m1 m2 hU gU hf
  clear A00 A01 A02 h_t h_s o_t o_s e_t e_s hl_t hh_t hl_s hh_s
  unfold setV
  go_enter Try.func9, Try.ntmps9
  obtain ⟨w1, hw1⟩ : ∃ x, w.alloc (.cells #[.int .i64 (sz : Int), .slice a_t n_t c_t] 27) = x := ⟨_, rfl⟩
  have Aw1 := hide ((unhide A0).box (.int .i64 (sz : Int)) (.slice a_t n_t c_t) 27)
  rw [hw1] at Aw1
  clear A0
  obtain ⟨w2, hw2⟩ : ∃ x, w1.alloc (.cells #[.int .i64 (sz : Int), .slice a_s n_s c_s] 24) = x := ⟨_, rfl⟩
  have Aw2 := hide ((unhide Aw1).box (.int .i64 (sz : Int)) (.slice a_s n_s c_s) 24)
  rw [hw2] at Aw2
  clear Aw1
  go_wp2_with fail
  have K := alive_any w2
  try unfold setV at K
  refine K.mono ?_
  clear K
  rintro _ w3 ⟨rfl, hb⟩
  have Aw3 := hide ((unhide Aw2).step hb)
  clear Aw2 hb
  have t4 := (unhide Aw3).t (w.heap.size) (.int .i64 (sz : Int)) (.slice a_t n_t c_t) (.tail _ (.head _))
  have t4a := t4.c0
  have t4b := t4.c1
  clear t4
  have t5 := (unhide Aw3).t (w1.heap.size) (.int .i64 (sz : Int)) (.slice a_s n_s c_s) (.head _)
  have t5a := t5.c0
  have t5b := t5.c1
  clear t5
  go_wp2_with fail
  clear t4a t4b t5a t5b
  have Kw6 := cover_any (sz : Int) a_t n_t c_t x_t (sz : Int) a_s n_s c_s x_s w3 ((unhide Aw3).ss (a_t) (n_t) c_t (x_t) (.tail _ (.tail _ (.tail _ (.head _))))) ((unhide Aw3).w (a_s) (n_s) c_s (x_s) (.tail _ (.tail _ (.head _)))) (unhide O_s)
  rw [unhide HR] at Kw6
  try unfold setV at Kw6
  refine Kw6.mono ?_
  clear Kw6
  rintro _ w6 ⟨a_l, n_l, c_l, rfl, hs, hb⟩
  have Aw6 := hide (((unhide Aw3).step hb).add (fI a_l n_l c_l ([] : List Int)) hs)
  clear Aw3 hs hb
  have t7 := (unhide Aw6).t (w.heap.size) (.int .i64 (sz : Int)) (.slice a_t n_t c_t) (.tail _ (.tail _ (.head _)))
  have t7a := t7.c0
  have t7b := t7.c1
  clear t7
  have t8 := (unhide Aw6).t (w1.heap.size) (.int .i64 (sz : Int)) (.slice a_s n_s c_s) (.tail _ (.head _))
  have t8a := t8.c0
  have t8b := t8.c1
  clear t8
  go_wp2_with fail
  clear t7a t7b t8a t8b
  have K := rmayT_any (sz : Int) a_t n_t c_t x_t w6 ((unhide Aw6).ss (a_t) (n_t) c_t (x_t) (.tail _ (.tail _ (.tail _ (.tail _ (.head _))))))
  rw [unhide M1] at K
  try unfold setV at K
  refine K.mono ?_
  clear K
  rintro _ w9 ⟨rfl, hb⟩
  have Aw9 := hide ((unhide Aw6).step hb)
  clear Aw6 hb
  have t10 := (unhide Aw9).t (w.heap.size) (.int .i64 (sz : Int)) (.slice a_t n_t c_t) (.tail _ (.tail _ (.head _)))
  have t10a := t10.c0
  have t10b := t10.c1
  clear t10
  have t11 := (unhide Aw9).t (w1.heap.size) (.int .i64 (sz : Int)) (.slice a_s n_s c_s) (.tail _ (.head _))
  have t11a := t11.c0
  have t11b := t11.c1
  clear t11
  go_wp2_with fail
  clear t10a t10b t11a t11b
  have K := rmay_any (sz : Int) a_s n_s c_s x_s w9 ((unhide Aw9).w (a_s) (n_s) c_s (x_s) (.tail _ (.tail _ (.tail _ (.head _)))))
  rw [unhide M2] at K
  try unfold setV at K
  refine K.mono ?_
  clear K
  rintro _ w12 ⟨rfl, hb⟩
  have Aw12 := hide ((unhide Aw9).step hb)
  clear Aw9 hb
  have t13 := (unhide Aw12).t (w.heap.size) (.int .i64 (sz : Int)) (.slice a_t n_t c_t) (.tail _ (.tail _ (.head _)))
  have t13a := t13.c0
  have t13b := t13.c1
  clear t13
  have t14 := (unhide Aw12).t (w1.heap.size) (.int .i64 (sz : Int)) (.slice a_s n_s c_s) (.tail _ (.head _))
  have t14a := t14.c0
  have t14b := t14.c1
  clear t14
  go_wp2_with fail
  clear t13a t13b t14a t14b
  have Kw15 := union_any (sz : Int) a_t n_t c_t x_t w12 ((unhide Aw12).ss (a_t) (n_t) c_t (x_t) (.tail _ (.tail _ (.tail _ (.tail _ (.head _))))))
  rw [unhide HU] at Kw15
  try unfold setV at Kw15
  refine Kw15.mono ?_
  clear Kw15
  rintro _ w15 ⟨a_all, n_all, c_all, rfl, hs, hb⟩
  have Aw15 := hide (((unhide Aw12).step hb).add (fW a_all n_all c_all U) hs)
  clear Aw12 hs hb
  unfold setV
  obtain ⟨w16, hw16⟩ : ∃ x, w15.alloc (.cells #[.int .i64 (sz : Int), .slice a_all n_all c_all] 24) = x := ⟨_, rfl⟩
  have Aw16 := hide ((unhide Aw15).box (.int .i64 (sz : Int)) (.slice a_all n_all c_all) 24)
  rw [hw16] at Aw16
  clear Aw15
  go_wp2_with fail
  refine (num_any 0 w16).mono ?_
  rintro _ w' ⟨rfl, hw⟩
  obtain rfl := hw.symm
  have t17 := (unhide Aw16).t (w1.heap.size) (.int .i64 (sz : Int)) (.slice a_s n_s c_s) (.tail _ (.tail _ (.tail _ (.head _))))
  have t17a := t17.c0
  have t17b := t17.c1
  clear t17
  have t18 := (unhide Aw16).t (w15.heap.size) (.int .i64 (sz : Int)) (.slice a_all n_all c_all) (.head _)
  have t18a := t18.c0
  have t18b := t18.c1
  clear t18
  go_wp2_with fail
  clear t17a t17b t18a t18b
  have K := subset_any (sz : Int) a_s n_s c_s x_s (sz : Int) a_all n_all c_all U w16 ((unhide Aw16).w (a_s) (n_s) c_s (x_s) (.tail _ (.tail _ (.tail _ (.tail _ (.tail _ (.head _))))))) ((unhide Aw16).w (a_all) (n_all) c_all (U) (.tail _ (.head _))) (unhide O_s) (unhide GU).ok
  rw [unhide HSub] at K
  try unfold setV at K
  refine K.mono ?_
  clear K
  rintro _ w19 ⟨rfl, hb⟩
  have Aw19 := hide ((unhide Aw16).step hb)
  clear Aw16 hb
  go_wp2_with fail
  refine (num_any 321 w19).mono ?_
  rintro _ w' ⟨rfl, hw⟩
  obtain rfl := hw.symm
  go_wp2_with fail
  refine (num_any 321 w19).mono ?_
  rintro _ w' ⟨rfl, hw⟩
  obtain rfl := hw.symm
  have EL : n_l = 0 := by rw [← ((unhide Aw19).i (a_l) (n_l) c_l (([] : List Int)) (.tail _ (.tail _ (.head _)))).len]; rfl
  subst EL
  go_wp2_with fail
  refine (num_any 321 w19).mono ?_
  rintro _ w' ⟨rfl, hw⟩
  obtain rfl := hw.symm
  go_wp2_with fail
  go_ret
  exact ⟨rfl, (unhide Aw19).bel⟩

set_option maxRecDepth 100000 in
set_option maxHeartbeats 64000000 in
theorem bitCovered_some (s_t : Int) (a_t : Option Addr) (n_t c_t : Nat) (x_t : List SetC) (s_s : Int) (a_s : Option Addr) (n_s c_s : Nat) (x_s : List Nat) (w : World) (h_t : SlS w a_t n_t c_t x_t) (o_t : ∀ e ∈ x_t, e.Arg) (b_t : n_t ≤ 4398046510976) (e_t : a_t = none → n_t = 0 ∧ c_t = 0) (hl_t : -9223372036854775808 ≤ s_t) (hh_t : s_t ≤ 9223372036854775807) (h_s : SlW w a_s n_s c_s x_s) (o_s : OkW x_s) (b_s : n_s ≤ 17592186043904) (e_s : a_s = none → n_s = 0 ∧ c_s = 0) (hl_s : -9223372036854775808 ≤ s_s) (hh_s : s_s ≤ 9223372036854775807) (hf : fitsI s_s = true) (m1 : MayT s_t x_t = true) (m2 : MayS s_s x_s = true) (hst : s_t = s_s) (l : List Int) (hR : covR s_s.toNat x_t.length (setP x_t) 4096 (hasB (gW x_s)) [] = some l) :
    Calls Try.prog 9 #[setV s_t a_t n_t c_t, setV s_s a_s n_s c_s] w fun e w' => e = .returned (.bool true) ∧ Below w.heap.size w w' := by
  have A00 : Facts w w [] := ⟨Below.refl _ _, fun f hf => by cases hf⟩
  have A01 := A00.add (fS a_t n_t c_t x_t) h_t
  have L_t := hide h_t.len
  have hle_t := h_t.le
  have hcap_t := h_t.cap
  unfold maxLen at hcap_t
  have A02 := A01.add (fW a_s n_s c_s x_s) h_s
  have A0 := hide A02
  have O_t := hide o_t
  have B_t := hide (And.intro hl_t hh_t)
  have O_s := hide o_s
  have E_s := hide e_s
  have B_s := hide (And.intro hl_s hh_s)
  rw [← hst] at hR
  subst hst
  obtain ⟨sz, rfl, hsz⟩ := fitsI_nat hf
  obtain ⟨U, hU, gU⟩ := many_may m1 hsz
  have HU := hide hU
  have GU := hide gU
  have M1 := hide m1
  have M2 := hide m2
  have GS := hide (good_may m2 o_s)
  have Hnl := hide h_t.len
  have hn4 : n_t ≤ 4096 := by rw [← h_t.len]; exact MayT.len m1
  have HR := hide (show coverR (sz : Int) x_t (sz : Int) x_s = (l, 0) by unfold coverR; rw [m1, m2, hR]; simp [covA])
  have HSub := hide (show leavesR jAndNot (sz : Int) x_s (sz : Int) U = true by rw [cover_sub o_s m2 gU, ← Int.toNat_natCast sz, hR]; rfl)
  rw [Int.toNat_natCast, h_t.len] at hR
  have HRR := hide hR
  clear hR
  clear m1 m2 hU gU hf
  clear A00 A01 A02 h_t h_s o_t o_s e_t e_s hl_t hh_t hl_s hh_s
  unfold setV
  go_enter Try.func9, Try.ntmps9
  obtain ⟨w1, hw1⟩ : ∃ x, w.alloc (.cells #[.int .i64 (sz : Int), .slice a_t n_t c_t] 27) = x := ⟨_, rfl⟩
  have Aw1 := hide ((unhide A0).box (.int .i64 (sz : Int)) (.slice a_t n_t c_t) 27)
  rw [hw1] at Aw1
  clear A0
  obtain ⟨w2, hw2⟩ : ∃ x, w1.alloc (.cells #[.int .i64 (sz : Int), .slice a_s n_s c_s] 24) = x := ⟨_, rfl⟩
  have Aw2 := hide ((unhide Aw1).box (.int .i64 (sz : Int)) (.slice a_s n_s c_s) 24)
  rw [hw2] at Aw2
  clear Aw1
  go_wp2_with fail
  have K := alive_any w2
  try unfold setV at K
  refine K.mono ?_
  clear K
  rintro _ w3 ⟨rfl, hb⟩
  have Aw3 := hide ((unhide Aw2).step hb)
  clear Aw2 hb
  have t4 := (unhide Aw3).t (w.heap.size) (.int .i64 (sz : Int)) (.slice a_t n_t c_t) (.tail _ (.head _))
  have t4a := t4.c0
  have t4b := t4.c1
  clear t4
  have t5 := (unhide Aw3).t (w1.heap.size) (.int .i64 (sz : Int)) (.slice a_s n_s c_s) (.head _)
  have t5a := t5.c0
  have t5b := t5.c1
  clear t5
  go_wp2_with fail
  clear t4a t4b t5a t5b
  have Kw6 := cover_any (sz : Int) a_t n_t c_t x_t (sz : Int) a_s n_s c_s x_s w3 ((unhide Aw3).ss (a_t) (n_t) c_t (x_t) (.tail _ (.tail _ (.tail _ (.head _))))) ((unhide Aw3).w (a_s) (n_s) c_s (x_s) (.tail _ (.tail _ (.head _)))) (unhide O_s)
  rw [unhide HR] at Kw6
  try unfold setV at Kw6
  refine Kw6.mono ?_
  clear Kw6
  rintro _ w6 ⟨a_l, n_l, c_l, rfl, hs, hb⟩
  have Aw6 := hide (((unhide Aw3).step hb).add (fI a_l n_l c_l l) hs)
  clear Aw3 hs hb
  have t7 := (unhide Aw6).t (w.heap.size) (.int .i64 (sz : Int)) (.slice a_t n_t c_t) (.tail _ (.tail _ (.head _)))
  have t7a := t7.c0
  have t7b := t7.c1
  clear t7
  have t8 := (unhide Aw6).t (w1.heap.size) (.int .i64 (sz : Int)) (.slice a_s n_s c_s) (.tail _ (.head _))
  have t8a := t8.c0
  have t8b := t8.c1
  clear t8
  go_wp2_with fail
  clear t7a t7b t8a t8b
  have K := rmayT_any (sz : Int) a_t n_t c_t x_t w6 ((unhide Aw6).ss (a_t) (n_t) c_t (x_t) (.tail _ (.tail _ (.tail _ (.tail _ (.head _))))))
  rw [unhide M1] at K
  try unfold setV at K
  refine K.mono ?_
  clear K
  rintro _ w9 ⟨rfl, hb⟩
  have Aw9 := hide ((unhide Aw6).step hb)
  clear Aw6 hb
  have t10 := (unhide Aw9).t (w.heap.size) (.int .i64 (sz : Int)) (.slice a_t n_t c_t) (.tail _ (.tail _ (.head _)))
  have t10a := t10.c0
  have t10b := t10.c1
  clear t10
  have t11 := (unhide Aw9).t (w1.heap.size) (.int .i64 (sz : Int)) (.slice a_s n_s c_s) (.tail _ (.head _))
  have t11a := t11.c0
  have t11b := t11.c1
  clear t11
  go_wp2_with fail
  clear t10a t10b t11a t11b
  have K := rmay_any (sz : Int) a_s n_s c_s x_s w9 ((unhide Aw9).w (a_s) (n_s) c_s (x_s) (.tail _ (.tail _ (.tail _ (.head _)))))
  rw [unhide M2] at K
  try unfold setV at K
  refine K.mono ?_
  clear K
  rintro _ w12 ⟨rfl, hb⟩
  have Aw12 := hide ((unhide Aw9).step hb)
  clear Aw9 hb
  have t13 := (unhide Aw12).t (w.heap.size) (.int .i64 (sz : Int)) (.slice a_t n_t c_t) (.tail _ (.tail _ (.head _)))
  have t13a := t13.c0
  have t13b := t13.c1
  clear t13
  have t14 := (unhide Aw12).t (w1.heap.size) (.int .i64 (sz : Int)) (.slice a_s n_s c_s) (.tail _ (.head _))
  have t14a := t14.c0
  have t14b := t14.c1
  clear t14
  go_wp2_with fail
  clear t13a t13b t14a t14b
  have Kw15 := union_any (sz : Int) a_t n_t c_t x_t w12 ((unhide Aw12).ss (a_t) (n_t) c_t (x_t) (.tail _ (.tail _ (.tail _ (.tail _ (.head _))))))
  rw [unhide HU] at Kw15
  try unfold setV at Kw15
  refine Kw15.mono ?_
  clear Kw15
  rintro _ w15 ⟨a_all, n_all, c_all, rfl, hs, hb⟩
  have Aw15 := hide (((unhide Aw12).step hb).add (fW a_all n_all c_all U) hs)
  clear Aw12 hs hb
  unfold setV
  obtain ⟨w16, hw16⟩ : ∃ x, w15.alloc (.cells #[.int .i64 (sz : Int), .slice a_all n_all c_all] 24) = x := ⟨_, rfl⟩
  have Aw16 := hide ((unhide Aw15).box (.int .i64 (sz : Int)) (.slice a_all n_all c_all) 24)
  rw [hw16] at Aw16
  clear Aw15
  go_wp2_with fail
  refine (num_any 0 w16).mono ?_
  rintro _ w' ⟨rfl, hw⟩
  obtain rfl := hw.symm
  have t17 := (unhide Aw16).t (w1.heap.size) (.int .i64 (sz : Int)) (.slice a_s n_s c_s) (.tail _ (.tail _ (.tail _ (.head _))))
  have t17a := t17.c0
  have t17b := t17.c1
  clear t17
  have t18 := (unhide Aw16).t (w15.heap.size) (.int .i64 (sz : Int)) (.slice a_all n_all c_all) (.head _)
  have t18a := t18.c0
  have t18b := t18.c1
  clear t18
  go_wp2_with fail
  clear t17a t17b t18a t18b
  have K := subset_any (sz : Int) a_s n_s c_s x_s (sz : Int) a_all n_all c_all U w16 ((unhide Aw16).w (a_s) (n_s) c_s (x_s) (.tail _ (.tail _ (.tail _ (.tail _ (.tail _ (.head _))))))) ((unhide Aw16).w (a_all) (n_all) c_all (U) (.tail _ (.head _))) (unhide O_s) (unhide GU).ok
  rw [unhide HSub] at K
  try unfold setV at K
  refine K.mono ?_
  clear K
  rintro _ w19 ⟨rfl, hb⟩
  have Aw19 := hide ((unhide Aw16).step hb)
  clear Aw16 hb
  go_wp2_with fail
  refine (num_any 0 w19).mono ?_
  rintro _ w' ⟨rfl, hw⟩
  obtain rfl := hw.symm
  go_wp2_with fail
  refine (num_any 0 w19).mono ?_
  rintro _ w' ⟨rfl, hw⟩
  obtain rfl := hw.symm
  obtain ⟨wl, hwl⟩ : ∃ x, w19.alloc (.cells #[.int .i64 (sz : Int), .slice a_s n_s c_s] 24) = x := ⟨_, rfl⟩
  have hbl : Below w19.heap.size w19 wl := by rw [← hwl]; exact (Below.refl _ _).alloc (Nat.le_refl _) _
  have tZ : Two wl w19.heap.size (.int .i64 (sz : Int)) (.slice a_s n_s c_s) := by rw [← hwl]; exact Two.made _ _ _ _
  have hIl := ((unhide Aw19).i (a_l) (n_l) c_l (l) (.tail _ (.tail _ (.head _))))
  have hlel := hIl.le
  have hcapl := hIl.cap
  unfold maxLen at hcapl
  have HLl := hide hIl.len
  have HC0 := hide (show CdSt w19 wl sz n_t x_t l 0 (sz + 1) 4096 x_s (hasB (gW x_s)) a_s n_s c_s from
    ⟨hbl, tZ, ((unhide Aw19).w (a_s) (n_s) c_s (x_s) (.tail _ (.tail _ (.tail _ (.tail _ (.tail _ (.head _))))))).below hbl, unhide GS, by simpa using unhide HRR, by have := cntB_le (hasB (gW x_s)) sz; omega, fun j hj => by have := cntB_le (fun e => hasB (gW x_s) e && setP x_t j e) sz; unfold covC; omega⟩)
  have hAll := MayT.all (unhide M1)
  have HAll := hide hAll
  have tl := ((unhide Aw19).step hbl).t (w.heap.size) (.int .i64 (sz : Int)) (.slice a_t n_t c_t) (.tail _ (.tail _ (.tail _ (.tail _ (.head _)))))
  have tl0 := tl.c0
  have tl1 := tl.c1
  clear hIl tZ hbl hAll tl
  have t20 := (unhide Aw19).t (w.heap.size) (.int .i64 (sz : Int)) (.slice a_t n_t c_t) (.tail _ (.tail _ (.tail _ (.tail _ (.head _)))))
  have t20a := t20.c0
  have t20b := t20.c1
  clear t20
  have t21 := (unhide Aw19).t (w1.heap.size) (.int .i64 (sz : Int)) (.slice a_s n_s c_s) (.tail _ (.tail _ (.tail _ (.head _))))
  have t21a := t21.c0
  have t21b := t21.c1
  clear t21
  go_wp2_with fail
  clear t20a t20b t21a t21b tl0 tl1 hwl
  have hZ : w19.heap.size < wl.heap.size := (unhide HC0).lef.lt
  go_loopw [11, 10, 12, 13, 14] (fun i mo _ _ _ wr => ∃ (k m fu : Nat) (X : List Nat) (P : Nat → Bool) (ax : Option Addr) (nx cx : Nat), k ≤ n_l ∧ i = .int .i64 k ∧ mo = .int .i64 (m : Nat) ∧ m ≤ 4097 ∧ CdSt w19 wr sz n_t x_t l k m fu X P ax nx cx) (fun i _ _ _ _ _ => n_l - (intOf i).toNat)
  case atStart => exact ⟨0, _, _, _, _, _, _, _, Nat.zero_le _, rfl, by go_num, by omega, unhide HC0⟩
  case round =>
    obtain ⟨k, m, fu, X, P, ax, nx, cx, hk, rfl, rfl, hm4, hst⟩ := hrel
    clear HC0
    have HSt := hide hst
    have AR := hide ((unhide Aw19).step hst.bel)
    have tt := (unhide AR).t (w.heap.size) (.int .i64 (sz : Int)) (.slice a_t n_t c_t) (.tail _ (.tail _ (.tail _ (.tail _ (.head _)))))
    have t1 := tt.c1
    have hIl := (unhide AR).i a_l n_l c_l l (.tail _ (.tail _ (.head _)))
    clear hst tt
    by_cases hlt : k < n_l
    · have hlt' : (k : Int) < (n_l : Int) := by omega
      have hkl : k < l.length := by rw [unhide HLl]; exact hlt
      have hdr : l.drop k = l[k] :: l.drop (k + 1) := List.drop_eq_getElem_cons hkl
      obtain ⟨i, hb, hin, hpos, hres, hfu, hmx⟩ := covR_cons (unhide HSt).fuel (by rw [← hdr]; exact (unhide HSt).res)
      obtain ⟨bll, oll, rfl, hcl⟩ := hIl.at (by omega)
      have gl := hcl k hlt
      rw [show l.getD k 0 = (i : Int) from by rw [← hb]; simp [List.getD, hkl]] at gl
      unfold vI at gl
      have hSS := (unhide AR).ss a_t n_t c_t x_t (.tail _ (.tail _ (.tail _ (.tail _ (.tail _ (.tail _ (.head _)))))))
      obtain ⟨bt, ot, rfl, hcells⟩ := hSS.at (by omega)
      have g1 := (hcells i hin).1
      have g3 := (hcells i hin).2
      have hinn := hSS.get i hin
      have hmem : x_t.getD i .nul ∈ x_t := by
        have hil : i < x_t.length := by rw [unhide Hnl]; exact hin
        have : x_t.getD i .nul = x_t[i] := by simp [List.getD, hil]
        rw [this]; exact List.getElem_mem hil
      have hall := unhide HAll _ hmem
      have hSP : setP x_t i = hasB (gW (x_t.getD i .nul).xs) := rfl
      obtain ⟨e, he⟩ : ∃ e, x_t.getD i .nul = e := ⟨_, rfl⟩
      rw [he] at g1 g3 hinn hall hSP
      obtain ⟨es, ea, en, ec, exs⟩ := e
      simp only at g1 g3 hall hSP
      obtain ⟨hmy, hes⟩ := hall
      subst hes
      have gE := good_may hmy hinn.2
      rw [← hSP] at gE
      obtain ⟨X', hX', gX'⟩ := good_minus (unhide HSt).good gE
      have hik : (i : Int) < (n_t : Int) := by omega
      have hi0 : ¬ ((i : Int) < 0) := by omega
      have hi1 : (0 : Int) ≤ (i : Int) := by omega
      have HX' := hide hX'
      have GX := hide gX'
      have HRes := hide (And.intro hres (And.intro hfu (And.intro hpos hmx)))
      have HIn := hide hinn
      have HBk := hide hb
      clear hdr hb hcl hSS hcells hinn hmem he hSP hmy gE hX' gX' hres hfu hmx hIl
      go_wp2_with fail
      go_quiet (fail)
      obtain ⟨wq, hwq⟩ : ∃ x, wr.drewN nq = x := ⟨_, rfl⟩
      have hbq : Below wr.heap.size wr wq := by rw [← hwq]; exact bel_drewN (Below.refl _ _) _
      rw [hwq]
      have HSq := hide ((unhide HSt).keep hbq)
      have AQ := hide ((unhide AR).step hbq)
      have HInq := hide ((unhide HIn).below hbq)
      have z0 := (unhide HSq).lef.c0
      have z1 := (unhide HSq).lef.c1
      have y1 := below_cell hbq t1
      have y2 := below_cell hbq gl
      have y3 := below_cell hbq g1
      have y4 := below_cell hbq g3
      have KM := fun (w' : World) (hb : Below wq.heap.size wq w') => minus_any (sz : Int) ax nx cx X (sz : Int) ea en ec exs w' ((unhide HSq).sl.below hb) ((unhide HInq).1.below hb) (unhide HSq).good.ok (unhide HInq).2
      rw [unhide HX'] at KM
      have KM2 := fun (w' : World) (hb : Below wq.heap.size wq w') => (KM w' hb).mono (R' := fun e w5 => ∃ a n c, e = .returned (.tuple #[setV (sz : Int) a n c, .int .i64 0]) ∧ SlW w5 a n c X' ∧ Below w'.heap.size w' w5 ∧ Below wq.heap.size wq w5) (fun e w5 ⟨a, n, c, he, hs, hb5⟩ => ⟨a, n, c, he, hs, hb5, hb.trans (hb5.mono hb.size)⟩)
      unfold setV at KM2
      have HKM := hide KM2
      have q1 := World.block_lt_of_cell? _ _ z0
      have q2 := World.block_lt_of_cell? _ _ y1
      have q3 := World.block_lt_of_cell? _ _ y2
      have q4 := World.block_lt_of_cell? _ _ y3
      simp only at q1 q2 q3 q4
      have n1 : w19.heap.size ≠ wq.heap.size := by omega
      have n2 : w.heap.size ≠ wq.heap.size := by omega
      have n3 : bll ≠ wq.heap.size := by omega
      have n4 : bt ≠ wq.heap.size := by omega
      clear KM KM2 hbq hwq HSt AR HIn t1 gl g1 g3
      go_wp2_with fail
      go_region_held3 (fun w' => w'.cell? ⟨w19.heap.size, 0, none⟩ = some (.int .i64 (sz : Int)) ∧ w'.cell? ⟨w19.heap.size, 1, none⟩ = some (.slice ax nx cx) ∧ w'.cell? ⟨w.heap.size, 1, none⟩ = some (.slice (some ⟨bt, ot, none⟩) n_t c_t) ∧ w'.cell? ⟨bll, oll + k, none⟩ = some (.int .i64 (i : Int)) ∧ w'.cell? ⟨bt, ot + i * 2, none⟩ = some (.int .i64 (sz : Int)) ∧ w'.cell? ⟨bt, ot + i * 2 + 1, none⟩ = some (.slice ea en ec)) (first | go_keep | (refine ⟨?_, ?_, ?_, ?_, ?_, ?_⟩ <;> (rw [set2_cell _ _ _ _ _ _ (by assumption)]; assumption)))
        (first | (go_at_call 39; refine (unhide HKM _ (by first | exact (Below.refl _ _).drew | exact ((Below.refl _ _).drew).alloc (by simp) _)).mono ?_; rintro _ w5 ⟨a5, n5, c5, rfl, hs5, hb5, hq5⟩; have u0 := below_cell hq5 z0; have u1 := below_cell hq5 z1; have u2 := below_cell hq5 y1; have u3 := below_cell hq5 y2; have u4 := below_cell hq5 y3; have u5 := below_cell hq5 y4; have H5 := hide (And.intro hs5 (And.intro hb5 hq5)); have q5 := hq5.size; have v1 : w19.heap.size < w5.heap.size := (by omega); have v2 : w.heap.size < w5.heap.size := (by omega); have v3 : bll < w5.heap.size := (by omega); have v4 : bt < w5.heap.size := (by omega); try (have k0 := below_cell hb5 (show (wq.alloc (.cells #[.int .i64 0, .slice none 0 0] 24)).drew.cell? ⟨wq.heap.size, 0, none⟩ = some (.int .i64 0) from by simp); have k1 := below_cell hb5 (show (wq.alloc (.cells #[.int .i64 0, .slice none 0 0] 24)).drew.cell? ⟨wq.heap.size, 1, none⟩ = some (.slice none 0 0) from by simp); have k2 : w5.frozen? ⟨wq.heap.size, 0, none⟩ = false := (by rw [hb5.frozen (by simp)]; simp); have k3 : w5.frozen? ⟨wq.heap.size, 1, none⟩ = false := (by rw [hb5.frozen (by simp)]; simp)); clear hs5 hb5 hq5))
      all_goals
        first
        | (obtain ⟨w6, h6⟩ : ∃ x, w5.alloc (.cells #[.int .i64 (sz : Int), .slice a5 n5 c5] 24) = x := ⟨_, rfl⟩
           rw [h6]
           obtain ⟨hs5, hb5, hq5⟩ := unhide H5
           have hb6 : Below w5.heap.size w5 w6 := (by rw [← h6]; exact (Below.refl _ _).alloc (Nat.le_refl _) _)
           have hq6 := hq5.trans (hb6.mono hq5.size)
           have T6 := hide (show Two w6 w5.heap.size (.int .i64 (sz : Int)) (.slice a5 n5 c5) from (by rw [← h6]; exact Two.made _ _ _ _))
           have S6 := hide (hs5.below hb6)
           have hYZ : w19.heap.size ≠ w5.heap.size := (by omega)
           have HS6 := hide ((unhide HSq).keep hq6)
           have A6 := hide ((unhide AQ).step hq6)
           obtain ⟨Y, hY⟩ : ∃ y, w5.heap.size = y := ⟨_, rfl⟩
           rw [hY] at T6 hYZ ⊢
           clear hs5 hb5 hq5 hb6 hq6 h6 hY H5 u0 u1 u2 u3 u4 u5 q5 v1 v2 v3 v4)
        | (obtain ⟨w6, h6⟩ : ∃ x, (w5.setCell ⟨wq.heap.size, 0, none⟩ (.int .i64 (sz : Int))).setCell ⟨wq.heap.size, 1, none⟩ (.slice a5 n5 c5) = x := ⟨_, rfl⟩
           rw [h6]
           obtain ⟨hs5, hb5, hq5⟩ := unhide H5
           have t5 : Two w5 wq.heap.size (.int .i64 0) (.slice none 0 0) := ⟨k0, k1, k2, k3⟩
           have hq6 : Below wq.heap.size wq w6 := (by rw [← h6]; exact two_below hq5 _ (Nat.le_refl _) _ _)
           have T6 := hide (show Two w6 wq.heap.size (.int .i64 (sz : Int)) (.slice a5 n5 c5) from (by rw [← h6]; exact t5.set _ _))
           have S6 := hide (show SlW w6 a5 n5 c5 X' from (by rw [← h6]; exact SlW.two hs5 t5 _ _))
           have hYZ := n1
           have HS6 := hide ((unhide HSq).keep hq6)
           have A6 := hide ((unhide AQ).step hq6)
           obtain ⟨Y, hY⟩ : ∃ y, wq.heap.size = y := ⟨_, rfl⟩
           rw [hY] at T6 hYZ ⊢
           clear hs5 hb5 hq5 hq6 h6 hY H5 u0 u1 u2 u3 u4 u5 q5 v1 v2 v3 v4 t5 k0 k1 k2 k3)
      all_goals
        clear z0 z1 y1 y2 y3 y4 q1 q2 q3 q4 n1 n2 n3 n4 HSq AQ HInq HKM
        obtain ⟨cP, hcP⟩ : ∃ n, countR sz X = n := ⟨_, rfl⟩
        obtain ⟨cQ, hcQ⟩ : ∃ n, countR sz X' = n := ⟨_, rfl⟩
        obtain ⟨d, hd⟩ : ∃ n, covC sz (setP x_t) P i = n := ⟨_, rfl⟩
        have lcP : cP ≤ 4096 := by rw [← hcP]; exact countR_le
        have lcQ : cQ ≤ 4096 := by rw [← hcQ]; exact countR_le
        have e1 : cP = cntB P sz := by rw [← hcP]; exact count_good (unhide HS6).good
        have e2 : cQ = cntB (fun e => P e && !setP x_t i e) sz := by rw [← hcQ]; exact count_good (unhide GX)
        have e3 := cnt_split P (setP x_t i) sz
        have e4 : cntB (fun e => P e && setP x_t i e) sz = d := hd
        have hPQ : cP = cQ + d := by omega
        have hd1 : 0 < d := by rw [← hd]; exact (unhide HRes).2.2.1
        have hdm : d ≤ m := by rw [← hd]; exact (unhide HS6).most i hin
        have HD2 := hide hd
        have z0 := (unhide HS6).lef.c0
        have z1 := (unhide HS6).lef.c1
        have r0 := (unhide T6).c0
        have r1 := (unhide T6).c1
        have Fz0 := fun x : Ext w6 => x.cell z0
        have Fz1 := fun x : Ext w6 => x.cell z1
        have Fr0 := fun x : Ext w6 => x.cell r0
        have Fr1 := fun x : Ext w6 => x.cell r1
        have hNE := Ext.ne w6
        have KC := fun x : Ext w6 => Count_any (sz : Int) ax nx cx X x.w ((unhide HS6).sl.below x.bel) (unhide HS6).good.ok
        have KD := fun x : Ext w6 => Count_any (sz : Int) a5 n5 c5 X' x.w ((unhide S6).below x.bel) (unhide GX).ok
        rw [hcP] at KC
        rw [hcQ] at KD
        unfold setV at KC KD
        have HKC := hide KC
        have HKD := hide KD
        clear KC KD hcP hcQ hd e1 e2 e3 e4
        go_wp2_with fail
        clear z0 z1 r0 r1
        refine wp_region_ext (by kernel_rfl) (by kernel_rfl) ?_
        repeat (go_big_quiet_step (first
          | (go_at_call_of 40 (Value.agg #[.int .i64 (sz : Int), .slice ax nx cx]); rename_i x; exact Ext.call (unhide HKC x) (fun e w' h => h))
          | (go_at_call_of 40 (Value.agg #[.int .i64 (sz : Int), .slice a5 n5 c5]); rename_i x; exact Ext.call (unhide HKD x) (fun e w' h => h))))
        refine wpQuiet_nil ?_
        rintro _ ⟨x7, rfl⟩
        have hbx := x7.bel
        obtain ⟨w7, hw7⟩ : ∃ y, x7.w = y := ⟨_, rfl⟩
        rw [hw7] at hbx ⊢
        have HS7 := hide ((unhide HS6).keep hbx)
        have T7 := hide ((unhide T6).keep hbx)
        have S7 := hide ((unhide S6).below hbx)
        have z0 := (unhide HS7).lef.c0
        have z1 := (unhide HS7).lef.c1
        have f0 := (unhide HS7).lef.f0
        have f1 := (unhide HS7).lef.f1
        have r0 := (unhide T7).c0
        have r1 := (unhide T7).c1
        have hdI : (cQ : Int) + (d : Int) - (cQ : Int) = (d : Int) := by omega
        rw [hdI]
        have hd1' : ¬ ((d : Int) < 1) := by omega
        have hdm' : ¬ ((m : Int) < (d : Int)) := by omega
        clear hdI hw7 hbx Fz0 Fz1 Fr0 Fr1 hNE HKC HKD HS6 T6 S6 A6
        go_wp2_with fail
        refine (num_any 0 w7).mono ?_
        rintro _ w' ⟨rfl, hw⟩
        obtain rfl := hw.symm
        go_wp2_with fail
        refine ⟨⟨k + 1, d, fu - 1, X', _, a5, n5, c5, hlt, by go_num, rfl, by omega, ⟨two_below (unhide HS7).bel _ (Nat.le_refl _) _ _, (unhide HS7).lef.set _ _, SlW.two (unhide S7) (unhide HS7).lef _ _, unhide GX, (unhide HRes).1, (unhide HRes).2.1, fun j hj => Nat.le_trans cov_mono (by rw [← unhide HD2]; exact (unhide HRes).2.2.2 j hj)⟩⟩, ?_⟩
        simp only [intOf]
        omega
    · have hge : k = n_l := by omega
      subst hge
      have hnil : l.drop k = [] := List.drop_eq_nil_of_le (by rw [unhide HLl]; exact Nat.le_refl _)
      have hc0 : countR sz X = 0 := by
        rw [count_good (unhide HSt).good]
        exact covR_nil (unhide HSt).fuel (by have hh := (unhide HSt).res; rw [hnil] at hh; exact hh)
      have z0 := (unhide HSt).lef.c0
      have z1 := (unhide HSt).lef.c1
      have KC := Count_any (sz : Int) ax nx cx X wr (unhide HSt).sl (unhide HSt).good.ok
      rw [hc0] at KC
      unfold setV at KC
      have HKC := hide KC
      clear KC hc0 hnil hIl t1
      go_wp2_with fail
      refine (unhide HKC).mono ?_
      rintro _ w8 ⟨rfl, hb8⟩
      have HB8 := hide ((unhide AR).bel.trans (hb8.mono (unhide AR).bel.size))
      clear hb8 HKC z0 z1
      go_wp2_with fail
      go_ret
      exact ⟨rfl, unhide HB8⟩

theorem bitCovered_walk (s_t : Int) (a_t : Option Addr) (n_t c_t : Nat) (x_t : List SetC) (s_s : Int) (a_s : Option Addr) (n_s c_s : Nat) (x_s : List Nat) (w : World) (h_t : SlS w a_t n_t c_t x_t) (o_t : ∀ e ∈ x_t, e.Arg) (b_t : n_t ≤ 4398046510976) (e_t : a_t = none → n_t = 0 ∧ c_t = 0) (hl_t : -9223372036854775808 ≤ s_t) (hh_t : s_t ≤ 9223372036854775807) (h_s : SlW w a_s n_s c_s x_s) (o_s : OkW x_s) (b_s : n_s ≤ 17592186043904) (e_s : a_s = none → n_s = 0 ∧ c_s = 0) (hl_s : -9223372036854775808 ≤ s_s) (hh_s : s_s ≤ 9223372036854775807) :
    Calls Try.prog 9 #[setV s_t a_t n_t c_t, setV s_s a_s n_s c_s] w fun e w' => e = .returned (.bool true) ∧ Below w.heap.size w w' := by
  cases m1 : MayT s_t x_t
  · exact bitCovered_no1 s_t a_t n_t c_t x_t s_s a_s n_s c_s x_s w h_t o_t b_t e_t hl_t hh_t h_s o_s b_s e_s hl_s hh_s m1
  · cases m2 : MayS s_s x_s
    · exact bitCovered_no2 s_t a_t n_t c_t x_t s_s a_s n_s c_s x_s w h_t o_t b_t e_t hl_t hh_t h_s o_s b_s e_s hl_s hh_s m1 m2
    · by_cases e : s_t = s_s
      · cases hR : covR s_s.toNat x_t.length (setP x_t) 4096 (hasB (gW x_s)) [] with
        | none => exact bitCovered_none s_t a_t n_t c_t x_t s_s a_s n_s c_s x_s w h_t o_t b_t e_t hl_t hh_t h_s o_s b_s e_s hl_s hh_s (MayS.fits m2) m1 m2 e hR
        | some l => exact bitCovered_some s_t a_t n_t c_t x_t s_s a_s n_s c_s x_s w h_t o_t b_t e_t hl_t hh_t h_s o_s b_s e_s hl_s hh_s (MayS.fits m2) m1 m2 e l hR
      · exact bitCovered_no3 s_t a_t n_t c_t x_t s_s a_s n_s c_s x_s w h_t o_t b_t e_t hl_t hh_t h_s o_s b_s e_s hl_s hh_s m1 m2 e

set_option maxRecDepth 100000 in
theorem bitCovered_lifted (os : Os) (started : os.Started) (H : Type) (enc : TypeId × Value → H) :
    ReturnsInHanded {} Try.checked os 9 .any (Rows.bitCoveredSpec.pre6 enc Try.prog Try.f9 Rows.bitCoveredRow.domain false) (Rows.bitCoveredSpec.post enc Try.prog Try.f9 false true false false) := by
  refine returnsInHanded_of_change_sized (C := Try.checked) law_own started (by kernel_rfl) Try.func9
    (ChangeSpec.witness6 (enc := enc) (C := Try.checked) false ⟨#[], #[.agg #[.int .i64 0, .slice none 0 0], .agg #[.int .i64 0, .slice none 0 0]], []⟩ 8 (by kernel_rfl) (by kernel_rfl) (by kernel_rfl) (by kernel_rfl)) ?_
  intro W base args ds gs before hval0 hW hcnd hsz _
  have hval : ∀ (j : Nat) t v, Try.f9.params[j]? = some t → args[j]? = some v → Value.okWide Try.prog W .any base t v := hval0
  have hW' := hW
  obtain ⟨p, q, hA0, hV, rfl, hfz, hnd⟩ := hW
  have hA : DataW.TrodAll enc Try.prog W 0 (fun _ => true) true Try.f9.params.toList args.toList ds p := hA0
  rw [Try.params9] at hA hval hsz
  obtain ⟨v0, vs0, d0, ds0, p0, q0, hargs, rfl, rfl, h0, r0⟩ := trodAll_cons hA
  obtain ⟨v1, vs1, d1, ds1, p1, q1, rfl, rfl, rfl, h1, r1⟩ := trodAll_cons r0
  obtain ⟨rfl, rfl, rfl⟩ := trodAll_nil r1
  obtain rfl : args = #[v0, v1] := by cases args; simp_all
  obtain ⟨rfl, rfl⟩ := trodVars_none hV
  have k0 := h0
  have lt0 : ∀ x ∈ p0, x.block < W.heap.size := by obtain ⟨m, hm⟩ := k0; exact DataW.trod_lt m _ _ _ hm
  obtain ⟨s0, a0, n0, c0, x0, rfl, l0, g0, y0, o0, b0, e0⟩ := arg_table (hval 0 27 v0 rfl rfl) h0 (fun k hk => by simpa using List.all_eq_true.1 hsz k (DataW.weights_mem_each (j := 0) rfl rfl k hk))
  have k1 := h1
  have lt1 : ∀ x ∈ p1, x.block < W.heap.size := by obtain ⟨m, hm⟩ := k1; exact DataW.trod_lt m _ _ _ hm
  obtain ⟨s1, a1, n1, c1, x1, rfl, l1, g1, y1, o1, b1, e1⟩ := arg_set (hval 1 24 v1 rfl rfl) h1 (fun k hk => by simpa using List.all_eq_true.1 hsz k (DataW.weights_mem_each (j := 1) rfl rfl k hk))
  clear hA0 hval0
  refine (bitCovered_walk s0 a0 n0 c0 x0 s1 a1 n1 c1 x1 W y0 o0 b0 e0 l0 g0 y1 o1 b1 e1 l1 g1).mono fun e W' ⟨he, bel⟩ => ?_
  subst he
  exact ⟨_, rfl, _, _, _, [], _, [], hW', trodAll_mk1 (shut_bool Try.underlying4 _), (trodAll_cons_mk (Below.trod law_laid (by kernel_rfl) (of_decide_eq_true (by kernel_rfl)) k0 bel lt0) (trodAll_cons_mk (Below.trod law_laid (by kernel_rfl) (of_decide_eq_true (by kernel_rfl)) k1 bel lt1) trodAll_mk0)), rfl, bel.frame _, fun h => by cases h⟩

theorem bitCovered_holds : Rows.BitCoveredSaid :=
  OpenClaim.holds_of_wide 9 Try.f9 rfl rfl rfl rfl rfl rfl rfl ⟨rfl, rfl, rfl, rfl, rfl⟩ rfl rfl rfl rfl rfl (by kernel_rfl) Try.func9 (by kernel_rfl)
    (of_decide_eq_true (by kernel_rfl)) (by unfold Func.isWrapper; first | (rw [if_pos (by decide +kernel)]; kernel_rfl) | (rw [if_neg (by decide +kernel)]; exact ⟨rfl, rfl⟩))
    (fun os started H enc _ => bitCovered_lifted os started H enc)
#print axioms bitCovered_holds
end Go.Proofs.Ytbendkndnojihaa
