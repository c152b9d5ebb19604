/-
  natural.root: contract.
-/
import Derived.Test.YtpnhmaenmmelnaaDoorRt3
import Derived.Test.YtpnhmaenmmelnaaDoorShl
import Derived.Test.YtpnhmaenmmelnaaDoorNBits
namespace Go.Proofs.YtpnhmaenmmelnaaDoor
open Go.RowKit Go.Deep
set_option linter.unusedVariables false

theorem exists_root {k : Nat} (hk : 1 ≤ k) : ∀ (n : Nat), ∃ r, IsRoot n k r
  | 0 => ⟨0, by rw [Nat.zero_pow (by omega)]; omega, by simp⟩
  | n + 1 => by
    obtain ⟨r, h1, h2⟩ := exists_root hk n
    rcases Nat.lt_or_ge (n + 1) ((r + 1) ^ k) with h | h
    · exact ⟨r, by omega, h⟩
    · refine ⟨r + 1, h, ?_⟩
      have : (r + 1) ^ k < (r + 1 + 1) ^ k := Nat.pow_lt_pow_left (by omega) (by omega)
      omega
theorem lst_same {xs : List Nat} {n : Nat} (h : xs.length = n) : lst (fun i => xs.getD i 0) n = xs := by
  apply List.ext_getElem
  · rw [lst_len, h]
  · intro i h1 h2
    have e := lst_getD (fun i => xs.getD i 0) n i (by omega)
    generalize lst (fun i => xs.getD i 0) n = L at *
    simp only [List.getD, h1, h2, List.getElem?_eq_getElem, Option.getD_some] at e
    exact e
theorem root_one {n : Nat} : IsRoot n 1 n := ⟨by simp, by simp⟩
theorem root_zero {k : Nat} (hk : 1 ≤ k) : IsRoot 0 k 0 := ⟨by rw [Nat.zero_pow (by omega)]; omega, by simp⟩
theorem root_pos {n k r : Nat} (h : IsRoot n k r) (hn : 0 < n) : 1 ≤ r := h.le (by rw [Nat.one_pow]; omega)
theorem root_le {n k r : Nat} (h : IsRoot n k r) (hk : 1 ≤ k) : r ≤ n := by
  have h1 := h.1
  rcases Nat.eq_zero_or_pos r with e | e
  · omega
  · have : r ^ 1 ≤ r ^ k := Nat.pow_le_pow_right e hk
    rw [Nat.pow_one] at this
    omega

/-- What a head's root, one more and shifted, is: above the root. -/
theorem root_head {n k r h c : Nat} (hr : IsRoot n k r) (hh : IsRoot (n / 2 ^ (c * k)) k h) : r < (h + 1) * 2 ^ c := by
  rcases Nat.lt_or_ge r ((h + 1) * 2 ^ c) with e | e
  · exact e
  · exfalso
    have h1 := pow_mono_left e k
    rw [Nat.mul_pow, ← Nat.pow_mul] at h1
    have h2 : n / 2 ^ (c * k) + 1 ≤ (h + 1) ^ k := hh.2
    have h3 := Nat.mul_le_mul_right (2 ^ (c * k)) h2
    have h4 : n < (n / 2 ^ (c * k) + 1) * 2 ^ (c * k) := by
      have e1 := Nat.div_add_mod n (2 ^ (c * k))
      have e2 := Nat.mod_lt n (Nat.two_pow_pos (c * k))
      rw [Nat.add_mul, Nat.one_mul, Nat.mul_comm]
      omega
    have := hr.1
    omega

theorem size_bound {b k s : Nat} (hk : 1 ≤ k) (hs : s = (b + k - 1) / k) : b ≤ s * k := by
  have h := Nat.div_add_mod (b + k - 1) k
  have h2 := Nat.mod_lt (b + k - 1) hk
  rw [← hs, Nat.mul_comm] at h
  omega
theorem size_upper {b k s : Nat} (hk : 1 ≤ k) (hs : s = (b + k - 1) / k) : s * k ≤ b + k - 1 := by
  rw [hs]; exact Nat.div_mul_le_self _ _

/-- The contract of root, of numbers below N. -/
def RtC (N : Nat) : Prop := ∀ (a : Option Addr) (n c : Nat) (xs : List Nat) (k : Nat) (w : World), Sl w a n c xs → Ok xs → Norm xs → n ≤ 2048 → 1 ≤ k → k ≤ 1024 → val xs < N →
  Calls Tryd.prog 45 #[.slice a n c, .int .i64 (k : Nat)] w fun e w' => ∃ r, IsRoot (val xs) k r ∧ NewRep w w' r e

set_option maxHeartbeats 4000000 in
theorem root_small (a : Option Addr) (n c : Nat) (xs : List Nat) (k : Nat) (w : World) (h : Sl w a n c xs) (ox : Ok xs) (nx : Norm xs) (hn : n ≤ 2048) (hk : 1 ≤ k) (hk2 : k ≤ 1024) (hc : k = 1 ∨ xs = []) :
    Calls Tryd.prog 45 #[.slice a n c, .int .i64 (k : Nat)] w fun e w' => ∃ r, IsRoot (val xs) k r ∧ NewRep w w' r e := by
  have hR : IsRoot (val xs) k (val xs) := by
    rcases hc with e | e
    · rw [e]; exact root_one
    · rw [e]; exact root_zero hk
  have KC := clone_any a n c xs w h (by omega)
  have KC' := hide KC
  have HR := hide hR
  have HX := hide (And.intro h.len (show Rep (val xs) xs from ⟨ox, nx, rfl⟩))
  have hl := h.len
  by_cases h1 : k = 1
  · subst h1
    clear KC hc hR h
    go_enter Tryd.func45, Tryd.ntmps45
    go_wp2_with fail
    refine (unhide KC').mono ?_
    rintro e w1 ⟨rfl, f1, b1⟩
    have H1 := hide (And.intro f1 b1)
    clear f1 b1 KC'
    go_wp2_with fail
    go_ret
    obtain ⟨f1, b1⟩ := unhide H1
    have s1 := f1.sl (Nat.le_refl _) (by unfold maxLen; omega)
    rw [lst_same (unhide HX).1] at s1
    exact ⟨_, unhide HR, _, _, _, rfl, s1, (unhide HX).2, fun x hx => by cases hx; exact Nat.le_refl _, b1⟩
  · have hx : xs = [] := hc.resolve_left h1
    have hz : n = 0 := by rw [← hl, hx]; rfl
    have t1 : ((k:Int) == 1) = false := by simp; omega
    have t2 : ¬ (k:Int) = 1 := by omega
    subst hz
    clear KC hc hR h
    go_enter Tryd.func45, Tryd.ntmps45
    go_wp2_with fail
    refine (unhide KC').mono ?_
    rintro e w1 ⟨rfl, f1, b1⟩
    have H1 := hide (And.intro f1 b1)
    clear f1 b1 KC'
    go_wp2_with fail
    go_ret
    obtain ⟨f1, b1⟩ := unhide H1
    have s1 := f1.sl (Nat.le_refl _) (by unfold maxLen; omega)
    rw [lst_same (unhide HX).1] at s1
    exact ⟨_, unhide HR, _, _, _, rfl, s1, (unhide HX).2, fun x hx => by cases hx; exact Nat.le_refl _, b1⟩

set_option maxHeartbeats 8000000 in
theorem root_step (N : Nat) (IH : RtC N) (a : Option Addr) (n c : Nat) (xs : List Nat) (k : Nat) (w : World) (h : Sl w a n c xs) (ox : Ok xs) (nx : Norm xs) (hn : n ≤ 2048) (hk : 2 ≤ k) (hk2 : k ≤ 1024) (hx : xs ≠ []) (hN : val xs ≤ N) :
    Calls Tryd.prog 45 #[.slice a n c, .int .i64 (k : Nat)] w fun e w' => ∃ r, IsRoot (val xs) k r ∧ NewRep w w' r e := by
  have KB := hide (bitLen_all a n c xs w h ox (by omega))
  have KL := hide (fun v => blen_small k v (by omega))
  have hb16 : Lib.bitLen k ≤ 11 := Lib.bitLen_le _ 11 (by omega) (by omega)
  have hn0 : 0 < n := by rw [← h.len]; exact List.length_pos_iff.2 hx
  have hvp : 0 < val xs := by
    have a := val_ge_of_norm nx hx
    have b := pow_pos (xs.length - 1)
    omega
  have hbb : bitsN xs ≤ 65536 := by
    have hh := val_ge_bits ox nx hx
    have e : bitsN xs = bitsL xs := by unfold bitsN; rw [if_neg hx]
    have h1 := val_lt ox
    rw [h.len, pow_limb] at h1
    have h2 : 2 ^ (bitsL xs - 1) < 2 ^ (32 * n) := Nat.lt_of_le_of_lt hh.2 h1
    have := (Nat.pow_lt_pow_iff_right (by decide : 1 < 2)).1 h2
    omega
  obtain ⟨s, hs⟩ : ∃ s, s = (bitsN xs + k - 1) / k := ⟨_, rfl⟩
  have hs1 := size_bound (by omega) hs
  have hs2 := size_upper (by omega) hs
  have HV := hide (show val xs < (2 ^ s) ^ k from by rw [← Nat.pow_mul]; exact Nat.lt_of_lt_of_le (val_lt_bits ox) (Nat.pow_le_pow_right (by decide) hs1))
  have t1 : ((k:Int) == 1) = false := by simp; omega
  have t2 : ¬ (k:Int) = 1 := by omega
  have t3 : ((n:Int) == 0) = false := by simp; omega
  have t4 : ¬ (n:Int) = 0 := by omega
  have t5 : ((bitsN xs : Int) + (k:Int) - 1).tdiv (k:Int) = (s:Int) := by
    rw [Int.tdiv_eq_ediv_of_nonneg (by omega), hs, Int.natCast_ediv]
    congr 1
    omega
  have t6 : ((bitsN xs : Int) + (k:Int) - 1) / (k:Int) = (s:Int) := by
    rw [hs, Int.natCast_ediv]
    congr 1
    omega
  have hsb : s ≤ 70000 := by
    have : s * 1 ≤ s * k := Nat.mul_le_mul_left s (by omega)
    omega
  clear hs
  generalize bitsN xs = b at *
  generalize Lib.bitLen k = lo at *
  by_cases hsm : s < lo + 3
  · have hsm' : (s:Int) < (lo:Int) + 3 := by omega
    have KR := hide (rootByBits_any a n c xs k s w h ox nx hx hn (by omega) hk2 (by omega) (unhide HV))
    clear h IH
    go_enter Tryd.func45, Tryd.ntmps45
    go_wp2_with fail
    refine (unhide KB).mono ?_
    rintro e w' ⟨rfl, hw⟩
    obtain rfl := hw.symm
    clear hw KB
    go_wp2_with fail
    refine (unhide KL _).mono ?_
    rintro e w' ⟨rfl, hw⟩
    obtain rfl := hw.symm
    clear hw KL
    go_wp2_with fail
    refine (unhide KR).mono ?_
    rintro e w1 ⟨r, hr, az, mz, zs, rfl, s1, r1, n1, b1⟩
    have H1 := hide (And.intro hr (And.intro s1 (And.intro r1 (And.intro n1 b1))))
    clear hr s1 r1 n1 b1 KR
    go_wp2_with fail
    go_ret
    obtain ⟨hr, s1, r1, n1, b1⟩ := unhide H1
    exact ⟨r, hr, az, mz, zs, rfl, s1, r1, n1, b1⟩
  · have hsm' : ¬ (s:Int) < (lo:Int) + 3 := by omega
    obtain ⟨ct, hct⟩ : ∃ ct, ct = (s - lo) / 2 := ⟨_, rfl⟩
    have hc1 : 1 ≤ ct := by omega
    have t7 : ((s:Int) - (lo:Int)).tdiv 2 = (ct:Int) := by rw [Int.tdiv_eq_ediv_of_nonneg (by omega)]; omega
    have t8 : ((s:Int) - (lo:Int)) / 2 = (ct:Int) := by omega
    have hck : ct * k ≤ 40000 := by
      have h1 : 2 * ct ≤ s := by omega
      have h2 : (2 * ct) * k ≤ s * k := Nat.mul_le_mul_right k h1
      rw [Nat.mul_assoc] at h2
      omega
    have hck1 : 2 ≤ ct * k := by
      have := Nat.mul_le_mul hc1 hk
      omega
    have hctb : ct ≤ 20000 := by
      have : ct * 2 ≤ ct * k := Nat.mul_le_mul_left ct hk
      omega
    have t9 : (ct:Int) * (k:Int) = ((ct * k : Nat) : Int) := by rw [Int.natCast_mul]
    obtain ⟨r, hr⟩ := exists_root (show 1 ≤ k by omega) (val xs)
    have HR := hide hr
    have HD := hide (fun hd (hh : IsRoot (val xs / 2 ^ (ct * k)) k hd) => root_head (c := ct) hr hh)
    have KS := hide (shr_any a n c xs w (ct * k) h ox hn (by omega))
    have hdl : val xs / 2 ^ (ct * k) < val xs := Nat.div_lt_self hvp (by
      have : 2 ^ 2 ≤ 2 ^ (ct * k) := Nat.pow_le_pow_right (by decide) hck1
      omega)
    have hd2 : 2 * (val xs / 2 ^ (ct * k)) ≤ val xs := by
      have h1 : (2:Nat) ^ 1 ≤ 2 ^ (ct * k) := Nat.pow_le_pow_right (by decide) (by omega)
      have h2 := Nat.div_mul_le_self (val xs) (2 ^ (ct * k))
      have h3 := Nat.mul_le_mul_left (val xs / 2 ^ (ct * k)) h1
      omega
    have H := hide h
    have HIH := hide IH
    clear h IH hr hct
    generalize hP : val xs / 2 ^ (ct * k) = V at *
    generalize ct * k = ck at *
    clear hP
    go_enter Tryd.func45, Tryd.ntmps45
    go_wp2_with fail
    refine (unhide KB).mono ?_
    rintro e w' ⟨rfl, hw⟩
    obtain rfl := hw.symm
    clear hw KB
    go_wp2_with fail
    refine (unhide KL _).mono ?_
    rintro e w' ⟨rfl, hw⟩
    obtain rfl := hw.symm
    clear hw KL
    go_wp2_with fail
    refine (unhide KS).mono ?_
    rintro e w1 ⟨a1, m1, z1, rfl, s1, r1, n1, b1⟩
    have hl1 : m1 ≤ n := by
      rw [← s1.len]
      refine rep_len_leS r1 ?_
      have := val_lt ox
      rw [(unhide H).len] at this
      omega
    have KR := unhide HIH a1 m1 m1 z1 k w1 s1 r1.ok r1.norm (by omega) (by omega) hk2 (by rw [r1.val]; omega)
    rw [r1.val] at KR
    have KR' := hide KR
    have HB1 := hide b1
    clear KR s1 r1 n1 b1 hl1 KS HIH
    go_wp2_with fail
    refine (unhide KR').mono ?_
    rintro e w2 ⟨hd, hhd, a2, m2, z2, rfl, s2, r2, n2, b2⟩
    have hB2 := (unhide HB1).trans (b2.mono (unhide HB1).size)
    have hdle := root_le hhd (by omega)
    have hgt := unhide HD hd hhd
    have hdv : hd + 1 ≤ val xs := by omega
    have HVX := hide (show val xs < 4294967296 ^ n from by have := val_lt ox; rwa [(unhide H).len] at this)
    have hl2 : m2 ≤ n := by
      rw [← s2.len]
      refine rep_len_leS r2 ?_
      have := unhide HVX
      omega
    have bel3 := (Below.refl w2.heap.size w2).alloc (Nat.le_refl _) (.cells #[.int .u32 1] 64)
    have hB3 := hB2.trans (bel3.mono hB2.size)
    have KA := add_any a2 _ m2 m2 1 1 z2 [1] (w2.alloc (.cells #[.int .u32 1] 64)) (s2.below bel3) (sl_unit w2 1 64) r2.ok (Ok.cons (by decide) Ok.nil) (by omega) (by omega)
    rw [r2.val, show val [1] = 1 from by simp [val]] at KA
    have KA' := hide KA
    have HB3 := hide hB3
    have HGT := hide (And.intro hgt hdv)
    clear KA s2 r2 n2 b2 hB2 bel3 hB3 hhd hdle hgt hdv HB1 KR' HD hl2
    go_wp2_with fail
    refine (unhide KA').mono ?_
    rintro e w3 ⟨a3, m3, z3, rfl, s3, r3, n3, b3⟩
    have hB4 := (unhide HB3).trans (b3.mono (unhide HB3).size)
    have hl3 : m3 ≤ n := by
      rw [← s3.len]
      refine rep_len_leS r3 ?_
      have := unhide HVX
      have := (unhide HGT).2
      omega
    have KH := shl_any a3 m3 m3 z3 w3 ct s3 r3.ok (by omega) (by omega)
    rw [r3.val] at KH
    have KH' := hide KH
    have HB4 := hide hB4
    clear KH s3 r3 n3 b3 hB4 hl3 KA' HB3
    go_wp2_with fail
    refine (unhide KH').mono ?_
    rintro e w4 ⟨a4, m4, z4, rfl, s4, r4, n4, b4⟩
    have hB5 := (unhide HB4).trans (b4.mono (unhide HB4).size)
    obtain ⟨E, hE⟩ : ∃ E : Nat, E = 625 := ⟨_, rfl⟩
    have hl4 : m4 ≤ n + E := by
      rw [← s4.len]
      refine rep_len_leS r4 ?_
      have e1 : (2:Nat) ^ ct ≤ 4294967296 ^ E := by
        rw [pow_limb]
        exact Nat.pow_le_pow_right (by decide) (by omega)
      rw [Nat.pow_add]
      exact Nat.mul_lt_mul_of_lt_of_le (Nat.lt_of_le_of_lt (unhide HGT).2 (unhide HVX)) e1 (Nat.pow_pos (by decide))
    have KD := hide (descend_any a n c xs k (k - 1) a4 m4 z4 _ r w w4 ((unhide H).below hB5) ox nx hn (by omega) (by omega) hk2 s4 r4 (unhide HR) (root_pos (unhide HR) hvp) (Nat.le_of_lt (unhide HGT).1) (by have := (unhide HGT).1; omega) (by omega) hB5 (fun x hx => Nat.le_trans (unhide HB4).size (n4 x hx)))
    clear s4 r4 n4 b4 hB5 hl4 KH' HB4
    go_wp2_with fail
    refine (unhide KD).mono ?_
    rintro e w5 ⟨az, mz, zs, rfl, s5, r5, n5, b5⟩
    have H5 := hide (And.intro s5 (And.intro r5 (And.intro n5 b5)))
    clear s5 r5 n5 b5 KD
    go_wp2_with fail
    go_ret
    obtain ⟨s5, r5, n5, b5⟩ := unhide H5
    exact ⟨r, unhide HR, az, mz, zs, rfl, s5, r5, n5, b5⟩

theorem root_all : ∀ (N : Nat), RtC N
  | 0 => fun a n c xs k w h ox nx hn hk hk2 hN => by omega
  | N + 1 => fun a n c xs k w h ox nx hn hk hk2 hN => by
    by_cases hc : k = 1 ∨ xs = []
    · exact root_small a n c xs k w h ox nx hn hk hk2 hc
    · have h1 : ¬ k = 1 := fun e => hc (.inl e)
      have h2 : xs ≠ [] := fun e => hc (.inr e)
      exact root_step N (root_all N) a n c xs k w h ox nx hn (by omega) hk2 h2 (by omega)

/-- natural.root. -/
theorem root_any (a : Option Addr) (n c : Nat) (xs : List Nat) (k : Nat) (w : World) (h : Sl w a n c xs) (ox : Ok xs) (nx : Norm xs) (hn : n ≤ 2048) (hk : 1 ≤ k) (hk2 : k ≤ 1024) :
    Calls Tryd.prog 45 #[.slice a n c, .int .i64 (k : Nat)] w fun e w' => ∃ r, IsRoot (val xs) k r ∧ NewRep w w' r e :=
  root_all (val xs + 1) a n c xs k w h ox nx hn hk hk2 (Nat.lt_succ_self _)
end Go.Proofs.YtpnhmaenmmelnaaDoor
