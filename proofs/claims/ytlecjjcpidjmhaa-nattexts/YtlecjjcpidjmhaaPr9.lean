/-
  natural.Print: contract.
-/
import Derived.Test.YtlecjjcpidjmhaaPr7
import Derived.Test.YtlecjjcpidjmhaaPr8
import Derived.Test.YtlecjjcpidjmhaaPa2
namespace Go.Proofs.Ytlecjjcpidjmhaa
open Go.RowKit Go.Deep
set_option linter.unusedVariables false

theorem make_b2 (n : Nat) (hn : n ≤ 1000000000) (w : World) : (Instr.makeSlice 53 (.int .i64 (n : Int)) (.int .i64 (n : Int))).run Try.prog w = .ok (.slice (some ⟨w.heap.size, 0, none⟩) n n) (w.alloc (.cells (madeCells #[.int .u8 0] n) 5)) :=
  run_make_row' (P := Try.prog) 53 5 (.int .u8 0) 1 Try.underlying53 Try.info_u8 rfl .i64 .i64 n (by omega) (by omega) w

theorem pow_small2 {wt N n k : Nat} (hw : 2 ≤ wt) (hn : n ≤ 2048) (hN : N < 2 ^ (32 * n)) (h : ∀ i, i < k → wt ^ 2 ^ i ≤ N) : k ≤ 16 := by
  rcases Nat.eq_zero_or_pos k with e | e
  · omega
  · have h1 := h (k - 1) (by omega)
    have h2 : 2 ^ 2 ^ (k - 1) ≤ wt ^ 2 ^ (k - 1) := Nat.pow_le_pow_left hw _
    have h3 : 2 ^ 2 ^ (k - 1) < 2 ^ (32 * n) := by omega
    have h4 := (Nat.pow_lt_pow_iff_right (by decide : 1 < 2)).1 h3
    have h5 : 2 ^ (k - 1) < 2 ^ 16 := by
      have : (2:Nat) ^ 16 = 65536 := by decide
      omega
    have := (Nat.pow_lt_pow_iff_right (by decide : 1 < 2)).1 h5
    omega

theorem top_zero {N b L : Nat} (hb : 0 < b) : ∀ {t : Nat}, t ≤ L → N < b ^ L → (∀ p, p < t → dgt N b (L - 1 - p) = 0) → N < b ^ (L - t)
  | 0, _, h, _ => by simpa using h
  | t + 1, ht, h, hz => by
    have h1 := top_zero hb (t := t) (by omega) h (fun p hp => hz p (by omega))
    have h2 := hz t (by omega)
    unfold dgt at h2
    have hp : 0 < b ^ (L - 1 - t) := Nat.pow_pos hb
    rw [show L - t = (L - 1 - t) + 1 from by omega, Nat.pow_succ] at h1
    have h3 : N / b ^ (L - 1 - t) < b := (Nat.div_lt_iff_lt_mul hp).2 (by rw [Nat.mul_comm]; exact h1)
    rw [Nat.mod_eq_of_lt h3] at h2
    have h4 := Nat.div_eq_zero_iff.1 h2
    rw [show L - (t + 1) = L - 1 - t from by omega]
    omega
theorem top_ge {N b j : Nat} (hb : 0 < b) (h : dgt N b j ≠ 0) : b ^ j ≤ N := by
  rcases Nat.lt_or_ge N (b ^ j) with k | k
  · exfalso
    apply h
    unfold dgt
    rw [Nat.div_eq_of_lt k, Nat.zero_mod]
  · exact k

theorem pr_pre (w1 w2 : World) (a : Option Addr) (n c N b cnt wt K pb L : Nat) (a0 : Option Addr) (cp : Nat) (hw2 : ((w1.alloc (.cells #[.int .i64 (b : Nat), .int .i64 (cnt : Nat), .int .u32 (wt : Nat), .slice a0 K cp] 79)).alloc (.cells (madeCells #[.int .u8 0] L) 5)) = w2)
    (hL : cnt * 2 ^ K = L) (hs : Sl w1 a n c (limbs N)) (hsb : ∀ x, a = some x → limbs N ≠ [] → x.block < w1.heap.size) (hn : n ≤ 2048) (hN : N < wt ^ 2 ^ K) (hpb : pb < w1.heap.size)
    (hpe : ∀ i, i < K → ∃ a m, w1.cell? ⟨pb, 0 + i, none⟩ = some (.slice a m m) ∧ Sl w1 a m m (limbs (wt ^ 2 ^ i)) ∧ m ≤ 2048 ∧ ∀ x, a = some x → x.block < w1.heap.size) :
    WrPre w2 K (w1.heap.size + 1) 0 L L a n c N b cnt wt pb 0 K (fun _ => 0) ∧ Below w1.heap.size w1 w2 := by
  have bA : Below w1.heap.size w1 _ := (Below.refl _ _).alloc (Nat.le_refl _) (.cells #[.int .i64 (b : Nat), .int .i64 (cnt : Nat), .int .u32 (wt : Nat), .slice a0 K cp] 79)
  have fB := FnB.made (w1.alloc (.cells #[.int .i64 (b : Nat), .int .i64 (cnt : Nat), .int .u32 (wt : Nat), .slice a0 K cp] 79)) L 5
  have bB := bA.alloc (by simp) (.cells (madeCells #[.int .u8 0] L) 5)
  rw [hw2] at fB bB
  rw [show (w1.alloc (.cells #[.int .i64 (b : Nat), .int .i64 (cnt : Nat), .int .u32 (wt : Nat), .slice a0 K cp] 79)).heap.size = w1.heap.size + 1 from by simp] at fB
  refine ⟨⟨hL.symm, Nat.le_refl _, hs.below bB, fun x hx hne => by have := hsb x hx hne; omega, hn, hN, Nat.le_refl _, ⟨by omega, fun i hi => ?_⟩, fB⟩, bB⟩
  obtain ⟨ai, mi, h1, h2, h3, h4⟩ := hpe i hi
  have hcc : Chg (fun _ => False) w1 w2 := Chg.of_below bB
  exact ⟨ai, mi, hcc.cell (fun h => h) h1, h2.below bB, h3, fun x hx => by have := h4 x hx; omega⟩

set_option maxHeartbeats 16000000 in
theorem nprint_ok (a : Option Addr) (n c : Nat) (xs : List Nat) (b : Nat) (w : World) (h : Sl w a n c xs) (ox : Ok xs) (m : MayL xs = true) (hb : 2 ≤ b) (hb2 : b ≤ 36) :
    Calls Try.prog 11 #[.slice a n c, .int .i64 (b : Nat)] w fun e w' => PrPost xs (b : Nat) w e w' := by
  have KM := may_any a n c xs w h
  rw [m] at KM
  have KM' := hide KM
  have KB := isBase_any (b : Int) w
  rw [show decide ((2:Int) ≤ (b:Int) ∧ (b:Int) ≤ 36) = true from by simp; omega] at KB
  have KB' := hide KB
  have hn : n ≤ 2048 := by have := h.len; have := MayL.len m; omega
  have KW := hide (newWriter_any a n c b xs w h ox (MayL.norm m) hn hb hb2)
  have HM := hide m
  have H := hide h
  have HL := hide h.len
  clear KM KB m h
  go_enter Try.func11, Try.ntmps11
  go_wp2_with fail
  refine (unhide KM').mono ?_
  rintro _ _ ⟨rfl, hw⟩
  obtain rfl := hw.symm
  clear hw KM'
  go_wp2_with fail
  refine (unhide KB').mono ?_
  rintro _ _ ⟨rfl, hw⟩
  obtain rfl := hw.symm
  clear hw KB'
  go_wp2_with fail
  refine (unhide KW).mono ?_
  rintro _ w1 ⟨cnt, wt, K, pv, rfl, hQ⟩
  obtain ⟨pb, a0, cp, rfl, hpv, hpb, hpe⟩ := hQ.pvs
  have hc1 := hQ.ch.pos
  have hc2 := hQ.ch.le
  have hwt2 : 2 ≤ wt := by
    rw [← hQ.wte]
    exact Nat.le_trans hb (Nat.le_trans (by rw [Nat.pow_one]; exact Nat.le_refl _) (Nat.pow_le_pow_right (n := b) (by omega) hc1))
  have hK : K ≤ 16 := pow_small2 hwt2 hn (by
    have h1 := val_lt ox
    rw [unhide HL, pow_limb] at h1
    exact h1) hQ.le
  obtain ⟨L, hL⟩ : ∃ L, cnt * 2 ^ K = L := ⟨_, rfl⟩
  have hL2 : L ≤ 31 * 65536 := by
    rw [← hL]
    exact Nat.mul_le_mul hc2 (Nat.le_trans (Nat.pow_le_pow_right (by decide) hK) (by decide))
  have hL1 : 1 ≤ L := by rw [← hL]; exact Nat.mul_pos hc1 (Nat.pow_pos (by decide))
  have sh : (cnt:Int) * 2 ^ K = (L:Int) := by rw [← hL, Int.natCast_mul, Int.natCast_pow]; rfl
  have wL : IntKind.i64.wrap (L:Int) = (L:Int) := by rw [IntKind.wrap_i64]; omega
  have hmk := make_b2 L (by omega)
  have HLe := hide hL
  clear hL
  have HQ := hide hQ
  have HPE := hide (And.intro hpv (And.intro hpb hpe))
  clear KW hQ hpv hpb hpe
  unfold writerV
  go_wp2_with fail
  obtain ⟨w2, hw2⟩ : ∃ w2, ((w1.alloc (.cells #[.int .i64 (b : Nat), .int .i64 (cnt : Nat), .int .u32 (wt : Nat), .slice a0 K cp] 79)).alloc (.cells (madeCells #[.int .u8 0] L) 5)) = w2 := ⟨_, rfl⟩
  rw [hw2]
  obtain ⟨N, hN⟩ : ∃ N, val xs = N := ⟨_, rfl⟩
  have hxs : xs = limbs N := by rw [← hN]; exact (limbs_val ox (MayL.norm (unhide HM))).symm
  have hsA : Sl w1 a n c (limbs N) := by rw [← hxs]; exact (unhide H).below (unhide HQ).bel
  have hPre := pr_pre w1 w2 a n c N b cnt wt K pb L a0 cp hw2 (unhide HLe) hsA
  have hNlt : N < wt ^ 2 ^ K := by rw [← hN]; exact (unhide HQ).lt
  have hPre := hPre (fun x hx hne => hsA.block_lt hne x hx) hn hNlt (unhide HPE).2.1 (unhide HPE).2.2
  have KR := write_any (w1.heap.size + 1) b cnt wt pb 0 K cp (.slice a0 K cp) (unhide HPE).1 hb hb2 (unhide HQ).ch (unhide HQ).wte (by omega) K 0 L L a n c N (fun _ => 0) w2 (by omega) (by omega) hPre.1
  unfold writerV at KR
  refine KR.mono ?_
  rintro _ w3 ⟨rfl, f3, u3⟩
  have hNL : N < b ^ L := by
    rw [← unhide HLe, Nat.pow_mul, (unhide HQ).wte]
    exact hNlt
  have hb3 : Below w.heap.size w w3 := by
    have h1 := (unhide HQ).bel
    have h2 := h1.size
    exact h1.trans ((hPre.2.mono h2).trans (u3.below (by omega) (by have := hPre.2.size; omega)))
  have HF := hide f3
  have HB3 := hide hb3
  have HNe := hide hN
  clear KR f3 u3 hb3 hPre hNlt hsA hxs hN hw2 HQ HPE HLe H wL sh hmk
  go_wp2_with fail
  go_loop [8] (fun iv => ∃ i : Nat, i < L ∧ iv = .int .i64 (i : Nat) ∧ Hid (∀ p, p < i → dgt N b (L - 1 - p) = 0)) (fun iv => L - (intOf iv).toNat)
  case atStart => exact ⟨0, by omega, rfl, fun p hp => by omega⟩
  case round =>
    obtain ⟨i, hi, rfl, HZ⟩ := hrel
    by_cases hst : i < L - 1 ∧ dgt N b (L - 1 - i) = 0
    · obtain ⟨hi1, hz⟩ := hst
      have t1 : (i:Int) < (L:Int) - 1 := by omega
      have f1 := (unhide HF i hi).1
      simp only [hz] at f1
      rw [Nat.zero_add, show chrN 0 = 48 from rfl] at f1
      have HZ2 := hide (show ∀ p, p < i + 1 → dgt N b (L - 1 - p) = 0 from fun p hp => by
        by_cases e : p = i
        · rw [e]; exact hz
        · exact unhide HZ p (by omega))
      clear HZ hz
      go_wp2_with fail
      exact ⟨⟨i + 1, by omega, by go_num, unhide HZ2⟩, by simp [intOf]; omega⟩
    · have hT : TxtOf N b (L - i) := by
        refine ⟨by omega, top_zero (by omega) (by omega) hNL (unhide HZ), ?_⟩
        by_cases e : i < L - 1
        · right
          refine top_ge (by omega) (fun hz => hst ⟨e, ?_⟩)
          rw [show L - 1 - i = L - i - 1 from by omega]
          exact hz
        · left; omega
      have HX := hide (show PrIs xs (b : Nat) (strB (txtL N b (L - i))) 0 from by
        have := PrIs.text (xs := xs) (b := (b : Int)) (L - i) (unhide HM) (by omega) (by rw [unhide HNe]; exact hT)
        rw [unhide HNe] at this
        exact this)
      have hsub : FnB w3 (w1.heap.size + 1) i (L - i) (fun p => chrN (dgt N b (L - i - 1 - p))) := by
        intro p hp
        have := unhide HF (i + p) (by omega)
        simp only at this ⊢
        rw [Nat.zero_add, show L - 1 - (i + p) = L - i - 1 - p from by omega] at this
        exact this
      have kc := (hsub.slB (c := L - i) (Nat.le_refl _) (fun p hp => chr_ok N hb hb2 _)).conv
      change _ = Result.ok (Value.string (strB (txtL N b (L - i)))) w3 at kc
      have f1 := (unhide HF i hi).1
      simp only at f1
      rw [Nat.zero_add] at f1
      have hz1 : dgt N b (L - 1 - i) = 0 → ¬ i < L - 1 := fun h1 h2 => hst ⟨h2, h1⟩
      have hcl := chr_ok N hb hb2 (L - 1 - i)
      have hch := chrN_zero (d := dgt N b (L - 1 - i)) (by have := dgt_lt N (L - 1 - i) (b := b) (by omega); omega)
      generalize strB (txtL N b (L - i)) = S at *
      obtain ⟨q, hq⟩ : ∃ q, L - i = q := ⟨_, rfl⟩
      have hq1 : (L:Int) - (i:Int) = (q:Int) := by omega
      rw [hq] at kc
      have hLi : ¬ L = i := by omega
      generalize dgt N b (L - 1 - i) = D at *
      generalize chrN D = z at *
      clear hst hsub hT HZ
      by_cases hi1 : i < L - 1
      · have t1 : (i:Int) < (L:Int) - 1 := by omega
        have hz48 : z ≠ 48 := fun e => hz1 (hch.1 e) hi1
        have t2 : ((z:Int) == 48) = false := by simp; omega
        have t3 : ¬ (z:Int) = 48 := by omega
        clear hz1 hch
        go_wp2_with fail
        go_ret2
        exact ⟨S, 0, rfl, unhide HX, unhide HB3⟩
      · have t1 : ¬ (i:Int) < (L:Int) - 1 := by omega
        clear hz1 hch
        go_wp2_with fail
        go_ret2
        exact ⟨S, 0, rfl, unhide HX, unhide HB3⟩

set_option maxHeartbeats 4000000 in
/-- natural.Print. -/
theorem nprint_any (a : Option Addr) (n c : Nat) (xs : List Nat) (b : Int) (w : World) (h : Sl w a n c xs) (ox : Ok xs) :
    Calls Try.prog 11 #[.slice a n c, .int .i64 b] w fun e w' => PrPost xs b w e w' := by
  have KM := may_any a n c xs w h
  by_cases m : MayL xs = true
  · by_cases hb : 2 ≤ b ∧ b ≤ 36
    · obtain ⟨k, rfl⟩ : ∃ k : Nat, b = (k : Int) := ⟨b.toNat, by omega⟩
      exact nprint_ok a n c xs k w h ox m (by omega) (by omega)
    · have KB := isBase_any b w
      rw [show decide (2 ≤ b ∧ b ≤ 36) = false from decide_eq_false hb] at KB
      rw [m] at KM
      have KM' := hide KM
      have KB' := hide KB
      have HM := hide m
      have HB := hide hb
      clear KM KB m h hb
      go_enter Try.func11, Try.ntmps11
      go_wp2_with fail
      refine (unhide KM').mono ?_
      rintro _ _ ⟨rfl, hw⟩
      obtain rfl := hw.symm
      clear hw KM'
      go_wp2_with fail
      refine (unhide KB').mono ?_
      rintro _ _ ⟨rfl, hw⟩
      obtain rfl := hw.symm
      clear hw KB'
      go_wp2_with fail
      go_ret2
      exact ⟨_, _, rfl, .base (unhide HM) (unhide HB), Below.refl _ _⟩
  · have m' : MayL xs = false := by simpa using m
    rw [m'] at KM
    have KM' := hide KM
    have HM := hide m'
    clear KM m m' h
    go_enter Try.func11, Try.ntmps11
    go_wp2_with fail
    refine (unhide KM').mono ?_
    rintro _ _ ⟨rfl, hw⟩
    obtain rfl := hw.symm
    clear hw KM'
    go_wp2_with fail
    go_ret2
    exact ⟨_, _, rfl, .nat (unhide HM), Below.refl _ _⟩
end Go.Proofs.Ytlecjjcpidjmhaa
