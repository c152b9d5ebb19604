/- Pr9 -/
import Derived.Test.YtpicknbdfjjflaaGreatDoorPr7
import Derived.Test.YtpicknbdfjjflaaGreatDoorPr8
import Derived.Test.YtpicknbdfjjflaaGreatDoorPa2
import Derived.Test.YtpicknbdfjjflaaGreatDoorWr2
import Derived.ProofKit
import Derived.OpenShut
import Derived.ShutString
import Derived.ChangeOld
import Derived.SizedLaws
import Derived.Test.YtpicknbdfjjflaaGreatDoorWrc
namespace Go.Proofs.YtpicknbdfjjflaaGreatDoor
open Go.RowKit Go.Deep
set_option linter.unusedVariables false
theorem make_b2 (n : Nat) (hn : n ≤ 1000000000) (w : World) : (Instr.makeSlice 106 (.int .i64 (n : Int)) (.int .i64 (n : Int))).run Tryz.prog w = .ok (.slice (some ⟨w.heap.size, 0, none⟩) n n) (w.alloc (.cells (madeCells #[.int .u8 0] n) 5)) :=
  run_make_row' (P := Tryz.prog) 106 5 (.int .u8 0) 1 Tryz.underlying106 Tryz.info_u8 rfl .i64 .i64 n (by omega) (by omega) w

theorem pow_small2 {wt N n k : Nat} (hw : 2 ≤ wt) (hn : n ≤ 2048) (hN : N < 2 ^ (32 * n)) (h : ∀ i, i < k → wt ^ 2 ^ i ≤ N) : k ≤ 16 := by
  rcases Nat.eq_zero_or_pos k with e | e
  · omega
  · have h1 := h (k - 1) (by omega)
    have h2 : 2 ^ 2 ^ (k - 1) ≤ wt ^ 2 ^ (k - 1) := Nat.pow_le_pow_left hw _
    have h3 : 2 ^ 2 ^ (k - 1) < 2 ^ (32 * n) := by omega
    have h4 := (Nat.pow_lt_pow_iff_right (by decide : 1 < 2)).1 h3
    have h5 : 2 ^ (k - 1) < 2 ^ 16 := by
      have : (2:Nat) ^ 16 = 65536 := by decide
      omega
    have := (Nat.pow_lt_pow_iff_right (by decide : 1 < 2)).1 h5
    omega

theorem top_zero {N b L : Nat} (hb : 0 < b) : ∀ {t : Nat}, t ≤ L → N < b ^ L → (∀ p, p < t → dgt N b (L - 1 - p) = 0) → N < b ^ (L - t)
  | 0, _, h, _ => by simpa using h
  | t + 1, ht, h, hz => by
    have h1 := top_zero hb (t := t) (by omega) h (fun p hp => hz p (by omega))
    have h2 := hz t (by omega)
    unfold dgt at h2
    have hp : 0 < b ^ (L - 1 - t) := Nat.pow_pos hb
    rw [show L - t = (L - 1 - t) + 1 from by omega, Nat.pow_succ] at h1
    have h3 : N / b ^ (L - 1 - t) < b := (Nat.div_lt_iff_lt_mul hp).2 (by rw [Nat.mul_comm]; exact h1)
    rw [Nat.mod_eq_of_lt h3] at h2
    have h4 := Nat.div_eq_zero_iff.1 h2
    rw [show L - (t + 1) = L - 1 - t from by omega]
    omega
theorem top_ge {N b j : Nat} (hb : 0 < b) (h : dgt N b j ≠ 0) : b ^ j ≤ N := by
  rcases Nat.lt_or_ge N (b ^ j) with k | k
  · exfalso
    apply h
    unfold dgt
    rw [Nat.div_eq_of_lt k, Nat.zero_mod]
  · exact k

theorem pr_pre (w1 w2 : World) (a : Option Addr) (n c N b cnt wt K pb L : Nat) (a0 : Option Addr) (cp : Nat) (hw2 : ((w1.alloc (.cells #[.int .i64 (b : Nat), .int .i64 (cnt : Nat), .int .u32 (wt : Nat), .slice a0 K cp] 191)).alloc (.cells (madeCells #[.int .u8 0] L) 5)) = w2)
    (hL : cnt * 2 ^ K = L) (hs : Sl w1 a n c (limbs N)) (hsb : ∀ x, a = some x → limbs N ≠ [] → x.block < w1.heap.size) (hn : n ≤ 2048) (hN : N < wt ^ 2 ^ K) (hpb : pb < w1.heap.size)
    (hpe : ∀ i, i < K → ∃ a m, w1.cell? ⟨pb, 0 + i, none⟩ = some (.slice a m m) ∧ Sl w1 a m m (limbs (wt ^ 2 ^ i)) ∧ m ≤ 2048 ∧ ∀ x, a = some x → x.block < w1.heap.size) :
    WrPre w2 K (w1.heap.size + 1) 0 L L a n c N b cnt wt pb 0 K (fun _ => 0) ∧ Below w1.heap.size w1 w2 := by
  have bA : Below w1.heap.size w1 _ := (Below.refl _ _).alloc (Nat.le_refl _) (.cells #[.int .i64 (b : Nat), .int .i64 (cnt : Nat), .int .u32 (wt : Nat), .slice a0 K cp] 191)
  have fB := FnB.made (w1.alloc (.cells #[.int .i64 (b : Nat), .int .i64 (cnt : Nat), .int .u32 (wt : Nat), .slice a0 K cp] 191)) L 5
  have bB := bA.alloc (by simp) (.cells (madeCells #[.int .u8 0] L) 5)
  rw [hw2] at fB bB
  rw [show (w1.alloc (.cells #[.int .i64 (b : Nat), .int .i64 (cnt : Nat), .int .u32 (wt : Nat), .slice a0 K cp] 191)).heap.size = w1.heap.size + 1 from by simp] at fB
  refine ⟨⟨hL.symm, Nat.le_refl _, hs.below bB, fun x hx hne => by have := hsb x hx hne; omega, hn, hN, Nat.le_refl _, ⟨by omega, fun i hi => ?_⟩, fB⟩, bB⟩
  obtain ⟨ai, mi, h1, h2, h3, h4⟩ := hpe i hi
  have hcc : Chg (fun _ => False) w1 w2 := Chg.of_below bB
  exact ⟨ai, mi, hcc.cell (fun h => h) h1, h2.below bB, h3, fun x hx => by have := h4 x hx; omega⟩

set_option maxHeartbeats 16000000 in
theorem nprint_ok (a : Option Addr) (n c : Nat) (xs : List Nat) (b : Nat) (w : World) (h : Sl w a n c xs) (ox : Ok xs) (m : MayL xs = true) (hb : 2 ≤ b) (hb2 : b ≤ 36) :
    Calls Tryz.prog 111 #[.slice a n c, .int .i64 (b : Nat)] w fun e w' => PrPost xs (b : Nat) w e w' := by
  have KM := may_any a n c xs w h
  rw [m] at KM
  have KM' := hide KM
  have KB := isBase_any (b : Int) w
  rw [show decide ((2:Int) ≤ (b:Int) ∧ (b:Int) ≤ 36) = true from by simp; omega] at KB
  have KB' := hide KB
  have hn : n ≤ 2048 := by have := h.len; have := MayL.len m; omega
  have KW := hide (newWriter_any a n c b xs w h ox (MayL.norm m) hn hb hb2)
  have HM := hide m
  have H := hide h
  have HL := hide h.len
  clear KM KB m h
  go_enter Tryz.func111, Tryz.ntmps111
  go_wp2_with fail
  refine (unhide KM').mono ?_
  rintro _ _ ⟨rfl, hw⟩
  obtain rfl := hw.symm
  clear hw KM'
  go_wp2_with fail
  refine (unhide KB').mono ?_
  rintro _ _ ⟨rfl, hw⟩
  obtain rfl := hw.symm
  clear hw KB'
  go_wp2_with fail
  refine (unhide KW).mono ?_
  rintro _ w1 ⟨cnt, wt, K, pv, rfl, hQ⟩
  obtain ⟨pb, a0, cp, rfl, hpv, hpb, hpe⟩ := hQ.pvs
  have hc1 := hQ.ch.pos
  have hc2 := hQ.ch.le
  have hwt2 : 2 ≤ wt := by
    rw [← hQ.wte]
    exact Nat.le_trans hb (Nat.le_trans (by rw [Nat.pow_one]; exact Nat.le_refl _) (Nat.pow_le_pow_right (n := b) (by omega) hc1))
  have hK : K ≤ 16 := pow_small2 hwt2 hn (by
    have h1 := val_lt ox
    rw [unhide HL, pow_limb] at h1
    exact h1) hQ.le
  obtain ⟨L, hL⟩ : ∃ L, cnt * 2 ^ K = L := ⟨_, rfl⟩
  have hL2 : L ≤ 31 * 65536 := by
    rw [← hL]
    exact Nat.mul_le_mul hc2 (Nat.le_trans (Nat.pow_le_pow_right (by decide) hK) (by decide))
  have hL1 : 1 ≤ L := by rw [← hL]; exact Nat.mul_pos hc1 (Nat.pow_pos (by decide))
  have sh : (cnt:Int) * 2 ^ K = (L:Int) := by rw [← hL, Int.natCast_mul, Int.natCast_pow]; rfl
  have wL : IntKind.i64.wrap (L:Int) = (L:Int) := by rw [IntKind.wrap_i64]; omega
  have hmk := make_b2 L (by omega)
  have HLe := hide hL
  clear hL
  have HQ := hide hQ
  have HPE := hide (And.intro hpv (And.intro hpb hpe))
  clear KW hQ hpv hpb hpe
  unfold writerV
  go_wp2_with fail
  obtain ⟨w2, hw2⟩ : ∃ w2, ((w1.alloc (.cells #[.int .i64 (b : Nat), .int .i64 (cnt : Nat), .int .u32 (wt : Nat), .slice a0 K cp] 191)).alloc (.cells (madeCells #[.int .u8 0] L) 5)) = w2 := ⟨_, rfl⟩
  rw [hw2]
  obtain ⟨N, hN⟩ : ∃ N, val xs = N := ⟨_, rfl⟩
  have hxs : xs = limbs N := by rw [← hN]; exact (limbs_val ox (MayL.norm (unhide HM))).symm
  have hsA : Sl w1 a n c (limbs N) := by rw [← hxs]; exact (unhide H).below (unhide HQ).bel
  have hPre := pr_pre w1 w2 a n c N b cnt wt K pb L a0 cp hw2 (unhide HLe) hsA
  have hNlt : N < wt ^ 2 ^ K := by rw [← hN]; exact (unhide HQ).lt
  have hPre := hPre (fun x hx hne => hsA.block_lt hne x hx) hn hNlt (unhide HPE).2.1 (unhide HPE).2.2
  have KR := write_any (w1.heap.size + 1) b cnt wt pb 0 K cp (.slice a0 K cp) (unhide HPE).1 hb hb2 (unhide HQ).ch (unhide HQ).wte (by omega) K 0 L L a n c N (fun _ => 0) w2 (by omega) (by omega) hPre.1
  unfold writerV at KR
  refine KR.mono ?_
  rintro _ w3 ⟨rfl, f3, u3⟩
  have hNL : N < b ^ L := by
    rw [← unhide HLe, Nat.pow_mul, (unhide HQ).wte]
    exact hNlt
  have hb3 : Below w.heap.size w w3 := by
    have h1 := (unhide HQ).bel
    have h2 := h1.size
    exact h1.trans ((hPre.2.mono h2).trans (u3.below (by omega) (by have := hPre.2.size; omega)))
  have HF := hide f3
  have HB3 := hide hb3
  have HNe := hide hN
  clear KR f3 u3 hb3 hPre hNlt hsA hxs hN hw2 HQ HPE HLe H wL sh hmk
  go_wp2_with fail
  go_loop [8] (fun iv => ∃ i : Nat, i < L ∧ iv = .int .i64 (i : Nat) ∧ Hid (∀ p, p < i → dgt N b (L - 1 - p) = 0)) (fun iv => L - (intOf iv).toNat)
  case atStart => exact ⟨0, by omega, rfl, fun p hp => by omega⟩
  case round =>
    obtain ⟨i, hi, rfl, HZ⟩ := hrel
    by_cases hst : i < L - 1 ∧ dgt N b (L - 1 - i) = 0
    · obtain ⟨hi1, hz⟩ := hst
      have t1 : (i:Int) < (L:Int) - 1 := by omega
      have f1 := (unhide HF i hi).1
      simp only [hz] at f1
      rw [Nat.zero_add, show chrN 0 = 48 from rfl] at f1
      have HZ2 := hide (show ∀ p, p < i + 1 → dgt N b (L - 1 - p) = 0 from fun p hp => by
        by_cases e : p = i
        · rw [e]; exact hz
        · exact unhide HZ p (by omega))
      clear HZ hz
      go_wp2_with fail
      exact ⟨⟨i + 1, by omega, by go_num, unhide HZ2⟩, by simp [intOf]; omega⟩
    · have hT : TxtOf N b (L - i) := by
        refine ⟨by omega, top_zero (by omega) (by omega) hNL (unhide HZ), ?_⟩
        by_cases e : i < L - 1
        · right
          refine top_ge (by omega) (fun hz => hst ⟨e, ?_⟩)
          rw [show L - 1 - i = L - i - 1 from by omega]
          exact hz
        · left; omega
      have HX := hide (show PrIs xs (b : Nat) (strB (txtL N b (L - i))) 0 from by
        have := PrIs.text (xs := xs) (b := (b : Int)) (L - i) (unhide HM) (by omega) (by rw [unhide HNe]; exact hT)
        rw [unhide HNe] at this
        exact this)
      have hsub : FnB w3 (w1.heap.size + 1) i (L - i) (fun p => chrN (dgt N b (L - i - 1 - p))) := by
        intro p hp
        have := unhide HF (i + p) (by omega)
        simp only at this ⊢
        rw [Nat.zero_add, show L - 1 - (i + p) = L - i - 1 - p from by omega] at this
        exact this
      have kc := (hsub.slB (c := L - i) (Nat.le_refl _) (fun p hp => chr_ok N hb hb2 _)).conv
      change _ = Result.ok (Value.string (strB (txtL N b (L - i)))) w3 at kc
      have f1 := (unhide HF i hi).1
      simp only at f1
      rw [Nat.zero_add] at f1
      have hz1 : dgt N b (L - 1 - i) = 0 → ¬ i < L - 1 := fun h1 h2 => hst ⟨h2, h1⟩
      have hcl := chr_ok N hb hb2 (L - 1 - i)
      have hch := chrN_zero (d := dgt N b (L - 1 - i)) (by have := dgt_lt N (L - 1 - i) (b := b) (by omega); omega)
      generalize strB (txtL N b (L - i)) = S at *
      obtain ⟨q, hq⟩ : ∃ q, L - i = q := ⟨_, rfl⟩
      have hq1 : (L:Int) - (i:Int) = (q:Int) := by omega
      rw [hq] at kc
      have hLi : ¬ L = i := by omega
      generalize dgt N b (L - 1 - i) = D at *
      generalize chrN D = z at *
      clear hst hsub hT HZ
      by_cases hi1 : i < L - 1
      · have t1 : (i:Int) < (L:Int) - 1 := by omega
        have hz48 : z ≠ 48 := fun e => hz1 (hch.1 e) hi1
        have t2 : ((z:Int) == 48) = false := by simp; omega
        have t3 : ¬ (z:Int) = 48 := by omega
        clear hz1 hch
        go_wp2_with fail
        go_ret2
        exact ⟨S, 0, rfl, unhide HX, unhide HB3⟩
      · have t1 : ¬ (i:Int) < (L:Int) - 1 := by omega
        clear hz1 hch
        go_wp2_with fail
        go_ret2
        exact ⟨S, 0, rfl, unhide HX, unhide HB3⟩

set_option maxHeartbeats 4000000 in
theorem nprint_any (a : Option Addr) (n c : Nat) (xs : List Nat) (b : Int) (w : World) (h : Sl w a n c xs) (ox : Ok xs) :
    Calls Tryz.prog 111 #[.slice a n c, .int .i64 b] w fun e w' => PrPost xs b w e w' := by
  have KM := may_any a n c xs w h
  by_cases m : MayL xs = true
  · by_cases hb : 2 ≤ b ∧ b ≤ 36
    · obtain ⟨k, rfl⟩ : ∃ k : Nat, b = (k : Int) := ⟨b.toNat, by omega⟩
      exact nprint_ok a n c xs k w h ox m (by omega) (by omega)
    · have KB := isBase_any b w
      rw [show decide (2 ≤ b ∧ b ≤ 36) = false from decide_eq_false hb] at KB
      rw [m] at KM
      have KM' := hide KM
      have KB' := hide KB
      have HM := hide m
      have HB := hide hb
      clear KM KB m h hb
      go_enter Tryz.func111, Tryz.ntmps111
      go_wp2_with fail
      refine (unhide KM').mono ?_
      rintro _ _ ⟨rfl, hw⟩
      obtain rfl := hw.symm
      clear hw KM'
      go_wp2_with fail
      refine (unhide KB').mono ?_
      rintro _ _ ⟨rfl, hw⟩
      obtain rfl := hw.symm
      clear hw KB'
      go_wp2_with fail
      go_ret2
      exact ⟨_, _, rfl, .base (unhide HM) (unhide HB), Below.refl _ _⟩
  · have m' : MayL xs = false := by simpa using m
    rw [m'] at KM
    have KM' := hide KM
    have HM := hide m'
    clear KM m m' h
    go_enter Tryz.func111, Tryz.ntmps111
    go_wp2_with fail
    refine (unhide KM').mono ?_
    rintro _ _ ⟨rfl, hw⟩
    obtain rfl := hw.symm
    clear hw KM'
    go_wp2_with fail
    go_ret2
    exact ⟨_, _, rfl, .nat (unhide HM), Below.refl _ _⟩
def mnB (g : Bool) : ByteArray := if g then ⟨#[45]⟩ else ⟨#[]⟩
inductive PrR (g : Bool) (x y : List Nat) : ByteArray → Int → Prop where
  | bad (h : MayR g x y = false) : PrR g x y ⟨#[]⟩ 40
  | whole (n : Nat) (h : MayR g x y = true) (hy : y = [1]) (ht : TxtOf (val x) 10 n) : PrR g x y (mnB g ++ strB (txtL (val x) 10 n)) 0
  | frac (n m : Nat) (h : MayR g x y = true) (hy : y ≠ [1]) (ht : TxtOf (val x) 10 n) (hm : TxtOf (val y) 10 m) : PrR g x y (mnB g ++ (strB (txtL (val x) 10 n) ++ (⟨#[47]⟩ ++ strB (txtL (val y) 10 m)))) 0
def PrRPost (g : Bool) (x y : List Nat) (w : World) (e : Ending) (w' : World) : Prop :=
  ∃ s er, e = .returned (.tuple #[.string s, .int .i64 er]) ∧ PrR g x y s er ∧ Below w.heap.size w w'

theorem txt_len {xs : List Nat} {k : Nat} (ox : Ok xs) (m : MayL xs = true) (h : TxtOf (val xs) 10 k) : (strB (txtL (val xs) 10 k)).size ≤ 70000 := by
  have hl : (strB (txtL (val xs) 10 k)).size = k := by unfold strB; rw [strOfNums_size]; simp only [List.length_map]; exact lst_len _ _
  rw [hl]
  rcases h.ge with e | e
  · omega
  · have h1 := val_lt ox
    have h2 := MayL.len m
    have h3 : 2 ^ (k - 1) ≤ 10 ^ (k - 1) := Nat.pow_le_pow_left (by decide) _
    rw [pow_limb] at h1
    have h4 := (Nat.pow_lt_pow_iff_right (by decide : 1 < 2)).1 (show 2 ^ (k - 1) < 2 ^ (32 * xs.length) by omega)
    omega
theorem mnB_size (g : Bool) : (mnB g).size ≤ 1 := by cases g <;> decide

set_option maxHeartbeats 4000000 in
theorem digits_any (a : Option Addr) (n c : Nat) (xs : List Nat) (w : World) (h : Sl w a n c xs) (ox : Ok xs) (m : MayL xs = true) :
    Calls Tryz.prog 99 #[.slice a n c] w fun e w' => ∃ k, TxtOf (val xs) 10 k ∧ e = .returned (.string (strB (txtL (val xs) 10 k))) ∧ Below w.heap.size w w' := by
  have K := hide (nprint_any a n c xs 10 w h ox)
  have HM := hide m
  clear h m
  go_enter Tryz.func99, Tryz.ntmps99
  go_wp2_with fail
  refine (unhide K).mono ?_
  rintro _ w' ⟨s, er, rfl, hp, hb⟩
  have H := hide (And.intro hp hb)
  clear hp hb K
  go_wp2_with fail
  go_ret
  obtain ⟨hp, hb⟩ := unhide H
  cases hp with
  | nat k => rw [unhide HM] at k; cases k
  | base k kb => exact absurd (by decide) kb
  | text k _ _ ht => exact ⟨k, ht, rfl, hb⟩

theorem ratMinusS_any (g : Bool) (w : World) : Calls Tryz.prog 100 #[.bool g] w fun e w' => e = .returned (.string (mnB g)) ∧ w' = w := by
  cases g
  · go_enter Tryz.func100, Tryz.ntmps100
    go_wp2
    go_ret
    exact ⟨rfl, rfl⟩
  · go_enter Tryz.func100, Tryz.ntmps100
    go_wp2
    go_ret
    exact ⟨rfl, rfl⟩

set_option maxHeartbeats 8000000 in
theorem ratPrint_any (g : Bool) (a b : Option Addr) (n c m d : Nat) (x y : List Nat) (w : World) (hx : Sl w a n c x) (hy : Sl w b m d y) (ox : Ok x) (oy : Ok y) (hT : Tab64 w) :
    Calls Tryz.prog 84 #[ratV g a n c b m d] w fun e w' => PrRPost g x y w e w' := by
  have bx := Box.made w g a n c b m d
  obtain ⟨wa, hwa⟩ : ∃ wa, ratBox w g a n c b m d = wa := ⟨_, rfl⟩
  rw [hwa] at bx
  have hba : Below w.heap.size w wa := by rw [← hwa]; exact (Below.refl _ _).alloc (Nat.le_refl _) _
  unfold ratBox at hwa
  have p0 := bx.d0
  have p1 := bx.d1
  have p2 := bx.d2
  have KM := ratMay_any g a b n c m d x y wa (hx.below hba) (hy.below hba) ox oy (hT.below hba)
  have HBx := hide bx
  have HBa := hide hba
  unfold ratV at KM ⊢
  cases hm : MayR g x y
  · rw [hm] at KM
    have HKM := hide KM
    have HR := hide (PrR.bad hm)
    clear KM hx hy hT bx hba hm
    go_enter Tryz.func84, Tryz.ntmps84
    go_wp2_with fail
    refine (unhide HKM).mono ?_
    rintro _ wb ⟨rfl, hbb⟩
    have HB := hide ((unhide HBa).trans (hbb.mono (unhide HBa).size))
    clear hbb HKM
    go_wp2_with fail
    go_ret2
    exact ⟨_, _, rfl, unhide HR, unhide HB⟩
  · rw [hm] at KM
    obtain ⟨kx, ky, ey, _, _⟩ := MayR.parts hm
    have HKM := hide KM
    have HX := hide (And.intro hx hy)
    have HM := hide (And.intro hm (And.intro kx ky))
    clear KM hx hy hT bx hba hm kx ky ey
    go_enter Tryz.func84, Tryz.ntmps84
    go_wp2_with fail
    refine (unhide HKM).mono ?_
    rintro _ wb ⟨rfl, hbb⟩
    have b2 := (unhide HBx).keep hbb
    have r0 := b2.d0
    have r1 := b2.d1
    have r2 := b2.d2
    have hB := (unhide HBa).trans (hbb.mono (unhide HBa).size)
    have KD := digits_any a n c x wb ((unhide HX).1.below hB) ox (unhide HM).2.1
    have HKD := hide KD
    have HB := hide hB
    have HB2 := hide b2
    clear hbb HKM b2 p0 p1 p2 KD hB
    go_wp2_with fail
    refine (unhide HKD).mono ?_
    rintro _ wc ⟨k1, ht1, rfl, hbc⟩
    have hC := (unhide HB).trans (hbc.mono (unhide HB).size)
    have b3 := (unhide HB2).keep hbc
    have q0 := b3.d0
    have q1 := b3.d1
    have q2 := b3.d2
    have KO := isOne_any b m d y wc ((unhide HX).2.below hC) oy
    have HT1 := hide ht1
    obtain ⟨S1, hS1⟩ : ∃ S1, strB (txtL (val x) 10 k1) = S1 := ⟨_, rfl⟩
    rw [hS1]
    have HS1 := hide hS1
    have l1 := txt_len ox (unhide HM).2.1 ht1
    rw [hS1] at l1
    have l3 := mnB_size g
    obtain ⟨MB, hMB⟩ : ∃ MB, mnB g = MB := ⟨_, rfl⟩
    rw [hMB] at l3
    have KMB : ∀ W, Calls Tryz.prog 100 #[.bool g] W fun e w' => e = .returned (.string MB) ∧ w' = W := fun W => by rw [← hMB]; exact ratMinusS_any g W
    have HMB := hide hMB
    have HKMB := hide KMB
    clear hMB KMB
    by_cases e1 : y = [1]
    · rw [decide_eq_true e1] at KO
      have HKO := hide KO
      have HE := hide e1
      have HC := hide hC
      clear ht1 hS1 hC hbc b3 KO e1 r0 r1 r2 HKD
      go_wp2_with fail
      refine (unhide HKO).mono ?_
      rintro _ _ ⟨rfl, hw⟩
      obtain rfl := hw.symm
      clear hw HKO
      go_wp2_with fail
      refine (unhide HKMB wc).mono ?_
      rintro _ _ ⟨rfl, hw⟩
      obtain rfl := hw.symm
      clear hw
      go_wp2_with fail
      go_ret2
      exact ⟨_, _, rfl, by rw [← unhide HS1, ← unhide HMB]; exact PrR.whole k1 (unhide HM).1 (unhide HE) (unhide HT1), unhide HC⟩
    · rw [decide_eq_false e1] at KO
      have HKO := hide KO
      have HE := hide e1
      have KD2 := hide (digits_any b m d y wc ((unhide HX).2.below hC) oy (unhide HM).2.2)
      have HC := hide hC
      have HB3 := hide b3
      clear ht1 hS1 hC hbc b3 KO e1 r0 r1 r2 HKD
      go_wp2_with fail
      refine (unhide HKO).mono ?_
      rintro _ _ ⟨rfl, hw⟩
      obtain rfl := hw.symm
      clear hw HKO
      go_wp2_with fail
      refine (unhide KD2).mono ?_
      rintro _ wd ⟨k2, ht2, rfl, hbd⟩
      obtain ⟨S2, hS2⟩ : ∃ S2, strB (txtL (val y) 10 k2) = S2 := ⟨_, rfl⟩
      rw [hS2]
      have HS2 := hide (And.intro hS2 ht2)
      have l2 := txt_len oy (unhide HM).2.2 ht2
      rw [hS2] at l2
      have b4 := (unhide HB3).keep hbd
      have s0 := b4.d0
      have HD := hide ((unhide HC).trans (hbd.mono (unhide HC).size))
      clear ht2 hS2 hbd b4 q0 q1 q2 KD2
      go_wp2_with fail
      refine (unhide HKMB wd).mono ?_
      rintro _ _ ⟨rfl, hw⟩
      obtain rfl := hw.symm
      clear hw
      go_wp2_with fail
      go_ret2
      exact ⟨_, _, rfl, by rw [← unhide HS1, ← (unhide HS2).1, ← unhide HMB]; exact PrR.frac k1 k2 (unhide HM).1 (unhide HE) (unhide HT1) (unhide HS2).2, unhide HD⟩
end Go.Proofs.YtpicknbdfjjflaaGreatDoor
namespace Go.Proofs.YtpicknbdfjjflaaGreatDoor
open Go.ChangeShapes Go.WideShapes Go.ChangeAt Go.RowKit Go.Deep
set_option linter.unusedVariables false
structure Fct where
  p : World → Prop
  st : ∀ {w w' : World}, Below w.heap.size w w' → p w → p w'
structure Fcts (w0 w : World) (L : List Fct) : Prop where
  bel : Below w0.heap.size w0 w
  all : ∀ f ∈ L, f.p w
theorem Fcts.step {w0 w w' : World} {L : List Fct} (h : Fcts w0 w L) (k : Below w.heap.size w w') : Fcts w0 w' L :=
  ⟨h.bel.trans (k.mono h.bel.size), fun f hf => f.st k (h.all f hf)⟩
theorem Fcts.add {w0 w : World} {L : List Fct} (h : Fcts w0 w L) (f : Fct) (hf : f.p w) : Fcts w0 w (f :: L) :=
  ⟨h.bel, fun g hg => by rcases List.mem_cons.1 hg with rfl | hg; exact hf; exact h.all g hg⟩
structure Nm (w : World) (a : Option Addr) (n c : Nat) (x : List Nat) (b : Option Addr) (m d : Nat) (y : List Nat) : Prop where
  num : Sl w a n c x
  den : Sl w b m d y
structure Tri (w : World) (R : Nat) (v0 v1 v2 : Value) : Prop where
  c0 : w.cell? ⟨R, 0, none⟩ = some v0
  c1 : w.cell? ⟨R, 1, none⟩ = some v1
  c2 : w.cell? ⟨R, 2, none⟩ = some v2
  f0 : w.frozen? ⟨R, 0, none⟩ = false
  f1 : w.frozen? ⟨R, 1, none⟩ = false
  f2 : w.frozen? ⟨R, 2, none⟩ = false
  lt : R < w.heap.size
theorem Tri.keep {w w' : World} {R : Nat} {v0 v1 v2 : Value} (h : Tri w R v0 v1 v2) (k : Below w.heap.size w w') : Tri w' R v0 v1 v2 := by
  have hc : ∀ i, w'.cell? ⟨R, i, none⟩ = w.cell? ⟨R, i, none⟩ := fun i => by unfold World.cell?; simp only; rw [k.block _ h.lt]
  have hf : ∀ i, w'.frozen? ⟨R, i, none⟩ = w.frozen? ⟨R, i, none⟩ := fun i => by unfold World.frozen?; simp only; rw [k.block _ h.lt]
  exact ⟨(hc 0).trans h.c0, (hc 1).trans h.c1, (hc 2).trans h.c2, (hf 0).trans h.f0, (hf 1).trans h.f1, (hf 2).trans h.f2, Nat.lt_of_lt_of_le h.lt k.size⟩
theorem Tri.made (w : World) (v0 v1 v2 : Value) (e : TypeId) : Tri (w.alloc (.cells #[v0, v1, v2] e)) w.heap.size v0 v1 v2 := by
  refine ⟨?_, ?_, ?_, ?_, ?_, ?_, ?_⟩ <;> simp
def fN (a : Option Addr) (n c : Nat) (x : List Nat) (b : Option Addr) (m d : Nat) (y : List Nat) : Fct := ⟨fun w => Nm w a n c x b m d y, fun k h => ⟨h.num.below k, h.den.below k⟩⟩
def fR (R : Nat) (v0 v1 v2 : Value) : Fct := ⟨fun w => Tri w R v0 v1 v2, fun k h => h.keep k⟩
theorem Fcts.n {w0 w : World} {L : List Fct} (h : Fcts w0 w L) (a : Option Addr) (n c : Nat) (x : List Nat) (b : Option Addr) (m d : Nat) (y : List Nat) (hm : fN a n c x b m d y ∈ L) : Nm w a n c x b m d y := h.all _ hm
theorem Fcts.r {w0 w : World} {L : List Fct} (h : Fcts w0 w L) (R : Nat) (v0 v1 v2 : Value) (hm : fR R v0 v1 v2 ∈ L) : Tri w R v0 v1 v2 := h.all _ hm
theorem Fcts.box {w0 w : World} {L : List Fct} (h : Fcts w0 w L) (v0 v1 v2 : Value) (e : TypeId) : Fcts w0 (w.alloc (.cells #[v0, v1, v2] e)) (fR w.heap.size v0 v1 v2 :: L) :=
  (h.step ((Below.refl _ _).alloc (Nat.le_refl _) _)).add (fR w.heap.size v0 v1 v2) (Tri.made _ _ _ _ _)

theorem law_own : ownKnob Tryz.prog.godebug = none := by kernel_rfl
theorem law_laid : laidOutB Tryz.prog = true := by kernel_rfl
theorem law_bytesL : Tryz.prog.bytesOf 87 = 4 := by kernel_rfl
theorem law_cellsL : Tryz.prog.cellsOf 87 = 1 := by kernel_rfl
theorem law_cellsB : Tryz.prog.cellsOf 4 = 1 := by kernel_rfl
theorem law_cellsN : Tryz.prog.cellsOf 51 = 1 := by kernel_rfl
theorem law_cellsR : Tryz.prog.cellsOf 53 = 3 := by kernel_rfl
end Go.Proofs.YtpicknbdfjjflaaGreatDoor
namespace Go.Proofs.YtpicknbdfjjflaaGreatDoor
open Go.RowKit Go.Deep
set_option linter.unusedVariables false
structure Nq where
  g : Bool
  a : Option Addr
  n : Nat
  c : Nat
  x : List Nat
  b : Option Addr
  m : Nat
  d : Nat
  y : List Nat
structure SlQ (w : World) (a : Option Addr) (n c : Nat) (ps : List Nq) : Prop where
  len : ps.length = n
  le : n ≤ c
  cells : ps = [] ∨ ∃ b off, a = some ⟨b, off, none⟩ ∧ ∀ i p, ps[i]? = some p → w.cell? ⟨b, off + i * 3, none⟩ = some (.bool p.g) ∧ w.cell? ⟨b, off + i * 3 + 1, none⟩ = some (.slice p.a p.n p.c) ∧ w.cell? ⟨b, off + i * 3 + 2, none⟩ = some (.slice p.b p.m p.d)
  each : ∀ p ∈ ps, (Sl w p.a p.n p.c p.x ∧ Sl w p.b p.m p.d p.y) ∧ Ok p.x ∧ Ok p.y
theorem SlQ.below {w w' : World} {a : Option Addr} {n c : Nat} {ps : List Nq} (h : SlQ w a n c ps) (k : Below w.heap.size w w') : SlQ w' a n c ps := by
  refine ⟨h.len, h.le, ?_, fun p hp => ⟨⟨(h.each p hp).1.1.below k, (h.each p hp).1.2.below k⟩, (h.each p hp).2⟩⟩
  rcases h.cells with e | ⟨b, off, e, hc⟩
  · exact .inl e
  · refine .inr ⟨b, off, e, fun i p hp => ?_⟩
    obtain ⟨h1, h2, h3⟩ := hc i p hp
    exact ⟨(k.cell (World.block_lt_of_cell? _ _ h1)).trans h1, (k.cell (World.block_lt_of_cell? _ _ h2)).trans h2, (k.cell (World.block_lt_of_cell? _ _ h3)).trans h3⟩
theorem SlQ.at' {w : World} {a : Option Addr} {n c : Nat} {ps : List Nq} (h : SlQ w a n c ps) {i : Nat} (hi : i < n) :
    ∃ b off p, a = some ⟨b, off, none⟩ ∧ ps[i]? = some p ∧ (w.cell? ⟨b, off + i * 3, none⟩ = some (.bool p.g) ∧ w.cell? ⟨b, off + i * 3 + 1, none⟩ = some (.slice p.a p.n p.c) ∧ w.cell? ⟨b, off + i * 3 + 2, none⟩ = some (.slice p.b p.m p.d)) ∧ (Sl w p.a p.n p.c p.x ∧ Sl w p.b p.m p.d p.y) ∧ Ok p.x ∧ Ok p.y := by
  have hl := h.len
  have hi' : i < ps.length := by omega
  have hp : ps[i]? = some ps[i] := List.getElem?_eq_getElem hi'
  rcases h.cells with e | ⟨b, off, e, hc⟩
  · rw [e] at hl; simp at hl; omega
  · exact ⟨b, off, ps[i], e, hp, hc i _ hp, h.each _ (List.getElem_mem hi')⟩
theorem newR_of {w wk wf : World} {R : Nat} {aN aD : Option Addr} {mN cN mD cD : Nat} {xs ys : List Nat} (hR : w.heap.size ≤ R) (hRk : R < wk.heap.size) (bel : Below w.heap.size w wk) (sN : Sl wk aN mN cN xs) (nN : NewAt (R + 1) aN) (sD : Sl wk aD mD cD ys) (nD : NewAt (R + 1) aD) (c4 : Chg (fun j => j = R) wk wf) (g : Bool) :
    NewR w wf g xs ys (ratV g aN mN cN aD mD cD) :=
  ⟨aN, mN, cN, aD, mD, cD, rfl, sN.chg c4 (fun x hx _ h => by have := nN x hx; omega), sD.chg c4 (fun x hx _ h => by have := nD x hx; omega), fun x hx => by have := nN x hx; omega, fun x hx => by have := nD x hx; omega, bel.trans (c4.below bel.size (fun k hk => by omega))⟩
end Go.Proofs.YtpicknbdfjjflaaGreatDoor
