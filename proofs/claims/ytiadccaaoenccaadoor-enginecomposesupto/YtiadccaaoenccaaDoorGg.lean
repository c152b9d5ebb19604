/- Gg -/
import Derived.Test.YtiadccaaoenccaaDoorRd1
import Derived.Test.YtiadccaaoenccaaDoorGe
import Derived.Test.YtiadccaaoenccaaDoorDv7
import Derived.Deep.LoopGhost
namespace Go.Proofs.YtiadccaaoenccaaDoor
open Go.RowKit Go.Deep
set_option linter.unusedVariables false
def tab64 : List Int := [0, 1, 56, 2, 57, 49, 28, 3, 61, 58, 42, 50, 38, 29, 17, 4, 62, 47, 59, 36, 45, 43, 51, 22, 53, 39, 33, 30, 24, 18, 12, 5, 63, 55, 48, 27, 60, 41, 37, 16, 46, 35, 44, 21, 52, 32, 23, 11, 54, 26, 40, 15, 34, 20, 31, 10, 25, 14, 19, 9, 13, 8, 7, 6]
def Tab64 (w : World) : Prop := ∀ i : Nat, i < 64 → w.cell? ⟨1, i, none⟩ = some (.int .u8 (tab64.getD i 0))
theorem Tab64.below {w w' : World} (h : Tab64 w) (k : Below w.heap.size w w') : Tab64 w' := by
  intro i hi
  have h1 := h i hi
  rw [k.cell (World.block_lt_of_cell? _ _ h1)]
  exact h1
theorem tz_index64 : ∀ k : Fin 64, tab64.getD (2 ^ k.val * 285870213051353865 % 18446744073709551616 / 288230376151711744) 0 = (k.val : Int) ∧ 2 ^ k.val * 285870213051353865 % 18446744073709551616 / 288230376151711744 < 64 := by decide +kernel

def tz64 (x : Nat) : Nat := Lib.ntzAux 64 x
theorem p64 : (2:Nat) ^ 64 = 18446744073709551616 := by decide
theorem neg_nat64 {x : Nat} (h0 : 0 < x) (hx : x < 18446744073709551616) : ∃ nx : Nat, nx < 18446744073709551616 ∧ x + nx = 18446744073709551616 ∧ (-(x:Int)) % 18446744073709551616 = (nx : Int) := ⟨18446744073709551616 - x, by omega, by omega, by omega⟩
theorem tz_facts64 {x : Nat} (h0 : 0 < x) (hx : x < 18446744073709551616) : ∃ nx P ix : Nat, (-(x:Int)) % 18446744073709551616 = (nx : Int) ∧ nx < 18446744073709551616 ∧ P < 18446744073709551616 ∧ bits .and .u64 (x : Int) (nx : Int) = (P : Int) ∧ ix < 64 ∧ (P : Int) * 285870213051353865 % 18446744073709551616 / 288230376151711744 = (ix : Int) ∧ tab64.getD ix 0 = ((tz64 x : Nat) : Int) ∧ tz64 x < 64 := by
  obtain ⟨nx, n1, n2, n3⟩ := neg_nat64 h0 hx
  have hx' : x < 2 ^ 64 := by rw [p64]; exact hx
  have hl := tz_lt 64 x h0 hx'
  have ha := tz_and 64 x h0 hx'
  have e : 2 ^ 64 - x = nx := by rw [p64]; omega
  rw [e] at ha
  have e1 := u64_and_nat x nx hx n1
  rw [ha] at e1
  have hi := tz_index64 ⟨Lib.ntzAux 64 x, hl⟩
  have hPb : 2 ^ Lib.ntzAux 64 x < 2 ^ 64 := Nat.pow_lt_pow_right (by decide) hl
  rw [p64] at hPb
  refine ⟨nx, 2 ^ Lib.ntzAux 64 x, _, n3, n1, hPb, e1, hi.2, ?_, hi.1, hl⟩
  simp only [Int.natCast_ediv, Int.natCast_emod, Int.natCast_mul]
  rfl

set_option maxHeartbeats 4000000 in
theorem tz64_any (x : Nat) (w : World) (h0 : 0 < x) (hx : x < 18446744073709551616) (hT : Tab64 w) :
    Calls Tryd.prog 81 #[.int .u64 (x : Nat)] w fun e w' => e = .returned (.int .i64 (tz64 x : Nat)) ∧ w' = w := by
  obtain ⟨nx, P, ix, e0, hnx, hPb, e1, hi2, e2, e3, hl⟩ := tz_facts64 h0 hx
  have c1 := hT ix hi2
  rw [e3] at c1
  clear e3 hT
  have t1 : ((x:Int) == 0) = false := by simp; omega
  have t2 : ¬ (x:Int) = 0 := by omega
  generalize tz64 x = t at *
  have w0 : IntKind.u64.wrap (-(x:Int)) = (nx:Int) := by rw [IntKind.wrap_u64]; exact e0
  have w1 : IntKind.u64.wrap ((P:Int) * 285870213051353865) / 288230376151711744 = (ix:Int) := by rw [IntKind.wrap_u64]; exact e2
  have w2 : IntKind.u64.wrap ((P:Int) * 285870213051353865) = (P:Int) * 285870213051353865 % 18446744073709551616 := IntKind.wrap_u64 _
  clear e0 w1
  generalize hy : (P:Int) * 285870213051353865 % 18446744073709551616 = yy at *
  go_enter Tryd.func81, Tryd.ntmps81
  go_wp2
  go_ret
  exact ⟨rfl, rfl⟩
-- numbers and their odd parts
theorem cop2 {a : Nat} (h : a % 2 = 1) : Nat.Coprime 2 a := by
  unfold Nat.Coprime
  rw [Nat.gcd_rec, h, Nat.gcd_one_left]
theorem gcd_odd {a b : Nat} (h : a % 2 = 1) (j : Nat) : Nat.gcd a (2 ^ j * b) = Nat.gcd a b := Nat.Coprime.gcd_mul_left_cancel_right b ((cop2 h).pow_left j)
theorem div_pow {x s : Nat} (h : ∀ i, i < s → x / 2 ^ i % 2 = 0) : 2 ^ s * (x / 2 ^ s) = x := by
  induction s with
  | zero => simp
  | succ s ih =>
    have h1 := ih (fun i hi => h i (by omega))
    have h2 := h s (by omega)
    have e : x / 2 ^ (s + 1) = x / 2 ^ s / 2 := by rw [Nat.pow_succ, Nat.div_div_eq_div_mul]
    rw [e, Nat.pow_succ, Nat.mul_assoc]
    have : 2 * (x / 2 ^ s / 2) = x / 2 ^ s := by omega
    rw [this]
    exact h1
theorem or_bit0 {x y i : Nat} (h : (x ||| y) / 2 ^ i % 2 = 0) : x / 2 ^ i % 2 = 0 ∧ y / 2 ^ i % 2 = 0 := by
  have e := Nat.testBit_or x y i
  rw [Nat.testBit_eq_decide_div_mod_eq, Nat.testBit_eq_decide_div_mod_eq, Nat.testBit_eq_decide_div_mod_eq, h] at e
  simp at e
  omega
theorem or_bit1 {x y i : Nat} (h : (x ||| y) / 2 ^ i % 2 = 1) : x / 2 ^ i % 2 = 1 ∨ y / 2 ^ i % 2 = 1 := by
  have e := Nat.testBit_or x y i
  rw [Nat.testBit_eq_decide_div_mod_eq, Nat.testBit_eq_decide_div_mod_eq, Nat.testBit_eq_decide_div_mod_eq, h] at e
  simp at e
  omega
theorem tz_odd {x : Nat} (h0 : 0 < x) (hx : x < 18446744073709551616) : x / 2 ^ tz64 x % 2 = 1 ∧ 2 ^ tz64 x * (x / 2 ^ tz64 x) = x := by
  have h := tz_bit 64 x h0 (by rw [p64]; exact hx)
  exact ⟨h.1, div_pow h.2⟩

theorem word_start {a b : Nat} (ha : 0 < a) (hb : 0 < b) (ha2 : a < 18446744073709551616) (hb2 : b < 18446744073709551616) : 2 ^ tz64 (a ||| b) * Nat.gcd (a / 2 ^ tz64 a) b = Nat.gcd a b := by
  have ho : 0 < (a ||| b) := Nat.lt_of_lt_of_le ha Nat.left_le_or
  have ho2 : (a ||| b) < 18446744073709551616 := by
    have := Nat.or_lt_two_pow (n := 64) (x := a) (y := b) (by rw [p64]; exact ha2) (by rw [p64]; exact hb2)
    rwa [p64] at this
  have h := tz_bit 64 (a ||| b) ho (by rw [p64]; exact ho2)
  have hA := tz_odd ha ha2
  change (a ||| b) / 2 ^ tz64 (a ||| b) % 2 = 1 ∧ (∀ s, s < tz64 (a ||| b) → (a ||| b) / 2 ^ s % 2 = 0) at h
  generalize tz64 (a ||| b) = t at *
  have ea : 2 ^ t * (a / 2 ^ t) = a := div_pow (fun i hi => (or_bit0 (h.2 i hi)).1)
  have eb : 2 ^ t * (b / 2 ^ t) = b := div_pow (fun i hi => (or_bit0 (h.2 i hi)).2)
  have hone := or_bit1 h.1
  generalize hα : a / 2 ^ t = α at *
  generalize hβ : b / 2 ^ t = β at *
  generalize hi : tz64 a = i at *
  generalize ha' : a / 2 ^ i = a' at *
  have e1 : Nat.gcd a b = 2 ^ t * Nat.gcd α β := by rw [← Nat.gcd_mul_left, ea, eb]
  have e2 : Nat.gcd a' b = Nat.gcd a' β := by rw [← eb]; exact gcd_odd hA.1 t
  rw [e1, e2]
  congr 1
  -- α = 2 ^ (i - t) a'
  have hti : t ≤ i := by
    rcases Nat.lt_or_ge i t with k | k
    · exfalso
      have h0 := (or_bit0 (h.2 i k)).1
      rw [ha'] at h0
      omega
    · exact k
  have e3 : α = 2 ^ (i - t) * a' := by
    have h1 : 2 ^ t * α = 2 ^ t * (2 ^ (i - t) * a') := by rw [ea, ← Nat.mul_assoc, ← Nat.pow_add, show t + (i - t) = i from by omega, hA.2]
    exact Nat.eq_of_mul_eq_mul_left (Nat.two_pow_pos t) h1
  rcases hone with k | k
  · have h4 : i - t = 0 := by
      rcases Nat.eq_zero_or_pos (i - t) with z | z
      · exact z
      · exfalso
        obtain ⟨j, hj⟩ : ∃ j, i - t = j + 1 := ⟨i - t - 1, by omega⟩
        rw [e3, hj, Nat.pow_succ, Nat.mul_comm (2 ^ j) 2, Nat.mul_assoc] at k
        omega
    rw [e3, h4, Nat.pow_zero, Nat.one_mul]
  · rw [e3, Nat.gcd_comm, Nat.gcd_comm (2 ^ (i - t) * a')]
    exact (gcd_odd k _).symm

theorem word_round {a b : Nat} (ha : a % 2 = 1) (h0 : 0 < b) (hb : b < 18446744073709551616) : Nat.gcd a (b / 2 ^ tz64 b) = Nat.gcd a b ∧ b / 2 ^ tz64 b % 2 = 1 ∧ b / 2 ^ tz64 b ≤ b ∧ 0 < b / 2 ^ tz64 b := by
  have h := tz_odd h0 hb
  refine ⟨?_, h.1, Nat.div_le_self _ _, ?_⟩
  · rw [← gcd_odd ha (tz64 b), h.2]
  · have := h.1
    generalize b / 2 ^ tz64 b = z at this ⊢
    omega

set_option maxHeartbeats 8000000 in
theorem wordDivisor_any (a b : Nat) (w : World) (ha : a < 18446744073709551616) (hb : b < 18446744073709551616) (hT : Tab64 w) :
    Calls Tryd.prog 74 #[.int .u64 (a : Nat), .int .u64 (b : Nat)] w fun e w' => e = .returned (.int .u64 (Nat.gcd a b : Nat)) ∧ ∃ k, w' = w.drewN k := by
  have HT := hide hT
  clear hT
  by_cases ha0 : a = 0
  · subst ha0
    have e1 := u64_or_nat 0 b (by decide) hb
    rw [Nat.zero_or] at e1
    rw [Nat.gcd_zero_left]
    have e2 : bits .or .u64 0 (b : Int) = (b : Int) := e1
    go_enter Tryd.func74, Tryd.ntmps74
    go_wp2_with fail
    go_ret
    exact ⟨rfl, 0, rfl⟩
  · have t1 : ((a:Int) == 0) = false := by simp; omega
    have t2 : ¬ (a:Int) = 0 := by omega
    by_cases hb0 : b = 0
    · subst hb0
      have e1 := u64_or_nat a 0 ha (by decide)
      rw [Nat.or_zero] at e1
      rw [Nat.gcd_zero_right]
      have e2 : bits .or .u64 (a : Int) 0 = (a : Int) := e1
      go_enter Tryd.func74, Tryd.ntmps74
      go_wp2_with fail
      go_ret
      exact ⟨rfl, 0, rfl⟩
    · have t3 : ((b:Int) == 0) = false := by simp; omega
      have t4 : ¬ (b:Int) = 0 := by omega
      have e1 := u64_or_nat a b ha hb
      have ho : 0 < (a ||| b) := Nat.lt_of_lt_of_le (by omega) Nat.left_le_or
      have ho2 : (a ||| b) < 18446744073709551616 := by
        have := Nat.or_lt_two_pow (n := 64) (x := a) (y := b) (by rw [p64]; exact ha) (by rw [p64]; exact hb)
        rwa [p64] at this
      have KO := hide (fun v hv => tz64_any (a ||| b) v ho ho2 hv)
      have KA := hide (fun v hv => tz64_any a v (by omega) ha hv)
      have HS := hide (word_start (by omega) (by omega) ha hb)
      have hA := tz_odd (show 0 < a by omega) ha
      have hl1 : tz64 (a ||| b) < 64 := tz_lt 64 _ ho (by rw [p64]; exact ho2)
      have hl2 : tz64 a < 64 := tz_lt 64 _ (by omega) (by rw [p64]; exact ha)
      have hle : Nat.gcd a b ≤ a := Nat.gcd_le_left b (by omega)
      generalize Nat.gcd a b = G at *
      generalize tz64 (a ||| b) = t at *
      generalize a ||| b = o at *
      have e5 : (a:Int) / 2 ^ tz64 a = ((a / 2 ^ tz64 a : Nat) : Int) := by rw [Int.natCast_ediv, Int.natCast_pow]; rfl
      have hab : a / 2 ^ tz64 a ≤ a := Nat.div_le_self _ _
      generalize a / 2 ^ tz64 a = a' at *
      generalize tz64 a = i at *
      have HA := hide hA
      clear hA
      go_enter Tryd.func74, Tryd.ntmps74
      go_wp2_with fail
      refine (unhide KO _ (unhide HT)).mono ?_
      rintro e w' ⟨rfl, hw⟩
      obtain rfl := hw.symm
      clear hw KO
      go_wp2_with fail
      refine (unhide KA _ (unhide HT)).mono ?_
      rintro e w' ⟨rfl, hw⟩
      obtain rfl := hw.symm
      clear hw KA
      go_wp2_with fail
      go_loop [0, 1] (fun av bv => ∃ x y : Nat, av = .int .u64 (x : Nat) ∧ bv = .int .u64 (y : Nat) ∧ x % 2 = 1 ∧ x < 18446744073709551616 ∧ y < 18446744073709551616 ∧ Hid (2 ^ t * Nat.gcd x y = G)) (fun av bv => (intOf av).toNat + (intOf bv).toNat)
      case atStart => exact ⟨a', b, rfl, rfl, (unhide HA).1, by omega, hb, unhide HS⟩
      case round =>
        clear HS HA
        obtain ⟨x, y, rfl, rfl, hx1, hx2, hy2, HG⟩ := hrel
        by_cases hy0 : y = 0
        · subst hy0
          have hg : 2 ^ t * x = G := by have := unhide HG; rwa [Nat.gcd_zero_right] at this
          have es : (x:Int) * 2 ^ t = (G : Int) := by rw [← hg, Int.natCast_mul, Int.natCast_pow, Int.mul_comm]; rfl
          have hGb : G < 18446744073709551616 := by omega
          have ew : IntKind.u64.wrap ((x:Int) * 2 ^ t) = (G:Int) := by rw [es, IntKind.wrap_u64]; omega
          have em : (x:Int) * 2 ^ t % 18446744073709551616 = (G:Int) := by rw [es]; omega
          clear HG hg
          go_wp2_with fail
          go_ret
          exact ⟨rfl, 0, rfl⟩
        · have s1 : ((y:Int) == 0) = false := by simp; omega
          have s2 : ¬ (y:Int) = 0 := by omega
          have KY := hide (tz64_any y w (by omega) hy2 (unhide HT))
          have hl3 : tz64 y < 64 := tz_lt 64 _ (by omega) (by rw [p64]; exact hy2)
          have hr := word_round hx1 (show 0 < y by omega) hy2
          have e6 : (y:Int) / 2 ^ tz64 y = ((y / 2 ^ tz64 y : Nat) : Int) := by rw [Int.natCast_ediv, Int.natCast_pow]; rfl
          have HR := hide hr.1
          have hz1 := hr.2.1
          have hz2 := hr.2.2.1
          have hz3 := hr.2.2.2
          clear hr
          generalize y / 2 ^ tz64 y = z at *
          generalize tz64 y = j at *
          by_cases hsw : z < x
          · have hsw' : (z:Int) < (x:Int) := by omega
            have HG2 := hide (show 2 ^ t * Nat.gcd z (x - z) = G from by rw [Nat.gcd_sub_self_right (by omega), Nat.gcd_comm, unhide HR]; exact unhide HG)
            have es : (x:Int) - (z:Int) = ((x - z : Nat) : Int) := by omega
            clear HG HR
            go_wp2_with fail
            refine (unhide KY).mono ?_
            rintro e w' ⟨rfl, hw⟩
            obtain rfl := hw.symm
            clear hw KY
            go_wp2_with fail
            exact ⟨⟨z, x - z, rfl, rfl, hz1, by omega, by omega, unhide HG2⟩, by simp only [intOf]; omega⟩
          · have hsw' : ¬ (z:Int) < (x:Int) := by omega
            have HG2 := hide (show 2 ^ t * Nat.gcd x (z - x) = G from by rw [Nat.gcd_sub_self_right (by omega), unhide HR]; exact unhide HG)
            have es : (z:Int) - (x:Int) = ((z - x : Nat) : Int) := by omega
            clear HG HR
            go_wp2_with fail
            refine (unhide KY).mono ?_
            rintro e w' ⟨rfl, hw⟩
            obtain rfl := hw.symm
            clear hw KY
            go_wp2_with fail
            exact ⟨⟨x, z - x, rfl, rfl, hx1, by omega, by omega, unhide HG2⟩, by simp only [intOf]; omega⟩
open Go.RowKit Go.Deep
set_option linter.unusedVariables false

structure DgR (wr w : World) (G k : Nat) (aa : Option Addr) (na : Nat) (xa : List Nat) (ab : Option Addr) (nb : Nat) (xb : List Nat) : Prop where
  sa : Sl wr aa na na xa
  sb : Sl wr ab nb nb xb
  oa : Ok xa
  ob : Ok xb
  ma : Norm xa
  mb : Norm xb
  fa : Fz wr aa na
  fb : Fz wr ab nb
  len : na ≤ 2048
  le : val xb ≤ val xa
  gcd : Nat.gcd (val xa) (val xb) = G
  ha : NewAt w.heap.size aa
  hb : NewAt w.heap.size ab
  ne : ∀ x y, aa = some x → ab = some y → xb ≠ [] → x.block ≠ y.block
  bel : Below w.heap.size w wr
  lt : val xb ≤ k

theorem Fz.below {w w' : World} {a : Option Addr} {n : Nat} {xs : List Nat} (h : Fz w a n) (hs : Sl w a n n xs) (k : Below w.heap.size w w') : Fz w' a n := by
  intro x hx i hi
  have hne : xs ≠ [] := by intro e; have := hs.len; rw [e] at this; simp at this; omega
  have hl := hs.block_lt hne x hx
  exact (k.frozen (p := ⟨x.block, x.off + i, none⟩) hl).trans (h x hx i hi)

theorem sl_fn {w : World} {b off n m c : Nat} {xs : List Nat} (h : Sl w (some ⟨b, off, none⟩) n c xs) (hf : Fz w (some ⟨b, off, none⟩) n) (hm : m ≤ n) (hx : xs ≠ []) : Fn w b off m (fun i => xs.getD i 0) := by
  intro i hi
  obtain ⟨b', o', e, hc⟩ := h.cells.resolve_left hx
  cases e
  exact ⟨hc i (by rw [h.len]; omega), hf _ rfl i (by omega)⟩

theorem val_parts {xs : List Nat} {n m : Nat} (hl : xs.length = n) (hm : m ≤ n) : ∃ h, val xs = valF (fun i => xs.getD i 0) m + 4294967296 ^ m * h := by
  have e := valF_add (fun i => xs.getD i 0) m (n - m)
  rw [show m + (n - m) = n from by omega, ← hl, valF_list] at e
  exact ⟨_, e⟩

theorem DgR.walked {wr w w1 w2 : World} {G k : Nat} {ba oa na : Nat} {xa : List Nat} {bb ob nb : Nat} {xb : List Nat} (h : DgR wr w G k (some ⟨ba, oa, none⟩) na xa (some ⟨bb, ob, none⟩) nb xb) (k1 : Below wr.heap.size wr w1) {R0 R1 : Nat} {e : Ending} (hw : WkPost w1 ba bb R0 R1 e w2) (hg : Nat.gcd R0 R1 = Nat.gcd (val xa) (val xb)) (lt : R1 < R0) (le : R0 ≤ val xb) (hbl : ba < w1.heap.size ∧ bb < w1.heap.size) :
    ∃ a1 m1 z1 a2 m2 z2, e = .returned (.tuple #[.slice a1 m1 m1, .slice a2 m2 m2]) ∧ R1 < k ∧ DgR w2 w G R1 a1 m1 z1 a2 m2 z2 := by
  obtain ⟨a1, m1, z1, a2, m2, z2, rfl, s1, r1, f1, s2, r2, f2, e1, e2, hne, hc⟩ := hw
  have hba : w.heap.size ≤ ba := h.ha _ rfl
  have hbb : w.heap.size ≤ bb := h.hb _ rfl
  have hB1 := h.bel.trans (k1.mono h.bel.size)
  have hB2 : Below w.heap.size w w2 := hB1.trans (hc.below hB1.size (by intro j hj hs; rcases hs with rfl | rfl <;> omega))
  have hlen : m1 ≤ 2048 := by
    have hb : (val xb) < 4294967296 ^ nb := by have := val_lt h.ob; rwa [h.sb.len] at this
    have h1 : z1.length ≤ nb := rep_len_leS r1 (by omega)
    have h2 : xb.length ≤ xa.length := len_le_of_val h.oa h.ob h.mb h.le
    have h3 := s1.len
    have h4 := h.sa.len
    have h5 := h.sb.len
    have h6 := h.len
    omega
  refine ⟨a1, m1, z1, a2, m2, z2, rfl, by have := h.lt; omega, s1, s2, r1.ok, r2.ok, r1.norm, r2.norm, f1, f2, hlen, by rw [r1.val, r2.val]; omega, by rw [r1.val, r2.val, hg, h.gcd], ?_, ?_, fun x y hx hy _ => hne x y hx hy, hB2, by rw [r2.val]; omega⟩
  · intro x hx; rcases e1 x hx with e | e <;> omega
  · intro x hx; rcases e2 x hx with e | e <;> omega

theorem DgR.divided {wr w w1 w2 : World} {G k : Nat} {aa ab : Option Addr} {na nb : Nat} {xa xb : List Nat} (h : DgR wr w G k aa na xa ab nb xb) (k1 : Below wr.heap.size wr w1) {e : Ending} (hq : QRF w1 w2 (val xa / val xb) (val xa % val xb) e) (hp : 0 < val xb) :
    ∃ aq mq ar mr zr, e = .returned (.tuple #[.slice aq mq mq, .slice ar mr mr]) ∧ val xa % val xb < k ∧ DgR w2 w G (val xa % val xb) ab nb xb ar mr zr := by
  obtain ⟨aq, mq, zq, ar, mr, zr, rfl, s1, r1, n1, s2, r2, n2, hne, hB, hf⟩ := hq
  have hB1 := h.bel.trans (k1.mono h.bel.size)
  have hml := Nat.mod_lt (val xa) hp
  have sb1 := h.sb.below k1
  have fb1 := h.fb.below h.sb k1
  have hxb : xb ≠ [] := by intro e; rw [e] at hp; simp [val] at hp
  refine ⟨aq, mq, ar, mr, zr, rfl, by have := h.lt; omega, sb1.below hB, s2, h.ob, r2.ok, h.mb, r2.norm, fb1.below sb1 hB, hf, ?_, by rw [r2.val]; omega, ?_, h.hb, ?_, ?_, hB1.trans (hB.mono hB1.size), by rw [r2.val]; omega⟩
  · have h2 : xb.length ≤ xa.length := len_le_of_val h.oa h.ob h.mb h.le
    have h4 := h.sa.len
    have h5 := h.sb.len
    have h6 := h.len
    omega
  · rw [r2.val, Nat.gcd_comm, ← Nat.gcd_rec, Nat.gcd_comm, h.gcd]
  · intro x hx; exact Nat.le_trans hB1.size (n2 x hx)
  · intro x y hx hy _
    have := sb1.block_lt hxb x hx
    have := n2 y hy
    omega

theorem walk_all (o : Bool) (u0 u1 v0 v1 ba oa na bb ob nb : Nat) (xa xb : List Nat) (R0 R1 : Nat) (w : World) (sa : Sl w (some ⟨ba, oa, none⟩) na na xa) (sb : Sl w (some ⟨bb, ob, none⟩) nb nb xb) (fa : Fz w (some ⟨ba, oa, none⟩) na) (fb : Fz w (some ⟨bb, ob, none⟩) nb) (oka : Ok xa) (okb : Ok xb) (hne : ba ≠ bb)
    (bu0 : u0 < 4294967296) (bu1 : u1 < 4294967296) (bv0 : v0 < 4294967296) (bv1 : v1 < 4294967296) (hn : na ≤ 2048) (hn0 : 1 ≤ nb) (hba : nb ≤ na) (hxa : xa ≠ []) (hxb : xb ≠ [])
    (d0 : Dif (!o) u0 v0 (val xa) (val xb) R0) (d1 : Dif o u1 v1 (val xa) (val xb) R1) (l0 : R0 ≤ val xb) (l1 : R1 < R0) :
    Calls Tryd.prog 78 #[stepsV o u0 u1 v0 v1, .slice (some ⟨ba, oa, none⟩) na na, .slice (some ⟨bb, ob, none⟩) nb nb] w fun e w' => WkPost w ba bb R0 R1 e w' := by
  have hA := sl_fn sa fa hba hxa
  have hB := sl_fn sb fb (Nat.le_refl nb) hxb
  obtain ⟨hp, hP⟩ := val_parts sa.len hba
  obtain ⟨hq, hQ⟩ := val_parts sb.len (Nat.le_refl nb)
  have hv : val xb < 4294967296 ^ nb := by have := val_lt okb; rwa [sb.len] at this
  have hm : (2048:Nat) ≤ maxLen := by unfold maxLen; omega
  cases o
  · rw [show (!false) = true from rfl, dif_true] at d0
    rw [dif_false] at d1
    exact walk_even u0 u1 v0 v1 ba oa na na bb ob nb nb _ _ _ _ hp hq R0 R1 w hA hB hne (fun i _ => oka.getD i) (fun i _ => okb.getD i) bu0 bu1 bv0 bv1 (by omega) hn0 hba (by omega) (Nat.le_refl _) (by omega) hba (Nat.le_refl _) hP hQ d0 d1 (by omega) (by omega)
  · rw [show (!true) = false from rfl, dif_false] at d0
    rw [dif_true] at d1
    exact walk_odd u0 u1 v0 v1 ba oa na na bb ob nb nb _ _ _ _ hp hq R0 R1 w hA hB hne (fun i _ => oka.getD i) (fun i _ => okb.getD i) bu0 bu1 bv0 bv1 (by omega) hn0 hba (by omega) (Nat.le_refl _) (by omega) hba (Nat.le_refl _) hP hQ d0 d1 (by omega) (by omega)

theorem lst_self {xs : List Nat} {n : Nat} (h : xs.length = n) : lst (fun i => xs.getD i 0) n = xs := by
  apply List.ext_getElem
  · rw [lst_len, h]
  · intro i h1 h2
    have e := lst_getD (fun i => xs.getD i 0) n i (by omega)
    generalize lst (fun i => xs.getD i 0) n = L at *
    simp only [List.getD, h1, h2, List.getElem?_eq_getElem, Option.getD_some] at e
    exact e

theorem DgR.begin {w w0 w1 w2 : World} {n1 n2 : Nat} {xs ys : List Nat} (hb0 : Below w.heap.size w w0) (hl1 : xs.length = n1) (hl2 : ys.length = n2) (ox : Ok xs) (oy : Ok ys) (nx : Norm xs) (ny : Norm ys) (h1 : n1 ≤ 2048) (hle : val ys ≤ val xs)
    (f1 : Fn w1 w0.heap.size 0 n1 (fun i => xs.getD i 0)) (b1 : Below w0.heap.size w0 w1) (f2 : Fn w2 w1.heap.size 0 n2 (fun i => ys.getD i 0)) (b2 : Below w1.heap.size w1 w2) :
    DgR w2 w (Nat.gcd (val xs) (val ys)) (val ys) (some ⟨w0.heap.size, 0, none⟩) n1 xs (some ⟨w1.heap.size, 0, none⟩) n2 ys := by
  have hl : ys.length ≤ xs.length := len_le_of_val ox oy ny hle
  have F1 : Fn w2 w0.heap.size 0 n1 (fun i => xs.getD i 0) := Fn.below f1 b2
  have s1 := F1.sl (Nat.le_refl _) (by unfold maxLen; omega)
  have s2 := f2.sl (Nat.le_refl _) (by unfold maxLen; omega)
  rw [lst_self hl1] at s1
  rw [lst_self hl2] at s2
  refine ⟨s1, s2, ox, oy, nx, ny, ?_, ?_, h1, hle, rfl, ?_, ?_, ?_, (hb0.trans (b1.mono hb0.size)).trans (b2.mono (Nat.le_trans hb0.size b1.size)), Nat.le_refl _⟩
  · intro x hx i hi; cases hx; exact (F1 i hi).2
  · intro x hx i hi; cases hx; exact (f2 i hi).2
  · intro x hx; cases hx; exact hb0.size
  · intro x hx; cases hx; exact Nat.le_trans hb0.size b1.size
  · intro x y hx hy hyne
    cases hx; cases hy
    have hy1 : 0 < ys.length := List.length_pos_iff.2 hyne
    have := World.block_lt_of_cell? _ _ (f1 0 (by omega)).1
    simp only at this ⊢
    omega

set_option maxHeartbeats 8000000 in
theorem divisor_any (a1 a2 : Option Addr) (n1 c1 n2 c2 : Nat) (xs ys : List Nat) (w : World) (h1 : Sl w a1 n1 c1 xs) (h2 : Sl w a2 n2 c2 ys) (ox : Ok xs) (oy : Ok ys) (nx : Norm xs) (ny : Norm ys) (hn1 : n1 ≤ 2048) (hn2 : n2 ≤ 2048) (hT : Tab64 w) :
    Calls Tryd.prog 68 #[.slice a1 n1 c1, .slice a2 n2 c2] w fun e w' => NewRep w w' (Nat.gcd (val xs) (val ys)) e := by
  have KC := compare_any a1 a2 n1 c1 n2 c2 xs ys w h1 h2 ox oy nx ny
  have HT := hide hT
  have H1 := hide h1
  have H2 := hide h2
  clear h1 h2 hT
  obtain ⟨G, hG⟩ : ∃ G, Nat.gcd (val xs) (val ys) = G := ⟨_, rfl⟩
  rw [hG]
  by_cases hlt : val xs < val ys
  · have hc0 : cmpN (val xs) (val ys) < 0 := by rw [cmpN_lt hlt]; decide
    generalize cmpN (val xs) (val ys) = cc at *
    have KC' := hide KC
    clear KC
    go_enter Tryd.func68, Tryd.ntmps68
    go_wp2_with fail
    refine (unhide KC').mono ?_
    rintro e w0 ⟨rfl, k, hw⟩
    have HB0 := hide (show Below w.heap.size w w0 from by rw [hw]; exact bel_drewN (Below.refl _ _) k)
    by_cases hs2 : n2 ≤ 2
    · have t0 : (n2:Int) ≤ 2 := by omega
      have hvA : val ys < 18446744073709551616 := by
        have h := val_lt oy
        have h2 : (4294967296:Nat) ^ ys.length ≤ 4294967296 ^ 2 := pow_mono (by rw [(unhide H2).len]; exact hs2)
        have h3 : (4294967296:Nat) ^ 2 = 18446744073709551616 := by decide
        omega
      have hvB : val xs < 18446744073709551616 := by omega
      have K1 := word_any a2 n2 c2 ys w0 ((unhide H2).below (unhide HB0)) oy
      have K2 := word_any a1 n1 c1 xs w0 ((unhide H1).below (unhide HB0)) ox
      rw [rep_two (v := val ys) ⟨oy, ny, rfl⟩ hvA] at K1
      rw [rep_two (v := val xs) ⟨ox, nx, rfl⟩ hvB] at K2
      have K3 := wordDivisor_any (val ys) (val xs) w0 hvA hvB ((unhide HT).below (unhide HB0))
      have hgb : G < 18446744073709551616 := by
        rw [← hG]
        rcases Nat.eq_zero_or_pos (val ys) with e | e
        · rw [show val xs = 0 from by omega, e]; decide
        · have := Nat.gcd_le_left (val xs) e
          rw [Nat.gcd_comm] at this
          omega
      rw [Nat.gcd_comm, hG] at K3
      have K1' := hide K1
      have K2' := hide K2
      have K3' := hide K3
      clear K1 K2 K3 hG hw KC'
      generalize val xs = vx at *
      generalize val ys = vy at *
      go_wp2_with fail
      refine (unhide K1').mono ?_
      rintro e w' ⟨rfl, hw⟩
      obtain rfl := hw.symm
      clear hw
      go_wp2_with fail
      refine (unhide K2').mono ?_
      rintro e w' ⟨rfl, hw⟩
      obtain rfl := hw.symm
      clear hw
      go_wp2_with fail
      refine (unhide K3').mono ?_
      rintro e w6 ⟨rfl, j, hw⟩
      have HB6 := hide (show Below w.heap.size w w6 from by rw [hw]; exact bel_drewN (unhide HB0) j)
      have K4 := hide (fromWord_any G w6 hgb)
      clear hw K3' K1' K2'
      go_wp2_with fail
      refine (unhide K4).mono ?_
      rintro e w7 ⟨af, mf, zf, rfl, s7, r7, n7, b7⟩
      have H7 := hide (And.intro s7 (And.intro r7 (And.intro n7 b7)))
      clear s7 r7 n7 b7 K4
      go_wp2_with fail
      go_ret
      obtain ⟨s7, r7, n7, b7⟩ := unhide H7
      exact ⟨af, mf, zf, rfl, s7, r7, fun x hx => Nat.le_trans (unhide HB6).size (n7 x hx), (unhide HB6).trans (b7.mono (unhide HB6).size)⟩
    have t0 : ¬ (n2:Int) ≤ 2 := by omega
    have K1 := hide (clone_any a2 n2 c2 ys w0 ((unhide H2).below (unhide HB0)) (by omega))
    clear hw KC'
    go_wp2_with fail
    refine (unhide K1).mono ?_
    rintro e w1 ⟨rfl, f1, b1⟩
    have HB1 := hide ((unhide HB0).trans (b1.mono (unhide HB0).size))
    have K2 := hide (clone_any a1 n1 c1 xs w1 ((unhide H1).below (unhide HB1)) (by omega))
    have F1 := hide (And.intro f1 b1)
    clear f1 b1 K1
    go_wp2_with fail
    refine (unhide K2).mono ?_
    rintro e w2 ⟨rfl, f2, b2⟩
    clear K2
    go_wp2_with fail
    have HR0 := hide (DgR.begin (w := w) (unhide HB0) (unhide H2).len (unhide H1).len oy ox ny nx hn2 (by omega) (unhide F1).1 (unhide F1).2 f2 b2)
    rw [Nat.gcd_comm, hG] at HR0
    clear hG
    clear f2 b2 F1 HB0 HB1 H2 H1
    go_loopg [0, 1] (val xs) (fun k av bv wr => ∃ aa na xa ab nb xb, av = .slice aa na na ∧ bv = .slice ab nb nb ∧ DgR wr w G k aa na xa ab nb xb)
    case atStart => exact ⟨_, _, _, _, _, _, rfl, rfl, unhide HR0⟩
    case round =>
      clear HR0
      obtain ⟨aa, na, xa, ab, nb, xb, rfl, rfl, hR⟩ := hrel
      by_cases hb2 : nb ≤ 2
      · have t1 : ¬ (2:Int) < (nb:Int) := by omega
        by_cases hb0 : nb = 0
        · subst hb0
          have hxb : xb = [] := List.eq_nil_of_length_eq_zero hR.sb.len
          have hg : G = val xa := by have := hR.gcd; rw [hxb] at this; simp [val] at this; exact this.symm
          have HN := hide (And.intro hR.sa (And.intro (show Rep G xa from ⟨hR.oa, hR.ma, hg.symm⟩) (And.intro hR.ha hR.bel)))
          clear hR hg hxb
          go_wp2_with fail
          go_ret
          exact ⟨aa, na, xa, rfl, (unhide HN).1, (unhide HN).2.1, (unhide HN).2.2.1, (unhide HN).2.2.2⟩
        · have t2 : ((nb:Int) == 0) = false := by simp; omega
          have t3 : ¬ (nb:Int) = 0 := by omega
          have hlb := hR.sb.len
          have hxb : xb ≠ [] := by intro e; rw [e] at hlb; simp at hlb; omega
          have hxp : 0 < val xb := by
            have a := val_ge_of_norm hR.mb hxb
            have b := pow_pos (xb.length - 1)
            omega
          have hvb : val xb < 18446744073709551616 := by
            have h := val_lt hR.ob
            have h2 : (4294967296:Nat) ^ xb.length ≤ 4294967296 ^ 2 := pow_mono (by omega)
            have h3 : (4294967296:Nat) ^ 2 = 18446744073709551616 := by decide
            omega
          have hrb := Nat.mod_lt (val xa) hxp
          have KD := hide (divide_any aa ab na na nb nb xa xb wr hR.sa hR.sb hR.oa hR.ob hR.ma hR.mb hR.len hxb)
          have hg : G = Nat.gcd (val xb) (val xa % val xb) := by rw [Nat.gcd_comm, ← Nat.gcd_rec, Nat.gcd_comm]; exact hR.gcd.symm
          have hgb : G < 18446744073709551616 := by
            have := Nat.gcd_le_left (val xa % val xb) hxp
            omega
          have HR := hide hR
          have HG := hide hg
          have ew := rep_two (v := val xb) ⟨hR.ob, hR.mb, rfl⟩ hvb
          have EW := hide ew
          clear hR hg ew hlb
          go_wp2_with fail
          refine (unhide KD).mono ?_
          rintro e w5 ⟨aq, mq, zq, ar, mr, zr, rfl, s1, r1, q1, s2, r2, q2, hne, hB⟩
          have K1 := word_any ab nb nb xb w5 ((unhide HR).sb.below hB) (unhide HR).ob
          have K2 := word_any ar mr mr zr w5 s2 r2.ok
          rw [unhide EW] at K1
          rw [rep_two r2 (by omega)] at K2
          have hB5 := (unhide HR).bel.trans (hB.mono (unhide HR).bel.size)
          have K3 := wordDivisor_any (val xb) (val xa % val xb) w5 hvb (by omega) ((unhide HT).below hB5)
          rw [← unhide HG] at K3
          have K1' := hide K1
          have K2' := hide K2
          have K3' := hide K3
          have HB5 := hide hB5
          clear K1 K2 K3 s1 r1 q1 s2 r2 q2 hne hB hB5 KD
          generalize val xa % val xb = rr at *
          generalize val xb = vb at *
          go_wp2_with fail
          refine (unhide K1').mono ?_
          rintro e w' ⟨rfl, hw⟩
          obtain rfl := hw.symm
          clear hw
          go_wp2_with fail
          refine (unhide K2').mono ?_
          rintro e w' ⟨rfl, hw⟩
          obtain rfl := hw.symm
          clear hw
          go_wp2_with fail
          refine (unhide K3').mono ?_
          rintro e w6 ⟨rfl, j, hw⟩
          have HB6 := hide (show Below w.heap.size w w6 from by rw [hw]; exact bel_drewN (unhide HB5) j)
          have K4 := hide (fromWord_any G w6 hgb)
          clear hw K3' K1' K2'
          go_wp2_with fail
          refine (unhide K4).mono ?_
          rintro e w7 ⟨af, mf, zf, rfl, s7, r7, n7, b7⟩
          have H7 := hide (And.intro s7 (And.intro r7 (And.intro n7 b7)))
          clear s7 r7 n7 b7 K4
          go_wp2_with fail
          go_ret
          obtain ⟨s7, r7, n7, b7⟩ := unhide H7
          exact ⟨af, mf, zf, rfl, s7, r7, fun x hx => Nat.le_trans (unhide HB6).size (n7 x hx), (unhide HB6).trans (b7.mono (unhide HB6).size)⟩
      · have t1 : (2:Int) < (nb:Int) := by omega
        have hlb := hR.sb.len
        have hla := hR.sa.len
        have hll : xb.length ≤ xa.length := len_le_of_val hR.oa hR.ob hR.mb hR.le
        have hna3 : 3 ≤ na := by omega
        have hna4 := hR.len
        have hxa : xa ≠ [] := by intro e; rw [e] at hla; simp at hla; omega
        have hxb : xb ≠ [] := by intro e; rw [e] at hlb; simp at hlb; omega
        obtain ⟨ba, oa, rfl, _⟩ := hR.sa.cells.resolve_left hxa
        obtain ⟨bb, ob, rfl, _⟩ := hR.sb.cells.resolve_left hxb
        have KF := hide (foresee_any ba oa na na (some ⟨bb, ob, none⟩) nb nb xa xb wr hR.sa hR.sb hR.oa hR.ob hR.ma hR.mb hna3 (by omega) hR.le)
        have HR := hide hR
        clear hR
        go_wp2_with fail
        refine (unhide KF).mono ?_
        rintro e w3 ⟨o, u0, u1, v0, v1, hS, rfl, hB3⟩
        have HS := hide hS
        have HB3 := hide hB3
        clear hS hB3 KF
        have hR := unhide HR
        have hxp : 0 < val xb := by
          have a := val_ge_of_norm hR.mb hxb
          have b := pow_pos (xb.length - 1)
          omega
        by_cases hv0 : v0 = 0
        · subst hv0
          have k1 := (unhide HB3).trans (((Below.refl w3.heap.size w3).alloc (Nat.le_refl _) (.cells #[.int .u64 (u0 : Nat), .int .u64 (u1 : Nat), .int .u64 0, .int .u64 (v1 : Nat), .bool o] 136)).mono (unhide HB3).size)
          have KD := hide (div_longF ba oa na na bb ob nb nb xa xb _ (hR.sa.below k1) (hR.sb.below k1) hR.oa hR.ob hR.ma hR.mb hna4 (by omega) (by omega) hR.le)
          have K1 := hide k1
          have HP := hide hxp
          clear k1 hR hxp
          unfold stepsV
          go_wp2_with fail
          refine (unhide KD).mono ?_
          intro e w5 hq
          obtain ⟨aq, mq, ar, mr, zr, rfl, hk, hD⟩ := (unhide HR).divided (unhide K1) hq (unhide HP)
          have HD := hide hD
          have HK := hide hk
          clear hq hD hk KD K1
          generalize val xa % val xb = rr at *
          go_wp2_with fail
          go_roundg rr
          case measure => exact unhide HK
          case rel => exact ⟨_, _, _, _, _, _, rfl, rfl, unhide HD⟩
        · have t2 : ((v0:Int) == 0) = false := by simp; omega
          have t3 : ¬ (v0:Int) = 0 := by omega
          have k1 := (unhide HB3).trans (((Below.refl w3.heap.size w3).alloc (Nat.le_refl _) (.cells #[.int .u64 (u0 : Nat), .int .u64 (u1 : Nat), .int .u64 (v0 : Nat), .int .u64 (v1 : Nat), .bool o] 136)).mono (unhide HB3).size)
          have hS := unhide HS
          obtain ⟨R0, R1, d0, d1, rlt, rle, rg⟩ := hS.has hv0
          have hne : ba ≠ bb := hR.ne _ _ rfl rfl hxb
          have KW := walk_all o u0 u1 v0 v1 ba oa na bb ob nb xa xb R0 R1 _ (hR.sa.below k1) (hR.sb.below k1) (hR.fa.below hR.sa k1) (hR.fb.below hR.sb k1) hR.oa hR.ob hne hS.bu0 hS.bu1 hS.bv0 hS.bv1 hna4 (by omega) (by omega) hxa hxb d0 d1 rle rlt
          have HL := hide (And.intro (Nat.lt_of_lt_of_le (hR.sa.block_lt hxa _ rfl) k1.size) (Nat.lt_of_lt_of_le (hR.sb.block_lt hxb _ rfl) k1.size))
          have KW' := hide KW
          have K1 := hide k1
          have HG := hide (And.intro rg (And.intro rlt rle))
          clear k1 hR hS KW d0 d1 rlt rle rg hxp hv0
          unfold stepsV at KW' ⊢
          go_wp2_with fail
          refine (unhide KW').mono ?_
          intro e w5 hq
          obtain ⟨b1, m1, z1, b2, m2, z2, rfl, hk, hD⟩ := (unhide HR).walked (unhide K1) hq (unhide HG).1 (unhide HG).2.1 (unhide HG).2.2 (unhide HL)
          have HD := hide hD
          have HK := hide hk
          clear hq hD hk KW' K1
          go_wp2_with fail
          go_roundg R1
          case measure => exact unhide HK
          case rel => exact ⟨_, _, _, _, _, _, rfl, rfl, unhide HD⟩
  · have hc0 : ¬ cmpN (val xs) (val ys) < 0 := by
      rcases Nat.lt_trichotomy (val xs) (val ys) with h | h | h
      · exact absurd h hlt
      · rw [cmpN_eq h]; decide
      · rw [cmpN_gt h]; decide
    generalize cmpN (val xs) (val ys) = cc at *
    have KC' := hide KC
    clear KC
    go_enter Tryd.func68, Tryd.ntmps68
    go_wp2_with fail
    refine (unhide KC').mono ?_
    rintro e w0 ⟨rfl, k, hw⟩
    have HB0 := hide (show Below w.heap.size w w0 from by rw [hw]; exact bel_drewN (Below.refl _ _) k)
    by_cases hs2 : n1 ≤ 2
    · have t0 : (n1:Int) ≤ 2 := by omega
      have hvA : val xs < 18446744073709551616 := by
        have h := val_lt ox
        have h2 : (4294967296:Nat) ^ xs.length ≤ 4294967296 ^ 2 := pow_mono (by rw [(unhide H1).len]; exact hs2)
        have h3 : (4294967296:Nat) ^ 2 = 18446744073709551616 := by decide
        omega
      have hvB : val ys < 18446744073709551616 := by omega
      have K1 := word_any a1 n1 c1 xs w0 ((unhide H1).below (unhide HB0)) ox
      have K2 := word_any a2 n2 c2 ys w0 ((unhide H2).below (unhide HB0)) oy
      rw [rep_two (v := val xs) ⟨ox, nx, rfl⟩ hvA] at K1
      rw [rep_two (v := val ys) ⟨oy, ny, rfl⟩ hvB] at K2
      have K3 := wordDivisor_any (val xs) (val ys) w0 hvA hvB ((unhide HT).below (unhide HB0))
      have hgb : G < 18446744073709551616 := by
        rw [← hG]
        rcases Nat.eq_zero_or_pos (val xs) with e | e
        · rw [show val ys = 0 from by omega, e]; decide
        · have := Nat.gcd_le_left (val ys) e
          rw [show Nat.gcd (val xs) (val ys) = Nat.gcd (val xs) (val ys) from rfl] at this
          omega
      rw [show Nat.gcd (val xs) (val ys) = Nat.gcd (val xs) (val ys) from rfl, hG] at K3
      have K1' := hide K1
      have K2' := hide K2
      have K3' := hide K3
      clear K1 K2 K3 hG hw KC'
      generalize val xs = vx at *
      generalize val ys = vy at *
      go_wp2_with fail
      refine (unhide K1').mono ?_
      rintro e w' ⟨rfl, hw⟩
      obtain rfl := hw.symm
      clear hw
      go_wp2_with fail
      refine (unhide K2').mono ?_
      rintro e w' ⟨rfl, hw⟩
      obtain rfl := hw.symm
      clear hw
      go_wp2_with fail
      refine (unhide K3').mono ?_
      rintro e w6 ⟨rfl, j, hw⟩
      have HB6 := hide (show Below w.heap.size w w6 from by rw [hw]; exact bel_drewN (unhide HB0) j)
      have K4 := hide (fromWord_any G w6 hgb)
      clear hw K3' K1' K2'
      go_wp2_with fail
      refine (unhide K4).mono ?_
      rintro e w7 ⟨af, mf, zf, rfl, s7, r7, n7, b7⟩
      have H7 := hide (And.intro s7 (And.intro r7 (And.intro n7 b7)))
      clear s7 r7 n7 b7 K4
      go_wp2_with fail
      go_ret
      obtain ⟨s7, r7, n7, b7⟩ := unhide H7
      exact ⟨af, mf, zf, rfl, s7, r7, fun x hx => Nat.le_trans (unhide HB6).size (n7 x hx), (unhide HB6).trans (b7.mono (unhide HB6).size)⟩
    have t0 : ¬ (n1:Int) ≤ 2 := by omega
    have K1 := hide (clone_any a1 n1 c1 xs w0 ((unhide H1).below (unhide HB0)) (by omega))
    clear hw KC'
    go_wp2_with fail
    refine (unhide K1).mono ?_
    rintro e w1 ⟨rfl, f1, b1⟩
    have HB1 := hide ((unhide HB0).trans (b1.mono (unhide HB0).size))
    have K2 := hide (clone_any a2 n2 c2 ys w1 ((unhide H2).below (unhide HB1)) (by omega))
    have F1 := hide (And.intro f1 b1)
    clear f1 b1 K1
    go_wp2_with fail
    refine (unhide K2).mono ?_
    rintro e w2 ⟨rfl, f2, b2⟩
    clear K2
    go_wp2_with fail
    have HR0 := hide (DgR.begin (w := w) (unhide HB0) (unhide H1).len (unhide H2).len ox oy nx ny hn1 (by omega) (unhide F1).1 (unhide F1).2 f2 b2)
    rw [hG] at HR0
    clear hG
    clear f2 b2 F1 HB0 HB1 H1 H2
    go_loopg [0, 1] (val ys) (fun k av bv wr => ∃ aa na xa ab nb xb, av = .slice aa na na ∧ bv = .slice ab nb nb ∧ DgR wr w G k aa na xa ab nb xb)
    case atStart => exact ⟨_, _, _, _, _, _, rfl, rfl, unhide HR0⟩
    case round =>
      clear HR0
      obtain ⟨aa, na, xa, ab, nb, xb, rfl, rfl, hR⟩ := hrel
      by_cases hb2 : nb ≤ 2
      · have t1 : ¬ (2:Int) < (nb:Int) := by omega
        by_cases hb0 : nb = 0
        · subst hb0
          have hxb : xb = [] := List.eq_nil_of_length_eq_zero hR.sb.len
          have hg : G = val xa := by have := hR.gcd; rw [hxb] at this; simp [val] at this; exact this.symm
          have HN := hide (And.intro hR.sa (And.intro (show Rep G xa from ⟨hR.oa, hR.ma, hg.symm⟩) (And.intro hR.ha hR.bel)))
          clear hR hg hxb
          go_wp2_with fail
          go_ret
          exact ⟨aa, na, xa, rfl, (unhide HN).1, (unhide HN).2.1, (unhide HN).2.2.1, (unhide HN).2.2.2⟩
        · have t2 : ((nb:Int) == 0) = false := by simp; omega
          have t3 : ¬ (nb:Int) = 0 := by omega
          have hlb := hR.sb.len
          have hxb : xb ≠ [] := by intro e; rw [e] at hlb; simp at hlb; omega
          have hxp : 0 < val xb := by
            have a := val_ge_of_norm hR.mb hxb
            have b := pow_pos (xb.length - 1)
            omega
          have hvb : val xb < 18446744073709551616 := by
            have h := val_lt hR.ob
            have h2 : (4294967296:Nat) ^ xb.length ≤ 4294967296 ^ 2 := pow_mono (by omega)
            have h3 : (4294967296:Nat) ^ 2 = 18446744073709551616 := by decide
            omega
          have hrb := Nat.mod_lt (val xa) hxp
          have KD := hide (divide_any aa ab na na nb nb xa xb wr hR.sa hR.sb hR.oa hR.ob hR.ma hR.mb hR.len hxb)
          have hg : G = Nat.gcd (val xb) (val xa % val xb) := by rw [Nat.gcd_comm, ← Nat.gcd_rec, Nat.gcd_comm]; exact hR.gcd.symm
          have hgb : G < 18446744073709551616 := by
            have := Nat.gcd_le_left (val xa % val xb) hxp
            omega
          have HR := hide hR
          have HG := hide hg
          have ew := rep_two (v := val xb) ⟨hR.ob, hR.mb, rfl⟩ hvb
          have EW := hide ew
          clear hR hg ew hlb
          go_wp2_with fail
          refine (unhide KD).mono ?_
          rintro e w5 ⟨aq, mq, zq, ar, mr, zr, rfl, s1, r1, q1, s2, r2, q2, hne, hB⟩
          have K1 := word_any ab nb nb xb w5 ((unhide HR).sb.below hB) (unhide HR).ob
          have K2 := word_any ar mr mr zr w5 s2 r2.ok
          rw [unhide EW] at K1
          rw [rep_two r2 (by omega)] at K2
          have hB5 := (unhide HR).bel.trans (hB.mono (unhide HR).bel.size)
          have K3 := wordDivisor_any (val xb) (val xa % val xb) w5 hvb (by omega) ((unhide HT).below hB5)
          rw [← unhide HG] at K3
          have K1' := hide K1
          have K2' := hide K2
          have K3' := hide K3
          have HB5 := hide hB5
          clear K1 K2 K3 s1 r1 q1 s2 r2 q2 hne hB hB5 KD
          generalize val xa % val xb = rr at *
          generalize val xb = vb at *
          go_wp2_with fail
          refine (unhide K1').mono ?_
          rintro e w' ⟨rfl, hw⟩
          obtain rfl := hw.symm
          clear hw
          go_wp2_with fail
          refine (unhide K2').mono ?_
          rintro e w' ⟨rfl, hw⟩
          obtain rfl := hw.symm
          clear hw
          go_wp2_with fail
          refine (unhide K3').mono ?_
          rintro e w6 ⟨rfl, j, hw⟩
          have HB6 := hide (show Below w.heap.size w w6 from by rw [hw]; exact bel_drewN (unhide HB5) j)
          have K4 := hide (fromWord_any G w6 hgb)
          clear hw K3' K1' K2'
          go_wp2_with fail
          refine (unhide K4).mono ?_
          rintro e w7 ⟨af, mf, zf, rfl, s7, r7, n7, b7⟩
          have H7 := hide (And.intro s7 (And.intro r7 (And.intro n7 b7)))
          clear s7 r7 n7 b7 K4
          go_wp2_with fail
          go_ret
          obtain ⟨s7, r7, n7, b7⟩ := unhide H7
          exact ⟨af, mf, zf, rfl, s7, r7, fun x hx => Nat.le_trans (unhide HB6).size (n7 x hx), (unhide HB6).trans (b7.mono (unhide HB6).size)⟩
      · have t1 : (2:Int) < (nb:Int) := by omega
        have hlb := hR.sb.len
        have hla := hR.sa.len
        have hll : xb.length ≤ xa.length := len_le_of_val hR.oa hR.ob hR.mb hR.le
        have hna3 : 3 ≤ na := by omega
        have hna4 := hR.len
        have hxa : xa ≠ [] := by intro e; rw [e] at hla; simp at hla; omega
        have hxb : xb ≠ [] := by intro e; rw [e] at hlb; simp at hlb; omega
        obtain ⟨ba, oa, rfl, _⟩ := hR.sa.cells.resolve_left hxa
        obtain ⟨bb, ob, rfl, _⟩ := hR.sb.cells.resolve_left hxb
        have KF := hide (foresee_any ba oa na na (some ⟨bb, ob, none⟩) nb nb xa xb wr hR.sa hR.sb hR.oa hR.ob hR.ma hR.mb hna3 (by omega) hR.le)
        have HR := hide hR
        clear hR
        go_wp2_with fail
        refine (unhide KF).mono ?_
        rintro e w3 ⟨o, u0, u1, v0, v1, hS, rfl, hB3⟩
        have HS := hide hS
        have HB3 := hide hB3
        clear hS hB3 KF
        have hR := unhide HR
        have hxp : 0 < val xb := by
          have a := val_ge_of_norm hR.mb hxb
          have b := pow_pos (xb.length - 1)
          omega
        by_cases hv0 : v0 = 0
        · subst hv0
          have k1 := (unhide HB3).trans (((Below.refl w3.heap.size w3).alloc (Nat.le_refl _) (.cells #[.int .u64 (u0 : Nat), .int .u64 (u1 : Nat), .int .u64 0, .int .u64 (v1 : Nat), .bool o] 136)).mono (unhide HB3).size)
          have KD := hide (div_longF ba oa na na bb ob nb nb xa xb _ (hR.sa.below k1) (hR.sb.below k1) hR.oa hR.ob hR.ma hR.mb hna4 (by omega) (by omega) hR.le)
          have K1 := hide k1
          have HP := hide hxp
          clear k1 hR hxp
          unfold stepsV
          go_wp2_with fail
          refine (unhide KD).mono ?_
          intro e w5 hq
          obtain ⟨aq, mq, ar, mr, zr, rfl, hk, hD⟩ := (unhide HR).divided (unhide K1) hq (unhide HP)
          have HD := hide hD
          have HK := hide hk
          clear hq hD hk KD K1
          generalize val xa % val xb = rr at *
          go_wp2_with fail
          go_roundg rr
          case measure => exact unhide HK
          case rel => exact ⟨_, _, _, _, _, _, rfl, rfl, unhide HD⟩
        · have t2 : ((v0:Int) == 0) = false := by simp; omega
          have t3 : ¬ (v0:Int) = 0 := by omega
          have k1 := (unhide HB3).trans (((Below.refl w3.heap.size w3).alloc (Nat.le_refl _) (.cells #[.int .u64 (u0 : Nat), .int .u64 (u1 : Nat), .int .u64 (v0 : Nat), .int .u64 (v1 : Nat), .bool o] 136)).mono (unhide HB3).size)
          have hS := unhide HS
          obtain ⟨R0, R1, d0, d1, rlt, rle, rg⟩ := hS.has hv0
          have hne : ba ≠ bb := hR.ne _ _ rfl rfl hxb
          have KW := walk_all o u0 u1 v0 v1 ba oa na bb ob nb xa xb R0 R1 _ (hR.sa.below k1) (hR.sb.below k1) (hR.fa.below hR.sa k1) (hR.fb.below hR.sb k1) hR.oa hR.ob hne hS.bu0 hS.bu1 hS.bv0 hS.bv1 hna4 (by omega) (by omega) hxa hxb d0 d1 rle rlt
          have HL := hide (And.intro (Nat.lt_of_lt_of_le (hR.sa.block_lt hxa _ rfl) k1.size) (Nat.lt_of_lt_of_le (hR.sb.block_lt hxb _ rfl) k1.size))
          have KW' := hide KW
          have K1 := hide k1
          have HG := hide (And.intro rg (And.intro rlt rle))
          clear k1 hR hS KW d0 d1 rlt rle rg hxp hv0
          unfold stepsV at KW' ⊢
          go_wp2_with fail
          refine (unhide KW').mono ?_
          intro e w5 hq
          obtain ⟨b1, m1, z1, b2, m2, z2, rfl, hk, hD⟩ := (unhide HR).walked (unhide K1) hq (unhide HG).1 (unhide HG).2.1 (unhide HG).2.2 (unhide HL)
          have HD := hide hD
          have HK := hide hk
          clear hq hD hk KW' K1
          go_wp2_with fail
          go_roundg R1
          case measure => exact unhide HK
          case rel => exact ⟨_, _, _, _, _, _, rfl, rfl, unhide HD⟩
end Go.Proofs.YtiadccaaoenccaaDoor
