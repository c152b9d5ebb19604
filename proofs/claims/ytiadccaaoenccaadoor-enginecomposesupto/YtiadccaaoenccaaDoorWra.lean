/- Wra -/
import Derived.Test.YtiadccaaoenccaaDoorWr9
namespace Go.Proofs.YtiadccaaoenccaaDoor
open Go.RowKit Go.Deep
set_option linter.unusedVariables false
structure OddP (w w' : World) (B : Nat) (a : Option Addr) (n cp v m k u : Nat) (d : Bool) : Prop where
  own : Ow w' B a m cp (limbs u)
  eq : v = u * 2 ^ k
  kle : k ≤ 32
  yes : d = true → u % 2 = 1
  no : d = false → m < n
  chg : Chg (fun j => AtB a j) w w'

def OddQ (w : World) (B : Nat) (a : Option Addr) (n cp v : Nat) (e : Ending) (w' : World) : Prop := ∃ m k u d, e = .returned (.tuple #[.slice a m cp, .int .i64 (k : Nat), .bool d]) ∧ OddP w w' B a n cp v m k u d

structure MvR (wr w : World) (B g n cp : Nat) (xs : List Nat) (k : Nat) : Prop where
  own : Ow wr B (some ⟨g, 0, none⟩) n cp ((xs.drop 1).take k ++ xs.drop k)
  chg : Chg (fun j => AtB (some ⟨g, 0, none⟩) j) w wr

theorem mv_len {xs : List Nat} {k n : Nat} (hl : xs.length = n) (hk : k + 1 ≤ n) : ((xs.drop 1).take k).length = k := by simp [hl]; omega
theorem MvR.step {wr w : World} {B g n cp : Nat} {xs : List Nat} {k : Nat} (h : MvR wr w B g n cp xs k) (hl : xs.length = n) (hk : k + 1 < n) :
    MvR (wr.setCell ⟨g, k, none⟩ (.int .u32 (xs.getD (k + 1) 0 : Nat))) w B g n cp xs (k + 1) := by
  refine ⟨?_, h.chg.trans (.of_set _ _ _ _ atB_some)⟩
  have := h.own.set k (xs.getD (k + 1) 0)
  rw [set_mid (mv_len hl (by omega)) hl (by omega)] at this
  have e : (xs.drop 1).take k ++ [xs.getD (k + 1) 0] = (xs.drop 1).take (k + 1) := by
    rw [List.take_succ_eq_append_getElem (by simp; omega)]
    simp [List.getD, show k + 1 < xs.length from by omega]
  rw [e] at this
  exact this
theorem MvR.get {wr w : World} {B g n cp : Nat} {xs : List Nat} {k : Nat} (h : MvR wr w B g n cp xs k) (hl : xs.length = n) (hk : k + 1 < n) :
    wr.cell? ⟨g, k + 1, none⟩ = some (.int .u32 (xs.getD (k + 1) 0 : Nat)) := by
  rw [h.own.cell (by omega)]
  congr 3
  have e := mv_len hl (k := k) (by omega)
  simp only [List.getD]
  rw [List.getElem?_append_right (by omega), e, List.getElem?_drop]
  congr 2; omega
theorem MvR.fin {wr w : World} {B g n cp v : Nat} {k : Nat} (h : MvR wr w B g n cp (limbs v) k) (hl : (limbs v).length = n) (hk : k + 1 = n) :
    Ow wr B (some ⟨g, 0, none⟩) (n - 1) cp (limbs (v / 4294967296)) := by
  have h1 := h.own.take (m := n - 1) (by omega)
  have e1 := mv_len hl (k := k) (by omega)
  rw [List.take_append_of_le_length (by omega), List.take_of_length_le (by omega)] at h1
  have e2 : ((limbs v).drop 1).take k = (limbs v).drop 1 := List.take_of_length_le (by simp; omega)
  rw [e2] at h1
  have e3 : (limbs v).drop 1 = limbs (v / 4294967296) := by
    have hv := val_drop (limbs_ok v) 1
    rw [limbs_v, Nat.pow_one] at hv
    have nn : Norm ((limbs v).drop 1) := by
      have := limbs_norm v
      cases hh : limbs v with
      | nil => left; rfl
      | cons x xs => rw [hh] at this; simpa using norm_tail this
    rw [← hv]
    exact (limbs_val ((limbs_ok v).drop 1) nn).symm
  rw [← e3]
  exact h1

theorem low_limb (v : Nat) : (limbs v).getD 0 0 = v % 4294967296 := by
  have h := val_drop_step (limbs v) 0
  rw [List.drop_zero, limbs_v] at h
  have := (limbs_ok v).getD 0
  omega

set_option maxRecDepth 100000 in
set_option maxHeartbeats 4000000 in
theorem wodd_zero (g B n cp v : Nat) (w : World) (h1 : Ow w B (some ⟨g, 0, none⟩) n cp (limbs v)) (hv : 0 < v) (hn : n ≤ 1000000000) (hz : v % 4294967296 = 0) :
    Calls Tryd.prog 69 #[.slice (some ⟨g, 0, none⟩) n cp] w fun e w' => OddQ w B (some ⟨g, 0, none⟩) n cp v e w' := by
  have hl := h1.len
  have hcap := h1.sl.cap
  have hle := h1.sl.le
  unfold maxLen at hcap
  have hn1 : 1 < n := by
    rcases Nat.lt_or_ge 1 n with h | h
    · exact h
    · exfalso
      have := limbs_lt v
      have h2 : 4294967296 ^ (limbs v).length ≤ 4294967296 ^ 1 := Nat.pow_le_pow_right (by decide) (by omega)
      omega
  have c0 := h1.cell (i := 0) (by omega)
  rw [low_limb, hz] at c0
  have HF := hide (fun wr k (h : MvR wr w B g n cp (limbs v) k) (hk : k + 1 = n) => (show OddP w wr B (some ⟨g, 0, none⟩) n cp v (n - 1) 32 (v / 4294967296) false from ⟨h.fin hl hk, by omega, Nat.le_refl _, (by intro e; cases e), fun _ => by omega, h.chg⟩))
  have H0 := hide (show MvR w w B g n cp (limbs v) 0 from ⟨by simpa using h1, Chg.refl _ _⟩)
  have hn1' : ((n:Int) - 1) = ((n - 1 : Nat) : Int) := by omega
  obtain ⟨xs, hxs⟩ : ∃ xs, limbs v = xs := ⟨_, rfl⟩
  have HL := hide hl
  rw [hxs] at HF H0 HL
  clear h1 hxs hl hv hz
  obtain ⟨n0, hn0⟩ : ∃ k, n - 1 = k := ⟨_, rfl⟩
  rw [hn0] at hn1' HF
  have HN0 := hide hn0
  clear hn0
  go_enter Tryd.func69, Tryd.ntmps69
  go_wp2_with fail
  go_loopw [5] (fun i wr => ∃ k : Nat, k + 1 ≤ n ∧ i = .int .i64 (k : Nat) ∧ MvR wr w B g n cp xs k) (fun i _ => n - (intOf i).toNat)
  case atStart => exact ⟨0, by omega, rfl, unhide H0⟩
  case round =>
    clear H0
    obtain ⟨k, hk, rfl, hR⟩ := hrel
    by_cases hlt : k + 1 < n
    · have tA : (k:Int) + 1 < (n:Int) := by omega
      have g1 := hR.get (unhide HL) hlt
      have g2 := hR.own.cell (i := k) (by omega)
      have g3 := hR.own.froz (i := k)
      have HS := hide (hR.step (unhide HL) hlt)
      generalize xs.getD (k + 1) 0 = x at *
      generalize ((xs.drop 1).take k ++ xs.drop k).getD k 0 = y at *
      clear hR c0
      go_wp2_with fail
      exact ⟨⟨k + 1, by omega, by go_num, unhide HS⟩, by simp [intOf]; omega⟩
    · have tA : ¬ (k:Int) + 1 < (n:Int) := by omega
      have HX := hide (unhide HF wr k hR (by omega))
      have hb0 : n0 ≤ n := by have := unhide HN0; omega
      clear hR c0 hlt
      go_wp2_with fail
      go_ret3
      exact ⟨n0, 32, _, false, rfl, unhide HX⟩

theorem low_bit {x k : Nat} (hk : x % 2 ^ k = 0) (hb : x / 2 ^ k % 2 = 0) : x % 2 ^ (k + 1) = 0 := by
  rw [Nat.pow_succ, Nat.mod_mul, hk, hb, Nat.mul_zero]
theorem low_bit1 {x k : Nat} (hk : x % 2 ^ k = 0) : x = x / 2 ^ k * 2 ^ k := by
  have := Nat.div_add_mod x (2 ^ k)
  rw [hk, Nat.add_zero, Nat.mul_comm] at this
  exact this.symm

structure MbR (wr w : World) (B g n cp : Nat) (xs : List Nat) (s k : Nat) : Prop where
  own : Ow wr B (some ⟨g, 0, none⟩) n cp (lst (shF xs 0 s) k ++ xs.drop k)
  chg : Chg (fun j => AtB (some ⟨g, 0, none⟩) j) w wr
theorem MbR.step {wr w : World} {B g n cp : Nat} {xs : List Nat} {s k : Nat} (h : MbR wr w B g n cp xs s k) (hl : xs.length = n) (hk : k < n) :
    MbR (wr.setCell ⟨g, k, none⟩ (.int .u32 (srd (xs.getD k 0) (xs.getD (k + 1) 0) s : Nat))) w B g n cp xs s (k + 1) := by
  refine ⟨?_, h.chg.trans (.of_set _ _ _ _ atB_some)⟩
  have := h.own.set k (srd (xs.getD k 0) (xs.getD (k + 1) 0) s)
  rw [set_mid (lst_len _ _) hl hk] at this
  have e : lst (shF xs 0 s) k ++ [srd (xs.getD k 0) (xs.getD (k + 1) 0) s] = lst (shF xs 0 s) (k + 1) := by
    simp [lst, List.range_succ, shF]
  rw [e] at this
  exact this
theorem MbR.get {wr w : World} {B g n cp : Nat} {xs : List Nat} {s k j : Nat} (h : MbR wr w B g n cp xs s k) (hl : xs.length = n) (hk : k ≤ j) (hj : j < n) :
    wr.cell? ⟨g, j, none⟩ = some (.int .u32 (xs.getD j 0 : Nat)) := by
  rw [h.own.cell hj]
  congr 3
  have e := lst_len (shF xs 0 s) k
  simp only [List.getD]
  rw [List.getElem?_append_right (by omega), e, List.getElem?_drop]
  congr 2; omega

set_option maxRecDepth 100000 in
set_option maxHeartbeats 8000000 in
theorem wodd_some (g B n cp v : Nat) (w : World) (h1 : Ow w B (some ⟨g, 0, none⟩) n cp (limbs v)) (hn : n ≤ 1000000000) (hz : v % 4294967296 ≠ 0) :
    Calls Tryd.prog 69 #[.slice (some ⟨g, 0, none⟩) n cp] w fun e w' => OddQ w B (some ⟨g, 0, none⟩) n cp v e w' := by
  have hl := h1.len
  have hn1 : 0 < n := by
    rcases Nat.eq_zero_or_pos n with h | h
    · exfalso
      rw [h] at hl
      have := limbs_eq_nil.1 (List.eq_nil_of_length_eq_zero hl)
      subst this
      exact hz rfl
    · exact h
  have c0 := h1.cell (i := 0) (by omega)
  rw [low_limb] at c0
  obtain ⟨x0, hx0⟩ : ∃ x, v % 4294967296 = x := ⟨_, rfl⟩
  rw [hx0] at c0
  have hxb : x0 < 4294967296 := by omega
  have hxe : ((x0:Int) == 0) = false := by simp; omega
  have hxn : ¬ (x0:Int) = 0 := by omega
  have HX0 := hide hx0
  have HXN := hide (show x0 ≠ 0 by omega)
  have ox := limbs_ok v
  have HV := hide (limbs_v v)
  have H0 := hide (fun s => (show MbR w w B g n cp (limbs v) s 0 from ⟨by simpa [lst] using h1, Chg.refl _ _⟩))
  obtain ⟨xs, hxs⟩ : ∃ xs, limbs v = xs := ⟨_, rfl⟩
  have HL := hide hl
  have HO := hide h1
  rw [hxs] at H0 HL ox HV HO
  have HXS := hide hxs
  clear h1 hxs hl hz hx0
  go_enter Tryd.func69, Tryd.ntmps69
  go_wp2_with fail
  go_loop [6] (fun i => ∃ k : Nat, k < 32 ∧ i = .int .i64 (k : Nat) ∧ x0 % 2 ^ k = 0) (fun i => 32 - (intOf i).toNat)
  case atStart => exact ⟨0, by decide, rfl, by rw [Nat.pow_zero, Nat.mod_one]⟩
  case round =>
    obtain ⟨k, hk, rfl, hm⟩ := hrel
    have hy := shr_lt (s := k) hxb
    have e1 : (x0:Int) / 2 ^ k = ((x0 / 2 ^ k : Nat) : Int) := by rw [Int.natCast_ediv, Int.natCast_pow]; rfl
    have e2 := and_one _ hy
    have hy2 : x0 / 2 ^ k % 2 < 2 := Nat.mod_lt _ (by decide)
    by_cases hb : x0 / 2 ^ k % 2 = 0
    · have h2 := low_bit hm hb
      have hk31 : k + 1 < 32 := by
        rcases Nat.lt_or_ge (k + 1) 32 with h | h
        · exact h
        · exfalso
          have : k = 31 := by omega
          subst this
          rw [show 31 + 1 = 32 from rfl, show (2:Nat) ^ 32 = 4294967296 from by decide, Nat.mod_eq_of_lt hxb] at h2
          exact unhide HXN h2
      have H2 := hide h2
      have HM := hide hm
      rw [hb] at e2
      clear h2 hm hb hy2
      generalize x0 / 2 ^ k = y at *
      go_wp2_with fail
      exact ⟨⟨k + 1, hk31, by go_num, unhide H2⟩, by simp [intOf]; omega⟩
    · have hb1 : x0 / 2 ^ k % 2 = 1 := by omega
      rw [hb1] at e2
      -- v is an odd number times 2 ^ k
      have hvk : v % 2 ^ k = 0 := by
        have hd : 2 ^ k ∣ 4294967296 := by rw [show (4294967296 : Nat) = 2 ^ 32 from by decide]; exact Nat.pow_dvd_pow 2 (by omega)
        rw [← unhide HX0] at hm
        rw [Nat.mod_mod_of_dvd v hd] at hm
        exact hm
      have hvo : v / 2 ^ k % 2 = 1 := by
        obtain ⟨q, h3⟩ : ∃ q, v = x0 + 4294967296 * q := ⟨v / 4294967296, by have := unhide HX0; omega⟩
        have hp := pow_split (s := k) hk
        have h4 : v / 2 ^ k = x0 / 2 ^ k + 2 ^ (32 - k) * q := by
          rw [h3, ← hp, Nat.mul_assoc, Nat.add_mul_div_left _ _ (Nat.two_pow_pos k)]
        rw [h4, show 32 - k = 31 - k + 1 from by omega, Nat.pow_succ, Nat.mul_comm (2 ^ (31 - k)) 2, Nat.mul_assoc]
        omega
      have HVE := hide (low_bit1 hvk)
      have HVO := hide hvo
      have HSV := hide (shr_val ox (unhide HL) (Nat.zero_le n) (show k / 32 = 0 by omega) (show k % 32 = k by omega))
      clear hb hm hb1 hvk hvo
      generalize x0 / 2 ^ k = y at *
      by_cases hk0 : k = 0
      · have tk : ¬ (0:Int) < (k:Int) := by omega
        have HK0 := hide hk0
        clear hk0
        have K := wnorm_any (some ⟨g, 0, none⟩) n cp B xs w (unhide HO) ox
        rw [unhide HV] at K
        have HK := hide K
        clear K
        go_wp2_with fail
        go_loopw [7] (fun i wr => i = .int .i64 0 ∧ wr = w) (fun i _ => (intOf i).toNat)
        case atStart => exact ⟨rfl, rfl⟩
        case round =>
          obtain ⟨rfl, hw⟩ := hrel
          subst hw
          have t1 : (0:Int) < (n:Int) := by omega
          go_wp2_with fail
          refine (unhide HK).mono ?_
          rintro e w' ⟨m, rfl, hm, hO, hw⟩
          obtain rfl := hw.symm
          have HO2 := hide hO
          clear hO hw HK
          go_wp2_with fail
          go_ret3
          have ho := unhide HVO
          rw [unhide HK0, Nat.pow_zero, Nat.div_one] at ho
          exact ⟨m, k, v, true, rfl, ⟨unhide HO2, by rw [unhide HK0, Nat.pow_zero, Nat.mul_one], by omega, fun _ => ho, (by intro e; cases e), Chg.refl _ _⟩⟩
      · have tk : (0:Int) < (k:Int) := by omega
        go_wp2_with fail
        go_loopw [7] (fun i wr => ∃ j : Nat, j ≤ n ∧ i = .int .i64 (j : Nat) ∧ MbR wr w B g n cp xs k j) (fun i _ => n - (intOf i).toNat)
        case atStart => exact ⟨0, Nat.zero_le _, rfl, unhide H0 k⟩
        case round =>
          clear c0
          obtain ⟨j, hj, rfl, hR⟩ := hrel
          by_cases hlt : j < n
          · have tA : (j:Int) < (n:Int) := by omega
            have g1 := hR.get (unhide HL) (Nat.le_refl j) hlt
            have g3 := hR.own.froz (i := j)
            have HS := hide (hR.step (unhide HL) hlt)
            have bx := ox.getD j
            have bY := ox.getD (j + 1)
            by_cases hB : j + 1 < n
            · have tB : (j:Int) + 1 < (n:Int) := by omega
              have g2 := hR.get (j := j + 1) (unhide HL) (by omega) hB
              have e5 := dv_int2 (lo := xs.getD j 0) (hi := xs.getD (j + 1) 0) bx bY
              have e6 := srd_int (xs.getD j 0) (xs.getD (j + 1) 0) k
              have b1 := dv_lt (lo := xs.getD j 0) (hi := xs.getD (j + 1) 0) bx bY
              generalize xs.getD j 0 = xx at *
              generalize xs.getD (j + 1) 0 = yy at *
              clear hR
              go_wp2_with fail
              exact ⟨⟨j + 1, by omega, by go_num, unhide HS⟩, by simp [intOf]; omega⟩
            · have tB : ¬ (j:Int) + 1 < (n:Int) := by omega
              have zy : xs.getD (j + 1) 0 = 0 := getD_ge (by rw [unhide HL]; omega)
              have hsr : srd (xs.getD j 0) (xs.getD (j + 1) 0) k = xs.getD j 0 / 2 ^ k := by
                rw [zy]; unfold srd dv
                rw [Nat.mul_zero, Nat.add_zero, Nat.mod_eq_of_lt (Nat.lt_of_le_of_lt (Nat.div_le_self _ _) bx)]
              have b3 := srd_lt (xs.getD j 0) (xs.getD (j + 1) 0) k
              have e5 : ((xs.getD j 0 : Nat) : Int) / 2 ^ k = ((srd (xs.getD j 0) (xs.getD (j + 1) 0) k : Nat) : Int) := by rw [hsr, Int.natCast_ediv, Int.natCast_pow]; rfl
              clear hR zy hsr
              generalize srd (xs.getD j 0) (xs.getD (j + 1) 0) k = sd at *
              generalize xs.getD j 0 = xx at *
              go_wp2_with fail
              exact ⟨⟨j + 1, by omega, by go_num, unhide HS⟩, by simp [intOf]; omega⟩
          · have tA : ¬ (j:Int) < (n:Int) := by omega
            have ho := hR.own
            rw [List.drop_eq_nil_of_le (by rw [unhide HL]; omega), List.append_nil] at ho
            have hjn : j = n - 0 := by omega
            have K := wnorm_any (some ⟨g, 0, none⟩) n cp B _ wr ho (lst_ok (fun i _ => srd_lt _ _ _))
            rw [lst_val, hjn, unhide HSV, unhide HV] at K
            have HK := hide K
            have HC := hide hR.chg
            clear K hR ho hjn
            go_wp2_with fail
            refine (unhide HK).mono ?_
            rintro e w' ⟨m, rfl, hm, hO, hw⟩
            obtain rfl := hw.symm
            have HO2 := hide hO
            clear hO hw HK
            go_wp2_with fail
            go_ret3
            exact ⟨m, k, v / 2 ^ k, true, rfl, ⟨unhide HO2, unhide HVE, by omega, fun _ => unhide HVO, (by intro e; cases e), unhide HC⟩⟩

theorem wodd_any (a : Option Addr) (B n cp v : Nat) (w : World) (h1 : Ow w B a n cp (limbs v)) (hv : 0 < v) (hn : n ≤ 1000000000) :
    Calls Tryd.prog 69 #[.slice a n cp] w fun e w' => OddQ w B a n cp v e w' := by
  have hn0 : 0 < n := by
    rcases Nat.eq_zero_or_pos n with h | h
    · exfalso
      have hl := h1.len
      rw [h] at hl
      have := limbs_eq_nil.1 (List.eq_nil_of_length_eq_zero hl)
      omega
    · exact h
  obtain ⟨g, rfl, _⟩ := h1.form hn0
  by_cases hz : v % 4294967296 = 0
  · exact wodd_zero g B n cp v w h1 hv hn hz
  · exact wodd_some g B n cp v w h1 hn hz

structure StrP (w w' : World) (B : Nat) (a : Option Addr) (cp v m k u : Nat) : Prop where
  own : Ow w' B a m cp (limbs u)
  eq : v = u * 2 ^ k
  odd : u % 2 = 1
  chg : Chg (fun j => AtB a j) w w'

def StrQ (w : World) (B : Nat) (a : Option Addr) (cp v : Nat) (e : Ending) (w' : World) : Prop := ∃ m k u, e = .returned (.tuple #[.slice a m cp, .int .i64 (k : Nat)]) ∧ StrP w w' B a cp v m k u
def lenV : Value → Nat
  | .slice _ m _ => m
  | _ => 0

theorem two_pow_bound {v k n u : Nat} (hv : v < 4294967296 ^ n) (he : v = u * 2 ^ k) (hu : 0 < u) : k < 32 * n + 1 := by
  rw [pow_limb] at hv
  rcases Nat.lt_or_ge k (32 * n) with h | h
  · omega
  · exfalso
    have h1 : 2 ^ (32 * n) ≤ 2 ^ k := Nat.pow_le_pow_right (by decide) h
    have h2 : 1 * 2 ^ k ≤ u * 2 ^ k := Nat.mul_le_mul_right _ hu
    omega

set_option maxRecDepth 100000 in
set_option maxHeartbeats 4000000 in
theorem wstrip_any (a : Option Addr) (B n cp v : Nat) (w : World) (h1 : Ow w B a n cp (limbs v)) (hv : 0 < v) (hn : n ≤ 1000000000) :
    Calls Tryd.prog 60 #[.slice a n cp] w fun e w' => StrQ w B a cp v e w' := by
  have HV := hide (show v < 4294967296 ^ n by have := limbs_lt v; rwa [h1.len] at this)
  have H0 := hide h1
  clear h1
  go_enter Tryd.func60, Tryd.ntmps60
  go_wp2_with fail
  go_loopw [0, 4] (fun av nv wr => ∃ m k u : Nat, av = .slice a m cp ∧ nv = .int .i64 (k : Nat) ∧ m ≤ n ∧ 0 < u ∧ v = u * 2 ^ k ∧ Ow wr B a m cp (limbs u) ∧ Chg (fun j => AtB a j) w wr) (fun av _ _ => lenV av)
  case atStart => exact ⟨n, 0, v, rfl, rfl, Nat.le_refl _, hv, by rw [Nat.pow_zero, Nat.mul_one], unhide H0, Chg.refl _ _⟩
  case round =>
    clear H0
    obtain ⟨m, k, u, rfl, rfl, hm, hu, he, hO, hc⟩ := hrel
    have hkb := two_pow_bound (unhide HV) he hu
    have HK := hide (wodd_any a B m cp u wr hO hu (by omega))
    have HE := hide he
    have HC := hide hc
    clear he hO hc
    go_wp2_with fail
    refine (unhide HK).mono ?_
    rintro e w2 ⟨m2, k2, u2, d, rfl, hP⟩
    have hk2 := hP.kle
    have hu2 : 0 < u2 := by
      rcases Nat.eq_zero_or_pos u2 with h | h
      · exfalso
        have := hP.eq
        rw [h, Nat.zero_mul] at this
        omega
      · exact h
    have HE2 := hide (show v = u2 * 2 ^ (k + k2) by rw [unhide HE, hP.eq, Nat.mul_assoc, ← Nat.pow_add, Nat.add_comm k2])
    have HP := hide hP
    clear hP HK
    cases d
    · have hmm := (unhide HP).no rfl
      have HX := hide (And.intro (unhide HP).own ((unhide HC).trans (unhide HP).chg))
      clear HP HC HE
      go_wp2_with fail
      exact ⟨⟨m2, k + k2, u2, rfl, by go_num, by omega, hu2, unhide HE2, (unhide HX).1, (unhide HX).2⟩, by simp [lenV]; omega⟩
    · have HX := hide (show StrP w w2 B a cp v m2 (k + k2) u2 from ⟨(unhide HP).own, unhide HE2, (unhide HP).yes rfl, (unhide HC).trans (unhide HP).chg⟩)
      clear HP HC HE
      go_wp2_with fail
      go_ret2
      exact ⟨m2, k + k2, u2, by first | rfl | (congr 1), unhide HX⟩
end Go.Proofs.YtiadccaaoenccaaDoor
