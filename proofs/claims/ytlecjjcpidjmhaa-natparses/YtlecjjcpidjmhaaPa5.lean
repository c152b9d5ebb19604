/-
  natural.read: contract.
-/
import Derived.Test.YtlecjjcpidjmhaaPa4
namespace Go.Proofs.Ytlecjjcpidjmhaa
open Go.RowKit Go.Deep
set_option linter.unusedVariables false

/-- The number of k digits from place p on. -/
def numS (s : ByteArray) (b p : Nat) : Nat → Nat
  | 0 => 0
  | k + 1 => numS s b p k * b + dig s (p + k)
/-- The number of the first p digits. -/
def numP (s : ByteArray) (b p : Nat) : Nat := numS s b 0 p

theorem numS_lt {s : ByteArray} {b p : Nat} (hb : 0 < b) : ∀ {k : Nat}, (∀ j, p ≤ j → j < p + k → dig s j < b) → numS s b p k < b ^ k
  | 0, _ => by simp [numS]
  | k + 1, h => by
    have h1 := numS_lt hb (k := k) (fun j hj hk => h j hj (by omega))
    have h2 := h (p + k) (by omega) (by omega)
    simp only [numS, Nat.pow_succ]
    have h3 : numS s b p k * b + b ≤ b ^ k * b := by
      rw [← Nat.succ_mul]
      exact Nat.mul_le_mul_right _ h1
    omega
theorem numP_add (s : ByteArray) (b p : Nat) : ∀ k, numP s b (p + k) = numP s b p * b ^ k + numS s b p k
  | 0 => by simp [numS]
  | k + 1 => by
    have h := numP_add s b p k
    unfold numP at h ⊢
    rw [← Nat.add_assoc]
    simp only [numS]
    rw [h, Nat.pow_succ, Nat.add_mul, Nat.mul_assoc, Nat.zero_add]
    omega
theorem numP_mono (s : ByteArray) {b : Nat} (hb : 0 < b) (p k : Nat) : numP s b p ≤ numP s b (p + k) := by
  rw [numP_add]
  have := Nat.mul_le_mul_left (numP s b p) (Nat.pow_pos hb (n := k))
  omega

theorem rep_len_le5 {v j : Nat} {zs : List Nat} (h : Rep v zs) (hv : v < 4294967296 ^ j) : zs.length ≤ j := by
  rcases Nat.lt_or_ge j zs.length with hlt | hge
  · exfalso
    have h1 := val_ge_of_norm h.norm (by intro e; subst e; simp at hlt)
    rw [h.val] at h1
    have h2 : 4294967296 ^ j ≤ 4294967296 ^ (zs.length - 1) := pow_mono (by omega)
    omega
  · exact hge
theorem limbs_len_mono5 {v u : Nat} (h : v ≤ u) : (limbs v).length ≤ (limbs u).length := by
  have h1 := val_lt (limbs_rep u).ok
  rw [(limbs_rep u).val] at h1
  exact rep_len_le5 (limbs_rep v) (by omega)

/-- What is left of a string. -/
structure Left (s : ByteArray) (p : Nat) (cur : ByteArray) : Prop where
  le : p ≤ s.size
  size : cur.size = s.size - p
  dig : ∀ i, i < s.size - p → dig cur i = dig s (p + i)

theorem Left.cut {s cur : ByteArray} {p k : Nat} (h : Left s p cur) (hk : k ≤ s.size - p) : Left s (p + k) (cur.extract k (s.size - p)) := by
  have h1 := h.size
  have h2 := h.le
  have e : (cur.extract k (s.size - p)).size = s.size - (p + k) := by
    rw [ByteArray.size_extract]
    omega
  refine ⟨by omega, e, fun i hi => ?_⟩
  rw [Nat.add_assoc, ← h.dig (k + i) (by omega), ← dig_of (by omega), ← dig_of (by omega)]
  congr 2
  rw [ByteArray.getElem_extract]

/-- What the reading carries. -/
structure RdR (s : ByteArray) (b cnt : Nat) (w wr : World) (v : Value) (p : Nat) (cur : ByteArray) (n : Nat) (zs : List Nat) : Prop where
  left : Left s p cur
  own : wr.ownsRow w.heap.size 77 1 v n (vals zs)
  rep : Rep (numP s b p) zs
  le : n ≤ 2048
  bel : Below w.heap.size w wr
  step : p = 0 ∨ (s.size - p) % cnt = 0
theorem piece {r cnt size : Nat} (h : size = (r - 1) % cnt + 1) (hr : 0 < r) (hc : 0 < cnt) : size ≤ r ∧ size ≤ cnt ∧ (r - size) % cnt = 0 ∧ (r % cnt = 0 → size = cnt) := by
  have h1 := Nat.mod_lt (r - 1) hc
  have h2 := Nat.mod_le (r - 1) cnt
  have h3 := Nat.mod_add_div (r - 1) cnt
  refine ⟨by omega, by omega, ?_, ?_⟩
  · have e : r - size = cnt * ((r - 1) / cnt) := by omega
    rw [e, Nat.mul_mod_right]
  · intro h0
    have h4 := Nat.mod_add_div r cnt
    rw [h0, Nat.zero_add] at h4
    generalize r / cnt = q at *
    have hq : 0 < q := by
      rcases Nat.eq_zero_or_pos q with e | e
      · rw [e] at h4; omega
      · exact e
    have e : r - 1 = (cnt - 1) + cnt * (q - 1) := by
      rw [Nat.mul_sub, Nat.mul_one]
      have : cnt * 1 ≤ cnt * q := Nat.mul_le_mul_left _ hq
      omega
    rw [e, Nat.add_mul_mod_self_left, Nat.mod_eq_of_lt (by omega)] at h
    omega

set_option maxHeartbeats 8000000 in
theorem read_any (s : ByteArray) (b : Nat) (hs : s.size ≤ 1000000000000) (hb : 2 ≤ b) (hb2 : b ≤ 36) (hall : ∀ j, j < s.size → dig s j < b) (w : World) :
    Calls Try.prog 29 #[.string s, .int .i64 (b : Nat)] w fun e w' => Res2 w w' (fitL (numP s b s.size)) e := by
  have HA := hide hall
  clear hall
  go_enter Try.func29, Try.ntmps29
  go_wp2_with fail
  refine (chunk_any b hb hb2 _).mono ?_
  rintro e w' ⟨cnt, hch, rfl, hw⟩
  obtain rfl := hw.symm
  have h1 := hch.pos
  have h2 := hch.le
  have h3 := hch.lt
  have HC := hide hch
  clear hch
  obtain ⟨wt, hwt⟩ : ∃ wt, b ^ cnt = wt := ⟨_, rfl⟩
  have HWT := hide hwt
  rw [hwt] at h3 ⊢
  clear hwt
  go_wp2_with fail
  generalize hN : s.size = N at *
  have HN := hide hN
  clear hN
  go_loopw [0, 6] (fun sv v wr => ∃ (p : Nat) (cur : ByteArray) (n : Nat) (zs : List Nat), sv = .string cur ∧ RdR s b cnt w wr v p cur n zs) (fun sv _ _ => match sv with | .string c => c.size | _ => 0)
  case atStart =>
    refine ⟨0, s, 0, [], rfl, ⟨Nat.zero_le _, rfl, fun i _ => by simp⟩, World.ownsRow_nil _ _ _ _, ⟨Ok.nil, .inl rfl, rfl⟩, Nat.zero_le _, Below.refl _ _, .inl rfl⟩
  case round =>
    obtain ⟨p, cur, n, zs, rfl, hR⟩ := hrel
    have hp := hR.left.le
    rw [unhide HN] at hp
    obtain ⟨r, hr⟩ : ∃ r, N - p = r := ⟨_, rfl⟩
    have hcs : cur.size = r := by rw [hR.left.size, unhide HN, hr]
    by_cases hr0 : r = 0
    · have HV := hR.rep
      have hpN : p = N := by omega
      have hfit : fitL (numP s b N) = (zs, 0) := by
        have e := (limbs_rep (numP s b N)).unique (by rw [← hpN]; exact HV)
        have hl := hR.own.1
        have := hR.le
        rw [fitL_ok (by rw [e]; simp [vals] at hl; omega), e]
      obtain ⟨a, c, rfl, hs⟩ := own_sl hR.own
      have HS := hide (And.intro hs (And.intro hfit hR.bel))
      subst hr0
      clear hR hfit hs HV
      go_wp2_with fail
      go_ret2
      rw [unhide HN, (unhide HS).2.1]
      exact ⟨a, n, c, rfl, (unhide HS).1.1, (unhide HS).1.2, (unhide HS).2.2⟩
    · obtain ⟨size, hsz⟩ : ∃ size, size = (r - 1) % cnt + 1 := ⟨_, rfl⟩
      have hpc := piece hsz (by omega) (by omega)
      have m1 : ((r:Int) - 1).tmod (cnt:Int) + 1 = (size:Int) := by
        rw [show (r:Int) - 1 = ((r - 1 : Nat) : Int) from by omega, hsz]
        rw [show ((r - 1 : Nat) : Int).tmod (cnt : Int) = (((r - 1) % cnt : Nat) : Int) from by rw [Int.tmod_eq_emod_of_nonneg (by omega)]; rfl]
        omega
      have m2 : ((r:Int) - 1) % (cnt:Int) + 1 = (size:Int) := by
        rw [show (r:Int) - 1 = ((r - 1 : Nat) : Int) from by omega, hsz]
        rw [show ((r - 1 : Nat) : Int) % (cnt : Int) = (((r - 1) % cnt : Nat) : Int) from rfl]
        omega
      have HR := hide hR
      have HCS := hide hcs
      have HP := hide hpc
      have hr1 : (0:Int) < (r:Int) := by omega
      have hr2 : 0 < r := by omega
      have hr3 : decide (0 < r) = true := by simp [hr2]
      have hsz1 := hpc.1
      have hsz2 := hpc.2.1
      clear hR hsz hpc
      go_wp2_with fail
      have HB : Hid (∀ k, k ≤ size → numS s b p k < b ^ k) := fun k hk => numS_lt (by omega) (fun j hj hjk => unhide HA j (by omega))
      go_loop [10, 27] (fun vv iv => ∃ k : Nat, k ≤ size ∧ iv = .int .i64 (k : Nat) ∧ vv = .int .u32 (numS s b p k : Nat)) (fun _ iv => size - (intOf iv).toNat)
      case atStart => exact ⟨0, Nat.zero_le _, rfl, rfl⟩
      case round =>
        obtain ⟨k, hk, rfl, rfl⟩ := hrel
        by_cases hks : k < size
        · have hks' : (k:Int) < (size:Int) := by omega
          have hkc : (k:Int) < (cur.size:Int) := by omega
          have hv1 := unhide HB (k + 1) (by omega)
          have hcl : b ^ (k + 1) ≤ b ^ cnt := Nat.pow_le_pow_right (by omega) (by omega)
          rw [unhide HWT] at hcl
          have hnx : numS s b p (k + 1) = numS s b p k * b + dig s (p + k) := rfl
          have hdg : dig cur k = dig s (p + k) := (unhide HR).left.dig k (by rw [unhide HN]; omega)
          have hds := dig_le s (p + k)
          have HX := hide hnx
          generalize numS s b p k = V at *
          generalize hV' : numS s b p (k + 1) = V' at *
          have HV' := hV'
          clear hV'
          obtain ⟨y, hy⟩ : ∃ y, V * b = y := ⟨_, rfl⟩
          have e1 : (V:Int) * (b:Int) = (y:Int) := by rw [← hy, Int.natCast_mul]
          rw [hy] at hnx
          have hy32 : y < 4294967296 := by omega
          have hV32 : V' < 4294967296 := by omega
          go_wp2_with fail
          refine (ndigit_any _ (by have := (cur[k]'(by omega)).toNat_lt; omega) _).mono ?_
          rintro _ _ ⟨rfl, hw⟩
          obtain rfl := hw.symm
          rw [dig_of (by omega), hdg]
          generalize dig s (p + k) = D at *
          have e2 : (y:Int) + (D:Int) = (V':Int) := by omega
          clear hnx hdg
          go_wp2_with fail
          exact ⟨⟨k + 1, by omega, by go_num, by rw [HV']⟩, by simp [intOf]; omega⟩
        · obtain rfl : k = size := by omega
          go_wp2_with fail
          have hd1 := unhide HB k (Nat.le_refl _)
          have hd2 : b ^ k ≤ b ^ cnt := Nat.pow_le_pow_right (by omega) (by omega)
          rw [unhide HWT] at hd2
          refine (appendLimb_any w.heap.size u6 n zs wt (numS s b p k) wr (unhide HR).own (unhide HR).bel.size (unhide HR).rep.ok (by have := (unhide HR).le; omega) h3 (by omega)).mono ?_
          rintro _ wq ⟨v', n', ys, rfl, hown, hok, hnm, hval, hle, hbel⟩
          have hR := unhide HR
          have hP := unhide HP
          have hrep : Rep (numP s b (p + k)) ys := by
            refine ⟨hok, hnm hR.rep.norm (by rw [← unhide HWT]; exact Nat.pow_pos (by omega)), ?_⟩
            rw [hval, hR.rep.val, numP_add]
            rcases hR.step with h0 | h0
            · subst h0
              have : numP s b 0 = 0 := rfl
              rw [this, Nat.zero_mul, Nat.zero_mul]
            · rw [unhide HN, hr] at h0
              rw [← unhide HWT, hP.2.2.2 h0]
          have hlen := hown.1
          simp [vals] at hlen
          have hb2w : Below w.heap.size w wq := hR.bel.trans hbel
          obtain ⟨a', c', rfl, hsl⟩ := own_sl hown
          have hlz := hR.own.1
          simp [vals] at hlz
          have hle0 := hR.le
          have HQ := hide (And.intro hown (And.intro hrep (And.intro hb2w hlen)))
          clear hown hrep hb2w hok hnm hval hbel hR hP hd1 hd2 hlen hlz
          by_cases hbig : 2048 < n'
          · have hbig' : (2048:Int) < (n':Int) := by omega
            have hfit : fitL (numP s b N) = ([], 2) := by
              refine fitL_big ?_
              have hh := unhide HQ
              have h5 := limbs_len_mono5 (numP_mono s (b := b) (by omega) (p + k) (N - (p + k)))
              rw [show p + k + (N - (p + k)) = N from by omega, ← hh.2.1.eq] at h5
              omega
            have HF := hide hfit
            clear hfit hsl
            go_wp2_with fail
            go_ret2
            rw [unhide HN, unhide HF]
            exact ⟨none, 0, 0, rfl, sl_nil _, newAt_nil _, (unhide HQ).2.2.1⟩
          · have hbig' : ¬ (2048:Int) < (n':Int) := by omega
            clear hsl
            go_wp2_with fail
            have hR := unhide HR
            have hP := unhide HP
            have hQ := unhide HQ
            have hcut := hR.left.cut (k := k) (by rw [unhide HN, hr]; exact hsz1)
            rw [unhide HN, hr] at hcut
            have hk1 := hcut.size
            rw [unhide HN] at hk1
            have hkp : 0 < k := by
              rcases Nat.eq_zero_or_pos k with e | e
              · subst e
                have := hP.2.2.1
                have hn0 : (0:Int) ≤ ((r:Int) - 1) % (cnt:Int) := Int.emod_nonneg _ (by omega)
                omega
              · exact e
            refine ⟨⟨p + k, _, n', ys, rfl, hcut, hQ.1, hQ.2.1, by omega, hQ.2.2.1, .inr ?_⟩, ?_⟩
            · rw [unhide HN, show N - (p + k) = r - k from by omega]
              exact hP.2.2.1
            · show (cur.extract k r).size < cur.size
              rw [hk1, unhide HCS]
              omega
end Go.Proofs.Ytlecjjcpidjmhaa
