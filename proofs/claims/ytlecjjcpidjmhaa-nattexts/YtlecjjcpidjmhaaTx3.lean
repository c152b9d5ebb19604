/-
  The walk of NatTexts.
-/
import Derived.Test.YtlecjjcpidjmhaaPr9
import Derived.Test.YtlecjjcpidjmhaaPa6
import Derived.Test.YtlecjjcpidjmhaaRng2
import Derived.Test.YtlecjjcpidjmhaaOpen
import Derived.ChangeMaps5
namespace Go.Proofs.Ytlecjjcpidjmhaa
open Go.RowKit Go.Deep
set_option linter.unusedVariables false

/-- Digits of what was read. -/
theorem dgt_numS {s : ByteArray} {b p : Nat} (hb : 0 < b) : ∀ {m : Nat}, (∀ j, j < m → dig s (p + j) < b) → ∀ i, i < m → dgt (numS s b p m) b i = dig s (p + (m - 1 - i))
  | 0, _, i, hi => by omega
  | m + 1, h, i, hi => by
    have hd := h m (by omega)
    rcases i with _ | i
    · unfold dgt
      simp only [numS, Nat.pow_zero, Nat.div_one]
      rw [Nat.mul_comm, Nat.mul_add_mod, Nat.mod_eq_of_lt hd]
      congr 1
    · have ih := dgt_numS hb (m := m) (fun j hj => h j (by omega)) i (by omega)
      unfold dgt at ih ⊢
      simp only [numS]
      rw [Nat.pow_succ, Nat.mul_comm (b ^ i) b, ← Nat.div_div_eq_div_mul, Nat.mul_comm, Nat.mul_add_div hb, Nat.div_eq_of_lt hd, Nat.add_zero, ih]
      congr 1
      omega
theorem numP_zero {s : ByteArray} {b : Nat} : ∀ {i : Nat}, (∀ j, j < i → dig s j = 0) → numP s b i = 0
  | 0, _ => rfl
  | i + 1, h => by
    have ih := numP_zero (b := b) (i := i) (fun j hj => h j (by omega))
    unfold numP at ih ⊢
    simp only [numS]
    rw [ih, Nat.zero_add, h i (by omega)]
    simp

/-- The text without zeros ahead is the number's. -/
theorem txt_read {s : ByteArray} {b i : Nat} (hb : 2 ≤ b) (hall : ∀ j, j < s.size → dig s j < b) (hi : i < s.size) (hz : ∀ j, j < i → dig s j = 0) (hn : i + 1 < s.size → dig s i ≠ 0) :
    TxtOf (numP s b s.size) b (s.size - i) ∧ txtL (numP s b s.size) b (s.size - i) = lst (fun p => chrN (dig s (i + p))) (s.size - i) := by
  have hd : ∀ k, k < s.size → dgt (numP s b s.size) b k = dig s (s.size - 1 - k) := fun k hk => by
    have := dgt_numS (s := s) (b := b) (p := 0) (by omega) (m := s.size) (fun j hj => by rw [Nat.zero_add]; exact hall j hj) k hk
    rw [Nat.zero_add] at this
    exact this
  have he : numP s b s.size = numS s b i (s.size - i) := by
    have := numP_add s b i (s.size - i)
    rw [numP_zero hz, Nat.zero_mul, Nat.zero_add, show i + (s.size - i) = s.size from by omega] at this
    exact this
  refine ⟨⟨by omega, ?_, ?_⟩, ?_⟩
  · rw [he]
    exact numS_lt (by omega) (fun j hj hj2 => hall j (by omega))
  · by_cases e : i + 1 < s.size
    · right
      refine top_ge (by omega) ?_
      rw [hd _ (by omega), show s.size - 1 - (s.size - i - 1) = i from by omega]
      exact hn e
    · left; omega
  · unfold txtL
    refine List.map_congr_left fun p hp => ?_
    have hp' : p < s.size - i := by simpa using hp
    rw [hd _ (by omega), show s.size - 1 - (s.size - i - 1 - p) = i + p from by omega]

theorem strB_size (bs : List Nat) : (strB bs).size = bs.length := by unfold strB; rw [strOfNums_size]; simp
theorem strB_get {bs : List Nat} {p : Nat} (hp : p < bs.length) (h : bs.getD p 0 < 256) : ((strB bs).get! p).toNat = bs.getD p 0 := by
  have e : (strB bs).get! p = UInt8.ofNat (bs.getD p 0) := by
    show (strB bs).data[p]! = _
    unfold strB strOfNums
    simp [hp, List.getD]
  rw [e]
  simp only [UInt8.toNat_ofNat']
  omega
theorem digitN_chrN {d : Nat} (h : d < 36) : digitN (chrN d) = d := by
  unfold chrN digitN
  by_cases h9 : d < 10
  · rw [if_pos h9, if_pos (by omega)]; omega
  · rw [if_neg h9, if_neg (by omega), if_pos (by omega)]; omega

theorem dig_txt {V b n p : Nat} (hb : 2 ≤ b) (hb2 : b ≤ 36) (hp : p < n) : dig (strB (txtL V b n)) p = dgt V b (n - 1 - p) := by
  have hl : (txtL V b n).length = n := lst_len _ _
  have hg : (txtL V b n).getD p 0 = chrN (dgt V b (n - 1 - p)) := lst_getD _ _ _ hp
  unfold dig
  rw [strB_get (by rw [hl]; exact hp) (by rw [hg]; exact chr_ok V hb hb2 _), hg]
  exact digitN_chrN (by have := dgt_lt V (n - 1 - p) (b := b) (by omega); omega)

/-- What is printed reads as the number. -/
theorem num_txt {V b n : Nat} (hb : 2 ≤ b) (hb2 : b ≤ 36) (hV : V < b ^ n) : numP (strB (txtL V b n)) b n = V := by
  have h : ∀ k, k ≤ n → numS (strB (txtL V b n)) b 0 k = V / b ^ (n - k) := by
    intro k
    induction k with
    | zero => intro _; simp only [numS, Nat.sub_zero]; rw [Nat.div_eq_of_lt hV]
    | succ k ih =>
      intro hk
      simp only [numS]
      rw [ih (by omega), Nat.zero_add, dig_txt hb hb2 (by omega)]
      unfold dgt
      rw [show n - k = (n - 1 - k) + 1 from by omega, Nat.pow_succ, ← Nat.div_div_eq_div_mul, show n - (k + 1) = n - 1 - k from by omega, Nat.mul_comm, Nat.div_add_mod]
  have := h n (Nat.le_refl _)
  rw [Nat.sub_self, Nat.pow_zero, Nat.div_one] at this
  exact this

theorem txt_len {V b n l : Nat} (hb : 2 ≤ b) (h : TxtOf V b n) (hV : V < 2 ^ (32 * l)) (hl : 1 ≤ l) : n ≤ 32 * l := by
  rcases h.ge with e | e
  · omega
  · have h3 : 2 ^ (n - 1) ≤ b ^ (n - 1) := Nat.pow_le_pow_left hb _
    have h4 : 2 ^ (n - 1) < 2 ^ (32 * l) := by omega
    have := (Nat.pow_lt_pow_iff_right (by decide : 1 < 2)).1 h4
    omega

/-- Parse of Print. -/
theorem back_txt {xs : List Nat} {b n : Nat} (hb : 2 ≤ b) (hb2 : b ≤ 36) (ox : Ok xs) (m : MayL xs = true) (h : TxtOf (val xs) b n) : PaIs (strB (txtL (val xs) b n)) (b : Nat) xs 0 0 := by
  have hl : (strB (txtL (val xs) b n)).size = n := by rw [strB_size]; exact lst_len _ _
  have hm := MayL.len m
  obtain ⟨l, hl1⟩ : ∃ l, l = max xs.length 1 := ⟨_, rfl⟩
  have hV : val xs < 2 ^ (32 * l) := by
    have h1 := val_lt ox
    rw [pow_limb] at h1
    exact Nat.lt_of_lt_of_le h1 (Nat.pow_le_pow_right (by decide) (by omega))
  have hn := txt_len hb h hV (by omega)
  have hp := h.pos
  refine PaIs.read xs 0 (by omega) (by omega) (by omega) (fun j hj => ?_) ?_
  · rw [Int.toNat_natCast, dig_txt hb hb2 (by omega)]
    exact dgt_lt _ _ (by omega)
  · rw [Int.toNat_natCast, hl, num_txt hb hb2 h.lt, fitL_ok (by rw [limbs_val ox (MayL.norm m)]; omega), limbs_val ox (MayL.norm m)]

/-- FromBytes of Bytes. -/
theorem low_bytes {V B : Nat} : ∀ {k : Nat}, k ≤ B → lowB (lst (fun p => byteN V (B - 1 - p)) B) k = V % 256 ^ k
  | 0, _ => by simp [lowB, Nat.mod_one]
  | k + 1, hk => by
    have ih := low_bytes (V := V) (B := B) (k := k) (by omega)
    simp only [lowB]
    rw [ih, lst_len, lst_getD _ _ _ (by omega), show B - 1 - (B - 1 - k) = k from by omega, Nat.mod_pow_succ]
    unfold byteN
    rw [Nat.mul_comm]
theorem back_bytes {xs : List Nat} (ox : Ok xs) (m : MayL xs = true) : fromBytesL (bytesL xs).1 = (xs, 0) := by
  have e : (bytesL xs).1 = lst (fun p => byteN (val xs) (bytesN xs - 1 - p)) (bytesN xs) := by unfold bytesL; rw [if_pos m]
  rw [e]
  have hV : val xs < 256 ^ bytesN xs := by
    refine Nat.lt_of_lt_of_le (val_lt_bits ox) ?_
    rw [show (256:Nat) = 2 ^ 8 from rfl, ← Nat.pow_mul]
    refine Nat.pow_le_pow_right (by decide) ?_
    unfold bytesN
    omega
  have hs : stripB (lst (fun p => byteN (val xs) (bytesN xs - 1 - p)) (bytesN xs)) = lst (fun p => byteN (val xs) (bytesN xs - 1 - p)) (bytesN xs) := by
    rcases Nat.eq_zero_or_pos (bytesN xs) with h0 | h0
    · rw [h0]; rfl
    · have ht := byte_top ox (MayL.norm m) h0
      generalize hB : bytesN xs = B at *
      obtain ⟨k, rfl⟩ : ∃ k, B = k + 1 := ⟨B - 1, by omega⟩
      have hc : lst (fun p => byteN (val xs) (k + 1 - 1 - p)) (k + 1) = byteN (val xs) (k + 1 - 1 - 0) :: (List.range' 1 k).map (fun p => byteN (val xs) (k + 1 - 1 - p)) := by
        unfold lst
        rw [List.range_eq_range', List.range'_succ]
        rfl
      rw [hc]
      simp only [stripB]
      rw [if_neg (by simpa using ht)]
  have hb : bytesN xs ≤ 8192 := by
    have hm := MayL.len m
    unfold bytesN bitsN
    split
    · omega
    · rename_i h0
      have hh := val_ge_bits ox (MayL.norm m) h0
      have h1 := val_lt ox
      rw [pow_limb] at h1
      have h2 : 2 ^ (bitsL xs - 1) < 2 ^ (32 * xs.length) := Nat.lt_of_le_of_lt hh.2 h1
      have := (Nat.pow_lt_pow_iff_right (by decide : 1 < 2)).1 h2
      omega
  unfold fromBytesL
  rw [hs, lst_len, if_neg (by omega), ← lowB_all, lst_len, low_bytes (Nat.le_refl _), Nat.mod_eq_of_lt hV, limbs_val ox (MayL.norm m)]
theorem two_digits {xs : List Nat} (ox : Ok xs) (nx : Norm xs) (h0 : xs ≠ []) {n : Nat} (h : TxtOf (val xs) 2 n) : n = bitsN xs := by
  have hh := val_ge_bits ox nx h0
  have e : bitsN xs = bitsL xs := by unfold bitsN; rw [if_neg h0]
  refine h.uniq (by decide) ⟨by omega, val_lt_bits ox, .inr ?_⟩
  rw [e]
  exact hh.2
open Go.RowKit Go.Deep
set_option linter.unusedVariables false

/-- The byte at a place. -/
def byt (s : ByteArray) (i : Nat) : Nat := (s.get! i).toNat
theorem byt_of {s : ByteArray} {i : Nat} (h : i < s.size) : (s[i]'h).toNat = byt s i := by
  unfold byt
  have e : s.get! i = s[i]'h := by
    cases s with
    | mk d =>
      have h' : i < d.size := h
      show d[i]! = d[i]
      simp [h']
  rw [e]
theorem byt_lt (s : ByteArray) (i : Nat) : byt s i < 256 := (s.get! i).toNat_lt
theorem dig_byt (s : ByteArray) (i : Nat) : dig s i = digitN (byt s i) := rfl

theorem low_up {c : Nat} (h : digitN c < 36) (h1 : 65 ≤ c) (h2 : c ≤ 90) : chrN (digitN c) = c + 32 := by
  unfold chrN digitN
  rw [if_neg (by omega : ¬ (48 ≤ c ∧ c ≤ 57)), if_neg (by omega : ¬ (97 ≤ c ∧ c ≤ 122)), if_pos (by omega : 65 ≤ c ∧ c ≤ 90), if_neg (by omega)]
  omega
theorem low_id {c : Nat} (h : digitN c < 36) (h1 : ¬ (65 ≤ c ∧ c ≤ 90)) : chrN (digitN c) = c := by
  unfold digitN at h ⊢
  unfold chrN
  by_cases a : 48 ≤ c ∧ c ≤ 57
  · rw [if_pos a, if_pos (by omega)]; omega
  · rw [if_neg a] at h ⊢
    by_cases b : 97 ≤ c ∧ c ≤ 122
    · rw [if_pos b, if_neg (by omega)]; omega
    · rw [if_neg b, if_neg h1] at h; omega
theorem low_zero {c : Nat} : digitN c = 0 ↔ c = 48 := by
  unfold digitN
  by_cases a : 48 ≤ c ∧ c ≤ 57
  · rw [if_pos a]; omega
  · rw [if_neg a]
    by_cases b : 97 ≤ c ∧ c ≤ 122
    · rw [if_pos b]; omega
    · rw [if_neg b]
      by_cases d : 65 ≤ c ∧ c ≤ 90
      · rw [if_pos d]; omega
      · rw [if_neg d]; omega

set_option maxHeartbeats 8000000 in
/-- slopelaw1.lower. -/
theorem lower_any (s : ByteArray) (hs : s.size ≤ 65536) (h0 : 0 < s.size) (hall : ∀ j, j < s.size → dig s j < 36) (w : World) :
    Calls Try.prog 16 #[.string s] w fun e w' => ∃ i, i < s.size ∧ (∀ j, j < i → dig s j = 0) ∧ (i + 1 < s.size → dig s i ≠ 0) ∧ e = .returned (.string (strB (lst (fun p => chrN (dig s (i + p))) (s.size - i)))) ∧ Below w.heap.size w w' := by
  have HA := hide hall
  clear hall
  go_enter Try.func16, Try.ntmps16
  go_wp2_with fail
  go_loop [3] (fun iv => ∃ i : Nat, i < s.size ∧ iv = .int .i64 (i : Nat) ∧ Hid (∀ j, j < i → dig s j = 0)) (fun iv => s.size - (intOf iv).toNat)
  case atStart => exact ⟨0, h0, rfl, fun j hj => by omega⟩
  case round =>
    obtain ⟨i, hi, rfl, HZ⟩ := hrel
    have hby := byt_of hi
    have hbl := byt_lt s i
    by_cases hst : i + 1 < s.size ∧ byt s i = 48
    · obtain ⟨hi1, hz⟩ := hst
      have t1 : (i:Int) + 1 < (s.size:Int) := by omega
      rw [hz] at hby
      have HZ2 := hide (show ∀ j, j < i + 1 → dig s j = 0 from fun j hj => by
        by_cases e : j = i
        · rw [e, dig_byt]; exact low_zero.2 hz
        · exact unhide HZ j (by omega))
      clear HZ hz hbl
      go_wp2_with fail
      exact ⟨⟨i + 1, by omega, by go_num, unhide HZ2⟩, by simp [intOf]; omega⟩
    · have HN := hide (show i + 1 < s.size → dig s i ≠ 0 from fun h1 h2 => hst ⟨h1, low_zero.1 (by rw [← dig_byt]; exact h2)⟩)
      obtain ⟨q, hq⟩ : ∃ q, s.size - i = q := ⟨_, rfl⟩
      have hq1 : (s.size:Int) - (i:Int) = (q:Int) := by omega
      have hmk := make_b q (by omega)
      have HF := hide (FnB.made w q 5)
      have HB := hide ((Below.refl w.heap.size w).alloc (Nat.le_refl _) (.cells (madeCells #[.int .u8 0] q) 5))
      have HQ := hide hq
      have hst2 : ¬ i + 1 < s.size ∨ ¬ byt s i = 48 := by omega
      rw [← hby] at hst2
      clear hst hby hbl hq
      have hend : ∀ (K : Prop), (i + 1 < s.size → ¬ (s[i]'hi).toNat = 48 → K) → (¬ i + 1 < s.size → K) → K := fun K h1 h2 => by
        by_cases e : i + 1 < s.size
        · exact h1 e (hst2.resolve_left (fun h => h e))
        · exact h2 e
      by_cases e1 : i + 1 < s.size
      · have t1 : (i:Int) + 1 < (s.size:Int) := by omega
        have t2 : ¬ (s[i]'hi).toNat = 48 := hst2.resolve_left (fun h => h e1)
        have t3 : ¬ ((s[i]'hi).toNat : Int) = 48 := by omega
        have t4 : (((s[i]'hi).toNat : Int) == 48) = false := by simpa using t3
        clear hend hst2
        go_wp2_with fail
        go_loopw [5] (fun kv wr => ∃ k : Nat, k ≤ q ∧ kv = .int .i64 (k : Nat) ∧ FnB wr w.heap.size 0 q (fun p => if p < k then chrN (dig s (i + p)) else 0) ∧ Below w.heap.size w wr) (fun kv _ => q - (intOf kv).toNat)
        case atStart => exact ⟨0, Nat.zero_le _, rfl, (unhide HF).congr (fun p hp => by simp), unhide HB⟩
        case round =>
          clear HF HB
          obtain ⟨k, hk, rfl, hF, hB⟩ := hrel
          by_cases hkq : k < q
          · have u1 : (k:Int) < (q:Int) := by omega
            have hik : i + k < s.size := by have := unhide HQ; omega
            have u2 : (i:Int) + (k:Int) = ((i + k : Nat) : Int) := by omega
            have f1 := (hF k hkq).1
            have f2 := (hF k hkq).2
            rw [Nat.zero_add] at f1 f2
            have hby := byt_of hik
            have hdl := unhide HA (i + k) hik
            have hset := hF.set k (chrN (dig s (i + k))) hkq
            rw [Nat.zero_add] at hset
            have HN2 := hide (show FnB _ w.heap.size 0 q (fun p => if p < k + 1 then chrN (dig s (i + p)) else 0) from hset.congr (fun p hp => by
              by_cases e : p = k
              · subst e; simp
              · by_cases e2 : p < k
                · simp [e, e2, Nat.lt_succ_of_lt e2]
                · simp only [e, e2, if_false]
                  rw [if_neg (by omega)]))
            have HB2 := hide (hB.setCell (p := ⟨w.heap.size, k, none⟩) (Nat.le_refl _) (.int .u8 (chrN (dig s (i + k)) : Nat)))
            obtain ⟨c, hc⟩ : ∃ c, byt s (i + k) = c := ⟨_, rfl⟩
            rw [dig_byt, hc] at hdl
            rw [dig_byt, hc] at HN2 HB2
            rw [hc] at hby
            have hc256 : c < 256 := by rw [← hc]; exact byt_lt s _
            generalize i + k = ik at *
            clear hset hF hB hc
            by_cases hup : 65 ≤ c ∧ c ≤ 90
            · rw [low_up hdl hup.1 hup.2] at HN2 HB2
              have v1 : (65:Int) ≤ (c:Int) := by omega
              have v2 : (c:Int) ≤ 90 := by omega
              have v3 : (c:Int) + 32 = ((c + 32 : Nat) : Int) := by omega
              have v4 : c + 32 < 256 := by omega
              generalize c + 32 = z at *
              clear hup hdl
              go_wp2_with fail
              exact ⟨⟨k + 1, by omega, by go_num, unhide HN2, unhide HB2⟩, by simp [intOf]; omega⟩
            · rw [low_id hdl hup] at HN2 HB2
              clear hdl
              by_cases h65 : 65 ≤ c
              · have v1 : (65:Int) ≤ (c:Int) := by omega
                have v2 : ¬ (c:Int) ≤ 90 := by omega
                clear hup
                go_wp2_with fail
                exact ⟨⟨k + 1, by omega, by go_num, unhide HN2, unhide HB2⟩, by simp [intOf]; omega⟩
              · have v1 : ¬ (65:Int) ≤ (c:Int) := by omega
                clear hup
                go_wp2_with fail
                exact ⟨⟨k + 1, by omega, by go_num, unhide HN2, unhide HB2⟩, by simp [intOf]; omega⟩
          · obtain rfl : k = q := by omega
            have u1 : ¬ (k:Int) < (k:Int) := by omega
            have hfin : FnB wr w.heap.size 0 k (fun p => chrN (dig s (i + p))) := hF.congr (fun p hp => by simp [hp])
            have kc := (hfin.slB (c := k) (Nat.le_refl _) (fun p hp => chrN_lt (unhide HA (i + p) (by have := unhide HQ; omega)))).conv
            have HB2 := hide hB
            obtain ⟨S, hS⟩ : ∃ S, strB (lst (fun p => chrN (dig s (i + p))) k) = S := ⟨_, rfl⟩
            have HS := hide hS
            rw [hS] at kc
            clear hF hB hfin hS
            go_wp2_with fail
            go_ret
            refine ⟨i, hi, unhide HZ, unhide HN, ?_, unhide HB2⟩
            rw [unhide HQ, unhide HS]
            rfl
      · have t1 : ¬ (i:Int) + 1 < (s.size:Int) := by omega
        clear hend hst2
        go_wp2_with fail
        go_loopw [5] (fun kv wr => ∃ k : Nat, k ≤ q ∧ kv = .int .i64 (k : Nat) ∧ FnB wr w.heap.size 0 q (fun p => if p < k then chrN (dig s (i + p)) else 0) ∧ Below w.heap.size w wr) (fun kv _ => q - (intOf kv).toNat)
        case atStart => exact ⟨0, Nat.zero_le _, rfl, (unhide HF).congr (fun p hp => by simp), unhide HB⟩
        case round =>
          clear HF HB
          obtain ⟨k, hk, rfl, hF, hB⟩ := hrel
          by_cases hkq : k < q
          · have u1 : (k:Int) < (q:Int) := by omega
            have hik : i + k < s.size := by have := unhide HQ; omega
            have u2 : (i:Int) + (k:Int) = ((i + k : Nat) : Int) := by omega
            have f1 := (hF k hkq).1
            have f2 := (hF k hkq).2
            rw [Nat.zero_add] at f1 f2
            have hby := byt_of hik
            have hdl := unhide HA (i + k) hik
            have hset := hF.set k (chrN (dig s (i + k))) hkq
            rw [Nat.zero_add] at hset
            have HN2 := hide (show FnB _ w.heap.size 0 q (fun p => if p < k + 1 then chrN (dig s (i + p)) else 0) from hset.congr (fun p hp => by
              by_cases e : p = k
              · subst e; simp
              · by_cases e2 : p < k
                · simp [e, e2, Nat.lt_succ_of_lt e2]
                · simp only [e, e2, if_false]
                  rw [if_neg (by omega)]))
            have HB2 := hide (hB.setCell (p := ⟨w.heap.size, k, none⟩) (Nat.le_refl _) (.int .u8 (chrN (dig s (i + k)) : Nat)))
            obtain ⟨c, hc⟩ : ∃ c, byt s (i + k) = c := ⟨_, rfl⟩
            rw [dig_byt, hc] at hdl
            rw [dig_byt, hc] at HN2 HB2
            rw [hc] at hby
            have hc256 : c < 256 := by rw [← hc]; exact byt_lt s _
            generalize i + k = ik at *
            clear hset hF hB hc
            by_cases hup : 65 ≤ c ∧ c ≤ 90
            · rw [low_up hdl hup.1 hup.2] at HN2 HB2
              have v1 : (65:Int) ≤ (c:Int) := by omega
              have v2 : (c:Int) ≤ 90 := by omega
              have v3 : (c:Int) + 32 = ((c + 32 : Nat) : Int) := by omega
              have v4 : c + 32 < 256 := by omega
              generalize c + 32 = z at *
              clear hup hdl
              go_wp2_with fail
              exact ⟨⟨k + 1, by omega, by go_num, unhide HN2, unhide HB2⟩, by simp [intOf]; omega⟩
            · rw [low_id hdl hup] at HN2 HB2
              clear hdl
              by_cases h65 : 65 ≤ c
              · have v1 : (65:Int) ≤ (c:Int) := by omega
                have v2 : ¬ (c:Int) ≤ 90 := by omega
                clear hup
                go_wp2_with fail
                exact ⟨⟨k + 1, by omega, by go_num, unhide HN2, unhide HB2⟩, by simp [intOf]; omega⟩
              · have v1 : ¬ (65:Int) ≤ (c:Int) := by omega
                clear hup
                go_wp2_with fail
                exact ⟨⟨k + 1, by omega, by go_num, unhide HN2, unhide HB2⟩, by simp [intOf]; omega⟩
          · obtain rfl : k = q := by omega
            have u1 : ¬ (k:Int) < (k:Int) := by omega
            have hfin : FnB wr w.heap.size 0 k (fun p => chrN (dig s (i + p))) := hF.congr (fun p hp => by simp [hp])
            have kc := (hfin.slB (c := k) (Nat.le_refl _) (fun p hp => chrN_lt (unhide HA (i + p) (by have := unhide HQ; omega)))).conv
            have HB2 := hide hB
            obtain ⟨S, hS⟩ : ∃ S, strB (lst (fun p => chrN (dig s (i + p))) k) = S := ⟨_, rfl⟩
            have HS := hide hS
            rw [hS] at kc
            clear hF hB hfin hS
            go_wp2_with fail
            go_ret
            refine ⟨i, hi, unhide HZ, unhide HN, ?_, unhide HB2⟩
            rw [unhide HQ, unhide HS]
            rfl
open Go.ChangeShapes Go.WideShapes Go.ChangeAt Go.RowKit Go.Deep
set_option linter.unusedVariables false

theorem PaIs.good {s : ByteArray} {b : Int} {xs : List Nat} {p e : Int} (h : PaIs s b xs p e) (he : e = 0) :
    p = 0 ∧ ∃ k : Nat, b = (k : Int) ∧ 2 ≤ k ∧ k ≤ 36 ∧ s.size ≤ 65536 ∧ 0 < s.size ∧ (∀ j, j < s.size → dig s j < k) ∧ xs = limbs (numP s k s.size) ∧ MayL xs = true := by
  cases h with
  | long h => exact absurd he (by decide)
  | base h hb => exact absurd he (by decide)
  | none h hb => exact absurd he (by decide)
  | digit i h hb hi hl => exact absurd he (by decide)
  | read zs e h h0 hb hi hr =>
    refine ⟨rfl, b.toNat, by omega, by omega, by omega, h, h0, hi, ?_⟩
    unfold fitL at hr
    split at hr
    · injection hr with h1 h2
      rw [← h2] at he
      exact absurd he (by decide)
    · rename_i hl
      injection hr with h1 h2
      rw [← h1]
      exact ⟨rfl, MayL.mk (limbs_rep _).norm (by omega)⟩

set_option maxRecDepth 20000 in
set_option maxHeartbeats 16000000 in
theorem natTexts_walk (s : ByteArray) (b o : Int) (w : World) (hs0 : s.size ≤ 9223372036854775807) :
    Calls Try.prog 5 #[.string s, .int .i64 b, .int .i64 o] w fun e w' => e = .returned (.bool true) ∧ Below w.heap.size w w' := by
  go_enter Try.func5, Try.ntmps5
  go_wp2_with fail
  refine (alive_any w).mono ?_
  rintro _ w0 ⟨rfl, b0⟩
  have B0 := hide b0
  clear b0
  go_wp2_with fail
  refine (nparse_any s b w0).mono ?_
  rintro _ w1 ⟨a1, n1, c1, xs, p1, e1, rfl, s1, b1, h1⟩
  have B1 := hide ((unhide B0).trans (b1.mono (unhide B0).size))
  have S1 := hide s1
  clear b1 B0
  go_wp2_with fail
  refine (num_any _ _).mono ?_
  rintro _ _ ⟨rfl, hw⟩
  obtain rfl := hw.symm
  clear hw
  by_cases he : e1 = 0
  · obtain ⟨hp1, k, rfl, k1, k2, hsz, hs1, hall, hxs, hm⟩ := h1.good he
    subst hp1 he
    have ox : Ok xs := by rw [hxs]; exact (limbs_rep _).ok
    have nx : Norm xs := MayL.norm hm
    have hV : val xs = numP s k s.size := by rw [hxs]; exact (limbs_rep _).val
    have HALL := hide hall
    have HM := hide hm
    have HV := hide hV
    clear s1 h1 hall hxs hV hm
    go_wp2_with fail
    refine (nprint_any a1 n1 c1 xs (k : Int) w1 (unhide S1) ox).mono ?_
    rintro _ w2 ⟨t, f, rfl, hT, b2⟩
    have hTg : ∃ n, TxtOf (val xs) k n ∧ t = strB (txtL (val xs) k n) ∧ f = 0 := by
      cases hT with
      | nat h => rw [unhide HM] at h; cases h
      | base h hb => exact absurd (show (2:Int) ≤ (k:Int) ∧ (k:Int) ≤ 36 by omega) hb
      | text n h hb ht => rw [Int.toNat_natCast] at ht ⊢; exact ⟨n, ht, rfl, rfl⟩
    obtain ⟨nt, hnt, rfl, rfl⟩ := hTg
    have HNT := hide hnt
    have B2 := hide ((unhide B1).trans (b2.mono (unhide B1).size))
    have S2 := hide ((unhide S1).below b2)
    clear hT hnt b2 B1 S1
    go_wp2_with fail
    refine (num_any _ _).mono ?_
    rintro _ _ ⟨rfl, hw⟩
    obtain rfl := hw.symm
    clear hw
    go_wp2_with fail
    refine (lower_any s hsz hs1 (fun j hj => by have := unhide HALL j hj; omega) w2).mono ?_
    rintro _ w3 ⟨i, hi, hz, hne, rfl, b3⟩
    obtain ⟨hT2, htx⟩ := txt_read (s := s) (b := k) (i := i) k1 (unhide HALL) hi hz hne
    rw [← unhide HV] at hT2 htx
    rw [← htx, ← (unhide HNT).uniq k1 hT2]
    have B3 := hide ((unhide B2).trans (b3.mono (unhide B2).size))
    have S3 := hide ((unhide S2).below b3)
    clear hz hne b3 hT2 htx B2 S2
    generalize strB (txtL (val xs) k nt) = TX at *
    go_wp2_with fail
    refine (may_any a1 n1 c1 xs w3 (unhide S3)).mono ?_
    rintro _ _ ⟨rfl, hw⟩
    obtain rfl := hw.symm
    clear hw
    rw [unhide HM]
    go_wp2_with fail
    refine (nbytes_ok a1 n1 c1 xs w3 (unhide S3) ox (unhide HM)).mono ?_
    rintro _ w4 ⟨bb, hbb, rfl, f4, b4⟩
    have hbk := back_bytes ox (unhide HM)
    rw [show (bytesL xs).1 = lst (fun p => byteN (val xs) (bytesN xs - 1 - p)) (bytesN xs) from by unfold bytesL; rw [if_pos (unhide HM)]] at hbk
    have hB8 : bytesN xs ≤ 8192 := by
      have hh := MayL.len (unhide HM)
      by_cases h : 8192 < bytesN xs
      · exfalso
        unfold bytesN bitsN at h
        split at h
        · omega
        · rename_i h0
          have h2 := val_ge_bits ox nx h0
          have h1 := val_lt ox
          rw [pow_limb] at h1
          have h3 : 2 ^ (bitsL xs - 1) < 2 ^ (32 * xs.length) := Nat.lt_of_le_of_lt h2.2 h1
          have := (Nat.pow_lt_pow_iff_right (by decide : 1 < 2)).1 h3
          omega
      · omega
    have KF := nfrom_some bb 0 (bytesN xs) (bytesN xs) _ w4 (f4.slB (Nat.le_refl _) (fun p hp => byteN_lt _ _)) (by unfold maxLen; omega)
    rw [hbk] at KF
    have KF' := hide KF
    have B4 := hide ((unhide B3).trans (b4.mono (unhide B3).size))
    have S4 := hide ((unhide S3).below b4)
    have hBe : bytesN xs = (bitsN xs + 7) / 8 := rfl
    have KBits := hide (fun (wx : World) (hx : Sl wx a1 n1 c1 xs) => nbits_any a1 n1 c1 xs wx hx ox (unhide HM))
    have HL1 := hide (unhide S4).len
    have HTwo := hide (fun (h0 : xs ≠ []) (n : Nat) (h : TxtOf (val xs) 2 n) => two_digits ox nx h0 h)
    generalize bitsN xs = BN at *
    obtain ⟨BY, hBY⟩ : ∃ BY, bytesN xs = BY := ⟨_, rfl⟩
    rw [hBY] at hBe hB8 KF' ⊢
    have q1 : ((BN:Int) + 7) / 8 = (BY:Int) := by omega
    have q2 : ((BN:Int) + 7).tdiv 8 = (BY:Int) := by rw [Int.tdiv_eq_ediv_of_nonneg (by omega)]; omega
    clear KF hbk f4 b4 B3 S3 hBe hBY hbb
    go_wp2_with fail
    refine (unhide KF').mono ?_
    rintro _ w5 ⟨a5, m5, c5, rfl, s5, n5, b5⟩
    have B5 := hide ((unhide B4).trans (b5.mono (unhide B4).size))
    have S5 := hide ((unhide S4).below b5)
    have M5 := hide s5
    clear s5 n5 b5 B4 S4 KF'
    go_wp2_with fail
    refine (num_any _ _).mono ?_
    rintro _ _ ⟨rfl, hw⟩
    obtain rfl := hw.symm
    clear hw
    go_wp2_with fail
    refine (num_any _ _).mono ?_
    rintro _ _ ⟨rfl, hw⟩
    obtain rfl := hw.symm
    clear hw
    go_wp2_with fail
    refine (same_any a5 a1 m5 c5 n1 c1 xs xs w5 (unhide M5) (unhide S5)).mono ?_
    rintro _ w6 ⟨rfl, k6, hw6⟩
    rw [decide_eq_true (rfl : xs = xs)]
    have B6 := hide (show Below w.heap.size w w6 from by rw [hw6]; exact bel_drewN (unhide B5) k6)
    have S6 := hide (show Sl w6 a1 n1 c1 xs from by rw [hw6]; exact (unhide S5).drewN k6)
    clear hw6 B5 S5 M5
    go_wp2_with fail
    refine (unhide KBits w6 (unhide S6)).mono ?_
    rintro _ _ ⟨rfl, hw⟩
    obtain rfl := hw.symm
    clear hw
    go_wp2_with fail
    refine (nprint_any a1 n1 c1 xs 2 w6 (unhide S6) ox).mono ?_
    rintro _ w7 ⟨t7, f7, rfl, hT, b7⟩
    have hTg : ∃ n, TxtOf (val xs) 2 n ∧ t7 = strB (txtL (val xs) 2 n) ∧ f7 = 0 := by
      cases hT with
      | nat h => rw [unhide HM] at h; cases h
      | base h hb => exact absurd (by decide) hb
      | text n h hb ht => exact ⟨n, ht, rfl, rfl⟩
    obtain ⟨n7, hn7, ht7, rfl⟩ := hTg
    have hz7 : t7.size = n7 := by rw [ht7, strB_size]; exact lst_len _ _
    have hbit : 0 < n1 → t7.size = BN := fun h0 => by
      rw [hz7]
      exact unhide HTwo (by intro e; have := unhide HL1; rw [e] at this; simp at this; omega) n7 hn7
    have B7 := hide ((unhide B6).trans (b7.mono (unhide B6).size))
    have S7 := hide ((unhide S6).below b7)
    clear hT hn7 ht7 hz7 b7 B6 S6 HTwo HL1
    have HBit := hide hbit
    clear hbit
    go_wp2_with fail
    refine (num_any _ _).mono ?_
    rintro _ _ ⟨rfl, hw⟩
    obtain rfl := hw.symm
    clear hw
    by_cases h0 : 0 < n1
    · have h0' : (0:Int) < (n1:Int) := by omega
      have hb7 := unhide HBit h0
      have hb7' : (t7.size:Int) = (BN:Int) := by omega
      clear HBit
      go_wp2_with fail
      refine (unhide KBits w7 (unhide S7)).mono ?_
      rintro _ _ ⟨rfl, hw⟩
      obtain rfl := hw.symm
      clear hw
      go_wp2_with fail
      refine (nprint_any a1 n1 c1 xs o w7 (unhide S7) ox).mono ?_
      rintro _ w8 ⟨t8, f8, rfl, hT, b8⟩
      have B8 := hide ((unhide B7).trans (b8.mono (unhide B7).size))
      have S8 := hide ((unhide S7).below b8)
      clear b8 B7 S7
      by_cases ho : 2 ≤ o ∧ o ≤ 36
      · obtain ⟨kk, rfl⟩ : ∃ kk : Nat, o = (kk : Int) := ⟨o.toNat, by omega⟩
        have hTg : ∃ n, TxtOf (val xs) kk n ∧ t8 = strB (txtL (val xs) kk n) ∧ f8 = 0 := by
          cases hT with
          | nat h => rw [unhide HM] at h; cases h
          | base h hb => exact absurd ho hb
          | text n h hb ht => rw [Int.toNat_natCast] at ht ⊢; exact ⟨n, ht, rfl, rfl⟩
        obtain ⟨n8, hn8, ht8, rfl⟩ := hTg
        have hback : PaIs t8 (kk : Nat) xs 0 0 := by rw [ht8]; exact back_txt (by omega) (by omega) ox (unhide HM) hn8
        have HBK := hide hback
        have o1 : ¬ (kk:Int) < 2 := by omega
        have o2 : ¬ (36:Int) < (kk:Int) := by omega
        clear hT hn8 ht8 hback ho
        go_wp2_with fail
        refine (nparse_any t8 (kk : Int) w8).mono ?_
        rintro _ w9 ⟨a9, n9, c9, x9, p9, e9, rfl, s9, b9, h9⟩
        obtain ⟨hx, hp, he⟩ := (unhide HBK).uniq h9
        subst hx hp he
        have B9 := hide ((unhide B8).trans (b9.mono (unhide B8).size))
        have S9 := hide ((unhide S8).below b9)
        have M9 := hide s9
        clear h9 s9 b9 HBK B8 S8
        go_wp2_with fail
        refine (num_any _ _).mono ?_
        rintro _ _ ⟨rfl, hw⟩
        obtain rfl := hw.symm
        clear hw
        go_wp2_with fail
        refine (num_any _ _).mono ?_
        rintro _ _ ⟨rfl, hw⟩
        obtain rfl := hw.symm
        clear hw
        go_wp2_with fail
        refine (same_any a9 a1 n9 c9 n1 c1 xs xs w9 (unhide M9) (unhide S9)).mono ?_
        rintro _ wx ⟨rfl, kx, hwx⟩
        rw [decide_eq_true (rfl : xs = xs)]
        have BX := hide (show Below w.heap.size w wx from by rw [hwx]; exact bel_drewN (unhide B9) kx)
        clear hwx B9 S9 M9
        go_wp2_with fail
        go_ret
        exact ⟨rfl, unhide BX⟩
      · have hTb : t8 = strB [] ∧ f8 = 22 := by
          cases hT with
          | nat h => rw [unhide HM] at h; cases h
          | base h hb => exact ⟨rfl, rfl⟩
          | text n h hb ht => exact absurd hb ho
        obtain ⟨rfl, rfl⟩ := hTb
        clear hT
        have hemp : strB [] = (⟨#[]⟩ : ByteArray) := rfl
        rw [hemp]
        by_cases o1 : o < 2
        · clear ho
          go_wp2_with fail
          refine (num_any _ _).mono ?_
          rintro _ _ ⟨rfl, hw⟩
          obtain rfl := hw.symm
          clear hw
          go_wp2_with fail
          go_ret
          exact ⟨rfl, unhide B8⟩
        · have o2 : 36 < o := by omega
          clear ho
          go_wp2_with fail
          refine (num_any _ _).mono ?_
          rintro _ _ ⟨rfl, hw⟩
          obtain rfl := hw.symm
          clear hw
          go_wp2_with fail
          go_ret
          exact ⟨rfl, unhide B8⟩
    · have h0' : n1 = 0 := by omega
      subst h0'
      clear HBit
      go_wp2_with fail
      refine (nprint_any a1 0 c1 xs o w7 (unhide S7) ox).mono ?_
      rintro _ w8 ⟨t8, f8, rfl, hT, b8⟩
      have B8 := hide ((unhide B7).trans (b8.mono (unhide B7).size))
      have S8 := hide ((unhide S7).below b8)
      clear b8 B7 S7
      by_cases ho : 2 ≤ o ∧ o ≤ 36
      · obtain ⟨kk, rfl⟩ : ∃ kk : Nat, o = (kk : Int) := ⟨o.toNat, by omega⟩
        have hTg : ∃ n, TxtOf (val xs) kk n ∧ t8 = strB (txtL (val xs) kk n) ∧ f8 = 0 := by
          cases hT with
          | nat h => rw [unhide HM] at h; cases h
          | base h hb => exact absurd ho hb
          | text n h hb ht => rw [Int.toNat_natCast] at ht ⊢; exact ⟨n, ht, rfl, rfl⟩
        obtain ⟨n8, hn8, ht8, rfl⟩ := hTg
        have hback : PaIs t8 (kk : Nat) xs 0 0 := by rw [ht8]; exact back_txt (by omega) (by omega) ox (unhide HM) hn8
        have HBK := hide hback
        have o1 : ¬ (kk:Int) < 2 := by omega
        have o2 : ¬ (36:Int) < (kk:Int) := by omega
        clear hT hn8 ht8 hback ho
        go_wp2_with fail
        refine (nparse_any t8 (kk : Int) w8).mono ?_
        rintro _ w9 ⟨a9, n9, c9, x9, p9, e9, rfl, s9, b9, h9⟩
        obtain ⟨hx, hp, he⟩ := (unhide HBK).uniq h9
        subst hx hp he
        have B9 := hide ((unhide B8).trans (b9.mono (unhide B8).size))
        have S9 := hide ((unhide S8).below b9)
        have M9 := hide s9
        clear h9 s9 b9 HBK B8 S8
        go_wp2_with fail
        refine (num_any _ _).mono ?_
        rintro _ _ ⟨rfl, hw⟩
        obtain rfl := hw.symm
        clear hw
        go_wp2_with fail
        refine (num_any _ _).mono ?_
        rintro _ _ ⟨rfl, hw⟩
        obtain rfl := hw.symm
        clear hw
        go_wp2_with fail
        refine (same_any a9 a1 n9 c9 0 c1 xs xs w9 (unhide M9) (unhide S9)).mono ?_
        rintro _ wx ⟨rfl, kx, hwx⟩
        rw [decide_eq_true (rfl : xs = xs)]
        have BX := hide (show Below w.heap.size w wx from by rw [hwx]; exact bel_drewN (unhide B9) kx)
        clear hwx B9 S9 M9
        go_wp2_with fail
        go_ret
        exact ⟨rfl, unhide BX⟩
      · have hTb : t8 = strB [] ∧ f8 = 22 := by
          cases hT with
          | nat h => rw [unhide HM] at h; cases h
          | base h hb => exact ⟨rfl, rfl⟩
          | text n h hb ht => exact absurd hb ho
        obtain ⟨rfl, rfl⟩ := hTb
        clear hT
        have hemp : strB [] = (⟨#[]⟩ : ByteArray) := rfl
        rw [hemp]
        by_cases o1 : o < 2
        · clear ho
          go_wp2_with fail
          refine (num_any _ _).mono ?_
          rintro _ _ ⟨rfl, hw⟩
          obtain rfl := hw.symm
          clear hw
          go_wp2_with fail
          go_ret
          exact ⟨rfl, unhide B8⟩
        · have o2 : 36 < o := by omega
          clear ho
          go_wp2_with fail
          refine (num_any _ _).mono ?_
          rintro _ _ ⟨rfl, hw⟩
          obtain rfl := hw.symm
          clear hw
          go_wp2_with fail
          go_ret
          exact ⟨rfl, unhide B8⟩
  · have hbad : xs = [] ∧ 0 ≤ p1 ∧ p1 ≤ (s.size : Int) := by
      cases h1 with
      | long h => exact ⟨rfl, by omega, by omega⟩
      | base h hb => exact ⟨rfl, by omega, by omega⟩
      | none h hb => exact ⟨rfl, by omega, by omega⟩
      | digit i h hb hi hl => exact ⟨rfl, by omega, by omega⟩
      | read zs e h h0 hb hi hr =>
        unfold fitL at hr
        split at hr
        · injection hr with h1 h2; exact ⟨h1.symm, by omega, by omega⟩
        · injection hr with h1 h2; exact absurd h2.symm he
    obtain ⟨hx, hp1, hp2⟩ := hbad
    have hn1 : n1 = 0 := by have := s1.len; rw [hx] at this; simpa using this.symm
    subst hn1
    have t1 : (e1 == 0) = false := by simpa using he
    have t2 : (e1 != 0) = true := by simpa using he
    clear s1 h1 hx
    go_wp2_with fail
    go_ret
    exact ⟨rfl, unhide B1⟩
end Go.Proofs.Ytlecjjcpidjmhaa
