/-
  Texts of sets: Parse in one form for each of its two answers.
-/
import Derived.Test.YtbendkndnojihabDoorByk
import Derived.Test.YtbendkndnojihabDoorBtb
import Derived.Lib.ItoaNum
import Derived.Laws.BytesArg
namespace Go.Proofs.YtbendkndnojihabDoor
open Go.RowKit Go.Deep
set_option linter.unusedVariables false

theorem paR_small {s : ByteArray} {z : Nat × (Nat → Bool)} (h : paR s = .inl z) : s.size ≤ 65536 := by
  unfold paR at h
  split at h
  · cases h
  · omega
theorem parse_yes (s : ByteArray) (sz : Nat) (P : Nat → Bool) (w : World) (hmax : s.size ≤ 9223372036854775807) (h : paR s = .inl (sz, P)) :
    Calls Tryd.prog 36 #[.string s] w fun r w' => ∃ a n c, r = .returned (.tuple #[setV (sz : Int) a n c, .int .i64 0, .int .i64 0]) ∧ SlW w' a n c (wordsL sz P) ∧ Below w.heap.size w w' := by
  refine (parse_any s w hmax).mono ?_
  rintro r w' (⟨sz', P', e, _, a, n, c, hr, hs, hb⟩ | ⟨p, er, e, hr, hb⟩)
  · rw [h] at e
    cases e
    exact ⟨a, n, c, hr, hs, hb⟩
  · rw [h] at e
    cases e
theorem parse_no (s : ByteArray) (p : Nat) (er : Int) (w : World) (hmax : s.size ≤ 9223372036854775807) (h : paR s = .inr (p, er)) :
    Calls Tryd.prog 36 #[.string s] w fun r w' => r = .returned (.tuple #[.agg #[.int .i64 0, .slice none 0 0], .int .i64 (p : Int), .int .i64 er]) ∧ Below w.heap.size w w' := by
  refine (parse_any s w hmax).mono ?_
  rintro r w' (⟨sz', P', e, _, a, n, c, hr, hs, hb⟩ | ⟨p', er', e, hr, hb⟩)
  · rw [h] at e
    cases e
  · rw [h] at e
    cases e
    exact ⟨hr, hb⟩
end Go.Proofs.YtbendkndnojihabDoor

namespace Go.Proofs.YtbendkndnojihabDoor
open Go.RowKit Go.Deep
set_option linter.unusedVariables false

/-- A text of bytes. -/
def strL (l : List UInt8) : ByteArray := ⟨l.toArray⟩
theorem strL_size (l : List UInt8) : (strL l).size = l.length := by simp [strL, ByteArray.size]
theorem strL_append (a b : List UInt8) : strL a ++ strL b = strL (a ++ b) := by
  apply ByteArray.ext
  simp [strL, ByteArray.data_append]
theorem strL_inj {a b : List UInt8} (h : strL a = strL b) : a = b := by
  have := congrArg (fun x : ByteArray => x.data.toList) h
  simpa [strL] using this
/-- One byte as a string. -/
theorem conv_one (x : Nat) (w : World) (hx : x < 256) : (convert 78 9 (.slice (some ⟨w.heap.size, 0, none⟩) 1 1)).run Tryd.prog (w.alloc (.cells #[.int .u8 (x : Int)] 5)) = .ok (.string (strL [UInt8.ofNat x])) (w.alloc (.cells #[.int .u8 (x : Int)] 5)) := by
  refine (run_convert_bytes_arg (w.alloc (.cells #[.int .u8 (x : Int)] 5)) 78 5 Tryd.underlying78 Tryd.underlying5 w.heap.size 0 1 1 [(x : Int)] rfl (fun i hi => ?_) 9 Tryd.underlying9).trans ?_
  · obtain rfl : i = 0 := by omega
    simp
  · simp [strOfNums, strL]
theorem dec_len (n : Nat) (h : n < 10000000) : (Lib.decDigits n).length ≤ 7 := by
  rw [Lib.decDigits_length]
  rcases Nat.lt_or_ge n 10 with c | c
  · rw [Lib.nDigits_small c]; omega
  · have h0 := Lib.lt_pow_nDigits n
    by_cases c1 : n < 100
    · rw [Lib.nDigits_unique 1 n (by omega) (by omega)]; omega
    · by_cases c2 : n < 1000
      · rw [Lib.nDigits_unique 2 n (by omega) (by omega)]; omega
      · by_cases c3 : n < 10000
        · rw [Lib.nDigits_unique 3 n (by omega) (by omega)]; omega
        · by_cases c4 : n < 100000
          · rw [Lib.nDigits_unique 4 n (by omega) (by omega)]; omega
          · by_cases c5 : n < 1000000
            · rw [Lib.nDigits_unique 5 n (by omega) (by omega)]; omega
            · rw [Lib.nDigits_unique 6 n (by omega) (by omega)]; omega

set_option maxHeartbeats 4000000 in
set_option maxRecDepth 100000 in
/-- sloperef3.Decimal. -/
theorem decimal_any (n : Nat) (w : World) (hn : n ≤ 1000000) :
    Calls Tryd.prog 54 #[.int .i64 (n : Int)] w fun e w' => e = .returned (.string (strL (Lib.decDigits n))) ∧ Below w.heap.size w w' := by
  have hlen := dec_len n (by omega)
  have e0 : (.string { data := #[] } : Value) = .string (strL []) := rfl
  obtain ⟨R, hR⟩ : ∃ R, Lib.decDigits n = R := ⟨_, rfl⟩
  rw [hR] at hlen ⊢
  have HR := hide hR
  clear hR
  go_enter Tryd.func54, Tryd.ntmps54
  go_wp2_with fail
  go_loopw [0, 3] (fun v s wr => ∃ (m : Nat) (l : List UInt8), m ≤ n ∧ v = .int .i64 m ∧ s = .string (strL l) ∧ R = Lib.decDigits m ++ l ∧ Below w.heap.size w wr) (fun v _ _ => (intOf v).toNat)
  case atStart => exact ⟨n, [], Nat.le_refl _, rfl, rfl, by simp [unhide HR], Below.refl _ _⟩
  case round =>
    obtain ⟨m, l, hm, rfl, rfl, hd, hb⟩ := hrel
    have hll : l.length ≤ 7 := by have := congrArg List.length hd; simp at this; omega
    have hls := strL_size l
    have HD := hide hd
    have HB := hide hb
    clear hd hb
    obtain ⟨S, hS⟩ : ∃ S, strL l = S := ⟨_, rfl⟩
    rw [hS] at hls ⊢
    have HS := hide hS
    have hs7 : S.size ≤ 7 := by omega
    clear hS hls
    by_cases hlt : 10 ≤ m
    · have hlt' : (10 : Int) ≤ (m : Int) := by omega
      obtain ⟨d, hd⟩ : ∃ d, m % 10 = d := ⟨_, rfl⟩
      obtain ⟨q, hq⟩ : ∃ q, m / 10 = q := ⟨_, rfl⟩
      have hd' : (m : Int) % 10 = (d : Int) := by omega
      have hq' : (m : Int) / 10 = (q : Int) := by omega
      have hd9 : d < 10 := by omega
      have hqm : q < m := by omega
      have hc := conv_one (48 + d) wr (by omega)
      rw [show ((48 + d : Nat) : Int) = 48 + (d : Int) from by omega] at hc
      have hbs := strL_size [UInt8.ofNat (48 + d)]
      have HE := hide (show R = Lib.decDigits q ++ ([UInt8.ofNat (48 + d)] ++ l) by
        rw [unhide HD, ← hq, ← hd]
        conv => lhs; rw [Lib.decDigits]
        rw [dif_neg (by omega)]
        simp)
      obtain ⟨B, hB⟩ : ∃ B, strL [UInt8.ofNat (48 + d)] = B := ⟨_, rfl⟩
      rw [hB] at hc hbs
      have HBB := hide hB
      have hb1 : B.size = 1 := hbs
      clear hd hq hB hbs
      go_wp2_with fail
      refine ⟨⟨q, [UInt8.ofNat (48 + d)] ++ l, by omega, rfl, ?_, unhide HE, ?_⟩, by simp [intOf]; omega⟩
      · rw [← strL_append, unhide HBB, unhide HS]
      · exact (unhide HB).alloc (unhide HB).size _
    · have hlt' : ¬ (10 : Int) ≤ (m : Int) := by omega
      have hc := conv_one (48 + m) wr (by omega)
      rw [show ((48 + m : Nat) : Int) = 48 + (m : Int) from by omega] at hc
      have hbs := strL_size [UInt8.ofNat (48 + m)]
      have HE := hide (show R = [UInt8.ofNat (48 + m)] ++ l by
        rw [unhide HD, Lib.decDigits_one (by omega)])
      obtain ⟨B, hB⟩ : ∃ B, strL [UInt8.ofNat (48 + m)] = B := ⟨_, rfl⟩
      rw [hB] at hc hbs
      have HBB := hide hB
      have hb1 : B.size = 1 := hbs
      clear hB hbs
      go_wp2_with fail
      go_ret
      refine ⟨?_, (unhide HB).alloc (unhide HB).size _⟩
      rw [unhide HE, ← strL_append, unhide HBB, unhide HS]
      rfl
end Go.Proofs.YtbendkndnojihabDoor

namespace Go.Proofs.YtbendkndnojihabDoor
open Go.RowKit Go.Deep
set_option linter.unusedVariables false

/-- The bytes from place p on begin with l. -/
def Pre (s : ByteArray) (p : Nat) (l : List UInt8) : Prop := p ≤ s.size ∧ l <+: s.data.toList.drop p
theorem Pre.nil {s : ByteArray} {p : Nat} (h : p ≤ s.size) : Pre s p [] := ⟨h, List.nil_prefix⟩
theorem Pre.le {s : ByteArray} {p : Nat} {l : List UInt8} (h : Pre s p l) : p + l.length ≤ s.size := by
  have h2 := h.2.length_le
  have h1 := h.1
  have e : s.data.toList.length = s.size := Array.length_toList
  rw [List.length_drop, e] at h2
  omega
theorem Pre.app {s : ByteArray} {p : Nat} {a b : List UInt8} (h : Pre s p a) (h2 : Pre s (p + a.length) b) : Pre s p (a ++ b) := by
  obtain ⟨t, ht⟩ := h.2
  refine ⟨h.1, ?_⟩
  have e : s.data.toList.drop (p + a.length) = t := by
    rw [← List.drop_drop, ← ht]
    simp
  have h3 := h2.2
  rw [e] at h3
  obtain ⟨u, hu⟩ := h3
  exact ⟨u, by rw [List.append_assoc, hu, ht]⟩
theorem Pre.left {s : ByteArray} {p : Nat} {a b : List UInt8} (h : Pre s p (a ++ b)) : Pre s p a := ⟨h.1, List.IsPrefix.trans (List.prefix_append _ _) h.2⟩
theorem Pre.right {s : ByteArray} {p : Nat} {a b : List UInt8} (h : Pre s p (a ++ b)) : Pre s (p + a.length) b := by
  obtain ⟨t, ht⟩ := h.2
  have hl := h.left.le
  refine ⟨hl, t, ?_⟩
  rw [← List.drop_drop, ← ht]
  simp
theorem pre_one {s : ByteArray} {p : Nat} {c : UInt8} : Pre s p [c] ↔ p < s.size ∧ bySt s p = c.toNat := by
  have e2 : s.data.size = s.size := rfl
  constructor
  · intro h
    have hl := h.le
    simp at hl
    refine ⟨by omega, ?_⟩
    obtain ⟨t, ht⟩ := h.2
    have hp : p < s.data.toList.length := by simp; omega
    rw [List.drop_eq_getElem_cons hp] at ht
    simp at ht
    rw [← bySt_get s p (by omega)]
    rw [ht.1]
    rfl
  · rintro ⟨h1, h2⟩
    have hp : p < s.data.toList.length := by simp; omega
    refine ⟨by omega, ?_⟩
    rw [List.drop_eq_getElem_cons hp]
    rw [← bySt_get s p h1] at h2
    have : s[p]'h1 = c := UInt8.toNat_inj.1 h2
    refine ⟨s.data.toList.drop (p + 1), ?_⟩
    rw [← this]
    simp
    rfl
theorem dec_small {d : Nat} (h : d < 10) : Lib.decDigits d = [UInt8.ofNat (48 + d)] := by rw [Lib.decDigits, dif_pos h]
theorem dec_step {v d : Nat} (hv : 1 ≤ v) (hd : d < 10) : Lib.decDigits (10 * v + d) = Lib.decDigits v ++ [UInt8.ofNat (48 + d)] := by
  rw [Lib.decDigits, dif_neg (by omega), show (10 * v + d) / 10 = v from by omega, show (10 * v + d) % 10 = d from by omega]
theorem chr_toNat {d : Nat} (h : d < 10) : (UInt8.ofNat (48 + d)).toNat = 48 + d := by
  simp
  omega
theorem rdV_stuck (s : ByteArray) : ∀ f p, (rdV s f p 4097).1 = 4097
  | 0, p => rfl
  | f + 1, p => by
    unfold rdV
    split
    · rw [show min (10 * 4097 + (bySt s p - 48)) 4097 = 4097 from by omega]
      exact rdV_stuck s f (p + 1)
    · rfl
/-- Digits read further. -/
theorem rdV_text (s : ByteArray) (p0 : Nat) : ∀ f p v, p + f = s.size → 1 ≤ v → v ≤ 4096 → Pre s p0 (Lib.decDigits v) → p = p0 + (Lib.decDigits v).length → (rdV s f p v).1 ≤ 4096 → Pre s p0 (Lib.decDigits (rdV s f p v).1) ∧ (rdV s f p v).2 = p0 + (Lib.decDigits (rdV s f p v).1).length ∧ 1 ≤ (rdV s f p v).1
  | 0, p, v, hf, h1, h2, h3, h4, h5 => ⟨h3, h4, h1⟩
  | f + 1, p, v, hf, h1, h2, h3, h4, h5 => by
    unfold rdV at h5 ⊢
    split at h5
    · rename_i hd
      rw [if_pos hd]
      by_cases hv : 10 * v + (bySt s p - 48) ≤ 4096
      · rw [Nat.min_eq_left (by omega)] at h5 ⊢
        have hd2 : 48 ≤ bySt s p ∧ bySt s p ≤ 57 := by simpa [isDg] using hd
        have e := dec_step (v := v) (d := bySt s p - 48) h1 (by omega)
        have hp : Pre s p [UInt8.ofNat (48 + (bySt s p - 48))] := pre_one.2 ⟨by omega, by rw [chr_toNat (by omega)]; omega⟩
        refine rdV_text s p0 f (p + 1) _ (by omega) (by omega) hv ?_ ?_ h5
        · rw [e]; exact h3.app (by rw [← h4]; exact hp)
        · rw [e, h4]; simp; omega
      · rw [Nat.min_eq_right (by omega), rdV_stuck] at h5
        omega
    · rename_i hd
      rw [if_neg hd]
      exact ⟨h3, h4, h1⟩
/-- What number reads, where it is no more than 4096. -/
theorem numR_text {s : ByteArray} {p : Nat} (hp : p ≤ s.size) (hok : (numR s p).2 = true) (hv : (numR s p).1.1 ≤ 4096) : Pre s p (Lib.decDigits (numR s p).1.1) ∧ (numR s p).1.2 = p + (Lib.decDigits (numR s p).1.1).length := by
  unfold numR at *
  cases hs : skB s p 48
  · rw [hs] at hok hv
    simp only [Bool.false_eq_true, if_false] at hok hv ⊢
    have hlt : p < (rdV s (s.size - p) p 0).2 := by simpa using hok
    obtain ⟨f, hf⟩ : ∃ f, s.size - p = f := ⟨_, rfl⟩
    rw [hf] at hv hlt ⊢
    cases f with
    | zero => simp [rdV] at hlt
    | succ f =>
      unfold rdV at hv hlt ⊢
      split at hv
      · rename_i hd
        rw [if_pos hd]
        have hd2 : 48 ≤ bySt s p ∧ bySt s p ≤ 57 := by simpa [isDg] using hd
        have hne : bySt s p ≠ 48 := fun e => by
          have : skB s p 48 = true := by simp [skB, e]; omega
          rw [hs] at this
          cases this
        rw [show min (10 * 0 + (bySt s p - 48)) 4097 = bySt s p - 48 from by omega] at hv ⊢
        have e := dec_small (d := bySt s p - 48) (by omega)
        have := rdV_text s p f (p + 1) (bySt s p - 48) (by omega) (by omega) (by omega) (by rw [e]; exact pre_one.2 ⟨by omega, by rw [chr_toNat (by omega)]; omega⟩) (by rw [e]; rfl) hv
        exact ⟨this.1, this.2.1⟩
      · rename_i hd
        rw [if_neg hd] at hlt
        simp at hlt
  · simp only [if_true]
    have h1 : p < s.size ∧ bySt s p = 48 := by simpa [skB] using hs
    rw [dec_small (d := 0) (by omega)]
    exact ⟨pre_one.2 ⟨h1.1, h1.2⟩, rfl⟩
/-- The digits of a number are read to their end. -/
theorem rdV_back (s : ByteArray) (p : Nat) : ∀ n v, v ≤ n → 1 ≤ v → v ≤ 4096 → Pre s p (Lib.decDigits v) → ∀ f, p + (Lib.decDigits v).length + f = s.size → rdV s (f + (Lib.decDigits v).length) p 0 = rdV s f (p + (Lib.decDigits v).length) v
  | 0, v, h0, h1, h2, h3, f, hf => by omega
  | n + 1, v, h0, h1, h2, h3, f, hf => by
    by_cases hv : v < 10
    · have e := dec_small hv
      rw [e] at h3 ⊢
      have hb := pre_one.1 h3
      rw [chr_toNat hv] at hb
      show rdV s (f + 1) p 0 = _
      conv => lhs; unfold rdV
      rw [if_pos (by simp [isDg]; omega), hb.2, show min (10 * 0 + (48 + v - 48)) 4097 = v from by omega]
      rfl
    · have e : Lib.decDigits v = Lib.decDigits (v / 10) ++ [UInt8.ofNat (48 + v % 10)] := by
        have := dec_step (v := v / 10) (d := v % 10) (by omega) (by omega)
        rwa [show 10 * (v / 10) + v % 10 = v from by omega] at this
      rw [e] at h3 hf ⊢
      have ih := rdV_back s p n (v / 10) (by omega) (by omega) (by omega) h3.left (f + 1) (by simp at hf; omega)
      have hb := pre_one.1 h3.right
      rw [chr_toNat (by omega)] at hb
      rw [List.length_append, show f + ((Lib.decDigits (v / 10)).length + [UInt8.ofNat (48 + v % 10)].length) = f + 1 + (Lib.decDigits (v / 10)).length from by simp; omega, ih]
      conv => lhs; unfold rdV
      rw [if_pos (by simp [isDg]; omega), hb.2, show min (10 * (v / 10) + (48 + v % 10 - 48)) 4097 = v from by omega]
      simp [Nat.add_assoc]
theorem dec_head (s : ByteArray) (p : Nat) : ∀ n v, v ≤ n → 1 ≤ v → Pre s p (Lib.decDigits v) → bySt s p ≠ 48 ∧ p < s.size
  | 0, v, h0, h1, h => by omega
  | n + 1, v, h0, h1, h => by
    by_cases hv : v < 10
    · rw [dec_small hv] at h
      have hb := pre_one.1 h
      rw [chr_toNat hv] at hb
      exact ⟨by omega, hb.1⟩
    · have e : Lib.decDigits v = Lib.decDigits (v / 10) ++ [UInt8.ofNat (48 + v % 10)] := by
        have := dec_step (v := v / 10) (d := v % 10) (by omega) (by omega)
        rwa [show 10 * (v / 10) + v % 10 = v from by omega] at this
      rw [e] at h
      exact dec_head s p n (v / 10) (by omega) (by omega) h.left
/-- A number's digits, and no digit behind them. -/
theorem numR_back {s : ByteArray} {p v : Nat} (h : Pre s p (Lib.decDigits v)) (hv : v ≤ 4096) (hd : p + (Lib.decDigits v).length = s.size ∨ isDg (bySt s (p + (Lib.decDigits v).length)) = false) : numR s p = ((v, p + (Lib.decDigits v).length), true) := by
  unfold numR
  by_cases h0 : v = 0
  · subst h0
    rw [dec_small (d := 0) (by omega)] at h ⊢
    have hb := pre_one.1 h
    rw [if_pos (by simp [skB, hb.1, hb.2])]
    rfl
  · have hh := dec_head s p v v (Nat.le_refl _) (by omega) h
    rw [if_neg (by simp [skB, hh.1])]
    have hle := h.le
    have hl : 0 < (Lib.decDigits v).length := by
      rcases Nat.eq_zero_or_pos (Lib.decDigits v).length with e | e
      · rw [List.length_eq_zero_iff] at e
        rw [Lib.decDigits] at e
        split at e <;> simp at e
      · exact e
    obtain ⟨f, hf⟩ : ∃ f, p + (Lib.decDigits v).length + f = s.size := ⟨s.size - (p + (Lib.decDigits v).length), by omega⟩
    have hr := rdV_back s p v v (Nat.le_refl _) (by omega) hv h f hf
    have hstop : rdV s f (p + (Lib.decDigits v).length) v = (v, p + (Lib.decDigits v).length) := by
      cases f with
      | zero => rfl
      | succ f =>
        unfold rdV
        rcases hd with c | c
        · omega
        · rw [if_neg (by simp [c])]
    rw [show s.size - p = f + (Lib.decDigits v).length from by omega, hr, hstop]
    simp
    omega
end Go.Proofs.YtbendkndnojihabDoor
