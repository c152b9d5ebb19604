/-
  Texts of sets: Parse in one form for each of its two answers.
-/
import Derived.Test.YtbendkndnojihabDoorByk
import Derived.Test.YtbendkndnojihabDoorBtb
import Derived.Lib.ItoaNum
import Derived.Laws.BytesArg
namespace Go.Proofs.YtbendkndnojihabDoor
open Go.RowKit Go.Deep
set_option linter.unusedVariables false

theorem paR_small {s : ByteArray} {z : Nat × (Nat → Bool)} (h : paR s = .inl z) : s.size ≤ 65536 := by
  unfold paR at h
  split at h
  · cases h
  · omega
theorem parse_yes (s : ByteArray) (sz : Nat) (P : Nat → Bool) (w : World) (hmax : s.size ≤ 9223372036854775807) (h : paR s = .inl (sz, P)) :
    Calls Tryd.prog 36 #[.string s] w fun r w' => ∃ a n c, r = .returned (.tuple #[setV (sz : Int) a n c, .int .i64 0, .int .i64 0]) ∧ SlW w' a n c (wordsL sz P) ∧ Below w.heap.size w w' := by
  refine (parse_any s w hmax).mono ?_
  rintro r w' (⟨sz', P', e, _, a, n, c, hr, hs, hb⟩ | ⟨p, er, e, hr, hb⟩)
  · rw [h] at e
    cases e
    exact ⟨a, n, c, hr, hs, hb⟩
  · rw [h] at e
    cases e
theorem parse_no (s : ByteArray) (p : Nat) (er : Int) (w : World) (hmax : s.size ≤ 9223372036854775807) (h : paR s = .inr (p, er)) :
    Calls Tryd.prog 36 #[.string s] w fun r w' => r = .returned (.tuple #[.agg #[.int .i64 0, .slice none 0 0], .int .i64 (p : Int), .int .i64 er]) ∧ Below w.heap.size w w' := by
  refine (parse_any s w hmax).mono ?_
  rintro r w' (⟨sz', P', e, _, a, n, c, hr, hs, hb⟩ | ⟨p', er', e, hr, hb⟩)
  · rw [h] at e
    cases e
  · rw [h] at e
    cases e
    exact ⟨hr, hb⟩
end Go.Proofs.YtbendkndnojihabDoor

namespace Go.Proofs.YtbendkndnojihabDoor
open Go.RowKit Go.Deep
set_option linter.unusedVariables false

/-- A text of bytes. -/
def strL (l : List UInt8) : ByteArray := ⟨l.toArray⟩
theorem strL_size (l : List UInt8) : (strL l).size = l.length := by simp [strL, ByteArray.size]
theorem strL_append (a b : List UInt8) : strL a ++ strL b = strL (a ++ b) := by
  apply ByteArray.ext
  simp [strL, ByteArray.data_append]
theorem strL_inj {a b : List UInt8} (h : strL a = strL b) : a = b := by
  have := congrArg (fun x : ByteArray => x.data.toList) h
  simpa [strL] using this
/-- One byte as a string. -/
theorem conv_one (x : Nat) (w : World) (hx : x < 256) : (convert 78 9 (.slice (some ⟨w.heap.size, 0, none⟩) 1 1)).run Tryd.prog (w.alloc (.cells #[.int .u8 (x : Int)] 5)) = .ok (.string (strL [UInt8.ofNat x])) (w.alloc (.cells #[.int .u8 (x : Int)] 5)) := by
  refine (run_convert_bytes_arg (w.alloc (.cells #[.int .u8 (x : Int)] 5)) 78 5 Tryd.underlying78 Tryd.underlying5 w.heap.size 0 1 1 [(x : Int)] rfl (fun i hi => ?_) 9 Tryd.underlying9).trans ?_
  · obtain rfl : i = 0 := by omega
    simp
  · simp [strOfNums, strL]
theorem dec_len (n : Nat) (h : n < 10000000) : (Lib.decDigits n).length ≤ 7 := by
  rw [Lib.decDigits_length]
  rcases Nat.lt_or_ge n 10 with c | c
  · rw [Lib.nDigits_small c]; omega
  · have h0 := Lib.lt_pow_nDigits n
    by_cases c1 : n < 100
    · rw [Lib.nDigits_unique 1 n (by omega) (by omega)]; omega
    · by_cases c2 : n < 1000
      · rw [Lib.nDigits_unique 2 n (by omega) (by omega)]; omega
      · by_cases c3 : n < 10000
        · rw [Lib.nDigits_unique 3 n (by omega) (by omega)]; omega
        · by_cases c4 : n < 100000
          · rw [Lib.nDigits_unique 4 n (by omega) (by omega)]; omega
          · by_cases c5 : n < 1000000
            · rw [Lib.nDigits_unique 5 n (by omega) (by omega)]; omega
            · rw [Lib.nDigits_unique 6 n (by omega) (by omega)]; omega

set_option maxHeartbeats 4000000 in
set_option maxRecDepth 100000 in
/-- sloperef3.Decimal. -/
theorem decimal_any (n : Nat) (w : World) (hn : n ≤ 1000000) :
    Calls Tryd.prog 54 #[.int .i64 (n : Int)] w fun e w' => e = .returned (.string (strL (Lib.decDigits n))) ∧ Below w.heap.size w w' := by
  have hlen := dec_len n (by omega)
  have e0 : (.string { data := #[] } : Value) = .string (strL []) := rfl
  obtain ⟨R, hR⟩ : ∃ R, Lib.decDigits n = R := ⟨_, rfl⟩
  rw [hR] at hlen ⊢
  have HR := hide hR
  clear hR
  go_enter Tryd.func54, Tryd.ntmps54
  go_wp2_with fail
  go_loopw [0, 3] (fun v s wr => ∃ (m : Nat) (l : List UInt8), m ≤ n ∧ v = .int .i64 m ∧ s = .string (strL l) ∧ R = Lib.decDigits m ++ l ∧ Below w.heap.size w wr) (fun v _ _ => (intOf v).toNat)
  case atStart => exact ⟨n, [], Nat.le_refl _, rfl, rfl, by simp [unhide HR], Below.refl _ _⟩
  case round =>
    obtain ⟨m, l, hm, rfl, rfl, hd, hb⟩ := hrel
    have hll : l.length ≤ 7 := by have := congrArg List.length hd; simp at this; omega
    have hls := strL_size l
    have HD := hide hd
    have HB := hide hb
    clear hd hb
    obtain ⟨S, hS⟩ : ∃ S, strL l = S := ⟨_, rfl⟩
    rw [hS] at hls ⊢
    have HS := hide hS
    have hs7 : S.size ≤ 7 := by omega
    clear hS hls
    by_cases hlt : 10 ≤ m
    · have hlt' : (10 : Int) ≤ (m : Int) := by omega
      obtain ⟨d, hd⟩ : ∃ d, m % 10 = d := ⟨_, rfl⟩
      obtain ⟨q, hq⟩ : ∃ q, m / 10 = q := ⟨_, rfl⟩
      have hd' : (m : Int) % 10 = (d : Int) := by omega
      have hq' : (m : Int) / 10 = (q : Int) := by omega
      have hd9 : d < 10 := by omega
      have hqm : q < m := by omega
      have hc := conv_one (48 + d) wr (by omega)
      rw [show ((48 + d : Nat) : Int) = 48 + (d : Int) from by omega] at hc
      have hbs := strL_size [UInt8.ofNat (48 + d)]
      have HE := hide (show R = Lib.decDigits q ++ ([UInt8.ofNat (48 + d)] ++ l) by
        rw [unhide HD, ← hq, ← hd]
        conv => lhs; rw [Lib.decDigits]
        rw [dif_neg (by omega)]
        simp)
      obtain ⟨B, hB⟩ : ∃ B, strL [UInt8.ofNat (48 + d)] = B := ⟨_, rfl⟩
      rw [hB] at hc hbs
      have HBB := hide hB
      have hb1 : B.size = 1 := hbs
      clear hd hq hB hbs
      go_wp2_with fail
      refine ⟨⟨q, [UInt8.ofNat (48 + d)] ++ l, by omega, rfl, ?_, unhide HE, ?_⟩, by simp [intOf]; omega⟩
      · rw [← strL_append, unhide HBB, unhide HS]
      · exact (unhide HB).alloc (unhide HB).size _
    · have hlt' : ¬ (10 : Int) ≤ (m : Int) := by omega
      have hc := conv_one (48 + m) wr (by omega)
      rw [show ((48 + m : Nat) : Int) = 48 + (m : Int) from by omega] at hc
      have hbs := strL_size [UInt8.ofNat (48 + m)]
      have HE := hide (show R = [UInt8.ofNat (48 + m)] ++ l by
        rw [unhide HD, Lib.decDigits_one (by omega)])
      obtain ⟨B, hB⟩ : ∃ B, strL [UInt8.ofNat (48 + m)] = B := ⟨_, rfl⟩
      rw [hB] at hc hbs
      have HBB := hide hB
      have hb1 : B.size = 1 := hbs
      clear hB hbs
      go_wp2_with fail
      go_ret
      refine ⟨?_, (unhide HB).alloc (unhide HB).size _⟩
      rw [unhide HE, ← strL_append, unhide HBB, unhide HS]
      rfl
end Go.Proofs.YtbendkndnojihabDoor
