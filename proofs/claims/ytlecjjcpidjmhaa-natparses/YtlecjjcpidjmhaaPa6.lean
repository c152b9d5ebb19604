/-
  Parse, both: contracts.
-/
import Derived.Test.YtlecjjcpidjmhaaPa5
namespace Go.Proofs.Ytlecjjcpidjmhaa
open Go.RowKit Go.Deep
set_option linter.unusedVariables false

/-- What Parse answers. -/
inductive PaIs (s : ByteArray) (b : Int) : List Nat → Int → Int → Prop where
  | long (h : 65536 < s.size) : PaIs s b [] 65536 4
  | base (h : s.size ≤ 65536) (hb : ¬ (2 ≤ b ∧ b ≤ 36)) : PaIs s b [] 0 22
  | none (h : s.size = 0) (hb : 2 ≤ b ∧ b ≤ 36) : PaIs s b [] 0 5
  | digit (i : Nat) (h : s.size ≤ 65536) (hb : 2 ≤ b ∧ b ≤ 36) (hi : AtDigit s b.toNat i) (hl : i < s.size) : PaIs s b [] (i : Nat) 5
  | read (zs : List Nat) (e : Int) (h : s.size ≤ 65536) (h0 : 0 < s.size) (hb : 2 ≤ b ∧ b ≤ 36) (hi : ∀ j, j < s.size → dig s j < b.toNat) (hr : fitL (numP s b.toNat s.size) = (zs, e)) : PaIs s b zs 0 e

theorem AtDigit.uniq {s : ByteArray} {b i j : Nat} (h : AtDigit s b i) (g : AtDigit s b j) : i = j := by
  rcases Nat.lt_trichotomy i j with k | k | k
  · have h1 := g.all i k
    have h2 := g.le
    rcases h.stop with e | e <;> omega
  · exact k
  · have h1 := h.all j k
    have h2 := h.le
    rcases g.stop with e | e <;> omega

theorem PaIs.uniq {s : ByteArray} {b : Int} {x y : List Nat} {p q e f : Int} (h : PaIs s b x p e) (g : PaIs s b y q f) : x = y ∧ p = q ∧ e = f := by
  cases h with
  | long h =>
    cases g with
    | long g => exact ⟨rfl, rfl, rfl⟩
    | base g gb => omega
    | none g gb => omega
    | digit j g gb gi gl => omega
    | read zs e g g0 gb gi gr => omega
  | base h hb =>
    cases g with
    | long g => omega
    | base g gb => exact ⟨rfl, rfl, rfl⟩
    | none g gb => exact absurd gb hb
    | digit j g gb gi gl => exact absurd gb hb
    | read zs e g g0 gb gi gr => exact absurd gb hb
  | none h hb =>
    cases g with
    | long g => omega
    | base g gb => exact absurd hb gb
    | none g gb => exact ⟨rfl, rfl, rfl⟩
    | digit j g gb gi gl => omega
    | read zs e g g0 gb gi gr => omega
  | digit i h hb hi hl =>
    cases g with
    | long g => omega
    | base g gb => exact absurd hb gb
    | none g gb => omega
    | digit j g gb gi gl => rw [hi.uniq gi]; exact ⟨rfl, rfl, rfl⟩
    | read zs e g g0 gb gi gr =>
      have h1 := gi i hl
      rcases hi.stop with k | k <;> omega
  | read zs e h h0 hb hi hr =>
    cases g with
    | long g => omega
    | base g gb => exact absurd hb gb
    | none g gb => omega
    | digit j g gb gi gl =>
      have h1 := hi j gl
      rcases gi.stop with k | k <;> omega
    | read zs e g g0 gb gi gr =>
      rw [hr] at gr
      injection gr with g1 g2
      exact ⟨g1, rfl, g2⟩

def PaPost (s : ByteArray) (b : Int) (w : World) (e : Ending) (w' : World) : Prop :=
  ∃ a n c zs p er, e = .returned (.tuple #[.slice a n c, .int .i64 p, .int .i64 er]) ∧ Sl w' a n c zs ∧ Below w.heap.size w w' ∧ PaIs s b zs p er

set_option maxHeartbeats 4000000 in
theorem isBase_any (b : Int) (w : World) :
    Calls Try.prog 27 #[.int .i64 b] w fun e w' => e = .returned (.bool (decide (2 ≤ b ∧ b ≤ 36))) ∧ w' = w := by
  by_cases h1 : 2 ≤ b
  · by_cases h2 : b ≤ 36
    · go_enter Try.func27, Try.ntmps27
      go_wp2_with fail
      go_ret
      simp [h1, h2]
    · go_enter Try.func27, Try.ntmps27
      go_wp2_with fail
      go_ret
      simp; omega
  · go_enter Try.func27, Try.ntmps27
    go_wp2_with fail
    go_ret
    simp; omega

set_option maxHeartbeats 4000000 in
theorem nparse_any (s : ByteArray) (b : Int) (w : World) :
    Calls Try.prog 7 #[.string s, .int .i64 b] w fun e w' => PaPost s b w e w' := by
  by_cases hl : 65536 < s.size
  · have HL := hide hl
    have hl' : (65536:Int) < (s.size:Int) := by omega
    go_enter Try.func7, Try.ntmps7
    go_wp2_with fail
    go_ret3
    exact ⟨none, 0, 0, [], _, _, rfl, sl_nil _, Below.refl _ _, .long (by exact unhide HL)⟩
  · have HL := hide hl
    have KB := hide (isBase_any b w)
    by_cases hb : 2 ≤ b ∧ b ≤ 36
    · obtain ⟨k, rfl⟩ : ∃ k : Nat, b = (k : Int) := ⟨b.toNat, by omega⟩
      have k1 : 2 ≤ k := by omega
      have k2 : k ≤ 36 := by omega
      have hs : s.size ≤ 1000000000000 := by omega
      have KA := hide (allDigits_any s k hs k2 w)
      have HB := hide hb
      clear hb
      have hb' : (decide (2 ≤ (k:Int) ∧ (k:Int) ≤ 36)) = true := by simp; omega
      rw [hb'] at KB
      clear hb'
      have hl' : ¬ (65536:Int) < (s.size:Int) := by omega
      go_enter Try.func7, Try.ntmps7
      go_wp2_with fail
      refine (unhide KB).mono ?_
      rintro _ _ ⟨rfl, hw⟩
      obtain rfl := hw.symm
      clear hw
      go_wp2_with fail
      refine (unhide KA).mono ?_
      rintro _ _ ⟨i, hi, hw, ⟨hlt, rfl⟩ | ⟨heq, rfl⟩⟩
      · obtain rfl := hw.symm
        have HI := hide hi
        have HLT := hide hlt
        clear hw hi hlt
        go_wp2_with fail
        go_ret3
        exact ⟨none, 0, 0, [], _, _, rfl, sl_nil _, Below.refl _ _, .digit i (by have := unhide HL; omega) (unhide HB) (by simpa using unhide HI) (unhide HLT)⟩
      · obtain rfl := hw.symm
        have hall : ∀ j, j < s.size → dig s j < k := fun j hj => hi.all j (by omega)
        have HALL := hide hall
        clear hw hi heq hall
        by_cases h0 : 0 < s.size
        · rw [show decide (0 < s.size) = true from by simp [h0]]
          go_wp2_with fail
          refine (read_any s k (by exact hs) k1 k2 (unhide HALL) w).mono ?_
          rintro _ wq ⟨a, m, c, rfl, hsl, hnew, hbel⟩
          generalize hF : fitL (numP s k s.size) = F at *
          obtain ⟨zs, er⟩ := F
          have HQ := hide (And.intro hsl (And.intro hbel hF))
          clear hsl hnew hbel hF
          go_wp2_with fail
          go_ret3
          have hQ := unhide HQ
          exact ⟨a, m, c, zs, _, _, rfl, hQ.1, hQ.2.1, .read zs er (by have := unhide HL; omega) (by exact h0) (unhide HB) (unhide HALL) hQ.2.2⟩
        · rw [show decide (0 < s.size) = false from by simp [h0]]
          go_wp2_with fail
          go_ret3
          exact ⟨none, 0, 0, [], _, _, rfl, sl_nil _, Below.refl _ _, .none (by omega) (unhide HB)⟩
    · have hb' : (decide (2 ≤ b ∧ b ≤ 36)) = false := by simp; omega
      rw [hb'] at KB
      have HB := hide hb
      clear hb' hb
      have hl' : ¬ (65536:Int) < (s.size:Int) := by omega
      go_enter Try.func7, Try.ntmps7
      go_wp2_with fail
      refine (unhide KB).mono ?_
      rintro _ _ ⟨rfl, hw⟩
      obtain rfl := hw.symm
      clear hw
      go_wp2_with fail
      go_ret3
      exact ⟨none, 0, 0, [], _, _, rfl, sl_nil _, Below.refl _ _, .base (by have := unhide HL; omega) (unhide HB)⟩
end Go.Proofs.Ytlecjjcpidjmhaa
