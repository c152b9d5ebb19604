/-
  bitset.key: its contract.
-/
import Derived.Test.YtbendkndnojihabDoorBtb
import Derived.Test.YtbendkndnojihabDoorBtv
namespace Go.Proofs.YtbendkndnojihabDoor
open Go.RowKit Go.Deep
set_option linter.unusedVariables false

theorem Tryd.info_byte : (Tryd.prog.info? 5).map (fun i => (i.zero, i.size, i.bytes)) = some (some (.int .u8 0), 1, 1) := by kernel_rfl
def vY (x : Nat) : Value := .int .u8 (x : Int)
/-- The bytes of a word, the least first. -/
def byteAt (x j : Nat) : Nat := x / 2 ^ (8 * j) % 256
def by8 (x : Nat) : List Nat := (List.range 8).map (byteAt x)
def keyL (xs : List Nat) : List Nat := xs.flatMap by8
def strN (bs : List Nat) : ByteArray := strL (bs.map UInt8.ofNat)
theorem by8_len (x : Nat) : (by8 x).length = 8 := by simp [by8]
theorem keyL_len (xs : List Nat) : (keyL xs).length = 8 * xs.length := by
  induction xs with
  | nil => rfl
  | cons x l ih =>
    show (by8 x ++ keyL l).length = _
    rw [List.length_append, by8_len, ih, List.length_cons]
    omega
theorem byteAt_lt (x j : Nat) : byteAt x j < 256 := Nat.mod_lt _ (by decide)
theorem by8_inj {x y : Nat} (hx : x < 18446744073709551616) (hy : y < 18446744073709551616) (h : by8 x = by8 y) : x = y := by
  have e : ∀ j, j < 8 → byteAt x j = byteAt y j := fun j hj => by
    have : (by8 x)[j]? = (by8 y)[j]? := by rw [h]
    simpa [by8, hj] using this
  have e0 := e 0 (by decide)
  have e1 := e 1 (by decide)
  have e2 := e 2 (by decide)
  have e3 := e 3 (by decide)
  have e4 := e 4 (by decide)
  have e5 := e 5 (by decide)
  have e6 := e 6 (by decide)
  have e7 := e 7 (by decide)
  unfold byteAt at *
  have split : ∀ z : Nat, z < 18446744073709551616 → z = z % 256 + 256 * (z / 256 % 256) + 65536 * (z / 65536 % 256) + 16777216 * (z / 16777216 % 256) + 4294967296 * (z / 4294967296 % 256) + 1099511627776 * (z / 1099511627776 % 256) + 281474976710656 * (z / 281474976710656 % 256) + 72057594037927936 * (z / 72057594037927936 % 256) := by
    intro z hz
    omega
  rw [split x hx, split y hy]
  simp only [Nat.mul_zero, Nat.pow_zero, Nat.div_one, Nat.reduceMul, Nat.reducePow] at e0 e1 e2 e3 e4 e5 e6 e7
  rw [e0, e1, e2, e3, e4, e5, e6, e7]
theorem keyL_inj : ∀ {xs ys : List Nat}, (∀ x ∈ xs, x < 18446744073709551616) → (∀ x ∈ ys, x < 18446744073709551616) → keyL xs = keyL ys → xs = ys
  | [], [], _, _, _ => rfl
  | [], y :: l, _, _, h => by have := congrArg List.length h; rw [keyL_len, keyL_len] at this; simp at this
  | x :: l, [], _, _, h => by have := congrArg List.length h; rw [keyL_len, keyL_len] at this; simp at this
  | x :: l, y :: m, hx, hy, h => by
    have h2 : by8 x ++ keyL l = by8 y ++ keyL m := h
    have h3 := List.append_inj h2 (by rw [by8_len, by8_len])
    rw [by8_inj (hx x (by simp)) (hy y (by simp)) h3.1, keyL_inj (fun z hz => hx z (by simp [hz])) (fun z hz => hy z (by simp [hz])) h3.2]
theorem keyL_take {xs : List Nat} {k : Nat} (h : k < xs.length) : keyL (xs.take (k + 1)) = keyL (xs.take k) ++ by8 (xs.getD k 0) := by
  unfold keyL
  rw [List.take_add_one, List.getElem?_eq_getElem h, List.flatMap_append]
  simp [List.getD, h]
theorem by8_take (x j : Nat) (hj : j < 8) : (by8 x).take (j + 1) = (by8 x).take j ++ [byteAt x j] := by
  rw [List.take_add_one]
  simp [by8, hj]
theorem strN_inj {a b : List Nat} (ha : ∀ x ∈ a, x < 256) (hb : ∀ x ∈ b, x < 256) (h : strN a = strN b) : a = b := by
  have h2 := strL_inj h
  have h3 := congrArg (List.map UInt8.toNat) h2
  rw [List.map_map, List.map_map] at h3
  have e : ∀ l : List Nat, (∀ x ∈ l, x < 256) → l.map (UInt8.toNat ∘ UInt8.ofNat) = l := fun l hl => by
    conv => rhs; rw [← List.map_id l]
    refine List.map_congr_left (fun x hx => ?_)
    simp [Nat.mod_eq_of_lt (hl x hx)]
  rwa [e a ha, e b hb] at h3
theorem keyL_lt (xs : List Nat) : ∀ x ∈ keyL xs, x < 256 := by
  intro x hx
  unfold keyL at hx
  obtain ⟨y, _, hy⟩ := List.mem_flatMap.1 hx
  unfold by8 at hy
  obtain ⟨j, _, rfl⟩ := List.mem_map.1 hy
  exact byteAt_lt _ _
theorem make_key (c : Nat) (hc : c ≤ 1000000) (w : World) : (Instr.makeSlice 78 (.int .i64 0) (.int .i64 (c : Int))).run Tryd.prog w = .ok (.slice (some ⟨w.heap.size, 0, none⟩) 0 c) (w.alloc (.cells (madeCells #[.int .u8 0] c) 5)) := by
  obtain ⟨i, hi, hz, hs, hb⟩ := info_parts Tryd.info_byte
  have hr := run_make (P := Tryd.prog) w 78 5 i (.int .u8 0) Tryd.underlying78 hi hz .i64 .i64 0 (c : Int) (by omega) (by omega) (by rw [hb]; omega) (by omega)
  rw [hs, Nat.mul_one] at hr
  simp only [Int.toNat_natCast, Int.toNat_zero] at hr
  exact hr
theorem own_key (w : World) (c : Nat) (hc : c ≤ 1000000) : (w.alloc (.cells (madeCells #[.int .u8 0] c) 5)).ownsRow w.heap.size 5 1 (.slice (some ⟨w.heap.size, 0, none⟩) 0 c) 0 [] :=
  ⟨rfl, .inr ⟨w.heap.size, c, _, rfl, Nat.le_refl _, alloc_block _ _, Nat.zero_le _, by unfold maxLen; omega, by simp [madeCells], by simp⟩⟩

theorem conv_own {w : World} {B : Nat} {v : Value} {bs : List Nat} {n : Nat} (h : w.ownsRow B 5 1 v n (bs.map vY)) (hl : bs.length = n) : (convert 78 9 v).run Tryd.prog w = .ok (.string (strN bs)) w := by
  rcases h.2 with ⟨h1, h0⟩ | ⟨g, cap, cur, h1, h2, h3, h4, h5, h6, h7⟩
  · subst h1
    have hb : bs = [] := List.length_eq_zero_iff.1 (by omega)
    subst hb
    exact run_convert_bytes_nil w 78 5 Tryd.underlying78 Tryd.underlying5 0 0 9 Tryd.underlying9
  · subst h1
    refine (run_convert_bytes_arg w 78 5 Tryd.underlying78 Tryd.underlying5 g 0 n cap (bs.map (fun x : Nat => (x : Int))) (by simpa using hl) (fun i hi => ?_) 9 Tryd.underlying9).trans ?_
    · rw [Nat.zero_add, cell_of_block h3]
      have hi2 : i < bs.length := by omega
      have : (cur.toList.take (n * 1))[i]? = (bs.map vY)[i]? := by rw [h7]
      rw [List.getElem?_take_of_lt (by omega)] at this
      rw [← Array.getElem?_toList, this]
      simp [vY, List.getD, hi2]
    · have : strOfNums (bs.map (fun x : Nat => (x : Int))) = strN bs := by
        unfold strOfNums strN strL
        congr 2
        rw [List.map_map]
        refine List.map_congr_left (fun x _ => ?_)
        simp
      rw [this]

set_option maxHeartbeats 8000000 in
set_option maxRecDepth 100000 in
/-- bitset.key. -/
theorem key_any (a : Option Addr) (n c : Nat) (xs : List Nat) (w : World) (h : SlW w a n c xs) (ho : OkW xs) (hn : n ≤ 64) :
    Calls Tryd.prog 61 #[.slice a n c] w fun r w' => r = .returned (.string (strN (keyL xs))) ∧ Below w.heap.size w w' := by
  have hle := h.le
  have hcap := h.cap
  unfold maxLen at hcap
  have hl := h.len
  obtain ⟨i8, hi, hz, hs, hb⟩ := info_parts Tryd.info_byte
  have HI := hide (And.intro hi (And.intro hz (And.intro hs hb)))
  obtain ⟨c8, hc8⟩ : ∃ c8, 8 * n = c8 := ⟨_, rfl⟩
  have hm := make_key c8 (by omega)
  have q1 : ((n : Int) * 64) / 8 = (c8 : Int) := by omega
  have q2 : IntKind.i64.wrap ((n : Int) * 64) = (n : Int) * 64 := by rw [wrap_i64]; omega
  have HO0 := hide (And.intro (own_key w c8 (by omega)) ((Below.refl w.heap.size w).alloc (Nat.le_refl _) (.cells (madeCells #[.int .u8 0] c8) 5)))
  clear hc8
  have HSl := hide h
  have HOk := hide ho
  clear h ho hi hz hs hb
  go_enter Tryd.func61, Tryd.ntmps61
  go_wp2_with fail
  clear hm q1 q2
  generalize w.alloc (.cells (madeCells #[.int .u8 0] c8) 5) = wm at *
  go_loopw [14, 3, 5, 6] (fun i v _ _ wr => ∃ k : Nat, k ≤ n ∧ i = .int .i64 k ∧ wr.ownsRow w.heap.size 5 1 v (8 * k) ((keyL (xs.take k)).map vY) ∧ Below w.heap.size w wr) (fun i _ _ _ _ => n - (intOf i).toNat)
  case atStart => exact ⟨0, Nat.zero_le _, rfl, (unhide HO0).1, (unhide HO0).2⟩
  case round =>
    obtain ⟨k, hk, rfl, hown, hbl⟩ := hrel
    by_cases hlt : k < n
    · have hlt' : (k : Int) < (n : Int) := by omega
      obtain ⟨b, off, rfl, hcells⟩ := ((unhide HSl).below hbl).at (by omega)
      have g1 := hcells k hlt
      have hkl : k < xs.length := by omega
      have hx : xs.getD k 0 < 18446744073709551616 := by
        have : xs.getD k 0 = xs[k] := by simp [List.getD, hkl]
        rw [this]; exact unhide HOk _ (List.getElem_mem hkl)
      have HKT := hide (keyL_take hkl)
      unfold vU at g1
      generalize xs.getD k 0 = x at *
      have HO1 := hide (And.intro hown hbl)
      clear hown hbl hcells
      go_wp2_with fail
      clear g1
      go_loopw [6, 3] (fun y v wr => ∃ j : Nat, j ≤ 8 ∧ y = .int .i64 ((8 * j : Nat) : Int) ∧ wr.ownsRow w.heap.size 5 1 v (8 * k + j) ((keyL (xs.take k) ++ (by8 x).take j).map vY) ∧ Below w.heap.size w wr) (fun y _ _ => 64 - (intOf y).toNat)
      case atStart => exact ⟨0, Nat.zero_le _, rfl, by simpa using (unhide HO1).1, (unhide HO1).2⟩
      case round =>
        obtain ⟨j, hj, rfl, hown, hbl⟩ := hrel
        by_cases hjt : j < 8
        · obtain ⟨LB, hLB⟩ : ∃ l, (keyL (xs.take k) ++ (by8 x).take j).map vY = l := ⟨_, rfl⟩
          obtain ⟨N0, hN0⟩ : ∃ N, 8 * k + j = N := ⟨_, rfl⟩
          rw [hLB, hN0] at hown
          have HLB := hide (And.intro hLB hN0)
          have hN9 : N0 < 1000 := by omega
          have HOw := hide (And.intro hown hbl)
          clear hown hbl hLB hN0
          have hsz := (unhide HOw).2.size
          rcases (by omega : j = 0 ∨ j = 1 ∨ j = 2 ∨ j = 3 ∨ j = 4 ∨ j = 5 ∨ j = 6 ∨ j = 7) with rfl | rfl | rfl | rfl | rfl | rfl | rfl | rfl
          · have HV := hide (show (by8 x).take 1 = (by8 x).take 0 ++ [byteAt x 0] from by8_take x 0 (by decide))
            have HY := hide (show vY (byteAt x 0) = .int .u8 ((x : Int) % 256) from by
              unfold vY byteAt
              simp only [Nat.reduceMul, Nat.reducePow]
              congr 1
              try omega)
            go_wp2_with (at_builtin; refine wpList_append_lies _ rfl _ _ 78 rfl w.heap.size 5 i8 (.int .u8 0) 1 1 Tryd.underlying78 (unhide HI).1 (unhide HI).2.1 (unhide HI).2.2.1 (unhide HI).2.2.2 rfl (by decide) _ N0 LB rfl ((unhide HOw).1.alloc _) ⟨wr.heap.size, 0, none⟩ 1 1 [.int .u8 ((x : Int) % 256)] rfl rfl (World.news_of_block (alloc_block _ _)) ?c21 (by decide) ?c31 ?c41 ?c51 (wr.heap.size + 1) (by simp) ?_)
            case c21 => intro u hu; simp at hu; rcases hu with rfl; rfl
            case c31 => unfold maxLen; omega
            case c41 => omega
            case c51 => first | omega | (simp; omega)
            intro g cap w2 hown hg hat hlt2
            have HS2 := hide (And.intro (show w2.ownsRow w.heap.size 5 1 (.slice (some ⟨g, 0, none⟩) (N0 + 1) cap) (8 * k + 1) ((keyL (xs.take k) ++ (by8 x).take 1).map vY) from by
              rw [unhide HV, ← List.append_assoc, List.map_append, List.map_cons, List.map_nil, unhide HY, (unhide HLB).1, show 8 * k + 1 = N0 + 1 from by have := (unhide HLB).2; omega]; exact hown) (Below.grown ((unhide HOw).2.alloc (unhide HOw).2.size _) hg (by have := (unhide HOw).2.size; simp <;> omega) (fun q hq => (own_ge (unhide HOw).1 q hq).1)))
            clear hown hg hat hlt2
            go_wp2_with fail
            exact ⟨⟨1, by omega, by first | rfl | go_num, (unhide HS2).1, (unhide HS2).2⟩, by simp [intOf]⟩
          · have HV := hide (show (by8 x).take 2 = (by8 x).take 1 ++ [byteAt x 1] from by8_take x 1 (by decide))
            have HY := hide (show vY (byteAt x 1) = .int .u8 ((x : Int) / 256 % 256) from by
              unfold vY byteAt
              simp only [Nat.reduceMul, Nat.reducePow]
              congr 1
              try omega)
            go_wp2_with (at_builtin; refine wpList_append_lies _ rfl _ _ 78 rfl w.heap.size 5 i8 (.int .u8 0) 1 1 Tryd.underlying78 (unhide HI).1 (unhide HI).2.1 (unhide HI).2.2.1 (unhide HI).2.2.2 rfl (by decide) _ N0 LB rfl ((unhide HOw).1.alloc _) ⟨wr.heap.size, 0, none⟩ 1 1 [.int .u8 ((x : Int) / 256 % 256)] rfl rfl (World.news_of_block (alloc_block _ _)) ?c21 (by decide) ?c31 ?c41 ?c51 (wr.heap.size + 1) (by simp) ?_)
            case c21 => intro u hu; simp at hu; rcases hu with rfl; rfl
            case c31 => unfold maxLen; omega
            case c41 => omega
            case c51 => first | omega | (simp; omega)
            intro g cap w2 hown hg hat hlt2
            have HS2 := hide (And.intro (show w2.ownsRow w.heap.size 5 1 (.slice (some ⟨g, 0, none⟩) (N0 + 1) cap) (8 * k + 2) ((keyL (xs.take k) ++ (by8 x).take 2).map vY) from by
              rw [unhide HV, ← List.append_assoc, List.map_append, List.map_cons, List.map_nil, unhide HY, (unhide HLB).1, show 8 * k + 2 = N0 + 1 from by have := (unhide HLB).2; omega]; exact hown) (Below.grown ((unhide HOw).2.alloc (unhide HOw).2.size _) hg (by have := (unhide HOw).2.size; simp <;> omega) (fun q hq => (own_ge (unhide HOw).1 q hq).1)))
            clear hown hg hat hlt2
            go_wp2_with fail
            exact ⟨⟨2, by omega, by first | rfl | go_num, (unhide HS2).1, (unhide HS2).2⟩, by simp [intOf]⟩
          · have HV := hide (show (by8 x).take 3 = (by8 x).take 2 ++ [byteAt x 2] from by8_take x 2 (by decide))
            have HY := hide (show vY (byteAt x 2) = .int .u8 ((x : Int) / 65536 % 256) from by
              unfold vY byteAt
              simp only [Nat.reduceMul, Nat.reducePow]
              congr 1
              try omega)
            go_wp2_with (at_builtin; refine wpList_append_lies _ rfl _ _ 78 rfl w.heap.size 5 i8 (.int .u8 0) 1 1 Tryd.underlying78 (unhide HI).1 (unhide HI).2.1 (unhide HI).2.2.1 (unhide HI).2.2.2 rfl (by decide) _ N0 LB rfl ((unhide HOw).1.alloc _) ⟨wr.heap.size, 0, none⟩ 1 1 [.int .u8 ((x : Int) / 65536 % 256)] rfl rfl (World.news_of_block (alloc_block _ _)) ?c21 (by decide) ?c31 ?c41 ?c51 (wr.heap.size + 1) (by simp) ?_)
            case c21 => intro u hu; simp at hu; rcases hu with rfl; rfl
            case c31 => unfold maxLen; omega
            case c41 => omega
            case c51 => first | omega | (simp; omega)
            intro g cap w2 hown hg hat hlt2
            have HS2 := hide (And.intro (show w2.ownsRow w.heap.size 5 1 (.slice (some ⟨g, 0, none⟩) (N0 + 1) cap) (8 * k + 3) ((keyL (xs.take k) ++ (by8 x).take 3).map vY) from by
              rw [unhide HV, ← List.append_assoc, List.map_append, List.map_cons, List.map_nil, unhide HY, (unhide HLB).1, show 8 * k + 3 = N0 + 1 from by have := (unhide HLB).2; omega]; exact hown) (Below.grown ((unhide HOw).2.alloc (unhide HOw).2.size _) hg (by have := (unhide HOw).2.size; simp <;> omega) (fun q hq => (own_ge (unhide HOw).1 q hq).1)))
            clear hown hg hat hlt2
            go_wp2_with fail
            exact ⟨⟨3, by omega, by first | rfl | go_num, (unhide HS2).1, (unhide HS2).2⟩, by simp [intOf]⟩
          · have HV := hide (show (by8 x).take 4 = (by8 x).take 3 ++ [byteAt x 3] from by8_take x 3 (by decide))
            have HY := hide (show vY (byteAt x 3) = .int .u8 ((x : Int) / 16777216 % 256) from by
              unfold vY byteAt
              simp only [Nat.reduceMul, Nat.reducePow]
              congr 1
              try omega)
            go_wp2_with (at_builtin; refine wpList_append_lies _ rfl _ _ 78 rfl w.heap.size 5 i8 (.int .u8 0) 1 1 Tryd.underlying78 (unhide HI).1 (unhide HI).2.1 (unhide HI).2.2.1 (unhide HI).2.2.2 rfl (by decide) _ N0 LB rfl ((unhide HOw).1.alloc _) ⟨wr.heap.size, 0, none⟩ 1 1 [.int .u8 ((x : Int) / 16777216 % 256)] rfl rfl (World.news_of_block (alloc_block _ _)) ?c21 (by decide) ?c31 ?c41 ?c51 (wr.heap.size + 1) (by simp) ?_)
            case c21 => intro u hu; simp at hu; rcases hu with rfl; rfl
            case c31 => unfold maxLen; omega
            case c41 => omega
            case c51 => first | omega | (simp; omega)
            intro g cap w2 hown hg hat hlt2
            have HS2 := hide (And.intro (show w2.ownsRow w.heap.size 5 1 (.slice (some ⟨g, 0, none⟩) (N0 + 1) cap) (8 * k + 4) ((keyL (xs.take k) ++ (by8 x).take 4).map vY) from by
              rw [unhide HV, ← List.append_assoc, List.map_append, List.map_cons, List.map_nil, unhide HY, (unhide HLB).1, show 8 * k + 4 = N0 + 1 from by have := (unhide HLB).2; omega]; exact hown) (Below.grown ((unhide HOw).2.alloc (unhide HOw).2.size _) hg (by have := (unhide HOw).2.size; simp <;> omega) (fun q hq => (own_ge (unhide HOw).1 q hq).1)))
            clear hown hg hat hlt2
            go_wp2_with fail
            exact ⟨⟨4, by omega, by first | rfl | go_num, (unhide HS2).1, (unhide HS2).2⟩, by simp [intOf]⟩
          · have HV := hide (show (by8 x).take 5 = (by8 x).take 4 ++ [byteAt x 4] from by8_take x 4 (by decide))
            have HY := hide (show vY (byteAt x 4) = .int .u8 ((x : Int) / 4294967296 % 256) from by
              unfold vY byteAt
              simp only [Nat.reduceMul, Nat.reducePow]
              congr 1
              try omega)
            go_wp2_with (at_builtin; refine wpList_append_lies _ rfl _ _ 78 rfl w.heap.size 5 i8 (.int .u8 0) 1 1 Tryd.underlying78 (unhide HI).1 (unhide HI).2.1 (unhide HI).2.2.1 (unhide HI).2.2.2 rfl (by decide) _ N0 LB rfl ((unhide HOw).1.alloc _) ⟨wr.heap.size, 0, none⟩ 1 1 [.int .u8 ((x : Int) / 4294967296 % 256)] rfl rfl (World.news_of_block (alloc_block _ _)) ?c21 (by decide) ?c31 ?c41 ?c51 (wr.heap.size + 1) (by simp) ?_)
            case c21 => intro u hu; simp at hu; rcases hu with rfl; rfl
            case c31 => unfold maxLen; omega
            case c41 => omega
            case c51 => first | omega | (simp; omega)
            intro g cap w2 hown hg hat hlt2
            have HS2 := hide (And.intro (show w2.ownsRow w.heap.size 5 1 (.slice (some ⟨g, 0, none⟩) (N0 + 1) cap) (8 * k + 5) ((keyL (xs.take k) ++ (by8 x).take 5).map vY) from by
              rw [unhide HV, ← List.append_assoc, List.map_append, List.map_cons, List.map_nil, unhide HY, (unhide HLB).1, show 8 * k + 5 = N0 + 1 from by have := (unhide HLB).2; omega]; exact hown) (Below.grown ((unhide HOw).2.alloc (unhide HOw).2.size _) hg (by have := (unhide HOw).2.size; simp <;> omega) (fun q hq => (own_ge (unhide HOw).1 q hq).1)))
            clear hown hg hat hlt2
            go_wp2_with fail
            exact ⟨⟨5, by omega, by first | rfl | go_num, (unhide HS2).1, (unhide HS2).2⟩, by simp [intOf]⟩
          · have HV := hide (show (by8 x).take 6 = (by8 x).take 5 ++ [byteAt x 5] from by8_take x 5 (by decide))
            have HY := hide (show vY (byteAt x 5) = .int .u8 ((x : Int) / 1099511627776 % 256) from by
              unfold vY byteAt
              simp only [Nat.reduceMul, Nat.reducePow]
              congr 1
              try omega)
            go_wp2_with (at_builtin; refine wpList_append_lies _ rfl _ _ 78 rfl w.heap.size 5 i8 (.int .u8 0) 1 1 Tryd.underlying78 (unhide HI).1 (unhide HI).2.1 (unhide HI).2.2.1 (unhide HI).2.2.2 rfl (by decide) _ N0 LB rfl ((unhide HOw).1.alloc _) ⟨wr.heap.size, 0, none⟩ 1 1 [.int .u8 ((x : Int) / 1099511627776 % 256)] rfl rfl (World.news_of_block (alloc_block _ _)) ?c21 (by decide) ?c31 ?c41 ?c51 (wr.heap.size + 1) (by simp) ?_)
            case c21 => intro u hu; simp at hu; rcases hu with rfl; rfl
            case c31 => unfold maxLen; omega
            case c41 => omega
            case c51 => first | omega | (simp; omega)
            intro g cap w2 hown hg hat hlt2
            have HS2 := hide (And.intro (show w2.ownsRow w.heap.size 5 1 (.slice (some ⟨g, 0, none⟩) (N0 + 1) cap) (8 * k + 6) ((keyL (xs.take k) ++ (by8 x).take 6).map vY) from by
              rw [unhide HV, ← List.append_assoc, List.map_append, List.map_cons, List.map_nil, unhide HY, (unhide HLB).1, show 8 * k + 6 = N0 + 1 from by have := (unhide HLB).2; omega]; exact hown) (Below.grown ((unhide HOw).2.alloc (unhide HOw).2.size _) hg (by have := (unhide HOw).2.size; simp <;> omega) (fun q hq => (own_ge (unhide HOw).1 q hq).1)))
            clear hown hg hat hlt2
            go_wp2_with fail
            exact ⟨⟨6, by omega, by first | rfl | go_num, (unhide HS2).1, (unhide HS2).2⟩, by simp [intOf]⟩
          · have HV := hide (show (by8 x).take 7 = (by8 x).take 6 ++ [byteAt x 6] from by8_take x 6 (by decide))
            have HY := hide (show vY (byteAt x 6) = .int .u8 ((x : Int) / 281474976710656 % 256) from by
              unfold vY byteAt
              simp only [Nat.reduceMul, Nat.reducePow]
              congr 1
              try omega)
            go_wp2_with (at_builtin; refine wpList_append_lies _ rfl _ _ 78 rfl w.heap.size 5 i8 (.int .u8 0) 1 1 Tryd.underlying78 (unhide HI).1 (unhide HI).2.1 (unhide HI).2.2.1 (unhide HI).2.2.2 rfl (by decide) _ N0 LB rfl ((unhide HOw).1.alloc _) ⟨wr.heap.size, 0, none⟩ 1 1 [.int .u8 ((x : Int) / 281474976710656 % 256)] rfl rfl (World.news_of_block (alloc_block _ _)) ?c21 (by decide) ?c31 ?c41 ?c51 (wr.heap.size + 1) (by simp) ?_)
            case c21 => intro u hu; simp at hu; rcases hu with rfl; rfl
            case c31 => unfold maxLen; omega
            case c41 => omega
            case c51 => first | omega | (simp; omega)
            intro g cap w2 hown hg hat hlt2
            have HS2 := hide (And.intro (show w2.ownsRow w.heap.size 5 1 (.slice (some ⟨g, 0, none⟩) (N0 + 1) cap) (8 * k + 7) ((keyL (xs.take k) ++ (by8 x).take 7).map vY) from by
              rw [unhide HV, ← List.append_assoc, List.map_append, List.map_cons, List.map_nil, unhide HY, (unhide HLB).1, show 8 * k + 7 = N0 + 1 from by have := (unhide HLB).2; omega]; exact hown) (Below.grown ((unhide HOw).2.alloc (unhide HOw).2.size _) hg (by have := (unhide HOw).2.size; simp <;> omega) (fun q hq => (own_ge (unhide HOw).1 q hq).1)))
            clear hown hg hat hlt2
            go_wp2_with fail
            exact ⟨⟨7, by omega, by first | rfl | go_num, (unhide HS2).1, (unhide HS2).2⟩, by simp [intOf]⟩
          · have HV := hide (show (by8 x).take 8 = (by8 x).take 7 ++ [byteAt x 7] from by8_take x 7 (by decide))
            have HY := hide (show vY (byteAt x 7) = .int .u8 ((x : Int) / 72057594037927936) from by
              unfold vY byteAt
              simp only [Nat.reduceMul, Nat.reducePow]
              congr 1
              try omega)
            go_wp2_with (at_builtin; refine wpList_append_lies _ rfl _ _ 78 rfl w.heap.size 5 i8 (.int .u8 0) 1 1 Tryd.underlying78 (unhide HI).1 (unhide HI).2.1 (unhide HI).2.2.1 (unhide HI).2.2.2 rfl (by decide) _ N0 LB rfl ((unhide HOw).1.alloc _) ⟨wr.heap.size, 0, none⟩ 1 1 [.int .u8 ((x : Int) / 72057594037927936)] rfl rfl (World.news_of_block (alloc_block _ _)) ?c21 (by decide) ?c31 ?c41 ?c51 (wr.heap.size + 1) (by simp) ?_)
            case c21 => intro u hu; simp at hu; rcases hu with rfl; rfl
            case c31 => unfold maxLen; omega
            case c41 => omega
            case c51 => first | omega | (simp; omega)
            intro g cap w2 hown hg hat hlt2
            have HS2 := hide (And.intro (show w2.ownsRow w.heap.size 5 1 (.slice (some ⟨g, 0, none⟩) (N0 + 1) cap) (8 * k + 8) ((keyL (xs.take k) ++ (by8 x).take 8).map vY) from by
              rw [unhide HV, ← List.append_assoc, List.map_append, List.map_cons, List.map_nil, unhide HY, (unhide HLB).1, show 8 * k + 8 = N0 + 1 from by have := (unhide HLB).2; omega]; exact hown) (Below.grown ((unhide HOw).2.alloc (unhide HOw).2.size _) hg (by have := (unhide HOw).2.size; simp <;> omega) (fun q hq => (own_ge (unhide HOw).1 q hq).1)))
            clear hown hg hat hlt2
            go_wp2_with fail
            exact ⟨⟨8, by omega, by first | rfl | go_num, (unhide HS2).1, (unhide HS2).2⟩, by simp [intOf]⟩
        · obtain rfl : j = 8 := by omega
          have HS2 := hide (And.intro (show wr.ownsRow w.heap.size 5 1 _ (8 * (k + 1)) ((keyL (xs.take (k + 1))).map vY) from by
            rw [unhide HKT]
            have e : (by8 x).take 8 = by8 x := List.take_of_length_le (by rw [by8_len]; exact Nat.le_refl _)
            rw [e] at hown
            rw [show 8 * (k + 1) = 8 * k + 8 from by omega]
            exact hown) hbl)
          clear hown hbl
          go_wp2_with fail
          exact ⟨⟨k + 1, by omega, by go_num, (unhide HS2).1, (unhide HS2).2⟩, by simp [intOf]; omega⟩
    · have hlt' : ¬ (k : Int) < (n : Int) := by omega
      obtain rfl : n = k := by omega
      rw [show xs.take n = xs from List.take_of_length_le (by omega)] at hown
      have hcv := conv_own hown (by rw [keyL_len, hl])
      have HB := hide hbl
      clear hown hbl
      go_wp2_with fail
      go_ret
      exact ⟨rfl, unhide HB⟩
end Go.Proofs.YtbendkndnojihabDoor
