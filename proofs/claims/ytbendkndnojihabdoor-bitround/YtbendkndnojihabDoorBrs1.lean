/-
  bitset.rising: the iterator's contract.
-/
import Derived.Test.YtbendkndnojihabDoorBrs0
import Derived.Test.YtbendkndnojihabDoorBc2
import Derived.Test.YtbendkndnojihabDoorBz2
namespace Go.Proofs.YtbendkndnojihabDoor
open Go.RowKit Go.Deep Go.Shelf
set_option linter.unusedVariables false
attribute [local go_sem] Oper.semAt_some

/-- A number of the set that the words are. -/
abbrev Elem (N : Nat) (xs : List Nat) := { x : Nat // x < 64 * N ∧ hasB (gW xs) x = true }
def encR {N : Nat} {xs : List Nat} (x : Elem N xs) : Array Value := #[.int .i64 ((x.val : Nat) : Int)]
/-- Blocks that a round may change: those of Z, and new ones. -/
abbrev KpZ (Z : Nat → Prop) (n₀ : Nat) : World → World → Prop := Chg (fun k => Z k ∨ n₀ ≤ k)

set_option maxRecDepth 100000 in
set_option maxHeartbeats 8000000 in
/-- The closure of rising. -/
theorem rise1_in (m : Nat) (hm : 1 ≤ m) (l Bs n₀ : Nat) (Z : Nat → Prop) (a : Option Addr) (N cap : Nat) (xs : List Nat) (hN : N ≤ 1000000) (hok : OkW xs) (hBn : Bs < n₀) (hBZ : ¬ Z Bs) (hGn : 0 < n₀) (hGZ : ¬ Z 0) (J Jx : List (Elem N xs) → World → Prop)
    (hY : ∀ pre x W, J pre W → pre.length < cntB (hasB (gW xs)) (64 * N) → YieldAt Fence.wide (m - 1) Tryd.prog l (encR x) W fun e W' =>
      (e = .returned (.bool true) ∧ J (pre ++ [x]) W' ∧ KpZ Z n₀ W W') ∨ (e = .returned (.bool false) ∧ Jx (pre ++ [x]) W'))
    (W : World) (hn0 : n₀ ≤ W.heap.size) (hT : Tab64 W) (hBs : W.cell? ⟨Bs, 0, none⟩ = some (.slice a N cap)) (hc : 0 < N → ∃ b off, a = some ⟨b, off, none⟩ ∧ b < n₀ ∧ ¬ Z b ∧ ∀ j, j < N → W.cell? ⟨b, off + j, none⟩ = some (.int .u64 ((gW xs j : Nat) : Int))) (h0 : J [] W) :
    CallsIn Fence.wide m Tryd.prog 72 #[.func (.yield l) #[] #[], .pointer (some ⟨Bs, 0, none⟩)] W fun e W' => (∃ v, e = .returned v) ∧
      ((∃ ys, ys.map (·.val) = elN (hasB (gW xs)) (64 * N) ∧ J ys W') ∨ (∃ pre, (pre ≠ [] ∧ ∃ q, q ≤ 64 * N ∧ pre.map (·.val) = elN (hasB (gW xs)) q) ∧ Jx pre W')) := by
  refine callsIn_of_wp Tryd.func72 rfl trivial ?_ rfl
  simp only [Tryd.ntmps72, List.size_toArray, List.length_cons, List.length_nil, Nat.reduceAdd, Nat.reduceSub, Array.replicate_succ, Array.replicate_zero, List.push_toArray, List.append_toArray, List.nil_append, List.cons_append]
  have HC := hide hc
  have HY := hide hY
  have H0 := hide h0
  have HT := hide hT
  have HOk := hide hok
  clear hc hY h0 hT hok
  gi_wp2_with fail
  gi_loopw [7, 3, 4] (fun i _ _ wr => ∃ (k : Nat) (pre : List (Elem N xs)), k ≤ N ∧ i = .int .i64 k ∧ pre.map (·.val) = elN (hasB (gW xs)) (64 * k) ∧ J pre wr ∧ KpZ Z n₀ W wr) (fun i _ _ _ => N - (intOf i).toNat)
  case atStart => exact ⟨0, [], Nat.zero_le _, rfl, rfl, unhide H0, Chg.refl _ _⟩
  case round =>
    obtain ⟨k, pre, hk, rfl, hpre, hJ, hch⟩ := hrel
    have HP := hide hpre
    have HJ := hide hJ
    have HCh := hide hch
    clear hpre hJ hch
    by_cases hlt : k < N
    · have hlt' : (k : Int) < (N : Int) := by omega
      obtain ⟨b, off, rfl, hb, hbZ, hcs⟩ := unhide HC (by omega)
      have g := (unhide HCh).cell (i := off + k) (by rintro (h | h); exact hbZ h; omega) (hcs k hlt)
      have hx := gW_ok (unhide HOk) k
      have HF := hide (FromB.start hx)
      obtain ⟨x, hxe⟩ : ∃ x, gW xs k = x := ⟨_, rfl⟩
      rw [hxe] at g hx HF
      have HX := hide hxe
      clear hcs hxe
      gi_wp2_with fail
      gi_loopw [4] (fun v wq => ∃ (p y : Nat) (pr : List (Elem N xs)), v = .int .u64 y ∧ p ≤ 64 ∧ FromB x p y ∧ pr.map (·.val) = elN (hasB (gW xs)) (64 * k + p) ∧ J pr wq ∧ KpZ Z n₀ W wq) (fun v _ => (intOf v).toNat)
      case atStart => exact ⟨0, x, pre, rfl, by omega, unhide HF, unhide HP, unhide HJ, unhide HCh⟩
      case round =>
        obtain ⟨p, y, pr, rfl, hp, hFr, hpr, hJq, hcq⟩ := hrel
        have hyl := hFr.1
        have HFr := hide hFr
        have HPr := hide hpr
        have HJq := hide hJq
        have HCq := hide hcq
        clear hFr hpr hJq hcq
        rcases Nat.eq_zero_or_pos y with hy0 | hy0
        · have HE := hide (show elN (hasB (gW xs)) (64 * (k + 1)) = elN (hasB (gW xs)) (64 * k + p) from elN_end (by rw [unhide HX]; have := unhide HFr; rwa [hy0] at this) hp)
          have c2 : (y : Int) = 0 := by omega
          clear hy0
          gi_wp2_with fail
          go_roundw
          case rel => exact ⟨k + 1, pr, by omega, by go_num, by rw [unhide HE]; exact unhide HPr, unhide HJq, unhide HCq⟩
          case measure => first | (simp [intOf]; done) | (simp [intOf]; omega)
        · obtain ⟨t1, t2, t3, t4⟩ := (unhide HFr).low hy0
          obtain ⟨w1, w2⟩ := elN_word (f := gW xs) (k := k) (p := p) (y := y) (by rw [unhide HX]; exact unhide HFr) hy0
          have HS := hide ((unhide HFr).step hy0)
          have HTq : Tab64 wr := fun i hi => (unhide HCq).cell (by rintro (h | h); exact hGZ h; omega) (unhide HT i hi)
          have HK := hide (tz64_any y wr hy0 hyl HTq)
          have c1 : ((y : Int) == 0) = false := by simp; omega
          have c2 : ¬ (y : Int) = 0 := by omega
          have hsub : (y : Int) - 1 = ((y - 1 : Nat) : Int) := by omega
          have ha := u64_and_nat y (y - 1) hyl (by omega)
          have hlty : y &&& (y - 1) < y := Nat.lt_of_le_of_lt Nat.and_le_right (by omega)
          obtain ⟨y1, hy1⟩ : ∃ y1, y - 1 = y1 := ⟨_, rfl⟩
          have hy1l : y1 < 18446744073709551616 := by omega
          obtain ⟨e, he⟩ : ∃ e, 64 * k + tz64 y = e := ⟨_, rfl⟩
          have heN : e < 64 * N := by omega
          rw [he] at w1 w2
          obtain ⟨fn, tmps, assign, body, hy, hR⟩ := unhide HY pr ⟨e, heN, w2⟩ wr (unhide HJq) (by
            have h1 : pr.length = cntB (hasB (gW xs)) (64 * k + p) := by rw [← elN_len, ← unhide HPr, List.length_map]
            rw [h1]
            exact Nat.lt_of_le_of_lt (cntB_mup2 _ (show 64 * k + p ≤ e by omega)) (cntB_lt _ heN w2))
          unfold encR at hy
          dsimp only at hy
          have HR := hide hR
          have hsum : (k : Int) * 64 + ((tz64 y : Nat) : Int) = (e : Int) := by omega
          have HW := hide (And.intro w1 w2)
          rw [hy1] at ha hsub hlty
          rw [hy1] at HS
          generalize tz64 y = t at *
          generalize hz : y &&& y1 = z at *
          have hz1 : z < 18446744073709551616 := (unhide HS).1
          clear hR w1 hz hy1 HTq
          gi_wp2_with fail
          refine ⟨trivial, (callsIn_wide.2 (unhide HK)).mono ?_⟩
          rintro _ w' ⟨rfl, hw⟩
          obtain rfl := hw.symm
          clear hw HK
          gi_wp2_with fail
          refine (unhide HR).mono ?_
          rintro e' W3 (⟨rfl, hJ3, hk3⟩ | ⟨rfl, hJx3⟩)
          · have HJ3 := hide hJ3
            have HK3 := hide ((unhide HCq).trans hk3)
            clear hJ3 hk3
            gi_wp2_with fail
            go_roundw
            case rel =>
              refine ⟨t + 1, z, pr ++ [⟨e, heN, (unhide HW).2⟩], rfl, by omega, unhide HS, ?_, unhide HJ3, unhide HK3⟩
              rw [List.map_append, unhide HPr, show 64 * k + (t + 1) = e + 1 from by omega]
              exact (unhide HW).1.symm
            case measure => first | (simp [intOf]; done) | (simp [intOf]; omega)
          · have HJx3 := hide hJx3
            clear hJx3
            gi_wp2_with fail
            refine bodyPost_ret (results_none rfl _ _ _) rfl ?_
            refine ⟨⟨_, rfl⟩, .inr ⟨_, ⟨by simp, e + 1, by omega, ?_⟩, unhide HJx3⟩⟩
            rw [List.map_append, unhide HPr]
            exact (unhide HW).1.symm
    · obtain rfl : k = N := by omega
      have hlt' : ¬ (k : Int) < (k : Int) := by omega
      gi_wp2_with fail
      go_end0
      exact ⟨⟨_, rfl⟩, .inl ⟨_, unhide HP, unhide HJ⟩⟩

set_option maxHeartbeats 1000000 in
/-- bitset.rising: the words are boxed; the closure holds the box. -/
theorem rise_in (m : Nat) (a : Option Addr) (n c : Nat) (w : World) :
    CallsIn Fence.wide m Tryd.prog 44 #[.slice a n c] w fun e w' => e = .returned (.func (.func 72) #[] #[.pointer (some ⟨w.heap.size, 0, none⟩)]) ∧ w' = w.alloc (.cells #[.slice a n c] 33) := by
  refine callsIn_of_wp Tryd.func44 rfl trivial ?_ rfl
  simp only [Tryd.ntmps44, List.size_toArray, List.length_cons, List.length_nil, Nat.reduceAdd, Nat.reduceSub, Array.replicate_succ, Array.replicate_zero, List.push_toArray, List.append_toArray, List.nil_append, List.cons_append]
  gi_wp2
  go_ret
  exact ⟨rfl, rfl⟩

/-- What is handed out of words that lie in memory ahead of the loop, while the blocks of Z may be written. -/
theorem rise_stops (m : Nat) (hm : 1 ≤ m) (Z : Nat → Prop) (Bs : Nat) (a : Option Addr) (N cap : Nat) (xs : List Nat) (w : World) (hN : N ≤ 1000000) (hok : OkW xs) (hBZ : ¬ Z Bs) (hGZ : ¬ Z 0) (hT : Tab64 w)
    (hcB : w.cell? ⟨Bs, 0, none⟩ = some (.slice a N cap)) (h : SlW w a N cap xs) (hZ : 0 < N → ∀ x, a = some x → ¬ Z x.block) :
    SeqStopsK Fence.wide m Tryd.prog 72 #[.pointer (some ⟨Bs, 0, none⟩)] (encR (N := N) (xs := xs)) (KpZ Z w.heap.size) (fun ys => ys.map (·.val) = elN (hasB (gW xs)) (64 * N))
      (fun pre => pre ≠ [] ∧ ∃ q, q ≤ 64 * N ∧ pre.map (·.val) = elN (hasB (gW xs)) q) (cntB (hasB (gW xs)) (64 * N)) w := fun l J Jx W hW _ _ hY h0 => by
  have hBs := World.block_lt_of_cell? _ _ hcB
  have hG := World.block_lt_of_cell? _ _ (hT 0 (by decide))
  refine rise1_in m hm l Bs w.heap.size Z a N cap xs hN hok hBs hBZ hG hGZ J Jx hY W hW.size (hT.below hW) ((hW.cell (p := ⟨Bs, 0, none⟩) hBs).trans hcB) (fun h0 => ?_) h0
  obtain ⟨b, off, e, hc⟩ := h.at h0
  have hlt := World.block_lt_of_cell? _ _ (hc 0 h0)
  exact ⟨b, off, e, hlt, hZ h0 _ e, fun j hj => (hW.cell (p := ⟨b, off + j, none⟩) hlt).trans (hc j hj)⟩
end Go.Proofs.YtbendkndnojihabDoor
