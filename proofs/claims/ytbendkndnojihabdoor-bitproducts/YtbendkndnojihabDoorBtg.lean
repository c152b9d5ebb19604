/-
  bitset.copyFor, Put, Drop: contracts.
-/
import Derived.Test.YtbendkndnojihabDoorBtc
import Derived.Test.YtbendkndnojihabDoorBtu
namespace Go.Proofs.YtbendkndnojihabDoor
open Go.RowKit Go.Deep
set_option linter.unusedVariables false

/-- What putting says. -/
def putE (s : Int) (xs : List Nat) (e : Int) : Int := if MayS s xs then (if 0 ≤ e ∧ e < s then 0 else 62) else 61
def putR (s : Int) (xs : List Nat) (e : Int) (yes : Bool) : Int × List Nat × Int :=
  if putE s xs e = 0 then (s, wordsL s.toNat (fun x => if (x : Int) = e then yes else hasB (fun i => xs.getD i 0) x), 0) else (0, [], putE s xs e)
theorem putE_zero {s : Int} {xs : List Nat} {e : Int} (h : putE s xs e = 0) : MayS s xs = true ∧ 0 ≤ e ∧ e < s := by
  unfold putE at h
  split at h
  · split at h
    · rename_i h1 h2; exact ⟨h1, h2⟩
    · cases h
  · cases h

end Go.Proofs.YtbendkndnojihabDoor

namespace Go.Proofs.YtbendkndnojihabDoor
open Go.RowKit Go.Deep
set_option linter.unusedVariables false

set_option maxHeartbeats 2000000 in
/-- sloperef3.List. -/
theorem list_any (sz : Nat) (a : Option Addr) (n c : Nat) (xs : List Nat) (w : World) (h : SlW w a n c xs) (hsz : sz ≤ 4096) (hn : n = nW sz) :
    Calls Tryd.prog 53 #[setV sz a n c] w fun r w' => ∃ b, r = .returned (.slice (some ⟨b, 0, none⟩) sz sz) ∧ w.heap.size ≤ b ∧ b < w'.heap.size ∧ FnB w' b 0 sz (hasB (fun i => xs.getD i 0)) ∧ Below w.heap.size w w' := by
  obtain ⟨wa, hwa⟩ : ∃ wa, w.alloc (.cells #[.int .i64 (sz : Int), .slice a n c] 35) = wa := ⟨_, rfl⟩
  have hb : Below w.heap.size w wa := by rw [← hwa]; exact (Below.refl _ _).alloc (Nat.le_refl _) _
  have tA : Two wa w.heap.size (.int .i64 sz) (.slice a n c) := by rw [← hwa]; exact Two.made _ _ _ _
  have hm := make_bools sz (by omega)
  have hq : ∀ k, k < sz → k / 64 < n := fun k hk => by rw [hn]; unfold nW; omega
  have a0 := tA.c0
  have a1 := tA.c1
  have hal : Below wa.heap.size wa (wa.alloc (.cells (madeCells #[.bool false] sz) 4)) := (Below.refl _ _).alloc (Nat.le_refl _) _
  have HT := hide (And.intro (tA.keep hal) (And.intro ((h.below hb).below hal) (And.intro (show FnB (wa.alloc (.cells (madeCells #[.bool false] sz) 4)) wa.heap.size 0 sz (fun _ => false) from FnG.made wa sz 4 false rfl) (hb.trans (hal.mono hb.size)))))
  have hwl : w.heap.size < wa.heap.size := tA.lt
  have HQ := hide hq
  have HSl := hide h
  clear tA hb h hal hn hq
  unfold setV
  go_enter Tryd.func53, Tryd.ntmps53
  go_wp2_with fail
  clear hwa a0 a1
  have hs0 : wa.heap.size < (wa.alloc (.cells (madeCells #[.bool false] sz) 4)).heap.size := by simp
  generalize wa.alloc (.cells (madeCells #[.bool false] sz) 4) = wc at *
  generalize wa.heap.size = b at *
  go_loopw [4] (fun i wr => ∃ k : Nat, k ≤ sz ∧ i = .int .i64 k ∧ Two wr w.heap.size (.int .i64 sz) (.slice a n c) ∧ SlW wr a n c xs ∧ FnB wr b 0 sz (fun x => decide (x < k) && hasB (fun i => xs.getD i 0) x) ∧ Below w.heap.size w wr ∧ b < wr.heap.size) (fun i _ => sz - (intOf i).toNat)
  case atStart =>
    obtain ⟨q1, q2, q3, q4⟩ := unhide HT
    exact ⟨0, Nat.zero_le _, rfl, q1, q2, q3.congr (fun x _ => by simp), q4, hs0⟩
  case round =>
    obtain ⟨k, hk, rfl, q1, q2, q3, q4, q5⟩ := hrel
    have v0 := q1.c0
    have v1 := q1.c1
    have HR := hide (And.intro q1 (And.intro q2 (And.intro q3 q4)))
    by_cases hlt : k < sz
    · have hlt' : (k : Int) < (sz : Int) := by omega
      have K := in_any sz a n c xs k wr q2 (unhide HQ k hlt) (by omega)
      unfold setV at K
      have HK := hide K
      clear q1 q2 q3 q4 K
      go_wp2_with fail
      refine (unhide HK).mono ?_
      rintro _ w2 ⟨rfl, hb2⟩
      obtain ⟨q1, q2, q3, q4⟩ := unhide HR
      have g3 := q3.below hb2
      have g1 := (g3 k hlt).1
      have g2 := (g3 k hlt).2
      rw [Nat.zero_add] at g1 g2
      unfold vB at g1
      generalize (decide (k < k) && hasB (fun i => xs.getD i 0) k) = old at g1
      have hsz2 := hb2.size
      have HS := hide (show Two (w2.setCell ⟨b, k, none⟩ (.bool (hasB (fun i => xs.getD i 0) k))) w.heap.size (.int .i64 sz) (.slice a n c) ∧ SlW (w2.setCell ⟨b, k, none⟩ (.bool (hasB (fun i => xs.getD i 0) k))) a n c xs ∧ FnB (w2.setCell ⟨b, k, none⟩ (.bool (hasB (fun i => xs.getD i 0) k))) b 0 sz (fun x => decide (x < k + 1) && hasB (fun i => xs.getD i 0) x) ∧ Below w.heap.size w (w2.setCell ⟨b, k, none⟩ (.bool (hasB (fun i => xs.getD i 0) k))) by
        have hBx := q4.trans (hb2.mono q4.size)
        refine ⟨(q1.keep hb2).other b k _ (by omega), ?_, ?_, hBx.setCell (p := ⟨b, k, none⟩) (by show w.heap.size ≤ b; omega) _⟩
        · exact (unhide HSl).below (hBx.setCell (p := ⟨b, k, none⟩) (by show w.heap.size ≤ b; omega) _)
        · have := g3.set k (hasB (fun i => xs.getD i 0) k) hlt
          rw [Nat.zero_add] at this
          refine this.congr (fun x hx => ?_)
          by_cases hxk : x = k
          · subst hxk; simp
          · by_cases hx2 : x < k
            · simp [hxk, hx2, show x < k + 1 from by omega]
            · simp [hxk, hx2, show ¬ x < k + 1 from by omega])
      generalize hasB (fun i => xs.getD i 0) k = bv at *
      clear q1 q2 q3 q4 g3 hb2 HK HR v0 v1
      go_wp2_with fail
      obtain ⟨e1, e2, e3, e4⟩ := unhide HS
      exact ⟨⟨k + 1, by omega, by go_num, e1, e2, e3, e4, by simp; omega⟩, by simp [intOf]; omega⟩
    · have hlt' : ¬ (k : Int) < (sz : Int) := by omega
      have hkn : k = sz := by omega
      subst hkn
      clear q1 q2 q3 q4
      go_wp2_with fail
      go_ret
      obtain ⟨q1, q2, q3, q4⟩ := unhide HR
      exact ⟨b, rfl, by omega, q5, q3.congr (fun x hx => by simp [hx]), q4⟩

end Go.Proofs.YtbendkndnojihabDoor
