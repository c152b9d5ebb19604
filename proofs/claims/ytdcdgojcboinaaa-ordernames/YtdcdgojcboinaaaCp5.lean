/-
  ORDERS: buckets.lowest: contract.
-/
import Derived.Test.YtdcdgojcboinaaaCp4
namespace Go.Proofs.Ytdcdgojcboinaaa
open Go.Shelf Go.RowKit Go.Deep
set_option linter.unusedVariables false
variable {A : Nat → Prop}

set_option maxRecDepth 20000 in
set_option maxHeartbeats 4000000 in
theorem oisFull_any (a : Option Addr) (n c : Nat) (hn : n ≤ 1000) (ok : Bool) (hok : ok = decide (0 < n)) (w : World) :
    Calls Try.prog 54 #[.slice a n c] w fun e w' => e = .returned (.bool ok) ∧ Below w.heap.size w w' := by
  have hd : decide ((0 : Int) < (n : Int)) = ok := by rw [hok]; simp
  clear hok
  go_enter Try.func54, Try.ntmps54
  go_wp2_with fail
  try go_ret
  first | exact ⟨by simp_all, Below.refl _ _⟩ | exact ⟨by rw [hd], Below.refl _ _⟩
set_option maxRecDepth 20000 in
set_option maxHeartbeats 8000000 in
/-- slices.IndexFunc by isFull. -/
theorem oindexF_any (L n c : Nat) (f : Nat → Value) (xs : Nat → List Int) (t : Nat) (w : World) (h : BnI A w t L n f xs) (hn : n ≤ 1000) (hl : ∀ r, r < n → (xs r).length ≤ 1000) (hc : c < n) (hne : xs c ≠ []) (hlo : ∀ r, r < c → xs r = []) :
    Calls Try.prog 53 #[.slice (some ⟨L, 0, none⟩) n n, .func (.func 54) #[] #[]] w fun e w' => e = .returned (.int .i64 (c : Int)) ∧ Below w.heap.size w w' := by
  have HS := hide h
  have HF := hide (And.intro hne hlo)
  clear h hne hlo
  go_enter Try.func53, Try.ntmps53
  go_wp2_with fail
  go_loopw [8, 5] (fun iv _ wr => ∃ i : Nat, i ≤ c ∧ iv = .int .i64 (i : Int) ∧ Hid (Below w.heap.size w wr)) (fun iv _ _ => n - (intOf iv).toNat)
  case atStart => exact ⟨0, Nat.zero_le _, rfl, hide (Below.refl _ _)⟩
  case round =>
    obtain ⟨i, hi, rfl, HW⟩ := hrel
    have hlt : i < n := by omega
    have hlt' : (i : Int) < (n : Int) := by omega
    have hB := (unhide HS).below (unhide HW)
    have hx := (hB.row i hlt).1
    have hv := hB.own i hlt
    obtain ⟨a, m, cp, hv2, hm⟩ : ∃ a m cp, f i = .slice a m cp ∧ m = (xs i).length := by
      rcases hv with ⟨e, e2⟩ | ⟨g, o, cap, e, _⟩
      · exact ⟨_, _, _, e, by rw [e2]; rfl⟩
      · exact ⟨_, _, _, e, rfl⟩
    rw [hv2] at hx
    have hm2 : m ≤ 1000 := by rw [hm]; exact hl i hlt
    have HK := hide (fun ok (hok : ok = decide (0 < m)) => oisFull_any a m cp hm2 ok hok wr)
    have HM := hide hm
    clear hB hv hv2 hm
    by_cases e : i = c
    · subst e
      have hz : true = decide (0 < m) := by
        have : 0 < (xs i).length := List.length_pos_iff.2 (unhide HF).1
        rw [unhide HM]; simp [this]
      have K := hide (unhide HK true hz)
      clear HK hz
      go_wp2_with fail
      refine (unhide K).mono ?_
      rintro _ w2 ⟨rfl, b2⟩
      have HW2 := hide ((unhide HW).trans (b2.mono (unhide HW).size))
      clear b2 K hx
      go_wp2_with fail
      try go_ret
      exact ⟨rfl, unhide HW2⟩
    · have hz : false = decide (0 < m) := by
        rw [unhide HM, (unhide HF).2 i (by omega)]; rfl
      have K := hide (unhide HK false hz)
      clear HK hz
      go_wp2_with fail
      refine (unhide K).mono ?_
      rintro _ w2 ⟨rfl, b2⟩
      have HW2 := hide ((unhide HW).trans (b2.mono (unhide HW).size))
      clear b2 K hx
      go_wp2_with fail
      exact ⟨⟨i + 1, by omega, by (first | rfl | go_num), HW2⟩, by simp [intOf]; omega⟩
/-- The buckets, with what they say. -/
structure BuS (A : Nat → Prop) (W : World) (t X g0 gr gc gk gg n : Nat) (f : Nat → Value) (br : Nat → Nat) (rk : Nat → Int) (ct : Nat → Nat) (xs : Nat → List Int) (gone : Nat → Bool) : Prop where
  box : BoxP W X [.slice (some ⟨g0, 0, none⟩) n n, .slice (some ⟨gr, 0, none⟩) n n, .slice (some ⟨gc, 0, none⟩) n n, .slice (some ⟨gk, 0, none⟩) n n, .slice (some ⟨gg, 0, none⟩) n n]
  r0 : RoV W g0 n (fun i => .int .i64 (br i : Int))
  rr : RoV W gr n (fun i => .int .i64 (rk i))
  rc : RoV W gc n (fun i => .int .i64 (ct i : Int))
  bk : BnI A W t gk n f xs
  gn : RoV W gg n (fun i => .bool (gone i))
  ne : (X ≠ g0 ∧ X ≠ gr ∧ X ≠ gc ∧ X ≠ gk ∧ X ≠ gg) ∧ (g0 ≠ gr ∧ g0 ≠ gc ∧ g0 ≠ gk ∧ g0 ≠ gg) ∧ (gr ≠ gc ∧ gr ≠ gk ∧ gr ≠ gg) ∧ (gc ≠ gk ∧ gc ≠ gg) ∧ gk ≠ gg
  lt : (X < t ∧ g0 < t ∧ gr < t) ∧ gc < t ∧ gk < t ∧ gg < t
  ht : t ≤ W.heap.size
  hA : ∀ j, A j → j < W.heap.size
theorem BuS.chg {S : Nat → Prop} {W W' : World} {t X g0 gr gc gk gg n : Nat} {f : Nat → Value} {br : Nat → Nat} {rk : Nat → Int} {ct : Nat → Nat} {xs : Nat → List Int} {gone : Nat → Bool} (h : BuS A W t X g0 gr gc gk gg n f br rk ct xs gone) (k : Chg S W W') (h1 : ¬ S X ∧ ¬ S g0 ∧ ¬ S gr ∧ ¬ S gc ∧ ¬ S gk ∧ ¬ S gg) (hs : ∀ j, t ≤ j → j < W.heap.size → ¬ S j) : BuS A W' t X g0 gr gc gk gg n f br rk ct xs gone :=
  ⟨h.box.chg k h1.1, h.r0.chg k h1.2.1, h.rr.chg k h1.2.2.1, h.rc.chg k h1.2.2.2.1, h.bk.chg k h1.2.2.2.2.1 hs, h.gn.chg k h1.2.2.2.2.2, h.ne, h.lt, Nat.le_trans h.ht k.size, fun j hj => Nat.lt_of_lt_of_le (h.hA j hj) k.size⟩
theorem BuS.below {W W' : World} {t X g0 gr gc gk gg n : Nat} {f : Nat → Value} {br : Nat → Nat} {rk : Nat → Int} {ct : Nat → Nat} {xs : Nat → List Int} {gone : Nat → Bool} (h : BuS A W t X g0 gr gc gk gg n f br rk ct xs gone) (k : Below W.heap.size W W') : BuS A W' t X g0 gr gc gk gg n f br rk ct xs gone := h.chg (S := fun _ => False) (Chg.of_below k) ⟨fun x => x, fun x => x, fun x => x, fun x => x, fun x => x, fun x => x⟩ (fun _ _ _ x => x)
set_option maxRecDepth 20000 in
set_option maxHeartbeats 8000000 in
/-- buckets.lowest. -/
theorem olowest_any (t X g0 gr gc gk gg n c : Nat) (f : Nat → Value) (br : Nat → Nat) (rk : Nat → Int) (ct : Nat → Nat) (xs : Nat → List Int) (gone : Nat → Bool) (w : World) (h : BuS A w t X g0 gr gc gk gg n f br rk ct xs gone) (hn : n ≤ 1000) (hl : ∀ r, r < n → (xs r).length ≤ 1000) (hc : c < n) (hne : xs c ≠ []) (hlo : ∀ r, r < c → xs r = []) :
    Calls Try.prog 41 #[.pointer (some ⟨X, 0, none⟩)] w fun e w' => e = .returned (.int .i64 (c : Int)) ∧ Below w.heap.size w w' := by
  have p3 := (h.box.all 3 _ rfl).1
  have K := hide (oindexF_any gk n c f xs t w h.bk hn hl hc hne hlo)
  clear h hl hne hlo
  go_enter Try.func41, Try.ntmps41
  go_wp2_with fail
  refine (unhide K).mono ?_
  rintro _ w2 ⟨rfl, b2⟩
  clear K
  go_wp2_with fail
  try go_ret
  exact ⟨rfl, b2⟩
end Go.Proofs.Ytdcdgojcboinaaa
