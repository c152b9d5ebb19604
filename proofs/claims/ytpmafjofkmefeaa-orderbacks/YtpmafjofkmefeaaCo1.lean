/-
  ORDERS: Check and Inverse of both sides: contracts.
-/
import Derived.Test.YtpmafjofkmefeaaCh2
import Derived.Test.YtpmafjofkmefeaaCi4
namespace Go.Proofs.Ytpmafjofkmefeaa
open Go.RowKit Go.Deep
set_option linter.unusedVariables false

/-- What Check tells. -/
def chkE (ok : Bool) : Int := if ok then 0 else 182
set_option maxRecDepth 100000 in
set_option maxHeartbeats 16000000 in
/-- sloperef11.Check of a number that may be. -/
theorem wocheck_in (a : Option Addr) (m c : Nat) (xs : List Int) (n : Nat) (w : World) (h : SlI w a m c xs) (hm : m ≤ 17592186044416) (hn : n ≤ 128) (ok : Bool) (hok : TruQ ok (IsOrd xs n)) :
    Calls Try.prog 42 #[.int .i64 (n : Int), .slice a m c] w fun e w' => e = .returned (.int .i64 (chkE ok)) ∧ Below w.heap.size w w' := by
  have HS := hide h
  have HOK := hide hok
  have hml := h.len
  by_cases hne : m = n
  · subst hne
    have tn : ((m : Int) != (m : Int)) = false := by simp
    have tm0 : ¬ (m : Int) < 0 := by omega
    have tm1 : ¬ (128 : Int) < (m : Int) := by omega
    have hmk := make_boolsP m (by omega) w
    have hR := RoV.made w m 4 (.bool false)
    obtain ⟨wm, hwm⟩ : ∃ x, w.alloc (.cells (madeCells #[.bool false] m) 4) = x := ⟨_, rfl⟩
    have bm : Below w.heap.size w wm := by rw [← hwm]; exact (Below.refl _ _).alloc (Nat.le_refl _) _
    rw [hwm] at hmk hR
    obtain ⟨g, hg⟩ : ∃ g, w.heap.size = g := ⟨_, rfl⟩
    have HB := hide bm
    have HG := hide hg
    rw [hg] at hmk hR
    have HR0 := hide hR
    have HS3 := hide ((unhide HS).below bm)
    have HLW := hide (show xs ≠ [] → ∀ z, a = some z → z.block ≠ g from fun hne z hz e => by have := (unhide HS).block_lt hne z hz; omega)
    clear h hok hml bm hR hwm
    go_enter Try.func42, Try.ntmps42
    go_wp2_with fail
    go_loopw [6] (fun kv wr => ∃ k : Nat, k ≤ m ∧ kv = .int .i64 (k : Int) ∧ Hid (RoV wr g m (fun v => .bool (posI xs k v != -1))) ∧ Hid (OrdTo xs m k) ∧ Hid (Chg (fun j => j = g) wm wr)) (fun kv _ => m - (intOf kv).toNat)
    case atStart => exact ⟨0, Nat.zero_le _, rfl, hide ((unhide HR0).congr (fun i _ => by simp [posI])), hide ⟨fun j hj => by omega, fun i j _ hj => by omega⟩, hide (Chg.refl _ _)⟩
    case round =>
      obtain ⟨k, hk, rfl, HR, HO, HC⟩ := hrel
      by_cases hlt : k < m
      · have hlt' : (k : Int) < (m : Int) := by omega
        have hsl := (unhide HS3).chg (unhide HC) (fun z hz hne => unhide HLW hne z hz)
        obtain ⟨b, off, rfl, hc⟩ := hsl.at (by omega)
        have sk := hc k hlt
        have hbg : b ≠ g := unhide HLW (fun e => by have := (unhide HS).len; rw [e] at this; simp at this; omega) _ rfl
        obtain ⟨x, hx⟩ : ∃ x, xs.getD k 0 = x := ⟨_, rfl⟩
        rw [hx] at sk
        have HX := hide hx
        clear hc hsl hx hmk
        by_cases hx0 : x < 0
        · have HNO := hide (show ¬ OrdTo xs m m from fun h => by have := (h.rng k hlt).1; rw [unhide HX] at this; omega)
          have hokf : ok = false := by
            cases hk2 : ok
            · rfl
            · exact absurd (Iff.mp (unhide HOK) hk2).2 (unhide HNO)
          subst hokf
          go_wp2_with fail
          try go_ret
          exact ⟨rfl, by have h9 := (unhide HB).trans ((unhide HC).below (unhide HB).size (fun j hj e => by have := unhide HG; omega)); first | exact h9 | (rw [unhide HG] at h9; exact h9)⟩
        · by_cases hxm : (m : Int) ≤ x
          · have HNO := hide (show ¬ OrdTo xs m m from fun h => by have := (h.rng k hlt).2; rw [unhide HX] at this; omega)
            have hokf : ok = false := by
              cases hk2 : ok
              · rfl
              · exact absurd (Iff.mp (unhide HOK) hk2).2 (unhide HNO)
            subst hokf
            go_wp2_with fail
            try go_ret
            exact ⟨rfl, by have h9 := (unhide HB).trans ((unhide HC).below (unhide HB).size (fun j hj e => by have := unhide HG; omega)); first | exact h9 | (rw [unhide HG] at h9; exact h9)⟩
          · obtain ⟨v, hv⟩ : ∃ v : Nat, x = (v : Int) := ⟨x.toNat, by omega⟩
            subst hv
            have hvm : v < m := by omega
            have hvm' : (v : Int) < (m : Int) := by omega
            have hc1 := (unhide HR v hvm).1
            have hc2 := (unhide HR v hvm).2
            obtain ⟨p, hp⟩ : ∃ p, (posI xs k v != -1) = p := ⟨_, rfl⟩
            simp only [hp] at hc1
            have HPP := hide hp
            clear hp
            cases p
            · have hq : posI xs k v = -1 := by have := unhide HPP; simpa using this
              have HN := hide (OrdTo.next (unhide HO) (unhide HX) hvm hq)
              have HN2 := hide (show RoV (wr.setCell ⟨g, v, none⟩ (.bool true)) g m (fun u => .bool (posI xs (k + 1) u != -1)) from ((unhide HR).put v (.bool true) hvm).congr (fun u hu => by
                simp only [posI, unhide HX]
                by_cases e : u = v
                · subst e; simp
                · rw [if_neg e, if_neg (by omega)]))
              have HN3 := hide (show Chg (fun j => j = g) wm (wr.setCell ⟨g, v, none⟩ (.bool true)) from (unhide HC).trans (Chg.of_set _ _ _ _ rfl))
              clear hq
              go_wp2_with fail
              exact ⟨⟨k + 1, by omega, by (first | rfl | go_num), HN2, HN, HN3⟩, by simp [intOf]; omega⟩
            · have HNO := hide (OrdTo.no (n := m) hlt (unhide HX) (fun e => by have := unhide HPP; rw [e] at this; simp at this))
              have hokf : ok = false := by
                cases hk2 : ok
                · rfl
                · exact absurd (Iff.mp (unhide HOK) hk2).2 (unhide HNO)
              subst hokf
              go_wp2_with fail
              try go_ret
              exact ⟨rfl, by have h9 := (unhide HB).trans ((unhide HC).below (unhide HB).size (fun j hj e => by have := unhide HG; omega)); first | exact h9 | (rw [unhide HG] at h9; exact h9)⟩
      · obtain rfl : k = m := by omega
        have hlt' : ¬ (k : Int) < (k : Int) := by omega
        have hokt : ok = true := Iff.mpr (unhide HOK) ⟨(unhide HS).len, unhide HO⟩
        subst hokt
        clear hmk
        go_wp2_with fail
        try go_ret
        exact ⟨rfl, by have h9 := (unhide HB).trans ((unhide HC).below (unhide HB).size (fun j hj e => by have := unhide HG; omega)); first | exact h9 | (rw [unhide HG] at h9; exact h9)⟩
  · have hne1 : ((m : Int) != (n : Int)) = true := by simp; omega
    have tm0 : ¬ (n : Int) < 0 := by omega
    have tm1 : ¬ (128 : Int) < (n : Int) := by omega
    have hokf : ok = false := by
      cases hk : ok
      · rfl
      · have := (Iff.mp hok hk).1
        omega
    subst hokf
    clear h hok hml hne
    go_enter Try.func42, Try.ntmps42
    go_wp2_with fail
    try go_ret
    exact ⟨rfl, Below.refl _ _⟩
set_option maxRecDepth 100000 in
set_option maxHeartbeats 8000000 in
/-- sloperef11.Check of a number that may not be. -/
theorem wocheck_out (x : Int) (a : Option Addr) (m c : Nat) (w : World) (hx : x < 0 ∨ 128 < x) :
    Calls Try.prog 42 #[.int .i64 x, .slice a m c] w fun e w' => e = .returned (.int .i64 220) ∧ Below w.heap.size w w' := by
  rcases hx with h | h
  · go_enter Try.func42, Try.ntmps42
    go_wp2_with fail
    try go_ret
    exact ⟨rfl, Below.refl _ _⟩
  · have h0 : ¬ x < 0 := by omega
    go_enter Try.func42, Try.ntmps42
    go_wp2_with fail
    try go_ret
    exact ⟨rfl, Below.refl _ _⟩
end Go.Proofs.Ytpmafjofkmefeaa
