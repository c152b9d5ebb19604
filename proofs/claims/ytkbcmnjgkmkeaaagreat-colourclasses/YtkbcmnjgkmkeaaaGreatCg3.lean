/-
  GRAPHS: colour.pairs.meet: contract.
-/
import Derived.Test.YtkbcmnjgkmkeaaaGreatCg2
namespace Go.Proofs.YtkbcmnjgkmkeaaaGreat
open Go.RowKit Go.Deep
set_option linter.unusedVariables false

/-- The pairs of a list's things, the first i whole, of the next one the first j. -/
def MeP (xs : List Int) (i j : Nat) (x : Nat) : Prop := ∃ p q : Nat, (p < i ∧ q < xs.length ∨ p = i ∧ q < j) ∧ xs.getD p 0 * 128 + xs.getD q 0 = (x : Int)
theorem MeP.step {xs : List Int} {i j : Nat} {c : Nat} (hj : j < xs.length) (hc : xs.getD i 0 * 128 + xs.getD j 0 = (c : Int)) (x : Nat) : MeP xs i (j + 1) x ↔ (MeP xs i j x ∨ x = c) := by
  constructor
  · rintro ⟨p, q, h, e⟩
    rcases h with h | ⟨h1, h2⟩
    · exact .inl ⟨p, q, .inl h, e⟩
    · by_cases e2 : q = j
      · subst h1 e2
        right
        omega
      · exact .inl ⟨p, q, .inr ⟨h1, by omega⟩, e⟩
  · rintro (⟨p, q, h, e⟩ | e)
    · rcases h with h | ⟨h1, h2⟩
      · exact ⟨p, q, .inl h, e⟩
      · exact ⟨p, q, .inr ⟨h1, by omega⟩, e⟩
    · exact ⟨i, j, .inr ⟨rfl, by omega⟩, by rw [e]; exact hc⟩
theorem MeP.next {xs : List Int} {i x : Nat} : MeP xs (i + 1) 0 x ↔ MeP xs i xs.length x := by
  constructor
  · rintro ⟨p, q, h, e⟩
    rcases h with ⟨h1, h2⟩ | ⟨h1, h2⟩
    · by_cases e2 : p = i
      · exact ⟨p, q, .inr ⟨e2, h2⟩, e⟩
      · exact ⟨p, q, .inl ⟨by omega, h2⟩, e⟩
    · omega
  · rintro ⟨p, q, h, e⟩
    rcases h with ⟨h1, h2⟩ | ⟨h1, h2⟩
    · exact ⟨p, q, .inl ⟨by omega, h2⟩, e⟩
    · exact ⟨p, q, .inl ⟨by omega, h2⟩, e⟩
/-- The truths of pairs, as they lie. -/
structure PrS (w W : World) (b : Nat) (P : Nat → Prop) : Prop where
  row : RoV W b 16384 (fun x => .bool (tb (P x)))
  chg : Chg (fun j => j = b) w W
theorem PrS.put {w W : World} {b : Nat} {P R : Nat → Prop} (h : PrS w W b P) (x : Nat) (hx : x < 16384) (e : ∀ y, R y ↔ (P y ∨ y = x)) : PrS w (W.setCell ⟨b, x, none⟩ (.bool true)) b R := by
  refine ⟨(h.row.put x (.bool true) hx).congr (fun i hi => ?_), h.chg.trans (Chg.of_set _ _ _ _ rfl)⟩
  by_cases c : i = x
  · simp only [c, if_true]
    rw [tb_yes ((e x).2 (.inr rfl))]
  · simp only [c, if_false]
    rw [tb_congr (show P i ↔ R i from ⟨fun p => (e i).2 (.inl p), fun q => ((e i).1 q).resolve_right c⟩)]
theorem PrS.congr {w W : World} {b : Nat} {P R : Nat → Prop} (h : PrS w W b P) (e : ∀ x, P x ↔ R x) : PrS w W b R := ⟨h.row.congr (fun i hi => by rw [tb_congr (e i)]), h.chg⟩
theorem PrS.drew {w W : World} {b : Nat} {P : Nat → Prop} (h : PrS w W b P) : PrS w W.drew b P := ⟨h.row.chg (S := fun _ => False) (Chg.of_drew _) (fun x => x), h.chg.trans (Chg.of_drew _)⟩
set_option maxRecDepth 100000 in
set_option maxHeartbeats 16000000 in
/-- colour.pairs.meet. -/
theorem pmeet_any (b : Nat) (a : Option Addr) (n c : Nat) (xs : List Int) (P : Nat → Prop) (w : World) (h : SlI w a n c xs) (hn : n ≤ 17592186044416) (hx : ∀ i, i < n → 0 ≤ xs.getD i 0 ∧ xs.getD i 0 < 128) (hna : ∀ z, a = some z → xs ≠ [] → z.block ≠ b) (hS : RoV w b 16384 (fun x => .bool (tb (P x)))) :
    Calls Tryz.prog 91 #[.pointer (some ⟨b, 0, none⟩), .slice a n c] w fun e w' => (∃ v, e = .returned v) ∧ PrS w w' b (fun x => P x ∨ MeP xs n 0 x) := by
  have HL := hide h.len
  have HSl := hide (show ∀ W, Chg (fun j => j = b) w W → SlI W a n c xs from fun W k => h.chg k (fun z hz hne e => hna z hz hne e))
  have HX := hide hx
  have HS0 := hide hS
  clear h hx hna hS
  go_enter Tryz.func91, Tryz.ntmps91
  go_wp2_with fail
  go_loopw [10, 5] (fun kv _ wr => ∃ k : Nat, k ≤ n ∧ kv = .int .i64 (k : Int) ∧ Hid (PrS w wr b (fun x => P x ∨ MeP xs k 0 x))) (fun kv _ _ => n - (intOf kv).toNat)
  case atStart =>
    refine ⟨0, Nat.zero_le _, rfl, hide ⟨(unhide HS0).congr (fun i hi => ?_), Chg.refl _ _⟩⟩
    rw [tb_congr (show P i ↔ (P i ∨ MeP xs 0 0 i) from ⟨.inl, fun z => z.elim id (fun ⟨p, q, h, _⟩ => by omega)⟩)]
  case round =>
    obtain ⟨k, hk, rfl, HK⟩ := hrel
    by_cases hlt : k < n
    · have hlt' : (k : Int) < (n : Int) := by omega
      obtain ⟨bb, off, rfl, hc⟩ := (unhide HSl wr (unhide HK).chg).at (by omega)
      have sk := hc k hlt
      have hx1 := unhide HX k hlt
      obtain ⟨U, hU⟩ : ∃ U : Nat, xs.getD k 0 = (U : Int) := ⟨(xs.getD k 0).toNat, by omega⟩
      rw [hU] at sk hx1
      have HU := hide hU
      have hU8 : (U : Int) < 128 := hx1.2
      clear hc hU hx1
      go_wp2_with fail
      go_loopw [16, 7] (fun iv _ wq => ∃ v : Nat, v ≤ n ∧ iv = .int .i64 (v : Int) ∧ Hid (PrS w wq b (fun x => P x ∨ MeP xs k v x))) (fun iv _ _ => n - (intOf iv).toNat)
      case atStart => exact ⟨0, Nat.zero_le _, rfl, HK⟩
      case round =>
        clear sk
        obtain ⟨v, hv, rfl, HV⟩ := hrel
        by_cases hin : v < n
        · have hin' : (v : Int) < (n : Int) := by omega
          obtain ⟨bb', off', e1, hc⟩ := (unhide HSl wr (unhide HV).chg).at (by omega)
          cases e1
          have sv := hc v hin
          have hx2 := unhide HX v hin
          obtain ⟨V, hVV⟩ : ∃ V : Nat, xs.getD v 0 = (V : Int) := ⟨(xs.getD v 0).toNat, by omega⟩
          rw [hVV] at sv hx2
          have hV8 : (V : Int) < 128 := hx2.2
          have hcell := (unhide HV).row (U * 128 + V) (by omega)
          have hc1 := hcell.1
          have hc2 := hcell.2
          have HN := hide (((unhide HV).put (R := fun x => P x ∨ MeP xs k (v + 1) x) (U * 128 + V) (by omega) (fun y => by
            have h9 := MeP.step (xs := xs) (i := k) (j := v) (c := U * 128 + V) (by rw [unhide HL]; exact hin) (by rw [unhide HU, hVV]; omega) y
            constructor
            · rintro (z | z)
              · exact .inl (.inl z)
              · rcases h9.1 z with z | z
                · exact .inl (.inr z)
                · exact .inr z
            · rintro ((z | z) | z)
              · exact .inl z
              · exact .inr (h9.2 (.inl z))
              · exact .inr (h9.2 (.inr z)))))
          clear hc hcell hVV hx2
          go_wp2_with fail
          try go_region
          all_goals (try go_wp2_with fail)
          all_goals exact ⟨⟨v + 1, by omega, by (first | rfl | go_num), hide (by first | exact unhide HN | exact (unhide HN).drew)⟩, by simp [intOf]; omega⟩
        · obtain rfl : v = n := by omega
          have hin' : ¬ (v : Int) < (v : Int) := by omega
          go_wp2_with fail
          refine ⟨⟨k + 1, by omega, by (first | rfl | go_num), hide ((unhide HV).congr (fun x => ?_))⟩, by simp [intOf]; omega⟩
          rw [MeP.next, unhide HL]
    · obtain rfl : k = n := by omega
      have hlt' : ¬ (k : Int) < (k : Int) := by omega
      go_wp2_with fail
      go_end0
      exact ⟨⟨_, rfl⟩, unhide HK⟩
end Go.Proofs.YtkbcmnjgkmkeaaaGreat
