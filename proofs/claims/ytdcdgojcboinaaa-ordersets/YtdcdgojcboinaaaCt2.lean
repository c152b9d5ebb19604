/-
  ORDERS: OrderSets of a graph.
-/
import Derived.Test.YtdcdgojcboinaaaCt1
namespace Go.Proofs.Ytdcdgojcboinaaa
open Go.Shelf Go.RowKit Go.Deep
set_option linter.unusedVariables false

/-- The least of those in a set, -1 where there is none. -/
def leI (T : Nat → Bool) (f : Nat → Nat) : Nat → Int
  | 0 => -1
  | v + 1 => if T v = true then (if leI T f v < 0 ∨ (f v : Int) < leI T f v then (f v : Int) else leI T f v) else leI T f v
theorem leI_is (T : Nat → Bool) (f : Nat → Nat) : ∀ k, (leI T f k = -1 ∧ ∀ v, v < k → T v = false) ∨ ∃ l : Nat, leI T f k = (l : Int) ∧ (∃ v, v < k ∧ T v = true ∧ f v = l) ∧ ∀ v, v < k → T v = true → l ≤ f v
  | 0 => .inl ⟨rfl, fun v hv => by omega⟩
  | k + 1 => by
    have ih := leI_is T f k
    simp only [leI]
    cases hT : T k
    · simp only [Bool.false_eq_true, if_false]
      rcases ih with ⟨e, h⟩ | ⟨l, e, ⟨v, hv, ht, hf⟩, h⟩
      · refine .inl ⟨e, fun v hv => ?_⟩
        by_cases c : v = k
        · rw [c]; exact hT
        · exact h v (by omega)
      · refine .inr ⟨l, e, ⟨v, by omega, ht, hf⟩, fun u hu hut => ?_⟩
        by_cases c : u = k
        · rw [c, hT] at hut; cases hut
        · exact h u (by omega) hut
    · simp only [if_true]
      rcases ih with ⟨e, h⟩ | ⟨l, e, ⟨v, hv, ht, hf⟩, h⟩
      · rw [e, if_pos (.inl (by omega))]
        refine .inr ⟨f k, rfl, ⟨k, by omega, hT, rfl⟩, fun u hu hut => ?_⟩
        by_cases c : u = k
        · rw [c]; exact Nat.le_refl _
        · have := h u (by omega); rw [this] at hut; cases hut
      · rw [e]
        by_cases c : f k < l
        · rw [if_pos (.inr (by omega))]
          refine .inr ⟨f k, rfl, ⟨k, by omega, hT, rfl⟩, fun u hu hut => ?_⟩
          by_cases c2 : u = k
          · rw [c2]; exact Nat.le_refl _
          · have := h u (by omega) hut; omega
        · rw [if_neg (by omega)]
          refine .inr ⟨l, rfl, ⟨v, by omega, ht, hf⟩, fun u hu hut => ?_⟩
          by_cases c2 : u = k
          · rw [c2]; omega
          · exact h u (by omega) hut
section
variable {R : Nat} {st cols : List Int}
theorem leI_dg (hm : MayP (R : Int) (R : Int) st cols) (hg : GraP st cols R R) (T : Nat → Bool) : leI T (fun v => amN T (rowL st cols v) (rowL st cols v).length) R ≤ (dgN R st cols : Int) := by
  rcases leI_is T (fun v => amN T (rowL st cols v) (rowL st cols v).length) R with ⟨e, _⟩ | ⟨l, e, ⟨v, hv, ht, _⟩, h⟩
  · omega
  · have := set_dgN hm hg (T := T) (k := l) (fun u hu hut => h u hu hut) ⟨v, hv, ht⟩
    omega
theorem leI_co (hm : MayP (R : Int) (R : Int) st cols) (hg : GraP st cols R R) (T : Nat → Bool) {v : Nat} (hv : v < R) (ht : T v = true) : leI T (fun v => amN T (rowL st cols v) (rowL st cols v).length) R ≤ (coV R st cols v : Int) := by
  rcases leI_is T (fun v => amN T (rowL st cols v) (rowL st cols v).length) R with ⟨e, _⟩ | ⟨l, e, _, h⟩
  · omega
  · have := set_core hm hg (T := T) (k := l) (fun u hu hut => h u hu hut) hv ht
    omega
end
set_option maxRecDepth 100000 in
set_option maxHeartbeats 16000000 in
/-- OrderSets of a graph, a number from 0 to 128. -/
theorem sets_gr (R : Nat) (a1 a2 : Option Addr) (n1 c1 n2 c2 : Nat) (st cols : List Int) (a : Option Addr) (n c : Nat) (B : Nat → Bool) (K : Nat) (w : World) (h1 : SlI w a1 n1 c1 st) (h2 : SlI w a2 n2 c2 cols) (h3 : SlB w a n c B) (hb1 : n1 ≤ 17592186044000) (hb2 : n2 ≤ 17592186044000) (hK : K ≤ 128) (hm : MayP (R : Int) (R : Int) st cols) (hg : GraP st cols R R) :
    Calls Try.prog 3 #[patV (R : Int) (R : Int) a1 n1 c1 a2 n2 c2, .slice a n c, .int .i64 (K : Int)] w fun e w' => e = .returned (.bool true) ∧ Below w.heap.size w w' := by
  have hR : R ≤ 128 := by have := hm.head.fit; omega
  have hdg : ∀ v, v < R → (rowL st cols v).length < R := fun v hv => deg_lt hm hg hv
  have hok := peO_all hm hg
  obtain ⟨wb, hwb⟩ : ∃ x, w.alloc (.cells #[.int .i64 (R : Int), .int .i64 (R : Int), .slice a1 n1 c1, .slice a2 n2 c2] 24) = x := ⟨_, rfl⟩
  have bb : Below w.heap.size w wb := by rw [← hwb]; exact (Below.refl _ _).alloc (Nat.le_refl _) _
  have hT := BoxP.made w #[.int .i64 (R : Int), .int .i64 (R : Int), .slice a1 n1 c1, .slice a2 n2 c2] 24
  rw [hwb] at hT
  have p0 := (hT.all 0 _ rfl).1
  have p1 := (hT.all 1 _ rfl).1
  have p2 := (hT.all 2 _ rfl).1
  have p3 := (hT.all 3 _ rfl).1
  have hgr : IsGr (R : Int) (R : Int) st cols := ⟨R, rfl, rfl, hm, hg⟩
  have K1 := hide (odegen_all R a1 a2 n1 c1 n2 c2 st cols wb (h1.below bb) (h2.below bb) hb1 hb2 hm hg hdg hok)
  have K2 := hide (fun (W : World) (b : Below w.heap.size w W) => wowrong_any (R : Int) (R : Int) a1 a2 n1 c1 n2 c2 st cols W (h1.below b) (h2.below b) hb1 hb2 true ⟨fun _ => hgr, fun _ => rfl⟩)
  have K3 := hide (fun (W : World) (b : Below w.heap.size w W) (a : Option Addr) (n c : Nat) (B : Nat → Bool) (v : Nat) (hv : v < R) (hin : SlB W a n c B) => oinside_any R a1 a2 n1 c1 n2 c2 a n c B st cols v W (h1.below b) (h2.below b) hb1 hb2 hm hv hin)
  unfold patV at K1 K2 K3
  have HM := hide (And.intro hm hg)
  have HS3 := hide h3
  obtain ⟨D, hD⟩ : ∃ D, dgN R st cols = D := ⟨_, rfl⟩
  have HL1 := hide (show leI (seB n B) (fun v => amN (seB n B) (rowL st cols v) (rowL st cols v).length) R ≤ (D : Int) by rw [← hD]; exact leI_dg hm hg _)
  have HL2 := hide (fun (v : Nat) (hv : v < R) (ht : seB n B v = true) => leI_co hm hg (seB n B) hv ht)
  have HHS := hide (high_set hm hg K)
  have hKn : ¬ (K : Int) < 0 := by omega
  have hKm : ¬ (128 : Int) < (K : Int) := by omega
  have HB := hide bb
  have HT := hide hT
  have HD := hide hD
  clear hT bb h1 h2 h3 hm hg hdg hok hgr hD
  unfold patV
  go_enter Try.func3, Try.ntmps3
  go_wp2_with fail
  refine (unhide K1).mono ?_
  rintro _ w2 ⟨v, g, hgw, rfl, hr, hmx, b2⟩
  have hv := degen_is (unhide HM).1 (unhide HM).2 hmx
  rw [unhide HD] at hv
  subst hv
  have HR2 := hide (show RoV w2 g R (fun v => .int .i64 (coV R st cols v : Int)) from hr)
  have HB2 := hide ((unhide HB).trans (b2.mono (unhide HB).size))
  have HT2 := hide ((unhide HT).below b2)
  have HG := hide (show w.heap.size ≤ g from Nat.le_trans (unhide HB).size hgw)
  clear K1 b2 p0 p1 p2 p3 hr hmx hgw
  have p0 := ((unhide HT2).all 0 _ rfl).1
  have p1 := ((unhide HT2).all 1 _ rfl).1
  have p2 := ((unhide HT2).all 2 _ rfl).1
  have p3 := ((unhide HT2).all 3 _ rfl).1
  go_wp2_with fail
  refine (unhide K2 w2 (unhide HB2)).mono ?_
  rintro _ w3 ⟨rfl, b3⟩
  have HB3 := hide ((unhide HB2).trans (b3.mono (unhide HB2).size))
  have HT3 := hide ((unhide HT2).below b3)
  have HR3 := hide ((unhide HR2).below b3)
  clear K2 b3 p0 p1 p2 p3 HR2 HT2 HB2
  have p0 := ((unhide HT3).all 0 _ rfl).1
  have d2 : ((R : Int) == (R : Int)) = true := by simp
  go_wp2_with ((go_at_call 7; refine (num11_any _ _).mono ?_; rintro _ wn ⟨rfl, hwn⟩; rw [hwn]; clear hwn wn))
  clear p0 d2 hKn hKm
  obtain ⟨f, hf⟩ : ∃ f : Nat → Nat, (fun v => amN (seB n B) (rowL st cols v) (rowL st cols v).length) = f := ⟨_, rfl⟩
  have HF := hide (fun v => (congrFun hf v).symm)
  rw [hf] at HL1 HL2
  obtain ⟨T, hTT⟩ : ∃ T : Nat → Bool, seB n B = T := ⟨_, rfl⟩
  have HTT := hide hTT
  rw [hTT] at HL1 HL2
  clear hf hTT
  go_loopw [11, 10] (fun kv lv wr => ∃ k : Nat, k ≤ R ∧ kv = .int .i64 (k : Int) ∧ lv = .int .i64 (leI T f k) ∧ Hid (Below w3.heap.size w3 wr)) (fun kv _ _ => R - (intOf kv).toNat)
  case atStart => exact ⟨0, Nat.zero_le _, rfl, rfl, hide (Below.refl _ _)⟩
  case round =>
    obtain ⟨k, hk, rfl, rfl, HW⟩ := hrel
    have HTr := hide ((unhide HT3).below (unhide HW))
    have HBr := hide ((unhide HB3).trans ((unhide HW).mono (unhide HB3).size))
    have p0 := ((unhide HTr).all 0 _ rfl).1
    have p1 := ((unhide HTr).all 1 _ rfl).1
    have p2 := ((unhide HTr).all 2 _ rfl).1
    have p3 := ((unhide HTr).all 3 _ rfl).1
    obtain ⟨q, hq⟩ : ∃ q, leI T f k = q := ⟨_, rfl⟩
    rw [hq]
    by_cases hlt : k < R
    · have hlt' : (k : Int) < (R : Int) := by omega
      by_cases hkn : k < n
      · have hkn' : (k : Int) < (n : Int) := by omega
        have hsr := (unhide HS3).below (unhide HBr)
        have KI := hide (unhide K3 wr (unhide HBr) a n c B k hlt hsr)
        obtain ⟨bS, oS, rfl, hcS⟩ := hsr.at (by omega)
        have su := hcS k hkn
        clear hcS
        obtain ⟨t, ht⟩ : ∃ t, B k = t := ⟨_, rfl⟩
        rw [ht] at su
        have HTk := hide (show T k = t by rw [← unhide HTT]; unfold seB; rw [ht]; simp [hkn])
        clear ht
        cases t
        · have HZ := hide (show leI T f (k + 1) = q by simp only [leI]; rw [unhide HTk, hq]; simp)
          clear hq
          go_wp2_with fail
          exact ⟨⟨k + 1, by omega, by (first | rfl | go_num), by rw [unhide HZ], HW⟩, by simp [intOf]; omega⟩
        · go_wp2_with fail
          refine (unhide KI).mono ?_
          rintro _ w6 ⟨rfl, b6⟩
          have HW6 := hide ((unhide HW).trans (b6.mono (unhide HW).size))
          have HFk := hide (unhide HF k)
          have hfk : f k = amN (seB n B) (rowL st cols k) (rowL st cols k).length := unhide HF k
          rw [← hfk]
          obtain ⟨y, hy⟩ : ∃ y, f k = y := ⟨_, rfl⟩
          rw [hy]
          have hz : leI T f (k + 1) = if q < 0 ∨ (y : Int) < q then (y : Int) else q := by simp only [leI]; rw [unhide HTk, hq, hy]; simp
          clear KI b6 p0 p1 p2 p3 hfk hy hq
          by_cases hq0 : q < 0
          · have HZ := hide (show leI T f (k + 1) = (y : Int) by rw [hz, if_pos (.inl hq0)])
            clear hz
            go_wp2_with fail
            exact ⟨⟨k + 1, by omega, by (first | rfl | go_num), by rw [unhide HZ], HW6⟩, by simp [intOf]; omega⟩
          · by_cases hqy : (y : Int) < q
            · have HZ := hide (show leI T f (k + 1) = (y : Int) by rw [hz, if_pos (.inr hqy)])
              clear hz
              go_wp2_with fail
              exact ⟨⟨k + 1, by omega, by (first | rfl | go_num), by rw [unhide HZ], HW6⟩, by simp [intOf]; omega⟩
            · have HZ := hide (show leI T f (k + 1) = q by rw [hz, if_neg (by omega)])
              clear hz
              go_wp2_with fail
              exact ⟨⟨k + 1, by omega, by (first | rfl | go_num), by rw [unhide HZ], HW6⟩, by simp [intOf]; omega⟩
      · have hkn' : ¬ (k : Int) < (n : Int) := by omega
        have HZ := hide (show leI T f (k + 1) = q by
          simp only [leI]
          rw [show T k = false by rw [← unhide HTT]; unfold seB; simp [hkn], hq]
          simp)
        clear hq
        go_wp2_with fail
        exact ⟨⟨k + 1, by omega, by (first | rfl | go_num), by rw [unhide HZ], HW⟩, by simp [intOf]; omega⟩
    · obtain rfl : k = R := by omega
      have hlt' : ¬ (k : Int) < (k : Int) := by omega
      rw [hq] at HL1 HL2
      have hqd : ¬ (D : Int) < q := by have := unhide HL1; omega
      clear hq
      obtain ⟨wo, hwo⟩ : ∃ x, x = wr := ⟨_, rfl⟩
      subst hwo
      have hmk := make_boolsP k (by omega) wo
      have hRo := RoV.made wo k 4 (.bool false)
      obtain ⟨wm, hwm⟩ : ∃ x, wo.alloc (.cells (madeCells #[.bool false] k) 4) = x := ⟨_, rfl⟩
      have bm : Below wo.heap.size wo wm := by rw [← hwm]; exact (Below.refl _ _).alloc (Nat.le_refl _) _
      rw [hwm] at hmk hRo
      obtain ⟨gh, hgh⟩ : ∃ gh, wo.heap.size = gh := ⟨_, rfl⟩
      rw [hgh] at hmk hRo
      have HRo := hide hRo
      have HBm := hide bm
      have HGH := hide hgh
      have HRr := hide ((unhide HR3).below (unhide HW))
      clear hRo bm hgh hwm HR3
      obtain ⟨cf, hcf⟩ : ∃ cf : Nat → Nat, coV k st cols = cf := ⟨_, rfl⟩
      rw [hcf] at HRr HL2 HHS
      clear hcf HL1 HF
      go_wp2_with fail
      clear hmk p0 p1 p2 p3
      go_loopw [14] (fun jv w7 => ∃ j : Nat, j ≤ k ∧ jv = .int .i64 (j : Int) ∧ Hid (RoV w7 gh k (fun u => .bool (decide (u < j) && decide (K ≤ cf u)))) ∧ Hid (Below wo.heap.size wo w7)) (fun jv _ => k - (intOf jv).toNat)
      case atStart => exact ⟨0, Nat.zero_le _, rfl, hide ((unhide HRo).congr (fun u hu => by simp)), HBm⟩
      case round =>
        obtain ⟨j, hj, rfl, HQ, HW7⟩ := hrel
        obtain ⟨w7, hw7⟩ : ∃ x, x = wr := ⟨_, rfl⟩
        subst hw7
        have HT7 := hide ((unhide HTr).below (unhide HW7))
        have HB7 := hide ((unhide HBr).trans ((unhide HW7).mono (unhide HBr).size))
        have p0 := ((unhide HT7).all 0 _ rfl).1
        by_cases hlt2 : j < k
        · have hlt2' : (j : Int) < (k : Int) := by omega
          have r0 := ((unhide HRr).below (unhide HW7) j hlt2).1
          have q0 := (unhide HQ j hlt2).1
          have q1 := (unhide HQ j hlt2).2
          obtain ⟨y, hy⟩ : ∃ y, cf j = y := ⟨_, rfl⟩
          rw [hy] at r0
          have HR8 := hide (show RoV (w7.setCell ⟨gh, j, none⟩ (.bool (decide (K ≤ y)))) gh k (fun u => .bool (decide (u < j + 1) && decide (K ≤ cf u))) from ((unhide HQ).put j _ hlt2).congr (fun u hu => by
            by_cases e : u = j
            · rw [if_pos e, e, hy]
              simp
            · rw [if_neg e]
              have : (u < j) ↔ (u < j + 1) := by omega
              simp [this]))
          have HB8 := hide (show Below wo.heap.size wo (w7.setCell ⟨gh, j, none⟩ (.bool (decide (K ≤ y)))) from (unhide HW7).trans ((Chg.of_set (S := fun i => i = gh) w7 gh j (.bool (decide (K ≤ y))) rfl).below (unhide HW7).size (fun i hi e => by have e' : i = gh := e; have := unhide HGH; omega)))
          have HLj := hide (unhide HL2 j hlt2)
          rw [hy] at HLj
          clear hy
          by_cases hkn : j < n
          · have hkn' : (j : Int) < (n : Int) := by omega
            have hsr := (unhide HS3).below (unhide HB7)
            obtain ⟨bS, oS, rfl, hcS⟩ := hsr.at (by omega)
            have su := hcS j hkn
            clear hcS hsr
            obtain ⟨t, ht⟩ : ∃ t, B j = t := ⟨_, rfl⟩
            rw [ht] at su
            have HTk := hide (show T j = t by rw [← unhide HTT]; unfold seB; rw [ht]; simp [hkn])
            clear ht
            cases t
            · go_wp2_with fail
              exact ⟨⟨j + 1, by omega, by (first | rfl | go_num), HR8, HB8⟩, by simp [intOf]; omega⟩
            · have hqy : ¬ (y : Int) < q := by have := unhide HLj (unhide HTk); omega
              go_wp2_with fail
              exact ⟨⟨j + 1, by omega, by (first | rfl | go_num), HR8, HB8⟩, by simp [intOf]; omega⟩
          · have hkn' : ¬ (j : Int) < (n : Int) := by omega
            go_wp2_with fail
            exact ⟨⟨j + 1, by omega, by (first | rfl | go_num), HR8, HB8⟩, by simp [intOf]; omega⟩
        · obtain rfl : j = k := by omega
          have hlt2' : ¬ (j : Int) < (j : Int) := by omega
          have HQ2 := hide (show RoV w7 gh j (fun u => .bool (decide (K ≤ cf u))) from (unhide HQ).congr (fun u hu => by simp [hu]))
          clear HQ
          go_wp2_with fail
          clear p0
          go_loopw [15] (fun iv w8 => ∃ i : Nat, i ≤ j ∧ iv = .int .i64 (i : Int) ∧ Hid (Below w7.heap.size w7 w8)) (fun iv _ => j - (intOf iv).toNat)
          case atStart => exact ⟨0, Nat.zero_le _, rfl, hide (Below.refl _ _)⟩
          case round =>
            obtain ⟨i, hi, rfl, HW8⟩ := hrel
            obtain ⟨w8, hw8⟩ : ∃ x, x = wr := ⟨_, rfl⟩
            subst hw8
            have HT8 := hide ((unhide HT7).below (unhide HW8))
            have HB8 := hide ((unhide HB7).trans ((unhide HW8).mono (unhide HB7).size))
            have p0 := ((unhide HT8).all 0 _ rfl).1
            have p1 := ((unhide HT8).all 1 _ rfl).1
            have p2 := ((unhide HT8).all 2 _ rfl).1
            have p3 := ((unhide HT8).all 3 _ rfl).1
            by_cases hlt3 : i < j
            · have hlt3' : (i : Int) < (j : Int) := by omega
              have hro := (unhide HQ2).below (unhide HW8)
              have r0 := (hro i hlt3).1
              have KI := hide (unhide K3 w8 (unhide HB8) _ _ _ _ i hlt3 (SlB.of_row hro (by omega)))
              obtain ⟨t, ht⟩ : ∃ t, decide (K ≤ cf i) = t := ⟨_, rfl⟩
              simp only [ht] at r0
              cases t
              · clear ht
                go_wp2_with fail
                exact ⟨⟨i + 1, by omega, by (first | rfl | go_num), HW8⟩, by simp [intOf]; omega⟩
              · have hle := unhide HHS i hlt3 ht
                have hse : amN (seB j fun u => decide (K ≤ cf u)) (rowL st cols i) (rowL st cols i).length = amN (fun u => decide (K ≤ cf u)) (rowL st cols i) (rowL st cols i).length := Nat.le_antisymm (amN_mono (unhide HM).1 hlt3 (fun u hu e => by unfold seB at e; simp [hu] at e; simp [e]) _ (Nat.le_refl _)) (amN_mono (unhide HM).1 hlt3 (fun u hu e => by unfold seB; simp [hu] at e ⊢; exact e) _ (Nat.le_refl _))
                rw [hse] at KI
                obtain ⟨z, hz⟩ : ∃ z, amN (fun u => decide (K ≤ cf u)) (rowL st cols i) (rowL st cols i).length = z := ⟨_, rfl⟩
                rw [hz] at KI hle
                have hnl : ¬ (z : Int) < (K : Int) := by omega
                clear hse hz ht hro hle
                go_wp2_with fail
                refine (unhide KI).mono ?_
                rintro _ w9 ⟨rfl, b9⟩
                have HW9 := hide ((unhide HW8).trans (b9.mono (unhide HW8).size))
                clear KI b9 p0 p1 p2 p3
                go_wp2_with fail
                exact ⟨⟨i + 1, by omega, by (first | rfl | go_num), HW9⟩, by simp [intOf]; omega⟩
            · obtain rfl : i = j := by omega
              have hlt3' : ¬ (i : Int) < (i : Int) := by omega
              go_wp2_with fail
              refine (oalive_any w8).mono ?_
              rintro _ w9 ⟨rfl, b9⟩
              have HB9 := hide ((unhide HB8).trans (b9.mono (unhide HB8).size))
              clear b9
              go_wp2_with fail
              try go_ret
              exact ⟨rfl, unhide HB9⟩
end Go.Proofs.Ytdcdgojcboinaaa
