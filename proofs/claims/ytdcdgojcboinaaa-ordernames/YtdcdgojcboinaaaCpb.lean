/-
  ORDERS: order.peel: contract (wip/gens/mkcp7.py Cpb).
-/
import Derived.Test.YtdcdgojcboinaaaCpa
namespace Go.Proofs.Ytdcdgojcboinaaa
open Go.Shelf Go.RowKit Go.Deep
set_option linter.unusedVariables false

/-- The first k vertices, and their counts. -/
def peL (f : Nat → Nat) (k : Nat) : List Int := (List.range k).map (fun i => (f i : Int))
theorem peL_succ (f : Nat → Nat) (k : Nat) : peL f (k + 1) = peL f k ++ [(f k : Int)] := by
  unfold peL
  rw [List.range_succ]
  simp
theorem peL_len (f : Nat → Nat) (k : Nat) : (peL f k).length = k := by simp [peL]
/-- A list of one's own, from a lower place on. -/
theorem BkR.low {A : Nat → Prop} {W : World} {t t' : Nat} {v : Value} {xs : List Int} (h : BkR A W t v xs) (ht : t' ≤ t) : BkR A W t' v xs := by
  rcases h with h | ⟨g, o, cap, e, hg, hc⟩
  · exact .inl h
  · exact .inr ⟨g, o, cap, e, ⟨Nat.le_trans ht hg.1, hg.2⟩, hc⟩
/-- What peel answers. -/
def PeP (R : Nat) (st cols : List Int) (w w' : World) (e : Ending) : Prop := ∃ b1 d1 b2 d2, e = .returned (.tuple #[.slice b1 R d1, .slice b2 R d2]) ∧ SlI w' b1 R d1 (peL (peV R (nbL st cols) (fun v => (rowL st cols v).length)) R) ∧ SlI w' b2 R d2 (peL (peC R (nbL st cols) (fun v => (rowL st cols v).length)) R) ∧ Below w.heap.size w w' ∧ (∀ y, b1 = some y → w.heap.size ≤ y.block) ∧ (∀ y, b2 = some y → w.heap.size ≤ y.block) ∧ BkR (fun _ => False) w' w.heap.size (.slice b1 R d1) (peL (peV R (nbL st cols) (fun v => (rowL st cols v).length)) R)
/-- What peel's rounds keep. -/
structure PeI (W : World) (s5 t X g0 gr g1 gk gg R : Nat) (nb : Nat → List Nat) (dg : Nat → Nat) (k : Nat) (lv cv : Value) (w5 : World) : Prop where
  hl : W.ownsRow s5 3 1 lv k (valsI (peL (peV R nb dg) k))
  hc : W.ownsRow s5 3 1 cv k (valsI (peL (peC R nb dg) k))
  ap : ∀ g, lv.ownBlock = some g → cv.ownBlock ≠ some g
  hq : BuQ (fun j => lv.ownBlock = some j ∨ cv.ownBlock = some j) W t X g0 gr g1 gk gg R (brF R) (rkF (brF R) R) (peS R nb dg k).2 (peS R nb dg k).1
  ch : Chg (fun j => j = g1 ∨ j = gk ∨ j = gg ∨ t ≤ j) w5 W
/-- The same within a step. -/
structure PeJ (W : World) (s5 t X g0 gr g1 gk gg R : Nat) (nb : Nat → List Nat) (dg : Nat → Nat) (k i : Nat) (lv cv : Value) (w5 : World) : Prop where
  hl : W.ownsRow s5 3 1 lv (k + 1) (valsI (peL (peV R nb dg) (k + 1)))
  hc : W.ownsRow s5 3 1 cv (k + 1) (valsI (peL (peC R nb dg) (k + 1)))
  ap : ∀ g, lv.ownBlock = some g → cv.ownBlock ≠ some g
  hq : BuQ (fun j => lv.ownBlock = some j ∨ cv.ownBlock = some j) W t X g0 gr g1 gk gg R (brF R) (rkF (brF R) R) (peT R nb dg k i) (peG R nb dg k)
  ch : Chg (fun j => j = g1 ∨ j = gk ∨ j = gg ∨ t ≤ j) w5 W
/-- Rows that are not the buckets' stay while these change. -/
theorem own_stay {W W' : World} {s5 t gc gk gg n : Nat} {v : Value} {xs : List Value} {A : Nat → Prop} (h : W.ownsRow s5 3 1 v n xs) (k : Chg (fun j => j = gc ∨ j = gk ∨ j = gg ∨ (t ≤ j ∧ ¬ A j)) W W') (hlt : gc < t ∧ gk < t ∧ gg < t) (hs : t ≤ s5) (hA : ∀ j, v.ownBlock = some j → A j) : W'.ownsRow s5 3 1 v n xs :=
  ownsRow_chg h k (fun j hj e => by
    have := (own_ge h j hj).1
    rcases e with e | e | e | e
    · omega
    · omega
    · omega
    · exact e.2 (hA j hj))
theorem sli_far {B : Nat} {w W W' : World} {a : Option Addr} {n c : Nat} {xs : List Int} (h : SlI W a n c xs) (hb : xs ≠ [] → ∀ y, a = some y → y.block < B) (k : Below B w W) (k' : Below B w W') : SlI W' a n c xs := by
  refine ⟨h.len, h.le, h.cap, ?_⟩
  rcases h.cells with e | ⟨b, off, e, hc⟩
  · exact .inl e
  · by_cases hx : xs = []
    · exact .inl hx
    · have hl : b < B := hb hx _ e
      exact .inr ⟨b, off, e, fun i hi => by rw [k'.cell (p := ⟨b, off + i, none⟩) hl, ← k.cell (p := ⟨b, off + i, none⟩) hl]; exact hc i hi⟩
theorem valsI_snoc (f : Nat → Nat) (k : Nat) : valsI (peL f (k + 1)) = valsI (peL f k) ++ [.int .i64 (f k : Int)] := by
  rw [peL_succ]
  simp [valsI]
set_option maxRecDepth 100000 in
set_option maxHeartbeats 16000000 in
/-- order.peel. -/
theorem opeel_any (R : Nat) (a1 a2 : Option Addr) (n1 c1 n2 c2 : Nat) (st cols : List Int) (w : World) (h1 : SlI w a1 n1 c1 st) (h2 : SlI w a2 n2 c2 cols) (hb1 : n1 ≤ 17592186044000) (hb2 : n2 ≤ 17592186044000) (hm : MayP (R : Int) (R : Int) st cols) (hdg : ∀ v, v < R → (rowL st cols v).length < R) (hok : ∀ k, k < R → PeO R (nbL st cols) (fun v => (rowL st cols v).length) k) :
    Calls Try.prog 26 #[patV (R : Int) (R : Int) a1 n1 c1 a2 n2 c2] w fun e w' => PeP R st cols w w' e := by
  have hR : R ≤ 128 := by have := hm.head.fit; omega
  obtain ⟨wb, hwb⟩ : ∃ x, w.alloc (.cells #[.int .i64 (R : Int), .int .i64 (R : Int), .slice a1 n1 c1, .slice a2 n2 c2] 24) = x := ⟨_, rfl⟩
  have bb : Below w.heap.size w wb := by rw [← hwb]; exact (Below.refl _ _).alloc (Nat.le_refl _) _
  have hT := BoxP.made w #[.int .i64 (R : Int), .int .i64 (R : Int), .slice a1 n1 c1, .slice a2 n2 c2] 24
  rw [hwb] at hT
  have p0 := (hT.all 0 _ rfl).1
  have p1 := (hT.all 1 _ rfl).1
  have p2 := (hT.all 2 _ rfl).1
  have p3 := (hT.all 3 _ rfl).1
  have HK := hide (obyNumber_any R (R : Int) a1 a2 n1 c1 n2 c2 (.slice none 0 0) wb hR)
  unfold patV at HK
  have HT := hide hT
  have HB := hide bb
  have HS := hide (And.intro h1 h2)
  have HM := hide hm
  have HO := hide (And.intro hdg hok)
  clear hT bb h1 h2 hm hdg hok
  unfold patV
  go_enter Try.func26, Try.ntmps26
  go_wp2_with fail
  refine (unhide HK).mono ?_
  rintro _ w2 ⟨g0, hg0, rfl, hr0, hl0, b2⟩
  have HK2 := hide (orev_any g0 R (fun i => (i : Int)) w2 hr0 hl0 hR)
  have HB2 := hide ((unhide HB).trans (b2.mono (unhide HB).size))
  have HT2 := hide ((unhide HT).below b2)
  have HG0 := hide (And.intro hg0 (And.intro hl0 (unhide HT).lt))
  clear HK hr0 b2 hg0 hl0 p0 p1 p2 p3
  go_wp2_with fail
  refine (unhide HK2).mono ?_
  rintro _ w3 ⟨rfl, hr0, c3⟩
  have HB3 := hide ((unhide HB2).trans (c3.below (unhide HB2).size (fun k hk e => by have e' : k = g0 := e; have := (unhide HG0).1; have := (unhide HB).size; omega)))
  have HT3 := hide ((unhide HT2).chg c3 (show ¬ w.heap.size = g0 by have := (unhide HG0).1; have := (unhide HG0).2.2; omega))
  have p0 := ((unhide HT3).all 0 _ rfl).1
  have p1 := ((unhide HT3).all 1 _ rfl).1
  have p2 := ((unhide HT3).all 2 _ rfl).1
  have p3 := ((unhide HT3).all 3 _ rfl).1
  have HKD := hide (odegrees_any R (R : Int) a1 a2 n1 c1 n2 c2 st cols w3 ((unhide HS).1.below (unhide HB3)) ((unhide HS).2.below (unhide HB3)) hb1 hb2 (unhide HM))
  unfold patV at HKD
  have HR0 := hide (hr0.congr (g := fun i => .int .i64 (brF R i : Int)) (fun i hi => by unfold brF; rfl))
  have HL0 := hide (Nat.lt_of_lt_of_le (unhide HG0).2.1 c3.size)
  clear HK2 hr0 c3 HB2 HT2
  go_wp2_with fail
  refine (unhide HKD).mono ?_
  rintro _ w4 ⟨g1, hg1, rfl, hr1, hl1, b4⟩
  have hr0 := (unhide HR0).below b4
  have hl0 := Nat.lt_of_lt_of_le (unhide HL0) b4.size
  have HKF := hide (ofill_any R g0 g1 (brF R) (fun v => (rowL st cols v).length) w4 hr0 hr1 hR (fun i hi => brF_lt R i hi) (unhide HO).1)
  have HB4 := hide ((unhide HB3).trans (b4.mono (unhide HB3).size))
  have HT4 := hide ((unhide HT3).below b4)
  have HR4 := hide (And.intro hr0 (And.intro hr1 (And.intro hl0 (And.intro hl1 (show g0 ≠ g1 by have := unhide HL0; omega)))))
  have HB3s := hide (unhide HT3).lt
  clear HKD hr0 hr1 hl0 hl1 b4 p0 p1 p2 p3 HB3 HT3
  go_wp2_with fail
  refine (unhide HKF).mono ?_
  rintro _ w5 hfl
  obtain ⟨X, gr, gk, gg, t, rfl, hq, hlo, b5⟩ := hfl.buq (unhide HR4).1 (unhide HR4).2.1 (unhide HR4).2.2.1 (unhide HR4).2.2.2.1 (unhide HR4).2.2.2.2
  have HB5 := hide ((unhide HB4).trans (b5.mono (unhide HB4).size))
  have HT5 := hide ((unhide HT4).below b5)
  have HQ5 := hide hq
  have HLO := hide (And.intro hlo (And.intro hg1 (unhide HT4).lt))
  have HB4s := hide (And.intro (unhide HB4).size (show w.heap.size < w3.heap.size from (unhide HB3s)))
  clear hfl hq hlo b5 HKF HB4 HT4
  have p0 := ((unhide HT5).all 0 _ rfl).1
  obtain ⟨nb, hnb⟩ : ∃ nb, nbL st cols = nb := ⟨_, rfl⟩
  obtain ⟨dg, hdg⟩ : ∃ dg : Nat → Nat, (fun v => (rowL st cols v).length) = dg := ⟨_, rfl⟩
  rw [hnb, hdg] at HO
  rw [hdg] at HQ5
  have HNB := hide (And.intro hnb hdg)
  obtain ⟨s5, hs5⟩ : ∃ s5, w5.heap.size = s5 := ⟨_, rfl⟩
  have HS5 := hide hs5
  obtain ⟨i64, hi, hz, hs, hb⟩ := info_parts Try.info_i64
  have HI := hide (And.intro hi (And.intro hz (And.intro hs hb)))
  clear hnb hdg hs5 hi hz hs hb hwb
  go_wp2_with fail
  go_loopw [22, 6, 7] (fun kv lv cv wr => ∃ k : Nat, k ≤ R ∧ kv = .int .i64 (k : Int) ∧ Hid (PeI wr s5 t X g0 gr g1 gk gg R nb dg k lv cv w5)) (fun kv _ _ _ => R - (intOf kv).toNat)
  case atStart => exact ⟨0, Nat.zero_le _, rfl, hide ⟨World.ownsRow_nil _ _ _ _, World.ownsRow_nil _ _ _ _, fun g hg => (by simp [Value.ownBlock] at hg), (unhide HQ5).re (fun j hj => .inr (by simp [Value.ownBlock])) (fun j hj => by simp [Value.ownBlock] at hj), Chg.refl _ _⟩⟩
  case round =>
    obtain ⟨k, hk, rfl, HP⟩ := hrel
    have HBW := hide (fun (W : World) (c : Chg (fun j => j = g1 ∨ j = gk ∨ j = gg ∨ t ≤ j) w5 W) => (show Below w.heap.size w W from (unhide HB5).trans (c.below (unhide HB5).size (fun j hj e => by have := unhide HLO; have := (unhide HB4s); omega))))
    by_cases hlt : k < R
    · have hlt' : (k : Int) < (R : Int) := by omega
      have hO := (unhide HO).2 k hlt
      have hLow := low_is hO.ex
      obtain ⟨c, hc⟩ : ∃ c, peC R nb dg k = c := ⟨_, rfl⟩
      have hLow2 : LowP R (brF R) (peS R nb dg k).1 (peS R nb dg k).2 (peC R nb dg k) (lowR R (brF R) (peS R nb dg k).1 (peS R nb dg k).2 (peC R nb dg k)) := hLow
      rw [hc] at hLow2
      obtain ⟨r, hr⟩ : ∃ r, lowR R (brF R) (peS R nb dg k).1 (peS R nb dg k).2 c = r := ⟨_, rfl⟩
      rw [hr] at hLow2
      have hxv : peV R nb dg k = brF R r := by unfold peV; rw [hc, hr]
      obtain ⟨x, hx⟩ : ∃ x, brF R r = x := ⟨_, rfl⟩
      have hxR : x < R := by rw [← hx]; exact brF_lt R r hLow2.rn
      have K1 := hide (olowest_q t X g0 gr g1 gk gg R c r (brF R) _ _ _ wr (unhide HP).hq hR hLow2)
      have K2 := hide (fun (W : World) (b : Below wr.heap.size wr W) => otake_q t X g0 gr g1 gk gg R c r (brF R) _ _ _ W ((unhide HP).hq.below b) hR hLow2 (fun i hi => brF_lt R i hi) (fun a b ha hb h => brF_inj R a b ha hb h))
      have HXV := hide (And.intro (hxv.trans hx) hc)
      rw [hx] at K2
      have HOK := hide hO
      clear hO hLow hLow2 hc hr hxv hx p0
      go_wp2_with fail
      refine (unhide K1).mono ?_
      rintro _ w6 ⟨rfl, b6⟩
      have K3 := hide (unhide K2 w6 b6)
      have HB6 := hide b6
      clear K1 K2 b6
      go_wp2_with fail
      refine (unhide K3).mono ?_
      rintro _ w7 ⟨rfl, hq7, c7⟩
      have hlts := (unhide HP).hq.lts
      have htS : t ≤ s5 := by have := (unhide HQ5).lts.2; have := unhide HS5; omega
      have hl7 := own_stay (ownsRow_chg (S := fun _ => False) (unhide HP).hl (Chg.of_below (unhide HB6)) (fun _ _ x => x)) c7 hlts.1 htS (fun j hj => .inl hj)
      have hc7 := own_stay (ownsRow_chg (S := fun _ => False) (unhide HP).hc (Chg.of_below (unhide HB6)) (fun _ _ x => x)) c7 hlts.1 htS (fun j hj => .inr hj)
      have hch7 : Chg (fun j => j = g1 ∨ j = gk ∨ j = gg ∨ t ≤ j) w5 w7 := ((unhide HP).ch.trans (Chg.of_below (unhide HB6))).trans (c7.mono (fun j _ e => by rcases e with e | e | e | e; exact .inl e; exact .inr (.inl e); exact .inr (.inr (.inl e)); exact .inr (.inr (.inr e.1))))
      have HQ7 := hide (And.intro hq7 hch7)
      have HL7 := hide (And.intro hl7 (And.intro hc7 (unhide HP).ap))
      have hs7 : s5 ≤ w7.heap.size := by have := hch7.size; have := unhide HS5; omega
      have HLT := hide (And.intro hlts.1 htS)
      have hmx : k + 1 ≤ maxLen := by unfold maxLen; omega
      have hby : (k + 1) * 8 ≤ 140737488355328 := by omega
      have hone1 : ∀ u ∈ [Value.int .i64 (x : Int)], u.oneCell' = true := by intro u hu; simp at hu; subst hu; rfl
      have hone2 : ∀ u ∈ [Value.int .i64 (c : Int)], u.oneCell' = true := by intro u hu; simp at hu; subst hu; rfl
      clear K3 hq7 c7 hl7 hc7 hch7 hlts htS
      go_wp2_with (at_builtin; refine wpList_append_lies _ rfl _ _ 22 rfl s5 3 i64 (.int .i64 0) 1 8 Try.underlying22 (unhide HI).1 (unhide HI).2.1 (unhide HI).2.2.1 (unhide HI).2.2.2 rfl (by decide) u6 k (valsI (peL (peV R nb dg) k)) rfl ((unhide HL7).1.alloc _) ⟨w7.heap.size, 0, none⟩ 1 1 [.int .i64 (x : Int)] rfl rfl (World.news_of_block (alloc_block _ _)) hone1 (by decide) hmx hby (by simp; omega) (w7.heap.size + 1) (by simp) ?_)
      intro g cap w8 hown8 hgrow8 hat8 hlt8
      have hcne : ∀ j, u7.ownBlock = some j → u6.ownBlock ≠ some j := fun j hj e => (unhide HL7).2.2 j e hj
      have hc8 := ((unhide HL7).2.1.alloc (Obj.cells #[Value.int IntKind.i64 (x : Int)] 3)).kept hgrow8 (by
        cases hu : u7.ownBlock with
        | none => exact .inl rfl
        | some j => exact .inr (fun e => hcne j hu e.symm))
      have hC8 : Chg (fun j => u6.ownBlock = some j ∨ u7.ownBlock = some j) w7 w8 := (Chg.of_alloc _ _).trans (Chg.of_grown hgrow8 (fun j hj => .inl hj))
      have F8 := hide (And.intro hown8 (And.intro hc8 (And.intro hC8 (And.intro hat8 hlt8))))
      have hs8 : s5 ≤ w8.heap.size := by have := hC8.size; omega
      clear hown8 hgrow8 hat8 hlt8 hc8 hC8
      go_wp2_with (at_builtin; refine wpList_append_lies _ rfl _ _ 22 rfl s5 3 i64 (.int .i64 0) 1 8 Try.underlying22 (unhide HI).1 (unhide HI).2.1 (unhide HI).2.2.1 (unhide HI).2.2.2 rfl (by decide) u7 k (valsI (peL (peC R nb dg) k)) rfl ((unhide F8).2.1.alloc _) ⟨w8.heap.size, 0, none⟩ 1 1 [.int .i64 (c : Int)] rfl rfl (World.news_of_block (alloc_block _ _)) hone2 (by decide) hmx hby (by simp; omega) (w8.heap.size + 1) (by simp) ?_)
      intro g' cap' w9 hown9 hgrow9 hat9 hlt9
      obtain ⟨hown8, hc8, hC8, hat8, hlt8⟩ := unhide F8
      have hg7 : u7.ownBlock ≠ some g := fun e => by
        rcases hat8 with q | q
        · exact hcne g e q
        · have := (own_ge (unhide HL7).2.1 g e).2; omega
      have hl9 := (hown8.alloc (Obj.cells #[Value.int IntKind.i64 (c : Int)] 3)).kept hgrow9 (.inr (fun e => hg7 e.symm))
      have hC9 : Chg (fun j => u6.ownBlock = some j ∨ u7.ownBlock = some j) w7 w9 := hC8.trans ((Chg.of_alloc _ _).trans (Chg.of_grown hgrow9 (fun j hj => .inr hj)))
      have hgg : g ≠ g' := fun e => by
        rcases hat9 with q | q
        · exact hg7 (e ▸ q)
        · omega
      have hltt := (unhide HLT).1
      have htS := (unhide HLT).2
      have hsg : t ≤ g := by
        rcases hat8 with q | q
        · have := (own_ge (unhide HL7).1 g q).1; omega
        · omega
      have HJ := hide (show PeJ w9 s5 t X g0 gr g1 gk gg R nb dg k 0 (.slice (some ⟨g, 0, none⟩) (k + 1) cap) (.slice (some ⟨g', 0, none⟩) (k + 1) cap') w5 from by
        refine ⟨?_, ?_, fun j hj hj2 => ?_, ?_, (unhide HQ7).2.trans (hC9.mono (fun j hj e => ?_))⟩
        · rw [valsI_snoc, (unhide HXV).1]; exact hl9
        · rw [valsI_snoc, (unhide HXV).2]; exact hown9
        · have e1 : g = j := by simpa [Value.ownBlock] using hj
          have e2 : g' = j := by simpa [Value.ownBlock] using hj2
          omega
        · rw [peT_zero]
          have hq := (unhide HQ7).1
          have eg : (fun u => if u = x then true else (peS R nb dg k).1 u) = peG R nb dg k := by unfold peG; rw [(unhide HXV).1]
          rw [eg] at hq
          refine hq.move hC9 (fun j hj e => ?_) (fun j hj hj2 hA => ⟨hA, fun e => ?_⟩) (fun j e => ?_)
          · rcases e with e | e
            · have := (own_ge (unhide HL7).1 j e).1; omega
            · have := (own_ge (unhide HL7).2.1 j e).1; omega
          · rcases e with e | e
            · have e1 : g = j := by simpa [Value.ownBlock] using e
              rcases hat8 with q | q
              · exact hA (.inl (e1 ▸ q))
              · omega
            · have e1 : g' = j := by simpa [Value.ownBlock] using e
              rcases hat9 with q | q
              · exact hA (.inr (e1 ▸ q))
              · have := hC8.size; omega
          · rcases e with e | e
            · have e1 : g = j := by simpa [Value.ownBlock] using e
              have e3 := hgrow9.size
              simp at e3
              omega
            · have e1 : g' = j := by simpa [Value.ownBlock] using e
              omega
        · rcases e with e | e
          · have := (own_ge (unhide HL7).1 j e).1; exact .inr (.inr (.inr (by omega)))
          · have := (own_ge (unhide HL7).2.1 j e).1; exact .inr (.inr (.inr (by omega))))
      have hB9 := unhide HBW w9 (unhide HJ).ch
      have hT9 := (unhide HT5).chg (unhide HJ).ch (by have := unhide HLO; have := unhide HB4s; omega)
      have q0 := (hT9.all 0 _ rfl).1
      have q1 := (hT9.all 1 _ rfl).1
      have q2 := (hT9.all 2 _ rfl).1
      have q3 := (hT9.all 3 _ rfl).1
      have KN := hide (oneigh_list R (R : Int) a1 a2 n1 c1 n2 c2 st cols x w9 ((unhide HS).1.below hB9) ((unhide HS).2.below hB9) hb1 hb2 (unhide HM) hxR)
      unfold patV at KN
      clear hown8 hc8 hC8 hat8 hlt8 hown9 hgrow9 hat9 hlt9 hl9 hC9 hgg hg7 F8 hltt htS hsg hB9 hT9 hcne hs7 hs8 HQ7 HL7
      go_wp2_with fail
      refine (unhide KN).mono ?_
      rintro _ w10 ⟨aN, cN, rfl, hsN, hlN, hbN, b10⟩
      obtain ⟨m, hm⟩ : ∃ m, (rowL st cols x).length = m := ⟨_, rfl⟩
      rw [hm] at hsN hlN ⊢
      have HMM := hide hm
      have HJ10 := hide (show PeJ w10 s5 t X g0 gr g1 gk gg R nb dg k 0 (.slice (some ⟨g, 0, none⟩) (k + 1) cap) (.slice (some ⟨g', 0, none⟩) (k + 1) cap') w5 from ⟨ownsRow_chg (S := fun _ => False) (unhide HJ).hl (Chg.of_below b10) (fun _ _ x => x), ownsRow_chg (S := fun _ => False) (unhide HJ).hc (Chg.of_below b10) (fun _ _ x => x), (unhide HJ).ap, (unhide HJ).hq.below b10, (unhide HJ).ch.trans (Chg.of_below b10)⟩)
      have HSN := hide (fun (W : World) (b : Below w.heap.size w W) => sli_far hsN (fun hne y hy => by
        obtain ⟨z, hz, hzb⟩ := hbN y hy hne
        rw [← hzb]
        refine (unhide HS).2.block_lt (fun e => hne ?_) z hz
        unfold rowL
        rw [e]
        simp) (unhide HBW w10 (unhide HJ10).ch) b)
      clear KN q0 q1 q2 q3 hsN hbN b10 hm HJ
      go_wp2_with fail
      go_loopw [41] (fun iv wq => ∃ i : Nat, i ≤ m ∧ iv = .int .i64 (i : Int) ∧ Hid (PeJ wq s5 t X g0 gr g1 gk gg R nb dg k i (.slice (some ⟨g, 0, none⟩) (k + 1) cap) (.slice (some ⟨g', 0, none⟩) (k + 1) cap') w5)) (fun iv _ => m - (intOf iv).toNat)
      case atStart => exact ⟨0, Nat.zero_le _, rfl, HJ10⟩
      case round =>
        obtain ⟨i, hi, rfl, HV⟩ := hrel
        by_cases hin : i < m
        · have hin' : (i : Int) < (m : Int) := by omega
          obtain ⟨u, hu1, hu2, hu3⟩ := nbL_at (unhide HM) hxR (i := i) (by rw [unhide HMM]; exact hin)
          obtain ⟨bN, oN, rfl, hcN⟩ := (unhide HSN wr (unhide HBW wr (unhide HV).ch)).at (by omega)
          have sc := hcN i hin
          rw [hu1] at sc
          have hT := unhide HOK
          have hu4 : (nb (peV R nb dg k))[i]? = some u := by rw [(unhide HXV).1, ← (unhide HNB).1]; exact hu3
          have hil : i ≤ (nb (peV R nb dg k)).length := Nat.le_of_lt (List.getElem?_eq_some_iff.1 hu4).1
          have KS := hide (oshift_q t X g0 gr g1 gk gg R u (brF R u) (brF R) _ _ _ wr (unhide HV).hq hR (brF_lt R u hu2) (brF_brF R u hu2) hu2 (by have := rkF_at (brF R) R (brF R u) (brF_lt R u hu2) (fun a b ha hb h => brF_inj R a b ha hb h); rw [brF_brF R u hu2] at this; exact this) (fun a b ha hb h => brF_inj R a b ha hb h) (Nat.lt_of_le_of_lt (peT_le R nb dg k u i hil) (hT.ct u hu2)) (fun hg => hT.ok i u hu4 hg))
          have HU4 := hide hu4
          clear hcN hu1 hu3 hT hu4 hil
          go_wp2_with fail
          refine (unhide KS).mono ?_
          rintro _ w12 ⟨rfl, hq, c12⟩
          have hlts := (unhide HV).hq.lts
          have HJ2 := hide (show PeJ w12 s5 t X g0 gr g1 gk gg R nb dg k (i + 1) (.slice (some ⟨g, 0, none⟩) (k + 1) cap) (.slice (some ⟨g', 0, none⟩) (k + 1) cap') w5 from ⟨own_stay (unhide HV).hl c12 hlts.1 (unhide HLT).2 (fun j hj => .inl hj), own_stay (unhide HV).hc c12 hlts.1 (unhide HLT).2 (fun j hj => .inr hj), (unhide HV).ap, by rw [peT_succ R nb dg k i u (unhide HU4)]; exact hq, (unhide HV).ch.trans (c12.mono (fun j _ e => by rcases e with e | e | e | e; exact .inl e; exact .inr (.inl e); exact .inr (.inr (.inl e)); exact .inr (.inr (.inr e.1))))⟩)
          clear KS hq c12 hlts sc
          go_wp2_with fail
          exact ⟨⟨i + 1, by omega, by (first | rfl | go_num), HJ2⟩, by simp [intOf]; omega⟩
        · obtain rfl : i = m := by omega
          have hin' : ¬ (i : Int) < (i : Int) := by omega
          have HI2 := hide (show PeI wr s5 t X g0 gr g1 gk gg R nb dg (k + 1) (.slice (some ⟨g, 0, none⟩) (k + 1) cap) (.slice (some ⟨g', 0, none⟩) (k + 1) cap') w5 from ⟨(unhide HV).hl, (unhide HV).hc, (unhide HV).ap, by
            have e : (nb (peV R nb dg k)).length = i := by rw [(unhide HXV).1, ← (unhide HNB).1]; unfold nbL; rw [List.length_map]; exact unhide HMM
            rw [peS_succ, e]
            exact (unhide HV).hq, (unhide HV).ch⟩)
          go_wp2_with fail
          exact ⟨⟨k + 1, by omega, by (first | rfl | go_num), HI2⟩, by simp [intOf]; omega⟩
    · obtain rfl : k = R := by omega
      have hlt' : ¬ (k : Int) < (k : Int) := by omega
      obtain ⟨b1, d1, e1, s1⟩ := (BkR.of_owns (xs := peL (peV k nb dg) k) (by rw [peL_len]; exact (unhide HP).hl)).sli
      obtain ⟨b2, d2, e2, s2⟩ := (BkR.of_owns (xs := peL (peC k nb dg) k) (by rw [peL_len]; exact (unhide HP).hc)).sli
      rw [peL_len] at e1 e2 s1 s2
      have hsw : w.heap.size ≤ s5 := by have := (unhide HB5).size; have := unhide HS5; omega
      have HE2 := hide (show (∀ y, b1 = some y → w.heap.size ≤ y.block) ∧ (∀ y, b2 = some y → w.heap.size ≤ y.block) from ⟨fun y hy => Nat.le_trans hsw (own_ge (unhide HP).hl y.block (by rw [e1, hy]; rfl)).1, fun y hy => Nat.le_trans hsw (own_ge (unhide HP).hc y.block (by rw [e2, hy]; rfl)).1⟩)
      have HW := hide ((BkR.of_owns (xs := peL (peV k nb dg) k) (by rw [peL_len]; exact (unhide HP).hl)).low hsw)
      rw [e1] at HW
      have HE := hide (And.intro s1 (And.intro s2 (unhide HBW wr (unhide HP).ch)))
      clear HP s1 s2 p0 hsw
      subst e1 e2
      go_wp2_with fail
      refine bodyPost_ret (by simp [results, Try.results26, go_sem]; try rfl) rfl ?_
      refine ⟨b1, d1, b2, d2, rfl, ?_, ?_, (unhide HE).2.2, (unhide HE2).1, (unhide HE2).2, ?_⟩
      · rw [(unhide HNB).1, (unhide HNB).2]; exact (unhide HE).1
      · rw [(unhide HNB).1, (unhide HNB).2]; exact (unhide HE).2.1
      · rw [(unhide HNB).1, (unhide HNB).2]; exact unhide HW
end Go.Proofs.Ytdcdgojcboinaaa
