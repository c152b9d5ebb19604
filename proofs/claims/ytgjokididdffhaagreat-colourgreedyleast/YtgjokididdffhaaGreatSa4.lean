/- Sa3 -/
import Derived.Test.YtgjokididdffhaaGreatSi2
namespace Go.Proofs.YtgjokididdffhaaGreat
open Go.RowKit Go.Deep
set_option linter.unusedVariables false
theorem Dr.cell {w w' : World} (h : Dr w w') {a : Addr} {v : Value} (k : w.cell? a = some v) : w'.cell? a = some v := by obtain ⟨m, rfl⟩ := h; exact k
theorem SlI.sub {w : World} {a : Option Addr} {n c X Y : Nat} {xs : List Int} (h : SlI w a n c xs) (hXY : X ≤ Y) (hY : Y ≤ n) : SlI w (if c = X then a else Option.map (fun x => x.add X) a) (Y - X) (c - X) ((xs.drop X).take (Y - X)) := by
  have hl := h.len
  have hle := h.le
  have hcap := h.cap
  have hln : ((xs.drop X).take (Y - X)).length = Y - X := by simp; omega
  refine ⟨hln, by omega, by omega, ?_⟩
  by_cases h0 : Y - X = 0
  · left
    exact List.length_eq_zero_iff.1 (by omega)
  · right
    obtain ⟨b, off, rfl, hc⟩ := h.at (by omega)
    refine ⟨b, off + X, ?_, fun i hi => ?_⟩
    · rw [if_neg (by omega)]
      show some (Addr.add ⟨b, off, none⟩ X) = _
      congr 1
      unfold Addr.add
      split <;> simp_all
    · rw [hln] at hi
      have := hc (X + i) (by omega)
      rw [Nat.add_assoc, this]
      simp [List.getD, List.getElem?_drop, show i < Y - X from hi]
theorem RowP.sub {width : Int} {cols : List Int} {X Y : Nat} (hXY : X ≤ Y) : RowP width ((cols.drop X).take (Y - X)) 0 (Y - X) ↔ RowP width cols X Y := by
  have e : ∀ i, i < Y - X → ((cols.drop X).take (Y - X)).getD i 0 = cols.getD (X + i) 0 := fun i hi => by simp [List.getD, List.getElem?_drop, hi]
  constructor
  · intro z
    refine ⟨fun i h1 h2 => ?_, fun i h1 h2 => ?_⟩
    · have := z.rng (i - X) (Nat.zero_le _) (by omega)
      rw [e _ (by omega), show X + (i - X) = i by omega] at this
      exact this
    · have := z.up (i - X) (by omega) (by omega)
      rw [e _ (by omega), e _ (by omega), show X + (i - X) = i by omega, show X + (i - X - 1) = i - 1 by omega] at this
      exact this
  · intro z
    refine ⟨fun i h1 h2 => ?_, fun i h1 h2 => ?_⟩
    · rw [e _ h2]
      exact z.rng (X + i) (by omega) (by omega)
    · rw [e _ h2, e _ (by omega)]
      have := z.up (X + i) (by omega) (by omega)
      rw [show X + i - 1 = X + (i - 1) by omega] at this
      exact this
def patV (rows width : Int) (a1 : Option Addr) (n1 c1 : Nat) (a2 : Option Addr) (n2 c2 : Nat) : Value := .agg #[.int .i64 rows, .int .i64 width, .slice a1 n1 c1, .slice a2 n2 c2]
set_option maxRecDepth 100000 in
set_option maxHeartbeats 16000000 in
theorem smay_any (rows width : Int) (a1 a2 : Option Addr) (n1 c1 n2 c2 : Nat) (st cols : List Int) (w : World) (h1 : SlI w a1 n1 c1 st) (h2 : SlI w a2 n2 c2 cols) (hb1 : n1 ≤ 17592186044416) (hb2 : n2 ≤ 17592186044416) :
    Calls Tryz.prog 38 #[patV rows width a1 n1 c1 a2 n2 c2] w fun e w' => BIs (MayP rows width st cols) w w' e := by
  obtain ⟨wb, hwb⟩ : ∃ x, w.alloc (.cells #[.int .i64 rows, .int .i64 width, .slice a1 n1 c1, .slice a2 n2 c2] 25) = x := ⟨_, rfl⟩
  have bb : Below w.heap.size w wb := by rw [← hwb]; exact (Below.refl _ _).alloc (Nat.le_refl _) _
  have hB : ∀ q u, [Value.int .i64 rows, .int .i64 width, .slice a1 n1 c1, .slice a2 n2 c2][q]? = some u → wb.cell? ⟨w.heap.size, q, none⟩ = some u := by
    intro q u hq
    rw [← hwb]
    have hq' : #[Value.int .i64 rows, .int .i64 width, .slice a1 n1 c1, .slice a2 n2 c2][q]? = some u := by simpa using hq
    simp [hq']
  have p0 := hB 0 _ rfl
  have p1 := hB 1 _ rfl
  have p2 := hB 2 _ rfl
  have p3 := hB 3 _ rfl
  have HF := hide (fits_any rows width wb)
  have HS := hide (And.intro (h1.below bb) (And.intro (h2.below bb) bb))
  clear hB bb h1 h2
  unfold patV
  go_enter Tryz.func38, Tryz.ntmps38
  go_wp2_with fail
  refine (unhide HF).mono ?_
  rintro _ _ ⟨⟨b, rfl, hb⟩, hw⟩
  obtain rfl := hw.symm
  clear hw HF
  cases b
  · have HN := hide (show ¬ MayP rows width st cols from fun z => absurd (hb.2 z.head.fit) (by decide))
    clear hb
    go_wp2_with fail
    go_ret
    exact BIs.no (unhide HN) (unhide HS).2.2
  · have hfit := hb.1 rfl
    clear hb
    obtain ⟨R, rfl⟩ : ∃ R : Nat, rows = (R : Int) := ⟨rows.toNat, by omega⟩
    have hR : R ≤ 128 := by omega
    by_cases hlen : n1 = R + 1
    · subst hlen
      have tl : (((R + 1 : Nat) : Int) != (R : Int) + 1) = false := by simp
      have HFI := hide hfit
      obtain ⟨b1, o1, rfl, hc1⟩ := (unhide HS).1.at (by omega)
      have s0 := hc1 0 (by omega)
      have sR := hc1 R (by omega)
      rw [Nat.add_zero] at s0
      have HC1 := hide hc1
      obtain ⟨x0, hx0⟩ : ∃ x, st.getD 0 0 = x := ⟨_, rfl⟩
      obtain ⟨xR, hxR⟩ : ∃ x, st.getD R 0 = x := ⟨_, rfl⟩
      rw [hx0] at s0
      rw [hxR] at sR
      have HX := hide (And.intro hx0 hxR)
      obtain ⟨okS, hokS⟩ := truth (SortP st 0)
      have KS := hide (fun (W : World) (k : Dr wb W) => isSorted_any _ _ c1 st W ((unhide HS).1.below k.below) (by omega) okS hokS)
      have HOS := hide hokS
      clear hc1 hfit hx0 hxR hokS
      by_cases hz : x0 = 0
      · have t0 : ((x0:Int) != 0) = false := by simp; omega
        by_cases hr : xR = (n2 : Int)
        · have t1 : ((xR:Int) != (n2:Int)) = false := by simp; omega
          have HZR := hide (And.intro hz hr)
          clear hz hr
          cases okS
          · go_wp2_with fail
            go_quiet ((go_at_call 68; exact Calls.quiet_of (unhide KS _ ⟨_, rfl⟩)))
            go_wp2_with fail
            go_ret
            exact BIs.no (fun z => absurd ((unhide HOS).2 z.sort) (by decide)) (bel_drewN (unhide HS).2.2 _)
          · have HSO := hide ((unhide HOS).1 rfl)
            have HHD := hide (show HeadP (R : Int) width st cols from ⟨unhide HFI, by have := (unhide HS).1.len; omega, by rw [(unhide HX).1]; exact (unhide HZR).1, by rw [show ((R:Int)).toNat = R by omega, (unhide HX).2, (unhide HZR).2, (unhide HS).2.1.len]⟩)
            go_wp2_with fail
            go_quiet ((go_at_call 68; exact Calls.quiet_of (unhide KS _ ⟨_, rfl⟩)))
            go_wp2_with fail
            go_loopw [44, 3] (fun kv _ wr => ∃ k : Nat, k ≤ R ∧ kv = .int .i64 (k : Nat) ∧ Hid (∀ r, r < k → RowP width cols (st.getD r 0).toNat (st.getD (r + 1) 0).toNat) ∧ Hid (Dr wb wr)) (fun kv _ _ => R - (intOf kv).toNat)
            case atStart => exact ⟨0, Nat.zero_le _, rfl, fun r hr => absurd hr (Nat.not_lt_zero _), ⟨_, rfl⟩⟩
            case round =>
              obtain ⟨k, hk, rfl, HK, HW⟩ := hrel
              have hhd := unhide HHD
              have hso := unhide HSO
              by_cases hlt : k < R
              · have hlt' : (k:Int) < (R:Int) := by omega
                have hln := (unhide HS).1.len
                have g1 := hhd.rng hso (i := k) (by omega)
                have g2 := hhd.rng hso (i := k + 1) (by omega)
                have g3 := hso k (Nat.zero_le _) (by omega)
                obtain ⟨X, hX⟩ : ∃ X : Nat, st.getD k 0 = (X : Int) := ⟨(st.getD k 0).toNat, by omega⟩
                obtain ⟨Y, hY⟩ : ∃ Y : Nat, st.getD (k + 1) 0 = (Y : Int) := ⟨(st.getD (k + 1) 0).toNat, by omega⟩
                have hcl := (unhide HS).2.1.len
                rw [hX] at g1 g3
                rw [hY] at g2 g3
                have hXY : X ≤ Y := by omega
                have hYn : Y ≤ n2 := by omega
                have hnc := (unhide HS).2.1.le
                have dwr := unhide HW
                have q0 := dwr.cell p0
                have q1 := dwr.cell p1
                have q2 := dwr.cell p2
                have q3 := dwr.cell p3
                have sk := dwr.cell (unhide HC1 k (by omega))
                have sk1 := dwr.cell (unhide HC1 (k + 1) (by omega))
                rw [hX] at sk
                rw [hY] at sk1
                have tXY : (X:Int) ≤ (Y:Int) := by omega
                have tYc : (Y:Int) ≤ (c2:Int) := by omega
                have tk1 : (k:Int) + 1 < (R:Int) + 1 := by omega
                have HXY := hide (And.intro hX hY)
                clear g1 g2 g3 hX hY hln hcl dwr hhd hso p0 p1 p2 p3
                obtain ⟨okR, hokR⟩ := truth (RowP width cols X Y)
                have HOR := hide hokR
                have KR := hide (fun (W : World) (d : Dr wr W) => isRow_any _ _ _ _ width W (((unhide HS).2.1.below (((unhide HW).trans d).below)).sub hXY hYn) (by omega) okR (hokR.trans (RowP.sub hXY).symm))
                clear hokR
                cases okR
                · have HNO := hide (show ¬ MayP (R : Int) width st cols from fun z => by
                    have := z.row k (by rw [(unhide HS).1.len]; omega)
                    rw [(unhide HXY).1, (unhide HXY).2] at this
                    exact absurd ((unhide HOR).2 this) (by decide))
                  go_wp2_with fail
                  go_quiet ((go_at_call 69; exact Calls.quiet_of (unhide KR _ ⟨_, rfl⟩)))
                  all_goals go_wp2_with fail
                  all_goals go_ret
                  all_goals exact BIs.no (unhide HNO) ((unhide HS).2.2.trans ((((unhide HW).n _).below).mono (unhide HS).2.2.size))
                · have HRW := hide (show ∀ r, r < k + 1 → RowP width cols (st.getD r 0).toNat (st.getD (r + 1) 0).toNat from fun r hr => by
                    by_cases e : r = k
                    · subst e
                      rw [(unhide HXY).1, (unhide HXY).2]
                      exact (unhide HOR).1 rfl
                    · exact unhide HK r (by omega))
                  go_wp2_with fail
                  go_quiet ((go_at_call 69; exact Calls.quiet_of (unhide KR _ ⟨_, rfl⟩)))
                  all_goals go_wp2_with fail
                  all_goals exact ⟨⟨k + 1, by omega, by (first | rfl | go_num), HRW, hide ((unhide HW).n _)⟩, by simp [intOf]; omega⟩
              · have hkR : k = R := by omega
                subst hkR
                have hlt' : ¬ (k:Int) < (k:Int) := by omega
                clear hhd hso
                go_wp2_with fail
                go_ret
                refine BIs.yes ⟨unhide HHD, unhide HSO, fun r hr => unhide HK r (by rw [(unhide HS).1.len] at hr; omega)⟩ ((unhide HS).2.2.trans (((unhide HW).below).mono (unhide HS).2.2.size))
        · have t1 : ((xR:Int) != (n2:Int)) = true := by simp; omega
          have HN := hide (show ¬ MayP (R : Int) width st cols from fun z => by have h8 := z.head.last; have h9 := (unhide HX).2; have h7 := (unhide HS).2.1.len; rw [show ((R:Int)).toNat = R by omega, h9, h7] at h8; exact hr h8)
          clear hr hz
          go_wp2_with fail
          go_quiet (fail)
          go_wp2_with fail
          go_ret
          exact BIs.no (unhide HN) (bel_drewN (unhide HS).2.2 _)
      · have t0 : ((x0:Int) != 0) = true := by simp; omega
        have HN := hide (show ¬ MayP (R : Int) width st cols from fun z => by have h8 := z.head.first; have h9 := (unhide HX).1; rw [h9] at h8; exact hz h8)
        clear hz
        go_wp2_with fail
        go_quiet (fail)
        go_wp2_with fail
        go_ret
        exact BIs.no (unhide HN) (bel_drewN (unhide HS).2.2 _)
    · have tl : ((n1:Int) != (R : Int) + 1) = true := by simp; omega
      have HN := hide (show ¬ MayP (R : Int) width st cols from fun z => by have h8 := z.head.len; have h9 := (unhide HS).1.len; exact hlen (by omega))
      clear hlen hfit
      go_wp2_with fail
      go_ret
      exact BIs.no (unhide HN) (unhide HS).2.2
structure RowAt (st cols : List Int) (width : Int) (k X Y : Nat) : Prop where
  hX : st.getD k 0 = (X : Int)
  hY : st.getD (k + 1) 0 = (Y : Int)
  le : X ≤ Y
  lt : Y ≤ cols.length
  row : RowP width cols X Y
theorem MayP.rowAt {rows width : Int} {st cols : List Int} (h : MayP rows width st cols) {k : Nat} (hk : (k : Int) < rows) : ∃ X Y, RowAt st cols width k X Y := by
  have hl := h.head.len
  have g1 := h.head.rng h.sort (i := k) (by omega)
  have g2 := h.head.rng h.sort (i := k + 1) (by omega)
  have g3 := h.sort k (Nat.zero_le _) (by omega)
  have g4 := h.row k (by omega)
  exact ⟨(st.getD k 0).toNat, (st.getD (k + 1) 0).toNat, by omega, by omega, by omega, by omega, g4⟩
theorem RowAt.up {st cols : List Int} {width : Int} {k X Y : Nat} (h : RowAt st cols width k X Y) : UpS ((cols.drop X).take (Y - X)) (Y - X) := fun i h1 h2 => ((RowP.sub h.le).2 h.row).up i h1 h2
structure HasP (rows width : Int) (st cols : List Int) (r c : Int) : Prop where
  may : MayP rows width st cols
  lo : 0 ≤ r
  hi : r < rows
  at_ : ∃ i, (st.getD r.toNat 0).toNat ≤ i ∧ i < (st.getD (r.toNat + 1) 0).toNat ∧ cols.getD i 0 = c
theorem RowAt.has {st cols : List Int} {width : Int} {k X Y : Nat} (h : RowAt st cols width k X Y) {rows : Int} (hm : MayP rows width st cols) (hk : (k : Int) < rows) (c : Int) : HasX ((cols.drop X).take (Y - X)) (Y - X) c ↔ HasP rows width st cols (k : Int) c := by
  have e : ∀ i, i < Y - X → ((cols.drop X).take (Y - X)).getD i 0 = cols.getD (X + i) 0 := fun i hi => by simp [List.getD, List.getElem?_drop, hi]
  have e1 : (st.getD ((k : Int)).toNat 0).toNat = X := by rw [show ((k : Int)).toNat = k by omega, h.hX]; omega
  have e2 : (st.getD (((k : Int)).toNat + 1) 0).toNat = Y := by rw [show ((k : Int)).toNat = k by omega, h.hY]; omega
  constructor
  · rintro ⟨i, hi, hc⟩
    rw [e i hi] at hc
    exact ⟨hm, by omega, hk, X + i, by rw [e1]; omega, by rw [e2]; omega, hc⟩
  · rintro ⟨_, _, _, i, h1, h2, hc⟩
    rw [e1] at h1
    rw [e2] at h2
    exact ⟨i - X, by omega, by rw [e _ (by omega), show X + (i - X) = i by omega]; exact hc⟩
set_option maxRecDepth 100000 in
set_option maxHeartbeats 16000000 in
theorem find_out (rows width : Int) (a1 a2 : Option Addr) (n1 c1 n2 c2 : Nat) (r t : Int) (w : World) (ho : r < 0 ∨ rows ≤ r) :
    Calls Tryz.prog 39 #[patV rows width a1 n1 c1 a2 n2 c2, .int .i64 r, .int .i64 t] w fun e w' => e = .returned (.tuple #[.int .i64 0, .bool false]) ∧ Below w.heap.size w w' := by
  obtain ⟨wb, hwb⟩ : ∃ x, w.alloc (.cells #[.int .i64 rows, .int .i64 width, .slice a1 n1 c1, .slice a2 n2 c2] 25) = x := ⟨_, rfl⟩
  have bb : Below w.heap.size w wb := by rw [← hwb]; exact (Below.refl _ _).alloc (Nat.le_refl _) _
  have p0 : wb.cell? ⟨w.heap.size, 0, none⟩ = some (.int .i64 rows) := by rw [← hwb]; simp
  have HB := hide bb
  clear bb
  unfold patV
  by_cases h0 : r < 0
  · clear ho
    go_enter Tryz.func39, Tryz.ntmps39
    go_wp2_with fail
    refine bodyPost_ret (by simp [results, Tryz.results39, go_sem]; try rfl) rfl ?_
    exact ⟨rfl, unhide HB⟩
  · have h1 : rows ≤ r := by omega
    clear ho
    go_enter Tryz.func39, Tryz.ntmps39
    go_wp2_with fail
    refine bodyPost_ret (by simp [results, Tryz.results39, go_sem]; try rfl) rfl ?_
    exact ⟨rfl, unhide HB⟩
set_option maxRecDepth 100000 in
set_option maxHeartbeats 16000000 in
theorem find_in (rows width : Int) (a1 a2 : Option Addr) (n1 c1 n2 c2 : Nat) (st cols : List Int) (k X Y : Nat) (t : Int) (w : World) (h1 : SlI w a1 n1 c1 st) (h2 : SlI w a2 n2 c2 cols) (hb1 : n1 ≤ 17592186044416) (hb2 : n2 ≤ 17592186044416) (hl1 : (n1 : Int) = rows + 1) (hk : (k : Int) < rows) (hR : RowAt st cols width k X Y) (ok : Bool) (hok : ok = true ↔ HasX ((cols.drop X).take (Y - X)) (Y - X) t) (i : Nat) (hi : BsP ((cols.drop X).take (Y - X)) (Y - X) t i) :
    Calls Tryz.prog 39 #[patV rows width a1 n1 c1 a2 n2 c2, .int .i64 (k : Int), .int .i64 t] w fun e w' => e = .returned (.tuple #[.int .i64 ((X + i : Nat) : Int), .bool ok]) ∧ Below w.heap.size w w' := by
  obtain ⟨wb, hwb⟩ : ∃ x, w.alloc (.cells #[.int .i64 rows, .int .i64 width, .slice a1 n1 c1, .slice a2 n2 c2] 25) = x := ⟨_, rfl⟩
  have bb : Below w.heap.size w wb := by rw [← hwb]; exact (Below.refl _ _).alloc (Nat.le_refl _) _
  have hB : ∀ q u, [Value.int .i64 rows, .int .i64 width, .slice a1 n1 c1, .slice a2 n2 c2][q]? = some u → wb.cell? ⟨w.heap.size, q, none⟩ = some u := by
    intro q u hq
    rw [← hwb]
    have hq' : #[Value.int .i64 rows, .int .i64 width, .slice a1 n1 c1, .slice a2 n2 c2][q]? = some u := by simpa using hq
    simp [hq']
  have p0 := hB 0 _ rfl
  have p1 := hB 1 _ rfl
  have p2 := hB 2 _ rfl
  have p3 := hB 3 _ rfl
  obtain ⟨b1, o1, rfl, hc1⟩ := (h1.below bb).at (by omega)
  have sk := hc1 k (by omega)
  have sk1 := hc1 (k + 1) (by omega)
  rw [hR.hX] at sk
  rw [hR.hY] at sk1
  have hcl := h2.len
  have hnc := h2.le
  have tXY : (X : Int) ≤ (Y : Int) := by have := hR.le; omega
  have tYc : (Y : Int) ≤ (c2 : Int) := by have := hR.lt; omega
  have tk0 : ¬ (k : Int) < 0 := by omega
  have tkr : ¬ rows ≤ (k : Int) := by omega
  have tk1 : (k : Int) < (n1 : Int) := by omega
  have tk2 : (k : Int) + 1 < (n1 : Int) := by omega
  obtain ⟨z, hz⟩ : ∃ z, X + i = z := ⟨_, rfl⟩
  have hz2 : (X : Int) + (i : Int) = (z : Int) := by omega
  have hzl : z ≤ n2 := by have := hi.le; have := hR.lt; have := hR.le; omega
  have KB := hide (fun (W : World) (d : Dr wb W) => bsearch_known _ _ _ _ t W (((h2.below bb).below d.below).sub hR.le (by have := hR.lt; omega)) (by have := hR.lt; omega) hR.up ok hok i hi)
  have HB := hide bb
  have HL := hide hl1
  rw [hz]
  clear bb hB h1 h2 hR hok hi hc1 hz hcl hl1 hk
  unfold patV
  go_enter Tryz.func39, Tryz.ntmps39
  go_wp2_with fail
  go_quiet ((go_at_call 70; exact Calls.quiet_of (unhide KB _ ⟨_, rfl⟩)))
  all_goals go_wp2_with fail
  all_goals refine bodyPost_ret (by simp [results, Tryz.results39, go_sem]; try rfl) rfl ?_
  all_goals exact ⟨rfl, bel_drewN (unhide HB) _⟩
theorem BIq.qi {P : Prop} {ok : Bool} {w w' : World} {e : Ending} (h : BIq P w w' e) (ho : ok = true ↔ P) : QI ok w w' e := by
  obtain ⟨⟨b, rfl, hb⟩, rfl⟩ := h
  refine ⟨?_, Dr.refl _⟩
  have : b = ok := by have h4 := hb.trans ho.symm; cases b <;> cases ok <;> simp_all
  rw [this]
structure SeenP (width : Int) (st cols : List Int) (k : Nat) : Prop where
  up : ∀ r, r < k → st.getD r 0 ≤ st.getD (r + 1) 0
  row : ∀ r, r < k → RowP width cols (st.getD r 0).toNat (st.getD (r + 1) 0).toNat
  rng : 0 ≤ st.getD k 0 ∧ st.getD k 0 ≤ (cols.length : Int)
set_option maxRecDepth 100000 in
set_option maxHeartbeats 16000000 in
theorem wsmay_any (rows width : Int) (a1 a2 : Option Addr) (n1 c1 n2 c2 : Nat) (st cols : List Int) (w : World) (h1 : SlI w a1 n1 c1 st) (h2 : SlI w a2 n2 c2 cols) (hb1 : n1 ≤ 17592186044416) (hb2 : n2 ≤ 17592186044416) :
    Calls Tryz.prog 44 #[patV rows width a1 n1 c1 a2 n2 c2] w fun e w' => BIs (MayP rows width st cols) w w' e := by
  obtain ⟨wb, hwb⟩ : ∃ x, w.alloc (.cells #[.int .i64 rows, .int .i64 width, .slice a1 n1 c1, .slice a2 n2 c2] 25) = x := ⟨_, rfl⟩
  have bb : Below w.heap.size w wb := by rw [← hwb]; exact (Below.refl _ _).alloc (Nat.le_refl _) _
  have hB : ∀ q u, [Value.int .i64 rows, .int .i64 width, .slice a1 n1 c1, .slice a2 n2 c2][q]? = some u → wb.cell? ⟨w.heap.size, q, none⟩ = some u := by
    intro q u hq
    rw [← hwb]
    have hq' : #[Value.int .i64 rows, .int .i64 width, .slice a1 n1 c1, .slice a2 n2 c2][q]? = some u := by simpa using hq
    simp [hq']
  have p0 := hB 0 _ rfl
  have p1 := hB 1 _ rfl
  have p2 := hB 2 _ rfl
  have p3 := hB 3 _ rfl
  have HF := hide (sized_any rows width wb)
  have HS := hide (And.intro (h1.below bb) (And.intro (h2.below bb) bb))
  clear hB bb h1 h2
  unfold patV
  obtain ⟨okF, hokF⟩ := truth (0 ≤ rows ∧ rows ≤ 128 ∧ 0 ≤ width ∧ width ≤ 128)
  have KF := hide (fun (W : World) => (sized_any rows width W).mono fun e w' h => h.qi hokF)
  clear HF
  cases okF
  · have HN := hide (show ¬ MayP rows width st cols from fun z => absurd (hokF.2 z.head.fit) (by decide))
    clear hokF
    go_enter Tryz.func44, Tryz.ntmps44
    go_wp2_with fail
    go_quiet ((go_at_call 75; exact Calls.quiet_of (unhide KF _)))
    go_wp2_with fail
    go_ret
    exact BIs.no (unhide HN) (bel_drewN (unhide HS).2.2 _)
  · have hfit := hokF.1 rfl
    clear hokF
    obtain ⟨R, rfl⟩ : ∃ R : Nat, rows = (R : Int) := ⟨rows.toNat, by omega⟩
    have hR : R ≤ 128 := by omega
    by_cases hlen : n1 = R + 1
    · subst hlen
      have tl : (((R + 1 : Nat) : Int) != (R : Int) + 1) = false := by simp
      have HFI := hide hfit
      obtain ⟨b1, o1, rfl, hc1⟩ := (unhide HS).1.at (by omega)
      have s0 := hc1 0 (by omega)
      have sR := hc1 R (by omega)
      rw [Nat.add_zero] at s0
      have HC1 := hide hc1
      obtain ⟨x0, hx0⟩ : ∃ x, st.getD 0 0 = x := ⟨_, rfl⟩
      obtain ⟨xR, hxR⟩ : ∃ x, st.getD R 0 = x := ⟨_, rfl⟩
      rw [hx0] at s0
      rw [hxR] at sR
      have HX := hide (And.intro hx0 hxR)
      clear hc1 hfit hx0 hxR
      by_cases hz : x0 = 0
      · have t0 : ((x0:Int) != 0) = false := by simp; omega
        by_cases hr : xR = (n2 : Int)
        · have t1 : ((xR:Int) != (n2:Int)) = false := by simp; omega
          have HZR := hide (And.intro hz hr)
          clear hz hr
          have HHD := hide (show HeadP (R : Int) width st cols from ⟨unhide HFI, by have := (unhide HS).1.len; omega, by rw [(unhide HX).1]; exact (unhide HZR).1, by rw [show ((R:Int)).toNat = R by omega, (unhide HX).2, (unhide HZR).2, (unhide HS).2.1.len]⟩)
          go_enter Tryz.func44, Tryz.ntmps44
          go_wp2_with fail
          go_quiet ((go_at_call 75; exact Calls.quiet_of (unhide KF _)))
          go_wp2_with fail
          go_loopw [3, 4] (fun rv _ wr => ∃ k : Nat, k ≤ R ∧ rv = .int .i64 (k : Nat) ∧ Hid (SeenP width st cols k) ∧ Hid (Dr wb wr)) (fun rv _ _ => R - (intOf rv).toNat)
          case atStart => exact ⟨0, Nat.zero_le _, rfl, ⟨fun r hr => absurd hr (Nat.not_lt_zero _), fun r hr => absurd hr (Nat.not_lt_zero _), by rw [(unhide HX).1, (unhide HZR).1]; omega⟩, ⟨_, rfl⟩⟩
          case round =>
            obtain ⟨k, hk, rfl, HK, HW⟩ := hrel
            have HP := hide (And.intro p0 (And.intro p1 (And.intro p2 p3)))
            have dwr := unhide HW
            have q0 := dwr.cell p0
            have q1 := dwr.cell p1
            have q2 := dwr.cell p2
            have q3 := dwr.cell p3
            by_cases hlt : k < R
            · have hlt' : (k:Int) < (R:Int) := by omega
              have sk := dwr.cell (unhide HC1 k (by omega))
              have sk1 := dwr.cell (unhide HC1 (k + 1) (by omega))
              have hrg := (unhide HK).rng
              have hcl := (unhide HS).2.1.len
              have hln := (unhide HS).1.len
              obtain ⟨X, hX⟩ : ∃ X : Nat, st.getD k 0 = (X : Int) := ⟨(st.getD k 0).toNat, by omega⟩
              obtain ⟨y, hy⟩ : ∃ y, st.getD (k + 1) 0 = y := ⟨_, rfl⟩
              rw [hX] at sk hrg
              rw [hy] at sk1
              have hXn : X ≤ n2 := by omega
              have HXY := hide (And.intro hX hy)
              have tk1 : (k:Int) + 1 < (R:Int) + 1 := by omega
              have HLN := hide (And.intro hln hcl)
              clear dwr hrg hX hy p0 p1 p2 p3 hcl hln
              by_cases hy1 : y < (X:Int)
              · have HN := hide (show ¬ MayP (R : Int) width st cols from fun z => by have := z.sort k (Nat.zero_le _) (by rw [(unhide HLN).1]; omega); rw [(unhide HXY).1, (unhide HXY).2] at this; omega)
                go_wp2_with fail
                go_quiet (fail)
                go_wp2_with fail
                go_ret
                exact BIs.no (unhide HN) ((unhide HS).2.2.trans ((((unhide HW).n _).below).mono (unhide HS).2.2.size))
              · by_cases hy2 : (n2:Int) < y
                · have hy1' : decide (y < (X:Int)) = false := decide_eq_false hy1
                  have hy2' : decide ((n2:Int) < y) = true := decide_eq_true hy2
                  have HN := hide (show ¬ MayP (R : Int) width st cols from fun z => by have := (z.head.rng z.sort (i := k + 1) (by rw [(unhide HLN).1]; omega)).2; rw [(unhide HXY).2, (unhide HLN).2] at this; omega)
                  go_wp2_with fail
                  go_quiet (fail)
                  go_wp2_with fail
                  go_ret
                  exact BIs.no (unhide HN) ((unhide HS).2.2.trans ((((unhide HW).n _).below).mono (unhide HS).2.2.size))
                · have hy1' : decide (y < (X:Int)) = false := decide_eq_false hy1
                  have hy2' : decide ((n2:Int) < y) = false := decide_eq_false hy2
                  have HYY := hide (And.intro hy1 hy2)
                  clear hy1 hy2
                  go_wp2_with fail
                  go_quiet (fail)
                  obtain ⟨hy1, hy2⟩ := unhide HYY
                  obtain ⟨Y, rfl⟩ : ∃ Y : Nat, y = (Y : Int) := ⟨y.toNat, by omega⟩
                  have hXY : X ≤ Y := by omega
                  have hYn : Y ≤ n2 := by omega
                  clear hy1 hy2 hy1' hy2'
                  go_wp2_with fail
                  go_loopw [4] (fun iv wi => ∃ i : Nat, X ≤ i ∧ i ≤ Y ∧ iv = .int .i64 (i : Nat) ∧ Hid (RowP width cols X i) ∧ Hid (Dr wb wi)) (fun iv _ => Y - (intOf iv).toNat)
                  case atStart => exact ⟨X, Nat.le_refl _, hXY, rfl, ⟨fun i h1 h2 => by omega, fun i h1 h2 => by omega⟩, (unhide HW).n _⟩
                  case round =>
                    rename_i wi
                    obtain ⟨i, hi1, hi2, rfl, HR, HV⟩ := hrel
                    have dwi := unhide HV
                    obtain ⟨p0, p1, p2, p3⟩ := unhide HP
                    have r0 := dwi.cell p0
                    have r1 := dwi.cell p1
                    have r2 := dwi.cell p2
                    have r3 := dwi.cell p3
                    have uk := dwi.cell (unhide HC1 k (by omega))
                    have uk1 := dwi.cell (unhide HC1 (k + 1) (by omega))
                    rw [(unhide HXY).1] at uk
                    rw [(unhide HXY).2] at uk1
                    clear p0 p1 p2 p3 q0 q1 q2 q3 sk sk1
                    by_cases hlt2 : i < Y
                    · have hlt3 : (i:Int) < (Y:Int) := by omega
                      have tin : (i:Int) < (n2:Int) := by omega
                      obtain ⟨b2, o2, rfl, hc2⟩ := (unhide HS).2.1.at (by omega)
                      have ci := dwi.cell (hc2 i (by omega))
                      obtain ⟨x, hx⟩ : ∃ x, cols.getD i 0 = x := ⟨_, rfl⟩
                      rw [hx] at ci
                      have HXI := hide hx
                      have HC2 := hide hc2
                      have HRW := hide (show MayP (R : Int) width st cols → RowP width cols X Y from fun z => by have := z.row k (by rw [(unhide HLN).1]; omega); rw [(unhide HXY).1, (unhide HXY).2] at this; exact this)
                      clear hx hc2
                      by_cases h0 : x < 0
                      · have d1 : decide (x < 0) = true := decide_eq_true h0
                        have HN := hide (show ¬ MayP (R : Int) width st cols from fun z => by have := ((unhide HRW z).rng i hi1 hlt2).1; rw [unhide HXI] at this; omega)
                        clear h0 dwi
                        go_wp2_with fail
                        go_quiet (fail)
                        go_wp2_with fail
                        go_ret
                        exact BIs.no (unhide HN) ((unhide HS).2.2.trans ((((unhide HV).n _).below).mono (unhide HS).2.2.size))
                      · have d1 : decide (x < 0) = false := decide_eq_false h0
                        by_cases h1 : width ≤ x
                        · have d2 : decide (width ≤ x) = true := decide_eq_true h1
                          have HN := hide (show ¬ MayP (R : Int) width st cols from fun z => by have := ((unhide HRW z).rng i hi1 hlt2).2; rw [unhide HXI] at this; omega)
                          clear h0 h1 dwi
                          go_wp2_with fail
                          go_quiet (fail)
                          go_wp2_with fail
                          go_ret
                          exact BIs.no (unhide HN) ((unhide HS).2.2.trans ((((unhide HV).n _).below).mono (unhide HS).2.2.size))
                        · have d2 : decide (width ≤ x) = false := decide_eq_false h1
                          by_cases he : i = X
                          · subst he
                            have HNX := hide (show RowP width cols i (i + 1) from ⟨fun r g1 g2 => by obtain rfl : r = i := (by omega); rw [unhide HXI]; omega, fun r g1 g2 => by omega⟩)
                            clear h0 h1 dwi
                            go_wp2_with fail
                            go_quiet (fail)
                            go_wp2_with fail
                            exact ⟨⟨i + 1, by omega, by omega, by (first | rfl | go_num), HNX, hide ((unhide HV).n _)⟩, by simp [intOf]; omega⟩
                          · obtain ⟨j, hj⟩ : ∃ j, i = j + 1 := ⟨i - 1, by omega⟩
                            have cj := dwi.cell (unhide HC2 j (by omega))
                            obtain ⟨z, hz⟩ : ∃ z, cols.getD j 0 = z := ⟨_, rfl⟩
                            rw [hz] at cj
                            have HZJ := hide (And.intro hz hj)
                            have hXi : X < i := by omega
                            have d3 : decide (X < i) = true := decide_eq_true hXi
                            have d3' : decide ((X:Int) < (i:Int)) = true := decide_eq_true (by omega)
                            have hw1 : IntKind.i64.wrap ((i:Int) - 1) = (j:Int) := by rw [wrapJ _ (by omega) (by omega)]; omega
                            have hij : (i:Int) - 1 = (j:Int) := by omega
                            have tj : (j:Int) < (n2:Int) := by omega
                            clear hz hj he dwi
                            by_cases h2 : x ≤ z
                            · have d4 : decide (x ≤ z) = true := decide_eq_true h2
                              have HN := hide (show ¬ MayP (R : Int) width st cols from fun y => by have := (unhide HRW y).up i hXi hlt2; rw [unhide HXI, show i - 1 = j by have := (unhide HZJ).2; omega, (unhide HZJ).1] at this; omega)
                              clear h0 h1 h2
                              go_wp2_with fail
                              go_quiet (fail)
                              go_wp2_with fail
                              go_ret
                              exact BIs.no (unhide HN) ((unhide HS).2.2.trans ((((unhide HV).n _).below).mono (unhide HS).2.2.size))
                            · have d4 : decide (x ≤ z) = false := decide_eq_false h2
                              have HNX := hide (show RowP width cols X (i + 1) from ⟨fun r g1 g2 => by
                                  by_cases e : r = i
                                  · subst e; rw [unhide HXI]; omega
                                  · exact (unhide HR).rng r g1 (by omega), fun r g1 g2 => by
                                  by_cases e : r = i
                                  · subst e; rw [unhide HXI, show r - 1 = j by have := (unhide HZJ).2; omega, (unhide HZJ).1]; omega
                                  · exact (unhide HR).up r g1 (by omega)⟩)
                              clear h0 h1 h2
                              go_wp2_with fail
                              go_quiet (fail)
                              go_wp2_with fail
                              exact ⟨⟨i + 1, by omega, by omega, by (first | rfl | go_num), HNX, hide ((unhide HV).n _)⟩, by simp [intOf]; omega⟩
                    · have hiY : i = Y := by omega
                      subst hiY
                      have hlt3 : ¬ (i:Int) < (i:Int) := by omega
                      have HSN := hide (show SeenP width st cols (k + 1) from ⟨fun r hr => by
                          by_cases e : r = k
                          · subst e; rw [(unhide HXY).1, (unhide HXY).2]; omega
                          · exact (unhide HK).up r (by omega), fun r hr => by
                          by_cases e : r = k
                          · subst e; rw [(unhide HXY).1, (unhide HXY).2]; exact unhide HR
                          · exact (unhide HK).row r (by omega), by rw [(unhide HXY).2, (unhide HLN).2]; omega⟩)
                      clear dwi
                      go_wp2_with fail
                      exact ⟨⟨k + 1, by omega, by (first | rfl | go_num), HSN, HV⟩, by simp [intOf]; omega⟩
            · have hkR : k = R := by omega
              subst hkR
              have hlt' : ¬ (k:Int) < (k:Int) := by omega
              clear dwr
              go_wp2_with fail
              go_ret
              have hK := unhide HK
              have hln := (unhide HS).1.len
              exact BIs.yes ⟨unhide HHD, fun i _ hi => hK.up i (by omega), fun r hr => hK.row r (by omega)⟩ ((unhide HS).2.2.trans (((unhide HW).below).mono (unhide HS).2.2.size))
        · have t1 : ((xR:Int) != (n2:Int)) = true := by simp; omega
          have HN := hide (show ¬ MayP (R : Int) width st cols from fun z => by have h8 := z.head.last; have h9 := (unhide HX).2; have h7 := (unhide HS).2.1.len; rw [show ((R:Int)).toNat = R by omega, h9, h7] at h8; exact hr h8)
          clear hr hz
          go_enter Tryz.func44, Tryz.ntmps44
          go_wp2_with fail
          go_quiet ((go_at_call 75; exact Calls.quiet_of (unhide KF _)))
          go_wp2_with fail
          go_ret
          exact BIs.no (unhide HN) (bel_drewN (unhide HS).2.2 _)
      · have t0 : ((x0:Int) != 0) = true := by simp; omega
        have HN := hide (show ¬ MayP (R : Int) width st cols from fun z => by have h8 := z.head.first; have h9 := (unhide HX).1; rw [h9] at h8; exact hz h8)
        clear hz
        go_enter Tryz.func44, Tryz.ntmps44
        go_wp2_with fail
        go_quiet ((go_at_call 75; exact Calls.quiet_of (unhide KF _)))
        go_wp2_with fail
        go_ret
        exact BIs.no (unhide HN) (bel_drewN (unhide HS).2.2 _)
    · have tl : ((n1:Int) != (R : Int) + 1) = true := by simp; omega
      have HN := hide (show ¬ MayP (R : Int) width st cols from fun z => by have h8 := z.head.len; have h9 := (unhide HS).1.len; exact hlen (by omega))
      clear hlen hfit
      go_enter Tryz.func44, Tryz.ntmps44
      go_wp2_with fail
      go_quiet ((go_at_call 75; exact Calls.quiet_of (unhide KF _)))
      go_wp2_with fail
      go_ret
      exact BIs.no (unhide HN) (bel_drewN (unhide HS).2.2 _)
end Go.Proofs.YtgjokididdffhaaGreat
