/-
  ORDERS: OrderWorth of a graph.
-/
import Derived.Test.YtgonfjigcplbnaaCs5
import Derived.Test.YtgonfjigcplbnaaSa3
import Derived.Test.YtgonfjigcplbnaaRows
import Derived.ProofKit
import Derived.OpenShut
import Derived.ShutString
import Derived.ChangeOld
import Derived.Below
import Derived.SizedLaws
namespace Go.Proofs.Ytgonfjigcplbnaa
open Go.Shelf Go.RowKit Go.Deep
set_option linter.unusedVariables false

theorem wrapW64 (x : Int) : IntKind.i64.wrap x = (x + 9223372036854775808) % 18446744073709551616 - 9223372036854775808 := by
  simp [IntKind.wrap, IntKind.bits, IntKind.signed]
  split <;> omega
theorem moF_is {f : Nat → Nat} {R M : Nat} (h1 : ∀ u, u < R → f u ≤ M) (h2 : M = 0 ∨ ∃ u, u < R ∧ f u = M) : moF f R = M := by
  apply Nat.le_antisymm
  · rcases moF_at f R with e | ⟨i, hi, e⟩
    · omega
    · rw [← e]; exact h1 i hi
  · rcases h2 with e | ⟨u, hu, e⟩
    · omega
    · rw [← e]; exact moF_ge f R u hu
theorem dgN_lt {R : Nat} {st cols : List Int} (hm : MayP (R : Int) (R : Int) st cols) (hg : GraP st cols R R) : dgN R st cols ≤ R := by
  unfold dgN
  rcases moF_at (peC R (nbL st cols) (fun v => (rowL st cols v).length)) R with e | ⟨i, hi, e⟩
  · omega
  · have := (stp_all hm hg i hi).cn
    omega
set_option maxRecDepth 100000 in
set_option maxHeartbeats 16000000 in
/-- OrderWorth of a graph. -/
theorem worth_gr (R : Nat) (a1 a2 : Option Addr) (n1 c1 n2 c2 : Nat) (st cols : List Int) (a : Option Addr) (m c : Nat) (xs : List Int) (w : World) (h1 : SlI w a1 n1 c1 st) (h2 : SlI w a2 n2 c2 cols) (h3 : SlI w a m c xs) (hb1 : n1 ≤ 17592186044000) (hb2 : n2 ≤ 17592186044000) (hb3 : m ≤ 17592186044000) (hm : MayP (R : Int) (R : Int) st cols) (hg : GraP st cols R R) :
    Calls Try.prog 3 #[patV (R : Int) (R : Int) a1 n1 c1 a2 n2 c2, .slice a m c] w fun e w' => e = .returned (.bool true) ∧ Below w.heap.size w w' := by
  have hR : R ≤ 128 := by have := hm.head.fit; omega
  have hdg : ∀ v, v < R → (rowL st cols v).length < R := fun v hv => deg_lt hm hg hv
  have hok := peO_all hm hg
  obtain ⟨wb, hwb⟩ : ∃ x, w.alloc (.cells #[.int .i64 (R : Int), .int .i64 (R : Int), .slice a1 n1 c1, .slice a2 n2 c2] 24) = x := ⟨_, rfl⟩
  have bb : Below w.heap.size w wb := by rw [← hwb]; exact (Below.refl _ _).alloc (Nat.le_refl _) _
  have hT := BoxP.made w #[.int .i64 (R : Int), .int .i64 (R : Int), .slice a1 n1 c1, .slice a2 n2 c2] 24
  rw [hwb] at hT
  have p0 := (hT.all 0 _ rfl).1
  have p1 := (hT.all 1 _ rfl).1
  have p2 := (hT.all 2 _ rfl).1
  have p3 := (hT.all 3 _ rfl).1
  have hgr : IsGr (R : Int) (R : Int) st cols := ⟨R, rfl, rfl, hm, hg⟩
  have K1 := hide (odegen_all R a1 a2 n1 c1 n2 c2 st cols wb (h1.below bb) (h2.below bb) hb1 hb2 hm hg hdg hok)
  have K2 := hide (fun (W : World) (b : Below w.heap.size w W) => wowrong_any (R : Int) (R : Int) a1 a2 n1 c1 n2 c2 st cols W (h1.below b) (h2.below b) hb1 hb2 true ⟨fun _ => hgr, fun _ => rfl⟩)
  have K3 := hide (fun (W : World) (b : Below w.heap.size w W) => oOrder_smallest R a1 a2 n1 c1 n2 c2 st cols W (h1.below b) (h2.below b) hb1 hb2 hm hg hdg hok)
  have K4 := hide (fun (W : World) (b : Below w.heap.size w W) (a : Option Addr) (m c : Nat) (xs : List Int) (h3 : SlI W a m c xs) (hb3 : m ≤ 17592186044000) (ok : Bool) (hok : TruQ ok (IsOrd xs R)) => oBack_gr R a1 a2 n1 c1 n2 c2 st cols a m c xs W (h1.below b) (h2.below b) h3 hb1 hb2 hb3 hm hg ok hok)
  unfold patV at K1 K2 K3 K4
  have HM := hide (And.intro hm hg)
  have HS3 := hide h3
  have hl2 := h2.len
  obtain ⟨D, hD⟩ : ∃ D, dgN R st cols = D := ⟨_, rfl⟩
  obtain ⟨Q, hQ⟩ : ∃ Q : Nat, 2 * D * R = Q := ⟨_, rfl⟩
  have hDR : D ≤ 128 := by have := dgN_lt hm hg; omega
  have hQ2 : Q ≤ 32768 := by rw [← hQ]; exact Nat.le_trans (Nat.mul_le_mul (Nat.mul_le_mul (Nat.le_refl 2) hDR) hR) (by decide)
  have hnQ : n2 ≤ Q := by have := edges_le hm hg; rw [hD, hQ] at this; omega
  have hnQ' : ¬ (Q : Int) < (n2 : Int) := by omega
  have hw1 : IntKind.i64.wrap (2 * (D : Int)) = 2 * (D : Int) := by rw [wrapW64]; omega
  have hq : 2 * (D : Int) * (R : Int) = (Q : Int) := by rw [← hQ]; simp
  have hw2 : IntKind.i64.wrap (2 * (D : Int) * (R : Int)) = (Q : Int) := by rw [hq, wrapW64]; omega
  have HB := hide bb
  have HT := hide hT
  have HD := hide hD
  clear hT bb h1 h2 h3 hm hg hdg hok hgr hD hQ
  unfold patV
  go_enter Try.func3, Try.ntmps3
  go_wp2_with fail
  refine (unhide K1).mono ?_
  rintro _ w2 ⟨v, g, hgw, rfl, hr, hmx, b2⟩
  have hv := degen_is (unhide HM).1 (unhide HM).2 hmx
  rw [unhide HD] at hv
  subst hv
  have HR2 := hide (show RoV w2 g R (fun v => .int .i64 (coV R st cols v : Int)) from hr)
  have HB2 := hide ((unhide HB).trans (b2.mono (unhide HB).size))
  have HT2 := hide ((unhide HT).below b2)
  clear K1 b2 p0 p1 p2 p3 hr hmx hgw
  have p0 := ((unhide HT2).all 0 _ rfl).1
  have p1 := ((unhide HT2).all 1 _ rfl).1
  have p2 := ((unhide HT2).all 2 _ rfl).1
  have p3 := ((unhide HT2).all 3 _ rfl).1
  go_wp2_with fail
  refine (unhide K2 w2 (unhide HB2)).mono ?_
  rintro _ w3 ⟨rfl, b3⟩
  have HB3 := hide ((unhide HB2).trans (b3.mono (unhide HB2).size))
  have HT3 := hide ((unhide HT2).below b3)
  have HR3 := hide ((unhide HR2).below b3)
  clear K2 b3 p0 p1 p2 p3
  have p0 := ((unhide HT3).all 0 _ rfl).1
  have p1 := ((unhide HT3).all 1 _ rfl).1
  have p2 := ((unhide HT3).all 2 _ rfl).1
  have p3 := ((unhide HT3).all 3 _ rfl).1
  go_wp2_with fail
  refine (unhide K3 w3 (unhide HB3)).mono ?_
  rintro _ w4 ⟨b, d, rfl, hk, b4⟩
  obtain ⟨b', d', e', hsl⟩ := hk.sli
  rw [smL_len] at e' hsl
  injection e' with e1 e2 e3
  subst e1 e3
  have HB4 := hide ((unhide HB3).trans (b4.mono (unhide HB3).size))
  have HT4 := hide ((unhide HT3).below b4)
  have HR4 := hide ((unhide HR3).below b4)
  have K4' := hide (unhide K4 w4 (unhide HB4) b R d (smL R st cols) hsl (by omega) true ⟨fun _ => smL_ord (unhide HM).1 (unhide HM).2, fun _ => rfl⟩)
  clear K3 b4 p0 p1 p2 p3 hk hsl e2
  have p0 := ((unhide HT4).all 0 _ rfl).1
  have p1 := ((unhide HT4).all 1 _ rfl).1
  have p2 := ((unhide HT4).all 2 _ rfl).1
  have p3 := ((unhide HT4).all 3 _ rfl).1
  go_wp2_with fail
  refine (unhide K4').mono ?_
  rintro _ w5 ⟨b5, _, hyes⟩
  obtain ⟨v, g5, rfl, _, hmx⟩ := hyes rfl
  have hv := small_back (unhide HM).1 (unhide HM).2 hmx
  rw [unhide HD] at hv
  subst hv
  have HB5 := hide ((unhide HB4).trans (b5.mono (unhide HB4).size))
  have HT5 := hide ((unhide HT4).below b5)
  have HR5 := hide ((unhide HR4).below b5)
  clear K4' b5 p0 p1 p2 p3 hmx hyes
  have p0 := ((unhide HT5).all 0 _ rfl).1
  have p1 := ((unhide HT5).all 1 _ rfl).1
  have p2 := ((unhide HT5).all 2 _ rfl).1
  have p3 := ((unhide HT5).all 3 _ rfl).1
  have d1 : ((D : Int) == (D : Int)) = true := by simp
  have d2 : ((R : Int) == (R : Int)) = true := by simp
  go_wp2_with ((go_at_call 6; refine (num11_any _ _).mono ?_; rintro _ wn ⟨rfl, hwn⟩; rw [hwn]; clear hwn wn))
  clear p0 p1 p2 p3 hw1 hw2 hq hnQ hnQ' d1 d2
  obtain ⟨f, hf⟩ : ∃ f : Nat → Nat, coV R st cols = f := ⟨_, rfl⟩
  have HMO := hide (show moF f R = D from by rw [← hf, ← unhide HD]; exact moF_is (core_most (unhide HM).1 (unhide HM).2).1 (core_most (unhide HM).1 (unhide HM).2).2)
  rw [hf] at HR5
  clear HR2 HR3 HR4 hf
  go_loopw [14, 13] (fun kv mv wr => ∃ k : Nat, k ≤ R ∧ kv = .int .i64 (k : Int) ∧ mv = .int .i64 (moF f k : Int) ∧ Hid (Below w5.heap.size w5 wr)) (fun kv _ _ => R - (intOf kv).toNat)
  case atStart => exact ⟨0, Nat.zero_le _, rfl, rfl, hide (Below.refl _ _)⟩
  case round =>
    obtain ⟨k, hk, rfl, rfl, HW⟩ := hrel
    by_cases hlt : k < R
    · have hlt' : (k : Int) < (R : Int) := by omega
      have r0 := ((unhide HR5).below (unhide HW) k hlt).1
      obtain ⟨y, hy⟩ : ∃ y, f k = y := ⟨_, rfl⟩
      obtain ⟨q, hq⟩ : ∃ q, moF f k = q := ⟨_, rfl⟩
      have hz : moF f (k + 1) = max q y := by rw [← hq, ← hy]; rfl
      rw [hy] at r0
      rw [hq]
      by_cases c : q < y
      · have c' : (q : Int) < (y : Int) := by omega
        have HZ := hide (show moF f (k + 1) = y by omega)
        clear hy hq hz
        go_wp2_with fail
        exact ⟨⟨k + 1, by omega, by (first | rfl | go_num), by rw [unhide HZ], HW⟩, by simp [intOf]; omega⟩
      · have c' : ¬ (q : Int) < (y : Int) := by omega
        have HZ := hide (show moF f (k + 1) = q by omega)
        clear hy hq hz
        go_wp2_with fail
        exact ⟨⟨k + 1, by omega, by (first | rfl | go_num), by rw [unhide HZ], HW⟩, by simp [intOf]; omega⟩
    · obtain rfl : k = R := by omega
      have hlt' : ¬ (k : Int) < (k : Int) := by omega
      rw [unhide HMO]
      have HB6 := hide ((unhide HB5).trans ((unhide HW).mono (unhide HB5).size))
      have HT6 := hide ((unhide HT5).below (unhide HW))
      have p0 := ((unhide HT6).all 0 _ rfl).1
      have p1 := ((unhide HT6).all 1 _ rfl).1
      have p2 := ((unhide HT6).all 2 _ rfl).1
      have p3 := ((unhide HT6).all 3 _ rfl).1
      have d1 : ((D : Int) == (D : Int)) = true := by simp
      by_cases ho : IsOrd xs k
      · have K5 := hide (unhide K4 wr (unhide HB6) a m c xs ((unhide HS3).below (unhide HB6)) hb3 true ⟨fun _ => ho, fun _ => rfl⟩)
        go_wp2_with fail
        refine (unhide K5).mono ?_
        rintro _ w7 ⟨b7, _, hyes⟩
        obtain ⟨v, g7, rfl, _, hmx⟩ := hyes rfl
        have hv := any_back (unhide HM).1 (unhide HM).2 ho hmx
        rw [unhide HD] at hv
        have HB7 := hide ((unhide HB6).trans (b7.mono (unhide HB6).size))
        clear K5 b7 p0 p1 p2 p3 hmx hyes
        go_wp2_with ((go_at_call 6; refine (num11_any _ _).mono ?_; rintro _ wn ⟨rfl, hwn⟩; rw [hwn]; clear hwn wn))
        refine (oalive_any w7).mono ?_
        rintro _ w8 ⟨rfl, b8⟩
        have HB8 := hide ((unhide HB7).trans (b8.mono (unhide HB7).size))
        clear b8
        go_wp2_with fail
        try go_ret
        exact ⟨rfl, unhide HB8⟩
      · have K5 := hide (unhide K4 wr (unhide HB6) a m c xs ((unhide HS3).below (unhide HB6)) hb3 false ⟨fun x => (by cases x), fun x => absurd x ho⟩)
        go_wp2_with fail
        refine (unhide K5).mono ?_
        rintro _ w7 ⟨b7, hno, _⟩
        obtain rfl := hno rfl
        have HB7 := hide ((unhide HB6).trans (b7.mono (unhide HB6).size))
        clear K5 b7 p0 p1 p2 p3
        go_wp2_with ((go_at_call 6; refine (num11_any _ _).mono ?_; rintro _ wn ⟨rfl, hwn⟩; rw [hwn]; clear hwn wn))
        refine (oalive_any w7).mono ?_
        rintro _ w8 ⟨rfl, b8⟩
        have HB8 := hide ((unhide HB7).trans (b8.mono (unhide HB7).size))
        clear b8
        go_wp2_with fail
        try go_ret
        exact ⟨rfl, unhide HB8⟩
end Go.Proofs.Ytgonfjigcplbnaa

namespace Go.Proofs.Ytgonfjigcplbnaa
open Go.ChangeShapes Go.WideShapes Go.ChangeAt Go.RowKit Go.Deep
set_option linter.unusedVariables false

theorem law_bytesI : Try.prog.bytesOf 3 = 8 := by kernel_rfl
theorem law_cellsI : Try.prog.cellsOf 3 = 1 := by kernel_rfl
theorem law_cellsIs : Try.prog.cellsOf 22 = 1 := by kernel_rfl
theorem law_cellsP : Try.prog.cellsOf 24 = 4 := by kernel_rfl
theorem trod_s4 {H : Type} {enc : TypeId × Value → H} {P : Program} {w : World} {base : Nat} {spare : Nat → Bool} {held : Bool} {t : TypeId} {f0 f1 f2 f3 : Field} {fuel : Nat} {cs : List Value} {x : DataW H × List MemPlace} (ht : P.underlying t = some (.struct #[f0, f1, f2, f3])) (h : DataW.trod enc P w base spare held fuel t cs = some x) :
    ∃ y0 y1 y2 y3 n, x = (.agg [y0.1, y1.1, y2.1, y3.1], y0.2 ++ (y1.2 ++ (y2.2 ++ y3.2))) ∧ cs.length = P.cellsOf t ∧ DataW.trod enc P w base spare held n f0.type ((cs.drop f0.offset).take (P.cellsOf f0.type)) = some y0 ∧
      DataW.trod enc P w base spare held n f1.type ((cs.drop f1.offset).take (P.cellsOf f1.type)) = some y1 ∧ DataW.trod enc P w base spare held n f2.type ((cs.drop f2.offset).take (P.cellsOf f2.type)) = some y2 ∧ DataW.trod enc P w base spare held n f3.type ((cs.drop f3.offset).take (P.cellsOf f3.type)) = some y3 := by
  obtain ⟨xs, n, _, rfl, hl, hlen, hf⟩ := DataW.trod_struct ht h
  match xs, hlen with
  | [y0, y1, y2, y3], _ => exact ⟨y0, y1, y2, y3, n, by simp, hl, by simpa using hf 0 f0 rfl, by simpa using hf 1 f1 rfl, by simpa using hf 2 f2 rfl, by simpa using hf 3 f3 rfl⟩
/-- A list of whole numbers that is handed in. -/
theorem trod_intsZ {H : Type} {enc : TypeId × Value → H} {W : World} {fuel : Nat} {cs : List Value} {x : DataW H × List MemPlace}
    (h : DataW.trod enc Try.prog W 0 (fun _ => true) true fuel 22 cs = some x) (hz : ∀ k ∈ x.1.weights Try.prog 22, k ≤ reachBytes) :
    ∃ a n c xs, cs = [.slice a n c] ∧ SlI W a n c xs ∧ n ≤ 17592186044000 := by
  rcases open_ints Try.underlying22 Try.underlying3 law_cellsI h with ⟨rfl, _⟩ | ⟨y, n, c, zs, rfl, _, hl, hm, hzl, rfl, hcell, hwz⟩
  · exact ⟨none, 0, 0, [], rfl, SlI.nil _, Nat.zero_le _⟩
  · have hzl' : zs.length = c := by simpa using hzl
    have hb := hz (((lits (H := H) .i64 (zs.take n)).length + (lits (H := H) .i64 (zs.drop n)).length) * Try.prog.bytesOf 3) (by simp [DataW.weights, Try.underlying22])
    have hlen : (lits (H := H) .i64 (zs.take n)).length + (lits (H := H) .i64 (zs.drop n)).length = c := by
      simp [lits]; omega
    rw [hlen, law_bytesI] at hb
    unfold reachBytes at hb
    refine ⟨some y, n, c, zs.take n, rfl, ⟨by simp; omega, hl, hm, ?_⟩, by omega⟩
    by_cases h0 : n = 0
    · left; subst h0; simp
    · right
      obtain ⟨b, off, spot⟩ := y
      have c0 := hcell 0 (by omega)
      have hspot : spot = none := by simpa [Addr.add] using World.cell?_spot c0
      subst hspot
      refine ⟨b, off, rfl, ?_⟩
      intro i hi
      have hi' : i < n := by simp at hi; omega
      have e : (⟨b, off, none⟩ : Addr).add i = ⟨b, off + i, none⟩ := by unfold Addr.add; split <;> simp_all
      have hzi := hcell i (by omega)
      rw [e] at hzi
      rw [hzi]
      have e2 : (zs.take n).getD i 0 = zs.getD i 0 := by
        simp [List.getD, hi', show i < zs.length from by omega]
      rw [e2]
/-- A pattern's parts. -/
structure PatZ (W : World) (a1 : Option Addr) (n1 c1 : Nat) (st : List Int) (a2 : Option Addr) (n2 c2 : Nat) (cols : List Int) : Prop where
  h1 : SlI W a1 n1 c1 st
  h2 : SlI W a2 n2 c2 cols
  l1 : n1 ≤ 17592186044000
  l2 : n2 ≤ 17592186044000
set_option maxRecDepth 100000 in
theorem trod_patZ {H : Type} {enc : TypeId × Value → H} {W : World} {fuel : Nat} {cs : List Value} {x : DataW H × List MemPlace}
    (h : DataW.trod enc Try.prog W 0 (fun _ => true) true fuel 24 cs = some x) (hz : ∀ k ∈ x.1.weights Try.prog 24, k ≤ reachBytes) :
    ∃ rows width a1 n1 c1 st a2 n2 c2 cols, cs = [.int .i64 rows, .int .i64 width, .slice a1 n1 c1, .slice a2 n2 c2] ∧ PatZ W a1 n1 c1 st a2 n2 c2 cols := by
  obtain ⟨y0, y1, y2, y3, k, rfl, hl, h0, h1, h2, h3⟩ := trod_s4 Try.underlying24 h
  rw [law_cellsP] at hl
  match cs, hl with
  | [c0, c1, c2, c3], _ =>
    simp only [List.drop_zero, List.drop_succ_cons, law_cellsI, law_cellsIs, List.take_succ_cons, List.take_zero] at h0 h1 h2 h3
    obtain ⟨r, e0, _⟩ := DataW.trod_int Try.underlying3 h0
    obtain ⟨wd, e1, _⟩ := DataW.trod_int Try.underlying3 h1
    obtain ⟨a1, n1, d1, st, e2, k1, k2⟩ := trod_intsZ h2 (fun k hk => hz k (by simp [DataW.weights, DataW.weightsEach, Try.underlying24, hk]))
    obtain ⟨a2, n2, d2, cols, e3, k3, k4⟩ := trod_intsZ h3 (fun k hk => hz k (by simp [DataW.weights, DataW.weightsEach, Try.underlying24, hk]))
    cases e0
    cases e1
    cases e2
    cases e3
    exact ⟨r, wd, a1, n1, d1, st, a2, n2, d2, cols, rfl, ⟨k1, k3, k2, k4⟩⟩
set_option maxRecDepth 100000 in
theorem arg_patZ {H : Type} {enc : TypeId × Value → H} {W : World} {v : Value} {d : DataW H} {p : List MemPlace} {r : Reach} {b0 : Nat}
    (hv : Value.okWide Try.prog W r b0 24 v) (h : DataW.Trod enc Try.prog W 0 (fun _ => true) true 24 v d p) (hz : ∀ k ∈ d.weights Try.prog 24, k ≤ reachBytes) :
    ∃ rows width a1 n1 c1 st a2 n2 c2 cols, v = patV rows width a1 n1 c1 a2 n2 c2 ∧ PatZ W a1 n1 c1 st a2 n2 c2 cols := by
  obtain ⟨cs, rfl, hsz⟩ := okWide_struct Try.underlying24 hv
  obtain ⟨fuel, hf⟩ := h
  obtain ⟨rows, width, a1, n1, c1, st, a2, n2, c2, cols, e, k⟩ := trod_patZ hf hz
  have hcs : (Value.agg cs).cells.toList = cs.toList := by simp [Value.cells]
  rw [hcs] at e
  refine ⟨rows, width, a1, n1, c1, st, a2, n2, c2, cols, ?_, k⟩
  unfold patV
  congr 1
  apply Array.ext'
  simpa using e
end Go.Proofs.Ytgonfjigcplbnaa
