/-
  ORDERS: sloperef11.Degeneracy: contract.
-/
import Derived.Test.YtpmafjofkmefeaaCr2
import Derived.Test.YtpmafjofkmefeaaCq6
namespace Go.Proofs.Ytpmafjofkmefeaa
open Go.RowKit Go.Deep
set_option linter.unusedVariables false

/-- A vertex lies in a set in which each has k neighbours. -/
def InK (R : Nat) (st cols : List Int) (k v : Nat) : Prop := ∃ T, StB R st cols k T ∧ T v = true
/-- The greatest k below K, from 1 on, for which it does. -/
noncomputable def clF (R : Nat) (st cols : List Int) : Nat → Nat → Nat
  | 0, _ => 0
  | K + 1, v => if tb (1 ≤ K ∧ InK R st cols K v) = true then K else clF R st cols K v
/-- .. and for which some vertex does. -/
noncomputable def mdF (R : Nat) (st cols : List Int) : Nat → Nat
  | 0 => 0
  | K + 1 => if tb (1 ≤ K ∧ ∃ v, v < R ∧ InK R st cols K v) = true then K else mdF R st cols K
theorem core_in {R : Nat} {st cols : List Int} {k : Nat} {lf : Nat → Bool} (h1 : StB R st cols k lf) (h2 : MxB R st cols k lf) {v : Nat} (hv : v < R) : lf v = true ↔ InK R st cols k v := ⟨fun e => ⟨lf, h1, e⟩, fun ⟨T, hT, e⟩ => h2 T hT v hv e⟩
/-- The greatest, within k's pass. -/
noncomputable def moI (R : Nat) (st cols : List Int) (k v : Nat) : Nat := if tb (∃ u, u < v ∧ InK R st cols k u) = true then k else mdF R st cols k
/-- The cores, within k's pass. -/
noncomputable def clI (R : Nat) (st cols : List Int) (k v u : Nat) : Nat := if u < v then clF R st cols (k + 1) u else clF R st cols k u
/-- What the document's Degeneracy answers. -/
def WdP (R : Nat) (st cols : List Int) (w w' : World) (e : Ending) : Prop := ∃ g, e = .returned (.tuple #[.int .i64 (mdF R st cols R : Int), .slice (some ⟨g, 0, none⟩) R R, .int .i64 0]) ∧ RoV w' g R (fun v => .int .i64 (clF R st cols R v : Int)) ∧ Below w.heap.size w w'
set_option maxRecDepth 100000 in
set_option maxHeartbeats 8000000 in
/-- sloperef11.Degeneracy of a graph. -/
theorem wodegen_gr (R : Nat) (a1 a2 : Option Addr) (n1 c1 n2 c2 : Nat) (st cols : List Int) (w : World) (h1 : SlI w a1 n1 c1 st) (h2 : SlI w a2 n2 c2 cols) (hb1 : n1 ≤ 17592186044000) (hb2 : n2 ≤ 17592186044000) (hm : MayP (R : Int) (R : Int) st cols) (hg : GraP st cols R R) :
    Calls Try.prog 14 #[patV (R : Int) (R : Int) a1 n1 c1 a2 n2 c2] w fun e w' => WdP R st cols w w' e := by
  have hR : R ≤ 128 := by have := hm.head.fit; omega
  obtain ⟨wb, hwb⟩ : ∃ x, w.alloc (.cells #[.int .i64 (R : Int), .int .i64 (R : Int), .slice a1 n1 c1, .slice a2 n2 c2] 24) = x := ⟨_, rfl⟩
  have bb : Below w.heap.size w wb := by rw [← hwb]; exact (Below.refl _ _).alloc (Nat.le_refl _) _
  have hT := BoxP.made w #[.int .i64 (R : Int), .int .i64 (R : Int), .slice a1 n1 c1, .slice a2 n2 c2] 24
  rw [hwb] at hT
  have p0 := (hT.all 0 _ rfl).1
  have p1 := (hT.all 1 _ rfl).1
  have p2 := (hT.all 2 _ rfl).1
  have p3 := (hT.all 3 _ rfl).1
  have K1 := hide (wograph_any (R : Int) (R : Int) a1 a2 n1 c1 n2 c2 st cols wb (h1.below bb) (h2.below bb) hb1 hb2 true ⟨fun _ => ⟨R, rfl, rfl, hm, hg⟩, fun _ => rfl⟩)
  have KC := hide (fun (W : World) (b : Below w.heap.size w W) (k : Nat) (hk : k ≤ 128) => wocore_any R k a1 a2 n1 c1 n2 c2 st cols W (h1.below b) (h2.below b) hb1 hb2 hm hk)
  unfold patV at K1 KC
  have HB := hide bb
  have HT := hide hT
  clear hT bb h1 h2 hm hg
  unfold patV
  go_enter Try.func14, Try.ntmps14
  go_wp2_with fail
  refine (unhide K1).mono ?_
  rintro _ w2 ⟨rfl, b2⟩
  have hB2 := (unhide HB).trans (b2.mono (unhide HB).size)
  have hT2 := (unhide HT).below b2
  have hmk := make_intsR R (by omega) w2
  have hRo := RoV.made w2 R 3 (.int .i64 0)
  obtain ⟨wm, hwm⟩ : ∃ x, w2.alloc (.cells (madeCells #[.int .i64 0] R) 3) = x := ⟨_, rfl⟩
  have bm : Below w2.heap.size w2 wm := by rw [← hwm]; exact (Below.refl _ _).alloc (Nat.le_refl _) _
  have hgl : w2.heap.size < wm.heap.size := by rw [← hwm]; simp
  rw [hwm] at hmk hRo
  obtain ⟨g, hg⟩ : ∃ g, w2.heap.size = g := ⟨_, rfl⟩
  rw [hg] at hmk hRo
  have HG := hide (And.intro (show w.heap.size < g by have := hT2.lt; omega) (show g < wm.heap.size by omega))
  have hBm := hB2.trans (bm.mono hB2.size)
  have HBW := hide (fun (W : World) (c : Chg (fun j => j = g) wm W) => (show Below w.heap.size w W from hBm.trans (c.below hBm.size (fun j hj e => by have e' : j = g := e; have := (unhide HG).1; omega))))
  have HT2 := hide (hT2.below bm)
  have HRo := hide hRo
  clear K1 b2 p0 p1 p2 p3 bm hgl hRo hBm hB2
  have p0 := (hT2.all 0 _ rfl).1
  clear hT2
  go_wp2_with fail
  go_loopw [7, 6] (fun kv mv wr => ∃ k : Nat, 1 ≤ k ∧ (k ≤ R ∨ k = 1) ∧ kv = .int .i64 (k : Int) ∧ mv = .int .i64 (mdF R st cols k : Int) ∧ Hid (RoV wr g R (fun u => .int .i64 (clF R st cols k u : Int))) ∧ Hid (Chg (fun j => j = g) wm wr)) (fun kv _ _ => R + 1 - (intOf kv).toNat)
  case atStart => exact ⟨1, Nat.le_refl _, .inr rfl, rfl, by simp only [mdF]; rw [tb_no (fun h => absurd h.1 (by omega))]; rfl, hide ((unhide HRo).congr (fun u hu => by simp only [clF]; rw [tb_no (fun h => absurd h.1 (by omega))]; rfl)), hide (Chg.refl _ _)⟩
  case round =>
    obtain ⟨k, hk1, hk2, rfl, rfl, HL, HC⟩ := hrel
    clear hmk p0
    have hTr := (unhide HT2).chg (unhide HC) (show ¬ w.heap.size = g by have := (unhide HG).1; omega)
    have q0 := (hTr.all 0 _ rfl).1
    by_cases hlt : k < R
    · have hlt' : (k : Int) < (R : Int) := by omega
      have q1 := (hTr.all 1 _ rfl).1
      have q2 := (hTr.all 2 _ rfl).1
      have q3 := (hTr.all 3 _ rfl).1
      have K2 := hide (unhide KC wr (unhide HBW wr (unhide HC)) k (by omega))
      have hgw : g < wr.heap.size := Nat.lt_of_lt_of_le (unhide HG).2 (unhide HC).size
      obtain ⟨md, hmd⟩ : ∃ md, mdF R st cols k = md := ⟨_, rfl⟩
      rw [hmd]
      have HMD := hide hmd
      clear hTr hmd
      go_wp2_with fail
      refine (unhide K2).mono ?_
      rintro _ w4 ⟨gi, lf, hgi, rfl, hri, hS1, hS2, b4⟩
      have HL4 := hide (show RoV w4 g R (fun u => .int .i64 (clI R st cols k 0 u : Int)) from ((unhide HL).below b4).congr (fun u hu => by unfold clI; rw [if_neg (by omega)]))
      have HC4 := hide ((unhide HC).trans (Chg.of_below b4))
      have HCI := hide (fun v (hv : v < R) => core_in hS1 hS2 hv)
      have hne : gi ≠ g := by omega
      have HI := hide (And.intro hri hne)
      have HMI := hide (show moI R st cols k 0 = md from by unfold moI; rw [tb_no (fun ⟨u, hu, _⟩ => absurd hu (Nat.not_lt_zero u)), ← unhide HMD]; rfl)
      clear K2 hri hS1 hS2 b4 hgi q0 q1 q2 q3 hne HL HC
      go_wp2_with fail
      go_loopw [9, 6] (fun vv mv wq => ∃ v : Nat, v ≤ R ∧ vv = .int .i64 (v : Int) ∧ mv = .int .i64 (moI R st cols k v : Int) ∧ Hid (RoV wq g R (fun u => .int .i64 (clI R st cols k v u : Int))) ∧ Hid (Chg (fun j => j = g) w4 wq)) (fun vv _ _ => R - (intOf vv).toNat)
      case atStart => exact ⟨0, Nat.zero_le _, rfl, by rw [unhide HMI], HL4, hide (Chg.refl _ _)⟩
      case round =>
        obtain ⟨v, hv, rfl, rfl, HL, HC⟩ := hrel
        have hTr := (unhide HT2).chg ((unhide HC4).trans (unhide HC)) (show ¬ w.heap.size = g by have := (unhide HG).1; omega)
        have q0 := (hTr.all 0 _ rfl).1
        clear hTr
        by_cases hvl : v < R
        · have hvl' : (v : Int) < (R : Int) := by omega
          have hri := (unhide HI).1.chg (unhide HC) (unhide HI).2
          have si := (hri v hvl).1
          obtain ⟨t, ht⟩ : ∃ t, lf v = t := ⟨_, rfl⟩
          simp only [ht] at si
          have hin := unhide HCI v hvl
          rw [ht] at hin
          have HIN := hide hin
          obtain ⟨m0, hm0⟩ : ∃ m0, moI R st cols k v = m0 := ⟨_, rfl⟩
          rw [hm0]
          have HM0 := hide hm0
          clear hri ht hin hm0
          cases t
          · have HL2 := hide ((unhide HL).congr (g := fun u => .int .i64 (clI R st cols k (v + 1) u : Int)) (fun u hu => by
              unfold clI
              by_cases e : u < v
              · rw [if_pos e, if_pos (by omega)]
              · rw [if_neg e]
                by_cases e2 : u = v
                · subst e2
                  rw [if_pos (by omega)]
                  simp only [clF]
                  rw [tb_no (fun h => by have := Iff.mpr (unhide HIN) h.2; cases this)]
                  rfl
                · rw [if_neg (by omega)]))
            have HM2 := hide (show moI R st cols k (v + 1) = m0 from by
              rw [← unhide HM0]
              unfold moI
              rw [tb_congr (show (∃ u, u < v + 1 ∧ InK R st cols k u) ↔ (∃ u, u < v ∧ InK R st cols k u) from ⟨fun ⟨u, h1, h2⟩ => ⟨u, by
                by_cases e : u = v
                · subst e
                  have := Iff.mpr (unhide HIN) h2
                  cases this
                · omega, h2⟩, fun ⟨u, h1, h2⟩ => ⟨u, by omega, h2⟩⟩)])
            go_wp2_with fail
            exact ⟨⟨v + 1, by omega, by (first | rfl | go_num), by rw [unhide HM2], HL2, HC⟩, by simp [intOf]; omega⟩
          · have l0 := (unhide HL v hvl).1
            have l1 := (unhide HL v hvl).2
            have hInV : InK R st cols k v := Iff.mp (unhide HIN) rfl
            have HL2 := hide (show RoV (wr.setCell ⟨g, v, none⟩ (.int .i64 (k : Int))) g R (fun u => .int .i64 (clI R st cols k (v + 1) u : Int)) from ((unhide HL).put v _ hvl).congr (fun u hu => by
              unfold clI
              by_cases e2 : u = v
              · subst e2
                rw [if_pos rfl, if_pos (by omega)]
                simp only [clF]
                rw [tb_yes ⟨hk1, hInV⟩]
                rfl
              · rw [if_neg e2]
                by_cases e : u < v
                · rw [if_pos e, if_pos (by omega)]
                · rw [if_neg e, if_neg (by omega)]))
            have HC2 := hide ((unhide HC).trans (Chg.of_set (S := fun j => j = g) wr g v (.int .i64 (k : Int)) rfl))
            have HM2 := hide (show moI R st cols k (v + 1) = k from by unfold moI; rw [tb_yes ⟨v, by omega, hInV⟩]; rfl)
            clear hInV
            go_wp2_with fail
            exact ⟨⟨v + 1, by omega, by (first | rfl | go_num), by rw [unhide HM2], HL2, HC2⟩, by simp [intOf]; omega⟩
        · obtain rfl : v = R := by omega
          have hvl' : ¬ (v : Int) < (v : Int) := by omega
          have HL2 := hide ((unhide HL).congr (g := fun u => .int .i64 (clF v st cols (k + 1) u : Int)) (fun u hu => by unfold clI; rw [if_pos hu]))
          have HM2 := hide (show moI v st cols k v = mdF v st cols (k + 1) from by
            unfold moI
            simp only [mdF]
            rw [tb_congr (show (1 ≤ k ∧ ∃ u, u < v ∧ InK v st cols k u) ↔ (∃ u, u < v ∧ InK v st cols k u) from ⟨fun h => h.2, fun h => ⟨hk1, h⟩⟩)])
          have HC2 := hide ((unhide HC4).trans (unhide HC))
          rw [unhide HM2]
          go_wp2_with fail
          exact ⟨⟨k + 1, by omega, by omega, by (first | rfl | go_num), rfl, HL2, HC2⟩, by simp [intOf]; omega⟩
    · have hlt' : ¬ (k : Int) < (R : Int) := by omega
      have HE := hide (show mdF R st cols k = mdF R st cols R ∧ ∀ u, u < R → clF R st cols k u = clF R st cols R u from by
        by_cases e : k = R
        · subst e; exact ⟨rfl, fun _ _ => rfl⟩
        · have e1 : k = 1 := by omega
          have e2 : R = 0 := by omega
          subst e1 e2
          exact ⟨by simp only [mdF]; rw [tb_no (fun h => absurd h.1 (by omega))]; rfl, fun u hu => absurd hu (Nat.not_lt_zero u)⟩)
      rw [(unhide HE).1]
      have HL2 := hide ((unhide HL).congr (g := fun u => .int .i64 (clF R st cols R u : Int)) (fun u hu => by rw [(unhide HE).2 u hu]))
      clear hTr
      go_wp2_with fail
      refine bodyPost_ret (by simp [results, Try.results14, go_sem]; try rfl) rfl ?_
      exact ⟨g, rfl, unhide HL2, unhide HBW wr (unhide HC)⟩
end Go.Proofs.Ytpmafjofkmefeaa
