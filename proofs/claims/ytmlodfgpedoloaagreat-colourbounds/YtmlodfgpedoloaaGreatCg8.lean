/-
  GRAPHS: a variable of all pairs: its zero value.
-/
import Derived.Test.YtmlodfgpedoloaaGreatCg5
namespace Go.Proofs.YtmlodfgpedoloaaGreat
open Go.RowKit Go.Deep
set_option linter.unusedVariables false

def fz0 : List Value := [.bool false, .bool false, .bool false, .bool false, .bool false, .bool false, .bool false, .bool false, .bool false, .bool false, .bool false, .bool false, .bool false, .bool false, .bool false, .bool false, .bool false, .bool false, .bool false, .bool false, .bool false, .bool false, .bool false, .bool false, .bool false, .bool false, .bool false, .bool false, .bool false, .bool false, .bool false, .bool false, .bool false, .bool false, .bool false, .bool false, .bool false, .bool false, .bool false, .bool false, .bool false, .bool false, .bool false, .bool false, .bool false, .bool false, .bool false, .bool false, .bool false, .bool false, .bool false, .bool false, .bool false, .bool false, .bool false, .bool false, .bool false, .bool false, .bool false, .bool false, .bool false, .bool false, .bool false, .bool false]
def fz1 : List Value := fz0.append fz0
def fz2 : List Value := fz1.append fz1
def fz3 : List Value := fz2.append fz2
def fz4 : List Value := fz3.append fz3
def fz5 : List Value := fz4.append fz4
def fz6 : List Value := fz5.append fz5
def fz7 : List Value := fz6.append fz6
def fz8 : List Value := fz7.append fz7
theorem fz_two {l : List Value} {n m : Nat} (h : l = List.replicate n (.bool false)) (hm : n + n = m) : l.append l = List.replicate m (.bool false) := by
  subst h hm
  exact List.replicate_append_replicate
theorem fz0_is : fz0 = List.replicate 64 (.bool false) := rfl
theorem fz1_is : fz1 = List.replicate 128 (.bool false) := fz_two fz0_is rfl
theorem fz2_is : fz2 = List.replicate 256 (.bool false) := fz_two fz1_is rfl
theorem fz3_is : fz3 = List.replicate 512 (.bool false) := fz_two fz2_is rfl
theorem fz4_is : fz4 = List.replicate 1024 (.bool false) := fz_two fz3_is rfl
theorem fz5_is : fz5 = List.replicate 2048 (.bool false) := fz_two fz4_is rfl
theorem fz6_is : fz6 = List.replicate 4096 (.bool false) := fz_two fz5_is rfl
theorem fz7_is : fz7 = List.replicate 8192 (.bool false) := fz_two fz6_is rfl
theorem fz8_is : fz8 = List.replicate 16384 (.bool false) := fz_two fz7_is rfl
theorem zc_pairs : Tryz.zeroCells181 = fz8.toArray := by kernel_rfl
theorem rep_at (l : List Value) (n i : Nat) (v : Value) (h : l = List.replicate n v) (hi : i < n) : l.toArray[i]? = some v := by subst h; simp [hi]
theorem RoV.pairs (w : World) : RoV (w.alloc (.cells Tryz.zeroCells181 181)) w.heap.size 16384 (fun _ => .bool false) := by
  intro i hi
  have hq : Tryz.zeroCells181[i]? = some (.bool false) := by rw [zc_pairs]; exact rep_at _ _ _ _ fz8_is hi
  exact ⟨by simp [hq], by simp⟩
end Go.Proofs.YtmlodfgpedoloaaGreat

namespace Go.Proofs.YtmlodfgpedoloaaGreat
open Go.RowKit Go.Deep
set_option linter.unusedVariables false

/-- A list of lists, as it lies. -/
def LsI (w : World) (L m : Nat) (ls : Nat → List Int) : Prop := ∀ i, i < m → ∃ a n c, w.cell? ⟨L, i, none⟩ = some (.slice a n c) ∧ SlI w a n c (ls i) ∧ n ≤ 17592186044416
/-- Two things meet in one of the first k lists. -/
def MtP (ls : Nat → List Int) (k x : Nat) : Prop := ∃ i, i < k ∧ MeP (ls i) (ls i).length 0 x
set_option maxRecDepth 100000 in
set_option maxHeartbeats 16000000 in
/-- colour.meeting. -/
theorem cmeeting_any (L m n : Nat) (ls : Nat → List Int) (P : Nat → Nat → Prop) (w : World) (hm : m ≤ 128) (hn : n ≤ 128) (hL : LsI w L m ls) (hx : ∀ i, i < m → ∀ j, j < (ls i).length → 0 ≤ (ls i).getD j 0 ∧ (ls i).getD j 0 < 128) (hP : ∀ u v, u < n → v < n → ((MtP ls m (u * 128 + v) ∧ u ≠ v) ↔ P u v)) :
    Calls Tryz.prog 84 #[.slice (some ⟨L, 0, none⟩) m m, .int .i64 (n : Int)] w fun e w' => GpP w w' e n (grS P n n) (grC P n n) := by
  have hO0 := BoxP.made w #[.int .i64 0, .int .i64 0, .slice none 0 0, .slice none 0 0] 25
  obtain ⟨wo, hwo⟩ : ∃ x, w.alloc (.cells #[.int .i64 0, .int .i64 0, .slice none 0 0, .slice none 0 0] 25) = x := ⟨_, rfl⟩
  have bo : Below w.heap.size w wo := by rw [← hwo]; exact (Below.refl _ _).alloc (Nat.le_refl _) _
  rw [hwo] at hO0
  have hS0 := RoV.pairs wo
  obtain ⟨ws, hws⟩ : ∃ x, wo.alloc (.cells Tryz.zeroCells181 181) = x := ⟨_, rfl⟩
  have bs : Below wo.heap.size wo ws := by rw [← hws]; exact (Below.refl _ _).alloc (Nat.le_refl _) _
  rw [hws] at hS0
  have bws := bo.trans (bs.mono bo.size)
  have hO1 := hO0.below bs
  have HO := hide hO1
  have HLt := hide (show w.heap.size < wo.heap.size from hO0.lt)
  have HB := hide bws
  have HLs := hide hL
  have HX := hide hx
  have HP := hide hP
  have HS := hide hS0
  clear hO0 bo bs bws hO1 hL hx hP hS0
  go_enter Tryz.func84, Tryz.ntmps84
  go_wp2_with fail
  go_loopw [10, 7] (fun kv _ wr => ∃ k : Nat, k ≤ m ∧ kv = .int .i64 (k : Int) ∧ Hid (PrS ws wr wo.heap.size (MtP ls k))) (fun kv _ _ => m - (intOf kv).toNat)
  case atStart =>
    refine ⟨0, Nat.zero_le _, rfl, hide ⟨(unhide HS).congr (fun i hi => ?_), Chg.refl _ _⟩⟩
    rw [tb_no (show ¬ MtP ls 0 i from fun ⟨_, h, _⟩ => absurd h (Nat.not_lt_zero _))]
  case round =>
    obtain ⟨k, hk, rfl, HK⟩ := hrel
    by_cases hlt : k < m
    · have hlt' : (k : Int) < (m : Int) := by omega
      obtain ⟨a, q, c, hcell, hsl, hq⟩ := unhide HLs k hlt
      have hLl := World.block_lt_of_cell? _ _ hcell
      have cw : Chg (fun j => j = wo.heap.size) w wr := (Chg.of_below (unhide HB)).trans (unhide HK).chg
      have hsz := unhide HLt
      have hc1 := cw.cell (show ¬ L = wo.heap.size by simp at hLl; omega) hcell
      have hne : ∀ z, a = some z → ls k ≠ [] → z.block ≠ wo.heap.size := fun z e1 e2 => by have := hsl.block_lt e2 z e1; omega
      have KM := hide (pmeet_any wo.heap.size a q c (ls k) (MtP ls k) wr (hsl.chg cw (fun z e1 e2 => hne z e1 e2)) hq (fun i hi => unhide HX k hlt i (by rw [hsl.len]; exact hi)) hne (unhide HK).row)
      have HQ := hide hsl.len
      clear hcell hsl hLl cw hne hsz
      go_wp2_with fail
      refine (unhide KM).mono ?_
      rintro _ wk ⟨⟨v, rfl⟩, hpr⟩
      have HN := hide (show PrS ws wk wo.heap.size (MtP ls (k + 1)) from ⟨hpr.row.congr (fun i hi => by
        rw [tb_congr (show (MtP ls k i ∨ MeP (ls k) q 0 i) ↔ MtP ls (k + 1) i from ⟨fun z => z.elim (fun ⟨j, h, e⟩ => ⟨j, by omega, e⟩) (fun e => ⟨k, by omega, by rw [unhide HQ]; exact e⟩), fun ⟨j, h, e⟩ => by
          by_cases e2 : j = k
          · subst e2
            rw [unhide HQ] at e
            exact .inr e
          · exact .inl ⟨j, by omega, e⟩⟩)]), (unhide HK).chg.trans hpr.chg⟩)
      clear hpr KM hc1
      go_wp2_with fail
      exact ⟨⟨k + 1, by omega, by (first | rfl | go_num), HN⟩, by simp [intOf]; omega⟩
    · obtain rfl : k = m := by omega
      have hlt' : ¬ (k : Int) < (k : Int) := by omega
      have cw : Chg (fun j => j = wo.heap.size) w wr := (Chg.of_below (unhide HB)).trans (unhide HK).chg
      have KG := hide (pgraph_any n wo.heap.size (fun x => tb (MtP ls k x)) P wr hn (unhide HK).row (fun u v hu hv => by rw [tb_iff]; exact unhide HP u v hu hv))
      have hsz := unhide HLt
      have HOr := hide ((unhide HO).chg (unhide HK).chg (show ¬ w.heap.size = wo.heap.size by omega))
      have HCw := hide cw
      clear cw hsz
      go_wp2_with fail
      refine (unhide KG).mono ?_
      rintro _ wk ⟨b1, d1, b2, d2, rfl, g1, g2, bk, f1, f2⟩
      have hOk := (unhide HOr).below bk
      have q0 := (hOk.all 0 _ rfl).1
      have q1 := (hOk.all 1 _ rfl).1
      have q2 := (hOk.all 2 _ rfl).1
      have q3 := (hOk.all 3 _ rfl).1
      have r0 := (hOk.all 0 _ rfl).2
      have r1 := (hOk.all 1 _ rfl).2
      have r2 := (hOk.all 2 _ rfl).2
      have r3 := (hOk.all 3 _ rfl).2
      have HOk := hide hOk
      have HG := hide (And.intro g1 g2)
      have HBK := hide bk
      have HFr := hide (And.intro f1 f2)
      clear hOk g1 g2 bk KG f1 f2
      go_wp2_with fail
      have hf := ((((unhide HOk).put 0 (.int .i64 (n : Int))).put 1 (.int .i64 (n : Int))).put 2 (.slice b1 (grS P n n).length d1)).put 3 (.slice b2 (grC P n n).length d2)
      have t0 := (hf.all 0 _ rfl).1
      have t1 := (hf.all 1 _ rfl).1
      have t2 := (hf.all 2 _ rfl).1
      have t3 := (hf.all 3 _ rfl).1
      have cc : Chg (fun j => j = w.heap.size) wk ((((wk.setCell ⟨w.heap.size, 0, none⟩ (.int .i64 (n : Int))).setCell ⟨w.heap.size, 1, none⟩ (.int .i64 (n : Int))).setCell ⟨w.heap.size, 2, none⟩ (.slice b1 (grS P n n).length d1)).setCell ⟨w.heap.size, 3, none⟩ (.slice b2 (grC P n n).length d2)) := (((Chg.of_set (S := fun j => j = w.heap.size) _ _ _ _ rfl).trans (Chg.of_set (S := fun j => j = w.heap.size) _ _ _ _ rfl)).trans (Chg.of_set (S := fun j => j = w.heap.size) _ _ _ _ rfl)).trans (Chg.of_set (S := fun j => j = w.heap.size) _ _ _ _ rfl)
      generalize (((wk.setCell ⟨w.heap.size, 0, none⟩ (.int .i64 (n : Int))).setCell ⟨w.heap.size, 1, none⟩ (.int .i64 (n : Int))).setCell ⟨w.heap.size, 2, none⟩ (.slice b1 (grS P n n).length d1)).setCell ⟨w.heap.size, 3, none⟩ (.slice b2 (grC P n n).length d2) = wf at *
      refine bodyPost_ret (by simp [results, Tryz.results84, go_sem, t0, t1, t2, t3]; try rfl) rfl ?_
      have hwr : w.heap.size < wr.heap.size := (unhide HOr).lt
      have h9 := unhide HLt
      refine ⟨b1, d1, b2, d2, rfl, (unhide HG).1.chg cc (fun z hz _ e => ?_), (unhide HG).2.chg cc (fun z hz _ e => ?_), ?_, fun z hz => ?_, fun z hz => ?_⟩
      · have := (unhide HFr).1 z hz; omega
      · have := (unhide HFr).2 z hz; omega
      · exact (((unhide HCw).below (Nat.le_refl _) (fun j hj e => by omega)).trans ((unhide HBK).mono (unhide HCw).size)).trans (cc.below (Nat.le_trans (unhide HCw).size (unhide HBK).size) (fun j hj e => by omega))
      · have := (unhide HFr).1 z hz; omega
      · have := (unhide HFr).2 z hz; omega
end Go.Proofs.YtmlodfgpedoloaaGreat

namespace Go.Proofs.YtmlodfgpedoloaaGreat
open Go.RowKit Go.Deep
set_option linter.unusedVariables false

/-- A row's columns. -/
def rowL (st cols : List Int) (i : Nat) : List Int := (cols.drop (st.getD i 0).toNat).take ((st.getD (i + 1) 0).toNat - (st.getD i 0).toNat)
/-- Neighbours and those that have one in common, of the first k rows. -/
def NrP (st cols : List Int) (k x : Nat) : Prop := ∃ i, i < k ∧ (MeP (rowL st cols i) (rowL st cols i).length 0 x ∨ ∃ t, t < (rowL st cols i).length ∧ (i : Int) * 128 + (rowL st cols i).getD t 0 = (x : Int))
end Go.Proofs.YtmlodfgpedoloaaGreat
