/- Ch3 -/
import Derived.Test.YtgjokididdffhaaGreatCg5
import Derived.Lib.MinMax
namespace Go.Proofs.YtgjokididdffhaaGreat
open Go.RowKit Go.Deep
set_option linter.unusedVariables false
structure MaxTo (xs : List Int) (k : Nat) (v : Int) : Prop where
  at_ : ∃ i, i < k ∧ xs.getD i 0 = v
  le : ∀ i, i < k → xs.getD i 0 ≤ v
theorem MaxTo.next {xs : List Int} {k : Nat} {v x : Int} (h : MaxTo xs k v) (hx : xs.getD k 0 = x) : MaxTo xs (k + 1) (max v x) := by
  obtain ⟨i, hi, he⟩ := h.at_
  refine ⟨?_, fun j hj => ?_⟩
  · by_cases c : v ≤ x
    · exact ⟨k, by omega, by rw [hx]; omega⟩
    · exact ⟨i, by omega, by rw [he]; omega⟩
  · by_cases e : j = k
    · subst e; rw [hx]; omega
    · have := h.le j (by omega); omega
theorem MaxTo.one {xs : List Int} {k : Nat} {v u : Int} (h : MaxTo xs k v) (g : MaxTo xs k u) : v = u := by
  obtain ⟨i, hi, he⟩ := h.at_
  obtain ⟨j, hj, hf⟩ := g.at_
  have := h.le j hj
  have := g.le i hi
  omega
set_option maxRecDepth 20000 in
set_option maxHeartbeats 8000000 in
theorem smax_any (a : Option Addr) (n c : Nat) (xs : List Int) (w : World) (h : SlI w a n c xs) (hn : n ≤ 1000000) (h0 : 0 < n) :
    Calls Tryz.prog 72 #[.slice a n c] w fun e w' => ∃ v : Int, e = .returned (.int .i64 v) ∧ MaxTo xs n v ∧ Below w.heap.size w w' := by
  have HS := hide h
  obtain ⟨b, off, rfl, hc⟩ := h.at (by omega)
  have s0 := hc 0 h0
  rw [Nat.add_zero] at s0
  obtain ⟨x, hx⟩ : ∃ x, xs.getD 0 0 = x := ⟨_, rfl⟩
  rw [hx] at s0
  have HX := hide hx
  have hn1 : ¬ (n : Int) < 1 := by omega
  have hn2 : (0 : Int) < (n : Int) := by omega
  clear h hc hx
  go_enter Tryz.func72, Tryz.ntmps72
  go_wp2_with fail
  go_loopw [3, 4] (fun mv iv wr => ∃ (u : Int) (k : Nat), 1 ≤ k ∧ k ≤ n ∧ mv = .int .i64 u ∧ iv = .int .i64 (k : Int) ∧ Hid (MaxTo xs k u) ∧ Hid (Below w.heap.size w wr)) (fun _ iv _ => n - (intOf iv).toNat)
  case atStart => exact ⟨x, 1, Nat.le_refl _, by omega, rfl, rfl, hide ⟨⟨0, by omega, unhide HX⟩, fun i hi => by rw [show i = 0 by omega, unhide HX]; exact Int.le_refl _⟩, hide (Below.refl _ _)⟩
  case round =>
    obtain ⟨u, k, hk1, hk, rfl, rfl, HM, HW⟩ := hrel
    clear s0
    by_cases hlt : k < n
    · have hlt' : (k : Int) < (n : Int) := by omega
      obtain ⟨b', off', e1, hc⟩ := ((unhide HS).below (unhide HW)).at (by omega)
      cases e1
      have sk := hc k hlt
      obtain ⟨y, hy⟩ : ∃ y, xs.getD k 0 = y := ⟨_, rfl⟩
      rw [hy] at sk
      have HN := hide ((unhide HM).next hy)
      obtain ⟨z, hz⟩ : ∃ z, max u y = z := ⟨_, rfl⟩
      rw [hz] at HN
      clear hc hy
      go_wp2_with fail
      exact ⟨⟨z, k + 1, by omega, by omega, by (first | rfl | simp [hz]), by (first | rfl | go_num), HN, HW⟩, by simp [intOf]; omega⟩
    · obtain rfl : k = n := by omega
      have hlt' : ¬ (k : Int) < (k : Int) := by omega
      go_wp2_with fail
      try go_ret
      exact ⟨u, rfl, unhide HM, unhide HW⟩
theorem wrap_i64n (x : Int) : IntKind.i64.wrap x = (x + 9223372036854775808) % 18446744073709551616 - 9223372036854775808 := by
  simp [IntKind.wrap, IntKind.bits, IntKind.signed]
  split <;> omega
def NumC (cs : List Int) (z : Int) : Prop := MaxTo (-1 :: cs) (cs.length + 1) (z - 1)
set_option maxRecDepth 20000 in
set_option maxHeartbeats 8000000 in
theorem cnumber_any (a : Option Addr) (n c : Nat) (cs : List Int) (w : World) (h : SlI w a n c cs) (hn : n ≤ 128) (hr : ∀ i, i < n → cs.getD i 0 ≤ 65536) (hnil : a = none → c = 0) :
    Calls Tryz.prog 42 #[.slice a n c] w fun e w' => ∃ z : Int, e = .returned (.int .i64 z) ∧ NumC cs z ∧ Below w.heap.size w w' := by
  have HS := hide h
  obtain ⟨i64, hi, hz, hs, hb⟩ := info_parts Tryz.info_i64
  have HI := hide (And.intro hi (And.intro hz (And.intro hs hb)))
  have hlc := h.len
  have HV := hide (show ∀ v, MaxTo (-1 :: cs) (cs.length + 1) v → -1 ≤ v ∧ v ≤ 65536 from fun v hv => by
    refine ⟨by have := hv.le 0 (by omega); simpa using this, ?_⟩
    obtain ⟨i, hi, he⟩ := hv.at_
    cases i with
    | zero => simp at he; omega
    | succ i =>
      rw [List.getD_cons_succ] at he
      have := hr i (by omega)
      omega)
  obtain ⟨wa, hwa⟩ : ∃ x, w.alloc (.cells #[.int .i64 (-1)] 3) = x := ⟨_, rfl⟩
  have ba : Below w.heap.size w wa := by rw [← hwa]; exact (Below.refl _ _).alloc (Nat.le_refl _) _
  have hblk : wa.heap[w.heap.size]? = some (.cells #[.int .i64 (-1)] 3 (0, 0)) := by rw [← hwa]; exact alloc_block _ _
  have HOW := hide (show wa.ownsRow w.heap.size 3 1 (.slice (some ⟨w.heap.size, 0, none⟩) 1 1) 1 [.int .i64 (-1)] from ⟨rfl, .inr ⟨w.heap.size, 1, #[.int .i64 (-1)], rfl, Nat.le_refl _, hblk, Nat.le_refl _, by decide, rfl, rfl⟩⟩)
  have HBA := hide ba
  have HLC := hide hlc
  by_cases hn0 : n = 0
  · subst hn0
    have hcs : cs = [] := List.eq_nil_of_length_eq_zero hlc
    have KM := hide (smax_any (some ⟨w.heap.size, 0, none⟩) 1 1 [-1] wa ((own_slI (xs := [-1]) (unhide HOW)).elim (fun a h => h.elim (fun c h => by have e := h.1; injection e with e1 e2 e3; subst e1 e3; exact h.2))) (by omega) (by omega))
    clear h hr hi hz hs hb hblk ba hlc
    have HNN := hide (show a = none → 0 = 0 ∧ c = 0 from fun e => ⟨rfl, hnil e⟩)
    have HCC := hide (show ∀ ad, a = some ad → ∀ j u, ([] : List Value)[j]? = some u → wa.cell? (ad.add j) = some u from fun ad _ j u hj => by simp at hj)
    have HO1 := hide (show ∀ u ∈ ([] : List Value), u.oneCell' = true from fun u hu => by cases hu)
    subst hcs
    clear hnil KM
    go_enter Tryz.func42, Tryz.ntmps42
    go_wp2_with (at_builtin; refine wpList_append_fits_any _ rfl _ _ 23 rfl w.heap.size 3 i64 1 Tryz.underlying23 (unhide HI).1 (unhide HI).2.2.1 w.heap.size 1 1 [.int .i64 (-1)] rfl (unhide HOW) a 0 c [] rfl rfl (unhide HNN) (unhide HCC) (unhide HO1) (by decide) ?_)
    intro w3 hown hg
    have hb3 : Below w.heap.size w w3 := (unhide HBA).grown hg (unhide HBA).size (fun j hj => by injection hj with hj; omega)
    obtain ⟨a4, c4, e4, s4⟩ := own_slI (xs := [-1]) (show w3.ownsRow w.heap.size 3 1 (.slice (some ⟨w.heap.size, 0, none⟩) 1 1) 1 (valsI [-1]) from by simpa [valsI] using hown)
    injection e4 with e5 e6 e7
    subst e5 e7
    have KM := hide (smax_any (some ⟨w.heap.size, 0, none⟩) 1 1 [-1] w3 s4 (by omega) (by omega))
    have HB3 := hide hb3
    clear hown hg hb3 e6 s4
    go_wp2_with fail
    refine (unhide KM).mono ?_
    rintro _ w4 ⟨v, rfl, hv, b4⟩
    have hrg := unhide HV v hv
    have HV2 := hide hv
    have HB4 := hide ((unhide HB3).trans (b4.mono (unhide HB3).size))
    have hw7 : IntKind.i64.wrap (1 + v) = 1 + v := by rw [wrap_i64n]; omega
    clear KM hv b4 hrg
    go_wp2_with fail
    try go_ret
    exact ⟨1 + v, rfl, (show MaxTo _ _ (1 + v - 1) from by rw [show 1 + v - 1 = v by omega]; exact unhide HV2), unhide HB4⟩
  · obtain ⟨b, off, rfl, hc⟩ := (h.below ba).at (by omega)
    have hnews : ∀ j u, (valsI cs)[j]? = some u → wa.cell? ((⟨b, off, none⟩ : Addr).add j) = some u := fun j u hj => by
      obtain ⟨h3, h4⟩ := List.getElem?_eq_some_iff.1 hj
      simp [valsI] at h3 h4
      have e0 : (⟨b, off, none⟩ : Addr).add j = ⟨b, off + j, none⟩ := by unfold Addr.add; split <;> simp_all
      rw [e0, hc j (by omega), ← h4]
      simp [List.getD, h3]
    have HNW := hide hnews
    have HON := hide (show ∀ u ∈ valsI cs, u.oneCell' = true from fun u hu => by simp [valsI] at hu; obtain ⟨x, _, rfl⟩ := hu; rfl)
    have HVL := hide (show (valsI cs).length = n * 1 by simp [valsI]; omega)
    have hmx : 1 + n ≤ maxLen := by unfold maxLen; omega
    have hby : (1 + n) * 8 ≤ 140737488355328 := by omega
    have hpn : 0 < n := by omega
    have hle := ba.size
    clear h hr hi hz hs hb hblk ba hlc hc hnews hn0
    go_enter Tryz.func42, Tryz.ntmps42
    go_wp2_with (at_builtin; refine wpList_append_lies _ rfl _ _ 23 rfl w.heap.size 3 i64 (.int .i64 0) 1 8 Tryz.underlying23 (unhide HI).1 (unhide HI).2.1 (unhide HI).2.2.1 (unhide HI).2.2.2 rfl (by decide) (.slice (some ⟨w.heap.size, 0, none⟩) 1 1) 1 [.int .i64 (-1)] rfl (unhide HOW) ⟨b, off, none⟩ n c (valsI cs) rfl (unhide HVL) (unhide HNW) (unhide HON) hpn hmx hby hle wa.heap.size rfl ?_)
    intro g cap w3 hown hg hat hlt
    have hb3 : Below w.heap.size w w3 := (unhide HBA).grown hg (unhide HBA).size (fun j hj => by simp [Value.ownBlock] at hj; omega)
    obtain ⟨a4, c4, e4, s4⟩ := own_slI (xs := -1 :: cs) (show w3.ownsRow w.heap.size 3 1 (.slice (some ⟨g, 0, none⟩) (1 + n) cap) (1 + n) (valsI (-1 :: cs)) from by simpa [valsI] using hown)
    injection e4 with e5 e6 e7
    subst e5 e7
    have KM := hide (smax_any (some ⟨g, 0, none⟩) (1 + n) cap (-1 :: cs) w3 s4 (by omega) (by omega))
    have HB3 := hide hb3
    clear hown hg hat hlt hb3 e6 s4
    go_wp2_with fail
    refine (unhide KM).mono ?_
    rintro _ w4 ⟨v, rfl, hv, b4⟩
    have hv2 : MaxTo (-1 :: cs) (cs.length + 1) v := by rw [unhide HLC, Nat.add_comm]; exact hv
    have hrg := unhide HV v hv2
    have HV2 := hide hv2
    have HB4 := hide ((unhide HB3).trans (b4.mono (unhide HB3).size))
    have hw7 : IntKind.i64.wrap (1 + v) = 1 + v := by rw [wrap_i64n]; omega
    clear KM hv b4 hv2 hrg
    go_wp2_with fail
    try go_ret
    exact ⟨1 + v, rfl, (show MaxTo _ _ (1 + v - 1) from by rw [show 1 + v - 1 = v by omega]; exact unhide HV2), unhide HB4⟩
def fz0 : List Value := [.bool false, .bool false, .bool false, .bool false, .bool false, .bool false, .bool false, .bool false, .bool false, .bool false, .bool false, .bool false, .bool false, .bool false, .bool false, .bool false, .bool false, .bool false, .bool false, .bool false, .bool false, .bool false, .bool false, .bool false, .bool false, .bool false, .bool false, .bool false, .bool false, .bool false, .bool false, .bool false, .bool false, .bool false, .bool false, .bool false, .bool false, .bool false, .bool false, .bool false, .bool false, .bool false, .bool false, .bool false, .bool false, .bool false, .bool false, .bool false, .bool false, .bool false, .bool false, .bool false, .bool false, .bool false, .bool false, .bool false, .bool false, .bool false, .bool false, .bool false, .bool false, .bool false, .bool false, .bool false]
def fz1 : List Value := fz0.append fz0
def fz2 : List Value := fz1.append fz1
def fz3 : List Value := fz2.append fz2
def fz4 : List Value := fz3.append fz3
def fz5 : List Value := fz4.append fz4
def fz6 : List Value := fz5.append fz5
def fz7 : List Value := fz6.append fz6
def fz8 : List Value := fz7.append fz7
theorem fz_two {l : List Value} {n m : Nat} (h : l = List.replicate n (.bool false)) (hm : n + n = m) : l.append l = List.replicate m (.bool false) := by
  subst h hm
  exact List.replicate_append_replicate
theorem fz0_is : fz0 = List.replicate 64 (.bool false) := rfl
theorem fz1_is : fz1 = List.replicate 128 (.bool false) := fz_two fz0_is rfl
theorem fz2_is : fz2 = List.replicate 256 (.bool false) := fz_two fz1_is rfl
theorem fz3_is : fz3 = List.replicate 512 (.bool false) := fz_two fz2_is rfl
theorem fz4_is : fz4 = List.replicate 1024 (.bool false) := fz_two fz3_is rfl
theorem fz5_is : fz5 = List.replicate 2048 (.bool false) := fz_two fz4_is rfl
theorem fz6_is : fz6 = List.replicate 4096 (.bool false) := fz_two fz5_is rfl
theorem fz7_is : fz7 = List.replicate 8192 (.bool false) := fz_two fz6_is rfl
theorem fz8_is : fz8 = List.replicate 16384 (.bool false) := fz_two fz7_is rfl
theorem zc_pairs : Tryz.zeroCells137 = fz8.toArray := by kernel_rfl
theorem rep_at (l : List Value) (n i : Nat) (v : Value) (h : l = List.replicate n v) (hi : i < n) : l.toArray[i]? = some v := by subst h; simp [hi]
theorem RoV.pairs (w : World) : RoV (w.alloc (.cells Tryz.zeroCells137 137)) w.heap.size 16384 (fun _ => .bool false) := by
  intro i hi
  have hq : Tryz.zeroCells137[i]? = some (.bool false) := by rw [zc_pairs]; exact rep_at _ _ _ _ fz8_is hi
  exact ⟨by simp [hq], by simp⟩
def LsI (w : World) (L m : Nat) (ls : Nat → List Int) : Prop := ∀ i, i < m → ∃ a n c, w.cell? ⟨L, i, none⟩ = some (.slice a n c) ∧ SlI w a n c (ls i) ∧ n ≤ 17592186044416
def MtP (ls : Nat → List Int) (k x : Nat) : Prop := ∃ i, i < k ∧ MeP (ls i) (ls i).length 0 x
set_option maxRecDepth 100000 in
set_option maxHeartbeats 16000000 in
theorem cmeeting_any (L m n : Nat) (ls : Nat → List Int) (P : Nat → Nat → Prop) (w : World) (hm : m ≤ 128) (hn : n ≤ 128) (hL : LsI w L m ls) (hx : ∀ i, i < m → ∀ j, j < (ls i).length → 0 ≤ (ls i).getD j 0 ∧ (ls i).getD j 0 < 128) (hP : ∀ u v, u < n → v < n → ((MtP ls m (u * 128 + v) ∧ u ≠ v) ↔ P u v)) :
    Calls Tryz.prog 123 #[.slice (some ⟨L, 0, none⟩) m m, .int .i64 (n : Int)] w fun e w' => GpP w w' e n (grS P n n) (grC P n n) := by
  have hO0 := BoxP.made w #[.int .i64 0, .int .i64 0, .slice none 0 0, .slice none 0 0] 25
  obtain ⟨wo, hwo⟩ : ∃ x, w.alloc (.cells #[.int .i64 0, .int .i64 0, .slice none 0 0, .slice none 0 0] 25) = x := ⟨_, rfl⟩
  have bo : Below w.heap.size w wo := by rw [← hwo]; exact (Below.refl _ _).alloc (Nat.le_refl _) _
  rw [hwo] at hO0
  have hS0 := RoV.pairs wo
  obtain ⟨ws, hws⟩ : ∃ x, wo.alloc (.cells Tryz.zeroCells137 137) = x := ⟨_, rfl⟩
  have bs : Below wo.heap.size wo ws := by rw [← hws]; exact (Below.refl _ _).alloc (Nat.le_refl _) _
  rw [hws] at hS0
  have bws := bo.trans (bs.mono bo.size)
  have hO1 := hO0.below bs
  have HO := hide hO1
  have HLt := hide (show w.heap.size < wo.heap.size from hO0.lt)
  have HB := hide bws
  have HLs := hide hL
  have HX := hide hx
  have HP := hide hP
  have HS := hide hS0
  clear hO0 bo bs bws hO1 hL hx hP hS0
  go_enter Tryz.func123, Tryz.ntmps123
  go_wp2_with fail
  go_loopw [10, 7] (fun kv _ wr => ∃ k : Nat, k ≤ m ∧ kv = .int .i64 (k : Int) ∧ Hid (PrS ws wr wo.heap.size (MtP ls k))) (fun kv _ _ => m - (intOf kv).toNat)
  case atStart =>
    refine ⟨0, Nat.zero_le _, rfl, hide ⟨(unhide HS).congr (fun i hi => ?_), Chg.refl _ _⟩⟩
    rw [tb_no (show ¬ MtP ls 0 i from fun ⟨_, h, _⟩ => absurd h (Nat.not_lt_zero _))]
  case round =>
    obtain ⟨k, hk, rfl, HK⟩ := hrel
    by_cases hlt : k < m
    · have hlt' : (k : Int) < (m : Int) := by omega
      obtain ⟨a, q, c, hcell, hsl, hq⟩ := unhide HLs k hlt
      have hLl := World.block_lt_of_cell? _ _ hcell
      have cw : Chg (fun j => j = wo.heap.size) w wr := (Chg.of_below (unhide HB)).trans (unhide HK).chg
      have hsz := unhide HLt
      have hc1 := cw.cell (show ¬ L = wo.heap.size by simp at hLl; omega) hcell
      have hne : ∀ z, a = some z → ls k ≠ [] → z.block ≠ wo.heap.size := fun z e1 e2 => by have := hsl.block_lt e2 z e1; omega
      have KM := hide (pmeet_any wo.heap.size a q c (ls k) (MtP ls k) wr (hsl.chg cw (fun z e1 e2 => hne z e1 e2)) hq (fun i hi => unhide HX k hlt i (by rw [hsl.len]; exact hi)) hne (unhide HK).row)
      have HQ := hide hsl.len
      clear hcell hsl hLl cw hne hsz
      go_wp2_with fail
      refine (unhide KM).mono ?_
      rintro _ wk ⟨⟨v, rfl⟩, hpr⟩
      have HN := hide (show PrS ws wk wo.heap.size (MtP ls (k + 1)) from ⟨hpr.row.congr (fun i hi => by
        rw [tb_congr (show (MtP ls k i ∨ MeP (ls k) q 0 i) ↔ MtP ls (k + 1) i from ⟨fun z => z.elim (fun ⟨j, h, e⟩ => ⟨j, by omega, e⟩) (fun e => ⟨k, by omega, by rw [unhide HQ]; exact e⟩), fun ⟨j, h, e⟩ => by
          by_cases e2 : j = k
          · subst e2
            rw [unhide HQ] at e
            exact .inr e
          · exact .inl ⟨j, by omega, e⟩⟩)]), (unhide HK).chg.trans hpr.chg⟩)
      clear hpr KM hc1
      go_wp2_with fail
      exact ⟨⟨k + 1, by omega, by (first | rfl | go_num), HN⟩, by simp [intOf]; omega⟩
    · obtain rfl : k = m := by omega
      have hlt' : ¬ (k : Int) < (k : Int) := by omega
      have cw : Chg (fun j => j = wo.heap.size) w wr := (Chg.of_below (unhide HB)).trans (unhide HK).chg
      have KG := hide (pgraph_any n wo.heap.size (fun x => tb (MtP ls k x)) P wr hn (unhide HK).row (fun u v hu hv => by rw [tb_iff]; exact unhide HP u v hu hv))
      have hsz := unhide HLt
      have HOr := hide ((unhide HO).chg (unhide HK).chg (show ¬ w.heap.size = wo.heap.size by omega))
      have HCw := hide cw
      clear cw hsz
      go_wp2_with fail
      refine (unhide KG).mono ?_
      rintro _ wk ⟨b1, d1, b2, d2, rfl, g1, g2, bk, f1, f2⟩
      have hOk := (unhide HOr).below bk
      have q0 := (hOk.all 0 _ rfl).1
      have q1 := (hOk.all 1 _ rfl).1
      have q2 := (hOk.all 2 _ rfl).1
      have q3 := (hOk.all 3 _ rfl).1
      have r0 := (hOk.all 0 _ rfl).2
      have r1 := (hOk.all 1 _ rfl).2
      have r2 := (hOk.all 2 _ rfl).2
      have r3 := (hOk.all 3 _ rfl).2
      have HOk := hide hOk
      have HG := hide (And.intro g1 g2)
      have HBK := hide bk
      have HFr := hide (And.intro f1 f2)
      clear hOk g1 g2 bk KG f1 f2
      go_wp2_with fail
      have hf := ((((unhide HOk).put 0 (.int .i64 (n : Int))).put 1 (.int .i64 (n : Int))).put 2 (.slice b1 (grS P n n).length d1)).put 3 (.slice b2 (grC P n n).length d2)
      have t0 := (hf.all 0 _ rfl).1
      have t1 := (hf.all 1 _ rfl).1
      have t2 := (hf.all 2 _ rfl).1
      have t3 := (hf.all 3 _ rfl).1
      have cc : Chg (fun j => j = w.heap.size) wk ((((wk.setCell ⟨w.heap.size, 0, none⟩ (.int .i64 (n : Int))).setCell ⟨w.heap.size, 1, none⟩ (.int .i64 (n : Int))).setCell ⟨w.heap.size, 2, none⟩ (.slice b1 (grS P n n).length d1)).setCell ⟨w.heap.size, 3, none⟩ (.slice b2 (grC P n n).length d2)) := (((Chg.of_set (S := fun j => j = w.heap.size) _ _ _ _ rfl).trans (Chg.of_set (S := fun j => j = w.heap.size) _ _ _ _ rfl)).trans (Chg.of_set (S := fun j => j = w.heap.size) _ _ _ _ rfl)).trans (Chg.of_set (S := fun j => j = w.heap.size) _ _ _ _ rfl)
      generalize (((wk.setCell ⟨w.heap.size, 0, none⟩ (.int .i64 (n : Int))).setCell ⟨w.heap.size, 1, none⟩ (.int .i64 (n : Int))).setCell ⟨w.heap.size, 2, none⟩ (.slice b1 (grS P n n).length d1)).setCell ⟨w.heap.size, 3, none⟩ (.slice b2 (grC P n n).length d2) = wf at *
      refine bodyPost_ret (by simp [results, Tryz.results123, go_sem, t0, t1, t2, t3]; try rfl) rfl ?_
      have hwr : w.heap.size < wr.heap.size := (unhide HOr).lt
      have h9 := unhide HLt
      refine ⟨b1, d1, b2, d2, rfl, (unhide HG).1.chg cc (fun z hz _ e => ?_), (unhide HG).2.chg cc (fun z hz _ e => ?_), ?_, fun z hz => ?_, fun z hz => ?_⟩
      · have := (unhide HFr).1 z hz; omega
      · have := (unhide HFr).2 z hz; omega
      · exact (((unhide HCw).below (Nat.le_refl _) (fun j hj e => by omega)).trans ((unhide HBK).mono (unhide HCw).size)).trans (cc.below (Nat.le_trans (unhide HCw).size (unhide HBK).size) (fun j hj e => by omega))
      · have := (unhide HFr).1 z hz; omega
      · have := (unhide HFr).2 z hz; omega
def rowL (st cols : List Int) (i : Nat) : List Int := (cols.drop (st.getD i 0).toNat).take ((st.getD (i + 1) 0).toNat - (st.getD i 0).toNat)
def NrP (st cols : List Int) (k x : Nat) : Prop := ∃ i, i < k ∧ (MeP (rowL st cols i) (rowL st cols i).length 0 x ∨ ∃ t, t < (rowL st cols i).length ∧ (i : Int) * 128 + (rowL st cols i).getD t 0 = (x : Int))
end Go.Proofs.YtgjokididdffhaaGreat
