/- Sp1 -/
import Derived.Test.YtgjokididdffhaaGreatSa2
namespace Go.Proofs.YtgjokididdffhaaGreat
open Go.RowKit Go.Deep
set_option linter.unusedVariables false
def UpS (xs : List Int) (n : Nat) : Prop := ∀ i, 0 < i → i < n → xs.getD (i - 1) 0 < xs.getD i 0
theorem UpS.lt {xs : List Int} {n : Nat} (h : UpS xs n) {i : Nat} : ∀ d, i + d + 1 < n → xs.getD i 0 < xs.getD (i + d + 1) 0
  | 0, hd => by have := h (i + 1) (by omega) (by omega); simpa using this
  | d + 1, hd => by
    have h1 := UpS.lt h d (by omega : i + d + 1 < n)
    have h2 := h (i + (d + 1) + 1) (by omega) hd
    rw [show i + (d + 1) + 1 - 1 = i + d + 1 by omega] at h2
    exact Int.lt_trans h1 h2
theorem UpS.lt' {xs : List Int} {n : Nat} (h : UpS xs n) {i j : Nat} (hij : i < j) (hj : j < n) : xs.getD i 0 < xs.getD j 0 := by
  have := h.lt (i := i) (j - i - 1) (by omega)
  rwa [show i + (j - i - 1) + 1 = j by omega] at this
def HasX (xs : List Int) (n : Nat) (t : Int) : Prop := ∃ k, k < n ∧ xs.getD k 0 = t
structure BsP (xs : List Int) (n : Nat) (t : Int) (i : Nat) : Prop where
  le : i ≤ n
  lo : ∀ k, k < i → xs.getD k 0 < t
  hi : ∀ k, i ≤ k → k < n → t ≤ xs.getD k 0
theorem BsP.has {xs : List Int} {n : Nat} {t : Int} {i : Nat} (h : BsP xs n t i) (hu : UpS xs n) (hl : i < n) : HasX xs n t ↔ xs.getD i 0 = t := by
  constructor
  · rintro ⟨k, hk, e⟩
    rcases Nat.lt_trichotomy k i with c | c | c
    · have := h.lo k c; omega
    · rw [← c]; exact e
    · have h1 := hu.lt' c hk
      have h2 := h.hi i (Nat.le_refl _) hl
      omega
  · intro e
    exact ⟨i, hl, e⟩
theorem BsP.no {xs : List Int} {n : Nat} {t : Int} (h : BsP xs n t n) : ¬ HasX xs n t := by
  rintro ⟨k, hk, e⟩
  have := h.lo k hk
  omega
theorem BsP.ex (xs : List Int) (t : Int) : ∀ n, UpS xs n → ∃ i, BsP xs n t i
  | 0, _ => ⟨0, Nat.le_refl _, fun k hk => absurd hk (Nat.not_lt_zero _), fun k _ hk => absurd hk (Nat.not_lt_zero _)⟩
  | n + 1, hu => by
    obtain ⟨i, h⟩ := BsP.ex xs t n (fun i h1 h2 => hu i h1 (by omega))
    by_cases hl : i < n
    · refine ⟨i, by have := h.le; omega, h.lo, fun k h1 h2 => ?_⟩
      by_cases e : k = n
      · have h3 := hu.lt' (i := i) (j := n) hl (by omega)
        have h4 := h.hi i (Nat.le_refl _) hl
        rw [e]; omega
      · exact h.hi k h1 (by omega)
    · have e : i = n := by have := h.le; omega
      subst e
      by_cases c : xs.getD i 0 < t
      · refine ⟨i + 1, by omega, fun k hk => ?_, fun k h1 h2 => by omega⟩
        by_cases e : k = i
        · rw [e]; exact c
        · exact h.lo k (by omega)
      · refine ⟨i, by omega, h.lo, fun k h1 h2 => ?_⟩
        rw [show k = i by omega]; omega
theorem BsP.one {xs : List Int} {n : Nat} {t : Int} {i j : Nat} (h : BsP xs n t i) (k : BsP xs n t j) : i = j := by
  rcases Nat.lt_trichotomy i j with c | c | c
  · have h1 := h.hi i (Nat.le_refl _) (by have := k.le; omega)
    have h2 := k.lo i c
    omega
  · exact c
  · have h1 := k.hi j (Nat.le_refl _) (by have := h.le; omega)
    have h2 := h.lo j c
    omega
theorem nan_intS (x : Int) (w : World) : Calls Tryz.prog 110 #[.int .i64 x] w fun e w' => e = .returned (.bool false) ∧ w' = w := by
  go_enter Tryz.func110, Tryz.ntmps110
  go_wp2_with fail
  go_ret
  exact ⟨by simp, rfl⟩
set_option maxRecDepth 20000 in
set_option maxHeartbeats 8000000 in
theorem bsearch_any (a : Option Addr) (n c : Nat) (xs : List Int) (t : Int) (w : World) (h : SlI w a n c xs) (hn : n ≤ 140737488355328) (hu : UpS xs n) (ok : Bool) (hok : ok = true ↔ HasX xs n t) :
    Calls Tryz.prog 70 #[.slice a n c, .int .i64 t] w fun e w' => ∃ i : Nat, BsP xs n t i ∧ e = .returned (.tuple #[.int .i64 (i : Int), .bool ok]) ∧ Dr w w' := by
  have HL := hide h.len
  have HS := hide h
  have HU := hide hu
  have HOK := hide hok
  clear h hu hok
  go_enter Tryz.func70, Tryz.ntmps70
  go_wp2_with fail
  go_loopw [7, 8] (fun iv jv wr => ∃ i j : Nat, i ≤ j ∧ j ≤ n ∧ iv = .int .i64 (i : Int) ∧ jv = .int .i64 (j : Int) ∧ Hid (∀ k, k < i → xs.getD k 0 < t) ∧ Hid (∀ k, j ≤ k → k < n → t ≤ xs.getD k 0) ∧ Hid (Dr w wr)) (fun iv jv _ => ((intOf jv) - (intOf iv)).toNat)
  case atStart => exact ⟨0, n, Nat.zero_le _, Nat.le_refl _, rfl, rfl, hide (fun k hk => by omega), hide (fun k h1 h2 => by omega), Dr.refl _⟩
  case round =>
    obtain ⟨i, j, hij, hj, rfl, rfl, HA, HB, HW⟩ := hrel
    by_cases hlt : i < j
    · have hlt' : (i : Int) < (j : Int) := by omega
      obtain ⟨m, hm⟩ : ∃ m, (i + j) / 2 = m := ⟨_, rfl⟩
      have hm1 : i ≤ m ∧ m < j := by omega
      obtain ⟨b, off, rfl, hc⟩ := ((unhide HS).below (unhide HW).below).at (by omega)
      have hx := hc m (by omega)
      obtain ⟨x, hxx⟩ : ∃ x, xs.getD m 0 = x := ⟨_, rfl⟩
      rw [hxx] at hx
      have HX := hide hxx
      obtain ⟨q, hq⟩ : ∃ q, i + j = q := ⟨_, rfl⟩
      have hs3 : (i : Int) + (j : Int) = (q : Int) := by omega
      have hs2 : (q : Int) / 2 = (m : Int) := by omega
      have hq1 : q ≤ 2 * n := by omega
      clear hq hm
      have hm0 : (m : Int) < (n : Int) := by omega
      have HM := hide hm1
      have KX := hide (fun (W : World) => less_int x t W)
      clear hc hxx
      by_cases hl : x < t
      · have KX := hide (fun (W : World) => (show Calls Tryz.prog 108 #[.int .i64 x, .int .i64 t] W fun e w' => e = .returned (.bool true) ∧ w' = W from by have := less_int x t W; rwa [decide_eq_true hl] at this))
        have HLL := hide hl
        clear hl hm1
        go_wp2_with fail
        refine (unhide KX _).mono ?_
        rintro _ _ ⟨rfl, hw⟩
        obtain rfl := hw.symm
        clear hw
        go_wp2_with fail
        refine ⟨⟨m + 1, j, by have := unhide HM; omega, hj, by go_num, rfl, hide fun k hk => ?_, HB, HW⟩, by have := unhide HM; simp [intOf]; omega⟩
        rcases Nat.lt_or_ge k m with c | c
        · have := (unhide HU).lt' c (by have := unhide HM; omega)
          rw [unhide HX] at this
          exact Int.lt_trans this (unhide HLL)
        · rw [show k = m by omega, unhide HX]; exact unhide HLL
      · have KX := hide (fun (W : World) => (show Calls Tryz.prog 108 #[.int .i64 x, .int .i64 t] W fun e w' => e = .returned (.bool false) ∧ w' = W from by have := less_int x t W; rwa [decide_eq_false hl] at this))
        have HLL := hide hl
        clear hl hm1
        go_wp2_with fail
        refine (unhide KX _).mono ?_
        rintro _ _ ⟨rfl, hw⟩
        obtain rfl := hw.symm
        clear hw
        go_wp2_with fail
        refine ⟨⟨i, m, by have := unhide HM; omega, by have := unhide HM; omega, rfl, rfl, HA, hide fun k hk hk2 => ?_, HW⟩, by have := unhide HM; simp [intOf]; omega⟩
        rcases Nat.lt_or_ge m k with c | c
        · have h1 := (unhide HU).lt' c hk2
          rw [unhide HX] at h1
          have := unhide HLL
          omega
        · rw [show k = m by omega, unhide HX]; have := unhide HLL; omega
    · have hij2 : i = j := by omega
      subst hij2
      have HP := hide (show BsP xs n t i from ⟨hj, unhide HA, unhide HB⟩)
      have hlt' : ¬ (i : Int) < (i : Int) := by omega
      have KN := hide (fun (x : Int) (W : World) => nan_intS x W)
      by_cases hin : i < n
      · have hin' : (i : Int) < (n : Int) := by omega
        obtain ⟨b, off, rfl, hc⟩ := ((unhide HS).below (unhide HW).below).at (by omega)
        have hx := hc i hin
        obtain ⟨x, hxx⟩ : ∃ x, xs.getD i 0 = x := ⟨_, rfl⟩
        rw [hxx] at hx
        have HX := hide (And.intro hxx hin)
        clear hc hxx
        by_cases he : x = t
        · have he' : (x == t) = true := by simp [he]
          have HE := hide he
          clear he
          go_wp2_with fail
          refine bodyPost_ret (by simp [results, Tryz.results70, go_sem]; try rfl) rfl ?_
          exact ⟨i, unhide HP, by rw [(unhide HOK).2 (((unhide HP).has (unhide HU) (unhide HX).2).2 ((unhide HX).1.trans (unhide HE)))], unhide HW⟩
        · have he' : (x == t) = false := by simp [he]
          have HE := hide he
          clear he
          go_wp2_with fail
          refine (unhide KN _ _).mono ?_
          rintro _ _ ⟨rfl, hw⟩
          obtain rfl := hw.symm
          clear hw
          go_wp2_with fail
          refine bodyPost_ret (by simp [results, Tryz.results70, go_sem]; try rfl) rfl ?_
          refine ⟨i, unhide HP, ?_, unhide HW⟩
          cases hk : ok
          · rfl
          · exact absurd ((unhide HX).1.symm.trans (((unhide HP).has (unhide HU) (unhide HX).2).1 ((unhide HOK).1 hk))) (unhide HE)
      · have hin' : ¬ (i : Int) < (n : Int) := by omega
        have HI := hide (show i = n by omega)
        clear hin
        go_wp2_with fail
        refine bodyPost_ret (by simp [results, Tryz.results70, go_sem]; try rfl) rfl ?_
        refine ⟨i, unhide HP, ?_, unhide HW⟩
        cases hk : ok
        · rfl
        · exact absurd ((unhide HOK).1 hk) (by have := unhide HP; rw [unhide HI] at this; exact this.no)
def QB (i : Nat) (ok : Bool) (w w' : World) (e : Ending) : Prop := e = .returned (.tuple #[.int .i64 (i : Int), .bool ok]) ∧ Dr w w'
theorem bsearch_known (a : Option Addr) (n c : Nat) (xs : List Int) (t : Int) (w : World) (h : SlI w a n c xs) (hn : n ≤ 140737488355328) (hu : UpS xs n) (ok : Bool) (hok : ok = true ↔ HasX xs n t) (i : Nat) (hi : BsP xs n t i) :
    Calls Tryz.prog 70 #[.slice a n c, .int .i64 t] w fun e w' => QB i ok w w' e := by
  refine (bsearch_any a n c xs t w h hn hu ok hok).mono ?_
  rintro e w' ⟨j, hj, rfl, hd⟩
  rw [hj.one hi]
  exact ⟨rfl, hd⟩
def valsI (xs : List Int) : List Value := xs.map (fun x => Value.int .i64 x)
theorem Tryz.info_i64 : (Tryz.prog.info? 3).map (fun i => (i.zero, i.size, i.bytes)) = some (some (.int .i64 0), 1, 8) := by kernel_rfl
theorem cells_of_blockI {w : World} {b off : Nat} {cur : Array Value} {e : TypeId} {fr : Nat × Nat} {xs : List Int} (h : w.heap[b]? = some (.cells cur e fr)) (ht : ∀ i, i < xs.length → cur[off + i]? = some (.int .i64 (xs.getD i 0))) : CellsI w b off xs := by
  intro i hi
  rw [cell_of_block h]; exact ht i hi

theorem vals_getI {xs : List Int} {i : Nat} (h : i < xs.length) : (valsI xs)[i]? = some (.int .i64 (xs.getD i 0)) := by
  simp [valsI, h]

theorem take_valsI {cur : Array Value} {n : Nat} {xs : List Int} (hl : xs.length = n) (h : cur.toList.take n = valsI xs) : ∀ i, i < xs.length → cur[i]? = some (.int .i64 (xs.getD i 0)) := by
  intro i hi
  have := vals_getI hi
  rw [← h] at this
  simpa [List.getElem?_take, show i < n from by omega] using this

theorem make_n3I (n : Nat) (hn : n ≤ 17592186044400) (w : World) : (Instr.makeSlice 23 (.int .i64 (n : Int)) (.int .i64 ((n : Int) + 3))).run Tryz.prog w = .ok (.slice (some ⟨w.heap.size, 0, none⟩) n (n + 3)) (w.alloc (.cells (madeCells #[.int .i64 0] (n + 3)) 3)) := by
  obtain ⟨i, hi, hzz⟩ := Option.map_eq_some_iff.1 Tryz.info_i64
  simp only [Prod.mk.injEq] at hzz
  obtain ⟨hz, hs, hb⟩ := hzz
  have hr := run_make (P := Tryz.prog) w 23 3 i (.int .i64 0) Tryz.underlying23 hi hz .i64 .i64 n ((n : Int) + 3) (by omega) (by omega) (by rw [hb]; omega) (by omega)
  rw [hs, Nat.mul_one, show ((n : Int) + 3).toNat = n + 3 from by omega, show ((n : Int)).toNat = n from by omega] at hr
  exact hr

theorem copy_stepI {wr w : World} {n k : Nat} {cur : Array Value} {xs : List Int} (hblk : wr.heap[w.heap.size]? = some (.cells cur 3)) (hsz : cur.size = n + 3) (hk : k < n)
    (hpre : ∀ i, i < k → cur[i]? = some (.int .i64 (xs.getD i 0))) :
    ∃ cur', (wr.setCell ⟨w.heap.size, k, none⟩ (.int .i64 (xs.getD k 0))).heap[w.heap.size]? = some (.cells cur' 3) ∧ cur'.size = n + 3 ∧ ∀ i, i < k + 1 → cur'[i]? = some (.int .i64 (xs.getD i 0)) := by
  refine ⟨_, set_block hblk k _, by simp [hsz], ?_⟩
  intro i hi
  by_cases e : i = k
  · subst e; simp [show i < cur.size from by omega]
  · rw [Array.getElem?_setIfInBounds_ne (by omega)]; exact hpre i (by omega)

set_option maxHeartbeats 800000 in
theorem copy_someI (b off n c : Nat) (xs : List Int) (w : World) (hn : xs.length = n) (hcm : n ≤ 17592186044400) (hc : CellsI w b off xs) :
    Calls Tryz.prog 24 #[.slice (some ⟨b, off, none⟩) n c] w fun e w' => ∃ cur, e = .returned (.slice (some ⟨w.heap.size, 0, none⟩) n (n + 3)) ∧ w'.heap[w.heap.size]? = some (.cells cur 3) ∧ cur.size = n + 3 ∧ (∀ i, i < n → cur[i]? = some (.int .i64 (xs.getD i 0))) ∧ w'.heap.size = w.heap.size + 1 ∧ Below w.heap.size w w' := by
  have hmk := make_n3I n hcm
  go_enter Tryz.func24, Tryz.ntmps24
  go_wp2
  go_loopw [4] (fun i wr => ∃ k : Nat, k ≤ n ∧ i = .int .i64 k ∧ (∃ cur, wr.heap[w.heap.size]? = some (.cells cur 3) ∧ cur.size = n + 3 ∧ ∀ i, i < k → cur[i]? = some (.int .i64 (xs.getD i 0))) ∧ wr.heap.size = w.heap.size + 1 ∧ Below w.heap.size w wr) (fun i _ => n - (intOf i).toNat)
  case atStart => exact ⟨0, Nat.zero_le _, rfl, ⟨_, alloc_block _ _, size_madeCells _ _, fun i hi => absurd hi (Nat.not_lt_zero _)⟩, by simp, (Below.refl _ _).alloc (Nat.le_refl _) _⟩
  case round =>
    obtain ⟨k, hk, rfl, ⟨cur, hblk, hsz, hpre⟩, hhs, hbel⟩ := hrel
    by_cases hlt : k < n
    · have hlt' : (k:Int) < (n:Int) := by omega
      have g1 : wr.cell? ⟨w.heap.size, k, none⟩ = some cur[k]! := by rw [cell_of_block hblk]; simp [show k < cur.size from by omega]
      have g2 := frozen_of_block hblk k
      have g3 := hc k (by omega)
      have g4 : wr.cell? ⟨b, off + k, none⟩ = _ := (hbel.cell (World.block_lt_of_cell? _ _ g3)).trans g3
      have HS := hide (copy_stepI hblk hsz hlt hpre)
      have HB := hide (hbel.setCell (p := ⟨w.heap.size, k, none⟩) (Nat.le_refl _) (.int .i64 (xs.getD k 0)))
      have HH := hide hhs
      generalize xs.getD k 0 = x at g3 g4 HS HB
      clear hblk hsz hpre hbel g3 hhs
      go_wp2
      refine ⟨⟨k + 1, by omega, by go_num, by simpa using unhide HS, by simpa using unhide HH, unhide HB⟩, by simp [intOf]; omega⟩
    · have HS := hide hpre
      have HB := hide hblk
      have HZ := hide hsz
      have HH := hide hhs
      clear hpre hblk hsz hhs
      go_wp2
      go_ret
      exact ⟨cur, rfl, unhide HB, unhide HZ, fun i hi => unhide HS i (by omega), unhide HH, hbel⟩

set_option maxHeartbeats 800000 in
theorem copy_nilI (a : Option Addr) (c : Nat) (w : World) :
    Calls Tryz.prog 24 #[.slice a 0 c] w fun e w' => ∃ cur, e = .returned (.slice (some ⟨w.heap.size, 0, none⟩) 0 3) ∧ w'.heap[w.heap.size]? = some (.cells cur 3) ∧ cur.size = 3 ∧ w'.heap.size = w.heap.size + 1 ∧ Below w.heap.size w w' := by
  have hmk : ∀ w, (Instr.makeSlice 23 (.int .i64 0) (.int .i64 3)).run Tryz.prog w = .ok (.slice (some ⟨w.heap.size, 0, none⟩) 0 3) (w.alloc (.cells (madeCells #[.int .i64 0] 3) 3)) := fun w => make_n3I 0 (by omega) w
  go_enter Tryz.func24, Tryz.ntmps24
  go_wp2
  go_loopw [4] (fun i wr => i = .int .i64 0 ∧ (∃ cur, wr.heap[w.heap.size]? = some (.cells cur 3) ∧ cur.size = 3) ∧ wr.heap.size = w.heap.size + 1 ∧ Below w.heap.size w wr) (fun i _ => (intOf i).toNat)
  case atStart => exact ⟨rfl, ⟨_, alloc_block _ _, size_madeCells _ _⟩, by simp, (Below.refl _ _).alloc (Nat.le_refl _) _⟩
  case round =>
    obtain ⟨rfl, ⟨cur, hblk, hsz⟩, hhs, hbel⟩ := hrel
    have HB := hide hblk
    have HZ := hide hsz
    have HH := hide hhs
    clear hblk hsz hhs
    go_wp2
    go_ret
    exact ⟨cur, rfl, unhide HB, unhide HZ, unhide HH, hbel⟩

theorem copy_anyI (a : Option Addr) (n c : Nat) (xs : List Int) (w : World) (h : SlI w a n c xs) (hb : n ≤ 17592186044400) :
    Calls Tryz.prog 24 #[.slice a n c] w fun e w' => ∃ cur, e = .returned (.slice (some ⟨w.heap.size, 0, none⟩) n (n + 3)) ∧ w'.heap[w.heap.size]? = some (.cells cur 3) ∧ cur.size = n + 3 ∧ (∀ i, i < n → cur[i]? = some (.int .i64 (xs.getD i 0))) ∧ w'.heap.size = w.heap.size + 1 ∧ Below w.heap.size w w' := by
  have hl := h.len
  rcases h.cells with h0 | ⟨b, off, rfl, hc⟩
  · subst h0
    simp at hl
    subst hl
    refine (copy_nilI a c w).mono ?_
    rintro e w' ⟨cur, rfl, h1, h2, h3, h4⟩
    exact ⟨cur, rfl, h1, h2, fun i hi => absurd hi (Nat.not_lt_zero _), h3, h4⟩
  · exact copy_someI b off n c xs w hl hb hc
end Go.Proofs.YtgjokididdffhaaGreat
