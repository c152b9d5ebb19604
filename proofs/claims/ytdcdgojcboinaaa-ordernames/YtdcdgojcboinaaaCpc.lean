/-
  ORDERS: order.smallestLast, Order of OrderSmallest: contracts.
-/
import Derived.Test.YtdcdgojcboinaaaCpb
import Derived.Lib.MinMax
namespace Go.Proofs.Ytdcdgojcboinaaa
open Go.Shelf Go.RowKit Go.Deep
set_option linter.unusedVariables false

/-- slices.Reverse of a list with room behind it. -/
theorem orevC_any (g o cap : Nat) (xs : List Int) (w : World) (h : BkC w g o cap xs) :
    Calls Try.prog 38 #[.slice (some ⟨g, o, none⟩) xs.length cap] w fun e w' => e = .returned (.tuple #[]) ∧ BkC w' g o cap xs.reverse ∧ Chg (fun j => j = g) w w' := by
  have hH : Sort.Holds (Value.int .i64) w g o xs.toArray := fun j hj => by
    have hj' : j < xs.length := by simpa using hj
    refine ⟨(h.val j hj').trans ?_, (h.has j (Nat.lt_of_lt_of_le hj' h.len)).2⟩
    simp [List.getD, getElem!_pos, hj']
  have hbig : cap ≤ 9223372036854775807 := by have := h.big; unfold maxLen at this; omega
  have K := Any.slices_Reverse_int shRev g o cap xs w hH (Nat.le_trans h.len hbig)
  refine Calls.mono K ?_
  rintro e w' ⟨he, q, rfl⟩
  have hsz : xs.reverse.toArray.size = xs.toArray.size := by simp
  have hN := Sort.holds_putRow (Value.int .i64) (Sort.ahead w q) g o xs.toArray _ (Sort.holds_ahead (Value.int .i64) w q g o _ hH) hsz
  have hC := Chg.of_putRow (S := fun j => j = g) w q g o xs.reverse.toArray rfl
  refine ⟨he, ⟨by simpa using h.len, h.big, fun j hj => ⟨?_, ?_⟩, fun j hj => ?_, Nat.lt_of_lt_of_le h.lt hC.size⟩, hC⟩
  · by_cases hl : j < xs.length
    · rw [(hN j (by rw [hsz]; simpa using hl)).1]; rfl
    · rw [Sort.cell?_putRow_other _ _ _ _ _ _ (.inr (.inr (by rw [hsz]; simp; omega)))]
      exact (h.has j hj).1
  · rw [Sort.frozen?_putRow]
    exact (h.has j hj).2
  · have hj2 : j < xs.length := by simpa using hj
    rw [(hN j (by rw [hsz]; simpa using hj2)).1]
    rw [getElem!_pos _ _ (by rw [hsz]; simpa using hj2)]
    simp only [List.getElem_toArray, List.getD, List.getElem?_eq_getElem hj]
    rfl
/-- The same of a list that may be none. -/
theorem orevB_any (t R d : Nat) (b : Option Addr) (xs : List Int) (w : World) (h : BkR (fun _ => False) w t (.slice b R d) xs) :
    Calls Try.prog 38 #[.slice b R d] w fun e w' => e = .returned (.tuple #[]) ∧ BkR (fun _ => False) w' t (.slice b R d) xs.reverse ∧ Chg (fun j => t ≤ j) w w' := by
  rcases h with ⟨e, e2⟩ | ⟨g, o, cap, e, ht, hc⟩
  · injection e with h1 h2 h3
    subst h1 h2 h3 e2
    refine Calls.mono (Any.slices_Reverse_int_empty shRev none 0 w) ?_
    rintro e w' ⟨he, rfl⟩
    exact ⟨he, .inl ⟨rfl, rfl⟩, Chg.refl _ _⟩
  · injection e with h1 h2 h3
    subst h1 h2 h3
    refine Calls.mono (orevC_any g o d xs w hc) ?_
    rintro e w' ⟨he, hb, hC⟩
    exact ⟨he, .inr ⟨g, o, d, by rw [List.length_reverse], ht, hb⟩, hC.mono (fun j _ hj => by have e' : j = g := hj; have := ht.1; omega)⟩
/-- OrderSmallest, as a list. -/
def smL (R : Nat) (st cols : List Int) : List Int := (peL (peV R (nbL st cols) (fun v => (rowL st cols v).length)) R).reverse
/-- What a list of an order's own is. -/
def SmP (R : Nat) (xs : List Int) (w w' : World) (e : Ending) : Prop := ∃ b d, e = .returned (.slice b R d) ∧ BkR (fun _ => False) w' w.heap.size (.slice b R d) xs ∧ Below w.heap.size w w'
set_option maxRecDepth 100000 in
set_option maxHeartbeats 4000000 in
/-- order.smallestLast. -/
theorem osmall_any (R : Nat) (a1 a2 : Option Addr) (n1 c1 n2 c2 : Nat) (st cols : List Int) (s : Value) (w : World) (h1 : SlI w a1 n1 c1 st) (h2 : SlI w a2 n2 c2 cols) (hb1 : n1 ≤ 17592186044000) (hb2 : n2 ≤ 17592186044000) (hm : MayP (R : Int) (R : Int) st cols) (hdg : ∀ v, v < R → (rowL st cols v).length < R) (hok : ∀ k, k < R → PeO R (nbL st cols) (fun v => (rowL st cols v).length) k) :
    Calls Try.prog 45 #[patV (R : Int) (R : Int) a1 n1 c1 a2 n2 c2, s] w fun e w' => SmP R (smL R st cols) w w' e := by
  obtain ⟨wb, hwb⟩ : ∃ x, w.alloc (.cells #[.int .i64 (R : Int), .int .i64 (R : Int), .slice a1 n1 c1, .slice a2 n2 c2] 24) = x := ⟨_, rfl⟩
  have bb : Below w.heap.size w wb := by rw [← hwb]; exact (Below.refl _ _).alloc (Nat.le_refl _) _
  have hT := BoxP.made w #[.int .i64 (R : Int), .int .i64 (R : Int), .slice a1 n1 c1, .slice a2 n2 c2] 24
  rw [hwb] at hT
  have p0 := (hT.all 0 _ rfl).1
  have p1 := (hT.all 1 _ rfl).1
  have p2 := (hT.all 2 _ rfl).1
  have p3 := (hT.all 3 _ rfl).1
  have K := hide (opeel_any R a1 a2 n1 c1 n2 c2 st cols wb (h1.below bb) (h2.below bb) hb1 hb2 hm hdg hok)
  unfold patV at K
  have HB := hide bb
  clear hT bb h1 h2 hm hdg hok
  unfold patV
  go_enter Try.func45, Try.ntmps45
  go_wp2_with fail
  refine (unhide K).mono ?_
  rintro _ w2 ⟨b1, d1, b2, d2, rfl, s1, s2, b3, n1', n2', hk⟩
  have HR := hide (orevB_any wb.heap.size R d1 b1 _ w2 hk)
  have HB2 := hide ((unhide HB).trans (b3.mono (unhide HB).size))
  clear K s1 s2 b3 n1' n2' hk p0 p1 p2 p3
  go_wp2_with fail
  refine (unhide HR).mono ?_
  rintro _ w3 ⟨rfl, hr, hc⟩
  have HF := hide (show SmP R (smL R st cols) w w3 (.returned (.slice b1 R d1)) from ⟨b1, d1, rfl, hr.low (unhide HB).size, (unhide HB2).trans (hc.below (unhide HB2).size (fun j hj e => by have e' : wb.heap.size ≤ j := e; have := (unhide HB).size; omega))⟩)
  clear HR hr hc
  go_wp2_with fail
  try go_ret
  exact unhide HF
end Go.Proofs.Ytdcdgojcboinaaa

namespace Go.Proofs.Ytdcdgojcboinaaa
open Go.Shelf Go.RowKit Go.Deep
set_option linter.unusedVariables false

/-- The greatest of the first k counts. -/
def moF (C : Nat → Nat) : Nat → Nat
  | 0 => 0
  | k + 1 => max (moF C k) (C k)
/-- The cores, behind k steps. -/
def coF (V C : Nat → Nat) : Nat → Nat → Nat
  | 0, _ => 0
  | k + 1, v => if v = V k then moF C (k + 1) else coF V C k v
theorem peL_at (f : Nat → Nat) {R k : Nat} (h : k < R) : (peL f R).getD k 0 = (f k : Int) := by simp [peL, List.getD, h]
set_option maxRecDepth 100000 in
set_option maxHeartbeats 16000000 in
/-- order.cores. -/
theorem ocores_any (R : Nat) (a1 a2 : Option Addr) (n1 c1 n2 c2 : Nat) (st cols : List Int) (w : World) (h1 : SlI w a1 n1 c1 st) (h2 : SlI w a2 n2 c2 cols) (hb1 : n1 ≤ 17592186044000) (hb2 : n2 ≤ 17592186044000) (hm : MayP (R : Int) (R : Int) st cols) (hdg : ∀ v, v < R → (rowL st cols v).length < R) (hok : ∀ k, k < R → PeO R (nbL st cols) (fun v => (rowL st cols v).length) k) :
    Calls Try.prog 14 #[patV (R : Int) (R : Int) a1 n1 c1 a2 n2 c2] w fun e w' => ∃ g, w.heap.size ≤ g ∧ e = .returned (.slice (some ⟨g, 0, none⟩) R R) ∧ RoV w' g R (fun v => .int .i64 (coF (peV R (nbL st cols) (fun v => (rowL st cols v).length)) (peC R (nbL st cols) (fun v => (rowL st cols v).length)) R v : Int)) ∧ g < w'.heap.size ∧ Below w.heap.size w w' := by
  have hR : R ≤ 128 := by have := hm.head.fit; omega
  have hV : ∀ k, k < R → peV R (nbL st cols) (fun v => (rowL st cols v).length) k < R := fun k hk => by
    have hl := low_is (hok k hk).ex
    exact brF_lt R _ hl.rn
  have hC : ∀ k, k < R → peC R (nbL st cols) (fun v => (rowL st cols v).length) k < R := fun k hk => (low_is (hok k hk).ex).cn
  obtain ⟨wb, hwb⟩ : ∃ x, w.alloc (.cells #[.int .i64 (R : Int), .int .i64 (R : Int), .slice a1 n1 c1, .slice a2 n2 c2] 24) = x := ⟨_, rfl⟩
  have bb : Below w.heap.size w wb := by rw [← hwb]; exact (Below.refl _ _).alloc (Nat.le_refl _) _
  have hT := BoxP.made w #[.int .i64 (R : Int), .int .i64 (R : Int), .slice a1 n1 c1, .slice a2 n2 c2] 24
  rw [hwb] at hT
  have p0 := (hT.all 0 _ rfl).1
  have hmk := make_intsR R (by omega) wb
  have hRo := RoV.made wb R 3 (.int .i64 0)
  obtain ⟨wm, hwm⟩ : ∃ x, wb.alloc (.cells (madeCells #[.int .i64 0] R) 3) = x := ⟨_, rfl⟩
  have bm : Below wb.heap.size wb wm := by rw [← hwm]; exact (Below.refl _ _).alloc (Nat.le_refl _) _
  have hgl : wb.heap.size < wm.heap.size := by rw [← hwm]; simp
  rw [hwm] at hmk hRo
  have bwm := bb.trans (bm.mono bb.size)
  have hTm := hT.below bm
  have q0 := (hTm.all 0 _ rfl).1
  have q1 := (hTm.all 1 _ rfl).1
  have q2 := (hTm.all 2 _ rfl).1
  have q3 := (hTm.all 3 _ rfl).1
  have K := hide (opeel_any R a1 a2 n1 c1 n2 c2 st cols wm (h1.below bwm) (h2.below bwm) hb1 hb2 hm hdg hok)
  unfold patV at K
  obtain ⟨g, hg⟩ : ∃ g, wb.heap.size = g := ⟨_, rfl⟩
  have HG := hide (And.intro (show w.heap.size ≤ g by have := hT.lt; omega) (show g < wm.heap.size by omega))
  rw [hg] at hmk hRo
  have HRo := hide hRo
  have HB := hide bwm
  obtain ⟨V, hVe⟩ : ∃ V : Nat → Nat, peV R (nbL st cols) (fun v => (rowL st cols v).length) = V := ⟨_, rfl⟩
  obtain ⟨C, hCe⟩ : ∃ C : Nat → Nat, peC R (nbL st cols) (fun v => (rowL st cols v).length) = C := ⟨_, rfl⟩
  unfold PeP at K
  rw [hVe] at hV
  rw [hCe] at hC
  simp only [hVe, hCe] at K ⊢
  clear hT bb bm hRo hwm hgl h1 h2 hm hdg hok hVe hCe bwm hTm
  unfold patV
  go_enter Try.func14, Try.ntmps14
  go_wp2_with fail
  refine (unhide K).mono ?_
  rintro _ w2 ⟨b1, d1, b2, d2, rfl, s1, s2, b3, n1', n2', _⟩
  have HS := hide (And.intro s1 s2)
  have HR2 := hide ((unhide HRo).below b3)
  have HB2 := hide ((unhide HB).trans (b3.mono (unhide HB).size))
  have HG2 := hide (Nat.lt_of_lt_of_le (unhide HG).2 b3.size)
  have HNE := hide (And.intro (fun y (hy : b1 = some y) => Nat.ne_of_gt (Nat.lt_of_lt_of_le (unhide HG).2 (n1' y hy))) (fun y (hy : b2 = some y) => Nat.ne_of_gt (Nat.lt_of_lt_of_le (unhide HG).2 (n2' y hy))))
  clear K s1 s2 b3 n1' n2' hmk p0 q0 q1 q2 q3 HRo HB
  go_wp2_with fail
  go_loopw [19, 4] (fun kv mv wr => ∃ k : Nat, k ≤ R ∧ kv = .int .i64 (k : Int) ∧ mv = .int .i64 (moF C k : Int) ∧ Hid (RoV wr g R (fun v => .int .i64 (coF V C k v : Int))) ∧ Hid (Chg (fun j => j = g) w2 wr)) (fun kv _ _ => R - (intOf kv).toNat)
  case atStart => exact ⟨0, Nat.zero_le _, rfl, rfl, HR2, hide (Chg.refl _ _)⟩
  case round =>
    obtain ⟨k, hk, rfl, rfl, HV, HC⟩ := hrel
    by_cases hlt : k < R
    · have hlt' : (k : Int) < (R : Int) := by omega
      obtain ⟨bb1, o1, rfl, e1⟩ := ((unhide HS).1.chg (unhide HC) (fun y hy _ => (unhide HNE).1 y hy)).at (by omega)
      obtain ⟨bb2, o2, rfl, e2⟩ := ((unhide HS).2.chg (unhide HC) (fun y hy _ => (unhide HNE).2 y hy)).at (by omega)
      have s1 := e1 k hlt
      have s2 := e2 k hlt
      rw [peL_at V hlt] at s1
      rw [peL_at C hlt] at s2
      have hvk := hV k hlt
      obtain ⟨x, hx⟩ : ∃ x, V k = x := ⟨_, rfl⟩
      obtain ⟨y, hy⟩ : ∃ y, C k = y := ⟨_, rfl⟩
      rw [hx] at s1 hvk
      rw [hy] at s2
      obtain ⟨z, hz⟩ : ∃ z, moF C (k + 1) = z := ⟨_, rfl⟩
      obtain ⟨m, hm⟩ : ∃ m, moF C k = m := ⟨_, rfl⟩
      have hz' : max (m : Int) (y : Int) = (z : Int) := by
        have hq : max m y = z := (by rw [← hz, ← hm, ← hy]; rfl)
        omega
      have hvk' : (x : Int) < (R : Int) := by omega
      have r0 := (unhide HV x hvk).1
      have r1 := (unhide HV x hvk).2
      have HN := hide (show RoV (wr.setCell ⟨g, x, none⟩ (.int .i64 (z : Int))) g R (fun v => .int .i64 (coF V C (k + 1) v : Int)) from ((unhide HV).put x _ hvk).congr (fun v hv => by
        simp only [coF]
        rw [hx, hz]
        by_cases e : v = x
        · simp [e]
        · simp [e]))
      have HC2 := hide ((unhide HC).trans (Chg.of_set (S := fun j => j = g) wr g x (.int .i64 (z : Int)) rfl))
      have HZ := hide hz
      clear e1 e2 hx hy hz
      rw [hm]
      clear hm
      go_wp2_with fail
      exact ⟨⟨k + 1, by omega, by (first | rfl | go_num), by rw [unhide HZ], HN, HC2⟩, by simp [intOf]; omega⟩
    · obtain rfl : k = R := by omega
      have hlt' : ¬ (k : Int) < (k : Int) := by omega
      go_wp2_with fail
      try go_ret
      exact ⟨g, (unhide HG).1, rfl, unhide HV, Nat.lt_of_lt_of_le (unhide HG2) (unhide HC).size, (unhide HB2).trans ((unhide HC).below (unhide HB2).size (fun j hj e => by have e' : j = g := e; have := (unhide HG).1; omega))⟩
end Go.Proofs.Ytdcdgojcboinaaa
