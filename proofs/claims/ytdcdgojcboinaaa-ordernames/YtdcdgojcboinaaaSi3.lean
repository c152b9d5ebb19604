/-
  PATTERNS: sparse.find, Has, Count: contracts.
-/
import Derived.Test.YtdcdgojcboinaaaSi2
import Derived.Test.YtdcdgojcboinaaaSa3
import Derived.Test.YtdcdgojcboinaaaSa0
import Derived.Test.YtdcdgojcboinaaaSa2
namespace Go.Proofs.Ytdcdgojcboinaaa
open Go.RowKit Go.Deep
set_option linter.unusedVariables false

/-- A row of a pattern that may be: where it lies among the columns. -/
structure RowAt (st cols : List Int) (width : Int) (k X Y : Nat) : Prop where
  hX : st.getD k 0 = (X : Int)
  hY : st.getD (k + 1) 0 = (Y : Int)
  le : X ≤ Y
  lt : Y ≤ cols.length
  row : RowP width cols X Y
theorem MayP.rowAt {rows width : Int} {st cols : List Int} (h : MayP rows width st cols) {k : Nat} (hk : (k : Int) < rows) : ∃ X Y, RowAt st cols width k X Y := by
  have hl := h.head.len
  have g1 := h.head.rng h.sort (i := k) (by omega)
  have g2 := h.head.rng h.sort (i := k + 1) (by omega)
  have g3 := h.sort k (Nat.zero_le _) (by omega)
  have g4 := h.row k (by omega)
  exact ⟨(st.getD k 0).toNat, (st.getD (k + 1) 0).toNat, by omega, by omega, by omega, by omega, g4⟩
theorem RowAt.up {st cols : List Int} {width : Int} {k X Y : Nat} (h : RowAt st cols width k X Y) : UpS ((cols.drop X).take (Y - X)) (Y - X) := fun i h1 h2 => ((RowP.sub h.le).2 h.row).up i h1 h2
/-- Is there the place? -/
structure HasP (rows width : Int) (st cols : List Int) (r c : Int) : Prop where
  may : MayP rows width st cols
  lo : 0 ≤ r
  hi : r < rows
  at_ : ∃ i, (st.getD r.toNat 0).toNat ≤ i ∧ i < (st.getD (r.toNat + 1) 0).toNat ∧ cols.getD i 0 = c
theorem RowAt.has {st cols : List Int} {width : Int} {k X Y : Nat} (h : RowAt st cols width k X Y) {rows : Int} (hm : MayP rows width st cols) (hk : (k : Int) < rows) (c : Int) : HasX ((cols.drop X).take (Y - X)) (Y - X) c ↔ HasP rows width st cols (k : Int) c := by
  have e : ∀ i, i < Y - X → ((cols.drop X).take (Y - X)).getD i 0 = cols.getD (X + i) 0 := fun i hi => by simp [List.getD, List.getElem?_drop, hi]
  have e1 : (st.getD ((k : Int)).toNat 0).toNat = X := by rw [show ((k : Int)).toNat = k by omega, h.hX]; omega
  have e2 : (st.getD (((k : Int)).toNat + 1) 0).toNat = Y := by rw [show ((k : Int)).toNat = k by omega, h.hY]; omega
  constructor
  · rintro ⟨i, hi, hc⟩
    rw [e i hi] at hc
    exact ⟨hm, by omega, hk, X + i, by rw [e1]; omega, by rw [e2]; omega, hc⟩
  · rintro ⟨_, _, _, i, h1, h2, hc⟩
    rw [e1] at h1
    rw [e2] at h2
    exact ⟨i - X, by omega, by rw [e _ (by omega), show X + (i - X) = i by omega]; exact hc⟩
set_option maxRecDepth 100000 in
set_option maxHeartbeats 16000000 in
/-- sparse.find, of a row that there is not. -/
theorem find_out (rows width : Int) (a1 a2 : Option Addr) (n1 c1 n2 c2 : Nat) (r t : Int) (w : World) (ho : r < 0 ∨ rows ≤ r) :
    Calls Try.prog 35 #[patV rows width a1 n1 c1 a2 n2 c2, .int .i64 r, .int .i64 t] w fun e w' => e = .returned (.tuple #[.int .i64 0, .bool false]) ∧ Below w.heap.size w w' := by
  obtain ⟨wb, hwb⟩ : ∃ x, w.alloc (.cells #[.int .i64 rows, .int .i64 width, .slice a1 n1 c1, .slice a2 n2 c2] 24) = x := ⟨_, rfl⟩
  have bb : Below w.heap.size w wb := by rw [← hwb]; exact (Below.refl _ _).alloc (Nat.le_refl _) _
  have p0 : wb.cell? ⟨w.heap.size, 0, none⟩ = some (.int .i64 rows) := by rw [← hwb]; simp
  have HB := hide bb
  clear bb
  unfold patV
  by_cases h0 : r < 0
  · clear ho
    go_enter Try.func35, Try.ntmps35
    go_wp2_with fail
    refine bodyPost_ret (by simp [results, Try.results35, go_sem]; try rfl) rfl ?_
    exact ⟨rfl, unhide HB⟩
  · have h1 : rows ≤ r := by omega
    clear ho
    go_enter Try.func35, Try.ntmps35
    go_wp2_with fail
    refine bodyPost_ret (by simp [results, Try.results35, go_sem]; try rfl) rfl ?_
    exact ⟨rfl, unhide HB⟩
set_option maxRecDepth 100000 in
set_option maxHeartbeats 16000000 in
/-- sparse.find, of a row of a pattern that may be. -/
theorem find_in (rows width : Int) (a1 a2 : Option Addr) (n1 c1 n2 c2 : Nat) (st cols : List Int) (k X Y : Nat) (t : Int) (w : World) (h1 : SlI w a1 n1 c1 st) (h2 : SlI w a2 n2 c2 cols) (hb1 : n1 ≤ 17592186044416) (hb2 : n2 ≤ 17592186044416) (hl1 : (n1 : Int) = rows + 1) (hk : (k : Int) < rows) (hR : RowAt st cols width k X Y) (ok : Bool) (hok : ok = true ↔ HasX ((cols.drop X).take (Y - X)) (Y - X) t) (i : Nat) (hi : BsP ((cols.drop X).take (Y - X)) (Y - X) t i) :
    Calls Try.prog 35 #[patV rows width a1 n1 c1 a2 n2 c2, .int .i64 (k : Int), .int .i64 t] w fun e w' => e = .returned (.tuple #[.int .i64 ((X + i : Nat) : Int), .bool ok]) ∧ Below w.heap.size w w' := by
  obtain ⟨wb, hwb⟩ : ∃ x, w.alloc (.cells #[.int .i64 rows, .int .i64 width, .slice a1 n1 c1, .slice a2 n2 c2] 24) = x := ⟨_, rfl⟩
  have bb : Below w.heap.size w wb := by rw [← hwb]; exact (Below.refl _ _).alloc (Nat.le_refl _) _
  have hB : ∀ q u, [Value.int .i64 rows, .int .i64 width, .slice a1 n1 c1, .slice a2 n2 c2][q]? = some u → wb.cell? ⟨w.heap.size, q, none⟩ = some u := by
    intro q u hq
    rw [← hwb]
    have hq' : #[Value.int .i64 rows, .int .i64 width, .slice a1 n1 c1, .slice a2 n2 c2][q]? = some u := by simpa using hq
    simp [hq']
  have p0 := hB 0 _ rfl
  have p1 := hB 1 _ rfl
  have p2 := hB 2 _ rfl
  have p3 := hB 3 _ rfl
  obtain ⟨b1, o1, rfl, hc1⟩ := (h1.below bb).at (by omega)
  have sk := hc1 k (by omega)
  have sk1 := hc1 (k + 1) (by omega)
  rw [hR.hX] at sk
  rw [hR.hY] at sk1
  have hcl := h2.len
  have hnc := h2.le
  have tXY : (X : Int) ≤ (Y : Int) := by have := hR.le; omega
  have tYc : (Y : Int) ≤ (c2 : Int) := by have := hR.lt; omega
  have tk0 : ¬ (k : Int) < 0 := by omega
  have tkr : ¬ rows ≤ (k : Int) := by omega
  have tk1 : (k : Int) < (n1 : Int) := by omega
  have tk2 : (k : Int) + 1 < (n1 : Int) := by omega
  obtain ⟨z, hz⟩ : ∃ z, X + i = z := ⟨_, rfl⟩
  have hz2 : (X : Int) + (i : Int) = (z : Int) := by omega
  have hzl : z ≤ n2 := by have := hi.le; have := hR.lt; have := hR.le; omega
  have KB := hide (fun (W : World) (d : Dr wb W) => bsearch_known _ _ _ _ t W (((h2.below bb).below d.below).sub hR.le (by have := hR.lt; omega)) (by have := hR.lt; omega) hR.up ok hok i hi)
  have HB := hide bb
  have HL := hide hl1
  rw [hz]
  clear bb hB h1 h2 hR hok hi hc1 hz hcl hl1 hk
  unfold patV
  go_enter Try.func35, Try.ntmps35
  go_wp2_with fail
  go_quiet ((go_at_call 52; exact Calls.quiet_of (unhide KB _ ⟨_, rfl⟩)))
  all_goals go_wp2_with fail
  all_goals refine bodyPost_ret (by simp [results, Try.results35, go_sem]; try rfl) rfl ?_
  all_goals exact ⟨rfl, bel_drewN (unhide HB) _⟩
end Go.Proofs.Ytdcdgojcboinaaa

namespace Go.Proofs.Ytdcdgojcboinaaa
open Go.RowKit Go.Deep
set_option linter.unusedVariables false

theorem BIq.qi {P : Prop} {ok : Bool} {w w' : World} {e : Ending} (h : BIq P w w' e) (ho : ok = true ↔ P) : QI ok w w' e := by
  obtain ⟨⟨b, rfl, hb⟩, rfl⟩ := h
  refine ⟨?_, Dr.refl _⟩
  have : b = ok := by have h4 := hb.trans ho.symm; cases b <;> cases ok <;> simp_all
  rw [this]
/-- What the document has seen of the rows ahead of k. -/
structure SeenP (width : Int) (st cols : List Int) (k : Nat) : Prop where
  up : ∀ r, r < k → st.getD r 0 ≤ st.getD (r + 1) 0
  row : ∀ r, r < k → RowP width cols (st.getD r 0).toNat (st.getD (r + 1) 0).toNat
  rng : 0 ≤ st.getD k 0 ∧ st.getD k 0 ≤ (cols.length : Int)
end Go.Proofs.Ytdcdgojcboinaaa

namespace Go.Proofs.Ytdcdgojcboinaaa
open Go.RowKit Go.Deep
set_option linter.unusedVariables false

theorem quiet_at {P : Program} {f : FuncId} {args : Array Value} {w : World} {d x : Nat} {v : Value} (h : Calls P f args (w.drewN (d + x)) fun e w' => e = .returned v ∧ ∃ k, w' = (w.drewN (d + x)).drewN k) :
    Calls P f args (w.drewN (d + x)) fun e w'' => e = .returned v ∧ ∃ n, w'' = w.drewN (d + n) :=
  h.mono fun _ _ ⟨he, m, hm⟩ => ⟨he, x + m, by rw [hm, drewN_add, Nat.add_assoc]⟩

end Go.Proofs.Ytdcdgojcboinaaa

namespace Go.Proofs.Ytdcdgojcboinaaa
open Go.RowKit Go.Deep
set_option linter.unusedVariables false

set_option maxRecDepth 100000 in
set_option maxHeartbeats 8000000 in
/-- slopeplain.SameInts of like lists. -/
theorem sameInts_eq (a1 a2 : Option Addr) (n c1 c2 : Nat) (xs : List Int) (w : World) (h1 : SlI w a1 n c1 xs) (h2 : SlI w a2 n c2 xs) (hn : n ≤ 140737488355328) :
    Calls Try.prog 18 #[.slice a1 n c1, .slice a2 n c2] w fun e w' => e = .returned (.bool true) ∧ ∃ m, w' = w.drewN m := by
  have tn : ((n:Int) != (n:Int)) = false := by simp
  have H1 := hide h1
  have H2 := hide h2
  clear h1 h2
  go_enter Try.func18, Try.ntmps18
  go_wp2_with fail
  go_loopw [5] (fun iv wr => ∃ q : Nat, q ≤ n ∧ iv = .int .i64 (q : Nat) ∧ Hid (Dr w wr)) (fun iv _ => n - (intOf iv).toNat)
  case atStart => exact ⟨0, Nat.zero_le _, rfl, Dr.refl _⟩
  case round =>
    obtain ⟨q, hq, rfl, HW⟩ := hrel
    by_cases hlt : q < n
    · have hlt' : (q:Int) < (n:Int) := by omega
      obtain ⟨g1, o1, rfl, k1⟩ := ((unhide H1).below (unhide HW).below).at (by omega)
      obtain ⟨g2, o2, rfl, k2⟩ := ((unhide H2).below (unhide HW).below).at (by omega)
      have z1 := k1 q hlt
      have z2 := k2 q hlt
      generalize xs.getD q 0 = x at *
      have tx : ((x:Int) != x) = false := by simp
      clear k1 k2
      go_wp2_with fail
      go_quiet (fail)
      go_wp2_with fail
      exact ⟨⟨q + 1, by omega, by (first | rfl | go_num), hide ((unhide HW).n _)⟩, by simp [intOf]; omega⟩
    · have hq2 : q = n := by omega
      subst hq2
      have hlt' : ¬ (q:Int) < (q:Int) := by omega
      go_wp2_with fail
      go_ret
      exact ⟨rfl, unhide HW⟩
end Go.Proofs.Ytdcdgojcboinaaa
