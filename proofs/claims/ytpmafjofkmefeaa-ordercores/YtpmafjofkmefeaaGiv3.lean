/-
  PATTERNS: sparse.find, Has, Count: contracts.
-/
import Derived.Test.YtpmafjofkmefeaaSp1
import Derived.Test.YtpmafjofkmefeaaSa3
import Derived.Test.YtpmafjofkmefeaaGiv2
namespace Go.Proofs.Ytpmafjofkmefeaa
open Go.RowKit Go.Deep
set_option linter.unusedVariables false

/-- A row of a pattern that may be: where it lies among the columns. -/
structure RowAt (st cols : List Int) (width : Int) (k X Y : Nat) : Prop where
  hX : st.getD k 0 = (X : Int)
  hY : st.getD (k + 1) 0 = (Y : Int)
  le : X ≤ Y
  lt : Y ≤ cols.length
  row : RowP width cols X Y
theorem MayP.rowAt {rows width : Int} {st cols : List Int} (h : MayP rows width st cols) {k : Nat} (hk : (k : Int) < rows) : ∃ X Y, RowAt st cols width k X Y := by
  have hl := h.head.len
  have g1 := h.head.rng h.sort (i := k) (by omega)
  have g2 := h.head.rng h.sort (i := k + 1) (by omega)
  have g3 := h.sort k (Nat.zero_le _) (by omega)
  have g4 := h.row k (by omega)
  exact ⟨(st.getD k 0).toNat, (st.getD (k + 1) 0).toNat, by omega, by omega, by omega, by omega, g4⟩
theorem RowAt.up {st cols : List Int} {width : Int} {k X Y : Nat} (h : RowAt st cols width k X Y) : UpS ((cols.drop X).take (Y - X)) (Y - X) := fun i h1 h2 => ((RowP.sub h.le).2 h.row).up i h1 h2
/-- Is there the place? -/
structure HasP (rows width : Int) (st cols : List Int) (r c : Int) : Prop where
  may : MayP rows width st cols
  lo : 0 ≤ r
  hi : r < rows
  at_ : ∃ i, (st.getD r.toNat 0).toNat ≤ i ∧ i < (st.getD (r.toNat + 1) 0).toNat ∧ cols.getD i 0 = c
theorem RowAt.has {st cols : List Int} {width : Int} {k X Y : Nat} (h : RowAt st cols width k X Y) {rows : Int} (hm : MayP rows width st cols) (hk : (k : Int) < rows) (c : Int) : HasX ((cols.drop X).take (Y - X)) (Y - X) c ↔ HasP rows width st cols (k : Int) c := by
  have e : ∀ i, i < Y - X → ((cols.drop X).take (Y - X)).getD i 0 = cols.getD (X + i) 0 := fun i hi => by simp [List.getD, List.getElem?_drop, hi]
  have e1 : (st.getD ((k : Int)).toNat 0).toNat = X := by rw [show ((k : Int)).toNat = k by omega, h.hX]; omega
  have e2 : (st.getD (((k : Int)).toNat + 1) 0).toNat = Y := by rw [show ((k : Int)).toNat = k by omega, h.hY]; omega
  constructor
  · rintro ⟨i, hi, hc⟩
    rw [e i hi] at hc
    exact ⟨hm, by omega, hk, X + i, by rw [e1]; omega, by rw [e2]; omega, hc⟩
  · rintro ⟨_, _, _, i, h1, h2, hc⟩
    rw [e1] at h1
    rw [e2] at h2
    exact ⟨i - X, by omega, by rw [e _ (by omega), show X + (i - X) = i by omega]; exact hc⟩
set_option maxRecDepth 100000 in
set_option maxHeartbeats 16000000 in
/-- sparse.find, of a row that there is not. -/
theorem find_out (rows width : Int) (a1 a2 : Option Addr) (n1 c1 n2 c2 : Nat) (r t : Int) (w : World) (ho : r < 0 ∨ rows ≤ r) :
    Calls Try.prog 70 #[patV rows width a1 n1 c1 a2 n2 c2, .int .i64 r, .int .i64 t] w fun e w' => e = .returned (.tuple #[.int .i64 0, .bool false]) ∧ Below w.heap.size w w' := by
  obtain ⟨wb, hwb⟩ : ∃ x, w.alloc (.cells #[.int .i64 rows, .int .i64 width, .slice a1 n1 c1, .slice a2 n2 c2] 24) = x := ⟨_, rfl⟩
  have bb : Below w.heap.size w wb := by rw [← hwb]; exact (Below.refl _ _).alloc (Nat.le_refl _) _
  have p0 : wb.cell? ⟨w.heap.size, 0, none⟩ = some (.int .i64 rows) := by rw [← hwb]; simp
  have HB := hide bb
  clear bb
  unfold patV
  by_cases h0 : r < 0
  · clear ho
    go_enter Try.func70, Try.ntmps70
    go_wp2_with fail
    refine bodyPost_ret (by simp [results, Try.results70, go_sem]; try rfl) rfl ?_
    exact ⟨rfl, unhide HB⟩
  · have h1 : rows ≤ r := by omega
    clear ho
    go_enter Try.func70, Try.ntmps70
    go_wp2_with fail
    refine bodyPost_ret (by simp [results, Try.results70, go_sem]; try rfl) rfl ?_
    exact ⟨rfl, unhide HB⟩
set_option maxRecDepth 100000 in
set_option maxHeartbeats 16000000 in
/-- sparse.find, of a row of a pattern that may be. -/
theorem find_in (rows width : Int) (a1 a2 : Option Addr) (n1 c1 n2 c2 : Nat) (st cols : List Int) (k X Y : Nat) (t : Int) (w : World) (h1 : SlI w a1 n1 c1 st) (h2 : SlI w a2 n2 c2 cols) (hb1 : n1 ≤ 17592186044416) (hb2 : n2 ≤ 17592186044416) (hl1 : (n1 : Int) = rows + 1) (hk : (k : Int) < rows) (hR : RowAt st cols width k X Y) (ok : Bool) (hok : ok = true ↔ HasX ((cols.drop X).take (Y - X)) (Y - X) t) (i : Nat) (hi : BsP ((cols.drop X).take (Y - X)) (Y - X) t i) :
    Calls Try.prog 70 #[patV rows width a1 n1 c1 a2 n2 c2, .int .i64 (k : Int), .int .i64 t] w fun e w' => e = .returned (.tuple #[.int .i64 ((X + i : Nat) : Int), .bool ok]) ∧ Below w.heap.size w w' := by
  obtain ⟨wb, hwb⟩ : ∃ x, w.alloc (.cells #[.int .i64 rows, .int .i64 width, .slice a1 n1 c1, .slice a2 n2 c2] 24) = x := ⟨_, rfl⟩
  have bb : Below w.heap.size w wb := by rw [← hwb]; exact (Below.refl _ _).alloc (Nat.le_refl _) _
  have hB : ∀ q u, [Value.int .i64 rows, .int .i64 width, .slice a1 n1 c1, .slice a2 n2 c2][q]? = some u → wb.cell? ⟨w.heap.size, q, none⟩ = some u := by
    intro q u hq
    rw [← hwb]
    have hq' : #[Value.int .i64 rows, .int .i64 width, .slice a1 n1 c1, .slice a2 n2 c2][q]? = some u := by simpa using hq
    simp [hq']
  have p0 := hB 0 _ rfl
  have p1 := hB 1 _ rfl
  have p2 := hB 2 _ rfl
  have p3 := hB 3 _ rfl
  obtain ⟨b1, o1, rfl, hc1⟩ := (h1.below bb).at (by omega)
  have sk := hc1 k (by omega)
  have sk1 := hc1 (k + 1) (by omega)
  rw [hR.hX] at sk
  rw [hR.hY] at sk1
  have hcl := h2.len
  have hnc := h2.le
  have tXY : (X : Int) ≤ (Y : Int) := by have := hR.le; omega
  have tYc : (Y : Int) ≤ (c2 : Int) := by have := hR.lt; omega
  have tk0 : ¬ (k : Int) < 0 := by omega
  have tkr : ¬ rows ≤ (k : Int) := by omega
  have tk1 : (k : Int) < (n1 : Int) := by omega
  have tk2 : (k : Int) + 1 < (n1 : Int) := by omega
  obtain ⟨z, hz⟩ : ∃ z, X + i = z := ⟨_, rfl⟩
  have hz2 : (X : Int) + (i : Int) = (z : Int) := by omega
  have hzl : z ≤ n2 := by have := hi.le; have := hR.lt; have := hR.le; omega
  have KB := hide (fun (W : World) (d : Dr wb W) => bsearch_known _ _ _ _ t W (((h2.below bb).below d.below).sub hR.le (by have := hR.lt; omega)) (by have := hR.lt; omega) hR.up ok hok i hi)
  have HB := hide bb
  have HL := hide hl1
  rw [hz]
  clear bb hB h1 h2 hR hok hi hc1 hz hcl hl1 hk
  unfold patV
  go_enter Try.func70, Try.ntmps70
  go_wp2_with fail
  go_quiet ((go_at_call 87; exact Calls.quiet_of (unhide KB _ ⟨_, rfl⟩)))
  all_goals go_wp2_with fail
  all_goals refine bodyPost_ret (by simp [results, Try.results70, go_sem]; try rfl) rfl ?_
  all_goals exact ⟨rfl, bel_drewN (unhide HB) _⟩
end Go.Proofs.Ytpmafjofkmefeaa

namespace Go.Proofs.Ytpmafjofkmefeaa
open Go.RowKit Go.Deep
set_option linter.unusedVariables false

theorem BIq.qi {P : Prop} {ok : Bool} {w w' : World} {e : Ending} (h : BIq P w w' e) (ho : ok = true ↔ P) : QI ok w w' e := by
  obtain ⟨⟨b, rfl, hb⟩, rfl⟩ := h
  refine ⟨?_, Dr.refl _⟩
  have : b = ok := by have h4 := hb.trans ho.symm; cases b <;> cases ok <;> simp_all
  rw [this]
/-- What the document has seen of the rows ahead of k. -/
structure SeenP (width : Int) (st cols : List Int) (k : Nat) : Prop where
  up : ∀ r, r < k → st.getD r 0 ≤ st.getD (r + 1) 0
  row : ∀ r, r < k → RowP width cols (st.getD r 0).toNat (st.getD (r + 1) 0).toNat
  rng : 0 ≤ st.getD k 0 ∧ st.getD k 0 ≤ (cols.length : Int)
end Go.Proofs.Ytpmafjofkmefeaa

namespace Go.Proofs.Ytpmafjofkmefeaa
open Go.RowKit Go.Deep
set_option linter.unusedVariables false

theorem quiet_at {P : Program} {f : FuncId} {args : Array Value} {w : World} {d x : Nat} {v : Value} (h : Calls P f args (w.drewN (d + x)) fun e w' => e = .returned v ∧ ∃ k, w' = (w.drewN (d + x)).drewN k) :
    Calls P f args (w.drewN (d + x)) fun e w'' => e = .returned v ∧ ∃ n, w'' = w.drewN (d + n) :=
  h.mono fun _ _ ⟨he, m, hm⟩ => ⟨he, x + m, by rw [hm, drewN_add, Nat.add_assoc]⟩

set_option maxHeartbeats 2000000 in
theorem whole_any (w : World) (B : Nat) (h1 : w.cell? ⟨B, 12, none⟩ = some (.slice none 0 0)) (h2 : w.cell? ⟨B, 14, none⟩ = some (.slice none 0 0)) (h3 : w.cell? ⟨B, 16, none⟩ = some (.slice none 0 0)) (h4 : w.cell? ⟨B, 18, none⟩ = some (.slice none 0 0)) :
    Calls Try.prog 22 #[.pointer (some ⟨B, 0, none⟩)] w fun e w' => e = .returned (.bool true) ∧ w' = w := by
  go_enter Try.func22, Try.ntmps22
  go_wp2
  go_loop [3] (fun i => i = .int .i64 0) (fun i => (intOf i).toNat)
  case atStart => rfl
  case round =>
    subst hrel
    go_wp2
    go_loop [4] (fun i => i = .int .i64 0) (fun i => (intOf i).toNat)
    case atStart => rfl
    case round =>
      subst hrel
      go_wp2
      go_loop [5] (fun i => i = .int .i64 0) (fun i => (intOf i).toNat)
      case atStart => rfl
      case round =>
        subst hrel
        go_wp2
        go_loop [9] (fun i => i = .int .i64 0) (fun i => (intOf i).toNat)
        case atStart => rfl
        case round =>
          subst hrel
          go_wp2
          go_ret
          exact ⟨rfl, rfl⟩
set_option maxHeartbeats 4000000 in
theorem intact_nil (w : World) (B : Nat) (a0 : Option Addr) (c0 : Nat) (h0 : w.cell? ⟨B, 0, none⟩ = some (.slice a0 0 c0)) (h2 : w.cell? ⟨B, 2, none⟩ = some (.slice none 0 0)) (h4 : w.cell? ⟨B, 4, none⟩ = some (.slice none 0 0)) (h6 : w.cell? ⟨B, 6, none⟩ = some (.slice none 0 0)) (h8 : w.cell? ⟨B, 8, none⟩ = some (.slice none 0 0)) (h10 : w.cell? ⟨B, 10, none⟩ = some (.slice none 0 0)) (h12 : w.cell? ⟨B, 12, none⟩ = some (.slice none 0 0)) (h14 : w.cell? ⟨B, 14, none⟩ = some (.slice none 0 0)) (h16 : w.cell? ⟨B, 16, none⟩ = some (.slice none 0 0)) (h18 : w.cell? ⟨B, 18, none⟩ = some (.slice none 0 0)) :
    Calls Try.prog 8 #[.pointer (some ⟨B, 0, none⟩)] w fun e w' => e = .returned (.bool true) ∧ ∃ k, w' = w.drewN k := by
  go_enter Try.func8, Try.ntmps8
  go_wp2
  go_loopw [3] (fun i wr => i = .int .i64 0 ∧ ∃ d, wr = w.drewN d) (fun i _ => (intOf i).toNat)
  case atStart => exact ⟨rfl, 0, rfl⟩
  case round =>
    obtain ⟨rfl, d, rfl⟩ := hrel
    go_wp2_with fail
    go_loopw [4] (fun i wr => i = .int .i64 0 ∧ ∃ d, wr = w.drewN d) (fun i _ => (intOf i).toNat)
    case atStart => exact ⟨rfl, _, rfl⟩
    case round =>
      obtain ⟨rfl, d, rfl⟩ := hrel
      go_wp2_with fail
      go_loopw [5] (fun i wr => i = .int .i64 0 ∧ ∃ d, wr = w.drewN d) (fun i _ => (intOf i).toNat)
      case atStart => exact ⟨rfl, _, rfl⟩
      case round =>
        obtain ⟨rfl, d, rfl⟩ := hrel
        go_wp2_with fail
        go_loopw [6] (fun i wr => i = .int .i64 0 ∧ ∃ d, wr = w.drewN d) (fun i _ => (intOf i).toNat)
        case atStart => exact ⟨rfl, _, rfl⟩
        case round =>
          obtain ⟨rfl, d, rfl⟩ := hrel
          go_wp2_with fail
          go_loopw [7] (fun i wr => i = .int .i64 0 ∧ ∃ d, wr = w.drewN d) (fun i _ => (intOf i).toNat)
          case atStart => exact ⟨rfl, _, rfl⟩
          case round =>
            obtain ⟨rfl, d, rfl⟩ := hrel
            go_wp2_with fail
            go_loopw [8] (fun i wr => i = .int .i64 0 ∧ ∃ d, wr = w.drewN d) (fun i _ => (intOf i).toNat)
            case atStart => exact ⟨rfl, _, rfl⟩
            case round =>
              obtain ⟨rfl, d, rfl⟩ := hrel
              go_wp2_with fail
              refine (whole_any (w.drewN d) B h12 h14 h16 h18).mono ?_
              rintro e w' ⟨rfl, rfl⟩
              go_wp2
              go_ret
              exact ⟨rfl, _, rfl⟩

set_option maxHeartbeats 4000000 in
set_option maxRecDepth 100000 in
theorem intact_some (w : World) (B g0 c0 g1 c1 m : Nat) (es : List Ent) (hm : es.length = m) (hm2 : m ≤ maxLen) (h0 : w.cell? ⟨B, 0, none⟩ = some (.slice (some ⟨g0, 0, none⟩) m c0)) (h1 : w.cell? ⟨B, 1, none⟩ = some (.slice (some ⟨g1, 0, none⟩) m c1))
    (hr0 : ∀ k (h : k < es.length), w.cell? ⟨g0, k, none⟩ = some es[k].v) (hr1 : ∀ k (h : k < es.length), w.cell? ⟨g1, k, none⟩ = some es[k].v0)
    (hes : ∀ e ∈ es, Sl w (some ⟨Ent.b e, 0, none⟩) (e.xs.length + 3) e.c (e.xs ++ marks) ∧ Sl w (some ⟨e.b0, 0, none⟩) (e.xs.length + 3) e.c0 (e.xs ++ marks))
    (h2 : w.cell? ⟨B, 2, none⟩ = some (.slice none 0 0)) (h4 : w.cell? ⟨B, 4, none⟩ = some (.slice none 0 0)) (h6 : w.cell? ⟨B, 6, none⟩ = some (.slice none 0 0)) (h8 : w.cell? ⟨B, 8, none⟩ = some (.slice none 0 0)) (h10 : w.cell? ⟨B, 10, none⟩ = some (.slice none 0 0)) (h12 : w.cell? ⟨B, 12, none⟩ = some (.slice none 0 0)) (h14 : w.cell? ⟨B, 14, none⟩ = some (.slice none 0 0)) (h16 : w.cell? ⟨B, 16, none⟩ = some (.slice none 0 0)) (h18 : w.cell? ⟨B, 18, none⟩ = some (.slice none 0 0)) :
    Calls Try.prog 8 #[.pointer (some ⟨B, 0, none⟩)] w fun e w' => e = .returned (.bool true) ∧ ∃ k, w' = w.drewN k := by
  unfold maxLen at hm2
  go_enter Try.func8, Try.ntmps8
  go_wp2
  go_loopw [3] (fun i wr => ∃ k : Nat, k ≤ m ∧ i = .int .i64 k ∧ ∃ d, wr = w.drewN d) (fun i _ => m - (intOf i).toNat)
  case atStart => exact ⟨0, Nat.zero_le _, rfl, 0, rfl⟩
  case round =>
    obtain ⟨k, hk, rfl, d, rfl⟩ := hrel
    by_cases hlt : k < m
    · have hlt' : (k:Int) < (m:Int) := by omega
      have g0' := hr0 k (by omega)
      have g1' := hr1 k (by omega)
      have HE := hide (hes es[k] (List.getElem_mem (by omega)))
      generalize es[k] = E at g0' g1' HE
      unfold Ent.v at g0'
      unfold Ent.v0 at g1'
      have K := fun j => (sameNat_any _ _ _ _ _ _ _ _ (w.drewN j) ((unhide HE).1.drewN j) ((unhide HE).2.drewN j))
      rw [show decide (E.xs ++ marks = E.xs ++ marks) = true from by simp] at K
      have KK := hide K
      clear K hr0 hr1 hes HE
      go_wp2_with fail
      go_quiet ((go_at_call 17; exact quiet_at (unhide KK _)))
      go_wp2
      exact ⟨⟨k + 1, by omega, by go_num, _, rfl⟩, by simp [intOf]; omega⟩
    · clear hr0 hr1 hes
      go_wp2_with fail
      go_loopw [4] (fun i wr => i = .int .i64 0 ∧ ∃ d, wr = w.drewN d) (fun i _ => (intOf i).toNat)
      case atStart => exact ⟨rfl, _, rfl⟩
      case round =>
        obtain ⟨rfl, d, rfl⟩ := hrel
        go_wp2_with fail
        go_loopw [5] (fun i wr => i = .int .i64 0 ∧ ∃ d, wr = w.drewN d) (fun i _ => (intOf i).toNat)
        case atStart => exact ⟨rfl, _, rfl⟩
        case round =>
          obtain ⟨rfl, d, rfl⟩ := hrel
          go_wp2_with fail
          go_loopw [6] (fun i wr => i = .int .i64 0 ∧ ∃ d, wr = w.drewN d) (fun i _ => (intOf i).toNat)
          case atStart => exact ⟨rfl, _, rfl⟩
          case round =>
            obtain ⟨rfl, d, rfl⟩ := hrel
            go_wp2_with fail
            go_loopw [7] (fun i wr => i = .int .i64 0 ∧ ∃ d, wr = w.drewN d) (fun i _ => (intOf i).toNat)
            case atStart => exact ⟨rfl, _, rfl⟩
            case round =>
              obtain ⟨rfl, d, rfl⟩ := hrel
              go_wp2_with fail
              go_loopw [8] (fun i wr => i = .int .i64 0 ∧ ∃ d, wr = w.drewN d) (fun i _ => (intOf i).toNat)
              case atStart => exact ⟨rfl, _, rfl⟩
              case round =>
                obtain ⟨rfl, d, rfl⟩ := hrel
                go_wp2_with fail
                refine (whole_any (w.drewN d) B h12 h14 h16 h18).mono ?_
                rintro e w' ⟨rfl, rfl⟩
                go_wp2
                go_ret
                exact ⟨rfl, _, rfl⟩

/-- slopeplain.Given.Intact. -/
theorem intact_any (w : World) (B : Nat) (v0 v1 : Value) (es : List Ent) (hg : Giv w B v0 v1 es) :
    Calls Try.prog 8 #[.pointer (some ⟨B, 0, none⟩)] w fun e w' => e = .returned (.bool true) ∧ ∃ k, w' = w.drewN k := by
  obtain ⟨cur, hcur, hc20, hc0, hc1, hcr⟩ := hg.blk
  have c0 : w.cell? ⟨B, 0, none⟩ = some v0 := (cell_of_block hcur 0).trans hc0
  have c1 : w.cell? ⟨B, 1, none⟩ = some v1 := (cell_of_block hcur 1).trans hc1
  have cr : ∀ i, 2 ≤ i → i < 20 → w.cell? ⟨B, i, none⟩ = some (.slice none 0 0) := fun i h2 h20 => (cell_of_block hcur i).trans (hcr i h2 h20)
  have r2 := cr 2 (by omega) (by omega)
  have r4 := cr 4 (by omega) (by omega)
  have r6 := cr 6 (by omega) (by omega)
  have r8 := cr 8 (by omega) (by omega)
  have r10 := cr 10 (by omega) (by omega)
  have r12 := cr 12 (by omega) (by omega)
  have r14 := cr 14 (by omega) (by omega)
  have r16 := cr 16 (by omega) (by omega)
  have r18 := cr 18 (by omega) (by omega)
  obtain ⟨l0, o0⟩ := hg.own0
  obtain ⟨l1, o1⟩ := hg.own1
  rcases o0 with ⟨e0, n0⟩ | ⟨g0, p0, u0, e0, b0, k0, s0, t0, z0, x0⟩
  · subst e0
    exact intact_nil w B none 0 c0 r2 r4 r6 r8 r10 r12 r14 r16 r18
  · subst e0
    by_cases hz : es.length = 0
    · rw [hz] at c0
      exact intact_nil w B _ p0 c0 r2 r4 r6 r8 r10 r12 r14 r16 r18
    · rcases o1 with ⟨e1, n1⟩ | ⟨g1, p1, u1, e1, b1, k1, s1, t1, z1, x1⟩
      · exact absurd n1 hz
      · subst e1
        refine intact_some w B g0 p0 g1 p1 es.length es rfl (by omega) c0 c1 ?_ ?_ (fun e he => ⟨(hg.ents e he).sl, (hg.ents e he).sl0⟩) r2 r4 r6 r8 r10 r12 r14 r16 r18
        · intro k hk
          rw [cell_of_block k0]
          have : (es.map Ent.v)[k]? = some es[k].v := by simp [hk]
          rw [← x0] at this
          simpa [List.getElem?_take, hk] using this
        · intro k hk
          rw [cell_of_block k1]
          have : (es.map Ent.v0)[k]? = some es[k].v0 := by simp [hk]
          rw [← x1] at this
          simpa [List.getElem?_take, hk] using this
end Go.Proofs.Ytpmafjofkmefeaa
