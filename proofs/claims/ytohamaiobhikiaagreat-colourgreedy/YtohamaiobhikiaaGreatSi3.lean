/-
  slopeplain.Given.Intact: its contract.
-/
import Derived.Test.YtohamaiobhikiaaGreatGiv2
import Derived.Test.YtohamaiobhikiaaGreatSi1
import Derived.Test.YtohamaiobhikiaaGreatSi2
namespace Go.Proofs.YtohamaiobhikiaaGreat
open Go.RowKit Go.Deep
set_option linter.unusedVariables false

theorem quiet_at {P : Program} {f : FuncId} {args : Array Value} {w : World} {d x : Nat} {v : Value} (h : Calls P f args (w.drewN (d + x)) fun e w' => e = .returned v ∧ ∃ k, w' = (w.drewN (d + x)).drewN k) :
    Calls P f args (w.drewN (d + x)) fun e w'' => e = .returned v ∧ ∃ n, w'' = w.drewN (d + n) :=
  h.mono fun _ _ ⟨he, m, hm⟩ => ⟨he, x + m, by rw [hm, drewN_add, Nat.add_assoc]⟩

set_option maxHeartbeats 2000000 in
theorem whole_any (w : World) (B : Nat) (h1 : w.cell? ⟨B, 12, none⟩ = some (.slice none 0 0)) (h2 : w.cell? ⟨B, 14, none⟩ = some (.slice none 0 0)) (h3 : w.cell? ⟨B, 16, none⟩ = some (.slice none 0 0)) (h4 : w.cell? ⟨B, 18, none⟩ = some (.slice none 0 0)) :
    Calls Tryz.prog 25 #[.pointer (some ⟨B, 0, none⟩)] w fun e w' => e = .returned (.bool true) ∧ w' = w := by
  go_enter Tryz.func25, Tryz.ntmps25
  go_wp2
  go_loop [3] (fun i => i = .int .i64 0) (fun i => (intOf i).toNat)
  case atStart => rfl
  case round =>
    subst hrel
    go_wp2
    go_loop [4] (fun i => i = .int .i64 0) (fun i => (intOf i).toNat)
    case atStart => rfl
    case round =>
      subst hrel
      go_wp2
      go_loop [5] (fun i => i = .int .i64 0) (fun i => (intOf i).toNat)
      case atStart => rfl
      case round =>
        subst hrel
        go_wp2
        go_loop [9] (fun i => i = .int .i64 0) (fun i => (intOf i).toNat)
        case atStart => rfl
        case round =>
          subst hrel
          go_wp2
          go_ret
          exact ⟨rfl, rfl⟩
set_option maxHeartbeats 4000000 in
theorem intact_nil (w : World) (B : Nat) (a0 : Option Addr) (c0 : Nat) (h0 : w.cell? ⟨B, 0, none⟩ = some (.slice a0 0 c0)) (h2 : w.cell? ⟨B, 2, none⟩ = some (.slice none 0 0)) (h4 : w.cell? ⟨B, 4, none⟩ = some (.slice none 0 0)) (h6 : w.cell? ⟨B, 6, none⟩ = some (.slice none 0 0)) (h8 : w.cell? ⟨B, 8, none⟩ = some (.slice none 0 0)) (h10 : w.cell? ⟨B, 10, none⟩ = some (.slice none 0 0)) (h12 : w.cell? ⟨B, 12, none⟩ = some (.slice none 0 0)) (h14 : w.cell? ⟨B, 14, none⟩ = some (.slice none 0 0)) (h16 : w.cell? ⟨B, 16, none⟩ = some (.slice none 0 0)) (h18 : w.cell? ⟨B, 18, none⟩ = some (.slice none 0 0)) :
    Calls Tryz.prog 10 #[.pointer (some ⟨B, 0, none⟩)] w fun e w' => e = .returned (.bool true) ∧ ∃ k, w' = w.drewN k := by
  go_enter Tryz.func10, Tryz.ntmps10
  go_wp2
  go_loopw [3] (fun i wr => i = .int .i64 0 ∧ ∃ d, wr = w.drewN d) (fun i _ => (intOf i).toNat)
  case atStart => exact ⟨rfl, 0, rfl⟩
  case round =>
    obtain ⟨rfl, d, rfl⟩ := hrel
    go_wp2_with fail
    go_loopw [4] (fun i wr => i = .int .i64 0 ∧ ∃ d, wr = w.drewN d) (fun i _ => (intOf i).toNat)
    case atStart => exact ⟨rfl, _, rfl⟩
    case round =>
      obtain ⟨rfl, d, rfl⟩ := hrel
      go_wp2_with fail
      go_loopw [5] (fun i wr => i = .int .i64 0 ∧ ∃ d, wr = w.drewN d) (fun i _ => (intOf i).toNat)
      case atStart => exact ⟨rfl, _, rfl⟩
      case round =>
        obtain ⟨rfl, d, rfl⟩ := hrel
        go_wp2_with fail
        go_loopw [6] (fun i wr => i = .int .i64 0 ∧ ∃ d, wr = w.drewN d) (fun i _ => (intOf i).toNat)
        case atStart => exact ⟨rfl, _, rfl⟩
        case round =>
          obtain ⟨rfl, d, rfl⟩ := hrel
          go_wp2_with fail
          go_loopw [7] (fun i wr => i = .int .i64 0 ∧ ∃ d, wr = w.drewN d) (fun i _ => (intOf i).toNat)
          case atStart => exact ⟨rfl, _, rfl⟩
          case round =>
            obtain ⟨rfl, d, rfl⟩ := hrel
            go_wp2_with fail
            go_loopw [8] (fun i wr => i = .int .i64 0 ∧ ∃ d, wr = w.drewN d) (fun i _ => (intOf i).toNat)
            case atStart => exact ⟨rfl, _, rfl⟩
            case round =>
              obtain ⟨rfl, d, rfl⟩ := hrel
              go_wp2_with fail
              refine (whole_any (w.drewN d) B h12 h14 h16 h18).mono ?_
              rintro e w' ⟨rfl, rfl⟩
              go_wp2
              go_ret
              exact ⟨rfl, _, rfl⟩

set_option maxHeartbeats 4000000 in
set_option maxRecDepth 100000 in
theorem intact_some (w : World) (B g0 c0 g1 c1 m : Nat) (es : List Ent) (hm : es.length = m) (hm2 : m ≤ maxLen) (h0 : w.cell? ⟨B, 0, none⟩ = some (.slice (some ⟨g0, 0, none⟩) m c0)) (h1 : w.cell? ⟨B, 1, none⟩ = some (.slice (some ⟨g1, 0, none⟩) m c1))
    (hr0 : ∀ k (h : k < es.length), w.cell? ⟨g0, k, none⟩ = some es[k].v) (hr1 : ∀ k (h : k < es.length), w.cell? ⟨g1, k, none⟩ = some es[k].v0)
    (hes : ∀ e ∈ es, Sl w (some ⟨Ent.b e, 0, none⟩) (e.xs.length + 3) e.c (e.xs ++ marks) ∧ Sl w (some ⟨e.b0, 0, none⟩) (e.xs.length + 3) e.c0 (e.xs ++ marks))
    (h2 : w.cell? ⟨B, 2, none⟩ = some (.slice none 0 0)) (h4 : w.cell? ⟨B, 4, none⟩ = some (.slice none 0 0)) (h6 : w.cell? ⟨B, 6, none⟩ = some (.slice none 0 0)) (h8 : w.cell? ⟨B, 8, none⟩ = some (.slice none 0 0)) (h10 : w.cell? ⟨B, 10, none⟩ = some (.slice none 0 0)) (h12 : w.cell? ⟨B, 12, none⟩ = some (.slice none 0 0)) (h14 : w.cell? ⟨B, 14, none⟩ = some (.slice none 0 0)) (h16 : w.cell? ⟨B, 16, none⟩ = some (.slice none 0 0)) (h18 : w.cell? ⟨B, 18, none⟩ = some (.slice none 0 0)) :
    Calls Tryz.prog 10 #[.pointer (some ⟨B, 0, none⟩)] w fun e w' => e = .returned (.bool true) ∧ ∃ k, w' = w.drewN k := by
  unfold maxLen at hm2
  go_enter Tryz.func10, Tryz.ntmps10
  go_wp2
  go_loopw [3] (fun i wr => ∃ k : Nat, k ≤ m ∧ i = .int .i64 k ∧ ∃ d, wr = w.drewN d) (fun i _ => m - (intOf i).toNat)
  case atStart => exact ⟨0, Nat.zero_le _, rfl, 0, rfl⟩
  case round =>
    obtain ⟨k, hk, rfl, d, rfl⟩ := hrel
    by_cases hlt : k < m
    · have hlt' : (k:Int) < (m:Int) := by omega
      have g0' := hr0 k (by omega)
      have g1' := hr1 k (by omega)
      have HE := hide (hes es[k] (List.getElem_mem (by omega)))
      generalize es[k] = E at g0' g1' HE
      unfold Ent.v at g0'
      unfold Ent.v0 at g1'
      have K := fun j => (sameNat_any _ _ _ _ _ _ _ _ (w.drewN j) ((unhide HE).1.drewN j) ((unhide HE).2.drewN j))
      rw [show decide (E.xs ++ marks = E.xs ++ marks) = true from by simp] at K
      have KK := hide K
      clear K hr0 hr1 hes HE
      go_wp2_with fail
      go_quiet ((go_at_call 20; exact quiet_at (unhide KK _)))
      go_wp2
      exact ⟨⟨k + 1, by omega, by go_num, _, rfl⟩, by simp [intOf]; omega⟩
    · clear hr0 hr1 hes
      go_wp2_with fail
      go_loopw [4] (fun i wr => i = .int .i64 0 ∧ ∃ d, wr = w.drewN d) (fun i _ => (intOf i).toNat)
      case atStart => exact ⟨rfl, _, rfl⟩
      case round =>
        obtain ⟨rfl, d, rfl⟩ := hrel
        go_wp2_with fail
        go_loopw [5] (fun i wr => i = .int .i64 0 ∧ ∃ d, wr = w.drewN d) (fun i _ => (intOf i).toNat)
        case atStart => exact ⟨rfl, _, rfl⟩
        case round =>
          obtain ⟨rfl, d, rfl⟩ := hrel
          go_wp2_with fail
          go_loopw [6] (fun i wr => i = .int .i64 0 ∧ ∃ d, wr = w.drewN d) (fun i _ => (intOf i).toNat)
          case atStart => exact ⟨rfl, _, rfl⟩
          case round =>
            obtain ⟨rfl, d, rfl⟩ := hrel
            go_wp2_with fail
            go_loopw [7] (fun i wr => i = .int .i64 0 ∧ ∃ d, wr = w.drewN d) (fun i _ => (intOf i).toNat)
            case atStart => exact ⟨rfl, _, rfl⟩
            case round =>
              obtain ⟨rfl, d, rfl⟩ := hrel
              go_wp2_with fail
              go_loopw [8] (fun i wr => i = .int .i64 0 ∧ ∃ d, wr = w.drewN d) (fun i _ => (intOf i).toNat)
              case atStart => exact ⟨rfl, _, rfl⟩
              case round =>
                obtain ⟨rfl, d, rfl⟩ := hrel
                go_wp2_with fail
                refine (whole_any (w.drewN d) B h12 h14 h16 h18).mono ?_
                rintro e w' ⟨rfl, rfl⟩
                go_wp2
                go_ret
                exact ⟨rfl, _, rfl⟩

/-- slopeplain.Given.Intact. -/
theorem intact_any (w : World) (B : Nat) (v0 v1 : Value) (es : List Ent) (hg : Giv w B v0 v1 es) :
    Calls Tryz.prog 10 #[.pointer (some ⟨B, 0, none⟩)] w fun e w' => e = .returned (.bool true) ∧ ∃ k, w' = w.drewN k := by
  obtain ⟨cur, hcur, hc20, hc0, hc1, hcr⟩ := hg.blk
  have c0 : w.cell? ⟨B, 0, none⟩ = some v0 := (cell_of_block hcur 0).trans hc0
  have c1 : w.cell? ⟨B, 1, none⟩ = some v1 := (cell_of_block hcur 1).trans hc1
  have cr : ∀ i, 2 ≤ i → i < 20 → w.cell? ⟨B, i, none⟩ = some (.slice none 0 0) := fun i h2 h20 => (cell_of_block hcur i).trans (hcr i h2 h20)
  have r2 := cr 2 (by omega) (by omega)
  have r4 := cr 4 (by omega) (by omega)
  have r6 := cr 6 (by omega) (by omega)
  have r8 := cr 8 (by omega) (by omega)
  have r10 := cr 10 (by omega) (by omega)
  have r12 := cr 12 (by omega) (by omega)
  have r14 := cr 14 (by omega) (by omega)
  have r16 := cr 16 (by omega) (by omega)
  have r18 := cr 18 (by omega) (by omega)
  obtain ⟨l0, o0⟩ := hg.own0
  obtain ⟨l1, o1⟩ := hg.own1
  rcases o0 with ⟨e0, n0⟩ | ⟨g0, p0, u0, e0, b0, k0, s0, t0, z0, x0⟩
  · subst e0
    exact intact_nil w B none 0 c0 r2 r4 r6 r8 r10 r12 r14 r16 r18
  · subst e0
    by_cases hz : es.length = 0
    · rw [hz] at c0
      exact intact_nil w B _ p0 c0 r2 r4 r6 r8 r10 r12 r14 r16 r18
    · rcases o1 with ⟨e1, n1⟩ | ⟨g1, p1, u1, e1, b1, k1, s1, t1, z1, x1⟩
      · exact absurd n1 hz
      · subst e1
        refine intact_some w B g0 p0 g1 p1 es.length es rfl (by omega) c0 c1 ?_ ?_ (fun e he => ⟨(hg.ents e he).sl, (hg.ents e he).sl0⟩) r2 r4 r6 r8 r10 r12 r14 r16 r18
        · intro k hk
          rw [cell_of_block k0]
          have : (es.map Ent.v)[k]? = some es[k].v := by simp [hk]
          rw [← x0] at this
          simpa [List.getElem?_take, hk] using this
        · intro k hk
          rw [cell_of_block k1]
          have : (es.map Ent.v0)[k]? = some es[k].v0 := by simp [hk]
          rw [← x1] at this
          simpa [List.getElem?_take, hk] using this
end Go.Proofs.YtohamaiobhikiaaGreat

namespace Go.Proofs.YtohamaiobhikiaaGreat
open Go.RowKit Go.Deep
set_option linter.unusedVariables false

set_option maxRecDepth 100000 in
set_option maxHeartbeats 8000000 in
/-- slopeplain.SameInts of like lists. -/
theorem sameInts_eq (a1 a2 : Option Addr) (n c1 c2 : Nat) (xs : List Int) (w : World) (h1 : SlI w a1 n c1 xs) (h2 : SlI w a2 n c2 xs) (hn : n ≤ 140737488355328) :
    Calls Tryz.prog 9 #[.slice a1 n c1, .slice a2 n c2] w fun e w' => e = .returned (.bool true) ∧ ∃ m, w' = w.drewN m := by
  have tn : ((n:Int) != (n:Int)) = false := by simp
  have H1 := hide h1
  have H2 := hide h2
  clear h1 h2
  go_enter Tryz.func9, Tryz.ntmps9
  go_wp2_with fail
  go_loopw [5] (fun iv wr => ∃ q : Nat, q ≤ n ∧ iv = .int .i64 (q : Nat) ∧ Hid (Dr w wr)) (fun iv _ => n - (intOf iv).toNat)
  case atStart => exact ⟨0, Nat.zero_le _, rfl, Dr.refl _⟩
  case round =>
    obtain ⟨q, hq, rfl, HW⟩ := hrel
    by_cases hlt : q < n
    · have hlt' : (q:Int) < (n:Int) := by omega
      obtain ⟨g1, o1, rfl, k1⟩ := ((unhide H1).below (unhide HW).below).at (by omega)
      obtain ⟨g2, o2, rfl, k2⟩ := ((unhide H2).below (unhide HW).below).at (by omega)
      have z1 := k1 q hlt
      have z2 := k2 q hlt
      generalize xs.getD q 0 = x at *
      have tx : ((x:Int) != x) = false := by simp
      clear k1 k2
      go_wp2_with fail
      go_quiet (fail)
      go_wp2_with fail
      exact ⟨⟨q + 1, by omega, by (first | rfl | go_num), hide ((unhide HW).n _)⟩, by simp [intOf]; omega⟩
    · have hq2 : q = n := by omega
      subst hq2
      have hlt' : ¬ (q:Int) < (q:Int) := by omega
      go_wp2_with fail
      go_ret
      exact ⟨rfl, unhide HW⟩
set_option maxRecDepth 100000 in
set_option maxHeartbeats 8000000 in
theorem intactI_some (w : World) (B g0 c0 g1 c1 m : Nat) (es : List EntI) (hm : es.length = m) (hm2 : m ≤ maxLen) (h4 : w.cell? ⟨B, 4, none⟩ = some (.slice (some ⟨g0, 0, none⟩) m c0)) (h5 : w.cell? ⟨B, 5, none⟩ = some (.slice (some ⟨g1, 0, none⟩) m c1))
    (hr0 : ∀ k (h : k < es.length), w.cell? ⟨g0, k, none⟩ = some es[k].v) (hr1 : ∀ k (h : k < es.length), w.cell? ⟨g1, k, none⟩ = some es[k].v0)
    (hes : ∀ e ∈ es, SlI w (some ⟨EntI.b e, 0, none⟩) (e.xs.length + 3) e.c (e.xs ++ marksI) ∧ SlI w (some ⟨e.b0, 0, none⟩) (e.xs.length + 3) e.c0 (e.xs ++ marksI) ∧ e.xs.length ≤ 17592186044000)
    (h0 : w.cell? ⟨B, 0, none⟩ = some (.slice none 0 0)) (h2 : w.cell? ⟨B, 2, none⟩ = some (.slice none 0 0)) (h6 : w.cell? ⟨B, 6, none⟩ = some (.slice none 0 0)) (h8 : w.cell? ⟨B, 8, none⟩ = some (.slice none 0 0)) (h10 : w.cell? ⟨B, 10, none⟩ = some (.slice none 0 0)) (h12 : w.cell? ⟨B, 12, none⟩ = some (.slice none 0 0)) (h14 : w.cell? ⟨B, 14, none⟩ = some (.slice none 0 0)) (h16 : w.cell? ⟨B, 16, none⟩ = some (.slice none 0 0)) (h18 : w.cell? ⟨B, 18, none⟩ = some (.slice none 0 0)) :
    Calls Tryz.prog 10 #[.pointer (some ⟨B, 0, none⟩)] w fun e w' => e = .returned (.bool true) ∧ ∃ k, w' = w.drewN k := by
  unfold maxLen at hm2
  go_enter Tryz.func10, Tryz.ntmps10
  go_wp2
  go_loopw [3] (fun i wr => i = .int .i64 0 ∧ ∃ d, wr = w.drewN d) (fun i _ => (intOf i).toNat)
  case atStart => (first | exact ⟨rfl, _, rfl⟩ | exact ⟨rfl, 0, rfl⟩)
  case round =>
    obtain ⟨rfl, d, rfl⟩ := hrel
    go_wp2_with fail
    go_loopw [4] (fun i wr => i = .int .i64 0 ∧ ∃ d, wr = w.drewN d) (fun i _ => (intOf i).toNat)
    case atStart => (first | exact ⟨rfl, _, rfl⟩ | exact ⟨rfl, 0, rfl⟩)
    case round =>
      obtain ⟨rfl, d, rfl⟩ := hrel
      go_wp2_with fail
      go_loopw [5] (fun i wr => ∃ k : Nat, k ≤ m ∧ i = .int .i64 k ∧ ∃ d, wr = w.drewN d) (fun i _ => m - (intOf i).toNat)
      case atStart => exact ⟨0, Nat.zero_le _, rfl, _, rfl⟩
      case round =>
        obtain ⟨k, hk, rfl, d, rfl⟩ := hrel
        by_cases hlt : k < m
        · have hlt' : (k:Int) < (m:Int) := by omega
          have g0' := hr0 k (by omega)
          have g1' := hr1 k (by omega)
          have HE := hide (hes es[k] (List.getElem_mem (by omega)))
          generalize es[k] = E at g0' g1' HE
          unfold EntI.v at g0'
          unfold EntI.v0 at g1'
          have KK := hide (fun j => (sameInts_eq _ _ _ _ _ _ (w.drewN j) ((unhide HE).1.below (bel_drewN (Below.refl _ _) j)) ((unhide HE).2.1.below (bel_drewN (Below.refl _ _) j)) (by have := (unhide HE).2.2; omega)))
          clear hr0 hr1 hes HE
          go_wp2_with fail
          go_quiet ((go_at_call 9; exact quiet_at (unhide KK _)))
          go_wp2
          exact ⟨⟨k + 1, by omega, by go_num, _, rfl⟩, by simp [intOf]; omega⟩
        · clear hr0 hr1 hes
          go_wp2_with fail
          go_loopw [6] (fun i wr => i = .int .i64 0 ∧ ∃ d, wr = w.drewN d) (fun i _ => (intOf i).toNat)
          case atStart => (first | exact ⟨rfl, _, rfl⟩ | exact ⟨rfl, 0, rfl⟩)
          case round =>
            obtain ⟨rfl, d, rfl⟩ := hrel
            go_wp2_with fail
            go_loopw [7] (fun i wr => i = .int .i64 0 ∧ ∃ d, wr = w.drewN d) (fun i _ => (intOf i).toNat)
            case atStart => (first | exact ⟨rfl, _, rfl⟩ | exact ⟨rfl, 0, rfl⟩)
            case round =>
              obtain ⟨rfl, d, rfl⟩ := hrel
              go_wp2_with fail
              go_loopw [8] (fun i wr => i = .int .i64 0 ∧ ∃ d, wr = w.drewN d) (fun i _ => (intOf i).toNat)
              case atStart => (first | exact ⟨rfl, _, rfl⟩ | exact ⟨rfl, 0, rfl⟩)
              case round =>
                obtain ⟨rfl, d, rfl⟩ := hrel
                go_wp2_with fail
                refine (whole_any (w.drewN d) B h12 h14 h16 h18).mono ?_
                rintro e w' ⟨rfl, rfl⟩
                go_wp2
                go_ret
                exact ⟨rfl, _, rfl⟩

/-- slopeplain.Given.Intact, where lists of whole numbers alone are given. -/
theorem intactI_any (w : World) (B : Nat) (v0 v1 : Value) (es : List EntI) (hg : GivI w B v0 v1 es (fun _ => .slice none 0 0)) (hne : es ≠ []) (hb : ∀ e ∈ es, e.xs.length ≤ 17592186044000) :
    Calls Tryz.prog 10 #[.pointer (some ⟨B, 0, none⟩)] w fun e w' => e = .returned (.bool true) ∧ ∃ k, w' = w.drewN k := by
  obtain ⟨cur, hcur, hc20, hc0, hc1, hcr⟩ := hg.blk
  have c0 : w.cell? ⟨B, 4, none⟩ = some v0 := (cell_of_block hcur 4).trans hc0
  have c1 : w.cell? ⟨B, 5, none⟩ = some v1 := (cell_of_block hcur 5).trans hc1
  have cr : ∀ i, i ≠ 4 ∧ i ≠ 5 → i < 20 → w.cell? ⟨B, i, none⟩ = some (.slice none 0 0) := fun i h2 h20 => (cell_of_block hcur i).trans (hcr i h2 h20)
  have hz : es.length ≠ 0 := fun e => hne (List.length_eq_zero_iff.1 e)
  obtain ⟨l0, o0⟩ := hg.own0
  obtain ⟨l1, o1⟩ := hg.own1
  rcases o0 with ⟨e0, n0⟩ | ⟨g0, p0, u0, e0, b0, k0, s0, t0, z0, x0⟩
  · exact absurd n0 hz
  · subst e0
    rcases o1 with ⟨e1, n1⟩ | ⟨g1, p1, u1, e1, b1, k1, s1, t1, z1, x1⟩
    · exact absurd n1 hz
    · subst e1
      refine intactI_some w B g0 p0 g1 p1 es.length es rfl (by omega) c0 c1 ?_ ?_ (fun e he => ⟨(hg.ents e he).sl, (hg.ents e he).sl0, hb e he⟩) (cr 0 (by omega) (by omega)) (cr 2 (by omega) (by omega)) (cr 6 (by omega) (by omega)) (cr 8 (by omega) (by omega)) (cr 10 (by omega) (by omega)) (cr 12 (by omega) (by omega)) (cr 14 (by omega) (by omega)) (cr 16 (by omega) (by omega)) (cr 18 (by omega) (by omega))
      · intro k hk
        rw [cell_of_block k0]
        have : (es.map EntI.v)[k]? = some es[k].v := by simp [hk]
        rw [← x0] at this
        simpa [List.getElem?_take, hk] using this
      · intro k hk
        rw [cell_of_block k1]
        have : (es.map EntI.v0)[k]? = some es[k].v0 := by simp [hk]
        rw [← x1] at this
        simpa [List.getElem?_take, hk] using this
end Go.Proofs.YtohamaiobhikiaaGreat
