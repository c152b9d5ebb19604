/- Ra3 -/
import Derived.Test.YtiadccaaoenccaaDoorRa2
import Derived.Test.YtiadccaaoenccaaDoorUpd
import Derived.Lib.LazyBuf
import Derived.Test.YtiadccaaoenccaaDoorShl
import Derived.Test.YtiadccaaoenccaaDoorNMul
namespace Go.Proofs.YtiadccaaoenccaaDoor
open Go.RowKit Go.Deep
set_option linter.unusedVariables false
section
variable {P : Program} {w : World}
theorem wpList_append_firstR {ops : Array Oper} {rest : List Oper} {o : Oper} {a : Act} {Q : Exit → Act → World → Prop} (hgd : o.guard = none) (s x : Operand) (t : TypeId)
    (ho : o.op = .call { callee := .builtin .append, args := #[s, x], argTypes := #[t, t] })
    (base : Nat) (e : TypeId) (i : TypeInfo) (z : Value) (bytes : Nat) (ht : P.underlying t = some (.slice e)) (hi : P.info? e = some i) (hz : i.zero = some z)
    (hsize : i.size = 1) (hby : i.bytes = bytes) (hzs : z.cells.size = 1) (g0 : Nat)
    (hs : a.eval s = .slice (some ⟨g0, 0, none⟩) 0 0) (hown : w.ownsRow base e 1 (.slice (some ⟨g0, 0, none⟩) 0 0) 0 [])
    (ao : Option Addr) (m c : Nat) (news : List Value) (hx : a.eval x = .slice ao m c) (hl : news.length = m) (hnone : ao = none → m = 0 ∧ c = 0)
    (hnews : ∀ ad, ao = some ad → ∀ j u, news[j]? = some u → w.cell? (ad.add j) = some u) (h1 : ∀ u ∈ news, u.oneCell' = true)
    (h63 : m ≤ maxLen) (hbytes : m * bytes ≤ 140737488355328) (hbase : base ≤ w.heap.size)
    (h : ∀ g cap w', w'.ownsRow base e 1 (.slice (some ⟨g, 0, none⟩) m cap) m news → w.grownBy w' (some g0) → wpList P ops Q rest (a.put o.dst (.slice (some ⟨g, 0, none⟩) m cap)) w') : wpList P ops Q (o :: rest) a w := by
  by_cases hm : m = 0
  · refine wpList_append_fits_any w hgd s x t ho base e i 1 ht hi hsize g0 0 0 [] hs hown ao m c news hx (by simpa using hl) hnone hnews h1 (by omega) ?_
    intro w' k1 k2
    simp only [Nat.zero_add, List.nil_append] at k1 ⊢
    exact h g0 0 w' k1 k2
  · cases ao with
    | none => exact absurd (hnone rfl).1 hm
    | some ad =>
      refine wpList_append_lies w hgd s x t ho base e i z 1 bytes ht hi hz hsize hby hzs (by decide) _ 0 [] hs hown ad m c news hx (by simpa using hl) (hnews ad rfl) h1 (by omega) (by simpa using h63) (by simpa using hbytes) hbase _ rfl ?_
      intro g cap w' k1 k2 _ _
      simp only [Nat.zero_add, List.nil_append] at k1 ⊢
      exact h g cap w' k1 k2
end

theorem valsR_one (xs : List Nat) : ∀ u ∈ vals xs, u.oneCell' = true := by
  intro u hu
  simp [vals] at hu
  obtain ⟨x, _, rfl⟩ := hu
  rfl

def NewS (w w' : World) (xs : List Nat) (e : Ending) : Prop := ∃ a m c, e = .returned (.slice a m c) ∧ Sl w' a m c xs ∧ NewAt w.heap.size a ∧ Below w.heap.size w w'

set_option maxHeartbeats 4000000 in
theorem sclone_any (a : Option Addr) (n c : Nat) (xs : List Nat) (w : World) (h : Sl w a n c xs) (hn : n ≤ 1000000) :
    Calls Tryd.prog 44 #[.slice a n c] w fun e w' => NewS w w' xs e := by
  have hl := h.len
  cases a with
  | none =>
    have hx : xs = [] := by
      rcases h.cells with e | ⟨b, off, e, _⟩
      · exact e
      · cases e
    subst hx
    simp at hl
    subst hl
    clear h
    have hq := fun w => (show (binOp .eql 50 (.slice none 0 c) (.slice none 0 0)).run Tryd.prog w = .ok (.bool (none : Option Addr).isNone) w from by apply Lib.run_eql_slice_nil; exact Tryd.underlying50)
    simp only [Option.isNone_none] at hq
    go_enter Tryd.func44, Tryd.ntmps44
    go_wp2_with fail
    go_ret
    exact ⟨none, 0, 0, rfl, sl_nil _, newAt_nil _, Below.refl _ _⟩
  | some x =>
    obtain ⟨i80, hi80, hz80, hs80, hb80⟩ := info_parts Tryd.info_u32
    have I80 := hide (And.intro hi80 (And.intro hz80 (And.intro hs80 hb80)))
    have H := hide h
    clear hi80 hz80 hs80 hb80 h
    have hq := fun w => (show (binOp .eql 50 (.slice (some x) n c) (.slice none 0 0)).run Tryd.prog w = .ok (.bool (some x).isNone) w from by apply Lib.run_eql_slice_nil; exact Tryd.underlying50)
    simp only [Option.isNone_some] at hq
    go_enter Tryd.func44, Tryd.ntmps44
    go_wp2_with (at_builtin; refine wpList_append_firstR rfl _ _ 50 rfl w.heap.size 74 i80 (.int .u32 0) 4 Tryd.underlying50 (unhide I80).1 (unhide I80).2.1 (unhide I80).2.2.1 (unhide I80).2.2.2 rfl w.heap.size rfl ⟨rfl, .inr ⟨w.heap.size, 0, #[], rfl, Nat.le_refl _, alloc_block _ _, Nat.le_refl _, Nat.zero_le _, rfl, rfl⟩⟩ (some x) n c (vals xs) rfl (by simp [vals, hl]) (by intro e; cases e) ?hnews (valsR_one xs) (by unfold maxLen; omega) (by omega) (by simp) ?_)
    case hnews =>
      intro ad had j u hu
      have hj : j < xs.length := by
        have := (List.getElem?_eq_some_iff.1 hu).1
        simpa [vals] using this
      have hne : xs ≠ [] := by intro e; rw [e] at hj; simp at hj
      obtain ⟨b, off, e, hc⟩ := (unhide H).cells.resolve_left hne
      rw [e] at had
      cases had
      have h1 := hc j hj
      have e2 : (⟨b, off, none⟩ : Addr).add j = ⟨b, off + j, none⟩ := by unfold Addr.add; split <;> simp_all
      rw [e2, World.cell?_alloc_lt _ _ _ (World.block_lt_of_cell? _ _ h1), h1, ← hu]
      simp [vals, List.getD, hj]
    intro g cap w2 hown hgrow
    obtain ⟨a2, c2, e2, s2, n2⟩ := own_sl hown
    cases e2
    have HB := hide (show Below w.heap.size w w2 from Below.grown ((Below.refl _ _).alloc (Nat.le_refl _) _) hgrow (by simp) (fun k hk => by cases hk; exact Nat.le_refl _))
    have HS := hide (And.intro s2 n2)
    clear hown hgrow s2 n2
    go_wp2_with fail
    go_ret
    exact ⟨_, n, cap, rfl, (unhide HS).1, (unhide HS).2, unhide HB⟩
def NewR (w w' : World) (neg : Bool) (xs ys : List Nat) (v : Value) : Prop :=
  ∃ a1 m1 c1 a2 m2 c2, v = ratV neg a1 m1 c1 a2 m2 c2 ∧ Sl w' a1 m1 c1 xs ∧ Sl w' a2 m2 c2 ys ∧ NewAt w.heap.size a1 ∧ NewAt w.heap.size a2 ∧ Below w.heap.size w w'

structure Box (w wa : World) (neg : Bool) (a1 : Option Addr) (n1 c1 : Nat) (a2 : Option Addr) (n2 c2 : Nat) : Prop where
  bel : Below w.heap.size w wa
  lt : w.heap.size < wa.heap.size
  d0 : wa.cell? ⟨w.heap.size, 0, none⟩ = some (.bool neg)
  d1 : wa.cell? ⟨w.heap.size, 1, none⟩ = some (.slice a1 n1 c1)
  d2 : wa.cell? ⟨w.heap.size, 2, none⟩ = some (.slice a2 n2 c2)

theorem Box.made (w : World) (neg : Bool) (a1 : Option Addr) (n1 c1 : Nat) (a2 : Option Addr) (n2 c2 : Nat) : Box w (ratBox w neg a1 n1 c1 a2 n2 c2) neg a1 n1 c1 a2 n2 c2 :=
  ⟨(Below.refl _ _).alloc (Nat.le_refl _) _, by simp [ratBox], by simp [ratBox], by simp [ratBox], by simp [ratBox]⟩
theorem Box.keep {w wa wb : World} {neg : Bool} {a1 : Option Addr} {n1 c1 : Nat} {a2 : Option Addr} {n2 c2 : Nat} (h : Box w wa neg a1 n1 c1 a2 n2 c2) (k : Below wa.heap.size wa wb) : Box w wb neg a1 n1 c1 a2 n2 c2 := by
  have hc : ∀ i, wb.cell? ⟨w.heap.size, i, none⟩ = wa.cell? ⟨w.heap.size, i, none⟩ := fun i => by unfold World.cell?; simp only; rw [k.block _ h.lt]
  exact ⟨h.bel.trans (k.mono h.bel.size), Nat.lt_of_lt_of_le h.lt k.size, (hc 0).trans h.d0, (hc 1).trans h.d1, (hc 2).trans h.d2⟩

theorem three_set (w1 : World) (R : Nat) (v0 v1 v2 : Value) (h : ∀ i, i < 3 → ∃ v, w1.cell? ⟨R, i, none⟩ = some v) :
    (((w1.setCell ⟨R, 0, none⟩ v0).setCell ⟨R, 1, none⟩ v1).setCell ⟨R, 2, none⟩ v2).cell? ⟨R, 0, none⟩ = some v0 ∧
    (((w1.setCell ⟨R, 0, none⟩ v0).setCell ⟨R, 1, none⟩ v1).setCell ⟨R, 2, none⟩ v2).cell? ⟨R, 1, none⟩ = some v1 ∧
    (((w1.setCell ⟨R, 0, none⟩ v0).setCell ⟨R, 1, none⟩ v1).setCell ⟨R, 2, none⟩ v2).cell? ⟨R, 2, none⟩ = some v2 ∧
    Chg (fun j => j = R) w1 (((w1.setCell ⟨R, 0, none⟩ v0).setCell ⟨R, 1, none⟩ v1).setCell ⟨R, 2, none⟩ v2) := by
  obtain ⟨x0, h0⟩ := h 0 (by decide)
  obtain ⟨x1, h1⟩ := h 1 (by decide)
  obtain ⟨x2, h2⟩ := h 2 (by decide)
  have s0 : (w1.setCell ⟨R, 0, none⟩ v0).cell? ⟨R, 0, none⟩ = some v0 := World.cell?_setCell_same _ _ _ h0
  have s1 : (w1.setCell ⟨R, 0, none⟩ v0).cell? ⟨R, 1, none⟩ = some x1 := by rw [World.cell?_setCell_other _ _ _ _ (by simp)]; exact h1
  have s2 : (w1.setCell ⟨R, 0, none⟩ v0).cell? ⟨R, 2, none⟩ = some x2 := by rw [World.cell?_setCell_other _ _ _ _ (by simp)]; exact h2
  have t1 : ((w1.setCell ⟨R, 0, none⟩ v0).setCell ⟨R, 1, none⟩ v1).cell? ⟨R, 1, none⟩ = some v1 := World.cell?_setCell_same _ _ _ s1
  have t2 : ((w1.setCell ⟨R, 0, none⟩ v0).setCell ⟨R, 1, none⟩ v1).cell? ⟨R, 2, none⟩ = some x2 := by rw [World.cell?_setCell_other _ _ _ _ (by simp)]; exact s2
  refine ⟨?_, ?_, World.cell?_setCell_same _ _ _ t2, ((Chg.of_set (S := fun j => j = R) _ _ _ _ rfl).trans (Chg.of_set (S := fun j => j = R) _ _ _ _ rfl)).trans (Chg.of_set (S := fun j => j = R) _ _ _ _ rfl)⟩
  · rw [World.cell?_setCell_other _ _ _ _ (by simp), World.cell?_setCell_other _ _ _ _ (by simp)]; exact s0
  · rw [World.cell?_setCell_other _ _ _ _ (by simp)]; exact t1

structure Out (w : World) (R : Nat) : Prop where
  cells : ∀ i, i < 3 → ∃ v, w.cell? ⟨R, i, none⟩ = some v
  fz : ∀ i, i < 3 → w.frozen? ⟨R, i, none⟩ = false
  lt : R < w.heap.size
theorem Out.made (w : World) : Out (w.alloc (.cells #[.bool false, .slice none 0 0, .slice none 0 0] 52)) w.heap.size := by
  refine ⟨fun i hi => ?_, fun i hi => ?_, by simp⟩
  · match i, hi with
    | 0, _ => exact ⟨.bool false, by simp⟩
    | 1, _ => exact ⟨.slice none 0 0, by simp⟩
    | 2, _ => exact ⟨.slice none 0 0, by simp⟩
  · match i, hi with
    | 0, _ => simp
    | 1, _ => simp
    | 2, _ => simp
theorem Out.keep {w w' : World} {R : Nat} (h : Out w R) (k : Below w.heap.size w w') : Out w' R := by
  refine ⟨fun i hi => ?_, fun i hi => ?_, Nat.lt_of_lt_of_le h.lt k.size⟩
  · obtain ⟨v, hv⟩ := h.cells i hi
    exact ⟨v, by rw [← hv]; unfold World.cell?; simp only; rw [k.block _ h.lt]⟩
  · rw [← h.fz i hi]; unfold World.frozen?; simp only; rw [k.block _ h.lt]
end Go.Proofs.YtiadccaaoenccaaDoor

namespace Go.Proofs.YtiadccaaoenccaaDoor
open Go.RowKit Go.Deep
set_option linter.unusedVariables false

end Go.Proofs.YtiadccaaoenccaaDoor

namespace Go.Proofs.YtiadccaaoenccaaDoor
open Go.RowKit Go.Deep
set_option linter.unusedVariables false

end Go.Proofs.YtiadccaaoenccaaDoor

namespace Go.Proofs.YtiadccaaoenccaaDoor
open Go.RowKit Go.Deep
set_option linter.unusedVariables false

end Go.Proofs.YtiadccaaoenccaaDoor
namespace Go.Proofs.YtiadccaaoenccaaDoor
open Go.RowKit Go.Deep
set_option linter.unusedVariables false
structure Trimmed (ps qs : List Pc) (m : Nat) : Prop where
  le : m ≤ ps.length
  eq : qs = ps.take m
  zero : ∀ i p, m ≤ i → ps[i]? = some p → p.xs = []
  top : m = 0 ∨ ∃ p, ps[m - 1]? = some p ∧ p.xs ≠ []

theorem SlL.take {w : World} {a : Option Addr} {n c : Nat} {ps : List Pc} (h : SlL w a n c ps) {m : Nat} (hm : m ≤ n) : SlL w a m c (ps.take m) := by
  have hl := h.len
  refine ⟨by rw [List.length_take]; omega, Nat.le_trans hm h.le, ?_, fun p hp => h.each p (List.mem_of_mem_take hp)⟩
  rcases h.cells with e | ⟨b, off, e, hc⟩
  · left; rw [e]; simp
  · right
    refine ⟨b, off, e, fun i p hp => hc i p ?_⟩
    rw [List.getElem?_take] at hp
    split at hp
    · exact hp
    · cases hp
def dLimbs : Nat := 1024
def wD : Nat := 4294967296 ^ dLimbs
def wv : List Pc → Nat
  | [] => 0
  | p :: ps => val p.xs + wD * wv ps

structure Wide (w : World) (a : Option Addr) (n c : Nat) (v : Nat) (ps : List Pc) : Prop where
  sl : SlL w a n c ps
  norm : ∀ p ∈ ps, Norm p.xs
  len : ∀ p ∈ ps, p.n ≤ dLimbs
  top : ps = [] ∨ ∃ p, ps.getLast? = some p ∧ p.xs ≠ []
  val : wv ps = v

theorem Wide.below {w w' : World} {a : Option Addr} {n c v : Nat} {ps : List Pc} (h : Wide w a n c v ps) (k : Below w.heap.size w w') : Wide w' a n c v ps := ⟨h.sl.below k, h.norm, h.len, h.top, h.val⟩
end Go.Proofs.YtiadccaaoenccaaDoor

namespace Go.Proofs.YtiadccaaoenccaaDoor
open Go.RowKit Go.Deep
set_option linter.unusedVariables false

end Go.Proofs.YtiadccaaoenccaaDoor

namespace Go.Proofs.YtiadccaaoenccaaDoor
open Go.RowKit Go.Deep
set_option linter.unusedVariables false

end Go.Proofs.YtiadccaaoenccaaDoor
