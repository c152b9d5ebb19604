/-
  slopelaw3.num, same, sameInts, lent, back: contracts.
-/
import Derived.Test.YtdmfaejngepafaaBt2
namespace Go.Proofs.Ytdmfaejngepafaa
open Go.RowKit Go.Deep
set_option linter.unusedVariables false

theorem Try.info_int : (Try.prog.info? 3).map (fun i => (i.zero, i.size, i.bytes)) = some (some (.int .i64 0), 1, 8) := by kernel_rfl

section
variable {P : Program} {w : World}
/-- append to nothing, of what may be nothing. -/
theorem wpList_append_nil {ops : Array Oper} {rest : List Oper} {o : Oper} {a : Act} {Q : Exit → Act → World → Prop} (hgd : o.guard = none) (s x : Operand) (t : TypeId)
    (ho : o.op = .call { callee := .builtin .append, args := #[s, x], argTypes := #[t, t] })
    (base : Nat) (e : TypeId) (i : TypeInfo) (z : Value) (bytes : Nat) (ht : P.underlying t = some (.slice e)) (hi : P.info? e = some i) (hz : i.zero = some z)
    (hsize : i.size = 1) (hby : i.bytes = bytes) (hzs : z.cells.size = 1)
    (hs : a.eval s = .slice none 0 0)
    (ao : Option Addr) (m c : Nat) (news : List Value) (hx : a.eval x = .slice ao m c) (hl : news.length = m) (hnone : ao = none → m = 0 ∧ c = 0)
    (hnews : ∀ ad, ao = some ad → ∀ j u, news[j]? = some u → w.cell? (ad.add j) = some u) (h1 : ∀ u ∈ news, u.oneCell' = true)
    (h63 : m ≤ maxLen) (hbytes : m * bytes ≤ 140737488355328) (hbase : base ≤ w.heap.size)
    (h : ∀ v w', w'.ownsRow base e 1 v m news → w.grownBy w' none → wpList P ops Q rest (a.put o.dst v) w') : wpList P ops Q (o :: rest) a w := by
  cases ao with
  | none =>
    obtain ⟨rfl, rfl⟩ := hnone rfl
    have hn : news = [] := List.eq_nil_of_length_eq_zero hl
    subst hn
    refine wpList_plain hgd fun K hK => ?_
    have hrun := run_append_owned_none (P := P) (w := w) base t o.type e i 1 ht hi (.slice none 0 0) 0 [] (World.ownsRow_nil _ _ _ _)
    unfold Oper.wp
    simp [execOp, ho, resolve, invoke, builtin, hs, hx, hrun, Result.andThen]
    exact hK _ _ (h _ w (World.ownsRow_nil _ _ _ _) (World.grownBy.refl _ _))
  | some ad =>
    refine wpList_append_own w hgd s x t ho base e i z 1 bytes ht hi hz hsize hby hzs (by decide) _ 0 [] hs (World.ownsRow_nil _ _ _ _) ad m c news hx (by simpa using hl) (hnews ad rfl) h1 (by simpa using h63) (by simpa using hbytes) hbase ?_
    intro v' w' k1 k2 _
    simp only [Nat.zero_add, List.nil_append] at k1
    exact h v' w' k1 k2
end

/-- The cells of a slice, as append asks for them. -/
theorem SlG.news {α : Type} {g : α → Value} {d : α} {w : World} {a : Option Addr} {n c : Nat} {xs : List α} (h : SlG g d w a n c xs) : ∀ ad, a = some ad → ∀ j u, (xs.map g)[j]? = some u → w.cell? (ad.add j) = some u := by
  intro ad had j u hu
  have hj : j < xs.length := by
    have := (List.getElem?_eq_some_iff.1 hu).1
    simpa using this
  obtain ⟨b, off, e, hc⟩ := h.at (by rw [← h.len]; omega)
  rw [e] at had
  cases had
  rw [addr_add, hc j (by rw [← h.len]; exact hj), ← hu]
  simp [List.getD, hj]

/-- A list with one more behind it. -/
theorem own_sl {α : Type} {g : α → Value} {w : World} {base b n c : Nat} {e : TypeId} {xs : List α} (d : α) (h : w.ownsRow base e 1 (.slice (some ⟨b, 0, none⟩) n c) n (xs.map g)) : SlG g d w (some ⟨b, 0, none⟩) n c xs := by
  obtain ⟨h1, h2, h3, h4, h5⟩ := own_fn d h
  have := h5.sl (d := d) h2 h3
  subst h1
  rwa [lstG_self] at this
theorem SlG.init {α : Type} {g : α → Value} {d : α} {w : World} {a : Option Addr} {n c : Nat} {xs : List α} {y : α} (h : SlG g d w a (n + 1) c (xs ++ [y])) : SlG g d w a n c xs := by
  have := h.pre (m := n) (by omega)
  have hl := h.len
  simp at hl
  rwa [List.take_append_of_le_length (by omega), List.take_of_length_le (by omega)] at this
theorem SlG.last {α : Type} {g : α → Value} {d : α} {w : World} {b n c : Nat} {xs : List α} {y : α} (h : SlG g d w (some ⟨b, 0, none⟩) (n + 1) c (xs ++ [y])) : w.cell? ⟨b, n, none⟩ = some (g y) := by
  have hl := h.len
  simp at hl
  obtain ⟨b', o', e, hc⟩ := h.at (by omega)
  cases e
  have := hc n (by omega)
  rw [Nat.zero_add] at this
  rw [this]
  subst hl
  simp [List.getD]

end Go.Proofs.Ytdmfaejngepafaa
