/-
  GRAPHS: sloperef12.Lines: contracts.
-/
import Derived.Test.YtohamaiobhikiaaGreatCge
import Derived.Test.YtohamaiobhikiaaGreatCgh
import Derived.Test.YtohamaiobhikiaaGreatSp3
import Derived.Test.YtohamaiobhikiaaGreatCgd
import Derived.Test.YtohamaiobhikiaaGreatSp2
import Derived.Test.YtohamaiobhikiaaGreatRows
import Derived.ProofKit
import Derived.OpenShut
import Derived.ShutString
import Derived.ChangeOld
import Derived.Below
import Derived.SizedLaws
namespace Go.Proofs.YtohamaiobhikiaaGreat
open Go.RowKit Go.Deep
set_option linter.unusedVariables false

end Go.Proofs.YtohamaiobhikiaaGreat

namespace Go.Proofs.YtohamaiobhikiaaGreat
open Go.RowKit Go.Deep
set_option linter.unusedVariables false

/-- Near one another: neighbours, or with one in common. -/
def NeP (st cols : List Int) (R u v : Nat) : Prop := u ≠ v ∧ (InC st cols v u ∨ ∃ j, j < R ∧ InC st cols j u ∧ InC st cols v j)
/-- What is laid so far. -/
def NeQ (st cols : List Int) (R u v x : Nat) : Prop := ∃ a b, a < R ∧ b < R ∧ x = a * R + b ∧ (a < u ∨ a = u ∧ b < v) ∧ NeP st cols R a b
theorem NeQ.first (st cols : List Int) (R x : Nat) : ¬ NeQ st cols R 0 0 x := by
  rintro ⟨a, b, _, _, _, h, _⟩
  omega
theorem NeQ.nextU {st cols : List Int} {R u x : Nat} : NeQ st cols R (u + 1) 0 x ↔ NeQ st cols R u R x := by
  constructor
  · rintro ⟨a, b, h1, h2, h3, h4, h5⟩
    exact ⟨a, b, h1, h2, h3, by omega, h5⟩
  · rintro ⟨a, b, h1, h2, h3, h4, h5⟩
    exact ⟨a, b, h1, h2, h3, by omega, h5⟩
theorem NeQ.at {st cols : List Int} {R u v : Nat} (hu : u < R) (hv : v < R) : NeQ st cols R u (v + 1) (u * R + v) ↔ NeP st cols R u v := by
  constructor
  · rintro ⟨a, b, h1, h2, h3, h4, h5⟩
    obtain ⟨rfl, rfl⟩ := idx_one hv h2 h3
    exact h5
  · intro h
    exact ⟨u, v, hu, hv, rfl, .inr ⟨rfl, by omega⟩, h⟩
theorem NeQ.other {st cols : List Int} {R u v x : Nat} (hx : x ≠ u * R + v) : NeQ st cols R u (v + 1) x ↔ NeQ st cols R u v x := by
  constructor
  · rintro ⟨a, b, h1, h2, h3, h4, h5⟩
    refine ⟨a, b, h1, h2, h3, ?_, h5⟩
    by_cases e : a = u ∧ b = v
    · obtain ⟨rfl, rfl⟩ := e
      exact absurd h3 hx
    · omega
  · rintro ⟨a, b, h1, h2, h3, h4, h5⟩
    exact ⟨a, b, h1, h2, h3, by omega, h5⟩
theorem NeQ.last {st cols : List Int} {R u v : Nat} (hu : u < R) (hv : v < R) : NeQ st cols R R 0 (u * R + v) ↔ NeP st cols R u v := by
  constructor
  · rintro ⟨a, b, h1, h2, h3, h4, h5⟩
    obtain ⟨rfl, rfl⟩ := idx_one hv h2 h3
    exact h5
  · intro h
    exact ⟨u, v, hu, hv, rfl, .inl hu, h⟩
/-- The program's near is the document's. -/
theorem NrP.ne {st cols : List Int} {R : Nat} (hm : MayP (R : Int) (R : Int) st cols) (hg : GraP st cols R R) {u v : Nat} (hu : u < R) (hv : v < R) : (NrP st cols R (u * 128 + v) ∧ u ≠ v) ↔ NeP st cols R u v := by
  have hf := hm.head.fit
  have sym : ∀ a b, a < R → b < R → (InC st cols a b ↔ InC st cols b a) := fun a b ha hb => ⟨hg.2.1 a b ha hb, hg.2.1 b a hb ha⟩
  unfold NeP
  constructor
  · rintro ⟨⟨i, hi, h⟩, hne⟩
    refine ⟨hne, ?_⟩
    rcases h with h | ⟨t, ht, h⟩
    · rw [MeP.mem (rowL_rng hm hi) (by omega), rowL_mem hm hi, rowL_mem hm hi] at h
      exact .inr ⟨i, hi, (sym u i hu hi).1 h.1, h.2⟩
    · have hr := rowL_rng hm hi t ht
      have e1 : i = u := by omega
      subst e1
      left
      refine (rowL_mem hm hi).1 (mem_getD.2 ⟨t, ht, by omega⟩)
  · rintro ⟨hne, h⟩
    refine ⟨?_, hne⟩
    rcases h with h | ⟨j, hj, h1, h2⟩
    · obtain ⟨t, ht, e⟩ := mem_getD.1 ((rowL_mem hm hu).2 h)
      exact ⟨u, hu, .inr ⟨t, ht, by rw [e]; simp⟩⟩
    · refine ⟨j, hj, .inl ?_⟩
      rw [MeP.mem (rowL_rng hm hj) (by omega), rowL_mem hm hj, rowL_mem hm hj]
      exact ⟨(sym j u hj hu).1 h1, h2⟩
end Go.Proofs.YtohamaiobhikiaaGreat

namespace Go.Proofs.YtohamaiobhikiaaGreat
open Go.RowKit Go.Deep
set_option linter.unusedVariables false

def givO : Obj := .cells #[.slice none 0 0, .slice none 0 0, .slice none 0 0, .slice none 0 0, .slice none 0 0, .slice none 0 0, .slice none 0 0, .slice none 0 0, .slice none 0 0, .slice none 0 0, .slice none 0 0, .slice none 0 0, .slice none 0 0, .slice none 0 0, .slice none 0 0, .slice none 0 0, .slice none 0 0, .slice none 0 0, .slice none 0 0, .slice none 0 0] 37
theorem nil20 (i : Nat) (h : i < 20) : (#[.slice none 0 0, .slice none 0 0, .slice none 0 0, .slice none 0 0, .slice none 0 0, .slice none 0 0, .slice none 0 0, .slice none 0 0, .slice none 0 0, .slice none 0 0, .slice none 0 0, .slice none 0 0, .slice none 0 0, .slice none 0 0, .slice none 0 0, .slice none 0 0, .slice none 0 0, .slice none 0 0, .slice none 0 0, .slice none 0 0] : Array Value)[i]? = some (.slice none 0 0) := by
  have : (#[.slice none 0 0, .slice none 0 0, .slice none 0 0, .slice none 0 0, .slice none 0 0, .slice none 0 0, .slice none 0 0, .slice none 0 0, .slice none 0 0, .slice none 0 0, .slice none 0 0, .slice none 0 0, .slice none 0 0, .slice none 0 0, .slice none 0 0, .slice none 0 0, .slice none 0 0, .slice none 0 0, .slice none 0 0, .slice none 0 0] : Array Value) = Array.replicate 20 (.slice none 0 0) := rfl
  rw [this, Array.getElem?_replicate, if_pos h]
theorem GivI.made (w : World) : GivI (w.alloc givO) w.heap.size (.slice none 0 0) (.slice none 0 0) [] (fun _ => .slice none 0 0) := by
  refine ⟨⟨_, alloc_block w _, rfl, rfl, rfl, fun i _ h20 => nil20 i h20⟩, ⟨rfl, .inl ⟨rfl, rfl⟩⟩, ⟨rfl, .inl ⟨rfl, rfl⟩⟩, fun k e => by simp [Value.ownBlock] at e, fun e he => by cases he⟩
end Go.Proofs.YtohamaiobhikiaaGreat

namespace Go.Proofs.YtohamaiobhikiaaGreat
open Go.RowKit Go.Deep
set_option linter.unusedVariables false

/-- The same pattern and number come of two calls. -/
structure TwoP (f1 f2 : Nat) (x1 x2 : List Value) (y2 : List Value) (rows width : Int) (n1 n2 : Nat) (st cols : List Int) (n : Nat) (S C : List Int) (er : Int) : Prop where
  lS : S.length ≤ 1000000
  lC : C.length ≤ 1000000
  one : ∀ (W : World) (a1 a2 : Option Addr) (c1 c2 : Nat), SlI W a1 n1 c1 st → SlI W a2 n2 c2 cols → Calls Tryz.prog f1 (x1 ++ [patV rows width a1 n1 c1 a2 n2 c2]).toArray W fun e w' => GqP W w' e n S C er
  two : ∀ (W : World) (a1 a2 : Option Addr) (c1 c2 : Nat), SlI W a1 n1 c1 st → SlI W a2 n2 c2 cols → Calls Tryz.prog f2 (x2 ++ [patV rows width a1 n1 c1 a2 n2 c2] ++ y2).toArray W fun e w' => GqP W w' e n S C er
theorem gr_short (P : Nat → Nat → Prop) (n : Nat) (hn : n ≤ 128) : (grS P n n).length ≤ 1000000 ∧ (grC P n n).length ≤ 1000000 := by
  have h1 := grS_len P n n
  have h2 := grC_len P n n
  have h3 : n * n ≤ 128 * 128 := Nat.mul_le_mul hn hn
  omega
theorem MayP.nats {rows width : Int} {st cols : List Int} (h : MayP rows width st cols) : ∃ R Wd : Nat, rows = (R : Int) ∧ width = (Wd : Int) ∧ R ≤ 128 ∧ Wd ≤ 128 := by
  have := h.head.fit
  exact ⟨rows.toNat, width.toNat, by omega, by omega, by omega, by omega⟩
set_option maxRecDepth 100000 in
set_option maxHeartbeats 16000000 in
/-- slopeplain.SamePattern, of two that are alike. -/
theorem samePat_eq (n : Nat) (S C : List Int) (a1 a2 b1 b2 : Option Addr) (c1 c2 d1 d2 : Nat) (w : World) (h1 : SlI w a1 S.length c1 S) (h2 : SlI w a2 C.length c2 C) (k1 : SlI w b1 S.length d1 S) (k2 : SlI w b2 C.length d2 C) (hS : S.length ≤ 1000000) (hC : C.length ≤ 1000000) :
    Calls Tryz.prog 42 #[.agg #[.int .i64 (n : Int), .int .i64 (n : Int), .slice a1 S.length c1, .slice a2 C.length c2], .agg #[.int .i64 (n : Int), .int .i64 (n : Int), .slice b1 S.length d1, .slice b2 C.length d2]] w fun e w' => e = .returned (.bool true) ∧ Below w.heap.size w w' := by
  obtain ⟨wa, hwa⟩ : ∃ x, w.alloc (.cells #[.int .i64 (n : Int), .int .i64 (n : Int), .slice a1 S.length c1, .slice a2 C.length c2] 25) = x := ⟨_, rfl⟩
  have ba : Below w.heap.size w wa := by rw [← hwa]; exact (Below.refl _ _).alloc (Nat.le_refl _) _
  have hA := BoxP.made w #[.int .i64 (n : Int), .int .i64 (n : Int), .slice a1 S.length c1, .slice a2 C.length c2] 25
  rw [hwa] at hA
  obtain ⟨wb, hwb⟩ : ∃ x, wa.alloc (.cells #[.int .i64 (n : Int), .int .i64 (n : Int), .slice b1 S.length d1, .slice b2 C.length d2] 25) = x := ⟨_, rfl⟩
  have bb : Below wa.heap.size wa wb := by rw [← hwb]; exact (Below.refl _ _).alloc (Nat.le_refl _) _
  have hB := BoxP.made wa #[.int .i64 (n : Int), .int .i64 (n : Int), .slice b1 S.length d1, .slice b2 C.length d2] 25
  rw [hwb] at hB
  have hA1 := hA.below bb
  have p0 := (hA1.all 0 _ rfl).1
  have p1 := (hA1.all 1 _ rfl).1
  have p2 := (hA1.all 2 _ rfl).1
  have p3 := (hA1.all 3 _ rfl).1
  have q0 := (hB.all 0 _ rfl).1
  have q1 := (hB.all 1 _ rfl).1
  have q2 := (hB.all 2 _ rfl).1
  have q3 := (hB.all 3 _ rfl).1
  have bw := ba.trans (bb.mono ba.size)
  have K1 := hide (fun (W : World) (k : Below wb.heap.size wb W) => sameInts_eq a1 b1 S.length c1 d1 S W ((h1.below bw).below k) ((k1.below bw).below k) (by omega))
  have K2 := hide (fun (W : World) (k : Below wb.heap.size wb W) => sameInts_eq a2 b2 C.length c2 d2 C W ((h2.below bw).below k) ((k2.below bw).below k) (by omega))
  have HB := hide bw
  have HAB := hide (And.intro hA1 hB)
  clear hA hB hA1 ba bb bw h1 h2 k1 k2
  go_enter Tryz.func42, Tryz.ntmps42
  go_wp2_with fail
  refine (unhide K1 _ (Below.refl _ _)).mono ?_
  rintro _ w3 ⟨rfl, m1, e3⟩
  have b3 : Below wb.heap.size wb w3 := by rw [e3]; exact bel_drewN (Below.refl _ _) m1
  have hA3 := (unhide HAB).1.below b3
  have hB3 := (unhide HAB).2.below b3
  clear p0 p1 p2 p3 q0 q1 q2 q3 e3
  have p3 := (hA3.all 3 _ rfl).1
  have q3 := (hB3.all 3 _ rfl).1
  have HB3 := hide b3
  clear hA3 hB3 b3
  go_wp2_with fail
  refine (unhide K2 _ (unhide HB3)).mono ?_
  rintro _ w4 ⟨rfl, m2, e4⟩
  have HB4 := hide (show Below w3.heap.size w3 w4 by rw [e4]; exact bel_drewN (Below.refl _ _) m2)
  clear e4 p3 q3
  go_wp2_with fail
  try go_ret
  have h3 := (unhide HB).trans ((unhide HB3).mono (unhide HB).size)
  exact ⟨rfl, h3.trans ((unhide HB4).mono h3.size)⟩
set_option maxRecDepth 20000 in
set_option maxHeartbeats 1000000 in
/-- slopelaw12.num. -/
theorem num12_any (x : Int) (w : World) : Calls Tryz.prog 8 #[.int .i64 x] w fun e w' => e = .returned (.int .i64 x) ∧ w' = w := by
  go_enter Tryz.func8, Tryz.ntmps8
  go_wp2_with fail
  try go_ret
  exact ⟨rfl, rfl⟩
/-- A pattern that came, in a variable. -/
structure PaB (W : World) (B : Nat) (v0 v1 : Value) (X n : Nat) (S C : List Int) (a1 : Option Addr) (c1 : Nat) (a2 : Option Addr) (c2 : Nat) : Prop where
  box : BoxP W X [.int .i64 (n : Int), .int .i64 (n : Int), .slice a1 S.length c1, .slice a2 C.length c2]
  s1 : SlI W a1 S.length c1 S
  s2 : SlI W a2 C.length c2 C
  nx : ¬ Own B v0 v1 X
  n1 : ∀ z, a1 = some z → S ≠ [] → ¬ Own B v0 v1 z.block
  n2 : ∀ z, a2 = some z → C ≠ [] → ¬ Own B v0 v1 z.block
theorem PaB.below {W W' : World} {B : Nat} {v0 v1 : Value} {X n : Nat} {S C : List Int} {a1 : Option Addr} {c1 : Nat} {a2 : Option Addr} {c2 : Nat} (h : PaB W B v0 v1 X n S C a1 c1 a2 c2) (k : Below W.heap.size W W') : PaB W' B v0 v1 X n S C a1 c1 a2 c2 :=
  ⟨h.box.below k, h.s1.below k, h.s2.below k, h.nx, h.n1, h.n2⟩
theorem PaB.pat {W W' : World} {B : Nat} {v0 v1 v0' v1' : Value} {X n : Nat} {S C : List Int} {a1 : Option Addr} {c1 : Nat} {a2 : Option Addr} {c2 : Nat} (h : PaB W B v0 v1 X n S C a1 c1 a2 c2) (k : Chg (Own B v0 v1) W W') (safe : ∀ k, k < W.heap.size → ¬ Own B v0 v1 k → ¬ Own B v0' v1' k) : PaB W' B v0' v1' X n S C a1 c1 a2 c2 :=
  ⟨h.box.chg k h.nx, h.s1.chg k h.n1, h.s2.chg k h.n2, safe _ h.box.lt h.nx, fun z e1 e2 => safe _ (h.s1.block_lt e2 z e1) (h.n1 z e1 e2), fun z e1 e2 => safe _ (h.s2.block_lt e2 z e1) (h.n2 z e1 e2)⟩
theorem PaB.made {W W' : World} {B : Nat} {v0 v1 : Value} {es : List EntI} {rs : Nat → Value} {n : Nat} {S C : List Int} {a1 : Option Addr} {c1 : Nat} {a2 : Option Addr} {c2 : Nat} (hg : GivI W B v0 v1 es rs) (s1 : SlI W' a1 S.length c1 S) (s2 : SlI W' a2 C.length c2 C) (k : Below W.heap.size W W') (f1 : ∀ z, a1 = some z → W.heap.size ≤ z.block) (f2 : ∀ z, a2 = some z → W.heap.size ≤ z.block) :
    PaB (W'.alloc (.cells #[.int .i64 (n : Int), .int .i64 (n : Int), .slice a1 S.length c1, .slice a2 C.length c2] 25)) B v0 v1 W'.heap.size n S C a1 c1 a2 c2 := by
  have ba : Below W'.heap.size W' (W'.alloc (.cells #[.int .i64 (n : Int), .int .i64 (n : Int), .slice a1 S.length c1, .slice a2 C.length c2] 25)) := (Below.refl _ _).alloc (Nat.le_refl _) _
  refine ⟨BoxP.made W' _ _, s1.below ba, s2.below ba, fun e => ?_, fun z hz _ e => ?_, fun z hz _ e => ?_⟩
  · have := hg.own_lt e; have := k.size; omega
  · have := hg.own_lt e; have := f1 z hz; omega
  · have := hg.own_lt e; have := f2 z hz; omega
end Go.Proofs.YtohamaiobhikiaaGreat

namespace Go.Proofs.YtohamaiobhikiaaGreat
open Go.ChangeShapes Go.WideShapes Go.ChangeAt Go.RowKit Go.Deep
set_option linter.unusedVariables false

theorem law_bytesI : Tryz.prog.bytesOf 3 = 8 := by kernel_rfl
theorem law_cellsI : Tryz.prog.cellsOf 3 = 1 := by kernel_rfl
theorem law_cellsIs : Tryz.prog.cellsOf 23 = 1 := by kernel_rfl
theorem law_cellsP : Tryz.prog.cellsOf 25 = 4 := by kernel_rfl
theorem trod_s4 {H : Type} {enc : TypeId × Value → H} {P : Program} {w : World} {base : Nat} {spare : Nat → Bool} {held : Bool} {t : TypeId} {f0 f1 f2 f3 : Field} {fuel : Nat} {cs : List Value} {x : DataW H × List MemPlace} (ht : P.underlying t = some (.struct #[f0, f1, f2, f3])) (h : DataW.trod enc P w base spare held fuel t cs = some x) :
    ∃ y0 y1 y2 y3 n, x = (.agg [y0.1, y1.1, y2.1, y3.1], y0.2 ++ (y1.2 ++ (y2.2 ++ y3.2))) ∧ cs.length = P.cellsOf t ∧ DataW.trod enc P w base spare held n f0.type ((cs.drop f0.offset).take (P.cellsOf f0.type)) = some y0 ∧
      DataW.trod enc P w base spare held n f1.type ((cs.drop f1.offset).take (P.cellsOf f1.type)) = some y1 ∧ DataW.trod enc P w base spare held n f2.type ((cs.drop f2.offset).take (P.cellsOf f2.type)) = some y2 ∧ DataW.trod enc P w base spare held n f3.type ((cs.drop f3.offset).take (P.cellsOf f3.type)) = some y3 := by
  obtain ⟨xs, n, _, rfl, hl, hlen, hf⟩ := DataW.trod_struct ht h
  match xs, hlen with
  | [y0, y1, y2, y3], _ => exact ⟨y0, y1, y2, y3, n, by simp, hl, by simpa using hf 0 f0 rfl, by simpa using hf 1 f1 rfl, by simpa using hf 2 f2 rfl, by simpa using hf 3 f3 rfl⟩
/-- A list of whole numbers that is handed in. -/
theorem trod_intsZ {H : Type} {enc : TypeId × Value → H} {W : World} {fuel : Nat} {cs : List Value} {x : DataW H × List MemPlace}
    (h : DataW.trod enc Tryz.prog W 0 (fun _ => true) true fuel 23 cs = some x) (hz : ∀ k ∈ x.1.weights Tryz.prog 23, k ≤ reachBytes) :
    ∃ a n c xs, cs = [.slice a n c] ∧ SlI W a n c xs ∧ n ≤ 17592186044000 := by
  rcases open_ints Tryz.underlying23 Tryz.underlying3 law_cellsI h with ⟨rfl, _⟩ | ⟨y, n, c, zs, rfl, _, hl, hm, hzl, rfl, hcell, hwz⟩
  · exact ⟨none, 0, 0, [], rfl, SlI.nil _, Nat.zero_le _⟩
  · have hzl' : zs.length = c := by simpa using hzl
    have hb := hz (((lits (H := H) .i64 (zs.take n)).length + (lits (H := H) .i64 (zs.drop n)).length) * Tryz.prog.bytesOf 3) (by simp [DataW.weights, Tryz.underlying23])
    have hlen : (lits (H := H) .i64 (zs.take n)).length + (lits (H := H) .i64 (zs.drop n)).length = c := by
      simp [lits]; omega
    rw [hlen, law_bytesI] at hb
    unfold reachBytes at hb
    refine ⟨some y, n, c, zs.take n, rfl, ⟨by simp; omega, hl, hm, ?_⟩, by omega⟩
    by_cases h0 : n = 0
    · left; subst h0; simp
    · right
      obtain ⟨b, off, spot⟩ := y
      have c0 := hcell 0 (by omega)
      have hspot : spot = none := by simpa [Addr.add] using World.cell?_spot c0
      subst hspot
      refine ⟨b, off, rfl, ?_⟩
      intro i hi
      have hi' : i < n := by simp at hi; omega
      have e : (⟨b, off, none⟩ : Addr).add i = ⟨b, off + i, none⟩ := by unfold Addr.add; split <;> simp_all
      have hzi := hcell i (by omega)
      rw [e] at hzi
      rw [hzi]
      have e2 : (zs.take n).getD i 0 = zs.getD i 0 := by
        simp [List.getD, hi', show i < zs.length from by omega]
      rw [e2]
/-- A pattern's parts. -/
structure PatZ (W : World) (a1 : Option Addr) (n1 c1 : Nat) (st : List Int) (a2 : Option Addr) (n2 c2 : Nat) (cols : List Int) : Prop where
  h1 : SlI W a1 n1 c1 st
  h2 : SlI W a2 n2 c2 cols
  l1 : n1 ≤ 17592186044000
  l2 : n2 ≤ 17592186044000
set_option maxRecDepth 100000 in
theorem trod_patZ {H : Type} {enc : TypeId × Value → H} {W : World} {fuel : Nat} {cs : List Value} {x : DataW H × List MemPlace}
    (h : DataW.trod enc Tryz.prog W 0 (fun _ => true) true fuel 25 cs = some x) (hz : ∀ k ∈ x.1.weights Tryz.prog 25, k ≤ reachBytes) :
    ∃ rows width a1 n1 c1 st a2 n2 c2 cols, cs = [.int .i64 rows, .int .i64 width, .slice a1 n1 c1, .slice a2 n2 c2] ∧ PatZ W a1 n1 c1 st a2 n2 c2 cols := by
  obtain ⟨y0, y1, y2, y3, k, rfl, hl, h0, h1, h2, h3⟩ := trod_s4 Tryz.underlying25 h
  rw [law_cellsP] at hl
  match cs, hl with
  | [c0, c1, c2, c3], _ =>
    simp only [List.drop_zero, List.drop_succ_cons, law_cellsI, law_cellsIs, List.take_succ_cons, List.take_zero] at h0 h1 h2 h3
    obtain ⟨r, e0, _⟩ := DataW.trod_int Tryz.underlying3 h0
    obtain ⟨wd, e1, _⟩ := DataW.trod_int Tryz.underlying3 h1
    obtain ⟨a1, n1, d1, st, e2, k1, k2⟩ := trod_intsZ h2 (fun k hk => hz k (by simp [DataW.weights, DataW.weightsEach, Tryz.underlying25, hk]))
    obtain ⟨a2, n2, d2, cols, e3, k3, k4⟩ := trod_intsZ h3 (fun k hk => hz k (by simp [DataW.weights, DataW.weightsEach, Tryz.underlying25, hk]))
    cases e0
    cases e1
    cases e2
    cases e3
    exact ⟨r, wd, a1, n1, d1, st, a2, n2, d2, cols, rfl, ⟨k1, k3, k2, k4⟩⟩
set_option maxRecDepth 100000 in
theorem arg_patZ {H : Type} {enc : TypeId × Value → H} {W : World} {v : Value} {d : DataW H} {p : List MemPlace} {r : Reach} {b0 : Nat}
    (hv : Value.okWide Tryz.prog W r b0 25 v) (h : DataW.Trod enc Tryz.prog W 0 (fun _ => true) true 25 v d p) (hz : ∀ k ∈ d.weights Tryz.prog 25, k ≤ reachBytes) :
    ∃ rows width a1 n1 c1 st a2 n2 c2 cols, v = patV rows width a1 n1 c1 a2 n2 c2 ∧ PatZ W a1 n1 c1 st a2 n2 c2 cols := by
  obtain ⟨cs, rfl, hsz⟩ := okWide_struct Tryz.underlying25 hv
  obtain ⟨fuel, hf⟩ := h
  obtain ⟨rows, width, a1, n1, c1, st, a2, n2, c2, cols, e, k⟩ := trod_patZ hf hz
  have hcs : (Value.agg cs).cells.toList = cs.toList := by simp [Value.cells]
  rw [hcs] at e
  refine ⟨rows, width, a1, n1, c1, st, a2, n2, c2, cols, ?_, k⟩
  unfold patV
  congr 1
  apply Array.ext'
  simpa using e
end Go.Proofs.YtohamaiobhikiaaGreat
