/- Chg -/
import Derived.Test.YtgjokididdffhaaGreatChf
import Derived.Test.YtgjokididdffhaaGreatCge
import Derived.Test.YtgjokididdffhaaGreatCgh
import Derived.Test.YtgjokididdffhaaGreatSp3
import Derived.Test.YtgjokididdffhaaGreatCgd
import Derived.Test.YtgjokididdffhaaGreatSp2
import Derived.Test.YtgjokididdffhaaGreatRows
import Derived.ProofKit
import Derived.OpenShut
import Derived.ShutString
import Derived.ChangeOld
import Derived.Below
import Derived.SizedLaws
namespace Go.Proofs.YtgjokididdffhaaGreat
open Go.RowKit Go.Deep
set_option linter.unusedVariables false
def stC : List Int := [0, 2, 4, 6, 8]
def colsC : List Int := [1, 3, 0, 2, 1, 3, 0, 2]
def ordC : List Int := [0, 1, 2, 3]
theorem ordC_ord : OrdTo ordC 4 4 := by
  refine ⟨fun j hj => ?_, fun i j hij hj => ?_⟩
  · have : j = 0 ∨ j = 1 ∨ j = 2 ∨ j = 3 := by omega
    rcases this with rfl | rfl | rfl | rfl <;> decide
  · have h1 : j = 1 ∨ j = 2 ∨ j = 3 := by omega
    have h2 : i = 0 ∨ i = 1 ∨ i = 2 := by omega
    rcases h1 with rfl | rfl | rfl <;> rcases h2 with rfl | rfl | rfl <;> first | decide | omega
theorem mayC : MayP (4 : Nat) (4 : Nat) stC colsC := by
  refine ⟨⟨by decide, by decide, by decide, by decide⟩, fun i _ hi => ?_, fun r hr => ?_⟩
  · have h : ∀ i, i < 4 → stC.getD i 0 ≤ stC.getD (i + 1) 0 := by decide
    exact h i (by simp [stC] at hi; omega)
  · have h1 : ∀ r, r < 4 → ∀ i, i < 8 → (stC.getD r 0).toNat ≤ i → i < (stC.getD (r + 1) 0).toNat → 0 ≤ colsC.getD i 0 ∧ colsC.getD i 0 < 4 := by decide
    have h2 : ∀ r, r < 4 → ∀ i, i < 8 → (stC.getD r 0).toNat < i → i < (stC.getD (r + 1) 0).toNat → colsC.getD (i - 1) 0 < colsC.getD i 0 := by decide
    have h3 : ∀ r, r < 4 → (stC.getD (r + 1) 0).toNat ≤ 8 := by decide
    have hr4 : r < 4 := by simp [stC] at hr; omega
    have := h3 r hr4
    exact ⟨fun i a b => h1 r hr4 i (by omega) a b, fun i a b => h2 r hr4 i (by omega) a b⟩
theorem graC : GraP stC colsC 4 4 := by
  refine ⟨rfl, fun u v hu hv h => ?_, fun ⟨r, hr, h⟩ => ?_⟩
  · have k : ∀ u, u < 4 → ∀ v, v < 4 → ((u : Nat) : Int) ∈ rowL stC colsC v → ((v : Nat) : Int) ∈ rowL stC colsC u := by decide
    exact (rowL_mem mayC hu).1 (k u hu v hv ((rowL_mem mayC hv).2 h))
  · have k : ∀ r, r < 4 → ¬ ((r : Nat) : Int) ∈ rowL stC colsC r := by decide
    exact k r hr ((rowL_mem mayC hr).2 h)
theorem pntC : PntI stC colsC ordC 4 (updC (updC (updC (updC (fun _ => -1) 0 0) 1 1) 2 0) 3 2) := by
  refine ⟨_, 2, ⟨_, 0, ⟨_, 1, ⟨_, 0, rfl, ⟨?_, ?_⟩, rfl⟩, ⟨?_, ?_⟩, rfl⟩, ⟨?_, ?_⟩, rfl⟩, ⟨?_, ?_⟩, rfl⟩ <;> unfold BarP PaP TwP <;> decide
theorem SlI.made (w : World) (xs : List Int) (t : TypeId) (h : xs.length ≤ 128) : SlI (w.alloc (.cells (xs.map (fun x => Value.int .i64 x)).toArray t)) (some ⟨w.heap.size, 0, none⟩) xs.length xs.length xs := by
  refine ⟨rfl, Nat.le_refl _, by unfold maxLen; omega, .inr ⟨w.heap.size, 0, rfl, fun i hi => ?_⟩⟩
  rw [Nat.zero_add]
  exact (cell_of_block (alloc_block _ _) i).trans (by simp [List.getD, hi])
set_option maxRecDepth 100000 in
set_option maxHeartbeats 8000000 in
theorem ccircle_any (w : World) :
    Calls Tryz.prog 33 #[] w fun e w' => ∃ s c, e = .returned (patV (4 : Nat) (4 : Nat) (some ⟨s, 0, none⟩) 5 5 (some ⟨c, 0, none⟩) 8 8) ∧ SlI w' (some ⟨s, 0, none⟩) 5 5 stC ∧ SlI w' (some ⟨c, 0, none⟩) 8 8 colsC ∧ Below w.heap.size w w' := by
  go_enter Tryz.func33, Tryz.ntmps33
  go_wp2_with fail
  refine bodyPost_ret (by simp [results, Tryz.results33, go_sem]; try rfl) rfl ?_
  have b1 : Below w.heap.size w (w.alloc (.cells #[Value.int IntKind.i64 4, Value.int IntKind.i64 4, Value.slice (some ⟨w.heap.size + 1, 0, none⟩) 5 5, Value.slice (some ⟨w.heap.size + 1 + 1, 0, none⟩) 8 8] 25)) := (Below.refl _ _).alloc (Nat.le_refl _) _
  have s1 := SlI.made (w.alloc (.cells #[Value.int IntKind.i64 4, Value.int IntKind.i64 4, Value.slice (some ⟨w.heap.size + 1, 0, none⟩) 5 5, Value.slice (some ⟨w.heap.size + 1 + 1, 0, none⟩) 8 8] 25)) stC 3 (by decide)
  have e1 : (w.alloc (.cells #[Value.int IntKind.i64 4, Value.int IntKind.i64 4, Value.slice (some ⟨w.heap.size + 1, 0, none⟩) 5 5, Value.slice (some ⟨w.heap.size + 1 + 1, 0, none⟩) 8 8] 25)).heap.size = w.heap.size + 1 := by simp
  generalize w.alloc (.cells #[Value.int IntKind.i64 4, Value.int IntKind.i64 4, Value.slice (some ⟨w.heap.size + 1, 0, none⟩) 5 5, Value.slice (some ⟨w.heap.size + 1 + 1, 0, none⟩) 8 8] 25) = w1 at *
  rw [e1] at s1
  have b2 : Below w.heap.size w1 (w1.alloc (.cells (stC.map (fun x => Value.int .i64 x)).toArray 3)) := (Below.refl _ _).alloc (by omega) _
  have e2 : (w1.alloc (.cells (stC.map (fun x => Value.int .i64 x)).toArray 3)).heap.size = w.heap.size + 1 + 1 := by simp [e1]
  have s2 := SlI.made (w1.alloc (.cells (stC.map (fun x => Value.int .i64 x)).toArray 3)) colsC 3 (by decide)
  rw [e2] at s2
  have b3 : Below (w.heap.size + 1 + 1) (w1.alloc (.cells (stC.map (fun x => Value.int .i64 x)).toArray 3)) ((w1.alloc (.cells (stC.map (fun x => Value.int .i64 x)).toArray 3)).alloc (.cells (colsC.map (fun x => Value.int .i64 x)).toArray 3)) := (Below.refl _ _).alloc (by omega) _
  exact ⟨w.heap.size + 1, w.heap.size + 1 + 1, rfl, s1.below (by rw [e2]; exact b3), s2, (b1.trans b2).trans (b3.mono (by omega))⟩

def NeP (st cols : List Int) (R u v : Nat) : Prop := u ≠ v ∧ (InC st cols v u ∨ ∃ j, j < R ∧ InC st cols j u ∧ InC st cols v j)
def NeQ (st cols : List Int) (R u v x : Nat) : Prop := ∃ a b, a < R ∧ b < R ∧ x = a * R + b ∧ (a < u ∨ a = u ∧ b < v) ∧ NeP st cols R a b
theorem NeQ.first (st cols : List Int) (R x : Nat) : ¬ NeQ st cols R 0 0 x := by
  rintro ⟨a, b, _, _, _, h, _⟩
  omega
theorem NeQ.nextU {st cols : List Int} {R u x : Nat} : NeQ st cols R (u + 1) 0 x ↔ NeQ st cols R u R x := by
  constructor
  · rintro ⟨a, b, h1, h2, h3, h4, h5⟩
    exact ⟨a, b, h1, h2, h3, by omega, h5⟩
  · rintro ⟨a, b, h1, h2, h3, h4, h5⟩
    exact ⟨a, b, h1, h2, h3, by omega, h5⟩
theorem NeQ.at {st cols : List Int} {R u v : Nat} (hu : u < R) (hv : v < R) : NeQ st cols R u (v + 1) (u * R + v) ↔ NeP st cols R u v := by
  constructor
  · rintro ⟨a, b, h1, h2, h3, h4, h5⟩
    obtain ⟨rfl, rfl⟩ := idx_one hv h2 h3
    exact h5
  · intro h
    exact ⟨u, v, hu, hv, rfl, .inr ⟨rfl, by omega⟩, h⟩
theorem NeQ.other {st cols : List Int} {R u v x : Nat} (hx : x ≠ u * R + v) : NeQ st cols R u (v + 1) x ↔ NeQ st cols R u v x := by
  constructor
  · rintro ⟨a, b, h1, h2, h3, h4, h5⟩
    refine ⟨a, b, h1, h2, h3, ?_, h5⟩
    by_cases e : a = u ∧ b = v
    · obtain ⟨rfl, rfl⟩ := e
      exact absurd h3 hx
    · omega
  · rintro ⟨a, b, h1, h2, h3, h4, h5⟩
    exact ⟨a, b, h1, h2, h3, by omega, h5⟩
theorem NeQ.last {st cols : List Int} {R u v : Nat} (hu : u < R) (hv : v < R) : NeQ st cols R R 0 (u * R + v) ↔ NeP st cols R u v := by
  constructor
  · rintro ⟨a, b, h1, h2, h3, h4, h5⟩
    obtain ⟨rfl, rfl⟩ := idx_one hv h2 h3
    exact h5
  · intro h
    exact ⟨u, v, hu, hv, rfl, .inl hu, h⟩
theorem NrP.ne {st cols : List Int} {R : Nat} (hm : MayP (R : Int) (R : Int) st cols) (hg : GraP st cols R R) {u v : Nat} (hu : u < R) (hv : v < R) : (NrP st cols R (u * 128 + v) ∧ u ≠ v) ↔ NeP st cols R u v := by
  have hf := hm.head.fit
  have sym : ∀ a b, a < R → b < R → (InC st cols a b ↔ InC st cols b a) := fun a b ha hb => ⟨hg.2.1 a b ha hb, hg.2.1 b a hb ha⟩
  unfold NeP
  constructor
  · rintro ⟨⟨i, hi, h⟩, hne⟩
    refine ⟨hne, ?_⟩
    rcases h with h | ⟨t, ht, h⟩
    · rw [MeP.mem (rowL_rng hm hi) (by omega), rowL_mem hm hi, rowL_mem hm hi] at h
      exact .inr ⟨i, hi, (sym u i hu hi).1 h.1, h.2⟩
    · have hr := rowL_rng hm hi t ht
      have e1 : i = u := by omega
      subst e1
      left
      refine (rowL_mem hm hi).1 (mem_getD.2 ⟨t, ht, by omega⟩)
  · rintro ⟨hne, h⟩
    refine ⟨?_, hne⟩
    rcases h with h | ⟨j, hj, h1, h2⟩
    · obtain ⟨t, ht, e⟩ := mem_getD.1 ((rowL_mem hm hu).2 h)
      exact ⟨u, hu, .inr ⟨t, ht, by rw [e]; simp⟩⟩
    · refine ⟨j, hj, .inl ?_⟩
      rw [MeP.mem (rowL_rng hm hj) (by omega), rowL_mem hm hj, rowL_mem hm hj]
      exact ⟨(sym j u hj hu).1 h1, h2⟩
def givO : Obj := .cells #[.slice none 0 0, .slice none 0 0, .slice none 0 0, .slice none 0 0, .slice none 0 0, .slice none 0 0, .slice none 0 0, .slice none 0 0, .slice none 0 0, .slice none 0 0, .slice none 0 0, .slice none 0 0, .slice none 0 0, .slice none 0 0, .slice none 0 0, .slice none 0 0, .slice none 0 0, .slice none 0 0, .slice none 0 0, .slice none 0 0] 65
theorem nil20 (i : Nat) (h : i < 20) : (#[.slice none 0 0, .slice none 0 0, .slice none 0 0, .slice none 0 0, .slice none 0 0, .slice none 0 0, .slice none 0 0, .slice none 0 0, .slice none 0 0, .slice none 0 0, .slice none 0 0, .slice none 0 0, .slice none 0 0, .slice none 0 0, .slice none 0 0, .slice none 0 0, .slice none 0 0, .slice none 0 0, .slice none 0 0, .slice none 0 0] : Array Value)[i]? = some (.slice none 0 0) := by
  have : (#[.slice none 0 0, .slice none 0 0, .slice none 0 0, .slice none 0 0, .slice none 0 0, .slice none 0 0, .slice none 0 0, .slice none 0 0, .slice none 0 0, .slice none 0 0, .slice none 0 0, .slice none 0 0, .slice none 0 0, .slice none 0 0, .slice none 0 0, .slice none 0 0, .slice none 0 0, .slice none 0 0, .slice none 0 0, .slice none 0 0] : Array Value) = Array.replicate 20 (.slice none 0 0) := rfl
  rw [this, Array.getElem?_replicate, if_pos h]
theorem GivI.made (w : World) : GivI (w.alloc givO) w.heap.size (.slice none 0 0) (.slice none 0 0) [] (fun _ => .slice none 0 0) := by
  refine ⟨⟨_, alloc_block w _, rfl, rfl, rfl, fun i _ h20 => nil20 i h20⟩, ⟨rfl, .inl ⟨rfl, rfl⟩⟩, ⟨rfl, .inl ⟨rfl, rfl⟩⟩, fun k e => by simp [Value.ownBlock] at e, fun e he => by cases he⟩
set_option maxRecDepth 20000 in
set_option maxHeartbeats 1000000 in
theorem num12_any (x : Int) (w : World) : Calls Tryz.prog 11 #[.int .i64 x] w fun e w' => e = .returned (.int .i64 x) ∧ w' = w := by
  go_enter Tryz.func11, Tryz.ntmps11
  go_wp2_with fail
  try go_ret
  exact ⟨rfl, rfl⟩
structure PaB (W : World) (B : Nat) (v0 v1 : Value) (X n : Nat) (S C : List Int) (a1 : Option Addr) (c1 : Nat) (a2 : Option Addr) (c2 : Nat) : Prop where
  box : BoxP W X [.int .i64 (n : Int), .int .i64 (n : Int), .slice a1 S.length c1, .slice a2 C.length c2]
  s1 : SlI W a1 S.length c1 S
  s2 : SlI W a2 C.length c2 C
  nx : ¬ Own B v0 v1 X
  n1 : ∀ z, a1 = some z → S ≠ [] → ¬ Own B v0 v1 z.block
  n2 : ∀ z, a2 = some z → C ≠ [] → ¬ Own B v0 v1 z.block
theorem PaB.below {W W' : World} {B : Nat} {v0 v1 : Value} {X n : Nat} {S C : List Int} {a1 : Option Addr} {c1 : Nat} {a2 : Option Addr} {c2 : Nat} (h : PaB W B v0 v1 X n S C a1 c1 a2 c2) (k : Below W.heap.size W W') : PaB W' B v0 v1 X n S C a1 c1 a2 c2 :=
  ⟨h.box.below k, h.s1.below k, h.s2.below k, h.nx, h.n1, h.n2⟩
theorem PaB.made {W W' : World} {B : Nat} {v0 v1 : Value} {es : List EntI} {rs : Nat → Value} {n : Nat} {S C : List Int} {a1 : Option Addr} {c1 : Nat} {a2 : Option Addr} {c2 : Nat} (hg : GivI W B v0 v1 es rs) (s1 : SlI W' a1 S.length c1 S) (s2 : SlI W' a2 C.length c2 C) (k : Below W.heap.size W W') (f1 : ∀ z, a1 = some z → W.heap.size ≤ z.block) (f2 : ∀ z, a2 = some z → W.heap.size ≤ z.block) :
    PaB (W'.alloc (.cells #[.int .i64 (n : Int), .int .i64 (n : Int), .slice a1 S.length c1, .slice a2 C.length c2] 25)) B v0 v1 W'.heap.size n S C a1 c1 a2 c2 := by
  have ba : Below W'.heap.size W' (W'.alloc (.cells #[.int .i64 (n : Int), .int .i64 (n : Int), .slice a1 S.length c1, .slice a2 C.length c2] 25)) := (Below.refl _ _).alloc (Nat.le_refl _) _
  refine ⟨BoxP.made W' _ _, s1.below ba, s2.below ba, fun e => ?_, fun z hz _ e => ?_, fun z hz _ e => ?_⟩
  · have := hg.own_lt e; have := k.size; omega
  · have := hg.own_lt e; have := f1 z hz; omega
  · have := hg.own_lt e; have := f2 z hz; omega
theorem numCirc {z : Nat} (h : NumC (csL (updC (updC (updC (updC (fun _ => -1) 0 0) 1 1) 2 0) 3 2) 4) (z : Int)) : z = 3 := by
  have k : MaxTo (-1 :: csL (updC (updC (updC (updC (fun _ => -1) 0 0) 1 1) 2 0) 3 2) 4) ((csL (updC (updC (updC (updC (fun _ => -1) 0 0) 1 1) 2 0) 3 2) 4).length + 1) 2 := ⟨⟨4, by decide, by decide⟩, by decide⟩
  have := MaxTo.one h k
  omega
set_option maxRecDepth 100000 in
set_option maxHeartbeats 8000000 in
theorem calive_any (w : World) :
    Calls Tryz.prog 9 #[] w fun e w' => e = .returned (.bool true) ∧ Below w.heap.size w w' := by
  go_enter Tryz.func9, Tryz.ntmps9
  go_wp2_with fail
  refine (ccircle_any w).mono ?_
  rintro _ w1 ⟨s, c, rfl, hs, hc, b1⟩
  have so := SlI.made w1 ordC 3 (by decide)
  have b2 : Below w1.heap.size w1 (w1.alloc (.cells (ordC.map (fun x => Value.int .i64 x)).toArray 3)) := (Below.refl _ _).alloc (Nat.le_refl _) _
  have KG := hide (cgreedy_star 4 _ _ _ 5 5 8 8 4 stC colsC ordC _ (hs.below b2) (hc.below b2) so (by omega) (by omega) mayC graC ordC_ord)
  have HB2 := hide (b1.trans (b2.mono b1.size))
  clear hs hc so b1 b2
  unfold patV at *
  go_wp2_with fail
  refine (unhide KG).mono ?_
  rintro _ w3 ⟨g, cs, z, hA⟩
  have e3 := hA.ret
  subst e3
  have ecs := hA.pnt.one pntC
  have hz := hA.num
  rw [ecs] at hz
  have ez := numCirc hz
  subst ez
  have hrow := (hA.row.sli (by omega))
  rw [ecs] at hrow
  have HB3 := hide ((unhide HB2).trans (hA.bel.mono (unhide HB2).size))
  have HROW := hide (show SlI w3 (some ⟨g, 0, none⟩) 4 4 [0, 1, 0, 2] from hrow)
  clear hA ecs hz hrow KG
  go_wp2_with fail
  refine (ccircle_any w3).mono ?_
  rintro _ w4 ⟨s', c', rfl, hs, hc, b4⟩
  have b5 : Below w4.heap.size w4 (w4.alloc (.cells (ordC.map (fun x => Value.int .i64 x)).toArray 3)) := (Below.refl _ _).alloc (Nat.le_refl _) _
  have KG := hide (cgreedy_none 4 _ _ (some ⟨w4.heap.size, 0, none⟩) 5 5 8 8 4 4 stC colsC _ (hs.below b5) (hc.below b5) (by omega) (by omega) mayC)
  have b35 := b4.trans (b5.mono b4.size)
  have HR5 := hide ((unhide HROW).below b35)
  have HB5 := hide ((unhide HB3).trans (b35.mono (unhide HB3).size))
  clear hs hc b4 b5 b35 HROW
  unfold patV at *
  go_wp2_with fail
  refine (unhide KG).mono ?_
  rintro _ w6 ⟨rfl, b6⟩
  have HR6 := hide ((unhide HR5).below b6)
  have HB6 := hide ((unhide HB5).trans (b6.mono (unhide HB5).size))
  clear KG b6 HR5
  go_wp2_with ((go_at_call 11; refine (num12_any _ _).mono ?_; rintro _ _ ⟨rfl, rfl⟩))
  refine (sameInts_eq (some ⟨g, 0, none⟩) _ 4 4 4 [0, 1, 0, 2] _ ((unhide HR6).below ((Below.refl _ _).alloc (Nat.le_refl _) _)) (SlI.made _ [0, 1, 0, 2] 3 (by decide)) (by omega)).mono ?_
  rintro _ _ ⟨rfl, m, rfl⟩
  go_wp2_with ((go_at_call 11; refine (num12_any _ _).mono ?_; rintro _ _ ⟨rfl, hw⟩; subst hw))
  try go_ret
  exact ⟨rfl, bel_drewN ((unhide HB6).alloc (unhide HB6).size _) m⟩
end Go.Proofs.YtgjokididdffhaaGreat
namespace Go.Proofs.YtgjokididdffhaaGreat
open Go.ChangeShapes Go.WideShapes Go.ChangeAt Go.RowKit Go.Deep
set_option linter.unusedVariables false
theorem law_bytesI : Tryz.prog.bytesOf 3 = 8 := by kernel_rfl
theorem law_cellsI : Tryz.prog.cellsOf 3 = 1 := by kernel_rfl
theorem law_cellsIs : Tryz.prog.cellsOf 23 = 1 := by kernel_rfl
theorem law_cellsP : Tryz.prog.cellsOf 25 = 4 := by kernel_rfl
theorem trod_s4 {H : Type} {enc : TypeId × Value → H} {P : Program} {w : World} {base : Nat} {spare : Nat → Bool} {held : Bool} {t : TypeId} {f0 f1 f2 f3 : Field} {fuel : Nat} {cs : List Value} {x : DataW H × List MemPlace} (ht : P.underlying t = some (.struct #[f0, f1, f2, f3])) (h : DataW.trod enc P w base spare held fuel t cs = some x) :
    ∃ y0 y1 y2 y3 n, x = (.agg [y0.1, y1.1, y2.1, y3.1], y0.2 ++ (y1.2 ++ (y2.2 ++ y3.2))) ∧ cs.length = P.cellsOf t ∧ DataW.trod enc P w base spare held n f0.type ((cs.drop f0.offset).take (P.cellsOf f0.type)) = some y0 ∧
      DataW.trod enc P w base spare held n f1.type ((cs.drop f1.offset).take (P.cellsOf f1.type)) = some y1 ∧ DataW.trod enc P w base spare held n f2.type ((cs.drop f2.offset).take (P.cellsOf f2.type)) = some y2 ∧ DataW.trod enc P w base spare held n f3.type ((cs.drop f3.offset).take (P.cellsOf f3.type)) = some y3 := by
  obtain ⟨xs, n, _, rfl, hl, hlen, hf⟩ := DataW.trod_struct ht h
  match xs, hlen with
  | [y0, y1, y2, y3], _ => exact ⟨y0, y1, y2, y3, n, by simp, hl, by simpa using hf 0 f0 rfl, by simpa using hf 1 f1 rfl, by simpa using hf 2 f2 rfl, by simpa using hf 3 f3 rfl⟩
theorem trod_intsZ {H : Type} {enc : TypeId × Value → H} {W : World} {fuel : Nat} {cs : List Value} {x : DataW H × List MemPlace}
    (h : DataW.trod enc Tryz.prog W 0 (fun _ => true) true fuel 23 cs = some x) (hz : ∀ k ∈ x.1.weights Tryz.prog 23, k ≤ reachBytes) :
    ∃ a n c xs, cs = [.slice a n c] ∧ SlI W a n c xs ∧ n ≤ 17592186044000 := by
  rcases open_ints Tryz.underlying23 Tryz.underlying3 law_cellsI h with ⟨rfl, _⟩ | ⟨y, n, c, zs, rfl, _, hl, hm, hzl, rfl, hcell, hwz⟩
  · exact ⟨none, 0, 0, [], rfl, SlI.nil _, Nat.zero_le _⟩
  · have hzl' : zs.length = c := by simpa using hzl
    have hb := hz (((lits (H := H) .i64 (zs.take n)).length + (lits (H := H) .i64 (zs.drop n)).length) * Tryz.prog.bytesOf 3) (by simp [DataW.weights, Tryz.underlying23])
    have hlen : (lits (H := H) .i64 (zs.take n)).length + (lits (H := H) .i64 (zs.drop n)).length = c := by
      simp [lits]; omega
    rw [hlen, law_bytesI] at hb
    unfold reachBytes at hb
    refine ⟨some y, n, c, zs.take n, rfl, ⟨by simp; omega, hl, hm, ?_⟩, by omega⟩
    by_cases h0 : n = 0
    · left; subst h0; simp
    · right
      obtain ⟨b, off, spot⟩ := y
      have c0 := hcell 0 (by omega)
      have hspot : spot = none := by simpa [Addr.add] using World.cell?_spot c0
      subst hspot
      refine ⟨b, off, rfl, ?_⟩
      intro i hi
      have hi' : i < n := by simp at hi; omega
      have e : (⟨b, off, none⟩ : Addr).add i = ⟨b, off + i, none⟩ := by unfold Addr.add; split <;> simp_all
      have hzi := hcell i (by omega)
      rw [e] at hzi
      rw [hzi]
      have e2 : (zs.take n).getD i 0 = zs.getD i 0 := by
        simp [List.getD, hi', show i < zs.length from by omega]
      rw [e2]
structure PatZ (W : World) (a1 : Option Addr) (n1 c1 : Nat) (st : List Int) (a2 : Option Addr) (n2 c2 : Nat) (cols : List Int) : Prop where
  h1 : SlI W a1 n1 c1 st
  h2 : SlI W a2 n2 c2 cols
  l1 : n1 ≤ 17592186044000
  l2 : n2 ≤ 17592186044000
set_option maxRecDepth 100000 in
theorem trod_patZ {H : Type} {enc : TypeId × Value → H} {W : World} {fuel : Nat} {cs : List Value} {x : DataW H × List MemPlace}
    (h : DataW.trod enc Tryz.prog W 0 (fun _ => true) true fuel 25 cs = some x) (hz : ∀ k ∈ x.1.weights Tryz.prog 25, k ≤ reachBytes) :
    ∃ rows width a1 n1 c1 st a2 n2 c2 cols, cs = [.int .i64 rows, .int .i64 width, .slice a1 n1 c1, .slice a2 n2 c2] ∧ PatZ W a1 n1 c1 st a2 n2 c2 cols := by
  obtain ⟨y0, y1, y2, y3, k, rfl, hl, h0, h1, h2, h3⟩ := trod_s4 Tryz.underlying25 h
  rw [law_cellsP] at hl
  match cs, hl with
  | [c0, c1, c2, c3], _ =>
    simp only [List.drop_zero, List.drop_succ_cons, law_cellsI, law_cellsIs, List.take_succ_cons, List.take_zero] at h0 h1 h2 h3
    obtain ⟨r, e0, _⟩ := DataW.trod_int Tryz.underlying3 h0
    obtain ⟨wd, e1, _⟩ := DataW.trod_int Tryz.underlying3 h1
    obtain ⟨a1, n1, d1, st, e2, k1, k2⟩ := trod_intsZ h2 (fun k hk => hz k (by simp [DataW.weights, DataW.weightsEach, Tryz.underlying25, hk]))
    obtain ⟨a2, n2, d2, cols, e3, k3, k4⟩ := trod_intsZ h3 (fun k hk => hz k (by simp [DataW.weights, DataW.weightsEach, Tryz.underlying25, hk]))
    cases e0
    cases e1
    cases e2
    cases e3
    exact ⟨r, wd, a1, n1, d1, st, a2, n2, d2, cols, rfl, ⟨k1, k3, k2, k4⟩⟩
set_option maxRecDepth 100000 in
theorem arg_patZ {H : Type} {enc : TypeId × Value → H} {W : World} {v : Value} {d : DataW H} {p : List MemPlace} {r : Reach} {b0 : Nat}
    (hv : Value.okWide Tryz.prog W r b0 25 v) (h : DataW.Trod enc Tryz.prog W 0 (fun _ => true) true 25 v d p) (hz : ∀ k ∈ d.weights Tryz.prog 25, k ≤ reachBytes) :
    ∃ rows width a1 n1 c1 st a2 n2 c2 cols, v = patV rows width a1 n1 c1 a2 n2 c2 ∧ PatZ W a1 n1 c1 st a2 n2 c2 cols := by
  obtain ⟨cs, rfl, hsz⟩ := okWide_struct Tryz.underlying25 hv
  obtain ⟨fuel, hf⟩ := h
  obtain ⟨rows, width, a1, n1, c1, st, a2, n2, c2, cols, e, k⟩ := trod_patZ hf hz
  have hcs : (Value.agg cs).cells.toList = cs.toList := by simp [Value.cells]
  rw [hcs] at e
  refine ⟨rows, width, a1, n1, c1, st, a2, n2, c2, cols, ?_, k⟩
  unfold patV
  congr 1
  apply Array.ext'
  simpa using e
end Go.Proofs.YtgjokididdffhaaGreat
