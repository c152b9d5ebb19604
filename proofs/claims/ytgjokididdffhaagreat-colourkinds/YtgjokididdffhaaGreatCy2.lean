/- Cz1 -/
import Derived.Test.YtgjokididdffhaaGreatCy1
import Derived.Test.YtgjokididdffhaaGreatCi1
import Derived.Test.YtgjokididdffhaaGreatCw5
import Derived.Test.YtgjokididdffhaaGreatDa3
import Derived.Test.YtgjokididdffhaaGreatCu9
import Derived.Lib.MinMax
namespace Go.Proofs.YtgjokididdffhaaGreat
open Go.RowKit Go.Deep
set_option linter.unusedVariables false
noncomputable def atK (xs : List Int) (cs : Nat → Int) (k : Nat) : Nat → Int := fun i => if tb (∃ j, j < k ∧ (xs.getD j 0).toNat = i) = true then cs i else -1
theorem atK_in {xs : List Int} {cs : Nat → Int} {k i : Nat} (h : ∃ j, j < k ∧ (xs.getD j 0).toNat = i) : atK xs cs k i = cs i := by unfold atK; rw [if_pos (tb_iff.2 h)]
theorem atK_out {xs : List Int} {cs : Nat → Int} {k i : Nat} (h : ¬ ∃ j, j < k ∧ (xs.getD j 0).toNat = i) : atK xs cs k i = -1 := by unfold atK; rw [if_neg (fun e => h (tb_iff.1 e))]
theorem PntG.steps {L : (Nat → Int) → Nat → Nat → Prop} {xs : List Int} : ∀ {k : Nat} {cs : Nat → Int}, (∀ i j, i < k → j < k → (xs.getD i 0).toNat = (xs.getD j 0).toNat → i = j) → PntG L xs k cs → atK xs cs k = cs ∧ ∀ j, j < k → 0 ≤ cs (xs.getD j 0).toNat ∧ L (atK xs cs j) (xs.getD j 0).toNat (cs (xs.getD j 0).toNat).toNat
  | 0, cs, hd, h => by
    unfold PntG at h
    subst h
    refine ⟨?_, fun j hj => by omega⟩
    funext i
    exact atK_out (fun ⟨j, hj, _⟩ => by omega)
  | k + 1, cs, hd, ⟨c0, y, h1, h2, h3⟩ => by
    obtain ⟨i1, i2⟩ := PntG.steps (fun i j hi hj e => hd i j (by omega) (by omega) e) h1
    have hfr : c0 (xs.getD k 0).toNat = -1 := by
      rw [← i1]
      exact atK_out (fun ⟨j, hj, e⟩ => by have := hd j k (by omega) (by omega) e; omega)
    have hold : ∀ i, i ≠ (xs.getD k 0).toNat → cs i = c0 i := fun i hi => by rw [h3, updC_other _ _ hi]
    have hnew : cs (xs.getD k 0).toNat = (y : Int) := by rw [h3, updC_same]
    have hpre : ∀ j, j ≤ k → atK xs cs j = atK xs c0 j := fun j hj => by
      funext i
      by_cases hi : ∃ j', j' < j ∧ (xs.getD j' 0).toNat = i
      · rw [atK_in hi, atK_in hi]
        obtain ⟨j', h5, h6⟩ := hi
        exact hold i (fun e => by have := hd j' k (by omega) (by omega) (by rw [h6, e]); omega)
      · rw [atK_out hi, atK_out hi]
    refine ⟨?_, fun j hj => ?_⟩
    · funext i
      by_cases hi : ∃ j, j < k + 1 ∧ (xs.getD j 0).toNat = i
      · exact atK_in hi
      · rw [atK_out hi, hold i (fun e => hi ⟨k, by omega, e.symm⟩), ← i1]
        exact (atK_out (fun ⟨j, hj, e⟩ => hi ⟨j, by omega, e⟩)).symm
    · by_cases e : j = k
      · subst e
        rw [hnew, hpre j (Nat.le_refl _), i1]
        exact ⟨by omega, by rw [Int.toNat_natCast]; exact h2⟩
      · have hne : (xs.getD j 0).toNat ≠ (xs.getD k 0).toNat := fun e2 => e (hd j k hj (by omega) e2)
        rw [hold _ hne, hpre j (by omega)]
        exact i2 j (by omega)
theorem ord_dist {xs : List Int} {m : Nat} (ho : OrdTo xs m m) : ∀ i j, i < m → j < m → (xs.getD i 0).toNat = (xs.getD j 0).toNat → i = j := fun i j hi hj e => by
  have h1 := ho.rng i hi
  have h2 := ho.rng j hj
  rcases Nat.lt_trichotomy i j with c | c | c
  · exact absurd (show xs.getD i 0 = xs.getD j 0 by omega) (ho.one i j c hj)
  · exact c
  · exact absurd (show xs.getD j 0 = xs.getD i 0 by omega) (ho.one j i c hi)
theorem ord_at {xs : List Int} {m : Nat} (ho : OrdTo xs m m) {v : Nat} (hv : v < m) : ∃ j, j < m ∧ (xs.getD j 0).toNat = v := by
  obtain ⟨j, h1, h2, _⟩ := ho.place hv
  exact ⟨j, h1, by rw [h2, Int.toNat_natCast]⟩
section
variable {S C xs : List Int} {m : Nat} {cs : Nat → Int}
theorem pnt_nb (hm : MayP (m : Int) (m : Int) S C) (hg : GraP S C m m) (ho : OrdTo xs m m) (h : ∀ j, j < m → 0 ≤ cs (xs.getD j 0).toNat ∧ ¬ BarN S C (atK xs cs j) (xs.getD j 0).toNat (cs (xs.getD j 0).toNat).toNat) : ∀ u v, adG S C m u v → cs u ≠ cs v := fun u v ha e => by
  have key : ∀ a b ja jb, adG S C m b a → cs a = cs b → ja < m → jb < m → (xs.getD ja 0).toNat = a → (xs.getD jb 0).toNat = b → ja < jb → False := fun a b ja jb ha e h1 h2 h3 h4 hl => by
    have hs := h jb h2
    rw [h4] at hs
    refine hs.2 ((barN_ad hm ha.1).2 ⟨a, ha, ?_⟩)
    rw [atK_in ⟨ja, hl, h3⟩]
    omega
  obtain ⟨ju, h1, h2⟩ := ord_at ho ha.1
  obtain ⟨jv, h3, h4⟩ := ord_at ho ha.2.1
  rcases Nat.lt_trichotomy ju jv with l | l | l
  · exact key u v ju jv (adG.sy hg _ _ ha) e h1 h3 h2 h4 l
  · subst l
    rw [h2] at h4
    subst h4
    exact adG.ir hg _ ha
  · exact key v u jv ju ha e.symm h3 h1 h4 h2 l
end
section
variable {S C : List Int} {m : Nat}
end
structure OpE (V : (Nat → Nat) → Nat → Prop) (e : Nat → Nat) (v : Nat) (A : Nat → Prop) (best r : Nat) : Prop where
  le : r ≤ best
  at_ : r = best ∨ ∃ f, AgE f e v ∧ V f r
  all : ∀ f z, AgE f e v → V f z → A (f v) → r ≤ z
section
variable {V : (Nat → Nat) → Nat → Prop} {e : Nat → Nat} {v best r : Nat}
theorem OpE.start (e : Nat → Nat) (v best : Nat) : OpE V e v (fun y => y < 0) best best := ⟨Nat.le_refl _, .inl rfl, fun f z _ _ h => by omega⟩
theorem OpE.skip {y : Nat} (h : OpE V e v (fun x => x < y) best r) (k : ∀ f z, AgE f e v → V f z → f v ≠ y) : OpE V e v (fun x => x < y + 1) best r := ⟨h.le, h.at_, fun f z h1 h2 h3 => h.all f z h1 h2 (by have := k f z h1 h2; omega)⟩
theorem OpE.step {y r' : Nat} (h : OpE V e v (fun x => x < y) best r) (g : OpE V (upE e v y) (v + 1) (fun _ => True) r r') : OpE V e v (fun x => x < y + 1) best r' := by
  have up : ∀ f, AgE f (upE e v y) (v + 1) → AgE f e v ∧ f v = y := fun f hf => ⟨fun i hi => by rw [hf i (by omega), upE_other _ _ (by omega)], by rw [hf v (by omega), upE_same]⟩
  refine ⟨Nat.le_trans g.le h.le, ?_, fun f z h1 h2 h3 => ?_⟩
  · rcases g.at_ with e1 | ⟨f, h1, h2⟩
    · rw [e1]; exact h.at_
    · exact .inr ⟨f, (up f h1).1, h2⟩
  · by_cases e2 : f v = y
    · refine g.all f z (fun i hi => ?_) h2 trivial
      by_cases e3 : i = v
      · subst e3; rw [upE_same, e2]
      · rw [upE_other _ _ e3]; exact h1 i (by omega)
    · exact Nat.le_trans g.le (h.all f z h1 h2 (by omega))
theorem OpE.all_ {m : Nat} (h : OpE V e v (fun x => x < m) best r) (k : ∀ f z, V f z → f v < m) : OpE V e v (fun _ => True) best r := ⟨h.le, h.at_, fun f z h1 h2 _ => h.all f z h1 h2 (k f z h2)⟩
theorem OpE.done {m z : Nat} (hc : ∀ f z', AgE f e m → V f z' → z' = z) (hz : V e z) : OpE V e m (fun _ => True) best (min z best) := by
  by_cases hb : best ≤ z
  · rw [Nat.min_eq_right hb]
    exact ⟨Nat.le_refl _, .inl rfl, fun f z' h1 h2 _ => by rw [hc f z' h1 h2]; exact hb⟩
  · rw [Nat.min_eq_left (by omega)]
    exact ⟨by omega, .inr ⟨e, AgE.refl _ _, hz⟩, fun f z' h1 h2 _ => by rw [hc f z' h1 h2]; exact Nat.le_refl _⟩
end

theorem BrI.wipe {W : World} {X R : Nat} {vs : List Value} {b1 : Option Addr} {m1 d1 : Nat} {b2 : Option Addr} {m2 d2 : Nat} {g h cnt : Nat} {cs ls : Nat → Int} {st cols : List Int} (k : BrI W X R vs b1 m1 d1 b2 m2 d2 g h cnt cs ls st cols) (v : Nat) (y : Int) (hv : v < R) (ds : Nat → Int) (hd : ∀ i, i < R → ds i = if i = v then y else cs i) : BrI (W.setCell ⟨g, v, none⟩ (.int .i64 y)) X R vs b1 m1 d1 b2 m2 d2 g h cnt ds ls st cols := by
  have c : Chg (fun j => j = g) W (W.setCell ⟨g, v, none⟩ (.int .i64 y)) := Chg.of_set _ _ _ _ rfl
  exact ⟨k.box.chg c (fun e => k.ne.2.1 e.symm), k.v9, k.v10, k.v11, k.v12, k.v13, k.v14, k.v15, (k.col.put v _ hv).congr (fun i hi => by rw [hd i hi]; split <;> rfl), k.last.chg c (fun e => k.ne.1 e.symm), k.s1.chg c (fun z hz hne => (k.o1 z hz hne).2.1), k.s2.chg c (fun z hz hne => (k.o2 z hz hne).2.1), k.o1, k.o2, k.ne⟩
def tqN : Nat → Nat → Nat
  | 0, _ => 0
  | d + 1, v => 1 + (v + 1) * tqN d (v + 1)
structure FrG (bar : (Nat → Int) → Nat → Nat → Prop) (Arr : World → Prop) (w w' : World) (e : Ending) (X R : Nat) (vs : List Value) (b1 : Option Addr) (m1 d1 : Nat) (b2 : Option Addr) (m2 d2 : Nat) (g h cnt : Nat) (cs : Nat → Int) (st cols : List Int) (v : Nat) (z : Nat) (a : Option Addr) (c : Nat) (ls' : Nat → Int) : Prop where
  ret : e = .returned (.slice a (grR (fun _ j => ¬ bar cs v j) 0 (z + 1)).length c)
  sl : SlI w' a (grR (fun _ j => ¬ bar cs v j) 0 (z + 1)).length c (grR (fun _ j => ¬ bar cs v j) 0 (z + 1))
  new : ∀ x, a = some x → w.heap.size ≤ x.block
  bru : BrI w' X R (vs.set 14 (.int .i64 ((cnt + 1 : Nat) : Int))) b1 m1 d1 b2 m2 d2 g h (cnt + 1) cs ls' st cols
  le : ∀ j, j < R → ls' j ≤ ((cnt + 1 : Nat) : Int)
  chg : Chg (fun j => j = h ∨ j = X) w w'
  arr : Arr w'
def PvE (bar : (Nat → Int) → Nat → Nat → Prop) (e : Nat → Nat) (v : Nat) : Prop := ∀ j, j < v → e j ≤ usE e j ∧ ¬ bar (cuE e j) j (e j)
theorem PvE.up {bar : (Nat → Int) → Nat → Nat → Prop} {e : Nat → Nat} {v y : Nat} (h : PvE bar e v) (hy : y ≤ usE e v) (hb : ¬ bar (cuE e v) v y) : PvE bar (upE e v y) (v + 1) := fun j hj => by
  have ag := upE_ag e v y
  by_cases k : j = v
  · subst k
    rw [ag.us, ag.cu, upE_same]
    exact ⟨hy, hb⟩
  · rw [(ag.mono (show j ≤ v by omega)).us, (ag.mono (show j ≤ v by omega)).cu, upE_other _ _ k]
    exact h j (by omega)
structure FwS (Arr : World → Prop) (w w' : World) (X R : Nat) (vs : List Value) (b1 : Option Addr) (m1 d1 : Nat) (b2 : Option Addr) (m2 d2 : Nat) (g h cnt t : Nat) (cs : Nat → Int) (st cols : List Int) : Prop where
  bru : ∃ vs' cnt' ls', BrI w' X R vs' b1 m1 d1 b2 m2 d2 g h cnt' cs ls' st cols ∧ (∀ j, j < R → ls' j ≤ (cnt' : Int)) ∧ vs'[2]? = vs[2]? ∧ vs'.length = vs.length ∧ cnt' ≤ cnt + t
  arr : Arr w'
  chg : Chg (fun j => j = g ∨ j = h ∨ j = X) w w'
def FwG (bar : (Nat → Int) → Nat → Nat → Prop) (Arr : World → Prop) (w w' : World) (e : Ending) (X R : Nat) (vs : List Value) (b1 : Option Addr) (m1 d1 : Nat) (b2 : Option Addr) (m2 d2 : Nat) (g h cnt t : Nat) (e0 : Nat → Nat) (v best : Nat) (st cols : List Int) : Prop :=
  ∃ r : Nat, e = .returned (.int .i64 (r : Int)) ∧ FwP bar R e0 v best r ∧ FwS Arr w w' X R vs b1 m1 d1 b2 m2 d2 g h cnt t (cuE e0 v) st cols
def FrAll (bar : (Nat → Int) → Nat → Nat → Prop) (Arr : World → Prop) (X R : Nat) (b1 : Option Addr) (m1 d1 : Nat) (b2 : Option Addr) (m2 d2 : Nat) (g h : Nat) (f2 : Option Value) (st cols : List Int) : Prop :=
  ∀ (e0 : Nat → Nat) (v cnt : Nat) (ls : Nat → Int) (vs : List Value) (W : World), v < R → PvE bar e0 v → BrI W X R vs b1 m1 d1 b2 m2 d2 g h cnt (cuE e0 v) ls st cols → vs[2]? = f2 → vs.length ≤ 16 → (∀ j, j < R → ls j ≤ (cnt : Int)) → cnt ≤ 1000000 → Arr W → Calls Tryz.prog 66 #[.pointer (some ⟨X, 0, none⟩), .int .i64 (v : Int)] W fun e w' => ∃ a c ls', FrG bar Arr W w' e X R vs b1 m1 d1 b2 m2 d2 g h cnt (cuE e0 v) st cols v (usE e0 v) a c ls'
set_option maxRecDepth 100000 in
set_option maxHeartbeats 16000000 in
theorem cfewest_end (bar : (Nat → Int) → Nat → Nat → Prop) (Arr : World → Prop) (hAB : ∀ W W', Arr W → Below W.heap.size W W' → Arr W') (X R : Nat) (vs : List Value) (b1 : Option Addr) (m1 d1 : Nat) (b2 : Option Addr) (m2 d2 : Nat) (g h cnt t : Nat) (ls : Nat → Int) (st cols : List Int) (e0 : Nat → Nat) (v best : Nat) (w : World) (hR : R ≤ 128) (hv : v ≤ R) (hb : best ≤ R) (hend : best ≤ usE e0 v ∨ v = R) (hP : PvE bar e0 v) (hB : BrI w X R vs b1 m1 d1 b2 m2 d2 g h cnt (cuE e0 v) ls st cols) (hls : ∀ j, j < R → ls j ≤ (cnt : Int)) (hA : Arr w) :
    Calls Tryz.prog 36 #[.pointer (some ⟨X, 0, none⟩), .int .i64 (v : Int), .int .i64 (best : Int)] w fun e w' => FwG bar Arr w w' e X R vs b1 m1 d1 b2 m2 d2 g h cnt t e0 v best st cols := by
  have husm := usE_small e0 (v := v) (fun j hj => (hP j hj).1)
  have q13 := (hB.box.all 13 _ hB.v13).1
  have KN := hide (cnumber_any (some ⟨g, 0, none⟩) R R (csL (cuE e0 v) R) w (hB.col.sli hR) hR (fun i hi => by rw [csL_get hi]; have := cuE_rng (show usE e0 v ≤ R by omega) i; omega) (fun e => by cases e))
  have HNM := hide (cuE_nm e0 hv).num
  obtain ⟨us, hus⟩ : ∃ us, usE e0 v = us := ⟨_, rfl⟩
  have HUS := hide hus
  rw [hus] at HNM husm
  have HF := hide (show ∀ W, Below w.heap.size w W → FwS Arr w W X R vs b1 m1 d1 b2 m2 d2 g h cnt t (cuE e0 v) st cols from fun W b => ⟨⟨vs, cnt, ls, hB.below b, hls, rfl, rfl, by omega⟩, hAB w W hA b, Chg.of_below b⟩)
  have HV13 := hide (show ∀ W, Below w.heap.size w W → W.cell? ⟨X, 13, none⟩ = some (.slice (some ⟨g, 0, none⟩) R R) from fun W b => ((hB.below b).box.all 13 _ hB.v13).1)
  have HD := hide (FwP.done (bar := bar) hv hend)
  rw [hus] at HD hend
  clear hB hP hls hA hus hAB
  go_enter Tryz.func36, Tryz.ntmps36
  go_wp2_with fail
  refine (unhide KN).mono ?_
  rintro _ w2 ⟨z, rfl, hz, b2⟩
  obtain rfl : z = (us : Int) := NumC.one hz (unhide HNM)
  have HW := hide (unhide HF w2 b2)
  have k13 := unhide HV13 w2 b2
  clear hz b2 KN q13
  by_cases hbe : best ≤ us
  · have hbe' : (us : Int) ≥ (best : Int) := by omega
    have HD := hide (show FwP bar R e0 v best best from by have := unhide HD; rwa [Nat.min_eq_right hbe] at this)
    have hmin : min (us : Int) (best : Int) = (best : Int) := by omega
    clear hend
    go_wp2_with fail
    go_ret
    exact ⟨best, rfl, unhide HD, unhide HW⟩
  · obtain rfl : v = R := hend.resolve_left hbe
    have hbe' : ¬ (us : Int) ≥ (best : Int) := by omega
    have HD := hide (show FwP bar v e0 v best us from by have := unhide HD; rwa [Nat.min_eq_left (by omega)] at this)
    have hmin : min (us : Int) (best : Int) = (us : Int) := by omega
    clear hend
    go_wp2_with fail
    go_ret
    exact ⟨us, rfl, unhide HD, unhide HW⟩
theorem FwS.trans {Arr : World → Prop} {w w2 w3 : World} {X R : Nat} {vs vs1 : List Value} {b1 : Option Addr} {m1 d1 : Nat} {b2 : Option Addr} {m2 d2 : Nat} {g h cnt cnt1 t t1 : Nat} {cs : Nat → Int} {st cols : List Int} (k1 : Chg (fun j => j = g ∨ j = h ∨ j = X) w w2) (e1 : vs1[2]? = vs[2]?) (e2 : vs1.length = vs.length) (e3 : cnt1 ≤ cnt + t) (k : FwS Arr w2 w3 X R vs1 b1 m1 d1 b2 m2 d2 g h cnt1 t1 cs st cols) {t2 : Nat} (ht : t + t1 ≤ t2) : FwS Arr w w3 X R vs b1 m1 d1 b2 m2 d2 g h cnt t2 cs st cols := by
  obtain ⟨vs', cnt', ls', h1, h2, h3, h4, h5⟩ := k.bru
  exact ⟨⟨vs', cnt', ls', h1, h2, h3.trans e1, h4.trans e2, by omega⟩, k.arr, k1.trans k.chg⟩
def atC (cs : Nat → Int) (v : Nat) (x : Int) : Nat → Int := fun q => if q = v then x else cs q
theorem atC_up (e : Nat → Nat) (v y : Nat) : cuE (upE e v y) (v + 1) = atC (cuE e v) v (y : Int) := by rw [cuE_up]; rfl
theorem atC_at (cs : Nat → Int) (v : Nat) (x y : Int) (q : Nat) : atC cs v y q = if q = v then y else atC cs v x q := by
  unfold atC
  split <;> rfl
set_option maxRecDepth 100000 in
set_option maxHeartbeats 32000000 in
theorem cfewest_any (bar : (Nat → Int) → Nat → Nat → Prop) (Arr : World → Prop) (hAB : ∀ W W', Arr W → Below W.heap.size W W' → Arr W') (X R : Nat) (b1 : Option Addr) (m1 d1 : Nat) (b2 : Option Addr) (m2 d2 : Nat) (g h : Nat) (f2 : Option Value) (st cols : List Int) (hAG : ∀ W W', Arr W → Chg (fun j => j = g) W W' → Arr W') (hFr : FrAll bar Arr X R b1 m1 d1 b2 m2 d2 g h f2 st cols) (hR : R ≤ 128) : ∀ (d : Nat) (e0 : Nat → Nat) (v cnt best : Nat) (ls : Nat → Int) (vs : List Value) (w : World), v + d = R → best ≤ R → PvE bar e0 v → BrI w X R vs b1 m1 d1 b2 m2 d2 g h cnt (cuE e0 v) ls st cols → vs[2]? = f2 → vs.length ≤ 16 → (∀ j, j < R → ls j ≤ (cnt : Int)) → cnt + tqN d v ≤ 1000000 → Arr w →
    Calls Tryz.prog 36 #[.pointer (some ⟨X, 0, none⟩), .int .i64 (v : Int), .int .i64 (best : Int)] w fun e w' => FwG bar Arr w w' e X R vs b1 m1 d1 b2 m2 d2 g h cnt (tqN d v) e0 v best st cols := by
  intro d
  induction d with
  | zero =>
    intro e0 v cnt best ls vs w hvd hb hP hB hf hl hls hc hA
    exact cfewest_end bar Arr hAB X R vs b1 m1 d1 b2 m2 d2 g h cnt _ ls st cols e0 v best w hR (by omega) hb (.inr (by omega)) hP hB hls hA
  | succ d ih =>
    intro e0 v cnt best ls vs w hvd hb hP hB hf hl hls hc hA
    by_cases hbe : best ≤ usE e0 v
    · exact cfewest_end bar Arr hAB X R vs b1 m1 d1 b2 m2 d2 g h cnt _ ls st cols e0 v best w hR (by omega) hb (.inl hbe) hP hB hls hA
    have husm := usE_small e0 (v := v) (fun j hj => (hP j hj).1)
    have hvR : v < R := by omega
    have q13 := (hB.box.all 13 _ hB.v13).1
    have KN := hide (cnumber_any (some ⟨g, 0, none⟩) R R (csL (cuE e0 v) R) w (hB.col.sli hR) hR (fun i hi => by rw [csL_get hi]; have := cuE_rng (show usE e0 v ≤ R by omega) i; omega) (fun e => by cases e))
    have HNM := hide (cuE_nm e0 (show v ≤ R by omega)).num
    have hc1 : cnt ≤ 1000000 := by unfold tqN at hc; omega
    have HFR := hide (show ∀ W, Below w.heap.size w W → _ from fun W b => hFr e0 v cnt ls vs W hvR hP (hB.below b) hf hl hls hc1 (hAB w W hA b))
    obtain ⟨tq, htq⟩ : ∃ tq, tqN d (v + 1) = tq := ⟨_, rfl⟩
    have hT : tqN (d + 1) v = 1 + (v + 1) * tq := by rw [← htq]; rfl
    have HIH := hide (show ∀ (y cnt' r : Nat) (ls' : Nat → Int) (vs' : List Value) (W : World), r ≤ R → y ≤ usE e0 v → ¬ bar (cuE e0 v) v y → BrI W X R vs' b1 m1 d1 b2 m2 d2 g h cnt' (atC (cuE e0 v) v (y : Int)) ls' st cols → vs'[2]? = f2 → vs'.length ≤ 16 → (∀ j, j < R → ls' j ≤ (cnt' : Int)) → cnt' + tq ≤ 1000000 → Arr W → Calls Tryz.prog 36 #[.pointer (some ⟨X, 0, none⟩), .int .i64 ((v : Int) + 1), .int .i64 (r : Int)] W fun e w' => ∃ r' : Nat, e = .returned (.int .i64 (r' : Int)) ∧ FwP bar R (upE e0 v y) (v + 1) r r' ∧ FwS Arr W w' X R vs' b1 m1 d1 b2 m2 d2 g h cnt' tq (atC (cuE e0 v) v (y : Int)) st cols from fun y cnt' r ls' vs' W hr hy hnb hB' hf' hl' hls' hc' hA' => by
      have k := ih (upE e0 v y) (v + 1) cnt' r ls' vs' W (by omega) hr (hP.up hy hnb) (by rw [atC_up]; exact hB') hf' hl' hls' (by rw [htq]; exact hc') hA'
      unfold FwG at k
      rw [atC_up, htq, show ((v + 1 : Nat) : Int) = (v : Int) + 1 by omega] at k
      exact k)
    rw [hT] at hc
    have hXg := hB.ne
    have HLT := hide (show g < w.heap.size ∧ h < w.heap.size ∧ X < w.heap.size from ⟨World.block_lt_of_cell? _ _ (hB.col v hvR).1, World.block_lt_of_cell? _ _ (hB.last v hvR).1, World.block_lt_of_cell? _ _ q13⟩)
    have HAG := hide hAG
    have HB13 := hide (show ∀ W, Below w.heap.size w W → W.cell? ⟨X, 13, none⟩ = some (.slice (some ⟨g, 0, none⟩) R R) from fun W b => ((hB.below b).box.all 13 _ hB.v13).1)
    have HF2 := hide (And.intro hf hl)
    obtain ⟨us, hus⟩ : ∃ us, usE e0 v = us := ⟨_, rfl⟩
    have HUS := hide hus
    rw [hus] at HNM husm HFR HIH hbe
    rw [hT]
    obtain ⟨cs, hcs⟩ : ∃ cs, cuE e0 v = cs := ⟨_, rfl⟩
    have HCS := hide hcs
    have hcv : cs v = -1 := by rw [← hcs]; exact cuE_fresh e0 v
    rw [hcs] at HNM HFR HIH KN
    have HCV := hide hcv
    clear hB hP hls hA hus hcs hcv hf hl hFr ih htq hT hAG hAB
    unfold FwG
    rw [unhide HCS]
    have hbe' : ¬ (us : Int) ≥ (best : Int) := by omega
    have hvne : ((v : Int) == (R : Int)) = false := by simp; omega
    have hvR' : (v : Int) < (R : Int) := by omega
    have hw1 : IntKind.i64.wrap ((v : Int) + 1) = (v : Int) + 1 := by rw [IntKind.wrap_i64]; omega
    go_enter Tryz.func36, Tryz.ntmps36
    go_wp2_with fail
    refine (unhide KN).mono ?_
    rintro _ w2 ⟨z, rfl, hz, b2⟩
    obtain rfl : z = (us : Int) := NumC.one hz (unhide HNM)
    have k13 := unhide HB13 w2 b2
    have KF := hide (unhide HFR w2 b2)
    have HB2 := hide b2
    clear hz b2 KN q13
    go_wp2_with fail
    refine (unhide KF).mono ?_
    rintro _ w4 ⟨a, c, ls4, hF⟩
    obtain ⟨L, hL⟩ : ∃ L, grR (fun _ j => ¬ bar cs v j) 0 (us + 1) = L := ⟨_, rfl⟩
    have hLm : ∀ j, j < L.length → ∃ y : Nat, L.getD j 0 = (y : Int) ∧ y ≤ us ∧ ¬ bar cs v y := fun j hj => by
      have hm : L.getD j 0 ∈ L := mem_getD.2 ⟨j, hj, rfl⟩
      rw [← hL] at hm
      obtain ⟨y, h1, h2, h3⟩ := (grR_mem _ _).1 hm
      rw [hL] at h2
      exact ⟨y, h2, by omega, h3⟩
    have hLa : ∀ y, y ≤ us → ¬ bar cs v y → ∃ j, j < L.length ∧ L.getD j 0 = (y : Int) := fun y h1 h2 => by
      have hm : (y : Int) ∈ L := by rw [← hL]; exact (grR_mem _ _).2 ⟨y, by omega, rfl, h2⟩
      exact mem_getD.1 hm
    have hLl : L.length ≤ us + 1 := by rw [← hL]; exact grR_len _ _ _
    have e4 := hF.ret
    rw [hL] at e4
    subst e4
    have hsl := hF.sl
    rw [hL] at hsl
    have HSL := hide (show ∀ W, Chg (fun j => j = g ∨ j = h ∨ j = X) w4 W → SlI W a L.length c L from fun W k => hsl.chg k (fun z hz hne e => by
      have h1 := hF.new z hz
      have h2 := unhide HLT
      have h3 := (unhide HB2).size
      have e : z.block = g ∨ z.block = h ∨ z.block = X := e
      omega))
    have HS4 := hide (show FwS Arr w w4 X R vs b1 m1 d1 b2 m2 d2 g h cnt 1 cs st cols from ⟨⟨_, _, _, hF.bru, hF.le, by rw [List.getElem?_set_ne (by omega)], by simp, by omega⟩, hF.arr, (Chg.of_below (unhide HB2)).trans (hF.chg.mono (fun j _ e => .inr e))⟩)
    obtain ⟨n, hn⟩ : ∃ n, L.length = n := ⟨_, rfl⟩
    rw [hn] at hLm hLa hLl HSL ⊢
    have HLM := hide hLm
    have HLA := hide hLa
    clear hF hsl hL hLm hLa hn k13 KF HFR
    go_wp2_with fail
    go_loopw [34, 2] (fun iv bv wr => ∃ (i r : Nat), i ≤ n ∧ r ≤ best ∧ iv = .int .i64 (i : Int) ∧ bv = .int .i64 (r : Int) ∧ Hid (LpE bar R e0 v (fun y => ∃ j, j < i ∧ L.getD j 0 = (y : Int)) best r) ∧ Hid (Chg (fun j => j = g ∨ j = h ∨ j = X) w4 wr) ∧ Hid (∃ x : Int, FwS Arr w wr X R vs b1 m1 d1 b2 m2 d2 g h cnt (1 + i * tq) (atC cs v x) st cols)) (fun iv _ _ => n - (intOf iv).toNat)
    case atStart =>
      refine ⟨0, best, Nat.zero_le _, Nat.le_refl _, rfl, rfl, hide ?_, hide (Chg.refl _ _), hide ⟨-1, ?_⟩⟩
      · have k := LpE.start (bar := bar) (m := R) e0 v best
        exact ⟨k.le, k.at_, fun f h1 h2 ⟨j, hj, _⟩ => by omega⟩
      · have e : atC cs v (-1) = cs := by
          funext q
          unfold atC
          by_cases e : q = v
          · rw [if_pos e, e, unhide HCV]
          · rw [if_neg e]
        rw [e, Nat.zero_mul]
        exact unhide HS4
    case round =>
      obtain ⟨i, r, hi, hr, rfl, rfl, HL, HC, HS⟩ := hrel
      obtain ⟨x, hS⟩ := unhide HS
      obtain ⟨vs1, cnt1, ls1, hB1, hle1, hf1, hl1, hc1'⟩ := hS.bru
      have k13 := (hB1.box.all 13 _ hB1.v13).1
      have c0 := (hB1.col v hvR).1
      have c1 := (hB1.col v hvR).2
      by_cases hlt : i < n
      · have hlt' : (i : Int) < (n : Int) := by omega
        obtain ⟨y, hy, hyu, hyb⟩ := unhide HLM i hlt
        obtain ⟨bb, off, e1, hcl⟩ := (unhide HSL wr (unhide HC)).at (by omega)
        subst e1
        have sk := hcl i hlt
        rw [hy] at sk
        have hmul : (i + 1) * tq ≤ (v + 1) * tq := Nat.mul_le_mul_right _ (by omega)
        rw [Nat.add_mul, Nat.one_mul] at hmul
        have hCg : Chg (fun j => j = g) wr (wr.setCell ⟨g, v, none⟩ (.int .i64 (y : Int))) := Chg.of_set _ _ _ _ rfl
        have KI := hide (unhide HIH y cnt1 r ls1 vs1 (wr.setCell ⟨g, v, none⟩ (.int .i64 (y : Int))) (by omega) hyu hyb (hB1.wipe v (y : Int) hvR _ (fun q _ => atC_at cs v x (y : Int) q)) (hf1.trans (unhide HF2).1) (by rw [hl1]; exact (unhide HF2).2) hle1 (by omega) (unhide HAG _ _ hS.arr hCg))
        have HCW := hide (show Chg (fun j => j = g ∨ j = h ∨ j = X) wr (wr.setCell ⟨g, v, none⟩ (.int .i64 (y : Int))) from hCg.mono (fun j _ e => .inl e))
        have HST := hide (show ∀ w6, FwS Arr (wr.setCell ⟨g, v, none⟩ (.int .i64 (y : Int))) w6 X R vs1 b1 m1 d1 b2 m2 d2 g h cnt1 tq (atC cs v (y : Int)) st cols → FwS Arr w w6 X R vs b1 m1 d1 b2 m2 d2 g h cnt (1 + (i + 1) * tq) (atC cs v (y : Int)) st cols from fun w6 k => FwS.trans (hS.chg.trans (hCg.mono (fun j _ e => .inl e))) hf1 hl1 hc1' k (by rw [Nat.add_mul, Nat.one_mul]; omega))
        have HYP := hide (And.intro hy (And.intro hyu hyb))
        have HI9 := hide (show i + 1 ≤ n ∧ n - (i + 1) < n - i from by omega)
        clear hy hyu hyb hcl hmul hCg hB1 hle1 hf1 hl1 hc1' hS
        go_wp2_with fail
        refine (unhide KI).mono ?_
        rintro _ w6 ⟨r', rfl, hP6, hS6⟩
        have HL6 := hide (show LpE bar R e0 v (fun y => ∃ j, j < i + 1 ∧ L.getD j 0 = (y : Int)) best r' from (unhide HL).step hvR (by rw [unhide HUS]; exact (unhide HYP).2.1) (by rw [unhide HCS]; exact (unhide HYP).2.2) hP6 (fun z ⟨j, hj, hz⟩ => by
          by_cases e : j = i
          · subst e; rw [(unhide HYP).1] at hz; exact .inr (by omega)
          · exact .inl ⟨j, by omega, hz⟩))
        have HC6 := hide ((unhide HC).trans ((unhide HCW).trans hS6.chg))
        have HS6 := hide (unhide HST w6 hS6)
        have hr' : r' ≤ best := Nat.le_trans hP6.le hr
        clear hP6 hS6 KI k13 c0 c1 sk
        go_wp2_with fail
        exact ⟨⟨i + 1, r', (unhide HI9).1, hr', by (first | rfl | go_num), rfl, HL6, HC6, hide ⟨(y : Int), unhide HS6⟩⟩, by have := (unhide HI9).2; simp only [intOf]; omega⟩
      · obtain rfl : i = n := by omega
        have hlt' : ¬ (i : Int) < (i : Int) := by omega
        have hCg : Chg (fun j => j = g) wr (wr.setCell ⟨g, v, none⟩ (.int .i64 (-1))) := Chg.of_set _ _ _ _ rfl
        have HEND := hide (show FwS Arr w (wr.setCell ⟨g, v, none⟩ (.int .i64 (-1))) X R vs b1 m1 d1 b2 m2 d2 g h cnt (1 + (v + 1) * tq) cs st cols from ⟨⟨vs1, cnt1, ls1, hB1.wipe v (-1) hvR cs (fun q _ => by
          unfold atC
          by_cases e : q = v
          · rw [if_pos e, e, unhide HCV]
          · rw [if_neg e, if_neg e]), hle1, hf1, hl1, by
            have hmul : i * tq ≤ (v + 1) * tq := Nat.mul_le_mul_right _ (by omega)
            omega⟩, unhide HAG _ _ hS.arr hCg, hS.chg.trans (hCg.mono (fun j _ e => .inl e))⟩)
        have HFP := hide (show FwP bar R e0 v best r from (unhide HL).all_ hvR (fun y h1 h2 => unhide HLA y (by rw [← unhide HUS]; exact h1) (by rw [← unhide HCS]; exact h2)))
        clear hB1 hle1 hf1 hl1 hc1' hS hCg
        go_wp2_with fail
        go_ret
        exact ⟨r, rfl, unhide HFP, unhide HEND⟩
end Go.Proofs.YtgjokididdffhaaGreat
