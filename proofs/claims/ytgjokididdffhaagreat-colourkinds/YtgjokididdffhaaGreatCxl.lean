/- Cz1 -/
import Derived.Test.YtgjokididdffhaaGreatCy1
import Derived.Test.YtgjokididdffhaaGreatCi1
import Derived.Test.YtgjokididdffhaaGreatCw5
import Derived.Test.YtgjokididdffhaaGreatDa3
import Derived.Test.YtgjokididdffhaaGreatCu9
import Derived.Lib.MinMax
import Derived.Test.YtgjokididdffhaaGreatChd
import Derived.Test.YtgjokididdffhaaGreatCv1
namespace Go.Proofs.YtgjokididdffhaaGreat
open Go.RowKit Go.Deep
set_option linter.unusedVariables false
noncomputable def atK (xs : List Int) (cs : Nat → Int) (k : Nat) : Nat → Int := fun i => if tb (∃ j, j < k ∧ (xs.getD j 0).toNat = i) = true then cs i else -1
theorem atK_in {xs : List Int} {cs : Nat → Int} {k i : Nat} (h : ∃ j, j < k ∧ (xs.getD j 0).toNat = i) : atK xs cs k i = cs i := by unfold atK; rw [if_pos (tb_iff.2 h)]
theorem atK_out {xs : List Int} {cs : Nat → Int} {k i : Nat} (h : ¬ ∃ j, j < k ∧ (xs.getD j 0).toNat = i) : atK xs cs k i = -1 := by unfold atK; rw [if_neg (fun e => h (tb_iff.1 e))]
theorem PntG.steps {L : (Nat → Int) → Nat → Nat → Prop} {xs : List Int} : ∀ {k : Nat} {cs : Nat → Int}, (∀ i j, i < k → j < k → (xs.getD i 0).toNat = (xs.getD j 0).toNat → i = j) → PntG L xs k cs → atK xs cs k = cs ∧ ∀ j, j < k → 0 ≤ cs (xs.getD j 0).toNat ∧ L (atK xs cs j) (xs.getD j 0).toNat (cs (xs.getD j 0).toNat).toNat
  | 0, cs, hd, h => by
    unfold PntG at h
    subst h
    refine ⟨?_, fun j hj => by omega⟩
    funext i
    exact atK_out (fun ⟨j, hj, _⟩ => by omega)
  | k + 1, cs, hd, ⟨c0, y, h1, h2, h3⟩ => by
    obtain ⟨i1, i2⟩ := PntG.steps (fun i j hi hj e => hd i j (by omega) (by omega) e) h1
    have hfr : c0 (xs.getD k 0).toNat = -1 := by
      rw [← i1]
      exact atK_out (fun ⟨j, hj, e⟩ => by have := hd j k (by omega) (by omega) e; omega)
    have hold : ∀ i, i ≠ (xs.getD k 0).toNat → cs i = c0 i := fun i hi => by rw [h3, updC_other _ _ hi]
    have hnew : cs (xs.getD k 0).toNat = (y : Int) := by rw [h3, updC_same]
    have hpre : ∀ j, j ≤ k → atK xs cs j = atK xs c0 j := fun j hj => by
      funext i
      by_cases hi : ∃ j', j' < j ∧ (xs.getD j' 0).toNat = i
      · rw [atK_in hi, atK_in hi]
        obtain ⟨j', h5, h6⟩ := hi
        exact hold i (fun e => by have := hd j' k (by omega) (by omega) (by rw [h6, e]); omega)
      · rw [atK_out hi, atK_out hi]
    refine ⟨?_, fun j hj => ?_⟩
    · funext i
      by_cases hi : ∃ j, j < k + 1 ∧ (xs.getD j 0).toNat = i
      · exact atK_in hi
      · rw [atK_out hi, hold i (fun e => hi ⟨k, by omega, e.symm⟩), ← i1]
        exact (atK_out (fun ⟨j, hj, e⟩ => hi ⟨j, by omega, e⟩)).symm
    · by_cases e : j = k
      · subst e
        rw [hnew, hpre j (Nat.le_refl _), i1]
        exact ⟨by omega, by rw [Int.toNat_natCast]; exact h2⟩
      · have hne : (xs.getD j 0).toNat ≠ (xs.getD k 0).toNat := fun e2 => e (hd j k hj (by omega) e2)
        rw [hold _ hne, hpre j (by omega)]
        exact i2 j (by omega)
theorem ord_dist {xs : List Int} {m : Nat} (ho : OrdTo xs m m) : ∀ i j, i < m → j < m → (xs.getD i 0).toNat = (xs.getD j 0).toNat → i = j := fun i j hi hj e => by
  have h1 := ho.rng i hi
  have h2 := ho.rng j hj
  rcases Nat.lt_trichotomy i j with c | c | c
  · exact absurd (show xs.getD i 0 = xs.getD j 0 by omega) (ho.one i j c hj)
  · exact c
  · exact absurd (show xs.getD j 0 = xs.getD i 0 by omega) (ho.one j i c hi)
theorem ord_at {xs : List Int} {m : Nat} (ho : OrdTo xs m m) {v : Nat} (hv : v < m) : ∃ j, j < m ∧ (xs.getD j 0).toNat = v := by
  obtain ⟨j, h1, h2, _⟩ := ho.place hv
  exact ⟨j, h1, by rw [h2, Int.toNat_natCast]⟩
section
variable {S C xs : List Int} {m : Nat} {cs : Nat → Int}
theorem pnt_nb (hm : MayP (m : Int) (m : Int) S C) (hg : GraP S C m m) (ho : OrdTo xs m m) (h : ∀ j, j < m → 0 ≤ cs (xs.getD j 0).toNat ∧ ¬ BarN S C (atK xs cs j) (xs.getD j 0).toNat (cs (xs.getD j 0).toNat).toNat) : ∀ u v, adG S C m u v → cs u ≠ cs v := fun u v ha e => by
  have key : ∀ a b ja jb, adG S C m b a → cs a = cs b → ja < m → jb < m → (xs.getD ja 0).toNat = a → (xs.getD jb 0).toNat = b → ja < jb → False := fun a b ja jb ha e h1 h2 h3 h4 hl => by
    have hs := h jb h2
    rw [h4] at hs
    refine hs.2 ((barN_ad hm ha.1).2 ⟨a, ha, ?_⟩)
    rw [atK_in ⟨ja, hl, h3⟩]
    omega
  obtain ⟨ju, h1, h2⟩ := ord_at ho ha.1
  obtain ⟨jv, h3, h4⟩ := ord_at ho ha.2.1
  rcases Nat.lt_trichotomy ju jv with l | l | l
  · exact key u v ju jv (adG.sy hg _ _ ha) e h1 h3 h2 h4 l
  · subst l
    rw [h2] at h4
    subst h4
    exact adG.ir hg _ ha
  · exact key v u jv ju ha e.symm h3 h1 h4 h2 l
end
section
variable {S C : List Int} {m : Nat}
end
structure OpE (V : (Nat → Nat) → Nat → Prop) (e : Nat → Nat) (v : Nat) (A : Nat → Prop) (best r : Nat) : Prop where
  le : r ≤ best
  at_ : r = best ∨ ∃ f, AgE f e v ∧ V f r
  all : ∀ f z, AgE f e v → V f z → A (f v) → r ≤ z
section
variable {V : (Nat → Nat) → Nat → Prop} {e : Nat → Nat} {v best r : Nat}
theorem OpE.start (e : Nat → Nat) (v best : Nat) : OpE V e v (fun y => y < 0) best best := ⟨Nat.le_refl _, .inl rfl, fun f z _ _ h => by omega⟩
theorem OpE.skip {y : Nat} (h : OpE V e v (fun x => x < y) best r) (k : ∀ f z, AgE f e v → V f z → f v ≠ y) : OpE V e v (fun x => x < y + 1) best r := ⟨h.le, h.at_, fun f z h1 h2 h3 => h.all f z h1 h2 (by have := k f z h1 h2; omega)⟩
theorem OpE.step {y r' : Nat} (h : OpE V e v (fun x => x < y) best r) (g : OpE V (upE e v y) (v + 1) (fun _ => True) r r') : OpE V e v (fun x => x < y + 1) best r' := by
  have up : ∀ f, AgE f (upE e v y) (v + 1) → AgE f e v ∧ f v = y := fun f hf => ⟨fun i hi => by rw [hf i (by omega), upE_other _ _ (by omega)], by rw [hf v (by omega), upE_same]⟩
  refine ⟨Nat.le_trans g.le h.le, ?_, fun f z h1 h2 h3 => ?_⟩
  · rcases g.at_ with e1 | ⟨f, h1, h2⟩
    · rw [e1]; exact h.at_
    · exact .inr ⟨f, (up f h1).1, h2⟩
  · by_cases e2 : f v = y
    · refine g.all f z (fun i hi => ?_) h2 trivial
      by_cases e3 : i = v
      · subst e3; rw [upE_same, e2]
      · rw [upE_other _ _ e3]; exact h1 i (by omega)
    · exact Nat.le_trans g.le (h.all f z h1 h2 (by omega))
theorem OpE.all_ {m : Nat} (h : OpE V e v (fun x => x < m) best r) (k : ∀ f z, V f z → f v < m) : OpE V e v (fun _ => True) best r := ⟨h.le, h.at_, fun f z h1 h2 _ => h.all f z h1 h2 (k f z h2)⟩
theorem OpE.done {m z : Nat} (hc : ∀ f z', AgE f e m → V f z' → z' = z) (hz : V e z) : OpE V e m (fun _ => True) best (min z best) := by
  by_cases hb : best ≤ z
  · rw [Nat.min_eq_right hb]
    exact ⟨Nat.le_refl _, .inl rfl, fun f z' h1 h2 _ => by rw [hc f z' h1 h2]; exact hb⟩
  · rw [Nat.min_eq_left (by omega)]
    exact ⟨by omega, .inr ⟨e, AgE.refl _ _, hz⟩, fun f z' h1 h2 _ => by rw [hc f z' h1 h2]; exact Nat.le_refl _⟩
end

theorem BrI.wipe {W : World} {X R : Nat} {vs : List Value} {b1 : Option Addr} {m1 d1 : Nat} {b2 : Option Addr} {m2 d2 : Nat} {g h cnt : Nat} {cs ls : Nat → Int} {st cols : List Int} (k : BrI W X R vs b1 m1 d1 b2 m2 d2 g h cnt cs ls st cols) (v : Nat) (y : Int) (hv : v < R) (ds : Nat → Int) (hd : ∀ i, i < R → ds i = if i = v then y else cs i) : BrI (W.setCell ⟨g, v, none⟩ (.int .i64 y)) X R vs b1 m1 d1 b2 m2 d2 g h cnt ds ls st cols := by
  have c : Chg (fun j => j = g) W (W.setCell ⟨g, v, none⟩ (.int .i64 y)) := Chg.of_set _ _ _ _ rfl
  exact ⟨k.box.chg c (fun e => k.ne.2.1 e.symm), k.v9, k.v10, k.v11, k.v12, k.v13, k.v14, k.v15, (k.col.put v _ hv).congr (fun i hi => by rw [hd i hi]; split <;> rfl), k.last.chg c (fun e => k.ne.1 e.symm), k.s1.chg c (fun z hz hne => (k.o1 z hz hne).2.1), k.s2.chg c (fun z hz hne => (k.o2 z hz hne).2.1), k.o1, k.o2, k.ne⟩
def tqN : Nat → Nat → Nat
  | 0, _ => 0
  | d + 1, v => 1 + (v + 1) * tqN d (v + 1)
structure FrG (bar : (Nat → Int) → Nat → Nat → Prop) (Arr : World → Prop) (w w' : World) (e : Ending) (X R : Nat) (vs : List Value) (b1 : Option Addr) (m1 d1 : Nat) (b2 : Option Addr) (m2 d2 : Nat) (g h cnt : Nat) (cs : Nat → Int) (st cols : List Int) (v : Nat) (z : Nat) (a : Option Addr) (c : Nat) (ls' : Nat → Int) : Prop where
  ret : e = .returned (.slice a (grR (fun _ j => ¬ bar cs v j) 0 (z + 1)).length c)
  sl : SlI w' a (grR (fun _ j => ¬ bar cs v j) 0 (z + 1)).length c (grR (fun _ j => ¬ bar cs v j) 0 (z + 1))
  new : ∀ x, a = some x → w.heap.size ≤ x.block
  bru : BrI w' X R (vs.set 14 (.int .i64 ((cnt + 1 : Nat) : Int))) b1 m1 d1 b2 m2 d2 g h (cnt + 1) cs ls' st cols
  le : ∀ j, j < R → ls' j ≤ ((cnt + 1 : Nat) : Int)
  chg : Chg (fun j => j = h ∨ j = X) w w'
  arr : Arr w'
def PvE (bar : (Nat → Int) → Nat → Nat → Prop) (e : Nat → Nat) (v : Nat) : Prop := ∀ j, j < v → e j ≤ usE e j ∧ ¬ bar (cuE e j) j (e j)
theorem PvE.up {bar : (Nat → Int) → Nat → Nat → Prop} {e : Nat → Nat} {v y : Nat} (h : PvE bar e v) (hy : y ≤ usE e v) (hb : ¬ bar (cuE e v) v y) : PvE bar (upE e v y) (v + 1) := fun j hj => by
  have ag := upE_ag e v y
  by_cases k : j = v
  · subst k
    rw [ag.us, ag.cu, upE_same]
    exact ⟨hy, hb⟩
  · rw [(ag.mono (show j ≤ v by omega)).us, (ag.mono (show j ≤ v by omega)).cu, upE_other _ _ k]
    exact h j (by omega)
structure FwS (Arr : World → Prop) (w w' : World) (X R : Nat) (vs : List Value) (b1 : Option Addr) (m1 d1 : Nat) (b2 : Option Addr) (m2 d2 : Nat) (g h cnt t : Nat) (cs : Nat → Int) (st cols : List Int) : Prop where
  bru : ∃ vs' cnt' ls', BrI w' X R vs' b1 m1 d1 b2 m2 d2 g h cnt' cs ls' st cols ∧ (∀ j, j < R → ls' j ≤ (cnt' : Int)) ∧ vs'[2]? = vs[2]? ∧ vs'.length = vs.length ∧ cnt' ≤ cnt + t
  arr : Arr w'
  chg : Chg (fun j => j = g ∨ j = h ∨ j = X) w w'
def FwG (bar : (Nat → Int) → Nat → Nat → Prop) (Arr : World → Prop) (w w' : World) (e : Ending) (X R : Nat) (vs : List Value) (b1 : Option Addr) (m1 d1 : Nat) (b2 : Option Addr) (m2 d2 : Nat) (g h cnt t : Nat) (e0 : Nat → Nat) (v best : Nat) (st cols : List Int) : Prop :=
  ∃ r : Nat, e = .returned (.int .i64 (r : Int)) ∧ FwP bar R e0 v best r ∧ FwS Arr w w' X R vs b1 m1 d1 b2 m2 d2 g h cnt t (cuE e0 v) st cols
def FrAll (bar : (Nat → Int) → Nat → Nat → Prop) (Arr : World → Prop) (X R : Nat) (b1 : Option Addr) (m1 d1 : Nat) (b2 : Option Addr) (m2 d2 : Nat) (g h : Nat) (f2 : Option Value) (st cols : List Int) : Prop :=
  ∀ (e0 : Nat → Nat) (v cnt : Nat) (ls : Nat → Int) (vs : List Value) (W : World), v < R → PvE bar e0 v → BrI W X R vs b1 m1 d1 b2 m2 d2 g h cnt (cuE e0 v) ls st cols → vs[2]? = f2 → vs.length ≤ 16 → (∀ j, j < R → ls j ≤ (cnt : Int)) → cnt ≤ 1000000 → Arr W → Calls Tryz.prog 66 #[.pointer (some ⟨X, 0, none⟩), .int .i64 (v : Int)] W fun e w' => ∃ a c ls', FrG bar Arr W w' e X R vs b1 m1 d1 b2 m2 d2 g h cnt (cuE e0 v) st cols v (usE e0 v) a c ls'
set_option maxRecDepth 100000 in
set_option maxHeartbeats 16000000 in
theorem cfewest_end (bar : (Nat → Int) → Nat → Nat → Prop) (Arr : World → Prop) (hAB : ∀ W W', Arr W → Below W.heap.size W W' → Arr W') (X R : Nat) (vs : List Value) (b1 : Option Addr) (m1 d1 : Nat) (b2 : Option Addr) (m2 d2 : Nat) (g h cnt t : Nat) (ls : Nat → Int) (st cols : List Int) (e0 : Nat → Nat) (v best : Nat) (w : World) (hR : R ≤ 128) (hv : v ≤ R) (hb : best ≤ R) (hend : best ≤ usE e0 v ∨ v = R) (hP : PvE bar e0 v) (hB : BrI w X R vs b1 m1 d1 b2 m2 d2 g h cnt (cuE e0 v) ls st cols) (hls : ∀ j, j < R → ls j ≤ (cnt : Int)) (hA : Arr w) :
    Calls Tryz.prog 36 #[.pointer (some ⟨X, 0, none⟩), .int .i64 (v : Int), .int .i64 (best : Int)] w fun e w' => FwG bar Arr w w' e X R vs b1 m1 d1 b2 m2 d2 g h cnt t e0 v best st cols := by
  have husm := usE_small e0 (v := v) (fun j hj => (hP j hj).1)
  have q13 := (hB.box.all 13 _ hB.v13).1
  have KN := hide (cnumber_any (some ⟨g, 0, none⟩) R R (csL (cuE e0 v) R) w (hB.col.sli hR) hR (fun i hi => by rw [csL_get hi]; have := cuE_rng (show usE e0 v ≤ R by omega) i; omega) (fun e => by cases e))
  have HNM := hide (cuE_nm e0 hv).num
  obtain ⟨us, hus⟩ : ∃ us, usE e0 v = us := ⟨_, rfl⟩
  have HUS := hide hus
  rw [hus] at HNM husm
  have HF := hide (show ∀ W, Below w.heap.size w W → FwS Arr w W X R vs b1 m1 d1 b2 m2 d2 g h cnt t (cuE e0 v) st cols from fun W b => ⟨⟨vs, cnt, ls, hB.below b, hls, rfl, rfl, by omega⟩, hAB w W hA b, Chg.of_below b⟩)
  have HV13 := hide (show ∀ W, Below w.heap.size w W → W.cell? ⟨X, 13, none⟩ = some (.slice (some ⟨g, 0, none⟩) R R) from fun W b => ((hB.below b).box.all 13 _ hB.v13).1)
  have HD := hide (FwP.done (bar := bar) hv hend)
  rw [hus] at HD hend
  clear hB hP hls hA hus hAB
  go_enter Tryz.func36, Tryz.ntmps36
  go_wp2_with fail
  refine (unhide KN).mono ?_
  rintro _ w2 ⟨z, rfl, hz, b2⟩
  obtain rfl : z = (us : Int) := NumC.one hz (unhide HNM)
  have HW := hide (unhide HF w2 b2)
  have k13 := unhide HV13 w2 b2
  clear hz b2 KN q13
  by_cases hbe : best ≤ us
  · have hbe' : (us : Int) ≥ (best : Int) := by omega
    have HD := hide (show FwP bar R e0 v best best from by have := unhide HD; rwa [Nat.min_eq_right hbe] at this)
    have hmin : min (us : Int) (best : Int) = (best : Int) := by omega
    clear hend
    go_wp2_with fail
    go_ret
    exact ⟨best, rfl, unhide HD, unhide HW⟩
  · obtain rfl : v = R := hend.resolve_left hbe
    have hbe' : ¬ (us : Int) ≥ (best : Int) := by omega
    have HD := hide (show FwP bar v e0 v best us from by have := unhide HD; rwa [Nat.min_eq_left (by omega)] at this)
    have hmin : min (us : Int) (best : Int) = (us : Int) := by omega
    clear hend
    go_wp2_with fail
    go_ret
    exact ⟨us, rfl, unhide HD, unhide HW⟩
theorem FwS.trans {Arr : World → Prop} {w w2 w3 : World} {X R : Nat} {vs vs1 : List Value} {b1 : Option Addr} {m1 d1 : Nat} {b2 : Option Addr} {m2 d2 : Nat} {g h cnt cnt1 t t1 : Nat} {cs : Nat → Int} {st cols : List Int} (k1 : Chg (fun j => j = g ∨ j = h ∨ j = X) w w2) (e1 : vs1[2]? = vs[2]?) (e2 : vs1.length = vs.length) (e3 : cnt1 ≤ cnt + t) (k : FwS Arr w2 w3 X R vs1 b1 m1 d1 b2 m2 d2 g h cnt1 t1 cs st cols) {t2 : Nat} (ht : t + t1 ≤ t2) : FwS Arr w w3 X R vs b1 m1 d1 b2 m2 d2 g h cnt t2 cs st cols := by
  obtain ⟨vs', cnt', ls', h1, h2, h3, h4, h5⟩ := k.bru
  exact ⟨⟨vs', cnt', ls', h1, h2, h3.trans e1, h4.trans e2, by omega⟩, k.arr, k1.trans k.chg⟩
def atC (cs : Nat → Int) (v : Nat) (x : Int) : Nat → Int := fun q => if q = v then x else cs q
theorem atC_up (e : Nat → Nat) (v y : Nat) : cuE (upE e v y) (v + 1) = atC (cuE e v) v (y : Int) := by rw [cuE_up]; rfl
theorem atC_at (cs : Nat → Int) (v : Nat) (x y : Int) (q : Nat) : atC cs v y q = if q = v then y else atC cs v x q := by
  unfold atC
  split <;> rfl
set_option maxRecDepth 100000 in
set_option maxHeartbeats 32000000 in
theorem cfewest_any (bar : (Nat → Int) → Nat → Nat → Prop) (Arr : World → Prop) (hAB : ∀ W W', Arr W → Below W.heap.size W W' → Arr W') (X R : Nat) (b1 : Option Addr) (m1 d1 : Nat) (b2 : Option Addr) (m2 d2 : Nat) (g h : Nat) (f2 : Option Value) (st cols : List Int) (hAG : ∀ W W', Arr W → Chg (fun j => j = g) W W' → Arr W') (hFr : FrAll bar Arr X R b1 m1 d1 b2 m2 d2 g h f2 st cols) (hR : R ≤ 128) : ∀ (d : Nat) (e0 : Nat → Nat) (v cnt best : Nat) (ls : Nat → Int) (vs : List Value) (w : World), v + d = R → best ≤ R → PvE bar e0 v → BrI w X R vs b1 m1 d1 b2 m2 d2 g h cnt (cuE e0 v) ls st cols → vs[2]? = f2 → vs.length ≤ 16 → (∀ j, j < R → ls j ≤ (cnt : Int)) → cnt + tqN d v ≤ 1000000 → Arr w →
    Calls Tryz.prog 36 #[.pointer (some ⟨X, 0, none⟩), .int .i64 (v : Int), .int .i64 (best : Int)] w fun e w' => FwG bar Arr w w' e X R vs b1 m1 d1 b2 m2 d2 g h cnt (tqN d v) e0 v best st cols := by
  intro d
  induction d with
  | zero =>
    intro e0 v cnt best ls vs w hvd hb hP hB hf hl hls hc hA
    exact cfewest_end bar Arr hAB X R vs b1 m1 d1 b2 m2 d2 g h cnt _ ls st cols e0 v best w hR (by omega) hb (.inr (by omega)) hP hB hls hA
  | succ d ih =>
    intro e0 v cnt best ls vs w hvd hb hP hB hf hl hls hc hA
    by_cases hbe : best ≤ usE e0 v
    · exact cfewest_end bar Arr hAB X R vs b1 m1 d1 b2 m2 d2 g h cnt _ ls st cols e0 v best w hR (by omega) hb (.inl hbe) hP hB hls hA
    have husm := usE_small e0 (v := v) (fun j hj => (hP j hj).1)
    have hvR : v < R := by omega
    have q13 := (hB.box.all 13 _ hB.v13).1
    have KN := hide (cnumber_any (some ⟨g, 0, none⟩) R R (csL (cuE e0 v) R) w (hB.col.sli hR) hR (fun i hi => by rw [csL_get hi]; have := cuE_rng (show usE e0 v ≤ R by omega) i; omega) (fun e => by cases e))
    have HNM := hide (cuE_nm e0 (show v ≤ R by omega)).num
    have hc1 : cnt ≤ 1000000 := by unfold tqN at hc; omega
    have HFR := hide (show ∀ W, Below w.heap.size w W → _ from fun W b => hFr e0 v cnt ls vs W hvR hP (hB.below b) hf hl hls hc1 (hAB w W hA b))
    obtain ⟨tq, htq⟩ : ∃ tq, tqN d (v + 1) = tq := ⟨_, rfl⟩
    have hT : tqN (d + 1) v = 1 + (v + 1) * tq := by rw [← htq]; rfl
    have HIH := hide (show ∀ (y cnt' r : Nat) (ls' : Nat → Int) (vs' : List Value) (W : World), r ≤ R → y ≤ usE e0 v → ¬ bar (cuE e0 v) v y → BrI W X R vs' b1 m1 d1 b2 m2 d2 g h cnt' (atC (cuE e0 v) v (y : Int)) ls' st cols → vs'[2]? = f2 → vs'.length ≤ 16 → (∀ j, j < R → ls' j ≤ (cnt' : Int)) → cnt' + tq ≤ 1000000 → Arr W → Calls Tryz.prog 36 #[.pointer (some ⟨X, 0, none⟩), .int .i64 ((v : Int) + 1), .int .i64 (r : Int)] W fun e w' => ∃ r' : Nat, e = .returned (.int .i64 (r' : Int)) ∧ FwP bar R (upE e0 v y) (v + 1) r r' ∧ FwS Arr W w' X R vs' b1 m1 d1 b2 m2 d2 g h cnt' tq (atC (cuE e0 v) v (y : Int)) st cols from fun y cnt' r ls' vs' W hr hy hnb hB' hf' hl' hls' hc' hA' => by
      have k := ih (upE e0 v y) (v + 1) cnt' r ls' vs' W (by omega) hr (hP.up hy hnb) (by rw [atC_up]; exact hB') hf' hl' hls' (by rw [htq]; exact hc') hA'
      unfold FwG at k
      rw [atC_up, htq, show ((v + 1 : Nat) : Int) = (v : Int) + 1 by omega] at k
      exact k)
    rw [hT] at hc
    have hXg := hB.ne
    have HLT := hide (show g < w.heap.size ∧ h < w.heap.size ∧ X < w.heap.size from ⟨World.block_lt_of_cell? _ _ (hB.col v hvR).1, World.block_lt_of_cell? _ _ (hB.last v hvR).1, World.block_lt_of_cell? _ _ q13⟩)
    have HAG := hide hAG
    have HB13 := hide (show ∀ W, Below w.heap.size w W → W.cell? ⟨X, 13, none⟩ = some (.slice (some ⟨g, 0, none⟩) R R) from fun W b => ((hB.below b).box.all 13 _ hB.v13).1)
    have HF2 := hide (And.intro hf hl)
    obtain ⟨us, hus⟩ : ∃ us, usE e0 v = us := ⟨_, rfl⟩
    have HUS := hide hus
    rw [hus] at HNM husm HFR HIH hbe
    rw [hT]
    obtain ⟨cs, hcs⟩ : ∃ cs, cuE e0 v = cs := ⟨_, rfl⟩
    have HCS := hide hcs
    have hcv : cs v = -1 := by rw [← hcs]; exact cuE_fresh e0 v
    rw [hcs] at HNM HFR HIH KN
    have HCV := hide hcv
    clear hB hP hls hA hus hcs hcv hf hl hFr ih htq hT hAG hAB
    unfold FwG
    rw [unhide HCS]
    have hbe' : ¬ (us : Int) ≥ (best : Int) := by omega
    have hvne : ((v : Int) == (R : Int)) = false := by simp; omega
    have hvR' : (v : Int) < (R : Int) := by omega
    have hw1 : IntKind.i64.wrap ((v : Int) + 1) = (v : Int) + 1 := by rw [IntKind.wrap_i64]; omega
    go_enter Tryz.func36, Tryz.ntmps36
    go_wp2_with fail
    refine (unhide KN).mono ?_
    rintro _ w2 ⟨z, rfl, hz, b2⟩
    obtain rfl : z = (us : Int) := NumC.one hz (unhide HNM)
    have k13 := unhide HB13 w2 b2
    have KF := hide (unhide HFR w2 b2)
    have HB2 := hide b2
    clear hz b2 KN q13
    go_wp2_with fail
    refine (unhide KF).mono ?_
    rintro _ w4 ⟨a, c, ls4, hF⟩
    obtain ⟨L, hL⟩ : ∃ L, grR (fun _ j => ¬ bar cs v j) 0 (us + 1) = L := ⟨_, rfl⟩
    have hLm : ∀ j, j < L.length → ∃ y : Nat, L.getD j 0 = (y : Int) ∧ y ≤ us ∧ ¬ bar cs v y := fun j hj => by
      have hm : L.getD j 0 ∈ L := mem_getD.2 ⟨j, hj, rfl⟩
      rw [← hL] at hm
      obtain ⟨y, h1, h2, h3⟩ := (grR_mem _ _).1 hm
      rw [hL] at h2
      exact ⟨y, h2, by omega, h3⟩
    have hLa : ∀ y, y ≤ us → ¬ bar cs v y → ∃ j, j < L.length ∧ L.getD j 0 = (y : Int) := fun y h1 h2 => by
      have hm : (y : Int) ∈ L := by rw [← hL]; exact (grR_mem _ _).2 ⟨y, by omega, rfl, h2⟩
      exact mem_getD.1 hm
    have hLl : L.length ≤ us + 1 := by rw [← hL]; exact grR_len _ _ _
    have e4 := hF.ret
    rw [hL] at e4
    subst e4
    have hsl := hF.sl
    rw [hL] at hsl
    have HSL := hide (show ∀ W, Chg (fun j => j = g ∨ j = h ∨ j = X) w4 W → SlI W a L.length c L from fun W k => hsl.chg k (fun z hz hne e => by
      have h1 := hF.new z hz
      have h2 := unhide HLT
      have h3 := (unhide HB2).size
      have e : z.block = g ∨ z.block = h ∨ z.block = X := e
      omega))
    have HS4 := hide (show FwS Arr w w4 X R vs b1 m1 d1 b2 m2 d2 g h cnt 1 cs st cols from ⟨⟨_, _, _, hF.bru, hF.le, by rw [List.getElem?_set_ne (by omega)], by simp, by omega⟩, hF.arr, (Chg.of_below (unhide HB2)).trans (hF.chg.mono (fun j _ e => .inr e))⟩)
    obtain ⟨n, hn⟩ : ∃ n, L.length = n := ⟨_, rfl⟩
    rw [hn] at hLm hLa hLl HSL ⊢
    have HLM := hide hLm
    have HLA := hide hLa
    clear hF hsl hL hLm hLa hn k13 KF HFR
    go_wp2_with fail
    go_loopw [34, 2] (fun iv bv wr => ∃ (i r : Nat), i ≤ n ∧ r ≤ best ∧ iv = .int .i64 (i : Int) ∧ bv = .int .i64 (r : Int) ∧ Hid (LpE bar R e0 v (fun y => ∃ j, j < i ∧ L.getD j 0 = (y : Int)) best r) ∧ Hid (Chg (fun j => j = g ∨ j = h ∨ j = X) w4 wr) ∧ Hid (∃ x : Int, FwS Arr w wr X R vs b1 m1 d1 b2 m2 d2 g h cnt (1 + i * tq) (atC cs v x) st cols)) (fun iv _ _ => n - (intOf iv).toNat)
    case atStart =>
      refine ⟨0, best, Nat.zero_le _, Nat.le_refl _, rfl, rfl, hide ?_, hide (Chg.refl _ _), hide ⟨-1, ?_⟩⟩
      · have k := LpE.start (bar := bar) (m := R) e0 v best
        exact ⟨k.le, k.at_, fun f h1 h2 ⟨j, hj, _⟩ => by omega⟩
      · have e : atC cs v (-1) = cs := by
          funext q
          unfold atC
          by_cases e : q = v
          · rw [if_pos e, e, unhide HCV]
          · rw [if_neg e]
        rw [e, Nat.zero_mul]
        exact unhide HS4
    case round =>
      obtain ⟨i, r, hi, hr, rfl, rfl, HL, HC, HS⟩ := hrel
      obtain ⟨x, hS⟩ := unhide HS
      obtain ⟨vs1, cnt1, ls1, hB1, hle1, hf1, hl1, hc1'⟩ := hS.bru
      have k13 := (hB1.box.all 13 _ hB1.v13).1
      have c0 := (hB1.col v hvR).1
      have c1 := (hB1.col v hvR).2
      by_cases hlt : i < n
      · have hlt' : (i : Int) < (n : Int) := by omega
        obtain ⟨y, hy, hyu, hyb⟩ := unhide HLM i hlt
        obtain ⟨bb, off, e1, hcl⟩ := (unhide HSL wr (unhide HC)).at (by omega)
        subst e1
        have sk := hcl i hlt
        rw [hy] at sk
        have hmul : (i + 1) * tq ≤ (v + 1) * tq := Nat.mul_le_mul_right _ (by omega)
        rw [Nat.add_mul, Nat.one_mul] at hmul
        have hCg : Chg (fun j => j = g) wr (wr.setCell ⟨g, v, none⟩ (.int .i64 (y : Int))) := Chg.of_set _ _ _ _ rfl
        have KI := hide (unhide HIH y cnt1 r ls1 vs1 (wr.setCell ⟨g, v, none⟩ (.int .i64 (y : Int))) (by omega) hyu hyb (hB1.wipe v (y : Int) hvR _ (fun q _ => atC_at cs v x (y : Int) q)) (hf1.trans (unhide HF2).1) (by rw [hl1]; exact (unhide HF2).2) hle1 (by omega) (unhide HAG _ _ hS.arr hCg))
        have HCW := hide (show Chg (fun j => j = g ∨ j = h ∨ j = X) wr (wr.setCell ⟨g, v, none⟩ (.int .i64 (y : Int))) from hCg.mono (fun j _ e => .inl e))
        have HST := hide (show ∀ w6, FwS Arr (wr.setCell ⟨g, v, none⟩ (.int .i64 (y : Int))) w6 X R vs1 b1 m1 d1 b2 m2 d2 g h cnt1 tq (atC cs v (y : Int)) st cols → FwS Arr w w6 X R vs b1 m1 d1 b2 m2 d2 g h cnt (1 + (i + 1) * tq) (atC cs v (y : Int)) st cols from fun w6 k => FwS.trans (hS.chg.trans (hCg.mono (fun j _ e => .inl e))) hf1 hl1 hc1' k (by rw [Nat.add_mul, Nat.one_mul]; omega))
        have HYP := hide (And.intro hy (And.intro hyu hyb))
        have HI9 := hide (show i + 1 ≤ n ∧ n - (i + 1) < n - i from by omega)
        clear hy hyu hyb hcl hmul hCg hB1 hle1 hf1 hl1 hc1' hS
        go_wp2_with fail
        refine (unhide KI).mono ?_
        rintro _ w6 ⟨r', rfl, hP6, hS6⟩
        have HL6 := hide (show LpE bar R e0 v (fun y => ∃ j, j < i + 1 ∧ L.getD j 0 = (y : Int)) best r' from (unhide HL).step hvR (by rw [unhide HUS]; exact (unhide HYP).2.1) (by rw [unhide HCS]; exact (unhide HYP).2.2) hP6 (fun z ⟨j, hj, hz⟩ => by
          by_cases e : j = i
          · subst e; rw [(unhide HYP).1] at hz; exact .inr (by omega)
          · exact .inl ⟨j, by omega, hz⟩))
        have HC6 := hide ((unhide HC).trans ((unhide HCW).trans hS6.chg))
        have HS6 := hide (unhide HST w6 hS6)
        have hr' : r' ≤ best := Nat.le_trans hP6.le hr
        clear hP6 hS6 KI k13 c0 c1 sk
        go_wp2_with fail
        exact ⟨⟨i + 1, r', (unhide HI9).1, hr', by (first | rfl | go_num), rfl, HL6, HC6, hide ⟨(y : Int), unhide HS6⟩⟩, by have := (unhide HI9).2; simp only [intOf]; omega⟩
      · obtain rfl : i = n := by omega
        have hlt' : ¬ (i : Int) < (i : Int) := by omega
        have hCg : Chg (fun j => j = g) wr (wr.setCell ⟨g, v, none⟩ (.int .i64 (-1))) := Chg.of_set _ _ _ _ rfl
        have HEND := hide (show FwS Arr w (wr.setCell ⟨g, v, none⟩ (.int .i64 (-1))) X R vs b1 m1 d1 b2 m2 d2 g h cnt (1 + (v + 1) * tq) cs st cols from ⟨⟨vs1, cnt1, ls1, hB1.wipe v (-1) hvR cs (fun q _ => by
          unfold atC
          by_cases e : q = v
          · rw [if_pos e, e, unhide HCV]
          · rw [if_neg e, if_neg e]), hle1, hf1, hl1, by
            have hmul : i * tq ≤ (v + 1) * tq := Nat.mul_le_mul_right _ (by omega)
            omega⟩, unhide HAG _ _ hS.arr hCg, hS.chg.trans (hCg.mono (fun j _ e => .inl e))⟩)
        have HFP := hide (show FwP bar R e0 v best r from (unhide HL).all_ hvR (fun y h1 h2 => unhide HLA y (by rw [← unhide HUS]; exact h1) (by rw [← unhide HCS]; exact h2)))
        clear hB1 hle1 hf1 hl1 hc1' hS hCg
        go_wp2_with fail
        go_ret
        exact ⟨r, rfl, unhide HFP, unhide HEND⟩
theorem tq_small : ∀ d, d < 9 → tqN d 0 ≤ 9000 := by decide
theorem cuE_zero (e : Nat → Nat) : cuE e 0 = fun _ => -1 := by funext i; simp [cuE]
def LeA (bar : (Nat → Int) → Nat → Nat → Prop) (m : Nat) (w w' : World) (e : Ending) : Prop := Below w.heap.size w w' ∧ ((8 < m ∧ e = .returned (.tuple #[.int .i64 0, .int .i64 1])) ∨ (m ≤ 8 ∧ ∃ r : Nat, FwP bar m (fun _ => 0) 0 m r ∧ e = .returned (.tuple #[.int .i64 (r : Int), .int .i64 0])))
set_option maxRecDepth 100000 in
set_option maxHeartbeats 16000000 in
theorem cLeast_yes (bar : (Nat → Int) → Nat → Nat → Prop) (Arr : Nat → World → Prop) (hAB : ∀ X W W', Arr X W → Below W.heap.size W W' → Arr X W') (hAG : ∀ X g W W', g ≠ X → Arr X W → Chg (fun j => j = g) W W' → Arr X W') (hA0 : ∀ X W, RoF W X 16 (fun _ => 0) → Arr X W) (k : Int) (G G1 G2 G3 : Nat) (wd : Bool) (R width m : Nat) (S C : List Int) (a1 a2 : Option Addr) (n1 c1 n2 c2 : Nat) (st cols : List Int) (w : World) (h1 : SlI w a1 n1 c1 st) (h2 : SlI w a2 n2 c2 cols) (hm8 : m ≤ 128) (hFr : ∀ X x d y z g h, FrAll bar (Arr X) X m x S.length d y C.length z g h (some (.func (.func G2) #[] #[])) S C) (hT : ∀ W, SlI W a1 n1 c1 st → SlI W a2 n2 c2 cols → Calls Tryz.prog 34 #[.int .i64 k, patV (R : Int) (width : Int) a1 n1 c1 a2 n2 c2] W fun e w' => TkP W w' e G G1 G2 G3 wd R width a1 n1 c1 a2 n2 c2 m S C) :
    Calls Tryz.prog 10 #[.int .i64 k, patV (R : Int) (width : Int) a1 n1 c1 a2 n2 c2] w fun e w' => LeA bar m w w' e := by
  obtain ⟨wb, hwb⟩ : ∃ x, w.alloc (.cells #[.int .i64 (R : Int), .int .i64 (width : Int), .slice a1 n1 c1, .slice a2 n2 c2] 25) = x := ⟨_, rfl⟩
  have bb : Below w.heap.size w wb := by rw [← hwb]; exact (Below.refl _ _).alloc (Nat.le_refl _) _
  have hT0 := BoxP.made w #[.int .i64 (R : Int), .int .i64 (width : Int), .slice a1 n1 c1, .slice a2 n2 c2] 25
  rw [hwb] at hT0
  have p0 := (hT0.all 0 _ rfl).1
  have p1 := (hT0.all 1 _ rfl).1
  have p2 := (hT0.all 2 _ rfl).1
  have p3 := (hT0.all 3 _ rfl).1
  have KT := hide (hT wb (h1.below bb) (h2.below bb))
  unfold patV at KT
  have HB := hide bb
  have HT0 := hide hT0
  have HPR := hide (And.intro hAB (And.intro hAG (And.intro hA0 hFr)))
  clear hT0 bb h1 h2 hT hAB hAG hA0 hFr
  unfold patV
  go_enter Tryz.func10, Tryz.ntmps10
  go_wp2_with fail
  refine (unhide KT).mono ?_
  rintro _ w2 ⟨x, d, y, z, rfl, hS2, hC2, b2⟩
  unfold tkV
  clear p0 p1 p2 p3 KT
  try dsimp only
  repeat ((fail_if_success (with_reducible (show Code.wp _ _ _ _ (World.alloc w2 (Obj.cells #[_, _, _, _, _, _, _, _, _, _, _, _, .slice y C.length z] _))))); (first | go_values | go_skip | go_guarded | go_step | go_upon | go_back))
  have hR := BoxP.made w2 #[(.func (.func G) #[] #[]), (.func (.func G1) #[] #[]), (.func (.func G2) #[] #[]), (.func (.func G3) #[] #[]), (.bool wd), .int .i64 (R : Int), .int .i64 (width : Int), .slice a1 n1 c1, .slice a2 n2 c2, .int .i64 (m : Int), .int .i64 (m : Int), .slice x S.length d, .slice y C.length z] 80
  have br : Below w2.heap.size w2 (w2.alloc (.cells #[(.func (.func G) #[] #[]), (.func (.func G1) #[] #[]), (.func (.func G2) #[] #[]), (.func (.func G3) #[] #[]), (.bool wd), .int .i64 (R : Int), .int .i64 (width : Int), .slice a1 n1 c1, .slice a2 n2 c2, .int .i64 (m : Int), .int .i64 (m : Int), .slice x S.length d, .slice y C.length z] 80)) := (Below.refl _ _).alloc (Nat.le_refl _) _
  have hb3 := ((unhide HB).trans (b2.mono (unhide HB).size)).trans (br.mono (Nat.le_trans (unhide HB).size b2.size))
  have HSC := hide (And.intro (hS2.below br) (hC2.below br))
  have HT3 := hide (((unhide HT0).below b2).below br)
  clear b2 br hS2 hC2
  generalize w2.alloc (.cells #[(.func (.func G) #[] #[]), (.func (.func G1) #[] #[]), (.func (.func G2) #[] #[]), (.func (.func G3) #[] #[]), (.bool wd), .int .i64 (R : Int), .int .i64 (width : Int), .slice a1 n1 c1, .slice a2 n2 c2, .int .i64 (m : Int), .int .i64 (m : Int), .slice x S.length d, .slice y C.length z] 80) = w3 at *
  have s0 := (hR.all 0 _ rfl).1
  have s1 := (hR.all 1 _ rfl).1
  have s2 := (hR.all 2 _ rfl).1
  have s3 := (hR.all 3 _ rfl).1
  have s4 := (hR.all 4 _ rfl).1
  have s5 := (hR.all 5 _ rfl).1
  have s6 := (hR.all 6 _ rfl).1
  have s7 := (hR.all 7 _ rfl).1
  have s8 := (hR.all 8 _ rfl).1
  have s9 := (hR.all 9 _ rfl).1
  have s10 := (hR.all 10 _ rfl).1
  have s11 := (hR.all 11 _ rfl).1
  have s12 := (hR.all 12 _ rfl).1
  have HB3 := hide hb3
  have HR := hide hR
  have hs1 := (unhide HSC).1
  have hs2 := (unhide HSC).2
  have HSL := hide (And.intro hs1 hs2)
  clear hR hb3 hs1 hs2
  by_cases hb8 : m ≤ 8
  · have hb8' : ¬ (m : Int) > 8 := by omega
    have HIH := hide (show ∀ (X g h : Nat) (W5 : World), BoxP W5 X (bruM (.func (.func G) #[] #[]) (.func (.func G1) #[] #[]) (.func (.func G2) #[] #[]) (.func (.func G3) #[] #[]) wd R width m a1 n1 c1 a2 n2 c2 x S.length d y C.length z g h 1) → RoV W5 g m (fun _ => .int .i64 (-1)) → RoV W5 h m (fun _ => .int .i64 0) → (w3.heap.size ≤ g ∧ g < h ∧ h < X) → Below w3.heap.size w3 W5 → RoF W5 X 16 (fun _ => 0) → Calls Tryz.prog 36 #[.pointer (some ⟨X, 0, none⟩), .int .i64 0, .int .i64 (m : Int)] W5 fun e w' => ∃ r : Nat, e = .returned (.int .i64 (r : Int)) ∧ FwP bar m (fun _ => 0) 0 m r ∧ Chg (fun j => j = g ∨ j = h ∨ j = X) W5 w' from fun X g h W5 hX hg5 hh5 hlt5 b5 hA5 => by
      have hs1 := (unhide HSL).1
      have hs2 := (unhide HSL).2
      have hBr : BrI W5 X m _ x S.length d y C.length z g h 1 (fun _ => -1) (fun _ => 0) S C := ⟨hX, rfl, rfl, rfl, rfl, rfl, rfl, rfl, hg5, hh5, hs1.below b5, hs2.below b5, fun t ht hne => by have := hs1.block_lt hne t ht; omega, fun t ht hne => by have := hs2.block_lt hne t ht; omega, by omega⟩
      have KP := cfewest_any bar (Arr X) ((unhide HPR).1 X) X m x S.length d y C.length z g h (some (.func (.func G2) #[] #[])) S C (fun W W' => (unhide HPR).2.1 X g W W' (by omega)) ((unhide HPR).2.2.2 X x d y z g h) hm8 m (fun _ => 0) 0 1 m (fun _ => 0) _ W5 (by omega) (Nat.le_refl _) (fun j hj => by omega) (by rw [cuE_zero]; exact hBr) rfl (by simp [bruM]) (fun j _ => by omega) (by have := tq_small m (by omega); omega) ((unhide HPR).2.2.1 X W5 hA5)
      simp only [Int.natCast_zero] at KP
      exact KP.mono (fun e w' ⟨r, h1, h2, h3⟩ => ⟨r, h1, h2, h3.chg⟩))
    have HND := hide (show ∀ W, Below w3.heap.size w3 W → ∀ W', (Chg (fun j => w3.heap.size ≤ j) W W') → BoxP W' w2.heap.size [(.func (.func G) #[] #[]), (.func (.func G1) #[] #[]), (.func (.func G2) #[] #[]), (.func (.func G3) #[] #[]), (.bool wd), .int .i64 (R : Int), .int .i64 (width : Int), .slice a1 n1 c1, .slice a2 n2 c2, .int .i64 (m : Int), .int .i64 (m : Int), .slice x S.length d, .slice y C.length z] from fun W b W' k => ((unhide HR).below b).chg k (by have := (unhide HR).lt; omega))
    go_wp2_with fail
    go_region_held3 (fun w' => w'.cell? ⟨w2.heap.size, 0, none⟩ = some (.func (.func G) #[] #[]) ∧ w'.cell? ⟨w2.heap.size, 1, none⟩ = some (.func (.func G1) #[] #[]) ∧ w'.cell? ⟨w2.heap.size, 2, none⟩ = some (.func (.func G2) #[] #[]) ∧ w'.cell? ⟨w2.heap.size, 3, none⟩ = some (.func (.func G3) #[] #[]) ∧ w'.cell? ⟨w2.heap.size, 4, none⟩ = some (.bool wd) ∧ w'.cell? ⟨w2.heap.size, 5, none⟩ = some (.int .i64 (R : Int)) ∧ w'.cell? ⟨w2.heap.size, 6, none⟩ = some (.int .i64 (width : Int)) ∧ w'.cell? ⟨w2.heap.size, 7, none⟩ = some (.slice a1 n1 c1) ∧ w'.cell? ⟨w2.heap.size, 8, none⟩ = some (.slice a2 n2 c2) ∧ w'.cell? ⟨w2.heap.size, 9, none⟩ = some (.int .i64 (m : Int)) ∧ w'.cell? ⟨w2.heap.size, 10, none⟩ = some (.int .i64 (m : Int)) ∧ w'.cell? ⟨w2.heap.size, 11, none⟩ = some (.slice x S.length d) ∧ w'.cell? ⟨w2.heap.size, 12, none⟩ = some (.slice y C.length z)) (first | (exact ⟨s0, s1, s2, s3, s4, s5, s6, s7, s8, s9, s10, s11, s12⟩) | go_keep)
      (first
        | (go_at_call 35; refine (cnewBrush_arr _ _ _ _ wd R width m a1 a2 x y n1 c1 n2 c2 S.length d C.length z _ hm8).mono ?_; rintro _ w5 ⟨X, g, h, rfl, hX, hg5, hh5, hlt5, b5, hA5⟩; have hb35 : Below w3.heap.size w3 w5 := (by first | exact b5 | exact ((Below.refl _ _).drew).trans b5); have hlt5 : w3.heap.size ≤ g ∧ g < h ∧ h < X := (by first | exact hlt5 | (simpa using hlt5)); have hn5 := unhide HND w5 hb35 w5 (Chg.refl _ _); clear s0 s1 s2 s3 s4 s5 s6 s7 s8 s9 s10 s11 s12; have s0 := (hn5.all 0 _ rfl).1; have s1 := (hn5.all 1 _ rfl).1; have s2 := (hn5.all 2 _ rfl).1; have s3 := (hn5.all 3 _ rfl).1; have s4 := (hn5.all 4 _ rfl).1; have s5 := (hn5.all 5 _ rfl).1; have s6 := (hn5.all 6 _ rfl).1; have s7 := (hn5.all 7 _ rfl).1; have s8 := (hn5.all 8 _ rfl).1; have s9 := (hn5.all 9 _ rfl).1; have s10 := (hn5.all 10 _ rfl).1; have s11 := (hn5.all 11 _ rfl).1; have s12 := (hn5.all 12 _ rfl).1; have HG := hide (And.intro hX (And.intro hg5 (And.intro hh5 (And.intro hlt5 (And.intro hb35 hA5))))); clear hX hg5 hh5 hlt5 b5 hA5 hb35 hn5)
        | (go_at_call 36; refine (unhide HIH X g h w5 (unhide HG).1 (unhide HG).2.1 (unhide HG).2.2.1 (unhide HG).2.2.2.1 (unhide HG).2.2.2.2.1 (unhide HG).2.2.2.2.2).mono ?_; rintro _ w6 ⟨r, rfl, hP, hS⟩; have hn5 := unhide HND w5 (unhide HG).2.2.2.2.1 w6 (hS.mono (fun j _ e => by have := (unhide HG).2.2.2.1; have e : j = g ∨ j = h ∨ j = X := e; omega)); clear s0 s1 s2 s3 s4 s5 s6 s7 s8 s9 s10 s11 s12; have s0 := (hn5.all 0 _ rfl).1; have s1 := (hn5.all 1 _ rfl).1; have s2 := (hn5.all 2 _ rfl).1; have s3 := (hn5.all 3 _ rfl).1; have s4 := (hn5.all 4 _ rfl).1; have s5 := (hn5.all 5 _ rfl).1; have s6 := (hn5.all 6 _ rfl).1; have s7 := (hn5.all 7 _ rfl).1; have s8 := (hn5.all 8 _ rfl).1; have s9 := (hn5.all 9 _ rfl).1; have s10 := (hn5.all 10 _ rfl).1; have s11 := (hn5.all 11 _ rfl).1; have s12 := (hn5.all 12 _ rfl).1; have HGS := hide (And.intro hP hS); clear hP hS hn5))
    clear s0 s1 s2 s3 s4 s5 s6 s7 s8 s9 s10 s11 s12
    have hP := (unhide HGS).1
    have HBZ := hide (show Below w.heap.size w w6 from by
      have h1 := (unhide HG).2.2.2.1
      have h0 := (unhide HB3).size
      have hB5 := (unhide HB3).trans ((unhide HG).2.2.2.2.1.mono h0)
      exact hB5.trans ((unhide HGS).2.below hB5.size (fun j hj e => by have e : j = g ∨ j = h ∨ j = X := e; omega)))
    have HP := hide hP
    clear hP HIH HND HG HGS
    go_wp2_with fail
    refine bodyPost_ret (by simp [results, Tryz.results10, go_sem]; try rfl) rfl ?_
    exact ⟨unhide HBZ, .inr ⟨hb8, r, unhide HP, rfl⟩⟩
  · have hb8' : (m : Int) > 8 := by omega
    go_wp2_with fail
    refine bodyPost_ret (by simp [results, Tryz.results10, go_sem]; try rfl) rfl ?_
    exact ⟨unhide HB3, .inl ⟨by omega, rfl⟩⟩
section
variable {X R : Nat} {b1 : Option Addr} {m1 d1 : Nat} {b2 : Option Addr} {m2 d2 : Nat} {g h : Nat} {st cols : List Int}
theorem PvE.us {bar : (Nat → Int) → Nat → Nat → Prop} {e : Nat → Nat} {v : Nat} (h : PvE bar e v) : usE e v ≤ v := usE_small e (fun j hj => (h j hj).1)
theorem frAll_nb (hm : MayP (R : Int) (R : Int) st cols) (hb1 : m1 ≤ 17592186044000) (hb2 : m2 ≤ 17592186044000) : FrAll (BarN st cols) (fun _ => True) X R b1 m1 d1 b2 m2 d2 g h (some (.func (.func 93) #[] #[])) st cols :=
  fun e0 v cnt ls vs W hv hP hB hf hl hls hcn hA =>
    (cfree_nb X R vs b1 m1 d1 b2 m2 d2 g h cnt (cuE e0 v) ls st cols v v W hB hm hv hb1 hb2 (fun i _ => cuE_rng hP.us i) hv hls hcn hf).mono (fun e w' ⟨z, a, c, ls', k⟩ => by
      have hz := NumC.one k.num (cuE_nm e0 (show v ≤ R by omega)).num
      obtain rfl : z = usE e0 v := by omega
      exact ⟨a, c, ls', k.ret, k.sl, k.new, k.bru, k.le, k.chg, trivial⟩)
theorem frAll_st (hm : MayP (R : Int) (R : Int) st cols) (hb1 : m1 ≤ 17592186044000) (hb2 : m2 ≤ 17592186044000) : FrAll (BarP st cols) (fun _ => True) X R b1 m1 d1 b2 m2 d2 g h (some (.func (.func 102) #[] #[])) st cols :=
  fun e0 v cnt ls vs W hv hP hB hf hl hls hcn hA =>
    (cfree_star X R vs b1 m1 d1 b2 m2 d2 g h cnt (cuE e0 v) ls st cols v v W hB hm hv hb1 hb2 (fun i _ => cuE_rng hP.us i) hv hls hcn hf).mono (fun e w' ⟨z, a, c, ls', k⟩ => by
      have hz := NumC.one k.num (cuE_nm e0 (show v ≤ R by omega)).num
      obtain rfl : z = usE e0 v := by omega
      exact ⟨a, c, ls', k.ret, k.sl, k.new, k.bru, k.le, k.chg, trivial⟩)
theorem pve_prp (hm : MayP (R : Int) (R : Int) st cols) (hg : GraP st cols R R) {e : Nat → Nat} {v : Nat} (h : PvE (BarA st cols R) e v) : PrpC st cols R (cuE e v) := fun a b had h0 he => by
  have lt : ∀ i, 0 ≤ cuE e v i → i < v ∧ cuE e v i = (e i : Int) := fun i hi => by
    unfold cuE at hi ⊢
    by_cases k : i < v
    · rw [if_pos k]; exact ⟨k, rfl⟩
    · rw [if_neg k] at hi; omega
  obtain ⟨a1, a2⟩ := lt a h0
  obtain ⟨b1, b2⟩ := lt b (by omega)
  have key : ∀ x y, x < v → y < v → x < y → adG st cols R y x → e x = e y → False := fun x y hx hy hl ha hxy => (h y hy).2 (.inl ((barN_ad hm ha.1).2 ⟨x, ha, by unfold cuE; rw [if_pos hl, hxy]⟩))
  rcases Nat.lt_trichotomy a b with hl | hl | hl
  · exact key a b a1 b1 hl (adG.sy hg _ _ had) (by omega)
  · subst hl; exact adG.ir hg _ had
  · exact key b a b1 a1 hl had (by omega)
theorem frAll_ac (hm : MayP (R : Int) (R : Int) st cols) (hg : GraP st cols R R) (hb1 : m1 ≤ 17592186044000) (hb2 : m2 ≤ 17592186044000) : FrAll (BarA st cols R) (fun W => ∃ pf, RoF W X 16 pf) X R b1 m1 d1 b2 m2 d2 g h (some (.func (.func 104) #[] #[])) st cols :=
  fun e0 v cnt ls vs W hv hP hB hf hl hls hcn hA =>
    (cfree_ac X R vs b1 m1 d1 b2 m2 d2 g h cnt (cuE e0 v) ls st cols v v W hB hm hv hb1 hb2 (fun i _ => cuE_rng hP.us i) hv hls hcn hf hl hA hg (pve_prp hm hg hP)).mono (fun e w' ⟨z, a, c, ls', k⟩ => by
      have hz := NumC.one k.num (cuE_nm e0 (show v ≤ R by omega)).num
      obtain rfl : z = usE e0 v := by omega
      exact ⟨a, c, ls', k.ret, k.sl, k.new, k.bru, k.le, k.chg, k.arr⟩)
end
def cmpC (x y : Int) : Int := if x < y then -1 else if y < x then 1 else 0
set_option maxHeartbeats 400000 in
theorem nanC_int (x : Int) (w : World) : Calls Tryz.prog 137 #[.int .i64 x] w fun e w' => e = .returned (.bool false) ∧ w' = w := by
  have h : (x != x) = false := by simp
  go_enter Tryz.func137, Tryz.ntmps137
  go_wp2
  go_ret
  exact ⟨by simp, rfl⟩
set_option maxHeartbeats 1600000 in
theorem cmpC_int (x y : Int) (w : World) : Calls Tryz.prog 153 #[.int .i64 x, .int .i64 y] w fun e w' => e = .returned (.int .i64 (cmpC x y)) ∧ w' = w := by
  have key : ∀ z, cmpC x y = z → Calls Tryz.prog 153 #[.int .i64 x, .int .i64 y] w (fun e w' => e = .returned (.int .i64 z) ∧ w' = w) → Calls Tryz.prog 153 #[.int .i64 x, .int .i64 y] w (fun e w' => e = .returned (.int .i64 (cmpC x y)) ∧ w' = w) := fun z h k => by rw [h]; exact k
  by_cases h1 : x < y
  · refine key (-1) (by simp [cmpC, h1]) ?_
    clear key
    go_enter Tryz.func153, Tryz.ntmps153
    go_wp2_with fail
    refine (nanC_int x w).mono ?_
    rintro _ w1 ⟨rfl, rfl⟩
    go_wp2_with fail
    refine (nanC_int y w1).mono ?_
    rintro _ w2 ⟨rfl, rfl⟩
    go_wp2_with fail
    go_ret
    exact ⟨rfl, rfl⟩
  · by_cases h2 : y < x
    · refine key 1 (by simp [cmpC, h1, h2]) ?_
      clear key
      go_enter Tryz.func153, Tryz.ntmps153
      go_wp2_with fail
      refine (nanC_int x w).mono ?_
      rintro _ w1 ⟨rfl, rfl⟩
      go_wp2_with fail
      refine (nanC_int y w1).mono ?_
      rintro _ w2 ⟨rfl, rfl⟩
      go_wp2_with fail
      go_ret
      exact ⟨rfl, rfl⟩
    · refine key 0 (by simp [cmpC, h1, h2]) ?_
      clear key
      go_enter Tryz.func153, Tryz.ntmps153
      go_wp2_with fail
      refine (nanC_int x w).mono ?_
      rintro _ w1 ⟨rfl, rfl⟩
      go_wp2_with fail
      refine (nanC_int y w1).mono ?_
      rintro _ w2 ⟨rfl, rfl⟩
      go_wp2_with fail
      go_ret
      exact ⟨rfl, rfl⟩
set_option maxRecDepth 100000 in
set_option maxHeartbeats 4000000 in
theorem scmp_two (a1 a2 : Option Addr) (c1 c2 : Nat) (x1 y1 x2 y2 : Int) (w : World) (h1 : SlI w a1 2 c1 [x1, y1]) (h2 : SlI w a2 2 c2 [x2, y2]) :
    Calls Tryz.prog 133 #[.slice a1 2 c1, .slice a2 2 c2] w fun e w' => ∃ z, e = .returned (.int .i64 z) ∧ (z < 0 ↔ ltP x1 y1 x2 y2) ∧ w' = w := by
  obtain ⟨b1, o1, rfl, k1⟩ := h1.at (by omega)
  obtain ⟨b2, o2, rfl, k2⟩ := h2.at (by omega)
  have HK := hide (And.intro k1 k2)
  clear k1 k2 h1 h2
  go_enter Tryz.func133, Tryz.ntmps133
  go_wp2_with fail
  go_loopw [11, 5, 6, 7, 8] (fun iv _ _ _ _ wr => ∃ i : Nat, i ≤ 2 ∧ iv = .int .i64 (i : Int) ∧ (0 < i → x1 = x2) ∧ (1 < i → y1 = y2) ∧ wr = w) (fun iv _ _ _ _ _ => 2 - (intOf iv).toNat)
  case atStart => exact ⟨0, by omega, rfl, fun h => by omega, fun h => by omega, rfl⟩
  case round =>
    obtain ⟨i, hi, rfl, hE1, hE2, rfl⟩ := hrel
    by_cases hlt : i < 2
    · have hlt' : (i : Int) < 2 := by omega
      have hge' : ¬ (2 : Int) ≤ (i : Int) := by omega
      have sx := (unhide HK).1 i hlt
      have sy := (unhide HK).2 i hlt
      obtain ⟨x, hx⟩ : ∃ x, [x1, y1].getD i 0 = x := ⟨_, rfl⟩
      obtain ⟨y, hy⟩ : ∃ y, [x2, y2].getD i 0 = y := ⟨_, rfl⟩
      rw [hx] at sx
      rw [hy] at sy
      have HXY := hide (show (i = 0 ∧ x = x1 ∧ y = x2) ∨ (i = 1 ∧ x = y1 ∧ y = y2) from by
        have : i = 0 ∨ i = 1 := by omega
        rcases this with rfl | rfl
        · left; simpa using ⟨hx.symm, hy.symm⟩
        · right; simpa using ⟨hx.symm, hy.symm⟩)
      have HE := hide (And.intro hE1 hE2)
      have KC := hide (cmpC_int x y wr)
      clear hx hy hE1 hE2
      go_wp2_with fail
      refine (unhide KC).mono ?_
      rintro _ w2 ⟨rfl, hw⟩
      rw [hw]
      clear hw w2 KC
      by_cases hxy : x = y
      · have hz : cmpC x y = 0 := by unfold cmpC; split <;> (try split) <;> omega
        rw [hz]
        clear sx sy
        go_wp2_with fail
        refine ⟨⟨i + 1, by omega, by (first | rfl | go_num), fun _ => ?_, fun _ => ?_, (by first | rfl | trivial)⟩, by simp [intOf]; omega⟩
        · rcases unhide HXY with ⟨h1, h2, h3⟩ | ⟨h1, h2, h3⟩
          · omega
          · exact (unhide HE).1 (by omega)
        · rcases unhide HXY with ⟨h1, h2, h3⟩ | ⟨h1, h2, h3⟩ <;> omega
      · obtain ⟨z, hz⟩ : ∃ z, cmpC x y = z := ⟨_, rfl⟩
        have hz0 : z ≠ 0 := by rw [← hz]; unfold cmpC; split <;> (try split) <;> omega
        have HZ := hide (show z < 0 ↔ x < y by rw [← hz]; unfold cmpC; split <;> (try split) <;> omega)
        rw [hz]
        clear sx sy hz
        go_wp2_with fail
        go_ret
        refine ⟨z, rfl, (unhide HZ).trans ?_, rfl⟩
        unfold ltP
        rcases unhide HXY with ⟨h1, h2, h3⟩ | ⟨h1, h2, h3⟩
        · omega
        · have := (unhide HE).1 (by omega)
          omega
    · obtain rfl : i = 2 := by omega
      have e1 := hE1 (by omega)
      have e2 := hE2 (by omega)
      have hlt' : ¬ ((2 : Nat) : Int) < 2 := by omega
      have HE := hide (And.intro e1 e2)
      clear hE1 hE2 e1 e2
      go_wp2_with fail
      go_ret
      refine ⟨0, rfl, ?_, rfl⟩
      unfold ltP
      have := unhide HE
      omega
end Go.Proofs.YtgjokididdffhaaGreat
