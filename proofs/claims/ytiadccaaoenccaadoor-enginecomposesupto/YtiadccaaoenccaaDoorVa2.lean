/- Va1 -/
import Derived.Test.YtiadccaaoenccaaDoorTe0
import Derived.Test.YtiadccaaoenccaaDoorBase
import Derived.OrdersHeld
import Derived.Test.YtiadccaaoenccaaDoorWi4
namespace Go.Proofs.YtiadccaaoenccaaDoor
open Go.RowKit Go.Deep
set_option linter.unusedVariables false
def blQ : Nq := ⟨false, none, 0, 0, [], none, 0, 0, []⟩
def bhO (N : Nat) (ys : List Int) (o : On) : On :=
  if o.k = 1 then ⟨8, ys.getD o.a.toNat 0, 0, 1, blQ⟩ else if o.k = 2 then o else if 7 ≤ o.k then ⟨o.k, o.a + N, o.b, o.n, o.p⟩ else ⟨o.k, o.a + N, o.b + N, o.n, o.p⟩
theorem bhO_con {o q : On} (h : conO o = conO q) (N : Nat) (ys : List Int) : conO (bhO N ys o) = conO (bhO N ys q) := by
  have h0 := h
  unfold conO at h
  simp only [Prod.mk.injEq] at h
  obtain ⟨⟨h1, h2, h3, h4⟩, h5⟩ := h
  unfold bhO
  rw [h1, h2, h3, h4]
  split
  · rfl
  · split
    · exact h0
    · split <;> simp [conO, h5]
theorem bh_map {os qs : List On} (h : os.map conO = qs.map conO) (N : Nat) (ys : List Int) : (os.map (bhO N ys)).map conO = (qs.map (bhO N ys)).map conO := by
  have hl : os.length = qs.length := by simpa using congrArg List.length h
  apply List.ext_getElem (by simp [hl])
  intro i h1 h2
  have hi : i < os.length := by simpa using h1
  have hj : i < qs.length := by simpa using h2
  have := con_at h (List.getElem?_eq_getElem hi) (List.getElem?_eq_getElem hj)
  simpa using bhO_con this N ys
def cpO (osi oso : List On) (ysi : List Int) : List On := osi ++ oso.map (bhO osi.length ysi)
def cpY (N : Nat) (yso : List Int) : List Int := yso.map (fun y => (N : Int) + y)
theorem cpO_con {oso qso osi qsi : List On} (h1 : oso.map conO = qso.map conO) (h2 : osi.map conO = qsi.map conO) (ysi : List Int) : (cpO osi oso ysi).map conO = (cpO qsi qso ysi).map conO := by
  have l2 : osi.length = qsi.length := by simpa using congrArg List.length h2
  unfold cpO
  rw [List.map_append, List.map_append, h2, l2, bh_map h1]
theorem con_few {inp : Int} {os : List On} {ys : List Int} (hk : TpOk inp os ys) {o : On} (ho : o ∈ os) : o.p.x.length ≤ 2048 ∧ o.p.y.length ≤ 2048 := by
  obtain ⟨i, hi, rfl⟩ := List.getElem_of_mem ho
  have h := op_ok (hk.op i _ (List.getElem?_eq_getElem hi))
  by_cases k2 : os[i].k = 2
  · have := h.2.2.2.2.1 k2
    have hp : MayL os[i].p.x = true ∧ MayL os[i].p.y = true := by
      unfold MayR at this
      simp only [Bool.and_eq_true] at this
      exact ⟨this.1.1.1.1, this.1.1.1.2⟩
    unfold MayL at hp
    simp at hp
    omega
  · have hu := h.2.2.1
    unfold unuO blankQ at hu
    simp [k2] at hu
    have := hu.2
    simp [this.1.2, this.2]
section
variable {P : Program} {ops : Array Oper} {Q : Exit → Act → World → Prop} {md : Region.Mode} {S : World → Prop} {L : Nat}

def anyTill (P : Program) (md : Region.Mode) (ops : Array Oper) (Q : Exit → Act → World → Prop) (S : World → Prop) (L : Nat) : Nat → Array Bool → Act → World → Prop
  | 0, l, a, w => Region.ready md ops l = [] ∧ Q .normal a w
  | n + 1, l, a, w => (Region.ready md ops l = [] → Q .normal a w) ∧
      ∀ i ∈ Region.ready md ops l, wpOp P ops Q i (fun a' w' => (i ≠ L → S w') ∧ anyTill P md ops Q S L n (l.setIfInBounds i true) a' w') a w

theorem anyTill_any : ∀ (n : Nat) (l : Array Bool) (a : Act) (w : World), anyTill P md ops Q S L n l a w → wpAny P md ops Q n l a w
  | 0, _, _, _, h => h
  | n + 1, _, _, _, h => ⟨h.1, fun i hi => wpOp_mono (fun a' w' k => anyTill_any n _ a' w' k.2) (h.2 i hi)⟩

theorem anyTill_region (S : World → Prop) (L : Nat) {id : Nat} {a : Act} {w : World} (hm : P.follows .mixedOrders = true)
    (h : anyTill P .any ops Q S L ops.size (Array.replicate ops.size false) a w.drew) : (Code.region id ops true).wp P Q a w :=
  wp_region_any hm (anyTill_any _ _ _ _ h)

theorem anyTill_first {i : Nat} {oi oL : Oper} {v : Value} (hi : ops[i]? = some oi) (hn : Region.noSelect ops = true)
    (hL : ops[L]? = some oL) (hw : ∃ e ∈ oL.after, Region.binds md e = true ∧ e.on = i)
    (hQ : ∀ c a w, Q (.panic c) (a.put oi.dst v) w → Q (.panic c) a w) :
    ∀ (n : Nat) (l : Array Bool) (a : Act) (w : World),
      (∀ j oj, ops[j]? = some oj → j ≠ i → l.getD j true = false → (∀ e ∈ oj.after, Region.binds md e = true → e.on ≠ i) → oi.apart ops oj = true) →
      i ∈ Region.ready md ops l → YieldsIf P ops S oi v a → S w →
      anyTill P md ops Q S L n (l.setIfInBounds i true) (a.put oi.dst v) w → anyTill P md ops Q S L (n + 1) l a w := by
  intro n
  induction n with
  | zero =>
    intro l a w _ hr hy hS H
    refine ⟨fun h => absurd hr (by rw [h]; simp), fun j hj => ?_⟩
    by_cases hji : j = i
    · subst hji; exact hy.wpOp hi hS ⟨fun _ => hS, H⟩
    · exact absurd (ready_mono hj hji) (by rw [H.1]; simp)
  | succ n ih =>
    intro l a w hf hr hy hS H
    refine ⟨fun h => absurd hr (by rw [h]; simp), fun j hj => ?_⟩
    by_cases hji : j = i
    · subst hji; exact hy.wpOp hi hS ⟨fun _ => hS, H⟩
    · obtain ⟨hju, oj, hoj, hall⟩ := mem_ready.1 hj
      have hno : ∀ e ∈ oj.after, Region.binds md e = true → e.on ≠ i := fun e he hb heq => by
        have k1 := hall e he hb
        have k0 := (mem_ready.1 hr).1
        rw [heq] at k1
        rcases Nat.lt_or_ge i l.size with h' | h'
        · simp [h'] at k0 k1; rw [k0] at k1; cases k1
        · simp [Array.getElem?_eq_none h'] at k1
      have hjL : j ≠ L := fun e => by
        obtain ⟨e1, h1, h2, h3⟩ := hw
        rw [e, hL] at hoj
        cases hoj
        exact hno e1 h1 h2 h3
      have k2 := wpOp_putIf hoj (hf j oj hoj hji hju hno) (fun cs b => Region.noSelect_spec hn i oi cs b hi) (fun cs b => Region.noSelect_spec hn j oj cs b hoj) hQ hy (H.2 j (ready_mono hj hji))
      refine wpOp_mono (fun a' w' k3 => ⟨fun _ => k3.2.1 hjL, ih (l.setIfInBounds j true) a' w' (fun k ok hk hki hun hno' => hf k ok hk hki ?_ hno') (ready_mono hr (Ne.symm hji)) k3.1 (k3.2.1 hjL) ?_⟩) k2
      · by_cases hjk : j = k
        · subst hjk; exact hju
        · rw [getD_set_ne true hjk] at hun; exact hun
      · rw [Array.setIfInBounds_comm _ _ hji]; exact k3.2.2

theorem anyTill_take {i : Nat} {oi oL : Oper} {v : Value} {n : Nat} {l : Array Bool} {a : Act} {w : World} (hi : ops[i]? = some oi) (hL : ops[L]? = some oL)
    (hn : Region.noSelect ops = true) (hf : Region.free md ops l i = true) (hr : (Region.ready md ops l).contains i = true) (hw : (oL.after.any fun e => Region.binds md e && e.on == i) = true)
    (hQ : ∀ c a w, Q (.panic c) (a.put oi.dst v) w → Q (.panic c) a w) (hy : YieldsIf P ops S oi v a) (hS : S w)
    (h : anyTill P md ops Q S L n (l.setIfInBounds i true) (a.put oi.dst v) w) : anyTill P md ops Q S L (n + 1) l a w := by
  obtain ⟨e, h1, h2⟩ := Array.any_eq_true'.1 hw
  simp only [Bool.and_eq_true, beq_iff_eq] at h2
  exact anyTill_first hi hn hL ⟨e, h1, h2⟩ hQ n l a w (Region.free_spec hi hf) (by simpa using hr) hy hS h
theorem anyTill_one {i : Nat} {o : Oper} {n : Nat} {l : Array Bool} {a : Act} {w : World} (hr : Region.ready md ops l = [i]) (ho : ops[i]? = some o) (hg : Region.wanted o (yielded ops a.tmps) = true)
    (h : ∀ K : Act → World → Prop, (∀ a' w', (i ≠ L → S w') → anyTill P md ops Q S L n (l.setIfInBounds i true) a' w' → K a' w') → o.wp P a w K Q) : anyTill P md ops Q S L (n + 1) l a w := by
  refine ⟨fun e => absurd (hr.symm.trans e) (by simp), fun j hj => ?_⟩
  rw [hr] at hj
  obtain rfl : j = i := by simpa using hj
  unfold wpOp
  simp only [ho, hg, if_true]
  exact .inl (h _ fun a' w' h1 h2 => ⟨h1, h2⟩)
theorem anyTill_done {n : Nat} {l : Array Bool} {a : Act} {w : World} (hr : Region.ready md ops l = []) (h : Q .normal a w) : anyTill P md ops Q S L n l a w := by
  cases n with
  | zero => exact ⟨hr, h⟩
  | succ n => exact ⟨fun _ => h, fun i hi => absurd hi (by rw [hr]; simp)⟩
end
end Go.Proofs.YtiadccaaoenccaaDoor
namespace Go.Proofs.YtiadccaaoenccaaDoor
open Go.RowKit Go.Deep
set_option linter.unusedVariables false
set_option linter.unusedSimpArgs false
def OcA (w : World) (o : On) (e : Ending) (w' : World) : Prop := ∃ q : On, e = .returned (opV q) ∧ (q.k = o.k ∧ q.a = o.a ∧ q.b = o.b ∧ q.n = o.n) ∧ conO q = conO o ∧ NqL w' q.p ∧ (∀ k, nqB q.p k → w.heap.size ≤ k) ∧ Below w.heap.size w w'
theorem seven_two {w : World} {X : Nat} {v0 v1 v2 v3 v4 v5 v6 u5 u6 : Value} (h : BoxP w X [v0, v1, v2, v3, v4, v5, v6]) : BoxP ((w.setCell ⟨X, 5, none⟩ u5).setCell ⟨X, 6, none⟩ u6) X [v0, v1, v2, v3, v4, u5, u6] ∧ Chg (fun j => j = X) w ((w.setCell ⟨X, 5, none⟩ u5).setCell ⟨X, 6, none⟩ u6) :=
  ⟨(h.put 5 u5).put 6 u6, (Chg.of_set (S := fun j => j = X) _ X 5 u5 rfl).trans (Chg.of_set _ X 6 u6 rfl)⟩
theorem seven_set {w : World} {X : Nat} {v0 v1 v2 v3 v4 v5 v6 : Value} (h : BoxP w X [v0, v1, v2, v3, v4, v5, v6]) (u0 u1 u2 u3 u4 u5 u6 : Value) :
    BoxP (((((((w.setCell ⟨X, 0, none⟩ u0).setCell ⟨X, 1, none⟩ u1).setCell ⟨X, 2, none⟩ u2).setCell ⟨X, 3, none⟩ u3).setCell ⟨X, 4, none⟩ u4).setCell ⟨X, 5, none⟩ u5).setCell ⟨X, 6, none⟩ u6) X [u0, u1, u2, u3, u4, u5, u6] ∧ Chg (fun j => j = X) w (((((((w.setCell ⟨X, 0, none⟩ u0).setCell ⟨X, 1, none⟩ u1).setCell ⟨X, 2, none⟩ u2).setCell ⟨X, 3, none⟩ u3).setCell ⟨X, 4, none⟩ u4).setCell ⟨X, 5, none⟩ u5).setCell ⟨X, 6, none⟩ u6) :=
  ⟨((((((h.put 0 u0).put 1 u1).put 2 u2).put 3 u3).put 4 u4).put 5 u5).put 6 u6, ((((((Chg.of_set (S := fun j => j = X) _ X 0 u0 rfl).trans (Chg.of_set _ X 1 u1 rfl)).trans (Chg.of_set _ X 2 u2 rfl)).trans (Chg.of_set _ X 3 u3 rfl)).trans (Chg.of_set _ X 4 u4 rfl)).trans (Chg.of_set _ X 5 u5 rfl)).trans (Chg.of_set _ X 6 u6 rfl)⟩
set_option maxRecDepth 100000 in
set_option maxHeartbeats 16000000 in
theorem ecopyOp_any (o : On) (w : World) (ho : NqL w o.p) (hx : o.p.x.length ≤ 2048) (hy : o.p.y.length ≤ 2048) : Calls Tryd.prog 34 #[opV o] w (OcA w o) := by
  obtain ⟨wo, hwo⟩ : ∃ x, w.alloc (.cells #[.int .i64 o.k, .int .i64 o.a, .int .i64 o.b, .int .i64 o.n, .bool o.p.g, .slice o.p.a o.p.n o.p.c, .slice o.p.b o.p.m o.p.d] 54) = x := ⟨_, rfl⟩
  have br : BoxP wo w.heap.size [.int .i64 o.k, .int .i64 o.a, .int .i64 o.b, .int .i64 o.n, .bool o.p.g, .slice o.p.a o.p.n o.p.c, .slice o.p.b o.p.m o.p.d] := by rw [← hwo]; exact BoxP.made _ _ _
  have hbo : Below w.heap.size w wo := by rw [← hwo]; exact (Below.refl _ _).alloc (Nat.le_refl _) _
  obtain ⟨wR, hwR⟩ : ∃ x, wo.alloc (.cells zO 54) = x := ⟨_, rfl⟩
  have bR : BoxP wR wo.heap.size [.int .i64 0, .int .i64 0, .int .i64 0, .int .i64 0, .bool false, .slice none 0 0, .slice none 0 0] := by rw [← hwR]; exact BoxP.made _ _ _
  have hbR : Below wo.heap.size wo wR := by rw [← hwR]; exact (Below.refl _ _).alloc (Nat.le_refl _) _
  unfold zO at hwR
  have hl1 := ho.x.len
  have hl2 := ho.y.len
  have hB2 := hbo.trans (hbR.mono hbo.size)
  have HB := hide hB2
  have HO := hide (ho.below hB2)
  have HBR := hide bR
  have HBX := hide (br.below hbR)
  have hlt : w.heap.size < wo.heap.size := br.lt
  have y0 := ((br.below hbR).all 0 _ rfl).1
  have y1 := ((br.below hbR).all 1 _ rfl).1
  have y2 := ((br.below hbR).all 2 _ rfl).1
  have y3 := ((br.below hbR).all 3 _ rfl).1
  have y4 := ((br.below hbR).all 4 _ rfl).1
  have y5 := ((br.below hbR).all 5 _ rfl).1
  have y6 := ((br.below hbR).all 6 _ rfl).1
  have k5 := ((br.below hbR).all 5 _ rfl).2
  have k6 := ((br.below hbR).all 6 _ rfl).2
  unfold opV
  clear br hbo hbR bR hB2 ho
  go_enter Tryd.func34, Tryd.ntmps34
  go_wp2_with fail
  have z5 : wR.drew.cell? ⟨w.heap.size, 5, none⟩ = some (.slice o.p.a o.p.n o.p.c) := y5
  have hHeld : (fun w' => w'.cell? ⟨w.heap.size, 6, none⟩ = some (.slice o.p.b o.p.m o.p.d)) wR.drew := y6
  have HC1 := hide (sclone_any o.p.a o.p.n o.p.c o.p.x wR.drew ((unhide HO).below (Below.refl _ _).drew).x (by omega))
  have HC2 := hide (fun (W : World) (hb : Below wR.heap.size wR W) => sclone_any o.p.b o.p.m o.p.d o.p.y W ((unhide HO).below hb).y (by omega))
  refine anyTill_region (fun w' => w'.cell? ⟨w.heap.size, 6, none⟩ = some (.slice o.p.b o.p.m o.p.d)) 13 (by kernel_rfl) ?_
  refine anyTill_take (i := 0) (v := ?_) rfl rfl (by kernel_rfl) (by kernel_rfl) (by kernel_rfl) (by kernel_rfl) (fun _ _ _ h => h) (Or.inl ⟨by kernel_rfl, ?_⟩) (by assumption) ?_
  rotate_left 1
  · intro W hSw
    try dsimp only at hSw
    go_simp
    try with_reducible rfl
  refine anyTill_take (i := 1) (v := ?_) rfl rfl (by kernel_rfl) (by kernel_rfl) (by kernel_rfl) (by kernel_rfl) (fun _ _ _ h => h) (Or.inl ⟨by kernel_rfl, ?_⟩) (by assumption) ?_
  rotate_left 1
  · intro W hSw
    try dsimp only at hSw
    go_simp
    try with_reducible rfl
  refine anyTill_take (i := 4) (v := ?_) rfl rfl (by kernel_rfl) (by kernel_rfl) (by kernel_rfl) (by kernel_rfl) (fun _ _ _ h => h) (Or.inl ⟨by kernel_rfl, ?_⟩) (by assumption) ?_
  rotate_left 1
  · intro W hSw
    try dsimp only at hSw
    go_simp
    try with_reducible rfl
  refine anyTill_take (i := 5) (v := ?_) rfl rfl (by kernel_rfl) (by kernel_rfl) (by kernel_rfl) (by kernel_rfl) (fun _ _ _ h => h) (Or.inl ⟨by kernel_rfl, ?_⟩) (by assumption) ?_
  rotate_left 1
  · intro W hSw
    try dsimp only at hSw
    go_simp
    try with_reducible rfl
  refine anyTill_take (i := 6) (v := ?_) rfl rfl (by kernel_rfl) (by kernel_rfl) (by kernel_rfl) (by kernel_rfl) (fun _ _ _ h => h) (Or.inl ⟨by kernel_rfl, ?_⟩) (by assumption) ?_
  rotate_left 1
  · intro W hSw
    try dsimp only at hSw
    go_simp
    try with_reducible rfl
  refine anyTill_one (i := 2) (by kernel_rfl) rfl (by kernel_rfl) (fun K hK => ?_)
  go_simp
  refine hK _ _ (fun _ => hHeld) ?_
  clear hK K hHeld z5
  refine anyTill_one (i := 3) (by kernel_rfl) rfl (by kernel_rfl) (fun K hK => ?_)
  go_simp
  refine (unhide HC1).mono ?_
  rintro _ w1 ⟨a1, m1, c1, rfl, hs1, hn1, b1⟩
  have bX1 := ((unhide HBX).below (Below.refl _ _).drew).below b1
  have hB1 : Below wR.heap.size wR w1 := (Below.refl _ _).drew.trans (b1.mono (by simp))
  have hHeld : (fun w' => w'.cell? ⟨w.heap.size, 6, none⟩ = some (.slice o.p.b o.p.m o.p.d)) w1 := (bX1.all 6 _ rfl).1
  have HS1 := hide (And.intro hs1 hn1)
  have HBX1 := hide bX1
  have HB1 := hide hB1
  clear hs1 hn1 b1 bX1 hB1 HC1
  refine hK _ _ (fun _ => hHeld) ?_
  clear hK K
  refine anyTill_take (i := 8) (v := ?_) rfl rfl (by kernel_rfl) (by kernel_rfl) (by kernel_rfl) (by kernel_rfl) (fun _ _ _ h => h) (Or.inl ⟨by kernel_rfl, ?_⟩) (by assumption) ?_
  rotate_left 1
  · intro W hSw
    try dsimp only at hSw
    go_simp
    try with_reducible rfl
  refine anyTill_take (i := 9) (v := ?_) rfl rfl (by kernel_rfl) (by kernel_rfl) (by kernel_rfl) (by kernel_rfl) (fun _ _ _ h => h) (Or.inl ⟨by kernel_rfl, ?_⟩) (by assumption) ?_
  rotate_left 1
  · intro W hSw
    try dsimp only at hSw
    go_simp
    try with_reducible rfl
  clear hHeld
  refine anyTill_one (i := 7) (by kernel_rfl) rfl (by kernel_rfl) (fun K hK => ?_)
  go_simp
  refine (unhide HC2 w1 (unhide HB1)).mono ?_
  rintro _ w2 ⟨a2, m2, c2, rfl, hs2, hn2, b2⟩
  have bX2 := (unhide HBX1).below b2
  have hB2 := (unhide HB1).trans (b2.mono (unhide HB1).size)
  have hHeld : (fun w' => w'.cell? ⟨w.heap.size, 6, none⟩ = some (.slice o.p.b o.p.m o.p.d)) w2 := (bX2.all 6 _ rfl).1
  have HS2 := hide (And.intro ((unhide HS1).1.below b2) (And.intro (unhide HS1).2 (And.intro hs2 hn2)))
  have HB2 := hide hB2
  have HB12 := hide (unhide HB1).size
  have p5 := (bX2.all 5 _ rfl).1
  have u5 := (bX2.all 5 _ rfl).2
  have p6 := (bX2.all 6 _ rfl).1
  have u6 := (bX2.all 6 _ rfl).2
  have HBX2 := hide bX2
  clear hs2 hn2 b2 bX2 hB2 HC2 HS1 HB1 HBX1
  refine hK _ _ (fun _ => hHeld) ?_
  clear hK K
  refine anyTill_one (i := 10) (by kernel_rfl) rfl (by kernel_rfl) (fun K hK => ?_)
  go_simp
  have hH2 : (fun w' => w'.cell? ⟨w.heap.size, 6, none⟩ = some (.slice o.p.b o.p.m o.p.d)) (w2.setCell ⟨w.heap.size, 5, none⟩ (.slice a1 m1 c1)) := (((unhide HBX2).put 5 (.slice a1 m1 c1)).all 6 _ rfl).1
  have v6 := (((unhide HBX2).put 5 (.slice a1 m1 c1)).all 6 _ rfl).2
  refine hK _ _ (fun _ => hH2) ?_
  clear hK K hHeld
  refine anyTill_one (i := 11) (by kernel_rfl) rfl (by kernel_rfl) (fun K hK => ?_)
  go_simp
  refine hK _ _ (fun _ => hH2) ?_
  clear hK K
  refine anyTill_one (i := 12) (by kernel_rfl) rfl (by kernel_rfl) (fun K hK => ?_)
  go_simp
  refine hK _ _ (fun _ => hH2) ?_
  clear hK K
  refine anyTill_one (i := 13) (by kernel_rfl) rfl (by kernel_rfl) (fun K hK => ?_)
  go_simp
  refine hK _ _ (fun h => absurd rfl h) ?_
  clear hK K hH2 v6 p5 u5 p6 u6
  refine anyTill_done (by kernel_rfl) ?_
  obtain ⟨bX3, hc3⟩ := seven_two (u5 := .slice a1 m1 c1) (u6 := .slice a2 m2 c2) (unhide HBX2)
  have bR3 := ((unhide HBR).below (unhide HB2)).chg hc3 (by omega)
  have x0 := (bX3.all 0 _ rfl).1
  have x1 := (bX3.all 1 _ rfl).1
  have x2 := (bX3.all 2 _ rfl).1
  have x3 := (bX3.all 3 _ rfl).1
  have x4 := (bX3.all 4 _ rfl).1
  have x5 := (bX3.all 5 _ rfl).1
  have x6 := (bX3.all 6 _ rfl).1
  have r0 := (bR3.all 0 _ rfl).1
  have u0 := (bR3.all 0 _ rfl).2
  have r1 := (bR3.all 1 _ rfl).1
  have u1 := (bR3.all 1 _ rfl).2
  have r2 := (bR3.all 2 _ rfl).1
  have u2 := (bR3.all 2 _ rfl).2
  have r3 := (bR3.all 3 _ rfl).1
  have u3 := (bR3.all 3 _ rfl).2
  have r4 := (bR3.all 4 _ rfl).1
  have u4 := (bR3.all 4 _ rfl).2
  have r5 := (bR3.all 5 _ rfl).1
  have u5 := (bR3.all 5 _ rfl).2
  have r6 := (bR3.all 6 _ rfl).1
  have u6 := (bR3.all 6 _ rfl).2
  generalize (w2.setCell ⟨w.heap.size, 5, none⟩ (.slice a1 m1 c1)).setCell ⟨w.heap.size, 6, none⟩ (.slice a2 m2 c2) = w3 at *
  obtain ⟨bR4, hc4⟩ := seven_set bR3 (.int .i64 o.k) (.int .i64 o.a) (.int .i64 o.b) (.int .i64 o.n) (.bool o.p.g) (.slice a1 m1 c1) (.slice a2 m2 c2)
  have p0 := (bR4.all 0 _ rfl).1
  have p1 := (bR4.all 1 _ rfl).1
  have p2 := (bR4.all 2 _ rfl).1
  have p3 := (bR4.all 3 _ rfl).1
  have p4 := (bR4.all 4 _ rfl).1
  have p5 := (bR4.all 5 _ rfl).1
  have p6 := (bR4.all 6 _ rfl).1
  have HC3 := hide hc3
  have HC4 := hide hc4
  clear bX3 hc3 bR3 bR4 hc4
  go_wp2_with fail
  refine bodyPost_ret (v := opV ⟨o.k, o.a, o.b, o.n, ⟨o.p.g, a1, m1, c1, o.p.x, a2, m2, c2, o.p.y⟩⟩) (by simp [opV, results, Tryd.results34, go_sem, p0, p1, p2, p3, p4, p5, p6]; try rfl) rfl ?_
  obtain ⟨s1, n1, s2, n2⟩ := unhide HS2
  have hsz := unhide HB12
  have hwR : wo.heap.size < wR.heap.size := (unhide HBR).lt
  have f1 : ∀ z, a1 = some z → wR.heap.size ≤ z.block := fun z hz => by have := n1 z hz; simpa using this
  have f2 : ∀ z, a2 = some z → wR.heap.size ≤ z.block := fun z hz => by have := n2 z hz; omega
  refine ⟨_, rfl, ⟨rfl, rfl, rfl, rfl⟩, rfl, ⟨(s1.chg (unhide HC3) (fun z hz _ e => by have := f1 z hz; omega)).chg (unhide HC4) (fun z hz _ e => by have := f1 z hz; omega), (s2.chg (unhide HC3) (fun z hz _ e => by have := f2 z hz; omega)).chg (unhide HC4) (fun z hz _ e => by have := f2 z hz; omega), (unhide HO).ox, (unhide HO).oy⟩, fun k hk => ?_, ?_⟩
  · rcases hk with ⟨z, hz, _, e⟩ | ⟨z, hz, _, e⟩
    · have := f1 z hz; omega
    · have := f2 z hz; omega
  · have h1 := (unhide HB).trans ((unhide HB2).mono (unhide HB).size)
    exact (h1.trans ((unhide HC3).below (B := w.heap.size) h1.size (fun k hk e => by omega))).trans ((unhide HC4).below (B := w.heap.size) (by have := (unhide HC3).size; have := h1.size; omega) (fun k hk e => by omega))
end Go.Proofs.YtiadccaaoenccaaDoor
