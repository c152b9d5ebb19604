/- Rv1 -/
import Derived.Test.YtiadccaaoenccaaDoorBits
namespace Go.Proofs.YtiadccaaoenccaaDoor
open Go.RowKit Go.Deep
set_option linter.unusedVariables false
structure GivR (w : World) (B : Nat) (v0 v1 : Value) (es : List Ent) (rs : Nat → Value) : Prop where
  blk : ∃ cur, w.heap[B]? = some (.cells cur 38) ∧ cur.size = 20 ∧ cur[0]? = some v0 ∧ cur[1]? = some v1 ∧ ∀ i, 2 ≤ i → i < 20 → cur[i]? = some (rs i)
  own0 : w.ownsRow (B + 1) 49 1 v0 es.length (es.map Ent.v)
  own1 : w.ownsRow (B + 1) 49 1 v1 es.length (es.map Ent.v0)
  apart : ∀ k, v0.ownBlock = some k → v1.ownBlock ≠ some k
  ents : ∀ e ∈ es, EntOk w B v0 v1 e

theorem len_maxZ {n : Nat} (h : n ≤ 5800000000000) : n + 1 ≤ maxLen := by unfold maxLen; omega
theorem len_bytesZ {n : Nat} (h : n ≤ 5800000000000) : (n + 1) * 24 ≤ 140737488355328 := by omega
theorem GivR.chg {S : Nat → Prop} {w w' : World} {B : Nat} {v0 v1 : Value} {es : List Ent} {rs : Nat → Value} (h : GivR w B v0 v1 es rs) (k : Chg S w w') (hB : ¬ S B) (h0 : ∀ k, v0.ownBlock = some k → ¬ S k) (h1 : ∀ k, v1.ownBlock = some k → ¬ S k)
    (hes : ∀ e ∈ es, ¬ S e.b ∧ ¬ S e.b0) : GivR w' B v0 v1 es rs := by
  obtain ⟨cur, hc, hr⟩ := h.blk
  have hlt : B < w.heap.size := by
    rcases Nat.lt_or_ge B w.heap.size with hlt | hge
    · exact hlt
    · rw [Array.getElem?_eq_none hge] at hc; cases hc
  refine ⟨⟨cur, by rw [k.block B hlt hB]; exact hc, hr⟩, ownsRow_chg h.own0 k h0, ownsRow_chg h.own1 k h1, h.apart, fun e he => ?_⟩
  have := h.ents e he
  exact ⟨this.sl.chg k (fun x hx _ => by cases hx; exact (hes e he).1), this.sl0.chg k (fun x hx _ => by cases hx; exact (hes e he).2), this.s, this.s0⟩

theorem GivR.below {w w' : World} {B : Nat} {v0 v1 : Value} {es : List Ent} {rs : Nat → Value} (h : GivR w B v0 v1 es rs) (k : Below w.heap.size w w') : GivR w' B v0 v1 es rs :=
  h.chg (S := fun _ => False) (.of_below k) id (fun _ _ => id) (fun _ _ => id) (fun _ _ => ⟨id, id⟩)

theorem GivR.cell0 {w : World} {B : Nat} {v0 v1 : Value} {es : List Ent} {rs : Nat → Value} (h : GivR w B v0 v1 es rs) : w.cell? ⟨B, 0, none⟩ = some v0 ∧ w.cell? ⟨B, 1, none⟩ = some v1 ∧ w.frozen? ⟨B, 0, none⟩ = false ∧ w.frozen? ⟨B, 1, none⟩ = false ∧ B < w.heap.size := by
  obtain ⟨cur, hc, hr⟩ := h.blk
  have e0 : w.cell? ⟨B, 0, none⟩ = some v0 := by rw [cell_of_block hc]; exact hr.2.1
  exact ⟨e0, by rw [cell_of_block hc]; exact hr.2.2.1, frozen_of_block hc _, frozen_of_block hc _, World.block_lt_of_cell? _ _ e0⟩

theorem midR_facts {w w2 w3 : World} {B : Nat} {v0 v1 : Value} {es : List Ent} {rs : Nat → Value} {g1 c1 n : Nat} {xs : List Nat} {o : Obj} (hg : GivR w B v0 v1 es rs) (B2 : Below w.heap.size w w2) (hp5 : B < w.heap.size)
    (hown : w2.ownsRow w.heap.size 74 1 (.slice (some ⟨g1, 0, none⟩) (n + 3) c1) (n + 3) (vals xs ++ vals marks))
    (hgrow3 : (w2.alloc o).grownBy w3 v0.ownBlock) (v : Value) :
    Sl (w3.setCell ⟨B, 0, none⟩ v) (some ⟨g1, 0, none⟩) (n + 3) c1 (xs ++ marks) ∧ (w3.setCell ⟨B, 0, none⟩ v).ownsRow (B + 1) 49 1 v1 es.length (es.map Ent.v0) ∧
    Chg (Own B v0 v1) w (w3.setCell ⟨B, 0, none⟩ v) ∧ Chg (fun k => k = B ∨ v0.ownBlock = some k) w2 (w3.setCell ⟨B, 0, none⟩ v) := by
  have k1 : Chg (fun k => k = B ∨ v0.ownBlock = some k) w2 (w3.setCell ⟨B, 0, none⟩ v) :=
    ((Chg.of_alloc w2 o).trans (.of_grown hgrow3 (fun k hk => .inr hk))).trans (.of_set w3 B 0 v (.inl rfl))
  have hge : w.heap.size ≤ g1 := by
    have := (own_ge hown g1 rfl).1
    exact this
  have h0 := own_ge hg.own0
  refine ⟨?_, ?_, ?_, k1⟩
  · rw [vals_append] at hown
    refine (sl_of_own hown).chg k1 ?_
    rintro x hx _ hk
    cases hx
    rcases hk with hk | hk
    · have : g1 = B := hk
      omega
    · have := (h0 _ hk).2
      simp at this
      omega
  · refine ownsRow_chg (ownsRow_chg hg.own1 (.of_below (S := fun _ => False) B2) (fun _ _ => id)) k1 ?_
    rintro k hk (rfl | h)
    · have := (own_ge hg.own1 _ hk).1; omega
    · exact hg.apart k h hk
  · refine (Chg.of_below B2).trans (k1.mono ?_)
    rintro k _ (h | h)
    · exact .inl h
    · exact .inr (.inl h)

theorem gnatR_fin {w w2 w3 W w5 w6 : World} {B : Nat} {v0 v1 : Value} {es : List Ent} {rs : Nat → Value} {g1 c1 n g2 c2 g3 c3 : Nat} {xs : List Nat} {o1 o2 : Obj} {cur5 : Array Value} (hxs : xs.length = n) (hn : n ≤ 35184372088000) (hg : GivR w B v0 v1 es rs) (B2 : Below w.heap.size w w2)
    (own2 : w2.ownsRow w.heap.size 74 1 (.slice (some ⟨g1, 0, none⟩) (n + 3) c1) (n + 3) (vals xs ++ vals marks)) (hlt2 : g1 < w2.heap.size)
    (own3 : w3.ownsRow (B + 1) 49 1 (.slice (some ⟨g2, 0, none⟩) (es.length + 1) c2) (es.length + 1) (es.map Ent.v ++ [.slice (some ⟨g1, 0, none⟩) (n + 3) c1]))
    (grow3 : (w2.alloc o1).grownBy w3 v0.ownBlock) (at3 : v0.ownBlock = some g2 ∨ g2 = w2.heap.size + 1) (hlt3 : g2 < w3.heap.size)
    (HW : w3.setCell ⟨B, 0, none⟩ (.slice (some ⟨g2, 0, none⟩) (es.length + 1) c2) = W)
    (hblk5 : w5.heap[W.heap.size]? = some (.cells cur5 74)) (hsz5 : cur5.size = n + 3 + 3) (hpre5 : ∀ i, i < n + 3 → cur5[i]? = some (.int .u32 ((xs ++ marks).getD i 0 : Nat))) (hhs5 : w5.heap.size = W.heap.size + 1) (hbel5 : Below W.heap.size W.drew w5)
    (own6 : w6.ownsRow (B + 1) 49 1 (.slice (some ⟨g3, 0, none⟩) (es.length + 1) c3) (es.length + 1) (es.map Ent.v0 ++ [.slice (some ⟨W.heap.size, 0, none⟩) (n + 3) (n + 3 + 3)]))
    (grow6 : (w5.alloc o2).grownBy w6 v1.ownBlock) (at6 : v1.ownBlock = some g3 ∨ g3 = w5.heap.size + 1) :
    ∃ v0' v1' E, (Value.slice (some ⟨g1, 0, none⟩) n c1) = .slice (some ⟨Ent.b E, 0, none⟩) n E.c ∧ E.xs = xs ∧ (w.heap.size ≤ E.b ∧ w.heap.size ≤ E.b0) ∧
      GivR (w6.setCell ⟨B, 1, none⟩ (.slice (some ⟨g3, 0, none⟩) (es.length + 1) c3)) B v0' v1' (es ++ [E]) rs ∧
      Chg (Own B v0 v1) w (w6.setCell ⟨B, 1, none⟩ (.slice (some ⟨g3, 0, none⟩) (es.length + 1) c3)) ∧
      ∀ k, k < w.heap.size → ¬ Own B v0 v1 k → ¬ Own B v0' v1' k := by
  obtain ⟨cur, hcur, hc20, hc0, hc1, hcr⟩ := hg.blk
  have hB : B < w.heap.size := block_lt hcur
  obtain ⟨M1, M2, M3, M4⟩ := midR_facts hg B2 hB own2 grow3 (.slice (some ⟨g2, 0, none⟩) (es.length + 1) c2)
  rw [HW] at M1 M2 M3 M4
  have hsW : W.heap.size = w3.heap.size := by rw [← HW]; simp
  have hs3 := grow3.size
  simp only [World.size_alloc] at hs3
  have hs2 := B2.size
  have hs6 := grow6.size
  simp only [World.size_alloc] at hs6
  have bel5 : Below W.heap.size W w5 := (Below.drew (Below.refl _ _)).trans hbel5
  have o0 := own_ge hg.own0
  have o1' := own_ge hg.own1
  have hg1 : w.heap.size ≤ g1 := (own_ge own2 g1 rfl).1
  have nB0 : some B ≠ v0.ownBlock := fun e => by have := (o0 B e.symm).1; omega
  have nB1 : some B ≠ v1.ownBlock := fun e => by have := (o1' B e.symm).1; omega
  have g2B : g2 ≠ B := by have := (own_ge own3 g2 rfl).1; omega
  have g3B : g3 ≠ B := by have := (own_ge own6 g3 rfl).1; omega
  have g2v : v1.ownBlock ≠ some g2 := by
    rcases at3 with h | h
    · exact hg.apart g2 h
    · intro e; have := (o1' g2 e).2; omega
  have g23 : g2 ≠ g3 := by
    intro e
    rcases at6 with h | h
    · exact g2v (e ▸ h)
    · omega
  -- the road from W on
  have kW : Chg (fun k => k = B ∨ v1.ownBlock = some k) W (w6.setCell ⟨B, 1, none⟩ (.slice (some ⟨g3, 0, none⟩) (es.length + 1) c3)) :=
    (((Chg.of_below bel5).trans (.of_alloc w5 o2)).trans (.of_grown grow6 (fun k hk => .inr hk))).trans (.of_set w6 B 1 _ (.inl rfl))
  have k5 : Chg (fun k => k = B ∨ v1.ownBlock = some k) w5 (w6.setCell ⟨B, 1, none⟩ (.slice (some ⟨g3, 0, none⟩) (es.length + 1) c3)) :=
    ((Chg.of_alloc w5 o2).trans (.of_grown grow6 (fun k hk => .inr hk))).trans (.of_set w6 B 1 _ (.inl rfl))
  have k3 : Chg (fun k => k = B ∨ v1.ownBlock = some k) w3 (w6.setCell ⟨B, 1, none⟩ (.slice (some ⟨g3, 0, none⟩) (es.length + 1) c3)) := by
    refine Chg.trans ?_ kW
    rw [← HW]
    exact .of_set w3 B 0 _ (.inl rfl)
  have kall : Chg (Own B v0 v1) w (w6.setCell ⟨B, 1, none⟩ (.slice (some ⟨g3, 0, none⟩) (es.length + 1) c3)) :=
    M3.trans (kW.mono (fun k _ h => h.elim .inl (fun h => .inr (.inr h))))
  have hsafe : ∀ k, k < w.heap.size → ¬ Own B v0 v1 k → ¬ Own B (.slice (some ⟨g2, 0, none⟩) (es.length + 1) c2) (.slice (some ⟨g3, 0, none⟩) (es.length + 1) c3) k := by
    rintro k hk hn (h | h | h)
    · exact hn (.inl h)
    · simp [Value.ownBlock] at h
      rcases at3 with h' | h'
      · exact hn (.inr (.inl (h ▸ h')))
      · omega
    · simp [Value.ownBlock] at h
      rcases at6 with h' | h'
      · exact hn (.inr (.inr (h ▸ h')))
      · omega
  refine ⟨.slice (some ⟨g2, 0, none⟩) (es.length + 1) c2, .slice (some ⟨g3, 0, none⟩) (es.length + 1) c3, ⟨g1, c1, W.heap.size, n + 3 + 3, xs⟩, rfl, rfl, ⟨hg1, by show w.heap.size ≤ W.heap.size; omega⟩, ⟨?_, ?_, ?_, ?_, ?_⟩, kall, hsafe⟩
  · -- the book's own block
    have e2 : w2.heap[B]? = some (.cells cur 38) := by rw [B2.block B hB]; exact hcur
    have e3 : w3.heap[B]? = some (.cells cur 38) := by
      rw [grow3.block B (by simp; omega) nB0, Below.heap_alloc _ _ _ (by omega)]; exact e2
    have e4 : W.heap[B]? = some (.cells (cur.setIfInBounds 0 (.slice (some ⟨g2, 0, none⟩) (es.length + 1) c2)) 38) := by
      rw [← HW]; exact set_block e3 0 _
    have e5 : w5.heap[B]? = _ := (bel5.block B (by omega)).trans e4
    have e6 : w6.heap[B]? = w5.heap[B]? := by
      rw [grow6.block B (by simp; omega) nB1, Below.heap_alloc _ _ _ (by omega)]
    refine ⟨_, set_block (e6.trans e5) 1 _, by simp [hc20], ?_, ?_, ?_⟩
    · simp [hc20]
    · simp [hc20]
    · intro i h2 h20
      rw [Array.getElem?_setIfInBounds_ne (by omega), Array.getElem?_setIfInBounds_ne (by omega)]
      exact hcr i h2 h20
  · have := ownsRow_chg own3 k3 (fun k hk => by
      simp [Value.ownBlock] at hk
      subst hk
      rintro (h | h)
      · exact g2B h
      · exact g2v h)
    simpa [Ent.v, hxs] using this
  · have := ownsRow_chg own6 (Chg.of_set (S := fun k => k = B) w6 B 1 (.slice (some ⟨g3, 0, none⟩) (es.length + 1) c3) rfl) (fun k hk => by
      simp [Value.ownBlock] at hk
      subst hk
      exact g3B)
    simpa [Ent.v0, hxs] using this
  · intro k hk hk'
    simp [Value.ownBlock] at hk hk'
    omega
  · intro e he
    rcases List.mem_append.1 he with he | he
    · have E := hg.ents e he
      have hne : e.xs ++ marks ≠ [] := by simp [marks]
      have l1 := E.sl.block_lt hne _ rfl
      have l2 := E.sl0.block_lt hne _ rfl
      exact ⟨E.sl.chg kall (fun x hx _ => by cases hx; exact E.s), E.sl0.chg kall (fun x hx _ => by cases hx; exact E.s0), hsafe _ l1 E.s, hsafe _ l2 E.s0⟩
    · simp at he
      subst he
      have sl5 : Sl w5 (some ⟨W.heap.size, 0, none⟩) (n + 3) (n + 3 + 3) (xs ++ marks) := by
        refine ⟨by simp [marks, hxs], by omega, by unfold maxLen; omega, .inr ⟨_, _, rfl, cells_of_block hblk5 ?_⟩⟩
        intro i hi
        rw [Nat.zero_add]
        exact hpre5 i (by simpa [marks, hxs] using hi)
      have nv : ∀ k, w.heap.size ≤ k → v1.ownBlock ≠ some k := fun k hk e => by have := (o1' k e).2; omega
      refine ⟨?_, ?_, ?_, ?_⟩
      · simp only [hxs]
        refine M1.chg kW ?_
        rintro x hx _ (h | h)
        · cases hx
          have : g1 = B := h
          omega
        · cases hx
          exact nv _ hg1 h
      · simp only [hxs]
        refine sl5.chg k5 ?_
        rintro x hx _ (h | h)
        · cases hx
          have : W.heap.size = B := h
          omega
        · cases hx
          exact nv _ (show w.heap.size ≤ W.heap.size by omega) h
      · rintro (h | h | h)
        · have : g1 = B := h
          omega
        · simp [Value.ownBlock] at h
          rcases at3 with h' | h'
          · have := (o0 g2 h').2; omega
          · omega
        · simp [Value.ownBlock] at h
          rcases at6 with h' | h'
          · have := (o1' g3 h').2; omega
          · omega
      · rintro (h | h | h)
        · have : W.heap.size = B := h
          omega
        · simp [Value.ownBlock] at h
          omega
        · simp [Value.ownBlock] at h
          rcases at6 with h' | h'
          · have := (o1' g3 h').2; omega
          · omega

set_option maxHeartbeats 2000000 in
set_option maxRecDepth 100000 in
theorem gnatR_any (B : Nat) (v0 v1 : Value) (es : List Ent) (rs : Nat → Value) (a : Option Addr) (n c : Nat) (xs : List Nat) (w : World) (hg : GivR w B v0 v1 es rs) (hs : Sl w a n c xs) (hn : n ≤ 35184372088000) (he : es.length ≤ 5800000000000) :
    Calls Tryd.prog 25 #[.pointer (some ⟨B, 0, none⟩), .slice a n c] w fun e w' => ∃ v0' v1' E, e = .returned (.slice (some ⟨Ent.b E, 0, none⟩) n E.c) ∧ E.xs = xs ∧ (w.heap.size ≤ E.b ∧ w.heap.size ≤ E.b0) ∧ GivR w' B v0' v1' (es ++ [E]) rs ∧ Chg (Own B v0 v1) w w' ∧ ∀ k, k < w.heap.size → ¬ Own B v0 v1 k → ¬ Own B v0' v1' k := by
  have K1 := hide (copy_any a n c xs w hs (by omega))
  obtain ⟨i80, hi80, hz80, hs80, hb80⟩ := info_parts Tryd.info_u32
  go_enter Tryd.func25, Tryd.ntmps25
  go_wp2_with fail
  refine (unhide K1).mono ?_
  rintro e w1 ⟨cur, rfl, hblk, hsz, hpre, hhs, hbel⟩
  have F1 := hide (And.intro hblk (And.intro hsz (And.intro hpre (And.intro hhs hbel))))
  have O1 := hide (own_of_copy hs.len hn hblk hsz hpre)
  clear hblk hsz hpre hhs hbel K1
  go_wp2_with (at_builtin; refine wpList_append_lies _ rfl _ _ 50 rfl w.heap.size 74 i80 (.int .u32 0) 1 4 Tryd.underlying50 hi80 hz80 hs80 hb80 rfl (by decide) _ n (vals xs) rfl ?own1 ⟨w1.heap.size, 0, none⟩ 3 3 (vals marks) rfl rfl ?news1 ?one1 (by decide) ?c31 ?c41 ?c51 (w.heap.size + 2) ?c61 ?_)
  case own1 => exact (unhide O1).alloc _
  case news1 => exact World.news_of_block (alloc_block _ _)
  case one1 => intro u hu; simp [vals, marks] at hu; rcases hu with rfl | rfl | rfl <;> rfl
  case c31 => unfold maxLen; omega
  case c41 => omega
  case c51 => have := (unhide F1).2.2.2.1; simp; omega
  case c61 => have := (unhide F1).2.2.2.1; simp; omega
  intro g1 c1 w2 hown hgrow hat hlt
  have B2 : Below w.heap.size w w2 := by
    have hsz := (unhide F1).2.2.2.1
    exact Below.grown ((unhide F1).2.2.2.2.alloc (by omega) _) hgrow (by simp; omega) (fun k hk => by simp [Value.ownBlock] at hk; omega)
  have G2 := hide (hg.below B2)
  obtain ⟨p1, p2, p3, p4, p5⟩ := hg.cell0
  have q1 : w2.cell? ⟨B, 0, none⟩ = some v0 := (B2.cell p5).trans p1
  have F2 := hide (And.intro hown (And.intro B2 (And.intro hat hlt)))
  obtain ⟨i23, hi23, hz23, hs23, hb23⟩ := info_parts Tryd.info_limbs
  clear hown hgrow hat hlt B2 p1 p2 p3 p4 hi80 hz80 hs80 hb80
  go_wp2_with (at_builtin; refine wpList_append_lies _ rfl _ _ 27 rfl (B + 1) 49 i23 (.slice none 0 0) 1 24 Tryd.underlying27 hi23 hz23 hs23 hb23 rfl (by decide) v0 es.length (es.map Ent.v) rfl ?own2 ⟨w2.heap.size, 0, none⟩ 1 1 [.slice (some ⟨g1, 0, none⟩) (n + 3) c1] rfl rfl ?news2 ?one2 (by decide) ?c32 ?c42 ?c52 (w2.heap.size + 1) ?c62 ?_)
  case own2 => exact (unhide G2).own0.alloc _
  case news2 => exact World.news_of_block (alloc_block _ _)
  case one2 => intro u hu; simp at hu; subst hu; rfl
  case c32 => unfold maxLen; omega
  case c42 => omega
  case c52 => have := (unhide F2).2.1.size; simp; omega
  case c62 => simp
  intro g2 c2 w3 hown3 hgrow3 hat3 hlt3
  have n0 : some B ≠ v0.ownBlock := fun e => by have := (own_ge (unhide G2).own0 B e.symm).1; omega
  obtain ⟨p1, p2, p3, p4, p6⟩ := (unhide G2).cell0
  have r0 := grown_frozen hgrow3 (b := B) (i := 0) (by simp; omega) n0
  have r1 := grown_frozen hgrow3 (b := B) (i := 1) (by simp; omega) n0
  have q0 : w3.cell? ⟨B, 0, none⟩ = some v0 := by rw [r0.1, World.cell?_alloc_lt _ _ _ (by exact p6)]; exact p1
  have q2 : w3.frozen? ⟨B, 0, none⟩ = false := by rw [r0.2, World.frozen?_alloc_old _ _ _ (by simp; omega)]; exact p3
  have q3 : w3.cell? ⟨B, 1, none⟩ = some v1 := by rw [r1.1, World.cell?_alloc_lt _ _ _ (by exact p6)]; exact p2
  have q4 : w3.frozen? ⟨B, 1, none⟩ = false := by rw [r1.2, World.frozen?_alloc_old _ _ _ (by simp; omega)]; exact p4
  have F3 := hide (And.intro hown3 (And.intro hgrow3 (And.intro hat3 hlt3)))
  have I23 := hide (And.intro hi23 (And.intro hz23 (And.intro hs23 hb23)))
  clear hown3 hgrow3 hat3 hlt3 r0 r1 p1 p2 p3 p4 q1 n0 hi23 hz23 hs23 hb23
  go_wp2_with fail
  have M := midR_facts hg (unhide F2).2.1 p5 (unhide F2).1 (unhide F3).2.1 (.slice (some ⟨g2, 0, none⟩) (es.length + 1) c2)
  have q5 : (w3.setCell ⟨B, 0, none⟩ (.slice (some ⟨g2, 0, none⟩) (es.length + 1) c2)).cell? ⟨B, 1, none⟩ = some v1 := by rw [World.cell?_setCell_other _ _ _ _ (by simp)]; exact q3
  have q6 : (w3.setCell ⟨B, 0, none⟩ (.slice (some ⟨g2, 0, none⟩) (es.length + 1) c2)).frozen? ⟨B, 1, none⟩ = false := by rw [World.frozen?_setCell]; exact q4
  have q7 : B < (w3.setCell ⟨B, 0, none⟩ (.slice (some ⟨g2, 0, none⟩) (es.length + 1) c2)).heap.size := World.block_lt_of_cell? _ _ q5
  have HM := hide M
  clear M q0 q2 q3 q4
  generalize hW : w3.setCell ⟨B, 0, none⟩ (.slice (some ⟨g2, 0, none⟩) (es.length + 1) c2) = W at *
  have HW := hide hW
  clear hW
  go_region_law (first
    | (refine step_append_lies _ rfl _ _ 27 rfl (B + 1) 49 i23 (.slice none 0 0) 1 24 Tryd.underlying27 (unhide I23).1 (unhide I23).2.1 (unhide I23).2.2.1 (unhide I23).2.2.2 rfl (by decide) v1 es.length (es.map Ent.v0) rfl ((unhide O5).alloc _) ⟨w5.heap.size, 0, none⟩ 1 1 [.slice (some ⟨W.heap.size, 0, none⟩) (n + 3) (n + 3 + 3)] rfl rfl (World.news_of_block (alloc_block _ _)) one_slice (by decide) (len_maxZ he) (len_bytesZ he) (by simp; omega) (w5.heap.size + 1) (by simp) ?_; intro g3 c3 w6 hown6 hgrow6 hat6 hlt6; have L6 := after_append q7b q5b q6b (unhide O5) hgrow6; have q5c := L6.1; have q6c := L6.2; have F6 := hide (And.intro hown6 (And.intro hgrow6 (And.intro hat6 hlt6))); clear hown6 hgrow6 hat6 hlt6 L6)
    | (go_simp; go_at_call 37; go_must (refine (copy_any (some ⟨g1, 0, none⟩) (n + 3) c1 (xs ++ marks) _ ?_ (by omega)).mono ?_); go_must (exact (unhide HM).1.below ((Below.refl _ _).drew)); rintro e w5 ⟨cur5, rfl, hblk5, hsz5, hpre5, hhs5, hbel5⟩; go_must (have L5 := after_copy q7 q5 q6 (unhide HM).2.1 hbel5); have O5 := hide L5.1; have q5b := L5.2.1; have q6b := L5.2.2.1; have q7b := L5.2.2.2; have F5 := hide (And.intro hblk5 (And.intro hsz5 (And.intro hpre5 (And.intro hhs5 hbel5)))); clear hblk5 hsz5 hpre5 hhs5 hbel5 L5))
  all_goals
    have hc1 : (n : Int) ≤ (c1 : Int) := by have := (unhide HM).1.le; omega
    have FIN := gnatR_fin hs.len hn hg (unhide F2).2.1 (unhide F2).1 (unhide F2).2.2.2 (unhide F3).1 (unhide F3).2.1 (unhide F3).2.2.1 (unhide F3).2.2.2 (unhide HW) (unhide F5).1 (unhide F5).2.1 (unhide F5).2.2.1 (unhide F5).2.2.2.1 (unhide F5).2.2.2.2 (unhide F6).1 (unhide F6).2.1 (unhide F6).2.2.1
    have HFIN := hide FIN
    clear FIN
    go_wp2
    go_ret
    obtain ⟨v0', v1', E, e1, e2⟩ := unhide HFIN
    exact ⟨v0', v1', E, congrArg Ending.returned e1, e2⟩
end Go.Proofs.YtiadccaaoenccaaDoor
