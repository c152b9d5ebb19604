/- Rv1 -/
import Derived.Test.YtbbicappjicblaaGreatDoorGiv2
import Derived.Test.YtbbicappjicblaaGreatDoorRv3
import Derived.Deep.Strs
import Derived.ChangeArms
import Derived.Test.YtbbicappjicblaaGreatDoorNMul
import Derived.Deep.RegionHeld3
namespace Go.Proofs.YtbbicappjicblaaGreatDoor
open Go.RowKit Go.Deep
set_option linter.unusedVariables false
structure GivR (w : World) (B : Nat) (v0 v1 : Value) (es : List Ent) (rs : Nat → Value) : Prop where
 blk : ∃ cur, w.heap[B]? = some (.cells cur 37) ∧ cur.size = 20 ∧ cur[0]? = some v0 ∧ cur[1]? = some v1 ∧ ∀ i, 2 ≤ i → i < 20 → cur[i]? = some (rs i)
 own0 : w.ownsRow (B + 1) 68 1 v0 es.length (es.map Ent.v)
 own1 : w.ownsRow (B + 1) 68 1 v1 es.length (es.map Ent.v0)
 apart : ∀ k, v0.ownBlock = some k → v1.ownBlock ≠ some k
 ents : ∀ e ∈ es, EntOk w B v0 v1 e

theorem len_maxZ {n : Nat} (h : n ≤ 5800000000000) : n + 1 ≤ maxLen := by unfold maxLen; omega
theorem len_bytesZ {n : Nat} (h : n ≤ 5800000000000) : (n + 1) * 24 ≤ 140737488355328 := by omega
theorem GivR.chg {S : Nat → Prop} {w w' : World} {B : Nat} {v0 v1 : Value} {es : List Ent} {rs : Nat → Value} (h : GivR w B v0 v1 es rs) (k : Chg S w w') (hB : ¬ S B) (h0 : ∀ k, v0.ownBlock = some k → ¬ S k) (h1 : ∀ k, v1.ownBlock = some k → ¬ S k)
  (hes : ∀ e ∈ es, ¬ S e.b ∧ ¬ S e.b0) : GivR w' B v0 v1 es rs := by
 obtain ⟨cur, hc, hr⟩ := h.blk
 have hlt : B < w.heap.size := by
  rcases Nat.lt_or_ge B w.heap.size with hlt | hge
  ·exact hlt
  ·rw [Array.getElem?_eq_none hge] at hc; cases hc
 refine ⟨⟨cur, by rw [k.block B hlt hB]; exact hc, hr⟩, ownsRow_chg h.own0 k h0, ownsRow_chg h.own1 k h1, h.apart, fun e he => ?_⟩
 have := h.ents e he
 exact ⟨this.sl.chg k (fun x hx _ => by cases hx; exact (hes e he).1), this.sl0.chg k (fun x hx _ => by cases hx; exact (hes e he).2), this.s, this.s0⟩

theorem GivR.below {w w' : World} {B : Nat} {v0 v1 : Value} {es : List Ent} {rs : Nat → Value} (h : GivR w B v0 v1 es rs) (k : Below w.heap.size w w') : GivR w' B v0 v1 es rs :=
 h.chg (S := fun _ => False) (.of_below k) id (fun _ _ => id) (fun _ _ => id) (fun _ _ => ⟨id, id⟩)

theorem GivR.cell0 {w : World} {B : Nat} {v0 v1 : Value} {es : List Ent} {rs : Nat → Value} (h : GivR w B v0 v1 es rs) : w.cell? ⟨B, 0, none⟩ = some v0 ∧ w.cell? ⟨B, 1, none⟩ = some v1 ∧ w.frozen? ⟨B, 0, none⟩ = false ∧ w.frozen? ⟨B, 1, none⟩ = false ∧ B < w.heap.size := by
 obtain ⟨cur, hc, hr⟩ := h.blk
 have e0 : w.cell? ⟨B, 0, none⟩ = some v0 := by rw [cell_of_block hc]; exact hr.2.1
 exact ⟨e0, by rw [cell_of_block hc]; exact hr.2.2.1, frozen_of_block hc _, frozen_of_block hc _, World.block_lt_of_cell? _ _ e0⟩

theorem midR_facts {w w2 w3 : World} {B : Nat} {v0 v1 : Value} {es : List Ent} {rs : Nat → Value} {g1 c1 n : Nat} {xs : List Nat} {o : Obj} (hg : GivR w B v0 v1 es rs) (B2 : Below w.heap.size w w2) (hp5 : B < w.heap.size)
  (hown : w2.ownsRow w.heap.size 115 1 (.slice (some ⟨g1, 0, none⟩) (n + 3) c1) (n + 3) (vals xs ++ vals marks))
  (hgrow3 : (w2.alloc o).grownBy w3 v0.ownBlock) (v : Value) :
  Sl (w3.setCell ⟨B, 0, none⟩ v) (some ⟨g1, 0, none⟩) (n + 3) c1 (xs ++ marks) ∧ (w3.setCell ⟨B, 0, none⟩ v).ownsRow (B + 1) 68 1 v1 es.length (es.map Ent.v0) ∧
  Chg (Own B v0 v1) w (w3.setCell ⟨B, 0, none⟩ v) ∧ Chg (fun k => k = B ∨ v0.ownBlock = some k) w2 (w3.setCell ⟨B, 0, none⟩ v) := by
 have k1 : Chg (fun k => k = B ∨ v0.ownBlock = some k) w2 (w3.setCell ⟨B, 0, none⟩ v) :=
  ((Chg.of_alloc w2 o).trans (.of_grown hgrow3 (fun k hk => .inr hk))).trans (.of_set w3 B 0 v (.inl rfl))
 have hge : w.heap.size ≤ g1 := by
  have := (own_ge hown g1 rfl).1
  exact this
 have h0 := own_ge hg.own0
 refine ⟨?_, ?_, ?_, k1⟩
 ·rw [vals_append] at hown
  refine (sl_of_own hown).chg k1 ?_
  rintro x hx _ hk
  cases hx
  rcases hk with hk | hk
  ·have : g1 = B := hk
   omega
  ·have := (h0 _ hk).2
   simp at this
   omega
 ·refine ownsRow_chg (ownsRow_chg hg.own1 (.of_below (S := fun _ => False) B2) (fun _ _ => id)) k1 ?_
  rintro k hk (rfl | h)
  ·have := (own_ge hg.own1 _ hk).1; omega
  ·exact hg.apart k h hk
 ·refine (Chg.of_below B2).trans (k1.mono ?_)
  rintro k _ (h | h)
  ·exact .inl h
  ·exact .inr (.inl h)

theorem gnatR_fin {w w2 w3 W w5 w6 : World} {B : Nat} {v0 v1 : Value} {es : List Ent} {rs : Nat → Value} {g1 c1 n g2 c2 g3 c3 : Nat} {xs : List Nat} {o1 o2 : Obj} {cur5 : Array Value} (hxs : xs.length = n) (hn : n ≤ 35184372088000) (hg : GivR w B v0 v1 es rs) (B2 : Below w.heap.size w w2)
  (own2 : w2.ownsRow w.heap.size 115 1 (.slice (some ⟨g1, 0, none⟩) (n + 3) c1) (n + 3) (vals xs ++ vals marks)) (hlt2 : g1 < w2.heap.size)
  (own3 : w3.ownsRow (B + 1) 68 1 (.slice (some ⟨g2, 0, none⟩) (es.length + 1) c2) (es.length + 1) (es.map Ent.v ++ [.slice (some ⟨g1, 0, none⟩) (n + 3) c1]))
  (grow3 : (w2.alloc o1).grownBy w3 v0.ownBlock) (at3 : v0.ownBlock = some g2 ∨ g2 = w2.heap.size + 1) (hlt3 : g2 < w3.heap.size)
  (HW : w3.setCell ⟨B, 0, none⟩ (.slice (some ⟨g2, 0, none⟩) (es.length + 1) c2) = W)
  (hblk5 : w5.heap[W.heap.size]? = some (.cells cur5 115)) (hsz5 : cur5.size = n + 3 + 3) (hpre5 : ∀ i, i < n + 3 → cur5[i]? = some (.int .u32 ((xs ++ marks).getD i 0 : Nat))) (hhs5 : w5.heap.size = W.heap.size + 1) (hbel5 : Below W.heap.size W.drew w5)
  (own6 : w6.ownsRow (B + 1) 68 1 (.slice (some ⟨g3, 0, none⟩) (es.length + 1) c3) (es.length + 1) (es.map Ent.v0 ++ [.slice (some ⟨W.heap.size, 0, none⟩) (n + 3) (n + 3 + 3)]))
  (grow6 : (w5.alloc o2).grownBy w6 v1.ownBlock) (at6 : v1.ownBlock = some g3 ∨ g3 = w5.heap.size + 1) :
  ∃ v0' v1' E, (Value.slice (some ⟨g1, 0, none⟩) n c1) = .slice (some ⟨Ent.b E, 0, none⟩) n E.c ∧ E.xs = xs ∧ (w.heap.size ≤ E.b ∧ w.heap.size ≤ E.b0) ∧
   GivR (w6.setCell ⟨B, 1, none⟩ (.slice (some ⟨g3, 0, none⟩) (es.length + 1) c3)) B v0' v1' (es ++ [E]) rs ∧
   Chg (Own B v0 v1) w (w6.setCell ⟨B, 1, none⟩ (.slice (some ⟨g3, 0, none⟩) (es.length + 1) c3)) ∧
   ∀ k, k < w.heap.size → ¬ Own B v0 v1 k → ¬ Own B v0' v1' k := by
 obtain ⟨cur, hcur, hc20, hc0, hc1, hcr⟩ := hg.blk
 have hB : B < w.heap.size := block_lt hcur
 obtain ⟨M1, M2, M3, M4⟩ := midR_facts hg B2 hB own2 grow3 (.slice (some ⟨g2, 0, none⟩) (es.length + 1) c2)
 rw [HW] at M1 M2 M3 M4
 have hsW : W.heap.size = w3.heap.size := by rw [← HW]; simp
 have hs3 := grow3.size
 simp only [World.size_alloc] at hs3
 have hs2 := B2.size
 have hs6 := grow6.size
 simp only [World.size_alloc] at hs6
 have bel5 : Below W.heap.size W w5 := (Below.drew (Below.refl _ _)).trans hbel5
 have o0 := own_ge hg.own0
 have o1' := own_ge hg.own1
 have hg1 : w.heap.size ≤ g1 := (own_ge own2 g1 rfl).1
 have nB0 : some B ≠ v0.ownBlock := fun e => by have := (o0 B e.symm).1; omega
 have nB1 : some B ≠ v1.ownBlock := fun e => by have := (o1' B e.symm).1; omega
 have g2B : g2 ≠ B := by have := (own_ge own3 g2 rfl).1; omega
 have g3B : g3 ≠ B := by have := (own_ge own6 g3 rfl).1; omega
 have g2v : v1.ownBlock ≠ some g2 := by
  rcases at3 with h | h
  ·exact hg.apart g2 h
  ·intro e; have := (o1' g2 e).2; omega
 have g23 : g2 ≠ g3 := by
  intro e
  rcases at6 with h | h
  ·exact g2v (e ▸ h)
  ·omega
 -- the road from W on
 have kW : Chg (fun k => k = B ∨ v1.ownBlock = some k) W (w6.setCell ⟨B, 1, none⟩ (.slice (some ⟨g3, 0, none⟩) (es.length + 1) c3)) :=
  (((Chg.of_below bel5).trans (.of_alloc w5 o2)).trans (.of_grown grow6 (fun k hk => .inr hk))).trans (.of_set w6 B 1 _ (.inl rfl))
 have k5 : Chg (fun k => k = B ∨ v1.ownBlock = some k) w5 (w6.setCell ⟨B, 1, none⟩ (.slice (some ⟨g3, 0, none⟩) (es.length + 1) c3)) :=
  ((Chg.of_alloc w5 o2).trans (.of_grown grow6 (fun k hk => .inr hk))).trans (.of_set w6 B 1 _ (.inl rfl))
 have k3 : Chg (fun k => k = B ∨ v1.ownBlock = some k) w3 (w6.setCell ⟨B, 1, none⟩ (.slice (some ⟨g3, 0, none⟩) (es.length + 1) c3)) := by
  refine Chg.trans ?_ kW
  rw [← HW]
  exact .of_set w3 B 0 _ (.inl rfl)
 have kall : Chg (Own B v0 v1) w (w6.setCell ⟨B, 1, none⟩ (.slice (some ⟨g3, 0, none⟩) (es.length + 1) c3)) :=
  M3.trans (kW.mono (fun k _ h => h.elim .inl (fun h => .inr (.inr h))))
 have hsafe : ∀ k, k < w.heap.size → ¬ Own B v0 v1 k → ¬ Own B (.slice (some ⟨g2, 0, none⟩) (es.length + 1) c2) (.slice (some ⟨g3, 0, none⟩) (es.length + 1) c3) k := by
  rintro k hk hn (h | h | h)
  ·exact hn (.inl h)
  ·simp [Value.ownBlock] at h
   rcases at3 with h' | h'
   ·exact hn (.inr (.inl (h ▸ h')))
   ·omega
  ·simp [Value.ownBlock] at h
   rcases at6 with h' | h'
   ·exact hn (.inr (.inr (h ▸ h')))
   ·omega
 refine ⟨.slice (some ⟨g2, 0, none⟩) (es.length + 1) c2, .slice (some ⟨g3, 0, none⟩) (es.length + 1) c3, ⟨g1, c1, W.heap.size, n + 3 + 3, xs⟩, rfl, rfl, ⟨hg1, by show w.heap.size ≤ W.heap.size; omega⟩, ⟨?_, ?_, ?_, ?_, ?_⟩, kall, hsafe⟩
 ·-- the book's own block
  have e2 : w2.heap[B]? = some (.cells cur 37) := by rw [B2.block B hB]; exact hcur
  have e3 : w3.heap[B]? = some (.cells cur 37) := by
   rw [grow3.block B (by simp; omega) nB0, Below.heap_alloc _ _ _ (by omega)]; exact e2
  have e4 : W.heap[B]? = some (.cells (cur.setIfInBounds 0 (.slice (some ⟨g2, 0, none⟩) (es.length + 1) c2)) 37) := by
   rw [← HW]; exact set_block e3 0 _
  have e5 : w5.heap[B]? = _ := (bel5.block B (by omega)).trans e4
  have e6 : w6.heap[B]? = w5.heap[B]? := by
   rw [grow6.block B (by simp; omega) nB1, Below.heap_alloc _ _ _ (by omega)]
  refine ⟨_, set_block (e6.trans e5) 1 _, by simp [hc20], ?_, ?_, ?_⟩
  ·simp [hc20]
  ·simp [hc20]
  ·intro i h2 h20
   rw [Array.getElem?_setIfInBounds_ne (by omega), Array.getElem?_setIfInBounds_ne (by omega)]
   exact hcr i h2 h20
 ·have := ownsRow_chg own3 k3 (fun k hk => by
   simp [Value.ownBlock] at hk
   subst hk
   rintro (h | h)
   ·exact g2B h
   ·exact g2v h)
  simpa [Ent.v, hxs] using this
 ·have := ownsRow_chg own6 (Chg.of_set (S := fun k => k = B) w6 B 1 (.slice (some ⟨g3, 0, none⟩) (es.length + 1) c3) rfl) (fun k hk => by
   simp [Value.ownBlock] at hk
   subst hk
   exact g3B)
  simpa [Ent.v0, hxs] using this
 ·intro k hk hk'
  simp [Value.ownBlock] at hk hk'
  omega
 ·intro e he
  rcases List.mem_append.1 he with he | he
  ·have E := hg.ents e he
   have hne : e.xs ++ marks ≠ [] := by simp [marks]
   have l1 := E.sl.block_lt hne _ rfl
   have l2 := E.sl0.block_lt hne _ rfl
   exact ⟨E.sl.chg kall (fun x hx _ => by cases hx; exact E.s), E.sl0.chg kall (fun x hx _ => by cases hx; exact E.s0), hsafe _ l1 E.s, hsafe _ l2 E.s0⟩
  ·simp at he
   subst he
   have sl5 : Sl w5 (some ⟨W.heap.size, 0, none⟩) (n + 3) (n + 3 + 3) (xs ++ marks) := by
    refine ⟨by simp [marks, hxs], by omega, by unfold maxLen; omega, .inr ⟨_, _, rfl, cells_of_block hblk5 ?_⟩⟩
    intro i hi
    rw [Nat.zero_add]
    exact hpre5 i (by simpa [marks, hxs] using hi)
   have nv : ∀ k, w.heap.size ≤ k → v1.ownBlock ≠ some k := fun k hk e => by have := (o1' k e).2; omega
   refine ⟨?_, ?_, ?_, ?_⟩
   ·simp only [hxs]
    refine M1.chg kW ?_
    rintro x hx _ (h | h)
    ·cases hx
     have : g1 = B := h
     omega
    ·cases hx
     exact nv _ hg1 h
   ·simp only [hxs]
    refine sl5.chg k5 ?_
    rintro x hx _ (h | h)
    ·cases hx
     have : W.heap.size = B := h
     omega
    ·cases hx
     exact nv _ (show w.heap.size ≤ W.heap.size by omega) h
   ·rintro (h | h | h)
    ·have : g1 = B := h
     omega
    ·simp [Value.ownBlock] at h
     rcases at3 with h' | h'
     ·have := (o0 g2 h').2; omega
     ·omega
    ·simp [Value.ownBlock] at h
     rcases at6 with h' | h'
     ·have := (o1' g3 h').2; omega
     ·omega
   ·rintro (h | h | h)
    ·have : W.heap.size = B := h
     omega
    ·simp [Value.ownBlock] at h
     omega
    ·simp [Value.ownBlock] at h
     rcases at6 with h' | h'
     ·have := (o1' g3 h').2; omega
     ·omega

set_option maxHeartbeats 2000000 in
set_option maxRecDepth 100000 in
theorem gnatR_any (B : Nat) (v0 v1 : Value) (es : List Ent) (rs : Nat → Value) (a : Option Addr) (n c : Nat) (xs : List Nat) (w : World) (hg : GivR w B v0 v1 es rs) (hs : Sl w a n c xs) (hn : n ≤ 35184372088000) (he : es.length ≤ 5800000000000) :
  Calls Tryz.prog 45 #[.pointer (some ⟨B, 0, none⟩), .slice a n c] w fun e w' => ∃ v0' v1' E, e = .returned (.slice (some ⟨Ent.b E, 0, none⟩) n E.c) ∧ E.xs = xs ∧ (w.heap.size ≤ E.b ∧ w.heap.size ≤ E.b0) ∧ GivR w' B v0' v1' (es ++ [E]) rs ∧ Chg (Own B v0 v1) w w' ∧ ∀ k, k < w.heap.size → ¬ Own B v0 v1 k → ¬ Own B v0' v1' k := by
 have K1 := hide (copy_any a n c xs w hs (by omega))
 obtain ⟨i80, hi80, hz80, hs80, hb80⟩ := info_parts Tryz.info_u32
 go_enter Tryz.func45, Tryz.ntmps45
 go_wp2_with fail
 refine (unhide K1).mono ?_
 rintro e w1 ⟨cur, rfl, hblk, hsz, hpre, hhs, hbel⟩
 have F1 := hide (And.intro hblk (And.intro hsz (And.intro hpre (And.intro hhs hbel))))
 have O1 := hide (own_of_copy hs.len hn hblk hsz hpre)
 clear hblk hsz hpre hhs hbel K1
 go_wp2_with (at_builtin; refine wpList_append_lies _ rfl _ _ 69 rfl w.heap.size 115 i80 (.int .u32 0) 1 4 Tryz.underlying69 hi80 hz80 hs80 hb80 rfl (by decide) _ n (vals xs) rfl ?own1 ⟨w1.heap.size, 0, none⟩ 3 3 (vals marks) rfl rfl ?news1 ?one1 (by decide) ?c31 ?c41 ?c51 (w.heap.size + 2) ?c61 ?_)
 case own1 => exact (unhide O1).alloc _
 case news1 => exact World.news_of_block (alloc_block _ _)
 case one1 => intro u hu; simp [vals, marks] at hu; rcases hu with rfl | rfl | rfl <;> rfl
 case c31 => unfold maxLen; omega
 case c41 => omega
 case c51 => have := (unhide F1).2.2.2.1; simp; omega
 case c61 => have := (unhide F1).2.2.2.1; simp; omega
 intro g1 c1 w2 hown hgrow hat hlt
 have B2 : Below w.heap.size w w2 := by
  have hsz := (unhide F1).2.2.2.1
  exact Below.grown ((unhide F1).2.2.2.2.alloc (by omega) _) hgrow (by simp; omega) (fun k hk => by simp [Value.ownBlock] at hk; omega)
 have G2 := hide (hg.below B2)
 obtain ⟨p1, p2, p3, p4, p5⟩ := hg.cell0
 have q1 : w2.cell? ⟨B, 0, none⟩ = some v0 := (B2.cell p5).trans p1
 have F2 := hide (And.intro hown (And.intro B2 (And.intro hat hlt)))
 obtain ⟨i23, hi23, hz23, hs23, hb23⟩ := info_parts Tryz.info_limbs
 clear hown hgrow hat hlt B2 p1 p2 p3 p4 hi80 hz80 hs80 hb80
 go_wp2_with (at_builtin; refine wpList_append_lies _ rfl _ _ 26 rfl (B + 1) 68 i23 (.slice none 0 0) 1 24 Tryz.underlying26 hi23 hz23 hs23 hb23 rfl (by decide) v0 es.length (es.map Ent.v) rfl ?own2 ⟨w2.heap.size, 0, none⟩ 1 1 [.slice (some ⟨g1, 0, none⟩) (n + 3) c1] rfl rfl ?news2 ?one2 (by decide) ?c32 ?c42 ?c52 (w2.heap.size + 1) ?c62 ?_)
 case own2 => exact (unhide G2).own0.alloc _
 case news2 => exact World.news_of_block (alloc_block _ _)
 case one2 => intro u hu; simp at hu; subst hu; rfl
 case c32 => unfold maxLen; omega
 case c42 => omega
 case c52 => have := (unhide F2).2.1.size; simp; omega
 case c62 => simp
 intro g2 c2 w3 hown3 hgrow3 hat3 hlt3
 have n0 : some B ≠ v0.ownBlock := fun e => by have := (own_ge (unhide G2).own0 B e.symm).1; omega
 obtain ⟨p1, p2, p3, p4, p6⟩ := (unhide G2).cell0
 have r0 := grown_frozen hgrow3 (b := B) (i := 0) (by simp; omega) n0
 have r1 := grown_frozen hgrow3 (b := B) (i := 1) (by simp; omega) n0
 have q0 : w3.cell? ⟨B, 0, none⟩ = some v0 := by rw [r0.1, World.cell?_alloc_lt _ _ _ (by exact p6)]; exact p1
 have q2 : w3.frozen? ⟨B, 0, none⟩ = false := by rw [r0.2, World.frozen?_alloc_old _ _ _ (by simp; omega)]; exact p3
 have q3 : w3.cell? ⟨B, 1, none⟩ = some v1 := by rw [r1.1, World.cell?_alloc_lt _ _ _ (by exact p6)]; exact p2
 have q4 : w3.frozen? ⟨B, 1, none⟩ = false := by rw [r1.2, World.frozen?_alloc_old _ _ _ (by simp; omega)]; exact p4
 have F3 := hide (And.intro hown3 (And.intro hgrow3 (And.intro hat3 hlt3)))
 have I23 := hide (And.intro hi23 (And.intro hz23 (And.intro hs23 hb23)))
 clear hown3 hgrow3 hat3 hlt3 r0 r1 p1 p2 p3 p4 q1 n0 hi23 hz23 hs23 hb23
 go_wp2_with fail
 have M := midR_facts hg (unhide F2).2.1 p5 (unhide F2).1 (unhide F3).2.1 (.slice (some ⟨g2, 0, none⟩) (es.length + 1) c2)
 have q5 : (w3.setCell ⟨B, 0, none⟩ (.slice (some ⟨g2, 0, none⟩) (es.length + 1) c2)).cell? ⟨B, 1, none⟩ = some v1 := by rw [World.cell?_setCell_other _ _ _ _ (by simp)]; exact q3
 have q6 : (w3.setCell ⟨B, 0, none⟩ (.slice (some ⟨g2, 0, none⟩) (es.length + 1) c2)).frozen? ⟨B, 1, none⟩ = false := by rw [World.frozen?_setCell]; exact q4
 have q7 : B < (w3.setCell ⟨B, 0, none⟩ (.slice (some ⟨g2, 0, none⟩) (es.length + 1) c2)).heap.size := World.block_lt_of_cell? _ _ q5
 have HM := hide M
 clear M q0 q2 q3 q4
 generalize hW : w3.setCell ⟨B, 0, none⟩ (.slice (some ⟨g2, 0, none⟩) (es.length + 1) c2) = W at *
 have HW := hide hW
 clear hW
 go_region_law (first
  | (refine step_append_lies _ rfl _ _ 26 rfl (B + 1) 68 i23 (.slice none 0 0) 1 24 Tryz.underlying26 (unhide I23).1 (unhide I23).2.1 (unhide I23).2.2.1 (unhide I23).2.2.2 rfl (by decide) v1 es.length (es.map Ent.v0) rfl ((unhide O5).alloc _) ⟨w5.heap.size, 0, none⟩ 1 1 [.slice (some ⟨W.heap.size, 0, none⟩) (n + 3) (n + 3 + 3)] rfl rfl (World.news_of_block (alloc_block _ _)) one_slice (by decide) (len_maxZ he) (len_bytesZ he) (by simp; omega) (w5.heap.size + 1) (by simp) ?_; intro g3 c3 w6 hown6 hgrow6 hat6 hlt6; have L6 := after_append q7b q5b q6b (unhide O5) hgrow6; have q5c := L6.1; have q6c := L6.2; have F6 := hide (And.intro hown6 (And.intro hgrow6 (And.intro hat6 hlt6))); clear hown6 hgrow6 hat6 hlt6 L6)
  | (go_simp; go_at_call 73; go_must (refine (copy_any (some ⟨g1, 0, none⟩) (n + 3) c1 (xs ++ marks) _ ?_ (by omega)).mono ?_); go_must (exact (unhide HM).1.below ((Below.refl _ _).drew)); rintro e w5 ⟨cur5, rfl, hblk5, hsz5, hpre5, hhs5, hbel5⟩; go_must (have L5 := after_copy q7 q5 q6 (unhide HM).2.1 hbel5); have O5 := hide L5.1; have q5b := L5.2.1; have q6b := L5.2.2.1; have q7b := L5.2.2.2; have F5 := hide (And.intro hblk5 (And.intro hsz5 (And.intro hpre5 (And.intro hhs5 hbel5)))); clear hblk5 hsz5 hpre5 hhs5 hbel5 L5))
 all_goals
  have hc1 : (n : Int) ≤ (c1 : Int) := by have := (unhide HM).1.le; omega
  have FIN := gnatR_fin hs.len hn hg (unhide F2).2.1 (unhide F2).1 (unhide F2).2.2.2 (unhide F3).1 (unhide F3).2.1 (unhide F3).2.2.1 (unhide F3).2.2.2 (unhide HW) (unhide F5).1 (unhide F5).2.1 (unhide F5).2.2.1 (unhide F5).2.2.2.1 (unhide F5).2.2.2.2 (unhide F6).1 (unhide F6).2.1 (unhide F6).2.2.1
  have HFIN := hide FIN
  clear FIN
  go_wp2
  go_ret
  obtain ⟨v0', v1', E, e1, e2⟩ := unhide HFIN
  exact ⟨v0', v1', E, congrArg Ending.returned e1, e2⟩
end Go.Proofs.YtbbicappjicblaaGreatDoor

namespace Go.Proofs.YtbbicappjicblaaGreatDoor
open Go.ChangeShapes Go.WideShapes Go.ChangeAt Go.RowKit Go.Deep
set_option linter.unusedVariables false

end Go.Proofs.YtbbicappjicblaaGreatDoor
namespace Go.Proofs.YtbbicappjicblaaGreatDoor
open Go.ChangeShapes Go.WideShapes Go.ChangeAt Go.RowKit Go.Deep
set_option linter.unusedVariables false
theorem trod_limbsZ {H : Type} {enc : TypeId × Value → H} {W : World} {fuel : Nat} {cs : List Value} {x : DataW H × List MemPlace}
  (h : DataW.trod enc Tryz.prog W 0 (fun _ => true) true fuel 69 cs = some x) (hz : ∀ k ∈ x.1.weights Tryz.prog 69, k ≤ reachBytes) :
  ∃ a n c xs, cs = [.slice a n c] ∧ Sl W a n c xs ∧ Ok xs ∧ n ≤ 35184372088000 ∧ (a = none → c = 0) := by
 rcases open_ints Tryz.underlying69 Tryz.underlying115 law_cellsL h with ⟨rfl, _⟩ | ⟨y, n, c, zs, rfl, _, hl, hm, hzl, rfl, hcell, hwz⟩
 ·exact ⟨none, 0, 0, [], rfl, sl_nil _, Ok.nil, Nat.zero_le _, fun _ => rfl⟩
 ·have hzl' : zs.length = c := by simpa using hzl
  have hb := hz (((lits (H := H) .u32 (zs.take n)).length + (lits (H := H) .u32 (zs.drop n)).length) * Tryz.prog.bytesOf 115) (by simp [DataW.weights, Tryz.underlying69])
  have hlen : (lits (H := H) .u32 (zs.take n)).length + (lits (H := H) .u32 (zs.drop n)).length = c := by
   simp [lits]; omega
  rw [hlen, law_bytesL] at hb
  unfold reachBytes at hb
  refine ⟨some y, n, c, (zs.take n).map Int.toNat, rfl, ⟨by simp; omega, hl, hm, ?_⟩, fun z hzz => ?_, by omega, fun h => by cases h⟩
  ·by_cases h0 : n = 0
   ·left; subst h0; simp
   ·right
    obtain ⟨b, off, spot⟩ := y
    have c0 := hcell 0 (by omega)
    have hspot : spot = none := by simpa [Addr.add] using World.cell?_spot c0
    subst hspot
    refine ⟨b, off, rfl, ?_⟩
    intro i hi
    have hi' : i < n := by simp at hi; omega
    have e : (⟨b, off, none⟩ : Addr).add i = ⟨b, off + i, none⟩ := by unfold Addr.add; split <;> simp_all
    have hzi := hcell i (by omega)
    rw [e] at hzi
    rw [hzi]
    have hmem : zs.getD i 0 ∈ zs := by
     have : zs.getD i 0 = zs[i]'(by omega) := by simp [List.getD, show i < zs.length from by omega]
     rw [this]; exact List.getElem_mem _
    have r := bounds_u32 (hwz _ hmem)
    have e2 : ((zs.take n).map Int.toNat).getD i 0 = (zs.getD i 0).toNat := by
     simp [List.getD, hi', show i < zs.length from by omega]
    rw [e2]
    congr 2
    omega
  ·obtain ⟨u, hu, rfl⟩ := List.mem_map.1 hzz
   have := bounds_u32 (hwz u (List.mem_of_mem_take hu))
   omega

theorem EntOk.ne {w : World} {B : Nat} {v0 v1 : Value} {e : Ent} (h : EntOk w B v0 v1 e) {R : Nat} {b : Bool} (hR : w.cell? ⟨R, 0, none⟩ = some (.bool b)) : e.b ≠ R ∧ e.b0 ≠ R := by
 have key : ∀ (g n c : Nat) (xs : List Nat), Sl w (some ⟨g, 0, none⟩) n c xs → xs ≠ [] → g ≠ R := by
  intro g n c xs hs hne hg
  obtain ⟨b', off', e', hc⟩ := hs.cells.resolve_left hne
  cases e'
  have := hc 0 (List.length_pos_iff.2 hne)
  rw [Nat.zero_add, hg, hR] at this
  cases this
 exact ⟨key _ _ _ _ h.sl (by simp [marks]), key _ _ _ _ h.sl0 (by simp [marks])⟩

theorem LawSt.setR {w w' : World} {B : Nat} {v0 v1 : Value} {es : List Ent} {w0 : World} {L : List Pc} (h : LawSt w B v0 v1 es w0 L) {R : Nat} {b : Bool} (hR : w.cell? ⟨R, 0, none⟩ = some (.bool b)) (hc : Chg (fun j => j = R) w w') (hw : w0.heap.size ≤ R) (hO : ¬ Own B v0 v1 R) (hL : ∀ p ∈ L, ∀ x, p.a = some x → p.xs ≠ [] → x.block ≠ R) :
  LawSt w' B v0 v1 es w0 L := by
 refine ⟨h.giv.chg hc (fun e => hO (by rw [← e]; exact .inl rfl)) (fun k hk e => hO (by rw [← e]; exact .inr (.inl hk))) (fun k hk e => hO (by rw [← e]; exact .inr (.inr hk))) (fun e he => (h.giv.ents e he).ne hR), h.bel.trans (hc.below h.bel.size (fun k hk => by omega)), h.base, ?_⟩
 intro p hp
 have K := h.all p hp
 exact ⟨K.sl.chg hc (fun x hx hne => hL p hp x hx hne), K.safe⟩
end Go.Proofs.YtbbicappjicblaaGreatDoor
namespace Go.Proofs.YtbbicappjicblaaGreatDoor
open Go.RowKit Go.Deep
set_option linter.unusedVariables false
def sameR (g1 : Bool) (x1 y1 : List Nat) (g2 : Bool) (x2 y2 : List Nat) : Bool := (g1 == g2) && (decide (x1 = x2) && decide (y1 = y2))
set_option maxHeartbeats 8000000 in
theorem sameRat_any (g1 g2 : Bool) (a1 b1 a2 b2 : Option Addr) (n1 c1 m1 d1 n2 c2 m2 d2 : Nat) (x1 y1 x2 y2 : List Nat) (w : World) (hx1 : Sl w a1 n1 c1 x1) (hy1 : Sl w b1 m1 d1 y1) (hx2 : Sl w a2 n2 c2 x2) (hy2 : Sl w b2 m2 d2 y2) :
  Calls Tryz.prog 54 #[ratV g1 a1 n1 c1 b1 m1 d1, ratV g2 a2 n2 c2 b2 m2 d2] w fun e w' => e = .returned (.bool (sameR g1 x1 y1 g2 x2 y2)) ∧ Below w.heap.size w w' := by
 have bx := Box.made w g1 a1 n1 c1 b1 m1 d1
 obtain ⟨wa, hwa⟩ : ∃ wa, ratBox w g1 a1 n1 c1 b1 m1 d1 = wa := ⟨_, rfl⟩
 rw [hwa] at bx
 have by_ := Box.made wa g2 a2 n2 c2 b2 m2 d2
 obtain ⟨wb, hwb⟩ : ∃ wb, ratBox wa g2 a2 n2 c2 b2 m2 d2 = wb := ⟨_, rfl⟩
 rw [hwb] at by_
 have hba : Below w.heap.size w wa := by rw [← hwa]; exact (Below.refl _ _).alloc (Nat.le_refl _) _
 have hbb : Below wa.heap.size wa wb := by rw [← hwb]; exact (Below.refl _ _).alloc (Nat.le_refl _) _
 have bx2 := bx.keep hbb
 have hB := hba.trans (hbb.mono hba.size)
 unfold ratBox at hwa hwb
 have K1 := sameNat_any a1 a2 n1 c1 n2 c2 x1 x2 wb (hx1.below hB) (hx2.below hB)
 have HK2 := hide (fun k => sameNat_any b1 b2 m1 d1 m2 d2 y1 y2 (wb.drewN k) ((hy1.below hB).below (bel_drewN (Below.refl _ _) k)) ((hy2.below hB).below (bel_drewN (Below.refl _ _) k)))
 have HB := hide hB
 have HBx := hide (And.intro bx2 by_)
 have p0 := bx2.d0
 have p1 := bx2.d1
 have p2 := bx2.d2
 have p3 := by_.d0
 have p4 := by_.d1
 have p5 := by_.d2
 unfold ratV
 by_cases hg : g1 = g2
 ·have t1 : (g1 == g2) = true := by simp [hg]
  obtain ⟨s1, hs1⟩ : ∃ s, decide (x1 = x2) = s := ⟨_, rfl⟩
  obtain ⟨s2, hs2⟩ : ∃ s, decide (y1 = y2) = s := ⟨_, rfl⟩
  have HR := hide (show sameR g1 x1 y1 g2 x2 y2 = (s1 && s2) by unfold sameR; rw [t1, hs1, hs2]; rfl)
  rw [hs1] at K1
  rw [hs2] at HK2
  have HK1 := hide K1
  obtain ⟨rr, hrr⟩ : ∃ r, sameR g1 x1 y1 g2 x2 y2 = r := ⟨_, rfl⟩
  rw [hrr] at HR ⊢
  subst hg
  clear K1 hx1 hy1 hx2 hy2 bx by_ bx2 hba hbb hB hs1 hs2 hrr t1
  cases s1
  ·go_enter Tryz.func54, Tryz.ntmps54
   go_wp2_with fail
   refine (unhide HK1).mono ?_
   rintro _ _ ⟨rfl, k, rfl⟩
   go_wp2_with fail
   go_ret
   exact ⟨by rw [unhide HR]; rfl, bel_drewN (unhide HB) _⟩
  ·go_enter Tryz.func54, Tryz.ntmps54
   go_wp2_with fail
   refine (unhide HK1).mono ?_
   rintro _ _ ⟨rfl, k, rfl⟩
   have q2 : (wb.drewN k).cell? ⟨w.heap.size, 2, none⟩ = some (.slice b1 m1 d1) := p2
   have q5 : (wb.drewN k).cell? ⟨wa.heap.size, 2, none⟩ = some (.slice b2 m2 d2) := p5
   go_wp2_with fail
   refine (unhide HK2 k).mono ?_
   rintro _ _ ⟨rfl, k2, rfl⟩
   go_wp2_with fail
   go_ret
   exact ⟨by rw [unhide HR]; simp, bel_drewN (unhide HB) _⟩
 ·have t1 : (g1 == g2) = false := by simp [hg]
  have HR := hide (show sameR g1 x1 y1 g2 x2 y2 = false by unfold sameR; rw [t1]; rfl)
  obtain ⟨rr, hrr⟩ : ∃ r, sameR g1 x1 y1 g2 x2 y2 = r := ⟨_, rfl⟩
  rw [hrr] at HR ⊢
  clear K1 hx1 hy1 hx2 hy2 bx by_ bx2 hba hbb hB hrr HK2
  go_enter Tryz.func54, Tryz.ntmps54
  go_wp2_with fail
  go_ret
  exact ⟨by rw [unhide HR]; rfl, unhide HB⟩
end Go.Proofs.YtbbicappjicblaaGreatDoor

namespace Go.Proofs.YtbbicappjicblaaGreatDoor
open Go.RowKit Go.Deep
set_option linter.unusedVariables false

end Go.Proofs.YtbbicappjicblaaGreatDoor
namespace Go.Proofs.YtbbicappjicblaaGreatDoor
open Go.RowKit Go.Deep
set_option linter.unusedVariables false
theorem Ok.limbs (v : Nat) : Ok (limbs v) := (limbs_rep v).ok
theorem Tri.out {w : World} {R : Nat} {v0 v1 v2 : Value} (h : Tri w R v0 v1 v2) : Out w R :=
  ⟨fun i hi => by
    match i, hi with
    | 0, _ => exact ⟨_, h.c0⟩
    | 1, _ => exact ⟨_, h.c1⟩
    | 2, _ => exact ⟨_, h.c2⟩,
   fun i hi => by
    match i, hi with
    | 0, _ => exact h.f0
    | 1, _ => exact h.f1
    | 2, _ => exact h.f2, h.lt⟩
theorem Tri.chg {w w' : World} {R S : Nat} {v0 v1 v2 : Value} (h : Tri w R v0 v1 v2) (c : Chg (fun k => k = S) w w') (hne : R ≠ S) : Tri w' R v0 v1 v2 := by
 have hb := c.block R h.lt hne
 have hc : ∀ i, w'.cell? ⟨R, i, none⟩ = w.cell? ⟨R, i, none⟩ := fun i => by unfold World.cell?; simp only; rw [hb]
 have hf : ∀ i, w'.frozen? ⟨R, i, none⟩ = w.frozen? ⟨R, i, none⟩ := fun i => by unfold World.frozen?; simp only; rw [hb]
 exact ⟨(hc 0).trans h.c0, (hc 1).trans h.c1, (hc 2).trans h.c2, (hf 0).trans h.f0, (hf 1).trans h.f1, (hf 2).trans h.f2, Nat.lt_of_lt_of_le h.lt c.size⟩
theorem Tri.chgW {S : Nat → Prop} {w w' : World} {R : Nat} {v0 v1 v2 : Value} (h : Tri w R v0 v1 v2) (k : Chg S w w') (hs : ¬ S R) : Tri w' R v0 v1 v2 := by
 have hf : ∀ i, w'.frozen? ⟨R, i, none⟩ = w.frozen? ⟨R, i, none⟩ := fun i => World.frozen?_of_block (w := w) (k.block R h.lt hs)
 exact ⟨k.cell hs h.c0, k.cell hs h.c1, k.cell hs h.c2, (hf 0).trans h.f0, (hf 1).trans h.f1, (hf 2).trans h.f2, Nat.lt_of_lt_of_le h.lt k.size⟩
theorem GivR.own_lt {w : World} {B : Nat} {v0 v1 : Value} {es : List Ent} {rs : Nat → Value} (h : GivR w B v0 v1 es rs) {k : Nat} (hk : Own B v0 v1 k) : k < w.heap.size := by
 rcases hk with rfl | hk | hk
 ·exact h.cell0.2.2.2.2
 ·exact (Go.Proofs.YtbbicappjicblaaGreatDoor.own_ge h.own0 k hk).2
 ·exact (Go.Proofs.YtbbicappjicblaaGreatDoor.own_ge h.own1 k hk).2
theorem GivR.own_ge {w : World} {B : Nat} {v0 v1 : Value} {es : List Ent} {rs : Nat → Value} (h : GivR w B v0 v1 es rs) {k : Nat} (hk : Own B v0 v1 k) : B ≤ k := by
 rcases hk with rfl | hk | hk
 ·exact Nat.le_refl _
 ·have := (Go.Proofs.YtbbicappjicblaaGreatDoor.own_ge h.own0 k hk).1; omega
 ·have := (Go.Proofs.YtbbicappjicblaaGreatDoor.own_ge h.own1 k hk).1; omega
theorem GivR.setR {w w' : World} {B : Nat} {v0 v1 : Value} {es : List Ent} {rs : Nat → Value} (h : GivR w B v0 v1 es rs) {R : Nat} {b : Bool} (hR : w.cell? ⟨R, 0, none⟩ = some (.bool b)) (hc : Chg (fun j => j = R) w w') (hO : ¬ Own B v0 v1 R) : GivR w' B v0 v1 es rs :=
 h.chg hc (fun e => hO (by rw [← e]; exact .inl rfl)) (fun k hk e => hO (by rw [← e]; exact .inr (.inl hk))) (fun k hk e => hO (by rw [← e]; exact .inr (.inr hk))) (fun e he => (h.ents e he).ne hR)

structure GrPost (w w' : World) (B : Nat) (v0 v1 v0' v1' : Value) (es : List Ent) (rs : Nat → Value) (x y : List Nat) (E1 E2 : Ent) : Prop where
 x1 : E1.xs = x
 x2 : E2.xs = y
 n1 : w.heap.size ≤ E1.b ∧ w.heap.size ≤ E1.b0
 n2 : w.heap.size ≤ E2.b ∧ w.heap.size ≤ E2.b0
 giv : GivR w' B v0' v1' (es ++ [E1] ++ [E2]) rs
 chg : Chg (Own B v0 v1) w w'
 safe : ∀ k, k < w.heap.size → ¬ Own B v0 v1 k → ¬ Own B v0' v1' k

set_option maxRecDepth 100000 in
set_option maxHeartbeats 16000000 in
theorem gratR_any (B : Nat) (v0 v1 : Value) (es : List Ent) (rs : Nat → Value) (g1 : Bool) (a : Option Addr) (n c : Nat) (x : List Nat) (b : Option Addr) (m d : Nat) (y : List Nat) (w : World) (h : GivR w B v0 v1 es rs) (hx : Sl w a n c x) (hy : Sl w b m d y) (lo : ∀ z, b = some z → y ≠ [] → z.block < B) (hn : n ≤ 35184372088000) (hm : m ≤ 35184372088000) (he : es.length ≤ 5700000000000) :
  Calls Tryz.prog 20 #[.pointer (some ⟨B, 0, none⟩), ratV g1 a n c b m d] w fun e w' => ∃ v, e = .returned v ∧ ∃ v0' v1' E1 E2, v = ratV g1 (some ⟨Ent.b E1, 0, none⟩) n E1.c (some ⟨Ent.b E2, 0, none⟩) m E2.c ∧ GrPost w w' B v0 v1 v0' v1' es rs x y E1 E2 := by
 have bx := Box.made w g1 a n c b m d
 obtain ⟨wa, hwa⟩ : ∃ wa, ratBox w g1 a n c b m d = wa := ⟨_, rfl⟩
 rw [hwa] at bx
 unfold ratBox at hwa
 have hba := bx.bel
 obtain ⟨wo, hwo⟩ : ∃ x, wa.alloc (.cells #[.bool false, .slice none 0 0, .slice none 0 0] 71) = x := ⟨_, rfl⟩
 have hbo : Below wa.heap.size wa wo := by rw [← hwo]; exact (Below.refl _ _).alloc (Nat.le_refl _) _
 have hT : Tri wo wa.heap.size (.bool false) (.slice none 0 0) (.slice none 0 0) := by rw [← hwo]; exact Tri.made _ _ _ _ _
 have bx2 := bx.keep hbo
 have hB := hba.trans (hbo.mono hba.size)
 have hO := h.below hB
 have p0 := bx2.d0
 have p1 := bx2.d1
 have p2 := bx2.d2
 have hlt := bx.lt
 have hlt2 : wa.heap.size < wo.heap.size := hT.lt
 have hnb : ¬ Own B v0 v1 w.heap.size := fun ho => by have := h.own_lt ho; omega
 have hnr : ¬ Own B v0 v1 wa.heap.size := fun ho => by have := h.own_lt ho; omega
 have HK1 := hide (fun (W : World) (hb : Below wo.heap.size wo W) => gnatR_any B v0 v1 es rs a n c x W (hO.below hb) ((hx.below hB).below hb) hn (by omega))
 have HY := hide (And.intro (hy.below hB) (fun z hz hne ho => by have := h.own_ge ho; have := lo z hz hne; omega : ∀ z, b = some z → y ≠ [] → ¬ Own B v0 v1 z.block))
 have hne1 : w.heap.size ≠ wa.heap.size := by omega
 have hne3 : wa.heap.size ≠ w.heap.size := by omega
 have HW := hide (And.intro hB.size (And.intro hnb (And.intro hnr (And.intro hlt hlt2))))
 have HT := hide hT
 have HCB := hide (show Chg (Own B v0 v1) w wo from Chg.of_below hB)
 have HE := hide he
 clear bx bx2 hba hbo hB hnb hnr hT hO h hx hy lo he
 unfold ratV
 go_enter Tryz.func20, Tryz.ntmps20
 go_wp2_with fail
 go_region_held3 (fun w' => w'.cell? ⟨w.heap.size, 0, none⟩ = some (.bool g1) ∧ w'.cell? ⟨w.heap.size, 1, none⟩ = some (.slice a n c) ∧ w'.cell? ⟨w.heap.size, 2, none⟩ = some (.slice b m d)) (first | go_keep | (exact ⟨k0, k1, k2⟩) | (exact ⟨j0, j1, j2⟩))
  (first
   | (go_at_call_of 45 (Value.slice a n c); refine (unhide HK1 _ (Below.refl _ _).drew).mono ?_; rintro _ wk ⟨u0, u1, E1, rfl, hx1, hE1, hL1, hc1, hs1⟩; have hcd : Chg (Own B v0 v1) wo wk := (Chg.of_drew wo).trans hc1; have k0 := hcd.cell (unhide HW).2.1 p0; have k1 := hcd.cell (unhide HW).2.1 p1; have k2 := hcd.cell (unhide HW).2.1 p2; have hT1 : Tri wk wa.heap.size (.bool false) (.slice none 0 0) (.slice none 0 0) := (unhide HT).chgW hcd (unhide HW).2.2.1; have HS1 := hide (And.intro hL1 (And.intro (And.intro hx1 (show wo.heap.size ≤ E1.b ∧ wo.heap.size ≤ E1.b0 from hE1)) (And.intro (hs1 w.heap.size (by have := (unhide HW).2.2.2; simp; omega) (unhide HW).2.1) (And.intro (hs1 wa.heap.size (by have := (unhide HW).2.2.2; simp; omega) (unhide HW).2.2.1) (And.intro hT1 (And.intro hcd.size ((unhide HY).1.chg hcd (unhide HY).2))))))); have HC1 := hide (And.intro hcd hs1); clear hL1 hx1 hE1 hc1 hs1 hcd hT1)
   | (go_at_call_of 45 (Value.slice b m d); refine (gnatR_any B u0 u1 (es ++ [E1]) rs b m d y _ (unhide HS1).1 (unhide HS1).2.2.2.2.2.2 hm (by have := unhide HE; simp; omega)).mono ?_; rintro _ wj ⟨z0, z1, E2, rfl, hx2, hE2, hL2, hc2, hs2⟩; have j0 := hc2.cell (unhide HS1).2.2.1 k0; have j1 := hc2.cell (unhide HS1).2.2.1 k1; have j2 := hc2.cell (unhide HS1).2.2.1 k2; have hT2 : Tri wj wa.heap.size (.bool false) (.slice none 0 0) (.slice none 0 0) := (unhide HS1).2.2.2.2.1.chgW hc2 (unhide HS1).2.2.2.1; have HO3 := hide hT2; have q0 := hT2.c0; have q1 := hT2.c1; have q2 := hT2.c2; have r0 := hT2.f0; have r1 := hT2.f1; have r2 := hT2.f2; have HS2 := hide (And.intro hL2 (And.intro (unhide HS1).2.1 (And.intro (And.intro hx2 (show wo.heap.size ≤ E2.b ∧ wo.heap.size ≤ E2.b0 from ⟨Nat.le_trans (unhide HS1).2.2.2.2.2.1 hE2.1, Nat.le_trans (unhide HS1).2.2.2.2.2.1 hE2.2⟩)) (hs2 wa.heap.size (unhide HS1).2.2.2.2.1.lt (unhide HS1).2.2.2.1)))); have HC2 := hide (And.intro hc2 hs2); clear hL2 hx2 hE2 hc2 hs2 hT2))
 have H4 := hide (three_set wj wa.heap.size (.bool g1) (.slice (some ⟨E1.b, 0, none⟩) n E1.c) (.slice (some ⟨E2.b, 0, none⟩) m E2.c) (unhide HO3).out.cells)
 clear q0 q1 q2 r0 r1 r2
 try go_wp2_with fail
 obtain ⟨t0, t1, t2, c4⟩ := unhide H4
 generalize ((wj.setCell ⟨wa.heap.size, 0, none⟩ (.bool g1)).setCell ⟨wa.heap.size, 1, none⟩ (.slice (some ⟨E1.b, 0, none⟩) n E1.c)).setCell ⟨wa.heap.size, 2, none⟩ (.slice (some ⟨E2.b, 0, none⟩) m E2.c) = wf at *
 refine bodyPost_ret (by simp [results, Tryz.results20, go_sem, t0, t1, t2]; try rfl) rfl ?_
 obtain ⟨hL2, ⟨hX1, hE1⟩, ⟨hX2, hE2⟩, hNR⟩ := unhide HS2
 refine ⟨_, rfl, _, _, E1, E2, rfl, ⟨hX1, hX2, ?_, ?_, hL2.setR (unhide HO3).c0 c4 hNR, ?_, ?_⟩⟩
 ·have := (unhide HW).1; omega
 ·have := (unhide HW).1; omega
 ·have hB := unhide HCB
  have hcd := (unhide HC1).1
  have hc2 := (unhide HC2).1
  refine ⟨c4.os.trans (hc2.os.trans (hcd.os.trans hB.os)), c4.tape.trans (hc2.tape.trans (hcd.tape.trans hB.tape)), c4.output.trans (hc2.output.trans (hcd.output.trans hB.output)), Nat.le_trans hB.size (Nat.le_trans hcd.size (Nat.le_trans hc2.size c4.size)), fun k hk hS => ?_⟩
  have k1 : k < wo.heap.size := Nat.lt_of_lt_of_le hk hB.size
  have k2 : k < wk.heap.size := Nat.lt_of_lt_of_le k1 hcd.size
  have k3 : k < wj.heap.size := Nat.lt_of_lt_of_le k2 hc2.size
  rw [c4.block k k3 (fun e => by have := (unhide HW).2.2.2.1; omega), hc2.block k k2 ((unhide HC1).2 k k1 hS), hcd.block k k1 hS, hB.block k hk hS]
 ·intro k hk hS
  have k1 : k < wo.heap.size := Nat.lt_of_lt_of_le hk (unhide HCB).size
  exact (unhide HC2).2 k (Nat.lt_of_lt_of_le k1 (unhide HC1).1.size) ((unhide HC1).2 k k1 hS)
end Go.Proofs.YtbbicappjicblaaGreatDoor
