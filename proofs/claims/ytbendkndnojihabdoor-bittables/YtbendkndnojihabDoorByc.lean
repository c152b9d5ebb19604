/-
  bitset.Firsts: its contract.
-/
import Derived.Test.YtbendkndnojihabDoorBya
import Derived.Test.YtbendkndnojihabDoorBxe
import Derived.Test.YtbendkndnojihabDoorBza
import Derived.Maps.OwnSet
namespace Go.Proofs.YtbendkndnojihabDoor
open Go.RowKit Go.Deep Go.Maps
set_option linter.unusedVariables false

/-- The first of those ahead of i, the last d of them, that are as i is. -/
def frF (xf : Nat → List Nat) (i : Nat) : Nat → Nat
  | 0 => i
  | d + 1 => if xf (i - (d + 1)) = xf i then i - (d + 1) else frF xf i d
def firstI (xf : Nat → List Nat) (i : Nat) : Nat := frF xf i i
theorem frF_spec (xf : Nat → List Nat) (i : Nat) : ∀ d, d ≤ i → xf (frF xf i d) = xf i ∧ frF xf i d ≤ i ∧ i - d ≤ frF xf i d ∧ ∀ l, i - d ≤ l → l < frF xf i d → xf l ≠ xf i
  | 0, _ => ⟨rfl, Nat.le_refl _, by simp [frF], fun l h1 h2 => by simp [frF] at h2; omega⟩
  | d + 1, hd => by
    unfold frF
    by_cases c : xf (i - (d + 1)) = xf i
    · rw [if_pos c]
      exact ⟨c, by omega, Nat.le_refl _, fun l h1 h2 => by omega⟩
    · rw [if_neg c]
      obtain ⟨h1, h2, h3, h4⟩ := frF_spec xf i d (by omega)
      refine ⟨h1, h2, by omega, fun l h5 h6 => ?_⟩
      by_cases e : l = i - (d + 1)
      · rw [e]; exact c
      · exact h4 l (by omega) h6
theorem firstI_spec (xf : Nat → List Nat) (i : Nat) : xf (firstI xf i) = xf i ∧ firstI xf i ≤ i ∧ ∀ l, l < firstI xf i → xf l ≠ xf i := by
  obtain ⟨h1, h2, h3, h4⟩ := frF_spec xf i i (Nat.le_refl _)
  exact ⟨h1, h2, fun l hl => h4 l (by omega) hl⟩
theorem firstI_unique {xf : Nat → List Nat} {i m : Nat} (h1 : xf m = xf i) (h3 : ∀ l, l < m → xf l ≠ xf i) : firstI xf i = m := by
  obtain ⟨s1, s2, s3⟩ := firstI_spec xf i
  rcases Nat.lt_trichotomy (firstI xf i) m with c | c | c
  · exact absurd s1 (h3 _ c)
  · exact c
  · exact absurd h1 (s3 _ c)
theorem firstI_seen {xf : Nat → List Nat} {i j : Nat} (h : xf j = xf i) : firstI xf i = firstI xf j := by
  obtain ⟨s1, s2, s3⟩ := firstI_spec xf j
  exact firstI_unique (s1.trans h) (fun l hl => by rw [← h]; exact s3 l hl)
theorem firstI_new {xf : Nat → List Nat} {i : Nat} (h : ∀ l, l < i → xf l ≠ xf i) : firstI xf i = i := firstI_unique rfl h
/-- What a set's words are in the map. -/
def klW (xs : List Nat) : Lit := .string (strN (keyL xs)).data.toList
theorem klW_inj {xs ys : List Nat} (hx : OkW xs) (hy : OkW ys) (h : klW xs = klW ys) : xs = ys := by
  unfold klW at h
  injection h with h1
  refine keyL_inj hx hy (strN_inj (keyL_lt xs) (keyL_lt ys) ?_)
  have e : (strN (keyL xs)).data = (strN (keyL ys)).data := by
    have := congrArg List.toArray h1
    simpa using this
  cases h2 : strN (keyL xs)
  cases h3 : strN (keyL ys)
  rw [h2, h3] at e
  simp only at e
  rw [e]
/-- What the map knows behind k sets. -/
structure MI (D : DataW Unit) (xf : Nat → List Nat) (k : Nat) : Prop where
  map : IsMap D
  yes : ∀ j, j < k → Maps.has D (klW (xf j)) = true ∧ D.atKey (klW (xf j)) (.lit (.int .i64 0)) = .lit (.int .i64 ((firstI xf j : Nat) : Int))
  no : ∀ y, OkW y → (∀ j, j < k → xf j ≠ y) → Maps.has D (klW y) = false
theorem MI.start (xf : Nat → List Nat) : MI (.map []) xf 0 := ⟨⟨_, rfl⟩, fun j hj => by omega, fun y _ _ => rfl⟩
theorem MI.seen {D : DataW Unit} {xf : Nat → List Nat} {k j : Nat} (h : MI D xf k) (hj : j < k) (e : xf j = xf k) : MI D xf (k + 1) := by
  refine ⟨h.map, fun i hi => ?_, fun y hy hn => h.no y hy (fun i hi => hn i (by omega))⟩
  by_cases c : i = k
  · subst c
    have := h.yes j hj
    rw [e, ← firstI_seen e] at this
    exact this
  · exact h.yes i (by omega)
theorem MI.new {D : DataW Unit} {xf : Nat → List Nat} {k : Nat} (h : MI D xf k) (ho : ∀ j, j ≤ k → OkW (xf j)) (hn : ∀ j, j < k → xf j ≠ xf k) (hk : WideAt.IsKeyLit (klW (xf k))) : MI (D.put (klW (xf k)) (.lit (.int .i64 (k : Int)))) xf (k + 1) := by
  have im : IsMap (D.put (klW (xf k)) (.lit (.int .i64 (k : Int)))) := by
    obtain ⟨es, rfl⟩ := h.map
    exact ⟨_, rfl⟩
  refine ⟨im, fun i hi => ?_, fun y hy hne => ?_⟩
  · by_cases c : i = k
    · subst c
      rw [has_put_same h.map hk, atKey_put_same h.map hk, firstI_new hn]
      exact ⟨rfl, rfl⟩
    · have hik : klW (xf i) ≠ klW (xf k) := fun e => hn i (by omega) (klW_inj (ho i (by omega)) (ho k (Nat.le_refl _)) e)
      rw [has_put_other hik, atKey_put_other hik]
      exact h.yes i (by omega)
  · have hyk : klW y ≠ klW (xf k) := fun e => hne k (by omega) (klW_inj hy (ho k (Nat.le_refl _)) e).symm
    rw [has_put_other hyk]
    exact h.no y hy (fun j hj => hne j (by omega))
theorem law_str : Keyed Tryd.prog 9 := string_keyed Tryd.underlying9
theorem zero_int (w : World) : (zeroValue 3).run Tryd.prog w = .ok (.int .i64 0) w := by kernel_rfl
theorem ownsMap_below {H : Type} {w w' : World} {P : Program} {k : TypeId} {R : Value → Option (DataW H × List MemPlace)} {b n : Nat} {D : DataW H} (h : w.ownsMap P k R b n D) (hb : Below w.heap.size w w') : w'.ownsMap P k R b n D := by
  have hlt := h.lt
  obtain ⟨es, clock, h1, r⟩ := h
  exact ⟨es, clock, by rw [hb.block b hlt]; exact h1, r⟩
theorem klW_key (xs : List Nat) (h : xs.length ≤ 64) : keyOf Tryd.prog 9 (.string (strN (keyL xs))) = some (klW xs) :=
  Go.WideMaps.keyOf_string_mk Tryd.underlying9 (by unfold strN; rw [strL_size, List.length_map, keyL_len]; unfold maxLen; omega)
theorem klW_lit (xs : List Nat) : WideAt.IsKeyLit (klW xs) := by first | trivial | exact rfl | exact True.intro
end Go.Proofs.YtbendkndnojihabDoor

namespace Go.Proofs.YtbendkndnojihabDoor
open Go.RowKit Go.Deep Go.Maps
set_option linter.unusedVariables false

/-- The words of a table's sets. -/
def xfL (L : List SetC) (i : Nat) : List Nat := (L.getD i .nul).xs
theorem FnI.chg {S : Nat → Prop} {w w' : World} {b n : Nat} {g : Nat → Int} (h : FnI w b 0 n g) (hc : Chg S w w') (hb : b < w.heap.size) (hs : ¬ S b) : FnI w' b 0 n g :=
  fun i hi => ⟨hc.cell hs (h i hi).1, by rw [hc.froz hb hs]; exact (h i hi).2⟩
structure FsI (w wr : World) (B n k : Nat) (xf : Nat → List Nat) (D : DataW Unit) : Prop where
  own : wr.ownsMap Tryd.prog 9 (plainElem Tryd.prog 3) B k D
  mi : MI D xf k
  row : FnI wr (B + 1) 0 n (fun x => if x < k then ((firstI xf x : Nat) : Int) else 0)
  bel : Below w.heap.size w wr
  lt : B + 1 < wr.heap.size
theorem FsI.below {w wr w2 : World} {B n k : Nat} {xf : Nat → List Nat} {D : DataW Unit} (h : FsI w wr B n k xf D) (hb : Below wr.heap.size wr w2) : FsI w w2 B n k xf D :=
  ⟨ownsMap_below h.own hb, h.mi, h.row.below hb, h.bel.trans (hb.mono h.bel.size), Nat.lt_of_lt_of_le h.lt hb.size⟩
/-- The answer's place is written. -/
theorem FsI.fill {w w1 : World} {B n k : Nat} {xf : Nat → List Nat} {D : DataW Unit} {m : Nat} (hB : w.heap.size ≤ B) (hown : w1.ownsMap Tryd.prog 9 (plainElem Tryd.prog 3) B (k + 1) D) (hmi : MI D xf (k + 1)) (hrow : FnI w1 (B + 1) 0 n (fun x => if x < k then ((firstI xf x : Nat) : Int) else 0)) (hbel : Below w.heap.size w w1) (hlt : B + 1 < w1.heap.size) (hk : k < n) (hm : m = firstI xf k) :
    FsI w (w1.setCell ⟨B + 1, k, none⟩ (.int .i64 (m : Int))) B n (k + 1) xf D := by
  refine ⟨hown.setCell (by show B ≠ B + 1; omega) _, hmi, ?_, hbel.setCell (p := ⟨B + 1, k, none⟩) (by show w.heap.size ≤ B + 1; omega) _, by simpa using hlt⟩
  have := hrow.set k (m : Int) hk
  rw [Nat.zero_add] at this
  refine this.congr (fun x hx => ?_)
  by_cases c : x = k
  · subst c; simp [hm]
  · by_cases d : x < k
    · simp [c, d, show x < k + 1 from by omega]
    · simp [c, d, show ¬ x < k + 1 from by omega]

theorem lit_int {x y : Int} (h : (DataW.lit (.int .i64 x) : DataW Unit) = .lit (.int .i64 y)) : x = y := by
  injection h with h1
  injection h1 with _ h2

set_option maxHeartbeats 8000000 in
set_option maxRecDepth 100000 in
/-- bitset.Firsts. -/
theorem firsts_good (sz n : Nat) (a : Option Addr) (c : Nat) (L : List SetC) (P : Nat → Nat → Bool) (w : World) (h : SlS w a n c L) (g : GoodT sz n L P) :
    Calls Tryd.prog 27 #[setV sz a n c] w fun r w' => ResI w w' ((List.range n).map (fun i => ((firstI (xfL L) i : Nat) : Int)), 0) r := by
  have hle := h.le
  have hcap := h.cap
  unfold maxLen at hcap
  have hn := g.hn
  have hz4 := g.hs
  obtain ⟨wa, hwa⟩ : ∃ x, w.alloc (.cells #[.int .i64 (sz : Int), .slice a n c] 24) = x := ⟨_, rfl⟩
  have ba : Below w.heap.size w wa := by rw [← hwa]; exact (Below.refl _ _).alloc (Nat.le_refl _) _
  have la : w.heap.size < wa.heap.size := by rw [← hwa]; simp
  have A0 : Two wa w.heap.size (.int .i64 (sz : Int)) (.slice a n c) := by rw [← hwa]; exact Two.made _ _ _ _
  have K := mayT_any sz a n c L wa (h.below ba)
  rw [g.may] at K
  have HA := hide (And.intro A0 ba)
  have a0 := A0.c0
  have a1 := A0.c1
  have HG := hide g
  have HSl := hide h
  have hmm := @run_makeMap Tryd.prog
  have hmi := make_ints n (by omega)
  unfold setV at K ⊢
  have HK := hide K
  clear A0 h ba K g
  go_enter Tryd.func27, Tryd.ntmps27
  go_wp2_with fail
  refine (unhide HK).mono ?_
  rintro _ wd ⟨rfl, hbd⟩
  have A1 := (unhide HA).1.keep hbd
  have hB1 := (unhide HA).2.trans (hbd.mono (unhide HA).2.size)
  clear a0 a1
  have b0 := A1.c0
  have b1 := A1.c1
  have b2 := below_cell ((Below.refl wd.heap.size wd).alloc (Nat.le_refl _) (.map #[] 0)) b1
  have b3 := below_cell ((Below.refl (wd.alloc (.map #[] 0)).heap.size (wd.alloc (.map #[] 0))).alloc (Nat.le_refl _) (.cells (madeCells #[.int .i64 0] n) 3)) b2
  have hbm : Below wd.heap.size wd ((wd.alloc (.map #[] 0)).alloc (.cells (madeCells #[.int .i64 0] n) 3)) := ((Below.refl wd.heap.size wd).alloc (Nat.le_refl _) _).alloc (by simp) _
  have HI0 := hide (show FsI w ((wd.alloc (.map #[] 0)).alloc (.cells (madeCells #[.int .i64 0] n) 3)) wd.heap.size n 0 (xfL L) (.map []) from
    ⟨(World.ownsMap_made _ _ _ _).alloc _, MI.start _, by
      have r : FnI ((wd.alloc (.map #[] 0)).alloc (.cells (madeCells #[.int .i64 0] n) 3)) (wd.alloc (.map #[] 0)).heap.size 0 n (fun _ => 0) := FnG.made (wd.alloc (.map #[] 0)) n 3 (0 : Int) rfl
      rw [show (wd.alloc (.map #[] 0)).heap.size = wd.heap.size + 1 from by simp] at r
      exact r.congr (fun x _ => by simp), hB1.trans (hbm.mono hB1.size), by simp⟩)
  have hwd : w.heap.size ≤ wd.heap.size := hB1.size
  clear A1 hB1 hbd HA HK hwa hbm
  go_wp2_with fail
  clear b0 b1 b2 b3 hmm hmi
  generalize (wd.alloc (.map #[] 0)).alloc (.cells (madeCells #[.int .i64 0] n) 3) = wm at *
  generalize wd.heap.size = B at *
  go_loopw [22, 6, 7, 8, 9, 10] (fun i _ _ _ _ _ wr => ∃ (k : Nat) (D : DataW Unit), k ≤ n ∧ i = .int .i64 k ∧ FsI w wr B n k (xfL L) D) (fun i _ _ _ _ _ _ => n - (intOf i).toNat)
  case atStart => exact ⟨0, _, Nat.zero_le _, rfl, unhide HI0⟩
  case round =>
    obtain ⟨k, D, hk, rfl, hst⟩ := hrel
    by_cases hlt : k < n
    · have hlt' : (k : Int) < (n : Int) := by omega
      obtain ⟨b, off, rfl, hcells⟩ := (unhide HSl).at (by omega)
      have g1 := below_cell hst.bel (hcells k hlt).1
      have g2 := below_cell hst.bel (hcells k hlt).2
      have i1 := (unhide HSl).get k hlt
      have hlen : (xfL L k).length ≤ 64 := by
        unfold xfL
        rw [((unhide HG).get k hlt).2, wordsL_len]
        unfold nW
        omega
      have ho : ∀ j, j ≤ k → OkW (xfL L j) := fun j hj => ((unhide HSl).get j (by omega)).2
      have hxe : (L.getD k .nul).xs = xfL L k := rfl
      generalize L.getD k .nul = x1 at *
      obtain ⟨s1, ea1, en1, ec1, ex1⟩ := x1
      simp only at g1 g2 hxe
      subst hxe
      have hen : en1 ≤ 64 := by have := i1.1.len; simp only at this; omega
      obtain ⟨ws, hws⟩ : ∃ y, wr.alloc (.cells #[.int .i64 s1, .slice ea1 en1 ec1] 35) = y := ⟨_, rfl⟩
      have hbs : Below wr.heap.size wr ws := by rw [← hws]; exact (Below.refl wr.heap.size wr).alloc (Nat.le_refl _) _
      have tS : Two ws wr.heap.size (.int .i64 s1) (.slice ea1 en1 ec1) := by rw [← hws]; exact Two.made _ _ _ _
      have s1' := tS.c1
      have hst1 := hst.below hbs
      have K := key_any ea1 en1 ec1 (xfL L k) ws (i1.1.below hst1.bel) i1.2 hen
      have HK := hide K
      have HS := hide hst1
      have HKy := hide (klW_key (xfL L k) hlen)
      have HO := hide ho
      clear K hst hst1 hbs tS hcells i1 ho
      by_cases hs : ∃ j, j < k ∧ xfL L j = xfL L k
      · obtain ⟨j, hj, hjk⟩ := hs
        have HHas := hide ((unhide HS).mi.yes j hj)
        rw [hjk, ← firstI_seen hjk] at HHas
        have HMi := hide ((unhide HS).mi.seen hj hjk)
        have hhas : Maps.has D (klW (xfL L k)) = true := (unhide HHas).1
        obtain ⟨m, hm⟩ : ∃ m, firstI (xfL L) k = m := ⟨_, rfl⟩
        rw [hm] at HHas
        have HM := hide hm.symm
        clear hj hjk hm
        go_wp2_with fail
        refine (unhide HK).mono ?_
        rintro _ w2 ⟨rfl, hb2⟩
        have hst2 := (unhide HS).below hb2
        have z1 := (hst2.row k hlt).1
        have z2 := (hst2.row k hlt).2
        rw [Nat.zero_add] at z1 z2
        simp only [Nat.lt_irrefl, if_false] at z1
        unfold vI at z1
        have HS2 := hide hst2
        clear hb2 hst2 HK s1' g1 g2 hws
        go_wp2_with (at_lookup; refine wpList_lookup_own_ok_int _ rfl _ _ 88 rfl 9 3 .i64 law_str Tryd.underlying88 Tryd.underlying3 (zero_int _) B k D rfl (unhide HS2).own _ _ rfl (unhide HKy) ?_; intro c hat hwc; have hc := lit_int ((unhide HHas).2.symm.trans hat); subst hc; clear hat hwc)
        exact ⟨⟨k + 1, D, by omega, by go_num, FsI.fill hwd ((unhide HS2).own.mono (Nat.le_succ _)) (unhide HMi) (unhide HS2).row (unhide HS2).bel (unhide HS2).lt hlt (unhide HM)⟩, by simp [intOf]; omega⟩
      · have hnew : ∀ j, j < k → xfL L j ≠ xfL L k := fun j hj e => hs ⟨j, hj, e⟩
        have hhas : Maps.has D (klW (xfL L k)) = false := (unhide HS).mi.no _ (unhide HO k (Nat.le_refl _)) hnew
        have HMi := hide ((unhide HS).mi.new (unhide HO) hnew (klW_lit _))
        have HM := hide (firstI_new hnew).symm
        clear hs hnew
        go_wp2_with fail
        refine (unhide HK).mono ?_
        rintro _ w2 ⟨rfl, hb2⟩
        have hst2 := (unhide HS).below hb2
        have HS2 := hide hst2
        clear hb2 hst2 HK s1' g1 g2 hws
        go_wp2_with (first
          | (at_lookup; refine wpList_lookup_own_ok_int _ rfl _ _ 88 rfl 9 3 .i64 law_str Tryd.underlying88 Tryd.underlying3 (zero_int _) B k D rfl (unhide HS2).own _ _ rfl (unhide HKy) ?_; intro c hat hwc; clear hat hwc)
          | (at_mapUpdate; refine wpList_mapUpdate_own _ rfl _ _ _ 88 rfl 9 3 law_str Tryd.underlying88 (plainElem Tryd.prog 3) B k D rfl (unhide HS2).own (by unfold maxLen; omega) _ _ _ rfl rfl (unhide HKy) _ [] (plainElem_int Tryd.underlying3 (WalkArith.wf_i64 (by omega))) ?_; intro w3 hown3 hgrow3; have r3 := FnI.chg (unhide HS2).row (chg_grown hgrow3) (unhide HS2).lt (by simp); have z1 := (r3 k hlt).1; have z2 := (r3 k hlt).2; rw [Nat.zero_add] at z1 z2; simp only [Nat.lt_irrefl, if_false] at z1; unfold vI at z1; have HS3 := hide (And.intro hown3 (And.intro r3 (And.intro ((unhide HS2).bel.grown hgrow3 (unhide HS2).bel.size (fun j hj => by cases hj; exact hwd)) (Nat.lt_of_lt_of_le (unhide HS2).lt hgrow3.size)))); clear hown3 hgrow3 r3))
        exact ⟨⟨k + 1, _, by omega, by go_num, FsI.fill hwd (unhide HS3).1 (unhide HMi) (unhide HS3).2.1 (unhide HS3).2.2.1 (unhide HS3).2.2.2 hlt (unhide HM)⟩, by simp [intOf]; omega⟩
    · have hlt' : ¬ (k : Int) < (n : Int) := by omega
      obtain rfl : n = k := by omega
      have hr : FnI wr (B + 1) 0 n (fun x => ((firstI (xfL L) x : Nat) : Int)) := hst.row.congr (fun x hx => by simp [hx])
      have HSL := hide (And.intro (hr.sl (d := 0) (Nat.le_refl _) (by unfold maxLen; omega)) hst.bel)
      clear hst hr
      go_wp2_with fail
      refine bodyPost_ret (by simp [results, Tryd.results27, go_sem]; try rfl) rfl ?_
      exact ⟨_, _, _, rfl, (unhide HSL).1, (unhide HSL).2⟩
end Go.Proofs.YtbendkndnojihabDoor
