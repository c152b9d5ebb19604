/-
  COLOURS: sloperef12.Classes: contracts.
-/
import Derived.Test.YtkbcmnjgkmkeaaaGreatChj
namespace Go.Proofs.YtkbcmnjgkmkeaaaGreat
open Go.RowKit Go.Deep
set_option linter.unusedVariables false

/-- Lists of whole numbers that grow, in a list that grows. -/
structure LgI (W : World) (t : Nat) (lv : Value) (vs : List Value) (xs : Nat → List Int) : Prop where
  row : W.ownsRow t 22 1 lv vs.length vs
  own : ∀ r, r < vs.length → W.ownsRow t 3 1 (vs.getD r (.slice none 0 0)) (xs r).length (valsI (xs r))
  apart : ∀ r s, r < vs.length → s < vs.length → r ≠ s → ∀ g, (vs.getD r (.slice none 0 0)).ownBlock = some g → (vs.getD s (.slice none 0 0)).ownBlock ≠ some g
theorem LgI.congr {W : World} {t : Nat} {lv : Value} {vs : List Value} {xs ys : Nat → List Int} (h : LgI W t lv vs xs) (e : ∀ r, r < vs.length → xs r = ys r) : LgI W t lv vs ys := ⟨h.row, fun r hr => by rw [← e r hr]; exact h.own r hr, h.apart⟩
theorem LgI.below {W W' : World} {t : Nat} {lv : Value} {vs : List Value} {xs : Nat → List Int} (h : LgI W t lv vs xs) (k : Below W.heap.size W W') : LgI W' t lv vs xs :=
  ⟨ownsRow_chg (S := fun _ => False) h.row (Chg.of_below k) (fun _ _ x => x), fun r hr => ownsRow_chg (S := fun _ => False) (h.own r hr) (Chg.of_below k) (fun _ _ x => x), h.apart⟩
/-- A row's block holds lists: none of these lies there. -/
theorem LgI.neL {W : World} {t : Nat} {lv : Value} {vs : List Value} {xs : Nat → List Int} (h : LgI W t lv vs xs) {r : Nat} (hr : r < vs.length) : (vs.getD r (.slice none 0 0)).ownBlock = none ∨ (vs.getD r (.slice none 0 0)).ownBlock ≠ lv.ownBlock := by
  rcases h.row.2 with ⟨e, _⟩ | ⟨g, cap, cur, e, _, hg, _⟩
  · cases hb : (vs.getD r (.slice none 0 0)).ownBlock with
    | none => exact .inl rfl
    | some j => right; rw [e]; simp [Value.ownBlock]
  · right
    rw [e]
    exact own_neB (h.own r hr) hg (by decide)
theorem LgI.more {W W3 : World} {t : Nat} {lv : Value} {vs : List Value} {xs : Nat → List Int} {lv3 : Value} (h : LgI W t lv vs xs) (o : Obj) (hown : W3.ownsRow t 22 1 lv3 (vs.length + 1) (vs ++ [.slice none 0 0])) (hg : (W.alloc o).grownBy W3 lv.ownBlock) (hx : xs vs.length = []) : LgI W3 t lv3 (vs ++ [.slice none 0 0]) xs := by
  have hget : ∀ r, r < vs.length → (vs ++ [Value.slice none 0 0]).getD r (.slice none 0 0) = vs.getD r (.slice none 0 0) := fun r hr => by simp [List.getD, List.getElem?_append_left hr]
  have hlast : (vs ++ [Value.slice none 0 0]).getD vs.length (.slice none 0 0) = .slice none 0 0 := by simp [List.getD]
  refine ⟨by simpa using hown, fun r hr => ?_, fun r s hr hs hne g hr1 hs1 => ?_⟩
  · by_cases e : r = vs.length
    · subst e
      rw [hlast, hx]
      exact World.ownsRow_nil _ _ _ _
    · have hr' : r < vs.length := by simp at hr; omega
      rw [hget r hr']
      exact ((h.own r hr').alloc o).kept hg (h.neL hr')
  · by_cases e : r = vs.length
    · subst e
      rw [hlast] at hr1
      simp [Value.ownBlock] at hr1
    · by_cases e2 : s = vs.length
      · subst e2
        rw [hlast] at hs1
        simp [Value.ownBlock] at hs1
      · have hr' : r < vs.length := by simp at hr; omega
        have hs' : s < vs.length := by simp at hs; omega
        rw [hget r hr'] at hr1
        rw [hget s hs'] at hs1
        exact h.apart r s hr' hs' hne g hr1 hs1
theorem LgI.app {W W3 : World} {t k G cp : Nat} {vs : List Value} {xs : Nat → List Int} {x : Int} {g cap : Nat} (h : LgI W t (.slice (some ⟨G, 0, none⟩) vs.length cp) vs xs) (hk : k < vs.length) (o : Obj) (hown : W3.ownsRow t 3 1 (.slice (some ⟨g, 0, none⟩) ((xs k).length + 1) cap) ((xs k).length + 1) (valsI (xs k) ++ [.int .i64 x])) (hg : (W.alloc o).grownBy W3 (vs.getD k (.slice none 0 0)).ownBlock) (hat : (vs.getD k (.slice none 0 0)).ownBlock = some g ∨ g = W.heap.size + 1) :
    LgI (W3.setCell ⟨G, k, none⟩ (.slice (some ⟨g, 0, none⟩) ((xs k).length + 1) cap)) t (.slice (some ⟨G, 0, none⟩) vs.length cp) (vs.set k (.slice (some ⟨g, 0, none⟩) ((xs k).length + 1) cap)) (fun r => if r = k then xs k ++ [x] else xs r) := by
  have hgk : (vs.set k (.slice (some ⟨g, 0, none⟩) ((xs k).length + 1) cap)).getD k (.slice none 0 0) = .slice (some ⟨g, 0, none⟩) ((xs k).length + 1) cap := by simp [List.getD, hk]
  have hgo : ∀ r, r ≠ k → (vs.set k (.slice (some ⟨g, 0, none⟩) ((xs k).length + 1) cap)).getD r (.slice none 0 0) = vs.getD r (.slice none 0 0) := fun r hr => by simp [List.getD, List.getElem?_set_ne (fun e => hr e.symm)]
  have hrow3 : W3.ownsRow t 22 1 (.slice (some ⟨G, 0, none⟩) vs.length cp) vs.length vs := (h.row.alloc o).kept hg (.inr (by
    intro e
    rcases h.neL hk with c | c
    · rw [c] at e; simp [Value.ownBlock] at e
    · exact c e.symm))
  obtain ⟨G', _, cur, e, _, hG, _⟩ := hrow3.2.resolve_left (fun e => by have := e.2; omega)
  have eG : G' = G := by injection e with e1; injection e1 with e1; injection e1 with e1; exact e1.symm
  subst eG
  have hneG : ∀ {v : Value} {n : Nat} {l : List Value}, W3.ownsRow t 3 1 v n l → v.ownBlock ≠ some G' := fun ho => own_neB ho hG (by decide)
  refine ⟨?_, fun r hr => ?_, fun r s hr hs hne j hj hj2 => ?_⟩
  · rw [List.length_set]
    exact (hrow3.stored k _).1
  · rw [List.length_set] at hr
    by_cases e : r = k
    · subst e
      simp only [if_true]
      rw [hgk]
      refine ownsRow_setCell_other (by simpa [valsI] using hown) ?_ _
      exact hneG hown
    · simp only [e, if_false]
      rw [hgo r e]
      have h1 := ((h.own r hr).alloc o).kept hg (by
        cases hu : (vs.getD r (.slice none 0 0)).ownBlock with
        | none => exact .inl rfl
        | some j =>
          right
          intro e2
          exact h.apart r k hr hk e j hu e2.symm)
      exact ownsRow_setCell_other h1 (hneG h1) _
  · rw [List.length_set] at hr hs
    by_cases e1 : r = k
    · have e2 : s ≠ k := fun e => hne (e1.trans e.symm)
      rw [e1, hgk] at hj
      rw [hgo s e2] at hj2
      have hj' : g = j := by simpa [Value.ownBlock] using hj
      subst hj'
      rcases hat with e | e
      · exact h.apart k s hk hs (fun z => e2 z.symm) _ e hj2
      · have := (own_ge (h.own s hs) _ hj2).2; omega
    · rw [hgo r e1] at hj
      by_cases e2 : s = k
      · rw [e2, hgk] at hj2
        have hj' : g = j := by simpa [Value.ownBlock] using hj2
        subst hj'
        rcases hat with e | e
        · exact h.apart r k hr hk e1 _ hj e
        · have := (own_ge (h.own r hr) _ hj).2; omega
      · rw [hgo s e2] at hj2
        exact h.apart r s hr hs hne j hj hj2
def lenV : Value → Nat
  | .slice _ n _ => n
  | _ => 0
theorem grR_none {P : Nat → Nat → Prop} {u n : Nat} (h : ∀ j, j < n → ¬ P u j) : ∀ k, k ≤ n → grR P u k = []
  | 0, _ => rfl
  | k + 1, hk => by
    have ht := tb_no (h k (by omega))
    simp [grR, grR_none h k (by omega), ht]
set_option maxRecDepth 100000 in
set_option maxHeartbeats 8000000 in
/-- sloperef12.Classes, refused. -/
theorem wclasses_no (a : Option Addr) (n c : Nat) (xs : List Int) (w : World) (h : SlI w a n c xs) (hn : n ≤ 17592186044416) (hno : ¬ (n ≤ 128 ∧ MayC xs n)) :
    Calls Tryz.prog 6 #[.slice a n c] w fun e w' => e = .returned (.tuple #[.slice none 0 0, .int .i64 240]) ∧ Below w.heap.size w w' := by
  by_cases h8 : n ≤ 128
  · have h8' : ¬ (128 : Int) < (n : Int) := by omega
    have KM := hide (wmayC_any a n c xs w h hn false ⟨fun e => absurd e (by decide), fun m => absurd ⟨h8, m⟩ hno⟩)
    clear h hno
    go_enter Tryz.func6, Tryz.ntmps6
    go_wp2_with fail
    refine (unhide KM).mono ?_
    rintro _ w2 ⟨rfl, b2⟩
    have HB := hide b2
    clear KM b2
    go_wp2_with fail
    refine bodyPost_ret (by simp [results, Tryz.results6, go_sem]; try rfl) rfl ?_
    exact ⟨rfl, unhide HB⟩
  · have h8' : (128 : Int) < (n : Int) := by omega
    clear h hno
    go_enter Tryz.func6, Tryz.ntmps6
    go_wp2_with fail
    refine bodyPost_ret (by simp [results, Tryz.results6, go_sem]; try rfl) rfl ?_
    exact ⟨rfl, Below.refl _ _⟩
/-- What the document's Classes answers. -/
structure ClsW (w w' : World) (e : Ending) (xs : List Int) (n t : Nat) (lv : Value) (vs : List Value) : Prop where
  ret : e = .returned (.tuple #[lv, .int .i64 0])
  at_ : w.heap.size ≤ t
  num : NumC xs (vs.length : Int)
  ln : LgI w' t lv vs (fun j => grR (ClsP xs) j n)
  bel : Below w.heap.size w w'
set_option maxRecDepth 100000 in
set_option maxHeartbeats 16000000 in
/-- sloperef12.Classes. -/
theorem wclasses_yes (a : Option Addr) (n c : Nat) (xs : List Int) (w : World) (h : SlI w a n c xs) (hn : n ≤ 128) (hm : MayC xs n) :
    Calls Tryz.prog 6 #[.slice a n c] w fun e w' => ∃ t lv vs, ClsW w w' e xs n t lv vs := by
  have h8' : ¬ (128 : Int) < (n : Int) := by omega
  have KM := hide (wmayC_any a n c xs w h (by omega) true ⟨fun _ => hm, fun _ => rfl⟩)
  have HS := hide h
  have HM := hide hm
  have HLN := hide h.len
  obtain ⟨i64, hi, hz, hs, hb⟩ := info_parts Tryz.info_i64
  have HI := hide (And.intro hi (And.intro hz (And.intro hs hb)))
  obtain ⟨lst, hi', hz', hs', hb'⟩ := info_parts Tryz.info_listI
  have HJ := hide (And.intro hi' (And.intro hz' (And.intro hs' hb')))
  clear h hm hi hz hs hb hi' hz' hs' hb'
  go_enter Tryz.func6, Tryz.ntmps6
  go_wp2_with fail
  refine (unhide KM).mono ?_
  rintro _ w2 ⟨rfl, b2⟩
  have HB2 := hide b2
  have HS2 := hide ((unhide HS).below b2)
  clear KM b2 HS
  go_wp2_with fail
  obtain ⟨t, ht⟩ : ∃ t, w2.heap.size = t := ⟨_, rfl⟩
  have HT := hide ht
  clear ht
  go_loopw [5, 4] (fun iv lv wr => ∃ i : Nat, i ≤ n ∧ iv = .int .i64 (i : Int) ∧ Hid (∃ vs, LgI wr t lv vs (fun j => grR (ClsP xs) j i) ∧ MaxTo (-1 :: xs) (i + 1) ((vs.length : Int) - 1) ∧ Below t w2 wr)) (fun iv _ _ => n - (intOf iv).toNat)
  case atStart => exact ⟨0, Nat.zero_le _, rfl, hide ⟨[], ⟨World.ownsRow_nil _ _ _ _, fun r hr => absurd hr (Nat.not_lt_zero _), fun r s hr => absurd hr (Nat.not_lt_zero _)⟩, ⟨⟨0, by omega, rfl⟩, fun i hi => by rw [show i = 0 by omega]; exact Int.le_refl _⟩, Below.refl _ _⟩⟩
  case round =>
    obtain ⟨i, hi, rfl, HV⟩ := hrel
    obtain ⟨vs, hL, hX, hB⟩ := unhide HV
    obtain ⟨A, cp, hlv⟩ : ∃ A cp, u4 = .slice A vs.length cp := by
      rcases hL.row.2 with ⟨e, e2⟩ | ⟨g, cap, cur, e, _⟩
      · exact ⟨none, 0, by rw [e, e2]⟩
      · exact ⟨_, _, e⟩
    by_cases hin : i < n
    · have hin' : (i : Int) < (n : Int) := by omega
      have hg0 := unhide HM i hin
      obtain ⟨x, hx⟩ : ∃ x : Nat, xs.getD i 0 = (x : Int) := ⟨(xs.getD i 0).toNat, by omega⟩
      have hx6 : x ≤ 65536 := by omega
      have HXX := hide hx
      have HXM := hide hX
      have hm7 : vs.length ≤ 65537 := by
        obtain ⟨q, hq, he⟩ := hX.at_
        cases q with
        | zero => simp at he; omega
        | succ q =>
          rw [List.getD_cons_succ] at he
          have := unhide HM q (by omega)
          omega
      have HCL := hide (show ∀ W', Below t w2 W' → ∃ b o, a = some ⟨b, o, none⟩ ∧ W'.cell? ⟨b, o + i, none⟩ = some (.int .i64 (x : Int)) from fun W' k => by
        have h2 := (unhide HS2).below (by rw [unhide HT]; exact k)
        obtain ⟨b, o, e, hc⟩ := h2.at (by omega)
        exact ⟨b, o, e, by rw [← hx]; exact hc i hin⟩)
      have HZ := hide (show ∀ j : Nat, vs.length ≤ j → grR (ClsP xs) j i = [] from fun j hj => by
        refine grR_none (fun q hq e => ?_) i (Nat.le_refl _)
        have := hX.le (q + 1) (by omega)
        rw [List.getD_cons_succ] at this
        unfold ClsP at e
        omega)
      obtain ⟨m0, hm0⟩ : ∃ m0, vs.length = m0 := ⟨_, rfl⟩
      have HL0 := hide (show ∃ us, us.length = m0 ∧ LgI wr t u4 us (fun j => grR (ClsP xs) j i) ∧ Below t w2 wr from ⟨vs, hm0, hL, hB⟩)
      rw [hm0] at HZ HXM hm7 hlv
      subst hlv
      clear hg0 hx hL hX hB HV hm0
      go_wp2_with fail
      go_loopw [4, 22] (fun lv _ wq => ∃ (A : Option Addr) (m cp : Nat), lv = .slice A m cp ∧ m0 ≤ m ∧ (m = m0 ∨ m ≤ x + 1) ∧ Hid (∃ us, us.length = m ∧ LgI wq t lv us (fun j => grR (ClsP xs) j i) ∧ Below t w2 wq)) (fun lv _ _ => x + 1 - lenV lv)
      case atStart => exact ⟨A, m0, cp, rfl, Nat.le_refl _, .inl rfl, HL0⟩
      case round =>
        obtain ⟨A', m, cp', rfl, hm1, hm2, HU⟩ := hrel
        obtain ⟨us, hul, hL, hB⟩ := unhide HU
        obtain ⟨b2, o2, ea, sc⟩ := unhide HCL wr hB
        subst ea
        by_cases hle : m ≤ x
        · have hle' : (m : Int) ≤ (x : Int) := by omega
          have hmx : m + 1 ≤ maxLen := by unfold maxLen; omega
          have hby : (m + 1) * 24 ≤ 140737488355328 := by omega
          have hone : ∀ u ∈ [Value.slice none 0 0], u.oneCell' = true := by intro u hu; simp at hu; subst hu; rfl
          have hsz := hB.size
          have hsz2 := unhide HT
          have hrow := hL.row
          rw [hul] at hrow
          have HROW := hide hrow
          have HL1 := hide hL
          have HB1 := hide hB
          have HUL := hide hul
          have hml : m ≤ 65537 := by omega
          clear hL hB HU hul hrow
          go_wp2_with (at_builtin; refine wpList_append_lies _ rfl _ _ 25 rfl t 22 lst (.slice none 0 0) 1 24 Tryz.underlying25 (unhide HJ).1 (unhide HJ).2.1 (unhide HJ).2.2.1 (unhide HJ).2.2.2 rfl (by decide) (.slice A' m cp') m us rfl ((unhide HROW).alloc _) ⟨wr.heap.size, 0, none⟩ 1 1 [.slice none 0 0] rfl rfl (World.news_of_block (alloc_block _ _)) hone (by decide) hmx hby (by simp; omega) (wr.heap.size + 1) (by simp) ?_)
          intro g2 cap w4 hown hgr hat hlt4
          have HN := hide (show ∃ vs', vs'.length = m + 1 ∧ LgI w4 t (.slice (some ⟨g2, 0, none⟩) (m + 1) cap) vs' (fun j => grR (ClsP xs) j i) ∧ Below t w2 w4 from
            ⟨us ++ [.slice none 0 0], by simp [unhide HUL], (unhide HL1).more (Obj.cells #[Value.slice none 0 0] 22) (by rw [unhide HUL]; exact hown) (show (wr.alloc _).grownBy w4 _ from ⟨hgr.os, hgr.tape, hgr.output, hgr.size, hgr.block⟩) (unhide HZ us.length (by rw [unhide HUL]; exact hm1)), ((unhide HB1).trans ((Below.refl t wr).alloc (by omega) _)).grown hgr (by simp; omega) (fun j hj => (own_ge (unhide HROW) j hj).1)⟩)
          clear hown hgr hat hlt4
          go_wp2_with fail
          exact ⟨⟨some ⟨g2, 0, none⟩, m + 1, cap, rfl, by omega, .inr (by omega), HN⟩, by simp [lenV]; omega⟩
        · have hle' : ¬ (m : Int) ≤ (x : Int) := by omega
          have hxm : (x : Int) < (m : Int) := by omega
          have hxm' : x < m := by omega
          obtain ⟨G, cp2, cur, eA, hGt, hGh, _⟩ := hL.row.2.resolve_left (fun e => by have := e.2; omega)
          injection eA with e1 e2 e3
          subst e1 e3
          have hrow := hL.row
          rw [hul] at hrow
          obtain ⟨v, hv⟩ : ∃ v, us.getD x (.slice none 0 0) = v := ⟨_, rfl⟩
          have lk : wr.cell? ⟨G, x, none⟩ = some v := by
            rw [hrow.cellAt x (by omega)]
            rw [← hv, List.getD]
            rw [List.getElem?_eq_getElem (by omega)]
            rfl
          have lf := hrow.frozenAt x
          have how := hL.own x (by omega)
          have hvG : some G ≠ v.ownBlock := fun e => own_neB how hGh (by decide) (by rw [hv, ← e])
          have hyl : (grR (ClsP xs) x i).length ≤ 16384 := by have := grR_len (ClsP xs) x i; omega
          obtain ⟨ys, hys⟩ : ∃ ys, grR (ClsP xs) x i = ys := ⟨_, rfl⟩
          rw [hv, hys] at how
          rw [hys] at hyl
          have hsz := hB.size
          have hsz2 := unhide HT
          have hGw : G < wr.heap.size := (Array.getElem?_eq_some_iff.1 hGh).1
          have hbw : b2 < wr.heap.size := by have := World.block_lt_of_cell? _ _ sc; simpa using this
          have hb2t : b2 < t := by
            have := (unhide HS2).block_lt (fun e => by have := (unhide HS2).len; rw [e] at this; simp at this; omega) _ rfl
            rw [hsz2] at this
            exact this
          have hvB : some b2 ≠ v.ownBlock := fun e => by have := (own_ge how _ e.symm).1; omega
          have HOW := hide how
          have HYS := hide hys
          have HV2 := hide hv
          have hmx : ys.length + 1 ≤ maxLen := by unfold maxLen; omega
          have hby : (ys.length + 1) * 8 ≤ 140737488355328 := by omega
          have hone : ∀ u ∈ [Value.int .i64 (i : Int)], u.oneCell' = true := by intro u hu; simp at hu; subst hu; rfl
          have HLL := hide (show LgI wr t (.slice (some ⟨G, 0, none⟩) us.length cp') us (fun j => grR (ClsP xs) j i) from by rw [hul]; exact hL)
          have HB1 := hide hB
          have HUL := hide hul
          have HMX := hide (show MaxTo (-1 :: xs) (i + 1 + 1) ((m : Int) - 1) from by
            have := (unhide HXM).next (x := (x : Int)) (by rw [List.getD_cons_succ]; exact unhide HXX)
            rw [show (m : Int) - 1 = max ((m0 : Int) - 1) (x : Int) by omega]
            exact this)
          have HGT := hide hGt
          clear hL hB HU hul hrow hv hys how hGh hGt e2
          go_wp2_with fail
          have hHeld : (fun w' => w'.cell? ⟨b2, o2 + i, none⟩ = some (.int .i64 (x : Int)) ∧ w'.cell? ⟨G, x, none⟩ = some v) wr.drew := ⟨sc, lk⟩
          refine anyTill_region (fun w' => w'.cell? ⟨b2, o2 + i, none⟩ = some (.int .i64 (x : Int)) ∧ w'.cell? ⟨G, x, none⟩ = some v) 16 (by kernel_rfl) ?_
          refine anyTill_take (i := 0) (v := ?_) rfl rfl (by kernel_rfl) (by kernel_rfl) (by kernel_rfl) (by kernel_rfl) (fun _ _ _ h => h) (Or.inl ⟨by rfl, ?_⟩) (by assumption) ?_
          rotate_left 1
          · intro W hSw
            try dsimp only at hSw
            go_simp
            try with_reducible rfl
          refine anyTill_take (i := 1) (v := ?_) rfl rfl (by kernel_rfl) (by kernel_rfl) (by kernel_rfl) (by kernel_rfl) (fun _ _ _ h => h) (Or.inl ⟨by rfl, ?_⟩) (by assumption) ?_
          rotate_left 1
          · intro W hSw
            try dsimp only at hSw
            go_simp
            try with_reducible rfl
          refine anyTill_take (i := 2) (v := ?_) rfl rfl (by kernel_rfl) (by kernel_rfl) (by kernel_rfl) (by kernel_rfl) (fun _ _ _ h => h) (Or.inl ⟨by rfl, ?_⟩) (by assumption) ?_
          rotate_left 1
          · intro W hSw
            try dsimp only at hSw
            go_simp
            try with_reducible rfl
          refine anyTill_take (i := 3) (v := ?_) rfl rfl (by kernel_rfl) (by kernel_rfl) (by kernel_rfl) (by kernel_rfl) (fun _ _ _ h => h) (Or.inl ⟨by rfl, ?_⟩) (by assumption) ?_
          rotate_left 1
          · intro W hSw
            try dsimp only at hSw
            go_simp
            try with_reducible rfl
          refine anyTill_take (i := 4) (v := ?_) rfl rfl (by kernel_rfl) (by kernel_rfl) (by kernel_rfl) (by kernel_rfl) (fun _ _ _ h => h) (Or.inl ⟨by rfl, ?_⟩) (by assumption) ?_
          rotate_left 1
          · intro W hSw
            try dsimp only at hSw
            go_simp
            try with_reducible rfl
          refine anyTill_take (i := 5) (v := ?_) rfl rfl (by kernel_rfl) (by kernel_rfl) (by kernel_rfl) (by kernel_rfl) (fun _ _ _ h => h) (Or.inl ⟨by rfl, ?_⟩) (by assumption) ?_
          rotate_left 1
          · intro W hSw
            try dsimp only at hSw
            go_simp
            try with_reducible rfl
          refine anyTill_take (i := 6) (v := ?_) rfl rfl (by kernel_rfl) (by kernel_rfl) (by kernel_rfl) (by kernel_rfl) (fun _ _ _ h => h) (Or.inl ⟨by rfl, ?_⟩) (by assumption) ?_
          rotate_left 1
          · intro W hSw
            try dsimp only at hSw
            go_simp
            try with_reducible rfl
          refine anyTill_take (i := 7) (v := ?_) rfl rfl (by kernel_rfl) (by kernel_rfl) (by kernel_rfl) (by kernel_rfl) (fun _ _ _ h => h) (Or.inl ⟨by rfl, ?_⟩) (by assumption) ?_
          rotate_left 1
          · intro W hSw
            try dsimp only at hSw
            go_simp
            try with_reducible rfl
          refine anyTill_take (i := 8) (v := ?_) rfl rfl (by kernel_rfl) (by kernel_rfl) (by kernel_rfl) (by kernel_rfl) (fun _ _ _ h => h) (Or.inl ⟨by rfl, ?_⟩) (by assumption) ?_
          rotate_left 1
          · intro W hSw
            try dsimp only at hSw
            go_simp
            try with_reducible rfl
          refine anyTill_take (i := 9) (v := ?_) rfl rfl (by kernel_rfl) (by kernel_rfl) (by kernel_rfl) (by kernel_rfl) (fun _ _ _ h => h) (Or.inl ⟨by rfl, ?_⟩) (by assumption) ?_
          rotate_left 1
          · intro W hSw
            try dsimp only at hSw
            go_simp
            try with_reducible rfl
          refine anyTill_take (i := 10) (v := ?_) rfl rfl (by kernel_rfl) (by kernel_rfl) (by kernel_rfl) (by kernel_rfl) (fun _ _ _ h => h) (Or.inl ⟨by rfl, ?_⟩) (by assumption) ?_
          rotate_left 1
          · intro W hSw
            try dsimp only at hSw
            go_simp
            try with_reducible rfl
          refine anyTill_take (i := 11) (v := ?_) rfl rfl (by kernel_rfl) (by kernel_rfl) (by kernel_rfl) (by kernel_rfl) (fun _ _ _ h => h) (Or.inl ⟨by rfl, ?_⟩) (by assumption) ?_
          rotate_left 1
          · intro W hSw
            try dsimp only at hSw
            go_simp
            try with_reducible rfl
          refine anyTill_take (i := 12) (v := ?_) rfl rfl (by kernel_rfl) (by kernel_rfl) (by kernel_rfl) (by kernel_rfl) (fun _ _ _ h => h) (Or.inl ⟨by rfl, ?_⟩) (by assumption) ?_
          rotate_left 1
          · intro W hSw
            try dsimp only at hSw
            go_simp
            try with_reducible rfl
          clear hHeld
          refine anyTill_one (i := 13) (by kernel_rfl) rfl (by rfl) (fun K hK => ?_)
          go_simp
          have hHeld : (fun w' => w'.cell? ⟨b2, o2 + i, none⟩ = some (.int .i64 (x : Int)) ∧ w'.cell? ⟨G, x, none⟩ = some v) (wr.alloc (Obj.cells #[Value.int IntKind.i64 (i : Int)] 3)).drew := ⟨(World.cell?_alloc_lt _ _ _ hbw).trans sc, (World.cell?_alloc_lt _ _ _ hGw).trans lk⟩
          refine hK _ _ (fun _ => hHeld) ?_
          clear hK K hHeld
          refine anyTill_one (i := 14) (by kernel_rfl) rfl (by rfl) (fun K hK => ?_)
          refine wp_append_lies _ _ _ 22 rfl t 3 i64 (.int .i64 0) 1 8 Tryz.underlying22 (unhide HI).1 (unhide HI).2.1 (unhide HI).2.2.1 (unhide HI).2.2.2 rfl (by decide) v ys.length (valsI ys) rfl ((unhide HOW).alloc _) ⟨wr.heap.size, 0, none⟩ 1 1 [.int .i64 (i : Int)] rfl rfl (World.news_of_block (alloc_block _ _)) hone (by decide) hmx hby (by simp <;> omega) (wr.heap.size + 1) (by simp) ?_
          intro g cap w6 hown6 hgrow6 hat6 hlt6
          have F6 := hide (And.intro hown6 (And.intro hgrow6 hat6))
          have lk6 : w6.cell? ⟨G, x, none⟩ = some v := (hgrow6.cell_far ⟨G, x, none⟩ (by simp; omega) hvG).trans ((World.cell?_alloc_lt _ _ _ hGw).trans lk)
          have lf6 : w6.frozen? ⟨G, x, none⟩ = false := (hgrow6.frozen_far ⟨G, x, none⟩ (by simp; omega) hvG).trans ((World.frozen?_alloc_old _ _ _ (Nat.ne_of_lt hGw)).trans lf)
          have s6 : w6.cell? ⟨b2, o2 + i, none⟩ = some (.int .i64 (x : Int)) := (hgrow6.cell_far ⟨b2, o2 + i, none⟩ (by simp; omega) hvB).trans ((World.cell?_alloc_lt _ _ _ hbw).trans sc)
          have hB6 : Below t w2 w6 := ((unhide HB1).trans ((Below.refl t wr).alloc (by omega) _)).grown (show (wr.alloc _).grownBy w6 _ from ⟨hgrow6.os, hgrow6.tape, hgrow6.output, hgrow6.size, hgrow6.block⟩) (by simp; omega) (fun j hj => (own_ge (unhide HOW) j hj).1)
          have HB6 := hide hB6
          clear hown6 hgrow6 hat6 hlt6 hB6
          refine hK _ _ (fun _ => ⟨s6, lk6⟩) ?_
          clear hK K
          refine anyTill_one (i := 15) (by kernel_rfl) rfl (by rfl) (fun K hK => ?_)
          go_simp
          refine hK _ _ (fun _ => ⟨s6, lk6⟩) ?_
          clear hK K
          refine anyTill_one (i := 16) (by kernel_rfl) rfl (by rfl) (fun K hK => ?_)
          go_simp
          refine hK _ _ (fun h => absurd rfl h) ?_
          clear hK K
          refine anyTill_done (by kernel_rfl) ?_
          have HN := hide (LgI.app (x := (i : Int)) (unhide HLL) (by rw [unhide HUL]; exact hxm') (Obj.cells #[Value.int IntKind.i64 (i : Int)] 3) (by rw [unhide HYS]; exact (unhide F6).1) (by rw [unhide HV2]; exact (show (wr.alloc _).grownBy w6 _ from ⟨(unhide F6).2.1.os, (unhide F6).2.1.tape, (unhide F6).2.1.output, (unhide F6).2.1.size, (unhide F6).2.1.block⟩)) (by rw [unhide HV2]; exact (unhide F6).2.2))
          rw [unhide HYS, unhide HUL] at HN
          clear F6 lk6 lf6 s6
          go_wp2_with fail
          refine ⟨⟨i + 1, by omega, by (first | rfl | go_num), hide ⟨_, (unhide HN).congr (fun r hr => ?_), by rw [List.length_set, unhide HUL]; exact unhide HMX, (unhide HB6).trans ((Chg.of_set (S := fun j => j = G) _ _ _ _ rfl).below (by have := (unhide HB6).size; omega) (fun j hj e => by have := unhide HGT; omega))⟩⟩, by simp [intOf]; omega⟩
          rw [cls_step (unhide HXX) r, unhide HYS]
    · obtain rfl : i = n := by omega
      have hin' : ¬ (i : Int) < (i : Int) := by omega
      have HA := hide (show ClsW w wr (.returned (.tuple #[u4, .int .i64 0])) xs i t u4 vs from ⟨rfl, by have := unhide HT; have := (unhide HB2).size; omega, by unfold NumC; rw [unhide HLN]; exact hX, hL, (unhide HB2).trans (hB.mono (by have := unhide HT; have := (unhide HB2).size; omega))⟩)
      clear hL hX hB HV hlv
      go_wp2_with fail
      refine bodyPost_ret (by simp [results, Tryz.results6, go_sem]; try rfl) rfl ?_
      exact ⟨t, u4, vs, unhide HA⟩
end Go.Proofs.YtkbcmnjgkmkeaaaGreat
