/- Th2 -/
import Derived.Test.YtbbicappjicblaaGreatDoorTh1
import Derived.Test.YtbbicappjicblaaGreatDoorRv5
namespace Go.Proofs.YtbbicappjicblaaGreatDoor
open Go.RowKit Go.Deep
set_option linter.unusedVariables false
set_option maxRecDepth 100000 in
set_option maxHeartbeats 32000000 in
theorem wlive_any (i : Int) (a : Option Addr) (n c : Nat) (os : List On) (b : Option Addr) (m d : Nat) (ys : List Int) (w : World) (hs : SlO w a n c os) (hy : SlI w b m d ys) (hk : TpOk i os ys) :
  Calls Tryz.prog 38 #[tapV i a n c b m d] w fun e w' => ∃ g, e = .returned (.slice (some ⟨g, 0, none⟩) n n) ∧ w.heap.size ≤ g ∧ RoV w' g n (fun v => .bool (mkB (lvL os ys n) v)) ∧ Below w.heap.size w w' := by
 have hn := hs.len
 have hm := hy.len
 have hn2 : n ≤ 2048 := by have := hk.lo; omega
 have hm2 : m ≤ 64 := by have := hk.ly; omega
 obtain ⟨wa, hwa⟩ : ∃ x, w.alloc (.cells #[.int .i64 i, .slice a n c, .slice b m d] 25) = x := ⟨_, rfl⟩
 have bx : BoxP wa w.heap.size [.int .i64 i, .slice a n c, .slice b m d] := by rw [← hwa]; exact BoxP.made _ _ _
 have hba : Below w.heap.size w wa := by rw [← hwa]; exact (Below.refl _ _).alloc (Nat.le_refl _) _
 have hmk := make_boolsP n (by omega) wa
 have hR := RoV.made wa n 4 (.bool false)
 obtain ⟨wm, hwm⟩ : ∃ x, wa.alloc (.cells (madeCells #[.bool false] n) 4) = x := ⟨_, rfl⟩
 have bm : Below wa.heap.size wa wm := by rw [← hwm]; exact (Below.refl _ _).alloc (Nat.le_refl _) _
 have hgm : wa.heap.size < wm.heap.size := by rw [← hwm]; simp
 rw [hwm] at hmk hR
 have g1 := (bx.all 1 _ rfl).1
 have g2 := (bx.all 2 _ rfl).1
 have p1 := ((bx.below bm).all 1 _ rfl).1
 have p2 := ((bx.below bm).all 2 _ rfl).1
 have zlt : w.heap.size < wa.heap.size := bx.lt
 obtain ⟨g, hg⟩ : ∃ g, wa.heap.size = g := ⟨_, rfl⟩
 have HG := hide hg
 have HA := hide hba
 have HM := hide bm
 have HS := hide (hs.below hba)
 have HY := hide (hy.below hba)
 have HK := hide hk
 have HN := hide (And.intro hn (And.intro hm (And.intro zlt hgm)))
 have HR := hide (show RoV wm g n (fun v => .bool (mkB (ys.take 0) v)) from by
  rw [hg] at hR
  exact hR.congr (fun v _ => by simp [mkB]))
 rw [hg] at hmk
 clear bx hba bm hs hy hR hk hwm zlt hgm hn hm hg
 unfold tapV
 go_enter Tryz.func38, Tryz.ntmps38
 go_wp2_with fail
 have KP : ∀ wr, Hid (Chg (fun j => j = g) wm wr) → Below wa.heap.size wa wr := fun wr h => (unhide HM).trans ((unhide h).below (unhide HM).size (fun j hj e => by have := unhide HG; omega))
 go_loopw [4] (fun jv wr => ∃ j : Nat, j ≤ m ∧ jv = .int .i64 (j : Int) ∧ Hid (RoV wr g n (fun v => .bool (mkB (ys.take j) v))) ∧ Hid (Chg (fun j => j = g) wm wr)) (fun jv _ => m - (intOf jv).toNat)
 case atStart => exact ⟨0, Nat.zero_le _, rfl, HR, hide (Chg.refl _ _)⟩
 case round =>
  obtain ⟨j, hj, rfl, HRj, HCj⟩ := hrel
  have HBA := hide (KP _ HCj)
  have r1 := ((unhide HBA).cell (World.block_lt_of_cell? _ _ g1)).trans g1
  have r2 := ((unhide HBA).cell (World.block_lt_of_cell? _ _ g2)).trans g2
  by_cases hlj : j < m
  ·have hlj' : (j : Int) < (m : Int) := by omega
   have hym := (unhide HN).2.1
   obtain ⟨zb, zo, rfl, hc⟩ := ((unhide HY).below (unhide HBA)).at (by omega)
   have sk := hc j hlj
   obtain ⟨v, hv⟩ : ∃ v : Nat, ys.getD j 0 = (v : Int) ∧ v < n := by
    have h1 := (unhide HK).out (ys.getD j 0) (by rw [List.getD_eq_getElem?_getD, List.getElem?_eq_getElem (by omega)]; exact List.getElem_mem (by omega))
    have h2 := (unhide HN).1
    exact ⟨(ys.getD j 0).toNat, by omega, by omega⟩
   obtain ⟨hv, hvn⟩ := hv
   have hnx := take_next (l := ys) (j := j) (by omega)
   rw [hv] at sk hnx
   have HNX := hide hnx
   have hvn' : (v : Int) < (n : Int) := by omega
   have q1 := (unhide HRj v hvn).1
   have q2 := (unhide HRj v hvn).2
   have HRN := hide (show RoV (wr.setCell ⟨g, v, none⟩ (.bool true)) g n (fun u => .bool (mkB (ys.take (j + 1)) u)) from ((unhide HRj).put v (.bool true) hvn).congr (fun u hu => by
    rw [unhide HNX, mkB_app]
    by_cases e : u = v
    ·rw [if_pos e, if_pos e]
    ·rw [if_neg e, if_neg e]))
   have HCN := hide (show Chg (fun j => j = g) wm (wr.setCell ⟨g, v, none⟩ (.bool true)) from (unhide HCj).trans (Chg.of_set _ _ _ _ rfl))
   clear hc hv hnx hym hmk KP
   go_wp2_with fail
   exact ⟨⟨j + 1, by omega, by (first | rfl | go_num), HRN, HCN⟩, by simp [intOf]; omega⟩
  ·obtain rfl : j = m := by omega
   have hlj' : ¬ (j : Int) < (j : Int) := by omega
   have hym := (unhide HN).2.1
   have HR1 := hide (show RoV wr g n (fun v => .bool (mkB (lvL os ys 0) v)) from (unhide HRj).congr (fun v _ => by rw [List.take_of_length_le (by omega)]; rfl))
   have HPQ := hide KP
   clear hmk KP hym
   go_wp2_with fail
   go_loopw [5] (fun iv wr' => ∃ k : Nat, k ≤ n ∧ iv = .int .i64 ((n : Int) - 1 - (k : Int)) ∧ Hid (RoV wr' g n (fun v => .bool (mkB (lvL os ys k) v))) ∧ Hid (Chg (fun j => j = g) wm wr')) (fun iv _ => (intOf iv + 1).toNat)
   case atStart => exact ⟨0, Nat.zero_le _, by simp, HR1, HCj⟩
   case round =>
    obtain ⟨k, hkn, hiv, HRr, HC⟩ := hrel
    have HBA := hide ((unhide HPQ) _ HC)
    have r1 := ((unhide HBA).cell (World.block_lt_of_cell? _ _ g1)).trans g1
    by_cases hlt : k < n
    ·obtain ⟨i2, hi2⟩ : ∃ i2 : Nat, (n : Int) - 1 - (k : Int) = (i2 : Int) ∧ n - 1 - k = i2 ∧ i2 < n := ⟨n - 1 - k, by omega, rfl, by omega⟩
     obtain ⟨e1, e2, hi2n⟩ := hi2
     rw [e1] at hiv
     subst hiv
     have HE := hide (And.intro e1 e2)
     clear e1 e2
     have hlt' : 0 ≤ (i2 : Int) := by omega
     have hlt2 : (i2 : Int) < (n : Int) := by omega
     have q1 := (unhide HRr i2 hi2n).1
     obtain ⟨b1, off, o, rfl, ho, O, hok⟩ := ((unhide HS).below (unhide HBA)).at' hi2n
     obtain ⟨c0, c1, c2, c3, c4, c5, c6⟩ := O
     have HOO := hide ho
     obtain ⟨mk, hmk2⟩ : ∃ mk, mkB (lvL os ys k) i2 = mk := ⟨_, rfl⟩
     simp only [hmk2] at q1
     have HMK := hide hmk2
     clear hmk2 hok
     cases mk
     ·have HRN := hide (show RoV wr g n (fun v => .bool (mkB (lvL os ys (k + 1)) v)) from by rw [lvL_no (unhide HN).1 (unhide HE).2 (unhide HOO) (unhide HMK)]; exact unhide HRr)
      clear ho
      go_wp2_with fail
      exact ⟨⟨k + 1, by omega, by have h1 := (unhide HE).1; (first | (congr 1; omega) | (simp; omega) | go_num), HRN, HC⟩, by have h1 := (unhide HE).1; (first | (simp [intOf]; done) | (simp [intOf]; omega))⟩
     ·have hop := op_ok ((unhide HK).op i2 o ho)
      have HP := hide (fun (W : World) => (by
       have K := woperands_any o hop.1.1 hop.1.2 W
       unfold opV at K
       exact K : Calls Tryz.prog 39 #[.agg #[.int .i64 o.k, .int .i64 o.a, .int .i64 o.b, .int .i64 o.n, .bool o.p.g, .slice o.p.a o.p.n o.p.c, .slice o.p.b o.p.m o.p.d]] W (OpsA W (opsL o))))
      have HOP := hide hop.2.1
      have HLY := hide (lvL_yes (ys := ys) (unhide HN).1 (unhide HE).2 (unhide HOO) (unhide HMK))
      clear hop ho
      go_wp2_with fail
      refine (unhide HP _).mono ?_
      rintro _ w1 ⟨z, m1, c1', rfl, hz, hnew, bE⟩
      have HZ := hide hz
      have HNW := hide (show ∀ y, z = some y → y.block ≠ g from fun y e h => by have h1 := hnew y e; have h2 := (unhide HC).size; have h3 := (unhide HN).2.2.2; have h4 := unhide HG; omega)
      have HC1 := hide ((unhide HC).trans (Chg.of_below bE))
      have HR1 := hide (show RoV w1 g n (fun v => .bool (mkB (lvL os ys k ++ (opsL o).take 0) v)) from ((unhide HRr).below bE).congr (fun v _ => by simp))
      clear hz hnew bE HP c0 c1 c2 c3 c4 c5 c6 q1
      go_wp2_with fail
      go_loopw [7] (fun jv wr' => ∃ j : Nat, j ≤ m1 ∧ jv = .int .i64 (j : Int) ∧ Hid (RoV wr' g n (fun v => .bool (mkB (lvL os ys k ++ (opsL o).take j) v))) ∧ Hid (Chg (fun j => j = g) w1 wr')) (fun jv _ => m1 - (intOf jv).toNat)
      case atStart => exact ⟨0, Nat.zero_le _, rfl, HR1, hide (Chg.refl _ _)⟩
      case round =>
       obtain ⟨j, hj, rfl, HRj, HCj⟩ := hrel
       have hml := (unhide HZ).len
       have hm12 : m1 ≤ 2 := by have := opsL_len o; omega
       by_cases hlj : j < m1
       ·have hlj' : (j : Int) < (m1 : Int) := by omega
        have hzz := (unhide HZ).chg (unhide HCj) (fun y e hne h => unhide HNW y e h)
        obtain ⟨zb, zo, rfl, hc⟩ := hzz.at (by omega)
        have sk := hc j hlj
        obtain ⟨v, hv⟩ : ∃ v : Nat, (opsL o).getD j 0 = (v : Int) ∧ v < n := by
         have h1 := unhide HOP ((opsL o).getD j 0) (by rw [List.getD_eq_getElem?_getD, List.getElem?_eq_getElem (by omega)]; exact List.getElem_mem (by omega))
         exact ⟨((opsL o).getD j 0).toNat, by omega, by omega⟩
        obtain ⟨hv, hvn⟩ := hv
        have hnx := take_next (l := opsL o) (j := j) (by omega)
        rw [hv] at sk hnx
        have HNX := hide hnx
        have hvn' : (v : Int) < (n : Int) := by omega
        have q1 := (unhide HRj v hvn).1
        have q2 := (unhide HRj v hvn).2
        have HRN := hide (show RoV (wr.setCell ⟨g, v, none⟩ (.bool true)) g n (fun u => .bool (mkB (lvL os ys k ++ (opsL o).take (j + 1)) u)) from ((unhide HRj).put v (.bool true) hvn).congr (fun u hu => by
         rw [unhide HNX, ← List.append_assoc, mkB_app]
         by_cases e : u = v
         ·rw [if_pos e, if_pos e]
         ·rw [if_neg e, if_neg e]))
        have HCN := hide (show Chg (fun j => j = g) w1 (wr.setCell ⟨g, v, none⟩ (.bool true)) from (unhide HCj).trans (Chg.of_set _ _ _ _ rfl))
        clear hc hzz hv hnx
        go_wp2_with fail
        exact ⟨⟨j + 1, by omega, by (first | rfl | go_num), HRN, HCN⟩, by simp [intOf]; omega⟩
       ·obtain rfl : j = m1 := by omega
        have hlj' : ¬ (j : Int) < (j : Int) := by omega
        have HRN := hide (show RoV wr g n (fun v => .bool (mkB (lvL os ys (k + 1)) v)) from (unhide HRj).congr (fun v _ => by rw [unhide HLY, List.take_of_length_le (by omega)]))
        have HCN := hide (show Chg (fun j => j = g) wm wr from (unhide HC1).trans (unhide HCj))
        clear hml
        go_wp2_with fail
        exact ⟨⟨k + 1, by omega, by have h1 := (unhide HE).1; (first | (congr 1; omega) | (simp; omega) | go_num), HRN, HCN⟩, by have h1 := (unhide HE).1; (first | (simp [intOf]; done) | (simp [intOf]; omega))⟩
    ·obtain rfl : k = n := by omega
     have e1 : (k : Int) - 1 - (k : Int) = -1 := by omega
     rw [e1] at hiv
     subst hiv
     go_wp2_with fail
     try go_ret
     exact ⟨g, rfl, by have h1 := (unhide HN).2.2.1; have h2 := unhide HG; omega, unhide HRr, (unhide HA).trans ((unhide HBA).mono (unhide HA).size)⟩
theorem Tryz.info_bools : (Tryz.prog.info? 55).map (fun i => (i.zero, i.size, i.bytes)) = some (some (.slice none 0 0), 1, 24) := by kernel_rfl
def hgJ (os : List On) (k : Nat) (o : On) (l : List Int) (j v : Nat) : Bool := if v = k then ((decide (o.k = 1) && decide (o.a = (j : Int))) || l.any (fun a => hgF os k a.toNat j)) else hgF os k v j
theorem hgJ_end {os : List On} {k : Nat} {o : On} (ho : os[k]? = some o) (j v : Nat) : hgJ os k o (opsL o) j v = hgF os (k + 1) v j := by
 rw [hgF_next ho]
 rfl
theorem hgJ_zero (os : List On) (k : Nat) (o : On) (j v : Nat) (bv : Bool) (h : (decide (o.k = 1) && decide (o.a = (j : Int))) = bv) : hgJ os k o [] j v = if v = k then bv else hgF os k v j := by
 unfold hgJ
 rw [h]
 simp
theorem hgJ_next (os : List On) (k : Nat) (o : On) (l : List Int) (x j v : Nat) : hgJ os k o (l ++ [(x : Int)]) j v = if v = k then hgJ os k o l j k || hgF os k x j else hgJ os k o l j v := by
 unfold hgJ
 by_cases e : v = k
 ·simp only [if_pos e, if_true, List.any_append, List.any_cons, List.any_nil, Bool.or_false, Int.toNat_natCast, Bool.or_assoc]
 ·simp only [if_neg e]
theorem hgJ_old {os : List On} {k : Nat} {o : On} {l : List Int} {j v : Nat} (h : v < k) : hgJ os k o l j v = hgF os k v j := by
 unfold hgJ
 rw [if_neg (by omega)]
structure HgI (w1 W : World) (lv : Value) (vs : List Value) (n : Nat) (f : Nat → Nat → Bool) : Prop where
 own : W.ownsRow w1.heap.size 55 1 lv vs.length vs
 each : ∀ j, j < vs.length → ∃ g, vs.getD j (.slice none 0 0) = .slice (some ⟨g, 0, none⟩) n n ∧ (w1.heap.size ≤ g ∧ g < W.heap.size) ∧ RoV W g n (fun v => .bool (f v j)) ∧ lv.ownBlock ≠ some g
 bel : Below w1.heap.size w1 W
theorem HgI.nil (w : World) (n : Nat) (f : Nat → Nat → Bool) : HgI w w (.slice none 0 0) [] n f := ⟨World.ownsRow_nil _ _ _ _, fun j hj => by simp at hj, Below.refl _ _⟩
theorem HgI.chg {w1 W W' : World} {lv : Value} {vs : List Value} {n : Nat} {f : Nat → Nat → Bool} (h : HgI w1 W lv vs n f) (k : Below W.heap.size W W') : HgI w1 W' lv vs n f :=
 ⟨ownsRow_chg (S := fun _ => False) h.own (Chg.of_below k) (fun _ _ x => x), fun j hj => by
  obtain ⟨g, e, hg, hr, hne⟩ := h.each j hj
  exact ⟨g, e, ⟨hg.1, Nat.lt_of_lt_of_le hg.2 k.size⟩, hr.below k, hne⟩, h.bel.trans (k.mono h.bel.size)⟩
theorem own_atB {w : World} {base : Nat} {e : TypeId} {v : Value} {n : Nat} {xs : List Value} (h : w.ownsRow base e 1 v n xs) : ∃ a c, v = .slice a n c ∧ n ≤ maxLen ∧ ∀ k (hk : k < xs.length), ∃ g, a = some ⟨g, 0, none⟩ ∧ w.cell? ⟨g, k, none⟩ = some xs[k] := by
 obtain ⟨hl, h2⟩ := h
 rcases h2 with ⟨h2, h3⟩ | ⟨g', cap, cur, h3, h4, h5, h6, h7, h8, h9⟩
 ·subst h2 h3
  exact ⟨none, 0, rfl, Nat.zero_le _, fun k hk => by omega⟩
 ·refine ⟨_, cap, h3, by omega, fun k hk => ⟨g', rfl, ?_⟩⟩
  rw [cell_of_block h5]
  have : xs[k]? = some xs[k] := List.getElem?_eq_getElem hk
  rw [← this, ← h9, List.getElem?_take, if_pos (by omega), Array.getElem?_toList]

theorem RoV.keptB {W W3 : World} {lv : Value} {o : Obj} {g n : Nat} {f : Nat → Value} (h : RoV W g n f) (hl : g < W.heap.size) (hne : lv.ownBlock ≠ some g) (hg : (W.alloc o).grownBy W3 lv.ownBlock) : RoV W3 g n f := fun i hi =>
 ⟨(hg.cell_far ⟨g, i, none⟩ (by simp; omega) (fun e => hne e.symm)).trans ((World.cell?_alloc_lt _ _ _ hl).trans (h i hi).1), (hg.frozen_far ⟨g, i, none⟩ (by simp; omega) (fun e => hne e.symm)).trans ((World.frozen?_alloc_old _ _ _ (Nat.ne_of_lt hl)).trans (h i hi).2)⟩
theorem HgI.app {w1 W W3 : World} {lv : Value} {vs : List Value} {n g0 g cap : Nat} {f : Nat → Nat → Bool} (h : HgI w1 W lv vs n f) (o : Obj) (hr : RoV W g0 n (fun v => .bool (f v vs.length))) (hg0 : w1.heap.size ≤ g0 ∧ g0 < W.heap.size) (hne : lv.ownBlock ≠ some g0) (hown : W3.ownsRow w1.heap.size 55 1 (.slice (some ⟨g, 0, none⟩) (vs.length + 1) cap) (vs.length + 1) (vs ++ [.slice (some ⟨g0, 0, none⟩) n n])) (hg : (W.alloc o).grownBy W3 lv.ownBlock) (hat : lv.ownBlock = some g ∨ g = W.heap.size + 1) :
  HgI w1 W3 (.slice (some ⟨g, 0, none⟩) (vs.length + 1) cap) (vs ++ [.slice (some ⟨g0, 0, none⟩) n n]) n f := by
 have hsz : W.heap.size ≤ W3.heap.size := by have := hg.size; simp at this; omega
 have far : ∀ x, x < W.heap.size → lv.ownBlock ≠ some x → (Value.slice (some ⟨g, 0, none⟩) (vs.length + 1) cap).ownBlock ≠ some x := fun x hx hn e => by
  have e2 : g = x := by simpa [Value.ownBlock] using e
  rcases hat with c | c
  ·rw [e2] at c; exact hn c
  ·omega
 refine ⟨by simpa using hown, fun j hj => ?_, ?_⟩
 ·by_cases e : j < vs.length
  ·obtain ⟨gr, e1, e2, e3, e4⟩ := h.each j e
   exact ⟨gr, by rw [← e1]; simp [List.getD, List.getElem?_append_left e], ⟨e2.1, by omega⟩, e3.keptB e2.2 e4 hg, far gr e2.2 e4⟩
  ·have ej : j = vs.length := by simp at hj; omega
   subst ej
   exact ⟨g0, by simp [List.getD], ⟨hg0.1, by omega⟩, hr.keptB hg0.2 hne hg, far g0 hg0.2 hne⟩
 ·exact h.bel.trans (Below.grown ((Below.refl _ W).alloc h.bel.size o) hg (by simp; have := h.bel.size; omega) (fun j hj => (own_ge h.own j hj).1))
theorem HgI.tab {w1 W : World} {lv : Value} {vs : List Value} {n I : Nat} {f : Nat → Nat → Bool} (h : HgI w1 W lv vs n f) (hv : vs.length = I) : ∃ a c, lv = .slice a I c ∧ HgT W a I n f := by
 subst hv
 obtain ⟨a, c, e, _, hc⟩ := own_atB h.own
 refine ⟨a, c, e, ⟨fun j hj => ?_⟩⟩
 obtain ⟨G, e1, e2⟩ := hc j hj
 obtain ⟨g, e3, _, e4, _⟩ := h.each j hj
 refine ⟨G, g, e1, ?_, e4⟩
 rw [e2, ← e3, List.getD_eq_getElem?_getD, List.getElem?_eq_getElem hj]
 rfl
set_option maxRecDepth 100000 in
set_option maxHeartbeats 32000000 in
theorem whangs_any (i : Int) (a : Option Addr) (n c : Nat) (os : List On) (b : Option Addr) (m d : Nat) (ys : List Int) (w : World) (hs : SlO w a n c os) (hk : TpOk i os ys) :
  Calls Tryz.prog 24 #[tapV i a n c b m d] w fun e w' => ∃ h hc, e = .returned (.slice h i.toNat hc) ∧ HgT w' h i.toNat n (hgF os n) ∧ Below w.heap.size w w' := by
 have hn := hs.len
 have hn2 : n ≤ 2048 := by have := hk.lo; omega
 obtain ⟨wa, hwa⟩ : ∃ x, w.alloc (.cells #[.int .i64 i, .slice a n c, .slice b m d] 25) = x := ⟨_, rfl⟩
 have bx : BoxP wa w.heap.size [.int .i64 i, .slice a n c, .slice b m d] := by rw [← hwa]; exact BoxP.made _ _ _
 have hba : Below w.heap.size w wa := by rw [← hwa]; exact (Below.refl _ _).alloc (Nat.le_refl _) _
 have g0 := (bx.all 0 _ rfl).1
 have g1 := (bx.all 1 _ rfl).1
 have HMK := hide (fun W => make_boolsP n (by omega) W)
 obtain ⟨I, rfl⟩ : ∃ I : Nat, i = (I : Int) := ⟨i.toNat, by have := hk.li; omega⟩
 have hI : I ≤ 64 := by have := hk.li; omega
 rw [Int.toNat_natCast]
 obtain ⟨i24, hi, hz, hsi, hb⟩ := info_parts Tryz.info_bools
 have HI := hide (And.intro hi (And.intro hz (And.intro hsi hb)))
 have HA := hide hba
 have HS := hide (hs.below hba)
 have HK := hide hk
 have HN := hide hn
 have zlt : w.heap.size < wa.heap.size := bx.lt
 clear bx hba hs hk hn hi hz hsi hb
 unfold tapV
 go_enter Tryz.func24, Tryz.ntmps24
 go_wp2_with fail
 go_loopw [4, 3] (fun jv lv wr => ∃ (j : Nat) (vs : List Value), j ≤ I ∧ jv = .int .i64 (j : Int) ∧ vs.length = j ∧ Hid (HgI wa wr lv vs n (hgF os n))) (fun jv _ _ => I - (intOf jv).toNat)
 case atStart => exact ⟨0, [], Nat.zero_le _, rfl, rfl, hide (HgI.nil _ _ _)⟩
 case round =>
  obtain ⟨j, vs, hj, rfl, hvs, HL⟩ := hrel
  have HVS := hide hvs
  have r0 := ((unhide HL).bel.cell (World.block_lt_of_cell? _ _ g0)).trans g0
  have r1 := ((unhide HL).bel.cell (World.block_lt_of_cell? _ _ g1)).trans g1
  clear hvs
  by_cases hjl : j < I
  ·have hjl' : (j : Int) < (I : Int) := by omega
   have hmk' := unhide HMK wr
   have hR := RoV.made wr n 4 (.bool false)
   obtain ⟨wm, hwm⟩ : ∃ x, wr.alloc (.cells (madeCells #[.bool false] n) 4) = x := ⟨_, rfl⟩
   have bm : Below wr.heap.size wr wm := by rw [← hwm]; exact (Below.refl _ _).alloc (Nat.le_refl _) _
   have hgm : wr.heap.size < wm.heap.size := by rw [← hwm]; simp
   rw [hwm] at hmk' hR
   obtain ⟨g, hg⟩ : ∃ g, wr.heap.size = g := ⟨_, rfl⟩
   have HG := hide (And.intro hg hgm)
   have HM := hide bm
   have HR := hide (show RoV wm g n (fun v => .bool (hgF os 0 v j)) from by
    rw [hg] at hR
    exact hR)
   rw [hg] at hmk'
   clear bm hR hwm hgm hg
   go_wp2_with fail
   have KP : ∀ w2, Hid (Chg (fun x => x = g) wm w2) → Below wr.heap.size wr w2 := fun w2 h => (unhide HM).trans ((unhide h).below (unhide HM).size (fun x hx e => by have := (unhide HG).1; omega))
   go_loopw [6] (fun iv w2 => ∃ k : Nat, k ≤ n ∧ iv = .int .i64 (k : Int) ∧ Hid (RoV w2 g n (fun v => .bool (hgF os k v j))) ∧ Hid (Chg (fun x => x = g) wm w2)) (fun iv _ => n - (intOf iv).toNat)
   case atStart => exact ⟨0, Nat.zero_le _, rfl, HR, hide (Chg.refl _ _)⟩
   case round =>
    obtain ⟨k, hkn, rfl, HRr, HC⟩ := hrel
    have HBA := hide (KP wr HC)
    have q0 := ((unhide HBA).cell (World.block_lt_of_cell? _ _ r0)).trans r0
    have q1 := ((unhide HBA).cell (World.block_lt_of_cell? _ _ r1)).trans r1
    clear hmk'
    by_cases hlt : k < n
    ·have hlt' : (k : Int) < (n : Int) := by omega
     obtain ⟨b1, off, o, rfl, ho, O, hok⟩ := (((unhide HS).below (unhide HL).bel).below (unhide HBA)).at' hlt
     obtain ⟨c0, c1, c2, c3, c4, c5, c6⟩ := O
     have hop := op_ok ((unhide HK).op k o ho)
     have HP := hide (fun (W : World) => (by
      have K := woperands_any o hop.1.1 hop.1.2 W
      unfold opV at K
      exact K : Calls Tryz.prog 39 #[.agg #[.int .i64 o.k, .int .i64 o.a, .int .i64 o.b, .int .i64 o.n, .bool o.p.g, .slice o.p.a o.p.n o.p.c, .slice o.p.b o.p.m o.p.d]] W (OpsA W (opsL o))))
     have HO := hide ho
     have HOP := hide hop.2.1
     have gk := unhide HRr k hlt
     obtain ⟨W3, hW3⟩ : ∃ x, wr.alloc (.cells #[.int .i64 o.k, .int .i64 o.a, .int .i64 o.b, .int .i64 o.n, .bool o.p.g, .slice o.p.a o.p.n o.p.c, .slice o.p.b o.p.m o.p.d] 73) = x := ⟨_, rfl⟩
     have bx3 : BoxP W3 wr.heap.size [.int .i64 o.k, .int .i64 o.a, .int .i64 o.b, .int .i64 o.n, .bool o.p.g, .slice o.p.a o.p.n o.p.c, .slice o.p.b o.p.m o.p.d] := by rw [← hW3]; exact BoxP.made _ _ _
     have b3 : Below wr.heap.size wr W3 := by rw [← hW3]; exact (Below.refl _ _).alloc (Nat.le_refl _) _
     have y0 := (bx3.all 0 _ rfl).1
     have y1 := (bx3.all 1 _ rfl).1
     have z0 : W3.cell? ⟨g, k, none⟩ = some (.bool (hgF os k k j)) := (((unhide HRr).below b3) k hlt).1
     have zf : W3.frozen? ⟨g, k, none⟩ = false := (((unhide HRr).below b3) k hlt).2
     clear hok hop ho
     obtain ⟨t2, ht2⟩ : ∃ t, (o.a == (j : Int)) = t := ⟨_, rfl⟩
     cases t1 : (o.k == 1)
     ·obtain ⟨Wz, hWz⟩ : ∃ x, W3.setCell ⟨g, k, none⟩ (.bool false) = x := ⟨_, rfl⟩
      have hcz : Chg (fun x => x = g) W3 Wz := by rw [← hWz]; exact Chg.of_set _ _ _ _ rfl
      have bz := bx3.chg hcz (fun e => by have h1 := (unhide HG).1; have h2 := (unhide HG).2; have h3 := (unhide HC).size; omega)
      have x0 := (bz.all 0 _ rfl).1
      have x1 := (bz.all 1 _ rfl).1
      have x2 := (bz.all 2 _ rfl).1
      have x3 := (bz.all 3 _ rfl).1
      have x4 := (bz.all 4 _ rfl).1
      have x5 := (bz.all 5 _ rfl).1
      have x6 := (bz.all 6 _ rfl).1
      have HCz := hide (((unhide HC).trans (Chg.of_below b3)).trans hcz)
      have HRz := hide (show RoV Wz g n (fun v => .bool (hgJ os k o ((opsL o).take 0) j v)) from by
       rw [← hWz]
       refine (((unhide HRr).below b3).put k (.bool false) hlt).congr (fun v hv => ?_)
       rw [show (opsL o).take 0 = [] from rfl, hgJ_zero os k o j v false (by have e : o.k ≠ 1 := (by simpa using t1); simp [e])]
       by_cases e : v = k
       ·rw [if_pos e, if_pos e]
       ·rw [if_neg e, if_neg e])
      clear hcz bz bx3 b3 gk HC HRr HBA
      go_wp2_with fail
      refine (unhide HP _).mono ?_
      rintro _ w4 ⟨z, m1, c1', rfl, hz, hnew, bE⟩
      have HZ := hide hz
      have HNW := hide (show ∀ y, z = some y → y.block ≠ g from fun y e h => by have h1 := hnew y e; have h2 := (unhide HCz).size; have h3 := unhide HG; omega)
      have HC1 := hide ((unhide HCz).trans (Chg.of_below bE))
      have HR1 := hide ((unhide HRz).below bE)
      clear hz hnew bE HP x0 x1 x2 x3 x4 x5 x6 c0 c1 c2 c3 c4 c5 c6 y0 y1 z0 zf hWz HCz HRz
      go_wp2_with fail
      go_loopw [9] (fun pv wr' => ∃ q : Nat, q ≤ m1 ∧ pv = .int .i64 (q : Int) ∧ Hid (RoV wr' g n (fun v => .bool (hgJ os k o ((opsL o).take q) j v))) ∧ Hid (Chg (fun x => x = g) w4 wr')) (fun pv _ => m1 - (intOf pv).toNat)
      case atStart => exact ⟨0, Nat.zero_le _, rfl, HR1, hide (Chg.refl _ _)⟩
      case round =>
       obtain ⟨q, hq, rfl, HRj, HCj⟩ := hrel
       have hml := (unhide HZ).len
       have hm12 : m1 ≤ 2 := by have := opsL_len o; omega
       by_cases hlq : q < m1
       ·have hlq' : (q : Int) < (m1 : Int) := by omega
        have hzz := (unhide HZ).chg (unhide HCj) (fun y e hne h => unhide HNW y e h)
        obtain ⟨zb, zo, rfl, hc⟩ := hzz.at (by omega)
        have sk := hc q hlq
        obtain ⟨v, hv⟩ : ∃ v : Nat, (opsL o).getD q 0 = (v : Int) ∧ v < k := by
         have h1 := unhide HOP ((opsL o).getD q 0) (by rw [List.getD_eq_getElem?_getD, List.getElem?_eq_getElem (by omega)]; exact List.getElem_mem (by omega))
         exact ⟨((opsL o).getD q 0).toNat, by omega, by omega⟩
        obtain ⟨hv, hvk⟩ := hv
        have hnx := take_next (l := opsL o) (j := q) (by omega)
        rw [hv] at sk hnx
        have HNX := hide hnx
        have hvn' : (v : Int) < (n : Int) := by omega
        have qv : wr.cell? ⟨g, v, none⟩ = some (.bool (hgF os k v j)) := by
         have h := (unhide HRj v (by omega)).1
         dsimp only at h
         rw [hgJ_old hvk] at h
         exact h
        have qk : wr.cell? ⟨g, k, none⟩ = some (.bool (hgJ os k o ((opsL o).take q) j k)) := (unhide HRj k (by omega)).1
        have q2 := (unhide HRj k (by omega)).2
        obtain ⟨x, hx⟩ : ∃ x, hgF os k v j = x := ⟨_, rfl⟩
        obtain ⟨y, hy⟩ : ∃ y, hgJ os k o ((opsL o).take q) j k = y := ⟨_, rfl⟩
        rw [hx] at qv
        rw [hy] at qk
        have HRN := hide (show RoV (wr.setCell ⟨g, k, none⟩ (.bool (y || x))) g n (fun u => .bool (hgJ os k o ((opsL o).take (q + 1)) j u)) from ((unhide HRj).put k (.bool (y || x)) (by omega)).congr (fun u hu => by
         rw [unhide HNX, hgJ_next]
         by_cases e : u = k
         ·rw [if_pos e, if_pos e, hx, hy]
         ·rw [if_neg e, if_neg e]))
        have HCN := hide (show Chg (fun x => x = g) w4 (wr.setCell ⟨g, k, none⟩ (.bool (y || x))) from (unhide HCj).trans (Chg.of_set _ _ _ _ rfl))
        clear hc hzz hv hnx hx hy
        cases y
        ·simp only [Bool.false_or] at HRN HCN
         go_wp2_with fail
         exact ⟨⟨q + 1, by omega, by (first | rfl | go_num), HRN, HCN⟩, by simp [intOf]; omega⟩
        ·simp only [Bool.true_or] at HRN HCN
         go_wp2_with fail
         exact ⟨⟨q + 1, by omega, by (first | rfl | go_num), HRN, HCN⟩, by simp [intOf]; omega⟩
       ·obtain rfl : q = m1 := by omega
        have hlq' : ¬ (q : Int) < (q : Int) := by omega
        have HRN := hide (show RoV wr g n (fun v => .bool (hgF os (k + 1) v j)) from (unhide HRj).congr (fun v _ => by rw [List.take_of_length_le (by omega), hgJ_end (unhide HO)]))
        have HCN := hide (show Chg (fun x => x = g) wm wr from (unhide HC1).trans (unhide HCj))
        clear hml
        go_wp2_with fail
        exact ⟨⟨k + 1, by omega, by (first | rfl | go_num), HRN, HCN⟩, by simp [intOf]; omega⟩
     ·obtain ⟨Wz, hWz⟩ : ∃ x, W3.setCell ⟨g, k, none⟩ (.bool t2) = x := ⟨_, rfl⟩
      have hcz : Chg (fun x => x = g) W3 Wz := by rw [← hWz]; exact Chg.of_set _ _ _ _ rfl
      have bz := bx3.chg hcz (fun e => by have h1 := (unhide HG).1; have h2 := (unhide HG).2; have h3 := (unhide HC).size; omega)
      have x0 := (bz.all 0 _ rfl).1
      have x1 := (bz.all 1 _ rfl).1
      have x2 := (bz.all 2 _ rfl).1
      have x3 := (bz.all 3 _ rfl).1
      have x4 := (bz.all 4 _ rfl).1
      have x5 := (bz.all 5 _ rfl).1
      have x6 := (bz.all 6 _ rfl).1
      have HCz := hide (((unhide HC).trans (Chg.of_below b3)).trans hcz)
      have HRz := hide (show RoV Wz g n (fun v => .bool (hgJ os k o ((opsL o).take 0) j v)) from by
       rw [← hWz]
       refine (((unhide HRr).below b3).put k (.bool t2) hlt).congr (fun v hv => ?_)
       rw [show (opsL o).take 0 = [] from rfl, hgJ_zero os k o j v t2 (by have e : o.k = 1 := (by simpa using t1); rw [← ht2, e]; rw [show (o.a == (j : Int)) = decide (o.a = (j : Int)) from rfl]; simp)]
       by_cases e : v = k
       ·rw [if_pos e, if_pos e]
       ·rw [if_neg e, if_neg e])
      clear hcz bz bx3 b3 gk HC HRr HBA
      go_wp2_with fail
      refine (unhide HP _).mono ?_
      rintro _ w4 ⟨z, m1, c1', rfl, hz, hnew, bE⟩
      have HZ := hide hz
      have HNW := hide (show ∀ y, z = some y → y.block ≠ g from fun y e h => by have h1 := hnew y e; have h2 := (unhide HCz).size; have h3 := unhide HG; omega)
      have HC1 := hide ((unhide HCz).trans (Chg.of_below bE))
      have HR1 := hide ((unhide HRz).below bE)
      clear hz hnew bE HP x0 x1 x2 x3 x4 x5 x6 c0 c1 c2 c3 c4 c5 c6 y0 y1 z0 zf hWz HCz HRz
      go_wp2_with fail
      go_loopw [9] (fun pv wr' => ∃ q : Nat, q ≤ m1 ∧ pv = .int .i64 (q : Int) ∧ Hid (RoV wr' g n (fun v => .bool (hgJ os k o ((opsL o).take q) j v))) ∧ Hid (Chg (fun x => x = g) w4 wr')) (fun pv _ => m1 - (intOf pv).toNat)
      case atStart => exact ⟨0, Nat.zero_le _, rfl, HR1, hide (Chg.refl _ _)⟩
      case round =>
       obtain ⟨q, hq, rfl, HRj, HCj⟩ := hrel
       have hml := (unhide HZ).len
       have hm12 : m1 ≤ 2 := by have := opsL_len o; omega
       by_cases hlq : q < m1
       ·have hlq' : (q : Int) < (m1 : Int) := by omega
        have hzz := (unhide HZ).chg (unhide HCj) (fun y e hne h => unhide HNW y e h)
        obtain ⟨zb, zo, rfl, hc⟩ := hzz.at (by omega)
        have sk := hc q hlq
        obtain ⟨v, hv⟩ : ∃ v : Nat, (opsL o).getD q 0 = (v : Int) ∧ v < k := by
         have h1 := unhide HOP ((opsL o).getD q 0) (by rw [List.getD_eq_getElem?_getD, List.getElem?_eq_getElem (by omega)]; exact List.getElem_mem (by omega))
         exact ⟨((opsL o).getD q 0).toNat, by omega, by omega⟩
        obtain ⟨hv, hvk⟩ := hv
        have hnx := take_next (l := opsL o) (j := q) (by omega)
        rw [hv] at sk hnx
        have HNX := hide hnx
        have hvn' : (v : Int) < (n : Int) := by omega
        have qv : wr.cell? ⟨g, v, none⟩ = some (.bool (hgF os k v j)) := by
         have h := (unhide HRj v (by omega)).1
         dsimp only at h
         rw [hgJ_old hvk] at h
         exact h
        have qk : wr.cell? ⟨g, k, none⟩ = some (.bool (hgJ os k o ((opsL o).take q) j k)) := (unhide HRj k (by omega)).1
        have q2 := (unhide HRj k (by omega)).2
        obtain ⟨x, hx⟩ : ∃ x, hgF os k v j = x := ⟨_, rfl⟩
        obtain ⟨y, hy⟩ : ∃ y, hgJ os k o ((opsL o).take q) j k = y := ⟨_, rfl⟩
        rw [hx] at qv
        rw [hy] at qk
        have HRN := hide (show RoV (wr.setCell ⟨g, k, none⟩ (.bool (y || x))) g n (fun u => .bool (hgJ os k o ((opsL o).take (q + 1)) j u)) from ((unhide HRj).put k (.bool (y || x)) (by omega)).congr (fun u hu => by
         rw [unhide HNX, hgJ_next]
         by_cases e : u = k
         ·rw [if_pos e, if_pos e, hx, hy]
         ·rw [if_neg e, if_neg e]))
        have HCN := hide (show Chg (fun x => x = g) w4 (wr.setCell ⟨g, k, none⟩ (.bool (y || x))) from (unhide HCj).trans (Chg.of_set _ _ _ _ rfl))
        clear hc hzz hv hnx hx hy
        cases y
        ·simp only [Bool.false_or] at HRN HCN
         go_wp2_with fail
         exact ⟨⟨q + 1, by omega, by (first | rfl | go_num), HRN, HCN⟩, by simp [intOf]; omega⟩
        ·simp only [Bool.true_or] at HRN HCN
         go_wp2_with fail
         exact ⟨⟨q + 1, by omega, by (first | rfl | go_num), HRN, HCN⟩, by simp [intOf]; omega⟩
       ·obtain rfl : q = m1 := by omega
        have hlq' : ¬ (q : Int) < (q : Int) := by omega
        have HRN := hide (show RoV wr g n (fun v => .bool (hgF os (k + 1) v j)) from (unhide HRj).congr (fun v _ => by rw [List.take_of_length_le (by omega), hgJ_end (unhide HO)]))
        have HCN := hide (show Chg (fun x => x = g) wm wr from (unhide HC1).trans (unhide HCj))
        clear hml
        go_wp2_with fail
        exact ⟨⟨k + 1, by omega, by (first | rfl | go_num), HRN, HCN⟩, by simp [intOf]; omega⟩
    ·obtain rfl : k = n := by omega
     have hlt' : ¬ (k : Int) < (k : Int) := by omega
     have HL2 := hide ((unhide HL).chg (unhide HBA))
     have hL3 := (unhide HG)
     have hsw := (unhide HBA).size
     have hvl := unhide HVS
     have hmx : vs.length + 1 ≤ maxLen := by unfold maxLen; omega
     have hby : (vs.length + 1) * 24 ≤ 140737488355328 := by omega
     have hone : ∀ z ∈ [Value.slice (some ⟨g, 0, none⟩) k k], z.oneCell' = true := by intro z hz; simp at hz; subst hz; rfl
     have hle := (unhide HL2).bel.size
     have HRV := hide (show RoV wr g k (fun v => .bool (hgF os k v vs.length)) from by rw [unhide HVS]; exact unhide HRr)
     have HNE := hide (show u3.ownBlock ≠ some g from fun e => by have h1 := (own_ge (unhide HL).own g e).2; have h2 := (unhide HG).1; omega)
     have HG0 := hide (show wa.heap.size ≤ g ∧ g < wr.heap.size from by have h1 := (unhide HL).bel.size; have h2 := (unhide HC).size; omega)
     clear hL3 hsw hvl HRr
     go_wp2_with (at_builtin; refine wpList_append_lies _ rfl _ _ 78 rfl wa.heap.size 55 i24 (.slice none 0 0) 1 24 Tryz.underlying78 (unhide HI).1 (unhide HI).2.1 (unhide HI).2.2.1 (unhide HI).2.2.2 rfl (by decide) _ vs.length vs rfl ((unhide HL2).own.alloc _) ⟨wr.heap.size, 0, none⟩ 1 1 [.slice (some ⟨g, 0, none⟩) k k] rfl rfl (World.news_of_block (alloc_block _ _)) hone (by decide) hmx hby (by simp; omega) (wr.heap.size + 1) (by simp) ?_)
     intro g2 cap2 w11 hown hg2 hat hlt4
     have HNX := hide (HgI.app (unhide HL2) _ (unhide HRV) (unhide HG0) (unhide HNE) hown hg2 hat)
     have HVL := hide (show (vs ++ [Value.slice (some ⟨g, 0, none⟩) k k]).length = j + 1 from by simp [unhide HVS])
     clear hown hg2 hat hlt4
     go_wp2_with fail
     exact ⟨⟨j + 1, _, by omega, by (first | rfl | go_num), unhide HVL, HNX⟩, by simp [intOf]; omega⟩
  ·obtain rfl : j = I := by omega
   have hjl' : ¬ (j : Int) < (j : Int) := by omega
   obtain ⟨ha, hc, rfl, hT⟩ := (unhide HL).tab (unhide HVS)
   have HT := hide (And.intro hT (unhide HL).bel)
   clear hT HL
   go_wp2_with fail
   try go_ret
   exact ⟨ha, ⟨hc, rfl⟩, (unhide HT).1, (unhide HA).trans ((unhide HT).2.mono (unhide HA).size)⟩
end Go.Proofs.YtbbicappjicblaaGreatDoor
