/- Th3 -/
import Derived.Test.YtpicknbdfjjflaaGreatDoorTh2
import Derived.Lib.MinMax
namespace Go.Proofs.YtpicknbdfjjflaaGreatDoor
open Go.RowKit Go.Deep
set_option linter.unusedVariables false
def dmx (f : Nat → Int) (l : List Int) : Int := l.foldl (fun c n => max c (f n.toNat + 1)) 0
theorem dmx_app (f : Nat → Int) (l : List Int) (v : Nat) : dmx f (l ++ [(v : Int)]) = max (dmx f l) (f v + 1) := by
  unfold dmx
  rw [List.foldl_append]
  simp
def dpF (os : List On) : Nat → Nat → Int
  | 0 => fun _ => 0
  | k + 1 => fun v => if v = k then (match os[k]? with | some o => dmx (dpF os k) (opsL o) | none => 0) else dpF os k v
theorem dmx_le {f : Nat → Int} {b : Int} (hb : 0 ≤ b) (hf : ∀ v, 0 ≤ f v ∧ f v ≤ b) (l : List Int) : 0 ≤ dmx f l ∧ dmx f l ≤ b + 1 := by
  unfold dmx
  have h : ∀ (l : List Int) (c : Int), 0 ≤ c ∧ c ≤ b + 1 → 0 ≤ l.foldl (fun c n => max c (f n.toNat + 1)) c ∧ l.foldl (fun c n => max c (f n.toNat + 1)) c ≤ b + 1 := by
    intro l
    induction l with
    | nil => intro c hc; exact hc
    | cons x l ih =>
      intro c hc
      have := hf x.toNat
      exact ih (max c (f x.toNat + 1)) (by omega)
  exact h l 0 (by omega)
theorem dpF_le (os : List On) : ∀ k v, 0 ≤ dpF os k v ∧ dpF os k v ≤ k
  | 0, v => by simp [dpF]
  | k + 1, v => by
    have ih := dpF_le os k
    show 0 ≤ (if v = k then (match os[k]? with | some o => dmx (dpF os k) (opsL o) | none => 0) else dpF os k v) ∧ (if v = k then (match os[k]? with | some o => dmx (dpF os k) (opsL o) | none => 0) else dpF os k v) ≤ ((k + 1 : Nat) : Int)
    split
    · cases os[k]? with
      | none => simp; omega
      | some o =>
        have := dmx_le (b := (k : Int)) (by omega) ih (opsL o)
        simp only
        omega
    · have := ih v
      omega
theorem dpF_zero (os : List On) : ∀ k v, k ≤ v → dpF os k v = 0
  | 0, v, _ => rfl
  | k + 1, v, h => by
    show (if v = k then _ else dpF os k v) = 0
    rw [if_neg (by omega)]
    exact dpF_zero os k v (by omega)
theorem dpF_next {os : List On} {k : Nat} {o : On} (h : os[k]? = some o) (v : Nat) : dpF os (k + 1) v = if v = k then dmx (dpF os k) (opsL o) else dpF os k v := by
  show (if v = k then (match os[k]? with | some o => dmx (dpF os k) (opsL o) | none => 0) else dpF os k v) = _
  rw [h]
def dpJ (os : List On) (k : Nat) (l : List Int) (v : Nat) : Int := if v = k then dmx (dpF os k) l else dpF os k v
set_option maxRecDepth 100000 in
set_option maxHeartbeats 32000000 in
theorem tdepths_any (i : Int) (a : Option Addr) (n c : Nat) (os : List On) (ys : List Int) (w : World) (hs : SlO w a n c os) (hk : TpOk i os ys) :
    Calls Tryz.prog 58 #[.slice a n c] w fun e w' => ∃ g, e = .returned (.slice (some ⟨g, 0, none⟩) n n) ∧ w.heap.size ≤ g ∧ RoV w' g n (fun v => .int .i64 (dpF os n v)) ∧ Below w.heap.size w w' := by
  have hn := hs.len
  have hn2 : n ≤ 2048 := by have := hk.lo; omega
  have hmk := make_intsT n (by omega) w
  have hR := RoV.made w n 3 (.int .i64 0)
  obtain ⟨wm, hwm⟩ : ∃ x, w.alloc (.cells (madeCells #[.int .i64 0] n) 3) = x := ⟨_, rfl⟩
  have bm : Below w.heap.size w wm := by rw [← hwm]; exact (Below.refl _ _).alloc (Nat.le_refl _) _
  have hgm : w.heap.size < wm.heap.size := by rw [← hwm]; simp
  rw [hwm] at hmk hR
  obtain ⟨g, hg⟩ : ∃ g, w.heap.size = g := ⟨_, rfl⟩
  have HG := hide hg
  have HM := hide bm
  have HS := hide hs
  have HK := hide hk
  have HN := hide (And.intro hn hgm)
  have HR := hide (show RoV wm g n (fun v => .int .i64 (dpF os 0 v)) from by
    rw [hg] at hR
    exact hR)
  rw [hg] at hmk
  clear bm hs hR hk hwm hgm hn hg
  go_enter Tryz.func58, Tryz.ntmps58
  go_wp2_with fail
  have KP : ∀ wr, Hid (Chg (fun j => j = g) wm wr) → Below w.heap.size w wr := fun wr h => (unhide HM).trans ((unhide h).below (unhide HM).size (fun j hj e => by have := unhide HG; omega))
  go_loopw [12] (fun iv wr => ∃ k : Nat, k ≤ n ∧ iv = .int .i64 (k : Int) ∧ Hid (RoV wr g n (fun v => .int .i64 (dpF os k v))) ∧ Hid (Chg (fun j => j = g) wm wr)) (fun iv _ => n - (intOf iv).toNat)
  case atStart => exact ⟨0, Nat.zero_le _, rfl, HR, hide (Chg.refl _ _)⟩
  case round =>
    obtain ⟨k, hkn, rfl, HRr, HC⟩ := hrel
    have HBA := hide (KP wr HC)
    by_cases hlt : k < n
    · have hlt' : (k : Int) < (n : Int) := by omega
      obtain ⟨b1, off, o, rfl, ho, O, hok⟩ := ((unhide HS).below (unhide HBA)).at' hlt
      obtain ⟨c0, c1, c2, c3, c4, c5, c6⟩ := O
      have hop := op_ok ((unhide HK).op k o ho)
      have HP := hide (fun (W : World) => (by
        have K := toperands_any o hop.1.1 hop.1.2 W
        unfold opV at K
        exact K : Calls Tryz.prog 63 #[.agg #[.int .i64 o.k, .int .i64 o.a, .int .i64 o.b, .int .i64 o.n, .bool o.p.g, .slice o.p.a o.p.n o.p.c, .slice o.p.b o.p.m o.p.d]] W (OpsA W (opsL o))))
      have HO := hide ho
      have HOP := hide hop.2.1
      clear hok hop ho
      go_wp2_with fail
      refine (unhide HP _).mono ?_
      rintro _ w1 ⟨z, m1, c1', rfl, hz, hnew, bE⟩
      have HZ := hide hz
      have HNW := hide (show ∀ y, z = some y → y.block ≠ g from fun y e h => by have h1 := hnew y e; have h2 := (unhide HC).size; have h3 := (unhide HN).2; have h4 := unhide HG; omega)
      have HC1 := hide ((unhide HC).trans (Chg.of_below bE))
      have HR1 := hide (show RoV w1 g n (fun v => .int .i64 (dpJ os k ((opsL o).take 0) v)) from ((unhide HRr).below bE).congr (fun v _ => by
        unfold dpJ
        split
        · rename_i e
          rw [e, dpF_zero os k k (Nat.le_refl _)]
          rfl
        · rfl))
      clear hz hnew bE HP c0 c1 c2 c3 c4 c5 c6
      go_wp2_with fail
      go_loopw [21] (fun jv wr' => ∃ j : Nat, j ≤ m1 ∧ jv = .int .i64 (j : Int) ∧ Hid (RoV wr' g n (fun v => .int .i64 (dpJ os k ((opsL o).take j) v))) ∧ Hid (Chg (fun j => j = g) w1 wr')) (fun jv _ => m1 - (intOf jv).toNat)
      case atStart => exact ⟨0, Nat.zero_le _, rfl, HR1, hide (Chg.refl _ _)⟩
      case round =>
        obtain ⟨j, hj, rfl, HRj, HCj⟩ := hrel
        have hml := (unhide HZ).len
        have hm12 : m1 ≤ 2 := by have := opsL_len o; omega
        by_cases hlj : j < m1
        · have hlj' : (j : Int) < (m1 : Int) := by omega
          have hzz := (unhide HZ).chg (unhide HCj) (fun y e hne h => unhide HNW y e h)
          obtain ⟨zb, zo, rfl, hc⟩ := hzz.at (by omega)
          have sk := hc j hlj
          obtain ⟨v, hv⟩ : ∃ v : Nat, (opsL o).getD j 0 = (v : Int) ∧ v < k := by
            have h1 := unhide HOP ((opsL o).getD j 0) (by rw [List.getD_eq_getElem?_getD, List.getElem?_eq_getElem (by omega)]; exact List.getElem_mem (by omega))
            exact ⟨((opsL o).getD j 0).toNat, by omega, by omega⟩
          obtain ⟨hv, hvk⟩ := hv
          have hnx := take_next (l := opsL o) (j := j) (by omega)
          rw [hv] at sk hnx
          have HNX := hide hnx
          have hvn' : (v : Int) < (n : Int) := by omega
          have qv : wr.cell? ⟨g, v, none⟩ = some (.int .i64 (dpF os k v)) := by
            have h := (unhide HRj v (by omega)).1
            dsimp only at h
            unfold dpJ at h
            rw [if_neg (by omega)] at h
            exact h
          have qk : wr.cell? ⟨g, k, none⟩ = some (.int .i64 (dmx (dpF os k) ((opsL o).take j))) := by
            have h := (unhide HRj k (by omega)).1
            dsimp only at h
            unfold dpJ at h
            rw [if_pos rfl] at h
            exact h
          have q2 := (unhide HRj k (by omega)).2
          have hb1 := dpF_le os k v
          have hb2 := dmx_le (b := (k : Int)) (by omega) (dpF_le os k) ((opsL o).take j)
          obtain ⟨x, hx⟩ : ∃ x, dpF os k v = x := ⟨_, rfl⟩
          obtain ⟨y, hy⟩ : ∃ y, dmx (dpF os k) ((opsL o).take j) = y := ⟨_, rfl⟩
          rw [hx] at qv hb1
          rw [hy] at qk hb2
          have HRN := hide (show RoV (wr.setCell ⟨g, k, none⟩ (.int .i64 (max y (x + 1)))) g n (fun u => .int .i64 (dpJ os k ((opsL o).take (j + 1)) u)) from ((unhide HRj).put k (.int .i64 (max y (x + 1))) (by omega)).congr (fun u hu => by
            unfold dpJ
            by_cases e : u = k
            · rw [if_pos e, if_pos e, unhide HNX, dmx_app, hx, hy]
            · rw [if_neg e, if_neg e, if_neg e]))
          have HCN := hide (show Chg (fun j => j = g) w1 (wr.setCell ⟨g, k, none⟩ (.int .i64 (max y (x + 1)))) from (unhide HCj).trans (Chg.of_set _ _ _ _ rfl))
          clear hc hzz hv hnx hx hy hmk KP
          go_wp2_with fail
          go_region
          all_goals
            go_wp2_with fail
            exact ⟨⟨j + 1, by omega, by (first | rfl | go_num), hide ((unhide HRN).below (Below.refl _ _).drew), hide ((unhide HCN).trans (Chg.of_below (Below.refl _ _).drew))⟩, by simp [intOf]; omega⟩
        · obtain rfl : j = m1 := by omega
          have hlj' : ¬ (j : Int) < (j : Int) := by omega
          have HRN := hide (show RoV wr g n (fun v => .int .i64 (dpF os (k + 1) v)) from (unhide HRj).congr (fun v _ => by rw [dpF_next (unhide HO), List.take_of_length_le (by omega)]; rfl))
          have HCN := hide (show Chg (fun j => j = g) wm wr from (unhide HC1).trans (unhide HCj))
          clear hml
          go_wp2_with fail
          exact ⟨⟨k + 1, by omega, by (first | rfl | go_num), HRN, HCN⟩, by simp [intOf]; omega⟩
    · obtain rfl : k = n := by omega
      have hlt' : ¬ (k : Int) < (k : Int) := by omega
      go_wp2_with fail
      try go_ret
      exact ⟨g, rfl, by have h2 := unhide HG; omega, unhide HRr, unhide HBA⟩
theorem RoV.of_same {w : World} {b n k : Nat} {v : Value} {f : Nat → Value} (h : RoV (w.setCell ⟨b, k, none⟩ v) b n f) (hv : w.cell? ⟨b, k, none⟩ = some v) : RoV w b n f := by
  intro i hi
  have h1 := h i hi
  rw [World.frozen?_setCell] at h1
  refine ⟨?_, h1.2⟩
  by_cases e : i = k
  · subst e
    rw [World.cell?_setCell_same _ _ _ hv] at h1
    rw [hv]
    exact h1.1
  · rw [World.cell?_setCell_other _ _ _ _ (by intro c; simp at c; first | done | omega)] at h1
    exact h1.1
set_option maxRecDepth 100000 in
set_option maxHeartbeats 32000000 in
theorem wDepth_yes (i : Int) (a : Option Addr) (n c : Nat) (os : List On) (b : Option Addr) (m d : Nat) (ys : List Int) (w : World) (hs : SlO w a n c os) (hy : SlI w b m d ys) (hT : Tab64 w) (he : (chF i os ys).2 = 0) :
    Calls Tryz.prog 34 #[tapV i a n c b m d] w fun e w' => ∃ g, e = .returned (.tuple #[.slice (some ⟨g, 0, none⟩) n n, .int .i64 0]) ∧ w.heap.size ≤ g ∧ RoV w' g n (fun v => .int .i64 (dpF os n v)) ∧ Below w.heap.size w w' := by
  have hk := TpOk.of he
  have hn := hs.len
  have hm := hy.len
  have hn2 : n ≤ 2048 := by have := hk.lo; omega
  have hm2 : m ≤ 64 := by have := hk.ly; omega
  obtain ⟨wb, hwa⟩ : ∃ x, w.alloc (.cells #[.int .i64 i, .slice a n c, .slice b m d] 25) = x := ⟨_, rfl⟩
  have bx : BoxP wb w.heap.size [.int .i64 i, .slice a n c, .slice b m d] := by rw [← hwa]; exact BoxP.made _ _ _
  have hbb : Below w.heap.size w wb := by rw [← hwa]; exact (Below.refl _ _).alloc (Nat.le_refl _) _
  have g0 := (bx.all 0 _ rfl).1
  have g1 := (bx.all 1 _ rfl).1
  have g2 := (bx.all 2 _ rfl).1
  have K0 := wcheck_any i a n c os b m d ys wb (hs.below hbb) (hy.below hbb) (hT.below hbb)
  obtain ⟨z1, hz1⟩ : ∃ z, (chF i os ys).1 = z := ⟨_, rfl⟩
  rw [he, hz1] at K0
  unfold tapV at K0 ⊢
  have HC := hide K0
  have HB0 := hide hbb
  have HD := hide (And.intro hs (And.intro hy hk))
  have HZ0 := hide bx.lt
  clear bx hbb K0 hz1
  go_enter Tryz.func34, Tryz.ntmps34
  go_wp2_with fail
  refine (unhide HC).mono ?_
  rintro _ wa ⟨rfl, ba⟩
  have g1 := (ba.cell (World.block_lt_of_cell? _ _ g1)).trans g1
  have g2 := (ba.cell (World.block_lt_of_cell? _ _ g2)).trans g2
  have hba := (unhide HB0).trans (ba.mono (unhide HB0).size)
  have hmk := make_intsT n (by omega) wa
  have hR := RoV.made wa n 3 (.int .i64 0)
  obtain ⟨wm, hwm⟩ : ∃ x, wa.alloc (.cells (madeCells #[.int .i64 0] n) 3) = x := ⟨_, rfl⟩
  have bm : Below wa.heap.size wa wm := by rw [← hwm]; exact (Below.refl _ _).alloc (Nat.le_refl _) _
  have hgm : wa.heap.size < wm.heap.size := by rw [← hwm]; simp
  rw [hwm] at hmk hR
  have p1 := (bm.cell (World.block_lt_of_cell? _ _ g1)).trans g1
  have p2 := (bm.cell (World.block_lt_of_cell? _ _ g2)).trans g2
  have zlt : w.heap.size < wa.heap.size := Nat.lt_of_lt_of_le (unhide HZ0) ba.size
  obtain ⟨g, hg⟩ : ∃ g, wa.heap.size = g := ⟨_, rfl⟩
  have HG := hide hg
  have HA := hide hba
  have HM := hide bm
  have HS := hide (hs.below hba)
  have HY := hide (hy.below hba)
  have HK := hide hk
  have HN := hide (And.intro hn (And.intro hm (And.intro zlt hgm)))
  have HR := hide (show RoV wm g n (fun v => .int .i64 (dpF os 0 v)) from by
    rw [hg] at hR
    exact hR)
  rw [hg] at hmk
  clear hba bm hs hy hR hk hwm zlt hgm hn hm hg ba HC hwa hT he
  go_wp2_with fail
  have KP : ∀ wr, Hid (Chg (fun j => j = g) wm wr) → Below wa.heap.size wa wr := fun wr h => (unhide HM).trans ((unhide h).below (unhide HM).size (fun j hj e => by have := unhide HG; omega))
  go_loopw [7] (fun iv wr => ∃ k : Nat, k ≤ n ∧ iv = .int .i64 (k : Int) ∧ Hid (RoV wr g n (fun v => .int .i64 (dpF os k v))) ∧ Hid (Chg (fun j => j = g) wm wr)) (fun iv _ => n - (intOf iv).toNat)
  case atStart => exact ⟨0, Nat.zero_le _, rfl, HR, hide (Chg.refl _ _)⟩
  case round =>
    obtain ⟨k, hkn, rfl, HRr, HC⟩ := hrel
    have HBA := hide (KP wr HC)
    have r1 := ((unhide HBA).cell (World.block_lt_of_cell? _ _ g1)).trans g1
    by_cases hlt : k < n
    · have hlt' : (k : Int) < (n : Int) := by omega
      obtain ⟨b1, off, o, rfl, ho, O, hok⟩ := ((unhide HS).below (unhide HBA)).at' hlt
      obtain ⟨c0, c1, c2, c3, c4, c5, c6⟩ := O
      have hop := op_ok ((unhide HK).op k o ho)
      have HP := hide (fun (W : World) => (by
        have K := woperands_any o hop.1.1 hop.1.2 W
        unfold opV at K
        exact K : Calls Tryz.prog 57 #[.agg #[.int .i64 o.k, .int .i64 o.a, .int .i64 o.b, .int .i64 o.n, .bool o.p.g, .slice o.p.a o.p.n o.p.c, .slice o.p.b o.p.m o.p.d]] W (OpsA W (opsL o))))
      have HO := hide ho
      have HOP := hide hop.2.1
      clear hok hop ho
      go_wp2_with fail
      refine (unhide HP _).mono ?_
      rintro _ w1 ⟨z, m1, c1', rfl, hz, hnew, bE⟩
      have HZ := hide hz
      have HNW := hide (show ∀ y, z = some y → y.block ≠ g from fun y e h => by have h1 := hnew y e; have h2 := (unhide HC).size; have h3 := (unhide HN).2.2.2; have h4 := unhide HG; omega)
      have HC1 := hide ((unhide HC).trans (Chg.of_below bE))
      have HR1 := hide (show RoV w1 g n (fun v => .int .i64 (dpJ os k ((opsL o).take 0) v)) from ((unhide HRr).below bE).congr (fun v _ => by
        unfold dpJ
        split
        · rename_i e
          rw [e, dpF_zero os k k (Nat.le_refl _)]
          rfl
        · rfl))
      clear hz hnew bE HP c0 c1 c2 c3 c4 c5 c6
      go_wp2_with fail
      go_loopw [9] (fun jv wr' => ∃ j : Nat, j ≤ m1 ∧ jv = .int .i64 (j : Int) ∧ Hid (RoV wr' g n (fun v => .int .i64 (dpJ os k ((opsL o).take j) v))) ∧ Hid (Chg (fun j => j = g) w1 wr')) (fun jv _ => m1 - (intOf jv).toNat)
      case atStart => exact ⟨0, Nat.zero_le _, rfl, HR1, hide (Chg.refl _ _)⟩
      case round =>
        obtain ⟨j, hj, rfl, HRj, HCj⟩ := hrel
        have hml := (unhide HZ).len
        have hm12 : m1 ≤ 2 := by have := opsL_len o; omega
        by_cases hlj : j < m1
        · have hlj' : (j : Int) < (m1 : Int) := by omega
          have hzz := (unhide HZ).chg (unhide HCj) (fun y e hne h => unhide HNW y e h)
          obtain ⟨zb, zo, rfl, hc⟩ := hzz.at (by omega)
          have sk := hc j hlj
          obtain ⟨v, hv⟩ : ∃ v : Nat, (opsL o).getD j 0 = (v : Int) ∧ v < k := by
            have h1 := unhide HOP ((opsL o).getD j 0) (by rw [List.getD_eq_getElem?_getD, List.getElem?_eq_getElem (by omega)]; exact List.getElem_mem (by omega))
            exact ⟨((opsL o).getD j 0).toNat, by omega, by omega⟩
          obtain ⟨hv, hvk⟩ := hv
          have hnx := take_next (l := opsL o) (j := j) (by omega)
          rw [hv] at sk hnx
          have HNX := hide hnx
          have hvn' : (v : Int) < (n : Int) := by omega
          have qv : wr.cell? ⟨g, v, none⟩ = some (.int .i64 (dpF os k v)) := by
            have h := (unhide HRj v (by omega)).1
            dsimp only at h
            unfold dpJ at h
            rw [if_neg (by omega)] at h
            exact h
          have qk : wr.cell? ⟨g, k, none⟩ = some (.int .i64 (dmx (dpF os k) ((opsL o).take j))) := by
            have h := (unhide HRj k (by omega)).1
            dsimp only at h
            unfold dpJ at h
            rw [if_pos rfl] at h
            exact h
          have q2 := (unhide HRj k (by omega)).2
          have hb1 := dpF_le os k v
          have hb2 := dmx_le (b := (k : Int)) (by omega) (dpF_le os k) ((opsL o).take j)
          obtain ⟨x, hx⟩ : ∃ x, dpF os k v = x := ⟨_, rfl⟩
          obtain ⟨y, hy⟩ : ∃ y, dmx (dpF os k) ((opsL o).take j) = y := ⟨_, rfl⟩
          rw [hx] at qv hb1
          rw [hy] at qk hb2
          have HRN := hide (show RoV (wr.setCell ⟨g, k, none⟩ (.int .i64 (max y (x + 1)))) g n (fun u => .int .i64 (dpJ os k ((opsL o).take (j + 1)) u)) from ((unhide HRj).put k (.int .i64 (max y (x + 1))) (by omega)).congr (fun u hu => by
            unfold dpJ
            by_cases e : u = k
            · rw [if_pos e, if_pos e, unhide HNX, dmx_app, hx, hy]
            · rw [if_neg e, if_neg e, if_neg e]))
          have HCN := hide (show Chg (fun j => j = g) w1 (wr.setCell ⟨g, k, none⟩ (.int .i64 (max y (x + 1)))) from (unhide HCj).trans (Chg.of_set _ _ _ _ rfl))
          clear hc hzz hv hnx hx hy hmk KP
          by_cases hgt : y < x + 1
          · rw [show max y (x + 1) = x + 1 by omega] at HRN HCN
            go_wp2_with fail
            go_region
            all_goals
              go_wp2_with fail
              exact ⟨⟨j + 1, by omega, by (first | rfl | go_num), hide ((unhide HRN).below (Below.refl _ _).drew), hide ((unhide HCN).trans (Chg.of_drew _))⟩, by simp [intOf]; omega⟩
          · have HRN2 := hide (show RoV wr g n (fun u => .int .i64 (dpJ os k ((opsL o).take (j + 1)) u)) from (unhide HRN).of_same (by rw [show max y (x + 1) = y by omega]; exact qk))
            go_wp2_with fail
            go_region
            all_goals
              go_wp2_with fail
              exact ⟨⟨j + 1, by omega, by (first | rfl | go_num), hide ((unhide HRN2).below (Below.refl _ _).drew), hide ((unhide HCj).trans (Chg.of_drew _))⟩, by simp [intOf]; omega⟩
        · obtain rfl : j = m1 := by omega
          have hlj' : ¬ (j : Int) < (j : Int) := by omega
          have HRN := hide (show RoV wr g n (fun v => .int .i64 (dpF os (k + 1) v)) from (unhide HRj).congr (fun v _ => by rw [dpF_next (unhide HO), List.take_of_length_le (by omega)]; rfl))
          have HCN := hide (show Chg (fun j => j = g) wm wr from (unhide HC1).trans (unhide HCj))
          clear hml
          go_wp2_with fail
          exact ⟨⟨k + 1, by omega, by (first | rfl | go_num), HRN, HCN⟩, by simp [intOf]; omega⟩
    · obtain rfl : k = n := by omega
      have hlt' : ¬ (k : Int) < (k : Int) := by omega
      go_wp2_with fail
      try go_ret2
      exact ⟨g, rfl, by have h1 := (unhide HN).2.2.1; have h2 := unhide HG; omega, unhide HRr, (unhide HA).trans ((unhide HBA).mono (unhide HA).size)⟩
end Go.Proofs.YtpicknbdfjjflaaGreatDoor
