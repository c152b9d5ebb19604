/- Tf0 -/
import Derived.Test.YtpicknbdfjjflaaGreatDoorSp3
namespace Go.Proofs.YtpicknbdfjjflaaGreatDoor
open Go.RowKit Go.Deep
set_option linter.unusedVariables false
theorem Tryz.info_intT : (Tryz.prog.info? 3).map (fun i => (i.zero, i.size, i.bytes)) = some (some (.int .i64 0), 1, 8) := by kernel_rfl
theorem make_intsT (n : Nat) (hn : n ≤ 1000000) (w : World) : (Instr.makeSlice 23 (.int .i64 (n : Int)) (.int .i64 (n : Int))).run Tryz.prog w = .ok (.slice (some ⟨w.heap.size, 0, none⟩) n n) (w.alloc (.cells (madeCells #[.int .i64 0] n) 3)) :=
  run_make_row' (P := Tryz.prog) 23 3 (.int .i64 0) 8 Tryz.underlying23 Tryz.info_intT rfl .i64 .i64 n (by omega) (by omega) w
def cnL (L : List Int) (v : Nat) : Int := (L.count (v : Int) : Nat)
theorem cnL_app (L : List Int) (x v : Nat) : cnL (L ++ [(x : Int)]) v = if v = x then cnL L x + 1 else cnL L v := by
  unfold cnL
  rw [List.count_append]
  by_cases e : v = x
  · subst e; rw [if_pos rfl]; simp
  · rw [if_neg e]
    have : List.count (v : Int) [(x : Int)] = 0 := by
      rw [List.count_eq_zero]
      simp
      omega
    rw [this]; simp
theorem cnL_le (L : List Int) (v : Nat) : 0 ≤ cnL L v ∧ cnL L v ≤ L.length := by
  unfold cnL
  have := List.count_le_length (a := (v : Int)) (l := L)
  omega
def opsT (os : List On) (k : Nat) : List Int := (os.take k).flatMap opsL
theorem opsT_len (os : List On) (k : Nat) : (opsT os k).length ≤ 2 * k := by
  unfold opsT
  rw [List.length_flatMap]
  have h1 : ∀ l : List On, (l.map (fun o => (opsL o).length)).sum ≤ 2 * l.length := by
    intro l
    induction l with
    | nil => simp
    | cons o l ih =>
      have := opsL_len o
      simp only [List.map_cons, List.sum_cons, List.length_cons]
      omega
  have h2 := h1 (os.take k)
  have h3 : (os.take k).length ≤ k := by simp; omega
  omega
theorem opsT_next {os : List On} {k : Nat} {o : On} (h : os[k]? = some o) : opsT os (k + 1) = opsT os k ++ opsL o := by
  obtain ⟨hk, rfl⟩ := List.getElem?_eq_some_iff.1 h
  unfold opsT
  rw [List.take_succ_eq_append_getElem hk, List.flatMap_append]
  simp
theorem take_next {l : List Int} {j : Nat} (hj : j < l.length) : l.take (j + 1) = l.take j ++ [l.getD j 0] := by
  rw [List.take_succ_eq_append_getElem hj, List.getD_eq_getElem?_getD, List.getElem?_eq_getElem hj]
  rfl
set_option maxRecDepth 100000 in
set_option maxHeartbeats 32000000 in
theorem tuses_any (i : Int) (a : Option Addr) (n c : Nat) (os : List On) (b : Option Addr) (m d : Nat) (ys : List Int) (w : World) (hs : SlO w a n c os) (hy : SlI w b m d ys) (hk : TpOk i os ys) :
    Calls Tryz.prog 48 #[tapV i a n c b m d] w fun e w' => ∃ g, e = .returned (.slice (some ⟨g, 0, none⟩) n n) ∧ w.heap.size ≤ g ∧ RoV w' g n (fun v => .int .i64 (cnL (opsT os n ++ ys) v)) ∧ Below w.heap.size w w' := by
  have hn := hs.len
  have hm := hy.len
  have hn2 : n ≤ 2048 := by have := hk.lo; omega
  have hm2 : m ≤ 64 := by have := hk.ly; omega
  obtain ⟨wa, hwa⟩ : ∃ x, w.alloc (.cells #[.int .i64 i, .slice a n c, .slice b m d] 25) = x := ⟨_, rfl⟩
  have bx : BoxP wa w.heap.size [.int .i64 i, .slice a n c, .slice b m d] := by rw [← hwa]; exact BoxP.made _ _ _
  have hba : Below w.heap.size w wa := by rw [← hwa]; exact (Below.refl _ _).alloc (Nat.le_refl _) _
  have hmk := make_intsT n (by omega) wa
  have hR := RoV.made wa n 3 (.int .i64 0)
  obtain ⟨wm, hwm⟩ : ∃ x, wa.alloc (.cells (madeCells #[.int .i64 0] n) 3) = x := ⟨_, rfl⟩
  have bm : Below wa.heap.size wa wm := by rw [← hwm]; exact (Below.refl _ _).alloc (Nat.le_refl _) _
  have hgm : wa.heap.size < wm.heap.size := by rw [← hwm]; simp
  rw [hwm] at hmk hR
  have g1 := (bx.all 1 _ rfl).1
  have g2 := (bx.all 2 _ rfl).1
  have p1 := ((bx.below bm).all 1 _ rfl).1
  have p2 := ((bx.below bm).all 2 _ rfl).1
  have zlt : w.heap.size < wa.heap.size := bx.lt
  obtain ⟨g, hg⟩ : ∃ g, wa.heap.size = g := ⟨_, rfl⟩
  have HG := hide hg
  have HA := hide hba
  have HM := hide bm
  have HS := hide (hs.below hba)
  have HY := hide (hy.below hba)
  have HK := hide hk
  have HN := hide (And.intro hn (And.intro hm (And.intro zlt hgm)))
  have HR := hide (show RoV wm g n (fun v => .int .i64 (cnL (opsT os 0) v)) from by
    rw [hg] at hR
    exact hR.congr (fun v _ => by simp [cnL, opsT]))
  rw [hg] at hmk
  clear bx hba bm hs hy hR hk hwm zlt hgm hn hm hg
  unfold tapV
  go_enter Tryz.func48, Tryz.ntmps48
  go_wp2_with fail
  have KP : ∀ wr, Hid (Chg (fun j => j = g) wm wr) → Below wa.heap.size wa wr := fun wr h => (unhide HM).trans ((unhide h).below (unhide HM).size (fun j hj e => by have := unhide HG; omega))
  go_loopw [16] (fun iv wr => ∃ k : Nat, k ≤ n ∧ iv = .int .i64 (k : Int) ∧ Hid (RoV wr g n (fun v => .int .i64 (cnL (opsT os k) v))) ∧ Hid (Chg (fun j => j = g) wm wr)) (fun iv _ => n - (intOf iv).toNat)
  case atStart => exact ⟨0, Nat.zero_le _, rfl, HR, hide (Chg.refl _ _)⟩
  case round =>
    obtain ⟨k, hkn, rfl, HRr, HC⟩ := hrel
    have HBA := hide (KP wr HC)
    have r1 := ((unhide HBA).cell (World.block_lt_of_cell? _ _ g1)).trans g1
    have r2 := ((unhide HBA).cell (World.block_lt_of_cell? _ _ g2)).trans g2
    by_cases hlt : k < n
    · have hlt' : (k : Int) < (n : Int) := by omega
      obtain ⟨b1, off, o, rfl, ho, O, hok⟩ := ((unhide HS).below (unhide HBA)).at' hlt
      obtain ⟨c0, c1, c2, c3, c4, c5, c6⟩ := O
      have hop := op_ok ((unhide HK).op k o ho)
      have HP := hide (fun (W : World) => (by
        have K := toperands_any o hop.1.1 hop.1.2 W
        unfold opV at K
        exact K : Calls Tryz.prog 63 #[.agg #[.int .i64 o.k, .int .i64 o.a, .int .i64 o.b, .int .i64 o.n, .bool o.p.g, .slice o.p.a o.p.n o.p.c, .slice o.p.b o.p.m o.p.d]] W (OpsA W (opsL o))))
      have HO := hide ho
      have HOP := hide hop.2.1
      clear hok hop ho
      go_wp2_with fail
      refine (unhide HP _).mono ?_
      rintro _ w1 ⟨z, m1, c1', rfl, hz, hnew, bE⟩
      have HZ := hide hz
      have HNW := hide (show ∀ y, z = some y → y.block ≠ g from fun y e h => by have h1 := hnew y e; have h2 := (unhide HC).size; have h3 := (unhide HN).2.2.2; have h4 := unhide HG; omega)
      have HE := hide bE
      have HC1 := hide ((unhide HC).trans (Chg.of_below bE))
      have HR1 := hide (show RoV w1 g n (fun v => .int .i64 (cnL (opsT os k ++ (opsL o).take 0) v)) from ((unhide HRr).below bE).congr (fun v _ => by simp))
      clear hz hnew bE HP c0 c1 c2 c3 c4 c5 c6
      go_wp2_with fail
      go_loopw [26] (fun jv wr' => ∃ j : Nat, j ≤ m1 ∧ jv = .int .i64 (j : Int) ∧ Hid (RoV wr' g n (fun v => .int .i64 (cnL (opsT os k ++ (opsL o).take j) v))) ∧ Hid (Chg (fun j => j = g) w1 wr')) (fun jv _ => m1 - (intOf jv).toNat)
      case atStart => exact ⟨0, Nat.zero_le _, rfl, HR1, hide (Chg.refl _ _)⟩
      case round =>
        obtain ⟨j, hj, rfl, HRj, HCj⟩ := hrel
        have hml := (unhide HZ).len
        have hm12 : m1 ≤ 2 := by have := opsL_len o; omega
        by_cases hlj : j < m1
        · have hlj' : (j : Int) < (m1 : Int) := by omega
          have hzz := (unhide HZ).chg (unhide HCj) (fun y e hne h => unhide HNW y e h)
          obtain ⟨zb, zo, rfl, hc⟩ := hzz.at (by omega)
          have sk := hc j hlj
          obtain ⟨v, hv⟩ : ∃ v : Nat, (opsL o).getD j 0 = (v : Int) ∧ v < n := by
            have h1 := unhide HOP ((opsL o).getD j 0) (by rw [List.getD_eq_getElem?_getD, List.getElem?_eq_getElem (by omega)]; exact List.getElem_mem (by omega))
            exact ⟨((opsL o).getD j 0).toNat, by omega, by omega⟩
          obtain ⟨hv, hvn⟩ := hv
          have hnx := take_next (l := opsL o) (j := j) (by omega)
          rw [hv] at sk hnx
          have HNX := hide hnx
          have hvn' : (v : Int) < (n : Int) := by omega
          have q1 := (unhide HRj v hvn).1
          have q2 := (unhide HRj v hvn).2
          have hb := cnL_le (opsT os k ++ (opsL o).take j) v
          have hbl := opsT_len os k
          have hb2 : (opsT os k ++ (opsL o).take j).length ≤ 5000 := by
            have := opsL_len o
            simp only [List.length_append, List.length_take]
            omega
          obtain ⟨cv, hcv⟩ : ∃ cv, cnL (opsT os k ++ (opsL o).take j) v = cv := ⟨_, rfl⟩
          rw [hcv] at hb
          simp only [hcv] at q1
          have hb3 : 0 ≤ cv ∧ cv ≤ 5000 := by omega
          have HRN := hide (show RoV (wr.setCell ⟨g, v, none⟩ (.int .i64 (cv + 1))) g n (fun u => .int .i64 (cnL (opsT os k ++ (opsL o).take (j + 1)) u)) from ((unhide HRj).put v (.int .i64 (cv + 1)) hvn).congr (fun u hu => by
            rw [unhide HNX, ← List.append_assoc, cnL_app]
            by_cases e : u = v
            · rw [if_pos e, if_pos e, hcv]
            · rw [if_neg e, if_neg e]))
          have HCN := hide (show Chg (fun j => j = g) w1 (wr.setCell ⟨g, v, none⟩ (.int .i64 (cv + 1))) from (unhide HCj).trans (Chg.of_set _ _ _ _ rfl))
          clear hc hzz hv hnx hb hbl hb2 hcv hmk
          go_wp2_with fail
          exact ⟨⟨j + 1, by omega, by (first | rfl | go_num), HRN, HCN⟩, by simp [intOf]; omega⟩
        · obtain rfl : j = m1 := by omega
          have hlj' : ¬ (j : Int) < (j : Int) := by omega
          have HRN := hide (show RoV wr g n (fun v => .int .i64 (cnL (opsT os (k + 1)) v)) from (unhide HRj).congr (fun v _ => by rw [opsT_next (unhide HO), List.take_of_length_le (by omega)]))
          have HCN := hide (show Chg (fun j => j = g) wm wr from (unhide HC1).trans (unhide HCj))
          clear hmk
          go_wp2_with fail
          exact ⟨⟨k + 1, by omega, by (first | rfl | go_num), HRN, HCN⟩, by simp [intOf]; omega⟩
    · obtain rfl : k = n := by omega
      have hlt' : ¬ (k : Int) < (k : Int) := by omega
      have HR1 := hide (show RoV wr g k (fun v => .int .i64 (cnL (opsT os k ++ ys.take 0) v)) from (unhide HRr).congr (fun v _ => by simp))
      have HPQ := hide KP
      clear hmk KP
      go_wp2_with fail
      go_loopw [41] (fun jv wr' => ∃ j : Nat, j ≤ m ∧ jv = .int .i64 (j : Int) ∧ Hid (RoV wr' g k (fun v => .int .i64 (cnL (opsT os k ++ ys.take j) v))) ∧ Hid (Chg (fun j => j = g) wm wr')) (fun jv _ => m - (intOf jv).toNat)
      case atStart => exact ⟨0, Nat.zero_le _, rfl, HR1, HC⟩
      case round =>
        obtain ⟨j, hj, rfl, HRj, HCj⟩ := hrel
        have HBA := hide ((unhide HPQ) _ HCj)
        by_cases hlj : j < m
        · have hlj' : (j : Int) < (m : Int) := by omega
          have hym := (unhide HN).2.1
          obtain ⟨zb, zo, rfl, hc⟩ := ((unhide HY).below (unhide HBA)).at (by omega)
          have sk := hc j hlj
          obtain ⟨v, hv⟩ : ∃ v : Nat, ys.getD j 0 = (v : Int) ∧ v < k := by
            have h1 := (unhide HK).out (ys.getD j 0) (by rw [List.getD_eq_getElem?_getD, List.getElem?_eq_getElem (by omega)]; exact List.getElem_mem (by omega))
            have h2 := (unhide HN).1
            exact ⟨(ys.getD j 0).toNat, by omega, by omega⟩
          obtain ⟨hv, hvn⟩ := hv
          have hnx := take_next (l := ys) (j := j) (by omega)
          rw [hv] at sk hnx
          have HNX := hide hnx
          have hvn' : (v : Int) < (k : Int) := by omega
          have q1 := (unhide HRj v hvn).1
          have q2 := (unhide HRj v hvn).2
          have hb := cnL_le (opsT os k ++ ys.take j) v
          have hbl := opsT_len os k
          have hb2 : (opsT os k ++ ys.take j).length ≤ 5000 := by
            simp only [List.length_append, List.length_take]
            omega
          obtain ⟨cv, hcv⟩ : ∃ cv, cnL (opsT os k ++ ys.take j) v = cv := ⟨_, rfl⟩
          rw [hcv] at hb
          simp only [hcv] at q1
          have hb3 : 0 ≤ cv ∧ cv ≤ 5000 := by omega
          have HRN := hide (show RoV (wr.setCell ⟨g, v, none⟩ (.int .i64 (cv + 1))) g k (fun u => .int .i64 (cnL (opsT os k ++ ys.take (j + 1)) u)) from ((unhide HRj).put v (.int .i64 (cv + 1)) hvn).congr (fun u hu => by
            rw [unhide HNX, ← List.append_assoc, cnL_app]
            by_cases e : u = v
            · rw [if_pos e, if_pos e, hcv]
            · rw [if_neg e, if_neg e]))
          have HCN := hide (show Chg (fun j => j = g) wm (wr.setCell ⟨g, v, none⟩ (.int .i64 (cv + 1))) from (unhide HCj).trans (Chg.of_set _ _ _ _ rfl))
          clear hc hv hnx hb hbl hb2 hcv hym
          go_wp2_with fail
          exact ⟨⟨j + 1, by omega, by (first | rfl | go_num), HRN, HCN⟩, by simp [intOf]; omega⟩
        · obtain rfl : j = m := by omega
          have hlj' : ¬ (j : Int) < (j : Int) := by omega
          have hym := (unhide HN).2.1
          have HRN := hide (show RoV wr g k (fun v => .int .i64 (cnL (opsT os k ++ ys) v)) from (unhide HRj).congr (fun v _ => by rw [List.take_of_length_le (by omega)]))
          clear hym
          go_wp2_with fail
          try go_ret
          exact ⟨g, rfl, by have h1 := (unhide HN).2.2.1; have h2 := unhide HG; omega, unhide HRN, (unhide HA).trans ((unhide HBA).mono (unhide HA).size)⟩
set_option maxRecDepth 100000 in
set_option maxHeartbeats 32000000 in
theorem wUses_yes (i : Int) (a : Option Addr) (n c : Nat) (os : List On) (b : Option Addr) (m d : Nat) (ys : List Int) (w : World) (hs : SlO w a n c os) (hy : SlI w b m d ys) (hT : Tab64 w) (he : (chF i os ys).2 = 0) :
    Calls Tryz.prog 32 #[tapV i a n c b m d] w fun e w' => ∃ g, e = .returned (.tuple #[.slice (some ⟨g, 0, none⟩) n n, .int .i64 0]) ∧ w.heap.size ≤ g ∧ RoV w' g n (fun v => .int .i64 (cnL (opsT os n ++ ys) v)) ∧ Below w.heap.size w w' := by
  have hk := TpOk.of he
  have hn := hs.len
  have hm := hy.len
  have hn2 : n ≤ 2048 := by have := hk.lo; omega
  have hm2 : m ≤ 64 := by have := hk.ly; omega
  obtain ⟨wb, hwa⟩ : ∃ x, w.alloc (.cells #[.int .i64 i, .slice a n c, .slice b m d] 25) = x := ⟨_, rfl⟩
  have bx : BoxP wb w.heap.size [.int .i64 i, .slice a n c, .slice b m d] := by rw [← hwa]; exact BoxP.made _ _ _
  have hbb : Below w.heap.size w wb := by rw [← hwa]; exact (Below.refl _ _).alloc (Nat.le_refl _) _
  have g0 := (bx.all 0 _ rfl).1
  have g1 := (bx.all 1 _ rfl).1
  have g2 := (bx.all 2 _ rfl).1
  have K0 := wcheck_any i a n c os b m d ys wb (hs.below hbb) (hy.below hbb) (hT.below hbb)
  obtain ⟨z1, hz1⟩ : ∃ z, (chF i os ys).1 = z := ⟨_, rfl⟩
  rw [he, hz1] at K0
  unfold tapV at K0 ⊢
  have HC := hide K0
  have HB0 := hide hbb
  have HD := hide (And.intro hs (And.intro hy hk))
  have HZ0 := hide bx.lt
  clear bx hbb K0 hz1
  go_enter Tryz.func32, Tryz.ntmps32
  go_wp2_with fail
  refine (unhide HC).mono ?_
  rintro _ wa ⟨rfl, ba⟩
  have g1 := (ba.cell (World.block_lt_of_cell? _ _ g1)).trans g1
  have g2 := (ba.cell (World.block_lt_of_cell? _ _ g2)).trans g2
  have hba := (unhide HB0).trans (ba.mono (unhide HB0).size)
  have hmk := make_intsT n (by omega) wa
  have hR := RoV.made wa n 3 (.int .i64 0)
  obtain ⟨wm, hwm⟩ : ∃ x, wa.alloc (.cells (madeCells #[.int .i64 0] n) 3) = x := ⟨_, rfl⟩
  have bm : Below wa.heap.size wa wm := by rw [← hwm]; exact (Below.refl _ _).alloc (Nat.le_refl _) _
  have hgm : wa.heap.size < wm.heap.size := by rw [← hwm]; simp
  rw [hwm] at hmk hR
  have p1 := (bm.cell (World.block_lt_of_cell? _ _ g1)).trans g1
  have p2 := (bm.cell (World.block_lt_of_cell? _ _ g2)).trans g2
  have zlt : w.heap.size < wa.heap.size := Nat.lt_of_lt_of_le (unhide HZ0) ba.size
  obtain ⟨g, hg⟩ : ∃ g, wa.heap.size = g := ⟨_, rfl⟩
  have HG := hide hg
  have HA := hide hba
  have HM := hide bm
  have HS := hide (hs.below hba)
  have HY := hide (hy.below hba)
  have HK := hide hk
  have HN := hide (And.intro hn (And.intro hm (And.intro zlt hgm)))
  have HR := hide (show RoV wm g n (fun v => .int .i64 (cnL (opsT os 0) v)) from by
    rw [hg] at hR
    exact hR.congr (fun v _ => by simp [cnL, opsT]))
  rw [hg] at hmk
  clear hba bm hs hy hR hk hwm zlt hgm hn hm hg ba HC hwa hT he
  go_wp2_with fail
  have KP : ∀ wr, Hid (Chg (fun j => j = g) wm wr) → Below wa.heap.size wa wr := fun wr h => (unhide HM).trans ((unhide h).below (unhide HM).size (fun j hj e => by have := unhide HG; omega))
  go_loopw [7] (fun iv wr => ∃ k : Nat, k ≤ n ∧ iv = .int .i64 (k : Int) ∧ Hid (RoV wr g n (fun v => .int .i64 (cnL (opsT os k) v))) ∧ Hid (Chg (fun j => j = g) wm wr)) (fun iv _ => n - (intOf iv).toNat)
  case atStart => exact ⟨0, Nat.zero_le _, rfl, HR, hide (Chg.refl _ _)⟩
  case round =>
    obtain ⟨k, hkn, rfl, HRr, HC⟩ := hrel
    have HBA := hide (KP wr HC)
    have r1 := ((unhide HBA).cell (World.block_lt_of_cell? _ _ g1)).trans g1
    have r2 := ((unhide HBA).cell (World.block_lt_of_cell? _ _ g2)).trans g2
    by_cases hlt : k < n
    · have hlt' : (k : Int) < (n : Int) := by omega
      obtain ⟨b1, off, o, rfl, ho, O, hok⟩ := ((unhide HS).below (unhide HBA)).at' hlt
      obtain ⟨c0, c1, c2, c3, c4, c5, c6⟩ := O
      have hop := op_ok ((unhide HK).op k o ho)
      have HP := hide (fun (W : World) => (by
        have K := woperands_any o hop.1.1 hop.1.2 W
        unfold opV at K
        exact K : Calls Tryz.prog 57 #[.agg #[.int .i64 o.k, .int .i64 o.a, .int .i64 o.b, .int .i64 o.n, .bool o.p.g, .slice o.p.a o.p.n o.p.c, .slice o.p.b o.p.m o.p.d]] W (OpsA W (opsL o))))
      have HO := hide ho
      have HOP := hide hop.2.1
      clear hok hop ho
      go_wp2_with fail
      refine (unhide HP _).mono ?_
      rintro _ w1 ⟨z, m1, c1', rfl, hz, hnew, bE⟩
      have HZ := hide hz
      have HNW := hide (show ∀ y, z = some y → y.block ≠ g from fun y e h => by have h1 := hnew y e; have h2 := (unhide HC).size; have h3 := (unhide HN).2.2.2; have h4 := unhide HG; omega)
      have HE := hide bE
      have HC1 := hide ((unhide HC).trans (Chg.of_below bE))
      have HR1 := hide (show RoV w1 g n (fun v => .int .i64 (cnL (opsT os k ++ (opsL o).take 0) v)) from ((unhide HRr).below bE).congr (fun v _ => by simp))
      clear hz hnew bE HP c0 c1 c2 c3 c4 c5 c6
      go_wp2_with fail
      go_loopw [9] (fun jv wr' => ∃ j : Nat, j ≤ m1 ∧ jv = .int .i64 (j : Int) ∧ Hid (RoV wr' g n (fun v => .int .i64 (cnL (opsT os k ++ (opsL o).take j) v))) ∧ Hid (Chg (fun j => j = g) w1 wr')) (fun jv _ => m1 - (intOf jv).toNat)
      case atStart => exact ⟨0, Nat.zero_le _, rfl, HR1, hide (Chg.refl _ _)⟩
      case round =>
        obtain ⟨j, hj, rfl, HRj, HCj⟩ := hrel
        have hml := (unhide HZ).len
        have hm12 : m1 ≤ 2 := by have := opsL_len o; omega
        by_cases hlj : j < m1
        · have hlj' : (j : Int) < (m1 : Int) := by omega
          have hzz := (unhide HZ).chg (unhide HCj) (fun y e hne h => unhide HNW y e h)
          obtain ⟨zb, zo, rfl, hc⟩ := hzz.at (by omega)
          have sk := hc j hlj
          obtain ⟨v, hv⟩ : ∃ v : Nat, (opsL o).getD j 0 = (v : Int) ∧ v < n := by
            have h1 := unhide HOP ((opsL o).getD j 0) (by rw [List.getD_eq_getElem?_getD, List.getElem?_eq_getElem (by omega)]; exact List.getElem_mem (by omega))
            exact ⟨((opsL o).getD j 0).toNat, by omega, by omega⟩
          obtain ⟨hv, hvn⟩ := hv
          have hnx := take_next (l := opsL o) (j := j) (by omega)
          rw [hv] at sk hnx
          have HNX := hide hnx
          have hvn' : (v : Int) < (n : Int) := by omega
          have q1 := (unhide HRj v hvn).1
          have q2 := (unhide HRj v hvn).2
          have hb := cnL_le (opsT os k ++ (opsL o).take j) v
          have hbl := opsT_len os k
          have hb2 : (opsT os k ++ (opsL o).take j).length ≤ 5000 := by
            have := opsL_len o
            simp only [List.length_append, List.length_take]
            omega
          obtain ⟨cv, hcv⟩ : ∃ cv, cnL (opsT os k ++ (opsL o).take j) v = cv := ⟨_, rfl⟩
          rw [hcv] at hb
          simp only [hcv] at q1
          have hb3 : 0 ≤ cv ∧ cv ≤ 5000 := by omega
          have HRN := hide (show RoV (wr.setCell ⟨g, v, none⟩ (.int .i64 (cv + 1))) g n (fun u => .int .i64 (cnL (opsT os k ++ (opsL o).take (j + 1)) u)) from ((unhide HRj).put v (.int .i64 (cv + 1)) hvn).congr (fun u hu => by
            rw [unhide HNX, ← List.append_assoc, cnL_app]
            by_cases e : u = v
            · rw [if_pos e, if_pos e, hcv]
            · rw [if_neg e, if_neg e]))
          have HCN := hide (show Chg (fun j => j = g) w1 (wr.setCell ⟨g, v, none⟩ (.int .i64 (cv + 1))) from (unhide HCj).trans (Chg.of_set _ _ _ _ rfl))
          clear hc hzz hv hnx hb hbl hb2 hcv hmk
          go_wp2_with fail
          exact ⟨⟨j + 1, by omega, by (first | rfl | go_num), HRN, HCN⟩, by simp [intOf]; omega⟩
        · obtain rfl : j = m1 := by omega
          have hlj' : ¬ (j : Int) < (j : Int) := by omega
          have HRN := hide (show RoV wr g n (fun v => .int .i64 (cnL (opsT os (k + 1)) v)) from (unhide HRj).congr (fun v _ => by rw [opsT_next (unhide HO), List.take_of_length_le (by omega)]))
          have HCN := hide (show Chg (fun j => j = g) wm wr from (unhide HC1).trans (unhide HCj))
          clear hmk
          go_wp2_with fail
          exact ⟨⟨k + 1, by omega, by (first | rfl | go_num), HRN, HCN⟩, by simp [intOf]; omega⟩
    · obtain rfl : k = n := by omega
      have hlt' : ¬ (k : Int) < (k : Int) := by omega
      have HR1 := hide (show RoV wr g k (fun v => .int .i64 (cnL (opsT os k ++ ys.take 0) v)) from (unhide HRr).congr (fun v _ => by simp))
      have HPQ := hide KP
      clear hmk KP
      go_wp2_with fail
      go_loopw [10] (fun jv wr' => ∃ j : Nat, j ≤ m ∧ jv = .int .i64 (j : Int) ∧ Hid (RoV wr' g k (fun v => .int .i64 (cnL (opsT os k ++ ys.take j) v))) ∧ Hid (Chg (fun j => j = g) wm wr')) (fun jv _ => m - (intOf jv).toNat)
      case atStart => exact ⟨0, Nat.zero_le _, rfl, HR1, HC⟩
      case round =>
        obtain ⟨j, hj, rfl, HRj, HCj⟩ := hrel
        have HBA := hide ((unhide HPQ) _ HCj)
        have r2 := ((unhide HBA).cell (World.block_lt_of_cell? _ _ g2)).trans g2
        by_cases hlj : j < m
        · have hlj' : (j : Int) < (m : Int) := by omega
          have hym := (unhide HN).2.1
          obtain ⟨zb, zo, rfl, hc⟩ := ((unhide HY).below (unhide HBA)).at (by omega)
          have sk := hc j hlj
          obtain ⟨v, hv⟩ : ∃ v : Nat, ys.getD j 0 = (v : Int) ∧ v < k := by
            have h1 := (unhide HK).out (ys.getD j 0) (by rw [List.getD_eq_getElem?_getD, List.getElem?_eq_getElem (by omega)]; exact List.getElem_mem (by omega))
            have h2 := (unhide HN).1
            exact ⟨(ys.getD j 0).toNat, by omega, by omega⟩
          obtain ⟨hv, hvn⟩ := hv
          have hnx := take_next (l := ys) (j := j) (by omega)
          rw [hv] at sk hnx
          have HNX := hide hnx
          have hvn' : (v : Int) < (k : Int) := by omega
          have q1 := (unhide HRj v hvn).1
          have q2 := (unhide HRj v hvn).2
          have hb := cnL_le (opsT os k ++ ys.take j) v
          have hbl := opsT_len os k
          have hb2 : (opsT os k ++ ys.take j).length ≤ 5000 := by
            simp only [List.length_append, List.length_take]
            omega
          obtain ⟨cv, hcv⟩ : ∃ cv, cnL (opsT os k ++ ys.take j) v = cv := ⟨_, rfl⟩
          rw [hcv] at hb
          simp only [hcv] at q1
          have hb3 : 0 ≤ cv ∧ cv ≤ 5000 := by omega
          have HRN := hide (show RoV (wr.setCell ⟨g, v, none⟩ (.int .i64 (cv + 1))) g k (fun u => .int .i64 (cnL (opsT os k ++ ys.take (j + 1)) u)) from ((unhide HRj).put v (.int .i64 (cv + 1)) hvn).congr (fun u hu => by
            rw [unhide HNX, ← List.append_assoc, cnL_app]
            by_cases e : u = v
            · rw [if_pos e, if_pos e, hcv]
            · rw [if_neg e, if_neg e]))
          have HCN := hide (show Chg (fun j => j = g) wm (wr.setCell ⟨g, v, none⟩ (.int .i64 (cv + 1))) from (unhide HCj).trans (Chg.of_set _ _ _ _ rfl))
          clear hc hv hnx hb hbl hb2 hcv hym
          go_wp2_with fail
          exact ⟨⟨j + 1, by omega, by (first | rfl | go_num), HRN, HCN⟩, by simp [intOf]; omega⟩
        · obtain rfl : j = m := by omega
          have hlj' : ¬ (j : Int) < (j : Int) := by omega
          have hym := (unhide HN).2.1
          have HRN := hide (show RoV wr g k (fun v => .int .i64 (cnL (opsT os k ++ ys) v)) from (unhide HRj).congr (fun v _ => by rw [List.take_of_length_le (by omega)]))
          clear hym
          go_wp2_with fail
          try go_ret2
          exact ⟨g, rfl, by have h1 := (unhide HN).2.2.1; have h2 := unhide HG; omega, unhide HRN, (unhide HA).trans ((unhide HBA).mono (unhide HA).size)⟩
end Go.Proofs.YtpicknbdfjjflaaGreatDoor
