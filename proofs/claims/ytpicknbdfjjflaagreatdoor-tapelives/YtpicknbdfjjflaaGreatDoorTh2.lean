/- Th1 -/
import Derived.Test.YtpicknbdfjjflaaGreatDoorTh0
namespace Go.Proofs.YtpicknbdfjjflaaGreatDoor
open Go.RowKit Go.Deep
set_option linter.unusedVariables false
def mkB (L : List Int) (v : Nat) : Bool := decide ((v : Int) ∈ L)
theorem mkB_app (L : List Int) (x v : Nat) : mkB (L ++ [(x : Int)]) v = if v = x then true else mkB L v := by
  unfold mkB
  by_cases e : v = x
  · subst e; simp
  · rw [if_neg e]
    simp
    omega
def lvL (os : List On) (ys : List Int) : Nat → List Int
  | 0 => ys
  | k + 1 => match os[os.length - 1 - k]? with
    | some o => if mkB (lvL os ys k) (os.length - 1 - k) then lvL os ys k ++ opsL o else lvL os ys k
    | none => lvL os ys k
theorem lvL_yes {os : List On} {ys : List Int} {k j n : Nat} {o : On} (hn : os.length = n) (hj : n - 1 - k = j) (ho : os[j]? = some o) (h : mkB (lvL os ys k) j = true) : lvL os ys (k + 1) = lvL os ys k ++ opsL o := by
  show (match os[os.length - 1 - k]? with | some o => _ | none => _) = _
  rw [hn, hj, ho]
  simp only [h, if_true]
theorem lvL_no {os : List On} {ys : List Int} {k j n : Nat} {o : On} (hn : os.length = n) (hj : n - 1 - k = j) (ho : os[j]? = some o) (h : mkB (lvL os ys k) j = false) : lvL os ys (k + 1) = lvL os ys k := by
  show (match os[os.length - 1 - k]? with | some o => _ | none => _) = _
  rw [hn, hj, ho]
  simp [h]
set_option maxRecDepth 100000 in
set_option maxHeartbeats 32000000 in
theorem tlive_any (i : Int) (a : Option Addr) (n c : Nat) (os : List On) (b : Option Addr) (m d : Nat) (ys : List Int) (w : World) (hs : SlO w a n c os) (hy : SlI w b m d ys) (hk : TpOk i os ys) :
    Calls Tryz.prog 55 #[tapV i a n c b m d] w fun e w' => ∃ g, e = .returned (.slice (some ⟨g, 0, none⟩) n n) ∧ w.heap.size ≤ g ∧ RoV w' g n (fun v => .bool (mkB (lvL os ys n) v)) ∧ Below w.heap.size w w' := by
  have hn := hs.len
  have hm := hy.len
  have hn2 : n ≤ 2048 := by have := hk.lo; omega
  have hm2 : m ≤ 64 := by have := hk.ly; omega
  obtain ⟨wa, hwa⟩ : ∃ x, w.alloc (.cells #[.int .i64 i, .slice a n c, .slice b m d] 25) = x := ⟨_, rfl⟩
  have bx : BoxP wa w.heap.size [.int .i64 i, .slice a n c, .slice b m d] := by rw [← hwa]; exact BoxP.made _ _ _
  have hba : Below w.heap.size w wa := by rw [← hwa]; exact (Below.refl _ _).alloc (Nat.le_refl _) _
  have hmk := make_boolsP n (by omega) wa
  have hR := RoV.made wa n 4 (.bool false)
  obtain ⟨wm, hwm⟩ : ∃ x, wa.alloc (.cells (madeCells #[.bool false] n) 4) = x := ⟨_, rfl⟩
  have bm : Below wa.heap.size wa wm := by rw [← hwm]; exact (Below.refl _ _).alloc (Nat.le_refl _) _
  have hgm : wa.heap.size < wm.heap.size := by rw [← hwm]; simp
  rw [hwm] at hmk hR
  have g1 := (bx.all 1 _ rfl).1
  have g2 := (bx.all 2 _ rfl).1
  have p1 := ((bx.below bm).all 1 _ rfl).1
  have p2 := ((bx.below bm).all 2 _ rfl).1
  have zlt : w.heap.size < wa.heap.size := bx.lt
  obtain ⟨g, hg⟩ : ∃ g, wa.heap.size = g := ⟨_, rfl⟩
  have HG := hide hg
  have HA := hide hba
  have HM := hide bm
  have HS := hide (hs.below hba)
  have HY := hide (hy.below hba)
  have HK := hide hk
  have HN := hide (And.intro hn (And.intro hm (And.intro zlt hgm)))
  have HR := hide (show RoV wm g n (fun v => .bool (mkB (ys.take 0) v)) from by
    rw [hg] at hR
    exact hR.congr (fun v _ => by simp [mkB]))
  rw [hg] at hmk
  clear bx hba bm hs hy hR hk hwm zlt hgm hn hm hg
  unfold tapV
  go_enter Tryz.func55, Tryz.ntmps55
  go_wp2_with fail
  have KP : ∀ wr, Hid (Chg (fun j => j = g) wm wr) → Below wa.heap.size wa wr := fun wr h => (unhide HM).trans ((unhide h).below (unhide HM).size (fun j hj e => by have := unhide HG; omega))
  go_loopw [16] (fun jv wr => ∃ j : Nat, j ≤ m ∧ jv = .int .i64 (j : Int) ∧ Hid (RoV wr g n (fun v => .bool (mkB (ys.take j) v))) ∧ Hid (Chg (fun j => j = g) wm wr)) (fun jv _ => m - (intOf jv).toNat)
  case atStart => exact ⟨0, Nat.zero_le _, rfl, HR, hide (Chg.refl _ _)⟩
  case round =>
    obtain ⟨j, hj, rfl, HRj, HCj⟩ := hrel
    have HBA := hide (KP _ HCj)
    have r1 := ((unhide HBA).cell (World.block_lt_of_cell? _ _ g1)).trans g1
    have r2 := ((unhide HBA).cell (World.block_lt_of_cell? _ _ g2)).trans g2
    by_cases hlj : j < m
    · have hlj' : (j : Int) < (m : Int) := by omega
      have hym := (unhide HN).2.1
      obtain ⟨zb, zo, rfl, hc⟩ := ((unhide HY).below (unhide HBA)).at (by omega)
      have sk := hc j hlj
      obtain ⟨v, hv⟩ : ∃ v : Nat, ys.getD j 0 = (v : Int) ∧ v < n := by
        have h1 := (unhide HK).out (ys.getD j 0) (by rw [List.getD_eq_getElem?_getD, List.getElem?_eq_getElem (by omega)]; exact List.getElem_mem (by omega))
        have h2 := (unhide HN).1
        exact ⟨(ys.getD j 0).toNat, by omega, by omega⟩
      obtain ⟨hv, hvn⟩ := hv
      have hnx := take_next (l := ys) (j := j) (by omega)
      rw [hv] at sk hnx
      have HNX := hide hnx
      have hvn' : (v : Int) < (n : Int) := by omega
      have q1 := (unhide HRj v hvn).1
      have q2 := (unhide HRj v hvn).2
      have HRN := hide (show RoV (wr.setCell ⟨g, v, none⟩ (.bool true)) g n (fun u => .bool (mkB (ys.take (j + 1)) u)) from ((unhide HRj).put v (.bool true) hvn).congr (fun u hu => by
        rw [unhide HNX, mkB_app]
        by_cases e : u = v
        · rw [if_pos e, if_pos e]
        · rw [if_neg e, if_neg e]))
      have HCN := hide (show Chg (fun j => j = g) wm (wr.setCell ⟨g, v, none⟩ (.bool true)) from (unhide HCj).trans (Chg.of_set _ _ _ _ rfl))
      clear hc hv hnx hym hmk KP
      go_wp2_with fail
      exact ⟨⟨j + 1, by omega, by (first | rfl | go_num), HRN, HCN⟩, by simp [intOf]; omega⟩
    · obtain rfl : j = m := by omega
      have hlj' : ¬ (j : Int) < (j : Int) := by omega
      have hym := (unhide HN).2.1
      have HR1 := hide (show RoV wr g n (fun v => .bool (mkB (lvL os ys 0) v)) from (unhide HRj).congr (fun v _ => by rw [List.take_of_length_le (by omega)]; rfl))
      have HPQ := hide KP
      clear hmk KP hym
      go_wp2_with fail
      go_loopw [6] (fun iv wr' => ∃ k : Nat, k ≤ n ∧ iv = .int .i64 ((n : Int) - 1 - (k : Int)) ∧ Hid (RoV wr' g n (fun v => .bool (mkB (lvL os ys k) v))) ∧ Hid (Chg (fun j => j = g) wm wr')) (fun iv _ => (intOf iv + 1).toNat)
      case atStart => exact ⟨0, Nat.zero_le _, by simp, HR1, HCj⟩
      case round =>
        obtain ⟨k, hkn, hiv, HRr, HC⟩ := hrel
        have HBA := hide ((unhide HPQ) _ HC)
        have r1 := ((unhide HBA).cell (World.block_lt_of_cell? _ _ g1)).trans g1
        by_cases hlt : k < n
        · obtain ⟨i2, hi2⟩ : ∃ i2 : Nat, (n : Int) - 1 - (k : Int) = (i2 : Int) ∧ n - 1 - k = i2 ∧ i2 < n := ⟨n - 1 - k, by omega, rfl, by omega⟩
          obtain ⟨e1, e2, hi2n⟩ := hi2
          rw [e1] at hiv
          subst hiv
          have HE := hide (And.intro e1 e2)
          clear e1 e2
          have hlt' : 0 ≤ (i2 : Int) := by omega
          have hlt2 : (i2 : Int) < (n : Int) := by omega
          have q1 := (unhide HRr i2 hi2n).1
          obtain ⟨b1, off, o, rfl, ho, O, hok⟩ := ((unhide HS).below (unhide HBA)).at' hi2n
          obtain ⟨c0, c1, c2, c3, c4, c5, c6⟩ := O
          have HOO := hide ho
          obtain ⟨mk, hmk2⟩ : ∃ mk, mkB (lvL os ys k) i2 = mk := ⟨_, rfl⟩
          simp only [hmk2] at q1
          have HMK := hide hmk2
          clear hmk2 hok
          cases mk
          · have HRN := hide (show RoV wr g n (fun v => .bool (mkB (lvL os ys (k + 1)) v)) from by rw [lvL_no (unhide HN).1 (unhide HE).2 (unhide HOO) (unhide HMK)]; exact unhide HRr)
            clear ho
            go_wp2_with fail
            exact ⟨⟨k + 1, by omega, by have h1 := (unhide HE).1; (first | (congr 1; omega) | (simp; omega) | go_num), HRN, HC⟩, by have h1 := (unhide HE).1; (first | (simp [intOf]; done) | (simp [intOf]; omega))⟩
          · have hop := op_ok ((unhide HK).op i2 o ho)
            have HP := hide (fun (W : World) => (by
              have K := toperands_any o hop.1.1 hop.1.2 W
              unfold opV at K
              exact K : Calls Tryz.prog 63 #[.agg #[.int .i64 o.k, .int .i64 o.a, .int .i64 o.b, .int .i64 o.n, .bool o.p.g, .slice o.p.a o.p.n o.p.c, .slice o.p.b o.p.m o.p.d]] W (OpsA W (opsL o))))
            have HOP := hide hop.2.1
            have HLY := hide (lvL_yes (ys := ys) (unhide HN).1 (unhide HE).2 (unhide HOO) (unhide HMK))
            clear hop ho
            go_wp2_with fail
            refine (unhide HP _).mono ?_
            rintro _ w1 ⟨z, m1, c1', rfl, hz, hnew, bE⟩
            have HZ := hide hz
            have HNW := hide (show ∀ y, z = some y → y.block ≠ g from fun y e h => by have h1 := hnew y e; have h2 := (unhide HC).size; have h3 := (unhide HN).2.2.2; have h4 := unhide HG; omega)
            have HC1 := hide ((unhide HC).trans (Chg.of_below bE))
            have HR1 := hide (show RoV w1 g n (fun v => .bool (mkB (lvL os ys k ++ (opsL o).take 0) v)) from ((unhide HRr).below bE).congr (fun v _ => by simp))
            clear hz hnew bE HP c0 c1 c2 c3 c4 c5 c6 q1
            go_wp2_with fail
            go_loopw [44] (fun jv wr' => ∃ j : Nat, j ≤ m1 ∧ jv = .int .i64 (j : Int) ∧ Hid (RoV wr' g n (fun v => .bool (mkB (lvL os ys k ++ (opsL o).take j) v))) ∧ Hid (Chg (fun j => j = g) w1 wr')) (fun jv _ => m1 - (intOf jv).toNat)
            case atStart => exact ⟨0, Nat.zero_le _, rfl, HR1, hide (Chg.refl _ _)⟩
            case round =>
              obtain ⟨j, hj, rfl, HRj, HCj⟩ := hrel
              have hml := (unhide HZ).len
              have hm12 : m1 ≤ 2 := by have := opsL_len o; omega
              by_cases hlj : j < m1
              · have hlj' : (j : Int) < (m1 : Int) := by omega
                have hzz := (unhide HZ).chg (unhide HCj) (fun y e hne h => unhide HNW y e h)
                obtain ⟨zb, zo, rfl, hc⟩ := hzz.at (by omega)
                have sk := hc j hlj
                obtain ⟨v, hv⟩ : ∃ v : Nat, (opsL o).getD j 0 = (v : Int) ∧ v < n := by
                  have h1 := unhide HOP ((opsL o).getD j 0) (by rw [List.getD_eq_getElem?_getD, List.getElem?_eq_getElem (by omega)]; exact List.getElem_mem (by omega))
                  exact ⟨((opsL o).getD j 0).toNat, by omega, by omega⟩
                obtain ⟨hv, hvn⟩ := hv
                have hnx := take_next (l := opsL o) (j := j) (by omega)
                rw [hv] at sk hnx
                have HNX := hide hnx
                have hvn' : (v : Int) < (n : Int) := by omega
                have q1 := (unhide HRj v hvn).1
                have q2 := (unhide HRj v hvn).2
                have HRN := hide (show RoV (wr.setCell ⟨g, v, none⟩ (.bool true)) g n (fun u => .bool (mkB (lvL os ys k ++ (opsL o).take (j + 1)) u)) from ((unhide HRj).put v (.bool true) hvn).congr (fun u hu => by
                  rw [unhide HNX, ← List.append_assoc, mkB_app]
                  by_cases e : u = v
                  · rw [if_pos e, if_pos e]
                  · rw [if_neg e, if_neg e]))
                have HCN := hide (show Chg (fun j => j = g) w1 (wr.setCell ⟨g, v, none⟩ (.bool true)) from (unhide HCj).trans (Chg.of_set _ _ _ _ rfl))
                clear hc hzz hv hnx
                go_wp2_with fail
                exact ⟨⟨j + 1, by omega, by (first | rfl | go_num), HRN, HCN⟩, by simp [intOf]; omega⟩
              · obtain rfl : j = m1 := by omega
                have hlj' : ¬ (j : Int) < (j : Int) := by omega
                have HRN := hide (show RoV wr g n (fun v => .bool (mkB (lvL os ys (k + 1)) v)) from (unhide HRj).congr (fun v _ => by rw [unhide HLY, List.take_of_length_le (by omega)]))
                have HCN := hide (show Chg (fun j => j = g) wm wr from (unhide HC1).trans (unhide HCj))
                clear hml
                go_wp2_with fail
                exact ⟨⟨k + 1, by omega, by have h1 := (unhide HE).1; (first | (congr 1; omega) | (simp; omega) | go_num), HRN, HCN⟩, by have h1 := (unhide HE).1; (first | (simp [intOf]; done) | (simp [intOf]; omega))⟩
        · obtain rfl : k = n := by omega
          have e1 : (k : Int) - 1 - (k : Int) = -1 := by omega
          rw [e1] at hiv
          subst hiv
          go_wp2_with fail
          try go_ret
          exact ⟨g, rfl, by have h1 := (unhide HN).2.2.1; have h2 := unhide HG; omega, unhide HRr, (unhide HA).trans ((unhide HBA).mono (unhide HA).size)⟩
set_option maxRecDepth 100000 in
set_option maxHeartbeats 32000000 in
theorem wlive_any (i : Int) (a : Option Addr) (n c : Nat) (os : List On) (b : Option Addr) (m d : Nat) (ys : List Int) (w : World) (hs : SlO w a n c os) (hy : SlI w b m d ys) (hk : TpOk i os ys) :
    Calls Tryz.prog 56 #[tapV i a n c b m d] w fun e w' => ∃ g, e = .returned (.slice (some ⟨g, 0, none⟩) n n) ∧ w.heap.size ≤ g ∧ RoV w' g n (fun v => .bool (mkB (lvL os ys n) v)) ∧ Below w.heap.size w w' := by
  have hn := hs.len
  have hm := hy.len
  have hn2 : n ≤ 2048 := by have := hk.lo; omega
  have hm2 : m ≤ 64 := by have := hk.ly; omega
  obtain ⟨wa, hwa⟩ : ∃ x, w.alloc (.cells #[.int .i64 i, .slice a n c, .slice b m d] 25) = x := ⟨_, rfl⟩
  have bx : BoxP wa w.heap.size [.int .i64 i, .slice a n c, .slice b m d] := by rw [← hwa]; exact BoxP.made _ _ _
  have hba : Below w.heap.size w wa := by rw [← hwa]; exact (Below.refl _ _).alloc (Nat.le_refl _) _
  have hmk := make_boolsP n (by omega) wa
  have hR := RoV.made wa n 4 (.bool false)
  obtain ⟨wm, hwm⟩ : ∃ x, wa.alloc (.cells (madeCells #[.bool false] n) 4) = x := ⟨_, rfl⟩
  have bm : Below wa.heap.size wa wm := by rw [← hwm]; exact (Below.refl _ _).alloc (Nat.le_refl _) _
  have hgm : wa.heap.size < wm.heap.size := by rw [← hwm]; simp
  rw [hwm] at hmk hR
  have g1 := (bx.all 1 _ rfl).1
  have g2 := (bx.all 2 _ rfl).1
  have p1 := ((bx.below bm).all 1 _ rfl).1
  have p2 := ((bx.below bm).all 2 _ rfl).1
  have zlt : w.heap.size < wa.heap.size := bx.lt
  obtain ⟨g, hg⟩ : ∃ g, wa.heap.size = g := ⟨_, rfl⟩
  have HG := hide hg
  have HA := hide hba
  have HM := hide bm
  have HS := hide (hs.below hba)
  have HY := hide (hy.below hba)
  have HK := hide hk
  have HN := hide (And.intro hn (And.intro hm (And.intro zlt hgm)))
  have HR := hide (show RoV wm g n (fun v => .bool (mkB (ys.take 0) v)) from by
    rw [hg] at hR
    exact hR.congr (fun v _ => by simp [mkB]))
  rw [hg] at hmk
  clear bx hba bm hs hy hR hk hwm zlt hgm hn hm hg
  unfold tapV
  go_enter Tryz.func56, Tryz.ntmps56
  go_wp2_with fail
  have KP : ∀ wr, Hid (Chg (fun j => j = g) wm wr) → Below wa.heap.size wa wr := fun wr h => (unhide HM).trans ((unhide h).below (unhide HM).size (fun j hj e => by have := unhide HG; omega))
  go_loopw [4] (fun jv wr => ∃ j : Nat, j ≤ m ∧ jv = .int .i64 (j : Int) ∧ Hid (RoV wr g n (fun v => .bool (mkB (ys.take j) v))) ∧ Hid (Chg (fun j => j = g) wm wr)) (fun jv _ => m - (intOf jv).toNat)
  case atStart => exact ⟨0, Nat.zero_le _, rfl, HR, hide (Chg.refl _ _)⟩
  case round =>
    obtain ⟨j, hj, rfl, HRj, HCj⟩ := hrel
    have HBA := hide (KP _ HCj)
    have r1 := ((unhide HBA).cell (World.block_lt_of_cell? _ _ g1)).trans g1
    have r2 := ((unhide HBA).cell (World.block_lt_of_cell? _ _ g2)).trans g2
    by_cases hlj : j < m
    · have hlj' : (j : Int) < (m : Int) := by omega
      have hym := (unhide HN).2.1
      obtain ⟨zb, zo, rfl, hc⟩ := ((unhide HY).below (unhide HBA)).at (by omega)
      have sk := hc j hlj
      obtain ⟨v, hv⟩ : ∃ v : Nat, ys.getD j 0 = (v : Int) ∧ v < n := by
        have h1 := (unhide HK).out (ys.getD j 0) (by rw [List.getD_eq_getElem?_getD, List.getElem?_eq_getElem (by omega)]; exact List.getElem_mem (by omega))
        have h2 := (unhide HN).1
        exact ⟨(ys.getD j 0).toNat, by omega, by omega⟩
      obtain ⟨hv, hvn⟩ := hv
      have hnx := take_next (l := ys) (j := j) (by omega)
      rw [hv] at sk hnx
      have HNX := hide hnx
      have hvn' : (v : Int) < (n : Int) := by omega
      have q1 := (unhide HRj v hvn).1
      have q2 := (unhide HRj v hvn).2
      have HRN := hide (show RoV (wr.setCell ⟨g, v, none⟩ (.bool true)) g n (fun u => .bool (mkB (ys.take (j + 1)) u)) from ((unhide HRj).put v (.bool true) hvn).congr (fun u hu => by
        rw [unhide HNX, mkB_app]
        by_cases e : u = v
        · rw [if_pos e, if_pos e]
        · rw [if_neg e, if_neg e]))
      have HCN := hide (show Chg (fun j => j = g) wm (wr.setCell ⟨g, v, none⟩ (.bool true)) from (unhide HCj).trans (Chg.of_set _ _ _ _ rfl))
      clear hc hv hnx hym hmk KP
      go_wp2_with fail
      exact ⟨⟨j + 1, by omega, by (first | rfl | go_num), HRN, HCN⟩, by simp [intOf]; omega⟩
    · obtain rfl : j = m := by omega
      have hlj' : ¬ (j : Int) < (j : Int) := by omega
      have hym := (unhide HN).2.1
      have HR1 := hide (show RoV wr g n (fun v => .bool (mkB (lvL os ys 0) v)) from (unhide HRj).congr (fun v _ => by rw [List.take_of_length_le (by omega)]; rfl))
      have HPQ := hide KP
      clear hmk KP hym
      go_wp2_with fail
      go_loopw [5] (fun iv wr' => ∃ k : Nat, k ≤ n ∧ iv = .int .i64 ((n : Int) - 1 - (k : Int)) ∧ Hid (RoV wr' g n (fun v => .bool (mkB (lvL os ys k) v))) ∧ Hid (Chg (fun j => j = g) wm wr')) (fun iv _ => (intOf iv + 1).toNat)
      case atStart => exact ⟨0, Nat.zero_le _, by simp, HR1, HCj⟩
      case round =>
        obtain ⟨k, hkn, hiv, HRr, HC⟩ := hrel
        have HBA := hide ((unhide HPQ) _ HC)
        have r1 := ((unhide HBA).cell (World.block_lt_of_cell? _ _ g1)).trans g1
        by_cases hlt : k < n
        · obtain ⟨i2, hi2⟩ : ∃ i2 : Nat, (n : Int) - 1 - (k : Int) = (i2 : Int) ∧ n - 1 - k = i2 ∧ i2 < n := ⟨n - 1 - k, by omega, rfl, by omega⟩
          obtain ⟨e1, e2, hi2n⟩ := hi2
          rw [e1] at hiv
          subst hiv
          have HE := hide (And.intro e1 e2)
          clear e1 e2
          have hlt' : 0 ≤ (i2 : Int) := by omega
          have hlt2 : (i2 : Int) < (n : Int) := by omega
          have q1 := (unhide HRr i2 hi2n).1
          obtain ⟨b1, off, o, rfl, ho, O, hok⟩ := ((unhide HS).below (unhide HBA)).at' hi2n
          obtain ⟨c0, c1, c2, c3, c4, c5, c6⟩ := O
          have HOO := hide ho
          obtain ⟨mk, hmk2⟩ : ∃ mk, mkB (lvL os ys k) i2 = mk := ⟨_, rfl⟩
          simp only [hmk2] at q1
          have HMK := hide hmk2
          clear hmk2 hok
          cases mk
          · have HRN := hide (show RoV wr g n (fun v => .bool (mkB (lvL os ys (k + 1)) v)) from by rw [lvL_no (unhide HN).1 (unhide HE).2 (unhide HOO) (unhide HMK)]; exact unhide HRr)
            clear ho
            go_wp2_with fail
            exact ⟨⟨k + 1, by omega, by have h1 := (unhide HE).1; (first | (congr 1; omega) | (simp; omega) | go_num), HRN, HC⟩, by have h1 := (unhide HE).1; (first | (simp [intOf]; done) | (simp [intOf]; omega))⟩
          · have hop := op_ok ((unhide HK).op i2 o ho)
            have HP := hide (fun (W : World) => (by
              have K := woperands_any o hop.1.1 hop.1.2 W
              unfold opV at K
              exact K : Calls Tryz.prog 57 #[.agg #[.int .i64 o.k, .int .i64 o.a, .int .i64 o.b, .int .i64 o.n, .bool o.p.g, .slice o.p.a o.p.n o.p.c, .slice o.p.b o.p.m o.p.d]] W (OpsA W (opsL o))))
            have HOP := hide hop.2.1
            have HLY := hide (lvL_yes (ys := ys) (unhide HN).1 (unhide HE).2 (unhide HOO) (unhide HMK))
            clear hop ho
            go_wp2_with fail
            refine (unhide HP _).mono ?_
            rintro _ w1 ⟨z, m1, c1', rfl, hz, hnew, bE⟩
            have HZ := hide hz
            have HNW := hide (show ∀ y, z = some y → y.block ≠ g from fun y e h => by have h1 := hnew y e; have h2 := (unhide HC).size; have h3 := (unhide HN).2.2.2; have h4 := unhide HG; omega)
            have HC1 := hide ((unhide HC).trans (Chg.of_below bE))
            have HR1 := hide (show RoV w1 g n (fun v => .bool (mkB (lvL os ys k ++ (opsL o).take 0) v)) from ((unhide HRr).below bE).congr (fun v _ => by simp))
            clear hz hnew bE HP c0 c1 c2 c3 c4 c5 c6 q1
            go_wp2_with fail
            go_loopw [7] (fun jv wr' => ∃ j : Nat, j ≤ m1 ∧ jv = .int .i64 (j : Int) ∧ Hid (RoV wr' g n (fun v => .bool (mkB (lvL os ys k ++ (opsL o).take j) v))) ∧ Hid (Chg (fun j => j = g) w1 wr')) (fun jv _ => m1 - (intOf jv).toNat)
            case atStart => exact ⟨0, Nat.zero_le _, rfl, HR1, hide (Chg.refl _ _)⟩
            case round =>
              obtain ⟨j, hj, rfl, HRj, HCj⟩ := hrel
              have hml := (unhide HZ).len
              have hm12 : m1 ≤ 2 := by have := opsL_len o; omega
              by_cases hlj : j < m1
              · have hlj' : (j : Int) < (m1 : Int) := by omega
                have hzz := (unhide HZ).chg (unhide HCj) (fun y e hne h => unhide HNW y e h)
                obtain ⟨zb, zo, rfl, hc⟩ := hzz.at (by omega)
                have sk := hc j hlj
                obtain ⟨v, hv⟩ : ∃ v : Nat, (opsL o).getD j 0 = (v : Int) ∧ v < n := by
                  have h1 := unhide HOP ((opsL o).getD j 0) (by rw [List.getD_eq_getElem?_getD, List.getElem?_eq_getElem (by omega)]; exact List.getElem_mem (by omega))
                  exact ⟨((opsL o).getD j 0).toNat, by omega, by omega⟩
                obtain ⟨hv, hvn⟩ := hv
                have hnx := take_next (l := opsL o) (j := j) (by omega)
                rw [hv] at sk hnx
                have HNX := hide hnx
                have hvn' : (v : Int) < (n : Int) := by omega
                have q1 := (unhide HRj v hvn).1
                have q2 := (unhide HRj v hvn).2
                have HRN := hide (show RoV (wr.setCell ⟨g, v, none⟩ (.bool true)) g n (fun u => .bool (mkB (lvL os ys k ++ (opsL o).take (j + 1)) u)) from ((unhide HRj).put v (.bool true) hvn).congr (fun u hu => by
                  rw [unhide HNX, ← List.append_assoc, mkB_app]
                  by_cases e : u = v
                  · rw [if_pos e, if_pos e]
                  · rw [if_neg e, if_neg e]))
                have HCN := hide (show Chg (fun j => j = g) w1 (wr.setCell ⟨g, v, none⟩ (.bool true)) from (unhide HCj).trans (Chg.of_set _ _ _ _ rfl))
                clear hc hzz hv hnx
                go_wp2_with fail
                exact ⟨⟨j + 1, by omega, by (first | rfl | go_num), HRN, HCN⟩, by simp [intOf]; omega⟩
              · obtain rfl : j = m1 := by omega
                have hlj' : ¬ (j : Int) < (j : Int) := by omega
                have HRN := hide (show RoV wr g n (fun v => .bool (mkB (lvL os ys (k + 1)) v)) from (unhide HRj).congr (fun v _ => by rw [unhide HLY, List.take_of_length_le (by omega)]))
                have HCN := hide (show Chg (fun j => j = g) wm wr from (unhide HC1).trans (unhide HCj))
                clear hml
                go_wp2_with fail
                exact ⟨⟨k + 1, by omega, by have h1 := (unhide HE).1; (first | (congr 1; omega) | (simp; omega) | go_num), HRN, HCN⟩, by have h1 := (unhide HE).1; (first | (simp [intOf]; done) | (simp [intOf]; omega))⟩
        · obtain rfl : k = n := by omega
          have e1 : (k : Int) - 1 - (k : Int) = -1 := by omega
          rw [e1] at hiv
          subst hiv
          go_wp2_with fail
          try go_ret
          exact ⟨g, rfl, by have h1 := (unhide HN).2.2.1; have h2 := unhide HG; omega, unhide HRr, (unhide HA).trans ((unhide HBA).mono (unhide HA).size)⟩
end Go.Proofs.YtpicknbdfjjflaaGreatDoor
