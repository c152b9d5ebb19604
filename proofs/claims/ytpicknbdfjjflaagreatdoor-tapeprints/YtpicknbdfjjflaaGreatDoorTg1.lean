/- Tf0 -/
import Derived.Test.YtpicknbdfjjflaaGreatDoorSp3
import Derived.Lib.ItoaLen
import Derived.Lib.AppendIntMem
import Derived.Test.YtpicknbdfjjflaaGreatDoorTs0
namespace Go.Proofs.YtpicknbdfjjflaaGreatDoor
open Go.RowKit Go.Deep
set_option linter.unusedVariables false
theorem Tryz.info_intT : (Tryz.prog.info? 3).map (fun i => (i.zero, i.size, i.bytes)) = some (some (.int .i64 0), 1, 8) := by kernel_rfl
theorem make_intsT (n : Nat) (hn : n ≤ 1000000) (w : World) : (Instr.makeSlice 23 (.int .i64 (n : Int)) (.int .i64 (n : Int))).run Tryz.prog w = .ok (.slice (some ⟨w.heap.size, 0, none⟩) n n) (w.alloc (.cells (madeCells #[.int .i64 0] n) 3)) :=
  run_make_row' (P := Tryz.prog) 23 3 (.int .i64 0) 8 Tryz.underlying23 Tryz.info_intT rfl .i64 .i64 n (by omega) (by omega) w
def cnL (L : List Int) (v : Nat) : Int := (L.count (v : Int) : Nat)
theorem cnL_app (L : List Int) (x v : Nat) : cnL (L ++ [(x : Int)]) v = if v = x then cnL L x + 1 else cnL L v := by
  unfold cnL
  rw [List.count_append]
  by_cases e : v = x
  · subst e; rw [if_pos rfl]; simp
  · rw [if_neg e]
    have : List.count (v : Int) [(x : Int)] = 0 := by
      rw [List.count_eq_zero]
      simp
      omega
    rw [this]; simp
theorem cnL_le (L : List Int) (v : Nat) : 0 ≤ cnL L v ∧ cnL L v ≤ L.length := by
  unfold cnL
  have := List.count_le_length (a := (v : Int)) (l := L)
  omega
def opsT (os : List On) (k : Nat) : List Int := (os.take k).flatMap opsL
theorem opsT_len (os : List On) (k : Nat) : (opsT os k).length ≤ 2 * k := by
  unfold opsT
  rw [List.length_flatMap]
  have h1 : ∀ l : List On, (l.map (fun o => (opsL o).length)).sum ≤ 2 * l.length := by
    intro l
    induction l with
    | nil => simp
    | cons o l ih =>
      have := opsL_len o
      simp only [List.map_cons, List.sum_cons, List.length_cons]
      omega
  have h2 := h1 (os.take k)
  have h3 : (os.take k).length ≤ k := by simp; omega
  omega
theorem opsT_next {os : List On} {k : Nat} {o : On} (h : os[k]? = some o) : opsT os (k + 1) = opsT os k ++ opsL o := by
  obtain ⟨hk, rfl⟩ := List.getElem?_eq_some_iff.1 h
  unfold opsT
  rw [List.take_succ_eq_append_getElem hk, List.flatMap_append]
  simp
theorem take_next {l : List Int} {j : Nat} (hj : j < l.length) : l.take (j + 1) = l.take j ++ [l.getD j 0] := by
  rw [List.take_succ_eq_append_getElem hj, List.getD_eq_getElem?_getD, List.getElem?_eq_getElem hj]
  rfl
set_option maxRecDepth 100000 in
set_option maxHeartbeats 32000000 in
theorem tuses_any (i : Int) (a : Option Addr) (n c : Nat) (os : List On) (b : Option Addr) (m d : Nat) (ys : List Int) (w : World) (hs : SlO w a n c os) (hy : SlI w b m d ys) (hk : TpOk i os ys) :
    Calls Tryz.prog 48 #[tapV i a n c b m d] w fun e w' => ∃ g, e = .returned (.slice (some ⟨g, 0, none⟩) n n) ∧ w.heap.size ≤ g ∧ RoV w' g n (fun v => .int .i64 (cnL (opsT os n ++ ys) v)) ∧ Below w.heap.size w w' := by
  have hn := hs.len
  have hm := hy.len
  have hn2 : n ≤ 2048 := by have := hk.lo; omega
  have hm2 : m ≤ 64 := by have := hk.ly; omega
  obtain ⟨wa, hwa⟩ : ∃ x, w.alloc (.cells #[.int .i64 i, .slice a n c, .slice b m d] 25) = x := ⟨_, rfl⟩
  have bx : BoxP wa w.heap.size [.int .i64 i, .slice a n c, .slice b m d] := by rw [← hwa]; exact BoxP.made _ _ _
  have hba : Below w.heap.size w wa := by rw [← hwa]; exact (Below.refl _ _).alloc (Nat.le_refl _) _
  have hmk := make_intsT n (by omega) wa
  have hR := RoV.made wa n 3 (.int .i64 0)
  obtain ⟨wm, hwm⟩ : ∃ x, wa.alloc (.cells (madeCells #[.int .i64 0] n) 3) = x := ⟨_, rfl⟩
  have bm : Below wa.heap.size wa wm := by rw [← hwm]; exact (Below.refl _ _).alloc (Nat.le_refl _) _
  have hgm : wa.heap.size < wm.heap.size := by rw [← hwm]; simp
  rw [hwm] at hmk hR
  have g1 := (bx.all 1 _ rfl).1
  have g2 := (bx.all 2 _ rfl).1
  have p1 := ((bx.below bm).all 1 _ rfl).1
  have p2 := ((bx.below bm).all 2 _ rfl).1
  have zlt : w.heap.size < wa.heap.size := bx.lt
  obtain ⟨g, hg⟩ : ∃ g, wa.heap.size = g := ⟨_, rfl⟩
  have HG := hide hg
  have HA := hide hba
  have HM := hide bm
  have HS := hide (hs.below hba)
  have HY := hide (hy.below hba)
  have HK := hide hk
  have HN := hide (And.intro hn (And.intro hm (And.intro zlt hgm)))
  have HR := hide (show RoV wm g n (fun v => .int .i64 (cnL (opsT os 0) v)) from by
    rw [hg] at hR
    exact hR.congr (fun v _ => by simp [cnL, opsT]))
  rw [hg] at hmk
  clear bx hba bm hs hy hR hk hwm zlt hgm hn hm hg
  unfold tapV
  go_enter Tryz.func48, Tryz.ntmps48
  go_wp2_with fail
  have KP : ∀ wr, Hid (Chg (fun j => j = g) wm wr) → Below wa.heap.size wa wr := fun wr h => (unhide HM).trans ((unhide h).below (unhide HM).size (fun j hj e => by have := unhide HG; omega))
  go_loopw [16] (fun iv wr => ∃ k : Nat, k ≤ n ∧ iv = .int .i64 (k : Int) ∧ Hid (RoV wr g n (fun v => .int .i64 (cnL (opsT os k) v))) ∧ Hid (Chg (fun j => j = g) wm wr)) (fun iv _ => n - (intOf iv).toNat)
  case atStart => exact ⟨0, Nat.zero_le _, rfl, HR, hide (Chg.refl _ _)⟩
  case round =>
    obtain ⟨k, hkn, rfl, HRr, HC⟩ := hrel
    have HBA := hide (KP wr HC)
    have r1 := ((unhide HBA).cell (World.block_lt_of_cell? _ _ g1)).trans g1
    have r2 := ((unhide HBA).cell (World.block_lt_of_cell? _ _ g2)).trans g2
    by_cases hlt : k < n
    · have hlt' : (k : Int) < (n : Int) := by omega
      obtain ⟨b1, off, o, rfl, ho, O, hok⟩ := ((unhide HS).below (unhide HBA)).at' hlt
      obtain ⟨c0, c1, c2, c3, c4, c5, c6⟩ := O
      have hop := op_ok ((unhide HK).op k o ho)
      have HP := hide (fun (W : World) => (by
        have K := toperands_any o hop.1.1 hop.1.2 W
        unfold opV at K
        exact K : Calls Tryz.prog 63 #[.agg #[.int .i64 o.k, .int .i64 o.a, .int .i64 o.b, .int .i64 o.n, .bool o.p.g, .slice o.p.a o.p.n o.p.c, .slice o.p.b o.p.m o.p.d]] W (OpsA W (opsL o))))
      have HO := hide ho
      have HOP := hide hop.2.1
      clear hok hop ho
      go_wp2_with fail
      refine (unhide HP _).mono ?_
      rintro _ w1 ⟨z, m1, c1', rfl, hz, hnew, bE⟩
      have HZ := hide hz
      have HNW := hide (show ∀ y, z = some y → y.block ≠ g from fun y e h => by have h1 := hnew y e; have h2 := (unhide HC).size; have h3 := (unhide HN).2.2.2; have h4 := unhide HG; omega)
      have HE := hide bE
      have HC1 := hide ((unhide HC).trans (Chg.of_below bE))
      have HR1 := hide (show RoV w1 g n (fun v => .int .i64 (cnL (opsT os k ++ (opsL o).take 0) v)) from ((unhide HRr).below bE).congr (fun v _ => by simp))
      clear hz hnew bE HP c0 c1 c2 c3 c4 c5 c6
      go_wp2_with fail
      go_loopw [26] (fun jv wr' => ∃ j : Nat, j ≤ m1 ∧ jv = .int .i64 (j : Int) ∧ Hid (RoV wr' g n (fun v => .int .i64 (cnL (opsT os k ++ (opsL o).take j) v))) ∧ Hid (Chg (fun j => j = g) w1 wr')) (fun jv _ => m1 - (intOf jv).toNat)
      case atStart => exact ⟨0, Nat.zero_le _, rfl, HR1, hide (Chg.refl _ _)⟩
      case round =>
        obtain ⟨j, hj, rfl, HRj, HCj⟩ := hrel
        have hml := (unhide HZ).len
        have hm12 : m1 ≤ 2 := by have := opsL_len o; omega
        by_cases hlj : j < m1
        · have hlj' : (j : Int) < (m1 : Int) := by omega
          have hzz := (unhide HZ).chg (unhide HCj) (fun y e hne h => unhide HNW y e h)
          obtain ⟨zb, zo, rfl, hc⟩ := hzz.at (by omega)
          have sk := hc j hlj
          obtain ⟨v, hv⟩ : ∃ v : Nat, (opsL o).getD j 0 = (v : Int) ∧ v < n := by
            have h1 := unhide HOP ((opsL o).getD j 0) (by rw [List.getD_eq_getElem?_getD, List.getElem?_eq_getElem (by omega)]; exact List.getElem_mem (by omega))
            exact ⟨((opsL o).getD j 0).toNat, by omega, by omega⟩
          obtain ⟨hv, hvn⟩ := hv
          have hnx := take_next (l := opsL o) (j := j) (by omega)
          rw [hv] at sk hnx
          have HNX := hide hnx
          have hvn' : (v : Int) < (n : Int) := by omega
          have q1 := (unhide HRj v hvn).1
          have q2 := (unhide HRj v hvn).2
          have hb := cnL_le (opsT os k ++ (opsL o).take j) v
          have hbl := opsT_len os k
          have hb2 : (opsT os k ++ (opsL o).take j).length ≤ 5000 := by
            have := opsL_len o
            simp only [List.length_append, List.length_take]
            omega
          obtain ⟨cv, hcv⟩ : ∃ cv, cnL (opsT os k ++ (opsL o).take j) v = cv := ⟨_, rfl⟩
          rw [hcv] at hb
          simp only [hcv] at q1
          have hb3 : 0 ≤ cv ∧ cv ≤ 5000 := by omega
          have HRN := hide (show RoV (wr.setCell ⟨g, v, none⟩ (.int .i64 (cv + 1))) g n (fun u => .int .i64 (cnL (opsT os k ++ (opsL o).take (j + 1)) u)) from ((unhide HRj).put v (.int .i64 (cv + 1)) hvn).congr (fun u hu => by
            rw [unhide HNX, ← List.append_assoc, cnL_app]
            by_cases e : u = v
            · rw [if_pos e, if_pos e, hcv]
            · rw [if_neg e, if_neg e]))
          have HCN := hide (show Chg (fun j => j = g) w1 (wr.setCell ⟨g, v, none⟩ (.int .i64 (cv + 1))) from (unhide HCj).trans (Chg.of_set _ _ _ _ rfl))
          clear hc hzz hv hnx hb hbl hb2 hcv hmk
          go_wp2_with fail
          exact ⟨⟨j + 1, by omega, by (first | rfl | go_num), HRN, HCN⟩, by simp [intOf]; omega⟩
        · obtain rfl : j = m1 := by omega
          have hlj' : ¬ (j : Int) < (j : Int) := by omega
          have HRN := hide (show RoV wr g n (fun v => .int .i64 (cnL (opsT os (k + 1)) v)) from (unhide HRj).congr (fun v _ => by rw [opsT_next (unhide HO), List.take_of_length_le (by omega)]))
          have HCN := hide (show Chg (fun j => j = g) wm wr from (unhide HC1).trans (unhide HCj))
          clear hmk
          go_wp2_with fail
          exact ⟨⟨k + 1, by omega, by (first | rfl | go_num), HRN, HCN⟩, by simp [intOf]; omega⟩
    · obtain rfl : k = n := by omega
      have hlt' : ¬ (k : Int) < (k : Int) := by omega
      have HR1 := hide (show RoV wr g k (fun v => .int .i64 (cnL (opsT os k ++ ys.take 0) v)) from (unhide HRr).congr (fun v _ => by simp))
      have HPQ := hide KP
      clear hmk KP
      go_wp2_with fail
      go_loopw [41] (fun jv wr' => ∃ j : Nat, j ≤ m ∧ jv = .int .i64 (j : Int) ∧ Hid (RoV wr' g k (fun v => .int .i64 (cnL (opsT os k ++ ys.take j) v))) ∧ Hid (Chg (fun j => j = g) wm wr')) (fun jv _ => m - (intOf jv).toNat)
      case atStart => exact ⟨0, Nat.zero_le _, rfl, HR1, HC⟩
      case round =>
        obtain ⟨j, hj, rfl, HRj, HCj⟩ := hrel
        have HBA := hide ((unhide HPQ) _ HCj)
        by_cases hlj : j < m
        · have hlj' : (j : Int) < (m : Int) := by omega
          have hym := (unhide HN).2.1
          obtain ⟨zb, zo, rfl, hc⟩ := ((unhide HY).below (unhide HBA)).at (by omega)
          have sk := hc j hlj
          obtain ⟨v, hv⟩ : ∃ v : Nat, ys.getD j 0 = (v : Int) ∧ v < k := by
            have h1 := (unhide HK).out (ys.getD j 0) (by rw [List.getD_eq_getElem?_getD, List.getElem?_eq_getElem (by omega)]; exact List.getElem_mem (by omega))
            have h2 := (unhide HN).1
            exact ⟨(ys.getD j 0).toNat, by omega, by omega⟩
          obtain ⟨hv, hvn⟩ := hv
          have hnx := take_next (l := ys) (j := j) (by omega)
          rw [hv] at sk hnx
          have HNX := hide hnx
          have hvn' : (v : Int) < (k : Int) := by omega
          have q1 := (unhide HRj v hvn).1
          have q2 := (unhide HRj v hvn).2
          have hb := cnL_le (opsT os k ++ ys.take j) v
          have hbl := opsT_len os k
          have hb2 : (opsT os k ++ ys.take j).length ≤ 5000 := by
            simp only [List.length_append, List.length_take]
            omega
          obtain ⟨cv, hcv⟩ : ∃ cv, cnL (opsT os k ++ ys.take j) v = cv := ⟨_, rfl⟩
          rw [hcv] at hb
          simp only [hcv] at q1
          have hb3 : 0 ≤ cv ∧ cv ≤ 5000 := by omega
          have HRN := hide (show RoV (wr.setCell ⟨g, v, none⟩ (.int .i64 (cv + 1))) g k (fun u => .int .i64 (cnL (opsT os k ++ ys.take (j + 1)) u)) from ((unhide HRj).put v (.int .i64 (cv + 1)) hvn).congr (fun u hu => by
            rw [unhide HNX, ← List.append_assoc, cnL_app]
            by_cases e : u = v
            · rw [if_pos e, if_pos e, hcv]
            · rw [if_neg e, if_neg e]))
          have HCN := hide (show Chg (fun j => j = g) wm (wr.setCell ⟨g, v, none⟩ (.int .i64 (cv + 1))) from (unhide HCj).trans (Chg.of_set _ _ _ _ rfl))
          clear hc hv hnx hb hbl hb2 hcv hym
          go_wp2_with fail
          exact ⟨⟨j + 1, by omega, by (first | rfl | go_num), HRN, HCN⟩, by simp [intOf]; omega⟩
        · obtain rfl : j = m := by omega
          have hlj' : ¬ (j : Int) < (j : Int) := by omega
          have hym := (unhide HN).2.1
          have HRN := hide (show RoV wr g k (fun v => .int .i64 (cnL (opsT os k ++ ys) v)) from (unhide HRj).congr (fun v _ => by rw [List.take_of_length_le (by omega)]))
          clear hym
          go_wp2_with fail
          try go_ret
          exact ⟨g, rfl, by have h1 := (unhide HN).2.2.1; have h2 := unhide HG; omega, unhide HRN, (unhide HA).trans ((unhide HBA).mono (unhide HA).size)⟩
def TabPw (w : World) : Prop := Lib.TabIs Tryz.prog w "internal/strconv.uint64pow10" .u64 Lib.pow10Tab
theorem TabPw.below {w w' : World} (h : TabPw w) (hb : Below w.heap.size w w') : TabPw w' := by
  unfold TabPw Lib.TabIs World.var? at h ⊢
  cases hg : Tryz.prog.globalNamed "internal/strconv.uint64pow10" with
  | none => rw [hg] at h; cases h
  | some g =>
    rw [hg] at h
    simp only [Option.bind_some] at h ⊢
    have hlt : g < w.heap.size := by
      rcases Nat.lt_or_ge g w.heap.size with c | c
      · exact c
      · rw [Array.getElem?_eq_none c] at h; cases h
    rw [hb.block g hlt]
    exact h
def itS (n : Int) : ByteArray := ⟨(Lib.itoa n).toArray⟩
theorem itS_size (n : Int) (h0 : -9223372036854775808 ≤ n) (h1 : n ≤ 9223372036854775807) : (itS n).size ≤ 21 := by
  have := Lib.itoa_length_le n h0 h1
  simpa [itS, ByteArray.size] using this
theorem titoa_any (n : Int) (h0 : -9223372036854775808 ≤ n) (h1 : n ≤ 9223372036854775807) (w : World) (hP : TabPw w) :
    Calls Tryz.prog 53 #[.int .i64 n] w fun e w' => e = .returned (.string (itS n)) ∧ Below w.heap.size w w' := by
  refine (Go.Proofs.Tryz.strconv_Itoa n h0 h1 w hP).mono ?_
  rintro e w' ⟨rfl, k, os, rfl⟩
  exact ⟨rfl, Go.Lib.below_grow _ w (Nat.le_refl _) k os⟩
def spB : ByteArray := { data := #[32] }
def nlB : ByteArray := { data := #[10] }
def wdT (word : ByteArray) (l : List Int) : ByteArray := l.foldl (fun acc n => acc ++ (spB ++ itS n)) word
def lnT (word : ByteArray) (l : List Int) : ByteArray := wdT word l ++ nlB
theorem wdT_app (word : ByteArray) (l : List Int) (x : Int) : wdT word (l ++ [x]) = wdT word l ++ (spB ++ itS x) := by
  unfold wdT
  rw [List.foldl_append]
  rfl
theorem wdT_size (word : ByteArray) : ∀ (l : List Int), (∀ x ∈ l, -9223372036854775808 ≤ x ∧ x ≤ 9223372036854775807) → (wdT word l).size ≤ word.size + 22 * l.length := by
  intro l
  induction l generalizing word with
  | nil => intro _; simp [wdT]
  | cons y l ih =>
    intro h
    have h1 := ih (word ++ (spB ++ itS y)) (fun x hx => h x (List.mem_cons_of_mem _ hx))
    have h2 := itS_size y (h y (by simp)).1 (h y (by simp)).2
    have h3 : spB.size = 1 := rfl
    show (wdT (word ++ (spB ++ itS y)) l).size ≤ _
    rw [ByteArray.size_append, ByteArray.size_append] at h1
    simp only [List.length_cons]
    omega
set_option maxRecDepth 100000 in
set_option maxHeartbeats 16000000 in
theorem tline_any (word : ByteArray) (hw : word.size ≤ 100) (z : Option Addr) (m c : Nat) (l : List Int) (w : World) (hm : m ≤ 2) (h : SlI w z m c l) (hr : ∀ x ∈ l, -9223372036854775808 ≤ x ∧ x ≤ 9223372036854775807) (hP : TabPw w) :
    Calls Tryz.prog 72 #[.string word, .slice z m c] w fun e w' => e = .returned (.string (lnT word l)) ∧ Below w.heap.size w w' := by
  have HS := hide h
  have HR := hide hr
  have HP := hide hP
  have HL := hide h.len
  clear h hr hP
  go_enter Tryz.func72, Tryz.ntmps72
  go_wp2_with fail
  go_loopw [9, 0] (fun iv wv wr => ∃ j : Nat, j ≤ m ∧ iv = .int .i64 (j : Int) ∧ wv = .string (wdT word (l.take j)) ∧ Hid (Below w.heap.size w wr)) (fun iv _ _ => m - (intOf iv).toNat)
  case atStart => exact ⟨0, Nat.zero_le _, rfl, rfl, hide (Below.refl _ _)⟩
  case round =>
    obtain ⟨j, hj, rfl, rfl, HB⟩ := hrel
    have hl := unhide HL
    by_cases hlt : j < m
    · have hlt' : (j : Int) < (m : Int) := by omega
      obtain ⟨zb, zo, rfl, hc⟩ := ((unhide HS).below (unhide HB)).at (by omega)
      have sk := hc j hlt
      have hsz := wdT_size word (l.take j) (fun x hx => unhide HR x (List.mem_of_mem_take hx))
      have hnx := wdT_app word (l.take j) (l.getD j 0)
      rw [← take_next (l := l) (j := j) (by omega)] at hnx
      have hx := unhide HR (l.getD j 0) (by rw [List.getD_eq_getElem?_getD, List.getElem?_eq_getElem (by omega)]; exact List.getElem_mem (by omega))
      obtain ⟨x, hxx⟩ : ∃ x, l.getD j 0 = x := ⟨_, rfl⟩
      rw [hxx] at sk hnx hx
      have HK := hide (fun (W : World) (hb : Below wr.heap.size wr W) => titoa_any x hx.1 hx.2 W ((unhide HP).below ((unhide HB).trans (hb.mono (unhide HB).size))))
      have hi := itS_size x hx.1 hx.2
      obtain ⟨IT, hIT⟩ : ∃ IT, itS x = IT := ⟨_, rfl⟩
      obtain ⟨WD, hWD⟩ : ∃ WD, wdT word (l.take j) = WD := ⟨_, rfl⟩
      simp only [hIT] at HK hi hnx
      rw [hWD] at hnx hsz ⊢
      have hs2 : WD.size ≤ 200 := by
        have : (l.take j).length ≤ 2 := by simp; omega
        omega
      have HNX := hide hnx
      clear hc hx hxx hIT hWD hnx hsz hl
      go_wp2_with fail
      refine (unhide HK _ (Below.refl _ _)).mono ?_
      rintro _ w1 ⟨rfl, b1⟩
      have HB1 := hide ((unhide HB).trans (b1.mono (unhide HB).size))
      clear b1 HK
      go_wp2_with fail
      exact ⟨⟨j + 1, by omega, by (first | rfl | go_num), by rw [unhide HNX]; rfl, HB1⟩, by simp [intOf]; omega⟩
    · obtain rfl : j = m := by omega
      have hlt' : ¬ (j : Int) < (j : Int) := by omega
      have hsz := wdT_size word l (unhide HR)
      rw [List.take_of_length_le (by omega)]
      obtain ⟨WD, hWD⟩ : ∃ WD, wdT word l = WD := ⟨_, rfl⟩
      rw [hWD] at hsz ⊢
      have HR2 := hide (show lnT word l = WD ++ nlB from by unfold lnT; rw [hWD])
      have hs2 : WD.size ≤ 200 := by omega
      clear hWD hsz hl
      go_wp2_with fail
      go_ret
      exact ⟨by rw [unhide HR2]; rfl, unhide HB⟩
def opTx (PT : ByteArray) (o : On) (k : Nat) : ByteArray :=
  if shC k then ((strB (shW k) ++ spB) ++ PT) ++ nlB else if shB k then lnT (strB (shW k)) [o.a, o.b] else if shN k then lnT (strB (shW k)) [o.a, o.n] else lnT (strB (shW k)) [o.a]
structure OpRg (o : On) : Prop where
  a : -4000000 ≤ o.a ∧ o.a ≤ 4000000
  b : -4000000 ≤ o.b ∧ o.b ≤ 4000000
  n : -4000000 ≤ o.n ∧ o.n ≤ 4000000
def PrOf (w : World) (p : Nq) (PT : ByteArray) : Prop := ∀ W, Below w.heap.size w W → ∃ er, Calls Tryz.prog 84 #[.agg #[.bool p.g, .slice p.a p.n p.c, .slice p.b p.m p.d]] W fun e w' => e = .returned (.tuple #[.string PT, .int .i64 er]) ∧ Below W.heap.size W w'
theorem PrOf.below {w w' : World} {p : Nq} {PT : ByteArray} (h : PrOf w p PT) (k : Below w.heap.size w w') : PrOf w' p PT := fun W hb => h W (k.trans (hb.mono k.size))
theorem shW_size (k : Nat) : (strB (shW k)).size ≤ 5 := by
  unfold shW
  split <;> decide
set_option maxRecDepth 100000 in
set_option maxHeartbeats 16000000 in
theorem topline_any (o : On) (k : Nat) (hk : KKo o k) (hg : OpRg o) (PT : ByteArray) (w : World) (hPT : o.k = 2 → PrOf w o.p PT) (hsz : PT.size ≤ 1000000) (hS : TabSh w) (hP : TabPw w) :
    Calls Tryz.prog 73 #[opV o] w fun e w' => e = .returned (.string (opTx PT o k)) ∧ Below w.heap.size w w' := by
  obtain ⟨wo, hwo⟩ : ∃ x, w.alloc (.cells #[.int .i64 o.k, .int .i64 o.a, .int .i64 o.b, .int .i64 o.n, .bool o.p.g, .slice o.p.a o.p.n o.p.c, .slice o.p.b o.p.m o.p.d] 55) = x := ⟨_, rfl⟩
  have br : BoxP wo w.heap.size [.int .i64 o.k, .int .i64 o.a, .int .i64 o.b, .int .i64 o.n, .bool o.p.g, .slice o.p.a o.p.n o.p.c, .slice o.p.b o.p.m o.p.d] := by rw [← hwo]; exact BoxP.made _ _ _
  have hbo : Below w.heap.size w wo := by rw [← hwo]; exact (Below.refl _ _).alloc (Nat.le_refl _) _
  have y0 := (br.all 0 _ rfl).1
  have y1 := (br.all 1 _ rfl).1
  have y2 := (br.all 2 _ rfl).1
  have y3 := (br.all 3 _ rfl).1
  have y4 := (br.all 4 _ rfl).1
  have y5 := (br.all 5 _ rfl).1
  have y6 := (br.all 6 _ rfl).1
  have HKs := hide (fun (W : World) (hb : Below wo.heap.size wo W) => (by
    have K := tshape_any k hk.2.1 hk.2.2 W ((hS.below hbo).below hb)
    rw [← hk.1] at K
    exact K : Calls Tryz.prog 60 #[.int .i64 o.k] W fun e w' => e = .returned (.agg (shV k).toArray) ∧ Below W.heap.size W w'))
  have HB := hide hbo
  have HP := hide (hP.below hbo)
  have HPT := hide (fun h => (hPT h).below hbo)
  have HKK := hide hk
  have HG := hide hg
  have HZ := hide hsz
  clear br hbo hk hPT hS hP hg hsz
  unfold opV
  go_enter Tryz.func73, Tryz.ntmps73
  go_wp2_with fail
  refine (unhide HKs _ (Below.refl _ _)).mono ?_
  rintro _ w1 ⟨rfl, b1⟩
  have HB1 := hide ((unhide HB).trans (b1.mono (unhide HB).size))
  have HP1 := hide ((unhide HP).below b1)
  have HPT1 := hide (fun h => (unhide HPT h).below b1)
  have q0 := (b1.cell (World.block_lt_of_cell? _ _ y0)).trans y0
  have q1 := (b1.cell (World.block_lt_of_cell? _ _ y1)).trans y1
  have q2 := (b1.cell (World.block_lt_of_cell? _ _ y2)).trans y2
  have q3 := (b1.cell (World.block_lt_of_cell? _ _ y3)).trans y3
  have q4 := (b1.cell (World.block_lt_of_cell? _ _ y4)).trans y4
  have q5 := (b1.cell (World.block_lt_of_cell? _ _ y5)).trans y5
  have q6 := (b1.cell (World.block_lt_of_cell? _ _ y6)).trans y6
  clear b1 y0 y1 y2 y3 y4 y5 y6 HB HP HPT HKs hwo
  have hws := shW_size k
  have HR := hide (show opTx PT o k = if shC k then ((strB (shW k) ++ spB) ++ PT) ++ nlB else if shB k then lnT (strB (shW k)) [o.a, o.b] else if shN k then lnT (strB (shW k)) [o.a, o.n] else lnT (strB (shW k)) [o.a] from rfl)
  have HCk := hide (show shC k = true → o.k = 2 from fun h => by have := (unhide HKK).1; unfold shC at h; simp at h; omega)
  unfold shV
  generalize strB (shW k) = WW at *
  generalize shA k = A at *
  generalize shB k = B at *
  generalize shN k = N at *
  generalize shC k = C at *
  have b2 : Below w1.heap.size w1 (w1.alloc (.cells #[.string WW, .bool A, .bool B, .bool N, .bool C] 125)) := (Below.refl _ _).alloc (Nat.le_refl _) _
  have HB2 := hide b2
  have HP2 := hide ((unhide HP1).below b2)
  have HPT2 := hide (fun h => (unhide HPT1 h).below b2)
  have q0 := (b2.cell (World.block_lt_of_cell? _ _ q0)).trans q0
  have q1 := (b2.cell (World.block_lt_of_cell? _ _ q1)).trans q1
  have q2 := (b2.cell (World.block_lt_of_cell? _ _ q2)).trans q2
  have q3 := (b2.cell (World.block_lt_of_cell? _ _ q3)).trans q3
  have q4 := (b2.cell (World.block_lt_of_cell? _ _ q4)).trans q4
  have q5 := (b2.cell (World.block_lt_of_cell? _ _ q5)).trans q5
  have q6 := (b2.cell (World.block_lt_of_cell? _ _ q6)).trans q6
  clear b2
  cases C
  · cases B
    · cases N
      · have b3 : Below w1.heap.size w1 ((w1.alloc (.cells #[.string WW, .bool A, .bool false, .bool false, .bool false] 125)).alloc (.cells #[.int .i64 o.a] 3)) := ((Below.refl _ _).alloc (Nat.le_refl _) _).alloc (by simp) _
        have hsl := sli_made (w1.alloc (.cells #[.string WW, .bool A, .bool false, .bool false, .bool false] 125)) [o.a] 3 (by simp)
        rw [World.size_alloc] at hsl
        have HK := hide (tline_any WW (by omega) _ _ _ [o.a] _ (by simp) hsl (fun x hx => by have hg := unhide HG; have := hg.a; have := hg.b; have := hg.n; simp at hx; omega) ((unhide HP1).below b3))
        have HB3 := hide ((unhide HB1).trans (b3.mono (unhide HB1).size))
        clear b3 hsl HPT1 HPT2 HB2 HP1 HP2 HB1
        go_wp2_with fail
        refine (unhide HK).mono ?_
        rintro _ w3 ⟨rfl, b4⟩
        have HB4 := hide ((unhide HB3).trans (b4.mono (unhide HB3).size))
        clear b4 HK HB3 q0 q1 q2 q3 q4 q5 q6
        go_wp2_with fail
        try go_ret
        exact ⟨by rw [unhide HR]; rfl, unhide HB4⟩
      · have b3 : Below w1.heap.size w1 ((w1.alloc (.cells #[.string WW, .bool A, .bool false, .bool true, .bool false] 125)).alloc (.cells #[.int .i64 o.a, .int .i64 o.n] 3)) := ((Below.refl _ _).alloc (Nat.le_refl _) _).alloc (by simp) _
        have hsl := sli_made (w1.alloc (.cells #[.string WW, .bool A, .bool false, .bool true, .bool false] 125)) [o.a, o.n] 3 (by simp)
        rw [World.size_alloc] at hsl
        have HK := hide (tline_any WW (by omega) _ _ _ [o.a, o.n] _ (by simp) hsl (fun x hx => by have hg := unhide HG; have := hg.a; have := hg.b; have := hg.n; simp at hx; omega) ((unhide HP1).below b3))
        have HB3 := hide ((unhide HB1).trans (b3.mono (unhide HB1).size))
        clear b3 hsl HPT1 HPT2 HB2 HP1 HP2 HB1
        go_wp2_with fail
        refine (unhide HK).mono ?_
        rintro _ w3 ⟨rfl, b4⟩
        have HB4 := hide ((unhide HB3).trans (b4.mono (unhide HB3).size))
        clear b4 HK HB3 q0 q1 q2 q3 q4 q5 q6
        go_wp2_with fail
        try go_ret
        exact ⟨by rw [unhide HR]; rfl, unhide HB4⟩
    · have b3 : Below w1.heap.size w1 ((w1.alloc (.cells #[.string WW, .bool A, .bool true, .bool N, .bool false] 125)).alloc (.cells #[.int .i64 o.a, .int .i64 o.b] 3)) := ((Below.refl _ _).alloc (Nat.le_refl _) _).alloc (by simp) _
      have hsl := sli_made (w1.alloc (.cells #[.string WW, .bool A, .bool true, .bool N, .bool false] 125)) [o.a, o.b] 3 (by simp)
      rw [World.size_alloc] at hsl
      have HK := hide (tline_any WW (by omega) _ _ _ [o.a, o.b] _ (by simp) hsl (fun x hx => by have hg := unhide HG; have := hg.a; have := hg.b; have := hg.n; simp at hx; omega) ((unhide HP1).below b3))
      have HB3 := hide ((unhide HB1).trans (b3.mono (unhide HB1).size))
      clear b3 hsl HPT1 HPT2 HB2 HP1 HP2 HB1
      go_wp2_with fail
      refine (unhide HK).mono ?_
      rintro _ w3 ⟨rfl, b4⟩
      have HB4 := hide ((unhide HB3).trans (b4.mono (unhide HB3).size))
      clear b4 HK HB3 q0 q1 q2 q3 q4 q5 q6
      go_wp2_with fail
      try go_ret
      exact ⟨by rw [unhide HR]; rfl, unhide HB4⟩
  · have t0 : (w1.alloc (.cells #[.string WW, .bool A, .bool B, .bool N, .bool true] 125)).cell? ⟨w1.heap.size, 0, none⟩ = some (.string WW) := by simp
    obtain ⟨er, K⟩ := unhide HPT2 (unhide HCk rfl) _ (Below.refl _ _)
    have HK := hide K
    have HB3 := hide ((unhide HB1).trans ((unhide HB2).mono (unhide HB1).size))
    have hpz := unhide HZ
    clear K HPT1 HPT2 HB1 HP1 HP2
    go_wp2_with fail
    refine (unhide HK).mono ?_
    rintro _ w3 ⟨rfl, b4⟩
    have t0 := (b4.cell (World.block_lt_of_cell? _ _ t0)).trans t0
    have HB4 := hide ((unhide HB3).trans (b4.mono (unhide HB3).size))
    clear b4 HK HB3 HB2 q0 q1 q2 q3 q4 q5 q6
    go_wp2_with fail
    try go_ret
    exact ⟨by rw [unhide HR]; rfl, unhide HB4⟩
end Go.Proofs.YtpicknbdfjjflaaGreatDoor
