/- Uc5 -/
import Derived.Test.YtbbicappjicblaaGreatDoorUb7
import Derived.Test.YtbbicappjicblaaGreatDoorUc2
import Derived.Test.YtbbicappjicblaaGreatDoorUb3
import Derived.Test.YtbbicappjicblaaGreatDoorTa0
namespace Go.Proofs.YtbbicappjicblaaGreatDoor
open Go.RowKit Go.Deep
set_option linter.unusedVariables false
theorem Tryz.info_boolL : (Tryz.prog.info? 4).map (fun i => (i.zero, i.size, i.bytes)) = some (some (.bool false), 1, 1) := by kernel_rfl
structure GwB (w1 W : World) (v : Value) (S : List Bool) : Prop where
 own : W.ownsRow w1.heap.size 4 1 v S.length (S.map Value.bool)
 bel : Below w1.heap.size w1 W
theorem GwB.app {w1 W W3 : World} {v : Value} {S : List Bool} {x : Bool} {g cap : Nat} (h : GwB w1 W v S) (o : Obj) (hown : W3.ownsRow w1.heap.size 4 1 (.slice (some ⟨g, 0, none⟩) (S.length + 1) cap) (S.length + 1) (S.map Value.bool ++ [.bool x])) (hg : (W.alloc o).grownBy W3 v.ownBlock) : GwB w1 W3 (.slice (some ⟨g, 0, none⟩) (S.length + 1) cap) (S ++ [x]) :=
 ⟨by simpa using hown, h.bel.trans (Below.grown ((Below.refl _ W).alloc h.bel.size o) hg (by simp; have := h.bel.size; omega) (fun j hj => (own_ge h.own j hj).1))⟩
theorem GwB.chg {w1 W W' : World} {v : Value} {S : List Bool} (h : GwB w1 W v S) (k : Below W.heap.size W W') : GwB w1 W' v S :=
 ⟨ownsRow_chg (S := fun _ => False) h.own (Chg.of_below k) (fun _ _ x => x), h.bel.trans (k.mono h.bel.size)⟩
theorem GwB.rov {w1 W : World} {v : Value} {S : List Bool} (h : GwB w1 W v S) (h0 : S ≠ []) : ∃ g c, v = .slice (some ⟨g, 0, none⟩) S.length c ∧ w1.heap.size ≤ g ∧ RoV W g S.length (fun i => .bool (S.getD i false)) := by
 rcases h.own.2 with ⟨rfl, e⟩ | ⟨b, cap, cur, rfl, h4, h5, h6, h7, h8, h9⟩
 ·exact absurd (List.length_eq_zero_iff.1 (by simpa using e)) h0
 ·refine ⟨b, cap, rfl, h4, fun i hi => ⟨?_, by simp [World.frozen?, h5]⟩⟩
  rw [cell_of_block h5]
  have : (cur.toList.take (S.length * 1))[i]? = (S.map Value.bool)[i]? := by rw [h9]
  rw [List.getElem?_take_of_lt (by omega)] at this
  rw [← Array.getElem?_toList, this]
  simp [List.getD, hi]
def LiA (w : World) (m : Nat) (f : Nat → Bool) (e : Ending) (w' : World) : Prop := ∃ g zc, e = .returned (.tuple #[.slice (some ⟨g, 0, none⟩) m zc, .int .i64 0, .int .i64 0]) ∧ RoV w' g m (fun i => .bool (f i)) ∧ Below w.heap.size w w'
set_option maxRecDepth 100000 in
set_option maxHeartbeats 32000000 in
theorem wLinear_yes (I : Nat) (a : Option Addr) (n c : Nat) (os : List On) (b : Option Addr) (m d : Nat) (ys : List Int) (w : World) (hs : SlO w a n c os) (hy : SlI w b m d ys) (hT : Tab64 w) (he : (chF (I : Int) os ys).2 = 0) :
  Calls Tryz.prog 16 #[tapV (I : Int) a n c b m d] w (LiA w m (fun i => !btF I os n (ys.getD i 0).toNat)) := by
 have hk := TpOk.of he
 have hn := hs.len
 have hm := hy.len
 have hm2 : m ≤ 64 := by have := hk.ly; omega
 have hm1 : 0 < m := by have := hk.ly; omega
 have hmd := hy.le
 have hd2 := hy.cap
 unfold maxLen at hd2
 have hn2 : n ≤ 2048 := by have := hk.lo; omega
 have hI : I ≤ 64 := by have := hk.li; omega
 obtain ⟨wa, hwa⟩ : ∃ x, w.alloc (.cells #[.int .i64 (I : Int), .slice a n c, .slice b m d] 25) = x := ⟨_, rfl⟩
 have bx : BoxP wa w.heap.size [.int .i64 (I : Int), .slice a n c, .slice b m d] := by rw [← hwa]; exact BoxP.made _ _ _
 have hba : Below w.heap.size w wa := by rw [← hwa]; exact (Below.refl _ _).alloc (Nat.le_refl _) _
 have g0 := (bx.all 0 _ rfl).1
 have g1 := (bx.all 1 _ rfl).1
 have g2 := (bx.all 2 _ rfl).1
 have K0 := wcheck_any (I : Int) a n c os b m d ys wa (hs.below hba) (hy.below hba) (hT.below hba)
 rw [TpOk.ch he] at K0
 have HC := hide K0
 have HH := hide (fun (W : World) (hb : Below wa.heap.size wa W) => whangs_any (I : Int) a n c os b m d ys W ((hs.below hba).below hb) hk)
 have HB := hide hba
 have HS := hide (hs.below hba)
 have HY := hide (hy.below hba)
 have HK := hide hk
 have HN := hide hn
 have HM := hide hm
 unfold tapV at HC HH ⊢
 clear bx hba K0 hs hy hT he hk hn hm
 go_enter Tryz.func16, Tryz.ntmps16
 go_wp2_with fail
 refine (unhide HC).mono ?_
 rintro _ w1 ⟨rfl, b1⟩
 have g0 := (b1.cell (World.block_lt_of_cell? _ _ g0)).trans g0
 have g1 := (b1.cell (World.block_lt_of_cell? _ _ g1)).trans g1
 have g2 := (b1.cell (World.block_lt_of_cell? _ _ g2)).trans g2
 have HB1 := hide b1
 clear b1 HC hwa
 go_wp2_with fail
 refine (unhide HH w1 (unhide HB1)).mono ?_
 rintro _ w2 ⟨h, hc, rfl, hT, b2⟩
 have g0 := (b2.cell (World.block_lt_of_cell? _ _ g0)).trans g0
 have g1 := (b2.cell (World.block_lt_of_cell? _ _ g1)).trans g1
 have g2 := (b2.cell (World.block_lt_of_cell? _ _ g2)).trans g2
 have HB2 := hide ((unhide HB1).trans (b2.mono (unhide HB1).size))
 have HT := hide hT
 rw [Int.toNat_natCast] at HT ⊢
 clear b2 hT HH HB1
 go_wp2_with fail
 obtain ⟨i1, hi, hz, hsi, hb⟩ := info_parts Tryz.info_boolL
 have HI := hide (And.intro hi (And.intro hz (And.intro hsi hb)))
 have hone : ∀ y : Bool, ∀ z ∈ [Value.bool y], z.oneCell' = true := by intro y z hz; simp at hz; subst hz; rfl
 clear hi hz hsi hb
 go_loopw [9, 8] (fun iv lv wr => ∃ i : Nat, i ≤ m ∧ iv = .int .i64 (i : Int) ∧ Hid (GwB w2 wr lv ((ys.take i).map (fun y => !btF I os n y.toNat)))) (fun iv _ _ => m - (intOf iv).toNat)
 case atStart => exact ⟨0, Nat.zero_le _, rfl, hide ⟨World.ownsRow_nil _ _ _ _, Below.refl _ _⟩⟩
 case round =>
  obtain ⟨i, hi, rfl, HG⟩ := hrel
  have r0 := ((unhide HG).bel.cell (World.block_lt_of_cell? _ _ g0)).trans g0
  have r1 := ((unhide HG).bel.cell (World.block_lt_of_cell? _ _ g1)).trans g1
  have r2 := ((unhide HG).bel.cell (World.block_lt_of_cell? _ _ g2)).trans g2
  by_cases hlt : i < m
  ·have hlt' : (i : Int) < (m : Int) := by omega
   have hym : ys.getD i 0 ∈ ys := by
    have hl : i < ys.length := by have := unhide HM; omega
    rw [List.getD_eq_getElem?_getD, List.getElem?_eq_getElem hl]
    exact List.getElem_mem hl
   have hyr := (unhide HK).out _ hym
   obtain ⟨y, hyy⟩ : ∃ y : Nat, ys.getD i 0 = (y : Int) := ⟨(ys.getD i 0).toNat, by omega⟩
   rw [hyy] at hyr
   have HKO := hide ((unhide HK).one hym)
   rw [hyy] at HKO
   have hbw : Below wa.heap.size wa wr := (unhide HB2).trans ((unhide HG).bel.mono (unhide HB2).size)
   have hsub := ((unhide HY).below hbw).sub (X := i) (Y := i + 1) (by omega) (by omega)
   obtain ⟨B, off, rfl, hcY⟩ := ((unhide HY).below hbw).at hm1
   rw [if_neg (by omega), show i + 1 - i = 1 by omega, show ((ys.drop i).take 1) = [(y : Int)] from by
    have hl : i < ys.length := by have := unhide HM; omega
    rw [List.drop_eq_getElem_cons hl, ← hyy, List.getD_eq_getElem?_getD, List.getElem?_eq_getElem hl]; rfl] at hsub
   rw [show Option.map (fun x : Addr => x.add i) (some ⟨B, off, none⟩) = some ⟨B, off + i, none⟩ from by simp [Addr.add]] at hsub
   have HKL := hide (fun (W : World) (hb : Below wr.heap.size wr W) => wlive_any (I : Int) a n c os (some ⟨B, off + i, none⟩) 1 (d - i) [(y : Int)] W (((unhide HS).below hbw).below hb) (hsub.below hb) (unhide HKO))
   unfold tapV at HKL
   have hi0 : (0 : Int) ≤ (i : Int) := by omega
   have hi1 : (i : Int) ≤ (i : Int) + 1 := by omega
   have hi2 : (i : Int) + 1 ≤ (d : Int) := by omega
   have hiw : IntKind.i64.wrap ((i : Int) + 1) = (i : Int) + 1 := by exact wrapJ _ (by omega) (by omega)
   have HYY := hide hyy
   have hdi : ¬ d = i := by omega
   clear hcY hsub hyy
   go_wp2_with fail
   go_region_held3 (fun w' => w'.cell? ⟨w.heap.size, 0, none⟩ = some (.int .i64 (I : Int)) ∧ w'.cell? ⟨w.heap.size, 1, none⟩ = some (.slice a n c) ∧ w'.cell? ⟨w.heap.size, 2, none⟩ = some (.slice (some ⟨B, off, none⟩) m d)) (first | go_keep | exact ⟨z0, z1, z2⟩)
    ((go_at_call 38; refine (unhide HKL _ (Below.refl _ _).drew).mono ?_; rintro _ w3 ⟨g, rfl, hg, hrv, b3⟩; have z0 := (b3.cell (World.block_lt_of_cell? _ _ r0)).trans r0; have z1 := (b3.cell (World.block_lt_of_cell? _ _ r1)).trans r1; have z2 := (b3.cell (World.block_lt_of_cell? _ _ r2)).trans r2; have HR := hide hrv; have HB3 := hide b3; clear hrv b3))
   obtain ⟨on, hon⟩ : ∃ on, mkB (lvL os [(y : Int)] n) = on := ⟨_, rfl⟩
   obtain ⟨mv, hmv⟩ : ∃ mv, mvF I os n = mv := ⟨_, rfl⟩
   rw [hon] at HR
   have HON := hide (And.intro hon hmv)
   have hb23 := (unhide HG).bel.trans (((Below.refl _ _).drew.trans (unhide HB3)).mono (unhide HG).bel.size)
   have HB23 := hide hb23
   have HBW := hide ((unhide HB2).trans (hb23.mono (unhide HB2).size))
   have HFR := hide (fun (W : World) (hb : Below w2.heap.size w2 W) (v : Nat) (hv : v < n) => (by
    have K := wfree_any h I n hc v (hgF os n) W ((unhide HT).below hb) hv hI
    rw [show mvP I (hgF os n v) = mv v from by rw [← hmv]; rfl] at K
    exact K : Calls Tryz.prog 41 #[.slice h I hc, .int .i64 (v : Int)] W fun e w' => e = .returned (.bool (!mv v)) ∧ w' = W))
   have HGN := hide ((unhide HG).chg ((Below.refl _ _).drew.trans ((unhide HB3).mono (by simp))))
   clear hon hmv hb23 HKL HKO
   go_wp2_with fail
   go_loopw [12, 11] (fun vv yv wr' => ∃ k : Nat, k ≤ n ∧ vv = .int .i64 (k : Int) ∧ yv = .bool (!stF mv on os k) ∧ Hid (Below w3.heap.size w3 wr')) (fun vv _ _ => n - (intOf vv).toNat)
   case atStart => exact ⟨0, Nat.zero_le _, rfl, rfl, hide (Below.refl _ _)⟩
   case round =>
    obtain ⟨k, hkn, rfl, rfl, HV⟩ := hrel
    have s0 := ((unhide HV).cell (World.block_lt_of_cell? _ _ z0)).trans z0
    have s1 := ((unhide HV).cell (World.block_lt_of_cell? _ _ z1)).trans z1
    have s2 := ((unhide HV).cell (World.block_lt_of_cell? _ _ z2)).trans z2
    by_cases hkl : k < n
    ·have hkl' : (k : Int) < (n : Int) := by omega
     obtain ⟨b1, of1, o, rfl, ho, O, hok⟩ := ((unhide HS).below ((unhide HBW).trans ((unhide HV).mono (unhide HBW).size))).at' hkl
     obtain ⟨c0, c1, c2, c3, c4, c5, c6⟩ := O
     have hop := op_ok ((unhide HK).op k o ho)
     have HP := hide (fun (W : World) => (by
      have K := woperands_any o hop.1.1 hop.1.2 W
      unfold opV at K
      exact K : Calls Tryz.prog 39 #[.agg #[.int .i64 o.k, .int .i64 o.a, .int .i64 o.b, .int .i64 o.n, .bool o.p.g, .slice o.p.a o.p.n o.p.c, .slice o.p.b o.p.m o.p.d]] W (OpsA W (opsL o))))
     have HBN := hide (fun (u v : Nat) (W : World) => (by
      have K := wbends_any o hop.1.1 hop.1.2 u v W
      unfold opV at K
      exact K : Calls Tryz.prog 40 #[.agg #[.int .i64 o.k, .int .i64 o.a, .int .i64 o.b, .int .i64 o.n, .bool o.p.g, .slice o.p.a o.p.n o.p.c, .slice o.p.b o.p.m o.p.d], .int .i64 (u : Int), .int .i64 (v : Int)] W fun e w' => e = .returned (.bool (bnO o u v)) ∧ Below W.heap.size W w'))
     have HO := hide ho
     have HOP := hide hop.2.1
     have hmo : (opsL o).length ≤ 2 := opsL_len o
     clear hop hok ho
     go_wp2_with fail
     refine (unhide HP _).mono ?_
     rintro _ w4 ⟨z, m1, c1', rfl, hz, _, b4⟩
     have hml := hz.len
     have hm12 : m1 ≤ 2 := by omega
     have HZ := hide hz
     have HML := hide hml
     have HV4 := hide ((unhide HV).trans (b4.mono (unhide HV).size))
     have t0 := (b4.cell (World.block_lt_of_cell? _ _ s0)).trans s0
     have t1 := (b4.cell (World.block_lt_of_cell? _ _ s1)).trans s1
     have t2 := (b4.cell (World.block_lt_of_cell? _ _ s2)).trans s2
     have d0 := (b4.cell (World.block_lt_of_cell? _ _ c0)).trans c0
     have d1 := (b4.cell (World.block_lt_of_cell? _ _ c1)).trans c1
     have d2 := (b4.cell (World.block_lt_of_cell? _ _ c2)).trans c2
     have d3 := (b4.cell (World.block_lt_of_cell? _ _ c3)).trans c3
     have d4 := (b4.cell (World.block_lt_of_cell? _ _ c4)).trans c4
     have d5 := (b4.cell (World.block_lt_of_cell? _ _ c5)).trans c5
     have d6 := (b4.cell (World.block_lt_of_cell? _ _ c6)).trans c6
     have hnx := stF_next (mv := mv) (on := on) (unhide HO)
     have HNX := hide hnx
     obtain ⟨S0, hS0⟩ : ∃ S0, stF mv on os k = S0 := ⟨_, rfl⟩
     rw [hS0] at HNX ⊢
     have gk : w4.cell? ⟨g, k, none⟩ = some (.bool (on k)) := ((unhide HR).below (unhide HV4) k hkl).1
     clear hz b4 HP hml hnx hS0 c0 c1 c2 c3 c4 c5 c6 s0 s1 s2
     cases hok : on k
     ·rw [hok] at gk HNX
      rw [Bool.false_and, Bool.or_false] at HNX
      clear hok
      go_wp2_with fail
      go_loopw [14, 11] (fun pv yv w5 => pv = .int .i64 0 ∧ yv = .bool (!S0) ∧ w5 = w4) (fun pv _ _ => 0)
      case atStart => exact ⟨rfl, rfl, rfl⟩
      case round =>
       obtain ⟨rfl, rfl, hw5⟩ := hrel
       obtain rfl := hw5
       go_wp2_with fail
       exact ⟨⟨k + 1, by omega, by (first | rfl | go_num), by rw [unhide HNX], HV4⟩, by simp [intOf]; omega⟩
     ·rw [hok] at gk HNX
      rw [Bool.true_and, ← bp_jn] at HNX
      clear hok
      go_wp2_with fail
      go_loopw [14, 11] (fun pv yv w5 => ∃ p : Nat, p ≤ m1 ∧ pv = .int .i64 (p : Int) ∧ yv = .bool (!(S0 || bpO mv o p)) ∧ Hid (Below w4.heap.size w4 w5)) (fun pv _ _ => m1 - (intOf pv).toNat)
      case atStart => exact ⟨0, Nat.zero_le _, rfl, by simp [bpO], hide (Below.refl _ _)⟩
      case round =>
       obtain ⟨p, hp, rfl, rfl, HV5⟩ := hrel
       have gk := ((unhide HV5).cell (World.block_lt_of_cell? _ _ gk)).trans gk
       have t0 := ((unhide HV5).cell (World.block_lt_of_cell? _ _ t0)).trans t0
       have t1 := ((unhide HV5).cell (World.block_lt_of_cell? _ _ t1)).trans t1
       have t2 := ((unhide HV5).cell (World.block_lt_of_cell? _ _ t2)).trans t2
       have d0 := ((unhide HV5).cell (World.block_lt_of_cell? _ _ d0)).trans d0
       have d1 := ((unhide HV5).cell (World.block_lt_of_cell? _ _ d1)).trans d1
       have d2 := ((unhide HV5).cell (World.block_lt_of_cell? _ _ d2)).trans d2
       have d3 := ((unhide HV5).cell (World.block_lt_of_cell? _ _ d3)).trans d3
       have d4 := ((unhide HV5).cell (World.block_lt_of_cell? _ _ d4)).trans d4
       have d5 := ((unhide HV5).cell (World.block_lt_of_cell? _ _ d5)).trans d5
       have d6 := ((unhide HV5).cell (World.block_lt_of_cell? _ _ d6)).trans d6
       obtain ⟨wo, hwo⟩ : ∃ x, x = wr := ⟨_, rfl⟩
       subst hwo
       by_cases hpl : p < m1
       ·have hpl' : (p : Int) < (m1 : Int) := by omega
        go_wp2_with fail
        go_loopw [15, 11] (fun qv yv w6 => ∃ q : Nat, q ≤ m1 ∧ qv = .int .i64 (q : Int) ∧ yv = .bool (!(S0 || bpO mv o p || bqO mv o p q)) ∧ Hid (Below wo.heap.size wo w6)) (fun qv _ _ => m1 - (intOf qv).toNat)
        case atStart => exact ⟨0, Nat.zero_le _, rfl, by simp [bqO], hide (Below.refl _ _)⟩
        case round =>
         obtain ⟨q, hq, rfl, rfl, HV6⟩ := hrel
         have t0 := ((unhide HV6).cell (World.block_lt_of_cell? _ _ t0)).trans t0
         have t1 := ((unhide HV6).cell (World.block_lt_of_cell? _ _ t1)).trans t1
         have t2 := ((unhide HV6).cell (World.block_lt_of_cell? _ _ t2)).trans t2
         have d0 := ((unhide HV6).cell (World.block_lt_of_cell? _ _ d0)).trans d0
         have d1 := ((unhide HV6).cell (World.block_lt_of_cell? _ _ d1)).trans d1
         have d2 := ((unhide HV6).cell (World.block_lt_of_cell? _ _ d2)).trans d2
         have d3 := ((unhide HV6).cell (World.block_lt_of_cell? _ _ d3)).trans d3
         have d4 := ((unhide HV6).cell (World.block_lt_of_cell? _ _ d4)).trans d4
         have d5 := ((unhide HV6).cell (World.block_lt_of_cell? _ _ d5)).trans d5
         have d6 := ((unhide HV6).cell (World.block_lt_of_cell? _ _ d6)).trans d6
         by_cases hql : q < m1
         ·have hql' : (q : Int) < (m1 : Int) := by omega
          have hb4r := (unhide HV5).trans ((unhide HV6).mono (unhide HV5).size)
          have hb2r := (unhide HB23).trans (((unhide HV4).trans (hb4r.mono (unhide HV4).size)).mono (unhide HB23).size)
          have hPm : (opsL o).getD p 0 ∈ opsL o := by
           have hl : p < (opsL o).length := by have := unhide HML; omega
           rw [List.getD_eq_getElem?_getD, List.getElem?_eq_getElem hl]; exact List.getElem_mem hl
          have hQm : (opsL o).getD q 0 ∈ opsL o := by
           have hl : q < (opsL o).length := by have := unhide HML; omega
           rw [List.getD_eq_getElem?_getD, List.getElem?_eq_getElem hl]; exact List.getElem_mem hl
          have hPr := unhide HOP _ hPm
          have hQr := unhide HOP _ hQm
          obtain ⟨u, hu⟩ : ∃ u : Nat, (opsL o).getD p 0 = (u : Int) := ⟨((opsL o).getD p 0).toNat, by omega⟩
          obtain ⟨v, hv⟩ : ∃ v : Nat, (opsL o).getD q 0 = (v : Int) := ⟨((opsL o).getD q 0).toNat, by omega⟩
          obtain ⟨zb, zo, rfl, hzc⟩ := ((unhide HZ).below hb4r).at (by omega)
          have zp := hzc p hpl
          have zq := hzc q hql
          rw [hu] at zp hPr
          rw [hv] at zq hQr
          have HNQ := hide (show bqO mv o p (q + 1) = (bqO mv o p q || (bnO o p q && mv u && mv v)) from by rw [bqO_next, hu, hv]; rfl)
          have HUV := hide (show u < n ∧ v < n from by omega)
          have HB2R := hide hb2r
          clear hzc hu hv hPm hQm hPr hQr hb2r hb4r
          go_wp2_with fail
          refine (unhide HBN p q _).mono ?_
          rintro _ w7 ⟨rfl, b7⟩
          have zp := (b7.cell (World.block_lt_of_cell? _ _ zp)).trans zp
          have zq := (b7.cell (World.block_lt_of_cell? _ _ zq)).trans zq
          have HV7 := hide ((unhide HV6).trans (b7.mono (unhide HV6).size))
          have HB27 := hide ((unhide HB2R).trans (b7.mono (unhide HB2R).size))
          clear b7
          obtain ⟨X0, hX0⟩ : ∃ X0, (S0 || bpO mv o p || bqO mv o p q) = X0 := ⟨_, rfl⟩
          have HE := hide (show ∀ r, (bnO o p q && mv u && mv v) = r → (S0 || bpO mv o p || bqO mv o p (q + 1)) = (X0 || r) from fun r hr => by rw [unhide HNQ, hr, ← hX0]; simp only [Bool.or_assoc])
          rw [hX0]
          clear hX0
          cases hbn : bnO o p q
          ·have HE2 := hide (unhide HE false (by rw [hbn]; rfl))
           clear hbn HE HNQ
           go_wp2_with fail
           exact ⟨⟨q + 1, by omega, by (first | rfl | go_num), by rw [unhide HE2, Bool.or_false], HV7⟩, by simp [intOf]; omega⟩
          ·have HFP := hide (unhide HFR w7 (unhide HB27) u (unhide HUV).1)
           cases hmu : mv u
           ·have HE2 := hide (unhide HE false (by rw [hbn, hmu]; rfl))
            rw [hmu] at HFP
            clear hbn hmu HE HNQ
            go_wp2_with fail
            refine (unhide HFP).mono ?_
            rintro _ w8 ⟨rfl, hw8⟩
            obtain rfl := hw8
            go_wp2_with fail
            exact ⟨⟨q + 1, by omega, by (first | rfl | go_num), by rw [unhide HE2, Bool.or_false], HV7⟩, by simp [intOf]; omega⟩
           ·have HFQ := hide (unhide HFR w7 (unhide HB27) v (unhide HUV).2)
            rw [hmu] at HFP
            cases hmv : mv v
            ·have HE2 := hide (unhide HE false (by rw [hbn, hmu, hmv]; rfl))
             rw [hmv] at HFQ
             clear hbn hmu hmv HE HNQ
             go_wp2_with fail
             refine (unhide HFP).mono ?_
             rintro _ w8 ⟨rfl, hw8⟩
             obtain rfl := hw8
             go_wp2_with fail
             refine (unhide HFQ).mono ?_
             rintro _ w9 ⟨rfl, hw9⟩
             obtain rfl := hw9
             go_wp2_with fail
             exact ⟨⟨q + 1, by omega, by (first | rfl | go_num), by rw [unhide HE2, Bool.or_false], HV7⟩, by simp [intOf]; omega⟩
            ·have HE2 := hide (unhide HE true (by rw [hbn, hmu, hmv]; rfl))
             rw [hmv] at HFQ
             clear hbn hmu hmv HE HNQ
             go_wp2_with fail
             refine (unhide HFP).mono ?_
             rintro _ w8 ⟨rfl, hw8⟩
             obtain rfl := hw8
             go_wp2_with fail
             refine (unhide HFQ).mono ?_
             rintro _ w9 ⟨rfl, hw9⟩
             obtain rfl := hw9
             go_wp2_with fail
             exact ⟨⟨q + 1, by omega, by (first | rfl | go_num), by rw [unhide HE2, Bool.or_true]; try rfl, HV7⟩, by simp [intOf]; omega⟩
         ·obtain rfl : q = m1 := by omega
          have hql' : ¬ (q : Int) < (q : Int) := by omega
          have HEQ := hide (show bpO mv o (p + 1) = (bpO mv o p || bqO mv o p q) from by rw [bpO_next, unhide HML])
          go_wp2_with fail
          exact ⟨⟨p + 1, by omega, by (first | rfl | go_num), by rw [unhide HEQ, Bool.or_assoc], hide ((unhide HV5).trans ((unhide HV6).mono (unhide HV5).size))⟩, by simp [intOf]; omega⟩
       ·obtain rfl : p = m1 := by omega
        have hpl' : ¬ (p : Int) < (p : Int) := by omega
        go_wp2_with fail
        exact ⟨⟨k + 1, by omega, by (first | rfl | go_num), by rw [unhide HNX, unhide HML], hide ((unhide HV4).trans ((unhide HV5).mono (unhide HV4).size))⟩, by simp [intOf]; omega⟩
    ·obtain rfl : k = n := by omega
     have hkl' : ¬ (k : Int) < (k : Int) := by omega
     have HST := hide (show stF mv on os k = btF I os k y from by
      rw [← (unhide HON).1, ← (unhide HON).2, ← unhide HN]
      exact stF_bt (unhide HK) (by omega))
     have HGV := hide ((unhide HGN).chg (unhide HV))
     have HTK := hide (show (ys.take (i + 1)).map (fun y => !btF I os k y.toNat) = (ys.take i).map (fun y => !btF I os k y.toNat) ++ [!btF I os k y] from by
      rw [take_next (by have := unhide HM; omega), unhide HYY]; simp)
     obtain ⟨S, hS⟩ : ∃ S, (ys.take i).map (fun y => !btF I os k y.toNat) = S := ⟨_, rfl⟩
     have hSl : S.length = i := by rw [← hS]; have := unhide HM; simp; omega
     rw [hS] at HGV HTK
     rw [unhide HST]
     obtain ⟨X, hX⟩ : ∃ X, (!btF I os k y) = X := ⟨_, rfl⟩
     rw [hX] at HTK ⊢
     have hmx : S.length + 1 ≤ maxLen := by unfold maxLen; omega
     have hby : (S.length + 1) * 1 ≤ 140737488355328 := by omega
     have hle := (unhide HGV).bel.size
     clear hS hX
     go_wp2_with (at_builtin; refine wpList_append_lies _ rfl _ _ 55 rfl w2.heap.size 4 i1 (.bool false) 1 1 Tryz.underlying55 (unhide HI).1 (unhide HI).2.1 (unhide HI).2.2.1 (unhide HI).2.2.2 rfl (by decide) _ S.length (S.map Value.bool) rfl ((unhide HGV).own.alloc _) ⟨wr.heap.size, 0, none⟩ 1 1 [.bool X] rfl rfl (World.news_of_block (alloc_block _ _)) (hone _) (by decide) hmx hby (by simp; omega) (wr.heap.size + 1) (by simp) ?_)
     intro g4 cap4 w4 hown hg4 hat hlt4
     have HN4 := hide (GwB.app (unhide HGV) _ (by rw [hSl]; exact hown) hg4)
     rw [← unhide HTK, hSl] at HN4
     clear hown hg4 hat hlt4
     go_wp2_with fail
     exact ⟨⟨i + 1, by omega, by (first | rfl | go_num), HN4⟩, by simp [intOf]; omega⟩
  ·obtain rfl : i = m := by omega
   have hlt' : ¬ (i : Int) < (i : Int) := by omega
   have hsn : (ys.take i).map (fun y => !btF I os n y.toNat) = ys.map (fun y => !btF I os n y.toNat) := by rw [List.take_of_length_le (by have := unhide HM; omega)]
   rw [hsn] at HG
   obtain ⟨g, zc, rfl, hg, hrv⟩ := (unhide HG).rov (by
    intro e
    have := congrArg List.length e
    rw [List.length_map, unhide HM] at this
    simp at this
    omega)
   rw [List.length_map, unhide HM] at hrv ⊢
   have HRV := hide (hrv.congr (g := fun j => .bool (!btF I os n (ys.getD j 0).toNat)) (fun j hj => by
    have hl : j < ys.length := by have := unhide HM; omega
    simp [List.getD, hl]))
   have HEND := hide ((unhide HB).trans (((unhide HB2).trans ((unhide HG).bel.mono (unhide HB2).size)).mono (unhide HB).size))
   clear hrv hsn
   go_wp2_with fail
   refine bodyPost_ret (v := .tuple #[.slice (some ⟨g, 0, none⟩) i zc, .int .i64 0, .int .i64 0]) (by simp [results, Tryz.results16, go_sem]; try rfl) rfl ?_
   exact ⟨g, zc, rfl, unhide HRV, unhide HEND⟩
set_option maxRecDepth 100000 in
set_option maxHeartbeats 16000000 in
theorem wLinear_no (i : Int) (a : Option Addr) (n c : Nat) (os : List On) (b : Option Addr) (m d : Nat) (ys : List Int) (w : World) (hs : SlO w a n c os) (hy : SlI w b m d ys) (hT : Tab64 w) (he : (chF i os ys).2 ≠ 0) :
  Calls Tryz.prog 16 #[tapV i a n c b m d] w fun e w' => e = .returned (.tuple #[.slice none 0 0, .int .i64 (chF i os ys).1, .int .i64 (chF i os ys).2]) ∧ Below w.heap.size w w' := by
 obtain ⟨wa, hwa⟩ : ∃ x, w.alloc (.cells #[.int .i64 i, .slice a n c, .slice b m d] 25) = x := ⟨_, rfl⟩
 have bx : BoxP wa w.heap.size [.int .i64 i, .slice a n c, .slice b m d] := by rw [← hwa]; exact BoxP.made _ _ _
 have hba : Below w.heap.size w wa := by rw [← hwa]; exact (Below.refl _ _).alloc (Nat.le_refl _) _
 have g0 := (bx.all 0 _ rfl).1
 have g1 := (bx.all 1 _ rfl).1
 have g2 := (bx.all 2 _ rfl).1
 have K0 := wcheck_any i a n c os b m d ys wa (hs.below hba) (hy.below hba) (hT.below hba)
 obtain ⟨z, hz⟩ : ∃ z, (chF i os ys).2 = z := ⟨_, rfl⟩
 obtain ⟨z1, hz1⟩ : ∃ z, (chF i os ys).1 = z := ⟨_, rfl⟩
 rw [hz, hz1] at K0
 rw [hz] at he ⊢
 rw [hz1]
 have he' : (z != 0) = true := by simpa using he
 have HC := hide K0
 have HB := hide hba
 unfold tapV at HC ⊢
 clear bx hba K0 hs hy hT he hz hz1
 go_enter Tryz.func16, Tryz.ntmps16
 go_wp2_with fail
 refine (unhide HC).mono ?_
 rintro _ w1 ⟨rfl, b1⟩
 have HB1 := hide ((unhide HB).trans (b1.mono (unhide HB).size))
 clear b1 HC
 go_wp2_with fail
 go_ret3
 exact ⟨rfl, unhide HB1⟩
end Go.Proofs.YtbbicappjicblaaGreatDoor
