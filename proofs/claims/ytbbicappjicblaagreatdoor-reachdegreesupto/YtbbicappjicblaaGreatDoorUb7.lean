/- Uc4 -/
import Derived.Test.YtbbicappjicblaaGreatDoorUc3
import Derived.Test.YtbbicappjicblaaGreatDoorUc1
import Derived.Test.YtbbicappjicblaaGreatDoorTe9
import Derived.Test.YtbbicappjicblaaGreatDoorUb5
namespace Go.Proofs.YtbbicappjicblaaGreatDoor
open Go.RowKit Go.Deep
set_option linter.unusedVariables false
theorem own_slD {w : World} {base n : Nat} {v : Value} {xs : List Int} (h : w.ownsRow base 3 1 v n (valsI xs)) : ∃ a c, v = .slice a n c ∧ SlI w a n c xs := by
 have hl : xs.length = n := by have := h.1; simpa [valsI] using this
 rcases h.2 with ⟨rfl, rfl⟩ | ⟨b, cap, cur, rfl, h4, h5, h6, h7, h8, h9⟩
 ·have : xs = [] := List.eq_nil_of_length_eq_zero hl
  subst this
  exact ⟨none, 0, rfl, SlI.nil _⟩
 ·refine ⟨_, _, rfl, ⟨hl, h6, h7, .inr ⟨b, 0, rfl, fun i hi => ?_⟩⟩⟩
  rw [Nat.zero_add, cell_of_block h5]
  have : (cur.toList.take (n * 1))[i]? = (valsI xs)[i]? := by rw [h9]
  rw [List.getElem?_take_of_lt (by omega)] at this
  rw [← Array.getElem?_toList, this]
  simp [valsI, List.getD, hi]
theorem dgO_mv {d : Nat → Int} {mv mv' : Nat → Bool} {o : On} (h : ∀ a ∈ opsL o, mv a.toNat = mv' a.toNat) : dgO d mv o = dgO d mv' o := by
 unfold dgO
 by_cases k8 : o.k = 8
 ·have e : opsL o = [o.a] := by unfold opsL twoK oneK; rw [if_neg (by simp; omega), if_pos (by simp; omega)]
  rw [h o.a (by rw [e]; simp)]
  simp [k8]
 ·by_cases k6 : o.k = 6
  ·have e : opsL o = [o.a, o.b] := by unfold opsL twoK; rw [if_pos (by simp; omega)]
   rw [h o.b (by rw [e]; simp)]
   simp [k6]
  ·simp [k8, k6]
theorem Tryz.info_intD : (Tryz.prog.info? 3).map (fun i => (i.zero, i.size, i.bytes)) = some (some (.int .i64 0), 1, 8) := by kernel_rfl
structure GwI (w1 W : World) (v : Value) (S : List Int) : Prop where
 own : W.ownsRow w1.heap.size 3 1 v S.length (valsI S)
 bel : Below w1.heap.size w1 W
theorem GwI.app {w1 W W3 : World} {v : Value} {S : List Int} {x : Int} {g cap : Nat} (h : GwI w1 W v S) (o : Obj) (hown : W3.ownsRow w1.heap.size 3 1 (.slice (some ⟨g, 0, none⟩) (S.length + 1) cap) (S.length + 1) (valsI S ++ [.int .i64 x])) (hg : (W.alloc o).grownBy W3 v.ownBlock) : GwI w1 W3 (.slice (some ⟨g, 0, none⟩) (S.length + 1) cap) (S ++ [x]) :=
 ⟨by simpa [valsI] using hown, h.bel.trans (Below.grown ((Below.refl _ W).alloc h.bel.size o) hg (by simp; have := h.bel.size; omega) (fun j hj => (own_ge h.own j hj).1))⟩
def WdA (w : World) (I : Nat) (n : Nat) (os : List On) (e : Ending) (w' : World) : Prop := ∃ z zc, e = .returned (.tuple #[.slice z n zc, .int .i64 0, .int .i64 0]) ∧ SlI w' z n zc ((List.range n).map (dgF I os n)) ∧ (∀ y, z = some y → w.heap.size ≤ y.block) ∧ Below w.heap.size w w'
set_option maxRecDepth 100000 in
set_option maxHeartbeats 32000000 in
theorem wDegree_yes (I : Nat) (a : Option Addr) (n c : Nat) (os : List On) (b : Option Addr) (m d : Nat) (ys : List Int) (w : World) (hs : SlO w a n c os) (hy : SlI w b m d ys) (hT : Tab64 w) (he : (chF (I : Int) os ys).2 = 0) :
  Calls Tryz.prog 14 #[tapV (I : Int) a n c b m d] w (WdA w I n os) := by
 have hk := TpOk.of he
 have hn := hs.len
 have hn2 : n ≤ 2048 := by have := hk.lo; omega
 obtain ⟨wa, hwa⟩ : ∃ x, w.alloc (.cells #[.int .i64 (I : Int), .slice a n c, .slice b m d] 25) = x := ⟨_, rfl⟩
 have bx : BoxP wa w.heap.size [.int .i64 (I : Int), .slice a n c, .slice b m d] := by rw [← hwa]; exact BoxP.made _ _ _
 have hba : Below w.heap.size w wa := by rw [← hwa]; exact (Below.refl _ _).alloc (Nat.le_refl _) _
 have g0 := (bx.all 0 _ rfl).1
 have g1 := (bx.all 1 _ rfl).1
 have g2 := (bx.all 2 _ rfl).1
 have K0 := wcheck_any (I : Int) a n c os b m d ys wa (hs.below hba) (hy.below hba) (hT.below hba)
 rw [TpOk.ch he] at K0
 have HC := hide K0
 have HH := hide (fun (W : World) (hb : Below wa.heap.size wa W) => whangs_any (I : Int) a n c os b m d ys W ((hs.below hba).below hb) hk)
 have HB := hide hba
 have HS := hide (hs.below hba)
 have HK := hide hk
 have HN := hide hn
 unfold tapV at HC HH ⊢
 clear bx hba K0 hs hy hT he hk hn
 go_enter Tryz.func14, Tryz.ntmps14
 go_wp2_with fail
 refine (unhide HC).mono ?_
 rintro _ w1 ⟨rfl, b1⟩
 have g0 := (b1.cell (World.block_lt_of_cell? _ _ g0)).trans g0
 have g1 := (b1.cell (World.block_lt_of_cell? _ _ g1)).trans g1
 have g2 := (b1.cell (World.block_lt_of_cell? _ _ g2)).trans g2
 have HB1 := hide b1
 clear b1 HC hwa
 go_wp2_with fail
 refine (unhide HH w1 (unhide HB1)).mono ?_
 rintro _ w2 ⟨h, hc, rfl, hT, b2⟩
 have g0 := (b2.cell (World.block_lt_of_cell? _ _ g0)).trans g0
 have g1 := (b2.cell (World.block_lt_of_cell? _ _ g1)).trans g1
 have g2 := (b2.cell (World.block_lt_of_cell? _ _ g2)).trans g2
 have HB2 := hide ((unhide HB1).trans (b2.mono (unhide HB1).size))
 have HT := hide hT
 clear b2 hT HH HB1
 go_wp2_with fail
 obtain ⟨i64, hi, hz, hsi, hb⟩ := info_parts Tryz.info_intD
 have HI := hide (And.intro hi (And.intro hz (And.intro hsi hb)))
 have hone : ∀ y : Int, ∀ z ∈ [Value.int .i64 y], z.oneCell' = true := by intro y z hz; simp at hz; subst hz; rfl
 clear hi hz hsi hb
 go_loopw [9, 8] (fun kv dv wr => ∃ k : Nat, k ≤ n ∧ kv = .int .i64 (k : Int) ∧ Hid (GwI w2 wr dv ((List.range k).map (dgF I os k)))) (fun kv _ _ => n - (intOf kv).toNat)
 case atStart => exact ⟨0, Nat.zero_le _, rfl, hide ⟨World.ownsRow_nil _ _ _ _, Below.refl _ _⟩⟩
 case round =>
  obtain ⟨k, hk, rfl, HG⟩ := hrel
  have r1 := ((unhide HG).bel.cell (World.block_lt_of_cell? _ _ g1)).trans g1
  obtain ⟨da, dc, rfl, hsl⟩ := own_slD (unhide HG).own
  have hln : ((List.range k).map (dgF I os k)).length = k := by simp
  rw [hln] at hsl HG ⊢
  by_cases hlt : k < n
  ·have hlt' : (k : Int) < (n : Int) := by omega
   obtain ⟨b1, off, o, rfl, ho, O, hok⟩ := (((unhide HS).below (unhide HB2)).below (unhide HG).bel).at' hlt
   obtain ⟨c0, c1, c2, c3, c4, c5, c6⟩ := O
   have hI := (unhide HK).li
   have K := wdeg_any o h I n hc k dc da (hgF os n) (dgF I os k) wr (by have := unhide HT; rw [Int.toNat_natCast] at this; exact this.below (unhide HG).bel) (by omega) (by omega) hsl (dgF_rng I os k) (fun v hv hm => dg_free (unhide HK) k v hv (by have := unhide HN; omega) (by
    unfold mvF
    rw [show hgF os k v = hgF os n v from funext fun j => (hgF_stay os v j k hv n (by omega)).symm]
    exact hm)) ((unhide HK).op k o ho) (by omega)
   unfold opV at K
   have hrd := dgO_rng (mv := fun v => mvP I (hgF os n v)) (o := o) (dgF_rng I os k)
   have hst : dgO (dgF I os k) (fun v => mvP I (hgF os n v)) o = dgF I os (k + 1) k := by
    rw [dgF_next ho, if_pos rfl]
    refine dgO_mv (fun a ha => ?_)
    have h1 := ops_lt (unhide HK) ho a ha
    show mvF I os n a.toNat = _
    exact mvF_stay (by omega) (by omega)
   obtain ⟨x, hx⟩ : ∃ x, dgO (dgF I os k) (fun v => mvP I (hgF os n v)) o = x := ⟨_, rfl⟩
   rw [hx] at K hst hrd
   have HL := hide (show (List.range (k + 1)).map (dgF I os (k + 1)) = (List.range k).map (dgF I os k) ++ [x] from by
    rw [List.range_succ, List.map_append, List.map_cons, List.map_nil, ← hst]
    congr 1
    exact List.map_congr_left (fun v hv => dgF_keep I os k v (by simpa using hv)))
   have HD := hide K
   obtain ⟨S, hS⟩ : ∃ S, (List.range k).map (dgF I os k) = S := ⟨_, rfl⟩
   rw [hS] at HG HL hln
   clear K hx hst hS hsl ho hok
   go_wp2_with fail
   refine (unhide HD).mono ?_
   rintro _ w3 ⟨rfl, b3⟩
   have HG3 := hide (show GwI w2 w3 (.slice da k dc) S from ⟨ownsRow_chg (S := fun _ => False) (unhide HG).own (Chg.of_below b3) (fun _ _ x => x), (unhide HG).bel.trans (b3.mono (unhide HG).bel.size)⟩)
   have hle := (unhide HG3).bel.size
   have hmx : S.length + 1 ≤ maxLen := by unfold maxLen; omega
   have hby : (S.length + 1) * 8 ≤ 140737488355328 := by omega
   clear b3 HD HG
   go_wp2_with (at_builtin; refine wpList_append_lies _ rfl _ _ 23 rfl w2.heap.size 3 i64 (.int .i64 0) 1 8 Tryz.underlying23 (unhide HI).1 (unhide HI).2.1 (unhide HI).2.2.1 (unhide HI).2.2.2 rfl (by decide) _ S.length (valsI S) rfl ((unhide HG3).own.alloc _) ⟨w3.heap.size, 0, none⟩ 1 1 [.int .i64 x] rfl rfl (World.news_of_block (alloc_block _ _)) (hone _) (by decide) hmx hby (by simp; omega) (w3.heap.size + 1) (by simp) ?_)
   intro g4 cap4 w4 hown hg4 hat hlt4
   have HN4 := hide (GwI.app (unhide HG3) _ (by rw [hln]; exact hown) hg4)
   rw [← unhide HL, hln] at HN4
   clear hown hg4 hat hlt4
   go_wp2_with fail
   exact ⟨⟨k + 1, by omega, by (first | rfl | go_num), HN4⟩, by simp [intOf]; omega⟩
  ·obtain rfl : k = n := by omega
   have hlt' : ¬ (k : Int) < (k : Int) := by omega
   have HSL := hide (And.intro hsl ((unhide HB).trans (((unhide HB2).trans ((unhide HG).bel.mono (unhide HB2).size)).mono (unhide HB).size)))
   have HFR := hide (show ∀ y, da = some y → w.heap.size ≤ y.block from fun y e => by have h1 := (own_ge (unhide HG).own y.block (by rw [e]; rfl)).1; have h2 := (unhide HB).size; have h3 := (unhide HB2).size; omega)
   clear hsl HG
   go_wp2_with fail
   refine bodyPost_ret (v := .tuple #[.slice da k dc, .int .i64 0, .int .i64 0]) (by simp [results, Tryz.results14, go_sem]; try rfl) rfl ?_
   exact ⟨da, dc, rfl, (unhide HSL).1, unhide HFR, (unhide HSL).2⟩
set_option maxRecDepth 100000 in
set_option maxHeartbeats 16000000 in
theorem wDegree_no (i : Int) (a : Option Addr) (n c : Nat) (os : List On) (b : Option Addr) (m d : Nat) (ys : List Int) (w : World) (hs : SlO w a n c os) (hy : SlI w b m d ys) (hT : Tab64 w) (he : (chF i os ys).2 ≠ 0) :
  Calls Tryz.prog 14 #[tapV i a n c b m d] w fun e w' => e = .returned (.tuple #[.slice none 0 0, .int .i64 (chF i os ys).1, .int .i64 (chF i os ys).2]) ∧ Below w.heap.size w w' := by
 obtain ⟨wa, hwa⟩ : ∃ x, w.alloc (.cells #[.int .i64 i, .slice a n c, .slice b m d] 25) = x := ⟨_, rfl⟩
 have bx : BoxP wa w.heap.size [.int .i64 i, .slice a n c, .slice b m d] := by rw [← hwa]; exact BoxP.made _ _ _
 have hba : Below w.heap.size w wa := by rw [← hwa]; exact (Below.refl _ _).alloc (Nat.le_refl _) _
 have g0 := (bx.all 0 _ rfl).1
 have g1 := (bx.all 1 _ rfl).1
 have g2 := (bx.all 2 _ rfl).1
 have K0 := wcheck_any i a n c os b m d ys wa (hs.below hba) (hy.below hba) (hT.below hba)
 obtain ⟨z, hz⟩ : ∃ z, (chF i os ys).2 = z := ⟨_, rfl⟩
 obtain ⟨z1, hz1⟩ : ∃ z, (chF i os ys).1 = z := ⟨_, rfl⟩
 rw [hz, hz1] at K0
 rw [hz] at he ⊢
 rw [hz1]
 have he' : (z != 0) = true := by simpa using he
 have HC := hide K0
 have HB := hide hba
 unfold tapV at HC ⊢
 clear bx hba K0 hs hy hT he hz hz1
 go_enter Tryz.func14, Tryz.ntmps14
 go_wp2_with fail
 refine (unhide HC).mono ?_
 rintro _ w1 ⟨rfl, b1⟩
 have HB1 := hide ((unhide HB).trans (b1.mono (unhide HB).size))
 clear b1 HC
 go_wp2_with fail
 go_ret3
 exact ⟨rfl, unhide HB1⟩
end Go.Proofs.YtbbicappjicblaaGreatDoor
namespace Go.Proofs.YtbbicappjicblaaGreatDoor
open Go.RowKit Go.Deep
set_option linter.unusedVariables false
set_option linter.unusedSimpArgs false
theorem rdeg_any (I : Nat) (sa : Option Addr) (k sc : Nat) (T : List Bs.SetC) (f : Nat → Nat → Bool) (i : Int) (ta : Option Addr) (tn tc : Nat) (tb : Option Addr) (tm td : Nat) (la : Option Addr) (ln lc : Nat) (o : On) (da : Option Addr) (kd dc : Nat) (d : Nat → Int) (w : World) (hkd : kd ≤ k) (hT : WkT I k T f) (hs : Bs.SlS w sa k sc T) (hd : SlI w da kd dc ((List.range kd).map d)) (hr : ∀ v, -1 ≤ d v ∧ d v ≤ 1099511627776) (ho : opF (I : Int) kd o = 0) (hn : kd ≤ 2048) :
  Calls Tryz.prog 58 #[wkV (I : Int) sa k sc i ta tn tc tb tm td la ln lc, opV o, .slice da kd dc] w fun e w' => e = .returned (.int .i64 (dgO d (fun v => mvP I (f v)) o)) ∧ Below w.heap.size w w' := by
 obtain ⟨h1, h2, h3, h4, h5, h6⟩ := op_ok ho
 obtain ⟨kk, a, b, n, p⟩ := o
 simp only at h1 h4 h5 h6
 have ea : 0 ≤ a := by
  by_cases k1 : kk = 1
  ·have := h4 k1; omega
  ·by_cases k2 : kk = 2
   ·unfold unuO at h3
    simp [k2] at h3
    omega
   ·have := h2 a (by
     unfold opsL twoK oneK
     by_cases e : 3 ≤ kk ∧ kk ≤ 6
     ·rw [if_pos (by simp; omega)]; simp
     ·rw [if_neg (by simp; omega), if_pos (by simp; omega)]; simp)
    omega
 have eb : 0 ≤ b := by
  by_cases e : 3 ≤ kk ∧ kk ≤ 6
  ·have := h2 b (by
    unfold opsL twoK
    rw [if_pos (by simp; omega)]
    simp)
   omega
  ·unfold unuO twoK at h3
   simp at h3
   omega
 obtain ⟨A, rfl⟩ : ∃ A : Nat, a = (A : Int) := ⟨a.toNat, by omega⟩
 obtain ⟨B, rfl⟩ : ∃ B : Nat, b = (B : Int) := ⟨b.toNat, by omega⟩
 have hA : 3 ≤ kk → A < kd := fun e => by
  have := h2 (A : Int) (by
   unfold opsL twoK oneK
   by_cases e : 3 ≤ kk ∧ kk ≤ 6
   ·rw [if_pos (by simp; omega)]; simp
   ·rw [if_neg (by simp; omega), if_pos (by simp; omega)]; simp)
  omega
 have hB : 3 ≤ kk ∧ kk ≤ 6 → B < kd := fun e => by
  have := h2 (B : Int) (by
   unfold opsL twoK
   rw [if_pos (by simp; omega)]; simp)
  omega
 obtain ⟨j, rfl⟩ : ∃ j : Nat, kk = (j : Int) := ⟨kk.toNat, by omega⟩
 match j, (show 1 ≤ j by omega), (show j ≤ 8 by omega), hA, hB with
 | 1, _, _, _, _ => exact rdeg_1 I sa k sc T f i ta tn tc tb tm td la ln lc A B n p da kd dc d w hkd hT hs hd hr h6
 | 2, _, _, _, _ => exact rdeg_2 I sa k sc T f i ta tn tc tb tm td la ln lc A B n p da kd dc d w hkd hT hs hd hr h6
 | 3, _, _, hA, hB => exact rdeg_3 I sa k sc T f i ta tn tc tb tm td la ln lc A B n p da kd dc d w hkd hT hs hd hr h6 (hA (by decide)) (hB (by decide))
 | 4, _, _, hA, hB => exact rdeg_4 I sa k sc T f i ta tn tc tb tm td la ln lc A B n p da kd dc d w hkd hT hs hd hr h6 (hA (by decide)) (hB (by decide))
 | 5, _, _, hA, hB => exact rdeg_5 I sa k sc T f i ta tn tc tb tm td la ln lc A B n p da kd dc d w hkd hT hs hd hr h6 (hA (by decide)) (hB (by decide))
 | 6, _, _, hA, hB => exact rdeg_6 I sa k sc T f i ta tn tc tb tm td la ln lc A B n p da kd dc d w hkd hT hs hd hr h6 (hA (by decide)) (hB (by decide))
 | 7, _, _, hA, _ => exact rdeg_7 I sa k sc T f i ta tn tc tb tm td la ln lc A B n p da kd dc d w hkd hT hs hd hr h6 (hA (by decide))
 | 8, _, _, hA, _ => exact rdeg_8 I sa k sc T f i ta tn tc tb tm td la ln lc A B n p da kd dc d w hkd hT hs hd hr h6 (hA (by decide))
theorem make_intsC (n : Nat) (hn : n ≤ 1000000) (w : World) : (Instr.makeSlice 23 (.int .i64 0) (.int .i64 (n : Int))).run Tryz.prog w = .ok (.slice (some ⟨w.heap.size, 0, none⟩) 0 n) (w.alloc (.cells (madeCells #[.int .i64 0] n) 3)) := by
 obtain ⟨i, hi, hz, hs, hb⟩ := info_parts Tryz.info_intD
 have hr := run_make (P := Tryz.prog) w 23 3 i (.int .i64 0) Tryz.underlying23 hi hz .i64 .i64 0 (n : Int) (by omega) (by omega) (by rw [hb]; omega) (by omega)
 rw [hs, Nat.mul_one] at hr
 simp only [Int.toNat_natCast, Int.toNat_zero] at hr
 exact hr
def DgA (w : World) (n : Nat) (f : Nat → Int) (e : Ending) (w' : World) : Prop := ∃ z zc, e = .returned (.slice z n zc) ∧ SlI w' z n zc ((List.range n).map f) ∧ (∀ y, z = some y → w.heap.size ≤ y.block) ∧ Below w.heap.size w w'
set_option maxRecDepth 100000 in
set_option maxHeartbeats 16000000 in
theorem rdegrees_any (I : Nat) (sa : Option Addr) (sc : Nat) (T : List Bs.SetC) (i : Int) (a : Option Addr) (n c : Nat) (os : List On) (ys : List Int) (tb : Option Addr) (tm td : Nat) (la : Option Addr) (ln lc : Nat) (w : World) (hT : WkT I n T (hgF os n)) (hs : Bs.SlS w sa n sc T) (ho : SlO w a n c os) (hk : TpOk (I : Int) os ys) :
  Calls Tryz.prog 35 #[wkV (I : Int) sa n sc i a n c tb tm td la ln lc] w (DgA w n (dgF I os n)) := by
 have hn := ho.len
 have hn2 : n ≤ 2048 := by have := hk.lo; omega
 obtain ⟨wa, hwa⟩ : ∃ x, w.alloc (.cells #[.int .i64 (I : Int), .slice sa n sc, .int .i64 i, .slice a n c, .slice tb tm td, .slice la ln lc] 63) = x := ⟨_, rfl⟩
 have bx : BoxP wa w.heap.size [.int .i64 (I : Int), .slice sa n sc, .int .i64 i, .slice a n c, .slice tb tm td, .slice la ln lc] := by rw [← hwa]; exact BoxP.made _ _ _
 have hba : Below w.heap.size w wa := by rw [← hwa]; exact (Below.refl _ _).alloc (Nat.le_refl _) _
 have x0 := (bx.all 0 _ rfl).1
 have x1 := (bx.all 1 _ rfl).1
 have x2 := (bx.all 2 _ rfl).1
 have x3 := (bx.all 3 _ rfl).1
 have x4 := (bx.all 4 _ rfl).1
 have x5 := (bx.all 5 _ rfl).1
 have HMK := hide (fun W => make_intsC n (by omega) W)
 have hmk := make_intsC n (by omega) wa
 have hown := World.ownsRow_made (base := wa.heap.size) (e := 3) (size := 1) wa (madeCells #[.int .i64 0] n) n (Nat.le_refl _) (by unfold maxLen; omega) (by simp [madeCells])
 obtain ⟨wm, hwm⟩ : ∃ x, wa.alloc (.cells (madeCells #[.int .i64 0] n) 3) = x := ⟨_, rfl⟩
 have bm : Below wa.heap.size wa wm := by rw [← hwm]; exact (Below.refl _ _).alloc (Nat.le_refl _) _
 rw [hwm] at hmk hown
 have HG0 := hide (show GwI wa wm (.slice (some ⟨wa.heap.size, 0, none⟩) 0 n) [] from ⟨hown, bm⟩)
 have HB := hide hba
 have HS := hide (hs.below hba)
 have HO := hide (ho.below hba)
 have HK := hide hk
 have HT := hide hT
 have HN := hide hn
 have y0 := (bm.cell (World.block_lt_of_cell? _ _ x0)).trans x0
 have y1 := (bm.cell (World.block_lt_of_cell? _ _ x1)).trans x1
 have y2 := (bm.cell (World.block_lt_of_cell? _ _ x2)).trans x2
 have y3 := (bm.cell (World.block_lt_of_cell? _ _ x3)).trans x3
 have y4 := (bm.cell (World.block_lt_of_cell? _ _ x4)).trans x4
 have y5 := (bm.cell (World.block_lt_of_cell? _ _ x5)).trans x5
 obtain ⟨i64, hi, hz, hsi, hb⟩ := info_parts Tryz.info_intD
 have HI := hide (And.intro hi (And.intro hz (And.intro hsi hb)))
 have hone : ∀ y : Int, ∀ z ∈ [Value.int .i64 y], z.oneCell' = true := by intro y z hz; simp at hz; subst hz; rfl
 unfold wkV
 clear bx hba hs ho hk hT hn hown bm hi hz hsi hb HMK
 go_enter Tryz.func35, Tryz.ntmps35
 go_wp2_with fail
 go_loopw [15, 3] (fun kv dv wr => ∃ k : Nat, k ≤ n ∧ kv = .int .i64 (k : Int) ∧ Hid (GwI wa wr dv ((List.range k).map (dgF I os k)))) (fun kv _ _ => n - (intOf kv).toNat)
 case atStart => exact ⟨0, Nat.zero_le _, rfl, by simpa using HG0⟩
 case round =>
  obtain ⟨k, hk, rfl, HG⟩ := hrel
  have x0 := ((unhide HG).bel.cell (World.block_lt_of_cell? _ _ x0)).trans x0
  have x1 := ((unhide HG).bel.cell (World.block_lt_of_cell? _ _ x1)).trans x1
  have x2 := ((unhide HG).bel.cell (World.block_lt_of_cell? _ _ x2)).trans x2
  have x3 := ((unhide HG).bel.cell (World.block_lt_of_cell? _ _ x3)).trans x3
  have x4 := ((unhide HG).bel.cell (World.block_lt_of_cell? _ _ x4)).trans x4
  have x5 := ((unhide HG).bel.cell (World.block_lt_of_cell? _ _ x5)).trans x5
  obtain ⟨da, dc, rfl, hsl⟩ := own_slD (unhide HG).own
  have hln : ((List.range k).map (dgF I os k)).length = k := by simp
  rw [hln] at hsl HG ⊢
  by_cases hlt : k < n
  ·have hlt' : (k : Int) < (n : Int) := by omega
   obtain ⟨b1, off, o, rfl, ho, O, hok⟩ := ((unhide HO).below (unhide HG).bel).at' hlt
   obtain ⟨c0, c1, c2, c3, c4, c5, c6⟩ := O
   obtain ⟨W3, hW3⟩ : ∃ x, wr.alloc (.cells #[.int .i64 o.k, .int .i64 o.a, .int .i64 o.b, .int .i64 o.n, .bool o.p.g, .slice o.p.a o.p.n o.p.c, .slice o.p.b o.p.m o.p.d] 73) = x := ⟨_, rfl⟩
   have br : BoxP W3 wr.heap.size [.int .i64 o.k, .int .i64 o.a, .int .i64 o.b, .int .i64 o.n, .bool o.p.g, .slice o.p.a o.p.n o.p.c, .slice o.p.b o.p.m o.p.d] := by rw [← hW3]; exact BoxP.made _ _ _
   have b3 : Below wr.heap.size wr W3 := by rw [← hW3]; exact (Below.refl _ _).alloc (Nat.le_refl _) _
   have q0 := (br.all 0 _ rfl).1
   have q1 := (br.all 1 _ rfl).1
   have q2 := (br.all 2 _ rfl).1
   have q3 := (br.all 3 _ rfl).1
   have q4 := (br.all 4 _ rfl).1
   have q5 := (br.all 5 _ rfl).1
   have q6 := (br.all 6 _ rfl).1
   have z0 := (b3.cell (World.block_lt_of_cell? _ _ x0)).trans x0
   have z1 := (b3.cell (World.block_lt_of_cell? _ _ x1)).trans x1
   have z2 := (b3.cell (World.block_lt_of_cell? _ _ x2)).trans x2
   have z3 := (b3.cell (World.block_lt_of_cell? _ _ x3)).trans x3
   have z4 := (b3.cell (World.block_lt_of_cell? _ _ x4)).trans x4
   have z5 := (b3.cell (World.block_lt_of_cell? _ _ x5)).trans x5
   have K := rdeg_any I sa n sc T (hgF os n) i (some ⟨b1, off, none⟩) n c tb tm td la ln lc o da k dc (dgF I os k) W3 (by omega) (unhide HT) (((unhide HS).below (unhide HG).bel).below b3) (hsl.below b3) (dgF_rng I os k) ((unhide HK).op k o ho) (by omega)
   unfold opV wkV at K
   have hrd := dgO_rng (mv := fun v => mvP I (hgF os n v)) (o := o) (dgF_rng I os k)
   have hst : dgO (dgF I os k) (fun v => mvP I (hgF os n v)) o = dgF I os (k + 1) k := by
    rw [dgF_next ho, if_pos rfl]
    refine dgO_mv (fun a ha => ?_)
    have h1 := ops_lt (unhide HK) ho a ha
    show mvF I os n a.toNat = _
    exact mvF_stay (by omega) (by omega)
   obtain ⟨x, hx⟩ : ∃ x, dgO (dgF I os k) (fun v => mvP I (hgF os n v)) o = x := ⟨_, rfl⟩
   rw [hx] at K hst hrd
   have HL := hide (show (List.range (k + 1)).map (dgF I os (k + 1)) = (List.range k).map (dgF I os k) ++ [x] from by
    rw [List.range_succ, List.map_append, List.map_cons, List.map_nil, ← hst]
    congr 1
    exact List.map_congr_left (fun v hv => dgF_keep I os k v (by simpa using hv)))
   have HD := hide K
   have HG3 := hide (show GwI wa W3 (.slice da k dc) ((List.range k).map (dgF I os k)) from ⟨by rw [hln]; exact ownsRow_chg (S := fun _ => False) (by have := (unhide HG).own; rw [hln] at this; exact this) (Chg.of_below b3) (fun _ _ x => x), (unhide HG).bel.trans (b3.mono (unhide HG).bel.size)⟩)
   obtain ⟨S, hS⟩ : ∃ S, (List.range k).map (dgF I os k) = S := ⟨_, rfl⟩
   rw [hS] at HG3 HL hln
   clear K hx hst hS hsl ho hok br b3 HG
   go_wp2_with fail
   refine (unhide HD).mono ?_
   rintro _ w3 ⟨rfl, b3⟩
   have HG4 := hide (show GwI wa w3 (.slice da k dc) S from ⟨ownsRow_chg (S := fun _ => False) (unhide HG3).own (Chg.of_below b3) (fun _ _ x => x), (unhide HG3).bel.trans (b3.mono (unhide HG3).bel.size)⟩)
   have hle := (unhide HG4).bel.size
   have hmx : S.length + 1 ≤ maxLen := by unfold maxLen; omega
   have hby : (S.length + 1) * 8 ≤ 140737488355328 := by omega
   clear b3 HD HG3
   go_wp2_with (at_builtin; refine wpList_append_lies _ rfl _ _ 23 rfl wa.heap.size 3 i64 (.int .i64 0) 1 8 Tryz.underlying23 (unhide HI).1 (unhide HI).2.1 (unhide HI).2.2.1 (unhide HI).2.2.2 rfl (by decide) _ S.length (valsI S) rfl ((unhide HG4).own.alloc _) ⟨w3.heap.size, 0, none⟩ 1 1 [.int .i64 x] rfl rfl (World.news_of_block (alloc_block _ _)) (hone _) (by decide) hmx hby (by simp; omega) (w3.heap.size + 1) (by simp) ?_)
   intro g4 cap4 w4 hown hg4 hat hlt4
   have HN4 := hide (GwI.app (unhide HG4) _ (by rw [hln]; exact hown) hg4)
   rw [← unhide HL, hln] at HN4
   clear hown hg4 hat hlt4
   go_wp2_with fail
   exact ⟨⟨k + 1, by omega, by (first | rfl | go_num), HN4⟩, by simp [intOf]; omega⟩
  ·obtain rfl : k = n := by omega
   have hlt' : ¬ (k : Int) < (k : Int) := by omega
   have HSL := hide (And.intro hsl ((unhide HB).trans ((unhide HG).bel.mono (unhide HB).size)))
   have HFR := hide (show ∀ y, da = some y → w.heap.size ≤ y.block from fun y e => by have h1 := (own_ge (unhide HG).own y.block (by rw [e]; rfl)).1; have h2 := (unhide HB).size; omega)
   clear hsl HG
   go_wp2_with fail
   go_ret
   exact ⟨da, dc, rfl, (unhide HSL).1, unhide HFR, (unhide HSL).2⟩
def flO (o : On) : List (Int × Int) := if o.k = 5 then [(o.a, o.b)] else if o.k = 6 then [(o.a, o.b), (o.b, o.b)] else if o.k = 8 ∧ o.n ≠ 0 ∧ o.n ≠ 1 then [(o.a, o.a)] else []
theorem fl_jn (mv : Nat → Bool) (o : On) : (flO o).any (fun x => mv x.1.toNat && mv x.2.toNat) = jnO mv o := by
 unfold flO jnO
 by_cases k5 : o.k = 5
 ·simp [k5]
 by_cases k6 : o.k = 6
 ·simp [k6]
 by_cases k8 : o.k = 8 ∧ o.n ≠ 0 ∧ o.n ≠ 1
 ·rw [if_neg k5, if_neg k6, if_pos k8, if_neg k5, if_neg k6, if_pos k8]
  simp
 ·rw [if_neg k5, if_neg k6, if_neg k8, if_neg k5, if_neg k6, if_neg k8]
  rfl
theorem fl_ops {o : On} {x : Int × Int} (h : x ∈ flO o) : x.1 ∈ opsL o ∧ x.2 ∈ opsL o := by
 unfold flO at h
 split at h
 ·rename_i k
  simp at h
  subst h
  unfold opsL twoK
  rw [if_pos (by simp; omega)]
  simp
 ·split at h
  ·rename_i k
   simp at h
   unfold opsL twoK
   rw [if_pos (by simp; omega)]
   rcases h with h | h <;> subst h <;> simp
  ·split at h
   ·rename_i k
    simp at h
    subst h
    unfold opsL twoK oneK
    rw [if_neg (by simp; omega), if_pos (by simp; omega)]
    simp
   ·cases h
theorem fl_len (o : On) : (flO o).length ≤ 2 := by
 unfold flO
 split
 ·simp
 ·split
  ·simp
  ·split <;> simp
structure SlF (w : World) (a : Option Addr) (n c : Nat) (l : List (Int × Int)) : Prop where
 len : l.length = n
 le : n ≤ c
 cells : l = [] ∨ ∃ b off, a = some ⟨b, off, none⟩ ∧ ∀ i, i < l.length → w.cell? ⟨b, off + i * 2, none⟩ = some (.int .i64 (l.getD i (0, 0)).1) ∧ w.cell? ⟨b, off + i * 2 + 1, none⟩ = some (.int .i64 (l.getD i (0, 0)).2)
theorem SlF.below {w w' : World} {a : Option Addr} {n c : Nat} {l : List (Int × Int)} (h : SlF w a n c l) (k : Below w.heap.size w w') : SlF w' a n c l :=
 ⟨h.len, h.le, h.cells.imp id (fun ⟨b, off, e, hc⟩ => ⟨b, off, e, fun i hi => ⟨(k.cell (World.block_lt_of_cell? _ _ (hc i hi).1)).trans (hc i hi).1, (k.cell (World.block_lt_of_cell? _ _ (hc i hi).2)).trans (hc i hi).2⟩⟩)⟩
theorem slf_one (w : World) (x y : Int) (e : TypeId) : SlF (w.alloc (.cells #[.int .i64 x, .int .i64 y] e)) (some ⟨w.heap.size, 0, none⟩) 1 1 [(x, y)] :=
 ⟨rfl, Nat.le_refl _, .inr ⟨_, 0, rfl, fun i hi => by
  obtain rfl : i = 0 := by simpa using hi
  exact ⟨by simp, by simp⟩⟩⟩
theorem slf_two (w : World) (x y u v : Int) (e : TypeId) : SlF (w.alloc (.cells #[.int .i64 x, .int .i64 y, .int .i64 u, .int .i64 v] e)) (some ⟨w.heap.size, 0, none⟩) 2 2 [(x, y), (u, v)] :=
 ⟨rfl, Nat.le_refl _, .inr ⟨_, 0, rfl, fun i hi => by
  rcases (show i = 0 ∨ i = 1 from by simp at hi; omega) with rfl | rfl
  ·exact ⟨by simp, by simp⟩
  ·exact ⟨by simp, by simp⟩⟩⟩
def FlA (w : World) (l : List (Int × Int)) (e : Ending) (w' : World) : Prop := ∃ z m c, e = .returned (.slice z m c) ∧ SlF w' z m c l ∧ Below w.heap.size w w'
set_option maxRecDepth 100000 in
set_option maxHeartbeats 8000000 in
theorem rfolds_1 (a b n : Int) (p : Nq) (w : World) :
  Calls Tryz.prog 81 #[opV ⟨1, a, b, n, p⟩] w (FlA w (flO ⟨1, a, b, n, p⟩)) := by
 obtain ⟨wo, hwo⟩ : ∃ x, w.alloc (.cells #[.int .i64 1, .int .i64 a, .int .i64 b, .int .i64 n, .bool p.g, .slice p.a p.n p.c, .slice p.b p.m p.d] 73) = x := ⟨_, rfl⟩
 have br : BoxP wo w.heap.size [.int .i64 1, .int .i64 a, .int .i64 b, .int .i64 n, .bool p.g, .slice p.a p.n p.c, .slice p.b p.m p.d] := by rw [← hwo]; exact BoxP.made _ _ _
 have hbo : Below w.heap.size w wo := by rw [← hwo]; exact (Below.refl _ _).alloc (Nat.le_refl _) _
 have HB := hide hbo
 have f0 := (br.all 0 _ rfl).1
 have f1 := (br.all 1 _ rfl).1
 have f2 := (br.all 2 _ rfl).1
 have f3 := (br.all 3 _ rfl).1
 rw [show flO ⟨1, a, b, n, p⟩ = [] from by simp [flO]]
 unfold opV
 clear br hbo
 go_enter Tryz.func81, Tryz.ntmps81
 go_wp2_with fail
 go_ret
 exact ⟨none, 0, 0, rfl, ⟨rfl, Nat.le_refl _, .inl rfl⟩, unhide HB⟩
set_option maxRecDepth 100000 in
set_option maxHeartbeats 8000000 in
theorem rfolds_2 (a b n : Int) (p : Nq) (w : World) :
  Calls Tryz.prog 81 #[opV ⟨2, a, b, n, p⟩] w (FlA w (flO ⟨2, a, b, n, p⟩)) := by
 obtain ⟨wo, hwo⟩ : ∃ x, w.alloc (.cells #[.int .i64 2, .int .i64 a, .int .i64 b, .int .i64 n, .bool p.g, .slice p.a p.n p.c, .slice p.b p.m p.d] 73) = x := ⟨_, rfl⟩
 have br : BoxP wo w.heap.size [.int .i64 2, .int .i64 a, .int .i64 b, .int .i64 n, .bool p.g, .slice p.a p.n p.c, .slice p.b p.m p.d] := by rw [← hwo]; exact BoxP.made _ _ _
 have hbo : Below w.heap.size w wo := by rw [← hwo]; exact (Below.refl _ _).alloc (Nat.le_refl _) _
 have HB := hide hbo
 have f0 := (br.all 0 _ rfl).1
 have f1 := (br.all 1 _ rfl).1
 have f2 := (br.all 2 _ rfl).1
 have f3 := (br.all 3 _ rfl).1
 rw [show flO ⟨2, a, b, n, p⟩ = [] from by simp [flO]]
 unfold opV
 clear br hbo
 go_enter Tryz.func81, Tryz.ntmps81
 go_wp2_with fail
 go_ret
 exact ⟨none, 0, 0, rfl, ⟨rfl, Nat.le_refl _, .inl rfl⟩, unhide HB⟩
set_option maxRecDepth 100000 in
set_option maxHeartbeats 8000000 in
theorem rfolds_3 (a b n : Int) (p : Nq) (w : World) :
  Calls Tryz.prog 81 #[opV ⟨3, a, b, n, p⟩] w (FlA w (flO ⟨3, a, b, n, p⟩)) := by
 obtain ⟨wo, hwo⟩ : ∃ x, w.alloc (.cells #[.int .i64 3, .int .i64 a, .int .i64 b, .int .i64 n, .bool p.g, .slice p.a p.n p.c, .slice p.b p.m p.d] 73) = x := ⟨_, rfl⟩
 have br : BoxP wo w.heap.size [.int .i64 3, .int .i64 a, .int .i64 b, .int .i64 n, .bool p.g, .slice p.a p.n p.c, .slice p.b p.m p.d] := by rw [← hwo]; exact BoxP.made _ _ _
 have hbo : Below w.heap.size w wo := by rw [← hwo]; exact (Below.refl _ _).alloc (Nat.le_refl _) _
 have HB := hide hbo
 have f0 := (br.all 0 _ rfl).1
 have f1 := (br.all 1 _ rfl).1
 have f2 := (br.all 2 _ rfl).1
 have f3 := (br.all 3 _ rfl).1
 rw [show flO ⟨3, a, b, n, p⟩ = [] from by simp [flO]]
 unfold opV
 clear br hbo
 go_enter Tryz.func81, Tryz.ntmps81
 go_wp2_with fail
 go_ret
 exact ⟨none, 0, 0, rfl, ⟨rfl, Nat.le_refl _, .inl rfl⟩, unhide HB⟩
set_option maxRecDepth 100000 in
set_option maxHeartbeats 8000000 in
theorem rfolds_4 (a b n : Int) (p : Nq) (w : World) :
  Calls Tryz.prog 81 #[opV ⟨4, a, b, n, p⟩] w (FlA w (flO ⟨4, a, b, n, p⟩)) := by
 obtain ⟨wo, hwo⟩ : ∃ x, w.alloc (.cells #[.int .i64 4, .int .i64 a, .int .i64 b, .int .i64 n, .bool p.g, .slice p.a p.n p.c, .slice p.b p.m p.d] 73) = x := ⟨_, rfl⟩
 have br : BoxP wo w.heap.size [.int .i64 4, .int .i64 a, .int .i64 b, .int .i64 n, .bool p.g, .slice p.a p.n p.c, .slice p.b p.m p.d] := by rw [← hwo]; exact BoxP.made _ _ _
 have hbo : Below w.heap.size w wo := by rw [← hwo]; exact (Below.refl _ _).alloc (Nat.le_refl _) _
 have HB := hide hbo
 have f0 := (br.all 0 _ rfl).1
 have f1 := (br.all 1 _ rfl).1
 have f2 := (br.all 2 _ rfl).1
 have f3 := (br.all 3 _ rfl).1
 rw [show flO ⟨4, a, b, n, p⟩ = [] from by simp [flO]]
 unfold opV
 clear br hbo
 go_enter Tryz.func81, Tryz.ntmps81
 go_wp2_with fail
 go_ret
 exact ⟨none, 0, 0, rfl, ⟨rfl, Nat.le_refl _, .inl rfl⟩, unhide HB⟩
set_option maxRecDepth 100000 in
set_option maxHeartbeats 8000000 in
theorem rfolds_7 (a b n : Int) (p : Nq) (w : World) :
  Calls Tryz.prog 81 #[opV ⟨7, a, b, n, p⟩] w (FlA w (flO ⟨7, a, b, n, p⟩)) := by
 obtain ⟨wo, hwo⟩ : ∃ x, w.alloc (.cells #[.int .i64 7, .int .i64 a, .int .i64 b, .int .i64 n, .bool p.g, .slice p.a p.n p.c, .slice p.b p.m p.d] 73) = x := ⟨_, rfl⟩
 have br : BoxP wo w.heap.size [.int .i64 7, .int .i64 a, .int .i64 b, .int .i64 n, .bool p.g, .slice p.a p.n p.c, .slice p.b p.m p.d] := by rw [← hwo]; exact BoxP.made _ _ _
 have hbo : Below w.heap.size w wo := by rw [← hwo]; exact (Below.refl _ _).alloc (Nat.le_refl _) _
 have HB := hide hbo
 have f0 := (br.all 0 _ rfl).1
 have f1 := (br.all 1 _ rfl).1
 have f2 := (br.all 2 _ rfl).1
 have f3 := (br.all 3 _ rfl).1
 rw [show flO ⟨7, a, b, n, p⟩ = [] from by simp [flO]]
 unfold opV
 clear br hbo
 go_enter Tryz.func81, Tryz.ntmps81
 go_wp2_with fail
 go_ret
 exact ⟨none, 0, 0, rfl, ⟨rfl, Nat.le_refl _, .inl rfl⟩, unhide HB⟩
set_option maxRecDepth 100000 in
set_option maxHeartbeats 8000000 in
theorem rfolds_5 (a b n : Int) (p : Nq) (w : World) :
  Calls Tryz.prog 81 #[opV ⟨5, a, b, n, p⟩] w (FlA w (flO ⟨5, a, b, n, p⟩)) := by
 obtain ⟨wo, hwo⟩ : ∃ x, w.alloc (.cells #[.int .i64 5, .int .i64 a, .int .i64 b, .int .i64 n, .bool p.g, .slice p.a p.n p.c, .slice p.b p.m p.d] 73) = x := ⟨_, rfl⟩
 have br : BoxP wo w.heap.size [.int .i64 5, .int .i64 a, .int .i64 b, .int .i64 n, .bool p.g, .slice p.a p.n p.c, .slice p.b p.m p.d] := by rw [← hwo]; exact BoxP.made _ _ _
 have hbo : Below w.heap.size w wo := by rw [← hwo]; exact (Below.refl _ _).alloc (Nat.le_refl _) _
 have HB := hide hbo
 have f0 := (br.all 0 _ rfl).1
 have f1 := (br.all 1 _ rfl).1
 have f2 := (br.all 2 _ rfl).1
 have f3 := (br.all 3 _ rfl).1
 rw [show flO ⟨5, a, b, n, p⟩ = [(a, b)] from by simp [flO]]
 unfold opV
 clear br hbo
 go_enter Tryz.func81, Tryz.ntmps81
 go_wp2_with fail
 go_ret
 exact ⟨_, _, _, rfl, slf_one _ _ _ _, (unhide HB).alloc (unhide HB).size _⟩
set_option maxRecDepth 100000 in
set_option maxHeartbeats 8000000 in
theorem rfolds_6 (a b n : Int) (p : Nq) (w : World) :
  Calls Tryz.prog 81 #[opV ⟨6, a, b, n, p⟩] w (FlA w (flO ⟨6, a, b, n, p⟩)) := by
 obtain ⟨wo, hwo⟩ : ∃ x, w.alloc (.cells #[.int .i64 6, .int .i64 a, .int .i64 b, .int .i64 n, .bool p.g, .slice p.a p.n p.c, .slice p.b p.m p.d] 73) = x := ⟨_, rfl⟩
 have br : BoxP wo w.heap.size [.int .i64 6, .int .i64 a, .int .i64 b, .int .i64 n, .bool p.g, .slice p.a p.n p.c, .slice p.b p.m p.d] := by rw [← hwo]; exact BoxP.made _ _ _
 have hbo : Below w.heap.size w wo := by rw [← hwo]; exact (Below.refl _ _).alloc (Nat.le_refl _) _
 have HB := hide hbo
 have f0 := (br.all 0 _ rfl).1
 have f1 := (br.all 1 _ rfl).1
 have f2 := (br.all 2 _ rfl).1
 have f3 := (br.all 3 _ rfl).1
 rw [show flO ⟨6, a, b, n, p⟩ = [(a, b), (b, b)] from by simp [flO]]
 unfold opV
 clear br hbo
 go_enter Tryz.func81, Tryz.ntmps81
 go_wp2_with fail
 go_ret
 exact ⟨_, _, _, rfl, slf_two _ _ _ _ _ _, (unhide HB).alloc (unhide HB).size _⟩
set_option maxRecDepth 100000 in
set_option maxHeartbeats 8000000 in
theorem rfolds_8z (a b n : Int) (p : Nq) (w : World) (h0 : n = 0) :
  Calls Tryz.prog 81 #[opV ⟨8, a, b, n, p⟩] w (FlA w (flO ⟨8, a, b, n, p⟩)) := by
 obtain ⟨wo, hwo⟩ : ∃ x, w.alloc (.cells #[.int .i64 8, .int .i64 a, .int .i64 b, .int .i64 n, .bool p.g, .slice p.a p.n p.c, .slice p.b p.m p.d] 73) = x := ⟨_, rfl⟩
 have br : BoxP wo w.heap.size [.int .i64 8, .int .i64 a, .int .i64 b, .int .i64 n, .bool p.g, .slice p.a p.n p.c, .slice p.b p.m p.d] := by rw [← hwo]; exact BoxP.made _ _ _
 have hbo : Below w.heap.size w wo := by rw [← hwo]; exact (Below.refl _ _).alloc (Nat.le_refl _) _
 have HB := hide hbo
 have f0 := (br.all 0 _ rfl).1
 have f1 := (br.all 1 _ rfl).1
 have f2 := (br.all 2 _ rfl).1
 have f3 := (br.all 3 _ rfl).1
 rw [show flO ⟨8, a, b, n, p⟩ = [] from by simp [flO, h0]]
 have q0 : (n != 0) = false := by simpa using h0
 clear h0
 unfold opV
 clear br hbo
 go_enter Tryz.func81, Tryz.ntmps81
 go_wp2_with fail
 go_ret
 exact ⟨none, 0, 0, rfl, ⟨rfl, Nat.le_refl _, .inl rfl⟩, unhide HB⟩
set_option maxRecDepth 100000 in
set_option maxHeartbeats 8000000 in
theorem rfolds_8o (a b n : Int) (p : Nq) (w : World) (h1 : n = 1) :
  Calls Tryz.prog 81 #[opV ⟨8, a, b, n, p⟩] w (FlA w (flO ⟨8, a, b, n, p⟩)) := by
 obtain ⟨wo, hwo⟩ : ∃ x, w.alloc (.cells #[.int .i64 8, .int .i64 a, .int .i64 b, .int .i64 n, .bool p.g, .slice p.a p.n p.c, .slice p.b p.m p.d] 73) = x := ⟨_, rfl⟩
 have br : BoxP wo w.heap.size [.int .i64 8, .int .i64 a, .int .i64 b, .int .i64 n, .bool p.g, .slice p.a p.n p.c, .slice p.b p.m p.d] := by rw [← hwo]; exact BoxP.made _ _ _
 have hbo : Below w.heap.size w wo := by rw [← hwo]; exact (Below.refl _ _).alloc (Nat.le_refl _) _
 have HB := hide hbo
 have f0 := (br.all 0 _ rfl).1
 have f1 := (br.all 1 _ rfl).1
 have f2 := (br.all 2 _ rfl).1
 have f3 := (br.all 3 _ rfl).1
 rw [show flO ⟨8, a, b, n, p⟩ = [] from by simp [flO, h1]]
 have q0 : (n != 0) = true := by rw [h1]; rfl
 have q1 : (n != 1) = false := by simpa using h1
 clear h1
 unfold opV
 clear br hbo
 go_enter Tryz.func81, Tryz.ntmps81
 go_wp2_with fail
 go_ret
 exact ⟨none, 0, 0, rfl, ⟨rfl, Nat.le_refl _, .inl rfl⟩, unhide HB⟩
set_option maxRecDepth 100000 in
set_option maxHeartbeats 8000000 in
theorem rfolds_8 (a b n : Int) (p : Nq) (w : World) (h0 : n ≠ 0) (h1 : n ≠ 1) :
  Calls Tryz.prog 81 #[opV ⟨8, a, b, n, p⟩] w (FlA w (flO ⟨8, a, b, n, p⟩)) := by
 obtain ⟨wo, hwo⟩ : ∃ x, w.alloc (.cells #[.int .i64 8, .int .i64 a, .int .i64 b, .int .i64 n, .bool p.g, .slice p.a p.n p.c, .slice p.b p.m p.d] 73) = x := ⟨_, rfl⟩
 have br : BoxP wo w.heap.size [.int .i64 8, .int .i64 a, .int .i64 b, .int .i64 n, .bool p.g, .slice p.a p.n p.c, .slice p.b p.m p.d] := by rw [← hwo]; exact BoxP.made _ _ _
 have hbo : Below w.heap.size w wo := by rw [← hwo]; exact (Below.refl _ _).alloc (Nat.le_refl _) _
 have HB := hide hbo
 have f0 := (br.all 0 _ rfl).1
 have f1 := (br.all 1 _ rfl).1
 have f2 := (br.all 2 _ rfl).1
 have f3 := (br.all 3 _ rfl).1
 rw [show flO ⟨8, a, b, n, p⟩ = [(a, a)] from by simp [flO, h0, h1]]
 have q0 : (n != 0) = true := by simpa using h0
 have q1 : (n != 1) = true := by simpa using h1
 unfold opV
 clear br hbo
 go_enter Tryz.func81, Tryz.ntmps81
 go_wp2_with fail
 go_ret
 exact ⟨_, _, _, rfl, slf_one _ _ _ _, (unhide HB).alloc (unhide HB).size _⟩
theorem rfolds_any (o : On) (h1 : 1 ≤ o.k) (h8 : o.k ≤ 8) (w : World) : Calls Tryz.prog 81 #[opV o] w (FlA w (flO o)) := by
 obtain ⟨k, a, b, n, p⟩ := o
 simp only at h1 h8
 obtain ⟨j, rfl⟩ : ∃ j : Nat, k = (j : Int) := ⟨k.toNat, by omega⟩
 match j, (show 1 ≤ j by omega), (show j ≤ 8 by omega) with
 | 1, _, _ => exact rfolds_1 a b n p w
 | 2, _, _ => exact rfolds_2 a b n p w
 | 3, _, _ => exact rfolds_3 a b n p w
 | 4, _, _ => exact rfolds_4 a b n p w
 | 5, _, _ => exact rfolds_5 a b n p w
 | 6, _, _ => exact rfolds_6 a b n p w
 | 7, _, _ => exact rfolds_7 a b n p w
 | 8, _, _ =>
  by_cases h0 : n = 0
  ·exact rfolds_8z a b n p w h0
  ·by_cases h1 : n = 1
   ·exact rfolds_8o a b n p w h1
   ·exact rfolds_8 a b n p w h0 h1
end Go.Proofs.YtbbicappjicblaaGreatDoor
