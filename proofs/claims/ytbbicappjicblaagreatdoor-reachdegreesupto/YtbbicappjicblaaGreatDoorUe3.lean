/- Ub9 -/
import Derived.Test.YtbbicappjicblaaGreatDoorUc2
import Derived.Test.YtbbicappjicblaaGreatDoorUc5
import Derived.Test.YtbbicappjicblaaGreatDoorUb4
import Derived.Test.YtbbicappjicblaaGreatDoorUb7
import Derived.Test.YtbbicappjicblaaGreatDoorUb3
namespace Go.Proofs.YtbbicappjicblaaGreatDoor
open Go.RowKit Go.Deep
set_option linter.unusedVariables false
set_option linter.unusedSimpArgs false
theorem make_boolsC (n : Nat) (hn : n ≤ 1000000) (w : World) : (Instr.makeSlice 55 (.int .i64 0) (.int .i64 (n : Int))).run Tryz.prog w = .ok (.slice (some ⟨w.heap.size, 0, none⟩) 0 n) (w.alloc (.cells (madeCells #[.bool false] n) 4)) := by
 obtain ⟨i, hi, hz, hs, hb⟩ := info_parts Tryz.info_boolL
 have hr := run_make (P := Tryz.prog) w 55 4 i (.bool false) Tryz.underlying55 hi hz .i64 .i64 0 (n : Int) (by omega) (by omega) (by rw [hb]; omega) (by omega)
 rw [hs, Nat.mul_one] at hr
 simp only [Int.toNat_natCast, Int.toNat_zero] at hr
 exact hr
def LjA (w : World) (m : Nat) (f : Nat → Bool) (e : Ending) (w' : World) : Prop := ∃ g zc, e = .returned (.slice (some ⟨g, 0, none⟩) m zc) ∧ RoV w' g m (fun i => .bool (f i)) ∧ Below w.heap.size w w'
theorem own_mkB {w : World} {base n : Nat} {v : Value} {xs : List Bool} (h : w.ownsRow base 4 1 v n (xs.map Value.bool)) : ∃ a c, v = .slice a n c ∧ MkT w a n (fun i => xs.getD i false) := by
 have hl : xs.length = n := by have := h.1; simpa using this
 rcases h.2 with ⟨rfl, rfl⟩ | ⟨b, cap, cur, rfl, h4, h5, h6, h7, h8, h9⟩
 ·exact ⟨none, 0, rfl, fun v hv => by omega⟩
 ·refine ⟨_, _, rfl, fun i hi => ⟨b, rfl, ?_⟩⟩
  rw [cell_of_block h5]
  have : (cur.toList.take (n * 1))[i]? = (xs.map Value.bool)[i]? := by rw [h9]
  rw [List.getElem?_take_of_lt (by omega)] at this
  rw [← Array.getElem?_toList, this]
  have hi' : i < xs.length := by omega
  simp [List.getD, hi']
theorem MkT.below {w w' : World} {a : Option Addr} {k : Nat} {f : Nat → Bool} (h : MkT w a k f) (hb : Below w.heap.size w w') : MkT w' a k f := fun v hv => by
 obtain ⟨B, e, hc⟩ := h v hv
 exact ⟨B, e, (hb.cell (World.block_lt_of_cell? _ _ hc)).trans hc⟩
theorem MkT.congr {w : World} {a : Option Addr} {k : Nat} {f g : Nat → Bool} (h : MkT w a k f) (e : ∀ v, v < k → f v = g v) : MkT w a k g := fun v hv => by rw [← e v hv]; exact h v hv
set_option maxRecDepth 100000 in
set_option maxHeartbeats 16000000 in
theorem rstraight_any (I : Nat) (sa : Option Addr) (sc : Nat) (T : List Bs.SetC) (i : Int) (a : Option Addr) (n c : Nat) (os : List On) (tb : Option Addr) (m td : Nat) (ys : List Int) (la : Option Addr) (ln lc : Nat) (w : World) (hT : WkT I n T (hgF os n)) (hs : Bs.SlS w sa n sc T) (ho : SlO w a n c os) (hy : SlI w tb m td ys) (hk : TpOk (I : Int) os ys) :
  Calls Tryz.prog 37 #[wkV (I : Int) sa n sc i a n c tb m td la ln lc] w (LjA w m (fun j => !btF I os n (ys.getD j 0).toNat)) := by
 have hn := ho.len
 have hm := hy.len
 have hn2 : n ≤ 2048 := by have := hk.lo; omega
 have hm2 : m ≤ 64 := by have := hk.ly; omega
 have hm1 : 0 < m := by have := hk.ly; omega
 obtain ⟨wa, hwa⟩ : ∃ x, w.alloc (.cells #[.int .i64 (I : Int), .slice sa n sc, .int .i64 i, .slice a n c, .slice tb m td, .slice la ln lc] 63) = x := ⟨_, rfl⟩
 have bx : BoxP wa w.heap.size [.int .i64 (I : Int), .slice sa n sc, .int .i64 i, .slice a n c, .slice tb m td, .slice la ln lc] := by rw [← hwa]; exact BoxP.made _ _ _
 have hba : Below w.heap.size w wa := by rw [← hwa]; exact (Below.refl _ _).alloc (Nat.le_refl _) _
 have x0 := (bx.all 0 _ rfl).1
 have x1 := (bx.all 1 _ rfl).1
 have x2 := (bx.all 2 _ rfl).1
 have x3 := (bx.all 3 _ rfl).1
 have x4 := (bx.all 4 _ rfl).1
 have x5 := (bx.all 5 _ rfl).1
 have HMK := hide (fun W => make_boolsC m (by omega) W)
 have hmk := make_boolsC n (by omega) wa
 have hown := World.ownsRow_made (base := wa.heap.size) (e := 4) (size := 1) wa (madeCells #[.bool false] n) n (Nat.le_refl _) (by unfold maxLen; omega) (by simp [madeCells])
 obtain ⟨wm, hwm⟩ : ∃ x, wa.alloc (.cells (madeCells #[.bool false] n) 4) = x := ⟨_, rfl⟩
 have bm : Below wa.heap.size wa wm := by rw [← hwm]; exact (Below.refl _ _).alloc (Nat.le_refl _) _
 rw [hwm] at hmk hown
 have HG0 := hide (show GwB wa wm (.slice (some ⟨wa.heap.size, 0, none⟩) 0 n) [] from ⟨hown, bm⟩)
 have HB := hide hba
 have HS := hide (hs.below hba)
 have HO := hide (ho.below hba)
 have HY := hide (hy.below hba)
 have HK := hide hk
 have HT := hide hT
 have HN := hide hn
 have HM := hide hm
 have y0 := (bm.cell (World.block_lt_of_cell? _ _ x0)).trans x0
 have y1 := (bm.cell (World.block_lt_of_cell? _ _ x1)).trans x1
 have y2 := (bm.cell (World.block_lt_of_cell? _ _ x2)).trans x2
 have y3 := (bm.cell (World.block_lt_of_cell? _ _ x3)).trans x3
 have y4 := (bm.cell (World.block_lt_of_cell? _ _ x4)).trans x4
 have y5 := (bm.cell (World.block_lt_of_cell? _ _ x5)).trans x5
 obtain ⟨i1, hi, hz, hsi, hb⟩ := info_parts Tryz.info_boolL
 have HI := hide (And.intro hi (And.intro hz (And.intro hsi hb)))
 have hone : ∀ y : Bool, ∀ z ∈ [Value.bool y], z.oneCell' = true := by intro y z hz; simp at hz; subst hz; rfl
 unfold wkV
 clear bx hba hs ho hy hk hT hn hm hown bm hi hz hsi hb
 go_enter Tryz.func37, Tryz.ntmps37
 go_wp2_with fail
 go_loopw [18, 3] (fun kv dv wr => ∃ k : Nat, k ≤ n ∧ kv = .int .i64 (k : Int) ∧ Hid (GwB wa wr dv ((List.range k).map (btF I os k)))) (fun kv _ _ => n - (intOf kv).toNat)
 case atStart => exact ⟨0, Nat.zero_le _, rfl, by simpa using HG0⟩
 case round =>
  obtain ⟨k, hk, rfl, HG⟩ := hrel
  have x0 := ((unhide HG).bel.cell (World.block_lt_of_cell? _ _ x0)).trans x0
  have x1 := ((unhide HG).bel.cell (World.block_lt_of_cell? _ _ x1)).trans x1
  have x2 := ((unhide HG).bel.cell (World.block_lt_of_cell? _ _ x2)).trans x2
  have x3 := ((unhide HG).bel.cell (World.block_lt_of_cell? _ _ x3)).trans x3
  have x4 := ((unhide HG).bel.cell (World.block_lt_of_cell? _ _ x4)).trans x4
  have x5 := ((unhide HG).bel.cell (World.block_lt_of_cell? _ _ x5)).trans x5
  obtain ⟨da, dc, rfl, hmk0⟩ := own_mkB (unhide HG).own
  have hln : ((List.range k).map (btF I os k)).length = k := by simp
  rw [hln] at hmk0 HG ⊢
  have hmk1 := hmk0.congr (g := btF I os k) (fun v hv => by simp [List.getD, hv])
  by_cases hlt : k < n
  ·have hlt' : (k : Int) < (n : Int) := by omega
   obtain ⟨b1, off, o, rfl, ho, O, hok⟩ := ((unhide HO).below (unhide HG).bel).at' hlt
   obtain ⟨c0, c1, c2, c3, c4, c5, c6⟩ := O
   obtain ⟨W3, hW3⟩ : ∃ x, wr.alloc (.cells #[.int .i64 o.k, .int .i64 o.a, .int .i64 o.b, .int .i64 o.n, .bool o.p.g, .slice o.p.a o.p.n o.p.c, .slice o.p.b o.p.m o.p.d] 73) = x := ⟨_, rfl⟩
   have br : BoxP W3 wr.heap.size [.int .i64 o.k, .int .i64 o.a, .int .i64 o.b, .int .i64 o.n, .bool o.p.g, .slice o.p.a o.p.n o.p.c, .slice o.p.b o.p.m o.p.d] := by rw [← hW3]; exact BoxP.made _ _ _
   have b3 : Below wr.heap.size wr W3 := by rw [← hW3]; exact (Below.refl _ _).alloc (Nat.le_refl _) _
   have q0 := (br.all 0 _ rfl).1
   have q1 := (br.all 1 _ rfl).1
   have q2 := (br.all 2 _ rfl).1
   have q3 := (br.all 3 _ rfl).1
   have q4 := (br.all 4 _ rfl).1
   have q5 := (br.all 5 _ rfl).1
   have q6 := (br.all 6 _ rfl).1
   have z0 := (b3.cell (World.block_lt_of_cell? _ _ x0)).trans x0
   have z1 := (b3.cell (World.block_lt_of_cell? _ _ x1)).trans x1
   have z2 := (b3.cell (World.block_lt_of_cell? _ _ x2)).trans x2
   have z3 := (b3.cell (World.block_lt_of_cell? _ _ x3)).trans x3
   have z4 := (b3.cell (World.block_lt_of_cell? _ _ x4)).trans x4
   have z5 := (b3.cell (World.block_lt_of_cell? _ _ x5)).trans x5
   have hop := op_ok ((unhide HK).op k o ho)
   have K := rjoins_any I sa n sc T (hgF os n) i (some ⟨b1, off, none⟩) n c tb m td la ln lc o W3 (unhide HT) (((unhide HS).below (unhide HG).bel).below b3) hop.1.1 hop.1.2 (fun v hv => by have := hop.2.1 v hv; omega)
   unfold opV wkV at K
   have hjs : jnO (fun v => mvP I (hgF os n v)) o = jnO (mvF I os k) o := by
    rw [← jnO_stay (unhide HK) ho, unhide HN]
    rfl
   rw [hjs] at K
   have HNX := hide (show btF I os (k + 1) k = (jnO (mvF I os k) o || (opsL o).any (fun a => btF I os k a.toNat)) from by rw [btF_next ho, if_pos rfl])
   have HMT := hide (fun (W : World) (hb : Below W3.heap.size W3 W) (z : Option Addr) (m1 c1 : Nat) (hz : SlI W z m1 c1 (opsL o)) (h2 : m1 ≤ 2) => ranyOf_any da k dc (btF I os k) z m1 c1 (opsL o) W ((hmk1.below b3).below hb) hz (fun v hv => by have := hop.2.1 v hv; omega) (by omega) h2)
   have HRO := hide (roperands_any o hop.1.1 hop.1.2)
   unfold opV at HRO
   have hmo : (opsL o).length ≤ 2 := opsL_len o
   have HLL := hide (show ∀ x, btF I os (k + 1) k = x → (List.range (k + 1)).map (btF I os (k + 1)) = (List.range k).map (btF I os k) ++ [x] from fun x hx => by
    rw [List.range_succ, List.map_append, List.map_cons, List.map_nil, hx]
    congr 1
    exact List.map_congr_left (fun v hv => btF_stay I os v k (by simpa using hv) (k + 1) (by omega)))
   have HD := hide K
   have HG3 := hide (show GwB wa W3 (.slice da k dc) ((List.range k).map (btF I os k)) from ⟨by rw [hln]; exact ownsRow_chg (S := fun _ => False) (by have := (unhide HG).own; rw [hln] at this; exact this) (Chg.of_below b3) (fun _ _ x => x), (unhide HG).bel.trans (b3.mono (unhide HG).bel.size)⟩)
   obtain ⟨S, hS⟩ : ∃ S, (List.range k).map (btF I os k) = S := ⟨_, rfl⟩
   rw [hS] at HG3 HLL hln
   clear K hS hmk0 hmk1 ho hok br b3 HG hop hjs
   cases hj : jnO (mvF I os k) o
   ·rw [hj] at HD HNX
    rw [Bool.false_or] at HNX
    obtain ⟨X, hX⟩ : ∃ X, (opsL o).any (fun a => btF I os k a.toNat) = X := ⟨_, rfl⟩
    rw [hX] at HMT HNX
    have HL := hide (unhide HLL X (unhide HNX))
    clear hj hX HLL HNX
    go_wp2_with fail
    refine (unhide HD).mono ?_
    rintro _ w3 ⟨rfl, b3⟩
    have HG3 := hide ((unhide HG3).chg b3)
    have HB3 := hide b3
    have q0 := (b3.cell (World.block_lt_of_cell? _ _ q0)).trans q0
    have q1 := (b3.cell (World.block_lt_of_cell? _ _ q1)).trans q1
    have q2 := (b3.cell (World.block_lt_of_cell? _ _ q2)).trans q2
    have q3 := (b3.cell (World.block_lt_of_cell? _ _ q3)).trans q3
    have q4 := (b3.cell (World.block_lt_of_cell? _ _ q4)).trans q4
    have q5 := (b3.cell (World.block_lt_of_cell? _ _ q5)).trans q5
    have q6 := (b3.cell (World.block_lt_of_cell? _ _ q6)).trans q6
    clear b3 HD
    go_wp2_with fail
    refine (unhide HRO _).mono ?_
    rintro _ w4 ⟨z, m1, c1', rfl, hz, _, b4⟩
    have hm1l := hz.len
    have KA := unhide HMT w4 ((unhide HB3).trans (b4.mono (unhide HB3).size)) z m1 c1' hz (by omega)
    have HKA := hide KA
    have HG4 := hide ((unhide HG3).chg b4)
    clear b4 KA HRO HMT hz
    go_wp2_with fail
    refine (unhide HKA).mono ?_
    rintro _ w4' ⟨rfl, hw4⟩
    obtain rfl := hw4.symm
    clear HKA
    have hle := (unhide HG4).bel.size
    have hmx : S.length + 1 ≤ maxLen := by unfold maxLen; omega
    have hby : (S.length + 1) * 1 ≤ 140737488355328 := by omega
    go_wp2_with (at_builtin; refine wpList_append_lies _ rfl _ _ 55 rfl wa.heap.size 4 i1 (.bool false) 1 1 Tryz.underlying55 (unhide HI).1 (unhide HI).2.1 (unhide HI).2.2.1 (unhide HI).2.2.2 rfl (by decide) _ S.length (S.map Value.bool) rfl ((unhide HG4).own.alloc _) ⟨w4.heap.size, 0, none⟩ 1 1 [.bool X] rfl rfl (World.news_of_block (alloc_block _ _)) (hone _) (by decide) hmx hby (by simp; omega) (w4.heap.size + 1) (by simp) ?_)
    intro g5 cap5 w5 hown hg5 hat hlt5
    have HN5 := hide (GwB.app (unhide HG4) _ (by rw [hln]; exact hown) hg5)
    rw [← unhide HL, hln] at HN5
    clear hown hg5 hat hlt5
    go_wp2_with fail
    exact ⟨⟨k + 1, by omega, by (first | rfl | go_num), HN5⟩, by simp [intOf]; omega⟩
   ·rw [hj] at HD HNX
    rw [Bool.true_or] at HNX
    have HL := hide (unhide HLL true (unhide HNX))
    clear hj HLL HNX HMT HRO
    go_wp2_with fail
    refine (unhide HD).mono ?_
    rintro _ w4 ⟨rfl, b3⟩
    have HG4 := hide ((unhide HG3).chg b3)
    clear b3 HD
    have hle := (unhide HG4).bel.size
    have hmx : S.length + 1 ≤ maxLen := by unfold maxLen; omega
    have hby : (S.length + 1) * 1 ≤ 140737488355328 := by omega
    go_wp2_with (at_builtin; refine wpList_append_lies _ rfl _ _ 55 rfl wa.heap.size 4 i1 (.bool false) 1 1 Tryz.underlying55 (unhide HI).1 (unhide HI).2.1 (unhide HI).2.2.1 (unhide HI).2.2.2 rfl (by decide) _ S.length (S.map Value.bool) rfl ((unhide HG4).own.alloc _) ⟨w4.heap.size, 0, none⟩ 1 1 [.bool true] rfl rfl (World.news_of_block (alloc_block _ _)) (hone _) (by decide) hmx hby (by simp; omega) (w4.heap.size + 1) (by simp) ?_)
    intro g5 cap5 w5 hown hg5 hat hlt5
    have HN5 := hide (GwB.app (unhide HG4) _ (by rw [hln]; exact hown) hg5)
    rw [← unhide HL, hln] at HN5
    clear hown hg5 hat hlt5
    go_wp2_with fail
    exact ⟨⟨k + 1, by omega, by (first | rfl | go_num), HN5⟩, by simp [intOf]; omega⟩
  ·obtain rfl : k = n := by omega
   have hlt' : ¬ (k : Int) < (k : Int) := by omega
   have hmk' := unhide HMK wr
   have hown' := World.ownsRow_made (base := wr.heap.size) (e := 4) (size := 1) wr (madeCells #[.bool false] m) m (Nat.le_refl _) (by unfold maxLen; omega) (by simp [madeCells])
   obtain ⟨ws, hws⟩ : ∃ x, wr.alloc (.cells (madeCells #[.bool false] m) 4) = x := ⟨_, rfl⟩
   have bs : Below wr.heap.size wr ws := by rw [← hws]; exact (Below.refl _ _).alloc (Nat.le_refl _) _
   rw [hws] at hmk' hown'
   have HG2 := hide (show GwB wr ws (.slice (some ⟨wr.heap.size, 0, none⟩) 0 m) [] from ⟨hown', bs⟩)
   have HBR := hide (unhide HG).bel
   have v0 := (bs.cell (World.block_lt_of_cell? _ _ x0)).trans x0
   have v1 := (bs.cell (World.block_lt_of_cell? _ _ x1)).trans x1
   have v2 := (bs.cell (World.block_lt_of_cell? _ _ x2)).trans x2
   have v3 := (bs.cell (World.block_lt_of_cell? _ _ x3)).trans x3
   have v4 := (bs.cell (World.block_lt_of_cell? _ _ x4)).trans x4
   have v5 := (bs.cell (World.block_lt_of_cell? _ _ x5)).trans x5
   have HMT := hide hmk1
   obtain ⟨w0, hw0⟩ : ∃ x, x = wr := ⟨_, rfl⟩
   subst hw0
   clear hmk0 hmk1 hown' bs HG
   go_wp2_with fail
   go_loopw [44, 6] (fun jv zv wr' => ∃ j : Nat, j ≤ m ∧ jv = .int .i64 (j : Int) ∧ Hid (GwB w0 wr' zv ((ys.take j).map (fun y => !btF I os k y.toNat)))) (fun jv _ _ => m - (intOf jv).toNat)
   case atStart => exact ⟨0, Nat.zero_le _, rfl, by simpa using HG2⟩
   case round =>
    obtain ⟨j, hj, rfl, HG⟩ := hrel
    have hl2 : ((ys.take j).map (fun y => !btF I os k y.toNat)).length = j := by have := unhide HM; simp; omega
    by_cases hjl : j < m
    ·have hjl' : (j : Int) < (m : Int) := by omega
     have hbw := (unhide HBR).trans ((unhide HG).bel.mono (unhide HBR).size)
     obtain ⟨B, of, rfl, hcY⟩ := ((unhide HY).below hbw).at hm1
     have sk := hcY j hjl
     have hym : ys.getD j 0 ∈ ys := by
      have hl : j < ys.length := by have := unhide HM; omega
      rw [List.getD_eq_getElem?_getD, List.getElem?_eq_getElem hl]
      exact List.getElem_mem hl
     have hyr := (unhide HK).out _ hym
     obtain ⟨y, hyy⟩ : ∃ y : Nat, ys.getD j 0 = (y : Int) := ⟨(ys.getD j 0).toNat, by omega⟩
     rw [hyy] at hyr sk
     have hyk : y < k := by have := unhide HN; omega
     have hyk' : (y : Int) < (k : Int) := by omega
     obtain ⟨Bb, rfl, hbb⟩ := ((unhide HMT).below (unhide HG).bel) y hyk
     have HL := hide (show (ys.take (j + 1)).map (fun y => !btF I os k y.toNat) = (ys.take j).map (fun y => !btF I os k y.toNat) ++ [!btF I os k y] from by
      rw [take_next (by have := unhide HM; omega), hyy]; simp)
     obtain ⟨X, hX⟩ : ∃ X, btF I os k y = X := ⟨_, rfl⟩
     rw [hX] at hbb HL
     obtain ⟨S, hS⟩ : ∃ S, (ys.take j).map (fun y => !btF I os k y.toNat) = S := ⟨_, rfl⟩
     rw [hS] at HG HL hl2
     have hle := (unhide HG).bel.size
     have hmx : S.length + 1 ≤ maxLen := by unfold maxLen; omega
     have hby : (S.length + 1) * 1 ≤ 140737488355328 := by omega
     clear hcY hym hyr hyy hX hS hbw
     go_wp2_with (at_builtin; refine wpList_append_lies _ rfl _ _ 55 rfl w0.heap.size 4 i1 (.bool false) 1 1 Tryz.underlying55 (unhide HI).1 (unhide HI).2.1 (unhide HI).2.2.1 (unhide HI).2.2.2 rfl (by decide) _ S.length (S.map Value.bool) rfl ((unhide HG).own.alloc _) ⟨wr.heap.size, 0, none⟩ 1 1 [.bool (!X)] rfl rfl (World.news_of_block (alloc_block _ _)) (hone _) (by decide) hmx hby (by simp; omega) (wr.heap.size + 1) (by simp) ?_)
     intro g5 cap5 w5 hown hg5 hat hlt5
     have HN5 := hide (GwB.app (unhide HG) _ (by rw [hl2]; exact hown) hg5)
     rw [← unhide HL, hl2] at HN5
     clear hown hg5 hat hlt5
     go_wp2_with fail
     exact ⟨⟨j + 1, by omega, by (first | rfl | go_num), HN5⟩, by simp [intOf]; omega⟩
    ·obtain rfl : j = m := by omega
     have hjl' : ¬ (j : Int) < (j : Int) := by omega
     have hsn : (ys.take j).map (fun y => !btF I os k y.toNat) = ys.map (fun y => !btF I os k y.toNat) := by rw [List.take_of_length_le (by have := unhide HM; omega)]
     rw [hsn] at HG
     obtain ⟨g, zc, rfl, hg, hrv⟩ := (unhide HG).rov (by
      intro e
      have := congrArg List.length e
      rw [List.length_map, unhide HM] at this
      simp at this
      omega)
     rw [List.length_map, unhide HM] at hrv ⊢
     have HRV := hide (hrv.congr (g := fun q => .bool (!btF I os k (ys.getD q 0).toNat)) (fun q hq => by
      have hl : q < ys.length := by have := unhide HM; omega
      simp [List.getD, hl]))
     have HEND := hide ((unhide HB).trans (((unhide HBR).trans ((unhide HG).bel.mono (unhide HBR).size)).mono (unhide HB).size))
     clear hrv hsn
     go_wp2_with fail
     go_ret
     exact ⟨g, zc, rfl, unhide HRV, unhide HEND⟩
def RdA (w : World) (I : Nat) (n : Nat) (os : List On) (m : Nat) (ys : List Int) (e : Ending) (w' : World) : Prop := ∃ z zc, e = .returned (.tuple #[.slice z n zc, .int .i64 0, .int .i64 0]) ∧ SlI w' z n zc ((List.range n).map (dgF I os n)) ∧ (∀ y, z = some y → w.heap.size ≤ y.block) ∧ Below w.heap.size w w'
set_option maxRecDepth 100000 in
set_option maxHeartbeats 16000000 in
theorem rDegree_yes (I : Nat) (a : Option Addr) (n c : Nat) (os : List On) (b : Option Addr) (m d : Nat) (ys : List Int) (w : World) (hs : SlO w a n c os) (hy : SlI w b m d ys) (hT : Tab64 w) (hS : TabSh w) (he : (chF (I : Int) os ys).2 = 0) :
  Calls Tryz.prog 13 #[tapV (I : Int) a n c b m d] w (RdA w I n os m ys) := by
 have hk := TpOk.of he
 obtain ⟨wa, hwa⟩ : ∃ x, w.alloc (.cells #[.int .i64 (I : Int), .slice a n c, .slice b m d] 25) = x := ⟨_, rfl⟩
 have bx : BoxP wa w.heap.size [.int .i64 (I : Int), .slice a n c, .slice b m d] := by rw [← hwa]; exact BoxP.made _ _ _
 have hba : Below w.heap.size w wa := by rw [← hwa]; exact (Below.refl _ _).alloc (Nat.le_refl _) _
 have x0 := (bx.all 0 _ rfl).1
 have x1 := (bx.all 1 _ rfl).1
 have x2 := (bx.all 2 _ rfl).1
 have KC := rclimb_yes I a n c os b m d ys wa (hs.below hba) (hy.below hba) (hT.below hba) (hS.below hba) he
 have HC := hide KC
 have HB := hide hba
 have HS := hide (hs.below hba)
 have HY := hide (hy.below hba)
 have HK := hide hk
 unfold tapV at HC ⊢
 clear bx hba KC hs hy hT hS he hk
 go_enter Tryz.func13, Tryz.ntmps13
 go_wp2_with fail
 refine (unhide HC).mono ?_
 rintro _ w1 ⟨sa, sc, T, g, rfl, hwk, hst, hrv, b1⟩
 unfold wkV
 have HW := hide hwk
 have HST := hide hst
 have HB1 := hide b1
 clear hwk hst hrv b1 HC
 try dsimp only
 repeat ((fail_if_success (with_reducible (show Code.wp _ _ _ _ (World.alloc w1 (Obj.cells #[_, _, _, _, _, .slice (some ⟨g, 0, none⟩) n n] _))))); (first | go_values | go_skip | go_guarded | go_step | go_upon | go_back))
 have bW : BoxP (w1.alloc (.cells #[.int .i64 (I : Int), .slice sa n sc, .int .i64 (I : Int), .slice a n c, .slice b m d, .slice (some ⟨g, 0, none⟩) n n] 63)) w1.heap.size [.int .i64 (I : Int), .slice sa n sc, .int .i64 (I : Int), .slice a n c, .slice b m d, .slice (some ⟨g, 0, none⟩) n n] := BoxP.made _ _ _
 have hbW : Below w1.heap.size w1 (w1.alloc (.cells #[.int .i64 (I : Int), .slice sa n sc, .int .i64 (I : Int), .slice a n c, .slice b m d, .slice (some ⟨g, 0, none⟩) n n] 63)) := (Below.refl _ _).alloc (Nat.le_refl _) _
 generalize w1.alloc (.cells #[.int .i64 (I : Int), .slice sa n sc, .int .i64 (I : Int), .slice a n c, .slice b m d, .slice (some ⟨g, 0, none⟩) n n] 63) = W2 at *
 have e0 := (bW.all 0 _ rfl).1
 have e1 := (bW.all 1 _ rfl).1
 have e2 := (bW.all 2 _ rfl).1
 have e3 := (bW.all 3 _ rfl).1
 have e4 := (bW.all 4 _ rfl).1
 have e5 := (bW.all 5 _ rfl).1
 have hb2 := (unhide HB1).trans (hbW.mono (unhide HB1).size)
 have KD := rdegrees_any I sa sc T (I : Int) a n c os ys b m d (some ⟨g, 0, none⟩) n n W2 (unhide HW) ((unhide HST).below hbW) ((unhide HS).below hb2) (unhide HK)
 have HD := hide KD
 have HB2 := hide ((unhide HB).trans (hb2.mono (unhide HB).size))
 unfold wkV at HD
 clear bW hbW hb2 KD HST
 go_wp2_with fail
 refine (unhide HD).mono ?_
 rintro _ w3 ⟨z, zc, rfl, hz, hf, b3⟩
 have HF := hide (show ∀ y, z = some y → w.heap.size ≤ y.block from fun y e => by have h1 := hf y e; have h2 := (unhide HB2).size; omega)
 clear hf
 have HZ := hide hz
 have HE := hide ((unhide HB2).trans (b3.mono (unhide HB2).size))
 clear hz b3 HD
 go_wp2_with fail
 try go_ret3
 exact ⟨z, zc, rfl, unhide HZ, unhide HF, unhide HE⟩
set_option maxRecDepth 100000 in
set_option maxHeartbeats 16000000 in
theorem rDegree_no (i : Int) (a : Option Addr) (n c : Nat) (os : List On) (b : Option Addr) (m d : Nat) (ys : List Int) (w : World) (hs : SlO w a n c os) (hy : SlI w b m d ys) (hT : Tab64 w) (hS : TabSh w) (he : (chF i os ys).2 ≠ 0) :
  Calls Tryz.prog 13 #[tapV i a n c b m d] w fun e w' => e = .returned (.tuple #[.slice none 0 0, .int .i64 (chF i os ys).1, .int .i64 (chF i os ys).2]) ∧ Below w.heap.size w w' := by
 obtain ⟨wa, hwa⟩ : ∃ x, w.alloc (.cells #[.int .i64 i, .slice a n c, .slice b m d] 25) = x := ⟨_, rfl⟩
 have bx : BoxP wa w.heap.size [.int .i64 i, .slice a n c, .slice b m d] := by rw [← hwa]; exact BoxP.made _ _ _
 have hba : Below w.heap.size w wa := by rw [← hwa]; exact (Below.refl _ _).alloc (Nat.le_refl _) _
 have x0 := (bx.all 0 _ rfl).1
 have x1 := (bx.all 1 _ rfl).1
 have x2 := (bx.all 2 _ rfl).1
 have KC := rclimb_no i a n c os b m d ys wa (hs.below hba) (hy.below hba) (hT.below hba) (hS.below hba) he
 obtain ⟨z, hz⟩ : ∃ z, (chF i os ys).2 = z := ⟨_, rfl⟩
 obtain ⟨z1, hz1⟩ : ∃ z, (chF i os ys).1 = z := ⟨_, rfl⟩
 rw [hz, hz1] at KC
 rw [hz] at he ⊢
 rw [hz1]
 have he' : (z != 0) = true := by simpa using he
 have HC := hide KC
 have HB := hide hba
 unfold tapV at HC ⊢
 clear bx hba KC hs hy hT hS he hz hz1
 go_enter Tryz.func13, Tryz.ntmps13
 go_wp2_with fail
 refine (unhide HC).mono ?_
 rintro _ w1 ⟨rfl, b1⟩
 have HB1 := hide ((unhide HB).trans (b1.mono (unhide HB).size))
 clear b1 HC
 try dsimp only
 repeat ((fail_if_success (with_reducible (show Code.wp _ _ _ _ (World.alloc w1 (Obj.cells #[_, _, _, _, _, _] _))))); (first | go_values | go_skip | go_guarded | go_step | go_upon | go_back))
 have hbW : Below w1.heap.size w1 (w1.alloc (.cells #[.int .i64 0, .slice none 0 0, .int .i64 0, .slice none 0 0, .slice none 0 0, .slice none 0 0] 63)) := (Below.refl _ _).alloc (Nat.le_refl _) _
 generalize w1.alloc (.cells #[.int .i64 0, .slice none 0 0, .int .i64 0, .slice none 0 0, .slice none 0 0, .slice none 0 0] 63) = W2 at *
 have HE := hide ((unhide HB1).trans (hbW.mono (unhide HB1).size))
 clear hbW
 go_wp2_with fail
 try go_ret3
 exact ⟨rfl, unhide HE⟩
def RlA (w : World) (I : Nat) (n : Nat) (os : List On) (m : Nat) (ys : List Int) (e : Ending) (w' : World) : Prop := ∃ g zc, e = .returned (.tuple #[.slice (some ⟨g, 0, none⟩) m zc, .int .i64 0, .int .i64 0]) ∧ RoV w' g m (fun i => .bool (!btF I os n (ys.getD i 0).toNat)) ∧ Below w.heap.size w w'
set_option maxRecDepth 100000 in
set_option maxHeartbeats 16000000 in
theorem rLinear_yes (I : Nat) (a : Option Addr) (n c : Nat) (os : List On) (b : Option Addr) (m d : Nat) (ys : List Int) (w : World) (hs : SlO w a n c os) (hy : SlI w b m d ys) (hT : Tab64 w) (hS : TabSh w) (he : (chF (I : Int) os ys).2 = 0) :
  Calls Tryz.prog 15 #[tapV (I : Int) a n c b m d] w (RlA w I n os m ys) := by
 have hk := TpOk.of he
 obtain ⟨wa, hwa⟩ : ∃ x, w.alloc (.cells #[.int .i64 (I : Int), .slice a n c, .slice b m d] 25) = x := ⟨_, rfl⟩
 have bx : BoxP wa w.heap.size [.int .i64 (I : Int), .slice a n c, .slice b m d] := by rw [← hwa]; exact BoxP.made _ _ _
 have hba : Below w.heap.size w wa := by rw [← hwa]; exact (Below.refl _ _).alloc (Nat.le_refl _) _
 have x0 := (bx.all 0 _ rfl).1
 have x1 := (bx.all 1 _ rfl).1
 have x2 := (bx.all 2 _ rfl).1
 have KC := rclimb_yes I a n c os b m d ys wa (hs.below hba) (hy.below hba) (hT.below hba) (hS.below hba) he
 have HC := hide KC
 have HB := hide hba
 have HS := hide (hs.below hba)
 have HY := hide (hy.below hba)
 have HK := hide hk
 unfold tapV at HC ⊢
 clear bx hba KC hs hy hT hS he hk
 go_enter Tryz.func15, Tryz.ntmps15
 go_wp2_with fail
 refine (unhide HC).mono ?_
 rintro _ w1 ⟨sa, sc, T, g, rfl, hwk, hst, hrv, b1⟩
 unfold wkV
 have HW := hide hwk
 have HST := hide hst
 have HB1 := hide b1
 clear hwk hst hrv b1 HC
 try dsimp only
 repeat ((fail_if_success (with_reducible (show Code.wp _ _ _ _ (World.alloc w1 (Obj.cells #[_, _, _, _, _, .slice (some ⟨g, 0, none⟩) n n] _))))); (first | go_values | go_skip | go_guarded | go_step | go_upon | go_back))
 have bW : BoxP (w1.alloc (.cells #[.int .i64 (I : Int), .slice sa n sc, .int .i64 (I : Int), .slice a n c, .slice b m d, .slice (some ⟨g, 0, none⟩) n n] 63)) w1.heap.size [.int .i64 (I : Int), .slice sa n sc, .int .i64 (I : Int), .slice a n c, .slice b m d, .slice (some ⟨g, 0, none⟩) n n] := BoxP.made _ _ _
 have hbW : Below w1.heap.size w1 (w1.alloc (.cells #[.int .i64 (I : Int), .slice sa n sc, .int .i64 (I : Int), .slice a n c, .slice b m d, .slice (some ⟨g, 0, none⟩) n n] 63)) := (Below.refl _ _).alloc (Nat.le_refl _) _
 generalize w1.alloc (.cells #[.int .i64 (I : Int), .slice sa n sc, .int .i64 (I : Int), .slice a n c, .slice b m d, .slice (some ⟨g, 0, none⟩) n n] 63) = W2 at *
 have e0 := (bW.all 0 _ rfl).1
 have e1 := (bW.all 1 _ rfl).1
 have e2 := (bW.all 2 _ rfl).1
 have e3 := (bW.all 3 _ rfl).1
 have e4 := (bW.all 4 _ rfl).1
 have e5 := (bW.all 5 _ rfl).1
 have hb2 := (unhide HB1).trans (hbW.mono (unhide HB1).size)
 have KD := rstraight_any I sa sc T (I : Int) a n c os b m d ys (some ⟨g, 0, none⟩) n n W2 (unhide HW) ((unhide HST).below hbW) ((unhide HS).below hb2) ((unhide HY).below hb2) (unhide HK)
 have HD := hide KD
 have HB2 := hide ((unhide HB).trans (hb2.mono (unhide HB).size))
 unfold wkV at HD
 clear bW hbW hb2 KD HST
 go_wp2_with fail
 refine (unhide HD).mono ?_
 rintro _ w3 ⟨z, zc, rfl, hz, b3⟩
 have HZ := hide hz
 have HE := hide ((unhide HB2).trans (b3.mono (unhide HB2).size))
 clear hz b3 HD
 go_wp2_with fail
 try go_ret3
 exact ⟨z, zc, rfl, unhide HZ, unhide HE⟩
set_option maxRecDepth 100000 in
set_option maxHeartbeats 16000000 in
theorem rLinear_no (i : Int) (a : Option Addr) (n c : Nat) (os : List On) (b : Option Addr) (m d : Nat) (ys : List Int) (w : World) (hs : SlO w a n c os) (hy : SlI w b m d ys) (hT : Tab64 w) (hS : TabSh w) (he : (chF i os ys).2 ≠ 0) :
  Calls Tryz.prog 15 #[tapV i a n c b m d] w fun e w' => e = .returned (.tuple #[.slice none 0 0, .int .i64 (chF i os ys).1, .int .i64 (chF i os ys).2]) ∧ Below w.heap.size w w' := by
 obtain ⟨wa, hwa⟩ : ∃ x, w.alloc (.cells #[.int .i64 i, .slice a n c, .slice b m d] 25) = x := ⟨_, rfl⟩
 have bx : BoxP wa w.heap.size [.int .i64 i, .slice a n c, .slice b m d] := by rw [← hwa]; exact BoxP.made _ _ _
 have hba : Below w.heap.size w wa := by rw [← hwa]; exact (Below.refl _ _).alloc (Nat.le_refl _) _
 have x0 := (bx.all 0 _ rfl).1
 have x1 := (bx.all 1 _ rfl).1
 have x2 := (bx.all 2 _ rfl).1
 have KC := rclimb_no i a n c os b m d ys wa (hs.below hba) (hy.below hba) (hT.below hba) (hS.below hba) he
 obtain ⟨z, hz⟩ : ∃ z, (chF i os ys).2 = z := ⟨_, rfl⟩
 obtain ⟨z1, hz1⟩ : ∃ z, (chF i os ys).1 = z := ⟨_, rfl⟩
 rw [hz, hz1] at KC
 rw [hz] at he ⊢
 rw [hz1]
 have he' : (z != 0) = true := by simpa using he
 have HC := hide KC
 have HB := hide hba
 unfold tapV at HC ⊢
 clear bx hba KC hs hy hT hS he hz hz1
 go_enter Tryz.func15, Tryz.ntmps15
 go_wp2_with fail
 refine (unhide HC).mono ?_
 rintro _ w1 ⟨rfl, b1⟩
 have HB1 := hide ((unhide HB).trans (b1.mono (unhide HB).size))
 clear b1 HC
 try dsimp only
 repeat ((fail_if_success (with_reducible (show Code.wp _ _ _ _ (World.alloc w1 (Obj.cells #[_, _, _, _, _, _] _))))); (first | go_values | go_skip | go_guarded | go_step | go_upon | go_back))
 have hbW : Below w1.heap.size w1 (w1.alloc (.cells #[.int .i64 0, .slice none 0 0, .int .i64 0, .slice none 0 0, .slice none 0 0, .slice none 0 0] 63)) := (Below.refl _ _).alloc (Nat.le_refl _) _
 generalize w1.alloc (.cells #[.int .i64 0, .slice none 0 0, .int .i64 0, .slice none 0 0, .slice none 0 0, .slice none 0 0] 63) = W2 at *
 have HE := hide ((unhide HB1).trans (hbW.mono (unhide HB1).size))
 clear hbW
 go_wp2_with fail
 try go_ret3
 exact ⟨rfl, unhide HE⟩
set_option maxHeartbeats 4000000 in
theorem num10_any (x : Int) (w : World) : Calls Tryz.prog 10 #[.int .i64 x] w fun e w' => e = .returned (.int .i64 x) ∧ w' = w := by
 go_enter Tryz.func10, Tryz.ntmps10
 go_wp2_with fail
 try go_ret
 exact ⟨rfl, rfl⟩
end Go.Proofs.YtbbicappjicblaaGreatDoor
namespace Go.Proofs.YtbbicappjicblaaGreatDoor
open Go.RowKit Go.Deep
set_option linter.unusedVariables false
structure GtK (w0 wr : World) (B K N M : Nat) : Prop where
 giv : ∃ f es is ts, GvT wr B f (fun _ => False) es is ts ∧ (∀ t ∈ ts, Tn.os t = [] ∨ (Tn.os t).length ≤ 140737488355328) ∧ es.length ≤ K * (2 * N) ∧ is.length ≤ K ∧ ts.length ≤ K ∧ (∀ k, GO B f k → w0.heap.size ≤ k ∧ k < M)
theorem GtK.made {w0 w : World} (h0 : Below w0.heap.size w0 w) (N : Nat) : GtK w0 (w.alloc givO) w.heap.size 0 N (w.heap.size + 1) := by
 have hG := GvT.made w
 refine ⟨_, [], [], [], hG, (fun t ht => by cases ht), by simp, by simp, by simp, fun k hk => ?_⟩
 have := hG.gv.go_lt hk
 have h1 := hG.gv.go_ge hk
 exact ⟨by have := h0.size; omega, by simpa using this⟩
theorem GtK.below {w0 w w' : World} {B K N M : Nat} (h : GtK w0 w B K N M) (k : Below w.heap.size w w') : GtK w0 w' B K N M := by
 obtain ⟨f, es, is, ts, h1, h2, h3, h4, h5, h6⟩ := h.giv
 exact ⟨f, es, is, ts, h1.below k, h2, h3, h4, h5, h6⟩
theorem gtape_law2 {w w0 : World} {B K N M : Nat} (h0 : Below w0.heap.size w0 w) (hB : w0.heap.size ≤ B) (hG : GtK w0 w B K N M) (hK : K ≤ 1) (hN : N ≤ 1048576) {i : Int} {a : Option Addr} {c : Nat} {os : List On} {b : Option Addr} {m d : Nat} {ys : List Int} (hZ : TapZ w0 a N c os b m d ys) :
  Calls Tryz.prog 6 #[.pointer (some ⟨B, 0, none⟩), tapV i a N c b m d] w fun e w' => ∃ v, e = .returned v ∧ (∃ (A : Nat) (c : Nat) (qs : List On) (b : Nat) (d : Nat), v = tapV i (some ⟨A, 0, none⟩) N c (some ⟨b, 0, none⟩) m d ∧ SlO w' (some ⟨A, 0, none⟩) N c qs ∧ SlI w' (some ⟨b, 0, none⟩) m d ys ∧ qs.map conO = os.map conO) ∧ GtK w0 w' B (K + 1) N w'.heap.size ∧ Below w0.heap.size w0 w' ∧ Chg (fun k => w0.heap.size ≤ k ∧ k < M) w w' := by
 obtain ⟨f0, es, is, ts, hv, h2, h3, h4, h5, h6⟩ := hG.giv
 have hKN : K * (2 * N) ≤ 2 * N := by
  rcases (show K = 0 ∨ K = 1 by omega) with rfl | rfl <;> omega
 refine (gtape_any hv h0 hB i a N c os b m d ys hZ.o hZ.i (by omega) hZ.lm hZ.sz (by omega) (by omega) (by omega)).mono ?_
 rintro e w' ⟨T, E, f', fs, rfl, hE, hT1, hT2, hfs, hg, hch⟩
 have hb : Below w0.heap.size w0 w' := h0.trans (hch.below (B := w0.heap.size) h0.size (fun k hk e => by have := (h6 k e).1; omega))
 have ht := (hg.t T (by simp)).1
 have hso := ht.1.1.fil.slo rfl ht.1.1.le ht.1.1.each
 rw [hT1] at hso
 have hlen := hZ.o.len
 have hi := (hg.i E (by simp)).1
 refine ⟨_, rfl, ⟨_, _, T.os.take N, _, _, rfl, hso.front (by omega), hi.1.1.front hE hZ.i.len, by rw [hT2]⟩, ⟨_, _, _, _, hg, fun t ht => ?_, ?_, by simp; omega, by simp; omega, fun k hk => ⟨by have := hg.gv.go_ge hk; omega, hg.gv.go_lt hk⟩⟩, hb, hch.mono (fun k _ hk => h6 k hk)⟩
 ·rcases List.mem_append.1 ht with ht | ht
  ·exact h2 t ht
  ·obtain rfl : t = T := by simpa using ht
   exact .inr (by omega)
 ·rw [List.length_append, hfs]
  rw [Nat.add_mul]
  omega
theorem GtK.intact {w0 w : World} {B K N M : Nat} (h : GtK w0 w B K N M) : Calls Tryz.prog 12 #[.pointer (some ⟨B, 0, none⟩)] w fun e w' => e = .returned (.bool true) ∧ Below w.heap.size w w' := by
 obtain ⟨f, es, is, ts, h1, h2, _⟩ := h.giv
 exact intactO_any h1 (fun t ht => by
  rcases h2 t ht with e | e
  ·rw [e]; exact Nat.zero_le _
  ·exact e)
end Go.Proofs.YtbbicappjicblaaGreatDoor
