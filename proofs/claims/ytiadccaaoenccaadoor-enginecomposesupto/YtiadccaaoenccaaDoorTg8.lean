/- Va8 -/
import Derived.Test.YtiadccaaoenccaaDoorVa7
import Derived.Test.YtiadccaaoenccaaDoorTb2
import Derived.Test.YtiadccaaoenccaaDoorTc1
import Derived.Test.YtiadccaaoenccaaDoorUe0
import Derived.Test.YtiadccaaoenccaaDoorVa2
import Derived.Test.YtiadccaaoenccaaDoorTe6
import Derived.Test.YtiadccaaoenccaaDoorRows
import Derived.LaidMore
import Derived.Lib.LaidTab
import Derived.Stop.Joined
namespace Go.Proofs.YtiadccaaoenccaaDoor
open Go.RowKit Go.Deep
set_option linter.unusedVariables false
set_option linter.unusedSimpArgs false
set_option maxRecDepth 100000 in
set_option maxHeartbeats 32000000 in
theorem engineComposes_walk (i1 : Int) (a1 : Option Addr) (n1 c1 : Nat) (os1 : List On) (b1 : Option Addr) (m1 d1 : Nat) (ys1 : List Int) (i2 : Int) (a2 : Option Addr) (n2 c2 : Nat) (os2 : List On) (b2 : Option Addr) (m2 d2 : Nat) (ys2 : List Int) (w : World)
    (hZ1 : TapZ w a1 n1 c1 os1 b1 m1 d1 ys1) (hZ2 : TapZ w a2 n2 c2 os2 b2 m2 d2 ys2) (hn1 : n1 ≤ 1048576) (hn2 : n2 ≤ 1048576) (hT : Tab64 w) (hS : TabSh w) :
    Calls Tryd.prog 3 #[tapV i1 a1 n1 c1 b1 m1 d1, tapV i2 a2 n2 c2 b2 m2 d2] w fun e w' => e = .returned (.bool true) ∧ Below w.heap.size w w' := by
  obtain ⟨z0, hz0⟩ : ∃ x, w.alloc (.cells #[.int .i64 i1, .slice a1 n1 c1, .slice b1 m1 d1] 25) = x := ⟨_, rfl⟩
  have bz0 : BoxP z0 w.heap.size [.int .i64 i1, .slice a1 n1 c1, .slice b1 m1 d1] := by rw [← hz0]; exact BoxP.made _ _ _
  have bb0 : Below w.heap.size w z0 := by rw [← hz0]; exact (Below.refl _ _).alloc (Nat.le_refl _) _
  obtain ⟨z1, hz1⟩ : ∃ x, z0.alloc (.cells #[.int .i64 i2, .slice a2 n2 c2, .slice b2 m2 d2] 25) = x := ⟨_, rfl⟩
  have bz1 : BoxP z1 z0.heap.size [.int .i64 i2, .slice a2 n2 c2, .slice b2 m2 d2] := by rw [← hz1]; exact BoxP.made _ _ _
  have bb1 : Below z0.heap.size z0 z1 := by rw [← hz1]; exact (Below.refl _ _).alloc (Nat.le_refl _) _
  have hw1 := bb0.trans (bb1.mono bb0.size)
  have bz0 := bz0.below bb1
  have P0_0 := (bz0.all 0 _ rfl).1
  have P0_1 := (bz0.all 1 _ rfl).1
  have P0_2 := (bz0.all 2 _ rfl).1
  have P1_0 := (bz1.all 0 _ rfl).1
  have P1_1 := (bz1.all 1 _ rfl).1
  have P1_2 := (bz1.all 2 _ rfl).1
  have hZ1 : TapZ z1 a1 n1 c1 os1 b1 m1 d1 ys1 := ⟨hZ1.o.below hw1, hZ1.i.below hw1, hZ1.ln, hZ1.lm, hZ1.sz, hZ1.nil⟩
  have hZ2 : TapZ z1 a2 n2 c2 os2 b2 m2 d2 ys2 := ⟨hZ2.o.below hw1, hZ2.i.below hw1, hZ2.ln, hZ2.lm, hZ2.sz, hZ2.nil⟩
  have HW1 := hide hw1
  have HT := hide (And.intro (hT.below hw1) (hS.below hw1))
  have hG := GvT.made z1
  unfold givO at hG
  obtain ⟨wg, hwg⟩ : ∃ x, z1.alloc (.cells #[.slice none 0 0, .slice none 0 0, .slice none 0 0, .slice none 0 0, .slice none 0 0, .slice none 0 0, .slice none 0 0, .slice none 0 0, .slice none 0 0, .slice none 0 0, .slice none 0 0, .slice none 0 0, .slice none 0 0, .slice none 0 0, .slice none 0 0, .slice none 0 0, .slice none 0 0, .slice none 0 0, .slice none 0 0, .slice none 0 0] 38) = x := ⟨_, rfl⟩
  rw [hwg] at hG
  have hbg : Below z1.heap.size z1 wg := by rw [← hwg]; exact (Below.refl _ _).alloc (Nat.le_refl _) _
  have bd : Below wg.heap.size wg wg.drew := (Below.refl _ _).drew
  have hb0 := hbg.trans (bd.mono hbg.size)
  have hG0 := hG.below bd
  have HZ := hide (And.intro hZ1 hZ2)
  have K1 := gtape_any hG0 hb0 (Nat.le_refl _) i1 a1 n1 c1 os1 b1 m1 d1 ys1 hZ1.o hZ1.i hZ1.ln hZ1.lm hZ1.sz (by simp; omega) (by simp) (by simp)
  have HG0 := hide hG0
  have HB0 := hide hb0
  unfold tapV at K1
  have HK1 := hide K1
  have p0_0 := ((unhide HB0).cell (World.block_lt_of_cell? _ _ P0_0)).trans P0_0
  have p0_1 := ((unhide HB0).cell (World.block_lt_of_cell? _ _ P0_1)).trans P0_1
  have p0_2 := ((unhide HB0).cell (World.block_lt_of_cell? _ _ P0_2)).trans P0_2
  have p1_0 := ((unhide HB0).cell (World.block_lt_of_cell? _ _ P1_0)).trans P1_0
  have p1_1 := ((unhide HB0).cell (World.block_lt_of_cell? _ _ P1_1)).trans P1_1
  have p1_2 := ((unhide HB0).cell (World.block_lt_of_cell? _ _ P1_2)).trans P1_2
  clear K1 hG hG0 hbg hb0 bd hZ1 hZ2 hT hS bz0 bz1 bb0 bb1 hw1
  unfold tapV
  go_enter Tryd.func3, Tryd.ntmps3
  go_wp2_with fail
  have hHeld : (fun w' => w'.cell? ⟨w.heap.size, 0, none⟩ = some (.int .i64 i1) ∧ w'.cell? ⟨w.heap.size, 1, none⟩ = some (.slice a1 n1 c1) ∧ w'.cell? ⟨w.heap.size, 2, none⟩ = some (.slice b1 m1 d1) ∧ w'.cell? ⟨z0.heap.size, 0, none⟩ = some (.int .i64 i2) ∧ w'.cell? ⟨z0.heap.size, 1, none⟩ = some (.slice a2 n2 c2) ∧ w'.cell? ⟨z0.heap.size, 2, none⟩ = some (.slice b2 m2 d2)) wg.drew := ⟨p0_0, p0_1, p0_2, p1_0, p1_1, p1_2⟩
  refine anyTill_region (fun w' => w'.cell? ⟨w.heap.size, 0, none⟩ = some (.int .i64 i1) ∧ w'.cell? ⟨w.heap.size, 1, none⟩ = some (.slice a1 n1 c1) ∧ w'.cell? ⟨w.heap.size, 2, none⟩ = some (.slice b1 m1 d1) ∧ w'.cell? ⟨z0.heap.size, 0, none⟩ = some (.int .i64 i2) ∧ w'.cell? ⟨z0.heap.size, 1, none⟩ = some (.slice a2 n2 c2) ∧ w'.cell? ⟨z0.heap.size, 2, none⟩ = some (.slice b2 m2 d2)) 13 (by kernel_rfl) ?_
  refine anyTill_take (i := 0) (v := ?_) rfl rfl (by kernel_rfl) (by kernel_rfl) (by kernel_rfl) (by kernel_rfl) (fun _ _ _ h => h) (Or.inl ⟨by rfl, ?_⟩) (by assumption) ?_
  rotate_left 1
  · intro W hSw
    try dsimp only at hSw
    go_simp
    try with_reducible rfl
  refine anyTill_take (i := 1) (v := ?_) rfl rfl (by kernel_rfl) (by kernel_rfl) (by kernel_rfl) (by kernel_rfl) (fun _ _ _ h => h) (Or.inl ⟨by rfl, ?_⟩) (by assumption) ?_
  rotate_left 1
  · intro W hSw
    try dsimp only at hSw
    go_simp
    try with_reducible rfl
  refine anyTill_take (i := 3) (v := ?_) rfl rfl (by kernel_rfl) (by kernel_rfl) (by kernel_rfl) (by kernel_rfl) (fun _ _ _ h => h) (Or.inl ⟨by rfl, ?_⟩) (by assumption) ?_
  rotate_left 1
  · intro W hSw
    try dsimp only at hSw
    go_simp
    try with_reducible rfl
  refine anyTill_take (i := 4) (v := ?_) rfl rfl (by kernel_rfl) (by kernel_rfl) (by kernel_rfl) (by kernel_rfl) (fun _ _ _ h => h) (Or.inl ⟨by rfl, ?_⟩) (by assumption) ?_
  rotate_left 1
  · intro W hSw
    try dsimp only at hSw
    go_simp
    try with_reducible rfl
  refine anyTill_take (i := 6) (v := ?_) rfl rfl (by kernel_rfl) (by kernel_rfl) (by kernel_rfl) (by kernel_rfl) (fun _ _ _ h => h) (Or.inl ⟨by rfl, ?_⟩) (by assumption) ?_
  rotate_left 1
  · intro W hSw
    try dsimp only at hSw
    go_simp
    try with_reducible rfl
  refine anyTill_take (i := 7) (v := ?_) rfl rfl (by kernel_rfl) (by kernel_rfl) (by kernel_rfl) (by kernel_rfl) (fun _ _ _ h => h) (Or.inl ⟨by rfl, ?_⟩) (by assumption) ?_
  rotate_left 1
  · intro W hSw
    try dsimp only at hSw
    go_simp
    try with_reducible rfl
  clear hHeld
  refine anyTill_one (i := 2) (by kernel_rfl) rfl (by rfl) (fun K hK => ?_)
  go_simp
  refine (unhide HK1).mono ?_
  clear p0_0 p0_1 p0_2 p1_0 p1_1 p1_2
  rintro _ w1 ⟨T1, E1, f1, fs1, rfl, hx1, hl1, hcc1, hfs1, hg1, hch1⟩
  have hB1 := (unhide HB0).trans (hch1.below (B := z1.heap.size) (unhide HB0).size (fun k hk e => by have := (unhide HG0).gv.go_ge e; omega))
  have K2 := gtape_any hg1 hB1 (Nat.le_refl _) i2 a2 n2 c2 os2 b2 m2 d2 ys2 (unhide HZ).2.o (unhide HZ).2.i (unhide HZ).2.ln (unhide HZ).2.lm (unhide HZ).2.sz (by simp; omega) (by simp) (by simp)
  unfold tapV at K2
  have HK2 := hide K2
  have HB1 := hide hB1
  have HG1 := hide hg1
  have H1 := hide (And.intro hx1 (And.intro hl1 hcc1))
  have p0_0 := ((unhide HB1).cell (World.block_lt_of_cell? _ _ P0_0)).trans P0_0
  have p0_1 := ((unhide HB1).cell (World.block_lt_of_cell? _ _ P0_1)).trans P0_1
  have p0_2 := ((unhide HB1).cell (World.block_lt_of_cell? _ _ P0_2)).trans P0_2
  have p1_0 := ((unhide HB1).cell (World.block_lt_of_cell? _ _ P1_0)).trans P1_0
  have p1_1 := ((unhide HB1).cell (World.block_lt_of_cell? _ _ P1_1)).trans P1_1
  have p1_2 := ((unhide HB1).cell (World.block_lt_of_cell? _ _ P1_2)).trans P1_2
  clear K2 hB1 hg1 hch1 hfs1 hx1 hl1 hcc1 HK1
  try unfold tapV
  refine hK _ _ (fun _ => ⟨p0_0, p0_1, p0_2, p1_0, p1_1, p1_2⟩) ?_
  clear hK K
  refine anyTill_one (i := 5) (by kernel_rfl) rfl (by rfl) (fun K hK => ?_)
  go_simp
  refine (unhide HK2).mono ?_
  clear p0_0 p0_1 p0_2 p1_0 p1_1 p1_2
  rintro _ w2 ⟨T2, E2, f2, fs2, rfl, hx2, hl2, hcc2, hfs2, hg2, hch2⟩
  have hB2 := (unhide HB1).trans (hch2.below (B := z1.heap.size) (unhide HB1).size (fun k hk e => by have := (unhide HG1).gv.go_ge e; omega))
  have g1 := gv_tape hg2 (T := T1) (E := E1) (by simp) (by simp) (unhide H1).2.1 (unhide H1).1 (unhide HZ).1.i.len
  have g2 := gv_tape hg2 (T := T2) (E := E2) (by simp) (by simp) hl2 hx2 (unhide HZ).2.i.len
  have K3 := composes_any i1 _ n1 _ _ _ m1 _ ys1 i2 _ n2 _ _ _ m2 _ ys2 a1 c1 os1 b1 d1 a2 c2 os2 b2 d2 w2 g1.1 g1.2 g2.1 g2.2 ((unhide HZ).1.o.below hB2) ((unhide HZ).1.i.below hB2) ((unhide HZ).2.o.below hB2) ((unhide HZ).2.i.below hB2) (unhide H1).2.2 hcc2 ((unhide HT).1.below hB2) ((unhide HT).2.below hB2) (by omega) (by omega) (unhide HZ).2.lm (unhide HZ).1.lm
  unfold tapV at K3
  have HK3 := hide K3
  have HB2 := hide hB2
  have HG2 := hide hg2
  have H2 := hide (And.intro hl2 (unhide H1).2.1)
  have p0_0 := ((unhide HB2).cell (World.block_lt_of_cell? _ _ P0_0)).trans P0_0
  have p0_1 := ((unhide HB2).cell (World.block_lt_of_cell? _ _ P0_1)).trans P0_1
  have p0_2 := ((unhide HB2).cell (World.block_lt_of_cell? _ _ P0_2)).trans P0_2
  have p1_0 := ((unhide HB2).cell (World.block_lt_of_cell? _ _ P1_0)).trans P1_0
  have p1_1 := ((unhide HB2).cell (World.block_lt_of_cell? _ _ P1_1)).trans P1_1
  have p1_2 := ((unhide HB2).cell (World.block_lt_of_cell? _ _ P1_2)).trans P1_2
  clear K3 hB2 hg2 hch2 hfs2 hx2 hl2 hcc2 g1 g2 HK2
  try unfold tapV
  refine hK _ _ (fun _ => ⟨p0_0, p0_1, p0_2, p1_0, p1_1, p1_2⟩) ?_
  clear hK K
  refine anyTill_one (i := 8) (by kernel_rfl) rfl (by rfl) (fun K hK => ?_)
  go_simp
  refine (unhide HK3).mono ?_
  clear p0_0 p0_1 p0_2 p1_0 p1_1 p1_2
  rintro _ w3 ⟨rfl, b3⟩
  have HB3 := hide ((unhide HB2).trans (b3.mono (unhide HB2).size))
  have K4 := intactO_any ((unhide HG2).below b3) (fun t ht => by
    have h1 := (unhide H2).1
    have h2 := (unhide H2).2
    simp at ht
    rcases ht with rfl | rfl <;> omega)
  have HK4 := hide K4
  have p0_0 := ((unhide HB3).cell (World.block_lt_of_cell? _ _ P0_0)).trans P0_0
  have p0_1 := ((unhide HB3).cell (World.block_lt_of_cell? _ _ P0_1)).trans P0_1
  have p0_2 := ((unhide HB3).cell (World.block_lt_of_cell? _ _ P0_2)).trans P0_2
  have p1_0 := ((unhide HB3).cell (World.block_lt_of_cell? _ _ P1_0)).trans P1_0
  have p1_1 := ((unhide HB3).cell (World.block_lt_of_cell? _ _ P1_1)).trans P1_1
  have p1_2 := ((unhide HB3).cell (World.block_lt_of_cell? _ _ P1_2)).trans P1_2
  clear b3 K4 HK3
  refine hK _ _ (fun _ => ⟨p0_0, p0_1, p0_2, p1_0, p1_1, p1_2⟩) ?_
  clear hK K
  refine anyTill_one (i := 9) (by kernel_rfl) rfl (by rfl) (fun K hK => ?_)
  go_simp
  refine hK _ _ (fun _ => ⟨p0_0, p0_1, p0_2, p1_0, p1_1, p1_2⟩) ?_
  clear hK K
  refine anyTill_one (i := 10) (by kernel_rfl) rfl (by rfl) (fun K hK => ?_)
  go_simp
  refine hK _ _ (fun _ => ⟨p0_0, p0_1, p0_2, p1_0, p1_1, p1_2⟩) ?_
  clear hK K
  refine anyTill_one (i := 11) (by kernel_rfl) rfl (by rfl) (fun K hK => ?_)
  go_simp
  refine (unhide HK4).mono ?_
  clear p0_0 p0_1 p0_2 p1_0 p1_1 p1_2
  rintro _ w4 ⟨rfl, b4⟩
  have HB4 := hide ((unhide HB3).trans (b4.mono (unhide HB3).size))
  have p0_0 := ((unhide HB4).cell (World.block_lt_of_cell? _ _ P0_0)).trans P0_0
  have p0_1 := ((unhide HB4).cell (World.block_lt_of_cell? _ _ P0_1)).trans P0_1
  have p0_2 := ((unhide HB4).cell (World.block_lt_of_cell? _ _ P0_2)).trans P0_2
  have p1_0 := ((unhide HB4).cell (World.block_lt_of_cell? _ _ P1_0)).trans P1_0
  have p1_1 := ((unhide HB4).cell (World.block_lt_of_cell? _ _ P1_1)).trans P1_1
  have p1_2 := ((unhide HB4).cell (World.block_lt_of_cell? _ _ P1_2)).trans P1_2
  clear b4 HK4
  refine hK _ _ (fun _ => ⟨p0_0, p0_1, p0_2, p1_0, p1_1, p1_2⟩) ?_
  clear hK K
  refine anyTill_one (i := 12) (by kernel_rfl) rfl (by rfl) (fun K hK => ?_)
  go_simp
  refine hK _ _ (fun _ => ⟨p0_0, p0_1, p0_2, p1_0, p1_1, p1_2⟩) ?_
  clear hK K
  refine anyTill_one (i := 13) (by kernel_rfl) rfl (by rfl) (fun K hK => ?_)
  go_simp
  refine hK _ _ (fun h => absurd rfl h) ?_
  clear hK K
  clear p0_0 p0_1 p0_2 p1_0 p1_1 p1_2
  refine anyTill_done (by kernel_rfl) ?_
  go_wp2_with fail
  try go_ret
  exact ⟨rfl, (unhide HW1).trans ((unhide HB4).mono (unhide HW1).size)⟩
end Go.Proofs.YtiadccaaoenccaaDoor
namespace Go.Proofs.YtiadccaaoenccaaDoor
open Go.RowKit Go.Deep
set_option linter.unusedVariables false
structure GtK (w0 wr : World) (B K N M : Nat) : Prop where
  giv : ∃ f es is ts, GvT wr B f (fun _ => False) es is ts ∧ (∀ t ∈ ts, Tn.os t = [] ∨ (Tn.os t).length ≤ 140737488355328) ∧ es.length ≤ K * (2 * N) ∧ is.length ≤ K ∧ ts.length ≤ K ∧ (∀ k, GO B f k → w0.heap.size ≤ k ∧ k < M)
theorem GtK.made {w0 w : World} (h0 : Below w0.heap.size w0 w) (N : Nat) : GtK w0 (w.alloc givO) w.heap.size 0 N (w.heap.size + 1) := by
  have hG := GvT.made w
  refine ⟨_, [], [], [], hG, (fun t ht => by cases ht), by simp, by simp, by simp, fun k hk => ?_⟩
  have := hG.gv.go_lt hk
  have h1 := hG.gv.go_ge hk
  exact ⟨by have := h0.size; omega, by simpa using this⟩
theorem GtK.below {w0 w w' : World} {B K N M : Nat} (h : GtK w0 w B K N M) (k : Below w.heap.size w w') : GtK w0 w' B K N M := by
  obtain ⟨f, es, is, ts, h1, h2, h3, h4, h5, h6⟩ := h.giv
  exact ⟨f, es, is, ts, h1.below k, h2, h3, h4, h5, h6⟩
end Go.Proofs.YtiadccaaoenccaaDoor
namespace Go.Proofs.YtiadccaaoenccaaDoor
open Go.ChangeShapes Go.WideShapes Go.ChangeAt Go.RowKit Go.Deep
set_option linter.unusedVariables false
theorem tap_bulk {H : Type} {enc : TypeId × Value → H} {W : World} {d : DataW H} {p : List MemPlace} {i : Int} {a : Option Addr} {n c : Nat} {b : Option Addr} {m e : Nat}
    (h : DataW.Trod enc Tryd.prog W 0 (fun _ => true) true 25 (tapV i a n c b m e) d p) : n ≤ Rows.uptoBulk d := by
  obtain ⟨fuel, hf⟩ := h
  obtain ⟨y0, y1, y2, k, hx, hl, h0, h1, h2⟩ := trod_struct3 Tryd.underlying25 hf
  have hcs : (tapV i a n c b m e).cells.toList = [.int .i64 i, .slice a n c, .slice b m e] := by simp [tapV, Value.cells]
  rw [hcs] at h0 h1 h2
  have hd : d = .agg [y0.1, y1.1, y2.1] := by injection hx
  simp only [List.drop_zero, List.drop_succ_cons, law_cellsI, law_cellsIs, law_cellsOs, List.take_succ_cons, List.take_zero] at h0 h1 h2
  rw [hd]
  simp only [Rows.uptoBulk, Rows.uptoBulkAll]
  rcases DataW.trod_slice Tryd.underlying22 h1 with ⟨hcs, _⟩ | ⟨a', n', c', elems, rest, m', _, hcs, hx, hb, hl, hm, hlen, hel, hsp, hns⟩
  · have e1 : n = 0 := by
      have := List.cons.inj hcs
      have := Value.slice.inj this.1
      exact this.2.1
    omega
  · have e1 : n = n' := by
      have := List.cons.inj hcs
      have := Value.slice.inj this.1
      exact this.2.1
    have hy : y1.1 = .slice (elems.map Prod.fst) (rest.map Prod.fst) := by rw [hx]
    rw [hy]
    simp only [Rows.uptoBulk]
    have := bulk_len (elems.map Prod.fst)
    rw [List.length_map] at this
    omega
def shD (k : Nat) : DataW Unit := .agg [.lit (.string ((shW k).map UInt8.ofNat)), .lit (.bool (shA k)), .lit (.bool (shB k)), .lit (.bool (shN k)), .lit (.bool (shC k))]
theorem take5 {cs : List Value} {a : Nat} {v0 v1 v2 v3 v4 : Value} (h0 : (cs.drop (a * 5)).take 5 = [v0, v1, v2, v3, v4]) (j : Nat) (hj : j < 5) : cs[a * 5 + j]? = [v0, v1, v2, v3, v4][j]? := by
  have h : ((cs.drop (a * 5)).take 5)[j]? = [v0, v1, v2, v3, v4][j]? := by rw [h0]
  rw [List.getElem?_take, if_pos hj, List.getElem?_drop] at h
  exact h
theorem strB_of {s : ByteArray} {k : Nat} (h : s.data.toList = (shW k).map UInt8.ofNat) : s = strB (shW k) := by
  have e : strB (shW k) = ⟨((shW k).map UInt8.ofNat).toArray⟩ := by
    unfold shW
    split <;> rfl
  rw [e, ← h]
set_option maxRecDepth 100000 in
theorem shapes_tab {W : World} {rest : List (String × DataW Unit)} (h : laidMet Tryd.prog (("slope/tape.shapes", Rows.laid_slope_tape_shapes) :: rest) W) : TabSh W := by
  obtain ⟨ps, ⟨g', t', cs, fuel, p, q, hg', ht', hvar, hD, _, _⟩, _⟩ := h
  have hg : Tryd.prog.globalNamed "slope/tape.shapes" = some 0 := by kernel_rfl
  obtain rfl := Option.some.inj (hg.symm.trans hg')
  obtain rfl := Option.some.inj ((show (Tryd.prog.globals[0]?).map (·.type) = some 114 by kernel_rfl).symm.trans ht')
  have e : (Rows.laid_slope_tape_shapes : DataW Unit) = .agg ((List.range 9).map shD) := by kernel_rfl
  rw [e] at hD
  obtain ⟨xs, f1, _, ex, hl, hxl, hel⟩ := DataW.trod_array Tryd.underlying114 hD
  have e1 := DataW.agg.inj (Prod.mk.inj ex).1
  intro a j ha hj
  have hE := hel a ha
  rw [show Tryd.prog.cellsOf 109 = 5 from by kernel_rfl] at hE
  have hd : ((List.range 9).map shD)[a]? = some (shD a) := by simp [ha]
  rw [e1, List.getElem?_map] at hd
  cases hxa : xs[a]? with
  | none => rw [hxa] at hd; cases hd
  | some ya =>
    rw [hxa] at hd hE
    simp only [Option.map_some, Option.some.injEq] at hd
    obtain ⟨d1, q1⟩ := ya
    dsimp only at hd
    subst hd
    obtain ⟨y0, y1, y2, y3, y4, k, hx, hl5, h0, h1, h2, h3, h4⟩ := trod_s5 Tryd.underlying109 hE
    simp only [show Tryd.prog.cellsOf 9 = 1 from by kernel_rfl, show Tryd.prog.cellsOf 4 = 1 from by kernel_rfl] at h0 h1 h2 h3 h4
    obtain ⟨s, c0, r0, _⟩ := DataW.trod_string Tryd.underlying9 h0
    obtain ⟨b1, c1, r1⟩ := DataW.trod_bool Tryd.underlying4 h1
    obtain ⟨b2, c2, r2⟩ := DataW.trod_bool Tryd.underlying4 h2
    obtain ⟨b3, c3, r3⟩ := DataW.trod_bool Tryd.underlying4 h3
    obtain ⟨b4, c4, r4⟩ := DataW.trod_bool Tryd.underlying4 h4
    have hx1 := (Prod.mk.inj hx).1
    unfold shD at hx1
    simp only [DataW.agg.injEq, List.cons.injEq, r0, r1, r2, r3, r4, DataW.lit.injEq, Lit.string.injEq, Lit.bool.injEq, and_true] at hx1
    obtain ⟨z0, z1, z2, z3, z4⟩ := hx1
    have h5 : ((cs.toList.drop (a * 5)).take 5) = [.string s, .bool b1, .bool b2, .bool b3, .bool b4] := by
      rw [show Tryd.prog.cellsOf 109 = 5 from by kernel_rfl] at hl5
      generalize (cs.toList.drop (a * 5)).take 5 = l at *
      match l, hl5 with
      | [u0, u1, u2, u3, u4], _ =>
        simp only [List.drop_zero, List.drop_succ_cons, List.take_succ_cons, List.take_zero, List.cons.injEq, and_true] at c0 c1 c2 c3 c4
        rw [c0, c1, c2, c3, c4]
    rw [World.var?_cell hg hvar (a * 5 + j)]
    have h6 := take5 h5 j hj
    rw [strB_of z0.symm, ← z1, ← z2, ← z3, ← z4] at h6
    simpa [shV] using h6
end Go.Proofs.YtiadccaaoenccaaDoor
