/- Ubb -/
import Derived.Test.YtbbicappjicblaaGreatDoorRq1
import Derived.Test.YtbbicappjicblaaGreatDoorTe9
import Derived.Test.YtbbicappjicblaaGreatDoorRv5
import Derived.Lib.MinMax
import Derived.Test.YtbbicappjicblaaGreatDoorUb3
namespace Go.Proofs.YtbbicappjicblaaGreatDoor
open Go.RowKit Go.Deep
set_option linter.unusedVariables false
set_option linter.unusedSimpArgs false
theorem six_set {w : World} {X : Nat} {v0 v1 v2 v3 v4 v5 : Value} (h : BoxP w X [v0, v1, v2, v3, v4, v5]) (u0 u1 u2 u3 u4 u5 : Value) :
  BoxP ((((((w.setCell ⟨X, 0, none⟩ u0).setCell ⟨X, 1, none⟩ u1).setCell ⟨X, 2, none⟩ u2).setCell ⟨X, 3, none⟩ u3).setCell ⟨X, 4, none⟩ u4).setCell ⟨X, 5, none⟩ u5) X [u0, u1, u2, u3, u4, u5] ∧ Chg (fun j => j = X) w ((((((w.setCell ⟨X, 0, none⟩ u0).setCell ⟨X, 1, none⟩ u1).setCell ⟨X, 2, none⟩ u2).setCell ⟨X, 3, none⟩ u3).setCell ⟨X, 4, none⟩ u4).setCell ⟨X, 5, none⟩ u5) := by
 refine ⟨?_, (((((Chg.of_set (S := fun j => j = X) _ X 0 u0 rfl).trans (Chg.of_set _ X 1 u1 rfl)).trans (Chg.of_set _ X 2 u2 rfl)).trans (Chg.of_set _ X 3 u3 rfl)).trans (Chg.of_set _ X 4 u4 rfl)).trans (Chg.of_set _ X 5 u5 rfl)⟩
 exact (((((h.put 0 u0).put 1 u1).put 2 u2).put 3 u3).put 4 u4).put 5 u5
set_option maxRecDepth 100000 in
set_option maxHeartbeats 16000000 in
theorem rclimb_no (i : Int) (a : Option Addr) (n c : Nat) (os : List On) (b : Option Addr) (m d : Nat) (ys : List Int) (w : World) (hs : SlO w a n c os) (hy : SlI w b m d ys) (hT : Tab64 w) (hS : TabSh w) (he : (chF i os ys).2 ≠ 0) :
  Calls Tryz.prog 19 #[tapV i a n c b m d] w fun e w' => e = .returned (.tuple #[.agg #[.int .i64 0, .slice none 0 0, .int .i64 0, .slice none 0 0, .slice none 0 0, .slice none 0 0], .int .i64 (chF i os ys).1, .int .i64 (chF i os ys).2]) ∧ Below w.heap.size w w' := by
 obtain ⟨wa, hwa⟩ : ∃ x, w.alloc (.cells #[.int .i64 i, .slice a n c, .slice b m d] 25) = x := ⟨_, rfl⟩
 have bx : BoxP wa w.heap.size [.int .i64 i, .slice a n c, .slice b m d] := by rw [← hwa]; exact BoxP.made _ _ _
 have hba : Below w.heap.size w wa := by rw [← hwa]; exact (Below.refl _ _).alloc (Nat.le_refl _) _
 have x0 := (bx.all 0 _ rfl).1
 have x1 := (bx.all 1 _ rfl).1
 have x2 := (bx.all 2 _ rfl).1
 obtain ⟨wR, hwR⟩ : ∃ x, wa.alloc (.cells #[.int .i64 0, .slice none 0 0, .int .i64 0, .slice none 0 0, .slice none 0 0, .slice none 0 0] 63) = x := ⟨_, rfl⟩
 have bR : BoxP wR wa.heap.size [.int .i64 0, .slice none 0 0, .int .i64 0, .slice none 0 0, .slice none 0 0, .slice none 0 0] := by rw [← hwR]; exact BoxP.made _ _ _
 have hbR : Below wa.heap.size wa wR := by rw [← hwR]; exact (Below.refl _ _).alloc (Nat.le_refl _) _
 have hB2 := hba.trans (hbR.mono hba.size)
 have x0 := (hbR.cell (World.block_lt_of_cell? _ _ x0)).trans x0
 have x1 := (hbR.cell (World.block_lt_of_cell? _ _ x1)).trans x1
 have x2 := (hbR.cell (World.block_lt_of_cell? _ _ x2)).trans x2
 have KL := tLive_no i a n c os b m d ys wR (hs.below hB2) (hy.below hB2) (hT.below hB2) (hS.below hB2) he
 have HK := hide (fun (W : World) (hb : Below wR.heap.size wR W) => tcheck_any i a n c os b m d ys W ((hs.below hB2).below hb) ((hy.below hB2).below hb) ((hT.below hB2).below hb) ((hS.below hB2).below hb))
 obtain ⟨z, hz⟩ : ∃ z, (chF i os ys).2 = z := ⟨_, rfl⟩
 obtain ⟨z1, hz1⟩ : ∃ z, (chF i os ys).1 = z := ⟨_, rfl⟩
 rw [hz] at KL he
 rw [hz, hz1] at HK ⊢
 have he' : (z != 0) = true := by simpa using he
 have HL := hide KL
 have HB := hide hB2
 have HBR := hide bR
 have hle : w.heap.size ≤ wa.heap.size := hba.size
 unfold tapV at HK HL ⊢
 clear bx hba hbR hB2 bR KL hs hy hT hS he hz hz1
 go_enter Tryz.func19, Tryz.ntmps19
 go_wp2_with fail
 refine (unhide HL).mono ?_
 rintro _ w1 ⟨rfl, b1⟩
 have x0 := (b1.cell (World.block_lt_of_cell? _ _ x0)).trans x0
 have x1 := (b1.cell (World.block_lt_of_cell? _ _ x1)).trans x1
 have x2 := (b1.cell (World.block_lt_of_cell? _ _ x2)).trans x2
 have HB1 := hide b1
 clear b1 HL
 go_wp2_with fail
 refine (unhide HK w1 (unhide HB1)).mono ?_
 rintro _ w2 ⟨rfl, b2⟩
 have hb2 := (unhide HB1).trans (b2.mono (unhide HB1).size)
 have bR := (unhide HBR).below hb2
 have HB2 := hide ((unhide HB).trans (hb2.mono (unhide HB).size))
 have r0 := (bR.all 0 _ rfl).1
 have u0 := (bR.all 0 _ rfl).2
 have r1 := (bR.all 1 _ rfl).1
 have u1 := (bR.all 1 _ rfl).2
 have r2 := (bR.all 2 _ rfl).1
 have u2 := (bR.all 2 _ rfl).2
 have r3 := (bR.all 3 _ rfl).1
 have u3 := (bR.all 3 _ rfl).2
 have r4 := (bR.all 4 _ rfl).1
 have u4 := (bR.all 4 _ rfl).2
 have r5 := (bR.all 5 _ rfl).1
 have u5 := (bR.all 5 _ rfl).2
 obtain ⟨b6, hc6⟩ := six_set bR (.int .i64 0) (.slice none 0 0) (.int .i64 0) (.slice none 0 0) (.slice none 0 0) (.slice none 0 0)
 have p0 := (b6.all 0 _ rfl).1
 have p1 := (b6.all 1 _ rfl).1
 have p2 := (b6.all 2 _ rfl).1
 have p3 := (b6.all 3 _ rfl).1
 have p4 := (b6.all 4 _ rfl).1
 have p5 := (b6.all 5 _ rfl).1
 have HE := hide (hc6.below (B := w.heap.size) (unhide HB2).size (fun k hk e => by omega))
 have HE2 := hide ((unhide HB2).trans (unhide HE))
 clear b2 hb2 bR b6 hc6 HK HB1
 go_wp2_with fail
 refine bodyPost_ret (v := .tuple #[.agg #[.int .i64 0, .slice none 0 0, .int .i64 0, .slice none 0 0, .slice none 0 0, .slice none 0 0], .int .i64 z1, .int .i64 z]) (by simp [results, Tryz.results19, go_sem, p0, p1, p2, p3, p4, p5]; try rfl) rfl ?_
 exact ⟨rfl, unhide HE2⟩
theorem WkT.app {I k : Nat} {T : List Bs.SetC} {os : List On} {o : On} {t : Bs.SetC} (h : WkT I k T (hgF os k)) (ho : os[k]? = some o) (h1 : t.s = (I : Int)) (h2 : Bs.Good I t.xs (hgO (hgF os k) o)) : WkT I (k + 1) (T ++ [t]) (hgF os (k + 1)) := by
 have hl := h.len
 refine ⟨by simp [hl], fun v hv => ?_⟩
 by_cases e : v = k
 ·subst e
  have e1 : (T ++ [t]).getD v .nul = t := by simp [List.getD, ← hl]
  rw [e1, show hgF os (v + 1) v = hgO (hgF os v) o from funext fun j => by rw [hgF_next ho, if_pos rfl]]
  exact ⟨h1, h2⟩
 ·have e1 : (T ++ [t]).getD v .nul = T.getD v .nul := by
   simp only [List.getD]
   rw [List.getElem?_append_left (by omega)]
  rw [e1, show hgF os (k + 1) v = hgF os k v from funext fun j => hgF_keep os k v j (by omega)]
  exact h.get v (by omega)
def ClA (w : World) (I : Nat) (a : Option Addr) (n c : Nat) (os : List On) (b : Option Addr) (m d : Nat) (ys : List Int) (e : Ending) (w' : World) : Prop := ∃ sa sc T g, e = .returned (.tuple #[wkV (I : Int) sa n sc (I : Int) a n c b m d (some ⟨g, 0, none⟩) n n, .int .i64 0, .int .i64 0]) ∧ WkT I n T (hgF os n) ∧ Bs.SlS w' sa n sc T ∧ RoV w' g n (fun v => .bool (mkB (lvL os ys n) v)) ∧ Below w.heap.size w w'
set_option maxRecDepth 100000 in
set_option maxHeartbeats 32000000 in
theorem rclimb_yes (I : Nat) (a : Option Addr) (n c : Nat) (os : List On) (b : Option Addr) (m d : Nat) (ys : List Int) (w : World) (hs : SlO w a n c os) (hy : SlI w b m d ys) (hT : Tab64 w) (hS : TabSh w) (he : (chF (I : Int) os ys).2 = 0) :
  Calls Tryz.prog 19 #[tapV (I : Int) a n c b m d] w (ClA w I a n c os b m d ys) := by
 have hk := TpOk.of he
 have hn := hs.len
 have hn2 : n ≤ 2048 := by have := hk.lo; omega
 have hI : I ≤ 64 := by have := hk.li; omega
 obtain ⟨wa, hwa⟩ : ∃ x, w.alloc (.cells #[.int .i64 (I : Int), .slice a n c, .slice b m d] 25) = x := ⟨_, rfl⟩
 have bx : BoxP wa w.heap.size [.int .i64 (I : Int), .slice a n c, .slice b m d] := by rw [← hwa]; exact BoxP.made _ _ _
 have hba : Below w.heap.size w wa := by rw [← hwa]; exact (Below.refl _ _).alloc (Nat.le_refl _) _
 have x0 := (bx.all 0 _ rfl).1
 have x1 := (bx.all 1 _ rfl).1
 have x2 := (bx.all 2 _ rfl).1
 obtain ⟨wR, hwR⟩ : ∃ x, wa.alloc (.cells #[.int .i64 0, .slice none 0 0, .int .i64 0, .slice none 0 0, .slice none 0 0, .slice none 0 0] 63) = x := ⟨_, rfl⟩
 have bR : BoxP wR wa.heap.size [.int .i64 0, .slice none 0 0, .int .i64 0, .slice none 0 0, .slice none 0 0, .slice none 0 0] := by rw [← hwR]; exact BoxP.made _ _ _
 have hbR : Below wa.heap.size wa wR := by rw [← hwR]; exact (Below.refl _ _).alloc (Nat.le_refl _) _
 have hB2 := hba.trans (hbR.mono hba.size)
 have x0 := (hbR.cell (World.block_lt_of_cell? _ _ x0)).trans x0
 have x1 := (hbR.cell (World.block_lt_of_cell? _ _ x1)).trans x1
 have x2 := (hbR.cell (World.block_lt_of_cell? _ _ x2)).trans x2
 have KL := tLive_yes (I : Int) a n c os b m d ys wR (hs.below hB2) (hy.below hB2) (hT.below hB2) (hS.below hB2) he
 have HL := hide KL
 have HB := hide hB2
 have HBR := hide bR
 have HS := hide (hs.below hB2)
 have HK := hide hk
 have HN := hide hn
 have hle : w.heap.size ≤ wa.heap.size := hba.size
 unfold tapV at HL ⊢
 clear bx hba hbR hB2 bR KL hs hy hT hS he hk hn
 go_enter Tryz.func19, Tryz.ntmps19
 go_wp2_with fail
 refine (unhide HL).mono ?_
 rintro _ w1 ⟨g, rfl, hg, hrv, b1⟩
 have x0 := (b1.cell (World.block_lt_of_cell? _ _ x0)).trans x0
 have x1 := (b1.cell (World.block_lt_of_cell? _ _ x1)).trans x1
 have x2 := (b1.cell (World.block_lt_of_cell? _ _ x2)).trans x2
 have HB1 := hide b1
 have HRV := hide hrv
 clear b1 HL hrv
 try dsimp only
 repeat ((fail_if_success (with_reducible (show Code.wp _ _ _ _ (World.alloc w1 (Obj.cells #[_, _, _, _, _, .slice (some ⟨g, 0, none⟩) n n] _))))); (first | go_values | go_skip | go_guarded | go_step | go_upon | go_back))
 have m0 := x0
 have m1 := x1
 have m2 := x2
 have bW : BoxP (w1.alloc (.cells #[.int .i64 (I : Int), .slice none 0 0, .int .i64 (I : Int), .slice a n c, .slice b m d, .slice (some ⟨g, 0, none⟩) n n] 63)) w1.heap.size [.int .i64 (I : Int), .slice none 0 0, .int .i64 (I : Int), .slice a n c, .slice b m d, .slice (some ⟨g, 0, none⟩) n n] := BoxP.made _ _ _
 have hbW : Below w1.heap.size w1 (w1.alloc (.cells #[.int .i64 (I : Int), .slice none 0 0, .int .i64 (I : Int), .slice a n c, .slice b m d, .slice (some ⟨g, 0, none⟩) n n] 63)) := (Below.refl _ _).alloc (Nat.le_refl _) _
 generalize w1.alloc (.cells #[.int .i64 (I : Int), .slice none 0 0, .int .i64 (I : Int), .slice a n c, .slice b m d, .slice (some ⟨g, 0, none⟩) n n] 63) = W2 at *
 have x0 := (hbW.cell (World.block_lt_of_cell? _ _ x0)).trans x0
 have x1 := (hbW.cell (World.block_lt_of_cell? _ _ x1)).trans x1
 have x2 := (hbW.cell (World.block_lt_of_cell? _ _ x2)).trans x2
 have HRlt := hide (show wa.heap.size < w1.heap.size from by have h1 := (unhide HBR).lt; have h2 := (unhide HB1).size; omega)
 have HXlt := hide (show w1.heap.size < W2.heap.size from bW.lt)
 have HBW := hide hbW
 obtain ⟨X, hX⟩ : ∃ X, w1.heap.size = X := ⟨_, rfl⟩
 rw [hX] at bW
 have HX := hide hX
 obtain ⟨R, hR⟩ : ∃ R, wa.heap.size = R := ⟨_, rfl⟩
 have HR := hide hR
 have HG0 := hide (Bs.GrC.start (fun j => j = X) W2)
 have HBX := hide bW
 obtain ⟨i32, hi, hz0, hsi, hb⟩ := info_parts Tryz.info_setU
 have HI := hide (And.intro hi (And.intro hz0 (And.intro hsi hb)))
 have HS1 := hide ((unhide HS).below ((unhide HB1).trans ((unhide HBW).mono (unhide HB1).size)))
 rw [hX, hR]
 clear hbW bW hi hz0 hsi hb hX hR
 go_wp2_with fail
 go_loopw [36] (fun kv wr => ∃ (k : Nat) (sv : Value) (T : List Bs.SetC), k ≤ n ∧ kv = .int .i64 (k : Int) ∧ Hid (Bs.GrC (fun j => j = X) W2 wr sv T) ∧ Hid (WkT I k T (hgF os k)) ∧ Hid (BoxP wr X [.int .i64 (I : Int), sv, .int .i64 (I : Int), .slice a n c, .slice b m d, .slice (some ⟨g, 0, none⟩) n n])) (fun kv _ => n - (intOf kv).toNat)
 case atStart => exact ⟨0, .slice none 0 0, [], Nat.zero_le _, rfl, HG0, hide ⟨rfl, fun v hv => by omega⟩, HBX⟩
 case round =>
  obtain ⟨k, sv, T, hk, rfl, HG, HT, HBK⟩ := hrel
  have hbr : Below w1.heap.size w1 wr := (unhide HBW).trans ((unhide HG).bel.below (by have := unhide HXlt; omega) (fun j hj e => by have := unhide HX; omega))
  have x0 := (hbr.cell (World.block_lt_of_cell? _ _ m0)).trans m0
  have x1 := (hbr.cell (World.block_lt_of_cell? _ _ m1)).trans m1
  have x2 := (hbr.cell (World.block_lt_of_cell? _ _ m2)).trans m2
  have HBR1 := hide hbr
  have hTl : T.length = k := (unhide HT).len
  obtain ⟨sa, sc, rfl, hsl⟩ := (unhide HG).sl (by rw [hTl]; unfold maxLen; omega)
  rw [hTl] at hsl HG HBK
  have bX := unhide HBK
  have e0 := (bX.all 0 _ rfl).1
  have f0 := (bX.all 0 _ rfl).2
  have e1 := (bX.all 1 _ rfl).1
  have f1 := (bX.all 1 _ rfl).2
  have e2 := (bX.all 2 _ rfl).1
  have f2 := (bX.all 2 _ rfl).2
  have e3 := (bX.all 3 _ rfl).1
  have f3 := (bX.all 3 _ rfl).2
  have e4 := (bX.all 4 _ rfl).1
  have f4 := (bX.all 4 _ rfl).2
  have e5 := (bX.all 5 _ rfl).1
  have f5 := (bX.all 5 _ rfl).2
  by_cases hlt : k < n
  ·have hlt' : (k : Int) < (n : Int) := by omega
   obtain ⟨b1, off, o, rfl, ho, O, hok⟩ := (((unhide HS).below (unhide HB1)).below hbr).at' hlt
   obtain ⟨c0, c1, c2, c3, c4, c5, c6⟩ := O
   obtain ⟨W3, hW3⟩ : ∃ x, wr.alloc (.cells #[.int .i64 o.k, .int .i64 o.a, .int .i64 o.b, .int .i64 o.n, .bool o.p.g, .slice o.p.a o.p.n o.p.c, .slice o.p.b o.p.m o.p.d] 73) = x := ⟨_, rfl⟩
   have br : BoxP W3 wr.heap.size [.int .i64 o.k, .int .i64 o.a, .int .i64 o.b, .int .i64 o.n, .bool o.p.g, .slice o.p.a o.p.n o.p.c, .slice o.p.b o.p.m o.p.d] := by rw [← hW3]; exact BoxP.made _ _ _
   have b3 : Below wr.heap.size wr W3 := by rw [← hW3]; exact (Below.refl _ _).alloc (Nat.le_refl _) _
   have q0 := (br.all 0 _ rfl).1
   have q1 := (br.all 1 _ rfl).1
   have q2 := (br.all 2 _ rfl).1
   have q3 := (br.all 3 _ rfl).1
   have q4 := (br.all 4 _ rfl).1
   have q5 := (br.all 5 _ rfl).1
   have q6 := (br.all 6 _ rfl).1
   have e0 := (b3.cell (World.block_lt_of_cell? _ _ e0)).trans e0
   have e1 := (b3.cell (World.block_lt_of_cell? _ _ e1)).trans e1
   have e2 := (b3.cell (World.block_lt_of_cell? _ _ e2)).trans e2
   have e3 := (b3.cell (World.block_lt_of_cell? _ _ e3)).trans e3
   have e4 := (b3.cell (World.block_lt_of_cell? _ _ e4)).trans e4
   have e5 := (b3.cell (World.block_lt_of_cell? _ _ e5)).trans e5
   have hop := op_ok ((unhide HK).op k o ho)
   have hd3 : Below wr.heap.size wr W3.drew := b3.trans ((Below.refl _ _).drew.mono b3.size)
   have K := rset_any I sa k sc T (hgF os k) (I : Int) (some ⟨b1, off, none⟩) n c b m d (some ⟨g, 0, none⟩) n n o W3.drew (unhide HT) (hsl.below hd3) (fun e he => ((unhide HG).ins e he).below hd3) hI (fun v x hx => by
    cases h : hgF os k v x with
    | false => rfl
    | true => have := hgF_in (unhide HK) x k v h; omega) hop.1.1 hop.1.2 hop.2.2.2.1 (fun v hv => by have := hop.2.1 v hv; omega)
   unfold opV wkV at K
   have HD := hide K
   have HO := hide ho
   have HG3 := hide ((unhide HG).below hd3)
   have HBX3 := hide (bX.below hd3)
   clear K hsl ho hok b3 hop bX hbr hd3
   have HBO3 := hide (br.below (Below.refl _ _).drew)
   have HOL := hide (show ∀ j, (Value.slice sa k sc).ownBlock = some j → j < wr.heap.size from fun j e => (Bs.own_ge (unhide HG).own j e).2)
   clear br
   go_wp2_with fail
   have hHeld : (fun w' => w'.cell? ⟨X, 0, none⟩ = some (.int .i64 (I : Int)) ∧ w'.cell? ⟨X, 1, none⟩ = some (.slice sa k sc) ∧ w'.cell? ⟨X, 2, none⟩ = some (.int .i64 (I : Int)) ∧ w'.cell? ⟨X, 3, none⟩ = some (.slice (some ⟨b1, off, none⟩) n c) ∧ w'.cell? ⟨X, 4, none⟩ = some (.slice b m d) ∧ w'.cell? ⟨X, 5, none⟩ = some (.slice (some ⟨g, 0, none⟩) n n) ∧ w'.cell? ⟨wr.heap.size, 0, none⟩ = some (.int .i64 o.k) ∧ w'.cell? ⟨wr.heap.size, 1, none⟩ = some (.int .i64 o.a) ∧ w'.cell? ⟨wr.heap.size, 2, none⟩ = some (.int .i64 o.b) ∧ w'.cell? ⟨wr.heap.size, 3, none⟩ = some (.int .i64 o.n) ∧ w'.cell? ⟨wr.heap.size, 4, none⟩ = some (.bool o.p.g) ∧ w'.cell? ⟨wr.heap.size, 5, none⟩ = some (.slice o.p.a o.p.n o.p.c) ∧ w'.cell? ⟨wr.heap.size, 6, none⟩ = some (.slice o.p.b o.p.m o.p.d)) W3.drew := ⟨e0, e1, e2, e3, e4, e5, q0, q1, q2, q3, q4, q5, q6⟩
   refine anyTill_region (fun w' => w'.cell? ⟨X, 0, none⟩ = some (.int .i64 (I : Int)) ∧ w'.cell? ⟨X, 1, none⟩ = some (.slice sa k sc) ∧ w'.cell? ⟨X, 2, none⟩ = some (.int .i64 (I : Int)) ∧ w'.cell? ⟨X, 3, none⟩ = some (.slice (some ⟨b1, off, none⟩) n c) ∧ w'.cell? ⟨X, 4, none⟩ = some (.slice b m d) ∧ w'.cell? ⟨X, 5, none⟩ = some (.slice (some ⟨g, 0, none⟩) n n) ∧ w'.cell? ⟨wr.heap.size, 0, none⟩ = some (.int .i64 o.k) ∧ w'.cell? ⟨wr.heap.size, 1, none⟩ = some (.int .i64 o.a) ∧ w'.cell? ⟨wr.heap.size, 2, none⟩ = some (.int .i64 o.b) ∧ w'.cell? ⟨wr.heap.size, 3, none⟩ = some (.int .i64 o.n) ∧ w'.cell? ⟨wr.heap.size, 4, none⟩ = some (.bool o.p.g) ∧ w'.cell? ⟨wr.heap.size, 5, none⟩ = some (.slice o.p.a o.p.n o.p.c) ∧ w'.cell? ⟨wr.heap.size, 6, none⟩ = some (.slice o.p.b o.p.m o.p.d)) 10 (by kernel_rfl) ?_
   refine anyTill_take (i := 0) (v := ?_) rfl rfl (by kernel_rfl) (by kernel_rfl) (by kernel_rfl) (by kernel_rfl) (fun _ _ _ h => h) (Or.inl ⟨by kernel_rfl, ?_⟩) (by assumption) ?_
   rotate_left 1
   ·intro W hSw
    try dsimp only at hSw
    go_simp
    try with_reducible rfl
   refine anyTill_take (i := 1) (v := ?_) rfl rfl (by kernel_rfl) (by kernel_rfl) (by kernel_rfl) (by kernel_rfl) (fun _ _ _ h => h) (Or.inl ⟨by kernel_rfl, ?_⟩) (by assumption) ?_
   rotate_left 1
   ·intro W hSw
    try dsimp only at hSw
    go_simp
    try with_reducible rfl
   refine anyTill_take (i := 2) (v := ?_) rfl rfl (by kernel_rfl) (by kernel_rfl) (by kernel_rfl) (by kernel_rfl) (fun _ _ _ h => h) (Or.inl ⟨by kernel_rfl, ?_⟩) (by assumption) ?_
   rotate_left 1
   ·intro W hSw
    try dsimp only at hSw
    go_simp
    try with_reducible rfl
   refine anyTill_take (i := 3) (v := ?_) rfl rfl (by kernel_rfl) (by kernel_rfl) (by kernel_rfl) (by kernel_rfl) (fun _ _ _ h => h) (Or.inl ⟨by kernel_rfl, ?_⟩) (by assumption) ?_
   rotate_left 1
   ·intro W hSw
    try dsimp only at hSw
    go_simp
    try with_reducible rfl
   refine anyTill_take (i := 4) (v := ?_) rfl rfl (by kernel_rfl) (by kernel_rfl) (by kernel_rfl) (by kernel_rfl) (fun _ _ _ h => h) (Or.inl ⟨by kernel_rfl, ?_⟩) (by assumption) ?_
   rotate_left 1
   ·intro W hSw
    try dsimp only at hSw
    go_simp
    try with_reducible rfl
   clear hHeld
   refine anyTill_one (i := 5) (by kernel_rfl) rfl (by kernel_rfl) (fun K hK => ?_)
   go_simp
   refine (unhide HD).mono ?_
   rintro _ w4 ⟨t, rfl, ht1, ht2, ht3, b4⟩
   have bX4 := (unhide HBX3).below b4
   have bO4 := (unhide HBO3).below b4
   have hHeld : (fun w' => w'.cell? ⟨X, 0, none⟩ = some (.int .i64 (I : Int)) ∧ w'.cell? ⟨X, 1, none⟩ = some (.slice sa k sc) ∧ w'.cell? ⟨X, 2, none⟩ = some (.int .i64 (I : Int)) ∧ w'.cell? ⟨X, 3, none⟩ = some (.slice (some ⟨b1, off, none⟩) n c) ∧ w'.cell? ⟨X, 4, none⟩ = some (.slice b m d) ∧ w'.cell? ⟨X, 5, none⟩ = some (.slice (some ⟨g, 0, none⟩) n n) ∧ w'.cell? ⟨wr.heap.size, 0, none⟩ = some (.int .i64 o.k) ∧ w'.cell? ⟨wr.heap.size, 1, none⟩ = some (.int .i64 o.a) ∧ w'.cell? ⟨wr.heap.size, 2, none⟩ = some (.int .i64 o.b) ∧ w'.cell? ⟨wr.heap.size, 3, none⟩ = some (.int .i64 o.n) ∧ w'.cell? ⟨wr.heap.size, 4, none⟩ = some (.bool o.p.g) ∧ w'.cell? ⟨wr.heap.size, 5, none⟩ = some (.slice o.p.a o.p.n o.p.c) ∧ w'.cell? ⟨wr.heap.size, 6, none⟩ = some (.slice o.p.b o.p.m o.p.d)) w4 := ⟨(bX4.all 0 _ rfl).1, (bX4.all 1 _ rfl).1, (bX4.all 2 _ rfl).1, (bX4.all 3 _ rfl).1, (bX4.all 4 _ rfl).1, (bX4.all 5 _ rfl).1, (bO4.all 0 _ rfl).1, (bO4.all 1 _ rfl).1, (bO4.all 2 _ rfl).1, (bO4.all 3 _ rfl).1, (bO4.all 4 _ rfl).1, (bO4.all 5 _ rfl).1, (bO4.all 6 _ rfl).1⟩
   have HG4 := hide ((unhide HG3).below b4)
   have HTT := hide (And.intro ht1 (And.intro ht2 ht3))
   have HBX4 := hide bX4
   have HBO4 := hide bO4
   clear HD HG3 HBX3 HBO3 ht1 ht2 ht3 b4 bX4 bO4
   unfold Bs.setV
   refine hK _ _ (fun _ => hHeld) ?_
   clear hK K hHeld
   refine anyTill_one (i := 6) (by kernel_rfl) rfl (by kernel_rfl) (fun K hK => ?_)
   go_simp
   have hal : Below w4.heap.size w4 (w4.alloc (.cells #[.int .i64 t.s, .slice t.a t.n t.c] 82)) := (Below.refl _ _).alloc (Nat.le_refl _) _
   have bX5 := (unhide HBX4).below hal
   have bO5 := (unhide HBO4).below hal
   have hHeld : (fun w' => w'.cell? ⟨X, 0, none⟩ = some (.int .i64 (I : Int)) ∧ w'.cell? ⟨X, 1, none⟩ = some (.slice sa k sc) ∧ w'.cell? ⟨X, 2, none⟩ = some (.int .i64 (I : Int)) ∧ w'.cell? ⟨X, 3, none⟩ = some (.slice (some ⟨b1, off, none⟩) n c) ∧ w'.cell? ⟨X, 4, none⟩ = some (.slice b m d) ∧ w'.cell? ⟨X, 5, none⟩ = some (.slice (some ⟨g, 0, none⟩) n n) ∧ w'.cell? ⟨wr.heap.size, 0, none⟩ = some (.int .i64 o.k) ∧ w'.cell? ⟨wr.heap.size, 1, none⟩ = some (.int .i64 o.a) ∧ w'.cell? ⟨wr.heap.size, 2, none⟩ = some (.int .i64 o.b) ∧ w'.cell? ⟨wr.heap.size, 3, none⟩ = some (.int .i64 o.n) ∧ w'.cell? ⟨wr.heap.size, 4, none⟩ = some (.bool o.p.g) ∧ w'.cell? ⟨wr.heap.size, 5, none⟩ = some (.slice o.p.a o.p.n o.p.c) ∧ w'.cell? ⟨wr.heap.size, 6, none⟩ = some (.slice o.p.b o.p.m o.p.d)) (w4.alloc (.cells #[.int .i64 t.s, .slice t.a t.n t.c] 82)) := ⟨(bX5.all 0 _ rfl).1, (bX5.all 1 _ rfl).1, (bX5.all 2 _ rfl).1, (bX5.all 3 _ rfl).1, (bX5.all 4 _ rfl).1, (bX5.all 5 _ rfl).1, (bO5.all 0 _ rfl).1, (bO5.all 1 _ rfl).1, (bO5.all 2 _ rfl).1, (bO5.all 3 _ rfl).1, (bO5.all 4 _ rfl).1, (bO5.all 5 _ rfl).1, (bO5.all 6 _ rfl).1⟩
   refine hK _ _ (fun _ => hHeld) ?_
   clear hK K hHeld
   have how : (w4.alloc (.cells #[.int .i64 t.s, .slice t.a t.n t.c] 82)).ownsRow W2.heap.size 82 2 (.slice sa k sc) T.length (Bs.flatS T) := ((unhide HG4).below hal).own
   have hone : ∀ u ∈ [Value.int .i64 t.s, .slice t.a t.n t.c], u.oneCell' = true := by intro u hu; simp at hu; rcases hu with rfl | rfl <;> rfl
   have hmx : T.length + 1 ≤ maxLen := by unfold maxLen; omega
   have hby : (T.length + 1) * 32 ≤ 140737488355328 := by omega
   have hlw : W2.heap.size ≤ w4.heap.size := (unhide HG4).bel.size
   refine anyTill_one (i := 7) (by kernel_rfl) rfl (by kernel_rfl) (fun K hK => ?_)
   refine wp_append_lies _ _ _ 38 rfl W2.heap.size 82 i32 (.agg #[.int .i64 0, .slice none 0 0]) 2 32 Tryz.underlying38 (unhide HI).1 (unhide HI).2.1 (unhide HI).2.2.1 (unhide HI).2.2.2 rfl (by decide) (.slice sa k sc) T.length (Bs.flatS T) rfl how ⟨w4.heap.size, 0, none⟩ 1 1 [.int .i64 t.s, .slice t.a t.n t.c] rfl rfl (World.news_of_block (alloc_block _ _)) hone (by decide) hmx hby (by simp <;> omega) (w4.heap.size + 1) (by simp) ?_
   intro g5 cap5 w6 hown hgrow hat hlt6
   have hcg : Chg (fun j => (Value.slice sa k sc).ownBlock = some j) (w4.alloc (.cells #[.int .i64 t.s, .slice t.a t.n t.c] 82)) w6 := ⟨hgrow.os, hgrow.tape, hgrow.output, hgrow.size, fun j hj hs => hgrow.block j hj (fun e => hs e.symm)⟩
   have hnX : ¬ (Value.slice sa k sc).ownBlock = some X := fun e => by have h1 := (Bs.own_ge how X e).1; have h2 := unhide HXlt; have h3 := unhide HX; omega
   have hnY : ¬ (Value.slice sa k sc).ownBlock = some wr.heap.size := fun e => by have h1 := (unhide HOL _ e); omega
   have bX6 := bX5.chg hcg hnX
   have bO6 := bO5.chg hcg hnY
   have hHeld : (fun w' => w'.cell? ⟨X, 0, none⟩ = some (.int .i64 (I : Int)) ∧ w'.cell? ⟨X, 1, none⟩ = some (.slice sa k sc) ∧ w'.cell? ⟨X, 2, none⟩ = some (.int .i64 (I : Int)) ∧ w'.cell? ⟨X, 3, none⟩ = some (.slice (some ⟨b1, off, none⟩) n c) ∧ w'.cell? ⟨X, 4, none⟩ = some (.slice b m d) ∧ w'.cell? ⟨X, 5, none⟩ = some (.slice (some ⟨g, 0, none⟩) n n) ∧ w'.cell? ⟨wr.heap.size, 0, none⟩ = some (.int .i64 o.k) ∧ w'.cell? ⟨wr.heap.size, 1, none⟩ = some (.int .i64 o.a) ∧ w'.cell? ⟨wr.heap.size, 2, none⟩ = some (.int .i64 o.b) ∧ w'.cell? ⟨wr.heap.size, 3, none⟩ = some (.int .i64 o.n) ∧ w'.cell? ⟨wr.heap.size, 4, none⟩ = some (.bool o.p.g) ∧ w'.cell? ⟨wr.heap.size, 5, none⟩ = some (.slice o.p.a o.p.n o.p.c) ∧ w'.cell? ⟨wr.heap.size, 6, none⟩ = some (.slice o.p.b o.p.m o.p.d)) w6 := ⟨(bX6.all 0 _ rfl).1, (bX6.all 1 _ rfl).1, (bX6.all 2 _ rfl).1, (bX6.all 3 _ rfl).1, (bX6.all 4 _ rfl).1, (bX6.all 5 _ rfl).1, (bO6.all 0 _ rfl).1, (bO6.all 1 _ rfl).1, (bO6.all 2 _ rfl).1, (bO6.all 3 _ rfl).1, (bO6.all 4 _ rfl).1, (bO6.all 5 _ rfl).1, (bO6.all 6 _ rfl).1⟩
   have hf6 := (bX6.all 1 _ rfl).2
   have hc6 := (bX6.all 1 _ rfl).1
   have HG6 := hide ((unhide HG4).step (v2 := .slice (some ⟨g5, 0, none⟩) (T.length + 1) cap5) (Below.refl _ _) (unhide HTT).2.2 (by intro h; cases h) hgrow hown)
   have HG7 := hide ((unhide HG6).set (X := X) (by have h2 := unhide HXlt; have h3 := unhide HX; omega) rfl (bX6.all 0 _ rfl).1 1 (.slice (some ⟨g5, 0, none⟩) (T.length + 1) cap5))
   have HBX7 := hide (bX6.put 1 (.slice (some ⟨g5, 0, none⟩) (T.length + 1) cap5))
   rw [hTl] at HG7 HBX7
   have HT7 := hide (WkT.app (unhide HT) (unhide HO) (unhide HTT).1 (unhide HTT).2.1)
   clear hown hgrow hat hlt6 hcg hnX hnY bX6 bO6 bX5 bO5 how hal
   refine hK _ _ (fun _ => hHeld) ?_
   clear hK K
   refine anyTill_one (i := 8) (by kernel_rfl) rfl (by kernel_rfl) (fun K hK => ?_)
   go_simp
   refine hK _ _ (fun _ => hHeld) ?_
   clear hK K
   refine anyTill_one (i := 9) (by kernel_rfl) rfl (by kernel_rfl) (fun K hK => ?_)
   go_simp
   refine hK _ _ (fun _ => hHeld) ?_
   clear hK K hHeld
   refine anyTill_one (i := 10) (by kernel_rfl) rfl (by kernel_rfl) (fun K hK => ?_)
   go_simp
   refine hK _ _ (fun h => absurd rfl h) ?_
   clear hK K
   refine anyTill_done (by kernel_rfl) ?_
   clear hf6 hc6
   go_wp2_with fail
   exact ⟨⟨k + 1, _, T ++ [t], by omega, by (first | rfl | go_num), HG7, HT7, HBX7⟩, by simp [intOf]; omega⟩
  ·obtain rfl : k = n := by omega
   have hlt' : ¬ (k : Int) < (k : Int) := by omega
   have bR0 : BoxP wr R [.int .i64 0, .slice none 0 0, .int .i64 0, .slice none 0 0, .slice none 0 0, .slice none 0 0] := by
    have h := (unhide HBR).below ((unhide HB1).trans ((unhide HBR1).mono (unhide HB1).size))
    rw [unhide HR] at h
    exact h
   have r0 := (bR0.all 0 _ rfl).1
   have u0 := (bR0.all 0 _ rfl).2
   have r1 := (bR0.all 1 _ rfl).1
   have u1 := (bR0.all 1 _ rfl).2
   have r2 := (bR0.all 2 _ rfl).1
   have u2 := (bR0.all 2 _ rfl).2
   have r3 := (bR0.all 3 _ rfl).1
   have u3 := (bR0.all 3 _ rfl).2
   have r4 := (bR0.all 4 _ rfl).1
   have u4 := (bR0.all 4 _ rfl).2
   have r5 := (bR0.all 5 _ rfl).1
   have u5 := (bR0.all 5 _ rfl).2
   obtain ⟨b6, hc6⟩ := six_set bR0 (.int .i64 (I : Int)) (.slice sa k sc) (.int .i64 (I : Int)) (.slice a k c) (.slice b m d) (.slice (some ⟨g, 0, none⟩) k k)
   have p0 := (b6.all 0 _ rfl).1
   have p1 := (b6.all 1 _ rfl).1
   have p2 := (b6.all 2 _ rfl).1
   have p3 := (b6.all 3 _ rfl).1
   have p4 := (b6.all 4 _ rfl).1
   have p5 := (b6.all 5 _ rfl).1
   have hRW : R < W2.heap.size := by have h1 := unhide HRlt; have h2 := unhide HXlt; have h3 := unhide HR; omega
   have G0 := (unhide HG).mono (S' := fun j => j = X ∨ j = R) (fun j e => Or.inl e)
   have G1 := G0.set (X := R) hRW (Or.inr rfl) (bR0.all 0 _ rfl).1 0 (.int .i64 (I : Int))
   have G2 := G1.set (X := R) hRW (Or.inr rfl) ((bR0.put 0 (.int .i64 (I : Int))).all 0 _ rfl).1 1 (.slice sa k sc)
   have G3 := G2.set (X := R) hRW (Or.inr rfl) (((bR0.put 0 (.int .i64 (I : Int))).put 1 (.slice sa k sc)).all 0 _ rfl).1 2 (.int .i64 (I : Int))
   have G4 := G3.set (X := R) hRW (Or.inr rfl) ((((bR0.put 0 (.int .i64 (I : Int))).put 1 (.slice sa k sc)).put 2 (.int .i64 (I : Int))).all 0 _ rfl).1 3 (.slice a k c)
   have G5 := G4.set (X := R) hRW (Or.inr rfl) (((((bR0.put 0 (.int .i64 (I : Int))).put 1 (.slice sa k sc)).put 2 (.int .i64 (I : Int))).put 3 (.slice a k c)).all 0 _ rfl).1 4 (.slice b m d)
   have G6 := G5.set (X := R) hRW (Or.inr rfl) ((((((bR0.put 0 (.int .i64 (I : Int))).put 1 (.slice sa k sc)).put 2 (.int .i64 (I : Int))).put 3 (.slice a k c)).put 4 (.slice b m d)).all 0 _ rfl).1 5 (.slice (some ⟨g, 0, none⟩) k k)
   obtain ⟨sa', sc', he, hsf⟩ := G6.sl (by rw [hTl]; unfold maxLen; omega)
   rw [hTl] at he hsf
   cases he
   have hle1 : w.heap.size ≤ R := by have := unhide HR; omega
   have hbw : Below w.heap.size w wr := (unhide HB).trans (((unhide HB1).trans ((unhide HBR1).mono (unhide HB1).size)).mono (unhide HB).size)
   have HE := hide (hbw.trans (hc6.below (B := w.heap.size) hbw.size (fun j hj e => by omega)))
   have HSF := hide hsf
   have HLV := hide (((unhide HRV).below (unhide HBR1)).chg hc6 (fun e => by have h1 := unhide HR; have h2 := (unhide HBR).lt; omega))
   clear bR0 b6 hc6 G0 G1 G2 G3 G4 G5 G6 hsf hsl bX hbr hbw
   go_wp2_with fail
   refine bodyPost_ret (v := .tuple #[.agg #[.int .i64 (I : Int), .slice sa k sc, .int .i64 (I : Int), .slice a k c, .slice b m d, .slice (some ⟨g, 0, none⟩) k k], .int .i64 0, .int .i64 0]) (by simp [results, Tryz.results19, go_sem, p0, p1, p2, p3, p4, p5]; try rfl) rfl ?_
   exact ⟨sa, sc, T, g, rfl, unhide HT, unhide HSF, unhide HLV, unhide HE⟩
end Go.Proofs.YtbbicappjicblaaGreatDoor
namespace Go.Proofs.YtbbicappjicblaaGreatDoor
open Go.RowKit Go.Deep
set_option linter.unusedVariables false
set_option maxHeartbeats 8000000 in
theorem rcapped_any (x : Int) (w : World) : Calls Tryz.prog 84 #[.int .i64 x] w fun e w' => e = .returned (.int .i64 (capI x)) ∧ w' = w := by
 have HE := hide (show min x 1099511627776 = capI x from by unfold capI; split <;> omega)
 go_enter Tryz.func84, Tryz.ntmps84
 go_wp2_with fail
 try go_ret
 exact ⟨by rw [← unhide HE]; (first | rfl | (simp; omega)), rfl⟩
end Go.Proofs.YtbbicappjicblaaGreatDoor
namespace Go.Proofs.YtbbicappjicblaaGreatDoor
open Go.RowKit Go.Deep
set_option linter.unusedVariables false
set_option linter.unusedSimpArgs false
def pwD (d : Nat → Int) (mv : Nat → Bool) (A : Nat) (n : Int) : Int := if n = 0 then 0 else if 0 < n ∧ d A ≠ -1 then capI (n * d A) else if n < 0 ∧ mv A = false then 0 else -1
set_option maxRecDepth 100000 in
set_option maxHeartbeats 8000000 in
theorem rpower_any (I : Nat) (sa : Option Addr) (k sc : Nat) (T : List Bs.SetC) (f : Nat → Nat → Bool) (i : Int) (ta : Option Addr) (tn tc : Nat) (tb : Option Addr) (tm td : Nat) (la : Option Addr) (ln lc : Nat) (A : Nat) (n : Int) (da : Option Addr) (kd dc : Nat) (d : Nat → Int) (w : World) (hkd : kd ≤ k) (hT : WkT I k T f) (hs : Bs.SlS w sa k sc T) (hA : A < kd) (hd : SlI w da kd dc ((List.range kd).map d)) (hr : ∀ v, -1 ≤ d v ∧ d v ≤ 1099511627776) (hn : -1024 ≤ n ∧ n ≤ 1024) :
  Calls Tryz.prog 83 #[wkV (I : Int) sa k sc i ta tn tc tb tm td la ln lc, .int .i64 (A : Int), .int .i64 n, .slice da kd dc] w fun e w' => e = .returned (.int .i64 (pwD d (fun v => mvP I (f v)) A n)) ∧ Below w.heap.size w w' := by
 obtain ⟨wa, hwa⟩ : ∃ x, w.alloc (.cells #[.int .i64 (I : Int), .slice sa k sc, .int .i64 i, .slice ta tn tc, .slice tb tm td, .slice la ln lc] 63) = x := ⟨_, rfl⟩
 have bx : BoxP wa w.heap.size [.int .i64 (I : Int), .slice sa k sc, .int .i64 i, .slice ta tn tc, .slice tb tm td, .slice la ln lc] := by rw [← hwa]; exact BoxP.made _ _ _
 have hba : Below w.heap.size w wa := by rw [← hwa]; exact (Below.refl _ _).alloc (Nat.le_refl _) _
 have x0 := (bx.all 0 _ rfl).1
 have x1 := (bx.all 1 _ rfl).1
 have x2 := (bx.all 2 _ rfl).1
 have x3 := (bx.all 3 _ rfl).1
 have x4 := (bx.all 4 _ rfl).1
 have x5 := (bx.all 5 _ rfl).1
 obtain ⟨db, dz, rfl, hdc⟩ := (hd.below hba).at (by omega)
 have eA : ((List.range kd).map d).getD A 0 = d A := by rw [List.getD_eq_getElem?_getD, List.getElem?_map, List.getElem?_range hA]; rfl
 have dA := hdc A hA
 rw [eA] at dA
 have HM := hide (fun (W : World) (hb : Below wa.heap.size wa W) => rmoves_any I sa k sc T f i ta tn tc tb tm td la ln lc A W hT ((hs.below hba).below hb) (by omega))
 have rA := hr A
 obtain ⟨R, hR⟩ : ∃ R, pwD d (fun v => mvP I (f v)) A n = R := ⟨_, rfl⟩
 rw [hR]
 unfold pwD at hR
 obtain ⟨DA, hDA⟩ : ∃ x, d A = x := ⟨_, rfl⟩
 rw [hDA] at dA rA hR
 have kA : (A : Int) < (kd : Int) := by omega
 have HB := hide hba
 unfold wkV at HM ⊢
 clear bx hba hdc eA hDA hs hT hr hd
 by_cases c0 : n = 0
 ·rw [if_pos c0] at hR
  have HR := hide hR.symm
  have q0 : (n == 0) = true := by simpa using c0
  clear hR c0
  go_enter Tryz.func83, Tryz.ntmps83
  go_wp2_with fail
  try go_ret
  exact ⟨by rw [unhide HR]; try rfl, unhide HB⟩
 have q0 : (n == 0) = false := by simpa using c0
 rw [if_neg c0] at hR
 by_cases c2 : 0 < n
 ·have c3 : ¬ n < 0 := by omega
  by_cases c1 : DA = -1
  ·rw [if_neg (fun g => g.2 c1), if_neg (fun g => c3 g.1)] at hR
   have HR := hide hR.symm
   have q1 : (DA != -1) = false := by simpa using c1
   clear hR c1 c0
   go_enter Tryz.func83, Tryz.ntmps83
   go_wp2_with fail
   try go_ret
   exact ⟨by rw [unhide HR]; try rfl, unhide HB⟩
  ·rw [if_pos ⟨c2, c1⟩] at hR
   have HR := hide hR.symm
   have q1 : (DA != -1) = true := by simpa using c1
   obtain ⟨X, hX⟩ : ∃ X, n * DA = X := ⟨_, rfl⟩
   have hX1 : 0 ≤ X := by rw [← hX]; exact Int.mul_nonneg (by omega) (by omega)
   have hX2 : X ≤ 1024 * 1099511627776 := by rw [← hX]; exact Int.mul_le_mul hn.2 rA.2 (by omega) (by omega)
   rw [hX] at HR
   have HX := hide hX
   have HCp := hide rcapped_any
   clear hR c1 c0 hX
   go_enter Tryz.func83, Tryz.ntmps83
   go_wp2_with fail
   rw [unhide HX, show wrap64 X = X from by unfold wrap64; omega]
   refine (unhide HCp X _).mono ?_
   rintro _ wz ⟨rfl, hw⟩
   obtain rfl := hw.symm
   clear hw
   go_wp2_with fail
   try go_ret
   exact ⟨by rw [unhide HR]; try rfl, unhide HB⟩
 ·have c3 : n < 0 := by omega
  rw [if_neg (fun g => c2 g.1)] at hR
  cases c4 : mvP I (f A)
  ·rw [if_pos ⟨c3, c4⟩] at hR
   have HR := hide hR.symm
   rw [c4] at HM
   clear hR c4 c0
   go_enter Tryz.func83, Tryz.ntmps83
   go_wp2_with fail
   refine (unhide HM _ (Below.refl _ _)).mono ?_
   rintro _ w1 ⟨rfl, b1⟩
   have HB := hide ((unhide HB).trans (b1.mono (unhide HB).size))
   clear b1 HM
   go_wp2_with fail
   try go_ret
   exact ⟨by rw [unhide HR]; try rfl, unhide HB⟩
  ·rw [if_neg (fun g => by have g2 := g.2; dsimp only at g2; rw [c4] at g2; cases g2)] at hR
   have HR := hide hR.symm
   rw [c4] at HM
   clear hR c4 c0
   go_enter Tryz.func83, Tryz.ntmps83
   go_wp2_with fail
   refine (unhide HM _ (Below.refl _ _)).mono ?_
   rintro _ w1 ⟨rfl, b1⟩
   have HB := hide ((unhide HB).trans (b1.mono (unhide HB).size))
   clear b1 HM
   go_wp2_with fail
   try go_ret
   exact ⟨by rw [unhide HR]; try rfl, unhide HB⟩
end Go.Proofs.YtbbicappjicblaaGreatDoor
