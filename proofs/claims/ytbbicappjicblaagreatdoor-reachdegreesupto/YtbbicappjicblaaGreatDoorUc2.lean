/- Ub8 -/
import Derived.Test.YtbbicappjicblaaGreatDoorUb7
import Derived.Test.YtbbicappjicblaaGreatDoorRv5
namespace Go.Proofs.YtbbicappjicblaaGreatDoor
open Go.RowKit Go.Deep
set_option linter.unusedVariables false
set_option linter.unusedSimpArgs false
set_option maxRecDepth 100000 in
set_option maxHeartbeats 16000000 in
theorem rjoins_any (I : Nat) (sa : Option Addr) (k sc : Nat) (T : List Bs.SetC) (f : Nat → Nat → Bool) (i : Int) (ta : Option Addr) (tn tc : Nat) (tb : Option Addr) (tm td : Nat) (la : Option Addr) (ln lc : Nat) (o : On) (w : World) (hT : WkT I k T f) (hs : Bs.SlS w sa k sc T) (h1 : 1 ≤ o.k) (h8 : o.k ≤ 8) (ho : ∀ v ∈ opsL o, 0 ≤ v ∧ v < (k : Int)) :
  Calls Tryz.prog 60 #[wkV (I : Int) sa k sc i ta tn tc tb tm td la ln lc, opV o] w fun e w' => e = .returned (.bool (jnO (fun v => mvP I (f v)) o)) ∧ Below w.heap.size w w' := by
 obtain ⟨wa, hwa⟩ : ∃ x, w.alloc (.cells #[.int .i64 (I : Int), .slice sa k sc, .int .i64 i, .slice ta tn tc, .slice tb tm td, .slice la ln lc] 63) = x := ⟨_, rfl⟩
 have bx : BoxP wa w.heap.size [.int .i64 (I : Int), .slice sa k sc, .int .i64 i, .slice ta tn tc, .slice tb tm td, .slice la ln lc] := by rw [← hwa]; exact BoxP.made _ _ _
 have hba : Below w.heap.size w wa := by rw [← hwa]; exact (Below.refl _ _).alloc (Nat.le_refl _) _
 have x0 := (bx.all 0 _ rfl).1
 have x1 := (bx.all 1 _ rfl).1
 have x2 := (bx.all 2 _ rfl).1
 have x3 := (bx.all 3 _ rfl).1
 have x4 := (bx.all 4 _ rfl).1
 have x5 := (bx.all 5 _ rfl).1
 obtain ⟨wo, hwo⟩ : ∃ x, wa.alloc (.cells #[.int .i64 o.k, .int .i64 o.a, .int .i64 o.b, .int .i64 o.n, .bool o.p.g, .slice o.p.a o.p.n o.p.c, .slice o.p.b o.p.m o.p.d] 73) = x := ⟨_, rfl⟩
 have br : BoxP wo wa.heap.size [.int .i64 o.k, .int .i64 o.a, .int .i64 o.b, .int .i64 o.n, .bool o.p.g, .slice o.p.a o.p.n o.p.c, .slice o.p.b o.p.m o.p.d] := by rw [← hwo]; exact BoxP.made _ _ _
 have hbo : Below wa.heap.size wa wo := by rw [← hwo]; exact (Below.refl _ _).alloc (Nat.le_refl _) _
 have x0 := (hbo.cell (World.block_lt_of_cell? _ _ x0)).trans x0
 have x1 := (hbo.cell (World.block_lt_of_cell? _ _ x1)).trans x1
 have x2 := (hbo.cell (World.block_lt_of_cell? _ _ x2)).trans x2
 have x3 := (hbo.cell (World.block_lt_of_cell? _ _ x3)).trans x3
 have x4 := (hbo.cell (World.block_lt_of_cell? _ _ x4)).trans x4
 have x5 := (hbo.cell (World.block_lt_of_cell? _ _ x5)).trans x5
 have y0 := (br.all 0 _ rfl).1
 have y1 := (br.all 1 _ rfl).1
 have y2 := (br.all 2 _ rfl).1
 have y3 := (br.all 3 _ rfl).1
 have y4 := (br.all 4 _ rfl).1
 have y5 := (br.all 5 _ rfl).1
 have y6 := (br.all 6 _ rfl).1
 have HB := hide (hba.trans (hbo.mono hba.size))
 have hso := (hs.below hba).below hbo
 have HM := hide (fun (v : Nat) (hv : v < k) (W : World) (hb : Below wo.heap.size wo W) => rmoves_any I sa k sc T f i ta tn tc tb tm td la ln lc v W hT (hso.below hb) hv)
 have HF := hide (rfolds_any o h1 h8 wo)
 have HL := hide (show ∀ x ∈ flO o, (0 ≤ x.1 ∧ x.1 < (k : Int)) ∧ (0 ≤ x.2 ∧ x.2 < (k : Int)) from fun x hx => ⟨ho _ (fl_ops hx).1, ho _ (fl_ops hx).2⟩)
 have hl2 := fl_len o
 obtain ⟨R, hR⟩ : ∃ R, jnO (fun v => mvP I (f v)) o = R := ⟨_, rfl⟩
 rw [hR]
 rw [← fl_jn] at hR
 have HR := hide hR
 obtain ⟨L, hL⟩ : ∃ L, flO o = L := ⟨_, rfl⟩
 rw [hL] at HF HL HR hl2
 unfold wkV at HM ⊢
 unfold opV at HF ⊢
 clear bx br hba hbo hs hT hso hR hL ho
 go_enter Tryz.func60, Tryz.ntmps60
 go_wp2_with fail
 refine (unhide HF).mono ?_
 rintro _ w1 ⟨z, m, c, rfl, hz, b1⟩
 have hml := hz.len
 have HZ := hide hz
 have HB1 := hide b1
 have x0 := (b1.cell (World.block_lt_of_cell? _ _ x0)).trans x0
 have x1 := (b1.cell (World.block_lt_of_cell? _ _ x1)).trans x1
 have x2 := (b1.cell (World.block_lt_of_cell? _ _ x2)).trans x2
 have x3 := (b1.cell (World.block_lt_of_cell? _ _ x3)).trans x3
 have x4 := (b1.cell (World.block_lt_of_cell? _ _ x4)).trans x4
 have x5 := (b1.cell (World.block_lt_of_cell? _ _ x5)).trans x5
 have hm2 : m ≤ 2 := by omega
 have HML := hide hml
 clear hz b1 HF hwo hwa hml
 go_wp2_with fail
 go_loopw [10] (fun iv wr => ∃ q : Nat, q ≤ m ∧ iv = .int .i64 (q : Int) ∧ Hid (Below w1.heap.size w1 wr) ∧ Hid ((L.take q).any (fun x => mvP I (f x.1.toNat) && mvP I (f x.2.toNat)) = false)) (fun iv _ => m - (intOf iv).toNat)
 case atStart => exact ⟨0, Nat.zero_le _, rfl, hide (Below.refl _ _), hide (by simp)⟩
 case round =>
  obtain ⟨q, hq, rfl, HV, HA⟩ := hrel
  have x0 := ((unhide HV).cell (World.block_lt_of_cell? _ _ x0)).trans x0
  have x1 := ((unhide HV).cell (World.block_lt_of_cell? _ _ x1)).trans x1
  have x2 := ((unhide HV).cell (World.block_lt_of_cell? _ _ x2)).trans x2
  have x3 := ((unhide HV).cell (World.block_lt_of_cell? _ _ x3)).trans x3
  have x4 := ((unhide HV).cell (World.block_lt_of_cell? _ _ x4)).trans x4
  have x5 := ((unhide HV).cell (World.block_lt_of_cell? _ _ x5)).trans x5
  by_cases hlt : q < m
  ·have hlt' : (q : Int) < (m : Int) := by omega
   have hql : q < L.length := by have := unhide HML; omega
   rcases (((unhide HZ).below (unhide HV)).cells) with h0 | ⟨zb, zo, rfl, hc⟩
   ·rw [h0] at hql; exact absurd hql (by simp)
   obtain ⟨c0, c1⟩ := hc q hql
   have hxm : L.getD q (0, 0) ∈ L := by rw [List.getD_eq_getElem?_getD, List.getElem?_eq_getElem hql]; exact List.getElem_mem hql
   have HX := hide (show L.take (q + 1) = L.take q ++ [L.getD q (0, 0)] from by rw [List.take_succ_eq_append_getElem hql, List.getD_eq_getElem?_getD, List.getElem?_eq_getElem hql]; rfl)
   obtain ⟨⟨r1, r2⟩, r3, r4⟩ := unhide HL _ hxm
   obtain ⟨u, hu⟩ : ∃ u : Nat, (L.getD q (0, 0)).1 = (u : Int) := ⟨(L.getD q (0, 0)).1.toNat, by omega⟩
   obtain ⟨v, hv⟩ : ∃ v : Nat, (L.getD q (0, 0)).2 = (v : Int) := ⟨(L.getD q (0, 0)).2.toNat, by omega⟩
   have HXY := hide (show (mvP I (f (L.getD q (0, 0)).1.toNat) && mvP I (f (L.getD q (0, 0)).2.toNat)) = (mvP I (f u) && mvP I (f v)) from by rw [hu, hv]; rfl)
   have HXM := hide hxm
   rw [hu] at c0 r2
   rw [hv] at c1 r4
   have hzk : q * 2 < m * 2 := by omega
   obtain ⟨W3, hW3⟩ : ∃ x, wr.alloc (.cells #[.int .i64 (u : Int), .int .i64 (v : Int)] 152) = x := ⟨_, rfl⟩
   have br : BoxP W3 wr.heap.size [.int .i64 (u : Int), .int .i64 (v : Int)] := by rw [← hW3]; exact BoxP.made _ _ _
   have b3 : Below wr.heap.size wr W3 := by rw [← hW3]; exact (Below.refl _ _).alloc (Nat.le_refl _) _
   have e0 := (br.all 0 _ rfl).1
   have e1 := (br.all 1 _ rfl).1
   have x0 := (b3.cell (World.block_lt_of_cell? _ _ x0)).trans x0
   have x1 := (b3.cell (World.block_lt_of_cell? _ _ x1)).trans x1
   have x2 := (b3.cell (World.block_lt_of_cell? _ _ x2)).trans x2
   have x3 := (b3.cell (World.block_lt_of_cell? _ _ x3)).trans x3
   have x4 := (b3.cell (World.block_lt_of_cell? _ _ x4)).trans x4
   have x5 := (b3.cell (World.block_lt_of_cell? _ _ x5)).trans x5
   have HV3 := hide ((unhide HV).trans (b3.mono (unhide HV).size))
   have HB3 := hide ((unhide HB1).trans ((unhide HV3).mono (unhide HB1).size))
   have HM1 := hide (unhide HM u (by omega) W3 (unhide HB3))
   have HM2 := hide (fun (W : World) (hb : Below wo.heap.size wo W) => unhide HM v (by omega) W hb)
   clear hc hxm br b3 r1 r2 r3 r4 hu hv hql
   cases hmu : mvP I (f u)
   ·have HA2 := hide (show (L.take (q + 1)).any (fun x => mvP I (f x.1.toNat) && mvP I (f x.2.toNat)) = false from by
     rw [unhide HX, List.any_append, unhide HA, List.any_cons, List.any_nil, unhide HXY, hmu]; rfl)
    rw [hmu] at HM1
    clear hmu
    go_wp2_with fail
    refine (unhide HM1).mono ?_
    rintro _ w4 ⟨rfl, b4⟩
    have HV4 := hide ((unhide HV3).trans (b4.mono (unhide HV3).size))
    clear b4
    go_wp2_with fail
    exact ⟨⟨q + 1, by omega, by (first | rfl | go_num), HV4, HA2⟩, by simp [intOf]; omega⟩
   ·rw [hmu] at HM1
    cases hmv : mvP I (f v)
    ·have HA2 := hide (show (L.take (q + 1)).any (fun x => mvP I (f x.1.toNat) && mvP I (f x.2.toNat)) = false from by
      rw [unhide HX, List.any_append, unhide HA, List.any_cons, List.any_nil, unhide HXY, hmu, hmv]; rfl)
     rw [hmv] at HM2
     clear hmu hmv
     go_wp2_with fail
     refine (unhide HM1).mono ?_
     rintro _ w4 ⟨rfl, b4⟩
     have HV4 := hide ((unhide HV3).trans (b4.mono (unhide HV3).size))
     have e1 := (b4.cell (World.block_lt_of_cell? _ _ e1)).trans e1
     have x0 := (b4.cell (World.block_lt_of_cell? _ _ x0)).trans x0
     have x1 := (b4.cell (World.block_lt_of_cell? _ _ x1)).trans x1
     have x2 := (b4.cell (World.block_lt_of_cell? _ _ x2)).trans x2
     have x3 := (b4.cell (World.block_lt_of_cell? _ _ x3)).trans x3
     have x4 := (b4.cell (World.block_lt_of_cell? _ _ x4)).trans x4
     have x5 := (b4.cell (World.block_lt_of_cell? _ _ x5)).trans x5
     clear b4
     go_wp2_with fail
     refine (unhide HM2 _ ((unhide HB1).trans ((unhide HV4).mono (unhide HB1).size))).mono ?_
     rintro _ w5 ⟨rfl, b5⟩
     have HV5 := hide ((unhide HV4).trans (b5.mono (unhide HV4).size))
     clear b5
     go_wp2_with fail
     exact ⟨⟨q + 1, by omega, by (first | rfl | go_num), HV5, HA2⟩, by simp [intOf]; omega⟩
    ·have HA2 := hide (show R = true from by
      rw [← unhide HR]
      exact List.any_eq_true.2 ⟨_, unhide HXM, by have := unhide HXY; rw [hmu, hmv] at this; exact this⟩)
     rw [hmv] at HM2
     clear hmu hmv
     go_wp2_with fail
     refine (unhide HM1).mono ?_
     rintro _ w4 ⟨rfl, b4⟩
     have HV4 := hide ((unhide HV3).trans (b4.mono (unhide HV3).size))
     have e1 := (b4.cell (World.block_lt_of_cell? _ _ e1)).trans e1
     have x0 := (b4.cell (World.block_lt_of_cell? _ _ x0)).trans x0
     have x1 := (b4.cell (World.block_lt_of_cell? _ _ x1)).trans x1
     have x2 := (b4.cell (World.block_lt_of_cell? _ _ x2)).trans x2
     have x3 := (b4.cell (World.block_lt_of_cell? _ _ x3)).trans x3
     have x4 := (b4.cell (World.block_lt_of_cell? _ _ x4)).trans x4
     have x5 := (b4.cell (World.block_lt_of_cell? _ _ x5)).trans x5
     clear b4
     go_wp2_with fail
     refine (unhide HM2 _ ((unhide HB1).trans ((unhide HV4).mono (unhide HB1).size))).mono ?_
     rintro _ w5 ⟨rfl, b5⟩
     have HV5 := hide ((unhide HB1).trans (((unhide HV4).trans (b5.mono (unhide HV4).size)).mono (unhide HB1).size))
     clear b5
     go_wp2_with fail
     try go_ret
     exact ⟨by rw [unhide HA2]; rfl, (unhide HB).trans ((unhide HV5).mono (unhide HB).size)⟩
  ·obtain rfl : q = m := by omega
   have hlt' : ¬ (q : Int) < (q : Int) := by omega
   have HA2 := hide (show R = false from by
    rw [← unhide HR]
    have := unhide HA
    rw [List.take_of_length_le (by have := unhide HML; omega)] at this
    exact this)
   have HV5 := hide ((unhide HB1).trans ((unhide HV).mono (unhide HB1).size))
   go_wp2_with fail
   try go_ret
   exact ⟨by rw [unhide HA2]; rfl, (unhide HB).trans ((unhide HV5).mono (unhide HB).size)⟩
end Go.Proofs.YtbbicappjicblaaGreatDoor
namespace Go.Proofs.YtbbicappjicblaaGreatDoor
open Go.RowKit Go.Deep
set_option linter.unusedVariables false
def MkT (w : World) (a : Option Addr) (k : Nat) (f : Nat → Bool) : Prop := ∀ v, v < k → ∃ B, a = some ⟨B, 0, none⟩ ∧ w.cell? ⟨B, v, none⟩ = some (.bool (f v))
set_option maxRecDepth 100000 in
set_option maxHeartbeats 8000000 in
theorem ranyOf_any (ma : Option Addr) (k mc : Nat) (f : Nat → Bool) (z : Option Addr) (m c : Nat) (l : List Int) (w : World) (hM : MkT w ma k f) (hz : SlI w z m c l) (hl : ∀ x ∈ l, 0 ≤ x ∧ x < (k : Int)) (hk : k ≤ 2048) (hm2 : m ≤ 2) :
  Calls Tryz.prog 61 #[.slice ma k mc, .slice z m c] w fun e w' => e = .returned (.bool (l.any (fun a => f a.toNat))) ∧ w' = w := by
 have hm := hz.len
 obtain ⟨R, hR⟩ : ∃ R, l.any (fun a => f a.toNat) = R := ⟨_, rfl⟩
 rw [hR]
 have HR := hide hR
 have HM := hide hM
 have HZ := hide hz
 have HL := hide hl
 have HN := hide hm
 clear hM hz hl hm hR
 go_enter Tryz.func61, Tryz.ntmps61
 go_wp2_with fail
 go_loopw [9] (fun iv wr => ∃ q : Nat, q ≤ m ∧ iv = .int .i64 (q : Int) ∧ wr = w ∧ Hid ((l.take q).any (fun a => f a.toNat) = false)) (fun iv _ => m - (intOf iv).toNat)
 case atStart => exact ⟨0, Nat.zero_le _, rfl, rfl, hide (by simp)⟩
 case round =>
  obtain ⟨q, hq, rfl, rfl, HF⟩ := hrel
  by_cases hlt : q < m
  ·have hlt' : (q : Int) < (m : Int) := by omega
   have hql : q < l.length := by have := unhide HN; omega
   obtain ⟨zb, zo, rfl, hc⟩ := (unhide HZ).at (by omega)
   have sk := hc q hlt
   have hx := unhide HL (l.getD q 0) (by rw [List.getD_eq_getElem?_getD, List.getElem?_eq_getElem hql]; exact List.getElem_mem hql)
   obtain ⟨x, hxx⟩ : ∃ x : Nat, l.getD q 0 = (x : Int) := ⟨(l.getD q 0).toNat, by omega⟩
   have HX := hide (show l.take (q + 1) = l.take q ++ [(x : Int)] from by rw [List.take_succ_eq_append_getElem hql, ← hxx, List.getD_eq_getElem?_getD, List.getElem?_eq_getElem hql]; rfl)
   rw [hxx] at sk hx
   have HXL := hide hxx
   have hxk : (x : Int) < (k : Int) := hx.2
   obtain ⟨B, rfl, hb⟩ := unhide HM x (by omega)
   clear hc hxx hx
   cases hf : f x
   ·rw [hf] at hb
    have HF2 := hide (show (l.take (q + 1)).any (fun a => f a.toNat) = false from by rw [unhide HX, List.any_append, unhide HF]; simp [hf])
    clear hf hql
    go_wp2_with fail
    exact ⟨⟨q + 1, by omega, by (first | rfl | go_num), by (first | rfl | trivial), HF2⟩, by simp [intOf]; omega⟩
   ·rw [hf] at hb
    have HA := hide (show R = true from by
     rw [← unhide HR]
     exact List.any_eq_true.2 ⟨(x : Int), by rw [← unhide HXL, List.getD_eq_getElem?_getD, List.getElem?_eq_getElem hql]; exact List.getElem_mem hql, by simpa using hf⟩)
    clear hf hql
    go_wp2_with fail
    try go_ret
    exact ⟨by rw [unhide HA]; rfl, rfl⟩
  ·obtain rfl : q = m := by omega
   have hlt' : ¬ (q : Int) < (q : Int) := by omega
   have HA := hide (show R = false from by rw [← unhide HR]; have := unhide HF; rw [List.take_of_length_le (by have := unhide HN; omega)] at this; exact this)
   go_wp2_with fail
   try go_ret
   exact ⟨by rw [unhide HA]; rfl, rfl⟩
end Go.Proofs.YtbbicappjicblaaGreatDoor
namespace Go.Proofs.YtbbicappjicblaaGreatDoor
open Go.RowKit Go.Deep
set_option linter.unusedVariables false
set_option linter.unusedSimpArgs false
set_option maxRecDepth 100000 in
set_option maxHeartbeats 8000000 in
theorem wbends_1 (a b n : Int) (p : Nq) (u v : Nat) (w : World) :
  Calls Tryz.prog 40 #[opV ⟨1, a, b, n, p⟩, .int .i64 (u : Int), .int .i64 (v : Int)] w fun e w' => e = .returned (.bool (bnO ⟨1, a, b, n, p⟩ u v)) ∧ Below w.heap.size w w' := by
 obtain ⟨wo, hwo⟩ : ∃ x, w.alloc (.cells #[.int .i64 1, .int .i64 a, .int .i64 b, .int .i64 n, .bool p.g, .slice p.a p.n p.c, .slice p.b p.m p.d] 73) = x := ⟨_, rfl⟩
 have br : BoxP wo w.heap.size [.int .i64 1, .int .i64 a, .int .i64 b, .int .i64 n, .bool p.g, .slice p.a p.n p.c, .slice p.b p.m p.d] := by rw [← hwo]; exact BoxP.made _ _ _
 have hbo : Below w.heap.size w wo := by rw [← hwo]; exact (Below.refl _ _).alloc (Nat.le_refl _) _
 have HB := hide hbo
 have y0 := (br.all 0 _ rfl).1
 have y3 := (br.all 3 _ rfl).1
 obtain ⟨R, hR⟩ : ∃ R, bnO ⟨1, a, b, n, p⟩ u v = R := ⟨_, rfl⟩
 rw [hR]
 clear br hbo
 unfold opV
 have HR := hide (show R = false from by rw [← hR]; simp [bnO, *])
 clear hR 
 go_enter Tryz.func40, Tryz.ntmps40
 go_wp2_with fail
 try go_ret
 exact ⟨by rw [unhide HR]; try rfl, unhide HB⟩
set_option maxRecDepth 100000 in
set_option maxHeartbeats 8000000 in
theorem wbends_2 (a b n : Int) (p : Nq) (u v : Nat) (w : World) :
  Calls Tryz.prog 40 #[opV ⟨2, a, b, n, p⟩, .int .i64 (u : Int), .int .i64 (v : Int)] w fun e w' => e = .returned (.bool (bnO ⟨2, a, b, n, p⟩ u v)) ∧ Below w.heap.size w w' := by
 obtain ⟨wo, hwo⟩ : ∃ x, w.alloc (.cells #[.int .i64 2, .int .i64 a, .int .i64 b, .int .i64 n, .bool p.g, .slice p.a p.n p.c, .slice p.b p.m p.d] 73) = x := ⟨_, rfl⟩
 have br : BoxP wo w.heap.size [.int .i64 2, .int .i64 a, .int .i64 b, .int .i64 n, .bool p.g, .slice p.a p.n p.c, .slice p.b p.m p.d] := by rw [← hwo]; exact BoxP.made _ _ _
 have hbo : Below w.heap.size w wo := by rw [← hwo]; exact (Below.refl _ _).alloc (Nat.le_refl _) _
 have HB := hide hbo
 have y0 := (br.all 0 _ rfl).1
 have y3 := (br.all 3 _ rfl).1
 obtain ⟨R, hR⟩ : ∃ R, bnO ⟨2, a, b, n, p⟩ u v = R := ⟨_, rfl⟩
 rw [hR]
 clear br hbo
 unfold opV
 have HR := hide (show R = false from by rw [← hR]; simp [bnO, *])
 clear hR 
 go_enter Tryz.func40, Tryz.ntmps40
 go_wp2_with fail
 try go_ret
 exact ⟨by rw [unhide HR]; try rfl, unhide HB⟩
set_option maxRecDepth 100000 in
set_option maxHeartbeats 8000000 in
theorem wbends_3 (a b n : Int) (p : Nq) (u v : Nat) (w : World) :
  Calls Tryz.prog 40 #[opV ⟨3, a, b, n, p⟩, .int .i64 (u : Int), .int .i64 (v : Int)] w fun e w' => e = .returned (.bool (bnO ⟨3, a, b, n, p⟩ u v)) ∧ Below w.heap.size w w' := by
 obtain ⟨wo, hwo⟩ : ∃ x, w.alloc (.cells #[.int .i64 3, .int .i64 a, .int .i64 b, .int .i64 n, .bool p.g, .slice p.a p.n p.c, .slice p.b p.m p.d] 73) = x := ⟨_, rfl⟩
 have br : BoxP wo w.heap.size [.int .i64 3, .int .i64 a, .int .i64 b, .int .i64 n, .bool p.g, .slice p.a p.n p.c, .slice p.b p.m p.d] := by rw [← hwo]; exact BoxP.made _ _ _
 have hbo : Below w.heap.size w wo := by rw [← hwo]; exact (Below.refl _ _).alloc (Nat.le_refl _) _
 have HB := hide hbo
 have y0 := (br.all 0 _ rfl).1
 have y3 := (br.all 3 _ rfl).1
 obtain ⟨R, hR⟩ : ∃ R, bnO ⟨3, a, b, n, p⟩ u v = R := ⟨_, rfl⟩
 rw [hR]
 clear br hbo
 unfold opV
 have HR := hide (show R = false from by rw [← hR]; simp [bnO, *])
 clear hR 
 go_enter Tryz.func40, Tryz.ntmps40
 go_wp2_with fail
 try go_ret
 exact ⟨by rw [unhide HR]; try rfl, unhide HB⟩
set_option maxRecDepth 100000 in
set_option maxHeartbeats 8000000 in
theorem wbends_4 (a b n : Int) (p : Nq) (u v : Nat) (w : World) :
  Calls Tryz.prog 40 #[opV ⟨4, a, b, n, p⟩, .int .i64 (u : Int), .int .i64 (v : Int)] w fun e w' => e = .returned (.bool (bnO ⟨4, a, b, n, p⟩ u v)) ∧ Below w.heap.size w w' := by
 obtain ⟨wo, hwo⟩ : ∃ x, w.alloc (.cells #[.int .i64 4, .int .i64 a, .int .i64 b, .int .i64 n, .bool p.g, .slice p.a p.n p.c, .slice p.b p.m p.d] 73) = x := ⟨_, rfl⟩
 have br : BoxP wo w.heap.size [.int .i64 4, .int .i64 a, .int .i64 b, .int .i64 n, .bool p.g, .slice p.a p.n p.c, .slice p.b p.m p.d] := by rw [← hwo]; exact BoxP.made _ _ _
 have hbo : Below w.heap.size w wo := by rw [← hwo]; exact (Below.refl _ _).alloc (Nat.le_refl _) _
 have HB := hide hbo
 have y0 := (br.all 0 _ rfl).1
 have y3 := (br.all 3 _ rfl).1
 obtain ⟨R, hR⟩ : ∃ R, bnO ⟨4, a, b, n, p⟩ u v = R := ⟨_, rfl⟩
 rw [hR]
 clear br hbo
 unfold opV
 have HR := hide (show R = false from by rw [← hR]; simp [bnO, *])
 clear hR 
 go_enter Tryz.func40, Tryz.ntmps40
 go_wp2_with fail
 try go_ret
 exact ⟨by rw [unhide HR]; try rfl, unhide HB⟩
set_option maxRecDepth 100000 in
set_option maxHeartbeats 8000000 in
theorem wbends_5 (a b n : Int) (p : Nq) (u v : Nat) (w : World) :
  Calls Tryz.prog 40 #[opV ⟨5, a, b, n, p⟩, .int .i64 (u : Int), .int .i64 (v : Int)] w fun e w' => e = .returned (.bool (bnO ⟨5, a, b, n, p⟩ u v)) ∧ Below w.heap.size w w' := by
 obtain ⟨wo, hwo⟩ : ∃ x, w.alloc (.cells #[.int .i64 5, .int .i64 a, .int .i64 b, .int .i64 n, .bool p.g, .slice p.a p.n p.c, .slice p.b p.m p.d] 73) = x := ⟨_, rfl⟩
 have br : BoxP wo w.heap.size [.int .i64 5, .int .i64 a, .int .i64 b, .int .i64 n, .bool p.g, .slice p.a p.n p.c, .slice p.b p.m p.d] := by rw [← hwo]; exact BoxP.made _ _ _
 have hbo : Below w.heap.size w wo := by rw [← hwo]; exact (Below.refl _ _).alloc (Nat.le_refl _) _
 have HB := hide hbo
 have y0 := (br.all 0 _ rfl).1
 have y3 := (br.all 3 _ rfl).1
 obtain ⟨R, hR⟩ : ∃ R, bnO ⟨5, a, b, n, p⟩ u v = R := ⟨_, rfl⟩
 rw [hR]
 clear br hbo
 unfold opV
 by_cases c : u = v
 ·subst c
  have q : ((u : Int) != (u : Int)) = false := by simp
  have HR := hide (show R = false from by rw [← hR]; simp [bnO, *])
  clear hR 
  go_enter Tryz.func40, Tryz.ntmps40
  go_wp2_with fail
  try go_ret
  exact ⟨by rw [unhide HR]; try rfl, unhide HB⟩
 ·have q : ((u : Int) != (v : Int)) = true := by simp; omega
  have HR := hide (show R = true from by rw [← hR]; simp [bnO, *])
  clear hR 
  go_enter Tryz.func40, Tryz.ntmps40
  go_wp2_with fail
  try go_ret
  exact ⟨by rw [unhide HR]; try rfl, unhide HB⟩
set_option maxRecDepth 100000 in
set_option maxHeartbeats 8000000 in
theorem wbends_6 (a b n : Int) (p : Nq) (u v : Nat) (w : World) :
  Calls Tryz.prog 40 #[opV ⟨6, a, b, n, p⟩, .int .i64 (u : Int), .int .i64 (v : Int)] w fun e w' => e = .returned (.bool (bnO ⟨6, a, b, n, p⟩ u v)) ∧ Below w.heap.size w w' := by
 obtain ⟨wo, hwo⟩ : ∃ x, w.alloc (.cells #[.int .i64 6, .int .i64 a, .int .i64 b, .int .i64 n, .bool p.g, .slice p.a p.n p.c, .slice p.b p.m p.d] 73) = x := ⟨_, rfl⟩
 have br : BoxP wo w.heap.size [.int .i64 6, .int .i64 a, .int .i64 b, .int .i64 n, .bool p.g, .slice p.a p.n p.c, .slice p.b p.m p.d] := by rw [← hwo]; exact BoxP.made _ _ _
 have hbo : Below w.heap.size w wo := by rw [← hwo]; exact (Below.refl _ _).alloc (Nat.le_refl _) _
 have HB := hide hbo
 have y0 := (br.all 0 _ rfl).1
 have y3 := (br.all 3 _ rfl).1
 obtain ⟨R, hR⟩ : ∃ R, bnO ⟨6, a, b, n, p⟩ u v = R := ⟨_, rfl⟩
 rw [hR]
 clear br hbo
 unfold opV
 by_cases c : u = 1
 ·subst c
  have q : (((1 : Nat) : Int) == 1) = true := by simp
  have HR := hide (show R = true from by rw [← hR]; simp [bnO, *])
  clear hR 
  go_enter Tryz.func40, Tryz.ntmps40
  go_wp2_with fail
  try go_ret
  exact ⟨by rw [unhide HR]; try rfl, unhide HB⟩
 ·have q : ((u : Int) == 1) = false := by simp; omega
  by_cases c2 : v = 1
  ·subst c2
   have q2 : (((1 : Nat) : Int) == 1) = true := by simp
   have HR := hide (show R = true from by rw [← hR]; simp [bnO, *])
   clear hR 
   go_enter Tryz.func40, Tryz.ntmps40
   go_wp2_with fail
   try go_ret
   exact ⟨by rw [unhide HR]; try rfl, unhide HB⟩
  ·have q2 : ((v : Int) == 1) = false := by simp; omega
   have HR := hide (show R = false from by rw [← hR]; simp [bnO, *])
   clear hR 
   go_enter Tryz.func40, Tryz.ntmps40
   go_wp2_with fail
   try go_ret
   exact ⟨by rw [unhide HR]; try rfl, unhide HB⟩
set_option maxRecDepth 100000 in
set_option maxHeartbeats 8000000 in
theorem wbends_7 (a b n : Int) (p : Nq) (u v : Nat) (w : World) :
  Calls Tryz.prog 40 #[opV ⟨7, a, b, n, p⟩, .int .i64 (u : Int), .int .i64 (v : Int)] w fun e w' => e = .returned (.bool (bnO ⟨7, a, b, n, p⟩ u v)) ∧ Below w.heap.size w w' := by
 obtain ⟨wo, hwo⟩ : ∃ x, w.alloc (.cells #[.int .i64 7, .int .i64 a, .int .i64 b, .int .i64 n, .bool p.g, .slice p.a p.n p.c, .slice p.b p.m p.d] 73) = x := ⟨_, rfl⟩
 have br : BoxP wo w.heap.size [.int .i64 7, .int .i64 a, .int .i64 b, .int .i64 n, .bool p.g, .slice p.a p.n p.c, .slice p.b p.m p.d] := by rw [← hwo]; exact BoxP.made _ _ _
 have hbo : Below w.heap.size w wo := by rw [← hwo]; exact (Below.refl _ _).alloc (Nat.le_refl _) _
 have HB := hide hbo
 have y0 := (br.all 0 _ rfl).1
 have y3 := (br.all 3 _ rfl).1
 obtain ⟨R, hR⟩ : ∃ R, bnO ⟨7, a, b, n, p⟩ u v = R := ⟨_, rfl⟩
 rw [hR]
 clear br hbo
 unfold opV
 have HR := hide (show R = false from by rw [← hR]; simp [bnO, *])
 clear hR 
 go_enter Tryz.func40, Tryz.ntmps40
 go_wp2_with fail
 try go_ret
 exact ⟨by rw [unhide HR]; try rfl, unhide HB⟩
set_option maxRecDepth 100000 in
set_option maxHeartbeats 8000000 in
theorem wbends_8 (a b n : Int) (p : Nq) (u v : Nat) (w : World) :
  Calls Tryz.prog 40 #[opV ⟨8, a, b, n, p⟩, .int .i64 (u : Int), .int .i64 (v : Int)] w fun e w' => e = .returned (.bool (bnO ⟨8, a, b, n, p⟩ u v)) ∧ Below w.heap.size w w' := by
 obtain ⟨wo, hwo⟩ : ∃ x, w.alloc (.cells #[.int .i64 8, .int .i64 a, .int .i64 b, .int .i64 n, .bool p.g, .slice p.a p.n p.c, .slice p.b p.m p.d] 73) = x := ⟨_, rfl⟩
 have br : BoxP wo w.heap.size [.int .i64 8, .int .i64 a, .int .i64 b, .int .i64 n, .bool p.g, .slice p.a p.n p.c, .slice p.b p.m p.d] := by rw [← hwo]; exact BoxP.made _ _ _
 have hbo : Below w.heap.size w wo := by rw [← hwo]; exact (Below.refl _ _).alloc (Nat.le_refl _) _
 have HB := hide hbo
 have y0 := (br.all 0 _ rfl).1
 have y3 := (br.all 3 _ rfl).1
 obtain ⟨R, hR⟩ : ∃ R, bnO ⟨8, a, b, n, p⟩ u v = R := ⟨_, rfl⟩
 rw [hR]
 clear br hbo
 unfold opV
 by_cases c : n = 0
 ·have q : (n != 0) = false := by simpa using c
  have HR := hide (show R = false from by rw [← hR]; simp [bnO, *])
  clear hR c
  go_enter Tryz.func40, Tryz.ntmps40
  go_wp2_with fail
  try go_ret
  exact ⟨by rw [unhide HR]; try rfl, unhide HB⟩
 ·have q : (n != 0) = true := by simpa using c
  by_cases c2 : n = 1
  ·have q2 : (n != 1) = false := by simpa using c2
   have HR := hide (show R = false from by rw [← hR]; simp [bnO, *])
   clear hR c c2
   go_enter Tryz.func40, Tryz.ntmps40
   go_wp2_with fail
   try go_ret
   exact ⟨by rw [unhide HR]; try rfl, unhide HB⟩
  ·have q2 : (n != 1) = true := by simpa using c2
   have HR := hide (show R = true from by rw [← hR]; simp [bnO, *])
   clear hR c c2
   go_enter Tryz.func40, Tryz.ntmps40
   go_wp2_with fail
   try go_ret
   exact ⟨by rw [unhide HR]; try rfl, unhide HB⟩
theorem wbends_any (o : On) (h1 : 1 ≤ o.k) (h8 : o.k ≤ 8) (u v : Nat) (w : World) : Calls Tryz.prog 40 #[opV o, .int .i64 (u : Int), .int .i64 (v : Int)] w fun e w' => e = .returned (.bool (bnO o u v)) ∧ Below w.heap.size w w' := by
 obtain ⟨k, a, b, n, p⟩ := o
 simp only at h1 h8
 obtain ⟨j, rfl⟩ : ∃ j : Nat, k = (j : Int) := ⟨k.toNat, by omega⟩
 match j, (show 1 ≤ j by omega), (show j ≤ 8 by omega) with
 | 1, _, _ => exact wbends_1 a b n p u v w
 | 2, _, _ => exact wbends_2 a b n p u v w
 | 3, _, _ => exact wbends_3 a b n p u v w
 | 4, _, _ => exact wbends_4 a b n p u v w
 | 5, _, _ => exact wbends_5 a b n p u v w
 | 6, _, _ => exact wbends_6 a b n p u v w
 | 7, _, _ => exact wbends_7 a b n p u v w
 | 8, _, _ => exact wbends_8 a b n p u v w
end Go.Proofs.YtbbicappjicblaaGreatDoor
