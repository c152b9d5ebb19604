/- Sp1 -/
import Derived.Test.YtbbicappjicblaaGreatDoorSi2
import Derived.Test.YtbbicappjicblaaGreatDoorTa0
import Derived.Test.YtbbicappjicblaaGreatDoorTe9
namespace Go.Proofs.YtbbicappjicblaaGreatDoor
open Go.RowKit Go.Deep
set_option linter.unusedVariables false
def UpS (xs : List Int) (n : Nat) : Prop := ∀ i, 0 < i → i < n → xs.getD (i - 1) 0 < xs.getD i 0
theorem UpS.lt {xs : List Int} {n : Nat} (h : UpS xs n) {i : Nat} : ∀ d, i + d + 1 < n → xs.getD i 0 < xs.getD (i + d + 1) 0
 | 0, hd => by have := h (i + 1) (by omega) (by omega); simpa using this
 | d + 1, hd => by
  have h1 := UpS.lt h d (by omega : i + d + 1 < n)
  have h2 := h (i + (d + 1) + 1) (by omega) hd
  rw [show i + (d + 1) + 1 - 1 = i + d + 1 by omega] at h2
  exact Int.lt_trans h1 h2
theorem UpS.lt' {xs : List Int} {n : Nat} (h : UpS xs n) {i j : Nat} (hij : i < j) (hj : j < n) : xs.getD i 0 < xs.getD j 0 := by
 have := h.lt (i := i) (j - i - 1) (by omega)
 rwa [show i + (j - i - 1) + 1 = j by omega] at this
def HasX (xs : List Int) (n : Nat) (t : Int) : Prop := ∃ k, k < n ∧ xs.getD k 0 = t
structure BsP (xs : List Int) (n : Nat) (t : Int) (i : Nat) : Prop where
 le : i ≤ n
 lo : ∀ k, k < i → xs.getD k 0 < t
 hi : ∀ k, i ≤ k → k < n → t ≤ xs.getD k 0
theorem BsP.has {xs : List Int} {n : Nat} {t : Int} {i : Nat} (h : BsP xs n t i) (hu : UpS xs n) (hl : i < n) : HasX xs n t ↔ xs.getD i 0 = t := by
 constructor
 ·rintro ⟨k, hk, e⟩
  rcases Nat.lt_trichotomy k i with c | c | c
  ·have := h.lo k c; omega
  ·rw [← c]; exact e
  ·have h1 := hu.lt' c hk
   have h2 := h.hi i (Nat.le_refl _) hl
   omega
 ·intro e
  exact ⟨i, hl, e⟩
theorem BsP.no {xs : List Int} {n : Nat} {t : Int} (h : BsP xs n t n) : ¬ HasX xs n t := by
 rintro ⟨k, hk, e⟩
 have := h.lo k hk
 omega
theorem BsP.ex (xs : List Int) (t : Int) : ∀ n, UpS xs n → ∃ i, BsP xs n t i
 | 0, _ => ⟨0, Nat.le_refl _, fun k hk => absurd hk (Nat.not_lt_zero _), fun k _ hk => absurd hk (Nat.not_lt_zero _)⟩
 | n + 1, hu => by
  obtain ⟨i, h⟩ := BsP.ex xs t n (fun i h1 h2 => hu i h1 (by omega))
  by_cases hl : i < n
  ·refine ⟨i, by have := h.le; omega, h.lo, fun k h1 h2 => ?_⟩
   by_cases e : k = n
   ·have h3 := hu.lt' (i := i) (j := n) hl (by omega)
    have h4 := h.hi i (Nat.le_refl _) hl
    rw [e]; omega
   ·exact h.hi k h1 (by omega)
  ·have e : i = n := by have := h.le; omega
   subst e
   by_cases c : xs.getD i 0 < t
   ·refine ⟨i + 1, by omega, fun k hk => ?_, fun k h1 h2 => by omega⟩
    by_cases e : k = i
    ·rw [e]; exact c
    ·exact h.lo k (by omega)
   ·refine ⟨i, by omega, h.lo, fun k h1 h2 => ?_⟩
    rw [show k = i by omega]; omega
theorem BsP.one {xs : List Int} {n : Nat} {t : Int} {i j : Nat} (h : BsP xs n t i) (k : BsP xs n t j) : i = j := by
 rcases Nat.lt_trichotomy i j with c | c | c
 ·have h1 := h.hi i (Nat.le_refl _) (by have := k.le; omega)
  have h2 := k.lo i c
  omega
 ·exact c
 ·have h1 := k.hi j (Nat.le_refl _) (by have := h.le; omega)
  have h2 := h.lo j c
  omega
structure RowAt (st cols : List Int) (width : Int) (k X Y : Nat) : Prop where
 hX : st.getD k 0 = (X : Int)
 hY : st.getD (k + 1) 0 = (Y : Int)
 le : X ≤ Y
 lt : Y ≤ cols.length
 row : RowP width cols X Y
theorem RowAt.up {st cols : List Int} {width : Int} {k X Y : Nat} (h : RowAt st cols width k X Y) : UpS ((cols.drop X).take (Y - X)) (Y - X) := fun i h1 h2 => ((RowP.sub h.le).2 h.row).up i h1 h2
structure HasP (rows width : Int) (st cols : List Int) (r c : Int) : Prop where
 may : MayP rows width st cols
 lo : 0 ≤ r
 hi : r < rows
 at_ : ∃ i, (st.getD r.toNat 0).toNat ≤ i ∧ i < (st.getD (r.toNat + 1) 0).toNat ∧ cols.getD i 0 = c
theorem RowAt.has {st cols : List Int} {width : Int} {k X Y : Nat} (h : RowAt st cols width k X Y) {rows : Int} (hm : MayP rows width st cols) (hk : (k : Int) < rows) (c : Int) : HasX ((cols.drop X).take (Y - X)) (Y - X) c ↔ HasP rows width st cols (k : Int) c := by
 have e : ∀ i, i < Y - X → ((cols.drop X).take (Y - X)).getD i 0 = cols.getD (X + i) 0 := fun i hi => by simp [List.getD, List.getElem?_drop, hi]
 have e1 : (st.getD ((k : Int)).toNat 0).toNat = X := by rw [show ((k : Int)).toNat = k by omega, h.hX]; omega
 have e2 : (st.getD (((k : Int)).toNat + 1) 0).toNat = Y := by rw [show ((k : Int)).toNat = k by omega, h.hY]; omega
 constructor
 ·rintro ⟨i, hi, hc⟩
  rw [e i hi] at hc
  exact ⟨hm, by omega, hk, X + i, by rw [e1]; omega, by rw [e2]; omega, hc⟩
 ·rintro ⟨_, _, _, i, h1, h2, hc⟩
  rw [e1] at h1
  rw [e2] at h2
  exact ⟨i - X, by omega, by rw [e _ (by omega), show X + (i - X) = i by omega]; exact hc⟩
end Go.Proofs.YtbbicappjicblaaGreatDoor

namespace Go.Proofs.YtbbicappjicblaaGreatDoor
open Go.RowKit Go.Deep
set_option linter.unusedVariables false

end Go.Proofs.YtbbicappjicblaaGreatDoor
namespace Go.Proofs.YtbbicappjicblaaGreatDoor
open Go.RowKit Go.Deep
set_option linter.unusedVariables false
theorem SlI.front {w : World} {a : Option Addr} {c : Nat} {xs ys : List Int} (h : SlI w a (xs.length + 3) c (xs ++ ys)) {n : Nat} {x : List Int} (hx : xs = x) (hn : x.length = n) : SlI w a n c x := by
 subst hx
 refine ⟨hn, by have := h.le; omega, h.cap, ?_⟩
 rcases h.cells with e | ⟨b, off, e, k⟩
 ·left
  exact (List.append_eq_nil_iff.1 e).1
 ·right
  refine ⟨b, off, e, fun i hi => ?_⟩
  have := k i (by simp; omega)
  rw [this]
  congr 2
  simp [List.getD, List.getElem?_append_left hi]
def TruQ (b : Bool) (P : Prop) : Prop := b = true ↔ P
theorem TruQ.con {b : Bool} {P R : Prop} (h : TruQ b P) (e : R ↔ P) : TruQ b R := Iff.trans h e.symm
def RoV (w : World) (b n : Nat) (f : Nat → Value) : Prop := ∀ i, i < n → w.cell? ⟨b, i, none⟩ = some (f i) ∧ w.frozen? ⟨b, i, none⟩ = false
theorem RoV.made (w : World) (n : Nat) (e : TypeId) (z : Value) : RoV (w.alloc (.cells (madeCells #[z] n) e)) w.heap.size n (fun _ => z) := by
 intro i hi
 refine ⟨?_, by simp⟩
 simp [madeCells, hi, Nat.mod_one]
theorem RoV.chg {S : Nat → Prop} {w w' : World} {b n : Nat} {f : Nat → Value} (h : RoV w b n f) (k : Chg S w w') (hs : ¬ S b) : RoV w' b n f := fun i hi => ⟨k.cell hs (h i hi).1, by rw [k.frzP (World.block_lt_of_cell? _ _ (h i hi).1) hs]; exact (h i hi).2⟩
theorem RoV.below {w w' : World} {b n : Nat} {f : Nat → Value} (h : RoV w b n f) (k : Below w.heap.size w w') : RoV w' b n f := h.chg (S := fun _ => False) (Chg.of_below k) (fun x => x)
theorem RoV.put {w : World} {b n : Nat} {f : Nat → Value} (h : RoV w b n f) (k : Nat) (v : Value) (hk : k < n) : RoV (w.setCell ⟨b, k, none⟩ v) b n (fun i => if i = k then v else f i) := by
 intro i hi
 rw [World.frozen?_setCell]
 refine ⟨?_, (h i hi).2⟩
 by_cases e : i = k
 ·subst e
  simp only [if_true]
  exact World.cell?_setCell_same _ _ _ (h i hi).1
 ·simp only [e, if_false]
  rw [World.cell?_setCell_other _ _ _ _ (by intro c; simp at c; first | done | omega)]
  exact (h i hi).1
theorem RoV.congr {w : World} {b n : Nat} {f g : Nat → Value} (h : RoV w b n f) (e : ∀ i, i < n → f i = g i) : RoV w b n g := fun i hi => by rw [← e i hi]; exact h i hi
noncomputable def tb (P : Prop) : Bool := @decide P (Classical.propDecidable P)
theorem Tryz.info_boolP : (Tryz.prog.info? 4).map (fun i => (i.zero, i.size, i.bytes)) = some (some (.bool false), 1, 1) := by kernel_rfl
theorem make_boolsP (n : Nat) (hn : n ≤ 35184372088000) (w : World) : (Instr.makeSlice 55 (.int .i64 (n : Int)) (.int .i64 (n : Int))).run Tryz.prog w = .ok (.slice (some ⟨w.heap.size, 0, none⟩) n n) (w.alloc (.cells (madeCells #[.bool false] n) 4)) :=
 run_make_row' (P := Tryz.prog) 55 4 (.bool false) 1 Tryz.underlying55 Tryz.info_boolP rfl .i64 .i64 n (by omega) (by omega) w
theorem take_next {l : List Int} {j : Nat} (hj : j < l.length) : l.take (j + 1) = l.take j ++ [l.getD j 0] := by
 rw [List.take_succ_eq_append_getElem hj, List.getD_eq_getElem?_getD, List.getElem?_eq_getElem hj]
 rfl
end Go.Proofs.YtbbicappjicblaaGreatDoor

namespace Go.Proofs.YtbbicappjicblaaGreatDoor
open Go.RowKit Go.Deep
set_option linter.unusedVariables false

end Go.Proofs.YtbbicappjicblaaGreatDoor
namespace Go.Proofs.YtbbicappjicblaaGreatDoor
open Go.RowKit Go.Deep
set_option linter.unusedVariables false
def mkB (L : List Int) (v : Nat) : Bool := decide ((v : Int) ∈ L)
theorem mkB_app (L : List Int) (x v : Nat) : mkB (L ++ [(x : Int)]) v = if v = x then true else mkB L v := by
 unfold mkB
 by_cases e : v = x
 ·subst e; simp
 ·rw [if_neg e]
  simp
  omega
def lvL (os : List On) (ys : List Int) : Nat → List Int
 | 0 => ys
 | k + 1 => match os[os.length - 1 - k]? with
  | some o => if mkB (lvL os ys k) (os.length - 1 - k) then lvL os ys k ++ opsL o else lvL os ys k
  | none => lvL os ys k
theorem lvL_yes {os : List On} {ys : List Int} {k j n : Nat} {o : On} (hn : os.length = n) (hj : n - 1 - k = j) (ho : os[j]? = some o) (h : mkB (lvL os ys k) j = true) : lvL os ys (k + 1) = lvL os ys k ++ opsL o := by
 show (match os[os.length - 1 - k]? with | some o => _ | none => _) = _
 rw [hn, hj, ho]
 simp only [h, if_true]
theorem lvL_no {os : List On} {ys : List Int} {k j n : Nat} {o : On} (hn : os.length = n) (hj : n - 1 - k = j) (ho : os[j]? = some o) (h : mkB (lvL os ys k) j = false) : lvL os ys (k + 1) = lvL os ys k := by
 show (match os[os.length - 1 - k]? with | some o => _ | none => _) = _
 rw [hn, hj, ho]
 simp [h]
set_option maxRecDepth 100000 in
set_option maxHeartbeats 32000000 in
theorem tlive_any (i : Int) (a : Option Addr) (n c : Nat) (os : List On) (b : Option Addr) (m d : Nat) (ys : List Int) (w : World) (hs : SlO w a n c os) (hy : SlI w b m d ys) (hk : TpOk i os ys) :
  Calls Tryz.prog 66 #[tapV i a n c b m d] w fun e w' => ∃ g, e = .returned (.slice (some ⟨g, 0, none⟩) n n) ∧ w.heap.size ≤ g ∧ RoV w' g n (fun v => .bool (mkB (lvL os ys n) v)) ∧ Below w.heap.size w w' := by
 have hn := hs.len
 have hm := hy.len
 have hn2 : n ≤ 2048 := by have := hk.lo; omega
 have hm2 : m ≤ 64 := by have := hk.ly; omega
 obtain ⟨wa, hwa⟩ : ∃ x, w.alloc (.cells #[.int .i64 i, .slice a n c, .slice b m d] 25) = x := ⟨_, rfl⟩
 have bx : BoxP wa w.heap.size [.int .i64 i, .slice a n c, .slice b m d] := by rw [← hwa]; exact BoxP.made _ _ _
 have hba : Below w.heap.size w wa := by rw [← hwa]; exact (Below.refl _ _).alloc (Nat.le_refl _) _
 have hmk := make_boolsP n (by omega) wa
 have hR := RoV.made wa n 4 (.bool false)
 obtain ⟨wm, hwm⟩ : ∃ x, wa.alloc (.cells (madeCells #[.bool false] n) 4) = x := ⟨_, rfl⟩
 have bm : Below wa.heap.size wa wm := by rw [← hwm]; exact (Below.refl _ _).alloc (Nat.le_refl _) _
 have hgm : wa.heap.size < wm.heap.size := by rw [← hwm]; simp
 rw [hwm] at hmk hR
 have g1 := (bx.all 1 _ rfl).1
 have g2 := (bx.all 2 _ rfl).1
 have p1 := ((bx.below bm).all 1 _ rfl).1
 have p2 := ((bx.below bm).all 2 _ rfl).1
 have zlt : w.heap.size < wa.heap.size := bx.lt
 obtain ⟨g, hg⟩ : ∃ g, wa.heap.size = g := ⟨_, rfl⟩
 have HG := hide hg
 have HA := hide hba
 have HM := hide bm
 have HS := hide (hs.below hba)
 have HY := hide (hy.below hba)
 have HK := hide hk
 have HN := hide (And.intro hn (And.intro hm (And.intro zlt hgm)))
 have HR := hide (show RoV wm g n (fun v => .bool (mkB (ys.take 0) v)) from by
  rw [hg] at hR
  exact hR.congr (fun v _ => by simp [mkB]))
 rw [hg] at hmk
 clear bx hba bm hs hy hR hk hwm zlt hgm hn hm hg
 unfold tapV
 go_enter Tryz.func66, Tryz.ntmps66
 go_wp2_with fail
 have KP : ∀ wr, Hid (Chg (fun j => j = g) wm wr) → Below wa.heap.size wa wr := fun wr h => (unhide HM).trans ((unhide h).below (unhide HM).size (fun j hj e => by have := unhide HG; omega))
 go_loopw [16] (fun jv wr => ∃ j : Nat, j ≤ m ∧ jv = .int .i64 (j : Int) ∧ Hid (RoV wr g n (fun v => .bool (mkB (ys.take j) v))) ∧ Hid (Chg (fun j => j = g) wm wr)) (fun jv _ => m - (intOf jv).toNat)
 case atStart => exact ⟨0, Nat.zero_le _, rfl, HR, hide (Chg.refl _ _)⟩
 case round =>
  obtain ⟨j, hj, rfl, HRj, HCj⟩ := hrel
  have HBA := hide (KP _ HCj)
  have r1 := ((unhide HBA).cell (World.block_lt_of_cell? _ _ g1)).trans g1
  have r2 := ((unhide HBA).cell (World.block_lt_of_cell? _ _ g2)).trans g2
  by_cases hlj : j < m
  ·have hlj' : (j : Int) < (m : Int) := by omega
   have hym := (unhide HN).2.1
   obtain ⟨zb, zo, rfl, hc⟩ := ((unhide HY).below (unhide HBA)).at (by omega)
   have sk := hc j hlj
   obtain ⟨v, hv⟩ : ∃ v : Nat, ys.getD j 0 = (v : Int) ∧ v < n := by
    have h1 := (unhide HK).out (ys.getD j 0) (by rw [List.getD_eq_getElem?_getD, List.getElem?_eq_getElem (by omega)]; exact List.getElem_mem (by omega))
    have h2 := (unhide HN).1
    exact ⟨(ys.getD j 0).toNat, by omega, by omega⟩
   obtain ⟨hv, hvn⟩ := hv
   have hnx := take_next (l := ys) (j := j) (by omega)
   rw [hv] at sk hnx
   have HNX := hide hnx
   have hvn' : (v : Int) < (n : Int) := by omega
   have q1 := (unhide HRj v hvn).1
   have q2 := (unhide HRj v hvn).2
   have HRN := hide (show RoV (wr.setCell ⟨g, v, none⟩ (.bool true)) g n (fun u => .bool (mkB (ys.take (j + 1)) u)) from ((unhide HRj).put v (.bool true) hvn).congr (fun u hu => by
    rw [unhide HNX, mkB_app]
    by_cases e : u = v
    ·rw [if_pos e, if_pos e]
    ·rw [if_neg e, if_neg e]))
   have HCN := hide (show Chg (fun j => j = g) wm (wr.setCell ⟨g, v, none⟩ (.bool true)) from (unhide HCj).trans (Chg.of_set _ _ _ _ rfl))
   clear hc hv hnx hym hmk KP
   go_wp2_with fail
   exact ⟨⟨j + 1, by omega, by (first | rfl | go_num), HRN, HCN⟩, by simp [intOf]; omega⟩
  ·obtain rfl : j = m := by omega
   have hlj' : ¬ (j : Int) < (j : Int) := by omega
   have hym := (unhide HN).2.1
   have HR1 := hide (show RoV wr g n (fun v => .bool (mkB (lvL os ys 0) v)) from (unhide HRj).congr (fun v _ => by rw [List.take_of_length_le (by omega)]; rfl))
   have HPQ := hide KP
   clear hmk KP hym
   go_wp2_with fail
   go_loopw [6] (fun iv wr' => ∃ k : Nat, k ≤ n ∧ iv = .int .i64 ((n : Int) - 1 - (k : Int)) ∧ Hid (RoV wr' g n (fun v => .bool (mkB (lvL os ys k) v))) ∧ Hid (Chg (fun j => j = g) wm wr')) (fun iv _ => (intOf iv + 1).toNat)
   case atStart => exact ⟨0, Nat.zero_le _, by simp, HR1, HCj⟩
   case round =>
    obtain ⟨k, hkn, hiv, HRr, HC⟩ := hrel
    have HBA := hide ((unhide HPQ) _ HC)
    have r1 := ((unhide HBA).cell (World.block_lt_of_cell? _ _ g1)).trans g1
    by_cases hlt : k < n
    ·obtain ⟨i2, hi2⟩ : ∃ i2 : Nat, (n : Int) - 1 - (k : Int) = (i2 : Int) ∧ n - 1 - k = i2 ∧ i2 < n := ⟨n - 1 - k, by omega, rfl, by omega⟩
     obtain ⟨e1, e2, hi2n⟩ := hi2
     rw [e1] at hiv
     subst hiv
     have HE := hide (And.intro e1 e2)
     clear e1 e2
     have hlt' : 0 ≤ (i2 : Int) := by omega
     have hlt2 : (i2 : Int) < (n : Int) := by omega
     have q1 := (unhide HRr i2 hi2n).1
     obtain ⟨b1, off, o, rfl, ho, O, hok⟩ := ((unhide HS).below (unhide HBA)).at' hi2n
     obtain ⟨c0, c1, c2, c3, c4, c5, c6⟩ := O
     have HOO := hide ho
     obtain ⟨mk, hmk2⟩ : ∃ mk, mkB (lvL os ys k) i2 = mk := ⟨_, rfl⟩
     simp only [hmk2] at q1
     have HMK := hide hmk2
     clear hmk2 hok
     cases mk
     ·have HRN := hide (show RoV wr g n (fun v => .bool (mkB (lvL os ys (k + 1)) v)) from by rw [lvL_no (unhide HN).1 (unhide HE).2 (unhide HOO) (unhide HMK)]; exact unhide HRr)
      clear ho
      go_wp2_with fail
      exact ⟨⟨k + 1, by omega, by have h1 := (unhide HE).1; (first | (congr 1; omega) | (simp; omega) | go_num), HRN, HC⟩, by have h1 := (unhide HE).1; (first | (simp [intOf]; done) | (simp [intOf]; omega))⟩
     ·have hop := op_ok ((unhide HK).op i2 o ho)
      have HP := hide (fun (W : World) => (by
       have K := toperands_any o hop.1.1 hop.1.2 W
       unfold opV at K
       exact K : Calls Tryz.prog 86 #[.agg #[.int .i64 o.k, .int .i64 o.a, .int .i64 o.b, .int .i64 o.n, .bool o.p.g, .slice o.p.a o.p.n o.p.c, .slice o.p.b o.p.m o.p.d]] W (OpsA W (opsL o))))
      have HOP := hide hop.2.1
      have HLY := hide (lvL_yes (ys := ys) (unhide HN).1 (unhide HE).2 (unhide HOO) (unhide HMK))
      clear hop ho
      go_wp2_with fail
      refine (unhide HP _).mono ?_
      rintro _ w1 ⟨z, m1, c1', rfl, hz, hnew, bE⟩
      have HZ := hide hz
      have HNW := hide (show ∀ y, z = some y → y.block ≠ g from fun y e h => by have h1 := hnew y e; have h2 := (unhide HC).size; have h3 := (unhide HN).2.2.2; have h4 := unhide HG; omega)
      have HC1 := hide ((unhide HC).trans (Chg.of_below bE))
      have HR1 := hide (show RoV w1 g n (fun v => .bool (mkB (lvL os ys k ++ (opsL o).take 0) v)) from ((unhide HRr).below bE).congr (fun v _ => by simp))
      clear hz hnew bE HP c0 c1 c2 c3 c4 c5 c6 q1
      go_wp2_with fail
      go_loopw [44] (fun jv wr' => ∃ j : Nat, j ≤ m1 ∧ jv = .int .i64 (j : Int) ∧ Hid (RoV wr' g n (fun v => .bool (mkB (lvL os ys k ++ (opsL o).take j) v))) ∧ Hid (Chg (fun j => j = g) w1 wr')) (fun jv _ => m1 - (intOf jv).toNat)
      case atStart => exact ⟨0, Nat.zero_le _, rfl, HR1, hide (Chg.refl _ _)⟩
      case round =>
       obtain ⟨j, hj, rfl, HRj, HCj⟩ := hrel
       have hml := (unhide HZ).len
       have hm12 : m1 ≤ 2 := by have := opsL_len o; omega
       by_cases hlj : j < m1
       ·have hlj' : (j : Int) < (m1 : Int) := by omega
        have hzz := (unhide HZ).chg (unhide HCj) (fun y e hne h => unhide HNW y e h)
        obtain ⟨zb, zo, rfl, hc⟩ := hzz.at (by omega)
        have sk := hc j hlj
        obtain ⟨v, hv⟩ : ∃ v : Nat, (opsL o).getD j 0 = (v : Int) ∧ v < n := by
         have h1 := unhide HOP ((opsL o).getD j 0) (by rw [List.getD_eq_getElem?_getD, List.getElem?_eq_getElem (by omega)]; exact List.getElem_mem (by omega))
         exact ⟨((opsL o).getD j 0).toNat, by omega, by omega⟩
        obtain ⟨hv, hvn⟩ := hv
        have hnx := take_next (l := opsL o) (j := j) (by omega)
        rw [hv] at sk hnx
        have HNX := hide hnx
        have hvn' : (v : Int) < (n : Int) := by omega
        have q1 := (unhide HRj v hvn).1
        have q2 := (unhide HRj v hvn).2
        have HRN := hide (show RoV (wr.setCell ⟨g, v, none⟩ (.bool true)) g n (fun u => .bool (mkB (lvL os ys k ++ (opsL o).take (j + 1)) u)) from ((unhide HRj).put v (.bool true) hvn).congr (fun u hu => by
         rw [unhide HNX, ← List.append_assoc, mkB_app]
         by_cases e : u = v
         ·rw [if_pos e, if_pos e]
         ·rw [if_neg e, if_neg e]))
        have HCN := hide (show Chg (fun j => j = g) w1 (wr.setCell ⟨g, v, none⟩ (.bool true)) from (unhide HCj).trans (Chg.of_set _ _ _ _ rfl))
        clear hc hzz hv hnx
        go_wp2_with fail
        exact ⟨⟨j + 1, by omega, by (first | rfl | go_num), HRN, HCN⟩, by simp [intOf]; omega⟩
       ·obtain rfl : j = m1 := by omega
        have hlj' : ¬ (j : Int) < (j : Int) := by omega
        have HRN := hide (show RoV wr g n (fun v => .bool (mkB (lvL os ys (k + 1)) v)) from (unhide HRj).congr (fun v _ => by rw [unhide HLY, List.take_of_length_le (by omega)]))
        have HCN := hide (show Chg (fun j => j = g) wm wr from (unhide HC1).trans (unhide HCj))
        clear hml
        go_wp2_with fail
        exact ⟨⟨k + 1, by omega, by have h1 := (unhide HE).1; (first | (congr 1; omega) | (simp; omega) | go_num), HRN, HCN⟩, by have h1 := (unhide HE).1; (first | (simp [intOf]; done) | (simp [intOf]; omega))⟩
    ·obtain rfl : k = n := by omega
     have e1 : (k : Int) - 1 - (k : Int) = -1 := by omega
     rw [e1] at hiv
     subst hiv
     go_wp2_with fail
     try go_ret
     exact ⟨g, rfl, by have h1 := (unhide HN).2.2.1; have h2 := unhide HG; omega, unhide HRr, (unhide HA).trans ((unhide HBA).mono (unhide HA).size)⟩
end Go.Proofs.YtbbicappjicblaaGreatDoor
