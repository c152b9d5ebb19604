/-
  ORDERS: sloperef11.BackOf: contract.
-/
import Derived.Test.YtpmafjofkmefeaaCq6
import Derived.Test.YtpmafjofkmefeaaCq4
import Derived.Test.YtpmafjofkmefeaaCo1
namespace Go.Proofs.Ytpmafjofkmefeaa
open Go.RowKit Go.Deep
set_option linter.unusedVariables false

/-- The i-th thing of a list. -/
def thg (xs : List Int) (i : Nat) : Nat := (xs.getD i 0).toNat
/-- The first i things. -/
def inF (xs : List Int) : Nat → Nat → Bool
  | 0, _ => false
  | i + 1, u => if u = thg xs i then true else inF xs i u
/-- How many of a thing's neighbours are among the first i. -/
def amF (xs st cols : List Int) (i u : Nat) : Nat := amN (inF xs i) (rowL st cols u) (rowL st cols u).length
/-- The backs behind i steps. -/
def lbF (xs st cols : List Int) : Nat → Nat → Nat
  | 0, _ => 0
  | i + 1, u => if u = thg xs i then amF xs st cols i u else lbF xs st cols i u
/-- The greatest of the first k. -/
def moG (C : Nat → Nat) : Nat → Nat
  | 0 => 0
  | k + 1 => if moG C k < C k then C k else moG C k
set_option maxRecDepth 100000 in
set_option maxHeartbeats 16000000 in
/-- sloperef11.BackOf of a graph and an order. -/
theorem wobackOf_any (R : Nat) (a1 a2 : Option Addr) (n1 c1 n2 c2 : Nat) (st cols : List Int) (a : Option Addr) (c : Nat) (xs : List Int) (w : World) (h1 : SlI w a1 n1 c1 st) (h2 : SlI w a2 n2 c2 cols) (h3 : SlI w a R c xs) (hb1 : n1 ≤ 17592186044000) (hb2 : n2 ≤ 17592186044000) (hm : MayP (R : Int) (R : Int) st cols) (ho : OrdTo xs R R) :
    Calls Try.prog 43 #[patV (R : Int) (R : Int) a1 n1 c1 a2 n2 c2, .slice a R c] w fun e w' => ∃ g, w.heap.size ≤ g ∧ e = .returned (.tuple #[.int .i64 (moG (fun i => amF xs st cols i (thg xs i)) R : Int), .slice (some ⟨g, 0, none⟩) R R]) ∧ RoV w' g R (fun u => .int .i64 (lbF xs st cols R u : Int)) ∧ Below w.heap.size w w' := by
  have hR : R ≤ 128 := by have := hm.head.fit; omega
  obtain ⟨wb, hwb⟩ : ∃ x, w.alloc (.cells #[.int .i64 (R : Int), .int .i64 (R : Int), .slice a1 n1 c1, .slice a2 n2 c2] 24) = x := ⟨_, rfl⟩
  have bb : Below w.heap.size w wb := by rw [← hwb]; exact (Below.refl _ _).alloc (Nat.le_refl _) _
  have hT := BoxP.made w #[.int .i64 (R : Int), .int .i64 (R : Int), .slice a1 n1 c1, .slice a2 n2 c2] 24
  rw [hwb] at hT
  have p0 := (hT.all 0 _ rfl).1
  have hmk := make_boolsP R (by omega) wb
  have hRo := RoV.made wb R 4 (.bool false)
  obtain ⟨wm, hwm⟩ : ∃ x, wb.alloc (.cells (madeCells #[.bool false] R) 4) = x := ⟨_, rfl⟩
  have bm : Below wb.heap.size wb wm := by rw [← hwm]; exact (Below.refl _ _).alloc (Nat.le_refl _) _
  have hgl : wb.heap.size < wm.heap.size := by rw [← hwm]; simp
  rw [hwm] at hmk hRo
  have q0 := ((hT.below bm).all 0 _ rfl).1
  have hmk2 := make_intsR R (by omega) wm
  have hRo2 := RoV.made wm R 3 (.int .i64 0)
  obtain ⟨wn, hwn⟩ : ∃ x, wm.alloc (.cells (madeCells #[.int .i64 0] R) 3) = x := ⟨_, rfl⟩
  have bn : Below wm.heap.size wm wn := by rw [← hwn]; exact (Below.refl _ _).alloc (Nat.le_refl _) _
  have hgl2 : wm.heap.size < wn.heap.size := by rw [← hwn]; simp
  rw [hwn] at hmk2 hRo2
  have bwn := (bb.trans (bm.mono bb.size)).trans (bn.mono (Nat.le_trans bb.size bm.size))
  obtain ⟨gi, hgi⟩ : ∃ g, wb.heap.size = g := ⟨_, rfl⟩
  obtain ⟨gl, hgl3⟩ : ∃ g, wm.heap.size = g := ⟨_, rfl⟩
  have HG := hide (And.intro (show w.heap.size < gi by have := hT.lt; omega) (And.intro (show gi < gl by omega) (show gl < wn.heap.size by omega)))
  rw [hgi] at hmk hRo
  rw [hgl3] at hmk2 hRo2
  have HRo := hide (And.intro (hRo.chg (S := fun _ => False) (Chg.of_below bn) (fun x => x)) hRo2)
  have HT := hide ((hT.below bm).below bn)
  have HS := hide (And.intro h1 (And.intro h2 h3))
  have HM := hide hm
  have HO := hide ho
  have HBW := hide (fun (W : World) (k : Chg (fun j => j = gi ∨ j = gl) wn W) => (show Below w.heap.size w W from bwn.trans (k.below bwn.size (fun j hj e => by have := unhide HG; omega))))
  clear hT bb bm bn hRo hRo2 hwm hwn hgl hgl2 h1 h2 h3 hm ho bwn
  unfold patV
  go_enter Try.func43, Try.ntmps43
  go_wp2_with fail
  go_loopw [9, 8] (fun kv mv wr => ∃ k : Nat, k ≤ R ∧ kv = .int .i64 (k : Int) ∧ mv = .int .i64 (moG (fun i => amF xs st cols i (thg xs i)) k : Int) ∧ Hid (RoV wr gi R (fun u => .bool (inF xs k u))) ∧ Hid (RoV wr gl R (fun u => .int .i64 (lbF xs st cols k u : Int))) ∧ Hid (Chg (fun j => j = gi ∨ j = gl) wn wr)) (fun kv _ _ => R - (intOf kv).toNat)
  case atStart => exact ⟨0, Nat.zero_le _, rfl, rfl, hide (unhide HRo).1, hide (unhide HRo).2, hide (Chg.refl _ _)⟩
  case round =>
    obtain ⟨k, hk, rfl, rfl, HI, HL, HC⟩ := hrel
    clear p0 q0
    by_cases hlt : k < R
    · have hlt' : (k : Int) < (R : Int) := by omega
      have hBr := unhide HBW wr (unhide HC)
      obtain ⟨ba, oa, e1, hca⟩ := ((unhide HS).2.2.below hBr).at (by omega)
      subst e1
      have sc := hca k hlt
      have hrg := (unhide HO).rng k hlt
      obtain ⟨x, hx⟩ : ∃ x, thg xs k = x := ⟨_, rfl⟩
      have hxe : xs.getD k 0 = (x : Int) := by rw [← hx]; unfold thg; omega
      rw [hxe] at sc
      have hxR : x < R := by omega
      have hxR' : (x : Int) < (R : Int) := by omega
      have hTr := (unhide HT).chg (unhide HC) (show ¬ (w.heap.size = gi ∨ w.heap.size = gl) by have := unhide HG; omega)
      have q0 := (hTr.all 0 _ rfl).1
      have q1 := (hTr.all 1 _ rfl).1
      have q2 := (hTr.all 2 _ rfl).1
      have q3 := (hTr.all 3 _ rfl).1
      have KA := hide (woamong_any R a1 a2 n1 c1 n2 c2 gi (inF xs k) st cols x wr ((unhide HS).1.below hBr) ((unhide HS).2.1.below hBr) hb1 hb2 (unhide HM) hxR (unhide HI))
      unfold patV at KA
      obtain ⟨z, hz⟩ : ∃ z, amN (inF xs k) (rowL st cols x) (rowL st cols x).length = z := ⟨_, rfl⟩
      rw [hz] at KA
      obtain ⟨m, hm⟩ : ∃ m, moG (fun i => amF xs st cols i (thg xs i)) k = m := ⟨_, rfl⟩
      rw [hm]
      have HX := hide hx
      have HZ := hide (show amF xs st cols k x = z from hz)
      have HMo := hide hm
      clear hmk hmk2 hca hrg hx hxe hTr hz hm hBr
      go_wp2_with fail
      refine (unhide KA).mono ?_
      rintro _ w4 ⟨rfl, b4⟩
      have HI4 := hide ((unhide HI).below b4)
      have HL4 := hide ((unhide HL).below b4)
      have HC4 := hide ((unhide HC).trans (Chg.of_below b4))
      clear KA b4 q0 q1 q2 q3 sc HI HL HC
      have l0 := (unhide HL4 x hxR).1
      have l1 := (unhide HL4 x hxR).2
      have hgg : gi ≠ gl := by have := unhide HG; omega
      have cL : Chg (fun j => j = gl) w4 (w4.setCell ⟨gl, x, none⟩ (.int .i64 (z : Int))) := Chg.of_set _ _ _ _ rfl
      have HL5 := hide ((unhide HL4).put x (.int .i64 (z : Int)) hxR)
      have HI5 := hide ((unhide HI4).chg cL hgg)
      have HC5 := hide ((unhide HC4).trans (cL.mono (fun j _ e => .inr e)))
      clear cL
      have s0 := (unhide HL5 x hxR).1
      have i0 := (unhide HI5 x hxR).1
      have i1 := (unhide HI5 x hxR).2
      simp only [if_true] at s0
      have cI : Chg (fun j => j = gi) (w4.setCell ⟨gl, x, none⟩ (.int .i64 (z : Int))) ((w4.setCell ⟨gl, x, none⟩ (.int .i64 (z : Int))).setCell ⟨gi, x, none⟩ (.bool true)) := Chg.of_set _ _ _ _ rfl
      have HI2 := hide (show RoV ((w4.setCell ⟨gl, x, none⟩ (.int .i64 (z : Int))).setCell ⟨gi, x, none⟩ (.bool true)) gi R (fun u => .bool (inF xs (k + 1) u)) from ((unhide HI5).put x (.bool true) hxR).congr (fun u hu => by
        simp only [inF]
        rw [unhide HX]
        by_cases e : u = x
        · simp [e]
        · simp [e]))
      have HL2 := hide (show RoV ((w4.setCell ⟨gl, x, none⟩ (.int .i64 (z : Int))).setCell ⟨gi, x, none⟩ (.bool true)) gl R (fun u => .int .i64 (lbF xs st cols (k + 1) u : Int)) from ((unhide HL5).chg cI (fun e => hgg e.symm)).congr (fun u hu => by
        simp only [lbF]
        rw [unhide HX]
        by_cases e : u = x
        · subst e
          simp [unhide HZ]
        · simp [e]))
      have HC2 := hide ((unhide HC5).trans (cI.mono (fun j _ e => .inl e)))
      have HZM := hide (show moG (fun i => amF xs st cols i (thg xs i)) (k + 1) = if m < z then z else m from by
        simp only [moG]
        rw [unhide HX, unhide HZ, unhide HMo])
      clear cI HI4 HL4 HC4 HI5 HL5 HC5
      by_cases hd : m < z
      · have hd' : (m : Int) < (z : Int) := by omega
        rw [if_pos hd] at HZM
        clear hd
        go_wp2_with fail
        exact ⟨⟨k + 1, by omega, by (first | rfl | go_num), by rw [unhide HZM], HI2, HL2, HC2⟩, by simp [intOf]; omega⟩
      · have hd' : ¬ (m : Int) < (z : Int) := by omega
        rw [if_neg hd] at HZM
        clear hd
        go_wp2_with fail
        exact ⟨⟨k + 1, by omega, by (first | rfl | go_num), by rw [unhide HZM], HI2, HL2, HC2⟩, by simp [intOf]; omega⟩
    · obtain rfl : k = R := by omega
      have hlt' : ¬ (k : Int) < (k : Int) := by omega
      clear hmk hmk2
      go_wp2_with fail
      refine bodyPost_ret (by simp [results, Try.results43, go_sem]; try rfl) rfl ?_
      exact ⟨gl, by have := unhide HG; omega, rfl, unhide HL, unhide HBW wr (unhide HC)⟩
/-- What the document's Back answers. -/
def WbP (R : Nat) (xs st cols : List Int) (ok : Bool) (w w' : World) (e : Ending) : Prop := Below w.heap.size w w' ∧ (ok = false → e = .returned (.tuple #[.int .i64 0, .slice none 0 0, .int .i64 182])) ∧ (ok = true → ∃ g, e = .returned (.tuple #[.int .i64 (moG (fun i => amF xs st cols i (thg xs i)) R : Int), .slice (some ⟨g, 0, none⟩) R R, .int .i64 0]) ∧ RoV w' g R (fun u => .int .i64 (lbF xs st cols R u : Int)))
set_option maxRecDepth 100000 in
set_option maxHeartbeats 8000000 in
/-- sloperef11.Back of no graph. -/
theorem woBack_nogr (rows width : Int) (a1 a2 : Option Addr) (n1 c1 n2 c2 : Nat) (st cols : List Int) (s : Value) (w : World) (h1 : SlI w a1 n1 c1 st) (h2 : SlI w a2 n2 c2 cols) (hb1 : n1 ≤ 17592186044000) (hb2 : n2 ≤ 17592186044000) (hno : ¬ IsGr rows width st cols) :
    Calls Try.prog 25 #[patV rows width a1 n1 c1 a2 n2 c2, s] w fun e w' => e = .returned (.tuple #[.int .i64 0, .slice none 0 0, .int .i64 220]) ∧ Below w.heap.size w w' := by
  obtain ⟨wb, hwb⟩ : ∃ x, w.alloc (.cells #[.int .i64 rows, .int .i64 width, .slice a1 n1 c1, .slice a2 n2 c2] 24) = x := ⟨_, rfl⟩
  have bb : Below w.heap.size w wb := by rw [← hwb]; exact (Below.refl _ _).alloc (Nat.le_refl _) _
  have hT := BoxP.made w #[.int .i64 rows, .int .i64 width, .slice a1 n1 c1, .slice a2 n2 c2] 24
  rw [hwb] at hT
  have p0 := (hT.all 0 _ rfl).1
  have p1 := (hT.all 1 _ rfl).1
  have p2 := (hT.all 2 _ rfl).1
  have p3 := (hT.all 3 _ rfl).1
  have K := hide (wograph_any rows width a1 a2 n1 c1 n2 c2 st cols wb (h1.below bb) (h2.below bb) hb1 hb2 false ⟨fun e => absurd e (by decide), fun h => absurd h hno⟩)
  unfold patV at K
  have HB := hide bb
  clear hT bb h1 h2 hno
  unfold patV
  go_enter Try.func25, Try.ntmps25
  go_wp2_with fail
  refine (unhide K).mono ?_
  rintro _ w2 ⟨rfl, b2⟩
  have HB2 := hide ((unhide HB).trans (b2.mono (unhide HB).size))
  clear K b2 p0 p1 p2 p3
  go_wp2_with fail
  refine bodyPost_ret (by simp [results, Try.results25, go_sem]; try rfl) rfl ?_
  exact ⟨rfl, unhide HB2⟩
set_option maxRecDepth 100000 in
set_option maxHeartbeats 8000000 in
/-- sloperef11.Back of a graph. -/
theorem woBack_gr (R : Nat) (a1 a2 : Option Addr) (n1 c1 n2 c2 : Nat) (st cols : List Int) (a : Option Addr) (m c : Nat) (xs : List Int) (w : World) (h1 : SlI w a1 n1 c1 st) (h2 : SlI w a2 n2 c2 cols) (h3 : SlI w a m c xs) (hb1 : n1 ≤ 17592186044000) (hb2 : n2 ≤ 17592186044000) (hb3 : m ≤ 17592186044000) (hm : MayP (R : Int) (R : Int) st cols) (hg : GraP st cols R R) (ok : Bool) (hok : TruQ ok (IsOrd xs R)) :
    Calls Try.prog 25 #[patV (R : Int) (R : Int) a1 n1 c1 a2 n2 c2, .slice a m c] w fun e w' => WbP R xs st cols ok w w' e := by
  have hR : R ≤ 128 := by have := hm.head.fit; omega
  obtain ⟨wb, hwb⟩ : ∃ x, w.alloc (.cells #[.int .i64 (R : Int), .int .i64 (R : Int), .slice a1 n1 c1, .slice a2 n2 c2] 24) = x := ⟨_, rfl⟩
  have bb : Below w.heap.size w wb := by rw [← hwb]; exact (Below.refl _ _).alloc (Nat.le_refl _) _
  have hT := BoxP.made w #[.int .i64 (R : Int), .int .i64 (R : Int), .slice a1 n1 c1, .slice a2 n2 c2] 24
  rw [hwb] at hT
  have p0 := (hT.all 0 _ rfl).1
  have p1 := (hT.all 1 _ rfl).1
  have p2 := (hT.all 2 _ rfl).1
  have p3 := (hT.all 3 _ rfl).1
  have K1 := hide (wograph_any (R : Int) (R : Int) a1 a2 n1 c1 n2 c2 st cols wb (h1.below bb) (h2.below bb) hb1 hb2 true ⟨fun _ => ⟨R, rfl, rfl, hm, hg⟩, fun _ => rfl⟩)
  have K2 := hide (fun (W : World) (b : Below w.heap.size w W) => wocheck_in a m c xs R W (h3.below b) (by omega) hR ok hok)
  have HY := hide (show ok = true → m = R ∧ OrdTo xs R R from fun e => by
    have := Iff.mp hok e
    exact ⟨by rw [← h3.len]; exact this.1, this.2⟩)
  have K3 := hide (fun (W : World) (b : Below w.heap.size w W) (e : m = R) (ho : OrdTo xs R R) => wobackOf_any R a1 a2 n1 c1 n2 c2 st cols a c xs W (h1.below b) (h2.below b) (e ▸ h3.below b) hb1 hb2 hm ho)
  unfold patV at K1 K3
  have HB := hide bb
  have HT := hide hT
  clear hT bb h1 h2 h3 hm hg hok
  unfold patV
  go_enter Try.func25, Try.ntmps25
  go_wp2_with fail
  refine (unhide K1).mono ?_
  rintro _ w2 ⟨rfl, b2⟩
  have HB2 := hide ((unhide HB).trans (b2.mono (unhide HB).size))
  have HT2 := hide ((unhide HT).below b2)
  have K4 := hide (unhide K2 w2 (unhide HB2))
  clear K1 K2 b2 p0 p1 p2 p3
  have p0 := ((unhide HT2).all 0 _ rfl).1
  cases ok
  · have K4 := (show Hid (Calls Try.prog 42 #[.int .i64 (R : Int), .slice a m c] w2 fun e w' => e = .returned (.int .i64 182) ∧ Below w2.heap.size w2 w') from K4)
    go_wp2_with fail
    refine (unhide K4).mono ?_
    rintro _ w3 ⟨rfl, b3⟩
    have HB3 := hide ((unhide HB2).trans (b3.mono (unhide HB2).size))
    clear b3 K4 p0 K3
    go_wp2_with fail
    refine bodyPost_ret (by simp [results, Try.results25, go_sem]; try rfl) rfl ?_
    exact ⟨unhide HB3, fun _ => rfl, fun h => (by cases h)⟩
  · have K4 := (show Hid (Calls Try.prog 42 #[.int .i64 (R : Int), .slice a m c] w2 fun e w' => e = .returned (.int .i64 0) ∧ Below w2.heap.size w2 w') from K4)
    go_wp2_with fail
    refine (unhide K4).mono ?_
    rintro _ w3 ⟨rfl, b3⟩
    have HB3 := hide ((unhide HB2).trans (b3.mono (unhide HB2).size))
    have HT3 := hide ((unhide HT2).below b3)
    obtain ⟨rfl, ho⟩ := unhide HY (by first | rfl | trivial)
    have K5 := hide (unhide K3 w3 (unhide HB3) rfl ho)
    clear b3 K4 p0 K3 ho
    have p0 := ((unhide HT3).all 0 _ rfl).1
    have p1 := ((unhide HT3).all 1 _ rfl).1
    have p2 := ((unhide HT3).all 2 _ rfl).1
    have p3 := ((unhide HT3).all 3 _ rfl).1
    go_wp2_with fail
    refine (unhide K5).mono ?_
    rintro _ w4 ⟨g, hg, rfl, hr4, b4⟩
    have HF := hide (And.intro ((unhide HB3).trans (b4.mono (unhide HB3).size)) hr4)
    clear K5 hg hr4 b4 p0 p1 p2 p3
    go_wp2_with fail
    refine bodyPost_ret (by simp [results, Try.results25, go_sem]; try rfl) rfl ?_
    exact ⟨(unhide HF).1, fun h => (by cases h), fun _ => ⟨g, rfl, (unhide HF).2⟩⟩
end Go.Proofs.Ytpmafjofkmefeaa
