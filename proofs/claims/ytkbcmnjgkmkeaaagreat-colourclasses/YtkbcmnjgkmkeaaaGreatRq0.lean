/-
  COLOURS: brush.hasTwin: contract.
-/
import Derived.Test.YtkbcmnjgkmkeaaaGreatCh6
import Derived.Test.YtkbcmnjgkmkeaaaGreatBase
namespace Go.Proofs.YtkbcmnjgkmkeaaaGreat
open Go.RowKit Go.Deep
set_option linter.unusedVariables false

/-- Another neighbour has the colour of this one. -/
def TwP (cs : Nat → Int) (l : List Int) (u : Nat) : Prop := ∃ x ∈ l, x ≠ (u : Int) ∧ cs x.toNat = cs u
set_option maxRecDepth 100000 in
set_option maxHeartbeats 16000000 in
/-- The look of hasTwin at one neighbour. -/
theorem ctwin1_any (X R g x u : Nat) (cs : Nat → Int) (ub pb : Nat) (w : World) (h13 : w.cell? ⟨X, 13, none⟩ = some (.slice (some ⟨g, 0, none⟩) R R)) (hcol : RoV w g R (fun i => .int .i64 (cs i))) (hx : x < R) (hu : u < R) (hR : R ≤ 128) (a0 : w.cell? ⟨pb, 0, none⟩ = some (.pointer (some ⟨X, 0, none⟩))) (u0 : w.cell? ⟨ub, 0, none⟩ = some (.int .i64 (u : Int))) (ok : Bool) (hok : TruQ ok (x ≠ u ∧ cs x = cs u)) :
    Calls Tryz.prog 96 #[.int .i64 (x : Int), .pointer (some ⟨ub, 0, none⟩), .pointer (some ⟨pb, 0, none⟩)] w fun e w' => e = .returned (.bool ok) ∧ Below w.heap.size w w' := by
  have cx := (hcol x hx).1
  have cu := (hcol u hu).1
  have hx' : (x : Int) < (R : Int) := by omega
  have hu' : (u : Int) < (R : Int) := by omega
  obtain ⟨y, hy⟩ : ∃ y, cs x = y := ⟨_, rfl⟩
  obtain ⟨z, hz⟩ : ∃ z, cs u = z := ⟨_, rfl⟩
  simp only [hy] at cx
  simp only [hz] at cu
  rw [hy, hz] at hok
  have HOK := hide hok
  clear hcol hok hy hz
  by_cases hxu : x = u
  · have e1 : ((x : Int) != (u : Int)) = false := by simp [hxu]
    have hk : ok = false := by
      cases hk2 : ok
      · rfl
      · exact absurd hxu (Iff.mp (unhide HOK) hk2).1
    subst hk
    clear hxu
    go_enter Tryz.func96, Tryz.ntmps96
    go_wp2_with fail
    try go_quiet (fail)
    all_goals (try go_wp2_with fail)
    all_goals (try go_ret)
    all_goals exact ⟨rfl, by first | exact Below.refl _ _ | exact bel_drewN (Below.refl _ _) _⟩
  · have e1 : ((x : Int) != (u : Int)) = true := by simp; omega
    have hk : ok = (y == z) := by
      by_cases e : y = z
      · rw [Iff.mpr (unhide HOK) ⟨hxu, e⟩]; simp [e]
      · cases hk2 : ok
        · simp [e]
        · exact absurd (Iff.mp (unhide HOK) hk2).2 e
    subst hk
    clear hxu HOK
    go_enter Tryz.func96, Tryz.ntmps96
    go_wp2_with fail
    try go_quiet (fail)
    all_goals (try go_wp2_with fail)
    all_goals (try go_ret)
    all_goals exact ⟨rfl, by first | exact Below.refl _ _ | exact bel_drewN (Below.refl _ _) _⟩
set_option maxRecDepth 20000 in
set_option maxHeartbeats 8000000 in
/-- slices.IndexFunc by hasTwin's look. -/
theorem cindexF_any (a : Option Addr) (n c : Nat) (xs : List Int) (T : Nat → Bool) (ub pb : Nat) (w : World) (h : SlI w a n c xs) (hn : n ≤ 17592186044416) (hf : ∀ (W : World) (k : Nat), Below w.heap.size w W → k < n → Calls Tryz.prog 96 #[.int .i64 (xs.getD k 0), .pointer (some ⟨ub, 0, none⟩), .pointer (some ⟨pb, 0, none⟩)] W fun e w' => e = .returned (.bool (T k)) ∧ Below W.heap.size W w') :
    Calls Tryz.prog 74 #[.slice a n c, .func (.func 96) #[] #[.pointer (some ⟨ub, 0, none⟩), .pointer (some ⟨pb, 0, none⟩)]] w fun e w' => ∃ z : Int, e = .returned (.int .i64 z) ∧ (0 ≤ z ↔ ∃ k, k < n ∧ T k = true) ∧ Below w.heap.size w w' := by
  have HS := hide h
  have HF := hide hf
  clear h hf
  go_enter Tryz.func74, Tryz.ntmps74
  go_wp2_with fail
  go_loopw [8, 5] (fun iv _ wr => ∃ i : Nat, i ≤ n ∧ iv = .int .i64 (i : Int) ∧ Hid (∀ k, k < i → T k = false) ∧ Hid (Below w.heap.size w wr)) (fun iv _ _ => n - (intOf iv).toNat)
  case atStart => exact ⟨0, Nat.zero_le _, rfl, hide (fun k hk => by omega), hide (Below.refl _ _)⟩
  case round =>
    obtain ⟨i, hi, rfl, HA, HW⟩ := hrel
    by_cases hlt : i < n
    · have hlt' : (i : Int) < (n : Int) := by omega
      obtain ⟨b, off, rfl, hc⟩ := ((unhide HS).below (unhide HW)).at (by omega)
      have hx := hc i hlt
      have K := unhide HF wr i (unhide HW) hlt
      obtain ⟨x, hxx⟩ : ∃ x, xs.getD i 0 = x := ⟨_, rfl⟩
      rw [hxx] at hx K
      obtain ⟨t, ht⟩ : ∃ t, T i = t := ⟨_, rfl⟩
      rw [ht] at K
      have HK := hide K
      have HT := hide ht
      clear hc hxx K ht
      go_wp2_with fail
      refine (unhide HK).mono ?_
      rintro _ w2 ⟨rfl, b2⟩
      have HW2 := hide ((unhide HW).trans (b2.mono (unhide HW).size))
      clear b2 HK hx
      cases t
      · go_wp2_with fail
        refine ⟨⟨i + 1, by omega, by (first | rfl | go_num), hide (fun k hk => ?_), HW2⟩, by simp [intOf]; omega⟩
        by_cases e : k = i
        · rw [e]; exact unhide HT
        · exact unhide HA k (by omega)
      · go_wp2_with fail
        try go_ret
        exact ⟨_, rfl, ⟨fun _ => ⟨i, hlt, unhide HT⟩, fun _ => by omega⟩, unhide HW2⟩
    · obtain rfl : i = n := by omega
      have hlt' : ¬ (i : Int) < (i : Int) := by omega
      go_wp2_with fail
      try go_ret
      exact ⟨_, rfl, ⟨fun h => by omega, fun ⟨k, hk, e⟩ => by rw [unhide HA k hk] at e; cases e⟩, unhide HW⟩
set_option maxRecDepth 20000 in
set_option maxHeartbeats 8000000 in
/-- slices.ContainsFunc by hasTwin's look. -/
theorem ccontF_any (a : Option Addr) (n c : Nat) (xs : List Int) (T : Nat → Bool) (ub pb : Nat) (w : World) (h : SlI w a n c xs) (hn : n ≤ 17592186044416) (hf : ∀ (W : World) (k : Nat), Below w.heap.size w W → k < n → Calls Tryz.prog 96 #[.int .i64 (xs.getD k 0), .pointer (some ⟨ub, 0, none⟩), .pointer (some ⟨pb, 0, none⟩)] W fun e w' => e = .returned (.bool (T k)) ∧ Below W.heap.size W w') (ok : Bool) (hok : TruQ ok (∃ k, k < n ∧ T k = true)) :
    Calls Tryz.prog 95 #[.slice a n c, .func (.func 96) #[] #[.pointer (some ⟨ub, 0, none⟩), .pointer (some ⟨pb, 0, none⟩)]] w fun e w' => e = .returned (.bool ok) ∧ Below w.heap.size w w' := by
  have KI := hide (cindexF_any a n c xs T ub pb w h hn hf)
  have HOK := hide hok
  clear h hok hf
  go_enter Tryz.func95, Tryz.ntmps95
  go_wp2_with fail
  refine (unhide KI).mono ?_
  rintro _ w2 ⟨z, rfl, hz, b2⟩
  have hd : decide (0 ≤ z) = ok := by
    cases hk : ok
    · exact decide_eq_false (fun h => by have := Iff.mpr (unhide HOK) (hz.1 h); rw [hk] at this; cases this)
    · exact decide_eq_true (hz.2 (Iff.mp (unhide HOK) hk))
  have HB := hide b2
  clear KI hz b2 HOK
  go_wp2_with fail
  try go_ret
  exact ⟨by simp_all, unhide HB⟩
end Go.Proofs.YtkbcmnjgkmkeaaaGreat

namespace Go.Proofs.YtkbcmnjgkmkeaaaGreat
open Go.RowKit Go.Deep
set_option linter.unusedVariables false

set_option maxRecDepth 100000 in
set_option maxHeartbeats 16000000 in
/-- colour.brush.hasTwin. -/
theorem chasTwin_any (X R : Nat) (vs : List Value) (b1 : Option Addr) (m1 d1 : Nat) (b2 : Option Addr) (m2 d2 : Nat) (g h cnt : Nat) (cs ls : Nat → Int) (st cols : List Int) (v u : Nat) (w : World) (hB : BrI w X R vs b1 m1 d1 b2 m2 d2 g h cnt cs ls st cols) (hm : MayP (R : Int) (R : Int) st cols) (hv : v < R) (hu : u < R) (hb1 : m1 ≤ 17592186044000) (hb2 : m2 ≤ 17592186044000) (ok : Bool) (hok : TruQ ok (TwP cs (rowL st cols v) u)) :
    Calls Tryz.prog 76 #[.pointer (some ⟨X, 0, none⟩), .int .i64 (v : Int), .int .i64 (u : Int)] w fun e w' => e = .returned (.bool ok) ∧ Below w.heap.size w w' := by
  obtain ⟨wa, hwa⟩ : ∃ x, w.alloc (.cells #[.pointer (some ⟨X, 0, none⟩)] 96) = x := ⟨_, rfl⟩
  have ba : Below w.heap.size w wa := by rw [← hwa]; exact (Below.refl _ _).alloc (Nat.le_refl _) _
  have hA := BoxP.made w #[.pointer (some ⟨X, 0, none⟩)] 96
  rw [hwa] at hA
  obtain ⟨wb, hwb⟩ : ∃ x, wa.alloc (.cells #[.int .i64 (u : Int)] 3) = x := ⟨_, rfl⟩
  have bb : Below wa.heap.size wa wb := by rw [← hwb]; exact (Below.refl _ _).alloc (Nat.le_refl _) _
  have hU := BoxP.made wa #[.int .i64 (u : Int)] 3
  rw [hwb] at hU
  have bw := ba.trans (bb.mono ba.size)
  have hBw := hB.below bw
  have hAw := hA.below bb
  have a0 := (hAw.all 0 _ rfl).1
  have u0 := (hU.all 0 _ rfl).1
  have q9 := (hBw.box.all 9 _ hBw.v9).1
  have q10 := (hBw.box.all 10 _ hBw.v10).1
  have q11 := (hBw.box.all 11 _ hBw.v11).1
  have q12 := (hBw.box.all 12 _ hBw.v12).1
  obtain ⟨Xr, Yr, hRow⟩ := hm.rowAt (k := v) (by omega)
  have KR := hide (crow_any R (R : Int) b1 b2 m1 d1 m2 d2 st cols v Xr Yr wb hBw.s1 hBw.s2 (by omega) (by omega) hm hv hRow)
  unfold patV subV at KR
  have hln := hBw.s2.len
  have hsub := hBw.s2.sub hRow.le (by rw [← hln]; exact hRow.lt)
  have eL : rowL st cols v = (cols.drop Xr).take (Yr - Xr) := by unfold rowL; rw [hRow.hX, hRow.hY]; simp
  have hrow := (RowP.sub hRow.le).2 hRow.row
  rw [← eL] at hsub hrow
  obtain ⟨A, hA'⟩ : ∃ A, (if d2 = Xr then b2 else Option.map (fun x => x.add Xr) b2) = A := ⟨_, rfl⟩
  obtain ⟨q, hq⟩ : ∃ q, Yr - Xr = q := ⟨_, rfl⟩
  obtain ⟨d, hd⟩ : ∃ d, d2 - Xr = d := ⟨_, rfl⟩
  rw [hA', hq, hd] at KR hsub
  rw [hq] at hrow
  have hq8 : q ≤ 17592186044000 := by have := hRow.lt; omega
  have hR8 : R ≤ 128 := by have := hm.head.fit; omega
  obtain ⟨xs, hxs⟩ : ∃ xs, rowL st cols v = xs := ⟨_, rfl⟩
  rw [hxs] at hsub hrow hok
  have HROW := hide hrow
  have HSB := hide hsub
  have HOK := hide hok
  have HBw := hide hBw
  have HAU := hide (And.intro hAw hU)
  have HBel := hide bw
  clear hA hU hAw hBw ba bb bw hB hsub hrow hok eL hln hA' hq hd hxs
  go_enter Tryz.func76, Tryz.ntmps76
  go_wp2_with fail
  refine (unhide KR).mono ?_
  rintro _ w2 ⟨rfl, b2'⟩
  have hBr2 := (unhide HBw).below b2'
  have hs2 := (unhide HSB).below b2'
  have hau := And.intro ((unhide HAU).1.below b2') ((unhide HAU).2.below b2')
  have KF := hide (ccontF_any A q d xs (fun k => tb ((xs.getD k 0).toNat ≠ u ∧ cs (xs.getD k 0).toNat = cs u)) wa.heap.size w.heap.size w2 hs2 (by omega) (fun W k bW hk => by
    have hg := (unhide HROW).rng k (Nat.zero_le _) hk
    obtain ⟨x, hx⟩ : ∃ x : Nat, xs.getD k 0 = (x : Int) := ⟨(xs.getD k 0).toNat, by omega⟩
    have hbW := hBr2.below bW
    try dsimp only
    rw [hx, show ((x : Int)).toNat = x by omega]
    exact ctwin1_any X R g x u cs wa.heap.size w.heap.size W (hbW.box.all 13 _ hbW.v13).1 hbW.col (by rw [hx] at hg; omega) hu hR8 ((hau.1.below bW).all 0 _ rfl).1 ((hau.2.below bW).all 0 _ rfl).1 _ tb_iff) ok ((show ok = true ↔ _ from unhide HOK).trans (by
      constructor
      · rintro ⟨x, hx, h1, h2⟩
        obtain ⟨p, hp, he⟩ := mem_getD.1 hx
        rw [hs2.len] at hp
        have hg := (unhide HROW).rng p (Nat.zero_le _) hp
        refine ⟨p, hp, tb_yes ⟨?_, ?_⟩⟩
        · rw [he] at hg ⊢; omega
        · rw [he]; exact h2
      · rintro ⟨k, hk, ht⟩
        have ht2 := tb_iff.1 ht
        have hg := (unhide HROW).rng k (Nat.zero_le _) hk
        refine ⟨xs.getD k 0, mem_getD.2 ⟨k, by rw [hs2.len]; exact hk, rfl⟩, ?_, ht2.2⟩
        have := ht2.1
        omega)))
  have HB2 := hide b2'
  clear KR hBr2 hs2 hau b2' a0 u0 q9 q10 q11 q12 hm hRow
  go_wp2_with fail
  refine (unhide KF).mono ?_
  rintro _ w3 ⟨rfl, b3⟩
  have HB3 := hide b3
  clear KF b3
  go_wp2_with fail
  try go_ret
  have t1 := (unhide HBel).trans ((unhide HB2).mono (unhide HBel).size)
  exact ⟨rfl, t1.trans ((unhide HB3).mono t1.size)⟩
end Go.Proofs.YtkbcmnjgkmkeaaaGreat

namespace Go.Proofs.YtkbcmnjgkmkeaaaGreat
open Go.RowKit Go.Deep
set_option linter.unusedVariables false

/-- The worlds that are w but for new memory. -/
structure Ext (w0 : World) where
  w : World
  bel : Below w0.heap.size w0 w
theorem Ext.ne (w : World) : Nonempty (Ext w) := ⟨⟨w, Below.refl _ _⟩⟩
section
variable {P : Program}
theorem wp_region_ext {id : Nat} {Q : Exit → Act → World → Prop} {a : Act} {w : World} {l : List Oper} (hm : P.follows .mixedOrders = true) (hB : Region.lexB .any l.toArray = true)
    (h : wpQuiet P l.toArray (fun w' => ∃ x : Ext w, w' = x.w) (fun a' => ∀ w', (∃ x : Ext w, w' = x.w) → Q .normal a' w') l a) : (Code.region id l.toArray true).wp P Q a w :=
  wp_region_quiet (C := fun w' => ∃ x : Ext w, w' = x.w) hm hB ⟨⟨w.drew, (Below.refl _ _).drew⟩, rfl⟩ (by simpa using h)
end
/-- A callee's contract in such a world. -/
theorem Ext.call {P : Program} {f : FuncId} {args : Array Value} {w : World} {x : Ext w} {v : Value} {R : Ending → World → Prop} (h : Calls P f args x.w R) (hR : ∀ e w', R e w' → e = .returned v ∧ Below x.w.heap.size x.w w') :
    Calls P f args x.w fun e w'' => e = .returned v ∧ ∃ y : Ext w, w'' = y.w :=
  h.mono fun e w' hr => ⟨(hR e w' hr).1, ⟨⟨w', x.bel.trans ((hR e w' hr).2.mono x.bel.size)⟩, rfl⟩⟩
theorem Ext.cell {w : World} (x : Ext w) {p : Addr} {v : Value} (h : w.cell? p = some v) : x.w.cell? p = some v := (x.bel.cell (p := p) (World.block_lt_of_cell? _ _ h)).trans h
end Go.Proofs.YtkbcmnjgkmkeaaaGreat
