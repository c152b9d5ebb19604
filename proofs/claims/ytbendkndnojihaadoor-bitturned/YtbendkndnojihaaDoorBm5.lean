/-
  bitset.Move: contract.
-/
import Derived.Test.YtbendkndnojihaaDoorBm4
import Derived.Test.YtbendkndnojihaaDoorBrs1
import Derived.Test.YtbendkndnojihaaDoorBza
import Derived.Stop.RegionWithIn
namespace Go.Proofs.YtbendkndnojihaaDoor
open Go.RowKit Go.Deep Go.Shelf
set_option linter.unusedVariables false
attribute [local go_sem] Oper.semAt_some

theorem enterM {w wa wb wc : World} {s : Int} {a : Option Addr} {n c : Nat} {x : List Nat} {at_ : Option Addr} {nt ct : Nat} {to : List Int}
    (hwa : w.alloc (.cells #[.int .i64 s, .slice a n c] 24) = wa) (hwb : wa.alloc (.cells #[.slice at_ nt ct] 31) = wb) (hwc : wb.alloc (.cells #[.int .i64 0, .slice none 0 0] 24) = wc)
    (h : SlW w a n c x) (ht : SlI w at_ nt ct to) :
    Facts w wc [fT wb.heap.size (.int .i64 0) (.slice none 0 0), fT w.heap.size (.int .i64 s) (.slice a n c), fW a n c x, fI at_ nt ct to] ∧ wc.cell? ⟨wa.heap.size, 0, none⟩ = some (.slice at_ nt ct) ∧ w.heap.size < wa.heap.size ∧ wa.heap.size < wb.heap.size ∧ wb.heap.size < wc.heap.size := by
  have A0 : Facts w w [] := ⟨Below.refl _ _, fun f hf => by cases hf⟩
  have A1 := (A0.add (fI at_ nt ct to) ht).add (fW a n c x) h
  have A2 := A1.box (.int .i64 s) (.slice a n c) 24
  rw [hwa] at A2
  have hbb : Below wa.heap.size wa wb := by rw [← hwb]; exact (Below.refl _ _).alloc (Nat.le_refl _) _
  have A3 := A2.step hbb
  have A4 := A3.box (.int .i64 0) (.slice none 0 0) 24
  rw [hwc] at A4
  have hbc : Below wb.heap.size wb wc := by rw [← hwc]; exact (Below.refl _ _).alloc (Nat.le_refl _) _
  refine ⟨A4, below_cell hbc (by rw [← hwb]; simp), by rw [← hwa]; simp, by rw [← hwb]; simp, by rw [← hwc]; simp⟩

set_option maxHeartbeats 8000000 in
set_option maxRecDepth 100000 in
/-- bitset.Move, refused. -/
theorem move_no (s : Int) (a : Option Addr) (n c : Nat) (x : List Nat) (size : Int) (at_ : Option Addr) (nt ct : Nat) (to : List Int) (w : World) (h : SlW w a n c x) (o : OkW x) (ht : SlI w at_ nt ct to) (hno : MayS s x = false ∨ fitsI size = false ∨ ¬ (to.length : Int) = s ∨ to.any (badM size) = true) :
    Calls Tryd.prog 32 #[setV s a n c, .int .i64 size, .slice at_ nt ct] w fun r w' => ResS w w' (moveR s x size to) r := by
  obtain ⟨wa, hwa⟩ : ∃ x, w.alloc (.cells #[.int .i64 s, .slice a n c] 24) = x := ⟨_, rfl⟩
  obtain ⟨wb, hwb⟩ : ∃ x, wa.alloc (.cells #[.slice at_ nt ct] 31) = x := ⟨_, rfl⟩
  obtain ⟨wc, hwc⟩ : ∃ x, wb.alloc (.cells #[.int .i64 0, .slice none 0 0] 24) = x := ⟨_, rfl⟩
  obtain ⟨A0, hct, hl1, hl2, hl3⟩ := enterM hwa hwb hwc h ht
  have tA := A0.t w.heap.size (.int .i64 s) (.slice a n c) (by simp)
  have K := may_any s a n c x wc (A0.w a n c x (by simp)) o
  have HA := hide A0
  have a0 := tA.c0
  have a1' := tA.c1
  have HL := hide h.len
  have hle := ht.le
  have hcap := ht.cap
  unfold maxLen at hcap
  have htl := ht.len
  have HO := hide o
  have HSl := hide h
  have HTo0 := hide ht
  clear tA A0 h ht o
  unfold setV at K ⊢
  cases m : MayS s x
  · rw [m] at K
    have hE : moveR s x size to = (0, [], 61) := by simp [moveR, m]
    rw [hE]
    have HK := hide K
    clear K m hE hno
    go_enter Tryd.func32, Tryd.ntmps32
    go_wp2_with fail
    refine (unhide HK).mono ?_
    rintro _ wd ⟨rfl, hbd⟩
    have A2 := (unhide HA).step hbd
    clear hbd
    have tR := A2.t wb.heap.size (.int .i64 0) (.slice none 0 0) (by simp)
    have r0 := tR.c0
    have r1 := tR.c1
    have f0 := tR.f0
    have f1 := tR.f1
    have T3 := tR.set (.int .i64 0) (.slice none 0 0)
    have p0 := T3.c0
    have p1 := T3.c1
    have HB2 := hide (two_below A2.bel wb.heap.size (by omega) (.int .i64 0) (.slice none 0 0))
    clear tR T3 A2
    go_wp2_with fail
    refine bodyPost_ret (by simp [results, Tryd.results32, go_sem, p0, p1]; try rfl) rfl ?_
    exact resS_zero (unhide HB2)
  · rw [m] at K
    obtain ⟨sz, rfl, hsz⟩ := fitsI_nat (MayS.fits m)
    have KF := fits_any size
    have HK := hide K
    cases hf : fitsI size
    · have hE : moveR sz x size to = (0, [], 60) := by simp [moveR, m, hf]
      rw [hE]
      rw [hf] at KF
      have HKF := hide KF
      clear K KF m hE hf hno
      go_enter Tryd.func32, Tryd.ntmps32
      go_wp2_with fail
      refine (unhide HK).mono ?_
      rintro _ wd ⟨rfl, hbd⟩
      have HA1 := hide ((unhide HA).step hbd)
      have hct1 := below_cell hbd hct
      have tA1 := (unhide HA1).t w.heap.size (.int .i64 sz) (.slice a n c) (by simp)
      have b0 := tA1.c0
      have b1 := tA1.c1
      clear hbd HK HA a0 a1' hct tA1
      go_wp2_with fail
      refine (unhide HKF _).mono ?_
      rintro _ w' ⟨rfl, hw⟩
      obtain rfl := hw.symm
      have A2 := unhide HA1
      have tR := A2.t wb.heap.size (.int .i64 0) (.slice none 0 0) (by simp)
      have r0 := tR.c0
      have r1 := tR.c1
      have f0 := tR.f0
      have f1 := tR.f1
      have T3 := tR.set (.int .i64 0) (.slice none 0 0)
      have p0 := T3.c0
      have p1 := T3.c1
      have HB2 := hide (two_below A2.bel wb.heap.size (by omega) (.int .i64 0) (.slice none 0 0))
      clear tR T3 A2
      go_wp2_with fail
      refine bodyPost_ret (by simp [results, Tryd.results32, go_sem, p0, p1]; try rfl) rfl ?_
      exact resS_zero (unhide HB2)
    · rw [hf] at KF
      have HKF := hide KF
      obtain ⟨N, rfl, hN⟩ := fitsI_nat hf
      by_cases hn : nt = sz
      · have hbad : to.any (badM N) = true := by
          rcases hno with h | h | h | h
          · rw [m] at h; cases h
          · rw [hf] at h; cases h
          · exact absurd (by rw [htl, hn]) h
          · exact h
        have hE : moveR sz x N to = (0, [], 62) := by rw [moveR, if_pos m, if_pos hf, if_pos (by rw [htl, hn]), if_pos hbad]
        rw [hE]
        have hnd : ((nt : Int) == (sz : Int)) = true := by simp [hn]
        have HBad := hide hbad
        clear K KF m hf hE hno hbad
        subst hn
        go_enter Tryd.func32, Tryd.ntmps32
        go_wp2_with fail
        refine (unhide HK).mono ?_
        rintro _ wd ⟨rfl, hbd⟩
        have HA1 := hide ((unhide HA).step hbd)
        have hct1 := below_cell hbd hct
        have tA1 := (unhide HA1).t w.heap.size (.int .i64 nt) (.slice a n c) (by simp)
        have b0 := tA1.c0
        have b1 := tA1.c1
        clear hbd HK HA a0 a1' hct tA1
        go_wp2_with fail
        refine (unhide HKF _).mono ?_
        rintro _ w' ⟨rfl, hw⟩
        obtain rfl := hw.symm
        clear hw
        go_wp2_with fail
        go_loopw [31, 9] (fun i _ wr => ∃ k : Nat, k ≤ nt ∧ i = .int .i64 k ∧ (to.take k).any (badM N) = false ∧ wr = wd) (fun i _ _ => nt - (intOf i).toNat)
        case atStart => exact ⟨0, Nat.zero_le _, rfl, rfl, rfl⟩
        case round =>
          obtain ⟨k, hk, rfl, hbd, rfl⟩ := hrel
          have HBd := hide hbd
          clear hbd
          by_cases hlt : k < nt
          · have hlt' : (k : Int) < (nt : Int) := by omega
            have hkl : k < to.length := by omega
            obtain ⟨bt, ot, rfl, hcc⟩ := ((unhide HA1).i at_ nt ct to (by simp)).at (by omega)
            have gt := hcc k hlt
            unfold vI at gt
            have HBs := hide (any_take (p := badM N) hkl)
            obtain ⟨E, hE⟩ : ∃ E, to.getD k 0 = E := ⟨_, rfl⟩
            rw [hE] at gt HBs
            clear hcc hE
            by_cases c1 : E < -1
            · have A2 := unhide HA1
              have tR := A2.t wb.heap.size (.int .i64 0) (.slice none 0 0) (by simp)
              have r0 := tR.c0
              have r1 := tR.c1
              have f0 := tR.f0
              have f1 := tR.f1
              have T3 := tR.set (.int .i64 0) (.slice none 0 0)
              have p0 := T3.c0
              have p1 := T3.c1
              have HB2 := hide (two_below A2.bel wb.heap.size (by omega) (.int .i64 0) (.slice none 0 0))
              clear tR T3 A2
              go_wp2_with fail
              refine bodyPost_ret (by simp [results, Tryd.results32, go_sem, p0, p1]; try rfl) rfl ?_
              exact resS_zero (unhide HB2)
            · by_cases c2 : (N : Int) ≤ E
              · have A2 := unhide HA1
                have tR := A2.t wb.heap.size (.int .i64 0) (.slice none 0 0) (by simp)
                have r0 := tR.c0
                have r1 := tR.c1
                have f0 := tR.f0
                have f1 := tR.f1
                have T3 := tR.set (.int .i64 0) (.slice none 0 0)
                have p0 := T3.c0
                have p1 := T3.c1
                have HB2 := hide (two_below A2.bel wb.heap.size (by omega) (.int .i64 0) (.slice none 0 0))
                clear tR T3 A2
                go_wp2_with fail
                refine bodyPost_ret (by simp [results, Tryd.results32, go_sem, p0, p1]; try rfl) rfl ?_
                exact resS_zero (unhide HB2)
              · have HB2 := hide (show (to.take (k + 1)).any (badM N) = false by rw [unhide HBs, unhide HBd]; simp [badM]; omega)
                go_wp2_with fail
                exact ⟨⟨k + 1, by omega, by go_num, unhide HB2, by first | trivial | rfl⟩, by simp [intOf]; omega⟩
          · exfalso
            have hb := unhide HBd
            rw [List.take_of_length_le (by omega), unhide HBad] at hb
            cases hb
      · have hE : moveR sz x N to = (0, [], 1) := by rw [moveR, if_pos m, if_pos hf, if_neg (by rw [htl]; omega)]
        rw [hE]
        have hnd : ((nt : Int) == (sz : Int)) = false := by simp; omega
        have hnd2 : ¬ (nt : Int) = (sz : Int) := by omega
        clear K KF m hf hE hno
        go_enter Tryd.func32, Tryd.ntmps32
        go_wp2_with fail
        refine (unhide HK).mono ?_
        rintro _ wd ⟨rfl, hbd⟩
        have HA1 := hide ((unhide HA).step hbd)
        have hct1 := below_cell hbd hct
        have tA1 := (unhide HA1).t w.heap.size (.int .i64 sz) (.slice a n c) (by simp)
        have b0 := tA1.c0
        have b1 := tA1.c1
        clear hbd HK HA a0 a1' hct tA1
        go_wp2_with fail
        refine (unhide HKF _).mono ?_
        rintro _ w' ⟨rfl, hw⟩
        obtain rfl := hw.symm
        have A2 := unhide HA1
        have tR := A2.t wb.heap.size (.int .i64 0) (.slice none 0 0) (by simp)
        have r0 := tR.c0
        have r1 := tR.c1
        have f0 := tR.f0
        have f1 := tR.f1
        have T3 := tR.set (.int .i64 0) (.slice none 0 0)
        have p0 := T3.c0
        have p1 := T3.c1
        have HB2 := hide (two_below A2.bel wb.heap.size (by omega) (.int .i64 0) (.slice none 0 0))
        clear tR T3 A2
        go_wp2_with fail
        refine bodyPost_ret (by simp [results, Tryd.results32, go_sem, p0, p1]; try rfl) rfl ?_
        exact resS_zero (unhide HB2)

/-- What abides where one block that holds no cells is turned. -/
theorem Two.own {W W' : World} {R : Nat} {v0 v1 : Value} (h : Two W R v0 v1) {row : Option Nat} (hg : W.grownBy W' row) (hr : ∀ r, row = some r → ∃ o : Obj, W.heap[r]? = some o ∧ o.isCells = false) : Two W' R v0 v1 :=
  ⟨cell_kept h.c0 hg hr, cell_kept h.c1 hg hr, (frozen_kept h.c0 hg hr).trans h.f0, (frozen_kept h.c1 hg hr).trans h.f1⟩
theorem FnG.own {α : Type} {g : α → Value} {W W' : World} {b off n : Nat} {f : Nat → α} (h : FnG g W b off n f) {row : Option Nat} (hg : W.grownBy W' row) (hr : ∀ r, row = some r → ∃ o : Obj, W.heap[r]? = some o ∧ o.isCells = false) : FnG g W' b off n f :=
  fun i hi => ⟨cell_kept (h i hi).1 hg hr, (frozen_kept (h i hi).1 hg hr).trans (h i hi).2⟩
theorem SlG.own {α : Type} {g : α → Value} {d : α} {W W' : World} {a : Option Addr} {n c : Nat} {xs : List α} (h : SlG g d W a n c xs) {row : Option Nat} (hg : W.grownBy W' row) (hr : ∀ r, row = some r → ∃ o : Obj, W.heap[r]? = some o ∧ o.isCells = false) : SlG g d W' a n c xs :=
  ⟨h.len, h.le, h.cap, h.cells.imp id (fun ⟨b, off, e, k⟩ => ⟨b, off, e, fun i hi => cell_kept (k i hi) hg hr⟩)⟩
theorem ResS.own {w W W' : World} {r : Int × List Nat × Int} {e : Ending} (h : ResS w W r e) {D : Nat} (hg : W.grownBy W' (some D)) (hr : ∃ o : Obj, W.heap[D]? = some o ∧ o.isCells = false) (hD : w.heap.size ≤ D) : ResS w W' r e := by
  obtain ⟨a, n, c, h1, h2, h3⟩ := h
  exact ⟨a, n, c, h1, h2.own hg (fun r e => by cases e; exact hr), h3.grown hg h3.size (fun k e => by cases e; exact hD)⟩
/-- In the round of Move. -/
structure MvI (w W : World) (Ra Rb Zb b cb N nt ct : Nat) (at_ : Option Addr) (P : Nat → Bool) : Prop where
  bel : Below w.heap.size w W
  cto : W.cell? ⟨Ra, 0, none⟩ = some (.slice at_ nt ct)
  tz : Two W Zb (.int .i64 (N : Int)) (.slice (some ⟨b, 0, none⟩) (nW N) cb)
  tr : Two W Rb (.int .i64 0) (.slice none 0 0)
  rep : ∃ f, FnW W b 0 (nW N) f ∧ RepB (nW N) f P
theorem MvI.own {β : Type} {w : World} {Ra Rb Zb b cb N nt ct B : Nat} {at_ : Option Addr} (P : β → Nat → Bool) (hB : w.heap.size ≤ B) : OwnFrom B (fun (s : β) W => MvI w W Ra Rb Zb b cb N nt ct at_ (P s)) := by
  intro s W W' row h hg hr
  have hr' : ∀ r, row = some r → ∃ o : Obj, W.heap[r]? = some o ∧ o.isCells = false := fun r e => (hr r e).2
  obtain ⟨f, hf, hp⟩ := h.rep
  exact ⟨h.bel.grown hg h.bel.size (fun k e => Nat.le_trans hB (hr k e).1), cell_kept h.cto hg hr', h.tz.own hg hr', h.tr.own hg hr', f, hf.own hg hr', hp⟩
theorem MvI.chg {w W W' : World} {Ra Rb Zb b cb N nt ct : Nat} {at_ : Option Addr} {P P' : Nat → Bool} {f : Nat → Nat} (h : MvI w W Ra Rb Zb b cb N nt ct at_ P) (hc : Chg (fun j => j = b) W W') (h1 : Ra ≠ b) (h2 : Rb ≠ b) (h3 : Zb ≠ b) (hb : w.heap.size ≤ b) (hf : FnW W' b 0 (nW N) f) (hp : RepB (nW N) f P') : MvI w W' Ra Rb Zb b cb N nt ct at_ P' :=
  ⟨h.bel.trans (hc.below h.bel.size (fun j hj => by omega)), hc.cell h1 h.cto, h.tz.chg hc h3, h.tr.chg hc h2, f, hf, hp⟩
theorem MvI.congr {w W : World} {Ra Rb Zb b cb N nt ct : Nat} {at_ : Option Addr} {P P' : Nat → Bool} (h : MvI w W Ra Rb Zb b cb N nt ct at_ P) (e : ∀ y, P y = P' y) : MvI w W Ra Rb Zb b cb N nt ct at_ P' := by
  obtain ⟨f, hf, hp⟩ := h.rep
  exact ⟨h.bel, h.cto, h.tz, h.tr, f, hf, hp.congr (fun _ _ => rfl) (fun y _ => e y)⟩
/-- To where the numbers lead that have come. -/
def mvP {n : Nat} {x : List Nat} (to : List Int) (pre : List (Elem n x)) (y : Nat) : Bool := pre.any (fun e => to.getD e.val 0 == (y : Int))
theorem mvP_done {n sz : Nat} {x : List Nat} {to : List Int} {ys : List (Elem n x)} (h : ys.map (·.val) = elN (hasB (gW x)) (64 * n)) (hz : ∀ y, sz ≤ y → y < 64 * n → hasB (gW x) y = false) (hs : sz ≤ 64 * n) (y : Nat) : mvP to ys y = mvK (gW x) to sz y := by
  have e : mvP to ys y = (ys.map (·.val)).any (fun e => to.getD e 0 == (y : Int)) := by unfold mvP; rw [List.any_map]; rfl
  rw [e, h, Bool.eq_iff_iff]
  unfold mvK
  simp only [List.any_eq_true, elN_mem, List.mem_range, Bool.and_eq_true]
  constructor
  · rintro ⟨z, ⟨h1, h2⟩, h3⟩
    refine ⟨z, ?_, h2, h3⟩
    rcases Nat.lt_or_ge z sz with c | c
    · exact c
    · rw [hz z c h1] at h2; cases h2
  · rintro ⟨z, h1, h2, h3⟩
    exact ⟨z, ⟨by omega, h2⟩, h3⟩
/-- A block that the round may write lies ahead of the loop; what it keeps. -/
theorem keepZ {B b : Nat} {W W' : World} (h : Chg (fun j => j = b) W W') (hb : b < B) : KeepsFrom B W W' :=
  ⟨h.size, fun k o hB hk _ => by
    have hlt : k < W.heap.size := (Array.getElem?_eq_some_iff.1 hk).1
    rw [h.block k hlt (by omega)]; exact hk⟩
theorem kpZ_t {Z : Nat → Prop} {n₀ : Nat} {A B C : World} (h : KpZ Z n₀ A B) (k : KpZ Z n₀ B C) : KpZ Z n₀ A C := Chg.trans h k
theorem kpZ_b {Z : Nat → Prop} {n₀ : Nat} {w : World} (hn : n₀ ≤ w.heap.size) (W : World) (l : Nat) (o o' : Obj) (hl : w.heap.size ≤ l) (h : W.heap[l]? = some o) (_ : o.isCells = false) (_ : o.isWalk = false) : KpZ Z n₀ W (W.putObj l o') :=
  ⟨rfl, rfl, rfl, by simp, fun k hk hs => World.putObj_heap_other (fun e => hs (.inr (by omega)))⟩

set_option maxHeartbeats 8000000 in
set_option maxRecDepth 100000 in
/-- bitset.Move. -/
theorem move_yes (s : Int) (a : Option Addr) (n c : Nat) (x : List Nat) (size : Int) (at_ : Option Addr) (nt ct : Nat) (to : List Int) (w : World) (h : SlW w a n c x) (o : OkW x) (ht : SlI w at_ nt ct to) (hT : Tab64 w) (m : MayS s x = true) (hf : fitsI size = true) (hnt : (to.length : Int) = s) (hbad : to.any (badM size) = false) :
    Calls Tryd.prog 32 #[setV s a n c, .int .i64 size, .slice at_ nt ct] w fun r w' => ResS w w' (moveR s x size to) r := by
  obtain ⟨wa, hwa⟩ : ∃ x, w.alloc (.cells #[.int .i64 s, .slice a n c] 24) = x := ⟨_, rfl⟩
  obtain ⟨wb, hwb⟩ : ∃ x, wa.alloc (.cells #[.slice at_ nt ct] 31) = x := ⟨_, rfl⟩
  obtain ⟨wc, hwc⟩ : ∃ x, wb.alloc (.cells #[.int .i64 0, .slice none 0 0] 24) = x := ⟨_, rfl⟩
  obtain ⟨A0, hct, hl1, hl2, hl3⟩ := enterM hwa hwb hwc h ht
  have tA := A0.t w.heap.size (.int .i64 s) (.slice a n c) (by simp)
  have K := may_any s a n c x wc (A0.w a n c x (by simp)) o
  have HA := hide A0
  have a0 := tA.c0
  have a1' := tA.c1
  have HL := hide h.len
  have hle := ht.le
  have hcap := ht.cap
  unfold maxLen at hcap
  have htl := ht.len
  have HO := hide o
  have HSl := hide h
  have HTo0 := hide ht
  clear tA A0 h ht o
  unfold setV at K ⊢
  rw [m] at K
  obtain ⟨sz, rfl, hsz⟩ := fitsI_nat (MayS.fits m)
  have KF := fits_any size
  rw [hf] at KF
  have HK := hide K
  have HKF := hide KF
  obtain ⟨N, rfl, hN⟩ := fitsI_nat hf
  have hE : moveR sz x N to = ((N : Int), wordsL N (mvK (gW x) to sz), 0) := by
    rw [moveR, if_pos m, if_pos hf, if_pos hnt, hbad]
    have : to.length = sz := by omega
    rw [this]
    rfl
  rw [hE]
  have hn : nt = sz := by omega
  have hnn : n = nW sz := by have := MayS.len m; rw [unhide HL] at this; simpa using this
  have hn64 : n ≤ 64 := by rw [hnn]; unfold nW; omega
  have hsn : sz ≤ 64 * n := by rw [hnn]; unfold nW; omega
  have HZ := hide (show ∀ y, sz ≤ y → y < 64 * n → hasB (gW x) y = false from fun y h1 h2 => MayS.zero m y (by simpa using h1) (by rw [unhide HL]; exact h2))
  have hnd : ((nt : Int) == (sz : Int)) = true := by simp [hn]
  have HBad := hide hbad
  have HT := hide hT
  clear K KF m hf hE hbad hnt hnn hT
  subst hn
  refine (callsIn_wide (n := 4)).1 ?_
  refine callsIn_of_wp_marks Tryd.func32 rfl trivial ?_ rfl
  simp only [Tryd.ntmps32, List.size_toArray, List.length_cons, List.length_nil, Nat.reduceAdd, Nat.reduceSub, Array.replicate_succ, Array.replicate_zero, List.push_toArray, List.append_toArray, List.nil_append, List.cons_append]
  gi_wp2_with fail
  refine ⟨trivial, (callsIn_wide.2 (unhide HK)).mono ?_⟩
  rintro _ wd ⟨rfl, hbd⟩
  have HA1 := hide ((unhide HA).step hbd)
  have hct1 := below_cell hbd hct
  have tA1 := (unhide HA1).t w.heap.size (.int .i64 nt) (.slice a n c) (by simp)
  have b0 := tA1.c0
  have b1 := tA1.c1
  have hwd := hbd.size
  clear hbd HK HA a0 a1' hct tA1 hwa hwb hwc
  gi_wp2_with fail
  refine ⟨trivial, (callsIn_wide.2 (unhide HKF _)).mono ?_⟩
  rintro _ w' ⟨rfl, hw⟩
  obtain rfl := hw.symm
  clear hw HKF
  gi_wp2_with fail
  gi_loopw [31, 9] (fun i _ wr => ∃ k : Nat, k ≤ nt ∧ i = .int .i64 k ∧ wr = wd) (fun i _ _ => nt - (intOf i).toNat)
  case atStart => exact ⟨0, Nat.zero_le _, rfl, rfl⟩
  case round =>
    obtain ⟨k, hk, rfl, rfl⟩ := hrel
    by_cases hlt : k < nt
    · have hlt' : (k : Int) < (nt : Int) := by omega
      have hkl : k < to.length := by omega
      obtain ⟨bt, ot, rfl, hcc⟩ := ((unhide HA1).i at_ nt ct to (by simp)).at (by omega)
      have gt := hcc k hlt
      unfold vI at gt
      have hEb : badM N (to.getD k 0) = false := by
        cases hv : badM N (to.getD k 0)
        · rfl
        · have := any_bad hkl hv
          rw [unhide HBad] at this
          cases this
      obtain ⟨E, hE⟩ : ∃ E, to.getD k 0 = E := ⟨_, rfl⟩
      rw [hE] at gt hEb
      simp [badM] at hEb
      have c1 : ¬ E < -1 := by omega
      have c2 : ¬ (N : Int) ≤ E := by omega
      clear hcc hE hEb
      gi_wp2_with fail
      go_roundw
      case rel => exact ⟨k + 1, by omega, by go_num, by first | trivial | rfl⟩
      case measure => first | (simp [intOf]; done) | (simp [intOf]; omega)
    · have hlt' : ¬ (k : Int) < (nt : Int) := by omega
      obtain rfl : k = nt := by omega
      gi_wp2_with fail
      refine ⟨trivial, (callsIn_wide.2 (blank_any N wr hN)).mono ?_⟩
      rintro _ we ⟨v, rfl, b, cb, rfl, hc1, hc2, hb1, hb2, hfn, hbel⟩
      unfold setV
      have HF := hide hfn
      have HC := hide (And.intro hc1 hc2)
      have hcb : cb ≤ 9223372036854775807 := by unfold maxLen at hc2; omega
      have A2 := (unhide HA1).step hbel
      have tS := A2.t w.heap.size (.int .i64 k) (.slice a n c) (by simp)
      have tR := A2.t wb.heap.size (.int .i64 0) (.slice none 0 0) (by simp)
      have hct2 := below_cell hbel hct1
      have hwe := hbel.size
      obtain ⟨wz, hwz⟩ : ∃ y, we.alloc (.cells #[.int .i64 (N : Int), .slice (some ⟨b, 0, none⟩) (nW N) cb] 24) = y := ⟨_, rfl⟩
      have hbz : Below we.heap.size we wz := by rw [← hwz]; exact (Below.refl _ _).alloc (Nat.le_refl _) _
      have tZ : Two wz we.heap.size (.int .i64 (N : Int)) (.slice (some ⟨b, 0, none⟩) (nW N) cb) := by rw [← hwz]; exact Two.made _ _ _ _
      have hszz : we.heap.size < wz.heap.size := by rw [← hwz]; simp
      have d0 := (tS.keep hbz).c0
      have d1 := (tS.keep hbz).c1
      have HB := hide (And.intro (A2.step hbz) (And.intro (below_cell hbz hct2) (And.intro tZ (hfn.below hbz))))
      clear hfn hbel hc1 hc2 A2 tS tR hct1 hct2 b0 b1 hbz tZ HF
      gi_wp2_with fail
      refine ⟨trivial, (rise_in 3 a n c wz).mono ?_⟩
      rintro _ _ ⟨rfl, rfl⟩
      gi_wp2_with fail
      obtain ⟨wf, hwf⟩ : ∃ y, wz.alloc (.cells #[.slice a n c] 22) = y := ⟨_, rfl⟩
      have hbf : Below wz.heap.size wz wf := by rw [← hwf]; exact (Below.refl _ _).alloc (Nat.le_refl _) _
      have cF : wf.cell? ⟨wz.heap.size, 0, none⟩ = some (.slice a n c) := by rw [← hwf]; simp
      have hszf : wz.heap.size < wf.heap.size := by rw [← hwf]; simp
      rw [hwf]
      obtain ⟨AZ, cZ, tZ, fZ⟩ := unhide HB
      have AF := AZ.step hbf
      have hTf : Tab64 wf := (unhide HT).below AF.bel
      have hG := World.block_lt_of_cell? _ _ (unhide HT 0 (by decide))
      have hSx := AF.w a n c x (by simp)
      have HTo := hide (AF.i at_ k ct to (by simp))
      have hbw : w.heap.size ≤ b := by omega
      have h1 : wa.heap.size ≠ b := by omega
      have h2 : wb.heap.size ≠ b := by omega
      have h3 : we.heap.size ≠ b := by omega
      have hne : 0 < n → ∀ z, a = some z → ¬ (fun j => j = b) z.block := fun h0 z hz => by
        obtain ⟨b9, o9, e9, k9⟩ := (unhide HSl).at h0
        rw [e9] at hz
        cases hz
        have := World.block_lt_of_cell? _ _ (k9 0 h0)
        have h9 : b9 < w.heap.size := this
        show ¬ b9 = b
        omega
      have HSeq := rise_stops 3 (by decide) (fun j => j = b) wz.heap.size a n c x wf (by omega) (unhide HO) (by show ¬ wz.heap.size = b; omega) (by show ¬ 0 = b; have h9 : 0 < w.heap.size := hG; omega) hTf cF hSx hne
      have HI0 := hide (show MvI w wf wa.heap.size wb.heap.size we.heap.size b cb N k ct at_ (mvP (n := n) (x := x) to []) from
        ⟨AF.bel, below_cell hbf cZ, tZ.keep hbf, AF.t wb.heap.size (.int .i64 0) (.slice none 0 0) (by simp), _, fZ.below hbf, (RepB.zero (nW N)).congr (fun _ _ => rfl) (fun y _ => by simp [mvP])⟩)
      have hNW : nW N ≤ 64 := by unfold nW; omega
      have HNW := hide (show ∀ q, q < N → q / 64 < nW N from fun q hq => by unfold nW; omega)
      have hle9 : w.heap.size ≤ wf.heap.size := AF.bel.size
      have hbwf : b < wf.heap.size := by omega
      clear hwf hwz hbf cF AZ cZ tZ fZ AF HB d0 d1 hSx hne hTf hG
      refine wpIn_rangeFunc_ownG (F := Fence.wide) (n := 4) rfl (by decide) (gf := 66) (lb := #[.pointer (some ⟨wz.heap.size, 0, none⟩)]) rfl trivial (enters_of Tryd.func66 (by kernel_rfl) rfl)
        HSeq kpZ_t (kpZ_b (Nat.le_refl _)) (Below.refl _ _) (fun _ => rfl)
        (fun pre W => MvI w W wa.heap.size wb.heap.size we.heap.size b cb N k ct at_ (mvP to pre))
        (fun c pre W => False)
        (MvI.own _ hle9)
        (fun c s W W' row h => h.elim)
        (unhide HI0)
        (fun e => { tmps :=
        #[Value.agg #[Value.int IntKind.i64 ↑k, Value.slice a n c], Value.int IntKind.i64 ↑N, Value.slice at_ k ct,
          Value.pointer (some { block := w.heap.size, off := 0 }), undef,
          Value.pointer (some { block := wa.heap.size, off := 0 }),
          Value.pointer (some { block := wb.heap.size, off := 0 }), u7, undef, u9,
          Value.pointer (some { block := we.heap.size, off := 0 }), .int .i64 ((e.val : Nat) : Int), Value.bool false,
          Value.agg #[Value.int IntKind.i64 ↑k, Value.slice a n c], Value.bool true, Value.bool false, undef,
          Value.bool false, Value.int IntKind.i64 ↑N, Value.bool true, Value.bool false, undef, Value.bool false,
          Value.slice at_ k ct, Value.int IntKind.i64 ↑k, Value.pointer (some { block := w.heap.size, off := 0 }),
          Value.int IntKind.i64 ↑k, Value.bool false, undef, Value.slice at_ k ct, Value.int IntKind.i64 ↑k,
          Value.int IntKind.i64 ↑k, Value.bool false, u33, u34, u35, u36, u37, u38, u39, u40, u41, u42, u43,
          Value.int IntKind.i64 ↑N,
          Value.agg #[Value.int IntKind.i64 ↑N, Value.slice (some { block := b, off := 0 }) (nW N) cb],
          Value.pointer (some { block := w.heap.size, off := 1 }), Value.slice a n c,
          Value.func (Fn.func 66) #[] #[Value.pointer (some { block := wz.heap.size, off := 0 })], .int .i64 ((e.val : Nat) : Int), undef, undef,
          undef, undef, undef, undef, undef, undef, undef, undef, undef, undef], defers := [] }) ?assign ?body ?done ?stop
      case assign =>
        intro l e W K hK
        unfold encR
        gi_wp2
        exact hK
      case body =>
        rintro l pre ⟨e, he1, he2⟩ W hI _
        dsimp only
        have hek : e < k := by
          rcases Nat.lt_or_ge e k with c | c
          · exact c
          · rw [unhide HZ e c he1] at he2; cases he2
        have hek' : (e : Int) < (k : Int) := by omega
        have hkl : e < to.length := by omega
        have hEb : badM N (to.getD e 0) = false := by
          cases hv : badM N (to.getD e 0)
          · rfl
          · have := any_bad hkl hv
            rw [unhide HBad] at this
            cases this
        have hPs : ∀ y, mvP to (pre ++ [⟨e, he1, he2⟩]) y = (mvP to pre y || (to.getD e 0 == (y : Int))) := fun y => by unfold mvP; rw [List.any_append]; simp
        have cto := hI.cto
        obtain ⟨bt, ot, rfl, hcc⟩ := ((unhide HTo0).below hI.bel).at (by omega)
        have gt := hcc e hek
        unfold vI at gt
        have z0 := hI.tz.c0
        have z1 := hI.tz.c1
        obtain ⟨E, hE⟩ : ∃ E, to.getD e 0 = E := ⟨_, rfl⟩
        rw [hE] at gt hEb hPs
        simp [badM] at hEb
        have HPs := hide hPs
        have HIb := hide hI
        obtain ⟨hE1, hE2⟩ := hEb
        have he0 : (0 : Int) ≤ (e : Int) := by omega
        clear hcc hE hPs hI HSeq
        by_cases c3 : E < 0
        · have c3' : ¬ 0 ≤ E := by omega
          have HI2 := hide ((unhide HIb).congr (P' := mvP to (pre ++ [⟨e, he1, he2⟩])) (fun y => by rw [unhide HPs y, show (E == (y : Int)) = false from by simp; omega]; simp))
          gi_wp2_with fail
          exact ⟨KeepsFrom.refl _ _, Chg.refl _ _, unhide HI2⟩
        · obtain ⟨q, rfl⟩ : ∃ q : Nat, E = (q : Int) := ⟨E.toNat, by omega⟩
          have hqN : q < N := by omega
          obtain ⟨f, hfn, hrep⟩ := (unhide HIb).rep
          have HP := hide (fun (w' : World) (hb : Below W.heap.size W w') => put_any (N : Int) b (nW N) cb f q w' (hfn.below hb) (fun i hi => (hrep i hi).1) (unhide HNW q hqN) hNW)
          unfold setV at HP
          have HRp := hide (hrep.put q (unhide HNW q hqN))
          clear hfn hrep
          gi_wp2_with fail
          gi_region_with (refine ⟨trivial, (CallsIn.inRound l (callsIn_wide.2 (unhide HP _ (by first | exact Below.refl _ _ | exact (Below.refl _ _).drew)))).mono ?_⟩; rintro _ w1 ⟨rfl, hf1, hc1⟩)
          all_goals
            gi_wp2_with fail
            have hcw : Chg (fun j => j = b) W w1 := (Chg.of_below (Below.refl W.heap.size W).drew).trans hc1
            refine ⟨keepZ hcw hbwf, hcw.mono (fun j _ h => .inl h), ((unhide HIb).chg hcw h1 h2 h3 hbw hf1 (unhide HRp)).congr (fun y => ?_)⟩
            rw [unhide HPs y, Bool.or_comm, show (y == q) = ((q : Int) == (y : Int)) from by rw [Bool.eq_iff_iff]; simp; omega]
      case done =>
        rintro D ys W hD hys hI hK
        have z0 := hI.tz.c0
        have z1 := hI.tz.c1
        have r0 := hI.tr.c0
        have r1 := hI.tr.c1
        have f0 := hI.tr.f0
        have f1 := hI.tr.f1
        have HIb := hide hI
        have HYs := hide hys
        clear hI hys HSeq
        gi_wp2_with fail
        have hK1 := (KeepsOthers.setCell W ⟨wb.heap.size, 0, none⟩ (.int .i64 (N : Int))).same D _ hK rfl
        have hK' := (KeepsOthers.setCell (W.setCell ⟨wb.heap.size, 0, none⟩ (.int .i64 (N : Int))) ⟨wb.heap.size, 1, none⟩ (.slice (some ⟨b, 0, none⟩) (nW N) cb)).same D _ hK1 rfl
        refine ⟨by simp, .inl ⟨_, _, rfl, run_takeDeferred hK', ?_⟩⟩
        have hr : ∀ r, (some D : Option Nat) = some r → ∃ o : Obj, ((W.setCell ⟨wb.heap.size, 0, none⟩ (.int .i64 (N : Int))).setCell ⟨wb.heap.size, 1, none⟩ (.slice (some ⟨b, 0, none⟩) (nW N) cb)).heap[r]? = some o ∧ o.isCells = false := fun r e => by cases e; exact ⟨_, hK', rfl⟩
        have T3 := ((unhide HIb).tr.set (.int .i64 (N : Int)) (.slice (some ⟨b, 0, none⟩) (nW N) cb)).own (grownBy_putObj' _ D (.deferred none)) hr
        have p0 := T3.c0
        have p1 := T3.c1
        obtain ⟨f, hfn, hrep⟩ := (unhide HIb).rep
        have hres : ResS w ((W.setCell ⟨wb.heap.size, 0, none⟩ (.int .i64 (N : Int))).setCell ⟨wb.heap.size, 1, none⟩ (.slice (some ⟨b, 0, none⟩) (nW N) cb)) ((N : Int), wordsL N (mvK (gW x) to k), 0) (.returned (.tuple #[.agg #[.int .i64 (N : Int), .slice (some ⟨b, 0, none⟩) (nW N) cb], .int .i64 0])) :=
          resS_set (hfn.two _ _ _ h2) (hrep.congr (fun _ _ => rfl) (fun y _ => mvP_done (unhide HYs) (unhide HZ) hsn y)) (unhide HC).1 (unhide HC).2 (two_below (unhide HIb).bel _ (by omega) _ _)
        refine ⟨.tuple #[.agg #[.int .i64 (N : Int), .slice (some ⟨b, 0, none⟩) (nW N) cb], .int .i64 0], ?_, hres.own (grownBy_putObj' _ D (.deferred none)) ⟨_, hK', rfl⟩ (by omega)⟩
        simp [results, Tryd.results32, go_sem, p0, p1]
        try rfl
      case stop =>
        rintro D c pre W hD _ h
        exact h.elim

/-- bitset.Move, of all arguments. -/
theorem move_any (s : Int) (a : Option Addr) (n c : Nat) (x : List Nat) (size : Int) (at_ : Option Addr) (nt ct : Nat) (to : List Int) (w : World) (h : SlW w a n c x) (o : OkW x) (ht : SlI w at_ nt ct to) (hT : Tab64 w) :
    Calls Tryd.prog 32 #[setV s a n c, .int .i64 size, .slice at_ nt ct] w fun r w' => ResS w w' (moveR s x size to) r := by
  cases m : MayS s x
  · exact move_no s a n c x size at_ nt ct to w h o ht (.inl m)
  · cases hf : fitsI size
    · exact move_no s a n c x size at_ nt ct to w h o ht (.inr (.inl hf))
    · by_cases hn : (to.length : Int) = s
      · cases hb : to.any (badM size)
        · exact move_yes s a n c x size at_ nt ct to w h o ht hT m hf hn hb
        · exact move_no s a n c x size at_ nt ct to w h o ht (.inr (.inr (.inr hb)))
      · exact move_no s a n c x size at_ nt ct to w h o ht (.inr (.inr (.inl hn)))

end Go.Proofs.YtbendkndnojihaaDoor
