/-
  bitset.Cover: its contract.
-/
import Derived.Test.YtbendkndnojihabBk2
import Derived.Test.YtbendkndnojihabBu1
import Derived.Test.YtbendkndnojihabBtm
import Derived.Test.YtbendkndnojihabBto
import Derived.Test.YtbendkndnojihabBtc
import Derived.Test.YtbendkndnojihabBp0
namespace Go.Proofs.Ytbendkndnojihab
open Go.RowKit Go.Deep
set_option linter.unusedVariables false

theorem make_ints (n : Nat) (hn : n ≤ 17592186044000) (w : World) : (Instr.makeSlice 22 (.int .i64 (n : Int)) (.int .i64 (n : Int))).run Try.prog w = .ok (.slice (some ⟨w.heap.size, 0, none⟩) n n) (w.alloc (.cells (madeCells #[.int .i64 0] n) 3)) :=
  run_make_row' (P := Try.prog) 22 3 (.int .i64 0) 8 Try.underlying22 Try.info_int rfl .i64 .i64 n (by omega) (by omega) w

/-- A list and an error. -/
def ResI (w w' : World) (r : List Int × Int) (e : Ending) : Prop :=
  ∃ a n c, e = .returned (.tuple #[.slice a n c, .int .i64 r.2]) ∧ SlI w' a n c r.1 ∧ Below w.heap.size w w'
def covA : Option (List Int) → List Int × Int
  | some l => (l, 0)
  | none => ([], 321)
def coverR (t : Int) (L : List SetC) (s : Int) (xs : List Nat) : List Int × Int :=
  if MayT t L && MayS s xs then (if t = s then covA (covR s.toNat L.length (setP L) 4096 (hasB (gW xs)) []) else ([], 60)) else ([], 61)
theorem MayT.all {t : Int} {L : List SetC} (h : MayT t L = true) : ∀ e ∈ L, MayS e.s e.xs = true ∧ e.s = t := by
  intro e he
  simp only [MayT, Bool.and_eq_true, Bool.not_eq_true', List.any_eq_false] at h
  have := h.2 e he
  simp [badT] at this
  exact this
theorem MayT.len {t : Int} {L : List SetC} (h : MayT t L = true) : L.length ≤ 4096 := by
  simp only [MayT, Bool.and_eq_true, decide_eq_true_eq] at h
  exact h.1.2

theorem own_chg {S : Nat → Prop} {w w' : World} {base : Nat} {e : TypeId} {size : Nat} {v : Value} {n : Nat} {xs : List Value} (h : w.ownsRow base e size v n xs) (k : Chg S w w') (hs : ∀ j, base ≤ j → ¬ S j) : w'.ownsRow base e size v n xs := by
  refine ⟨h.1, h.2.imp id ?_⟩
  rintro ⟨g', cap, cur, h3, h4, h5, h6⟩
  have hlt : g' < w.heap.size := by
    rcases Nat.lt_or_ge g' w.heap.size with hh | hh
    · exact hh
    · rw [Array.getElem?_eq_none hh] at h5; cases h5
  exact ⟨g', cap, cur, h3, h4, (k.block g' hlt (hs _ h4)).trans h5, h6⟩
theorem own_any {α : Type} {g : α → Value} {w : World} {base n : Nat} {e : TypeId} {v : Value} {xs : List α} (d : α) (h : w.ownsRow base e 1 v n (xs.map g)) : ∃ a c, v = .slice a n c ∧ SlG g d w a n c xs := by
  rcases h.2 with ⟨rfl, rfl⟩ | ⟨b, cap, cur, rfl, h4⟩
  · have : xs = [] := by have := h.1; simp at this; exact this
    subst this
    exact ⟨none, 0, rfl, SlG.nil _⟩
  · exact ⟨_, _, rfl, own_sl d h⟩
theorem Below.toChg {B : Nat} {w w' : World} (h : Below B w w') : Chg (fun j => B ≤ j) w w' :=
  ⟨h.os, h.tape, h.output, h.size, fun k _ hk => h.block k (by omega)⟩

/-- In the loop of Cover. -/
structure CvLp (w wr : World) (T Z b m base N n cb : Nat) (sz : Nat) (aT : Option Addr) (cT : Nat) (f : Nat → Nat) (g : Nat → Int) : Prop where
  tab : Two wr T (.int .i64 sz) (.slice aT n cT)
  lef : Two wr Z (.int .i64 sz) (.slice (some ⟨b, 0, none⟩) N cb)
  row : FnW wr b 0 N f
  most : FnI wr m 0 n g
  bel : Below w.heap.size w wr
  lt : base ≤ wr.heap.size
theorem CvLp.chg {S : Nat → Prop} {w wr w' : World} {T Z b m base N n cb sz : Nat} {aT : Option Addr} {cT : Nat} {f : Nat → Nat} {g : Nat → Int} (h : CvLp w wr T Z b m base N n cb sz aT cT f g) (k : Chg S wr w') (hT : ¬ S T) (hZ : ¬ S Z) (hb : ¬ S b) (hm : ¬ S m) (hw : ∀ j, j < w.heap.size → ¬ S j) : CvLp w w' T Z b m base N n cb sz aT cT f g :=
  ⟨h.tab.chg k hT, h.lef.chg k hZ, h.row.chg k hb, h.most.chg k hm, h.bel.trans (k.below h.bel.size hw), Nat.le_trans h.lt k.size⟩

theorem rep_count {N sz : Nat} {f : Nat → Nat} {P : Nat → Bool} (hr : RepB N f P) (hN : N = nW sz) (hz : ∀ x, sz ≤ x → P x = false) : cntB (hasB (gW (lstG f N))) (64 * N) = cntB P sz := by
  have e1 : cntB (hasB (gW (lstG f N))) (64 * N) = cntB P (64 * N) := by
    apply cntB_congr
    intro x hx
    rw [← hr.has x hx]
    unfold hasB gW
    rw [lstG_getD f N (x / 64) 0 (by omega)]
  have hn : sz ≤ 64 * N := by rw [hN]; unfold nW; omega
  rw [e1]
  obtain ⟨m, hm⟩ : ∃ m, 64 * N = sz + m := ⟨64 * N - sz, by omega⟩
  rw [hm, cntB_add]
  have : cntB (fun x => P (sz + x)) m = cntB (fun _ => false) m := cntB_congr (fun x _ => hz _ (by omega))
  have z : ∀ k, cntB (fun _ => false) k = 0 := fun k => by induction k with
    | zero => rfl
    | succ k ih => simp only [cntB]; rw [ih]; rfl
  rw [this, z m]
  rfl
theorem rep_shared {N sz : Nat} {f : Nat → Nat} {P : Nat → Bool} {L : List SetC} (hr : RepB N f P) (hN : N = nW sz) (hz : ∀ x, sz ≤ x → P x = false) (i : Nat) : shC N (hasB f) L i = covC sz (setP L) P i := by
  unfold shC covC
  have e1 : cntB (andP (hasB f) (setP L i)) (64 * N) = cntB (fun e => P e && setP L i e) (64 * N) := by
    apply cntB_congr
    intro x hx
    unfold andP
    rw [hr.has x hx]
  have hn : sz ≤ 64 * N := by rw [hN]; unfold nW; omega
  rw [e1]
  obtain ⟨m, hm⟩ : ∃ m, 64 * N = sz + m := ⟨64 * N - sz, by omega⟩
  rw [hm, cntB_add]
  have : cntB (fun x => P (sz + x) && setP L i (sz + x)) m = cntB (fun _ => false) m := cntB_congr (fun x _ => by rw [hz _ (by omega)]; rfl)
  have z : ∀ k, cntB (fun _ => false) k = 0 := fun k => by induction k with
    | zero => rfl
    | succ k ih => simp only [cntB]; rw [ih]; rfl
  rw [this, z m]
  rfl

set_option maxHeartbeats 4000000 in
/-- bitset.Cover, refused. -/
theorem cover_no (t : Int) (aT : Option Addr) (n cT : Nat) (L : List SetC) (s : Int) (a : Option Addr) (ns c : Nat) (xs : List Nat) (w : World) (hS : SlS w aT n cT L) (h : SlW w a ns c xs) (o : OkW xs) (er : Int)
    (hz : (MayT t L = false ∧ er = 61) ∨ (MayT t L = true ∧ MayS s xs = false ∧ er = 61) ∨ (MayT t L = true ∧ MayS s xs = true ∧ t ≠ s ∧ er = 60)) :
    Calls Try.prog 22 #[setV t aT n cT, setV s a ns c] w fun e w' => ResI w w' ([], er) e := by
  obtain ⟨wa, hwa⟩ : ∃ x, w.alloc (.cells #[.int .i64 t, .slice aT n cT] 41) = x := ⟨_, rfl⟩
  obtain ⟨wb, hwb⟩ : ∃ x, wa.alloc (.cells #[.int .i64 s, .slice a ns c] 26) = x := ⟨_, rfl⟩
  have hba : Below w.heap.size w wa := by rw [← hwa]; exact (Below.refl _ _).alloc (Nat.le_refl _) _
  have hbb : Below wa.heap.size wa wb := by rw [← hwb]; exact (Below.refl _ _).alloc (Nat.le_refl _) _
  have tA : Two wb w.heap.size (.int .i64 t) (.slice aT n cT) := Two.keep (w := wa) (by rw [← hwa]; exact Two.made _ _ _ _) hbb
  have tB : Two wb wa.heap.size (.int .i64 s) (.slice a ns c) := by rw [← hwb]; exact Two.made _ _ _ _
  have hB := hba.trans (hbb.mono hba.size)
  have K1 := mayT_any t aT n cT L wb (hS.below hB)
  have HA := hide (And.intro tA (And.intro tB hB))
  have HS := hide (And.intro h o)
  have a0 := tA.c0
  have a1 := tA.c1
  clear tA tB hB hba hbb hS h o
  unfold setV at K1 ⊢
  rcases hz with ⟨m1, rfl⟩ | ⟨m1, m2, rfl⟩ | ⟨m1, m2, hne, rfl⟩
  · rw [m1] at K1
    have HK1 := hide K1
    clear K1 m1
    go_enter Try.func22, Try.ntmps22
    go_wp2_with fail
    refine (unhide HK1).mono ?_
    rintro _ wc ⟨rfl, hbc⟩
    have HB := hide ((unhide HA).2.2.trans (hbc.mono (unhide HA).2.2.size))
    clear hbc HK1
    go_wp2_with fail
    go_ret2
    exact ⟨none, 0, 0, rfl, SlG.nil _, unhide HB⟩
  · rw [m1] at K1
    have HK1 := hide K1
    have HM2 := hide m2
    clear K1 m1 m2
    go_enter Try.func22, Try.ntmps22
    go_wp2_with fail
    refine (unhide HK1).mono ?_
    rintro _ wc ⟨rfl, hbc⟩
    have hB2 := (unhide HA).2.2.trans (hbc.mono (unhide HA).2.2.size)
    have tB := (unhide HA).2.1.keep hbc
    have K2 := may_any s a ns c xs wc ((unhide HS).1.below hB2) (unhide HS).2
    rw [unhide HM2] at K2
    unfold setV at K2
    have HK2 := hide K2
    have HB2 := hide hB2
    have b0 := tB.c0
    have b1 := tB.c1
    clear hbc HK1 K2 tB hB2 a0 a1
    go_wp2_with fail
    refine (unhide HK2).mono ?_
    rintro _ wd ⟨rfl, hbd⟩
    have HB := hide ((unhide HB2).trans (hbd.mono (unhide HB2).size))
    clear hbd HK2
    go_wp2_with fail
    go_ret2
    exact ⟨none, 0, 0, rfl, SlG.nil _, unhide HB⟩
  · rw [m1] at K1
    have HK1 := hide K1
    have HM2 := hide m2
    have hne1 : (t == s) = false := by simpa using hne
    have hne2 : (t != s) = true := by simpa using hne
    clear K1 m1 m2 hne
    go_enter Try.func22, Try.ntmps22
    go_wp2_with fail
    refine (unhide HK1).mono ?_
    rintro _ wc ⟨rfl, hbc⟩
    have hB2 := (unhide HA).2.2.trans (hbc.mono (unhide HA).2.2.size)
    have tA := (unhide HA).1.keep hbc
    have tB := (unhide HA).2.1.keep hbc
    have K2 := may_any s a ns c xs wc ((unhide HS).1.below hB2) (unhide HS).2
    rw [unhide HM2] at K2
    unfold setV at K2
    have HK2 := hide K2
    have HB2 := hide (And.intro tA (And.intro tB hB2))
    have b0 := tB.c0
    have b1 := tB.c1
    clear hbc HK1 K2 tA tB hB2 a0 a1
    go_wp2_with fail
    refine (unhide HK2).mono ?_
    rintro _ wd ⟨rfl, hbd⟩
    have HB := hide ((unhide HB2).2.2.trans (hbd.mono (unhide HB2).2.2.size))
    have e0 := ((unhide HB2).1.keep hbd).c0
    have e1 := ((unhide HB2).2.1.keep hbd).c0
    clear hbd HK2 b0 b1
    go_wp2_with fail
    go_ret2
    exact ⟨none, 0, 0, rfl, SlG.nil _, unhide HB⟩
end Go.Proofs.Ytbendkndnojihab
