/-
  bitset.Make, Range: contracts.
-/
import Derived.Test.YtbendkndnojihabDoorBt2
import Derived.Test.YtbendkndnojihabDoorBtb
import Derived.Test.YtbendkndnojihabDoorBti
namespace Go.Proofs.YtbendkndnojihabDoor
open Go.RowKit Go.Deep
set_option linter.unusedVariables false

/-- A set and an error. -/
def ResS (w w' : World) (r : Int × List Nat × Int) (e : Ending) : Prop :=
  ∃ a n c, e = .returned (.tuple #[setV r.1 a n c, .int .i64 r.2.2]) ∧ SlW w' a n c r.2.1 ∧ Below w.heap.size w w'

theorem resS_zero {w w' : World} {er : Int} (h : Below w.heap.size w w') : ResS w w' (0, [], er) (.returned (.tuple #[.agg #[.int .i64 0, .slice none 0 0], .int .i64 er])) :=
  ⟨none, 0, 0, rfl, SlG.nil _, h⟩
theorem resS_set {w w' : World} {s : Int} {sz b cb : Nat} {f : Nat → Nat} {P : Nat → Bool} (hf : FnW w' b 0 (nW sz) f) (hr : RepB (nW sz) f P) (hc : nW sz ≤ cb) (hm : cb ≤ maxLen) (h : Below w.heap.size w w') :
    ResS w w' (s, wordsL sz P, 0) (.returned (.tuple #[.agg #[.int .i64 s, .slice (some ⟨b, 0, none⟩) (nW sz) cb], .int .i64 0])) := by
  refine ⟨_, _, _, rfl, ?_, h⟩
  have := hf.sl (d := 0) hc hm
  rwa [show lstG f (nW sz) = wordsL sz P from wordsL_of hr] at this

def badE (size : Int) (e : Int) : Bool := decide (e < 0) || decide (size ≤ e)
def mkR (size : Int) (l : List Int) : Int × List Nat × Int :=
  if fitsI size then (if l.any (badE size) then (0, [], 62) else (size, wordsL size.toNat (fun x => l.any (fun e => e == (x : Int))), 0)) else (0, [], 60)

theorem any_take {l : List Int} {k : Nat} (hk : k < l.length) (p : Int → Bool) : (l.take (k + 1)).any p = (p (l.getD k 0) || (l.take k).any p) := by
  rw [List.take_add_one, List.getElem?_eq_getElem hk, List.any_append, Bool.or_comm]
  simp [List.getD, hk]
theorem any_bad {l : List Int} {p : Int → Bool} {k : Nat} (hk : k < l.length) (h : p (l.getD k 0) = true) : l.any p = true := by
  rw [List.any_eq_true]
  refine ⟨l[k], List.getElem_mem hk, ?_⟩
  simpa [List.getD, hk] using h

/-- In the loop: the answer's place, the variable, the words. -/
structure MkLp (w wr : World) (R Z b cb N : Nat) (sz : Nat) (l : List Int) (k : Nat) : Prop where
  res : Two wr R (.int .i64 0) (.slice none 0 0)
  two : Two wr Z (.int .i64 sz) (.slice (some ⟨b, 0, none⟩) N cb)
  ok : (l.take k).any (badE sz) = false
  rep : ∃ f, FnW wr b 0 N f ∧ RepB N f (fun x => (l.take k).any (fun e => e == (x : Int)))
  bel : Below w.heap.size w wr
theorem MkLp.step {w wr w' : World} {R Z b cb N sz : Nat} {l : List Int} {k e : Nat} {f : Nat → Nat} (h : MkLp w wr R Z b cb N sz l k) (hk : k < l.length) (he : l.getD k 0 = (e : Int)) (hes : e < sz) (heN : e / 64 < N) (hR : R ≠ b) (hZ : Z ≠ b) (hb : w.heap.size ≤ b)
    (hrep : RepB N f (fun x => (l.take k).any (fun e => e == (x : Int))))
    (hf : FnW w' b 0 N (fun i => if i = e / 64 then f (e / 64) ||| 2 ^ (e % 64) else f i)) (hc : Chg (fun j => j = b) wr w') : MkLp w w' R Z b cb N sz l (k + 1) := by
  refine ⟨h.res.chg hc hR, h.two.chg hc hZ, ?_, ⟨_, hf, ?_⟩, h.bel.trans (hc.below h.bel.size (fun j hj => by omega))⟩
  · rw [any_take hk, h.ok, he]
    simp [badE]
    omega
  · refine (hrep.put e heN).congr (fun _ _ => rfl) (fun x _ => ?_)
    rw [any_take hk, he]
    congr 1
    rw [Bool.eq_iff_iff]
    simp
    omega

set_option maxHeartbeats 2000000 in
/-- bitset.Make. -/
theorem make_any (size : Int) (a : Option Addr) (n c : Nat) (l : List Int) (w : World) (h : SlI w a n c l) :
    Calls Tryd.prog 37 #[.int .i64 size, .slice a n c] w fun e w' => ResS w w' (mkR size l) e := by
  cases hf : fitsI size
  · have e0 : mkR size l = (0, [], 60) := by simp [mkR, hf]
    rw [e0]
    have K := fits_any size
    rw [hf] at K
    have HK := hide K
    clear K hf
    go_enter Tryd.func37, Tryd.ntmps37
    go_wp2_with fail
    refine (unhide HK _).mono ?_
    rintro _ w1 ⟨rfl, rfl⟩
    go_wp2_with fail
    refine bodyPost_ret (by simp [results, Tryd.results37, go_sem]; try rfl) rfl ?_
    exact ⟨none, 0, 0, rfl, SlG.nil _, (Below.refl _ _).alloc (Nat.le_refl _) _⟩
  · have K := fits_any size
    rw [hf] at K
    obtain ⟨sz, rfl, hsz⟩ := fitsI_nat hf
    have HK := hide K
    have HF := hide hf
    have hn := h.cap
    have hle := h.le
    unfold maxLen at hn
    have hle64 : nW sz ≤ 64 := by unfold nW; omega
    have HN := hide (show ∀ e, e < sz → e / 64 < nW sz from fun e he => by unfold nW; omega)
    have HSl := hide h
    have HLn := hide h.len
    clear K hf h
    go_enter Tryd.func37, Tryd.ntmps37
    go_wp2_with fail
    refine (unhide HK _).mono ?_
    rintro _ w1 ⟨rfl, rfl⟩
    clear HK
    go_wp2_with fail
    obtain ⟨wa, hwa⟩ : ∃ wa, w.alloc (.cells #[.int .i64 0, .slice none 0 0] 35) = wa := ⟨_, rfl⟩
    rw [hwa]
    have HR := hide (show Two wa w.heap.size (.int .i64 0) (.slice none 0 0) by rw [← hwa]; exact Two.made _ _ _ _)
    have HB := hide (show Below w.heap.size w wa by rw [← hwa]; exact (Below.refl _ _).alloc (Nat.le_refl _) _)
    clear hwa
    refine (blank_any sz wa hsz).mono ?_
    rintro _ wb ⟨v, rfl, b, cb, rfl, hc1, hc2, hb1, hb2, hfn, hbel⟩
    unfold setV
    have HW := hide (And.intro hc1 (And.intro hc2 (And.intro hb1 (And.intro hb2 (And.intro hfn hbel)))))
    have hcb : cb ≤ 9223372036854775807 := by unfold maxLen at hc2; omega
    clear hc1 hc2 hb1 hb2 hfn hbel
    go_wp2_with fail
    have hzR := (unhide HR).lt
    have hbR : w.heap.size ≠ b := by have := (unhide HW).2.2.1; omega
    have HT := hide (show MkLp w (wb.alloc (.cells #[.int .i64 sz, .slice (some ⟨b, 0, none⟩) (nW sz) cb] 35)) w.heap.size wb.heap.size b cb (nW sz) sz l 0 by
      obtain ⟨hc1, hc2, hb1, hb2, hfn, hbel⟩ := unhide HW
      have hal : Below wb.heap.size wb (wb.alloc (.cells #[.int .i64 sz, .slice (some ⟨b, 0, none⟩) (nW sz) cb] 35)) := (Below.refl _ _).alloc (Nat.le_refl _) _
      refine ⟨((unhide HR).keep hbel).keep hal, Two.made _ _ _ _, rfl, ⟨_, hfn.below hal, by simpa using RepB.zero (nW sz)⟩, ?_⟩
      exact ((unhide HB).trans (hbel.mono (unhide HB).size)).trans (hal.mono (by have := (unhide HB).size; have := hbel.size; omega)))
    have hbb : b < wb.heap.size := (unhide HW).2.2.2.1
    have hbw : w.heap.size ≤ b := by have := (unhide HW).2.2.1; omega
    generalize hZ : wb.heap.size = Z at *
    generalize wb.alloc (.cells #[.int .i64 sz, .slice (some ⟨b, 0, none⟩) (nW sz) cb] 35) = wc at *
    obtain ⟨N, hN⟩ : ∃ N, nW sz = N := ⟨_, rfl⟩
    rw [hN] at HN hle64 HT ⊢
    have HCB := hide (show nW sz = N ∧ nW sz ≤ cb ∧ cb ≤ maxLen from ⟨hN, (unhide HW).1, (unhide HW).2.1⟩)
    clear HW HR HB hZ hN
    go_loopw [17, 8] (fun i _ wr => ∃ k : Nat, k ≤ n ∧ i = .int .i64 k ∧ MkLp w wr w.heap.size Z b cb N sz l k) (fun i _ _ => n - (intOf i).toNat)
    case atStart => exact ⟨0, Nat.zero_le _, rfl, unhide HT⟩
    case round =>
      obtain ⟨k, hk, rfl, hst⟩ := hrel
      have t0 := hst.two.c0
      have t1 := hst.two.c1
      have r0 := hst.res.c0
      have r1 := hst.res.c1
      have q0 := hst.res.f0
      have q1 := hst.res.f1
      have HS := hide hst
      by_cases hlt : k < n
      · have hlt' : (k : Int) < (n : Int) := by omega
        obtain ⟨ba, off, rfl, hcells⟩ := ((unhide HSl).below hst.bel).at (by omega)
        have hcell := hcells k hlt
        have hkl : k < l.length := by rw [unhide HLn]; exact hlt
        have HL := hide hkl
        obtain ⟨e, hge⟩ : ∃ e, l.getD k 0 = e := ⟨_, rfl⟩
        have HG := hide hge
        rw [hge] at hcell
        unfold vI at hcell
        clear hcells hkl hst hge
        by_cases h0 : e < 0
        · have HE := hide (show mkR sz l = (0, [], 62) by
            have : l.any (badE sz) = true := any_bad (unhide HL) (by rw [unhide HG]; simp [badE, h0])
            simp [mkR, unhide HF, this])
          have HT3 := hide (two_below (unhide HS).bel w.heap.size (Nat.le_refl _) (.int .i64 0) (.slice none 0 0))
          have T3 := (unhide HS).res.set (.int .i64 0) (.slice none 0 0)
          have p0 := T3.c0
          have p1 := T3.c1
          clear T3
          go_wp2_with fail
          refine bodyPost_ret (by simp [results, Tryd.results37, go_sem, p0, p1]; try rfl) rfl ?_
          rw [unhide HE]
          exact resS_zero (unhide HT3)
        · by_cases h1 : (sz : Int) ≤ e
          · have HE := hide (show mkR sz l = (0, [], 62) by
              have : l.any (badE sz) = true := any_bad (unhide HL) (by rw [unhide HG]; simp [badE, h1])
              simp [mkR, unhide HF, this])
            have HT3 := hide (two_below (unhide HS).bel w.heap.size (Nat.le_refl _) (.int .i64 0) (.slice none 0 0))
            have T3 := (unhide HS).res.set (.int .i64 0) (.slice none 0 0)
            have p0 := T3.c0
            have p1 := T3.c1
            clear T3
            go_wp2_with fail
            refine bodyPost_ret (by simp [results, Tryd.results37, go_sem, p0, p1]; try rfl) rfl ?_
            rw [unhide HE]
            exact resS_zero (unhide HT3)
          · obtain ⟨e, rfl⟩ := Int.eq_ofNat_of_zero_le (by omega : 0 ≤ e)
            obtain ⟨f, hfn, hrep⟩ := (unhide HS).rep
            have hes : e < sz := by omega
            have heN := unhide HN e hes
            have HP := hide (put_any sz b N cb f e wr hfn (fun i hi => (hrep i hi).1) heN hle64)
            unfold setV at HP
            have h0' : ¬ ((e : Int) < 0) := by omega
            have HE := hide (And.intro hes (And.intro heN hrep))
            clear hfn hrep
            go_wp2_with fail
            refine (unhide HP).mono ?_
            rintro _ w2 ⟨rfl, hf2, hc2⟩
            have HS2 := hide ((unhide HS).step (unhide HL) (unhide HG) (unhide HE).1 (unhide HE).2.1 hbR (by omega) hbw (unhide HE).2.2 hf2 hc2)
            clear hf2 hc2 HP HE HS t0 t1 r0 r1 q0 q1 hcell
            go_wp2_with fail
            exact ⟨⟨k + 1, by omega, by go_num, unhide HS2⟩, by simp [intOf]; omega⟩
      · have hlt' : ¬ (k : Int) < (n : Int) := by omega
        have hkn : k = n := by omega
        subst hkn
        have HT3 := hide (two_below (unhide HS).bel w.heap.size (Nat.le_refl _) (.int .i64 sz) (.slice (some ⟨b, 0, none⟩) N cb))
        have T3 := (unhide HS).res.set (.int .i64 sz) (.slice (some ⟨b, 0, none⟩) N cb)
        have p0 := T3.c0
        have p1 := T3.c1
        clear T3 hst
        go_wp2_with fail
        refine bodyPost_ret (by simp [results, Tryd.results37, go_sem, p0, p1]; try rfl) rfl ?_
        obtain ⟨f, hfn, hrep⟩ := (unhide HS).rep
        have hall : l.take k = l := by rw [List.take_of_length_le]; rw [unhide HLn]; exact Nat.le_refl _
        have hok := (unhide HS).ok
        rw [hall] at hok hrep
        have hE : mkR sz l = ((sz : Int), wordsL sz (fun x => l.any (fun e => e == (x : Int))), 0) := by simp [mkR, unhide HF, hok]
        rw [hE]
        obtain ⟨hcN, hcb1, hcb2⟩ := unhide HCB
        subst hcN
        exact resS_set (hfn.two _ _ _ hbR) hrep hcb1 hcb2 (unhide HT3)
end Go.Proofs.YtbendkndnojihabDoor

namespace Go.Proofs.YtbendkndnojihabDoor
open Go.RowKit Go.Deep
set_option linter.unusedVariables false

/-- The box of an argument, and where the answer will lie. -/
theorem enter1 {w wa wb : World} {s : Int} {a : Option Addr} {n c : Nat} (hwa : w.alloc (.cells #[.int .i64 s, .slice a n c] 35) = wa) (hwb : wa.alloc (.cells #[.int .i64 0, .slice none 0 0] 35) = wb) :
    Two wb w.heap.size (.int .i64 s) (.slice a n c) ∧ Two wb wa.heap.size (.int .i64 0) (.slice none 0 0) ∧ Below w.heap.size w wb ∧ w.heap.size < wa.heap.size ∧ wa.heap.size < wb.heap.size := by
  have hba : Below w.heap.size w wa := by rw [← hwa]; exact (Below.refl _ _).alloc (Nat.le_refl _) _
  have hbb : Below wa.heap.size wa wb := by rw [← hwb]; exact (Below.refl _ _).alloc (Nat.le_refl _) _
  refine ⟨Two.keep (w := wa) ?_ hbb, ?_, hba.trans (hbb.mono hba.size), by rw [← hwa]; simp, by rw [← hwb]; simp⟩
  · rw [← hwa]; exact Two.made _ _ _ _
  · rw [← hwb]; exact Two.made _ _ _ _

set_option maxHeartbeats 2000000 in
/-- slopelaw3.kept. -/
theorem kept_any (s : Int) (b cap : Nat) (a : Option Addr) (n c : Nat) (xs : List Nat) (w : World) (h1 : SlW w (some ⟨b, 0, none⟩) (n + 1) cap (xs ++ [markN])) (h2 : SlW w a n c xs) :
    Calls Tryd.prog 21 #[setV s (some ⟨b, 0, none⟩) n cap, setV s a n c] w fun e w' => e = .returned (.bool true) ∧ Below w.heap.size w w' := by
  have hle1 := h1.le
  have hle2 := h2.le
  have hcap1 := h1.cap
  have hcap2 := h2.cap
  unfold maxLen at hcap1 hcap2
  unfold setV
  obtain ⟨wa, hwa⟩ : ∃ wa, w.alloc (.cells #[.int .i64 s, .slice (some ⟨b, 0, none⟩) n cap] 35) = wa := ⟨_, rfl⟩
  obtain ⟨wb, hwb⟩ : ∃ wb, wa.alloc (.cells #[.int .i64 s, .slice a n c] 35) = wb := ⟨_, rfl⟩
  have hba : Below w.heap.size w wa := by rw [← hwa]; exact (Below.refl _ _).alloc (Nat.le_refl _) _
  have hbb : Below wa.heap.size wa wb := by rw [← hwb]; exact (Below.refl _ _).alloc (Nat.le_refl _) _
  have tA : Two wb w.heap.size (.int .i64 s) (.slice (some ⟨b, 0, none⟩) n cap) := by
    refine Two.keep (w := wa) ?_ hbb
    rw [← hwa]; exact Two.made _ _ _ _
  have tB : Two wb wa.heap.size (.int .i64 s) (.slice a n c) := by rw [← hwb]; exact Two.made _ _ _ _
  have hB := hba.trans (hbb.mono hba.size)
  have k1 := (h1.below hba).below hbb
  have HK := hide (same_eq s (some ⟨b, 0, none⟩) a n cap c xs wb k1.init ((h2.below hba).below hbb))
  have HA := hide (And.intro tA (And.intro k1 hB))
  have a0 := tA.c0
  have a1 := tA.c1
  have b0 := tB.c0
  have b1 := tB.c1
  clear hba hbb h1 h2 k1 tA tB hB
  unfold setV at HK
  go_enter Tryd.func21, Tryd.ntmps21
  go_wp2_with fail
  refine (unhide HK).mono ?_
  rintro _ w1 ⟨rfl, hb1⟩
  have T1 := (unhide HA).1.keep hb1
  have e0 := T1.c0
  have e1 := T1.c1
  have hc := ((unhide HA).2.1.below hb1).last
  unfold vU markN at hc
  have HB := hide ((unhide HA).2.2.trans (hb1.mono (unhide HA).2.2.size))
  clear T1 hb1 HK HA a0 a1 b0 b1
  go_wp2_with fail
  go_ret
  exact ⟨rfl, unhide HB⟩

theorem FnG.copied {α : Type} {g : α → Value} {d : α} {w : World} {b off n : Nat} {f : Nat → α} (h : FnG g w b off n f) (xs : List α) (hl : xs.length ≤ n) : FnG g (w.setCells b off (xs.map g)) b off n (fun i => if i < xs.length then xs.getD i d else f i) := by
  intro i hi
  refine ⟨?_, by rw [World.frozen?_setCells]; exact (h i hi).2⟩
  have hlen : (xs.map g).length = xs.length := by simp
  by_cases e : i < xs.length
  · rw [World.cell?_setCells_in b (xs.map g) off w (fun j hj => by rw [(h j (by omega)).1]; rfl) i (by omega)]
    simp [e, List.getD]
  · rw [World.cell?_setCells_out b (xs.map g) off w _ (fun _ _ => by simp; omega)]
    simp [e, (h i hi).1]
theorem chg_setCells (b : Nat) : ∀ (vs : List Value) (o : Nat) (w : World), Chg (fun j => j = b) w (w.setCells b o vs)
  | [], o, w => Chg.refl _ _
  | v :: vs, o, w => (Chg.of_set (S := fun j => j = b) w b o v rfl).trans (chg_setCells b vs (o + 1) _)

theorem Tryd.size_u64 : (Tryd.prog.info? 65).map (·.size) = some 1 := by kernel_rfl
theorem mapU_one {xs : List Nat} : ∀ v ∈ xs.map vU, v.oneCell' = true := by
  intro v hv
  simp at hv
  obtain ⟨x, _, rfl⟩ := hv
  rfl
/-- copy(z, a): z a row of the call's own, not shorter than a. -/
theorem wpList_copy_words {w : World} {ops : Array Oper} {rest : List Oper} {o : Oper} {a : Act} {Q : Exit → Act → World → Prop} (hgd : o.guard = none) (dd s : Operand)
    (ho : o.op = .call { callee := .builtin .copy, args := #[dd, s], argTypes := #[33, 33] })
    (b off dLen dCap : Nat) (sp : Option Addr) (sLen sCap : Nat) (hd : a.eval dd = .slice (some ⟨b, off, none⟩) dLen dCap) (hs : a.eval s = .slice sp sLen sCap)
    (f : Nat → Nat) (hf : FnW w b off dLen f) (xs : List Nat) (hx : SlW w sp sLen sCap xs) (hle : sLen ≤ dLen)
    (h : wpList Tryd.prog ops Q rest (a.put o.dst (goInt xs.length)) (w.setCells b off (xs.map vU))) : wpList Tryd.prog ops Q (o :: rest) a w := by
  refine wpList_plain hgd fun K hK => ?_
  have hlen : (xs.map vU).length = xs.length := by simp
  by_cases h0 : sLen = 0
  · subst h0
    have hl := hx.len
    have hxe : xs = [] := List.eq_nil_of_length_eq_zero hl
    subst hxe
    have hrun := run_copy_none (P := Tryd.prog) w 33 33 o.type 65 (some ⟨b, off, none⟩) sp dLen dCap 0 sCap Tryd.underlying33 Tryd.size_u64 (by simp)
    unfold Oper.wp
    simp [execOp, ho, resolve, invoke, builtin, hd, hs, hrun, Result.andThen]
    exact hK _ _ h
  · obtain ⟨b', off', rfl, hc⟩ := hx.at (by omega)
    have hrun := run_copy_cells (P := Tryd.prog) w 33 33 o.type 65 b off dLen dCap ⟨b', off', none⟩ sLen sCap (xs.map vU) Tryd.underlying33 Tryd.size_u64
      (by rw [hlen, hx.len]; exact (Nat.min_eq_left hle).symm)
      (fun j v hj => hx.news _ rfl j v hj)
      (fun j hj => by rw [(hf j (by have := hx.len; omega)).1]; rfl) (fun j hj => (hf j (by have := hx.len; omega)).2) mapU_one
    unfold Oper.wp
    simp [execOp, ho, resolve, invoke, builtin, hd, hs, hrun, Result.andThen]
    exact hK _ _ h

set_option maxHeartbeats 2000000 in
/-- bitset.clone. -/
theorem clone_any (sz : Nat) (a : Option Addr) (n c : Nat) (xs : List Nat) (w : World) (h : SlW w a n c xs) (hsz : sz ≤ 4096) (hn : n = nW sz) :
    Calls Tryd.prog 69 #[setV sz a n c] w fun r w' => ∃ v, r = .returned v ∧ NewS w w' sz (nW sz) (fun i => xs.getD i 0) v := by
  unfold setV
  obtain ⟨wa, hwa⟩ : ∃ wa, w.alloc (.cells #[.int .i64 (sz : Int), .slice a n c] 35) = wa := ⟨_, rfl⟩
  obtain ⟨wb, hwb⟩ : ∃ wb, wa.alloc (.cells #[.int .i64 0, .slice none 0 0] 35) = wb := ⟨_, rfl⟩
  obtain ⟨tA, tR, hB, hlt1, hlt2⟩ := enter1 hwa hwb
  have a0 := tA.c0
  have a1 := tA.c1
  have HA := hide (And.intro tA (And.intro tR (And.intro (h.below hB) hB)))
  have HL := hide h.len
  have HN := hide hn
  clear tA tR hB h hn
  go_enter Tryd.func69, Tryd.ntmps69
  go_wp2_with fail
  refine (blank_any sz wb hsz).mono ?_
  rintro _ wc ⟨v, rfl, b, cb, rfl, hc1, hc2, hb1, hb2, hfn, hbel⟩
  unfold setV
  rw [← unhide HN] at hfn hc1 ⊢
  have hal : Below wc.heap.size wc (wc.alloc (.cells #[.int .i64 sz, .slice (some ⟨b, 0, none⟩) n cb] 35)) := (Below.refl _ _).alloc (Nat.le_refl _) _
  have hfd := hfn.below hal
  have tZ : Two (wc.alloc (.cells #[.int .i64 sz, .slice (some ⟨b, 0, none⟩) n cb] 35)) wc.heap.size (.int .i64 sz) (.slice (some ⟨b, 0, none⟩) n cb) := Two.made _ _ _ _
  have tA := ((unhide HA).1.keep hbel).keep hal
  have tR := ((unhide HA).2.1.keep hbel).keep hal
  have hs := (((unhide HA).2.2.1.below hbel).below hal)
  have hBd := ((unhide HA).2.2.2.trans (hbel.mono (by omega))).trans (hal.mono (by have := hbel.size; omega))
  have hZlt := hbel.size
  generalize hwd : wc.alloc (.cells #[.int .i64 sz, .slice (some ⟨b, 0, none⟩) n cb] 35) = wd at *
  have z0 := tZ.c0
  have z1 := tZ.c1
  have d0 := tA.c0
  have d1 := tA.c1
  have HF := hide hfd
  have HS := hide hs
  have hbA : b ≠ w.heap.size := by omega
  have hbR : b ≠ wa.heap.size := by omega
  have hcg := chg_setCells b (xs.map vU) 0 wd
  have tZ2 := tZ.chg hcg (by omega)
  have tR2 := tR.chg hcg (by omega)
  have e0 := tZ2.c0
  have e1 := tZ2.c1
  have r0 := tR2.c0
  have r1 := tR2.c1
  have f0 := tR2.f0
  have f1 := tR2.f1
  have tR3 := tR2.set (.int .i64 sz) (.slice (some ⟨b, 0, none⟩) n cb)
  have p0 := tR3.c0
  have p1 := tR3.c1
  have HE := hide (show FnW (((wd.setCells b 0 (xs.map vU)).setCell ⟨wa.heap.size, 0, none⟩ (.int .i64 sz)).setCell ⟨wa.heap.size, 1, none⟩ (.slice (some ⟨b, 0, none⟩) n cb)) b 0 n (fun i => xs.getD i 0) ∧ Below w.heap.size w (((wd.setCells b 0 (xs.map vU)).setCell ⟨wa.heap.size, 0, none⟩ (.int .i64 sz)).setCell ⟨wa.heap.size, 1, none⟩ (.slice (some ⟨b, 0, none⟩) n cb)) ∧ b < (((wd.setCells b 0 (xs.map vU)).setCell ⟨wa.heap.size, 0, none⟩ (.int .i64 sz)).setCell ⟨wa.heap.size, 1, none⟩ (.slice (some ⟨b, 0, none⟩) n cb)).heap.size from by
    refine ⟨FnG.two ((hfd.copied (d := 0) xs (by rw [unhide HL]; exact Nat.le_refl _)).congr (fun i hi => by simp [unhide HL, hi])) _ _ _ (by omega), two_below (hBd.trans (hcg.below hBd.size (fun j hj => by omega))) _ (by omega) _ _, ?_⟩
    have h1 := hcg.size
    have h2 := tZ.lt
    simp
    omega)
  have hcw := hc2
  unfold maxLen at hcw
  clear tZ tA tR hs hfd hBd hcg tZ2 tR2 tR3 hal HA hfn
  go_wp2_with (refine wpList_copy_words rfl _ _ rfl b 0 n cb a n c rfl rfl _ (unhide HF) xs (unhide HS) (Nat.le_refl _) ?_)
  refine bodyPost_ret (by simp [results, Tryd.results69, go_sem, p0, p1]; try rfl) rfl ?_
  rw [← unhide HN]
  exact ⟨_, rfl, b, cb, rfl, hc1, hc2, by omega, (unhide HE).2.2, (unhide HE).1, (unhide HE).2.1⟩
end Go.Proofs.YtbendkndnojihabDoor
