/-
  slopelaw3.kept; bitset.clone, copyFor: contracts.
-/
import Derived.Test.YtbendkndnojihaaBtb
import Derived.Test.YtbendkndnojihaaBta
import Derived.Test.YtbendkndnojihaaBt3
namespace Go.Proofs.Ytbendkndnojihaa
open Go.RowKit Go.Deep
set_option linter.unusedVariables false

/-- The box of an argument, and where the answer will lie. -/
theorem enter1 {w wa wb : World} {s : Int} {a : Option Addr} {n c : Nat} (hwa : w.alloc (.cells #[.int .i64 s, .slice a n c] 24) = wa) (hwb : wa.alloc (.cells #[.int .i64 0, .slice none 0 0] 24) = wb) :
    Two wb w.heap.size (.int .i64 s) (.slice a n c) ∧ Two wb wa.heap.size (.int .i64 0) (.slice none 0 0) ∧ Below w.heap.size w wb ∧ w.heap.size < wa.heap.size ∧ wa.heap.size < wb.heap.size := by
  have hba : Below w.heap.size w wa := by rw [← hwa]; exact (Below.refl _ _).alloc (Nat.le_refl _) _
  have hbb : Below wa.heap.size wa wb := by rw [← hwb]; exact (Below.refl _ _).alloc (Nat.le_refl _) _
  refine ⟨Two.keep (w := wa) ?_ hbb, ?_, hba.trans (hbb.mono hba.size), by rw [← hwa]; simp, by rw [← hwb]; simp⟩
  · rw [← hwa]; exact Two.made _ _ _ _
  · rw [← hwb]; exact Two.made _ _ _ _

set_option maxHeartbeats 2000000 in
/-- slopelaw3.kept. -/
theorem kept_any (s : Int) (b cap : Nat) (a : Option Addr) (n c : Nat) (xs : List Nat) (w : World) (h1 : SlW w (some ⟨b, 0, none⟩) (n + 1) cap (xs ++ [markN])) (h2 : SlW w a n c xs) :
    Calls Try.prog 14 #[setV s (some ⟨b, 0, none⟩) n cap, setV s a n c] w fun e w' => e = .returned (.bool true) ∧ Below w.heap.size w w' := by
  have hle1 := h1.le
  have hle2 := h2.le
  have hcap1 := h1.cap
  have hcap2 := h2.cap
  unfold maxLen at hcap1 hcap2
  unfold setV
  obtain ⟨wa, hwa⟩ : ∃ wa, w.alloc (.cells #[.int .i64 s, .slice (some ⟨b, 0, none⟩) n cap] 24) = wa := ⟨_, rfl⟩
  obtain ⟨wb, hwb⟩ : ∃ wb, wa.alloc (.cells #[.int .i64 s, .slice a n c] 24) = wb := ⟨_, rfl⟩
  have hba : Below w.heap.size w wa := by rw [← hwa]; exact (Below.refl _ _).alloc (Nat.le_refl _) _
  have hbb : Below wa.heap.size wa wb := by rw [← hwb]; exact (Below.refl _ _).alloc (Nat.le_refl _) _
  have tA : Two wb w.heap.size (.int .i64 s) (.slice (some ⟨b, 0, none⟩) n cap) := by
    refine Two.keep (w := wa) ?_ hbb
    rw [← hwa]; exact Two.made _ _ _ _
  have tB : Two wb wa.heap.size (.int .i64 s) (.slice a n c) := by rw [← hwb]; exact Two.made _ _ _ _
  have hB := hba.trans (hbb.mono hba.size)
  have k1 := (h1.below hba).below hbb
  have HK := hide (same_eq s (some ⟨b, 0, none⟩) a n cap c xs wb k1.init ((h2.below hba).below hbb))
  have HA := hide (And.intro tA (And.intro k1 hB))
  have a0 := tA.c0
  have a1 := tA.c1
  have b0 := tB.c0
  have b1 := tB.c1
  clear hba hbb h1 h2 k1 tA tB hB
  unfold setV at HK
  go_enter Try.func14, Try.ntmps14
  go_wp2_with fail
  refine (unhide HK).mono ?_
  rintro _ w1 ⟨rfl, hb1⟩
  have T1 := (unhide HA).1.keep hb1
  have e0 := T1.c0
  have e1 := T1.c1
  have hc := ((unhide HA).2.1.below hb1).last
  unfold vU markN at hc
  have HB := hide ((unhide HA).2.2.trans (hb1.mono (unhide HA).2.2.size))
  clear T1 hb1 HK HA a0 a1 b0 b1
  go_wp2_with fail
  go_ret
  exact ⟨rfl, unhide HB⟩

theorem FnG.copied {α : Type} {g : α → Value} {d : α} {w : World} {b off n : Nat} {f : Nat → α} (h : FnG g w b off n f) (xs : List α) (hl : xs.length ≤ n) : FnG g (w.setCells b off (xs.map g)) b off n (fun i => if i < xs.length then xs.getD i d else f i) := by
  intro i hi
  refine ⟨?_, by rw [World.frozen?_setCells]; exact (h i hi).2⟩
  have hlen : (xs.map g).length = xs.length := by simp
  by_cases e : i < xs.length
  · rw [World.cell?_setCells_in b (xs.map g) off w (fun j hj => by rw [(h j (by omega)).1]; rfl) i (by omega)]
    simp [e, List.getD]
  · rw [World.cell?_setCells_out b (xs.map g) off w _ (fun _ _ => by simp; omega)]
    simp [e, (h i hi).1]
theorem chg_setCells (b : Nat) : ∀ (vs : List Value) (o : Nat) (w : World), Chg (fun j => j = b) w (w.setCells b o vs)
  | [], o, w => Chg.refl _ _
  | v :: vs, o, w => (Chg.of_set (S := fun j => j = b) w b o v rfl).trans (chg_setCells b vs (o + 1) _)

theorem Try.size_u64 : (Try.prog.info? 66).map (·.size) = some 1 := by kernel_rfl
theorem mapU_one {xs : List Nat} : ∀ v ∈ xs.map vU, v.oneCell' = true := by
  intro v hv
  simp at hv
  obtain ⟨x, _, rfl⟩ := hv
  rfl
/-- copy(z, a): z a row of the call's own, not shorter than a. -/
theorem wpList_copy_words {w : World} {ops : Array Oper} {rest : List Oper} {o : Oper} {a : Act} {Q : Exit → Act → World → Prop} (hgd : o.guard = none) (dd s : Operand)
    (ho : o.op = .call { callee := .builtin .copy, args := #[dd, s], argTypes := #[22, 22] })
    (b off dLen dCap : Nat) (sp : Option Addr) (sLen sCap : Nat) (hd : a.eval dd = .slice (some ⟨b, off, none⟩) dLen dCap) (hs : a.eval s = .slice sp sLen sCap)
    (f : Nat → Nat) (hf : FnW w b off dLen f) (xs : List Nat) (hx : SlW w sp sLen sCap xs) (hle : sLen ≤ dLen)
    (h : wpList Try.prog ops Q rest (a.put o.dst (goInt xs.length)) (w.setCells b off (xs.map vU))) : wpList Try.prog ops Q (o :: rest) a w := by
  refine wpList_plain hgd fun K hK => ?_
  have hlen : (xs.map vU).length = xs.length := by simp
  by_cases h0 : sLen = 0
  · subst h0
    have hl := hx.len
    have hxe : xs = [] := List.eq_nil_of_length_eq_zero hl
    subst hxe
    have hrun := run_copy_none (P := Try.prog) w 22 22 o.type 66 (some ⟨b, off, none⟩) sp dLen dCap 0 sCap Try.underlying22 Try.size_u64 (by simp)
    unfold Oper.wp
    simp [execOp, ho, resolve, invoke, builtin, hd, hs, hrun, Result.andThen]
    exact hK _ _ h
  · obtain ⟨b', off', rfl, hc⟩ := hx.at (by omega)
    have hrun := run_copy_cells (P := Try.prog) w 22 22 o.type 66 b off dLen dCap ⟨b', off', none⟩ sLen sCap (xs.map vU) Try.underlying22 Try.size_u64
      (by rw [hlen, hx.len]; exact (Nat.min_eq_left hle).symm)
      (fun j v hj => hx.news _ rfl j v hj)
      (fun j hj => by rw [(hf j (by have := hx.len; omega)).1]; rfl) (fun j hj => (hf j (by have := hx.len; omega)).2) mapU_one
    unfold Oper.wp
    simp [execOp, ho, resolve, invoke, builtin, hd, hs, hrun, Result.andThen]
    exact hK _ _ h

set_option maxHeartbeats 2000000 in
/-- bitset.clone. -/
theorem clone_any (sz : Nat) (a : Option Addr) (n c : Nat) (xs : List Nat) (w : World) (h : SlW w a n c xs) (hsz : sz ≤ 4096) (hn : n = nW sz) :
    Calls Try.prog 69 #[setV sz a n c] w fun r w' => ∃ v, r = .returned v ∧ NewS w w' sz (nW sz) (fun i => xs.getD i 0) v := by
  unfold setV
  obtain ⟨wa, hwa⟩ : ∃ wa, w.alloc (.cells #[.int .i64 (sz : Int), .slice a n c] 24) = wa := ⟨_, rfl⟩
  obtain ⟨wb, hwb⟩ : ∃ wb, wa.alloc (.cells #[.int .i64 0, .slice none 0 0] 24) = wb := ⟨_, rfl⟩
  obtain ⟨tA, tR, hB, hlt1, hlt2⟩ := enter1 hwa hwb
  have a0 := tA.c0
  have a1 := tA.c1
  have HA := hide (And.intro tA (And.intro tR (And.intro (h.below hB) hB)))
  have HL := hide h.len
  have HN := hide hn
  clear tA tR hB h hn
  go_enter Try.func69, Try.ntmps69
  go_wp2_with fail
  refine (blank_any sz wb hsz).mono ?_
  rintro _ wc ⟨v, rfl, b, cb, rfl, hc1, hc2, hb1, hb2, hfn, hbel⟩
  unfold setV
  rw [← unhide HN] at hfn hc1 ⊢
  have hal : Below wc.heap.size wc (wc.alloc (.cells #[.int .i64 sz, .slice (some ⟨b, 0, none⟩) n cb] 24)) := (Below.refl _ _).alloc (Nat.le_refl _) _
  have hfd := hfn.below hal
  have tZ : Two (wc.alloc (.cells #[.int .i64 sz, .slice (some ⟨b, 0, none⟩) n cb] 24)) wc.heap.size (.int .i64 sz) (.slice (some ⟨b, 0, none⟩) n cb) := Two.made _ _ _ _
  have tA := ((unhide HA).1.keep hbel).keep hal
  have tR := ((unhide HA).2.1.keep hbel).keep hal
  have hs := (((unhide HA).2.2.1.below hbel).below hal)
  have hBd := ((unhide HA).2.2.2.trans (hbel.mono (by omega))).trans (hal.mono (by have := hbel.size; omega))
  have hZlt := hbel.size
  generalize hwd : wc.alloc (.cells #[.int .i64 sz, .slice (some ⟨b, 0, none⟩) n cb] 24) = wd at *
  have z0 := tZ.c0
  have z1 := tZ.c1
  have d0 := tA.c0
  have d1 := tA.c1
  have HF := hide hfd
  have HS := hide hs
  have hbA : b ≠ w.heap.size := by omega
  have hbR : b ≠ wa.heap.size := by omega
  have hcg := chg_setCells b (xs.map vU) 0 wd
  have tZ2 := tZ.chg hcg (by omega)
  have tR2 := tR.chg hcg (by omega)
  have e0 := tZ2.c0
  have e1 := tZ2.c1
  have r0 := tR2.c0
  have r1 := tR2.c1
  have f0 := tR2.f0
  have f1 := tR2.f1
  have tR3 := tR2.set (.int .i64 sz) (.slice (some ⟨b, 0, none⟩) n cb)
  have p0 := tR3.c0
  have p1 := tR3.c1
  have HE := hide (show FnW (((wd.setCells b 0 (xs.map vU)).setCell ⟨wa.heap.size, 0, none⟩ (.int .i64 sz)).setCell ⟨wa.heap.size, 1, none⟩ (.slice (some ⟨b, 0, none⟩) n cb)) b 0 n (fun i => xs.getD i 0) ∧ Below w.heap.size w (((wd.setCells b 0 (xs.map vU)).setCell ⟨wa.heap.size, 0, none⟩ (.int .i64 sz)).setCell ⟨wa.heap.size, 1, none⟩ (.slice (some ⟨b, 0, none⟩) n cb)) ∧ b < (((wd.setCells b 0 (xs.map vU)).setCell ⟨wa.heap.size, 0, none⟩ (.int .i64 sz)).setCell ⟨wa.heap.size, 1, none⟩ (.slice (some ⟨b, 0, none⟩) n cb)).heap.size from by
    refine ⟨FnG.two ((hfd.copied (d := 0) xs (by rw [unhide HL]; exact Nat.le_refl _)).congr (fun i hi => by simp [unhide HL, hi])) _ _ _ (by omega), two_below (hBd.trans (hcg.below hBd.size (fun j hj => by omega))) _ (by omega) _ _, ?_⟩
    have h1 := hcg.size
    have h2 := tZ.lt
    simp
    omega)
  have hcw := hc2
  unfold maxLen at hcw
  clear tZ tA tR hs hfd hBd hcg tZ2 tR2 tR3 hal HA hfn
  go_wp2_with (refine wpList_copy_words rfl _ _ rfl b 0 n cb a n c rfl rfl _ (unhide HF) xs (unhide HS) (Nat.le_refl _) ?_)
  refine bodyPost_ret (by simp [results, Try.results69, go_sem, p0, p1]; try rfl) rfl ?_
  rw [← unhide HN]
  exact ⟨_, rfl, b, cb, rfl, hc1, hc2, by omega, (unhide HE).2.2, (unhide HE).1, (unhide HE).2.1⟩
end Go.Proofs.Ytbendkndnojihaa
