/-
  sloperef3.Of: its contract.
-/
import Derived.Test.YtbendkndnojihaaBt4
namespace Go.Proofs.Ytbendkndnojihaa
open Go.RowKit Go.Deep
set_option linter.unusedVariables false

/-- A set that is answered. -/
def SetIs (w w' : World) (s : Int) (xs : List Nat) (v : Value) : Prop :=
  ∃ a n c, v = setV s a n c ∧ SlW w' a n c xs ∧ (∀ x, a = some x → w.heap.size ≤ x.block) ∧ Below w.heap.size w w'

/-- The words of yes and no. -/
def bitsL (ins : List Bool) : List Nat := wordsL ins.length (fun x => ins.getD x false)

theorem RgLp.skip {w wr : World} {R Z b cb N sz : Nat} {ins : List Bool} {k : Nat} (h : RgLp w wr R Z b cb N sz (fun x => decide (x < k) && ins.getD x false)) (hf : ins.getD k false = false) : RgLp w wr R Z b cb N sz (fun x => decide (x < k + 1) && ins.getD x false) :=
  h.congr fun x _ => by
    by_cases e : x = k
    · subst e; rw [hf]; simp
    · by_cases e2 : x < k
      · simp [e2, show x < k + 1 from by omega]
      · simp [e2, show ¬ x < k + 1 from by omega]
theorem or_step {ins : List Bool} {k x : Nat} (hf : ins.getD k false = true) : (x == k || (decide (x < k) && ins.getD x false)) = (decide (x < k + 1) && ins.getD x false) := by
  by_cases e : x = k
  · subst e; rw [hf]; simp
  · by_cases e2 : x < k
    · simp [e, e2, show x < k + 1 from by omega]
    · simp [e, e2, show ¬ x < k + 1 from by omega]

set_option maxHeartbeats 4000000 in
/-- sloperef3.Of. -/
theorem of_any (a : Option Addr) (n c : Nat) (ins : List Bool) (w : World) (h : SlB w a n c ins) (hn : n ≤ 4096) :
    Calls Try.prog 52 #[.slice a n c] w fun e w' => ∃ v, e = .returned v ∧ SetIs w w' n (bitsL ins) v := by
  have hle := h.le
  have hcap := h.cap
  unfold maxLen at hcap
  have hm := make_words (nW n) (by unfold nW; omega)
  have hq : ((n : Int) + 63) / 64 = (nW n : Int) := by unfold nW; omega
  have hle64 : nW n ≤ 64 := by unfold nW; omega
  have HN := hide (show ∀ e, e < n → e / 64 < nW n from fun e he => by unfold nW; omega)
  have HNN := hide (show nW ins.length = nW n by rw [h.len])
  generalize nW n = N at *
  have hNw : IntKind.i64.wrap (N : Int) = (N : Int) := by rw [wrap_i64]; omega
  have HSl := hide h
  have HLn := hide h.len
  clear h
  obtain ⟨wa, hwa⟩ : ∃ wa, w.alloc (.cells #[.int .i64 0, .slice none 0 0] 24) = wa := ⟨_, rfl⟩
  have HR := hide (show Two wa w.heap.size (.int .i64 0) (.slice none 0 0) by rw [← hwa]; exact Two.made _ _ _ _)
  have HB := hide (show Below w.heap.size w wa by rw [← hwa]; exact (Below.refl _ _).alloc (Nat.le_refl _) _)
  go_enter Try.func52, Try.ntmps52
  go_wp2_with fail
  have hzR := (unhide HR).lt
  obtain ⟨wb, hwb⟩ : ∃ wb, wa.alloc (.cells (madeCells #[.int .u64 0] N) 66) = wb := ⟨_, rfl⟩
  have hal : Below wa.heap.size wa wb := by rw [← hwb]; exact (Below.refl _ _).alloc (Nat.le_refl _) _
  have hszb : wb.heap.size = wa.heap.size + 1 := by rw [← hwb]; simp
  have hfb : FnW wb wa.heap.size 0 N (fun _ => 0) := by rw [← hwb]; exact FnG.made wa N 66 0 rfl
  rw [hwb]
  have HT := hide (show RgLp w (wb.alloc (.cells #[.int .i64 n, .slice (some ⟨wa.heap.size, 0, none⟩) N N] 24)) w.heap.size wb.heap.size wa.heap.size N N n (fun x => decide (x < 0) && ins.getD x false) by
    have hal2 : Below wb.heap.size wb (wb.alloc (.cells #[.int .i64 n, .slice (some ⟨wa.heap.size, 0, none⟩) N N] 24)) := (Below.refl _ _).alloc (Nat.le_refl _) _
    refine ⟨((unhide HR).keep hal).keep hal2, Two.made _ _ _ _, ⟨_, hfb.below hal2, (RepB.zero N).congr (fun _ _ => rfl) (fun x _ => by simp)⟩, ?_⟩
    exact ((unhide HB).trans (hal.mono (unhide HB).size)).trans (hal2.mono (by have := (unhide HB).size; have := hal.size; omega)))
  have hbZ : wb.heap.size ≠ wa.heap.size := by omega
  have hbR : w.heap.size ≠ wa.heap.size := by omega
  have hbw : w.heap.size ≤ wa.heap.size := by omega
  rw [hszb] at HT hbZ
  clear hwb hal hszb hfb HR HB hwa
  generalize wb.alloc (.cells #[.int .i64 n, .slice (some ⟨wa.heap.size, 0, none⟩) N N] 24) = wc at *
  generalize wa.heap.size = b at *
  go_loopw [4] (fun i wr => ∃ k : Nat, k ≤ n ∧ i = .int .i64 k ∧ RgLp w wr w.heap.size (b + 1) b N N n (fun x => decide (x < k) && ins.getD x false)) (fun i _ => n - (intOf i).toNat)
  case atStart => exact ⟨0, Nat.zero_le _, rfl, unhide HT⟩
  case round =>
    obtain ⟨k, hk, rfl, hst⟩ := hrel
    have t0 := hst.two.c0
    have t1 := hst.two.c1
    have r0 := hst.res.c0
    have r1 := hst.res.c1
    have q0 := hst.res.f0
    have q1 := hst.res.f1
    have HS := hide hst
    by_cases hlt : k < n
    · have hlt' : (k : Int) < (n : Int) := by omega
      obtain ⟨ba, off, rfl, hcells⟩ := ((unhide HSl).below hst.bel).at (by omega)
      have hcell := hcells k hlt
      unfold vB at hcell
      obtain ⟨f, hfn, hrep⟩ := (unhide HS).rep
      have heN := unhide HN k hlt
      cases hx : ins.getD k false
      · rw [hx] at hcell
        have HX := hide hx
        clear hcells hst hx hfn hrep
        go_wp2_with fail
        exact ⟨⟨k + 1, by omega, by go_num, (unhide HS).skip (unhide HX)⟩, by simp [intOf]; omega⟩
      · rw [hx] at hcell
        have HX := hide hx
        obtain ⟨q, hqq⟩ : ∃ q, k / 64 = q := ⟨_, rfl⟩
        have hqi : (k : Int) / 64 = (q : Int) := by omega
        have hqw : IntKind.i64.wrap (q : Int) = (q : Int) := by rw [wrap_i64]; omega
        have hm := pow_lt64 (Nat.mod_lt k (by decide : 0 < 64))
        rw [hqq] at heN
        have hqn : (q : Int) < (N : Int) := by omega
        have hq0 : (0 : Int) ≤ (q : Int) := by omega
        have hxx := (hrep q heN).1
        have ho := u64_or_nat (f q) (2 ^ (k % 64)) hxx hm
        have hc1 := (hfn q heN).1
        have hc2 := (hfn q heN).2
        have hsh := u64_nat hm
        rw [Nat.zero_add] at hc1 hc2
        have HE := hide (show FnW (wr.setCell ⟨b, q, none⟩ (vU (f q ||| 2 ^ (k % 64)))) b 0 N (fun i => if i = k / 64 then f (k / 64) ||| 2 ^ (k % 64) else f i) ∧ RepB N f (fun x => decide (x < k) && ins.getD x false) ∧ k / 64 < N by
          have := hfn.set q (f q ||| 2 ^ (k % 64)) heN
          rw [Nat.zero_add] at this
          rw [hqq]
          exact ⟨this, hrep, heN⟩)
        clear hcells hst hx hfn hrep hxx hm hqq
        unfold vU at hc1
        generalize hy : (f q ||| 2 ^ (k % 64)) = y at *
        generalize f q = x at *
        have HPO := hide (show bits .or .u64 (x : Int) (2 ^ (k % 64)) = (y : Int) by
          rw [← ho]; simp)
        clear hy ho
        simp at hsh
        go_wp2_with fail
        go_region
        all_goals
          go_wp2_with fail
          rw [unhide HPO]
          refine ⟨⟨k + 1, by omega, by go_num, ?_⟩, by simp [intOf]; omega⟩
          obtain ⟨e1, e2, e3⟩ := unhide HE
          exact ((unhide HS).step e3 hbR hbZ hbw e2 (e1.below (Below.refl _ _).drew) (Chg.of_set (S := fun j => j = b) _ _ _ _ rfl).drew).congr (fun x _ => or_step (unhide HX))
    · have hlt' : ¬ (k : Int) < (n : Int) := by omega
      have hkn : k = n := by omega
      subst hkn
      have HT3 := hide (two_below (unhide HS).bel w.heap.size (Nat.le_refl _) (.int .i64 k) (.slice (some ⟨b, 0, none⟩) N N))
      have T3 := (unhide HS).res.set (.int .i64 k) (.slice (some ⟨b, 0, none⟩) N N)
      have p0 := T3.c0
      have p1 := T3.c1
      clear T3 hst
      go_wp2_with fail
      refine bodyPost_ret (by simp [results, Try.results52, go_sem, p0, p1]; try rfl) rfl ?_
      obtain ⟨f, hfn, hrep⟩ := (unhide HS).rep
      refine ⟨_, rfl, _, _, _, rfl, ?_, fun x hx => by cases hx; exact hbw, unhide HT3⟩
      have e := unhide HNN
      subst e
      have := (hfn.two w.heap.size (.int .i64 k) (.slice (some ⟨b, 0, none⟩) (nW ins.length) (nW ins.length)) hbR).sl (d := 0) (Nat.le_refl _) (by unfold maxLen; omega)
      have hr : RepB (nW ins.length) f (fun x => ins.getD x false) := hrep.congr (fun _ _ => rfl) (fun x _ => by
        by_cases hx : x < k
        · simp [hx]
        · have : ins.getD x false = false := by simp [List.getD, List.getElem?_eq_none (show ins.length ≤ x by rw [unhide HLn]; omega)]
          rw [this]; simp)
      rwa [show lstG f (nW ins.length) = bitsL ins from wordsL_of hr] at this
end Go.Proofs.Ytbendkndnojihaa
