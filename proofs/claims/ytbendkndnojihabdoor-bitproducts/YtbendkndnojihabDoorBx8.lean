/-
  WHAT Product KEEPS IN ITS LOOP (the contract itself: Bxp).
-/
import Derived.Test.YtbendkndnojihabDoorBx5
namespace Go.Proofs.YtbendkndnojihabDoor
open Go.RowKit Go.Deep Go.Shelf
set_option linter.unusedVariables false
attribute [local go_sem] Oper.semAt_some

theorem jor_rep {n : Nat} {f : Nat → Nat} {P : Nat → Bool} {xs : List Nat} (h : RepB n f P) (ho : OkW xs) : RepB n (jnF jOr f xs n) (fun y => P y || hasB (gW xs) y) := by
  intro i hi
  have hx : jnF jOr f xs n i = f i ||| gW xs i := by simp [jnF, hi, jOr, gW]
  rw [hx]
  refine ⟨or_lt64 (h i hi).1 (gW_ok ho i), fun j hj => ?_⟩
  show _ = (P (64 * i + j) || hasB (gW xs) (64 * i + j))
  rw [Nat.testBit_or, (h i hi).2 j hj, hasB_word _ _ _ hj]
/-- The union of the sets of B whose numbers Q has. -/
def prQ (B : List SetC) (m : Nat) (Q : Nat → Bool) (y : Nat) : Bool := (List.range m).any (fun e => Q e && inT B e y)
/-- In the loop of Product. -/
def prP (A B : List SetC) (m k : Nat) (Q : Nat → Bool) (i y : Nat) : Bool := (decide (i < k) && prQ B m (inT A i) y) || (decide (i = k) && Q y)
theorem TnI.unite {w W W' : World} {B0 Rb Z T n sz : Nat} {bs cs : Nat → Nat} {P : Nat → Nat → Bool} {ds : List Nat} (h : TnI w W B0 Rb Z T n sz bs cs P ds) (hR : w.heap.size ≤ Rb) (hZ : ∀ i, i < sz → bs i ≠ Z) (hB : ∀ i, i < sz → bs i < B0) {e : Nat} (he : e < sz) {F : Nat → Nat → Nat} (h1 : TbM (Rb + 1) W T sz (nW n) n F sz bs cs) (h2 : ∀ i, i < sz → RepB (nW n) (F i) (P i))
    {xs : List Nat} (ho : OkW xs) (hc : Chg (fun j => j = bs e) W W') (hf : FnW W' (bs e) 0 (nW n) (jnF jOr (F e) xs (nW n))) : TnI w W' B0 Rb Z T n sz bs cs (fun i y => if i = e then (P e y || hasB (gW xs) y) else P i y) ds := by
  have g := h1.ge e he
  refine ⟨h.bel.trans (hc.below h.bel.size (fun j hj => by omega)), h.tr.chg hc (by omega), h.tz.chg hc (fun x => hZ e he x.symm), ⟨_, h1.upd he hc hf, fun i hi => ?_⟩, h.mks.chgB hc (fun k hk => by rw [hk]; exact hB e he), Nat.le_trans h.hs hc.size⟩
  by_cases c : i = e
  · subst c
    simp only [if_true]
    exact jor_rep (h2 i hi) ho
  · simp only [if_neg c]
    exact h2 i hi
/-- What has come so far. -/
def prE (B : List SetC) {m : Nat} {xs : List Nat} (pre : List (Elem m xs)) (y : Nat) : Bool := pre.any (fun z => inT B z.val y)
theorem prP_put (A B : List SetC) (mm k : Nat) {m : Nat} {xs : List Nat} (pre : List (Elem m xs)) (x : Elem m xs) {ys : List Nat} (hy : (B.getD x.val .nul).xs = ys) (i y : Nat) : (if i = k then (prP A B mm k (prE B pre) k y || hasB (gW ys) y) else prP A B mm k (prE B pre) i y) = prP A B mm k (prE B (pre ++ [x])) i y := by
  unfold prP
  by_cases c : i = k
  · subst c
    simp [prE, inT]
    rw [← hy]
    rfl
  · rw [if_neg c]
    simp [c]
theorem prP_done (A B : List SetC) (mm k : Nat) {m : Nat} (xs : List Nat) (hx : (A.getD k .nul).xs = xs) {ys : List (Elem m xs)} (h : ys.map (·.val) = elN (hasB (gW xs)) (64 * m)) (hz : ∀ y, mm ≤ y → y < 64 * m → hasB (gW xs) y = false) (hm : mm ≤ 64 * m) (i y : Nat) : prP A B mm k (prE B ys) i y = prP A B mm (k + 1) (fun _ => false) i y := by
  have e : prE B ys y = prQ B mm (hasB (gW xs)) y := by
    have e1 : prE B ys y = (ys.map (·.val)).any (fun z => inT B z y) := by unfold prE; rw [List.any_map]; rfl
    rw [e1, h, Bool.eq_iff_iff]
    unfold prQ
    simp only [List.any_eq_true, elN_mem, List.mem_range, Bool.and_eq_true]
    constructor
    · rintro ⟨z, ⟨h1, h2⟩, h3⟩
      refine ⟨z, ?_, h2, h3⟩
      rcases Nat.lt_or_ge z mm with c | c
      · exact c
      · rw [hz z c h1] at h2; cases h2
    · rintro ⟨z, h1, h2, h3⟩
      exact ⟨z, ⟨by omega, h2⟩, h3⟩
  have e2 : prQ B mm (inT A k) y = prQ B mm (hasB (gW xs)) y := by
    unfold prQ inT
    rw [hx]
  unfold prP
  by_cases d : i = k
  · subst d
    rw [e, ← e2]
    simp
  · by_cases d2 : i < k
    · simp [d, d2, show i < k + 1 from by omega]
    · simp [d, d2, show ¬ i < k + 1 from by omega]
end Go.Proofs.YtbendkndnojihabDoor

namespace Go.Proofs.YtbendkndnojihabDoor
open Go.RowKit Go.Deep
set_option linter.unusedVariables false

def sqE (s : Int) (L : List SetC) : Int := if MayT s L then (if (L.length : Int) = s then 0 else 60) else 61
set_option maxHeartbeats 4000000 in
/-- bitset.square. -/
theorem square_any (s : Int) (a : Option Addr) (n c : Nat) (L : List SetC) (w : World) (h : SlS w a n c L) :
    Calls Tryd.prog 38 #[setV s a n c] w fun r w' => r = .returned (.int .i64 (sqE s L)) ∧ Below w.heap.size w w' := by
  have hl := h.len
  have hle := h.le
  have hcap := h.cap
  unfold maxLen at hcap
  obtain ⟨wa, hwa⟩ : ∃ x, w.alloc (.cells #[.int .i64 s, .slice a n c] 24) = x := ⟨_, rfl⟩
  have ba : Below w.heap.size w wa := by rw [← hwa]; exact (Below.refl _ _).alloc (Nat.le_refl _) _
  have A0 : Two wa w.heap.size (.int .i64 s) (.slice a n c) := by rw [← hwa]; exact Two.made _ _ _ _
  have K := mayT_any s a n c L wa (h.below ba)
  have HA := hide (And.intro A0 ba)
  have a0 := A0.c0
  have a1 := A0.c1
  unfold setV at K ⊢
  clear h A0 ba
  cases m : MayT s L
  · rw [m] at K
    have e : sqE s L = 61 := by simp [sqE, m]
    rw [e]
    have HK := hide K
    clear K m e
    go_enter Tryd.func38, Tryd.ntmps38
    go_wp2_with fail
    refine (unhide HK).mono ?_
    rintro _ wd ⟨rfl, hbd⟩
    have HB := hide ((unhide HA).2.trans (hbd.mono (unhide HA).2.size))
    clear hbd a0 a1
    go_wp2_with fail
    go_ret
    exact ⟨rfl, unhide HB⟩
  · rw [m] at K
    have HK := hide K
    by_cases hs : (n : Int) = s
    · have e : sqE s L = 0 := by simp [sqE, m, hl, hs]
      rw [e]
      subst hs
      clear K m e
      go_enter Tryd.func38, Tryd.ntmps38
      go_wp2_with fail
      refine (unhide HK).mono ?_
      rintro _ wd ⟨rfl, hbd⟩
      have HB := hide ((unhide HA).2.trans (hbd.mono (unhide HA).2.size))
      have A1 := (unhide HA).1.keep hbd
      clear a0 a1
      have a0 := A1.c0
      have a1 := A1.c1
      clear hbd A1
      go_wp2_with fail
      go_ret
      exact ⟨rfl, unhide HB⟩
    · have e : sqE s L = 60 := by simp [sqE, m, hl, hs]
      rw [e]
      have hs' : ((n : Int) == s) = false := by simpa using hs
      clear K m e
      go_enter Tryd.func38, Tryd.ntmps38
      go_wp2_with fail
      refine (unhide HK).mono ?_
      rintro _ wd ⟨rfl, hbd⟩
      have HB := hide ((unhide HA).2.trans (hbd.mono (unhide HA).2.size))
      have A1 := (unhide HA).1.keep hbd
      clear a0 a1
      have a0 := A1.c0
      have a1 := A1.c1
      clear hbd A1
      go_wp2_with fail
      go_ret
      exact ⟨rfl, unhide HB⟩

set_option maxHeartbeats 4000000 in
/-- bitset.Turn, refused. -/
theorem turn_no (s : Int) (a : Option Addr) (n c : Nat) (L : List SetC) (w : World) (h : SlS w a n c L) (hm : MayT s L = false) :
    Calls Tryd.prog 25 #[setV s a n c] w fun r w' => r = .returned (.tuple #[setV 0 none 0 0, .int .i64 61]) ∧ Below w.heap.size w w' := by
  have hle := h.le
  have hcap := h.cap
  unfold maxLen at hcap
  obtain ⟨wa, hwa⟩ : ∃ x, w.alloc (.cells #[.int .i64 s, .slice a n c] 24) = x := ⟨_, rfl⟩
  obtain ⟨wb, hwb⟩ : ∃ x, wa.alloc (.cells #[.int .i64 0, .slice none 0 0] 24) = x := ⟨_, rfl⟩
  have ba : Below w.heap.size w wa := by rw [← hwa]; exact (Below.refl _ _).alloc (Nat.le_refl _) _
  have bb : Below wa.heap.size wa wb := by rw [← hwb]; exact (Below.refl _ _).alloc (Nat.le_refl _) _
  have A0 : Two wb w.heap.size (.int .i64 s) (.slice a n c) := by
    refine Two.keep (w := wa) ?_ bb
    rw [← hwa]; exact Two.made _ _ _ _
  have R0 : Two wb wa.heap.size (.int .i64 0) (.slice none 0 0) := by rw [← hwb]; exact Two.made _ _ _ _
  have hB0 := ba.trans (bb.mono ba.size)
  have K := mayT_any s a n c L wb ((h.below ba).below bb)
  have la := ba.size
  have HA := hide (And.intro R0 hB0)
  have a0 := A0.c0
  have a1 := A0.c1
  unfold setV at K ⊢
  rw [hm] at K
  have HK := hide K
  clear hm A0 R0 h ba bb hB0 K
  go_enter Tryd.func25, Tryd.ntmps25
  go_wp2_with fail
  refine (unhide HK).mono ?_
  rintro _ wd ⟨rfl, hbd⟩
  have R1 := (unhide HA).1.keep hbd
  have r0 := R1.c0
  have r1 := R1.c1
  have f0 := R1.f0
  have f1 := R1.f1
  have T3 := R1.set (.int .i64 0) (.slice none 0 0)
  have p0 := T3.c0
  have p1 := T3.c1
  have HB := hide (two_below ((unhide HA).2.trans (hbd.mono (unhide HA).2.size)) wa.heap.size la (.int .i64 0) (.slice none 0 0))
  clear hbd R1 T3 a0 a1 hwa hwb
  go_wp2_with fail
  refine bodyPost_ret (by simp [results, Tryd.results25, go_sem, p0, p1]; try rfl) rfl ?_
  exact ⟨rfl, unhide HB⟩
end Go.Proofs.YtbendkndnojihabDoor
