/- QBtg0 -/
import Derived.Test.YtbbicappjicblaaGreatDoorQBti
import Derived.Test.YtbbicappjicblaaGreatDoorQBn2
namespace Go.Proofs.YtbbicappjicblaaGreatDoor.Bs
open Go.RowKit Go.Deep
set_option linter.unusedVariables false
theorem SlW.two {w : World} {R : Nat} {s0 : Int} {a0 : Option Addr} {n0 c0 : Nat} {a : Option Addr} {n c : Nat} {xs : List Nat} (h : SlW w a n c xs) (t : Two w R (.int .i64 s0) (.slice a0 n0 c0)) (u0 u1 : Value) :
  SlW ((w.setCell ⟨R, 0, none⟩ u0).setCell ⟨R, 1, none⟩ u1) a n c xs := by
 refine ⟨h.len, h.le, h.cap, ?_⟩
 rcases h.cells with e | ⟨b, off, e, k⟩
 ·exact .inl e
 ·refine .inr ⟨b, off, e, fun i hi => ?_⟩
  have hc := k i hi
  have h0 : ¬ (R = b ∧ 0 = off + i) := by
   rintro ⟨rfl, hh⟩
   rw [← hh, t.c0] at hc
   cases hc
  have h1 : ¬ (R = b ∧ 1 = off + i) := by
   rintro ⟨rfl, hh⟩
   rw [← hh, t.c1] at hc
   cases hc
  rw [World.cell?_setCell_other _ _ _ _ (by intro h; injection h with e1 e2; exact h1 ⟨e1, e2⟩), World.cell?_setCell_other _ _ _ _ (by intro h; injection h with e1 e2; exact h0 ⟨e1, e2⟩)]
  exact hc
set_option maxHeartbeats 8000000 in
theorem join_or (s1 s2 : Int) (b N cb : Nat) (f : Nat → Nat) (a : Option Addr) (n c : Nat) (xs : List Nat) (w : World) (hf : FnW w b 0 N f) (hlt : ∀ i, i < N → f i < 18446744073709551616)
  (h : SlW w a n c xs) (hok : OkW xs) (hn : n ≤ N) (hN : N ≤ 64) (hne : 0 < n → ∀ x, a = some x → x.block ≠ b) (hcb : cb ≤ maxLen) (hNc : N ≤ cb) :
  Calls Tryz.prog 112 #[setV s1 (some ⟨b, 0, none⟩) N cb, setV s2 a n c, .func (.func 94) #[] #[]] w fun r w' => r = .returned (.tuple #[]) ∧ FnW w' b 0 N (jnF jOr f xs n) ∧ Chg (fun j => j = b) w w' := by
 have hle := h.le
 have hcap := h.cap
 unfold maxLen at hcap hcb
 obtain ⟨wa, hwa⟩ : ∃ wa, w.alloc (.cells #[.int .i64 s1, .slice (some ⟨b, 0, none⟩) N cb] 82) = wa := ⟨_, rfl⟩
 obtain ⟨wb, hwb⟩ : ∃ wb, wa.alloc (.cells #[.int .i64 s2, .slice a n c] 82) = wb := ⟨_, rfl⟩
 have hba : Below w.heap.size w wa := by rw [← hwa]; exact (Below.refl _ _).alloc (Nat.le_refl _) _
 have hbb : Below wa.heap.size wa wb := by rw [← hwb]; exact (Below.refl _ _).alloc (Nat.le_refl _) _
 have tA : Two wb w.heap.size (.int .i64 s1) (.slice (some ⟨b, 0, none⟩) N cb) := by
  refine Two.keep (w := wa) ?_ hbb
  rw [← hwa]; exact Two.made _ _ _ _
 have tB : Two wb wa.heap.size (.int .i64 s2) (.slice a n c) := by rw [← hwb]; exact Two.made _ _ _ _
 have hB := hba.trans (hbb.mono hba.size)
 have hwl : w.heap.size < wa.heap.size := by rw [← hwa]; simp
 have hS := (h.below hba).below hbb
 have HA := hide (And.intro tA (And.intro tB (And.intro hS hB)))
 have HF := hide (show JnLp wb wb b N (jnF jOr f xs 0) from ⟨by rw [jnF_zero]; exact (hf.below hba).below hbb, Chg.refl _ _⟩)
 have HLt := hide hlt
 have HOk := hide hok
 have HNe := hide hne
 have HLn := hide h.len
 have HbA := hide (show 0 < N → b < w.heap.size from fun h0 => by
  have := World.block_lt_of_cell? _ _ (hf 0 h0).1
  exact this)
 have b1 := tB.c1
 clear hf hlt h hok hne hba hbb tA tB hB hS
 unfold setV
 go_enter Tryz.func112, Tryz.ntmps112
 go_wp2_with fail
 clear b1 hwb hwa
 go_loopw [11, 6, 7] (fun i _ _ wr => ∃ k : Nat, k ≤ n ∧ i = .int .i64 k ∧ JnLp wb wr b N (jnF jOr f xs k)) (fun i _ _ _ => n - (intOf i).toNat)
 case atStart => exact ⟨0, Nat.zero_le _, rfl, unhide HF⟩
 case round =>
  obtain ⟨k, hk, rfl, hst⟩ := hrel
  by_cases hlt : k < n
  ·have hlt' : (k : Int) < (n : Int) := by omega
   have hltN : (k : Int) < (N : Int) := by omega
   have hbw := unhide HbA (by omega)
   obtain ⟨qA, qB, qS, qBl⟩ := unhide HA
   have hS2 := qS.chg hst.chg (fun x hx _ => unhide HNe (by omega) x hx)
   have tA := qA.chg hst.chg (by omega)
   obtain ⟨b2, o2, rfl, hc2⟩ := hS2.at (by omega)
   have g1 := hc2 k hlt
   have g2 := (hst.row k (by omega)).1
   have g3 := (hst.row k (by omega)).2
   rw [Nat.zero_add] at g2 g3
   have HS := hide (show JnLp wb (wr.setCell ⟨b, k, none⟩ (.int .u64 ((jOr (f k) (xs.getD k 0) : Nat) : Int))) b N (jnF jOr f xs (k + 1)) from ⟨jnF_step hst.row (by omega), hst.chg.trans (Chg.of_set (S := fun j => j = b) _ _ _ _ rfl)⟩)
   have hfk : jnF jOr f xs k k = f k := by simp [jnF]
   rw [hfk] at g2
   have hx := unhide HLt k (by omega)
   have hy : xs.getD k 0 < 18446744073709551616 := by
    have hkl : k < xs.length := by rw [unhide HLn]; exact hlt
    have : xs.getD k 0 = xs[k] := by simp [List.getD, hkl]
    rw [this]; exact unhide HOk _ (List.getElem_mem hkl)
   have HK := hide (fun w => or_fn (f k) (xs.getD k 0) w hx hy)
   unfold vU at g1 g2
   generalize f k = x at *
   generalize xs.getD k 0 = y at *
   generalize jOr x y = z at *
   have a1 := tA.c1
   clear hc2 hst qA qB qS qBl hS2 tA hfk hx hy
   go_wp2_with fail
   go_region_with (
    go_at_call 94
    refine (unhide HK _).mono ?_
    rintro _ w1 ⟨rfl, rfl⟩)
   all_goals
    go_wp2_with fail
    exact ⟨⟨k + 1, by omega, by go_num, ⟨(unhide HS).row.below (Below.refl _ _).drew, (unhide HS).chg.drew⟩⟩, by simp [intOf]; omega⟩
  ·have hlt' : ¬ (k : Int) < (n : Int) := by omega
   have hkn : k = n := by omega
   subst hkn
   go_wp2_with fail
   refine bodyPost_end (results_none rfl _ _ _) rfl ?_
   exact ⟨rfl, hst.row, (Chg.of_below (unhide HA).2.2.2).trans hst.chg⟩
def op_or (x y : Bool) : Bool := x || y
end Go.Proofs.YtbbicappjicblaaGreatDoor.Bs

namespace Go.Proofs.YtbbicappjicblaaGreatDoor.Bs
open Go.RowKit Go.Deep
set_option linter.unusedVariables false

end Go.Proofs.YtbbicappjicblaaGreatDoor.Bs

namespace Go.Proofs.YtbbicappjicblaaGreatDoor.Bs
open Go.RowKit Go.Deep
set_option linter.unusedVariables false

end Go.Proofs.YtbbicappjicblaaGreatDoor.Bs
namespace Go.Proofs.YtbbicappjicblaaGreatDoor.Bs
open Go.RowKit Go.Deep
set_option linter.unusedVariables false
def bitsL (ins : List Bool) : List Nat := wordsL ins.length (fun x => ins.getD x false)
theorem bits_fn (g : Nat → Bool) (sz : Nat) : bitsL (lstG g sz) = wordsL sz (fun x => decide (x < sz) && g x) := by
 unfold bitsL
 rw [lstG_len]
 apply wordsL_congr
 intro x _
 by_cases h : x < sz
 ·rw [lstG_getD g sz x false h]; simp [h]
 ·simp [h, List.getD, List.getElem?_eq_none (show (lstG g sz).length ≤ x by rw [lstG_len]; omega)]

structure InLp (w wr : World) (R b sz : Nat) (g : Nat → Bool) : Prop where
 res : Two wr R (.int .i64 0) (.slice none 0 0)
 row : FnB wr b 0 sz g
 bel : Below w.heap.size w wr
theorem InLp.made {w wa : World} (h : Two wa w.heap.size (.int .i64 0) (.slice none 0 0)) (hb : Below w.heap.size w wa) (sz : Nat) : InLp w (wa.alloc (.cells (madeCells #[.bool false] sz) 4)) w.heap.size wa.heap.size sz (fun _ => false) :=
 have hal : Below wa.heap.size wa (wa.alloc (.cells (madeCells #[.bool false] sz) 4)) := (Below.refl _ _).alloc (Nat.le_refl _) _
 ⟨h.keep hal, FnG.made wa sz 4 false rfl, hb.trans (hal.mono hb.size)⟩
theorem InLp.set {w wr : World} {R b sz : Nat} {g : Nat → Bool} (h : InLp w wr R b sz g) (k : Nat) (v : Bool) (hk : k < sz) (hR : R ≠ b) (hb : w.heap.size ≤ b) : InLp w (wr.setCell ⟨b, k, none⟩ (.bool v)) R b sz (fun x => if x = k then v else g x) := by
 refine ⟨h.res.other b k _ (fun e => hR e.symm), ?_, h.bel.setCell (p := ⟨b, k, none⟩) hb _⟩
 have := h.row.set k v hk
 rw [Nat.zero_add] at this
 exact this
theorem InLp.congr {w wr : World} {R b sz : Nat} {g g' : Nat → Bool} (h : InLp w wr R b sz g) (e : ∀ x, x < sz → g x = g' x) : InLp w wr R b sz g' := ⟨h.res, h.row.congr e, h.bel⟩
theorem InLp.sl {w wr : World} {R b sz : Nat} {g : Nat → Bool} (h : InLp w wr R b sz g) (hs : sz ≤ 4096) : SlB wr (some ⟨b, 0, none⟩) sz sz (lstG g sz) := h.row.sl (Nat.le_refl _) (by unfold maxLen; omega)
theorem InLp.done {w wr w2 : World} {R b sz : Nat} {g P : Nat → Bool} {a : Option Addr} {n c : Nat} (h : InLp w wr R b sz g) (hR : R = w.heap.size) (hs : SlW w2 a n c (bitsL (lstG g sz))) (hb : Below wr.heap.size wr w2) (hne : ∀ x, a = some x → wr.heap.size ≤ x.block) (hP : ∀ x, (decide (x < sz) && g x) = P x) :
  ResS w ((w2.setCell ⟨R, 0, none⟩ (.int .i64 sz)).setCell ⟨R, 1, none⟩ (.slice a n c)) (sz, wordsL sz P, 0) (.returned (.tuple #[.agg #[.int .i64 sz, .slice a n c], .int .i64 0])) := by
 refine ⟨a, n, c, rfl, ?_, two_below (h.bel.trans (hb.mono h.bel.size)) R (by omega) _ _⟩
 have e : bitsL (lstG g sz) = wordsL sz P := by
  rw [bits_fn]
  exact wordsL_congr (fun x _ => hP x)
 rw [e] at hs
 have hlt := h.res.lt
 exact hs.chg (two_chg w2 R _ _) (fun x hx hl => by have := hne x hx; omega)
end Go.Proofs.YtbbicappjicblaaGreatDoor.Bs

namespace Go.Proofs.YtbbicappjicblaaGreatDoor.Bs
open Go.RowKit Go.Deep
set_option linter.unusedVariables false

end Go.Proofs.YtbbicappjicblaaGreatDoor.Bs
namespace Go.Proofs.YtbbicappjicblaaGreatDoor.Bs
open Go.RowKit Go.Deep
set_option linter.unusedVariables false
def hasS (x : Nat) (e : SetC) : Bool := hasB (fun i => e.xs.getD i 0) x
def manyB (all : Bool) (L : List SetC) (x : Nat) : Bool := if all then L.all (hasS x) else L.any (hasS x)
def manyR (size : Int) (L : List SetC) (all : Bool) : Int × List Nat × Int :=
 if alikeE size L = 0 then (size, wordsL size.toNat (fun x => decide (x < size.toNat) && manyB all L x), 0) else (0, [], alikeE size L)
theorem fold_or (p : SetC → Bool) : ∀ (L : List SetC) (a : Bool), L.foldl (fun acc e => op_or acc (p e)) a = (a || L.any p)
 | [], a => by simp
 | e :: L, a => by rw [List.foldl_cons, fold_or p L, List.any_cons]; unfold op_or; rw [Bool.or_assoc]
theorem joined_or_many (size : Int) (L : List SetC) : joinedR op_or false size L = manyR size L false := by
 unfold joinedR manyR
 by_cases h : alikeE size L = 0
 ·simp only [if_pos h]
  congr 2
  obtain ⟨h1, h2⟩ := alike_zero h
  apply wordsL_congr
  intro x hx
  have e : PJ op_or false size.toNat L x = L.any (hasS x) := by
   unfold PJ
   rw [show (fun (acc : Bool) (e : SetC) => op_or acc (hasB (fun i => e.xs.getD i 0) x)) = (fun acc e => op_or acc (hasS x e)) from rfl, fold_or]
   simp
  rw [e]
  simp only [manyB]
  by_cases hs : x < size.toNat
  ·simp [hs]
  ·have : L.any (hasS x) = false := by
    rw [List.any_eq_false]
    intro y hy hh
    obtain ⟨m1, m2⟩ := h2 y hy
    have hz := MayS.zero m1 x (by rw [m2]; omega) (by rw [MayS.len m1, m2]; exact hx)
    unfold hasS at hh
    rw [hz] at hh
    cases hh
   rw [this]; simp
 ·simp only [if_neg h]
structure Tw (w : World) (e t : SetC) : Prop where
 s : t.s = e.s
 n : t.n = e.n
 xs : t.xs = e.xs
 mark : ∃ b, t.a = some ⟨b, 0, none⟩ ∧ SlW w (some ⟨b, 0, none⟩) (e.n + 1) t.c (e.xs ++ [markN])
 ok : OkW e.xs
theorem Tw.below {w w' : World} {e t : SetC} (h : Tw w e t) (k : Below w.heap.size w w') : Tw w' e t :=
 ⟨h.s, h.n, h.xs, by obtain ⟨b, h1, h2⟩ := h.mark; exact ⟨b, h1, h2.below k⟩, h.ok⟩
theorem Tw.in {w : World} {e t : SetC} (h : Tw w e t) : t.In w := by
 obtain ⟨b, h1, h2⟩ := h.mark
 refine ⟨?_, by rw [h.xs]; exact h.ok⟩
 rw [h1, h.n, h.xs]
 exact h2.init
def flatS : List SetC → List Value
 | [] => []
 | e :: L => .int .i64 e.s :: .slice e.a e.n e.c :: flatS L
theorem flatS_append : ∀ (L M : List SetC), flatS (L ++ M) = flatS L ++ flatS M
 | [], M => rfl
 | e :: L, M => by simp [flatS, flatS_append L M]
theorem flatS_get : ∀ (L : List SetC) (i : Nat), i < L.length → (flatS L)[i * 2]? = some (.int .i64 (L.getD i .nul).s) ∧ (flatS L)[i * 2 + 1]? = some (.slice (L.getD i .nul).a (L.getD i .nul).n (L.getD i .nul).c)
 | [], i, h => by simp at h
 | e :: L, 0, h => by simp [flatS]
 | e :: L, i + 1, h => by
  have := flatS_get L i (by simpa using h)
  rw [show (i + 1) * 2 = i * 2 + 1 + 1 from by omega]
  simpa [flatS] using this

structure TwLp (w wr : World) (v : Value) (L T : List SetC) (k : Nat) : Prop where
 len : T.length = k
 nil : k = 0 → v = .slice none 0 0
 own : wr.ownsRow w.heap.size 82 2 v k (flatS T)
 tw : ∀ i, i < k → Tw wr (L.getD i .nul) (T.getD i .nul)
 bel : Below w.heap.size w wr

theorem TwLp.apart {w wr : World} {v : Value} {L T : List SetC} {k : Nat} (h : TwLp w wr v L T k) {b n c : Nat} {xs : List Nat} (hs : SlW wr (some ⟨b, 0, none⟩) (n + 1) c xs) : v.ownBlock ≠ some b := by
 intro hv
 rcases h.own.2 with ⟨e, hk⟩ | ⟨g, cap, cur, e, hb, hblk, h1, h2, h3, h4⟩
 ·rw [e] at hv; cases hv
 ·rw [e] at hv
  simp [Value.ownBlock] at hv
  subst hv
  obtain ⟨b', o', e', hc⟩ := hs.at (by omega)
  cases e'
  have c0 := hc 0 (by omega)
  rw [Nat.zero_add, cell_of_block hblk] at c0
  by_cases hk : k = 0
  ·have := h.nil hk
   rw [e] at this
   cases this
  ·have f := (flatS_get T 0 (by rw [h.len]; omega)).1
   rw [← h4] at f
   have f2 : cur[0]? = some (.int .i64 (T.getD 0 .nul).s) := by
    simpa [List.getElem?_take, show 0 < k * 2 from by omega] using f
   rw [f2] at c0
   cases c0
theorem chg_grown {w w' : World} {row : Option Nat} (h : w.grownBy w' row) : Chg (fun j => row = some j) w w' :=
 ⟨h.os, h.tape, h.output, h.size, fun k hk hs => h.block k hk (fun e => hs e.symm)⟩

theorem TwLp.step {w wr w1 w2 : World} {v v2 : Value} {L T : List SetC} {k : Nat} {t : SetC} (h : TwLp w wr v L T k) (hb : Below wr.heap.size wr w1) (ht : Tw w1 (L.getD k .nul) t) (hnz : v2 ≠ .slice none 0 0)
  (hg : (w1.alloc (.cells #[.int .i64 t.s, .slice t.a t.n t.c] 82)).grownBy w2 v.ownBlock) (hown : w2.ownsRow w.heap.size 82 2 v2 (k + 1) (flatS T ++ [.int .i64 t.s, .slice t.a t.n t.c])) : TwLp w w2 v2 L (T ++ [t]) (k + 1) := by
 have hal : Below w1.heap.size w1 (w1.alloc (.cells #[.int .i64 t.s, .slice t.a t.n t.c] 82)) := (Below.refl _ _).alloc (Nat.le_refl _) _
 have hall : Below wr.heap.size wr (w1.alloc (.cells #[.int .i64 t.s, .slice t.a t.n t.c] 82)) := hb.trans (hal.mono hb.size)
 have hlp : TwLp w (w1.alloc (.cells #[.int .i64 t.s, .slice t.a t.n t.c] 82)) v L T k := by
  refine ⟨h.len, h.nil, ?_, fun i hi => (h.tw i hi).below hall, h.bel.trans (hall.mono h.bel.size)⟩
  rcases h.own with ⟨h1, h2 | ⟨g, cap, cur, e, q1, q2, q3⟩⟩
  ·exact ⟨h1, .inl h2⟩
  ·refine ⟨h1, .inr ⟨g, cap, cur, e, q1, ?_, q3⟩⟩
   rw [hall.block g]
   ·exact q2
   ·rcases Nat.lt_or_ge g wr.heap.size with hlt | hge
    ·exact hlt
    ·rw [Array.getElem?_eq_none hge] at q2; cases q2
 have hc := chg_grown hg
 have keep : ∀ e u, Tw (w1.alloc (.cells #[.int .i64 t.s, .slice t.a t.n t.c] 82)) e u → Tw w2 e u := by
  intro e u hu
  obtain ⟨b, h1, h2⟩ := hu.mark
  refine ⟨hu.s, hu.n, hu.xs, ⟨b, h1, h2.chg hc (fun x hx _ => ?_)⟩, hu.ok⟩
  cases hx
  exact hlp.apart h2
 refine ⟨by simp [h.len], fun hk => by omega, by rw [flatS_append]; exact hown, ?_, ?_⟩
 ·intro i hi
  by_cases e : i = k
  ·subst e
   have : (T ++ [t]).getD i .nul = t := by
    have hl := h.len
    subst hl
    simp [List.getD]
   rw [this]
   exact keep _ _ (ht.below hal)
  ·have : (T ++ [t]).getD i .nul = T.getD i .nul := by
    simp [List.getD, List.getElem?_append_left (show i < T.length by rw [h.len]; omega)]
   rw [this]
   exact keep _ _ (hlp.tw i (by omega))
 ·exact Below.grown hlp.bel hg hlp.bel.size (fun j hj => (own_ge h.own j hj).1)

structure Twins (w : World) (g cap n : Nat) (L T : List SetC) : Prop where
 sl : SlS w (some ⟨g, 0, none⟩) n cap T
 tw : ∀ i, i < n → Tw w (L.getD i .nul) (T.getD i .nul)
 lt : n + 1 ≤ cap
 last : w.cell? ⟨g, n * 2, none⟩ = some (.int .i64 (-7))
theorem Twins.below {w w' : World} {g cap n : Nat} {L T : List SetC} (h : Twins w g cap n L T) (k : Below w.heap.size w w') : Twins w' g cap n L T :=
 ⟨h.sl.below k, fun i hi => (h.tw i hi).below k, h.lt, below_cell k h.last⟩
end Go.Proofs.YtbbicappjicblaaGreatDoor.Bs

namespace Go.Proofs.YtbbicappjicblaaGreatDoor.Bs
open Go.ChangeShapes Go.WideShapes Go.ChangeAt Go.RowKit Go.Deep
set_option linter.unusedVariables false

end Go.Proofs.YtbbicappjicblaaGreatDoor.Bs

namespace Go.Proofs.YtbbicappjicblaaGreatDoor.Bs
open Go.ChangeShapes Go.WideShapes Go.ChangeAt Go.RowKit Go.Deep
set_option linter.unusedVariables false

end Go.Proofs.YtbbicappjicblaaGreatDoor.Bs
namespace Go.Proofs.YtbbicappjicblaaGreatDoor.Bs
open Go.RowKit Go.Deep
set_option linter.unusedVariables false
def SetC.key (e : SetC) : Int × List Nat := (e.s, e.xs)
theorem Twins.key {w : World} {g cap n : Nat} {L T : List SetC} (h : Twins w g cap n L T) (hl : L.length = n) : T.map SetC.key = L.map SetC.key := by
 have hT := h.sl.len
 apply List.ext_getElem (by simp; omega)
 intro i h1 h2
 simp at h1 h2
 have t := h.tw i (by omega)
 rw [show T.getD i .nul = T[i] from by simp [List.getD, h1], show L.getD i .nul = L[i] from by simp [List.getD, h2]] at t
 simp [SetC.key, t.s, t.xs]

def fTw (g cap n : Nat) (L T : List SetC) : Fact := ⟨fun w => Twins w g cap n L T, fun k h => h.below k⟩
theorem Facts.tw {w0 w : World} {F : List Fact} (h : Facts w0 w F) (g cap n : Nat) (L T : List SetC) (hm : fTw g cap n L T ∈ F) : Twins w g cap n L T := h.all _ hm
end Go.Proofs.YtbbicappjicblaaGreatDoor.Bs
