/- QBtb -/
import Derived.Test.YtbbicappjicblaaGreatDoorQBti
import Derived.Test.YtbbicappjicblaaGreatDoorQBt0
namespace Go.Proofs.YtbbicappjicblaaGreatDoor.Bs
open Go.RowKit Go.Deep
set_option linter.unusedVariables false
def markN : Nat := 8608480567731124087
def ResS (w w' : World) (r : Int × List Nat × Int) (e : Ending) : Prop :=
 ∃ a n c, e = .returned (.tuple #[setV r.1 a n c, .int .i64 r.2.2]) ∧ SlW w' a n c r.2.1 ∧ Below w.heap.size w w'

def badE (size : Int) (e : Int) : Bool := decide (e < 0) || decide (size ≤ e)
def mkR (size : Int) (l : List Int) : Int × List Nat × Int :=
 if fitsI size then (if l.any (badE size) then (0, [], 62) else (size, wordsL size.toNat (fun x => l.any (fun e => e == (x : Int))), 0)) else (0, [], 60)

theorem any_take {l : List Int} {k : Nat} (hk : k < l.length) (p : Int → Bool) : (l.take (k + 1)).any p = (p (l.getD k 0) || (l.take k).any p) := by
 rw [List.take_add_one, List.getElem?_eq_getElem hk, List.any_append, Bool.or_comm]
 simp [List.getD, hk]
theorem any_bad {l : List Int} {p : Int → Bool} {k : Nat} (hk : k < l.length) (h : p (l.getD k 0) = true) : l.any p = true := by
 rw [List.any_eq_true]
 refine ⟨l[k], List.getElem_mem hk, ?_⟩
 simpa [List.getD, hk] using h

structure MkLp (w wr : World) (R Z b cb N : Nat) (sz : Nat) (l : List Int) (k : Nat) : Prop where
 res : Two wr R (.int .i64 0) (.slice none 0 0)
 two : Two wr Z (.int .i64 sz) (.slice (some ⟨b, 0, none⟩) N cb)
 ok : (l.take k).any (badE sz) = false
 rep : ∃ f, FnW wr b 0 N f ∧ RepB N f (fun x => (l.take k).any (fun e => e == (x : Int)))
 bel : Below w.heap.size w wr
theorem MkLp.step {w wr w' : World} {R Z b cb N sz : Nat} {l : List Int} {k e : Nat} {f : Nat → Nat} (h : MkLp w wr R Z b cb N sz l k) (hk : k < l.length) (he : l.getD k 0 = (e : Int)) (hes : e < sz) (heN : e / 64 < N) (hR : R ≠ b) (hZ : Z ≠ b) (hb : w.heap.size ≤ b)
  (hrep : RepB N f (fun x => (l.take k).any (fun e => e == (x : Int))))
  (hf : FnW w' b 0 N (fun i => if i = e / 64 then f (e / 64) ||| 2 ^ (e % 64) else f i)) (hc : Chg (fun j => j = b) wr w') : MkLp w w' R Z b cb N sz l (k + 1) := by
 refine ⟨h.res.chg hc hR, h.two.chg hc hZ, ?_, ⟨_, hf, ?_⟩, h.bel.trans (hc.below h.bel.size (fun j hj => by omega))⟩
 ·rw [any_take hk, h.ok, he]
  simp [badE]
  omega
 ·refine (hrep.put e heN).congr (fun _ _ => rfl) (fun x _ => ?_)
  rw [any_take hk, he]
  congr 1
  rw [Bool.eq_iff_iff]
  simp
  omega
theorem FnG.copied {α : Type} {g : α → Value} {d : α} {w : World} {b off n : Nat} {f : Nat → α} (h : FnG g w b off n f) (xs : List α) (hl : xs.length ≤ n) : FnG g (w.setCells b off (xs.map g)) b off n (fun i => if i < xs.length then xs.getD i d else f i) := by
 intro i hi
 refine ⟨?_, by rw [World.frozen?_setCells]; exact (h i hi).2⟩
 have hlen : (xs.map g).length = xs.length := by simp
 by_cases e : i < xs.length
 ·rw [World.cell?_setCells_in b (xs.map g) off w (fun j hj => by rw [(h j (by omega)).1]; rfl) i (by omega)]
  simp [e, List.getD]
 ·rw [World.cell?_setCells_out b (xs.map g) off w _ (fun _ _ => by simp; omega)]
  simp [e, (h i hi).1]
def jOr (x y : Nat) : Nat := x ||| y
theorem jOr_lt {x y : Nat} (hx : x < 18446744073709551616) (hy : y < 18446744073709551616) : jOr x y < 18446744073709551616 := or_lt64 hx hy
set_option maxHeartbeats 400000 in
theorem or_fn (x y : Nat) (w : World) (hx : x < 18446744073709551616) (hy : y < 18446744073709551616) :
  Calls Tryz.prog 94 #[.int .u64 (x : Nat), .int .u64 (y : Nat)] w fun e w' => e = .returned (.int .u64 (jOr x y : Nat)) ∧ w' = w := by
 have H := hide (u64_or_nat x y hx hy)
 go_enter Tryz.func94, Tryz.ntmps94
 go_wp2
 go_ret
 refine ⟨?_, rfl⟩
 show Ending.returned (Value.int IntKind.u64 (bits .or .u64 (x : Int) (y : Int))) = _
 rw [unhide H]; rfl

def jnF (F : Nat → Nat → Nat) (f : Nat → Nat) (xs : List Nat) (k i : Nat) : Nat := if i < k then F (f i) (xs.getD i 0) else f i
theorem jnF_zero (F : Nat → Nat → Nat) (f : Nat → Nat) (xs : List Nat) : jnF F f xs 0 = f := by funext i; simp [jnF]
theorem jnF_step {F : Nat → Nat → Nat} {f : Nat → Nat} {xs : List Nat} {w : World} {b N k : Nat} (h : FnW w b 0 N (jnF F f xs k)) (hk : k < N) :
  FnW (w.setCell ⟨b, k, none⟩ (.int .u64 ((F (f k) (xs.getD k 0) : Nat) : Int))) b 0 N (jnF F f xs (k + 1)) := by
 have := h.set k (F (f k) (xs.getD k 0)) hk
 rw [Nat.zero_add] at this
 refine this.congr (fun i hi => ?_)
 unfold jnF
 by_cases e : i = k
 ·subst e; simp
 ·by_cases e2 : i < k
  ·simp [e, e2, show i < k + 1 from by omega]
  ·simp [e, e2, show ¬ i < k + 1 from by omega]
structure JnLp (w wr : World) (b N : Nat) (g : Nat → Nat) : Prop where
 row : FnW wr b 0 N g
 chg : Chg (fun j => j = b) w wr
structure RgLp (w wr : World) (R Z b cb N : Nat) (sz : Nat) (P : Nat → Bool) : Prop where
 res : Two wr R (.int .i64 0) (.slice none 0 0)
 two : Two wr Z (.int .i64 sz) (.slice (some ⟨b, 0, none⟩) N cb)
 rep : ∃ f, FnW wr b 0 N f ∧ RepB N f P
 bel : Below w.heap.size w wr
theorem RgLp.step {w wr w' : World} {R Z b cb N sz : Nat} {P : Nat → Bool} {e : Nat} {f : Nat → Nat} (h : RgLp w wr R Z b cb N sz P) (heN : e / 64 < N) (hR : R ≠ b) (hZ : Z ≠ b) (hb : w.heap.size ≤ b)
  (hrep : RepB N f P)
  (hf : FnW w' b 0 N (fun i => if i = e / 64 then f (e / 64) ||| 2 ^ (e % 64) else f i)) (hc : Chg (fun j => j = b) wr w') : RgLp w w' R Z b cb N sz (fun x => x == e || P x) :=
 ⟨h.res.chg hc hR, h.two.chg hc hZ, ⟨_, hf, hrep.put e heN⟩, h.bel.trans (hc.below h.bel.size (fun j hj => by omega))⟩
theorem RgLp.congr {w wr : World} {R Z b cb N sz : Nat} {P Q : Nat → Bool} (h : RgLp w wr R Z b cb N sz P) (e : ∀ x, x < 64 * N → P x = Q x) : RgLp w wr R Z b cb N sz Q :=
 ⟨h.res, h.two, by obtain ⟨f, h1, h2⟩ := h.rep; exact ⟨f, h1, h2.congr (fun _ _ => rfl) e⟩, h.bel⟩
theorem RgLp.chg {w wr w' : World} {R Z b cb N sz : Nat} {P P' : Nat → Bool} {f : Nat → Nat} (h : RgLp w wr R Z b cb N sz P) (hR : R ≠ b) (hZ : Z ≠ b) (hb : w.heap.size ≤ b)
  (hrep : RepB N f P') (hf : FnW w' b 0 N f) (hc : Chg (fun j => j = b) wr w') : RgLp w w' R Z b cb N sz P' :=
 ⟨h.res.chg hc hR, h.two.chg hc hZ, ⟨_, hf, hrep⟩, h.bel.trans (hc.below h.bel.size (fun j hj => by omega))⟩
theorem RgLp.keep {w wr w' : World} {R Z b cb N sz : Nat} {P : Nat → Bool} (h : RgLp w wr R Z b cb N sz P) (k : Below wr.heap.size wr w') : RgLp w w' R Z b cb N sz P :=
 ⟨h.res.keep k, h.two.keep k, by obtain ⟨f, h1, h2⟩ := h.rep; exact ⟨f, h1.below k, h2⟩, h.bel.trans (k.mono h.bel.size)⟩

def trF (sz N : Nat) (f : Nat → Nat) (i : Nat) : Nat := if i = N - 1 then f (N - 1) &&& (2 ^ lastB sz - 1) else f i
theorem RepB.trim {sz : Nat} {f : Nat → Nat} {P : Nat → Bool} (h : RepB (nW sz) f P) : RepB (nW sz) (trF sz (nW sz) f) (fun x => P x && decide (x < sz)) := by
 intro i hi
 have he := lastB_eq sz (by omega)
 have hl := lastB_le sz
 unfold trF
 by_cases e : i = nW sz - 1
 ·subst e
  simp only [if_true]
  refine ⟨and_lt64 (h _ hi).1, fun j hj => ?_⟩
  rw [Nat.testBit_and, (h _ hi).2 j hj, tb_ones]
  congr 1
  rw [decide_eq_decide]
  omega
 ·rw [if_neg e]
  refine ⟨(h _ hi).1, fun j hj => ?_⟩
  rw [(h _ hi).2 j hj]
  have : 64 * i + j < sz := by omega
  simp [this]

set_option maxHeartbeats 4000000 in
theorem trim_any (sz b N cb : Nat) (f : Nat → Nat) (w : World) (hsz : sz ≤ 4096) (hf : FnW w b 0 N f) (hlt : ∀ i, i < N → f i < 18446744073709551616) (hN : N ≤ 64) :
  Calls Tryz.prog 111 #[setV sz (some ⟨b, 0, none⟩) N cb] w fun r w' => r = .returned (.tuple #[]) ∧ FnW w' b 0 N (trF sz N f) ∧ Chg (fun j => j = b) w w' := by
 obtain ⟨wa, hwa⟩ : ∃ wa, w.alloc (.cells #[.int .i64 (sz : Int), .slice (some ⟨b, 0, none⟩) N cb] 82) = wa := ⟨_, rfl⟩
 have hba : Below w.heap.size w wa := by rw [← hwa]; exact (Below.refl _ _).alloc (Nat.le_refl _) _
 have tA : Two wa w.heap.size (.int .i64 sz) (.slice (some ⟨b, 0, none⟩) N cb) := by rw [← hwa]; exact Two.made _ _ _ _
 have hf1 := hf.below hba
 have t0 := tA.c0
 have t1 := tA.c1
 have HB := hide hba
 unfold setV
 by_cases h0 : N = 0
 ·subst h0
  have HF := hide hf1
  clear hba tA hf1 hf hlt
  go_enter Tryz.func111, Tryz.ntmps111
  go_wp2_with fail
  refine bodyPost_end (results_none rfl _ _ _) rfl ?_
  exact ⟨rfl, fun i hi => by omega, Chg.of_below (unhide HB)⟩
 ·have hp : (0 : Int) < (N : Int) := by omega
  have h2 : ((N : Int) - 1).toNat = N - 1 := by omega
  have h3 : (0 : Int) ≤ (N : Int) - 1 := by omega
  have h4 : (N : Int) - 1 < (N : Int) := by omega
  have h5 : IntKind.i64.wrap ((N : Int) - 1) = (N : Int) - 1 := by rw [wrap_i64]; omega
  have g1 := (hf1 (N - 1) (by omega)).1
  have g2 := (hf1 (N - 1) (by omega)).2
  rw [Nat.zero_add] at g1 g2
  have hx := hlt (N - 1) (by omega)
  have hm := pow_le64 (lastB_le sz)
  have ho := u64_and_nat (f (N - 1)) (2 ^ lastB sz - 1) hx hm
  have HS := hide (show FnW (wa.setCell ⟨b, N - 1, none⟩ (.int .u64 ((f (N - 1) &&& (2 ^ lastB sz - 1) : Nat) : Int))) b 0 N (trF sz N f) by
   have := hf1.set (N - 1) (f (N - 1) &&& (2 ^ lastB sz - 1)) (by omega)
   rw [Nat.zero_add] at this
   exact this)
  have HK := hide (fun w => inside_any sz w hsz)
  unfold vU at g1
  generalize f (N - 1) = x at *
  generalize (2 ^ lastB sz - 1) = m at *
  generalize (x &&& m) = y at *
  clear hba tA hf1 hf hlt hx hm
  go_enter Tryz.func111, Tryz.ntmps111
  go_wp2_with fail
  go_region_with (
   go_at_call 122
   refine (unhide HK _).mono ?_
   rintro _ w1 ⟨rfl, rfl⟩)
  all_goals
   go_wp2_with fail
   refine bodyPost_end (results_none rfl _ _ _) rfl ?_
   exact ⟨rfl, (unhide HS).below (Below.refl _ _).drew, ((Chg.of_below (unhide HB)).trans (Chg.of_set (S := fun j => j = b) _ _ _ _ rfl)).drew⟩

def PJ (op : Bool → Bool → Bool) (init : Bool) (sz : Nat) (L : List SetC) (x : Nat) : Bool :=
 L.foldl (fun acc e => op acc (hasB (fun i => e.xs.getD i 0) x)) (init && decide (x < sz))
def joinedR (op : Bool → Bool → Bool) (init : Bool) (size : Int) (L : List SetC) : Int × List Nat × Int :=
 if alikeE size L = 0 then (size, wordsL size.toNat (PJ op init size.toNat L), 0) else (0, [], alikeE size L)
theorem PJ_step {op : Bool → Bool → Bool} {init : Bool} {sz : Nat} {L : List SetC} {k : Nat} (hk : k < L.length) (x : Nat) : PJ op init sz (L.take (k + 1)) x = op (PJ op init sz (L.take k) x) (hasB (fun i => (L.getD k .nul).xs.getD i 0) x) := by
 unfold PJ
 rw [List.take_add_one, List.getElem?_eq_getElem hk, List.foldl_append]
 simp [List.getD, hk]
theorem alike_zero {size : Int} {L : List SetC} (h : alikeE size L = 0) : fitsI size = true ∧ ∀ e ∈ L, MayS e.s e.xs = true ∧ e.s = size := by
 unfold alikeE at h
 split at h
 ·cases h
 ·rename_i h1
  split at h
  ·cases h
  ·rename_i h2
   simp at h1 h2
   refine ⟨h2.1, fun e he => ?_⟩
   have a1 := h1 e he
   have a2 := h2.2 e he
   simp [notMay] at a1
   simp [offS] at a2
   exact ⟨a1, a2⟩
theorem jn_rep {F : Nat → Nat → Nat} {op : Bool → Bool → Bool} {N : Nat} {f : Nat → Nat} {P : Nat → Bool} {xs : List Nat} (hF : ∀ x y, x < 18446744073709551616 → y < 18446744073709551616 → F x y < 18446744073709551616 ∧ ∀ j, (F x y).testBit j = op (x.testBit j) (y.testBit j))
  (h : RepB N f P) (hl : xs.length = N) (hok : OkW xs) : RepB N (jnF F f xs N) (fun x => op (P x) (hasB (fun i => xs.getD i 0) x)) := by
 intro i hi
 unfold jnF
 rw [if_pos hi]
 have hy : xs.getD i 0 < 18446744073709551616 := by
  have hkl : i < xs.length := by omega
  have : xs.getD i 0 = xs[i] := by simp [List.getD, hkl]
  rw [this]; exact hok _ (List.getElem_mem hkl)
 obtain ⟨h1, h2⟩ := hF (f i) (xs.getD i 0) (h i hi).1 hy
 refine ⟨h1, fun j hj => ?_⟩
 rw [h2, (h i hi).2 j hj]
 show op (P (64 * i + j)) ((xs.getD i 0).testBit j) = op (P (64 * i + j)) ((xs.getD ((64 * i + j) / 64) 0).testBit ((64 * i + j) % 64))
 rw [show (64 * i + j) / 64 = i from by omega, show (64 * i + j) % 64 = j from by omega]
theorem jOr_bits (x y : Nat) (hx : x < 18446744073709551616) (hy : y < 18446744073709551616) : jOr x y < 18446744073709551616 ∧ ∀ j, (jOr x y).testBit j = (x.testBit j || y.testBit j) := ⟨jOr_lt hx hy, fun j => by unfold jOr; rw [Nat.testBit_or]⟩
theorem fill_rep {N k : Nat} {init : Bool} : RepB N (fun i => if i < k then (if init then 18446744073709551615 else 0) else 0) (fun x => decide (x < 64 * k) && init) := by
 intro i hi
 cases init
 ·simp
 ·by_cases e : i < k
  ·simp only [if_pos e, if_true]
   refine ⟨by decide, fun j hj => ?_⟩
   have : (18446744073709551615 : Nat).testBit j = true := by
    have := tb_ones 64 j
    rw [show (2:Nat) ^ 64 - 1 = 18446744073709551615 from by decide] at this
    rw [this]; simp [hj]
   rw [this]
   symm
   simp
   omega
  ·simp only [if_neg e]
   refine ⟨by decide, fun j hj => ?_⟩
   simp
   omega
theorem fill_step {N k : Nat} {init : Bool} {f : Nat → Nat} {v : Nat} (hv : v = if init then 18446744073709551615 else 0) (h : RepB N f (fun x => decide (x < 64 * k) && init)) : RepB N (fun i => if i = k then v else f i) (fun x => decide (x < 64 * (k + 1)) && init) := by
 intro i hi
 by_cases e : i = k
 ·subst e
  have hh := (fill_rep (N := N) (k := i + 1) (init := init)) i hi
  simp only [Nat.lt_succ_self, if_true] at hh ⊢
  rw [hv]
  exact hh
 ·have hh := h i hi
  simp only [if_neg e]
  refine ⟨hh.1, fun j hj => ?_⟩
  rw [hh.2 j hj]
  simp only
  congr 1
  rw [decide_eq_decide]
  omega
def gW (xs : List Nat) (i : Nat) : Nat := xs.getD i 0
theorem gW_ok {x : List Nat} (h : OkW x) (i : Nat) : gW x i < 18446744073709551616 := by
 unfold gW
 by_cases hi : i < x.length
 ·have : x.getD i 0 = x[i] := by simp [List.getD, hi]
  rw [this]; exact h _ (List.getElem_mem hi)
 ·simp [List.getD, List.getElem?_eq_none (show x.length ≤ i by omega)]
theorem i64_and127 (n : Nat) (h : n < 9223372036854775808) : bits .and .i64 (n : Int) 127 = ((n % 128 : Nat) : Int) := by
 have h63 : (BitVec.ofInt 64 127).toNat = 2 ^ 7 - 1 := by decide
 have key : (BitVec.ofInt 64 (n : Int) &&& BitVec.ofInt 64 127).toNat = ((n : Int) % ((2 ^ 64 : Nat) : Int)).toNat % 2 ^ 7 := by
  rw [BitVec.toNat_and, BitVec.toNat_ofInt, h63, Nat.and_two_pow_sub_one_eq_mod]
 show IntKind.i64.wrap ((BitVec.ofInt 64 (n : Int) &&& BitVec.ofInt 64 127).toNat : Nat) = _
 rw [key, wrap_i64]
 omega

def pc64 (x : Nat) : Nat := cntB (fun j => x.testBit j) 64
theorem pc64_le (x : Nat) : pc64 x ≤ 64 := cntB_le _ _
set_option maxHeartbeats 8000000 in
set_option maxRecDepth 100000 in
theorem ones64_any (x : Nat) (w : World) (h : x < 18446744073709551616) :
  Calls Tryz.prog 130 #[.int .u64 (x : Nat)] w fun e w' => e = .returned (.int .i64 (pc64 x : Nat)) ∧ w' = w := by
 obtain ⟨p1, q1, p2, q2, y3, e1, e2, l1, e3, e4, l2, l3, e5, l4, l5, l6, e6⟩ := swar x h
 obtain ⟨a1, ha1⟩ : ∃ a, x / 2 = a := ⟨_, rfl⟩
 obtain ⟨y1, hy1⟩ : ∃ a, p1 + q1 = a := ⟨_, rfl⟩
 rw [ha1] at e1
 rw [hy1] at e3 e4 l1
 obtain ⟨a2, ha2⟩ : ∃ a, y1 / 4 = a := ⟨_, rfl⟩
 rw [ha2] at e3
 obtain ⟨y2, hy2⟩ : ∃ a, p2 + q2 = a := ⟨_, rfl⟩
 rw [hy2] at e5 l2 l3
 obtain ⟨a3, ha3⟩ : ∃ a, y2 / 16 = a := ⟨_, rfl⟩
 rw [ha3] at e5 l3
 obtain ⟨z, hz⟩ : ∃ b, a3 + y2 = b := ⟨_, rfl⟩
 rw [hz] at e5 l3
 obtain ⟨a4, ha4⟩ : ∃ a, y3 / 256 = a := ⟨_, rfl⟩
 rw [ha4] at e6 l4 l5 l6
 obtain ⟨y4, hy4⟩ : ∃ a, y3 + a4 = a := ⟨_, rfl⟩
 rw [hy4] at e6 l4 l5 l6
 obtain ⟨a5, ha5⟩ : ∃ a, y4 / 65536 = a := ⟨_, rfl⟩
 rw [ha5] at e6 l5 l6
 obtain ⟨y5, hy5⟩ : ∃ a, y4 + a5 = a := ⟨_, rfl⟩
 rw [hy5] at e6 l5 l6
 obtain ⟨a6, ha6⟩ : ∃ a, y5 / 4294967296 = a := ⟨_, rfl⟩
 rw [ha6] at e6 l6
 obtain ⟨y6, hy6⟩ : ∃ a, y5 + a6 = a := ⟨_, rfl⟩
 rw [hy6] at e6 l6
 have g1 : (x : Int) / 2 = (a1 : Int) := by omega
 have f1 : bits .and .u64 (a1 : Int) 6148914691236517205 = (p1 : Int) := by rw [← e1]; exact u64_and_nat a1 6148914691236517205 (by omega) (by decide)
 have f2 : bits .and .u64 (x : Int) 6148914691236517205 = (q1 : Int) := by rw [← e2]; exact u64_and_nat x 6148914691236517205 h (by decide)
 have S1 : (p1 : Int) + (q1 : Int) = (y1 : Int) := by omega
 have U1 := u64_nat l1
 have g2 : (y1 : Int) / 4 = (a2 : Int) := by omega
 have f3 : bits .and .u64 (a2 : Int) 3689348814741910323 = (p2 : Int) := by rw [← e3]; exact u64_and_nat a2 3689348814741910323 (by omega) (by decide)
 have f4 : bits .and .u64 (y1 : Int) 3689348814741910323 = (q2 : Int) := by rw [← e4]; exact u64_and_nat y1 3689348814741910323 l1 (by decide)
 have S2 : (p2 : Int) + (q2 : Int) = (y2 : Int) := by omega
 have U2 := u64_nat l2
 have g3 : (y2 : Int) / 16 = (a3 : Int) := by omega
 have S3 : (a3 : Int) + (y2 : Int) = (z : Int) := by omega
 have U3 := u64_nat l3
 have f5 : bits .and .u64 (z : Int) 1085102592571150095 = (y3 : Int) := by rw [← e5]; exact u64_and_nat z 1085102592571150095 l3 (by decide)
 have g4 : (y3 : Int) / 256 = (a4 : Int) := by omega
 have S4 : (y3 : Int) + (a4 : Int) = (y4 : Int) := by omega
 have U4 := u64_nat (show y4 < 18446744073709551616 by omega)
 have g5 : (y4 : Int) / 65536 = (a5 : Int) := by omega
 have S5 : (y4 : Int) + (a5 : Int) = (y5 : Int) := by omega
 have U5 := u64_nat (show y5 < 18446744073709551616 by omega)
 have g6 : (y5 : Int) / 4294967296 = (a6 : Int) := by omega
 have S6 : (y5 : Int) + (a6 : Int) = (y6 : Int) := by omega
 have U6 := u64_nat (show y6 < 18446744073709551616 by omega)
 have V6 : IntKind.i64.wrap (y6 : Int) = (y6 : Int) := by rw [wrap_i64]; omega
 have f6 : bits .and .i64 (y6 : Int) 127 = ((pc64 x : Nat) : Int) := by rw [i64_and127 y6 l6, e6]; rfl
 clear e1 e2 e3 e4 e5 e6 l1 l2 l3 l4 l5 l6 ha1 hy1 ha2 hy2 ha3 hz ha4 hy4 ha5 hy5 ha6 hy6
 generalize pc64 x = r at *
 go_enter Tryz.func130, Tryz.ntmps130
 go_wp2
 go_ret
 exact ⟨rfl, rfl⟩

theorem cnt_words (xs : List Nat) (n : Nat) : cntB (hasB (gW xs)) (64 * (n + 1)) = cntB (hasB (gW xs)) (64 * n) + pc64 (gW xs n) := by
 rw [show 64 * (n + 1) = 64 * n + 64 from by omega, cntB_add]
 congr 1
 unfold pc64
 apply cntB_congr
 intro x hx
 unfold hasB
 rw [show (64 * n + x) / 64 = n from by omega, show (64 * n + x) % 64 = x from by omega]

set_option maxHeartbeats 2000000 in
theorem count_any (a : Option Addr) (n c : Nat) (xs : List Nat) (w : World) (h : SlW w a n c xs) (o : OkW xs) (hn : n ≤ 1000000) :
  Calls Tryz.prog 123 #[.slice a n c] w fun e w' => e = .returned (.int .i64 (cntB (hasB (gW xs)) (64 * n) : Nat)) ∧ w' = w := by
 have hle := h.le
 have hcap := h.cap
 unfold maxLen at hcap
 have HS := hide h
 have HO := hide o
 have HLn := hide h.len
 clear h o
 go_enter Tryz.func123, Tryz.ntmps123
 go_wp2_with fail
 go_loopw [8, 3, 5] (fun i v _ wr => ∃ k : Nat, k ≤ n ∧ i = .int .i64 k ∧ v = .int .i64 (cntB (hasB (gW xs)) (64 * k) : Nat) ∧ wr = w) (fun i _ _ _ => n - (intOf i).toNat)
 case atStart => exact ⟨0, Nat.zero_le _, rfl, rfl, rfl⟩
 case round =>
  obtain ⟨k, hk, rfl, rfl, rfl⟩ := hrel
  by_cases hlt : k < n
  ·have hlt' : (k : Int) < (n : Int) := by omega
   obtain ⟨b, off, rfl, hc⟩ := (unhide HS).at (by omega)
   have g := hc k hlt
   have hx := gW_ok (unhide HO) k
   have hgk : xs.getD k 0 = gW xs k := rfl
   rw [hgk] at g
   have HE := hide (cnt_words xs k)
   have hb := cntB_le (hasB (gW xs)) (64 * k)
   have hp := pc64_le (gW xs k)
   have K := ones64_any (gW xs k) wr hx
   unfold vU at g
   generalize cntB (hasB (gW xs)) (64 * k) = u at *
   generalize gW xs k = x at *
   generalize pc64 x = v at *
   have HK := hide K
   clear hc K hx hgk
   go_wp2_with fail
   refine (unhide HK).mono ?_
   rintro _ w' ⟨rfl, hw⟩
   obtain rfl := hw.symm
   go_wp2_with fail
   refine ⟨⟨k + 1, by omega, by go_num, ?_, by first | trivial | rfl⟩, by simp [intOf]; omega⟩
   rw [unhide HE]
   go_num
  ·have hlt' : ¬ (k : Int) < (n : Int) := by omega
   have hkn : k = n := by omega
   subst hkn
   obtain ⟨u, hu⟩ : ∃ u, cntB (hasB (gW xs)) (64 * k) = u := ⟨_, rfl⟩
   rw [hu]
   have HU := hide hu
   clear hu
   go_wp2_with fail
   go_ret
   rw [unhide HU]
   exact ⟨rfl, rfl⟩

def countR (s : Int) (xs : List Nat) : Nat := if MayS s xs then cntB (hasB (gW xs)) s.toNat else 0
theorem countR_words {s : Int} {xs : List Nat} (h : MayS s xs = true) : countR s xs = cntB (hasB (gW xs)) (64 * xs.length) := by
 have hn : s.toNat ≤ 64 * nW s.toNat := by unfold nW; omega
 rw [countR, if_pos h, MayS.len h]
 obtain ⟨m, hm⟩ : ∃ m, 64 * nW s.toNat = s.toNat + m := ⟨64 * nW s.toNat - s.toNat, by omega⟩
 rw [hm, cntB_add]
 have z : ∀ k, k ≤ m → cntB (fun x => hasB (gW xs) (s.toNat + x)) k = 0 := by
  intro k
  induction k with
  | zero => intro _; rfl
  | succ k ih =>
   intro hk
   simp only [cntB]
   have hz : hasB (gW xs) (s.toNat + k) = false := MayS.zero h (s.toNat + k) (by omega) (by rw [MayS.len h]; omega)
   rw [ih (by omega)]
   simp [hz]
 rw [z m (Nat.le_refl _)]
 rfl
set_option maxHeartbeats 2000000 in
theorem Count_any (s : Int) (a : Option Addr) (n c : Nat) (xs : List Nat) (w : World) (h : SlW w a n c xs) (o : OkW xs) :
  Calls Tryz.prog 104 #[setV s a n c] w fun e w' => e = .returned (.int .i64 (countR s xs : Nat)) ∧ Below w.heap.size w w' := by
 obtain ⟨wa, hwa⟩ : ∃ x, w.alloc (.cells #[.int .i64 s, .slice a n c] 82) = x := ⟨_, rfl⟩
 have hba : Below w.heap.size w wa := by rw [← hwa]; exact (Below.refl _ _).alloc (Nat.le_refl _) _
 have tA : Two wa w.heap.size (.int .i64 s) (.slice a n c) := by rw [← hwa]; exact Two.made _ _ _ _
 have K := may_any s a n c xs wa (h.below hba) o
 have a0 := tA.c0
 have a1 := tA.c1
 have HA := hide (And.intro tA (And.intro (h.below hba) hba))
 have HO := hide o
 have HL := hide h.len
 clear tA hba h o
 unfold setV at K ⊢
 cases m : MayS s xs
 ·rw [m] at K
  have e0 : countR s xs = 0 := by simp [countR, m]
  rw [e0]
  have HK := hide K
  clear K m e0
  go_enter Tryz.func104, Tryz.ntmps104
  go_wp2_with fail
  refine (unhide HK).mono ?_
  rintro _ w1 ⟨rfl, hb1⟩
  have HB := hide ((unhide HA).2.2.trans (hb1.mono (unhide HA).2.2.size))
  clear hb1 HK
  go_wp2_with fail
  go_ret
  exact ⟨rfl, unhide HB⟩
 ·rw [m] at K
  rw [countR_words m]
  have hn : n ≤ 1000000 := by
   have hf := MayS.fits m
   have hl := MayS.len m
   rw [unhide HL] at hl
   simp [fitsI] at hf
   rw [hl]; unfold nW; omega
  rw [unhide HL]
  have HK := hide K
  clear K m
  go_enter Tryz.func104, Tryz.ntmps104
  go_wp2_with fail
  refine (unhide HK).mono ?_
  rintro _ w1 ⟨rfl, hb1⟩
  have HB := hide ((unhide HA).2.2.trans (hb1.mono (unhide HA).2.2.size))
  have K2 := count_any a n c xs w1 ((unhide HA).2.1.below hb1) (unhide HO) hn
  have tA := (unhide HA).1.keep hb1
  have b1 := tA.c1
  obtain ⟨u, hu⟩ : ∃ u, cntB (hasB (gW xs)) (64 * n) = u := ⟨_, rfl⟩
  rw [hu] at K2
  have HU := hide hu
  have HK2 := hide K2
  clear hb1 HK K2 tA hu
  go_wp2_with fail
  refine (unhide HK2).mono ?_
  rintro _ w' ⟨rfl, hw⟩
  obtain rfl := hw.symm
  go_wp2_with fail
  go_ret
  rw [unhide HU]
  exact ⟨rfl, unhide HB⟩
end Go.Proofs.YtbbicappjicblaaGreatDoor.Bs
