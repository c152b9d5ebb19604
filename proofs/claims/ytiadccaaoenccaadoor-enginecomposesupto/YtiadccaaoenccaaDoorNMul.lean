/- Add -/
import Derived.Test.YtiadccaaoenccaaDoorCmp
import Derived.Test.YtiadccaaoenccaaDoorBits
import Derived.Test.YtiadccaaoenccaaDoorBase
import Derived.Lib.BitFns
namespace Go.Proofs.YtiadccaaoenccaaDoor
open Go.RowKit Go.Deep
set_option linter.unusedVariables false
def NewRep (w w' : World) (v : Nat) (e : Ending) : Prop :=
  ∃ a' m ys, e = .returned (.slice a' m m) ∧ Sl w' a' m m ys ∧ Rep v ys ∧ NewAt w.heap.size a' ∧ Below w.heap.size w w'

theorem make_len1 (n : Nat) (hn : n ≤ 70368744177000) (w : World) : (Instr.makeSlice 49 (.int .i64 ((n : Int) + 1)) (.int .i64 ((n : Int) + 1))).run Tryd.prog w = .ok (.slice (some ⟨w.heap.size, 0, none⟩) (n + 1) (n + 1)) (w.alloc (.cells (madeCells #[.int .u32 0] (n + 1)) 74)) := by
  have := make_len (n + 1) (by omega) w
  rw [show ((n + 1 : Nat) : Int) = (n : Int) + 1 from by omega] at this
  exact this

theorem pow_mono {a b : Nat} (h : a ≤ b) : 4294967296 ^ a ≤ 4294967296 ^ b := Nat.pow_le_pow_right (by decide) h

def Res2 (w w' : World) (r : List Nat × Int) (e : Ending) : Prop :=
  ∃ a m c, e = .returned (.tuple #[.slice a m c, .int .i64 r.2]) ∧ Sl w' a m c r.1 ∧ NewAt w.heap.size a ∧ Below w.heap.size w w'

theorem sl_nil (w : World) : Sl w none 0 0 [] := ⟨rfl, Nat.le_refl _, Nat.zero_le _, .inl rfl⟩
theorem newAt_nil (B : Nat) : NewAt B none := fun x hx => by cases hx
end Go.Proofs.YtiadccaaoenccaaDoor

namespace Go.Proofs.YtiadccaaoenccaaDoor
open Go.RowKit Go.Deep
set_option linter.unusedVariables false

end Go.Proofs.YtiadccaaoenccaaDoor
namespace Go.Proofs.YtiadccaaoenccaaDoor
open Go.RowKit Go.Deep
set_option linter.unusedVariables false
theorem valF_ge (xs : List Nat) (n : Nat) (h : xs.length ≤ n) : valF (fun i => xs.getD i 0) n = val xs := by
  rw [← valF_pad xs n h]
  apply valF_congr
  intro i hi
  by_cases e : i < xs.length
  · simp [e]
  · rw [if_neg e]; exact getD_ge (by omega)

theorem one_int {k : IntKind} {x : Int} : ∀ u ∈ [Value.int k x], u.oneCell' = true := by
  intro u hu; simp at hu; subst hu; rfl

structure PlusR (wr w : World) (s t : Nat) (v : Value) (k c : Nat) (zs : List Nat) : Prop where
  len : zs.length = k
  ok : Ok zs
  cle : c ≤ 1
  own : wr.ownsRow w.heap.size 74 1 v k (vals zs)
  val : val zs + 4294967296 ^ k * c = s + t
  bel : Below w.heap.size w wr

theorem PlusR.step {wr w w1 : World} {s t : Nat} {v v' : Value} {k c : Nat} {zs : List Nat} {o : Obj} (h : PlusR wr w s t v k c zs) (x y : Nat) (hx : x < 4294967296) (hy : y < 4294967296)
    (hown : w1.ownsRow w.heap.size 74 1 v' (k + 1) (vals zs ++ [.int .u32 (adl x y c : Nat)])) (hg : (wr.alloc o).grownBy w1 v.ownBlock) :
    PlusR w1 w (s + 4294967296 ^ k * x) (t + 4294967296 ^ k * y) v' (k + 1) (adc x y c) (zs ++ [adl x y c]) := by
  have hs := h.bel.size
  refine ⟨by simp [h.len], ?_, adc_le x y c hx hy h.cle, by simpa [vals] using hown, ?_, ?_⟩
  · intro z hz
    rcases List.mem_append.1 hz with hz | hz
    · exact h.ok z hz
    · simp at hz; subst hz; exact adl_lt _ _ _
  · rw [val_append, h.len]
    simp only [Go.Proofs.YtiadccaaoenccaaDoor.val, Nat.mul_zero, Nat.add_zero]
    have e := ad_eq x y c
    rw [Nat.pow_succ]
    have : 4294967296 ^ k * adl x y c + 4294967296 ^ k * 4294967296 * adc x y c = 4294967296 ^ k * x + 4294967296 ^ k * y + 4294967296 ^ k * c := by
      rw [Nat.mul_assoc, ← Nat.mul_add, e, Nat.mul_add, Nat.mul_add]
    have := h.val
    omega
  · exact Below.grown (h.bel.alloc (by omega) o) hg (by simp; omega) (fun k hk => (own_ge h.own k hk).1)

theorem own_sl {w : World} {base k : Nat} {v : Value} {zs : List Nat} (h : w.ownsRow base 74 1 v k (vals zs)) : ∃ a c, v = .slice a k c ∧ Sl w a k c zs ∧ NewAt base a := by
  have hl : zs.length = k := by simpa [vals] using h.1
  rcases h.2 with ⟨e, h0⟩ | ⟨g, cap, cur, e, hb, h5, h6, h7, h8, h9⟩
  · subst e h0
    have : zs = [] := List.eq_nil_of_length_eq_zero hl
    subst this
    exact ⟨none, 0, rfl, ⟨rfl, Nat.le_refl _, Nat.zero_le _, .inl rfl⟩, fun x hx => by cases hx⟩
  · subst e
    exact ⟨_, _, rfl, sl_of_own h, fun x hx => by cases hx; exact hb⟩

theorem minus_arith {P A t s c l y x b : Nat} (h1 : A + t = s + P * c) (e : l + y + c = x + 4294967296 * b) : A + P * l + (t + P * y) = s + P * x + P * 4294967296 * b := by
  have h2 : P * l + P * y + P * c = P * x + P * 4294967296 * b := by
    rw [← Nat.mul_add, ← Nat.mul_add, e, Nat.mul_add, Nat.mul_assoc]
  generalize P * l = a1 at *
  generalize P * y = a2 at *
  generalize P * c = a3 at *
  generalize P * x = a4 at *
  generalize P * 4294967296 * b = a5 at *
  omega

structure MinusR (wr w : World) (s t : Nat) (v : Value) (k c : Nat) (zs : List Nat) : Prop where
  len : zs.length = k
  ok : Ok zs
  cle : c ≤ 1
  own : wr.ownsRow w.heap.size 74 1 v k (vals zs)
  val : val zs + t = s + 4294967296 ^ k * c
  bel : Below w.heap.size w wr

theorem MinusR.step {wr w w1 : World} {s t : Nat} {v v' : Value} {k c : Nat} {zs : List Nat} {o : Obj} (h : MinusR wr w s t v k c zs) (x y : Nat) (hx : x < 4294967296) (hy : y < 4294967296)
    (hown : w1.ownsRow w.heap.size 74 1 v' (k + 1) (vals zs ++ [.int .u32 (lim x y c : Nat)])) (hg : (wr.alloc o).grownBy w1 v.ownBlock) :
    MinusR w1 w (s + 4294967296 ^ k * x) (t + 4294967296 ^ k * y) v' (k + 1) (bor x (y + c)) (zs ++ [lim x y c]) := by
  have hs := h.bel.size
  refine ⟨by simp [h.len], ?_, bor_le _ _, by simpa [vals] using hown, ?_, ?_⟩
  · intro z hz
    rcases List.mem_append.1 hz with hz | hz
    · exact h.ok z hz
    · simp at hz; subst hz; exact lim_lt _ _ _
  · rw [val_append, h.len]
    simp only [Go.Proofs.YtiadccaaoenccaaDoor.val, Nat.mul_zero, Nat.add_zero]
    rw [Nat.pow_succ]
    exact minus_arith h.val (lim_eq x y c hx hy h.cle)
  · exact Below.grown (h.bel.alloc (by omega) o) hg (by simp; omega) (fun k hk => (own_ge h.own k hk).1)
structure Pc where
  a : Option Addr
  n : Nat
  c : Nat
  xs : List Nat

def Pc.v (p : Pc) : Value := .slice p.a p.n p.c

structure Kp (w : World) (B : Nat) (v0 v1 : Value) (p : Pc) : Prop where
  sl : Sl w p.a p.n p.c p.xs
  safe : ∀ x, p.a = some x → p.xs ≠ [] → ¬ Own B v0 v1 x.block

structure LawSt (w : World) (B : Nat) (v0 v1 : Value) (es : List Ent) (w0 : World) (L : List Pc) : Prop where
  giv : Giv w B v0 v1 es
  bel : Below w0.heap.size w0 w
  base : w0.heap.size ≤ B
  all : ∀ p ∈ L, Kp w B v0 v1 p

theorem Giv.own_lt {w : World} {B : Nat} {v0 v1 : Value} {es : List Ent} (h : Giv w B v0 v1 es) {k : Nat} (hk : Own B v0 v1 k) : k < w.heap.size := by
  rcases hk with rfl | hk | hk
  · exact h.cell0.2.2.2.2
  · exact (own_ge h.own0 k hk).2
  · exact (own_ge h.own1 k hk).2

theorem Giv.own_ge {w : World} {B : Nat} {v0 v1 : Value} {es : List Ent} (h : Giv w B v0 v1 es) {k : Nat} (hk : Own B v0 v1 k) : B ≤ k := by
  rcases hk with rfl | hk | hk
  · exact Nat.le_refl _
  · have := (Go.Proofs.YtiadccaaoenccaaDoor.own_ge h.own0 k hk).1; omega
  · have := (Go.Proofs.YtiadccaaoenccaaDoor.own_ge h.own1 k hk).1; omega

theorem Kp.below {w w' : World} {B : Nat} {v0 v1 : Value} {p : Pc} (h : Kp w B v0 v1 p) (k : Below w.heap.size w w') : Kp w' B v0 v1 p := ⟨h.sl.below k, h.safe⟩

theorem LawSt.keep {w w' : World} {B : Nat} {v0 v1 : Value} {es : List Ent} {w0 : World} {L : List Pc} (h : LawSt w B v0 v1 es w0 L) (k : Below w.heap.size w w') : LawSt w' B v0 v1 es w0 L :=
  ⟨h.giv.below k, h.bel.trans (k.mono h.bel.size), h.base, fun p hp => (h.all p hp).below k⟩

theorem LawSt.drewN {w : World} {B : Nat} {v0 v1 : Value} {es : List Ent} {w0 : World} {L : List Pc} (h : LawSt w B v0 v1 es w0 L) (k : Nat) : LawSt (w.drewN k) B v0 v1 es w0 L :=
  h.keep (bel_drewN (Below.refl _ _) k)

theorem Sl.pre {w : World} {b c n : Nat} {xs ys : List Nat} (h : Sl w (some ⟨b, 0, none⟩) (xs.length + 3) c (xs ++ ys)) (hn : xs.length = n) (hl : ys.length = 3) : Sl w (some ⟨b, 0, none⟩) n c xs := by
  have h1 := h.le
  refine ⟨hn, by omega, h.cap, ?_⟩
  rcases h.cells with e | ⟨b', off', e, k⟩
  · left
    cases xs with
    | nil => rfl
    | cons => simp at e
  · right
    refine ⟨b', off', e, ?_⟩
    intro i hi
    have := k i (by simp; omega)
    rw [this]
    simp [List.getD, List.getElem?_append_left hi]

theorem LawSt.sl {w : World} {B : Nat} {v0 v1 : Value} {es : List Ent} {w0 : World} {L : List Pc} (h : LawSt w B v0 v1 es w0 L) (p : Pc) (hp : p ∈ L) : Sl w p.a p.n p.c p.xs := (h.all p hp).sl

theorem LawSt.begin {w : World} {L : List Pc} (o : Obj) (ho : o = .cells #[.slice none 0 0, .slice none 0 0, .slice none 0 0, .slice none 0 0, .slice none 0 0, .slice none 0 0, .slice none 0 0, .slice none 0 0, .slice none 0 0, .slice none 0 0, .slice none 0 0, .slice none 0 0, .slice none 0 0, .slice none 0 0, .slice none 0 0, .slice none 0 0, .slice none 0 0, .slice none 0 0, .slice none 0 0, .slice none 0 0] 38)
    (h : ∀ p ∈ L, Sl w p.a p.n p.c p.xs) : LawSt (w.alloc o) w.heap.size (.slice none 0 0) (.slice none 0 0) [] w L := by
  have bel : Below w.heap.size w (w.alloc o) := (Below.refl _ _).alloc (Nat.le_refl _) o
  subst ho
  refine ⟨⟨⟨_, alloc_block _ _, rfl, rfl, rfl, ?_⟩, World.ownsRow_nil _ _ _ _, World.ownsRow_nil _ _ _ _, (fun k hk => by cases hk), (fun e he => by cases he)⟩, bel, Nat.le_refl _, ?_⟩
  · intro i h2 h20
    match i, h20 with
    | 0, _ | 1, _ | 2, _ | 3, _ | 4, _ | 5, _ | 6, _ | 7, _ | 8, _ | 9, _ | 10, _ | 11, _ | 12, _ | 13, _ | 14, _ | 15, _ | 16, _ | 17, _ | 18, _ | 19, _ => rfl
    | n + 20, h => exact absurd h (by omega)
  · intro p hp
    have := h p hp
    refine ⟨this.below bel, ?_⟩
    rintro x hx hne (h | h | h)
    · have := this.block_lt hne x hx; omega
    · cases h
    · cases h
theorem valF_add (f : Nat → Nat) (i : Nat) : ∀ (m : Nat), valF f (i + m) = valF f i + 4294967296 ^ i * valF (fun k => f (i + k)) m
  | 0 => by simp [valF]
  | m + 1 => by
    rw [← Nat.add_assoc]
    simp only [valF]
    rw [valF_add f i m, Nat.pow_add, Nat.mul_add, Nat.mul_assoc]
    omega

def mdl (x y r c : Nat) : Nat := (x * y + r + c) % 4294967296
def mdh (x y r c : Nat) : Nat := (x * y + r + c) / 4294967296
theorem mdl_lt (x y r c : Nat) : mdl x y r c < 4294967296 := by unfold mdl; exact Nat.mod_lt _ (by decide)
theorem md_eq (x y r c : Nat) : mdl x y r c + 4294967296 * mdh x y r c = x * y + r + c := by unfold mdl mdh; exact Nat.mod_add_div _ _
theorem mul_bound {x y : Nat} (hx : x < 4294967296) (hy : y < 4294967296) : x * y ≤ 18446744065119617025 := by
  have : x * y ≤ 4294967295 * 4294967295 := Nat.mul_le_mul (by omega) (by omega)
  omega
theorem mdh_lt {x y r c : Nat} (hx : x < 4294967296) (hy : y < 4294967296) (hr : r < 4294967296) (hc : c < 4294967296) : mdh x y r c < 4294967296 := by
  have := mul_bound hx hy
  unfold mdh
  generalize x * y = p at *
  omega
structure RowR (wr w : World) (bz oz nz : Nat) (f : Nat → Nat) (i y : Nat) (xs : List Nat) (j c : Nat) (g : Nat → Nat) : Prop where
  cle : c < 4294967296
  fn : Fn wr bz oz nz g
  ok : ∀ k, k < nz → g k < 4294967296
  lo : ∀ k, k < i → g k = f k
  hi : ∀ k, i + j ≤ k → k < nz → g k = f k
  val : valF (fun k => g (i + k)) j + 4294967296 ^ j * c = valF (fun k => f (i + k)) j + valF (fun k => xs.getD k 0) j * y
  upd : Upd bz oz (oz + nz) w wr

theorem row_arith {P A F X c l h x y r : Nat} (h1 : A + P * c = F + X * y) (e : l + 4294967296 * h = x * y + r + c) : A + P * l + P * 4294967296 * h = F + P * r + (X + P * x) * y := by
  have h2 : P * l + P * 4294967296 * h = P * (x * y) + P * r + P * c := by
    rw [Nat.mul_assoc, ← Nat.mul_add, e, Nat.mul_add, Nat.mul_add]
  rw [Nat.add_mul, Nat.mul_assoc P x y]
  generalize P * l = a1 at *
  generalize P * 4294967296 * h = a2 at *
  generalize P * (x * y) = a3 at *
  generalize P * r = a4 at *
  generalize P * c = a5 at *
  generalize X * y = a6 at *
  omega

theorem RowR.step {wr w : World} {bz oz nz : Nat} {f : Nat → Nat} {i y : Nat} {xs : List Nat} {j c : Nat} {g : Nat → Nat} (h : RowR wr w bz oz nz f i y xs j c g) (hj : i + j < nz) (hx : xs.getD j 0 < 4294967296) (hy : y < 4294967296) :
    RowR (wr.setCell ⟨bz, oz + i + j, none⟩ (.int .u32 (mdl (xs.getD j 0) y (g (i + j)) c : Nat))) w bz oz nz f i y xs (j + 1) (mdh (xs.getD j 0) y (g (i + j)) c) (fun k => if k = i + j then mdl (xs.getD j 0) y (g (i + j)) c else g k) := by
  have ew : oz + i + j = oz + (i + j) := by omega
  rw [ew]
  refine ⟨mdh_lt hx hy (h.ok _ hj) h.cle, h.fn.set (i + j) _ hj, ?_, ?_, ?_, ?_, h.upd.set _ _ (by omega) (by omega)⟩
  · intro k hk
    by_cases e : k = i + j
    · simp only [e, if_true]; exact mdl_lt _ _ _ _
    · simp only [e, if_false]; exact h.ok k hk
  · intro k hk
    have : k ≠ i + j := by omega
    simp only [this, if_false]; exact h.lo k hk
  · intro k h1 h2
    have : k ≠ i + j := by omega
    simp only [this, if_false]; exact h.hi k (by omega) h2
  · simp only [valF]
    rw [valF_congr (g := fun k => g (i + k)) (fun k hk => by rw [if_neg (by omega)]), if_pos trivial, Nat.pow_succ]
    have e := md_eq (xs.getD j 0) y (g (i + j)) c
    have := row_arith h.val e
    rw [h.hi (i + j) (Nat.le_refl _) hj] at this ⊢
    exact this

theorem RowR.drewN {wr w : World} {bz oz nz : Nat} {f : Nat → Nat} {i y : Nat} {xs : List Nat} {j c : Nat} {g : Nat → Nat} (h : RowR wr w bz oz nz f i y xs j c g) (k : Nat) : RowR (wr.drewN k) w bz oz nz f i y xs j c g := ⟨h.cle, h.fn, h.ok, h.lo, h.hi, h.val, h.upd.drewN k⟩

structure RowsR (wr w : World) (bz oz nz : Nat) (xs ys : List Nat) (i : Nat) (f : Nat → Nat) : Prop where
  fn : Fn wr bz oz nz f
  ok : ∀ k, k < nz → f k < 4294967296
  zero : ∀ k, i + xs.length ≤ k → k < nz → f k = 0
  val : valF f (i + xs.length) = Go.Proofs.YtiadccaaoenccaaDoor.val xs * valF (fun k => ys.getD k 0) i
  upd : Upd bz oz (oz + nz) w wr

theorem RowsR.step {wr w w1 : World} {bz oz nz : Nat} {xs ys : List Nat} {i c : Nat} {f g : Nat → Nat} (h : RowsR wr w bz oz nz xs ys i f) (hr : RowR w1 w bz oz nz f i (ys.getD i 0) xs xs.length c g) (hi : i + xs.length < nz) :
    RowsR (w1.setCell ⟨bz, oz + i + xs.length, none⟩ (.int .u32 (c : Nat))) w bz oz nz xs ys (i + 1) (fun k => if k = i + xs.length then c else g k) := by
  have ew : oz + i + xs.length = oz + (i + xs.length) := by omega
  rw [ew]
  refine ⟨hr.fn.set _ _ hi, ?_, ?_, ?_, hr.upd.set _ _ (by omega) (by omega)⟩
  · intro k hk
    by_cases e : k = i + xs.length
    · simp only [e, if_true]; exact hr.cle
    · simp only [e, if_false]; exact hr.ok k hk
  · intro k h1 h2
    have : k ≠ i + xs.length := by omega
    simp only [this, if_false]
    rw [hr.hi k (by omega) h2]; exact h.zero k (by omega) h2
  · have e1 : i + 1 + xs.length = i + (xs.length + 1) := by omega
    rw [e1, valF_add]
    simp only [valF]
    rw [if_pos trivial]
    rw [valF_congr (f := fun k => if k = i + xs.length then c else g k) (g := f) (fun k hk => by rw [if_neg (by omega)]; exact hr.lo k hk)]
    rw [valF_congr (f := fun k => if i + k = i + xs.length then c else g (i + k)) (g := fun k => g (i + k)) (fun k hk => by rw [if_neg (by omega)])]
    rw [hr.val, valF_list]
    have hv := h.val
    rw [valF_add] at hv
    rw [Nat.mul_add, Nat.mul_add, ← Nat.add_assoc, hv]
    have : 4294967296 ^ i * (Go.Proofs.YtiadccaaoenccaaDoor.val xs * ys.getD i 0) = Go.Proofs.YtiadccaaoenccaaDoor.val xs * (4294967296 ^ i * ys.getD i 0) := by rw [Nat.mul_left_comm]
    rw [this]

theorem RowsR.drewN {wr w : World} {bz oz nz : Nat} {xs ys : List Nat} {i : Nat} {f : Nat → Nat} (h : RowsR wr w bz oz nz xs ys i f) (k : Nat) : RowsR (wr.drewN k) w bz oz nz xs ys i f := ⟨h.fn, h.ok, h.zero, h.val, h.upd.drewN k⟩

theorem RowsR.begin {wr w : World} {bz oz nz : Nat} {xs ys : List Nat} {i : Nat} {f : Nat → Nat} (h : RowsR wr w bz oz nz xs ys i f) (y : Nat) : RowR wr w bz oz nz f i y xs 0 0 f :=
  ⟨by decide, h.fn, h.ok, fun _ _ => rfl, fun _ _ _ => rfl, by simp [valF], h.upd⟩
theorem tab_size : Lib.len8tab.size = 256 := by decide +kernel
theorem tab_all : ∀ n : Fin 256, (Lib.len8tab[n.val]'(by rw [tab_size]; exact n.isLt)).toNat = Lib.bitLen n.val := by decide +kernel
theorem tab_at (n : Nat) (h : n < Lib.len8tab.size) : (Lib.len8tab[n]'h).toNat = Lib.bitLen n := tab_all ⟨n, by rw [tab_size] at h; exact h⟩
theorem bl8 (n : Nat) (h : n < 256) : Lib.bitLen n ≤ 8 := Lib.bitLen_le8 ⟨n, h⟩
theorem wr_small (n : Int) (h0 : 0 ≤ n) (h1 : n ≤ 100) : wrap64 n = n := by unfold wrap64; omega

set_option maxHeartbeats 4000000 in
set_option maxRecDepth 100000 in
theorem len32_a (x : Int) (w : World) (h0 : 0 ≤ x) (h1 : x < 256) :
    Calls Tryd.prog 88 #[.int .u32 x] w fun e w' => e = .returned (.int .i64 (Lib.bitLen x.toNat)) ∧ w' = w := by
  have hs := tab_size
  have ha : ¬ (65536:Int) ≤ x := by omega
  have hb : ¬ (256:Int) ≤ x := by omega
  go_enter Tryd.func88, Tryd.ntmps88
  go_wp2
  go_ret
  refine ⟨congrArg Ending.returned (congrArg (Value.int IntKind.i64) ?_), rfl⟩
  rw [tab_at]
  have l := bl8 x.toNat (by omega)
  rw [wr_small ((Lib.bitLen x.toNat : Nat) : Int) (by omega) (by omega)]
  rw [wr_small ((Lib.bitLen x.toNat : Nat) : Int) (by omega) (by omega)]

set_option maxHeartbeats 4000000 in
set_option maxRecDepth 100000 in
theorem len32_b (x : Int) (w : World) (h0 : 256 ≤ x) (h1 : x < 65536) :
    Calls Tryd.prog 88 #[.int .u32 x] w fun e w' => e = .returned (.int .i64 (Lib.bitLen x.toNat)) ∧ w' = w := by
  have hs := tab_size
  have ha : ¬ (65536:Int) ≤ x := by omega
  have hb : (256:Int) ≤ x := by omega
  go_enter Tryd.func88, Tryd.ntmps88
  go_wp2
  go_ret
  refine ⟨congrArg Ending.returned (congrArg (Value.int IntKind.i64) ?_), rfl⟩
  have e : (x / 256).toNat = x.toNat / 256 := by omega
  have l := bl8 (x.toNat / 256) (by omega)
  have s := Lib.bitLen_shift8 x.toNat (by omega) (by omega)
  rw [tab_at, e]
  rw [wr_small ((Lib.bitLen (x.toNat / 256) : Nat) : Int) (by omega) (by omega)]
  rw [wr_small _ (by omega) (by omega)]
  omega

set_option maxHeartbeats 4000000 in
set_option maxRecDepth 100000 in
theorem len32_c (x : Int) (w : World) (h0 : 65536 ≤ x) (h1 : x < 16777216) :
    Calls Tryd.prog 88 #[.int .u32 x] w fun e w' => e = .returned (.int .i64 (Lib.bitLen x.toNat)) ∧ w' = w := by
  have hs := tab_size
  have ha : (65536:Int) ≤ x := by omega
  have hb : ¬ (256:Int) ≤ x / 65536 := by omega
  go_enter Tryd.func88, Tryd.ntmps88
  go_wp2
  go_ret
  refine ⟨congrArg Ending.returned (congrArg (Value.int IntKind.i64) ?_), rfl⟩
  have e : (x / 65536).toNat = x.toNat / 65536 := by omega
  have l := bl8 (x.toNat / 65536) (by omega)
  have s := Lib.bitLen_shift16 x.toNat (by omega) (by omega)
  rw [tab_at, e]
  rw [wr_small ((Lib.bitLen (x.toNat / 65536) : Nat) : Int) (by omega) (by omega)]
  rw [wr_small _ (by omega) (by omega)]
  omega

set_option maxHeartbeats 4000000 in
set_option maxRecDepth 100000 in
theorem len32_d (x : Int) (w : World) (h0 : 16777216 ≤ x) (h1 : x ≤ 4294967295) :
    Calls Tryd.prog 88 #[.int .u32 x] w fun e w' => e = .returned (.int .i64 (Lib.bitLen x.toNat)) ∧ w' = w := by
  have hs := tab_size
  have ha : (65536:Int) ≤ x := by omega
  have hb : (256:Int) ≤ x / 65536 := by omega
  go_enter Tryd.func88, Tryd.ntmps88
  go_wp2
  go_ret
  refine ⟨congrArg Ending.returned (congrArg (Value.int IntKind.i64) ?_), rfl⟩
  have e : (x / 65536 / 256).toNat = x.toNat / 16777216 := by omega
  have l := bl8 (x.toNat / 16777216) (by omega)
  have s := Lib.bitLen_shift24 x.toNat (by omega) (by omega)
  rw [tab_at, e]
  rw [wr_small ((Lib.bitLen (x.toNat / 16777216) : Nat) : Int) (by omega) (by omega)]
  rw [wr_small _ (by omega) (by omega)]
  omega

theorem len32_any (x : Nat) (w : World) (h1 : x < 4294967296) :
    Calls Tryd.prog 88 #[.int .u32 (x : Nat)] w fun e w' => e = .returned (.int .i64 (Lib.bitLen x : Nat)) ∧ w' = w := by
  by_cases ha : x < 256
  · exact len32_a x w (by omega) (by omega)
  · by_cases hb : x < 65536
    · exact len32_b x w (by omega) (by omega)
    · by_cases hc : x < 16777216
      · exact len32_c x w (by omega) (by omega)
      · exact len32_d x w (by omega) (by omega)
structure MulPre (w : World) (bz oz nz cz : Nat) (a1 : Option Addr) (n1 c1 : Nat) (xs : List Nat) (a2 : Option Addr) (n2 c2 : Nat) (ys : List Nat) : Prop where
  h1 : Sl w a1 n1 c1 xs
  h2 : Sl w a2 n2 c2 ys
  s1 : ∀ x, a1 = some x → xs ≠ [] → x.block ≠ bz ∨ x.off + xs.length ≤ oz ∨ oz + nz ≤ x.off
  s2 : ∀ x, a2 = some x → ys ≠ [] → x.block ≠ bz ∨ x.off + ys.length ≤ oz ∨ oz + nz ≤ x.off
  ox : Ok xs
  oy : Ok ys
  hz : Fn w bz oz nz (fun _ => 0)
  hnz : n1 + n2 = nz
  hcz : nz ≤ cz
  hm : cz ≤ maxLen

def bitsL (xs : List Nat) : Nat := (xs.length - 1) * 32 + Lib.bitLen (xs.getD (xs.length - 1) 0)
theorem bl_pos : ∀ (x : Nat), x ≠ 0 → x < 18446744073709551616 → 1 ≤ Lib.bitLen x := by
  intro x h0 hx
  rw [Lib.bitLen_half x h0 hx]
  omega

theorem bl_ge : ∀ (n x : Nat), x ≤ n → x ≠ 0 → x < 18446744073709551616 → 2 ^ (Lib.bitLen x - 1) ≤ x
  | 0, x, h, h0, _ => by omega
  | n + 1, x, h, h0, hx => by
    by_cases h1 : x / 2 = 0
    · have e : x = 1 := by omega
      subst e
      decide +kernel
    · have ih := bl_ge n (x / 2) (by omega) h1 (by omega)
      have hp := bl_pos (x / 2) h1 (by omega)
      rw [Lib.bitLen_half x h0 hx]
      have e : 1 + Lib.bitLen (x / 2) - 1 = (Lib.bitLen (x / 2) - 1) + 1 := by omega
      rw [e, Nat.pow_succ]
      omega

theorem pow_limb (k : Nat) : (4294967296 : Nat) ^ k = 2 ^ (32 * k) := by
  rw [Nat.pow_mul]
end Go.Proofs.YtiadccaaoenccaaDoor
