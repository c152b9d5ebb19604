/- By3 -/
import Derived.Test.YtbbicappjicblaaGreatDoorBy2
import Derived.Test.YtbbicappjicblaaGreatDoorDv2
import Derived.Laws.BytesArg
import Derived.Test.YtbbicappjicblaaGreatDoorNMul
import Derived.Deep.LoopGhost
import Derived.Test.YtbbicappjicblaaGreatDoorShl
import Derived.Test.YtbbicappjicblaaGreatDoorGiv2
import Derived.Test.YtbbicappjicblaaGreatDoorDv7
namespace Go.Proofs.YtbbicappjicblaaGreatDoor
open Go.RowKit Go.Deep
set_option linter.unusedVariables false
structure SlB (w : World) (a : Option Addr) (n c : Nat) (bs : List Nat) : Prop where
 len : bs.length = n
 le : n ≤ c
 ok : ∀ x ∈ bs, x < 256
 cells : bs = [] ∨ ∃ b off, a = some ⟨b, off, none⟩ ∧ ∀ i, i < bs.length → w.cell? ⟨b, off + i, none⟩ = some (.int .u8 (bs.getD i 0 : Nat))
theorem SlB.below {w w' : World} {a : Option Addr} {n c : Nat} {bs : List Nat} (h : SlB w a n c bs) (k : Below w.heap.size w w') : SlB w' a n c bs := by
 refine ⟨h.len, h.le, h.ok, ?_⟩
 rcases h.cells with e | ⟨b, off, e, hc⟩
 ·exact .inl e
 ·refine .inr ⟨b, off, e, fun i hi => ?_⟩
  have h1 := hc i hi
  rw [k.cell (World.block_lt_of_cell? _ _ h1)]
  exact h1

def lowB (bs : List Nat) : Nat → Nat
 | 0 => 0
 | k + 1 => lowB bs k + bs.getD (bs.length - 1 - k) 0 * 256 ^ k
theorem lowB_lt {bs : List Nat} (ok : ∀ x ∈ bs, x < 256) : ∀ (k : Nat), lowB bs k < 256 ^ k
 | 0 => by simp [lowB]
 | k + 1 => by
  have h1 := lowB_lt ok k
  simp only [lowB]
  have h2 : bs.getD (bs.length - 1 - k) 0 < 256 := by
   by_cases hl : bs.length - 1 - k < bs.length
   ·rw [show bs.getD (bs.length - 1 - k) 0 = bs[bs.length - 1 - k] from by simp [List.getD, hl]]
    exact ok _ (List.getElem_mem _)
   ·rw [getD_ge (by omega)]; decide
  have h3 : bs.getD (bs.length - 1 - k) 0 * 256 ^ k ≤ 255 * 256 ^ k := Nat.mul_le_mul_right _ (by omega)
  rw [Nat.pow_succ]
  generalize 256 ^ k = P at *
  omega

theorem valF_putB {f : Nat → Nat} {l d : Nat} : ∀ {n : Nat}, l < n → valF (fun i => if i = l then f l + d else f i) n = valF f n + 4294967296 ^ l * d
 | 0, h => by omega
 | n + 1, h => by
  simp only [valF]
  by_cases e : n = l
  ·subst e
   rw [valF_congr (g := f) (fun i hi => by rw [if_neg (by omega)])]
   simp only [if_true, Nat.mul_add]
   omega
  ·rw [valF_putB (n := n) (by omega), if_neg e]
   omega

theorem byte_put {f : Nat → Nat} {M i l s c : Nat} (ok : ∀ j, j < M → f j < 4294967296) (hl : i / 4 = l) (hs : i % 4 = s) (hM : l < M) (hv : valF f M < 256 ^ i) (hc : c < 256) :
  bits .or .u32 (f l : Int) ((c * 2 ^ (8 * s) : Nat) : Int) = ((f l + c * 2 ^ (8 * s) : Nat) : Int) ∧ f l + c * 2 ^ (8 * s) < 4294967296 ∧ c * 2 ^ (8 * s) < 4294967296 ∧ 4294967296 ^ l * (c * 2 ^ (8 * s)) = c * 256 ^ i := by
 have p1 : (256:Nat) ^ i = 4294967296 ^ l * 2 ^ (8 * s) := by
  rw [show i = 4 * l + s from by omega, show (256:Nat) = 2 ^ 8 from rfl, ← Nat.pow_mul, pow_limb, ← Nat.pow_add]
  congr 1
  omega
 have hd : f l < 2 ^ (8 * s) := by
  rw [valF_digit ok hM]
  refine Nat.lt_of_le_of_lt (Nat.mod_le _ _) ?_
  rw [Nat.div_lt_iff_lt_mul (pow_pos l), Nat.mul_comm, ← p1]
  exact hv
 have hp : 2 ^ (8 * s) * 256 ≤ 4294967296 := by
  rw [show (256:Nat) = 2 ^ 8 from rfl, ← Nat.pow_add]
  exact Nat.le_trans (Nat.pow_le_pow_right (by decide) (show 8 * s + 8 ≤ 32 by omega)) (by decide)
 have hcm : c * 2 ^ (8 * s) + 2 ^ (8 * s) ≤ 2 ^ (8 * s) * 256 := by
  rw [← Nat.succ_mul, Nat.mul_comm]
  exact Nat.mul_le_mul_left _ hc
 have hP := Nat.two_pow_pos (8 * s)
 have ho : c * 2 ^ (8 * s) ||| f l = c * 2 ^ (8 * s) + f l := by
  have := Nat.shiftLeft_add_eq_or_of_lt hd c
  rw [Nat.shiftLeft_eq] at this
  exact this.symm
 have h1 : c * 2 ^ (8 * s) < 4294967296 := by omega
 have h2 : f l < 4294967296 := ok l hM
 refine ⟨?_, by omega, h1, ?_⟩
 ·rw [u32_or_nat _ _ h2 h1, Nat.or_comm, ho, Nat.add_comm]
 ·rw [p1, ← Nat.mul_assoc, Nat.mul_comm _ c, Nat.mul_assoc]
structure FbR (wr w : World) (M : Nat) (r : List Nat) (i : Nat) (f : Nat → Nat) : Prop where
 fn : Fn wr w.heap.size 0 M f
 ok : ∀ j, j < M → f j < 4294967296
 val : valF f M = lowB r i
 bel : Below w.heap.size w wr

theorem FbR.drewN {wr w : World} {M : Nat} {r : List Nat} {i : Nat} {f : Nat → Nat} (h : FbR wr w M r i f) (j : Nat) : FbR (wr.drewN j) w M r i f := ⟨h.fn, h.ok, h.val, bel_drewN h.bel j⟩
theorem FbR.step {wr w : World} {M : Nat} {r : List Nat} {i l s c : Nat} {f : Nat → Nat} (h : FbR wr w M r i f) (okr : ∀ x ∈ r, x < 256) (hl : i / 4 = l) (hs : i % 4 = s) (hM : l < M) (hc : r.getD (r.length - 1 - i) 0 = c) (hc2 : c < 256) :
  FbR (wr.setCell ⟨w.heap.size, l, none⟩ (.int .u32 (f l + c * 2 ^ (8 * s) : Nat))) w M r (i + 1) (fun j => if j = l then f l + c * 2 ^ (8 * s) else f j) := by
 have hp := byte_put h.ok hl hs hM (by rw [h.val]; exact lowB_lt okr i) hc2
 have hS := h.fn.set l (f l + c * 2 ^ (8 * s)) hM
 rw [Nat.zero_add] at hS
 refine ⟨hS, ?_, ?_, h.bel.trans (((Upd.refl w.heap.size 0 M wr).set l (.int .u32 (f l + c * 2 ^ (8 * s) : Nat)) (by omega) hM).below (Nat.le_refl _) h.bel.size)⟩
 ·intro j hj
  by_cases e : j = l
  ·simp only [e, if_true]; exact hp.2.1
  ·simp only [e, if_false]; exact h.ok j hj
 ·rw [valF_putB hM, h.val, hp.2.2.2]
  simp only [lowB]
  rw [hc]
end Go.Proofs.YtbbicappjicblaaGreatDoor

namespace Go.Proofs.YtbbicappjicblaaGreatDoor
open Go.RowKit Go.Deep
set_option linter.unusedVariables false

end Go.Proofs.YtbbicappjicblaaGreatDoor
namespace Go.Proofs.YtbbicappjicblaaGreatDoor
open Go.RowKit Go.Deep
set_option linter.unusedVariables false
def strB (bs : List Nat) : ByteArray := strOfNums (bs.map (fun x : Nat => (x : Int)))
end Go.Proofs.YtbbicappjicblaaGreatDoor

namespace Go.Proofs.YtbbicappjicblaaGreatDoor
open Go.RowKit Go.Deep
set_option linter.unusedVariables false

end Go.Proofs.YtbbicappjicblaaGreatDoor
namespace Go.Proofs.YtbbicappjicblaaGreatDoor
open Go.RowKit Go.Deep
set_option linter.unusedVariables false
def dgt (V b i : Nat) : Nat := V / b ^ i % b
def chrN (d : Nat) : Nat := if d < 10 then 48 + d else 87 + d
structure TxtOf (V b n : Nat) : Prop where
 pos : 1 ≤ n
 lt : V < b ^ n
 ge : n = 1 ∨ b ^ (n - 1) ≤ V

theorem TxtOf.le {V b n m : Nat} (hb : 2 ≤ b) (h : TxtOf V b n) (g : TxtOf V b m) : n ≤ m := by
 rcases h.ge with e | e
 ·have := g.pos; omega
 ·rcases Nat.lt_or_ge m n with k | k
  ·exfalso
   have h1 : b ^ m ≤ b ^ (n - 1) := Nat.pow_le_pow_right (by omega) (by omega)
   have := g.lt
   omega
  ·exact k
structure QbR (wr w : World) (n : Nat) (xs : List Nat) (d k r : Nat) (g : Nat → Nat) : Prop where
 fn : Fn wr w.heap.size 0 n g
 ok : ∀ i, i < n → g i < 4294967296
 rlt : r < d
 val : valF (fun i => xs.getD (k + i) 0) (n - k) = valF (fun i => g (k + i)) (n - k) * d + r
 bel : Below w.heap.size w wr

theorem QbR.step {wr w : World} {n : Nat} {xs : List Nat} {d k r x : Nat} {g : Nat → Nat} (h : QbR wr w n xs d (k + 1) r g) (hk : k < n) (hx : xs.getD k 0 = x) (hx2 : x < 4294967296) :
  QbR (wr.setCell ⟨w.heap.size, k, none⟩ (.int .u32 (dv x r / d : Nat))) w n xs d k (dv x r % d) (fun i => if i = k then dv x r / d else g i) := by
 have hq := dv_div_lt hx2 h.rlt
 have hs := h.fn.set k (dv x r / d) hk
 rw [Nat.zero_add] at hs
 refine ⟨hs, ?_, Nat.mod_lt _ (by have := h.rlt; omega), ?_, h.bel.setCell (Nat.le_refl _) _⟩
 ·intro i hi
  by_cases e : i = k
  ·simp only [e, if_true]; exact hq
  ·simp only [e, if_false]; exact h.ok i hi
 ·rw [valF_head (fun i => xs.getD i 0) k n hk, valF_head (fun i => if i = k then dv x r / d else g i) k n hk]
  simp only [if_true]
  have e0 : valF (fun i => if k + 1 + i = k then dv x r / d else g (k + 1 + i)) (n - (k + 1)) = valF (fun i => g (k + 1 + i)) (n - (k + 1)) := valF_congr (fun i _ => by rw [if_neg (by omega)])
  rw [e0, hx]
  refine dl_arith h.val ?_
  have := Nat.div_add_mod (dv x r) d
  unfold dv at *
  omega

open Go.RowKit Go.Deep
set_option linter.unusedVariables false

theorem ownsRow_below {w w' : World} {base : Nat} {e : TypeId} {size : Nat} {v : Value} {n : Nat} {xs : List Value} (h : w.ownsRow base e size v n xs) (k : Below w.heap.size w w') : w'.ownsRow base e size v n xs := by
 refine ⟨h.1, ?_⟩
 rcases h.2 with e0 | ⟨g, cap, cur, e0, hb, h5, h6, h7, h8, h9⟩
 ·exact .inl e0
 ·exact .inr ⟨g, cap, cur, e0, hb, by rw [k.block g (by
   rcases Nat.lt_or_ge g w.heap.size with hlt | hge
   ·exact hlt
   ·simp [Array.getElem?_eq_none hge] at h5)]; exact h5, h6, h7, h8, h9⟩

structure QpR (wr w : World) (V b : Nat) (v : Value) (k Q : Nat) (a : Option Addr) (m : Nat) : Prop where
 own : wr.ownsRow w.heap.size 5 1 v k (valsB (lst (fun p => chrN (dgt V b p)) k))
 sl : Sl wr a m m (limbs Q)
 q : Q = V / b ^ k
 top : k = 0 ∨ 0 < V / b ^ (k - 1)
 bel : Below w.heap.size w wr

theorem QpR.done {wr w : World} {V b : Nat} {v : Value} {k : Nat} {a : Option Addr} {m : Nat} (h : QpR wr w V b v k 0 a m) (hV : 0 < V) (hb : 2 ≤ b) : TxtOf V b k := by
 have hp : 0 < b ^ k := Nat.pow_pos (by omega)
 have h1 : V < b ^ k := by
  rcases Nat.lt_or_ge V (b ^ k) with e | e
  ·exact e
  ·have := Nat.div_pos e hp
   have := h.q
   omega
 rcases h.top with e | e
 ·subst e; simp at h1; omega
 ·have h2 : b ^ (k - 1) ≤ V := by
   rcases Nat.lt_or_ge V (b ^ (k - 1)) with g | g
   ·rw [Nat.div_eq_of_lt g] at e; omega
   ·exact g
  refine ⟨?_, h1, .inr h2⟩
  rcases Nat.eq_zero_or_pos k with g | g
  ·subst g; simp at h1; omega
  ·exact g

theorem QpR.len {wr w : World} {V b : Nat} {v : Value} {k Q : Nat} {a : Option Addr} {m n : Nat} (h : QpR wr w V b v k Q a m) (hb : 2 ≤ b) (hV : V < 2 ^ (32 * n)) : k ≤ 32 * n := by
 rcases h.top with e | e
 ·omega
 ·rcases Nat.eq_zero_or_pos k with g | g
  ·omega
  have h2 : b ^ (k - 1) ≤ V := by
   rcases Nat.lt_or_ge V (b ^ (k - 1)) with g | g
   ·rw [Nat.div_eq_of_lt g] at e; omega
   ·exact g
  have h3 : 2 ^ (k - 1) ≤ b ^ (k - 1) := Nat.pow_le_pow_left hb _
  have h4 : 2 ^ (k - 1) < 2 ^ (32 * n) := by omega
  have := (Nat.pow_lt_pow_iff_right (by decide : 1 < 2)).1 h4
  omega

theorem QpR.step {wr w w1 : World} {V b : Nat} {v v' : Value} {k Q : Nat} {a a' : Option Addr} {m m' : Nat} {o : Obj} (h : QpR wr w V b v k Q a m) (hQ : 0 < Q) (hs : Sl wr a' m' m' (limbs (Q / b)))
  (hown : w1.ownsRow w.heap.size 5 1 v' (k + 1) (valsB (lst (fun p => chrN (dgt V b p)) k) ++ [.int .u8 (chrN (Q % b) : Nat)])) (hg : (wr.alloc o).grownBy w1 v.ownBlock) (hne : ∀ x, a' = some x → v.ownBlock ≠ some x.block) : QpR w1 w V b v' (k + 1) (Q / b) a' m' := by
 have hz := h.bel.size
 have hq := h.q
 refine ⟨?_, ?_, ?_, .inr ?_, Below.grown (h.bel.alloc (by omega) o) hg (by simp; omega) (fun k hk => (own_ge h.own k hk).1)⟩
 ·have e : valsB (lst (fun p => chrN (dgt V b p)) k) ++ [.int .u8 (chrN (Q % b) : Nat)] = valsB (lst (fun p => chrN (dgt V b p)) (k + 1)) := by
   unfold valsB
   simp only [lst, List.range_succ, List.map_append, List.map_cons, List.map_nil]
   rw [hq]
   rfl
  rw [e] at hown
  exact hown
 ·have hs1 : Sl (wr.alloc o) a' m' m' (limbs (Q / b)) := hs.below ((Below.refl _ _).alloc (Nat.le_refl _) o)
  exact hs1.chg (S := fun k => v.ownBlock = some k) (Chg.of_grown hg (fun k hk => hk)) (fun x hx _ => hne x hx)
 ·rw [hq, Nat.div_div_eq_div_mul, ← Nat.pow_succ]
 ·rw [Nat.add_sub_cancel, ← hq]; exact hQ

open Go.RowKit Go.Deep
set_option linter.unusedVariables false
end Go.Proofs.YtbbicappjicblaaGreatDoor
namespace Go.Proofs.YtbbicappjicblaaGreatDoor
open Go.RowKit Go.Deep
set_option linter.unusedVariables false
open Go.RowKit Go.Deep
set_option linter.unusedVariables false
structure Chunk (b c : Nat) : Prop where
 pos : 1 ≤ c
 le : c ≤ 31
 lt : b ^ c < 4294967296
 ge : 4294967296 ≤ b ^ c * b
end Go.Proofs.YtbbicappjicblaaGreatDoor
namespace Go.Proofs.YtbbicappjicblaaGreatDoor
open Go.RowKit Go.Deep
set_option linter.unusedVariables false
structure St4 (w : World) (S b cnt wt : Nat) (pv : Value) : Prop where
 c0 : w.cell? ⟨S, 0, none⟩ = some (.int .i64 (b : Nat))
 c1 : w.cell? ⟨S, 1, none⟩ = some (.int .i64 (cnt : Nat))
 c2 : w.cell? ⟨S, 2, none⟩ = some (.int .u32 (wt : Nat))
 c3 : w.cell? ⟨S, 3, none⟩ = some pv

theorem St4.keep {w w' : World} {S b cnt wt : Nat} {pv : Value} (h : St4 w S b cnt wt pv) (k : ∀ i, w'.cell? ⟨S, i, none⟩ = w.cell? ⟨S, i, none⟩) : St4 w' S b cnt wt pv :=
 ⟨(k 0).trans h.c0, (k 1).trans h.c1, (k 2).trans h.c2, (k 3).trans h.c3⟩
theorem St4.lt {w : World} {S b cnt wt : Nat} {pv : Value} (h : St4 w S b cnt wt pv) : S < w.heap.size := World.block_lt_of_cell? _ _ h.c0
theorem St4.upd {w w' : World} {S b cnt wt X lo hi : Nat} {pv : Value} (h : St4 w S b cnt wt pv) (u : Upd X lo hi w w') (hX : S ≠ X) : St4 w' S b cnt wt pv :=
 h.keep fun i => by unfold World.cell?; simp only; rw [u.block S h.lt hX]
theorem St4.made (w : World) (b cnt wt : Nat) (pv : Value) (t : TypeId) : St4 (w.alloc (.cells #[.int .i64 (b : Nat), .int .i64 (cnt : Nat), .int .u32 (wt : Nat), pv] t)) w.heap.size b cnt wt pv :=
 ⟨by simp, by simp, by simp, by simp⟩

def NumW (w : World) (a : Option Addr) (m bn on v : Nat) : Prop :=
 (a = none ∧ m = 0 ∧ v = 0) ∨ ∃ f : Nat → Nat, a = some ⟨bn, on, none⟩ ∧ Fn w bn on m f ∧ (∀ i, i < m → f i < 4294967296) ∧ valF f m = v

theorem Upd.far {T lo hi X l h : Nat} {w0 w w' : World} (u : Upd T lo hi w0 w) (v : Upd X l h w w') (hX : w0.heap.size ≤ X) (hT : T < w0.heap.size) : Upd T lo hi w0 w' := by
 refine ⟨v.os.trans u.os, v.tape.trans u.tape, v.output.trans u.output, Nat.le_trans u.size v.size, ?_, ?_, ?_⟩
 ·intro k hk hne
  rw [v.block k (Nat.lt_of_lt_of_le hk u.size) (by omega), u.block k hk hne]
 ·intro i hi
  have : w'.cell? ⟨T, i, none⟩ = w.cell? ⟨T, i, none⟩ := by
   unfold World.cell?; simp only; rw [v.block T (Nat.lt_of_lt_of_le hT u.size) (by omega)]
  rw [this, u.cell i hi]
 ·intro i
  have : w'.frozen? ⟨T, i, none⟩ = w.frozen? ⟨T, i, none⟩ := by
   unfold World.frozen?; simp only; rw [v.block T (Nat.lt_of_lt_of_le hT u.size) (by omega)]
  rw [this, u.froz i]
theorem FnB.upd {w w' : World} {b off n X lo up : Nat} {f : Nat → Nat} (h : FnB w b off n f) (u : Upd X lo up w w') (hX : b ≠ X ∨ off + n ≤ lo ∨ up ≤ off) : FnB w' b off n f := by
 intro i hi
 obtain ⟨h1, h2⟩ := h i hi
 have hb := World.block_lt_of_cell? _ _ h1
 by_cases e : b = X
 ·subst e
  have hX' : off + n ≤ lo ∨ up ≤ off := hX.resolve_left (fun h => h rfl)
  exact ⟨by rw [u.cell _ (by omega)]; exact h1, by rw [u.froz]; exact h2⟩
 ·refine ⟨?_, ?_⟩
  ·have : w'.cell? ⟨b, off + i, none⟩ = w.cell? ⟨b, off + i, none⟩ := by unfold World.cell?; simp only; rw [u.block b hb e]
   rw [this]; exact h1
  ·have : w'.frozen? ⟨b, off + i, none⟩ = w.frozen? ⟨b, off + i, none⟩ := by unfold World.frozen?; simp only; rw [u.block b hb e]
   rw [this]; exact h2

theorem FnB.bel {w w' : World} {b off n : Nat} {f : Nat → Nat} (h : FnB w b off n f) (k : Below w.heap.size w w') : FnB w' b off n f := by
 intro i hi
 obtain ⟨h1, h2⟩ := h i hi
 have hb := World.block_lt_of_cell? _ _ h1
 refine ⟨?_, ?_⟩
 ·have : w'.cell? ⟨b, off + i, none⟩ = w.cell? ⟨b, off + i, none⟩ := by unfold World.cell?; simp only; rw [k.block b hb]
  rw [this]; exact h1
 ·have : w'.frozen? ⟨b, off + i, none⟩ = w.frozen? ⟨b, off + i, none⟩ := by unfold World.frozen?; simp only; rw [k.block b hb]
  rw [this]; exact h2

def txf (V b L d : Nat) (t0 : Nat → Nat) : Nat → Nat := fun p => if L - 1 - p < d then chrN (dgt V b (L - 1 - p)) else t0 p

structure WsR (wr w0 : World) (T o L bn on S V b cnt wt : Nat) (pv : Value) (t0 : Nat → Nat) (q d : Nat) (a : Option Addr) (m : Nat) : Prop where
 num : NumW wr a m bn on q
 fb : FnB wr T o L (txf V b L d t0)
 st : St4 wr S b cnt wt pv
 upd : Upd T o (o + L) w0 wr

theorem WsR.put {wr w0 : World} {T o L bn on S V b cnt wt : Nat} {pv : Value} {t0 : Nat → Nat} {q d : Nat} {a : Option Addr} {m : Nat} (h : WsR wr w0 T o L bn on S V b cnt wt pv t0 q d a m) (hd : d < L) (hST : S ≠ T) (hbT : bn ≠ T) (z : Nat) (hz : z = chrN (dgt V b d)) :
  WsR (wr.setCell ⟨T, o + (L - 1 - d), none⟩ (.int .u8 (z : Nat))) w0 T o L bn on S V b cnt wt pv t0 q (d + 1) a m := by
 have u : Upd T o (o + L) wr (wr.setCell ⟨T, o + (L - 1 - d), none⟩ (.int .u8 (z : Nat))) := (Upd.refl _ _ _ _).set _ _ (by omega) (by omega)
 refine ⟨?_, ?_, h.st.upd u hST, h.upd.trans u⟩
 ·rcases h.num with e | ⟨f, e1, e2, e3, e4⟩
  ·exact .inl e
  ·exact .inr ⟨f, e1, u.fn e2 (.inl hbT), e3, e4⟩
 ·refine (h.fb.set (L - 1 - d) z (by omega)).congr fun p hp => ?_
  unfold txf
  by_cases e : p = L - 1 - d
  ·rw [if_pos e, if_pos (by omega), hz, show L - 1 - p = d from by omega]
  ·rw [if_neg e]
   by_cases e2 : L - 1 - p < d
   ·rw [if_pos e2, if_pos (by omega)]
   ·rw [if_neg e2, if_neg (by omega)]

theorem divideLimb_nil (a : Option Addr) (c d : Nat) (w : World) :
  Calls Tryz.prog 146 #[.slice a 0 c, .int .u32 (d : Nat)] w fun e w' => e = .returned (.int .u32 0) ∧ w' = w := by
 go_enter Tryz.func146, Tryz.ntmps146
 go_wp2
 go_loop [5, 6] (fun rv i => rv = .int .u32 0 ∧ i = .int .i64 (-1)) (fun _ i => (intOf i + 1).toNat)
 case atStart => exact ⟨rfl, rfl⟩
 case round =>
  obtain ⟨rfl, rfl⟩ := hrel
  go_wp2
  go_ret
  exact ⟨rfl, rfl⟩

theorem NumW.divided {w : World} {a : Option Addr} {m bn on v wt : Nat} (h : NumW w a m bn on v) (hm : m ≤ 1000000000) (h0 : 0 < wt) (h1 : wt < 4294967296) :
  Calls Tryz.prog 146 #[.slice a m m, .int .u32 (wt : Nat)] w fun e w' => e = .returned (.int .u32 (v % wt : Nat)) ∧ Upd bn on (on + m) w w' ∧ Calls Tryz.prog 141 #[.slice a m m] w' fun e w'' => ∃ a' m', e = .returned (.slice a' m' m') ∧ m' ≤ m ∧ NumW w' a' m' bn on (v / wt) ∧ w'' = w' := by
 rcases h with ⟨rfl, rfl, rfl⟩ | ⟨f, rfl, hf, ok, hv⟩
 ·refine (divideLimb_nil none 0 wt w).mono ?_
  rintro e w' ⟨rfl, rfl⟩
  refine ⟨by simp, Upd.refl _ _ _ _, ?_⟩
  refine (trim_any none 0 0 [] w' (sl_nil _) Ok.nil).mono ?_
  rintro e w2 ⟨a', m', ys, rfl, hs, hr, ha, rfl⟩
  have hy : ys = [] := hr.unique ⟨Ok.nil, .inl rfl, rfl⟩
  have hl := hs.len
  rw [hy] at hl
  simp at hl
  subst hl
  have ha' : a' = none := by rcases ha with e | e <;> exact e
  exact ⟨a', 0, rfl, Nat.le_refl _, .inl ⟨ha', rfl, by simp⟩, rfl⟩
 ·refine (divideLimb_any bn on m m wt f w hf ok hm h0 h1).mono ?_
  rintro e w' ⟨r, g, rfl, hr, hg, og, hval, hu⟩
  rw [hv] at hval
  have e1 : v % wt = r := by rw [hval, Nat.mul_comm, Nat.mul_add_mod, Nat.mod_eq_of_lt hr]
  have e2 : v / wt = valF g m := by rw [hval, Nat.mul_comm, Nat.mul_add_div h0, Nat.div_eq_of_lt hr, Nat.add_zero]
  refine ⟨by rw [e1], hu, ?_⟩
  refine (trim_any (some ⟨bn, on, none⟩) m m (lst g m) w' (hg.sl (Nat.le_refl _) (by unfold maxLen; omega)) (lst_ok og)).mono ?_
  rintro e w2 ⟨a', m', ys, rfl, hs, hr2, ha, rfl⟩
  have hl := hs.len
  have hvy := hr2.val
  rw [lst_val] at hvy
  have hmm : m' ≤ m := by
   have := rep_len_leS hr2 (j := m) (by rw [lst_val]; exact valF_lt og)
   omega
  by_cases hy : ys = []
  ·subst hy
   simp at hl
   subst hl
   refine ⟨a', 0, rfl, hmm, ?_, rfl⟩
   rcases ha with e | e
   ·exact .inr ⟨g, e, fun i hi => absurd hi (Nat.not_lt_zero _), fun i hi => absurd hi (Nat.not_lt_zero _), by rw [e2, ← hvy]; simp [valF, val]⟩
   ·exact .inl ⟨e, rfl, by rw [e2, ← hvy]; rfl⟩
  ·refine ⟨a', m', rfl, hmm, ?_, rfl⟩
   obtain ⟨b', o', e, hc⟩ := hs.cells.resolve_left hy
   rcases ha with e' | e'
   ·rw [e'] at e
    cases e
    refine .inr ⟨fun i => ys.getD i 0, e', fun i hi => ⟨hc i (by omega), (hg i (by omega)).2⟩, fun i hi => hr2.ok.getD i, ?_⟩
    rw [valF_ge ys m' (by omega), hvy, e2]
   ·rw [e'] at e; cases e
open Go.RowKit Go.Deep
set_option linter.unusedVariables false
structure Pows (w : World) (T pb po K wt : Nat) : Prop where
 ne : pb ≠ T
 at' : ∀ i, i < K → ∃ a m, w.cell? ⟨pb, po + i, none⟩ = some (.slice a m m) ∧ Sl w a m m (limbs (wt ^ 2 ^ i)) ∧ m ≤ 2048 ∧ ∀ x, a = some x → x.block ≠ T

theorem Pows.upd {w w' : World} {T pb po K wt lo up : Nat} (h : Pows w T pb po K wt) (u : Upd T lo up w w') : Pows w' T pb po K wt := by
 refine ⟨h.ne, fun i hi => ?_⟩
 obtain ⟨a, m, h1, h2, h3, h4⟩ := h.at' i hi
 refine ⟨a, m, ?_, h2.chg u.chg (fun x hx _ => h4 x hx), h3, h4⟩
 have hb := World.block_lt_of_cell? _ _ h1
 have : w'.cell? ⟨pb, po + i, none⟩ = w.cell? ⟨pb, po + i, none⟩ := by unfold World.cell?; simp only; rw [u.block pb hb h.ne]
 rw [this]; exact h1
theorem Pows.bel {w w' : World} {T pb po K wt : Nat} (h : Pows w T pb po K wt) (k : Below w.heap.size w w') : Pows w' T pb po K wt := by
 refine ⟨h.ne, fun i hi => ?_⟩
 obtain ⟨a, m, h1, h2, h3, h4⟩ := h.at' i hi
 refine ⟨a, m, ?_, h2.below k, h3, h4⟩
 have hb := World.block_lt_of_cell? _ _ h1
 have : w'.cell? ⟨pb, po + i, none⟩ = w.cell? ⟨pb, po + i, none⟩ := by unfold World.cell?; simp only; rw [k.block pb hb]
 rw [this]; exact h1

theorem FnB.left {w : World} {T o L h : Nat} {f : Nat → Nat} (g : FnB w T o L f) (hh : h ≤ L) : FnB w T o h f := fun i hi => g i (by omega)
theorem FnB.right {w : World} {T o L h : Nat} {f : Nat → Nat} (g : FnB w T o L f) (hh : h ≤ L) : FnB w T (o + h) (L - h) (fun i => f (h + i)) := fun i hi => by
 have := g (h + i) (by omega)
 rwa [← Nat.add_assoc] at this

open Go.RowKit Go.Deep
set_option linter.unusedVariables false
def pwV (e : Option Addr × Nat) : Value := .slice e.1 e.2 e.2

structure PwAt (wr : World) (B : Nat) (pv : Value) (e : Option Addr × Nat) (P : Nat) : Prop where
 sl : Sl wr e.1 e.2 e.2 (limbs P)
 le : e.2 ≤ 2048
 new : ∀ x, e.1 = some x → B + 2 ≤ x.block
 ne : ∀ x, e.1 = some x → pv.ownBlock ≠ some x.block

structure NwA (wr w : World) (b cnt wt N k : Nat) (pv : Value) (es : List (Option Addr × Nat)) : Prop where
 st : St4 wr (w.heap.size + 1) b cnt wt pv
 fz : wr.frozen? ⟨w.heap.size + 1, 3, none⟩ = false
 rs : ∀ i, i < 4 → (∃ v, wr.cell? ⟨w.heap.size, i, none⟩ = some v) ∧ wr.frozen? ⟨w.heap.size, i, none⟩ = false
 own : wr.ownsRow (w.heap.size + 2) 68 1 pv k (es.map pwV)
 each : ∀ i, i < k → ∃ e, es[i]? = some e ∧ PwAt wr w.heap.size pv e (wt ^ 2 ^ i)
 le : ∀ i, i < k → wt ^ 2 ^ i ≤ N
 bel : Below w.heap.size w wr

theorem Chg.frozen {S : Nat → Prop} {w w' : World} (h : Chg S w w') {b i : Nat} (hs : ¬ S b) (hb : b < w.heap.size) : w'.frozen? ⟨b, i, none⟩ = w.frozen? ⟨b, i, none⟩ := by
 unfold World.frozen?; simp only; rw [h.block b hb hs]
theorem limbs_ne0 {v : Nat} (h : 0 < v) : limbs v ≠ [] := by
 intro e
 have := (limbs_rep v).val
 rw [e] at this
 simp [val] at this
 omega

theorem NwA.keep {wr w' w : World} {b cnt wt N k : Nat} {pv : Value} {es : List (Option Addr × Nat)} (h : NwA wr w b cnt wt N k pv es) (hb : Below wr.heap.size wr w') : NwA w' w b cnt wt N k pv es := by
 have hS : w.heap.size + 1 < wr.heap.size := h.st.lt
 have c : Chg (fun _ => False) wr w' := Chg.of_below hb
 refine ⟨h.st.keep (fun i => ?_), ?_, fun i hi => ?_, ownsRow_below h.own hb, fun i hi => ?_, h.le, h.bel.trans (hb.mono h.bel.size)⟩
 ·unfold World.cell?; simp only; rw [hb.block _ hS]
 ·rw [c.frozen (fun h => h) hS]; exact h.fz
 ·obtain ⟨⟨v, hv⟩, hf⟩ := h.rs i hi
  exact ⟨⟨v, c.cell (fun h => h) hv⟩, by rw [c.frozen (fun h => h) (by omega)]; exact hf⟩
 ·obtain ⟨e, he, p⟩ := h.each i hi
  exact ⟨e, he, p.sl.below hb, p.le, p.new, p.ne⟩

theorem NwA.push {wr w1 w : World} {b cnt wt N k g cap : Nat} {pv : Value} {es : List (Option Addr × Nat)} {ap : Option Addr} {mp : Nat} {o : Obj} (h : NwA wr w b cnt wt N k pv es) (hp : PwAt wr w.heap.size pv (ap, mp) (wt ^ 2 ^ k)) (hw : 0 < wt) (hN : wt ^ 2 ^ k ≤ N)
  (hown : w1.ownsRow (w.heap.size + 2) 68 1 (.slice (some ⟨g, 0, none⟩) (k + 1) cap) (k + 1) (es.map pwV ++ [.slice ap mp mp])) (hg : (wr.alloc o).grownBy w1 pv.ownBlock) (hat : pv.ownBlock = some g ∨ g = wr.heap.size + 1) :
  NwA (w1.setCell ⟨w.heap.size + 1, 3, none⟩ (.slice (some ⟨g, 0, none⟩) (k + 1) cap)) w b cnt wt N (k + 1) (.slice (some ⟨g, 0, none⟩) (k + 1) cap) (es ++ [(ap, mp)]) ∧
   PwAt (w1.setCell ⟨w.heap.size + 1, 3, none⟩ (.slice (some ⟨g, 0, none⟩) (k + 1) cap)) w.heap.size (.slice (some ⟨g, 0, none⟩) (k + 1) cap) (ap, mp) (wt ^ 2 ^ k) ∧
   w1.cell? ⟨w.heap.size + 1, 3, none⟩ = some pv ∧ w1.frozen? ⟨w.heap.size + 1, 3, none⟩ = false := by
 have hS : w.heap.size + 1 < wr.heap.size := h.st.lt
 have hlk : es.length = k := by have := h.own.1; simpa using this
 have hoB : ∀ j, pv.ownBlock = some j → w.heap.size + 2 ≤ j ∧ j < wr.heap.size := own_ge h.own
 have hgB : w.heap.size + 2 ≤ g := by
  rcases hat with e | e
  ·exact (hoB g e).1
  ·omega
 have c1 : Chg (fun j => pv.ownBlock = some j) wr w1 := (Chg.of_alloc wr o).trans (Chg.of_grown hg (fun j hj => hj))
 have c2 : Chg (fun j => pv.ownBlock = some j ∨ j = w.heap.size + 1) wr (w1.setCell ⟨w.heap.size + 1, 3, none⟩ (.slice (some ⟨g, 0, none⟩) (k + 1) cap)) :=
  (c1.mono (fun j _ hj => Or.inl hj)).trans (Chg.of_set _ _ _ _ (.inr rfl))
 have nS : ¬ pv.ownBlock = some (w.heap.size + 1) := fun e => by have := (hoB _ e).1; omega
 have nR : ¬ (pv.ownBlock = some w.heap.size ∨ w.heap.size = w.heap.size + 1) := by
  rintro (e | e)
  ·have := (hoB _ e).1; omega
  ·omega
 have moved : ∀ {e : Option Addr × Nat} {P : Nat}, 0 < P → PwAt wr w.heap.size pv e P → PwAt (w1.setCell ⟨w.heap.size + 1, 3, none⟩ (.slice (some ⟨g, 0, none⟩) (k + 1) cap)) w.heap.size (.slice (some ⟨g, 0, none⟩) (k + 1) cap) e P := by
  intro e P hP p
  refine ⟨p.sl.chg c2 (fun x hx _ => ?_), p.le, p.new, fun x hx => ?_⟩
  ·rintro (e1 | e1)
   ·exact p.ne x hx e1
   ·have := p.new x hx; omega
  ·intro e1
   simp only [Value.ownBlock, Option.some.injEq] at e1
   have hlt := p.sl.block_lt (limbs_ne0 hP) x hx
   rcases hat with e2 | e2
   ·exact p.ne x hx (by rw [e2, e1])
   ·omega
 have hPk : ∀ i, 0 < wt ^ 2 ^ i := fun i => Nat.pow_pos hw
 refine ⟨⟨?_, ?_, ?_, ?_, ?_, ?_, ?_⟩, moved (hPk k) hp, c1.cell nS h.st.c3, by rw [c1.frozen nS hS]; exact h.fz⟩
 ·refine ⟨?_, ?_, ?_, ?_⟩
  ·rw [World.cell?_setCell_other _ _ _ _ (by simp)]; exact c1.cell nS h.st.c0
  ·rw [World.cell?_setCell_other _ _ _ _ (by simp)]; exact c1.cell nS h.st.c1
  ·rw [World.cell?_setCell_other _ _ _ _ (by simp)]; exact c1.cell nS h.st.c2
  ·rw [World.cell?_setCell_same _ _ _ (c1.cell nS h.st.c3)]
 ·rw [World.frozen?_setCell, c1.frozen nS hS]; exact h.fz
 ·intro i hi
  obtain ⟨⟨v, hv⟩, hf⟩ := h.rs i hi
  exact ⟨⟨v, c2.cell nR hv⟩, by rw [c2.frozen nR (by omega)]; exact hf⟩
 ·rw [List.map_append]
  exact ownsRow_setCell_other hown (by simp [Value.ownBlock]; omega) _
 ·intro i hi
  by_cases hik : i < k
  ·obtain ⟨e, he, p⟩ := h.each i hik
   exact ⟨e, by rw [List.getElem?_append_left (by omega)]; exact he, moved (hPk i) p⟩
  ·obtain rfl : i = k := by omega
   exact ⟨(ap, mp), by rw [List.getElem?_append_right (by omega), hlk]; simp, moved (hPk i) hp⟩
 ·intro i hi
  by_cases hik : i < k
  ·exact h.le i hik
  ·obtain rfl : i = k := by omega
   exact hN
 ·exact h.bel.trans (c2.below h.bel.size (fun j hj => by
   rintro (e | e)
   ·have := (hoB _ e).1; omega
   ·omega))

structure NwPost (w w' : World) (b N cnt wt K : Nat) (pv : Value) : Prop where
 ch : Chunk b cnt
 wte : b ^ cnt = wt
 lt : N < wt ^ 2 ^ K
 le : ∀ i, i < K → wt ^ 2 ^ i ≤ N
 pvs : ∃ pb a0 cp, pv = .slice a0 K cp ∧ (K = 0 ∨ pv = .slice (some ⟨pb, 0, none⟩) K cp) ∧ pb < w'.heap.size ∧ ∀ i, i < K → ∃ a m, w'.cell? ⟨pb, 0 + i, none⟩ = some (.slice a m m) ∧ Sl w' a m m (limbs (wt ^ 2 ^ i)) ∧ m ≤ 2048 ∧ ∀ x, a = some x → x.block < w'.heap.size
 bel : Below w.heap.size w w'

theorem NwA.done {wr w : World} {b cnt wt N k : Nat} {pv : Value} {es : List (Option Addr × Nat)} (h : NwA wr w b cnt wt N k pv es) (ch : Chunk b cnt) (hwt : b ^ cnt = wt) (hb : 0 < b) (hN : N < wt ^ 2 ^ k) (W : World) (c : Chg (fun j => j = w.heap.size) wr W) : NwPost w W b N cnt wt k pv := by
 have hS : w.heap.size + 1 < wr.heap.size := h.st.lt
 have hw : 0 < wt := by rw [← hwt]; exact Nat.pow_pos hb
 refine ⟨ch, hwt, hN, h.le, ?_, h.bel.trans (c.below h.bel.size (fun j hj => by omega))⟩
 rcases h.own.2 with ⟨e, h0⟩ | ⟨g, cap, cur, e, hg, hheap, h6, h7, h8, h9⟩
 ·refine ⟨0, none, 0, by rw [e, h0], .inl h0, by have := c.size; omega, fun i hi => by omega⟩
 ·have hgl : g < wr.heap.size := (own_ge h.own g (by rw [e]; rfl)).2
  refine ⟨g, some ⟨g, 0, none⟩, cap, e, .inr e, Nat.lt_of_lt_of_le hgl c.size, fun i hi => ?_⟩
  obtain ⟨x, hx, p⟩ := h.each i hi
  refine ⟨x.1, x.2, ?_, p.sl.chg c (fun y hy _ => by have := p.new y hy; omega), p.le, fun y hy => Nat.lt_of_lt_of_le (p.sl.block_lt (limbs_ne0 (Nat.pow_pos hw)) y hy) c.size⟩
  have ho := h.own
  rw [e] at ho
  have hc := ho.cellAt i (by omega)
  rw [List.getElem?_map, hx] at hc
  rw [Nat.zero_add]
  exact c.cell (by omega) hc
end Go.Proofs.YtbbicappjicblaaGreatDoor
