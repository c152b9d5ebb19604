/- Kar -/
import Derived.Test.YtiadccaaoenccaaDoorNMul
import Derived.Test.YtiadccaaoenccaaDoorCmp
namespace Go.Proofs.YtiadccaaoenccaaDoor
open Go.RowKit Go.Deep
set_option linter.unusedVariables false
theorem Fn.below {w w' : World} {b off n : Nat} {f : Nat → Nat} (h : Fn w b off n f) (k : Below w.heap.size w w') : Fn w' b off n f := by
  intro i hi
  have := h i hi
  have hlt := World.block_lt_of_cell? _ _ this.1
  exact ⟨(k.cell hlt).trans this.1, (k.frozen hlt).trans this.2⟩

theorem Fn.part {w : World} {b off n : Nat} {f : Nat → Nat} (h : Fn w b off n f) (k m : Nat) (hm : k + m ≤ n) : Fn w b (off + k) m (fun i => f (k + i)) := by
  intro i hi
  have := h (k + i) (by omega)
  rw [← Nat.add_assoc] at this
  exact this

theorem Fn.join {w : World} {b off k m : Nat} {f g : Nat → Nat} (h1 : Fn w b off k f) (h2 : Fn w b (off + k) m g) : Fn w b off (k + m) (fun i => if i < k then f i else g (i - k)) := by
  intro i hi
  by_cases e : i < k
  · simp only [e, if_true]; exact h1 i e
  · simp only [e, if_false]
    have := h2 (i - k) (by omega)
    rw [show off + k + (i - k) = off + i from by omega] at this
    exact this

theorem valF_join (f g : Nat → Nat) (k m : Nat) : valF (fun i => if i < k then f i else g (i - k)) (k + m) = valF f k + 4294967296 ^ k * valF g m := by
  rw [valF_add, valF_congr (g := f) (fun i hi => by simp [hi]), valF_congr (f := fun j => if k + j < k then f (k + j) else g (k + j - k)) (g := g) (fun i hi => by rw [if_neg (by omega), Nat.add_sub_cancel_left])]

theorem rep_len_le {v j : Nat} {zs : List Nat} (h : Rep v zs) (hv : v < 4294967296 ^ j) : zs.length ≤ j := by
  rcases Nat.lt_or_ge j zs.length with hlt | hge
  · exfalso
    have h1 := val_ge_of_norm h.norm (by intro e; subst e; simp at hlt)
    rw [h.val] at h1
    have h2 : 4294967296 ^ j ≤ 4294967296 ^ (zs.length - 1) := pow_mono (by omega)
    omega
  · exact hge

theorem carry_zero {x y P c : Nat} (h : x + P * c = y) (hy : y < P) : c = 0 ∧ x = y := by
  rcases Nat.eq_zero_or_pos c with h0 | h0
  · subst h0; simp at h; exact ⟨rfl, h⟩
  · exfalso
    have : P * 1 ≤ P * c := Nat.mul_le_mul_left _ h0
    omega

structure PieceR (wr w : World) (bz oz nz : Nat) (xs ys : List Nat) (k : Nat) (f : Nat → Nat) : Prop where
  fn : Fn wr bz oz nz f
  ok : ∀ i, i < nz → f i < 4294967296
  vl : valF f nz = val (xs.take k) * val ys
  upd : Upd bz oz (oz + nz) w wr

theorem take_lt {xs : List Nat} (ox : Ok xs) (t : Nat) (h : t ≤ xs.length) : val (xs.take t) < 4294967296 ^ t := by
  have := val_lt (ox.take t)
  rwa [List.length_take, Nat.min_eq_left h] at this

theorem take_split (xs : List Nat) (k p : Nat) (h : k + p ≤ xs.length) : val (xs.take (k + p)) = val (xs.take k) + 4294967296 ^ k * val ((xs.drop k).take p) := by
  rw [List.take_add, val_append, List.length_take, Nat.min_eq_left (by omega)]

theorem PieceR.step {wr w w5 w6 : World} {bz oz nz n1 n2 : Nat} {xs ys : List Nat} {k p k' c : Nat} {f f' : Nat → Nat} (h : PieceR wr w bz oz nz xs ys k f) (hl1 : xs.length = n1) (hl2 : ys.length = n2) (hnz : n1 + n2 = nz) (ox : Ok xs) (oy : Ok ys) (hp : k + p ≤ n1)
    (hk' : xs.take k' = xs.take (k + p)) (bz5 : bz < wr.heap.size) (b5 : Below wr.heap.size wr w5) (hF : Fn w6 bz (oz + k) (nz - k) f') (hok : ∀ i, i < nz - k → f' i < 4294967296)
    (hval : valF f' (nz - k) + 4294967296 ^ (nz - k) * c = valF (fun i => f (k + i)) (nz - k) + val ((xs.drop k).take p) * val ys) (hupd : Upd bz (oz + k) (oz + k + (nz - k)) w5 w6) :
    ∃ g, PieceR w6 w bz oz nz xs ys k' g := by
  have hkn : k + (nz - k) = nz := by omega
  have u1 : Upd bz oz (oz + nz) wr w5 := .of_below bz5 b5
  have u2 : Upd bz oz (oz + nz) w5 w6 := hupd.mono (by omega) (by omega)
  have fl : Fn w6 bz oz k f := by
    have := ((h.fn.below b5).part 0 k (by omega))
    simp only [Nat.zero_add, Nat.add_zero] at this
    exact hupd.fn this (.inr (.inl (by omega)))
  have hj := Fn.join fl hF
  rw [hkn] at hj
  refine ⟨_, hj, ?_, ?_, (h.upd.trans u1).trans u2⟩
  · intro i hi
    by_cases e : i < k
    · simp only [e, if_true]; exact h.ok i hi
    · simp only [e, if_false]; exact hok _ (by omega)
  · have e1 := valF_join f f' k (nz - k)
    rw [hkn] at e1
    rw [e1, hk', take_split xs k p (by omega)]
    have e2 := valF_add f k (nz - k)
    rw [hkn, h.vl] at e2
    have e3 : valF f k + 4294967296 ^ k * valF f' (nz - k) + 4294967296 ^ nz * c = (val (xs.take k) + 4294967296 ^ k * val ((xs.drop k).take p)) * val ys := by
      have e4 : 4294967296 ^ nz * c = 4294967296 ^ k * (4294967296 ^ (nz - k) * c) := by rw [← Nat.mul_assoc, ← Nat.pow_add, hkn]
      rw [e4, Nat.add_assoc, ← Nat.mul_add, hval, Nat.mul_add, ← Nat.add_assoc, ← e2, Nat.add_mul, Nat.mul_assoc]
    have hlt : (val (xs.take k) + 4294967296 ^ k * val ((xs.drop k).take p)) * val ys < 4294967296 ^ nz := by
      rw [← take_split xs k p (by omega)]
      have a1 := take_lt ox (k + p) (by omega)
      have a2 := val_lt oy
      have a3 : 4294967296 ^ (k + p) ≤ 4294967296 ^ n1 := pow_mono hp
      rw [← hnz, Nat.pow_add, ← hl2]
      exact Nat.mul_lt_mul_of_lt_of_le (by omega) (by omega) (pow_pos _)
    exact (carry_zero e3 hlt).2
theorem Sl.part {w : World} {b off n c : Nat} {xs : List Nat} (h : Sl w (some ⟨b, off, none⟩) n c xs) (k p c' : Nat) (hp : k + p ≤ n) (hc : p ≤ c') (hm : c' ≤ maxLen) : Sl w (some ⟨b, off + k, none⟩) p c' ((xs.drop k).take p) := by
  have hl := h.len
  refine ⟨by simp; omega, hc, hm, ?_⟩
  rcases h.cells with e | ⟨b', o', e, hh⟩
  · left; subst e; simp
  · right
    injection e with e
    injection e with e1 e2
    subst e1 e2
    refine ⟨_, _, rfl, ?_⟩
    intro i hi
    have hi' : i < p := by simp at hi; omega
    have := hh (k + i) (by omega)
    rw [← Nat.add_assoc] at this
    rw [this]
    simp [List.getD, hi']

theorem Sl.upd {w w' : World} {b off n c bz lo hi : Nat} {xs : List Nat} (h : Sl w (some ⟨b, off, none⟩) n c xs) (u : Upd bz lo hi w w') (hd : b ≠ bz ∨ off + xs.length ≤ lo ∨ hi ≤ off) : Sl w' (some ⟨b, off, none⟩) n c xs := by
  refine ⟨h.len, h.le, h.cap, ?_⟩
  rcases h.cells with e | ⟨b', o', e, hh⟩
  · exact .inl e
  · right
    injection e with e
    injection e with e1 e2
    subst e1 e2
    exact ⟨_, _, rfl, u.cells hh hd⟩
def Part (v : World) (b off n V : Nat) : Prop := ∃ f, Fn v b off n f ∧ (∀ i, i < n → f i < 4294967296) ∧ valF f n = V

theorem Part.upd {v v' : World} {b off n V bz lo hi : Nat} (h : Part v b off n V) (u : Upd bz lo hi v v') (hd : b ≠ bz ∨ off + n ≤ lo ∨ hi ≤ off) : Part v' b off n V := by
  obtain ⟨f, h1, h2, h3⟩ := h
  exact ⟨f, u.fn h1 hd, h2, h3⟩
theorem Part.below {v v' : World} {b off n V : Nat} (h : Part v b off n V) (u : Below v.heap.size v v') : Part v' b off n V := by
  obtain ⟨f, h1, h2, h3⟩ := h
  exact ⟨f, h1.below u, h2, h3⟩
theorem Part.sl {v : World} {b off n V c : Nat} (h : Part v b off n V) (hc : n ≤ c) (hm : c ≤ maxLen) : ∃ zs, Sl v (some ⟨b, off, none⟩) n c zs ∧ Ok zs ∧ val zs = V := by
  obtain ⟨f, h1, h2, h3⟩ := h
  exact ⟨lst f n, h1.sl hc hm, lst_ok h2, (lst_val f n).trans h3⟩

structure HalfZ (v w : World) (bz oz nz h L H b1 o1 n1 c1 b2 o2 n2 c2 : Nat) (xs ys : List Nat) : Prop where
  lo : Part v bz oz (2 * h) L
  hi : Part v bz (oz + 2 * h) (nz - 2 * h) H
  upd : Upd bz oz (oz + nz) w v
  sa : Sl v (some ⟨b1, o1, none⟩) n1 c1 xs
  sb : Sl v (some ⟨b2, o2, none⟩) n2 c2 ys

theorem HalfZ.keep {v v' w : World} {bz oz nz h L H b1 o1 n1 c1 b2 o2 n2 c2 : Nat} {xs ys : List Nat} (z : HalfZ v w bz oz nz h L H b1 o1 n1 c1 b2 o2 n2 c2 xs ys) {R lo hi : Nat} (u : Upd R lo hi v v') (hR : bz ≠ R) (h1 : b1 ≠ R) (h2 : b2 ≠ R) (hbz : bz < v.heap.size) (hw : w.heap.size ≤ R) : HalfZ v' w bz oz nz h L H b1 o1 n1 c1 b2 o2 n2 c2 xs ys := by
  have eb := u.block bz hbz hR
  refine ⟨z.lo.upd u (.inl hR), z.hi.upd u (.inl hR), ⟨u.os.trans z.upd.os, u.tape.trans z.upd.tape, u.output.trans z.upd.output, Nat.le_trans z.upd.size u.size, ?_, ?_, ?_⟩, z.sa.upd u (.inl h1), z.sb.upd u (.inl h2)⟩
  · intro k hk hb
    rw [u.block k (Nat.lt_of_lt_of_le hk z.upd.size) (by omega)]
    exact z.upd.block k hk hb
  · intro i hi
    rw [World.cell?_of_block (w := v) (a := ⟨bz, i, none⟩) eb]
    exact z.upd.cell i hi
  · intro i
    rw [World.frozen?_of_block (w := v) (a := ⟨bz, i, none⟩) eb]
    exact z.upd.froz i

theorem HalfZ.below {v v' w : World} {bz oz nz h L H b1 o1 n1 c1 b2 o2 n2 c2 : Nat} {xs ys : List Nat} (z : HalfZ v w bz oz nz h L H b1 o1 n1 c1 b2 o2 n2 c2 xs ys) (hbz : bz < v.heap.size) (u : Below v.heap.size v v') : HalfZ v' w bz oz nz h L H b1 o1 n1 c1 b2 o2 n2 c2 xs ys :=
  ⟨z.lo.below u, z.hi.below u, z.upd.trans (.of_below hbz u), z.sa.below u, z.sb.below u⟩

open Go.RowKit Go.Deep
set_option linter.unusedVariables false

structure HalfS (v w : World) (bz oz nz h L H b1 o1 n1 c1 b2 o2 n2 c2 : Nat) (xs ys : List Nat) (R A B C : Nat) : Prop where
  z : HalfZ v w bz oz nz h L H b1 o1 n1 c1 b2 o2 n2 c2 xs ys
  pa : Part v R 0 (h + 1) A
  pb : Part v R (h + 1) (h + 1) B
  pc : Part v R (2 * (h + 1)) (2 * (h + 1)) C
  rz : bz < R
  r1 : b1 < R
  r2 : b2 < R
  rw : w.heap.size ≤ R
  rv : R < v.heap.size

theorem valF_eq_zero {f : Nat → Nat} : ∀ {n : Nat}, valF f n = 0 → ∀ i, i < n → f i = 0
  | 0, _, i, hi => by omega
  | n + 1, h, i, hi => by
    simp only [valF] at h
    have h1 : valF f n = 0 := by omega
    have h2 : 4294967296 ^ n * f n = 0 := by omega
    have h3 : f n = 0 := by
      rcases Nat.mul_eq_zero.1 h2 with e | e
      · have := pow_pos n; omega
      · exact e
    by_cases e : i = n
    · subst e; exact h3
    · exact valF_eq_zero h1 i (by omega)

theorem Part.zero {v : World} {b off n : Nat} (h : Part v b off n 0) : Fn v b off n (fun _ => 0) := by
  obtain ⟨f, h1, _, h3⟩ := h
  exact h1.congr (fun i hi => valF_eq_zero h3 i hi)

theorem Part.of_zero {v : World} {b off n : Nat} (h : Fn v b off n (fun _ => 0)) : Part v b off n 0 := ⟨_, h, fun _ _ => by decide, valF_zero n⟩

theorem wpList_copy_part {w : World} {ops : Array Oper} {rest : List Oper} {o : Oper} {a : Act} {Q : Exit → Act → World → Prop} (hgd : o.guard = none) (d s : Operand)
    (ho : o.op = .call { callee := .builtin .copy, args := #[d, s], argTypes := #[49, 49] })
    (b off dLen dCap : Nat) (sp : Option Addr) (sLen sCap : Nat) (hd : a.eval d = .slice (some ⟨b, off, none⟩) dLen dCap) (hs : a.eval s = .slice sp sLen sCap)
    (hf : Part w b off dLen 0) (xs : List Nat) (hx : Sl w sp sLen sCap xs) (ok : Ok xs) (hle : sLen ≤ dLen)
    (h : ∀ w', Upd b off (off + dLen) w w' → Part w' b off dLen (val xs) → wpList Tryd.prog ops Q rest (a.put o.dst (goInt xs.length)) w') : wpList Tryd.prog ops Q (o :: rest) a w := by
  have hl := hx.len
  have F := hf.zero
  refine wpList_copy_row hgd d s ho b off dLen dCap sp sLen sCap hd hs _ F xs hx hle (h _ ?_ ?_)
  · exact Upd.setCells b off (off + dLen) (vals xs) off w (Nat.le_refl _) (by simp [vals]; omega)
  · exact ⟨_, F.copied xs (by omega), fun i _ => getD_lt (f := fun _ => 0) ok i, valF_pad xs dLen (by omega)⟩

section
variable {v w : World} {bz oz nz h L H b1 o1 n1 c1 b2 o2 n2 c2 : Nat} {xs ys : List Nat} {R A B C : Nat}

theorem HalfS.drewN (s : HalfS v w bz oz nz h L H b1 o1 n1 c1 b2 o2 n2 c2 xs ys R A B C) (q : Nat) : HalfS (v.drewN q) w bz oz nz h L H b1 o1 n1 c1 b2 o2 n2 c2 xs ys R A B C :=
  have u : Below v.heap.size v (v.drewN q) := bel_drewN (Below.refl _ _) q
  ⟨s.z.below (Nat.lt_trans s.rz s.rv) u, s.pa.below u, s.pb.below u, s.pc.below u, s.rz, s.r1, s.r2, s.rw, s.rv⟩

theorem HalfS.start (z : HalfZ v w bz oz nz h L H b1 o1 n1 c1 b2 o2 n2 c2 xs ys) (hbz : bz < v.heap.size) (hb1 : b1 < v.heap.size) (hb2 : b2 < v.heap.size) (e : TypeId) :
    HalfS (v.alloc (.cells (madeCells #[.int .u32 0] (4 * (h + 1))) e)) w bz oz nz h L H b1 o1 n1 c1 b2 o2 n2 c2 xs ys v.heap.size 0 0 0 := by
  have bel := (Below.refl v.heap.size v).alloc (Nat.le_refl _) (.cells (madeCells #[.int .u32 0] (4 * (h + 1))) e)
  have F := Fn.made v (4 * (h + 1)) e
  have Fa := F.part 0 (h + 1) (by omega)
  have Fb := F.part (h + 1) (h + 1) (by omega)
  have Fc := F.part (2 * (h + 1)) (2 * (h + 1)) (by omega)
  rw [Nat.zero_add] at Fa Fb Fc
  exact ⟨z.below hbz bel, .of_zero Fa, .of_zero Fb, .of_zero Fc, hbz, hb1, hb2, z.upd.size, by simp⟩

theorem HalfZ.whole (z : HalfZ v w bz oz nz h L H b1 o1 n1 c1 b2 o2 n2 c2 xs ys) (h1 : 2 * h ≤ nz) : Part v bz oz nz (L + 4294967296 ^ (2 * h) * H) := by
  obtain ⟨f0, F0, hf0, v0⟩ := z.lo
  obtain ⟨f1, F1, hf1, v1⟩ := z.hi
  have F := Fn.join F0 F1
  have hV := valF_join f0 f1 (2 * h) (nz - 2 * h)
  rw [show 2 * h + (nz - 2 * h) = nz from by omega] at F hV
  rw [v0, v1] at hV
  refine ⟨_, F, ?_, hV⟩
  intro i hi
  by_cases e : i < 2 * h
  · simp only [e, if_true]; exact hf0 i e
  · simp only [e, if_false]; exact hf1 _ (by omega)

end
end Go.Proofs.YtiadccaaoenccaaDoor

namespace Go.Proofs.YtiadccaaoenccaaDoor
open Go.RowKit Go.Deep
set_option linter.unusedVariables false

end Go.Proofs.YtiadccaaoenccaaDoor
namespace Go.Proofs.YtiadccaaoenccaaDoor
open Go.RowKit Go.Deep
set_option linter.unusedVariables false
theorem MulPre.some {w : World} {bz oz nz cz : Nat} {a1 : Option Addr} {n1 c1 : Nat} {xs : List Nat} {a2 : Option Addr} {n2 c2 : Nat} {ys : List Nat} (h : MulPre w bz oz nz cz a1 n1 c1 xs a2 n2 c2 ys) (h1 : 0 < n1) (h2 : 0 < n2) : ∃ b1 o1 b2 o2, a1 = some ⟨b1, o1, none⟩ ∧ a2 = some ⟨b2, o2, none⟩ := by
  have l1 := h.h1.len
  have l2 := h.h2.len
  rcases h.h1.cells with e | ⟨b1, o1, e1, _⟩
  · subst e; simp at l1; omega
  · rcases h.h2.cells with e | ⟨b2, o2, e2, _⟩
    · subst e; simp at l2; omega
    · exact ⟨b1, o1, b2, o2, e1, e2⟩
end Go.Proofs.YtiadccaaoenccaaDoor

namespace Go.Proofs.YtiadccaaoenccaaDoor
open Go.RowKit Go.Deep
set_option linter.unusedVariables false

end Go.Proofs.YtiadccaaoenccaaDoor
namespace Go.Proofs.YtiadccaaoenccaaDoor
open Go.RowKit Go.Deep
set_option linter.unusedVariables false
structure SlL (w : World) (a : Option Addr) (n c : Nat) (ps : List Pc) : Prop where
  len : ps.length = n
  le : n ≤ c
  cells : ps = [] ∨ ∃ b off, a = some ⟨b, off, none⟩ ∧ ∀ i p, ps[i]? = some p → w.cell? ⟨b, off + i, none⟩ = some (.slice p.a p.n p.c)
  each : ∀ p ∈ ps, Sl w p.a p.n p.c p.xs ∧ Ok p.xs

theorem SlL.below {w w' : World} {a : Option Addr} {n c : Nat} {ps : List Pc} (h : SlL w a n c ps) (k : Below w.heap.size w w') : SlL w' a n c ps := by
  refine ⟨h.len, h.le, ?_, fun p hp => ⟨(h.each p hp).1.below k, (h.each p hp).2⟩⟩
  rcases h.cells with e | ⟨b, off, e, hc⟩
  · exact .inl e
  · refine .inr ⟨b, off, e, fun i p hp => ?_⟩
    have h1 := hc i p hp
    have hb := World.block_lt_of_cell? _ _ h1
    have : w'.cell? ⟨b, off + i, none⟩ = w.cell? ⟨b, off + i, none⟩ := by unfold World.cell?; simp only; rw [k.block b hb]
    rw [this]; exact h1

theorem SlL.at' {w : World} {a : Option Addr} {n c : Nat} {ps : List Pc} (h : SlL w a n c ps) {i : Nat} (hi : i < n) :
    ∃ b off p, a = some ⟨b, off, none⟩ ∧ ps[i]? = some p ∧ w.cell? ⟨b, off + i, none⟩ = some (.slice p.a p.n p.c) ∧ Sl w p.a p.n p.c p.xs ∧ Ok p.xs := by
  have hl := h.len
  have hi' : i < ps.length := by omega
  have hp : ps[i]? = some ps[i] := List.getElem?_eq_getElem hi'
  rcases h.cells with e | ⟨b, off, e, hc⟩
  · rw [e] at hl; simp at hl; omega
  · exact ⟨b, off, ps[i], e, hp, hc i _ hp, h.each _ (List.getElem_mem hi')⟩
end Go.Proofs.YtiadccaaoenccaaDoor

namespace Go.Proofs.YtiadccaaoenccaaDoor
open Go.RowKit Go.Deep
set_option linter.unusedVariables false

end Go.Proofs.YtiadccaaoenccaaDoor

namespace Go.Proofs.YtiadccaaoenccaaDoor
open Go.RowKit Go.Deep
set_option linter.unusedVariables false

end Go.Proofs.YtiadccaaoenccaaDoor

namespace Go.Proofs.YtiadccaaoenccaaDoor
open Go.RowKit Go.Deep
set_option linter.unusedVariables false

end Go.Proofs.YtiadccaaoenccaaDoor
namespace Go.Proofs.YtiadccaaoenccaaDoor
open Go.RowKit Go.Deep
set_option linter.unusedVariables false
def sv (x s : Nat) : Nat := x * 2 ^ s
def slo (x s : Nat) : Nat := x * 2 ^ s % 4294967296
def shi (x s : Nat) : Nat := x * 2 ^ s / 4294967296

theorem pow_s {s : Nat} (h : s < 32) : 1 ≤ 2 ^ s ∧ 2 ^ s ≤ 2147483648 := by
  refine ⟨Nat.pow_pos (by decide), ?_⟩
  have : 2 ^ s ≤ 2 ^ 31 := Nat.pow_le_pow_right (by decide) (by omega)
  simpa using this

theorem pow_split {s : Nat} (h : s < 32) : 2 ^ s * 2 ^ (32 - s) = 4294967296 := by
  rw [← Nat.pow_add, show s + (32 - s) = 32 from by omega]

theorem sv_lt {x s : Nat} (hx : x < 4294967296) (h : s < 32) : sv x s < 9223372036854775808 := by
  obtain ⟨h1, h2⟩ := pow_s h
  have : x * 2 ^ s ≤ 4294967295 * 2147483648 := Nat.mul_le_mul (by omega) h2
  unfold sv
  omega

theorem sv_int {x s : Nat} (hx : x < 4294967296) (h : s < 32) : IntKind.u64.wrap ((x : Int) * 2 ^ s) = ((sv x s : Nat) : Int) := by
  have hb := sv_lt hx h
  have e : (x : Int) * 2 ^ s = ((sv x s : Nat) : Int) := by unfold sv; rw [Int.natCast_mul, Int.natCast_pow]; rfl
  rw [e, IntKind.wrap_u64]
  omega

theorem slo_int (x s : Nat) : ((sv x s : Nat) : Int) % 4294967296 = ((slo x s : Nat) : Int) := by unfold slo sv; omega
theorem shi_int (x s : Nat) : ((sv x s : Nat) : Int) / 4294967296 = ((shi x s : Nat) : Int) := by unfold shi sv; omega
theorem sh_eq (x s : Nat) : slo x s + 4294967296 * shi x s = x * 2 ^ s := by unfold slo shi; exact Nat.mod_add_div _ _
theorem slo_lt (x s : Nat) : slo x s < 4294967296 := by unfold slo; exact Nat.mod_lt _ (by decide)
theorem shi_lt {x s : Nat} (hx : x < 4294967296) (h : s < 32) : shi x s < 2 ^ s := by
  unfold shi
  obtain ⟨h1, h2⟩ := pow_s h
  rw [Nat.div_lt_iff_lt_mul (by decide), Nat.mul_comm]
  exact Nat.mul_lt_mul_of_pos_left hx (by omega)

theorem slo_mul {x s : Nat} (h : s < 32) : slo x s = 2 ^ s * (x % 2 ^ (32 - s)) := by
  unfold slo
  rw [← pow_split h, Nat.mul_comm x, Nat.mul_mod_mul_left]

theorem or_slo {o x s : Nat} (h : s < 32) (ho : o < 2 ^ s) : o ||| slo x s = o + slo x s := by
  rw [slo_mul h]
  have := Nat.shiftLeft_add_eq_or_of_lt (i := s) (b := o) ho (x % 2 ^ (32 - s))
  rw [Nat.shiftLeft_eq, Nat.mul_comm] at this
  rw [Nat.or_comm, ← this, Nat.add_comm]

theorem or_slo_lt {o x s : Nat} (h : s < 32) (ho : o < 2 ^ s) : o + slo x s < 4294967296 := by
  rw [← or_slo h ho]
  have : (o ||| slo x s) < 2 ^ 32 := Nat.or_lt_two_pow (by have := (pow_s h).2; omega) (slo_lt x s)
  exact this

def orv (o x s : Nat) : Nat := o + slo x s
theorem or_int {o x s : Nat} (h : s < 32) (ho : o < 2 ^ s) : bits .or .u32 (o : Int) ((slo x s : Nat) : Int) = ((orv o x s : Nat) : Int) := by
  rw [u32_or_nat _ _ (by have := (pow_s h).2; omega) (slo_lt x s), or_slo h ho]
  rfl

structure ShR (wr w : World) (m l s : Nat) (xs : List Nat) (i : Nat) (g : Nat → Nat) : Prop where
  fn : Fn wr w.heap.size 0 m g
  ok : ∀ k, k < m → g k < 4294967296
  top : g (l + i) < 2 ^ s
  zero : ∀ k, l + i < k → g k = 0
  val : valF g (l + i + 1) = valF (fun k => xs.getD k 0) i * 2 ^ s * 4294967296 ^ l
  bel : Below w.heap.size w wr

theorem ShR.step {wr w : World} {m l s : Nat} {xs : List Nat} {i : Nat} {g : Nat → Nat} (h : ShR wr w m l s xs i g) (hs : s < 32) (hm : l + i + 1 < m) (ox : Ok xs) :
    ShR ((wr.setCell ⟨w.heap.size, l + i, none⟩ (.int .u32 (orv (g (l + i)) (xs.getD i 0) s : Nat))).setCell ⟨w.heap.size, l + i + 1, none⟩ (.int .u32 (shi (xs.getD i 0) s : Nat))) w m l s xs (i + 1)
      (fun k => if k = l + i + 1 then shi (xs.getD i 0) s else if k = l + i then orv (g (l + i)) (xs.getD i 0) s else g k) := by
  have f1 := h.fn.set (l + i) (orv (g (l + i)) (xs.getD i 0) s) (by omega)
  have f2 := f1.set (l + i + 1) (shi (xs.getD i 0) s) hm
  simp only [Nat.zero_add] at f2
  have hh := shi_lt (ox.getD i) hs
  have hp := pow_s hs
  refine ⟨f2, ?_, ?_, ?_, ?_, (h.bel.setCell (Nat.le_refl _) _).setCell (Nat.le_refl _) _⟩
  · intro k hk
    by_cases e : k = l + i + 1
    · simp only [e, if_true]; omega
    · by_cases e2 : k = l + i
      · simp only [e2, show ¬ l + i = l + i + 1 from by omega, if_true, if_false]; exact or_slo_lt hs h.top
      · simp only [e, e2, if_false]; exact h.ok k hk
  · simp only [show l + (i + 1) = l + i + 1 from by omega, if_true]; exact hh
  · intro k hk
    simp only [show ¬ k = l + i + 1 from by omega, show ¬ k = l + i from by omega, if_false]
    exact h.zero k (by omega)
  · have e1 : l + (i + 1) + 1 = l + i + 1 + 1 := by omega
    rw [e1]
    simp only [valF]
    simp only [if_true, show ¬ l + i = l + i + 1 from by omega, if_false]
    rw [valF_congr (g := g) (fun k hk => by rw [if_neg (by omega), if_neg (by omega)])]
    have hv := h.val
    simp only [valF] at hv
    have e := sh_eq (xs.getD i 0) s
    have e2 : orv (g (l + i)) (xs.getD i 0) s = g (l + i) + slo (xs.getD i 0) s := rfl
    rw [e2, Nat.mul_add, Nat.pow_succ, Nat.add_mul, Nat.add_mul, ← hv]
    have e3 : 4294967296 ^ (l + i) * slo (xs.getD i 0) s + 4294967296 ^ (l + i) * 4294967296 * shi (xs.getD i 0) s = 4294967296 ^ i * xs.getD i 0 * 2 ^ s * 4294967296 ^ l := by
      rw [Nat.mul_assoc, ← Nat.mul_add, e, Nat.pow_add]
      rw [Nat.mul_comm (4294967296 ^ l), Nat.mul_assoc, Nat.mul_comm (4294967296 ^ l), ← Nat.mul_assoc, ← Nat.mul_assoc]
    generalize 4294967296 ^ (l + i) * slo (xs.getD i 0) s = t1 at *
    generalize 4294967296 ^ (l + i) * 4294967296 * shi (xs.getD i 0) s = t2 at *
    generalize 4294967296 ^ i * xs.getD i 0 * 2 ^ s * 4294967296 ^ l = t3 at *
    generalize 4294967296 ^ (l + i) * g (l + i) = t4 at *
    omega

theorem ShR.begin (w : World) (m l s : Nat) (xs : List Nat) (hs : s < 32) : ShR (w.alloc (.cells (madeCells #[.int .u32 0] m) 74)) w m l s xs 0 (fun _ => 0) :=
  ⟨Fn.made w m _, fun _ _ => by decide, (pow_s hs).1, fun _ _ => rfl, by rw [valF_zero]; simp [valF], (Below.refl _ _).alloc (Nat.le_refl _) _⟩

theorem sh_total {v k l s : Nat} (hl : k / 32 = l) (hs : k % 32 = s) : v * 2 ^ s * 4294967296 ^ l = v * 2 ^ k := by
  have e : k = s + 32 * l := by omega
  have p : (4294967296 : Nat) ^ l = 2 ^ (32 * l) := by rw [Nat.pow_mul]
  rw [e, Nat.pow_add, p, Nat.mul_assoc]
theorem make_nl (n l : Nat) (h : n + l + 1 ≤ 70368744177600) (w : World) : (Instr.makeSlice 49 (.int .i64 ((n : Int) + (l : Int) + 1)) (.int .i64 ((n : Int) + (l : Int) + 1))).run Tryd.prog w = .ok (.slice (some ⟨w.heap.size, 0, none⟩) (n + l + 1) (n + l + 1)) (w.alloc (.cells (madeCells #[.int .u32 0] (n + l + 1)) 74)) := by
  have := make_len (n + l + 1) h w
  rw [show ((n + l + 1 : Nat) : Int) = (n : Int) + (l : Int) + 1 from by omega] at this
  exact this

set_option maxHeartbeats 2000000 in
theorem shl_some (b off n c : Nat) (xs : List Nat) (w : World) (k l s : Nat) (hl : xs.length = n) (hc : Cells w b off xs) (ox : Ok xs) (hkl : (k:Int) / 32 = (l:Int)) (hks : (k:Int) % 32 = (s:Int)) (hs32 : s < 32) (hk0 : k ≤ 65536) (hl0 : l ≤ 2048) (hn : 0 < n) (hn2 : n ≤ 2048) :
    Calls Tryd.prog 91 #[.slice (some ⟨b, off, none⟩) n c, .int .i64 (k : Nat)] w fun e w' => NewRep w w' (val xs * 2 ^ k) e := by
  have hmk := fun w => make_nl n l (by omega) w
  have hne : ((n:Int) == 0) = false := by simp; omega
  have HL := hide hl
  have HT := hide (sh_total (v := val xs) (k := k) (l := l) (s := s) (by omega) (by omega))
  clear hl
  go_enter Tryd.func91, Tryd.ntmps91
  go_wp2_with fail
  rw [hks]
  clear hkl hks hk0
  go_loopw [25] (fun i wr => ∃ j : Nat, ∃ g : Nat → Nat, j ≤ n ∧ i = .int .i64 j ∧ ShR wr w (n + l + 1) l s xs j g) (fun i _ => n - (intOf i).toNat)
  case atStart => exact ⟨0, _, Nat.zero_le _, rfl, ShR.begin w (n + l + 1) l s xs hs32⟩
  case round =>
    obtain ⟨j, g, hj, rfl, hR⟩ := hrel
    by_cases hlt : j < n
    · have hlt' : (j:Int) < (n:Int) := by omega
      have hb1 : (l:Int) + (j:Int) < (n:Int) + (l:Int) + 1 := by omega
      have hb2 : (l:Int) + (j:Int) + 1 < (n:Int) + (l:Int) + 1 := by omega
      have g0 := hc j (by rw [unhide HL]; exact hlt)
      have g1 : wr.cell? ⟨b, off + j, none⟩ = _ := (hR.bel.cell (World.block_lt_of_cell? _ _ g0)).trans g0
      have g2 := hR.fn (l + j) (by omega)
      have g3 := hR.fn (l + j + 1) (by omega)
      simp only [Nat.zero_add] at g2 g3
      have c1 := g2.1
      have c2 := g2.2
      have c3 := g3.1
      have c4 := g3.2
      have bx := ox.getD j
      have e0 := sv_int (x := xs.getD j 0) (s := s) bx hs32
      have e1 := slo_int (xs.getD j 0) s
      have e2 := shi_int (xs.getD j 0) s
      have e3 := or_int (x := xs.getD j 0) hs32 hR.top
      have b1 := sv_lt (x := xs.getD j 0) bx hs32
      have b2 : shi (xs.getD j 0) s < 4294967296 := by have := shi_lt (x := xs.getD j 0) bx hs32; have := (pow_s hs32).2; omega
      have HS := hide (hR.step hs32 (by omega) ox)
      generalize xs.getD j 0 = x at *
      generalize g (l + j) = o at *
      generalize g (l + j + 1) = o2 at *
      clear hR g0 g2 g3
      go_wp2
      exact ⟨⟨j + 1, _, by omega, by go_num, unhide HS⟩, by simp [intOf]; omega⟩
    · have hjn : j = n := by omega
      subst hjn
      have hv : valF g (j + l + 1) = val xs * 2 ^ k := by
        have := hR.val
        rw [← unhide HL, valF_list, unhide HT, unhide HL, Nat.add_comm l j] at this
        exact this
      have KT := trim_any _ (j + l + 1) (j + l + 1) _ wr (hR.fn.sl (Nat.le_refl _) (by unfold maxLen; omega)) (lst_ok hR.ok)
      rw [lst_val, hv] at KT
      have KT' := hide KT
      have HB := hide hR.bel
      clear hR KT hv
      go_wp2_with fail
      refine (unhide KT').mono ?_
      rintro e w3 ⟨a', m, zs, rfl, hs, hr, ha, rfl⟩
      go_wp2
      go_ret
      refine ⟨a', m, zs, rfl, hs, hr, ?_, unhide HB⟩
      intro x hx
      rcases ha with rfl | rfl
      · cases hx; exact Nat.le_refl _
      · cases hx

set_option maxHeartbeats 400000 in
theorem shl_nil (a : Option Addr) (c : Nat) (k : Int) (w : World) :
    Calls Tryd.prog 91 #[.slice a 0 c, .int .i64 k] w fun e w' => e = .returned (.slice none 0 0) ∧ w' = w := by
  go_enter Tryd.func91, Tryd.ntmps91
  go_wp2
  go_ret
  exact ⟨rfl, rfl⟩

theorem shl_any (a : Option Addr) (n c : Nat) (xs : List Nat) (w : World) (k : Nat) (h : Sl w a n c xs) (ox : Ok xs) (hn : n ≤ 2048) (hk : k ≤ 65536) :
    Calls Tryd.prog 91 #[.slice a n c, .int .i64 (k : Nat)] w fun e w' => NewRep w w' (val xs * 2 ^ k) e := by
  by_cases h0 : xs = []
  · have hl := h.len
    subst h0
    simp at hl
    subst hl
    refine (shl_nil a c k w).mono ?_
    rintro e w' ⟨rfl, rfl⟩
    exact ⟨none, 0, [], rfl, sl_nil _, ⟨Ok.nil, .inl rfl, by simp [val]⟩, newAt_nil _, Below.refl _ _⟩
  · have hp : 0 < xs.length := List.length_pos_iff.2 h0
    rcases h.cells with e | ⟨b, off, rfl, hc⟩
    · exact absurd e h0
    · exact shl_some b off n c xs w k (k / 32) (k % 32) h.len hc ox (by omega) (by omega) (by omega) hk (by omega) (by have := h.len; omega) hn
end Go.Proofs.YtiadccaaoenccaaDoor
