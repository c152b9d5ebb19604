/-
  natural.multiplyHalves: what holds between its steps.
-/
import Derived.Test.YtpnhmaenmmelnaaDoorKarP
namespace Go.Proofs.YtpnhmaenmmelnaaDoor
open Go.RowKit Go.Deep
set_option linter.unusedVariables false

/-- n limbs at a place, and their value. -/
def Part (v : World) (b off n V : Nat) : Prop := ∃ f, Fn v b off n f ∧ (∀ i, i < n → f i < 4294967296) ∧ valF f n = V

theorem Part.upd {v v' : World} {b off n V bz lo hi : Nat} (h : Part v b off n V) (u : Upd bz lo hi v v') (hd : b ≠ bz ∨ off + n ≤ lo ∨ hi ≤ off) : Part v' b off n V := by
  obtain ⟨f, h1, h2, h3⟩ := h
  exact ⟨f, u.fn h1 hd, h2, h3⟩
theorem Part.below {v v' : World} {b off n V : Nat} (h : Part v b off n V) (u : Below v.heap.size v v') : Part v' b off n V := by
  obtain ⟨f, h1, h2, h3⟩ := h
  exact ⟨f, h1.below u, h2, h3⟩
theorem Part.sl {v : World} {b off n V c : Nat} (h : Part v b off n V) (hc : n ≤ c) (hm : c ≤ maxLen) : ∃ zs, Sl v (some ⟨b, off, none⟩) n c zs ∧ Ok zs ∧ val zs = V := by
  obtain ⟨f, h1, h2, h3⟩ := h
  exact ⟨lst f n, h1.sl hc hm, lst_ok h2, (lst_val f n).trans h3⟩

/-- What stays from the two halves' products on. -/
structure HalfZ (v w : World) (bz oz nz h L H b1 o1 n1 c1 b2 o2 n2 c2 : Nat) (xs ys : List Nat) : Prop where
  lo : Part v bz oz (2 * h) L
  hi : Part v bz (oz + 2 * h) (nz - 2 * h) H
  upd : Upd bz oz (oz + nz) w v
  sa : Sl v (some ⟨b1, o1, none⟩) n1 c1 xs
  sb : Sl v (some ⟨b2, o2, none⟩) n2 c2 ys

theorem HalfZ.keep {v v' w : World} {bz oz nz h L H b1 o1 n1 c1 b2 o2 n2 c2 : Nat} {xs ys : List Nat} (z : HalfZ v w bz oz nz h L H b1 o1 n1 c1 b2 o2 n2 c2 xs ys) {R lo hi : Nat} (u : Upd R lo hi v v') (hR : bz ≠ R) (h1 : b1 ≠ R) (h2 : b2 ≠ R) (hbz : bz < v.heap.size) (hw : w.heap.size ≤ R) : HalfZ v' w bz oz nz h L H b1 o1 n1 c1 b2 o2 n2 c2 xs ys := by
  have eb := u.block bz hbz hR
  refine ⟨z.lo.upd u (.inl hR), z.hi.upd u (.inl hR), ⟨u.os.trans z.upd.os, u.tape.trans z.upd.tape, u.output.trans z.upd.output, Nat.le_trans z.upd.size u.size, ?_, ?_, ?_⟩, z.sa.upd u (.inl h1), z.sb.upd u (.inl h2)⟩
  · intro k hk hb
    rw [u.block k (Nat.lt_of_lt_of_le hk z.upd.size) (by omega)]
    exact z.upd.block k hk hb
  · intro i hi
    rw [World.cell?_of_block (w := v) (a := ⟨bz, i, none⟩) eb]
    exact z.upd.cell i hi
  · intro i
    rw [World.frozen?_of_block (w := v) (a := ⟨bz, i, none⟩) eb]
    exact z.upd.froz i

theorem HalfZ.below {v v' w : World} {bz oz nz h L H b1 o1 n1 c1 b2 o2 n2 c2 : Nat} {xs ys : List Nat} (z : HalfZ v w bz oz nz h L H b1 o1 n1 c1 b2 o2 n2 c2 xs ys) (hbz : bz < v.heap.size) (u : Below v.heap.size v v') : HalfZ v' w bz oz nz h L H b1 o1 n1 c1 b2 o2 n2 c2 xs ys :=
  ⟨z.lo.below u, z.hi.below u, z.upd.trans (.of_below hbz u), z.sa.below u, z.sb.below u⟩

theorem take_drop0 (xs : List Nat) (h : Nat) : (xs.drop 0).take h = xs.take h := by simp
theorem drop_all {xs : List Nat} {n h : Nat} (hl : xs.length = n) : (xs.drop h).take (n - h) = xs.drop h := by
  apply List.take_of_length_le
  simp; omega

/-- The first product. -/
theorem half_lo {N bz oz nz cz b1 o1 n1 c1 b2 o2 n2 c2 h : Nat} {xs ys : List Nat} {w : World} (p : MulPre w bz oz nz cz (some ⟨b1, o1, none⟩) n1 c1 xs (some ⟨b2, o2, none⟩) n2 c2 ys) (hx : xs ≠ []) (hy : ys ≠ []) (IH : MI N) (hN : n1 + n2 ≤ N + 1) (h48 : 48 ≤ n2) (hle : n2 ≤ n1) (hh1 : 2 * h ≤ n1 + 1) (hh2 : h < n2) (hbig : nz ≤ 1000000000) (q : Nat) :
    Calls Tryd.prog 90 #[.slice (some ⟨bz, oz, none⟩) (2 * h) (2 * h), .slice (some ⟨b1, o1, none⟩) h h, .slice (some ⟨b2, o2, none⟩) h h] (w.drewN q) fun e w' => e = .returned (.tuple #[]) ∧ Part w' bz oz (2 * h) (val (xs.take h) * val (ys.take h)) ∧ Upd bz oz (oz + 2 * h) w w' := by
  have hl1 := p.h1.len
  have hl2 := p.h2.len
  have s1 := p.s1 _ rfl hx
  have s2 := p.s2 _ rfl hy
  have hnz := p.hnz
  have A := (p.h1.part 0 h h (by omega) (Nat.le_refl _) (by unfold maxLen; omega)).drewN q
  have B := (p.h2.part 0 h h (by omega) (Nat.le_refl _) (by unfold maxLen; omega)).drewN q
  rw [Nat.add_zero, take_drop0] at A B
  have hz := p.hz.part 0 (2 * h) (by omega)
  rw [Nat.add_zero] at hz
  have pre : MulPre (w.drewN q) bz oz (2 * h) (2 * h) (some ⟨b1, o1, none⟩) h h (xs.take h) (some ⟨b2, o2, none⟩) h h (ys.take h) := by
    refine ⟨A, B, ?_, ?_, p.ox.take h, p.oy.take h, hz, by omega, Nat.le_refl _, by unfold maxLen; omega⟩
    · intro x hx _
      cases hx
      have : (xs.take h).length = h := by simp; omega
      rw [this]
      simp only at s1 ⊢
      omega
    · intro x hx _
      cases hx
      have : (ys.take h).length = h := by simp; omega
      rw [this]
      simp only at s2 ⊢
      omega
  refine (IH _ bz oz (2 * h) (2 * h) _ h h _ _ h h _ (by omega) pre).mono ?_
  rintro e w' ⟨rfl, f, h1, h2, h3, h4⟩
  exact ⟨rfl, ⟨f, h1, h2, h3⟩, ((Upd.refl _ _ _ w).drewN q).trans h4⟩

/-- The second. -/
theorem half_hi {N bz oz nz cz b1 o1 n1 c1 b2 o2 n2 c2 h : Nat} {xs ys : List Nat} {w w1 : World} (p : MulPre w bz oz nz cz (some ⟨b1, o1, none⟩) n1 c1 xs (some ⟨b2, o2, none⟩) n2 c2 ys) (hx : xs ≠ []) (hy : ys ≠ []) (IH : MI N) (hN : n1 + n2 ≤ N + 1) (h48 : 48 ≤ n2) (hle : n2 ≤ n1) (hh1 : 2 * h ≤ n1 + 1) (hh0 : n1 ≤ 2 * h) (hh2 : h < n2) (hbig : nz ≤ 1000000000)
    (lo : Part w1 bz oz (2 * h) (val (xs.take h) * val (ys.take h))) (u : Upd bz oz (oz + 2 * h) w w1) :
    Calls Tryd.prog 90 #[.slice (some ⟨bz, oz + 2 * h, none⟩) (nz - 2 * h) (nz - 2 * h), .slice (some ⟨b1, o1 + h, none⟩) (n1 - h) (n1 - h), .slice (some ⟨b2, o2 + h, none⟩) (n2 - h) (n2 - h)] w1 fun e w' => e = .returned (.tuple #[]) ∧
      HalfZ w' w bz oz nz h (val (xs.take h) * val (ys.take h)) (val (xs.drop h) * val (ys.drop h)) b1 o1 n1 c1 b2 o2 n2 c2 xs ys := by
  have hl1 := p.h1.len
  have hl2 := p.h2.len
  have s1 := p.s1 _ rfl hx
  have s2 := p.s2 _ rfl hy
  simp only at s1 s2
  have hnz := p.hnz
  have u' : Upd bz oz (oz + nz) w w1 := u.mono (Nat.le_refl _) (by omega)
  have A0 := p.h1.upd u' (by omega)
  have B0 := p.h2.upd u' (by omega)
  have A := A0.part h (n1 - h) (n1 - h) (by omega) (Nat.le_refl _) (by unfold maxLen; omega)
  have B := B0.part h (n2 - h) (n2 - h) (by omega) (Nat.le_refl _) (by unfold maxLen; omega)
  rw [drop_all hl1] at A
  rw [drop_all hl2] at B
  have hz : Fn w1 bz (oz + 2 * h) (nz - 2 * h) (fun _ => 0) := u.fn (p.hz.part (2 * h) (nz - 2 * h) (by omega)) (.inr (.inr (Nat.le_refl _)))
  have pre : MulPre w1 bz (oz + 2 * h) (nz - 2 * h) (nz - 2 * h) (some ⟨b1, o1 + h, none⟩) (n1 - h) (n1 - h) (xs.drop h) (some ⟨b2, o2 + h, none⟩) (n2 - h) (n2 - h) (ys.drop h) := by
    refine ⟨A, B, ?_, ?_, p.ox.drop h, p.oy.drop h, hz, by omega, Nat.le_refl _, by unfold maxLen; omega⟩
    · intro x hx _
      cases hx
      have : (xs.drop h).length = n1 - h := by simp; omega
      rw [this]
      simp only
      omega
    · intro x hx _
      cases hx
      have : (ys.drop h).length = n2 - h := by simp; omega
      rw [this]
      simp only
      omega
  refine (IH _ bz (oz + 2 * h) (nz - 2 * h) (nz - 2 * h) _ (n1 - h) (n1 - h) _ _ (n2 - h) (n2 - h) _ (by omega) pre).mono ?_
  rintro e w' ⟨rfl, f, h1, h2, h3, h4⟩
  have h4' : Upd bz oz (oz + nz) w1 w' := h4.mono (by omega) (by omega)
  exact ⟨rfl, lo.upd h4 (.inr (.inl (Nat.le_refl _))), ⟨f, h1, h2, h3⟩, u'.trans h4', A0.upd h4' (by omega), B0.upd h4' (by omega)⟩

/-- The crossed part. -/
theorem kar_mid (X0 X1 Y0 Y1 : Nat) : (X0 + X1) * (Y0 + Y1) = X0 * Y1 + X1 * Y0 + X0 * Y0 + X1 * Y1 := by
  rw [Nat.add_mul, Nat.mul_add, Nat.mul_add]
  omega

theorem kar_all (P X0 X1 Y0 Y1 : Nat) : (X0 + P * X1) * (Y0 + P * Y1) = X0 * Y0 + P * (X0 * Y1 + X1 * Y0) + P * P * (X1 * Y1) := by
  rw [Nat.add_mul, Nat.mul_add, Nat.mul_add, Nat.mul_add]
  have e1 : X0 * (P * Y1) = P * (X0 * Y1) := Nat.mul_left_comm _ _ _
  have e2 : P * X1 * Y0 = P * (X1 * Y0) := Nat.mul_assoc _ _ _
  have e3 : P * X1 * (P * Y1) = P * P * (X1 * Y1) := by rw [Nat.mul_assoc, Nat.mul_left_comm X1, ← Nat.mul_assoc]
  rw [e1, e2, e3]
  omega
end Go.Proofs.YtpnhmaenmmelnaaDoor
