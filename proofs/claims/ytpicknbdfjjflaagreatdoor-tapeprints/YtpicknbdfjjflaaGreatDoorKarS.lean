/- KarS -/
import Derived.Test.YtpicknbdfjjflaaGreatDoorKarP
namespace Go.Proofs.YtpicknbdfjjflaaGreatDoor
open Go.RowKit Go.Deep
set_option linter.unusedVariables false
def Part (v : World) (b off n V : Nat) : Prop := ∃ f, Fn v b off n f ∧ (∀ i, i < n → f i < 4294967296) ∧ valF f n = V

theorem Part.upd {v v' : World} {b off n V bz lo hi : Nat} (h : Part v b off n V) (u : Upd bz lo hi v v') (hd : b ≠ bz ∨ off + n ≤ lo ∨ hi ≤ off) : Part v' b off n V := by
  obtain ⟨f, h1, h2, h3⟩ := h
  exact ⟨f, u.fn h1 hd, h2, h3⟩
theorem Part.below {v v' : World} {b off n V : Nat} (h : Part v b off n V) (u : Below v.heap.size v v') : Part v' b off n V := by
  obtain ⟨f, h1, h2, h3⟩ := h
  exact ⟨f, h1.below u, h2, h3⟩
theorem Part.sl {v : World} {b off n V c : Nat} (h : Part v b off n V) (hc : n ≤ c) (hm : c ≤ maxLen) : ∃ zs, Sl v (some ⟨b, off, none⟩) n c zs ∧ Ok zs ∧ val zs = V := by
  obtain ⟨f, h1, h2, h3⟩ := h
  exact ⟨lst f n, h1.sl hc hm, lst_ok h2, (lst_val f n).trans h3⟩

structure HalfZ (v w : World) (bz oz nz h L H b1 o1 n1 c1 b2 o2 n2 c2 : Nat) (xs ys : List Nat) : Prop where
  lo : Part v bz oz (2 * h) L
  hi : Part v bz (oz + 2 * h) (nz - 2 * h) H
  upd : Upd bz oz (oz + nz) w v
  sa : Sl v (some ⟨b1, o1, none⟩) n1 c1 xs
  sb : Sl v (some ⟨b2, o2, none⟩) n2 c2 ys

theorem HalfZ.keep {v v' w : World} {bz oz nz h L H b1 o1 n1 c1 b2 o2 n2 c2 : Nat} {xs ys : List Nat} (z : HalfZ v w bz oz nz h L H b1 o1 n1 c1 b2 o2 n2 c2 xs ys) {R lo hi : Nat} (u : Upd R lo hi v v') (hR : bz ≠ R) (h1 : b1 ≠ R) (h2 : b2 ≠ R) (hbz : bz < v.heap.size) (hw : w.heap.size ≤ R) : HalfZ v' w bz oz nz h L H b1 o1 n1 c1 b2 o2 n2 c2 xs ys := by
  have eb := u.block bz hbz hR
  refine ⟨z.lo.upd u (.inl hR), z.hi.upd u (.inl hR), ⟨u.os.trans z.upd.os, u.tape.trans z.upd.tape, u.output.trans z.upd.output, Nat.le_trans z.upd.size u.size, ?_, ?_, ?_⟩, z.sa.upd u (.inl h1), z.sb.upd u (.inl h2)⟩
  · intro k hk hb
    rw [u.block k (Nat.lt_of_lt_of_le hk z.upd.size) (by omega)]
    exact z.upd.block k hk hb
  · intro i hi
    rw [World.cell?_of_block (w := v) (a := ⟨bz, i, none⟩) eb]
    exact z.upd.cell i hi
  · intro i
    rw [World.frozen?_of_block (w := v) (a := ⟨bz, i, none⟩) eb]
    exact z.upd.froz i

theorem HalfZ.below {v v' w : World} {bz oz nz h L H b1 o1 n1 c1 b2 o2 n2 c2 : Nat} {xs ys : List Nat} (z : HalfZ v w bz oz nz h L H b1 o1 n1 c1 b2 o2 n2 c2 xs ys) (hbz : bz < v.heap.size) (u : Below v.heap.size v v') : HalfZ v' w bz oz nz h L H b1 o1 n1 c1 b2 o2 n2 c2 xs ys :=
  ⟨z.lo.below u, z.hi.below u, z.upd.trans (.of_below hbz u), z.sa.below u, z.sb.below u⟩

theorem take_drop0 (xs : List Nat) (h : Nat) : (xs.drop 0).take h = xs.take h := by simp
theorem drop_all {xs : List Nat} {n h : Nat} (hl : xs.length = n) : (xs.drop h).take (n - h) = xs.drop h := by
  apply List.take_of_length_le
  simp; omega

theorem half_lo {N bz oz nz cz b1 o1 n1 c1 b2 o2 n2 c2 h : Nat} {xs ys : List Nat} {w : World} (p : MulPre w bz oz nz cz (some ⟨b1, o1, none⟩) n1 c1 xs (some ⟨b2, o2, none⟩) n2 c2 ys) (hx : xs ≠ []) (hy : ys ≠ []) (IH : MI N) (hN : n1 + n2 ≤ N + 1) (h48 : 48 ≤ n2) (hle : n2 ≤ n1) (hh1 : 2 * h ≤ n1 + 1) (hh2 : h < n2) (hbig : nz ≤ 1000000000) (q : Nat) :
    Calls Tryz.prog 146 #[.slice (some ⟨bz, oz, none⟩) (2 * h) (2 * h), .slice (some ⟨b1, o1, none⟩) h h, .slice (some ⟨b2, o2, none⟩) h h] (w.drewN q) fun e w' => e = .returned (.tuple #[]) ∧ Part w' bz oz (2 * h) (val (xs.take h) * val (ys.take h)) ∧ Upd bz oz (oz + 2 * h) w w' := by
  have hl1 := p.h1.len
  have hl2 := p.h2.len
  have s1 := p.s1 _ rfl hx
  have s2 := p.s2 _ rfl hy
  have hnz := p.hnz
  have A := (p.h1.part 0 h h (by omega) (Nat.le_refl _) (by unfold maxLen; omega)).drewN q
  have B := (p.h2.part 0 h h (by omega) (Nat.le_refl _) (by unfold maxLen; omega)).drewN q
  rw [Nat.add_zero, take_drop0] at A B
  have hz := p.hz.part 0 (2 * h) (by omega)
  rw [Nat.add_zero] at hz
  have pre : MulPre (w.drewN q) bz oz (2 * h) (2 * h) (some ⟨b1, o1, none⟩) h h (xs.take h) (some ⟨b2, o2, none⟩) h h (ys.take h) := by
    refine ⟨A, B, ?_, ?_, p.ox.take h, p.oy.take h, hz, by omega, Nat.le_refl _, by unfold maxLen; omega⟩
    · intro x hx _
      cases hx
      have : (xs.take h).length = h := by simp; omega
      rw [this]
      simp only at s1 ⊢
      omega
    · intro x hx _
      cases hx
      have : (ys.take h).length = h := by simp; omega
      rw [this]
      simp only at s2 ⊢
      omega
  refine (IH _ bz oz (2 * h) (2 * h) _ h h _ _ h h _ (by omega) pre).mono ?_
  rintro e w' ⟨rfl, f, h1, h2, h3, h4⟩
  exact ⟨rfl, ⟨f, h1, h2, h3⟩, ((Upd.refl _ _ _ w).drewN q).trans h4⟩

theorem half_hi {N bz oz nz cz b1 o1 n1 c1 b2 o2 n2 c2 h : Nat} {xs ys : List Nat} {w w1 : World} (p : MulPre w bz oz nz cz (some ⟨b1, o1, none⟩) n1 c1 xs (some ⟨b2, o2, none⟩) n2 c2 ys) (hx : xs ≠ []) (hy : ys ≠ []) (IH : MI N) (hN : n1 + n2 ≤ N + 1) (h48 : 48 ≤ n2) (hle : n2 ≤ n1) (hh1 : 2 * h ≤ n1 + 1) (hh0 : n1 ≤ 2 * h) (hh2 : h < n2) (hbig : nz ≤ 1000000000)
    (lo : Part w1 bz oz (2 * h) (val (xs.take h) * val (ys.take h))) (u : Upd bz oz (oz + 2 * h) w w1) :
    Calls Tryz.prog 146 #[.slice (some ⟨bz, oz + 2 * h, none⟩) (nz - 2 * h) (nz - 2 * h), .slice (some ⟨b1, o1 + h, none⟩) (n1 - h) (n1 - h), .slice (some ⟨b2, o2 + h, none⟩) (n2 - h) (n2 - h)] w1 fun e w' => e = .returned (.tuple #[]) ∧
      HalfZ w' w bz oz nz h (val (xs.take h) * val (ys.take h)) (val (xs.drop h) * val (ys.drop h)) b1 o1 n1 c1 b2 o2 n2 c2 xs ys := by
  have hl1 := p.h1.len
  have hl2 := p.h2.len
  have s1 := p.s1 _ rfl hx
  have s2 := p.s2 _ rfl hy
  simp only at s1 s2
  have hnz := p.hnz
  have u' : Upd bz oz (oz + nz) w w1 := u.mono (Nat.le_refl _) (by omega)
  have A0 := p.h1.upd u' (by omega)
  have B0 := p.h2.upd u' (by omega)
  have A := A0.part h (n1 - h) (n1 - h) (by omega) (Nat.le_refl _) (by unfold maxLen; omega)
  have B := B0.part h (n2 - h) (n2 - h) (by omega) (Nat.le_refl _) (by unfold maxLen; omega)
  rw [drop_all hl1] at A
  rw [drop_all hl2] at B
  have hz : Fn w1 bz (oz + 2 * h) (nz - 2 * h) (fun _ => 0) := u.fn (p.hz.part (2 * h) (nz - 2 * h) (by omega)) (.inr (.inr (Nat.le_refl _)))
  have pre : MulPre w1 bz (oz + 2 * h) (nz - 2 * h) (nz - 2 * h) (some ⟨b1, o1 + h, none⟩) (n1 - h) (n1 - h) (xs.drop h) (some ⟨b2, o2 + h, none⟩) (n2 - h) (n2 - h) (ys.drop h) := by
    refine ⟨A, B, ?_, ?_, p.ox.drop h, p.oy.drop h, hz, by omega, Nat.le_refl _, by unfold maxLen; omega⟩
    · intro x hx _
      cases hx
      have : (xs.drop h).length = n1 - h := by simp; omega
      rw [this]
      simp only
      omega
    · intro x hx _
      cases hx
      have : (ys.drop h).length = n2 - h := by simp; omega
      rw [this]
      simp only
      omega
  refine (IH _ bz (oz + 2 * h) (nz - 2 * h) (nz - 2 * h) _ (n1 - h) (n1 - h) _ _ (n2 - h) (n2 - h) _ (by omega) pre).mono ?_
  rintro e w' ⟨rfl, f, h1, h2, h3, h4⟩
  have h4' : Upd bz oz (oz + nz) w1 w' := h4.mono (by omega) (by omega)
  exact ⟨rfl, lo.upd h4 (.inr (.inl (Nat.le_refl _))), ⟨f, h1, h2, h3⟩, u'.trans h4', A0.upd h4' (by omega), B0.upd h4' (by omega)⟩

theorem kar_mid (X0 X1 Y0 Y1 : Nat) : (X0 + X1) * (Y0 + Y1) = X0 * Y1 + X1 * Y0 + X0 * Y0 + X1 * Y1 := by
  rw [Nat.add_mul, Nat.mul_add, Nat.mul_add]
  omega

theorem kar_all (P X0 X1 Y0 Y1 : Nat) : (X0 + P * X1) * (Y0 + P * Y1) = X0 * Y0 + P * (X0 * Y1 + X1 * Y0) + P * P * (X1 * Y1) := by
  rw [Nat.add_mul, Nat.mul_add, Nat.mul_add, Nat.mul_add]
  have e1 : X0 * (P * Y1) = P * (X0 * Y1) := Nat.mul_left_comm _ _ _
  have e2 : P * X1 * Y0 = P * (X1 * Y0) := Nat.mul_assoc _ _ _
  have e3 : P * X1 * (P * Y1) = P * P * (X1 * Y1) := by rw [Nat.mul_assoc, Nat.mul_left_comm X1, ← Nat.mul_assoc]
  rw [e1, e2, e3]
  omega
open Go.RowKit Go.Deep
set_option linter.unusedVariables false

structure HalfS (v w : World) (bz oz nz h L H b1 o1 n1 c1 b2 o2 n2 c2 : Nat) (xs ys : List Nat) (R A B C : Nat) : Prop where
  z : HalfZ v w bz oz nz h L H b1 o1 n1 c1 b2 o2 n2 c2 xs ys
  pa : Part v R 0 (h + 1) A
  pb : Part v R (h + 1) (h + 1) B
  pc : Part v R (2 * (h + 1)) (2 * (h + 1)) C
  rz : bz < R
  r1 : b1 < R
  r2 : b2 < R
  rw : w.heap.size ≤ R
  rv : R < v.heap.size

theorem valF_eq_zero {f : Nat → Nat} : ∀ {n : Nat}, valF f n = 0 → ∀ i, i < n → f i = 0
  | 0, _, i, hi => by omega
  | n + 1, h, i, hi => by
    simp only [valF] at h
    have h1 : valF f n = 0 := by omega
    have h2 : 4294967296 ^ n * f n = 0 := by omega
    have h3 : f n = 0 := by
      rcases Nat.mul_eq_zero.1 h2 with e | e
      · have := pow_pos n; omega
      · exact e
    by_cases e : i = n
    · subst e; exact h3
    · exact valF_eq_zero h1 i (by omega)

theorem Part.zero {v : World} {b off n : Nat} (h : Part v b off n 0) : Fn v b off n (fun _ => 0) := by
  obtain ⟨f, h1, _, h3⟩ := h
  exact h1.congr (fun i hi => valF_eq_zero h3 i hi)

theorem Part.of_zero {v : World} {b off n : Nat} (h : Fn v b off n (fun _ => 0)) : Part v b off n 0 := ⟨_, h, fun _ _ => by decide, valF_zero n⟩

theorem wpList_copy_part {w : World} {ops : Array Oper} {rest : List Oper} {o : Oper} {a : Act} {Q : Exit → Act → World → Prop} (hgd : o.guard = none) (d s : Operand)
    (ho : o.op = .call { callee := .builtin .copy, args := #[d, s], argTypes := #[50, 50] })
    (b off dLen dCap : Nat) (sp : Option Addr) (sLen sCap : Nat) (hd : a.eval d = .slice (some ⟨b, off, none⟩) dLen dCap) (hs : a.eval s = .slice sp sLen sCap)
    (hf : Part w b off dLen 0) (xs : List Nat) (hx : Sl w sp sLen sCap xs) (ok : Ok xs) (hle : sLen ≤ dLen)
    (h : ∀ w', Upd b off (off + dLen) w w' → Part w' b off dLen (val xs) → wpList Tryz.prog ops Q rest (a.put o.dst (goInt xs.length)) w') : wpList Tryz.prog ops Q (o :: rest) a w := by
  have hl := hx.len
  have F := hf.zero
  refine wpList_copy_row hgd d s ho b off dLen dCap sp sLen sCap hd hs _ F xs hx hle (h _ ?_ ?_)
  · exact Upd.setCells b off (off + dLen) (vals xs) off w (Nat.le_refl _) (by simp [vals]; omega)
  · exact ⟨_, F.copied xs (by omega), fun i _ => getD_lt (f := fun _ => 0) ok i, valF_pad xs dLen (by omega)⟩

section
variable {v w : World} {bz oz nz h L H b1 o1 n1 c1 b2 o2 n2 c2 : Nat} {xs ys : List Nat} {R A B C : Nat}

theorem HalfS.drewN (s : HalfS v w bz oz nz h L H b1 o1 n1 c1 b2 o2 n2 c2 xs ys R A B C) (q : Nat) : HalfS (v.drewN q) w bz oz nz h L H b1 o1 n1 c1 b2 o2 n2 c2 xs ys R A B C :=
  have u : Below v.heap.size v (v.drewN q) := bel_drewN (Below.refl _ _) q
  ⟨s.z.below (Nat.lt_trans s.rz s.rv) u, s.pa.below u, s.pb.below u, s.pc.below u, s.rz, s.r1, s.r2, s.rw, s.rv⟩

theorem HalfS.start (z : HalfZ v w bz oz nz h L H b1 o1 n1 c1 b2 o2 n2 c2 xs ys) (hbz : bz < v.heap.size) (hb1 : b1 < v.heap.size) (hb2 : b2 < v.heap.size) (e : TypeId) :
    HalfS (v.alloc (.cells (madeCells #[.int .u32 0] (4 * (h + 1))) e)) w bz oz nz h L H b1 o1 n1 c1 b2 o2 n2 c2 xs ys v.heap.size 0 0 0 := by
  have bel := (Below.refl v.heap.size v).alloc (Nat.le_refl _) (.cells (madeCells #[.int .u32 0] (4 * (h + 1))) e)
  have F := Fn.made v (4 * (h + 1)) e
  have Fa := F.part 0 (h + 1) (by omega)
  have Fb := F.part (h + 1) (h + 1) (by omega)
  have Fc := F.part (2 * (h + 1)) (2 * (h + 1)) (by omega)
  rw [Nat.zero_add] at Fa Fb Fc
  exact ⟨z.below hbz bel, .of_zero Fa, .of_zero Fb, .of_zero Fc, hbz, hb1, hb2, z.upd.size, by simp⟩

theorem HalfS.setA {v' : World} (s : HalfS v w bz oz nz h L H b1 o1 n1 c1 b2 o2 n2 c2 xs ys R A B C) {A' : Nat} (u : Upd R 0 (0 + (h + 1)) v v') (p : Part v' R 0 (h + 1) A') : HalfS v' w bz oz nz h L H b1 o1 n1 c1 b2 o2 n2 c2 xs ys R A' B C :=
  ⟨s.z.keep u (Nat.ne_of_lt s.rz) (Nat.ne_of_lt s.r1) (Nat.ne_of_lt s.r2) (Nat.lt_trans s.rz s.rv) s.rw, p, s.pb.upd u (.inr (.inr (by omega))), s.pc.upd u (.inr (.inr (by omega))), s.rz, s.r1, s.r2, s.rw, Nat.lt_of_lt_of_le s.rv u.size⟩

theorem HalfS.setB {v' : World} (s : HalfS v w bz oz nz h L H b1 o1 n1 c1 b2 o2 n2 c2 xs ys R A B C) {B' : Nat} (u : Upd R (h + 1) (h + 1 + (h + 1)) v v') (p : Part v' R (h + 1) (h + 1) B') : HalfS v' w bz oz nz h L H b1 o1 n1 c1 b2 o2 n2 c2 xs ys R A B' C :=
  ⟨s.z.keep u (Nat.ne_of_lt s.rz) (Nat.ne_of_lt s.r1) (Nat.ne_of_lt s.r2) (Nat.lt_trans s.rz s.rv) s.rw, s.pa.upd u (.inr (.inl (by omega))), p, s.pc.upd u (.inr (.inr (by omega))), s.rz, s.r1, s.r2, s.rw, Nat.lt_of_lt_of_le s.rv u.size⟩

theorem HalfS.setC {v' : World} (s : HalfS v w bz oz nz h L H b1 o1 n1 c1 b2 o2 n2 c2 xs ys R A B C) {C' : Nat} (u : Upd R (2 * (h + 1)) (2 * (h + 1) + 2 * (h + 1)) v v') (p : Part v' R (2 * (h + 1)) (2 * (h + 1)) C') : HalfS v' w bz oz nz h L H b1 o1 n1 c1 b2 o2 n2 c2 xs ys R A B C' :=
  ⟨s.z.keep u (Nat.ne_of_lt s.rz) (Nat.ne_of_lt s.r1) (Nat.ne_of_lt s.r2) (Nat.lt_trans s.rz s.rv) s.rw, s.pa.upd u (.inr (.inl (by omega))), s.pb.upd u (.inr (.inl (by omega))), p, s.rz, s.r1, s.r2, s.rw, Nat.lt_of_lt_of_le s.rv u.size⟩

theorem HalfS.slA (s : HalfS v w bz oz nz h L H b1 o1 n1 c1 b2 o2 n2 c2 xs ys R A B C) (h1 : h ≤ n1) (hb : h ≤ 1000000000) : Sl v (some ⟨b1, o1, none⟩) h h (xs.take h) := by
  have := s.z.sa.part 0 h h (by omega) (Nat.le_refl _) (by unfold maxLen; omega)
  rw [Nat.add_zero, take_drop0] at this
  exact this
theorem HalfS.slB (s : HalfS v w bz oz nz h L H b1 o1 n1 c1 b2 o2 n2 c2 xs ys R A B C) (h1 : h ≤ n2) (hb : h ≤ 1000000000) : Sl v (some ⟨b2, o2, none⟩) h h (ys.take h) := by
  have := s.z.sb.part 0 h h (by omega) (Nat.le_refl _) (by unfold maxLen; omega)
  rw [Nat.add_zero, take_drop0] at this
  exact this

theorem half_less (M L H : Nat) : M + L + H - L - H = M := by omega

theorem half_sum {P X0 X1 : Nat} (h0 : X0 < P) (h1 : X1 < P) : X0 + X1 < P * 4294967296 := by
  have : P * 2 ≤ P * 4294967296 := Nat.mul_le_mul_left _ (by decide)
  omega

theorem drop_lt {xs : List Nat} (ok : Ok xs) (h m : Nat) (hl : xs.length ≤ h + m) : val (xs.drop h) < 4294967296 ^ m := by
  have := val_lt (ok.drop h)
  exact Nat.lt_of_lt_of_le this (pow_mono (by simp; omega))

theorem HalfS.addA (s : HalfS v w bz oz nz h L H b1 o1 n1 c1 b2 o2 n2 c2 xs ys R (val (xs.take h)) B C) (ox : Ok xs) (h1 : n1 ≤ 2 * h) (h2 : h ≤ n1) (hb : n1 ≤ 1000000000) :
    Calls Tryz.prog 149 #[.slice (some ⟨R, 0, none⟩) (h + 1) (h + 1), .slice (some ⟨b1, o1 + h, none⟩) (n1 - h) (n1 - h)] v fun e v' => ∃ c : Nat, e = .returned (.int .u32 (c : Nat)) ∧ HalfS v' w bz oz nz h L H b1 o1 n1 c1 b2 o2 n2 c2 xs ys R (val (xs.take h) + val (xs.drop h)) B C := by
  have hl := s.z.sa.len
  have S := s.z.sa.part h (n1 - h) (n1 - h) (by omega) (Nat.le_refl _) (by unfold maxLen; omega)
  rw [drop_all hl] at S
  obtain ⟨f, F, hf, hv⟩ := s.pa
  refine (addTo_any R 0 (h + 1) (h + 1) (n1 - h) (n1 - h) _ f _ v S (fun x hx _ => by cases hx; exact Nat.ne_of_lt s.r1) (by omega) (by unfold maxLen; omega) (ox.drop h) hf F).mono ?_
  rintro e v' ⟨f', c, rfl, _, F', hf', hval, u⟩
  rw [hv] at hval
  refine ⟨c, rfl, s.setA u ⟨f', F', hf', ?_⟩⟩
  refine (carry_zero hval ?_).2
  rw [Nat.pow_succ]
  exact half_sum (take_lt ox h (by omega)) (drop_lt ox h h (by omega))

theorem HalfS.addB (s : HalfS v w bz oz nz h L H b1 o1 n1 c1 b2 o2 n2 c2 xs ys R A (val (ys.take h)) C) (oy : Ok ys) (h1 : n2 ≤ 2 * h) (h2 : h ≤ n2) (hb : n2 ≤ 1000000000) :
    Calls Tryz.prog 149 #[.slice (some ⟨R, h + 1, none⟩) (h + 1) (h + 1), .slice (some ⟨b2, o2 + h, none⟩) (n2 - h) (n2 - h)] v fun e v' => ∃ c : Nat, e = .returned (.int .u32 (c : Nat)) ∧ HalfS v' w bz oz nz h L H b1 o1 n1 c1 b2 o2 n2 c2 xs ys R A (val (ys.take h) + val (ys.drop h)) C := by
  have hl := s.z.sb.len
  have S := s.z.sb.part h (n2 - h) (n2 - h) (by omega) (Nat.le_refl _) (by unfold maxLen; omega)
  rw [drop_all hl] at S
  obtain ⟨f, F, hf, hv⟩ := s.pb
  refine (addTo_any R (h + 1) (h + 1) (h + 1) (n2 - h) (n2 - h) _ f _ v S (fun x hx _ => by cases hx; exact Nat.ne_of_lt s.r2) (by omega) (by unfold maxLen; omega) (oy.drop h) hf F).mono ?_
  rintro e v' ⟨f', c, rfl, _, F', hf', hval, u⟩
  rw [hv] at hval
  refine ⟨c, rfl, s.setB u ⟨f', F', hf', ?_⟩⟩
  refine (carry_zero hval ?_).2
  rw [Nat.pow_succ]
  exact half_sum (take_lt oy h (by omega)) (drop_lt oy h h (by omega))

theorem HalfS.mul {N : Nat} (s : HalfS v w bz oz nz h L H b1 o1 n1 c1 b2 o2 n2 c2 xs ys R A B 0) (IH : MI N) (hN : 2 * (h + 1) ≤ N) (hb : h ≤ 1000000000) :
    Calls Tryz.prog 146 #[.slice (some ⟨R, 2 * (h + 1), none⟩) (2 * (h + 1)) (2 * (h + 1)), .slice (some ⟨R, 0, none⟩) (h + 1) (h + 1), .slice (some ⟨R, h + 1, none⟩) (h + 1) (h + 1)] v fun e v' => e = .returned (.tuple #[]) ∧ HalfS v' w bz oz nz h L H b1 o1 n1 c1 b2 o2 n2 c2 xs ys R A B (A * B) := by
  obtain ⟨ls, sa, oa, va⟩ := s.pa.sl (c := h + 1) (Nat.le_refl _) (by unfold maxLen; omega)
  obtain ⟨bs, sb, ob, vb⟩ := s.pb.sl (c := h + 1) (Nat.le_refl _) (by unfold maxLen; omega)
  have la := sa.len
  have lb := sb.len
  have pre : MulPre v R (2 * (h + 1)) (2 * (h + 1)) (2 * (h + 1)) (some ⟨R, 0, none⟩) (h + 1) (h + 1) ls (some ⟨R, h + 1, none⟩) (h + 1) (h + 1) bs := by
    refine ⟨sa, sb, ?_, ?_, oa, ob, s.pc.zero, by omega, Nat.le_refl _, by unfold maxLen; omega⟩
    · intro x hx _
      cases hx
      simp only
      omega
    · intro x hx _
      cases hx
      simp only
      omega
  refine (IH _ _ _ _ _ _ _ _ _ _ _ _ _ (by omega) pre).mono ?_
  rintro e w' ⟨rfl, f, h1, h2, h3, h4⟩
  rw [va, vb] at h3
  exact ⟨rfl, s.setC h4 ⟨f, h1, h2, h3⟩⟩

theorem HalfS.subL (s : HalfS v w bz oz nz h L H b1 o1 n1 c1 b2 o2 n2 c2 xs ys R A B C) (hC : L ≤ C) (hb : h ≤ 1000000000) :
    Calls Tryz.prog 154 #[.slice (some ⟨R, 2 * (h + 1), none⟩) (2 * (h + 1)) (2 * (h + 1)), .slice (some ⟨bz, oz, none⟩) (2 * h) (2 * h)] v fun e v' => e = .returned (.tuple #[]) ∧ HalfS v' w bz oz nz h L H b1 o1 n1 c1 b2 o2 n2 c2 xs ys R A B (C - L) := by
  obtain ⟨zs, S, oz', vz⟩ := s.z.lo.sl (c := 2 * h) (Nat.le_refl _) (by unfold maxLen; omega)
  obtain ⟨f, F, hf, hv⟩ := s.pc
  refine (subFrom_any R _ _ _ _ _ _ f zs v S (fun x hx _ => by cases hx; exact Nat.ne_of_lt s.rz) (by omega) (by unfold maxLen; omega) oz' hf F (by rw [vz, hv]; exact hC)).mono ?_
  rintro e v' ⟨rfl, f', F', hf', hval, u⟩
  rw [hv, vz] at hval
  exact ⟨rfl, s.setC u ⟨f', F', hf', by omega⟩⟩

theorem HalfS.subH (s : HalfS v w bz oz nz h L H b1 o1 n1 c1 b2 o2 n2 c2 xs ys R A B C) (hC : H ≤ C) (hn : nz ≤ 4 * h) (hb : h ≤ 1000000000) :
    Calls Tryz.prog 154 #[.slice (some ⟨R, 2 * (h + 1), none⟩) (2 * (h + 1)) (2 * (h + 1)), .slice (some ⟨bz, oz + 2 * h, none⟩) (nz - 2 * h) (nz - 2 * h)] v fun e v' => e = .returned (.tuple #[]) ∧ HalfS v' w bz oz nz h L H b1 o1 n1 c1 b2 o2 n2 c2 xs ys R A B (C - H) := by
  obtain ⟨zs, S, oz', vz⟩ := s.z.hi.sl (c := nz - 2 * h) (Nat.le_refl _) (by unfold maxLen; omega)
  obtain ⟨f, F, hf, hv⟩ := s.pc
  refine (subFrom_any R _ _ _ _ _ _ f zs v S (fun x hx _ => by cases hx; exact Nat.ne_of_lt s.rz) (by omega) (by unfold maxLen; omega) oz' hf F (by rw [vz, hv]; exact hC)).mono ?_
  rintro e v' ⟨rfl, f', F', hf', hval, u⟩
  rw [hv, vz] at hval
  exact ⟨rfl, s.setC u ⟨f', F', hf', by omega⟩⟩

theorem split_val {xs : List Nat} (h : Nat) (hl : h ≤ xs.length) : val xs = val (xs.take h) + 4294967296 ^ h * val (xs.drop h) := by
  have := val_append (xs.take h) (xs.drop h)
  rw [List.take_append_drop, List.length_take, Nat.min_eq_left hl] at this
  exact this

theorem HalfZ.whole (z : HalfZ v w bz oz nz h L H b1 o1 n1 c1 b2 o2 n2 c2 xs ys) (h1 : 2 * h ≤ nz) : Part v bz oz nz (L + 4294967296 ^ (2 * h) * H) := by
  obtain ⟨f0, F0, hf0, v0⟩ := z.lo
  obtain ⟨f1, F1, hf1, v1⟩ := z.hi
  have F := Fn.join F0 F1
  have hV := valF_join f0 f1 (2 * h) (nz - 2 * h)
  rw [show 2 * h + (nz - 2 * h) = nz from by omega] at F hV
  rw [v0, v1] at hV
  refine ⟨_, F, ?_, hV⟩
  intro i hi
  by_cases e : i < 2 * h
  · simp only [e, if_true]; exact hf0 i e
  · simp only [e, if_false]; exact hf1 _ (by omega)

theorem half_mid {X0 X1 Y0 Y1 h m : Nat} (hv : (X0 + 4294967296 ^ h * X1) * (Y0 + 4294967296 ^ h * Y1) < 4294967296 ^ (h + m)) : X0 * Y1 + X1 * Y0 < 4294967296 ^ m := by
  rw [kar_all, Nat.pow_add] at hv
  generalize X0 * Y1 + X1 * Y0 = M at hv
  refine Nat.lt_of_mul_lt_mul_left (a := 4294967296 ^ h) ?_
  omega

theorem half_eq {P Q c l t t' X0 X1 Y0 Y1 : Nat} (h1 : l + P * t = X0 * Y0 + P * P * (X1 * Y1)) (h2 : t' + Q * c = t + (X0 * Y1 + X1 * Y0)) : l + P * t' + P * Q * c = (X0 + P * X1) * (Y0 + P * Y1) := by
  rw [kar_all]
  have : P * (t' + Q * c) = P * (t + (X0 * Y1 + X1 * Y0)) := by rw [h2]
  rw [Nat.mul_add, Nat.mul_add, ← Nat.mul_assoc] at this
  omega

theorem half_fin {cz m : Nat} {a' : Option Addr} {zs : List Nat} (z : HalfZ v w bz oz nz h (val (xs.take h) * val (ys.take h)) (val (xs.drop h) * val (ys.drop h)) b1 o1 n1 c1 b2 o2 n2 c2 xs ys) (ox : Ok xs) (oy : Ok ys) (hnz : n1 + n2 = nz) (h1 : 2 * h ≤ nz) (hx : h ≤ n1) (hy : h ≤ n2) (hbig : nz ≤ 1000000000)
    (hs : Sl v a' m m zs) (hr : Rep (val (xs.take h) * val (ys.drop h) + val (xs.drop h) * val (ys.take h)) zs) (ha : ∀ x, a' = some x → zs ≠ [] → x.block ≠ bz) :
    Calls Tryz.prog 149 #[.slice (some ⟨bz, oz + h, none⟩) (nz - h) (cz - h), .slice a' m m] v fun e w' => ∃ c : Nat, e = .returned (.int .u32 (c : Nat)) ∧ MulPost w bz oz nz (val xs * val ys) (.returned (.tuple #[])) w' := by
  have hl1 := z.sa.len
  have hl2 := z.sb.len
  obtain ⟨f, F, hok, hV⟩ := z.whole h1
  have hlt : val xs * val ys < 4294967296 ^ nz := by
    have a1 := val_lt ox
    have a2 := val_lt oy
    rw [← hnz, Nat.pow_add, ← hl2, ← hl1]
    exact Nat.mul_lt_mul_of_lt_of_le a1 (by omega) (pow_pos _)
  have hnh : h + (nz - h) = nz := by omega
  have ex := split_val (xs := xs) h (by omega)
  have ey := split_val (xs := ys) h (by omega)
  have hM : val (xs.take h) * val (ys.drop h) + val (xs.drop h) * val (ys.take h) < 4294967296 ^ (nz - h) := by
    refine half_mid (h := h) ?_
    rw [← ex, ← ey, hnh]; exact hlt
  have hlen : m ≤ nz - h := by
    rw [← hs.len]
    exact rep_len_le hr hM
  have hA := valF_add f h (nz - h)
  rw [hnh, hV, Nat.two_mul, Nat.pow_add] at hA
  refine (addTo_any bz (oz + h) (nz - h) (cz - h) m m a' (fun i => f (h + i)) zs v hs ha hlen (by unfold maxLen; omega) hr.ok (fun i hi => hok _ (by omega)) (F.part h (nz - h) (by omega))).mono ?_
  rintro e w' ⟨f', c, rfl, _, F', hf', hval, u⟩
  rw [hr.val] at hval
  have hfin := half_eq hA.symm hval
  rw [← ex, ← ey, ← Nat.pow_add, hnh] at hfin
  have hc := carry_zero hfin hlt
  have Fl : Fn w' bz oz h f := by
    have := F.part 0 h (by omega)
    simp only [Nat.zero_add, Nat.add_zero] at this
    exact u.fn this (.inr (.inl (Nat.le_refl _)))
  have hj := Fn.join Fl F'
  have hjv := valF_join f f' h (nz - h)
  rw [hnh] at hj hjv
  refine ⟨c, rfl, rfl, _, hj, ?_, hjv.trans hc.2, z.upd.trans (u.mono (by omega) (by omega))⟩
  intro i hi
  by_cases e : i < h
  · simp only [e, if_true]; exact hok i hi
  · simp only [e, if_false]; exact hf' _ (by omega)
end
end Go.Proofs.YtpicknbdfjjflaaGreatDoor
