/- KarS -/
import Derived.Test.YtlolnaegfponeaaGreatDoorKarP
namespace Go.Proofs.YtlolnaegfponeaaGreatDoor
open Go.RowKit Go.Deep
set_option linter.unusedVariables false
def Part (v:World) (b off n V:Nat):Prop:=∃ f,Fn v b off n f ∧ (∀ i,i < n → f i < 4294967296) ∧ valF f n = V

theorem Part.upd {v v':World} {b off n V bz lo hi:Nat} (h:Part v b off n V) (u:Upd bz lo hi v v') (hd:b ≠ bz ∨ off + n ≤ lo ∨ hi ≤ off):Part v' b off n V:=by
 obtain ⟨f,h1,h2,h3⟩:=h
 exact ⟨f,u.fn h1 hd,h2,h3⟩
theorem Part.below {v v':World} {b off n V:Nat} (h:Part v b off n V) (u:Below v.heap.size v v'):Part v' b off n V:=by
 obtain ⟨f,h1,h2,h3⟩:=h
 exact ⟨f,h1.below u,h2,h3⟩
theorem Part.sl {v:World} {b off n V c:Nat} (h:Part v b off n V) (hc:n ≤ c) (hm:c ≤ maxLen):∃ zs,Sl v (some ⟨b,off,none⟩) n c zs ∧ Ok zs ∧ val zs = V:=by
 obtain ⟨f,h1,h2,h3⟩:=h
 exact ⟨lst f n,h1.sl hc hm,lst_ok h2,(lst_val f n).trans h3⟩

structure HalfZ (v w:World) (bz oz nz h L H b1 o1 n1 c1 b2 o2 n2 c2:Nat) (xs ys:List Nat):Prop where
 lo:Part v bz oz (2 * h) L
 hi:Part v bz (oz + 2 * h) (nz - 2 * h) H
 upd:Upd bz oz (oz + nz) w v
 sa:Sl v (some ⟨b1,o1,none⟩) n1 c1 xs
 sb:Sl v (some ⟨b2,o2,none⟩) n2 c2 ys

theorem HalfZ.keep {v v' w:World} {bz oz nz h L H b1 o1 n1 c1 b2 o2 n2 c2:Nat} {xs ys:List Nat} (z:HalfZ v w bz oz nz h L H b1 o1 n1 c1 b2 o2 n2 c2 xs ys) {R lo hi:Nat} (u:Upd R lo hi v v') (hR:bz ≠ R) (h1:b1 ≠ R) (h2:b2 ≠ R) (hbz:bz < v.heap.size) (hw:w.heap.size ≤ R):HalfZ v' w bz oz nz h L H b1 o1 n1 c1 b2 o2 n2 c2 xs ys:=by
 have eb:=u.block bz hbz hR
 refine ⟨z.lo.upd u (.inl hR),z.hi.upd u (.inl hR),⟨u.os.trans z.upd.os,u.tape.trans z.upd.tape,u.output.trans z.upd.output,Nat.le_trans z.upd.size u.size,?_,?_,?_⟩,z.sa.upd u (.inl h1),z.sb.upd u (.inl h2)⟩
 ·intro k hk hb
  rw [u.block k (Nat.lt_of_lt_of_le hk z.upd.size) (by omega)]
  exact z.upd.block k hk hb
 ·intro i hi
  rw [World.cell?_of_block (w:=v) (a:=⟨bz,i,none⟩) eb]
  exact z.upd.cell i hi
 ·intro i
  rw [World.frozen?_of_block (w:=v) (a:=⟨bz,i,none⟩) eb]
  exact z.upd.froz i

theorem HalfZ.below {v v' w:World} {bz oz nz h L H b1 o1 n1 c1 b2 o2 n2 c2:Nat} {xs ys:List Nat} (z:HalfZ v w bz oz nz h L H b1 o1 n1 c1 b2 o2 n2 c2 xs ys) (hbz:bz < v.heap.size) (u:Below v.heap.size v v'):HalfZ v' w bz oz nz h L H b1 o1 n1 c1 b2 o2 n2 c2 xs ys :=
 ⟨z.lo.below u,z.hi.below u,z.upd.trans (.of_below hbz u),z.sa.below u,z.sb.below u⟩

theorem take_drop0 (xs:List Nat) (h:Nat):(xs.drop 0).take h = xs.take h:=by simp
theorem drop_all {xs:List Nat} {n h:Nat} (hl:xs.length = n):(xs.drop h).take (n - h) = xs.drop h:=by
 apply List.take_of_length_le
 simp; omega

theorem half_lo {N bz oz nz cz b1 o1 n1 c1 b2 o2 n2 c2 h:Nat} {xs ys:List Nat} {w:World} (p:MulPre w bz oz nz cz (some ⟨b1,o1,none⟩) n1 c1 xs (some ⟨b2,o2,none⟩) n2 c2 ys) (hx:xs ≠ []) (hy:ys ≠ []) (IH:MI N) (hN:n1 + n2 ≤ N + 1) (h48:48 ≤ n2) (hle:n2 ≤ n1) (hh1:2 * h ≤ n1 + 1) (hh2:h < n2) (hbig:nz ≤ 1000000000) (q:Nat) :
  Calls Tryz.prog 194 #[.slice (some ⟨bz,oz,none⟩) (2 * h) (2 * h),.slice (some ⟨b1,o1,none⟩) h h,.slice (some ⟨b2,o2,none⟩) h h] (w.drewN q) fun e w' => e = .returned (.tuple #[]) ∧ Part w' bz oz (2 * h) (val (xs.take h) * val (ys.take h)) ∧ Upd bz oz (oz + 2 * h) w w':=by
 have hl1:=p.h1.len
 have hl2:=p.h2.len
 have s1:=p.s1 _ rfl hx
 have s2:=p.s2 _ rfl hy
 have hnz:=p.hnz
 have A:=(p.h1.part 0 h h (by omega) (Nat.le_refl _) (by unfold maxLen; omega)).drewN q
 have B:=(p.h2.part 0 h h (by omega) (Nat.le_refl _) (by unfold maxLen; omega)).drewN q
 rw [Nat.add_zero,take_drop0] at A B
 have hz:=p.hz.part 0 (2 * h) (by omega)
 rw [Nat.add_zero] at hz
 have pre:MulPre (w.drewN q) bz oz (2 * h) (2 * h) (some ⟨b1,o1,none⟩) h h (xs.take h) (some ⟨b2,o2,none⟩) h h (ys.take h):=by
  refine ⟨A,B,?_,?_,p.ox.take h,p.oy.take h,hz,by omega,Nat.le_refl _,by unfold maxLen; omega⟩
  ·intro x hx _
   cases hx
   have:(xs.take h).length = h:=by simp; omega
   rw [this]
   simp only at s1 ⊢
   omega
  ·intro x hx _
   cases hx
   have:(ys.take h).length = h:=by simp; omega
   rw [this]
   simp only at s2 ⊢
   omega
 refine (IH _ bz oz (2 * h) (2 * h) _ h h _ _ h h _ (by omega) pre).mono ?_
 rintro e w' ⟨rfl,f,h1,h2,h3,h4⟩
 exact ⟨rfl,⟨f,h1,h2,h3⟩,((Upd.refl _ _ _ w).drewN q).trans h4⟩

theorem half_hi {N bz oz nz cz b1 o1 n1 c1 b2 o2 n2 c2 h:Nat} {xs ys:List Nat} {w w1:World} (p:MulPre w bz oz nz cz (some ⟨b1,o1,none⟩) n1 c1 xs (some ⟨b2,o2,none⟩) n2 c2 ys) (hx:xs ≠ []) (hy:ys ≠ []) (IH:MI N) (hN:n1 + n2 ≤ N + 1) (h48:48 ≤ n2) (hle:n2 ≤ n1) (hh1:2 * h ≤ n1 + 1) (hh0:n1 ≤ 2 * h) (hh2:h < n2) (hbig:nz ≤ 1000000000)
  (lo:Part w1 bz oz (2 * h) (val (xs.take h) * val (ys.take h))) (u:Upd bz oz (oz + 2 * h) w w1) :
  Calls Tryz.prog 194 #[.slice (some ⟨bz,oz + 2 * h,none⟩) (nz - 2 * h) (nz - 2 * h),.slice (some ⟨b1,o1 + h,none⟩) (n1 - h) (n1 - h),.slice (some ⟨b2,o2 + h,none⟩) (n2 - h) (n2 - h)] w1 fun e w' => e = .returned (.tuple #[]) ∧
   HalfZ w' w bz oz nz h (val (xs.take h) * val (ys.take h)) (val (xs.drop h) * val (ys.drop h)) b1 o1 n1 c1 b2 o2 n2 c2 xs ys:=by
 have hl1:=p.h1.len
 have hl2:=p.h2.len
 have s1:=p.s1 _ rfl hx
 have s2:=p.s2 _ rfl hy
 simp only at s1 s2
 have hnz:=p.hnz
 have u':Upd bz oz (oz + nz) w w1:=u.mono (Nat.le_refl _) (by omega)
 have A0:=p.h1.upd u' (by omega)
 have B0:=p.h2.upd u' (by omega)
 have A:=A0.part h (n1 - h) (n1 - h) (by omega) (Nat.le_refl _) (by unfold maxLen; omega)
 have B:=B0.part h (n2 - h) (n2 - h) (by omega) (Nat.le_refl _) (by unfold maxLen; omega)
 rw [drop_all hl1] at A
 rw [drop_all hl2] at B
 have hz:Fn w1 bz (oz + 2 * h) (nz - 2 * h) (fun _ => 0):=u.fn (p.hz.part (2 * h) (nz - 2 * h) (by omega)) (.inr (.inr (Nat.le_refl _)))
 have pre:MulPre w1 bz (oz + 2 * h) (nz - 2 * h) (nz - 2 * h) (some ⟨b1,o1 + h,none⟩) (n1 - h) (n1 - h) (xs.drop h) (some ⟨b2,o2 + h,none⟩) (n2 - h) (n2 - h) (ys.drop h):=by
  refine ⟨A,B,?_,?_,p.ox.drop h,p.oy.drop h,hz,by omega,Nat.le_refl _,by unfold maxLen; omega⟩
  ·intro x hx _
   cases hx
   have:(xs.drop h).length = n1 - h:=by simp; omega
   rw [this]
   simp only
   omega
  ·intro x hx _
   cases hx
   have:(ys.drop h).length = n2 - h:=by simp; omega
   rw [this]
   simp only
   omega
 refine (IH _ bz (oz + 2 * h) (nz - 2 * h) (nz - 2 * h) _ (n1 - h) (n1 - h) _ _ (n2 - h) (n2 - h) _ (by omega) pre).mono ?_
 rintro e w' ⟨rfl,f,h1,h2,h3,h4⟩
 have h4':Upd bz oz (oz + nz) w1 w':=h4.mono (by omega) (by omega)
 exact ⟨rfl,lo.upd h4 (.inr (.inl (Nat.le_refl _))),⟨f,h1,h2,h3⟩,u'.trans h4',A0.upd h4' (by omega),B0.upd h4' (by omega)⟩

theorem kar_mid (X0 X1 Y0 Y1:Nat):(X0 + X1) * (Y0 + Y1) = X0 * Y1 + X1 * Y0 + X0 * Y0 + X1 * Y1:=by
 rw [Nat.add_mul,Nat.mul_add,Nat.mul_add]
 omega

theorem kar_all (P X0 X1 Y0 Y1:Nat):(X0 + P * X1) * (Y0 + P * Y1) = X0 * Y0 + P * (X0 * Y1 + X1 * Y0) + P * P * (X1 * Y1):=by
 rw [Nat.add_mul,Nat.mul_add,Nat.mul_add,Nat.mul_add]
 have e1:X0 * (P * Y1) = P * (X0 * Y1):=Nat.mul_left_comm _ _ _
 have e2:P * X1 * Y0 = P * (X1 * Y0):=Nat.mul_assoc _ _ _
 have e3:P * X1 * (P * Y1) = P * P * (X1 * Y1):=by rw [Nat.mul_assoc,Nat.mul_left_comm X1,← Nat.mul_assoc]
 rw [e1,e2,e3]
 omega
open Go.RowKit Go.Deep
set_option linter.unusedVariables false

structure HalfS (v w:World) (bz oz nz h L H b1 o1 n1 c1 b2 o2 n2 c2:Nat) (xs ys:List Nat) (R A B C:Nat):Prop where
 z:HalfZ v w bz oz nz h L H b1 o1 n1 c1 b2 o2 n2 c2 xs ys
 pa:Part v R 0 (h + 1) A
 pb:Part v R (h + 1) (h + 1) B
 pc:Part v R (2 * (h + 1)) (2 * (h + 1)) C
 rz:bz < R
 r1:b1 < R
 r2:b2 < R
 rw:w.heap.size ≤ R
 rv:R < v.heap.size

theorem valF_eq_zero {f:Nat → Nat}:∀ {n:Nat},valF f n = 0 → ∀ i,i < n → f i = 0
 | 0,_,i,hi => by omega
 | n + 1,h,i,hi => by
  simp only [valF] at h
  have h1:valF f n = 0:=by omega
  have h2:4294967296 ^ n * f n = 0:=by omega
  have h3:f n = 0:=by
   rcases Nat.mul_eq_zero.1 h2 with e | e
   ·have:=pow_pos n; omega
   ·exact e
  by_cases e:i = n
  ·subst e; exact h3
  ·exact valF_eq_zero h1 i (by omega)

theorem Part.zero {v:World} {b off n:Nat} (h:Part v b off n 0):Fn v b off n (fun _ => 0):=by
 obtain ⟨f,h1,_,h3⟩:=h
 exact h1.congr (fun i hi => valF_eq_zero h3 i hi)

theorem Part.of_zero {v:World} {b off n:Nat} (h:Fn v b off n (fun _ => 0)):Part v b off n 0:=⟨_,h,fun _ _ => by decide,valF_zero n⟩

theorem wpList_copy_part {w:World} {ops:Array Oper} {rest:List Oper} {o:Oper} {a:Act} {Q:Exit → Act → World → Prop} (hgd:o.guard = none) (d s:Operand)
  (ho:o.op = .call { callee:=.builtin .copy,args:=#[d,s],argTypes:=#[22,22] })
  (b off dLen dCap:Nat) (sp:Option Addr) (sLen sCap:Nat) (hd:a.eval d = .slice (some ⟨b,off,none⟩) dLen dCap) (hs:a.eval s = .slice sp sLen sCap)
  (hf:Part w b off dLen 0) (xs:List Nat) (hx:Sl w sp sLen sCap xs) (ok:Ok xs) (hle:sLen ≤ dLen)
  (h:∀ w',Upd b off (off + dLen) w w' → Part w' b off dLen (val xs) → wpList Tryz.prog ops Q rest (a.put o.dst (goInt xs.length)) w'):wpList Tryz.prog ops Q (o :: rest) a w:=by
 have hl:=hx.len
 have F:=hf.zero
 refine wpList_copy_row hgd d s ho b off dLen dCap sp sLen sCap hd hs _ F xs hx hle (h _ ?_ ?_)
 ·exact Upd.setCells b off (off + dLen) (vals xs) off w (Nat.le_refl _) (by simp [vals]; omega)
 ·exact ⟨_,F.copied xs (by omega),fun i _ => getD_lt (f:=fun _ => 0) ok i,valF_pad xs dLen (by omega)⟩

section
variable {v w:World} {bz oz nz h L H b1 o1 n1 c1 b2 o2 n2 c2:Nat} {xs ys:List Nat} {R A B C:Nat}

theorem HalfS.drewN (s:HalfS v w bz oz nz h L H b1 o1 n1 c1 b2 o2 n2 c2 xs ys R A B C) (q:Nat):HalfS (v.drewN q) w bz oz nz h L H b1 o1 n1 c1 b2 o2 n2 c2 xs ys R A B C :=
 have u:Below v.heap.size v (v.drewN q):=bel_drewN (Below.refl _ _) q
 ⟨s.z.below (Nat.lt_trans s.rz s.rv) u,s.pa.below u,s.pb.below u,s.pc.below u,s.rz,s.r1,s.r2,s.rw,s.rv⟩

theorem HalfS.start (z:HalfZ v w bz oz nz h L H b1 o1 n1 c1 b2 o2 n2 c2 xs ys) (hbz:bz < v.heap.size) (hb1:b1 < v.heap.size) (hb2:b2 < v.heap.size) (e:TypeId) :
  HalfS (v.alloc (.cells (madeCells #[.int .u32 0] (4 * (h + 1))) e)) w bz oz nz h L H b1 o1 n1 c1 b2 o2 n2 c2 xs ys v.heap.size 0 0 0:=by
 have bel:=(Below.refl v.heap.size v).alloc (Nat.le_refl _) (.cells (madeCells #[.int .u32 0] (4 * (h + 1))) e)
 have F:=Fn.made v (4 * (h + 1)) e
 have Fa:=F.part 0 (h + 1) (by omega)
 have Fb:=F.part (h + 1) (h + 1) (by omega)
 have Fc:=F.part (2 * (h + 1)) (2 * (h + 1)) (by omega)
 rw [Nat.zero_add] at Fa Fb Fc
 exact ⟨z.below hbz bel,.of_zero Fa,.of_zero Fb,.of_zero Fc,hbz,hb1,hb2,z.upd.size,by simp⟩

theorem HalfS.setA {v':World} (s:HalfS v w bz oz nz h L H b1 o1 n1 c1 b2 o2 n2 c2 xs ys R A B C) {A':Nat} (u:Upd R 0 (0 + (h + 1)) v v') (p:Part v' R 0 (h + 1) A'):HalfS v' w bz oz nz h L H b1 o1 n1 c1 b2 o2 n2 c2 xs ys R A' B C :=
 ⟨s.z.keep u (Nat.ne_of_lt s.rz) (Nat.ne_of_lt s.r1) (Nat.ne_of_lt s.r2) (Nat.lt_trans s.rz s.rv) s.rw,p,s.pb.upd u (.inr (.inr (by omega))),s.pc.upd u (.inr (.inr (by omega))),s.rz,s.r1,s.r2,s.rw,Nat.lt_of_lt_of_le s.rv u.size⟩

theorem HalfS.setB {v':World} (s:HalfS v w bz oz nz h L H b1 o1 n1 c1 b2 o2 n2 c2 xs ys R A B C) {B':Nat} (u:Upd R (h + 1) (h + 1 + (h + 1)) v v') (p:Part v' R (h + 1) (h + 1) B'):HalfS v' w bz oz nz h L H b1 o1 n1 c1 b2 o2 n2 c2 xs ys R A B' C :=
 ⟨s.z.keep u (Nat.ne_of_lt s.rz) (Nat.ne_of_lt s.r1) (Nat.ne_of_lt s.r2) (Nat.lt_trans s.rz s.rv) s.rw,s.pa.upd u (.inr (.inl (by omega))),p,s.pc.upd u (.inr (.inr (by omega))),s.rz,s.r1,s.r2,s.rw,Nat.lt_of_lt_of_le s.rv u.size⟩

theorem HalfS.setC {v':World} (s:HalfS v w bz oz nz h L H b1 o1 n1 c1 b2 o2 n2 c2 xs ys R A B C) {C':Nat} (u:Upd R (2 * (h + 1)) (2 * (h + 1) + 2 * (h + 1)) v v') (p:Part v' R (2 * (h + 1)) (2 * (h + 1)) C'):HalfS v' w bz oz nz h L H b1 o1 n1 c1 b2 o2 n2 c2 xs ys R A B C' :=
 ⟨s.z.keep u (Nat.ne_of_lt s.rz) (Nat.ne_of_lt s.r1) (Nat.ne_of_lt s.r2) (Nat.lt_trans s.rz s.rv) s.rw,s.pa.upd u (.inr (.inl (by omega))),s.pb.upd u (.inr (.inl (by omega))),p,s.rz,s.r1,s.r2,s.rw,Nat.lt_of_lt_of_le s.rv u.size⟩

theorem HalfS.slA (s:HalfS v w bz oz nz h L H b1 o1 n1 c1 b2 o2 n2 c2 xs ys R A B C) (h1:h ≤ n1) (hb:h ≤ 1000000000):Sl v (some ⟨b1,o1,none⟩) h h (xs.take h):=by
 have:=s.z.sa.part 0 h h (by omega) (Nat.le_refl _) (by unfold maxLen; omega)
 rw [Nat.add_zero,take_drop0] at this
 exact this
theorem HalfS.slB (s:HalfS v w bz oz nz h L H b1 o1 n1 c1 b2 o2 n2 c2 xs ys R A B C) (h1:h ≤ n2) (hb:h ≤ 1000000000):Sl v (some ⟨b2,o2,none⟩) h h (ys.take h):=by
 have:=s.z.sb.part 0 h h (by omega) (Nat.le_refl _) (by unfold maxLen; omega)
 rw [Nat.add_zero,take_drop0] at this
 exact this

theorem half_less (M L H:Nat):M + L + H - L - H = M:=by omega

theorem half_sum {P X0 X1:Nat} (h0:X0 < P) (h1:X1 < P):X0 + X1 < P * 4294967296:=by
 have:P * 2 ≤ P * 4294967296:=Nat.mul_le_mul_left _ (by decide)
 omega

theorem drop_lt {xs:List Nat} (ok:Ok xs) (h m:Nat) (hl:xs.length ≤ h + m):val (xs.drop h) < 4294967296 ^ m:=by
 have:=val_lt (ok.drop h)
 exact Nat.lt_of_lt_of_le this (pow_mono (by simp; omega))

theorem HalfS.addA (s:HalfS v w bz oz nz h L H b1 o1 n1 c1 b2 o2 n2 c2 xs ys R (val (xs.take h)) B C) (ox:Ok xs) (h1:n1 ≤ 2 * h) (h2:h ≤ n1) (hb:n1 ≤ 1000000000) :
  Calls Tryz.prog 193 #[.slice (some ⟨R,0,none⟩) (h + 1) (h + 1),.slice (some ⟨b1,o1 + h,none⟩) (n1 - h) (n1 - h)] v fun e v' => ∃ c:Nat,e = .returned (.int .u32 (c:Nat)) ∧ HalfS v' w bz oz nz h L H b1 o1 n1 c1 b2 o2 n2 c2 xs ys R (val (xs.take h) + val (xs.drop h)) B C:=by
 have hl:=s.z.sa.len
 have S:=s.z.sa.part h (n1 - h) (n1 - h) (by omega) (Nat.le_refl _) (by unfold maxLen; omega)
 rw [drop_all hl] at S
 obtain ⟨f,F,hf,hv⟩:=s.pa
 refine (addTo_any R 0 (h + 1) (h + 1) (n1 - h) (n1 - h) _ f _ v S (fun x hx _ => by cases hx; exact Nat.ne_of_lt s.r1) (by omega) (by unfold maxLen; omega) (ox.drop h) hf F).mono ?_
 rintro e v' ⟨f',c,rfl,_,F',hf',hval,u⟩
 rw [hv] at hval
 refine ⟨c,rfl,s.setA u ⟨f',F',hf',?_⟩⟩
 refine (carry_zero hval ?_).2
 rw [Nat.pow_succ]
 exact half_sum (take_lt ox h (by omega)) (drop_lt ox h h (by omega))

theorem HalfS.addB (s:HalfS v w bz oz nz h L H b1 o1 n1 c1 b2 o2 n2 c2 xs ys R A (val (ys.take h)) C) (oy:Ok ys) (h1:n2 ≤ 2 * h) (h2:h ≤ n2) (hb:n2 ≤ 1000000000) :
  Calls Tryz.prog 193 #[.slice (some ⟨R,h + 1,none⟩) (h + 1) (h + 1),.slice (some ⟨b2,o2 + h,none⟩) (n2 - h) (n2 - h)] v fun e v' => ∃ c:Nat,e = .returned (.int .u32 (c:Nat)) ∧ HalfS v' w bz oz nz h L H b1 o1 n1 c1 b2 o2 n2 c2 xs ys R A (val (ys.take h) + val (ys.drop h)) C:=by
 have hl:=s.z.sb.len
 have S:=s.z.sb.part h (n2 - h) (n2 - h) (by omega) (Nat.le_refl _) (by unfold maxLen; omega)
 rw [drop_all hl] at S
 obtain ⟨f,F,hf,hv⟩:=s.pb
 refine (addTo_any R (h + 1) (h + 1) (h + 1) (n2 - h) (n2 - h) _ f _ v S (fun x hx _ => by cases hx; exact Nat.ne_of_lt s.r2) (by omega) (by unfold maxLen; omega) (oy.drop h) hf F).mono ?_
 rintro e v' ⟨f',c,rfl,_,F',hf',hval,u⟩
 rw [hv] at hval
 refine ⟨c,rfl,s.setB u ⟨f',F',hf',?_⟩⟩
 refine (carry_zero hval ?_).2
 rw [Nat.pow_succ]
 exact half_sum (take_lt oy h (by omega)) (drop_lt oy h h (by omega))

theorem HalfS.mul {N:Nat} (s:HalfS v w bz oz nz h L H b1 o1 n1 c1 b2 o2 n2 c2 xs ys R A B 0) (IH:MI N) (hN:2 * (h + 1) ≤ N) (hb:h ≤ 1000000000) :
  Calls Tryz.prog 194 #[.slice (some ⟨R,2 * (h + 1),none⟩) (2 * (h + 1)) (2 * (h + 1)),.slice (some ⟨R,0,none⟩) (h + 1) (h + 1),.slice (some ⟨R,h + 1,none⟩) (h + 1) (h + 1)] v fun e v' => e = .returned (.tuple #[]) ∧ HalfS v' w bz oz nz h L H b1 o1 n1 c1 b2 o2 n2 c2 xs ys R A B (A * B):=by
 obtain ⟨ls,sa,oa,va⟩:=s.pa.sl (c:=h + 1) (Nat.le_refl _) (by unfold maxLen; omega)
 obtain ⟨bs,sb,ob,vb⟩:=s.pb.sl (c:=h + 1) (Nat.le_refl _) (by unfold maxLen; omega)
 have la:=sa.len
 have lb:=sb.len
 have pre:MulPre v R (2 * (h + 1)) (2 * (h + 1)) (2 * (h + 1)) (some ⟨R,0,none⟩) (h + 1) (h + 1) ls (some ⟨R,h + 1,none⟩) (h + 1) (h + 1) bs:=by
  refine ⟨sa,sb,?_,?_,oa,ob,s.pc.zero,by omega,Nat.le_refl _,by unfold maxLen; omega⟩
  ·intro x hx _
   cases hx
   simp only
   omega
  ·intro x hx _
   cases hx
   simp only
   omega
 refine (IH _ _ _ _ _ _ _ _ _ _ _ _ _ (by omega) pre).mono ?_
 rintro e w' ⟨rfl,f,h1,h2,h3,h4⟩
 rw [va,vb] at h3
 exact ⟨rfl,s.setC h4 ⟨f,h1,h2,h3⟩⟩

theorem HalfS.subL (s:HalfS v w bz oz nz h L H b1 o1 n1 c1 b2 o2 n2 c2 xs ys R A B C) (hC:L ≤ C) (hb:h ≤ 1000000000) :
  Calls Tryz.prog 210 #[.slice (some ⟨R,2 * (h + 1),none⟩) (2 * (h + 1)) (2 * (h + 1)),.slice (some ⟨bz,oz,none⟩) (2 * h) (2 * h)] v fun e v' => e = .returned (.tuple #[]) ∧ HalfS v' w bz oz nz h L H b1 o1 n1 c1 b2 o2 n2 c2 xs ys R A B (C - L):=by
 obtain ⟨zs,S,oz',vz⟩:=s.z.lo.sl (c:=2 * h) (Nat.le_refl _) (by unfold maxLen; omega)
 obtain ⟨f,F,hf,hv⟩:=s.pc
 refine (subFrom_any R _ _ _ _ _ _ f zs v S (fun x hx _ => by cases hx; exact Nat.ne_of_lt s.rz) (by omega) (by unfold maxLen; omega) oz' hf F (by rw [vz,hv]; exact hC)).mono ?_
 rintro e v' ⟨rfl,f',F',hf',hval,u⟩
 rw [hv,vz] at hval
 exact ⟨rfl,s.setC u ⟨f',F',hf',by omega⟩⟩

theorem HalfS.subH (s:HalfS v w bz oz nz h L H b1 o1 n1 c1 b2 o2 n2 c2 xs ys R A B C) (hC:H ≤ C) (hn:nz ≤ 4 * h) (hb:h ≤ 1000000000) :
  Calls Tryz.prog 210 #[.slice (some ⟨R,2 * (h + 1),none⟩) (2 * (h + 1)) (2 * (h + 1)),.slice (some ⟨bz,oz + 2 * h,none⟩) (nz - 2 * h) (nz - 2 * h)] v fun e v' => e = .returned (.tuple #[]) ∧ HalfS v' w bz oz nz h L H b1 o1 n1 c1 b2 o2 n2 c2 xs ys R A B (C - H):=by
 obtain ⟨zs,S,oz',vz⟩:=s.z.hi.sl (c:=nz - 2 * h) (Nat.le_refl _) (by unfold maxLen; omega)
 obtain ⟨f,F,hf,hv⟩:=s.pc
 refine (subFrom_any R _ _ _ _ _ _ f zs v S (fun x hx _ => by cases hx; exact Nat.ne_of_lt s.rz) (by omega) (by unfold maxLen; omega) oz' hf F (by rw [vz,hv]; exact hC)).mono ?_
 rintro e v' ⟨rfl,f',F',hf',hval,u⟩
 rw [hv,vz] at hval
 exact ⟨rfl,s.setC u ⟨f',F',hf',by omega⟩⟩

theorem split_val {xs:List Nat} (h:Nat) (hl:h ≤ xs.length):val xs = val (xs.take h) + 4294967296 ^ h * val (xs.drop h):=by
 have:=val_append (xs.take h) (xs.drop h)
 rw [List.take_append_drop,List.length_take,Nat.min_eq_left hl] at this
 exact this

theorem HalfZ.whole (z:HalfZ v w bz oz nz h L H b1 o1 n1 c1 b2 o2 n2 c2 xs ys) (h1:2 * h ≤ nz):Part v bz oz nz (L + 4294967296 ^ (2 * h) * H):=by
 obtain ⟨f0,F0,hf0,v0⟩:=z.lo
 obtain ⟨f1,F1,hf1,v1⟩:=z.hi
 have F:=Fn.join F0 F1
 have hV:=valF_join f0 f1 (2 * h) (nz - 2 * h)
 rw [show 2 * h + (nz - 2 * h) = nz from by omega] at F hV
 rw [v0,v1] at hV
 refine ⟨_,F,?_,hV⟩
 intro i hi
 by_cases e:i < 2 * h
 ·simp only [e,if_true]; exact hf0 i e
 ·simp only [e,if_false]; exact hf1 _ (by omega)

theorem half_mid {X0 X1 Y0 Y1 h m:Nat} (hv:(X0 + 4294967296 ^ h * X1) * (Y0 + 4294967296 ^ h * Y1) < 4294967296 ^ (h + m)):X0 * Y1 + X1 * Y0 < 4294967296 ^ m:=by
 rw [kar_all,Nat.pow_add] at hv
 generalize X0 * Y1 + X1 * Y0 = M at hv
 refine Nat.lt_of_mul_lt_mul_left (a:=4294967296 ^ h) ?_
 omega

theorem half_eq {P Q c l t t' X0 X1 Y0 Y1:Nat} (h1:l + P * t = X0 * Y0 + P * P * (X1 * Y1)) (h2:t' + Q * c = t + (X0 * Y1 + X1 * Y0)):l + P * t' + P * Q * c = (X0 + P * X1) * (Y0 + P * Y1):=by
 rw [kar_all]
 have:P * (t' + Q * c) = P * (t + (X0 * Y1 + X1 * Y0)):=by rw [h2]
 rw [Nat.mul_add,Nat.mul_add,← Nat.mul_assoc] at this
 omega

theorem half_fin {cz m:Nat} {a':Option Addr} {zs:List Nat} (z:HalfZ v w bz oz nz h (val (xs.take h) * val (ys.take h)) (val (xs.drop h) * val (ys.drop h)) b1 o1 n1 c1 b2 o2 n2 c2 xs ys) (ox:Ok xs) (oy:Ok ys) (hnz:n1 + n2 = nz) (h1:2 * h ≤ nz) (hx:h ≤ n1) (hy:h ≤ n2) (hbig:nz ≤ 1000000000)
  (hs:Sl v a' m m zs) (hr:Rep (val (xs.take h) * val (ys.drop h) + val (xs.drop h) * val (ys.take h)) zs) (ha:∀ x,a' = some x → zs ≠ [] → x.block ≠ bz) :
  Calls Tryz.prog 193 #[.slice (some ⟨bz,oz + h,none⟩) (nz - h) (cz - h),.slice a' m m] v fun e w' => ∃ c:Nat,e = .returned (.int .u32 (c:Nat)) ∧ MulPost w bz oz nz (val xs * val ys) (.returned (.tuple #[])) w':=by
 have hl1:=z.sa.len
 have hl2:=z.sb.len
 obtain ⟨f,F,hok,hV⟩:=z.whole h1
 have hlt:val xs * val ys < 4294967296 ^ nz:=by
  have a1:=val_lt ox
  have a2:=val_lt oy
  rw [← hnz,Nat.pow_add,← hl2,← hl1]
  exact Nat.mul_lt_mul_of_lt_of_le a1 (by omega) (pow_pos _)
 have hnh:h + (nz - h) = nz:=by omega
 have ex:=split_val (xs:=xs) h (by omega)
 have ey:=split_val (xs:=ys) h (by omega)
 have hM:val (xs.take h) * val (ys.drop h) + val (xs.drop h) * val (ys.take h) < 4294967296 ^ (nz - h):=by
  refine half_mid (h:=h) ?_
  rw [← ex,← ey,hnh]; exact hlt
 have hlen:m ≤ nz - h:=by
  rw [← hs.len]
  exact rep_len_le hr hM
 have hA:=valF_add f h (nz - h)
 rw [hnh,hV,Nat.two_mul,Nat.pow_add] at hA
 refine (addTo_any bz (oz + h) (nz - h) (cz - h) m m a' (fun i => f (h + i)) zs v hs ha hlen (by unfold maxLen; omega) hr.ok (fun i hi => hok _ (by omega)) (F.part h (nz - h) (by omega))).mono ?_
 rintro e w' ⟨f',c,rfl,_,F',hf',hval,u⟩
 rw [hr.val] at hval
 have hfin:=half_eq hA.symm hval
 rw [← ex,← ey,← Nat.pow_add,hnh] at hfin
 have hc:=carry_zero hfin hlt
 have Fl:Fn w' bz oz h f:=by
  have:=F.part 0 h (by omega)
  simp only [Nat.zero_add,Nat.add_zero] at this
  exact u.fn this (.inr (.inl (Nat.le_refl _)))
 have hj:=Fn.join Fl F'
 have hjv:=valF_join f f' h (nz - h)
 rw [hnh] at hj hjv
 refine ⟨c,rfl,rfl,_,hj,?_,hjv.trans hc.2,z.upd.trans (u.mono (by omega) (by omega))⟩
 intro i hi
 by_cases e:i < h
 ·simp only [e,if_true]; exact hok i hi
 ·simp only [e,if_false]; exact hf' _ (by omega)
end
def QRPost (w w':World) (q r:Nat) (e:Ending):Prop :=
 ∃ aq mq zq ar mr zr,e = .returned (.tuple #[.slice aq mq mq,.slice ar mr mr]) ∧ Sl w' aq mq mq zq ∧ Rep q zq ∧ NewAt w.heap.size aq ∧ Sl w' ar mr mr zr ∧ Rep r zr ∧ NewAt w.heap.size ar ∧ (∀ x y,aq = some x → ar = some y → x.block ≠ y.block) ∧ Below w.heap.size w w'

theorem make_dif1 (n l:Nat) (hle:l ≤ n) (h:n ≤ 70368744177000) (w:World):(Instr.makeSlice 22 (.int .i64 ((n:Int) - (l:Int) + 1)) (.int .i64 ((n:Int) - (l:Int) + 1))).run Tryz.prog w = .ok (.slice (some ⟨w.heap.size,0,none⟩) (n - l + 1) (n - l + 1)) (w.alloc (.cells (madeCells #[.int .u32 0] (n - l + 1)) 43)):=by
 have:=make_len (n - l + 1) (by omega) w
 rw [show ((n - l + 1:Nat):Int) = (n:Int) - (l:Int) + 1 from by omega] at this
 exact this

theorem qr_unique {a b s Q t:Nat} (hb:0 < b) (h:t + Q * (b * 2 ^ s) = a * 2 ^ s) (hlt:t < b * 2 ^ s):Q = a / b ∧ t / 2 ^ s = a % b:=by
 have hp:0 < 2 ^ s:=Nat.pow_pos (by decide)
 generalize 2 ^ s = S at *
 have h1:t = S * (t / S):=by
  have:S ∣ t:=by
   have d1:S ∣ t + Q * (b * S):=by rw [h]; exact Nat.dvd_mul_left _ _
   have d2:S ∣ Q * (b * S):=by rw [← Nat.mul_assoc]; exact Nat.dvd_mul_left _ _
   exact (Nat.dvd_add_left d2).1 d1
  exact (Nat.mul_div_cancel' this).symm
 generalize t / S = r at *
 subst h1
 have h2:S * (r + Q * b) = S * a:=by
  rw [Nat.mul_add,Nat.mul_comm S a,← h,Nat.mul_comm S (Q * b),Nat.mul_assoc]
 have h3:r + Q * b = a:=Nat.eq_of_mul_eq_mul_left hp h2
 have h4:r < b:=by
  rw [Nat.mul_comm b] at hlt
  exact Nat.lt_of_mul_lt_mul_left hlt
 subst h3
 constructor
 ·rw [Nat.add_mul_div_right _ _ hb,Nat.div_eq_of_lt h4,Nat.zero_add]
 ·rw [Nat.add_mul_mod_self_right,Nat.mod_eq_of_lt h4]

theorem lg_start {xs ys:List Nat} {n1 n2 s:Nat} (ox:Ok xs) (hl1:xs.length = n1) (hl2:ys.length = n2) (hge:4294967296 ^ (ys.length - 1) ≤ val ys) (hn:1 ≤ n2) (hle:n2 ≤ n1):val xs * 2 ^ s < val ys * 2 ^ s * 4294967296 ^ (n1 - n2 + 1):=by
 have hp:0 < 2 ^ s:=Nat.pow_pos (by decide)
 rw [Nat.mul_right_comm]
 refine Nat.mul_lt_mul_of_pos_right ?_ hp
 refine Nat.lt_of_lt_of_le (val_lt ox) ?_
 rw [hl1,show n1 = (ys.length - 1) + (n1 - n2 + 1) from by omega,Nat.pow_add]
 rw [show (ys.length - 1) + (n1 - n2 + 1) - n2 + 1 = n1 - n2 + 1 from by omega]
 exact Nat.mul_le_mul_right _ hge

theorem lg_rest {f:Nat → Nat} {n N V:Nat} (hn:n ≤ N) (h:valF f N < V) (hV:V < 4294967296 ^ n):valF f n = valF f N:=by
 have e:=valF_add f n (N - n)
 rw [show n + (N - n) = N from by omega] at e
 rcases Nat.eq_zero_or_pos (valF (fun i => f (n + i)) (N - n)) with k | k
 ·rw [k] at e; omega
 ·exfalso
  have:4294967296 ^ n * 1 ≤ 4294967296 ^ n * valF (fun i => f (n + i)) (N - n):=Nat.mul_le_mul_left _ k
  omega

def QRF (w w':World) (q r:Nat) (e:Ending):Prop :=
 ∃ aq mq zq ar mr zr,e = .returned (.tuple #[.slice aq mq mq,.slice ar mr mr]) ∧ Sl w' aq mq mq zq ∧ Rep q zq ∧ NewAt w.heap.size aq ∧ Sl w' ar mr mr zr ∧ Rep r zr ∧ NewAt w.heap.size ar ∧ (∀ x y,aq = some x → ar = some y → x.block ≠ y.block) ∧ Below w.heap.size w w' ∧ Fz w' ar mr
theorem QRF.post {w w':World} {q r:Nat} {e:Ending} (h:QRF w w' q r e):QRPost w w' q r e:=by
 obtain ⟨aq,mq,zq,ar,mr,zr,h1,h2,h3,h4,h5,h6,h7,h8,h9,_⟩:=h
 exact ⟨aq,mq,zq,ar,mr,zr,h1,h2,h3,h4,h5,h6,h7,h8,h9⟩

set_option maxHeartbeats 8000000 in
theorem divLong_someF (b1 o1 n1 c1 b2 o2 n2 c2:Nat) (xs ys:List Nat) (w:World) (h1:Sl w (some ⟨b1,o1,none⟩) n1 c1 xs) (h2:Sl w (some ⟨b2,o2,none⟩) n2 c2 ys) (ox:Ok xs) (oy:Ok ys) (ny:Norm ys) (hn1:n1 ≤ 2048) (hn2:2 ≤ n2) (hle:n2 ≤ n1) :
  Calls Tryz.prog 197 #[.slice (some ⟨b1,o1,none⟩) n1 c1,.slice (some ⟨b2,o2,none⟩) n2 c2] w fun e w' => QRF w w' (val xs / val ys) (val xs % val ys) e:=by
 have hl1:=h1.len
 have hl2:=h2.len
 have hy0:ys ≠ []:=by intro e; subst e; simp at hl2; omega
 have ht:ys.getD (n2 - 1) 0 ≠ 0:=by rw [← hl2]; exact ny.resolve_left hy0
 have bt:=oy.getD (n2 - 1)
 have ct:w.cell? ⟨b2,o2 + (n2 - 1),none⟩ = some (.int .u32 (ys.getD (n2 - 1) 0:Nat)):=by
  rcases h2.cells with e | ⟨b,o,e,hc⟩
  ·exact absurd e hy0
  ·cases e; exact hc _ (by omega)
 have bl1:=bl_pos _ ht (by omega)
 have bl2:Lib.bitLen (ys.getD (n2 - 1) 0) ≤ 32:=Lib.bitLen_le _ 32 (by omega) (by omega)
 obtain ⟨s,hs⟩:∃ s,Lib.bitLen (ys.getD (n2 - 1) 0) + s = 32:=⟨32 - Lib.bitLen (ys.getD (n2 - 1) 0),by omega⟩
 have KZ:=lz32_any (ys.getD (n2 - 1) 0) w bt
 rw [show (32:Int) - (Lib.bitLen (ys.getD (n2 - 1) 0):Int) = (s:Int) from by omega] at KZ
 have hs31:s ≤ 31:=by omega
 have KZ':=Hd KZ
 have KV:=Hd (shl_any _ n2 c2 ys w s h2 oy (by omega) (by omega))
 have HV:=Hd (fun (zs:List Nat) (hr:Rep (val ys * 2 ^ s) zs) => norm_shift hl2 (by omega) oy hs ht hr)
 have HX:=Hd h1
 have HL1:=Hd hl1
 have HL2:=Hd hl2
 have j1:((n2:Int) - 1).toNat = n2 - 1:=by omega
 have hvy:0 < val ys:=by
  have a:=val_ge_of_norm ny hy0
  have b:=pow_pos (ys.length - 1)
  omega
 have hgeY:=Hd (val_ge_of_norm ny hy0)
 generalize ys.getD (n2 - 1) 0 = t at ct KZ'
 clear KZ h1 h2 hs bl1 bl2 bt ht hl1 hl2
 go_enter Tryz.func197,Tryz.ntmps197
 go_wp2_with fail
 refine (Uh KZ').mono ?_
 rintro e w' ⟨rfl,hw⟩
 obtain rfl:=hw.symm
 clear hw
 go_wp2_with fail
 refine (Uh KV).mono ?_
 rintro e w1 ⟨av,mv,vs,rfl,hsv,hrv,hav,hbv⟩
 have hvl:=Uh HV vs hrv
 have hmv:n2 = mv:=by rw [← hsv.len]; exact hvl.1.symm
 subst hmv
 have htv:=hvl.2
 have hvne:vs ≠ []:=by intro e; have:=hvl.1; rw [e] at this; simp at this; omega
 obtain ⟨bv,ov,rfl,hvc⟩:=hsv.cells.resolve_left hvne
 have hbvn:w.heap.size ≤ bv:=hav _ rfl
 have hbvl:bv < w1.heap.size:=World.block_lt_of_cell? _ _ (hvc 0 (by have:=hvl.1; omega))
 have HVL:=Hd hvl.1
 have HVR:=Hd hrv
 have HVC:=Hd hvc
 have HB1:=Hd hbv
 have hmk:=make_len1 n1 (by omega)
 have HS1:=Hd ((Uh HX).below hbv)
 clear hvl hsv hrv hav hbv hvc hvne KV HV KZ'
 have KX:=Hd (shl_any _ n1 c1 xs (w1.alloc (.cells (madeCells #[.int .u32 0] (n1 + 1)) 43)) s ((Uh HS1).below ((Below.refl w1.heap.size w1).alloc (Nat.le_refl _) _)) ox hn1 (by omega))
 have HP1:=Hd (Part.of_zero (Fn.made w1 (n1 + 1) 43))
 have HB2:=Hd ((Uh HB1).trans (((Below.refl w1.heap.size w1).alloc (Nat.le_refl _) (.cells (madeCells #[.int .u32 0] (n1 + 1)) 43)).mono (Uh HB1).size))
 have HVC2:=Hd ((Uh HVC).below ((Below.refl w1.heap.size w1).alloc (Nat.le_refl _) (.cells (madeCells #[.int .u32 0] (n1 + 1)) 43)))
 go_wp2_with fail
 refine (Uh KX).mono ?_
 rintro e w2 ⟨ax,mx,zs,rfl,hsx,hrx,hax,hbx⟩
 have hmx:mx ≤ n1 + 1:=by
  rw [← hsx.len]
  refine rep_len_le' hrx ?_
  have a1:=val_lt ox
  rw [Uh HL1] at a1
  have a2:(2:Nat) ^ s ≤ 4294967296:=Nat.le_trans (Nat.pow_le_pow_right (by decide) (show s ≤ 32 by omega)) (by decide)
  rw [Nat.pow_succ]
  exact Nat.mul_lt_mul_of_lt_of_le a1 a2 (by decide)
 have HP2:=Hd ((Uh HP1).below hbx)
 have HVC3:=Hd ((Uh HVC2).below hbx)
 have HB3:=Hd ((Uh HB2).trans (hbx.mono (Uh HB2).size))
 have hsz2:w1.heap.size < w2.heap.size:=by have:=hbx.size; simp at this; omega
 have HRX:=Hd hrx
 have HSX:=Hd hsx
 have hmk2:=make_dif1 n1 n2 hle (by omega)
 clear hsx hrx hax hbx KX HP1 HB2 HVC2 HVC HB1 hmk
 go_wp2_with (refine wpList_copy_part rfl _ _ rfl w1.heap.size 0 (n1 + 1) (n1 + 1) ax mx mx rfl rfl (Uh HP2) zs (Uh HSX) (Uh HRX).ok hmx ?_; intro w3 hu3 hp3; have HU3:=Hd hu3; have HP3:=Hd hp3; clear hu3 hp3 HP2)
 have hsz3:w2.heap.size ≤ w3.heap.size:=(Uh HU3).size
 have hbu:w.heap.size ≤ w1.heap.size:=by have:=(Uh HB3).size; omega
 have hV:=Hd (show val vs < 4294967296 ^ n2 from by have:=val_lt (Uh HVR).ok; rwa [Uh HVL] at this)
 have HR0:=Hd (show ∃ f,LgR (w3.alloc (.cells (madeCells #[.int .u32 0] (n1 - n2 + 1)) 43)) w w1.heap.size w3.heap.size bv ov n1 n2 (n1 - n2 + 1) vs (val xs * 2 ^ s) (val vs) (n1 - n2 + 1) f (fun _ => 0) from by
  obtain ⟨f,F,hf,hv⟩:=Uh HP3
  have bel:=(Below.refl w3.heap.size w3).alloc (Nat.le_refl _) (.cells (madeCells #[.int .u32 0] (n1 - n2 + 1)) 43)
  rw [(Uh HRX).val] at hv
  refine ⟨f,F.below bel,hf,Fn.made w3 (n1 - n2 + 1) 43,fun _ _ => by decide,?_,?_,((Uh HU3).cells (Uh HVC3) (.inl (by omega))).below bel,?_⟩
  ·rw [Nat.sub_self]; simp only [valF,Nat.zero_mul,Nat.mul_zero,Nat.add_zero]; exact hv
  ·rw [hv,(Uh HVR).val]
   exact lg_start ox (Uh HL1) (Uh HL2) (Uh hgeY) (by omega) hle
  ·exact (Uh HB3).trans (((Uh HU3).below hbu (Uh HB3).size).trans (bel.mono (by omega))))
 have hbq:w1.heap.size ≠ w3.heap.size:=by omega
 have hb2:bv ≠ w1.heap.size:=by omega
 have hb3:bv ≠ w3.heap.size:=by omega
 have hq0:w.heap.size ≤ w3.heap.size:=by omega
 generalize hbuE:w1.heap.size = bu at *
 generalize hbqE:w3.heap.size = bq at *
 clear HP3 HU3 HVC3 HB3 hmk2 HSX HS1 HX
 go_loopw [10] (fun i wr => ∃ k:Nat,∃ f g:Nat → Nat,k ≤ n1 - n2 + 1 ∧ i = .int .i64 ((k:Int) - 1) ∧ LgR wr w bu bq bv ov n1 n2 (n1 - n2 + 1) vs (val xs * 2 ^ s) (val vs) k f g) (fun i _ => (intOf i + 1).toNat)
 case atStart =>
  obtain ⟨f,hR⟩:=Uh HR0
  exact ⟨n1 - n2 + 1,f,_,Nat.le_refl _,by congr 1; omega,hR⟩
 case round =>
  clear HR0
  obtain ⟨k,f,g,hk,rfl,hR⟩:=hrel
  rcases k with _ | k
  ·have hV':=Uh hV
   have hlt:=hR.lt
   rw [Nat.pow_zero,Nat.mul_one] at hlt
   have hrest:=lg_rest (n:=n2) (by omega) hlt hV'
   have htot:=hR.tot
   simp only [Nat.pow_zero,Nat.one_mul,Nat.zero_add,Nat.sub_zero] at htot
   rw [(Uh HVR).val] at htot hlt
   have hqr:=qr_unique hvy htot hlt
   have KT:=trim_any (some ⟨bq,0,none⟩) (n1 - n2 + 1) (n1 - n2 + 1) _ wr.drew ((fn_drew hR.qn).sl (Nat.le_refl _) (by unfold maxLen; omega)) (lst_ok hR.qk)
   rw [lst_val,hqr.1] at KT
   have fl:Fn wr.drew bu 0 n2 f:=fun i hi => hR.fn i (by omega)
   have KS:=shr_anyF (some ⟨bu,0,none⟩) n2 (n1 + 1) _ wr.drew s (fl.sl (by omega) (by unfold maxLen; omega)) (lst_ok (fun i hi => hR.ok i (by omega))) (by omega) (by omega)
   rw [lst_val,hrest,hqr.2] at KS
   have KT':=Hd KT
   have KS':=Hd KS
   have HB:=Hd hR.bel.drew
   have hbql:bq < wr.drew.heap.size:=World.block_lt_of_cell? _ _ (hR.qn 0 (by omega)).1
   clear KT KS fl hqr htot hrest hlt hV' hR
   have t1:¬ (0:Int) ≤ ((0:Nat):Int) - 1:=by omega
   have t2:(n2:Int) ≤ (n1:Int) + 1:=by omega
   go_wp2_with fail
   go_region_with (first | (go_at_call 143; refine (Uh KT').mono ?_; rintro e w' ⟨aq,mq,zq,rfl,hsq,hrq,haq,hw⟩; obtain rfl:=hw.symm; have HSQ:=Hd hsq; have HRQ:=Hd hrq; have HAQ:=Hd haq; clear hsq hrq haq KT') | (go_at_call 187; refine (Uh KS').mono ?_; rintro e w6 ⟨ar,mr,zr,rfl,hsr,hrr,har,hbr,hfr⟩; have HZ:=Hd (And.intro hsr (And.intro hrr (And.intro har (And.intro hbr hfr)))); clear hsr hrr har hbr hfr KS'))
   all_goals
    go_wp2
    go_ret2
    obtain ⟨hsr,hrr,har,hbr,hfr⟩:=Uh HZ
    refine ⟨aq,mq,zq,ar,mr,zr,rfl,(Uh HSQ).below hbr,Uh HRQ,?_,hsr,hrr,fun x hx => Nat.le_trans (Uh HB).size (har x hx),?_,(Uh HB).trans (hbr.mono (Uh HB).size),hfr⟩
    ·intro x hx
     rcases Uh HAQ with e | e
     ·rw [e] at hx; cases hx; exact hq0
     ·rw [e] at hx; cases hx
    ·intro x y hx hy
     have:=har y hy
     rcases Uh HAQ with e | e
     ·rw [e] at hx; cases hx; simp only at *; omega
     ·rw [e] at hx; cases hx
  ·have t0:((k + 1:Nat):Int) - 1 = (k:Int):=by omega
   rw [t0]
   have hkm:k < n1 - n2 + 1:=by omega
   have t1:(k:Int) < (n1:Int) - (n2:Int) + 1:=by omega
   have t2:(k:Int) + (n2:Int) + 1 ≤ (n1:Int) + 1:=by omega
   have t3:k + n2 + 1 - k = n2 + 1:=by omega
   have hwin:=hR.win (by omega) hkm (Uh hV)
   have fw:=hR.fn.part k (n2 + 1) (by omega)
   rw [Nat.zero_add] at fw
   have KQ:=Hd (takeQ_any bu k n2 bv ov n2 (fun i => f (k + i)) vs wr hn2 (by omega) (Uh HVL) (Nat.le_refl _) (by unfold maxLen; omega) (Uh HVR).ok (fun i hi => hR.ok _ (by omega)) htv hwin.1 fw hR.vc hb2)
   have HR:=Hd hR
   have q1:=(hR.qn k hkm).1
   have q2:=(hR.qn k hkm).2
   rw [Nat.zero_add] at q1 q2
   clear hR hwin fw
   go_wp2_with fail
   refine (Uh KQ).mono ?_
   rintro e w5 ⟨q,f',rfl,hqb,hF,hok,hval,hlt,u⟩
   have hs:=(Uh HR).step (by omega) hkm (Uh hV) hbq.symm hb2 hb3 hbu hq0 hqb hF hok hval hlt u
   rw [Nat.zero_add] at hs
   have q3:=(u.fn (Uh HR).qn (.inl hbq.symm) k hkm).1
   have q4:=(u.fn (Uh HR).qn (.inl hbq.symm) k hkm).2
   rw [Nat.zero_add] at q3 q4
   have HS:=Hd hs
   clear hs hF hok hval hlt u KQ q1 q2
   go_wp2
   exact ⟨⟨k,_,_,by omega,rfl,Uh HS⟩,by simp [intOf]⟩

theorem divLong_some (b1 o1 n1 c1 b2 o2 n2 c2:Nat) (xs ys:List Nat) (w:World) (h1:Sl w (some ⟨b1,o1,none⟩) n1 c1 xs) (h2:Sl w (some ⟨b2,o2,none⟩) n2 c2 ys) (ox:Ok xs) (oy:Ok ys) (ny:Norm ys) (hn1:n1 ≤ 2048) (hn2:2 ≤ n2) (hle:n2 ≤ n1) :
  Calls Tryz.prog 197 #[.slice (some ⟨b1,o1,none⟩) n1 c1,.slice (some ⟨b2,o2,none⟩) n2 c2] w fun e w' => QRPost w w' (val xs / val ys) (val xs % val ys) e :=
 (divLong_someF b1 o1 n1 c1 b2 o2 n2 c2 xs ys w h1 h2 ox oy ny hn1 hn2 hle).mono fun _ _ h => h.post
end Go.Proofs.YtlolnaegfponeaaGreatDoor
