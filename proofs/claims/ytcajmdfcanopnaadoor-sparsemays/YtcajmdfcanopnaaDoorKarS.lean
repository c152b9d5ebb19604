/- Kar -/
import Derived.Test.YtcajmdfcanopnaaDoorNMul
namespace Go.Proofs.YtcajmdfcanopnaaDoor
open Go.RowKit Go.Deep
set_option linter.unusedVariables false
theorem Fn.below {w w':World} {b off n:Nat} {f:Nat → Nat} (h:Fn w b off n f) (k:Below w.heap.size w w'):Fn w' b off n f:=by
 intro i hi
 have:=h i hi
 have hlt:=World.block_lt_of_cell? _ _ this.1
 exact ⟨(k.cell hlt).trans this.1,(k.frozen hlt).trans this.2⟩

theorem Fn.part {w:World} {b off n:Nat} {f:Nat → Nat} (h:Fn w b off n f) (k m:Nat) (hm:k + m ≤ n):Fn w b (off + k) m (fun i => f (k + i)):=by
 intro i hi
 have:=h (k + i) (by omega)
 rw [← Nat.add_assoc] at this
 exact this

theorem Fn.join {w:World} {b off k m:Nat} {f g:Nat → Nat} (h1:Fn w b off k f) (h2:Fn w b (off + k) m g):Fn w b off (k + m) (fun i => if i < k then f i else g (i - k)):=by
 intro i hi
 by_cases e:i < k
 ·simp only [e,if_true]; exact h1 i e
 ·simp only [e,if_false]
  have:=h2 (i - k) (by omega)
  rw [show off + k + (i - k) = off + i from by omega] at this
  exact this

theorem valF_join (f g:Nat → Nat) (k m:Nat):valF (fun i => if i < k then f i else g (i - k)) (k + m) = valF f k + 4294967296 ^ k * valF g m:=by
 rw [valF_add,valF_congr (g:=f) (fun i hi => by simp [hi]),valF_congr (f:=fun j => if k + j < k then f (k + j) else g (k + j - k)) (g:=g) (fun i hi => by rw [if_neg (by omega),Nat.add_sub_cancel_left])]

theorem rep_len_le {v j:Nat} {zs:List Nat} (h:Rep v zs) (hv:v < 4294967296 ^ j):zs.length ≤ j:=by
 rcases Nat.lt_or_ge j zs.length with hlt | hge
 ·exfalso
  have h1:=val_ge_of_norm h.norm (by intro e; subst e; simp at hlt)
  rw [h.val] at h1
  have h2:4294967296 ^ j ≤ 4294967296 ^ (zs.length - 1):=pow_mono (by omega)
  omega
 ·exact hge

theorem carry_zero {x y P c:Nat} (h:x + P * c = y) (hy:y < P):c = 0 ∧ x = y:=by
 rcases Nat.eq_zero_or_pos c with h0 | h0
 ·subst h0; simp at h; exact ⟨rfl,h⟩
 ·exfalso
  have:P * 1 ≤ P * c:=Nat.mul_le_mul_left _ h0
  omega

structure PieceR (wr w:World) (bz oz nz:Nat) (xs ys:List Nat) (k:Nat) (f:Nat → Nat):Prop where
 fn:Fn wr bz oz nz f
 ok:∀ i,i < nz → f i < 4294967296
 vl:valF f nz = val (xs.take k) * val ys
 upd:Upd bz oz (oz + nz) w wr

theorem take_lt {xs:List Nat} (ox:Ok xs) (t:Nat) (h:t ≤ xs.length):val (xs.take t) < 4294967296 ^ t:=by
 have:=val_lt (ox.take t)
 rwa [List.length_take,Nat.min_eq_left h] at this

theorem take_split (xs:List Nat) (k p:Nat) (h:k + p ≤ xs.length):val (xs.take (k + p)) = val (xs.take k) + 4294967296 ^ k * val ((xs.drop k).take p):=by
 rw [List.take_add,val_append,List.length_take,Nat.min_eq_left (by omega)]

theorem PieceR.step {wr w w5 w6:World} {bz oz nz n1 n2:Nat} {xs ys:List Nat} {k p k' c:Nat} {f f':Nat → Nat} (h:PieceR wr w bz oz nz xs ys k f) (hl1:xs.length = n1) (hl2:ys.length = n2) (hnz:n1 + n2 = nz) (ox:Ok xs) (oy:Ok ys) (hp:k + p ≤ n1)
  (hk':xs.take k' = xs.take (k + p)) (bz5:bz < wr.heap.size) (b5:Below wr.heap.size wr w5) (hF:Fn w6 bz (oz + k) (nz - k) f') (hok:∀ i,i < nz - k → f' i < 4294967296)
  (hval:valF f' (nz - k) + 4294967296 ^ (nz - k) * c = valF (fun i => f (k + i)) (nz - k) + val ((xs.drop k).take p) * val ys) (hupd:Upd bz (oz + k) (oz + k + (nz - k)) w5 w6) :
  ∃ g,PieceR w6 w bz oz nz xs ys k' g:=by
 have hkn:k + (nz - k) = nz:=by omega
 have u1:Upd bz oz (oz + nz) wr w5:=.of_below bz5 b5
 have u2:Upd bz oz (oz + nz) w5 w6:=hupd.mono (by omega) (by omega)
 have fl:Fn w6 bz oz k f:=by
  have:=((h.fn.below b5).part 0 k (by omega))
  simp only [Nat.zero_add,Nat.add_zero] at this
  exact hupd.fn this (.inr (.inl (by omega)))
 have hj:=Fn.join fl hF
 rw [hkn] at hj
 refine ⟨_,hj,?_,?_,(h.upd.trans u1).trans u2⟩
 ·intro i hi
  by_cases e:i < k
  ·simp only [e,if_true]; exact h.ok i hi
  ·simp only [e,if_false]; exact hok _ (by omega)
 ·have e1:=valF_join f f' k (nz - k)
  rw [hkn] at e1
  rw [e1,hk',take_split xs k p (by omega)]
  have e2:=valF_add f k (nz - k)
  rw [hkn,h.vl] at e2
  have e3:valF f k + 4294967296 ^ k * valF f' (nz - k) + 4294967296 ^ nz * c = (val (xs.take k) + 4294967296 ^ k * val ((xs.drop k).take p)) * val ys:=by
   have e4:4294967296 ^ nz * c = 4294967296 ^ k * (4294967296 ^ (nz - k) * c):=by rw [← Nat.mul_assoc,← Nat.pow_add,hkn]
   rw [e4,Nat.add_assoc,← Nat.mul_add,hval,Nat.mul_add,← Nat.add_assoc,← e2,Nat.add_mul,Nat.mul_assoc]
  have hlt:(val (xs.take k) + 4294967296 ^ k * val ((xs.drop k).take p)) * val ys < 4294967296 ^ nz:=by
   rw [← take_split xs k p (by omega)]
   have a1:=take_lt ox (k + p) (by omega)
   have a2:=val_lt oy
   have a3:4294967296 ^ (k + p) ≤ 4294967296 ^ n1:=pow_mono hp
   rw [← hnz,Nat.pow_add,← hl2]
   exact Nat.mul_lt_mul_of_lt_of_le (by omega) (by omega) (pow_pos _)
  exact (carry_zero e3 hlt).2
theorem Sl.part {w:World} {b off n c:Nat} {xs:List Nat} (h:Sl w (some ⟨b,off,none⟩) n c xs) (k p c':Nat) (hp:k + p ≤ n) (hc:p ≤ c') (hm:c' ≤ maxLen):Sl w (some ⟨b,off + k,none⟩) p c' ((xs.drop k).take p):=by
 have hl:=h.len
 refine ⟨by simp; omega,hc,hm,?_⟩
 rcases h.cells with e | ⟨b',o',e,hh⟩
 ·left; subst e; simp
 ·right
  injection e with e
  injection e with e1 e2
  subst e1 e2
  refine ⟨_,_,rfl,?_⟩
  intro i hi
  have hi':i < p:=by simp at hi; omega
  have:=hh (k + i) (by omega)
  rw [← Nat.add_assoc] at this
  rw [this]
  simp [List.getD,hi']

theorem Sl.upd {w w':World} {b off n c bz lo hi:Nat} {xs:List Nat} (h:Sl w (some ⟨b,off,none⟩) n c xs) (u:Upd bz lo hi w w') (hd:b ≠ bz ∨ off + xs.length ≤ lo ∨ hi ≤ off):Sl w' (some ⟨b,off,none⟩) n c xs:=by
 refine ⟨h.len,h.le,h.cap,?_⟩
 rcases h.cells with e | ⟨b',o',e,hh⟩
 ·exact .inl e
 ·right
  injection e with e
  injection e with e1 e2
  subst e1 e2
  exact ⟨_,_,rfl,u.cells hh hd⟩
def Part (v:World) (b off n V:Nat):Prop:=∃ f,Fn v b off n f ∧ (∀ i,i < n → f i < 4294967296) ∧ valF f n = V

theorem Part.upd {v v':World} {b off n V bz lo hi:Nat} (h:Part v b off n V) (u:Upd bz lo hi v v') (hd:b ≠ bz ∨ off + n ≤ lo ∨ hi ≤ off):Part v' b off n V:=by
 obtain ⟨f,h1,h2,h3⟩:=h
 exact ⟨f,u.fn h1 hd,h2,h3⟩
theorem Part.below {v v':World} {b off n V:Nat} (h:Part v b off n V) (u:Below v.heap.size v v'):Part v' b off n V:=by
 obtain ⟨f,h1,h2,h3⟩:=h
 exact ⟨f,h1.below u,h2,h3⟩
theorem Part.sl {v:World} {b off n V c:Nat} (h:Part v b off n V) (hc:n ≤ c) (hm:c ≤ maxLen):∃ zs,Sl v (some ⟨b,off,none⟩) n c zs ∧ Ok zs ∧ val zs = V:=by
 obtain ⟨f,h1,h2,h3⟩:=h
 exact ⟨lst f n,h1.sl hc hm,lst_ok h2,(lst_val f n).trans h3⟩

structure HalfZ (v w:World) (bz oz nz h L H b1 o1 n1 c1 b2 o2 n2 c2:Nat) (xs ys:List Nat):Prop where
 lo:Part v bz oz (2 * h) L
 hi:Part v bz (oz + 2 * h) (nz - 2 * h) H
 upd:Upd bz oz (oz + nz) w v
 sa:Sl v (some ⟨b1,o1,none⟩) n1 c1 xs
 sb:Sl v (some ⟨b2,o2,none⟩) n2 c2 ys

theorem HalfZ.keep {v v' w:World} {bz oz nz h L H b1 o1 n1 c1 b2 o2 n2 c2:Nat} {xs ys:List Nat} (z:HalfZ v w bz oz nz h L H b1 o1 n1 c1 b2 o2 n2 c2 xs ys) {R lo hi:Nat} (u:Upd R lo hi v v') (hR:bz ≠ R) (h1:b1 ≠ R) (h2:b2 ≠ R) (hbz:bz < v.heap.size) (hw:w.heap.size ≤ R):HalfZ v' w bz oz nz h L H b1 o1 n1 c1 b2 o2 n2 c2 xs ys:=by
 have eb:=u.block bz hbz hR
 refine ⟨z.lo.upd u (.inl hR),z.hi.upd u (.inl hR),⟨u.os.trans z.upd.os,u.tape.trans z.upd.tape,u.output.trans z.upd.output,Nat.le_trans z.upd.size u.size,?_,?_,?_⟩,z.sa.upd u (.inl h1),z.sb.upd u (.inl h2)⟩
 ·intro k hk hb
  rw [u.block k (Nat.lt_of_lt_of_le hk z.upd.size) (by omega)]
  exact z.upd.block k hk hb
 ·intro i hi
  rw [World.cell?_of_block (w:=v) (a:=⟨bz,i,none⟩) eb]
  exact z.upd.cell i hi
 ·intro i
  rw [World.frozen?_of_block (w:=v) (a:=⟨bz,i,none⟩) eb]
  exact z.upd.froz i

theorem HalfZ.below {v v' w:World} {bz oz nz h L H b1 o1 n1 c1 b2 o2 n2 c2:Nat} {xs ys:List Nat} (z:HalfZ v w bz oz nz h L H b1 o1 n1 c1 b2 o2 n2 c2 xs ys) (hbz:bz < v.heap.size) (u:Below v.heap.size v v'):HalfZ v' w bz oz nz h L H b1 o1 n1 c1 b2 o2 n2 c2 xs ys :=
 ⟨z.lo.below u,z.hi.below u,z.upd.trans (.of_below hbz u),z.sa.below u,z.sb.below u⟩

open Go.RowKit Go.Deep
set_option linter.unusedVariables false

structure HalfS (v w:World) (bz oz nz h L H b1 o1 n1 c1 b2 o2 n2 c2:Nat) (xs ys:List Nat) (R A B C:Nat):Prop where
 z:HalfZ v w bz oz nz h L H b1 o1 n1 c1 b2 o2 n2 c2 xs ys
 pa:Part v R 0 (h + 1) A
 pb:Part v R (h + 1) (h + 1) B
 pc:Part v R (2 * (h + 1)) (2 * (h + 1)) C
 rz:bz < R
 r1:b1 < R
 r2:b2 < R
 rw:w.heap.size ≤ R
 rv:R < v.heap.size

theorem valF_eq_zero {f:Nat → Nat}:∀ {n:Nat},valF f n = 0 → ∀ i,i < n → f i = 0
 | 0,_,i,hi => by omega
 | n + 1,h,i,hi => by
  simp only [valF] at h
  have h1:valF f n = 0:=by omega
  have h2:4294967296 ^ n * f n = 0:=by omega
  have h3:f n = 0:=by
   rcases Nat.mul_eq_zero.1 h2 with e | e
   ·have:=pow_pos n; omega
   ·exact e
  by_cases e:i = n
  ·subst e; exact h3
  ·exact valF_eq_zero h1 i (by omega)

theorem Part.zero {v:World} {b off n:Nat} (h:Part v b off n 0):Fn v b off n (fun _ => 0):=by
 obtain ⟨f,h1,_,h3⟩:=h
 exact h1.congr (fun i hi => valF_eq_zero h3 i hi)

theorem Part.of_zero {v:World} {b off n:Nat} (h:Fn v b off n (fun _ => 0)):Part v b off n 0:=⟨_,h,fun _ _ => by decide,valF_zero n⟩

theorem wpList_copy_part {w:World} {ops:Array Oper} {rest:List Oper} {o:Oper} {a:Act} {Q:Exit → Act → World → Prop} (hgd:o.guard = none) (d s:Operand)
  (ho:o.op = .call { callee:=.builtin .copy,args:=#[d,s],argTypes:=#[54,54] })
  (b off dLen dCap:Nat) (sp:Option Addr) (sLen sCap:Nat) (hd:a.eval d = .slice (some ⟨b,off,none⟩) dLen dCap) (hs:a.eval s = .slice sp sLen sCap)
  (hf:Part w b off dLen 0) (xs:List Nat) (hx:Sl w sp sLen sCap xs) (ok:Ok xs) (hle:sLen ≤ dLen)
  (h:∀ w',Upd b off (off + dLen) w w' → Part w' b off dLen (val xs) → wpList Tryd.prog ops Q rest (a.put o.dst (goInt xs.length)) w'):wpList Tryd.prog ops Q (o :: rest) a w:=by
 have hl:=hx.len
 have F:=hf.zero
 refine wpList_copy_row hgd d s ho b off dLen dCap sp sLen sCap hd hs _ F xs hx hle (h _ ?_ ?_)
 ·exact Upd.setCells b off (off + dLen) (vals xs) off w (Nat.le_refl _) (by simp [vals]; omega)
 ·exact ⟨_,F.copied xs (by omega),fun i _ => getD_lt (f:=fun _ => 0) ok i,valF_pad xs dLen (by omega)⟩

section
variable {v w:World} {bz oz nz h L H b1 o1 n1 c1 b2 o2 n2 c2:Nat} {xs ys:List Nat} {R A B C:Nat}

theorem HalfS.drewN (s:HalfS v w bz oz nz h L H b1 o1 n1 c1 b2 o2 n2 c2 xs ys R A B C) (q:Nat):HalfS (v.drewN q) w bz oz nz h L H b1 o1 n1 c1 b2 o2 n2 c2 xs ys R A B C :=
 have u:Below v.heap.size v (v.drewN q):=bel_drewN (Below.refl _ _) q
 ⟨s.z.below (Nat.lt_trans s.rz s.rv) u,s.pa.below u,s.pb.below u,s.pc.below u,s.rz,s.r1,s.r2,s.rw,s.rv⟩

theorem HalfS.start (z:HalfZ v w bz oz nz h L H b1 o1 n1 c1 b2 o2 n2 c2 xs ys) (hbz:bz < v.heap.size) (hb1:b1 < v.heap.size) (hb2:b2 < v.heap.size) (e:TypeId) :
  HalfS (v.alloc (.cells (madeCells #[.int .u32 0] (4 * (h + 1))) e)) w bz oz nz h L H b1 o1 n1 c1 b2 o2 n2 c2 xs ys v.heap.size 0 0 0:=by
 have bel:=(Below.refl v.heap.size v).alloc (Nat.le_refl _) (.cells (madeCells #[.int .u32 0] (4 * (h + 1))) e)
 have F:=Fn.made v (4 * (h + 1)) e
 have Fa:=F.part 0 (h + 1) (by omega)
 have Fb:=F.part (h + 1) (h + 1) (by omega)
 have Fc:=F.part (2 * (h + 1)) (2 * (h + 1)) (by omega)
 rw [Nat.zero_add] at Fa Fb Fc
 exact ⟨z.below hbz bel,.of_zero Fa,.of_zero Fb,.of_zero Fc,hbz,hb1,hb2,z.upd.size,by simp⟩

theorem HalfS.setA {v':World} (s:HalfS v w bz oz nz h L H b1 o1 n1 c1 b2 o2 n2 c2 xs ys R A B C) {A':Nat} (u:Upd R 0 (0 + (h + 1)) v v') (p:Part v' R 0 (h + 1) A'):HalfS v' w bz oz nz h L H b1 o1 n1 c1 b2 o2 n2 c2 xs ys R A' B C :=
 ⟨s.z.keep u (Nat.ne_of_lt s.rz) (Nat.ne_of_lt s.r1) (Nat.ne_of_lt s.r2) (Nat.lt_trans s.rz s.rv) s.rw,p,s.pb.upd u (.inr (.inr (by omega))),s.pc.upd u (.inr (.inr (by omega))),s.rz,s.r1,s.r2,s.rw,Nat.lt_of_lt_of_le s.rv u.size⟩

end
end Go.Proofs.YtcajmdfcanopnaaDoor
