/- Cgj -/
import Derived.Test.YtjdljjkmhdgghaaCgd
import Derived.Test.YtjdljjkmhdgghaaCgf
import Derived.Test.YtjdljjkmhdgghaaCgi
import Derived.Test.YtjdljjkmhdgghaaSi8
namespace Go.Proofs.Ytjdljjkmhdgghaa
open Go.RowKit Go.Deep
set_option linter.unusedVariables false
structure TwoP (f1 f2:Nat) (x1 x2:List Value) (y2:List Value) (rows width:Int) (n1 n2:Nat) (st cols:List Int) (n:Nat) (S C:List Int) (er:Int):Prop where
 lS:S.length ≤ 1000000
 lC:C.length ≤ 1000000
 one:∀ (W:World) (a1 a2:Option Addr) (c1 c2:Nat),SlI W a1 n1 c1 st → SlI W a2 n2 c2 cols → Calls Try.prog f1 (x1 ++ [patV rows width a1 n1 c1 a2 n2 c2]).toArray W fun e w' => GqP W w' e n S C er
 two:∀ (W:World) (a1 a2:Option Addr) (c1 c2:Nat),SlI W a1 n1 c1 st → SlI W a2 n2 c2 cols → Calls Try.prog f2 (x2 ++ [patV rows width a1 n1 c1 a2 n2 c2] ++ y2).toArray W fun e w' => GqP W w' e n S C er
theorem gr_short (P:Nat → Nat → Prop) (n:Nat) (hn:n ≤ 128):(grS P n n).length ≤ 1000000 ∧ (grC P n n).length ≤ 1000000:=by
 have h1:=grS_len P n n
 have h2:=grC_len P n n
 have h3:n * n ≤ 128 * 128:=Nat.mul_le_mul hn hn
 omega
theorem MayP.nats {rows width:Int} {st cols:List Int} (h:MayP rows width st cols):∃ R Wd:Nat,rows = (R:Int) ∧ width = (Wd:Int) ∧ R ≤ 128 ∧ Wd ≤ 128:=by
 have:=h.head.fit
 exact ⟨rows.toNat,width.toNat,by omega,by omega,by omega,by omega⟩
theorem cols_two (rows width:Int) (n1 n2:Nat) (st cols:List Int) (hb1:n1 ≤ 17592186044000) (hb2:n2 ≤ 17592186044000):∃ n S C er,TwoP 4 6 [] [] [.bool false] rows width n1 n2 st cols n S C er:=by
 by_cases hm:MayP rows width st cols
 ·obtain ⟨R,Wd,rfl,rfl,h1,h2⟩:=hm.nats
  exact ⟨_,_,_,0,(gr_short (CoP st cols R) Wd h2).1,(gr_short (CoP st cols R) Wd h2).2,fun W a1 a2 c1 c2 s1 s2 => ccolumns_yes R Wd a1 a2 n1 c1 n2 c2 st cols W s1 s2 (by omega) (by omega) hm,fun W a1 a2 c1 c2 s1 s2 => wLines_cols R Wd a1 a2 n1 c1 n2 c2 st cols W s1 s2 (by omega) (by omega) hm⟩
 ·exact ⟨0,[],[],180,Nat.zero_le _,Nat.zero_le _,fun W a1 a2 c1 c2 s1 s2 => ccolumns_no rows width a1 a2 n1 c1 n2 c2 st cols W s1 s2 (by omega) (by omega) hm,fun W a1 a2 c1 c2 s1 s2 => wLines_no rows width a1 a2 n1 c1 n2 c2 st cols W s1 s2 (by omega) (by omega) false hm⟩
theorem rows_two (rows width:Int) (n1 n2:Nat) (st cols:List Int) (hb1:n1 ≤ 17592186044000) (hb2:n2 ≤ 17592186044000):∃ n S C er,TwoP 7 6 [] [] [.bool true] rows width n1 n2 st cols n S C er:=by
 by_cases hm:MayP rows width st cols
 ·obtain ⟨R,Wd,rfl,rfl,h1,h2⟩:=hm.nats
  exact ⟨_,_,_,0,(gr_short (RwP st cols Wd) R h1).1,(gr_short (RwP st cols Wd) R h1).2,fun W a1 a2 c1 c2 s1 s2 => crowsf_yes R Wd a1 a2 n1 c1 n2 c2 st cols W s1 s2 (by omega) (by omega) hm,fun W a1 a2 c1 c2 s1 s2 => wLines_rows R Wd a1 a2 n1 c1 n2 c2 st cols W s1 s2 (by omega) (by omega) hm⟩
 ·exact ⟨0,[],[],180,Nat.zero_le _,Nat.zero_le _,fun W a1 a2 c1 c2 s1 s2 => crowsf_no rows width a1 a2 n1 c1 n2 c2 st cols W s1 s2 (by omega) (by omega) hm,fun W a1 a2 c1 c2 s1 s2 => wLines_no rows width a1 a2 n1 c1 n2 c2 st cols W s1 s2 (by omega) (by omega) true hm⟩
theorem near_two (rows width:Int) (n1 n2:Nat) (st cols:List Int) (hb1:n1 ≤ 17592186044000) (hb2:n2 ≤ 17592186044000):∃ n S C er,TwoP 8 9 [] [] [] rows width n1 n2 st cols n S C er:=by
 by_cases hm:MayP rows width st cols
 ·obtain ⟨R,Wd,rfl,rfl,h1,h2⟩:=hm.nats
  by_cases hg:GraP st cols R Wd
  ·obtain rfl:=hg.1
   exact ⟨_,_,_,0,(gr_short (NeP st cols R) R h1).1,(gr_short (NeP st cols R) R h1).2,fun W a1 a2 c1 c2 s1 s2 => cnearf_yes R a1 a2 n1 c1 n2 c2 st cols W s1 s2 hb1 hb2 hm hg (NeP st cols R) (fun u v hu hv => NrP.ne hm hg hu hv),fun W a1 a2 c1 c2 s1 s2 => wnear_yes R a1 a2 n1 c1 n2 c2 st cols W s1 s2 (by omega) (by omega) hm hg⟩
  ·refine ⟨0,[],[],220,Nat.zero_le _,Nat.zero_le _,fun W a1 a2 c1 c2 s1 s2 => cnearf_no R Wd a1 a2 n1 c1 n2 c2 st cols W s1 s2 hb1 hb2 220 (by decide) (fun V k => ?_),fun W a1 a2 c1 c2 s1 s2 => wnear_no R Wd a1 a2 n1 c1 n2 c2 st cols W s1 s2 (by omega) (by omega) 220 (by decide) (fun V k => wthings_bad R Wd a1 a2 n1 c1 n2 c2 st cols V (s1.below k) (s2.below k) (by omega) (by omega) hm hg)⟩
   by_cases hs:R = Wd ∧ SyP st cols R
   ·obtain ⟨rfl,hsy⟩:=hs
    have hd:DiP st cols R:=Classical.byContradiction (fun h => hg ⟨rfl,hsy,h⟩)
    exact citself_diag R a1 a2 n1 c1 n2 c2 st cols V (s1.below k) (s2.below k) hb1 hb2 hm hsy hd
   ·exact citself_asym R Wd a1 a2 n1 c1 n2 c2 st cols V (s1.below k) (s2.below k) hb1 hb2 hm hs
 ·exact ⟨0,[],[],180,Nat.zero_le _,Nat.zero_le _,fun W a1 a2 c1 c2 s1 s2 => cnearf_no rows width a1 a2 n1 c1 n2 c2 st cols W s1 s2 hb1 hb2 180 (by decide) (fun V k => citself_no rows width a1 a2 n1 c1 n2 c2 st cols V (s1.below k) (s2.below k) hb1 hb2 hm),fun W a1 a2 c1 c2 s1 s2 => wnear_no rows width a1 a2 n1 c1 n2 c2 st cols W s1 s2 (by omega) (by omega) 180 (by decide) (fun V k => wthings_no 1 rows width a1 a2 n1 c1 n2 c2 st cols V (s1.below k) (s2.below k) (by omega) (by omega) hm)⟩
set_option maxRecDepth 100000 in
set_option maxHeartbeats 16000000 in
theorem samePat_eq (n:Nat) (S C:List Int) (a1 a2 b1 b2:Option Addr) (c1 c2 d1 d2:Nat) (w:World) (h1:SlI w a1 S.length c1 S) (h2:SlI w a2 C.length c2 C) (k1:SlI w b1 S.length d1 S) (k2:SlI w b2 C.length d2 C) (hS:S.length ≤ 1000000) (hC:C.length ≤ 1000000) :
  Calls Try.prog 11 #[.agg #[.int .i64 (n:Int),.int .i64 (n:Int),.slice a1 S.length c1,.slice a2 C.length c2],.agg #[.int .i64 (n:Int),.int .i64 (n:Int),.slice b1 S.length d1,.slice b2 C.length d2]] w fun e w' => e = .returned (.bool true) ∧ Below w.heap.size w w':=by
 obtain ⟨wa,hwa⟩:∃ x,w.alloc (.cells #[.int .i64 (n:Int),.int .i64 (n:Int),.slice a1 S.length c1,.slice a2 C.length c2] 24) = x:=⟨_,rfl⟩
 have ba:Below w.heap.size w wa:=by rw [← hwa]; exact bAl
 have hA:=BoxP.made w #[.int .i64 (n:Int),.int .i64 (n:Int),.slice a1 S.length c1,.slice a2 C.length c2] 24
 rw [hwa] at hA
 obtain ⟨wb,hwb⟩:∃ x,wa.alloc (.cells #[.int .i64 (n:Int),.int .i64 (n:Int),.slice b1 S.length d1,.slice b2 C.length d2] 24) = x:=⟨_,rfl⟩
 have bb:Below wa.heap.size wa wb:=by rw [← hwb]; exact bAl
 have hB:=BoxP.made wa #[.int .i64 (n:Int),.int .i64 (n:Int),.slice b1 S.length d1,.slice b2 C.length d2] 24
 rw [hwb] at hB
 have hA1:=hA.below bb
 have p0:=(hA1.all 0 _ rfl).1
 have p1:=(hA1.all 1 _ rfl).1
 have p2:=(hA1.all 2 _ rfl).1
 have p3:=(hA1.all 3 _ rfl).1
 have q0:=(hB.all 0 _ rfl).1
 have q1:=(hB.all 1 _ rfl).1
 have q2:=(hB.all 2 _ rfl).1
 have q3:=(hB.all 3 _ rfl).1
 have bw:=ba.trans (bb.mono ba.size)
 have K1:=Hj (fun (W:World) (k:Below wb.heap.size wb W) => sameInts_eq a1 b1 S.length c1 d1 S W ((h1.below bw).below k) ((k1.below bw).below k) (by omega))
 have K2:=Hj (fun (W:World) (k:Below wb.heap.size wb W) => sameInts_eq a2 b2 C.length c2 d2 C W ((h2.below bw).below k) ((k2.below bw).below k) (by omega))
 have HB:=Hj bw
 have HAB:=Hj (And.intro hA1 hB)
 clear hA hB hA1 ba bb bw h1 h2 k1 k2
 go_enter Try.func11,Try.ntmps11
 go_wp2_with fail
 refine (Uh K1 _ (Below.refl _ _)).mono ?_
 rintro _ w3 ⟨rfl,m1,e3⟩
 have b3:Below wb.heap.size wb w3:=by rw [e3]; exact bel_drewN (Below.refl _ _) m1
 have hA3:=(Uh HAB).1.below b3
 have hB3:=(Uh HAB).2.below b3
 clear p0 p1 p2 p3 q0 q1 q2 q3 e3
 have p3:=(hA3.all 3 _ rfl).1
 have q3:=(hB3.all 3 _ rfl).1
 have HB3:=Hj b3
 clear hA3 hB3 b3
 go_wp2_with fail
 refine (Uh K2 _ (Uh HB3)).mono ?_
 rintro _ w4 ⟨rfl,m2,e4⟩
 have HB4:=Hj (show Below w3.heap.size w3 w4 by rw [e4]; exact bel_drewN (Below.refl _ _) m2)
 clear e4 p3 q3
 go_wp2_with fail
 try go_ret
 have h3:=(Uh HB).trans ((Uh HB3).mono (Uh HB).size)
 exact ⟨rfl,h3.trans ((Uh HB4).mono h3.size)⟩
set_option maxRecDepth 20000 in
set_option maxHeartbeats 1000000 in
theorem num12_any (x:Int) (w:World):Calls Try.prog 10 #[.int .i64 x] w fun e w' => e = .returned (.int .i64 x) ∧ w' = w:=by
 go_enter Try.func10,Try.ntmps10
 go_wp2_with fail
 try go_ret
 exact ⟨rfl,rfl⟩
structure PaB (W:World) (B:Nat) (v0 v1:Value) (X n:Nat) (S C:List Int) (a1:Option Addr) (c1:Nat) (a2:Option Addr) (c2:Nat):Prop where
 box:BoxP W X [.int .i64 (n:Int),.int .i64 (n:Int),.slice a1 S.length c1,.slice a2 C.length c2]
 s1:SlI W a1 S.length c1 S
 s2:SlI W a2 C.length c2 C
 nx:¬ Own B v0 v1 X
 n1:∀ z,a1 = some z → S ≠ [] → ¬ Own B v0 v1 z.block
 n2:∀ z,a2 = some z → C ≠ [] → ¬ Own B v0 v1 z.block
theorem PaB.below {W W':World} {B:Nat} {v0 v1:Value} {X n:Nat} {S C:List Int} {a1:Option Addr} {c1:Nat} {a2:Option Addr} {c2:Nat} (h:PaB W B v0 v1 X n S C a1 c1 a2 c2) (k:Below W.heap.size W W'):PaB W' B v0 v1 X n S C a1 c1 a2 c2 :=
 ⟨h.box.below k,h.s1.below k,h.s2.below k,h.nx,h.n1,h.n2⟩
theorem PaB.pat {W W':World} {B:Nat} {v0 v1 v0' v1':Value} {X n:Nat} {S C:List Int} {a1:Option Addr} {c1:Nat} {a2:Option Addr} {c2:Nat} (h:PaB W B v0 v1 X n S C a1 c1 a2 c2) (k:Chg (Own B v0 v1) W W') (safe:∀ k,k < W.heap.size → ¬ Own B v0 v1 k → ¬ Own B v0' v1' k):PaB W' B v0' v1' X n S C a1 c1 a2 c2 :=
 ⟨h.box.chg k h.nx,h.s1.chg k h.n1,h.s2.chg k h.n2,safe _ h.box.lt h.nx,fun z e1 e2 => safe _ (h.s1.block_lt e2 z e1) (h.n1 z e1 e2),fun z e1 e2 => safe _ (h.s2.block_lt e2 z e1) (h.n2 z e1 e2)⟩
theorem PaB.made {W W':World} {B:Nat} {v0 v1:Value} {es:List EntI} {rs:Nat → Value} {n:Nat} {S C:List Int} {a1:Option Addr} {c1:Nat} {a2:Option Addr} {c2:Nat} (hg:GivI W B v0 v1 es rs) (s1:SlI W' a1 S.length c1 S) (s2:SlI W' a2 C.length c2 C) (k:Below W.heap.size W W') (f1:∀ z,a1 = some z → W.heap.size ≤ z.block) (f2:∀ z,a2 = some z → W.heap.size ≤ z.block) :
  PaB (W'.alloc (.cells #[.int .i64 (n:Int),.int .i64 (n:Int),.slice a1 S.length c1,.slice a2 C.length c2] 24)) B v0 v1 W'.heap.size n S C a1 c1 a2 c2:=by
 have ba:Below W'.heap.size W' (W'.alloc (.cells #[.int .i64 (n:Int),.int .i64 (n:Int),.slice a1 S.length c1,.slice a2 C.length c2] 24)):=bAl
 refine ⟨BoxP.made W' _ _,s1.below ba,s2.below ba,fun e => ?_,fun z hz _ e => ?_,fun z hz _ e => ?_⟩
 ·have:=hg.own_lt e; have:=k.size; omega
 ·have:=hg.own_lt e; have:=f1 z hz; omega
 ·have:=hg.own_lt e; have:=f2 z hz; omega
end Go.Proofs.Ytjdljjkmhdgghaa
