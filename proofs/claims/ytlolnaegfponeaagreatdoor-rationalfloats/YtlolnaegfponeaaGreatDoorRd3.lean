/- Dv7 -/
import Derived.Test.YtlolnaegfponeaaGreatDoorDv6
import Derived.Test.YtlolnaegfponeaaGreatDoorWr7
import Derived.Test.YtlolnaegfponeaaGreatDoorDv4
namespace Go.Proofs.YtlolnaegfponeaaGreatDoor
open Go.RowKit Go.Deep
set_option linter.unusedVariables false
theorem val_one (d:Nat):val [d] = d:=by simp [val]

theorem len_one {ys:List Nat} (h:ys.length = 1):ys = [ys.getD 0 0]:=by
 match ys,h with
 | [a],_ => simp

theorem dm_one {x g d r:Nat} (h:x = g * d + r) (hr:r < d):g = x / d ∧ r = x % d:=by
 subst h
 constructor
 ·rw [Nat.add_comm,Nat.add_mul_div_right _ _ (by omega),Nat.div_eq_of_lt hr,Nat.zero_add]
 ·rw [Nat.add_comm,Nat.add_mul_mod_self_right,Nat.mod_eq_of_lt hr]

theorem sl_one (w:World) (r:Nat) (e:TypeId):Sl (w.alloc (.cells #[.int .u32 (r:Nat)] e)) (some ⟨w.heap.size,0,none⟩) 1 1 [r]:=by
 refine ⟨rfl,Nat.le_refl _,by decide,.inr ⟨_,_,rfl,?_⟩⟩
 intro i hi
 have:i = 0:=by simp at hi; omega
 subst this
 simp

set_option maxHeartbeats 2000000 in
theorem div_less (a1 a2:Option Addr) (n1 c1 n2 c2:Nat) (xs ys:List Nat) (w:World) (h1:Sl w a1 n1 c1 xs) (h2:Sl w a2 n2 c2 ys) (ox:Ok xs) (oy:Ok ys) (nx:Norm xs) (ny:Norm ys) (hn1:n1 ≤ 2048) (hlt:val xs < val ys) :
  Calls Tryz.prog 158 #[.slice a1 n1 c1,.slice a2 n2 c2] w fun e w' => QRPost w w' (val xs / val ys) (val xs % val ys) e:=by
 have KC:=compare_any a1 a2 n1 c1 n2 c2 xs ys w h1 h2 ox oy nx ny
 rw [cmpN_lt hlt] at KC
 have KC':=Hd KC
 have HL:=Hd h1.len
 have HS:=Hd h1
 have HN:=Hd nx
 have HE:=Hd (And.intro (Nat.div_eq_of_lt hlt) (Nat.mod_eq_of_lt hlt))
 clear KC h1 h2 nx ny hlt
 go_enter Tryz.func158,Tryz.ntmps158
 go_wp2_with fail
 refine (Uh KC').mono ?_
 rintro e w1 ⟨rfl,k,hw⟩
 have s1:Sl w1 a1 n1 c1 xs:=by rw [hw]; exact (Uh HS).drewN k
 have b1:Below w.heap.size w w1:=by rw [hw]; exact bel_drewN (Below.refl _ _) k
 have KL:=Hd (fun (v:World) (bv:Below w1.heap.size w1 v) => clone_any a1 n1 c1 xs v (s1.below bv) (by omega))
 have HB:=Hd b1
 clear hw s1 b1 KC'
 go_wp2_with fail
 refine (Uh KL _ (Below.refl _ _)).mono ?_
 rintro e w2 ⟨rfl,hF,hb⟩
 have HF:=Hd hF
 have HB2:=Hd hb
 clear hF hb KL
 go_wp2
 go_ret2
 rw [(Uh HE).1,(Uh HE).2]
 refine ⟨none,0,[],_,n1,xs,rfl,sl_nil _,⟨Ok.nil,.inl rfl,rfl⟩,newAt_nil _,?_,⟨ox,Uh HN,rfl⟩,?_,(fun x y hx _ => by cases hx),(Uh HB).trans ((Uh HB2).mono (Uh HB).size)⟩
 ·exact ⟨Uh HL,Nat.le_refl _,by unfold maxLen; omega,.inr ⟨_,_,rfl,fun i hi => ((Uh HF) i (by rw [← Uh HL]; exact hi)).1⟩⟩
 ·intro x hx
  cases hx
  exact (Uh HB).size

set_option maxHeartbeats 4000000 in
theorem div_one (b1 o1 n1 c1 b2 o2 c2:Nat) (xs:List Nat) (d:Nat) (w:World) (h1:Sl w (some ⟨b1,o1,none⟩) n1 c1 xs) (h2:Sl w (some ⟨b2,o2,none⟩) 1 c2 [d]) (ox:Ok xs) (oy:Ok [d]) (nx:Norm xs) (ny:Norm [d]) (hn1:n1 ≤ 2048) (hn0:0 < n1) (hge:val [d] ≤ val xs) :
  Calls Tryz.prog 158 #[.slice (some ⟨b1,o1,none⟩) n1 c1,.slice (some ⟨b2,o2,none⟩) 1 c2] w fun e w' => QRPost w w' (val xs / val [d]) (val xs % val [d]) e:=by
 have KC:=compare_any _ _ n1 c1 1 c2 xs [d] w h1 h2 ox oy nx ny
 have hc0:¬ cmpN (val xs) (val [d]) < 0:=by
  rcases Nat.lt_or_eq_of_le hge with h | h
  ·rw [cmpN_gt h]; decide
  ·rw [cmpN_eq h.symm]; decide
 generalize cmpN (val xs) (val [d]) = cc at *
 have KC':=Hd KC
 have HL:=Hd h1.len
 have HS:=Hd h1
 have HS2:=Hd h2
 have hd:=oy.head
 have hd0:d ≠ 0:=norm_one ny
 rw [val_one]
 clear KC h1 h2 nx ny hge
 go_enter Tryz.func158,Tryz.ntmps158
 go_wp2_with fail
 refine (Uh KC').mono ?_
 rintro e w1 ⟨rfl,k,hw⟩
 have s1:Sl w1 (some ⟨b1,o1,none⟩) n1 c1 xs:=by rw [hw]; exact (Uh HS).drewN k
 have s2:Sl w1 (some ⟨b2,o2,none⟩) 1 c2 [d]:=by rw [hw]; exact (Uh HS2).drewN k
 have b1':Below w.heap.size w w1:=by rw [hw]; exact bel_drewN (Below.refl _ _) k
 have KL:=Hd (clone_any _ n1 c1 xs w1 s1 (by omega))
 have HB:=Hd b1'
 have HT:=Hd s2
 clear hw s1 b1' s2 KC'
 go_wp2_with fail
 refine (Uh KL).mono ?_
 rintro e w2 ⟨rfl,hF,hb⟩
 have s2:=(Uh HT).below hb
 have cd:w2.cell? ⟨b2,o2,none⟩ = some (.int .u32 (d:Nat)):=by
  rcases s2.cells with e | ⟨b,o,e,hc⟩
  ·cases e
  ·cases e
   have:=hc 0 (by simp)
   simpa using this
 have KD:=Hd (divideLimb_any w1.heap.size 0 n1 n1 d (fun i => xs.getD i 0) w2 hF (fun i _ => ox.getD i) (by omega) (by omega) hd)
 have HB2:=Hd ((Uh HB).trans (hb.mono (Uh HB).size))
 have hsz:w1.heap.size < w2.heap.size:=World.block_lt_of_cell? _ _ (hF 0 hn0).1
 have hb0:w.heap.size ≤ w1.heap.size:=(Uh HB).size
 clear s2 hF hb KL HT HB
 generalize w1.heap.size = bq at *
 go_wp2_with fail
 refine (Uh KD).mono ?_
 rintro e w3 ⟨r,g,rfl,hr,hF,hok,hval,hu⟩
 have KT:=trim_any (some ⟨bq,0,none⟩) n1 n1 _ w3 (hF.sl (Nat.le_refl _) (by unfold maxLen; omega)) (lst_ok hok)
 have e0:valF (fun i => xs.getD i 0) n1 = val xs:=by rw [← Uh HL]; exact valF_list xs
 rw [e0] at hval
 have hqr:=dm_one hval hr
 rw [lst_val,hqr.1] at KT
 have KT':=Hd KT
 have hrb:r < 4294967296:=by omega
 have KR:=fun (v:World) => trim_any _ 1 1 [r] _ (sl_one v r 43) (Ok.cons hrb Ok.nil)
 rw [val_one] at KR
 have HR:=Hd hqr.2
 have KR':=Hd KR
 have HB3:=Hd ((Uh HB2).trans (hu.below hb0 (Uh HB2).size))
 have hsz3:bq < w3.heap.size:=Nat.lt_of_lt_of_le hsz hu.size
 clear KT KR hF hok hval hu hqr e0 KD cd
 go_wp2_with fail
 refine (Uh KT').mono ?_
 rintro e w' ⟨aq,mq,zq,rfl,hsq,hrq,haq,hw⟩
 obtain rfl:=hw.symm
 have HSQ:=Hd hsq
 have HRQ:=Hd hrq
 have HAQ:=Hd haq
 clear hsq hrq haq KT' hw
 go_wp2_with fail
 refine (Uh KR' _).mono ?_
 rintro e w' ⟨ar,mr,zr,rfl,hsr,hrr,har,hw⟩
 have hbel:Below w3.heap.size w3 w':=by rw [hw]; exact bAl
 rw [← hw] at hsr
 have HZ:=Hd (And.intro hsr (And.intro hrr (And.intro har hbel)))
 clear hsr hrr har hbel hw KR'
 go_wp2
 go_ret2
 obtain ⟨hsr,hrr,har,hbel⟩:=Uh HZ
 refine ⟨aq,mq,zq,ar,mr,zr,rfl,(Uh HSQ).below hbel,Uh HRQ,?_,hsr,?_,?_,?_,(Uh HB3).trans (hbel.mono (Uh HB3).size)⟩
 ·intro x hx
  rcases Uh HAQ with e | e
  ·rw [e] at hx; cases hx; exact hb0
  ·rw [e] at hx; cases hx
 ·rw [← Uh HR]; exact hrr
 ·intro x hx
  rcases har with e | e
  ·rw [e] at hx; cases hx; exact (Uh HB3).size
  ·rw [e] at hx; cases hx
 ·intro x y hx hy
  rcases Uh HAQ with e | e
  ·rw [e] at hx
   cases hx
   rcases har with e | e
   ·rw [e] at hy; cases hy; simp only; omega
   ·rw [e] at hy; cases hy
  ·rw [e] at hx; cases hx

set_option maxHeartbeats 2000000 in
theorem div_long (b1 o1 n1 c1 b2 o2 n2 c2:Nat) (xs ys:List Nat) (w:World) (h1:Sl w (some ⟨b1,o1,none⟩) n1 c1 xs) (h2:Sl w (some ⟨b2,o2,none⟩) n2 c2 ys) (ox:Ok xs) (oy:Ok ys) (nx:Norm xs) (ny:Norm ys) (hn1:n1 ≤ 2048) (hn2:2 ≤ n2) (hle:n2 ≤ n1) (hge:val ys ≤ val xs) :
  Calls Tryz.prog 158 #[.slice (some ⟨b1,o1,none⟩) n1 c1,.slice (some ⟨b2,o2,none⟩) n2 c2] w fun e w' => QRPost w w' (val xs / val ys) (val xs % val ys) e:=by
 have KC:=compare_any _ _ n1 c1 n2 c2 xs ys w h1 h2 ox oy nx ny
 have hc0:¬ cmpN (val xs) (val ys) < 0:=by
  rcases Nat.lt_or_eq_of_le hge with h | h
  ·rw [cmpN_gt h]; decide
  ·rw [cmpN_eq h.symm]; decide
 generalize cmpN (val xs) (val ys) = cc at *
 have KC':=Hd KC
 have HS:=Hd h1
 have HS2:=Hd h2
 have t1:((n2:Int) == 1) = false:=by simp; omega
 have t2:¬ (n2:Int) = 1:=by omega
 clear KC h1 h2 hge
 go_enter Tryz.func158,Tryz.ntmps158
 go_wp2_with fail
 refine (Uh KC').mono ?_
 rintro e w1 ⟨rfl,k,hw⟩
 have s1:Sl w1 (some ⟨b1,o1,none⟩) n1 c1 xs:=by rw [hw]; exact (Uh HS).drewN k
 have s2:Sl w1 (some ⟨b2,o2,none⟩) n2 c2 ys:=by rw [hw]; exact (Uh HS2).drewN k
 have b1':Below w.heap.size w w1:=by rw [hw]; exact bel_drewN (Below.refl _ _) k
 have KD:=Hd (divLong_some b1 o1 n1 c1 b2 o2 n2 c2 xs ys w1 s1 s2 ox oy ny hn1 hn2 hle)
 have HB:=Hd b1'
 clear hw s1 b1' s2 KC'
 go_wp2_with fail
 refine (Uh KD).mono ?_
 rintro e w2 ⟨aq,mq,zq,ar,mr,zr,rfl,hz⟩
 have HZ:=Hd hz
 clear hz KD
 go_wp2
 go_ret2
 obtain ⟨z1,z2,z3,z4,z5,z6,z7,z8⟩:=Uh HZ
 exact ⟨aq,mq,zq,ar,mr,zr,rfl,z1,z2,fun x hx => Nat.le_trans (Uh HB).size (z3 x hx),z4,z5,fun x hx => Nat.le_trans (Uh HB).size (z6 x hx),z7,(Uh HB).trans (z8.mono (Uh HB).size)⟩

set_option maxHeartbeats 2000000 in
theorem div_longF (b1 o1 n1 c1 b2 o2 n2 c2:Nat) (xs ys:List Nat) (w:World) (h1:Sl w (some ⟨b1,o1,none⟩) n1 c1 xs) (h2:Sl w (some ⟨b2,o2,none⟩) n2 c2 ys) (ox:Ok xs) (oy:Ok ys) (nx:Norm xs) (ny:Norm ys) (hn1:n1 ≤ 2048) (hn2:2 ≤ n2) (hle:n2 ≤ n1) (hge:val ys ≤ val xs) :
  Calls Tryz.prog 158 #[.slice (some ⟨b1,o1,none⟩) n1 c1,.slice (some ⟨b2,o2,none⟩) n2 c2] w fun e w' => QRF w w' (val xs / val ys) (val xs % val ys) e:=by
 have KC:=compare_any _ _ n1 c1 n2 c2 xs ys w h1 h2 ox oy nx ny
 have hc0:¬ cmpN (val xs) (val ys) < 0:=by
  rcases Nat.lt_or_eq_of_le hge with h | h
  ·rw [cmpN_gt h]; decide
  ·rw [cmpN_eq h.symm]; decide
 generalize cmpN (val xs) (val ys) = cc at *
 have KC':=Hd KC
 have HS:=Hd h1
 have HS2:=Hd h2
 have t1:((n2:Int) == 1) = false:=by simp; omega
 have t2:¬ (n2:Int) = 1:=by omega
 clear KC h1 h2 hge
 go_enter Tryz.func158,Tryz.ntmps158
 go_wp2_with fail
 refine (Uh KC').mono ?_
 rintro e w1 ⟨rfl,k,hw⟩
 have s1:Sl w1 (some ⟨b1,o1,none⟩) n1 c1 xs:=by rw [hw]; exact (Uh HS).drewN k
 have s2:Sl w1 (some ⟨b2,o2,none⟩) n2 c2 ys:=by rw [hw]; exact (Uh HS2).drewN k
 have b1':Below w.heap.size w w1:=by rw [hw]; exact bel_drewN (Below.refl _ _) k
 have KD:=Hd (divLong_someF b1 o1 n1 c1 b2 o2 n2 c2 xs ys w1 s1 s2 ox oy ny hn1 hn2 hle)
 have HB:=Hd b1'
 clear hw s1 b1' s2 KC'
 go_wp2_with fail
 refine (Uh KD).mono ?_
 rintro e w2 ⟨aq,mq,zq,ar,mr,zr,rfl,hz⟩
 have HZ:=Hd hz
 clear hz KD
 go_wp2
 go_ret2
 obtain ⟨z1,z2,z3,z4,z5,z6,z7,z8,z9⟩:=Uh HZ
 exact ⟨aq,mq,zq,ar,mr,zr,rfl,z1,z2,fun x hx => Nat.le_trans (Uh HB).size (z3 x hx),z4,z5,fun x hx => Nat.le_trans (Uh HB).size (z6 x hx),z7,(Uh HB).trans (z8.mono (Uh HB).size),z9⟩

theorem divide_any (a1 a2:Option Addr) (n1 c1 n2 c2:Nat) (xs ys:List Nat) (w:World) (h1:Sl w a1 n1 c1 xs) (h2:Sl w a2 n2 c2 ys) (ox:Ok xs) (oy:Ok ys) (nx:Norm xs) (ny:Norm ys) (hn1:n1 ≤ 2048) (hy:ys ≠ []) :
  Calls Tryz.prog 158 #[.slice a1 n1 c1,.slice a2 n2 c2] w fun e w' => QRPost w w' (val xs / val ys) (val xs % val ys) e:=by
 rcases Nat.lt_or_ge (val xs) (val ys) with hlt | hge
 ·exact div_less a1 a2 n1 c1 n2 c2 xs ys w h1 h2 ox oy nx ny hn1 hlt
 ·have hvy:0 < val ys:=by
   have a:=val_ge_of_norm ny hy
   have b:=pow_pos (ys.length - 1)
   omega
  have hx:xs ≠ []:=by intro e; rw [e] at hge; simp [val] at hge; omega
  have hle:ys.length ≤ xs.length:=by
   rcases Nat.lt_or_ge xs.length ys.length with k | k
   ·have:=len_lt_val ox ny k; omega
   ·exact k
  have l1:=h1.len
  have l2:=h2.len
  have p1:0 < xs.length:=List.length_pos_iff.2 hx
  have p2:0 < ys.length:=List.length_pos_iff.2 hy
  obtain ⟨b1,o1,rfl,_⟩:=h1.cells.resolve_left hx
  obtain ⟨b2,o2,rfl,_⟩:=h2.cells.resolve_left hy
  by_cases h:n2 = 1
  ·subst h
   have e:=len_one l2
   generalize ys.getD 0 0 = d at e
   subst e
   exact div_one b1 o1 n1 c1 b2 o2 c2 xs d w h1 h2 ox oy nx ny hn1 (by omega) hge
  ·exact div_long b1 o1 n1 c1 b2 o2 n2 c2 xs ys w h1 h2 ox oy nx ny hn1 (by omega) (by omega) hge

def Res4 (w w':World) (r:List Nat × List Nat × Int) (e:Ending):Prop :=
 ∃ aq mq cq ar mr cr,e = .returned (.tuple #[.slice aq mq cq,.slice ar mr cr,.int .i64 r.2.2]) ∧ Sl w' aq mq cq r.1 ∧ NewAt w.heap.size aq ∧ Sl w' ar mr cr r.2.1 ∧ NewAt w.heap.size ar ∧ (∀ x y,aq = some x → ar = some y → x.block ≠ y.block) ∧ Below w.heap.size w w'

def divL (xs ys:List Nat):List Nat × List Nat × Int:=if MayL xs && MayL ys then (if ys = [] then ([],[],3) else (limbs (val xs / val ys),limbs (val xs % val ys),0)) else ([],[],20)
theorem res4_nil (w:World) (k:Int):Res4 w w ([],[],k) (.returned (.tuple #[.slice none 0 0,.slice none 0 0,.int .i64 k])):=⟨none,0,0,none,0,0,rfl,sl_nil _,newAt_nil _,sl_nil _,newAt_nil _,(fun x y hx _ => by cases hx),Below.refl _ _⟩

set_option maxHeartbeats 2000000 in
theorem ndivmod_any (a1 a2:Option Addr) (n1 c1 n2 c2:Nat) (xs ys:List Nat) (w:World) (h1:Sl w a1 n1 c1 xs) (h2:Sl w a2 n2 c2 ys) (ox:Ok xs) (oy:Ok ys) :
  Calls Tryz.prog 100 #[.slice a1 n1 c1,.slice a2 n2 c2] w fun e w' => Res4 w w' (divL xs ys) e:=by
 have K1:=may_any a1 n1 c1 xs w h1
 have K2:=may_any a2 n2 c2 ys w h2
 by_cases m1:MayL xs = true
 ·by_cases m2:MayL ys = true
  ·rw [m1] at K1; rw [m2] at K2
   have K1':=Hd K1
   have K2':=Hd K2
   have nx:=MayL.norm m1
   have ny:=MayL.norm m2
   have hl1:n1 ≤ 2048:=by have:=h1.len; have:=MayL.len m1; omega
   have hl2:n2 ≤ 2048:=by have:=h2.len; have:=MayL.len m2; omega
   by_cases hy:ys = []
   ·have HC:=Hd (show divL xs ys = ([],[],3) from by simp [divL,m1,hy,show MayL [] = true from rfl])
    have hz:n2 = 0:=by rw [← h2.len,hy]; rfl
    subst hz
    clear K1 K2 m1 m2 h1 h2 ox oy nx ny hy
    go_enter Tryz.func100,Tryz.ntmps100
    go_wp2_with fail
    refine (Uh K1').mono ?_
    rintro e w' ⟨rfl,hw⟩
    obtain rfl:=hw.symm
    go_wp2_with fail
    refine (Uh K2').mono ?_
    rintro e w' ⟨rfl,hw⟩
    obtain rfl:=hw.symm
    go_wp2
    go_ret3
    rw [Uh HC]
    exact res4_nil _ _
   ·have HC:=Hd (show divL xs ys = (limbs (val xs / val ys),limbs (val xs % val ys),0) from by simp [divL,m1,m2,hy])
    have hz:0 < n2:=by rw [← h2.len]; exact List.length_pos_iff.2 hy
    have t1:((n2:Int) == 0) = false:=by simp; omega
    have t2:¬ (n2:Int) = 0:=by omega
    have KD:=Hd (divide_any a1 a2 n1 c1 n2 c2 xs ys w h1 h2 ox oy nx ny hl1 hy)
    clear K1 K2 m1 m2 h1 h2 ox oy nx ny hy
    go_enter Tryz.func100,Tryz.ntmps100
    go_wp2_with fail
    refine (Uh K1').mono ?_
    rintro e w' ⟨rfl,hw⟩
    obtain rfl:=hw.symm
    go_wp2_with fail
    refine (Uh K2').mono ?_
    rintro e w' ⟨rfl,hw⟩
    obtain rfl:=hw.symm
    go_wp2_with fail
    refine (Uh KD).mono ?_
    rintro e w2 ⟨aq,mq,zq,ar,mr,zr,rfl,hz⟩
    have HZ:=Hd hz
    clear hz KD
    go_wp2
    go_ret3
    obtain ⟨z1,z2,z3,z4,z5,z6,z7,z8⟩:=Uh HZ
    rw [Uh HC]
    rw [z2.eq] at z1
    rw [z5.eq] at z4
    exact ⟨aq,mq,mq,ar,mr,mr,rfl,z1,z3,z4,z6,z7,z8⟩
  ·have m2':MayL ys = false:=by simpa using m2
   rw [m1] at K1; rw [m2'] at K2
   have K1':=Hd K1
   have K2':=Hd K2
   have HC:=Hd (show divL xs ys = ([],[],20) from by simp [divL,m2'])
   clear K1 K2 m1 m2 m2' h1 h2 ox oy
   go_enter Tryz.func100,Tryz.ntmps100
   go_wp2_with fail
   refine (Uh K1').mono ?_
   rintro e w' ⟨rfl,hw⟩
   obtain rfl:=hw.symm
   go_wp2_with fail
   refine (Uh K2').mono ?_
   rintro e w' ⟨rfl,hw⟩
   obtain rfl:=hw.symm
   go_wp2
   go_ret3
   rw [Uh HC]
   exact res4_nil _ _
 ·have m1':MayL xs = false:=by simpa using m1
  rw [m1'] at K1
  have K1':=Hd K1
  have HC:=Hd (show divL xs ys = ([],[],20) from by simp [divL,m1'])
  clear K1 K2 m1 m1' h1 h2 ox oy
  go_enter Tryz.func100,Tryz.ntmps100
  go_wp2_with fail
  refine (Uh K1').mono ?_
  rintro e w' ⟨rfl,hw⟩
  obtain rfl:=hw.symm
  go_wp2
  go_ret3
  rw [Uh HC]
  exact res4_nil _ _
theorem dm_less {V D i r:Nat} (hD:0 < D) (hr:r = 2 * (V / 2 ^ (i + 1) % D) + bitN V i) (h:r < D):V / 2 ^ i % D = r ∧ V / 2 ^ i / D * 2 ^ i = V / 2 ^ (i + 1) / D * 2 ^ (i + 1):=by
 have e1:V / 2 ^ (i + 1) = V / 2 ^ i / 2:=by rw [Nat.pow_succ,Nat.div_div_eq_div_mul]
 have e2:V / 2 ^ i = D * (2 * (V / 2 ^ (i + 1) / D)) + r:=by
  have h1:=Nat.div_add_mod (V / 2 ^ i) 2
  have h2:=Nat.div_add_mod (V / 2 ^ (i + 1)) D
  have h3:D * (2 * (V / 2 ^ (i + 1) / D)) = 2 * (D * (V / 2 ^ (i + 1) / D)):=by rw [← Nat.mul_assoc,Nat.mul_comm D 2,Nat.mul_assoc]
  rw [h3]
  unfold bitN at hr
  rw [← e1] at h1
  omega
 have e3:=(Nat.div_mod_unique hD).2 ⟨(Nat.add_comm r _).trans e2.symm,h⟩
 refine ⟨e3.2,?_⟩
 rw [e3.1,Nat.pow_succ,Nat.mul_comm 2,Nat.mul_assoc,Nat.mul_comm 2]

theorem dm_more {V D i r:Nat} (hD:0 < D) (hr:r + D = 2 * (V / 2 ^ (i + 1) % D) + bitN V i):V / 2 ^ i % D = r ∧ V / 2 ^ i / D * 2 ^ i = V / 2 ^ (i + 1) / D * 2 ^ (i + 1) + 2 ^ i:=by
 have e1:V / 2 ^ (i + 1) = V / 2 ^ i / 2:=by rw [Nat.pow_succ,Nat.div_div_eq_div_mul]
 have hb:=bitN_lt V i
 have hm:=Nat.mod_lt (V / 2 ^ (i + 1)) hD
 have e2:V / 2 ^ i = D * (2 * (V / 2 ^ (i + 1) / D) + 1) + r:=by
  have h1:=Nat.div_add_mod (V / 2 ^ i) 2
  have h2:=Nat.div_add_mod (V / 2 ^ (i + 1)) D
  have h3:D * (2 * (V / 2 ^ (i + 1) / D) + 1) = 2 * (D * (V / 2 ^ (i + 1) / D)) + D:=by rw [Nat.mul_add,← Nat.mul_assoc,Nat.mul_comm D 2,Nat.mul_assoc,Nat.mul_one]
  rw [h3]
  unfold bitN at hr
  rw [← e1] at h1
  omega
 have e3:=(Nat.div_mod_unique hD).2 ⟨(Nat.add_comm r _).trans e2.symm,(by omega:r < D)⟩
 refine ⟨e3.2,?_⟩
 rw [e3.1,Nat.add_mul,Nat.one_mul,Nat.pow_succ,Nat.mul_comm 2,Nat.mul_assoc,Nat.mul_comm 2]

theorem valF_put {f:Nat → Nat} {l d:Nat}:∀ {n:Nat},l < n → valF (fun i => if i = l then f l + d else f i) n = valF f n + 4294967296 ^ l * d
 | 0,h => by omega
 | n + 1,h => by
  simp only [valF]
  by_cases e:n = l
  ·subst e
   rw [valF_congr (g:=f) (fun i hi => by rw [if_neg (by omega)])]
   simp only [if_true,Nat.mul_add]
   omega
  ·rw [valF_put (n:=n) (by omega),if_neg e]
   omega

theorem limb_low {f:Nat → Nat} {n l s M:Nat} (ok:∀ i,i < n → f i < 4294967296) (hl:l < n) (hs:s < 32) (hv:valF f n = M * 2 ^ (32 * l + s + 1)):f l % 2 ^ (s + 1) = 0:=by
 have h1:f l = valF f n / 4294967296 ^ l % 4294967296:=by
  have:=val_drop (lst_ok ok) l
  rw [lst_val] at this
  rw [← this,val_drop_step,lst_getD f n l hl]
  have:=ok l hl
  omega
 rw [h1,hv,pow_limb,Nat.add_assoc,Nat.pow_add,Nat.mul_comm (2 ^ (32 * l)),← Nat.mul_assoc,Nat.mul_div_cancel _ (Nat.two_pow_pos _),show (4294967296:Nat) = 2 ^ (s + 1) * 2 ^ (31 - s) from by rw [← Nat.pow_add]; rw [show s + 1 + (31 - s) = 32 from by omega],Nat.mod_mul_right_mod]
 exact Nat.mul_mod_left _ _

theorem or_bit {x s:Nat} (hx:x < 4294967296) (hs:s < 32) (h:x % 2 ^ (s + 1) = 0):bits .or .u32 (x:Int) ((2 ^ s:Nat):Int) = ((x + 2 ^ s:Nat):Int) ∧ x + 2 ^ s < 4294967296:=by
 have hp:=(pow_s hs)
 have h2:2 ^ s < 4294967296:=by have:=Nat.pow_lt_pow_right (a:=2) (by decide) hs; omega
 have e:x = x / 2 ^ (s + 1) * 2 ^ (s + 1):=by have:=Nat.div_add_mod x (2 ^ (s + 1)); rw [h,Nat.add_zero,Nat.mul_comm] at this; exact this.symm
 have e2:x ||| 2 ^ s = x + 2 ^ s:=by
  rw [e]
  have:=Nat.shiftLeft_add_eq_or_of_lt (i:=s + 1) (b:=2 ^ s) (Nat.pow_lt_pow_right (by decide) (by omega)) (x / 2 ^ (s + 1))
  rw [Nat.shiftLeft_eq] at this
  exact this.symm
 refine ⟨by rw [u32_or_nat _ _ hx h2,e2],?_⟩
 rw [← e2]
 exact Nat.or_lt_two_pow (n:=32) hx h2

structure DmR (wr w:World) (bq n1 br n2 V D i:Nat) (f g:Nat → Nat):Prop where
 q:Fn wr bq 0 n1 f
 qok:∀ j,j < n1 → f j < 4294967296
 qv:valF f n1 = V / 2 ^ i / D * 2 ^ i
 r:Fn wr br 0 (n2 + 1) g
 rok:∀ j,j < n2 + 1 → g j < 4294967296
 rv:valF g (n2 + 1) = V / 2 ^ i % D
 bel:Below w.heap.size w wr

theorem dm_start {V D s bx b:Nat} (hD:2 ^ (b - 1) ≤ D) (hb:1 ≤ b) (hV:V < 2 ^ bx) (hs:bx = s + b):V / 2 ^ (s + 1) < D:=by
 refine Nat.lt_of_lt_of_le ?_ hD
 rw [Nat.div_lt_iff_lt_mul (Nat.two_pow_pos _),← Nat.pow_add,show b - 1 + (s + 1) = bx from by omega]
 exact hV

theorem twice_val {g g':Nat → Nat} {n c V D bit:Nat} (h:valF g' (n + 1) + 4294967296 ^ (n + 1) * c = 2 * valF g (n + 1) + bit) (hg:valF g (n + 1) < D) (hD:D ≤ 4294967296 ^ n) (hb:bit < 2):valF g' (n + 1) = 2 * valF g (n + 1) + bit:=by
 rcases Nat.eq_zero_or_pos c with h0 | h0
 ·rw [h0,Nat.mul_zero] at h; omega
 ·have h1:4294967296 ^ (n + 1) * 1 ≤ 4294967296 ^ (n + 1) * c:=Nat.mul_le_mul_left _ h0
  have h2:4294967296 ^ (n + 1) = 4294967296 ^ n * 4294967296:=Nat.pow_succ ..
  omega

theorem bits_top {xs:List Nat} {n:Nat} (ox:Ok xs) (nx:Norm xs) (h0:xs ≠ []) (hl:xs.length = n):bitsN xs ≤ 32 * n ∧ 1 ≤ bitsN xs ∧ 2 ^ (bitsN xs - 1) ≤ val xs:=by
 have h:=val_ge_bits ox nx h0
 have e:bitsN xs = bitsL xs:=by unfold bitsN; rw [if_neg h0]
 rw [e]
 refine ⟨?_,h.1,h.2⟩
 have h1:=val_lt ox
 rw [hl,pow_limb] at h1
 have h2:2 ^ (bitsL xs - 1) < 2 ^ (32 * n):=Nat.lt_of_le_of_lt h.2 h1
 have:=(Nat.pow_lt_pow_iff_right (by decide:1 < 2)).1 h2
 omega

theorem DmR.less {wr w w5:World} {bq n1 br n2 V D i:Nat} {f g g':Nat → Nat} {c:Nat} (h:DmR wr w bq n1 br n2 V D (i + 1) f g) (t:TwR w5 wr br (n2 + 1) g (bitN V i) (n2 + 1) c g') (hD:0 < D) (hD2:D ≤ 4294967296 ^ n2) (hne:bq ≠ br) (hbr:w.heap.size ≤ br) (hl:valF g' (n2 + 1) < D) (k:Nat):DmR (w5.drewN k) w bq n1 br n2 V D i f g':=by
 have hv:=twice_val (V:=V) t.val (by rw [h.rv]; exact Nat.mod_lt _ hD) hD2 (bitN_lt _ _)
 rw [h.rv] at hv
 have e:=dm_less hD hv hl
 have u:=t.upd
 exact ⟨u.fn h.q (.inl hne),h.qok,by rw [h.qv,e.2],t.fn,t.ok,e.1.symm,bel_drewN (h.bel.trans (u.below hbr h.bel.size)) k⟩

theorem DmR.more {wr w w5 w6:World} {bq n1 br n2 V D i:Nat} {f g g' g2:Nat → Nat} {c:Nat} (h:DmR wr w bq n1 br n2 V D (i + 1) f g) (t:TwR w5 wr br (n2 + 1) g (bitN V i) (n2 + 1) c g') (hD:0 < D) (hD2:D ≤ 4294967296 ^ n2) (hne:bq ≠ br) (hbr:w.heap.size ≤ br) (hbq:w.heap.size ≤ bq) (f2:Fn w6 br 0 (n2 + 1) g2) (o2:∀ j,j < n2 + 1 → g2 j < 4294967296) (v2:valF g2 (n2 + 1) + D = valF g' (n2 + 1)) (u2:Upd br 0 (n2 + 1) w5 w6) {l s:Nat} (hi:i = 32 * l + s) (hs:s < 32) (hl:l < n1) :
  f l % 2 ^ (s + 1) = 0 ∧ Fn w6 bq 0 n1 f ∧ DmR (w6.setCell ⟨bq,0 + l,none⟩ (.int .u32 (f l + 2 ^ s:Nat))) w bq n1 br n2 V D i (fun j => if j = l then f l + 2 ^ s else f j) g2:=by
 have hv:=twice_val (V:=V) t.val (by rw [h.rv]; exact Nat.mod_lt _ hD) hD2 (bitN_lt _ _)
 rw [h.rv,← v2] at hv
 have e:=dm_more hD hv
 have u:=t.upd.trans u2
 have h0:f l % 2 ^ (s + 1) = 0:=limb_low h.qok hl hs (by rw [h.qv,hi])
 have hq:=u.fn h.q (.inl hne)
 have hx:=(or_bit (h.qok l hl) hs h0).2
 refine ⟨h0,hq,hq.set l _ hl,?_,?_,?_,o2,e.1.symm,?_⟩
 ·intro j hj
  by_cases k:j = l
  ·simp only [k,if_true]; exact hx
  ·simp only [k,if_false]; exact h.qok j hj
 ·rw [valF_put hl,h.qv,e.2,pow_limb,← Nat.pow_add,← hi]
 ·exact ((Upd.refl bq 0 n1 w6).set (0 + l) (.int .u32 (f l + 2 ^ s:Nat)) (by omega) (by omega)).fn f2 (.inl (Ne.symm hne))
 ·exact (h.bel.trans (u.below hbr h.bel.size)).trans ((((Upd.refl bq 0 n1 w6).set (0 + l) (.int .u32 (f l + 2 ^ s:Nat)) (by omega) (by omega))).below hbq (Nat.le_trans h.bel.size (u.below hbr h.bel.size).size))

def Res4w (w w':World) (r:List Nat × List Nat × Int) (e:Ending):Prop :=
 ∃ aq mq cq ar mr cr,e = .returned (.tuple #[.slice aq mq cq,.slice ar mr cr,.int .i64 r.2.2]) ∧ Sl w' aq mq cq r.1 ∧ NewAt w.heap.size aq ∧ Sl w' ar mr cr r.2.1 ∧ NewAt w.heap.size ar ∧ Below w.heap.size w w'
theorem bits_less {xs ys:List Nat} (ox:Ok xs) (oy:Ok ys) (ny:Norm ys) (hy:ys ≠ []) (h:bitsN xs < bitsN ys):val xs < val ys:=by
 have T:=bits_top oy ny hy rfl
 refine Nat.lt_of_lt_of_le (val_lt_bits ox) (Nat.le_trans ?_ T.2.2)
 exact Nat.pow_le_pow_right (by decide) (by omega)
end Go.Proofs.YtlolnaegfponeaaGreatDoor
