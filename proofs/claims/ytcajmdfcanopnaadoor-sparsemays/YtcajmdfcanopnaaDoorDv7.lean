/- Dv7 -/
import Derived.Test.YtcajmdfcanopnaaDoorDv6
namespace Go.Proofs.YtcajmdfcanopnaaDoor
open Go.RowKit Go.Deep
set_option linter.unusedVariables false
theorem val_one (d:Nat):val [d] = d:=by simp [val]

theorem len_one {ys:List Nat} (h:ys.length = 1):ys = [ys.getD 0 0]:=by
 match ys,h with
 | [a],_ => simp

theorem dm_one {x g d r:Nat} (h:x = g * d + r) (hr:r < d):g = x / d ∧ r = x % d:=by
 subst h
 constructor
 ·rw [Nat.add_comm,Nat.add_mul_div_right _ _ (by omega),Nat.div_eq_of_lt hr,Nat.zero_add]
 ·rw [Nat.add_comm,Nat.add_mul_mod_self_right,Nat.mod_eq_of_lt hr]

theorem sl_one (w:World) (r:Nat) (e:TypeId):Sl (w.alloc (.cells #[.int .u32 (r:Nat)] e)) (some ⟨w.heap.size,0,none⟩) 1 1 [r]:=by
 refine ⟨rfl,Nat.le_refl _,by decide,.inr ⟨_,_,rfl,?_⟩⟩
 intro i hi
 have:i = 0:=by simp at hi; omega
 subst this
 simp

set_option maxHeartbeats 2000000 in
theorem div_less (a1 a2:Option Addr) (n1 c1 n2 c2:Nat) (xs ys:List Nat) (w:World) (h1:Sl w a1 n1 c1 xs) (h2:Sl w a2 n2 c2 ys) (ox:Ok xs) (oy:Ok ys) (nx:Norm xs) (ny:Norm ys) (hn1:n1 ≤ 2048) (hlt:val xs < val ys) :
  Calls Tryd.prog 74 #[.slice a1 n1 c1,.slice a2 n2 c2] w fun e w' => QRPost w w' (val xs / val ys) (val xs % val ys) e:=by
 have KC:=compare_any a1 a2 n1 c1 n2 c2 xs ys w h1 h2 ox oy nx ny
 rw [cmpN_lt hlt] at KC
 have KC':=Hj KC
 have HL:=Hj h1.len
 have HS:=Hj h1
 have HN:=Hj nx
 have HE:=Hj (And.intro (Nat.div_eq_of_lt hlt) (Nat.mod_eq_of_lt hlt))
 clear KC h1 h2 nx ny hlt
 go_enter Tryd.func74,Tryd.ntmps74
 go_wp2_with fail
 refine (Uh KC').mono ?_
 rintro e w1 ⟨rfl,k,hw⟩
 have s1:Sl w1 a1 n1 c1 xs:=by rw [hw]; exact (Uh HS).drewN k
 have b1:Below w.heap.size w w1:=by rw [hw]; exact bel_drewN (Below.refl _ _) k
 have KL:=Hj (fun (v:World) (bv:Below w1.heap.size w1 v) => clone_any a1 n1 c1 xs v (s1.below bv) (by omega))
 have HB:=Hj b1
 clear hw s1 b1 KC'
 go_wp2_with fail
 refine (Uh KL _ (Below.refl _ _)).mono ?_
 rintro e w2 ⟨rfl,hF,hb⟩
 have HF:=Hj hF
 have HB2:=Hj hb
 clear hF hb KL
 go_wp2
 go_ret2
 rw [(Uh HE).1,(Uh HE).2]
 refine ⟨none,0,[],_,n1,xs,rfl,sl_nil _,⟨Ok.nil,.inl rfl,rfl⟩,newAt_nil _,?_,⟨ox,Uh HN,rfl⟩,?_,(fun x y hx _ => by cases hx),(Uh HB).trans ((Uh HB2).mono (Uh HB).size)⟩
 ·exact ⟨Uh HL,Nat.le_refl _,by unfold maxLen; omega,.inr ⟨_,_,rfl,fun i hi => ((Uh HF) i (by rw [← Uh HL]; exact hi)).1⟩⟩
 ·intro x hx
  cases hx
  exact (Uh HB).size

set_option maxHeartbeats 4000000 in
theorem div_one (b1 o1 n1 c1 b2 o2 c2:Nat) (xs:List Nat) (d:Nat) (w:World) (h1:Sl w (some ⟨b1,o1,none⟩) n1 c1 xs) (h2:Sl w (some ⟨b2,o2,none⟩) 1 c2 [d]) (ox:Ok xs) (oy:Ok [d]) (nx:Norm xs) (ny:Norm [d]) (hn1:n1 ≤ 2048) (hn0:0 < n1) (hge:val [d] ≤ val xs) :
  Calls Tryd.prog 74 #[.slice (some ⟨b1,o1,none⟩) n1 c1,.slice (some ⟨b2,o2,none⟩) 1 c2] w fun e w' => QRPost w w' (val xs / val [d]) (val xs % val [d]) e:=by
 have KC:=compare_any _ _ n1 c1 1 c2 xs [d] w h1 h2 ox oy nx ny
 have hc0:¬ cmpN (val xs) (val [d]) < 0:=by
  rcases Nat.lt_or_eq_of_le hge with h | h
  ·rw [cmpN_gt h]; decide
  ·rw [cmpN_eq h.symm]; decide
 generalize cmpN (val xs) (val [d]) = cc at *
 have KC':=Hj KC
 have HL:=Hj h1.len
 have HS:=Hj h1
 have HS2:=Hj h2
 have hd:=oy.head
 have hd0:d ≠ 0:=norm_one ny
 rw [val_one]
 clear KC h1 h2 nx ny hge
 go_enter Tryd.func74,Tryd.ntmps74
 go_wp2_with fail
 refine (Uh KC').mono ?_
 rintro e w1 ⟨rfl,k,hw⟩
 have s1:Sl w1 (some ⟨b1,o1,none⟩) n1 c1 xs:=by rw [hw]; exact (Uh HS).drewN k
 have s2:Sl w1 (some ⟨b2,o2,none⟩) 1 c2 [d]:=by rw [hw]; exact (Uh HS2).drewN k
 have b1':Below w.heap.size w w1:=by rw [hw]; exact bel_drewN (Below.refl _ _) k
 have KL:=Hj (clone_any _ n1 c1 xs w1 s1 (by omega))
 have HB:=Hj b1'
 have HT:=Hj s2
 clear hw s1 b1' s2 KC'
 go_wp2_with fail
 refine (Uh KL).mono ?_
 rintro e w2 ⟨rfl,hF,hb⟩
 have s2:=(Uh HT).below hb
 have cd:w2.cell? ⟨b2,o2,none⟩ = some (.int .u32 (d:Nat)):=by
  rcases s2.cells with e | ⟨b,o,e,hc⟩
  ·cases e
  ·cases e
   have:=hc 0 (by simp)
   simpa using this
 have KD:=Hj (divideLimb_any w1.heap.size 0 n1 n1 d (fun i => xs.getD i 0) w2 hF (fun i _ => ox.getD i) (by omega) (by omega) hd)
 have HB2:=Hj ((Uh HB).trans (hb.mono (Uh HB).size))
 have hsz:w1.heap.size < w2.heap.size:=World.block_lt_of_cell? _ _ (hF 0 hn0).1
 have hb0:w.heap.size ≤ w1.heap.size:=(Uh HB).size
 clear s2 hF hb KL HT HB
 generalize w1.heap.size = bq at *
 go_wp2_with fail
 refine (Uh KD).mono ?_
 rintro e w3 ⟨r,g,rfl,hr,hF,hok,hval,hu⟩
 have KT:=trim_any (some ⟨bq,0,none⟩) n1 n1 _ w3 (hF.sl (Nat.le_refl _) (by unfold maxLen; omega)) (lst_ok hok)
 have e0:valF (fun i => xs.getD i 0) n1 = val xs:=by rw [← Uh HL]; exact valF_list xs
 rw [e0] at hval
 have hqr:=dm_one hval hr
 rw [lst_val,hqr.1] at KT
 have KT':=Hj KT
 have hrb:r < 4294967296:=by omega
 have KR:=fun (v:World) => trim_any _ 1 1 [r] _ (sl_one v r 68) (Ok.cons hrb Ok.nil)
 rw [val_one] at KR
 have HR:=Hj hqr.2
 have KR':=Hj KR
 have HB3:=Hj ((Uh HB2).trans (hu.below hb0 (Uh HB2).size))
 have hsz3:bq < w3.heap.size:=Nat.lt_of_lt_of_le hsz hu.size
 clear KT KR hF hok hval hu hqr e0 KD cd
 go_wp2_with fail
 refine (Uh KT').mono ?_
 rintro e w' ⟨aq,mq,zq,rfl,hsq,hrq,haq,hw⟩
 obtain rfl:=hw.symm
 have HSQ:=Hj hsq
 have HRQ:=Hj hrq
 have HAQ:=Hj haq
 clear hsq hrq haq KT' hw
 go_wp2_with fail
 refine (Uh KR' _).mono ?_
 rintro e w' ⟨ar,mr,zr,rfl,hsr,hrr,har,hw⟩
 have hbel:Below w3.heap.size w3 w':=by rw [hw]; exact bAl
 rw [← hw] at hsr
 have HZ:=Hj (And.intro hsr (And.intro hrr (And.intro har hbel)))
 clear hsr hrr har hbel hw KR'
 go_wp2
 go_ret2
 obtain ⟨hsr,hrr,har,hbel⟩:=Uh HZ
 refine ⟨aq,mq,zq,ar,mr,zr,rfl,(Uh HSQ).below hbel,Uh HRQ,?_,hsr,?_,?_,?_,(Uh HB3).trans (hbel.mono (Uh HB3).size)⟩
 ·intro x hx
  rcases Uh HAQ with e | e
  ·rw [e] at hx; cases hx; exact hb0
  ·rw [e] at hx; cases hx
 ·rw [← Uh HR]; exact hrr
 ·intro x hx
  rcases har with e | e
  ·rw [e] at hx; cases hx; exact (Uh HB3).size
  ·rw [e] at hx; cases hx
 ·intro x y hx hy
  rcases Uh HAQ with e | e
  ·rw [e] at hx
   cases hx
   rcases har with e | e
   ·rw [e] at hy; cases hy; simp only; omega
   ·rw [e] at hy; cases hy
  ·rw [e] at hx; cases hx

set_option maxHeartbeats 2000000 in
theorem div_long (b1 o1 n1 c1 b2 o2 n2 c2:Nat) (xs ys:List Nat) (w:World) (h1:Sl w (some ⟨b1,o1,none⟩) n1 c1 xs) (h2:Sl w (some ⟨b2,o2,none⟩) n2 c2 ys) (ox:Ok xs) (oy:Ok ys) (nx:Norm xs) (ny:Norm ys) (hn1:n1 ≤ 2048) (hn2:2 ≤ n2) (hle:n2 ≤ n1) (hge:val ys ≤ val xs) :
  Calls Tryd.prog 74 #[.slice (some ⟨b1,o1,none⟩) n1 c1,.slice (some ⟨b2,o2,none⟩) n2 c2] w fun e w' => QRPost w w' (val xs / val ys) (val xs % val ys) e:=by
 have KC:=compare_any _ _ n1 c1 n2 c2 xs ys w h1 h2 ox oy nx ny
 have hc0:¬ cmpN (val xs) (val ys) < 0:=by
  rcases Nat.lt_or_eq_of_le hge with h | h
  ·rw [cmpN_gt h]; decide
  ·rw [cmpN_eq h.symm]; decide
 generalize cmpN (val xs) (val ys) = cc at *
 have KC':=Hj KC
 have HS:=Hj h1
 have HS2:=Hj h2
 have t1:((n2:Int) == 1) = false:=by simp; omega
 have t2:¬ (n2:Int) = 1:=by omega
 clear KC h1 h2 hge
 go_enter Tryd.func74,Tryd.ntmps74
 go_wp2_with fail
 refine (Uh KC').mono ?_
 rintro e w1 ⟨rfl,k,hw⟩
 have s1:Sl w1 (some ⟨b1,o1,none⟩) n1 c1 xs:=by rw [hw]; exact (Uh HS).drewN k
 have s2:Sl w1 (some ⟨b2,o2,none⟩) n2 c2 ys:=by rw [hw]; exact (Uh HS2).drewN k
 have b1':Below w.heap.size w w1:=by rw [hw]; exact bel_drewN (Below.refl _ _) k
 have KD:=Hj (divLong_some b1 o1 n1 c1 b2 o2 n2 c2 xs ys w1 s1 s2 ox oy ny hn1 hn2 hle)
 have HB:=Hj b1'
 clear hw s1 b1' s2 KC'
 go_wp2_with fail
 refine (Uh KD).mono ?_
 rintro e w2 ⟨aq,mq,zq,ar,mr,zr,rfl,hz⟩
 have HZ:=Hj hz
 clear hz KD
 go_wp2
 go_ret2
 obtain ⟨z1,z2,z3,z4,z5,z6,z7,z8⟩:=Uh HZ
 exact ⟨aq,mq,zq,ar,mr,zr,rfl,z1,z2,fun x hx => Nat.le_trans (Uh HB).size (z3 x hx),z4,z5,fun x hx => Nat.le_trans (Uh HB).size (z6 x hx),z7,(Uh HB).trans (z8.mono (Uh HB).size)⟩

set_option maxHeartbeats 2000000 in
theorem div_longF (b1 o1 n1 c1 b2 o2 n2 c2:Nat) (xs ys:List Nat) (w:World) (h1:Sl w (some ⟨b1,o1,none⟩) n1 c1 xs) (h2:Sl w (some ⟨b2,o2,none⟩) n2 c2 ys) (ox:Ok xs) (oy:Ok ys) (nx:Norm xs) (ny:Norm ys) (hn1:n1 ≤ 2048) (hn2:2 ≤ n2) (hle:n2 ≤ n1) (hge:val ys ≤ val xs) :
  Calls Tryd.prog 74 #[.slice (some ⟨b1,o1,none⟩) n1 c1,.slice (some ⟨b2,o2,none⟩) n2 c2] w fun e w' => QRF w w' (val xs / val ys) (val xs % val ys) e:=by
 have KC:=compare_any _ _ n1 c1 n2 c2 xs ys w h1 h2 ox oy nx ny
 have hc0:¬ cmpN (val xs) (val ys) < 0:=by
  rcases Nat.lt_or_eq_of_le hge with h | h
  ·rw [cmpN_gt h]; decide
  ·rw [cmpN_eq h.symm]; decide
 generalize cmpN (val xs) (val ys) = cc at *
 have KC':=Hj KC
 have HS:=Hj h1
 have HS2:=Hj h2
 have t1:((n2:Int) == 1) = false:=by simp; omega
 have t2:¬ (n2:Int) = 1:=by omega
 clear KC h1 h2 hge
 go_enter Tryd.func74,Tryd.ntmps74
 go_wp2_with fail
 refine (Uh KC').mono ?_
 rintro e w1 ⟨rfl,k,hw⟩
 have s1:Sl w1 (some ⟨b1,o1,none⟩) n1 c1 xs:=by rw [hw]; exact (Uh HS).drewN k
 have s2:Sl w1 (some ⟨b2,o2,none⟩) n2 c2 ys:=by rw [hw]; exact (Uh HS2).drewN k
 have b1':Below w.heap.size w w1:=by rw [hw]; exact bel_drewN (Below.refl _ _) k
 have KD:=Hj (divLong_someF b1 o1 n1 c1 b2 o2 n2 c2 xs ys w1 s1 s2 ox oy ny hn1 hn2 hle)
 have HB:=Hj b1'
 clear hw s1 b1' s2 KC'
 go_wp2_with fail
 refine (Uh KD).mono ?_
 rintro e w2 ⟨aq,mq,zq,ar,mr,zr,rfl,hz⟩
 have HZ:=Hj hz
 clear hz KD
 go_wp2
 go_ret2
 obtain ⟨z1,z2,z3,z4,z5,z6,z7,z8,z9⟩:=Uh HZ
 exact ⟨aq,mq,zq,ar,mr,zr,rfl,z1,z2,fun x hx => Nat.le_trans (Uh HB).size (z3 x hx),z4,z5,fun x hx => Nat.le_trans (Uh HB).size (z6 x hx),z7,(Uh HB).trans (z8.mono (Uh HB).size),z9⟩

theorem divide_any (a1 a2:Option Addr) (n1 c1 n2 c2:Nat) (xs ys:List Nat) (w:World) (h1:Sl w a1 n1 c1 xs) (h2:Sl w a2 n2 c2 ys) (ox:Ok xs) (oy:Ok ys) (nx:Norm xs) (ny:Norm ys) (hn1:n1 ≤ 2048) (hy:ys ≠ []) :
  Calls Tryd.prog 74 #[.slice a1 n1 c1,.slice a2 n2 c2] w fun e w' => QRPost w w' (val xs / val ys) (val xs % val ys) e:=by
 rcases Nat.lt_or_ge (val xs) (val ys) with hlt | hge
 ·exact div_less a1 a2 n1 c1 n2 c2 xs ys w h1 h2 ox oy nx ny hn1 hlt
 ·have hvy:0 < val ys:=by
   have a:=val_ge_of_norm ny hy
   have b:=pow_pos (ys.length - 1)
   omega
  have hx:xs ≠ []:=by intro e; rw [e] at hge; simp [val] at hge; omega
  have hle:ys.length ≤ xs.length:=by
   rcases Nat.lt_or_ge xs.length ys.length with k | k
   ·have:=len_lt_val ox ny k; omega
   ·exact k
  have l1:=h1.len
  have l2:=h2.len
  have p1:0 < xs.length:=List.length_pos_iff.2 hx
  have p2:0 < ys.length:=List.length_pos_iff.2 hy
  obtain ⟨b1,o1,rfl,_⟩:=h1.cells.resolve_left hx
  obtain ⟨b2,o2,rfl,_⟩:=h2.cells.resolve_left hy
  by_cases h:n2 = 1
  ·subst h
   have e:=len_one l2
   generalize ys.getD 0 0 = d at e
   subst e
   exact div_one b1 o1 n1 c1 b2 o2 c2 xs d w h1 h2 ox oy nx ny hn1 (by omega) hge
  ·exact div_long b1 o1 n1 c1 b2 o2 n2 c2 xs ys w h1 h2 ox oy nx ny hn1 (by omega) (by omega) hge

def divL (xs ys:List Nat):List Nat × List Nat × Int:=if MayL xs && MayL ys then (if ys = [] then ([],[],3) else (limbs (val xs / val ys),limbs (val xs % val ys),0)) else ([],[],20)
end Go.Proofs.YtcajmdfcanopnaaDoor
