/- Add -/
import Derived.Test.YtlolnaegfponeaaGreatDoorCmp
namespace Go.Proofs.YtlolnaegfponeaaGreatDoor
open Go.RowKit Go.Deep
set_option linter.unusedVariables false
def NewRep (w w':World) (v:Nat) (e:Ending):Prop :=
 ∃ a' m ys,e = .returned (.slice a' m m) ∧ Sl w' a' m m ys ∧ Rep v ys ∧ NewAt w.heap.size a' ∧ Below w.heap.size w w'

theorem make_len1 (n:Nat) (hn:n ≤ 70368744177000) (w:World):(Instr.makeSlice 22 (.int .i64 ((n:Int) + 1)) (.int .i64 ((n:Int) + 1))).run Tryz.prog w = .ok (.slice (some ⟨w.heap.size,0,none⟩) (n + 1) (n + 1)) (w.alloc (.cells (madeCells #[.int .u32 0] (n + 1)) 43)):=by
 have:=make_len (n + 1) (by omega) w
 rw [show ((n + 1:Nat):Int) = (n:Int) + 1 from by omega] at this
 exact this

theorem add_fin {x y z c P:Nat} (hz:z + P * 4294967296 * c = x + y) (hx:x < P) (hy:y < P):z = x + y:=by
 rcases Nat.eq_zero_or_pos c with h | h
 ·subst h
  rw [Nat.mul_zero] at hz
  exact hz
 ·exfalso
  have h1:P * 4294967296 * 1 ≤ P * 4294967296 * c:=Nat.mul_le_mul_left _ h
  rw [Nat.mul_one] at h1
  have h2:P * 2 ≤ P * 4294967296:=Nat.mul_le_mul_left _ (by decide)
  omega

theorem pow_mono {a b:Nat} (h:a ≤ b):4294967296 ^ a ≤ 4294967296 ^ b:=Nat.pow_le_pow_right (by decide) h

set_option maxHeartbeats 1000000 in
theorem add_ge (a1 a2:Option Addr) (n1 c1 n2 c2:Nat) (xs ys:List Nat) (w:World) (h1:Sl w a1 n1 c1 xs) (h2:Sl w a2 n2 c2 ys) (ox:Ok xs) (oy:Ok ys) (hb1:n1 ≤ 70368744170000) (hb2:n2 ≤ 70368744170000) (hge:n2 ≤ n1) :
  Calls Tryz.prog 153 #[.slice a1 n1 c1,.slice a2 n2 c2] w fun e w' => NewRep w w' (val xs + val ys) e:=by
 have hl1:=h1.len
 have hl2:=h2.len
 have hmk:=make_len1 n1 (by omega)
 have hcmp:¬ (n1:Int) < (n2:Int):=by omega
 have bel0:=(Below.refl w.heap.size w).alloc (Nat.le_refl _) (.cells (madeCells #[.int .u32 0] (n1 + 1)) 43)
 have HF0:=Fn.made w (n1 + 1) 43
 have HF:=Hd HF0
 have HS:=Hd (h1.below bel0)
 have U:=Upd.setCells w.heap.size 0 (n1 + 1) (vals xs) 0 (w.alloc (.cells (madeCells #[.int .u32 0] (n1 + 1)) 43)) (Nat.le_refl _) (by simp [vals,hl1])
 have bel1:Below w.heap.size w _:=bel0.trans (U.below (Nat.le_refl _) (by simp))
 have F1:=HF0.copied xs (by omega)
 have S2:=h2.below bel1
 have KA:=addTo_any w.heap.size 0 (n1 + 1) (n1 + 1) n2 c2 a2 _ ys _ S2 (fun x hx hne => by have:=h2.block_lt hne x hx; omega) (by omega) (by unfold maxLen; omega) oy (fun i _ => getD_lt (f:=fun _ => 0) ox i) F1
 have HV:=Hd (valF_pad xs (n1 + 1) (by omega))
 have KA':=Hd KA
 have HB1:=Hd bel1
 have HX:=Hd (val_lt ox)
 have HY:=Hd (val_lt oy)
 clear KA S2 F1 bel1 U HF0 bel0 h1 h2 ox oy
 go_enter Tryz.func153,Tryz.ntmps153
 go_wp2_with (refine wpList_copy_row rfl _ _ rfl w.heap.size 0 (n1 + 1) (n1 + 1) a1 n1 c1 rfl rfl _ (Uh HF) xs (Uh HS) (Nat.le_succ _) ?_)
 refine (Uh KA').mono ?_
 rintro e w2 ⟨f',c,rfl,hc,hF,hf,hval,hupd⟩
 have hz:valF f' (n1 + 1) = val xs + val ys:=by
  have:=hval
  rw [Uh HV,Nat.pow_succ] at this
  have r:=add_fin this (by rw [← hl1]; exact Uh HX) (Nat.lt_of_lt_of_le (Uh HY) (pow_mono (by omega)))
  omega
 have KT:=trim_any _ (n1 + 1) (n1 + 1) _ w2 (hF.sl (Nat.le_refl _) (by unfold maxLen; omega)) (lst_ok hf)
 rw [lst_val,hz] at KT
 have KT':=Hd KT
 have HB2:=Hd ((Uh HB1).trans (hupd.below (Nat.le_refl _) (Uh HB1).size))
 clear KT hz hval hupd hF hf KA' HV HX HY
 go_wp2_with fail
 refine (Uh KT').mono ?_
 rintro e w3 ⟨a',m,zs,rfl,hs,hr,ha,rfl⟩
 go_wp2
 go_ret
 refine ⟨a',m,zs,rfl,hs,hr,?_,Uh HB2⟩
 intro x hx
 rcases ha with rfl | rfl
 ·cases hx; exact Nat.le_refl _
 ·cases hx

set_option maxHeartbeats 1000000 in
theorem add_lt (a1 a2:Option Addr) (n1 c1 n2 c2:Nat) (xs ys:List Nat) (w:World) (h1:Sl w a1 n1 c1 xs) (h2:Sl w a2 n2 c2 ys) (ox:Ok xs) (oy:Ok ys) (hb1:n1 ≤ 70368744170000) (hb2:n2 ≤ 70368744170000) (hlt:n1 < n2) :
  Calls Tryz.prog 153 #[.slice a1 n1 c1,.slice a2 n2 c2] w fun e w' => NewRep w w' (val xs + val ys) e:=by
 have hl1:=h1.len
 have hl2:=h2.len
 have hmk:=make_len1 n2 (by omega)
 have hcmp:(n1:Int) < (n2:Int):=by omega
 have bel0:=(Below.refl w.heap.size w).alloc (Nat.le_refl _) (.cells (madeCells #[.int .u32 0] (n2 + 1)) 43)
 have HF0:=Fn.made w (n2 + 1) 43
 have HF:=Hd HF0
 have HS:=Hd (h2.below bel0)
 have U:=Upd.setCells w.heap.size 0 (n2 + 1) (vals ys) 0 (w.alloc (.cells (madeCells #[.int .u32 0] (n2 + 1)) 43)) (Nat.le_refl _) (by simp [vals,hl2])
 have bel1:Below w.heap.size w _:=bel0.trans (U.below (Nat.le_refl _) (by simp))
 have F1:=HF0.copied ys (by omega)
 have S2:=h1.below bel1
 have KA:=addTo_any w.heap.size 0 (n2 + 1) (n2 + 1) n1 c1 a1 _ xs _ S2 (fun x hx hne => by have:=h1.block_lt hne x hx; omega) (by omega) (by unfold maxLen; omega) ox (fun i _ => getD_lt (f:=fun _ => 0) oy i) F1
 have HV:=Hd (valF_pad ys (n2 + 1) (by omega))
 have KA':=Hd KA
 have HB1:=Hd bel1
 have HX:=Hd (val_lt oy)
 have HY:=Hd (val_lt ox)
 clear KA S2 F1 bel1 U HF0 bel0 h1 h2 ox oy
 go_enter Tryz.func153,Tryz.ntmps153
 go_wp2_with (refine wpList_copy_row rfl _ _ rfl w.heap.size 0 (n2 + 1) (n2 + 1) a2 n2 c2 rfl rfl _ (Uh HF) ys (Uh HS) (Nat.le_succ _) ?_)
 refine (Uh KA').mono ?_
 rintro e w2 ⟨f',c,rfl,hc,hF,hf,hval,hupd⟩
 have hz:valF f' (n2 + 1) = val xs + val ys:=by
  have:=hval
  rw [Uh HV,Nat.pow_succ] at this
  have r:=add_fin this (by rw [← hl2]; exact Uh HX) (Nat.lt_of_lt_of_le (Uh HY) (pow_mono (by omega)))
  omega
 have KT:=trim_any _ (n2 + 1) (n2 + 1) _ w2 (hF.sl (Nat.le_refl _) (by unfold maxLen; omega)) (lst_ok hf)
 rw [lst_val,hz] at KT
 have KT':=Hd KT
 have HB2:=Hd ((Uh HB1).trans (hupd.below (Nat.le_refl _) (Uh HB1).size))
 clear KT hz hval hupd hF hf KA' HV HX HY
 go_wp2_with fail
 refine (Uh KT').mono ?_
 rintro e w3 ⟨a',m,zs,rfl,hs,hr,ha,rfl⟩
 go_wp2
 go_ret
 refine ⟨a',m,zs,rfl,hs,hr,?_,Uh HB2⟩
 intro x hx
 rcases ha with rfl | rfl
 ·cases hx; exact Nat.le_refl _
 ·cases hx

theorem add_any (a1 a2:Option Addr) (n1 c1 n2 c2:Nat) (xs ys:List Nat) (w:World) (h1:Sl w a1 n1 c1 xs) (h2:Sl w a2 n2 c2 ys) (ox:Ok xs) (oy:Ok ys) (hb1:n1 ≤ 70368744170000) (hb2:n2 ≤ 70368744170000) :
  Calls Tryz.prog 153 #[.slice a1 n1 c1,.slice a2 n2 c2] w fun e w' => NewRep w w' (val xs + val ys) e:=by
 by_cases h:n2 ≤ n1
 ·exact add_ge a1 a2 n1 c1 n2 c2 xs ys w h1 h2 ox oy hb1 hb2 h
 ·exact add_lt a1 a2 n1 c1 n2 c2 xs ys w h1 h2 ox oy hb1 hb2 (by omega)

set_option maxHeartbeats 1000000 in
theorem subtract_any (a1 a2:Option Addr) (n1 c1 n2 c2:Nat) (xs ys:List Nat) (w:World) (h1:Sl w a1 n1 c1 xs) (h2:Sl w a2 n2 c2 ys) (ox:Ok xs) (oy:Ok ys) (hb1:n1 ≤ 70368744170000) (hb2:n2 ≤ 70368744170000) (hge:val ys ≤ val xs) (hle:n2 ≤ n1) :
  Calls Tryz.prog 195 #[.slice a1 n1 c1,.slice a2 n2 c2] w fun e w' => NewRep w w' (val xs - val ys) e:=by
 have hl1:=h1.len
 have hl2:=h2.len
 have K1:=Hd (clone_any a1 n1 c1 xs w h1 (by omega))
 go_enter Tryz.func195,Tryz.ntmps195
 go_wp2_with fail
 refine (Uh K1).mono ?_
 rintro e w1 ⟨rfl,hF,hbel⟩
 have hv:valF (fun i => xs.getD i 0) n1 = val xs:=by rw [← hl1]; exact valF_list xs
 have KS:=subFrom_any w.heap.size 0 n1 n1 n2 c2 a2 _ ys w1 (h2.below hbel) (fun x hx hne => by have:=h2.block_lt hne x hx; omega) hle (by unfold maxLen; omega) oy (fun i _ => ox.getD i) hF (by rw [hv]; exact hge)
 rw [hv] at KS
 have KS':=Hd KS
 have HB:=Hd hbel
 clear KS hv hF hbel K1 h1 h2 ox oy
 go_wp2_with fail
 refine (Uh KS').mono ?_
 rintro e w2 ⟨rfl,f',hF,hf,hval,hupd⟩
 have hz:valF f' n1 = val xs - val ys:=by omega
 have KT:=trim_any _ n1 n1 _ w2 (hF.sl (Nat.le_refl _) (by unfold maxLen; omega)) (lst_ok hf)
 rw [lst_val,hz] at KT
 have KT':=Hd KT
 have HB2:=Hd ((Uh HB).trans (hupd.below (Nat.le_refl _) (Uh HB).size))
 clear KT hz hval hupd hF hf KS'
 go_wp2_with fail
 refine (Uh KT').mono ?_
 rintro e w3 ⟨a',m,zs,rfl,hs,hr,ha,rfl⟩
 go_wp2
 go_ret
 refine ⟨a',m,zs,rfl,hs,hr,?_,Uh HB2⟩
 intro x hx
 rcases ha with rfl | rfl
 ·cases hx; exact Nat.le_refl _
 ·cases hx

def Res2 (w w':World) (r:List Nat × Int) (e:Ending):Prop :=
 ∃ a m c,e = .returned (.tuple #[.slice a m c,.int .i64 r.2]) ∧ Sl w' a m c r.1 ∧ NewAt w.heap.size a ∧ Below w.heap.size w w'

def fitL (v:Nat):List Nat × Int:=if 2048 < (limbs v).length then ([],2) else (limbs v,0)

theorem fitL_big {v:Nat} (h:2048 < (limbs v).length):fitL v = ([],2):=by simp [fitL,h]
theorem fitL_ok {v:Nat} (h:¬ 2048 < (limbs v).length):fitL v = (limbs v,0):=by simp [fitL,h]

theorem sl_nil (w:World):Sl w none 0 0 []:=⟨rfl,Nat.le_refl _,Nat.zero_le _,.inl rfl⟩
theorem newAt_nil (B:Nat):NewAt B none:=fun x hx => by cases hx

set_option maxHeartbeats 400000 in
theorem fit_any (a:Option Addr) (m c v:Nat) (ys:List Nat) (w:World) (h:Sl w a m c ys) (hr:Rep v ys) :
  Calls Tryz.prog 82 #[.slice a m c] w fun e w' => ∃ a' m' c',e = .returned (.tuple #[.slice a' m' c',.int .i64 (fitL v).2]) ∧ Sl w' a' m' c' (fitL v).1 ∧ (a' = a ∨ a' = none) ∧ w' = w:=by
 have hl:=h.len
 have e:=hr.eq
 by_cases hb:2048 < m
 ·have hf:=fitL_big (v:=v) (by rw [← e,hl]; exact hb)
  have hb':(2048:Int) < (m:Int):=by omega
  rw [hf]
  clear hf e hl hr h
  go_enter Tryz.func82,Tryz.ntmps82
  go_wp2
  go_ret2
  exact ⟨none,0,0,rfl,sl_nil _,.inr rfl,rfl⟩
 ·have hf:=fitL_ok (v:=v) (by rw [← e,hl]; exact hb)
  have hb':¬ (2048:Int) < (m:Int):=by omega
  rw [hf,← e]
  have H:=Hd h
  clear hf e hl hr h
  go_enter Tryz.func82,Tryz.ntmps82
  go_wp2
  go_ret2
  exact ⟨a,m,c,rfl,Uh H,.inl rfl,rfl⟩

def addL (xs ys:List Nat):List Nat × Int:=if MayL xs && MayL ys then fitL (val xs + val ys) else ([],20)
def subL (xs ys:List Nat):List Nat × Int:=if MayL xs && MayL ys then (if val xs < val ys then ([],21) else (limbs (val xs - val ys),0)) else ([],20)

set_option maxHeartbeats 1000000 in
theorem nadd_any (a1 a2:Option Addr) (n1 c1 n2 c2:Nat) (xs ys:List Nat) (w:World) (h1:Sl w a1 n1 c1 xs) (h2:Sl w a2 n2 c2 ys) (ox:Ok xs) (oy:Ok ys) :
  Calls Tryz.prog 92 #[.slice a1 n1 c1,.slice a2 n2 c2] w fun e w' => Res2 w w' (addL xs ys) e:=by
 have K1:=may_any a1 n1 c1 xs w h1
 have K2:=may_any a2 n2 c2 ys w h2
 by_cases m1:MayL xs = true
 ·by_cases m2:MayL ys = true
  ·have hl1:=MayL.len m1
   have hl2:=MayL.len m2
   have K3:=Hd (add_any a1 a2 n1 c1 n2 c2 xs ys w h1 h2 ox oy (by have:=h1.len; omega) (by have:=h2.len; omega))
   rw [m1] at K1; rw [m2] at K2
   have K1':=Hd K1
   have K2':=Hd K2
   have HC:=Hd (show addL xs ys = fitL (val xs + val ys) from by simp [addL,m1,m2])
   clear K1 K2 m1 m2 h1 h2 ox oy hl1 hl2
   go_enter Tryz.func92,Tryz.ntmps92
   go_wp2_with fail
   refine (Uh K1').mono ?_
   rintro e w' ⟨rfl,hw⟩
   obtain rfl:=hw.symm
   go_wp2_with fail
   refine (Uh K2').mono ?_
   rintro e w' ⟨rfl,hw⟩
   obtain rfl:=hw.symm
   go_wp2_with fail
   refine (Uh K3).mono ?_
   rintro e w1 ⟨a',m,zs,rfl,hs,hr,ha,hb⟩
   have K4:=Hd (fit_any a' m m _ zs w1 hs hr)
   have HA:=Hd ha
   have HB:=Hd hb
   clear K1' K2' K3 hs hr ha hb
   go_wp2_with fail
   refine (Uh K4).mono ?_
   rintro e w2 ⟨a2',m2,c2',rfl,hs2,ha2,rfl⟩
   go_wp2
   go_ret2
   rw [Uh HC]
   refine ⟨a2',m2,c2',rfl,hs2,?_,Uh HB⟩
   rcases ha2 with rfl | rfl
   ·exact Uh HA
   ·exact newAt_nil _
  ·have m2':MayL ys = false:=by simpa using m2
   rw [m1] at K1; rw [m2'] at K2
   have K1':=Hd K1
   have K2':=Hd K2
   have HC:=Hd (show addL xs ys = ([],20) from by simp [addL,m2'])
   clear K1 K2 m1 m2 m2' h1 h2 ox oy
   go_enter Tryz.func92,Tryz.ntmps92
   go_wp2_with fail
   refine (Uh K1').mono ?_
   rintro e w' ⟨rfl,hw⟩
   obtain rfl:=hw.symm
   go_wp2_with fail
   refine (Uh K2').mono ?_
   rintro e w' ⟨rfl,hw⟩
   obtain rfl:=hw.symm
   go_wp2
   go_ret2
   rw [Uh HC]
   exact ⟨none,0,0,rfl,sl_nil _,newAt_nil _,Below.refl _ _⟩
 ·have m1':MayL xs = false:=by simpa using m1
  rw [m1'] at K1
  have K1':=Hd K1
  have HC:=Hd (show addL xs ys = ([],20) from by simp [addL,m1'])
  clear K1 K2 m1 m1' h1 h2 ox oy
  go_enter Tryz.func92,Tryz.ntmps92
  go_wp2_with fail
  refine (Uh K1').mono ?_
  rintro e w' ⟨rfl,hw⟩
  obtain rfl:=hw.symm
  go_wp2
  go_ret2
  rw [Uh HC]
  exact ⟨none,0,0,rfl,sl_nil _,newAt_nil _,Below.refl _ _⟩
end Go.Proofs.YtlolnaegfponeaaGreatDoor
