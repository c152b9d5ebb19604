/- Add -/
import Derived.Test.YtmnlhnmlgncedaaGreatDoorCmp
namespace Go.Proofs.YtmnlhnmlgncedaaGreatDoor
open Go.RowKit Go.Deep
set_option linter.unusedVariables false
def NewRep (w w':World) (v:Nat) (e:Ending):Prop :=
 ∃ a' m ys,e = .returned (.slice a' m m) ∧ Sl w' a' m m ys ∧ Rep v ys ∧ NewAt w.heap.size a' ∧ Below w.heap.size w w'

theorem make_len1 (n:Nat) (hn:n ≤ 70368744177000) (w:World):(Instr.makeSlice 22 (.int .i64 ((n:Int) + 1)) (.int .i64 ((n:Int) + 1))).run Tryz.prog w = .ok (.slice (some ⟨w.heap.size,0,none⟩) (n + 1) (n + 1)) (w.alloc (.cells (madeCells #[.int .u32 0] (n + 1)) 84)):=by
 have:=make_len (n + 1) (by omega) w
 rw [show ((n + 1:Nat):Int) = (n:Int) + 1 from by omega] at this
 exact this

theorem add_fin {x y z c P:Nat} (hz:z + P * 4294967296 * c = x + y) (hx:x < P) (hy:y < P):z = x + y:=by
 rcases Nat.eq_zero_or_pos c with h | h
 ·subst h
  rw [Nat.mul_zero] at hz
  exact hz
 ·exfalso
  have h1:P * 4294967296 * 1 ≤ P * 4294967296 * c:=Nat.mul_le_mul_left _ h
  rw [Nat.mul_one] at h1
  have h2:P * 2 ≤ P * 4294967296:=Nat.mul_le_mul_left _ (by decide)
  omega

theorem pow_mono {a b:Nat} (h:a ≤ b):4294967296 ^ a ≤ 4294967296 ^ b:=Nat.pow_le_pow_right (by decide) h

set_option maxHeartbeats 1000000 in
theorem add_ge (a1 a2:Option Addr) (n1 c1 n2 c2:Nat) (xs ys:List Nat) (w:World) (h1:Sl w a1 n1 c1 xs) (h2:Sl w a2 n2 c2 ys) (ox:Ok xs) (oy:Ok ys) (hb1:n1 ≤ 70368744170000) (hb2:n2 ≤ 70368744170000) (hge:n2 ≤ n1) :
  Calls Tryz.prog 173 #[.slice a1 n1 c1,.slice a2 n2 c2] w fun e w' => NewRep w w' (val xs + val ys) e:=by
 have hl1:=h1.len
 have hl2:=h2.len
 have hmk:=make_len1 n1 (by omega)
 have hcmp:¬ (n1:Int) < (n2:Int):=by omega
 have bel0:=(Below.refl w.heap.size w).alloc (Nat.le_refl _) (.cells (madeCells #[.int .u32 0] (n1 + 1)) 84)
 have HF0:=Fn.made w (n1 + 1) 84
 have HF:=Hj HF0
 have HS:=Hj (h1.below bel0)
 have U:=Upd.setCells w.heap.size 0 (n1 + 1) (vals xs) 0 (w.alloc (.cells (madeCells #[.int .u32 0] (n1 + 1)) 84)) (Nat.le_refl _) (by simp [vals,hl1])
 have bel1:Below w.heap.size w _:=bel0.trans (U.below (Nat.le_refl _) (by simp))
 have F1:=HF0.copied xs (by omega)
 have S2:=h2.below bel1
 have KA:=addTo_any w.heap.size 0 (n1 + 1) (n1 + 1) n2 c2 a2 _ ys _ S2 (fun x hx hne => by have:=h2.block_lt hne x hx; omega) (by omega) (by unfold maxLen; omega) oy (fun i _ => getD_lt (f:=fun _ => 0) ox i) F1
 have HV:=Hj (valF_pad xs (n1 + 1) (by omega))
 have KA':=Hj KA
 have HB1:=Hj bel1
 have HX:=Hj (val_lt ox)
 have HY:=Hj (val_lt oy)
 clear KA S2 F1 bel1 U HF0 bel0 h1 h2 ox oy
 go_enter Tryz.func173,Tryz.ntmps173
 go_wp2_with (refine wpList_copy_row rfl _ _ rfl w.heap.size 0 (n1 + 1) (n1 + 1) a1 n1 c1 rfl rfl _ (Uh HF) xs (Uh HS) (Nat.le_succ _) ?_)
 refine (Uh KA').mono ?_
 rintro e w2 ⟨f',c,rfl,hc,hF,hf,hval,hupd⟩
 have hz:valF f' (n1 + 1) = val xs + val ys:=by
  have:=hval
  rw [Uh HV,Nat.pow_succ] at this
  have r:=add_fin this (by rw [← hl1]; exact Uh HX) (Nat.lt_of_lt_of_le (Uh HY) (pow_mono (by omega)))
  omega
 have KT:=trim_any _ (n1 + 1) (n1 + 1) _ w2 (hF.sl (Nat.le_refl _) (by unfold maxLen; omega)) (lst_ok hf)
 rw [lst_val,hz] at KT
 have KT':=Hj KT
 have HB2:=Hj ((Uh HB1).trans (hupd.below (Nat.le_refl _) (Uh HB1).size))
 clear KT hz hval hupd hF hf KA' HV HX HY
 go_wp2_with fail
 refine (Uh KT').mono ?_
 rintro e w3 ⟨a',m,zs,rfl,hs,hr,ha,rfl⟩
 go_wp2
 go_ret
 refine ⟨a',m,zs,rfl,hs,hr,?_,Uh HB2⟩
 intro x hx
 rcases ha with rfl | rfl
 ·cases hx; exact Nat.le_refl _
 ·cases hx

set_option maxHeartbeats 1000000 in
theorem add_lt (a1 a2:Option Addr) (n1 c1 n2 c2:Nat) (xs ys:List Nat) (w:World) (h1:Sl w a1 n1 c1 xs) (h2:Sl w a2 n2 c2 ys) (ox:Ok xs) (oy:Ok ys) (hb1:n1 ≤ 70368744170000) (hb2:n2 ≤ 70368744170000) (hlt:n1 < n2) :
  Calls Tryz.prog 173 #[.slice a1 n1 c1,.slice a2 n2 c2] w fun e w' => NewRep w w' (val xs + val ys) e:=by
 have hl1:=h1.len
 have hl2:=h2.len
 have hmk:=make_len1 n2 (by omega)
 have hcmp:(n1:Int) < (n2:Int):=by omega
 have bel0:=(Below.refl w.heap.size w).alloc (Nat.le_refl _) (.cells (madeCells #[.int .u32 0] (n2 + 1)) 84)
 have HF0:=Fn.made w (n2 + 1) 84
 have HF:=Hj HF0
 have HS:=Hj (h2.below bel0)
 have U:=Upd.setCells w.heap.size 0 (n2 + 1) (vals ys) 0 (w.alloc (.cells (madeCells #[.int .u32 0] (n2 + 1)) 84)) (Nat.le_refl _) (by simp [vals,hl2])
 have bel1:Below w.heap.size w _:=bel0.trans (U.below (Nat.le_refl _) (by simp))
 have F1:=HF0.copied ys (by omega)
 have S2:=h1.below bel1
 have KA:=addTo_any w.heap.size 0 (n2 + 1) (n2 + 1) n1 c1 a1 _ xs _ S2 (fun x hx hne => by have:=h1.block_lt hne x hx; omega) (by omega) (by unfold maxLen; omega) ox (fun i _ => getD_lt (f:=fun _ => 0) oy i) F1
 have HV:=Hj (valF_pad ys (n2 + 1) (by omega))
 have KA':=Hj KA
 have HB1:=Hj bel1
 have HX:=Hj (val_lt oy)
 have HY:=Hj (val_lt ox)
 clear KA S2 F1 bel1 U HF0 bel0 h1 h2 ox oy
 go_enter Tryz.func173,Tryz.ntmps173
 go_wp2_with (refine wpList_copy_row rfl _ _ rfl w.heap.size 0 (n2 + 1) (n2 + 1) a2 n2 c2 rfl rfl _ (Uh HF) ys (Uh HS) (Nat.le_succ _) ?_)
 refine (Uh KA').mono ?_
 rintro e w2 ⟨f',c,rfl,hc,hF,hf,hval,hupd⟩
 have hz:valF f' (n2 + 1) = val xs + val ys:=by
  have:=hval
  rw [Uh HV,Nat.pow_succ] at this
  have r:=add_fin this (by rw [← hl2]; exact Uh HX) (Nat.lt_of_lt_of_le (Uh HY) (pow_mono (by omega)))
  omega
 have KT:=trim_any _ (n2 + 1) (n2 + 1) _ w2 (hF.sl (Nat.le_refl _) (by unfold maxLen; omega)) (lst_ok hf)
 rw [lst_val,hz] at KT
 have KT':=Hj KT
 have HB2:=Hj ((Uh HB1).trans (hupd.below (Nat.le_refl _) (Uh HB1).size))
 clear KT hz hval hupd hF hf KA' HV HX HY
 go_wp2_with fail
 refine (Uh KT').mono ?_
 rintro e w3 ⟨a',m,zs,rfl,hs,hr,ha,rfl⟩
 go_wp2
 go_ret
 refine ⟨a',m,zs,rfl,hs,hr,?_,Uh HB2⟩
 intro x hx
 rcases ha with rfl | rfl
 ·cases hx; exact Nat.le_refl _
 ·cases hx

theorem add_any (a1 a2:Option Addr) (n1 c1 n2 c2:Nat) (xs ys:List Nat) (w:World) (h1:Sl w a1 n1 c1 xs) (h2:Sl w a2 n2 c2 ys) (ox:Ok xs) (oy:Ok ys) (hb1:n1 ≤ 70368744170000) (hb2:n2 ≤ 70368744170000) :
  Calls Tryz.prog 173 #[.slice a1 n1 c1,.slice a2 n2 c2] w fun e w' => NewRep w w' (val xs + val ys) e:=by
 by_cases h:n2 ≤ n1
 ·exact add_ge a1 a2 n1 c1 n2 c2 xs ys w h1 h2 ox oy hb1 hb2 h
 ·exact add_lt a1 a2 n1 c1 n2 c2 xs ys w h1 h2 ox oy hb1 hb2 (by omega)

set_option maxHeartbeats 1000000 in
theorem subtract_any (a1 a2:Option Addr) (n1 c1 n2 c2:Nat) (xs ys:List Nat) (w:World) (h1:Sl w a1 n1 c1 xs) (h2:Sl w a2 n2 c2 ys) (ox:Ok xs) (oy:Ok ys) (hb1:n1 ≤ 70368744170000) (hb2:n2 ≤ 70368744170000) (hge:val ys ≤ val xs) (hle:n2 ≤ n1) :
  Calls Tryz.prog 131 #[.slice a1 n1 c1,.slice a2 n2 c2] w fun e w' => NewRep w w' (val xs - val ys) e:=by
 have hl1:=h1.len
 have hl2:=h2.len
 have K1:=Hj (clone_any a1 n1 c1 xs w h1 (by omega))
 go_enter Tryz.func131,Tryz.ntmps131
 go_wp2_with fail
 refine (Uh K1).mono ?_
 rintro e w1 ⟨rfl,hF,hbel⟩
 have hv:valF (fun i => xs.getD i 0) n1 = val xs:=by rw [← hl1]; exact valF_list xs
 have KS:=subFrom_any w.heap.size 0 n1 n1 n2 c2 a2 _ ys w1 (h2.below hbel) (fun x hx hne => by have:=h2.block_lt hne x hx; omega) hle (by unfold maxLen; omega) oy (fun i _ => ox.getD i) hF (by rw [hv]; exact hge)
 rw [hv] at KS
 have KS':=Hj KS
 have HB:=Hj hbel
 clear KS hv hF hbel K1 h1 h2 ox oy
 go_wp2_with fail
 refine (Uh KS').mono ?_
 rintro e w2 ⟨rfl,f',hF,hf,hval,hupd⟩
 have hz:valF f' n1 = val xs - val ys:=by omega
 have KT:=trim_any _ n1 n1 _ w2 (hF.sl (Nat.le_refl _) (by unfold maxLen; omega)) (lst_ok hf)
 rw [lst_val,hz] at KT
 have KT':=Hj KT
 have HB2:=Hj ((Uh HB).trans (hupd.below (Nat.le_refl _) (Uh HB).size))
 clear KT hz hval hupd hF hf KS'
 go_wp2_with fail
 refine (Uh KT').mono ?_
 rintro e w3 ⟨a',m,zs,rfl,hs,hr,ha,rfl⟩
 go_wp2
 go_ret
 refine ⟨a',m,zs,rfl,hs,hr,?_,Uh HB2⟩
 intro x hx
 rcases ha with rfl | rfl
 ·cases hx; exact Nat.le_refl _
 ·cases hx

def Res2 (w w':World) (r:List Nat × Int) (e:Ending):Prop :=
 ∃ a m c,e = .returned (.tuple #[.slice a m c,.int .i64 r.2]) ∧ Sl w' a m c r.1 ∧ NewAt w.heap.size a ∧ Below w.heap.size w w'

def fitL (v:Nat):List Nat × Int:=if 2048 < (limbs v).length then ([],2) else (limbs v,0)

theorem fitL_big {v:Nat} (h:2048 < (limbs v).length):fitL v = ([],2):=by simp [fitL,h]
theorem fitL_ok {v:Nat} (h:¬ 2048 < (limbs v).length):fitL v = (limbs v,0):=by simp [fitL,h]

theorem sl_nil (w:World):Sl w none 0 0 []:=⟨rfl,Nat.le_refl _,Nat.zero_le _,.inl rfl⟩
theorem newAt_nil (B:Nat):NewAt B none:=fun x hx => by cases hx

set_option maxHeartbeats 400000 in
theorem fit_any (a:Option Addr) (m c v:Nat) (ys:List Nat) (w:World) (h:Sl w a m c ys) (hr:Rep v ys) :
  Calls Tryz.prog 92 #[.slice a m c] w fun e w' => ∃ a' m' c',e = .returned (.tuple #[.slice a' m' c',.int .i64 (fitL v).2]) ∧ Sl w' a' m' c' (fitL v).1 ∧ (a' = a ∨ a' = none) ∧ w' = w:=by
 have hl:=h.len
 have e:=hr.eq
 by_cases hb:2048 < m
 ·have hf:=fitL_big (v:=v) (by rw [← e,hl]; exact hb)
  have hb':(2048:Int) < (m:Int):=by omega
  rw [hf]
  clear hf e hl hr h
  go_enter Tryz.func92,Tryz.ntmps92
  go_wp2
  go_ret2
  exact ⟨none,0,0,rfl,sl_nil _,.inr rfl,rfl⟩
 ·have hf:=fitL_ok (v:=v) (by rw [← e,hl]; exact hb)
  have hb':¬ (2048:Int) < (m:Int):=by omega
  rw [hf,← e]
  have H:=Hj h
  clear hf e hl hr h
  go_enter Tryz.func92,Tryz.ntmps92
  go_wp2
  go_ret2
  exact ⟨a,m,c,rfl,Uh H,.inl rfl,rfl⟩

def addL (xs ys:List Nat):List Nat × Int:=if MayL xs && MayL ys then fitL (val xs + val ys) else ([],20)
def subL (xs ys:List Nat):List Nat × Int:=if MayL xs && MayL ys then (if val xs < val ys then ([],21) else (limbs (val xs - val ys),0)) else ([],20)

set_option maxHeartbeats 1000000 in
theorem nadd_any (a1 a2:Option Addr) (n1 c1 n2 c2:Nat) (xs ys:List Nat) (w:World) (h1:Sl w a1 n1 c1 xs) (h2:Sl w a2 n2 c2 ys) (ox:Ok xs) (oy:Ok ys) :
  Calls Tryz.prog 129 #[.slice a1 n1 c1,.slice a2 n2 c2] w fun e w' => Res2 w w' (addL xs ys) e:=by
 have K1:=may_any a1 n1 c1 xs w h1
 have K2:=may_any a2 n2 c2 ys w h2
 by_cases m1:MayL xs = true
 ·by_cases m2:MayL ys = true
  ·have hl1:=MayL.len m1
   have hl2:=MayL.len m2
   have K3:=Hj (add_any a1 a2 n1 c1 n2 c2 xs ys w h1 h2 ox oy (by have:=h1.len; omega) (by have:=h2.len; omega))
   rw [m1] at K1; rw [m2] at K2
   have K1':=Hj K1
   have K2':=Hj K2
   have HC:=Hj (show addL xs ys = fitL (val xs + val ys) from by simp [addL,m1,m2])
   clear K1 K2 m1 m2 h1 h2 ox oy hl1 hl2
   go_enter Tryz.func129,Tryz.ntmps129
   go_wp2_with fail
   refine (Uh K1').mono ?_
   rintro e w' ⟨rfl,hw⟩
   obtain rfl:=hw.symm
   go_wp2_with fail
   refine (Uh K2').mono ?_
   rintro e w' ⟨rfl,hw⟩
   obtain rfl:=hw.symm
   go_wp2_with fail
   refine (Uh K3).mono ?_
   rintro e w1 ⟨a',m,zs,rfl,hs,hr,ha,hb⟩
   have K4:=Hj (fit_any a' m m _ zs w1 hs hr)
   have HA:=Hj ha
   have HB:=Hj hb
   clear K1' K2' K3 hs hr ha hb
   go_wp2_with fail
   refine (Uh K4).mono ?_
   rintro e w2 ⟨a2',m2,c2',rfl,hs2,ha2,rfl⟩
   go_wp2
   go_ret2
   rw [Uh HC]
   refine ⟨a2',m2,c2',rfl,hs2,?_,Uh HB⟩
   rcases ha2 with rfl | rfl
   ·exact Uh HA
   ·exact newAt_nil _
  ·have m2':MayL ys = false:=by simpa using m2
   rw [m1] at K1; rw [m2'] at K2
   have K1':=Hj K1
   have K2':=Hj K2
   have HC:=Hj (show addL xs ys = ([],20) from by simp [addL,m2'])
   clear K1 K2 m1 m2 m2' h1 h2 ox oy
   go_enter Tryz.func129,Tryz.ntmps129
   go_wp2_with fail
   refine (Uh K1').mono ?_
   rintro e w' ⟨rfl,hw⟩
   obtain rfl:=hw.symm
   go_wp2_with fail
   refine (Uh K2').mono ?_
   rintro e w' ⟨rfl,hw⟩
   obtain rfl:=hw.symm
   go_wp2
   go_ret2
   rw [Uh HC]
   exact ⟨none,0,0,rfl,sl_nil _,newAt_nil _,Below.refl _ _⟩
 ·have m1':MayL xs = false:=by simpa using m1
  rw [m1'] at K1
  have K1':=Hj K1
  have HC:=Hj (show addL xs ys = ([],20) from by simp [addL,m1'])
  clear K1 K2 m1 m1' h1 h2 ox oy
  go_enter Tryz.func129,Tryz.ntmps129
  go_wp2_with fail
  refine (Uh K1').mono ?_
  rintro e w' ⟨rfl,hw⟩
  obtain rfl:=hw.symm
  go_wp2
  go_ret2
  rw [Uh HC]
  exact ⟨none,0,0,rfl,sl_nil _,newAt_nil _,Below.refl _ _⟩
set_option maxHeartbeats 2000000 in
theorem nsub_any (a1 a2:Option Addr) (n1 c1 n2 c2:Nat) (xs ys:List Nat) (w:World) (h1:Sl w a1 n1 c1 xs) (h2:Sl w a2 n2 c2 ys) (ox:Ok xs) (oy:Ok ys) :
  Calls Tryz.prog 82 #[.slice a1 n1 c1,.slice a2 n2 c2] w fun e w' => Res2 w w' (subL xs ys) e:=by
 have K1:=may_any a1 n1 c1 xs w h1
 have K2:=may_any a2 n2 c2 ys w h2
 by_cases m1:MayL xs = true
 ·by_cases m2:MayL ys = true
  ·rw [m1] at K1; rw [m2] at K2
   have K1':=Hj K1
   have K2':=Hj K2
   have nx:=MayL.norm m1
   have ny:=MayL.norm m2
   have hl1:n1 ≤ 2048:=by have:=h1.len; have:=MayL.len m1; omega
   have hl2:n2 ≤ 2048:=by have:=h2.len; have:=MayL.len m2; omega
   by_cases hlt:val xs < val ys
   ·have HC:=Hj (show subL xs ys = ([],21) from by simp [subL,m1,m2,hlt])
    have KC:=compare_any a1 a2 n1 c1 n2 c2 xs ys w h1 h2 ox oy nx ny
    rw [cmpN_lt hlt] at KC
    have KC':=Hj KC
    clear KC K1 K2 m1 m2 h1 h2 ox oy nx ny hlt
    go_enter Tryz.func82,Tryz.ntmps82
    go_wp2_with fail
    refine (Uh K1').mono ?_
    rintro e w' ⟨rfl,hw⟩
    obtain rfl:=hw.symm
    go_wp2_with fail
    refine (Uh K2').mono ?_
    rintro e w' ⟨rfl,hw⟩
    obtain rfl:=hw.symm
    go_wp2_with fail
    refine (Uh KC').mono ?_
    rintro e w' ⟨rfl,k,rfl⟩
    go_wp2
    go_ret2
    rw [Uh HC]
    exact ⟨none,0,0,rfl,sl_nil _,newAt_nil _,bel_drewN (Below.refl _ _) k⟩
   ·have HC:=Hj (show subL xs ys = (limbs (val xs - val ys),0) from by simp [subL,m1,m2,hlt])
    have hle:n2 ≤ n1:=by
     rcases Nat.lt_or_ge n1 n2 with h | h
     ·exact absurd (len_lt_val ox ny (by rw [h1.len,h2.len]; exact h)) hlt
     ·exact h
    have KC:=compare_any a1 a2 n1 c1 n2 c2 xs ys w h1 h2 ox oy nx ny
    have hge:¬ cmpN (val xs) (val ys) < 0:=by unfold cmpN; rw [if_neg hlt]; split <;> omega
    have KS:=fun k => subtract_any a1 a2 n1 c1 n2 c2 xs ys (w.drewN k) (h1.drewN k) (h2.drewN k) ox oy (by omega) (by omega) (by omega) hle
    generalize cmpN (val xs) (val ys) = cc at KC hge
    have KC':=Hj KC
    have KS':=Hj KS
    clear KC KS K1 K2 m1 m2 h1 h2 ox oy nx ny hlt hle
    go_enter Tryz.func82,Tryz.ntmps82
    go_wp2_with fail
    refine (Uh K1').mono ?_
    rintro e w' ⟨rfl,hw⟩
    obtain rfl:=hw.symm
    go_wp2_with fail
    refine (Uh K2').mono ?_
    rintro e w' ⟨rfl,hw⟩
    obtain rfl:=hw.symm
    go_wp2_with fail
    refine (Uh KC').mono ?_
    rintro e w' ⟨rfl,k,rfl⟩
    go_wp2_with fail
    refine (Uh KS' k).mono ?_
    rintro e w1 ⟨a',m,zs,rfl,hs,hr,ha,hb⟩
    have HR:=Hj (And.intro hs (And.intro hr (And.intro ha hb)))
    clear hs hr ha hb
    go_wp2
    go_ret2
    rw [Uh HC,← (Uh HR).2.1.eq]
    exact ⟨a',m,m,rfl,(Uh HR).1,(Uh HR).2.2.1,(bel_drewN (Below.refl _ _) k).trans (Uh HR).2.2.2⟩
  ·have m2':MayL ys = false:=by simpa using m2
   rw [m1] at K1; rw [m2'] at K2
   have K1':=Hj K1
   have K2':=Hj K2
   have HC:=Hj (show subL xs ys = ([],20) from by simp [subL,m2'])
   clear K1 K2 m1 m2 m2' h1 h2 ox oy
   go_enter Tryz.func82,Tryz.ntmps82
   go_wp2_with fail
   refine (Uh K1').mono ?_
   rintro e w' ⟨rfl,hw⟩
   obtain rfl:=hw.symm
   go_wp2_with fail
   refine (Uh K2').mono ?_
   rintro e w' ⟨rfl,hw⟩
   obtain rfl:=hw.symm
   go_wp2
   go_ret2
   rw [Uh HC]
   exact ⟨none,0,0,rfl,sl_nil _,newAt_nil _,Below.refl _ _⟩
 ·have m1':MayL xs = false:=by simpa using m1
  rw [m1'] at K1
  have K1':=Hj K1
  have HC:=Hj (show subL xs ys = ([],20) from by simp [subL,m1'])
  clear K1 K2 m1 m1' h1 h2 ox oy
  go_enter Tryz.func82,Tryz.ntmps82
  go_wp2_with fail
  refine (Uh K1').mono ?_
  rintro e w' ⟨rfl,hw⟩
  obtain rfl:=hw.symm
  go_wp2
  go_ret2
  rw [Uh HC]
  exact ⟨none,0,0,rfl,sl_nil _,newAt_nil _,Below.refl _ _⟩
theorem valF_add (f:Nat → Nat) (i:Nat):∀ (m:Nat),valF f (i + m) = valF f i + 4294967296 ^ i * valF (fun k => f (i + k)) m
 | 0 => by simp [valF]
 | m + 1 => by
  rw [← Nat.add_assoc]
  simp only [valF]
  rw [valF_add f i m,Nat.pow_add,Nat.mul_add,Nat.mul_assoc]
  omega

def mdl (x y r c:Nat):Nat:=(x * y + r + c) % 4294967296
def mdh (x y r c:Nat):Nat:=(x * y + r + c) / 4294967296
theorem mdl_lt (x y r c:Nat):mdl x y r c < 4294967296:=by unfold mdl; exact Nat.mod_lt _ (by decide)
theorem md_eq (x y r c:Nat):mdl x y r c + 4294967296 * mdh x y r c = x * y + r + c:=by unfold mdl mdh; exact Nat.mod_add_div _ _
theorem mul_bound {x y:Nat} (hx:x < 4294967296) (hy:y < 4294967296):x * y ≤ 18446744065119617025:=by
 have:x * y ≤ 4294967295 * 4294967295:=Nat.mul_le_mul (by omega) (by omega)
 omega
theorem mdh_lt {x y r c:Nat} (hx:x < 4294967296) (hy:y < 4294967296) (hr:r < 4294967296) (hc:c < 4294967296):mdh x y r c < 4294967296:=by
 have:=mul_bound hx hy
 unfold mdh
 generalize x * y = p at *
 omega
theorem mdl_int (x y r c:Nat):((x:Int) * y + r + c) % 4294967296 = ((mdl x y r c:Nat):Int):=by
 unfold mdl
 rw [← Int.natCast_mul]
 generalize x * y = p
 omega
theorem mdh_int (x y r c:Nat):((x:Int) * y + r + c) / 4294967296 = ((mdh x y r c:Nat):Int):=by
 unfold mdh
 rw [← Int.natCast_mul]
 generalize x * y = p
 omega

structure RowR (wr w:World) (bz oz nz:Nat) (f:Nat → Nat) (i y:Nat) (xs:List Nat) (j c:Nat) (g:Nat → Nat):Prop where
 cle:c < 4294967296
 fn:Fn wr bz oz nz g
 ok:∀ k,k < nz → g k < 4294967296
 lo:∀ k,k < i → g k = f k
 hi:∀ k,i + j ≤ k → k < nz → g k = f k
 val:valF (fun k => g (i + k)) j + 4294967296 ^ j * c = valF (fun k => f (i + k)) j + valF (fun k => xs.getD k 0) j * y
 upd:Upd bz oz (oz + nz) w wr

theorem row_arith {P A F X c l h x y r:Nat} (h1:A + P * c = F + X * y) (e:l + 4294967296 * h = x * y + r + c):A + P * l + P * 4294967296 * h = F + P * r + (X + P * x) * y:=by
 have h2:P * l + P * 4294967296 * h = P * (x * y) + P * r + P * c:=by
  rw [Nat.mul_assoc,← Nat.mul_add,e,Nat.mul_add,Nat.mul_add]
 rw [Nat.add_mul,Nat.mul_assoc P x y]
 generalize P * l = a1 at *
 generalize P * 4294967296 * h = a2 at *
 generalize P * (x * y) = a3 at *
 generalize P * r = a4 at *
 generalize P * c = a5 at *
 generalize X * y = a6 at *
 omega

theorem RowR.step {wr w:World} {bz oz nz:Nat} {f:Nat → Nat} {i y:Nat} {xs:List Nat} {j c:Nat} {g:Nat → Nat} (h:RowR wr w bz oz nz f i y xs j c g) (hj:i + j < nz) (hx:xs.getD j 0 < 4294967296) (hy:y < 4294967296) :
  RowR (wr.setCell ⟨bz,oz + i + j,none⟩ (.int .u32 (mdl (xs.getD j 0) y (g (i + j)) c:Nat))) w bz oz nz f i y xs (j + 1) (mdh (xs.getD j 0) y (g (i + j)) c) (fun k => if k = i + j then mdl (xs.getD j 0) y (g (i + j)) c else g k):=by
 have ew:oz + i + j = oz + (i + j):=by omega
 rw [ew]
 refine ⟨mdh_lt hx hy (h.ok _ hj) h.cle,h.fn.set (i + j) _ hj,?_,?_,?_,?_,h.upd.set _ _ (by omega) (by omega)⟩
 ·intro k hk
  by_cases e:k = i + j
  ·simp only [e,if_true]; exact mdl_lt _ _ _ _
  ·simp only [e,if_false]; exact h.ok k hk
 ·intro k hk
  have:k ≠ i + j:=by omega
  simp only [this,if_false]; exact h.lo k hk
 ·intro k h1 h2
  have:k ≠ i + j:=by omega
  simp only [this,if_false]; exact h.hi k (by omega) h2
 ·simp only [valF]
  rw [valF_congr (g:=fun k => g (i + k)) (fun k hk => by rw [if_neg (by omega)]),if_pos trivial,Nat.pow_succ]
  have e:=md_eq (xs.getD j 0) y (g (i + j)) c
  have:=row_arith h.val e
  rw [h.hi (i + j) (Nat.le_refl _) hj] at this ⊢
  exact this

theorem RowR.drewN {wr w:World} {bz oz nz:Nat} {f:Nat → Nat} {i y:Nat} {xs:List Nat} {j c:Nat} {g:Nat → Nat} (h:RowR wr w bz oz nz f i y xs j c g) (k:Nat):RowR (wr.drewN k) w bz oz nz f i y xs j c g:=⟨h.cle,h.fn,h.ok,h.lo,h.hi,h.val,h.upd.drewN k⟩

structure RowsR (wr w:World) (bz oz nz:Nat) (xs ys:List Nat) (i:Nat) (f:Nat → Nat):Prop where
 fn:Fn wr bz oz nz f
 ok:∀ k,k < nz → f k < 4294967296
 zero:∀ k,i + xs.length ≤ k → k < nz → f k = 0
 val:valF f (i + xs.length) = Go.Proofs.YtmnlhnmlgncedaaGreatDoor.val xs * valF (fun k => ys.getD k 0) i
 upd:Upd bz oz (oz + nz) w wr

theorem RowsR.step {wr w w1:World} {bz oz nz:Nat} {xs ys:List Nat} {i c:Nat} {f g:Nat → Nat} (h:RowsR wr w bz oz nz xs ys i f) (hr:RowR w1 w bz oz nz f i (ys.getD i 0) xs xs.length c g) (hi:i + xs.length < nz) :
  RowsR (w1.setCell ⟨bz,oz + i + xs.length,none⟩ (.int .u32 (c:Nat))) w bz oz nz xs ys (i + 1) (fun k => if k = i + xs.length then c else g k):=by
 have ew:oz + i + xs.length = oz + (i + xs.length):=by omega
 rw [ew]
 refine ⟨hr.fn.set _ _ hi,?_,?_,?_,hr.upd.set _ _ (by omega) (by omega)⟩
 ·intro k hk
  by_cases e:k = i + xs.length
  ·simp only [e,if_true]; exact hr.cle
  ·simp only [e,if_false]; exact hr.ok k hk
 ·intro k h1 h2
  have:k ≠ i + xs.length:=by omega
  simp only [this,if_false]
  rw [hr.hi k (by omega) h2]; exact h.zero k (by omega) h2
 ·have e1:i + 1 + xs.length = i + (xs.length + 1):=by omega
  rw [e1,valF_add]
  simp only [valF]
  rw [if_pos trivial]
  rw [valF_congr (f:=fun k => if k = i + xs.length then c else g k) (g:=f) (fun k hk => by rw [if_neg (by omega)]; exact hr.lo k hk)]
  rw [valF_congr (f:=fun k => if i + k = i + xs.length then c else g (i + k)) (g:=fun k => g (i + k)) (fun k hk => by rw [if_neg (by omega)])]
  rw [hr.val,valF_list]
  have hv:=h.val
  rw [valF_add] at hv
  rw [Nat.mul_add,Nat.mul_add,← Nat.add_assoc,hv]
  have:4294967296 ^ i * (Go.Proofs.YtmnlhnmlgncedaaGreatDoor.val xs * ys.getD i 0) = Go.Proofs.YtmnlhnmlgncedaaGreatDoor.val xs * (4294967296 ^ i * ys.getD i 0):=by rw [Nat.mul_left_comm]
  rw [this]

theorem RowsR.begin {wr w:World} {bz oz nz:Nat} {xs ys:List Nat} {i:Nat} {f:Nat → Nat} (h:RowsR wr w bz oz nz xs ys i f) (y:Nat):RowR wr w bz oz nz f i y xs 0 0 f :=
 ⟨by decide,h.fn,h.ok,fun _ _ => rfl,fun _ _ _ => rfl,by simp [valF],h.upd⟩

theorem rows_step {wr w w1:World} {bz oz nz n1:Nat} {xs ys:List Nat} {i c:Nat} {f g:Nat → Nat} (hl:xs.length = n1) (h:RowsR wr w bz oz nz xs ys i f) (hr:RowR w1 w bz oz nz f i (ys.getD i 0) xs n1 c g) (hi:i + n1 < nz) :
  RowsR (w1.setCell ⟨bz,oz + i + n1,none⟩ (.int .u32 (c:Nat))) w bz oz nz xs ys (i + 1) (fun k => if k = i + n1 then c else g k):=by
 subst hl
 exact h.step hr hi

set_option maxHeartbeats 4000000 in
theorem rows_some (bz oz nz cz b1 o1 n1 c1 b2 o2 n2 c2:Nat) (xs ys:List Nat) (w:World) (hb1:b1 ≠ bz ∨ o1 + xs.length ≤ oz ∨ oz + nz ≤ o1) (hb2:b2 ≠ bz ∨ o2 + ys.length ≤ oz ∨ oz + nz ≤ o2) (hl1:xs.length = n1) (hl2:ys.length = n2) (hnz:n1 + n2 = nz) (hcz:nz ≤ cz) (hm:cz ≤ maxLen) (ox:Ok xs) (oy:Ok ys)
  (hz:Fn w bz oz nz (fun _ => 0)) (hx:Cells w b1 o1 xs) (hy:Cells w b2 o2 ys) :
  Calls Tryz.prog 204 #[.slice (some ⟨bz,oz,none⟩) nz cz,.slice (some ⟨b1,o1,none⟩) n1 c1,.slice (some ⟨b2,o2,none⟩) n2 c2] w fun e w' => e = .returned (.tuple #[]) ∧ ∃ f',Fn w' bz oz nz f' ∧ (∀ i,i < nz → f' i < 4294967296) ∧
   valF f' nz = val xs * val ys ∧ Upd bz oz (oz + nz) w w':=by
 unfold maxLen at hm
 have HL1:=Hj hl1
 have HL2:=Hj hl2
 have HNZ:=Hj hnz
 have HB1:=Hj hb1
 have HB2:=Hj hb2
 have hnz1:n1 + n2 ≤ nz:=by omega
 have hR0:RowsR w w bz oz nz xs ys 0 (fun _ => 0):=⟨hz,fun _ _ => by decide,fun _ _ _ => rfl,by simp [valF,valF_zero],Upd.refl _ _ _ _⟩
 clear hl1 hl2 hnz hb1 hb2
 go_enter Tryz.func204,Tryz.ntmps204
 go_wp2
 go_loopw [13] (fun i wr => ∃ k:Nat,∃ f:Nat → Nat,k ≤ n2 ∧ i = .int .i64 k ∧ RowsR wr w bz oz nz xs ys k f) (fun i _ => n2 - (intOf i).toNat)
 case atStart => exact ⟨0,_,Nat.zero_le _,rfl,hR0⟩
 case round =>
  clear hR0 hz
  obtain ⟨k,f,hk,rfl,hR⟩:=hrel
  by_cases hlt:k < n2
  ·have hlt':(k:Int) < (n2:Int):=by omega
   have hs1:(k:Int) + (n1:Int) + 1 ≤ (cz:Int):=by omega
   have hY:=oy.getD k
   obtain ⟨wo,rfl⟩:∃ wo:World,wo = wr:=⟨_,rfl⟩
   have HR:=Hj hR
   clear hR
   have hrl:k + n1 + 1 - k = n1 + 1:=by omega
   go_wp2_with fail
   go_loopw [8,31] (fun cv jv wr => ∃ j c:Nat,∃ g:Nat → Nat,j ≤ n1 ∧ jv = .int .i64 j ∧ cv = .int .u64 (c:Nat) ∧ RowR wr w bz oz nz f k (ys.getD k 0) xs j c g) (fun _ jv _ => n1 - (intOf jv).toNat)
   case atStart => exact ⟨0,0,f,Nat.zero_le _,rfl,rfl,(Uh HR).begin _⟩
   case round =>
    obtain ⟨j,c,g,hj,rfl,rfl,hQ⟩:=hrel
    have hc0:=hQ.cle
    by_cases hjl:j < n1
    ·have hjl':(j:Int) < (n1:Int):=by omega
     have hjl2:(j:Int) < (n1:Int) + 1:=by omega
     have g1:=hQ.upd.cells hx (Uh HB1) j (by rw [Uh HL1]; exact hjl)
     have g2:=hQ.upd.cells hy (Uh HB2) k (by rw [Uh HL2]; exact hlt)
     have g3:=(hQ.fn (k + j) (by omega)).1
     have g4:=(hQ.fn (k + j) (by omega)).2
     rw [← Nat.add_assoc] at g3 g4
     have bx:=ox.getD j
     have br:=hQ.ok (k + j) (by omega)
     have HS:=Hj (hQ.step (by omega) bx hY)
     have mb:((xs.getD j 0:Nat):Int) * ((ys.getD k 0:Nat):Int) ≤ 18446744065119617025:=by
      have:=mul_bound bx hY
      rw [← Int.natCast_mul]; omega
     have mb0:0 ≤ ((xs.getD j 0:Nat):Int) * ((ys.getD k 0:Nat):Int):=Int.mul_nonneg (by omega) (by omega)
     have e1:=mdl_int (xs.getD j 0) (ys.getD k 0) (g (k + j)) c
     have e2:=mdh_int (xs.getD j 0) (ys.getD k 0) (g (k + j)) c
     generalize xs.getD j 0 = x at g1 bx HS mb mb0 e1 e2
     generalize hyy:ys.getD k 0 = y at g2 HS mb mb0 e1 e2 hY
     have HY:=Hj hyy
     generalize g (k + j) = r at g3 br HS e1 e2
     clear hQ hyy hx hy
     go_wp2_with fail
     go_quiet (fail)
     go_wp2
     exact ⟨⟨j + 1,_,_,by omega,by go_num,rfl,(Uh HS).drewN _⟩,by simp [intOf]; omega⟩
    ·have hjn:j = n1:=by omega
     subst hjn
     have hjl':¬ (j:Int) < (j:Int):=by omega
     have hjl3:(j:Int) < (j:Int) + 1:=by omega
     have g3:=(hQ.fn (k + j) (by omega)).1
     have g4:=(hQ.fn (k + j) (by omega)).2
     rw [← Nat.add_assoc] at g3 g4
     have HS:=rows_step (Uh HL1) (Uh HR) hQ (by omega)
     have HS':=Hj HS
     generalize ((g (k + j):Nat):Int) = r at g3
     clear hQ HS hx hy HR
     go_wp2
     exact ⟨⟨k + 1,_,by omega,by go_num,Uh HS'⟩,by simp [intOf]; omega⟩
  ·have hkn:k = n2:=by omega
   have HV:=Hj (show valF f nz = val xs * val ys from by
    have hv:=hR.val
    rw [hkn,Uh HL1,Nat.add_comm n2 n1,Uh HNZ] at hv
    rw [hv,← Uh HL2,valF_list])
   have HR:=Hj hR
   clear hR hx hy hkn
   go_wp2
   go_end0
   exact ⟨rfl,f,(Uh HR).fn,(Uh HR).ok,Uh HV,(Uh HR).upd⟩
end Go.Proofs.YtmnlhnmlgncedaaGreatDoor
