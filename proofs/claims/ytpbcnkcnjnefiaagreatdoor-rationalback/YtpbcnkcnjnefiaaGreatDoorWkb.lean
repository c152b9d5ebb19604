/- Rp7 -/
import Derived.Test.YtpbcnkcnjnefiaaGreatDoorRp6
import Derived.Test.YtpbcnkcnjnefiaaGreatDoorWis
import Derived.Test.YtpbcnkcnjnefiaaGreatDoorRl2
import Derived.Laws.BitsAllLaws
import Derived.Test.YtpbcnkcnjnefiaaGreatDoorWi2
import Derived.Test.YtpbcnkcnjnefiaaGreatDoorDv7
import Derived.Test.YtpbcnkcnjnefiaaGreatDoorWic
import Derived.Deep.RegionHeld3
namespace Go.Proofs.YtpbcnkcnjnefiaaGreatDoor
open Go.RowKit Go.Deep
set_option linter.unusedVariables false
theorem txt_short {x:List Nat} {n:Nat} (ox:Ok x) (kx:MayL x = true) (h:TxtOf (val x) 10 n):n ≤ 30000:=by
 rcases h.ge with e | e
 ·omega
 ·have h1:=val_lt ox
  rw [pow_limb] at h1
  have h2:=MayL.len kx
  have h3:(2:Nat) ^ (3 * (n - 1)) ≤ 10 ^ (n - 1):=by
   rw [Nat.pow_mul]
   exact Nat.pow_le_pow_left (by decide) _
  have h4:(2:Nat) ^ (3 * (n - 1)) < 2 ^ (32 * x.length):=Nat.lt_of_le_of_lt (Nat.le_trans h3 e) h1
  have h5:=(Nat.pow_lt_pow_iff_right (a:=2) (by decide)).1 h4
  omega
theorem nz_txt {V m:Nat} (hV:0 < V) (h:TxtOf V 10 m):Nz (strB (txtL V 10 m)):=by
 have hp:=h.pos
 have hl:=h.lt
 have hg:(txtL V 10 m).getD 0 0 = chrN (dgt V 10 (m - 1 - 0)):=lst_getD _ _ _ (by omega)
 have hb:=txt_byte (V:=V) (n:=m) (p:=0) (by omega)
 refine ⟨0,by rw [strB_size,txtL_len]; omega,?_⟩
 unfold byA
 rw [strB_get (by rw [txtL_len]; omega) (by omega),hg]
 have hd:dgt V 10 (m - 1 - 0) ≠ 0:=by
  unfold dgt
  rw [Nat.sub_zero]
  have h1:V / 10 ^ (m - 1) < 10:=by
   rw [Nat.div_lt_iff_lt_mul (Nat.pow_pos (by decide)),Nat.mul_comm,← Nat.pow_succ,show (m - 1).succ = m by omega]
   exact hl
  have h2:1 ≤ V / 10 ^ (m - 1):=by
   rcases h.ge with e | e
   ·subst e
    simp; omega
   ·exact (Nat.le_div_iff_mul_le (Nat.pow_pos (by decide))).2 (by omega)
  omega
 have h3:=dgt_lt V (m - 1 - 0) (b:=10) (by decide)
 unfold chrN
 rw [if_pos h3]
 omega
theorem first_byte (l:List Nat) (c:Nat):((strB (c :: l)).extract 0 1).toList = [UInt8.ofNat c]:=by
 have h:=strB_front [c] l (n:=1) rfl
 rw [show [c] ++ l = c :: l from rfl] at h
 rw [h,Lib.toList_data,strB_data]
 rfl
theorem trim_sign (g:Bool) (V n:Nat) (h:1 ≤ n) (hs:(strB (mnL g ++ txtL V 10 n)).size ≤ 65536) (W:World) :
  Calls Tryz.prog 65 #[.string (strB (mnL g ++ txtL V 10 n)),.string ⟨#[45]⟩] W fun e w' => e = .returned (.string (strB (txtL V 10 n))) ∧ w' = W:=by
 cases g
 ·have e:mnL false ++ txtL V 10 n = txtL V 10 n:=rfl
  rw [e]
  refine trimPrefix_no _ W ?_
  have hl:=txtL_len V 10 n
  have hb:=txt_byte (V:=V) (n:=n) (p:=0) (by omega)
  cases hx:txtL V 10 n with
  | nil => rw [hx] at hl; simp at hl; omega
  | cons c r =>
   rw [hx] at hb
   have hb':48 ≤ c ∧ c ≤ 57:=hb
   rw [first_byte]
   have hne:(UInt8.ofNat c == 45) = false:=by
    have:UInt8.ofNat c ≠ 45:=fun e => by
     have:=congrArg UInt8.toNat e
     simp at this
     omega
    simpa using this
   simp [hne]
 ·have e:mnL true ++ txtL V 10 n = 45 :: txtL V 10 n:=rfl
  rw [e] at hs ⊢
  have hsz:(strB (45 :: txtL V 10 n)).size = 1 + (txtL V 10 n).length:=by rw [strB_size]; simp; omega
  have hb:=strB_back [45] (txtL V 10 n) (n:=1) (m:=(strB (45 :: txtL V 10 n)).size) rfl hsz.symm
  rw [show [45] ++ txtL V 10 n = 45 :: txtL V 10 n from rfl] at hb
  have K:=trimPrefix_yes (strB (45 :: txtL V 10 n)) W hs (by omega) (by rw [first_byte]; rfl)
  rw [hb] at K
  exact K
theorem rparse_print (g:Bool) (x y:List Nat) (s:ByteArray) (w:World) (ox:Ok x) (oy:Ok y) (hP:PrR g x y s 0) (hT:Tab64 w) (hTB:TabBh w) :
  Calls Tryz.prog 8 #[.string s] w fun e w' => ∃ v,e = .returned (.tuple #[v,.int .i64 0,.int .i64 0]) ∧ NewR w w' g x y v:=by
 generalize h0:(0:Int) = e0 at hP
 cases hP with
 | bad h => cases h0
 | whole n h hy ht =>
  obtain ⟨kx,ky,ey,_,_⟩:=MayR.parts h
  have hn:=txt_short ox kx ht
  have hml:(mnL g).length ≤ 1:=by cases g <;> decide
  rw [mnL_str,← strB_app]
  have hsz:(strB (mnL g ++ txtL (val x) 10 n)).size ≤ 65536:=by rw [strB_size]; simp [txtL_len]; omega
  obtain ⟨p1,p2,p3⟩:=pr_whole g (val x) n ht.pos rfl
  have hpa:PaIs (strB (txtL (val x) 10 n)) 10 x 0 0:=back_txt (b:=10) (by decide) (by decide) ox kx ht
  refine parse_whole g _ (strB (txtL (val x) 10 n)) ⟨#[]⟩ 0 x y w ox oy h hy hsz hT hTB (fun W hW => ?_) hpa rfl
  have K:=takeApart_z _ (strB (txtL (val x) 10 n)) W hsz hW p1 0 p2 rfl (fun W2 => trim_sign g (val x) n ht.pos hsz W2)
  rw [p3] at K
  exact K
 | frac n m h hy ht hm =>
  obtain ⟨kx,ky,ey,_,_⟩:=MayR.parts h
  have hn:=txt_short ox kx ht
  have hm2:=txt_short oy ky hm
  have hnp:=ht.pos
  have hmp:=hm.pos
  have hml:(mnL g).length ≤ 1:=by cases g <;> decide
  have es:mnB g ++ (strB (txtL (val x) 10 n) ++ ((⟨#[47]⟩:ByteArray) ++ strB (txtL (val y) 10 m))) = strB (mnL g ++ (txtL (val x) 10 n ++ (47 :: txtL (val y) 10 m))):=by
   rw [mnL_str,strB_app,strB_app,show (47 :: txtL (val y) 10 m) = [47] ++ txtL (val y) 10 m from rfl,strB_app]
   rfl
  rw [es]
  have hsz0:(strB (mnL g ++ (txtL (val x) 10 n ++ (47 :: txtL (val y) 10 m)))).size = (mnL g).length + n + 1 + m:=by rw [strB_size]; simp [txtL_len]; omega
  have hsz:(strB (mnL g ++ (txtL (val x) 10 n ++ (47 :: txtL (val y) 10 m)))).size ≤ 65536:=by omega
  obtain ⟨p1,p2,p3⟩:=pr_frac g (val x) n (val y) m hnp hmp rfl
  have hpa:PaIs (strB (txtL (val x) 10 n)) 10 x 0 0:=back_txt (b:=10) (by decide) (by decide) ox kx ht
  have hpb:PaIs (strB (txtL (val y) 10 m)) 10 y 0 0:=back_txt (b:=10) (by decide) (by decide) oy ky hm
  have hfr:(strB (mnL g ++ (txtL (val x) 10 n ++ (47 :: txtL (val y) 10 m)))).extract 0 ((mnL g).length + n) = strB (mnL g ++ txtL (val x) 10 n):=by
   rw [← List.append_assoc]
   exact strB_front _ _ (by simp [txtL_len])
  have hbk:(strB (mnL g ++ (txtL (val x) 10 n ++ (47 :: txtL (val y) 10 m)))).extract ((mnL g).length + n + 1) (strB (mnL g ++ (txtL (val x) 10 n ++ (47 :: txtL (val y) 10 m)))).size = strB (txtL (val y) 10 m):=by
   rw [hsz0]
   have e:mnL g ++ (txtL (val x) 10 n ++ (47 :: txtL (val y) 10 m)) = (mnL g ++ txtL (val x) 10 n ++ [47]) ++ txtL (val y) 10 m:=by simp
   rw [e]
   exact strB_back _ _ (by simp [txtL_len]; omega) (by simp [txtL_len])
  have hs2:(strB (mnL g ++ txtL (val x) 10 n)).size ≤ 65536:=by rw [strB_size]; simp [txtL_len]; omega
  refine parse_frac g _ (strB (txtL (val x) 10 n)) (strB (txtL (val y) 10 m)) ((mnL g).length + n) x y w ox oy h hsz hT hTB (fun W hW => ?_) hpa (by omega) hpb (by rw [strB_size,txtL_len]; omega) (nz_txt (val_pos_of_may ky ey) hm)
  have K:=takeApart_n _ (strB (txtL (val x) 10 n)) W hsz hW p1 ((mnL g).length + n) p2 (by omega) (by omega) (fun W2 => by rw [hfr]; exact trim_sign g (val x) n hnp hs2 W2)
  rw [p3,hbk] at K
  exact K
def exB (b:Nat):Nat:=b / 4503599627370496 % 2048
def frB (b:Nat):Nat:=b % 4503599627370496
theorem exB_lt (b:Nat):exB b < 2048:=Nat.mod_lt _ (by decide)
theorem frB_lt (b:Nat):frB b < 4503599627370496:=Nat.mod_lt _ (by decide)
theorem ex_bits {b:Nat} (hb:b < 18446744073709551616):bits .and .u64 ((b:Int) / 4503599627370496) 2047 = (exB b:Int):=by
 have h:=u64_and_nat (b / 4503599627370496) 2047 (by omega) (by decide)
 rw [show (2047:Nat) = 2 ^ 11 - 1 from rfl,Nat.and_two_pow_sub_one_eq_mod] at h
 exact h
theorem fr_bits {b:Nat} (hb:b < 18446744073709551616):bits .and .u64 (b:Int) 4503599627370495 = (frB b:Int):=by
 have h:=u64_and_nat b 4503599627370495 hb (by decide)
 rw [show (4503599627370495:Nat) = 2 ^ 52 - 1 from rfl,Nat.and_two_pow_sub_one_eq_mod] at h
 exact h
def ffN (b:Nat):Nat:=if exB b = 0 then frB b else frB b + 4503599627370496
def ffE (b:Nat):Nat:=exB b - 1
def FfF (b:Nat):(Bool × List Nat × List Nat) × Int :=
 if exB b = 2047 then ((false,[],[]),1)
 else if 1074 ≤ ffE b then lowF (decide (9223372036854775808 ≤ b)) (ffN b * 2 ^ (ffE b - 1074)) 1
 else lowF (decide (9223372036854775808 ≤ b)) (ffN b) (2 ^ (1074 - ffE b))
theorem ffN_lt (b:Nat):ffN b < 9007199254740992:=by
 have:=frB_lt b
 unfold ffN
 split <;> omega
theorem wrap_small {n:Int} (h0:0 ≤ n) (h1:n < 9223372036854775808):wrap64 n = n:=by unfold wrap64; omega
set_option maxHeartbeats 4000000 in
theorem ratIncr_any (a:Option Addr) (n c:Nat) (v:Nat) (w:World) (h:Sl w a n c (limbs v)) (m:MayL (limbs v) = true) (hf:(limbs (v + 1)).length ≤ 2048) :
  Calls Tryz.prog 81 #[.slice a n c] w fun e w' => NewN w w' (v + 1) e:=by
 have H:=Hd h
 have hv:addL (limbs v) [1] = (limbs (v + 1),0):=by
  unfold addL
  have v1:val [1] = 1:=by simp [val]
  have m1:MayL [1] = true:=by decide
  rw [m,m1,(limbs_rep v).val,v1]
  exact fitL_ok (by omega)
 have HV:=Hd hv
 clear h hv
 go_enter Tryz.func81,Tryz.ntmps81
 go_wp2_with fail
 refine (ratOne_any w).mono ?_
 rintro _ w1 ⟨a1,m1,rfl,s1,_,b1⟩
 have K:=nadd_any a a1 n c m1 m1 (limbs v) [1] w1 ((Uh H).below b1) s1 (limbs_rep v).ok (by intro x hx; simp at hx; subst hx; decide)
 rw [Uh HV] at K
 have HK:=Hd K
 have HB:=Hd b1
 clear s1 b1 K
 go_wp2_with fail
 refine (Uh HK).mono ?_
 rintro _ w2 ⟨a2,m2,c2,rfl,s2,n2,b2⟩
 have H2:=Hd (And.intro s2 (And.intro n2 b2))
 clear s2 n2 b2 HK
 go_wp2_with fail
 refine (sure_any _ _ _).mono ?_
 rintro _ _ ⟨rfl,hw⟩
 obtain rfl:=hw.symm
 clear hw
 go_wp2_with fail
 go_ret
 exact ⟨a2,m2,c2,rfl,(Uh H2).1,fun x hx => Nat.le_trans (Uh HB).size ((Uh H2).2.1 x hx),(Uh HB).trans ((Uh H2).2.2.mono (Uh HB).size)⟩

def flQ (g:Bool) (X Y:Nat):Nat:=if g && decide (X % Y ≠ 0) then X / Y + 1 else X / Y
def flL (g:Bool) (X Y:Nat):Nat:=if g && decide (X % Y ≠ 0) then Y - X % Y else X % Y
def FlPost (g:Bool) (X Y:Nat) (w:World) (e:Ending) (w':World):Prop :=
 ∃ a n c b m d a' n' c',e = .returned (.tuple #[ratV (g && decide (flQ g X Y ≠ 0)) a n c b m d,.slice a' n' c']) ∧ Sl w' a n c (limbs (flQ g X Y)) ∧ Sl w' b m d [1] ∧ Sl w' a' n' c' (limbs (flL g X Y)) ∧ NewAt w.heap.size a ∧ NewAt w.heap.size b ∧ Below w.heap.size w w'
theorem limbs_len0 {v:Nat} {m:Nat} (h:(limbs v).length = m):decide (0 < m) = decide (v ≠ 0):=by
 by_cases e:v = 0
 ·have hl:limbs v = []:=by
   have:=limbs_val (xs:=[]) (by intro x hx; cases hx) (by simp [Norm])
   rw [e]; simpa [val] using this
  rw [hl] at h
  simp at h
  simp [e,← h]
 ·have:limbs v ≠ []:=limbs_ne (by omega)
  have h2:=List.length_pos_iff.2 this
  rw [decide_eq_true (by omega),decide_eq_true e]
theorem incr_fit {X Y:Nat} (hY:0 < Y) (h:X % Y ≠ 0):X / Y + 1 ≤ X:=by
 have h2:2 ≤ Y:=by
  rcases Nat.lt_or_ge Y 2 with k | k
  ·obtain rfl:Y = 1:=by omega
   rw [Nat.mod_one] at h
   exact absurd rfl h
  ·exact k
 have h3:=Nat.div_add_mod X Y
 have h4:2 * (X / Y) ≤ Y * (X / Y):=Nat.mul_le_mul_right _ h2
 rcases Nat.eq_zero_or_pos (X / Y) with e | e
 ·rw [e] at h3 ⊢; omega
 ·omega
set_option maxHeartbeats 8000000 in
set_option maxRecDepth 100000 in
theorem ratfloor_any (g:Bool) (a b:Option Addr) (n c m d:Nat) (x y:List Nat) (w:World) (hx:Sl w a n c x) (hy:Sl w b m d y) (ox:Ok x) (oy:Ok y) (kx:MayL x = true) (ky:MayL y = true) (ey:y ≠ []) :
  Calls Tryz.prog 37 #[ratV g a n c b m d] w fun e w' => FlPost g (val x) (val y) w e w':=by
 have bx:=Box.made w g a n c b m d
 obtain ⟨wa,hwa⟩:∃ wa,ratBox w g a n c b m d = wa:=⟨_,rfl⟩
 rw [hwa] at bx
 obtain ⟨wb,hwb⟩:∃ wb,wa.alloc (.cells #[.bool false,.slice none 0 0,.slice none 0 0] 25) = wb:=⟨_,rfl⟩
 have hba:Below w.heap.size w wa:=by rw [← hwa]; exact bAl
 have hbb:Below wa.heap.size wa wb:=by rw [← hwb]; exact bAl
 have hO:Out wb wa.heap.size:=by rw [← hwb]; exact Out.made wa
 have hX:=bx.keep hbb
 have hB:=hba.trans (hbb.mono hba.size)
 have hlt:=bx.lt
 have d0:=hX.d0
 have d1:=hX.d1
 have d2:=hX.d2
 unfold ratBox at hwa
 have vy:=val_pos_of_may ky ey
 have KD:=ndivmod_any a b n c m d x y wb (hx.below hB) (hy.below hB) ox oy
 have hdv:divL x y = (limbs (val x / val y),limbs (val x % val y),0):=by
  unfold divL
  rw [kx,ky]
  simp [ey]
 rw [hdv] at KD
 try dsimp only at KD
 have mq:MayL (limbs (val x / val y)) = true:=may_div kx ox _
 have ml:MayL (limbs (val x % val y)) = true:=may_small ky oy (Nat.le_of_lt (Nat.mod_lt _ vy))
 have HIf:=Hd (fun (h:val x % val y ≠ 0) => (MayL.len (may_small kx ox (incr_fit vy h)):(limbs (val x / val y + 1)).length ≤ 2048))
 have HMl:=Hd (Nat.le_of_lt (Nat.mod_lt (val x) vy))
 obtain ⟨X,hXX⟩:∃ X,val x = X:=⟨_,rfl⟩
 obtain ⟨Y,hYY⟩:∃ Y,val y = Y:=⟨_,rfl⟩
 rw [hXX,hYY] at KD mq ml HIf
 rw [hYY,hXX] at HMl
 rw [hXX,hYY]
 have HKD:=Hd KD
 have HM:=Hd (And.intro mq (And.intro ml ky))
 have HX:=Hd (And.intro hX (And.intro hO (And.intro hB (And.intro hy (And.intro hYY oy)))))
 unfold ratV at ⊢
 clear bx hX hO hB hba hbb KD hx hy hXX hYY hdv mq ml vy kx ky ey
 go_enter Tryz.func37,Tryz.ntmps37
 go_wp2_with fail
 refine (Uh HKD).mono ?_
 rintro _ w1 ⟨aq,mq,cq,al,ml,cl,rfl,sq,nq,sl,nl,_,b1⟩
 have hol:=(Uh HX).2.1.lt
 have hws:=(Uh HX).2.2.1.size
 have HW:=Hd (And.intro (show w.heap.size ≤ wa.heap.size by omega) (show w.heap.size ≤ wb.heap.size from hws))
 have HY:=Hd (And.intro ((Uh HX).1.keep b1) (And.intro ((Uh HX).2.1.keep b1) ((Uh HX).2.2.1.trans (b1.mono (Uh HX).2.2.1.size))))
 have q0:=(Uh HY).1.d0
 have q2:=(Uh HY).1.d2
 have hll:(limbs (X % Y)).length = ml:=sl.len
 cases g
 ·have HS:=Hd (And.intro sq (And.intro sl (And.intro (fun p hp => by have h1:=nq p hp; omega:∀ p,aq = some p → wb.heap.size ≤ p.block) (fun p hp => by have h1:=nl p hp; omega:∀ p,al = some p → wb.heap.size ≤ p.block))))
  clear sq nq sl nl b1 hll HKD hws d0 d1 d2
  have hln:=(Uh HS).1.len
  have K:=ratWhole_any false aq mq cq w1
  unfold WhPost at K
  rw [limbs_len0 hln] at K
  obtain ⟨SG,hSG⟩:∃ SG,(false && decide (X / Y ≠ 0)) = SG:=⟨_,rfl⟩
  rw [hSG] at K
  unfold ratV at K
  have HK:=Hd K
  have HSG:=Hd hSG
  have e0:=(Uh HY).1.d0
  clear hln K hSG
  go_wp2_with fail
  refine (Uh HK).mono ?_
  rintro _ w5 ⟨aD,mD,cD,rfl,sD,nD,b5⟩
  have hO3:=(Uh HY).2.1.keep b5
  have hlo:=(Uh HY).2.1.lt
  obtain ⟨i0,o0⟩:=hO3.cells 0 (by decide)
  obtain ⟨i1,o1⟩:=hO3.cells 1 (by decide)
  obtain ⟨i2,o2⟩:=hO3.cells 2 (by decide)
  have r0:=hO3.fz 0 (by decide)
  have r1:=hO3.fz 1 (by decide)
  have r2:=hO3.fz 2 (by decide)
  have H4:=Hd (three_set w5 wa.heap.size (.bool SG) (.slice aq mq cq) (.slice aD mD cD) hO3.cells)
  have HZ:=Hd (And.intro ((Uh HS).1.below b5) (And.intro sD (And.intro ((Uh HS).2.1.below b5) (And.intro (fun p hp => by have h1:=(Uh HS).2.2.1 p hp; omega:∀ p,aq = some p → p.block ≠ wa.heap.size) (And.intro (fun p hp => by have h1:=nD p hp; omega:∀ p,aD = some p → p.block ≠ wa.heap.size) (And.intro (fun p hp => by have h1:=(Uh HS).2.2.2 p hp; omega:∀ p,al = some p → p.block ≠ wa.heap.size) (And.intro (fun p hp => by have h1:=(Uh HS).2.2.1 p hp; have h2:=(Uh HW).2; omega:NewAt w.heap.size aq) (And.intro (fun p hp => by have h1:=nD p hp; have h2:=(Uh HY).2.2.size; omega:NewAt w.heap.size aD) ((Uh HY).2.2.trans (b5.mono (Uh HY).2.2.size))))))))))
  clear hO3 hlo sD nD b5 HK e0 HS
  go_wp2_with fail
  obtain ⟨t0,t1,t2,c4⟩:=Uh H4
  generalize ((w5.setCell ⟨wa.heap.size,0,none⟩ (.bool SG)).setCell ⟨wa.heap.size,1,none⟩ (.slice aq mq cq)).setCell ⟨wa.heap.size,2,none⟩ (.slice aD mD cD) = wk at *
  refine bodyPost_ret (by simp [results,Tryz.results37,go_sem,t0,t1,t2]; try rfl) rfl ?_
  have z:=Uh HZ
  unfold FlPost
  rw [show flQ false X Y = X / Y from by unfold flQ; rfl,show flL false X Y = X % Y from by unfold flL; rfl]
  rw [Uh HSG]
  exact ⟨aq,mq,cq,aD,mD,cD,al,ml,cl,rfl,z.1.chg c4 (fun p hp _ => z.2.2.2.1 p hp),z.2.1.chg c4 (fun p hp _ => z.2.2.2.2.1 p hp),z.2.2.1.chg c4 (fun p hp _ => z.2.2.2.2.2.1 p hp),z.2.2.2.2.2.2.1,z.2.2.2.2.2.2.2.1,z.2.2.2.2.2.2.2.2.trans (c4.below z.2.2.2.2.2.2.2.2.size (fun k hk h => by have:=(Uh HW).1; omega))⟩
 ·by_cases hz:X % Y = 0
  ·have hl0:ml = 0:=by rw [← hll,hz]; have:=limbs_val (xs:=[]) (by intro x hx; cases hx) (by simp [Norm]); simp [val] at this; rw [this]; rfl
   have HS:=Hd (And.intro sq (And.intro sl (And.intro (fun p hp => by have h1:=nq p hp; omega:∀ p,aq = some p → wb.heap.size ≤ p.block) (fun p hp => by have h1:=nl p hp; omega:∀ p,al = some p → wb.heap.size ≤ p.block))))
   have hl1:¬ (0:Int) < (ml:Int):=by omega
   have HZ0:=Hd hz
   clear sq nq sl nl b1 hll HKD hws hl0 hz d0 d1 d2
   have hln:=(Uh HS).1.len
   have K:=ratWhole_any true aq mq cq w1
   unfold WhPost at K
   rw [limbs_len0 hln] at K
   obtain ⟨SG,hSG⟩:∃ SG,(true && decide (X / Y ≠ 0)) = SG:=⟨_,rfl⟩
   rw [hSG] at K
   unfold ratV at K
   have HK:=Hd K
   have HSG:=Hd hSG
   have e0:=(Uh HY).1.d0
   clear hln K hSG
   go_wp2_with fail
   refine (Uh HK).mono ?_
   rintro _ w5 ⟨aD,mD,cD,rfl,sD,nD,b5⟩
   have hO3:=(Uh HY).2.1.keep b5
   have hlo:=(Uh HY).2.1.lt
   obtain ⟨i0,o0⟩:=hO3.cells 0 (by decide)
   obtain ⟨i1,o1⟩:=hO3.cells 1 (by decide)
   obtain ⟨i2,o2⟩:=hO3.cells 2 (by decide)
   have r0:=hO3.fz 0 (by decide)
   have r1:=hO3.fz 1 (by decide)
   have r2:=hO3.fz 2 (by decide)
   have H4:=Hd (three_set w5 wa.heap.size (.bool SG) (.slice aq mq cq) (.slice aD mD cD) hO3.cells)
   have HZ:=Hd (And.intro ((Uh HS).1.below b5) (And.intro sD (And.intro ((Uh HS).2.1.below b5) (And.intro (fun p hp => by have h1:=(Uh HS).2.2.1 p hp; omega:∀ p,aq = some p → p.block ≠ wa.heap.size) (And.intro (fun p hp => by have h1:=nD p hp; omega:∀ p,aD = some p → p.block ≠ wa.heap.size) (And.intro (fun p hp => by have h1:=(Uh HS).2.2.2 p hp; omega:∀ p,al = some p → p.block ≠ wa.heap.size) (And.intro (fun p hp => by have h1:=(Uh HS).2.2.1 p hp; have h2:=(Uh HW).2; omega:NewAt w.heap.size aq) (And.intro (fun p hp => by have h1:=nD p hp; have h2:=(Uh HY).2.2.size; omega:NewAt w.heap.size aD) ((Uh HY).2.2.trans (b5.mono (Uh HY).2.2.size))))))))))
   clear hO3 hlo sD nD b5 HK e0 HS
   go_wp2_with fail
   obtain ⟨t0,t1,t2,c4⟩:=Uh H4
   generalize ((w5.setCell ⟨wa.heap.size,0,none⟩ (.bool SG)).setCell ⟨wa.heap.size,1,none⟩ (.slice aq mq cq)).setCell ⟨wa.heap.size,2,none⟩ (.slice aD mD cD) = wk at *
   refine bodyPost_ret (by simp [results,Tryz.results37,go_sem,t0,t1,t2]; try rfl) rfl ?_
   have z:=Uh HZ
   unfold FlPost
   rw [show flQ true X Y = X / Y from by unfold flQ; simp [Uh HZ0],show flL true X Y = X % Y from by unfold flL; simp [Uh HZ0]]
   rw [Uh HSG]
   exact ⟨aq,mq,cq,aD,mD,cD,al,ml,cl,rfl,z.1.chg c4 (fun p hp _ => z.2.2.2.1 p hp),z.2.1.chg c4 (fun p hp _ => z.2.2.2.2.1 p hp),z.2.2.1.chg c4 (fun p hp _ => z.2.2.2.2.2.1 p hp),z.2.2.2.2.2.2.1,z.2.2.2.2.2.2.2.1,z.2.2.2.2.2.2.2.2.trans (c4.below z.2.2.2.2.2.2.2.2.size (fun k hk h => by have:=(Uh HW).1; omega))⟩
  ·have hlp:(0:Int) < (ml:Int):=by
    have:limbs (X % Y) ≠ []:=limbs_ne (by omega)
    have:=List.length_pos_iff.2 this
    omega
   have HKI:=Hd (ratIncr_any aq mq cq (X / Y) w1.drew (sq.below (Below.refl _ _).drew) (Uh HM).1 (Uh HIf hz))
   have HSb:=Hd (fun (W:World) (hb:Below w1.heap.size w1 W) => (by have K:=nsub_any b al m d ml cl y (limbs (X % Y)) W (((Uh HX).2.2.2.1.below (Uh HY).2.2).below hb) (sl.below hb) (Uh HX).2.2.2.2.2 (limbs_rep _).ok; rw [sub_fit (Uh HM).2.2 (Uh HM).2.1 (by rw [(limbs_rep _).val,(Uh HX).2.2.2.2.1]; exact Uh HMl),(limbs_rep _).val,(Uh HX).2.2.2.2.1] at K; exact K:Calls Tryz.prog 82 #[.slice b m d,.slice al ml cl] W fun e w' => Res2 W w' (limbs (Y - X % Y),0) e))
   have HZ0:=Hd hz
   have HB1:=Hd b1
   clear sq nq sl nl b1 hll HKD hws hz d0 d1 d2
   go_wp2_with fail
   go_region_held3 (fun w' => w'.cell? ⟨w.heap.size,2,none⟩ = some (.slice b m d)) (first | go_keep | (exact e2) | (exact f2))
    (first
     | (go_at_call 81; refine (Uh HKI).mono ?_; rintro _ w2 ⟨aq,mq,cq,rfl,sq,nq,b2⟩; have hb2:Below w1.heap.size w1 w2:=(Below.refl _ _).drew.trans b2; have e2:=(ck hb2 q2); have HI2:=Hd (And.intro sq (And.intro nq hb2)); clear sq nq b2 hb2)
     | (go_at_call 82; refine (Uh HSb _ (Uh HI2).2.2).mono ?_; rintro _ w3 ⟨al,ml,cl,rfl,sl,nl,b3⟩; have f2:=(ck b3 e2); have HI3:=Hd (And.intro sl (And.intro nl b3)); clear sl nl b3)
     | (go_at_call 45; refine (sure_any _ _ _).mono ?_; rintro _ _ ⟨rfl,hw⟩; obtain rfl:=hw.symm; clear hw))
   have hb13:=(Uh HI2).2.2.trans ((Uh HI3).2.2.mono (Uh HI2).2.2.size)
   have hw1:=(Uh HB1).size
   have HS:=Hd (And.intro ((Uh HI2).1.below (Uh HI3).2.2) (And.intro (Uh HI3).1 (And.intro (fun p hp => by have h1:=(Uh HI2).2.1 p hp; simp at h1; omega:∀ p,aq = some p → wb.heap.size ≤ p.block) (fun p hp => by have h1:=(Uh HI3).2.1 p hp; have h2:=(Uh HI2).2.2.size; omega:∀ p,al = some p → wb.heap.size ≤ p.block))))
   have HY4:=Hd (And.intro ((Uh HY).1.keep hb13) (And.intro ((Uh HY).2.1.keep hb13) ((Uh HY).2.2.trans (hb13.mono (Uh HY).2.2.size))))
   clear hb13 hw1 HI2 HI3 HY HKI HSb HB1 q0 q2
   have HY:=HY4
   clear HY4
   have hln:=(Uh HS).1.len
   have K:=ratWhole_any true aq mq cq w3
   unfold WhPost at K
   rw [limbs_len0 hln] at K
   obtain ⟨SG,hSG⟩:∃ SG,(true && decide (X / Y + 1 ≠ 0)) = SG:=⟨_,rfl⟩
   rw [hSG] at K
   unfold ratV at K
   have HK:=Hd K
   have HSG:=Hd hSG
   have e0:=(Uh HY).1.d0
   clear hln K hSG
   go_wp2_with fail
   refine (Uh HK).mono ?_
   rintro _ w5 ⟨aD,mD,cD,rfl,sD,nD,b5⟩
   have hO3:=(Uh HY).2.1.keep b5
   have hlo:=(Uh HY).2.1.lt
   obtain ⟨i0,o0⟩:=hO3.cells 0 (by decide)
   obtain ⟨i1,o1⟩:=hO3.cells 1 (by decide)
   obtain ⟨i2,o2⟩:=hO3.cells 2 (by decide)
   have r0:=hO3.fz 0 (by decide)
   have r1:=hO3.fz 1 (by decide)
   have r2:=hO3.fz 2 (by decide)
   have H4:=Hd (three_set w5 wa.heap.size (.bool SG) (.slice aq mq cq) (.slice aD mD cD) hO3.cells)
   have HZ:=Hd (And.intro ((Uh HS).1.below b5) (And.intro sD (And.intro ((Uh HS).2.1.below b5) (And.intro (fun p hp => by have h1:=(Uh HS).2.2.1 p hp; omega:∀ p,aq = some p → p.block ≠ wa.heap.size) (And.intro (fun p hp => by have h1:=nD p hp; omega:∀ p,aD = some p → p.block ≠ wa.heap.size) (And.intro (fun p hp => by have h1:=(Uh HS).2.2.2 p hp; omega:∀ p,al = some p → p.block ≠ wa.heap.size) (And.intro (fun p hp => by have h1:=(Uh HS).2.2.1 p hp; have h2:=(Uh HW).2; omega:NewAt w.heap.size aq) (And.intro (fun p hp => by have h1:=nD p hp; have h2:=(Uh HY).2.2.size; omega:NewAt w.heap.size aD) ((Uh HY).2.2.trans (b5.mono (Uh HY).2.2.size))))))))))
   clear hO3 hlo sD nD b5 HK e0 HS
   go_wp2_with fail
   obtain ⟨t0,t1,t2,c4⟩:=Uh H4
   generalize ((w5.setCell ⟨wa.heap.size,0,none⟩ (.bool SG)).setCell ⟨wa.heap.size,1,none⟩ (.slice aq mq cq)).setCell ⟨wa.heap.size,2,none⟩ (.slice aD mD cD) = wk at *
   refine bodyPost_ret (by simp [results,Tryz.results37,go_sem,t0,t1,t2]; try rfl) rfl ?_
   have z:=Uh HZ
   unfold FlPost
   rw [show flQ true X Y = X / Y + 1 from by unfold flQ; simp [Uh HZ0],show flL true X Y = Y - X % Y from by unfold flL; simp [Uh HZ0]]
   rw [Uh HSG]
   exact ⟨aq,mq,cq,aD,mD,cD,al,ml,cl,rfl,z.1.chg c4 (fun p hp _ => z.2.2.2.1 p hp),z.2.1.chg c4 (fun p hp _ => z.2.2.2.2.1 p hp),z.2.2.1.chg c4 (fun p hp _ => z.2.2.2.2.2.1 p hp),z.2.2.2.2.2.2.1,z.2.2.2.2.2.2.2.1,z.2.2.2.2.2.2.2.2.trans (c4.below z.2.2.2.2.2.2.2.2.size (fun k hk h => by have:=(Uh HW).1; omega))⟩
end Go.Proofs.YtpbcnkcnjnefiaaGreatDoor
