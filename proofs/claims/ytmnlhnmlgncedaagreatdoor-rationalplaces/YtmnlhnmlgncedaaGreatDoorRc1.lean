/- Rpq -/
import Derived.Test.YtmnlhnmlgncedaaGreatDoorRpo
import Derived.Test.YtmnlhnmlgncedaaGreatDoorRq0
import Derived.Test.YtmnlhnmlgncedaaGreatDoorRl2
import Derived.Test.YtmnlhnmlgncedaaGreatDoorRp5
import Derived.Test.YtmnlhnmlgncedaaGreatDoorRa6
import Derived.Test.YtmnlhnmlgncedaaGreatDoorRu3
import Derived.Test.YtmnlhnmlgncedaaGreatDoorWik
import Derived.Test.YtmnlhnmlgncedaaGreatDoorWi2
import Derived.Test.YtmnlhnmlgncedaaGreatDoorDv7
import Derived.Test.YtmnlhnmlgncedaaGreatDoorWic
import Derived.Deep.RegionHeld3
import Derived.Test.YtmnlhnmlgncedaaGreatDoorCmp
import Derived.Test.YtmnlhnmlgncedaaGreatDoorPa2
namespace Go.Proofs.YtmnlhnmlgncedaaGreatDoor
open Go.RowKit Go.Deep
set_option linter.unusedVariables false

theorem kd_is {s:ByteArray} {i:Nat} (h:i < s.size):kdA s i = kdN (byA s i):=by unfold kdA; rw [if_neg (by omega)]
theorem kd_five {s:ByteArray} {i:Nat} (h:i < s.size):kdA s i = 5 ↔ byA s i = 46:=by
 rw [kd_is h]; unfold kdN
 constructor
 ·intro k; revert k; repeat (first | split | (intro k; omega))
 ·intro k; rw [k]; rfl
theorem lastS_ge {s:ByteArray} {v q:Nat} (h:stS s (q + 1) = v):∀ n,q < n → q ≤ lastS s v n
 | 0,hq => by omega
 | n + 1,hq => by
  unfold lastS
  split
  ·omega
  ·rename_i k
   have:q ≠ n:=fun e => k (e ▸ h)
   exact lastS_ge h n (by omega)
theorem first_st (s:ByteArray):stS s 1 ≠ 6 ∧ stS s 1 ≠ 8:=by
 have h:=kdA_lt s 0
 have:∀ k:Fin 8,nxS 1 k.1 ≠ 6 ∧ nxS 1 k.1 ≠ 8:=by decide
 exact this ⟨kdA s 0,h⟩
theorem no_six {s:ByteArray} {g:Bool} {SL LT:Nat} (t:TkOk s g SL 0 LT):∀ q,q ≤ s.size → stS s (q + 1) ≠ 6:=fun q hq h => by
 have h1:=lastS_ge h (s.size + 1) (by omega)
 rw [t.point] at h1
 obtain rfl:q = 0:=by omega
 exact (first_st s).1 h
theorem no_eight {s:ByteArray} {g:Bool} {SL PT:Nat} (t:TkOk s g SL PT 0):∀ q,q ≤ s.size → stS s (q + 1) ≠ 8:=fun q hq h => by
 have h1:=lastS_ge h (s.size + 1) (by omega)
 rw [t.letter] at h1
 obtain rfl:q = 0:=by omega
 exact (first_st s).2 h
section
variable {s:ByteArray} {g:Bool} {i j k e b m PT:Nat}
def Tk (s:ByteArray) (g:Bool) (D:ByteArray) (SL:Nat) (U PL:ByteArray) (LT:Nat) (PW:ByteArray):Prop:=∀ W,TabBh W → Calls Tryz.prog 31 #[.string s] W fun e w' => e = .returned (.tuple #[.agg #[.bool g,.string D,.int .i64 (SL:Nat),.string U,.string PL,.int .i64 (LT:Nat),.string PW],.int .i64 0,.bool true]) ∧ Below W.heap.size W w'
theorem tk_z (h:Hd s g i) (hs:s.size ≤ 65536) (hi:i < s.size) (t:TkOk s g 0 0 0):Tk s g (s.extract i s.size) 0 ⟨#[]⟩ ⟨#[]⟩ 0 ⟨#[]⟩:=fun W hT => by
 have K:=takeApart_z s (s.extract i s.size) W hs hT (fun q hq => ⟨t.fine q hq,no_six t q hq,no_eight t q hq⟩) 0 t.slash rfl (fun V => by
  have:=trim_head h hs hi (Nat.le_refl _) V
  rwa [show s.extract 0 s.size = s from ByteArray.extract_zero_size] at this)
 rw [t.sign] at K
 exact K
theorem tk_n (h:Hd s g i) (hs:s.size ≤ 65536) (hi:i < j) (hj:j < s.size) (t:TkOk s g j 0 0):Tk s g (s.extract i j) j (s.extract (j + 1) s.size) ⟨#[]⟩ 0 ⟨#[]⟩:=fun W hT => by
 have K:=takeApart_n s (s.extract i j) W hs hT (fun q hq => ⟨t.fine q hq,no_six t q hq,no_eight t q hq⟩) j t.slash (by omega) hj (fun V => trim_head h hs hi (by omega) V)
 rw [t.sign] at K
 exact K
theorem tk_p (h:Hd s g i) (hs:s.size ≤ 65536) (hi:i < j) (hj:j < s.size) (t:TkOk s g 0 j 0):Tk s g (s.extract i j) 0 ⟨#[]⟩ (s.extract (j + 1) s.size) 0 ⟨#[]⟩:=fun W hT => by
 have K:=takeApart_p s (s.extract i j) W hs hT t.fine 0 j 0 t.slash t.point t.letter rfl (by omega) rfl hj (fun V => trim_head h hs hi (by omega) V)
 rw [t.sign] at K
 exact K
end
def mnL (g:Bool):List Nat:=if g then [45] else []
theorem mnL_str (g:Bool):mnB g = strB (mnL g):=by cases g <;> rfl
theorem txt_byte {V n p:Nat} (hp:p < n):48 ≤ (txtL V 10 n).getD p 0 ∧ (txtL V 10 n).getD p 0 ≤ 57:=by
 have hg:(txtL V 10 n).getD p 0 = chrN (dgt V 10 (n - 1 - p)):=lst_getD _ _ _ hp
 have:=dgt_lt V (n - 1 - p) (b:=10) (by decide)
 rw [hg]
 unfold chrN
 rw [if_pos this]
 omega
theorem getD_app1 {a b:List Nat} {p:Nat} (h:p < a.length):(a ++ b).getD p 0 = a.getD p 0:=by
 simp [List.getD,List.getElem?_append_left h]
theorem getD_app2 {a b:List Nat} {p:Nat}:(a ++ b).getD (a.length + p) 0 = b.getD p 0:=by
 simp [List.getD,List.getElem?_append_right]


set_option maxHeartbeats 4000000 in
theorem ratIncr_any (a:Option Addr) (n c:Nat) (v:Nat) (w:World) (h:Sl w a n c (limbs v)) (m:MayL (limbs v) = true) (hf:(limbs (v + 1)).length ≤ 2048) :
  Calls Tryz.prog 81 #[.slice a n c] w fun e w' => NewN w w' (v + 1) e:=by
 have H:=Hj h
 have hv:addL (limbs v) [1] = (limbs (v + 1),0):=by
  unfold addL
  have v1:val [1] = 1:=by simp [val]
  have m1:MayL [1] = true:=by decide
  rw [m,m1,(limbs_rep v).val,v1]
  exact fitL_ok (by omega)
 have HV:=Hj hv
 clear h hv
 go_enter Tryz.func81,Tryz.ntmps81
 go_wp2_with fail
 refine (ratOne_any w).mono ?_
 rintro _ w1 ⟨a1,m1,rfl,s1,_,b1⟩
 have K:=nadd_any a a1 n c m1 m1 (limbs v) [1] w1 ((Uh H).below b1) s1 (limbs_rep v).ok (by intro x hx; simp at hx; subst hx; decide)
 rw [Uh HV] at K
 have HK:=Hj K
 have HB:=Hj b1
 clear s1 b1 K
 go_wp2_with fail
 refine (Uh HK).mono ?_
 rintro _ w2 ⟨a2,m2,c2,rfl,s2,n2,b2⟩
 have H2:=Hj (And.intro s2 (And.intro n2 b2))
 clear s2 n2 b2 HK
 go_wp2_with fail
 refine (sure_any _ _ _).mono ?_
 rintro _ _ ⟨rfl,hw⟩
 obtain rfl:=hw.symm
 clear hw
 go_wp2_with fail
 go_ret
 exact ⟨a2,m2,c2,rfl,(Uh H2).1,fun x hx => Nat.le_trans (Uh HB).size ((Uh H2).2.1 x hx),(Uh HB).trans ((Uh H2).2.2.mono (Uh HB).size)⟩

theorem incr_fit {X Y:Nat} (hY:0 < Y) (h:X % Y ≠ 0):X / Y + 1 ≤ X:=by
 have h2:2 ≤ Y:=by
  rcases Nat.lt_or_ge Y 2 with k | k
  ·obtain rfl:Y = 1:=by omega
   rw [Nat.mod_one] at h
   exact absurd rfl h
  ·exact k
 have h3:=Nat.div_add_mod X Y
 have h4:2 * (X / Y) ≤ Y * (X / Y):=Nat.mul_le_mul_right _ h2
 rcases Nat.eq_zero_or_pos (X / Y) with e | e
 ·rw [e] at h3 ⊢; omega
 ·omega

def rdQ (X Y:Nat):Nat:=if Y < X % Y + X % Y ∨ (Y = X % Y + X % Y ∧ X / Y % 2 = 1) then X / Y + 1 else X / Y
theorem rdQ_le {X Y:Nat} (hY:0 < Y):rdQ X Y ≤ X:=by
 unfold rdQ
 split
 ·next h =>
  have h2:X % Y ≠ 0:=by omega
  exact incr_fit hY h2
 ·exact Nat.div_le_self _ _

set_option maxHeartbeats 4000000 in
theorem roundsUp_any (al ad:Option Addr) (ml cl md cd:Nat) (xs ys:List Nat) (odd:Bool) (w:World) (h1:Sl w al ml cl xs) (h2:Sl w ad md cd ys) (ox:Ok xs) (oy:Ok ys) (kx:MayL xs = true) (ky:MayL ys = true) (hle:val xs ≤ val ys) :
  Calls Tryz.prog 97 #[.slice al ml cl,.slice ad md cd,.bool odd] w fun e w' => e = .returned (.bool (decide (val ys < val xs + val xs) || (decide (val ys = val xs + val xs) && odd))) ∧ Below w.heap.size w w':=by
 have K1:=nsub_any ad al md cd ml cl ys xs w h2 h1 oy ox
 rw [sub_fit ky kx hle] at K1
 have HK1:=Hj K1
 have HX:=Hj h1
 have mS:MayL (limbs (val ys - val xs)) = true:=may_small ky oy (Nat.sub_le _ _)
 have hC:cmpL xs (limbs (val ys - val xs)) = cmpN (val xs) (val ys - val xs):=by unfold cmpL; rw [kx,mS,(limbs_rep _).val]; rfl
 clear K1 h1 h2 kx ky mS
 rcases Nat.lt_trichotomy (val xs + val xs) (val ys) with h | h | h
 ·have HCV:=Hj (hC.trans (cmpN_lt (show val xs < val ys - val xs by omega)))
  rw [show (decide (val ys < val xs + val xs) || (decide (val ys = val xs + val xs) && odd)) = false from by rw [decide_eq_false (by omega),decide_eq_false (by omega)]; rfl]
  clear hC h hle
  go_enter Tryz.func97,Tryz.ntmps97
  go_wp2_with fail
  refine (Uh HK1).mono ?_
  rintro _ w1 ⟨aS,mS,cS,rfl,ss,nS,b1⟩
  have KC:=ncmp_any al aS ml cl mS cS xs (limbs (val ys - val xs)) w1 ((Uh HX).below b1) ss ox (limbs_rep _).ok
  rw [Uh HCV] at KC
  have HKC:=Hj KC
  have HB1:=Hj b1
  clear KC ss nS b1 HK1
  go_wp2_with fail
  refine (sure_any _ _ _).mono ?_
  rintro _ _ ⟨rfl,hw⟩
  obtain rfl:=hw.symm
  clear hw
  go_wp2_with fail
  refine (Uh HKC).mono ?_
  rintro _ w3 ⟨rfl,jj,hw3⟩
  have HB3:=Hj (show Below w.heap.size w w3 from by rw [hw3]; exact bel_drewN (Uh HB1) jj)
  clear hw3 HKC HB1
  go_wp2_with fail
  go_ret
  exact ⟨rfl,Uh HB3⟩
 ·have HCV:=Hj (hC.trans (show cmpN (val xs) (val ys - val xs) = 0 from by rw [show val ys - val xs = val xs by omega]; simp [cmpN]))
  rw [show (decide (val ys < val xs + val xs) || (decide (val ys = val xs + val xs) && odd)) = odd from by rw [decide_eq_false (by omega),decide_eq_true (by omega)]; simp]
  clear hC h hle
  cases odd
  ·go_enter Tryz.func97,Tryz.ntmps97
   go_wp2_with fail
   refine (Uh HK1).mono ?_
   rintro _ w1 ⟨aS,mS,cS,rfl,ss,nS,b1⟩
   have KC:=ncmp_any al aS ml cl mS cS xs (limbs (val ys - val xs)) w1 ((Uh HX).below b1) ss ox (limbs_rep _).ok
   rw [Uh HCV] at KC
   have HKC:=Hj KC
   have HB1:=Hj b1
   clear KC ss nS b1 HK1
   go_wp2_with fail
   refine (sure_any _ _ _).mono ?_
   rintro _ _ ⟨rfl,hw⟩
   obtain rfl:=hw.symm
   clear hw
   go_wp2_with fail
   refine (Uh HKC).mono ?_
   rintro _ w3 ⟨rfl,jj,hw3⟩
   have HB3:=Hj (show Below w.heap.size w w3 from by rw [hw3]; exact bel_drewN (Uh HB1) jj)
   clear hw3 HKC HB1
   go_wp2_with fail
   go_ret
   exact ⟨rfl,Uh HB3⟩
  ·go_enter Tryz.func97,Tryz.ntmps97
   go_wp2_with fail
   refine (Uh HK1).mono ?_
   rintro _ w1 ⟨aS,mS,cS,rfl,ss,nS,b1⟩
   have KC:=ncmp_any al aS ml cl mS cS xs (limbs (val ys - val xs)) w1 ((Uh HX).below b1) ss ox (limbs_rep _).ok
   rw [Uh HCV] at KC
   have HKC:=Hj KC
   have HB1:=Hj b1
   clear KC ss nS b1 HK1
   go_wp2_with fail
   refine (sure_any _ _ _).mono ?_
   rintro _ _ ⟨rfl,hw⟩
   obtain rfl:=hw.symm
   clear hw
   go_wp2_with fail
   refine (Uh HKC).mono ?_
   rintro _ w3 ⟨rfl,jj,hw3⟩
   have HB3:=Hj (show Below w.heap.size w w3 from by rw [hw3]; exact bel_drewN (Uh HB1) jj)
   clear hw3 HKC HB1
   go_wp2_with fail
   go_ret
   exact ⟨rfl,Uh HB3⟩
 ·have HCV:=Hj (hC.trans (show cmpN (val xs) (val ys - val xs) = 1 from by unfold cmpN; rw [if_neg (by omega),if_neg (by omega)]))
  rw [show (decide (val ys < val xs + val xs) || (decide (val ys = val xs + val xs) && odd)) = true from by rw [decide_eq_true (by omega)]; rfl]
  clear hC h hle
  go_enter Tryz.func97,Tryz.ntmps97
  go_wp2_with fail
  refine (Uh HK1).mono ?_
  rintro _ w1 ⟨aS,mS,cS,rfl,ss,nS,b1⟩
  have KC:=ncmp_any al aS ml cl mS cS xs (limbs (val ys - val xs)) w1 ((Uh HX).below b1) ss ox (limbs_rep _).ok
  rw [Uh HCV] at KC
  have HKC:=Hj KC
  have HB1:=Hj b1
  clear KC ss nS b1 HK1
  go_wp2_with fail
  refine (sure_any _ _ _).mono ?_
  rintro _ _ ⟨rfl,hw⟩
  obtain rfl:=hw.symm
  clear hw
  go_wp2_with fail
  refine (Uh HKC).mono ?_
  rintro _ w3 ⟨rfl,jj,hw3⟩
  have HB3:=Hj (show Below w.heap.size w w3 from by rw [hw3]; exact bel_drewN (Uh HB1) jj)
  clear hw3 HKC HB1
  go_wp2_with fail
  go_ret
  exact ⟨rfl,Uh HB3⟩
inductive DcR (g:Bool) (x y:List Nat) (pl:Int):ByteArray → Int → Prop where
 | bad (h:MayR g x y = false):DcR g x y pl ⟨#[]⟩ 40
 | arg (h:MayR g x y = true) (hp:pl < 0 ∨ 1000 < pl):DcR g x y pl ⟨#[]⟩ 1
 | text (k L N:Nat) (h:MayR g x y = true) (hk:pl = (k:Int)) (hk2:k ≤ 1000) (hN:N = rdQ (val x * 10 ^ k) (val y)) (ht:TxtOf (N / 10 ^ k) 10 L):DcR g x y pl (mnB (g && decide (N ≠ 0)) ++ (strB (txtL (N / 10 ^ k) 10 L) ++ dotB N k)) 0
def DcPost (g:Bool) (x y:List Nat) (pl:Int) (w:World) (e:Ending) (w':World):Prop :=
 ∃ s er,e = .returned (.tuple #[.string s,.int .i64 er]) ∧ DcR g x y pl s er ∧ Below w.heap.size w w'
def dtL (g:Bool) (A L B k:Nat):List Nat:=mnL g ++ (txtL A 10 L ++ (if k = 0 then [] else 46 :: txtL B 10 k))
theorem dc_text (g:Bool) (N L k:Nat):mnB g ++ (strB (txtL (N / 10 ^ k) 10 L) ++ dotB N k) = strB (dtL g (N / 10 ^ k) L (N % 10 ^ k) k):=by
 unfold dtL dotB
 rw [strB_app,strB_app,mnL_str]
 split
 ·rfl
 ·rw [show (46 :: txtL (N % 10 ^ k) 10 k) = [46] ++ txtL (N % 10 ^ k) 10 k from rfl,strB_app]
  rfl
section
variable {g:Bool} {A L B k:Nat}
theorem dt_size:(strB (dtL g A L B k)).size = (mnL g).length + L + (if k = 0 then 0 else k + 1):=by
 rw [strB_size]
 unfold dtL
 split <;> simp [txtL_len] <;> omega
theorem dt_one {q:Nat} (h:q < L):byA (strB (dtL g A L B k)) ((mnL g).length + q) = (txtL A 10 L).getD q 0 ∧ 48 ≤ (txtL A 10 L).getD q 0 ∧ (txtL A 10 L).getD q 0 ≤ 57:=by
 have hb:=txt_byte (V:=A) h
 have hl:=txtL_len A 10 L
 have e:(dtL g A L B k).getD ((mnL g).length + q) 0 = (txtL A 10 L).getD q 0:=by unfold dtL; rw [getD_app2,getD_app1 (by omega)]
 have hz:(mnL g).length + q < (dtL g A L B k).length:=by
  have:=dt_size (g:=g) (A:=A) (L:=L) (B:=B) (k:=k)
  rw [strB_size] at this
  split at this <;> omega
 refine ⟨?_,hb⟩
 unfold byA
 rw [strB_get hz (by rw [e]; omega),e]
theorem dt_dot (h:k ≠ 0):byA (strB (dtL g A L B k)) ((mnL g).length + L) = 46:=by
 have hl:=txtL_len A 10 L
 have e:(dtL g A L B k).getD ((mnL g).length + L) 0 = 46:=by
  unfold dtL
  rw [getD_app2,if_neg h]
  have:=getD_app2 (a:=txtL A 10 L) (b:=46 :: txtL B 10 k) (p:=0)
  rw [hl,Nat.add_zero] at this
  rw [this]
  rfl
 have hz:(mnL g).length + L < (dtL g A L B k).length:=by
  have:=dt_size (g:=g) (A:=A) (L:=L) (B:=B) (k:=k)
  rw [strB_size,if_neg h] at this
  omega
 unfold byA
 rw [strB_get hz (by rw [e]; omega),e]
theorem dt_two {q:Nat} (h:q < k):byA (strB (dtL g A L B k)) ((mnL g).length + L + 1 + q) = (txtL B 10 k).getD q 0 ∧ 48 ≤ (txtL B 10 k).getD q 0 ∧ (txtL B 10 k).getD q 0 ≤ 57:=by
 have h0:k ≠ 0:=by omega
 have hb:=txt_byte (V:=B) h
 have hl:=txtL_len A 10 L
 have e:(dtL g A L B k).getD ((mnL g).length + L + 1 + q) 0 = (txtL B 10 k).getD q 0:=by
  unfold dtL
  rw [show (mnL g).length + L + 1 + q = (mnL g).length + (L + (1 + q)) by omega,getD_app2,if_neg h0]
  have:=getD_app2 (a:=txtL A 10 L) (b:=46 :: txtL B 10 k) (p:=1 + q)
  rw [hl] at this
  rw [this,Nat.add_comm 1 q]
  rfl
 have hz:(mnL g).length + L + 1 + q < (dtL g A L B k).length:=by
  have:=dt_size (g:=g) (A:=A) (L:=L) (B:=B) (k:=k)
  rw [strB_size,if_neg h0] at this
  omega
 refine ⟨?_,hb⟩
 unfold byA
 rw [strB_get hz (by rw [e]; omega),e]
theorem dt_hd (hL:1 ≤ L):Hd (strB (dtL g A L B k)) g (mnL g).length:=by
 have hz:=dt_size (g:=g) (A:=A) (L:=L) (B:=B) (k:=k)
 have h0:0 < (strB (dtL g A L B k)).size:=by split at hz <;> omega
 constructor
 ·rintro rfl
  refine ⟨rfl,?_⟩
  rw [kd_two h0]
  unfold byA
  rw [strB_get (by rw [← strB_size]; exact h0) (by show (45:Nat) < 256; decide)]
  rfl
 ·rintro rfl
  refine ⟨rfl,?_⟩
  rw [Ne,kd_two h0]
  have h1:=dt_one (g:=false) (A:=A) (L:=L) (B:=B) (k:=k) (q:=0) (by omega)
  have e:(mnL false).length + 0 = 0:=rfl
  rw [e] at h1
  omega
theorem dt_run1:RunK (strB (dtL g A L B k)) (mnL g).length ((mnL g).length + L):=by
 have hz:=dt_size (g:=g) (A:=A) (L:=L) (B:=B) (k:=k)
 refine ⟨by omega,by split at hz <;> omega,fun q h1 h2 => ?_,?_⟩
 ·have h3:=dt_one (g:=g) (A:=A) (L:=L) (B:=B) (k:=k) (q:=q - (mnL g).length) (by omega)
  rw [show (mnL g).length + (q - (mnL g).length) = q by omega] at h3
  rw [kd_one (by split at hz <;> omega)]
  omega
 ·by_cases h:k = 0
  ·rw [if_pos h] at hz
   rw [show (mnL g).length + L = (strB (dtL g A L B k)).size by omega,kdA_top]
   decide
  ·rw [if_neg h] at hz
   rw [Ne,kd_one (by omega),dt_dot h]
   omega
theorem dt_run2 (h:k ≠ 0):RunK (strB (dtL g A L B k)) ((mnL g).length + L + 1) (strB (dtL g A L B k)).size:=by
 have hz:=dt_size (g:=g) (A:=A) (L:=L) (B:=B) (k:=k)
 rw [if_neg h] at hz
 refine ⟨by omega,by omega,fun q h1 h2 => ?_,by rw [kdA_top]; decide⟩
 have h3:=dt_two (g:=g) (A:=A) (L:=L) (B:=B) (k:=k) (q:=q - ((mnL g).length + L + 1)) (by omega)
 rw [show (mnL g).length + L + 1 + (q - ((mnL g).length + L + 1)) = q by omega] at h3
 rw [kd_one (by omega)]
 omega
theorem dt_ext1:(strB (dtL g A L B k)).extract (mnL g).length ((mnL g).length + L) = strB (txtL A 10 L):=by
 have hl:=txtL_len A 10 L
 have h1:=strB_front (mnL g ++ txtL A 10 L) (if k = 0 then [] else 46 :: txtL B 10 k) (n:=(mnL g).length + L) (by rw [List.length_append,hl])
 rw [List.append_assoc] at h1
 have h2:=strB_back (mnL g) (txtL A 10 L) (n:=(mnL g).length) (m:=(mnL g).length + L) rfl (by rw [hl])
 rw [← h1,ByteArray.extract_extract] at h2
 rw [← h2]
 unfold dtL
 congr 1 <;> omega
theorem dt_ext2 (h:k ≠ 0):(strB (dtL g A L B k)).extract ((mnL g).length + L + 1) (strB (dtL g A L B k)).size = strB (txtL B 10 k):=by
 have hz:=dt_size (g:=g) (A:=A) (L:=L) (B:=B) (k:=k)
 rw [if_neg h] at hz
 have hl:=txtL_len A 10 L
 have hl2:=txtL_len B 10 k
 have e:dtL g A L B k = (mnL g ++ (txtL A 10 L ++ [46])) ++ txtL B 10 k:=by unfold dtL; rw [if_neg h]; simp
 have:=strB_back (mnL g ++ (txtL A 10 L ++ [46])) (txtL B 10 k) (n:=(mnL g).length + L + 1) (m:=(strB (dtL g A L B k)).size) (by simp [hl]; omega) (by rw [hl2,hz]; omega)
 rw [← e] at this
 exact this
end
theorem pw_txt {V n:Nat} (h:V < 10 ^ n):pwB (strB (txtL V 10 n)) (strB (txtL V 10 n)).size = V:=by
 have hz:(strB (txtL V 10 n)).size = n:=by rw [strB_size,txtL_len]
 rw [hz,← num_pw]
 ·exact num_txt (by decide) (by decide) h
 ·intro q hq
  unfold byA
  have:=txt_byte (V:=V) hq
  rw [strB_get (by rw [txtL_len]; exact hq) (by omega)]
  exact this
theorem dig_txts {V n:Nat}:∀ q,q < (strB (txtL V 10 n)).size → 48 ≤ byA (strB (txtL V 10 n)) q ∧ byA (strB (txtL V 10 n)) q ≤ 57:=fun q hq => by
 rw [strB_size,txtL_len] at hq
 unfold byA
 have:=txt_byte (V:=V) hq
 rw [strB_get (by rw [txtL_len]; exact hq) (by omega)]
 exact this
theorem rparse_dec (g:Bool) (N L k:Nat) (W:World) (hT:Tab64 W) (hTB:TabBh W) (hL:1 ≤ L) (hL2:L ≤ 40000) (hk:k ≤ 1000) (hN:N < 10 ^ (L + k)) :
  Calls Tryz.prog 8 #[.string (strB (dtL g (N / 10 ^ k) L (N % 10 ^ k) k))] W fun e w' => PsPost W w' (WfF g N (10 ^ k)).1.1 (WfF g N (10 ^ k)).1.2.1 (WfF g N (10 ^ k)).1.2.2 0 (WfF g N (10 ^ k)).2 e:=by
 have hml:(mnL g).length ≤ 1:=by cases g <;> decide
 have hz:=dt_size (g:=g) (A:=N / 10 ^ k) (L:=L) (B:=N % 10 ^ k) (k:=k)
 have hs:(strB (dtL g (N / 10 ^ k) L (N % 10 ^ k) k)).size ≤ 65536:=by split at hz <;> omega
 have h:=dt_hd (g:=g) (A:=N / 10 ^ k) (L:=L) (B:=N % 10 ^ k) (k:=k) hL
 have r:=dt_run1 (g:=g) (A:=N / 10 ^ k) (L:=L) (B:=N % 10 ^ k) (k:=k)
 have e1:=dt_ext1 (g:=g) (A:=N / 10 ^ k) (L:=L) (B:=N % 10 ^ k) (k:=k)
 by_cases h0:k = 0
 ·rw [if_pos h0] at hz
  have mn:=mn_whole h r (by omega)
  have t:=ok_end mn (by omega)
  have T:=tk_z h hs (by omega) t
  rw [show (strB (dtL g (N / 10 ^ k) L (N % 10 ^ k) k)).size = (mnL g).length + L by omega,e1] at T
  subst h0
  have hcat:=cat_nil (strB (txtL (N / 10 ^ 0) 10 L))
  have e2:N / 10 ^ 0 = N:=by simp
  have hp:pwB (strB (txtL (N / 10 ^ 0) 10 L)) (strB (txtL (N / 10 ^ 0) 10 L)).size = N:=by rw [e2]; exact pw_txt hN
  have hsz:(strB (txtL (N / 10 ^ 0) 10 L)).size = L:=by rw [strB_size,txtL_len]
  have K:=rparse_up g _ (strB (txtL (N / 10 ^ 0) 10 L)) ⟨#[]⟩ ⟨#[]⟩ 0 0 0 W hs hT hTB (by omega) (by decide) (by omega) T (fun V => readPower_nil V) (by rw [hcat,hsz]; omega) (by rw [hcat,hsz]; omega) (by rw [hcat]; exact dig_txts)
  rw [hcat,hp,Nat.pow_zero,Nat.mul_one] at K
  exact K
 ·rw [if_neg h0] at hz
  have e2:=dt_ext2 (g:=g) (A:=N / 10 ^ k) (L:=L) (B:=N % 10 ^ k) (k:=k) h0
  have r2:=dt_run2 (g:=g) (A:=N / 10 ^ k) (L:=L) (B:=N % 10 ^ k) (k:=k) h0
  have h5:=(kd_five (s:=strB (dtL g (N / 10 ^ k) L (N % 10 ^ k) k)) (i:=(mnL g).length + L) (by omega)).2 (dt_dot h0)
  have mn:=mn_point h r (by omega) h5 r2 (by omega)
  have t:=ok_end mn rfl
  have T:=tk_p h hs (by omega) (by omega) t
  rw [e1,e2] at T
  have hcat:strB (txtL (N / 10 ^ k) 10 L) ++ strB (txtL (N % 10 ^ k) 10 k) = strB (txtL N 10 (L + k)):=by rw [← strB_app,← txtL_split]
  have hsz:(strB (txtL N 10 (L + k))).size = L + k:=by rw [strB_size,txtL_len]
  have hsp:(strB (txtL (N % 10 ^ k) 10 k)).size = k:=by rw [strB_size,txtL_len]
  have K:=rparse_dn g _ (strB (txtL (N / 10 ^ k) 10 L)) (strB (txtL (N % 10 ^ k) 10 k)) ⟨#[]⟩ 0 k 0 W hs hT hTB (by omega) (by rw [hsp]; omega) (by omega) (by omega) T (fun V => readPower_nil V) (by rw [hcat,hsz]; omega) (by rw [hcat,hsz]; omega) (by rw [hcat]; exact dig_txts)
  rw [hcat,pw_txt hN] at K
  exact K
end Go.Proofs.YtmnlhnmlgncedaaGreatDoor
