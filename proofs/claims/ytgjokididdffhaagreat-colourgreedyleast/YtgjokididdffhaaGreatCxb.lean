/- Cxb -/
import Derived.Test.YtgjokididdffhaaGreatCxc
import Derived.Test.YtgjokididdffhaaGreatChm
namespace Go.Proofs.YtgjokididdffhaaGreat
open Go.RowKit Go.Deep
set_option linter.unusedVariables false
set_option maxRecDepth 100000 in
set_option maxHeartbeats 16000000 in
theorem cFault_pair (k:Int) (G G2 G3:Nat) (wd:Bool) (R width m:Nat) (S C:List Int) (a:Option Addr) (n c:Nat) (xs:List Int) (a1 a2:Option Addr) (n1 c1 n2 c2:Nat) (st cols:List Int) (w:World) (h1:SlI w a1 n1 c1 st) (h2:SlI w a2 n2 c2 cols) (h3:SlI w a n c xs) (hn:n ≤ 17592186044000) (hbs:S.length ≤ 17592186044000) (hbc:C.length ≤ 17592186044000) (hm:MayP (m:Int) (m:Int) S C) (ok:Bool) (hok:TruQ ok (n = m ∧ MayC xs n)) (Lf:List Int) (hF:n = m → MayC xs n → ∀ (x:Option Addr) (d:Nat) (y:Option Addr) (z:Nat) W,SlI W x S.length d S → SlI W y C.length z C → SlI W a1 n1 c1 st → SlI W a2 n2 c2 cols → SlI W a n c xs → Calls Tryz.prog 92 #[tkV G 92 G2 G3 wd R width a1 n1 c1 a2 n2 c2 m x S.length d y C.length z,.slice a n c] W fun e w' => OwA Lf W w' e) (hT:∀ W,SlI W a1 n1 c1 st → SlI W a2 n2 c2 cols → Calls Tryz.prog 34 #[.int .i64 k,patV (R:Int) (width:Int) a1 n1 c1 a2 n2 c2] W fun e w' => TkP W w' e G 92 G2 G3 wd R width a1 n1 c1 a2 n2 c2 m S C) :
  Calls Tryz.prog 14 #[.int .i64 k,patV (R:Int) (width:Int) a1 n1 c1 a2 n2 c2,.slice a n c] w fun e w' => FaP (if ok = true then Lf else []) (faE ok) w w' e:=by
 have hm8:m ≤ 128:=by have:=hm.head.fit; omega
 obtain ⟨wb,hwb⟩:∃ x,w.alloc (.cells #[.int .i64 (R:Int),.int .i64 (width:Int),.slice a1 n1 c1,.slice a2 n2 c2] 25) = x:=⟨_,rfl⟩
 have bb:Below w.heap.size w wb:=by rw [← hwb]; exact bAl
 have hT0:=BoxP.made w #[.int .i64 (R:Int),.int .i64 (width:Int),.slice a1 n1 c1,.slice a2 n2 c2] 25
 rw [hwb] at hT0
 have p0:=(hT0.all 0 _ rfl).1
 have p1:=(hT0.all 1 _ rfl).1
 have p2:=(hT0.all 2 _ rfl).1
 have p3:=(hT0.all 3 _ rfl).1
 have KT:=Hj (hT wb (h1.below bb) (h2.below bb))
 unfold patV at KT
 have HB:=Hj bb
 have HT0:=Hj hT0
 have HX:=Hj h3
 have HM:=Hj hm
 have HOK:=Hj hok
 have HFF:=Hj hF
 have HS12:=Hj (And.intro (h1.below bb) (h2.below bb))
 clear hT0 bb h1 h2 hT h3 hm hok hF
 unfold patV
 go_enter Tryz.func14,Tryz.ntmps14
 go_wp2_with fail
 refine (Uh KT).mono ?_
 rintro _ w2 ⟨x,d,y,z,rfl,hS2,hC2,b2⟩
 unfold tkV
 clear p0 p1 p2 p3 KT
 try dsimp only
 repeat ((fail_if_success (with_reducible (show Code.wp _ _ _ _ (World.alloc w2 (Obj.cells #[_,_,_,_,_,_,_,_,_,_,_,_,.slice y C.length z] _))))); (first | go_values | go_skip | go_guarded | go_step | go_upon | go_back))
 have hR:=BoxP.made w2 #[(.func (.func G) #[] #[]),(.func (.func 92) #[] #[]),(.func (.func G2) #[] #[]),(.func (.func G3) #[] #[]),(.bool wd),.int .i64 (R:Int),.int .i64 (width:Int),.slice a1 n1 c1,.slice a2 n2 c2,.int .i64 (m:Int),.int .i64 (m:Int),.slice x S.length d,.slice y C.length z] 80
 have br:Below w2.heap.size w2 (w2.alloc (.cells #[(.func (.func G) #[] #[]),(.func (.func 92) #[] #[]),(.func (.func G2) #[] #[]),(.func (.func G3) #[] #[]),(.bool wd),.int .i64 (R:Int),.int .i64 (width:Int),.slice a1 n1 c1,.slice a2 n2 c2,.int .i64 (m:Int),.int .i64 (m:Int),.slice x S.length d,.slice y C.length z] 80)):=bAl
 have hb3:=((Uh HB).trans (b2.mono (Uh HB).size)).trans (br.mono (Nat.le_trans (Uh HB).size b2.size))
 have HSC:=Hj (And.intro (hS2.below br) (hC2.below br))
 have HS3:=Hj (And.intro (((Uh HS12).1.below b2).below br) (((Uh HS12).2.below b2).below br))
 have HT3:=Hj (((Uh HT0).below b2).below br)
 clear b2 br hS2 hC2
 generalize w2.alloc (.cells #[(.func (.func G) #[] #[]),(.func (.func 92) #[] #[]),(.func (.func G2) #[] #[]),(.func (.func G3) #[] #[]),(.bool wd),.int .i64 (R:Int),.int .i64 (width:Int),.slice a1 n1 c1,.slice a2 n2 c2,.int .i64 (m:Int),.int .i64 (m:Int),.slice x S.length d,.slice y C.length z] 80) = w3 at *
 have s0:=(hR.all 0 _ rfl).1
 have s1:=(hR.all 1 _ rfl).1
 have s2:=(hR.all 2 _ rfl).1
 have s3:=(hR.all 3 _ rfl).1
 have s4:=(hR.all 4 _ rfl).1
 have s5:=(hR.all 5 _ rfl).1
 have s6:=(hR.all 6 _ rfl).1
 have s7:=(hR.all 7 _ rfl).1
 have s8:=(hR.all 8 _ rfl).1
 have s9:=(hR.all 9 _ rfl).1
 have s10:=(hR.all 10 _ rfl).1
 have s11:=(hR.all 11 _ rfl).1
 have s12:=(hR.all 12 _ rfl).1
 have HB3:=Hj hb3
 have HR:=Hj hR
 clear hR hb3
 by_cases hnm:n = m
 ·have hnm':((n:Int) != (m:Int)) = false:=by simp; omega
  subst hnm
  have KM:=Hj (cmayAll_any a n c xs w3 ((Uh HX).below (Uh HB3)) (by omega) ok ⟨fun e => ((Uh HOK).1 e).2,fun k => (Uh HOK).2 ⟨rfl,k⟩⟩)
  go_wp2_with fail
  refine (Uh KM).mono ?_
  rintro _ w4 ⟨rfl,b4⟩
  have hR4:=(Uh HR).below b4
  have hb4:=(Uh HB3).trans (b4.mono (Uh HB3).size)
  have HSC4:=Hj (And.intro ((Uh HSC).1.below b4) ((Uh HSC).2.below b4))
  have HS4:=Hj (And.intro ((Uh HS3).1.below b4) ((Uh HS3).2.below b4))
  have HB4:=Hj hb4
  clear KM b4 s0 s1 s2 s3 s4 s5 s6 s7 s8 s9 s10 s11 s12
  have s0:=(hR4.all 0 _ rfl).1
  have s1:=(hR4.all 1 _ rfl).1
  have s2:=(hR4.all 2 _ rfl).1
  have s3:=(hR4.all 3 _ rfl).1
  have s4:=(hR4.all 4 _ rfl).1
  have s5:=(hR4.all 5 _ rfl).1
  have s6:=(hR4.all 6 _ rfl).1
  have s7:=(hR4.all 7 _ rfl).1
  have s8:=(hR4.all 8 _ rfl).1
  have s9:=(hR4.all 9 _ rfl).1
  have s10:=(hR4.all 10 _ rfl).1
  have s11:=(hR4.all 11 _ rfl).1
  have s12:=(hR4.all 12 _ rfl).1
  cases ok
  ·clear hR4 hb4
   go_wp2_with fail
   refine bodyPost_ret (by simp [results,Tryz.results14,go_sem]; try rfl) rfl ?_
   exact ⟨Uh HB4,none,0,rfl,World.ownsRow_nil _ _ _ _⟩
  ·have HR4:=Hj hR4
   have KF:=Hj (fun W (k:Below w4.heap.size w4 W) => Uh HFF (by first | rfl | trivial) ((Uh HOK).1 (by first | rfl | trivial)).2 x d y z W ((Uh HSC4).1.below k) ((Uh HSC4).2.below k) ((Uh HS4).1.below k) ((Uh HS4).2.below k) (((Uh HX).below (Uh HB4)).below k))
   unfold tkV at KF
   clear hR4 hb4
   go_wp2_with fail
   refine (Uh KF w4 (Below.refl _ _)).mono ?_
   rintro _ w6 ⟨v6,rfl,hO6,b6⟩
   obtain ⟨a6,c6,rfl,hs6⟩:=own_slI hO6
   have HO6:=Hj (own_mono5 hO6 (Uh HB4).size)
   have HF6:=Hj ((Uh HB4).trans (b6.mono (Uh HB4).size))
   clear KF hO6 hs6 b6 s0 s1 s2 s3 s4 s5 s6 s7 s8 s9 s10 s11 s12
   go_wp2_with fail
   refine bodyPost_ret (by simp [results,Tryz.results14,go_sem]; try rfl) rfl ?_
   exact ⟨Uh HF6,_,_,rfl,Uh HO6⟩
 ·have hnm':((n:Int) != (m:Int)) = true:=by simp; omega
  have hk:ok = false:=by rw [Bool.eq_false_iff]; intro e; exact hnm ((Uh HOK).1 e).1
  subst hk
  clear hnm
  go_wp2_with fail
  refine bodyPost_ret (by simp [results,Tryz.results14,go_sem]; try rfl) rfl ?_
  exact ⟨Uh HB3,none,0,rfl,World.ownsRow_nil _ _ _ _⟩
set_option maxRecDepth 100000 in
set_option maxHeartbeats 16000000 in
theorem cFault_cols (k:Int) (G G2 G3:Nat) (wd:Bool) (R width m:Nat) (S C:List Int) (a:Option Addr) (n c:Nat) (xs:List Int) (a1 a2:Option Addr) (n1 c1 n2 c2:Nat) (st cols:List Int) (w:World) (h1:SlI w a1 n1 c1 st) (h2:SlI w a2 n2 c2 cols) (h3:SlI w a n c xs) (hn:n ≤ 17592186044000) (hbs:S.length ≤ 17592186044000) (hbc:C.length ≤ 17592186044000) (hm:MayP (m:Int) (m:Int) S C) (ok:Bool) (hok:TruQ ok (n = m ∧ MayC xs n)) (Lf:List Int) (hF:n = m → MayC xs n → ∀ (x:Option Addr) (d:Nat) (y:Option Addr) (z:Nat) W,SlI W x S.length d S → SlI W y C.length z C → SlI W a1 n1 c1 st → SlI W a2 n2 c2 cols → SlI W a n c xs → Calls Tryz.prog 96 #[tkV G 96 G2 G3 wd R width a1 n1 c1 a2 n2 c2 m x S.length d y C.length z,.slice a n c] W fun e w' => OwA Lf W w' e) (hT:∀ W,SlI W a1 n1 c1 st → SlI W a2 n2 c2 cols → Calls Tryz.prog 34 #[.int .i64 k,patV (R:Int) (width:Int) a1 n1 c1 a2 n2 c2] W fun e w' => TkP W w' e G 96 G2 G3 wd R width a1 n1 c1 a2 n2 c2 m S C) :
  Calls Tryz.prog 14 #[.int .i64 k,patV (R:Int) (width:Int) a1 n1 c1 a2 n2 c2,.slice a n c] w fun e w' => FaP (if ok = true then Lf else []) (faE ok) w w' e:=by
 have hm8:m ≤ 128:=by have:=hm.head.fit; omega
 obtain ⟨wb,hwb⟩:∃ x,w.alloc (.cells #[.int .i64 (R:Int),.int .i64 (width:Int),.slice a1 n1 c1,.slice a2 n2 c2] 25) = x:=⟨_,rfl⟩
 have bb:Below w.heap.size w wb:=by rw [← hwb]; exact bAl
 have hT0:=BoxP.made w #[.int .i64 (R:Int),.int .i64 (width:Int),.slice a1 n1 c1,.slice a2 n2 c2] 25
 rw [hwb] at hT0
 have p0:=(hT0.all 0 _ rfl).1
 have p1:=(hT0.all 1 _ rfl).1
 have p2:=(hT0.all 2 _ rfl).1
 have p3:=(hT0.all 3 _ rfl).1
 have KT:=Hj (hT wb (h1.below bb) (h2.below bb))
 unfold patV at KT
 have HB:=Hj bb
 have HT0:=Hj hT0
 have HX:=Hj h3
 have HM:=Hj hm
 have HOK:=Hj hok
 have HFF:=Hj hF
 have HS12:=Hj (And.intro (h1.below bb) (h2.below bb))
 clear hT0 bb h1 h2 hT h3 hm hok hF
 unfold patV
 go_enter Tryz.func14,Tryz.ntmps14
 go_wp2_with fail
 refine (Uh KT).mono ?_
 rintro _ w2 ⟨x,d,y,z,rfl,hS2,hC2,b2⟩
 unfold tkV
 clear p0 p1 p2 p3 KT
 try dsimp only
 repeat ((fail_if_success (with_reducible (show Code.wp _ _ _ _ (World.alloc w2 (Obj.cells #[_,_,_,_,_,_,_,_,_,_,_,_,.slice y C.length z] _))))); (first | go_values | go_skip | go_guarded | go_step | go_upon | go_back))
 have hR:=BoxP.made w2 #[(.func (.func G) #[] #[]),(.func (.func 96) #[] #[]),(.func (.func G2) #[] #[]),(.func (.func G3) #[] #[]),(.bool wd),.int .i64 (R:Int),.int .i64 (width:Int),.slice a1 n1 c1,.slice a2 n2 c2,.int .i64 (m:Int),.int .i64 (m:Int),.slice x S.length d,.slice y C.length z] 80
 have br:Below w2.heap.size w2 (w2.alloc (.cells #[(.func (.func G) #[] #[]),(.func (.func 96) #[] #[]),(.func (.func G2) #[] #[]),(.func (.func G3) #[] #[]),(.bool wd),.int .i64 (R:Int),.int .i64 (width:Int),.slice a1 n1 c1,.slice a2 n2 c2,.int .i64 (m:Int),.int .i64 (m:Int),.slice x S.length d,.slice y C.length z] 80)):=bAl
 have hb3:=((Uh HB).trans (b2.mono (Uh HB).size)).trans (br.mono (Nat.le_trans (Uh HB).size b2.size))
 have HSC:=Hj (And.intro (hS2.below br) (hC2.below br))
 have HS3:=Hj (And.intro (((Uh HS12).1.below b2).below br) (((Uh HS12).2.below b2).below br))
 have HT3:=Hj (((Uh HT0).below b2).below br)
 clear b2 br hS2 hC2
 generalize w2.alloc (.cells #[(.func (.func G) #[] #[]),(.func (.func 96) #[] #[]),(.func (.func G2) #[] #[]),(.func (.func G3) #[] #[]),(.bool wd),.int .i64 (R:Int),.int .i64 (width:Int),.slice a1 n1 c1,.slice a2 n2 c2,.int .i64 (m:Int),.int .i64 (m:Int),.slice x S.length d,.slice y C.length z] 80) = w3 at *
 have s0:=(hR.all 0 _ rfl).1
 have s1:=(hR.all 1 _ rfl).1
 have s2:=(hR.all 2 _ rfl).1
 have s3:=(hR.all 3 _ rfl).1
 have s4:=(hR.all 4 _ rfl).1
 have s5:=(hR.all 5 _ rfl).1
 have s6:=(hR.all 6 _ rfl).1
 have s7:=(hR.all 7 _ rfl).1
 have s8:=(hR.all 8 _ rfl).1
 have s9:=(hR.all 9 _ rfl).1
 have s10:=(hR.all 10 _ rfl).1
 have s11:=(hR.all 11 _ rfl).1
 have s12:=(hR.all 12 _ rfl).1
 have HB3:=Hj hb3
 have HR:=Hj hR
 clear hR hb3
 by_cases hnm:n = m
 ·have hnm':((n:Int) != (m:Int)) = false:=by simp; omega
  subst hnm
  have KM:=Hj (cmayAll_any a n c xs w3 ((Uh HX).below (Uh HB3)) (by omega) ok ⟨fun e => ((Uh HOK).1 e).2,fun k => (Uh HOK).2 ⟨rfl,k⟩⟩)
  go_wp2_with fail
  refine (Uh KM).mono ?_
  rintro _ w4 ⟨rfl,b4⟩
  have hR4:=(Uh HR).below b4
  have hb4:=(Uh HB3).trans (b4.mono (Uh HB3).size)
  have HSC4:=Hj (And.intro ((Uh HSC).1.below b4) ((Uh HSC).2.below b4))
  have HS4:=Hj (And.intro ((Uh HS3).1.below b4) ((Uh HS3).2.below b4))
  have HB4:=Hj hb4
  clear KM b4 s0 s1 s2 s3 s4 s5 s6 s7 s8 s9 s10 s11 s12
  have s0:=(hR4.all 0 _ rfl).1
  have s1:=(hR4.all 1 _ rfl).1
  have s2:=(hR4.all 2 _ rfl).1
  have s3:=(hR4.all 3 _ rfl).1
  have s4:=(hR4.all 4 _ rfl).1
  have s5:=(hR4.all 5 _ rfl).1
  have s6:=(hR4.all 6 _ rfl).1
  have s7:=(hR4.all 7 _ rfl).1
  have s8:=(hR4.all 8 _ rfl).1
  have s9:=(hR4.all 9 _ rfl).1
  have s10:=(hR4.all 10 _ rfl).1
  have s11:=(hR4.all 11 _ rfl).1
  have s12:=(hR4.all 12 _ rfl).1
  cases ok
  ·clear hR4 hb4
   go_wp2_with fail
   refine bodyPost_ret (by simp [results,Tryz.results14,go_sem]; try rfl) rfl ?_
   exact ⟨Uh HB4,none,0,rfl,World.ownsRow_nil _ _ _ _⟩
  ·have HR4:=Hj hR4
   have KF:=Hj (fun W (k:Below w4.heap.size w4 W) => Uh HFF (by first | rfl | trivial) ((Uh HOK).1 (by first | rfl | trivial)).2 x d y z W ((Uh HSC4).1.below k) ((Uh HSC4).2.below k) ((Uh HS4).1.below k) ((Uh HS4).2.below k) (((Uh HX).below (Uh HB4)).below k))
   unfold tkV at KF
   clear hR4 hb4
   go_wp2_with fail
   refine (Uh KF w4 (Below.refl _ _)).mono ?_
   rintro _ w6 ⟨v6,rfl,hO6,b6⟩
   obtain ⟨a6,c6,rfl,hs6⟩:=own_slI hO6
   have HO6:=Hj (own_mono5 hO6 (Uh HB4).size)
   have HF6:=Hj ((Uh HB4).trans (b6.mono (Uh HB4).size))
   clear KF hO6 hs6 b6 s0 s1 s2 s3 s4 s5 s6 s7 s8 s9 s10 s11 s12
   go_wp2_with fail
   refine bodyPost_ret (by simp [results,Tryz.results14,go_sem]; try rfl) rfl ?_
   exact ⟨Uh HF6,_,_,rfl,Uh HO6⟩
 ·have hnm':((n:Int) != (m:Int)) = true:=by simp; omega
  have hk:ok = false:=by rw [Bool.eq_false_iff]; intro e; exact hnm ((Uh HOK).1 e).1
  subst hk
  clear hnm
  go_wp2_with fail
  refine bodyPost_ret (by simp [results,Tryz.results14,go_sem]; try rfl) rfl ?_
  exact ⟨Uh HB3,none,0,rfl,World.ownsRow_nil _ _ _ _⟩
set_option maxRecDepth 100000 in
set_option maxHeartbeats 16000000 in
theorem cFault_rows (k:Int) (G G2 G3:Nat) (wd:Bool) (R width m:Nat) (S C:List Int) (a:Option Addr) (n c:Nat) (xs:List Int) (a1 a2:Option Addr) (n1 c1 n2 c2:Nat) (st cols:List Int) (w:World) (h1:SlI w a1 n1 c1 st) (h2:SlI w a2 n2 c2 cols) (h3:SlI w a n c xs) (hn:n ≤ 17592186044000) (hbs:S.length ≤ 17592186044000) (hbc:C.length ≤ 17592186044000) (hm:MayP (m:Int) (m:Int) S C) (ok:Bool) (hok:TruQ ok (n = m ∧ MayC xs n)) (Lf:List Int) (hF:n = m → MayC xs n → ∀ (x:Option Addr) (d:Nat) (y:Option Addr) (z:Nat) W,SlI W x S.length d S → SlI W y C.length z C → SlI W a1 n1 c1 st → SlI W a2 n2 c2 cols → SlI W a n c xs → Calls Tryz.prog 99 #[tkV G 99 G2 G3 wd R width a1 n1 c1 a2 n2 c2 m x S.length d y C.length z,.slice a n c] W fun e w' => OwA Lf W w' e) (hT:∀ W,SlI W a1 n1 c1 st → SlI W a2 n2 c2 cols → Calls Tryz.prog 34 #[.int .i64 k,patV (R:Int) (width:Int) a1 n1 c1 a2 n2 c2] W fun e w' => TkP W w' e G 99 G2 G3 wd R width a1 n1 c1 a2 n2 c2 m S C) :
  Calls Tryz.prog 14 #[.int .i64 k,patV (R:Int) (width:Int) a1 n1 c1 a2 n2 c2,.slice a n c] w fun e w' => FaP (if ok = true then Lf else []) (faE ok) w w' e:=by
 have hm8:m ≤ 128:=by have:=hm.head.fit; omega
 obtain ⟨wb,hwb⟩:∃ x,w.alloc (.cells #[.int .i64 (R:Int),.int .i64 (width:Int),.slice a1 n1 c1,.slice a2 n2 c2] 25) = x:=⟨_,rfl⟩
 have bb:Below w.heap.size w wb:=by rw [← hwb]; exact bAl
 have hT0:=BoxP.made w #[.int .i64 (R:Int),.int .i64 (width:Int),.slice a1 n1 c1,.slice a2 n2 c2] 25
 rw [hwb] at hT0
 have p0:=(hT0.all 0 _ rfl).1
 have p1:=(hT0.all 1 _ rfl).1
 have p2:=(hT0.all 2 _ rfl).1
 have p3:=(hT0.all 3 _ rfl).1
 have KT:=Hj (hT wb (h1.below bb) (h2.below bb))
 unfold patV at KT
 have HB:=Hj bb
 have HT0:=Hj hT0
 have HX:=Hj h3
 have HM:=Hj hm
 have HOK:=Hj hok
 have HFF:=Hj hF
 have HS12:=Hj (And.intro (h1.below bb) (h2.below bb))
 clear hT0 bb h1 h2 hT h3 hm hok hF
 unfold patV
 go_enter Tryz.func14,Tryz.ntmps14
 go_wp2_with fail
 refine (Uh KT).mono ?_
 rintro _ w2 ⟨x,d,y,z,rfl,hS2,hC2,b2⟩
 unfold tkV
 clear p0 p1 p2 p3 KT
 try dsimp only
 repeat ((fail_if_success (with_reducible (show Code.wp _ _ _ _ (World.alloc w2 (Obj.cells #[_,_,_,_,_,_,_,_,_,_,_,_,.slice y C.length z] _))))); (first | go_values | go_skip | go_guarded | go_step | go_upon | go_back))
 have hR:=BoxP.made w2 #[(.func (.func G) #[] #[]),(.func (.func 99) #[] #[]),(.func (.func G2) #[] #[]),(.func (.func G3) #[] #[]),(.bool wd),.int .i64 (R:Int),.int .i64 (width:Int),.slice a1 n1 c1,.slice a2 n2 c2,.int .i64 (m:Int),.int .i64 (m:Int),.slice x S.length d,.slice y C.length z] 80
 have br:Below w2.heap.size w2 (w2.alloc (.cells #[(.func (.func G) #[] #[]),(.func (.func 99) #[] #[]),(.func (.func G2) #[] #[]),(.func (.func G3) #[] #[]),(.bool wd),.int .i64 (R:Int),.int .i64 (width:Int),.slice a1 n1 c1,.slice a2 n2 c2,.int .i64 (m:Int),.int .i64 (m:Int),.slice x S.length d,.slice y C.length z] 80)):=bAl
 have hb3:=((Uh HB).trans (b2.mono (Uh HB).size)).trans (br.mono (Nat.le_trans (Uh HB).size b2.size))
 have HSC:=Hj (And.intro (hS2.below br) (hC2.below br))
 have HS3:=Hj (And.intro (((Uh HS12).1.below b2).below br) (((Uh HS12).2.below b2).below br))
 have HT3:=Hj (((Uh HT0).below b2).below br)
 clear b2 br hS2 hC2
 generalize w2.alloc (.cells #[(.func (.func G) #[] #[]),(.func (.func 99) #[] #[]),(.func (.func G2) #[] #[]),(.func (.func G3) #[] #[]),(.bool wd),.int .i64 (R:Int),.int .i64 (width:Int),.slice a1 n1 c1,.slice a2 n2 c2,.int .i64 (m:Int),.int .i64 (m:Int),.slice x S.length d,.slice y C.length z] 80) = w3 at *
 have s0:=(hR.all 0 _ rfl).1
 have s1:=(hR.all 1 _ rfl).1
 have s2:=(hR.all 2 _ rfl).1
 have s3:=(hR.all 3 _ rfl).1
 have s4:=(hR.all 4 _ rfl).1
 have s5:=(hR.all 5 _ rfl).1
 have s6:=(hR.all 6 _ rfl).1
 have s7:=(hR.all 7 _ rfl).1
 have s8:=(hR.all 8 _ rfl).1
 have s9:=(hR.all 9 _ rfl).1
 have s10:=(hR.all 10 _ rfl).1
 have s11:=(hR.all 11 _ rfl).1
 have s12:=(hR.all 12 _ rfl).1
 have HB3:=Hj hb3
 have HR:=Hj hR
 clear hR hb3
 by_cases hnm:n = m
 ·have hnm':((n:Int) != (m:Int)) = false:=by simp; omega
  subst hnm
  have KM:=Hj (cmayAll_any a n c xs w3 ((Uh HX).below (Uh HB3)) (by omega) ok ⟨fun e => ((Uh HOK).1 e).2,fun k => (Uh HOK).2 ⟨rfl,k⟩⟩)
  go_wp2_with fail
  refine (Uh KM).mono ?_
  rintro _ w4 ⟨rfl,b4⟩
  have hR4:=(Uh HR).below b4
  have hb4:=(Uh HB3).trans (b4.mono (Uh HB3).size)
  have HSC4:=Hj (And.intro ((Uh HSC).1.below b4) ((Uh HSC).2.below b4))
  have HS4:=Hj (And.intro ((Uh HS3).1.below b4) ((Uh HS3).2.below b4))
  have HB4:=Hj hb4
  clear KM b4 s0 s1 s2 s3 s4 s5 s6 s7 s8 s9 s10 s11 s12
  have s0:=(hR4.all 0 _ rfl).1
  have s1:=(hR4.all 1 _ rfl).1
  have s2:=(hR4.all 2 _ rfl).1
  have s3:=(hR4.all 3 _ rfl).1
  have s4:=(hR4.all 4 _ rfl).1
  have s5:=(hR4.all 5 _ rfl).1
  have s6:=(hR4.all 6 _ rfl).1
  have s7:=(hR4.all 7 _ rfl).1
  have s8:=(hR4.all 8 _ rfl).1
  have s9:=(hR4.all 9 _ rfl).1
  have s10:=(hR4.all 10 _ rfl).1
  have s11:=(hR4.all 11 _ rfl).1
  have s12:=(hR4.all 12 _ rfl).1
  cases ok
  ·clear hR4 hb4
   go_wp2_with fail
   refine bodyPost_ret (by simp [results,Tryz.results14,go_sem]; try rfl) rfl ?_
   exact ⟨Uh HB4,none,0,rfl,World.ownsRow_nil _ _ _ _⟩
  ·have HR4:=Hj hR4
   have KF:=Hj (fun W (k:Below w4.heap.size w4 W) => Uh HFF (by first | rfl | trivial) ((Uh HOK).1 (by first | rfl | trivial)).2 x d y z W ((Uh HSC4).1.below k) ((Uh HSC4).2.below k) ((Uh HS4).1.below k) ((Uh HS4).2.below k) (((Uh HX).below (Uh HB4)).below k))
   unfold tkV at KF
   clear hR4 hb4
   go_wp2_with fail
   refine (Uh KF w4 (Below.refl _ _)).mono ?_
   rintro _ w6 ⟨v6,rfl,hO6,b6⟩
   obtain ⟨a6,c6,rfl,hs6⟩:=own_slI hO6
   have HO6:=Hj (own_mono5 hO6 (Uh HB4).size)
   have HF6:=Hj ((Uh HB4).trans (b6.mono (Uh HB4).size))
   clear KF hO6 hs6 b6 s0 s1 s2 s3 s4 s5 s6 s7 s8 s9 s10 s11 s12
   go_wp2_with fail
   refine bodyPost_ret (by simp [results,Tryz.results14,go_sem]; try rfl) rfl ?_
   exact ⟨Uh HF6,_,_,rfl,Uh HO6⟩
 ·have hnm':((n:Int) != (m:Int)) = true:=by simp; omega
  have hk:ok = false:=by rw [Bool.eq_false_iff]; intro e; exact hnm ((Uh HOK).1 e).1
  subst hk
  clear hnm
  go_wp2_with fail
  refine bodyPost_ret (by simp [results,Tryz.results14,go_sem]; try rfl) rfl ?_
  exact ⟨Uh HB3,none,0,rfl,World.ownsRow_nil _ _ _ _⟩
set_option maxRecDepth 100000 in
set_option maxHeartbeats 16000000 in
theorem cFault_star (k:Int) (G G2 G3:Nat) (wd:Bool) (R width m:Nat) (S C:List Int) (a:Option Addr) (n c:Nat) (xs:List Int) (a1 a2:Option Addr) (n1 c1 n2 c2:Nat) (st cols:List Int) (w:World) (h1:SlI w a1 n1 c1 st) (h2:SlI w a2 n2 c2 cols) (h3:SlI w a n c xs) (hn:n ≤ 17592186044000) (hbs:S.length ≤ 17592186044000) (hbc:C.length ≤ 17592186044000) (hm:MayP (m:Int) (m:Int) S C) (ok:Bool) (hok:TruQ ok (n = m ∧ MayC xs n)) (Lf:List Int) (hF:n = m → MayC xs n → ∀ (x:Option Addr) (d:Nat) (y:Option Addr) (z:Nat) W,SlI W x S.length d S → SlI W y C.length z C → SlI W a1 n1 c1 st → SlI W a2 n2 c2 cols → SlI W a n c xs → Calls Tryz.prog 101 #[tkV G 101 G2 G3 wd R width a1 n1 c1 a2 n2 c2 m x S.length d y C.length z,.slice a n c] W fun e w' => OwA Lf W w' e) (hT:∀ W,SlI W a1 n1 c1 st → SlI W a2 n2 c2 cols → Calls Tryz.prog 34 #[.int .i64 k,patV (R:Int) (width:Int) a1 n1 c1 a2 n2 c2] W fun e w' => TkP W w' e G 101 G2 G3 wd R width a1 n1 c1 a2 n2 c2 m S C) :
  Calls Tryz.prog 14 #[.int .i64 k,patV (R:Int) (width:Int) a1 n1 c1 a2 n2 c2,.slice a n c] w fun e w' => FaP (if ok = true then Lf else []) (faE ok) w w' e:=by
 have hm8:m ≤ 128:=by have:=hm.head.fit; omega
 obtain ⟨wb,hwb⟩:∃ x,w.alloc (.cells #[.int .i64 (R:Int),.int .i64 (width:Int),.slice a1 n1 c1,.slice a2 n2 c2] 25) = x:=⟨_,rfl⟩
 have bb:Below w.heap.size w wb:=by rw [← hwb]; exact bAl
 have hT0:=BoxP.made w #[.int .i64 (R:Int),.int .i64 (width:Int),.slice a1 n1 c1,.slice a2 n2 c2] 25
 rw [hwb] at hT0
 have p0:=(hT0.all 0 _ rfl).1
 have p1:=(hT0.all 1 _ rfl).1
 have p2:=(hT0.all 2 _ rfl).1
 have p3:=(hT0.all 3 _ rfl).1
 have KT:=Hj (hT wb (h1.below bb) (h2.below bb))
 unfold patV at KT
 have HB:=Hj bb
 have HT0:=Hj hT0
 have HX:=Hj h3
 have HM:=Hj hm
 have HOK:=Hj hok
 have HFF:=Hj hF
 have HS12:=Hj (And.intro (h1.below bb) (h2.below bb))
 clear hT0 bb h1 h2 hT h3 hm hok hF
 unfold patV
 go_enter Tryz.func14,Tryz.ntmps14
 go_wp2_with fail
 refine (Uh KT).mono ?_
 rintro _ w2 ⟨x,d,y,z,rfl,hS2,hC2,b2⟩
 unfold tkV
 clear p0 p1 p2 p3 KT
 try dsimp only
 repeat ((fail_if_success (with_reducible (show Code.wp _ _ _ _ (World.alloc w2 (Obj.cells #[_,_,_,_,_,_,_,_,_,_,_,_,.slice y C.length z] _))))); (first | go_values | go_skip | go_guarded | go_step | go_upon | go_back))
 have hR:=BoxP.made w2 #[(.func (.func G) #[] #[]),(.func (.func 101) #[] #[]),(.func (.func G2) #[] #[]),(.func (.func G3) #[] #[]),(.bool wd),.int .i64 (R:Int),.int .i64 (width:Int),.slice a1 n1 c1,.slice a2 n2 c2,.int .i64 (m:Int),.int .i64 (m:Int),.slice x S.length d,.slice y C.length z] 80
 have br:Below w2.heap.size w2 (w2.alloc (.cells #[(.func (.func G) #[] #[]),(.func (.func 101) #[] #[]),(.func (.func G2) #[] #[]),(.func (.func G3) #[] #[]),(.bool wd),.int .i64 (R:Int),.int .i64 (width:Int),.slice a1 n1 c1,.slice a2 n2 c2,.int .i64 (m:Int),.int .i64 (m:Int),.slice x S.length d,.slice y C.length z] 80)):=bAl
 have hb3:=((Uh HB).trans (b2.mono (Uh HB).size)).trans (br.mono (Nat.le_trans (Uh HB).size b2.size))
 have HSC:=Hj (And.intro (hS2.below br) (hC2.below br))
 have HS3:=Hj (And.intro (((Uh HS12).1.below b2).below br) (((Uh HS12).2.below b2).below br))
 have HT3:=Hj (((Uh HT0).below b2).below br)
 clear b2 br hS2 hC2
 generalize w2.alloc (.cells #[(.func (.func G) #[] #[]),(.func (.func 101) #[] #[]),(.func (.func G2) #[] #[]),(.func (.func G3) #[] #[]),(.bool wd),.int .i64 (R:Int),.int .i64 (width:Int),.slice a1 n1 c1,.slice a2 n2 c2,.int .i64 (m:Int),.int .i64 (m:Int),.slice x S.length d,.slice y C.length z] 80) = w3 at *
 have s0:=(hR.all 0 _ rfl).1
 have s1:=(hR.all 1 _ rfl).1
 have s2:=(hR.all 2 _ rfl).1
 have s3:=(hR.all 3 _ rfl).1
 have s4:=(hR.all 4 _ rfl).1
 have s5:=(hR.all 5 _ rfl).1
 have s6:=(hR.all 6 _ rfl).1
 have s7:=(hR.all 7 _ rfl).1
 have s8:=(hR.all 8 _ rfl).1
 have s9:=(hR.all 9 _ rfl).1
 have s10:=(hR.all 10 _ rfl).1
 have s11:=(hR.all 11 _ rfl).1
 have s12:=(hR.all 12 _ rfl).1
 have HB3:=Hj hb3
 have HR:=Hj hR
 clear hR hb3
 by_cases hnm:n = m
 ·have hnm':((n:Int) != (m:Int)) = false:=by simp; omega
  subst hnm
  have KM:=Hj (cmayAll_any a n c xs w3 ((Uh HX).below (Uh HB3)) (by omega) ok ⟨fun e => ((Uh HOK).1 e).2,fun k => (Uh HOK).2 ⟨rfl,k⟩⟩)
  go_wp2_with fail
  refine (Uh KM).mono ?_
  rintro _ w4 ⟨rfl,b4⟩
  have hR4:=(Uh HR).below b4
  have hb4:=(Uh HB3).trans (b4.mono (Uh HB3).size)
  have HSC4:=Hj (And.intro ((Uh HSC).1.below b4) ((Uh HSC).2.below b4))
  have HS4:=Hj (And.intro ((Uh HS3).1.below b4) ((Uh HS3).2.below b4))
  have HB4:=Hj hb4
  clear KM b4 s0 s1 s2 s3 s4 s5 s6 s7 s8 s9 s10 s11 s12
  have s0:=(hR4.all 0 _ rfl).1
  have s1:=(hR4.all 1 _ rfl).1
  have s2:=(hR4.all 2 _ rfl).1
  have s3:=(hR4.all 3 _ rfl).1
  have s4:=(hR4.all 4 _ rfl).1
  have s5:=(hR4.all 5 _ rfl).1
  have s6:=(hR4.all 6 _ rfl).1
  have s7:=(hR4.all 7 _ rfl).1
  have s8:=(hR4.all 8 _ rfl).1
  have s9:=(hR4.all 9 _ rfl).1
  have s10:=(hR4.all 10 _ rfl).1
  have s11:=(hR4.all 11 _ rfl).1
  have s12:=(hR4.all 12 _ rfl).1
  cases ok
  ·clear hR4 hb4
   go_wp2_with fail
   refine bodyPost_ret (by simp [results,Tryz.results14,go_sem]; try rfl) rfl ?_
   exact ⟨Uh HB4,none,0,rfl,World.ownsRow_nil _ _ _ _⟩
  ·have HR4:=Hj hR4
   have KF:=Hj (fun W (k:Below w4.heap.size w4 W) => Uh HFF (by first | rfl | trivial) ((Uh HOK).1 (by first | rfl | trivial)).2 x d y z W ((Uh HSC4).1.below k) ((Uh HSC4).2.below k) ((Uh HS4).1.below k) ((Uh HS4).2.below k) (((Uh HX).below (Uh HB4)).below k))
   unfold tkV at KF
   clear hR4 hb4
   go_wp2_with fail
   refine (Uh KF w4 (Below.refl _ _)).mono ?_
   rintro _ w6 ⟨v6,rfl,hO6,b6⟩
   obtain ⟨a6,c6,rfl,hs6⟩:=own_slI hO6
   have HO6:=Hj (own_mono5 hO6 (Uh HB4).size)
   have HF6:=Hj ((Uh HB4).trans (b6.mono (Uh HB4).size))
   clear KF hO6 hs6 b6 s0 s1 s2 s3 s4 s5 s6 s7 s8 s9 s10 s11 s12
   go_wp2_with fail
   refine bodyPost_ret (by simp [results,Tryz.results14,go_sem]; try rfl) rfl ?_
   exact ⟨Uh HF6,_,_,rfl,Uh HO6⟩
 ·have hnm':((n:Int) != (m:Int)) = true:=by simp; omega
  have hk:ok = false:=by rw [Bool.eq_false_iff]; intro e; exact hnm ((Uh HOK).1 e).1
  subst hk
  clear hnm
  go_wp2_with fail
  refine bodyPost_ret (by simp [results,Tryz.results14,go_sem]; try rfl) rfl ?_
  exact ⟨Uh HB3,none,0,rfl,World.ownsRow_nil _ _ _ _⟩
set_option maxRecDepth 100000 in
set_option maxHeartbeats 16000000 in
theorem cFault_circ (k:Int) (G G2 G3:Nat) (wd:Bool) (R width m:Nat) (S C:List Int) (a:Option Addr) (n c:Nat) (xs:List Int) (a1 a2:Option Addr) (n1 c1 n2 c2:Nat) (st cols:List Int) (w:World) (h1:SlI w a1 n1 c1 st) (h2:SlI w a2 n2 c2 cols) (h3:SlI w a n c xs) (hn:n ≤ 17592186044000) (hbs:S.length ≤ 17592186044000) (hbc:C.length ≤ 17592186044000) (hm:MayP (m:Int) (m:Int) S C) (ok:Bool) (hok:TruQ ok (n = m ∧ MayC xs n)) (Lf:List Int) (hF:n = m → MayC xs n → ∀ (x:Option Addr) (d:Nat) (y:Option Addr) (z:Nat) W,SlI W x S.length d S → SlI W y C.length z C → SlI W a1 n1 c1 st → SlI W a2 n2 c2 cols → SlI W a n c xs → Calls Tryz.prog 103 #[tkV G 103 G2 G3 wd R width a1 n1 c1 a2 n2 c2 m x S.length d y C.length z,.slice a n c] W fun e w' => OwA Lf W w' e) (hT:∀ W,SlI W a1 n1 c1 st → SlI W a2 n2 c2 cols → Calls Tryz.prog 34 #[.int .i64 k,patV (R:Int) (width:Int) a1 n1 c1 a2 n2 c2] W fun e w' => TkP W w' e G 103 G2 G3 wd R width a1 n1 c1 a2 n2 c2 m S C) :
  Calls Tryz.prog 14 #[.int .i64 k,patV (R:Int) (width:Int) a1 n1 c1 a2 n2 c2,.slice a n c] w fun e w' => FaP (if ok = true then Lf else []) (faE ok) w w' e:=by
 have hm8:m ≤ 128:=by have:=hm.head.fit; omega
 obtain ⟨wb,hwb⟩:∃ x,w.alloc (.cells #[.int .i64 (R:Int),.int .i64 (width:Int),.slice a1 n1 c1,.slice a2 n2 c2] 25) = x:=⟨_,rfl⟩
 have bb:Below w.heap.size w wb:=by rw [← hwb]; exact bAl
 have hT0:=BoxP.made w #[.int .i64 (R:Int),.int .i64 (width:Int),.slice a1 n1 c1,.slice a2 n2 c2] 25
 rw [hwb] at hT0
 have p0:=(hT0.all 0 _ rfl).1
 have p1:=(hT0.all 1 _ rfl).1
 have p2:=(hT0.all 2 _ rfl).1
 have p3:=(hT0.all 3 _ rfl).1
 have KT:=Hj (hT wb (h1.below bb) (h2.below bb))
 unfold patV at KT
 have HB:=Hj bb
 have HT0:=Hj hT0
 have HX:=Hj h3
 have HM:=Hj hm
 have HOK:=Hj hok
 have HFF:=Hj hF
 have HS12:=Hj (And.intro (h1.below bb) (h2.below bb))
 clear hT0 bb h1 h2 hT h3 hm hok hF
 unfold patV
 go_enter Tryz.func14,Tryz.ntmps14
 go_wp2_with fail
 refine (Uh KT).mono ?_
 rintro _ w2 ⟨x,d,y,z,rfl,hS2,hC2,b2⟩
 unfold tkV
 clear p0 p1 p2 p3 KT
 try dsimp only
 repeat ((fail_if_success (with_reducible (show Code.wp _ _ _ _ (World.alloc w2 (Obj.cells #[_,_,_,_,_,_,_,_,_,_,_,_,.slice y C.length z] _))))); (first | go_values | go_skip | go_guarded | go_step | go_upon | go_back))
 have hR:=BoxP.made w2 #[(.func (.func G) #[] #[]),(.func (.func 103) #[] #[]),(.func (.func G2) #[] #[]),(.func (.func G3) #[] #[]),(.bool wd),.int .i64 (R:Int),.int .i64 (width:Int),.slice a1 n1 c1,.slice a2 n2 c2,.int .i64 (m:Int),.int .i64 (m:Int),.slice x S.length d,.slice y C.length z] 80
 have br:Below w2.heap.size w2 (w2.alloc (.cells #[(.func (.func G) #[] #[]),(.func (.func 103) #[] #[]),(.func (.func G2) #[] #[]),(.func (.func G3) #[] #[]),(.bool wd),.int .i64 (R:Int),.int .i64 (width:Int),.slice a1 n1 c1,.slice a2 n2 c2,.int .i64 (m:Int),.int .i64 (m:Int),.slice x S.length d,.slice y C.length z] 80)):=bAl
 have hb3:=((Uh HB).trans (b2.mono (Uh HB).size)).trans (br.mono (Nat.le_trans (Uh HB).size b2.size))
 have HSC:=Hj (And.intro (hS2.below br) (hC2.below br))
 have HS3:=Hj (And.intro (((Uh HS12).1.below b2).below br) (((Uh HS12).2.below b2).below br))
 have HT3:=Hj (((Uh HT0).below b2).below br)
 clear b2 br hS2 hC2
 generalize w2.alloc (.cells #[(.func (.func G) #[] #[]),(.func (.func 103) #[] #[]),(.func (.func G2) #[] #[]),(.func (.func G3) #[] #[]),(.bool wd),.int .i64 (R:Int),.int .i64 (width:Int),.slice a1 n1 c1,.slice a2 n2 c2,.int .i64 (m:Int),.int .i64 (m:Int),.slice x S.length d,.slice y C.length z] 80) = w3 at *
 have s0:=(hR.all 0 _ rfl).1
 have s1:=(hR.all 1 _ rfl).1
 have s2:=(hR.all 2 _ rfl).1
 have s3:=(hR.all 3 _ rfl).1
 have s4:=(hR.all 4 _ rfl).1
 have s5:=(hR.all 5 _ rfl).1
 have s6:=(hR.all 6 _ rfl).1
 have s7:=(hR.all 7 _ rfl).1
 have s8:=(hR.all 8 _ rfl).1
 have s9:=(hR.all 9 _ rfl).1
 have s10:=(hR.all 10 _ rfl).1
 have s11:=(hR.all 11 _ rfl).1
 have s12:=(hR.all 12 _ rfl).1
 have HB3:=Hj hb3
 have HR:=Hj hR
 clear hR hb3
 by_cases hnm:n = m
 ·have hnm':((n:Int) != (m:Int)) = false:=by simp; omega
  subst hnm
  have KM:=Hj (cmayAll_any a n c xs w3 ((Uh HX).below (Uh HB3)) (by omega) ok ⟨fun e => ((Uh HOK).1 e).2,fun k => (Uh HOK).2 ⟨rfl,k⟩⟩)
  go_wp2_with fail
  refine (Uh KM).mono ?_
  rintro _ w4 ⟨rfl,b4⟩
  have hR4:=(Uh HR).below b4
  have hb4:=(Uh HB3).trans (b4.mono (Uh HB3).size)
  have HSC4:=Hj (And.intro ((Uh HSC).1.below b4) ((Uh HSC).2.below b4))
  have HS4:=Hj (And.intro ((Uh HS3).1.below b4) ((Uh HS3).2.below b4))
  have HB4:=Hj hb4
  clear KM b4 s0 s1 s2 s3 s4 s5 s6 s7 s8 s9 s10 s11 s12
  have s0:=(hR4.all 0 _ rfl).1
  have s1:=(hR4.all 1 _ rfl).1
  have s2:=(hR4.all 2 _ rfl).1
  have s3:=(hR4.all 3 _ rfl).1
  have s4:=(hR4.all 4 _ rfl).1
  have s5:=(hR4.all 5 _ rfl).1
  have s6:=(hR4.all 6 _ rfl).1
  have s7:=(hR4.all 7 _ rfl).1
  have s8:=(hR4.all 8 _ rfl).1
  have s9:=(hR4.all 9 _ rfl).1
  have s10:=(hR4.all 10 _ rfl).1
  have s11:=(hR4.all 11 _ rfl).1
  have s12:=(hR4.all 12 _ rfl).1
  cases ok
  ·clear hR4 hb4
   go_wp2_with fail
   refine bodyPost_ret (by simp [results,Tryz.results14,go_sem]; try rfl) rfl ?_
   exact ⟨Uh HB4,none,0,rfl,World.ownsRow_nil _ _ _ _⟩
  ·have HR4:=Hj hR4
   have KF:=Hj (fun W (k:Below w4.heap.size w4 W) => Uh HFF (by first | rfl | trivial) ((Uh HOK).1 (by first | rfl | trivial)).2 x d y z W ((Uh HSC4).1.below k) ((Uh HSC4).2.below k) ((Uh HS4).1.below k) ((Uh HS4).2.below k) (((Uh HX).below (Uh HB4)).below k))
   unfold tkV at KF
   clear hR4 hb4
   go_wp2_with fail
   refine (Uh KF w4 (Below.refl _ _)).mono ?_
   rintro _ w6 ⟨v6,rfl,hO6,b6⟩
   obtain ⟨a6,c6,rfl,hs6⟩:=own_slI hO6
   have HO6:=Hj (own_mono5 hO6 (Uh HB4).size)
   have HF6:=Hj ((Uh HB4).trans (b6.mono (Uh HB4).size))
   clear KF hO6 hs6 b6 s0 s1 s2 s3 s4 s5 s6 s7 s8 s9 s10 s11 s12
   go_wp2_with fail
   refine bodyPost_ret (by simp [results,Tryz.results14,go_sem]; try rfl) rfl ?_
   exact ⟨Uh HF6,_,_,rfl,Uh HO6⟩
 ·have hnm':((n:Int) != (m:Int)) = true:=by simp; omega
  have hk:ok = false:=by rw [Bool.eq_false_iff]; intro e; exact hnm ((Uh HOK).1 e).1
  subst hk
  clear hnm
  go_wp2_with fail
  refine bodyPost_ret (by simp [results,Tryz.results14,go_sem]; try rfl) rfl ?_
  exact ⟨Uh HB3,none,0,rfl,World.ownsRow_nil _ _ _ _⟩
end Go.Proofs.YtgjokididdffhaaGreat
