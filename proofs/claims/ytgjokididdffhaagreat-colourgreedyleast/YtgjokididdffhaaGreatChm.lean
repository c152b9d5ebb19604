/- Cj3 -/
import Derived.Test.YtgjokididdffhaaGreatCj1
import Derived.Test.YtgjokididdffhaaGreatCj2
import Derived.Test.YtgjokididdffhaaGreatCi8
import Derived.Test.YtgjokididdffhaaGreatChe
import Derived.Test.YtgjokididdffhaaGreatCv1
namespace Go.Proofs.YtgjokididdffhaaGreat
open Go.RowKit Go.Deep
set_option linter.unusedVariables false
theorem cnP_no {P:Nat → Prop} {k:Nat} (h:¬ P k):cnP P (k + 1) = cnP P k:=by rw [cnP_next,tb_no h]; rfl
theorem cnP_yes {P:Nat → Prop} {k:Nat} (h:P k):cnP P (k + 1) = cnP P k + 1:=by rw [cnP_next,tb_yes h]; rfl
def bruM (f0 f1 f2 f3:Value) (wd:Bool) (Rp width R:Nat) (a1:Option Addr) (n1 c1:Nat) (a2:Option Addr) (n2 c2:Nat) (b1:Option Addr) (m1 d1:Nat) (b2:Option Addr) (m2 d2:Nat) (g h cnt:Nat):List Value:=[f0,f1,f2,f3,.bool wd,.int .i64 (Rp:Int),.int .i64 (width:Int),.slice a1 n1 c1,.slice a2 n2 c2,.int .i64 (R:Int),.int .i64 (R:Int),.slice b1 m1 d1,.slice b2 m2 d2,.slice (some ⟨g,0,none⟩) R R,.int .i64 (cnt:Int),.slice (some ⟨h,0,none⟩) R R]
set_option maxRecDepth 100000 in
set_option maxHeartbeats 16000000 in
theorem cnewBrush_gen (f0 f1 f2 f3:Value) (wd:Bool) (Rp width R:Nat) (a1 a2 b1 b2:Option Addr) (n1 c1 n2 c2 m1 d1 m2 d2:Nat) (w:World) (hR:R ≤ 128) :
  Calls Tryz.prog 35 #[.agg #[f0,f1,f2,f3,.bool wd,.int .i64 (Rp:Int),.int .i64 (width:Int),.slice a1 n1 c1,.slice a2 n2 c2,.int .i64 (R:Int),.int .i64 (R:Int),.slice b1 m1 d1,.slice b2 m2 d2]] w fun e w' => ∃ X g h,e = .returned (.pointer (some ⟨X,0,none⟩)) ∧ BoxP w' X (bruM f0 f1 f2 f3 wd Rp width R a1 n1 c1 a2 n2 c2 b1 m1 d1 b2 m2 d2 g h 1) ∧ RoV w' g R (fun _ => .int .i64 (-1)) ∧ RoV w' h R (fun _ => .int .i64 0) ∧ (w.heap.size ≤ g ∧ g < h ∧ h < X) ∧ Below w.heap.size w w':=by
 obtain ⟨wb,hwb⟩:∃ x,w.alloc (.cells #[f0,f1,f2,f3,.bool wd,.int .i64 (Rp:Int),.int .i64 (width:Int),.slice a1 n1 c1,.slice a2 n2 c2,.int .i64 (R:Int),.int .i64 (R:Int),.slice b1 m1 d1,.slice b2 m2 d2] 80) = x:=⟨_,rfl⟩
 have bb:Below w.heap.size w wb:=by rw [← hwb]; exact bAl
 have hT:=BoxP.made w #[f0,f1,f2,f3,.bool wd,.int .i64 (Rp:Int),.int .i64 (width:Int),.slice a1 n1 c1,.slice a2 n2 c2,.int .i64 (R:Int),.int .i64 (R:Int),.slice b1 m1 d1,.slice b2 m2 d2] 80
 rw [hwb] at hT
 have p0:=(hT.all 0 _ rfl).1
 have p1:=(hT.all 1 _ rfl).1
 have p2:=(hT.all 2 _ rfl).1
 have p3:=(hT.all 3 _ rfl).1
 have p4:=(hT.all 4 _ rfl).1
 have p5:=(hT.all 5 _ rfl).1
 have p6:=(hT.all 6 _ rfl).1
 have p7:=(hT.all 7 _ rfl).1
 have p8:=(hT.all 8 _ rfl).1
 have p9:=(hT.all 9 _ rfl).1
 have p10:=(hT.all 10 _ rfl).1
 have p11:=(hT.all 11 _ rfl).1
 have p12:=(hT.all 12 _ rfl).1
 have HT:=Hj hT
 have HB:=Hj bb
 clear hT bb
 go_enter Tryz.func35,Tryz.ntmps35
 go_wp2_with fail
 go_region_held3 (fun w' => w'.cell? ⟨w.heap.size,0,none⟩ = some (f0) ∧ w'.cell? ⟨w.heap.size,1,none⟩ = some (f1) ∧ w'.cell? ⟨w.heap.size,2,none⟩ = some (f2) ∧ w'.cell? ⟨w.heap.size,3,none⟩ = some (f3) ∧ w'.cell? ⟨w.heap.size,4,none⟩ = some (.bool wd) ∧ w'.cell? ⟨w.heap.size,5,none⟩ = some (.int .i64 (Rp:Int)) ∧ w'.cell? ⟨w.heap.size,6,none⟩ = some (.int .i64 (width:Int)) ∧ w'.cell? ⟨w.heap.size,7,none⟩ = some (.slice a1 n1 c1) ∧ w'.cell? ⟨w.heap.size,8,none⟩ = some (.slice a2 n2 c2) ∧ w'.cell? ⟨w.heap.size,9,none⟩ = some (.int .i64 (R:Int)) ∧ w'.cell? ⟨w.heap.size,10,none⟩ = some (.int .i64 (R:Int)) ∧ w'.cell? ⟨w.heap.size,11,none⟩ = some (.slice b1 m1 d1) ∧ w'.cell? ⟨w.heap.size,12,none⟩ = some (.slice b2 m2 d2)) (first | (exact ⟨k0,k1,k2,k3,k4,k5,k6,k7,k8,k9,k10,k11,k12⟩) | go_keep)
  (first
   | (go_at_call 64; refine (srepeat_any ⟨wb.heap.size,0,none⟩ 1 (-1) R _ hR (by simp)).mono ?_; rintro _ w3 ⟨g,hgn,rfl,hgb,b3⟩; have bw3:Below wb.heap.size wb w3:=((bAl).drew).trans (b3.mono (by simp)); have hT3:=(Uh HT).below bw3; have k0:=(hT3.all 0 _ rfl).1; have k1:=(hT3.all 1 _ rfl).1; have k2:=(hT3.all 2 _ rfl).1; have k3:=(hT3.all 3 _ rfl).1; have k4:=(hT3.all 4 _ rfl).1; have k5:=(hT3.all 5 _ rfl).1; have k6:=(hT3.all 6 _ rfl).1; have k7:=(hT3.all 7 _ rfl).1; have k8:=(hT3.all 8 _ rfl).1; have k9:=(hT3.all 9 _ rfl).1; have k10:=(hT3.all 10 _ rfl).1; have k11:=(hT3.all 11 _ rfl).1; have k12:=(hT3.all 12 _ rfl).1; have HB3:=Hj bw3; have HGB:=Hj (And.intro hgb (show wb.heap.size ≤ g by simp at hgn; omega)); have HT3:=Hj hT3; clear hgb b3 bw3 hT3 hgn)
   | (go_at_call 65; refine (cmarksOf_any R _ hR).mono ?_; rintro _ w4 ⟨h,hhn,rfl,hhr,hhl,b4⟩; clear k0 k1 k2 k3 k4 k5 k6 k7 k8 k9 k10 k11 k12; have hT4:=(Uh HT3).below b4; have k0:=(hT4.all 0 _ rfl).1; have k1:=(hT4.all 1 _ rfl).1; have k2:=(hT4.all 2 _ rfl).1; have k3:=(hT4.all 3 _ rfl).1; have k4:=(hT4.all 4 _ rfl).1; have k5:=(hT4.all 5 _ rfl).1; have k6:=(hT4.all 6 _ rfl).1; have k7:=(hT4.all 7 _ rfl).1; have k8:=(hT4.all 8 _ rfl).1; have k9:=(hT4.all 9 _ rfl).1; have k10:=(hT4.all 10 _ rfl).1; have k11:=(hT4.all 11 _ rfl).1; have k12:=(hT4.all 12 _ rfl).1; have HB4:=Hj b4; have HHR:=Hj (And.intro hhr (And.intro hhn hhl)); clear hhr hhn hhl b4 hT4))
 clear k0 k1 k2 k3 k4 k5 k6 k7 k8 k9 k10 k11 k12
 have hbx:=BoxP.front w4 _ 123 (bruM f0 f1 f2 f3 wd Rp width R a1 n1 c1 a2 n2 c2 b1 m1 d1 b2 m2 d2 g h 1) (by simp only [Array.size_setIfInBounds]; have:=zc_brush; omega) (fun k v hk => brush_front f0 f1 f2 f3 (.bool wd) (.int .i64 (Rp:Int)) (.int .i64 (width:Int)) (.slice a1 n1 c1) (.slice a2 n2 c2) (.int .i64 (R:Int)) (.int .i64 (R:Int)) (.slice b1 m1 d1) (.slice b2 m2 d2) (.slice (some ⟨g,0,none⟩) R R) (.int .i64 1) (.slice (some ⟨h,0,none⟩) R R) k v hk)
 generalize hZ:((((((((((((((((Tryz.zeroCells123.setIfInBounds 0 f0).setIfInBounds 1 f1).setIfInBounds 2 f2).setIfInBounds 3 f3).setIfInBounds 4 (Value.bool wd)).setIfInBounds 5 (Value.int IntKind.i64 (Rp:Int))).setIfInBounds 6 (Value.int IntKind.i64 (width:Int))).setIfInBounds 7 (Value.slice a1 n1 c1)).setIfInBounds 8 (Value.slice a2 n2 c2)).setIfInBounds 9 (Value.int IntKind.i64 (R:Int))).setIfInBounds 10 (Value.int IntKind.i64 (R:Int))).setIfInBounds 11 (Value.slice b1 m1 d1)).setIfInBounds 12 (Value.slice b2 m2 d2)).setIfInBounds 13 (Value.slice (some ⟨g,0,none⟩) R R)).setIfInBounds 14 (Value.int IntKind.i64 1)).setIfInBounds 15 (Value.slice (some ⟨h,0,none⟩) R R)) = ZZ at *
 have HX:=Hj hbx
 clear hbx hZ
 go_wp2_with fail
 try go_ret
 have b4a:Below w4.heap.size w4 (w4.alloc (.cells ZZ 123)):=bAl
 have h3:=(Uh HB).trans ((Uh HB3).mono (Uh HB).size)
 have h4:=h3.trans ((Uh HB4).mono h3.size)
 have hg3:=(Array.getElem?_eq_some_iff.1 (Uh HGB).1).1
 have hh:=(Uh HHR).2
 refine ⟨w4.heap.size,g,h,rfl,Uh HX,((RoV.rep (Uh HGB).1).below (Uh HB4)).below b4a,(Uh HHR).1.below b4a,⟨?_,?_,hh.2⟩,h4.trans (b4a.mono h4.size)⟩
 ·have:=(Uh HGB).2; have:=(Uh HB).size; omega
 ·omega
def GrB (xs:List Int) (m:Nat) (P:(Nat → Int) → Prop) (w w':World) (e:Ending):Prop:=Below w.heap.size w w' ∧ (IsOrd xs m → ∃ (g:Nat) (cs:Nat → Int) (z:Nat),e = .returned (.tuple #[.slice (some ⟨g,0,none⟩) m m,.int .i64 (z:Int),.int .i64 0]) ∧ P cs ∧ NumC (csL cs m) (z:Int) ∧ RoV w' g m (fun i => .int .i64 (cs i)) ∧ w.heap.size ≤ g) ∧ (¬ IsOrd xs m → e = .returned (.tuple #[.slice none 0 0,.int .i64 0,.int .i64 182]))
set_option maxRecDepth 100000 in
set_option maxHeartbeats 16000000 in
theorem cGreedy_no (k rows width:Int) (er:Int) (her:(er != 0) = true) (a:Option Addr) (n c:Nat) (a1 a2:Option Addr) (n1 c1 n2 c2:Nat) (st cols:List Int) (w:World) (h1:SlI w a1 n1 c1 st) (h2:SlI w a2 n2 c2 cols) (hT:∀ W,SlI W a1 n1 c1 st → SlI W a2 n2 c2 cols → Calls Tryz.prog 34 #[.int .i64 k,patV rows width a1 n1 c1 a2 n2 c2] W fun e w' => TkN W w' e er) :
  Calls Tryz.prog 18 #[.int .i64 k,patV rows width a1 n1 c1 a2 n2 c2,.slice a n c] w fun e w' => e = .returned (.tuple #[.slice none 0 0,.int .i64 0,.int .i64 er]) ∧ Below w.heap.size w w':=by
 obtain ⟨wb,hwb⟩:∃ x,w.alloc (.cells #[.int .i64 rows,.int .i64 width,.slice a1 n1 c1,.slice a2 n2 c2] 25) = x:=⟨_,rfl⟩
 have bb:Below w.heap.size w wb:=by rw [← hwb]; exact bAl
 have hT0:=BoxP.made w #[.int .i64 rows,.int .i64 width,.slice a1 n1 c1,.slice a2 n2 c2] 25
 rw [hwb] at hT0
 have p0:=(hT0.all 0 _ rfl).1
 have p1:=(hT0.all 1 _ rfl).1
 have p2:=(hT0.all 2 _ rfl).1
 have p3:=(hT0.all 3 _ rfl).1
 have KT:=Hj (hT wb (h1.below bb) (h2.below bb))
 unfold patV at KT
 have HB:=Hj bb
 have HT0:=Hj hT0
 clear hT0 bb h1 h2 hT
 unfold patV
 go_enter Tryz.func18,Tryz.ntmps18
 go_wp2_with fail
 refine (Uh KT).mono ?_
 rintro _ w2 ⟨rfl,b2⟩
 unfold tkZ
 clear p0 p1 p2 p3 KT
 try dsimp only
 have HB2:=Hj ((Uh HB).trans (b2.mono (Uh HB).size))
 clear b2
 go_wp2_with fail
 refine bodyPost_ret (by simp [results,Tryz.results18,go_sem]; try rfl) rfl ?_
 exact ⟨rfl,(Uh HB2).alloc (Uh HB2).size _⟩
set_option maxRecDepth 100000 in
set_option maxHeartbeats 16000000 in
theorem cGreedy_nb (k:Int) (G G1 G3:Nat) (wd:Bool) (R width m:Nat) (S C:List Int) (a:Option Addr) (n c:Nat) (xs:List Int) (a1 a2:Option Addr) (n1 c1 n2 c2:Nat) (st cols:List Int) (w:World) (h1:SlI w a1 n1 c1 st) (h2:SlI w a2 n2 c2 cols) (h3:SlI w a n c xs) (hn:n ≤ 17592186044000) (hbs:S.length ≤ 17592186044000) (hbc:C.length ≤ 17592186044000) (hm:MayP (m:Int) (m:Int) S C) (hT:∀ W,SlI W a1 n1 c1 st → SlI W a2 n2 c2 cols → Calls Tryz.prog 34 #[.int .i64 k,patV (R:Int) (width:Int) a1 n1 c1 a2 n2 c2] W fun e w' => TkP W w' e G G1 93 G3 wd R width a1 n1 c1 a2 n2 c2 m S C) :
  Calls Tryz.prog 18 #[.int .i64 k,patV (R:Int) (width:Int) a1 n1 c1 a2 n2 c2,.slice a n c] w fun e w' => GrB xs m (PntN S C xs m) w w' e:=by
 have hm8:m ≤ 128:=by have:=hm.head.fit; omega
 obtain ⟨ok,hok⟩:=truth (IsOrd xs m)
 obtain ⟨wb,hwb⟩:∃ x,w.alloc (.cells #[.int .i64 (R:Int),.int .i64 (width:Int),.slice a1 n1 c1,.slice a2 n2 c2] 25) = x:=⟨_,rfl⟩
 have bb:Below w.heap.size w wb:=by rw [← hwb]; exact bAl
 have hT0:=BoxP.made w #[.int .i64 (R:Int),.int .i64 (width:Int),.slice a1 n1 c1,.slice a2 n2 c2] 25
 rw [hwb] at hT0
 have p0:=(hT0.all 0 _ rfl).1
 have p1:=(hT0.all 1 _ rfl).1
 have p2:=(hT0.all 2 _ rfl).1
 have p3:=(hT0.all 3 _ rfl).1
 have KT:=Hj (hT wb (h1.below bb) (h2.below bb))
 unfold patV at KT
 have HB:=Hj bb
 have HT0:=Hj hT0
 have HX:=Hj h3
 have HM:=Hj hm
 have HOK:=Hj (show TruQ ok (IsOrd xs m) from hok)
 clear hT0 bb h1 h2 hT h3 hm hok
 unfold patV
 go_enter Tryz.func18,Tryz.ntmps18
 go_wp2_with fail
 refine (Uh KT).mono ?_
 rintro _ w2 ⟨x,d,y,z,rfl,hS2,hC2,b2⟩
 unfold tkV
 clear p0 p1 p2 p3 KT
 try dsimp only
 repeat ((fail_if_success (with_reducible (show Code.wp _ _ _ _ (World.alloc w2 (Obj.cells #[_,_,_,_,_,_,_,_,_,_,_,_,.slice y C.length z] _))))); (first | go_values | go_skip | go_guarded | go_step | go_upon | go_back))
 have hR:=BoxP.made w2 #[(.func (.func G) #[] #[]),(.func (.func G1) #[] #[]),(.func (.func 93) #[] #[]),(.func (.func G3) #[] #[]),(.bool wd),.int .i64 (R:Int),.int .i64 (width:Int),.slice a1 n1 c1,.slice a2 n2 c2,.int .i64 (m:Int),.int .i64 (m:Int),.slice x S.length d,.slice y C.length z] 80
 have br:Below w2.heap.size w2 (w2.alloc (.cells #[(.func (.func G) #[] #[]),(.func (.func G1) #[] #[]),(.func (.func 93) #[] #[]),(.func (.func G3) #[] #[]),(.bool wd),.int .i64 (R:Int),.int .i64 (width:Int),.slice a1 n1 c1,.slice a2 n2 c2,.int .i64 (m:Int),.int .i64 (m:Int),.slice x S.length d,.slice y C.length z] 80)):=bAl
 have hb3:=((Uh HB).trans (b2.mono (Uh HB).size)).trans (br.mono (Nat.le_trans (Uh HB).size b2.size))
 have HSC:=Hj (And.intro (hS2.below br) (hC2.below br))
 have HT3:=Hj (((Uh HT0).below b2).below br)
 clear b2 br hS2 hC2
 generalize w2.alloc (.cells #[(.func (.func G) #[] #[]),(.func (.func G1) #[] #[]),(.func (.func 93) #[] #[]),(.func (.func G3) #[] #[]),(.bool wd),.int .i64 (R:Int),.int .i64 (width:Int),.slice a1 n1 c1,.slice a2 n2 c2,.int .i64 (m:Int),.int .i64 (m:Int),.slice x S.length d,.slice y C.length z] 80) = w3 at *
 have s0:=(hR.all 0 _ rfl).1
 have s1:=(hR.all 1 _ rfl).1
 have s2:=(hR.all 2 _ rfl).1
 have s3:=(hR.all 3 _ rfl).1
 have s4:=(hR.all 4 _ rfl).1
 have s5:=(hR.all 5 _ rfl).1
 have s6:=(hR.all 6 _ rfl).1
 have s7:=(hR.all 7 _ rfl).1
 have s8:=(hR.all 8 _ rfl).1
 have s9:=(hR.all 9 _ rfl).1
 have s10:=(hR.all 10 _ rfl).1
 have s11:=(hR.all 11 _ rfl).1
 have s12:=(hR.all 12 _ rfl).1
 have HB3:=Hj hb3
 have HR:=Hj hR
 have KO:=Hj (cisOrder_any a n c xs m w3 ((Uh HX).below hb3) (by omega) hm8 ok (Uh HOK))
 clear hR hb3
 go_wp2_with fail
 refine (Uh KO).mono ?_
 rintro _ w4 ⟨rfl,b4⟩
 have hR4:=(Uh HR).below b4
 have hb4:=(Uh HB3).trans (b4.mono (Uh HB3).size)
 have HSC4:=Hj (And.intro ((Uh HSC).1.below b4) ((Uh HSC).2.below b4))
 have HB4:=Hj hb4
 clear KO b4 s0 s1 s2 s3 s4 s5 s6 s7 s8 s9 s10 s11 s12
 have s0:=(hR4.all 0 _ rfl).1
 have s1:=(hR4.all 1 _ rfl).1
 have s2:=(hR4.all 2 _ rfl).1
 have s3:=(hR4.all 3 _ rfl).1
 have s4:=(hR4.all 4 _ rfl).1
 have s5:=(hR4.all 5 _ rfl).1
 have s6:=(hR4.all 6 _ rfl).1
 have s7:=(hR4.all 7 _ rfl).1
 have s8:=(hR4.all 8 _ rfl).1
 have s9:=(hR4.all 9 _ rfl).1
 have s10:=(hR4.all 10 _ rfl).1
 have s11:=(hR4.all 11 _ rfl).1
 have s12:=(hR4.all 12 _ rfl).1
 cases ok
 ·clear hR4 hb4
  go_wp2_with fail
  refine bodyPost_ret (by simp [results,Tryz.results18,go_sem]; try rfl) rfl ?_
  exact ⟨Uh HB4,fun ho => absurd (Iff.mpr (Uh HOK) ho) (by decide),fun _ => rfl⟩
 ·have ho:IsOrd xs m:=Iff.mp (Uh HOK) rfl
  have hnm:n = m:=by have:=(Uh HX).len; have:=ho.1; omega
  subst hnm
  have HO:=Hj ho
  clear hR4 hb4 ho
  go_wp2_with fail
  refine (cnewBrush_gen _ _ _ _ wd R width n a1 a2 x y n1 c1 n2 c2 S.length d C.length z w4 hm8).mono ?_
  rintro _ w5 ⟨X,g,h,rfl,hX,hg5,hh5,hlt5,b5⟩
  have hs1:=(Uh HSC4).1
  have hs2:=(Uh HSC4).2
  have hs3:=(Uh HX).below (Uh HB4)
  have hBr:BrI w5 X n _ x S.length d y C.length z g h 1 (fun _ => -1) (fun _ => 0) S C:=⟨hX,rfl,rfl,rfl,rfl,rfl,rfl,rfl,hg5,hh5,hs1.below b5,hs2.below b5,fun t ht hne => by have:=hs1.block_lt hne t ht; omega,fun t ht hne => by have:=hs2.block_lt hne t ht; omega,by omega⟩
  have KP:=Hj (cpaint_nb X n _ x S.length d y C.length z g h (fun _ => 0) S C a n c xs w5 hBr (Uh HM) hbs hbc (fun j _ => by omega) rfl (hs3.below b5) (Nat.le_refl _) (Uh HO).2.rng (fun t ht hne => by have:=hs3.block_lt hne t ht; omega))
  have HB5:=Hj ((Uh HB4).trans (b5.mono (Uh HB4).size))
  have HLT:=Hj (And.intro (Uh HB4).size hlt5)
  clear hX hg5 hh5 hlt5 b5 hs1 hs2 hs3 hBr s0 s1 s2 s3 s4 s5 s6 s7 s8 s9 s10 s11 s12
  go_wp2_with fail
  refine (Uh KP).mono ?_
  rintro _ w6 ⟨cs,hP⟩
  have e6:=hP.ret
  subst e6
  have hrg:=PntN.rng (Uh HM) (Uh HO).2.rng (Nat.le_refl _) hP.pnt
  have KN:=Hj (cnumber_any (some ⟨g,0,none⟩) n n (csL cs n) w6 (hP.row.sli hm8) hm8 (fun i hi => by rw [csL_get hi]; have:=hrg i; omega) (fun e => by cases e))
  have HP:=Hj hP
  have HRG:=Hj hrg
  clear KP hP hrg
  go_wp2_with fail
  refine (Uh KN).mono ?_
  rintro _ w7 ⟨zi,rfl,hN,b7⟩
  obtain ⟨hz0,hzk,_⟩:=numC_rng hN (fun i _ => Uh HRG i)
  obtain ⟨zn,rfl⟩:∃ zn:Nat,zi = (zn:Int):=⟨zi.toNat,by omega⟩
  have HA:=Hj (show GrB xs n (PntN S C xs n) w w7 (.returned (.tuple #[.slice (some ⟨g,0,none⟩) n n,.int .i64 (zn:Int),.int .i64 0])) from
   ⟨(Uh HB5).trans (((Uh HP).chg.below (Uh HB5).size (fun j hj e => by have:=Uh HLT; omega)).trans (b7.mono (Nat.le_trans (Uh HB5).size (Uh HP).chg.size))),fun _ => ⟨g,cs,zn,rfl,(Uh HP).pnt,hN,(Uh HP).row.below b7,by have:=Uh HLT; omega⟩,fun hno => absurd (Uh HO) hno⟩)
  clear KN hN b7 hz0 hzk
  go_wp2_with fail
  refine bodyPost_ret (by simp [results,Tryz.results18,go_sem]; try rfl) rfl ?_
  exact Uh HA
set_option maxRecDepth 100000 in
set_option maxHeartbeats 16000000 in
theorem cGreedy_st (k:Int) (G G1 G3:Nat) (wd:Bool) (R width m:Nat) (S C:List Int) (a:Option Addr) (n c:Nat) (xs:List Int) (a1 a2:Option Addr) (n1 c1 n2 c2:Nat) (st cols:List Int) (w:World) (h1:SlI w a1 n1 c1 st) (h2:SlI w a2 n2 c2 cols) (h3:SlI w a n c xs) (hn:n ≤ 17592186044000) (hbs:S.length ≤ 17592186044000) (hbc:C.length ≤ 17592186044000) (hm:MayP (m:Int) (m:Int) S C) (hT:∀ W,SlI W a1 n1 c1 st → SlI W a2 n2 c2 cols → Calls Tryz.prog 34 #[.int .i64 k,patV (R:Int) (width:Int) a1 n1 c1 a2 n2 c2] W fun e w' => TkP W w' e G G1 102 G3 wd R width a1 n1 c1 a2 n2 c2 m S C) :
  Calls Tryz.prog 18 #[.int .i64 k,patV (R:Int) (width:Int) a1 n1 c1 a2 n2 c2,.slice a n c] w fun e w' => GrB xs m (PntI S C xs m) w w' e:=by
 have hm8:m ≤ 128:=by have:=hm.head.fit; omega
 obtain ⟨ok,hok⟩:=truth (IsOrd xs m)
 obtain ⟨wb,hwb⟩:∃ x,w.alloc (.cells #[.int .i64 (R:Int),.int .i64 (width:Int),.slice a1 n1 c1,.slice a2 n2 c2] 25) = x:=⟨_,rfl⟩
 have bb:Below w.heap.size w wb:=by rw [← hwb]; exact bAl
 have hT0:=BoxP.made w #[.int .i64 (R:Int),.int .i64 (width:Int),.slice a1 n1 c1,.slice a2 n2 c2] 25
 rw [hwb] at hT0
 have p0:=(hT0.all 0 _ rfl).1
 have p1:=(hT0.all 1 _ rfl).1
 have p2:=(hT0.all 2 _ rfl).1
 have p3:=(hT0.all 3 _ rfl).1
 have KT:=Hj (hT wb (h1.below bb) (h2.below bb))
 unfold patV at KT
 have HB:=Hj bb
 have HT0:=Hj hT0
 have HX:=Hj h3
 have HM:=Hj hm
 have HOK:=Hj (show TruQ ok (IsOrd xs m) from hok)
 clear hT0 bb h1 h2 hT h3 hm hok
 unfold patV
 go_enter Tryz.func18,Tryz.ntmps18
 go_wp2_with fail
 refine (Uh KT).mono ?_
 rintro _ w2 ⟨x,d,y,z,rfl,hS2,hC2,b2⟩
 unfold tkV
 clear p0 p1 p2 p3 KT
 try dsimp only
 repeat ((fail_if_success (with_reducible (show Code.wp _ _ _ _ (World.alloc w2 (Obj.cells #[_,_,_,_,_,_,_,_,_,_,_,_,.slice y C.length z] _))))); (first | go_values | go_skip | go_guarded | go_step | go_upon | go_back))
 have hR:=BoxP.made w2 #[(.func (.func G) #[] #[]),(.func (.func G1) #[] #[]),(.func (.func 102) #[] #[]),(.func (.func G3) #[] #[]),(.bool wd),.int .i64 (R:Int),.int .i64 (width:Int),.slice a1 n1 c1,.slice a2 n2 c2,.int .i64 (m:Int),.int .i64 (m:Int),.slice x S.length d,.slice y C.length z] 80
 have br:Below w2.heap.size w2 (w2.alloc (.cells #[(.func (.func G) #[] #[]),(.func (.func G1) #[] #[]),(.func (.func 102) #[] #[]),(.func (.func G3) #[] #[]),(.bool wd),.int .i64 (R:Int),.int .i64 (width:Int),.slice a1 n1 c1,.slice a2 n2 c2,.int .i64 (m:Int),.int .i64 (m:Int),.slice x S.length d,.slice y C.length z] 80)):=bAl
 have hb3:=((Uh HB).trans (b2.mono (Uh HB).size)).trans (br.mono (Nat.le_trans (Uh HB).size b2.size))
 have HSC:=Hj (And.intro (hS2.below br) (hC2.below br))
 have HT3:=Hj (((Uh HT0).below b2).below br)
 clear b2 br hS2 hC2
 generalize w2.alloc (.cells #[(.func (.func G) #[] #[]),(.func (.func G1) #[] #[]),(.func (.func 102) #[] #[]),(.func (.func G3) #[] #[]),(.bool wd),.int .i64 (R:Int),.int .i64 (width:Int),.slice a1 n1 c1,.slice a2 n2 c2,.int .i64 (m:Int),.int .i64 (m:Int),.slice x S.length d,.slice y C.length z] 80) = w3 at *
 have s0:=(hR.all 0 _ rfl).1
 have s1:=(hR.all 1 _ rfl).1
 have s2:=(hR.all 2 _ rfl).1
 have s3:=(hR.all 3 _ rfl).1
 have s4:=(hR.all 4 _ rfl).1
 have s5:=(hR.all 5 _ rfl).1
 have s6:=(hR.all 6 _ rfl).1
 have s7:=(hR.all 7 _ rfl).1
 have s8:=(hR.all 8 _ rfl).1
 have s9:=(hR.all 9 _ rfl).1
 have s10:=(hR.all 10 _ rfl).1
 have s11:=(hR.all 11 _ rfl).1
 have s12:=(hR.all 12 _ rfl).1
 have HB3:=Hj hb3
 have HR:=Hj hR
 have KO:=Hj (cisOrder_any a n c xs m w3 ((Uh HX).below hb3) (by omega) hm8 ok (Uh HOK))
 clear hR hb3
 go_wp2_with fail
 refine (Uh KO).mono ?_
 rintro _ w4 ⟨rfl,b4⟩
 have hR4:=(Uh HR).below b4
 have hb4:=(Uh HB3).trans (b4.mono (Uh HB3).size)
 have HSC4:=Hj (And.intro ((Uh HSC).1.below b4) ((Uh HSC).2.below b4))
 have HB4:=Hj hb4
 clear KO b4 s0 s1 s2 s3 s4 s5 s6 s7 s8 s9 s10 s11 s12
 have s0:=(hR4.all 0 _ rfl).1
 have s1:=(hR4.all 1 _ rfl).1
 have s2:=(hR4.all 2 _ rfl).1
 have s3:=(hR4.all 3 _ rfl).1
 have s4:=(hR4.all 4 _ rfl).1
 have s5:=(hR4.all 5 _ rfl).1
 have s6:=(hR4.all 6 _ rfl).1
 have s7:=(hR4.all 7 _ rfl).1
 have s8:=(hR4.all 8 _ rfl).1
 have s9:=(hR4.all 9 _ rfl).1
 have s10:=(hR4.all 10 _ rfl).1
 have s11:=(hR4.all 11 _ rfl).1
 have s12:=(hR4.all 12 _ rfl).1
 cases ok
 ·clear hR4 hb4
  go_wp2_with fail
  refine bodyPost_ret (by simp [results,Tryz.results18,go_sem]; try rfl) rfl ?_
  exact ⟨Uh HB4,fun ho => absurd (Iff.mpr (Uh HOK) ho) (by decide),fun _ => rfl⟩
 ·have ho:IsOrd xs m:=Iff.mp (Uh HOK) rfl
  have hnm:n = m:=by have:=(Uh HX).len; have:=ho.1; omega
  subst hnm
  have HO:=Hj ho
  clear hR4 hb4 ho
  go_wp2_with fail
  refine (cnewBrush_gen _ _ _ _ wd R width n a1 a2 x y n1 c1 n2 c2 S.length d C.length z w4 hm8).mono ?_
  rintro _ w5 ⟨X,g,h,rfl,hX,hg5,hh5,hlt5,b5⟩
  have hs1:=(Uh HSC4).1
  have hs2:=(Uh HSC4).2
  have hs3:=(Uh HX).below (Uh HB4)
  have hBr:BrI w5 X n _ x S.length d y C.length z g h 1 (fun _ => -1) (fun _ => 0) S C:=⟨hX,rfl,rfl,rfl,rfl,rfl,rfl,rfl,hg5,hh5,hs1.below b5,hs2.below b5,fun t ht hne => by have:=hs1.block_lt hne t ht; omega,fun t ht hne => by have:=hs2.block_lt hne t ht; omega,by omega⟩
  have KP:=Hj (cpaint_star X n _ x S.length d y C.length z g h (fun _ => 0) S C a n c xs w5 hBr (Uh HM) hbs hbc (fun j _ => by omega) rfl (hs3.below b5) (Nat.le_refl _) (Uh HO).2.rng (fun t ht hne => by have:=hs3.block_lt hne t ht; omega))
  have HB5:=Hj ((Uh HB4).trans (b5.mono (Uh HB4).size))
  have HLT:=Hj (And.intro (Uh HB4).size hlt5)
  clear hX hg5 hh5 hlt5 b5 hs1 hs2 hs3 hBr s0 s1 s2 s3 s4 s5 s6 s7 s8 s9 s10 s11 s12
  go_wp2_with fail
  refine (Uh KP).mono ?_
  rintro _ w6 ⟨cs,hP⟩
  have e6:=hP.ret
  subst e6
  have hrg:=PntI.rng (Uh HM) (Uh HO).2.rng (Nat.le_refl _) hP.pnt
  have KN:=Hj (cnumber_any (some ⟨g,0,none⟩) n n (csL cs n) w6 (hP.row.sli hm8) hm8 (fun i hi => by rw [csL_get hi]; have:=hrg i; omega) (fun e => by cases e))
  have HP:=Hj hP
  have HRG:=Hj hrg
  clear KP hP hrg
  go_wp2_with fail
  refine (Uh KN).mono ?_
  rintro _ w7 ⟨zi,rfl,hN,b7⟩
  obtain ⟨hz0,hzk,_⟩:=numC_rng hN (fun i _ => Uh HRG i)
  obtain ⟨zn,rfl⟩:∃ zn:Nat,zi = (zn:Int):=⟨zi.toNat,by omega⟩
  have HA:=Hj (show GrB xs n (PntI S C xs n) w w7 (.returned (.tuple #[.slice (some ⟨g,0,none⟩) n n,.int .i64 (zn:Int),.int .i64 0])) from
   ⟨(Uh HB5).trans (((Uh HP).chg.below (Uh HB5).size (fun j hj e => by have:=Uh HLT; omega)).trans (b7.mono (Nat.le_trans (Uh HB5).size (Uh HP).chg.size))),fun _ => ⟨g,cs,zn,rfl,(Uh HP).pnt,hN,(Uh HP).row.below b7,by have:=Uh HLT; omega⟩,fun hno => absurd (Uh HO) hno⟩)
  clear KN hN b7 hz0 hzk
  go_wp2_with fail
  refine bodyPost_ret (by simp [results,Tryz.results18,go_sem]; try rfl) rfl ?_
  exact Uh HA
end Go.Proofs.YtgjokididdffhaaGreat
