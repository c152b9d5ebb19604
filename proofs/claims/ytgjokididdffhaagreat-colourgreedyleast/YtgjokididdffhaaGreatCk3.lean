/- Cw2 -/
import Derived.Test.YtgjokididdffhaaGreatCj1
import Derived.Test.YtgjokididdffhaaGreatChm
import Derived.Test.YtgjokididdffhaaGreatRq0
import Derived.Test.YtgjokididdffhaaGreatCgg
import Derived.Test.YtgjokididdffhaaGreatDa1
import Derived.Test.YtgjokididdffhaaGreatCu5
import Derived.Test.YtgjokididdffhaaGreatCga
namespace Go.Proofs.YtgjokididdffhaaGreat
open Go.RowKit Go.Deep
set_option linter.unusedVariables false
structure NmI (cs:Nat → Int) (R z:Nat):Prop where
 le:∀ i,i < R → cs i < (z:Int)
 at_:z = 0 ∨ ∃ i,i < R ∧ cs i = (z:Int) - 1
theorem NmI.none {R:Nat}:NmI (fun _ => -1) R 0:=⟨fun i _ => by simp,.inl rfl⟩
theorem NmI.num {cs:Nat → Int} {R z:Nat} (h:NmI cs R z):NumC (csL cs R) (z:Int):=by
 unfold NumC
 rw [csL_len]
 refine ⟨?_,fun i hi => ?_⟩
 ·rcases h.at_ with e | ⟨i,hi,e⟩
  ·exact ⟨0,by omega,by simp [e]⟩
  ·exact ⟨i + 1,by omega,by rw [List.getD_cons_succ,csL_get hi,e]⟩
 ·cases i with
  | zero => simp; omega
  | succ i =>
   rw [List.getD_cons_succ,csL_get (by omega)]
   have:=h.le i (by omega)
   omega
theorem NmI.upd {cs:Nat → Int} {R z u y:Nat} (h:NmI cs R z) (hu:u < R) (hf:cs u = -1):NmI (updC cs u y) R (max z (y + 1)):=by
 refine ⟨fun i hi => ?_,?_⟩
 ·by_cases e:i = u
  ·subst e; rw [updC_same]; omega
  ·rw [updC_other _ _ e]; have:=h.le i hi; omega
 ·by_cases c:z ≤ y + 1
  ·exact .inr ⟨u,hu,by rw [updC_same]; omega⟩
  ·rcases h.at_ with e | ⟨i,hi,e⟩
   ·omega
   ·refine .inr ⟨i,hi,?_⟩
    have hne:i ≠ u:=fun e2 => by rw [e2,hf] at e; omega
    rw [updC_other _ _ hne,e]
    omega
def SkN (Q:Nat → Bool) (N:Nat) (cs:Nat → Int) (v b c d:Nat):Prop:=∀ b' c' d',b' < N → c' < N → d' < N → (b' < b ∨ (b' = b ∧ (c' < c ∨ (c' = c ∧ d' < d)))) → ¬ Sk1 Q N cs v b' c' d'
theorem SkN.first (Q:Nat → Bool) (N:Nat) (cs:Nat → Int) (v:Nat):SkN Q N cs v 0 0 0:=fun b' c' d' _ _ _ h => by omega
theorem SkN.nextD {Q:Nat → Bool} {N:Nat} {cs:Nat → Int} {v b c d:Nat} (h:SkN Q N cs v b c d) (k:¬ Sk1 Q N cs v b c d):SkN Q N cs v b c (d + 1):=fun b' c' d' h1 h2 h3 h4 => by
 by_cases e:b' = b ∧ c' = c ∧ d' = d
 ·obtain ⟨rfl,rfl,rfl⟩:=e; exact k
 ·exact h b' c' d' h1 h2 h3 (by omega)
theorem SkN.nextC {Q:Nat → Bool} {N:Nat} {cs:Nat → Int} {v b c d:Nat} (h:SkN Q N cs v b c d) (k:∀ d',d' < N → d ≤ d' → ¬ Sk1 Q N cs v b c d'):SkN Q N cs v b (c + 1) 0:=fun b' c' d' h1 h2 h3 h4 => by
 by_cases e:b' = b ∧ c' = c ∧ d ≤ d'
 ·obtain ⟨rfl,rfl,e⟩:=e; exact k d' h3 e
 ·exact h b' c' d' h1 h2 h3 (by omega)
theorem SkN.nextB {Q:Nat → Bool} {N:Nat} {cs:Nat → Int} {v b c d:Nat} (h:SkN Q N cs v b c d) (k:∀ c' d',c' < N → d' < N → (c < c' ∨ (c = c' ∧ d ≤ d')) → ¬ Sk1 Q N cs v b c' d'):SkN Q N cs v (b + 1) 0 0:=fun b' c' d' h1 h2 h3 h4 => by
 by_cases e:b' = b ∧ (c < c' ∨ (c = c' ∧ d ≤ d'))
 ·obtain ⟨rfl,e⟩:=e; exact k c' d' h2 h3 e
 ·exact h b' c' d' h1 h2 h3 (by omega)
def RtK (k4 k5:Bool) (Q:Nat → Bool) (N:Nat) (cs:Nat → Int) (v:Nat):Prop :=
 match k4,k5 with
 | true,_ => RtS Q N cs v
 | false,true => RtA Q N cs v
 | false,false => RtN Q N cs v
theorem RtK.n {k4 k5:Bool} {Q:Nat → Bool} {N:Nat} {cs:Nat → Int} {v:Nat} (h:RtK k4 k5 Q N cs v):RtN Q N cs v:=by
 cases k4
 ·cases k5
  ·exact h
  ·exact h.1
 ·exact h.1
def isZ16 (v:Value):Bool:=match v with
 | .int .i16 x => x == 0
 | _ => false
theorem isZ16_of {v:Value} (h:isZ16 v = true):v = .int .i16 0:=by
 unfold isZ16 at h
 split at h
 ·rename_i x
  have:x = 0:=by simpa using h
  rw [this]
 ·cases h
theorem zc_tail:(Tryz.zeroCells123.toList.drop 16).all isZ16 = true:=by kernel_rfl
theorem zc_at (e:Nat) (he:e < 16384):Tryz.zeroCells123[16 + e]? = some (.int .i16 0):=by
 have hs:Tryz.zeroCells123.size = 16400:=by kernel_rfl
 have hl:16 + e < Tryz.zeroCells123.size:=by omega
 rw [Array.getElem?_eq_getElem hl]
 congr 1
 refine isZ16_of (List.all_eq_true.1 zc_tail _ ?_)
 rw [List.mem_iff_getElem]
 refine ⟨e,by simp; omega,by simp⟩
theorem brush_back (x0 x1 x2 x3 x4 x5 x6 x7 x8 x9 xa xb xc xd xe xf:Value) (e:Nat) (he:e < 16384):((((((((((((((((Tryz.zeroCells123.setIfInBounds 0 x0).setIfInBounds 1 x1).setIfInBounds 2 x2).setIfInBounds 3 x3).setIfInBounds 4 x4).setIfInBounds 5 x5).setIfInBounds 6 x6).setIfInBounds 7 x7).setIfInBounds 8 x8).setIfInBounds 9 x9).setIfInBounds 10 xa).setIfInBounds 11 xb).setIfInBounds 12 xc).setIfInBounds 13 xd).setIfInBounds 14 xe).setIfInBounds 15 xf)[16 + e]? = some (.int .i16 0):=by
 rw [Array.getElem?_setIfInBounds_ne (by omega),Array.getElem?_setIfInBounds_ne (by omega),Array.getElem?_setIfInBounds_ne (by omega),Array.getElem?_setIfInBounds_ne (by omega),Array.getElem?_setIfInBounds_ne (by omega),Array.getElem?_setIfInBounds_ne (by omega),Array.getElem?_setIfInBounds_ne (by omega),Array.getElem?_setIfInBounds_ne (by omega),Array.getElem?_setIfInBounds_ne (by omega),Array.getElem?_setIfInBounds_ne (by omega),Array.getElem?_setIfInBounds_ne (by omega),Array.getElem?_setIfInBounds_ne (by omega),Array.getElem?_setIfInBounds_ne (by omega),Array.getElem?_setIfInBounds_ne (by omega),Array.getElem?_setIfInBounds_ne (by omega),Array.getElem?_setIfInBounds_ne (by omega)]
 exact zc_at e he
theorem RoF.made (w:World) (A:Array Value) (t:TypeId) (h:∀ e,e < 16384 → A[16 + e]? = some (.int .i16 0)):RoF (w.alloc (.cells A t)) w.heap.size 16 (fun _ => 0):=by
 intro e he
 have hq:=h e he
 exact ⟨by simp [hq],by simp⟩
set_option maxRecDepth 100000 in
set_option maxHeartbeats 16000000 in
theorem cnewBrush_arr (f0 f1 f2 f3:Value) (wd:Bool) (Rp width R:Nat) (a1 a2 b1 b2:Option Addr) (n1 c1 n2 c2 m1 d1 m2 d2:Nat) (w:World) (hR:R ≤ 128) :
  Calls Tryz.prog 35 #[.agg #[f0,f1,f2,f3,.bool wd,.int .i64 (Rp:Int),.int .i64 (width:Int),.slice a1 n1 c1,.slice a2 n2 c2,.int .i64 (R:Int),.int .i64 (R:Int),.slice b1 m1 d1,.slice b2 m2 d2]] w fun e w' => ∃ X g h,e = .returned (.pointer (some ⟨X,0,none⟩)) ∧ BoxP w' X (bruM f0 f1 f2 f3 wd Rp width R a1 n1 c1 a2 n2 c2 b1 m1 d1 b2 m2 d2 g h 1) ∧ RoV w' g R (fun _ => .int .i64 (-1)) ∧ RoV w' h R (fun _ => .int .i64 0) ∧ (w.heap.size ≤ g ∧ g < h ∧ h < X) ∧ Below w.heap.size w w' ∧ RoF w' X 16 (fun _ => 0):=by
 obtain ⟨wb,hwb⟩:∃ x,w.alloc (.cells #[f0,f1,f2,f3,.bool wd,.int .i64 (Rp:Int),.int .i64 (width:Int),.slice a1 n1 c1,.slice a2 n2 c2,.int .i64 (R:Int),.int .i64 (R:Int),.slice b1 m1 d1,.slice b2 m2 d2] 80) = x:=⟨_,rfl⟩
 have bb:Below w.heap.size w wb:=by rw [← hwb]; exact bAl
 have hT:=BoxP.made w #[f0,f1,f2,f3,.bool wd,.int .i64 (Rp:Int),.int .i64 (width:Int),.slice a1 n1 c1,.slice a2 n2 c2,.int .i64 (R:Int),.int .i64 (R:Int),.slice b1 m1 d1,.slice b2 m2 d2] 80
 rw [hwb] at hT
 have p0:=(hT.all 0 _ rfl).1
 have p1:=(hT.all 1 _ rfl).1
 have p2:=(hT.all 2 _ rfl).1
 have p3:=(hT.all 3 _ rfl).1
 have p4:=(hT.all 4 _ rfl).1
 have p5:=(hT.all 5 _ rfl).1
 have p6:=(hT.all 6 _ rfl).1
 have p7:=(hT.all 7 _ rfl).1
 have p8:=(hT.all 8 _ rfl).1
 have p9:=(hT.all 9 _ rfl).1
 have p10:=(hT.all 10 _ rfl).1
 have p11:=(hT.all 11 _ rfl).1
 have p12:=(hT.all 12 _ rfl).1
 have HT:=Hj hT
 have HB:=Hj bb
 clear hT bb
 go_enter Tryz.func35,Tryz.ntmps35
 go_wp2_with fail
 go_region_held3 (fun w' => w'.cell? ⟨w.heap.size,0,none⟩ = some (f0) ∧ w'.cell? ⟨w.heap.size,1,none⟩ = some (f1) ∧ w'.cell? ⟨w.heap.size,2,none⟩ = some (f2) ∧ w'.cell? ⟨w.heap.size,3,none⟩ = some (f3) ∧ w'.cell? ⟨w.heap.size,4,none⟩ = some (.bool wd) ∧ w'.cell? ⟨w.heap.size,5,none⟩ = some (.int .i64 (Rp:Int)) ∧ w'.cell? ⟨w.heap.size,6,none⟩ = some (.int .i64 (width:Int)) ∧ w'.cell? ⟨w.heap.size,7,none⟩ = some (.slice a1 n1 c1) ∧ w'.cell? ⟨w.heap.size,8,none⟩ = some (.slice a2 n2 c2) ∧ w'.cell? ⟨w.heap.size,9,none⟩ = some (.int .i64 (R:Int)) ∧ w'.cell? ⟨w.heap.size,10,none⟩ = some (.int .i64 (R:Int)) ∧ w'.cell? ⟨w.heap.size,11,none⟩ = some (.slice b1 m1 d1) ∧ w'.cell? ⟨w.heap.size,12,none⟩ = some (.slice b2 m2 d2)) (first | (exact ⟨k0,k1,k2,k3,k4,k5,k6,k7,k8,k9,k10,k11,k12⟩) | go_keep)
  (first
   | (go_at_call 64; refine (srepeat_any ⟨wb.heap.size,0,none⟩ 1 (-1) R _ hR (by simp)).mono ?_; rintro _ w3 ⟨g,hgn,rfl,hgb,b3⟩; have bw3:Below wb.heap.size wb w3:=((bAl).drew).trans (b3.mono (by simp)); have hT3:=(Uh HT).below bw3; have k0:=(hT3.all 0 _ rfl).1; have k1:=(hT3.all 1 _ rfl).1; have k2:=(hT3.all 2 _ rfl).1; have k3:=(hT3.all 3 _ rfl).1; have k4:=(hT3.all 4 _ rfl).1; have k5:=(hT3.all 5 _ rfl).1; have k6:=(hT3.all 6 _ rfl).1; have k7:=(hT3.all 7 _ rfl).1; have k8:=(hT3.all 8 _ rfl).1; have k9:=(hT3.all 9 _ rfl).1; have k10:=(hT3.all 10 _ rfl).1; have k11:=(hT3.all 11 _ rfl).1; have k12:=(hT3.all 12 _ rfl).1; have HB3:=Hj bw3; have HGB:=Hj (And.intro hgb (show wb.heap.size ≤ g by simp at hgn; omega)); have HT3:=Hj hT3; clear hgb b3 bw3 hT3 hgn)
   | (go_at_call 65; refine (cmarksOf_any R _ hR).mono ?_; rintro _ w4 ⟨h,hhn,rfl,hhr,hhl,b4⟩; clear k0 k1 k2 k3 k4 k5 k6 k7 k8 k9 k10 k11 k12; have hT4:=(Uh HT3).below b4; have k0:=(hT4.all 0 _ rfl).1; have k1:=(hT4.all 1 _ rfl).1; have k2:=(hT4.all 2 _ rfl).1; have k3:=(hT4.all 3 _ rfl).1; have k4:=(hT4.all 4 _ rfl).1; have k5:=(hT4.all 5 _ rfl).1; have k6:=(hT4.all 6 _ rfl).1; have k7:=(hT4.all 7 _ rfl).1; have k8:=(hT4.all 8 _ rfl).1; have k9:=(hT4.all 9 _ rfl).1; have k10:=(hT4.all 10 _ rfl).1; have k11:=(hT4.all 11 _ rfl).1; have k12:=(hT4.all 12 _ rfl).1; have HB4:=Hj b4; have HHR:=Hj (And.intro hhr (And.intro hhn hhl)); clear hhr hhn hhl b4 hT4))
 clear k0 k1 k2 k3 k4 k5 k6 k7 k8 k9 k10 k11 k12
 have hbx:=BoxP.front w4 _ 123 (bruM f0 f1 f2 f3 wd Rp width R a1 n1 c1 a2 n2 c2 b1 m1 d1 b2 m2 d2 g h 1) (by simp only [Array.size_setIfInBounds]; have:=zc_brush; omega) (fun k v hk => brush_front f0 f1 f2 f3 (.bool wd) (.int .i64 (Rp:Int)) (.int .i64 (width:Int)) (.slice a1 n1 c1) (.slice a2 n2 c2) (.int .i64 (R:Int)) (.int .i64 (R:Int)) (.slice b1 m1 d1) (.slice b2 m2 d2) (.slice (some ⟨g,0,none⟩) R R) (.int .i64 1) (.slice (some ⟨h,0,none⟩) R R) k v hk)
 have hba:=RoF.made w4 _ 123 (brush_back f0 f1 f2 f3 (.bool wd) (.int .i64 (Rp:Int)) (.int .i64 (width:Int)) (.slice a1 n1 c1) (.slice a2 n2 c2) (.int .i64 (R:Int)) (.int .i64 (R:Int)) (.slice b1 m1 d1) (.slice b2 m2 d2) (.slice (some ⟨g,0,none⟩) R R) (.int .i64 1) (.slice (some ⟨h,0,none⟩) R R))
 generalize hZ:((((((((((((((((Tryz.zeroCells123.setIfInBounds 0 f0).setIfInBounds 1 f1).setIfInBounds 2 f2).setIfInBounds 3 f3).setIfInBounds 4 (Value.bool wd)).setIfInBounds 5 (Value.int IntKind.i64 (Rp:Int))).setIfInBounds 6 (Value.int IntKind.i64 (width:Int))).setIfInBounds 7 (Value.slice a1 n1 c1)).setIfInBounds 8 (Value.slice a2 n2 c2)).setIfInBounds 9 (Value.int IntKind.i64 (R:Int))).setIfInBounds 10 (Value.int IntKind.i64 (R:Int))).setIfInBounds 11 (Value.slice b1 m1 d1)).setIfInBounds 12 (Value.slice b2 m2 d2)).setIfInBounds 13 (Value.slice (some ⟨g,0,none⟩) R R)).setIfInBounds 14 (Value.int IntKind.i64 1)).setIfInBounds 15 (Value.slice (some ⟨h,0,none⟩) R R)) = ZZ at *
 have HX:=Hj hbx
 have HBA:=Hj hba
 clear hbx hba hZ
 go_wp2_with fail
 try go_ret
 have b4a:Below w4.heap.size w4 (w4.alloc (.cells ZZ 123)):=bAl
 have h3:=(Uh HB).trans ((Uh HB3).mono (Uh HB).size)
 have h4:=h3.trans ((Uh HB4).mono h3.size)
 have hg3:=(Array.getElem?_eq_some_iff.1 (Uh HGB).1).1
 have hh:=(Uh HHR).2
 refine ⟨w4.heap.size,g,h,rfl,Uh HX,((RoV.rep (Uh HGB).1).below (Uh HB4)).below b4a,(Uh HHR).1.below b4a,⟨?_,?_,hh.2⟩,h4.trans (b4a.mono h4.size),Uh HBA⟩
 ·have:=(Uh HGB).2; have:=(Uh HB).size; omega
 ·omega
set_option maxRecDepth 100000 in
set_option maxHeartbeats 16000000 in
theorem cGreedy_ac (k:Int) (G G1 G3:Nat) (wd:Bool) (R width m:Nat) (S C:List Int) (a:Option Addr) (n c:Nat) (xs:List Int) (a1 a2:Option Addr) (n1 c1 n2 c2:Nat) (st cols:List Int) (w:World) (h1:SlI w a1 n1 c1 st) (h2:SlI w a2 n2 c2 cols) (h3:SlI w a n c xs) (hn:n ≤ 17592186044000) (hbs:S.length ≤ 17592186044000) (hbc:C.length ≤ 17592186044000) (hm:MayP (m:Int) (m:Int) S C) (hg:GraP S C m m) (hT:∀ W,SlI W a1 n1 c1 st → SlI W a2 n2 c2 cols → Calls Tryz.prog 34 #[.int .i64 k,patV (R:Int) (width:Int) a1 n1 c1 a2 n2 c2] W fun e w' => TkP W w' e G G1 104 G3 wd R width a1 n1 c1 a2 n2 c2 m S C) :
  Calls Tryz.prog 18 #[.int .i64 k,patV (R:Int) (width:Int) a1 n1 c1 a2 n2 c2,.slice a n c] w fun e w' => GrB xs m (PntA S C m xs m) w w' e:=by
 have hm8:m ≤ 128:=by have:=hm.head.fit; omega
 obtain ⟨ok,hok⟩:=truth (IsOrd xs m)
 obtain ⟨wb,hwb⟩:∃ x,w.alloc (.cells #[.int .i64 (R:Int),.int .i64 (width:Int),.slice a1 n1 c1,.slice a2 n2 c2] 25) = x:=⟨_,rfl⟩
 have bb:Below w.heap.size w wb:=by rw [← hwb]; exact bAl
 have hT0:=BoxP.made w #[.int .i64 (R:Int),.int .i64 (width:Int),.slice a1 n1 c1,.slice a2 n2 c2] 25
 rw [hwb] at hT0
 have p0:=(hT0.all 0 _ rfl).1
 have p1:=(hT0.all 1 _ rfl).1
 have p2:=(hT0.all 2 _ rfl).1
 have p3:=(hT0.all 3 _ rfl).1
 have KT:=Hj (hT wb (h1.below bb) (h2.below bb))
 unfold patV at KT
 have HB:=Hj bb
 have HT0:=Hj hT0
 have HX:=Hj h3
 have HM:=Hj hm
 have HG9:=Hj hg
 have HOK:=Hj (show TruQ ok (IsOrd xs m) from hok)
 clear hT0 bb h1 h2 hT h3 hm hok hg
 unfold patV
 go_enter Tryz.func18,Tryz.ntmps18
 go_wp2_with fail
 refine (Uh KT).mono ?_
 rintro _ w2 ⟨x,d,y,z,rfl,hS2,hC2,b2⟩
 unfold tkV
 clear p0 p1 p2 p3 KT
 try dsimp only
 repeat ((fail_if_success (with_reducible (show Code.wp _ _ _ _ (World.alloc w2 (Obj.cells #[_,_,_,_,_,_,_,_,_,_,_,_,.slice y C.length z] _))))); (first | go_values | go_skip | go_guarded | go_step | go_upon | go_back))
 have hR:=BoxP.made w2 #[(.func (.func G) #[] #[]),(.func (.func G1) #[] #[]),(.func (.func 104) #[] #[]),(.func (.func G3) #[] #[]),(.bool wd),.int .i64 (R:Int),.int .i64 (width:Int),.slice a1 n1 c1,.slice a2 n2 c2,.int .i64 (m:Int),.int .i64 (m:Int),.slice x S.length d,.slice y C.length z] 80
 have br:Below w2.heap.size w2 (w2.alloc (.cells #[(.func (.func G) #[] #[]),(.func (.func G1) #[] #[]),(.func (.func 104) #[] #[]),(.func (.func G3) #[] #[]),(.bool wd),.int .i64 (R:Int),.int .i64 (width:Int),.slice a1 n1 c1,.slice a2 n2 c2,.int .i64 (m:Int),.int .i64 (m:Int),.slice x S.length d,.slice y C.length z] 80)):=bAl
 have hb3:=((Uh HB).trans (b2.mono (Uh HB).size)).trans (br.mono (Nat.le_trans (Uh HB).size b2.size))
 have HSC:=Hj (And.intro (hS2.below br) (hC2.below br))
 have HT3:=Hj (((Uh HT0).below b2).below br)
 clear b2 br hS2 hC2
 generalize w2.alloc (.cells #[(.func (.func G) #[] #[]),(.func (.func G1) #[] #[]),(.func (.func 104) #[] #[]),(.func (.func G3) #[] #[]),(.bool wd),.int .i64 (R:Int),.int .i64 (width:Int),.slice a1 n1 c1,.slice a2 n2 c2,.int .i64 (m:Int),.int .i64 (m:Int),.slice x S.length d,.slice y C.length z] 80) = w3 at *
 have s0:=(hR.all 0 _ rfl).1
 have s1:=(hR.all 1 _ rfl).1
 have s2:=(hR.all 2 _ rfl).1
 have s3:=(hR.all 3 _ rfl).1
 have s4:=(hR.all 4 _ rfl).1
 have s5:=(hR.all 5 _ rfl).1
 have s6:=(hR.all 6 _ rfl).1
 have s7:=(hR.all 7 _ rfl).1
 have s8:=(hR.all 8 _ rfl).1
 have s9:=(hR.all 9 _ rfl).1
 have s10:=(hR.all 10 _ rfl).1
 have s11:=(hR.all 11 _ rfl).1
 have s12:=(hR.all 12 _ rfl).1
 have HB3:=Hj hb3
 have HR:=Hj hR
 have KO:=Hj (cisOrder_any a n c xs m w3 ((Uh HX).below hb3) (by omega) hm8 ok (Uh HOK))
 clear hR hb3
 go_wp2_with fail
 refine (Uh KO).mono ?_
 rintro _ w4 ⟨rfl,b4⟩
 have hR4:=(Uh HR).below b4
 have hb4:=(Uh HB3).trans (b4.mono (Uh HB3).size)
 have HSC4:=Hj (And.intro ((Uh HSC).1.below b4) ((Uh HSC).2.below b4))
 have HB4:=Hj hb4
 clear KO b4 s0 s1 s2 s3 s4 s5 s6 s7 s8 s9 s10 s11 s12
 have s0:=(hR4.all 0 _ rfl).1
 have s1:=(hR4.all 1 _ rfl).1
 have s2:=(hR4.all 2 _ rfl).1
 have s3:=(hR4.all 3 _ rfl).1
 have s4:=(hR4.all 4 _ rfl).1
 have s5:=(hR4.all 5 _ rfl).1
 have s6:=(hR4.all 6 _ rfl).1
 have s7:=(hR4.all 7 _ rfl).1
 have s8:=(hR4.all 8 _ rfl).1
 have s9:=(hR4.all 9 _ rfl).1
 have s10:=(hR4.all 10 _ rfl).1
 have s11:=(hR4.all 11 _ rfl).1
 have s12:=(hR4.all 12 _ rfl).1
 cases ok
 ·clear hR4 hb4
  go_wp2_with fail
  refine bodyPost_ret (by simp [results,Tryz.results18,go_sem]; try rfl) rfl ?_
  exact ⟨Uh HB4,fun ho => absurd (Iff.mpr (Uh HOK) ho) (by decide),fun _ => rfl⟩
 ·have ho:IsOrd xs m:=Iff.mp (Uh HOK) rfl
  have hnm:n = m:=by have:=(Uh HX).len; have:=ho.1; omega
  subst hnm
  have HO:=Hj ho
  clear hR4 hb4 ho
  go_wp2_with fail
  refine (cnewBrush_arr _ _ _ _ wd R width n a1 a2 x y n1 c1 n2 c2 S.length d C.length z w4 hm8).mono ?_
  rintro _ w5 ⟨X,g,h,rfl,hX,hg5,hh5,hlt5,b5,hA5⟩
  have hs1:=(Uh HSC4).1
  have hs2:=(Uh HSC4).2
  have hs3:=(Uh HX).below (Uh HB4)
  have hBr:BrI w5 X n _ x S.length d y C.length z g h 1 (fun _ => -1) (fun _ => 0) S C:=⟨hX,rfl,rfl,rfl,rfl,rfl,rfl,rfl,hg5,hh5,hs1.below b5,hs2.below b5,fun t ht hne => by have:=hs1.block_lt hne t ht; omega,fun t ht hne => by have:=hs2.block_lt hne t ht; omega,by omega⟩
  have KP:=Hj (cpaint_ac X n _ x S.length d y C.length z g h (fun _ => 0) S C a n c xs w5 hBr (Uh HM) hbs hbc (fun j _ => by omega) rfl (hs3.below b5) (Nat.le_refl _) (Uh HO).2.rng (fun t ht hne => by have:=hs3.block_lt hne t ht; omega) (by simp [bruM]) ⟨_,hA5⟩ (Uh HG9))
  have HB5:=Hj ((Uh HB4).trans (b5.mono (Uh HB4).size))
  have HLT:=Hj (And.intro (Uh HB4).size hlt5)
  clear hX hg5 hh5 hlt5 hA5 b5 hs1 hs2 hs3 hBr s0 s1 s2 s3 s4 s5 s6 s7 s8 s9 s10 s11 s12
  go_wp2_with fail
  refine (Uh KP).mono ?_
  rintro _ w6 ⟨cs,hP⟩
  have e6:=hP.ret
  subst e6
  have hrg:=PntA.rng (Uh HM) (Uh HG9) (Uh HO).2.rng (Nat.le_refl _) hP.pnt
  have KN:=Hj (cnumber_any (some ⟨g,0,none⟩) n n (csL cs n) w6 (hP.row.sli hm8) hm8 (fun i hi => by rw [csL_get hi]; have:=hrg i; omega) (fun e => by cases e))
  have HP:=Hj hP
  have HRG:=Hj hrg
  clear KP hP hrg
  go_wp2_with fail
  refine (Uh KN).mono ?_
  rintro _ w7 ⟨zi,rfl,hN,b7⟩
  obtain ⟨hz0,hzk,_⟩:=numC_rng hN (fun i _ => Uh HRG i)
  obtain ⟨zn,rfl⟩:∃ zn:Nat,zi = (zn:Int):=⟨zi.toNat,by omega⟩
  have HA:=Hj (show GrB xs n (PntA S C n xs n) w w7 (.returned (.tuple #[.slice (some ⟨g,0,none⟩) n n,.int .i64 (zn:Int),.int .i64 0])) from
   ⟨(Uh HB5).trans (((Uh HP).chg.below (Uh HB5).size (fun j hj e => by have:=Uh HLT; omega)).trans (b7.mono (Nat.le_trans (Uh HB5).size (Uh HP).chg.size))),fun _ => ⟨g,cs,zn,rfl,(Uh HP).pnt,hN,(Uh HP).row.below b7,by have:=Uh HLT; omega⟩,fun hno => absurd (Uh HO) hno⟩)
  clear KN hN b7 hz0 hzk
  go_wp2_with fail
  refine bodyPost_ret (by simp [results,Tryz.results18,go_sem]; try rfl) rfl ?_
  exact Uh HA

theorem grS_get {P:Nat → Nat → Prop} {n:Nat}:∀ k i,i ≤ k → (grS P n k).getD i 0 = ((grC P n i).length:Int)
 | 0,i,hi => by rw [show i = 0 by omega]; rfl
 | k + 1,i,hi => by
  simp only [grS]
  by_cases e:i = k + 1
  ·subst e
   rw [List.getD,List.getElem?_append_right (by rw [grS_len]; omega),grS_len]
   simp
  ·rw [List.getD,List.getElem?_append_left (by rw [grS_len]; omega)]
   exact grS_get k i (by omega)
theorem grC_split {P:Nat → Nat → Prop} {n v:Nat}:∀ k,v < k → ∃ r,grC P n k = grC P n v ++ (grR P v n ++ r)
 | 0,h => absurd h (Nat.not_lt_zero _)
 | k + 1,h => by
  by_cases e:v = k
  ·subst e; exact ⟨[],by simp [grC]⟩
  ·obtain ⟨r,hr⟩:=grC_split (P:=P) (n:=n) (v:=v) k (by omega)
   exact ⟨r ++ grR P k n,by simp only [grC]; rw [hr]; simp⟩
theorem rowL_gr {P:Nat → Nat → Prop} {n v k:Nat} (h:v < k):rowL (grS P n k) (grC P n k) v = grR P v n:=by
 unfold rowL
 rw [grS_get k v (by omega),grS_get k (v + 1) (by omega)]
 obtain ⟨r,hr⟩:=grC_split (P:=P) (n:=n) k h
 rw [hr]
 simp only [grC,List.length_append]
 rw [show ((((grC P n v).length:Nat):Int)).toNat = (grC P n v).length by omega,show (((((grC P n v).length + (grR P v n).length:Nat)):Int)).toNat = (grC P n v).length + (grR P v n).length by omega]
 rw [List.drop_left,show (grC P n v).length + (grR P v n).length - (grC P n v).length = (grR P v n).length by omega,List.take_left]
theorem grR_ok {P:Nat → Nat → Prop} {u:Nat}:∀ k,(∀ i,i < (grR P u k).length → 0 ≤ (grR P u k).getD i 0 ∧ (grR P u k).getD i 0 < (k:Int)) ∧ (∀ i,0 < i → i < (grR P u k).length → (grR P u k).getD (i - 1) 0 < (grR P u k).getD i 0)
 | 0 => ⟨fun i hi => absurd hi (Nat.not_lt_zero _),fun i _ hi => absurd hi (Nat.not_lt_zero _)⟩
 | k + 1 => by
  obtain ⟨h1,h2⟩:=grR_ok (P:=P) (u:=u) k
  by_cases c:P u k
  ·have e:grR P u (k + 1) = grR P u k ++ [(k:Int)]:=by simp [grR,tb_yes c]
   rw [e]
   have gl:∀ i,i < (grR P u k).length → (grR P u k ++ [(k:Int)]).getD i 0 = (grR P u k).getD i 0:=fun i hi => by rw [List.getD,List.getElem?_append_left hi]; rfl
   have gr:(grR P u k ++ [(k:Int)]).getD (grR P u k).length 0 = (k:Int):=by simp [List.getD]
   refine ⟨fun i hi => ?_,fun i h0 hi => ?_⟩
   ·by_cases q:i = (grR P u k).length
    ·rw [q,gr]; omega
    ·have hi':i < (grR P u k).length:=by simp at hi; omega
     rw [gl i hi']
     have:=h1 i hi'
     omega
   ·by_cases q:i = (grR P u k).length
    ·rw [q,gr,gl _ (by omega)]
     exact (h1 _ (by omega)).2
    ·have hi':i < (grR P u k).length:=by simp at hi; omega
     rw [gl i hi',gl _ (by omega)]
     exact h2 i h0 hi'
  ·have e:grR P u (k + 1) = grR P u k:=by simp [grR,tb_no c]
   rw [e]
   exact ⟨fun i hi => by have:=h1 i hi; omega,h2⟩
theorem grC_get {P:Nat → Nat → Prop} {n v k i:Nat} (h:v < k) (hi:i < (grR P v n).length):(grC P n k).getD ((grC P n v).length + i) 0 = (grR P v n).getD i 0:=by
 obtain ⟨r,hr⟩:=grC_split (P:=P) (n:=n) k h
 rw [hr,List.getD,List.getElem?_append_right (by omega),show (grC P n v).length + i - (grC P n v).length = i by omega,List.getElem?_append_left hi]
 rfl
theorem may_gr {P:Nat → Nat → Prop} {n:Nat} (hn:n ≤ 128):MayP (n:Int) (n:Int) (grS P n n) (grC P n n):=by
 refine ⟨⟨by omega,by rw [grS_len]; omega,by rw [grS_get n 0 (by omega)]; rfl,by rw [show ((n:Int)).toNat = n by omega]; exact grS_get n n (Nat.le_refl _)⟩,fun i _ hi => ?_,fun r hr => ?_⟩
 ·rw [grS_len] at hi
  rw [grS_get n i (by omega),grS_get n (i + 1) (by omega)]
  simp only [grC,List.length_append]
  omega
 ·rw [grS_len] at hr
  rw [grS_get n r (by omega),grS_get n (r + 1) (by omega)]
  simp only [grC,List.length_append]
  obtain ⟨h1,h2⟩:=grR_ok (P:=P) (u:=r) n
  refine ⟨fun i a b => ?_,fun i a b => ?_⟩
  ·obtain ⟨j,rfl⟩:∃ j,i = (grC P n r).length + j:=⟨i - (grC P n r).length,by omega⟩
   rw [grC_get (by omega) (by omega)]
   exact h1 j (by omega)
  ·obtain ⟨j,rfl⟩:∃ j,i = (grC P n r).length + j:=⟨i - (grC P n r).length,by omega⟩
   rw [show (grC P n r).length + j - 1 = (grC P n r).length + (j - 1) by omega,grC_get (by omega) (by omega),grC_get (by omega) (by omega)]
   exact h2 j (by omega) (by omega)
theorem mem_gr {P:Nat → Nat → Prop} {n u v:Nat} (hv:v < n) (hu:u < n):((u:Int) ∈ rowL (grS P n n) (grC P n n) v) ↔ P v u:=by
 rw [rowL_gr hv,grR_mem]
 constructor
 ·rintro ⟨j,_,e,h⟩
  rw [show u = j by omega]; exact h
 ·intro h
  exact ⟨u,hu,rfl,h⟩
theorem rise_len {P:Nat → Prop}:∀ (k:Nat) (L:List Int),(∀ i,i < L.length → 0 ≤ L.getD i 0 ∧ L.getD i 0 < (k:Int)) → (∀ i,0 < i → i < L.length → L.getD (i - 1) 0 < L.getD i 0) → (∀ c:Nat,c < k → ((c:Int) ∈ L ↔ P c)) → L.length = cnP P k
 | 0,L,h1,_,_ => by
  cases L with
  | nil => rfl
  | cons x l => have:=h1 0 (by simp); simp at this; omega
 | k + 1,L,h1,h2,h3 => by
  have hmono:∀ d i,i + d < L.length → L.getD i 0 + (d:Int) ≤ L.getD (i + d) 0:=by
   intro d
   induction d with
   | zero => intro i hi; simp
   | succ d ih =>
    intro i hi
    have a:=ih i (by omega)
    have b:=h2 (i + (d + 1)) (by omega) hi
    rw [show i + (d + 1) - 1 = i + d by omega] at b
    omega
  by_cases c:P k
  ·obtain ⟨p,hp,e⟩:=mem_getD.1 ((h3 k (by omega)).2 c)
   have hlast:p + 1 = L.length:=by
    rcases Nat.lt_or_ge (p + 1) L.length with q | q
    ·have a:=hmono 1 p q
     have b:=h1 (p + 1) q
     omega
    ·omega
   have hd:L.dropLast.length = p:=by rw [List.length_dropLast]; omega
   have hg:∀ i,i < p → L.dropLast.getD i 0 = L.getD i 0:=fun i hi => by
    rw [List.dropLast_eq_take,List.getD,List.getElem?_take_of_lt (by omega)]
    rfl
   have ih:=rise_len (P:=P) k L.dropLast (fun i hi => by
    rw [hd] at hi
    rw [hg i hi]
    have a:=hmono (p - i) i (by omega)
    rw [show i + (p - i) = p by omega,e] at a
    have:=h1 i (by omega)
    omega) (fun i h0 hi => by
    rw [hd] at hi
    rw [hg i hi,hg (i - 1) (by omega)]
    exact h2 i h0 (by omega)) (fun d hdk => by
    rw [← h3 d (by omega),mem_getD,mem_getD]
    constructor
    ·rintro ⟨i,hi,ei⟩
     rw [hd] at hi
     exact ⟨i,by omega,by rw [← hg i hi]; exact ei⟩
    ·rintro ⟨i,hi,ei⟩
     have hip:i ≠ p:=fun q => by rw [q,e] at ei; omega
     exact ⟨i,by rw [hd]; omega,by rw [hg i (by omega)]; exact ei⟩)
   rw [cnP_yes c,← ih,hd]
   omega
  ·rw [cnP_no c]
   refine rise_len k L (fun i hi => ?_) h2 (fun d hd => h3 d (by omega))
   have:=h1 i hi
   have hne:L.getD i 0 ≠ (k:Int):=fun q => c ((h3 k (by omega)).1 (mem_getD.2 ⟨i,hi,q⟩))
   omega
theorem rowL_cnP {R width:Nat} {st cols:List Int} (hm:MayP (R:Int) (width:Int) st cols) {r:Nat} (hr:r < R):(rowL st cols r).length = cnP (fun c => InC st cols c r) width:=by
 obtain ⟨X,Y,hR⟩:=hm.rowAt (k:=r) (by omega)
 have hl:rowL st cols r = (cols.drop X).take (Y - X):=by
  unfold rowL
  rw [hR.hX,hR.hY]
  simp
 have hlen:(rowL st cols r).length = Y - X:=by
  rw [hl,List.length_take,List.length_drop]
  have:=hR.lt
  omega
 have hg:∀ i,i < Y - X → (rowL st cols r).getD i 0 = cols.getD (X + i) 0:=fun i hi => by
  rw [hl,List.getD,List.getElem?_take_of_lt hi,List.getElem?_drop]
  rfl
 refine rise_len width _ (fun i hi => ?_) (fun i h0 hi => ?_) (fun c hc => rowL_mem hm hr)
 ·rw [hlen] at hi
  rw [hg i hi]
  exact hR.row.rng (X + i) (by omega) (by omega)
 ·rw [hlen] at hi
  rw [hg i hi,hg (i - 1) (by omega)]
  have:=hR.row.up (X + i) (by omega) (by omega)
  rw [show X + i - 1 = X + (i - 1) by omega] at this
  exact this
theorem grR_cnP {P:Nat → Nat → Prop} {u:Nat}:∀ k,(grR P u k).length = cnP (fun j => P u j) k
 | 0 => rfl
 | k + 1 => by
  rw [cnP_next,← grR_cnP k]
  simp only [grR,List.length_append]
  split <;> simp
theorem LgT.congr {f g:Nat → Nat} {k y:Nat} (h:LgT f k y) (e:∀ i,i < k → f i = g i):LgT g k y :=
 ⟨fun i hi => by rw [← e i hi]; exact h.le i hi,h.at_.imp_right (fun ⟨i,hi,q⟩ => ⟨i,hi,by rw [← e i hi]; exact q⟩)⟩

theorem tgQ_of {w w':World} {e:Ending} {R m:Nat} {f:Nat → Bool} (h:TgP w w' e R m f):TgQ w w' e R m f:=by
 obtain ⟨b,_,e,r,k⟩:=h
 exact ⟨b,e,r,k⟩
end Go.Proofs.YtgjokididdffhaaGreat
