/- Ch4 -/
import Derived.Test.YtgjokididdffhaaGreatCh2
import Derived.Test.YtgjokididdffhaaGreatCh3
import Derived.Test.YtgjokididdffhaaGreatChd
namespace Go.Proofs.YtgjokididdffhaaGreat
open Go.RowKit Go.Deep
set_option linter.unusedVariables false
set_option maxRecDepth 100000 in
set_option maxHeartbeats 8000000 in
theorem cmarksOf_any (n:Nat) (w:World) (hn:n ≤ 128) :
  Calls Tryz.prog 65 #[.int .i64 (n:Int)] w fun e w' => ∃ g,w.heap.size ≤ g ∧ e = .returned (.agg #[.int .i64 1,.slice (some ⟨g,0,none⟩) n n]) ∧ RoV w' g n (fun _ => .int .i64 0) ∧ g < w'.heap.size ∧ Below w.heap.size w w':=by
 have hO0:=BoxP.made w #[.int .i64 0,.slice none 0 0] 117
 obtain ⟨wo,hwo⟩:∃ x,w.alloc (.cells #[.int .i64 0,.slice none 0 0] 117) = x:=⟨_,rfl⟩
 have bo:Below w.heap.size w wo:=by rw [← hwo]; exact bAl
 rw [hwo] at hO0
 have hmk:=make_intsR n (by omega) wo
 have hR:=RoV.made wo n 3 (.int .i64 0)
 obtain ⟨wm,hwm⟩:∃ x,wo.alloc (.cells (madeCells #[.int .i64 0] n) 3) = x:=⟨_,rfl⟩
 have bm:Below wo.heap.size wo wm:=by rw [← hwm]; exact bAl
 have hgl:wo.heap.size < wm.heap.size:=by rw [← hwm]; simp
 rw [hwm] at hR hmk
 have hO:=hO0.below bm
 have q0:=(hO.all 0 _ rfl).1
 have q1:=(hO.all 1 _ rfl).1
 have r0:=(hO.all 0 _ rfl).2
 have r1:=(hO.all 1 _ rfl).2
 have HO:=Hj hO
 have HR:=Hj hR
 have HB:=Hj (bo.trans (bm.mono bo.size))
 have HL:=Hj (And.intro hO0.lt hgl)
 clear hO0 bo bm hR hO hgl
 go_enter Tryz.func65,Tryz.ntmps65
 go_wp2_with fail
 have hf:=((Uh HO).put 0 (.int .i64 1)).put 1 (.slice (some ⟨wo.heap.size,0,none⟩) n n)
 have t0:=(hf.all 0 _ rfl).1
 have t1:=(hf.all 1 _ rfl).1
 have cc:Chg (fun j => j = w.heap.size) wm ((wm.setCell ⟨w.heap.size,0,none⟩ (.int .i64 1)).setCell ⟨w.heap.size,1,none⟩ (.slice (some ⟨wo.heap.size,0,none⟩) n n)):=(Chg.of_set (S:=fun j => j = w.heap.size) _ _ _ _ rfl).trans (Chg.of_set (S:=fun j => j = w.heap.size) _ _ _ _ rfl)
 generalize (wm.setCell ⟨w.heap.size,0,none⟩ (.int .i64 1)).setCell ⟨w.heap.size,1,none⟩ (.slice (some ⟨wo.heap.size,0,none⟩) n n) = wf at *
 refine bodyPost_ret (by simp [results,Tryz.results65,go_sem,t0,t1]; try rfl) rfl ?_
 have hl:=Uh HL
 exact ⟨wo.heap.size,by omega,rfl,(Uh HR).chg cc (by omega),Nat.lt_of_lt_of_le hl.2 cc.size,(Uh HB).trans (cc.below (Uh HB).size (fun j hj e => by omega))⟩
theorem BoxP.front (w:World) (A:Array Value) (t:TypeId) (vs:List Value) (h0:0 < A.size) (h:∀ (k:Nat) (v:Value),vs[k]? = some v → A[k]? = some v):BoxP (w.alloc (.cells A t)) w.heap.size vs:=by
 refine ⟨fun q u hq => ?_,by simp⟩
 have hq':=h q u hq
 exact ⟨by simp [hq'],by simp⟩
theorem zc_brush:15 < Tryz.zeroCells123.size:=by
 have h:Tryz.zeroCells123[15]? = some (.slice none 0 0):=by kernel_rfl
 exact (Array.getElem?_eq_some_iff.1 h).1
theorem brush_front (x0 x1 x2 x3 x4 x5 x6 x7 x8 x9 xa xb xc xd xe xf:Value) (k:Nat) (v:Value) (hk:[x0,x1,x2,x3,x4,x5,x6,x7,x8,x9,xa,xb,xc,xd,xe,xf][k]? = some v):((((((((((((((((Tryz.zeroCells123.setIfInBounds 0 x0).setIfInBounds 1 x1).setIfInBounds 2 x2).setIfInBounds 3 x3).setIfInBounds 4 x4).setIfInBounds 5 x5).setIfInBounds 6 x6).setIfInBounds 7 x7).setIfInBounds 8 x8).setIfInBounds 9 x9).setIfInBounds 10 xa).setIfInBounds 11 xb).setIfInBounds 12 xc).setIfInBounds 13 xd).setIfInBounds 14 xe).setIfInBounds 15 xf)[k]? = some v:=by
 have hz:=zc_brush
 have hk16:k < 16:=by have:=(List.getElem?_eq_some_iff.1 hk).1; simpa using this
 simp only [Array.getElem?_setIfInBounds,Array.size_setIfInBounds]
 have hc:k = 0 ∨ k = 1 ∨ k = 2 ∨ k = 3 ∨ k = 4 ∨ k = 5 ∨ k = 6 ∨ k = 7 ∨ k = 8 ∨ k = 9 ∨ k = 10 ∨ k = 11 ∨ k = 12 ∨ k = 13 ∨ k = 14 ∨ k = 15:=by omega
 rcases hc with rfl | rfl | rfl | rfl | rfl | rfl | rfl | rfl | rfl | rfl | rfl | rfl | rfl | rfl | rfl | rfl <;> (simp at hk; subst hk; simp; try omega)
def bruL (f0 f1 f2 f3:Value) (wd:Bool) (R width:Nat) (a1:Option Addr) (n1 c1:Nat) (a2:Option Addr) (n2 c2:Nat) (b1:Option Addr) (m1 d1:Nat) (b2:Option Addr) (m2 d2:Nat) (g h cnt:Nat):List Value:=[f0,f1,f2,f3,.bool wd,.int .i64 (R:Int),.int .i64 (width:Int),.slice a1 n1 c1,.slice a2 n2 c2,.int .i64 (R:Int),.int .i64 (R:Int),.slice b1 m1 d1,.slice b2 m2 d2,.slice (some ⟨g,0,none⟩) R R,.int .i64 (cnt:Int),.slice (some ⟨h,0,none⟩) R R]
set_option maxRecDepth 100000 in
set_option maxHeartbeats 16000000 in
theorem cnewBrush_any (f0 f1 f2 f3:Value) (wd:Bool) (R width:Nat) (a1 a2 b1 b2:Option Addr) (n1 c1 n2 c2 m1 d1 m2 d2:Nat) (w:World) (hR:R ≤ 128) :
  Calls Tryz.prog 35 #[.agg #[f0,f1,f2,f3,.bool wd,.int .i64 (R:Int),.int .i64 (width:Int),.slice a1 n1 c1,.slice a2 n2 c2,.int .i64 (R:Int),.int .i64 (R:Int),.slice b1 m1 d1,.slice b2 m2 d2]] w fun e w' => ∃ X g h,e = .returned (.pointer (some ⟨X,0,none⟩)) ∧ BoxP w' X (bruL f0 f1 f2 f3 wd R width a1 n1 c1 a2 n2 c2 b1 m1 d1 b2 m2 d2 g h 1) ∧ RoV w' g R (fun _ => .int .i64 (-1)) ∧ RoV w' h R (fun _ => .int .i64 0) ∧ (w.heap.size ≤ g ∧ g < h ∧ h < X) ∧ Below w.heap.size w w':=by
 obtain ⟨wb,hwb⟩:∃ x,w.alloc (.cells #[f0,f1,f2,f3,.bool wd,.int .i64 (R:Int),.int .i64 (width:Int),.slice a1 n1 c1,.slice a2 n2 c2,.int .i64 (R:Int),.int .i64 (R:Int),.slice b1 m1 d1,.slice b2 m2 d2] 80) = x:=⟨_,rfl⟩
 have bb:Below w.heap.size w wb:=by rw [← hwb]; exact bAl
 have hT:=BoxP.made w #[f0,f1,f2,f3,.bool wd,.int .i64 (R:Int),.int .i64 (width:Int),.slice a1 n1 c1,.slice a2 n2 c2,.int .i64 (R:Int),.int .i64 (R:Int),.slice b1 m1 d1,.slice b2 m2 d2] 80
 rw [hwb] at hT
 have p0:=(hT.all 0 _ rfl).1
 have p1:=(hT.all 1 _ rfl).1
 have p2:=(hT.all 2 _ rfl).1
 have p3:=(hT.all 3 _ rfl).1
 have p4:=(hT.all 4 _ rfl).1
 have p5:=(hT.all 5 _ rfl).1
 have p6:=(hT.all 6 _ rfl).1
 have p7:=(hT.all 7 _ rfl).1
 have p8:=(hT.all 8 _ rfl).1
 have p9:=(hT.all 9 _ rfl).1
 have p10:=(hT.all 10 _ rfl).1
 have p11:=(hT.all 11 _ rfl).1
 have p12:=(hT.all 12 _ rfl).1
 have HT:=Hj hT
 have HB:=Hj bb
 clear hT bb
 go_enter Tryz.func35,Tryz.ntmps35
 go_wp2_with fail
 go_region_held3 (fun w' => w'.cell? ⟨w.heap.size,0,none⟩ = some (f0) ∧ w'.cell? ⟨w.heap.size,1,none⟩ = some (f1) ∧ w'.cell? ⟨w.heap.size,2,none⟩ = some (f2) ∧ w'.cell? ⟨w.heap.size,3,none⟩ = some (f3) ∧ w'.cell? ⟨w.heap.size,4,none⟩ = some (.bool wd) ∧ w'.cell? ⟨w.heap.size,5,none⟩ = some (.int .i64 (R:Int)) ∧ w'.cell? ⟨w.heap.size,6,none⟩ = some (.int .i64 (width:Int)) ∧ w'.cell? ⟨w.heap.size,7,none⟩ = some (.slice a1 n1 c1) ∧ w'.cell? ⟨w.heap.size,8,none⟩ = some (.slice a2 n2 c2) ∧ w'.cell? ⟨w.heap.size,9,none⟩ = some (.int .i64 (R:Int)) ∧ w'.cell? ⟨w.heap.size,10,none⟩ = some (.int .i64 (R:Int)) ∧ w'.cell? ⟨w.heap.size,11,none⟩ = some (.slice b1 m1 d1) ∧ w'.cell? ⟨w.heap.size,12,none⟩ = some (.slice b2 m2 d2)) (first | (exact ⟨k0,k1,k2,k3,k4,k5,k6,k7,k8,k9,k10,k11,k12⟩) | go_keep)
  (first
   | (go_at_call 64; refine (srepeat_any ⟨wb.heap.size,0,none⟩ 1 (-1) R _ hR (by simp)).mono ?_; rintro _ w3 ⟨g,hgn,rfl,hgb,b3⟩; have bw3:Below wb.heap.size wb w3:=((bAl).drew).trans (b3.mono (by simp)); have hT3:=(Uh HT).below bw3; have k0:=(hT3.all 0 _ rfl).1; have k1:=(hT3.all 1 _ rfl).1; have k2:=(hT3.all 2 _ rfl).1; have k3:=(hT3.all 3 _ rfl).1; have k4:=(hT3.all 4 _ rfl).1; have k5:=(hT3.all 5 _ rfl).1; have k6:=(hT3.all 6 _ rfl).1; have k7:=(hT3.all 7 _ rfl).1; have k8:=(hT3.all 8 _ rfl).1; have k9:=(hT3.all 9 _ rfl).1; have k10:=(hT3.all 10 _ rfl).1; have k11:=(hT3.all 11 _ rfl).1; have k12:=(hT3.all 12 _ rfl).1; have HB3:=Hj bw3; have HGB:=Hj (And.intro hgb (show wb.heap.size ≤ g by simp at hgn; omega)); have HT3:=Hj hT3; clear hgb b3 bw3 hT3 hgn)
   | (go_at_call 65; refine (cmarksOf_any R _ hR).mono ?_; rintro _ w4 ⟨h,hhn,rfl,hhr,hhl,b4⟩; clear k0 k1 k2 k3 k4 k5 k6 k7 k8 k9 k10 k11 k12; have hT4:=(Uh HT3).below b4; have k0:=(hT4.all 0 _ rfl).1; have k1:=(hT4.all 1 _ rfl).1; have k2:=(hT4.all 2 _ rfl).1; have k3:=(hT4.all 3 _ rfl).1; have k4:=(hT4.all 4 _ rfl).1; have k5:=(hT4.all 5 _ rfl).1; have k6:=(hT4.all 6 _ rfl).1; have k7:=(hT4.all 7 _ rfl).1; have k8:=(hT4.all 8 _ rfl).1; have k9:=(hT4.all 9 _ rfl).1; have k10:=(hT4.all 10 _ rfl).1; have k11:=(hT4.all 11 _ rfl).1; have k12:=(hT4.all 12 _ rfl).1; have HB4:=Hj b4; have HHR:=Hj (And.intro hhr (And.intro hhn hhl)); clear hhr hhn hhl b4 hT4))
 clear k0 k1 k2 k3 k4 k5 k6 k7 k8 k9 k10 k11 k12
 have hbx:=BoxP.front w4 _ 123 (bruL f0 f1 f2 f3 wd R width a1 n1 c1 a2 n2 c2 b1 m1 d1 b2 m2 d2 g h 1) (by simp only [Array.size_setIfInBounds]; have:=zc_brush; omega) (fun k v hk => brush_front f0 f1 f2 f3 (.bool wd) (.int .i64 (R:Int)) (.int .i64 (width:Int)) (.slice a1 n1 c1) (.slice a2 n2 c2) (.int .i64 (R:Int)) (.int .i64 (R:Int)) (.slice b1 m1 d1) (.slice b2 m2 d2) (.slice (some ⟨g,0,none⟩) R R) (.int .i64 1) (.slice (some ⟨h,0,none⟩) R R) k v hk)
 generalize hZ:((((((((((((((((Tryz.zeroCells123.setIfInBounds 0 f0).setIfInBounds 1 f1).setIfInBounds 2 f2).setIfInBounds 3 f3).setIfInBounds 4 (Value.bool wd)).setIfInBounds 5 (Value.int IntKind.i64 (R:Int))).setIfInBounds 6 (Value.int IntKind.i64 (width:Int))).setIfInBounds 7 (Value.slice a1 n1 c1)).setIfInBounds 8 (Value.slice a2 n2 c2)).setIfInBounds 9 (Value.int IntKind.i64 (R:Int))).setIfInBounds 10 (Value.int IntKind.i64 (R:Int))).setIfInBounds 11 (Value.slice b1 m1 d1)).setIfInBounds 12 (Value.slice b2 m2 d2)).setIfInBounds 13 (Value.slice (some ⟨g,0,none⟩) R R)).setIfInBounds 14 (Value.int IntKind.i64 1)).setIfInBounds 15 (Value.slice (some ⟨h,0,none⟩) R R)) = ZZ at *
 have HX:=Hj hbx
 clear hbx hZ
 go_wp2_with fail
 try go_ret
 have b4a:Below w4.heap.size w4 (w4.alloc (.cells ZZ 123)):=bAl
 have h3:=(Uh HB).trans ((Uh HB3).mono (Uh HB).size)
 have h4:=h3.trans ((Uh HB4).mono h3.size)
 have hg3:=(Array.getElem?_eq_some_iff.1 (Uh HGB).1).1
 have hh:=(Uh HHR).2
 refine ⟨w4.heap.size,g,h,rfl,Uh HX,((RoV.rep (Uh HGB).1).below (Uh HB4)).below b4a,(Uh HHR).1.below b4a,⟨?_,?_,hh.2⟩,h4.trans (b4a.mono h4.size)⟩
 ·have:=(Uh HGB).2; have:=(Uh HB).size; omega
 ·omega
theorem grR_head {P:Nat → Nat → Prop} {u:Nat}:∀ n,(grR P u n = [] ∧ ∀ j,j < n → ¬ P u j) ∨ (∃ y:Nat,(grR P u n).getD 0 0 = (y:Int) ∧ 0 < (grR P u n).length ∧ P u y ∧ ∀ j,j < y → ¬ P u j)
 | 0 => .inl ⟨rfl,fun j hj => absurd hj (Nat.not_lt_zero _)⟩
 | n + 1 => by
  rcases grR_head (P:=P) (u:=u) n with ⟨h1,h2⟩ | ⟨y,h1,h2,h3,h4⟩
  ·by_cases c:P u n
   ·right
    have ht:tb (P u n) = true:=by simp [tb,c]
    refine ⟨n,?_,?_,c,h2⟩ <;> simp [grR,h1,ht]
   ·left
    have ht:tb (P u n) = false:=by simp [tb,c]
    refine ⟨by simp [grR,h1,ht],fun j hj => ?_⟩
    by_cases e:j = n
    ·rw [e]; exact c
    ·exact h2 j (by omega)
  ·right
   refine ⟨y,?_,?_,h3,h4⟩
   ·simp only [grR]
    rw [List.getD,List.getElem?_append_left h2]
    exact h1
   ·simp only [grR,List.length_append]; omega
structure LstP (st cols:List Int) (cs:Nat → Int) (v y:Nat):Prop where
 may:¬ BarP st cols cs v y
 bar:∀ j,j < y → BarP st cols cs v j
theorem LstP.one {st cols:List Int} {cs:Nat → Int} {v y x:Nat} (h:LstP st cols cs v y) (k:LstP st cols cs v x):y = x:=by
 rcases Nat.lt_trichotomy y x with c | c | c
 ·exact absurd (k.bar y c) h.may
 ·exact c
 ·exact absurd (h.bar x c) k.may
def updC (cs:Nat → Int) (v y:Nat):Nat → Int:=fun i => if i = v then (y:Int) else cs i
def PntI (st cols xs:List Int):Nat → (Nat → Int) → Prop
 | 0,cs => cs = fun _ => -1
 | k + 1,cs => ∃ cs0 y,PntI st cols xs k cs0 ∧ LstP st cols cs0 (xs.getD k 0).toNat y ∧ cs = updC cs0 (xs.getD k 0).toNat y
theorem PntI.one {st cols xs:List Int}:∀ {k:Nat} {cs ds:Nat → Int},PntI st cols xs k cs → PntI st cols xs k ds → cs = ds
 | 0,_,_,h,g => by unfold PntI at h g; rw [h,g]
 | k + 1,_,_,⟨c,y,h1,h2,h3⟩,⟨d,x,g1,g2,g3⟩ => by
  have e:=PntI.one h1 g1
  subst e
  have e:=h2.one g2
  subst e
  rw [h3,g3]
theorem PntI.rng {R n:Nat} {st cols xs:List Int} (hm:MayP (R:Int) (R:Int) st cols) (hx:∀ i,i < n → 0 ≤ xs.getD i 0 ∧ xs.getD i 0 < (R:Int)):∀ {k:Nat} {cs:Nat → Int},k ≤ n → PntI st cols xs k cs → ∀ i,-1 ≤ cs i ∧ cs i < (k:Int)
 | 0,cs,_,h,i => by unfold PntI at h; subst h; simp
 | k + 1,cs,hk,⟨c,y,h1,h2,h3⟩,i => by
  have ih:=PntI.rng hm hx (by omega) h1
  subst h3
  unfold updC
  split
  ·cases y with
   | zero => omega
   | succ j =>
    obtain ⟨i',_,he⟩:=(h2.bar j (by omega)).used hm (by have:=hx k (by omega); omega)
    have:=ih i'
    omega
  ·have:=ih i
   omega
theorem FrP.head {w w':World} {e:Ending} {X R:Nat} {vs:List Value} {b1:Option Addr} {m1 d1:Nat} {b2:Option Addr} {m2 d2 g h cnt:Nat} {cs:Nat → Int} {st cols:List Int} {v z:Nat} {a:Option Addr} {c:Nat} {ls':Nat → Int} (k:FrP w w' e X R vs b1 m1 d1 b2 m2 d2 g h cnt cs st cols v z a c ls') (hm:MayP (R:Int) (R:Int) st cols) (hv:v < R) (hc:∀ i,i < R → -1 ≤ cs i ∧ cs i < (R:Int)):∃ y:Nat,(grR (fun _ j => ¬ BarP st cols cs v j) 0 (z + 1)).getD 0 0 = (y:Int) ∧ 0 < (grR (fun _ j => ¬ BarP st cols cs v j) 0 (z + 1)).length ∧ LstP st cols cs v y:=by
 rcases grR_head (P:=fun _ j => ¬ BarP st cols cs v j) (u:=0) (z + 1) with ⟨_,h2⟩ | ⟨y,h1,h2,h3,h4⟩
 ·exfalso
  refine h2 z (by omega) (fun hb => ?_)
  obtain ⟨i,hi,he⟩:=hb.used hm hv
  have:=(numC_rng k.num hc).2.2 i hi
  omega
 ·exact ⟨y,h1,h2,h3,fun j hj => Classical.byContradiction (h4 j hj)⟩
theorem BrI.paint {W:World} {X R:Nat} {vs:List Value} {b1:Option Addr} {m1 d1:Nat} {b2:Option Addr} {m2 d2:Nat} {g h cnt:Nat} {cs ls:Nat → Int} {st cols:List Int} (k:BrI W X R vs b1 m1 d1 b2 m2 d2 g h cnt cs ls st cols) (v y:Nat) (hv:v < R):BrI (W.setCell ⟨g,v,none⟩ (.int .i64 (y:Int))) X R vs b1 m1 d1 b2 m2 d2 g h cnt (updC cs v y) ls st cols:=by
 have c:Chg (fun j => j = g) W (W.setCell ⟨g,v,none⟩ (.int .i64 (y:Int))):=Chg.of_set _ _ _ _ rfl
 exact ⟨k.box.chg c (fun e => k.ne.2.1 e.symm),k.v9,k.v10,k.v11,k.v12,k.v13,k.v14,k.v15,(k.col.put v _ hv).congr (fun i _ => by unfold updC; split <;> rfl),k.last.chg c (fun e => k.ne.1 e.symm),k.s1.chg c (fun z hz hne => (k.o1 z hz hne).2.1),k.s2.chg c (fun z hz hne => (k.o2 z hz hne).2.1),k.o1,k.o2,k.ne⟩
structure FhP (w w':World) (e:Ending) (X R:Nat) (vs:List Value) (b1:Option Addr) (m1 d1:Nat) (b2:Option Addr) (m2 d2:Nat) (g h cnt:Nat) (cs:Nat → Int) (st cols:List Int) (v:Nat) (y b off m c:Nat) (ls':Nat → Int):Prop where
 ret:e = .returned (.slice (some ⟨b,off,none⟩) m c)
 pos:0 < m
 cell:w'.cell? ⟨b,off,none⟩ = some (.int .i64 (y:Int))
 lst:LstP st cols cs v y
 bru:BrI w' X R (vs.set 14 (.int .i64 ((cnt + 1:Nat):Int))) b1 m1 d1 b2 m2 d2 g h (cnt + 1) cs ls' st cols
 le:∀ j,j < R → ls' j ≤ ((cnt + 1:Nat):Int)
 chg:Chg (fun j => j = h ∨ j = X) w w'
theorem cfree_head (X R:Nat) (vs:List Value) (b1:Option Addr) (m1 d1:Nat) (b2:Option Addr) (m2 d2:Nat) (g h cnt:Nat) (cs ls:Nat → Int) (st cols:List Int) (v k:Nat) (w:World) (hB:BrI w X R vs b1 m1 d1 b2 m2 d2 g h cnt cs ls st cols) (hm:MayP (R:Int) (R:Int) st cols) (hv:v < R) (hb1:m1 ≤ 17592186044000) (hb2:m2 ≤ 17592186044000) (hcs:∀ i,i < R → -1 ≤ cs i ∧ cs i < (k:Int)) (hk:k < R) (hls:∀ j,j < R → ls j ≤ (cnt:Int)) (hcn:cnt ≤ 1000000) (hf:vs[2]? = some (.func (.func 102) #[] #[])) :
  Calls Tryz.prog 66 #[.pointer (some ⟨X,0,none⟩),.int .i64 (v:Int)] w fun e w' => ∃ y b off m c ls',FhP w w' e X R vs b1 m1 d1 b2 m2 d2 g h cnt cs st cols v y b off m c ls':=by
 refine (cfree_star X R vs b1 m1 d1 b2 m2 d2 g h cnt cs ls st cols v k w hB hm hv hb1 hb2 hcs hk hls hcn hf).mono ?_
 rintro e w' ⟨z,a,c,ls',hF⟩
 obtain ⟨y,h1,h2,h3⟩:=hF.head hm hv (fun i hi => ⟨(hcs i hi).1,by have:=(hcs i hi).2; omega⟩)
 obtain ⟨b,off,ea,hc⟩:=hF.sl.at h2
 have h0:=hc 0 h2
 rw [h1,Nat.add_zero] at h0
 exact ⟨y,b,off,_,c,ls',by rw [hF.ret,ea],h2,h0,h3,hF.bru,hF.le,hF.chg⟩
structure PaA (w w':World) (e:Ending) (X R:Nat) (g h:Nat) (st cols xs:List Int) (n:Nat) (cs:Nat → Int):Prop where
 ret:e = .returned (.slice (some ⟨g,0,none⟩) R R)
 pnt:PntI st cols xs n cs
 row:RoV w' g R (fun i => .int .i64 (cs i))
 chg:Chg (fun j => j = g ∨ j = h ∨ j = X) w w'
set_option maxRecDepth 100000 in
set_option maxHeartbeats 16000000 in
theorem cpaint_star (X R:Nat) (vs:List Value) (b1:Option Addr) (m1 d1:Nat) (b2:Option Addr) (m2 d2:Nat) (g h:Nat) (ls:Nat → Int) (st cols:List Int) (a:Option Addr) (n c:Nat) (xs:List Int) (w:World) (hB:BrI w X R vs b1 m1 d1 b2 m2 d2 g h 1 (fun _ => -1) ls st cols) (hm:MayP (R:Int) (R:Int) st cols) (hb1:m1 ≤ 17592186044000) (hb2:m2 ≤ 17592186044000) (hls:∀ j,j < R → ls j ≤ 1) (hf:vs[2]? = some (.func (.func 102) #[] #[])) (hx:SlI w a n c xs) (hn:n ≤ R) (hrg:∀ i,i < n → 0 ≤ xs.getD i 0 ∧ xs.getD i 0 < (R:Int)) (hap:∀ z,a = some z → xs ≠ [] → z.block ≠ g ∧ z.block ≠ h ∧ z.block ≠ X) :
  Calls Tryz.prog 41 #[.pointer (some ⟨X,0,none⟩),.slice a n c] w fun e w' => ∃ cs,PaA w w' e X R g h st cols xs n cs:=by
 have hR8:R ≤ 128:=by have:=hm.head.fit; omega
 have HX:=Hj hx
 have HM:=Hj hm
 have HRG:=Hj hrg
 have HAP:=Hj hap
 have H0:=Hj (And.intro hB (And.intro hls hf))
 clear hB hm hls hf hx hrg hap
 go_enter Tryz.func41,Tryz.ntmps41
 go_wp2_with fail
 go_loopw [9,6] (fun kv _ wr => ∃ k:Nat,k ≤ n ∧ kv = .int .i64 (k:Int) ∧ Hid (∃ cs ls vs',BrI wr X R vs' b1 m1 d1 b2 m2 d2 g h (1 + k) cs ls st cols ∧ (∀ j,j < R → ls j ≤ ((1 + k:Nat):Int)) ∧ vs'[2]? = some (.func (.func 102) #[] #[]) ∧ PntI st cols xs k cs ∧ Chg (fun j => j = g ∨ j = h ∨ j = X) w wr)) (fun kv _ _ => n - (intOf kv).toNat)
 case atStart => exact ⟨0,Nat.zero_le _,rfl,Hj ⟨fun _ => -1,ls,vs,(Uh H0).1,(Uh H0).2.1,(Uh H0).2.2,rfl,Chg.refl _ _⟩⟩
 case round =>
  obtain ⟨k,hk,rfl,HK⟩:=hrel
  obtain ⟨cs,ls2,vs2,hbr,hle,hf2,hpn,hch⟩:=Uh HK
  by_cases hlt:k < n
  ·have hlt':(k:Int) < (n:Int):=by omega
   obtain ⟨bb,off,e1,hc⟩:=((Uh HX).chg hch (fun z hz hne e => by have:=Uh HAP z hz hne; omega)).at (by omega)
   subst e1
   have sk:=hc k hlt
   have hg:=Uh HRG k hlt
   obtain ⟨v,hv⟩:∃ v:Nat,xs.getD k 0 = (v:Int):=⟨(xs.getD k 0).toNat,by omega⟩
   rw [hv] at sk hg
   have hvR:v < R:=by omega
   have hvR':(v:Int) < (R:Int):=by omega
   have hrng:=PntI.rng (Uh HM) (Uh HRG) hk hpn
   have q13:=(hbr.box.all 13 _ hbr.v13).1
   have KF:=Hj (fun W (b:Below wr.heap.size wr W) => cfree_head X R vs2 b1 m1 d1 b2 m2 d2 g h (1 + k) cs ls2 st cols v k W (hbr.below b) (Uh HM) hvR hb1 hb2 (fun i _ => hrng i) (by omega) hle (by omega) hf2)
   have HST:=Hj (fun y (hl:LstP st cols cs v y) => (show PntI st cols xs (k + 1) (updC cs v y) from ⟨cs,y,hpn,by rw [hv]; exact hl,by rw [hv]; rfl⟩))
   have HCh:=Hj hch
   have HF2:=Hj hf2
   have hgX:=hbr.ne.2.1
   clear hc hv hg hrng hbr hle hf2 hpn hch HK
   go_wp2_with fail
   go_region_with
    (go_at_call 66; refine (Uh KF _ (by first | exact Below.refl _ _ | exact (Below.refl _ _).drew)).mono ?_; rintro _ w4 ⟨y,b4,o4,m4,c4,ls4,hF⟩; have e4:=hF.ret; subst e4; have hp4:(0:Int) < (m4:Int):=(by have:=hF.pos; omega); have hc4:=hF.cell; have k0:=(hF.bru.box.all 13 _ hF.bru.v13).1; have hcv:=(hF.bru.col v hvR).1; have hfv:=(hF.bru.col v hvR).2; have k1:=(Chg.of_set (S:=fun j => j = g) w4 g v (.int .i64 (y:Int)) rfl).cell (b:=X) (i:=13) (fun e => hgX e.symm) k0; have HF:=Hj hF; clear hF)
   all_goals
    have HN:=Hj (show ∃ cs ls vs',BrI (w4.setCell ⟨g,v,none⟩ (.int .i64 (y:Int))) X R vs' b1 m1 d1 b2 m2 d2 g h (1 + (k + 1)) cs ls st cols ∧ (∀ j,j < R → ls j ≤ ((1 + (k + 1):Nat):Int)) ∧ vs'[2]? = some (.func (.func 102) #[] #[]) ∧ PntI st cols xs (k + 1) cs ∧ Chg (fun j => j = g ∨ j = h ∨ j = X) w (w4.setCell ⟨g,v,none⟩ (.int .i64 (y:Int))) from
     ⟨updC cs v y,ls4,_,(show BrI _ X R _ b1 m1 d1 b2 m2 d2 g h (1 + k + 1) _ _ _ _ from (Uh HF).bru.paint v y hvR),(Uh HF).le,by rw [List.getElem?_set_ne (by omega)]; exact Uh HF2,Uh HST y (Uh HF).lst,(Uh HCh).trans (Chg.trans (by first | exact (Uh HF).chg.mono (fun j _ e => .inr e) | exact (Chg.of_drew _).trans ((Uh HF).chg.mono (fun j _ e => .inr e))) (Chg.of_set _ _ _ _ (.inl rfl)))⟩)
    clear HF k0 k1 hcv hfv hc4 hp4
    go_wp2_with fail
    exact ⟨⟨k + 1,by omega,by (first | rfl | go_num),HN⟩,by simp [intOf]; omega⟩
  ·obtain rfl:k = n:=by omega
   have hlt':¬ (k:Int) < (k:Int):=by omega
   have q13:=(hbr.box.all 13 _ hbr.v13).1
   have HA:=Hj (show PaA w wr (.returned (.slice (some ⟨g,0,none⟩) R R)) X R g h st cols xs k cs from ⟨rfl,hpn,hbr.col,hch⟩)
   clear hbr hle hf2 hpn hch HK
   go_wp2_with fail
   try go_ret
   exact ⟨cs,Uh HA⟩
end Go.Proofs.YtgjokididdffhaaGreat
