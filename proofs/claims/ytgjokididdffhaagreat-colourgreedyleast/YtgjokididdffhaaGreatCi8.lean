/- Ci3 -/
import Derived.Test.YtgjokididdffhaaGreatCh2
import Derived.Test.YtgjokididdffhaaGreatCga
import Derived.Lib.MinMax
import Derived.Test.YtgjokididdffhaaGreatCi6
import Derived.Test.YtgjokididdffhaaGreatChe
namespace Go.Proofs.YtgjokididdffhaaGreat
open Go.RowKit Go.Deep
set_option linter.unusedVariables false
set_option maxRecDepth 100000 in
set_option maxHeartbeats 8000000 in
theorem oinv_yes (a:Option Addr) (n c:Nat) (xs:List Int) (w:World) (h:SlI w a n c xs) (hn:n ≤ 128) (ho:OrdTo xs n n) :
  Calls Tryz.prog 73 #[.slice a n c] w fun e w' => ∃ g,w.heap.size ≤ g ∧ e = .returned (.tuple #[.slice (some ⟨g,0,none⟩) n n,.int .i64 0]) ∧ RoV w' g n (fun v => .int .i64 (posI xs n v)) ∧ Below w.heap.size w w':=by
 have h8:¬ (128:Int) < (n:Int):=by omega
 have KP:=Hj (oplaces_any a n c xs n w h (by omega) hn true ⟨fun _ => ⟨h.len,ho⟩,fun _ => rfl⟩)
 clear h ho
 go_enter Tryz.func73,Tryz.ntmps73
 go_wp2_with fail
 refine (Uh KP).mono ?_
 rintro _ w2 ⟨b2,_,hy⟩
 obtain ⟨g,hg,rfl,hR⟩:=hy rfl
 have HB:=Hj b2
 have HR:=Hj hR
 clear KP b2 hy hR
 go_wp2_with fail
 refine bodyPost_ret (by simp [results,Tryz.results73,go_sem]; try rfl) rfl ?_
 exact ⟨g,hg,rfl,Uh HR,Uh HB⟩
set_option maxRecDepth 100000 in
set_option maxHeartbeats 8000000 in
theorem ctwo_any (R width:Int) (a1 a2:Option Addr) (n1 c1 n2 c2:Nat) (w:World) :
  Calls Tryz.prog 94 #[patV R width a1 n1 c1 a2 n2 c2] w fun e w' => e = .returned (.int .i64 (min 2 (n2:Int))) ∧ Below w.heap.size w w':=by
 obtain ⟨wb,hwb⟩:∃ x,w.alloc (.cells #[.int .i64 R,.int .i64 width,.slice a1 n1 c1,.slice a2 n2 c2] 25) = x:=⟨_,rfl⟩
 have bb:Below w.heap.size w wb:=by rw [← hwb]; exact bAl
 have hT:=BoxP.made w #[.int .i64 R,.int .i64 width,.slice a1 n1 c1,.slice a2 n2 c2] 25
 rw [hwb] at hT
 have p3:=(hT.all 3 _ rfl).1
 have HB:=Hj bb
 clear hT bb
 unfold patV
 go_enter Tryz.func94,Tryz.ntmps94
 go_wp2_with fail
 try go_ret
 exact ⟨by first | rfl | simp,Uh HB⟩
structure LgT (f:Nat → Nat) (k y:Nat):Prop where
 le:∀ i,i < k → f i ≤ y
 at_:y = 0 ∨ ∃ i,i < k ∧ f i = y
theorem LgT.next {f:Nat → Nat} {k y:Nat} (h:LgT f k y):LgT f (k + 1) (max y (f k)):=by
 refine ⟨fun i hi => ?_,?_⟩
 ·by_cases e:i = k
  ·subst e; omega
  ·have:=h.le i (by omega); omega
 ·by_cases c:y ≤ f k
  ·rcases Nat.eq_zero_or_pos (f k) with z | z
   ·left; omega
   ·right; exact ⟨k,by omega,by omega⟩
  ·rcases h.at_ with e | ⟨i,hi,e⟩
   ·left; omega
   ·right; exact ⟨i,by omega,by omega⟩
theorem LgT.one {f:Nat → Nat} {k y z:Nat} (h:LgT f k y) (g:LgT f k z):y = z:=by
 have h1:y ≤ z:=by
  rcases h.at_ with e | ⟨i,hi,e⟩
  ·omega
  ·have:=g.le i hi; omega
 have h2:z ≤ y:=by
  rcases g.at_ with e | ⟨i,hi,e⟩
  ·omega
  ·have:=h.le i hi; omega
 omega
set_option maxRecDepth 100000 in
set_option maxHeartbeats 8000000 in
theorem clongest_any (L n:Nat) (f:Nat → Value) (ln:Nat → Nat) (w:World) (hn:n ≤ 128) (hl:∀ i,i < n → ln i ≤ 17592186044416 ∧ ∃ a c,w.cell? ⟨L,i,none⟩ = some (.slice a (ln i) c)) :
  Calls Tryz.prog 125 #[.slice (some ⟨L,0,none⟩) n n] w fun e w' => ∃ y:Nat,e = .returned (.int .i64 (y:Int)) ∧ LgT ln n y ∧ Below w.heap.size w w':=by
 have HL:=Hj hl
 clear hl
 go_enter Tryz.func125,Tryz.ntmps125
 go_wp2_with fail
 go_loopw [8,3] (fun iv mv wr => ∃ (k y:Nat),k ≤ n ∧ iv = .int .i64 (k:Int) ∧ mv = .int .i64 (y:Int) ∧ Hid (LgT ln k y) ∧ Hid (Below w.heap.size w wr)) (fun iv _ _ => n - (intOf iv).toNat)
 case atStart => exact ⟨0,0,Nat.zero_le _,rfl,rfl,Hj ⟨fun i hi => absurd hi (Nat.not_lt_zero _),.inl rfl⟩,Hj (Below.refl _ _)⟩
 case round =>
  obtain ⟨k,y,hk,rfl,rfl,HG,HW⟩:=hrel
  by_cases hlt:k < n
  ·have hlt':(k:Int) < (n:Int):=by omega
   obtain ⟨hln,a,c,hc⟩:=Uh HL k hlt
   have sk:=((Uh HW).cell (p:=⟨L,k,none⟩) (World.block_lt_of_cell? _ _ hc)).trans hc
   obtain ⟨l,hl⟩:∃ l,ln k = l:=⟨_,rfl⟩
   rw [hl] at sk hln
   have HN:=Hj ((Uh HG).next)
   rw [hl] at HN
   obtain ⟨z,hz⟩:∃ z:Nat,max y l = z:=⟨_,rfl⟩
   rw [hz] at HN
   have hz':max (y:Int) (l:Int) = (z:Int):=by omega
   clear hc hl hz
   go_wp2_with fail
   exact ⟨⟨k + 1,z,by omega,by (first | rfl | go_num),by (first | rfl | simp [hz']),HN,HW⟩,by simp [intOf]; omega⟩
  ·obtain rfl:k = n:=by omega
   have hlt':¬ (k:Int) < (k:Int):=by omega
   go_wp2_with fail
   try go_ret
   exact ⟨y,rfl,Uh HG,Uh HW⟩
theorem rowL_len {R:Nat} {width:Int} {st cols:List Int} (hm:MayP (R:Int) width st cols) {r:Nat} (hr:r < R):(rowL st cols r).length = (st.getD (r + 1) 0).toNat - (st.getD r 0).toNat:=by
 obtain ⟨X,Y,h⟩:=hm.rowAt (k:=r) (by omega)
 unfold rowL
 rw [List.length_take,List.length_drop,h.hX,h.hY]
 have:=h.lt
 omega
set_option maxRecDepth 100000 in
set_option maxHeartbeats 8000000 in
theorem clrow_any (R width:Nat) (a1 a2:Option Addr) (n1 c1 n2 c2:Nat) (st cols:List Int) (w:World) (h1:SlI w a1 n1 c1 st) (h2:SlI w a2 n2 c2 cols) (hb1:n1 ≤ 17592186044000) (hb2:n2 ≤ 17592186044000) (hm:MayP (R:Int) (width:Int) st cols) :
  Calls Tryz.prog 97 #[patV (R:Int) (width:Int) a1 n1 c1 a2 n2 c2] w fun e w' => ∃ y:Nat,e = .returned (.int .i64 (y:Int)) ∧ LgT (fun r => (rowL st cols r).length) R y ∧ Below w.heap.size w w':=by
 have hR8:R ≤ 128:=by have:=hm.head.fit; omega
 obtain ⟨wb,hwb⟩:∃ x,w.alloc (.cells #[.int .i64 (R:Int),.int .i64 (width:Int),.slice a1 n1 c1,.slice a2 n2 c2] 25) = x:=⟨_,rfl⟩
 have bb:Below w.heap.size w wb:=by rw [← hwb]; exact bAl
 have hT:=BoxP.made w #[.int .i64 (R:Int),.int .i64 (width:Int),.slice a1 n1 c1,.slice a2 n2 c2] 25
 rw [hwb] at hT
 have p0:=(hT.all 0 _ rfl).1
 have p1:=(hT.all 1 _ rfl).1
 have p2:=(hT.all 2 _ rfl).1
 have p3:=(hT.all 3 _ rfl).1
 have KR:=Hj (crows_any R (width:Int) a1 a2 n1 c1 n2 c2 st cols wb (h1.below bb) (h2.below bb) (by omega) (by omega) hm)
 have HM:=Hj hm
 have HS:=Hj h2
 have HB:=Hj bb
 clear h1 h2 hm hT bb
 unfold patV at *
 go_enter Tryz.func97,Tryz.ntmps97
 go_wp2_with fail
 refine (Uh KR).mono ?_
 rintro _ w2 ⟨b,hb,rfl,hV,b2⟩
 have KL:=Hj (clongest_any b R (rowV st a2 c2) (fun r => (rowL st cols r).length) w2 hR8 (fun i hi => ⟨by
  have h3:(rowL st cols i).length ≤ cols.length:=by unfold rowL; rw [List.length_take,List.length_drop]; omega
  have:=(Uh HS).len
  omega,_,_,by rw [(hV i hi).1,rowL_len (Uh HM) hi]; rfl⟩))
 have HB2:=Hj ((Uh HB).trans (b2.mono (Uh HB).size))
 clear KR hb hV b2 p0 p1 p2 p3
 go_wp2_with fail
 refine (Uh KL).mono ?_
 rintro _ w3 ⟨y,rfl,hy,b3⟩
 have HY:=Hj hy
 have HB3:=Hj ((Uh HB2).trans (b3.mono (Uh HB2).size))
 clear KL hy b3
 go_wp2_with fail
 try go_ret
 exact ⟨y,rfl,Uh HY,Uh HB3⟩
set_option maxRecDepth 100000 in
set_option maxHeartbeats 8000000 in
theorem clcol_any (R width:Nat) (a1 a2:Option Addr) (n1 c1 n2 c2:Nat) (st cols:List Int) (w:World) (h1:SlI w a1 n1 c1 st) (h2:SlI w a2 n2 c2 cols) (hb1:n1 ≤ 17592186044000) (hb2:n2 ≤ 17592186044000) (hm:MayP (R:Int) (width:Int) st cols) :
  Calls Tryz.prog 100 #[patV (R:Int) (width:Int) a1 n1 c1 a2 n2 c2] w fun e w' => ∃ y:Nat,e = .returned (.int .i64 (y:Int)) ∧ LgT (fun c => (grR (InC st cols) c R).length) width y ∧ Below w.heap.size w w':=by
 have hR8:R ≤ 128 ∧ width ≤ 128:=by have:=hm.head.fit; omega
 obtain ⟨wb,hwb⟩:∃ x,w.alloc (.cells #[.int .i64 (R:Int),.int .i64 (width:Int),.slice a1 n1 c1,.slice a2 n2 c2] 25) = x:=⟨_,rfl⟩
 have bb:Below w.heap.size w wb:=by rw [← hwb]; exact bAl
 have hT:=BoxP.made w #[.int .i64 (R:Int),.int .i64 (width:Int),.slice a1 n1 c1,.slice a2 n2 c2] 25
 rw [hwb] at hT
 have p0:=(hT.all 0 _ rfl).1
 have p1:=(hT.all 1 _ rfl).1
 have p2:=(hT.all 2 _ rfl).1
 have p3:=(hT.all 3 _ rfl).1
 have KR:=Hj (ccols_any R width a1 a2 n1 c1 n2 c2 st cols wb (h1.below bb) (h2.below bb) (by omega) (by omega) hm)
 have HB:=Hj bb
 clear h1 h2 hm hT bb
 unfold patV at *
 go_enter Tryz.func100,Tryz.ntmps100
 go_wp2_with fail
 refine (Uh KR).mono ?_
 rintro _ w2 ⟨t,b,f,hb,rfl,hV,b2⟩
 have KL:=Hj (clongest_any b width f (fun c => (grR (InC st cols) c R).length) w2 hR8.2 (fun i hi => ⟨by
  have:=grR_len (InC st cols) i R
  show (grR (InC st cols) i R).length ≤ _
  omega,by
  obtain ⟨a,c,e,_⟩:=own_slI (hV.own i hi)
  exact ⟨a,c,by rw [hV.row.cell hi,e]⟩⟩))
 have HB2:=Hj ((Uh HB).trans (b2.mono (Uh HB).size))
 clear KR hb hV b2 p0 p1 p2 p3
 go_wp2_with fail
 refine (Uh KL).mono ?_
 rintro _ w3 ⟨y,rfl,hy,b3⟩
 have HY:=Hj hy
 have HB3:=Hj ((Uh HB2).trans (b3.mono (Uh HB2).size))
 clear KL hy b3
 go_wp2_with fail
 try go_ret
 exact ⟨y,rfl,Uh HY,Uh HB3⟩
noncomputable def bnF (S C:List Int) (xs:List Int) (m:Nat) (wd:Bool) (v:Nat):Nat:=1 + cnP (fun j => NeaC S C xs m wd v (xs.getD j 0).toNat) (posI xs m v).toNat
set_option maxRecDepth 100000 in
set_option maxHeartbeats 16000000 in
theorem cbound_any (G G1 G2 G3:Nat) (wd:Bool) (R width:Nat) (a1:Option Addr) (n1 c1:Nat) (a2:Option Addr) (n2 c2 m:Nat) (x:Option Addr) (sl d:Nat) (y:Option Addr) (cl z:Nat) (S C:List Int) (a:Option Addr) (c:Nat) (xs:List Int) (w:World)
  (hS:SlI w x sl d S) (hC:SlI w y cl z C) (hb1:sl ≤ 17592186044000) (hb2:cl ≤ 17592186044000) (hm:MayP (m:Int) (m:Int) S C) (hx:SlI w a m c xs) (ho:OrdTo xs m m) :
  Calls Tryz.prog 43 #[tkV G G1 G2 G3 wd R width a1 n1 c1 a2 n2 c2 m x sl d y cl z,.slice a m c] w fun e w' => ∃ q:Nat,e = .returned (.int .i64 (q:Int)) ∧ LgT (bnF S C xs m wd) m q ∧ Below w.heap.size w w':=by
 have hm8:m ≤ 128:=by have:=hm.head.fit; omega
 unfold tkV
 obtain ⟨wA,hwA⟩:∃ q,w.alloc (.cells #[(.func (.func G) #[] #[]),(.func (.func G1) #[] #[]),(.func (.func G2) #[] #[]),(.func (.func G3) #[] #[]),(.bool wd),.int .i64 (R:Int),.int .i64 (width:Int),.slice a1 n1 c1,.slice a2 n2 c2,.int .i64 (m:Int),.int .i64 (m:Int),.slice x sl d,Value.slice y cl z] 80) = q:=⟨_,rfl⟩
 have bA:Below w.heap.size w wA:=by rw [← hwA]; exact bAl
 have xA:=BoxP.made w #[(.func (.func G) #[] #[]),(.func (.func G1) #[] #[]),(.func (.func G2) #[] #[]),(.func (.func G3) #[] #[]),(.bool wd),.int .i64 (R:Int),.int .i64 (width:Int),.slice a1 n1 c1,.slice a2 n2 c2,.int .i64 (m:Int),.int .i64 (m:Int),.slice x sl d,Value.slice y cl z] 80
 rw [hwA] at xA
 have KI:=Hj (oinv_yes a m c xs wA (hx.below bA) hm8 ho)
 have HXA:=Hj xA
 have HBA:=Hj bA
 have HSC:=Hj (And.intro hS hC)
 have HM:=Hj hm
 have HOR:=Hj ho
 clear xA bA hS hC hm hx ho
 go_enter Tryz.func43,Tryz.ntmps43
 go_wp2_with fail
 refine (Uh KI).mono ?_
 rintro _ w2 ⟨g,hg,rfl,hpl,b2⟩
 have hX2:=(Uh HXA).below b2
 have t9:=(hX2.all 9 _ rfl).1
 have HX2:=Hj hX2
 have HPL:=Hj hpl
 have HB2:=Hj ((Uh HBA).trans (b2.mono (Uh HBA).size))
 have HA2:=Hj (And.intro (Uh HXA).lt b2.size)
 have HG:=Hj (show w.heap.size < g ∧ g < w2.heap.size ∨ m = 0 from by
  rcases Nat.eq_zero_or_pos m with e | e
  ·exact .inr e
  ·left; have:=(Uh HXA).lt; have:=World.block_lt_of_cell? _ _ (hpl 0 e).1; simp at this; omega)
 clear KI hX2 hpl b2 hg
 go_wp2_with fail
 refine (cmarksOf_any m w2 hm8).mono ?_
 rintro _ w3 ⟨h,hh,rfl,hls,hlh,b3⟩
 try dsimp only
 repeat ((fail_if_success (with_reducible (show Code.wp _ _ _ _ (World.alloc w3 (Obj.cells #[_,.slice (some ⟨h,0,none⟩) m m] _))))); (first | go_values | go_skip | go_guarded | go_step | go_upon | go_back))
 have xM:=BoxP.made w3 #[.int .i64 1,.slice (some ⟨h,0,none⟩) m m] 117
 have bM:Below w3.heap.size w3 (w3.alloc (.cells #[.int .i64 1,.slice (some ⟨h,0,none⟩) m m] 117)):=bAl
 obtain ⟨X,hX⟩:∃ X,w3.heap.size = X:=⟨_,rfl⟩
 have b23:=b3.trans (bM.mono b3.size)
 have HX4:=Hj ((Uh HX2).below b23)
 have HPL4:=Hj ((Uh HPL).below b23)
 have HLS4:=Hj (hls.below bM)
 have HB4:=Hj ((Uh HB2).trans (b23.mono (Uh HB2).size))
 have HHX:=Hj (show w2.heap.size ≤ h ∧ h < X by omega)
 have hbm:=bM.size
 clear hls hlh hh b3 b23 t9
 generalize w3.alloc (.cells #[.int .i64 1,.slice (some ⟨h,0,none⟩) m m] 117) = w4 at *
 rw [hX] at xM
 have HXM:=Hj xM
 have t9:=((Uh HX4).all 9 _ rfl).1
 clear bM xM hbm
 go_wp2_with fail
 go_loopw [22,8] (fun kv mv wr => ∃ (k q:Nat),k ≤ m ∧ kv = .int .i64 (k:Int) ∧ mv = .int .i64 (q:Int) ∧ q ≤ 129 ∧ Hid (LgT (bnF S C xs m wd) k q) ∧ Hid (∃ ls:Nat → Int,RoV wr h m (fun i => .int .i64 (ls i)) ∧ (∀ i,i < m → ls i ≤ ((1 + k:Nat):Int)) ∧ (wr.cell? ⟨X,0,none⟩ = some (.int .i64 ((1 + k:Nat):Int)) ∧ wr.frozen? ⟨X,0,none⟩ = false) ∧ wr.cell? ⟨X,0 + 1,none⟩ = some (.slice (some ⟨h,0,none⟩) m m) ∧ Chg (fun j => j = h ∨ j = X) w4 wr)) (fun kv _ _ => m - (intOf kv).toNat)
 case atStart => exact ⟨0,0,Nat.zero_le _,rfl,rfl,by omega,Hj ⟨fun i hi => absurd hi (Nat.not_lt_zero _),.inl rfl⟩,Hj ⟨fun _ => 0,Uh HLS4,fun i _ => by show (0:Int) ≤ _; omega,(Uh HXM).all 0 _ rfl,((Uh HXM).all 1 _ rfl).1,Chg.refl _ _⟩⟩
 case round =>
  obtain ⟨k,q,hk,rfl,rfl,hq9,HG2,HJ⟩:=hrel
  by_cases hlt:k < m
  ·have hlt':(k:Int) < (m:Int):=by omega
   obtain ⟨ls,hls,hle,hk0,hk1,hch⟩:=Uh HJ
   have hT:=(Uh HX4).chg hch (by have:=Uh HHX; have:=Uh HA2; omega)
   have hS:=(Uh HSC).1
   have hC:=(Uh HSC).2
   have hhx:=Uh HHX
   have hb2s:=(Uh HB2).size
   have KC:=Hj (ccount_any G G1 G2 G3 wd R width a1 n1 c1 a2 n2 c2 m x sl d y cl z S C xs k g h X 0 (1 + k) ls wr ((hS.below (Uh HB4)).chg hch (fun t ht hn e => by have:=hS.block_lt hn t ht; omega)) ((hC.below (Uh HB4)).chg hch (fun t ht hn e => by have:=hC.block_lt hn t ht; omega)) hb1 hb2 (Uh HM) (Uh HOR) hlt ((Uh HPL4).chg hch (by have:=Uh HG; omega)) hls hk0 hk1 (by omega) (by have:=Uh HG; omega) hle (fun t ht hn => by have:=hS.block_lt hn t ht; omega) (fun t ht hn => by have:=hC.block_lt hn t ht; omega))
   unfold tkV at KC
   have e0:=(hT.all 0 _ rfl).1
   have e1:=(hT.all 1 _ rfl).1
   have e2:=(hT.all 2 _ rfl).1
   have e3:=(hT.all 3 _ rfl).1
   have e4:=(hT.all 4 _ rfl).1
   have e5:=(hT.all 5 _ rfl).1
   have e6:=(hT.all 6 _ rfl).1
   have e7:=(hT.all 7 _ rfl).1
   have e8:=(hT.all 8 _ rfl).1
   have e9:=(hT.all 9 _ rfl).1
   have e10:=(hT.all 10 _ rfl).1
   have e11:=(hT.all 11 _ rfl).1
   have e12:=(hT.all 12 _ rfl).1
   have HCH:=Hj hch
   have hbn:bnF S C xs m wd k ≤ 129:=by
    unfold bnF
    have h1:=cnP_le (fun j => NeaC S C xs m wd k (xs.getD j 0).toNat) (posI xs m k).toNat
    obtain ⟨jv,hjv,_,ev⟩:=(Uh HOR).place hlt
    rw [ev] at h1 ⊢
    omega
   have HBN:=Hj (show bnF S C xs m wd k = 1 + cnP (fun j => NeaC S C xs m wd k (xs.getD j 0).toNat) (posI xs m k).toNat from rfl)
   have HNX:=Hj ((Uh HG2).next)
   clear hls hle hk0 hk1 hch hT hS hC hhx hb2s HJ
   go_wp2_with fail
   refine (Uh KC).mono ?_
   rintro _ w6 ⟨ls6,rfl,h61,h62,h63,h64,h65⟩
   obtain ⟨cq,hcq⟩:∃ cq,cnP (fun j => NeaC S C xs m wd k (xs.getD j 0).toNat) (posI xs m k).toNat = cq:=⟨_,rfl⟩
   rw [hcq]
   have hb1':=Uh HBN
   rw [hcq] at hb1'
   rw [hb1'] at HNX hbn
   obtain ⟨zz,hzz⟩:∃ zz:Nat,max q (1 + cq) = zz:=⟨_,rfl⟩
   rw [hzz] at HNX
   have hz9:zz ≤ 129:=by omega
   have hw1:IntKind.i64.wrap (1 + (cq:Int)) = 1 + (cq:Int):=by rw [wrap_i64n]; omega
   have hzi:max (q:Int) (1 + (cq:Int)) = (zz:Int):=by omega
   have HN6:=Hj (show ∃ ls:Nat → Int,RoV w6 h m (fun i => .int .i64 (ls i)) ∧ (∀ i,i < m → ls i ≤ ((1 + (k + 1):Nat):Int)) ∧ (w6.cell? ⟨X,0,none⟩ = some (.int .i64 ((1 + (k + 1):Nat):Int)) ∧ w6.frozen? ⟨X,0,none⟩ = false) ∧ w6.cell? ⟨X,0 + 1,none⟩ = some (.slice (some ⟨h,0,none⟩) m m) ∧ Chg (fun j => j = h ∨ j = X) w4 w6 from ⟨ls6,h61,h62,h63,h64,(Uh HCH).trans h65⟩)
   clear KC h61 h62 h63 h64 h65 hcq hb1' hzz hbn
   go_wp2_with fail
   exact ⟨⟨k + 1,zz,by omega,by (first | rfl | go_num),by (first | rfl | simp [hzi]),hz9,HNX,HN6⟩,by simp [intOf]; omega⟩
  ·obtain rfl:k = m:=by omega
   have hlt':¬ (k:Int) < (k:Int):=by omega
   go_wp2_with fail
   try go_ret
   obtain ⟨ls,hls,hle,hk0,hk1,hch⟩:=Uh HJ
   exact ⟨q,rfl,Uh HG2,(Uh HB4).trans (hch.below (Uh HB4).size (fun j hj e => by have:=Uh HHX; have:=(Uh HB2).size; omega))⟩
def BdP (xs:List Int) (m:Nat) (f:Nat → Nat) (w w':World) (e:Ending):Prop:=Below w.heap.size w w' ∧ (IsOrd xs m → ∃ q:Nat,e = .returned (.tuple #[.int .i64 (q:Int),.int .i64 0]) ∧ LgT f m q) ∧ (¬ IsOrd xs m → e = .returned (.tuple #[.int .i64 0,.int .i64 182]))
def FlP (m:Nat) (P:Nat → Prop) (w w':World) (e:Ending):Prop:=Below w.heap.size w w' ∧ ∃ q:Nat,e = .returned (.tuple #[.int .i64 (q:Int),.int .i64 0]) ∧ (m = 0 → q = 0) ∧ (0 < m → P q)

set_option maxRecDepth 100000 in
set_option maxHeartbeats 16000000 in
theorem cBound_no (k rows width:Int) (er:Int) (her:(er != 0) = true) (a:Option Addr) (n c:Nat) (a1 a2:Option Addr) (n1 c1 n2 c2:Nat) (st cols:List Int) (w:World) (h1:SlI w a1 n1 c1 st) (h2:SlI w a2 n2 c2 cols) (hT:∀ W,SlI W a1 n1 c1 st → SlI W a2 n2 c2 cols → Calls Tryz.prog 34 #[.int .i64 k,patV rows width a1 n1 c1 a2 n2 c2] W fun e w' => TkN W w' e er) :
  Calls Tryz.prog 19 #[.int .i64 k,patV rows width a1 n1 c1 a2 n2 c2,.slice a n c] w fun e w' => e = .returned (.tuple #[.int .i64 0,.int .i64 er]) ∧ Below w.heap.size w w':=by
 obtain ⟨wb,hwb⟩:∃ x,w.alloc (.cells #[.int .i64 rows,.int .i64 width,.slice a1 n1 c1,.slice a2 n2 c2] 25) = x:=⟨_,rfl⟩
 have bb:Below w.heap.size w wb:=by rw [← hwb]; exact bAl
 have hT0:=BoxP.made w #[.int .i64 rows,.int .i64 width,.slice a1 n1 c1,.slice a2 n2 c2] 25
 rw [hwb] at hT0
 have p0:=(hT0.all 0 _ rfl).1
 have p1:=(hT0.all 1 _ rfl).1
 have p2:=(hT0.all 2 _ rfl).1
 have p3:=(hT0.all 3 _ rfl).1
 have KT:=Hj (hT wb (h1.below bb) (h2.below bb))
 unfold patV at KT
 have HB:=Hj bb
 have HT0:=Hj hT0
 clear hT0 bb h1 h2 hT
 unfold patV
 go_enter Tryz.func19,Tryz.ntmps19
 go_wp2_with fail
 refine (Uh KT).mono ?_
 rintro _ w2 ⟨rfl,b2⟩
 unfold tkZ
 clear p0 p1 p2 p3 KT
 try dsimp only
 have HB2:=Hj ((Uh HB).trans (b2.mono (Uh HB).size))
 clear b2
 go_wp2_with fail
 refine bodyPost_ret (by simp [results,Tryz.results19,go_sem]; try rfl) rfl ?_
 exact ⟨rfl,(Uh HB2).alloc (Uh HB2).size _⟩
set_option maxRecDepth 100000 in
set_option maxHeartbeats 16000000 in
theorem cFloor_no (k rows width:Int) (er:Int) (her:(er != 0) = true) (a1 a2:Option Addr) (n1 c1 n2 c2:Nat) (st cols:List Int) (w:World) (h1:SlI w a1 n1 c1 st) (h2:SlI w a2 n2 c2 cols) (hT:∀ W,SlI W a1 n1 c1 st → SlI W a2 n2 c2 cols → Calls Tryz.prog 34 #[.int .i64 k,patV rows width a1 n1 c1 a2 n2 c2] W fun e w' => TkN W w' e er) :
  Calls Tryz.prog 20 #[.int .i64 k,patV rows width a1 n1 c1 a2 n2 c2] w fun e w' => e = .returned (.tuple #[.int .i64 0,.int .i64 er]) ∧ Below w.heap.size w w':=by
 obtain ⟨wb,hwb⟩:∃ x,w.alloc (.cells #[.int .i64 rows,.int .i64 width,.slice a1 n1 c1,.slice a2 n2 c2] 25) = x:=⟨_,rfl⟩
 have bb:Below w.heap.size w wb:=by rw [← hwb]; exact bAl
 have hT0:=BoxP.made w #[.int .i64 rows,.int .i64 width,.slice a1 n1 c1,.slice a2 n2 c2] 25
 rw [hwb] at hT0
 have p0:=(hT0.all 0 _ rfl).1
 have p1:=(hT0.all 1 _ rfl).1
 have p2:=(hT0.all 2 _ rfl).1
 have p3:=(hT0.all 3 _ rfl).1
 have KT:=Hj (hT wb (h1.below bb) (h2.below bb))
 unfold patV at KT
 have HB:=Hj bb
 have HT0:=Hj hT0
 clear hT0 bb h1 h2 hT
 unfold patV
 go_enter Tryz.func20,Tryz.ntmps20
 go_wp2_with fail
 refine (Uh KT).mono ?_
 rintro _ w2 ⟨rfl,b2⟩
 unfold tkZ
 clear p0 p1 p2 p3 KT
 try dsimp only
 have HB2:=Hj ((Uh HB).trans (b2.mono (Uh HB).size))
 clear b2
 go_wp2_with fail
 refine bodyPost_ret (by simp [results,Tryz.results20,go_sem]; try rfl) rfl ?_
 exact ⟨rfl,(Uh HB2).alloc (Uh HB2).size _⟩
set_option maxRecDepth 100000 in
set_option maxHeartbeats 16000000 in
theorem cBound_yes (k:Int) (G G1 G2 G3:Nat) (wd:Bool) (R width m:Nat) (S C:List Int) (a:Option Addr) (n c:Nat) (xs:List Int) (a1 a2:Option Addr) (n1 c1 n2 c2:Nat) (st cols:List Int) (w:World) (h1:SlI w a1 n1 c1 st) (h2:SlI w a2 n2 c2 cols) (h3:SlI w a n c xs) (hn:n ≤ 17592186044000) (hbs:S.length ≤ 17592186044000) (hbc:C.length ≤ 17592186044000) (hm:MayP (m:Int) (m:Int) S C) (hT:∀ W,SlI W a1 n1 c1 st → SlI W a2 n2 c2 cols → Calls Tryz.prog 34 #[.int .i64 k,patV (R:Int) (width:Int) a1 n1 c1 a2 n2 c2] W fun e w' => TkP W w' e G G1 G2 G3 wd R width a1 n1 c1 a2 n2 c2 m S C) :
  Calls Tryz.prog 19 #[.int .i64 k,patV (R:Int) (width:Int) a1 n1 c1 a2 n2 c2,.slice a n c] w fun e w' => BdP xs m (bnF S C xs m wd) w w' e:=by
 have hm8:m ≤ 128:=by have:=hm.head.fit; omega
 obtain ⟨ok,hok⟩:=truth (IsOrd xs m)
 obtain ⟨wb,hwb⟩:∃ x,w.alloc (.cells #[.int .i64 (R:Int),.int .i64 (width:Int),.slice a1 n1 c1,.slice a2 n2 c2] 25) = x:=⟨_,rfl⟩
 have bb:Below w.heap.size w wb:=by rw [← hwb]; exact bAl
 have hT0:=BoxP.made w #[.int .i64 (R:Int),.int .i64 (width:Int),.slice a1 n1 c1,.slice a2 n2 c2] 25
 rw [hwb] at hT0
 have p0:=(hT0.all 0 _ rfl).1
 have p1:=(hT0.all 1 _ rfl).1
 have p2:=(hT0.all 2 _ rfl).1
 have p3:=(hT0.all 3 _ rfl).1
 have KT:=Hj (hT wb (h1.below bb) (h2.below bb))
 unfold patV at KT
 have HB:=Hj bb
 have HT0:=Hj hT0
 have HX:=Hj h3
 have HM:=Hj hm
 have HOK:=Hj (show TruQ ok (IsOrd xs m) from hok)
 clear hT0 bb h1 h2 hT h3 hm hok
 unfold patV
 go_enter Tryz.func19,Tryz.ntmps19
 go_wp2_with fail
 refine (Uh KT).mono ?_
 rintro _ w2 ⟨x,d,y,z,rfl,hS2,hC2,b2⟩
 unfold tkV
 clear p0 p1 p2 p3 KT
 try dsimp only
 repeat ((fail_if_success (with_reducible (show Code.wp _ _ _ _ (World.alloc w2 (Obj.cells #[_,_,_,_,_,_,_,_,_,_,_,_,.slice y C.length z] _))))); (first | go_values | go_skip | go_guarded | go_step | go_upon | go_back))
 have hR:=BoxP.made w2 #[(.func (.func G) #[] #[]),(.func (.func G1) #[] #[]),(.func (.func G2) #[] #[]),(.func (.func G3) #[] #[]),(.bool wd),.int .i64 (R:Int),.int .i64 (width:Int),.slice a1 n1 c1,.slice a2 n2 c2,.int .i64 (m:Int),.int .i64 (m:Int),.slice x S.length d,.slice y C.length z] 80
 have br:Below w2.heap.size w2 (w2.alloc (.cells #[(.func (.func G) #[] #[]),(.func (.func G1) #[] #[]),(.func (.func G2) #[] #[]),(.func (.func G3) #[] #[]),(.bool wd),.int .i64 (R:Int),.int .i64 (width:Int),.slice a1 n1 c1,.slice a2 n2 c2,.int .i64 (m:Int),.int .i64 (m:Int),.slice x S.length d,.slice y C.length z] 80)):=bAl
 have hb3:=((Uh HB).trans (b2.mono (Uh HB).size)).trans (br.mono (Nat.le_trans (Uh HB).size b2.size))
 have HSC:=Hj (And.intro (hS2.below br) (hC2.below br))
 have HT3:=Hj (((Uh HT0).below b2).below br)
 clear b2 br hS2 hC2
 generalize w2.alloc (.cells #[(.func (.func G) #[] #[]),(.func (.func G1) #[] #[]),(.func (.func G2) #[] #[]),(.func (.func G3) #[] #[]),(.bool wd),.int .i64 (R:Int),.int .i64 (width:Int),.slice a1 n1 c1,.slice a2 n2 c2,.int .i64 (m:Int),.int .i64 (m:Int),.slice x S.length d,.slice y C.length z] 80) = w3 at *
 have s0:=(hR.all 0 _ rfl).1
 have s1:=(hR.all 1 _ rfl).1
 have s2:=(hR.all 2 _ rfl).1
 have s3:=(hR.all 3 _ rfl).1
 have s4:=(hR.all 4 _ rfl).1
 have s5:=(hR.all 5 _ rfl).1
 have s6:=(hR.all 6 _ rfl).1
 have s7:=(hR.all 7 _ rfl).1
 have s8:=(hR.all 8 _ rfl).1
 have s9:=(hR.all 9 _ rfl).1
 have s10:=(hR.all 10 _ rfl).1
 have s11:=(hR.all 11 _ rfl).1
 have s12:=(hR.all 12 _ rfl).1
 have HB3:=Hj hb3
 have HR:=Hj hR
 have KO:=Hj (cisOrder_any a n c xs m w3 ((Uh HX).below hb3) (by omega) hm8 ok (Uh HOK))
 clear hR hb3
 go_wp2_with fail
 refine (Uh KO).mono ?_
 rintro _ w4 ⟨rfl,b4⟩
 have hR4:=(Uh HR).below b4
 have hb4:=(Uh HB3).trans (b4.mono (Uh HB3).size)
 have HSC4:=Hj (And.intro ((Uh HSC).1.below b4) ((Uh HSC).2.below b4))
 have HB4:=Hj hb4
 clear KO b4 s0 s1 s2 s3 s4 s5 s6 s7 s8 s9 s10 s11 s12
 have s0:=(hR4.all 0 _ rfl).1
 have s1:=(hR4.all 1 _ rfl).1
 have s2:=(hR4.all 2 _ rfl).1
 have s3:=(hR4.all 3 _ rfl).1
 have s4:=(hR4.all 4 _ rfl).1
 have s5:=(hR4.all 5 _ rfl).1
 have s6:=(hR4.all 6 _ rfl).1
 have s7:=(hR4.all 7 _ rfl).1
 have s8:=(hR4.all 8 _ rfl).1
 have s9:=(hR4.all 9 _ rfl).1
 have s10:=(hR4.all 10 _ rfl).1
 have s11:=(hR4.all 11 _ rfl).1
 have s12:=(hR4.all 12 _ rfl).1
 cases ok
 ·clear hR4 hb4
  go_wp2_with fail
  refine bodyPost_ret (by simp [results,Tryz.results19,go_sem]; try rfl) rfl ?_
  exact ⟨Uh HB4,fun ho => absurd (Iff.mpr (Uh HOK) ho) (by decide),fun _ => rfl⟩
 ·have ho:IsOrd xs m:=Iff.mp (Uh HOK) rfl
  have hnm:n = m:=by have:=(Uh HX).len; have:=ho.1; omega
  subst hnm
  have KB:=Hj (cbound_any G G1 G2 G3 wd R width a1 n1 c1 a2 n2 c2 n x S.length d y C.length z S C a c xs w4 (Uh HSC4).1 (Uh HSC4).2 hbs hbc (Uh HM) ((Uh HX).below hb4) ho.2)
  unfold tkV at KB
  have HO:=Hj ho
  clear hR4 hb4 ho
  go_wp2_with fail
  refine (Uh KB).mono ?_
  rintro _ w5 ⟨q,rfl,hq,b5⟩
  have HQ:=Hj hq
  have HB5:=Hj ((Uh HB4).trans (b5.mono (Uh HB4).size))
  clear KB hq b5
  go_wp2_with fail
  refine bodyPost_ret (by simp [results,Tryz.results19,go_sem]; try rfl) rfl ?_
  exact ⟨Uh HB5,fun _ => ⟨q,rfl,Uh HQ⟩,fun hno => absurd (Uh HO) hno⟩
set_option maxRecDepth 100000 in
set_option maxHeartbeats 16000000 in
theorem cFloor_two (k:Int) (G G1 G2:Nat) (wd:Bool) (R width m:Nat) (S C:List Int) (P:Nat → Prop) (a1 a2:Option Addr) (n1 c1 n2 c2:Nat) (st cols:List Int) (w:World) (h1:SlI w a1 n1 c1 st) (h2:SlI w a2 n2 c2 cols) (hT:∀ W,SlI W a1 n1 c1 st → SlI W a2 n2 c2 cols → Calls Tryz.prog 34 #[.int .i64 k,patV (R:Int) (width:Int) a1 n1 c1 a2 n2 c2] W fun e w' => TkP W w' e G G1 G2 94 wd R width a1 n1 c1 a2 n2 c2 m S C) (hF:∀ W,SlI W a1 n1 c1 st → SlI W a2 n2 c2 cols → Calls Tryz.prog 94 #[patV (R:Int) (width:Int) a1 n1 c1 a2 n2 c2] W fun e w' => ∃ q:Nat,e = .returned (.int .i64 (q:Int)) ∧ q ≤ 17592186044416 ∧ P (max 1 q) ∧ Below W.heap.size W w') :
  Calls Tryz.prog 20 #[.int .i64 k,patV (R:Int) (width:Int) a1 n1 c1 a2 n2 c2] w fun e w' => FlP m P w w' e:=by
 obtain ⟨wb,hwb⟩:∃ x,w.alloc (.cells #[.int .i64 (R:Int),.int .i64 (width:Int),.slice a1 n1 c1,.slice a2 n2 c2] 25) = x:=⟨_,rfl⟩
 have bb:Below w.heap.size w wb:=by rw [← hwb]; exact bAl
 have hT0:=BoxP.made w #[.int .i64 (R:Int),.int .i64 (width:Int),.slice a1 n1 c1,.slice a2 n2 c2] 25
 rw [hwb] at hT0
 have p0:=(hT0.all 0 _ rfl).1
 have p1:=(hT0.all 1 _ rfl).1
 have p2:=(hT0.all 2 _ rfl).1
 have p3:=(hT0.all 3 _ rfl).1
 have KT:=Hj (hT wb (h1.below bb) (h2.below bb))
 unfold patV at KT
 have HB:=Hj bb
 have HT0:=Hj hT0
 have HS:=Hj (And.intro h1 h2)
 have HF:=Hj hF
 clear hT0 bb h1 h2 hT hF
 unfold patV
 go_enter Tryz.func20,Tryz.ntmps20
 go_wp2_with fail
 refine (Uh KT).mono ?_
 rintro _ w2 ⟨x,d,y,z,rfl,hS2,hC2,b2⟩
 unfold tkV
 clear p0 p1 p2 p3 KT
 try dsimp only
 repeat ((fail_if_success (with_reducible (show Code.wp _ _ _ _ (World.alloc w2 (Obj.cells #[_,_,_,_,_,_,_,_,_,_,_,_,.slice y C.length z] _))))); (first | go_values | go_skip | go_guarded | go_step | go_upon | go_back))
 have hR:=BoxP.made w2 #[(.func (.func G) #[] #[]),(.func (.func G1) #[] #[]),(.func (.func G2) #[] #[]),(.func (.func 94) #[] #[]),(.bool wd),.int .i64 (R:Int),.int .i64 (width:Int),.slice a1 n1 c1,.slice a2 n2 c2,.int .i64 (m:Int),.int .i64 (m:Int),.slice x S.length d,.slice y C.length z] 80
 have br:Below w2.heap.size w2 (w2.alloc (.cells #[(.func (.func G) #[] #[]),(.func (.func G1) #[] #[]),(.func (.func G2) #[] #[]),(.func (.func 94) #[] #[]),(.bool wd),.int .i64 (R:Int),.int .i64 (width:Int),.slice a1 n1 c1,.slice a2 n2 c2,.int .i64 (m:Int),.int .i64 (m:Int),.slice x S.length d,.slice y C.length z] 80)):=bAl
 have hb3:=((Uh HB).trans (b2.mono (Uh HB).size)).trans (br.mono (Nat.le_trans (Uh HB).size b2.size))
 have HSC:=Hj (And.intro (hS2.below br) (hC2.below br))
 have HT3:=Hj (((Uh HT0).below b2).below br)
 clear b2 br hS2 hC2
 generalize w2.alloc (.cells #[(.func (.func G) #[] #[]),(.func (.func G1) #[] #[]),(.func (.func G2) #[] #[]),(.func (.func 94) #[] #[]),(.bool wd),.int .i64 (R:Int),.int .i64 (width:Int),.slice a1 n1 c1,.slice a2 n2 c2,.int .i64 (m:Int),.int .i64 (m:Int),.slice x S.length d,.slice y C.length z] 80) = w3 at *
 have s0:=(hR.all 0 _ rfl).1
 have s1:=(hR.all 1 _ rfl).1
 have s2:=(hR.all 2 _ rfl).1
 have s3:=(hR.all 3 _ rfl).1
 have s4:=(hR.all 4 _ rfl).1
 have s5:=(hR.all 5 _ rfl).1
 have s6:=(hR.all 6 _ rfl).1
 have s7:=(hR.all 7 _ rfl).1
 have s8:=(hR.all 8 _ rfl).1
 have s9:=(hR.all 9 _ rfl).1
 have s10:=(hR.all 10 _ rfl).1
 have s11:=(hR.all 11 _ rfl).1
 have s12:=(hR.all 12 _ rfl).1
 have HB3:=Hj hb3
 have HR:=Hj hR
 have g0:=((Uh HT3).all 0 _ rfl).1
 have g1:=((Uh HT3).all 1 _ rfl).1
 have g2:=((Uh HT3).all 2 _ rfl).1
 have g3:=((Uh HT3).all 3 _ rfl).1
 have KF:=Hj (Uh HF w3 ((Uh HS).1.below hb3) ((Uh HS).2.below hb3))
 unfold patV at KF
 clear hR hb3
 by_cases hm0:m = 0
 ·have hm0':((m:Int) == 0) = true:=by simp [hm0]
  have HM0:=Hj hm0
  clear hm0 KF
  go_wp2_with fail
  refine bodyPost_ret (by simp [results,Tryz.results20,go_sem]; try rfl) rfl ?_
  exact ⟨Uh HB3,0,rfl,fun _ => rfl,fun h => by have:=Uh HM0; omega⟩
 ·have hm0':((m:Int) == 0) = false:=by simp; omega
  have HM0:=Hj hm0
  clear hm0
  go_wp2_with fail
  refine (Uh KF).mono ?_
  rintro _ w4 ⟨q,rfl,hq,hP,b4⟩
  obtain ⟨zz,hzz⟩:∃ zz:Nat,max 1 q = zz:=⟨_,rfl⟩
  rw [hzz] at hP
  have hzi:max (1:Int) (q:Int) = (zz:Int):=by omega
  have HP:=Hj hP
  have HB4:=Hj ((Uh HB3).trans (b4.mono (Uh HB3).size))
  clear KF hP b4 hzz
  go_wp2_with fail
  refine bodyPost_ret (v:=.tuple #[.int .i64 (zz:Int),.int .i64 0]) (by simp [results,Tryz.results20,go_sem]; try rfl) rfl ?_
  exact ⟨Uh HB4,zz,rfl,fun h => absurd h (Uh HM0),fun _ => Uh HP⟩
set_option maxRecDepth 100000 in
set_option maxHeartbeats 16000000 in
theorem cFloor_lrow (k:Int) (G G1 G2:Nat) (wd:Bool) (R width m:Nat) (S C:List Int) (P:Nat → Prop) (a1 a2:Option Addr) (n1 c1 n2 c2:Nat) (st cols:List Int) (w:World) (h1:SlI w a1 n1 c1 st) (h2:SlI w a2 n2 c2 cols) (hT:∀ W,SlI W a1 n1 c1 st → SlI W a2 n2 c2 cols → Calls Tryz.prog 34 #[.int .i64 k,patV (R:Int) (width:Int) a1 n1 c1 a2 n2 c2] W fun e w' => TkP W w' e G G1 G2 97 wd R width a1 n1 c1 a2 n2 c2 m S C) (hF:∀ W,SlI W a1 n1 c1 st → SlI W a2 n2 c2 cols → Calls Tryz.prog 97 #[patV (R:Int) (width:Int) a1 n1 c1 a2 n2 c2] W fun e w' => ∃ q:Nat,e = .returned (.int .i64 (q:Int)) ∧ q ≤ 17592186044416 ∧ P (max 1 q) ∧ Below W.heap.size W w') :
  Calls Tryz.prog 20 #[.int .i64 k,patV (R:Int) (width:Int) a1 n1 c1 a2 n2 c2] w fun e w' => FlP m P w w' e:=by
 obtain ⟨wb,hwb⟩:∃ x,w.alloc (.cells #[.int .i64 (R:Int),.int .i64 (width:Int),.slice a1 n1 c1,.slice a2 n2 c2] 25) = x:=⟨_,rfl⟩
 have bb:Below w.heap.size w wb:=by rw [← hwb]; exact bAl
 have hT0:=BoxP.made w #[.int .i64 (R:Int),.int .i64 (width:Int),.slice a1 n1 c1,.slice a2 n2 c2] 25
 rw [hwb] at hT0
 have p0:=(hT0.all 0 _ rfl).1
 have p1:=(hT0.all 1 _ rfl).1
 have p2:=(hT0.all 2 _ rfl).1
 have p3:=(hT0.all 3 _ rfl).1
 have KT:=Hj (hT wb (h1.below bb) (h2.below bb))
 unfold patV at KT
 have HB:=Hj bb
 have HT0:=Hj hT0
 have HS:=Hj (And.intro h1 h2)
 have HF:=Hj hF
 clear hT0 bb h1 h2 hT hF
 unfold patV
 go_enter Tryz.func20,Tryz.ntmps20
 go_wp2_with fail
 refine (Uh KT).mono ?_
 rintro _ w2 ⟨x,d,y,z,rfl,hS2,hC2,b2⟩
 unfold tkV
 clear p0 p1 p2 p3 KT
 try dsimp only
 repeat ((fail_if_success (with_reducible (show Code.wp _ _ _ _ (World.alloc w2 (Obj.cells #[_,_,_,_,_,_,_,_,_,_,_,_,.slice y C.length z] _))))); (first | go_values | go_skip | go_guarded | go_step | go_upon | go_back))
 have hR:=BoxP.made w2 #[(.func (.func G) #[] #[]),(.func (.func G1) #[] #[]),(.func (.func G2) #[] #[]),(.func (.func 97) #[] #[]),(.bool wd),.int .i64 (R:Int),.int .i64 (width:Int),.slice a1 n1 c1,.slice a2 n2 c2,.int .i64 (m:Int),.int .i64 (m:Int),.slice x S.length d,.slice y C.length z] 80
 have br:Below w2.heap.size w2 (w2.alloc (.cells #[(.func (.func G) #[] #[]),(.func (.func G1) #[] #[]),(.func (.func G2) #[] #[]),(.func (.func 97) #[] #[]),(.bool wd),.int .i64 (R:Int),.int .i64 (width:Int),.slice a1 n1 c1,.slice a2 n2 c2,.int .i64 (m:Int),.int .i64 (m:Int),.slice x S.length d,.slice y C.length z] 80)):=bAl
 have hb3:=((Uh HB).trans (b2.mono (Uh HB).size)).trans (br.mono (Nat.le_trans (Uh HB).size b2.size))
 have HSC:=Hj (And.intro (hS2.below br) (hC2.below br))
 have HT3:=Hj (((Uh HT0).below b2).below br)
 clear b2 br hS2 hC2
 generalize w2.alloc (.cells #[(.func (.func G) #[] #[]),(.func (.func G1) #[] #[]),(.func (.func G2) #[] #[]),(.func (.func 97) #[] #[]),(.bool wd),.int .i64 (R:Int),.int .i64 (width:Int),.slice a1 n1 c1,.slice a2 n2 c2,.int .i64 (m:Int),.int .i64 (m:Int),.slice x S.length d,.slice y C.length z] 80) = w3 at *
 have s0:=(hR.all 0 _ rfl).1
 have s1:=(hR.all 1 _ rfl).1
 have s2:=(hR.all 2 _ rfl).1
 have s3:=(hR.all 3 _ rfl).1
 have s4:=(hR.all 4 _ rfl).1
 have s5:=(hR.all 5 _ rfl).1
 have s6:=(hR.all 6 _ rfl).1
 have s7:=(hR.all 7 _ rfl).1
 have s8:=(hR.all 8 _ rfl).1
 have s9:=(hR.all 9 _ rfl).1
 have s10:=(hR.all 10 _ rfl).1
 have s11:=(hR.all 11 _ rfl).1
 have s12:=(hR.all 12 _ rfl).1
 have HB3:=Hj hb3
 have HR:=Hj hR
 have g0:=((Uh HT3).all 0 _ rfl).1
 have g1:=((Uh HT3).all 1 _ rfl).1
 have g2:=((Uh HT3).all 2 _ rfl).1
 have g3:=((Uh HT3).all 3 _ rfl).1
 have KF:=Hj (Uh HF w3 ((Uh HS).1.below hb3) ((Uh HS).2.below hb3))
 unfold patV at KF
 clear hR hb3
 by_cases hm0:m = 0
 ·have hm0':((m:Int) == 0) = true:=by simp [hm0]
  have HM0:=Hj hm0
  clear hm0 KF
  go_wp2_with fail
  refine bodyPost_ret (by simp [results,Tryz.results20,go_sem]; try rfl) rfl ?_
  exact ⟨Uh HB3,0,rfl,fun _ => rfl,fun h => by have:=Uh HM0; omega⟩
 ·have hm0':((m:Int) == 0) = false:=by simp; omega
  have HM0:=Hj hm0
  clear hm0
  go_wp2_with fail
  refine (Uh KF).mono ?_
  rintro _ w4 ⟨q,rfl,hq,hP,b4⟩
  obtain ⟨zz,hzz⟩:∃ zz:Nat,max 1 q = zz:=⟨_,rfl⟩
  rw [hzz] at hP
  have hzi:max (1:Int) (q:Int) = (zz:Int):=by omega
  have HP:=Hj hP
  have HB4:=Hj ((Uh HB3).trans (b4.mono (Uh HB3).size))
  clear KF hP b4 hzz
  go_wp2_with fail
  refine bodyPost_ret (v:=.tuple #[.int .i64 (zz:Int),.int .i64 0]) (by simp [results,Tryz.results20,go_sem]; try rfl) rfl ?_
  exact ⟨Uh HB4,zz,rfl,fun h => absurd h (Uh HM0),fun _ => Uh HP⟩
set_option maxRecDepth 100000 in
set_option maxHeartbeats 16000000 in
theorem cFloor_lcol (k:Int) (G G1 G2:Nat) (wd:Bool) (R width m:Nat) (S C:List Int) (P:Nat → Prop) (a1 a2:Option Addr) (n1 c1 n2 c2:Nat) (st cols:List Int) (w:World) (h1:SlI w a1 n1 c1 st) (h2:SlI w a2 n2 c2 cols) (hT:∀ W,SlI W a1 n1 c1 st → SlI W a2 n2 c2 cols → Calls Tryz.prog 34 #[.int .i64 k,patV (R:Int) (width:Int) a1 n1 c1 a2 n2 c2] W fun e w' => TkP W w' e G G1 G2 100 wd R width a1 n1 c1 a2 n2 c2 m S C) (hF:∀ W,SlI W a1 n1 c1 st → SlI W a2 n2 c2 cols → Calls Tryz.prog 100 #[patV (R:Int) (width:Int) a1 n1 c1 a2 n2 c2] W fun e w' => ∃ q:Nat,e = .returned (.int .i64 (q:Int)) ∧ q ≤ 17592186044416 ∧ P (max 1 q) ∧ Below W.heap.size W w') :
  Calls Tryz.prog 20 #[.int .i64 k,patV (R:Int) (width:Int) a1 n1 c1 a2 n2 c2] w fun e w' => FlP m P w w' e:=by
 obtain ⟨wb,hwb⟩:∃ x,w.alloc (.cells #[.int .i64 (R:Int),.int .i64 (width:Int),.slice a1 n1 c1,.slice a2 n2 c2] 25) = x:=⟨_,rfl⟩
 have bb:Below w.heap.size w wb:=by rw [← hwb]; exact bAl
 have hT0:=BoxP.made w #[.int .i64 (R:Int),.int .i64 (width:Int),.slice a1 n1 c1,.slice a2 n2 c2] 25
 rw [hwb] at hT0
 have p0:=(hT0.all 0 _ rfl).1
 have p1:=(hT0.all 1 _ rfl).1
 have p2:=(hT0.all 2 _ rfl).1
 have p3:=(hT0.all 3 _ rfl).1
 have KT:=Hj (hT wb (h1.below bb) (h2.below bb))
 unfold patV at KT
 have HB:=Hj bb
 have HT0:=Hj hT0
 have HS:=Hj (And.intro h1 h2)
 have HF:=Hj hF
 clear hT0 bb h1 h2 hT hF
 unfold patV
 go_enter Tryz.func20,Tryz.ntmps20
 go_wp2_with fail
 refine (Uh KT).mono ?_
 rintro _ w2 ⟨x,d,y,z,rfl,hS2,hC2,b2⟩
 unfold tkV
 clear p0 p1 p2 p3 KT
 try dsimp only
 repeat ((fail_if_success (with_reducible (show Code.wp _ _ _ _ (World.alloc w2 (Obj.cells #[_,_,_,_,_,_,_,_,_,_,_,_,.slice y C.length z] _))))); (first | go_values | go_skip | go_guarded | go_step | go_upon | go_back))
 have hR:=BoxP.made w2 #[(.func (.func G) #[] #[]),(.func (.func G1) #[] #[]),(.func (.func G2) #[] #[]),(.func (.func 100) #[] #[]),(.bool wd),.int .i64 (R:Int),.int .i64 (width:Int),.slice a1 n1 c1,.slice a2 n2 c2,.int .i64 (m:Int),.int .i64 (m:Int),.slice x S.length d,.slice y C.length z] 80
 have br:Below w2.heap.size w2 (w2.alloc (.cells #[(.func (.func G) #[] #[]),(.func (.func G1) #[] #[]),(.func (.func G2) #[] #[]),(.func (.func 100) #[] #[]),(.bool wd),.int .i64 (R:Int),.int .i64 (width:Int),.slice a1 n1 c1,.slice a2 n2 c2,.int .i64 (m:Int),.int .i64 (m:Int),.slice x S.length d,.slice y C.length z] 80)):=bAl
 have hb3:=((Uh HB).trans (b2.mono (Uh HB).size)).trans (br.mono (Nat.le_trans (Uh HB).size b2.size))
 have HSC:=Hj (And.intro (hS2.below br) (hC2.below br))
 have HT3:=Hj (((Uh HT0).below b2).below br)
 clear b2 br hS2 hC2
 generalize w2.alloc (.cells #[(.func (.func G) #[] #[]),(.func (.func G1) #[] #[]),(.func (.func G2) #[] #[]),(.func (.func 100) #[] #[]),(.bool wd),.int .i64 (R:Int),.int .i64 (width:Int),.slice a1 n1 c1,.slice a2 n2 c2,.int .i64 (m:Int),.int .i64 (m:Int),.slice x S.length d,.slice y C.length z] 80) = w3 at *
 have s0:=(hR.all 0 _ rfl).1
 have s1:=(hR.all 1 _ rfl).1
 have s2:=(hR.all 2 _ rfl).1
 have s3:=(hR.all 3 _ rfl).1
 have s4:=(hR.all 4 _ rfl).1
 have s5:=(hR.all 5 _ rfl).1
 have s6:=(hR.all 6 _ rfl).1
 have s7:=(hR.all 7 _ rfl).1
 have s8:=(hR.all 8 _ rfl).1
 have s9:=(hR.all 9 _ rfl).1
 have s10:=(hR.all 10 _ rfl).1
 have s11:=(hR.all 11 _ rfl).1
 have s12:=(hR.all 12 _ rfl).1
 have HB3:=Hj hb3
 have HR:=Hj hR
 have g0:=((Uh HT3).all 0 _ rfl).1
 have g1:=((Uh HT3).all 1 _ rfl).1
 have g2:=((Uh HT3).all 2 _ rfl).1
 have g3:=((Uh HT3).all 3 _ rfl).1
 have KF:=Hj (Uh HF w3 ((Uh HS).1.below hb3) ((Uh HS).2.below hb3))
 unfold patV at KF
 clear hR hb3
 by_cases hm0:m = 0
 ·have hm0':((m:Int) == 0) = true:=by simp [hm0]
  have HM0:=Hj hm0
  clear hm0 KF
  go_wp2_with fail
  refine bodyPost_ret (by simp [results,Tryz.results20,go_sem]; try rfl) rfl ?_
  exact ⟨Uh HB3,0,rfl,fun _ => rfl,fun h => by have:=Uh HM0; omega⟩
 ·have hm0':((m:Int) == 0) = false:=by simp; omega
  have HM0:=Hj hm0
  clear hm0
  go_wp2_with fail
  refine (Uh KF).mono ?_
  rintro _ w4 ⟨q,rfl,hq,hP,b4⟩
  obtain ⟨zz,hzz⟩:∃ zz:Nat,max 1 q = zz:=⟨_,rfl⟩
  rw [hzz] at hP
  have hzi:max (1:Int) (q:Int) = (zz:Int):=by omega
  have HP:=Hj hP
  have HB4:=Hj ((Uh HB3).trans (b4.mono (Uh HB3).size))
  clear KF hP b4 hzz
  go_wp2_with fail
  refine bodyPost_ret (v:=.tuple #[.int .i64 (zz:Int),.int .i64 0]) (by simp [results,Tryz.results20,go_sem]; try rfl) rfl ?_
  exact ⟨Uh HB4,zz,rfl,fun h => absurd h (Uh HM0),fun _ => Uh HP⟩
end Go.Proofs.YtgjokididdffhaaGreat
