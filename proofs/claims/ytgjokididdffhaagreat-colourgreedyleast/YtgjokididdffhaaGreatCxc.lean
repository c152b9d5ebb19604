/- Cxo -/
import Derived.Test.YtgjokididdffhaaGreatCx2
import Derived.Test.YtgjokididdffhaaGreatCx3
import Derived.Test.YtgjokididdffhaaGreatCxl
import Derived.Test.YtgjokididdffhaaGreatCh3
import Derived.Test.YtgjokididdffhaaGreatCga
import Derived.Test.YtgjokididdffhaaGreatCx7
import Derived.Test.YtgjokididdffhaaGreatChm
namespace Go.Proofs.YtgjokididdffhaaGreat
open Go.RowKit Go.Deep
set_option linter.unusedVariables false
set_option maxRecDepth 100000 in
set_option maxHeartbeats 16000000 in
theorem ccircle_some (f0 f1 f2 f3:Value) (wd:Bool) (R width:Int) (a1:Option Addr) (n1 c1:Nat) (a2:Option Addr) (n2 c2 m:Nat) (b1:Option Addr) (m1 d1:Nat) (b2:Option Addr) (m2 d2:Nat) (S C:List Int) (ac:Option Addr) (cc:Nat) (xs:List Int) (w:World) (h1:SlI w b1 m1 d1 S) (h2:SlI w b2 m2 d2 C) (h3:SlI w ac m cc xs) (hb1:m1 ≤ 17592186044000) (hb2:m2 ≤ 17592186044000) (hm:MayP (m:Int) (m:Int) S C) (u v:Nat) (ho:PrO (adG S C m) (fun i => xs.getD i 0) (some (u,v))) :
  Calls Tryz.prog 103 #[taV f0 f1 f2 f3 wd R width a1 n1 c1 a2 n2 c2 m b1 m1 d1 b2 m2 d2,.slice ac m cc] w fun e w' => OwA (prL (some (u,v))) w w' e:=by
 obtain ⟨wb,hwb⟩:∃ x,w.alloc (.cells #[f0,f1,f2,f3,.bool wd,.int .i64 R,.int .i64 width,.slice a1 n1 c1,.slice a2 n2 c2,.int .i64 (m:Int),.int .i64 (m:Int),.slice b1 m1 d1,.slice b2 m2 d2] 80) = x:=⟨_,rfl⟩
 have bb:Below w.heap.size w wb:=by rw [← hwb]; exact bAl
 have hT:=BoxP.made w #[f0,f1,f2,f3,.bool wd,.int .i64 R,.int .i64 width,.slice a1 n1 c1,.slice a2 n2 c2,.int .i64 (m:Int),.int .i64 (m:Int),.slice b1 m1 d1,.slice b2 m2 d2] 80
 rw [hwb] at hT
 have p0:=(hT.all 0 _ rfl).1
 have p1:=(hT.all 1 _ rfl).1
 have p2:=(hT.all 2 _ rfl).1
 have p3:=(hT.all 3 _ rfl).1
 have p4:=(hT.all 4 _ rfl).1
 have p5:=(hT.all 5 _ rfl).1
 have p6:=(hT.all 6 _ rfl).1
 have p7:=(hT.all 7 _ rfl).1
 have p8:=(hT.all 8 _ rfl).1
 have p9:=(hT.all 9 _ rfl).1
 have p10:=(hT.all 10 _ rfl).1
 have p11:=(hT.all 11 _ rfl).1
 have p12:=(hT.all 12 _ rfl).1
 have KP:=Hj (cpair_any f0 f1 f2 f3 wd R width a1 n1 c1 a2 n2 c2 m b1 m1 d1 b2 m2 d2 S C ac cc xs wb (h1.below bb) (h2.below bb) (h3.below bb) hb1 hb2 hm (some (u,v)) ho)
 have HB:=Hj bb
 clear h1 h2 h3 bb hT hm ho
 unfold taV at KP ⊢
 go_enter Tryz.func103,Tryz.ntmps103
 go_wp2_with fail
 refine (Uh KP).mono ?_
 rintro _ w2 ⟨x,rfl,ov,bw2⟩
 have HO:=Hj ov
 have HB2:=Hj bw2
 obtain ⟨av,cv,rfl,hs⟩:=own_slG ov
 obtain ⟨L,hL⟩:∃ L,(prL (some (u,v))).length = L:=⟨_,rfl⟩
 have hL0:(0:Int) < (L:Int):=by rw [← hL]; simp [prL]
 have HL:=Hj hL
 rw [hL] at HO hs ⊢
 clear KP p0 p1 p2 p3 p4 p5 p6 p7 p8 p9 p10 p11 p12 ov bw2 hs hL
 go_wp2_with fail
 go_ret
 exact ⟨_,rfl,own_mono (by rw [Uh HL]; exact Uh HO) (Uh HB).size,(Uh HB).trans ((Uh HB2).mono (Uh HB).size)⟩
theorem ccircF_any (f0 f1 f2 f3:Value) (wd:Bool) (R width:Int) (a1:Option Addr) (n1 c1:Nat) (a2:Option Addr) (n2 c2 m:Nat) (b1:Option Addr) (m1 d1:Nat) (b2:Option Addr) (m2 d2:Nat) (S C:List Int) (ac:Option Addr) (cc:Nat) (xs:List Int) (w:World) (h1:SlI w b1 m1 d1 S) (h2:SlI w b2 m2 d2 C) (h3:SlI w ac m cc xs) (hb1:m1 ≤ 17592186044000) (hb2:m2 ≤ 17592186044000) (hm:MayP (m:Int) (m:Int) S C) (hg:GraP S C m m) (o:Option (Nat × Nat)) (ho:PrO (adG S C m) (fun i => xs.getD i 0) o) (q:Option (Int × Int)) (hq:BsI (CiP S C m xs) q) :
  Calls Tryz.prog 103 #[taV f0 f1 f2 f3 wd R width a1 n1 c1 a2 n2 c2 m b1 m1 d1 b2 m2 d2,.slice ac m cc] w fun e w' => OwA (cfL o q) w w' e:=by
 cases o with
 | none => exact ccircle_none f0 f1 f2 f3 wd R width a1 n1 c1 a2 n2 c2 m b1 m1 d1 b2 m2 d2 S C ac cc xs w h1 h2 h3 hb1 hb2 hm hg ho q hq
 | some p => exact ccircle_some f0 f1 f2 f3 wd R width a1 n1 c1 a2 n2 c2 m b1 m1 d1 b2 m2 d2 S C ac cc xs w h1 h2 h3 hb1 hb2 hm p.1 p.2 ho
theorem cqp_cip {st cols xs:List Int} {N:Nat} {Q:Nat → Bool} (hQ:∀ u v,u < N → v < N → (Q (u * N + v) = true ↔ adG st cols N u v)) (c d:Int) :
  CqP (adG st cols N) (fun i => xs.getD i 0) (fun c d => FoP (adQ Q N) (fun u => u < N ∧ twB (fun i => xs.getD i 0) c d u = true)) N 0 c d ↔ CiP st cols N xs c d:=by
 have hT:(fun u => u < N ∧ twB (fun i => xs.getD i 0) c d u = true) = TwC (fun i => xs.getD i 0) N c d:=by
  funext u
  apply propext
  unfold TwC twB
  simp
 have hF:FoP (adQ Q N) (TwC (fun i => xs.getD i 0) N c d) ↔ FoP (adG st cols N) (TwC (fun i => xs.getD i 0) N c d):=by
  have hk:∀ u v,TwC (fun i => xs.getD i 0) N c d u → TwC (fun i => xs.getD i 0) N c d v → (adQ Q N u v ↔ adG st cols N u v):=fun u v hu hv => by
   have:=hQ u v hu.1 hv.1
   unfold adQ
   first | exact this | (simp [hu.1,hv.1,this])
  exact ⟨fun f => f.ad_congr hk,fun f => f.ad_congr (fun u v hu hv => (hk u v hu hv).symm)⟩
 unfold CqP CiP
 dsimp only
 rw [hT,hF]
 constructor
 ·rintro ⟨u,v,_,h⟩
  exact ⟨u,v,h⟩
 ·rintro ⟨u,v,h⟩
  exact ⟨u,v,.inl h.1.1,h⟩
theorem bsi_cqp {st cols xs:List Int} {N:Nat} {Q:Nat → Bool} (hQ:∀ u v,u < N → v < N → (Q (u * N + v) = true ↔ adG st cols N u v)) {q:Option (Int × Int)} (h:BsI (CiP st cols N xs) q) :
  BsI (CqP (adG st cols N) (fun i => xs.getD i 0) (fun c d => FoP (adQ Q N) (fun u => u < N ∧ twB (fun i => xs.getD i 0) c d u = true)) N 0) q:=h.congr (cqp_cip hQ)
def MayC (xs:List Int) (k:Nat):Prop:=∀ i,i < k → 0 ≤ xs.getD i 0 ∧ xs.getD i 0 ≤ 65536
theorem MayC.next {xs:List Int} {k:Nat} {x:Int} (h:MayC xs k) (hx:xs.getD k 0 = x) (h0:0 ≤ x) (h1:x ≤ 65536):MayC xs (k + 1):=fun i hi => by
 by_cases e:i = k
 ·subst e; rw [hx]; exact ⟨h0,h1⟩
 ·exact h i (by omega)
set_option maxRecDepth 100000 in
set_option maxHeartbeats 8000000 in
theorem cmayAll_any (a:Option Addr) (n c:Nat) (xs:List Int) (w:World) (h:SlI w a n c xs) (hn:n ≤ 17592186044416) (ok:Bool) (hok:TruQ ok (MayC xs n)) :
  Calls Tryz.prog 37 #[.slice a n c] w fun e w' => e = .returned (.bool ok) ∧ Below w.heap.size w w':=by
 have HS:=Hj h
 have HOK:=Hj hok
 clear h hok
 go_enter Tryz.func37,Tryz.ntmps37
 go_wp2_with fail
 go_loopw [7,4] (fun kv _ wr => ∃ k:Nat,k ≤ n ∧ kv = .int .i64 (k:Int) ∧ Hid (MayC xs k) ∧ Hid (Below w.heap.size w wr)) (fun kv _ _ => n - (intOf kv).toNat)
 case atStart => exact ⟨0,Nat.zero_le _,rfl,Hj (fun i hi => absurd hi (Nat.not_lt_zero _)),Hj (Below.refl _ _)⟩
 case round =>
  obtain ⟨k,hk,rfl,HM,HW⟩:=hrel
  by_cases hlt:k < n
  ·have hlt':(k:Int) < (n:Int):=by omega
   obtain ⟨bb,off,e1,hc⟩:=((Uh HS).below (Uh HW)).at (by omega)
   subst e1
   have sk:=hc k hlt
   obtain ⟨x,hx⟩:∃ x,xs.getD k 0 = x:=⟨_,rfl⟩
   rw [hx] at sk
   have HX:=Hj hx
   clear hc hx
   by_cases hr:0 ≤ x ∧ x ≤ 65536
   ·have hx0:¬ x < 0:=by omega
    have hx1:¬ 65536 < x:=by omega
    have HM2:=Hj ((Uh HM).next (Uh HX) hr.1 hr.2)
    clear hr
    go_wp2_with fail
    exact ⟨⟨k + 1,by omega,by (first | rfl | go_num),HM2,HW⟩,by simp [intOf]; omega⟩
   ·have HF:=Hj (show ok = false from by
     rw [Bool.eq_false_iff]
     intro e
     have:=Iff.mp (Uh HOK) e k hlt
     rw [Uh HX] at this
     exact hr this)
    by_cases h0:x < 0
    ·clear hr
     go_wp2_with fail
     try go_ret
     exact ⟨by have e:=Uh HF; subst e; rfl,Uh HW⟩
    ·have hx1:65536 < x:=by omega
     clear hr
     go_wp2_with fail
     try go_ret
     exact ⟨by have e:=Uh HF; subst e; rfl,Uh HW⟩
  ·obtain rfl:k = n:=by omega
   have hlt':¬ (k:Int) < (k:Int):=by omega
   have HT:=Hj (show ok = true from Iff.mpr (Uh HOK) (Uh HM))
   go_wp2_with fail
   try go_ret
   exact ⟨by have e:=Uh HT; subst e; rfl,Uh HW⟩
set_option maxRecDepth 100000 in
set_option maxHeartbeats 8000000 in
theorem wmayC_any (a:Option Addr) (n c:Nat) (xs:List Int) (w:World) (h:SlI w a n c xs) (hn:n ≤ 17592186044416) (ok:Bool) (hok:TruQ ok (MayC xs n)) :
  Calls Tryz.prog 58 #[.int .i64 (n:Int),.slice a n c] w fun e w' => e = .returned (.bool ok) ∧ Below w.heap.size w w':=by
 have HS:=Hj h
 have HOK:=Hj hok
 have tn:((n:Int) != (n:Int)) = false:=by simp
 clear h hok
 go_enter Tryz.func58,Tryz.ntmps58
 go_wp2_with fail
 go_loopw [5,10] (fun kv _ wr => ∃ k:Nat,k ≤ n ∧ kv = .int .i64 (k:Int) ∧ Hid (MayC xs k) ∧ Hid (Below w.heap.size w wr)) (fun kv _ _ => n - (intOf kv).toNat)
 case atStart => exact ⟨0,Nat.zero_le _,rfl,Hj (fun i hi => absurd hi (Nat.not_lt_zero _)),Hj (Below.refl _ _)⟩
 case round =>
  obtain ⟨k,hk,rfl,HM,HW⟩:=hrel
  by_cases hlt:k < n
  ·have hlt':(k:Int) < (n:Int):=by omega
   obtain ⟨bb,off,e1,hc⟩:=((Uh HS).below (Uh HW)).at (by omega)
   subst e1
   have sk:=hc k hlt
   obtain ⟨x,hx⟩:∃ x,xs.getD k 0 = x:=⟨_,rfl⟩
   rw [hx] at sk
   have HX:=Hj hx
   clear hc hx
   by_cases hr:0 ≤ x ∧ x ≤ 65536
   ·have hx0:¬ x < 0:=by omega
    have hx1:¬ 65536 < x:=by omega
    have HM2:=Hj ((Uh HM).next (Uh HX) hr.1 hr.2)
    clear hr
    go_wp2_with fail
    exact ⟨⟨k + 1,by omega,by (first | rfl | go_num),HM2,HW⟩,by simp [intOf]; omega⟩
   ·have HF:=Hj (show ok = false from by
     rw [Bool.eq_false_iff]
     intro e
     have:=Iff.mp (Uh HOK) e k hlt
     rw [Uh HX] at this
     exact hr this)
    by_cases h0:x < 0
    ·clear hr
     go_wp2_with fail
     try go_ret
     exact ⟨by have e:=Uh HF; subst e; rfl,Uh HW⟩
    ·have hx1:65536 < x:=by omega
     clear hr
     go_wp2_with fail
     try go_ret
     exact ⟨by have e:=Uh HF; subst e; rfl,Uh HW⟩
  ·obtain rfl:k = n:=by omega
   have hlt':¬ (k:Int) < (k:Int):=by omega
   have HT:=Hj (show ok = true from Iff.mpr (Uh HOK) (Uh HM))
   go_wp2_with fail
   try go_ret
   exact ⟨by have e:=Uh HT; subst e; rfl,Uh HW⟩
def FaP (L:List Int) (er:Int) (w w':World) (e:Ending):Prop:=Below w.heap.size w w' ∧ ∃ a c,e = .returned (.tuple #[.slice a L.length c,.int .i64 er]) ∧ w'.ownsRow w.heap.size 3 1 (.slice a L.length c) L.length (valsI L)
def faL:Bool → Option (Nat × Nat) → List Int → List Int → List Int
 | false,_,_,_ => []
 | true,none,_,Lt => Lt
 | true,some _,Lp,_ => Lp
def faE:Bool → Int
 | false => 240
 | true => 0
set_option maxRecDepth 100000 in
set_option maxHeartbeats 8000000 in
theorem wmay2_any (a:Option Addr) (n c:Nat) (xs:List Int) (m:Nat) (w:World) (h:SlI w a n c xs) (hn:n ≤ 17592186044416) (ok:Bool) (hok:TruQ ok (n = m ∧ MayC xs n)) :
  Calls Tryz.prog 58 #[.int .i64 (m:Int),.slice a n c] w fun e w' => e = .returned (.bool ok) ∧ Below w.heap.size w w':=by
 by_cases hnm:n = m
 ·subst hnm
  exact wmayC_any a n c xs w h hn ok ⟨fun e => (hok.1 e).2,fun k => hok.2 ⟨rfl,k⟩⟩
 ·have hk:ok = false:=by rw [Bool.eq_false_iff]; intro e; exact hnm (hok.1 e).1
  have tn:((n:Int) != (m:Int)) = true:=by simp; omega
  subst hk
  clear hok hnm h
  go_enter Tryz.func58,Tryz.ntmps58
  go_wp2_with fail
  try go_ret
  exact ⟨rfl,Below.refl _ _⟩
set_option maxRecDepth 100000 in
set_option maxHeartbeats 16000000 in
theorem wFault_yes (kd:Int) (k4 k5:Bool) (hk4:(kd == 4) = k4) (hk5:(kd == 5) = k5) (R width m:Nat) (Q:Nat → Bool) (ad:Nat → Nat → Prop) (hQ:∀ u v,u < m → v < m → (Q (u * m + v) = true ↔ ad u v)) (had:∀ u v,ad u v → u < m ∧ v < m) (a:Option Addr) (n c:Nat) (xs:List Int) (a1 a2:Option Addr) (n1 c1 n2 c2:Nat) (st cols:List Int) (w:World) (h1:SlI w a1 n1 c1 st) (h2:SlI w a2 n2 c2 cols) (h3:SlI w a n c xs) (hn:n ≤ 17592186044000) (hm8:m ≤ 128) (ok:Bool) (hok:TruQ ok (n = m ∧ MayC xs n)) (o:Option (Nat × Nat)) (ho:PrO ad (fun i => xs.getD i 0) o) (Lp Lt:List Int)
  (hWh:∀ u v,o = some (u,v) → u < m → v < m → ∀ W,SlI W a1 n1 c1 st → SlI W a2 n2 c2 cols → Calls Tryz.prog 60 #[.int .i64 kd,patV (R:Int) (width:Int) a1 n1 c1 a2 n2 c2,.int .i64 (u:Int),.int .i64 (v:Int)] W fun e w' => OwA Lp W w' e)
  (hPa:k4 = true → n = m → ∀ gb W,RoV W gb (m * m) (fun i => .bool (Q i)) → SlI W a n c xs → Calls Tryz.prog 61 #[grV m gb (m * m),.slice a n c] W fun e w' => OwA Lt W w' e)
  (hCi:k4 = false → k5 = true → n = m → ∀ gb W,RoV W gb (m * m) (fun i => .bool (Q i)) → SlI W a n c xs → Calls Tryz.prog 62 #[grV m gb (m * m),.slice a n c] W fun e w' => OwA Lt W w' e)
  (hNo:k4 = false → k5 = false → Lt = [])
  (hT:∀ W,SlI W a1 n1 c1 st → SlI W a2 n2 c2 cols → Calls Tryz.prog 21 #[.int .i64 kd,patV (R:Int) (width:Int) a1 n1 c1 a2 n2 c2] W fun e w' => TgQ W w' e m (m * m) Q) :
  Calls Tryz.prog 30 #[.int .i64 kd,patV (R:Int) (width:Int) a1 n1 c1 a2 n2 c2,.slice a n c] w fun e w' => FaP (faL ok o Lp Lt) (faE ok) w w' e:=by
 obtain ⟨wb,hwb⟩:∃ x,w.alloc (.cells #[.int .i64 (R:Int),.int .i64 (width:Int),.slice a1 n1 c1,.slice a2 n2 c2] 25) = x:=⟨_,rfl⟩
 have bb:Below w.heap.size w wb:=by rw [← hwb]; exact bAl
 have hT0:=BoxP.made w #[.int .i64 (R:Int),.int .i64 (width:Int),.slice a1 n1 c1,.slice a2 n2 c2] 25
 rw [hwb] at hT0
 have p0:=(hT0.all 0 _ rfl).1
 have p1:=(hT0.all 1 _ rfl).1
 have p2:=(hT0.all 2 _ rfl).1
 have p3:=(hT0.all 3 _ rfl).1
 have KT:=Hj (hT wb (h1.below bb) (h2.below bb))
 unfold patV at KT
 have HB:=Hj bb
 have HT0:=Hj hT0
 have HX:=Hj h3
 have HOK:=Hj hok
 have HQ:=Hj hQ
 have HD:=Hj had
 have HPO:=Hj ho
 have HWh:=Hj hWh
 have HPa:=Hj hPa
 have HCi:=Hj hCi
 have HNo:=Hj hNo
 have HS12:=Hj (And.intro (h1.below bb) (h2.below bb))
 have HK45:=Hj (And.intro hk4 hk5)
 obtain ⟨mm,hmm⟩:∃ mm,m * m = mm:=⟨_,rfl⟩
 have HMM:=Hj hmm
 have hmm2:mm ≤ 16384:=by
  have:=Nat.mul_le_mul hm8 hm8
  omega
 rw [hmm] at KT HPa HCi
 unfold TgQ grV at KT
 unfold grV at HPa HCi
 unfold patV at HWh
 clear hT0 bb h1 h2 hT h3 hok hQ had ho hWh hPa hCi hNo hk4 hk5 hmm
 unfold patV
 go_enter Tryz.func30,Tryz.ntmps30
 go_wp2_with fail
 refine (Uh KT).mono ?_
 rintro _ w2 ⟨gb,rfl,hRo,b2⟩
 clear p0 p1 p2 p3 KT
 try dsimp only
 repeat ((fail_if_success (with_reducible (show Code.wp _ _ _ _ (World.alloc w2 (Obj.cells #[_,.slice (some ⟨gb,0,none⟩) mm mm] _))))); (first | go_values | go_skip | go_guarded | go_step | go_upon | go_back))
 have hG:=BoxP.made w2 #[.int .i64 (m:Int),.slice (some ⟨gb,0,none⟩) mm mm] 45
 have bg:Below w2.heap.size w2 (w2.alloc (.cells #[.int .i64 (m:Int),.slice (some ⟨gb,0,none⟩) mm mm] 45)):=bAl
 have hb3:=((Uh HB).trans (b2.mono (Uh HB).size)).trans (bg.mono (Nat.le_trans (Uh HB).size b2.size))
 have HRo:=Hj (hRo.below bg)
 have b2q:=b2
 have bgq:=bg
 clear b2 bg hRo
 generalize w2.alloc (.cells #[.int .i64 (m:Int),.slice (some ⟨gb,0,none⟩) mm mm] 45) = w3 at *
 have s0:=(hG.all 0 _ rfl).1
 have s1:=(hG.all 1 _ rfl).1
 have KO:=Hj (wmay2_any a n c xs m w3 ((Uh HX).below hb3) (by omega) ok (Uh HOK))
 have HB3:=Hj hb3
 have HG:=Hj hG
 have HTT:=Hj (((Uh HT0).below b2q).below bgq)
 clear hG hb3
 go_wp2_with fail
 refine (Uh KO).mono ?_
 rintro _ w4 ⟨rfl,b4'⟩
 have HN:=Hj (show ∀ W,Below w4.heap.size w4 W → BoxP W w2.heap.size [.int .i64 (m:Int),.slice (some ⟨gb,0,none⟩) mm mm] ∧ RoV W gb mm (fun i => .bool (Q i)) ∧ SlI W a n c xs ∧ Below w.heap.size w W from fun W k =>
  have hb4:=(Uh HB3).trans (b4'.mono (Uh HB3).size)
  ⟨((Uh HG).below b4').below k,((Uh HRo).below b4').below k,((Uh HX).below hb4).below k,hb4.trans (k.mono hb4.size)⟩)
 have HTB:=Hj (show ∀ W,Below w4.heap.size w4 W → BoxP W w.heap.size [.int .i64 (R:Int),.int .i64 (width:Int),.slice a1 n1 c1,.slice a2 n2 c2] ∧ SlI W a1 n1 c1 st ∧ SlI W a2 n2 c2 cols from fun W k =>
  ⟨((Uh HTT).below b4').below k,(((((Uh HS12).1.below b2q).below bgq).below b4').below k),(((((Uh HS12).2.below b2q).below bgq).below b4').below k)⟩)
 clear KO b4' s0 s1 b2q bgq
 cases ok
 ·have HF:=Hj (Uh HN w4 (Below.refl _ _)).2.2.2
  go_wp2_with fail
  refine bodyPost_ret (by simp [results,Tryz.results30,go_sem]; try rfl) rfl ?_
  exact ⟨Uh HF,none,0,rfl,World.ownsRow_nil _ _ _ _⟩
 ·have hok1:=(Uh HOK).1 rfl
  obtain ⟨hnm,hmc⟩:=hok1
  subst hnm
  have hx:=Uh HN w4 (Below.refl _ _)
  have p0:=(hx.1.all 0 _ rfl).1
  have HM:=Hj (show ∀ W,Below w4.heap.size w4 W → ∀ u z t,u < n → z < n → Q (u * n + z) = t → Calls Tryz.prog 59 #[.agg #[.int .i64 (n:Int),.slice (some ⟨gb,0,none⟩) mm mm],.int .i64 (u:Int),.int .i64 (z:Int)] W fun e w' => e = .returned (.bool t) ∧ Below W.heap.size W w' from fun W b u z t hu hz ht => by
   subst ht
   exact wmeet_any n gb mm u z Q W hm8 (by omega) (by omega) (by rw [← Uh HMM]; exact idx_lt hu hz) hmm2 (Uh HN W b).2.1)
  clear hx hmc
  go_wp2_with fail
  clear p0
  go_loopw [10] (fun uv wr => ∃ u:Nat,u ≤ n ∧ uv = .int .i64 (u:Int) ∧ Hid (∀ u' v',(u' < u ∨ (u' = u ∧ v' < 0)) → ¬ Pr1 ad (fun i => xs.getD i 0) u' v') ∧ Hid (Below w4.heap.size w4 wr)) (fun uv _ => n - (intOf uv).toNat)
  case atStart => exact ⟨0,Nat.zero_le _,rfl,Hj (fun u' v' h => by omega),Hj (Below.refl _ _)⟩
  case round =>
   obtain ⟨u,hu,rfl,HP,HW⟩:=hrel
   have hx:=Uh HN wr (Uh HW)
   have p0:=(hx.1.all 0 _ rfl).1
   by_cases hul:u < n
   ·have hul':(u:Int) < (n:Int):=by omega
    have hw1:IntKind.i64.wrap ((u:Int) + 1) = (u:Int) + 1:=by rw [IntKind.wrap_i64]; omega
    clear hx
    go_wp2_with fail
    clear p0
    go_loopw [11] (fun vv wq => ∃ v:Nat,u + 1 ≤ v ∧ v ≤ n ∧ vv = .int .i64 (v:Int) ∧ Hid (∀ u' v',(u' < u ∨ (u' = u ∧ v' < v)) → ¬ Pr1 ad (fun i => xs.getD i 0) u' v') ∧ Hid (Below w4.heap.size w4 wq)) (fun vv _ => n - (intOf vv).toNat)
    case atStart => exact ⟨u + 1,Nat.le_refl _,by omega,by (first | rfl | go_num),Hj (fun u' v' h k => by
     by_cases e:u' < u
     ·exact Uh HP u' v' (.inl e) k
     ·have:=k.2.1; omega),HW⟩
    case round =>
     obtain ⟨v,hv1,hv,rfl,HP2,HW2⟩:=hrel
     have hx:=Uh HN wr (Uh HW2)
     have p0:=(hx.1.all 0 _ rfl).1
     have p1:=(hx.1.all 1 _ rfl).1
     by_cases hvl:v < n
     ·have hvl':(v:Int) < (n:Int):=by omega
      obtain ⟨bc,oc,ea,hcx⟩:=hx.2.2.1.at (by omega)
      have s0:=hcx u hul
      have s1:=hcx v hvl
      obtain ⟨y0,hy0⟩:∃ y,xs.getD u 0 = y:=⟨_,rfl⟩
      obtain ⟨y1,hy1⟩:∃ y,xs.getD v 0 = y:=⟨_,rfl⟩
      rw [hy0] at s0
      rw [hy1] at s1
      obtain ⟨q1,hq1⟩:∃ t,Q (u * n + v) = t:=⟨_,rfl⟩
      have F0:=fun x':Ext wr => x'.cell s0
      have F1:=fun x':Ext wr => x'.cell s1
      have F2:=fun x':Ext wr => x'.cell p0
      have F3:=fun x':Ext wr => x'.cell p1
      have hNE:=Ext.ne wr
      have HK1:=Hj (show ∀ x':Ext wr,Calls Tryz.prog 59 #[.agg #[.int .i64 (n:Int),.slice (some ⟨gb,0,none⟩) mm mm],.int .i64 (u:Int),.int .i64 (v:Int)] x'.w fun e w' => e = .returned (.bool q1) ∧ Below x'.w.heap.size x'.w w' from fun x' => Uh HM x'.w ((Uh HW2).trans (x'.bel.mono (Uh HW2).size)) u v q1 hul hvl hq1)
      have HQ1:=Hj (show TruQ q1 (ad u v) from by rw [← hq1]; exact Uh HQ u v hul hvl)
      have HY:=Hj (And.intro hy0 hy1)
      have HNX:=Hj (show ¬ Pr1 ad (fun i => xs.getD i 0) u v → ∀ u' v',(u' < u ∨ (u' = u ∧ v' < v + 1)) → ¬ Pr1 ad (fun i => xs.getD i 0) u' v' from fun k u' v' h => by
       by_cases e:u' = u ∧ v' = v
       ·obtain ⟨rfl,rfl⟩:=e; exact k
       ·exact Uh HP2 u' v' (by omega))
      subst ea
      clear hq1 hy0 hy1 hx hcx
      cases q1
      ·have HN3:=Hj (Uh HNX (fun k => by have:=(Uh HQ1).2 k.1; cases this))
       go_wp2_with fail
       refine wp_region_ext (by kernel_rfl) (by kernel_rfl) ?_
       repeat (go_big_quiet_step ((go_at_call 59; rename_i x'; exact Ext.call (Uh HK1 x') (fun e w' h => h))))
       refine wpQuiet_nil ?_
       rintro _ ⟨xE,rfl⟩
       have HX1:=Hj (show Below w4.heap.size w4 xE.w from (Uh HW2).trans (xE.bel.mono (Uh HW2).size))
       clear F0 F1 F2 F3 hNE HK1 s0 s1 p0 p1
       go_wp2_with fail
       exact ⟨⟨v + 1,by omega,by omega,by (first | rfl | go_num),HN3,HX1⟩,by simp [intOf]; omega⟩
      ·by_cases hyy:y0 = y1
       ·have hyy':(y0 == y1) = true:=by simp [hyy]
        have hres:=PrO.at (Uh HPO) (u:=u) (v:=v) ⟨(Uh HQ1).1 (by first | rfl | trivial),by omega,(by show xs.getD u 0 = xs.getD v 0; rw [(Uh HY).1,(Uh HY).2]; exact hyy)⟩ (Uh HP2)
        have HRES:=Hj hres
        clear hyy hres
        go_wp2_with fail
        refine wp_region_ext (by kernel_rfl) (by kernel_rfl) ?_
        repeat (go_big_quiet_step ((go_at_call 59; rename_i x'; exact Ext.call (Uh HK1 x') (fun e w' h => h))))
        refine wpQuiet_nil ?_
        rintro _ ⟨xE,rfl⟩
        have HX1:=Hj (show Below w4.heap.size w4 xE.w from (Uh HW2).trans (xE.bel.mono (Uh HW2).size))
        clear F0 F1 F2 F3 hNE HK1 s0 s1 p0 p1
        have hxt:=Uh HTB xE.w (Uh HX1)
        have t0:=(hxt.1.all 0 _ rfl).1
        have t1:=(hxt.1.all 1 _ rfl).1
        have t2:=(hxt.1.all 2 _ rfl).1
        have t3:=(hxt.1.all 3 _ rfl).1
        have KW:=Hj (Uh HWh u v (Uh HRES) hul hvl xE.w hxt.2.1 hxt.2.2)
        have hF9:=(Uh HN xE.w (Uh HX1)).2.2.2
        have HF9:=Hj hF9
        clear hxt hF9
        go_wp2_with fail
        refine (Uh KW).mono ?_
        rintro _ w6 ⟨v6,rfl,hO6,b6⟩
        obtain ⟨a6,c6,rfl,hs6⟩:=own_slI hO6
        have HO6:=Hj (own_mono5 hO6 (Uh HF9).size)
        have HF6:=Hj ((Uh HF9).trans (b6.mono (Uh HF9).size))
        have hres:=Uh HRES
        subst hres
        clear KW hO6 hs6 b6
        go_wp2_with fail
        refine bodyPost_ret (by simp [results,Tryz.results30,go_sem]; try rfl) rfl ?_
        exact ⟨Uh HF6,_,_,rfl,Uh HO6⟩
       ·have hyy':(y0 == y1) = false:=by simp [hyy]
        have HN3:=Hj (Uh HNX (fun k => by have h9:xs.getD u 0 = xs.getD v 0:=k.2.2; rw [(Uh HY).1,(Uh HY).2] at h9; exact hyy h9))
        clear hyy
        go_wp2_with fail
        refine wp_region_ext (by kernel_rfl) (by kernel_rfl) ?_
        repeat (go_big_quiet_step ((go_at_call 59; rename_i x'; exact Ext.call (Uh HK1 x') (fun e w' h => h))))
        refine wpQuiet_nil ?_
        rintro _ ⟨xE,rfl⟩
        have HX1:=Hj (show Below w4.heap.size w4 xE.w from (Uh HW2).trans (xE.bel.mono (Uh HW2).size))
        clear F0 F1 F2 F3 hNE HK1 s0 s1 p0 p1
        go_wp2_with fail
        exact ⟨⟨v + 1,by omega,by omega,by (first | rfl | go_num),HN3,HX1⟩,by simp [intOf]; omega⟩
     ·obtain rfl:v = n:=by omega
      have hvl':¬ (v:Int) < (v:Int):=by omega
      have HN3:=Hj (show ∀ u' v',(u' < u + 1 ∨ (u' = u + 1 ∧ v' < 0)) → ¬ Pr1 ad (fun i => xs.getD i 0) u' v' from fun u' v' h k => by
       have:=(Uh HD u' v' k.1).2
       exact Uh HP2 u' v' (by omega) k)
      clear hx
      go_wp2_with fail
      exact ⟨⟨u + 1,by omega,by (first | rfl | go_num),HN3,HW2⟩,by simp [intOf]; omega⟩
   ·obtain rfl:u = n:=by omega
    have hul':¬ (u:Int) < (u:Int):=by omega
    have hres:=PrO.no (Uh HPO) (fun u' v' k => Uh HP u' v' (.inl (Uh HD u' v' k.1).1) k)
    subst hres
    have p1:=(hx.1.all 1 _ rfl).1
    have HF9:=Hj hx.2.2.2
    obtain ⟨hk4,hk5⟩:=Uh HK45
    cases k4
    ·cases k5
     ·have hL:=Uh HNo (by first | rfl | trivial) (by first | rfl | trivial)
      subst hL
      clear hx
      go_wp2_with fail
      refine bodyPost_ret (by simp [results,Tryz.results30,go_sem]; try rfl) rfl ?_
      exact ⟨Uh HF9,none,0,rfl,World.ownsRow_nil _ _ _ _⟩
     ·have KC:=Hj (Uh HCi (by first | rfl | trivial) (by first | rfl | trivial) (by first | rfl | trivial) gb wr hx.2.1 hx.2.2.1)
      clear hx
      go_wp2_with fail
      refine (Uh KC).mono ?_
      rintro _ w6 ⟨v6,rfl,hO6,b6⟩
      obtain ⟨a6,c6,rfl,hs6⟩:=own_slI hO6
      have HO6:=Hj (own_mono5 hO6 (Uh HF9).size)
      have HF6:=Hj ((Uh HF9).trans (b6.mono (Uh HF9).size))
      clear KC hO6 hs6 b6 p0 p1
      go_wp2_with fail
      refine bodyPost_ret (by simp [results,Tryz.results30,go_sem]; try rfl) rfl ?_
      exact ⟨Uh HF6,_,_,rfl,Uh HO6⟩
    ·have KC:=Hj (Uh HPa (by first | rfl | trivial) (by first | rfl | trivial) gb wr hx.2.1 hx.2.2.1)
     clear hx hk5
     go_wp2_with fail
     refine (Uh KC).mono ?_
     rintro _ w6 ⟨v6,rfl,hO6,b6⟩
     obtain ⟨a6,c6,rfl,hs6⟩:=own_slI hO6
     have HO6:=Hj (own_mono5 hO6 (Uh HF9).size)
     have HF6:=Hj ((Uh HF9).trans (b6.mono (Uh HF9).size))
     clear KC hO6 hs6 b6 p0 p1
     go_wp2_with fail
     refine bodyPost_ret (by simp [results,Tryz.results30,go_sem]; try rfl) rfl ?_
     exact ⟨Uh HF6,_,_,rfl,Uh HO6⟩
def ckE:List Int → Int → Int
 | [],er => er
 | _ :: _,er => if er = 0 then 241 else er
set_option maxRecDepth 100000 in
set_option maxHeartbeats 16000000 in
theorem cCheck_by (k rows width er:Int) (L:List Int) (a1 a2 a:Option Addr) (n1 c1 n2 c2 n c:Nat) (w:World) (hF:∀ W,Below w.heap.size w W → Calls Tryz.prog 14 #[.int .i64 k,patV rows width a1 n1 c1 a2 n2 c2,.slice a n c] W fun e w' => FaP L er W w' e) :
  Calls Tryz.prog 15 #[.int .i64 k,patV rows width a1 n1 c1 a2 n2 c2,.slice a n c] w fun e w' => e = .returned (.int .i64 (ckE L er)) ∧ Below w.heap.size w w':=by
 obtain ⟨wb,hwb⟩:∃ x,w.alloc (.cells #[.int .i64 rows,.int .i64 width,.slice a1 n1 c1,.slice a2 n2 c2] 25) = x:=⟨_,rfl⟩
 have bb:Below w.heap.size w wb:=by rw [← hwb]; exact bAl
 have hT:=BoxP.made w #[.int .i64 rows,.int .i64 width,.slice a1 n1 c1,.slice a2 n2 c2] 25
 rw [hwb] at hT
 have p0:=(hT.all 0 _ rfl).1
 have p1:=(hT.all 1 _ rfl).1
 have p2:=(hT.all 2 _ rfl).1
 have p3:=(hT.all 3 _ rfl).1
 have KF:=Hj (hF wb bb)
 unfold patV at KF
 have HB:=Hj bb
 clear hT bb hF
 have key:∀ e:Int,e = er → (e == 0) = (er == 0):=fun e h => by rw [h]
 cases L with
 | nil =>
  have hce:ckE [] er = er:=rfl
  rw [hce]
  unfold patV
  by_cases he:er = 0
  ·have he':(er == 0) = true:=by simp [he]
   clear he key hce
   go_enter Tryz.func15,Tryz.ntmps15
   go_wp2_with fail
   refine (Uh KF).mono ?_
   rintro _ w2 ⟨b2,a6,c6,rfl,hO⟩
   have HF2:=Hj ((Uh HB).trans (b2.mono (Uh HB).size))
   clear KF b2 hO p0 p1 p2 p3
   go_wp2_with fail
   try go_ret
   exact ⟨rfl,Uh HF2⟩
  ·have he':(er == 0) = false:=by simp [he]
   clear he key hce
   go_enter Tryz.func15,Tryz.ntmps15
   go_wp2_with fail
   refine (Uh KF).mono ?_
   rintro _ w2 ⟨b2,a6,c6,rfl,hO⟩
   have HF2:=Hj ((Uh HB).trans (b2.mono (Uh HB).size))
   clear KF b2 hO p0 p1 p2 p3
   go_wp2_with fail
   try go_ret
   exact ⟨rfl,Uh HF2⟩
 | cons x L =>
  unfold patV
  obtain ⟨z,hz⟩:∃ z,(x :: L).length = z:=⟨_,rfl⟩
  have hzp:0 < z:=by rw [← hz]; simp
  have hzp':decide (0 < z) = true:=by simp [hzp]
  have hzi:(0:Int) < (z:Int):=by omega
  by_cases he:er = 0
  ·have he':(er == 0) = true:=by simp [he]
   have hce:ckE (x :: L) er = 241:=by show (if er = 0 then (241:Int) else er) = 241; rw [if_pos he]
   rw [hce]
   clear he key hce
   go_enter Tryz.func15,Tryz.ntmps15
   go_wp2_with fail
   refine (Uh KF).mono ?_
   rintro _ w2 ⟨b2,a6,c6,rfl,hO⟩
   rw [hz]
   have HF2:=Hj ((Uh HB).trans (b2.mono (Uh HB).size))
   clear KF b2 hO p0 p1 p2 p3 hz
   go_wp2_with fail
   try go_ret
   exact ⟨rfl,Uh HF2⟩
  ·have he':(er == 0) = false:=by simp [he]
   have hce:ckE (x :: L) er = er:=by show (if er = 0 then (241:Int) else er) = er; rw [if_neg he]
   rw [hce]
   clear he key hce
   go_enter Tryz.func15,Tryz.ntmps15
   go_wp2_with fail
   refine (Uh KF).mono ?_
   rintro _ w2 ⟨b2,a6,c6,rfl,hO⟩
   rw [hz]
   have HF2:=Hj ((Uh HB).trans (b2.mono (Uh HB).size))
   clear KF b2 hO p0 p1 p2 p3 hz
   go_wp2_with fail
   try go_ret
   exact ⟨rfl,Uh HF2⟩
end Go.Proofs.YtgjokididdffhaaGreat
