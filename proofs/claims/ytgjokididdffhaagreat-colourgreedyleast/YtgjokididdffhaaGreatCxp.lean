/- Cx9 -/
import Derived.Test.YtgjokididdffhaaGreatCx4
import Derived.Test.YtgjokididdffhaaGreatRq0
import Derived.Test.YtgjokididdffhaaGreatCxc
import Derived.Test.YtgjokididdffhaaGreatCxb
import Derived.Test.YtgjokididdffhaaGreatCx3
import Derived.Test.YtgjokididdffhaaGreatCxd
import Derived.Test.YtgjokididdffhaaGreatCx7
import Derived.Test.YtgjokididdffhaaGreatCx8
namespace Go.Proofs.YtgjokididdffhaaGreat
open Go.RowKit Go.Deep
set_option linter.unusedVariables false
theorem own_three {base:Nat} (w:World) (a b c:Int) (hb:base ≤ w.heap.size):(w.alloc (.cells #[.int .i64 a,.int .i64 b,.int .i64 c] 3)).ownsRow base 3 1 (.slice (some ⟨w.heap.size,0,none⟩) 3 3) 3 (valsI [a,b,c]) :=
 ⟨by simp [valsI],.inr ⟨w.heap.size,3,_,rfl,hb,heap_alloc_new w _,Nat.le_refl _,by decide,by simp,by simp [valsI]⟩⟩
set_option maxRecDepth 100000 in
set_option maxHeartbeats 16000000 in
theorem wwhere_cols (kd:Int) (hk2:(kd == 2) = true) (R width:Nat) (a1 a2:Option Addr) (n1 c1 n2 c2:Nat) (st cols:List Int) (u v:Nat) (w:World) (h1:SlI w a1 n1 c1 st) (h2:SlI w a2 n2 c2 cols) (hb1:n1 ≤ 17592186044416) (hb2:n2 ≤ 17592186044416) (hm:MayP (R:Int) (width:Int) st cols) (hu:u < width) (hv:v < width) (kk:Nat) (hkk:kk < R) (hk:InC st cols u kk ∧ InC st cols v kk ∧ ∀ j,j < kk → ¬ (InC st cols u j ∧ InC st cols v j)) :
  Calls Tryz.prog 60 #[.int .i64 kd,patV (R:Int) (width:Int) a1 n1 c1 a2 n2 c2,.int .i64 (u:Int),.int .i64 (v:Int)] w fun e w' => OwA [(u:Int),(v:Int),(kk:Int)] w w' e:=by
 have hR8:R ≤ 128 ∧ width ≤ 128:=by have:=hm.head.fit; omega
 obtain ⟨wb,hwb⟩:∃ x,w.alloc (.cells #[.int .i64 (R:Int),.int .i64 (width:Int),.slice a1 n1 c1,.slice a2 n2 c2] 25) = x:=⟨_,rfl⟩
 have bb:Below w.heap.size w wb:=by rw [← hwb]; exact bAl
 have hT:=BoxP.made w #[.int .i64 (R:Int),.int .i64 (width:Int),.slice a1 n1 c1,.slice a2 n2 c2] 25
 rw [hwb] at hT
 have p0:=(hT.all 0 _ rfl).1
 have p1:=(hT.all 1 _ rfl).1
 have p2:=(hT.all 2 _ rfl).1
 have p3:=(hT.all 3 _ rfl).1
 have KO:=Hj (wopen_any R width a1 a2 n1 c1 n2 c2 st cols wb (h1.below bb) (h2.below bb) hb1 hb2 hm)
 obtain ⟨nn,hnn⟩:∃ nn,R * width = nn:=⟨_,rfl⟩
 have hnn2:nn ≤ 16384:=by rw [← hnn]; exact Nat.mul_le_mul hR8.1 hR8.2
 rw [hnn] at KO
 unfold patV gridV at KO
 have HT:=Hj hT
 have HB:=Hj bb
 have HM:=Hj hm
 have HNN:=Hj hnn
 clear hT bb h1 h2 hm hnn
 unfold patV
 go_enter Tryz.func60,Tryz.ntmps60
 go_wp2_with fail
 refine (Uh KO).mono ?_
 rintro _ w2 ⟨b,rfl,hRo,b2⟩
 have hG0:=BoxP.made w2 #[.int .i64 (R:Int),.int .i64 (width:Int),.slice (some ⟨b,0,none⟩) nn nn] 131
 obtain ⟨wg,hwg⟩:∃ x,w2.alloc (.cells #[.int .i64 (R:Int),.int .i64 (width:Int),.slice (some ⟨b,0,none⟩) nn nn] 131) = x:=⟨_,rfl⟩
 have bg:Below w2.heap.size w2 wg:=by rw [← hwg]; exact bAl
 rw [hwg] at hG0
 obtain ⟨GB,hGB⟩:∃ GB,w2.heap.size = GB:=⟨_,rfl⟩
 rw [hGB] at hG0
 have b2g:=b2.trans (bg.mono b2.size)
 have HN:=Hj (show ∀ W,Below wg.heap.size wg W → BoxP W w.heap.size [.int .i64 (R:Int),.int .i64 (width:Int),.slice a1 n1 c1,.slice a2 n2 c2] ∧ BoxP W GB [.int .i64 (R:Int),.int .i64 (width:Int),.slice (some ⟨b,0,none⟩) nn nn] ∧ Below w.heap.size w W from fun W k => ⟨((Uh HT).below b2g).below k,hG0.below k,((Uh HB).trans (b2g.mono (Uh HB).size)).trans (k.mono (Nat.le_trans (Uh HB).size b2g.size))⟩)
 have HAT:=Hj (show ∀ W,Below wg.heap.size wg W → ∀ r c t,r < R → c < width → TruQ t (InC st cols c r) → Calls Tryz.prog 77 #[.agg #[.int .i64 (R:Int),.int .i64 (width:Int),.slice (some ⟨b,0,none⟩) nn nn],.int .i64 (r:Int),.int .i64 (c:Int)] W fun e w' => e = .returned (.bool t) ∧ Below W.heap.size W w' from fun W k r c t hr hc ht => by
  have h9:=wat_any R width b nn r c (fun x => tb (Vis R width st cols cols.length x)) W hR8.2 (by omega) (by omega) (by rw [← Uh HNN]; exact idx_lt hr hc) hnn2 ((hRo.below bg).below k)
  have e9:t = tb (Vis R width st cols cols.length (r * width + c)):=by
   have h1:t = true ↔ InC st cols c r:=ht
   have h2:tb (Vis R width st cols cols.length (r * width + c)) = true ↔ InC st cols c r:=vis_in (Uh HM) hr hc
   rw [Bool.eq_iff_iff,h1,h2]
  rw [e9]
  exact h9)
 clear KO p0 p1 p2 p3 hG0 bg b2 b2g hRo
 have HX0:=Hj (Below.refl wg.heap.size wg)
 have HK:=Hj hk
 clear hk
 go_wp2_with fail
 go_loopw [10] (fun kv wr => ∃ k:Nat,k ≤ kk ∧ kv = .int .i64 (k:Int) ∧ Hid (Below wg.heap.size wg wr)) (fun kv _ => R - (intOf kv).toNat)
 case atStart => exact ⟨0,Nat.zero_le _,rfl,HX0⟩
 case round =>
  obtain ⟨k,hk,rfl,HW⟩:=hrel
  have hkn:k < R:=by omega
  have hkn':(k:Int) < (R:Int):=by omega
  obtain ⟨t1,ht1⟩:=truth (InC st cols u k)
  obtain ⟨t2,ht2⟩:=truth (InC st cols v k)
  have hx:=Uh HN wr (Uh HW)
  have p0:=(hx.1.all 0 _ rfl).1
  have p1:=(hx.1.all 1 _ rfl).1
  have g0:=(hx.2.1.all 0 _ rfl).1
  have g1:=(hx.2.1.all 1 _ rfl).1
  have g2:=(hx.2.1.all 2 _ rfl).1
  have K1:=Hj (Uh HAT wr (Uh HW) k u t1 (by omega) (by omega) ht1)
  have K2:=Hj (fun W (q:Below wg.heap.size wg W) => Uh HAT W q k v t2 (by omega) (by omega) ht2)
  have HT1:=Hj (show TruQ t1 _ from ht1)
  have HT2:=Hj (show TruQ t2 _ from ht2)
  clear hx ht1 ht2
  go_wp2_with fail
  refine (Uh K1).mono ?_
  rintro _ w5 ⟨rfl,b5⟩
  have HW5:=Hj ((Uh HW).trans (b5.mono (Uh HW).size))
  have K3:=Hj (Uh K2 w5 (Uh HW5))
  have hx:=Uh HN w5 (Uh HW5)
  clear K1 K2 b5 p0 p1 g0 g1 g2
  have g0:=(hx.2.1.all 0 _ rfl).1
  have g1:=(hx.2.1.all 1 _ rfl).1
  have g2:=(hx.2.1.all 2 _ rfl).1
  clear hx
  cases t1
  ·have hne:k ≠ kk:=fun e => by subst e; have:=(Uh HT1).2 (Uh HK).1; cases this
   go_wp2_with fail
   exact ⟨⟨k + 1,by omega,by (first | rfl | go_num),HW5⟩,by simp [intOf]; omega⟩
  ·go_wp2_with fail
   refine (Uh K3).mono ?_
   rintro _ w6 ⟨rfl,b6⟩
   have HW6:=Hj ((Uh HW5).trans (b6.mono (Uh HW5).size))
   clear K3 b6 g0 g1 g2
   cases t2
   ·have hne:k ≠ kk:=fun e => by subst e; have:=(Uh HT2).2 (Uh HK).2.1; cases this
    go_wp2_with fail
    exact ⟨⟨k + 1,by omega,by (first | rfl | go_num),HW6⟩,by simp [intOf]; omega⟩
   ·have hke:k = kk:=by
     apply Classical.byContradiction
     intro hne
     exact (Uh HK).2.2 k (by omega) ⟨(Uh HT1).1 (by first | rfl | trivial),(Uh HT2).1 (by first | rfl | trivial)⟩
    subst hke
    have HF:=Hj (Uh HN w6 (Uh HW6)).2.2
    go_wp2_with fail
    try go_ret
    exact ⟨_,rfl,own_three _ _ _ _ (Uh HF).size,(Uh HF).alloc (Uh HF).size _⟩
set_option maxRecDepth 100000 in
set_option maxHeartbeats 16000000 in
theorem wwhere_rows (kd:Int) (hk2:(kd == 2) = false) (hk3:(kd == 3) = true) (R width:Nat) (a1 a2:Option Addr) (n1 c1 n2 c2:Nat) (st cols:List Int) (u v:Nat) (w:World) (h1:SlI w a1 n1 c1 st) (h2:SlI w a2 n2 c2 cols) (hb1:n1 ≤ 17592186044416) (hb2:n2 ≤ 17592186044416) (hm:MayP (R:Int) (width:Int) st cols) (hu:u < R) (hv:v < R) (kk:Nat) (hkk:kk < width) (hk:InC st cols kk u ∧ InC st cols kk v ∧ ∀ j,j < kk → ¬ (InC st cols j u ∧ InC st cols j v)) :
  Calls Tryz.prog 60 #[.int .i64 kd,patV (R:Int) (width:Int) a1 n1 c1 a2 n2 c2,.int .i64 (u:Int),.int .i64 (v:Int)] w fun e w' => OwA [(u:Int),(v:Int),(kk:Int)] w w' e:=by
 have hR8:R ≤ 128 ∧ width ≤ 128:=by have:=hm.head.fit; omega
 obtain ⟨wb,hwb⟩:∃ x,w.alloc (.cells #[.int .i64 (R:Int),.int .i64 (width:Int),.slice a1 n1 c1,.slice a2 n2 c2] 25) = x:=⟨_,rfl⟩
 have bb:Below w.heap.size w wb:=by rw [← hwb]; exact bAl
 have hT:=BoxP.made w #[.int .i64 (R:Int),.int .i64 (width:Int),.slice a1 n1 c1,.slice a2 n2 c2] 25
 rw [hwb] at hT
 have p0:=(hT.all 0 _ rfl).1
 have p1:=(hT.all 1 _ rfl).1
 have p2:=(hT.all 2 _ rfl).1
 have p3:=(hT.all 3 _ rfl).1
 have KO:=Hj (wopen_any R width a1 a2 n1 c1 n2 c2 st cols wb (h1.below bb) (h2.below bb) hb1 hb2 hm)
 obtain ⟨nn,hnn⟩:∃ nn,R * width = nn:=⟨_,rfl⟩
 have hnn2:nn ≤ 16384:=by rw [← hnn]; exact Nat.mul_le_mul hR8.1 hR8.2
 rw [hnn] at KO
 unfold patV gridV at KO
 have HT:=Hj hT
 have HB:=Hj bb
 have HM:=Hj hm
 have HNN:=Hj hnn
 clear hT bb h1 h2 hm hnn
 unfold patV
 go_enter Tryz.func60,Tryz.ntmps60
 go_wp2_with fail
 refine (Uh KO).mono ?_
 rintro _ w2 ⟨b,rfl,hRo,b2⟩
 have hG0:=BoxP.made w2 #[.int .i64 (R:Int),.int .i64 (width:Int),.slice (some ⟨b,0,none⟩) nn nn] 131
 obtain ⟨wg,hwg⟩:∃ x,w2.alloc (.cells #[.int .i64 (R:Int),.int .i64 (width:Int),.slice (some ⟨b,0,none⟩) nn nn] 131) = x:=⟨_,rfl⟩
 have bg:Below w2.heap.size w2 wg:=by rw [← hwg]; exact bAl
 rw [hwg] at hG0
 obtain ⟨GB,hGB⟩:∃ GB,w2.heap.size = GB:=⟨_,rfl⟩
 rw [hGB] at hG0
 have b2g:=b2.trans (bg.mono b2.size)
 have HN:=Hj (show ∀ W,Below wg.heap.size wg W → BoxP W w.heap.size [.int .i64 (R:Int),.int .i64 (width:Int),.slice a1 n1 c1,.slice a2 n2 c2] ∧ BoxP W GB [.int .i64 (R:Int),.int .i64 (width:Int),.slice (some ⟨b,0,none⟩) nn nn] ∧ Below w.heap.size w W from fun W k => ⟨((Uh HT).below b2g).below k,hG0.below k,((Uh HB).trans (b2g.mono (Uh HB).size)).trans (k.mono (Nat.le_trans (Uh HB).size b2g.size))⟩)
 have HAT:=Hj (show ∀ W,Below wg.heap.size wg W → ∀ r c t,r < R → c < width → TruQ t (InC st cols c r) → Calls Tryz.prog 77 #[.agg #[.int .i64 (R:Int),.int .i64 (width:Int),.slice (some ⟨b,0,none⟩) nn nn],.int .i64 (r:Int),.int .i64 (c:Int)] W fun e w' => e = .returned (.bool t) ∧ Below W.heap.size W w' from fun W k r c t hr hc ht => by
  have h9:=wat_any R width b nn r c (fun x => tb (Vis R width st cols cols.length x)) W hR8.2 (by omega) (by omega) (by rw [← Uh HNN]; exact idx_lt hr hc) hnn2 ((hRo.below bg).below k)
  have e9:t = tb (Vis R width st cols cols.length (r * width + c)):=by
   have h1:t = true ↔ InC st cols c r:=ht
   have h2:tb (Vis R width st cols cols.length (r * width + c)) = true ↔ InC st cols c r:=vis_in (Uh HM) hr hc
   rw [Bool.eq_iff_iff,h1,h2]
  rw [e9]
  exact h9)
 clear KO p0 p1 p2 p3 hG0 bg b2 b2g hRo
 have HX0:=Hj (Below.refl wg.heap.size wg)
 have HK:=Hj hk
 clear hk
 go_wp2_with fail
 go_loopw [10] (fun kv wr => kv = .int .i64 0 ∧ Hid (Below wg.heap.size wg wr)) (fun kv _ => 0)
 case atStart => exact ⟨rfl,HX0⟩
 case round =>
  obtain ⟨rfl,HX0⟩:=hrel
  go_wp2_with fail
  go_loopw [11] (fun kv wr => ∃ k:Nat,k ≤ kk ∧ kv = .int .i64 (k:Int) ∧ Hid (Below wg.heap.size wg wr)) (fun kv _ => width - (intOf kv).toNat)
  case atStart => exact ⟨0,Nat.zero_le _,rfl,HX0⟩
  case round =>
   obtain ⟨k,hk,rfl,HW⟩:=hrel
   have hkn:k < width:=by omega
   have hkn':(k:Int) < (width:Int):=by omega
   obtain ⟨t1,ht1⟩:=truth (InC st cols k u)
   obtain ⟨t2,ht2⟩:=truth (InC st cols k v)
   have hx:=Uh HN wr (Uh HW)
   have p0:=(hx.1.all 0 _ rfl).1
   have p1:=(hx.1.all 1 _ rfl).1
   have g0:=(hx.2.1.all 0 _ rfl).1
   have g1:=(hx.2.1.all 1 _ rfl).1
   have g2:=(hx.2.1.all 2 _ rfl).1
   have K1:=Hj (Uh HAT wr (Uh HW) u k t1 (by omega) (by omega) ht1)
   have K2:=Hj (fun W (q:Below wg.heap.size wg W) => Uh HAT W q v k t2 (by omega) (by omega) ht2)
   have HT1:=Hj (show TruQ t1 _ from ht1)
   have HT2:=Hj (show TruQ t2 _ from ht2)
   clear hx ht1 ht2
   go_wp2_with fail
   refine (Uh K1).mono ?_
   rintro _ w5 ⟨rfl,b5⟩
   have HW5:=Hj ((Uh HW).trans (b5.mono (Uh HW).size))
   have K3:=Hj (Uh K2 w5 (Uh HW5))
   have hx:=Uh HN w5 (Uh HW5)
   clear K1 K2 b5 p0 p1 g0 g1 g2
   have g0:=(hx.2.1.all 0 _ rfl).1
   have g1:=(hx.2.1.all 1 _ rfl).1
   have g2:=(hx.2.1.all 2 _ rfl).1
   clear hx
   cases t1
   ·have hne:k ≠ kk:=fun e => by subst e; have:=(Uh HT1).2 (Uh HK).1; cases this
    go_wp2_with fail
    exact ⟨⟨k + 1,by omega,by (first | rfl | go_num),HW5⟩,by simp [intOf]; omega⟩
   ·go_wp2_with fail
    refine (Uh K3).mono ?_
    rintro _ w6 ⟨rfl,b6⟩
    have HW6:=Hj ((Uh HW5).trans (b6.mono (Uh HW5).size))
    clear K3 b6 g0 g1 g2
    cases t2
    ·have hne:k ≠ kk:=fun e => by subst e; have:=(Uh HT2).2 (Uh HK).2.1; cases this
     go_wp2_with fail
     exact ⟨⟨k + 1,by omega,by (first | rfl | go_num),HW6⟩,by simp [intOf]; omega⟩
    ·have hke:k = kk:=by
      apply Classical.byContradiction
      intro hne
      exact (Uh HK).2.2 k (by omega) ⟨(Uh HT1).1 (by first | rfl | trivial),(Uh HT2).1 (by first | rfl | trivial)⟩
     subst hke
     have HF:=Hj (Uh HN w6 (Uh HW6)).2.2
     go_wp2_with fail
     try go_ret
     exact ⟨_,rfl,own_three _ _ _ _ (Uh HF).size,(Uh HF).alloc (Uh HF).size _⟩
set_option maxRecDepth 100000 in
set_option maxHeartbeats 16000000 in
theorem wwhere_off (kd:Int) (hk2:(kd == 2) = false) (hk3:(kd == 3) = false) (R width:Nat) (a1 a2:Option Addr) (n1 c1 n2 c2:Nat) (st cols:List Int) (u v:Nat) (w:World) (h1:SlI w a1 n1 c1 st) (h2:SlI w a2 n2 c2 cols) (hb1:n1 ≤ 17592186044416) (hb2:n2 ≤ 17592186044416) (hm:MayP (R:Int) (width:Int) st cols) :
  Calls Tryz.prog 60 #[.int .i64 kd,patV (R:Int) (width:Int) a1 n1 c1 a2 n2 c2,.int .i64 (u:Int),.int .i64 (v:Int)] w fun e w' => OwA [(u:Int),(v:Int)] w w' e:=by
 have hR8:R ≤ 128 ∧ width ≤ 128:=by have:=hm.head.fit; omega
 obtain ⟨wb,hwb⟩:∃ x,w.alloc (.cells #[.int .i64 (R:Int),.int .i64 (width:Int),.slice a1 n1 c1,.slice a2 n2 c2] 25) = x:=⟨_,rfl⟩
 have bb:Below w.heap.size w wb:=by rw [← hwb]; exact bAl
 have hT:=BoxP.made w #[.int .i64 (R:Int),.int .i64 (width:Int),.slice a1 n1 c1,.slice a2 n2 c2] 25
 rw [hwb] at hT
 have p0:=(hT.all 0 _ rfl).1
 have p1:=(hT.all 1 _ rfl).1
 have p2:=(hT.all 2 _ rfl).1
 have p3:=(hT.all 3 _ rfl).1
 have KO:=Hj (wopen_any R width a1 a2 n1 c1 n2 c2 st cols wb (h1.below bb) (h2.below bb) hb1 hb2 hm)
 obtain ⟨nn,hnn⟩:∃ nn,R * width = nn:=⟨_,rfl⟩
 have hnn2:nn ≤ 16384:=by rw [← hnn]; exact Nat.mul_le_mul hR8.1 hR8.2
 rw [hnn] at KO
 unfold patV gridV at KO
 have HT:=Hj hT
 have HB:=Hj bb
 have HM:=Hj hm
 have HNN:=Hj hnn
 clear hT bb h1 h2 hm hnn
 unfold patV
 go_enter Tryz.func60,Tryz.ntmps60
 go_wp2_with fail
 refine (Uh KO).mono ?_
 rintro _ w2 ⟨b,rfl,hRo,b2⟩
 have hG0:=BoxP.made w2 #[.int .i64 (R:Int),.int .i64 (width:Int),.slice (some ⟨b,0,none⟩) nn nn] 131
 obtain ⟨wg,hwg⟩:∃ x,w2.alloc (.cells #[.int .i64 (R:Int),.int .i64 (width:Int),.slice (some ⟨b,0,none⟩) nn nn] 131) = x:=⟨_,rfl⟩
 have bg:Below w2.heap.size w2 wg:=by rw [← hwg]; exact bAl
 rw [hwg] at hG0
 obtain ⟨GB,hGB⟩:∃ GB,w2.heap.size = GB:=⟨_,rfl⟩
 rw [hGB] at hG0
 have b2g:=b2.trans (bg.mono b2.size)
 have HN:=Hj (show ∀ W,Below wg.heap.size wg W → BoxP W w.heap.size [.int .i64 (R:Int),.int .i64 (width:Int),.slice a1 n1 c1,.slice a2 n2 c2] ∧ BoxP W GB [.int .i64 (R:Int),.int .i64 (width:Int),.slice (some ⟨b,0,none⟩) nn nn] ∧ Below w.heap.size w W from fun W k => ⟨((Uh HT).below b2g).below k,hG0.below k,((Uh HB).trans (b2g.mono (Uh HB).size)).trans (k.mono (Nat.le_trans (Uh HB).size b2g.size))⟩)
 have HAT:=Hj (show ∀ W,Below wg.heap.size wg W → ∀ r c t,r < R → c < width → TruQ t (InC st cols c r) → Calls Tryz.prog 77 #[.agg #[.int .i64 (R:Int),.int .i64 (width:Int),.slice (some ⟨b,0,none⟩) nn nn],.int .i64 (r:Int),.int .i64 (c:Int)] W fun e w' => e = .returned (.bool t) ∧ Below W.heap.size W w' from fun W k r c t hr hc ht => by
  have h9:=wat_any R width b nn r c (fun x => tb (Vis R width st cols cols.length x)) W hR8.2 (by omega) (by omega) (by rw [← Uh HNN]; exact idx_lt hr hc) hnn2 ((hRo.below bg).below k)
  have e9:t = tb (Vis R width st cols cols.length (r * width + c)):=by
   have h1:t = true ↔ InC st cols c r:=ht
   have h2:tb (Vis R width st cols cols.length (r * width + c)) = true ↔ InC st cols c r:=vis_in (Uh HM) hr hc
   rw [Bool.eq_iff_iff,h1,h2]
  rw [e9]
  exact h9)
 clear KO p0 p1 p2 p3 hG0 bg b2 b2g hRo
 have HX0:=Hj (Below.refl wg.heap.size wg)
 go_wp2_with fail
 go_loopw [10] (fun kv wr => kv = .int .i64 0 ∧ Hid (Below wg.heap.size wg wr)) (fun kv _ => 0)
 case atStart => exact ⟨rfl,HX0⟩
 case round =>
  obtain ⟨rfl,HX0⟩:=hrel
  go_wp2_with fail
  go_loopw [11] (fun kv wr => kv = .int .i64 0 ∧ Hid (Below wg.heap.size wg wr)) (fun kv _ => 0)
  case atStart => exact ⟨rfl,HX0⟩
  case round =>
   obtain ⟨rfl,HX1⟩:=hrel
   have HF:=Hj (Uh HN wr (Uh HX1)).2.2
   go_wp2_with fail
   try go_ret
   exact ⟨_,rfl,own_pair _ _ _ (Uh HF).size,(Uh HF).alloc (Uh HF).size _⟩
theorem BsI.exL (P:Int → Int → Prop):∀ L:List (Int × Int),∃ q,BsI (fun c d => (c,d) ∈ L ∧ P c d) q
 | [] => ⟨none,fun c d h => by simp at h⟩
 | p :: L => by
  obtain ⟨q,hq⟩:=BsI.exL P L
  obtain ⟨a,b⟩:=p
  by_cases hp:P a b
  ·cases q with
   | none =>
    refine ⟨some (a,b),⟨List.mem_cons_self,hp⟩,fun c' d' h => ?_⟩
    rcases List.mem_cons.1 h.1 with e | e
    ·cases e; exact .inr ⟨rfl,Int.le_refl _⟩
    ·exact absurd ⟨e,h.2⟩ (hq c' d')
   | some q =>
    obtain ⟨c,d⟩:=q
    by_cases hlt:a < c ∨ (a = c ∧ b ≤ d)
    ·refine ⟨some (a,b),⟨List.mem_cons_self,hp⟩,fun c' d' h => ?_⟩
     rcases List.mem_cons.1 h.1 with e | e
     ·cases e; exact .inr ⟨rfl,Int.le_refl _⟩
     ·have:=hq.2 c' d' ⟨e,h.2⟩
      omega
    ·refine ⟨some (c,d),⟨List.mem_cons_of_mem _ hq.1.1,hq.1.2⟩,fun c' d' h => ?_⟩
     rcases List.mem_cons.1 h.1 with e | e
     ·cases e; omega
     ·exact hq.2 c' d' ⟨e,h.2⟩
  ·refine ⟨q,hq.congr (fun c d => ⟨fun h => ?_,fun h => ⟨List.mem_cons_of_mem _ h.1,h.2⟩⟩)⟩
   rcases List.mem_cons.1 h.1 with e | e
   ·cases e; exact absurd h.2 hp
   ·exact ⟨e,h.2⟩
theorem CiP.ex (st cols:List Int) (R:Nat) (xs:List Int):∃ q,BsI (CiP st cols R xs) q:=by
 obtain ⟨q,hq⟩:=BsI.exL (CiP st cols R xs) ((List.range R).flatMap (fun u => (List.range R).map (fun v => (xs.getD u 0,xs.getD v 0))))
 refine ⟨q,hq.congr (fun c d => ⟨fun h => ⟨?_,h⟩,fun h => h.2⟩)⟩
 obtain ⟨u,v,had,e1,e2,_⟩:=h
 rw [List.mem_flatMap]
 refine ⟨u,List.mem_range.2 had.1,List.mem_map.2 ⟨v,List.mem_range.2 had.2.1,?_⟩⟩
 rw [e1,e2]
theorem prL_len (o:Option (Nat × Nat)):(prL o).length ≤ 4:=by cases o <;> simp [prL]
theorem lnL_len (k:Nat) (o:Option (Nat × Nat)):(lnL k o).length ≤ 4:=by cases o <;> simp [lnL]
theorem paL_len (o:Option (Nat × Nat × Nat × Nat)):(paL o).length ≤ 4:=by cases o <;> simp [paL]
theorem ciL_len (o:Option (Int × Int)):(ciL o).length ≤ 4:=by cases o <;> simp [ciL]
theorem stL_len (o:Option (Nat × Nat)) (q:Option (Nat × Nat × Nat × Nat)):(stL o q).length ≤ 4:=by
 cases o with
 | none => exact paL_len q
 | some p => exact prL_len (some p)
theorem cfL_len (o:Option (Nat × Nat)) (q:Option (Int × Int)):(cfL o q).length ≤ 4:=by
 cases o with
 | none => exact ciL_len q
 | some p => exact prL_len (some p)
theorem line_cols {R width:Nat} {st cols:List Int} {cs:Nat → Int} (hw:width ≤ 128) {o:Option (Nat × Nat)} (ho:PrO (adG (grS (CoP st cols R) width width) (grC (CoP st cols R) width width) width) cs o) :
  ∃ kk,∀ u v,o = some (u,v) → u < width ∧ v < width ∧ kk < R ∧ InC st cols u kk ∧ InC st cols v kk ∧ ∀ j,j < kk → ¬ (InC st cols u j ∧ InC st cols v j):=by
 cases o with
 | none => exact ⟨0,fun u v e => by cases e⟩
 | some p =>
  obtain ⟨u,v⟩:=p
  have had:=ho.1.1
  have hc:=((gra_gr (P:=CoP st cols R) hw (fun u v h => ⟨fun e => h.1 e.symm,by obtain ⟨_,j,hj,h1,h2⟩:=h; exact ⟨j,hj,h2,h1⟩⟩) (fun u h => h.1 rfl)).2 u v had.1 had.2.1).1 had
  obtain ⟨_,k,hk,h1,h2⟩:=hc
  obtain ⟨y,hy,hn,hl⟩:=least_ex (B:=fun j => ¬ (InC st cols u j ∧ InC st cols v j)) (k:=k) (fun hb => hb ⟨h1,h2⟩)
  have hn':=Classical.byContradiction hn
  refine ⟨y,fun u' v' e => ?_⟩
  cases e
  exact ⟨had.1,had.2.1,by omega,hn'.1,hn'.2,hl⟩
theorem line_rows {R width:Nat} {st cols:List Int} {cs:Nat → Int} (hw:R ≤ 128) {o:Option (Nat × Nat)} (ho:PrO (adG (grS (RwP st cols width) R R) (grC (RwP st cols width) R R) R) cs o) :
  ∃ kk,∀ u v,o = some (u,v) → u < R ∧ v < R ∧ kk < width ∧ InC st cols kk u ∧ InC st cols kk v ∧ ∀ j,j < kk → ¬ (InC st cols j u ∧ InC st cols j v):=by
 cases o with
 | none => exact ⟨0,fun u v e => by cases e⟩
 | some p =>
  obtain ⟨u,v⟩:=p
  have had:=ho.1.1
  have hc:=((gra_gr (P:=RwP st cols width) hw (fun u v h => ⟨fun e => h.1 e.symm,by obtain ⟨_,j,hj,h1,h2⟩:=h; exact ⟨j,hj,h2,h1⟩⟩) (fun u h => h.1 rfl)).2 u v had.1 had.2.1).1 had
  obtain ⟨_,k,hk,h1,h2⟩:=hc
  obtain ⟨y,hy,hn,hl⟩:=least_ex (B:=fun j => ¬ (InC st cols j u ∧ InC st cols j v)) (k:=k) (fun hb => hb ⟨h1,h2⟩)
  have hn':=Classical.byContradiction hn
  refine ⟨y,fun u' v' e => ?_⟩
  cases e
  exact ⟨had.1,had.2.1,by omega,hn'.1,hn'.2,hl⟩
structure ChT (k rows width:Int) (n1 n2 n:Nat) (st cols xs L:List Int) (er:Int):Prop where
 len:L.length ≤ 4
 one:∀ (a1 a2 a:Option Addr) (c1 c2 c:Nat) (w:World),SlI w a1 n1 c1 st → SlI w a2 n2 c2 cols → SlI w a n c xs → Calls Tryz.prog 14 #[.int .i64 k,patV rows width a1 n1 c1 a2 n2 c2,.slice a n c] w fun e w' => FaP L er w w' e
 two:∀ (a1 a2 a:Option Addr) (c1 c2 c:Nat) (w:World),SlI w a1 n1 c1 st → SlI w a2 n2 c2 cols → SlI w a n c xs → Calls Tryz.prog 30 #[.int .i64 k,patV rows width a1 n1 c1 a2 n2 c2,.slice a n c] w fun e w' => FaP L er w w' e
theorem faL_eq {ok:Bool} {o:Option (Nat × Nat)} {Lf Lp Lt:List Int} (h1:o = none → Lf = Lt) (h2:∀ p,o = some p → Lf = Lp):(if ok = true then Lf else []) = faL ok o Lp Lt:=by
 cases ok with
 | false => rfl
 | true =>
  cases o with
  | none => exact h1 rfl
  | some p => exact h2 p rfl
section
variable {k:Int} {R width n1 n2 n m:Nat} {st cols xs S C:List Int} {Q:Nat → Bool} {G G1 G2 G3:Nat} {wd:Bool}
theorem chT_of {ok:Bool} {o:Option (Nat × Nat)} {Lf Lp Lt:List Int} (hl:Lf.length ≤ 4) (h1:o = none → Lf = Lt) (h2:∀ p,o = some p → Lf = Lp)
  (hp:∀ (a1 a2 a:Option Addr) (c1 c2 c:Nat) W,SlI W a1 n1 c1 st → SlI W a2 n2 c2 cols → SlI W a n c xs → Calls Tryz.prog 14 #[.int .i64 k,patV (R:Int) (width:Int) a1 n1 c1 a2 n2 c2,.slice a n c] W fun e w' => FaP (if ok = true then Lf else []) (faE ok) W w' e)
  (hw:∀ (a1 a2 a:Option Addr) (c1 c2 c:Nat) W,SlI W a1 n1 c1 st → SlI W a2 n2 c2 cols → SlI W a n c xs → Calls Tryz.prog 30 #[.int .i64 k,patV (R:Int) (width:Int) a1 n1 c1 a2 n2 c2,.slice a n c] W fun e w' => FaP (faL ok o Lp Lt) (faE ok) W w' e) :
  ChT k (R:Int) (width:Int) n1 n2 n st cols xs (if ok = true then Lf else []) (faE ok):=by
 refine ⟨?_,hp,?_⟩
 ·cases ok
  ·simp
  ·exact hl
 ·rw [faL_eq h1 h2]
  exact hw
theorem adG_lt:∀ u v,adG S C m u v → u < m ∧ v < m:=fun u v h => ⟨h.1,h.2.1⟩
theorem chT_pair (hk2:(k == 2) = false) (hk3:(k == 3) = false) (hk4:(k == 4) = false) (hk5:(k == 5) = false) (hb1:n1 ≤ 17592186044000) (hb2:n2 ≤ 17592186044000) (hn:n ≤ 17592186044000) (hm:MayP (R:Int) (width:Int) st cols) (h:KdY k R width n1 n2 st cols m S C Q G 92 G2 G3 wd) (o:Option (Nat × Nat)) (ho:PrO (adG S C m) (fun i => xs.getD i 0) o):ChT k (R:Int) (width:Int) n1 n2 n st cols xs (if tb (n = m ∧ MayC xs n) = true then prL o else []) (faE (tb (n = m ∧ MayC xs n))):=by
 refine chT_of (ok:=tb (n = m ∧ MayC xs n)) (o:=o) (Lf:=prL o) (Lp:=prL o) (Lt:=[]) (prL_len o) (fun e => by rw [e]; rfl) (fun p e => rfl) (fun a1 a2 a c1 c2 c W g1 g2 g3 => ?_) (fun a1 a2 a c1 c2 c W g1 g2 g3 => ?_)
 ·exact cFault_pair k G G2 G3 wd R width m S C a n c xs a1 a2 n1 c1 n2 c2 st cols W g1 g2 g3 hn h.sl h.cl h.may _ tb_iff (prL o) (fun hnm hmc x d y z W' s1 s2 s3 s4 s5 => by
   subst hnm
   exact cpair_any _ _ _ _ wd R width a1 n1 c1 a2 n2 c2 n x S.length d y C.length z S C a c xs W' s1 s2 s5 h.sl h.cl h.may o ho) (fun W' => h.task a1 a2 c1 c2 W')
 ·refine wFault_yes k false false hk4 hk5 R width m Q (adG S C m) h.hQ adG_lt a n c xs a1 a2 n1 c1 n2 c2 st cols W g1 g2 g3 hn h.m8 _ tb_iff o ho (prL o) [] (fun u v e hu hv W' s1 s2 => ?_) (fun e => by cases e) (fun _ e => by cases e) (fun _ _ => rfl) (fun W' => h.thg a1 a2 c1 c2 W')
  subst e
  exact wwhere_off k hk2 hk3 R width a1 a2 n1 c1 n2 c2 st cols u v W' s1 s2 (by omega) (by omega) hm
theorem chT_star (hk2:(k == 2) = false) (hk3:(k == 3) = false) (hk4:(k == 4) = true) (hb1:n1 ≤ 17592186044000) (hb2:n2 ≤ 17592186044000) (hn:n ≤ 17592186044000) (hm:MayP (R:Int) (width:Int) st cols) (h:KdY k R width n1 n2 st cols m S C Q G 101 G2 G3 wd) (o:Option (Nat × Nat)) (ho:PrO (adG S C m) (fun i => xs.getD i 0) o) (q:Option (Nat × Nat × Nat × Nat)) (hq:PaO (adG S C m) (fun i => xs.getD i 0) q):ChT k (R:Int) (width:Int) n1 n2 n st cols xs (if tb (n = m ∧ MayC xs n) = true then stL o q else []) (faE (tb (n = m ∧ MayC xs n))):=by
 refine chT_of (ok:=tb (n = m ∧ MayC xs n)) (o:=o) (Lf:=stL o q) (Lp:=prL o) (Lt:=paL q) (stL_len o q) (fun e => by rw [e]; rfl) (fun p e => by rw [e]; rfl) (fun a1 a2 a c1 c2 c W g1 g2 g3 => ?_) (fun a1 a2 a c1 c2 c W g1 g2 g3 => ?_)
 ·exact cFault_star k G G2 G3 wd R width m S C a n c xs a1 a2 n1 c1 n2 c2 st cols W g1 g2 g3 hn h.sl h.cl h.may _ tb_iff (stL o q) (fun hnm hmc x d y z W' s1 s2 s3 s4 s5 => by
   subst hnm
   exact cstarF_any _ _ _ _ wd R width a1 n1 c1 a2 n2 c2 n x S.length d y C.length z S C a c xs W' s1 s2 s5 h.sl h.cl h.may o ho q hq) (fun W' => h.task a1 a2 c1 c2 W')
 ·refine wFault_yes k true (k == 5) hk4 rfl R width m Q (adG S C m) h.hQ adG_lt a n c xs a1 a2 n1 c1 n2 c2 st cols W g1 g2 g3 hn h.m8 _ tb_iff o ho (prL o) (paL q) (fun u v e hu hv W' s1 s2 => ?_) (fun _ hnm gb W' r1 r2 => ?_) (fun e => by cases e) (fun e => by cases e) (fun W' => h.thg a1 a2 c1 c2 W')
  ·subst e
   exact wwhere_off k hk2 hk3 R width a1 a2 n1 c1 n2 c2 st cols u v W' s1 s2 (by omega) (by omega) hm
  ·subst hnm
   exact wpath_any n gb (n * n) Q (adG S C n) h.hQ adG_lt a c xs W' h.m8 rfl r1 r2 q hq
theorem chT_acyc (hk2:(k == 2) = false) (hk3:(k == 3) = false) (hk4:(k == 4) = false) (hk5:(k == 5) = true) (hb1:n1 ≤ 17592186044000) (hb2:n2 ≤ 17592186044000) (hn:n ≤ 17592186044000) (hm:MayP (R:Int) (width:Int) st cols) (h:KdY k R width n1 n2 st cols m S C Q G 103 G2 G3 wd) (o:Option (Nat × Nat)) (ho:PrO (adG S C m) (fun i => xs.getD i 0) o) (q:Option (Int × Int)) (hq:BsI (CiP S C m xs) q):ChT k (R:Int) (width:Int) n1 n2 n st cols xs (if tb (n = m ∧ MayC xs n) = true then cfL o q else []) (faE (tb (n = m ∧ MayC xs n))):=by
 refine chT_of (ok:=tb (n = m ∧ MayC xs n)) (o:=o) (Lf:=cfL o q) (Lp:=prL o) (Lt:=ciL q) (cfL_len o q) (fun e => by rw [e]; rfl) (fun p e => by rw [e]; rfl) (fun a1 a2 a c1 c2 c W g1 g2 g3 => ?_) (fun a1 a2 a c1 c2 c W g1 g2 g3 => ?_)
 ·exact cFault_circ k G G2 G3 wd R width m S C a n c xs a1 a2 n1 c1 n2 c2 st cols W g1 g2 g3 hn h.sl h.cl h.may _ tb_iff (cfL o q) (fun hnm hmc x d y z W' s1 s2 s3 s4 s5 => by
   subst hnm
   exact ccircF_any _ _ _ _ wd R width a1 n1 c1 a2 n2 c2 n x S.length d y C.length z S C a c xs W' s1 s2 s5 h.sl h.cl h.may h.gra o ho q hq) (fun W' => h.task a1 a2 c1 c2 W')
 ·refine wFault_yes k false true hk4 hk5 R width m Q (adG S C m) h.hQ adG_lt a n c xs a1 a2 n1 c1 n2 c2 st cols W g1 g2 g3 hn h.m8 _ tb_iff o ho (prL o) (ciL q) (fun u v e hu hv W' s1 s2 => ?_) (fun e => by cases e) (fun _ _ hnm gb W' r1 r2 => ?_) (fun _ e => by cases e) (fun W' => h.thg a1 a2 c1 c2 W')
  ·subst e
   exact wwhere_off k hk2 hk3 R width a1 a2 n1 c1 n2 c2 st cols u v W' s1 s2 (by omega) (by omega) hm
  ·subst hnm
   exact wcircle_any n gb (n * n) Q (adG S C n) h.hQ adG_lt a c xs W' h.m8 rfl r1 r2 q (bsi_cqp h.hQ hq)
end
section
variable {R width n1 n2 n:Nat} {st cols xs:List Int} {Q:Nat → Bool} {G G2 G3:Nat} {wd:Bool}
theorem chT_cols (hb1:n1 ≤ 17592186044000) (hb2:n2 ≤ 17592186044000) (hn:n ≤ 17592186044000) (hm:MayP (R:Int) (width:Int) st cols) (h:KdY 2 R width n1 n2 st cols width (grS (CoP st cols R) width width) (grC (CoP st cols R) width width) Q G 96 G2 G3 wd) (o:Option (Nat × Nat)) (ho:PrO (adG (grS (CoP st cols R) width width) (grC (CoP st cols R) width width) width) (fun i => xs.getD i 0) o) (kk:Nat) (hkk:∀ u v,o = some (u,v) → u < width ∧ v < width ∧ kk < R ∧ InC st cols u kk ∧ InC st cols v kk ∧ ∀ j,j < kk → ¬ (InC st cols u j ∧ InC st cols v j)):ChT 2 (R:Int) (width:Int) n1 n2 n st cols xs (if tb (n = width ∧ MayC xs n) = true then lnL kk o else []) (faE (tb (n = width ∧ MayC xs n))):=by
 refine chT_of (ok:=tb (n = width ∧ MayC xs n)) (o:=o) (Lf:=lnL kk o) (Lp:=lnL kk o) (Lt:=[]) (lnL_len kk o) (fun e => by rw [e]; rfl) (fun p e => rfl) (fun a1 a2 a c1 c2 c W g1 g2 g3 => ?_) (fun a1 a2 a c1 c2 c W g1 g2 g3 => ?_)
 ·exact cFault_cols 2 G G2 G3 wd R width width _ _ a n c xs a1 a2 n1 c1 n2 c2 st cols W g1 g2 g3 hn h.sl h.cl h.may _ tb_iff (lnL kk o) (fun hnm hmc x d y z W' s1 s2 s3 s4 s5 => by
   rw [hnm] at s5 ⊢
   exact ccolF_any _ _ _ _ wd R width a1 n1 c1 a2 n2 c2 width x _ d y _ z st cols _ _ a c xs W' s3 s4 hb1 hb2 hm s1 s2 s5 h.sl h.cl h.may o ho kk (fun u v e => by
    obtain ⟨e1,e2,e3,e4,e5,e6⟩:=hkk u v e
    exact ⟨e3,⟨(rowL_mem hm e3).2 e4,(rowL_mem hm e3).2 e5⟩,fun j hj hi => e6 j hj ⟨(rowL_mem hm (by omega)).1 hi.1,(rowL_mem hm (by omega)).1 hi.2⟩⟩)) (fun W' => h.task a1 a2 c1 c2 W')
 ·refine wFault_yes 2 false false (by decide) (by decide) R width width Q _ h.hQ adG_lt a n c xs a1 a2 n1 c1 n2 c2 st cols W g1 g2 g3 hn h.m8 _ tb_iff o ho (lnL kk o) [] (fun u v e hu hv W' s1 s2 => ?_) (fun e => by cases e) (fun _ e => by cases e) (fun _ _ => rfl) (fun W' => h.thg a1 a2 c1 c2 W')
  obtain ⟨e1,e2,e3,e4,e5,e6⟩:=hkk u v e
  subst e
  exact wwhere_cols 2 (by decide) R width a1 a2 n1 c1 n2 c2 st cols u v W' s1 s2 (by omega) (by omega) hm e1 e2 kk e3 ⟨e4,e5,e6⟩
theorem chT_rows (hb1:n1 ≤ 17592186044000) (hb2:n2 ≤ 17592186044000) (hn:n ≤ 17592186044000) (hm:MayP (R:Int) (width:Int) st cols) (h:KdY 3 R width n1 n2 st cols R (grS (RwP st cols width) R R) (grC (RwP st cols width) R R) Q G 99 G2 G3 wd) (o:Option (Nat × Nat)) (ho:PrO (adG (grS (RwP st cols width) R R) (grC (RwP st cols width) R R) R) (fun i => xs.getD i 0) o) (kk:Nat) (hkk:∀ u v,o = some (u,v) → u < R ∧ v < R ∧ kk < width ∧ InC st cols kk u ∧ InC st cols kk v ∧ ∀ j,j < kk → ¬ (InC st cols j u ∧ InC st cols j v)):ChT 3 (R:Int) (width:Int) n1 n2 n st cols xs (if tb (n = R ∧ MayC xs n) = true then lnL kk o else []) (faE (tb (n = R ∧ MayC xs n))):=by
 refine chT_of (ok:=tb (n = R ∧ MayC xs n)) (o:=o) (Lf:=lnL kk o) (Lp:=lnL kk o) (Lt:=[]) (lnL_len kk o) (fun e => by rw [e]; rfl) (fun p e => rfl) (fun a1 a2 a c1 c2 c W g1 g2 g3 => ?_) (fun a1 a2 a c1 c2 c W g1 g2 g3 => ?_)
 ·exact cFault_rows 3 G G2 G3 wd R width R _ _ a n c xs a1 a2 n1 c1 n2 c2 st cols W g1 g2 g3 hn h.sl h.cl h.may _ tb_iff (lnL kk o) (fun hnm hmc x d y z W' s1 s2 s3 s4 s5 => by
   rw [hnm] at s5 ⊢
   exact crowF_any _ _ _ _ wd R width a1 n1 c1 a2 n2 c2 R x _ d y _ z st cols _ _ a c xs W' s3 s4 hb1 hb2 hm s1 s2 s5 h.sl h.cl h.may o ho kk (fun u v e => by
    obtain ⟨e1,e2,e3,e4,e5,e6⟩:=hkk u v e
    exact ⟨e3,⟨(grR_mem _ R).2 ⟨u,e1,rfl,e4⟩,(grR_mem _ R).2 ⟨v,e2,rfl,e5⟩⟩,fun j hj hi => by
     obtain ⟨i1,l1,m1,t1⟩:=(grR_mem _ R).1 hi.1
     obtain ⟨i2,l2,m2,t2⟩:=(grR_mem _ R).1 hi.2
     obtain rfl:i1 = u:=by omega
     obtain rfl:i2 = v:=by omega
     exact e6 j hj ⟨t1,t2⟩⟩)) (fun W' => h.task a1 a2 c1 c2 W')
 ·refine wFault_yes 3 false false (by decide) (by decide) R width R Q _ h.hQ adG_lt a n c xs a1 a2 n1 c1 n2 c2 st cols W g1 g2 g3 hn h.m8 _ tb_iff o ho (lnL kk o) [] (fun u v e hu hv W' s1 s2 => ?_) (fun e => by cases e) (fun _ e => by cases e) (fun _ _ => rfl) (fun W' => h.thg a1 a2 c1 c2 W')
  obtain ⟨e1,e2,e3,e4,e5,e6⟩:=hkk u v e
  subst e
  exact wwhere_rows 3 (by decide) (by decide) R width a1 a2 n1 c1 n2 c2 st cols u v W' s1 s2 (by omega) (by omega) hm e1 e2 kk e3 ⟨e4,e5,e6⟩
end
end Go.Proofs.YtgjokididdffhaaGreat
