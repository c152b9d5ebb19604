/- Cge -/
import Derived.Test.YtgjokididdffhaaGreatCgd
import Derived.Test.YtgjokididdffhaaGreatSa1
namespace Go.Proofs.YtgjokididdffhaaGreat
open Go.RowKit Go.Deep
set_option linter.unusedVariables false
def LnQ (M:Nat → Nat → Nat → Prop) (n m u v k x:Nat):Prop:=∃ a b j:Nat,a < n ∧ b < n ∧ j < m ∧ x = a * n + b ∧ a ≠ b ∧ M j a b ∧ (a < u ∨ a = u ∧ (b < v ∨ b = v ∧ j < k))
theorem idx_one {n a b u v:Nat} (hb:b < n) (hv:v < n) (h:a * n + b = u * n + v):a = u ∧ b = v:=by
 have h1:(a * n + b) / n = a:=by rw [Nat.mul_comm,Nat.mul_add_div (by omega),Nat.div_eq_of_lt hb]; rfl
 have h2:(u * n + v) / n = u:=by rw [Nat.mul_comm,Nat.mul_add_div (by omega),Nat.div_eq_of_lt hv]; rfl
 have h3:a = u:=by rw [← h1,← h2,h]
 subst h3
 exact ⟨rfl,by omega⟩
theorem LnQ.yes {M:Nat → Nat → Nat → Prop} {n m u v k:Nat} (hu:u < n) (hv:v < n) (hk:k < m) (hne:u ≠ v) (hM:M k u v) (x:Nat):LnQ M n m u v (k + 1) x ↔ (LnQ M n m u v k x ∨ x = u * n + v):=by
 constructor
 ·rintro ⟨a,b,j,h1,h2,h3,h4,h5,h6,h7⟩
  rcases h7 with h7 | ⟨h7,h8 | ⟨h8,h9⟩⟩
  ·exact .inl ⟨a,b,j,h1,h2,h3,h4,h5,h6,.inl h7⟩
  ·exact .inl ⟨a,b,j,h1,h2,h3,h4,h5,h6,.inr ⟨h7,.inl h8⟩⟩
  ·subst h7 h8
   exact .inr h4
 ·rintro (⟨a,b,j,h1,h2,h3,h4,h5,h6,h7⟩ | h)
  ·exact ⟨a,b,j,h1,h2,h3,h4,h5,h6,h7.imp_right (fun h => ⟨h.1,h.2.imp_right (fun h => ⟨h.1,by omega⟩)⟩)⟩
  ·exact ⟨u,v,k,hu,hv,hk,h,hne,hM,.inr ⟨rfl,.inr ⟨rfl,by omega⟩⟩⟩
theorem LnQ.no {M:Nat → Nat → Nat → Prop} {n m u v k:Nat} (hM:¬ M k u v) (x:Nat):LnQ M n m u v (k + 1) x ↔ LnQ M n m u v k x:=by
 constructor
 ·rintro ⟨a,b,j,h1,h2,h3,h4,h5,h6,h7⟩
  refine ⟨a,b,j,h1,h2,h3,h4,h5,h6,h7.imp_right (fun h => ⟨h.1,h.2.imp_right (fun h8 => ⟨h8.1,?_⟩)⟩)⟩
  by_cases e:j = k
  ·obtain ⟨e1,_⟩:=h
   obtain ⟨e2,_⟩:=h8
   subst e e1 e2
   exact absurd h6 hM
  ·omega
 ·rintro ⟨a,b,j,h1,h2,h3,h4,h5,h6,h7⟩
  exact ⟨a,b,j,h1,h2,h3,h4,h5,h6,h7.imp_right (fun h => ⟨h.1,h.2.imp_right (fun h => ⟨h.1,by omega⟩)⟩)⟩
theorem LnQ.nextV {M:Nat → Nat → Nat → Prop} {n m u v k:Nat} (hk:k = m ∨ u = v) (x:Nat):LnQ M n m u (v + 1) 0 x ↔ LnQ M n m u v k x:=by
 constructor
 ·rintro ⟨a,b,j,h1,h2,h3,h4,h5,h6,h7⟩
  refine ⟨a,b,j,h1,h2,h3,h4,h5,h6,h7.imp_right (fun h => ⟨h.1,?_⟩)⟩
  omega
 ·rintro ⟨a,b,j,h1,h2,h3,h4,h5,h6,h7⟩
  refine ⟨a,b,j,h1,h2,h3,h4,h5,h6,h7.imp_right (fun h => ⟨h.1,?_⟩)⟩
  omega
theorem LnQ.nextU {M:Nat → Nat → Nat → Prop} {n m u:Nat} (x:Nat):LnQ M n m (u + 1) 0 0 x ↔ LnQ M n m u n 0 x:=by
 constructor
 ·rintro ⟨a,b,j,h1,h2,h3,h4,h5,h6,h7⟩
  exact ⟨a,b,j,h1,h2,h3,h4,h5,h6,by omega⟩
 ·rintro ⟨a,b,j,h1,h2,h3,h4,h5,h6,h7⟩
  exact ⟨a,b,j,h1,h2,h3,h4,h5,h6,by omega⟩
theorem LnQ.first {M:Nat → Nat → Nat → Prop} {n m:Nat} (x:Nat):¬ LnQ M n m 0 0 0 x:=by
 rintro ⟨a,b,j,h1,h2,h3,h4,h5,h6,h7⟩
 omega
theorem LnQ.last {M:Nat → Nat → Nat → Prop} {n m u v:Nat} (hu:u < n) (hv:v < n):LnQ M n m n 0 0 (u * n + v) ↔ (u ≠ v ∧ ∃ j,j < m ∧ M j u v):=by
 constructor
 ·rintro ⟨a,b,j,h1,h2,h3,h4,h5,h6,h7⟩
  obtain ⟨rfl,rfl⟩:=idx_one hv h2 h4
  exact ⟨h5,j,h3,h6⟩
 ·rintro ⟨h1,j,h2,h3⟩
  exact ⟨u,v,j,hu,hv,h2,rfl,h1,h3,.inl hu⟩
theorem OpI.below {w2 W W':World} {b m:Nat} {P:Nat → Prop} (h:OpI w2 W b m P) (k:Below W.heap.size W W'):OpI w2 W' b m P:=⟨h.row.below k,h.chg.trans (Chg.of_below k)⟩
theorem OpI.congr {w2 W:World} {b m:Nat} {P Q:Nat → Prop} (h:OpI w2 W b m P) (e:∀ x,P x ↔ Q x):OpI w2 W b m Q:=⟨h.row.congr (fun x _ => by rw [tb_congr (e x)]),h.chg⟩
theorem vis_in {R width:Nat} {st cols:List Int} (hm:MayP (R:Int) (width:Int) st cols) {r c:Nat} (hr:r < R) (hc:c < width):TruQ (tb (Vis R width st cols cols.length (r * width + c))) (InC st cols c r) :=
 tb_iff.trans ((Vis.has hm hr hc).trans (InC.of hm hr))
theorem idx_lt {r c R width:Nat} (hr:r < R) (hc:c < width):r * width + c < R * width:=by
 have h1:(r + 1) * width ≤ R * width:=Nat.mul_le_mul_right _ hr
 rw [Nat.add_mul] at h1
 omega
set_option maxRecDepth 100000 in
set_option maxHeartbeats 16000000 in
theorem wlines_cols (R width:Nat) (a1 a2:Option Addr) (n1 c1 n2 c2:Nat) (st cols:List Int) (w:World) (h1:SlI w a1 n1 c1 st) (h2:SlI w a2 n2 c2 cols) (hb1:n1 ≤ 17592186044416) (hb2:n2 ≤ 17592186044416) (hm:MayP (R:Int) (width:Int) st cols) :
  Calls Tryz.prog 45 #[patV (R:Int) (width:Int) a1 n1 c1 a2 n2 c2,.bool false] w fun e w' => ∃ b,e = .returned (grV width b (width * width)) ∧ RoV w' b (width * width) (fun x => .bool (tb (LnQ (fun j u v => InC st cols u j ∧ InC st cols v j) width R width 0 0 x))) ∧ Below w.heap.size w w':=by
 obtain ⟨wb,hwb⟩:∃ x,w.alloc (.cells #[.int .i64 (R:Int),.int .i64 (width:Int),.slice a1 n1 c1,.slice a2 n2 c2] 25) = x:=⟨_,rfl⟩
 have bb:Below w.heap.size w wb:=by rw [← hwb]; exact bAl
 have hT:=BoxP.made w #[.int .i64 (R:Int),.int .i64 (width:Int),.slice a1 n1 c1,.slice a2 n2 c2] 25
 rw [hwb] at hT
 have hO0:=BoxP.made wb #[.int .i64 0,.slice none 0 0] 45
 obtain ⟨wo,hwo⟩:∃ x,wb.alloc (.cells #[.int .i64 0,.slice none 0 0] 45) = x:=⟨_,rfl⟩
 have bo:Below wb.heap.size wb wo:=by rw [← hwo]; exact bAl
 rw [hwo] at hO0
 have hT1:=hT.below bo
 have p0:=(hT1.all 0 _ rfl).1
 have p1:=(hT1.all 1 _ rfl).1
 have p2:=(hT1.all 2 _ rfl).1
 have p3:=(hT1.all 3 _ rfl).1
 have bw:=bb.trans (bo.mono bb.size)
 have KO:=Hj (wopen_any R width a1 a2 n1 c1 n2 c2 st cols wo (h1.below bw) (h2.below bw) hb1 hb2 hm)
 unfold patV gridV at KO
 have HT:=Hj hT1
 have HO:=Hj hO0
 have HB:=Hj bw
 have HWB:=Hj bb.size
 have HM:=Hj hm
 have hfit:=hm.head.fit
 have hR8:R ≤ 128:=by omega
 have hW8:width ≤ 128:=by omega
 clear hT hT1 hO0 bb bo bw h1 h2 hm hfit
 obtain ⟨nn,hnn⟩:∃ nn,width * width = nn:=⟨_,rfl⟩
 have hnn1:(width:Int) * (width:Int) = (nn:Int):=by rw [← hnn]; simp
 have hnn2:nn ≤ 16384:=by rw [← hnn]; exact Nat.mul_le_mul hW8 hW8
 have hmk:=fun W => make_boolsP nn (by omega) W
 have HNN:=Hj hnn
 rw [hnn]
 clear hnn
 unfold patV
 go_enter Tryz.func45,Tryz.ntmps45
 go_wp2_with fail
 refine (Uh KO).mono ?_
 rintro _ w2 ⟨b,rfl,hRo,b2⟩
 obtain ⟨mo,hmo⟩:∃ mo,R * width = mo:=⟨_,rfl⟩
 have hmo2:mo ≤ 16384:=by rw [← hmo]; exact Nat.mul_le_mul hR8 hW8
 rw [hmo] at hRo
 have hG0:=BoxP.made w2 #[.int .i64 (R:Int),.int .i64 (width:Int),.slice (some ⟨b,0,none⟩) mo mo] 131
 obtain ⟨wg,hwg⟩:∃ x,w2.alloc (.cells #[.int .i64 (R:Int),.int .i64 (width:Int),.slice (some ⟨b,0,none⟩) mo mo] 131) = x:=⟨_,rfl⟩
 have bg:Below w2.heap.size w2 wg:=by rw [← hwg]; exact bAl
 rw [hwg] at hG0
 have b2g:=b2.trans (bg.mono b2.size)
 have hTg:=(Uh HT).below b2g
 have hOg:=(Uh HO).below b2g
 have q0:=(hTg.all 0 _ rfl).1
 have q1:=(hTg.all 1 _ rfl).1
 have q2:=(hTg.all 2 _ rfl).1
 have q3:=(hTg.all 3 _ rfl).1
 have HG:=Hj (And.intro hTg (And.intro hOg hG0))
 have HRo:=Hj (hRo.below bg)
 have bwg:=(Uh HB).trans (b2g.mono (Uh HB).size)
 have HBg:=Hj bwg
 have HMO:=Hj hmo
 rw [hmo]
 clear KO p0 p1 p2 p3 hG0 bg b2 b2g hTg hOg hRo bwg hmo
 go_wp2_with fail
 have hRn:=(RoV.made wg nn 4 (.bool false)).below ((Below.refl (wg.alloc (.cells (madeCells #[.bool false] nn) 4)).heap.size _).alloc (Nat.le_refl _) (.cells #[.int .i64 (width:Int),.slice (some ⟨wg.heap.size,0,none⟩) nn nn] 45))
 have hX0:=BoxP.made (wg.alloc (.cells (madeCells #[.bool false] nn) 4)) #[.int .i64 (width:Int),.slice (some ⟨wg.heap.size,0,none⟩) nn nn] 45
 have bgs:Below wg.heap.size wg ((wg.alloc (.cells (madeCells #[.bool false] nn) 4)).alloc (.cells #[.int .i64 (width:Int),.slice (some ⟨wg.heap.size,0,none⟩) nn nn] 45)):=(bAl).alloc (by simp) _
 have ez:(wg.alloc (.cells (madeCells #[.bool false] nn) 4)).heap.size = wg.heap.size + 1:=by simp
 rw [ez] at hX0
 generalize (wg.alloc (.cells (madeCells #[.bool false] nn) 4)).alloc (.cells #[.int .i64 (width:Int),.slice (some ⟨wg.heap.size,0,none⟩) nn nn] 45) = ws at *
 have hgw:=bgs.size
 have hlo:=(Uh HG).1.lt
 have hlo2:=(Uh HG).2.1.lt
 have hlo3:=(Uh HG).2.2.lt
 have HBX:=Hj (show ∀ W,Chg (fun j => j = wg.heap.size) ws W → (BoxP W w.heap.size [.int .i64 (R:Int),.int .i64 (width:Int),.slice a1 n1 c1,.slice a2 n2 c2] ∧ BoxP W wb.heap.size [.int .i64 0,.slice none 0 0] ∧ BoxP W w2.heap.size [.int .i64 (R:Int),.int .i64 (width:Int),.slice (some ⟨b,0,none⟩) mo mo] ∧ BoxP W (wg.heap.size + 1) [.int .i64 (width:Int),.slice (some ⟨wg.heap.size,0,none⟩) nn nn]) ∧ RoV W b mo (fun x => .bool (tb (Vis R width st cols cols.length x))) from fun W c => by
  refine ⟨⟨((Uh HG).1.below bgs).chg c (by omega),((Uh HG).2.1.below bgs).chg c (by omega),((Uh HG).2.2.below bgs).chg c (by omega),hX0.chg c (by omega)⟩,?_⟩
  intro i hi
  have h5:=World.block_lt_of_cell? _ _ (Uh HRo i hi).1
  exact RoV.chg ((Uh HRo).below bgs) c (fun e => by simp at h5; omega) i hi)
 have HI0:=Hj (show OpI ws ws wg.heap.size nn (LnQ (fun j u v => InC st cols u j ∧ InC st cols v j) width R 0 0 0) from ⟨hRn.congr (fun x _ => by rw [tb_no (LnQ.first x)]),Chg.refl _ _⟩)
 have HBs:=Hj ((Uh HBg).trans (bgs.mono (Uh HBg).size))
 have HLO:=Hj (And.intro (Uh HBg).size (And.intro hlo2 hgw))
 clear q0 q1 q2 q3 hRn hX0 bgs ez hgw hlo hlo2 hlo3 hmk hwg HBg HRo HG
 generalize wg.heap.size = G at *
 generalize hX:G + 1 = X at *
 have HX:=Hj hX
 clear hX
 go_loopw [9] (fun uv wr => ∃ u:Nat,u ≤ width ∧ uv = .int .i64 (u:Int) ∧ Hid (OpI ws wr G nn (LnQ (fun j u v => InC st cols u j ∧ InC st cols v j) width R u 0 0))) (fun uv _ => width - (intOf uv).toNat)
 case atStart => exact ⟨0,Nat.zero_le _,rfl,HI0⟩
 case round =>
  obtain ⟨u,hu,rfl,HU⟩:=hrel
  by_cases hult:u < width
  ·have hult':(u:Int) < (width:Int):=by omega
   go_wp2_with fail
   go_loopw [10] (fun vv wr => ∃ v:Nat,v ≤ width ∧ vv = .int .i64 (v:Int) ∧ Hid (OpI ws wr G nn (LnQ (fun j u v => InC st cols u j ∧ InC st cols v j) width R u v 0))) (fun vv _ => width - (intOf vv).toNat)
   case atStart => exact ⟨0,Nat.zero_le _,rfl,HU⟩
   case round =>
    obtain ⟨v,hv,rfl,HV⟩:=hrel
    by_cases hvlt:v < width
    ·have hvlt':(v:Int) < (width:Int):=by omega
     go_wp2_with fail
     go_loopw [11] (fun kv wr => ∃ k:Nat,k ≤ R ∧ kv = .int .i64 (k:Int) ∧ Hid (OpI ws wr G nn (LnQ (fun j u v => InC st cols u j ∧ InC st cols v j) width R u v k))) (fun kv _ => R - (intOf kv).toNat)
     case atStart => exact ⟨0,Nat.zero_le _,rfl,HV⟩
     case round =>
      obtain ⟨k,hk,rfl,HK⟩:=hrel
      by_cases hne:u = v
      ·have hne':((u:Int) != (v:Int)) = false:=by simp [hne]
       have HN:=Hj ((Uh HK).congr (fun x => (LnQ.nextV (.inr hne) x).symm))
       have HNE:=Hj hne
       clear hne
       go_wp2_with fail
       exact ⟨⟨v + 1,by omega,by (first | rfl | go_num),HN⟩,by simp [intOf]; omega⟩
      ·have hne':((u:Int) != (v:Int)) = true:=by simp; omega
       by_cases hklt:k < R
       ·have hklt':(k:Int) < (R:Int):=by omega
        have HNE:=Hj hne
        have hbx:=Uh HBX wr (Uh HK).chg
        have g0:=(hbx.1.2.2.1.all 0 _ rfl).1
        have g1:=(hbx.1.2.2.1.all 1 _ rfl).1
        have g2:=(hbx.1.2.2.1.all 2 _ rfl).1
        have x0:=(hbx.1.2.2.2.all 0 _ rfl).1
        have x1:=(hbx.1.2.2.2.all 1 _ rfl).1
        have K1:=Hj (wat_any R width b mo k u (fun x => tb (Vis R width st cols cols.length x)) wr hW8 (by omega) (by omega) (by rw [← Uh HMO]; exact idx_lt hklt hult) hmo2 hbx.2)
        unfold gridV at K1
        try dsimp only at K1
        obtain ⟨s1,hs1⟩:∃ s1,tb (Vis R width st cols cols.length (k * width + u)) = s1:=⟨_,rfl⟩
        have HS1:=Hj (show TruQ s1 (InC st cols u k) from by rw [← hs1]; exact vis_in (Uh HM) hklt hult)
        rw [hs1] at K1
        clear hne hbx hs1
        go_wp2_with fail
        refine (Uh K1).mono ?_
        rintro _ w4 ⟨rfl,b4⟩
        have hK4:=(Uh HK).below b4
        have hbx:=Uh HBX w4 hK4.chg
        clear g0 g1 g2 x0 x1 K1
        have g0:=(hbx.1.2.2.1.all 0 _ rfl).1
        have g1:=(hbx.1.2.2.1.all 1 _ rfl).1
        have g2:=(hbx.1.2.2.1.all 2 _ rfl).1
        have x0:=(hbx.1.2.2.2.all 0 _ rfl).1
        have x1:=(hbx.1.2.2.2.all 1 _ rfl).1
        have HK4:=Hj hK4
        cases s1
        ·have HN:=Hj (hK4.congr (fun x => (LnQ.no (fun h => absurd (Iff.mpr (Uh HS1) h.1) (by decide)) x).symm))
         clear hbx hK4 b4
         go_wp2_with fail
         exact ⟨⟨k + 1,by omega,by (first | rfl | go_num),HN⟩,by simp [intOf]; omega⟩
        ·have K2:=Hj (wat_any R width b mo k v (fun x => tb (Vis R width st cols cols.length x)) w4 hW8 (by omega) (by omega) (by rw [← Uh HMO]; exact idx_lt hklt hvlt) hmo2 hbx.2)
         unfold gridV at K2
         try dsimp only at K2
         obtain ⟨s2,hs2⟩:∃ s2,tb (Vis R width st cols cols.length (k * width + v)) = s2:=⟨_,rfl⟩
         have HS2:=Hj (show TruQ s2 (InC st cols v k) from by rw [← hs2]; exact vis_in (Uh HM) hklt hvlt)
         rw [hs2] at K2
         clear hbx hK4 b4 hs2
         go_wp2_with fail
         refine (Uh K2).mono ?_
         rintro _ w5 ⟨rfl,b5⟩
         have hK5:=(Uh HK4).below b5
         have hbx:=Uh HBX w5 hK5.chg
         clear g0 g1 g2 x0 x1 K2
         have x0:=(hbx.1.2.2.2.all 0 _ rfl).1
         have x1:=(hbx.1.2.2.2.all 1 _ rfl).1
         cases s2
         ·have HN:=Hj (hK5.congr (fun x => (LnQ.no (fun h => absurd (Iff.mpr (Uh HS2) h.2) (by decide)) x).symm))
          clear hbx hK5 b5
          go_wp2_with fail
          exact ⟨⟨k + 1,by omega,by (first | rfl | go_num),HN⟩,by simp [intOf]; omega⟩
         ·obtain ⟨un,hun⟩:∃ un,u * width = un:=⟨_,rfl⟩
          obtain ⟨y,hy⟩:∃ y,un + v = y:=⟨_,rfl⟩
          have hun1:(u:Int) * (width:Int) = (un:Int):=by rw [← hun]; simp
          have hy1:(un:Int) + (v:Int) = (y:Int):=by omega
          have hyn:y < nn:=by rw [← Uh HNN,← hy,← hun]; exact idx_lt hult hvlt
          have hyn':(y:Int) < (nn:Int):=by omega
          have hon:=(hK5.row y hyn).1
          have hof:=(hK5.row y hyn).2
          have HN:=Hj (hK5.put (Q:=LnQ (fun j u v => InC st cols u j ∧ InC st cols v j) width R u v (k + 1)) y hyn (fun x => by have:=LnQ.yes (M:=(fun j u v => InC st cols u j ∧ InC st cols v j)) hult hvlt hklt (Uh HNE) ⟨Iff.mp (Uh HS1) rfl,Iff.mp (Uh HS2) rfl⟩ x; rw [hun,hy] at this; exact this))
          clear hbx hK5 b5 hun hy
          go_wp2_with fail
          try go_region
          all_goals (try go_wp2_with fail)
          all_goals exact ⟨⟨k + 1,by omega,by (first | rfl | go_num),Hj (by first | exact Uh HN | exact (Uh HN).drew)⟩,by simp [intOf]; omega⟩
       ·obtain rfl:k = R:=by omega
        have hklt':¬ (k:Int) < (k:Int):=by omega
        have HN:=Hj ((Uh HK).congr (fun x => (LnQ.nextV (.inl rfl) x).symm))
        have HNE:=Hj hne
        clear hne
        go_wp2_with fail
        exact ⟨⟨v + 1,by omega,by (first | rfl | go_num),HN⟩,by simp [intOf]; omega⟩
    ·obtain rfl:v = width:=by omega
     have hvlt':¬ (v:Int) < (v:Int):=by omega
     have HN:=Hj ((Uh HV).congr (fun x => (LnQ.nextU x).symm))
     go_wp2_with fail
     exact ⟨⟨u + 1,by omega,by (first | rfl | go_num),HN⟩,by simp [intOf]; omega⟩
  ·obtain rfl:u = width:=by omega
   have hult':¬ (u:Int) < (u:Int):=by omega
   have hbx:=(Uh HBX wr (Uh HU).chg).1
   have x0:=(hbx.2.2.2.all 0 _ rfl).1
   have x1:=(hbx.2.2.2.all 1 _ rfl).1
   have o0:=(hbx.2.1.all 0 _ rfl).1
   have o1:=(hbx.2.1.all 1 _ rfl).1
   have r0:=(hbx.2.1.all 0 _ rfl).2
   have r1:=(hbx.2.1.all 1 _ rfl).2
   have HOr:=Hj hbx.2.1
   clear hbx
   go_wp2_with fail
   have hf:=((Uh HOr).put 0 (.int .i64 (u:Int))).put 1 (.slice (some ⟨G,0,none⟩) nn nn)
   have t0:=(hf.all 0 _ rfl).1
   have t1:=(hf.all 1 _ rfl).1
   have cc:Chg (fun j => j = wb.heap.size) wr ((wr.setCell ⟨wb.heap.size,0,none⟩ (.int .i64 (u:Int))).setCell ⟨wb.heap.size,1,none⟩ (.slice (some ⟨G,0,none⟩) nn nn)):=(Chg.of_set (S:=fun j => j = wb.heap.size) _ _ _ _ rfl).trans (Chg.of_set (S:=fun j => j = wb.heap.size) _ _ _ _ rfl)
   generalize (wr.setCell ⟨wb.heap.size,0,none⟩ (.int .i64 (u:Int))).setCell ⟨wb.heap.size,1,none⟩ (.slice (some ⟨G,0,none⟩) nn nn) = wf at *
   refine bodyPost_ret (by simp [results,Tryz.results45,go_sem,t0,t1]; try rfl) rfl ?_
   have hlo:=Uh HLO
   have h9:=Uh HWB
   refine ⟨G,rfl,(Uh HU).row.chg cc (by omega),?_⟩
   exact ((Uh HBs).trans ((Uh HU).chg.below (Uh HBs).size (fun j hj e => by omega))).trans (cc.below (Nat.le_trans (Uh HBs).size (Uh HU).chg.size) (fun j hj e => by omega))
set_option maxRecDepth 100000 in
set_option maxHeartbeats 16000000 in
theorem wlines_rows (R width:Nat) (a1 a2:Option Addr) (n1 c1 n2 c2:Nat) (st cols:List Int) (w:World) (h1:SlI w a1 n1 c1 st) (h2:SlI w a2 n2 c2 cols) (hb1:n1 ≤ 17592186044416) (hb2:n2 ≤ 17592186044416) (hm:MayP (R:Int) (width:Int) st cols) :
  Calls Tryz.prog 45 #[patV (R:Int) (width:Int) a1 n1 c1 a2 n2 c2,.bool true] w fun e w' => ∃ b,e = .returned (grV R b (R * R)) ∧ RoV w' b (R * R) (fun x => .bool (tb (LnQ (fun j u v => InC st cols j u ∧ InC st cols j v) R width R 0 0 x))) ∧ Below w.heap.size w w':=by
 obtain ⟨wb,hwb⟩:∃ x,w.alloc (.cells #[.int .i64 (R:Int),.int .i64 (width:Int),.slice a1 n1 c1,.slice a2 n2 c2] 25) = x:=⟨_,rfl⟩
 have bb:Below w.heap.size w wb:=by rw [← hwb]; exact bAl
 have hT:=BoxP.made w #[.int .i64 (R:Int),.int .i64 (width:Int),.slice a1 n1 c1,.slice a2 n2 c2] 25
 rw [hwb] at hT
 have hO0:=BoxP.made wb #[.int .i64 0,.slice none 0 0] 45
 obtain ⟨wo,hwo⟩:∃ x,wb.alloc (.cells #[.int .i64 0,.slice none 0 0] 45) = x:=⟨_,rfl⟩
 have bo:Below wb.heap.size wb wo:=by rw [← hwo]; exact bAl
 rw [hwo] at hO0
 have hT1:=hT.below bo
 have p0:=(hT1.all 0 _ rfl).1
 have p1:=(hT1.all 1 _ rfl).1
 have p2:=(hT1.all 2 _ rfl).1
 have p3:=(hT1.all 3 _ rfl).1
 have bw:=bb.trans (bo.mono bb.size)
 have KO:=Hj (wopen_any R width a1 a2 n1 c1 n2 c2 st cols wo (h1.below bw) (h2.below bw) hb1 hb2 hm)
 unfold patV gridV at KO
 have HT:=Hj hT1
 have HO:=Hj hO0
 have HB:=Hj bw
 have HWB:=Hj bb.size
 have HM:=Hj hm
 have hfit:=hm.head.fit
 have hR8:R ≤ 128:=by omega
 have hW8:width ≤ 128:=by omega
 clear hT hT1 hO0 bb bo bw h1 h2 hm hfit
 obtain ⟨nn,hnn⟩:∃ nn,R * R = nn:=⟨_,rfl⟩
 have hnn1:(R:Int) * (R:Int) = (nn:Int):=by rw [← hnn]; simp
 have hnn2:nn ≤ 16384:=by rw [← hnn]; exact Nat.mul_le_mul hR8 hR8
 have hmk:=fun W => make_boolsP nn (by omega) W
 have HNN:=Hj hnn
 rw [hnn]
 clear hnn
 unfold patV
 go_enter Tryz.func45,Tryz.ntmps45
 go_wp2_with fail
 refine (Uh KO).mono ?_
 rintro _ w2 ⟨b,rfl,hRo,b2⟩
 obtain ⟨mo,hmo⟩:∃ mo,R * width = mo:=⟨_,rfl⟩
 have hmo2:mo ≤ 16384:=by rw [← hmo]; exact Nat.mul_le_mul hR8 hW8
 rw [hmo] at hRo
 have hG0:=BoxP.made w2 #[.int .i64 (R:Int),.int .i64 (width:Int),.slice (some ⟨b,0,none⟩) mo mo] 131
 obtain ⟨wg,hwg⟩:∃ x,w2.alloc (.cells #[.int .i64 (R:Int),.int .i64 (width:Int),.slice (some ⟨b,0,none⟩) mo mo] 131) = x:=⟨_,rfl⟩
 have bg:Below w2.heap.size w2 wg:=by rw [← hwg]; exact bAl
 rw [hwg] at hG0
 have b2g:=b2.trans (bg.mono b2.size)
 have hTg:=(Uh HT).below b2g
 have hOg:=(Uh HO).below b2g
 have q0:=(hTg.all 0 _ rfl).1
 have q1:=(hTg.all 1 _ rfl).1
 have q2:=(hTg.all 2 _ rfl).1
 have q3:=(hTg.all 3 _ rfl).1
 have HG:=Hj (And.intro hTg (And.intro hOg hG0))
 have HRo:=Hj (hRo.below bg)
 have bwg:=(Uh HB).trans (b2g.mono (Uh HB).size)
 have HBg:=Hj bwg
 have HMO:=Hj hmo
 rw [hmo]
 clear KO p0 p1 p2 p3 hG0 bg b2 b2g hTg hOg hRo bwg hmo
 go_wp2_with fail
 have hRn:=(RoV.made wg nn 4 (.bool false)).below ((Below.refl (wg.alloc (.cells (madeCells #[.bool false] nn) 4)).heap.size _).alloc (Nat.le_refl _) (.cells #[.int .i64 (R:Int),.slice (some ⟨wg.heap.size,0,none⟩) nn nn] 45))
 have hX0:=BoxP.made (wg.alloc (.cells (madeCells #[.bool false] nn) 4)) #[.int .i64 (R:Int),.slice (some ⟨wg.heap.size,0,none⟩) nn nn] 45
 have bgs:Below wg.heap.size wg ((wg.alloc (.cells (madeCells #[.bool false] nn) 4)).alloc (.cells #[.int .i64 (R:Int),.slice (some ⟨wg.heap.size,0,none⟩) nn nn] 45)):=(bAl).alloc (by simp) _
 have ez:(wg.alloc (.cells (madeCells #[.bool false] nn) 4)).heap.size = wg.heap.size + 1:=by simp
 rw [ez] at hX0
 generalize (wg.alloc (.cells (madeCells #[.bool false] nn) 4)).alloc (.cells #[.int .i64 (R:Int),.slice (some ⟨wg.heap.size,0,none⟩) nn nn] 45) = ws at *
 have hgw:=bgs.size
 have hlo:=(Uh HG).1.lt
 have hlo2:=(Uh HG).2.1.lt
 have hlo3:=(Uh HG).2.2.lt
 have HBX:=Hj (show ∀ W,Chg (fun j => j = wg.heap.size) ws W → (BoxP W w.heap.size [.int .i64 (R:Int),.int .i64 (width:Int),.slice a1 n1 c1,.slice a2 n2 c2] ∧ BoxP W wb.heap.size [.int .i64 0,.slice none 0 0] ∧ BoxP W w2.heap.size [.int .i64 (R:Int),.int .i64 (width:Int),.slice (some ⟨b,0,none⟩) mo mo] ∧ BoxP W (wg.heap.size + 1) [.int .i64 (R:Int),.slice (some ⟨wg.heap.size,0,none⟩) nn nn]) ∧ RoV W b mo (fun x => .bool (tb (Vis R width st cols cols.length x))) from fun W c => by
  refine ⟨⟨((Uh HG).1.below bgs).chg c (by omega),((Uh HG).2.1.below bgs).chg c (by omega),((Uh HG).2.2.below bgs).chg c (by omega),hX0.chg c (by omega)⟩,?_⟩
  intro i hi
  have h5:=World.block_lt_of_cell? _ _ (Uh HRo i hi).1
  exact RoV.chg ((Uh HRo).below bgs) c (fun e => by simp at h5; omega) i hi)
 have HI0:=Hj (show OpI ws ws wg.heap.size nn (LnQ (fun j u v => InC st cols j u ∧ InC st cols j v) R width 0 0 0) from ⟨hRn.congr (fun x _ => by rw [tb_no (LnQ.first x)]),Chg.refl _ _⟩)
 have HBs:=Hj ((Uh HBg).trans (bgs.mono (Uh HBg).size))
 have HLO:=Hj (And.intro (Uh HBg).size (And.intro hlo2 hgw))
 clear q0 q1 q2 q3 hRn hX0 bgs ez hgw hlo hlo2 hlo3 hmk hwg HBg HRo HG
 generalize wg.heap.size = G at *
 generalize hX:G + 1 = X at *
 have HX:=Hj hX
 clear hX
 go_loopw [9] (fun uv wr => ∃ u:Nat,u ≤ R ∧ uv = .int .i64 (u:Int) ∧ Hid (OpI ws wr G nn (LnQ (fun j u v => InC st cols j u ∧ InC st cols j v) R width u 0 0))) (fun uv _ => R - (intOf uv).toNat)
 case atStart => exact ⟨0,Nat.zero_le _,rfl,HI0⟩
 case round =>
  obtain ⟨u,hu,rfl,HU⟩:=hrel
  by_cases hult:u < R
  ·have hult':(u:Int) < (R:Int):=by omega
   go_wp2_with fail
   go_loopw [10] (fun vv wr => ∃ v:Nat,v ≤ R ∧ vv = .int .i64 (v:Int) ∧ Hid (OpI ws wr G nn (LnQ (fun j u v => InC st cols j u ∧ InC st cols j v) R width u v 0))) (fun vv _ => R - (intOf vv).toNat)
   case atStart => exact ⟨0,Nat.zero_le _,rfl,HU⟩
   case round =>
    obtain ⟨v,hv,rfl,HV⟩:=hrel
    by_cases hvlt:v < R
    ·have hvlt':(v:Int) < (R:Int):=by omega
     go_wp2_with fail
     go_loopw [11] (fun kv wr => ∃ k:Nat,k ≤ width ∧ kv = .int .i64 (k:Int) ∧ Hid (OpI ws wr G nn (LnQ (fun j u v => InC st cols j u ∧ InC st cols j v) R width u v k))) (fun kv _ => width - (intOf kv).toNat)
     case atStart => exact ⟨0,Nat.zero_le _,rfl,HV⟩
     case round =>
      obtain ⟨k,hk,rfl,HK⟩:=hrel
      by_cases hne:u = v
      ·have hne':((u:Int) != (v:Int)) = false:=by simp [hne]
       have HN:=Hj ((Uh HK).congr (fun x => (LnQ.nextV (.inr hne) x).symm))
       have HNE:=Hj hne
       clear hne
       go_wp2_with fail
       exact ⟨⟨v + 1,by omega,by (first | rfl | go_num),HN⟩,by simp [intOf]; omega⟩
      ·have hne':((u:Int) != (v:Int)) = true:=by simp; omega
       by_cases hklt:k < width
       ·have hklt':(k:Int) < (width:Int):=by omega
        have HNE:=Hj hne
        have hbx:=Uh HBX wr (Uh HK).chg
        have g0:=(hbx.1.2.2.1.all 0 _ rfl).1
        have g1:=(hbx.1.2.2.1.all 1 _ rfl).1
        have g2:=(hbx.1.2.2.1.all 2 _ rfl).1
        have x0:=(hbx.1.2.2.2.all 0 _ rfl).1
        have x1:=(hbx.1.2.2.2.all 1 _ rfl).1
        have K1:=Hj (wat_any R width b mo u k (fun x => tb (Vis R width st cols cols.length x)) wr hW8 (by omega) (by omega) (by rw [← Uh HMO]; exact idx_lt hult hklt) hmo2 hbx.2)
        unfold gridV at K1
        try dsimp only at K1
        obtain ⟨s1,hs1⟩:∃ s1,tb (Vis R width st cols cols.length (u * width + k)) = s1:=⟨_,rfl⟩
        have HS1:=Hj (show TruQ s1 (InC st cols k u) from by rw [← hs1]; exact vis_in (Uh HM) hult hklt)
        rw [hs1] at K1
        clear hne hbx hs1
        go_wp2_with fail
        refine (Uh K1).mono ?_
        rintro _ w4 ⟨rfl,b4⟩
        have hK4:=(Uh HK).below b4
        have hbx:=Uh HBX w4 hK4.chg
        clear g0 g1 g2 x0 x1 K1
        have g0:=(hbx.1.2.2.1.all 0 _ rfl).1
        have g1:=(hbx.1.2.2.1.all 1 _ rfl).1
        have g2:=(hbx.1.2.2.1.all 2 _ rfl).1
        have x0:=(hbx.1.2.2.2.all 0 _ rfl).1
        have x1:=(hbx.1.2.2.2.all 1 _ rfl).1
        have HK4:=Hj hK4
        cases s1
        ·have HN:=Hj (hK4.congr (fun x => (LnQ.no (fun h => absurd (Iff.mpr (Uh HS1) h.1) (by decide)) x).symm))
         clear hbx hK4 b4
         go_wp2_with fail
         exact ⟨⟨k + 1,by omega,by (first | rfl | go_num),HN⟩,by simp [intOf]; omega⟩
        ·have K2:=Hj (wat_any R width b mo v k (fun x => tb (Vis R width st cols cols.length x)) w4 hW8 (by omega) (by omega) (by rw [← Uh HMO]; exact idx_lt hvlt hklt) hmo2 hbx.2)
         unfold gridV at K2
         try dsimp only at K2
         obtain ⟨s2,hs2⟩:∃ s2,tb (Vis R width st cols cols.length (v * width + k)) = s2:=⟨_,rfl⟩
         have HS2:=Hj (show TruQ s2 (InC st cols k v) from by rw [← hs2]; exact vis_in (Uh HM) hvlt hklt)
         rw [hs2] at K2
         clear hbx hK4 b4 hs2
         go_wp2_with fail
         refine (Uh K2).mono ?_
         rintro _ w5 ⟨rfl,b5⟩
         have hK5:=(Uh HK4).below b5
         have hbx:=Uh HBX w5 hK5.chg
         clear g0 g1 g2 x0 x1 K2
         have x0:=(hbx.1.2.2.2.all 0 _ rfl).1
         have x1:=(hbx.1.2.2.2.all 1 _ rfl).1
         cases s2
         ·have HN:=Hj (hK5.congr (fun x => (LnQ.no (fun h => absurd (Iff.mpr (Uh HS2) h.2) (by decide)) x).symm))
          clear hbx hK5 b5
          go_wp2_with fail
          exact ⟨⟨k + 1,by omega,by (first | rfl | go_num),HN⟩,by simp [intOf]; omega⟩
         ·obtain ⟨un,hun⟩:∃ un,u * R = un:=⟨_,rfl⟩
          obtain ⟨y,hy⟩:∃ y,un + v = y:=⟨_,rfl⟩
          have hun1:(u:Int) * (R:Int) = (un:Int):=by rw [← hun]; simp
          have hy1:(un:Int) + (v:Int) = (y:Int):=by omega
          have hyn:y < nn:=by rw [← Uh HNN,← hy,← hun]; exact idx_lt hult hvlt
          have hyn':(y:Int) < (nn:Int):=by omega
          have hon:=(hK5.row y hyn).1
          have hof:=(hK5.row y hyn).2
          have HN:=Hj (hK5.put (Q:=LnQ (fun j u v => InC st cols j u ∧ InC st cols j v) R width u v (k + 1)) y hyn (fun x => by have:=LnQ.yes (M:=(fun j u v => InC st cols j u ∧ InC st cols j v)) hult hvlt hklt (Uh HNE) ⟨Iff.mp (Uh HS1) rfl,Iff.mp (Uh HS2) rfl⟩ x; rw [hun,hy] at this; exact this))
          clear hbx hK5 b5 hun hy
          go_wp2_with fail
          try go_region
          all_goals (try go_wp2_with fail)
          all_goals exact ⟨⟨k + 1,by omega,by (first | rfl | go_num),Hj (by first | exact Uh HN | exact (Uh HN).drew)⟩,by simp [intOf]; omega⟩
       ·obtain rfl:k = width:=by omega
        have hklt':¬ (k:Int) < (k:Int):=by omega
        have HN:=Hj ((Uh HK).congr (fun x => (LnQ.nextV (.inl rfl) x).symm))
        have HNE:=Hj hne
        clear hne
        go_wp2_with fail
        exact ⟨⟨v + 1,by omega,by (first | rfl | go_num),HN⟩,by simp [intOf]; omega⟩
    ·obtain rfl:v = R:=by omega
     have hvlt':¬ (v:Int) < (v:Int):=by omega
     have HN:=Hj ((Uh HV).congr (fun x => (LnQ.nextU x).symm))
     go_wp2_with fail
     exact ⟨⟨u + 1,by omega,by (first | rfl | go_num),HN⟩,by simp [intOf]; omega⟩
  ·obtain rfl:u = R:=by omega
   have hult':¬ (u:Int) < (u:Int):=by omega
   have hbx:=(Uh HBX wr (Uh HU).chg).1
   have x0:=(hbx.2.2.2.all 0 _ rfl).1
   have x1:=(hbx.2.2.2.all 1 _ rfl).1
   have o0:=(hbx.2.1.all 0 _ rfl).1
   have o1:=(hbx.2.1.all 1 _ rfl).1
   have r0:=(hbx.2.1.all 0 _ rfl).2
   have r1:=(hbx.2.1.all 1 _ rfl).2
   have HOr:=Hj hbx.2.1
   clear hbx
   go_wp2_with fail
   have hf:=((Uh HOr).put 0 (.int .i64 (u:Int))).put 1 (.slice (some ⟨G,0,none⟩) nn nn)
   have t0:=(hf.all 0 _ rfl).1
   have t1:=(hf.all 1 _ rfl).1
   have cc:Chg (fun j => j = wb.heap.size) wr ((wr.setCell ⟨wb.heap.size,0,none⟩ (.int .i64 (u:Int))).setCell ⟨wb.heap.size,1,none⟩ (.slice (some ⟨G,0,none⟩) nn nn)):=(Chg.of_set (S:=fun j => j = wb.heap.size) _ _ _ _ rfl).trans (Chg.of_set (S:=fun j => j = wb.heap.size) _ _ _ _ rfl)
   generalize (wr.setCell ⟨wb.heap.size,0,none⟩ (.int .i64 (u:Int))).setCell ⟨wb.heap.size,1,none⟩ (.slice (some ⟨G,0,none⟩) nn nn) = wf at *
   refine bodyPost_ret (by simp [results,Tryz.results45,go_sem,t0,t1]; try rfl) rfl ?_
   have hlo:=Uh HLO
   have h9:=Uh HWB
   refine ⟨G,rfl,(Uh HU).row.chg cc (by omega),?_⟩
   exact ((Uh HBs).trans ((Uh HU).chg.below (Uh HBs).size (fun j hj e => by omega))).trans (cc.below (Nat.le_trans (Uh HBs).size (Uh HU).chg.size) (fun j hj e => by omega))

structure Ext (w0:World) where
 w:World
 bel:Below w0.heap.size w0 w
theorem Ext.ne (w:World):Nonempty (Ext w):=⟨⟨w,Below.refl _ _⟩⟩
section
variable {P:Program}
theorem wp_region_ext {id:Nat} {Q:Exit → Act → World → Prop} {a:Act} {w:World} {l:List Oper} (hm:P.follows .mixedOrders = true) (hB:Region.lexB .any l.toArray = true)
  (h:wpQuiet P l.toArray (fun w' => ∃ x:Ext w,w' = x.w) (fun a' => ∀ w',(∃ x:Ext w,w' = x.w) → Q .normal a' w') l a):(Code.region id l.toArray true).wp P Q a w :=
 wp_region_quiet (C:=fun w' => ∃ x:Ext w,w' = x.w) hm hB ⟨⟨w.drew,(Below.refl _ _).drew⟩,rfl⟩ (by simpa using h)
end
theorem Ext.call {P:Program} {f:FuncId} {args:Array Value} {w:World} {x:Ext w} {v:Value} {R:Ending → World → Prop} (h:Calls P f args x.w R) (hR:∀ e w',R e w' → e = .returned v ∧ Below x.w.heap.size x.w w') :
  Calls P f args x.w fun e w'' => e = .returned v ∧ ∃ y:Ext w,w'' = y.w :=
 h.mono fun e w' hr => ⟨(hR e w' hr).1,⟨⟨w',x.bel.trans ((hR e w' hr).2.mono x.bel.size)⟩,rfl⟩⟩
theorem Ext.cell {w:World} (x:Ext w) {p:Addr} {v:Value} (h:w.cell? p = some v):x.w.cell? p = some v:=(x.bel.cell (p:=p) (World.block_lt_of_cell? _ _ h)).trans h
end Go.Proofs.YtgjokididdffhaaGreat
