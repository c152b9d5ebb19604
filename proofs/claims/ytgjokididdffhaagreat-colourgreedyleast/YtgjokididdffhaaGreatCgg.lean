/- Cgg -/
import Derived.Test.YtgjokididdffhaaGreatRq0
namespace Go.Proofs.YtgjokididdffhaaGreat
open Go.RowKit Go.Deep
set_option linter.unusedVariables false
def GdP (st cols:List Int) (R u v:Nat):Prop:=∀ a b,a < R → b < R → (a < u ∨ a = u ∧ b < v) → (InC st cols b a ↔ InC st cols a b) ∧ ¬ (a = b ∧ InC st cols b a)
theorem GdP.first (st cols:List Int) (R:Nat):GdP st cols R 0 0:=fun a b _ _ h => by omega
theorem GdP.nextU {st cols:List Int} {R u:Nat} (h:GdP st cols R u R):GdP st cols R (u + 1) 0:=fun a b ha hb hc => h a b ha hb (by omega)
theorem GdP.next {st cols:List Int} {R u v:Nat} (h:GdP st cols R u v) (h1:InC st cols v u ↔ InC st cols u v) (h2:¬ (u = v ∧ InC st cols v u)):GdP st cols R u (v + 1):=fun a b ha hb hc => by
 by_cases e:a = u ∧ b = v
 ·obtain ⟨rfl,rfl⟩:=e
  exact ⟨h1,h2⟩
 ·exact h a b ha hb (by omega)
theorem GdP.last {st cols:List Int} {R:Nat} (h:GdP st cols R R 0):GraP st cols R R:=by
 refine ⟨rfl,fun u v hu hv hi => ((h v u hv hu (.inl hv)).1).1 hi,?_⟩
 rintro ⟨r,hr,hi⟩
 exact (h r r hr hr (.inl hr)).2 ⟨rfl,hi⟩
theorem GraP.no {st cols:List Int} {R u v:Nat} (hu:u < R) (hv:v < R) (h:¬ (InC st cols v u ↔ InC st cols u v) ∨ (u = v ∧ InC st cols v u)):¬ GraP st cols R R:=by
 rintro ⟨_,h1,h2⟩
 rcases h with h | ⟨h,hi⟩
 ·exact h ⟨fun hi => h1 v u hv hu hi,fun hi => h1 u v hu hv hi⟩
 ·subst h
  exact h2 ⟨u,hu,hi⟩
def OpQ (R:Nat) (st cols:List Int) (u v x:Nat):Prop:=x < u * R + v ∧ Vis R R st cols cols.length x
theorem OpQ.next {R:Nat} {st cols:List Int} {u v x:Nat}:OpQ R st cols u (v + 1) x ↔ (x = u * R + v ∧ Vis R R st cols cols.length x) ∨ (x ≠ u * R + v ∧ OpQ R st cols u v x):=by
 unfold OpQ
 constructor
 ·rintro ⟨h1,h2⟩
  by_cases e:x = u * R + v
  ·exact .inl ⟨e,h2⟩
  ·exact .inr ⟨e,by omega,h2⟩
 ·rintro (⟨h1,h2⟩ | ⟨_,h1,h2⟩)
  ·exact ⟨by omega,h2⟩
  ·exact ⟨by omega,h2⟩
theorem OpQ.nextU {R:Nat} {st cols:List Int} {u x:Nat}:OpQ R st cols (u + 1) 0 x ↔ OpQ R st cols u R x:=by
 unfold OpQ
 rw [Nat.add_mul,Nat.one_mul]
 rfl
theorem OpI.set {w2 W:World} {b m:Nat} {P Q:Nat → Prop} {t:Bool} (h:OpI w2 W b m P) (x:Nat) (hx:x < m) (hxx:TruQ t (Q x)) (e:∀ y,y ≠ x → (Q y ↔ P y)):OpI w2 (W.setCell ⟨b,x,none⟩ (.bool t)) b m Q:=by
 refine ⟨(h.row.put x (.bool t) hx).congr (fun i hi => ?_),h.chg.trans (Chg.of_set _ _ _ _ rfl)⟩
 by_cases c:i = x
 ·simp only [c,if_true]
  cases t
  ·rw [tb_no (fun q => absurd (Iff.mpr hxx q) (by decide))]
  ·rw [tb_yes (Iff.mp hxx rfl)]
 ·simp only [c,if_false]
  rw [tb_congr (e i c)]
theorem wrap_i64g (x:Int):IntKind.i64.wrap x = (x + 9223372036854775808) % 18446744073709551616 - 9223372036854775808:=by
 simp [IntKind.wrap,IntKind.bits,IntKind.signed]
 split <;> omega
structure GbI (s:Nat) (wg ws:World) (G X n nn:Nat):Prop where
 row:RoV ws G nn (fun _ => .bool false)
 box:BoxP ws X [.int .i64 (n:Int),.slice (some ⟨G,0,none⟩) nn nn]
 ne:X ≠ G
 g0:s ≤ G
 x0:s ≤ X
 gl:G < ws.heap.size
 bel:Below s wg ws
theorem gbA (wg:World) (n nn s:Nat) (hs:s = wg.heap.size):GbI s wg ((wg.alloc (.cells (madeCells #[.bool false] nn) 4)).alloc (.cells #[.int .i64 (n:Int),.slice (some ⟨wg.heap.size,0,none⟩) nn nn] 45)).drew wg.heap.size (wg.heap.size + 1) n nn:=by
 subst hs
 have e:(wg.alloc (.cells (madeCells #[.bool false] nn) 4)).heap.size = wg.heap.size + 1:=by simp
 refine ⟨?_,?_,by omega,Nat.le_refl _,by omega,by simp; omega,((bAl).alloc (by simp) _).drew⟩
 ·exact (RoV.made wg nn 4 (.bool false)).below ((Below.refl (wg.alloc (.cells (madeCells #[.bool false] nn) 4)).heap.size _).alloc (Nat.le_refl _) _).drew
 ·have:=(BoxP.made (wg.alloc (.cells (madeCells #[.bool false] nn) 4)) #[.int .i64 (n:Int),.slice (some ⟨wg.heap.size,0,none⟩) nn nn] 45).below (Below.refl _ _).drew
  rw [e] at this
  exact this
theorem gbC (wg:World) (n nn s:Nat) (hs:s = wg.heap.size):GbI s wg ((wg.alloc (.cells #[.int .i64 (n:Int),.slice (some ⟨wg.heap.size + 1,0,none⟩) nn nn] 45)).alloc (.cells (madeCells #[.bool false] nn) 4)).drew (wg.heap.size + 1) wg.heap.size n nn:=by
 subst hs
 have e:(wg.alloc (.cells #[.int .i64 (n:Int),.slice (some ⟨wg.heap.size + 1,0,none⟩) nn nn] 45)).heap.size = wg.heap.size + 1:=by simp
 refine ⟨?_,?_,by omega,by omega,Nat.le_refl _,by simp,((bAl).alloc (by simp) _).drew⟩
 ·have:=(RoV.made (wg.alloc (.cells #[.int .i64 (n:Int),.slice (some ⟨wg.heap.size + 1,0,none⟩) nn nn] 45)) nn 4 (.bool false)).below (Below.refl _ _).drew
  rw [e] at this
  exact this
 ·exact (BoxP.made wg #[.int .i64 (n:Int),.slice (some ⟨wg.heap.size + 1,0,none⟩) nn nn] 45).below (bAl).drew
def OgP (w w':World) (e:Ending) (R m:Nat) (ok:Bool) (f:Nat → Bool):Prop:=Below w.heap.size w w' ∧ (ok = true → ∃ b,w.heap.size ≤ b ∧ e = .returned (.tuple #[grV R b m,.bool true]) ∧ RoV w' b m (fun x => .bool (f x))) ∧ (ok = false → e = .returned (.tuple #[.agg #[.int .i64 0,.slice none 0 0],.bool false]))
set_option maxRecDepth 100000 in
set_option maxHeartbeats 16000000 in
theorem wopenG_any (R:Nat) (a1 a2:Option Addr) (n1 c1 n2 c2:Nat) (st cols:List Int) (w:World) (h1:SlI w a1 n1 c1 st) (h2:SlI w a2 n2 c2 cols) (hb1:n1 ≤ 17592186044416) (hb2:n2 ≤ 17592186044416) (hm:MayP (R:Int) (R:Int) st cols) (ok:Bool) (hok:TruQ ok (GraP st cols R R)) :
  Calls Tryz.prog 46 #[patV (R:Int) (R:Int) a1 n1 c1 a2 n2 c2] w fun e w' => OgP w w' e R (R * R) ok (fun x => tb (Vis R R st cols cols.length x)):=by
 obtain ⟨wb,hwb⟩:∃ x,w.alloc (.cells #[.int .i64 (R:Int),.int .i64 (R:Int),.slice a1 n1 c1,.slice a2 n2 c2] 25) = x:=⟨_,rfl⟩
 have bb:Below w.heap.size w wb:=by rw [← hwb]; exact bAl
 have hT:=BoxP.made w #[.int .i64 (R:Int),.int .i64 (R:Int),.slice a1 n1 c1,.slice a2 n2 c2] 25
 rw [hwb] at hT
 have hO0:=BoxP.made wb #[.int .i64 0,.slice none 0 0] 45
 obtain ⟨wo,hwo⟩:∃ x,wb.alloc (.cells #[.int .i64 0,.slice none 0 0] 45) = x:=⟨_,rfl⟩
 have bo:Below wb.heap.size wb wo:=by rw [← hwo]; exact bAl
 rw [hwo] at hO0
 have hT1:=hT.below bo
 have p0:=(hT1.all 0 _ rfl).1
 have p1:=(hT1.all 1 _ rfl).1
 have p2:=(hT1.all 2 _ rfl).1
 have p3:=(hT1.all 3 _ rfl).1
 have bw:=bb.trans (bo.mono bb.size)
 have KO:=Hj (wopen_any R R a1 a2 n1 c1 n2 c2 st cols wo (h1.below bw) (h2.below bw) hb1 hb2 hm)
 unfold patV gridV at KO
 have HT:=Hj hT1
 have HO:=Hj hO0
 have HB:=Hj bw
 have HWB:=Hj bb.size
 have HM:=Hj hm
 have HOK:=Hj hok
 have hfit:=hm.head.fit
 have hR8:R ≤ 128:=by omega
 clear hT hT1 hO0 bb bo bw h1 h2 hm hfit hok
 obtain ⟨nn,hnn⟩:∃ nn,R * R = nn:=⟨_,rfl⟩
 have hnn1:(R:Int) * (R:Int) = (nn:Int):=by rw [← hnn]; simp
 have hnn2:nn ≤ 16384:=by rw [← hnn]; exact Nat.mul_le_mul hR8 hR8
 have hmk:=fun W => make_boolsP nn (by omega) W
 have HNN:=Hj hnn
 rw [hnn] at KO
 rw [hnn]
 clear hnn
 unfold patV
 go_enter Tryz.func46,Tryz.ntmps46
 go_wp2_with fail
 refine (Uh KO).mono ?_
 rintro _ w2 ⟨b,rfl,hRo,b2⟩
 have hG0:=BoxP.made w2 #[.int .i64 (R:Int),.int .i64 (R:Int),.slice (some ⟨b,0,none⟩) nn nn] 131
 obtain ⟨wg,hwg⟩:∃ x,w2.alloc (.cells #[.int .i64 (R:Int),.int .i64 (R:Int),.slice (some ⟨b,0,none⟩) nn nn] 131) = x:=⟨_,rfl⟩
 have bg:Below w2.heap.size w2 wg:=by rw [← hwg]; exact bAl
 rw [hwg] at hG0
 have b2g:=b2.trans (bg.mono b2.size)
 have hTg:=(Uh HT).below b2g
 have hOg:=(Uh HO).below b2g
 have q0:=(hTg.all 0 _ rfl).1
 have q1:=(hTg.all 1 _ rfl).1
 have q2:=(hTg.all 2 _ rfl).1
 have q3:=(hTg.all 3 _ rfl).1
 have HG:=Hj (And.intro hTg (And.intro hOg hG0))
 have HRo:=Hj (hRo.below bg)
 have bwg:=(Uh HB).trans (b2g.mono (Uh HB).size)
 have HBg:=Hj bwg
 clear KO p0 p1 p2 p3 hG0 bg b2 b2g hTg hOg hRo bwg
 go_wp2_with fail
 have hlw:w.heap.size < wg.heap.size:=(Uh HG).1.lt
 have q0x:∀ o:Obj,(wg.alloc o).cell? ⟨w.heap.size,0,none⟩ = some (.int .i64 (R:Int)):=fun o => by rw [World.cell?_alloc_lt _ _ _ hlw]; exact q0
 obtain ⟨s,hs⟩:∃ s,s = wg.heap.size:=⟨_,rfl⟩
 have HSS:=Hj hs
 clear hs hwg
 go_region
 have HD0:=gbA wg R nn s (Uh HSS)
 generalize ((wg.alloc (.cells (madeCells #[.bool false] nn) 4)).alloc (.cells #[.int .i64 (R:Int),.slice (some ⟨wg.heap.size,0,none⟩) nn nn] 45)).drew = ws at HD0 ⊢
 generalize wg.heap.size + 1 = X at HD0 ⊢
 generalize wg.heap.size = G at HD0 ⊢
 have HD:=Hj HD0
 clear HD0
 rotate_left
 have HD0:=gbC wg R nn s (Uh HSS)
 generalize ((wg.alloc (.cells #[.int .i64 (R:Int),.slice (some ⟨wg.heap.size + 1,0,none⟩) nn nn] 45)).alloc (.cells (madeCells #[.bool false] nn) 4)).drew = ws at HD0 ⊢
 generalize wg.heap.size + 1 = G at HD0 ⊢
 generalize wg.heap.size = X at HD0 ⊢
 have HD:=Hj HD0
 clear HD0
 rotate_left
 all_goals
  have HLO:=Hj (And.intro (Uh HG).1.lt (And.intro (Uh HG).2.1.lt (Uh HG).2.2.lt))
  have HBX:=Hj (show ∀ W,Chg (fun j => j = G) ws W → (BoxP W w.heap.size [.int .i64 (R:Int),.int .i64 (R:Int),.slice a1 n1 c1,.slice a2 n2 c2] ∧ BoxP W wb.heap.size [.int .i64 0,.slice none 0 0] ∧ BoxP W w2.heap.size [.int .i64 (R:Int),.int .i64 (R:Int),.slice (some ⟨b,0,none⟩) nn nn] ∧ BoxP W X [.int .i64 (R:Int),.slice (some ⟨G,0,none⟩) nn nn]) ∧ RoV W b nn (fun x => .bool (tb (Vis R R st cols cols.length x))) from fun W c => by
   have d:=Uh HD
   have hs:=Uh HSS
   have hlo:=Uh HLO
   have bgs:Below wg.heap.size wg ws:=hs ▸ d.bel
   have hg0:=d.g0
   refine ⟨⟨((Uh HG).1.below bgs).chg c (by omega),((Uh HG).2.1.below bgs).chg c (by omega),((Uh HG).2.2.below bgs).chg c (by omega),d.box.chg c d.ne⟩,?_⟩
   intro i hi
   have h5:=World.block_lt_of_cell? _ _ (Uh HRo i hi).1
   exact RoV.chg ((Uh HRo).below bgs) c (fun e => by simp at h5; omega) i hi)
  have HI0:=Hj (show OpI ws ws G nn (OpQ R st cols 0 0) from ⟨(Uh HD).row.congr (fun x _ => by rw [tb_no (show ¬ OpQ R st cols 0 0 x from fun h => by have:=h.1; omega)]),Chg.refl _ _⟩)
  have HBs:=Hj ((Uh HBg).trans ((show Below wg.heap.size wg ws from (Uh HSS) ▸ (Uh HD).bel).mono (Uh HBg).size))
  have HGE:=Hj (show w.heap.size ≤ G ∧ wb.heap.size < G ∧ w2.heap.size ≠ G from by
   have d:=Uh HD
   have hs:=Uh HSS
   have hlo:=Uh HLO
   have hg0:=d.g0
   omega)
  clear q0 q1 q2 q3 hlw q0x hmk HBg HRo HG HT HO HB HLO HSS
  go_wp2_with fail
  go_loopw [6] (fun uv wr => ∃ u:Nat,u ≤ R ∧ uv = .int .i64 (u:Int) ∧ Hid (OpI ws wr G nn (OpQ R st cols u 0)) ∧ Hid (GdP st cols R u 0)) (fun uv _ => R - (intOf uv).toNat)
  case atStart => exact ⟨0,Nat.zero_le _,rfl,HI0,Hj (GdP.first st cols R)⟩
  case round =>
   obtain ⟨u,hu,rfl,HU,HGU⟩:=hrel
   have hbx:=Uh HBX wr (Uh HU).chg
   have x0:=(hbx.1.2.2.2.all 0 _ rfl).1
   by_cases hult:u < R
   ·have hult':(u:Int) < (R:Int):=by omega
    clear hbx
    go_wp2_with fail
    clear x0
    go_loopw [7] (fun vv wr => ∃ v:Nat,v ≤ R ∧ vv = .int .i64 (v:Int) ∧ Hid (OpI ws wr G nn (OpQ R st cols u v)) ∧ Hid (GdP st cols R u v)) (fun vv _ => R - (intOf vv).toNat)
    case atStart => exact ⟨0,Nat.zero_le _,rfl,HU,HGU⟩
    case round =>
     obtain ⟨v,hv,rfl,HV,HGV⟩:=hrel
     have hbx:=Uh HBX wr (Uh HV).chg
     have g0:=(hbx.1.2.2.1.all 0 _ rfl).1
     have g1:=(hbx.1.2.2.1.all 1 _ rfl).1
     have g2:=(hbx.1.2.2.1.all 2 _ rfl).1
     have x0:=(hbx.1.2.2.2.all 0 _ rfl).1
     have x1:=(hbx.1.2.2.2.all 1 _ rfl).1
     by_cases hvlt:v < R
     ·have hvlt':(v:Int) < (R:Int):=by omega
      obtain ⟨T,hT⟩:∃ T:Nat → Nat → Bool,T = fun r c => tb (Vis R R st cols cols.length (r * R + c)):=⟨_,rfl⟩
      have HTT:=Hj (show ∀ r c,r < R → c < R → TruQ (T r c) (InC st cols c r) from fun r c hr hc => by rw [hT]; exact vis_in (Uh HM) hr hc)
      have HKA:=Hj (show ∀ (W:World) (r c:Nat),Chg (fun j => j = G) ws W → r < R → c < R → Calls Tryz.prog 77 #[.agg #[.int .i64 (R:Int),.int .i64 (R:Int),.slice (some ⟨b,0,none⟩) nn nn],.int .i64 (r:Int),.int .i64 (c:Int)] W fun e w' => e = .returned (.bool (T r c)) ∧ Below W.heap.size W w' from fun W r c k hr hc => by
       rw [hT]
       exact wat_any R R b nn r c (fun x => tb (Vis R R st cols cols.length x)) W hR8 (by omega) (by omega) (by rw [← Uh HNN]; exact idx_lt hr hc) hnn2 (Uh HBX W k).2)
      obtain ⟨un,hun⟩:∃ un,u * R = un:=⟨_,rfl⟩
      obtain ⟨y,hy⟩:∃ y,un + v = y:=⟨_,rfl⟩
      have hun1:(u:Int) * (R:Int) = (un:Int):=by rw [← hun]; simp
      have hy1:(un:Int) + (v:Int) = (y:Int):=by omega
      have hyn:y < nn:=by rw [← Uh HNN,← hy,← hun]; exact idx_lt hult hvlt
      have hyn':(y:Int) < (nn:Int):=by omega
      have hy0:(0:Int) ≤ (y:Int):=by omega
      have hw1:IntKind.i64.wrap ((u:Int) * (R:Int)) = (un:Int):=by rw [hun1,wrap_i64g]; omega
      have hw2:IntKind.i64.wrap ((un:Int) + (v:Int)) = (y:Int):=by rw [hy1,wrap_i64g]; omega
      have hw3:IntKind.i64.wrap (un:Int) = (un:Int):=by rw [wrap_i64g]; omega
      have hw4:IntKind.i64.wrap (y:Int) = (y:Int):=by rw [wrap_i64g]; omega
      have HYY:=Hj (show u * R + v = y by rw [hun,hy])
      have HTY:=Hj (show TruQ (T u v) (OpQ R st cols u (v + 1) y) from by
       rw [hT]
       refine tb_iff.trans ?_
       rw [OpQ.next,hun,hy]
       exact ⟨fun h => .inl ⟨rfl,h⟩,fun h => h.elim (fun h => h.2) (fun h => absurd rfl h.1)⟩)
      have hXG:=(Uh HD).ne
      have hwG:w2.heap.size ≠ G:=(Uh HGE).2.2
      clear hbx hT hun hy
      go_wp2_with fail
      go_region_held3 (fun w' => (w'.cell? ⟨X,0,none⟩ = some (.int .i64 (R:Int)) ∧ w'.cell? ⟨X,1,none⟩ = some (.slice (some ⟨G,0,none⟩) nn nn)) ∧ w'.cell? ⟨w2.heap.size,0,none⟩ = some (.int .i64 (R:Int)) ∧ w'.cell? ⟨w2.heap.size,1,none⟩ = some (.int .i64 (R:Int)) ∧ w'.cell? ⟨w2.heap.size,2,none⟩ = some (.slice (some ⟨b,0,none⟩) nn nn)) (first | (exact ⟨⟨m0,m1⟩,m2,m3,m4⟩) | (exact ⟨⟨k0,k1⟩,k2,k3,k4⟩) | go_keep)
       ((go_at_call 77; refine (Uh HKA _ u v (by first | exact (Uh HV).chg | exact (Uh HV).drew.chg) hult hvlt).mono ?_; rintro _ wk ⟨rfl,bk⟩; have hVk:=((Uh HV).drew).below bk; have hbk:=Uh HBX wk hVk.chg; have k2:=(hbk.1.2.2.1.all 0 _ rfl).1; have k3:=(hbk.1.2.2.1.all 1 _ rfl).1; have k4:=(hbk.1.2.2.1.all 2 _ rfl).1; have k0:=(hbk.1.2.2.2.all 0 _ rfl).1; have k1:=(hbk.1.2.2.2.all 1 _ rfl).1; have hon:=(hVk.row y hyn).1; have hof:=(hVk.row y hyn).2; have cs:Chg (fun j => j = G) wk (wk.setCell ⟨G,y,none⟩ (.bool (T u v))):=Chg.of_set _ _ _ _ rfl; have m0:=cs.cell (show ¬ X = G from hXG) k0; have m1:=cs.cell (show ¬ X = G from hXG) k1; have m2:=cs.cell (show ¬ w2.heap.size = G from hwG) k2; have m3:=cs.cell (show ¬ w2.heap.size = G from hwG) k3; have m4:=cs.cell (show ¬ w2.heap.size = G from hwG) k4; have HVk:=Hj hVk; clear hVk hbk bk cs))
      have h5:=(Uh HVk).set (Q:=OpQ R st cols u (v + 1)) y hyn (Uh HTY) (fun z hz => by rw [OpQ.next,Uh HYY]; exact ⟨fun h => h.elim (fun h => absurd h.1 hz) (fun h => h.2),fun h => .inr ⟨hz,h⟩⟩)
      clear hon hof k0 k1 k2 k3 k4 m0 m1 HVk
      generalize wk.setCell ⟨G,y,none⟩ (.bool (T u v)) = w5 at *
      have HV5:=Hj h5
      have HKX:=Hj (show ∀ (x:Ext w5) (r c:Nat),r < R → c < R → Calls Tryz.prog 77 #[.agg #[.int .i64 (R:Int),.int .i64 (R:Int),.slice (some ⟨b,0,none⟩) nn nn],.int .i64 (r:Int),.int .i64 (c:Int)] x.w fun e w' => e = .returned (.bool (T r c)) ∧ Below x.w.heap.size x.w w' from fun x r c hr hc => Uh HKA x.w r c ((Uh HV5).chg.trans (Chg.of_below x.bel)) hr hc)
      have Fm2:=fun x:Ext w5 => x.cell m2
      have Fm3:=fun x:Ext w5 => x.cell m3
      have Fm4:=fun x:Ext w5 => x.cell m4
      have hNE:=Ext.ne w5
      have HI1:=Hj (Uh HTT u v hult hvlt)
      have HI2:=Hj (Uh HTT v u hvlt hult)
      clear h5 HKA HTT HTY m2 m3 m4 hun1 hy1 hyn hyn' hy0 hw1 hw2 hw3 hw4 HYY hXG hwG
      obtain ⟨tu,htu⟩:∃ tu,T u v = tu:=⟨_,rfl⟩
      obtain ⟨tv,htv⟩:∃ tv,T v u = tv:=⟨_,rfl⟩
      rw [htu] at HI1
      rw [htv] at HI2
      by_cases heq:u = v
      ·have heq':((u:Int) == (v:Int)) = true:=by simp [heq]
       have HEQ:=Hj heq
       clear heq
       cases tu
       ·cases tv
        ·go_wp2_with fail
         refine wp_region_ext (by kernel_rfl) (by kernel_rfl) ?_
         repeat (go_big_quiet_step (first
          | (go_at_call 77; rename_i x; exact Ext.call (Uh HKX x _ _ (by assumption) (by assumption)) (fun e w' h => h))))
         refine wpQuiet_nil ?_
         rintro _ ⟨xE,rfl⟩
         have HVE:=Hj ((Uh HV5).below xE.bel)
         clear Fm2 Fm3 Fm4 hNE HKX
         go_wp2_with fail
         exact ⟨⟨v + 1,by omega,by (first | rfl | go_num),HVE,Hj ((Uh HGV).next (⟨fun h => absurd h (fun h => absurd (Iff.mpr (Uh HI1) h) (by decide)),fun h => absurd h (fun h => absurd (Iff.mpr (Uh HI2) h) (by decide))⟩) (fun h => absurd h.2 (fun h => absurd (Iff.mpr (Uh HI1) h) (by decide))))⟩,by simp [intOf]; omega⟩
        ·go_wp2_with fail
         refine wp_region_ext (by kernel_rfl) (by kernel_rfl) ?_
         repeat (go_big_quiet_step (first
          | (go_at_call 77; rename_i x; exact Ext.call (Uh HKX x _ _ (by assumption) (by assumption)) (fun e w' h => h))))
         refine wpQuiet_nil ?_
         rintro _ ⟨xE,rfl⟩
         have HVE:=Hj ((Uh HV5).below xE.bel)
         clear Fm2 Fm3 Fm4 hNE HKX
         have hbx:=Uh HBX xE.w (Uh HVE).chg
         have o0:=(hbx.1.2.1.all 0 _ rfl).1
         have o1:=(hbx.1.2.1.all 1 _ rfl).1
         have r0:=(hbx.1.2.1.all 0 _ rfl).2
         have r1:=(hbx.1.2.1.all 1 _ rfl).2
         have HOr:=Hj hbx.1.2.1
         have hokf:ok = false:=by
          cases hk:ok
          ·rfl
          ·exact absurd (Iff.mp (Uh HOK) hk) (GraP.no hult hvlt (.inl (fun h => (fun h => absurd (Iff.mpr (Uh HI1) h) (by decide)) (h.2 (Iff.mp (Uh HI2) rfl)))))
         subst hokf
         clear hbx
         go_wp2_with fail
         have hf:=((Uh HOr).put 0 (.int .i64 0)).put 1 (.slice none 0 0)
         have t0:=(hf.all 0 _ rfl).1
         have t1:=(hf.all 1 _ rfl).1
         have cc:Chg (fun j => j = wb.heap.size) xE.w ((xE.w.setCell ⟨wb.heap.size,0,none⟩ (.int .i64 0)).setCell ⟨wb.heap.size,1,none⟩ (.slice none 0 0)):=(Chg.of_set (S:=fun j => j = wb.heap.size) _ _ _ _ rfl).trans (Chg.of_set (S:=fun j => j = wb.heap.size) _ _ _ _ rfl)
         generalize (xE.w.setCell ⟨wb.heap.size,0,none⟩ (.int .i64 0)).setCell ⟨wb.heap.size,1,none⟩ (.slice none 0 0) = wf at *
         refine bodyPost_ret (by simp [results,Tryz.results46,go_sem,t0,t1]; try rfl) rfl ?_
         have hlo:=Uh HGE
         have h9:=Uh HWB
         exact ⟨((Uh HBs).trans ((Uh HVE).chg.below (Uh HBs).size (fun j hj e => by omega))).trans (cc.below (Nat.le_trans (Uh HBs).size (Uh HVE).chg.size) (fun j hj e => by omega)),fun e => absurd e (by decide),fun _ => rfl⟩
       ·cases tv
        ·go_wp2_with fail
         refine wp_region_ext (by kernel_rfl) (by kernel_rfl) ?_
         repeat (go_big_quiet_step (first
          | (go_at_call 77; rename_i x; exact Ext.call (Uh HKX x _ _ (by assumption) (by assumption)) (fun e w' h => h))))
         refine wpQuiet_nil ?_
         rintro _ ⟨xE,rfl⟩
         have HVE:=Hj ((Uh HV5).below xE.bel)
         clear Fm2 Fm3 Fm4 hNE HKX
         have hbx:=Uh HBX xE.w (Uh HVE).chg
         have o0:=(hbx.1.2.1.all 0 _ rfl).1
         have o1:=(hbx.1.2.1.all 1 _ rfl).1
         have r0:=(hbx.1.2.1.all 0 _ rfl).2
         have r1:=(hbx.1.2.1.all 1 _ rfl).2
         have HOr:=Hj hbx.1.2.1
         have hokf:ok = false:=by
          cases hk:ok
          ·rfl
          ·exact absurd (Iff.mp (Uh HOK) hk) (GraP.no hult hvlt (.inl (fun h => (fun h => absurd (Iff.mpr (Uh HI2) h) (by decide)) (h.1 (Iff.mp (Uh HI1) rfl)))))
         subst hokf
         clear hbx
         go_wp2_with fail
         have hf:=((Uh HOr).put 0 (.int .i64 0)).put 1 (.slice none 0 0)
         have t0:=(hf.all 0 _ rfl).1
         have t1:=(hf.all 1 _ rfl).1
         have cc:Chg (fun j => j = wb.heap.size) xE.w ((xE.w.setCell ⟨wb.heap.size,0,none⟩ (.int .i64 0)).setCell ⟨wb.heap.size,1,none⟩ (.slice none 0 0)):=(Chg.of_set (S:=fun j => j = wb.heap.size) _ _ _ _ rfl).trans (Chg.of_set (S:=fun j => j = wb.heap.size) _ _ _ _ rfl)
         generalize (xE.w.setCell ⟨wb.heap.size,0,none⟩ (.int .i64 0)).setCell ⟨wb.heap.size,1,none⟩ (.slice none 0 0) = wf at *
         refine bodyPost_ret (by simp [results,Tryz.results46,go_sem,t0,t1]; try rfl) rfl ?_
         have hlo:=Uh HGE
         have h9:=Uh HWB
         exact ⟨((Uh HBs).trans ((Uh HVE).chg.below (Uh HBs).size (fun j hj e => by omega))).trans (cc.below (Nat.le_trans (Uh HBs).size (Uh HVE).chg.size) (fun j hj e => by omega)),fun e => absurd e (by decide),fun _ => rfl⟩
        ·go_wp2_with fail
         refine wp_region_ext (by kernel_rfl) (by kernel_rfl) ?_
         repeat (go_big_quiet_step (first
          | (go_at_call 77; rename_i x; exact Ext.call (Uh HKX x _ _ (by assumption) (by assumption)) (fun e w' h => h))))
         refine wpQuiet_nil ?_
         rintro _ ⟨xE,rfl⟩
         have HVE:=Hj ((Uh HV5).below xE.bel)
         clear Fm2 Fm3 Fm4 hNE HKX
         have hbx:=Uh HBX xE.w (Uh HVE).chg
         have o0:=(hbx.1.2.1.all 0 _ rfl).1
         have o1:=(hbx.1.2.1.all 1 _ rfl).1
         have r0:=(hbx.1.2.1.all 0 _ rfl).2
         have r1:=(hbx.1.2.1.all 1 _ rfl).2
         have HOr:=Hj hbx.1.2.1
         have hokf:ok = false:=by
          cases hk:ok
          ·rfl
          ·exact absurd (Iff.mp (Uh HOK) hk) (GraP.no hult hvlt (.inr ⟨Uh HEQ,(Iff.mp (Uh HI1) rfl)⟩))
         subst hokf
         clear hbx
         go_wp2_with fail
         have hf:=((Uh HOr).put 0 (.int .i64 0)).put 1 (.slice none 0 0)
         have t0:=(hf.all 0 _ rfl).1
         have t1:=(hf.all 1 _ rfl).1
         have cc:Chg (fun j => j = wb.heap.size) xE.w ((xE.w.setCell ⟨wb.heap.size,0,none⟩ (.int .i64 0)).setCell ⟨wb.heap.size,1,none⟩ (.slice none 0 0)):=(Chg.of_set (S:=fun j => j = wb.heap.size) _ _ _ _ rfl).trans (Chg.of_set (S:=fun j => j = wb.heap.size) _ _ _ _ rfl)
         generalize (xE.w.setCell ⟨wb.heap.size,0,none⟩ (.int .i64 0)).setCell ⟨wb.heap.size,1,none⟩ (.slice none 0 0) = wf at *
         refine bodyPost_ret (by simp [results,Tryz.results46,go_sem,t0,t1]; try rfl) rfl ?_
         have hlo:=Uh HGE
         have h9:=Uh HWB
         exact ⟨((Uh HBs).trans ((Uh HVE).chg.below (Uh HBs).size (fun j hj e => by omega))).trans (cc.below (Nat.le_trans (Uh HBs).size (Uh HVE).chg.size) (fun j hj e => by omega)),fun e => absurd e (by decide),fun _ => rfl⟩
      ·have heq':((u:Int) == (v:Int)) = false:=by simp; omega
       have HEQ:=Hj heq
       clear heq
       cases tu
       ·cases tv
        ·go_wp2_with fail
         refine wp_region_ext (by kernel_rfl) (by kernel_rfl) ?_
         repeat (go_big_quiet_step (first
          | (go_at_call 77; rename_i x; exact Ext.call (Uh HKX x _ _ (by assumption) (by assumption)) (fun e w' h => h))))
         refine wpQuiet_nil ?_
         rintro _ ⟨xE,rfl⟩
         have HVE:=Hj ((Uh HV5).below xE.bel)
         clear Fm2 Fm3 Fm4 hNE HKX
         go_wp2_with fail
         exact ⟨⟨v + 1,by omega,by (first | rfl | go_num),HVE,Hj ((Uh HGV).next (⟨fun h => absurd h (fun h => absurd (Iff.mpr (Uh HI1) h) (by decide)),fun h => absurd h (fun h => absurd (Iff.mpr (Uh HI2) h) (by decide))⟩) (fun h => absurd h.2 (fun h => absurd (Iff.mpr (Uh HI1) h) (by decide))))⟩,by simp [intOf]; omega⟩
        ·go_wp2_with fail
         refine wp_region_ext (by kernel_rfl) (by kernel_rfl) ?_
         repeat (go_big_quiet_step (first
          | (go_at_call 77; rename_i x; exact Ext.call (Uh HKX x _ _ (by assumption) (by assumption)) (fun e w' h => h))))
         refine wpQuiet_nil ?_
         rintro _ ⟨xE,rfl⟩
         have HVE:=Hj ((Uh HV5).below xE.bel)
         clear Fm2 Fm3 Fm4 hNE HKX
         have hbx:=Uh HBX xE.w (Uh HVE).chg
         have o0:=(hbx.1.2.1.all 0 _ rfl).1
         have o1:=(hbx.1.2.1.all 1 _ rfl).1
         have r0:=(hbx.1.2.1.all 0 _ rfl).2
         have r1:=(hbx.1.2.1.all 1 _ rfl).2
         have HOr:=Hj hbx.1.2.1
         have hokf:ok = false:=by
          cases hk:ok
          ·rfl
          ·exact absurd (Iff.mp (Uh HOK) hk) (GraP.no hult hvlt (.inl (fun h => (fun h => absurd (Iff.mpr (Uh HI1) h) (by decide)) (h.2 (Iff.mp (Uh HI2) rfl)))))
         subst hokf
         clear hbx
         go_wp2_with fail
         have hf:=((Uh HOr).put 0 (.int .i64 0)).put 1 (.slice none 0 0)
         have t0:=(hf.all 0 _ rfl).1
         have t1:=(hf.all 1 _ rfl).1
         have cc:Chg (fun j => j = wb.heap.size) xE.w ((xE.w.setCell ⟨wb.heap.size,0,none⟩ (.int .i64 0)).setCell ⟨wb.heap.size,1,none⟩ (.slice none 0 0)):=(Chg.of_set (S:=fun j => j = wb.heap.size) _ _ _ _ rfl).trans (Chg.of_set (S:=fun j => j = wb.heap.size) _ _ _ _ rfl)
         generalize (xE.w.setCell ⟨wb.heap.size,0,none⟩ (.int .i64 0)).setCell ⟨wb.heap.size,1,none⟩ (.slice none 0 0) = wf at *
         refine bodyPost_ret (by simp [results,Tryz.results46,go_sem,t0,t1]; try rfl) rfl ?_
         have hlo:=Uh HGE
         have h9:=Uh HWB
         exact ⟨((Uh HBs).trans ((Uh HVE).chg.below (Uh HBs).size (fun j hj e => by omega))).trans (cc.below (Nat.le_trans (Uh HBs).size (Uh HVE).chg.size) (fun j hj e => by omega)),fun e => absurd e (by decide),fun _ => rfl⟩
       ·cases tv
        ·go_wp2_with fail
         refine wp_region_ext (by kernel_rfl) (by kernel_rfl) ?_
         repeat (go_big_quiet_step (first
          | (go_at_call 77; rename_i x; exact Ext.call (Uh HKX x _ _ (by assumption) (by assumption)) (fun e w' h => h))))
         refine wpQuiet_nil ?_
         rintro _ ⟨xE,rfl⟩
         have HVE:=Hj ((Uh HV5).below xE.bel)
         clear Fm2 Fm3 Fm4 hNE HKX
         have hbx:=Uh HBX xE.w (Uh HVE).chg
         have o0:=(hbx.1.2.1.all 0 _ rfl).1
         have o1:=(hbx.1.2.1.all 1 _ rfl).1
         have r0:=(hbx.1.2.1.all 0 _ rfl).2
         have r1:=(hbx.1.2.1.all 1 _ rfl).2
         have HOr:=Hj hbx.1.2.1
         have hokf:ok = false:=by
          cases hk:ok
          ·rfl
          ·exact absurd (Iff.mp (Uh HOK) hk) (GraP.no hult hvlt (.inl (fun h => (fun h => absurd (Iff.mpr (Uh HI2) h) (by decide)) (h.1 (Iff.mp (Uh HI1) rfl)))))
         subst hokf
         clear hbx
         go_wp2_with fail
         have hf:=((Uh HOr).put 0 (.int .i64 0)).put 1 (.slice none 0 0)
         have t0:=(hf.all 0 _ rfl).1
         have t1:=(hf.all 1 _ rfl).1
         have cc:Chg (fun j => j = wb.heap.size) xE.w ((xE.w.setCell ⟨wb.heap.size,0,none⟩ (.int .i64 0)).setCell ⟨wb.heap.size,1,none⟩ (.slice none 0 0)):=(Chg.of_set (S:=fun j => j = wb.heap.size) _ _ _ _ rfl).trans (Chg.of_set (S:=fun j => j = wb.heap.size) _ _ _ _ rfl)
         generalize (xE.w.setCell ⟨wb.heap.size,0,none⟩ (.int .i64 0)).setCell ⟨wb.heap.size,1,none⟩ (.slice none 0 0) = wf at *
         refine bodyPost_ret (by simp [results,Tryz.results46,go_sem,t0,t1]; try rfl) rfl ?_
         have hlo:=Uh HGE
         have h9:=Uh HWB
         exact ⟨((Uh HBs).trans ((Uh HVE).chg.below (Uh HBs).size (fun j hj e => by omega))).trans (cc.below (Nat.le_trans (Uh HBs).size (Uh HVE).chg.size) (fun j hj e => by omega)),fun e => absurd e (by decide),fun _ => rfl⟩
        ·go_wp2_with fail
         refine wp_region_ext (by kernel_rfl) (by kernel_rfl) ?_
         repeat (go_big_quiet_step (first
          | (go_at_call 77; rename_i x; exact Ext.call (Uh HKX x _ _ (by assumption) (by assumption)) (fun e w' h => h))))
         refine wpQuiet_nil ?_
         rintro _ ⟨xE,rfl⟩
         have HVE:=Hj ((Uh HV5).below xE.bel)
         clear Fm2 Fm3 Fm4 hNE HKX
         go_wp2_with fail
         exact ⟨⟨v + 1,by omega,by (first | rfl | go_num),HVE,Hj ((Uh HGV).next (⟨fun _ => (Iff.mp (Uh HI2) rfl),fun _ => (Iff.mp (Uh HI1) rfl)⟩) (fun h => absurd h.1 (Uh HEQ)))⟩,by simp [intOf]; omega⟩
     ·obtain rfl:v = R:=by omega
      have hvlt':¬ (v:Int) < (v:Int):=by omega
      have HN:=Hj ((Uh HV).congr (fun x => (OpQ.nextU (R:=v)).symm))
      clear hbx
      go_wp2_with fail
      exact ⟨⟨u + 1,by omega,by (first | rfl | go_num),HN,Hj (Uh HGV).nextU⟩,by simp [intOf]; omega⟩
   ·obtain rfl:u = R:=by omega
    have hult':¬ (u:Int) < (u:Int):=by omega
    have x1:=(hbx.1.2.2.2.all 1 _ rfl).1
    have o0:=(hbx.1.2.1.all 0 _ rfl).1
    have o1:=(hbx.1.2.1.all 1 _ rfl).1
    have r0:=(hbx.1.2.1.all 0 _ rfl).2
    have r1:=(hbx.1.2.1.all 1 _ rfl).2
    have HOr:=Hj hbx.1.2.1
    have hokt:ok = true:=Iff.mpr (Uh HOK) (Uh HGU).last
    subst hokt
    clear hbx
    go_wp2_with fail
    have hf:=((Uh HOr).put 0 (.int .i64 (u:Int))).put 1 (.slice (some ⟨G,0,none⟩) nn nn)
    have t0:=(hf.all 0 _ rfl).1
    have t1:=(hf.all 1 _ rfl).1
    have cc:Chg (fun j => j = wb.heap.size) wr ((wr.setCell ⟨wb.heap.size,0,none⟩ (.int .i64 (u:Int))).setCell ⟨wb.heap.size,1,none⟩ (.slice (some ⟨G,0,none⟩) nn nn)):=(Chg.of_set (S:=fun j => j = wb.heap.size) _ _ _ _ rfl).trans (Chg.of_set (S:=fun j => j = wb.heap.size) _ _ _ _ rfl)
    generalize (wr.setCell ⟨wb.heap.size,0,none⟩ (.int .i64 (u:Int))).setCell ⟨wb.heap.size,1,none⟩ (.slice (some ⟨G,0,none⟩) nn nn) = wf at *
    refine bodyPost_ret (by simp [results,Tryz.results46,go_sem,t0,t1]; try rfl) rfl ?_
    have hlo:=Uh HGE
    have h9:=Uh HWB
    refine ⟨((Uh HBs).trans ((Uh HU).chg.below (Uh HBs).size (fun j hj e => by omega))).trans (cc.below (Nat.le_trans (Uh HBs).size (Uh HU).chg.size) (fun j hj e => by omega)),fun _ => ⟨G,hlo.1,rfl,((Uh HU).row.chg cc (by omega)).congr (fun x hx => ?_)⟩,fun e => absurd e (by decide)⟩
    rw [tb_congr (show OpQ u st cols u 0 x ↔ Vis u u st cols cols.length x from ⟨fun h => h.2,fun h => ⟨by rw [Uh HNN]; omega,h⟩⟩)]
end Go.Proofs.YtgjokididdffhaaGreat
