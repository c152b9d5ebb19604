/- Cgi -/
import Derived.Test.YtjdljjkmhdgghaaCgh
namespace Go.Proofs.Ytjdljjkmhdgghaa
open Go.RowKit Go.Deep
set_option linter.unusedVariables false
def NeP (st cols:List Int) (R u v:Nat):Prop:=u ≠ v ∧ (InC st cols v u ∨ ∃ j,j < R ∧ InC st cols j u ∧ InC st cols v j)
def NeQ (st cols:List Int) (R u v x:Nat):Prop:=∃ a b,a < R ∧ b < R ∧ x = a * R + b ∧ (a < u ∨ a = u ∧ b < v) ∧ NeP st cols R a b
theorem NeQ.first (st cols:List Int) (R x:Nat):¬ NeQ st cols R 0 0 x:=by
 rintro ⟨a,b,_,_,_,h,_⟩
 omega
theorem NeQ.nextU {st cols:List Int} {R u x:Nat}:NeQ st cols R (u + 1) 0 x ↔ NeQ st cols R u R x:=by
 constructor
 ·rintro ⟨a,b,h1,h2,h3,h4,h5⟩
  exact ⟨a,b,h1,h2,h3,by omega,h5⟩
 ·rintro ⟨a,b,h1,h2,h3,h4,h5⟩
  exact ⟨a,b,h1,h2,h3,by omega,h5⟩
theorem NeQ.at {st cols:List Int} {R u v:Nat} (hu:u < R) (hv:v < R):NeQ st cols R u (v + 1) (u * R + v) ↔ NeP st cols R u v:=by
 constructor
 ·rintro ⟨a,b,h1,h2,h3,h4,h5⟩
  obtain ⟨rfl,rfl⟩:=idx_one hv h2 h3
  exact h5
 ·intro h
  exact ⟨u,v,hu,hv,rfl,.inr ⟨rfl,by omega⟩,h⟩
theorem NeQ.other {st cols:List Int} {R u v x:Nat} (hx:x ≠ u * R + v):NeQ st cols R u (v + 1) x ↔ NeQ st cols R u v x:=by
 constructor
 ·rintro ⟨a,b,h1,h2,h3,h4,h5⟩
  refine ⟨a,b,h1,h2,h3,?_,h5⟩
  by_cases e:a = u ∧ b = v
  ·obtain ⟨rfl,rfl⟩:=e
   exact absurd h3 hx
  ·omega
 ·rintro ⟨a,b,h1,h2,h3,h4,h5⟩
  exact ⟨a,b,h1,h2,h3,by omega,h5⟩
theorem NeQ.last {st cols:List Int} {R u v:Nat} (hu:u < R) (hv:v < R):NeQ st cols R R 0 (u * R + v) ↔ NeP st cols R u v:=by
 constructor
 ·rintro ⟨a,b,h1,h2,h3,h4,h5⟩
  obtain ⟨rfl,rfl⟩:=idx_one hv h2 h3
  exact h5
 ·intro h
  exact ⟨u,v,hu,hv,rfl,.inl hu,h⟩
theorem NrP.ne {st cols:List Int} {R:Nat} (hm:MayP (R:Int) (R:Int) st cols) (hg:GraP st cols R R) {u v:Nat} (hu:u < R) (hv:v < R):(NrP st cols R (u * 128 + v) ∧ u ≠ v) ↔ NeP st cols R u v:=by
 have hf:=hm.head.fit
 have sym:∀ a b,a < R → b < R → (InC st cols a b ↔ InC st cols b a):=fun a b ha hb => ⟨hg.2.1 a b ha hb,hg.2.1 b a hb ha⟩
 unfold NeP
 constructor
 ·rintro ⟨⟨i,hi,h⟩,hne⟩
  refine ⟨hne,?_⟩
  rcases h with h | ⟨t,ht,h⟩
  ·rw [MeP.mem (rowL_rng hm hi) (by omega),rowL_mem hm hi,rowL_mem hm hi] at h
   exact .inr ⟨i,hi,(sym u i hu hi).1 h.1,h.2⟩
  ·have hr:=rowL_rng hm hi t ht
   have e1:i = u:=by omega
   subst e1
   left
   refine (rowL_mem hm hi).1 (mem_getD.2 ⟨t,ht,by omega⟩)
 ·rintro ⟨hne,h⟩
  refine ⟨?_,hne⟩
  rcases h with h | ⟨j,hj,h1,h2⟩
  ·obtain ⟨t,ht,e⟩:=mem_getD.1 ((rowL_mem hm hu).2 h)
   exact ⟨u,hu,.inr ⟨t,ht,by rw [e]; simp⟩⟩
  ·refine ⟨j,hj,.inl ?_⟩
   rw [MeP.mem (rowL_rng hm hj) (by omega),rowL_mem hm hj,rowL_mem hm hj]
   exact ⟨(sym j u hj hu).1 h1,h2⟩
set_option maxRecDepth 100000 in
set_option maxHeartbeats 16000000 in
theorem wnear_no (rows width:Int) (a1 a2:Option Addr) (n1 c1 n2 c2:Nat) (st cols:List Int) (w:World) (h1:SlI w a1 n1 c1 st) (h2:SlI w a2 n2 c2 cols) (hb1:n1 ≤ 17592186044416) (hb2:n2 ≤ 17592186044416) (er:Int) (her:er ≠ 0) (hK:∀ W,Below w.heap.size w W → Calls Try.prog 23 #[.int .i64 1,patV rows width a1 n1 c1 a2 n2 c2] W fun e w' => e = .returned (.tuple #[(.agg #[.int .i64 0,.slice none 0 0]),.int .i64 er]) ∧ Below W.heap.size W w') :
  Calls Try.prog 9 #[patV rows width a1 n1 c1 a2 n2 c2] w fun e w' => GqP w w' e 0 [] [] er:=by
 obtain ⟨wb,hwb⟩:∃ x,w.alloc (.cells #[.int .i64 rows,.int .i64 width,.slice a1 n1 c1,.slice a2 n2 c2] 24) = x:=⟨_,rfl⟩
 have bb:Below w.heap.size w wb:=by rw [← hwb]; exact bAl
 have hT:=BoxP.made w #[.int .i64 rows,.int .i64 width,.slice a1 n1 c1,.slice a2 n2 c2] 24
 rw [hwb] at hT
 have hO0:=BoxP.made wb #[.int .i64 0,.int .i64 0,.slice none 0 0,.slice none 0 0] 24
 obtain ⟨wo,hwo⟩:∃ x,wb.alloc (.cells #[.int .i64 0,.int .i64 0,.slice none 0 0,.slice none 0 0] 24) = x:=⟨_,rfl⟩
 have bo:Below wb.heap.size wb wo:=by rw [← hwo]; exact bAl
 rw [hwo] at hO0
 have hT1:=hT.below bo
 have p0:=(hT1.all 0 _ rfl).1
 have p1:=(hT1.all 1 _ rfl).1
 have p2:=(hT1.all 2 _ rfl).1
 have p3:=(hT1.all 3 _ rfl).1
 have bw:=bb.trans (bo.mono bb.size)
 have HT:=Hj hT1
 have HO:=Hj hO0
 have HB:=Hj bw
 have HWB:=Hj bb.size
 have HS:=Hj (And.intro h1 h2)
 have KI:=Hj (hK wo bw)
 unfold patV at KI
 have her2:(er == 0) = false:=by simp [her]
 clear hT hT1 hO0 bb bo bw h1 h2 hK
 unfold patV
 go_enter Try.func9,Try.ntmps9
 go_wp2_with fail
 refine (Uh KI).mono ?_
 rintro _ w2 ⟨rfl,b2⟩
 have hO2:=(Uh HO).below b2
 have bz:Below w2.heap.size w2 (w2.alloc (.cells #[.int .i64 0,.slice none 0 0] 55)):=bAl
 have hOz:=hO2.below bz
 have o0:=(hOz.all 0 _ rfl).1
 have o1:=(hOz.all 1 _ rfl).1
 have o2:=(hOz.all 2 _ rfl).1
 have o3:=(hOz.all 3 _ rfl).1
 have r0:=(hOz.all 0 _ rfl).2
 have r1:=(hOz.all 1 _ rfl).2
 have r2:=(hOz.all 2 _ rfl).2
 have r3:=(hOz.all 3 _ rfl).2
 have HOz:=Hj hOz
 have bw2:=(Uh HB).trans (b2.mono (Uh HB).size)
 have HB2:=Hj (bw2.trans (bz.mono bw2.size))
 clear b2 hO2 hOz bz bw2 KI p0 p1 p2 p3
 go_wp2_with fail
 have hf:=((((Uh HOz).put 0 (.int .i64 0)).put 1 (.int .i64 0)).put 2 (.slice none 0 0)).put 3 (.slice none 0 0)
 have t0:=(hf.all 0 _ rfl).1
 have t1:=(hf.all 1 _ rfl).1
 have t2:=(hf.all 2 _ rfl).1
 have t3:=(hf.all 3 _ rfl).1
 have cc:Chg (fun j => j = wb.heap.size) (w2.alloc (.cells #[.int .i64 0,.slice none 0 0] 55)) (((((w2.alloc (.cells #[.int .i64 0,.slice none 0 0] 55)).setCell ⟨wb.heap.size,0,none⟩ (.int .i64 0)).setCell ⟨wb.heap.size,1,none⟩ (.int .i64 0)).setCell ⟨wb.heap.size,2,none⟩ (.slice none 0 0)).setCell ⟨wb.heap.size,3,none⟩ (.slice none 0 0)):=(((Chg.of_set (S:=fun j => j = wb.heap.size) _ _ _ _ rfl).trans (Chg.of_set (S:=fun j => j = wb.heap.size) _ _ _ _ rfl)).trans (Chg.of_set (S:=fun j => j = wb.heap.size) _ _ _ _ rfl)).trans (Chg.of_set (S:=fun j => j = wb.heap.size) _ _ _ _ rfl)
 generalize ((((w2.alloc (.cells #[.int .i64 0,.slice none 0 0] 55)).setCell ⟨wb.heap.size,0,none⟩ (.int .i64 0)).setCell ⟨wb.heap.size,1,none⟩ (.int .i64 0)).setCell ⟨wb.heap.size,2,none⟩ (.slice none 0 0)).setCell ⟨wb.heap.size,3,none⟩ (.slice none 0 0) = wf at *
 refine bodyPost_ret (by simp [results,Try.results9,go_sem,t0,t1,t2,t3]; try rfl) rfl ?_
 have h9:=Uh HWB
 refine ⟨none,0,none,0,rfl,SlI.nil _,SlI.nil _,(Uh HB2).trans (cc.below (Uh HB2).size (fun j hj e => by omega)),fun z hz => ?_,fun z hz => ?_⟩ <;> cases hz
set_option maxRecDepth 100000 in
set_option maxHeartbeats 16000000 in
theorem wnear_yes (R:Nat) (a1 a2:Option Addr) (n1 c1 n2 c2:Nat) (st cols:List Int) (w:World) (h1:SlI w a1 n1 c1 st) (h2:SlI w a2 n2 c2 cols) (hb1:n1 ≤ 17592186044416) (hb2:n2 ≤ 17592186044416) (hm:MayP (R:Int) (R:Int) st cols) (hg:GraP st cols R R) :
  Calls Try.prog 9 #[patV (R:Int) (R:Int) a1 n1 c1 a2 n2 c2] w fun e w' => GqP w w' e R (grS (NeP st cols R) R R) (grC (NeP st cols R) R R) 0:=by
 obtain ⟨wb,hwb⟩:∃ x,w.alloc (.cells #[.int .i64 (R:Int),.int .i64 (R:Int),.slice a1 n1 c1,.slice a2 n2 c2] 24) = x:=⟨_,rfl⟩
 have bb:Below w.heap.size w wb:=by rw [← hwb]; exact bAl
 have hT:=BoxP.made w #[.int .i64 (R:Int),.int .i64 (R:Int),.slice a1 n1 c1,.slice a2 n2 c2] 24
 rw [hwb] at hT
 have hO0:=BoxP.made wb #[.int .i64 0,.int .i64 0,.slice none 0 0,.slice none 0 0] 24
 obtain ⟨wo,hwo⟩:∃ x,wb.alloc (.cells #[.int .i64 0,.int .i64 0,.slice none 0 0,.slice none 0 0] 24) = x:=⟨_,rfl⟩
 have bo:Below wb.heap.size wb wo:=by rw [← hwo]; exact bAl
 rw [hwo] at hO0
 have hT1:=hT.below bo
 have p0:=(hT1.all 0 _ rfl).1
 have p1:=(hT1.all 1 _ rfl).1
 have p2:=(hT1.all 2 _ rfl).1
 have p3:=(hT1.all 3 _ rfl).1
 have bw:=bb.trans (bo.mono bb.size)
 have HT:=Hj hT1
 have HO:=Hj hO0
 have HB:=Hj bw
 have HWB:=Hj bb.size
 have HS:=Hj (And.intro h1 h2)
 obtain ⟨nn,hnn⟩:∃ nn,R * R = nn:=⟨_,rfl⟩
 have KI:=Hj (wthings_yes R a1 a2 n1 c1 n2 c2 st cols wo (h1.below bw) (h2.below bw) hb1 hb2 hm hg)
 rw [hnn] at KI
 unfold patV at KI
 have hfit:=hm.head.fit
 have hR8:R ≤ 128:=by omega
 have hnn1:(R:Int) * (R:Int) = (nn:Int):=by rw [← hnn]; simp
 have hnn2:nn ≤ 16384:=by rw [← hnn]; exact Nat.mul_le_mul hR8 hR8
 have hmk:=fun W => make_boolsP nn (by omega) W
 have HNN:=Hj hnn
 have HM:=Hj hm
 obtain ⟨S,hS⟩:∃ S,grS (NeP st cols R) R R = S:=⟨_,rfl⟩
 obtain ⟨C,hC⟩:∃ C,grC (NeP st cols R) R R = C:=⟨_,rfl⟩
 have HSC:=Hj (And.intro hS hC)
 rw [hS,hC]
 clear hT hT1 hO0 bb bo bw h1 h2 hm hg hfit hnn hS hC
 unfold patV
 go_enter Try.func9,Try.ntmps9
 go_wp2_with fail
 refine (Uh KI).mono ?_
 rintro _ w2 ⟨b,hbn,rfl,hRo,b2⟩
 unfold grV
 obtain ⟨wg,hwg⟩:∃ x,w2.alloc (.cells #[.int .i64 (R:Int),.slice (some ⟨b,0,none⟩) nn nn] 55) = x:=⟨_,rfl⟩
 have bg:Below w2.heap.size w2 wg:=by rw [← hwg]; exact bAl
 have hG0:=BoxP.made w2 #[.int .i64 (R:Int),.slice (some ⟨b,0,none⟩) nn nn] 55
 rw [hwg] at hG0
 have b2g:=b2.trans (bg.mono b2.size)
 have hOg:=(Uh HO).below b2g
 have q0:=(hG0.all 0 _ rfl).1
 have q1:=(hG0.all 1 _ rfl).1
 have HG:=Hj (And.intro hOg hG0)
 have HRo:=Hj (hRo.below bg)
 have bwg:=(Uh HB).trans (b2g.mono (Uh HB).size)
 have HBg:=Hj bwg
 clear KI p0 p1 p2 p3 hG0 bg b2 b2g hOg hRo bwg hbn
 go_wp2_with fail
 have hlw:w2.heap.size < wg.heap.size:=(Uh HG).2.lt
 have q0x:∀ o:Obj,(wg.alloc o).cell? ⟨w2.heap.size,0,none⟩ = some (.int .i64 (R:Int)):=fun o => by rw [World.cell?_alloc_lt _ _ _ hlw]; exact q0
 obtain ⟨s,hs⟩:∃ s,s = wg.heap.size:=⟨_,rfl⟩
 have HSS:=Hj hs
 clear hs hwg
 go_region
 have HD0:=gbA wg R nn s (Uh HSS)
 generalize ((wg.alloc (.cells (madeCells #[.bool false] nn) 4)).alloc (.cells #[.int .i64 (R:Int),.slice (some ⟨wg.heap.size,0,none⟩) nn nn] 55)).drew = ws at HD0 ⊢
 generalize wg.heap.size + 1 = X at HD0 ⊢
 generalize wg.heap.size = G at HD0 ⊢
 have HD:=Hj HD0
 clear HD0
 rotate_left
 have HD0:=gbC wg R nn s (Uh HSS)
 generalize ((wg.alloc (.cells #[.int .i64 (R:Int),.slice (some ⟨wg.heap.size + 1,0,none⟩) nn nn] 55)).alloc (.cells (madeCells #[.bool false] nn) 4)).drew = ws at HD0 ⊢
 generalize wg.heap.size + 1 = G at HD0 ⊢
 generalize wg.heap.size = X at HD0 ⊢
 have HD:=Hj HD0
 clear HD0
 rotate_left
 all_goals
  have HLO:=Hj (And.intro (Uh HG).1.lt (Uh HG).2.lt)
  have HBX:=Hj (show ∀ W,Chg (fun j => j = G) ws W → (BoxP W wb.heap.size [.int .i64 0,.int .i64 0,.slice none 0 0,.slice none 0 0] ∧ BoxP W w2.heap.size [.int .i64 (R:Int),.slice (some ⟨b,0,none⟩) nn nn] ∧ BoxP W X [.int .i64 (R:Int),.slice (some ⟨G,0,none⟩) nn nn]) ∧ RoV W b nn (fun x => .bool (tb (Vis R R st cols cols.length x))) from fun W c => by
   have d:=Uh HD
   have hs:=Uh HSS
   have hlo:=Uh HLO
   have bgs:Below wg.heap.size wg ws:=hs ▸ d.bel
   have hg0:=d.g0
   refine ⟨⟨((Uh HG).1.below bgs).chg c (by omega),((Uh HG).2.below bgs).chg c (by omega),d.box.chg c d.ne⟩,?_⟩
   intro i hi
   have h5:=World.block_lt_of_cell? _ _ (Uh HRo i hi).1
   exact RoV.chg ((Uh HRo).below bgs) c (fun e => by simp at h5; omega) i hi)
  have HI0:=Hj (show OpI ws ws G nn (NeQ st cols R 0 0) from ⟨(Uh HD).row.congr (fun x _ => by rw [tb_no (NeQ.first st cols R x)]),Chg.refl _ _⟩)
  have HBs:=Hj ((Uh HBg).trans ((show Below wg.heap.size wg ws from (Uh HSS) ▸ (Uh HD).bel).mono (Uh HBg).size))
  have HGE:=Hj (show w.heap.size ≤ G ∧ wb.heap.size < G ∧ w2.heap.size ≠ G from by
   have d:=Uh HD
   have hs:=Uh HSS
   have hlo:=Uh HLO
   have hg0:=d.g0
   have:=Uh HWB
   omega)
  clear q0 q1 hlw q0x hmk HBg HRo HG HT HO HB HLO HSS
  go_wp2_with fail
  obtain ⟨T,hT⟩:∃ T:Nat → Nat → Bool,T = fun r c => tb (Vis R R st cols cols.length (r * R + c)):=⟨_,rfl⟩
  have HTT:=Hj (show ∀ r c,r < R → c < R → TruQ (T r c) (InC st cols c r) from fun r c hr hc => by rw [hT]; exact vis_in (Uh HM) hr hc)
  have HKA:=Hj (show ∀ (W:World) (r c:Nat),Chg (fun j => j = G) ws W → r < R → c < R → Calls Try.prog 24 #[.agg #[.int .i64 (R:Int),.slice (some ⟨b,0,none⟩) nn nn],.int .i64 (r:Int),.int .i64 (c:Int)] W fun e w' => e = .returned (.bool (T r c)) ∧ Below W.heap.size W w' from fun W r c k hr hc => by
   rw [hT]
   exact wmeet_any R b nn r c (fun x => tb (Vis R R st cols cols.length x)) W hR8 (by omega) (by omega) (by rw [← Uh HNN]; exact idx_lt hr hc) hnn2 (Uh HBX W k).2)
  clear hT
  go_loopw [7] (fun uv wr => ∃ u:Nat,u ≤ R ∧ uv = .int .i64 (u:Int) ∧ Hid (OpI ws wr G nn (NeQ st cols R u 0))) (fun uv _ => R - (intOf uv).toNat)
  case atStart => exact ⟨0,Nat.zero_le _,rfl,HI0⟩
  case round =>
   obtain ⟨u,hu,rfl,HU⟩:=hrel
   have hbx:=Uh HBX wr (Uh HU).chg
   have g0:=(hbx.1.2.1.all 0 _ rfl).1
   by_cases hult:u < R
   ·have hult':(u:Int) < (R:Int):=by omega
    clear hbx
    go_wp2_with fail
    clear g0
    go_loopw [8] (fun vv wr => ∃ v:Nat,v ≤ R ∧ vv = .int .i64 (v:Int) ∧ Hid (OpI ws wr G nn (NeQ st cols R u v))) (fun vv _ => R - (intOf vv).toNat)
    case atStart => exact ⟨0,Nat.zero_le _,rfl,HU⟩
    case round =>
     obtain ⟨v,hv,rfl,HV⟩:=hrel
     have hbx:=Uh HBX wr (Uh HV).chg
     have g0:=(hbx.1.2.1.all 0 _ rfl).1
     have g1:=(hbx.1.2.1.all 1 _ rfl).1
     by_cases hvlt:v < R
     ·have hvlt':(v:Int) < (R:Int):=by omega
      have KM:=Hj (Uh HKA wr u v (Uh HV).chg hult hvlt)
      clear hbx
      go_wp2_with fail
      refine (Uh KM).mono ?_
      rintro _ w4 ⟨rfl,b4⟩
      have HV4:=Hj ((Uh HV).below b4)
      have HT0:=Hj (show TruQ (T u v) (InC st cols v u ∨ ∃ j,j < 0 ∧ InC st cols j u ∧ InC st cols v j) from (show T u v = true ↔ _ from Uh HTT u v hult hvlt).trans ⟨.inl,fun h => h.elim id (fun ⟨j,hj,_⟩ => absurd hj (Nat.not_lt_zero _))⟩)
      clear KM b4 g0 g1
      obtain ⟨tu,htu⟩:∃ tu,T u v = tu:=⟨_,rfl⟩
      rw [htu] at HT0 ⊢
      clear htu
      go_wp2_with fail
      go_loopw [9,10] (fun iv kv wr => ∃ (bq:Bool) (k:Nat),k ≤ R ∧ iv = .bool bq ∧ kv = .int .i64 (k:Int) ∧ Hid (TruQ bq (InC st cols v u ∨ ∃ j,j < k ∧ InC st cols j u ∧ InC st cols v j)) ∧ Hid (OpI ws wr G nn (NeQ st cols R u v))) (fun _ kv _ => R - (intOf kv).toNat)
      case atStart => exact ⟨tu,0,Nat.zero_le _,rfl,rfl,HT0,HV4⟩
      case round =>
       obtain ⟨bq,k,hk,rfl,rfl,HBQ,HK⟩:=hrel
       have hbx:=Uh HBX wr (Uh HK).chg
       have g0:=(hbx.1.2.1.all 0 _ rfl).1
       have g1:=(hbx.1.2.1.all 1 _ rfl).1
       by_cases hklt:k < R
       ·have hklt':(k:Int) < (R:Int):=by omega
        have KM:=Hj (Uh HKA wr u k (Uh HK).chg hult hklt)
        have HI1:=Hj (Uh HTT u k hult hklt)
        clear hbx
        cases bq
        ·have HNO:=Hj (show ¬ (InC st cols v u ∨ ∃ j,j < k ∧ InC st cols j u ∧ InC st cols v j) from fun h => absurd (Iff.mpr (Uh HBQ) h) (by decide))
         obtain ⟨t1,ht1⟩:∃ t1,T u k = t1:=⟨_,rfl⟩
         rw [ht1] at KM HI1
         clear ht1
         go_wp2_with fail
         refine (Uh KM).mono ?_
         rintro _ w5 ⟨rfl,b5⟩
         have HK5:=Hj ((Uh HK).below b5)
         have hbx:=Uh HBX w5 (Uh HK5).chg
         clear KM b5 g0 g1
         have g0:=(hbx.1.2.1.all 0 _ rfl).1
         have g1:=(hbx.1.2.1.all 1 _ rfl).1
         clear hbx
         cases t1
         ·have HN:=Hj (show TruQ false (InC st cols v u ∨ ∃ j,j < k + 1 ∧ InC st cols j u ∧ InC st cols v j) from ⟨fun e => absurd e (by decide),fun h => by
           rcases h with h | ⟨j,hj,h1,h2⟩
           ·exact absurd (.inl h) (Uh HNO)
           ·by_cases e:j = k
            ·subst e
             exact Iff.mpr (Uh HI1) h1
            ·exact absurd (.inr ⟨j,by omega,h1,h2⟩) (Uh HNO)⟩)
          go_wp2_with fail
          exact ⟨⟨false,k + 1,by omega,rfl,by (first | rfl | go_num),HN,HK5⟩,by simp [intOf]; omega⟩
         ·have KM2:=Hj (Uh HKA w5 k v (Uh HK5).chg hklt hvlt)
          have HI2:=Hj (Uh HTT k v hklt hvlt)
          obtain ⟨t2,ht2⟩:∃ t2,T k v = t2:=⟨_,rfl⟩
          rw [ht2] at KM2 HI2
          clear ht2
          go_wp2_with fail
          refine (Uh KM2).mono ?_
          rintro _ w6 ⟨rfl,b6⟩
          have HK6:=Hj ((Uh HK5).below b6)
          have HN:=Hj (show TruQ t2 (InC st cols v u ∨ ∃ j,j < k + 1 ∧ InC st cols j u ∧ InC st cols v j) from ⟨fun e => .inr ⟨k,by omega,Iff.mp (Uh HI1) rfl,Iff.mp (Uh HI2) e⟩,fun h => by
           rcases h with h | ⟨j,hj,h1,h2⟩
           ·exact absurd (.inl h) (Uh HNO)
           ·by_cases e:j = k
            ·subst e
             exact Iff.mpr (Uh HI2) h2
            ·exact absurd (.inr ⟨j,by omega,h1,h2⟩) (Uh HNO)⟩)
          clear KM2 b6 g0 g1
          go_wp2_with fail
          exact ⟨⟨t2,k + 1,by omega,by (first | rfl | simp),by (first | rfl | go_num),HN,HK6⟩,by simp [intOf]; omega⟩
        ·have HN:=Hj (show TruQ true (InC st cols v u ∨ ∃ j,j < k + 1 ∧ InC st cols j u ∧ InC st cols v j) from ⟨fun _ => (Iff.mp (Uh HBQ) rfl).imp_right (fun ⟨j,hj,h⟩ => ⟨j,by omega,h⟩),fun _ => rfl⟩)
         clear KM
         go_wp2_with fail
         exact ⟨⟨true,k + 1,by omega,rfl,by (first | rfl | go_num),HN,HK⟩,by simp [intOf]; omega⟩
       ·obtain rfl:k = R:=by omega
        have hklt':¬ (k:Int) < (k:Int):=by omega
        have x0:=(hbx.1.2.2.all 0 _ rfl).1
        have x1:=(hbx.1.2.2.all 1 _ rfl).1
        obtain ⟨un,hun⟩:∃ un,u * k = un:=⟨_,rfl⟩
        obtain ⟨y,hy⟩:∃ y,un + v = y:=⟨_,rfl⟩
        have hun1:(u:Int) * (k:Int) = (un:Int):=by rw [← hun]; simp
        have hy1:(un:Int) + (v:Int) = (y:Int):=by omega
        have hyn:y < nn:=by rw [← Uh HNN,← hy,← hun]; exact idx_lt hult hvlt
        have hyn':(y:Int) < (nn:Int):=by omega
        have hon:=((Uh HK).row y hyn).1
        have hof:=((Uh HK).row y hyn).2
        have HYY:=Hj (show u * k + v = y by rw [hun,hy])
        have HSET:=Hj (show ∀ t,TruQ t (NeP st cols k u v) → OpI ws (wr.setCell ⟨G,y,none⟩ (.bool t)) G nn (NeQ st cols k u (v + 1)) from fun t ht => (Uh HK).set y hyn ((show t = true ↔ _ from ht).trans (by rw [← Uh HYY]; exact (NeQ.at hult hvlt).symm)) (fun z hz => NeQ.other (by rw [Uh HYY]; exact hz)))
        clear hbx hun hy
        cases bq
        ·have HN:=Hj (Uh HSET false ⟨fun e => absurd e (by decide),fun h => Iff.mpr (Uh HBQ) h.2⟩)
         clear HSET
         go_wp2_with fail
         try go_region
         all_goals (try go_wp2_with fail)
         all_goals exact ⟨⟨v + 1,by omega,by (first | rfl | go_num),Hj (by first | exact Uh HN | exact (Uh HN).drew)⟩,by simp [intOf]; omega⟩
        ·by_cases heq:u = v
         ·have heq':((u:Int) != (v:Int)) = false:=by simp [heq]
          have HN:=Hj (Uh HSET false ⟨fun e => absurd e (by decide),fun h => absurd heq h.1⟩)
          clear HSET heq
          go_wp2_with fail
          try go_region
          all_goals (try go_wp2_with fail)
          all_goals exact ⟨⟨v + 1,by omega,by (first | rfl | go_num),Hj (by first | exact Uh HN | exact (Uh HN).drew)⟩,by simp [intOf]; omega⟩
         ·have heq':((u:Int) != (v:Int)) = true:=by simp; omega
          have HN:=Hj (Uh HSET true ⟨fun _ => ⟨heq,Iff.mp (Uh HBQ) rfl⟩,fun _ => rfl⟩)
          clear HSET heq
          go_wp2_with fail
          try go_region
          all_goals (try go_wp2_with fail)
          all_goals exact ⟨⟨v + 1,by omega,by (first | rfl | go_num),Hj (by first | exact Uh HN | exact (Uh HN).drew)⟩,by simp [intOf]; omega⟩
     ·obtain rfl:v = R:=by omega
      have hvlt':¬ (v:Int) < (v:Int):=by omega
      have HN:=Hj ((Uh HV).congr (fun x => (NeQ.nextU (R:=v)).symm))
      clear hbx
      go_wp2_with fail
      exact ⟨⟨u + 1,by omega,by (first | rfl | go_num),HN⟩,by simp [intOf]; omega⟩
   ·obtain rfl:u = R:=by omega
    have hult':¬ (u:Int) < (u:Int):=by omega
    have x0:=(hbx.1.2.2.all 0 _ rfl).1
    have x1:=(hbx.1.2.2.all 1 _ rfl).1
    have HOr:=Hj hbx.1.1
    have KS:=Hj (wshut_any u G nn _ (NeP st cols u) wr hR8 (Uh HNN) (Uh HU).row (fun a c ha hc => tb_iff.trans (NeQ.last ha hc)))
    unfold grV at KS
    clear hbx
    go_wp2_with fail
    refine (Uh KS).mono ?_
    rintro _ wk ⟨y1,d1,y2,d2,rfl,f1,f2,bk,e1,e2⟩
    rw [(Uh HSC).1] at f1
    rw [(Uh HSC).2] at f2
    rw [(Uh HSC).1,(Uh HSC).2]
    have hOk:=(Uh HOr).below bk
    have o0:=(hOk.all 0 _ rfl).1
    have o1:=(hOk.all 1 _ rfl).1
    have o2:=(hOk.all 2 _ rfl).1
    have o3:=(hOk.all 3 _ rfl).1
    have r0:=(hOk.all 0 _ rfl).2
    have r1:=(hOk.all 1 _ rfl).2
    have r2:=(hOk.all 2 _ rfl).2
    have r3:=(hOk.all 3 _ rfl).2
    have HOk:=Hj hOk
    have HG2:=Hj (And.intro f1 f2)
    have HFr:=Hj (And.intro e1 e2)
    have HBK:=Hj bk
    clear hOk f1 f2 e1 e2 bk KS x0 x1 g0
    go_wp2_with fail
    have hf:=((((Uh HOk).put 0 (.int .i64 (u:Int))).put 1 (.int .i64 (u:Int))).put 2 (.slice y1 S.length d1)).put 3 (.slice y2 C.length d2)
    have t0:=(hf.all 0 _ rfl).1
    have t1:=(hf.all 1 _ rfl).1
    have t2:=(hf.all 2 _ rfl).1
    have t3:=(hf.all 3 _ rfl).1
    have cc:Chg (fun j => j = wb.heap.size) wk ((((wk.setCell ⟨wb.heap.size,0,none⟩ (.int .i64 (u:Int))).setCell ⟨wb.heap.size,1,none⟩ (.int .i64 (u:Int))).setCell ⟨wb.heap.size,2,none⟩ (.slice y1 S.length d1)).setCell ⟨wb.heap.size,3,none⟩ (.slice y2 C.length d2)):=(((Chg.of_set (S:=fun j => j = wb.heap.size) _ _ _ _ rfl).trans (Chg.of_set (S:=fun j => j = wb.heap.size) _ _ _ _ rfl)).trans (Chg.of_set (S:=fun j => j = wb.heap.size) _ _ _ _ rfl)).trans (Chg.of_set (S:=fun j => j = wb.heap.size) _ _ _ _ rfl)
    generalize (((wk.setCell ⟨wb.heap.size,0,none⟩ (.int .i64 (u:Int))).setCell ⟨wb.heap.size,1,none⟩ (.int .i64 (u:Int))).setCell ⟨wb.heap.size,2,none⟩ (.slice y1 S.length d1)).setCell ⟨wb.heap.size,3,none⟩ (.slice y2 C.length d2) = wf at *
    refine bodyPost_ret (by simp [results,Try.results9,go_sem,t0,t1,t2,t3]; try rfl) rfl ?_
    have h9:=Uh HWB
    have h8:=(Uh HOr).lt
    have hlo:=Uh HGE
    have bwr:=(Uh HBs).trans ((Uh HU).chg.below (Uh HBs).size (fun j hj e => by omega))
    have h6:=bwr.size
    refine ⟨y1,d1,y2,d2,rfl,(Uh HG2).1.chg cc (fun z hz _ e => ?_),(Uh HG2).2.chg cc (fun z hz _ e => ?_),?_,fun z hz => ?_,fun z hz => ?_⟩
    ·have:=(Uh HFr).1 z hz; omega
    ·have:=(Uh HFr).2 z hz; omega
    ·exact (bwr.trans ((Uh HBK).mono h6)).trans (cc.below (Nat.le_trans h6 (Uh HBK).size) (fun j hj e => by omega))
    ·have:=(Uh HFr).1 z hz; omega
    ·have:=(Uh HFr).2 z hz; omega
end Go.Proofs.Ytjdljjkmhdgghaa
