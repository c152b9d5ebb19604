/- LRFour -/
import Derived.Test.YthmcfpeobkgihaaGreatDoorRg3
import Derived.Test.YthmcfpeobkgihaaGreatDoorWr1
import Derived.Test.YthmcfpeobkgihaaGreatDoorRl4
import Derived.Test.YthmcfpeobkgihaaGreatDoorCards
import Derived.Test.YthmcfpeobkgihaaGreatDoorTie
import Derived.SevenTiedAt
import Derived.LaidMore
import Derived.Stop.Joined
import Derived.Lib.LaidTab
namespace Go.Proofs.YthmcfpeobkgihaaGreatDoor
open Go.ChangeShapes Go.WideShapes Go.ChangeAt Go.RowKit Go.Deep
set_option linter.unusedVariables false
set_option maxRecDepth 100000 in
set_option maxHeartbeats 64000000 in
theorem rationalFour_walk (g_a:Bool) (a_a:Option Addr) (n_a c_a:Nat) (x_a:List Nat) (b_a:Option Addr) (m_a d_a:Nat) (y_a:List Nat) (g_b:Bool) (a_b:Option Addr) (n_b c_b:Nat) (x_b:List Nat) (b_b:Option Addr) (m_b d_b:Nat) (y_b:List Nat) (w:World) (hx_a:Sl w a_a n_a c_a x_a) (hy_a:Sl w b_a m_a d_a y_a) (ox_a:Ok x_a) (oy_a:Ok y_a) (z_a:n_a ≤ 35184372088000 ∧ m_a ≤ 35184372088000) (l_a:a_a = none → c_a = 0) (k_a:b_a = none → d_a = 0) (hx_b:Sl w a_b n_b c_b x_b) (hy_b:Sl w b_b m_b d_b y_b) (ox_b:Ok x_b) (oy_b:Ok y_b) (z_b:n_b ≤ 35184372088000 ∧ m_b ≤ 35184372088000) (l_b:a_b = none → c_b = 0) (k_b:b_b = none → d_b = 0) (hT:Tab64 w) :
  Calls Tryz.prog 4 #[ratV g_a a_a n_a c_a b_a m_a d_a,ratV g_b a_b n_b c_b b_b m_b d_b] w fun e w' => e = .returned (.bool true) ∧ Below w.heap.size w w':=by
 have bx0:=Box.made w g_a a_a n_a c_a b_a m_a d_a
 obtain ⟨w1,hw1⟩:∃ x,ratBox w g_a a_a n_a c_a b_a m_a d_a = x:=⟨_,rfl⟩
 rw [hw1] at bx0
 have hb0:Below w.heap.size w w1:=by rw [← hw1]; exact bAl
 have hB0:=hb0
 have bx1:=Box.made w1 g_b a_b n_b c_b b_b m_b d_b
 obtain ⟨w2,hw2⟩:∃ x,ratBox w1 g_b a_b n_b c_b b_b m_b d_b = x:=⟨_,rfl⟩
 rw [hw2] at bx1
 have hb1:Below w1.heap.size w1 w2:=by rw [← hw2]; exact bAl
 have bx0:=bx0.keep hb1
 have hB1:=hB0.trans (hb1.mono hB0.size)
 have d0:=bx0.d0
 have d1:=bx0.d1
 have d2:=bx0.d2
 have d3:=bx1.d0
 have d4:=bx1.d1
 have d5:=bx1.d2
 unfold ratBox at hw1 hw2
 have LL:∀ r ∈ [(⟨a_a,n_a,c_a,x_a⟩:Pc),(⟨b_a,m_a,d_a,y_a⟩:Pc),(⟨a_b,n_b,c_b,x_b⟩:Pc),(⟨b_b,m_b,d_b,y_b⟩:Pc)],Sl w2 r.a r.n r.c r.xs:=by
  intro r hr
  simp only [List.mem_cons,or_false,List.not_mem_nil] at hr
  rcases hr with rfl | rfl | rfl | rfl
  ·exact hx_a.below hB1
  ·exact hy_a.below hB1
  ·exact hx_b.below hB1
  ·exact hy_b.below hB1
 have hTb:=hT.below hB1
 have hS0:=LawSt.begin (w:=w2) (L:=[(⟨a_a,n_a,c_a,x_a⟩:Pc),(⟨b_a,m_a,d_a,y_a⟩:Pc),(⟨a_b,n_b,c_b,x_b⟩:Pc),(⟨b_b,m_b,d_b,y_b⟩:Pc)]) (.cells #[.slice none 0 0,.slice none 0 0,.slice none 0 0,.slice none 0 0,.slice none 0 0,.slice none 0 0,.slice none 0 0,.slice none 0 0,.slice none 0 0,.slice none 0 0,.slice none 0 0,.slice none 0 0,.slice none 0 0,.slice none 0 0,.slice none 0 0,.slice none 0 0,.slice none 0 0,.slice none 0 0,.slice none 0 0,.slice none 0 0] 38) rfl LL
 obtain ⟨wg,hwg⟩:∃ x,w2.alloc (.cells #[.slice none 0 0,.slice none 0 0,.slice none 0 0,.slice none 0 0,.slice none 0 0,.slice none 0 0,.slice none 0 0,.slice none 0 0,.slice none 0 0,.slice none 0 0,.slice none 0 0,.slice none 0 0,.slice none 0 0,.slice none 0 0,.slice none 0 0,.slice none 0 0,.slice none 0 0,.slice none 0 0,.slice none 0 0,.slice none 0 0] 38) = x:=⟨_,rfl⟩
 rw [hwg] at hS0
 have HS0:=Hd hS0
 have HT:=Hd hTb
 have HBW:=Hd hB1
 have p0:wg.cell? ⟨w.heap.size,0,none⟩ = some (.bool g_a):=(ck hS0.bel d0)
 have p1:wg.cell? ⟨w.heap.size,1,none⟩ = some (.slice a_a n_a c_a):=(ck hS0.bel d1)
 have p2:wg.cell? ⟨w.heap.size,2,none⟩ = some (.slice b_a m_a d_a):=(ck hS0.bel d2)
 have p3:wg.cell? ⟨w1.heap.size,0,none⟩ = some (.bool g_b):=(ck hS0.bel d3)
 have p4:wg.cell? ⟨w1.heap.size,1,none⟩ = some (.slice a_b n_b c_b):=(ck hS0.bel d4)
 have p5:wg.cell? ⟨w1.heap.size,2,none⟩ = some (.slice b_b m_b d_b):=(ck hS0.bel d5)
 have O_a:=Hd (And.intro ox_a oy_a)
 have Z_a:=Hd (And.intro z_a (And.intro l_a k_a))
 have O_b:=Hd (And.intro ox_b oy_b)
 have Z_b:=Hd (And.intro z_b (And.intro l_b k_b))
 clear hx_a hy_a ox_a oy_a z_a l_a k_a hx_b hy_b ox_b oy_b z_b l_b k_b LL hTb hS0 hT bx0 hb0 hB0 bx1 hb1 hB1
 unfold ratV
 go_enter Tryz.func4,Tryz.ntmps4
 go_wp2_with fail
 go_region_held3 (fun w' => w'.cell? ⟨w.heap.size,0,none⟩ = some (.bool g_a) ∧ w'.cell? ⟨w.heap.size,1,none⟩ = some (.slice a_a n_a c_a) ∧ w'.cell? ⟨w.heap.size,2,none⟩ = some (.slice b_a m_a d_a) ∧ w'.cell? ⟨w1.heap.size,0,none⟩ = some (.bool g_b) ∧ w'.cell? ⟨w1.heap.size,1,none⟩ = some (.slice a_b n_b c_b) ∧ w'.cell? ⟨w1.heap.size,2,none⟩ = some (.slice b_b m_b d_b)) (first | go_keep | (exact ⟨r0_0,r0_1,r0_2,r0_3,r0_4,r0_5⟩) | (exact ⟨r1_0,r1_1,r1_2,r1_3,r1_4,r1_5⟩) | (exact ⟨f_0,f_1,f_2,f_3,f_4,f_5⟩) | (exact ⟨s_0,s_1,s_2,s_3,s_4,s_5⟩) | (exact ⟨t_0,t_1,t_2,t_3,t_4,t_5⟩))
  (first
   | (go_at_call_of 6 (Value.agg #[.bool g_a,.slice a_a n_a c_a,.slice b_a m_a d_a]); have K:=grat_any ((Uh HS0).keep (Below.refl _ _).drew) g_a ⟨a_a,n_a,c_a,x_a⟩ ⟨b_a,m_a,d_a,y_a⟩ (.head _) (.tail _ (.head _)) (Uh Z_a).1.1 (Uh Z_a).1.2 (by simp); unfold ratV at K; refine K.mono ?_; clear K; rintro _ wr0 ⟨v,rfl,u00,u01,E0,G0,rfl,hL⟩; (try unfold ratV); have r0_0:=(ck hL.bel d0); have r0_1:=(ck hL.bel d1); have r0_2:=(ck hL.bel d2); have r0_3:=(ck hL.bel d3); have r0_4:=(ck hL.bel d4); have r0_5:=(ck hL.bel d5); have HL0:=Hd hL; clear hL)
   | (go_at_call_of 6 (Value.agg #[.bool g_b,.slice a_b n_b c_b,.slice b_b m_b d_b]); have K:=grat_any (Uh HL0) g_b ⟨a_b,n_b,c_b,x_b⟩ ⟨b_b,m_b,d_b,y_b⟩ (.tail _ (.tail _ (.tail _ (.tail _ (.head _))))) (.tail _ (.tail _ (.tail _ (.tail _ (.tail _ (.head _)))))) (Uh Z_b).1.1 (Uh Z_b).1.2 (by simp); unfold ratV at K; refine K.mono ?_; clear K; rintro _ wr1 ⟨v,rfl,u10,u11,E1,G1,rfl,hL⟩; (try unfold ratV); have r1_0:=(ck hL.bel d0); have r1_1:=(ck hL.bel d1); have r1_2:=(ck hL.bel d2); have r1_3:=(ck hL.bel d3); have r1_4:=(ck hL.bel d4); have r1_5:=(ck hL.bel d5); have HL1:=Hd hL; clear hL)
   | (go_at_call 9; have K:=four_any g_a x_a y_a g_b x_b y_b (some ⟨E0.b,0,none⟩) n_a E0.c (some ⟨G0.b,0,none⟩) m_a G0.c (some ⟨E1.b,0,none⟩) n_b E1.c (some ⟨G1.b,0,none⟩) m_b G1.c a_a n_a c_a b_a m_a d_a a_b n_b c_b b_b m_b d_b wr1 (Uh O_a).1 (Uh O_a).2 (Uh O_b).1 (Uh O_b).2 ((Uh HL1).sl _ (.tail _ (.tail _ (.tail _ (.head _))))) ((Uh HL1).sl _ (.tail _ (.tail _ (.head _)))) ((Uh HL1).sl _ (.tail _ (.head _))) ((Uh HL1).sl _ (.head _)) ((Uh HL1).sl _ (.tail _ (.tail _ (.tail _ (.tail _ (.head _)))))) ((Uh HL1).sl _ (.tail _ (.tail _ (.tail _ (.tail _ (.tail _ (.head _))))))) ((Uh HL1).sl _ (.tail _ (.tail _ (.tail _ (.tail _ (.tail _ (.tail _ (.head _)))))))) ((Uh HL1).sl _ (.tail _ (.tail _ (.tail _ (.tail _ (.tail _ (.tail _ (.tail _ (.head _))))))))) ((Uh HT).below (Uh HL1).bel) (Uh Z_b).2.1 (Uh Z_b).2.2; unfold ratV at K; refine K.mono ?_; clear K; rintro _ wf ⟨rfl,hb⟩; have hK:=(Uh HL1).keep hb; have f_0:=(ck hK.bel d0); have f_1:=(ck hK.bel d1); have f_2:=(ck hK.bel d2); have f_3:=(ck hK.bel d3); have f_4:=(ck hK.bel d4); have f_5:=(ck hK.bel d5); have HF:=Hd hK; clear hK hb)
   | (go_at_call 7; refine (Uh HF).intact.mono ?_; rintro _ ws ⟨rfl,hK⟩; have s_0:=(ck hK.bel d0); have s_1:=(ck hK.bel d1); have s_2:=(ck hK.bel d2); have s_3:=(ck hK.bel d3); have s_4:=(ck hK.bel d4); have s_5:=(ck hK.bel d5); have HI:=Hd hK; clear hK)
   | (go_at_call 8; refine (ralive_any ws ((Uh HT).below (Uh HI).bel)).mono ?_; rintro _ wt ⟨rfl,hb⟩; have hK:=(Uh HI).keep hb; have t_0:=(ck hK.bel d0); have t_1:=(ck hK.bel d1); have t_2:=(ck hK.bel d2); have t_3:=(ck hK.bel d3); have t_4:=(ck hK.bel d4); have t_5:=(ck hK.bel d5); have HE:=Hd hK; clear hK hb))
 try go_wp2_with fail
 try go_ret
 exact ⟨rfl,(Uh HBW).trans ((Uh HE).bel.mono (Uh HBW).size)⟩

set_option maxRecDepth 100000 in
theorem rationalFour_door (os : Os) (args : Array Value) : laidMetH Tryz.prog [("math/bits.deBruijn64tab", Rows.laid_math_bits_deBruijn64tab)] ((World.doorLaid Tryz.prog 400 os).forCall (fun _ _ => 0) ⟨#[], args, []⟩).memory :=
 laidMetH_of_parts3 (fuel:=8) (laidMet_of_run' 8 (by kernel_rfl) (by kernel_rfl)) (by kernel_rfl) (by kernel_rfl)

set_option maxRecDepth 100000 in
theorem rationalFour_lifted (os:Os) (started:os.Started) (H:Type) (enc:TypeId × Value → H) :
  ReturnsInHanded {} Tryz.checked os 4 .any (fun w args => (Rows.rationalFourSpec.pre enc Tryz.prog Tryz.f4 [] false w args ∧ laidMetH Tryz.prog [("math/bits.deBruijn64tab", Rows.laid_math_bits_deBruijn64tab)] w) ∧ sizedMet enc Tryz.prog Tryz.f4 (OpenSpec.ofChange Rows.rationalFourSpec) false w args) (Rows.rationalFourSpec.post enc Tryz.prog Tryz.f4 false true false false) := by
 refine returnsInHanded_of_change_and (C := Tryz.checked) (X := fun w _ => laidMetH Tryz.prog [("math/bits.deBruijn64tab", Rows.laid_math_bits_deBruijn64tab)] w) (fun _ _ _ hh h => h.of_heap hh) law_own started (by kernel_rfl) Tryz.func4
  (ChangeSpec.witness_shaped (enc := enc) (C := Tryz.checked) (os := os) (X := fun w _ => laidMetH Tryz.prog [("math/bits.deBruijn64tab", Rows.laid_math_bits_deBruijn64tab)] w) false (World.doorLaid Tryz.prog 400 os) #[.agg #[.bool false, .slice none 0 0, .slice none 0 0], .agg #[.bool false, .slice none 0 0, .slice none 0 0]] 8 rfl (World.shaped_of_RefB (by kernel_rfl) (by kernel_rfl)) (by kernel_rfl) (by kernel_rfl) (by kernel_rfl) (rationalFour_door os _)) ?_
 intro W base args ds gs before hval0 hW hcnd hsz hL _
 have hval:∀ (j:Nat) t v,Tryz.f4.params[j]? = some t → args[j]? = some v → Value.okWide Tryz.prog W .any base t v:=hval0
 have hW':=hW
 obtain ⟨p,q,hA0,hV,rfl,hfz,hnd⟩:=hW
 have hA:DataW.TrodAll enc Tryz.prog W 0 (fun _ => true) true Tryz.f4.params.toList args.toList ds p:=hA0
 rw [Tryz.params4] at hA hval hsz
 obtain ⟨v0,vs0,d0,ds0,p0,q0,hargs,rfl,rfl,h0,r0⟩:=trodAll_cons hA
 obtain ⟨v1,vs1,d1,ds1,p1,q1,rfl,rfl,rfl,h1,r1⟩:=trodAll_cons r0
 obtain ⟨rfl,rfl,rfl⟩:=trodAll_nil r1
 obtain rfl:args = #[v0,v1]:=by cases args; simp_all
 obtain ⟨rfl,rfl⟩:=trodVars_none hV
 have k0:=h0
 have lt0:∀ x ∈ p0,x.block < W.heap.size:=by obtain ⟨m,hm⟩:=k0; exact DataW.trod_lt m _ _ _ hm
 obtain ⟨g0,a0,n0,c0,x0,b0,m0,e0,y0,rfl,sx0,sy0,ox0,oy0,z0,l0,kk0⟩:=arg_ratZ (hval 0 25 v0 rfl rfl) h0 (fun k hk => by simpa using List.all_eq_true.1 hsz k (DataW.weights_mem_each (j:=0) rfl rfl k hk))
 have k1:=h1
 have lt1:∀ x ∈ p1,x.block < W.heap.size:=by obtain ⟨m,hm⟩:=k1; exact DataW.trod_lt m _ _ _ hm
 obtain ⟨g1,a1,n1,c1,x1,b1,m1,e1,y1,rfl,sx1,sy1,ox1,oy1,z1,l1,kk1⟩:=arg_ratZ (hval 1 25 v1 rfl rfl) h1 (fun k hk => by simpa using List.all_eq_true.1 hsz k (DataW.weights_mem_each (j:=1) rfl rfl k hk))
 clear hA0 hval0
 have hT:Tab64 W:=by
  rw [MakeChecks.laidMetH_plain _ _ _ (by kernel_rfl)] at hL
  have hI := Lib.tabIs_of_head (k := .u8) (zs := tab64) (rest := []) (show Tryz.prog.globalNamed "math/bits.deBruijn64tab" = some 0 by kernel_rfl) (show (Tryz.prog.globals[0]?).map (·.type) = some 197 by kernel_rfl) Tryz.underlying197 Tryz.underlying5 (by kernel_rfl) (by kernel_rfl) hL
  intro j hj
  exact hI.cell (by kernel_rfl) j hj
 refine (rationalFour_walk g0 a0 n0 c0 x0 b0 m0 e0 y0 g1 a1 n1 c1 x1 b1 m1 e1 y1 W sx0 sy0 ox0 oy0 z0 l0 kk0 sx1 sy1 ox1 oy1 z1 l1 kk1 hT).mono fun e W' ⟨he,bel⟩ => ?_
 subst he
 exact ⟨_,rfl,_,_,_,[],_,[],hW',trodAll_mk1 (shut_bool Tryz.underlying4 _),(trodAll_cons_mk (Below.trod law_laid (by kernel_rfl) (of_decide_eq_true (by kernel_rfl)) k0 bel lt0) (trodAll_cons_mk (Below.trod law_laid (by kernel_rfl) (of_decide_eq_true (by kernel_rfl)) k1 bel lt1) trodAll_mk0)),rfl,bel.frame _,fun h => by cases h⟩

theorem rationalFour_row:Rows.RationalFourSaid :=
 OpenClaim.holds_of_wide 4 Tryz.f4 rfl rfl rfl rfl rfl rfl rfl ⟨rfl,rfl,rfl,rfl,rfl⟩ rfl rfl rfl rfl rfl (by kernel_rfl) Tryz.func4 (by kernel_rfl)
  (of_decide_eq_true (by kernel_rfl)) (by unfold Func.isWrapper; first | (rw [if_pos (by decide +kernel)]; kernel_rfl) | (rw [if_neg (by decide +kernel)]; exact ⟨rfl,rfl⟩))
  (fun os started H enc _ => rationalFour_lifted os started H enc)

theorem rationalFour_holds:Rows.RationalFourCardSaid :=
 Claim7.holds_tied_plain_at .later [] [.data] true Rows.rationalFourCard.stood.harness false
  rationalFour_row (fun _ h => by cases h) (by kernel_rfl) (fun _ h => by cases h) rationalFour_row_tie rfl ⟨rfl,rfl⟩ (by kernel_rfl) rfl
  (fun f fn hf hfn => by
   obtain rfl : f = 4 := Option.some.inj ((show Tryz.prog.funcNamed "slope/slopelaw2.RationalFour" = some 4 by kernel_rfl).symm.trans hf) |>.symm
   obtain rfl:fn = Tryz.f4:=(Option.some.inj (Tryz.func4.symm.trans hfn)).symm
   exact ⟨by kernel_rfl,fun j t ht => by
    rw [Tryz.params4] at ht
    have hm:t ∈ [25,25]:=by simpa using Array.mem_of_getElem? ht
    have hall:([25,25].all fun u => !Tryz.prog.wantsStandIn u) = true:=by kernel_rfl
    exact (show Tryz.prog.wantsStandIn t = false by simpa using List.all_eq_true.1 hall t hm)⟩)
  (by kernel_rfl)
#print axioms rationalFour_holds
end Go.Proofs.YthmcfpeobkgihaaGreatDoor
