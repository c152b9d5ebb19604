/- LRTexts -/
import Derived.Test.YtncolonhdjkglaaGreatDoorRxf
import Derived.Test.YtncolonhdjkglaaGreatDoorRl4
import Derived.Test.YtncolonhdjkglaaGreatDoorCards
import Derived.Test.YtncolonhdjkglaaGreatDoorTie
import Derived.SevenTiedAt
import Derived.LaidMore
import Derived.Stop.Joined
import Derived.Lib.LaidTab
namespace Go.Proofs.YtncolonhdjkglaaGreatDoor
open Go.ChangeShapes Go.WideShapes Go.ChangeAt Go.RowKit Go.Deep
set_option linter.unusedVariables false
set_option maxRecDepth 100000 in
set_option maxHeartbeats 64000000 in
theorem rationalTexts_walk (g_a:Bool) (a_a:Option Addr) (n_a c_a:Nat) (x_a:List Nat) (b_a:Option Addr) (m_a d_a:Nat) (y_a:List Nat) (i_n:Int) (w:World) (hx_a:Sl w a_a n_a c_a x_a) (hy_a:Sl w b_a m_a d_a y_a) (ox_a:Ok x_a) (oy_a:Ok y_a) (z_a:n_a ≤ 35184372088000 ∧ m_a ≤ 35184372088000) (l_a:a_a = none → c_a = 0) (k_a:b_a = none → d_a = 0) (hl_n:-9223372036854775808 ≤ i_n) (hh_n:i_n ≤ 9223372036854775807) (hT:Tab64 w) :
  Calls Tryz.prog 3 #[ratV g_a a_a n_a c_a b_a m_a d_a,.int .i64 i_n] w fun e w' => e = .returned (.bool true) ∧ Below w.heap.size w w':=by
 have bx0:=Box.made w g_a a_a n_a c_a b_a m_a d_a
 obtain ⟨w1,hw1⟩:∃ x,ratBox w g_a a_a n_a c_a b_a m_a d_a = x:=⟨_,rfl⟩
 rw [hw1] at bx0
 have hb0:Below w.heap.size w w1:=by rw [← hw1]; exact bAl
 have hB0:=hb0
 have d0:=bx0.d0
 have d1:=bx0.d1
 have d2:=bx0.d2
 unfold ratBox at hw1
 have LL:∀ r ∈ [(⟨a_a,n_a,c_a,x_a⟩:Pc),(⟨b_a,m_a,d_a,y_a⟩:Pc)],Sl w1 r.a r.n r.c r.xs:=by
  intro r hr
  simp only [List.mem_cons,or_false,List.not_mem_nil] at hr
  rcases hr with rfl | rfl
  ·exact hx_a.below hB0
  ·exact hy_a.below hB0
 have hTb:=hT.below hB0
 have hS0:=LawSt.begin (w:=w1) (L:=[(⟨a_a,n_a,c_a,x_a⟩:Pc),(⟨b_a,m_a,d_a,y_a⟩:Pc)]) (.cells #[.slice none 0 0,.slice none 0 0,.slice none 0 0,.slice none 0 0,.slice none 0 0,.slice none 0 0,.slice none 0 0,.slice none 0 0,.slice none 0 0,.slice none 0 0,.slice none 0 0,.slice none 0 0,.slice none 0 0,.slice none 0 0,.slice none 0 0,.slice none 0 0,.slice none 0 0,.slice none 0 0,.slice none 0 0,.slice none 0 0] 38) rfl LL
 obtain ⟨wg,hwg⟩:∃ x,w1.alloc (.cells #[.slice none 0 0,.slice none 0 0,.slice none 0 0,.slice none 0 0,.slice none 0 0,.slice none 0 0,.slice none 0 0,.slice none 0 0,.slice none 0 0,.slice none 0 0,.slice none 0 0,.slice none 0 0,.slice none 0 0,.slice none 0 0,.slice none 0 0,.slice none 0 0,.slice none 0 0,.slice none 0 0,.slice none 0 0,.slice none 0 0] 38) = x:=⟨_,rfl⟩
 rw [hwg] at hS0
 have HS0:=Hd hS0
 have HT:=Hd hTb
 have HBW:=Hd hB0
 have p0:wg.cell? ⟨w.heap.size,0,none⟩ = some (.bool g_a):=(ck hS0.bel d0)
 have p1:wg.cell? ⟨w.heap.size,1,none⟩ = some (.slice a_a n_a c_a):=(ck hS0.bel d1)
 have p2:wg.cell? ⟨w.heap.size,2,none⟩ = some (.slice b_a m_a d_a):=(ck hS0.bel d2)
 have O_a:=Hd (And.intro ox_a oy_a)
 have Z_a:=Hd (And.intro z_a (And.intro l_a k_a))
 clear hx_a hy_a ox_a oy_a z_a l_a k_a LL hTb hS0 hT bx0 hb0 hB0
 unfold ratV
 go_enter Tryz.func3,Tryz.ntmps3
 go_wp2_with fail
 go_region_held3 (fun w' => w'.cell? ⟨w.heap.size,0,none⟩ = some (.bool g_a) ∧ w'.cell? ⟨w.heap.size,1,none⟩ = some (.slice a_a n_a c_a) ∧ w'.cell? ⟨w.heap.size,2,none⟩ = some (.slice b_a m_a d_a)) (first | go_keep | (exact ⟨r0_0,r0_1,r0_2⟩) | (exact ⟨f_0,f_1,f_2⟩) | (exact ⟨s_0,s_1,s_2⟩) | (exact ⟨t_0,t_1,t_2⟩))
  (first
   | (go_at_call_of 5 (Value.agg #[.bool g_a,.slice a_a n_a c_a,.slice b_a m_a d_a]); have K:=grat_any ((Uh HS0).keep (Below.refl _ _).drew) g_a ⟨a_a,n_a,c_a,x_a⟩ ⟨b_a,m_a,d_a,y_a⟩ (.head _) mM1 (Uh Z_a).1.1 (Uh Z_a).1.2 (by simp); unfold ratV at K; refine K.mono ?_; clear K; rintro _ wr0 ⟨v,rfl,u00,u01,E0,G0,rfl,hL⟩; (try unfold ratV); have r0_0:=(ck hL.bel d0); have r0_1:=(ck hL.bel d1); have r0_2:=(ck hL.bel d2); have HL0:=Hd hL; clear hL)
   | (go_at_call 4; have K:=texts_any g_a x_a y_a (some ⟨E0.b,0,none⟩) n_a E0.c (some ⟨G0.b,0,none⟩) m_a G0.c a_a n_a c_a b_a m_a d_a i_n wr0 (Uh O_a).1 (Uh O_a).2 ((Uh HL0).sl _ mM1) ((Uh HL0).sl _ (.head _)) ((Uh HL0).sl _ mM2) ((Uh HL0).sl _ mM3) hl_n hh_n ((Uh HT).below (Uh HL0).bel) (Uh Z_a).2.1 (Uh Z_a).2.2; unfold ratV at K; refine K.mono ?_; clear K; rintro _ wf ⟨rfl,hb⟩; have hK:=(Uh HL0).keep hb; have f_0:=(ck hK.bel d0); have f_1:=(ck hK.bel d1); have f_2:=(ck hK.bel d2); have HF:=Hd hK; clear hK hb)
   | (go_at_call 6; refine (Uh HF).intact.mono ?_; rintro _ ws ⟨rfl,hK⟩; have s_0:=(ck hK.bel d0); have s_1:=(ck hK.bel d1); have s_2:=(ck hK.bel d2); have HI:=Hd hK; clear hK)
   | (go_at_call 7; refine (ralive_any ws ((Uh HT).below (Uh HI).bel)).mono ?_; rintro _ wt ⟨rfl,hb⟩; have hK:=(Uh HI).keep hb; have t_0:=(ck hK.bel d0); have t_1:=(ck hK.bel d1); have t_2:=(ck hK.bel d2); have HE:=Hd hK; clear hK hb))
 try go_wp2_with fail
 try go_ret
 exact ⟨rfl,(Uh HBW).trans ((Uh HE).bel.mono (Uh HBW).size)⟩

set_option maxRecDepth 100000 in
theorem rationalTexts_door (os : Os) (args : Array Value) : laidMetH Tryz.prog [("math/bits.deBruijn64tab", Rows.laid_math_bits_deBruijn64tab)] ((World.doorLaid Tryz.prog 400 os).forCall (fun _ _ => 0) ⟨#[], args, []⟩).memory :=
 laidMetH_of_parts3 (fuel:=8) (laidMet_of_run' 8 (by kernel_rfl) (by kernel_rfl)) (by kernel_rfl) (by kernel_rfl)

set_option maxRecDepth 100000 in
theorem rationalTexts_lifted (os:Os) (started:os.Started) (H:Type) (enc:TypeId × Value → H) :
  ReturnsInHanded {} Tryz.checked os 3 .any (fun w args => (Rows.rationalTextsSpec.pre enc Tryz.prog Tryz.f3 [] false w args ∧ laidMetH Tryz.prog [("math/bits.deBruijn64tab", Rows.laid_math_bits_deBruijn64tab)] w) ∧ sizedMet enc Tryz.prog Tryz.f3 (OpenSpec.ofChange Rows.rationalTextsSpec) false w args) (Rows.rationalTextsSpec.post enc Tryz.prog Tryz.f3 false true false false) := by
 refine returnsInHanded_of_change_and (C := Tryz.checked) (X := fun w _ => laidMetH Tryz.prog [("math/bits.deBruijn64tab", Rows.laid_math_bits_deBruijn64tab)] w) (fun _ _ _ hh h => h.of_heap hh) law_own started (by kernel_rfl) Tryz.func3
  (ChangeSpec.witness_shaped (enc := enc) (C := Tryz.checked) (os := os) (X := fun w _ => laidMetH Tryz.prog [("math/bits.deBruijn64tab", Rows.laid_math_bits_deBruijn64tab)] w) false (World.doorLaid Tryz.prog 400 os) #[.agg #[.bool false, .slice none 0 0, .slice none 0 0], .int .i64 0] 8 rfl (World.shaped_of_RefB (by kernel_rfl) (by kernel_rfl)) (by kernel_rfl) (by kernel_rfl) (by kernel_rfl) (rationalTexts_door os _)) ?_
 intro W base args ds gs before hval0 hW hcnd hsz hL _
 have hval:∀ (j:Nat) t v,Tryz.f3.params[j]? = some t → args[j]? = some v → Value.okWide Tryz.prog W .any base t v:=hval0
 have hW':=hW
 obtain ⟨p,q,hA0,hV,rfl,hfz,hnd⟩:=hW
 have hA:DataW.TrodAll enc Tryz.prog W 0 (fun _ => true) true Tryz.f3.params.toList args.toList ds p:=hA0
 rw [Tryz.params3] at hA hval hsz
 obtain ⟨v0,vs0,d0,ds0,p0,q0,hargs,rfl,rfl,h0,r0⟩:=trodAll_cons hA
 obtain ⟨v1,vs1,d1,ds1,p1,q1,rfl,rfl,rfl,h1,r1⟩:=trodAll_cons r0
 obtain ⟨rfl,rfl,rfl⟩:=trodAll_nil r1
 obtain rfl:args = #[v0,v1]:=by cases args; simp_all
 obtain ⟨rfl,rfl⟩:=trodVars_none hV
 have k0:=h0
 have lt0:∀ x ∈ p0,x.block < W.heap.size:=by obtain ⟨m,hm⟩:=k0; exact DataW.trod_lt m _ _ _ hm
 obtain ⟨g0,a0,n0,c0,x0,b0,m0,e0,y0,rfl,sx0,sy0,ox0,oy0,z0,l0,kk0⟩:=arg_ratZ (hval 0 25 v0 rfl rfl) h0 (fun k hk => by simpa using List.all_eq_true.1 hsz k (DataW.weights_mem_each (j:=0) rfl rfl k hk))
 obtain ⟨i1,rfl,rfl,rfl,wf1⟩:=open_int Tryz.underlying3 (hval 1 3 v1 rfl rfl) h1
 clear hA0 hval0
 have hT:Tab64 W:=by
  rw [MakeChecks.laidMetH_plain _ _ _ (by kernel_rfl)] at hL
  have hI := Lib.tabIs_of_head (k := .u8) (zs := tab64) (rest := []) (show Tryz.prog.globalNamed "math/bits.deBruijn64tab" = some 2 by kernel_rfl) (show (Tryz.prog.globals[2]?).map (·.type) = some 218 by kernel_rfl) Tryz.underlying218 Tryz.underlying5 (by kernel_rfl) (by kernel_rfl) hL
  intro j hj
  exact hI.cell (by kernel_rfl) j hj
 refine (rationalTexts_walk g0 a0 n0 c0 x0 b0 m0 e0 y0 i1 W sx0 sy0 ox0 oy0 z0 l0 kk0 (bounds_i64 wf1).1 (bounds_i64 wf1).2 hT).mono fun e W' ⟨he,bel⟩ => ?_
 subst he
 exact ⟨_,rfl,_,_,_,[],_,[],hW',trodAll_mk1 (shut_bool Tryz.underlying4 _),(trodAll_cons_mk (Below.trod law_laid (by kernel_rfl) (of_decide_eq_true (by kernel_rfl)) k0 bel lt0) (trodAll_cons_mk (shut_int Tryz.underlying3 wf1) trodAll_mk0)),rfl,bel.frame _,fun h => by cases h⟩

theorem rationalTexts_row:Rows.RationalTextsSaid :=
 OpenClaim.holds_of_wide 3 Tryz.f3 rfl rfl rfl rfl rfl rfl rfl ⟨rfl,rfl,rfl,rfl,rfl⟩ rfl rfl rfl rfl rfl (by kernel_rfl) Tryz.func3 (by kernel_rfl)
  (of_decide_eq_true (by kernel_rfl)) (by unfold Func.isWrapper; first | (rw [if_pos (by decide +kernel)]; kernel_rfl) | (rw [if_neg (by decide +kernel)]; exact ⟨rfl,rfl⟩))
  (fun os started H enc _ => rationalTexts_lifted os started H enc)

theorem rationalTexts_holds:Rows.RationalTextsCardSaid :=
 Claim7.holds_tied_plain_at .later [] [.data] true Rows.rationalTextsCard.stood.harness false
  rationalTexts_row (fun _ h => by cases h) (by kernel_rfl) (fun _ h => by cases h) rationalTexts_row_tie rfl ⟨rfl,rfl⟩ (by kernel_rfl) rfl
  (fun f fn hf hfn => by
   obtain rfl : f = 3 := Option.some.inj ((show Tryz.prog.funcNamed "slope/slopelaw2.RationalTexts" = some 3 by kernel_rfl).symm.trans hf) |>.symm
   obtain rfl:fn = Tryz.f3:=(Option.some.inj (Tryz.func3.symm.trans hfn)).symm
   exact ⟨by kernel_rfl,fun j t ht => by
    rw [Tryz.params3] at ht
    have hm:t ∈ [25,3]:=by simpa using Array.mem_of_getElem? ht
    have hall:([25,3].all fun u => !Tryz.prog.wantsStandIn u) = true:=by kernel_rfl
    exact (show Tryz.prog.wantsStandIn t = false by simpa using List.all_eq_true.1 hall t hm)⟩)
  (by kernel_rfl)
#print axioms rationalTexts_holds
end Go.Proofs.YtncolonhdjkglaaGreatDoor
