/- LRSteps -/
import Derived.Test.YtmmeiebbnjjijaaGreatDoorLRStepsy0A
import Derived.Test.YtmmeiebbnjjijaaGreatDoorLRStepsy0B
import Derived.Test.YtmmeiebbnjjijaaGreatDoorLRStepsy0C
import Derived.Test.YtmmeiebbnjjijaaGreatDoorLRStepsy1A
import Derived.Test.YtmmeiebbnjjijaaGreatDoorLRStepsy1B
import Derived.Test.YtmmeiebbnjjijaaGreatDoorLRStepsy1C
import Derived.Test.YtmmeiebbnjjijaaGreatDoorRl2
import Derived.Test.YtmmeiebbnjjijaaGreatDoorCards
import Derived.Test.YtmmeiebbnjjijaaGreatDoorTie
import Derived.SevenTiedAt
import Derived.LaidMore
import Derived.Stop.Joined
import Derived.Lib.LaidTab
namespace Go.Proofs.YtmmeiebbnjjijaaGreatDoor
open Go.ChangeShapes Go.WideShapes Go.ChangeAt Go.RowKit Go.Deep
set_option linter.unusedVariables false
set_option maxRecDepth 100000 in
set_option maxHeartbeats 64000000 in
theorem rationalSteps_no1 (g_a:Bool) (a_a:Option Addr) (n_a c_a:Nat) (x_a:List Nat) (b_a:Option Addr) (m_a d_a:Nat) (y_a:List Nat) (g_b:Bool) (a_b:Option Addr) (n_b c_b:Nat) (x_b:List Nat) (b_b:Option Addr) (m_b d_b:Nat) (y_b:List Nat) (w:World) (hx_a:Sl w a_a n_a c_a x_a) (hy_a:Sl w b_a m_a d_a y_a) (ox_a:Ok x_a) (oy_a:Ok y_a) (hx_b:Sl w a_b n_b c_b x_b) (hy_b:Sl w b_b m_b d_b y_b) (ox_b:Ok x_b) (oy_b:Ok y_b) (hT:Tab64 w) (k_a:MayR g_a x_a y_a = false) :
  Calls Tryz.prog 3 #[ratV g_a a_a n_a c_a b_a m_a d_a,ratV g_b a_b n_b c_b b_b m_b d_b] w fun e w' => e = .returned (.bool true) ∧ Below w.heap.size w w':=by
 have A00:Fcts w w [fTab]:=⟨Below.refl _ _,fun f hf => by simp at hf; subst hf; exact hT⟩
 have A01:=A00.add (fN a_a n_a c_a x_a b_a m_a d_a y_a) ⟨hx_a,hy_a⟩
 have O_a:=Hd (And.intro ox_a oy_a)
 have A02:=A01.add (fN a_b n_b c_b x_b b_b m_b d_b y_b) ⟨hx_b,hy_b⟩
 have O_b:=Hd (And.intro ox_b oy_b)
 have A0:=Hd A02
 have M_a:=Hd k_a
 clear k_a
 clear A00 hT hx_a hy_a A01 ox_a oy_a hx_b hy_b A02 ox_b oy_b
 unfold ratV
 obtain ⟨w1,hw1⟩:∃ x,w.alloc (.cells #[.bool g_a,.slice a_a n_a c_a,.slice b_a m_a d_a] 25) = x:=⟨_,rfl⟩
 have Aw1:=Hd ((Uh A0).box (.bool g_a) (.slice a_a n_a c_a) (.slice b_a m_a d_a) 25)
 rw [hw1] at Aw1
 clear A0
 obtain ⟨w2,hw2⟩:∃ x,w1.alloc (.cells #[.bool g_b,.slice a_b n_b c_b,.slice b_b m_b d_b] 25) = x:=⟨_,rfl⟩
 have Aw2:=Hd ((Uh Aw1).box (.bool g_b) (.slice a_b n_b c_b) (.slice b_b m_b d_b) 25)
 rw [hw2] at Aw2
 clear Aw1
 go_enter Tryz.func3,Tryz.ntmps3
 have t3:=(Uh Aw2).r (w.heap.size) (.bool g_a) (.slice a_a n_a c_a) (.slice b_a m_a d_a) mM1
 have t3a:=t3.c0
 have t3b:=t3.c1
 have t3c:=t3.c2
 clear t3
 go_wp2_with fail
 clear t3a t3b t3c
 have K:=ratMay_any g_a (a_a) (b_a) n_a c_a m_a d_a (x_a) (y_a)  w2 ((Uh Aw2).n (a_a) n_a c_a (x_a) (b_a) m_a d_a (y_a) mM3).num ((Uh Aw2).n (a_a) n_a c_a (x_a) (b_a) m_a d_a (y_a) mM3).den (Uh O_a).1 (Uh O_a).2 ((Uh Aw2).tab mM4)
 rw [Uh M_a] at K
 try unfold ratV at K
 refine K.mono ?_
 clear K
 rintro _ w4 ⟨rfl,hb⟩
 have Aw4:=Hd ((Uh Aw2).step hb)
 clear Aw2 hb
 go_wp2_with fail
 have K:=ralive_any w4 ((Uh Aw4).tab mM4)
 try unfold ratV at K
 refine K.mono ?_
 clear K
 rintro _ w5 ⟨rfl,hb⟩
 have Aw5:=Hd ((Uh Aw4).step hb)
 clear Aw4 hb
 go_wp2_with fail
 go_ret
 exact ⟨rfl,(Uh Aw5).bel⟩

set_option maxRecDepth 100000 in
set_option maxHeartbeats 64000000 in
theorem rationalSteps_no2 (g_a:Bool) (a_a:Option Addr) (n_a c_a:Nat) (x_a:List Nat) (b_a:Option Addr) (m_a d_a:Nat) (y_a:List Nat) (g_b:Bool) (a_b:Option Addr) (n_b c_b:Nat) (x_b:List Nat) (b_b:Option Addr) (m_b d_b:Nat) (y_b:List Nat) (w:World) (hx_a:Sl w a_a n_a c_a x_a) (hy_a:Sl w b_a m_a d_a y_a) (ox_a:Ok x_a) (oy_a:Ok y_a) (hx_b:Sl w a_b n_b c_b x_b) (hy_b:Sl w b_b m_b d_b y_b) (ox_b:Ok x_b) (oy_b:Ok y_b) (hT:Tab64 w) (k_a:MayR g_a x_a y_a = true) (k_b:MayR g_b x_b y_b = false) :
  Calls Tryz.prog 3 #[ratV g_a a_a n_a c_a b_a m_a d_a,ratV g_b a_b n_b c_b b_b m_b d_b] w fun e w' => e = .returned (.bool true) ∧ Below w.heap.size w w':=by
 have A00:Fcts w w [fTab]:=⟨Below.refl _ _,fun f hf => by simp at hf; subst hf; exact hT⟩
 have A01:=A00.add (fN a_a n_a c_a x_a b_a m_a d_a y_a) ⟨hx_a,hy_a⟩
 have O_a:=Hd (And.intro ox_a oy_a)
 have A02:=A01.add (fN a_b n_b c_b x_b b_b m_b d_b y_b) ⟨hx_b,hy_b⟩
 have O_b:=Hd (And.intro ox_b oy_b)
 have A0:=Hd A02
 have M_a:=Hd k_a
 have M_b:=Hd k_b
 clear k_a k_b
 clear A00 hT hx_a hy_a A01 ox_a oy_a hx_b hy_b A02 ox_b oy_b
 unfold ratV
 obtain ⟨w1,hw1⟩:∃ x,w.alloc (.cells #[.bool g_a,.slice a_a n_a c_a,.slice b_a m_a d_a] 25) = x:=⟨_,rfl⟩
 have Aw1:=Hd ((Uh A0).box (.bool g_a) (.slice a_a n_a c_a) (.slice b_a m_a d_a) 25)
 rw [hw1] at Aw1
 clear A0
 obtain ⟨w2,hw2⟩:∃ x,w1.alloc (.cells #[.bool g_b,.slice a_b n_b c_b,.slice b_b m_b d_b] 25) = x:=⟨_,rfl⟩
 have Aw2:=Hd ((Uh Aw1).box (.bool g_b) (.slice a_b n_b c_b) (.slice b_b m_b d_b) 25)
 rw [hw2] at Aw2
 clear Aw1
 go_enter Tryz.func3,Tryz.ntmps3
 have t3:=(Uh Aw2).r (w.heap.size) (.bool g_a) (.slice a_a n_a c_a) (.slice b_a m_a d_a) mM1
 have t3a:=t3.c0
 have t3b:=t3.c1
 have t3c:=t3.c2
 clear t3
 go_wp2_with fail
 clear t3a t3b t3c
 have K:=ratMay_any g_a (a_a) (b_a) n_a c_a m_a d_a (x_a) (y_a)  w2 ((Uh Aw2).n (a_a) n_a c_a (x_a) (b_a) m_a d_a (y_a) mM3).num ((Uh Aw2).n (a_a) n_a c_a (x_a) (b_a) m_a d_a (y_a) mM3).den (Uh O_a).1 (Uh O_a).2 ((Uh Aw2).tab mM4)
 rw [Uh M_a] at K
 try unfold ratV at K
 refine K.mono ?_
 clear K
 rintro _ w4 ⟨rfl,hb⟩
 have Aw4:=Hd ((Uh Aw2).step hb)
 clear Aw2 hb
 have t5:=(Uh Aw4).r (w1.heap.size) (.bool g_b) (.slice a_b n_b c_b) (.slice b_b m_b d_b) (.head _)
 have t5a:=t5.c0
 have t5b:=t5.c1
 have t5c:=t5.c2
 clear t5
 go_wp2_with fail
 clear t5a t5b t5c
 have K:=ratMay_any g_b (a_b) (b_b) n_b c_b m_b d_b (x_b) (y_b)  w4 ((Uh Aw4).n (a_b) n_b c_b (x_b) (b_b) m_b d_b (y_b) mM2).num ((Uh Aw4).n (a_b) n_b c_b (x_b) (b_b) m_b d_b (y_b) mM2).den (Uh O_b).1 (Uh O_b).2 ((Uh Aw4).tab mM4)
 rw [Uh M_b] at K
 try unfold ratV at K
 refine K.mono ?_
 clear K
 rintro _ w6 ⟨rfl,hb⟩
 have Aw6:=Hd ((Uh Aw4).step hb)
 clear Aw4 hb
 go_wp2_with fail
 have K:=ralive_any w6 ((Uh Aw6).tab mM4)
 try unfold ratV at K
 refine K.mono ?_
 clear K
 rintro _ w7 ⟨rfl,hb⟩
 have Aw7:=Hd ((Uh Aw6).step hb)
 clear Aw6 hb
 go_wp2_with fail
 go_ret
 exact ⟨rfl,(Uh Aw7).bel⟩

theorem rationalSteps_walk (g_a:Bool) (a_a:Option Addr) (n_a c_a:Nat) (x_a:List Nat) (b_a:Option Addr) (m_a d_a:Nat) (y_a:List Nat) (g_b:Bool) (a_b:Option Addr) (n_b c_b:Nat) (x_b:List Nat) (b_b:Option Addr) (m_b d_b:Nat) (y_b:List Nat) (w:World) (hx_a:Sl w a_a n_a c_a x_a) (hy_a:Sl w b_a m_a d_a y_a) (ox_a:Ok x_a) (oy_a:Ok y_a) (hx_b:Sl w a_b n_b c_b x_b) (hy_b:Sl w b_b m_b d_b y_b) (ox_b:Ok x_b) (oy_b:Ok y_b) (hT:Tab64 w) :
  Calls Tryz.prog 3 #[ratV g_a a_a n_a c_a b_a m_a d_a,ratV g_b a_b n_b c_b b_b m_b d_b] w fun e w' => e = .returned (.bool true) ∧ Below w.heap.size w w':=by
 cases ma:MayR g_a x_a y_a
 ·exact rationalSteps_no1 g_a a_a n_a c_a x_a b_a m_a d_a y_a g_b a_b n_b c_b x_b b_b m_b d_b y_b w hx_a hy_a ox_a oy_a hx_b hy_b ox_b oy_b hT ma
 ·cases mb:MayR g_b x_b y_b
  ·exact rationalSteps_no2 g_a a_a n_a c_a x_a b_a m_a d_a y_a g_b a_b n_b c_b x_b b_b m_b d_b y_b w hx_a hy_a ox_a oy_a hx_b hy_b ox_b oy_b hT ma mb
  ·cases hq:sameR (RoundF g_a x_a y_a).1.1 (RoundF g_a x_a y_a).1.2.1 (RoundF g_a x_a y_a).1.2.2 (FloorF g_a x_a y_a).1.1 (FloorF g_a x_a y_a).1.2.1 (FloorF g_a x_a y_a).1.2.2
   ·cases hf:sameR false (SubF g_a x_a y_a (RoundF g_a x_a y_a).1.1 (RoundF g_a x_a y_a).1.2.1 (RoundF g_a x_a y_a).1.2.2).1.2.1 y_a false [1] [2]
    ·exact rationalSteps_y0A g_a a_a n_a c_a x_a b_a m_a d_a y_a g_b a_b n_b c_b x_b b_b m_b d_b y_b w hx_a hy_a ox_a oy_a hx_b hy_b ox_b oy_b hT ma mb hq hf
    ·by_cases hx:(RoundF g_a x_a y_a).1.2.1 = []
     ·exact rationalSteps_y0B g_a a_a n_a c_a x_a b_a m_a d_a y_a g_b a_b n_b c_b x_b b_b m_b d_b y_b w hx_a hy_a ox_a oy_a hx_b hy_b ox_b oy_b hT ma mb hq hf hx
     ·exact rationalSteps_y0C g_a a_a n_a c_a x_a b_a m_a d_a y_a g_b a_b n_b c_b x_b b_b m_b d_b y_b w hx_a hy_a ox_a oy_a hx_b hy_b ox_b oy_b hT ma mb hq hf hx
   ·cases hf:sameR false (SubF g_a x_a y_a (RoundF g_a x_a y_a).1.1 (RoundF g_a x_a y_a).1.2.1 (RoundF g_a x_a y_a).1.2.2).1.2.1 y_a false [1] [2]
    ·exact rationalSteps_y1A g_a a_a n_a c_a x_a b_a m_a d_a y_a g_b a_b n_b c_b x_b b_b m_b d_b y_b w hx_a hy_a ox_a oy_a hx_b hy_b ox_b oy_b hT ma mb hq hf
    ·by_cases hx:(RoundF g_a x_a y_a).1.2.1 = []
     ·exact rationalSteps_y1B g_a a_a n_a c_a x_a b_a m_a d_a y_a g_b a_b n_b c_b x_b b_b m_b d_b y_b w hx_a hy_a ox_a oy_a hx_b hy_b ox_b oy_b hT ma mb hq hf hx
     ·exact rationalSteps_y1C g_a a_a n_a c_a x_a b_a m_a d_a y_a g_b a_b n_b c_b x_b b_b m_b d_b y_b w hx_a hy_a ox_a oy_a hx_b hy_b ox_b oy_b hT ma mb hq hf hx

set_option maxRecDepth 100000 in
theorem rationalSteps_door (os : Os) (args : Array Value) : laidMetH Tryz.prog [("math/bits.deBruijn64tab", Rows.laid_math_bits_deBruijn64tab)] ((World.doorLaid Tryz.prog 400 os).forCall (fun _ _ => 0) ⟨#[], args, []⟩).memory :=
 laidMetH_of_parts3 (fuel:=8) (laidMet_of_run' 8 (by kernel_rfl) (by kernel_rfl)) (by kernel_rfl) (by kernel_rfl)

set_option maxRecDepth 100000 in
theorem rationalSteps_lifted (os:Os) (started:os.Started) (H:Type) (enc:TypeId × Value → H) :
  ReturnsInHanded {} Tryz.checked os 3 .any (fun w args => (Rows.rationalStepsSpec.pre enc Tryz.prog Tryz.f3 [] false w args ∧ laidMetH Tryz.prog [("math/bits.deBruijn64tab", Rows.laid_math_bits_deBruijn64tab)] w) ∧ sizedMet enc Tryz.prog Tryz.f3 (OpenSpec.ofChange Rows.rationalStepsSpec) false w args) (Rows.rationalStepsSpec.post enc Tryz.prog Tryz.f3 false true false false) := by
 refine returnsInHanded_of_change_and (C := Tryz.checked) (X := fun w _ => laidMetH Tryz.prog [("math/bits.deBruijn64tab", Rows.laid_math_bits_deBruijn64tab)] w) (fun _ _ _ hh h => h.of_heap hh) law_own started (by kernel_rfl) Tryz.func3
  (ChangeSpec.witness_shaped (enc := enc) (C := Tryz.checked) (os := os) (X := fun w _ => laidMetH Tryz.prog [("math/bits.deBruijn64tab", Rows.laid_math_bits_deBruijn64tab)] w) false (World.doorLaid Tryz.prog 400 os) #[.agg #[.bool false, .slice none 0 0, .slice none 0 0], .agg #[.bool false, .slice none 0 0, .slice none 0 0]] 8 rfl (World.shaped_of_RefB (by kernel_rfl) (by kernel_rfl)) (by kernel_rfl) (by kernel_rfl) (by kernel_rfl) (rationalSteps_door os _)) ?_
 intro W base args ds gs before hval0 hW hcnd hsz hL _
 have hval:∀ (j:Nat) t v,Tryz.f3.params[j]? = some t → args[j]? = some v → Value.okWide Tryz.prog W .any base t v:=hval0
 have hW':=hW
 obtain ⟨p,q,hA0,hV,rfl,hfz,hnd⟩:=hW
 have hA:DataW.TrodAll enc Tryz.prog W 0 (fun _ => true) true Tryz.f3.params.toList args.toList ds p:=hA0
 rw [Tryz.params3] at hA hval hsz
 obtain ⟨v0,vs0,d0,ds0,p0,q0,hargs,rfl,rfl,h0,r0⟩:=trodAll_cons hA
 obtain ⟨v1,vs1,d1,ds1,p1,q1,rfl,rfl,rfl,h1,r1⟩:=trodAll_cons r0
 obtain ⟨rfl,rfl,rfl⟩:=trodAll_nil r1
 obtain rfl:args = #[v0,v1]:=by cases args; simp_all
 obtain ⟨rfl,rfl⟩:=trodVars_none hV
 have k0:=h0
 have lt0:∀ x ∈ p0,x.block < W.heap.size:=by obtain ⟨m,hm⟩:=k0; exact DataW.trod_lt m _ _ _ hm
 obtain ⟨g0,a0,n0,c0,x0,b0,m0,e0,y0,rfl,sx0,sy0,ox0,oy0⟩:=arg_rat (hval 0 25 v0 rfl rfl) h0
 have k1:=h1
 have lt1:∀ x ∈ p1,x.block < W.heap.size:=by obtain ⟨m,hm⟩:=k1; exact DataW.trod_lt m _ _ _ hm
 obtain ⟨g1,a1,n1,c1,x1,b1,m1,e1,y1,rfl,sx1,sy1,ox1,oy1⟩:=arg_rat (hval 1 25 v1 rfl rfl) h1
 clear hA0 hval0
 have hT:Tab64 W:=by
  rw [MakeChecks.laidMetH_plain _ _ _ (by kernel_rfl)] at hL
  have hI := Lib.tabIs_of_head (k := .u8) (zs := tab64) (rest := []) (show Tryz.prog.globalNamed "math/bits.deBruijn64tab" = some 1 by kernel_rfl) (show (Tryz.prog.globals[1]?).map (·.type) = some 227 by kernel_rfl) Tryz.underlying227 Tryz.underlying5 (by kernel_rfl) (by kernel_rfl) hL
  intro j hj
  exact hI.cell (by kernel_rfl) j hj
 refine (rationalSteps_walk g0 a0 n0 c0 x0 b0 m0 e0 y0 g1 a1 n1 c1 x1 b1 m1 e1 y1 W sx0 sy0 ox0 oy0 sx1 sy1 ox1 oy1 hT).mono fun e W' ⟨he,bel⟩ => ?_
 subst he
 exact ⟨_,rfl,_,_,_,[],_,[],hW',trodAll_mk1 (shut_bool Tryz.underlying4 _),(trodAll_cons_mk (Below.trod law_laid (by kernel_rfl) (of_decide_eq_true (by kernel_rfl)) k0 bel lt0) (trodAll_cons_mk (Below.trod law_laid (by kernel_rfl) (of_decide_eq_true (by kernel_rfl)) k1 bel lt1) trodAll_mk0)),rfl,bel.frame _,fun h => by cases h⟩

theorem rationalSteps_row:Rows.RationalStepsSaid :=
 OpenClaim.holds_of_wide 3 Tryz.f3 rfl rfl rfl rfl rfl rfl rfl ⟨rfl,rfl,rfl,rfl,rfl⟩ rfl rfl rfl rfl rfl (by kernel_rfl) Tryz.func3 (by kernel_rfl)
  (of_decide_eq_true (by kernel_rfl)) (by unfold Func.isWrapper; first | (rw [if_pos (by decide +kernel)]; kernel_rfl) | (rw [if_neg (by decide +kernel)]; exact ⟨rfl,rfl⟩))
  (fun os started H enc _ => rationalSteps_lifted os started H enc)

theorem rationalSteps_holds:Rows.RationalStepsCardSaid :=
 Claim7.holds_tied_plain_at .later [] [.data] true Rows.rationalStepsCard.stood.harness false
  rationalSteps_row (fun _ h => by cases h) (by kernel_rfl) (fun _ h => by cases h) rationalSteps_row_tie rfl ⟨rfl,rfl⟩ (by kernel_rfl) rfl
  (fun f fn hf hfn => by
   obtain rfl : f = 3 := Option.some.inj ((show Tryz.prog.funcNamed "slope/slopelaw2.RationalSteps" = some 3 by kernel_rfl).symm.trans hf) |>.symm
   obtain rfl:fn = Tryz.f3:=(Option.some.inj (Tryz.func3.symm.trans hfn)).symm
   exact ⟨by kernel_rfl,fun j t ht => by
    rw [Tryz.params3] at ht
    have hm:t ∈ [25,25]:=by simpa using Array.mem_of_getElem? ht
    have hall:([25,25].all fun u => !Tryz.prog.wantsStandIn u) = true:=by kernel_rfl
    exact (show Tryz.prog.wantsStandIn t = false by simpa using List.all_eq_true.1 hall t hm)⟩)
  (by kernel_rfl)
#print axioms rationalSteps_holds
end Go.Proofs.YtmmeiebbnjjijaaGreatDoor
