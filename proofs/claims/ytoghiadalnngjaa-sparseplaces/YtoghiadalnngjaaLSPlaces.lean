/- LSPlaces -/
import Derived.Test.YtoghiadalnngjaaSpa
import Derived.Test.YtoghiadalnngjaaSjp
import Derived.Test.YtoghiadalnngjaaSi8
import Derived.Test.YtoghiadalnngjaaRows
import Derived.Deep.DeepHandedRow
import Derived.Deep.RegionHeld3
namespace Go.Proofs.Ytoghiadalnngjaa
open Go.ChangeShapes Go.WideShapes Go.ChangeAt Go.RowKit Go.Deep
set_option linter.unusedVariables false
theorem own_nilP {B k:Nat} (hk:k ≠ B):¬ Own B (.slice none 0 0) (.slice none 0 0) k:=fun e => by
 rcases e with e | e | e
 ·exact hk e
 ·simp [Value.ownBlock] at e
 ·simp [Value.ownBlock] at e
set_option maxRecDepth 100000 in
set_option maxHeartbeats 64000000 in
theorem sparsePlaces_walk (rows width:Int) (a1:Option Addr) (n1 c1:Nat) (st:List Int) (a2:Option Addr) (n2 c2:Nat) (cols:List Int) (r t:Int) (w:World) (hP:PatZ w a1 n1 c1 st a2 n2 c2 cols) :
  Calls Try.prog 3 #[patV rows width a1 n1 c1 a2 n2 c2,.int .i64 r,.int .i64 t] w fun e w' => e = .returned (.bool true) ∧ Below w.heap.size w w':=by
 obtain ⟨w1,hw1⟩:∃ x,w.alloc (.cells #[.int .i64 rows,.int .i64 width,.slice a1 n1 c1,.slice a2 n2 c2] 24) = x:=⟨_,rfl⟩
 have bb:Below w.heap.size w w1:=by rw [← hw1]; exact bAl
 have hBP:BoxP w1 w.heap.size [.int .i64 rows,.int .i64 width,.slice a1 n1 c1,.slice a2 n2 c2]:=by have:=BoxP.made w #[.int .i64 rows,.int .i64 width,.slice a1 n1 c1,.slice a2 n2 c2] 24; rw [hw1] at this; exact this
 have dd0:=(hBP.all 0 _ rfl).1
 have dd1:=(hBP.all 1 _ rfl).1
 have dd2:=(hBP.all 2 _ rfl).1
 have dd3:=(hBP.all 3 _ rfl).1
 obtain ⟨B,hBe⟩:∃ B,w1.heap.size = B:=⟨_,rfl⟩
 have hG:=GivI.made w1
 rw [hBe] at hG
 have bg:Below w1.heap.size w1 (w1.alloc givO):=bAl
 obtain ⟨wg,hwg⟩:∃ x,w1.alloc givO = x:=⟨_,rfl⟩
 rw [hwg] at hG bg
 unfold givO at hwg
 have g0:=(ck bg dd0)
 have g1:=(ck bg dd1)
 have g2:=(ck bg dd2)
 have g3:=(ck bg dd3)
 have HEL:=Hj (show ∀ (E1 E2:EntI),E1.xs = st → E2.xs = cols → ∀ e ∈ [] ++ [E1] ++ [E2],e.xs.length ≤ 17592186044000 from fun E1 E2 e1 e2 e he => by
  have l1:=hP.h1.len
  have l2:=hP.h2.len
  have:=hP.l1
  have:=hP.l2
  simp at he
  rcases he with rfl | rfl
  ·rw [e1]; omega
  ·rw [e2]; omega)
 have HLO1:=Hj (show ∀ z,a2 = some z → cols ≠ [] → z.block < B from fun z hz hne => by have:=hP.h2.block_lt hne z hz; have:=bb.size; omega)
 obtain ⟨okh,hok⟩:=truth (HasP rows width st cols r t)
 have HPL:=Hj (show ∀ (e1 d1 e2 d2:Nat) (W:World),SlI W (some ⟨e1,0,none⟩) n1 d1 st → SlI W (some ⟨e2,0,none⟩) n2 d2 cols → SlI W a1 n1 c1 st → SlI W a2 n2 c2 cols → Calls Try.prog 4 #[patV rows width (some ⟨e1,0,none⟩) n1 d1 (some ⟨e2,0,none⟩) n2 d2,patV rows width a1 n1 c1 a2 n2 c2,.int .i64 r,.int .i64 t] W fun e w' => e = .returned (.bool true) ∧ Below W.heap.size W w' from fun e1 d1 e2 d2 W q1 q2 h1 h2 => by
  by_cases hm:MayP rows width st cols
  ·obtain ⟨R,rfl⟩:∃ R:Nat,rows = (R:Int):=⟨rows.toNat,by have:=hm.head.fit; omega⟩
   exact places_yes R width e1 d1 e2 d2 a1 a2 n1 c1 n2 c2 st cols r t W q1 q2 h1 h2 hP.l1 hP.l2 hm okh hok
  ·exact places_no rows width e1 d1 e2 d2 a1 a2 n1 c1 n2 c2 st cols r t W q1 q2 h1 h2 hP.l1 hP.l2 hm okh hok)
 have HP:=Hj hP
 have HG:=Hj hG
 have HBG:=Hj bg
 have HW1:=Hj bb
 have HBE:=Hj hBe
 clear hP hG bg bb hBP hok
 unfold patV
 go_enter Try.func3,Try.ntmps3
 go_wp2_with fail
 go_region_held3 (fun w' => w'.cell? ⟨w.heap.size,0,none⟩ = some (.int .i64 rows) ∧ w'.cell? ⟨w.heap.size,1,none⟩ = some (.int .i64 width) ∧ w'.cell? ⟨w.heap.size,2,none⟩ = some (.slice a1 n1 c1) ∧ w'.cell? ⟨w.heap.size,3,none⟩ = some (.slice a2 n2 c2)) (first | go_keep | (exact ⟨A_0,A_1,A_2,A_3⟩) | (exact ⟨B_0,B_1,B_2,B_3⟩) | (exact ⟨C_0,C_1,C_2,C_3⟩))
  (first
   | (go_at_call 5; have K:=gpat_any B (.slice none 0 0) (.slice none 0 0) [] (fun _ => .slice none 0 0) rows width a1 n1 c1 st a2 n2 c2 cols _ ((Uh HG).below (Below.refl _ _).drew) ((((Uh HP).h1.below (Uh HW1)).below (Uh HBG)).below (Below.refl _ _).drew) ((((Uh HP).h2.below (Uh HW1)).below (Uh HBG)).below (Below.refl _ _).drew) (Uh HLO1) (Uh HP).l1 (Uh HP).l2 (by simp); unfold patV at K; refine K.mono ?_; clear K; rintro _ wp ⟨v,rfl,v0,v1,E1,E2,rfl,GP⟩; (try unfold patV); have hK:Below w1.heap.size w1 wp:=(Uh HBG).trans (((Chg.of_drew wg).trans GP.chg).below (Uh HBG).size (fun k hk => own_nilP (by have:=Uh HBE; omega))); have A_0:=(ck hK dd0); have A_1:=(ck hK dd1); have A_2:=(ck hK dd2); have A_3:=(ck hK dd3); have HP1:=Hj (And.intro GP.giv (And.intro GP.x1 (And.intro GP.x2 hK))); clear GP hK)
   | (go_at_call 4; have K:=Uh HPL (EntI.b E1) E1.c (EntI.b E2) E2.c wp ((Uh HP1).1.sli (by simp) (Uh HP1).2.1 (Uh HP).h1.len) ((Uh HP1).1.sli (by simp) (Uh HP1).2.2.1 (Uh HP).h2.len) (((Uh HP).h1.below (Uh HW1)).below (Uh HP1).2.2.2) (((Uh HP).h2.below (Uh HW1)).below (Uh HP1).2.2.2); unfold patV at K; refine K.mono ?_; clear K; rintro _ wq ⟨rfl,hb⟩; have hK:=(Uh HP1).2.2.2.trans (hb.mono (Uh HP1).2.2.2.size); have B_0:=(ck hK dd0); have B_1:=(ck hK dd1); have B_2:=(ck hK dd2); have B_3:=(ck hK dd3); have HP2:=Hj (And.intro ((Uh HP1).1.below hb) hK); clear hb hK)
   | (go_at_call 6; refine (intactI_any wq B v0 v1 ([] ++ [E1] ++ [E2]) (Uh HP2).1 (by simp) (Uh HEL E1 E2 (Uh HP1).2.1 (Uh HP1).2.2.1)).mono ?_; rintro _ wx ⟨rfl,kx,hkx⟩; have hb:Below wq.heap.size wq wx:=(by rw [hkx]; exact bel_drewN (Below.refl _ _) kx); have hK:=(Uh HP2).2.trans (hb.mono (Uh HP2).2.size); have C_0:=(ck hK dd0); have C_1:=(ck hK dd1); have C_2:=(ck hK dd2); have C_3:=(ck hK dd3); have HP3:=Hj hK; clear hb hK hkx))
 try go_wp2_with fail
 try go_ret
 exact ⟨rfl,(Uh HW1).trans ((Uh HP3).mono (Uh HW1).size)⟩
theorem law_own:ownKnob Try.prog.godebug = none:=by kernel_rfl
theorem law_laid:laidOutB Try.prog = true:=by kernel_rfl
set_option maxRecDepth 100000 in
theorem sparsePlaces_lifted (os:Os) (started:os.Started) (H:Type) (enc:TypeId × Value → H) :
  ReturnsInHanded {} Try.checked os 3 .any (Rows.sparsePlacesSpec.pre6 enc Try.prog Try.f3 Rows.sparsePlacesRow.domain false) (Rows.sparsePlacesSpec.post enc Try.prog Try.f3 false true false false):=by
 refine returnsInHanded_of_change_sized (C:=Try.checked) law_own started (by kernel_rfl) Try.func3
  (ChangeSpec.witness6 (enc:=enc) (C:=Try.checked) false ⟨#[],#[.agg #[.int .i64 0,.int .i64 0,.slice none 0 0,.slice none 0 0],.int .i64 0,.int .i64 0],[]⟩ 8 (by kernel_rfl) (by kernel_rfl) (by kernel_rfl) (by kernel_rfl)) ?_
 intro W base args ds gs before hval0 hW hcnd hsz _
 have hval:∀ (j:Nat) t v,Try.f3.params[j]? = some t → args[j]? = some v → Value.okWide Try.prog W .any base t v:=hval0
 have hW':=hW
 obtain ⟨p,q,hA0,hV,rfl,hfz,hnd⟩:=hW
 have hA:DataW.TrodAll enc Try.prog W 0 (fun _ => true) true Try.f3.params.toList args.toList ds p:=hA0
 rw [Try.params3] at hA hval hsz
 obtain ⟨v0,vs0,d0,ds0,p0,q0,hargs,rfl,rfl,h0,r0⟩:=trodAll_cons hA
 obtain ⟨v1,vs1,d1,ds1,p1,q1,rfl,rfl,rfl,h1,r1⟩:=trodAll_cons r0
 obtain ⟨v2,vs2,d2,ds2,p2,q2,rfl,rfl,rfl,h2,r2⟩:=trodAll_cons r1
 obtain ⟨rfl,rfl,rfl⟩:=trodAll_nil r2
 obtain rfl:args = #[v0,v1,v2]:=by cases args; simp_all
 obtain ⟨rfl,rfl⟩:=trodVars_none hV
 have k0:=h0
 have lt0:∀ x ∈ p0,x.block < W.heap.size:=by obtain ⟨m,hm⟩:=k0; exact DataW.trod_lt m _ _ _ hm
 obtain ⟨rows,width,a1,n1,c1,st,a2,n2,c2,cols,rfl,ho0⟩:=arg_patZ (hval 0 24 v0 rfl rfl) h0 (fun k hk => by simpa using List.all_eq_true.1 hsz k (DataW.weights_mem_each (j:=0) rfl rfl k hk))
 obtain ⟨i1,rfl,rfl,rfl,wf1⟩:=open_int Try.underlying3 (hval 1 3 v1 rfl rfl) h1
 obtain ⟨i2,rfl,rfl,rfl,wf2⟩:=open_int Try.underlying3 (hval 2 3 v2 rfl rfl) h2
 clear hA0 hval0
 refine (sparsePlaces_walk rows width a1 n1 c1 st a2 n2 c2 cols i1 i2 W ho0).mono fun e W' ⟨he,bel⟩ => ?_
 subst he
 exact ⟨_,rfl,_,_,_,[],_,[],hW',trodAll_mk1 (shut_bool Try.underlying4 _),(trodAll_cons_mk (Below.trod law_laid (by kernel_rfl) (of_decide_eq_true (by kernel_rfl)) k0 bel lt0) (trodAll_cons_mk (shut_int Try.underlying3 wf1) (trodAll_cons_mk (shut_int Try.underlying3 wf2) trodAll_mk0))),rfl,bel.frame _,fun h => by cases h⟩

theorem sparsePlaces_holds:Rows.SparsePlacesSaid :=
 OpenClaim.holds_of_wide 3 Try.f3 rfl rfl rfl rfl rfl rfl rfl ⟨rfl,rfl,rfl,rfl,rfl⟩ rfl rfl rfl rfl rfl (by kernel_rfl) Try.func3 (by kernel_rfl)
  (of_decide_eq_true (by kernel_rfl)) (by unfold Func.isWrapper; first | (rw [if_pos (by decide +kernel)]; kernel_rfl) | (rw [if_neg (by decide +kernel)]; exact ⟨rfl,rfl⟩))
  (fun os started H enc _ => sparsePlaces_lifted os started H enc)
#print axioms sparsePlaces_holds
end Go.Proofs.Ytoghiadalnngjaa
