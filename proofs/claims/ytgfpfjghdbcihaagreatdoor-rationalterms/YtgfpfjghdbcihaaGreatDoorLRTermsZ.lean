/- LRTermsZ -/
import Derived.Test.YtgfpfjghdbcihaaGreatDoorRyl
import Derived.Test.YtgfpfjghdbcihaaGreatDoorRyk
import Derived.Test.YtgfpfjghdbcihaaGreatDoorWr1
import Derived.Test.YtgfpfjghdbcihaaGreatDoorMul
import Derived.Test.YtgfpfjghdbcihaaGreatDoorRows
import Derived.Test.YtgfpfjghdbcihaaGreatDoorCards
import Derived.Test.YtgfpfjghdbcihaaGreatDoorTie
import Derived.Deep.DeepHandedRow
import Derived.Deep.DeepWitnessRowRef
import Derived.Lib.LaidTab
import Derived.LaidMore
import Derived.SevenTiedAt
import Derived.Stop.Joined
import Derived.Deep.RegionHeld3
namespace Go.Proofs.YtgfpfjghdbcihaaGreatDoor
open Go.ChangeShapes Go.WideShapes Go.ChangeAt Go.RowKit Go.Deep
set_option linter.unusedVariables false
theorem LawQ.begin {w:World} (o:Obj) (ho:o = .cells #[.slice none 0 0,.slice none 0 0,.slice none 0 0,.slice none 0 0,.slice none 0 0,.slice none 0 0,.slice none 0 0,.slice none 0 0,.slice none 0 0,.slice none 0 0,.slice none 0 0,.slice none 0 0,.slice none 0 0,.slice none 0 0,.slice none 0 0,.slice none 0 0,.slice none 0 0,.slice none 0 0,.slice none 0 0,.slice none 0 0] 39) :
  LawQ (w.alloc o) w.heap.size (.slice none 0 0) (.slice none 0 0) (.slice none 0 0) (.slice none 0 0) [] [] w:=by
 have bel:Below w.heap.size w (w.alloc o):=(Below.refl _ _).alloc (Nat.le_refl _) o
 have hr:∀ i,rsQ (.slice none 0 0) (.slice none 0 0) i = .slice none 0 0:=fun i => by unfold rsQ; split <;> (try split) <;> rfl
 subst ho
 refine ⟨⟨⟨_,alloc_block _ _,rfl,rfl,rfl,?_⟩,World.ownsRow_nil _ _ _ _,World.ownsRow_nil _ _ _ _,(fun k hk => by cases hk),(fun e he => by cases he)⟩,bel,Nat.le_refl _,World.ownsRow_nil _ _ _ _,World.ownsRow_nil _ _ _ _,(fun k hk => by cases hk),(fun k hk => by cases hk),(fun e he => by cases he),(fun q hq => by cases hq)⟩
 intro i h2 h20
 rw [hr]
 match i,h20 with
 | 0,_ | 1,_ | 2,_ | 3,_ | 4,_ | 5,_ | 6,_ | 7,_ | 8,_ | 9,_ | 10,_ | 11,_ | 12,_ | 13,_ | 14,_ | 15,_ | 16,_ | 17,_ | 18,_ | 19,_ => rfl
 | n + 20,h => exact absurd h (by omega)

theorem LawQ.slq {w:World} {B:Nat} {v0 v1 u0 u1:Value} {es:List Ent} {qs:List Qn} {w0:World} (h:LawQ w B v0 v1 u0 u1 es qs w0) {Q:Qn} (hQ:Q ∈ qs) {rs:List Nq} {n:Nat} (hp:Q.ps = rs) (hl:rs.length = n + 3):SlQ w (some ⟨Q.b,0,none⟩) n Q.c (rs.take n):=by
 have q:=h.qents Q hQ
 have f:=q.f
 have le:=q.le
 rw [hp] at f le
 rw [← List.take_append_drop n rs] at f
 exact f.pre.sl (by simp; omega) (by omega)

theorem LawQ.sle {w:World} {B:Nat} {v0 v1 u0 u1:Value} {es:List Ent} {qs:List Qn} {w0:World} (h:LawQ w B v0 v1 u0 u1 es qs w0) {E:Ent} (hE:E ∈ es) {x:List Nat} {n:Nat} (hx:E.xs = x) (hn:x.length = n):Sl w (some ⟨E.b,0,none⟩) n E.c x:=by
 subst hx
 exact (h.giv.ents E hE).sl.pre hn rfl
theorem gratQ_any {w w0:World} {B:Nat} {v0 v1 u0 u1:Value} {es:List Ent} {qs:List Qn} (hL:LawQ w B v0 v1 u0 u1 es qs w0) (g:Bool) (a b:Option Addr) (n c m d:Nat) (x y:List Nat) (hx:Sl w0 a n c x) (hy:Sl w0 b m d y) (hn:n ≤ 35184372088000) (hm:m ≤ 35184372088000) (he:es.length ≤ 10000000) :
  Calls Tryz.prog 9 #[.pointer (some ⟨B,0,none⟩),ratV g a n c b m d] w fun e w' => ∃ v,e = .returned v ∧ ∃ v0' v1' E1 E2,v = ratV g (some ⟨Ent.b E1,0,none⟩) n E1.c (some ⟨Ent.b E2,0,none⟩) m E2.c ∧ E1.xs = x ∧ E2.xs = y ∧ LawQ w' B v0' v1' u0 u1 (es ++ [E1,E2]) qs w0:=by
 refine (gratR_any B v0 v1 es (rsQ u0 u1) g a n c x b m d y w hL.giv (hx.below hL.bel) (hy.below hL.bel) (fun z hz hne => Nat.lt_of_lt_of_le (hy.block_lt hne z hz) hL.base) (by omega) (by omega) (by omega)).mono ?_
 rintro _ w' ⟨v,rfl,v0',v1',E1,E2,rfl,hP⟩
 refine ⟨_,rfl,v0',v1',E1,E2,rfl,hP.x1,hP.x2,hL.grow (fs:=[E1,E2]) (by have:=hP.giv; rw [List.append_assoc] at this; exact this) hP.chg hP.safe ?_⟩
 intro e he
 simp at he
 rcases he with rfl | rfl
 ·exact hP.n1
 ·exact hP.n2

set_option maxRecDepth 100000 in
set_option maxHeartbeats 64000000 in
theorem rationalTerms_walk (p:Nq) (mo:Int) (a_l:Option Addr) (n_l c_l:Nat) (ps:List Nq) (w:World) (h_a:NqZ w p) (h_l:SlQ w a_l n_l c_l ps) (b_l:n_l ≤ 2513169434850) (z_l:∀ q ∈ ps,q.n ≤ 35184372088000 ∧ q.m ≤ 35184372088000) (y_l:∀ q ∈ ps,(q.a = none → q.c = 0) ∧ (q.b = none → q.d = 0)) (hT:Tab64 w) :
  Calls Tryz.prog 4 #[ratV p.g p.a p.n p.c p.b p.m p.d,.int .i64 mo,.slice a_l n_l c_l] w fun e w' => e = .returned (.bool true) ∧ Below w.heap.size w w':=by
 have bx0:=Box.made w p.g p.a p.n p.c p.b p.m p.d
 obtain ⟨w1,hw1⟩:∃ x,ratBox w p.g p.a p.n p.c p.b p.m p.d = x:=⟨_,rfl⟩
 rw [hw1] at bx0
 have hb0:=bx0.bel
 have d0:=bx0.d0
 have d1:=bx0.d1
 have d2:=bx0.d2
 unfold ratBox at hw1
 have hS0:=LawQ.begin (w:=w1) (.cells #[.slice none 0 0,.slice none 0 0,.slice none 0 0,.slice none 0 0,.slice none 0 0,.slice none 0 0,.slice none 0 0,.slice none 0 0,.slice none 0 0,.slice none 0 0,.slice none 0 0,.slice none 0 0,.slice none 0 0,.slice none 0 0,.slice none 0 0,.slice none 0 0,.slice none 0 0,.slice none 0 0,.slice none 0 0,.slice none 0 0] 39) rfl
 obtain ⟨wg,hwg⟩:∃ x,w1.alloc (.cells #[.slice none 0 0,.slice none 0 0,.slice none 0 0,.slice none 0 0,.slice none 0 0,.slice none 0 0,.slice none 0 0,.slice none 0 0,.slice none 0 0,.slice none 0 0,.slice none 0 0,.slice none 0 0,.slice none 0 0,.slice none 0 0,.slice none 0 0,.slice none 0 0,.slice none 0 0,.slice none 0 0,.slice none 0 0,.slice none 0 0] 39) = x:=⟨_,rfl⟩
 rw [hwg] at hS0
 have p0:wg.cell? ⟨w.heap.size,0,none⟩ = some (.bool p.g):=(ck hS0.bel d0)
 have p1:wg.cell? ⟨w.heap.size,1,none⟩ = some (.slice p.a p.n p.c):=(ck hS0.bel d1)
 have p2:wg.cell? ⟨w.heap.size,2,none⟩ = some (.slice p.b p.m p.d):=(ck hS0.bel d2)
 have HS0:=Hd hS0
 have HT:=Hd (hT.below hb0)
 have H_a:=Hd (And.intro (h_a.sl.1.1.below hb0) (And.intro (h_a.sl.1.2.below hb0) h_a))
 have H_l:=Hd (And.intro (h_l.below hb0) (And.intro z_l y_l))
 have HBL:=Hd b_l
 have HBW:=Hd hb0
 clear hS0 hT h_l h_a z_l y_l bx0 hb0 b_l
 unfold ratV
 go_enter Tryz.func4,Tryz.ntmps4
 go_wp2_with fail
 go_region_held3 (fun w' => w'.cell? ⟨w.heap.size,0,none⟩ = some (.bool p.g) ∧ w'.cell? ⟨w.heap.size,1,none⟩ = some (.slice p.a p.n p.c) ∧ w'.cell? ⟨w.heap.size,2,none⟩ = some (.slice p.b p.m p.d)) (first | go_keep | (exact ⟨r_0,r_1,r_2⟩) | (exact ⟨q_0,q_1,q_2⟩) | (exact ⟨f_0,f_1,f_2⟩) | (exact ⟨s_0,s_1,s_2⟩) | (exact ⟨t_0,t_1,t_2⟩))
  (first
   | (go_at_call 9; have K:=gratQ_any ((Uh HS0).below (Below.refl _ _).drew) p.g p.a p.b p.n p.c p.m p.d p.x p.y (Uh H_a).1 (Uh H_a).2.1 (Uh H_a).2.2.le.1 (Uh H_a).2.2.le.2 (by simp); unfold ratV at K; refine K.mono ?_; clear K; rintro _ wr ⟨v,rfl,v0,v1,E1,E2,rfl,hx1,hx2,hL⟩; (try unfold ratV); have r_0:=(ck hL.bel d0); have r_1:=(ck hL.bel d1); have r_2:=(ck hL.bel d2); have HL0:=Hd (And.intro hL (And.intro hx1 hx2)); clear hL hx1 hx2)
   | (go_at_call 14; refine (gratsZ_any (Uh HL0).1 a_l n_l c_l ps (Uh H_l).1 (by have:=Uh HBL; omega) (Uh H_l).2.1 (by simp) (by simp)).mono ?_; rintro _ wq ⟨Q1,rs1,v2,v3,u2,u3,fs1,rfl,hq1,hl1,hc1,hf1,hL⟩; have q_0:=(ck hL.bel d0); have q_1:=(ck hL.bel d1); have q_2:=(ck hL.bel d2); have HL1:=Hd (And.intro hL (And.intro hq1 (And.intro hl1 (And.intro hc1 hf1)))); clear hL hq1 hl1 hc1 hf1)
   | (go_at_call 13; have K:=terms_any p.g p.x p.y (some ⟨E1.b,0,none⟩) (some ⟨E2.b,0,none⟩) p.n E1.c p.m E2.c (some ⟨Q1.b,0,none⟩) n_l Q1.c (rs1.take n_l) p.a p.b p.n p.c p.m p.d mo a_l n_l c_l ps wq ((Uh HL1).1.sle (by simp) (Uh HL0).2.1 (Uh H_a).1.len) ((Uh HL1).1.sle (by simp) (Uh HL0).2.2 (Uh H_a).2.1.len) ((Uh H_a).1.below (Uh HL1).1.bel) ((Uh H_a).2.1.below (Uh HL1).1.bel) (Uh H_a).2.2.sl.2.1 (Uh H_a).2.2.sl.2.2 (Uh H_a).2.2.nil.1 ((Uh HL1).1.slq (by simp) (Uh HL1).2.1 (Uh HL1).2.2.1) (by have:=Uh HBL; omega) ((Uh H_l).1.below (Uh HL1).1.bel) (by have:=Uh HBL; omega) (fun q hq => ((Uh H_l).2.2 q hq).1) (Uh HL1).2.2.2.1 ((Uh HT).below (Uh HL1).1.bel); unfold ratV at K; refine K.mono ?_; clear K; rintro _ wf ⟨rfl,hb⟩; have hK:=(Uh HL1).1.below hb; have f_0:=(ck hK.bel d0); have f_1:=(ck hK.bel d1); have f_2:=(ck hK.bel d2); have HF:=Hd hK; clear hK hb)
   | (go_at_call 11; refine (intactQ_any (Uh HF) (fun q hq => by simp at hq; subst hq; rw [(Uh HL1).2.1,(Uh HL1).2.2.1]; have:=Uh HBL; omega)).mono ?_; rintro _ ws ⟨rfl,hb⟩; have hK:=(Uh HF).below hb; have s_0:=(ck hK.bel d0); have s_1:=(ck hK.bel d1); have s_2:=(ck hK.bel d2); have HI:=Hd hK; clear hK hb)
   | (go_at_call 12; refine (ralive_any ws ((Uh HT).below (Uh HI).bel)).mono ?_; rintro _ wt ⟨rfl,hb⟩; have hK:=(Uh HI).below hb; have t_0:=(ck hK.bel d0); have t_1:=(ck hK.bel d1); have t_2:=(ck hK.bel d2); have HE:=Hd hK; clear hK hb))
 try go_wp2_with fail
 try go_ret
 exact ⟨rfl,(Uh HBW).trans ((Uh HE).bel.mono (Uh HBW).size)⟩

set_option maxRecDepth 100000 in
theorem rationalTerms_door (os : Os) (args : Array Value) : laidMetH Tryz.prog [("math/bits.deBruijn64tab", Rows.laid_math_bits_deBruijn64tab)] ((World.doorLaid Tryz.prog 400 os).forCall (fun _ _ => 0) ⟨#[], args, []⟩).memory :=
 laidMetH_of_parts3 (fuel:=8) (laidMet_of_run' 8 (by kernel_rfl) (by kernel_rfl)) (by kernel_rfl) (by kernel_rfl)

set_option maxRecDepth 100000 in
theorem rationalTerms_lifted (os:Os) (started:os.Started) (H:Type) (enc:TypeId × Value → H) :
  ReturnsInHanded {} Tryz.checked os 4 .any (fun w args => (Rows.rationalTermsSpec.pre enc Tryz.prog Tryz.f4 [] false w args ∧ laidMetH Tryz.prog [("math/bits.deBruijn64tab", Rows.laid_math_bits_deBruijn64tab)] w) ∧ sizedMet enc Tryz.prog Tryz.f4 (OpenSpec.ofChange Rows.rationalTermsSpec) false w args) (Rows.rationalTermsSpec.post enc Tryz.prog Tryz.f4 false true false false) := by
 refine returnsInHanded_of_change_and (C := Tryz.checked) (X := fun w _ => laidMetH Tryz.prog [("math/bits.deBruijn64tab", Rows.laid_math_bits_deBruijn64tab)] w) (fun _ _ _ hh h => h.of_heap hh) law_own started (by kernel_rfl) Tryz.func4
  (ChangeSpec.witness_shaped (enc := enc) (C := Tryz.checked) (os := os) (X := fun w _ => laidMetH Tryz.prog [("math/bits.deBruijn64tab", Rows.laid_math_bits_deBruijn64tab)] w) false (World.doorLaid Tryz.prog 400 os) #[.agg #[.bool false, .slice none 0 0, .slice none 0 0], .int .i64 0, .slice none 0 0] 8 rfl (World.shaped_of_RefB (by kernel_rfl) (by kernel_rfl)) (by kernel_rfl) (by kernel_rfl) (by kernel_rfl) (rationalTerms_door os _)) ?_
 intro W base args ds gs before hval0 hW hcnd hsz hL _
 have hval:∀ (j:Nat) t v,Tryz.f4.params[j]? = some t → args[j]? = some v → Value.okWide Tryz.prog W .any base t v:=hval0
 have hW':=hW
 obtain ⟨p,q,hA0,hV,rfl,hfz,hnd⟩:=hW
 have hA:DataW.TrodAll enc Tryz.prog W 0 (fun _ => true) true Tryz.f4.params.toList args.toList ds p:=hA0
 rw [Tryz.params4] at hA hval hsz
 obtain ⟨v0,vs0,d0,ds0,p0,q0,hargs,rfl,rfl,h0,r0⟩:=trodAll_cons hA
 obtain ⟨v1,vs1,d1,ds1,p1,q1,rfl,rfl,rfl,h1,r1⟩:=trodAll_cons r0
 obtain ⟨v2,vs2,d2,ds2,p2,q2,rfl,rfl,rfl,h2,r2⟩:=trodAll_cons r1
 obtain ⟨rfl,rfl,rfl⟩:=trodAll_nil r2
 obtain rfl:args = #[v0,v1,v2]:=by cases args; simp_all
 obtain ⟨rfl,rfl⟩:=trodVars_none hV
 have k0:=h0
 have lt0:∀ x ∈ p0,x.block < W.heap.size:=by obtain ⟨m,hm⟩:=k0; exact DataW.trod_lt m _ _ _ hm
 have k2:=h2
 have lt2:∀ x ∈ p2,x.block < W.heap.size:=by obtain ⟨m,hm⟩:=k2; exact DataW.trod_lt m _ _ _ hm
 obtain ⟨q0,rfl,ho0⟩:=arg_ratQ (hval 0 25 v0 rfl rfl) h0 (fun k hk => by simpa using List.all_eq_true.1 hsz k (DataW.weights_mem_each (j:=0) rfl rfl k hk))
 obtain ⟨i1,rfl,rfl,rfl,wf1⟩:=open_int Tryz.underlying3 (hval 1 3 v1 rfl rfl) h1
 obtain ⟨a2,n2,c2,rfl⟩:=okWide_slice Tryz.underlying50 (hval 2 50 v2 rfl rfl)
 obtain ⟨ps2,s2,hn2,hp2,hz2⟩:=arg_ratsZ h2 (fun k hk => by simpa using List.all_eq_true.1 hsz k (DataW.weights_mem_each (j:=2) rfl rfl k hk))
 clear hA0 hval0
 have hT:Tab64 W:=by
  rw [MakeChecks.laidMetH_plain _ _ _ (by kernel_rfl)] at hL
  have hI := Lib.tabIs_of_head (k := .u8) (zs := tab64) (rest := []) (show Tryz.prog.globalNamed "math/bits.deBruijn64tab" = some 2 by kernel_rfl) (show (Tryz.prog.globals[2]?).map (·.type) = some 256 by kernel_rfl) Tryz.underlying256 Tryz.underlying5 (by kernel_rfl) (by kernel_rfl) hL
  intro j hj
  exact hI.cell (by kernel_rfl) j hj
 refine (rationalTerms_walk q0 i1 a2 n2 c2 ps2 W ho0 s2 hn2 hp2 hz2 hT).mono fun e W' ⟨he,bel⟩ => ?_
 subst he
 exact ⟨_,rfl,_,_,_,[],_,[],hW',trodAll_mk1 (shut_bool Tryz.underlying4 _),(trodAll_cons_mk (Below.trod law_laid (by kernel_rfl) (of_decide_eq_true (by kernel_rfl)) k0 bel lt0) (trodAll_cons_mk (shut_int Tryz.underlying3 wf1) (trodAll_cons_mk (Below.trod law_laid (by kernel_rfl) (of_decide_eq_true (by kernel_rfl)) k2 bel lt2) trodAll_mk0))),rfl,bel.frame _,fun h => by cases h⟩

theorem rationalTerms_row:Rows.RationalTermsSaid :=
 OpenClaim.holds_of_wide 4 Tryz.f4 rfl rfl rfl rfl rfl rfl rfl ⟨rfl,rfl,rfl,rfl,rfl⟩ rfl rfl rfl rfl rfl (by kernel_rfl) Tryz.func4 (by kernel_rfl)
  (of_decide_eq_true (by kernel_rfl)) (by unfold Func.isWrapper; first | (rw [if_pos (by decide +kernel)]; kernel_rfl) | (rw [if_neg (by decide +kernel)]; exact ⟨rfl,rfl⟩))
  (fun os started H enc _ => rationalTerms_lifted os started H enc)

theorem rationalTerms_holds:Rows.RationalTermsCardSaid :=
 Claim7.holds_tied_plain_at .later [] [.data] true Rows.rationalTermsCard.stood.harness false
  rationalTerms_row (fun _ h => by cases h) (by kernel_rfl) (fun _ h => by cases h) rationalTerms_row_tie rfl ⟨rfl,rfl⟩ (by kernel_rfl) rfl
  (fun f fn hf hfn => by
   obtain rfl : f = 4 := Option.some.inj ((show Tryz.prog.funcNamed "slope/slopelaw2.RationalTerms" = some 4 by kernel_rfl).symm.trans hf) |>.symm
   obtain rfl:fn = Tryz.f4:=(Option.some.inj (Tryz.func4.symm.trans hfn)).symm
   exact ⟨by kernel_rfl,fun j t ht => by
    rw [Tryz.params4] at ht
    have hm:t ∈ [25,3,50]:=by simpa using Array.mem_of_getElem? ht
    have hall:([25,3,50].all fun u => !Tryz.prog.wantsStandIn u) = true:=by kernel_rfl
    exact (show Tryz.prog.wantsStandIn t = false by simpa using List.all_eq_true.1 hall t hm)⟩)
  (by kernel_rfl)
#print axioms rationalTerms_holds
end Go.Proofs.YtgfpfjghdbcihaaGreatDoor
