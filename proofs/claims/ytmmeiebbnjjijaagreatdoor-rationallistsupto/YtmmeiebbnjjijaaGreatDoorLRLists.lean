/- LRLists -/
import Derived.Test.YtmmeiebbnjjijaaGreatDoorRv8
import Derived.Test.YtmmeiebbnjjijaaGreatDoorRuc
import Derived.Test.YtmmeiebbnjjijaaGreatDoorWr1
import Derived.Test.YtmmeiebbnjjijaaGreatDoorRows
import Derived.Test.YtmmeiebbnjjijaaGreatDoorCards
import Derived.Test.YtmmeiebbnjjijaaGreatDoorTie
import Derived.Deep.DeepHandedRow
import Derived.Deep.DeepWitnessRowRef
import Derived.Lib.LaidTab
import Derived.LaidMore
import Derived.Deep.RegionHeld3
namespace Go.Proofs.YtmmeiebbnjjijaaGreatDoor
open Go.ChangeShapes Go.WideShapes Go.ChangeAt Go.RowKit Go.Deep
set_option linter.unusedVariables false
theorem LawQ.begin {w:World} (o:Obj) (ho:o = .cells #[.slice none 0 0,.slice none 0 0,.slice none 0 0,.slice none 0 0,.slice none 0 0,.slice none 0 0,.slice none 0 0,.slice none 0 0,.slice none 0 0,.slice none 0 0,.slice none 0 0,.slice none 0 0,.slice none 0 0,.slice none 0 0,.slice none 0 0,.slice none 0 0,.slice none 0 0,.slice none 0 0,.slice none 0 0,.slice none 0 0] 58) :
  LawQ (w.alloc o) w.heap.size (.slice none 0 0) (.slice none 0 0) (.slice none 0 0) (.slice none 0 0) [] [] w:=by
 have bel:Below w.heap.size w (w.alloc o):=(Below.refl _ _).alloc (Nat.le_refl _) o
 have hr:∀ i,rsQ (.slice none 0 0) (.slice none 0 0) i = .slice none 0 0:=fun i => by unfold rsQ; split <;> (try split) <;> rfl
 subst ho
 refine ⟨⟨⟨_,alloc_block _ _,rfl,rfl,rfl,?_⟩,World.ownsRow_nil _ _ _ _,World.ownsRow_nil _ _ _ _,(fun k hk => by cases hk),(fun e he => by cases he)⟩,bel,Nat.le_refl _,World.ownsRow_nil _ _ _ _,World.ownsRow_nil _ _ _ _,(fun k hk => by cases hk),(fun k hk => by cases hk),(fun e he => by cases he),(fun q hq => by cases hq)⟩
 intro i h2 h20
 rw [hr]
 match i,h20 with
 | 0,_ | 1,_ | 2,_ | 3,_ | 4,_ | 5,_ | 6,_ | 7,_ | 8,_ | 9,_ | 10,_ | 11,_ | 12,_ | 13,_ | 14,_ | 15,_ | 16,_ | 17,_ | 18,_ | 19,_ => rfl
 | n + 20,h => exact absurd h (by omega)

theorem LawQ.slq {w:World} {B:Nat} {v0 v1 u0 u1:Value} {es:List Ent} {qs:List Qn} {w0:World} (h:LawQ w B v0 v1 u0 u1 es qs w0) {Q:Qn} (hQ:Q ∈ qs) {rs:List Nq} {n:Nat} (hp:Q.ps = rs) (hl:rs.length = n + 3):SlQ w (some ⟨Q.b,0,none⟩) n Q.c (rs.take n):=by
 have q:=h.qents Q hQ
 have f:=q.f
 have le:=q.le
 rw [hp] at f le
 rw [← List.take_append_drop n rs] at f
 exact f.pre.sl (by simp; omega) (by omega)

set_option maxRecDepth 100000 in
set_option maxHeartbeats 64000000 in
theorem rationalLists_walk (a_l:Option Addr) (n_l c_l:Nat) (ps:List Nq) (a_m:Option Addr) (n_m c_m:Nat) (qs:List Nq) (w:World) (h_l:SlQ w a_l n_l c_l ps) (h_m:SlQ w a_m n_m c_m qs) (b_l:n_l ≤ 1048576) (b_m:n_m ≤ 1048576) (z_l:∀ p ∈ ps,p.n ≤ 1048576 ∧ p.m ≤ 1048576) (z_m:∀ p ∈ qs,p.n ≤ 1048576 ∧ p.m ≤ 1048576) (hT:Tab64 w) :
  Calls Tryz.prog 5 #[.slice a_l n_l c_l,.slice a_m n_m c_m] w fun e w' => e = .returned (.bool true) ∧ Below w.heap.size w w':=by
 have hS0:=LawQ.begin (w:=w) (.cells #[.slice none 0 0,.slice none 0 0,.slice none 0 0,.slice none 0 0,.slice none 0 0,.slice none 0 0,.slice none 0 0,.slice none 0 0,.slice none 0 0,.slice none 0 0,.slice none 0 0,.slice none 0 0,.slice none 0 0,.slice none 0 0,.slice none 0 0,.slice none 0 0,.slice none 0 0,.slice none 0 0,.slice none 0 0,.slice none 0 0] 58) rfl
 obtain ⟨wg,hwg⟩:∃ x,w.alloc (.cells #[.slice none 0 0,.slice none 0 0,.slice none 0 0,.slice none 0 0,.slice none 0 0,.slice none 0 0,.slice none 0 0,.slice none 0 0,.slice none 0 0,.slice none 0 0,.slice none 0 0,.slice none 0 0,.slice none 0 0,.slice none 0 0,.slice none 0 0,.slice none 0 0,.slice none 0 0,.slice none 0 0,.slice none 0 0,.slice none 0 0] 58) = x:=⟨_,rfl⟩
 rw [hwg] at hS0
 have HS0:=Hd hS0
 have HT:=Hd hT
 have H_l:=Hd (And.intro h_l z_l)
 have H_m:=Hd (And.intro h_m z_m)
 have HBL:=Hd (And.intro b_l b_m)
 clear hS0 hT h_l h_m z_l z_m
 go_enter Tryz.func5,Tryz.ntmps5
 go_wp2_with fail
 refine (grats_any (Uh HS0) a_l n_l c_l ps (Uh H_l).1 (by have:=(Uh HBL).1; omega) (Uh H_l).2 (by simp) (by simp)).mono ?_; rintro _ w1 ⟨Q1,rs1,v0,v1,u0,u1,fs1,rfl,hq1,hl1,hc1,hf1,hL⟩; have HL1:=Hd (And.intro hL (And.intro hq1 (And.intro hl1 (And.intro hc1 hf1)))); clear hL hq1 hl1 hc1 hf1
 go_wp2_with fail
 refine (grats_any (Uh HL1).1 a_m n_m c_m qs (Uh H_m).1 (by have:=(Uh HBL).2; omega) (Uh H_m).2 (by have:=(Uh HL1).2.2.2.2; have:=(Uh HBL).1; simp; omega) (by simp)).mono ?_; rintro _ w2 ⟨Q2,rs2,v2,v3,u2,u3,fs2,rfl,hq2,hl2,hc2,hf2,hL⟩; have HL2:=Hd (And.intro hL (And.intro hq2 (And.intro hl2 (And.intro hc2 hf2)))); clear hL hq2 hl2 hc2 hf2
 go_wp2_with fail
 refine (lists_any (rs1.take n_l) (rs2.take n_m) ps qs (Uh HL1).2.2.2.1.symm (Uh HL2).2.2.2.1.symm (some ⟨Q1.b,0,none⟩) n_l Q1.c (some ⟨Q2.b,0,none⟩) n_m Q2.c a_l n_l c_l a_m n_m c_m w2 ((Uh HL2).1.slq (by simp) (Uh HL1).2.1 (Uh HL1).2.2.1) (by have:=(Uh HBL).1; omega) ((Uh HL2).1.slq (by simp) (Uh HL2).2.1 (Uh HL2).2.2.1) (by have:=(Uh HBL).2; omega) ((Uh H_l).1.below (Uh HL2).1.bel) (by have:=(Uh HBL).1; omega) ((Uh H_m).1.below (Uh HL2).1.bel) (by have:=(Uh HBL).2; omega) ((Uh HT).below (Uh HL2).1.bel)).mono ?_; rintro _ w3 ⟨rfl,hb⟩; have HL3:=Hd ((Uh HL2).1.below hb); clear hb
 go_wp2_with fail
 have HQL:=Hd (show ∀ q ∈ [] ++ [Q1] ++ [Q2],q.ps.length ≤ 140737488355328 by
  intro q hq
  have h1:Q1.ps.length ≤ 140737488355328:=by rw [(Uh HL1).2.1,(Uh HL1).2.2.1]; have:=(Uh HBL).1; omega
  have h2:Q2.ps.length ≤ 140737488355328:=by rw [(Uh HL2).2.1,(Uh HL2).2.2.1]; have:=(Uh HBL).2; omega
  simp at hq
  rcases hq with rfl | rfl
  ·exact h1
  ·exact h2)
 refine (intactQ_any (Uh HL3) (Uh HQL)).mono ?_
 rintro _ w4 ⟨rfl,hb⟩
 have HL4:=Hd ((Uh HL3).below hb)
 clear hb
 go_wp2_with fail
 refine (ralive_any w4 ((Uh HT).below (Uh HL4).bel)).mono ?_; rintro _ w5 ⟨rfl,hb⟩; have HL5:=Hd ((Uh HL4).below hb); clear hb
 try go_wp2_with fail
 try go_ret
 exact ⟨rfl,(Uh HL5).bel⟩

set_option maxRecDepth 100000 in
theorem rationalLists_door (os : Os) (args : Array Value) : laidMetH Tryz.prog [("math/bits.deBruijn64tab", Rows.laid_math_bits_deBruijn64tab)] ((World.doorLaid Tryz.prog 400 os).forCall (fun _ _ => 0) ⟨#[], args, []⟩).memory :=
 laidMetH_of_parts3 (fuel:=8) (laidMet_of_run' 8 (by kernel_rfl) (by kernel_rfl)) (by kernel_rfl) (by kernel_rfl)
theorem rationalLists_reads (os:Os) {H:Type} (enc:TypeId × Value → H):∃ places,DataW.whole enc Tryz.prog ((World.doorLaid Tryz.prog 400 os).forCall (fun _ _ => 0) ⟨#[],#[.slice none 0 0,.slice none 0 0],[]⟩).memory Tryz.f5.params.toList Rows.rationalListsSpec.vars false #[Value.slice none 0 0,Value.slice none 0 0].toList 8 = some ([.nil,.nil],[],places) :=
 ⟨[],by kernel_rfl⟩

set_option maxRecDepth 100000 in
theorem rationalLists_lifted (os:Os) (started:os.Started) (H:Type) (enc:TypeId × Value → H) (F:Stop.Interp) :
  ReturnsInHanded {} Tryz.checked os 5 .any ((Rows.OpenSpec.upto Rows.rationalListsSpec).preRow enc Tryz.prog Tryz.f5 Rows.rationalListsUptoRow.domain false Rows.rationalListsUptoRow.laid) (((Rows.OpenSpec.upto Rows.rationalListsSpec).at F).post enc Tryz.prog Tryz.f5 false true false false):=by
 obtain ⟨places,hx⟩:=rationalLists_reads os enc
 refine returnsInHanded_of_row (C:=Tryz.checked) (s:=Rows.OpenSpec.upto Rows.rationalListsSpec) law_own started (by kernel_rfl) Tryz.func5
  (witness_row_atRef (enc:=enc) (C:=Tryz.checked) false (World.doorLaid Tryz.prog 400 os) #[.slice none 0 0,.slice none 0 0] rfl (by kernel_rfl) (by kernel_rfl) (by kernel_rfl)
   (OpenSpec.preRow_of_cond 8 hx (by kernel_rfl) (fun k hk => by cases hk; kernel_rfl) (by kernel_rfl) (rationalLists_door os _))) ?_
 intro W base args ds gs before hval0 hW _ hcond _ hL _ _
 have hk:=hcond _ rfl
 have hval:∀ (j:Nat) t v,Tryz.f5.params[j]? = some t → args[j]? = some v → Value.okWide Tryz.prog W .any base t v:=hval0
 have hW':=hW
 obtain ⟨p,q,hA0,hV,rfl,hfz,hnd⟩:=hW
 have hA:DataW.TrodAll enc Tryz.prog W 0 (fun _ => true) true Tryz.f5.params.toList args.toList ds p:=hA0
 rw [Tryz.params5] at hA hval
 obtain ⟨v0,vs0,d0,ds0,p0,q0,hargs,rfl,rfl,h0,r0⟩:=trodAll_cons hA
 obtain ⟨v1,vs1,d1,ds1,p1,q1,rfl,rfl,rfl,h1,r1⟩:=trodAll_cons r0
 obtain ⟨rfl,rfl,rfl⟩:=trodAll_nil r1
 obtain rfl:args = #[v0,v1]:=by cases args; simp_all
 obtain ⟨rfl,rfl⟩:=trodVars_none hV
 have hb:Rows.uptoBulk d0 ≤ 1048576 ∧ Rows.uptoBulk d1 ≤ 1048576:=by
  have hb:Rows.uptoBulkAll ([d0,d1] ++ []) ≤ 1048576:=of_decide_eq_true hk
  simp only [List.append_nil,Rows.uptoBulkAll] at hb
  omega
 have k0:=h0
 have lt0:∀ x ∈ p0,x.block < W.heap.size:=by obtain ⟨m,hm⟩:=k0; exact DataW.trod_lt m _ _ _ hm
 have k1:=h1
 have lt1:∀ x ∈ p1,x.block < W.heap.size:=by obtain ⟨m,hm⟩:=k1; exact DataW.trod_lt m _ _ _ hm
 obtain ⟨a0,n0,c0,rfl⟩:=okWide_slice Tryz.underlying67 (hval 0 67 v0 rfl rfl)
 obtain ⟨a1,n1,c1,rfl⟩:=okWide_slice Tryz.underlying67 (hval 1 67 v1 rfl rfl)
 obtain ⟨ps0,s0,hn0,hp0⟩:=arg_rats h0 hb.1
 obtain ⟨ps1,s1,hn1,hp1⟩:=arg_rats h1 hb.2
 clear hA0 hval0
 have hT:Tab64 W:=by
  have hL' : laidMetH Tryz.prog [("math/bits.deBruijn64tab", Rows.laid_math_bits_deBruijn64tab)] W := hL
  rw [MakeChecks.laidMetH_plain _ _ _ (by kernel_rfl)] at hL'
  have hI := Lib.tabIs_of_head (k := .u8) (zs := tab64) (rest := []) (show Tryz.prog.globalNamed "math/bits.deBruijn64tab" = some 1 by kernel_rfl) (show (Tryz.prog.globals[1]?).map (·.type) = some 227 by kernel_rfl) Tryz.underlying227 Tryz.underlying5 (by kernel_rfl) (by kernel_rfl) hL'
  intro j hj
  exact hI.cell (by kernel_rfl) j hj
 refine (rationalLists_walk a0 n0 c0 ps0 a1 n1 c1 ps1 W s0 s1 hn0 hn1 hp0 hp1 hT).mono fun e W' ⟨he,bel⟩ => ?_
 subst he
 exact ⟨_,rfl,_,_,_,[],_,[],hW',trodAll_mk1 (shut_bool Tryz.underlying4 _),(trodAll_cons_mk (Below.trod law_laid (by kernel_rfl) (of_decide_eq_true (by kernel_rfl)) k0 bel lt0) (trodAll_cons_mk (Below.trod law_laid (by kernel_rfl) (of_decide_eq_true (by kernel_rfl)) k1 bel lt1) trodAll_mk0)),rfl,bel.frame _,fun h => by cases h⟩

theorem rationalLists_row:Rows.RationalListsUptoSaid :=
 OpenClaim.holds_of_cond 5 Tryz.f5 rfl rfl rfl rfl rfl rfl rfl ⟨rfl,rfl,rfl,rfl,rfl⟩ rfl rfl rfl rfl rfl (by kernel_rfl) Tryz.func5 (by kernel_rfl)
  (of_decide_eq_true (by kernel_rfl)) (by unfold Func.isWrapper; first | (rw [if_pos (by decide +kernel)]; kernel_rfl) | (rw [if_neg (by decide +kernel)]; exact ⟨rfl,rfl⟩))
  (fun os started H enc _ F => by rw [OpenClaim.pre_eq_preRow]; exact rationalLists_lifted os started H enc F)

theorem rationalLists_holds:Rows.RationalListsUptoCardSaid :=
 Claim7.holds_tied_plain_at .later [] [.data] true Rows.rationalListsUptoCard.stood.harness false
  rationalLists_row (fun _ h => by cases h) (by kernel_rfl) (fun _ h => by cases h) rationalListsUpto_row_tie rfl ⟨rfl,rfl⟩ (by kernel_rfl) rfl
  (fun f fn hf hfn => by
   obtain rfl : f = 5 := Option.some.inj ((show Tryz.prog.funcNamed "slope/slopelaw2.RationalLists" = some 5 by kernel_rfl).symm.trans hf) |>.symm
   obtain rfl:fn = Tryz.f5:=(Option.some.inj (Tryz.func5.symm.trans hfn)).symm
   exact ⟨by kernel_rfl,fun j t ht => by
    rw [Tryz.params5] at ht
    have hm:t ∈ [67,67]:=by simpa using Array.mem_of_getElem? ht
    have hall:([67,67].all fun u => !Tryz.prog.wantsStandIn u) = true:=by kernel_rfl
    exact (show Tryz.prog.wantsStandIn t = false by simpa using List.all_eq_true.1 hall t hm)⟩)
  (by kernel_rfl)
#print axioms rationalLists_holds
end Go.Proofs.YtmmeiebbnjjijaaGreatDoor
