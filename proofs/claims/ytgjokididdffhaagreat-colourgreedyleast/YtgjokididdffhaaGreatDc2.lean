/- Chg -/
import Derived.Test.YtgjokididdffhaaGreatChf
import Derived.Test.YtgjokididdffhaaGreatDa2
import Derived.Test.YtgjokididdffhaaGreatCxp
import Derived.Test.YtgjokididdffhaaGreatDa4
namespace Go.Proofs.YtgjokididdffhaaGreat
open Go.RowKit Go.Deep
set_option linter.unusedVariables false
def stC:List Int:=[0,2,4,6,8]
def colsC:List Int:=[1,3,0,2,1,3,0,2]
def ordC:List Int:=[0,1,2,3]
theorem ordC_ord:OrdTo ordC 4 4:=by
 refine ⟨fun j hj => ?_,fun i j hij hj => ?_⟩
 ·have:j = 0 ∨ j = 1 ∨ j = 2 ∨ j = 3:=by omega
  rcases this with rfl | rfl | rfl | rfl <;> decide
 ·have h1:j = 1 ∨ j = 2 ∨ j = 3:=by omega
  have h2:i = 0 ∨ i = 1 ∨ i = 2:=by omega
  rcases h1 with rfl | rfl | rfl <;> rcases h2 with rfl | rfl | rfl <;> first | decide | omega
theorem mayC:MayP (4:Nat) (4:Nat) stC colsC:=by
 refine ⟨⟨by decide,by decide,by decide,by decide⟩,fun i _ hi => ?_,fun r hr => ?_⟩
 ·have h:∀ i,i < 4 → stC.getD i 0 ≤ stC.getD (i + 1) 0:=by decide
  exact h i (by simp [stC] at hi; omega)
 ·have h1:∀ r,r < 4 → ∀ i,i < 8 → (stC.getD r 0).toNat ≤ i → i < (stC.getD (r + 1) 0).toNat → 0 ≤ colsC.getD i 0 ∧ colsC.getD i 0 < 4:=by decide
  have h2:∀ r,r < 4 → ∀ i,i < 8 → (stC.getD r 0).toNat < i → i < (stC.getD (r + 1) 0).toNat → colsC.getD (i - 1) 0 < colsC.getD i 0:=by decide
  have h3:∀ r,r < 4 → (stC.getD (r + 1) 0).toNat ≤ 8:=by decide
  have hr4:r < 4:=by simp [stC] at hr; omega
  have:=h3 r hr4
  exact ⟨fun i a b => h1 r hr4 i (by omega) a b,fun i a b => h2 r hr4 i (by omega) a b⟩
theorem graC:GraP stC colsC 4 4:=by
 refine ⟨rfl,fun u v hu hv h => ?_,fun ⟨r,hr,h⟩ => ?_⟩
 ·have k:∀ u,u < 4 → ∀ v,v < 4 → ((u:Nat):Int) ∈ rowL stC colsC v → ((v:Nat):Int) ∈ rowL stC colsC u:=by decide
  exact (rowL_mem mayC hu).1 (k u hu v hv ((rowL_mem mayC hv).2 h))
 ·have k:∀ r,r < 4 → ¬ ((r:Nat):Int) ∈ rowL stC colsC r:=by decide
  exact k r hr ((rowL_mem mayC hr).2 h)
theorem pntC:PntI stC colsC ordC 4 (updC (updC (updC (updC (fun _ => -1) 0 0) 1 1) 2 0) 3 2):=by
 refine ⟨_,2,⟨_,0,⟨_,1,⟨_,0,rfl,⟨?_,?_⟩,rfl⟩,⟨?_,?_⟩,rfl⟩,⟨?_,?_⟩,rfl⟩,⟨?_,?_⟩,rfl⟩ <;> unfold BarP PaP TwP <;> decide
theorem SlI.made (w:World) (xs:List Int) (t:TypeId) (h:xs.length ≤ 128):SlI (w.alloc (.cells (xs.map (fun x => Value.int .i64 x)).toArray t)) (some ⟨w.heap.size,0,none⟩) xs.length xs.length xs:=by
 refine ⟨rfl,Nat.le_refl _,by unfold maxLen; omega,.inr ⟨w.heap.size,0,rfl,fun i hi => ?_⟩⟩
 rw [Nat.zero_add]
 exact (cell_of_block (alloc_block _ _) i).trans (by simp [List.getD,hi])
set_option maxRecDepth 100000 in
set_option maxHeartbeats 8000000 in
theorem ccircle_any (w:World) :
  Calls Tryz.prog 33 #[] w fun e w' => ∃ s c,e = .returned (patV (4:Nat) (4:Nat) (some ⟨s,0,none⟩) 5 5 (some ⟨c,0,none⟩) 8 8) ∧ SlI w' (some ⟨s,0,none⟩) 5 5 stC ∧ SlI w' (some ⟨c,0,none⟩) 8 8 colsC ∧ Below w.heap.size w w':=by
 go_enter Tryz.func33,Tryz.ntmps33
 go_wp2_with fail
 refine bodyPost_ret (by simp [results,Tryz.results33,go_sem]; try rfl) rfl ?_
 have b1:Below w.heap.size w (w.alloc (.cells #[Value.int IntKind.i64 4,Value.int IntKind.i64 4,Value.slice (some ⟨w.heap.size + 1,0,none⟩) 5 5,Value.slice (some ⟨w.heap.size + 1 + 1,0,none⟩) 8 8] 25)):=bAl
 have s1:=SlI.made (w.alloc (.cells #[Value.int IntKind.i64 4,Value.int IntKind.i64 4,Value.slice (some ⟨w.heap.size + 1,0,none⟩) 5 5,Value.slice (some ⟨w.heap.size + 1 + 1,0,none⟩) 8 8] 25)) stC 3 (by decide)
 have e1:(w.alloc (.cells #[Value.int IntKind.i64 4,Value.int IntKind.i64 4,Value.slice (some ⟨w.heap.size + 1,0,none⟩) 5 5,Value.slice (some ⟨w.heap.size + 1 + 1,0,none⟩) 8 8] 25)).heap.size = w.heap.size + 1:=by simp
 generalize w.alloc (.cells #[Value.int IntKind.i64 4,Value.int IntKind.i64 4,Value.slice (some ⟨w.heap.size + 1,0,none⟩) 5 5,Value.slice (some ⟨w.heap.size + 1 + 1,0,none⟩) 8 8] 25) = w1 at *
 rw [e1] at s1
 have b2:Below w.heap.size w1 (w1.alloc (.cells (stC.map (fun x => Value.int .i64 x)).toArray 3)):=(Below.refl _ _).alloc (by omega) _
 have e2:(w1.alloc (.cells (stC.map (fun x => Value.int .i64 x)).toArray 3)).heap.size = w.heap.size + 1 + 1:=by simp [e1]
 have s2:=SlI.made (w1.alloc (.cells (stC.map (fun x => Value.int .i64 x)).toArray 3)) colsC 3 (by decide)
 rw [e2] at s2
 have b3:Below (w.heap.size + 1 + 1) (w1.alloc (.cells (stC.map (fun x => Value.int .i64 x)).toArray 3)) ((w1.alloc (.cells (stC.map (fun x => Value.int .i64 x)).toArray 3)).alloc (.cells (colsC.map (fun x => Value.int .i64 x)).toArray 3)):=(Below.refl _ _).alloc (by omega) _
 exact ⟨w.heap.size + 1,w.heap.size + 1 + 1,rfl,s1.below (by rw [e2]; exact b3),s2,(b1.trans b2).trans (b3.mono (by omega))⟩
theorem numCirc {z:Nat} (h:NumC (csL (updC (updC (updC (updC (fun _ => -1) 0 0) 1 1) 2 0) 3 2) 4) (z:Int)):z = 3:=by
 have k:MaxTo (-1 :: csL (updC (updC (updC (updC (fun _ => -1) 0 0) 1 1) 2 0) 3 2) 4) ((csL (updC (updC (updC (updC (fun _ => -1) 0 0) 1 1) 2 0) 3 2) 4).length + 1) 2:=⟨⟨4,by decide,by decide⟩,by decide⟩
 have:=MaxTo.one h k
 omega
set_option maxRecDepth 100000 in
set_option maxHeartbeats 8000000 in
theorem calive_any (w:World) :
  Calls Tryz.prog 9 #[] w fun e w' => e = .returned (.bool true) ∧ Below w.heap.size w w':=by
 go_enter Tryz.func9,Tryz.ntmps9
 go_wp2_with fail
 refine (ccircle_any w).mono ?_
 rintro _ w1 ⟨s,c,rfl,hs,hc,b1⟩
 have so:=SlI.made w1 ordC 3 (by decide)
 have b2:Below w1.heap.size w1 (w1.alloc (.cells (ordC.map (fun x => Value.int .i64 x)).toArray 3)):=bAl
 have KG:=Hj (cgreedy_star 4 _ _ _ 5 5 8 8 4 stC colsC ordC _ (hs.below b2) (hc.below b2) so (by omega) (by omega) mayC graC ordC_ord)
 have HB2:=Hj (b1.trans (b2.mono b1.size))
 clear hs hc so b1 b2
 unfold patV at *
 go_wp2_with fail
 refine (Uh KG).mono ?_
 rintro _ w3 ⟨g,cs,z,hA⟩
 have e3:=hA.ret
 subst e3
 have ecs:=hA.pnt.one pntC
 have hz:=hA.num
 rw [ecs] at hz
 have ez:=numCirc hz
 subst ez
 have hrow:=(hA.row.sli (by omega))
 rw [ecs] at hrow
 have HB3:=Hj ((Uh HB2).trans (hA.bel.mono (Uh HB2).size))
 have HROW:=Hj (show SlI w3 (some ⟨g,0,none⟩) 4 4 [0,1,0,2] from hrow)
 clear hA ecs hz hrow KG
 go_wp2_with fail
 refine (ccircle_any w3).mono ?_
 rintro _ w4 ⟨s',c',rfl,hs,hc,b4⟩
 have b5:Below w4.heap.size w4 (w4.alloc (.cells (ordC.map (fun x => Value.int .i64 x)).toArray 3)):=bAl
 have KG:=Hj (cgreedy_none 4 _ _ (some ⟨w4.heap.size,0,none⟩) 5 5 8 8 4 4 stC colsC _ (hs.below b5) (hc.below b5) (by omega) (by omega) mayC)
 have b35:=b4.trans (b5.mono b4.size)
 have HR5:=Hj ((Uh HROW).below b35)
 have HB5:=Hj ((Uh HB3).trans (b35.mono (Uh HB3).size))
 clear hs hc b4 b5 b35 HROW
 unfold patV at *
 go_wp2_with fail
 refine (Uh KG).mono ?_
 rintro _ w6 ⟨rfl,b6⟩
 have HR6:=Hj ((Uh HR5).below b6)
 have HB6:=Hj ((Uh HB5).trans (b6.mono (Uh HB5).size))
 clear KG b6 HR5
 go_wp2_with ((go_at_call 11; refine (num12_any _ _).mono ?_; rintro _ _ ⟨rfl,rfl⟩))
 refine (sameInts_eq (some ⟨g,0,none⟩) _ 4 4 4 [0,1,0,2] _ ((Uh HR6).below (bAl)) (SlI.made _ [0,1,0,2] 3 (by decide)) (by omega)).mono ?_
 rintro _ _ ⟨rfl,m,rfl⟩
 go_wp2_with ((go_at_call 11; refine (num12_any _ _).mono ?_; rintro _ _ ⟨rfl,hw⟩; subst hw))
 try go_ret
 exact ⟨rfl,bel_drewN ((Uh HB6).alloc (Uh HB6).size _) m⟩


section
variable {k:Int} {R width n1 n2 m:Nat} {st cols S C:List Int} {Q:Nat → Bool} {G G1 G3:Nat} {wd:Bool}
end
theorem kd_asym1 {R width n1 n2:Nat} {st cols:List Int} (hb1:n1 ≤ 17592186044000) (hb2:n2 ≤ 17592186044000) (hm:MayP (R:Int) (width:Int) st cols) (hne:R ≠ width):KdN 1 (R:Int) (width:Int) n1 n2 st cols 220 :=
 ⟨by decide,(fun a1 a2 c1 c2 W h1 h2 => ctask_err_self 1 92 93 94 false R width 220 (by decide) a1 a2 n1 c1 n2 c2 st cols W h1 h2 hb1 hb2 hm (fun W' => crules_proper W') (fun W' g1 g2 => citself_asym R width a1 a2 n1 c1 n2 c2 st cols W' g1 g2 hb1 hb2 hm (fun h => hne h.1))),(fun a1 a2 c1 c2 W h1 h2 => wthings_bad R width a1 a2 n1 c1 n2 c2 st cols W h1 h2 (by omega) (by omega) hm (fun h => hne h.1))⟩
theorem kd_asym4 {R width n1 n2:Nat} {st cols:List Int} (hb1:n1 ≤ 17592186044000) (hb2:n2 ≤ 17592186044000) (hm:MayP (R:Int) (width:Int) st cols) (hne:R ≠ width):KdN 4 (R:Int) (width:Int) n1 n2 st cols 220 :=
 ⟨by decide,(fun a1 a2 c1 c2 W h1 h2 => ctask_err_self 4 101 102 94 true R width 220 (by decide) a1 a2 n1 c1 n2 c2 st cols W h1 h2 hb1 hb2 hm (fun W' => crules_star W') (fun W' g1 g2 => citself_asym R width a1 a2 n1 c1 n2 c2 st cols W' g1 g2 hb1 hb2 hm (fun h => hne h.1))),(fun a1 a2 c1 c2 W h1 h2 => wthings_bad4 R width a1 a2 n1 c1 n2 c2 st cols W h1 h2 (by omega) (by omega) hm (fun h => hne h.1))⟩
theorem kd_asym5 {R width n1 n2:Nat} {st cols:List Int} (hb1:n1 ≤ 17592186044000) (hb2:n2 ≤ 17592186044000) (hm:MayP (R:Int) (width:Int) st cols) (hne:R ≠ width):KdN 5 (R:Int) (width:Int) n1 n2 st cols 220 :=
 ⟨by decide,(fun a1 a2 c1 c2 W h1 h2 => ctask_err_self 5 103 104 94 true R width 220 (by decide) a1 a2 n1 c1 n2 c2 st cols W h1 h2 hb1 hb2 hm (fun W' => crules_acyc W') (fun W' g1 g2 => citself_asym R width a1 a2 n1 c1 n2 c2 st cols W' g1 g2 hb1 hb2 hm (fun h => hne h.1))),(fun a1 a2 c1 c2 W h1 h2 => wthings_bad5 R width a1 a2 n1 c1 n2 c2 st cols W h1 h2 (by omega) (by omega) hm (fun h => hne h.1))⟩
theorem kd_yes1 (R:Nat) (n1 n2:Nat) (st cols:List Int) (hl1:st.length = n1) (hl2:cols.length = n2) (hb1:n1 ≤ 17592186044000) (hb2:n2 ≤ 17592186044000) (hm:MayP (R:Int) (R:Int) st cols) (hg:GraP st cols R R):∃ Q,KdY 1 R R n1 n2 st cols R st cols Q 49 92 93 94 false:=by
 have hR8:R ≤ 128:=by have:=hm.head.fit; omega
 have hP:∀ (a1 a2:Option Addr) (c1 c2:Nat) W,SlI W a1 n1 c1 st → SlI W a2 n2 c2 cols → Calls Tryz.prog 34 #[.int .i64 1,patV (R:Int) (R:Int) a1 n1 c1 a2 n2 c2] W fun e w' => TkP W w' e 49 92 93 94 false R R a1 n1 c1 a2 n2 c2 R st cols:=fun a1 a2 c1 c2 W h1 h2 =>
  ctask_ok_self 1 92 93 94 false R R R st cols a1 a2 n1 c1 n2 c2 st cols W h1 h2 hb1 hb2 hm (fun W' => crules_proper W') (fun W' g1 g2 => (citself_yes R R a1 a2 n1 c1 n2 c2 st cols W' g1 g2 hb1 hb2 hm hg).mono (fun e w' ⟨he,hb⟩ => by
   subst hl1 hl2
   exact ⟨a1,c1,a2,c2,he,g1.below hb,g2.below hb,hb,fun t ht hne => .inl (h1.block_lt hne t ht),fun t ht hne => .inl (h2.block_lt hne t ht)⟩))
 have hT:∀ (a1 a2:Option Addr) (c1 c2:Nat) W,SlI W a1 n1 c1 st → SlI W a2 n2 c2 cols → Calls Tryz.prog 21 #[.int .i64 1,patV (R:Int) (R:Int) a1 n1 c1 a2 n2 c2] W fun e w' => TgQ W w' e R (R * R) (fun x => tb (Vis R R st cols cols.length x)):=fun a1 a2 c1 c2 W h1 h2 =>
  (wthings_yes R a1 a2 n1 c1 n2 c2 st cols W h1 h2 (by omega) (by omega) hm hg).mono (fun e w' h => tgQ_of h)
 exact ⟨fun x => tb (Vis R R st cols cols.length x),hm,hg,hR8,by omega,by omega,fun u v hu hv => Iff.trans (vis_in hm hu hv) ⟨fun h => ⟨hu,hv,h⟩,fun h => h.2.2⟩,hP,hT⟩
theorem kd_yes4 (R:Nat) (n1 n2:Nat) (st cols:List Int) (hl1:st.length = n1) (hl2:cols.length = n2) (hb1:n1 ≤ 17592186044000) (hb2:n2 ≤ 17592186044000) (hm:MayP (R:Int) (R:Int) st cols) (hg:GraP st cols R R):∃ Q,KdY 4 R R n1 n2 st cols R st cols Q 49 101 102 94 true:=by
 have hR8:R ≤ 128:=by have:=hm.head.fit; omega
 have hP:∀ (a1 a2:Option Addr) (c1 c2:Nat) W,SlI W a1 n1 c1 st → SlI W a2 n2 c2 cols → Calls Tryz.prog 34 #[.int .i64 4,patV (R:Int) (R:Int) a1 n1 c1 a2 n2 c2] W fun e w' => TkP W w' e 49 101 102 94 true R R a1 n1 c1 a2 n2 c2 R st cols:=fun a1 a2 c1 c2 W h1 h2 =>
  ctask_ok_self 4 101 102 94 true R R R st cols a1 a2 n1 c1 n2 c2 st cols W h1 h2 hb1 hb2 hm (fun W' => crules_star W') (fun W' g1 g2 => (citself_yes R R a1 a2 n1 c1 n2 c2 st cols W' g1 g2 hb1 hb2 hm hg).mono (fun e w' ⟨he,hb⟩ => by
   subst hl1 hl2
   exact ⟨a1,c1,a2,c2,he,g1.below hb,g2.below hb,hb,fun t ht hne => .inl (h1.block_lt hne t ht),fun t ht hne => .inl (h2.block_lt hne t ht)⟩))
 have hT:∀ (a1 a2:Option Addr) (c1 c2:Nat) W,SlI W a1 n1 c1 st → SlI W a2 n2 c2 cols → Calls Tryz.prog 21 #[.int .i64 4,patV (R:Int) (R:Int) a1 n1 c1 a2 n2 c2] W fun e w' => TgQ W w' e R (R * R) (fun x => tb (Vis R R st cols cols.length x)):=fun a1 a2 c1 c2 W h1 h2 =>
  (wthings_yes4 R a1 a2 n1 c1 n2 c2 st cols W h1 h2 (by omega) (by omega) hm hg).mono (fun e w' h => tgQ_of h)
 exact ⟨fun x => tb (Vis R R st cols cols.length x),hm,hg,hR8,by omega,by omega,fun u v hu hv => Iff.trans (vis_in hm hu hv) ⟨fun h => ⟨hu,hv,h⟩,fun h => h.2.2⟩,hP,hT⟩
theorem kd_yes5 (R:Nat) (n1 n2:Nat) (st cols:List Int) (hl1:st.length = n1) (hl2:cols.length = n2) (hb1:n1 ≤ 17592186044000) (hb2:n2 ≤ 17592186044000) (hm:MayP (R:Int) (R:Int) st cols) (hg:GraP st cols R R):∃ Q,KdY 5 R R n1 n2 st cols R st cols Q 49 103 104 94 true:=by
 have hR8:R ≤ 128:=by have:=hm.head.fit; omega
 have hP:∀ (a1 a2:Option Addr) (c1 c2:Nat) W,SlI W a1 n1 c1 st → SlI W a2 n2 c2 cols → Calls Tryz.prog 34 #[.int .i64 5,patV (R:Int) (R:Int) a1 n1 c1 a2 n2 c2] W fun e w' => TkP W w' e 49 103 104 94 true R R a1 n1 c1 a2 n2 c2 R st cols:=fun a1 a2 c1 c2 W h1 h2 =>
  ctask_ok_self 5 103 104 94 true R R R st cols a1 a2 n1 c1 n2 c2 st cols W h1 h2 hb1 hb2 hm (fun W' => crules_acyc W') (fun W' g1 g2 => (citself_yes R R a1 a2 n1 c1 n2 c2 st cols W' g1 g2 hb1 hb2 hm hg).mono (fun e w' ⟨he,hb⟩ => by
   subst hl1 hl2
   exact ⟨a1,c1,a2,c2,he,g1.below hb,g2.below hb,hb,fun t ht hne => .inl (h1.block_lt hne t ht),fun t ht hne => .inl (h2.block_lt hne t ht)⟩))
 have hT:∀ (a1 a2:Option Addr) (c1 c2:Nat) W,SlI W a1 n1 c1 st → SlI W a2 n2 c2 cols → Calls Tryz.prog 21 #[.int .i64 5,patV (R:Int) (R:Int) a1 n1 c1 a2 n2 c2] W fun e w' => TgQ W w' e R (R * R) (fun x => tb (Vis R R st cols cols.length x)):=fun a1 a2 c1 c2 W h1 h2 =>
  (wthings_yes5 R a1 a2 n1 c1 n2 c2 st cols W h1 h2 (by omega) (by omega) hm hg).mono (fun e w' h => tgQ_of h)
 exact ⟨fun x => tb (Vis R R st cols cols.length x),hm,hg,hR8,by omega,by omega,fun u v hu hv => Iff.trans (vis_in hm hu hv) ⟨fun h => ⟨hu,hv,h⟩,fun h => h.2.2⟩,hP,hT⟩
def chV (ok good:Bool):Int:=if ok = true then (if good = true then 0 else 241) else 240
theorem chV_of {ok good:Bool} {L:List Int} (h:L = [] ↔ good = true):ckE (if ok = true then L else []) (faE ok) = chV ok good:=by
 cases ok with
 | false => rfl
 | true =>
  cases good with
  | true =>
   have:L = []:=h.2 rfl
   subst this
   rfl
  | false =>
   cases L with
   | nil => exact absurd (h.1 rfl) (by decide)
   | cons a l => rfl
section
variable {S C xs:List Int} {m:Nat}
def PrG (S C:List Int) (m:Nat) (cs:Nat → Int):Prop:=∀ u v,adG S C m u v → cs u ≠ cs v
def StG (S C:List Int) (m:Nat) (cs:Nat → Int):Prop:=PrG S C m cs ∧ ∀ a b c d,¬ Pa4 (adG S C m) cs a b c d
def AcG (S C:List Int) (m:Nat) (cs:Nat → Int):Prop:=PrG S C m cs ∧ ∀ u v,adG S C m u v → FoP (adG S C m) (TwC cs m (cs u) (cs v))
theorem prO_none (hg:GraP S C m m) {cs:Nat → Int} {o:Option (Nat × Nat)} (h:PrO (adG S C m) cs o):o = none ↔ PrG S C m cs:=by
 cases o with
 | none =>
  refine ⟨fun _ u v ha e => ?_,fun _ => rfl⟩
  rcases Nat.lt_trichotomy u v with c | c | c
  ·exact h u v ⟨ha,c,e⟩
  ·subst c; exact adG.ir hg _ ha
  ·exact h v u ⟨adG.sy hg _ _ ha,c,e.symm⟩
 | some p => exact ⟨fun e => (by cases e),fun k => absurd h.1.2.2 (k _ _ h.1.1)⟩
theorem prL_nil' {o:Option (Nat × Nat)}:prL o = [] ↔ o = none:=by
 cases o with
 | none => simp [prL]
 | some p => simp [prL]
theorem paL_nil' {o:Option (Nat × Nat × Nat × Nat)}:paL o = [] ↔ o = none:=by
 cases o with
 | none => simp [paL]
 | some p => simp [paL]
theorem ciL_nil' {o:Option (Int × Int)}:ciL o = [] ↔ o = none:=by
 cases o with
 | none => simp [ciL]
 | some p => simp [ciL]
theorem stL_nil {o:Option (Nat × Nat)} {q:Option (Nat × Nat × Nat × Nat)}:stL o q = [] ↔ o = none ∧ q = none:=by
 cases o with
 | none => exact paL_nil'.trans ⟨fun h => ⟨rfl,h⟩,fun h => h.2⟩
 | some p => exact ⟨fun h => absurd (prL_nil'.1 (show prL (some p) = [] from h)) (by simp),fun h => absurd h.1 (by simp)⟩
theorem cfL_nil {o:Option (Nat × Nat)} {q:Option (Int × Int)}:cfL o q = [] ↔ o = none ∧ q = none:=by
 cases o with
 | none => exact ciL_nil'.trans ⟨fun h => ⟨rfl,h⟩,fun h => h.2⟩
 | some p => exact ⟨fun h => absurd (prL_nil'.1 (show prL (some p) = [] from h)) (by simp),fun h => absurd h.1 (by simp)⟩
theorem ciP_none (hg:GraP S C m m) {q:Option (Int × Int)} (h:BsI (CiP S C m xs) q) (hp:PrG S C m (fun i => xs.getD i 0)):q = none ↔ ∀ u v,adG S C m u v → FoP (adG S C m) (TwC (fun i => xs.getD i 0) m (xs.getD u 0) (xs.getD v 0)):=by
 rw [bsI_none h]
 constructor
 ·intro k u v ha
  apply Classical.byContradiction
  intro hn
  by_cases hl:xs.getD u 0 ≤ xs.getD v 0
  ·exact k _ _ ⟨u,v,ha,rfl,rfl,hl,hn⟩
  ·exact k _ _ ⟨v,u,adG.sy hg _ _ ha,rfl,rfl,by omega,fun f => hn (f.set (fun x hx => hx.swap))⟩
 ·rintro k c d ⟨u,v,ha,e1,e2,_,hn⟩
  subst e1 e2
  exact hn (k u v ha)
end
section
variable {R width n1 n2 n m:Nat} {st cols xs S C:List Int} {Q:Nat → Bool} {G G2 G3:Nat} {wd:Bool}
def ChkP (k rows width:Int) (n1 n2 n:Nat) (st cols xs:List Int) (v:Int):Prop:=∀ (a1 a2 a:Option Addr) (c1 c2 c:Nat) (w:World),SlI w a1 n1 c1 st → SlI w a2 n2 c2 cols → SlI w a n c xs → Calls Tryz.prog 15 #[.int .i64 k,patV rows width a1 n1 c1 a2 n2 c2,.slice a n c] w fun e w' => e = .returned (.int .i64 v) ∧ Below w.heap.size w w'
theorem chk_of {k rows wd':Int} {L:List Int} {er:Int} (h:ChT k rows wd' n1 n2 n st cols xs L er):ChkP k rows wd' n1 n2 n st cols xs (ckE L er):=fun a1 a2 a c1 c2 c w g1 g2 g3 => cCheck_by k rows wd' er L a1 a2 a n1 c1 n2 c2 n c w (fun W b => h.one a1 a2 a c1 c2 c W (g1.below b) (g2.below b) (g3.below b))
theorem chk1_val (hb1:n1 ≤ 17592186044000) (hb2:n2 ≤ 17592186044000) (hn:n ≤ 17592186044000) (hm:MayP (R:Int) (width:Int) st cols) (h:KdY 1 R width n1 n2 st cols m S C Q G 92 G2 G3 wd):ChkP 1 (R:Int) (width:Int) n1 n2 n st cols xs (chV (tb (n = m ∧ MayC xs n)) (tb (PrG S C m (fun i => xs.getD i 0)))):=by
 obtain ⟨o,ho⟩:=PrO.ex (adG S C m) (fun i => xs.getD i 0)
 have:=chk_of (chT_pair (xs:=xs) (by decide) (by decide) (by decide) (by decide) hb1 hb2 hn hm h o ho)
 rwa [chV_of (L:=prL o) (good:=tb (PrG S C m (fun i => xs.getD i 0))) (prL_nil'.trans ((prO_none h.gra ho).trans tb_iff.symm))] at this
theorem chk4_val (hb1:n1 ≤ 17592186044000) (hb2:n2 ≤ 17592186044000) (hn:n ≤ 17592186044000) (hm:MayP (R:Int) (width:Int) st cols) (h:KdY 4 R width n1 n2 st cols m S C Q G 101 G2 G3 wd):ChkP 4 (R:Int) (width:Int) n1 n2 n st cols xs (chV (tb (n = m ∧ MayC xs n)) (tb (StG S C m (fun i => xs.getD i 0)))):=by
 obtain ⟨o,ho⟩:=PrO.ex (adG S C m) (fun i => xs.getD i 0)
 obtain ⟨q,hq⟩:=PaO.ex (adG S C m) (fun i => xs.getD i 0)
 have:=chk_of (chT_star (xs:=xs) (by decide) (by decide) (by decide) hb1 hb2 hn hm h o ho q hq)
 rwa [chV_of (L:=stL o q) (good:=tb (StG S C m (fun i => xs.getD i 0))) (stL_nil.trans ((and_congr (prO_none h.gra ho) (paO_none hq)).trans tb_iff.symm))] at this
theorem chk5_val (hb1:n1 ≤ 17592186044000) (hb2:n2 ≤ 17592186044000) (hn:n ≤ 17592186044000) (hm:MayP (R:Int) (width:Int) st cols) (h:KdY 5 R width n1 n2 st cols m S C Q G 103 G2 G3 wd):ChkP 5 (R:Int) (width:Int) n1 n2 n st cols xs (chV (tb (n = m ∧ MayC xs n)) (tb (AcG S C m (fun i => xs.getD i 0)))):=by
 obtain ⟨o,ho⟩:=PrO.ex (adG S C m) (fun i => xs.getD i 0)
 obtain ⟨q,hq⟩:=CiP.ex S C m xs
 have:=chk_of (chT_acyc (xs:=xs) (by decide) (by decide) (by decide) (by decide) hb1 hb2 hn hm h o ho q hq)
 have key:cfL o q = [] ↔ tb (AcG S C m (fun i => xs.getD i 0)) = true:=by
  rw [cfL_nil,tb_iff]
  constructor
  ·rintro ⟨h1,h2⟩
   have hp:=(prO_none h.gra ho).1 h1
   exact ⟨hp,(ciP_none h.gra hq hp).1 h2⟩
  ·rintro ⟨h1,h2⟩
   exact ⟨(prO_none h.gra ho).2 h1,(ciP_none h.gra hq h1).2 h2⟩
 rwa [chV_of (L:=cfL o q) key] at this
end
section
variable {S C:List Int} {m:Nat} {cs:Nat → Int}
theorem StG.ac (hg:GraP S C m m) (h:StG S C m cs):AcG S C m cs:=by
 refine ⟨h.1,fun u v ha T hT hC x hx => ?_⟩
 obtain ⟨p,q,hpq,hp,hq,a1,a2⟩:=hC x hx
 have sy:=adG.sy hg
 have two:∀ y z,T y → T z → cs y ≠ cs z → ∀ t,T t → cs t = cs y ∨ cs t = cs z:=fun y z hy hz hne t ht => by
  have k1:=(hT y hy).2
  have k2:=(hT z hz).2
  have k3:=(hT t ht).2
  omega
 have n1:=h.1 p x a1
 have n2:=h.1 q x a2
 have e1:cs q = cs p:=by rcases two p x hp hx n1 q hq with e | e; exact e; exact absurd e n2
 obtain ⟨y,z,hyz,hy,hz,b1,b2⟩:=hC p hp
 have key:∀ t,T t → adG S C m t p → t ≠ x → False:=fun t ht hb hne => by
  have n3:=h.1 t p hb
  have e2:cs t = cs x:=by rcases two p x hp hx n1 t ht with e | e; exact absurd e n3; exact e
  have htq:t ≠ q:=fun e => by rw [e,e1] at e2; exact n1 e2
  rcases Nat.lt_or_ge t q with l | l
  ·exact h.2 t p x q ⟨hb,a1,Ne.symm hne,e2.symm,sy _ _ a2,l,Ne.symm hpq,e1⟩
  ·exact h.2 q x p t ⟨a2,sy _ _ a1,hpq,e1.symm,sy _ _ hb,by omega,hne,e2⟩
 by_cases e:y = x
 ·exact key z hz b2 (fun e2 => hyz (e.trans e2.symm))
 ·exact key y hy b1 e
theorem PrG.nn (f:Nat → Nat):PrG S C m (fun i => (f i:Int)) ↔ GdN S C m f:=⟨fun h u v ha e => h u v ha (by show (f u:Int) = (f v:Int); omega),fun h u v ha e => h u v ha (by have e:(f u:Int) = (f v:Int):=e; omega)⟩
theorem StG.nn (f:Nat → Nat):StG S C m (fun i => (f i:Int)) ↔ GdS S C m f:=and_congr (PrG.nn f) Iff.rfl
theorem AcG.nn (hg:GraP S C m m) (f:Nat → Nat):AcG S C m (fun i => (f i:Int)) ↔ GdA S C m f:=by
 refine and_congr (PrG.nn f) ⟨fun h u v ha _ => h u v ha,fun h u v ha => ?_⟩
 by_cases hl:f u ≤ f v
 ·exact h u v ha hl
 ·exact (h v u (adG.sy hg _ _ ha) (by omega)).set (fun x hx => hx.swap)
theorem StG.re {ds:Nat → Int} (h:∀ i j,i < m → j < m → (ds i = ds j ↔ cs i = cs j)):StG S C m ds ↔ StG S C m cs:=by
 have k:∀ (x y:Nat → Int),(∀ i j,i < m → j < m → (x i = x j ↔ y i = y j)) → StG S C m y → StG S C m x:=fun x y hxy ⟨h1,h2⟩ => ⟨fun u v ha e => h1 u v ha ((hxy u v ha.1 ha.2.1).1 e),fun a b c d ⟨p1,p2,p3,p4,p5,p6,p7,p8⟩ => h2 a b c d ⟨p1,p2,p3,(hxy c a p2.2.1 p1.1).1 p4,p5,p6,p7,(hxy d b p5.2.1 p1.2.1).1 p8⟩⟩
 exact ⟨k cs ds (fun i j hi hj => (h i j hi hj).symm),k ds cs h⟩
theorem StG.sub {S' C':List Int} (hs:∀ u v,adG S' C' m u v → adG S C m u v) (h:StG S C m cs):StG S' C' m cs:=⟨fun u v ha => h.1 u v (hs u v ha),fun a b c d ⟨p1,p2,p3,p4,p5,p6⟩ => h.2 a b c d ⟨hs _ _ p1,hs _ _ p2,p3,p4,hs _ _ p5,p6⟩⟩
theorem AcG.sub {S' C':List Int} (hs:∀ u v,adG S' C' m u v → adG S C m u v) (h:AcG S C m cs):AcG S' C' m cs:=⟨fun u v ha => h.1 u v (hs u v ha),fun u v ha T hT hC => h.2 u v (hs u v ha) T hT (fun x hx => by
 obtain ⟨p,q,h1,h2,h3,h4,h5⟩:=hC x hx
 exact ⟨p,q,h1,h2,h3,hs _ _ h4,hs _ _ h5⟩)⟩
end
section
variable {S C S2 C2 xs:List Int} {m i y:Nat} {cs:Nat → Int}
def PaG (S C S2 C2 xs:List Int) (m i:Nat):Prop:=∀ u v,u < m → v < m → (adG S2 C2 m u v ↔ (adG S C m u v ∧ (∃ j,j ≤ i ∧ (xs.getD j 0).toNat = u) ∧ ∃ j,j ≤ i ∧ (xs.getD j 0).toNat = v))
theorem atK_was {u:Nat} (h:atK xs cs i u ≠ -1):∃ j,j < i ∧ (xs.getD j 0).toNat = u:=Classical.byContradiction (fun hn => h (atK_out hn))
theorem upd_was (ho:OrdTo xs m m) (hi:i < m) {u:Nat} (h:atK xs cs i u ≠ -1):updC cs (xs.getD i 0).toNat y u = atK xs cs i u ∧ u ≠ (xs.getD i 0).toNat ∧ ∃ j,j ≤ i ∧ (xs.getD j 0).toNat = u:=by
 obtain ⟨j,hj,e⟩:=atK_was h
 have hne:u ≠ (xs.getD i 0).toNat:=by rw [← e]; exact ord_fresh ho hi j hj
 rw [updC_other _ _ hne,atK_in ⟨j,hj,e⟩]
 exact ⟨rfl,hne,j,by omega,e⟩
theorem PaG.sub (h:PaG S C S2 C2 xs m i):∀ u v,adG S2 C2 m u v → adG S C m u v:=fun u v k => ((h u v k.1 k.2.1).1 k).1
theorem ord_lt (ho:OrdTo xs m m) (hi:i < m):(xs.getD i 0).toNat < m:=by have:=ho.rng i hi; omega
theorem PaG.last (hP:PaG S C S2 C2 xs m i) (ho:OrdTo xs m m) (hi:i < m) {u:Nat} (ha:adG S C m (xs.getD i 0).toNat u) (h:∃ j,j ≤ i ∧ (xs.getD j 0).toNat = u):adG S2 C2 m (xs.getD i 0).toNat u:=(hP _ _ ha.1 ha.2.1).2 ⟨ha,⟨i,Nat.le_refl _,rfl⟩,h⟩
theorem bar_n (hm:MayP (m:Int) (m:Int) S C) (hP:PaG S C S2 C2 xs m i) (ho:OrdTo xs m m) (hi:i < m) (h:BarN S C (atK xs cs i) (xs.getD i 0).toNat y):¬ PrG S2 C2 m (updC cs (xs.getD i 0).toNat y):=fun hp => by
 obtain ⟨u,ha,e⟩:=(barN_ad hm (ord_lt ho hi)).1 h
 obtain ⟨e1,hne,hin⟩:=upd_was (y:=y) ho hi (show atK xs cs i u ≠ -1 by omega)
 exact hp _ _ (hP.last ho hi ha hin) (by rw [updC_same,e1,e])
theorem bar_s (hm:MayP (m:Int) (m:Int) S C) (hg:GraP S C m m) (hP:PaG S C S2 C2 xs m i) (ho:OrdTo xs m m) (hi:i < m) (h:BarP S C (atK xs cs i) (xs.getD i 0).toNat y):¬ StG S2 C2 m (updC cs (xs.getD i 0).toNat y):=fun hp => by
 rcases (barP_ad hm (ord_lt ho hi)).1 h with h | ⟨b,c,d,a1,n1,a2,e2,hdb,a3,e3⟩
 ·exact bar_n hm hP ho hi h hp.1
 have sy:=adG.sy hg
 obtain ⟨ub,nb,ib⟩:=upd_was (y:=y) ho hi n1
 obtain ⟨uc,nc,ic⟩:=upd_was (y:=y) ho hi (show atK xs cs i c ≠ -1 by omega)
 obtain ⟨ud,nd,id⟩:=upd_was (y:=y) ho hi (show atK xs cs i d ≠ -1 by rw [e3]; exact n1)
 have uv:updC cs (xs.getD i 0).toNat y (xs.getD i 0).toNat = (y:Int):=updC_same _ _ _
 obtain ⟨v,hv⟩:∃ v,(xs.getD i 0).toNat = v:=⟨_,rfl⟩
 have iv:∃ j,j ≤ i ∧ (xs.getD j 0).toNat = v:=⟨i,Nat.le_refl _,hv⟩
 rw [hv] at a1 a3 ub nb uc nc ud nd uv hp
 obtain ⟨ds,hds⟩:∃ ds,updC cs v y = ds:=⟨_,rfl⟩
 rw [hds] at ub uc ud uv hp
 have A:∀ {p q:Nat},adG S C m p q → (∃ j,j ≤ i ∧ (xs.getD j 0).toNat = p) → (∃ j,j ≤ i ∧ (xs.getD j 0).toNat = q) → adG S2 C2 m p q:=fun h h1 h2 => (hP _ _ h.1 h.2.1).2 ⟨h,h1,h2⟩
 rcases a3 with a3 | a3
 ·rcases Nat.lt_trichotomy c d with l | l | l
  ·exact hp.2 c b v d ⟨A (sy _ _ a2) ic ib,A (sy _ _ a1) ib iv,Ne.symm nc,by rw [uv,uc,e2],A a3 iv id,l,hdb,by rw [ud,ub,e3]⟩
  ·subst l
   exact hp.1 b c (A a2 ib ic) (by rw [ub,ud,e3])
  ·exact hp.2 d v b c ⟨A (sy _ _ a3) id iv,A a1 iv ib,Ne.symm hdb,by rw [ub,ud,e3],A a2 ib ic,l,nc,by rw [uc,uv,e2]⟩
 ·rcases Nat.lt_trichotomy v d with l | l | l
  ·exact hp.2 v b c d ⟨A a1 iv ib,A a2 ib ic,nc,by rw [uc,uv,e2],A a3 ic id,l,hdb,by rw [ud,ub,e3]⟩
  ·exact nd l.symm
  ·exact hp.2 d c b v ⟨A (sy _ _ a3) id ic,A (sy _ _ a2) ic ib,Ne.symm hdb,by rw [ub,ud,e3],A (sy _ _ a1) ib iv,l,Ne.symm nc,by rw [uv,uc,e2]⟩
theorem bar_a (hm:MayP (m:Int) (m:Int) S C) (hg:GraP S C m m) (hP:PaG S C S2 C2 xs m i) (ho:OrdTo xs m m) (hi:i < m) (h:BarA S C m (atK xs cs i) (xs.getD i 0).toNat y):¬ AcG S2 C2 m (updC cs (xs.getD i 0).toNat y):=fun hp => by
 rcases h with h | ⟨u1,u2,c,hne,a1,a2,e1,e2,hw⟩
 ·exact bar_n hm hP ho hi h hp.1
 have sy:=adG.sy hg
 obtain ⟨x1,n1,i1⟩:=upd_was (y:=y) ho hi (show atK xs cs i u1 ≠ -1 by omega)
 have hF:=hp.2 _ _ (hP.last ho hi a1 i1)
 rw [updC_same,x1,e1] at hF
 have hsub:∀ x,(TwC (atK xs cs i) m (c:Int) (y:Int) x ∨ x = (xs.getD i 0).toNat) → TwC (updC cs (xs.getD i 0).toNat y) m (y:Int) (c:Int) x ∧ ∃ j,j ≤ i ∧ (xs.getD j 0).toNat = x:=fun x hx => by
  rcases hx with hx | rfl
  ·obtain ⟨x2,n2,i2⟩:=upd_was (y:=y) ho hi (show atK xs cs i x ≠ -1 by rcases hx.2 with e | e <;> omega)
   refine ⟨⟨hx.1,?_⟩,i2⟩
   rw [x2]
   exact hx.2.symm
  ·exact ⟨⟨ord_lt ho hi,.inl (updC_same _ _ _)⟩,i,Nat.le_refl _,rfl⟩
 have hF2:FoP (adG S C m) (fun x => TwC (atK xs cs i) m (c:Int) (y:Int) x ∨ x = (xs.getD i 0).toNat):=FoP.ad_congr (fun u v hu hv => by
  have k1:=hsub u hu
  have k2:=hsub v hv
  rw [hP u v k1.1.1 k2.1.1]
  exact ⟨fun h => h.1,fun h => ⟨h,k1.2,k2.2⟩⟩) (hF.set (fun x hx => (hsub x hx).1))
 refine hne ((forest_add (n:=0) (adG.ir hg) sy ⟨List.range m,fun x hx => List.mem_range.2 hx.1⟩ (hF2.set (fun x hx => .inl hx)) (fun hx => ?_)).1 hF2 u1 u2 (sy _ _ a1) (sy _ _ a2) hw)
 have hfr:atK xs cs i (xs.getD i 0).toNat = -1:=atK_out (fun ⟨j,hj,e⟩ => ord_fresh ho hi j hj e)
 have:=hx.2
 rw [hfr] at this
 rcases this with e | e <;> omega
theorem PrG.eq {ds:Nat → Int} (h:∀ i,i < m → ds i = cs i) (k:PrG S C m cs):PrG S C m ds:=fun u v ha e => k u v ha (by rw [← h u ha.1,← h v ha.2.1]; exact e)
theorem StG.eq {ds:Nat → Int} (h:∀ i,i < m → ds i = cs i) (k:StG S C m cs):StG S C m ds:=(StG.re (fun i j hi hj => by rw [h i hi,h j hj])).2 k
theorem AcG.eq {ds:Nat → Int} (h:∀ i,i < m → ds i = cs i) (k:AcG S C m cs):AcG S C m ds:=⟨PrG.eq h k.1,fun u v ha => by
 rw [h u ha.1,h v ha.2.1]
 exact (k.2 u v ha).set (fun x hx => ⟨hx.1,by rw [← h x hx.1]; exact hx.2⟩)⟩
theorem PrG.sub {S' C':List Int} (hs:∀ u v,adG S' C' m u v → adG S C m u v) (h:PrG S C m cs):PrG S' C' m cs:=fun u v ha => h u v (hs u v ha)
end
theorem may_grR {P:Nat → Nat → Prop} {R n:Nat} (hR:R ≤ 128) (hn:n ≤ 128):MayP (R:Int) (n:Int) (grS P n R) (grC P n R):=by
 refine ⟨⟨by omega,by rw [grS_len]; omega,by rw [grS_get R 0 (by omega)]; rfl,by rw [show ((R:Int)).toNat = R by omega]; exact grS_get R R (Nat.le_refl _)⟩,fun i _ hi => ?_,fun r hr => ?_⟩
 ·rw [grS_len] at hi
  rw [grS_get R i (by omega),grS_get R (i + 1) (by omega)]
  simp only [grC,List.length_append]
  omega
 ·rw [grS_len] at hr
  rw [grS_get R r (by omega),grS_get R (r + 1) (by omega)]
  simp only [grC,List.length_append]
  obtain ⟨h1,h2⟩:=grR_ok (P:=P) (u:=r) n
  refine ⟨fun i a b => ?_,fun i a b => ?_⟩
  ·obtain ⟨j,rfl⟩:∃ j,i = (grC P n r).length + j:=⟨i - (grC P n r).length,by omega⟩
   rw [grC_get (by omega) (by omega)]
   exact h1 j (by omega)
  ·obtain ⟨j,rfl⟩:∃ j,i = (grC P n r).length + j:=⟨i - (grC P n r).length,by omega⟩
   rw [show (grC P n r).length + j - 1 = (grC P n r).length + (j - 1) by omega,grC_get (by omega) (by omega),grC_get (by omega) (by omega)]
   exact h2 j (by omega) (by omega)
theorem inC_grR {P:Nat → Nat → Prop} {R n u v:Nat} (hR:R ≤ 128) (hn:n ≤ 128) (hv:v < R) (hu:u < n):InC (grS P n R) (grC P n R) u v ↔ P v u:=by
 rw [← rowL_mem (may_grR hR hn) hv,rowL_gr hv,grR_mem]
 constructor
 ·rintro ⟨j,_,e,h⟩
  rw [show u = j by omega]; exact h
 ·intro h
  exact ⟨u,hu,rfl,h⟩
theorem pzI_le {xs:List Int} {m i u:Nat} (ho:OrdTo xs m m) (hi:i < m) (hu:u < m):pzI xs m u ≤ i ↔ ∃ j,j ≤ i ∧ (xs.getD j 0).toNat = u:=by
 have key:∀ j,j < m → (xs.getD j 0).toNat = u → pzI xs m u = j:=fun j hj e => by
  have:=ho.rng j hj
  exact pzI_at (m:=m) (fun a b h1 h2 => ho.one a b h1 h2) hj (by omega)
 obtain ⟨j,hj,e⟩:=ord_at ho hu
 rw [key j hj e]
 constructor
 ·intro h; exact ⟨j,h,e⟩
 ·rintro ⟨j',h,e'⟩
  have:=key j' (by omega) e'
  have:=key j hj e
  omega
section
variable {R width n1 n2 n m:Nat} {st cols xs S C:List Int} {Q:Nat → Bool} {G G2 G3:Nat} {wd:Bool}
theorem lnL_nil {kk:Nat} {o:Option (Nat × Nat)}:lnL kk o = [] ↔ o = none:=by
 cases o with
 | none => simp [lnL]
 | some p => simp [lnL]
theorem chk2_val (hb1:n1 ≤ 17592186044000) (hb2:n2 ≤ 17592186044000) (hn:n ≤ 17592186044000) (hm:MayP (R:Int) (width:Int) st cols) (h:KdY 2 R width n1 n2 st cols width (grS (CoP st cols R) width width) (grC (CoP st cols R) width width) Q G 96 G2 G3 wd):ChkP 2 (R:Int) (width:Int) n1 n2 n st cols xs (chV (tb (n = width ∧ MayC xs n)) (tb (PrG (grS (CoP st cols R) width width) (grC (CoP st cols R) width width) width (fun i => xs.getD i 0)))):=by
 obtain ⟨o,ho⟩:=PrO.ex (adG (grS (CoP st cols R) width width) (grC (CoP st cols R) width width) width) (fun i => xs.getD i 0)
 obtain ⟨kk,hkk⟩:=line_cols h.m8 ho
 have:=chk_of (chT_cols (xs:=xs) hb1 hb2 hn hm h o ho kk hkk)
 rwa [chV_of (L:=lnL kk o) (lnL_nil.trans ((prO_none h.gra ho).trans tb_iff.symm))] at this
theorem chk3_val (hb1:n1 ≤ 17592186044000) (hb2:n2 ≤ 17592186044000) (hn:n ≤ 17592186044000) (hm:MayP (R:Int) (width:Int) st cols) (h:KdY 3 R width n1 n2 st cols R (grS (RwP st cols width) R R) (grC (RwP st cols width) R R) Q G 99 G2 G3 wd):ChkP 3 (R:Int) (width:Int) n1 n2 n st cols xs (chV (tb (n = R ∧ MayC xs n)) (tb (PrG (grS (RwP st cols width) R R) (grC (RwP st cols width) R R) R (fun i => xs.getD i 0)))):=by
 obtain ⟨o,ho⟩:=PrO.ex (adG (grS (RwP st cols width) R R) (grC (RwP st cols width) R R) R) (fun i => xs.getD i 0)
 obtain ⟨kk,hkk⟩:=line_rows h.m8 ho
 have:=chk_of (chT_rows (xs:=xs) hb1 hb2 hn hm h o ho kk hkk)
 rwa [chV_of (L:=lnL kk o) (lnL_nil.trans ((prO_none h.gra ho).trans tb_iff.symm))] at this
end
def PtY (k:Int) (R W n1 n2:Nat) (st cols:List Int) (m:Nat) (S C:List Int) (Gd:List Int → List Int → (Nat → Int) → Prop) (os:List Int) (i:Nat):Prop:=∃ S' C' S2 C2:List Int,
 (∀ (a1 a2 a:Option Addr) (c1 c2 c:Nat) w,SlI w a1 n1 c1 st → SlI w a2 n2 c2 cols → SlI w a m c os → Calls Tryz.prog 23 #[.int .i64 k,patV (R:Int) (W:Int) a1 n1 c1 a2 n2 c2,.slice a m c,.int .i64 (i:Int)] w fun e w' => GpQ w w' e R W S' C') ∧
 PaG S C S2 C2 os m i ∧
 ∀ (n:Nat) (ys:List Int),n ≤ 17592186044000 → ChkP k (R:Int) (W:Int) S'.length C'.length n S' C' ys (chV (tb (n = m ∧ MayC ys n)) (tb (Gd S2 C2 (fun j => ys.getD j 0))))
theorem grC_small {P:Nat → Nat → Prop} {R n:Nat} (hR:R ≤ 128) (hn:n ≤ 128):(grS P n R).length ≤ 17592186044000 ∧ (grC P n R).length ≤ 17592186044000:=by
 have e1:=grC_len P n R
 have e2:R * n ≤ 128 * 128:=Nat.mul_le_mul hR hn
 rw [grS_len]
 omega
section
variable {n1 n2:Nat} {st cols os:List Int}
theorem pt_self (k:Int) (hk2:(k == 2) = false) (hk3:(k == 3) = false) (R i:Nat) (hb1:n1 ≤ 17592186044000) (hb2:n2 ≤ 17592186044000) (hm:MayP (R:Int) (R:Int) st cols) (hg:GraP st cols R R) (ho:OrdTo os R R) (hi:i < R) (Gd:List Int → List Int → (Nat → Int) → Prop)
  (hC:∀ (S' C':List Int),S'.length ≤ 17592186044000 → C'.length ≤ 17592186044000 → MayP (R:Int) (R:Int) S' C' → GraP S' C' R R → ∀ (n:Nat) (ys:List Int),n ≤ 17592186044000 → ChkP k (R:Int) (R:Int) S'.length C'.length n S' C' ys (chV (tb (n = R ∧ MayC ys n)) (tb (Gd S' C' (fun j => ys.getD j 0))))):PtY k R R n1 n2 st cols R st cols Gd os i:=by
 have hR8:R ≤ 128:=by have:=hm.head.fit; omega
 obtain ⟨Cd,hCd⟩:∃ Cd:Nat → Nat → Prop,Cd = fun r c => r < R ∧ c < R ∧ cdP false false (pzI os R) i r c:=⟨_,rfl⟩
 have hsyP:∀ u v,(InC st cols v u ∧ Cd u v) → (InC st cols u v ∧ Cd v u):=fun u v h => by
  rw [hCd] at h ⊢
  obtain ⟨h1,hu,hv,h2⟩:=h
  refine ⟨hg.2.1 _ _ hv hu h1,hv,hu,?_⟩
  simp only [cdP] at h2 ⊢
  simpa [and_comm] using h2
 have hirP:∀ u,¬ (InC st cols u u ∧ Cd u u):=fun u h => by
  rw [hCd] at h
  exact hg.2.2 ⟨u,h.2.1,h.1⟩
 obtain ⟨hgP,hadP⟩:=gra_gr (P:=fun r c => InC st cols c r ∧ Cd r c) hR8 hsyP hirP
 obtain ⟨s1,s2⟩:=grC_small (P:=fun r c => InC st cols c r ∧ Cd r c) hR8 hR8
 refine ⟨_,_,_,_,fun a1 a2 a c1 c2 c w g1 g2 g3 => wpart_both k hk2 hk3 R R R i a1 a2 a n1 c1 n2 c2 c st cols os w g1 g2 g3 hb1 hb2 hm ho hR8 (Nat.le_refl _) (Nat.le_refl _) Cd (fun r c hr hc => by rw [hCd]; exact ⟨fun h => h.2.2,fun h => ⟨hr,hc,h⟩⟩),fun u v hu hv => ?_,fun n ys hn => hC _ _ s1 s2 (may_gr hR8) hgP n ys hn⟩
 rw [hadP u v hu hv,← pzI_le ho hi hu,← pzI_le ho hi hv,hCd]
 simp only [cdP]
 constructor
 ·rintro ⟨h1,_,_,h2⟩
  exact ⟨⟨hu,hv,h1⟩,by simpa using h2⟩
 ·rintro ⟨h1,h2⟩
  exact ⟨h1.2.2,hu,hv,by simpa using h2⟩
theorem co_gr {R W:Nat} {st cols:List Int} (hW:W ≤ 128) {u v:Nat} (hu:u < W) (hv:v < W):adG (grS (CoP st cols R) W W) (grC (CoP st cols R) W W) W u v ↔ CoP st cols R u v:=(gra_gr (P:=CoP st cols R) hW (fun u v h => ⟨fun e => h.1 e.symm,by obtain ⟨_,j,hj,h1,h2⟩:=h; exact ⟨j,hj,h2,h1⟩⟩) (fun u h => h.1 rfl)).2 u v hu hv
theorem rw_gr {R W:Nat} {st cols:List Int} (hR:R ≤ 128) {u v:Nat} (hu:u < R) (hv:v < R):adG (grS (RwP st cols W) R R) (grC (RwP st cols W) R R) R u v ↔ RwP st cols W u v:=(gra_gr (P:=RwP st cols W) hR (fun u v h => ⟨fun e => h.1 e.symm,by obtain ⟨_,j,hj,h1,h2⟩:=h; exact ⟨j,hj,h2,h1⟩⟩) (fun u h => h.1 rfl)).2 u v hu hv
theorem pt_cols (R W i:Nat) (hb1:n1 ≤ 17592186044000) (hb2:n2 ≤ 17592186044000) (hm:MayP (R:Int) (W:Int) st cols) (ho:OrdTo os W W) (hi:i < W):PtY 2 R W n1 n2 st cols W (grS (CoP st cols R) W W) (grC (CoP st cols R) W W) (fun S C => PrG S C W) os i:=by
 have hR8:R ≤ 128 ∧ W ≤ 128:=by have:=hm.head.fit; omega
 obtain ⟨s1,s2⟩:=grC_small (P:=fun r c => InC st cols c r ∧ pzI os W c ≤ i) hR8.1 hR8.2
 have hmP:MayP (R:Int) (W:Int) (grS (fun r c => InC st cols c r ∧ pzI os W c ≤ i) W R) (grC (fun r c => InC st cols c r ∧ pzI os W c ≤ i) W R):=may_grR hR8.1 hR8.2
 have hin:∀ u r,u < W → r < R → (InC (grS (fun r c => InC st cols c r ∧ pzI os W c ≤ i) W R) (grC (fun r c => InC st cols c r ∧ pzI os W c ≤ i) W R) u r ↔ (InC st cols u r ∧ pzI os W u ≤ i)):=fun u r hu hr => inC_grR hR8.1 hR8.2 hr hu
 obtain ⟨Q,kd⟩:=kd_cols R W _ _ _ _ rfl rfl s1 s2 hmP
 refine ⟨_,_,_,_,fun a1 a2 a c1 c2 c w g1 g2 g3 => wpart_cols 2 (by decide) (by decide) R W W i a1 a2 a n1 c1 n2 c2 c st cols os w g1 g2 g3 hb1 hb2 hm ho hR8.2 (Nat.le_refl _) (fun r c => pzI os W c ≤ i) (fun r c hr hc => by simp [cdP]),fun u v hu hv => ?_,fun n ys hn => chk2_val s1 s2 hn hmP kd⟩
 rw [co_gr hR8.2 hu hv,co_gr hR8.2 hu hv,← pzI_le ho hi hu,← pzI_le ho hi hv]
 constructor
 ·rintro ⟨h1,k,hk,h2,h3⟩
  have q2:=(hin u k hu hk).1 h2
  have q3:=(hin v k hv hk).1 h3
  exact ⟨⟨h1,k,hk,q2.1,q3.1⟩,q2.2,q3.2⟩
 ·rintro ⟨⟨h1,k,hk,h2,h3⟩,q2,q3⟩
  exact ⟨h1,k,hk,(hin u k hu hk).2 ⟨h2,q2⟩,(hin v k hv hk).2 ⟨h3,q3⟩⟩
theorem pt_rows (R W i:Nat) (hb1:n1 ≤ 17592186044000) (hb2:n2 ≤ 17592186044000) (hm:MayP (R:Int) (W:Int) st cols) (ho:OrdTo os R R) (hi:i < R):PtY 3 R W n1 n2 st cols R (grS (RwP st cols W) R R) (grC (RwP st cols W) R R) (fun S C => PrG S C R) os i:=by
 have hR8:R ≤ 128 ∧ W ≤ 128:=by have:=hm.head.fit; omega
 obtain ⟨s1,s2⟩:=grC_small (P:=fun r c => InC st cols c r ∧ pzI os R r ≤ i) hR8.1 hR8.2
 have hmP:MayP (R:Int) (W:Int) (grS (fun r c => InC st cols c r ∧ pzI os R r ≤ i) W R) (grC (fun r c => InC st cols c r ∧ pzI os R r ≤ i) W R):=may_grR hR8.1 hR8.2
 have hin:∀ c r,c < W → r < R → (InC (grS (fun r c => InC st cols c r ∧ pzI os R r ≤ i) W R) (grC (fun r c => InC st cols c r ∧ pzI os R r ≤ i) W R) c r ↔ (InC st cols c r ∧ pzI os R r ≤ i)):=fun c r hc hr => inC_grR hR8.1 hR8.2 hr hc
 obtain ⟨Q,kd⟩:=kd_rows R W _ _ _ _ rfl rfl s1 s2 hmP
 refine ⟨_,_,_,_,fun a1 a2 a c1 c2 c w g1 g2 g3 => wpart_rows 3 (by decide) (by decide) R W R i a1 a2 a n1 c1 n2 c2 c st cols os w g1 g2 g3 hb1 hb2 hm ho hR8.1 (Nat.le_refl _) (fun r c => pzI os R r ≤ i) (fun r c hr hc => by simp [cdP]),fun u v hu hv => ?_,fun n ys hn => chk3_val s1 s2 hn hmP kd⟩
 rw [rw_gr hR8.1 hu hv,rw_gr hR8.1 hu hv,← pzI_le ho hi hu,← pzI_le ho hi hv]
 constructor
 ·rintro ⟨h1,k,hk,h2,h3⟩
  have q2:=(hin k u hk hu).1 h2
  have q3:=(hin k v hk hv).1 h3
  exact ⟨⟨h1,k,hk,q2.1,q3.1⟩,q2.2,q3.2⟩
 ·rintro ⟨⟨h1,k,hk,h2,h3⟩,q2,q3⟩
  exact ⟨h1,k,hk,(hin k u hk hu).2 ⟨h2,q2⟩,(hin k v hk hv).2 ⟨h3,q3⟩⟩
theorem pt_one (R i:Nat) (hb1:n1 ≤ 17592186044000) (hb2:n2 ≤ 17592186044000) (hm:MayP (R:Int) (R:Int) st cols) (hg:GraP st cols R R) (ho:OrdTo os R R) (hi:i < R):PtY 1 R R n1 n2 st cols R st cols (fun S C => PrG S C R) os i :=
 pt_self 1 (by decide) (by decide) R i hb1 hb2 hm hg ho hi _ (fun S' C' s1 s2 hm' hg' n ys hn => by
  obtain ⟨Q,kd⟩:=kd_yes1 R _ _ S' C' rfl rfl s1 s2 hm' hg'
  exact chk1_val s1 s2 hn hm' kd)
theorem pt_star (R i:Nat) (hb1:n1 ≤ 17592186044000) (hb2:n2 ≤ 17592186044000) (hm:MayP (R:Int) (R:Int) st cols) (hg:GraP st cols R R) (ho:OrdTo os R R) (hi:i < R):PtY 4 R R n1 n2 st cols R st cols (fun S C => StG S C R) os i :=
 pt_self 4 (by decide) (by decide) R i hb1 hb2 hm hg ho hi _ (fun S' C' s1 s2 hm' hg' n ys hn => by
  obtain ⟨Q,kd⟩:=kd_yes4 R _ _ S' C' rfl rfl s1 s2 hm' hg'
  exact chk4_val s1 s2 hn hm' kd)
theorem pt_acyc (R i:Nat) (hb1:n1 ≤ 17592186044000) (hb2:n2 ≤ 17592186044000) (hm:MayP (R:Int) (R:Int) st cols) (hg:GraP st cols R R) (ho:OrdTo os R R) (hi:i < R):PtY 5 R R n1 n2 st cols R st cols (fun S C => AcG S C R) os i :=
 pt_self 5 (by decide) (by decide) R i hb1 hb2 hm hg ho hi _ (fun S' C' s1 s2 hm' hg' n ys hn => by
  obtain ⟨Q,kd⟩:=kd_yes5 R _ _ S' C' rfl rfl s1 s2 hm' hg'
  exact chk5_val s1 s2 hn hm' kd)
end
end Go.Proofs.YtgjokididdffhaaGreat
