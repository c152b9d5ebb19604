/- Chh -/
import Derived.Test.YtkbcmnjgkmkeaaaGreatCge
import Derived.Test.YtkbcmnjgkmkeaaaGreatCgj
import Derived.Test.YtkbcmnjgkmkeaaaGreatSa3
import Derived.Test.YtkbcmnjgkmkeaaaGreatRows
import Derived.ProofKit
import Derived.OpenShut
import Derived.ShutString
import Derived.ChangeOld
import Derived.Below
import Derived.SizedLaws
namespace Go.Proofs.YtkbcmnjgkmkeaaaGreat
open Go.RowKit Go.Deep
set_option linter.unusedVariables false
theorem numCirc {z:Nat} (h:NumC (csL (updC (updC (updC (updC (fun _ => -1) 0 0) 1 1) 2 0) 3 2) 4) (z:Int)):z = 3:=by
 have k:MaxTo (-1 :: csL (updC (updC (updC (updC (fun _ => -1) 0 0) 1 1) 2 0) 3 2) 4) ((csL (updC (updC (updC (updC (fun _ => -1) 0 0) 1 1) 2 0) 3 2) 4).length + 1) 2:=⟨⟨4,by decide,by decide⟩,by decide⟩
 have:=MaxTo.one h k
 omega
set_option maxRecDepth 100000 in
set_option maxHeartbeats 8000000 in
theorem calive_any (w:World) :
  Calls Tryz.prog 9 #[] w fun e w' => e = .returned (.bool true) ∧ Below w.heap.size w w':=by
 go_enter Tryz.func9,Tryz.ntmps9
 go_wp2_with fail
 refine (ccircle_any w).mono ?_
 rintro _ w1 ⟨s,c,rfl,hs,hc,b1⟩
 have so:=SlI.made w1 ordC 3 (by decide)
 have b2:Below w1.heap.size w1 (w1.alloc (.cells (ordC.map (fun x => Value.int .i64 x)).toArray 3)):=bAl
 have KG:=Hj (cgreedy_star 4 _ _ _ 5 5 8 8 4 stC colsC ordC _ (hs.below b2) (hc.below b2) so (by omega) (by omega) mayC graC ordC_ord)
 have HB2:=Hj (b1.trans (b2.mono b1.size))
 clear hs hc so b1 b2
 unfold patV at *
 go_wp2_with fail
 refine (Uh KG).mono ?_
 rintro _ w3 ⟨g,cs,z,hA⟩
 have e3:=hA.ret
 subst e3
 have ecs:=hA.pnt.one pntC
 have hz:=hA.num
 rw [ecs] at hz
 have ez:=numCirc hz
 subst ez
 have hrow:=(hA.row.sli (by omega))
 rw [ecs] at hrow
 have HB3:=Hj ((Uh HB2).trans (hA.bel.mono (Uh HB2).size))
 have HROW:=Hj (show SlI w3 (some ⟨g,0,none⟩) 4 4 [0,1,0,2] from hrow)
 clear hA ecs hz hrow KG
 go_wp2_with fail
 refine (ccircle_any w3).mono ?_
 rintro _ w4 ⟨s',c',rfl,hs,hc,b4⟩
 have b5:Below w4.heap.size w4 (w4.alloc (.cells (ordC.map (fun x => Value.int .i64 x)).toArray 3)):=bAl
 have KG:=Hj (cgreedy_none 4 _ _ (some ⟨w4.heap.size,0,none⟩) 5 5 8 8 4 4 stC colsC _ (hs.below b5) (hc.below b5) (by omega) (by omega) mayC)
 have b35:=b4.trans (b5.mono b4.size)
 have HR5:=Hj ((Uh HROW).below b35)
 have HB5:=Hj ((Uh HB3).trans (b35.mono (Uh HB3).size))
 clear hs hc b4 b5 b35 HROW
 unfold patV at *
 go_wp2_with fail
 refine (Uh KG).mono ?_
 rintro _ w6 ⟨rfl,b6⟩
 have HR6:=Hj ((Uh HR5).below b6)
 have HB6:=Hj ((Uh HB5).trans (b6.mono (Uh HB5).size))
 clear KG b6 HR5
 go_wp2_with ((go_at_call 7; refine (num12_any _ _).mono ?_; rintro _ _ ⟨rfl,rfl⟩))
 refine (sameInts_eq (some ⟨g,0,none⟩) _ 4 4 4 [0,1,0,2] _ ((Uh HR6).below (bAl)) (SlI.made _ [0,1,0,2] 3 (by decide)) (by omega)).mono ?_
 rintro _ _ ⟨rfl,m,rfl⟩
 go_wp2_with ((go_at_call 7; refine (num12_any _ _).mono ?_; rintro _ _ ⟨rfl,hw⟩; subst hw))
 try go_ret
 exact ⟨rfl,bel_drewN ((Uh HB6).alloc (Uh HB6).size _) m⟩
end Go.Proofs.YtkbcmnjgkmkeaaaGreat
namespace Go.Proofs.YtkbcmnjgkmkeaaaGreat
open Go.ChangeShapes Go.WideShapes Go.ChangeAt Go.RowKit Go.Deep
set_option linter.unusedVariables false
theorem law_bytesI:Tryz.prog.bytesOf 3 = 8:=by kernel_rfl
theorem law_cellsI:Tryz.prog.cellsOf 3 = 1:=by kernel_rfl
theorem trod_intsZ {H:Type} {enc:TypeId × Value → H} {W:World} {fuel:Nat} {cs:List Value} {x:DataW H × List MemPlace}
  (h:DataW.trod enc Tryz.prog W 0 (fun _ => true) true fuel 22 cs = some x) (hz:∀ k ∈ x.1.weights Tryz.prog 22,k ≤ reachBytes) :
  ∃ a n c xs,cs = [.slice a n c] ∧ SlI W a n c xs ∧ n ≤ 17592186044000:=by
 rcases open_ints Tryz.underlying22 Tryz.underlying3 law_cellsI h with ⟨rfl,_⟩ | ⟨y,n,c,zs,rfl,_,hl,hm,hzl,rfl,hcell,hwz⟩
 ·exact ⟨none,0,0,[],rfl,SlI.nil _,Nat.zero_le _⟩
 ·have hzl':zs.length = c:=by simpa using hzl
  have hb:=hz (((lits (H:=H) .i64 (zs.take n)).length + (lits (H:=H) .i64 (zs.drop n)).length) * Tryz.prog.bytesOf 3) (by simp [DataW.weights,Tryz.underlying22])
  have hlen:(lits (H:=H) .i64 (zs.take n)).length + (lits (H:=H) .i64 (zs.drop n)).length = c:=by
   simp [lits]; omega
  rw [hlen,law_bytesI] at hb
  unfold reachBytes at hb
  refine ⟨some y,n,c,zs.take n,rfl,⟨by simp; omega,hl,hm,?_⟩,by omega⟩
  by_cases h0:n = 0
  ·left; subst h0; simp
  ·right
   obtain ⟨b,off,spot⟩:=y
   have c0:=hcell 0 (by omega)
   have hspot:spot = none:=by simpa [Addr.add] using World.cell?_spot c0
   subst hspot
   refine ⟨b,off,rfl,?_⟩
   intro i hi
   have hi':i < n:=by simp at hi; omega
   have e:(⟨b,off,none⟩:Addr).add i = ⟨b,off + i,none⟩:=by unfold Addr.add; split <;> simp_all
   have hzi:=hcell i (by omega)
   rw [e] at hzi
   rw [hzi]
   have e2:(zs.take n).getD i 0 = zs.getD i 0:=by
    simp [List.getD,hi',show i < zs.length from by omega]
   rw [e2]
end Go.Proofs.YtkbcmnjgkmkeaaaGreat
