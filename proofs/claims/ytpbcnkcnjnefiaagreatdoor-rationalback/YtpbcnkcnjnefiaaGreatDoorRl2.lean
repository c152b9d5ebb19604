/- Wir -/
import Derived.Test.YtpbcnkcnjnefiaaGreatDoorWip
import Derived.Test.YtpbcnkcnjnefiaaGreatDoorWiq
import Derived.Test.YtpbcnkcnjnefiaaGreatDoorWij
import Derived.Test.YtpbcnkcnjnefiaaGreatDoorWis
import Derived.Test.YtpbcnkcnjnefiaaGreatDoorWi2
import Derived.ProofKit
import Derived.OpenShut
import Derived.ShutString
import Derived.ChangeOld
import Derived.SizedLaws
import Derived.Test.YtpbcnkcnjnefiaaGreatDoorWik
import Derived.Test.YtpbcnkcnjnefiaaGreatDoorGb
import Derived.Deep.RegionHeld3
import Derived.Test.YtpbcnkcnjnefiaaGreatDoorWic
import Derived.Deep.Strs
import Derived.ChangeArms
namespace Go.Proofs.YtpbcnkcnjnefiaaGreatDoor
open Go.RowKit Go.Deep
set_option linter.unusedVariables false
def AddF (g1:Bool) (x1 y1:List Nat) (g2:Bool) (x2 y2:List Nat):(Bool × List Nat × List Nat) × Int :=
 if MayR g1 x1 y1 && MayR g2 x2 y2 then (if bigN (adN g1 x1 y1 g2 x2 y2) || bigN (adD g1 x1 y1 g2 x2 y2) then ((false,[],[]),2) else (((adS g1 x1 y1 g2 x2 y2).2 && decide (adN g1 x1 y1 g2 x2 y2 ≠ 0),limbs (adN g1 x1 y1 g2 x2 y2),limbs (adD g1 x1 y1 g2 x2 y2)),0)) else ((false,[],[]),40)
theorem ratAdd_any (g1 g2:Bool) (a1 b1 a2 b2:Option Addr) (n1 c1 m1 d1 n2 c2 m2 d2:Nat) (x1 y1 x2 y2:List Nat) (w:World) (hx1:Sl w a1 n1 c1 x1) (hy1:Sl w b1 m1 d1 y1) (hx2:Sl w a2 n2 c2 x2) (hy2:Sl w b2 m2 d2 y2) (ox1:Ok x1) (oy1:Ok y1) (ox2:Ok x2) (oy2:Ok y2) (hT:Tab64 w) :
  Calls Tryz.prog 22 #[ratV g1 a1 n1 c1 b1 m1 d1,ratV g2 a2 n2 c2 b2 m2 d2] w fun e w' => ResR w w' (AddF g1 x1 y1 g2 x2 y2).1.1 (AddF g1 x1 y1 g2 x2 y2).1.2.1 (AddF g1 x1 y1 g2 x2 y2).1.2.2 (AddF g1 x1 y1 g2 x2 y2).2 e:=by
 refine ratAdd_face g1 g2 a1 b1 a2 b2 n1 c1 m1 d1 n2 c2 m2 d2 x1 y1 x2 y2 w hx1 hy1 hx2 hy2 ox1 oy1 ox2 oy2 hT _ _ _ _ (fun hm W hb => ?_) (fun hm => ?_)
 ·have h12:MayR g1 x1 y1 = true ∧ MayR g2 x2 y2 = true:=by simpa using hm
  obtain ⟨ka1,kb1,e1,_,_⟩:=MayR.parts h12.1
  obtain ⟨ka2,kb2,e2,_,_⟩:=MayR.parts h12.2
  refine (ratadd_any g1 g2 a1 b1 a2 b2 n1 c1 m1 d1 n2 c2 m2 d2 x1 y1 x2 y2 W (hx1.below hb) (hy1.below hb) (hx2.below hb) (hy2.below hb) ox1 oy1 ox2 oy2 ka1 kb1 ka2 kb2 e1 e2 (hT.below hb) (by_any W)).mono (fun e w' h => ?_)
  unfold MuPost at h
  unfold AddF
  rw [if_pos hm]
  split at h
  ·rename_i hbig
   rw [if_pos hbig]
   exact h
  ·rename_i hbig
   rw [if_neg hbig]
   exact h
 ·unfold AddF
  rw [hm]
  exact ⟨rfl,rfl,rfl,rfl⟩

def SubF (g1:Bool) (x1 y1:List Nat) (g2:Bool) (x2 y2:List Nat):(Bool × List Nat × List Nat) × Int :=
 if MayR g1 x1 y1 && MayR g2 x2 y2 then (if bigN (adN g1 x1 y1 (!g2) x2 y2) || bigN (adD g1 x1 y1 (!g2) x2 y2) then ((false,[],[]),2) else (((adS g1 x1 y1 (!g2) x2 y2).2 && decide (adN g1 x1 y1 (!g2) x2 y2 ≠ 0),limbs (adN g1 x1 y1 (!g2) x2 y2),limbs (adD g1 x1 y1 (!g2) x2 y2)),0)) else ((false,[],[]),40)
theorem addF_ok {g1 g2:Bool} {x1 y1 x2 y2:List Nat} (h1:MayR g1 x1 y1 = true) (h2:MayR g2 x2 y2 = true) (h0:(AddF g1 x1 y1 g2 x2 y2).2 = 0) :
  ∃ g N D,AddF g1 x1 y1 g2 x2 y2 = ((g,limbs N,limbs D),0) ∧ MayR g (limbs N) (limbs D) = true ∧ 0 < D ∧ nI g N * ((val y1:Int) * (val y2:Int)) = (nI g1 (val x1) * (val y2:Int) + nI g2 (val x2) * (val y1:Int)) * (D:Int):=by
 unfold AddF at h0 ⊢
 rw [h1,h2] at h0 ⊢
 simp only [Bool.and_self,if_true] at h0 ⊢
 split at h0
 ·simp at h0
 ·rename_i hb
  rw [if_neg hb]
  have hb':bigN (adN g1 x1 y1 g2 x2 y2) = false ∧ bigN (adD g1 x1 y1 g2 x2 y2) = false:=by simpa using hb
  obtain ⟨m,e⟩:=addR_may (MayR.parts h1).2.2.2.2 (MayR.parts h2).2.2.2.2 (mayR_pos h1) (mayR_pos h2) hb'.1 hb'.2
  exact ⟨_,_,_,rfl,m,by have:=mayR_pos m; rwa [(limbs_rep _).val] at this,e⟩
theorem mulF_ok {g1 g2:Bool} {x1 y1 x2 y2:List Nat} (h1:MayR g1 x1 y1 = true) (h2:MayR g2 x2 y2 = true) (h0:(MulF g1 x1 y1 g2 x2 y2).2 = 0) :
  ∃ g N D,MulF g1 x1 y1 g2 x2 y2 = ((g,limbs N,limbs D),0) ∧ MayR g (limbs N) (limbs D) = true ∧ 0 < D ∧ nI g N * ((val y1:Int) * (val y2:Int)) = nI g1 (val x1) * nI g2 (val x2) * (D:Int):=by
 unfold MulF at h0 ⊢
 rw [h1,h2] at h0 ⊢
 simp only [Bool.and_self,if_true] at h0 ⊢
 split at h0
 ·simp at h0
 ·rename_i hb
  rw [if_neg hb]
  have hb':bigN (mulN x1 y1 x2 y2) = false ∧ bigN (mulD x1 y1 x2 y2) = false:=by simpa using hb
  obtain ⟨m,e⟩:=mulR_may h1 h2 hb'.1 hb'.2
  exact ⟨_,_,_,rfl,m,by have:=mayR_pos m; rwa [(limbs_rep _).val] at this,e⟩
end Go.Proofs.YtpbcnkcnjnefiaaGreatDoor
namespace Go.Proofs.YtpbcnkcnjnefiaaGreatDoor
open Go.ChangeShapes Go.WideShapes Go.ChangeAt Go.RowKit Go.Deep
set_option linter.unusedVariables false
structure Fct where
 p:World → Prop
 st:∀ {w w':World},Below w.heap.size w w' → p w → p w'
structure Fcts (w0 w:World) (L:List Fct):Prop where
 bel:Below w0.heap.size w0 w
 all:∀ f ∈ L,f.p w
theorem Fcts.step {w0 w w':World} {L:List Fct} (h:Fcts w0 w L) (k:Below w.heap.size w w'):Fcts w0 w' L :=
 ⟨h.bel.trans (k.mono h.bel.size),fun f hf => f.st k (h.all f hf)⟩
theorem Fcts.add {w0 w:World} {L:List Fct} (h:Fcts w0 w L) (f:Fct) (hf:f.p w):Fcts w0 w (f :: L) :=
 ⟨h.bel,fun g hg => by rcases List.mem_cons.1 hg with rfl | hg; exact hf; exact h.all g hg⟩
structure Nm (w:World) (a:Option Addr) (n c:Nat) (x:List Nat) (b:Option Addr) (m d:Nat) (y:List Nat):Prop where
 num:Sl w a n c x
 den:Sl w b m d y
structure Tri (w:World) (R:Nat) (v0 v1 v2:Value):Prop where
 c0:w.cell? ⟨R,0,none⟩ = some v0
 c1:w.cell? ⟨R,1,none⟩ = some v1
 c2:w.cell? ⟨R,2,none⟩ = some v2
 f0:w.frozen? ⟨R,0,none⟩ = false
 f1:w.frozen? ⟨R,1,none⟩ = false
 f2:w.frozen? ⟨R,2,none⟩ = false
 lt:R < w.heap.size
theorem Tri.keep {w w':World} {R:Nat} {v0 v1 v2:Value} (h:Tri w R v0 v1 v2) (k:Below w.heap.size w w'):Tri w' R v0 v1 v2:=by
 have hc:∀ i,w'.cell? ⟨R,i,none⟩ = w.cell? ⟨R,i,none⟩:=fun i => by unfold World.cell?; simp only; rw [k.block _ h.lt]
 have hf:∀ i,w'.frozen? ⟨R,i,none⟩ = w.frozen? ⟨R,i,none⟩:=fun i => by unfold World.frozen?; simp only; rw [k.block _ h.lt]
 exact ⟨(hc 0).trans h.c0,(hc 1).trans h.c1,(hc 2).trans h.c2,(hf 0).trans h.f0,(hf 1).trans h.f1,(hf 2).trans h.f2,Nat.lt_of_lt_of_le h.lt k.size⟩
theorem Tri.made (w:World) (v0 v1 v2:Value) (e:TypeId):Tri (w.alloc (.cells #[v0,v1,v2] e)) w.heap.size v0 v1 v2:=by
 refine ⟨?_,?_,?_,?_,?_,?_,?_⟩ <;> simp
def fN (a:Option Addr) (n c:Nat) (x:List Nat) (b:Option Addr) (m d:Nat) (y:List Nat):Fct:=⟨fun w => Nm w a n c x b m d y,fun k h => ⟨h.num.below k,h.den.below k⟩⟩
def fR (R:Nat) (v0 v1 v2:Value):Fct:=⟨fun w => Tri w R v0 v1 v2,fun k h => h.keep k⟩
def fTab:Fct:=⟨fun w => Tab64 w,fun k h => h.below k⟩
theorem Fcts.n {w0 w:World} {L:List Fct} (h:Fcts w0 w L) (a:Option Addr) (n c:Nat) (x:List Nat) (b:Option Addr) (m d:Nat) (y:List Nat) (hm:fN a n c x b m d y ∈ L):Nm w a n c x b m d y:=h.all _ hm
theorem Fcts.r {w0 w:World} {L:List Fct} (h:Fcts w0 w L) (R:Nat) (v0 v1 v2:Value) (hm:fR R v0 v1 v2 ∈ L):Tri w R v0 v1 v2:=h.all _ hm
theorem Fcts.tab {w0 w:World} {L:List Fct} (h:Fcts w0 w L) (hm:fTab ∈ L):Tab64 w:=h.all _ hm
theorem Fcts.box {w0 w:World} {L:List Fct} (h:Fcts w0 w L) (v0 v1 v2:Value) (e:TypeId):Fcts w0 (w.alloc (.cells #[v0,v1,v2] e)) (fR w.heap.size v0 v1 v2 :: L) :=
 (h.step (bAl)).add (fR w.heap.size v0 v1 v2) (Tri.made _ _ _ _ _)

theorem law_own:ownKnob Tryz.prog.godebug = none:=by kernel_rfl
theorem law_laid:laidOutB Tryz.prog = true:=by kernel_rfl
theorem law_cellsL:Tryz.prog.cellsOf 84 = 1:=by kernel_rfl
theorem law_cellsB:Tryz.prog.cellsOf 4 = 1:=by kernel_rfl
theorem law_cellsN:Tryz.prog.cellsOf 23 = 1:=by kernel_rfl
theorem law_cellsR:Tryz.prog.cellsOf 25 = 3:=by kernel_rfl
end Go.Proofs.YtpbcnkcnjnefiaaGreatDoor
namespace Go.Proofs.YtpbcnkcnjnefiaaGreatDoor
open Go.RowKit Go.Deep
set_option linter.unusedVariables false
structure Nq where
 g:Bool
 a:Option Addr
 n:Nat
 c:Nat
 x:List Nat
 b:Option Addr
 m:Nat
 d:Nat
 y:List Nat
structure SlQ (w:World) (a:Option Addr) (n c:Nat) (ps:List Nq):Prop where
 len:ps.length = n
 le:n ≤ c
 cells:ps = [] ∨ ∃ b off,a = some ⟨b,off,none⟩ ∧ ∀ i p,ps[i]? = some p → w.cell? ⟨b,off + i * 3,none⟩ = some (.bool p.g) ∧ w.cell? ⟨b,off + i * 3 + 1,none⟩ = some (.slice p.a p.n p.c) ∧ w.cell? ⟨b,off + i * 3 + 2,none⟩ = some (.slice p.b p.m p.d)
 each:∀ p ∈ ps,(Sl w p.a p.n p.c p.x ∧ Sl w p.b p.m p.d p.y) ∧ Ok p.x ∧ Ok p.y
theorem SlQ.below {w w':World} {a:Option Addr} {n c:Nat} {ps:List Nq} (h:SlQ w a n c ps) (k:Below w.heap.size w w'):SlQ w' a n c ps:=by
 refine ⟨h.len,h.le,?_,fun p hp => ⟨⟨(h.each p hp).1.1.below k,(h.each p hp).1.2.below k⟩,(h.each p hp).2⟩⟩
 rcases h.cells with e | ⟨b,off,e,hc⟩
 ·exact .inl e
 ·refine .inr ⟨b,off,e,fun i p hp => ?_⟩
  obtain ⟨h1,h2,h3⟩:=hc i p hp
  exact ⟨(ck k h1),(ck k h2),(ck k h3)⟩
theorem SlQ.at' {w:World} {a:Option Addr} {n c:Nat} {ps:List Nq} (h:SlQ w a n c ps) {i:Nat} (hi:i < n) :
  ∃ b off p,a = some ⟨b,off,none⟩ ∧ ps[i]? = some p ∧ (w.cell? ⟨b,off + i * 3,none⟩ = some (.bool p.g) ∧ w.cell? ⟨b,off + i * 3 + 1,none⟩ = some (.slice p.a p.n p.c) ∧ w.cell? ⟨b,off + i * 3 + 2,none⟩ = some (.slice p.b p.m p.d)) ∧ (Sl w p.a p.n p.c p.x ∧ Sl w p.b p.m p.d p.y) ∧ Ok p.x ∧ Ok p.y:=by
 have hl:=h.len
 have hi':i < ps.length:=by omega
 have hp:ps[i]? = some ps[i]:=List.getElem?_eq_getElem hi'
 rcases h.cells with e | ⟨b,off,e,hc⟩
 ·rw [e] at hl; simp at hl; omega
 ·exact ⟨b,off,ps[i],e,hp,hc i _ hp,h.each _ (List.getElem_mem hi')⟩
def mayQ (ps:List Nq):Bool:=ps.all (fun p => MayR p.g p.x p.y)
theorem mayQ_get {ps:List Nq} (h:mayQ ps = true) {i:Nat} {p:Nq} (hp:ps[i]? = some p):MayR p.g p.x p.y = true:=by
 unfold mayQ at h
 rw [List.all_eq_true] at h
 exact h p (List.mem_of_getElem? hp)
theorem mayQ_false {ps:List Nq} {i:Nat} {p:Nq} (hp:ps[i]? = some p) (h:MayR p.g p.x p.y = false):mayQ ps = false:=by
 cases hm:mayQ ps
 ·rfl
 ·have:=mayQ_get hm hp
  rw [h] at this
  cases this
theorem mayQ_true {ps:List Nq} {n:Nat} (hl:ps.length = n) (h:∀ i p,i < n → ps[i]? = some p → MayR p.g p.x p.y = true):mayQ ps = true:=by
 unfold mayQ
 rw [List.all_eq_true]
 intro p hp
 obtain ⟨i,hi,e⟩:=List.getElem_of_mem hp
 exact h i p (by omega) (by rw [List.getElem?_eq_getElem hi,e])

set_option maxRecDepth 100000 in
set_option maxHeartbeats 8000000 in
theorem rmayAll_any (a:Option Addr) (n c:Nat) (ps:List Nq) (w:World) (h:SlQ w a n c ps) (hn:n ≤ 140737488355328) (hT:Tab64 w) :
  Calls Tryz.prog 40 #[.slice a n c] w fun e w' => e = .returned (.bool (mayQ ps)) ∧ Below w.heap.size w w':=by
 have H:=Hd h
 have HL:=Hd h.len
 have HT:=Hd hT
 clear h hT
 go_enter Tryz.func40,Tryz.ntmps40
 go_wp2_with fail
 go_loopw [6,3] (fun iv _ wr => ∃ i:Nat,i ≤ n ∧ iv = .int .i64 (i:Nat) ∧ Below w.heap.size w wr ∧ Hid (∀ j p,j < i → ps[j]? = some p → MayR p.g p.x p.y = true)) (fun iv _ _ => n - (intOf iv).toNat)
 case atStart => exact ⟨0,Nat.zero_le _,rfl,Below.refl _ _,fun j p hj => by omega⟩
 case round =>
  obtain ⟨i,hi,rfl,hbel,HA⟩:=hrel
  by_cases hlt:i < n
  ·have hlt':(i:Int) < (n:Int):=by omega
   obtain ⟨b,off,p,rfl,hp,⟨c0,c1,c2⟩,⟨hs1,hs2⟩,o1,o2⟩:=((Uh H).below hbel).at' hlt
   have KM:=ratMay_any p.g p.a p.b p.n p.c p.m p.d p.x p.y wr hs1 hs2 o1 o2 ((Uh HT).below hbel)
   unfold ratV at KM
   have HP:=Hd hp
   have HB:=Hd hbel
   clear hp hbel hs1 hs2 o1 o2
   cases hm:MayR p.g p.x p.y
   ·rw [hm] at KM
    have KM':=Hd KM
    have HF:=Hd (mayQ_false (Uh HP) hm)
    clear KM hm HA HP
    go_wp2_with fail
    refine (Uh KM').mono ?_
    rintro _ wk ⟨rfl,hw⟩
    have HW:=Hd ((Uh HB).trans (hw.mono (Uh HB).size))
    clear hw
    go_wp2_with fail
    go_ret
    rw [Uh HF]
    exact ⟨rfl,Uh HW⟩
   ·rw [hm] at KM
    have KM':=Hd KM
    have HA2:=Hd (show ∀ j q,j < i + 1 → ps[j]? = some q → MayR q.g q.x q.y = true from fun j q hj hq => by
     by_cases e:j = i
     ·subst e
      rw [Uh HP] at hq
      cases hq
      exact hm
     ·exact Uh HA j q (by omega) hq)
    clear KM hm HA HP
    go_wp2_with fail
    refine (Uh KM').mono ?_
    rintro _ wk ⟨rfl,hw⟩
    have HW:=Hd ((Uh HB).trans (hw.mono (Uh HB).size))
    clear hw
    go_wp2_with fail
    exact ⟨⟨i + 1,by omega,by go_num,Uh HW,Uh HA2⟩,by simp [intOf]; omega⟩
  ·obtain rfl:i = n:=by omega
   have hlt':¬ (i:Int) < (i:Int):=by omega
   have HF:=Hd (mayQ_true (Uh HL) (Uh HA))
   have HB:=Hd hbel
   clear HA hbel
   go_wp2_with fail
   go_ret
   rw [Uh HF]
   exact ⟨rfl,Uh HB⟩

def lowF (neg:Bool) (N D:Nat):(Bool × List Nat × List Nat) × Int :=
 if N = 0 then ((false,[],[1]),0) else if bigN (N / Nat.gcd N D) || bigN (D / Nat.gcd N D) then ((false,[],[]),2) else ((neg,limbs (N / Nat.gcd N D),limbs (D / Nat.gcd N D)),0)
def ResF (w w':World) (r:(Bool × List Nat × List Nat) × Int) (e:Ending):Prop:=ResR w w' r.1.1 r.1.2.1 r.1.2.2 r.2 e
theorem lowF_is {g sg:Bool} {P Q N M:Nat} (hl:Nat.gcd N M = 1) (hM:0 < M) (hQ:0 < Q) (h:nI sg N * (Q:Int) = nI g P * (M:Int)) :
  lowF g P Q = if bigN N || bigN M then ((false,[],[]),2) else ((sg && decide (N ≠ 0),limbs N,limbs M),0):=by
 unfold lowF
 by_cases hP:P = 0
 ·rw [if_pos hP]
  have hz:nI g P = 0:=by rw [hP]; unfold nI; split <;> rfl
  rw [hz,Int.zero_mul] at h
  have hN:N = 0:=by
   rcases Int.mul_eq_zero.1 h with e | e
   ·unfold nI at e; split at e <;> omega
   ·omega
  subst hN
  have hM1:M = 1:=by rw [Nat.gcd_zero_left] at hl; exact hl
  subst hM1
  have e1:bigN 0 = false:=rfl
  have e2:bigN 1 = false:=rfl
  rw [e1,e2]
  simp
  exact ⟨rfl,rfl⟩
 ·rw [if_neg hP]
  have hG:0 < Nat.gcd P Q:=Nat.gcd_pos_of_pos_right _ hQ
  have eP:=div_of (Nat.gcd_dvd_left P Q)
  have eQ:=div_of (Nat.gcd_dvd_right P Q)
  have hq:0 < Q / Nat.gcd P Q:=div_pos_of_dvd (Nat.gcd_dvd_right _ _) hQ
  have hp:P / Nat.gcd P Q ≠ 0:=fun e => hP (by rw [eP,e,Nat.zero_mul])
  have key:nI (sg && decide (N ≠ 0)) N * ((Q / Nat.gcd P Q:Nat):Int) = nI g (P / Nat.gcd P Q) * (M:Int):=by
   rw [nI_and]
   have h2:nI sg N * ((Q / Nat.gcd P Q * Nat.gcd P Q:Nat):Int) = nI g (P / Nat.gcd P Q * Nat.gcd P Q) * (M:Int):=by rw [← eP,← eQ]; exact h
   rw [nI_mul] at h2
   generalize Nat.gcd P Q = G at *
   generalize Q / G = q at *
   generalize P / G = p at *
   have h3:(nI sg N * (q:Int)) * (G:Int) = (nI g p * (M:Int)) * (G:Int):=by
    rw [Int.mul_assoc,← Int.natCast_mul,h2,Int.mul_right_comm]
   exact Int.eq_of_mul_eq_mul_right (by omega) h3
  obtain ⟨r1,r2,r3⟩:=low_one hl (cop_quot hQ) hM hq (by intro e; simp at e; exact e.2) (fun _ => hp) key
  rw [← r2,← r3,← r1]


theorem plus_lowest {g1 g2 g3:Bool} {x1 y1 x2 y2:List Nat} (h1:MayR g1 x1 y1 = true) (h2:MayR g2 x2 y2 = true) (h3:Bool) (e3:nI h3 (val x2) = nI g3 (val x2)) :
  lowF (cmbV g1 (val x1 * val y2) h3 (val x2 * val y1)).2 (cmbV g1 (val x1 * val y2) h3 (val x2 * val y1)).1 (val y1 * val y2) = if bigN (adN g1 x1 y1 g3 x2 y2) || bigN (adD g1 x1 y1 g3 x2 y2) then ((false,[],[]),2) else (((adS g1 x1 y1 g3 x2 y2).2 && decide (adN g1 x1 y1 g3 x2 y2 ≠ 0),limbs (adN g1 x1 y1 g3 x2 y2),limbs (adD g1 x1 y1 g3 x2 y2)),0):=by
 obtain ⟨_,_,_,_,l1⟩:=MayR.parts h1
 obtain ⟨_,_,_,_,l2⟩:=MayR.parts h2
 have p1:=mayR_pos h1
 have p2:=mayR_pos h2
 have hGp:0 < adG y1 y2:=Nat.gcd_pos_of_pos_right _ p2
 have hD:0 < adD g1 x1 y1 g3 x2 y2:=by
  unfold adD adC
  exact Nat.mul_pos (Nat.mul_pos (div_pos_of_dvd (Nat.gcd_dvd_left _ _) p1) (div_pos_of_dvd (Nat.gcd_dvd_right _ _) p2)) (div_pos_of_dvd (Nat.gcd_dvd_right _ _) hGp)
 refine lowF_is (add_low (G:=adG y1 y2) l1 l2 p1 p2 rfl (cmbV_abs g1 g3 _ _)) hD (Nat.mul_pos p1 p2) ?_
 rw [cmbV_val,nI_mul,nI_mul,e3]
 exact add_val (G:=adG y1 y2) rfl p2 (cmbV_val g1 g3 _ _)
theorem radd_F (g1 g2:Bool) (a1 b1 a2 b2:Option Addr) (n1 c1 m1 d1 n2 c2 m2 d2:Nat) (x1 y1 x2 y2:List Nat) (w:World) (hx1:Sl w a1 n1 c1 x1) (hy1:Sl w b1 m1 d1 y1) (hx2:Sl w a2 n2 c2 x2) (hy2:Sl w b2 m2 d2 y2) (ox1:Ok x1) (oy1:Ok y1) (ox2:Ok x2) (oy2:Ok y2) (k1:MayR g1 x1 y1 = true) (k2:MayR g2 x2 y2 = true) (hT:Tab64 w) :
  Calls Tryz.prog 42 #[ratV g1 a1 n1 c1 b1 m1 d1,ratV g2 a2 n2 c2 b2 m2 d2] w fun e w' => ResF w w' (AddF g1 x1 y1 g2 x2 y2) e:=by
 obtain ⟨ka1,kb1,e1,_,_⟩:=MayR.parts k1
 obtain ⟨ka2,kb2,e2,_,_⟩:=MayR.parts k2
 refine (ratadd_any g1 g2 a1 b1 a2 b2 n1 c1 m1 d1 n2 c2 m2 d2 x1 y1 x2 y2 w hx1 hy1 hx2 hy2 ox1 oy1 ox2 oy2 ka1 kb1 ka2 kb2 e1 e2 hT (by_any w)).mono (fun e w' h => ?_)
 unfold MuPost at h
 unfold ResF AddF
 rw [if_pos (by rw [k1,k2]; rfl)]
 split at h
 ·rename_i hbig
  rw [if_pos hbig]
  exact h
 ·rename_i hbig
  rw [if_neg hbig]
  exact h
end Go.Proofs.YtpbcnkcnjnefiaaGreatDoor
namespace Go.Proofs.YtpbcnkcnjnefiaaGreatDoor
open Go.ChangeShapes Go.WideShapes Go.ChangeAt Go.RowKit Go.Deep
set_option linter.unusedVariables false
theorem trod_limbs {H:Type} {enc:TypeId × Value → H} {W:World} {fuel:Nat} {cs:List Value} {x:DataW H × List MemPlace}
  (h:DataW.trod enc Tryz.prog W 0 (fun _ => true) true fuel 23 cs = some x) :
  ∃ a n c xs,cs = [.slice a n c] ∧ Sl W a n c xs ∧ Ok xs:=by
 rcases open_ints Tryz.underlying23 Tryz.underlying84 law_cellsL h with ⟨rfl,_⟩ | ⟨y,n,c,zs,rfl,_,hl,hm,hzl,rfl,hcell,hwz⟩
 ·exact ⟨none,0,0,[],rfl,sl_nil _,Ok.nil⟩
 ·have hzl':zs.length = c:=by simpa using hzl
  refine ⟨some y,n,c,(zs.take n).map Int.toNat,rfl,⟨by simp; omega,hl,hm,?_⟩,fun z hzz => ?_⟩
  ·by_cases h0:n = 0
   ·left; subst h0; simp
   ·right
    obtain ⟨b,off,spot⟩:=y
    have c0:=hcell 0 (by omega)
    have hspot:spot = none:=by simpa [Addr.add] using World.cell?_spot c0
    subst hspot
    refine ⟨b,off,rfl,?_⟩
    intro i hi
    have hi':i < n:=by simp at hi; omega
    have e:(⟨b,off,none⟩:Addr).add i = ⟨b,off + i,none⟩:=by unfold Addr.add; split <;> simp_all
    have hzi:=hcell i (by omega)
    rw [e] at hzi
    rw [hzi]
    have hmem:zs.getD i 0 ∈ zs:=by
     have:zs.getD i 0 = zs[i]'(by omega):=by simp [List.getD,show i < zs.length from by omega]
     rw [this]; exact List.getElem_mem _
    have r:=bounds_u32 (hwz _ hmem)
    have e2:((zs.take n).map Int.toNat).getD i 0 = (zs.getD i 0).toNat:=by
     simp [List.getD,hi',show i < zs.length from by omega]
    rw [e2]
    congr 2
    omega
  ·obtain ⟨u,hu,rfl⟩:=List.mem_map.1 hzz
   have:=bounds_u32 (hwz u (List.mem_of_mem_take hu))
   omega

set_option maxRecDepth 100000 in
theorem arg_rat {H:Type} {enc:TypeId × Value → H} {W:World} {v:Value} {d:DataW H} {p:List MemPlace} {r:Reach} {b0:Nat}
  (hv:Value.okWide Tryz.prog W r b0 25 v) (h:DataW.Trod enc Tryz.prog W 0 (fun _ => true) true 25 v d p) :
  ∃ g a n c x b m d y,v = ratV g a n c b m d ∧ Sl W a n c x ∧ Sl W b m d y ∧ Ok x ∧ Ok y:=by
 obtain ⟨cs,rfl,hsz⟩:=okWide_struct Tryz.underlying25 hv
 obtain ⟨fuel,hf⟩:=h
 obtain ⟨y0,y1,y2,k,hx,hl,h0,h1,h2⟩:=trod_struct3 Tryz.underlying25 hf
 rw [law_cellsR] at hl
 have hcs:(Value.agg cs).cells.toList = cs.toList:=by simp [Value.cells]
 generalize hL:(Value.agg cs).cells.toList = L at hl h0 h1 h2
 match L,hl with
 | [c0,c1,c2],_ =>
  simp only [List.drop_zero,List.drop_succ_cons,law_cellsB,law_cellsN,List.take_succ_cons,List.take_zero] at h0 h1 h2
  obtain ⟨g,e0,_⟩:=DataW.trod_bool Tryz.underlying4 h0
  obtain ⟨a,n,c,xs,e1,k1,k2⟩:=trod_limbs h1
  obtain ⟨b,m,d,ys,e2,k3,k4⟩:=trod_limbs h2
  cases e0
  cases e1
  cases e2
  refine ⟨g,a,n,c,xs,b,m,d,ys,?_,k1,k3,k2,k4⟩
  unfold ratV
  congr 1
  apply Array.ext'
  rw [hcs] at hL
  simpa using hL
end Go.Proofs.YtpbcnkcnjnefiaaGreatDoor
