/- Rg1 -/
import Derived.Test.YtlolnaegfponeaaGreatDoorRl2
import Derived.Test.YtlolnaegfponeaaGreatDoorFo1
import Derived.Test.YtlolnaegfponeaaGreatDoorRv3
import Derived.Deep.RegionHeld3
import Derived.Test.YtlolnaegfponeaaGreatDoorRz9
import Derived.Test.YtlolnaegfponeaaGreatDoorRz2
import Derived.Test.YtlolnaegfponeaaGreatDoorRz3
namespace Go.Proofs.YtlolnaegfponeaaGreatDoor
open Go.ChangeShapes Go.WideShapes Go.ChangeAt Go.RowKit Go.Deep
set_option linter.unusedVariables false
theorem trod_limbsZ {H:Type} {enc:TypeId × Value → H} {W:World} {fuel:Nat} {cs:List Value} {x:DataW H × List MemPlace}
  (h:DataW.trod enc Tryz.prog W 0 (fun _ => true) true fuel 23 cs = some x) (hz:∀ k ∈ x.1.weights Tryz.prog 23,k ≤ reachBytes) :
  ∃ a n c xs,cs = [.slice a n c] ∧ Sl W a n c xs ∧ Ok xs ∧ n ≤ 35184372088000 ∧ (a = none → c = 0):=by
 rcases open_ints Tryz.underlying23 Tryz.underlying43 law_cellsL h with ⟨rfl,_⟩ | ⟨y,n,c,zs,rfl,_,hl,hm,hzl,rfl,hcell,hwz⟩
 ·exact ⟨none,0,0,[],rfl,sl_nil _,Ok.nil,Nat.zero_le _,fun _ => rfl⟩
 ·have hzl':zs.length = c:=by simpa using hzl
  have hb:=hz (((lits (H:=H) .u32 (zs.take n)).length + (lits (H:=H) .u32 (zs.drop n)).length) * Tryz.prog.bytesOf 43) (by simp [DataW.weights,Tryz.underlying23])
  have hlen:(lits (H:=H) .u32 (zs.take n)).length + (lits (H:=H) .u32 (zs.drop n)).length = c:=by
   simp [lits]; omega
  rw [hlen,law_bytesL] at hb
  unfold reachBytes at hb
  refine ⟨some y,n,c,(zs.take n).map Int.toNat,rfl,⟨by simp; omega,hl,hm,?_⟩,fun z hzz => ?_,by omega,fun h => by cases h⟩
  ·by_cases h0:n = 0
   ·left; subst h0; simp
   ·right
    obtain ⟨b,off,spot⟩:=y
    have c0:=hcell 0 (by omega)
    have hspot:spot = none:=by simpa [Addr.add] using World.cell?_spot c0
    subst hspot
    refine ⟨b,off,rfl,?_⟩
    intro i hi
    have hi':i < n:=by simp at hi; omega
    have e:(⟨b,off,none⟩:Addr).add i = ⟨b,off + i,none⟩:=by unfold Addr.add; split <;> simp_all
    have hzi:=hcell i (by omega)
    rw [e] at hzi
    rw [hzi]
    have hmem:zs.getD i 0 ∈ zs:=by
     have:zs.getD i 0 = zs[i]'(by omega):=by simp [List.getD,show i < zs.length from by omega]
     rw [this]; exact List.getElem_mem _
    have r:=bounds_u32 (hwz _ hmem)
    have e2:((zs.take n).map Int.toNat).getD i 0 = (zs.getD i 0).toNat:=by
     simp [List.getD,hi',show i < zs.length from by omega]
    rw [e2]
    congr 2
    omega
  ·obtain ⟨u,hu,rfl⟩:=List.mem_map.1 hzz
   have:=bounds_u32 (hwz u (List.mem_of_mem_take hu))
   omega

set_option maxRecDepth 100000 in
theorem arg_ratZ {H:Type} {enc:TypeId × Value → H} {W:World} {v:Value} {d:DataW H} {p:List MemPlace} {r:Reach} {b0:Nat}
  (hv:Value.okWide Tryz.prog W r b0 25 v) (h:DataW.Trod enc Tryz.prog W 0 (fun _ => true) true 25 v d p) (hz:∀ k ∈ d.weights Tryz.prog 25,k ≤ reachBytes) :
  ∃ g a n c x b m d y,v = ratV g a n c b m d ∧ Sl W a n c x ∧ Sl W b m d y ∧ Ok x ∧ Ok y ∧ (n ≤ 35184372088000 ∧ m ≤ 35184372088000) ∧ (a = none → c = 0) ∧ (b = none → d = 0):=by
 obtain ⟨cs,rfl,hsz⟩:=okWide_struct Tryz.underlying25 hv
 obtain ⟨fuel,hf⟩:=h
 obtain ⟨y0,y1,y2,k,hx,hl,h0,h1,h2⟩:=trod_struct3 Tryz.underlying25 hf
 rw [law_cellsR] at hl
 have hcs:(Value.agg cs).cells.toList = cs.toList:=by simp [Value.cells]
 generalize hL:(Value.agg cs).cells.toList = L at hl h0 h1 h2
 match L,hl with
 | [c0,c1,c2],_ =>
  simp only [List.drop_zero,List.drop_succ_cons,law_cellsB,law_cellsN,List.take_succ_cons,List.take_zero] at h0 h1 h2
  obtain ⟨g,e0,e0'⟩:=DataW.trod_bool Tryz.underlying4 h0
  cases hx
  obtain ⟨a,n,c,xs,e1,k1,k2,k5,k7⟩:=trod_limbsZ h1 (fun k hk => hz k (by simp [DataW.weights,DataW.weightsEach,Tryz.underlying25,hk]))
  obtain ⟨b,m,d,ys,e2,k3,k4,k6,k8⟩:=trod_limbsZ h2 (fun k hk => hz k (by simp [DataW.weights,DataW.weightsEach,Tryz.underlying25,hk]))
  cases e0
  cases e1
  cases e2
  refine ⟨g,a,n,c,xs,b,m,d,ys,?_,k1,k3,k2,k4,⟨k5,k6⟩,k7,k8⟩
  unfold ratV
  congr 1
  apply Array.ext'
  rw [hcs] at hL
  simpa using hL

theorem LawSt.natC {w:World} {B:Nat} {v0 v1:Value} {es:List Ent} {w0:World} {L:List Pc} (h:LawSt w B v0 v1 es w0 L) (p:Pc) (hp:p ∈ L) (hn:p.n ≤ 35184372088000) (he:es.length ≤ 1000000000000) :
  Calls Tryz.prog 58 #[.pointer (some ⟨B,0,none⟩),.slice p.a p.n p.c] w fun e w' => ∃ v0' v1' E,e = .returned (.slice (some ⟨Ent.b E,0,none⟩) p.n E.c) ∧ LawSt w' B v0' v1' (es ++ [E]) w0 (⟨some ⟨E.b,0,none⟩,p.n,E.c,p.xs⟩ :: L) ∧ w.heap.size ≤ E.b ∧ Chg (Own B v0 v1) w w' ∧ ∀ k,k < w.heap.size → ¬ Own B v0 v1 k → ¬ Own B v0' v1' k:=by
 refine (gnat_any B v0 v1 es p.a p.n p.c p.xs w h.giv (h.all p hp).sl hn he).mono ?_
 rintro e w' ⟨v0',v1',E,rfl,hxs,hge,hg,hc,hsafe⟩
 refine ⟨v0',v1',E,rfl,⟨hg,?_,h.base,?_⟩,hge,hc,hsafe⟩
 ·refine h.bel.trans (hc.below h.bel.size ?_)
  intro k hk ho
  have:=h.giv.own_ge ho
  have:=h.base
  omega
 ·intro q hq
  rcases List.mem_cons.1 hq with rfl | hq
  ·have E1:=hg.ents E (by simp)
   have:=E1.sl.pre (n:=p.n) (by rw [hxs]; exact (h.all p hp).sl.len) (by rfl)
   rw [hxs] at this
   exact ⟨this,fun x hx _ => by cases hx; exact E1.s⟩
  ·have K:=h.all q hq
   refine ⟨K.sl.chg hc K.safe,?_⟩
   intro x hx hne
   exact hsafe _ (K.sl.block_lt hne x hx) (K.safe x hx hne)

theorem EntOk.ne {w:World} {B:Nat} {v0 v1:Value} {e:Ent} (h:EntOk w B v0 v1 e) {R:Nat} {b:Bool} (hR:w.cell? ⟨R,0,none⟩ = some (.bool b)):e.b ≠ R ∧ e.b0 ≠ R:=by
 have key:∀ (g n c:Nat) (xs:List Nat),Sl w (some ⟨g,0,none⟩) n c xs → xs ≠ [] → g ≠ R:=by
  intro g n c xs hs hne hg
  obtain ⟨b',off',e',hc⟩:=hs.cells.resolve_left hne
  cases e'
  have:=hc 0 (List.length_pos_iff.2 hne)
  rw [Nat.zero_add,hg,hR] at this
  cases this
 exact ⟨key _ _ _ _ h.sl (by simp [marks]),key _ _ _ _ h.sl0 (by simp [marks])⟩

theorem LawSt.setR {w w':World} {B:Nat} {v0 v1:Value} {es:List Ent} {w0:World} {L:List Pc} (h:LawSt w B v0 v1 es w0 L) {R:Nat} {b:Bool} (hR:w.cell? ⟨R,0,none⟩ = some (.bool b)) (hc:Chg (fun j => j = R) w w') (hw:w0.heap.size ≤ R) (hO:¬ Own B v0 v1 R) (hL:∀ p ∈ L,∀ x,p.a = some x → p.xs ≠ [] → x.block ≠ R) :
  LawSt w' B v0 v1 es w0 L:=by
 refine ⟨h.giv.chg hc (fun e => hO (by rw [← e]; exact .inl rfl)) (fun k hk e => hO (by rw [← e]; exact .inr (.inl hk))) (fun k hk e => hO (by rw [← e]; exact .inr (.inr hk))) (fun e he => (h.giv.ents e he).ne hR),h.bel.trans (hc.below h.bel.size (fun k hk => by omega)),h.base,?_⟩
 intro p hp
 have K:=h.all p hp
 exact ⟨K.sl.chg hc (fun x hx hne => hL p hp x hx hne),K.safe⟩
end Go.Proofs.YtlolnaegfponeaaGreatDoor
namespace Go.Proofs.YtlolnaegfponeaaGreatDoor
open Go.RowKit Go.Deep
set_option linter.unusedVariables false
theorem Tri.chgW {S:Nat → Prop} {w w':World} {R:Nat} {v0 v1 v2:Value} (h:Tri w R v0 v1 v2) (k:Chg S w w') (hs:¬ S R):Tri w' R v0 v1 v2:=by
 have hf:∀ i,w'.frozen? ⟨R,i,none⟩ = w.frozen? ⟨R,i,none⟩:=fun i => World.frozen?_of_block (w:=w) (k.block R h.lt hs)
 exact ⟨k.cell hs h.c0,k.cell hs h.c1,k.cell hs h.c2,(hf 0).trans h.f0,(hf 1).trans h.f1,(hf 2).trans h.f2,Nat.lt_of_lt_of_le h.lt k.size⟩
set_option maxRecDepth 100000 in
set_option maxHeartbeats 16000000 in
theorem like_any (g1:Bool) (a1 b1 a2 b2:Option Addr) (n1 c1 m1 d1 n2 c2 m2 d2:Nat) (x1 y1:List Nat) (er:Int) (w:World) (hx1:Sl w a1 n1 c1 x1) (hy1:Sl w b1 m1 d1 y1) (hx2:Sl w a2 n2 c2 x1) (hy2:Sl w b2 m2 d2 y1) :
  Calls Tryz.prog 25 #[ratV g1 a1 n1 c1 b1 m1 d1,.int .i64 er,ratV g1 a2 n2 c2 b2 m2 d2,.int .i64 er] w fun e w' => e = .returned (.bool true) ∧ Below w.heap.size w w':=by
 have bx:=Box.made w g1 a1 n1 c1 b1 m1 d1
 obtain ⟨wa,hwa⟩:∃ wa,ratBox w g1 a1 n1 c1 b1 m1 d1 = wa:=⟨_,rfl⟩
 rw [hwa] at bx
 have by_:=Box.made wa g1 a2 n2 c2 b2 m2 d2
 obtain ⟨wb,hwb⟩:∃ wb,ratBox wa g1 a2 n2 c2 b2 m2 d2 = wb:=⟨_,rfl⟩
 rw [hwb] at by_
 have hba:Below w.heap.size w wa:=by rw [← hwa]; exact bAl
 have hbb:Below wa.heap.size wa wb:=by rw [← hwb]; exact bAl
 unfold ratBox at hwa hwb
 have bx2:=bx.keep hbb
 have by2:=by_
 have hB:=hba.trans (hbb.mono hba.size)
 have p0:=bx2.d0
 have p1:=bx2.d1
 have p2:=bx2.d2
 have p3:=by2.d0
 have p4:=by2.d1
 have p5:=by2.d2
 have HBo:=Hd hB
 have K:=fun (W:World) (hb:Below wb.heap.size wb W) => sameRat_any g1 g1 a1 b1 a2 b2 n1 c1 m1 d1 n2 c2 m2 d2 x1 y1 x1 y1 W ((hx1.below hB).below hb) ((hy1.below hB).below hb) ((hx2.below hB).below hb) ((hy2.below hB).below hb)
 have hs:sameR g1 x1 y1 g1 x1 y1 = true:=by unfold sameR; simp
 rw [hs] at K
 have HK:=Hd K
 have te:(er == er) = true:=by simp
 clear K hx1 hy1 hx2 hy2 bx by_ bx2 by2 hba hbb hB hs
 unfold ratV at HK ⊢
 go_enter Tryz.func25,Tryz.ntmps25
 go_wp2_with fail
 refine (rnum2_any er wb).mono ?_
 rintro _ _ ⟨rfl,hw⟩
 obtain rfl:=hw.symm
 clear hw
 go_wp2_with fail
 refine (Uh HK _ (Below.refl _ _)).mono ?_
 rintro _ w1 ⟨rfl,b1'⟩
 have HB1:=Hd ((Uh HBo).trans (b1'.mono (Uh HBo).size))
 clear b1' HK
 go_wp2_with fail
 go_ret
 exact ⟨rfl,Uh HB1⟩
set_option maxRecDepth 100000 in
set_option maxHeartbeats 64000000 in
theorem float_any (g:Bool) (x y:List Nat) (a1:Option Addr) (n1 c1:Nat) (b1:Option Addr) (m1 d1:Nat) (a2:Option Addr) (n2 c2:Nat) (b2:Option Addr) (m2 d2:Nat) (w:World) (ox:Ok x) (oy:Ok y) (hx1:Sl w a1 n1 c1 x) (hy1:Sl w b1 m1 d1 y) (hx2:Sl w a2 n2 c2 x) (hy2:Sl w b2 m2 d2 y) (hT:Tab64 w) (hT2:Tab32 w) (nb1:a2 = none → c2 = 0) :
  Calls Tryz.prog 23 #[ratV g a1 n1 c1 b1 m1 d1,ratV g a2 n2 c2 b2 m2 d2] w fun e w' => e = .returned (.bool true) ∧ Below w.heap.size w w':=by
 have bx:=Box.made w g a1 n1 c1 b1 m1 d1
 obtain ⟨wa,hwa⟩:∃ wa,ratBox w g a1 n1 c1 b1 m1 d1 = wa:=⟨_,rfl⟩
 rw [hwa] at bx
 have by_:=Box.made wa g a2 n2 c2 b2 m2 d2
 obtain ⟨wb,hwb⟩:∃ wb,ratBox wa g a2 n2 c2 b2 m2 d2 = wb:=⟨_,rfl⟩
 rw [hwb] at by_
 have hba:Below w.heap.size w wa:=by rw [← hwa]; exact bAl
 have hbb:Below wa.heap.size wa wb:=by rw [← hwb]; exact bAl
 unfold ratBox at hwa hwb
 have bx2:=bx.keep hbb
 have hB:=hba.trans (hbb.mono hba.size)
 have p0:=bx2.d0
 have p1:=bx2.d1
 have p2:=bx2.d2
 have q0:=by_.d0
 have q1:=by_.d1
 have q2:=by_.d2
 have HBo:=Hd hB
 have K1:=rfloat_any g a1 b1 n1 c1 m1 d1 x y wb (hx1.below hB) (hy1.below hB) ox oy (hT.below hB) (hT2.below hB)
 have K2:=fun (W:World) (hb:Below wb.heap.size wb W) => wfloat_any g a2 b2 n2 c2 m2 d2 x y W ((hx2.below hB).below hb) ((hy2.below hB).below hb) ox oy nb1
 obtain ⟨⟨F1,F2⟩,hF⟩:∃ F,FlF g x y = F:=⟨_,rfl⟩
 rw [hF] at K1 K2
 dsimp only at K1 K2
 unfold ratV at K1 K2 ⊢
 have HK1:=Hd K1
 have HK2:=Hd K2
 have te1:(F2 == F2) = true:=by simp
 have te2:((F1:Int) == (F1:Int)) = true:=by simp
 clear K1 K2 hx1 hy1 hx2 hy2 hT hT2 nb1 bx by_ bx2 hba hbb hB ox oy hF
 go_enter Tryz.func23,Tryz.ntmps23
 go_wp2_with fail
 refine (Uh HK1).mono ?_
 rintro _ w1 ⟨rfl,b1'⟩
 have f0:=(ck b1' q0)
 have f1:=(ck b1' q1)
 have f2:=(ck b1' q2)
 have HB1:=Hd b1'
 clear b1' HK1 p0 p1 p2 q0 q1 q2
 go_wp2_with fail
 refine (Uh HK2 _ (Uh HB1)).mono ?_
 rintro _ w2 ⟨rfl,b2'⟩
 have HB2:=Hd ((Uh HBo).trans (((Uh HB1).trans (b2'.mono (Uh HB1).size)).mono (Uh HBo).size))
 clear b2' HK2 f0 f1 f2 HB1 HBo
 go_wp2_with fail
 refine (rnum2_any F2 w2).mono ?_
 rintro _ _ ⟨rfl,hw⟩
 obtain rfl:=hw.symm
 clear hw
 go_wp2_with fail
 go_ret
 exact ⟨rfl,Uh HB2⟩
set_option maxRecDepth 100000 in
set_option maxHeartbeats 16000000 in
theorem grat_all {w:World} {B:Nat} {v0 v1:Value} {es:List Ent} {w0:World} {L:List Pc} (h:LawSt w B v0 v1 es w0 L) (g1:Bool) (p q:Pc) (hp:p ∈ L) (hq:q ∈ L) (hn:p.n ≤ 35184372088000) (hm:q.n ≤ 35184372088000) (he:es.length ≤ 1000) :
  Calls Tryz.prog 24 #[.pointer (some ⟨B,0,none⟩),ratV g1 p.a p.n p.c q.a q.n q.c] w fun e w' => ∃ v,e = .returned v ∧ ∃ v0' v1' E1 E2,v = ratV g1 (some ⟨Ent.b E1,0,none⟩) p.n E1.c (some ⟨Ent.b E2,0,none⟩) q.n E2.c ∧ LawSt w' B v0' v1' (es ++ [E1] ++ [E2]) w0 (⟨some ⟨E2.b,0,none⟩,q.n,E2.c,q.xs⟩ :: ⟨some ⟨E1.b,0,none⟩,p.n,E1.c,p.xs⟩ :: L) ∧ Chg (Own B v0 v1) w w' ∧ ∀ k,k < w.heap.size → ¬ Own B v0 v1 k → ¬ Own B v0' v1' k:=by
 have bx:=Box.made w g1 p.a p.n p.c q.a q.n q.c
 obtain ⟨wa,hwa⟩:∃ wa,ratBox w g1 p.a p.n p.c q.a q.n q.c = wa:=⟨_,rfl⟩
 rw [hwa] at bx
 unfold ratBox at hwa
 have hba:=bx.bel
 obtain ⟨wo,hwo⟩:∃ x,wa.alloc (.cells #[.bool false,.slice none 0 0,.slice none 0 0] 25) = x:=⟨_,rfl⟩
 have hbo:Below wa.heap.size wa wo:=by rw [← hwo]; exact bAl
 have hT:Tri wo wa.heap.size (.bool false) (.slice none 0 0) (.slice none 0 0):=by rw [← hwo]; exact Tri.made _ _ _ _ _
 have bx2:=bx.keep hbo
 have hB:=hba.trans (hbo.mono hba.size)
 have hO:=h.keep hB
 have p0:=bx2.d0
 have p1:=bx2.d1
 have p2:=bx2.d2
 have hlt:=bx.lt
 have hlt2:wa.heap.size < wo.heap.size:=hT.lt
 have hnb:¬ Own B v0 v1 w.heap.size:=fun ho => by have:=h.giv.own_lt ho; omega
 have hnr:¬ Own B v0 v1 wa.heap.size:=fun ho => by have:=h.giv.own_lt ho; omega
 have HK1:=Hd (fun (W:World) (hb:Below wo.heap.size wo W) => (hO.keep hb).natC p hp hn (by omega))
 have hne1:w.heap.size ≠ wa.heap.size:=by omega
 have hne3:wa.heap.size ≠ w.heap.size:=by omega
 have HW:=Hd (And.intro h.bel.size (And.intro hnb (And.intro hnr (And.intro hlt hlt2))))
 have HLt:=Hd (fun r (hr:r ∈ L) x (hx:r.a = some x) (hne:r.xs ≠ []) => (show x.block < w.heap.size from (h.all r hr).sl.block_lt hne x hx))
 have HT:=Hd hT
 have HCB:=Hd (show Chg (Own B v0 v1) w wo from Chg.of_below hB)
 clear bx bx2 hba hbo hB hnb hnr hT hO h
 unfold ratV
 go_enter Tryz.func24,Tryz.ntmps24
 go_wp2_with fail
 go_region_held3 (fun w' => w'.cell? ⟨w.heap.size,0,none⟩ = some (.bool g1) ∧ w'.cell? ⟨w.heap.size,1,none⟩ = some (.slice p.a p.n p.c) ∧ w'.cell? ⟨w.heap.size,2,none⟩ = some (.slice q.a q.n q.c)) (first | go_keep | (exact ⟨k0,k1,k2⟩) | (exact ⟨j0,j1,j2⟩))
  (first
   | (go_at_call_of 58 (Value.slice p.a p.n p.c); refine (Uh HK1 _ (Below.refl _ _).drew).mono ?_; rintro _ wk ⟨u0,u1,E1,rfl,hL1,hE1,hc1,hs1⟩; have hcd:Chg (Own B v0 v1) wo wk:=(Chg.of_drew wo).trans hc1; have k0:=hcd.cell (Uh HW).2.1 p0; have k1:=hcd.cell (Uh HW).2.1 p1; have k2:=hcd.cell (Uh HW).2.1 p2; have hT1:Tri wk wa.heap.size (.bool false) (.slice none 0 0) (.slice none 0 0):=(Uh HT).chgW hcd (Uh HW).2.2.1; have HS1:=Hd (And.intro hL1 (And.intro (show wo.heap.size ≤ E1.b from hE1) (And.intro (hs1 w.heap.size (by have:=(Uh HW).2.2.2; simp; omega) (Uh HW).2.1) (And.intro (hs1 wa.heap.size (by have:=(Uh HW).2.2.2; simp; omega) (Uh HW).2.2.1) (And.intro hT1 hcd.size))))); have HC1:=Hd (And.intro hcd hs1); clear hL1 hE1 hc1 hs1 hcd hT1)
   | (go_at_call_of 58 (Value.slice q.a q.n q.c); refine ((Uh HS1).1.natC q (.tail _ hq) hm (by simp; omega)).mono ?_; rintro _ wj ⟨z0,z1,E2,rfl,hL2,hE2,hc2,hs2⟩; have j0:=hc2.cell (Uh HS1).2.2.1 k0; have j1:=hc2.cell (Uh HS1).2.2.1 k1; have j2:=hc2.cell (Uh HS1).2.2.1 k2; have hT2:Tri wj wa.heap.size (.bool false) (.slice none 0 0) (.slice none 0 0):=(Uh HS1).2.2.2.2.1.chgW hc2 (Uh HS1).2.2.2.1; have HO3:=Hd hT2; have q0:=hT2.c0; have q1:=hT2.c1; have q2:=hT2.c2; have r0:=hT2.f0; have r1:=hT2.f1; have r2:=hT2.f2; have HS2:=Hd (And.intro hL2 (And.intro (Uh HS1).2.1 (And.intro (show wo.heap.size ≤ E2.b from Nat.le_trans (Uh HS1).2.2.2.2.2 hE2) (hs2 wa.heap.size (Uh HS1).2.2.2.2.1.lt (Uh HS1).2.2.2.1)))); have HC2:=Hd (And.intro hc2 hs2); clear hL2 hE2 hc2 hs2 hT2))
 have H4:=Hd (three_set wj wa.heap.size (.bool g1) (.slice (some ⟨E1.b,0,none⟩) p.n E1.c) (.slice (some ⟨E2.b,0,none⟩) q.n E2.c) (Uh HO3).out.cells)
 clear q0 q1 q2 r0 r1 r2
 try go_wp2_with fail
 obtain ⟨t0,t1,t2,c4⟩:=Uh H4
 generalize ((wj.setCell ⟨wa.heap.size,0,none⟩ (.bool g1)).setCell ⟨wa.heap.size,1,none⟩ (.slice (some ⟨E1.b,0,none⟩) p.n E1.c)).setCell ⟨wa.heap.size,2,none⟩ (.slice (some ⟨E2.b,0,none⟩) q.n E2.c) = wf at *
 refine bodyPost_ret (by simp [results,Tryz.results24,go_sem,t0,t1,t2]; try rfl) rfl ?_
 obtain ⟨hL2,hE1,hE2,hNR⟩:=Uh HS2
 refine ⟨_,rfl,_,_,E1,E2,rfl,hL2.setR (Uh HO3).c0 c4 (by have:=(Uh HW).1; have:=(Uh HW).2.2.2.1; omega) hNR ?_,?_,?_⟩
 rotate_left
 ·have hB:=Uh HCB
  have hcd:=(Uh HC1).1
  have hc2:=(Uh HC2).1
  refine ⟨c4.os.trans (hc2.os.trans (hcd.os.trans hB.os)),c4.tape.trans (hc2.tape.trans (hcd.tape.trans hB.tape)),c4.output.trans (hc2.output.trans (hcd.output.trans hB.output)),Nat.le_trans hB.size (Nat.le_trans hcd.size (Nat.le_trans hc2.size c4.size)),fun k hk hS => ?_⟩
  have k1:k < wo.heap.size:=Nat.lt_of_lt_of_le hk hB.size
  have k2:k < wk.heap.size:=Nat.lt_of_lt_of_le k1 hcd.size
  have k3:k < wj.heap.size:=Nat.lt_of_lt_of_le k2 hc2.size
  rw [c4.block k k3 (fun e => by have:=(Uh HW).2.2.2.1; omega),hc2.block k k2 ((Uh HC1).2 k k1 hS),hcd.block k k1 hS,hB.block k hk hS]
 ·intro k hk hS
  have k1:k < wo.heap.size:=Nat.lt_of_lt_of_le hk (Uh HCB).size
  exact (Uh HC2).2 k (Nat.lt_of_lt_of_le k1 (Uh HC1).1.size) ((Uh HC1).2 k k1 hS)
 intro r hr x hx hne
 rcases List.mem_cons.1 hr with rfl | hr
 ·cases hx; have:=(Uh HW).2.2.2.2; simp only; omega
 ·rcases List.mem_cons.1 hr with rfl | hr
  ·cases hx; have:=(Uh HW).2.2.2.2; simp only; omega
  ·have:=Uh HLt r hr x hx hne
   have:=(Uh HW).2.2.2.1
   omega
theorem LawSt.intactB {w:World} {B:Nat} {v0 v1:Value} {es:List Ent} {w0:World} {L:List Pc} (h:LawSt w B v0 v1 es w0 L) :
  Calls Tryz.prog 26 #[.pointer (some ⟨B,0,none⟩)] w fun e w' => e = .returned (.bool true) ∧ LawSt w' B v0 v1 es w0 L ∧ Below w.heap.size w w':=by
 refine (intact_any w B v0 v1 es h.giv).mono ?_
 rintro e w' ⟨rfl,k,rfl⟩
 exact ⟨rfl,h.drewN k,bel_drewN (Below.refl _ _) k⟩
set_option maxRecDepth 100000 in
set_option maxHeartbeats 64000000 in
theorem rationalFloats_walk (g_a:Bool) (a_a:Option Addr) (n_a c_a:Nat) (x_a:List Nat) (b_a:Option Addr) (m_a d_a:Nat) (y_a:List Nat) (i_b:Nat) (w:World) (hx_a:Sl w a_a n_a c_a x_a) (hy_a:Sl w b_a m_a d_a y_a) (ox_a:Ok x_a) (oy_a:Ok y_a) (z_a:n_a ≤ 35184372088000 ∧ m_a ≤ 35184372088000) (l_a:a_a = none → c_a = 0) (k_a:b_a = none → d_a = 0) (hb_b:i_b < 18446744073709551616) (hT:Tab64 w) (hT2:Tab32 w) :
  Calls Tryz.prog 5 #[ratV g_a a_a n_a c_a b_a m_a d_a,.int .u64 (i_b:Nat)] w fun e w' => e = .returned (.bool true) ∧ Below w.heap.size w w':=by
 obtain ⟨⟨⟨g_r,x_r,y_r⟩,e_r⟩,hFF⟩:∃ r,FfF i_b = r:=⟨_,rfl⟩
 have HFF:=Hd hFF
 have bx0:=Box.made w g_a a_a n_a c_a b_a m_a d_a
 obtain ⟨w1,hw1⟩:∃ x,ratBox w g_a a_a n_a c_a b_a m_a d_a = x:=⟨_,rfl⟩
 rw [hw1] at bx0
 have hb0:Below w.heap.size w w1:=by rw [← hw1]; exact bAl
 have d0:=bx0.d0
 have d1:=bx0.d1
 have d2:=bx0.d2
 unfold ratBox at hw1
 have LL:∀ r ∈ [(⟨a_a,n_a,c_a,x_a⟩:Pc),(⟨b_a,m_a,d_a,y_a⟩:Pc)],Sl w1 r.a r.n r.c r.xs:=by
  intro r hr
  simp only [List.mem_cons,or_false,List.not_mem_nil] at hr
  rcases hr with rfl | rfl
  ·exact hx_a.below hb0
  ·exact hy_a.below hb0
 have HT:=Hd (And.intro (hT.below hb0) (hT2.below hb0))
 have HB0:=Hd hb0
 have hS0:=LawSt.begin (w:=w1) (L:=[(⟨a_a,n_a,c_a,x_a⟩:Pc),(⟨b_a,m_a,d_a,y_a⟩:Pc)]) (.cells #[.slice none 0 0,.slice none 0 0,.slice none 0 0,.slice none 0 0,.slice none 0 0,.slice none 0 0,.slice none 0 0,.slice none 0 0,.slice none 0 0,.slice none 0 0,.slice none 0 0,.slice none 0 0,.slice none 0 0,.slice none 0 0,.slice none 0 0,.slice none 0 0,.slice none 0 0,.slice none 0 0,.slice none 0 0,.slice none 0 0] 59) rfl LL
 obtain ⟨wg,hwg⟩:∃ x,w1.alloc (.cells #[.slice none 0 0,.slice none 0 0,.slice none 0 0,.slice none 0 0,.slice none 0 0,.slice none 0 0,.slice none 0 0,.slice none 0 0,.slice none 0 0,.slice none 0 0,.slice none 0 0,.slice none 0 0,.slice none 0 0,.slice none 0 0,.slice none 0 0,.slice none 0 0,.slice none 0 0,.slice none 0 0,.slice none 0 0,.slice none 0 0] 59) = x:=⟨_,rfl⟩
 rw [hwg] at hS0
 have HS0:=Hd hS0
 have HOK:=Hd (And.intro ox_a oy_a)
 have HZ:=Hd (And.intro z_a (And.intro l_a k_a))
 have K:=rfromFloat_any i_b wg hb_b ((hT.below hb0).below hS0.bel)
 rw [hFF] at K
 unfold ResF at K
 dsimp only at K
 have HK:=Hd K
 have K2:=fun (W:World) => wfromFloat_any i_b W hb_b
 rw [hFF] at K2
 unfold ResF at K2
 dsimp only at K2
 have HK2:=Hd K2
 clear K K2 hx_a hy_a ox_a oy_a z_a l_a k_a hT hT2 hb0 bx0 LL hS0 hFF
 unfold ratV
 go_enter Tryz.func5,Tryz.ntmps5
 go_wp2_with fail
 refine (Uh HK).mono ?_
 rintro _ w4 ⟨v,rfl,ar,nr,cr,br,mr,dr,rfl,sx,sy,nx,ny,hb⟩
 unfold ratV
 obtain ⟨w5,hw5⟩:∃ x,w4.alloc (.cells #[.bool g_r,.slice ar nr cr,.slice br mr dr] 25) = x:=⟨_,rfl⟩
 have hal:Below w4.heap.size w4 w5:=by rw [← hw5]; exact bAl
 have TR:=Hd (show Tri w5 w4.heap.size (.bool g_r) (.slice ar nr cr) (.slice br mr dr) by rw [← hw5]; exact Tri.made _ _ _ _ _)
 have LR:=Hd (And.intro (sx.below hal) (And.intro (sy.below hal) (And.intro nx ny)))
 have HB5:=Hd (hb.trans (hal.mono hb.size))
 have HZ34:=Hd (show wg.heap.size ≤ w4.heap.size from hb.size)
 clear sx sy nx ny hb hal HK
 go_wp2_with fail
 refine (Uh HK2 w5).mono ?_
 rintro _ w6 ⟨v,rfl,as_,ns,cs,bs,ms,ds,rfl,sx,sy,nx,ny,hb⟩
 unfold ratV
 obtain ⟨w7,hw7⟩:∃ x,w6.alloc (.cells #[.bool g_r,.slice as_ ns cs,.slice bs ms ds] 25) = x:=⟨_,rfl⟩
 have hal:Below w6.heap.size w6 w7:=by rw [← hw7]; exact bAl
 have TS:=Hd (show Tri w7 w6.heap.size (.bool g_r) (.slice as_ ns cs) (.slice bs ms ds) by rw [← hw7]; exact Tri.made _ _ _ _ _)
 have hb7:=hb.trans (hal.mono hb.size)
 have TR7:=Hd ((Uh TR).keep hb7)
 have HB7:=Hd ((Uh HB5).trans (hb7.mono (Uh HB5).size))
 have hz5:=(Uh HB5).size
 have LS:=Hd (show Sl w7 as_ ns cs x_r ∧ Sl w7 bs ms ds y_r ∧ NewAt wg.heap.size as_ ∧ NewAt wg.heap.size bs from ⟨sx.below hal,sy.below hal,fun p hp => Nat.le_trans hz5 (nx p hp),fun p hp => Nat.le_trans hz5 (ny p hp)⟩)
 have LR7:=Hd (show Sl w7 ar nr cr x_r ∧ Sl w7 br mr dr y_r ∧ NewAt wg.heap.size ar ∧ NewAt wg.heap.size br from ⟨(Uh LR).1.below hb7,(Uh LR).2.1.below hb7,(Uh LR).2.2.1,(Uh LR).2.2.2⟩)
 have HRB:=Hd (show wg.heap.size ≤ w4.heap.size ∧ wg.heap.size ≤ w6.heap.size from ⟨Uh HZ34,Nat.le_trans hz5 hb.size⟩)
 clear sx sy nx ny hb hal hb7 hz5 TR LR HK2
 have hS7:=(Uh HS0).keep (Uh HB7)
 have p0:=(ck hS7.bel d0)
 have p1:=(ck hS7.bel d1)
 have p2:=(ck hS7.bel d2)
 have p3:=(Uh TR7).c0
 have p4:=(Uh TR7).c1
 have p5:=(Uh TR7).c2
 have p6:=(Uh TS).c0
 have p7:=(Uh TS).c1
 have p8:=(Uh TS).c2
 have HS7:=Hd hS7
 clear hS7
 go_wp2_with fail
 go_region_held3 (fun w' => w'.cell? ⟨w.heap.size,0,none⟩ = some (.bool g_a) ∧ w'.cell? ⟨w.heap.size,1,none⟩ = some (.slice a_a n_a c_a) ∧ w'.cell? ⟨w.heap.size,2,none⟩ = some (.slice b_a m_a d_a) ∧ w'.cell? ⟨w4.heap.size,0,none⟩ = some (.bool g_r) ∧ w'.cell? ⟨w4.heap.size,1,none⟩ = some (.slice ar nr cr) ∧ w'.cell? ⟨w4.heap.size,2,none⟩ = some (.slice br mr dr) ∧ w'.cell? ⟨w6.heap.size,0,none⟩ = some (.bool g_r) ∧ w'.cell? ⟨w6.heap.size,1,none⟩ = some (.slice as_ ns cs) ∧ w'.cell? ⟨w6.heap.size,2,none⟩ = some (.slice bs ms ds)) (first | go_keep | (exact ⟨r_0,r_1,r_2,r_3,r_4,r_5,r_6,r_7,r_8⟩) | (exact ⟨f_0,f_1,f_2,f_3,f_4,f_5,f_6,f_7,f_8⟩) | (exact ⟨k_0,k_1,k_2,k_3,k_4,k_5,k_6,k_7,k_8⟩) | (exact ⟨s_0,s_1,s_2,s_3,s_4,s_5,s_6,s_7,s_8⟩) | (exact ⟨t_0,t_1,t_2,t_3,t_4,t_5,t_6,t_7,t_8⟩))
  (first
   | (go_at_call_of 24 (Value.agg #[.bool g_a,.slice a_a n_a c_a,.slice b_a m_a d_a]); have K:=grat_all ((Uh HS7).keep (Below.refl _ _).drew) g_a ⟨a_a,n_a,c_a,x_a⟩ ⟨b_a,m_a,d_a,y_a⟩ (.head _) mM1 (Uh HZ).1.1 (Uh HZ).1.2 (by simp); unfold ratV at K; refine K.mono ?_; clear K; rintro _ wr ⟨v,rfl,u00,u01,E0,G0,rfl,hL,hC,hs⟩; (try unfold ratV); have hO:∀ k,wg.heap.size ≤ k → ¬ Own w1.heap.size _ _ k:=(fun k hk ho => by have:=(Uh HS0).giv.own_lt ho; omega); have hb7:=(Below.refl w7.heap.size w7).drew; have hTR:=((Uh TR7).keep hb7).chgW hC (hO _ (Uh HRB).1); have hTS:=((Uh TS).keep hb7).chgW hC (hO _ (Uh HRB).2); have LR8:=Hd (And.intro (((Uh LR7).1.below hb7).chg hC (fun x hx hn => hO x.block ((Uh LR7).2.2.1 x hx))) (((Uh LR7).2.1.below hb7).chg hC (fun x hx hn => hO x.block ((Uh LR7).2.2.2 x hx)))); have LS8:=Hd (And.intro (((Uh LS).1.below hb7).chg hC (fun x hx hn => hO x.block ((Uh LS).2.2.1 x hx))) (((Uh LS).2.1.below hb7).chg hC (fun x hx hn => hO x.block ((Uh LS).2.2.2 x hx)))); have r_0:=(ck hL.bel d0); have r_1:=(ck hL.bel d1); have r_2:=(ck hL.bel d2); have r_3:=hTR.c0; have r_4:=hTR.c1; have r_5:=hTR.c2; have r_6:=hTS.c0; have r_7:=hTS.c1; have r_8:=hTS.c2; have HTR:=Hd (And.intro hTR hTS); have HL0:=Hd hL; clear hL hC hs hO hTR hTS hb7)
   | (go_at_call 23; have K:=float_any g_a x_a y_a (some ⟨E0.b,0,none⟩) n_a E0.c (some ⟨G0.b,0,none⟩) m_a G0.c a_a n_a c_a b_a m_a d_a wr (Uh HOK).1 (Uh HOK).2 ((Uh HL0).sl _ mM1) ((Uh HL0).sl _ (.head _)) ((Uh HL0).sl _ mM2) ((Uh HL0).sl _ mM3) ((Uh HT).1.below (Uh HL0).bel) ((Uh HT).2.below (Uh HL0).bel) (Uh HZ).2.1; unfold ratV at K; refine K.mono ?_; clear K; rintro _ wf ⟨rfl,hb⟩; have hK:=(Uh HL0).keep hb; have hTR:=(Uh HTR).1.keep hb; have hTS:=(Uh HTR).2.keep hb; have f_0:=(ck hK.bel d0); have f_1:=(ck hK.bel d1); have f_2:=(ck hK.bel d2); have f_3:=hTR.c0; have f_4:=hTR.c1; have f_5:=hTR.c2; have f_6:=hTS.c0; have f_7:=hTS.c1; have f_8:=hTS.c2; have HF:=Hd (And.intro hK (And.intro hb (And.intro hTR hTS))); clear hK hb hTR hTS)
   | (go_at_call 25; have K:=like_any g_r ar br as_ bs nr cr mr dr ns cs ms ds x_r y_r e_r wf ((Uh LR8).1.below (Uh HF).2.1) ((Uh LR8).2.below (Uh HF).2.1) ((Uh LS8).1.below (Uh HF).2.1) ((Uh LS8).2.below (Uh HF).2.1); unfold ratV at K; refine K.mono ?_; clear K; rintro _ wk ⟨rfl,hb⟩; have hK:=(Uh HF).1.keep hb; have hTR:=(Uh HF).2.2.1.keep hb; have hTS:=(Uh HF).2.2.2.keep hb; have k_0:=(ck hK.bel d0); have k_1:=(ck hK.bel d1); have k_2:=(ck hK.bel d2); have k_3:=hTR.c0; have k_4:=hTR.c1; have k_5:=hTR.c2; have k_6:=hTS.c0; have k_7:=hTS.c1; have k_8:=hTS.c2; have HKK:=Hd (And.intro hK (And.intro hTR hTS)); clear hK hb hTR hTS)
   | (go_at_call 26; refine (Uh HKK).1.intactB.mono ?_; rintro _ ws ⟨rfl,hK,hb⟩; have hTR:=(Uh HKK).2.1.keep hb; have hTS:=(Uh HKK).2.2.keep hb; have s_0:=(ck hK.bel d0); have s_1:=(ck hK.bel d1); have s_2:=(ck hK.bel d2); have s_3:=hTR.c0; have s_4:=hTR.c1; have s_5:=hTR.c2; have s_6:=hTS.c0; have s_7:=hTS.c1; have s_8:=hTS.c2; have HI:=Hd (And.intro hK (And.intro hTR hTS)); clear hK hb hTR hTS)
   | (go_at_call 8; refine (ralive_any ws ((Uh HT).1.below (Uh HI).1.bel)).mono ?_; rintro _ wt ⟨rfl,hb⟩; have hK:=(Uh HI).1.keep hb; have hTR:=(Uh HI).2.1.keep hb; have hTS:=(Uh HI).2.2.keep hb; have t_0:=(ck hK.bel d0); have t_1:=(ck hK.bel d1); have t_2:=(ck hK.bel d2); have t_3:=hTR.c0; have t_4:=hTR.c1; have t_5:=hTR.c2; have t_6:=hTS.c0; have t_7:=hTS.c1; have t_8:=hTS.c2; have HE:=Hd hK; clear hK hb hTR hTS))
 try go_wp2_with fail
 try go_ret
 exact ⟨rfl,(Uh HB0).trans ((Uh HE).bel.mono (Uh HB0).size)⟩
end Go.Proofs.YtlolnaegfponeaaGreatDoor
