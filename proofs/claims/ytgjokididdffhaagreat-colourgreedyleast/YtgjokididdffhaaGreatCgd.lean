/- Cgb -/
import Derived.Test.YtgjokididdffhaaGreatCg2
import Derived.Test.YtgjokididdffhaaGreatCga
namespace Go.Proofs.YtgjokididdffhaaGreat
open Go.RowKit Go.Deep Go.Shelf
set_option linter.unusedVariables false
attribute [local go_sem] Oper.semAt_some

set_option maxRecDepth 100000 in
set_option maxHeartbeats 16000000 in
theorem ssquare_yes (R width:Nat) (a1 a2:Option Addr) (n1 c1 n2 c2:Nat) (st cols:List Int) (w:World) (h1:SlI w a1 n1 c1 st) (h2:SlI w a2 n2 c2 cols) (hb1:n1 ≤ 17592186044416) (hb2:n2 ≤ 17592186044416) (hm:MayP (R:Int) (width:Int) st cols) :
  Calls Tryz.prog 116 #[patV (R:Int) (width:Int) a1 n1 c1 a2 n2 c2] w fun e w' => e = .returned (.int .i64 (if R = width then 0 else 7)) ∧ Below w.heap.size w w':=by
 obtain ⟨wb,hwb⟩:∃ x,w.alloc (.cells #[.int .i64 (R:Int),.int .i64 (width:Int),.slice a1 n1 c1,.slice a2 n2 c2] 25) = x:=⟨_,rfl⟩
 have bb:Below w.heap.size w wb:=by rw [← hwb]; exact bAl
 have hT:=BoxP.made w #[.int .i64 (R:Int),.int .i64 (width:Int),.slice a1 n1 c1,.slice a2 n2 c2] 25
 rw [hwb] at hT
 have p0:=(hT.all 0 _ rfl).1
 have p1:=(hT.all 1 _ rfl).1
 have p2:=(hT.all 2 _ rfl).1
 have p3:=(hT.all 3 _ rfl).1
 have KM:=Hj (smay_any (R:Int) (width:Int) a1 a2 n1 c1 n2 c2 st cols wb (h1.below bb) (h2.below bb) hb1 hb2)
 have HTQ:=Hj (show TruQ true (MayP (R:Int) (width:Int) st cols) from ⟨fun _ => hm,fun _ => rfl⟩)
 have HT:=Hj hT
 have HB:=Hj bb
 clear hT bb h1 h2 hm
 unfold patV
 unfold patV at KM
 by_cases hRw:R = width
 ·subst hRw
  rw [if_pos rfl]
  go_enter Tryz.func116,Tryz.ntmps116
  go_wp2_with fail
  refine (Uh KM).mono ?_
  intro e w2 hq
  obtain ⟨rfl,b2⟩:=hq.known (Uh HTQ)
  have hT2:=(Uh HT).below b2
  have q0:=(hT2.all 0 _ rfl).1
  have q1:=(hT2.all 1 _ rfl).1
  have HB2:=Hj ((Uh HB).trans (b2.mono (Uh HB).size))
  clear b2 hT2 hq KM p0 p1 p2 p3
  go_wp2_with fail
  try go_quiet (fail)
  all_goals (try go_wp2_with fail)
  all_goals (try go_ret)
  all_goals exact ⟨rfl,by first | exact Uh HB2 | exact bel_drewN (Uh HB2) _⟩
 ·have hne:((R:Int) == (width:Int)) = false:=by simp; omega
  have hne2:¬ (R:Int) = (width:Int):=by omega
  rw [if_neg hRw]
  clear hRw
  go_enter Tryz.func116,Tryz.ntmps116
  go_wp2_with fail
  refine (Uh KM).mono ?_
  intro e w2 hq
  obtain ⟨rfl,b2⟩:=hq.known (Uh HTQ)
  have hT2:=(Uh HT).below b2
  have q0:=(hT2.all 0 _ rfl).1
  have q1:=(hT2.all 1 _ rfl).1
  have HB2:=Hj ((Uh HB).trans (b2.mono (Uh HB).size))
  clear b2 hT2 hq KM p0 p1 p2 p3
  go_wp2_with fail
  try go_quiet (fail)
  all_goals (try go_wp2_with fail)
  all_goals (try go_ret)
  all_goals exact ⟨rfl,by first | exact Uh HB2 | exact bel_drewN (Uh HB2) _⟩
def SyP (st cols:List Int) (R:Nat):Prop:=∀ u v,u < R → v < R → InC st cols u v → InC st cols v u
theorem flP_mem {xs:Nat → List Int} {x:Int × Int}:∀ R,(x ∈ flP xs R ↔ ∃ k:Nat,k < R ∧ x.1 = (k:Int) ∧ x.2 ∈ xs k)
 | 0 => by simp [flP]
 | R + 1 => by
  simp only [flP,List.mem_append]
  rw [flP_mem R]
  constructor
  ·rintro (⟨k,h1,h2,h3⟩ | h)
   ·exact ⟨k,by omega,h2,h3⟩
   ·obtain ⟨c,hc,rfl⟩:=List.mem_map.1 h
    exact ⟨R,by omega,rfl,hc⟩
  ·rintro ⟨k,h1,h2,h3⟩
   by_cases e:k = R
   ·subst e
    right
    exact List.mem_map.2 ⟨x.2,h3,by rw [← h2]⟩
   ·exact .inl ⟨k,by omega,h2,h3⟩
theorem InC.of {R:Nat} {st cols:List Int} {width:Int} (hm:MayP (R:Int) width st cols) {u v:Nat} (hu:u < R):HasP (R:Int) width st cols (u:Int) (v:Int) ↔ InC st cols v u:=by
 constructor
 ·rintro ⟨_,_,_,j,h1,h2,h3⟩
  rw [show ((u:Int)).toNat = u by omega] at h1 h2
  exact ⟨j,h1,h2,h3⟩
 ·rintro ⟨j,h1,h2,h3⟩
  exact ⟨hm,by omega,by omega,j,by rw [show ((u:Int)).toNat = u by omega]; exact h1,by rw [show ((u:Int)).toNat = u by omega]; exact h2,h3⟩
theorem InC.lt {R width:Nat} {st cols:List Int} (hm:MayP (R:Int) (width:Int) st cols) {c k:Nat} (hk:k < R) (h:InC st cols c k):c < width:=by
 obtain ⟨X,Y,hR⟩:=hm.rowAt (k:=k) (by omega)
 obtain ⟨j,h1,h2,h3⟩:=h
 rw [hR.hX] at h1
 rw [hR.hY] at h2
 have:=hR.row.rng j (by omega) (by omega)
 omega
theorem SyP.all {R:Nat} {st cols:List Int} (hm:MayP (R:Int) (R:Int) st cols):SyP st cols R ↔ ∀ x ∈ flP (rowC st cols) R,HasP (R:Int) (R:Int) st cols x.2 x.1:=by
 constructor
 ·intro h x hx
  obtain ⟨k,h1,h2,h3⟩:=(flP_mem R).1 hx
  have h3':x.2 ∈ rowL st cols k:=h3
  obtain ⟨p,hp,he⟩:=mem_getD.1 h3'
  have hg:=rowL_rng hm h1 p hp
  obtain ⟨u,hu⟩:∃ u:Nat,x.2 = (u:Int):=⟨x.2.toNat,by omega⟩
  rw [hu] at h3' ⊢
  rw [h2]
  have h4:=(rowL_mem hm h1).1 h3'
  have hur:=InC.lt hm h1 h4
  exact (InC.of hm hur).2 (h u k hur h1 h4)
 ·intro h u v hu hv hin
  have h1:((v:Int),(u:Int)) ∈ flP (rowC st cols) R:=(flP_mem R).2 ⟨v,hv,rfl,(show (u:Int) ∈ rowL st cols v from (rowL_mem hm hv).2 hin)⟩
  exact (InC.of hm hu).1 (h _ h1)
theorem find_any (rows width:Int) (a1 a2:Option Addr) (n1 c1 n2 c2:Nat) (st cols:List Int) (r t:Int) (w:World) (h1:SlI w a1 n1 c1 st) (h2:SlI w a2 n2 c2 cols) (hb1:n1 ≤ 17592186044416) (hb2:n2 ≤ 17592186044416) (hm:MayP rows width st cols) (ok:Bool) (hok:TruQ ok (HasP rows width st cols r t)) :
  Calls Tryz.prog 39 #[patV rows width a1 n1 c1 a2 n2 c2,.int .i64 r,.int .i64 t] w fun e w' => ∃ z,e = .returned (.tuple #[.int .i64 z,.bool ok]) ∧ Below w.heap.size w w':=by
 by_cases ho:r < 0 ∨ rows ≤ r
 ·refine (find_out rows width a1 a2 n1 c1 n2 c2 r t w ho).mono ?_
  rintro _ w' ⟨rfl,b⟩
  refine ⟨0,?_,b⟩
  cases hk:ok
  ·rfl
  ·have:=(Iff.mp hok hk)
   have h3:=this.lo
   have h4:=this.hi
   omega
 ·obtain ⟨k,hk⟩:∃ k:Nat,r = (k:Int):=⟨r.toNat,by omega⟩
  subst hk
  obtain ⟨X,Y,hR⟩:=hm.rowAt (k:=k) (by omega)
  obtain ⟨i,hi⟩:=BsP.ex ((cols.drop X).take (Y - X)) t (Y - X) hR.up
  refine (find_in rows width a1 a2 n1 c1 n2 c2 st cols k X Y t w h1 h2 hb1 hb2 (by have:=hm.head.len; have:=h1.len; omega) (by omega) hR ok ((show ok = true ↔ _ from hok).trans (hR.has hm (by omega) t).symm) i hi).mono ?_
  rintro _ w' ⟨rfl,b⟩
  exact ⟨_,rfl,b⟩
structure SmI (w W:World) (pb rb:Nat) (cs:Array Value):Prop where
 bel:Below w.heap.size w W
 bp:W.heap[pb]? = some (.cells cs 25 (0,0))
 br:W.heap[rb]? = some (.cells #[.bool false] 4 (0,0))
theorem SmI.own {β:Type} {w:World} {B pb rb:Nat} {cs:Array Value} (Pl:β → Prop) (hB:w.heap.size ≤ B):OwnFrom B (fun (s:β) W => SmI w W pb rb cs ∧ Pl s):=by
 intro s W W' row h hg hr
 have hr':∀ r,row = some r → ∃ o:Obj,W.heap[r]? = some o ∧ o.isCells = false:=fun r e => (hr r e).2
 exact ⟨⟨h.1.bel.grown hg h.1.bel.size (fun k e => Nat.le_trans hB (hr k e).1),blk_keptP h.1.bp hg hr',blk_keptP h.1.br hg hr'⟩,h.2⟩
theorem SmI.below {w W W':World} {pb rb:Nat} {cs:Array Value} (h:SmI w W pb rb cs) (k:Below W.heap.size W W'):SmI w W' pb rb cs :=
 ⟨h.bel.trans (k.mono h.bel.size),(k.block _ (Array.getElem?_eq_some_iff.1 h.bp).1).trans h.bp,(k.block _ (Array.getElem?_eq_some_iff.1 h.br).1).trans h.br⟩
set_option maxHeartbeats 8000000 in
set_option maxRecDepth 100000 in
theorem ssym_any (R:Nat) (a1 a2:Option Addr) (n1 c1 n2 c2:Nat) (st cols:List Int) (w:World) (h1:SlI w a1 n1 c1 st) (h2:SlI w a2 n2 c2 cols) (hb1:n1 ≤ 17592186044000) (hb2:n2 ≤ 17592186044000) (hm:MayP (R:Int) (R:Int) st cols) (ok:Bool) (hok:TruQ ok (SyP st cols R)) :
  Calls Tryz.prog 80 #[patV (R:Int) (R:Int) a1 n1 c1 a2 n2 c2] w fun e w' => e = .returned (.bool ok) ∧ Below w.heap.size w w':=by
 obtain ⟨wb,hwb⟩:∃ x,w.alloc (.cells #[.int .i64 (R:Int),.int .i64 (R:Int),.slice a1 n1 c1,.slice a2 n2 c2] 25) = x:=⟨_,rfl⟩
 have bb:Below w.heap.size w wb:=by rw [← hwb]; exact bAl
 have hT:=BoxP.made w #[.int .i64 (R:Int),.int .i64 (R:Int),.slice a1 n1 c1,.slice a2 n2 c2] 25
 rw [hwb] at hT
 have kT0:=alloc_block w (.cells #[.int .i64 (R:Int),.int .i64 (R:Int),.slice a1 n1 c1,.slice a2 n2 c2] 25)
 rw [hwb] at kT0
 have hO0:=BoxP.made wb #[.bool false] 4
 have kO0:=alloc_block wb (.cells #[.bool false] 4)
 obtain ⟨wo,hwo⟩:∃ x,wb.alloc (.cells #[.bool false] 4) = x:=⟨_,rfl⟩
 have bo:Below wb.heap.size wb wo:=by rw [← hwo]; exact bAl
 rw [hwo] at hO0 kO0
 have hT1:=hT.below bo
 have p0:=(hT1.all 0 _ rfl).1
 have p1:=(hT1.all 1 _ rfl).1
 have p2:=(hT1.all 2 _ rfl).1
 have p3:=(hT1.all 3 _ rfl).1
 have bw:=bb.trans (bo.mono bb.size)
 have KM:=Hj (ssquare_yes R R a1 a2 n1 c1 n2 c2 st cols wo (h1.below bw) (h2.below bw) (by omega) (by omega) hm)
 rw [if_pos rfl] at KM
 have HP:=Hj (And.intro hT1 (And.intro kO0 ((bo.block _ (Array.getElem?_eq_some_iff.1 kT0).1).trans kT0)))
 have HS:=Hj (And.intro h1 h2)
 have HB:=Hj bw
 have HWB:=Hj bb.size
 have HM:=Hj hm
 have HOK:=Hj hok
 have HLN:=Hj (And.intro h1.len (And.intro h2.len hm.head.len))
 clear hT hT1 hO0 kO0 kT0 bb bo bw h1 h2 hm hok
 unfold patV
 unfold patV at KM
 refine (callsIn_wide (n:=4)).1 ?_
 refine callsIn_of_wp_marks Tryz.func80 rfl trivial ?_ rfl
 simp only [Tryz.ntmps80,List.size_toArray,List.length_cons,List.length_nil,Nat.reduceAdd,Nat.reduceSub,Array.replicate_succ,Array.replicate_zero,List.push_toArray,List.append_toArray,List.nil_append,List.cons_append]
 gi_wp2_with fail
 refine ⟨trivial,(callsIn_wide.2 (Uh KM)).mono ?_⟩
 rintro _ w1 ⟨rfl,b1⟩
 have hP1:=(Uh HP).1.below b1
 have HKP:=Hj ((b1.block _ (Array.getElem?_eq_some_iff.1 (Uh HP).2.2).1).trans (Uh HP).2.2)
 have HK1:=Hj ((b1.block _ (Array.getElem?_eq_some_iff.1 (Uh HP).2.1).1).trans (Uh HP).2.1)
 have bw1:=(Uh HB).trans (b1.mono (Uh HB).size)
 have HP1:=Hj hP1
 have HB1:=Hj bw1
 clear p0 p1 p2 p3
 have p0:=(hP1.all 0 _ rfl).1
 have p1:=(hP1.all 1 _ rfl).1
 have p2:=(hP1.all 2 _ rfl).1
 have p3:=(hP1.all 3 _ rfl).1
 have KG:=Hj (sgridOf_any R (R:Int) a1 a2 n1 c1 n2 c2 st cols w1 ((Uh HS).1.below bw1) ((Uh HS).2.below bw1) hb1 hb2 (Uh HM))
 unfold patV at KG
 clear b1 hP1 bw1 KM
 gi_wp2_with fail
 refine ⟨trivial,(callsIn_wide.2 (Uh KG)).mono ?_⟩
 rintro _ w3 ⟨t,L,f,hLL,rfl,hL,b3⟩
 have HL:=Hj (And.intro hL hLL)
 have HB3:=Hj b3
 clear hL hLL b3 KG p0 p1 p2 p3
 gi_wp2_with fail
 refine ⟨trivial,(cells_in 3 (R:Int) L R w3).mono ?_⟩
 rintro _ _ ⟨rfl,rfl⟩
 obtain ⟨wf,hwf⟩:∃ y,w3.alloc (.cells #[.int .i64 (R:Int),.slice (some ⟨L,0,none⟩) R R] 178) = y:=⟨_,rfl⟩
 have bwf:Below w3.heap.size w3 wf:=by rw [← hwf]; exact bAl
 have hbox:=BoxP.made w3 #[.int .i64 (R:Int),.slice (some ⟨L,0,none⟩) R R] 178
 rw [hwf] at hbox
 have hLf:=(Uh HL).1.below bwf
 have hw3:=(Uh HB3).size
 have hLL:=(Uh HL).2
 have hfit:=(Uh HM).head.fit
 have hG:GrZ wf (fun _ => False) wf.heap.size w3.heap.size L R f (rowC st cols):=by
  refine ⟨(hbox.all 1 _ rfl).1,⟨hbox.lt,id⟩,⟨hLf.row.lt,id⟩,fun r hr => hLf.row.cell hr,fun r hr => ?_⟩
  obtain ⟨a,c,e,s⟩:=own_slG (hLf.own r hr)
  refine ⟨a,c,e,s,fun z hz hne => ?_⟩
  have:=own_ge (hLf.own r hr) z.block (by rw [e,hz]; rfl)
  exact ⟨this.2,id⟩
 have HSeq:=cells_stops 3 (by decide) (fun _ => False) w3.heap.size L R f (rowC st cols) wf (by omega) (fun r hr => by
  have h1:=(Uh HLN).2.1
  unfold rowC
  rw [List.length_take,List.length_drop]
  omega) hG
 have hb1f:Below w1.heap.size w1 wf:=(Uh HB3).trans (bwf.mono hw3)
 have hbw:Below w.heap.size w wf:=(Uh HB1).trans (hb1f.mono (Uh HB1).size)
 have HI0:=Hj (show SmI w wf w.heap.size wb.heap.size #[Value.int .i64 (R:Int),.int .i64 (R:Int),.slice a1 n1 c1,.slice a2 n2 c2] ∧ ∀ x ∈ ([]:List (Int × Int)),HasP (R:Int) (R:Int) st cols x.2 x.1 from ⟨⟨hbw,(hb1f.block _ (Array.getElem?_eq_some_iff.1 (Uh HKP)).1).trans (Uh HKP),(hb1f.block _ (Array.getElem?_eq_some_iff.1 (Uh HK1)).1).trans (Uh HK1)⟩,fun x hx => by cases hx⟩)
 have hle9:=hbw.size
 have hrl:wb.heap.size < wf.heap.size:=by have:=hb1f.size; have:=(Array.getElem?_eq_some_iff.1 (Uh HK1)).1; omega
 clear bwf hbox hLf hw3 hLL hG hb1f hbw hfit
 gi_wp2_with fail
 clear hwf
 refine wpIn_rangeFunc_ownH (F:=Fence.wide) (n:=4) rfl (by decide) (gf:=139) (lb:=#[.pointer (some ⟨w3.heap.size,0,none⟩)]) rfl trivial (enters_of Tryz.func139 (by kernel_rfl) rfl)
  HSeq kpY_t (kpY_b (Nat.le_refl _)) (Below.refl _ _) (fun _ => rfl)
  (fun (pre:List (Int × Int)) W => SmI w W w.heap.size wb.heap.size #[Value.int .i64 (R:Int),.int .i64 (R:Int),.slice a1 n1 c1,.slice a2 n2 c2] ∧ ∀ x ∈ pre,HasP (R:Int) (R:Int) st cols x.2 x.1)
  (fun c pre W => SmI w W w.heap.size wb.heap.size #[Value.int .i64 (R:Int),.int .i64 (R:Int),.slice a1 n1 c1,.slice a2 n2 c2] ∧ (c = .ret ∧ ∃ x ∈ pre,¬ HasP (R:Int) (R:Int) st cols x.2 x.1))
  (SmI.own (fun pre:List (Int × Int) => ∀ x ∈ pre,HasP (R:Int) (R:Int) st cols x.2 x.1) hle9)
  (fun c => SmI.own (fun pre:List (Int × Int) => c = .ret ∧ ∃ x ∈ pre,¬ HasP (R:Int) (R:Int) st cols x.2 x.1) hle9)
  (Uh HI0)
  (fun x a' W => ∃ ab,a' = ({ tmps:=#[Value.agg #[Value.int IntKind.i64 (R:Int),Value.int IntKind.i64 (R:Int),Value.slice a1 n1 c1,Value.slice a2 n2 c2],Value.pointer (some { block:=w.heap.size,off:=0 }),Value.pointer (some { block:=wb.heap.size,off:=0 }),Value.pointer (some { block:=ab,off:=0 }),undef,undef,Value.agg #[Value.int IntKind.i64 (R:Int),Value.int IntKind.i64 (R:Int),Value.slice a1 n1 c1,Value.slice a2 n2 c2],Value.int IntKind.i64 0,Value.bool false,Value.agg #[Value.int IntKind.i64 (R:Int),Value.int IntKind.i64 (R:Int),Value.slice a1 n1 c1,Value.slice a2 n2 c2],Value.agg #[Value.int IntKind.i64 (R:Int),Value.slice (some { block:=L,off:=0 }) R R],Value.func (Fn.func 139) #[] #[Value.pointer (some { block:=w3.heap.size,off:=0 })],Value.agg #[Value.int IntKind.i64 x.1,Value.int IntKind.i64 x.2],Value.agg #[],undef,undef,undef,undef,undef,undef,undef,undef,undef,undef,undef],defers:=[] }:Act) ∧ W.heap[ab]? = some (Obj.cells #[.int .i64 x.1,.int .i64 x.2] 184 (0,0)))
  (fun x a' _ W W' row h hg hr => by
   obtain ⟨ab,e,hb⟩:=h
   exact ⟨ab,e,blk_keptP hb hg (fun r e => (hr r e).2)⟩) ?assign ?body ?done ?stop
 case assign =>
  intro l pre x W K hI hK
  unfold encP
  gi_wp2
  exact hK _ _ ⟨by simp,fun k o h1 h2 h3 => (((bAl)).block k (Array.getElem?_eq_some_iff.1 h2).1).trans h2⟩ (Chg.of_below (bAl)) (SmI.own (fun pre:List (Int × Int) => ∀ x ∈ pre,HasP (R:Int) (R:Int) st cols x.2 x.1) hle9 pre W _ none hI (grown_alloc W _) (fun r e => by cases e)) ⟨_,rfl,alloc_block _ _⟩
 case body =>
  rintro l pre x a' W hl hrec hI ⟨ab,rfl,hab⟩ hlen
  obtain ⟨rr,cc⟩:=x
  have p0:=(cell_of_block hI.1.bp 0).trans (show _ = some (Value.int .i64 (R:Int)) from rfl)
  have p1:=(cell_of_block hI.1.bp 1).trans (show _ = some (Value.int .i64 (R:Int)) from rfl)
  have p2:=(cell_of_block hI.1.bp 2).trans (show _ = some (Value.slice a1 n1 c1) from rfl)
  have p3:=(cell_of_block hI.1.bp 3).trans (show _ = some (Value.slice a2 n2 c2) from rfl)
  have at0:W.cell? ⟨ab,0,none⟩ = some (.int .i64 rr):=(cell_of_block hab 0).trans rfl
  have at1:W.cell? ⟨ab,1,none⟩ = some (.int .i64 cc):=(cell_of_block hab 1).trans rfl
  obtain ⟨fd,hfd⟩:=truth (HasP (R:Int) (R:Int) st cols cc rr)
  have KF:=Hj (find_any (R:Int) (R:Int) a1 a2 n1 c1 n2 c2 st cols cc rr W ((Uh HS).1.below hI.1.bel) ((Uh HS).2.below hI.1.bel) (by omega) (by omega) (Uh HM) fd hfd)
  unfold patV at KF
  have HFD:=Hj (show TruQ fd _ from hfd)
  have HI:=Hj hI
  clear hI hrec hl hab hlen hfd
  dsimp only
  gi_wp2_with fail
  refine ⟨trivial,(CallsIn.inRound l (callsIn_wide.2 (Uh KF))).mono ?_⟩
  rintro _ W2 ⟨z,rfl,b2⟩
  have hI2:=(Uh HI).1.below b2
  have br:=(cell_of_block hI2.br 0).trans (show _ = some (Value.bool false) from rfl)
  have bf:=frz_blk hI2.br 0
  have HI2:=Hj hI2
  have HKF:=Hj (show KeepsFrom wf.heap.size W W2 from ⟨b2.size,fun j o hB hj ho => (b2.block j (Array.getElem?_eq_some_iff.1 hj).1).trans hj⟩)
  have HKp:=Hj (show KpY (fun _ => False) wf.heap.size W W2 from Chg.of_below b2)
  clear hI2 b2 KF p0 p1 p2 p3 at0 at1
  have hpr:w.heap.size ≠ wb.heap.size:=fun e => by have h1:=(Uh HI2).bp; have h2:=(Uh HI2).br; rw [e,h2] at h1; cases h1
  cases fd
  ·gi_wp2_with fail
   have cc2:Chg (fun j => j = wb.heap.size) W2 (W2.setCell ⟨wb.heap.size,0,none⟩ (.bool false)):=Chg.of_set _ _ _ _ rfl
   refine ⟨⟨Nat.le_trans (Uh HKF).size cc2.size,fun j o hB hj ho => ?_⟩,⟨⟨(Uh HI2).bel.trans (cc2.below (Uh HI2).bel.size (fun j hj e => by have:=Uh HWB; omega)),?_,?_⟩,rfl,(rr,cc),by simp,fun h => ?_⟩⟩
   ·have h5:=(Uh HKF).same j o hB hj ho
    exact (cc2.block j (Array.getElem?_eq_some_iff.1 h5).1 (fun e => by omega)).trans h5
   ·exact (cc2.block _ (Array.getElem?_eq_some_iff.1 (Uh HI2).bp).1 hpr).trans (Uh HI2).bp
   ·simp [World.setCell,Array.getElem?_modify,(Uh HI2).br]
   ·exact absurd (Iff.mpr (Uh HFD) h) (by decide)
  ·gi_wp2_with fail
   refine ⟨Uh HKF,Uh HKp,Uh HI2,fun x hx => ?_⟩
   rcases List.mem_append.1 hx with h | h
   ·exact (Uh HI).2 x h
   ·obtain rfl:x = (rr,cc):=by simpa using h
    exact Iff.mp (Uh HFD) rfl
 case done =>
  rintro D ys W hD hys hI hK
  subst hys
  have hokt:ok = true:=Iff.mpr (Uh HOK) ((SyP.all (Uh HM)).2 hI.2)
  subst hokt
  have br:=(cell_of_block hI.1.br 0).trans (show _ = some (Value.bool false) from rfl)
  have bf:=frz_blk hI.1.br 0
  have HI:=Hj hI.1
  clear hI HSeq
  gi_wp2_with fail
  have cc2:Chg (fun j => j = wb.heap.size) W (W.setCell ⟨wb.heap.size,0,none⟩ (.bool true)):=Chg.of_set _ _ _ _ rfl
  have hK2:=(cc2.block D (Array.getElem?_eq_some_iff.1 hK).1 (fun e => by omega)).trans hK
  have hv:=World.cell?_setCell_same W ⟨wb.heap.size,0,none⟩ (.bool true) br
  generalize W.setCell ⟨wb.heap.size,0,none⟩ (.bool true) = Wz at *
  have hbz:=(Uh HI).bel.trans (cc2.below (Uh HI).bel.size (fun j hj e => by have:=Uh HWB; omega))
  have g:=grownBy_putObj' Wz D (Obj.deferred none)
  have hv2:=(g.cell_far ⟨wb.heap.size,0,none⟩ (World.block_lt_of_cell? _ _ hv) (fun e => by injection e with e; simp at e; omega)).trans hv
  refine ⟨by simp,.inl ⟨_,_,rfl,run_takeDeferred hK2,?_⟩⟩
  refine ⟨.bool true,by simp [results,Tryz.results80,go_sem,hv2]; try rfl,?_⟩
  exact ⟨rfl,Below.grown hbz g hbz.size (fun k e => by injection e with e; omega)⟩
 case stop =>
  rintro D c pre W hD hpre ⟨hI,rfl,hx⟩ hK
  have hokf:ok = false:=by
   cases hk:ok
   ·rfl
   ·obtain ⟨x,hx1,hx2⟩:=hx
    exact absurd ((SyP.all (Uh HM)).1 (Iff.mp (Uh HOK) hk) x (hpre.2.subset hx1)) hx2
  subst hokf
  have br:=(cell_of_block hI.br 0).trans (show _ = some (Value.bool false) from rfl)
  have HI:=Hj hI
  clear hI HSeq
  gi_wp2_with fail
  have g:=grownBy_putObj' W D (Obj.deferred none)
  have hv2:=(g.cell_far ⟨wb.heap.size,0,none⟩ (World.block_lt_of_cell? _ _ br) (fun e => by injection e with e; simp at e; omega)).trans br
  refine ⟨by simp,.inl ⟨_,_,rfl,run_takeDeferred hK,?_⟩⟩
  refine ⟨.bool false,by simp [results,Tryz.results80,go_sem,hv2]; try rfl,?_⟩
  exact ⟨rfl,Below.grown (Uh HI).bel g (Uh HI).bel.size (fun k e => by injection e with e; omega)⟩
end Go.Proofs.YtgjokididdffhaaGreat
namespace Go.Proofs.YtgjokididdffhaaGreat
open Go.RowKit Go.Deep
set_option linter.unusedVariables false
set_option maxRecDepth 100000 in
set_option maxHeartbeats 16000000 in
theorem ssym_no (R width:Nat) (a1 a2:Option Addr) (n1 c1 n2 c2:Nat) (st cols:List Int) (w:World) (h1:SlI w a1 n1 c1 st) (h2:SlI w a2 n2 c2 cols) (hb1:n1 ≤ 17592186044000) (hb2:n2 ≤ 17592186044000) (hm:MayP (R:Int) (width:Int) st cols) (hne:R ≠ width) :
  Calls Tryz.prog 80 #[patV (R:Int) (width:Int) a1 n1 c1 a2 n2 c2] w fun e w' => e = .returned (.bool false) ∧ Below w.heap.size w w':=by
 obtain ⟨wb,hwb⟩:∃ x,w.alloc (.cells #[.int .i64 (R:Int),.int .i64 (width:Int),.slice a1 n1 c1,.slice a2 n2 c2] 25) = x:=⟨_,rfl⟩
 have bb:Below w.heap.size w wb:=by rw [← hwb]; exact bAl
 have hT:=BoxP.made w #[.int .i64 (R:Int),.int .i64 (width:Int),.slice a1 n1 c1,.slice a2 n2 c2] 25
 rw [hwb] at hT
 have hO0:=BoxP.made wb #[.bool false] 4
 obtain ⟨wo,hwo⟩:∃ x,wb.alloc (.cells #[.bool false] 4) = x:=⟨_,rfl⟩
 have bo:Below wb.heap.size wb wo:=by rw [← hwo]; exact bAl
 rw [hwo] at hO0
 have hT1:=hT.below bo
 have p0:=(hT1.all 0 _ rfl).1
 have p1:=(hT1.all 1 _ rfl).1
 have p2:=(hT1.all 2 _ rfl).1
 have p3:=(hT1.all 3 _ rfl).1
 have bw:=bb.trans (bo.mono bb.size)
 have KM:=Hj (ssquare_yes R width a1 a2 n1 c1 n2 c2 st cols wo (h1.below bw) (h2.below bw) (by omega) (by omega) hm)
 rw [if_neg hne] at KM
 have HO:=Hj hO0
 have HB:=Hj bw
 have HWB:=Hj bb.size
 clear hT hT1 hO0 bb bo bw h1 h2 hm hne
 unfold patV
 unfold patV at KM
 go_enter Tryz.func80,Tryz.ntmps80
 go_wp2_with fail
 refine (Uh KM).mono ?_
 rintro _ w2 ⟨rfl,b2⟩
 have hO2:=(Uh HO).below b2
 have o0:=(hO2.all 0 _ rfl).1
 have r0:=(hO2.all 0 _ rfl).2
 have HB2:=Hj ((Uh HB).trans (b2.mono (Uh HB).size))
 have HO2:=Hj hO2
 clear b2 hO2 KM p0 p1 p2 p3
 go_wp2_with fail
 have hf:=(Uh HO2).put 0 (.bool false)
 have t0:=(hf.all 0 _ rfl).1
 have cc:Chg (fun j => j = wb.heap.size) w2 (w2.setCell ⟨wb.heap.size,0,none⟩ (.bool false)):=Chg.of_set _ _ _ _ rfl
 generalize w2.setCell ⟨wb.heap.size,0,none⟩ (.bool false) = wf at *
 refine bodyPost_ret (by simp [results,Tryz.results80,go_sem,t0]; try rfl) rfl ?_
 exact ⟨rfl,(Uh HB2).trans (cc.below (Uh HB2).size (fun j hj e => by have:=Uh HWB; omega))⟩
set_option maxRecDepth 20000 in
set_option maxHeartbeats 8000000 in
theorem sindex_any (a:Option Addr) (n c:Nat) (xs:List Int) (t:Int) (w:World) (h:SlI w a n c xs) (hn:n ≤ 140737488355328) :
  Calls Tryz.prog 140 #[.slice a n c,.int .i64 t] w fun e w' => ∃ z:Int,e = .returned (.int .i64 z) ∧ (0 ≤ z ↔ HasX xs n t) ∧ Below w.heap.size w w':=by
 have HS:=Hj h
 clear h
 go_enter Tryz.func140,Tryz.ntmps140
 go_wp2_with fail
 go_loopw [8,5] (fun iv _ wr => ∃ i:Nat,i ≤ n ∧ iv = .int .i64 (i:Int) ∧ Hid (∀ k,k < i → xs.getD k 0 ≠ t) ∧ Hid (Below w.heap.size w wr)) (fun iv _ _ => n - (intOf iv).toNat)
 case atStart => exact ⟨0,Nat.zero_le _,rfl,Hj (fun k hk => by omega),Hj (Below.refl _ _)⟩
 case round =>
  obtain ⟨i,hi,rfl,HA,HW⟩:=hrel
  by_cases hlt:i < n
  ·have hlt':(i:Int) < (n:Int):=by omega
   obtain ⟨b,off,rfl,hc⟩:=((Uh HS).below (Uh HW)).at (by omega)
   have hx:=hc i hlt
   obtain ⟨x,hxx⟩:∃ x,xs.getD i 0 = x:=⟨_,rfl⟩
   rw [hxx] at hx
   have HX:=Hj hxx
   clear hc hxx
   by_cases he:t = x
   ·have he':(t == x) = true:=by simp [he]
    have HE:=Hj he
    clear he
    go_wp2_with fail
    try go_ret
    exact ⟨_,rfl,⟨fun _ => ⟨i,hlt,(Uh HX).trans (Uh HE).symm⟩,fun _ => by omega⟩,Uh HW⟩
   ·have he':(t == x) = false:=by simp [he]
    have HE:=Hj he
    clear he
    go_wp2_with fail
    refine ⟨⟨i + 1,by omega,by (first | rfl | go_num),Hj (fun k hk => ?_),HW⟩,by simp [intOf]; omega⟩
    by_cases e:k = i
    ·rw [e,Uh HX]; exact fun h => Uh HE h.symm
    ·exact Uh HA k (by omega)
  ·obtain rfl:i = n:=by omega
   have hlt':¬ (i:Int) < (i:Int):=by omega
   go_wp2_with fail
   try go_ret
   exact ⟨_,rfl,⟨fun h => by omega,fun ⟨k,hk,e⟩ => absurd e (Uh HA k hk)⟩,Uh HW⟩
set_option maxRecDepth 20000 in
set_option maxHeartbeats 8000000 in
theorem scontains_any (a:Option Addr) (n c:Nat) (xs:List Int) (t:Int) (w:World) (h:SlI w a n c xs) (hn:n ≤ 140737488355328) (ok:Bool) (hok:TruQ ok (HasX xs n t)) :
  Calls Tryz.prog 119 #[.slice a n c,.int .i64 t] w fun e w' => e = .returned (.bool ok) ∧ Below w.heap.size w w':=by
 have KI:=Hj (sindex_any a n c xs t w h hn)
 have HOK:=Hj hok
 clear h hok
 go_enter Tryz.func119,Tryz.ntmps119
 go_wp2_with fail
 refine (Uh KI).mono ?_
 rintro _ w2 ⟨z,rfl,hz,b2⟩
 have hd:decide (0 ≤ z) = ok:=by
  cases hk:ok
  ·exact decide_eq_false (fun h => by have:=Iff.mpr (Uh HOK) (hz.1 h); rw [hk] at this; cases this)
  ·exact decide_eq_true (hz.2 (Iff.mp (Uh HOK) hk))
 have HB:=Hj b2
 clear KI hz b2 HOK
 go_wp2_with fail
 try go_ret
 exact ⟨by simp_all,Uh HB⟩
def DiP (st cols:List Int) (k:Nat):Prop:=∃ r,r < k ∧ InC st cols r r
set_option maxRecDepth 100000 in
set_option maxHeartbeats 16000000 in
theorem chasdiag_any (R width:Nat) (a1 a2:Option Addr) (n1 c1 n2 c2:Nat) (st cols:List Int) (w:World) (h1:SlI w a1 n1 c1 st) (h2:SlI w a2 n2 c2 cols) (hb1:n1 ≤ 17592186044416) (hb2:n2 ≤ 17592186044416) (hm:MayP (R:Int) (width:Int) st cols) (ok:Bool) (hok:TruQ ok (DiP st cols R)) :
  Calls Tryz.prog 81 #[patV (R:Int) (width:Int) a1 n1 c1 a2 n2 c2] w fun e w' => e = .returned (.bool ok) ∧ Below w.heap.size w w':=by
 obtain ⟨wb,hwb⟩:∃ x,w.alloc (.cells #[.int .i64 (R:Int),.int .i64 (width:Int),.slice a1 n1 c1,.slice a2 n2 c2] 25) = x:=⟨_,rfl⟩
 have bb:Below w.heap.size w wb:=by rw [← hwb]; exact bAl
 have hT:=BoxP.made w #[.int .i64 (R:Int),.int .i64 (width:Int),.slice a1 n1 c1,.slice a2 n2 c2] 25
 rw [hwb] at hT
 have p0:=(hT.all 0 _ rfl).1
 have p1:=(hT.all 1 _ rfl).1
 have p2:=(hT.all 2 _ rfl).1
 have p3:=(hT.all 3 _ rfl).1
 have KR:=Hj (crows_any R (width:Int) a1 a2 n1 c1 n2 c2 st cols wb (h1.below bb) (h2.below bb) hb1 hb2 hm)
 have hR8:R ≤ 128:=by have:=hm.head.fit; omega
 have HS:=Hj h2
 have HB:=Hj bb
 have HM:=Hj hm
 have HOK:=Hj hok
 clear hT bb h1 h2 hm hok
 unfold patV
 unfold patV at KR
 go_enter Tryz.func81,Tryz.ntmps81
 go_wp2_with fail
 refine (Uh KR).mono ?_
 rintro _ wl ⟨L,hLs,rfl,hL,bl⟩
 have bwl:=(Uh HB).trans (bl.mono (Uh HB).size)
 have HLs:=Hj (hL.lsI ((Uh HS).below bwl) hb2 (Uh HM))
 have HBl:=Hj bwl
 clear hL hLs bl bwl KR p0 p1 p2 p3
 go_wp2_with fail
 go_loopw [8,3] (fun kv _ wr => ∃ k:Nat,k ≤ R ∧ kv = .int .i64 (k:Int) ∧ Hid (¬ DiP st cols k) ∧ Hid (Below wl.heap.size wl wr)) (fun kv _ _ => R - (intOf kv).toNat)
 case atStart => exact ⟨0,Nat.zero_le _,rfl,Hj (fun ⟨r,h,_⟩ => absurd h (Nat.not_lt_zero _)),Hj (Below.refl _ _)⟩
 case round =>
  obtain ⟨k,hk,rfl,HA,HW⟩:=hrel
  by_cases hlt:k < R
  ·have hlt':(k:Int) < (R:Int):=by omega
   obtain ⟨a,q,c,hcell,hsl,hq⟩:=Uh HLs k hlt
   have hcr:=(Uh HW).cell (World.block_lt_of_cell? _ _ hcell) |>.trans hcell
   obtain ⟨fd,hfd⟩:=truth (HasX (rowL st cols k) q (k:Int))
   have KC:=Hj (scontains_any a q c (rowL st cols k) (k:Int) wr (hsl.below (Uh HW)) (by omega) fd hfd)
   have HFD:=Hj (show TruQ fd (InC st cols k k) from (show fd = true ↔ _ from hfd).trans (by
    rw [← rowL_mem (Uh HM) hlt,mem_getD,hsl.len]
    rfl))
   clear hcell hsl hfd
   go_wp2_with fail
   refine (Uh KC).mono ?_
   rintro _ w2 ⟨rfl,b2⟩
   have HW2:=Hj ((Uh HW).trans (b2.mono (Uh HW).size))
   clear b2 KC hcr
   cases fd
   ·go_wp2_with fail
    refine ⟨⟨k + 1,by omega,by (first | rfl | go_num),Hj (fun ⟨r,h,e⟩ => ?_),HW2⟩,by simp [intOf]; omega⟩
    by_cases e2:r = k
    ·subst e2
     exact absurd (Iff.mpr (Uh HFD) e) (by decide)
    ·exact Uh HA ⟨r,by omega,e⟩
   ·go_wp2_with fail
    try go_ret
    refine ⟨?_,(Uh HBl).trans ((Uh HW2).mono (Uh HBl).size)⟩
    have hk3:ok = true:=Iff.mpr (Uh HOK) ⟨k,hlt,Iff.mp (Uh HFD) rfl⟩
    subst hk3
    first | rfl | simp
  ·obtain rfl:k = R:=by omega
   have hlt':¬ (k:Int) < (k:Int):=by omega
   go_wp2_with fail
   try go_ret
   refine ⟨?_,(Uh HBl).trans ((Uh HW).mono (Uh HBl).size)⟩
   cases hk2:ok
   ·rfl
   ·exact absurd (Iff.mp (Uh HOK) hk2) (Uh HA)
def GraP (st cols:List Int) (R width:Nat):Prop:=R = width ∧ SyP st cols R ∧ ¬ DiP st cols R
set_option maxRecDepth 100000 in
set_option maxHeartbeats 16000000 in
theorem citself_yes (R width:Nat) (a1 a2:Option Addr) (n1 c1 n2 c2:Nat) (st cols:List Int) (w:World) (h1:SlI w a1 n1 c1 st) (h2:SlI w a2 n2 c2 cols) (hb1:n1 ≤ 17592186044000) (hb2:n2 ≤ 17592186044000) (hm:MayP (R:Int) (width:Int) st cols) (hg:GraP st cols R width) :
  Calls Tryz.prog 49 #[patV (R:Int) (width:Int) a1 n1 c1 a2 n2 c2] w fun e w' => e = .returned (.tuple #[patV (R:Int) (width:Int) a1 n1 c1 a2 n2 c2,.int .i64 0]) ∧ Below w.heap.size w w':=by
 obtain ⟨e1,hsy,hdi⟩:=hg
 subst e1
 obtain ⟨wb,hwb⟩:∃ x,w.alloc (.cells #[.int .i64 (R:Int),.int .i64 (R:Int),.slice a1 n1 c1,.slice a2 n2 c2] 25) = x:=⟨_,rfl⟩
 have bb:Below w.heap.size w wb:=by rw [← hwb]; exact bAl
 have hT:=BoxP.made w #[.int .i64 (R:Int),.int .i64 (R:Int),.slice a1 n1 c1,.slice a2 n2 c2] 25
 rw [hwb] at hT
 have hO0:=BoxP.made wb #[.int .i64 0,.int .i64 0,.slice none 0 0,.slice none 0 0] 25
 obtain ⟨wo,hwo⟩:∃ x,wb.alloc (.cells #[.int .i64 0,.int .i64 0,.slice none 0 0,.slice none 0 0] 25) = x:=⟨_,rfl⟩
 have bo:Below wb.heap.size wb wo:=by rw [← hwo]; exact bAl
 rw [hwo] at hO0
 have hT1:=hT.below bo
 have p0:=(hT1.all 0 _ rfl).1
 have p1:=(hT1.all 1 _ rfl).1
 have p2:=(hT1.all 2 _ rfl).1
 have p3:=(hT1.all 3 _ rfl).1
 have bw:=bb.trans (bo.mono bb.size)
 have KM:=Hj (smay_any (R:Int) (R:Int) a1 a2 n1 c1 n2 c2 st cols wo (h1.below bw) (h2.below bw) (by omega) (by omega))
 unfold patV at KM
 have HT:=Hj hT1
 have HO:=Hj hO0
 have HB:=Hj bw
 have HWB:=Hj bb.size
 have HS:=Hj (And.intro h1 h2)
 have HM:=Hj hm
 have HSY:=Hj (And.intro hsy hdi)
 have HTQ:=Hj (show TruQ true (MayP (R:Int) (R:Int) st cols) from ⟨fun _ => hm,fun _ => rfl⟩)
 clear hT hT1 hO0 bb bo bw h1 h2 hm hsy hdi
 unfold patV
 go_enter Tryz.func49,Tryz.ntmps49
 go_wp2_with fail
 refine (Uh KM).mono ?_
 intro e w2 hq
 obtain ⟨rfl,b2⟩:=hq.known (Uh HTQ)
 have hT2:=(Uh HT).below b2
 have q0:=(hT2.all 0 _ rfl).1
 have q1:=(hT2.all 1 _ rfl).1
 have q2:=(hT2.all 2 _ rfl).1
 have q3:=(hT2.all 3 _ rfl).1
 have bw2:=(Uh HB).trans (b2.mono (Uh HB).size)
 have KS:=Hj (ssym_any R a1 a2 n1 c1 n2 c2 st cols w2 ((Uh HS).1.below bw2) ((Uh HS).2.below bw2) hb1 hb2 (Uh HM) true ⟨fun _ => (Uh HSY).1,fun _ => rfl⟩)
 unfold patV at KS
 have HT2:=Hj hT2
 have HO2:=Hj ((Uh HO).below b2)
 have HB2:=Hj bw2
 clear hq KM b2 hT2 bw2 p0 p1 p2 p3
 go_wp2_with fail
 refine (Uh KS).mono ?_
 rintro _ w3 ⟨rfl,b3⟩
 have hT3:=(Uh HT2).below b3
 clear q0 q1 q2 q3
 have q0:=(hT3.all 0 _ rfl).1
 have q1:=(hT3.all 1 _ rfl).1
 have q2:=(hT3.all 2 _ rfl).1
 have q3:=(hT3.all 3 _ rfl).1
 have bw3:=(Uh HB2).trans (b3.mono (Uh HB2).size)
 have KD:=Hj (chasdiag_any R R a1 a2 n1 c1 n2 c2 st cols w3 ((Uh HS).1.below bw3) ((Uh HS).2.below bw3) (by omega) (by omega) (Uh HM) false ⟨fun e => absurd e (by decide),fun h => absurd h (Uh HSY).2⟩)
 unfold patV at KD
 have HT3:=Hj hT3
 have HO3:=Hj ((Uh HO2).below b3)
 have HB3:=Hj bw3
 clear KS b3 hT3 bw3
 go_wp2_with fail
 refine (Uh KD).mono ?_
 rintro _ w4 ⟨rfl,b4⟩
 have hT4:=(Uh HT3).below b4
 clear q0 q1 q2 q3
 have q0:=(hT4.all 0 _ rfl).1
 have q1:=(hT4.all 1 _ rfl).1
 have q2:=(hT4.all 2 _ rfl).1
 have q3:=(hT4.all 3 _ rfl).1
 have hO4:=(Uh HO3).below b4
 have o0:=(hO4.all 0 _ rfl).1
 have o1:=(hO4.all 1 _ rfl).1
 have o2:=(hO4.all 2 _ rfl).1
 have o3:=(hO4.all 3 _ rfl).1
 have r0:=(hO4.all 0 _ rfl).2
 have r1:=(hO4.all 1 _ rfl).2
 have r2:=(hO4.all 2 _ rfl).2
 have r3:=(hO4.all 3 _ rfl).2
 have HO4:=Hj hO4
 have HB4:=Hj ((Uh HB3).trans (b4.mono (Uh HB3).size))
 clear KD b4 hT4 hO4
 go_wp2_with fail
 have hf:=((((Uh HO4).put 0 (.int .i64 (R:Int))).put 1 (.int .i64 (R:Int))).put 2 (.slice a1 n1 c1)).put 3 (.slice a2 n2 c2)
 have t0:=(hf.all 0 _ rfl).1
 have t1:=(hf.all 1 _ rfl).1
 have t2:=(hf.all 2 _ rfl).1
 have t3:=(hf.all 3 _ rfl).1
 have cc:Chg (fun j => j = wb.heap.size) w4 ((((w4.setCell ⟨wb.heap.size,0,none⟩ (.int .i64 (R:Int))).setCell ⟨wb.heap.size,1,none⟩ (.int .i64 (R:Int))).setCell ⟨wb.heap.size,2,none⟩ (.slice a1 n1 c1)).setCell ⟨wb.heap.size,3,none⟩ (.slice a2 n2 c2)):=(((Chg.of_set (S:=fun j => j = wb.heap.size) _ _ _ _ rfl).trans (Chg.of_set (S:=fun j => j = wb.heap.size) _ _ _ _ rfl)).trans (Chg.of_set (S:=fun j => j = wb.heap.size) _ _ _ _ rfl)).trans (Chg.of_set (S:=fun j => j = wb.heap.size) _ _ _ _ rfl)
 generalize (((w4.setCell ⟨wb.heap.size,0,none⟩ (.int .i64 (R:Int))).setCell ⟨wb.heap.size,1,none⟩ (.int .i64 (R:Int))).setCell ⟨wb.heap.size,2,none⟩ (.slice a1 n1 c1)).setCell ⟨wb.heap.size,3,none⟩ (.slice a2 n2 c2) = wf at *
 refine bodyPost_ret (by simp [results,Tryz.results49,go_sem,t0,t1,t2,t3]; try rfl) rfl ?_
 exact ⟨rfl,(Uh HB4).trans (cc.below (Uh HB4).size (fun j hj e => by have:=Uh HWB; omega))⟩
set_option maxRecDepth 100000 in
set_option maxHeartbeats 16000000 in
theorem citself_asym (R width:Nat) (a1 a2:Option Addr) (n1 c1 n2 c2:Nat) (st cols:List Int) (w:World) (h1:SlI w a1 n1 c1 st) (h2:SlI w a2 n2 c2 cols) (hb1:n1 ≤ 17592186044000) (hb2:n2 ≤ 17592186044000) (hm:MayP (R:Int) (width:Int) st cols) (hsy:¬ (R = width ∧ SyP st cols R)) :
  Calls Tryz.prog 49 #[patV (R:Int) (width:Int) a1 n1 c1 a2 n2 c2] w fun e w' => e = .returned (.tuple #[.agg #[.int .i64 0,.int .i64 0,.slice none 0 0,.slice none 0 0],.int .i64 220]) ∧ Below w.heap.size w w':=by
 obtain ⟨wb,hwb⟩:∃ x,w.alloc (.cells #[.int .i64 (R:Int),.int .i64 (width:Int),.slice a1 n1 c1,.slice a2 n2 c2] 25) = x:=⟨_,rfl⟩
 have bb:Below w.heap.size w wb:=by rw [← hwb]; exact bAl
 have hT:=BoxP.made w #[.int .i64 (R:Int),.int .i64 (width:Int),.slice a1 n1 c1,.slice a2 n2 c2] 25
 rw [hwb] at hT
 have hO0:=BoxP.made wb #[.int .i64 0,.int .i64 0,.slice none 0 0,.slice none 0 0] 25
 obtain ⟨wo,hwo⟩:∃ x,wb.alloc (.cells #[.int .i64 0,.int .i64 0,.slice none 0 0,.slice none 0 0] 25) = x:=⟨_,rfl⟩
 have bo:Below wb.heap.size wb wo:=by rw [← hwo]; exact bAl
 rw [hwo] at hO0
 have hT1:=hT.below bo
 have p0:=(hT1.all 0 _ rfl).1
 have p1:=(hT1.all 1 _ rfl).1
 have p2:=(hT1.all 2 _ rfl).1
 have p3:=(hT1.all 3 _ rfl).1
 have bw:=bb.trans (bo.mono bb.size)
 have HT:=Hj hT1
 have HO:=Hj hO0
 have HB:=Hj bw
 have HWB:=Hj bb.size
 have HS:=Hj (And.intro h1 h2)
 have KM:=Hj (smay_any (R:Int) (width:Int) a1 a2 n1 c1 n2 c2 st cols wo (h1.below bw) (h2.below bw) (by omega) (by omega))
 unfold patV at KM
 have HTQ:=Hj (show TruQ true (MayP (R:Int) (width:Int) st cols) from ⟨fun _ => hm,fun _ => rfl⟩)
 have HM:=Hj hm
 have HSY:=Hj hsy
 clear hT hT1 hO0 bb bo bw h1 h2 hm hsy
 unfold patV
 go_enter Tryz.func49,Tryz.ntmps49
 go_wp2_with fail
 refine (Uh KM).mono ?_
 intro e w2 hq
 obtain ⟨rfl,b2⟩:=hq.known (Uh HTQ)
 have hT2:=(Uh HT).below b2
 have q0:=(hT2.all 0 _ rfl).1
 have q1:=(hT2.all 1 _ rfl).1
 have q2:=(hT2.all 2 _ rfl).1
 have q3:=(hT2.all 3 _ rfl).1
 have bw2:=(Uh HB).trans (b2.mono (Uh HB).size)
 have hO2:=(Uh HO).below b2
 have KS:=Hj (show Calls Tryz.prog 80 #[patV (R:Int) (width:Int) a1 n1 c1 a2 n2 c2] w2 fun e w' => e = .returned (.bool false) ∧ Below w2.heap.size w2 w' from by
  by_cases hRw:R = width
  ·subst hRw
   exact ssym_any R a1 a2 n1 c1 n2 c2 st cols w2 ((Uh HS).1.below bw2) ((Uh HS).2.below bw2) hb1 hb2 (Uh HM) false ⟨fun e => absurd e (by decide),fun h => absurd ⟨rfl,h⟩ (Uh HSY)⟩
  ·exact ssym_no R width a1 a2 n1 c1 n2 c2 st cols w2 ((Uh HS).1.below bw2) ((Uh HS).2.below bw2) hb1 hb2 (Uh HM) hRw)
 unfold patV at KS
 have HT2:=Hj hT2
 have HO2:=Hj hO2
 have HB2:=Hj bw2
 clear hq KM b2 hT2 hO2 bw2 p0 p1 p2 p3
 go_wp2_with fail
 refine (Uh KS).mono ?_
 rintro _ w3 ⟨rfl,b3⟩
 have bw3:=(Uh HB2).trans (b3.mono (Uh HB2).size)
 have hO3:=(Uh HO2).below b3
 have o0:=(hO3.all 0 _ rfl).1
 have o1:=(hO3.all 1 _ rfl).1
 have o2:=(hO3.all 2 _ rfl).1
 have o3:=(hO3.all 3 _ rfl).1
 have r0:=(hO3.all 0 _ rfl).2
 have r1:=(hO3.all 1 _ rfl).2
 have r2:=(hO3.all 2 _ rfl).2
 have r3:=(hO3.all 3 _ rfl).2
 have HO3:=Hj hO3
 have HB3:=Hj bw3
 clear KS b3 hO3 bw3 q0 q1 q2 q3
 go_wp2_with fail
 have hf:=((((Uh HO3).put 0 (.int .i64 0)).put 1 (.int .i64 0)).put 2 (.slice none 0 0)).put 3 (.slice none 0 0)
 have t0:=(hf.all 0 _ rfl).1
 have t1:=(hf.all 1 _ rfl).1
 have t2:=(hf.all 2 _ rfl).1
 have t3:=(hf.all 3 _ rfl).1
 have cc:Chg (fun j => j = wb.heap.size) w3 ((((w3.setCell ⟨wb.heap.size,0,none⟩ (.int .i64 0)).setCell ⟨wb.heap.size,1,none⟩ (.int .i64 0)).setCell ⟨wb.heap.size,2,none⟩ (.slice none 0 0)).setCell ⟨wb.heap.size,3,none⟩ (.slice none 0 0)):=(((Chg.of_set (S:=fun j => j = wb.heap.size) _ _ _ _ rfl).trans (Chg.of_set (S:=fun j => j = wb.heap.size) _ _ _ _ rfl)).trans (Chg.of_set (S:=fun j => j = wb.heap.size) _ _ _ _ rfl)).trans (Chg.of_set (S:=fun j => j = wb.heap.size) _ _ _ _ rfl)
 generalize (((w3.setCell ⟨wb.heap.size,0,none⟩ (.int .i64 0)).setCell ⟨wb.heap.size,1,none⟩ (.int .i64 0)).setCell ⟨wb.heap.size,2,none⟩ (.slice none 0 0)).setCell ⟨wb.heap.size,3,none⟩ (.slice none 0 0) = wf at *
 refine bodyPost_ret (by simp [results,Tryz.results49,go_sem,t0,t1,t2,t3]; try rfl) rfl ?_
 exact ⟨rfl,(Uh HB3).trans (cc.below (Uh HB3).size (fun j hj e => by have:=Uh HWB; omega))⟩
set_option maxRecDepth 100000 in
set_option maxHeartbeats 16000000 in
theorem citself_diag (R:Nat) (a1 a2:Option Addr) (n1 c1 n2 c2:Nat) (st cols:List Int) (w:World) (h1:SlI w a1 n1 c1 st) (h2:SlI w a2 n2 c2 cols) (hb1:n1 ≤ 17592186044000) (hb2:n2 ≤ 17592186044000) (hm:MayP (R:Int) (R:Int) st cols) (hsy:SyP st cols R) (hdi:DiP st cols R) :
  Calls Tryz.prog 49 #[patV (R:Int) (R:Int) a1 n1 c1 a2 n2 c2] w fun e w' => e = .returned (.tuple #[.agg #[.int .i64 0,.int .i64 0,.slice none 0 0,.slice none 0 0],.int .i64 220]) ∧ Below w.heap.size w w':=by
 obtain ⟨wb,hwb⟩:∃ x,w.alloc (.cells #[.int .i64 (R:Int),.int .i64 (R:Int),.slice a1 n1 c1,.slice a2 n2 c2] 25) = x:=⟨_,rfl⟩
 have bb:Below w.heap.size w wb:=by rw [← hwb]; exact bAl
 have hT:=BoxP.made w #[.int .i64 (R:Int),.int .i64 (R:Int),.slice a1 n1 c1,.slice a2 n2 c2] 25
 rw [hwb] at hT
 have hO0:=BoxP.made wb #[.int .i64 0,.int .i64 0,.slice none 0 0,.slice none 0 0] 25
 obtain ⟨wo,hwo⟩:∃ x,wb.alloc (.cells #[.int .i64 0,.int .i64 0,.slice none 0 0,.slice none 0 0] 25) = x:=⟨_,rfl⟩
 have bo:Below wb.heap.size wb wo:=by rw [← hwo]; exact bAl
 rw [hwo] at hO0
 have hT1:=hT.below bo
 have p0:=(hT1.all 0 _ rfl).1
 have p1:=(hT1.all 1 _ rfl).1
 have p2:=(hT1.all 2 _ rfl).1
 have p3:=(hT1.all 3 _ rfl).1
 have bw:=bb.trans (bo.mono bb.size)
 have HT:=Hj hT1
 have HO:=Hj hO0
 have HB:=Hj bw
 have HWB:=Hj bb.size
 have HS:=Hj (And.intro h1 h2)
 have KM:=Hj (smay_any (R:Int) (R:Int) a1 a2 n1 c1 n2 c2 st cols wo (h1.below bw) (h2.below bw) (by omega) (by omega))
 unfold patV at KM
 have HTQ:=Hj (show TruQ true (MayP (R:Int) (R:Int) st cols) from ⟨fun _ => hm,fun _ => rfl⟩)
 have HM:=Hj hm
 have HSY:=Hj (And.intro hsy hdi)
 clear hT hT1 hO0 bb bo bw h1 h2 hm hsy hdi
 unfold patV
 go_enter Tryz.func49,Tryz.ntmps49
 go_wp2_with fail
 refine (Uh KM).mono ?_
 intro e w2 hq
 obtain ⟨rfl,b2⟩:=hq.known (Uh HTQ)
 have hT2:=(Uh HT).below b2
 have q0:=(hT2.all 0 _ rfl).1
 have q1:=(hT2.all 1 _ rfl).1
 have q2:=(hT2.all 2 _ rfl).1
 have q3:=(hT2.all 3 _ rfl).1
 have bw2:=(Uh HB).trans (b2.mono (Uh HB).size)
 have hO2:=(Uh HO).below b2
 have KS:=Hj (ssym_any R a1 a2 n1 c1 n2 c2 st cols w2 ((Uh HS).1.below bw2) ((Uh HS).2.below bw2) hb1 hb2 (Uh HM) true ⟨fun _ => (Uh HSY).1,fun _ => rfl⟩)
 unfold patV at KS
 have HT2:=Hj hT2
 have HO2:=Hj hO2
 have HB2:=Hj bw2
 clear hq KM b2 hT2 hO2 bw2 p0 p1 p2 p3
 go_wp2_with fail
 refine (Uh KS).mono ?_
 rintro _ w3 ⟨rfl,b3⟩
 have bw3:=(Uh HB2).trans (b3.mono (Uh HB2).size)
 have hT3:=(Uh HT2).below b3
 clear q0 q1 q2 q3
 have q0:=(hT3.all 0 _ rfl).1
 have q1:=(hT3.all 1 _ rfl).1
 have q2:=(hT3.all 2 _ rfl).1
 have q3:=(hT3.all 3 _ rfl).1
 have KD:=Hj (chasdiag_any R R a1 a2 n1 c1 n2 c2 st cols w3 ((Uh HS).1.below bw3) ((Uh HS).2.below bw3) (by omega) (by omega) (Uh HM) true ⟨fun _ => (Uh HSY).2,fun _ => rfl⟩)
 unfold patV at KD
 have HO3:=Hj ((Uh HO2).below b3)
 have HB3:=Hj bw3
 clear KS b3 hT3 bw3
 go_wp2_with fail
 refine (Uh KD).mono ?_
 rintro _ w4 ⟨rfl,b4⟩
 have hO4:=(Uh HO3).below b4
 have o0:=(hO4.all 0 _ rfl).1
 have o1:=(hO4.all 1 _ rfl).1
 have o2:=(hO4.all 2 _ rfl).1
 have o3:=(hO4.all 3 _ rfl).1
 have r0:=(hO4.all 0 _ rfl).2
 have r1:=(hO4.all 1 _ rfl).2
 have r2:=(hO4.all 2 _ rfl).2
 have r3:=(hO4.all 3 _ rfl).2
 have HO4:=Hj hO4
 have HB4:=Hj ((Uh HB3).trans (b4.mono (Uh HB3).size))
 clear KD b4 hO4 q0 q1 q2 q3
 go_wp2_with fail
 have hf:=((((Uh HO4).put 0 (.int .i64 0)).put 1 (.int .i64 0)).put 2 (.slice none 0 0)).put 3 (.slice none 0 0)
 have t0:=(hf.all 0 _ rfl).1
 have t1:=(hf.all 1 _ rfl).1
 have t2:=(hf.all 2 _ rfl).1
 have t3:=(hf.all 3 _ rfl).1
 have cc:Chg (fun j => j = wb.heap.size) w4 ((((w4.setCell ⟨wb.heap.size,0,none⟩ (.int .i64 0)).setCell ⟨wb.heap.size,1,none⟩ (.int .i64 0)).setCell ⟨wb.heap.size,2,none⟩ (.slice none 0 0)).setCell ⟨wb.heap.size,3,none⟩ (.slice none 0 0)):=(((Chg.of_set (S:=fun j => j = wb.heap.size) _ _ _ _ rfl).trans (Chg.of_set (S:=fun j => j = wb.heap.size) _ _ _ _ rfl)).trans (Chg.of_set (S:=fun j => j = wb.heap.size) _ _ _ _ rfl)).trans (Chg.of_set (S:=fun j => j = wb.heap.size) _ _ _ _ rfl)
 generalize (((w4.setCell ⟨wb.heap.size,0,none⟩ (.int .i64 0)).setCell ⟨wb.heap.size,1,none⟩ (.int .i64 0)).setCell ⟨wb.heap.size,2,none⟩ (.slice none 0 0)).setCell ⟨wb.heap.size,3,none⟩ (.slice none 0 0) = wf at *
 refine bodyPost_ret (by simp [results,Tryz.results49,go_sem,t0,t1,t2,t3]; try rfl) rfl ?_
 exact ⟨rfl,(Uh HB4).trans (cc.below (Uh HB4).size (fun j hj e => by have:=Uh HWB; omega))⟩
end Go.Proofs.YtgjokididdffhaaGreat
