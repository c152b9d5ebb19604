/- Cg9 -/
import Derived.Test.YtgjokididdffhaaGreatCg8
namespace Go.Proofs.YtgjokididdffhaaGreat
open Go.RowKit Go.Deep
set_option linter.unusedVariables false
structure LnI (W:World) (t L R:Nat) (f:Nat → Value) (xs:Nat → List Int):Prop where
 row:W.rowIs L 23 R f
 own:∀ r,r < R → W.ownsRow t 3 1 (f r) (xs r).length (valsI (xs r))
 apart:∀ r s,r < R → s < R → r ≠ s → ∀ g,(f r).ownBlock = some g → (f s).ownBlock ≠ some g
theorem LnI.congr {W:World} {t L R:Nat} {f:Nat → Value} {xs ys:Nat → List Int} (h:LnI W t L R f xs) (e:∀ r,r < R → xs r = ys r):LnI W t L R f ys:=⟨h.row,fun r hr => by rw [← e r hr]; exact h.own r hr,h.apart⟩
theorem LnI.chg {S:Nat → Prop} {W W':World} {t L R:Nat} {f:Nat → Value} {xs:Nat → List Int} (h:LnI W t L R f xs) (k:Chg S W W') (hL:¬ S L) (hs:∀ j,t ≤ j → j < W.heap.size → ¬ S j):LnI W' t L R f xs :=
 ⟨h.row.of_block (k.block L h.row.lt hL),fun r hr => ownsRow_chg (h.own r hr) k (fun j hj => hs j (own_ge (h.own r hr) j hj).1 (own_ge (h.own r hr) j hj).2),h.apart⟩
theorem LnI.below {W W':World} {t L R:Nat} {f:Nat → Value} {xs:Nat → List Int} (h:LnI W t L R f xs) (k:Below W.heap.size W W'):LnI W' t L R f xs:=h.chg (S:=fun _ => False) (Chg.of_below k) (fun x => x) (fun _ _ _ x => x)
theorem LnI.app {W W3:World} {t L R k:Nat} {f:Nat → Value} {xs:Nat → List Int} {x:Int} {g cap:Nat} (h:LnI W t L R f xs) (hk:k < R) (hL:L < t) (ht:t ≤ W.heap.size) (o:Obj) (hown:W3.ownsRow t 3 1 (.slice (some ⟨g,0,none⟩) ((xs k).length + 1) cap) ((xs k).length + 1) (valsI (xs k) ++ [.int .i64 x])) (hg:(W.alloc o).grownBy W3 (f k).ownBlock) (hat:(f k).ownBlock = some g ∨ g = W.heap.size + 1) :
  LnI (W3.setCell ⟨L,k,none⟩ (.slice (some ⟨g,0,none⟩) ((xs k).length + 1) cap)) t L R (fun r => if r = k then .slice (some ⟨g,0,none⟩) ((xs k).length + 1) cap else f r) (fun r => if r = k then xs k ++ [x] else xs r) ∧ Chg (fun j => j = L ∨ t ≤ j) W (W3.setCell ⟨L,k,none⟩ (.slice (some ⟨g,0,none⟩) ((xs k).length + 1) cap)):=by
 have hB:Below t W W3:=Below.grown ((Below.refl t W).alloc ht o) hg (by simp; omega) (fun j hj => (own_ge (h.own k hk) j hj).1)
 have hc:Chg (fun j => j = L) W3 (W3.setCell ⟨L,k,none⟩ (.slice (some ⟨g,0,none⟩) ((xs k).length + 1) cap)):=Chg.of_set _ _ _ _ rfl
 have hgL:some L ≠ (f k).ownBlock:=fun e => by have:=(own_ge (h.own k hk) L e.symm).1; omega
 have hgt:t ≤ g:=by
  rcases hat with e | e
  ·exact (own_ge (h.own k hk) g e).1
  ·omega
 refine ⟨⟨((h.row.alloc o).of_block (hg.block L (by simp; omega) hgL)).set k _,fun r hr => ?_,fun r s hr hs hne j hj hj2 => ?_⟩,⟨hc.os.trans hB.os,hc.tape.trans hB.tape,hc.output.trans hB.output,Nat.le_trans hB.size hc.size,fun j hj hS => ?_⟩⟩
 ·by_cases e:r = k
  ·subst e
   simp only [if_true]
   refine ownsRow_chg (by simpa [valsI] using hown) hc (fun j hj => ?_)
   have:g = j:=by simpa [Value.ownBlock] using hj
   omega
  ·simp only [e,if_false]
   have h1:=((h.own r hr).alloc o).kept hg (by
    cases hu:(f r).ownBlock with
    | none => exact .inl rfl
    | some j =>
     right
     intro e2
     exact h.apart r k hr hk e j hu e2.symm)
   exact ownsRow_chg h1 hc (fun j hj => by have:=(own_ge (h.own r hr) j hj).1; omega)
 ·by_cases e1:r = k
  ·have e2:s ≠ k:=fun e => hne (e1.trans e.symm)
   simp only [e1,if_true] at hj
   simp only [e2,if_false] at hj2
   have hj':g = j:=by simpa [Value.ownBlock] using hj
   subst hj'
   rcases hat with e | e
   ·exact h.apart k s hk hs (fun z => e2 z.symm) _ e hj2
   ·have:=(own_ge (h.own s hs) _ hj2).2; omega
  ·simp only [e1,if_false] at hj
   by_cases e2:s = k
   ·simp only [e2,if_true] at hj2
    have hj':g = j:=by simpa [Value.ownBlock] using hj2
    subst hj'
    rcases hat with e | e
    ·exact h.apart r k hr hk e1 _ hj e
    ·have:=(own_ge (h.own r hr) _ hj).2; omega
   ·simp only [e2,if_false] at hj2
    exact h.apart r s hr hs hne j hj hj2
 ·rw [hc.block j (Nat.lt_of_lt_of_le hj hB.size) (fun e => hS (.inl e)),hB.block j (by rcases Nat.lt_or_ge j t with c | c; exact c; exact absurd (.inr c) hS)]
theorem made_getI (R r:Nat) (h:r < R):(madeCells #[Value.slice none 0 0] R)[r]? = some (.slice none 0 0):=by simp [madeCells,h,Nat.mod_one]
def InC (st cols:List Int) (c k:Nat):Prop:=∃ j,(st.getD k 0).toNat ≤ j ∧ j < (st.getD (k + 1) 0).toNat ∧ cols.getD j 0 = (c:Int)
noncomputable def clX (st cols:List Int) (k i:Nat) (c:Nat):List Int:=grR (InC st cols) c k ++ (if tb (∃ j,(st.getD k 0).toNat ≤ j ∧ j < i ∧ cols.getD j 0 = (c:Int)) = true then [(k:Int)] else [])
theorem clX_start {st cols:List Int} {k X:Nat} (hX:st.getD k 0 = (X:Int)) (c:Nat):clX st cols k X c = grR (InC st cols) c k:=by
 unfold clX
 rw [tb_no (fun ⟨j,h1,h2,_⟩ => by rw [hX] at h1; omega)]
 simp
theorem clX_end {st cols:List Int} {k Y:Nat} (hY:st.getD (k + 1) 0 = (Y:Int)) (c:Nat):clX st cols k Y c = grR (InC st cols) c (k + 1):=by
 unfold clX
 simp only [grR]
 unfold InC
 rw [hY]
 rfl
theorem clX_step {st cols:List Int} {width:Int} {k X Y i x:Nat} (hR:RowAt st cols width k X Y) (h1:X ≤ i) (h2:i < Y) (hx:cols.getD i 0 = (x:Int)) (c:Nat):clX st cols k (i + 1) c = if c = x then clX st cols k i x ++ [(k:Int)] else clX st cols k i c:=by
 unfold clX
 rw [hR.hX]
 by_cases e:c = x
 ·subst e
  rw [if_pos rfl,tb_yes ⟨i,by omega,by omega,hx⟩,tb_no]
  ·simp
  ·rintro ⟨j,a1,a2,a3⟩
   have:=hR.up.lt' (i:=j - X) (j:=i - X) (by omega) (by omega)
   simp only [List.getD] at this a3 hx
   rw [List.getElem?_take_of_lt (by omega),List.getElem?_take_of_lt (by omega),List.getElem?_drop,List.getElem?_drop,show X + (j - X) = j by omega,show X + (i - X) = i by omega,a3,hx] at this
   omega
 ·rw [if_neg e]
  rw [tb_congr (show (∃ j,((X:Int)).toNat ≤ j ∧ j < i + 1 ∧ cols.getD j 0 = (c:Int)) ↔ (∃ j,((X:Int)).toNat ≤ j ∧ j < i ∧ cols.getD j 0 = (c:Int)) from ⟨fun ⟨j,a1,a2,a3⟩ => ⟨j,a1,by
   by_cases e2:j = i
   ·subst e2
    rw [hx] at a3
    omega
   ·omega,a3⟩,fun ⟨j,a1,a2,a3⟩ => ⟨j,a1,by omega,a3⟩⟩)]
theorem clX_len (st cols:List Int) (k i c:Nat):(clX st cols k i c).length ≤ k + 1:=by
 unfold clX
 have:=grR_len (InC st cols) c k
 rw [List.length_append]
 split <;> simp <;> omega
def ClP (R width:Nat) (st cols:List Int) (w w':World) (e:Ending):Prop:=∃ t L f,(w.heap.size ≤ L ∧ L < t) ∧ e = .returned (.slice (some ⟨L,0,none⟩) width width) ∧ LnI w' t L width f (fun c => grR (InC st cols) c R) ∧ Below w.heap.size w w'
set_option maxRecDepth 100000 in
set_option maxHeartbeats 16000000 in
theorem ccols_any (R width:Nat) (a1 a2:Option Addr) (n1 c1 n2 c2:Nat) (st cols:List Int) (w:World) (h1:SlI w a1 n1 c1 st) (h2:SlI w a2 n2 c2 cols) (hb1:n1 ≤ 17592186044416) (hb2:n2 ≤ 17592186044416) (hm:MayP (R:Int) (width:Int) st cols) :
  Calls Tryz.prog 126 #[patV (R:Int) (width:Int) a1 n1 c1 a2 n2 c2] w fun e w' => ClP R width st cols w w' e:=by
 obtain ⟨wb,hwb⟩:∃ x,w.alloc (.cells #[.int .i64 (R:Int),.int .i64 (width:Int),.slice a1 n1 c1,.slice a2 n2 c2] 25) = x:=⟨_,rfl⟩
 have bb:Below w.heap.size w wb:=by rw [← hwb]; exact bAl
 have hT:=BoxP.made w #[.int .i64 (R:Int),.int .i64 (width:Int),.slice a1 n1 c1,.slice a2 n2 c2] 25
 rw [hwb] at hT
 have p0:=(hT.all 0 _ rfl).1
 have p1:=(hT.all 1 _ rfl).1
 have hfit:=hm.head.fit
 have hR8:R ≤ 128:=by omega
 have hW8:width ≤ 128:=by omega
 have hmk:=make_listsI width (by omega) wb
 obtain ⟨wm,hwm⟩:∃ x,wb.alloc (.cells (madeCells #[.slice none 0 0] width) 23) = x:=⟨_,rfl⟩
 have bm:Below wb.heap.size wb wm:=by rw [← hwm]; exact bAl
 have hrow:wm.rowIs wb.heap.size 23 width (fun _ => .slice none 0 0):=⟨_,by rw [← hwm]; exact alloc_block _ _,size_madeCells _ _,made_getI width⟩
 rw [hwm] at hmk
 have hbl:wb.heap.size < wm.heap.size:=by rw [← hwm]; simp
 have hwl:w.heap.size < wb.heap.size:=hT.lt
 obtain ⟨L,hL⟩:∃ L,wb.heap.size = L:=⟨_,rfl⟩
 obtain ⟨t,ht⟩:∃ t,wm.heap.size = t:=⟨_,rfl⟩
 rw [hL] at hmk hrow hbl hwl
 rw [ht] at hbl
 have bwm:=bb.trans (bm.mono bb.size)
 have HT:=Hj (hT.below bm)
 have p0m:=((hT.below bm).all 0 _ rfl).1
 have HRW:=Hj hrow
 have HB:=Hj bwm
 have HS:=Hj (And.intro (h1.below bwm) (h2.below bwm))
 have HLW:=Hj (And.intro (fun hne => h1.block_lt hne) (fun hne => h2.block_lt hne))
 have HM:=Hj hm
 have HL:=Hj (And.intro hbl hwl)
 have HTL:=Hj (And.intro ht hL)
 have HBX:=Hj (show ∀ W',Chg (fun j => j = L ∨ t ≤ j) wm W' → BoxP W' w.heap.size [.int .i64 (R:Int),.int .i64 (width:Int),.slice a1 n1 c1,.slice a2 n2 c2] ∧ SlI W' a1 n1 c1 st ∧ SlI W' a2 n2 c2 cols from fun W' c => by
  have l1:=(Uh HT).lt
  rw [ht] at l1
  exact ⟨(Uh HT).chg c (by omega),(Uh HS).1.chg c (fun z hz hne e => by have:=(Uh HLW).1 hne z hz; omega),(Uh HS).2.chg c (fun z hz hne e => by have:=(Uh HLW).2 hne z hz; omega)⟩)
 obtain ⟨i64,hi,hz,hs,hb⟩:=info_parts Tryz.info_i64
 have HI:=Hj (And.intro hi (And.intro hz (And.intro hs hb)))
 clear hi hz hs hb hT bb bm bwm hm h1 h2 hfit hbl hwl hrow
 rw [hL] at *
 clear hL ht
 unfold patV
 go_enter Tryz.func126,Tryz.ntmps126
 go_wp2_with fail
 go_loopw [12,4] (fun kv _ wr => ∃ k:Nat,k ≤ R ∧ kv = .int .i64 (k:Int) ∧ Hid (∃ f,LnI wr t L width f (fun c => grR (InC st cols) c k) ∧ Chg (fun j => j = L ∨ t ≤ j) wm wr)) (fun kv _ _ => R - (intOf kv).toNat)
 case atStart => exact ⟨0,Nat.zero_le _,rfl,Hj ⟨fun _ => .slice none 0 0,⟨Uh HRW,fun r hr => World.ownsRow_nil _ _ _ _,fun r s _ _ _ g hg => (by simp [Value.ownBlock] at hg)⟩,Chg.refl _ _⟩⟩
 case round =>
  obtain ⟨k,hk,rfl,HX⟩:=hrel
  clear p0 p1 p0m
  by_cases hlt:k < R
  ·have hlt':(k:Int) < (R:Int):=by omega
   obtain ⟨X,Y,hRow⟩:=(Uh HM).rowAt (k:=k) (by omega)
   have hbx:=Uh HBX wr (Uh HX).choose_spec.2
   have KR:=Hj (crow_any R (width:Int) a1 a2 n1 c1 n2 c2 st cols k X Y wr hbx.2.1 hbx.2.2 hb1 hb2 (Uh HM) hlt hRow)
   unfold patV at KR
   have hln:=hbx.2.2.len
   have hsub:=hbx.2.2.sub hRow.le (by rw [← hln]; exact hRow.lt)
   unfold subV at KR
   obtain ⟨A,hA⟩:∃ A,(if c2 = X then a2 else Option.map (fun x => x.add X) a2) = A:=⟨_,rfl⟩
   obtain ⟨q,hq⟩:∃ q,Y - X = q:=⟨_,rfl⟩
   obtain ⟨d,hd⟩:∃ d,c2 - X = d:=⟨_,rfl⟩
   rw [hA,hq,hd] at KR hsub
   have HSB:=Hj (show ∀ W',Chg (fun j => j = L ∨ t ≤ j) wm W' → SlI W' A q d ((cols.drop X).take q) from fun W' c => by
    have:=(Uh HBX W' c).2.2.sub hRow.le (by rw [← (Uh HBX W' c).2.2.len]; exact hRow.lt)
    rw [hA,hq,hd] at this
    exact this)
   have HQ:=Hj hq
   have hq2:q ≤ 17592186044416:=by have:=hRow.lt; omega
   have q0:=(hbx.1.all 0 _ rfl).1
   have q1:=(hbx.1.all 1 _ rfl).1
   have q2:=(hbx.1.all 2 _ rfl).1
   have q3:=(hbx.1.all 3 _ rfl).1
   have HRow:=Hj hRow
   clear hA hq hd hsub hbx hRow hln
   go_wp2_with fail
   refine (Uh KR).mono ?_
   rintro _ wk ⟨rfl,bk⟩
   have HX0:=Hj (show ∃ f,LnI wk t L width f (clX st cols k X) ∧ Chg (fun j => j = L ∨ t ≤ j) wm wk from by
    obtain ⟨f,h,c⟩:=Uh HX
    exact ⟨f,(h.congr (fun r hr => (clX_start (Uh HRow).hX r).symm)).below bk,c.trans (Chg.of_below bk)⟩)
   clear HX KR q0 q1 q2 q3 bk
   go_wp2_with fail
   go_loopw [19,6] (fun iv _ wq => ∃ i:Nat,i ≤ q ∧ iv = .int .i64 (i:Int) ∧ Hid (∃ f,LnI wq t L width f (clX st cols k (X + i)) ∧ Chg (fun j => j = L ∨ t ≤ j) wm wq)) (fun iv _ _ => q - (intOf iv).toNat)
   case atStart => exact ⟨0,Nat.zero_le _,rfl,HX0⟩
   case round =>
    obtain ⟨i,hi,rfl,HV⟩:=hrel
    obtain ⟨f,hL,hC⟩:=Uh HV
    by_cases hin:i < q
    ·have hin':(i:Int) < (q:Int):=by omega
     obtain ⟨b2,o2,e2,hc⟩:=(Uh HSB wr hC).at (by omega)
     subst e2
     have sc:=hc i hin
     have hqq:=Uh HQ
     rw [show ((cols.drop X).take q).getD i 0 = cols.getD (X + i) 0 from by simp [List.getD,List.getElem?_take_of_lt hin,List.getElem?_drop]] at sc
     have hg:=(Uh HRow).row.rng (X + i) (by omega) (by omega)
     obtain ⟨x,hx⟩:∃ x:Nat,cols.getD (X + i) 0 = (x:Int):=⟨(cols.getD (X + i) 0).toNat,by omega⟩
     rw [hx] at sc hg
     have hxw:x < width:=by omega
     have hxw':(x:Int) < (width:Int):=by omega
     obtain ⟨v,hv⟩:∃ v,f x = v:=⟨_,rfl⟩
     have lk:=hL.row.cell hxw
     have lf:=hL.row.frozen x
     rw [hv] at lk
     have HXX:=Hj hx
     have HV2:=Hj hv
     obtain ⟨ys,hys⟩:∃ ys,clX st cols k (X + i) x = ys:=⟨_,rfl⟩
     have hyl:ys.length ≤ 16384:=by
      have:=clX_len st cols k (X + i) x
      rw [← hys]
      omega
     have how:=hL.own x hxw
     rw [hv,hys] at how
     have HOW:=Hj how
     have HYS:=Hj hys
     have htw:t ≤ wr.heap.size:=by have:=hC.size; rw [(Uh HTL).1] at this; exact this
     have hLt:=(Uh HL).1
     have hLw:L < wr.heap.size:=by omega
     have hvL:some L ≠ v.ownBlock:=fun e => by have:=(own_ge how L e.symm).1; omega
     have hmx:ys.length + 1 ≤ maxLen:=by unfold maxLen; omega
     have hby:(ys.length + 1) * 8 ≤ 140737488355328:=by omega
     have hone:∀ u ∈ [Value.int .i64 (k:Int)],u.oneCell' = true:=by intro u hu; simp at hu; subst hu; rfl
     have HLL:=Hj hL
     have HC:=Hj hC
     clear hc hx hg hqq hL hC HV hv hys how
     go_wp2_with (at_builtin; refine wpList_append_lies _ rfl _ _ 23 rfl t 3 i64 (.int .i64 0) 1 8 Tryz.underlying23 (Uh HI).1 (Uh HI).2.1 (Uh HI).2.2.1 (Uh HI).2.2.2 rfl (by decide) v ys.length (valsI ys) rfl ((Uh HOW).alloc _) ⟨wr.heap.size,0,none⟩ 1 1 [.int .i64 (k:Int)] rfl rfl (World.news_of_block (alloc_block _ _)) hone (by decide) hmx hby (by simp; omega) (wr.heap.size + 1) (by simp) ?_)
     intro g cap w6 hown6 hgrow6 hat6 hlt6
     have F6:=Hj (And.intro hown6 (And.intro hgrow6 hat6))
     have lk6:w6.cell? ⟨L,x,none⟩ = some v:=(hgrow6.cell_far ⟨L,x,none⟩ (by simp; omega) hvL).trans ((World.cell?_alloc_lt _ _ _ hLw).trans lk)
     have lf6:w6.frozen? ⟨L,x,none⟩ = false:=(hgrow6.frozen_far ⟨L,x,none⟩ (by simp; omega) hvL).trans ((World.frozen?_alloc_old _ _ _ (Nat.ne_of_lt hLw)).trans lf)
     clear hown6 hgrow6 hat6 hlt6
     have HN:=Hj (LnI.app (x:=(k:Int)) (Uh HLL) hxw hLt htw (Obj.cells #[Value.int IntKind.i64 (k:Int)] 3) (by rw [Uh HYS]; exact (Uh F6).1) (by rw [Uh HV2]; exact (show (wr.alloc _).grownBy w6 _ from ⟨(Uh F6).2.1.os,(Uh F6).2.1.tape,(Uh F6).2.1.output,(Uh F6).2.1.size,(Uh F6).2.1.block⟩)) (by rw [Uh HV2]; exact (Uh F6).2.2))
     rw [Uh HYS] at HN
     clear F6
     go_wp2_with fail
     refine ⟨⟨i + 1,by omega,by (first | rfl | go_num),Hj ⟨_,(Uh HN).1.congr (fun r hr => ?_),(Uh HC).trans (Uh HN).2⟩⟩,by simp [intOf]; omega⟩
     rw [show X + (i + 1) = X + i + 1 by omega,clX_step (Uh HRow) (by omega) (by have:=Uh HQ; omega) (Uh HXX) r,Uh HYS]
    ·obtain rfl:i = q:=by omega
     have hin':¬ (i:Int) < (i:Int):=by omega
     have HLL:=Hj (show ∃ f,LnI wr t L width f (fun c => grR (InC st cols) c (k + 1)) ∧ Chg (fun j => j = L ∨ t ≤ j) wm wr from ⟨f,hL.congr (fun r hr => by rw [show X + i = Y by have:=(Uh HRow).le; have:=Uh HQ; omega]; exact clX_end (Uh HRow).hY r),hC⟩)
     clear hL hC HV
     go_wp2_with fail
     exact ⟨⟨k + 1,by omega,by (first | rfl | go_num),HLL⟩,by simp [intOf]; omega⟩
  ·obtain rfl:k = R:=by omega
   have hlt':¬ (k:Int) < (k:Int):=by omega
   go_wp2_with fail
   go_ret
   obtain ⟨f,hL,hC⟩:=Uh HX
   have hl:=Uh HL
   have hbs:=(Uh HB).size
   refine ⟨t,L,f,⟨by omega,hl.1⟩,rfl,hL,(Uh HB).trans (hC.below hbs (fun j hj e => by have:=(Uh HTL).1; omega))⟩
theorem grR_mem {P:Nat → Nat → Prop} {u:Nat} (v:Int):∀ k,(v ∈ grR P u k ↔ ∃ j:Nat,j < k ∧ v = (j:Int) ∧ P u j)
 | 0 => by simp [grR]
 | k + 1 => by
  simp only [grR,List.mem_append]
  rw [grR_mem v k]
  constructor
  ·rintro (⟨j,h1,h2,h3⟩ | h)
   ·exact ⟨j,by omega,h2,h3⟩
   ·by_cases c:tb (P u k) = true
    ·rw [if_pos c] at h
     exact ⟨k,by omega,by simpa using h,tb_iff.1 c⟩
    ·rw [if_neg c] at h
     cases h
  ·rintro ⟨j,h1,h2,h3⟩
   by_cases e:j = k
   ·subst e
    right
    rw [if_pos (tb_yes h3),h2]
    simp
   ·exact .inl ⟨j,by omega,h2,h3⟩
theorem mem_getD {xs:List Int} {v:Int}:v ∈ xs ↔ ∃ p,p < xs.length ∧ xs.getD p 0 = v:=by
 rw [List.mem_iff_getElem?]
 constructor
 ·rintro ⟨i,h⟩
  obtain ⟨hi,he⟩:=List.getElem?_eq_some_iff.1 h
  exact ⟨i,hi,by simp [List.getD,h]⟩
 ·rintro ⟨p,hp,he⟩
  refine ⟨p,?_⟩
  rw [List.getElem?_eq_getElem hp]
  simp [List.getD,hp] at he
  rw [he]
theorem MeP.mem {xs:List Int} {u v:Nat} (hx:∀ j,j < xs.length → 0 ≤ xs.getD j 0 ∧ xs.getD j 0 < 128) (hv:v < 128):MeP xs xs.length 0 (u * 128 + v) ↔ ((u:Int) ∈ xs ∧ (v:Int) ∈ xs):=by
 rw [mem_getD,mem_getD]
 constructor
 ·rintro ⟨p,q,h,e⟩
  rcases h with ⟨h1,h2⟩ | ⟨h1,h2⟩
  ·have g1:=hx p h1
   have g2:=hx q h2
   exact ⟨⟨p,h1,by omega⟩,⟨q,h2,by omega⟩⟩
  ·omega
 ·rintro ⟨⟨p,h1,e1⟩,⟨q,h2,e2⟩⟩
  exact ⟨p,q,.inl ⟨h1,h2⟩,by rw [e1,e2]; simp⟩
def CoP (st cols:List Int) (R:Nat) (u v:Nat):Prop:=u ≠ v ∧ ∃ k,k < R ∧ InC st cols u k ∧ InC st cols v k
def RwP (st cols:List Int) (width:Nat) (u v:Nat):Prop:=u ≠ v ∧ ∃ c,c < width ∧ InC st cols c u ∧ InC st cols c v
theorem rowL_mem {R:Nat} {width:Int} {st cols:List Int} (hm:MayP (R:Int) width st cols) {k c:Nat} (hk:k < R):((c:Int) ∈ rowL st cols k) ↔ InC st cols c k:=by
 obtain ⟨X,Y,hR⟩:=hm.rowAt (k:=k) (by omega)
 unfold rowL InC
 rw [hR.hX,hR.hY,mem_getD]
 have hl:((cols.drop ((X:Int)).toNat).take (((Y:Int)).toNat - ((X:Int)).toNat)).length = Y - X:=by
  have:=hR.lt
  simp
  omega
 rw [hl]
 have e:∀ i,i < Y - X → ((cols.drop ((X:Int)).toNat).take (((Y:Int)).toNat - ((X:Int)).toNat)).getD i 0 = cols.getD (X + i) 0:=fun i hi => by simp [List.getD,List.getElem?_drop,hi]
 constructor
 ·rintro ⟨p,hp,h⟩
  rw [e p hp] at h
  exact ⟨X + p,by omega,by omega,h⟩
 ·rintro ⟨j,h1,h2,h3⟩
  exact ⟨j - X,by omega,by rw [e _ (by omega),show X + (j - X) = j by omega]; exact h3⟩
theorem rowL_rng {R:Nat} {width:Nat} {st cols:List Int} (hm:MayP (R:Int) (width:Int) st cols) {k:Nat} (hk:k < R):∀ j,j < (rowL st cols k).length → 0 ≤ (rowL st cols k).getD j 0 ∧ (rowL st cols k).getD j 0 < 128:=by
 intro j hj
 obtain ⟨X,Y,hR⟩:=hm.rowAt (k:=k) (by omega)
 have hf:=hm.head.fit
 have eL:rowL st cols k = (cols.drop X).take (Y - X):=by unfold rowL; rw [hR.hX,hR.hY]; simp
 have hl:(rowL st cols k).length = Y - X:=by rw [eL]; have:=hR.lt; simp; omega
 have hrow:=(RowP.sub hR.le).2 hR.row
 rw [← eL] at hrow
 have:=hrow.rng j (Nat.zero_le _) (by omega)
 omega
theorem MtP.cols {R width:Nat} {st cols:List Int} (hm:MayP (R:Int) (width:Int) st cols) {u v:Nat} (hv:v < width):(MtP (rowL st cols) R (u * 128 + v) ∧ u ≠ v) ↔ CoP st cols R u v:=by
 have hf:=hm.head.fit
 unfold MtP CoP
 constructor
 ·rintro ⟨⟨i,hi,h⟩,hne⟩
  rw [MeP.mem (rowL_rng hm hi) (by omega),rowL_mem hm hi,rowL_mem hm hi] at h
  exact ⟨hne,i,hi,h⟩
 ·rintro ⟨hne,i,hi,h⟩
  exact ⟨⟨i,hi,by rw [MeP.mem (rowL_rng hm hi) (by omega),rowL_mem hm hi,rowL_mem hm hi]; exact h⟩,hne⟩
theorem grR_rng {P:Nat → Nat → Prop} {u R:Nat} (hR:R ≤ 128):∀ j,j < (grR P u R).length → 0 ≤ (grR P u R).getD j 0 ∧ (grR P u R).getD j 0 < 128:=by
 intro j hj
 obtain ⟨i,h1,h2,_⟩:=(grR_mem ((grR P u R).getD j 0) R).1 (mem_getD.2 ⟨j,hj,rfl⟩)
 omega
theorem MtP.rows {R width:Nat} {st cols:List Int} (hm:MayP (R:Int) (width:Int) st cols) {u v:Nat} (hu:u < R) (hv:v < R):(MtP (fun c => grR (InC st cols) c R) width (u * 128 + v) ∧ u ≠ v) ↔ RwP st cols width u v:=by
 have hf:=hm.head.fit
 have mem:∀ c w:Nat,w < R → ((w:Int) ∈ grR (InC st cols) c R ↔ InC st cols c w):=fun c w hw => by
  rw [grR_mem]
  constructor
  ·rintro ⟨j,h1,h2,h3⟩
   rw [show w = j by omega]
   exact h3
  ·intro h
   exact ⟨w,hw,rfl,h⟩
 unfold MtP RwP
 constructor
 ·rintro ⟨⟨i,hi,h⟩,hne⟩
  rw [MeP.mem (grR_rng (by omega)) (by omega),mem i u hu,mem i v hv] at h
  exact ⟨hne,i,hi,h⟩
 ·rintro ⟨hne,i,hi,h⟩
  exact ⟨⟨i,hi,by rw [MeP.mem (grR_rng (by omega)) (by omega),mem i u hu,mem i v hv]; exact h⟩,hne⟩
def GqP (w w':World) (e:Ending) (n:Nat) (S C:List Int) (er:Int):Prop:=∃ a1 c1 a2 c2,e = .returned (.tuple #[.agg #[.int .i64 (n:Int),.int .i64 (n:Int),.slice a1 S.length c1,.slice a2 C.length c2],.int .i64 er]) ∧ SlI w' a1 S.length c1 S ∧ SlI w' a2 C.length c2 C ∧ Below w.heap.size w w' ∧ (∀ z,a1 = some z → w.heap.size ≤ z.block) ∧ (∀ z,a2 = some z → w.heap.size ≤ z.block)
theorem RoV.lsI {W:World} {L R:Nat} {width:Int} {a2:Option Addr} {n2 c2:Nat} {st cols:List Int} (h:RoV W L R (rowV st a2 c2)) (h2:SlI W a2 n2 c2 cols) (hb2:n2 ≤ 17592186044416) (hm:MayP (R:Int) width st cols):LsI W L R (rowL st cols):=by
 intro i hi
 obtain ⟨X,Y,hRow⟩:=hm.rowAt (k:=i) (by omega)
 have hln:=h2.len
 have hsub:=h2.sub hRow.le (by rw [← hln]; exact hRow.lt)
 have hcell:=(h i hi).1
 have eL:rowL st cols i = (cols.drop X).take (Y - X):=by unfold rowL; rw [hRow.hX,hRow.hY]; simp
 have hV:rowV st a2 c2 i = subV a2 c2 X Y:=by unfold rowV; rw [hRow.hX,hRow.hY]; simp
 rw [hV] at hcell
 rw [← eL] at hsub
 have:=hRow.lt
 exact ⟨_,_,_,hcell,hsub,by omega⟩
theorem LnI.lsI {W:World} {t L R:Nat} {f:Nat → Value} {xs:Nat → List Int} (h:LnI W t L R f xs) (hl:∀ r,r < R → (xs r).length ≤ 17592186044416):LsI W L R xs:=by
 intro i hi
 obtain ⟨a,c,hv,hs⟩:=own_slI (h.own i hi)
 have hc:=h.row.cell hi
 rw [hv] at hc
 exact ⟨a,_,c,hc,hs,hl i hi⟩
set_option maxRecDepth 100000 in
set_option maxHeartbeats 16000000 in
theorem ccolumns_yes (R width:Nat) (a1 a2:Option Addr) (n1 c1 n2 c2:Nat) (st cols:List Int) (w:World) (h1:SlI w a1 n1 c1 st) (h2:SlI w a2 n2 c2 cols) (hb1:n1 ≤ 17592186044416) (hb2:n2 ≤ 17592186044416) (hm:MayP (R:Int) (width:Int) st cols) :
  Calls Tryz.prog 95 #[patV (R:Int) (width:Int) a1 n1 c1 a2 n2 c2] w fun e w' => GqP w w' e width (grS (CoP st cols R) width width) (grC (CoP st cols R) width width) 0:=by
 obtain ⟨wb,hwb⟩:∃ x,w.alloc (.cells #[.int .i64 (R:Int),.int .i64 (width:Int),.slice a1 n1 c1,.slice a2 n2 c2] 25) = x:=⟨_,rfl⟩
 have bb:Below w.heap.size w wb:=by rw [← hwb]; exact bAl
 have hT:=BoxP.made w #[.int .i64 (R:Int),.int .i64 (width:Int),.slice a1 n1 c1,.slice a2 n2 c2] 25
 rw [hwb] at hT
 have hO0:=BoxP.made wb #[.int .i64 0,.int .i64 0,.slice none 0 0,.slice none 0 0] 25
 obtain ⟨wo,hwo⟩:∃ x,wb.alloc (.cells #[.int .i64 0,.int .i64 0,.slice none 0 0,.slice none 0 0] 25) = x:=⟨_,rfl⟩
 have bo:Below wb.heap.size wb wo:=by rw [← hwo]; exact bAl
 rw [hwo] at hO0
 have hT1:=hT.below bo
 have p0:=(hT1.all 0 _ rfl).1
 have p1:=(hT1.all 1 _ rfl).1
 have p2:=(hT1.all 2 _ rfl).1
 have p3:=(hT1.all 3 _ rfl).1
 have bw:=bb.trans (bo.mono bb.size)
 have KM:=Hj (smay_any (R:Int) (width:Int) a1 a2 n1 c1 n2 c2 st cols wo (h1.below bw) (h2.below bw) hb1 hb2)
 unfold patV at KM
 have HT:=Hj hT1
 have HO:=Hj hO0
 have HB:=Hj bw
 have HWB:=Hj bb.size
 have hne1:w.heap.size ≠ wb.heap.size:=by have:=hT.lt; omega
 have hne2:wb.heap.size ≠ w.heap.size:=fun e => hne1 e.symm
 have HS:=Hj (And.intro h1 h2)
 have HM:=Hj hm
 have hfit:=hm.head.fit
 have hR8:R ≤ 128:=by omega
 have hW8:width ≤ 128:=by omega
 have HTQ:=Hj (show TruQ true (MayP (R:Int) (width:Int) st cols) from ⟨fun _ => hm,fun _ => rfl⟩)
 obtain ⟨S,hS⟩:∃ S,grS (CoP st cols R) width width = S:=⟨_,rfl⟩
 obtain ⟨C,hC⟩:∃ C,grC (CoP st cols R) width width = C:=⟨_,rfl⟩
 have HSC:=Hj (And.intro hS hC)
 rw [hS,hC]
 clear hT hT1 hO0 bb bo bw h1 h2 hm hfit hS hC
 unfold patV
 go_enter Tryz.func95,Tryz.ntmps95
 go_wp2_with fail
 refine (Uh KM).mono ?_
 intro e w2 hq
 obtain ⟨rfl,b2⟩:=hq.known (Uh HTQ)
 have hT2:=(Uh HT).below b2
 have q0:=(hT2.all 0 _ rfl).1
 have q1:=(hT2.all 1 _ rfl).1
 have q2:=(hT2.all 2 _ rfl).1
 have q3:=(hT2.all 3 _ rfl).1
 have bw2:=(Uh HB).trans (b2.mono (Uh HB).size)
 have KR:=Hj (fun (W:World) (k:Below w2.heap.size w2 W) => crows_any R (width:Int) a1 a2 n1 c1 n2 c2 st cols W (((Uh HS).1.below bw2).below k) (((Uh HS).2.below bw2).below k) hb1 hb2 (Uh HM))
 unfold patV at KR
 have HT2:=Hj hT2
 have HO2:=Hj ((Uh HO).below b2)
 have HB2:=Hj bw2
 clear hq KM b2 hT2 bw2 p0 p1 p2 p3
 go_wp2_with fail
 go_region_held3 (fun w' => w'.cell? ⟨w.heap.size,0,none⟩ = some (.int .i64 (R:Int)) ∧ w'.cell? ⟨w.heap.size,1,none⟩ = some (.int .i64 (width:Int)) ∧ w'.cell? ⟨w.heap.size,2,none⟩ = some (.slice a1 n1 c1) ∧ w'.cell? ⟨w.heap.size,3,none⟩ = some (.slice a2 n2 c2)) (first | (exact ⟨k0,k1,k2,k3⟩) | go_keep)
  (first
   | (go_at_call 82; refine (Uh KR _ (by first | exact (Below.refl _ _).drew | exact Below.refl _ _)).mono ?_; rintro _ wl ⟨L,hLs,rfl,hL,bl⟩; have hls:LsI wl L R (rowL st cols):=hL.lsI (((Uh HS).2.below (Uh HB2)).below ((Below.refl _ _).drew.trans bl)) hb2 (Uh HM); have bl':Below w2.heap.size w2 wl:=(Below.refl _ _).drew.trans bl; have hTl:=(Uh HT2).below bl'; have k0:=(hTl.all 0 _ rfl).1; have k1:=(hTl.all 1 _ rfl).1; have k2:=(hTl.all 2 _ rfl).1; have k3:=(hTl.all 3 _ rfl).1; have HTl:=Hj hTl; have HLs:=Hj hls; have HBl:=Hj bl'; clear hTl bl bl' hls)
   | (go_at_call 123; refine (cmeeting_any L R width _ (CoP st cols R) wl (by omega) (by omega) (Uh HLs) (fun i hi => rowL_rng (Uh HM) hi) (fun u v hu hv => MtP.cols (Uh HM) hv)).mono ?_; rintro _ wk ⟨x1,d1,x2,d2,rfl,g1,g2,bk,f1,f2⟩; rw [(Uh HSC).1] at g1; rw [(Uh HSC).2] at g2; rw [(Uh HSC).1,(Uh HSC).2]; clear k0 k1 k2 k3; have hTk:=(Uh HTl).below bk; have k0:=(hTk.all 0 _ rfl).1; have k1:=(hTk.all 1 _ rfl).1; have k2:=(hTk.all 2 _ rfl).1; have k3:=(hTk.all 3 _ rfl).1; have hOk:=((Uh HO2).below (Uh HBl)).below bk; have o0:=(hOk.all 0 _ rfl).1; have o1:=(hOk.all 1 _ rfl).1; have o2:=(hOk.all 2 _ rfl).1; have o3:=(hOk.all 3 _ rfl).1; have r0:=(hOk.all 0 _ rfl).2; have r1:=(hOk.all 1 _ rfl).2; have r2:=(hOk.all 2 _ rfl).2; have r3:=(hOk.all 3 _ rfl).2; have HOk:=Hj hOk; have HG:=Hj (And.intro g1 g2); have HFr:=Hj (And.intro f1 f2); have HBK:=Hj ((Uh HBl).trans (bk.mono (Uh HBl).size)); clear hTk hOk g1 g2 f1 f2 bk))
 clear k0 k1 k2 k3
 go_wp2_with fail
 have hf:=((((Uh HOk).put 0 (.int .i64 (width:Int))).put 1 (.int .i64 (width:Int))).put 2 (.slice x1 S.length d1)).put 3 (.slice x2 C.length d2)
 have t0:=(hf.all 0 _ rfl).1
 have t1:=(hf.all 1 _ rfl).1
 have t2:=(hf.all 2 _ rfl).1
 have t3:=(hf.all 3 _ rfl).1
 have cc:Chg (fun j => j = wb.heap.size) wk ((((wk.setCell ⟨wb.heap.size,0,none⟩ (.int .i64 (width:Int))).setCell ⟨wb.heap.size,1,none⟩ (.int .i64 (width:Int))).setCell ⟨wb.heap.size,2,none⟩ (.slice x1 S.length d1)).setCell ⟨wb.heap.size,3,none⟩ (.slice x2 C.length d2)):=(((Chg.of_set (S:=fun j => j = wb.heap.size) _ _ _ _ rfl).trans (Chg.of_set (S:=fun j => j = wb.heap.size) _ _ _ _ rfl)).trans (Chg.of_set (S:=fun j => j = wb.heap.size) _ _ _ _ rfl)).trans (Chg.of_set (S:=fun j => j = wb.heap.size) _ _ _ _ rfl)
 generalize (((wk.setCell ⟨wb.heap.size,0,none⟩ (.int .i64 (width:Int))).setCell ⟨wb.heap.size,1,none⟩ (.int .i64 (width:Int))).setCell ⟨wb.heap.size,2,none⟩ (.slice x1 S.length d1)).setCell ⟨wb.heap.size,3,none⟩ (.slice x2 C.length d2) = wf at *
 refine bodyPost_ret (by simp [results,Tryz.results95,go_sem,t0,t1,t2,t3]; try rfl) rfl ?_
 have h9:=Uh HWB
 have h8:=(Uh HO2).lt
 have h7:=(Uh HBl).size
 have h6:=(Uh HB2).size
 refine ⟨x1,d1,x2,d2,rfl,(Uh HG).1.chg cc (fun z hz _ e => ?_),(Uh HG).2.chg cc (fun z hz _ e => ?_),?_,fun z hz => ?_,fun z hz => ?_⟩
 ·have:=(Uh HFr).1 z hz; omega
 ·have:=(Uh HFr).2 z hz; omega
 ·exact ((Uh HB2).trans ((Uh HBK).mono h6)).trans (cc.below (Nat.le_trans h6 (Uh HBK).size) (fun j hj e => by omega))
 ·have:=(Uh HFr).1 z hz; omega
 ·have:=(Uh HFr).2 z hz; omega
set_option maxRecDepth 100000 in
set_option maxHeartbeats 16000000 in
theorem crowsf_yes (R width:Nat) (a1 a2:Option Addr) (n1 c1 n2 c2:Nat) (st cols:List Int) (w:World) (h1:SlI w a1 n1 c1 st) (h2:SlI w a2 n2 c2 cols) (hb1:n1 ≤ 17592186044416) (hb2:n2 ≤ 17592186044416) (hm:MayP (R:Int) (width:Int) st cols) :
  Calls Tryz.prog 98 #[patV (R:Int) (width:Int) a1 n1 c1 a2 n2 c2] w fun e w' => GqP w w' e R (grS (RwP st cols width) R R) (grC (RwP st cols width) R R) 0:=by
 obtain ⟨wb,hwb⟩:∃ x,w.alloc (.cells #[.int .i64 (R:Int),.int .i64 (width:Int),.slice a1 n1 c1,.slice a2 n2 c2] 25) = x:=⟨_,rfl⟩
 have bb:Below w.heap.size w wb:=by rw [← hwb]; exact bAl
 have hT:=BoxP.made w #[.int .i64 (R:Int),.int .i64 (width:Int),.slice a1 n1 c1,.slice a2 n2 c2] 25
 rw [hwb] at hT
 have hO0:=BoxP.made wb #[.int .i64 0,.int .i64 0,.slice none 0 0,.slice none 0 0] 25
 obtain ⟨wo,hwo⟩:∃ x,wb.alloc (.cells #[.int .i64 0,.int .i64 0,.slice none 0 0,.slice none 0 0] 25) = x:=⟨_,rfl⟩
 have bo:Below wb.heap.size wb wo:=by rw [← hwo]; exact bAl
 rw [hwo] at hO0
 have hT1:=hT.below bo
 have p0:=(hT1.all 0 _ rfl).1
 have p1:=(hT1.all 1 _ rfl).1
 have p2:=(hT1.all 2 _ rfl).1
 have p3:=(hT1.all 3 _ rfl).1
 have bw:=bb.trans (bo.mono bb.size)
 have KM:=Hj (smay_any (R:Int) (width:Int) a1 a2 n1 c1 n2 c2 st cols wo (h1.below bw) (h2.below bw) hb1 hb2)
 unfold patV at KM
 have HT:=Hj hT1
 have HO:=Hj hO0
 have HB:=Hj bw
 have HWB:=Hj bb.size
 have hne1:w.heap.size ≠ wb.heap.size:=by have:=hT.lt; omega
 have hne2:wb.heap.size ≠ w.heap.size:=fun e => hne1 e.symm
 have HS:=Hj (And.intro h1 h2)
 have HM:=Hj hm
 have hfit:=hm.head.fit
 have hR8:R ≤ 128:=by omega
 have hW8:width ≤ 128:=by omega
 have HTQ:=Hj (show TruQ true (MayP (R:Int) (width:Int) st cols) from ⟨fun _ => hm,fun _ => rfl⟩)
 obtain ⟨S,hS⟩:∃ S,grS (RwP st cols width) R R = S:=⟨_,rfl⟩
 obtain ⟨C,hC⟩:∃ C,grC (RwP st cols width) R R = C:=⟨_,rfl⟩
 have HSC:=Hj (And.intro hS hC)
 rw [hS,hC]
 clear hT hT1 hO0 bb bo bw h1 h2 hm hfit hS hC
 unfold patV
 go_enter Tryz.func98,Tryz.ntmps98
 go_wp2_with fail
 refine (Uh KM).mono ?_
 intro e w2 hq
 obtain ⟨rfl,b2⟩:=hq.known (Uh HTQ)
 have hT2:=(Uh HT).below b2
 have q0:=(hT2.all 0 _ rfl).1
 have q1:=(hT2.all 1 _ rfl).1
 have q2:=(hT2.all 2 _ rfl).1
 have q3:=(hT2.all 3 _ rfl).1
 have bw2:=(Uh HB).trans (b2.mono (Uh HB).size)
 have KR:=Hj (fun (W:World) (k:Below w2.heap.size w2 W) => ccols_any R width a1 a2 n1 c1 n2 c2 st cols W (((Uh HS).1.below bw2).below k) (((Uh HS).2.below bw2).below k) hb1 hb2 (Uh HM))
 unfold patV at KR
 have HT2:=Hj hT2
 have HO2:=Hj ((Uh HO).below b2)
 have HB2:=Hj bw2
 clear hq KM b2 hT2 bw2 p0 p1 p2 p3
 go_wp2_with fail
 go_region_held3 (fun w' => w'.cell? ⟨w.heap.size,0,none⟩ = some (.int .i64 (R:Int)) ∧ w'.cell? ⟨w.heap.size,1,none⟩ = some (.int .i64 (width:Int)) ∧ w'.cell? ⟨w.heap.size,2,none⟩ = some (.slice a1 n1 c1) ∧ w'.cell? ⟨w.heap.size,3,none⟩ = some (.slice a2 n2 c2)) (first | (exact ⟨k0,k1,k2,k3⟩) | go_keep)
  (first
   | (go_at_call 126; refine (Uh KR _ (by first | exact (Below.refl _ _).drew | exact Below.refl _ _)).mono ?_; rintro _ wl ⟨t,L,f,hLt,rfl,hL,bl⟩; have hls:LsI wl L width (fun c => grR (InC st cols) c R):=hL.lsI (fun r _ => Nat.le_trans (grR_len _ _ _) (by omega)); have bl':Below w2.heap.size w2 wl:=(Below.refl _ _).drew.trans bl; have hTl:=(Uh HT2).below bl'; have k0:=(hTl.all 0 _ rfl).1; have k1:=(hTl.all 1 _ rfl).1; have k2:=(hTl.all 2 _ rfl).1; have k3:=(hTl.all 3 _ rfl).1; have HTl:=Hj hTl; have HLs:=Hj hls; have HBl:=Hj bl'; clear hTl bl bl' hls)
   | (go_at_call 123; refine (cmeeting_any L width R _ (RwP st cols width) wl (by omega) (by omega) (Uh HLs) (fun i hi => grR_rng hR8) (fun u v hu hv => MtP.rows (Uh HM) hu hv)).mono ?_; rintro _ wk ⟨x1,d1,x2,d2,rfl,g1,g2,bk,f1,f2⟩; rw [(Uh HSC).1] at g1; rw [(Uh HSC).2] at g2; rw [(Uh HSC).1,(Uh HSC).2]; clear k0 k1 k2 k3; have hTk:=(Uh HTl).below bk; have k0:=(hTk.all 0 _ rfl).1; have k1:=(hTk.all 1 _ rfl).1; have k2:=(hTk.all 2 _ rfl).1; have k3:=(hTk.all 3 _ rfl).1; have hOk:=((Uh HO2).below (Uh HBl)).below bk; have o0:=(hOk.all 0 _ rfl).1; have o1:=(hOk.all 1 _ rfl).1; have o2:=(hOk.all 2 _ rfl).1; have o3:=(hOk.all 3 _ rfl).1; have r0:=(hOk.all 0 _ rfl).2; have r1:=(hOk.all 1 _ rfl).2; have r2:=(hOk.all 2 _ rfl).2; have r3:=(hOk.all 3 _ rfl).2; have HOk:=Hj hOk; have HG:=Hj (And.intro g1 g2); have HFr:=Hj (And.intro f1 f2); have HBK:=Hj ((Uh HBl).trans (bk.mono (Uh HBl).size)); clear hTk hOk g1 g2 f1 f2 bk))
 clear k0 k1 k2 k3
 go_wp2_with fail
 have hf:=((((Uh HOk).put 0 (.int .i64 (R:Int))).put 1 (.int .i64 (R:Int))).put 2 (.slice x1 S.length d1)).put 3 (.slice x2 C.length d2)
 have t0:=(hf.all 0 _ rfl).1
 have t1:=(hf.all 1 _ rfl).1
 have t2:=(hf.all 2 _ rfl).1
 have t3:=(hf.all 3 _ rfl).1
 have cc:Chg (fun j => j = wb.heap.size) wk ((((wk.setCell ⟨wb.heap.size,0,none⟩ (.int .i64 (R:Int))).setCell ⟨wb.heap.size,1,none⟩ (.int .i64 (R:Int))).setCell ⟨wb.heap.size,2,none⟩ (.slice x1 S.length d1)).setCell ⟨wb.heap.size,3,none⟩ (.slice x2 C.length d2)):=(((Chg.of_set (S:=fun j => j = wb.heap.size) _ _ _ _ rfl).trans (Chg.of_set (S:=fun j => j = wb.heap.size) _ _ _ _ rfl)).trans (Chg.of_set (S:=fun j => j = wb.heap.size) _ _ _ _ rfl)).trans (Chg.of_set (S:=fun j => j = wb.heap.size) _ _ _ _ rfl)
 generalize (((wk.setCell ⟨wb.heap.size,0,none⟩ (.int .i64 (R:Int))).setCell ⟨wb.heap.size,1,none⟩ (.int .i64 (R:Int))).setCell ⟨wb.heap.size,2,none⟩ (.slice x1 S.length d1)).setCell ⟨wb.heap.size,3,none⟩ (.slice x2 C.length d2) = wf at *
 refine bodyPost_ret (by simp [results,Tryz.results98,go_sem,t0,t1,t2,t3]; try rfl) rfl ?_
 have h9:=Uh HWB
 have h8:=(Uh HO2).lt
 have h7:=(Uh HBl).size
 have h6:=(Uh HB2).size
 refine ⟨x1,d1,x2,d2,rfl,(Uh HG).1.chg cc (fun z hz _ e => ?_),(Uh HG).2.chg cc (fun z hz _ e => ?_),?_,fun z hz => ?_,fun z hz => ?_⟩
 ·have:=(Uh HFr).1 z hz; omega
 ·have:=(Uh HFr).2 z hz; omega
 ·exact ((Uh HB2).trans ((Uh HBK).mono h6)).trans (cc.below (Nat.le_trans h6 (Uh HBK).size) (fun j hj e => by omega))
 ·have:=(Uh HFr).1 z hz; omega
 ·have:=(Uh HFr).2 z hz; omega
end Go.Proofs.YtgjokididdffhaaGreat
