/- Ch5 -/
import Derived.Test.YtgjokididdffhaaGreatCh3
import Derived.Test.YtgjokididdffhaaGreatCga
import Derived.StillTailTactics
namespace Go.Proofs.YtgjokididdffhaaGreat
open Go.RowKit Go.Deep
set_option linter.unusedVariables false
set_option maxRecDepth 100000 in
set_option maxHeartbeats 8000000 in
theorem cdrop_any (X o:Nat) (cnt:Nat) (w:World) (hc:w.cell? ⟨X,o,none⟩ = some (.int .i64 (cnt:Int))) (hf:w.frozen? ⟨X,o,none⟩ = false) (hn:cnt ≤ 1000000000) :
  Calls Tryz.prog 106 #[.pointer (some ⟨X,o,none⟩)] w fun e w' => (∃ v,e = .returned v) ∧ w' = w.setCell ⟨X,o,none⟩ (.int .i64 ((cnt + 1:Nat):Int)):=by
 have hw:IntKind.i64.wrap ((cnt:Int) + 1) = (cnt:Int) + 1:=by rw [wrap_i64n]; omega
 have he:((cnt + 1:Nat):Int) = (cnt:Int) + 1:=by omega
 rw [he]
 clear he
 go_enter Tryz.func106,Tryz.ntmps106
 go_wp2_with fail
 try go_region
 all_goals (try go_wp2_with fail)
 all_goals (try go_end0)
 all_goals exact ⟨⟨_,rfl⟩,rfl⟩
set_option maxRecDepth 100000 in
set_option maxHeartbeats 8000000 in
theorem cset_any (X o h n:Nat) (cnt:Int) (k:Nat) (u:Value) (w:World) (hc:w.cell? ⟨X,o,none⟩ = some (.int .i64 cnt)) (hl:w.cell? ⟨X,o + 1,none⟩ = some (.slice (some ⟨h,0,none⟩) n n)) (hk:k < n) (hn:n ≤ 128) (hu:w.cell? ⟨h,k,none⟩ = some u) (hf:w.frozen? ⟨h,k,none⟩ = false) :
  Calls Tryz.prog 114 #[.pointer (some ⟨X,o,none⟩),.int .i64 (k:Int)] w fun e w' => (∃ v,e = .returned v) ∧ Chg (fun j => j = h) w w' ∧ ∀ f,RoV w h n f → RoV w' h n (fun i => if i = k then .int .i64 cnt else f i):=by
 have hk':(k:Int) < (n:Int):=by omega
 go_enter Tryz.func114,Tryz.ntmps114
 go_wp2_with fail
 go_region
 all_goals (try go_wp2_with fail)
 all_goals (try go_end0)
 all_goals exact ⟨⟨_,rfl⟩,by first | exact (Chg.of_drew _).trans (Chg.of_set _ _ _ _ rfl) | exact (Chg.of_set _ _ _ _ rfl).trans (Chg.of_drew _) | exact Chg.of_set _ _ _ _ rfl,fun f hf => by first | exact RoV.put (hf.chg (S:=fun _ => False) (Chg.of_drew _) (fun x => x)) k _ hk | exact (RoV.put hf k _ hk).chg (S:=fun _ => False) (Chg.of_drew _) (fun x => x) | exact RoV.put hf k _ hk⟩
set_option maxRecDepth 100000 in
set_option maxHeartbeats 8000000 in
theorem chas_any (X o h n:Nat) (cnt:Int) (k:Nat) (u:Int) (w:World) (hc:w.cell? ⟨X,o,none⟩ = some (.int .i64 cnt)) (hl:w.cell? ⟨X,o + 1,none⟩ = some (.slice (some ⟨h,0,none⟩) n n)) (hk:k < n) (hn:n ≤ 128) (hu:w.cell? ⟨h,k,none⟩ = some (.int .i64 u)) :
  Calls Tryz.prog 107 #[.pointer (some ⟨X,o,none⟩),.int .i64 (k:Int)] w fun e w' => e = .returned (.bool (u == cnt)) ∧ Below w.heap.size w w':=by
 have hk':(k:Int) < (n:Int):=by omega
 go_enter Tryz.func107,Tryz.ntmps107
 go_wp2_with fail
 try go_quiet (fail)
 all_goals (try go_wp2_with fail)
 all_goals (try go_ret)
 all_goals exact ⟨rfl,by first | exact Below.refl _ _ | exact bel_drewN (Below.refl _ _) _⟩
structure BrI (W:World) (X R:Nat) (vs:List Value) (b1:Option Addr) (m1 d1:Nat) (b2:Option Addr) (m2 d2:Nat) (g h:Nat) (cnt:Nat) (cs ls:Nat → Int) (st cols:List Int):Prop where
 box:BoxP W X vs
 v9:vs[9]? = some (.int .i64 (R:Int))
 v10:vs[10]? = some (.int .i64 (R:Int))
 v11:vs[11]? = some (.slice b1 m1 d1)
 v12:vs[12]? = some (.slice b2 m2 d2)
 v13:vs[13]? = some (.slice (some ⟨g,0,none⟩) R R)
 v14:vs[14]? = some (.int .i64 (cnt:Int))
 v15:vs[15]? = some (.slice (some ⟨h,0,none⟩) R R)
 col:RoV W g R (fun i => .int .i64 (cs i))
 last:RoV W h R (fun i => .int .i64 (ls i))
 s1:SlI W b1 m1 d1 st
 s2:SlI W b2 m2 d2 cols
 o1:∀ z,b1 = some z → st ≠ [] → z.block ≠ X ∧ z.block ≠ g ∧ z.block ≠ h
 o2:∀ z,b2 = some z → cols ≠ [] → z.block ≠ X ∧ z.block ≠ g ∧ z.block ≠ h
 ne:g ≠ h ∧ g ≠ X ∧ h ≠ X
theorem BrI.below {W W':World} {X R:Nat} {vs:List Value} {b1:Option Addr} {m1 d1:Nat} {b2:Option Addr} {m2 d2:Nat} {g h cnt:Nat} {cs ls:Nat → Int} {st cols:List Int} (k:BrI W X R vs b1 m1 d1 b2 m2 d2 g h cnt cs ls st cols) (b:Below W.heap.size W W'):BrI W' X R vs b1 m1 d1 b2 m2 d2 g h cnt cs ls st cols :=
 ⟨k.box.below b,k.v9,k.v10,k.v11,k.v12,k.v13,k.v14,k.v15,k.col.below b,k.last.below b,k.s1.below b,k.s2.below b,k.o1,k.o2,k.ne⟩
def cldL (cs:Nat → Int):List Int → List Int
 | [] => []
 | u :: l => (if cs u.toNat = -1 then [] else [u]) ++ cldL cs l
theorem cldL_snoc (cs:Nat → Int) (u:Int):∀ l,cldL cs (l ++ [u]) = cldL cs l ++ (if cs u.toNat = -1 then [] else [u])
 | [] => by simp [cldL]
 | x :: l => by simp only [List.cons_append,cldL]; rw [cldL_snoc cs u l,List.append_assoc]
theorem cldL_len (cs:Nat → Int):∀ l,(cldL cs l).length ≤ l.length
 | [] => Nat.le_refl _
 | x :: l => by
  have:=cldL_len cs l
  simp only [cldL,List.length_append,List.length_cons]
  split <;> simp <;> omega
def CldP (w w':World) (e:Ending) (l:List Int):Prop:=∃ a c,e = .returned (.slice a l.length c) ∧ SlI w' a l.length c l ∧ (∀ z,a = some z → w.heap.size ≤ z.block) ∧ Below w.heap.size w w'
set_option maxRecDepth 100000 in
set_option maxHeartbeats 16000000 in
theorem ccoloured_any (X R:Nat) (vs:List Value) (b1:Option Addr) (m1 d1:Nat) (b2:Option Addr) (m2 d2:Nat) (g h cnt:Nat) (cs ls:Nat → Int) (st cols:List Int) (v:Nat) (w:World) (hB:BrI w X R vs b1 m1 d1 b2 m2 d2 g h cnt cs ls st cols) (hm:MayP (R:Int) (R:Int) st cols) (hv:v < R) (hb1:m1 ≤ 17592186044000) (hb2:m2 ≤ 17592186044000) :
  Calls Tryz.prog 122 #[.pointer (some ⟨X,0,none⟩),.int .i64 (v:Int)] w fun e w' => CldP w w' e (cldL cs (rowL st cols v)):=by
 obtain ⟨Xr,Yr,hRow⟩:=hm.rowAt (k:=v) (by omega)
 have q9:=(hB.box.all 9 _ hB.v9).1
 have q10:=(hB.box.all 10 _ hB.v10).1
 have q11:=(hB.box.all 11 _ hB.v11).1
 have q12:=(hB.box.all 12 _ hB.v12).1
 have KR:=Hj (crow_any R (R:Int) b1 b2 m1 d1 m2 d2 st cols v Xr Yr w hB.s1 hB.s2 (by omega) (by omega) hm hv hRow)
 unfold patV subV at KR
 have hln:=hB.s2.len
 have hsub:=hB.s2.sub hRow.le (by rw [← hln]; exact hRow.lt)
 have eL:rowL st cols v = (cols.drop Xr).take (Yr - Xr):=by unfold rowL; rw [hRow.hX,hRow.hY]; simp
 rw [← eL] at hsub
 obtain ⟨A,hA⟩:∃ A,(if d2 = Xr then b2 else Option.map (fun x => x.add Xr) b2) = A:=⟨_,rfl⟩
 obtain ⟨q,hq⟩:∃ q,Yr - Xr = q:=⟨_,rfl⟩
 obtain ⟨d,hd⟩:∃ d,d2 - Xr = d:=⟨_,rfl⟩
 rw [hA,hq,hd] at KR hsub
 have hq8:q ≤ 17592186044000:=by have:=hRow.lt; omega
 have HRG:=Hj (fun (i:Nat) (hi:i < (rowL st cols v).length) => rowL_rng hm hv i hi)
 have HRW:=Hj (show ∀ i,i < q → (rowL st cols v).getD i 0 < (R:Int) from fun i hi => by
  have hrow:=(RowP.sub hRow.le).2 hRow.row
  rw [← eL] at hrow
  exact (hrow.rng i (Nat.zero_le _) (by omega)).2)
 obtain ⟨xs,hxs⟩:∃ xs,rowL st cols v = xs:=⟨_,rfl⟩
 rw [hxs] at hsub HRG HRW ⊢
 have HXL:=Hj hsub.len
 have HSB:=Hj hsub
 have HBR:=Hj hB
 have hR8:R ≤ 128:=by have:=hm.head.fit; omega
 obtain ⟨i64,hi,hz,hs,hb⟩:=info_parts Tryz.info_i64
 have HI:=Hj (And.intro hi (And.intro hz (And.intro hs hb)))
 clear hi hz hs hb hB hsub hRow hA hq hd eL hln hm hxs
 go_enter Tryz.func122,Tryz.ntmps122
 go_wp2_with fail
 refine (Uh KR).mono ?_
 rintro _ w2 ⟨rfl,b2'⟩
 have HB2:=Hj b2'
 have HBR2:=Hj ((Uh HBR).below b2')
 have HSB2:=Hj ((Uh HSB).below b2')
 clear KR b2' q9 q10 q11 q12
 go_wp2_with fail
 have hone:∀ y:Int,∀ z ∈ [Value.int .i64 y],z.oneCell' = true:=by intro y z hz; simp at hz; subst hz; rfl
 go_loopw [16,5] (fun kv lv wr => ∃ k:Nat,k ≤ q ∧ kv = .int .i64 (k:Int) ∧ Hid (wr.ownsRow w2.heap.size 3 1 lv (cldL cs (xs.take k)).length (valsI (cldL cs (xs.take k)))) ∧ Hid (Below w2.heap.size w2 wr)) (fun kv _ _ => q - (intOf kv).toNat)
 case atStart => exact ⟨0,Nat.zero_le _,rfl,Hj (by simpa [cldL,valsI] using World.ownsRow_nil w2 w2.heap.size 3 1),Hj (Below.refl _ _)⟩
 case round =>
  obtain ⟨k,hk,rfl,HO,HW⟩:=hrel
  by_cases hlt:k < q
  ·have hlt':(k:Int) < (q:Int):=by omega
   have hbr:=(Uh HBR2).below (Uh HW)
   have q13:=(hbr.box.all 13 _ hbr.v13).1
   obtain ⟨bb,off,e1,hc⟩:=((Uh HSB2).below (Uh HW)).at (by omega)
   subst e1
   have sk:=hc k hlt
   have hg:=Uh HRG k (by rw [Uh HXL]; exact hlt)
   have hgR:=Uh HRW k hlt
   obtain ⟨x,hx⟩:∃ x:Nat,xs.getD k 0 = (x:Int):=⟨(xs.getD k 0).toNat,by omega⟩
   rw [hx] at sk hg hgR
   have hxR:x < R:=by omega
   have hcx:=(hbr.col x hxR).1
   have HSN:=Hj (show xs.take (k + 1) = xs.take k ++ [(x:Int)] from by
    have hl:=Uh HXL
    rw [List.take_add_one]
    congr 1
    rw [List.getElem?_eq_getElem (by omega)]
    simp [List.getD,show k < xs.length by omega] at hx
    simp [hx])
   obtain ⟨y,hy⟩:∃ y,cs x = y:=⟨_,rfl⟩
   simp only [hy] at hcx
   have HY:=Hj hy
   have hcl:(cldL cs (xs.take k)).length ≤ 17592186044000:=by have:=cldL_len cs (xs.take k); rw [List.length_take] at this; omega
   clear hbr hc hx hg hy
   by_cases hn:y = -1
   ·have hn1:(y != -1) = false:=by simp [hn]
    have HN:=Hj (show wr.ownsRow w2.heap.size 3 1 u5 (cldL cs (xs.take (k + 1))).length (valsI (cldL cs (xs.take (k + 1)))) from by
     rw [Uh HSN,cldL_snoc]
     have e:cs ((x:Int)).toNat = -1:=by rw [show ((x:Int)).toNat = x by omega,Uh HY]; exact hn
     rw [if_pos e,List.append_nil]
     exact Uh HO)
    clear hn
    go_wp2_with fail
    exact ⟨⟨k + 1,by omega,by (first | rfl | go_num),HN,HW⟩,by simp [intOf]; omega⟩
   ·have hn1:(y != -1) = true:=by simp [hn]
    have HN1:=Hj (show cldL cs (xs.take (k + 1)) = cldL cs (xs.take k) ++ [(x:Int)] from by
     rw [Uh HSN,cldL_snoc]
     have e:¬ cs ((x:Int)).toNat = -1:=by rw [show ((x:Int)).toNat = x by omega,Uh HY]; exact hn
     rw [if_neg e])
    obtain ⟨C,hC⟩:∃ C,cldL cs (xs.take k) = C:=⟨_,rfl⟩
    rw [hC] at HO hcl HN1
    have hmx:C.length + 1 ≤ maxLen:=by unfold maxLen; omega
    have hby:(C.length + 1) * 8 ≤ 140737488355328:=by omega
    have hsz:=(Uh HW).size
    clear hn hC
    go_wp2_with (at_builtin; refine wpList_append_lies _ rfl _ _ 23 rfl w2.heap.size 3 i64 (.int .i64 0) 1 8 Tryz.underlying23 (Uh HI).1 (Uh HI).2.1 (Uh HI).2.2.1 (Uh HI).2.2.2 rfl (by decide) u5 C.length (valsI C) rfl ((Uh HO).alloc _) ⟨wr.heap.size,0,none⟩ 1 1 [.int .i64 (x:Int)] rfl rfl (World.news_of_block (alloc_block _ _)) (hone _) (by decide) hmx hby (by simp; omega) (wr.heap.size + 1) (by simp) ?_)
    intro g2 cap w4 hown hgr hat hlt4
    have hB4:Below w2.heap.size w2 w4:=((Uh HW).trans (((Below.refl w2.heap.size wr).alloc hsz _))).grown hgr (by simp; omega) (fun j hj => (own_ge (Uh HO) j hj).1)
    have HN:=Hj (show w4.ownsRow w2.heap.size 3 1 (.slice (some ⟨g2,0,none⟩) (C.length + 1) cap) (cldL cs (xs.take (k + 1))).length (valsI (cldL cs (xs.take (k + 1)))) from by
     rw [Uh HN1]
     simpa [valsI] using hown)
    have HB4:=Hj hB4
    clear hown hgr hat hlt4 hB4
    go_wp2_with fail
    exact ⟨⟨k + 1,by omega,by (first | rfl | go_num),HN,HB4⟩,by simp [intOf]; omega⟩
  ·obtain rfl:k = q:=by omega
   have hlt':¬ (k:Int) < (k:Int):=by omega
   have ho:=Uh HO
   rw [← Uh HXL,List.take_length] at ho
   obtain ⟨a,c,hv',hs'⟩:=own_slI ho
   have HNEW:=Hj (show ∀ z,a = some z → w2.heap.size ≤ z.block from fun z hz => (own_ge ho z.block (by rw [hv',hz]; rfl)).1)
   have HSS:=Hj hs'
   subst hv'
   clear ho hs'
   go_wp2_with fail
   try go_ret
   exact ⟨a,c,rfl,Uh HSS,fun z hz => Nat.le_trans (Uh HB2).size (Uh HNEW z hz),(Uh HB2).trans ((Uh HW).mono (Uh HB2).size)⟩
def RoF (w:World) (X o:Nat) (pf:Nat → Nat):Prop:=∀ e,e < 16384 → w.cell? ⟨X,o + e,none⟩ = some (.int .i16 (pf e:Int)) ∧ w.frozen? ⟨X,o + e,none⟩ = false
theorem RoF.put {w:World} {X o:Nat} {pf:Nat → Nat} (h:RoF w X o pf) (a b:Nat) (ha:a < 16384):RoF (w.setCell ⟨X,o + a,none⟩ (.int .i16 (b:Int))) X o (upF pf a b):=by
 intro e he
 rw [World.frozen?_setCell]
 refine ⟨?_,(h e he).2⟩
 by_cases c:e = a
 ·subst c
  rw [upF_same]
  exact World.cell?_setCell_same _ _ _ (h e he).1
 ·rw [upF_other _ c,World.cell?_setCell_other _ _ _ _ (by intro c; simp at c; first | done | omega)]
  exact (h e he).1
theorem RoF.chg {S:Nat → Prop} {w w':World} {X o:Nat} {pf:Nat → Nat} (h:RoF w X o pf) (k:Chg S w w') (hs:¬ S X):RoF w' X o pf:=fun e he => ⟨k.cell hs (h e he).1,by rw [k.frzP (World.block_lt_of_cell? _ _ (h e he).1) hs]; exact (h e he).2⟩
theorem RoF.below {w w':World} {X o:Nat} {pf:Nat → Nat} (h:RoF w X o pf) (k:Below w.heap.size w w'):RoF w' X o pf:=h.chg (S:=fun _ => False) (Chg.of_below k) (fun x => x)
structure FrC (X o:Nat) (w w':World):Prop where
 chg:Chg (fun j => j = X) w w'
 fr:∀ i,i < o → w'.cell? ⟨X,i,none⟩ = w.cell? ⟨X,i,none⟩ ∧ w'.frozen? ⟨X,i,none⟩ = w.frozen? ⟨X,i,none⟩
theorem FrC.refl (X o:Nat) (w:World):FrC X o w w:=⟨Chg.refl _ _,fun _ _ => ⟨rfl,rfl⟩⟩
theorem FrC.trans {X o:Nat} {a b c:World} (h:FrC X o a b) (k:FrC X o b c):FrC X o a c:=⟨h.chg.trans k.chg,fun i hi => ⟨(k.fr i hi).1.trans (h.fr i hi).1,(k.fr i hi).2.trans (h.fr i hi).2⟩⟩
theorem FrC.of_set (X o:Nat) (w:World) (i:Nat) (v:Value):FrC X o w (w.setCell ⟨X,o + i,none⟩ v) :=
 ⟨Chg.of_set _ _ _ _ rfl,fun j hj => ⟨World.cell?_setCell_other _ _ _ _ (by intro c; simp at c; first | done | omega),World.frozen?_setCell _ _ _ _⟩⟩
theorem FrC.of_below {X o:Nat} {w w':World} (h:Below w.heap.size w w') (hX:X < w.heap.size):FrC X o w w' :=
 ⟨Chg.of_below h,fun i hi => by
  have hb:=h.block X hX
  exact ⟨by unfold World.cell?; rw [hb],by unfold World.frozen?; rw [hb]⟩⟩
theorem FrC.drew {X o:Nat} {w w':World} (h:FrC X o w w'):FrC X o w w'.drew:=⟨h.chg.trans (Chg.of_drew _),h.fr⟩
theorem FrC.box {X o:Nat} {w w':World} (h:FrC X o w w') {vs:List Value} (hB:BoxP w X vs) (hl:vs.length ≤ o):BoxP w' X vs :=
 ⟨fun q u hq => by
  have hq2:q < vs.length:=by
   rcases Nat.lt_or_ge q vs.length with c | c
   ·exact c
   ·rw [List.getElem?_eq_none c] at hq; cases hq
  have:=h.fr q (by omega)
  rw [this.1,this.2]
  exact hB.all q u hq,Nat.lt_of_lt_of_le hB.lt h.chg.size⟩
theorem elD_lt {n x:Nat} (hn:n ≤ 128) (h:elD n x):x < 16384:=by unfold elD at h; omega
set_option maxRecDepth 100000 in
set_option maxHeartbeats 4000000 in
theorem celement_any (v k:Nat) (w:World) (hv:v < 128) (hk:k < 128) :
  Calls Tryz.prog 147 #[.int .i64 (v:Int),.int .i64 (k:Int)] w fun e w' => e = .returned (.int .i64 (elN v k:Int)) ∧ w' = w:=by
 have h1:(v:Int) * 128 = ((v * 128:Nat):Int):=by omega
 have h2:(v:Int) * 128 + (k:Int) = (elN v k:Int):=by unfold elN; omega
 have hw1:IntKind.i64.wrap ((v:Int) * 128) = (v:Int) * 128:=by rw [IntKind.wrap_i64]; omega
 have hw2:IntKind.i64.wrap ((v:Int) * 128 + (k:Int)) = (v:Int) * 128 + (k:Int):=by rw [IntKind.wrap_i64]; omega
 have HE:=Hj h2
 clear h1 h2
 go_enter Tryz.func147,Tryz.ntmps147
 go_wp2_with fail
 try go_ret
 exact ⟨rfl,rfl⟩
set_option maxRecDepth 100000 in
set_option maxHeartbeats 8000000 in
theorem croot_any (X o n a:Nat) (pf ro h:Nat → Nat) (M:Nat) (w:World) (hn:n ≤ 128) (hF:RoF w X o pf) (hU:UfI (elD n) pf ro h M) (ha:elD n a) :
  Calls Tryz.prog 146 #[.pointer (some ⟨X,o,none⟩),.int .i64 (a:Int)] w fun e w' => e = .returned (.int .i64 (ro a:Int)) ∧ ∃ pf',RoF w' X o pf' ∧ UfI (elD n) pf' ro h M ∧ FrC X o w w':=by
 have HF:=Hj hF
 have HU:=Hj hU
 have HA:=Hj ha
 clear hF hU ha
 go_enter Tryz.func146,Tryz.ntmps146
 go_wp2_with fail
 go_loopw [1] (fun ev wr => ∃ b:Nat,ev = .int .i64 (b:Int) ∧ Hid (elD n b ∧ ro b = ro a ∧ ∃ pf',RoF wr X o pf' ∧ UfI (elD n) pf' ro h M ∧ FrC X o w wr)) (fun ev _ => M - h (intOf ev).toNat)
 case atStart => exact ⟨a,rfl,Hj ⟨Uh HA,rfl,pf,Uh HF,Uh HU,FrC.refl _ _ _⟩⟩
 case round =>
  obtain ⟨b,rfl,HK⟩:=hrel
  obtain ⟨hb,hro,pf',hF',hU',hC⟩:=Uh HK
  have hlt:=elD_lt hn hb
  have c0:=(hF' b hlt).1
  obtain ⟨p,hp⟩:∃ p,pf' b = p:=⟨_,rfl⟩
  have hpD:elD n p:=by rw [← hp]; exact hU'.lt b hb
  have hplt:=elD_lt hn hpD
  have c1:=(hF' p hplt).1
  obtain ⟨q,hq⟩:∃ q,pf' p = q:=⟨_,rfl⟩
  have hqlt:q < 16384:=by rw [← hq]; exact elD_lt hn (hU'.lt p hpD)
  rw [hp] at c0
  rw [hq] at c1
  have f0:=(hF' b hlt).2
  have hb16:(b:Int) < 16384:=by omega
  have hp16:(p:Int) < 16384:=by omega
  by_cases hpb:p = b
  ·subst hpb
   have d1:((p:Int) == (p:Int)) = true:=by simp
   have hr:=hU'.id p hb hp
   rw [hro] at hr
   have HR:=Hj hr
   have HE:=Hj (show ∃ pf',RoF wr X o pf' ∧ UfI (elD n) pf' ro h M ∧ FrC X o w wr from ⟨pf',hF',hU',hC⟩)
   clear HK hb hro hF' hU' hC hp hpD hr hq c1
   go_wp2_with fail
   try go_ret
   exact ⟨by rw [Uh HR]; rfl,Uh HE⟩
  ·have d1:((p:Int) == (b:Int)) = false:=by simp; omega
   have hup:h b < h q:=by
    have h1:=hU'.up b hb (by rw [hp]; exact hpb)
    rw [hp] at h1
    by_cases e:q = p
    ·rw [e]; exact h1
    ·have h2:=hU'.up p hpD (by rw [hq]; exact e)
     rw [hq] at h2
     omega
   have hqM:h q ≤ M:=hU'.hM q (by rw [← hq]; exact hU'.lt p hpD)
   have HQ:=Hj (show elD n q ∧ ro q = ro a ∧ ∃ pf',RoF (wr.setCell ⟨X,o + b,none⟩ (.int .i16 (q:Int))).drew X o pf' ∧ UfI (elD n) pf' ro h M ∧ FrC X o w (wr.setCell ⟨X,o + b,none⟩ (.int .i16 (q:Int))).drew from
    ⟨by rw [← hq]; exact hU'.lt p hpD,by rw [← hq,hU'.st p hpD,← hp,hU'.st b hb,hro],upF pf' b q,(hF'.put b q hlt).below (Below.refl _ _).drew,by have:=hU'.halve hb; rw [hp,hq] at this; exact this,(hC.trans (FrC.of_set X o wr b _)).drew⟩)
   clear HK hb hro hF' hU' hC hp hpD hq
   go_wp2_with fail
   refine wp_region_still_tail 13 (by kernel_rfl) (by kernel_rfl) ?_
   simp only [List.take_succ_cons,List.take_zero,List.drop_succ_cons,List.drop_zero]
   repeat still_step
   refine wpStill_nil ?_
   go_wp2_with fail
   refine ⟨⟨q,rfl,HQ⟩,by simp [intOf]; omega⟩
def PtP (X o n:Nat) (w w':World) (e:Ending):Prop:=(∃ z,e = .returned z) ∧ ∃ pf',RoF w' X o pf' ∧ (∀ x,elD n x → pf' x = x) ∧ FrC X o w w'
set_option maxRecDepth 100000 in
set_option maxHeartbeats 8000000 in
theorem cpart_any (X o n:Nat) (pf:Nat → Nat) (w:World) (hn:n ≤ 128) (hF:RoF w X o pf) :
  Calls Tryz.prog 145 #[.pointer (some ⟨X,o,none⟩),.int .i64 (n:Int)] w fun e w' => PtP X o n w w' e:=by
 have HF:=Hj hF
 clear hF
 go_enter Tryz.func145,Tryz.ntmps145
 go_wp2_with fail
 go_loopw [7] (fun vv wr => ∃ v:Nat,v ≤ n ∧ vv = .int .i64 (v:Int) ∧ Hid (∃ pf',RoF wr X o pf' ∧ (∀ x,x / 128 < v → x % 128 < n → pf' x = x) ∧ FrC X o w wr)) (fun vv _ => n - (intOf vv).toNat)
 case atStart => exact ⟨0,Nat.zero_le _,rfl,Hj ⟨pf,Uh HF,fun x hx => absurd hx (Nat.not_lt_zero _),FrC.refl _ _ _⟩⟩
 case round =>
  obtain ⟨v,hv,rfl,HV⟩:=hrel
  by_cases hlt:v < n
  ·have hlt':(v:Int) < (n:Int):=by omega
   have HV0:=Hj (show ∃ pf',RoF wr X o pf' ∧ (∀ x,(x / 128 < v ∨ (x / 128 = v ∧ x % 128 < 0)) → x % 128 < n → pf' x = x) ∧ FrC X o w wr from by
    obtain ⟨p,h1,h2,h3⟩:=Uh HV
    exact ⟨p,h1,fun x hx => h2 x (by omega),h3⟩)
   clear HV
   go_wp2_with fail
   go_loopw [11] (fun kv wr => ∃ k:Nat,k ≤ n ∧ kv = .int .i64 (k:Int) ∧ Hid (∃ pf',RoF wr X o pf' ∧ (∀ x,(x / 128 < v ∨ (x / 128 = v ∧ x % 128 < k)) → x % 128 < n → pf' x = x) ∧ FrC X o w wr)) (fun kv _ => n - (intOf kv).toNat)
   case atStart => exact ⟨0,Nat.zero_le _,rfl,HV0⟩
   case round =>
    obtain ⟨k,hk,rfl,HK⟩:=hrel
    by_cases hin:k < n
    ·have hin':(k:Int) < (n:Int):=by omega
     obtain ⟨pf',h1,h2,h3⟩:=Uh HK
     obtain ⟨x,hx⟩:∃ x,elN v k = x:=⟨_,rfl⟩
     have hx16:x < 16384:=by rw [← hx]; unfold elN; omega
     have hx16':(x:Int) < 16384:=by omega
     have c0:=(h1 x hx16).1
     have f0:=(h1 x hx16).2
     have KE:=Hj (fun W => celement_any v k W (by omega) (by omega))
     rw [hx] at KE
     have hw16:IntKind.i16.wrap (x:Int) = (x:Int):=by simp [IntKind.wrap,IntKind.bits,IntKind.signed]; omega
     have HQ:=Hj (show ∃ pf',RoF (wr.setCell ⟨X,o + x,none⟩ (.int .i16 (x:Int))).drew X o pf' ∧ (∀ z,(z / 128 < v ∨ (z / 128 = v ∧ z % 128 < k + 1)) → z % 128 < n → pf' z = z) ∧ FrC X o w (wr.setCell ⟨X,o + x,none⟩ (.int .i16 (x:Int))).drew from
      ⟨upF pf' x x,(h1.put x x hx16).below (Below.refl _ _).drew,fun z hz hzn => by
       by_cases e:z = x
       ·rw [e,upF_same]
       ·rw [upF_other _ e]
        refine h2 z ?_ hzn
        have:¬ (z / 128 = v ∧ z % 128 = k):=fun c => e (by rw [← hx,← c.1,← c.2,elN_of])
        omega,(h3.trans (FrC.of_set X o wr x _)).drew⟩)
     clear HK h1 h2 h3 hx
     go_wp2_with fail
     refine wp_region_still_tail 10 (by kernel_rfl) (by kernel_rfl) ?_
     simp only [List.take_succ_cons,List.take_zero,List.drop_succ_cons,List.drop_zero]
     repeat (first | still_step | still_call (Uh KE _))
     refine wpStill_nil ?_
     go_wp2_with fail
     exact ⟨⟨k + 1,by omega,by (first | rfl | go_num),HQ⟩,by simp [intOf]; omega⟩
    ·obtain rfl:k = n:=by omega
     have hin':¬ (k:Int) < (k:Int):=by omega
     have HQ:=Hj (show ∃ pf',RoF wr X o pf' ∧ (∀ x,x / 128 < v + 1 → x % 128 < k → pf' x = x) ∧ FrC X o w wr from by
      obtain ⟨p,h1,h2,h3⟩:=Uh HK
      exact ⟨p,h1,fun x hx hxk => h2 x (by omega) hxk,h3⟩)
     clear HK
     go_wp2_with fail
     exact ⟨⟨v + 1,by omega,by (first | rfl | go_num),HQ⟩,by simp [intOf]; omega⟩
  ·obtain rfl:v = n:=by omega
   have hlt':¬ (v:Int) < (v:Int):=by omega
   go_wp2_with fail
   try go_end0
   obtain ⟨p,h1,h2,h3⟩:=Uh HV
   exact ⟨⟨_,rfl⟩,p,h1,fun x hx => h2 x hx.1 hx.2,h3⟩
end Go.Proofs.YtgjokididdffhaaGreat
