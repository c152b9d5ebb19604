/- Cu6 -/
import Derived.Test.YtgjokididdffhaaGreatCu5
import Derived.Test.YtgjokididdffhaaGreatCi6
namespace Go.Proofs.YtgjokididdffhaaGreat
open Go.RowKit Go.Deep
set_option linter.unusedVariables false
def adG (st cols:List Int) (R:Nat) (u v:Nat):Prop:=u < R ∧ v < R ∧ InC st cols v u
theorem adG.sy {st cols:List Int} {R:Nat} (hg:GraP st cols R R):∀ u v,adG st cols R u v → adG st cols R v u:=fun u v h => ⟨h.2.1,h.1,hg.2.1 _ _ h.2.1 h.1 h.2.2⟩
theorem adG.ir {st cols:List Int} {R:Nat} (hg:GraP st cols R R):∀ u,¬ adG st cols R u u:=fun u h => hg.2.2 ⟨u,h.1,h.2.2⟩
structure RgX (w0:World) (X o R:Nat) (ro h:Nat → Nat) (M:Nat) where
 w:World
 arr:∃ pf',RoF w X o pf' ∧ UfI (elD R) pf' ro h M
 frc:FrC X o w0 w
theorem wp_region_rg {P:Program} {X o R:Nat} {ro h:Nat → Nat} {M:Nat} {id:Nat} {Q:Exit → Act → World → Prop} {a:Act} {w:World} {l:List Oper} (hm:P.follows .mixedOrders = true) (hB:Region.lexB .any l.toArray = true) (hA:∃ pf',RoF w X o pf' ∧ UfI (elD R) pf' ro h M)
  (hh:wpQuiet P l.toArray (fun w' => ∃ x:RgX w X o R ro h M,w' = x.w) (fun a' => ∀ w',(∃ x:RgX w X o R ro h M,w' = x.w) → Q .normal a' w') l a):(Code.region id l.toArray true).wp P Q a w :=
 wp_region_quiet (C:=fun w' => ∃ x:RgX w X o R ro h M,w' = x.w) hm hB ⟨⟨w.drew,by obtain ⟨p,h1,h2⟩:=hA; exact ⟨p,h1.below (Below.refl _ _).drew,h2⟩,(FrC.refl _ _ _).drew⟩,rfl⟩ (by simpa using hh)
theorem RgX.ne {w:World} {X o R:Nat} {ro h:Nat → Nat} {M:Nat} (hA:∃ pf',RoF w X o pf' ∧ UfI (elD R) pf' ro h M):Nonempty (RgX w X o R ro h M):=⟨⟨w,hA,FrC.refl _ _ _⟩⟩
theorem RgX.root {w:World} {X o R:Nat} {ro h:Nat → Nat} {M:Nat} (x:RgX w X o R ro h M) (a:Nat) (hR:R ≤ 128) (ha:elD R a):Calls Tryz.prog 146 #[.pointer (some ⟨X,o,none⟩),.int .i64 (a:Int)] x.w fun e w'' => e = .returned (.int .i64 (ro a:Int)) ∧ ∃ y:RgX w X o R ro h M,w'' = y.w:=by
 obtain ⟨pf,h1,h2⟩:=x.arr
 refine (croot_any X o R a pf ro h M x.w hR h1 h2 ha).mono ?_
 rintro e w'' ⟨he,pf',k1,k2,k3⟩
 exact ⟨he,⟨w'',⟨pf',k1,k2⟩,x.frc.trans k3⟩,rfl⟩
theorem RgX.elem {w:World} {X o R:Nat} {ro h:Nat → Nat} {M:Nat} (x:RgX w X o R ro h M) (v k:Nat) (hv:v < 128) (hk:k < 128):Calls Tryz.prog 147 #[.int .i64 (v:Int),.int .i64 (k:Int)] x.w fun e w'' => e = .returned (.int .i64 (elN v k:Int)) ∧ ∃ y:RgX w X o R ro h M,w'' = y.w :=
 (celement_any v k x.w hv hk).mono fun e w' hh => ⟨hh.1,x,hh.2⟩
def ClC (W:World) (B:Nat) (v:Value) (k:Nat):Prop:=∃ n xs,n ≤ k ∧ W.ownsRow B 206 2 v n xs
theorem info_two:(Tryz.prog.info? 206).map (fun i => (i.zero,i.size,i.bytes)) = some (some (.agg #[.int .i64 0,.int .i64 0]),2,16):=by kernel_rfl
theorem row_atF {st cols:List Int} {R:Nat} (hm:MayP (R:Int) (R:Int) st cols) {v i:Nat} (hv:v < R) (hi:i < (rowL st cols v).length):∃ u:Nat,(rowL st cols v).getD i 0 = (u:Int) ∧ u < R:=by
 obtain ⟨X,Y,hR⟩:=hm.rowAt (k:=v) (by omega)
 have e:rowL st cols v = (cols.drop X).take (Y - X):=by unfold rowL; rw [hR.hX,hR.hY]; simp
 have hg:(rowL st cols v).getD i 0 = cols.getD (X + i) 0:=by
  rw [e]
  rw [e] at hi
  have:i < Y - X:=by rw [List.length_take] at hi; omega
  simp [List.getD,List.getElem?_take_of_lt this,List.getElem?_drop]
 have hr:=hR.row.rng (X + i) (by omega) (by rw [e,List.length_take] at hi; have:=hR.le; omega)
 exact ⟨(cols.getD (X + i) 0).toNat,by rw [hg]; omega,by omega⟩
theorem row_lenF {st cols:List Int} {R:Nat} (hm:MayP (R:Int) (R:Int) st cols) {v:Nat} (hv:v < R):(rowL st cols v).length ≤ R:=by
 obtain ⟨X,Y,hR⟩:=hm.rowAt (k:=v) (by omega)
 have e:rowL st cols v = (cols.drop X).take (Y - X):=by unfold rowL; rw [hR.hX,hR.hY]; simp
 have key:∀ i,X + i < Y → (i:Int) ≤ cols.getD (X + i) 0:=by
  intro i
  induction i with
  | zero => intro h; have:=hR.row.rng (X + 0) (by omega) h; omega
  | succ i ih =>
   intro h
   have h1:=ih (by omega)
   have h2:=hR.row.up (X + (i + 1)) (by omega) h
   rw [show X + (i + 1) - 1 = X + i by omega] at h2
   omega
 rw [e,List.length_take]
 rcases Nat.eq_zero_or_pos (Y - X) with c | c
 ·omega
 ·have h1:=key (Y - X - 1) (by omega)
  have h2:=hR.row.rng (X + (Y - X - 1)) (by omega) (by omega)
  omega
theorem rowL_some {st cols:List Int} {v:Nat} (h:rowL st cols v ≠ []):cols ≠ []:=fun e => h (by unfold rowL; rw [e]; simp)
theorem getD_mem {l:List Int} {i:Nat} {x:Int} (hi:i < l.length) (h:l.getD i 0 = x):x ∈ l:=by
 rw [← h]
 simp [List.getD,hi]
def EdN (st cols:List Int) (R u i:Nat) (p q:Nat):Prop:=adG st cols R p q ∧ p ≤ q ∧ (p < u ∨ (p = u ∧ ∃ j,j < i ∧ (rowL st cols u).getD j 0 = (q:Int)))
def GwI (X o R:Nat) (cs:Nat → Int) (st cols:List Int) (wb W:World) (u i:Nat):Prop:=∃ pf' ro h M,RoF W X o pf' ∧ UfI (elD R) pf' ro h M ∧ UfE (adG st cols R) cs R ro (EdN st cols R u i) ∧ FrC X o wb W
theorem GwI.skip {X o R:Nat} {cs:Nat → Int} {st cols:List Int} {wb W:World} {u i:Nat} (h:GwI X o R cs st cols wb W u i) {v:Nat} (hv:(rowL st cols u).getD i 0 = (v:Int)) (hs:v < u ∨ cs u = -1 ∨ cs v = -1):GwI X o R cs st cols wb W u (i + 1):=by
 obtain ⟨p,r,a,M,h1,h2,h3,h4⟩:=h
 refine ⟨p,r,a,M,h1,h2,h3.more (fun x y a' b' he ea eb => ⟨he.1,he.2.1,?_⟩),h4⟩
 rcases he.2.2 with c | ⟨c,j,hj,ej⟩
 ·exact .inl c
 ·right
  refine ⟨c,?_⟩
  by_cases e:j = i
  ·subst e
   rw [hv] at ej
   have hyv:y = v:=by omega
   subst hyv c
   have:=he.2.1
   rcases hs with hs | hs | hs <;> omega
  ·exact ⟨j,by omega,ej⟩
theorem GwI.take {X o R:Nat} {cs:Nat → Int} {st cols:List Int} {wb W':World} {u i:Nat} {pf ro h:Nat → Nat} {M:Nat} (hR:R ≤ 128) (hg:GraP st cols R R) (hU:UfI (elD R) pf ro h M) (hE:UfE (adG st cols R) cs R ro (EdN st cols R u i)) {v a b:Nat} (hu:u < R) (hv:v < R) (hv2:(rowL st cols u).getD i 0 = (v:Int)) (hI:InC st cols v u) (ea:cs v = (a:Int)) (eb:cs u = (b:Int)) (ha:a < R) (hb:b < R) (hF':RoF W' X o (upF pf (ro (elN u a)) (ro (elN v b)))) (hC:FrC X o wb W'):GwI X o R cs st cols wb W' u (i + 1):=by
 have D1:=elN_D hR hu ha
 have D2:=elN_D hR hv hb
 obtain ⟨h',M',hJ⟩:=hU.join (hU.rl _ D1) (hU.rl _ D2) (hU.fx _ D1) (hU.fx _ D2)
 refine ⟨_,_,h',M',hF',hJ,(hE.step (adG.sy hg) hR hu hv ea eb ha hb ⟨hu,hv,hI⟩).more (fun x y a' b' he _ _ => ?_),hC⟩
 rcases he.2.2 with c | ⟨c,j,hj,ej⟩
 ·exact .inl ⟨he.1,he.2.1,.inl c⟩
 ·by_cases e:j = i
  ·subst e
   rw [hv2] at ej
   exact .inr ⟨c,by omega⟩
  ·exact .inl ⟨he.1,he.2.1,.inr ⟨c,j,by omega,ej⟩⟩
def GwP (X o R:Nat) (cs:Nat → Int) (st cols:List Int) (w w':World) (e:Ending):Prop:=(∃ z,e = .returned z) ∧ ∃ pf' ro h M,RoF w' X o pf' ∧ UfI (elD R) pf' ro h M ∧ UfE (adG st cols R) cs R ro (fun u v => adG st cols R u v ∧ u ≤ v) ∧ FrC X o w w'
theorem BrI.chg {W W':World} {X R:Nat} {vs:List Value} {b1:Option Addr} {m1 d1:Nat} {b2:Option Addr} {m2 d2:Nat} {g h cnt:Nat} {cs ls ls':Nat → Int} {st cols:List Int} (k:BrI W X R vs b1 m1 d1 b2 m2 d2 g h cnt cs ls st cols) (c:Chg (fun j => j = h) W W') (hl:RoV W' h R (fun i => .int .i64 (ls' i))):BrI W' X R vs b1 m1 d1 b2 m2 d2 g h cnt cs ls' st cols :=
 ⟨k.box.chg c (fun e => k.ne.2.2 e.symm),k.v9,k.v10,k.v11,k.v12,k.v13,k.v14,k.v15,k.col.chg c k.ne.1,hl,k.s1.chg c (fun z hz hne => (k.o1 z hz hne).2.2),k.s2.chg c (fun z hz hne => (k.o2 z hz hne).2.2),k.o1,k.o2,k.ne⟩
theorem cldL_mem {cs:Nat → Int} {u:Int}:∀ {l:List Int},u ∈ cldL cs l ↔ u ∈ l ∧ cs u.toNat ≠ -1
 | [] => by simp [cldL]
 | x :: l => by
  simp only [cldL,List.mem_append,List.mem_cons]
  rw [cldL_mem (l:=l)]
  by_cases e:cs x.toNat = -1
  ·rw [if_pos e]
   constructor
   ·rintro (h | h)
    ·cases h
    ·exact ⟨.inr h.1,h.2⟩
   ·rintro ⟨rfl | h,h2⟩
    ·exact absurd e h2
    ·exact .inr ⟨h,h2⟩
  ·rw [if_neg e]
   constructor
   ·rintro (h | h)
    ·obtain rfl:u = x:=by simpa using h
     exact ⟨.inl rfl,e⟩
    ·exact ⟨.inr h.1,h.2⟩
   ·rintro ⟨rfl | h,h2⟩
    ·exact .inl (by simp)
    ·exact .inr ⟨h,h2⟩
def MkP (cs:Nat → Int) (L:List Int) (n:Nat) (k:Nat):Prop:=∃ i,i < n ∧ cs (L.getD i 0).toNat = (k:Int)
structure MkI (ls ls':Nat → Int) (cnt R:Nat) (P:Nat → Prop):Prop where
 iff:∀ k,k < R → (ls' k = (cnt:Int) ↔ (ls k = (cnt:Int) ∨ P k))
 le:∀ k,k < R → ls' k ≤ (cnt:Int)
theorem MkI.put {ls ls':Nat → Int} {cnt R:Nat} {P Q:Nat → Prop} {y:Nat} (h:MkI ls ls' cnt R P) (e:∀ k,Q k ↔ (P k ∨ k = y)):MkI ls (fun i => if i = y then (cnt:Int) else ls' i) cnt R Q:=by
 refine ⟨fun k hk => ?_,fun k hk => ?_⟩
 ·show (if k = y then (cnt:Int) else ls' k) = (cnt:Int) ↔ _
  by_cases c:k = y
  ·rw [if_pos c]
   exact ⟨fun _ => .inr ((e k).2 (.inr c)),fun _ => rfl⟩
  ·rw [if_neg c,h.iff k hk]
   exact ⟨fun z => z.imp_right (fun p => (e k).2 (.inl p)),fun z => z.imp_right (fun q => ((e k).1 q).resolve_right c)⟩
 ·show (if k = y then (cnt:Int) else ls' k) ≤ (cnt:Int)
  by_cases c:k = y
  ·rw [if_pos c]; exact Int.le_refl _
  ·rw [if_neg c]; exact h.le k hk
set_option maxRecDepth 100000 in
set_option maxHeartbeats 16000000 in
theorem cbarN_any (X R:Nat) (vs:List Value) (b1:Option Addr) (m1 d1:Nat) (b2:Option Addr) (m2 d2:Nat) (g h cnt:Nat) (cs ls:Nat → Int) (st cols:List Int) (v:Nat) (w:World) (hB:BrI w X R vs b1 m1 d1 b2 m2 d2 g h cnt cs ls st cols) (hm:MayP (R:Int) (R:Int) st cols) (hv:v < R) (hb1:m1 ≤ 17592186044000) (hb2:m2 ≤ 17592186044000) (hcs:∀ i,i < R → -1 ≤ cs i ∧ cs i < (R:Int)) (hls:∀ k,k < R → ls k ≤ (cnt:Int)) :
  Calls Tryz.prog 93 #[.pointer (some ⟨X,0,none⟩),.int .i64 (v:Int)] w fun e w' => (∃ z,e = .returned z) ∧ ∃ ls',BrI w' X R vs b1 m1 d1 b2 m2 d2 g h cnt cs ls' st cols ∧ MkI ls ls' cnt R (fun k => ∃ u ∈ rowL st cols v,cs u.toNat = (k:Int)) ∧ Chg (fun j => j = h) w w':=by
 have hR8:R ≤ 128:=by have:=hm.head.fit; omega
 have KC:=Hj (ccoloured_any X R vs b1 m1 d1 b2 m2 d2 g h cnt cs ls st cols v w hB hm hv hb1 hb2)
 have HBR:=Hj hB
 have HRG:=Hj (show ∀ u ∈ cldL cs (rowL st cols v),0 ≤ u ∧ u < (R:Int) ∧ cs u.toNat ≠ -1 from fun u hu => by
  obtain ⟨h1,h2⟩:=cldL_mem.1 hu
  obtain ⟨p,hp,he⟩:=mem_getD.1 h1
  have hg:=rowL_rng hm hv p hp
  obtain ⟨c,hc⟩:∃ c:Nat,u = (c:Int):=⟨u.toNat,by omega⟩
  subst hc
  have hin:=(rowL_mem hm hv).1 h1
  have hcR:c < R:=by
   obtain ⟨X',Y',hR'⟩:=hm.rowAt (k:=v) (by omega)
   obtain ⟨j,j1,j2,j3⟩:=hin
   rw [hR'.hX] at j1
   rw [hR'.hY] at j2
   have:=hR'.row.rng j (by omega) (by omega)
   omega
  exact ⟨by omega,by omega,h2⟩)
 have HCS:=Hj hcs
 have HLS:=Hj hls
 have HMEM:=Hj (show ∀ k:Nat,(MkP cs (cldL cs (rowL st cols v)) (cldL cs (rowL st cols v)).length k) ↔ (∃ u ∈ rowL st cols v,cs u.toNat = (k:Int)) from fun k => by
  constructor
  ·rintro ⟨i,hi,he⟩
   have hu:(cldL cs (rowL st cols v)).getD i 0 ∈ cldL cs (rowL st cols v):=mem_getD.2 ⟨i,hi,rfl⟩
   exact ⟨_,(cldL_mem.1 hu).1,he⟩
  ·rintro ⟨u,hu,he⟩
   have hu2:u ∈ cldL cs (rowL st cols v):=cldL_mem.2 ⟨hu,by rw [he]; omega⟩
   obtain ⟨i,hi,hg⟩:=mem_getD.1 hu2
   exact ⟨i,hi,by rw [hg]; exact he⟩)
 have HLL:=Hj (show (cldL cs (rowL st cols v)).length ≤ 17592186044000 from by
  have h1:=cldL_len cs (rowL st cols v)
  have h2:(rowL st cols v).length ≤ cols.length:=by unfold rowL; rw [List.length_take,List.length_drop]; omega
  have h3:=hB.s2.len
  omega)
 obtain ⟨L,hL⟩:∃ L,cldL cs (rowL st cols v) = L:=⟨_,rfl⟩
 rw [hL] at KC HRG HMEM HLL
 clear hB hm hcs hls hL
 go_enter Tryz.func93,Tryz.ntmps93
 go_wp2_with fail
 refine (Uh KC).mono ?_
 rintro _ w2 ⟨a,c,rfl,hs2,hnew,b2'⟩
 have HS2:=Hj hs2
 have HBR2:=Hj ((Uh HBR).below b2')
 have HB2:=Hj b2'
 have HNW:=Hj (show ∀ z,a = some z → z.block ≠ h from fun z hz e => by
  have h1:=hnew z hz
  have h2:=World.block_lt_of_cell? _ _ (((Uh HBR).last 0 (by omega)).1)
  simp at h2
  omega)
 have hll:=Uh HLL
 clear KC hs2 hnew b2'
 go_wp2_with fail
 go_loopw [10,5] (fun kv _ wr => ∃ k:Nat,k ≤ L.length ∧ kv = .int .i64 (k:Int) ∧ Hid (∃ ls',BrI wr X R vs b1 m1 d1 b2 m2 d2 g h cnt cs ls' st cols ∧ MkI ls ls' cnt R (MkP cs L k) ∧ Chg (fun j => j = h) w2 wr)) (fun kv _ _ => L.length - (intOf kv).toNat)
 case atStart => exact ⟨0,Nat.zero_le _,rfl,Hj ⟨ls,Uh HBR2,⟨fun k hk => ⟨.inl,fun z => z.elim id (fun ⟨i,hi,_⟩ => absurd hi (Nat.not_lt_zero _))⟩,Uh HLS⟩,Chg.refl _ _⟩⟩
 case round =>
  obtain ⟨k,hk,rfl,HK⟩:=hrel
  by_cases hlt:k < L.length
  ·have hlt':(k:Int) < (L.length:Int):=by omega
   obtain ⟨ls',hbr,hmk,hch⟩:=Uh HK
   have q13:=(hbr.box.all 13 _ hbr.v13).1
   have q14:=(hbr.box.all 14 _ hbr.v14).1
   have q15:=(hbr.box.all 15 _ hbr.v15).1
   obtain ⟨bb,off,e1,hc⟩:=((Uh HS2).chg hch (fun z hz _ => Uh HNW z hz)).at (by omega)
   subst e1
   have sk:=hc k hlt
   have hg:=Uh HRG (L.getD k 0) (mem_getD.2 ⟨k,hlt,rfl⟩)
   obtain ⟨x,hx⟩:∃ x:Nat,L.getD k 0 = (x:Int):=⟨(L.getD k 0).toNat,by omega⟩
   rw [hx] at sk hg
   have hxR:x < R:=by omega
   have hxR':(x:Int) < (R:Int):=by omega
   have hcx:=(hbr.col x hxR).1
   have hcr:=Uh HCS x hxR
   have hcn:cs x ≠ -1:=by have:=hg.2.2; rw [show ((x:Int)).toNat = x by omega] at this; exact this
   obtain ⟨y,hy⟩:∃ y:Nat,cs x = (y:Int):=⟨(cs x).toNat,by omega⟩
   simp only [hy] at hcx
   have hyR:y < R:=by omega
   have hly:=hbr.last y hyR
   have HMK:=Hj (hmk.put (Q:=MkP cs L (k + 1)) (y:=y) (fun j => by
    constructor
    ·rintro ⟨i,hi,he⟩
     by_cases e:i = k
     ·subst e
      rw [hx,show ((x:Int)).toNat = x by omega,hy] at he
      right; omega
     ·exact .inl ⟨i,by omega,he⟩
    ·rintro (⟨i,hi,he⟩ | e)
     ·exact ⟨i,by omega,he⟩
     ·exact ⟨k,by omega,by rw [hx,show ((x:Int)).toNat = x by omega,hy,e]⟩))
   have KS:=Hj (cset_any X 14 h R (cnt:Int) y _ wr.drew q14 q15 hyR hR8 hly.1 hly.2)
   have HBk:=Hj hbr
   have HCk:=Hj hch
   have hXh:=hbr.ne.2.2
   have hgh:=hbr.ne.1
   clear hc hg hcr hcn hbr hmk hch hly
   go_wp2_with fail
   go_region_held3 (fun w' => w'.cell? ⟨X,13,none⟩ = some (.slice (some ⟨g,0,none⟩) R R) ∧ w'.cell? ⟨g,x,none⟩ = some (.int .i64 (y:Int))) (first | (exact ⟨k0,k1⟩) | go_keep)
    ((go_at_call 114; refine (Uh KS).mono ?_; rintro _ w4 ⟨⟨zz,rfl⟩,c4,r4⟩; have k0:=c4.cell (show ¬ X = h from fun e => hXh e.symm) q13; have k1:=c4.cell (show ¬ g = h from hgh) hcx; have HN:=Hj (show BrI w4 X R vs b1 m1 d1 b2 m2 d2 g h cnt cs (fun i => if i = y then (cnt:Int) else ls' i) st cols from (Uh HBk).chg ((Chg.of_drew wr).trans c4) ((r4 _ ((Uh HBk).last.chg (S:=fun _ => False) (Chg.of_drew wr) (fun x => x))).congr (fun i hi => by by_cases e:i = y <;> simp [e]))); have HC4:=Hj (show Chg (fun j => j = h) w2 w4 from ((Uh HCk).trans (Chg.of_drew wr)).trans c4); clear c4 r4))
   clear k0 k1
   go_wp2_with fail
   exact ⟨⟨k + 1,by omega,by (first | rfl | go_num),Hj ⟨_,Uh HN,Uh HMK,Uh HC4⟩⟩,by simp [intOf]; omega⟩
  ·obtain rfl:k = L.length:=by omega
   have hlt':¬ (L.length:Int) < (L.length:Int):=by omega
   go_wp2_with fail
   try go_end0
   obtain ⟨ls',hbr,hmk,hch⟩:=Uh HK
   exact ⟨⟨_,rfl⟩,ls',hbr,⟨fun k hk => (hmk.iff k hk).trans ⟨fun z => z.imp_right (Uh HMEM k).1,fun z => z.imp_right (Uh HMEM k).2⟩,hmk.le⟩,(Chg.of_below (Uh HB2)).trans hch⟩
def TwP (cs:Nat → Int) (l:List Int) (u:Nat):Prop:=∃ x ∈ l,x ≠ (u:Int) ∧ cs x.toNat = cs u
set_option maxRecDepth 100000 in
set_option maxHeartbeats 16000000 in
theorem ctwin1_any (X R g x u:Nat) (cs:Nat → Int) (ub pb:Nat) (w:World) (h13:w.cell? ⟨X,13,none⟩ = some (.slice (some ⟨g,0,none⟩) R R)) (hcol:RoV w g R (fun i => .int .i64 (cs i))) (hx:x < R) (hu:u < R) (hR:R ≤ 128) (a0:w.cell? ⟨pb,0,none⟩ = some (.pointer (some ⟨X,0,none⟩))) (u0:w.cell? ⟨ub,0,none⟩ = some (.int .i64 (u:Int))) (ok:Bool) (hok:TruQ ok (x ≠ u ∧ cs x = cs u)) :
  Calls Tryz.prog 144 #[.int .i64 (x:Int),.pointer (some ⟨ub,0,none⟩),.pointer (some ⟨pb,0,none⟩)] w fun e w' => e = .returned (.bool ok) ∧ Below w.heap.size w w':=by
 have cx:=(hcol x hx).1
 have cu:=(hcol u hu).1
 have hx':(x:Int) < (R:Int):=by omega
 have hu':(u:Int) < (R:Int):=by omega
 obtain ⟨y,hy⟩:∃ y,cs x = y:=⟨_,rfl⟩
 obtain ⟨z,hz⟩:∃ z,cs u = z:=⟨_,rfl⟩
 simp only [hy] at cx
 simp only [hz] at cu
 rw [hy,hz] at hok
 have HOK:=Hj hok
 clear hcol hok hy hz
 by_cases hxu:x = u
 ·have e1:((x:Int) != (u:Int)) = false:=by simp [hxu]
  have hk:ok = false:=by
   cases hk2:ok
   ·rfl
   ·exact absurd hxu (Iff.mp (Uh HOK) hk2).1
  subst hk
  clear hxu
  go_enter Tryz.func144,Tryz.ntmps144
  go_wp2_with fail
  try go_quiet (fail)
  all_goals (try go_wp2_with fail)
  all_goals (try go_ret)
  all_goals exact ⟨rfl,by first | exact Below.refl _ _ | exact bel_drewN (Below.refl _ _) _⟩
 ·have e1:((x:Int) != (u:Int)) = true:=by simp; omega
  have hk:ok = (y == z):=by
   by_cases e:y = z
   ·rw [Iff.mpr (Uh HOK) ⟨hxu,e⟩]; simp [e]
   ·cases hk2:ok
    ·simp [e]
    ·exact absurd (Iff.mp (Uh HOK) hk2).2 e
  subst hk
  clear hxu HOK
  go_enter Tryz.func144,Tryz.ntmps144
  go_wp2_with fail
  try go_quiet (fail)
  all_goals (try go_wp2_with fail)
  all_goals (try go_ret)
  all_goals exact ⟨rfl,by first | exact Below.refl _ _ | exact bel_drewN (Below.refl _ _) _⟩
set_option maxRecDepth 20000 in
set_option maxHeartbeats 8000000 in
theorem cindexF_any (a:Option Addr) (n c:Nat) (xs:List Int) (T:Nat → Bool) (ub pb:Nat) (w:World) (h:SlI w a n c xs) (hn:n ≤ 17592186044416) (hf:∀ (W:World) (k:Nat),Below w.heap.size w W → k < n → Calls Tryz.prog 144 #[.int .i64 (xs.getD k 0),.pointer (some ⟨ub,0,none⟩),.pointer (some ⟨pb,0,none⟩)] W fun e w' => e = .returned (.bool (T k)) ∧ Below W.heap.size W w') :
  Calls Tryz.prog 127 #[.slice a n c,.func (.func 144) #[] #[.pointer (some ⟨ub,0,none⟩),.pointer (some ⟨pb,0,none⟩)]] w fun e w' => ∃ z:Int,e = .returned (.int .i64 z) ∧ (0 ≤ z ↔ ∃ k,k < n ∧ T k = true) ∧ Below w.heap.size w w':=by
 have HS:=Hj h
 have HF:=Hj hf
 clear h hf
 go_enter Tryz.func127,Tryz.ntmps127
 go_wp2_with fail
 go_loopw [8,5] (fun iv _ wr => ∃ i:Nat,i ≤ n ∧ iv = .int .i64 (i:Int) ∧ Hid (∀ k,k < i → T k = false) ∧ Hid (Below w.heap.size w wr)) (fun iv _ _ => n - (intOf iv).toNat)
 case atStart => exact ⟨0,Nat.zero_le _,rfl,Hj (fun k hk => by omega),Hj (Below.refl _ _)⟩
 case round =>
  obtain ⟨i,hi,rfl,HA,HW⟩:=hrel
  by_cases hlt:i < n
  ·have hlt':(i:Int) < (n:Int):=by omega
   obtain ⟨b,off,rfl,hc⟩:=((Uh HS).below (Uh HW)).at (by omega)
   have hx:=hc i hlt
   have K:=Uh HF wr i (Uh HW) hlt
   obtain ⟨x,hxx⟩:∃ x,xs.getD i 0 = x:=⟨_,rfl⟩
   rw [hxx] at hx K
   obtain ⟨t,ht⟩:∃ t,T i = t:=⟨_,rfl⟩
   rw [ht] at K
   have HK:=Hj K
   have HT:=Hj ht
   clear hc hxx K ht
   go_wp2_with fail
   refine (Uh HK).mono ?_
   rintro _ w2 ⟨rfl,b2⟩
   have HW2:=Hj ((Uh HW).trans (b2.mono (Uh HW).size))
   clear b2 HK hx
   cases t
   ·go_wp2_with fail
    refine ⟨⟨i + 1,by omega,by (first | rfl | go_num),Hj (fun k hk => ?_),HW2⟩,by simp [intOf]; omega⟩
    by_cases e:k = i
    ·rw [e]; exact Uh HT
    ·exact Uh HA k (by omega)
   ·go_wp2_with fail
    try go_ret
    exact ⟨_,rfl,⟨fun _ => ⟨i,hlt,Uh HT⟩,fun _ => by omega⟩,Uh HW2⟩
  ·obtain rfl:i = n:=by omega
   have hlt':¬ (i:Int) < (i:Int):=by omega
   go_wp2_with fail
   try go_ret
   exact ⟨_,rfl,⟨fun h => by omega,fun ⟨k,hk,e⟩ => by rw [Uh HA k hk] at e; cases e⟩,Uh HW⟩
set_option maxRecDepth 20000 in
set_option maxHeartbeats 8000000 in
theorem ccontF_any (a:Option Addr) (n c:Nat) (xs:List Int) (T:Nat → Bool) (ub pb:Nat) (w:World) (h:SlI w a n c xs) (hn:n ≤ 17592186044416) (hf:∀ (W:World) (k:Nat),Below w.heap.size w W → k < n → Calls Tryz.prog 144 #[.int .i64 (xs.getD k 0),.pointer (some ⟨ub,0,none⟩),.pointer (some ⟨pb,0,none⟩)] W fun e w' => e = .returned (.bool (T k)) ∧ Below W.heap.size W w') (ok:Bool) (hok:TruQ ok (∃ k,k < n ∧ T k = true)) :
  Calls Tryz.prog 143 #[.slice a n c,.func (.func 144) #[] #[.pointer (some ⟨ub,0,none⟩),.pointer (some ⟨pb,0,none⟩)]] w fun e w' => e = .returned (.bool ok) ∧ Below w.heap.size w w':=by
 have KI:=Hj (cindexF_any a n c xs T ub pb w h hn hf)
 have HOK:=Hj hok
 clear h hok hf
 go_enter Tryz.func143,Tryz.ntmps143
 go_wp2_with fail
 refine (Uh KI).mono ?_
 rintro _ w2 ⟨z,rfl,hz,b2⟩
 have hd:decide (0 ≤ z) = ok:=by
  cases hk:ok
  ·exact decide_eq_false (fun h => by have:=Iff.mpr (Uh HOK) (hz.1 h); rw [hk] at this; cases this)
  ·exact decide_eq_true (hz.2 (Iff.mp (Uh HOK) hk))
 have HB:=Hj b2
 clear KI hz b2 HOK
 go_wp2_with fail
 try go_ret
 exact ⟨by simp_all,Uh HB⟩
set_option maxRecDepth 100000 in
set_option maxHeartbeats 16000000 in
theorem chasTwin_any (X R:Nat) (vs:List Value) (b1:Option Addr) (m1 d1:Nat) (b2:Option Addr) (m2 d2:Nat) (g h cnt:Nat) (cs ls:Nat → Int) (st cols:List Int) (v u:Nat) (w:World) (hB:BrI w X R vs b1 m1 d1 b2 m2 d2 g h cnt cs ls st cols) (hm:MayP (R:Int) (R:Int) st cols) (hv:v < R) (hu:u < R) (hb1:m1 ≤ 17592186044000) (hb2:m2 ≤ 17592186044000) (ok:Bool) (hok:TruQ ok (TwP cs (rowL st cols v) u)) :
  Calls Tryz.prog 129 #[.pointer (some ⟨X,0,none⟩),.int .i64 (v:Int),.int .i64 (u:Int)] w fun e w' => e = .returned (.bool ok) ∧ Below w.heap.size w w':=by
 obtain ⟨wa,hwa⟩:∃ x,w.alloc (.cells #[.pointer (some ⟨X,0,none⟩)] 83) = x:=⟨_,rfl⟩
 have ba:Below w.heap.size w wa:=by rw [← hwa]; exact bAl
 have hA:=BoxP.made w #[.pointer (some ⟨X,0,none⟩)] 83
 rw [hwa] at hA
 obtain ⟨wb,hwb⟩:∃ x,wa.alloc (.cells #[.int .i64 (u:Int)] 3) = x:=⟨_,rfl⟩
 have bb:Below wa.heap.size wa wb:=by rw [← hwb]; exact bAl
 have hU:=BoxP.made wa #[.int .i64 (u:Int)] 3
 rw [hwb] at hU
 have bw:=ba.trans (bb.mono ba.size)
 have hBw:=hB.below bw
 have hAw:=hA.below bb
 have a0:=(hAw.all 0 _ rfl).1
 have u0:=(hU.all 0 _ rfl).1
 have q9:=(hBw.box.all 9 _ hBw.v9).1
 have q10:=(hBw.box.all 10 _ hBw.v10).1
 have q11:=(hBw.box.all 11 _ hBw.v11).1
 have q12:=(hBw.box.all 12 _ hBw.v12).1
 obtain ⟨Xr,Yr,hRow⟩:=hm.rowAt (k:=v) (by omega)
 have KR:=Hj (crow_any R (R:Int) b1 b2 m1 d1 m2 d2 st cols v Xr Yr wb hBw.s1 hBw.s2 (by omega) (by omega) hm hv hRow)
 unfold patV subV at KR
 have hln:=hBw.s2.len
 have hsub:=hBw.s2.sub hRow.le (by rw [← hln]; exact hRow.lt)
 have eL:rowL st cols v = (cols.drop Xr).take (Yr - Xr):=by unfold rowL; rw [hRow.hX,hRow.hY]; simp
 have hrow:=(RowP.sub hRow.le).2 hRow.row
 rw [← eL] at hsub hrow
 obtain ⟨A,hA'⟩:∃ A,(if d2 = Xr then b2 else Option.map (fun x => x.add Xr) b2) = A:=⟨_,rfl⟩
 obtain ⟨q,hq⟩:∃ q,Yr - Xr = q:=⟨_,rfl⟩
 obtain ⟨d,hd⟩:∃ d,d2 - Xr = d:=⟨_,rfl⟩
 rw [hA',hq,hd] at KR hsub
 rw [hq] at hrow
 have hq8:q ≤ 17592186044000:=by have:=hRow.lt; omega
 have hR8:R ≤ 128:=by have:=hm.head.fit; omega
 obtain ⟨xs,hxs⟩:∃ xs,rowL st cols v = xs:=⟨_,rfl⟩
 rw [hxs] at hsub hrow hok
 have HROW:=Hj hrow
 have HSB:=Hj hsub
 have HOK:=Hj hok
 have HBw:=Hj hBw
 have HAU:=Hj (And.intro hAw hU)
 have HBel:=Hj bw
 clear hA hU hAw hBw ba bb bw hB hsub hrow hok eL hln hA' hq hd hxs
 go_enter Tryz.func129,Tryz.ntmps129
 go_wp2_with fail
 refine (Uh KR).mono ?_
 rintro _ w2 ⟨rfl,b2'⟩
 have hBr2:=(Uh HBw).below b2'
 have hs2:=(Uh HSB).below b2'
 have hau:=And.intro ((Uh HAU).1.below b2') ((Uh HAU).2.below b2')
 have KF:=Hj (ccontF_any A q d xs (fun k => tb ((xs.getD k 0).toNat ≠ u ∧ cs (xs.getD k 0).toNat = cs u)) wa.heap.size w.heap.size w2 hs2 (by omega) (fun W k bW hk => by
  have hg:=(Uh HROW).rng k (Nat.zero_le _) hk
  obtain ⟨x,hx⟩:∃ x:Nat,xs.getD k 0 = (x:Int):=⟨(xs.getD k 0).toNat,by omega⟩
  have hbW:=hBr2.below bW
  try dsimp only
  rw [hx,show ((x:Int)).toNat = x by omega]
  exact ctwin1_any X R g x u cs wa.heap.size w.heap.size W (hbW.box.all 13 _ hbW.v13).1 hbW.col (by rw [hx] at hg; omega) hu hR8 ((hau.1.below bW).all 0 _ rfl).1 ((hau.2.below bW).all 0 _ rfl).1 _ tb_iff) ok ((show ok = true ↔ _ from Uh HOK).trans (by
   constructor
   ·rintro ⟨x,hx,h1,h2⟩
    obtain ⟨p,hp,he⟩:=mem_getD.1 hx
    rw [hs2.len] at hp
    have hg:=(Uh HROW).rng p (Nat.zero_le _) hp
    refine ⟨p,hp,tb_yes ⟨?_,?_⟩⟩
    ·rw [he] at hg ⊢; omega
    ·rw [he]; exact h2
   ·rintro ⟨k,hk,ht⟩
    have ht2:=tb_iff.1 ht
    have hg:=(Uh HROW).rng k (Nat.zero_le _) hk
    refine ⟨xs.getD k 0,mem_getD.2 ⟨k,by rw [hs2.len]; exact hk,rfl⟩,?_,ht2.2⟩
    have:=ht2.1
    omega)))
 have HB2:=Hj b2'
 clear KR hBr2 hs2 hau b2' a0 u0 q9 q10 q11 q12 hm hRow
 go_wp2_with fail
 refine (Uh KF).mono ?_
 rintro _ w3 ⟨rfl,b3⟩
 have HB3:=Hj b3
 clear KF b3
 go_wp2_with fail
 try go_ret
 have t1:=(Uh HBel).trans ((Uh HB2).mono (Uh HBel).size)
 exact ⟨rfl,t1.trans ((Uh HB3).mono t1.size)⟩
end Go.Proofs.YtgjokididdffhaaGreat
