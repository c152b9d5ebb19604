/- Ch9 -/
import Derived.Test.YtgjokididdffhaaGreatCh8
import Derived.Test.YtgjokididdffhaaGreatRq0
import Derived.Test.YtgjokididdffhaaGreatCh3
namespace Go.Proofs.YtgjokididdffhaaGreat
open Go.RowKit Go.Deep
set_option linter.unusedVariables false
def PaP (st cols:List Int) (cs:Nat → Int) (v:Nat) (L:List Int) (j:Nat) (k:Nat):Prop:=∃ p,p < j ∧ ∃ x ∈ cldL cs (rowL st cols (L.getD p 0).toNat),cs x.toNat = (k:Int) ∧ (TwP cs (rowL st cols v) (L.getD p 0).toNat ∨ TwP cs (rowL st cols x.toNat) (L.getD p 0).toNat)
def PiP (st cols:List Int) (cs:Nat → Int) (v u:Nat) (M:List Int) (i:Nat) (k:Nat):Prop:=∃ p,p < i ∧ cs (M.getD p 0).toNat = (k:Int) ∧ (TwP cs (rowL st cols v) u ∨ TwP cs (rowL st cols (M.getD p 0).toNat) u)
theorem MkI.same {ls ls':Nat → Int} {cnt R:Nat} {P Q:Nat → Prop} (h:MkI ls ls' cnt R P) (e1:∀ k,P k → Q k) (e2:∀ k,k < R → Q k → P k ∨ ls' k = (cnt:Int)):MkI ls ls' cnt R Q :=
 ⟨fun k hk => ⟨fun z => ((h.iff k hk).1 z).imp_right (e1 k),fun z => z.elim (fun z => (h.iff k hk).2 (.inl z)) (fun q => (e2 k hk q).elim (fun p => (h.iff k hk).2 (.inr p)) id)⟩,h.le⟩
theorem PiP.next {st cols:List Int} {cs:Nat → Int} {v u:Nat} {M:List Int} {i x y:Nat} (hx:M.getD i 0 = (x:Int)) (hy:cs x = (y:Int)) (k:Nat):PiP st cols cs v u M (i + 1) k ↔ (PiP st cols cs v u M i k ∨ (k = y ∧ (TwP cs (rowL st cols v) u ∨ TwP cs (rowL st cols x) u))):=by
 have ex:((x:Int)).toNat = x:=by omega
 constructor
 ·rintro ⟨p,hp,h1,h2⟩
  by_cases e:p = i
  ·subst e
   rw [hx,ex] at h1 h2
   exact .inr ⟨by omega,h2⟩
  ·exact .inl ⟨p,by omega,h1,h2⟩
 ·rintro (⟨p,hp,h1,h2⟩ | ⟨h1,h2⟩)
  ·exact ⟨p,by omega,h1,h2⟩
  ·exact ⟨i,by omega,by rw [hx,ex,hy,h1],by rw [hx,ex]; exact h2⟩
theorem PaP.next {st cols:List Int} {cs:Nat → Int} {v u:Nat} {L:List Int} {j:Nat} (hu:L.getD j 0 = (u:Int)) (k:Nat):PaP st cols cs v L (j + 1) k ↔ (PaP st cols cs v L j k ∨ PiP st cols cs v u (cldL cs (rowL st cols u)) (cldL cs (rowL st cols u)).length k):=by
 have eu:((u:Int)).toNat = u:=by omega
 constructor
 ·rintro ⟨p,hp,x,hx,h1,h2⟩
  by_cases e:p = j
  ·subst e
   rw [hu,eu] at hx h2
   obtain ⟨i,hi,he⟩:=mem_getD.1 hx
   exact .inr ⟨i,hi,by rw [he]; exact h1,by rw [he]; exact h2⟩
  ·exact .inl ⟨p,by omega,x,hx,h1,h2⟩
 ·rintro (⟨p,hp,h⟩ | ⟨i,hi,h1,h2⟩)
  ·exact ⟨p,by omega,h⟩
  ·exact ⟨j,by omega,_,(by rw [hu,eu]; exact mem_getD.2 ⟨i,hi,rfl⟩),h1,by rw [hu,eu]; exact h2⟩
theorem cld_rng {R:Nat} {st cols:List Int} {cs:Nat → Int} (hm:MayP (R:Int) (R:Int) st cols) {v:Nat} (hv:v < R) {u:Int} (hu:u ∈ cldL cs (rowL st cols v)):0 ≤ u ∧ u < (R:Int) ∧ cs u.toNat ≠ -1:=by
 obtain ⟨h1,h2⟩:=cldL_mem.1 hu
 obtain ⟨p,hp,he⟩:=mem_getD.1 h1
 have hg:=rowL_rng hm hv p hp
 obtain ⟨c,hc⟩:∃ c:Nat,u = (c:Int):=⟨u.toNat,by omega⟩
 subst hc
 obtain ⟨X',Y',hR'⟩:=hm.rowAt (k:=v) (by omega)
 obtain ⟨j,j1,j2,j3⟩:=(rowL_mem hm hv).1 h1
 rw [hR'.hX] at j1
 rw [hR'.hY] at j2
 have:=hR'.row.rng j (by omega) (by omega)
 exact ⟨by omega,by omega,h2⟩
theorem cld_short {R:Nat} {st cols:List Int} {cs:Nat → Int} {v m2:Nat} (hl:cols.length = m2) (hb:m2 ≤ 17592186044000):(cldL cs (rowL st cols v)).length ≤ 17592186044000:=by
 have h1:=cldL_len cs (rowL st cols v)
 have h2:(rowL st cols v).length ≤ cols.length:=by unfold rowL; rw [List.length_take,List.length_drop]; omega
 omega
set_option maxRecDepth 100000 in
set_option maxHeartbeats 16000000 in
theorem cbarP_any (X R:Nat) (vs:List Value) (b1:Option Addr) (m1 d1:Nat) (b2:Option Addr) (m2 d2:Nat) (g h cnt:Nat) (cs ls:Nat → Int) (st cols:List Int) (v:Nat) (w:World) (hB:BrI w X R vs b1 m1 d1 b2 m2 d2 g h cnt cs ls st cols) (hm:MayP (R:Int) (R:Int) st cols) (hv:v < R) (hb1:m1 ≤ 17592186044000) (hb2:m2 ≤ 17592186044000) (hcs:∀ i,i < R → -1 ≤ cs i ∧ cs i < (R:Int)) (hls:∀ k,k < R → ls k ≤ (cnt:Int)) :
  Calls Tryz.prog 102 #[.pointer (some ⟨X,0,none⟩),.int .i64 (v:Int)] w fun e w' => (∃ z,e = .returned z) ∧ ∃ ls',BrI w' X R vs b1 m1 d1 b2 m2 d2 g h cnt cs ls' st cols ∧ MkI ls ls' cnt R (fun k => (∃ u ∈ rowL st cols v,cs u.toNat = (k:Int)) ∨ PaP st cols cs v (cldL cs (rowL st cols v)) (cldL cs (rowL st cols v)).length k) ∧ Chg (fun j => j = h) w w':=by
 have hR8:R ≤ 128:=by have:=hm.head.fit; omega
 have KN:=Hj (cbarN_any X R vs b1 m1 d1 b2 m2 d2 g h cnt cs ls st cols v w hB hm hv hb1 hb2 hcs hls)
 have HM:=Hj hm
 have HCS:=Hj hcs
 clear hB hm hcs
 go_enter Tryz.func102,Tryz.ntmps102
 go_wp2_with fail
 refine (Uh KN).mono ?_
 rintro _ w2 ⟨⟨z,rfl⟩,ls2,hB2,hM2,hC2⟩
 have KC:=Hj (ccoloured_any X R vs b1 m1 d1 b2 m2 d2 g h cnt cs ls2 st cols v w2 hB2 (Uh HM) hv hb1 hb2)
 go_wp2_with fail
 refine (Uh KC).mono ?_
 rintro _ w3 ⟨a,c,rfl,hs3,hnew,b3⟩
 obtain ⟨L,hL⟩:∃ L,cldL cs (rowL st cols v) = L:=⟨_,rfl⟩
 have HRG:=Hj (fun (u:Int) (hu:u ∈ cldL cs (rowL st cols v)) => cld_rng (Uh HM) hv hu)
 have HLL:=Hj (cld_short (R:=R) (v:=v) (cs:=cs) (st:=st) hB2.s2.len hb2)
 rw [hL] at hs3 HRG HLL ⊢
 have HS3:=Hj hs3
 have HNW:=Hj (show ∀ z,a = some z → z.block ≠ h from fun z hz e => by
  have h1:=hnew z hz
  have h2:=World.block_lt_of_cell? _ _ ((hB2.last 0 (by omega)).1)
  simp at h2
  omega)
 have HB3:=Hj (hB2.below b3)
 have HM2:=Hj hM2
 have HC3:=Hj (hC2.trans (Chg.of_below b3))
 have hll:=Uh HLL
 have HLE:=Hj hL
 clear KN KC hB2 hM2 hC2 hs3 hnew b3 hL
 go_wp2_with fail
 go_loopw [16,5] (fun kv _ wr => ∃ j:Nat,j ≤ L.length ∧ kv = .int .i64 (j:Int) ∧ Hid (∃ ls',BrI wr X R vs b1 m1 d1 b2 m2 d2 g h cnt cs ls' st cols ∧ MkI ls ls' cnt R (fun k => (∃ u ∈ rowL st cols v,cs u.toNat = (k:Int)) ∨ PaP st cols cs v L j k) ∧ Chg (fun j => j = h) w3 wr)) (fun kv _ _ => L.length - (intOf kv).toNat)
 case atStart => exact ⟨0,Nat.zero_le _,rfl,Hj ⟨ls2,Uh HB3,(Uh HM2).same (fun k p => .inl p) (fun k _ q => .inl (q.elim id (fun ⟨p,hp,_⟩ => absurd hp (Nat.not_lt_zero _)))),Chg.refl _ _⟩⟩
 case round =>
  obtain ⟨j,hj,rfl,HJ⟩:=hrel
  by_cases hlt:j < L.length
  ·have hlt':(j:Int) < (L.length:Int):=by omega
   obtain ⟨ls3,hbr,hmk,hch⟩:=Uh HJ
   obtain ⟨bb,off,e1,hc⟩:=((Uh HS3).chg hch (fun z hz _ => Uh HNW z hz)).at (by omega)
   subst e1
   have sk:=hc j hlt
   have hg:=Uh HRG (L.getD j 0) (mem_getD.2 ⟨j,hlt,rfl⟩)
   obtain ⟨u,hu⟩:∃ u:Nat,L.getD j 0 = (u:Int):=⟨(L.getD j 0).toNat,by omega⟩
   rw [hu] at sk hg
   have huR:u < R:=by omega
   have HU:=Hj hu
   obtain ⟨tw,htw⟩:=truth (TwP cs (rowL st cols v) u)
   have HTW:=Hj (show TruQ tw _ from htw)
   have KT:=Hj (chasTwin_any X R vs b1 m1 d1 b2 m2 d2 g h cnt cs ls3 st cols v u wr hbr (Uh HM) hv huR hb1 hb2 tw htw)
   have HBr:=Hj hbr
   have HMk:=Hj hmk
   have HCh:=Hj hch
   clear hc hu hg hbr hmk hch htw HJ
   go_wp2_with fail
   refine (Uh KT).mono ?_
   rintro _ w4 ⟨rfl,b4⟩
   have KD:=Hj (ccoloured_any X R vs b1 m1 d1 b2 m2 d2 g h cnt cs ls3 st cols u w4 ((Uh HBr).below b4) (Uh HM) huR hb1 hb2)
   have HB4:=Hj ((Uh HBr).below b4)
   have HC4:=Hj ((Uh HCh).trans (Chg.of_below b4))
   clear KT b4 sk
   go_wp2_with fail
   refine (Uh KD).mono ?_
   rintro _ w5 ⟨a5,c5,rfl,hs5,hnew5,b5⟩
   have HML:=Hj (cld_short (R:=R) (v:=u) (cs:=cs) (st:=st) (Uh HB4).s2.len hb2)
   have HMG:=Hj (fun (x:Int) (hx:x ∈ cldL cs (rowL st cols u)) => cld_rng (Uh HM) huR hx)
   have HPN:=Hj (fun (k:Nat) => PaP.next (cs:=cs) (st:=st) (cols:=cols) (v:=v) (Uh HU) k)
   obtain ⟨M,hM⟩:∃ M,cldL cs (rowL st cols u) = M:=⟨_,rfl⟩
   rw [hM] at hs5 HML HMG HPN ⊢
   have HS5:=Hj hs5
   have HN5:=Hj (show ∀ z,a5 = some z → z.block ≠ h from fun z hz e => by
    have h1:=hnew5 z hz
    have h2:=World.block_lt_of_cell? _ _ (((Uh HB4).last 0 (by omega)).1)
    simp at h2
    omega)
   have HB5:=Hj ((Uh HB4).below b5)
   have HC5:=Hj ((Uh HC4).trans (Chg.of_below b5))
   have hml:=Uh HML
   clear KD hs5 hnew5 b5 hM
   go_wp2_with fail
   go_loopw [28,8] (fun kv _ wq => ∃ i:Nat,i ≤ M.length ∧ kv = .int .i64 (i:Int) ∧ Hid (∃ ls',BrI wq X R vs b1 m1 d1 b2 m2 d2 g h cnt cs ls' st cols ∧ MkI ls ls' cnt R (fun k => ((∃ u ∈ rowL st cols v,cs u.toNat = (k:Int)) ∨ PaP st cols cs v L j k) ∨ PiP st cols cs v u M i k) ∧ Chg (fun j => j = h) w5 wq)) (fun kv _ _ => M.length - (intOf kv).toNat)
   case atStart => exact ⟨0,Nat.zero_le _,rfl,Hj ⟨ls3,Uh HB5,(Uh HMk).same (fun k p => .inl p) (fun k _ q => .inl (q.elim id (fun ⟨p,hp,_⟩ => absurd hp (Nat.not_lt_zero _)))),Chg.refl _ _⟩⟩
   case round =>
    obtain ⟨i,hi,rfl,HIn⟩:=hrel
    by_cases hin:i < M.length
    ·have hin':(i:Int) < (M.length:Int):=by omega
     obtain ⟨ls4,hbr,hmk,hch⟩:=Uh HIn
     obtain ⟨bb',off',e1,hc⟩:=((Uh HS5).chg hch (fun z hz _ => Uh HN5 z hz)).at (by omega)
     subst e1
     have sk:=hc i hin
     have hg:=Uh HMG (M.getD i 0) (mem_getD.2 ⟨i,hin,rfl⟩)
     obtain ⟨x,hx⟩:∃ x:Nat,M.getD i 0 = (x:Int):=⟨(M.getD i 0).toNat,by omega⟩
     rw [hx] at sk hg
     have hxR:x < R:=by omega
     have hxR':(x:Int) < (R:Int):=by omega
     have hcx:=(hbr.col x hxR).1
     have hcr:=Uh HCS x hxR
     have hcn:cs x ≠ -1:=by have:=hg.2.2; rw [show ((x:Int)).toNat = x by omega] at this; exact this
     obtain ⟨y,hy⟩:∃ y:Nat,cs x = (y:Int):=⟨(cs x).toNat,by omega⟩
     simp only [hy] at hcx
     have hyR:y < R:=by omega
     have q13:=(hbr.box.all 13 _ hbr.v13).1
     have q14:=(hbr.box.all 14 _ hbr.v14).1
     have q15:=(hbr.box.all 15 _ hbr.v15).1
     have hly:=hbr.last y hyR
     have HPI:=Hj (fun (k:Nat) => PiP.next (st:=st) (cols:=cols) (v:=v) (u:=u) hx hy k)
     obtain ⟨t2,ht2⟩:=truth (TwP cs (rowL st cols x) u)
     have HT2:=Hj (show TruQ t2 _ from ht2)
     have HBx:=Hj hbr
     have HMx:=Hj hmk
     have HCx:=Hj hch
     have F13:=fun x':Ext wr => x'.cell q13
     have Fcx:=fun x':Ext wr => x'.cell hcx
     have hNE:=Ext.ne wr
     have HKH:=Hj (show ∀ x':Ext wr,Calls Tryz.prog 107 #[.pointer (some ⟨X,14,none⟩),.int .i64 (y:Int)] x'.w fun e w' => e = .returned (.bool (ls4 y == (cnt:Int))) ∧ Below x'.w.heap.size x'.w w' from fun x' => chas_any X 14 h R (cnt:Int) y (ls4 y) x'.w (x'.cell q14) (x'.cell q15) hyR hR8 (x'.cell hly.1))
     have HKT:=Hj (show ∀ x':Ext wr,Calls Tryz.prog 129 #[.pointer (some ⟨X,0,none⟩),.int .i64 (x:Int),.int .i64 (u:Int)] x'.w fun e w' => e = .returned (.bool t2) ∧ Below x'.w.heap.size x'.w w' from fun x' => chasTwin_any X R vs b1 m1 d1 b2 m2 d2 g h cnt cs ls4 st cols x u x'.w (hbr.below x'.bel) (Uh HM) hxR huR hb1 hb2 t2 ht2)
     have KS:=Hj (fun (W:World) (b:Below wr.heap.size wr W) => cset_any X 14 h R (cnt:Int) y (.int .i64 (ls4 y)) W.drew ((b.cell (p:=⟨X,14,none⟩) (World.block_lt_of_cell? _ _ q14)).trans q14) ((b.cell (p:=⟨X,15,none⟩) (World.block_lt_of_cell? _ _ q15)).trans q15) hyR hR8 (hly.1 |> fun e => (b.cell (p:=⟨h,y,none⟩) (World.block_lt_of_cell? _ _ e)).trans e) ((((Uh HBx).below b).last y hyR).2))
     have hXh:=hbr.ne.2.2
     have hgh:=hbr.ne.1
     obtain ⟨hs,hhs⟩:∃ hs,(ls4 y == (cnt:Int)) = hs:=⟨_,rfl⟩
     rw [hhs] at HKH
     have HHS:=Hj hhs
     clear hc hg hcr hcn hbr hmk hch hly hx hy ht2 q13 q14 q15 hcx hhs HIn
     cases hs
     ·cases tw
      ·cases t2
       ·go_wp2_with fail
        refine wp_region_ext (by kernel_rfl) (by kernel_rfl) ?_
        repeat (go_big_quiet_step (first
         | (go_at_call 107; rename_i x'; exact Ext.call (Uh HKH x') (fun e w' h => h))
         | (go_at_call 129; rename_i x'; exact Ext.call (Uh HKT x') (fun e w' h => h))))
        refine wpQuiet_nil ?_
        rintro _ ⟨xE,rfl⟩
        have HBE:=Hj ((Uh HBx).below xE.bel)
        have HCE:=Hj ((Uh HCx).trans (Chg.of_below xE.bel))
        clear F13 Fcx hNE HKH HKT KS
        go_wp2_with fail
        exact ⟨⟨i + 1,by omega,by (first | rfl | go_num),Hj ⟨ls4,Uh HBE,(Uh HMx).same (fun k p => p.imp_right (fun p => (Uh HPI k).2 (.inl p))) (fun k hk q => (fun q => q.elim (fun q => .inl (.inl q)) (fun q => ((Uh HPI k).1 q).elim (fun q => .inl (.inr q)) (fun q => q.2.elim (fun z => absurd (Iff.mpr (Uh HTW) z) (by decide)) (fun z => absurd (Iff.mpr (Uh HT2) z) (by decide))))) q),Uh HCE⟩⟩,by simp [intOf]; omega⟩
       ·go_wp2_with fail
        refine wp_region_ext (by kernel_rfl) (by kernel_rfl) ?_
        repeat (go_big_quiet_step (first
         | (go_at_call 107; rename_i x'; exact Ext.call (Uh HKH x') (fun e w' h => h))
         | (go_at_call 129; rename_i x'; exact Ext.call (Uh HKT x') (fun e w' h => h))))
        refine wpQuiet_nil ?_
        rintro _ ⟨xE,rfl⟩
        have HBE:=Hj ((Uh HBx).below xE.bel)
        have HCE:=Hj ((Uh HCx).trans (Chg.of_below xE.bel))
        have KS2:=Hj (Uh KS xE.w xE.bel)
        have q13:=F13 xE
        have hcx:=Fcx xE
        clear F13 Fcx hNE HKH HKT KS
        go_wp2_with fail
        go_region_held3 (fun w' => w'.cell? ⟨X,13,none⟩ = some (.slice (some ⟨g,0,none⟩) R R) ∧ w'.cell? ⟨g,x,none⟩ = some (.int .i64 (y:Int))) (first | (exact ⟨k0,k1⟩) | go_keep)
         ((go_at_call 114; refine (Uh KS2).mono ?_; rintro _ w9 ⟨⟨zz,rfl⟩,c9,r9⟩; have k0:=c9.cell (show ¬ X = h from fun e => hXh e.symm) q13; have k1:=c9.cell (show ¬ g = h from hgh) hcx; have HN:=Hj (show BrI w9 X R vs b1 m1 d1 b2 m2 d2 g h cnt cs (fun i => if i = y then (cnt:Int) else ls4 i) st cols from (Uh HBE).chg ((Chg.of_drew xE.w).trans c9) ((r9 _ ((Uh HBE).last.chg (S:=fun _ => False) (Chg.of_drew xE.w) (fun x => x))).congr (fun i hi => by by_cases e:i = y <;> simp [e]))); have HC9:=Hj (show Chg (fun j => j = h) w5 w9 from ((Uh HCE).trans (Chg.of_drew xE.w)).trans c9); clear c9 r9))
        clear k0 k1
        go_wp2_with fail
        exact ⟨⟨i + 1,by omega,by (first | rfl | go_num),Hj ⟨_,Uh HN,(Uh HMx).put (y:=y) (fun k => ⟨fun q => q.elim (fun q => .inl (.inl q)) (fun q => ((Uh HPI k).1 q).elim (fun q => .inl (.inr q)) (fun q => .inr q.1)),fun q => q.elim (fun q => q.imp_right (fun p => (Uh HPI k).2 (.inl p))) (fun e => .inr ((Uh HPI k).2 (.inr ⟨e,.inr (Iff.mp (Uh HT2) rfl)⟩)))⟩),Uh HC9⟩⟩,by simp [intOf]; omega⟩
      ·go_wp2_with fail
       refine wp_region_ext (by kernel_rfl) (by kernel_rfl) ?_
       repeat (go_big_quiet_step (first
        | (go_at_call 107; rename_i x'; exact Ext.call (Uh HKH x') (fun e w' h => h))
        | (go_at_call 129; rename_i x'; exact Ext.call (Uh HKT x') (fun e w' h => h))))
       refine wpQuiet_nil ?_
       rintro _ ⟨xE,rfl⟩
       have HBE:=Hj ((Uh HBx).below xE.bel)
       have HCE:=Hj ((Uh HCx).trans (Chg.of_below xE.bel))
       have KS2:=Hj (Uh KS xE.w xE.bel)
       have q13:=F13 xE
       have hcx:=Fcx xE
       clear F13 Fcx hNE HKH HKT KS
       go_wp2_with fail
       go_region_held3 (fun w' => w'.cell? ⟨X,13,none⟩ = some (.slice (some ⟨g,0,none⟩) R R) ∧ w'.cell? ⟨g,x,none⟩ = some (.int .i64 (y:Int))) (first | (exact ⟨k0,k1⟩) | go_keep)
        ((go_at_call 114; refine (Uh KS2).mono ?_; rintro _ w9 ⟨⟨zz,rfl⟩,c9,r9⟩; have k0:=c9.cell (show ¬ X = h from fun e => hXh e.symm) q13; have k1:=c9.cell (show ¬ g = h from hgh) hcx; have HN:=Hj (show BrI w9 X R vs b1 m1 d1 b2 m2 d2 g h cnt cs (fun i => if i = y then (cnt:Int) else ls4 i) st cols from (Uh HBE).chg ((Chg.of_drew xE.w).trans c9) ((r9 _ ((Uh HBE).last.chg (S:=fun _ => False) (Chg.of_drew xE.w) (fun x => x))).congr (fun i hi => by by_cases e:i = y <;> simp [e]))); have HC9:=Hj (show Chg (fun j => j = h) w5 w9 from ((Uh HCE).trans (Chg.of_drew xE.w)).trans c9); clear c9 r9))
       clear k0 k1
       go_wp2_with fail
       exact ⟨⟨i + 1,by omega,by (first | rfl | go_num),Hj ⟨_,Uh HN,(Uh HMx).put (y:=y) (fun k => ⟨fun q => q.elim (fun q => .inl (.inl q)) (fun q => ((Uh HPI k).1 q).elim (fun q => .inl (.inr q)) (fun q => .inr q.1)),fun q => q.elim (fun q => q.imp_right (fun p => (Uh HPI k).2 (.inl p))) (fun e => .inr ((Uh HPI k).2 (.inr ⟨e,.inl (Iff.mp (Uh HTW) rfl)⟩)))⟩),Uh HC9⟩⟩,by simp [intOf]; omega⟩
     ·go_wp2_with fail
      refine wp_region_ext (by kernel_rfl) (by kernel_rfl) ?_
      repeat (go_big_quiet_step (first
       | (go_at_call 107; rename_i x'; exact Ext.call (Uh HKH x') (fun e w' h => h))
       | (go_at_call 129; rename_i x'; exact Ext.call (Uh HKT x') (fun e w' h => h))))
      refine wpQuiet_nil ?_
      rintro _ ⟨xE,rfl⟩
      have HBE:=Hj ((Uh HBx).below xE.bel)
      have HCE:=Hj ((Uh HCx).trans (Chg.of_below xE.bel))
      clear F13 Fcx hNE HKH HKT KS
      go_wp2_with fail
      exact ⟨⟨i + 1,by omega,by (first | rfl | go_num),Hj ⟨ls4,Uh HBE,(Uh HMx).same (fun k p => p.imp_right (fun p => (Uh HPI k).2 (.inl p))) (fun k hk q => q.elim (fun q => .inl (.inl q)) (fun q => ((Uh HPI k).1 q).elim (fun q => .inl (.inr q)) (fun q => .inr (by rw [q.1]; have:=Uh HHS; simpa using this)))),Uh HCE⟩⟩,by simp [intOf]; omega⟩
    ·obtain rfl:i = M.length:=by omega
     have hin':¬ (M.length:Int) < (M.length:Int):=by omega
     go_wp2_with fail
     obtain ⟨ls4,hbr,hmk,hch⟩:=Uh HIn
     refine ⟨⟨j + 1,by omega,by (first | rfl | go_num),Hj ⟨ls4,hbr,hmk.same (fun k p => ?_) (fun k _ q => .inl ?_),(Uh HC5).trans hch⟩⟩,by simp [intOf]; omega⟩
     ·rcases p with (p | p) | p
      ·exact .inl p
      ·exact .inr ((Uh HPN k).2 (.inl p))
      ·exact .inr ((Uh HPN k).2 (.inr p))
     ·rcases q with q | q
      ·exact .inl (.inl q)
      ·exact ((Uh HPN k).1 q).imp_left .inr
  ·obtain rfl:j = L.length:=by omega
   have hlt':¬ (L.length:Int) < (L.length:Int):=by omega
   go_wp2_with fail
   try go_end0
   obtain ⟨ls4,hbr,hmk,hch⟩:=Uh HJ
   rw [Uh HLE]
   exact ⟨⟨_,rfl⟩,ls4,hbr,hmk,(Uh HC3).trans hch⟩
def BarP (st cols:List Int) (cs:Nat → Int) (v k:Nat):Prop:=(∃ u ∈ rowL st cols v,cs u.toNat = (k:Int)) ∨ PaP st cols cs v (cldL cs (rowL st cols v)) (cldL cs (rowL st cols v)).length k
def csL (cs:Nat → Int) (R:Nat):List Int:=(List.range R).map cs
theorem csL_len (cs:Nat → Int) (R:Nat):(csL cs R).length = R:=by simp [csL]
theorem csL_get {cs:Nat → Int} {R i:Nat} (h:i < R):(csL cs R).getD i 0 = cs i:=by simp [csL,List.getD,h]
theorem RoV.sli {W:World} {g R:Nat} {cs:Nat → Int} (h:RoV W g R (fun i => .int .i64 (cs i))) (hR:R ≤ 128):SlI W (some ⟨g,0,none⟩) R R (csL cs R) :=
 ⟨csL_len cs R,Nat.le_refl _,by unfold maxLen; omega,.inr ⟨g,0,rfl,fun i hi => by rw [csL_len] at hi; rw [csL_get hi,Nat.zero_add]; exact (h i hi).1⟩⟩
theorem numC_rng {cs:Nat → Int} {R k:Nat} {z:Int} (h:NumC (csL cs R) z) (hc:∀ i,i < R → -1 ≤ cs i ∧ cs i < (k:Int)):0 ≤ z ∧ z ≤ (k:Int) ∧ ∀ i,i < R → cs i < z:=by
 have hl:=csL_len cs R
 unfold NumC at h
 rw [hl] at h
 have h0:=h.le 0 (by omega)
 simp at h0
 refine ⟨by omega,?_,fun i hi => ?_⟩
 ·obtain ⟨i,hi,he⟩:=h.at_
  cases i with
  | zero => simp at he; omega
  | succ i =>
   rw [List.getD_cons_succ,csL_get (by omega)] at he
   have:=hc i (by omega)
   omega
 ·have:=h.le (i + 1) (by omega)
  rw [List.getD_cons_succ,csL_get hi] at this
  omega
theorem BarP.used {st cols:List Int} {cs:Nat → Int} {R v k:Nat} (hm:MayP (R:Int) (R:Int) st cols) (hv:v < R) (h:BarP st cols cs v k):∃ i,i < R ∧ cs i = (k:Int):=by
 have hrow:∀ {v:Nat},v < R → ∀ {u:Int},u ∈ rowL st cols v → 0 ≤ u ∧ u < (R:Int):=fun {v} hv {u} hu => by
  by_cases e:(fun _:Nat => (0:Int)) u.toNat = -1
  ·simp at e
  ·have:=cld_rng (cs:=fun _ => 0) hm hv (cldL_mem.2 ⟨hu,e⟩)
   omega
 rcases h with ⟨u,hu,he⟩ | ⟨p,hp,x,hx,he,_⟩
 ·have:=hrow hv hu
  exact ⟨u.toNat,by omega,he⟩
 ·have hL:=cld_rng (cs:=cs) hm hv (mem_getD.2 ⟨p,hp,rfl⟩)
  have hX:=cld_rng (cs:=cs) hm (v:=((cldL cs (rowL st cols v)).getD p 0).toNat) (by omega) hx
  exact ⟨x.toNat,by omega,he⟩
theorem BrI.drop {W:World} {X R:Nat} {vs:List Value} {b1:Option Addr} {m1 d1:Nat} {b2:Option Addr} {m2 d2:Nat} {g h cnt:Nat} {cs ls:Nat → Int} {st cols:List Int} (k:BrI W X R vs b1 m1 d1 b2 m2 d2 g h cnt cs ls st cols) (n:Nat):BrI (W.setCell ⟨X,14,none⟩ (.int .i64 (n:Int))) X R (vs.set 14 (.int .i64 (n:Int))) b1 m1 d1 b2 m2 d2 g h n cs ls st cols:=by
 have c:Chg (fun j => j = X) W (W.setCell ⟨X,14,none⟩ (.int .i64 (n:Int))):=Chg.of_set _ _ _ _ rfl
 have hl:=(List.getElem?_eq_some_iff.1 k.v14).1
 refine ⟨k.box.put 14 _,?_,?_,?_,?_,?_,?_,?_,k.col.chg c k.ne.2.1,k.last.chg c k.ne.2.2,k.s1.chg c (fun z hz hne => (k.o1 z hz hne).1),k.s2.chg c (fun z hz hne => (k.o2 z hz hne).1),k.o1,k.o2,k.ne⟩
 ·rw [List.getElem?_set_ne (by omega)]; exact k.v9
 ·rw [List.getElem?_set_ne (by omega)]; exact k.v10
 ·rw [List.getElem?_set_ne (by omega)]; exact k.v11
 ·rw [List.getElem?_set_ne (by omega)]; exact k.v12
 ·rw [List.getElem?_set_ne (by omega)]; exact k.v13
 ·rw [List.getElem?_set_self hl]
 ·rw [List.getElem?_set_ne (by omega)]; exact k.v15
structure FrP (w w':World) (e:Ending) (X R:Nat) (vs:List Value) (b1:Option Addr) (m1 d1:Nat) (b2:Option Addr) (m2 d2:Nat) (g h cnt:Nat) (cs:Nat → Int) (st cols:List Int) (v:Nat) (z:Nat) (a:Option Addr) (c:Nat) (ls':Nat → Int):Prop where
 num:NumC (csL cs R) (z:Int)
 ret:e = .returned (.slice a (grR (fun _ j => ¬ BarP st cols cs v j) 0 (z + 1)).length c)
 sl:SlI w' a (grR (fun _ j => ¬ BarP st cols cs v j) 0 (z + 1)).length c (grR (fun _ j => ¬ BarP st cols cs v j) 0 (z + 1))
 new:∀ x,a = some x → w.heap.size ≤ x.block
 bru:BrI w' X R (vs.set 14 (.int .i64 ((cnt + 1:Nat):Int))) b1 m1 d1 b2 m2 d2 g h (cnt + 1) cs ls' st cols
 le:∀ j,j < R → ls' j ≤ ((cnt + 1:Nat):Int)
 chg:Chg (fun j => j = h ∨ j = X) w w'
set_option maxRecDepth 100000 in
set_option maxHeartbeats 16000000 in
theorem cfree_star (X R:Nat) (vs:List Value) (b1:Option Addr) (m1 d1:Nat) (b2:Option Addr) (m2 d2:Nat) (g h cnt:Nat) (cs ls:Nat → Int) (st cols:List Int) (v k:Nat) (w:World) (hB:BrI w X R vs b1 m1 d1 b2 m2 d2 g h cnt cs ls st cols) (hm:MayP (R:Int) (R:Int) st cols) (hv:v < R) (hb1:m1 ≤ 17592186044000) (hb2:m2 ≤ 17592186044000) (hcs:∀ i,i < R → -1 ≤ cs i ∧ cs i < (k:Int)) (hk:k < R) (hls:∀ j,j < R → ls j ≤ (cnt:Int)) (hcn:cnt ≤ 1000000) (hf:vs[2]? = some (.func (.func 102) #[] #[])) :
  Calls Tryz.prog 66 #[.pointer (some ⟨X,0,none⟩),.int .i64 (v:Int)] w fun e w' => ∃ z a c ls',FrP w w' e X R vs b1 m1 d1 b2 m2 d2 g h cnt cs st cols v z a c ls':=by
 have hR8:R ≤ 128:=by have:=hm.head.fit; omega
 have q14:=(hB.box.all 14 _ hB.v14).1
 have r14:=(hB.box.all 14 _ hB.v14).2
 have KD:=Hj (cdrop_any X 14 cnt w q14 r14 (by omega))
 have hB1:=hB.drop (cnt + 1)
 have c1:Chg (fun j => j = h ∨ j = X) w (w.setCell ⟨X,14,none⟩ (.int .i64 ((cnt + 1:Nat):Int))):=Chg.of_set _ _ _ _ (.inr rfl)
 have q2:=(hB1.box.all 2 _ (by rw [List.getElem?_set_ne (by omega)]; exact hf)).1
 have KP:=Hj (cbarP_any X R _ b1 m1 d1 b2 m2 d2 g h (cnt + 1) cs ls st cols v _ hB1 hm hv hb1 hb2 (fun i hi => ⟨(hcs i hi).1,by have:=(hcs i hi).2; omega⟩) (fun j hj => by have:=hls j hj; omega))
 have HC:=Hj hcs
 have HM:=Hj hm
 have HL:=Hj hls
 have HC1:=Hj c1
 have HF:=Hj hf
 clear hcs hm hls hB hB1 c1 hf q14 r14
 go_enter Tryz.func66,Tryz.ntmps66
 go_wp2_with fail
 refine (Uh KD).mono ?_
 rintro _ w1 ⟨⟨z0,rfl⟩,hw1⟩
 rw [← hw1] at q2 KP HC1
 clear KD hw1
 go_wp2_with fail
 refine (Uh KP).mono ?_
 rintro _ w2 ⟨⟨z1,rfl⟩,ls',hB2,hM2,hC2⟩
 have KN:=Hj (cnumber_any (some ⟨g,0,none⟩) R R (csL cs R) w2 (hB2.col.sli hR8) hR8 (fun i hi => by rw [csL_get hi]; have:=(Uh HC i hi).2; omega) (fun e => by cases e))
 have q13:=(hB2.box.all 13 _ hB2.v13).1
 have HB2:=Hj hB2
 have HMK:=Hj (show ∀ j,j < R → (ls' j = ((cnt + 1:Nat):Int) ↔ BarP st cols cs v j) from fun j hj => by
  rw [hM2.iff j hj]
  have:=Uh HL j hj
  exact ⟨fun z => z.elim (fun z => by omega) id,.inr⟩)
 have HLE:=Hj hM2.le
 have HC2:=Hj ((Uh HC1).trans (hC2.mono (fun j _ e => .inl e)))
 clear KP hB2 hM2 hC2 HC1 q2
 go_wp2_with fail
 refine (Uh KN).mono ?_
 rintro _ w3 ⟨zi,rfl,hN,b3⟩
 obtain ⟨hz0,hzk,_⟩:=numC_rng hN (Uh HC)
 obtain ⟨z,rfl⟩:∃ z:Nat,zi = (z:Int):=⟨zi.toNat,by omega⟩
 have hw7:IntKind.i64.wrap ((z:Int) + 1) = (z:Int) + 1:=by rw [wrap_i64n]; omega
 have HN:=Hj hN
 have HB3:=Hj ((Uh HB2).below b3)
 have HC3:=Hj ((Uh HC2).trans (Chg.of_below b3))
 have hzR:z < R:=by omega
 obtain ⟨P,hP⟩:∃ P:Nat → Nat → Prop,P = (fun _ j => ¬ BarP st cols cs v j):=⟨_,rfl⟩
 have HP:=Hj hP
 obtain ⟨i64,hi,hz,hs,hb⟩:=info_parts Tryz.info_i64
 have HI:=Hj (And.intro hi (And.intro hz (And.intro hs hb)))
 have hone:∀ y:Int,∀ z ∈ [Value.int .i64 y],z.oneCell' = true:=by intro y z hz; simp at hz; subst hz; rfl
 clear KN HB2 HC2 hN b3 hz0 hzk q13 hP hi hz hs hb
 go_wp2_with fail
 go_loopw [26,5] (fun kv lv wr => ∃ j:Nat,j ≤ z + 1 ∧ kv = .int .i64 (j:Int) ∧ Hid (wr.ownsRow w3.heap.size 3 1 lv (grR P 0 j).length (valsI (grR P 0 j))) ∧ Hid (Below w3.heap.size w3 wr)) (fun kv _ _ => z + 1 - (intOf kv).toNat)
 case atStart => exact ⟨0,Nat.zero_le _,rfl,Hj (by simpa [grR,valsI] using World.ownsRow_nil w3 w3.heap.size 3 1),Hj (Below.refl _ _)⟩
 case round =>
  obtain ⟨j,hj,rfl,HO,HW⟩:=hrel
  by_cases hlt:j < z + 1
  ·have hlt':(j:Int) < (z:Int) + 1:=by omega
   have hjR:j < R:=by omega
   have hbr:=(Uh HB3).below (Uh HW)
   have q14:=(hbr.box.all 14 _ hbr.v14).1
   have q15:=(hbr.box.all 15 _ hbr.v15).1
   have KH:=Hj (chas_any X 14 h R ((cnt + 1:Nat):Int) j (ls' j) wr q14 q15 hjR hR8 (hbr.last j hjR).1)
   have hcl:(grR P 0 j).length ≤ 128:=by have:=grR_len P 0 j; omega
   have hIF:=Uh HMK j hjR
   clear hbr q14 q15
   by_cases hbp:BarP st cols cs v j
   ·have he:(ls' j == ((cnt + 1:Nat):Int)) = true:=by rw [hIF.2 hbp]; simp
    rw [he] at KH
    have HN1:=Hj (show grR P 0 (j + 1) = grR P 0 j from by
     have ht:tb (P 0 j) = false:=by rw [Uh HP]; simp [tb,hbp]
     simp [grR,ht])
    clear he hIF hbp
    go_wp2_with fail
    refine (Uh KH).mono ?_
    rintro _ w4 ⟨rfl,b4⟩
    have HB4:=Hj ((Uh HW).trans (b4.mono (Uh HW).size))
    have HO4:=Hj (show w4.ownsRow w3.heap.size 3 1 u5 (grR P 0 (j + 1)).length (valsI (grR P 0 (j + 1))) from by rw [Uh HN1]; exact ownsRow_chg (S:=fun _ => False) (Uh HO) (Chg.of_below b4) (fun _ _ x => x))
    clear KH b4
    go_wp2_with fail
    exact ⟨⟨j + 1,by omega,by (first | rfl | go_num),HO4,HB4⟩,by simp [intOf]; omega⟩
   ·have he:(ls' j == ((cnt + 1:Nat):Int)) = false:=by
     rw [Bool.eq_false_iff]; intro e; exact hbp (hIF.1 (by simpa using e))
    rw [he] at KH
    have HN1:=Hj (show grR P 0 (j + 1) = grR P 0 j ++ [(j:Int)] from by
     have ht:tb (P 0 j) = true:=by rw [Uh HP]; simp [tb,hbp]
     simp [grR,ht])
    clear he hIF hbp
    go_wp2_with fail
    refine (Uh KH).mono ?_
    rintro _ w4 ⟨rfl,b4⟩
    have HB4:=Hj ((Uh HW).trans (b4.mono (Uh HW).size))
    obtain ⟨C,hC⟩:∃ C,grR P 0 j = C:=⟨_,rfl⟩
    rw [hC] at HO hcl HN1
    have HO4:=Hj (ownsRow_chg (S:=fun _ => False) (Uh HO) (Chg.of_below b4) (fun _ _ x => x))
    have hmx:C.length + 1 ≤ maxLen:=by unfold maxLen; omega
    have hby:(C.length + 1) * 8 ≤ 140737488355328:=by omega
    have hsz:=(Uh HB4).size
    clear hC KH b4 HO
    go_wp2_with (at_builtin; refine wpList_append_lies _ rfl _ _ 23 rfl w3.heap.size 3 i64 (.int .i64 0) 1 8 Tryz.underlying23 (Uh HI).1 (Uh HI).2.1 (Uh HI).2.2.1 (Uh HI).2.2.2 rfl (by decide) u5 C.length (valsI C) rfl ((Uh HO4).alloc _) ⟨w4.heap.size,0,none⟩ 1 1 [.int .i64 (j:Int)] rfl rfl (World.news_of_block (alloc_block _ _)) (hone _) (by decide) hmx hby (by simp; omega) (w4.heap.size + 1) (by simp) ?_)
    intro g2 cap w5 hown hgr hat hlt5
    have hB5:Below w3.heap.size w3 w5:=((Uh HB4).trans (((Below.refl w3.heap.size w4).alloc hsz _))).grown hgr (by simp; omega) (fun j hj => (own_ge (Uh HO4) j hj).1)
    have HN:=Hj (show w5.ownsRow w3.heap.size 3 1 (.slice (some ⟨g2,0,none⟩) (C.length + 1) cap) (grR P 0 (j + 1)).length (valsI (grR P 0 (j + 1))) from by
     rw [Uh HN1]
     simpa [valsI] using hown)
    have HB5:=Hj hB5
    clear hown hgr hat hlt5 hB5
    go_wp2_with fail
    exact ⟨⟨j + 1,by omega,by (first | rfl | go_num),HN,HB5⟩,by simp [intOf]; omega⟩
  ·obtain rfl:j = z + 1:=by omega
   have hlt':¬ ((z + 1:Nat):Int) < (z:Int) + 1:=by omega
   obtain ⟨a,c,hv',hs'⟩:=own_slI (Uh HO)
   have HNEW:=Hj (show ∀ z,a = some z → w3.heap.size ≤ z.block from fun z hz => (own_ge (Uh HO) z.block (by rw [hv',hz]; rfl)).1)
   have HSS:=Hj hs'
   subst hv'
   clear hs' HO
   go_wp2_with fail
   try go_ret
   have hP:=Uh HP
   subst hP
   exact ⟨z,a,c,ls',Uh HN,rfl,Uh HSS,fun x hx => Nat.le_trans (Uh HC3).size (Uh HNEW x hx),(Uh HB3).below (Uh HW),Uh HLE,(Uh HC3).trans (Chg.of_below (Uh HW))⟩
end Go.Proofs.YtgjokididdffhaaGreat
