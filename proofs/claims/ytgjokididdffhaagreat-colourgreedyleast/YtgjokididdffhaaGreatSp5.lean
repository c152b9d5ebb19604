/- Sp4 -/
import Derived.Test.YtgjokididdffhaaGreatSp3
namespace Go.Proofs.YtgjokididdffhaaGreat
open Go.RowKit Go.Deep
set_option linter.unusedVariables false
def Vis (R width:Nat) (st cols:List Int) (i x:Nat):Prop:=∃ r j:Nat,r < R ∧ st.getD r 0 ≤ (j:Int) ∧ (j:Int) < st.getD (r + 1) 0 ∧ j < i ∧ (r:Int) * (width:Int) + cols.getD j 0 = (x:Int)
theorem Vis.zero {R width:Nat} {st cols:List Int} {x:Nat}:¬ Vis R width st cols 0 x:=fun ⟨_,_,_,_,_,h,_⟩ => absurd h (Nat.not_lt_zero _)
theorem row_one {R:Nat} {width:Int} {st cols:List Int} (hm:MayP (R:Int) width st cols) {r k j:Nat} (hr:r < R) (hk:k < R) (h1:st.getD r 0 ≤ (j:Int)) (h2:(j:Int) < st.getD (r + 1) 0) (h3:st.getD k 0 ≤ (j:Int)) (h4:(j:Int) < st.getD (k + 1) 0):r = k:=by
 have hl:=hm.head.len
 rcases Nat.lt_trichotomy r k with c | c | c
 ·have:=hm.sort.mono (k - (r + 1)) (r + 1) (by omega)
  rw [show r + 1 + (k - (r + 1)) = k by omega] at this
  omega
 ·exact c
 ·have:=hm.sort.mono (r - (k + 1)) (k + 1) (by omega)
  rw [show k + 1 + (r - (k + 1)) = r by omega] at this
  omega
theorem Vis.step {R width:Nat} {st cols:List Int} (hm:MayP (R:Int) (width:Int) st cols) {k X Y i c:Nat} (hk:k < R) (hR:RowAt st cols (width:Int) k X Y) (h1:X ≤ i) (h2:i < Y) (hc:cols.getD i 0 = (c:Int)) (x:Nat):Vis R width st cols (i + 1) x ↔ (Vis R width st cols i x ∨ x = k * width + c):=by
 constructor
 ·rintro ⟨r,j,hr,a1,a2,a3,a4⟩
  by_cases e:j = i
  ·subst e
   right
   have:=row_one hm hr hk a1 a2 (by rw [hR.hX]; omega) (by rw [hR.hY]; omega)
   subst this
   rw [hc] at a4
   have e2:((r * width:Nat):Int) = (r:Int) * (width:Int):=by simp
   omega
  ·exact .inl ⟨r,j,hr,a1,a2,by omega,a4⟩
 ·rintro (⟨r,j,hr,a1,a2,a3,a4⟩ | e)
  ·exact ⟨r,j,hr,a1,a2,by omega,a4⟩
  ·refine ⟨k,i,hk,by rw [hR.hX]; omega,by rw [hR.hY]; omega,by omega,?_⟩
   rw [hc,e]
   simp
theorem Vis.has {R width:Nat} {st cols:List Int} (hm:MayP (R:Int) (width:Int) st cols) {r c:Nat} (hr:r < R) (hc:c < width):Vis R width st cols cols.length (r * width + c) ↔ HasP (R:Int) (width:Int) st cols (r:Int) (c:Int):=by
 have e0:((r:Int)).toNat = r:=by omega
 have hl:=hm.head.len
 constructor
 ·rintro ⟨q,j,hq,a1,a2,a3,a4⟩
  obtain ⟨X,Y,hR⟩:=hm.rowAt (k:=q) (by omega)
  rw [hR.hX] at a1
  rw [hR.hY] at a2
  have hg:=hR.row.rng j (by omega) (by omega)
  obtain ⟨d,hd⟩:∃ d:Nat,cols.getD j 0 = (d:Int):=⟨(cols.getD j 0).toNat,by omega⟩
  rw [hd] at a4 hg
  have a5:q * width + d = r * width + c:=by
   have e1:((q * width:Nat):Int) = (q:Int) * (width:Int):=by simp
   have e2:((r * width + c:Nat):Int) = ((r * width:Nat):Int) + (c:Int):=by simp
   omega
  have a6:q = r:=by
   have h1:(q * width + d) / width = q:=by rw [Nat.mul_comm,Nat.mul_add_div (by omega)]; rw [Nat.div_eq_of_lt (by omega)]; rfl
   have h2:(r * width + c) / width = r:=by rw [Nat.mul_comm,Nat.mul_add_div (by omega)]; rw [Nat.div_eq_of_lt (by omega)]; rfl
   rw [← h1,← h2,a5]
  subst a6
  exact ⟨hm,by omega,by omega,j,by rw [e0,hR.hX]; omega,by rw [e0,hR.hY]; omega,by rw [hd]; omega⟩
 ·rintro ⟨_,_,_,j,a1,a2,a3⟩
  rw [e0] at a1 a2
  obtain ⟨X,Y,hR⟩:=hm.rowAt (k:=r) (by omega)
  rw [hR.hX] at a1
  rw [hR.hY] at a2
  refine ⟨r,j,hr,by rw [hR.hX]; omega,by rw [hR.hY]; omega,by have:=hR.lt; omega,?_⟩
  rw [a3]
  simp
structure OpI (w2 W:World) (b:Nat) (m:Nat) (P:Nat → Prop):Prop where
 row:RoV W b m (fun x => .bool (tb (P x)))
 chg:Chg (fun j => j = b) w2 W
theorem OpI.put {w2 W:World} {b m:Nat} {P Q:Nat → Prop} (h:OpI w2 W b m P) (x:Nat) (hx:x < m) (e:∀ y,Q y ↔ (P y ∨ y = x)):OpI w2 (W.setCell ⟨b,x,none⟩ (.bool true)) b m Q:=by
 refine ⟨(h.row.put x (.bool true) hx).congr (fun i hi => ?_),h.chg.trans (Chg.of_set _ _ _ _ rfl)⟩
 by_cases c:i = x
 ·simp only [c,if_true]
  rw [tb_yes ((e x).2 (.inr rfl))]
 ·simp only [c,if_false]
  rw [tb_congr (show P i ↔ Q i from ⟨fun p => (e i).2 (.inl p),fun q => ((e i).1 q).resolve_right c⟩)]
theorem OpI.drew {w2 W:World} {b m:Nat} {P:Nat → Prop} (h:OpI w2 W b m P):OpI w2 W.drew b m P:=⟨h.row.chg (S:=fun _ => False) (Chg.of_drew _) (fun x => x),h.chg.trans (Chg.of_drew _)⟩
set_option maxRecDepth 100000 in
set_option maxHeartbeats 16000000 in
theorem wopen_any (R width:Nat) (a1 a2:Option Addr) (n1 c1 n2 c2:Nat) (st cols:List Int) (w:World) (h1:SlI w a1 n1 c1 st) (h2:SlI w a2 n2 c2 cols) (hb1:n1 ≤ 17592186044416) (hb2:n2 ≤ 17592186044416) (hm:MayP (R:Int) (width:Int) st cols) :
  Calls Tryz.prog 76 #[patV (R:Int) (width:Int) a1 n1 c1 a2 n2 c2] w fun e w' => ∃ b,e = .returned (gridV R width b (R * width)) ∧ RoV w' b (R * width) (fun x => .bool (tb (Vis R width st cols cols.length x))) ∧ Below w.heap.size w w':=by
 obtain ⟨wb,hwb⟩:∃ x,w.alloc (.cells #[.int .i64 (R:Int),.int .i64 (width:Int),.slice a1 n1 c1,.slice a2 n2 c2] 25) = x:=⟨_,rfl⟩
 have bb:Below w.heap.size w wb:=by rw [← hwb]; exact bAl
 have hT:=BoxP.made w #[.int .i64 (R:Int),.int .i64 (width:Int),.slice a1 n1 c1,.slice a2 n2 c2] 25
 rw [hwb] at hT
 have hO0:=BoxP.made wb #[.int .i64 0,.int .i64 0,.slice none 0 0] 131
 obtain ⟨wo,hwo⟩:∃ x,wb.alloc (.cells #[.int .i64 0,.int .i64 0,.slice none 0 0] 131) = x:=⟨_,rfl⟩
 have bo:Below wb.heap.size wb wo:=by rw [← hwo]; exact bAl
 rw [hwo] at hO0
 have hT1:=hT.below bo
 have p0:=(hT1.all 0 _ rfl).1
 have p1:=(hT1.all 1 _ rfl).1
 have p2:=(hT1.all 2 _ rfl).1
 have p3:=(hT1.all 3 _ rfl).1
 have hfit:=hm.head.fit
 have KE:=Hj (wempty_any R width wo (by omega) (by omega))
 have HP:=Hj (And.intro hT1 hO0)
 have bbo:=bb.trans (bo.mono bb.size)
 have HS:=Hj (And.intro (h1.below bbo) (h2.below bbo))
 have HLW:=Hj (And.intro (fun hne => h1.block_lt hne) (fun hne => h2.block_lt hne))
 have HB:=Hj bbo
 have HM:=Hj hm
 have HF:=Hj hfit
 have HWB:=Hj bb.size
 clear hT hT1 hO0 bb bo bbo h1 h2 hm hfit
 obtain ⟨m,hmm⟩:∃ m,R * width = m:=⟨_,rfl⟩
 rw [hmm] at KE
 rw [hmm]
 unfold gridV at KE
 have HMM:=Hj hmm
 clear hmm
 unfold patV
 go_enter Tryz.func76,Tryz.ntmps76
 go_wp2_with fail
 refine (Uh KE).mono ?_
 rintro _ w2 ⟨b,rfl,hbn,hbl,hR,b2⟩
 have HR:=Hj hR
 have HB2:=Hj b2
 have hbn':=Hj hbn
 have hT2:=(Uh HP).1.below b2
 have p0:=(hT2.all 0 _ rfl).1
 have p1:=(hT2.all 1 _ rfl).1
 have p2:=(hT2.all 2 _ rfl).1
 have p3:=(hT2.all 3 _ rfl).1
 have hG0:=BoxP.made w2 #[.int .i64 (R:Int),.int .i64 (width:Int),.slice (some ⟨b,0,none⟩) m m] 131
 obtain ⟨wg,hwg⟩:∃ x,w2.alloc (.cells #[.int .i64 (R:Int),.int .i64 (width:Int),.slice (some ⟨b,0,none⟩) m m] 131) = x:=⟨_,rfl⟩
 have bg:Below w2.heap.size w2 wg:=by rw [← hwg]; exact bAl
 rw [hwg] at hG0
 have b2g:=b2.trans (bg.mono b2.size)
 have hlo:=And.intro (Uh HP).1.lt (Uh HP).2.lt
 have hRg:=hR.below bg
 have HG:=Hj (And.intro ((Uh HP).1.below b2g) (And.intro ((Uh HP).2.below b2g) hG0))
 have HS2:=Hj (And.intro ((Uh HS).1.below b2g) ((Uh HS).2.below b2g))
 have HI0:=Hj (show OpI wg wg b m (fun _ => False) from ⟨hRg.congr (fun i hi => by rw [tb_no (fun x => x)]),Chg.refl _ _⟩)
 have HBW:=Hj ((Uh HB).trans (b2g.mono (Uh HB).size))
 have HNB:=Hj (show w.heap.size ≠ b ∧ wb.heap.size ≠ b ∧ w2.heap.size ≠ b ∧ w.heap.size ≤ b ∧ wo.heap.size ≤ b from ⟨by omega,by omega,by omega,by have:=(Uh HB).size; omega,hbn⟩)
 clear hR b2 hbn KE hT2 hG0 bg b2g hlo hRg hbl p0 p1 p2 p3
 go_wp2_with fail
 go_loopw [4] (fun kv wr => ∃ k X:Nat,k ≤ R ∧ kv = .int .i64 (k:Int) ∧ Hid (st.getD k 0 = (X:Int)) ∧ Hid (OpI wg wr b m (Vis R width st cols X))) (fun kv _ => R - (intOf kv).toNat)
 case atStart =>
  refine ⟨0,0,Nat.zero_le _,rfl,Hj (by rw [(Uh HM).head.first]; rfl),Hj ⟨(Uh HI0).row.congr (fun i hi => ?_),(Uh HI0).chg⟩⟩
  rw [tb_congr (show False ↔ Vis R width st cols 0 i from ⟨fun x => x.elim,fun x => Vis.zero x⟩)]
 case round =>
  obtain ⟨k,X,hk,rfl,HX,HI⟩:=hrel
  have hbx:=fun (W:World) (c:Chg (fun j => j = b) wg W) => And.intro ((Uh HG).1.chg c (Uh HNB).1) (And.intro ((Uh HG).2.1.chg c (Uh HNB).2.1) ((Uh HG).2.2.chg c (Uh HNB).2.2.1))
  have HBX:=Hj hbx
  have hw1:=hbx wr (Uh HI).chg
  have p0:=(hw1.1.all 0 _ rfl).1
  have p2:=(hw1.1.all 2 _ rfl).1
  clear hbx hw1
  by_cases hlt:k < R
  ·have hlt':(k:Int) < (R:Int):=by omega
   obtain ⟨X',Y,hRow⟩:=(Uh HM).rowAt (k:=k) (by omega)
   obtain rfl:X' = X:=by have h8:=hRow.hX; rw [Uh HX] at h8; omega
   have hl1:=(Uh HS2).1.len
   have hl2:=(Uh HS2).2.len
   have hhl:=(Uh HM).head.len
   have hlo1:=(Uh HNB)
   have HSW:=Hj (show ∀ W,Chg (fun j => j = b) wg W → SlI W a1 n1 c1 st ∧ SlI W a2 n2 c2 cols from fun W c => ⟨(Uh HS2).1.chg c (fun z hz hne e => by have:=(Uh HLW).1 hne z hz; omega),(Uh HS2).2.chg c (fun z hz hne e => by have:=(Uh HLW).2 hne z hz; omega)⟩)
   obtain ⟨b1,o1,rfl,hc1⟩:=(Uh HSW wr (Uh HI).chg).1.at (by omega)
   have sk:=hc1 k (by omega)
   rw [hRow.hX] at sk
   have tk1:(k:Int) < (n1:Int):=by omega
   have tk2:(k:Int) + 1 < (n1:Int):=by omega
   have hrl:=hRow.le
   have hrt:=hRow.lt
   have HRow:=Hj hRow
   have HHL:=Hj (And.intro hl1 (And.intro hl2 hhl))
   clear hlo1 hc1 hl1 hl2 hhl hRow
   go_wp2_with fail
   go_loopw [5] (fun iv wq => ∃ i:Nat,X' ≤ i ∧ i ≤ Y ∧ iv = .int .i64 (i:Int) ∧ Hid (OpI wg wq b m (Vis R width st cols i))) (fun iv _ => Y - (intOf iv).toNat)
   case atStart => exact ⟨X',Nat.le_refl _,hrl,rfl,HI⟩
   case round =>
    clear p0 p2 sk
    obtain ⟨i,hi1,hi2,rfl,HQ⟩:=hrel
    have hw1:=Uh HBX wr (Uh HQ).chg
    have p1:=(hw1.1.all 1 _ rfl).1
    have p2:=(hw1.1.all 2 _ rfl).1
    have p3:=(hw1.1.all 3 _ rfl).1
    have g2:=(hw1.2.2.all 2 _ rfl).1
    obtain ⟨b1',o1',e1,hc1⟩:=(Uh HSW wr (Uh HQ).chg).1.at (by omega)
    cases e1
    have sk1:=hc1 (k + 1) (by omega)
    rw [(Uh HRow).hY] at sk1
    clear hw1 hc1
    by_cases hin:i < Y
    ·have hin':(i:Int) < (Y:Int):=by omega
     have h22:=(Uh HHL).2.1
     obtain ⟨b2,o2,rfl,hc2⟩:=(Uh HSW wr (Uh HQ).chg).2.at (by omega)
     have sc:=hc2 i (by omega)
     have hg:=(Uh HRow).row.rng i hi1 hin
     obtain ⟨c,hc⟩:∃ c:Nat,cols.getD i 0 = (c:Int):=⟨(cols.getD i 0).toNat,by omega⟩
     rw [hc] at sc hg
     obtain ⟨kw,hkw⟩:∃ kw,k * width = kw:=⟨_,rfl⟩
     obtain ⟨x,hx⟩:∃ x,kw + c = x:=⟨_,rfl⟩
     have hx1:(k:Int) * (width:Int) = (kw:Int):=by rw [← hkw]; simp
     have hx2:(kw:Int) + (c:Int) = (x:Int):=by omega
     have hf:=Uh HF
     have hxm:x < m:=by
      rw [← Uh HMM,← hx,← hkw]
      have h1:(k + 1) * width ≤ R * width:=Nat.mul_le_mul_right _ hlt
      rw [Nat.add_mul] at h1
      omega
     have hm16:m ≤ 16384:=by rw [← Uh HMM]; exact Nat.mul_le_mul (show R ≤ 128 by omega) (show width ≤ 128 by omega)
     have hxm':(x:Int) < (m:Int):=by omega
     have hin2:(i:Int) < (n2:Int):=by omega
     have hon:=((Uh HQ).row x hxm).1
     have hof:=((Uh HQ).row x hxm).2
     have HN:=Hj (((Uh HQ).put (Q:=Vis R width st cols (i + 1)) x hxm (fun y => by have:=Vis.step (Uh HM) hlt (Uh HRow) hi1 hin hc y; rw [hkw,hx] at this; exact this)).drew)
     clear hc2 hg hf h22 hkw hx
     go_wp2_with fail
     go_region
     all_goals go_wp2_with fail
     all_goals exact ⟨⟨i + 1,by omega,by omega,by (first | rfl | go_num),HN⟩,by simp [intOf]; omega⟩
    ·obtain rfl:i = Y:=by omega
     have hin':¬ (i:Int) < (i:Int):=by omega
     go_wp2_with fail
     exact ⟨⟨k + 1,i,by omega,by (first | rfl | go_num),Hj (Uh HRow).hY,HQ⟩,by simp [intOf]; omega⟩
  ·obtain rfl:k = R:=by omega
   have hlt':¬ (k:Int) < (k:Int):=by omega
   have hw2:=Uh HBX wr (Uh HI).chg
   have g0:=(hw2.2.2.all 0 _ rfl).1
   have g1:=(hw2.2.2.all 1 _ rfl).1
   have g2:=(hw2.2.2.all 2 _ rfl).1
   have q0:=(hw2.2.1.all 0 _ rfl).1
   have q1:=(hw2.2.1.all 1 _ rfl).1
   have q2:=(hw2.2.1.all 2 _ rfl).1
   have r0:=(hw2.2.1.all 0 _ rfl).2
   have r1:=(hw2.2.1.all 1 _ rfl).2
   have r2:=(hw2.2.1.all 2 _ rfl).2
   have HO:=Hj hw2.2.1
   clear hw2
   go_wp2_with fail
   have hf:=(((Uh HO).put 0 (.int .i64 (k:Int))).put 1 (.int .i64 (width:Int))).put 2 (.slice (some ⟨b,0,none⟩) m m)
   have t0:=(hf.all 0 _ rfl).1
   have t1:=(hf.all 1 _ rfl).1
   have t2:=(hf.all 2 _ rfl).1
   have c3:Chg (fun j => j = wb.heap.size) wr (((wr.setCell ⟨wb.heap.size,0,none⟩ (.int .i64 (k:Int))).setCell ⟨wb.heap.size,1,none⟩ (.int .i64 (width:Int))).setCell ⟨wb.heap.size,2,none⟩ (.slice (some ⟨b,0,none⟩) m m)):=((Chg.of_set (S:=fun j => j = wb.heap.size) _ _ _ _ rfl).trans (Chg.of_set (S:=fun j => j = wb.heap.size) _ _ _ _ rfl)).trans (Chg.of_set (S:=fun j => j = wb.heap.size) _ _ _ _ rfl)
   generalize ((wr.setCell ⟨wb.heap.size,0,none⟩ (.int .i64 (k:Int))).setCell ⟨wb.heap.size,1,none⟩ (.int .i64 (width:Int))).setCell ⟨wb.heap.size,2,none⟩ (.slice (some ⟨b,0,none⟩) m m) = wf at *
   refine bodyPost_ret (by simp [results,Tryz.results76,go_sem,t0,t1,t2]; try rfl) rfl ?_
   have hlast:X = cols.length:=by
    have h8:=(Uh HM).head.last
    rw [show ((k:Int)).toNat = k by omega,Uh HX] at h8
    omega
   refine ⟨b,rfl,?_,?_⟩
   ·have:=(Uh HI).row.chg c3 (fun e => (Uh HNB).2.1 e.symm)
    rw [hlast] at this
    exact this
   ·exact (Uh HBW).trans (((Uh HI).chg.below (Uh HBW).size (fun j hj e => by have:=(Uh HNB).2.2.2.1; omega)).trans (c3.below (Nat.le_trans (Uh HBW).size (Uh HI).chg.size) (fun j hj e => by have:=Uh HWB; omega)))
def plR (st:List Int):Nat → List Int
 | 0 => []
 | k + 1 => plR st k ++ List.replicate ((st.getD (k + 1) 0).toNat - (st.getD k 0).toNat) (k:Int)
structure PlI (w1 W:World) (base:Nat) (v u:Value) (rs cs:List Int):Prop where
 own1:W.ownsRow base 3 1 v rs.length (valsI rs)
 own2:W.ownsRow base 3 1 u cs.length (valsI cs)
 apart:∀ g,v.ownBlock = some g → u.ownBlock ≠ some g
 bel:Below base w1 W
 le:base ≤ W.heap.size
theorem PlI.swap {w1 W:World} {base:Nat} {v u:Value} {rs cs:List Int} (h:PlI w1 W base v u rs cs):PlI w1 W base u v cs rs:=⟨h.own2,h.own1,fun g hu hv => h.apart g hv hu,h.bel,h.le⟩
theorem PlI.app {w1 W W3:World} {base:Nat} {v u:Value} {rs cs:List Int} {x:Int} {g cap:Nat} (h:PlI w1 W base v u rs cs) (o:Obj) (hown:W3.ownsRow base 3 1 (.slice (some ⟨g,0,none⟩) (rs.length + 1) cap) (rs.length + 1) (valsI rs ++ [.int .i64 x])) (hg:(W.alloc o).grownBy W3 v.ownBlock) (hat:v.ownBlock = some g ∨ g = W.heap.size + 1):PlI w1 W3 base (.slice (some ⟨g,0,none⟩) (rs.length + 1) cap) u (rs ++ [x]) cs:=by
 have hB:Below base W W3:=Below.grown ((Below.refl base W).alloc h.le o) hg (by simp; have:=h.le; omega) (fun j hj => (own_ge h.own1 j hj).1)
 refine ⟨by simpa [valsI] using hown,(h.own2.alloc o).kept hg ?_,?_,h.bel.trans hB,Nat.le_trans h.le hB.size⟩
 ·cases hu:u.ownBlock with
  | none => exact .inl rfl
  | some j =>
   right
   intro e
   exact h.apart j e.symm hu
 ·intro j hj hu
  have hj':g = j:=by simpa [Value.ownBlock] using hj
  subst hj'
  rcases hat with e | e
  ·exact h.apart _ e hu
  ·have:=(own_ge h.own2 _ hu).2
   omega
theorem own_slI {w:World} {base n:Nat} {v:Value} {xs:List Int} (h:w.ownsRow base 3 1 v n (valsI xs)):∃ a c,v = .slice a n c ∧ SlI w a n c xs:=by
 have hl:xs.length = n:=by have:=h.1; simpa [valsI] using this
 rcases h.2 with ⟨rfl,rfl⟩ | ⟨b,cap,cur,rfl,h4,h5,h6,h7,h8,h9⟩
 ·have:xs = []:=List.eq_nil_of_length_eq_zero hl
  subst this
  exact ⟨none,0,rfl,SlI.nil _⟩
 ·refine ⟨_,_,rfl,⟨hl,h6,h7,.inr ⟨b,0,rfl,fun i hi => ?_⟩⟩⟩
  rw [Nat.zero_add,cell_of_block h5]
  have:(cur.toList.take (n * 1))[i]? = (valsI xs)[i]?:=by rw [h9]
  rw [List.getElem?_take_of_lt (by omega)] at this
  rw [← Array.getElem?_toList,this]
  simp [valsI,List.getD,hi]
structure PlP (w w':World) (e:Ending) (rs cs:List Int):Prop where
 out:∃ a1 c1 a2 c2,e = .returned (.tuple #[.slice a1 rs.length c1,.slice a2 cs.length c2,.int .i64 0]) ∧ SlI w' a1 rs.length c1 rs ∧ SlI w' a2 cs.length c2 cs
 bel:Below w.heap.size w w'
theorem PlI.res {w w1 W:World} {base:Nat} {v u:Value} {rs cs:List Int} (h:PlI w1 W base v u rs cs) (hb:Below w.heap.size w w1) (hB:w.heap.size ≤ base):PlP w W (.returned (.tuple #[v,u,.int .i64 0])) rs cs:=by
 obtain ⟨a1,c1,rfl,s1⟩:=own_slI h.own1
 obtain ⟨a2,c2,rfl,s2⟩:=own_slI h.own2
 exact ⟨⟨a1,c1,a2,c2,rfl,s1,s2⟩,hb.trans (h.bel.mono hB)⟩
theorem plR_row {st cols:List Int} {width:Int} {k X Y:Nat} (h:RowAt st cols width k X Y):plR st (k + 1) = plR st k ++ List.replicate (Y - X) (k:Int):=by
 simp only [plR]
 rw [h.hX,h.hY]
 rfl
theorem rep_snoc (n:Nat) (x:Int):List.replicate (n + 1) x = List.replicate n x ++ [x]:=List.replicate_succ'
theorem take_snoc {cols:List Int} {i:Nat} {x:Int} (hi:i < cols.length) (hx:cols.getD i 0 = x):cols.take (i + 1) = cols.take i ++ [x]:=by
 rw [List.take_add_one]
 congr 1
 subst hx
 simp [hi,List.getD]
theorem plR_len {R:Nat} {width:Int} {st cols:List Int} (hm:MayP (R:Int) width st cols):∀ k,k ≤ R → ((plR st k).length:Int) = st.getD k 0
 | 0,_ => by rw [hm.head.first]; rfl
 | k + 1,hk => by
  obtain ⟨X,Y,h⟩:=hm.rowAt (k:=k) (by omega)
  rw [plR_row h,List.length_append,List.length_replicate,h.hY]
  have:=plR_len hm k (by omega)
  rw [h.hX] at this
  have:=h.le
  omega
set_option maxRecDepth 100000 in
set_option maxHeartbeats 16000000 in
theorem wplaces_yes (R:Nat) (width:Int) (a1 a2:Option Addr) (n1 c1 n2 c2:Nat) (st cols:List Int) (w:World) (h1:SlI w a1 n1 c1 st) (h2:SlI w a2 n2 c2 cols) (hb1:n1 ≤ 17592186044000) (hb2:n2 ≤ 17592186044000) (hm:MayP (R:Int) width st cols) :
  Calls Tryz.prog 47 #[patV (R:Int) width a1 n1 c1 a2 n2 c2] w fun e w' => PlP w w' e (plR st R) cols:=by
 obtain ⟨wb,hwb⟩:∃ x,w.alloc (.cells #[.int .i64 (R:Int),.int .i64 width,.slice a1 n1 c1,.slice a2 n2 c2] 25) = x:=⟨_,rfl⟩
 have bb:Below w.heap.size w wb:=by rw [← hwb]; exact bAl
 have hT:=BoxP.made w #[.int .i64 (R:Int),.int .i64 width,.slice a1 n1 c1,.slice a2 n2 c2] 25
 rw [hwb] at hT
 have p0:=(hT.all 0 _ rfl).1
 have p1:=(hT.all 1 _ rfl).1
 have p2:=(hT.all 2 _ rfl).1
 have p3:=(hT.all 3 _ rfl).1
 have KM:=Hj (wsmay_any (R:Int) width a1 a2 n1 c1 n2 c2 st cols wb (h1.below bb) (h2.below bb) (by omega) (by omega))
 have HP:=Hj hT
 have HS:=Hj (And.intro h1 h2)
 have HB:=Hj bb
 have HM:=Hj hm
 have HTR:=Hj (show TruQ true (MayP (R:Int) width st cols) from ⟨fun _ => hm,fun _ => rfl⟩)
 have HLN:=Hj (And.intro h1.len (And.intro h2.len hm.head.len))
 obtain ⟨i64,hi,hz,hs,hb⟩:=info_parts Tryz.info_i64
 have HI:=Hj (And.intro hi (And.intro hz (And.intro hs hb)))
 clear hT bb h1 h2 hm hi hz hs hb
 unfold patV
 unfold patV at KM
 go_enter Tryz.func47,Tryz.ntmps47
 go_wp2_with fail
 refine (Uh KM).mono ?_
 intro e w1 hq
 obtain ⟨rfl,b1⟩:=hq.known (Uh HTR)
 have HP1:=Hj ((Uh HP).below b1)
 have HB1:=Hj ((Uh HB).trans (b1.mono (Uh HB).size))
 obtain ⟨base,hbase⟩:∃ x,w1.heap.size = x:=⟨_,rfl⟩
 have HBs:=Hj (And.intro hbase ((Uh HP).below b1).lt)
 have HS1:=Hj (And.intro ((Uh HS).1.below (Uh HB1)) ((Uh HS).2.below (Uh HB1)))
 have HBX:=Hj (show ∀ W,Below base w1 W → BoxP W w.heap.size [.int .i64 (R:Int),.int .i64 width,.slice a1 n1 c1,.slice a2 n2 c2] ∧ SlI W a1 n1 c1 st ∧ SlI W a2 n2 c2 cols from fun W k => by
  rw [← hbase] at k
  exact ⟨((Uh HP).below b1).below k,(Uh HS1).1.below k,(Uh HS1).2.below k⟩)
 clear b1 hq KM HTR hbase p0 p1 p2 p3
 go_wp2_with fail
 go_loopw [7,5,6] (fun kv v u wr => ∃ k:Nat,k ≤ R ∧ kv = .int .i64 (k:Int) ∧ Hid (∃ X:Nat,st.getD k 0 = (X:Int) ∧ PlI w1 wr base v u (plR st k) (cols.take X))) (fun kv _ _ _ => R - (intOf kv).toNat)
 case atStart => exact ⟨0,Nat.zero_le _,rfl,Hj ⟨0,by rw [(Uh HM).head.first]; rfl,⟨World.ownsRow_nil _ _ _ _,World.ownsRow_nil _ _ _ _,fun g hg => (by simp [Value.ownBlock] at hg),Below.refl _ _,Nat.le_of_eq (Uh HBs).1.symm⟩⟩⟩
 case round =>
  obtain ⟨k,hk,rfl,HX⟩:=hrel
  obtain ⟨X,hX,hP⟩:=Uh HX
  have hbx:=Uh HBX wr hP.bel
  have p0:=(hbx.1.all 0 _ rfl).1
  have p2:=(hbx.1.all 2 _ rfl).1
  by_cases hlt:k < R
  ·have hlt':(k:Int) < (R:Int):=by omega
   obtain ⟨X',Y,hRow⟩:=(Uh HM).rowAt (k:=k) (by omega)
   obtain rfl:X' = X:=by have h8:=hRow.hX; rw [hX] at h8; omega
   have hln:=Uh HLN
   obtain ⟨b1,o1,rfl,hc1⟩:=hbx.2.1.at (by omega)
   have sk:=hc1 k (by omega)
   rw [hRow.hX] at sk
   have tk1:(k:Int) < (n1:Int):=by omega
   have tk2:(k:Int) + 1 < (n1:Int):=by omega
   have hrl:=hRow.le
   have hrt:=hRow.lt
   have HRow:=Hj hRow
   have HPL:=Hj hP
   clear hc1 hln hRow hP hbx hX
   go_wp2_with fail
   go_loopw [8,5,6] (fun iv v u wq => ∃ i:Nat,X' ≤ i ∧ i ≤ Y ∧ iv = .int .i64 (i:Int) ∧ Hid (PlI w1 wq base v u (plR st k ++ List.replicate (i - X') (k:Int)) (cols.take i))) (fun iv _ _ _ => Y - (intOf iv).toNat)
   case atStart => exact ⟨X',Nat.le_refl _,hrl,rfl,Hj (by rw [Nat.sub_self,List.replicate_zero,List.append_nil]; exact Uh HPL)⟩
   case round =>
    clear p0 p2 sk
    obtain ⟨i,hi1,hi2,rfl,HQ⟩:=hrel
    have hbx:=Uh HBX wr (Uh HQ).bel
    have p2:=(hbx.1.all 2 _ rfl).1
    have p3:=(hbx.1.all 3 _ rfl).1
    obtain ⟨b1',o1',e1,hc1⟩:=hbx.2.1.at (by omega)
    cases e1
    have sk1:=hc1 (k + 1) (by have:=Uh HLN; omega)
    rw [(Uh HRow).hY] at sk1
    by_cases hin:i < Y
    ·have hin':(i:Int) < (Y:Int):=by omega
     have h22:=(Uh HLN).2.1
     obtain ⟨b2,o2,rfl,hc2⟩:=hbx.2.2.at (by omega)
     have sc:=hc2 i (by omega)
     obtain ⟨x,hx⟩:∃ x,cols.getD i 0 = x:=⟨_,rfl⟩
     rw [hx] at sc
     have hin2:(i:Int) < (n2:Int):=by omega
     have HE:=Hj (And.intro (show plR st k ++ List.replicate (i + 1 - X') (k:Int) = (plR st k ++ List.replicate (i - X') (k:Int)) ++ [(k:Int)] by rw [show i + 1 - X' = (i - X') + 1 by omega,rep_snoc,List.append_assoc]) (take_snoc (cols:=cols) (i:=i) (by omega) hx))
     have hlr:(plR st k ++ List.replicate (i - X') (k:Int)).length = i:=by
      have h8:=plR_len (Uh HM) k (by omega)
      rw [(Uh HRow).hX] at h8
      rw [List.length_append,List.length_replicate]
      omega
     have hlc:(cols.take i).length = i:=by rw [List.length_take]; omega
     generalize plR st k ++ List.replicate (i - X') (k:Int) = rs at *
     generalize cols.take i = cs at *
     have HLL:=Hj (And.intro hlr hlc)
     have HXX:=Hj hx
     have hle:=(Uh HQ).le
     have hrs1:rs.length ≤ 17592186044000:=by omega
     have hcs1:cs.length ≤ 17592186044000:=by omega
     clear hc1 hc2 hbx hx h22 hlr hlc
     go_wp2_with (at_builtin; refine wpList_append_lies _ rfl _ _ 23 rfl base 3 i64 (.int .i64 0) 1 8 Tryz.underlying23 (Uh HI).1 (Uh HI).2.1 (Uh HI).2.2.1 (Uh HI).2.2.2 rfl (by decide) _ rs.length (valsI rs) rfl ((Uh HQ).own1.alloc _) ⟨wr.heap.size,0,none⟩ 1 1 [.int .i64 (k:Int)] rfl rfl (World.news_of_block (alloc_block _ _)) ?c21 (by decide) ?c31 ?c41 ?c51 (wr.heap.size + 1) (by simp) ?_)
     case c21 => intro z hz; simp at hz; rcases hz with rfl; rfl
     case c31 => unfold maxLen; omega
     case c41 => omega
     case c51 => simp; omega
     intro g1 cap1 w3 hown hg hat hlt4
     have HQ3:=Hj ((Uh HQ).app _ hown hg hat)
     have hbx3:=Uh HBX w3 (Uh HQ3).bel
     have q2:=(hbx3.1.all 2 _ rfl).1
     have q3:=(hbx3.1.all 3 _ rfl).1
     obtain ⟨b2',o2',e2,hc2⟩:=hbx3.2.2.at (by omega)
     cases e2
     have sc3:=hc2 i (by have:=(Uh HLN).2.1; omega)
     rw [Uh HXX] at sc3
     have hle3:=(Uh HQ3).le
     clear hown hg hat hlt4 hc2 hbx3 p2 p3 sk1
     go_wp2_with (at_builtin; refine wpList_append_lies _ rfl _ _ 23 rfl base 3 i64 (.int .i64 0) 1 8 Tryz.underlying23 (Uh HI).1 (Uh HI).2.1 (Uh HI).2.2.1 (Uh HI).2.2.2 rfl (by decide) _ cs.length (valsI cs) rfl ((Uh HQ3).own2.alloc _) ⟨w3.heap.size,0,none⟩ 1 1 [.int .i64 x] rfl rfl (World.news_of_block (alloc_block _ _)) ?c21 (by decide) ?c31 ?c41 ?c51 (w3.heap.size + 1) (by simp) ?_)
     case c21 => intro z hz; simp at hz; rcases hz with rfl; rfl
     case c31 => unfold maxLen; omega
     case c41 => omega
     case c51 => simp; omega
     intro g2 cap2 w4 hown hg hat hlt4
     have HQ4:=Hj ((Uh HQ3).swap.app _ hown hg hat).swap
     clear hown hg hat hlt4 q2 q3
     go_wp2_with fail
     refine ⟨⟨i + 1,by omega,by omega,by (first | rfl | go_num),Hj ?_⟩,by simp [intOf]; omega⟩
     rw [(Uh HE).1,(Uh HE).2]
     exact Uh HQ4
    ·obtain rfl:i = Y:=by omega
     have hin':¬ (i:Int) < (i:Int):=by omega
     clear hbx hc1
     go_wp2_with fail
     refine ⟨⟨k + 1,by omega,by (first | rfl | go_num),Hj ⟨i,(Uh HRow).hY,?_⟩⟩,by simp [intOf]; omega⟩
     rw [plR_row (Uh HRow)]
     exact Uh HQ
  ·obtain rfl:k = R:=by omega
   have hlt':¬ (k:Int) < (k:Int):=by omega
   have hlast:X = cols.length:=by
    have h8:=(Uh HM).head.last
    rw [show ((k:Int)).toNat = k by omega,hX] at h8
    omega
   rw [hlast,List.take_length] at hP
   have HPL:=Hj hP
   clear hP hbx hX hlast
   go_wp2_with fail
   refine bodyPost_ret (by simp [results,Tryz.results47,go_sem]; try rfl) rfl ?_
   exact (Uh HPL).res (Uh HB1) (by have:=Uh HBs; omega)
end Go.Proofs.YtgjokididdffhaaGreat
