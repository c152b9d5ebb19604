/- Cg7 -/
import Derived.Test.YtjdljjkmhdgghaaCg6
namespace Go.Proofs.Ytjdljjkmhdgghaa
open Go.RowKit Go.Deep
set_option linter.unusedVariables false
def LsI (w:World) (L m:Nat) (ls:Nat → List Int):Prop:=∀ i,i < m → ∃ a n c,w.cell? ⟨L,i,none⟩ = some (.slice a n c) ∧ SlI w a n c (ls i) ∧ n ≤ 17592186044416
def MtP (ls:Nat → List Int) (k x:Nat):Prop:=∃ i,i < k ∧ MeP (ls i) (ls i).length 0 x
set_option maxRecDepth 100000 in
set_option maxHeartbeats 16000000 in
theorem cmeeting_any (L m n:Nat) (ls:Nat → List Int) (P:Nat → Nat → Prop) (w:World) (hm:m ≤ 128) (hn:n ≤ 128) (hL:LsI w L m ls) (hx:∀ i,i < m → ∀ j,j < (ls i).length → 0 ≤ (ls i).getD j 0 ∧ (ls i).getD j 0 < 128) (hP:∀ u v,u < n → v < n → ((MtP ls m (u * 128 + v) ∧ u ≠ v) ↔ P u v)) :
  Calls Try.prog 14 #[.slice (some ⟨L,0,none⟩) m m,.int .i64 (n:Int)] w fun e w' => GpP w w' e n (grS P n n) (grC P n n):=by
 have hO0:=BoxP.made w #[.int .i64 0,.int .i64 0,.slice none 0 0,.slice none 0 0] 24
 obtain ⟨wo,hwo⟩:∃ x,w.alloc (.cells #[.int .i64 0,.int .i64 0,.slice none 0 0,.slice none 0 0] 24) = x:=⟨_,rfl⟩
 have bo:Below w.heap.size w wo:=by rw [← hwo]; exact bAl
 rw [hwo] at hO0
 have hS0:=RoV.pairs wo
 obtain ⟨ws,hws⟩:∃ x,wo.alloc (.cells Try.zeroCells74 74) = x:=⟨_,rfl⟩
 have bs:Below wo.heap.size wo ws:=by rw [← hws]; exact bAl
 rw [hws] at hS0
 have bws:=bo.trans (bs.mono bo.size)
 have hO1:=hO0.below bs
 have HO:=Hj hO1
 have HLt:=Hj (show w.heap.size < wo.heap.size from hO0.lt)
 have HB:=Hj bws
 have HLs:=Hj hL
 have HX:=Hj hx
 have HP:=Hj hP
 have HS:=Hj hS0
 clear hO0 bo bs bws hO1 hL hx hP hS0
 go_enter Try.func14,Try.ntmps14
 go_wp2_with fail
 go_loopw [10,7] (fun kv _ wr => ∃ k:Nat,k ≤ m ∧ kv = .int .i64 (k:Int) ∧ Hid (PrS ws wr wo.heap.size (MtP ls k))) (fun kv _ _ => m - (intOf kv).toNat)
 case atStart =>
  refine ⟨0,Nat.zero_le _,rfl,Hj ⟨(Uh HS).congr (fun i hi => ?_),Chg.refl _ _⟩⟩
  rw [tb_no (show ¬ MtP ls 0 i from fun ⟨_,h,_⟩ => absurd h (Nat.not_lt_zero _))]
 case round =>
  obtain ⟨k,hk,rfl,HK⟩:=hrel
  by_cases hlt:k < m
  ·have hlt':(k:Int) < (m:Int):=by omega
   obtain ⟨a,q,c,hcell,hsl,hq⟩:=Uh HLs k hlt
   have hLl:=World.block_lt_of_cell? _ _ hcell
   have cw:Chg (fun j => j = wo.heap.size) w wr:=(Chg.of_below (Uh HB)).trans (Uh HK).chg
   have hsz:=Uh HLt
   have hc1:=cw.cell (show ¬ L = wo.heap.size by simp at hLl; omega) hcell
   have hne:∀ z,a = some z → ls k ≠ [] → z.block ≠ wo.heap.size:=fun z e1 e2 => by have:=hsl.block_lt e2 z e1; omega
   have KM:=Hj (pmeet_any wo.heap.size a q c (ls k) (MtP ls k) wr (hsl.chg cw (fun z e1 e2 => hne z e1 e2)) hq (fun i hi => Uh HX k hlt i (by rw [hsl.len]; exact hi)) hne (Uh HK).row)
   have HQ:=Hj hsl.len
   clear hcell hsl hLl cw hne hsz
   go_wp2_with fail
   refine (Uh KM).mono ?_
   rintro _ wk ⟨⟨v,rfl⟩,hpr⟩
   have HN:=Hj (show PrS ws wk wo.heap.size (MtP ls (k + 1)) from ⟨hpr.row.congr (fun i hi => by
    rw [tb_congr (show (MtP ls k i ∨ MeP (ls k) q 0 i) ↔ MtP ls (k + 1) i from ⟨fun z => z.elim (fun ⟨j,h,e⟩ => ⟨j,by omega,e⟩) (fun e => ⟨k,by omega,by rw [Uh HQ]; exact e⟩),fun ⟨j,h,e⟩ => by
     by_cases e2:j = k
     ·subst e2
      rw [Uh HQ] at e
      exact .inr e
     ·exact .inl ⟨j,by omega,e⟩⟩)]),(Uh HK).chg.trans hpr.chg⟩)
   clear hpr KM hc1
   go_wp2_with fail
   exact ⟨⟨k + 1,by omega,by (first | rfl | go_num),HN⟩,by simp [intOf]; omega⟩
  ·obtain rfl:k = m:=by omega
   have hlt':¬ (k:Int) < (k:Int):=by omega
   have cw:Chg (fun j => j = wo.heap.size) w wr:=(Chg.of_below (Uh HB)).trans (Uh HK).chg
   have KG:=Hj (pgraph_any n wo.heap.size (fun x => tb (MtP ls k x)) P wr hn (Uh HK).row (fun u v hu hv => by rw [tb_iff]; exact Uh HP u v hu hv))
   have hsz:=Uh HLt
   have HOr:=Hj ((Uh HO).chg (Uh HK).chg (show ¬ w.heap.size = wo.heap.size by omega))
   have HCw:=Hj cw
   clear cw hsz
   go_wp2_with fail
   refine (Uh KG).mono ?_
   rintro _ wk ⟨b1,d1,b2,d2,rfl,g1,g2,bk,f1,f2⟩
   have hOk:=(Uh HOr).below bk
   have q0:=(hOk.all 0 _ rfl).1
   have q1:=(hOk.all 1 _ rfl).1
   have q2:=(hOk.all 2 _ rfl).1
   have q3:=(hOk.all 3 _ rfl).1
   have r0:=(hOk.all 0 _ rfl).2
   have r1:=(hOk.all 1 _ rfl).2
   have r2:=(hOk.all 2 _ rfl).2
   have r3:=(hOk.all 3 _ rfl).2
   have HOk:=Hj hOk
   have HG:=Hj (And.intro g1 g2)
   have HBK:=Hj bk
   have HFr:=Hj (And.intro f1 f2)
   clear hOk g1 g2 bk KG f1 f2
   go_wp2_with fail
   have hf:=((((Uh HOk).put 0 (.int .i64 (n:Int))).put 1 (.int .i64 (n:Int))).put 2 (.slice b1 (grS P n n).length d1)).put 3 (.slice b2 (grC P n n).length d2)
   have t0:=(hf.all 0 _ rfl).1
   have t1:=(hf.all 1 _ rfl).1
   have t2:=(hf.all 2 _ rfl).1
   have t3:=(hf.all 3 _ rfl).1
   have cc:Chg (fun j => j = w.heap.size) wk ((((wk.setCell ⟨w.heap.size,0,none⟩ (.int .i64 (n:Int))).setCell ⟨w.heap.size,1,none⟩ (.int .i64 (n:Int))).setCell ⟨w.heap.size,2,none⟩ (.slice b1 (grS P n n).length d1)).setCell ⟨w.heap.size,3,none⟩ (.slice b2 (grC P n n).length d2)):=(((Chg.of_set (S:=fun j => j = w.heap.size) _ _ _ _ rfl).trans (Chg.of_set (S:=fun j => j = w.heap.size) _ _ _ _ rfl)).trans (Chg.of_set (S:=fun j => j = w.heap.size) _ _ _ _ rfl)).trans (Chg.of_set (S:=fun j => j = w.heap.size) _ _ _ _ rfl)
   generalize (((wk.setCell ⟨w.heap.size,0,none⟩ (.int .i64 (n:Int))).setCell ⟨w.heap.size,1,none⟩ (.int .i64 (n:Int))).setCell ⟨w.heap.size,2,none⟩ (.slice b1 (grS P n n).length d1)).setCell ⟨w.heap.size,3,none⟩ (.slice b2 (grC P n n).length d2) = wf at *
   refine bodyPost_ret (by simp [results,Try.results14,go_sem,t0,t1,t2,t3]; try rfl) rfl ?_
   have hwr:w.heap.size < wr.heap.size:=(Uh HOr).lt
   have h9:=Uh HLt
   refine ⟨b1,d1,b2,d2,rfl,(Uh HG).1.chg cc (fun z hz _ e => ?_),(Uh HG).2.chg cc (fun z hz _ e => ?_),?_,fun z hz => ?_,fun z hz => ?_⟩
   ·have:=(Uh HFr).1 z hz; omega
   ·have:=(Uh HFr).2 z hz; omega
   ·exact (((Uh HCw).below (Nat.le_refl _) (fun j hj e => by omega)).trans ((Uh HBK).mono (Uh HCw).size)).trans (cc.below (Nat.le_trans (Uh HCw).size (Uh HBK).size) (fun j hj e => by omega))
   ·have:=(Uh HFr).1 z hz; omega
   ·have:=(Uh HFr).2 z hz; omega
end Go.Proofs.Ytjdljjkmhdgghaa
