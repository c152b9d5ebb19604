/- Cg3 -/
import Derived.Test.YtgjokididdffhaaGreatCg2
namespace Go.Proofs.YtgjokididdffhaaGreat
open Go.RowKit Go.Deep
set_option linter.unusedVariables false
def MeP (xs:List Int) (i j:Nat) (x:Nat):Prop:=∃ p q:Nat,(p < i ∧ q < xs.length ∨ p = i ∧ q < j) ∧ xs.getD p 0 * 128 + xs.getD q 0 = (x:Int)
theorem MeP.step {xs:List Int} {i j:Nat} {c:Nat} (hj:j < xs.length) (hc:xs.getD i 0 * 128 + xs.getD j 0 = (c:Int)) (x:Nat):MeP xs i (j + 1) x ↔ (MeP xs i j x ∨ x = c):=by
 constructor
 ·rintro ⟨p,q,h,e⟩
  rcases h with h | ⟨h1,h2⟩
  ·exact .inl ⟨p,q,.inl h,e⟩
  ·by_cases e2:q = j
   ·subst h1 e2
    right
    omega
   ·exact .inl ⟨p,q,.inr ⟨h1,by omega⟩,e⟩
 ·rintro (⟨p,q,h,e⟩ | e)
  ·rcases h with h | ⟨h1,h2⟩
   ·exact ⟨p,q,.inl h,e⟩
   ·exact ⟨p,q,.inr ⟨h1,by omega⟩,e⟩
  ·exact ⟨i,j,.inr ⟨rfl,by omega⟩,by rw [e]; exact hc⟩
theorem MeP.next {xs:List Int} {i x:Nat}:MeP xs (i + 1) 0 x ↔ MeP xs i xs.length x:=by
 constructor
 ·rintro ⟨p,q,h,e⟩
  rcases h with ⟨h1,h2⟩ | ⟨h1,h2⟩
  ·by_cases e2:p = i
   ·exact ⟨p,q,.inr ⟨e2,h2⟩,e⟩
   ·exact ⟨p,q,.inl ⟨by omega,h2⟩,e⟩
  ·omega
 ·rintro ⟨p,q,h,e⟩
  rcases h with ⟨h1,h2⟩ | ⟨h1,h2⟩
  ·exact ⟨p,q,.inl ⟨by omega,h2⟩,e⟩
  ·exact ⟨p,q,.inl ⟨by omega,h2⟩,e⟩
structure PrS (w W:World) (b:Nat) (P:Nat → Prop):Prop where
 row:RoV W b 16384 (fun x => .bool (tb (P x)))
 chg:Chg (fun j => j = b) w W
theorem PrS.put {w W:World} {b:Nat} {P R:Nat → Prop} (h:PrS w W b P) (x:Nat) (hx:x < 16384) (e:∀ y,R y ↔ (P y ∨ y = x)):PrS w (W.setCell ⟨b,x,none⟩ (.bool true)) b R:=by
 refine ⟨(h.row.put x (.bool true) hx).congr (fun i hi => ?_),h.chg.trans (Chg.of_set _ _ _ _ rfl)⟩
 by_cases c:i = x
 ·simp only [c,if_true]
  rw [tb_yes ((e x).2 (.inr rfl))]
 ·simp only [c,if_false]
  rw [tb_congr (show P i ↔ R i from ⟨fun p => (e i).2 (.inl p),fun q => ((e i).1 q).resolve_right c⟩)]
theorem PrS.congr {w W:World} {b:Nat} {P R:Nat → Prop} (h:PrS w W b P) (e:∀ x,P x ↔ R x):PrS w W b R:=⟨h.row.congr (fun i hi => by rw [tb_congr (e i)]),h.chg⟩
theorem PrS.drew {w W:World} {b:Nat} {P:Nat → Prop} (h:PrS w W b P):PrS w W.drew b P:=⟨h.row.chg (S:=fun _ => False) (Chg.of_drew _) (fun x => x),h.chg.trans (Chg.of_drew _)⟩
set_option maxRecDepth 100000 in
set_option maxHeartbeats 16000000 in
theorem pmeet_any (b:Nat) (a:Option Addr) (n c:Nat) (xs:List Int) (P:Nat → Prop) (w:World) (h:SlI w a n c xs) (hn:n ≤ 17592186044416) (hx:∀ i,i < n → 0 ≤ xs.getD i 0 ∧ xs.getD i 0 < 128) (hna:∀ z,a = some z → xs ≠ [] → z.block ≠ b) (hS:RoV w b 16384 (fun x => .bool (tb (P x)))) :
  Calls Tryz.prog 83 #[.pointer (some ⟨b,0,none⟩),.slice a n c] w fun e w' => (∃ v,e = .returned v) ∧ PrS w w' b (fun x => P x ∨ MeP xs n 0 x):=by
 have HL:=Hj h.len
 have HSl:=Hj (show ∀ W,Chg (fun j => j = b) w W → SlI W a n c xs from fun W k => h.chg k (fun z hz hne e => hna z hz hne e))
 have HX:=Hj hx
 have HS0:=Hj hS
 clear h hx hna hS
 go_enter Tryz.func83,Tryz.ntmps83
 go_wp2_with fail
 go_loopw [10,5] (fun kv _ wr => ∃ k:Nat,k ≤ n ∧ kv = .int .i64 (k:Int) ∧ Hid (PrS w wr b (fun x => P x ∨ MeP xs k 0 x))) (fun kv _ _ => n - (intOf kv).toNat)
 case atStart =>
  refine ⟨0,Nat.zero_le _,rfl,Hj ⟨(Uh HS0).congr (fun i hi => ?_),Chg.refl _ _⟩⟩
  rw [tb_congr (show P i ↔ (P i ∨ MeP xs 0 0 i) from ⟨.inl,fun z => z.elim id (fun ⟨p,q,h,_⟩ => by omega)⟩)]
 case round =>
  obtain ⟨k,hk,rfl,HK⟩:=hrel
  by_cases hlt:k < n
  ·have hlt':(k:Int) < (n:Int):=by omega
   obtain ⟨bb,off,rfl,hc⟩:=(Uh HSl wr (Uh HK).chg).at (by omega)
   have sk:=hc k hlt
   have hx1:=Uh HX k hlt
   obtain ⟨U,hU⟩:∃ U:Nat,xs.getD k 0 = (U:Int):=⟨(xs.getD k 0).toNat,by omega⟩
   rw [hU] at sk hx1
   have HU:=Hj hU
   have hU8:(U:Int) < 128:=hx1.2
   clear hc hU hx1
   go_wp2_with fail
   go_loopw [16,7] (fun iv _ wq => ∃ v:Nat,v ≤ n ∧ iv = .int .i64 (v:Int) ∧ Hid (PrS w wq b (fun x => P x ∨ MeP xs k v x))) (fun iv _ _ => n - (intOf iv).toNat)
   case atStart => exact ⟨0,Nat.zero_le _,rfl,HK⟩
   case round =>
    clear sk
    obtain ⟨v,hv,rfl,HV⟩:=hrel
    by_cases hin:v < n
    ·have hin':(v:Int) < (n:Int):=by omega
     obtain ⟨bb',off',e1,hc⟩:=(Uh HSl wr (Uh HV).chg).at (by omega)
     cases e1
     have sv:=hc v hin
     have hx2:=Uh HX v hin
     obtain ⟨V,hVV⟩:∃ V:Nat,xs.getD v 0 = (V:Int):=⟨(xs.getD v 0).toNat,by omega⟩
     rw [hVV] at sv hx2
     have hV8:(V:Int) < 128:=hx2.2
     have hcell:=(Uh HV).row (U * 128 + V) (by omega)
     have hc1:=hcell.1
     have hc2:=hcell.2
     have HN:=Hj (((Uh HV).put (R:=fun x => P x ∨ MeP xs k (v + 1) x) (U * 128 + V) (by omega) (fun y => by
      have h9:=MeP.step (xs:=xs) (i:=k) (j:=v) (c:=U * 128 + V) (by rw [Uh HL]; exact hin) (by rw [Uh HU,hVV]; omega) y
      constructor
      ·rintro (z | z)
       ·exact .inl (.inl z)
       ·rcases h9.1 z with z | z
        ·exact .inl (.inr z)
        ·exact .inr z
      ·rintro ((z | z) | z)
       ·exact .inl z
       ·exact .inr (h9.2 (.inl z))
       ·exact .inr (h9.2 (.inr z)))))
     clear hc hcell hVV hx2
     go_wp2_with fail
     try go_region
     all_goals (try go_wp2_with fail)
     all_goals exact ⟨⟨v + 1,by omega,by (first | rfl | go_num),Hj (by first | exact Uh HN | exact (Uh HN).drew)⟩,by simp [intOf]; omega⟩
    ·obtain rfl:v = n:=by omega
     have hin':¬ (v:Int) < (v:Int):=by omega
     go_wp2_with fail
     refine ⟨⟨k + 1,by omega,by (first | rfl | go_num),Hj ((Uh HV).congr (fun x => ?_))⟩,by simp [intOf]; omega⟩
     rw [MeP.next,Uh HL]
  ·obtain rfl:k = n:=by omega
   have hlt':¬ (k:Int) < (k:Int):=by omega
   go_wp2_with fail
   go_end0
   exact ⟨⟨_,rfl⟩,Uh HK⟩
def subV (a:Option Addr) (c X Y:Nat):Value:=.slice (if c = X then a else Option.map (fun x => x.add X) a) (Y - X) (c - X)
set_option maxRecDepth 100000 in
set_option maxHeartbeats 16000000 in
theorem crow_any (R:Nat) (width:Int) (a1 a2:Option Addr) (n1 c1 n2 c2:Nat) (st cols:List Int) (r X Y:Nat) (w:World) (h1:SlI w a1 n1 c1 st) (h2:SlI w a2 n2 c2 cols) (hb1:n1 ≤ 17592186044416) (hb2:n2 ≤ 17592186044416) (hm:MayP (R:Int) width st cols) (hr:r < R) (hR:RowAt st cols width r X Y) :
  Calls Tryz.prog 115 #[patV (R:Int) width a1 n1 c1 a2 n2 c2,.int .i64 (r:Int)] w fun e w' => e = .returned (subV a2 c2 X Y) ∧ Below w.heap.size w w':=by
 obtain ⟨wb,hwb⟩:∃ x,w.alloc (.cells #[.int .i64 (R:Int),.int .i64 width,.slice a1 n1 c1,.slice a2 n2 c2] 25) = x:=⟨_,rfl⟩
 have bb:Below w.heap.size w wb:=by rw [← hwb]; exact bAl
 have hT:=BoxP.made w #[.int .i64 (R:Int),.int .i64 width,.slice a1 n1 c1,.slice a2 n2 c2] 25
 rw [hwb] at hT
 have p0:=(hT.all 0 _ rfl).1
 have p1:=(hT.all 1 _ rfl).1
 have p2:=(hT.all 2 _ rfl).1
 have p3:=(hT.all 3 _ rfl).1
 have hln:=h1.len
 have hlc:=h2.len
 have hl2:=hm.head.len
 have hnc:=h2.le
 have hfit:=hm.head.fit
 obtain ⟨b1,o1,rfl,hc1⟩:=(h1.below bb).at (by omega)
 have sk:=hc1 r (by omega)
 have sk1:=hc1 (r + 1) (by omega)
 rw [hR.hX] at sk
 rw [hR.hY] at sk1
 have hXY:=hR.le
 have hYn:=hR.lt
 have hn1:n1 = R + 1:=by omega
 subst hn1
 have tr:(r:Int) < (R:Int) + 1:=by omega
 have tr1:(r:Int) + 1 < (R:Int) + 1:=by omega
 have tXY:(X:Int) ≤ (Y:Int):=by omega
 have tYc:(Y:Int) ≤ (c2:Int):=by omega
 have hr8:r < 128:=by omega
 have HB:=Hj bb
 clear hT bb hc1 hm hR h1 h2 hln hlc hl2 hfit
 unfold patV
 go_enter Tryz.func115,Tryz.ntmps115
 go_wp2_with fail
 try go_quiet (fail)
 all_goals (try go_wp2_with fail)
 all_goals (try go_ret)
 all_goals exact ⟨by simp_all [subV],by first | exact Uh HB | exact bel_drewN (Uh HB) _⟩
theorem Tryz.info_listI:(Tryz.prog.info? 23).map (fun i => (i.zero,i.size,i.bytes)) = some (some (.slice none 0 0),1,24):=by kernel_rfl
theorem make_listsI (n:Nat) (hn:n ≤ 1000000000) (w:World):(Instr.makeSlice 56 (.int .i64 (n:Int)) (.int .i64 (n:Int))).run Tryz.prog w = .ok (.slice (some ⟨w.heap.size,0,none⟩) n n) (w.alloc (.cells (madeCells #[.slice none 0 0] n) 23)) :=
 run_make_row' (P:=Tryz.prog) 56 23 (.slice none 0 0) 24 Tryz.underlying56 Tryz.info_listI rfl .i64 .i64 n (by omega) (by omega) w
def rowV (st:List Int) (a2:Option Addr) (c2:Nat) (i:Nat):Value:=subV a2 c2 (st.getD i 0).toNat (st.getD (i + 1) 0).toNat
set_option maxRecDepth 100000 in
set_option maxHeartbeats 16000000 in
theorem crows_any (R:Nat) (width:Int) (a1 a2:Option Addr) (n1 c1 n2 c2:Nat) (st cols:List Int) (w:World) (h1:SlI w a1 n1 c1 st) (h2:SlI w a2 n2 c2 cols) (hb1:n1 ≤ 17592186044416) (hb2:n2 ≤ 17592186044416) (hm:MayP (R:Int) width st cols) :
  Calls Tryz.prog 82 #[patV (R:Int) width a1 n1 c1 a2 n2 c2] w fun e w' => ∃ b,w.heap.size ≤ b ∧ e = .returned (.slice (some ⟨b,0,none⟩) R R) ∧ RoV w' b R (rowV st a2 c2) ∧ Below w.heap.size w w':=by
 obtain ⟨wb,hwb⟩:∃ x,w.alloc (.cells #[.int .i64 (R:Int),.int .i64 width,.slice a1 n1 c1,.slice a2 n2 c2] 25) = x:=⟨_,rfl⟩
 have bb:Below w.heap.size w wb:=by rw [← hwb]; exact bAl
 have hT:=BoxP.made w #[.int .i64 (R:Int),.int .i64 width,.slice a1 n1 c1,.slice a2 n2 c2] 25
 rw [hwb] at hT
 have p0:=(hT.all 0 _ rfl).1
 have hfit:=hm.head.fit
 have hR8:R ≤ 128:=by omega
 have hmk:=make_listsI R (by omega) wb
 have hR:=RoV.made wb R 23 (.slice none 0 0)
 obtain ⟨wm,hwm⟩:∃ x,wb.alloc (.cells (madeCells #[.slice none 0 0] R) 23) = x:=⟨_,rfl⟩
 have bm:Below wb.heap.size wb wm:=by rw [← hwm]; exact bAl
 rw [hwm] at hR hmk
 have hbl:wb.heap.size < wm.heap.size:=by rw [← hwm]; simp
 have hwl:w.heap.size < wb.heap.size:=hT.lt
 have HT:=Hj (hT.below bm)
 have HR:=Hj hR
 have HB:=Hj (bb.trans (bm.mono bb.size))
 have HS:=Hj (And.intro h1 h2)
 have HM:=Hj hm
 have HL:=Hj (And.intro hbl hwl)
 clear hT bb bm hR hm h1 h2 hfit hbl hwl
 unfold patV
 go_enter Tryz.func82,Tryz.ntmps82
 go_wp2_with fail
 go_loopw [10,4] (fun kv _ wr => ∃ k:Nat,k ≤ R ∧ kv = .int .i64 (k:Int) ∧ Hid (RoV wr wb.heap.size R (fun i => if i < k then rowV st a2 c2 i else .slice none 0 0)) ∧ Hid (BoxP wr w.heap.size [.int .i64 (R:Int),.int .i64 width,.slice a1 n1 c1,.slice a2 n2 c2]) ∧ Hid (Below w.heap.size w wr)) (fun kv _ _ => R - (intOf kv).toNat)
 case atStart =>
  exact ⟨0,Nat.zero_le _,rfl,HR,HT,HB⟩
 case round =>
  obtain ⟨k,hk,rfl,HK,HX,HW⟩:=hrel
  by_cases hlt:k < R
  ·have hlt':(k:Int) < (R:Int):=by omega
   obtain ⟨X,Y,hRow⟩:=(Uh HM).rowAt (k:=k) hlt'
   have KR:=Hj (crow_any R width a1 a2 n1 c1 n2 c2 st cols k X Y wr ((Uh HS).1.below (Uh HW)) ((Uh HS).2.below (Uh HW)) hb1 hb2 (Uh HM) hlt hRow)
   unfold patV at KR
   have hV:rowV st a2 c2 k = subV a2 c2 X Y:=by unfold rowV; rw [hRow.hX,hRow.hY]; simp
   unfold subV at KR hV
   obtain ⟨A,hA⟩:∃ A,(if c2 = X then a2 else Option.map (fun x => x.add X) a2) = A:=⟨_,rfl⟩
   rw [hA] at KR hV
   obtain ⟨m,hmm⟩:∃ m,Y - X = m:=⟨_,rfl⟩
   obtain ⟨d,hdd⟩:∃ d,c2 - X = d:=⟨_,rfl⟩
   rw [hmm,hdd] at KR hV
   have HV:=Hj hV
   clear hA hmm hdd
   have q0:=((Uh HX).all 0 _ rfl).1
   have q1:=((Uh HX).all 1 _ rfl).1
   have q2:=((Uh HX).all 2 _ rfl).1
   have q3:=((Uh HX).all 3 _ rfl).1
   clear hV hRow p0
   go_wp2_with fail
   refine (Uh KR).mono ?_
   rintro _ wk ⟨rfl,bk⟩
   have hKk:=(Uh HK).below bk
   have hc1:=(hKk k hlt).1
   have hc2:=(hKk k hlt).2
   simp only [Nat.lt_irrefl,if_false] at hc1
   have HN:=Hj (show RoV (wk.setCell ⟨wb.heap.size,k,none⟩ (.slice A m d)) wb.heap.size R (fun i => if i < k + 1 then rowV st a2 c2 i else .slice none 0 0) from (hKk.put k (.slice A m d) hlt).congr (fun i hi => by
    by_cases e:i = k
    ·subst e
     simp only [if_true,Nat.lt_succ_self]
     exact (Uh HV).symm
    ·simp only [if_neg e]
     by_cases e2:i < k
     ·rw [if_pos e2,if_pos (by omega)]
     ·rw [if_neg e2,if_neg (by omega)]))
   have HN2:=Hj (((Uh HX).below bk).other (Y:=wb.heap.size) k (.slice A m d) (by have:=Uh HL; omega))
   have HN3:=Hj (show Below w.heap.size w (wk.setCell ⟨wb.heap.size,k,none⟩ (.slice A m d)) from ((Uh HW).trans (bk.mono (Uh HW).size)).trans ((Chg.of_set (S:=fun j => j = wb.heap.size) _ _ _ _ rfl).below (Nat.le_trans (Uh HW).size bk.size) (fun j hj e => by have:=Uh HL; omega)))
   clear hKk bk KR q0 q1 q2 q3
   go_wp2_with fail
   exact ⟨⟨k + 1,by omega,by (first | rfl | go_num),HN,HN2,HN3⟩,by simp [intOf]; omega⟩
  ·obtain rfl:k = R:=by omega
   have hlt':¬ (k:Int) < (k:Int):=by omega
   go_wp2_with fail
   go_ret
   exact ⟨_,Nat.le_of_lt (Uh HL).2,rfl,(Uh HK).congr (fun i hi => by simp [hi]),Uh HW⟩
def fz0:List Value:=[.bool false,.bool false,.bool false,.bool false,.bool false,.bool false,.bool false,.bool false,.bool false,.bool false,.bool false,.bool false,.bool false,.bool false,.bool false,.bool false,.bool false,.bool false,.bool false,.bool false,.bool false,.bool false,.bool false,.bool false,.bool false,.bool false,.bool false,.bool false,.bool false,.bool false,.bool false,.bool false,.bool false,.bool false,.bool false,.bool false,.bool false,.bool false,.bool false,.bool false,.bool false,.bool false,.bool false,.bool false,.bool false,.bool false,.bool false,.bool false,.bool false,.bool false,.bool false,.bool false,.bool false,.bool false,.bool false,.bool false,.bool false,.bool false,.bool false,.bool false,.bool false,.bool false,.bool false,.bool false]
def fz1:List Value:=fz0.append fz0
def fz2:List Value:=fz1.append fz1
def fz3:List Value:=fz2.append fz2
def fz4:List Value:=fz3.append fz3
def fz5:List Value:=fz4.append fz4
def fz6:List Value:=fz5.append fz5
def fz7:List Value:=fz6.append fz6
def fz8:List Value:=fz7.append fz7
theorem fz_two {l:List Value} {n m:Nat} (h:l = List.replicate n (.bool false)) (hm:n + n = m):l.append l = List.replicate m (.bool false):=by
 subst h hm
 exact List.replicate_append_replicate
theorem fz0_is:fz0 = List.replicate 64 (.bool false):=rfl
theorem fz1_is:fz1 = List.replicate 128 (.bool false):=fz_two fz0_is rfl
theorem fz2_is:fz2 = List.replicate 256 (.bool false):=fz_two fz1_is rfl
theorem fz3_is:fz3 = List.replicate 512 (.bool false):=fz_two fz2_is rfl
theorem fz4_is:fz4 = List.replicate 1024 (.bool false):=fz_two fz3_is rfl
theorem fz5_is:fz5 = List.replicate 2048 (.bool false):=fz_two fz4_is rfl
theorem fz6_is:fz6 = List.replicate 4096 (.bool false):=fz_two fz5_is rfl
theorem fz7_is:fz7 = List.replicate 8192 (.bool false):=fz_two fz6_is rfl
theorem fz8_is:fz8 = List.replicate 16384 (.bool false):=fz_two fz7_is rfl
theorem zc_pairs:Tryz.zeroCells137 = fz8.toArray:=by kernel_rfl
theorem rep_at (l:List Value) (n i:Nat) (v:Value) (h:l = List.replicate n v) (hi:i < n):l.toArray[i]? = some v:=by subst h; simp [hi]
theorem RoV.pairs (w:World):RoV (w.alloc (.cells Tryz.zeroCells137 137)) w.heap.size 16384 (fun _ => .bool false):=by
 intro i hi
 have hq:Tryz.zeroCells137[i]? = some (.bool false):=by rw [zc_pairs]; exact rep_at _ _ _ _ fz8_is hi
 exact ⟨by simp [hq],by simp⟩
def LsI (w:World) (L m:Nat) (ls:Nat → List Int):Prop:=∀ i,i < m → ∃ a n c,w.cell? ⟨L,i,none⟩ = some (.slice a n c) ∧ SlI w a n c (ls i) ∧ n ≤ 17592186044416
def MtP (ls:Nat → List Int) (k x:Nat):Prop:=∃ i,i < k ∧ MeP (ls i) (ls i).length 0 x
set_option maxRecDepth 100000 in
set_option maxHeartbeats 16000000 in
theorem cmeeting_any (L m n:Nat) (ls:Nat → List Int) (P:Nat → Nat → Prop) (w:World) (hm:m ≤ 128) (hn:n ≤ 128) (hL:LsI w L m ls) (hx:∀ i,i < m → ∀ j,j < (ls i).length → 0 ≤ (ls i).getD j 0 ∧ (ls i).getD j 0 < 128) (hP:∀ u v,u < n → v < n → ((MtP ls m (u * 128 + v) ∧ u ≠ v) ↔ P u v)) :
  Calls Tryz.prog 123 #[.slice (some ⟨L,0,none⟩) m m,.int .i64 (n:Int)] w fun e w' => GpP w w' e n (grS P n n) (grC P n n):=by
 have hO0:=BoxP.made w #[.int .i64 0,.int .i64 0,.slice none 0 0,.slice none 0 0] 25
 obtain ⟨wo,hwo⟩:∃ x,w.alloc (.cells #[.int .i64 0,.int .i64 0,.slice none 0 0,.slice none 0 0] 25) = x:=⟨_,rfl⟩
 have bo:Below w.heap.size w wo:=by rw [← hwo]; exact bAl
 rw [hwo] at hO0
 have hS0:=RoV.pairs wo
 obtain ⟨ws,hws⟩:∃ x,wo.alloc (.cells Tryz.zeroCells137 137) = x:=⟨_,rfl⟩
 have bs:Below wo.heap.size wo ws:=by rw [← hws]; exact bAl
 rw [hws] at hS0
 have bws:=bo.trans (bs.mono bo.size)
 have hO1:=hO0.below bs
 have HO:=Hj hO1
 have HLt:=Hj (show w.heap.size < wo.heap.size from hO0.lt)
 have HB:=Hj bws
 have HLs:=Hj hL
 have HX:=Hj hx
 have HP:=Hj hP
 have HS:=Hj hS0
 clear hO0 bo bs bws hO1 hL hx hP hS0
 go_enter Tryz.func123,Tryz.ntmps123
 go_wp2_with fail
 go_loopw [10,7] (fun kv _ wr => ∃ k:Nat,k ≤ m ∧ kv = .int .i64 (k:Int) ∧ Hid (PrS ws wr wo.heap.size (MtP ls k))) (fun kv _ _ => m - (intOf kv).toNat)
 case atStart =>
  refine ⟨0,Nat.zero_le _,rfl,Hj ⟨(Uh HS).congr (fun i hi => ?_),Chg.refl _ _⟩⟩
  rw [tb_no (show ¬ MtP ls 0 i from fun ⟨_,h,_⟩ => absurd h (Nat.not_lt_zero _))]
 case round =>
  obtain ⟨k,hk,rfl,HK⟩:=hrel
  by_cases hlt:k < m
  ·have hlt':(k:Int) < (m:Int):=by omega
   obtain ⟨a,q,c,hcell,hsl,hq⟩:=Uh HLs k hlt
   have hLl:=World.block_lt_of_cell? _ _ hcell
   have cw:Chg (fun j => j = wo.heap.size) w wr:=(Chg.of_below (Uh HB)).trans (Uh HK).chg
   have hsz:=Uh HLt
   have hc1:=cw.cell (show ¬ L = wo.heap.size by simp at hLl; omega) hcell
   have hne:∀ z,a = some z → ls k ≠ [] → z.block ≠ wo.heap.size:=fun z e1 e2 => by have:=hsl.block_lt e2 z e1; omega
   have KM:=Hj (pmeet_any wo.heap.size a q c (ls k) (MtP ls k) wr (hsl.chg cw (fun z e1 e2 => hne z e1 e2)) hq (fun i hi => Uh HX k hlt i (by rw [hsl.len]; exact hi)) hne (Uh HK).row)
   have HQ:=Hj hsl.len
   clear hcell hsl hLl cw hne hsz
   go_wp2_with fail
   refine (Uh KM).mono ?_
   rintro _ wk ⟨⟨v,rfl⟩,hpr⟩
   have HN:=Hj (show PrS ws wk wo.heap.size (MtP ls (k + 1)) from ⟨hpr.row.congr (fun i hi => by
    rw [tb_congr (show (MtP ls k i ∨ MeP (ls k) q 0 i) ↔ MtP ls (k + 1) i from ⟨fun z => z.elim (fun ⟨j,h,e⟩ => ⟨j,by omega,e⟩) (fun e => ⟨k,by omega,by rw [Uh HQ]; exact e⟩),fun ⟨j,h,e⟩ => by
     by_cases e2:j = k
     ·subst e2
      rw [Uh HQ] at e
      exact .inr e
     ·exact .inl ⟨j,by omega,e⟩⟩)]),(Uh HK).chg.trans hpr.chg⟩)
   clear hpr KM hc1
   go_wp2_with fail
   exact ⟨⟨k + 1,by omega,by (first | rfl | go_num),HN⟩,by simp [intOf]; omega⟩
  ·obtain rfl:k = m:=by omega
   have hlt':¬ (k:Int) < (k:Int):=by omega
   have cw:Chg (fun j => j = wo.heap.size) w wr:=(Chg.of_below (Uh HB)).trans (Uh HK).chg
   have KG:=Hj (pgraph_any n wo.heap.size (fun x => tb (MtP ls k x)) P wr hn (Uh HK).row (fun u v hu hv => by rw [tb_iff]; exact Uh HP u v hu hv))
   have hsz:=Uh HLt
   have HOr:=Hj ((Uh HO).chg (Uh HK).chg (show ¬ w.heap.size = wo.heap.size by omega))
   have HCw:=Hj cw
   clear cw hsz
   go_wp2_with fail
   refine (Uh KG).mono ?_
   rintro _ wk ⟨b1,d1,b2,d2,rfl,g1,g2,bk,f1,f2⟩
   have hOk:=(Uh HOr).below bk
   have q0:=(hOk.all 0 _ rfl).1
   have q1:=(hOk.all 1 _ rfl).1
   have q2:=(hOk.all 2 _ rfl).1
   have q3:=(hOk.all 3 _ rfl).1
   have r0:=(hOk.all 0 _ rfl).2
   have r1:=(hOk.all 1 _ rfl).2
   have r2:=(hOk.all 2 _ rfl).2
   have r3:=(hOk.all 3 _ rfl).2
   have HOk:=Hj hOk
   have HG:=Hj (And.intro g1 g2)
   have HBK:=Hj bk
   have HFr:=Hj (And.intro f1 f2)
   clear hOk g1 g2 bk KG f1 f2
   go_wp2_with fail
   have hf:=((((Uh HOk).put 0 (.int .i64 (n:Int))).put 1 (.int .i64 (n:Int))).put 2 (.slice b1 (grS P n n).length d1)).put 3 (.slice b2 (grC P n n).length d2)
   have t0:=(hf.all 0 _ rfl).1
   have t1:=(hf.all 1 _ rfl).1
   have t2:=(hf.all 2 _ rfl).1
   have t3:=(hf.all 3 _ rfl).1
   have cc:Chg (fun j => j = w.heap.size) wk ((((wk.setCell ⟨w.heap.size,0,none⟩ (.int .i64 (n:Int))).setCell ⟨w.heap.size,1,none⟩ (.int .i64 (n:Int))).setCell ⟨w.heap.size,2,none⟩ (.slice b1 (grS P n n).length d1)).setCell ⟨w.heap.size,3,none⟩ (.slice b2 (grC P n n).length d2)):=(((Chg.of_set (S:=fun j => j = w.heap.size) _ _ _ _ rfl).trans (Chg.of_set (S:=fun j => j = w.heap.size) _ _ _ _ rfl)).trans (Chg.of_set (S:=fun j => j = w.heap.size) _ _ _ _ rfl)).trans (Chg.of_set (S:=fun j => j = w.heap.size) _ _ _ _ rfl)
   generalize (((wk.setCell ⟨w.heap.size,0,none⟩ (.int .i64 (n:Int))).setCell ⟨w.heap.size,1,none⟩ (.int .i64 (n:Int))).setCell ⟨w.heap.size,2,none⟩ (.slice b1 (grS P n n).length d1)).setCell ⟨w.heap.size,3,none⟩ (.slice b2 (grC P n n).length d2) = wf at *
   refine bodyPost_ret (by simp [results,Tryz.results123,go_sem,t0,t1,t2,t3]; try rfl) rfl ?_
   have hwr:w.heap.size < wr.heap.size:=(Uh HOr).lt
   have h9:=Uh HLt
   refine ⟨b1,d1,b2,d2,rfl,(Uh HG).1.chg cc (fun z hz _ e => ?_),(Uh HG).2.chg cc (fun z hz _ e => ?_),?_,fun z hz => ?_,fun z hz => ?_⟩
   ·have:=(Uh HFr).1 z hz; omega
   ·have:=(Uh HFr).2 z hz; omega
   ·exact (((Uh HCw).below (Nat.le_refl _) (fun j hj e => by omega)).trans ((Uh HBK).mono (Uh HCw).size)).trans (cc.below (Nat.le_trans (Uh HCw).size (Uh HBK).size) (fun j hj e => by omega))
   ·have:=(Uh HFr).1 z hz; omega
   ·have:=(Uh HFr).2 z hz; omega
def rowL (st cols:List Int) (i:Nat):List Int:=(cols.drop (st.getD i 0).toNat).take ((st.getD (i + 1) 0).toNat - (st.getD i 0).toNat)
def NrP (st cols:List Int) (k x:Nat):Prop:=∃ i,i < k ∧ (MeP (rowL st cols i) (rowL st cols i).length 0 x ∨ ∃ t,t < (rowL st cols i).length ∧ (i:Int) * 128 + (rowL st cols i).getD t 0 = (x:Int))
end Go.Proofs.YtgjokididdffhaaGreat
