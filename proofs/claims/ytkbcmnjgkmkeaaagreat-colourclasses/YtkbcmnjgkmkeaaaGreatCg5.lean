/- Cg5 -/
import Derived.Test.YtkbcmnjgkmkeaaaGreatCg4
namespace Go.Proofs.YtkbcmnjgkmkeaaaGreat
open Go.RowKit Go.Deep
set_option linter.unusedVariables false
theorem Tryz.info_listI:(Tryz.prog.info? 22).map (fun i => (i.zero,i.size,i.bytes)) = some (some (.slice none 0 0),1,24):=by kernel_rfl
theorem make_listsI (n:Nat) (hn:n ≤ 1000000000) (w:World):(Instr.makeSlice 25 (.int .i64 (n:Int)) (.int .i64 (n:Int))).run Tryz.prog w = .ok (.slice (some ⟨w.heap.size,0,none⟩) n n) (w.alloc (.cells (madeCells #[.slice none 0 0] n) 22)) :=
 run_make_row' (P:=Tryz.prog) 25 22 (.slice none 0 0) 24 Tryz.underlying25 Tryz.info_listI rfl .i64 .i64 n (by omega) (by omega) w
def rowV (st:List Int) (a2:Option Addr) (c2:Nat) (i:Nat):Value:=subV a2 c2 (st.getD i 0).toNat (st.getD (i + 1) 0).toNat
set_option maxRecDepth 100000 in
set_option maxHeartbeats 16000000 in
theorem crows_any (R:Nat) (width:Int) (a1 a2:Option Addr) (n1 c1 n2 c2:Nat) (st cols:List Int) (w:World) (h1:SlI w a1 n1 c1 st) (h2:SlI w a2 n2 c2 cols) (hb1:n1 ≤ 17592186044416) (hb2:n2 ≤ 17592186044416) (hm:MayP (R:Int) width st cols) :
  Calls Tryz.prog 70 #[patV (R:Int) width a1 n1 c1 a2 n2 c2] w fun e w' => ∃ b,w.heap.size ≤ b ∧ e = .returned (.slice (some ⟨b,0,none⟩) R R) ∧ RoV w' b R (rowV st a2 c2) ∧ Below w.heap.size w w':=by
 obtain ⟨wb,hwb⟩:∃ x,w.alloc (.cells #[.int .i64 (R:Int),.int .i64 width,.slice a1 n1 c1,.slice a2 n2 c2] 61) = x:=⟨_,rfl⟩
 have bb:Below w.heap.size w wb:=by rw [← hwb]; exact bAl
 have hT:=BoxP.made w #[.int .i64 (R:Int),.int .i64 width,.slice a1 n1 c1,.slice a2 n2 c2] 61
 rw [hwb] at hT
 have p0:=(hT.all 0 _ rfl).1
 have hfit:=hm.head.fit
 have hR8:R ≤ 128:=by omega
 have hmk:=make_listsI R (by omega) wb
 have hR:=RoV.made wb R 22 (.slice none 0 0)
 obtain ⟨wm,hwm⟩:∃ x,wb.alloc (.cells (madeCells #[.slice none 0 0] R) 22) = x:=⟨_,rfl⟩
 have bm:Below wb.heap.size wb wm:=by rw [← hwm]; exact bAl
 rw [hwm] at hR hmk
 have hbl:wb.heap.size < wm.heap.size:=by rw [← hwm]; simp
 have hwl:w.heap.size < wb.heap.size:=hT.lt
 have HT:=Hj (hT.below bm)
 have HR:=Hj hR
 have HB:=Hj (bb.trans (bm.mono bb.size))
 have HS:=Hj (And.intro h1 h2)
 have HM:=Hj hm
 have HL:=Hj (And.intro hbl hwl)
 clear hT bb bm hR hm h1 h2 hfit hbl hwl
 unfold patV
 go_enter Tryz.func70,Tryz.ntmps70
 go_wp2_with fail
 go_loopw [10,4] (fun kv _ wr => ∃ k:Nat,k ≤ R ∧ kv = .int .i64 (k:Int) ∧ Hid (RoV wr wb.heap.size R (fun i => if i < k then rowV st a2 c2 i else .slice none 0 0)) ∧ Hid (BoxP wr w.heap.size [.int .i64 (R:Int),.int .i64 width,.slice a1 n1 c1,.slice a2 n2 c2]) ∧ Hid (Below w.heap.size w wr)) (fun kv _ _ => R - (intOf kv).toNat)
 case atStart =>
  exact ⟨0,Nat.zero_le _,rfl,HR,HT,HB⟩
 case round =>
  obtain ⟨k,hk,rfl,HK,HX,HW⟩:=hrel
  by_cases hlt:k < R
  ·have hlt':(k:Int) < (R:Int):=by omega
   obtain ⟨X,Y,hRow⟩:=(Uh HM).rowAt (k:=k) hlt'
   have KR:=Hj (crow_any R width a1 a2 n1 c1 n2 c2 st cols k X Y wr ((Uh HS).1.below (Uh HW)) ((Uh HS).2.below (Uh HW)) hb1 hb2 (Uh HM) hlt hRow)
   unfold patV at KR
   have hV:rowV st a2 c2 k = subV a2 c2 X Y:=by unfold rowV; rw [hRow.hX,hRow.hY]; simp
   unfold subV at KR hV
   obtain ⟨A,hA⟩:∃ A,(if c2 = X then a2 else Option.map (fun x => x.add X) a2) = A:=⟨_,rfl⟩
   rw [hA] at KR hV
   obtain ⟨m,hmm⟩:∃ m,Y - X = m:=⟨_,rfl⟩
   obtain ⟨d,hdd⟩:∃ d,c2 - X = d:=⟨_,rfl⟩
   rw [hmm,hdd] at KR hV
   have HV:=Hj hV
   clear hA hmm hdd
   have q0:=((Uh HX).all 0 _ rfl).1
   have q1:=((Uh HX).all 1 _ rfl).1
   have q2:=((Uh HX).all 2 _ rfl).1
   have q3:=((Uh HX).all 3 _ rfl).1
   clear hV hRow p0
   go_wp2_with fail
   refine (Uh KR).mono ?_
   rintro _ wk ⟨rfl,bk⟩
   have hKk:=(Uh HK).below bk
   have hc1:=(hKk k hlt).1
   have hc2:=(hKk k hlt).2
   simp only [Nat.lt_irrefl,if_false] at hc1
   have HN:=Hj (show RoV (wk.setCell ⟨wb.heap.size,k,none⟩ (.slice A m d)) wb.heap.size R (fun i => if i < k + 1 then rowV st a2 c2 i else .slice none 0 0) from (hKk.put k (.slice A m d) hlt).congr (fun i hi => by
    by_cases e:i = k
    ·subst e
     simp only [if_true,Nat.lt_succ_self]
     exact (Uh HV).symm
    ·simp only [if_neg e]
     by_cases e2:i < k
     ·rw [if_pos e2,if_pos (by omega)]
     ·rw [if_neg e2,if_neg (by omega)]))
   have HN2:=Hj (((Uh HX).below bk).other (Y:=wb.heap.size) k (.slice A m d) (by have:=Uh HL; omega))
   have HN3:=Hj (show Below w.heap.size w (wk.setCell ⟨wb.heap.size,k,none⟩ (.slice A m d)) from ((Uh HW).trans (bk.mono (Uh HW).size)).trans ((Chg.of_set (S:=fun j => j = wb.heap.size) _ _ _ _ rfl).below (Nat.le_trans (Uh HW).size bk.size) (fun j hj e => by have:=Uh HL; omega)))
   clear hKk bk KR q0 q1 q2 q3
   go_wp2_with fail
   exact ⟨⟨k + 1,by omega,by (first | rfl | go_num),HN,HN2,HN3⟩,by simp [intOf]; omega⟩
  ·obtain rfl:k = R:=by omega
   have hlt':¬ (k:Int) < (k:Int):=by omega
   go_wp2_with fail
   go_ret
   exact ⟨_,Nat.le_of_lt (Uh HL).2,rfl,(Uh HK).congr (fun i hi => by simp [hi]),Uh HW⟩
end Go.Proofs.YtkbcmnjgkmkeaaaGreat
