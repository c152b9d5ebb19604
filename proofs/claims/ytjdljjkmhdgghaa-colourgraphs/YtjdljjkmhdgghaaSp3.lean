/- Sp3 -/
import Derived.Test.YtjdljjkmhdgghaaSp2
import Derived.Test.YtjdljjkmhdgghaaSa4
import Derived.Test.YtjdljjkmhdgghaaSi4
import Derived.Test.YtjdljjkmhdgghaaSj0
namespace Go.Proofs.Ytjdljjkmhdgghaa
open Go.RowKit Go.Deep
set_option linter.unusedVariables false
def RoV (w:World) (b n:Nat) (f:Nat → Value):Prop:=∀ i,i < n → w.cell? ⟨b,i,none⟩ = some (f i) ∧ w.frozen? ⟨b,i,none⟩ = false
theorem RoV.made (w:World) (n:Nat) (e:TypeId) (z:Value):RoV (w.alloc (.cells (madeCells #[z] n) e)) w.heap.size n (fun _ => z):=by
 intro i hi
 refine ⟨?_,by simp⟩
 simp [madeCells,hi,Nat.mod_one]
theorem RoV.chg {S:Nat → Prop} {w w':World} {b n:Nat} {f:Nat → Value} (h:RoV w b n f) (k:Chg S w w') (hs:¬ S b):RoV w' b n f:=fun i hi => ⟨k.cell hs (h i hi).1,by rw [k.frzP (World.block_lt_of_cell? _ _ (h i hi).1) hs]; exact (h i hi).2⟩
theorem RoV.below {w w':World} {b n:Nat} {f:Nat → Value} (h:RoV w b n f) (k:Below w.heap.size w w'):RoV w' b n f:=h.chg (S:=fun _ => False) (Chg.of_below k) (fun x => x)
theorem RoV.put {w:World} {b n:Nat} {f:Nat → Value} (h:RoV w b n f) (k:Nat) (v:Value) (hk:k < n):RoV (w.setCell ⟨b,k,none⟩ v) b n (fun i => if i = k then v else f i):=by
 intro i hi
 rw [World.frozen?_setCell]
 refine ⟨?_,(h i hi).2⟩
 by_cases e:i = k
 ·subst e
  simp only [if_true]
  exact World.cell?_setCell_same _ _ _ (h i hi).1
 ·simp only [e,if_false]
  rw [World.cell?_setCell_other _ _ _ _ (by intro c; simp at c; first | done | omega)]
  exact (h i hi).1
theorem RoV.congr {w:World} {b n:Nat} {f g:Nat → Value} (h:RoV w b n f) (e:∀ i,i < n → f i = g i):RoV w b n g:=fun i hi => by rw [← e i hi]; exact h i hi
noncomputable def tb (P:Prop):Bool:=@decide P (Classical.propDecidable P)
theorem tb_iff {P:Prop}:tb P = true ↔ P:=by unfold tb; exact @decide_eq_true_iff P (Classical.propDecidable P)
theorem tb_yes {P:Prop} (h:P):tb P = true:=tb_iff.2 h
theorem tb_no {P:Prop} (h:¬ P):tb P = false:=by cases hk:tb P; rfl; exact absurd (tb_iff.1 hk) h
theorem tb_congr {P Q:Prop} (h:P ↔ Q):tb P = tb Q:=by by_cases p:P; rw [tb_yes p,tb_yes (h.1 p)]; rw [tb_no p,tb_no (fun q => p (h.2 q))]
theorem Try.info_boolP:(Try.prog.info? 4).map (fun i => (i.zero,i.size,i.bytes)) = some (some (.bool false),1,1):=by kernel_rfl
theorem make_boolsP (n:Nat) (hn:n ≤ 35184372088000) (w:World):(Instr.makeSlice 53 (.int .i64 (n:Int)) (.int .i64 (n:Int))).run Try.prog w = .ok (.slice (some ⟨w.heap.size,0,none⟩) n n) (w.alloc (.cells (madeCells #[.bool false] n) 4)) :=
 run_make_row' (P:=Try.prog) 53 4 (.bool false) 1 Try.underlying53 Try.info_boolP rfl .i64 .i64 n (by omega) (by omega) w
def gridV (rows width:Nat) (b n:Nat):Value:=.agg #[.int .i64 (rows:Int),.int .i64 (width:Int),.slice (some ⟨b,0,none⟩) n n]
set_option maxRecDepth 100000 in
set_option maxHeartbeats 16000000 in
theorem wempty_any (rows width:Nat) (w:World) (hr:rows ≤ 128) (hw:width ≤ 128) :
  Calls Try.prog 51 #[.int .i64 (rows:Int),.int .i64 (width:Int)] w fun e w' => ∃ b,e = .returned (gridV rows width b (rows * width)) ∧ w.heap.size ≤ b ∧ b < w'.heap.size ∧ RoV w' b (rows * width) (fun _ => .bool false) ∧ Below w.heap.size w w':=by
 obtain ⟨m,hm⟩:∃ m,rows * width = m:=⟨_,rfl⟩
 have hm1:(rows:Int) * (width:Int) = (m:Int):=by rw [← hm]; simp
 have hm2:m ≤ 16384:=by rw [← hm]; exact Nat.mul_le_mul hr hw
 have hmk:=make_boolsP m (by omega)
 rw [hm]
 have HM:=Hj hm
 clear hm
 have hT0:=BoxP.made w #[.int .i64 0,.int .i64 0,.slice none 0 0] 79
 obtain ⟨wo,hwo⟩:∃ x,w.alloc (.cells #[.int .i64 0,.int .i64 0,.slice none 0 0] 79) = x:=⟨_,rfl⟩
 have hbo:Below w.heap.size w wo:=by rw [← hwo]; exact bAl
 rw [hwo] at hT0
 have hR:=RoV.made wo m 4 (.bool false)
 obtain ⟨wm,hwm⟩:∃ x,wo.alloc (.cells (madeCells #[.bool false] m) 4) = x:=⟨_,rfl⟩
 have hbm:Below wo.heap.size wo wm:=by rw [← hwm]; exact bAl
 rw [hwm] at hR
 have hT:=hT0.below hbm
 have q0:=(hT.all 0 _ rfl).1
 have q1:=(hT.all 1 _ rfl).1
 have q2:=(hT.all 2 _ rfl).1
 have r0:=(hT.all 0 _ rfl).2
 have r1:=(hT.all 1 _ rfl).2
 have r2:=(hT.all 2 _ rfl).2
 have hmk2:=hmk wo
 rw [hwm] at hmk2
 have HT:=Hj hT
 have HR:=Hj hR
 have HB:=Hj (hbo.trans (hbm.mono hbo.size))
 have HLT:=Hj (show w.heap.size < wo.heap.size ∧ wo.heap.size < wm.heap.size from ⟨hT0.lt,by rw [← hwm]; simp⟩)
 clear hT hT0 hR hbo hbm hmk
 go_enter Try.func51,Try.ntmps51
 go_wp2_with fail
 have hf:=(((Uh HT).put 0 (.int .i64 (rows:Int))).put 1 (.int .i64 (width:Int))).put 2 (.slice (some ⟨wo.heap.size,0,none⟩) m m)
 have t0:=(hf.all 0 _ rfl).1
 have t1:=(hf.all 1 _ rfl).1
 have t2:=(hf.all 2 _ rfl).1
 have c3:Chg (fun j => j = w.heap.size) wm (((wm.setCell ⟨w.heap.size,0,none⟩ (.int .i64 (rows:Int))).setCell ⟨w.heap.size,1,none⟩ (.int .i64 (width:Int))).setCell ⟨w.heap.size,2,none⟩ (.slice (some ⟨wo.heap.size,0,none⟩) m m)):=((Chg.of_set (S:=fun j => j = w.heap.size) _ _ _ _ rfl).trans (Chg.of_set (S:=fun j => j = w.heap.size) _ _ _ _ rfl)).trans (Chg.of_set (S:=fun j => j = w.heap.size) _ _ _ _ rfl)
 generalize ((wm.setCell ⟨w.heap.size,0,none⟩ (.int .i64 (rows:Int))).setCell ⟨w.heap.size,1,none⟩ (.int .i64 (width:Int))).setCell ⟨w.heap.size,2,none⟩ (.slice (some ⟨wo.heap.size,0,none⟩) m m) = wf at *
 refine bodyPost_ret (by simp [results,Try.results51,go_sem,t0,t1,t2]; try rfl) rfl ?_
 exact ⟨wo.heap.size,rfl,Nat.le_of_lt (Uh HLT).1,Nat.lt_of_lt_of_le (Uh HLT).2 c3.size,(Uh HR).chg c3 (fun e => by have:=Uh HLT; omega),(Uh HB).trans (c3.below (Uh HB).size (fun k hk e => by omega))⟩
set_option maxRecDepth 100000 in
set_option maxHeartbeats 16000000 in
theorem wat_any (rows width b n r c:Nat) (P:Nat → Bool) (w:World) (hw:width ≤ 128) (hr:r < 128) (hc:c < 128) (hn:r * width + c < n) (hn2:n ≤ 16384) (hR:RoV w b n (fun i => .bool (P i))) :
  Calls Try.prog 41 #[gridV rows width b n,.int .i64 (r:Int),.int .i64 (c:Int)] w fun e w' => e = .returned (.bool (P (r * width + c))) ∧ Below w.heap.size w w':=by
 obtain ⟨wb,hwb⟩:∃ x,w.alloc (.cells #[.int .i64 (rows:Int),.int .i64 (width:Int),.slice (some ⟨b,0,none⟩) n n] 79) = x:=⟨_,rfl⟩
 have bb:Below w.heap.size w wb:=by rw [← hwb]; exact bAl
 have hT:=BoxP.made w #[.int .i64 (rows:Int),.int .i64 (width:Int),.slice (some ⟨b,0,none⟩) n n] 79
 rw [hwb] at hT
 have q0:=(hT.all 0 _ rfl).1
 have q1:=(hT.all 1 _ rfl).1
 have q2:=(hT.all 2 _ rfl).1
 obtain ⟨m,hm⟩:∃ m,r * width = m:=⟨_,rfl⟩
 obtain ⟨x,hx⟩:∃ x,m + c = x:=⟨_,rfl⟩
 have hm1:(r:Int) * (width:Int) = (m:Int):=by rw [← hm]; simp
 have hx1:(m:Int) + (c:Int) = (x:Int):=by omega
 rw [hm,hx] at hn ⊢
 have hxn:(x:Int) < (n:Int):=by omega
 have hcell:=((hR.below bb) x hn).1
 have hm2:m ≤ 16384:=by rw [← hm]; exact Nat.le_trans (Nat.mul_le_mul (Nat.le_of_lt hr) hw) (by omega)
 obtain ⟨v,hv⟩:∃ v,P x = v:=⟨_,rfl⟩
 rw [hv] at hcell ⊢
 have HB:=Hj bb
 clear bb hT hR hm hx hv
 unfold gridV
 go_enter Try.func41,Try.ntmps41
 go_wp2_with fail
 go_ret
 exact ⟨rfl,Uh HB⟩
end Go.Proofs.Ytjdljjkmhdgghaa
