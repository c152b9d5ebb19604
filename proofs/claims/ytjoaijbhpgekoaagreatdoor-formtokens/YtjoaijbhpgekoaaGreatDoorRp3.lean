/- Rp3 -/
import Derived.Test.YtjoaijbhpgekoaaGreatDoorFt2
import Derived.Test.YtjoaijbhpgekoaaGreatDoorGiv2
import Derived.Test.YtjoaijbhpgekoaaGreatDoorRq0
namespace Go.Proofs.YtjoaijbhpgekoaaGreatDoor
open Go.RowKit Go.Deep
set_option linter.unusedVariables false
theorem addr_ne {R Q i j:Nat} (h:R ≠ Q):(⟨R,i,none⟩:Addr) ≠ ⟨Q,j,none⟩:=fun e => h (congrArg Addr.block e)
structure Sv (w:World) (R:Nat) (v0 v1 v2 v3 v4 v5 v6:Value):Prop where
 c0:w.cell? ⟨R,0,none⟩ = some v0
 c1:w.cell? ⟨R,1,none⟩ = some v1
 c2:w.cell? ⟨R,2,none⟩ = some v2
 c3:w.cell? ⟨R,3,none⟩ = some v3
 c4:w.cell? ⟨R,4,none⟩ = some v4
 c5:w.cell? ⟨R,5,none⟩ = some v5
 c6:w.cell? ⟨R,6,none⟩ = some v6
 f0:w.frozen? ⟨R,0,none⟩ = false
 f1:w.frozen? ⟨R,1,none⟩ = false
 f2:w.frozen? ⟨R,2,none⟩ = false
 f3:w.frozen? ⟨R,3,none⟩ = false
 f4:w.frozen? ⟨R,4,none⟩ = false
 f5:w.frozen? ⟨R,5,none⟩ = false
 f6:w.frozen? ⟨R,6,none⟩ = false
theorem Sv.lt {w:World} {R:Nat} {v0 v1 v2 v3 v4 v5 v6:Value} (h:Sv w R v0 v1 v2 v3 v4 v5 v6):R < w.heap.size:=World.block_lt_of_cell? _ _ h.c0
theorem Sv.made (w:World) (v0 v1 v2 v3 v4 v5 v6:Value) (e:TypeId):Sv (w.alloc (.cells #[v0,v1,v2,v3,v4,v5,v6] e)) w.heap.size v0 v1 v2 v3 v4 v5 v6:=⟨by simp,by simp,by simp,by simp,by simp,by simp,by simp,by simp,by simp,by simp,by simp,by simp,by simp,by simp⟩
theorem Sv.keep {w w':World} {R:Nat} {v0 v1 v2 v3 v4 v5 v6:Value} (h:Sv w R v0 v1 v2 v3 v4 v5 v6) (k:Below w.heap.size w w'):Sv w' R v0 v1 v2 v3 v4 v5 v6:=by
 have hc:∀ i,w'.cell? ⟨R,i,none⟩ = w.cell? ⟨R,i,none⟩:=fun i => by unfold World.cell?; simp only; rw [k.block _ h.lt]
 have hf:∀ i,w'.frozen? ⟨R,i,none⟩ = w.frozen? ⟨R,i,none⟩:=fun i => by unfold World.frozen?; simp only; rw [k.block _ h.lt]
 exact ⟨(hc 0).trans h.c0,(hc 1).trans h.c1,(hc 2).trans h.c2,(hc 3).trans h.c3,(hc 4).trans h.c4,(hc 5).trans h.c5,(hc 6).trans h.c6,(hf 0).trans h.f0,(hf 1).trans h.f1,(hf 2).trans h.f2,(hf 3).trans h.f3,(hf 4).trans h.f4,(hf 5).trans h.f5,(hf 6).trans h.f6⟩
theorem Sv.far {w:World} {R Q j:Nat} {v0 v1 v2 v3 v4 v5 v6:Value} (h:Sv w R v0 v1 v2 v3 v4 v5 v6) (hn:R ≠ Q) (u:Value):Sv (w.setCell ⟨Q,j,none⟩ u) R v0 v1 v2 v3 v4 v5 v6 :=
 ⟨by rw [World.cell?_setCell_other _ _ _ _ (by first | exact addr_ne hn | exact addr_ne hn.symm)]; exact h.c0,by rw [World.cell?_setCell_other _ _ _ _ (by first | exact addr_ne hn | exact addr_ne hn.symm)]; exact h.c1,by rw [World.cell?_setCell_other _ _ _ _ (by first | exact addr_ne hn | exact addr_ne hn.symm)]; exact h.c2,by rw [World.cell?_setCell_other _ _ _ _ (by first | exact addr_ne hn | exact addr_ne hn.symm)]; exact h.c3,by rw [World.cell?_setCell_other _ _ _ _ (by first | exact addr_ne hn | exact addr_ne hn.symm)]; exact h.c4,by rw [World.cell?_setCell_other _ _ _ _ (by first | exact addr_ne hn | exact addr_ne hn.symm)]; exact h.c5,by rw [World.cell?_setCell_other _ _ _ _ (by first | exact addr_ne hn | exact addr_ne hn.symm)]; exact h.c6,by rw [World.frozen?_setCell]; exact h.f0,by rw [World.frozen?_setCell]; exact h.f1,by rw [World.frozen?_setCell]; exact h.f2,by rw [World.frozen?_setCell]; exact h.f3,by rw [World.frozen?_setCell]; exact h.f4,by rw [World.frozen?_setCell]; exact h.f5,by rw [World.frozen?_setCell]; exact h.f6⟩
theorem Sv.put0 {w:World} {R:Nat} {v0 v1 v2 v3 v4 v5 v6:Value} (h:Sv w R v0 v1 v2 v3 v4 v5 v6) (u:Value):Sv (w.setCell ⟨R,0,none⟩ u) R u v1 v2 v3 v4 v5 v6 :=
 ⟨World.cell?_setCell_same _ _ _ h.c0,by rw [World.cell?_setCell_other _ _ _ _ (by simp)]; exact h.c1,by rw [World.cell?_setCell_other _ _ _ _ (by simp)]; exact h.c2,by rw [World.cell?_setCell_other _ _ _ _ (by simp)]; exact h.c3,by rw [World.cell?_setCell_other _ _ _ _ (by simp)]; exact h.c4,by rw [World.cell?_setCell_other _ _ _ _ (by simp)]; exact h.c5,by rw [World.cell?_setCell_other _ _ _ _ (by simp)]; exact h.c6,by rw [World.frozen?_setCell]; exact h.f0,by rw [World.frozen?_setCell]; exact h.f1,by rw [World.frozen?_setCell]; exact h.f2,by rw [World.frozen?_setCell]; exact h.f3,by rw [World.frozen?_setCell]; exact h.f4,by rw [World.frozen?_setCell]; exact h.f5,by rw [World.frozen?_setCell]; exact h.f6⟩
theorem Sv.put1 {w:World} {R:Nat} {v0 v1 v2 v3 v4 v5 v6:Value} (h:Sv w R v0 v1 v2 v3 v4 v5 v6) (u:Value):Sv (w.setCell ⟨R,1,none⟩ u) R v0 u v2 v3 v4 v5 v6 :=
 ⟨by rw [World.cell?_setCell_other _ _ _ _ (by simp)]; exact h.c0,World.cell?_setCell_same _ _ _ h.c1,by rw [World.cell?_setCell_other _ _ _ _ (by simp)]; exact h.c2,by rw [World.cell?_setCell_other _ _ _ _ (by simp)]; exact h.c3,by rw [World.cell?_setCell_other _ _ _ _ (by simp)]; exact h.c4,by rw [World.cell?_setCell_other _ _ _ _ (by simp)]; exact h.c5,by rw [World.cell?_setCell_other _ _ _ _ (by simp)]; exact h.c6,by rw [World.frozen?_setCell]; exact h.f0,by rw [World.frozen?_setCell]; exact h.f1,by rw [World.frozen?_setCell]; exact h.f2,by rw [World.frozen?_setCell]; exact h.f3,by rw [World.frozen?_setCell]; exact h.f4,by rw [World.frozen?_setCell]; exact h.f5,by rw [World.frozen?_setCell]; exact h.f6⟩
theorem Sv.put2 {w:World} {R:Nat} {v0 v1 v2 v3 v4 v5 v6:Value} (h:Sv w R v0 v1 v2 v3 v4 v5 v6) (u:Value):Sv (w.setCell ⟨R,2,none⟩ u) R v0 v1 u v3 v4 v5 v6 :=
 ⟨by rw [World.cell?_setCell_other _ _ _ _ (by simp)]; exact h.c0,by rw [World.cell?_setCell_other _ _ _ _ (by simp)]; exact h.c1,World.cell?_setCell_same _ _ _ h.c2,by rw [World.cell?_setCell_other _ _ _ _ (by simp)]; exact h.c3,by rw [World.cell?_setCell_other _ _ _ _ (by simp)]; exact h.c4,by rw [World.cell?_setCell_other _ _ _ _ (by simp)]; exact h.c5,by rw [World.cell?_setCell_other _ _ _ _ (by simp)]; exact h.c6,by rw [World.frozen?_setCell]; exact h.f0,by rw [World.frozen?_setCell]; exact h.f1,by rw [World.frozen?_setCell]; exact h.f2,by rw [World.frozen?_setCell]; exact h.f3,by rw [World.frozen?_setCell]; exact h.f4,by rw [World.frozen?_setCell]; exact h.f5,by rw [World.frozen?_setCell]; exact h.f6⟩
theorem Sv.put3 {w:World} {R:Nat} {v0 v1 v2 v3 v4 v5 v6:Value} (h:Sv w R v0 v1 v2 v3 v4 v5 v6) (u:Value):Sv (w.setCell ⟨R,3,none⟩ u) R v0 v1 v2 u v4 v5 v6 :=
 ⟨by rw [World.cell?_setCell_other _ _ _ _ (by simp)]; exact h.c0,by rw [World.cell?_setCell_other _ _ _ _ (by simp)]; exact h.c1,by rw [World.cell?_setCell_other _ _ _ _ (by simp)]; exact h.c2,World.cell?_setCell_same _ _ _ h.c3,by rw [World.cell?_setCell_other _ _ _ _ (by simp)]; exact h.c4,by rw [World.cell?_setCell_other _ _ _ _ (by simp)]; exact h.c5,by rw [World.cell?_setCell_other _ _ _ _ (by simp)]; exact h.c6,by rw [World.frozen?_setCell]; exact h.f0,by rw [World.frozen?_setCell]; exact h.f1,by rw [World.frozen?_setCell]; exact h.f2,by rw [World.frozen?_setCell]; exact h.f3,by rw [World.frozen?_setCell]; exact h.f4,by rw [World.frozen?_setCell]; exact h.f5,by rw [World.frozen?_setCell]; exact h.f6⟩
theorem Sv.put4 {w:World} {R:Nat} {v0 v1 v2 v3 v4 v5 v6:Value} (h:Sv w R v0 v1 v2 v3 v4 v5 v6) (u:Value):Sv (w.setCell ⟨R,4,none⟩ u) R v0 v1 v2 v3 u v5 v6 :=
 ⟨by rw [World.cell?_setCell_other _ _ _ _ (by simp)]; exact h.c0,by rw [World.cell?_setCell_other _ _ _ _ (by simp)]; exact h.c1,by rw [World.cell?_setCell_other _ _ _ _ (by simp)]; exact h.c2,by rw [World.cell?_setCell_other _ _ _ _ (by simp)]; exact h.c3,World.cell?_setCell_same _ _ _ h.c4,by rw [World.cell?_setCell_other _ _ _ _ (by simp)]; exact h.c5,by rw [World.cell?_setCell_other _ _ _ _ (by simp)]; exact h.c6,by rw [World.frozen?_setCell]; exact h.f0,by rw [World.frozen?_setCell]; exact h.f1,by rw [World.frozen?_setCell]; exact h.f2,by rw [World.frozen?_setCell]; exact h.f3,by rw [World.frozen?_setCell]; exact h.f4,by rw [World.frozen?_setCell]; exact h.f5,by rw [World.frozen?_setCell]; exact h.f6⟩
theorem Sv.put5 {w:World} {R:Nat} {v0 v1 v2 v3 v4 v5 v6:Value} (h:Sv w R v0 v1 v2 v3 v4 v5 v6) (u:Value):Sv (w.setCell ⟨R,5,none⟩ u) R v0 v1 v2 v3 v4 u v6 :=
 ⟨by rw [World.cell?_setCell_other _ _ _ _ (by simp)]; exact h.c0,by rw [World.cell?_setCell_other _ _ _ _ (by simp)]; exact h.c1,by rw [World.cell?_setCell_other _ _ _ _ (by simp)]; exact h.c2,by rw [World.cell?_setCell_other _ _ _ _ (by simp)]; exact h.c3,by rw [World.cell?_setCell_other _ _ _ _ (by simp)]; exact h.c4,World.cell?_setCell_same _ _ _ h.c5,by rw [World.cell?_setCell_other _ _ _ _ (by simp)]; exact h.c6,by rw [World.frozen?_setCell]; exact h.f0,by rw [World.frozen?_setCell]; exact h.f1,by rw [World.frozen?_setCell]; exact h.f2,by rw [World.frozen?_setCell]; exact h.f3,by rw [World.frozen?_setCell]; exact h.f4,by rw [World.frozen?_setCell]; exact h.f5,by rw [World.frozen?_setCell]; exact h.f6⟩
theorem Sv.put6 {w:World} {R:Nat} {v0 v1 v2 v3 v4 v5 v6:Value} (h:Sv w R v0 v1 v2 v3 v4 v5 v6) (u:Value):Sv (w.setCell ⟨R,6,none⟩ u) R v0 v1 v2 v3 v4 v5 u :=
 ⟨by rw [World.cell?_setCell_other _ _ _ _ (by simp)]; exact h.c0,by rw [World.cell?_setCell_other _ _ _ _ (by simp)]; exact h.c1,by rw [World.cell?_setCell_other _ _ _ _ (by simp)]; exact h.c2,by rw [World.cell?_setCell_other _ _ _ _ (by simp)]; exact h.c3,by rw [World.cell?_setCell_other _ _ _ _ (by simp)]; exact h.c4,by rw [World.cell?_setCell_other _ _ _ _ (by simp)]; exact h.c5,World.cell?_setCell_same _ _ _ h.c6,by rw [World.frozen?_setCell]; exact h.f0,by rw [World.frozen?_setCell]; exact h.f1,by rw [World.frozen?_setCell]; exact h.f2,by rw [World.frozen?_setCell]; exact h.f3,by rw [World.frozen?_setCell]; exact h.f4,by rw [World.frozen?_setCell]; exact h.f5,by rw [World.frozen?_setCell]; exact h.f6⟩
theorem below_put {w wr:World} {R i:Nat} {v:Value} (h:Below w.heap.size w wr) (hR:w.heap.size ≤ R):Below w.heap.size w (wr.setCell ⟨R,i,none⟩ v) :=
 h.trans ((Chg.of_set (S:=fun j => j = R) wr R i v rfl).below h.size (fun k hk e => by omega))
def TabBh (w:World):Prop:=∀ a b:Nat,a < 12 → b < 8 → w.cell? ⟨0,a * 8 + b,none⟩ = some (.int .u8 (nxS a b:Nat))
theorem TabBh.below {w w':World} (h:TabBh w) (k:Below w.heap.size w w'):TabBh w':=fun a b ha hb => by
 have:=h a b ha hb
 exact (ck k this)
theorem lastS_none0 {s:ByteArray} {v:Nat}:∀ {N:Nat},(∀ j,j < N → stS s (j + 1) ≠ v) → lastS s v N = 0
 | 0,_ => rfl
 | N + 1,h => by
  unfold lastS
  rw [if_neg (h N (Nat.lt_succ_self N))]
  exact lastS_none0 fun j hj => h j (by omega)
structure TkI (w wr:World) (s:ByteArray) (Ro Rp i:Nat):Prop where
 p:Sv wr Rp (.bool (hasS s 2 i)) (.string ⟨#[]⟩) (.int .i64 (lastS s 4 i:Nat)) (.string ⟨#[]⟩) (.string ⟨#[]⟩) (.int .i64 (lastS s 8 i:Nat)) (.string ⟨#[]⟩)
 o:Sv wr Ro (.bool false) (.string ⟨#[]⟩) (.int .i64 0) (.string ⟨#[]⟩) (.string ⟨#[]⟩) (.int .i64 0) (.string ⟨#[]⟩)
 bel:Below w.heap.size w wr
 hp:w.heap.size ≤ Rp
 ne:Ro ≠ Rp
theorem TkI.keep {w wr w':World} {s:ByteArray} {Ro Rp i:Nat} (h:TkI w wr s Ro Rp i) (k:Below wr.heap.size wr w'):TkI w w' s Ro Rp i:=⟨h.p.keep k,h.o.keep k,h.bel.trans (k.mono h.bel.size),h.hp,h.ne⟩
theorem TkI.same {w wr:World} {s:ByteArray} {Ro Rp i:Nat} (h:TkI w wr s Ro Rp i) (h2:stS s (i + 1) ≠ 2) (h4:stS s (i + 1) ≠ 4) (h8:stS s (i + 1) ≠ 8):TkI w wr s Ro Rp (i + 1):=by
 have a:hasS s 2 (i + 1) = hasS s 2 i:=by conv => lhs; unfold hasS; rw [if_neg h2]
 have b:lastS s 4 (i + 1) = lastS s 4 i:=by conv => lhs; unfold lastS; rw [if_neg h4]
 have c:lastS s 8 (i + 1) = lastS s 8 i:=by conv => lhs; unfold lastS; rw [if_neg h8]
 exact ⟨by rw [a,b,c]; exact h.p,h.o,h.bel,h.hp,h.ne⟩
theorem TkI.neg {w wr:World} {s:ByteArray} {Ro Rp i:Nat} (h:TkI w wr s Ro Rp i) (h2:stS s (i + 1) = 2):TkI w (wr.setCell ⟨Rp,0,none⟩ (.bool true)) s Ro Rp (i + 1):=by
 have a:hasS s 2 (i + 1) = true:=by unfold hasS; rw [if_pos h2]
 have b:lastS s 4 (i + 1) = lastS s 4 i:=by conv => lhs; unfold lastS; rw [if_neg (by omega)]
 have c:lastS s 8 (i + 1) = lastS s 8 i:=by conv => lhs; unfold lastS; rw [if_neg (by omega)]
 exact ⟨by rw [a,b,c]; exact h.p.put0 _,h.o.far h.ne _,below_put h.bel h.hp,h.hp,h.ne⟩
theorem TkI.slash {w wr:World} {s:ByteArray} {Ro Rp i:Nat} (h:TkI w wr s Ro Rp i) (h4:stS s (i + 1) = 4):TkI w (wr.setCell ⟨Rp,2,none⟩ (.int .i64 (i:Nat))) s Ro Rp (i + 1):=by
 have a:hasS s 2 (i + 1) = hasS s 2 i:=by conv => lhs; unfold hasS; rw [if_neg (by omega)]
 have b:lastS s 4 (i + 1) = i:=by unfold lastS; rw [if_pos h4]
 have c:lastS s 8 (i + 1) = lastS s 8 i:=by conv => lhs; unfold lastS; rw [if_neg (by omega)]
 exact ⟨by rw [a,b,c]; exact h.p.put2 _,h.o.far h.ne _,below_put h.bel h.hp,h.hp,h.ne⟩

set_option maxRecDepth 100000 in
set_option maxHeartbeats 16000000 in
theorem takeApart_z (s D:ByteArray) (w:World) (hs:s.size ≤ 65536) (hT:TabBh w) (hf:∀ j,j ≤ s.size → stS s (j + 1) ≠ 0 ∧ stS s (j + 1) ≠ 6 ∧ stS s (j + 1) ≠ 8) (SL:Nat) (hSL:lastS s 4 (s.size + 1) = SL) (h0:SL = 0)
  (hD:∀ W,Calls Tryz.prog 55 #[.string s,.string ⟨#[45]⟩] W fun e w' => e = .returned (.string D) ∧ w' = W) :
  Calls Tryz.prog 36 #[.string s] w fun e w' => e = .returned (.tuple #[.agg #[.bool (hasS s 2 (s.size + 1)),.string D,.int .i64 (SL:Nat),.string ⟨#[]⟩,.string ⟨#[]⟩,.int .i64 0,.string ⟨#[]⟩],.int .i64 0,.bool true]) ∧ Below w.heap.size w w':=by
 obtain ⟨wo,hwo⟩:∃ x,w.alloc (.cells #[.bool false,.string ⟨#[]⟩,.int .i64 0,.string ⟨#[]⟩,.string ⟨#[]⟩,.int .i64 0,.string ⟨#[]⟩] 73) = x:=⟨_,rfl⟩
 obtain ⟨wp,hwp⟩:∃ x,wo.alloc (.cells #[.bool false,.string ⟨#[]⟩,.int .i64 0,.string ⟨#[]⟩,.string ⟨#[]⟩,.int .i64 0,.string ⟨#[]⟩] 73) = x:=⟨_,rfl⟩
 have bo:Below w.heap.size w wo:=by rw [← hwo]; exact bAl
 have bp:Below wo.heap.size wo wp:=by rw [← hwp]; exact bAl
 have so:=Sv.made w (.bool false) (.string ⟨#[]⟩) (.int .i64 0) (.string ⟨#[]⟩) (.string ⟨#[]⟩) (.int .i64 0) (.string ⟨#[]⟩) 73
 rw [hwo] at so
 have sp:=Sv.made wo (.bool false) (.string ⟨#[]⟩) (.int .i64 0) (.string ⟨#[]⟩) (.string ⟨#[]⟩) (.int .i64 0) (.string ⟨#[]⟩) 73
 rw [hwp] at sp
 have hRo:=so.lt
 have HI0:=Hj (show TkI w wp s w.heap.size wo.heap.size 0 from ⟨sp,so.keep bp,bo.trans (bp.mono bo.size),bo.size,by omega⟩)
 have HT:=Hj hT
 have HF:=Hj hf
 have HSL:=Hj hSL
 have HD:=Hj hD
 have hle:SL ≤ s.size + 1:=by rw [← hSL]; exact lastS_le s 4 _
 obtain ⟨NG,hNG⟩:∃ b,hasS s 2 (s.size + 1) = b:=⟨_,rfl⟩
 rw [hNG]
 have HNG:=Hj hNG
 clear so sp bo bp hT hf hSL hD hNG
 go_enter Tryz.func36,Tryz.ntmps36
 go_wp2_with fail
 go_loopw [5,8,15] (fun pv sv cv wr => ∃ i:Nat,i ≤ s.size + 1 ∧ pv = .int .i64 0 ∧ sv = .int .u8 (stS s i:Nat) ∧ cv = .int .i64 (i:Nat) ∧ Hid (TkI w wr s w.heap.size wo.heap.size i)) (fun _ _ cv _ => (s.size + 1) - (intOf cv).toNat)
 case atStart => exact ⟨0,by omega,rfl,rfl,rfl,Uh HI0⟩
 case round =>
  clear HI0
  obtain ⟨i,hi,rfl,rfl,rfl,HI⟩:=hrel
  by_cases hlt:i < s.size + 1
  ·have hlt':(i:Int) < (s.size:Int) + 1:=by omega
   have hst:=stS_lt s i
   have hkd:=kdA_lt s i
   obtain ⟨n0,n6,n8⟩:=Uh HF i (by omega)
   have hnx:stS s (i + 1) = nxS (stS s i) (kdA s i):=rfl
   have hTb:=(Uh HT).below (Uh HI).bel (stS s i) (kdA s i) hst hkd
   have hslt:=stS_lt s (i + 1)
   have HK:=Hj (fun W => kindAt_any s i W hs (by omega))
   rw [← hnx] at hTb
   obtain ⟨st,hsv⟩:∃ z,stS s i = z:=⟨_,rfl⟩
   obtain ⟨kd,hkv⟩:∃ z,kdA s i = z:=⟨_,rfl⟩
   obtain ⟨nx,hnv⟩:∃ z,stS s (i + 1) = z:=⟨_,rfl⟩
   rw [hsv,hkv,hnv] at hTb
   rw [hkv] at HK
   rw [hsv] at hst ⊢
   rw [hkv] at hkd
   rw [hnv] at n0 n6 n8 hslt
   have HNV:=Hj hnv
   clear hnx hsv hkv hnv
   go_wp2_with fail
   have FT:=fun z:Ext wr => z.cell hTb
   have hNE:=Ext.ne wr
   have hst':(st:Int) < 12:=by omega
   have hkd':(kd:Int) < 8:=by omega
   refine wp_region_ext (by kernel_rfl) (by kernel_rfl) ?_
   repeat (go_big_quiet_step (first
    | (go_at_call 54; rename_i z; exact Ext.call (Uh HK z.w) (fun e w' h => ⟨h.1,by rw [h.2]; exact Below.refl _ _⟩))))
   refine wpQuiet_nil ?_
   rintro _ ⟨xE,rfl⟩
   clear FT hNE hTb HK
   have HI2:=Hj ((Uh HI).keep xE.bel)
   have q0:=(Uh HI2).p.f0
   have q2:=(Uh HI2).p.f2
   have e0:=(Uh HI2).p.c0
   have e2:=(Uh HI2).p.c2
   have t0:((nx:Int) == 0) = false:=by simp; omega
   have t6:((nx:Int) == 6) = false:=by simp; omega
   have t8:((nx:Int) == 8) = false:=by simp; omega
   by_cases h2:nx = 2
   ·have HN:=Hj ((Uh HI2).neg ((Uh HNV).trans h2))
    have t2:((nx:Int) == 2) = true:=by simp [h2]
    clear h2 n0 n6 n8 HI
    go_wp2_with fail
    exact ⟨⟨i + 1,by omega,rfl,by rw [Uh HNV],by (first | rfl | go_num),Uh HN⟩,by simp [intOf]; omega⟩
   ·have t2:((nx:Int) == 2) = false:=by simp; omega
    by_cases h4:nx = 4
    ·have HN:=Hj ((Uh HI2).slash ((Uh HNV).trans h4))
     have t4:((nx:Int) == 4) = true:=by simp [h4]
     clear h2 h4 n0 n6 n8 HI
     go_wp2_with fail
     exact ⟨⟨i + 1,by omega,rfl,by rw [Uh HNV],by (first | rfl | go_num),Uh HN⟩,by simp [intOf]; omega⟩
    ·have HN:=Hj ((Uh HI2).same (by rw [Uh HNV]; exact h2) (by rw [Uh HNV]; exact h4) (by rw [Uh HNV]; exact n8))
     have t4:((nx:Int) == 4) = false:=by simp; omega
     clear h2 h4 n0 n6 n8 HI
     go_wp2_with fail
     exact ⟨⟨i + 1,by omega,rfl,by rw [Uh HNV],by (first | rfl | go_num),Uh HN⟩,by simp [intOf]; omega⟩
  ·have hie:i = s.size + 1:=by omega
   have hlt':¬ (i:Int) < (s.size:Int) + 1:=by omega
   have h8:lastS s 8 (s.size + 1) = 0:=lastS_none0 (fun j hj => (Uh HF j (by omega)).2.2)
   have hTk:=Uh HI
   rw [hie] at hTk
   have hp:=hTk.p
   rw [h8,Uh HSL,Uh HNG] at hp
   have u0:=hp.c0
   have u1:=hp.c1
   have u2:=hp.c2
   have u5:=hp.c5
   have x1:=hp.f1
   have x3:=hp.f3
   have HP:=Hj hp
   have HO:=Hj (And.intro hTk.o (And.intro hTk.bel (And.intro hTk.hp hTk.ne)))
   clear hTk hp h8 hie
   have tz:¬ (0:Int) < (SL:Int):=by omega
   have HD2:=Hj (Uh HD)
   have hSLz:=Hj h0
   clear h0
   go_wp2_with fail
   refine (Uh HD2 _).mono ?_
   rintro _ _ ⟨rfl,hw⟩
   obtain rfl:=hw.symm
   clear hw
   have HP2:=Hj ((Uh HP).put1 (.string D))
   have HO2:=Hj ((Uh HO).1.far (j:=1) (Uh HO).2.2.2 (.string D))
   have HB2:=Hj (below_put (i:=1) (v:=.string D) (Uh HO).2.1 (Uh HO).2.2.1)
   have HF2:=Hj (((((((Uh HO2).put0 (.bool NG)).put1 (.string D)).put2 (.int .i64 (SL:Nat))).put3 (.string ⟨#[]⟩)).put4 (.string ⟨#[]⟩)).put5 (.int .i64 0)).put6 (.string ⟨#[]⟩)
   have HB3:=Hj (below_put (i:=6) (v:=.string ⟨#[]⟩) (below_put (i:=5) (v:=.int .i64 0) (below_put (i:=4) (v:=.string ⟨#[]⟩) (below_put (i:=3) (v:=.string ⟨#[]⟩) (below_put (i:=2) (v:=.int .i64 (SL:Nat)) (below_put (i:=1) (v:=.string D) (below_put (i:=0) (v:=.bool NG) (Uh HB2) (Nat.le_refl _)) (Nat.le_refl _)) (Nat.le_refl _)) (Nat.le_refl _)) (Nat.le_refl _)) (Nat.le_refl _)) (Nat.le_refl _))
   have hne:=(Uh HO).2.2.2
   have hne2:=hne.symm
   have y0:=(Uh HP2).c0
   have y1:=(Uh HP2).c1
   have y2:=(Uh HP2).c2
   have y3:=(Uh HP2).c3
   have y4:=(Uh HP2).c4
   have y5:=(Uh HP2).c5
   have y6:=(Uh HP2).c6
   have z0:=(Uh HO2).c0
   have g0:=(Uh HO2).f0
   have z1:=(Uh HO2).c1
   have g1:=(Uh HO2).f1
   have z2:=(Uh HO2).c2
   have g2:=(Uh HO2).f2
   have z3:=(Uh HO2).c3
   have g3:=(Uh HO2).f3
   have z4:=(Uh HO2).c4
   have g4:=(Uh HO2).f4
   have z5:=(Uh HO2).c5
   have g5:=(Uh HO2).f5
   have z6:=(Uh HO2).c6
   have g6:=(Uh HO2).f6
   clear u0 u2 u5 x3
   go_wp2_with fail
   have k0:=(Uh HF2).c0
   have k1:=(Uh HF2).c1
   have k2:=(Uh HF2).c2
   have k3:=(Uh HF2).c3
   have k4:=(Uh HF2).c4
   have k5:=(Uh HF2).c5
   have k6:=(Uh HF2).c6
   have hB:=Uh HB3
   generalize World.setCell _ ⟨w.heap.size,6,none⟩ (.string ⟨#[]⟩) = wf at k0 k1 k2 k3 k4 k5 k6 hB ⊢
   refine bodyPost_ret (by simp [results,Tryz.results36,go_sem,k0,k1,k2,k3,k4,k5,k6]; try rfl) rfl ?_
   exact ⟨rfl,hB⟩
set_option maxRecDepth 100000 in
set_option maxHeartbeats 16000000 in
theorem takeApart_n (s D:ByteArray) (w:World) (hs:s.size ≤ 65536) (hT:TabBh w) (hf:∀ j,j ≤ s.size → stS s (j + 1) ≠ 0 ∧ stS s (j + 1) ≠ 6 ∧ stS s (j + 1) ≠ 8) (SL:Nat) (hSL:lastS s 4 (s.size + 1) = SL) (h0:0 < SL) (h1:SL < s.size)
  (hD:∀ W,Calls Tryz.prog 55 #[.string (s.extract 0 SL),.string ⟨#[45]⟩] W fun e w' => e = .returned (.string D) ∧ w' = W) :
  Calls Tryz.prog 36 #[.string s] w fun e w' => e = .returned (.tuple #[.agg #[.bool (hasS s 2 (s.size + 1)),.string D,.int .i64 (SL:Nat),.string (s.extract (SL + 1) s.size),.string ⟨#[]⟩,.int .i64 0,.string ⟨#[]⟩],.int .i64 0,.bool true]) ∧ Below w.heap.size w w':=by
 obtain ⟨wo,hwo⟩:∃ x,w.alloc (.cells #[.bool false,.string ⟨#[]⟩,.int .i64 0,.string ⟨#[]⟩,.string ⟨#[]⟩,.int .i64 0,.string ⟨#[]⟩] 73) = x:=⟨_,rfl⟩
 obtain ⟨wp,hwp⟩:∃ x,wo.alloc (.cells #[.bool false,.string ⟨#[]⟩,.int .i64 0,.string ⟨#[]⟩,.string ⟨#[]⟩,.int .i64 0,.string ⟨#[]⟩] 73) = x:=⟨_,rfl⟩
 have bo:Below w.heap.size w wo:=by rw [← hwo]; exact bAl
 have bp:Below wo.heap.size wo wp:=by rw [← hwp]; exact bAl
 have so:=Sv.made w (.bool false) (.string ⟨#[]⟩) (.int .i64 0) (.string ⟨#[]⟩) (.string ⟨#[]⟩) (.int .i64 0) (.string ⟨#[]⟩) 73
 rw [hwo] at so
 have sp:=Sv.made wo (.bool false) (.string ⟨#[]⟩) (.int .i64 0) (.string ⟨#[]⟩) (.string ⟨#[]⟩) (.int .i64 0) (.string ⟨#[]⟩) 73
 rw [hwp] at sp
 have hRo:=so.lt
 have HI0:=Hj (show TkI w wp s w.heap.size wo.heap.size 0 from ⟨sp,so.keep bp,bo.trans (bp.mono bo.size),bo.size,by omega⟩)
 have HT:=Hj hT
 have HF:=Hj hf
 have HSL:=Hj hSL
 have HD:=Hj hD
 have hle:SL ≤ s.size + 1:=by rw [← hSL]; exact lastS_le s 4 _
 obtain ⟨NG,hNG⟩:∃ b,hasS s 2 (s.size + 1) = b:=⟨_,rfl⟩
 rw [hNG]
 have HNG:=Hj hNG
 clear so sp bo bp hT hf hSL hD hNG
 go_enter Tryz.func36,Tryz.ntmps36
 go_wp2_with fail
 go_loopw [5,8,15] (fun pv sv cv wr => ∃ i:Nat,i ≤ s.size + 1 ∧ pv = .int .i64 0 ∧ sv = .int .u8 (stS s i:Nat) ∧ cv = .int .i64 (i:Nat) ∧ Hid (TkI w wr s w.heap.size wo.heap.size i)) (fun _ _ cv _ => (s.size + 1) - (intOf cv).toNat)
 case atStart => exact ⟨0,by omega,rfl,rfl,rfl,Uh HI0⟩
 case round =>
  clear HI0
  obtain ⟨i,hi,rfl,rfl,rfl,HI⟩:=hrel
  by_cases hlt:i < s.size + 1
  ·have hlt':(i:Int) < (s.size:Int) + 1:=by omega
   have hst:=stS_lt s i
   have hkd:=kdA_lt s i
   obtain ⟨n0,n6,n8⟩:=Uh HF i (by omega)
   have hnx:stS s (i + 1) = nxS (stS s i) (kdA s i):=rfl
   have hTb:=(Uh HT).below (Uh HI).bel (stS s i) (kdA s i) hst hkd
   have hslt:=stS_lt s (i + 1)
   have HK:=Hj (fun W => kindAt_any s i W hs (by omega))
   rw [← hnx] at hTb
   obtain ⟨st,hsv⟩:∃ z,stS s i = z:=⟨_,rfl⟩
   obtain ⟨kd,hkv⟩:∃ z,kdA s i = z:=⟨_,rfl⟩
   obtain ⟨nx,hnv⟩:∃ z,stS s (i + 1) = z:=⟨_,rfl⟩
   rw [hsv,hkv,hnv] at hTb
   rw [hkv] at HK
   rw [hsv] at hst ⊢
   rw [hkv] at hkd
   rw [hnv] at n0 n6 n8 hslt
   have HNV:=Hj hnv
   clear hnx hsv hkv hnv
   go_wp2_with fail
   have FT:=fun z:Ext wr => z.cell hTb
   have hNE:=Ext.ne wr
   have hst':(st:Int) < 12:=by omega
   have hkd':(kd:Int) < 8:=by omega
   refine wp_region_ext (by kernel_rfl) (by kernel_rfl) ?_
   repeat (go_big_quiet_step (first
    | (go_at_call 54; rename_i z; exact Ext.call (Uh HK z.w) (fun e w' h => ⟨h.1,by rw [h.2]; exact Below.refl _ _⟩))))
   refine wpQuiet_nil ?_
   rintro _ ⟨xE,rfl⟩
   clear FT hNE hTb HK
   have HI2:=Hj ((Uh HI).keep xE.bel)
   have q0:=(Uh HI2).p.f0
   have q2:=(Uh HI2).p.f2
   have e0:=(Uh HI2).p.c0
   have e2:=(Uh HI2).p.c2
   have t0:((nx:Int) == 0) = false:=by simp; omega
   have t6:((nx:Int) == 6) = false:=by simp; omega
   have t8:((nx:Int) == 8) = false:=by simp; omega
   by_cases h2:nx = 2
   ·have HN:=Hj ((Uh HI2).neg ((Uh HNV).trans h2))
    have t2:((nx:Int) == 2) = true:=by simp [h2]
    clear h2 n0 n6 n8 HI
    go_wp2_with fail
    exact ⟨⟨i + 1,by omega,rfl,by rw [Uh HNV],by (first | rfl | go_num),Uh HN⟩,by simp [intOf]; omega⟩
   ·have t2:((nx:Int) == 2) = false:=by simp; omega
    by_cases h4:nx = 4
    ·have HN:=Hj ((Uh HI2).slash ((Uh HNV).trans h4))
     have t4:((nx:Int) == 4) = true:=by simp [h4]
     clear h2 h4 n0 n6 n8 HI
     go_wp2_with fail
     exact ⟨⟨i + 1,by omega,rfl,by rw [Uh HNV],by (first | rfl | go_num),Uh HN⟩,by simp [intOf]; omega⟩
    ·have HN:=Hj ((Uh HI2).same (by rw [Uh HNV]; exact h2) (by rw [Uh HNV]; exact h4) (by rw [Uh HNV]; exact n8))
     have t4:((nx:Int) == 4) = false:=by simp; omega
     clear h2 h4 n0 n6 n8 HI
     go_wp2_with fail
     exact ⟨⟨i + 1,by omega,rfl,by rw [Uh HNV],by (first | rfl | go_num),Uh HN⟩,by simp [intOf]; omega⟩
  ·have hie:i = s.size + 1:=by omega
   have hlt':¬ (i:Int) < (s.size:Int) + 1:=by omega
   have h8:lastS s 8 (s.size + 1) = 0:=lastS_none0 (fun j hj => (Uh HF j (by omega)).2.2)
   have hTk:=Uh HI
   rw [hie] at hTk
   have hp:=hTk.p
   rw [h8,Uh HSL,Uh HNG] at hp
   have u0:=hp.c0
   have u1:=hp.c1
   have u2:=hp.c2
   have u5:=hp.c5
   have x1:=hp.f1
   have x3:=hp.f3
   have HP:=Hj hp
   have HO:=Hj (And.intro hTk.o (And.intro hTk.bel (And.intro hTk.hp hTk.ne)))
   clear hTk hp h8 hie
   have tz:(0:Int) < (SL:Int):=by omega
   have HD2:=Hj (Uh HD)
   have HPa:=Hj ((Uh HP).put3 (.string (s.extract (SL + 1) s.size)))
   have HOa:=Hj (And.intro ((Uh HO).1.far (j:=3) (Uh HO).2.2.2 (.string (s.extract (SL + 1) s.size))) (And.intro (below_put (i:=3) (v:=.string (s.extract (SL + 1) s.size)) (Uh HO).2.1 (Uh HO).2.2.1) (Uh HO).2.2))
   have a1:=(Uh HPa).c1
   have a2:=(Uh HPa).c2
   have b1:=(Uh HPa).f1
   have u3_:=(Uh HP).c3
   have hsl1:(SL:Int) + 1 ≤ (s.size:Int):=by omega
   have hsl2:(SL:Int) ≤ (s.size:Int):=by omega
   go_wp2_with fail
   clear u0 u1 u2 u5 x1 x3 u3_ HP HO
   have HP:=HPa
   have HO:=HOa
   clear HPa HOa
   have u0:=(Uh HP).c0
   have u2:=a2
   have u5:=(Uh HP).c5
   have x3:=(Uh HP).f3
   refine (Uh HD2 _).mono ?_
   rintro _ _ ⟨rfl,hw⟩
   obtain rfl:=hw.symm
   clear hw
   have HP2:=Hj ((Uh HP).put1 (.string D))
   have HO2:=Hj ((Uh HO).1.far (j:=1) (Uh HO).2.2.2 (.string D))
   have HB2:=Hj (below_put (i:=1) (v:=.string D) (Uh HO).2.1 (Uh HO).2.2.1)
   have HF2:=Hj (((((((Uh HO2).put0 (.bool NG)).put1 (.string D)).put2 (.int .i64 (SL:Nat))).put3 (.string (s.extract (SL + 1) s.size))).put4 (.string ⟨#[]⟩)).put5 (.int .i64 0)).put6 (.string ⟨#[]⟩)
   have HB3:=Hj (below_put (i:=6) (v:=.string ⟨#[]⟩) (below_put (i:=5) (v:=.int .i64 0) (below_put (i:=4) (v:=.string ⟨#[]⟩) (below_put (i:=3) (v:=.string (s.extract (SL + 1) s.size)) (below_put (i:=2) (v:=.int .i64 (SL:Nat)) (below_put (i:=1) (v:=.string D) (below_put (i:=0) (v:=.bool NG) (Uh HB2) (Nat.le_refl _)) (Nat.le_refl _)) (Nat.le_refl _)) (Nat.le_refl _)) (Nat.le_refl _)) (Nat.le_refl _)) (Nat.le_refl _))
   have hne:=(Uh HO).2.2.2
   have hne2:=hne.symm
   have y0:=(Uh HP2).c0
   have y1:=(Uh HP2).c1
   have y2:=(Uh HP2).c2
   have y3:=(Uh HP2).c3
   have y4:=(Uh HP2).c4
   have y5:=(Uh HP2).c5
   have y6:=(Uh HP2).c6
   have z0:=(Uh HO2).c0
   have g0:=(Uh HO2).f0
   have z1:=(Uh HO2).c1
   have g1:=(Uh HO2).f1
   have z2:=(Uh HO2).c2
   have g2:=(Uh HO2).f2
   have z3:=(Uh HO2).c3
   have g3:=(Uh HO2).f3
   have z4:=(Uh HO2).c4
   have g4:=(Uh HO2).f4
   have z5:=(Uh HO2).c5
   have g5:=(Uh HO2).f5
   have z6:=(Uh HO2).c6
   have g6:=(Uh HO2).f6
   clear u0 u2 u5 x3
   go_wp2_with fail
   have k0:=(Uh HF2).c0
   have k1:=(Uh HF2).c1
   have k2:=(Uh HF2).c2
   have k3:=(Uh HF2).c3
   have k4:=(Uh HF2).c4
   have k5:=(Uh HF2).c5
   have k6:=(Uh HF2).c6
   have hB:=Uh HB3
   generalize World.setCell _ ⟨w.heap.size,6,none⟩ (.string ⟨#[]⟩) = wf at k0 k1 k2 k3 k4 k5 k6 hB ⊢
   refine bodyPost_ret (by simp [results,Tryz.results36,go_sem,k0,k1,k2,k3,k4,k5,k6]; try rfl) rfl ?_
   exact ⟨rfl,hB⟩
end Go.Proofs.YtjoaijbhpgekoaaGreatDoor
