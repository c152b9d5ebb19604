/- Ft7 -/
import Derived.Test.YtjoaijbhpgekoaaGreatDoorFt6
namespace Go.Proofs.YtjoaijbhpgekoaaGreatDoor
open Go.RowKit Go.Deep
set_option linter.unusedVariables false
set_option maxRecDepth 100000 in
set_option maxHeartbeats 32000000 in
theorem end_no (B:Nat) (s:ByteArray) (st:TkS) (v:Value) (cs:List Value) (w:World) (hS:ScS w B 41 s st v cs) (hb:st.b = false) :
  Calls Tryz.prog 12 #[.pointer (some ⟨B,0,none⟩)] w fun e w' => e = .returned (fltV 0 0) ∧ Below w.heap.size w w':=by
 obtain ⟨wo,hwo⟩:∃ x,w.alloc (.cells #[.int .i64 0,.int .i64 0] 33) = x:=⟨_,rfl⟩
 have bo:Below w.heap.size w wo:=by rw [← hwo]; exact bAl
 have bO:BoxL wo w.heap.size [.int .i64 0,.int .i64 0]:=by have:=BoxL.made w #[.int .i64 0,.int .i64 0] 33; rw [hwo] at this; exact this
 have sS:=hS.below bo
 have hBl:=hS.box.lt
 have c2:=(sS.box.all 2 _ rfl).1
 have o0:=(bO.all 0 _ rfl).1
 have o0f:=(bO.all 0 _ rfl).2
 have o1:=(bO.all 1 _ rfl).1
 have o1f:=(bO.all 1 _ rfl).2
 rw [hb] at c2
 have HB:=Hj (And.intro bO bo)
 clear bO bo sS hS hb
 go_enter Tryz.func12,Tryz.ntmps12
 go_wp2_with fail
 have hf:=((Uh HB).1.put 0 (.int .i64 0)).put 1 (.int .i64 0)
 have f0:=(hf.all 0 _ rfl).1
 have f1:=(hf.all 1 _ rfl).1
 have hb:Below w.heap.size w ((wo.setCell ⟨w.heap.size,0,none⟩ (.int .i64 0)).setCell ⟨w.heap.size,1,none⟩ (.int .i64 0)):=bel_put (bel_put (Uh HB).2 (by omega) (Nat.le_refl _) 0 _) (by omega) (Nat.le_refl _) 1 _
 generalize (wo.setCell ⟨w.heap.size,0,none⟩ (.int .i64 0)).setCell ⟨w.heap.size,1,none⟩ (.int .i64 0) = wf at *
 refine bodyPost_ret (by simp [results,Tryz.results12,go_sem,f0,f1]; try rfl) rfl ?_
 exact ⟨rfl,hb⟩
set_option maxRecDepth 100000 in
set_option maxHeartbeats 32000000 in
theorem end_full (B:Nat) (s:ByteArray) (st:TkS) (v:Value) (cs:List Value) (w:World) (hS:ScS w B 41 s st v cs) (hb:st.b = true) (hl:st.l.length = 16384) :
  Calls Tryz.prog 12 #[.pointer (some ⟨B,0,none⟩)] w fun e w' => e = .returned (fltV (st.i:Int) 85) ∧ ScC w w' B v v ∧ BoxL w' B [.string s,.int .i64 (st.i:Int),.bool false,v]:=by
 obtain ⟨wo,hwo⟩:∃ x,w.alloc (.cells #[.int .i64 0,.int .i64 0] 33) = x:=⟨_,rfl⟩
 have bo:Below w.heap.size w wo:=by rw [← hwo]; exact bAl
 have bO:BoxL wo w.heap.size [.int .i64 0,.int .i64 0]:=by have:=BoxL.made w #[.int .i64 0,.int .i64 0] 33; rw [hwo] at this; exact this
 have sS:=hS.below bo
 have hBl:=hS.box.lt
 have c2:=(sS.box.all 2 _ rfl).1
 rw [hb] at c2
 have HB:=Hj (And.intro bO (And.intro bo (And.intro hS sS)))
 have KT:=take_full B s st v cs 5 nlB 0 false none none 0 0 0 0 wo sS hl
 unfold fltV nlB at KT
 have HK:=Hj KT
 clear bO bo sS hS hb KT
 go_enter Tryz.func12,Tryz.ntmps12
 go_wp2_with fail
 refine (Uh HK).mono ?_
 rintro _ w2 ⟨rfl,b2⟩
 obtain ⟨bO,bo,hS,sS⟩:=Uh HB
 have s2:=sS.below b2
 have k2:ScC wo w2 B v v:=ScC.ofBelow b2
 have HV:=Hj (show v = v from rfl)
 have nO:w.heap.size ≠ B:=by omega
 have nO2:v.ownBlock ≠ some w.heap.size:=fun e => by have:=(hS.row.ge e).2; omega
 have bO2:=bO.keep k2 nO nO2
 obtain ⟨w3,hw3⟩:∃ x,w2.alloc (.cells #[.int .i64 (st.i:Int),.int .i64 85] 33) = x:=⟨_,rfl⟩
 have b3:Below w2.heap.size w2 w3:=by rw [← hw3]; exact bAl
 have bE:BoxL w3 w2.heap.size [.int .i64 (st.i:Int),.int .i64 85]:=by have:=BoxL.made w2 #[.int .i64 (st.i:Int),.int .i64 85] 33; rw [hw3] at this; exact this
 have bO3:=bO2.below b3
 have s3:=s2.below b3
 obtain ⟨w4,hw4⟩:∃ x,w3.setCell ⟨B,2,none⟩ (.bool false) = x:=⟨_,rfl⟩
 have bE4:=bE.other (Y:=B) 2 (.bool false) (by have:=s2.box.lt; omega)
 have bO4:=bO3.other (Y:=B) 2 (.bool false) nO
 have sB4:=s3.box.put 2 (.bool false)
 rw [hw4] at bE4 bO4 sB4
 have d2:=(s3.box.all 2 _ rfl).1
 have d2f:=(s3.box.all 2 _ rfl).2
 have g0:=(bE4.all 0 _ rfl).1
 have g1:=(bE4.all 1 _ rfl).1
 have o0:=(bO4.all 0 _ rfl).1
 have o0f:=(bO4.all 0 _ rfl).2
 have o1:=(bO4.all 1 _ rfl).1
 have o1f:=(bO4.all 1 _ rfl).2
 have HF:=Hj (And.intro bo (And.intro k2 (And.intro b3 (And.intro s3 (And.intro bO4 (And.intro sB4 (And.intro bE4 hS)))))))
 clear bO bo hS sS s2 k2 bO2 b3 bE bO3 s3 bE4 bO4 sB4 nO2 HK c2
 go_wp2_with fail
 obtain ⟨bo,k2,b3,s3,bO4,sB4,bE4,hS⟩:=Uh HF
 have fO:=(bO4.put 0 (.int .i64 (st.i:Int))).put 1 (.int .i64 85)
 have fB:=(sB4.other (Y:=w.heap.size) 0 (.int .i64 (st.i:Int)) (fun e => nO e.symm)).other (Y:=w.heap.size) 1 (.int .i64 85) (fun e => nO e.symm)
 have cW:Chg (fun j => j = B ∨ j = w.heap.size) w3 ((w4.setCell ⟨w.heap.size,0,none⟩ (.int .i64 (st.i:Int))).setCell ⟨w.heap.size,1,none⟩ (.int .i64 85)):=by
  have k0:Chg (fun j => j = B ∨ j = w.heap.size) w3 w4:=by rw [← hw4]; exact Chg.of_set _ _ _ _ (.inl rfl)
  exact (k0.trans (Chg.of_set _ _ _ _ (.inr rfl))).trans (Chg.of_set _ _ _ _ (.inr rfl))
 have fC:ScC w ((w4.setCell ⟨w.heap.size,0,none⟩ (.int .i64 (st.i:Int))).setCell ⟨w.heap.size,1,none⟩ (.int .i64 85)) B v v:=by
  refine ⟨(((Chg.of_below bo).thens k2.chg (fun k hk e => e)).thens (Chg.of_below (S:=fun _ => False) b3) (fun k hk e => e.elim)).thens cW (fun k hk e => by rcases e with d | d; exact .inl d; omega),fun j hj => ?_⟩
  rcases k2.new j hj with d | d
  ·exact .inl d
  ·exact .inr (Nat.le_trans bo.size d)
 have fR:=s3.row.chg cW (fun j hj e => by
  rcases e with d | d
  ·have:=(s3.row.ge hj).1; omega
  ·rcases fC.new j hj with d2 | d2
   ·have:=(hS.row.ge d2).2; omega
   ·rcases k2.new j hj with d3 | d3
    ·have:=(hS.row.ge d3).2; omega
    ·have:=bo.size; have hz:wo.heap.size = w.heap.size + 1:=by rw [← hwo]; simp
     omega)
 have f0:=(fO.all 0 _ rfl).1
 have f1:=(fO.all 1 _ rfl).1
 generalize ((w4.setCell ⟨w.heap.size,0,none⟩ (.int .i64 (st.i:Int))).setCell ⟨w.heap.size,1,none⟩ (.int .i64 85)) = wf at *
 refine bodyPost_ret (by simp [results,Tryz.results12,go_sem,f0,f1]; try rfl) rfl ?_
 exact ⟨rfl,fC,fB⟩
set_option maxRecDepth 100000 in
set_option maxHeartbeats 32000000 in
theorem end_yes (B:Nat) (s:ByteArray) (st:TkS) (v:Value) (cs:List Value) (w:World) (hS:ScS w B 41 s st v cs) (hb:st.b = true) (hl:st.l.length < 16384) :
  Calls Tryz.prog 12 #[.pointer (some ⟨B,0,none⟩)] w fun e w' => e = .returned (fltV 0 0) ∧ ∃ v' cs',ScS w' B 41 s ⟨st.i,false,st.l ++ [nlB]⟩ v' cs' ∧ ScC w w' B v v':=by
 obtain ⟨wo,hwo⟩:∃ x,w.alloc (.cells #[.int .i64 0,.int .i64 0] 33) = x:=⟨_,rfl⟩
 have bo:Below w.heap.size w wo:=by rw [← hwo]; exact bAl
 have bO:BoxL wo w.heap.size [.int .i64 0,.int .i64 0]:=by have:=BoxL.made w #[.int .i64 0,.int .i64 0] 33; rw [hwo] at this; exact this
 have sS:=hS.below bo
 have hBl:=hS.box.lt
 have c2:=(sS.box.all 2 _ rfl).1
 rw [hb] at c2
 have HB:=Hj (And.intro bO (And.intro bo (And.intro hS sS)))
 have KT:=take_end B s st v cs nlB 0 false none none 0 0 0 0 wo sS hl
 unfold fltV nlB at KT
 have HK:=Hj KT
 clear bO bo sS hS hb KT
 go_enter Tryz.func12,Tryz.ntmps12
 go_wp2_with fail
 refine (Uh HK).mono ?_
 rintro _ w2 ⟨rfl,v2,cs2,s2,k2⟩
 obtain ⟨bO,bo,hS,sS⟩:=Uh HB
 have nO:w.heap.size ≠ B:=by omega
 have nO2:v.ownBlock ≠ some w.heap.size:=fun e => by have:=(hS.row.ge e).2; omega
 have bO2:=bO.keep k2 nO nO2
 have hB2:B < w2.heap.size:=s2.box.lt
 have hO2:w.heap.size < w2.heap.size:=bO2.lt
 have y2:=(s2.box.all 2 _ rfl).1
 have y2f:=(s2.box.all 2 _ rfl).2
 have z0:=(bO2.all 0 _ rfl).1
 have z0f:=(bO2.all 0 _ rfl).2
 have z1:=(bO2.all 1 _ rfl).1
 have z1f:=(bO2.all 1 _ rfl).2
 have HF:=Hj (And.intro bo (And.intro k2 (And.intro s2 (And.intro bO2 hS))))
 clear bO bo hS sS s2 k2 bO2 nO2 HK c2
 go_wp2_with fail
 obtain ⟨bo,k2,s2,bO2,hS⟩:=Uh HF
 have fO:=(((bO2.other (Y:=B) 2 (.bool false) nO).put 0 (.int .i64 0)).put 1 (.int .i64 0)).below ((Below.refl _ _).alloc (Nat.le_refl _) (.cells #[.int .i64 0,.int .i64 0] 33))
 have fB:=(((s2.box.put 2 (.bool false)).other (Y:=w.heap.size) 0 (.int .i64 0) (fun e => nO e.symm)).other (Y:=w.heap.size) 1 (.int .i64 0) (fun e => nO e.symm)).below ((Below.refl _ _).alloc (Nat.le_refl _) (.cells #[.int .i64 0,.int .i64 0] 33))
 have cW:Chg (fun j => j = B ∨ j = w.heap.size) w2 ((((w2.setCell ⟨B,2,none⟩ (.bool false)).setCell ⟨w.heap.size,0,none⟩ (.int .i64 0)).setCell ⟨w.heap.size,1,none⟩ (.int .i64 0)).alloc (.cells #[.int .i64 0,.int .i64 0] 33)):=((((Chg.refl _ w2).trans (Chg.of_set _ _ _ _ (.inl rfl))).trans (Chg.of_set _ _ _ _ (.inr rfl))).trans (Chg.of_set _ _ _ _ (.inr rfl))).trans (Chg.of_alloc _ _)
 have fC:ScC w ((((w2.setCell ⟨B,2,none⟩ (.bool false)).setCell ⟨w.heap.size,0,none⟩ (.int .i64 0)).setCell ⟨w.heap.size,1,none⟩ (.int .i64 0)).alloc (.cells #[.int .i64 0,.int .i64 0] 33)) B v v2:=by
  refine ⟨((Chg.of_below bo).thens k2.chg (fun k hk e => e)).thens cW (fun k hk e => by rcases e with d | d; exact .inl d; omega),fun j hj => ?_⟩
  rcases k2.new j hj with d | d
  ·exact .inl d
  ·exact .inr (Nat.le_trans bo.size d)
 have hz:wo.heap.size = w.heap.size + 1:=by rw [← hwo]; simp
 have fR:=s2.row.chg cW (fun j hj e => by
  rcases e with d | d
  ·have:=(s2.row.ge hj).1; omega
  ·rcases k2.new j hj with d3 | d3
   ·have:=(hS.row.ge d3).2; omega
   ·omega)
 have f0:=(fO.all 0 _ rfl).1
 have f1:=(fO.all 1 _ rfl).1
 generalize ((((w2.setCell ⟨B,2,none⟩ (.bool false)).setCell ⟨w.heap.size,0,none⟩ (.int .i64 0)).setCell ⟨w.heap.size,1,none⟩ (.int .i64 0)).alloc (.cells #[.int .i64 0,.int .i64 0] 33)) = wf at *
 refine bodyPost_ret (by simp [results,Tryz.results12,go_sem,f0,f1]; try rfl) rfl ?_
 exact ⟨rfl,_,_,⟨fB,fR⟩,fC⟩
theorem wrapI (x:Int) (h0:-9223372036854775808 ≤ x) (h1:x < 9223372036854775808):IntKind.i64.wrap x = x:=by
 have e:IntKind.i64.wrap x = (x + 9223372036854775808) % 18446744073709551616 - 9223372036854775808:=by
  simp [IntKind.wrap,IntKind.bits,IntKind.signed]
  split <;> omega
 rw [e]
 omega
set_option maxRecDepth 100000 in
set_option maxHeartbeats 32000000 in
theorem fisword_any (s:ByteArray) (w:World):Calls Tryz.prog 31 #[.string s] w fun e w' => (∃ b,e = .returned (.bool b)) ∧ w' = w:=by
 cases h0:(s.toList == [105,110])
 case true =>
  go_enter Tryz.func31,Tryz.ntmps31
  go_wp2_with fail
  go_ret
  exact ⟨⟨_,rfl⟩,rfl⟩
 cases h1:(s.toList == [102,110])
 case true =>
  go_enter Tryz.func31,Tryz.ntmps31
  go_wp2_with fail
  go_ret
  exact ⟨⟨_,rfl⟩,rfl⟩
 cases h2:(s.toList == [108,101,116])
 case true =>
  go_enter Tryz.func31,Tryz.ntmps31
  go_wp2_with fail
  go_ret
  exact ⟨⟨_,rfl⟩,rfl⟩
 cases h3:(s.toList == [111,117,116])
 case true =>
  go_enter Tryz.func31,Tryz.ntmps31
  go_wp2_with fail
  go_ret
  exact ⟨⟨_,rfl⟩,rfl⟩
 cases h4:(s.toList == [115,117,109])
 case true =>
  go_enter Tryz.func31,Tryz.ntmps31
  go_wp2_with fail
  go_ret
  exact ⟨⟨_,rfl⟩,rfl⟩
 cases h5:(s.toList == [112,114,111,100])
 case true =>
  go_enter Tryz.func31,Tryz.ntmps31
  go_wp2_with fail
  go_ret
  exact ⟨⟨_,rfl⟩,rfl⟩
 go_enter Tryz.func31,Tryz.ntmps31
 go_wp2_with fail
 go_ret
 exact ⟨⟨_,rfl⟩,rfl⟩
set_option maxRecDepth 100000 in
set_option maxHeartbeats 32000000 in
theorem w4isword_any (s:ByteArray) (w:World):Calls Tryz.prog 25 #[.string s] w fun e w' => (∃ b,e = .returned (.bool b)) ∧ w' = w:=by
 cases h0:(s.toList == [105,110])
 case true =>
  go_enter Tryz.func25,Tryz.ntmps25
  go_wp2_with fail
  go_ret
  exact ⟨⟨_,rfl⟩,rfl⟩
 cases h1:(s.toList == [102,110])
 case true =>
  go_enter Tryz.func25,Tryz.ntmps25
  go_wp2_with fail
  go_ret
  exact ⟨⟨_,rfl⟩,rfl⟩
 cases h2:(s.toList == [108,101,116])
 case true =>
  go_enter Tryz.func25,Tryz.ntmps25
  go_wp2_with fail
  go_ret
  exact ⟨⟨_,rfl⟩,rfl⟩
 cases h3:(s.toList == [111,117,116])
 case true =>
  go_enter Tryz.func25,Tryz.ntmps25
  go_wp2_with fail
  go_ret
  exact ⟨⟨_,rfl⟩,rfl⟩
 cases h4:(s.toList == [115,117,109])
 case true =>
  go_enter Tryz.func25,Tryz.ntmps25
  go_wp2_with fail
  go_ret
  exact ⟨⟨_,rfl⟩,rfl⟩
 cases h5:(s.toList == [112,114,111,100])
 case true =>
  go_enter Tryz.func25,Tryz.ntmps25
  go_wp2_with fail
  go_ret
  exact ⟨⟨_,rfl⟩,rfl⟩
 go_enter Tryz.func25,Tryz.ntmps25
 go_wp2_with fail
 go_ret
 exact ⟨⟨_,rfl⟩,rfl⟩
set_option maxRecDepth 100000 in
set_option maxHeartbeats 32000000 in
theorem word_big (B:Nat) (s:ByteArray) (st:TkS) (v:Value) (cs:List Value) (n:Nat) (w:World) (hS:ScS w B 41 s st v cs) (hn:31 < n) :
  Calls Tryz.prog 21 #[.pointer (some ⟨B,0,none⟩),.int .i64 (n:Nat)] w fun e w' => e = .returned (fltV (st.i:Int) 87) ∧ Below w.heap.size w w':=by
 obtain ⟨wo,hwo⟩:∃ x,w.alloc (.cells #[.int .i64 0,.int .i64 0] 33) = x:=⟨_,rfl⟩
 have bo:Below w.heap.size w wo:=by rw [← hwo]; exact bAl
 have bO:BoxL wo w.heap.size [.int .i64 0,.int .i64 0]:=by have:=BoxL.made w #[.int .i64 0,.int .i64 0] 33; rw [hwo] at this; exact this
 have sS:=hS.below bo
 have hBl:=hS.box.lt
 have c1:=(sS.box.all 1 _ rfl).1
 have o0:=(bO.all 0 _ rfl).1
 have o0f:=(bO.all 0 _ rfl).2
 have o1:=(bO.all 1 _ rfl).1
 have o1f:=(bO.all 1 _ rfl).2
 have tn:(31:Int) < (n:Int):=by omega
 have HB:=Hj (And.intro bO bo)
 clear bO bo sS hS hn
 go_enter Tryz.func21,Tryz.ntmps21
 go_wp2_with fail
 have hf:=((Uh HB).1.put 0 (.int .i64 (st.i:Int))).put 1 (.int .i64 87)
 have f0:=(hf.all 0 _ rfl).1
 have f1:=(hf.all 1 _ rfl).1
 have hb:Below w.heap.size w ((wo.setCell ⟨w.heap.size,0,none⟩ (.int .i64 (st.i:Int))).setCell ⟨w.heap.size,1,none⟩ (.int .i64 87)):=bel_put (bel_put (Uh HB).2 (by omega) (Nat.le_refl _) 0 _) (by omega) (Nat.le_refl _) 1 _
 generalize (wo.setCell ⟨w.heap.size,0,none⟩ (.int .i64 (st.i:Int))).setCell ⟨w.heap.size,1,none⟩ (.int .i64 87) = wf at *
 refine bodyPost_ret (by simp [results,Tryz.results21,go_sem,f0,f1]; try rfl) rfl ?_
 exact ⟨rfl,hb⟩
set_option maxRecDepth 100000 in
set_option maxHeartbeats 32000000 in
theorem word_full (B:Nat) (s:ByteArray) (st:TkS) (v:Value) (cs:List Value) (n:Nat) (w:World) (hS:ScS w B 41 s st v cs) (hn:n ≤ 31) (hi:st.i + n ≤ s.size) (hs:s.size ≤ 65536) (hl:st.l.length = 16384) :
  Calls Tryz.prog 21 #[.pointer (some ⟨B,0,none⟩),.int .i64 (n:Nat)] w fun e w' => e = .returned (fltV (st.i:Int) 85) ∧ Below w.heap.size w w':=by
 obtain ⟨wo,hwo⟩:∃ x,w.alloc (.cells #[.int .i64 0,.int .i64 0] 33) = x:=⟨_,rfl⟩
 have bo:Below w.heap.size w wo:=by rw [← hwo]; exact bAl
 have bO:BoxL wo w.heap.size [.int .i64 0,.int .i64 0]:=by have:=BoxL.made w #[.int .i64 0,.int .i64 0] 33; rw [hwo] at this; exact this
 have sS:=hS.below bo
 have hBl:=hS.box.lt
 have c0:=(sS.box.all 0 _ rfl).1
 have c1:=(sS.box.all 1 _ rfl).1
 have tn:¬ (31:Int) < (n:Int):=by omega
 obtain ⟨T,hT⟩:∃ T,s.extract st.i (st.i + n) = T:=⟨_,rfl⟩
 have hTs:T.size = n:=by rw [← hT,ByteArray.size_extract]; omega
 obtain ⟨wt,hwt⟩:∃ x,wo.alloc (.cells #[.int .i64 1,.string T,.int .i64 0,.bool false,.slice none 0 0,.slice none 0 0] 41) = x:=⟨_,rfl⟩
 have bt:Below wo.heap.size wo wt:=by rw [← hwt]; exact bAl
 have bT:BoxL wt wo.heap.size [.int .i64 1,.string T,.int .i64 0,.bool false,.slice none 0 0,.slice none 0 0]:=by have:=BoxL.made wo #[.int .i64 1,.string T,.int .i64 0,.bool false,.slice none 0 0,.slice none 0 0] 41; rw [hwt] at this; exact this
 have t1:(0:Int) ≤ (st.i:Int):=by omega
 have t2:(st.i:Int) ≤ (st.i:Int) + (n:Int):=by omega
 have t3:(st.i:Int) + (n:Int) ≤ (s.size:Int):=by omega
 have tw:IntKind.i64.wrap ((st.i:Int) + (n:Int)) = (st.i:Int) + (n:Int):=wrapI _ (by omega) (by omega)
 have hBo:B < wo.heap.size:=sS.box.lt
 have sT:=sS.below bt
 have bO2:=bO.below bt
 have p0:=(bT.all 0 _ rfl).1
 have p0f:=(bT.all 0 _ rfl).2
 have p1:=(bT.all 1 _ rfl).1
 have p2:=(bT.all 2 _ rfl).1
 have p3:=(bT.all 3 _ rfl).1
 have p4:=(bT.all 4 _ rfl).1
 have p5:=(bT.all 5 _ rfl).1
 have HI:=Hj (fun (W:World) => fisword_any T W)
 have HB:=Hj (And.intro bo (And.intro bt (And.intro bT (And.intro sT (And.intro bO2 hS)))))
 have HT:=Hj hT
 have HTS:=Hj hTs
 have HWT:=Hj hwt
 clear bO bo sS hS bt bT sT bO2 hTs hwt
 go_enter Tryz.func21,Tryz.ntmps21
 go_wp2_with fail
 go_region
 rw [Uh HWT]
 all_goals
  go_wp2_with fail
  refine (Uh HI _).mono ?_
  rintro _ _ ⟨⟨b,rfl⟩,hw⟩
  obtain rfl:=hw.symm
  clear hw HI
  cases b
  ·go_wp2_with fail
   obtain ⟨bo,bt,bT,sT,bO2,hS⟩:=Uh HB
   have hzo:wo.heap.size = w.heap.size + 1:=by rw [← hwo]; simp
   have hz2:wo.heap.size ≤ wt.heap.size:=bt.size
   have sX:=sT.below ((Below.refl _ _).drew)
   have bX:=bO2.below ((Below.refl _ _).drew)
   have cX:Chg (fun _ => False) w wt.drew:=((Chg.of_below bo).trans (Chg.of_below bt)).trans (Chg.of_drew _)
   have zX:w.heap.size < wt.drew.heap.size:=(show w.heap.size < wt.heap.size by omega)
   have K1:=take_full B s st v cs 1 T 0 false none none 0 0 0 0 wt.drew sX hl
   unfold fltV at K1
   refine K1.mono ?_
   clear K1
   generalize wt.drew = wx at *
   rintro _ w2 ⟨rfl,b2⟩
   have bY:=bX.below b2
   have cY:Below w.heap.size w w2:=(cX.trans (Chg.of_below b2)).below (Nat.le_refl _) (fun k hk e => e)
   have o0:=(bY.all 0 _ rfl).1
   have o0f:=(bY.all 0 _ rfl).2
   have o1:=(bY.all 1 _ rfl).1
   have o1f:=(bY.all 1 _ rfl).2
   have HF:=Hj (And.intro bY cY)
   clear hzo hz2 zX bo bt bT sT bO2 hS sX bX cX b2 bY cY p0 p0f p1 p2 p3 p4 p5 c0 c1
   go_wp2_with fail
   obtain ⟨bY,cY⟩:=Uh HF
   have hf:=(bY.put 0 (.int .i64 (st.i:Int))).put 1 (.int .i64 85)
   have f0:=(hf.all 0 _ rfl).1
   have f1:=(hf.all 1 _ rfl).1
   have hb:Below w.heap.size w ((w2.setCell ⟨w.heap.size,0,none⟩ (.int .i64 (st.i:Int))).setCell ⟨w.heap.size,1,none⟩ (.int .i64 85)):=bel_put (bel_put cY (by omega) (Nat.le_refl _) 0 _) (by omega) (Nat.le_refl _) 1 _
   generalize ((w2.setCell ⟨w.heap.size,0,none⟩ (.int .i64 (st.i:Int))).setCell ⟨w.heap.size,1,none⟩ (.int .i64 85)) = wf at *
   refine bodyPost_ret (by simp [results,Tryz.results21,go_sem,f0,f1]; try rfl) rfl ?_
   exact ⟨rfl,hb⟩
  ·go_wp2_with fail
   obtain ⟨bo,bt,bT,sT,bO2,hS⟩:=Uh HB
   have hzo:wo.heap.size = w.heap.size + 1:=by rw [← hwo]; simp
   have hz2:wo.heap.size ≤ wt.heap.size:=bt.size
   have k1:Chg (fun j => j = wo.heap.size) wt (wt.setCell ⟨wo.heap.size,0,none⟩ (.int .i64 2)):=Chg.of_set _ _ _ _ rfl
   have sE:ScS (wt.setCell ⟨wo.heap.size,0,none⟩ (.int .i64 2)) B 41 s st v cs:=⟨sT.box.chg k1 (by omega),sT.row.chg k1 (fun j hj e => by have:=(hS.row.ge hj).2; omega)⟩
   have sX:=sE.below ((Below.refl _ _).drew)
   have bX:=(bO2.chg k1 (by omega)).below ((Below.refl _ _).drew)
   have cX:Chg (fun _ => False) w (wt.setCell ⟨wo.heap.size,0,none⟩ (.int .i64 2)).drew:=(((Chg.of_below bo).trans (Chg.of_below bt)).thens k1 (fun k hk e => by omega)).trans (Chg.of_drew _)
   have zX:w.heap.size < (wt.setCell ⟨wo.heap.size,0,none⟩ (.int .i64 2)).drew.heap.size:=(show w.heap.size < (wt.setCell ⟨wo.heap.size,0,none⟩ (.int .i64 2)).heap.size by simp; omega)
   have K1:=take_full B s st v cs 2 T 0 false none none 0 0 0 0 (wt.setCell ⟨wo.heap.size,0,none⟩ (.int .i64 2)).drew sX hl
   unfold fltV at K1
   refine K1.mono ?_
   clear K1
   generalize (wt.setCell ⟨wo.heap.size,0,none⟩ (.int .i64 2)).drew = wx at *
   rintro _ w2 ⟨rfl,b2⟩
   have bY:=bX.below b2
   have cY:Below w.heap.size w w2:=(cX.trans (Chg.of_below b2)).below (Nat.le_refl _) (fun k hk e => e)
   have o0:=(bY.all 0 _ rfl).1
   have o0f:=(bY.all 0 _ rfl).2
   have o1:=(bY.all 1 _ rfl).1
   have o1f:=(bY.all 1 _ rfl).2
   have HF:=Hj (And.intro bY cY)
   clear hzo hz2 zX bo bt bT sT bO2 hS sX bX cX b2 bY cY p0 p0f p1 p2 p3 p4 p5 c0 c1
   go_wp2_with fail
   obtain ⟨bY,cY⟩:=Uh HF
   have hf:=(bY.put 0 (.int .i64 (st.i:Int))).put 1 (.int .i64 85)
   have f0:=(hf.all 0 _ rfl).1
   have f1:=(hf.all 1 _ rfl).1
   have hb:Below w.heap.size w ((w2.setCell ⟨w.heap.size,0,none⟩ (.int .i64 (st.i:Int))).setCell ⟨w.heap.size,1,none⟩ (.int .i64 85)):=bel_put (bel_put cY (by omega) (Nat.le_refl _) 0 _) (by omega) (Nat.le_refl _) 1 _
   generalize ((w2.setCell ⟨w.heap.size,0,none⟩ (.int .i64 (st.i:Int))).setCell ⟨w.heap.size,1,none⟩ (.int .i64 85)) = wf at *
   refine bodyPost_ret (by simp [results,Tryz.results21,go_sem,f0,f1]; try rfl) rfl ?_
   exact ⟨rfl,hb⟩
set_option maxRecDepth 100000 in
set_option maxHeartbeats 32000000 in
theorem word_add (B:Nat) (s:ByteArray) (st:TkS) (v:Value) (cs:List Value) (n:Nat) (w:World) (hS:ScS w B 41 s st v cs) (hn:n ≤ 31) (hi:st.i + n ≤ s.size) (hs:s.size ≤ 65536) (hl:st.l.length < 16384) :
  Calls Tryz.prog 21 #[.pointer (some ⟨B,0,none⟩),.int .i64 (n:Nat)] w fun e w' => e = .returned (fltV 0 0) ∧ ∃ v' cs',ScS w' B 41 s ⟨st.i + n,true,st.l ++ [s.extract st.i (st.i + n)]⟩ v' cs' ∧ ScC w w' B v v':=by
 obtain ⟨wo,hwo⟩:∃ x,w.alloc (.cells #[.int .i64 0,.int .i64 0] 33) = x:=⟨_,rfl⟩
 have bo:Below w.heap.size w wo:=by rw [← hwo]; exact bAl
 have bO:BoxL wo w.heap.size [.int .i64 0,.int .i64 0]:=by have:=BoxL.made w #[.int .i64 0,.int .i64 0] 33; rw [hwo] at this; exact this
 have sS:=hS.below bo
 have hBl:=hS.box.lt
 have c0:=(sS.box.all 0 _ rfl).1
 have c1:=(sS.box.all 1 _ rfl).1
 have tn:¬ (31:Int) < (n:Int):=by omega
 obtain ⟨T,hT⟩:∃ T,s.extract st.i (st.i + n) = T:=⟨_,rfl⟩
 have hTs:T.size = n:=by rw [← hT,ByteArray.size_extract]; omega
 obtain ⟨wt,hwt⟩:∃ x,wo.alloc (.cells #[.int .i64 1,.string T,.int .i64 0,.bool false,.slice none 0 0,.slice none 0 0] 41) = x:=⟨_,rfl⟩
 have bt:Below wo.heap.size wo wt:=by rw [← hwt]; exact bAl
 have bT:BoxL wt wo.heap.size [.int .i64 1,.string T,.int .i64 0,.bool false,.slice none 0 0,.slice none 0 0]:=by have:=BoxL.made wo #[.int .i64 1,.string T,.int .i64 0,.bool false,.slice none 0 0,.slice none 0 0] 41; rw [hwt] at this; exact this
 have t1:(0:Int) ≤ (st.i:Int):=by omega
 have t2:(st.i:Int) ≤ (st.i:Int) + (n:Int):=by omega
 have t3:(st.i:Int) + (n:Int) ≤ (s.size:Int):=by omega
 have tw:IntKind.i64.wrap ((st.i:Int) + (n:Int)) = (st.i:Int) + (n:Int):=wrapI _ (by omega) (by omega)
 have hBo:B < wo.heap.size:=sS.box.lt
 have sT:=sS.below bt
 have bO2:=bO.below bt
 have p0:=(bT.all 0 _ rfl).1
 have p0f:=(bT.all 0 _ rfl).2
 have p1:=(bT.all 1 _ rfl).1
 have p2:=(bT.all 2 _ rfl).1
 have p3:=(bT.all 3 _ rfl).1
 have p4:=(bT.all 4 _ rfl).1
 have p5:=(bT.all 5 _ rfl).1
 have HI:=Hj (fun (W:World) => fisword_any T W)
 have HB:=Hj (And.intro bo (And.intro bt (And.intro bT (And.intro sT (And.intro bO2 hS)))))
 have HT:=Hj hT
 have HTS:=Hj hTs
 have HWT:=Hj hwt
 clear bO bo sS hS bt bT sT bO2 hTs hwt
 go_enter Tryz.func21,Tryz.ntmps21
 go_wp2_with fail
 go_region
 rw [Uh HWT]
 all_goals
  go_wp2_with fail
  refine (Uh HI _).mono ?_
  rintro _ _ ⟨⟨b,rfl⟩,hw⟩
  obtain rfl:=hw.symm
  clear hw HI
  cases b
  ·go_wp2_with fail
   obtain ⟨bo,bt,bT,sT,bO2,hS⟩:=Uh HB
   have hzo:wo.heap.size = w.heap.size + 1:=by rw [← hwo]; simp
   have hz2:wo.heap.size ≤ wt.heap.size:=bt.size
   have sX:=sT.below ((Below.refl _ _).drew)
   have bX:=bO2.below ((Below.refl _ _).drew)
   have cX:Chg (fun _ => False) w wt.drew:=((Chg.of_below bo).trans (Chg.of_below bt)).trans (Chg.of_drew _)
   have zX:w.heap.size < wt.drew.heap.size:=(show w.heap.size < wt.heap.size by omega)
   have K1:=take_add B s st v cs 1 T 0 false none none 0 0 0 0 wt.drew sX hl (by decide) (by rw [Uh HTS]; omega)
   unfold fltV at K1
   refine K1.mono ?_
   clear K1
   generalize wt.drew = wx at *
   rintro _ w2 ⟨rfl,v2,cs2,s2,k2⟩
   have nO:w.heap.size ≠ B:=by omega
   have nO2:v.ownBlock ≠ some w.heap.size:=fun e => by have:=(hS.row.ge e).2; omega
   have bY:=bX.keep k2 nO nO2
   have o0:=(bY.all 0 _ rfl).1
   have o0f:=(bY.all 0 _ rfl).2
   have o1:=(bY.all 1 _ rfl).1
   have o1f:=(bY.all 1 _ rfl).2
   have HF:=Hj (And.intro bY (And.intro s2 (And.intro k2 (And.intro cX (And.intro hS zX)))))
   clear hzo hz2 zX bo bt bT sT bO2 hS sX bX cX bY s2 k2 nO2 p0 p0f p1 p2 p3 p4 p5 c0 c1
   go_wp2_with fail
   obtain ⟨bY,s2,k2,cX,hS,zX⟩:=Uh HF
   have hf:=(bY.put 0 (.int .i64 0)).put 1 (.int .i64 0)
   have f0:=(hf.all 0 _ rfl).1
   have f1:=(hf.all 1 _ rfl).1
   have fB:=(s2.box.other (Y:=w.heap.size) 0 (.int .i64 0) (fun e => nO e.symm)).other (Y:=w.heap.size) 1 (.int .i64 0) (fun e => nO e.symm)
   have cW:Chg (fun j => j = w.heap.size) w2 ((w2.setCell ⟨w.heap.size,0,none⟩ (.int .i64 0)).setCell ⟨w.heap.size,1,none⟩ (.int .i64 0)):=(Chg.of_set (S:=fun j => j = w.heap.size) _ _ _ _ rfl).trans (Chg.of_set (S:=fun j => j = w.heap.size) _ _ _ _ rfl)
   have fC:ScC w ((w2.setCell ⟨w.heap.size,0,none⟩ (.int .i64 0)).setCell ⟨w.heap.size,1,none⟩ (.int .i64 0)) B v v2:=by
    refine ⟨((cX.mono (fun k hk e => e.elim)).thens k2.chg (fun k hk e => e)).thens cW (fun k hk e => by omega),fun j hj => ?_⟩
    rcases k2.new j hj with d | d
    ·exact .inl d
    ·exact .inr (Nat.le_trans cX.size d)
   have fR:=s2.row.chg cW (fun j hj e => by
    rcases k2.new j hj with d | d
    ·have:=(hS.row.ge d).2; omega
    ·omega)
   have hTs:=Uh HTS
   have hT':=Uh HT
   rw [hTs,← hT'] at fB fR
   generalize ((w2.setCell ⟨w.heap.size,0,none⟩ (.int .i64 0)).setCell ⟨w.heap.size,1,none⟩ (.int .i64 0)) = wf at *
   refine bodyPost_ret (by simp [results,Tryz.results21,go_sem,f0,f1]; try rfl) rfl ?_
   exact ⟨rfl,_,_,⟨fB,fR⟩,fC⟩
  ·go_wp2_with fail
   obtain ⟨bo,bt,bT,sT,bO2,hS⟩:=Uh HB
   have hzo:wo.heap.size = w.heap.size + 1:=by rw [← hwo]; simp
   have hz2:wo.heap.size ≤ wt.heap.size:=bt.size
   have k1:Chg (fun j => j = wo.heap.size) wt (wt.setCell ⟨wo.heap.size,0,none⟩ (.int .i64 2)):=Chg.of_set _ _ _ _ rfl
   have sE:ScS (wt.setCell ⟨wo.heap.size,0,none⟩ (.int .i64 2)) B 41 s st v cs:=⟨sT.box.chg k1 (by omega),sT.row.chg k1 (fun j hj e => by have:=(hS.row.ge hj).2; omega)⟩
   have sX:=sE.below ((Below.refl _ _).drew)
   have bX:=(bO2.chg k1 (by omega)).below ((Below.refl _ _).drew)
   have cX:Chg (fun _ => False) w (wt.setCell ⟨wo.heap.size,0,none⟩ (.int .i64 2)).drew:=(((Chg.of_below bo).trans (Chg.of_below bt)).thens k1 (fun k hk e => by omega)).trans (Chg.of_drew _)
   have zX:w.heap.size < (wt.setCell ⟨wo.heap.size,0,none⟩ (.int .i64 2)).drew.heap.size:=(show w.heap.size < (wt.setCell ⟨wo.heap.size,0,none⟩ (.int .i64 2)).heap.size by simp; omega)
   have K1:=take_add B s st v cs 2 T 0 false none none 0 0 0 0 (wt.setCell ⟨wo.heap.size,0,none⟩ (.int .i64 2)).drew sX hl (by decide) (by rw [Uh HTS]; omega)
   unfold fltV at K1
   refine K1.mono ?_
   clear K1
   generalize (wt.setCell ⟨wo.heap.size,0,none⟩ (.int .i64 2)).drew = wx at *
   rintro _ w2 ⟨rfl,v2,cs2,s2,k2⟩
   have nO:w.heap.size ≠ B:=by omega
   have nO2:v.ownBlock ≠ some w.heap.size:=fun e => by have:=(hS.row.ge e).2; omega
   have bY:=bX.keep k2 nO nO2
   have o0:=(bY.all 0 _ rfl).1
   have o0f:=(bY.all 0 _ rfl).2
   have o1:=(bY.all 1 _ rfl).1
   have o1f:=(bY.all 1 _ rfl).2
   have HF:=Hj (And.intro bY (And.intro s2 (And.intro k2 (And.intro cX (And.intro hS zX)))))
   clear hzo hz2 zX bo bt bT sT bO2 hS sX bX cX bY s2 k2 nO2 p0 p0f p1 p2 p3 p4 p5 c0 c1
   go_wp2_with fail
   obtain ⟨bY,s2,k2,cX,hS,zX⟩:=Uh HF
   have hf:=(bY.put 0 (.int .i64 0)).put 1 (.int .i64 0)
   have f0:=(hf.all 0 _ rfl).1
   have f1:=(hf.all 1 _ rfl).1
   have fB:=(s2.box.other (Y:=w.heap.size) 0 (.int .i64 0) (fun e => nO e.symm)).other (Y:=w.heap.size) 1 (.int .i64 0) (fun e => nO e.symm)
   have cW:Chg (fun j => j = w.heap.size) w2 ((w2.setCell ⟨w.heap.size,0,none⟩ (.int .i64 0)).setCell ⟨w.heap.size,1,none⟩ (.int .i64 0)):=(Chg.of_set (S:=fun j => j = w.heap.size) _ _ _ _ rfl).trans (Chg.of_set (S:=fun j => j = w.heap.size) _ _ _ _ rfl)
   have fC:ScC w ((w2.setCell ⟨w.heap.size,0,none⟩ (.int .i64 0)).setCell ⟨w.heap.size,1,none⟩ (.int .i64 0)) B v v2:=by
    refine ⟨((cX.mono (fun k hk e => e.elim)).thens k2.chg (fun k hk e => e)).thens cW (fun k hk e => by omega),fun j hj => ?_⟩
    rcases k2.new j hj with d | d
    ·exact .inl d
    ·exact .inr (Nat.le_trans cX.size d)
   have fR:=s2.row.chg cW (fun j hj e => by
    rcases k2.new j hj with d | d
    ·have:=(hS.row.ge d).2; omega
    ·omega)
   have hTs:=Uh HTS
   have hT':=Uh HT
   rw [hTs,← hT'] at fB fR
   generalize ((w2.setCell ⟨w.heap.size,0,none⟩ (.int .i64 0)).setCell ⟨w.heap.size,1,none⟩ (.int .i64 0)) = wf at *
   refine bodyPost_ret (by simp [results,Tryz.results21,go_sem,f0,f1]; try rfl) rfl ?_
   exact ⟨rfl,_,_,⟨fB,fR⟩,fC⟩
end Go.Proofs.YtjoaijbhpgekoaaGreatDoor
