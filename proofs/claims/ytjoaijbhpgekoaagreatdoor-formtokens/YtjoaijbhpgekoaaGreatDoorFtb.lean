/- Ftb -/
import Derived.Test.YtjoaijbhpgekoaaGreatDoorFt8a
namespace Go.Proofs.YtjoaijbhpgekoaaGreatDoor
open Go.RowKit Go.Deep
set_option linter.unusedVariables false
set_option maxRecDepth 100000 in
set_option maxHeartbeats 32000000 in
theorem step_letter_bad (B:Nat) (s:ByteArray) (st:TkS) (v:Value) (cs:List Value) (w:World) (hS:ScS w B 41 s st v cs) (hi:st.i < s.size) (hs:s.size ≤ 65536) (hc:ltrN (byA s st.i) = true) (a er:Int) (hN:∀ W,Below w.heap.size w W → ScS W B 41 s st v cs → Calls Tryz.prog 21 #[.pointer (some ⟨B,0,none⟩),.int .i64 (enR wrdN (s.extract st.i s.size) 0:Nat)] W fun e w' => e = .returned (fltV a er) ∧ Below W.heap.size W w') :
  Calls Tryz.prog 11 #[.pointer (some ⟨B,0,none⟩)] w fun e w' => e = .returned (fltV a er) ∧ Below w.heap.size w w':=by
 obtain ⟨wo,hwo⟩:∃ x,w.alloc (.cells #[.int .i64 0,.int .i64 0] 33) = x:=⟨_,rfl⟩
 have bo:Below w.heap.size w wo:=by rw [← hwo]; exact bAl
 have bO:BoxL wo w.heap.size [.int .i64 0,.int .i64 0]:=by have:=BoxL.made w #[.int .i64 0,.int .i64 0] 33; rw [hwo] at this; exact this
 have sS:=hS.below bo
 have hBl:=hS.box.lt
 have c0:=(sS.box.all 0 _ rfl).1
 have c1:=(sS.box.all 1 _ rfl).1
 have c1f:=(sS.box.all 1 _ rfl).2
 have t1:(0:Int) ≤ (st.i:Int):=by omega
 have t2:(st.i:Int) ≤ (s.size:Int):=by omega
 obtain ⟨R,hR⟩:∃ R,s.extract st.i s.size = R:=⟨_,rfl⟩
 have hRs:R.size = s.size - st.i:=by rw [← hR,ByteArray.size_extract]; omega
 have hR0:0 < R.size:=by omega
 have hRb:byA R 0 = byA s st.i:=by rw [← hR]; exact byA_ext (by omega) (Nat.le_refl _)
 have e1:=byA_get R 0 hR0
 have tr0:(0:Int) < (R.size:Int):=by omega
 have hcc:=hc
 unfold ltrN at hcc
 rw [decide_eq_true_eq] at hcc
 have n32:(((R[0]'hR0).toNat:Int) == 32) = false:=by simp; omega
 have n9:(((R[0]'hR0).toNat:Int) == 9) = false:=by simp; omega
 have n13:(((R[0]'hR0).toNat:Int) == 13) = false:=by simp; omega
 have n35:(((R[0]'hR0).toNat:Int) == 35) = false:=by simp; omega
 have n10:(((R[0]'hR0).toNat:Int) == 10) = false:=by simp; omega
 have n44:(((R[0]'hR0).toNat:Int) == 44) = false:=by simp; omega
 have n61:(((R[0]'hR0).toNat:Int) == 61) = false:=by simp; omega
 have n43:(((R[0]'hR0).toNat:Int) == 43) = false:=by simp; omega
 have n45:(((R[0]'hR0).toNat:Int) == 45) = false:=by simp; omega
 have n42:(((R[0]'hR0).toNat:Int) == 42) = false:=by simp; omega
 have n47:(((R[0]'hR0).toNat:Int) == 47) = false:=by simp; omega
 have n94:(((R[0]'hR0).toNat:Int) == 94) = false:=by simp; omega
 have n40:(((R[0]'hR0).toNat:Int) == 40) = false:=by simp; omega
 have n41:(((R[0]'hR0).toNat:Int) == 41) = false:=by simp; omega
 have n91:(((R[0]'hR0).toNat:Int) == 91) = false:=by simp; omega
 have e2:(R[0]'hR0).toNat = byA s st.i:=by omega
 have KD:=fun W => fdigit_any (R[0]'hR0).toNat W
 have hnd:dgtN (byA s st.i) = false:=by unfold dgtN; rw [decide_eq_false_iff_not]; omega
 have KL:=fun W => fletter_any (R[0]'hR0).toNat W
 rw [e2,hnd,← e2] at KD
 rw [e2,hc,← e2] at KL
 have HL:=Hj KL
 clear KL hnd
 have HD:=Hj KD
 clear KD e2 hcc
 have HZ:=Hj (fun (W:World) => fwsize_any R W (by omega))
 have hwd:Below w.heap.size w wo.drew:=bo.drew
 have hN1:=hN wo.drew hwd (sS.below ((Below.refl _ _).drew))
 rw [hR] at hN1
 unfold fltV at hN1
 have HN:=Hj hN1
 have HB:=Hj (And.intro bO (And.intro bo (And.intro hS sS)))
 have HR:=Hj hR
 clear hN hN1 hwd e1 hRb hRs hc bO bo hS sS
 go_enter Tryz.func11,Tryz.ntmps11
 go_wp2_with fail
 go_region
 go_wp2_with fail
 refine (Uh HD _).mono ?_
 rintro _ _ ⟨rfl,hw⟩
 obtain rfl:=hw.symm
 clear hw HD
 go_wp2_with fail
 refine (Uh HL _).mono ?_
 rintro _ _ ⟨rfl,hw⟩
 obtain rfl:=hw.symm
 clear hw HL
 go_wp2_with fail
 refine (Uh HZ _).mono ?_
 rintro _ _ ⟨rfl,hw⟩
 obtain rfl:=hw.symm
 clear hw HZ
 go_wp2_with fail
 refine (Uh HN).mono ?_
 rintro _ w2 ⟨rfl,b2⟩
 obtain ⟨bO,bo,hS,sS⟩:=Uh HB
 have b2':Below wo.heap.size wo w2:=(Below.refl _ _).drew.trans b2
 have bY:=bO.below b2'
 have cY:Below w.heap.size w w2:=bo.trans (b2'.mono bo.size)
 have q0:=(bY.all 0 _ rfl).1
 have q0f:=(bY.all 0 _ rfl).2
 have q1:=(bY.all 1 _ rfl).1
 have q1f:=(bY.all 1 _ rfl).2
 have HF:=Hj (And.intro bY cY)
 clear bO bo hS sS b2 b2' bY cY HN
 go_wp2_with fail
 obtain ⟨bY,cY⟩:=Uh HF
 have hf:=(bY.put 0 (.int .i64 a)).put 1 (.int .i64 er)
 have f0:=(hf.all 0 _ rfl).1
 have f1:=(hf.all 1 _ rfl).1
 have hb:Below w.heap.size w ((w2.setCell ⟨w.heap.size,0,none⟩ (.int .i64 a)).setCell ⟨w.heap.size,1,none⟩ (.int .i64 er)):=bel_put (bel_put cY (by omega) (Nat.le_refl _) 0 _) (by omega) (Nat.le_refl _) 1 _
 generalize ((w2.setCell ⟨w.heap.size,0,none⟩ (.int .i64 a)).setCell ⟨w.heap.size,1,none⟩ (.int .i64 er)) = wf at *
 refine bodyPost_ret (by simp [results,Tryz.results11,go_sem,f0,f1]; try rfl) rfl ?_
 exact ⟨rfl,hb⟩
set_option maxRecDepth 100000 in
set_option maxHeartbeats 32000000 in
theorem step_letter_good (B:Nat) (s:ByteArray) (st:TkS) (v:Value) (cs:List Value) (w:World) (hS:ScS w B 41 s st v cs) (hi:st.i < s.size) (hs:s.size ≤ 65536) (hc:ltrN (byA s st.i) = true) (st':TkS) (hN:∀ W,Below w.heap.size w W → ScS W B 41 s st v cs → Calls Tryz.prog 21 #[.pointer (some ⟨B,0,none⟩),.int .i64 (enR wrdN (s.extract st.i s.size) 0:Nat)] W fun e w' => e = .returned (fltV 0 0) ∧ ∃ v' cs',ScS w' B 41 s st' v' cs' ∧ ScC W w' B v v') :
  Calls Tryz.prog 11 #[.pointer (some ⟨B,0,none⟩)] w fun e w' => e = .returned (fltV 0 0) ∧ ∃ v' cs',ScS w' B 41 s st' v' cs' ∧ ScC w w' B v v':=by
 obtain ⟨wo,hwo⟩:∃ x,w.alloc (.cells #[.int .i64 0,.int .i64 0] 33) = x:=⟨_,rfl⟩
 have bo:Below w.heap.size w wo:=by rw [← hwo]; exact bAl
 have bO:BoxL wo w.heap.size [.int .i64 0,.int .i64 0]:=by have:=BoxL.made w #[.int .i64 0,.int .i64 0] 33; rw [hwo] at this; exact this
 have sS:=hS.below bo
 have hBl:=hS.box.lt
 have c0:=(sS.box.all 0 _ rfl).1
 have c1:=(sS.box.all 1 _ rfl).1
 have c1f:=(sS.box.all 1 _ rfl).2
 have t1:(0:Int) ≤ (st.i:Int):=by omega
 have t2:(st.i:Int) ≤ (s.size:Int):=by omega
 obtain ⟨R,hR⟩:∃ R,s.extract st.i s.size = R:=⟨_,rfl⟩
 have hRs:R.size = s.size - st.i:=by rw [← hR,ByteArray.size_extract]; omega
 have hR0:0 < R.size:=by omega
 have hRb:byA R 0 = byA s st.i:=by rw [← hR]; exact byA_ext (by omega) (Nat.le_refl _)
 have e1:=byA_get R 0 hR0
 have tr0:(0:Int) < (R.size:Int):=by omega
 have hcc:=hc
 unfold ltrN at hcc
 rw [decide_eq_true_eq] at hcc
 have n32:(((R[0]'hR0).toNat:Int) == 32) = false:=by simp; omega
 have n9:(((R[0]'hR0).toNat:Int) == 9) = false:=by simp; omega
 have n13:(((R[0]'hR0).toNat:Int) == 13) = false:=by simp; omega
 have n35:(((R[0]'hR0).toNat:Int) == 35) = false:=by simp; omega
 have n10:(((R[0]'hR0).toNat:Int) == 10) = false:=by simp; omega
 have n44:(((R[0]'hR0).toNat:Int) == 44) = false:=by simp; omega
 have n61:(((R[0]'hR0).toNat:Int) == 61) = false:=by simp; omega
 have n43:(((R[0]'hR0).toNat:Int) == 43) = false:=by simp; omega
 have n45:(((R[0]'hR0).toNat:Int) == 45) = false:=by simp; omega
 have n42:(((R[0]'hR0).toNat:Int) == 42) = false:=by simp; omega
 have n47:(((R[0]'hR0).toNat:Int) == 47) = false:=by simp; omega
 have n94:(((R[0]'hR0).toNat:Int) == 94) = false:=by simp; omega
 have n40:(((R[0]'hR0).toNat:Int) == 40) = false:=by simp; omega
 have n41:(((R[0]'hR0).toNat:Int) == 41) = false:=by simp; omega
 have n91:(((R[0]'hR0).toNat:Int) == 91) = false:=by simp; omega
 have e2:(R[0]'hR0).toNat = byA s st.i:=by omega
 have KD:=fun W => fdigit_any (R[0]'hR0).toNat W
 have hnd:dgtN (byA s st.i) = false:=by unfold dgtN; rw [decide_eq_false_iff_not]; omega
 have KL:=fun W => fletter_any (R[0]'hR0).toNat W
 rw [e2,hnd,← e2] at KD
 rw [e2,hc,← e2] at KL
 have HL:=Hj KL
 clear KL hnd
 have HD:=Hj KD
 clear KD e2 hcc
 have HZ:=Hj (fun (W:World) => fwsize_any R W (by omega))
 have hwd:Below w.heap.size w wo.drew:=bo.drew
 have hN1:=hN wo.drew hwd (sS.below ((Below.refl _ _).drew))
 rw [hR] at hN1
 unfold fltV at hN1
 have HN:=Hj hN1
 have HB:=Hj (And.intro bO (And.intro bo (And.intro hS sS)))
 have HR:=Hj hR
 clear hN hN1 hwd e1 hRb hRs hc bO bo hS sS
 go_enter Tryz.func11,Tryz.ntmps11
 go_wp2_with fail
 go_region
 go_wp2_with fail
 refine (Uh HD _).mono ?_
 rintro _ _ ⟨rfl,hw⟩
 obtain rfl:=hw.symm
 clear hw HD
 go_wp2_with fail
 refine (Uh HL _).mono ?_
 rintro _ _ ⟨rfl,hw⟩
 obtain rfl:=hw.symm
 clear hw HL
 go_wp2_with fail
 refine (Uh HZ _).mono ?_
 rintro _ _ ⟨rfl,hw⟩
 obtain rfl:=hw.symm
 clear hw HZ
 go_wp2_with fail
 refine (Uh HN).mono ?_
 rintro _ w2 ⟨rfl,v2,cs2,s2,k2⟩
 obtain ⟨bO,bo,hS,sS⟩:=Uh HB
 have nO:w.heap.size ≠ B:=by omega
 have nO2:v.ownBlock ≠ some w.heap.size:=fun e => by have:=(hS.row.ge e).2; omega
 have bY:=(bO.below ((Below.refl _ _).drew)).keep k2 nO nO2
 have q0:=(bY.all 0 _ rfl).1
 have q0f:=(bY.all 0 _ rfl).2
 have q1:=(bY.all 1 _ rfl).1
 have q1f:=(bY.all 1 _ rfl).2
 have HF:=Hj (And.intro bY (And.intro s2 (And.intro k2 (And.intro bo (And.intro hS bO.lt)))))
 clear bO bo hS sS bY s2 k2 nO2 HN
 go_wp2_with fail
 obtain ⟨bY,s2,k2,bo,hS,zX⟩:=Uh HF
 have zX2:w.heap.size < wo.drew.heap.size:=zX
 have bd:Below w.heap.size w wo.drew:=bo.drew
 have hf:=(bY.put 0 (.int .i64 0)).put 1 (.int .i64 0)
 have f0:=(hf.all 0 _ rfl).1
 have f1:=(hf.all 1 _ rfl).1
 have fB:=(s2.box.other (Y:=w.heap.size) 0 (.int .i64 0) (fun e => nO e.symm)).other (Y:=w.heap.size) 1 (.int .i64 0) (fun e => nO e.symm)
 have cW:Chg (fun j => j = w.heap.size) w2 ((w2.setCell ⟨w.heap.size,0,none⟩ (.int .i64 0)).setCell ⟨w.heap.size,1,none⟩ (.int .i64 0)):=(Chg.of_set (S:=fun j => j = w.heap.size) _ _ _ _ rfl).trans (Chg.of_set (S:=fun j => j = w.heap.size) _ _ _ _ rfl)
 have fC:ScC w ((w2.setCell ⟨w.heap.size,0,none⟩ (.int .i64 0)).setCell ⟨w.heap.size,1,none⟩ (.int .i64 0)) B v v2:=by
  refine ⟨((Chg.of_below bd).thens k2.chg (fun k hk e => e)).thens cW (fun k hk e => by omega),fun j hj => ?_⟩
  rcases k2.new j hj with d | d
  ·exact .inl d
  ·exact .inr (Nat.le_trans bd.size d)
 have fR:=s2.row.chg cW (fun j hj e => by
  rcases k2.new j hj with d | d
  ·have:=(hS.row.ge d).2; omega
  ·omega)
 generalize ((w2.setCell ⟨w.heap.size,0,none⟩ (.int .i64 0)).setCell ⟨w.heap.size,1,none⟩ (.int .i64 0)) = wf at *
 refine bodyPost_ret (by simp [results,Tryz.results11,go_sem,f0,f1]; try rfl) rfl ?_
 exact ⟨rfl,_,_,⟨fB,fR⟩,fC⟩
set_option maxRecDepth 100000 in
set_option maxHeartbeats 32000000 in
theorem step_digit_bad (B:Nat) (s:ByteArray) (st:TkS) (v:Value) (cs:List Value) (w:World) (hS:ScS w B 41 s st v cs) (hi:st.i < s.size) (hs:s.size ≤ 65536) (hc:dgtN (byA s st.i) = true) (a er:Int) (hN:∀ W,Below w.heap.size w W → ScS W B 41 s st v cs → Calls Tryz.prog 16 #[.pointer (some ⟨B,0,none⟩),.int .i64 (plE (s.extract st.i s.size) 0:Nat)] W fun e w' => e = .returned (fltV a er) ∧ Below W.heap.size W w') :
  Calls Tryz.prog 11 #[.pointer (some ⟨B,0,none⟩)] w fun e w' => e = .returned (fltV a er) ∧ Below w.heap.size w w':=by
 obtain ⟨wo,hwo⟩:∃ x,w.alloc (.cells #[.int .i64 0,.int .i64 0] 33) = x:=⟨_,rfl⟩
 have bo:Below w.heap.size w wo:=by rw [← hwo]; exact bAl
 have bO:BoxL wo w.heap.size [.int .i64 0,.int .i64 0]:=by have:=BoxL.made w #[.int .i64 0,.int .i64 0] 33; rw [hwo] at this; exact this
 have sS:=hS.below bo
 have hBl:=hS.box.lt
 have c0:=(sS.box.all 0 _ rfl).1
 have c1:=(sS.box.all 1 _ rfl).1
 have c1f:=(sS.box.all 1 _ rfl).2
 have t1:(0:Int) ≤ (st.i:Int):=by omega
 have t2:(st.i:Int) ≤ (s.size:Int):=by omega
 obtain ⟨R,hR⟩:∃ R,s.extract st.i s.size = R:=⟨_,rfl⟩
 have hRs:R.size = s.size - st.i:=by rw [← hR,ByteArray.size_extract]; omega
 have hR0:0 < R.size:=by omega
 have hRb:byA R 0 = byA s st.i:=by rw [← hR]; exact byA_ext (by omega) (Nat.le_refl _)
 have e1:=byA_get R 0 hR0
 have tr0:(0:Int) < (R.size:Int):=by omega
 have hcc:=hc
 unfold dgtN at hcc
 rw [decide_eq_true_eq] at hcc
 have n32:(((R[0]'hR0).toNat:Int) == 32) = false:=by simp; omega
 have n9:(((R[0]'hR0).toNat:Int) == 9) = false:=by simp; omega
 have n13:(((R[0]'hR0).toNat:Int) == 13) = false:=by simp; omega
 have n35:(((R[0]'hR0).toNat:Int) == 35) = false:=by simp; omega
 have n10:(((R[0]'hR0).toNat:Int) == 10) = false:=by simp; omega
 have n44:(((R[0]'hR0).toNat:Int) == 44) = false:=by simp; omega
 have n61:(((R[0]'hR0).toNat:Int) == 61) = false:=by simp; omega
 have n43:(((R[0]'hR0).toNat:Int) == 43) = false:=by simp; omega
 have n45:(((R[0]'hR0).toNat:Int) == 45) = false:=by simp; omega
 have n42:(((R[0]'hR0).toNat:Int) == 42) = false:=by simp; omega
 have n47:(((R[0]'hR0).toNat:Int) == 47) = false:=by simp; omega
 have n94:(((R[0]'hR0).toNat:Int) == 94) = false:=by simp; omega
 have n40:(((R[0]'hR0).toNat:Int) == 40) = false:=by simp; omega
 have n41:(((R[0]'hR0).toNat:Int) == 41) = false:=by simp; omega
 have n91:(((R[0]'hR0).toNat:Int) == 91) = false:=by simp; omega
 have e2:(R[0]'hR0).toNat = byA s st.i:=by omega
 have KD:=fun W => fdigit_any (R[0]'hR0).toNat W
 rw [e2,hc,← e2] at KD
 have HD:=Hj KD
 clear KD e2 hcc
 have HZ:=Hj (fun (W:World) => fplain_any R W (by omega))
 have hwd:Below w.heap.size w wo.drew:=bo.drew
 have hN1:=hN wo.drew hwd (sS.below ((Below.refl _ _).drew))
 rw [hR] at hN1
 unfold fltV at hN1
 have HN:=Hj hN1
 have HB:=Hj (And.intro bO (And.intro bo (And.intro hS sS)))
 have HR:=Hj hR
 clear hN hN1 hwd e1 hRb hRs hc bO bo hS sS
 go_enter Tryz.func11,Tryz.ntmps11
 go_wp2_with fail
 go_region
 go_wp2_with fail
 refine (Uh HD _).mono ?_
 rintro _ _ ⟨rfl,hw⟩
 obtain rfl:=hw.symm
 clear hw HD
 go_wp2_with fail
 refine (Uh HZ _).mono ?_
 rintro _ _ ⟨rfl,hw⟩
 obtain rfl:=hw.symm
 clear hw HZ
 go_wp2_with fail
 refine (Uh HN).mono ?_
 rintro _ w2 ⟨rfl,b2⟩
 obtain ⟨bO,bo,hS,sS⟩:=Uh HB
 have b2':Below wo.heap.size wo w2:=(Below.refl _ _).drew.trans b2
 have bY:=bO.below b2'
 have cY:Below w.heap.size w w2:=bo.trans (b2'.mono bo.size)
 have q0:=(bY.all 0 _ rfl).1
 have q0f:=(bY.all 0 _ rfl).2
 have q1:=(bY.all 1 _ rfl).1
 have q1f:=(bY.all 1 _ rfl).2
 have HF:=Hj (And.intro bY cY)
 clear bO bo hS sS b2 b2' bY cY HN
 go_wp2_with fail
 obtain ⟨bY,cY⟩:=Uh HF
 have hf:=(bY.put 0 (.int .i64 a)).put 1 (.int .i64 er)
 have f0:=(hf.all 0 _ rfl).1
 have f1:=(hf.all 1 _ rfl).1
 have hb:Below w.heap.size w ((w2.setCell ⟨w.heap.size,0,none⟩ (.int .i64 a)).setCell ⟨w.heap.size,1,none⟩ (.int .i64 er)):=bel_put (bel_put cY (by omega) (Nat.le_refl _) 0 _) (by omega) (Nat.le_refl _) 1 _
 generalize ((w2.setCell ⟨w.heap.size,0,none⟩ (.int .i64 a)).setCell ⟨w.heap.size,1,none⟩ (.int .i64 er)) = wf at *
 refine bodyPost_ret (by simp [results,Tryz.results11,go_sem,f0,f1]; try rfl) rfl ?_
 exact ⟨rfl,hb⟩
set_option maxRecDepth 100000 in
set_option maxHeartbeats 32000000 in
theorem step_digit_good (B:Nat) (s:ByteArray) (st:TkS) (v:Value) (cs:List Value) (w:World) (hS:ScS w B 41 s st v cs) (hi:st.i < s.size) (hs:s.size ≤ 65536) (hc:dgtN (byA s st.i) = true) (st':TkS) (hN:∀ W,Below w.heap.size w W → ScS W B 41 s st v cs → Calls Tryz.prog 16 #[.pointer (some ⟨B,0,none⟩),.int .i64 (plE (s.extract st.i s.size) 0:Nat)] W fun e w' => e = .returned (fltV 0 0) ∧ ∃ v' cs',ScS w' B 41 s st' v' cs' ∧ ScC W w' B v v') :
  Calls Tryz.prog 11 #[.pointer (some ⟨B,0,none⟩)] w fun e w' => e = .returned (fltV 0 0) ∧ ∃ v' cs',ScS w' B 41 s st' v' cs' ∧ ScC w w' B v v':=by
 obtain ⟨wo,hwo⟩:∃ x,w.alloc (.cells #[.int .i64 0,.int .i64 0] 33) = x:=⟨_,rfl⟩
 have bo:Below w.heap.size w wo:=by rw [← hwo]; exact bAl
 have bO:BoxL wo w.heap.size [.int .i64 0,.int .i64 0]:=by have:=BoxL.made w #[.int .i64 0,.int .i64 0] 33; rw [hwo] at this; exact this
 have sS:=hS.below bo
 have hBl:=hS.box.lt
 have c0:=(sS.box.all 0 _ rfl).1
 have c1:=(sS.box.all 1 _ rfl).1
 have c1f:=(sS.box.all 1 _ rfl).2
 have t1:(0:Int) ≤ (st.i:Int):=by omega
 have t2:(st.i:Int) ≤ (s.size:Int):=by omega
 obtain ⟨R,hR⟩:∃ R,s.extract st.i s.size = R:=⟨_,rfl⟩
 have hRs:R.size = s.size - st.i:=by rw [← hR,ByteArray.size_extract]; omega
 have hR0:0 < R.size:=by omega
 have hRb:byA R 0 = byA s st.i:=by rw [← hR]; exact byA_ext (by omega) (Nat.le_refl _)
 have e1:=byA_get R 0 hR0
 have tr0:(0:Int) < (R.size:Int):=by omega
 have hcc:=hc
 unfold dgtN at hcc
 rw [decide_eq_true_eq] at hcc
 have n32:(((R[0]'hR0).toNat:Int) == 32) = false:=by simp; omega
 have n9:(((R[0]'hR0).toNat:Int) == 9) = false:=by simp; omega
 have n13:(((R[0]'hR0).toNat:Int) == 13) = false:=by simp; omega
 have n35:(((R[0]'hR0).toNat:Int) == 35) = false:=by simp; omega
 have n10:(((R[0]'hR0).toNat:Int) == 10) = false:=by simp; omega
 have n44:(((R[0]'hR0).toNat:Int) == 44) = false:=by simp; omega
 have n61:(((R[0]'hR0).toNat:Int) == 61) = false:=by simp; omega
 have n43:(((R[0]'hR0).toNat:Int) == 43) = false:=by simp; omega
 have n45:(((R[0]'hR0).toNat:Int) == 45) = false:=by simp; omega
 have n42:(((R[0]'hR0).toNat:Int) == 42) = false:=by simp; omega
 have n47:(((R[0]'hR0).toNat:Int) == 47) = false:=by simp; omega
 have n94:(((R[0]'hR0).toNat:Int) == 94) = false:=by simp; omega
 have n40:(((R[0]'hR0).toNat:Int) == 40) = false:=by simp; omega
 have n41:(((R[0]'hR0).toNat:Int) == 41) = false:=by simp; omega
 have n91:(((R[0]'hR0).toNat:Int) == 91) = false:=by simp; omega
 have e2:(R[0]'hR0).toNat = byA s st.i:=by omega
 have KD:=fun W => fdigit_any (R[0]'hR0).toNat W
 rw [e2,hc,← e2] at KD
 have HD:=Hj KD
 clear KD e2 hcc
 have HZ:=Hj (fun (W:World) => fplain_any R W (by omega))
 have hwd:Below w.heap.size w wo.drew:=bo.drew
 have hN1:=hN wo.drew hwd (sS.below ((Below.refl _ _).drew))
 rw [hR] at hN1
 unfold fltV at hN1
 have HN:=Hj hN1
 have HB:=Hj (And.intro bO (And.intro bo (And.intro hS sS)))
 have HR:=Hj hR
 clear hN hN1 hwd e1 hRb hRs hc bO bo hS sS
 go_enter Tryz.func11,Tryz.ntmps11
 go_wp2_with fail
 go_region
 go_wp2_with fail
 refine (Uh HD _).mono ?_
 rintro _ _ ⟨rfl,hw⟩
 obtain rfl:=hw.symm
 clear hw HD
 go_wp2_with fail
 refine (Uh HZ _).mono ?_
 rintro _ _ ⟨rfl,hw⟩
 obtain rfl:=hw.symm
 clear hw HZ
 go_wp2_with fail
 refine (Uh HN).mono ?_
 rintro _ w2 ⟨rfl,v2,cs2,s2,k2⟩
 obtain ⟨bO,bo,hS,sS⟩:=Uh HB
 have nO:w.heap.size ≠ B:=by omega
 have nO2:v.ownBlock ≠ some w.heap.size:=fun e => by have:=(hS.row.ge e).2; omega
 have bY:=(bO.below ((Below.refl _ _).drew)).keep k2 nO nO2
 have q0:=(bY.all 0 _ rfl).1
 have q0f:=(bY.all 0 _ rfl).2
 have q1:=(bY.all 1 _ rfl).1
 have q1f:=(bY.all 1 _ rfl).2
 have HF:=Hj (And.intro bY (And.intro s2 (And.intro k2 (And.intro bo (And.intro hS bO.lt)))))
 clear bO bo hS sS bY s2 k2 nO2 HN
 go_wp2_with fail
 obtain ⟨bY,s2,k2,bo,hS,zX⟩:=Uh HF
 have zX2:w.heap.size < wo.drew.heap.size:=zX
 have bd:Below w.heap.size w wo.drew:=bo.drew
 have hf:=(bY.put 0 (.int .i64 0)).put 1 (.int .i64 0)
 have f0:=(hf.all 0 _ rfl).1
 have f1:=(hf.all 1 _ rfl).1
 have fB:=(s2.box.other (Y:=w.heap.size) 0 (.int .i64 0) (fun e => nO e.symm)).other (Y:=w.heap.size) 1 (.int .i64 0) (fun e => nO e.symm)
 have cW:Chg (fun j => j = w.heap.size) w2 ((w2.setCell ⟨w.heap.size,0,none⟩ (.int .i64 0)).setCell ⟨w.heap.size,1,none⟩ (.int .i64 0)):=(Chg.of_set (S:=fun j => j = w.heap.size) _ _ _ _ rfl).trans (Chg.of_set (S:=fun j => j = w.heap.size) _ _ _ _ rfl)
 have fC:ScC w ((w2.setCell ⟨w.heap.size,0,none⟩ (.int .i64 0)).setCell ⟨w.heap.size,1,none⟩ (.int .i64 0)) B v v2:=by
  refine ⟨((Chg.of_below bd).thens k2.chg (fun k hk e => e)).thens cW (fun k hk e => by omega),fun j hj => ?_⟩
  rcases k2.new j hj with d | d
  ·exact .inl d
  ·exact .inr (Nat.le_trans bd.size d)
 have fR:=s2.row.chg cW (fun j hj e => by
  rcases k2.new j hj with d | d
  ·have:=(hS.row.ge d).2; omega
  ·omega)
 generalize ((w2.setCell ⟨w.heap.size,0,none⟩ (.int .i64 0)).setCell ⟨w.heap.size,1,none⟩ (.int .i64 0)) = wf at *
 refine bodyPost_ret (by simp [results,Tryz.results11,go_sem,f0,f1]; try rfl) rfl ?_
 exact ⟨rfl,_,_,⟨fB,fR⟩,fC⟩
set_option maxRecDepth 100000 in
set_option maxHeartbeats 32000000 in
theorem step_brack_bad (B:Nat) (s:ByteArray) (st:TkS) (v:Value) (cs:List Value) (w:World) (hS:ScS w B 41 s st v cs) (hi:st.i < s.size) (hs:s.size ≤ 65536) (hc:byA s st.i = 91) (a er:Int) (hN:∀ W,Below w.heap.size w W → ScS W B 41 s st v cs → Calls Tryz.prog 16 #[.pointer (some ⟨B,0,none⟩),.int .i64 (bzE (s.extract st.i s.size):Nat)] W fun e w' => e = .returned (fltV a er) ∧ Below W.heap.size W w') :
  Calls Tryz.prog 11 #[.pointer (some ⟨B,0,none⟩)] w fun e w' => e = .returned (fltV a er) ∧ Below w.heap.size w w':=by
 obtain ⟨wo,hwo⟩:∃ x,w.alloc (.cells #[.int .i64 0,.int .i64 0] 33) = x:=⟨_,rfl⟩
 have bo:Below w.heap.size w wo:=by rw [← hwo]; exact bAl
 have bO:BoxL wo w.heap.size [.int .i64 0,.int .i64 0]:=by have:=BoxL.made w #[.int .i64 0,.int .i64 0] 33; rw [hwo] at this; exact this
 have sS:=hS.below bo
 have hBl:=hS.box.lt
 have c0:=(sS.box.all 0 _ rfl).1
 have c1:=(sS.box.all 1 _ rfl).1
 have c1f:=(sS.box.all 1 _ rfl).2
 have t1:(0:Int) ≤ (st.i:Int):=by omega
 have t2:(st.i:Int) ≤ (s.size:Int):=by omega
 obtain ⟨R,hR⟩:∃ R,s.extract st.i s.size = R:=⟨_,rfl⟩
 have hRs:R.size = s.size - st.i:=by rw [← hR,ByteArray.size_extract]; omega
 have hR0:0 < R.size:=by omega
 have hRb:byA R 0 = byA s st.i:=by rw [← hR]; exact byA_ext (by omega) (Nat.le_refl _)
 have e1:=byA_get R 0 hR0
 have tr0:(0:Int) < (R.size:Int):=by omega
 have hc':((R[0]'hR0).toNat:Int) = 91:=by omega
 have HZ:=Hj (fun (W:World) => fbrack_any R W (by omega) (by omega))
 have hwd:Below w.heap.size w wo.drew:=bo.drew
 have hN1:=hN wo.drew hwd (sS.below ((Below.refl _ _).drew))
 rw [hR] at hN1
 unfold fltV at hN1
 have HN:=Hj hN1
 have HB:=Hj (And.intro bO (And.intro bo (And.intro hS sS)))
 have HR:=Hj hR
 clear hN hN1 hwd e1 hRb hRs hc bO bo hS sS
 go_enter Tryz.func11,Tryz.ntmps11
 go_wp2_with fail
 go_region
 go_wp2_with fail
 refine (Uh HZ _).mono ?_
 rintro _ _ ⟨rfl,hw⟩
 obtain rfl:=hw.symm
 clear hw HZ
 go_wp2_with fail
 refine (Uh HN).mono ?_
 rintro _ w2 ⟨rfl,b2⟩
 obtain ⟨bO,bo,hS,sS⟩:=Uh HB
 have b2':Below wo.heap.size wo w2:=(Below.refl _ _).drew.trans b2
 have bY:=bO.below b2'
 have cY:Below w.heap.size w w2:=bo.trans (b2'.mono bo.size)
 have q0:=(bY.all 0 _ rfl).1
 have q0f:=(bY.all 0 _ rfl).2
 have q1:=(bY.all 1 _ rfl).1
 have q1f:=(bY.all 1 _ rfl).2
 have HF:=Hj (And.intro bY cY)
 clear bO bo hS sS b2 b2' bY cY HN
 go_wp2_with fail
 obtain ⟨bY,cY⟩:=Uh HF
 have hf:=(bY.put 0 (.int .i64 a)).put 1 (.int .i64 er)
 have f0:=(hf.all 0 _ rfl).1
 have f1:=(hf.all 1 _ rfl).1
 have hb:Below w.heap.size w ((w2.setCell ⟨w.heap.size,0,none⟩ (.int .i64 a)).setCell ⟨w.heap.size,1,none⟩ (.int .i64 er)):=bel_put (bel_put cY (by omega) (Nat.le_refl _) 0 _) (by omega) (Nat.le_refl _) 1 _
 generalize ((w2.setCell ⟨w.heap.size,0,none⟩ (.int .i64 a)).setCell ⟨w.heap.size,1,none⟩ (.int .i64 er)) = wf at *
 refine bodyPost_ret (by simp [results,Tryz.results11,go_sem,f0,f1]; try rfl) rfl ?_
 exact ⟨rfl,hb⟩
set_option maxRecDepth 100000 in
set_option maxHeartbeats 32000000 in
theorem step_brack_good (B:Nat) (s:ByteArray) (st:TkS) (v:Value) (cs:List Value) (w:World) (hS:ScS w B 41 s st v cs) (hi:st.i < s.size) (hs:s.size ≤ 65536) (hc:byA s st.i = 91) (st':TkS) (hN:∀ W,Below w.heap.size w W → ScS W B 41 s st v cs → Calls Tryz.prog 16 #[.pointer (some ⟨B,0,none⟩),.int .i64 (bzE (s.extract st.i s.size):Nat)] W fun e w' => e = .returned (fltV 0 0) ∧ ∃ v' cs',ScS w' B 41 s st' v' cs' ∧ ScC W w' B v v') :
  Calls Tryz.prog 11 #[.pointer (some ⟨B,0,none⟩)] w fun e w' => e = .returned (fltV 0 0) ∧ ∃ v' cs',ScS w' B 41 s st' v' cs' ∧ ScC w w' B v v':=by
 obtain ⟨wo,hwo⟩:∃ x,w.alloc (.cells #[.int .i64 0,.int .i64 0] 33) = x:=⟨_,rfl⟩
 have bo:Below w.heap.size w wo:=by rw [← hwo]; exact bAl
 have bO:BoxL wo w.heap.size [.int .i64 0,.int .i64 0]:=by have:=BoxL.made w #[.int .i64 0,.int .i64 0] 33; rw [hwo] at this; exact this
 have sS:=hS.below bo
 have hBl:=hS.box.lt
 have c0:=(sS.box.all 0 _ rfl).1
 have c1:=(sS.box.all 1 _ rfl).1
 have c1f:=(sS.box.all 1 _ rfl).2
 have t1:(0:Int) ≤ (st.i:Int):=by omega
 have t2:(st.i:Int) ≤ (s.size:Int):=by omega
 obtain ⟨R,hR⟩:∃ R,s.extract st.i s.size = R:=⟨_,rfl⟩
 have hRs:R.size = s.size - st.i:=by rw [← hR,ByteArray.size_extract]; omega
 have hR0:0 < R.size:=by omega
 have hRb:byA R 0 = byA s st.i:=by rw [← hR]; exact byA_ext (by omega) (Nat.le_refl _)
 have e1:=byA_get R 0 hR0
 have tr0:(0:Int) < (R.size:Int):=by omega
 have hc':((R[0]'hR0).toNat:Int) = 91:=by omega
 have HZ:=Hj (fun (W:World) => fbrack_any R W (by omega) (by omega))
 have hwd:Below w.heap.size w wo.drew:=bo.drew
 have hN1:=hN wo.drew hwd (sS.below ((Below.refl _ _).drew))
 rw [hR] at hN1
 unfold fltV at hN1
 have HN:=Hj hN1
 have HB:=Hj (And.intro bO (And.intro bo (And.intro hS sS)))
 have HR:=Hj hR
 clear hN hN1 hwd e1 hRb hRs hc bO bo hS sS
 go_enter Tryz.func11,Tryz.ntmps11
 go_wp2_with fail
 go_region
 go_wp2_with fail
 refine (Uh HZ _).mono ?_
 rintro _ _ ⟨rfl,hw⟩
 obtain rfl:=hw.symm
 clear hw HZ
 go_wp2_with fail
 refine (Uh HN).mono ?_
 rintro _ w2 ⟨rfl,v2,cs2,s2,k2⟩
 obtain ⟨bO,bo,hS,sS⟩:=Uh HB
 have nO:w.heap.size ≠ B:=by omega
 have nO2:v.ownBlock ≠ some w.heap.size:=fun e => by have:=(hS.row.ge e).2; omega
 have bY:=(bO.below ((Below.refl _ _).drew)).keep k2 nO nO2
 have q0:=(bY.all 0 _ rfl).1
 have q0f:=(bY.all 0 _ rfl).2
 have q1:=(bY.all 1 _ rfl).1
 have q1f:=(bY.all 1 _ rfl).2
 have HF:=Hj (And.intro bY (And.intro s2 (And.intro k2 (And.intro bo (And.intro hS bO.lt)))))
 clear bO bo hS sS bY s2 k2 nO2 HN
 go_wp2_with fail
 obtain ⟨bY,s2,k2,bo,hS,zX⟩:=Uh HF
 have zX2:w.heap.size < wo.drew.heap.size:=zX
 have bd:Below w.heap.size w wo.drew:=bo.drew
 have hf:=(bY.put 0 (.int .i64 0)).put 1 (.int .i64 0)
 have f0:=(hf.all 0 _ rfl).1
 have f1:=(hf.all 1 _ rfl).1
 have fB:=(s2.box.other (Y:=w.heap.size) 0 (.int .i64 0) (fun e => nO e.symm)).other (Y:=w.heap.size) 1 (.int .i64 0) (fun e => nO e.symm)
 have cW:Chg (fun j => j = w.heap.size) w2 ((w2.setCell ⟨w.heap.size,0,none⟩ (.int .i64 0)).setCell ⟨w.heap.size,1,none⟩ (.int .i64 0)):=(Chg.of_set (S:=fun j => j = w.heap.size) _ _ _ _ rfl).trans (Chg.of_set (S:=fun j => j = w.heap.size) _ _ _ _ rfl)
 have fC:ScC w ((w2.setCell ⟨w.heap.size,0,none⟩ (.int .i64 0)).setCell ⟨w.heap.size,1,none⟩ (.int .i64 0)) B v v2:=by
  refine ⟨((Chg.of_below bd).thens k2.chg (fun k hk e => e)).thens cW (fun k hk e => by omega),fun j hj => ?_⟩
  rcases k2.new j hj with d | d
  ·exact .inl d
  ·exact .inr (Nat.le_trans bd.size d)
 have fR:=s2.row.chg cW (fun j hj e => by
  rcases k2.new j hj with d | d
  ·have:=(hS.row.ge d).2; omega
  ·omega)
 generalize ((w2.setCell ⟨w.heap.size,0,none⟩ (.int .i64 0)).setCell ⟨w.heap.size,1,none⟩ (.int .i64 0)) = wf at *
 refine bodyPost_ret (by simp [results,Tryz.results11,go_sem,f0,f1]; try rfl) rfl ?_
 exact ⟨rfl,_,_,⟨fB,fR⟩,fC⟩
set_option maxRecDepth 100000 in
set_option maxHeartbeats 32000000 in
theorem step_mark_bad (B:Nat) (s:ByteArray) (st:TkS) (v:Value) (cs:List Value) (w:World) (hS:ScS w B 41 s st v cs) (hi:st.i < s.size) (hs:s.size ≤ 65536) (hc:byA s st.i = 44 ∨ byA s st.i = 61 ∨ byA s st.i = 43 ∨ byA s st.i = 45 ∨ byA s st.i = 42 ∨ byA s st.i = 47 ∨ byA s st.i = 94 ∨ byA s st.i = 40 ∨ byA s st.i = 41) (a er:Int) (hN:∀ W,Below w.heap.size w W → ScS W B 41 s st v cs → Calls Tryz.prog 15 #[.pointer (some ⟨B,0,none⟩),.agg #[.int .i64 4,.string ((s.extract st.i s.size).extract 0 1),.int .i64 0,.bool false,.slice none 0 0,.slice none 0 0]] W fun e w' => e = .returned (fltV a er) ∧ Below W.heap.size W w') :
  Calls Tryz.prog 11 #[.pointer (some ⟨B,0,none⟩)] w fun e w' => e = .returned (fltV a er) ∧ Below w.heap.size w w':=by
 obtain ⟨wo,hwo⟩:∃ x,w.alloc (.cells #[.int .i64 0,.int .i64 0] 33) = x:=⟨_,rfl⟩
 have bo:Below w.heap.size w wo:=by rw [← hwo]; exact bAl
 have bO:BoxL wo w.heap.size [.int .i64 0,.int .i64 0]:=by have:=BoxL.made w #[.int .i64 0,.int .i64 0] 33; rw [hwo] at this; exact this
 have sS:=hS.below bo
 have hBl:=hS.box.lt
 have c0:=(sS.box.all 0 _ rfl).1
 have c1:=(sS.box.all 1 _ rfl).1
 have c1f:=(sS.box.all 1 _ rfl).2
 have t1:(0:Int) ≤ (st.i:Int):=by omega
 have t2:(st.i:Int) ≤ (s.size:Int):=by omega
 obtain ⟨R,hR⟩:∃ R,s.extract st.i s.size = R:=⟨_,rfl⟩
 have hRs:R.size = s.size - st.i:=by rw [← hR,ByteArray.size_extract]; omega
 have hR0:0 < R.size:=by omega
 have hRb:byA R 0 = byA s st.i:=by rw [← hR]; exact byA_ext (by omega) (Nat.le_refl _)
 have e1:=byA_get R 0 hR0
 have tr0:(0:Int) < (R.size:Int):=by omega
 have hc':((R[0]'hR0).toNat:Int) = 44 ∨ ((R[0]'hR0).toNat:Int) = 61 ∨ ((R[0]'hR0).toNat:Int) = 43 ∨ ((R[0]'hR0).toNat:Int) = 45 ∨ ((R[0]'hR0).toNat:Int) = 42 ∨ ((R[0]'hR0).toNat:Int) = 47 ∨ ((R[0]'hR0).toNat:Int) = 94 ∨ ((R[0]'hR0).toNat:Int) = 40 ∨ ((R[0]'hR0).toNat:Int) = 41:=by omega
 have tR1:(1:Int) ≤ (R.size:Int):=by omega
 have hwd:Below w.heap.size w wo.drew:=bo.drew
 have hN1:=hN wo.drew hwd (sS.below ((Below.refl _ _).drew))
 rw [hR] at hN1
 unfold fltV at hN1
 have HN:=Hj hN1
 have HB:=Hj (And.intro bO (And.intro bo (And.intro hS sS)))
 have HR:=Hj hR
 clear hN hN1 hwd e1 hRb hRs hc bO bo hS sS
 rcases hc' with hc | hc | hc | hc | hc | hc | hc | hc | hc
 all_goals
  go_enter Tryz.func11,Tryz.ntmps11
  go_wp2_with fail
  go_region
  go_wp2_with fail
  refine (Uh HN).mono ?_
  rintro _ w2 ⟨rfl,b2⟩
  obtain ⟨bO,bo,hS,sS⟩:=Uh HB
  have b2':Below wo.heap.size wo w2:=(Below.refl _ _).drew.trans b2
  have bY:=bO.below b2'
  have cY:Below w.heap.size w w2:=bo.trans (b2'.mono bo.size)
  have q0:=(bY.all 0 _ rfl).1
  have q0f:=(bY.all 0 _ rfl).2
  have q1:=(bY.all 1 _ rfl).1
  have q1f:=(bY.all 1 _ rfl).2
  have HF:=Hj (And.intro bY cY)
  clear bO bo hS sS b2 b2' bY cY HN
  go_wp2_with fail
  obtain ⟨bY,cY⟩:=Uh HF
  have hf:=(bY.put 0 (.int .i64 a)).put 1 (.int .i64 er)
  have f0:=(hf.all 0 _ rfl).1
  have f1:=(hf.all 1 _ rfl).1
  have hb:Below w.heap.size w ((w2.setCell ⟨w.heap.size,0,none⟩ (.int .i64 a)).setCell ⟨w.heap.size,1,none⟩ (.int .i64 er)):=bel_put (bel_put cY (by omega) (Nat.le_refl _) 0 _) (by omega) (Nat.le_refl _) 1 _
  generalize ((w2.setCell ⟨w.heap.size,0,none⟩ (.int .i64 a)).setCell ⟨w.heap.size,1,none⟩ (.int .i64 er)) = wf at *
  refine bodyPost_ret (by simp [results,Tryz.results11,go_sem,f0,f1]; try rfl) rfl ?_
  exact ⟨rfl,hb⟩
set_option maxRecDepth 100000 in
set_option maxHeartbeats 32000000 in
theorem step_mark_good (B:Nat) (s:ByteArray) (st:TkS) (v:Value) (cs:List Value) (w:World) (hS:ScS w B 41 s st v cs) (hi:st.i < s.size) (hs:s.size ≤ 65536) (hc:byA s st.i = 44 ∨ byA s st.i = 61 ∨ byA s st.i = 43 ∨ byA s st.i = 45 ∨ byA s st.i = 42 ∨ byA s st.i = 47 ∨ byA s st.i = 94 ∨ byA s st.i = 40 ∨ byA s st.i = 41) (st':TkS) (hN:∀ W,Below w.heap.size w W → ScS W B 41 s st v cs → Calls Tryz.prog 15 #[.pointer (some ⟨B,0,none⟩),.agg #[.int .i64 4,.string ((s.extract st.i s.size).extract 0 1),.int .i64 0,.bool false,.slice none 0 0,.slice none 0 0]] W fun e w' => e = .returned (fltV 0 0) ∧ ∃ v' cs',ScS w' B 41 s st' v' cs' ∧ ScC W w' B v v') :
  Calls Tryz.prog 11 #[.pointer (some ⟨B,0,none⟩)] w fun e w' => e = .returned (fltV 0 0) ∧ ∃ v' cs',ScS w' B 41 s st' v' cs' ∧ ScC w w' B v v':=by
 obtain ⟨wo,hwo⟩:∃ x,w.alloc (.cells #[.int .i64 0,.int .i64 0] 33) = x:=⟨_,rfl⟩
 have bo:Below w.heap.size w wo:=by rw [← hwo]; exact bAl
 have bO:BoxL wo w.heap.size [.int .i64 0,.int .i64 0]:=by have:=BoxL.made w #[.int .i64 0,.int .i64 0] 33; rw [hwo] at this; exact this
 have sS:=hS.below bo
 have hBl:=hS.box.lt
 have c0:=(sS.box.all 0 _ rfl).1
 have c1:=(sS.box.all 1 _ rfl).1
 have c1f:=(sS.box.all 1 _ rfl).2
 have t1:(0:Int) ≤ (st.i:Int):=by omega
 have t2:(st.i:Int) ≤ (s.size:Int):=by omega
 obtain ⟨R,hR⟩:∃ R,s.extract st.i s.size = R:=⟨_,rfl⟩
 have hRs:R.size = s.size - st.i:=by rw [← hR,ByteArray.size_extract]; omega
 have hR0:0 < R.size:=by omega
 have hRb:byA R 0 = byA s st.i:=by rw [← hR]; exact byA_ext (by omega) (Nat.le_refl _)
 have e1:=byA_get R 0 hR0
 have tr0:(0:Int) < (R.size:Int):=by omega
 have hc':((R[0]'hR0).toNat:Int) = 44 ∨ ((R[0]'hR0).toNat:Int) = 61 ∨ ((R[0]'hR0).toNat:Int) = 43 ∨ ((R[0]'hR0).toNat:Int) = 45 ∨ ((R[0]'hR0).toNat:Int) = 42 ∨ ((R[0]'hR0).toNat:Int) = 47 ∨ ((R[0]'hR0).toNat:Int) = 94 ∨ ((R[0]'hR0).toNat:Int) = 40 ∨ ((R[0]'hR0).toNat:Int) = 41:=by omega
 have tR1:(1:Int) ≤ (R.size:Int):=by omega
 have hwd:Below w.heap.size w wo.drew:=bo.drew
 have hN1:=hN wo.drew hwd (sS.below ((Below.refl _ _).drew))
 rw [hR] at hN1
 unfold fltV at hN1
 have HN:=Hj hN1
 have HB:=Hj (And.intro bO (And.intro bo (And.intro hS sS)))
 have HR:=Hj hR
 clear hN hN1 hwd e1 hRb hRs hc bO bo hS sS
 rcases hc' with hc | hc | hc | hc | hc | hc | hc | hc | hc
 all_goals
  go_enter Tryz.func11,Tryz.ntmps11
  go_wp2_with fail
  go_region
  go_wp2_with fail
  refine (Uh HN).mono ?_
  rintro _ w2 ⟨rfl,v2,cs2,s2,k2⟩
  obtain ⟨bO,bo,hS,sS⟩:=Uh HB
  have nO:w.heap.size ≠ B:=by omega
  have nO2:v.ownBlock ≠ some w.heap.size:=fun e => by have:=(hS.row.ge e).2; omega
  have bY:=(bO.below ((Below.refl _ _).drew)).keep k2 nO nO2
  have q0:=(bY.all 0 _ rfl).1
  have q0f:=(bY.all 0 _ rfl).2
  have q1:=(bY.all 1 _ rfl).1
  have q1f:=(bY.all 1 _ rfl).2
  have HF:=Hj (And.intro bY (And.intro s2 (And.intro k2 (And.intro bo (And.intro hS bO.lt)))))
  clear bO bo hS sS bY s2 k2 nO2 HN
  go_wp2_with fail
  obtain ⟨bY,s2,k2,bo,hS,zX⟩:=Uh HF
  have zX2:w.heap.size < wo.drew.heap.size:=zX
  have bd:Below w.heap.size w wo.drew:=bo.drew
  have hf:=(bY.put 0 (.int .i64 0)).put 1 (.int .i64 0)
  have f0:=(hf.all 0 _ rfl).1
  have f1:=(hf.all 1 _ rfl).1
  have fB:=(s2.box.other (Y:=w.heap.size) 0 (.int .i64 0) (fun e => nO e.symm)).other (Y:=w.heap.size) 1 (.int .i64 0) (fun e => nO e.symm)
  have cW:Chg (fun j => j = w.heap.size) w2 ((w2.setCell ⟨w.heap.size,0,none⟩ (.int .i64 0)).setCell ⟨w.heap.size,1,none⟩ (.int .i64 0)):=(Chg.of_set (S:=fun j => j = w.heap.size) _ _ _ _ rfl).trans (Chg.of_set (S:=fun j => j = w.heap.size) _ _ _ _ rfl)
  have fC:ScC w ((w2.setCell ⟨w.heap.size,0,none⟩ (.int .i64 0)).setCell ⟨w.heap.size,1,none⟩ (.int .i64 0)) B v v2:=by
   refine ⟨((Chg.of_below bd).thens k2.chg (fun k hk e => e)).thens cW (fun k hk e => by omega),fun j hj => ?_⟩
   rcases k2.new j hj with d | d
   ·exact .inl d
   ·exact .inr (Nat.le_trans bd.size d)
  have fR:=s2.row.chg cW (fun j hj e => by
   rcases k2.new j hj with d | d
   ·have:=(hS.row.ge d).2; omega
   ·omega)
  generalize ((w2.setCell ⟨w.heap.size,0,none⟩ (.int .i64 0)).setCell ⟨w.heap.size,1,none⟩ (.int .i64 0)) = wf at *
  refine bodyPost_ret (by simp [results,Tryz.results11,go_sem,f0,f1]; try rfl) rfl ?_
  exact ⟨rfl,_,_,⟨fB,fR⟩,fC⟩
end Go.Proofs.YtjoaijbhpgekoaaGreatDoor
