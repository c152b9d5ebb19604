/- Fta -/
import Derived.Test.YtjoaijbhpgekoaaGreatDoorFt8a
namespace Go.Proofs.YtjoaijbhpgekoaaGreatDoor
open Go.RowKit Go.Deep
set_option linter.unusedVariables false
structure HsI (w wr:World) (B:Nat) (s:ByteArray) (st:TkS) (v:Value) (cs:List Value) (q:Nat):Prop where
 chg:ScC w wr B v v
 out:BoxL wr w.heap.size [.int .i64 0,.int .i64 0]
 sc:ScS wr B 41 s ⟨q,st.b,st.l⟩ v cs
theorem HsI.next {w wr:World} {B:Nat} {s:ByteArray} {st:TkS} {v:Value} {cs:List Value} {q:Nat} (h:HsI w wr B s st v cs q) (hB:B < w.heap.size):HsI w (wr.setCell ⟨B,1,none⟩ (.int .i64 ((q:Int) + 1))).drew B s st v cs (q + 1):=by
 have k:Chg (fun j => j = B ∨ v.ownBlock = some j) wr (wr.setCell ⟨B,1,none⟩ (.int .i64 ((q:Int) + 1))).drew:=(Chg.of_set _ _ _ _ (.inl rfl)).trans (Chg.of_drew _)
 have k1:Chg (fun j => j = B) wr (wr.setCell ⟨B,1,none⟩ (.int .i64 ((q:Int) + 1))).drew:=(Chg.of_set (S:=fun j => j = B) _ _ _ _ rfl).trans (Chg.of_drew _)
 refine ⟨h.chg.trans ⟨k,fun j hj => .inl hj⟩,h.out.chg k1 (by omega),⟨?_,h.sc.row.chg k1 (fun j hj e => by have:=(h.sc.row.ge hj).1; omega)⟩⟩
 have:=(h.sc.box.put 1 (.int .i64 ((q:Int) + 1))).below ((Below.refl _ _).drew)
 have ei:((q:Int) + 1) = ((q + 1:Nat):Int):=by omega
 generalize (wr.setCell ⟨B,1,none⟩ (.int .i64 ((q:Int) + 1))).drew = wx at *
 rw [ei] at this
 exact this
def rdB (w:World) (B:Nat):Nat:=match w.cell? ⟨B,1,none⟩ with | some (.int _ z) => z.toNat | _ => 0
theorem HsI.rd {w wr:World} {B:Nat} {s:ByteArray} {st:TkS} {v:Value} {cs:List Value} {q:Nat} (h:HsI w wr B s st v cs q):rdB wr B = q:=by
 unfold rdB
 rw [(h.sc.box.all 1 _ rfl).1]
 simp
set_option maxRecDepth 100000 in
set_option maxHeartbeats 32000000 in
theorem step_byte (B:Nat) (s:ByteArray) (st:TkS) (v:Value) (cs:List Value) (w:World) (hS:ScS w B 41 s st v cs) (hi:st.i < s.size) (hs:s.size ≤ 65536) (hc:∀ k ∈ [32,9,13,35,10,44,61,43,45,42,47,94,40,41,91],byA s st.i ≠ k) (hd:dgtN (byA s st.i) = false) (hl:ltrN (byA s st.i) = false) :
  Calls Tryz.prog 11 #[.pointer (some ⟨B,0,none⟩)] w fun e w' => e = .returned (fltV (st.i:Int) 80) ∧ Below w.heap.size w w':=by
 obtain ⟨wo,hwo⟩:∃ x,w.alloc (.cells #[.int .i64 0,.int .i64 0] 33) = x:=⟨_,rfl⟩
 have bo:Below w.heap.size w wo:=by rw [← hwo]; exact bAl
 have bO:BoxL wo w.heap.size [.int .i64 0,.int .i64 0]:=by have:=BoxL.made w #[.int .i64 0,.int .i64 0] 33; rw [hwo] at this; exact this
 have sS:=hS.below bo
 have hBl:=hS.box.lt
 have c0:=(sS.box.all 0 _ rfl).1
 have c1:=(sS.box.all 1 _ rfl).1
 have c1f:=(sS.box.all 1 _ rfl).2
 have t1:(0:Int) ≤ (st.i:Int):=by omega
 have t2:(st.i:Int) ≤ (s.size:Int):=by omega
 obtain ⟨R,hR⟩:∃ R,s.extract st.i s.size = R:=⟨_,rfl⟩
 have hRs:R.size = s.size - st.i:=by rw [← hR,ByteArray.size_extract]; omega
 have hR0:0 < R.size:=by omega
 have hRb:byA R 0 = byA s st.i:=by rw [← hR]; exact byA_ext (by omega) (Nat.le_refl _)
 have e1:=byA_get R 0 hR0
 have tr0:(0:Int) < (R.size:Int):=by omega
 have m32:=hc 32 (by simp)
 have m9:=hc 9 (by simp)
 have m13:=hc 13 (by simp)
 have m35:=hc 35 (by simp)
 have m10:=hc 10 (by simp)
 have m44:=hc 44 (by simp)
 have m61:=hc 61 (by simp)
 have m43:=hc 43 (by simp)
 have m45:=hc 45 (by simp)
 have m42:=hc 42 (by simp)
 have m47:=hc 47 (by simp)
 have m94:=hc 94 (by simp)
 have m40:=hc 40 (by simp)
 have m41:=hc 41 (by simp)
 have m91:=hc 91 (by simp)
 have n32:(((R[0]'hR0).toNat:Int) == 32) = false:=by simp; omega
 have n9:(((R[0]'hR0).toNat:Int) == 9) = false:=by simp; omega
 have n13:(((R[0]'hR0).toNat:Int) == 13) = false:=by simp; omega
 have n35:(((R[0]'hR0).toNat:Int) == 35) = false:=by simp; omega
 have n10:(((R[0]'hR0).toNat:Int) == 10) = false:=by simp; omega
 have n44:(((R[0]'hR0).toNat:Int) == 44) = false:=by simp; omega
 have n61:(((R[0]'hR0).toNat:Int) == 61) = false:=by simp; omega
 have n43:(((R[0]'hR0).toNat:Int) == 43) = false:=by simp; omega
 have n45:(((R[0]'hR0).toNat:Int) == 45) = false:=by simp; omega
 have n42:(((R[0]'hR0).toNat:Int) == 42) = false:=by simp; omega
 have n47:(((R[0]'hR0).toNat:Int) == 47) = false:=by simp; omega
 have n94:(((R[0]'hR0).toNat:Int) == 94) = false:=by simp; omega
 have n40:(((R[0]'hR0).toNat:Int) == 40) = false:=by simp; omega
 have n41:(((R[0]'hR0).toNat:Int) == 41) = false:=by simp; omega
 have n91:(((R[0]'hR0).toNat:Int) == 91) = false:=by simp; omega
 have e2:(R[0]'hR0).toNat = byA s st.i:=by omega
 have KD:=fun W => fdigit_any (R[0]'hR0).toNat W
 have KL:=fun W => fletter_any (R[0]'hR0).toNat W
 rw [e2,hd,← e2] at KD
 rw [e2,hl,← e2] at KL
 have HD:=Hj KD
 have HL:=Hj KL
 have o0:=(bO.all 0 _ rfl).1
 have o0f:=(bO.all 0 _ rfl).2
 have o1:=(bO.all 1 _ rfl).1
 have o1f:=(bO.all 1 _ rfl).2
 have HB:=Hj (And.intro bO (And.intro bo (And.intro hS sS)))
 have HR:=Hj hR
 clear KD KL e1 e2 hRb hRs hd hl hc bO bo hS sS m32 m9 m13 m35 m10 m44 m61 m43 m45 m42 m47 m94 m40 m41 m91
 go_enter Tryz.func11,Tryz.ntmps11
 go_wp2_with fail
 go_region
 go_wp2_with fail
 refine (Uh HD _).mono ?_
 rintro _ _ ⟨rfl,hw⟩
 obtain rfl:=hw.symm
 clear hw HD
 go_wp2_with fail
 refine (Uh HL _).mono ?_
 rintro _ _ ⟨rfl,hw⟩
 obtain rfl:=hw.symm
 clear hw HL
 go_wp2_with fail
 obtain ⟨bO,bo,hS,sS⟩:=Uh HB
 have hf:=((bO.put 0 (.int .i64 (st.i:Int))).put 1 (.int .i64 80)).below ((Below.refl _ _).drew)
 have f0:=(hf.all 0 _ rfl).1
 have f1:=(hf.all 1 _ rfl).1
 have hb:Below w.heap.size w (((wo.setCell ⟨w.heap.size,0,none⟩ (.int .i64 (st.i:Int))).setCell ⟨w.heap.size,1,none⟩ (.int .i64 80)).drew):=(bel_put (bel_put bo (by omega) (Nat.le_refl _) 0 _) (by omega) (Nat.le_refl _) 1 _).drew
 generalize (((wo.setCell ⟨w.heap.size,0,none⟩ (.int .i64 (st.i:Int))).setCell ⟨w.heap.size,1,none⟩ (.int .i64 80)).drew) = wf at *
 refine bodyPost_ret (by simp [results,Tryz.results11,go_sem,f0,f1]; try rfl) rfl ?_
 exact ⟨rfl,hb⟩
set_option maxRecDepth 100000 in
set_option maxHeartbeats 32000000 in
theorem step_blank (B:Nat) (s:ByteArray) (st:TkS) (v:Value) (cs:List Value) (w:World) (hS:ScS w B 41 s st v cs) (hi:st.i < s.size) (hs:s.size ≤ 65536) (hc:byA s st.i = 32 ∨ byA s st.i = 9 ∨ byA s st.i = 13) :
  Calls Tryz.prog 11 #[.pointer (some ⟨B,0,none⟩)] w fun e w' => e = .returned (fltV 0 0) ∧ ScS w' B 41 s ⟨st.i + 1,st.b,st.l⟩ v cs ∧ ScC w w' B v v:=by
 obtain ⟨wo,hwo⟩:∃ x,w.alloc (.cells #[.int .i64 0,.int .i64 0] 33) = x:=⟨_,rfl⟩
 have bo:Below w.heap.size w wo:=by rw [← hwo]; exact bAl
 have bO:BoxL wo w.heap.size [.int .i64 0,.int .i64 0]:=by have:=BoxL.made w #[.int .i64 0,.int .i64 0] 33; rw [hwo] at this; exact this
 have sS:=hS.below bo
 have hBl:=hS.box.lt
 have c0:=(sS.box.all 0 _ rfl).1
 have c1:=(sS.box.all 1 _ rfl).1
 have c1f:=(sS.box.all 1 _ rfl).2
 have t1:(0:Int) ≤ (st.i:Int):=by omega
 have t2:(st.i:Int) ≤ (s.size:Int):=by omega
 obtain ⟨R,hR⟩:∃ R,s.extract st.i s.size = R:=⟨_,rfl⟩
 have hRs:R.size = s.size - st.i:=by rw [← hR,ByteArray.size_extract]; omega
 have hR0:0 < R.size:=by omega
 have hRb:byA R 0 = byA s st.i:=by rw [← hR]; exact byA_ext (by omega) (Nat.le_refl _)
 have e1:=byA_get R 0 hR0
 have tr0:(0:Int) < (R.size:Int):=by omega
 have hc':((R[0]'hR0).toNat:Int) = 32 ∨ ((R[0]'hR0).toNat:Int) = 9 ∨ ((R[0]'hR0).toNat:Int) = 13:=by omega
 have o0:=(bO.all 0 _ rfl).1
 have o0f:=(bO.all 0 _ rfl).2
 have o1:=(bO.all 1 _ rfl).1
 have o1f:=(bO.all 1 _ rfl).2
 have hB2:B < wo.heap.size:=sS.box.lt
 have nO:w.heap.size ≠ B:=by omega
 have bO2:=bO.other (Y:=B) 1 (.int .i64 ((st.i:Int) + 1)) nO
 have q0:=(bO2.all 0 _ rfl).1
 have q0f:=(bO2.all 0 _ rfl).2
 have q1:=(bO2.all 1 _ rfl).1
 have q1f:=(bO2.all 1 _ rfl).2
 have HB:=Hj (And.intro bO (And.intro bo (And.intro hS sS)))
 have HR:=Hj hR
 clear e1 hRb hRs hc bO bo hS sS bO2
 rcases hc' with hc | hc | hc
 all_goals
  go_enter Tryz.func11,Tryz.ntmps11
  go_wp2_with fail
  go_region
  go_wp2_with fail
  obtain ⟨bO,bo,hS,sS⟩:=Uh HB
  have hf:=(((bO.other (Y:=B) 1 (.int .i64 ((st.i:Int) + 1)) nO).put 0 (.int .i64 0)).put 1 (.int .i64 0)).below ((Below.refl _ _).drew)
  have f0:=(hf.all 0 _ rfl).1
  have f1:=(hf.all 1 _ rfl).1
  have fB:=(((sS.box.put 1 (.int .i64 ((st.i:Int) + 1))).other (Y:=w.heap.size) 0 (.int .i64 0) (fun e => nO e.symm)).other (Y:=w.heap.size) 1 (.int .i64 0) (fun e => nO e.symm)).below ((Below.refl _ _).drew)
  have cW:Chg (fun j => j = B ∨ j = w.heap.size) wo ((((wo.setCell ⟨B,1,none⟩ (.int .i64 ((st.i:Int) + 1))).setCell ⟨w.heap.size,0,none⟩ (.int .i64 0)).setCell ⟨w.heap.size,1,none⟩ (.int .i64 0)).drew):=(((Chg.of_set _ _ _ _ (.inl rfl)).trans (Chg.of_set _ _ _ _ (.inr rfl))).trans (Chg.of_set _ _ _ _ (.inr rfl))).trans (Chg.of_drew _)
  have fC:ScC w ((((wo.setCell ⟨B,1,none⟩ (.int .i64 ((st.i:Int) + 1))).setCell ⟨w.heap.size,0,none⟩ (.int .i64 0)).setCell ⟨w.heap.size,1,none⟩ (.int .i64 0)).drew) B v v:=⟨(Chg.of_below bo).thens cW (fun k hk e => by rcases e with d | d; exact .inl d; omega),fun j hj => .inl hj⟩
  have fR:=sS.row.chg cW (fun j hj e => by
   have h1:=hS.row.ge hj
   rcases e with d | d
   ·omega
   ·omega)
  have ei:((st.i:Int) + 1) = ((st.i + 1:Nat):Int):=by omega
  generalize ((((wo.setCell ⟨B,1,none⟩ (.int .i64 ((st.i:Int) + 1))).setCell ⟨w.heap.size,0,none⟩ (.int .i64 0)).setCell ⟨w.heap.size,1,none⟩ (.int .i64 0)).drew) = wf at *
  rw [ei] at fB
  refine bodyPost_ret (by simp [results,Tryz.results11,go_sem,f0,f1]; try rfl) rfl ?_
  exact ⟨rfl,⟨fB,fR⟩,fC⟩
set_option maxRecDepth 100000 in
set_option maxHeartbeats 32000000 in
theorem step_hash (B:Nat) (s:ByteArray) (st:TkS) (v:Value) (cs:List Value) (w:World) (hS:ScS w B 41 s st v cs) (hi:st.i < s.size) (hs:s.size ≤ 65536) (hc:byA s st.i = 35) :
  Calls Tryz.prog 11 #[.pointer (some ⟨B,0,none⟩)] w fun e w' => e = .returned (fltV 0 0) ∧ ScS w' B 41 s ⟨enR lineN s st.i,st.b,st.l⟩ v cs ∧ ScC w w' B v v:=by
 obtain ⟨wo,hwo⟩:∃ x,w.alloc (.cells #[.int .i64 0,.int .i64 0] 33) = x:=⟨_,rfl⟩
 have bo:Below w.heap.size w wo:=by rw [← hwo]; exact bAl
 have bO:BoxL wo w.heap.size [.int .i64 0,.int .i64 0]:=by have:=BoxL.made w #[.int .i64 0,.int .i64 0] 33; rw [hwo] at this; exact this
 have sS:=hS.below bo
 have hBl:=hS.box.lt
 have c0:=(sS.box.all 0 _ rfl).1
 have c1:=(sS.box.all 1 _ rfl).1
 have c1f:=(sS.box.all 1 _ rfl).2
 have t1:(0:Int) ≤ (st.i:Int):=by omega
 have t2:(st.i:Int) ≤ (s.size:Int):=by omega
 obtain ⟨R,hR⟩:∃ R,s.extract st.i s.size = R:=⟨_,rfl⟩
 have hRs:R.size = s.size - st.i:=by rw [← hR,ByteArray.size_extract]; omega
 have hR0:0 < R.size:=by omega
 have hRb:byA R 0 = byA s st.i:=by rw [← hR]; exact byA_ext (by omega) (Nat.le_refl _)
 have e1:=byA_get R 0 hR0
 have tr0:(0:Int) < (R.size:Int):=by omega
 have hc':((R[0]'hR0).toNat:Int) = 35:=by omega
 have hr:=enR_run lineN s (i:=st.i) (by omega)
 generalize enR lineN s st.i = j at *
 have hj1:=hr.le
 have hj2:=hr.top
 have HRN:=Hj hr
 have nO:w.heap.size ≠ B:=by omega
 have I0:=Hj (show HsI w wo B s st v cs st.i from ⟨ScC.ofBelow bo,bO,sS⟩)
 have HS0:=Hj hS
 have HR:=Hj hR
 clear hr e1 hRb hRs hc bO bo hS sS
 go_enter Tryz.func11,Tryz.ntmps11
 go_wp2_with fail
 go_region
 go_wp2_with fail
 go_loopw [49] (fun _ wr => ∃ q:Nat,st.i ≤ q ∧ q ≤ j ∧ HsI w wr B s st v cs q) (fun _ wr => s.size - rdB wr B)
 case atStart => exact ⟨st.i,Nat.le_refl _,hj1,⟨(Uh I0).chg.trans (ScC.ofBelow ((Below.refl _ _).drew)),(Uh I0).out.below ((Below.refl _ _).drew),(Uh I0).sc.below ((Below.refl _ _).drew)⟩⟩
 case round =>
  obtain ⟨q,h1,h2,hI⟩:=hrel
  have rd:rdB wr B = q:=hI.rd
  have g0:=(hI.sc.box.all 0 _ rfl).1
  have g1:=(hI.sc.box.all 1 _ rfl).1
  have g1f:=(hI.sc.box.all 1 _ rfl).2
  have z0:=(hI.out.all 0 _ rfl).1
  have z0f:=(hI.out.all 0 _ rfl).2
  have z1:=(hI.out.all 1 _ rfl).1
  have z1f:=(hI.out.all 1 _ rfl).2
  dsimp only at g1
  have HI:=Hj (And.intro hI rd)
  clear hI rd I0 c0 c1 c1f
  by_cases hlt:q < s.size
  ·have hlt':(q:Int) < (s.size:Int):=by omega
   have hb:=byA_get s q hlt
   by_cases hq:q < j
   ·have hv:=(Uh HRN).all q h1 hq
    unfold lineN at hv
    rw [decide_eq_true_eq] at hv
    have tn:(((s[q]'hlt).toNat:Int) != 10) = true:=by simp; omega
    have tn':¬ ((s[q]'hlt).toNat:Int) = 10:=by omega
    clear hb hv
    go_wp2_with fail
    go_region
    go_wp2_with fail
    obtain ⟨hI,rd⟩:=Uh HI
    have hn:=hI.next hBl
    exact ⟨⟨q + 1,by omega,by omega,hn⟩,by rw [hn.rd,rd]; omega⟩
   ·have hq2:q = j:=by omega
    subst hq2
    have hv:=(Uh HRN).stop hlt
    unfold lineN at hv
    rw [decide_eq_false_iff_not] at hv
    have tn:(((s[q]'hlt).toNat:Int) != 10) = false:=by simp; omega
    have tn':((s[q]'hlt).toNat:Int) = 10:=by omega
    clear hb hv
    go_wp2_with fail
    go_region
    go_wp2_with fail
    obtain ⟨hI,_⟩:=Uh HI
    have hf:=((hI.out.put 0 (.int .i64 0)).put 1 (.int .i64 0)).below ((Below.refl _ _).drew)
    have f0:=(hf.all 0 _ rfl).1
    have f1:=(hf.all 1 _ rfl).1
    have fB:=((hI.sc.box.other (Y:=w.heap.size) 0 (.int .i64 0) (fun e => nO e.symm)).other (Y:=w.heap.size) 1 (.int .i64 0) (fun e => nO e.symm)).below ((Below.refl _ _).drew)
    have cW:Chg (fun j => j = w.heap.size) wr (((wr.setCell ⟨w.heap.size,0,none⟩ (.int .i64 0)).setCell ⟨w.heap.size,1,none⟩ (.int .i64 0)).drew):=((Chg.of_set (S:=fun j => j = w.heap.size) _ _ _ _ rfl).trans (Chg.of_set (S:=fun j => j = w.heap.size) _ _ _ _ rfl)).trans (Chg.of_drew _)
    have fC:ScC w (((wr.setCell ⟨w.heap.size,0,none⟩ (.int .i64 0)).setCell ⟨w.heap.size,1,none⟩ (.int .i64 0)).drew) B v v:=⟨hI.chg.chg.thens cW (fun k hk e => by omega),fun j hj => .inl hj⟩
    have fR:=hI.sc.row.chg cW (fun j hj e => by have:=((Uh HS0).row.ge hj).2; omega)
    generalize (((wr.setCell ⟨w.heap.size,0,none⟩ (.int .i64 0)).setCell ⟨w.heap.size,1,none⟩ (.int .i64 0)).drew) = wf at *
    refine bodyPost_ret (by simp [results,Tryz.results11,go_sem,f0,f1]; try rfl) rfl ?_
    exact ⟨rfl,⟨fB,fR⟩,fC⟩
  ·have hq2:q = j:=by omega
   subst hq2
   have hlt':¬ (q:Int) < (s.size:Int):=by omega
   go_wp2_with fail
   go_region
   go_wp2_with fail
   obtain ⟨hI,_⟩:=Uh HI
   have hf:=((hI.out.put 0 (.int .i64 0)).put 1 (.int .i64 0)).below ((Below.refl _ _).drew)
   have f0:=(hf.all 0 _ rfl).1
   have f1:=(hf.all 1 _ rfl).1
   have fB:=((hI.sc.box.other (Y:=w.heap.size) 0 (.int .i64 0) (fun e => nO e.symm)).other (Y:=w.heap.size) 1 (.int .i64 0) (fun e => nO e.symm)).below ((Below.refl _ _).drew)
   have cW:Chg (fun j => j = w.heap.size) wr (((wr.setCell ⟨w.heap.size,0,none⟩ (.int .i64 0)).setCell ⟨w.heap.size,1,none⟩ (.int .i64 0)).drew):=((Chg.of_set (S:=fun j => j = w.heap.size) _ _ _ _ rfl).trans (Chg.of_set (S:=fun j => j = w.heap.size) _ _ _ _ rfl)).trans (Chg.of_drew _)
   have fC:ScC w (((wr.setCell ⟨w.heap.size,0,none⟩ (.int .i64 0)).setCell ⟨w.heap.size,1,none⟩ (.int .i64 0)).drew) B v v:=⟨hI.chg.chg.thens cW (fun k hk e => by omega),fun j hj => .inl hj⟩
   have fR:=hI.sc.row.chg cW (fun j hj e => by have:=((Uh HS0).row.ge hj).2; omega)
   generalize (((wr.setCell ⟨w.heap.size,0,none⟩ (.int .i64 0)).setCell ⟨w.heap.size,1,none⟩ (.int .i64 0)).drew) = wf at *
   refine bodyPost_ret (by simp [results,Tryz.results11,go_sem,f0,f1]; try rfl) rfl ?_
   exact ⟨rfl,⟨fB,fR⟩,fC⟩
set_option maxRecDepth 100000 in
set_option maxHeartbeats 32000000 in
theorem step_nl_good (B:Nat) (s:ByteArray) (st:TkS) (v:Value) (cs:List Value) (w:World) (hS:ScS w B 41 s st v cs) (hi:st.i < s.size) (hs:s.size ≤ 65536) (hc:byA s st.i = 10) (st':TkS) (hst:st'.i ≤ 65536) (hN:∀ W,Below w.heap.size w W → ScS W B 41 s st v cs → Calls Tryz.prog 12 #[.pointer (some ⟨B,0,none⟩)] W fun e w' => e = .returned (fltV 0 0) ∧ ∃ v' cs',ScS w' B 41 s st' v' cs' ∧ ScC W w' B v v') :
  Calls Tryz.prog 11 #[.pointer (some ⟨B,0,none⟩)] w fun e w' => e = .returned (fltV 0 0) ∧ ∃ v' cs',ScS w' B 41 s ⟨st'.i + 1,st'.b,st'.l⟩ v' cs' ∧ ScC w w' B v v':=by
 obtain ⟨wo,hwo⟩:∃ x,w.alloc (.cells #[.int .i64 0,.int .i64 0] 33) = x:=⟨_,rfl⟩
 have bo:Below w.heap.size w wo:=by rw [← hwo]; exact bAl
 have bO:BoxL wo w.heap.size [.int .i64 0,.int .i64 0]:=by have:=BoxL.made w #[.int .i64 0,.int .i64 0] 33; rw [hwo] at this; exact this
 have sS:=hS.below bo
 have hBl:=hS.box.lt
 have c0:=(sS.box.all 0 _ rfl).1
 have c1:=(sS.box.all 1 _ rfl).1
 have c1f:=(sS.box.all 1 _ rfl).2
 have t1:(0:Int) ≤ (st.i:Int):=by omega
 have t2:(st.i:Int) ≤ (s.size:Int):=by omega
 obtain ⟨R,hR⟩:∃ R,s.extract st.i s.size = R:=⟨_,rfl⟩
 have hRs:R.size = s.size - st.i:=by rw [← hR,ByteArray.size_extract]; omega
 have hR0:0 < R.size:=by omega
 have hRb:byA R 0 = byA s st.i:=by rw [← hR]; exact byA_ext (by omega) (Nat.le_refl _)
 have e1:=byA_get R 0 hR0
 have tr0:(0:Int) < (R.size:Int):=by omega
 have hc':((R[0]'hR0).toNat:Int) = 10:=by omega
 have hwd:Below w.heap.size w wo.drew:=bo.drew
 have hN1:=hN wo.drew hwd (sS.below ((Below.refl _ _).drew))
 unfold fltV at hN1
 have HN:=Hj hN1
 have HB:=Hj (And.intro bO (And.intro bo (And.intro hS sS)))
 have HR:=Hj hR
 clear hN hN1 hwd e1 hRb hRs hc bO bo hS sS
 go_enter Tryz.func11,Tryz.ntmps11
 go_wp2_with fail
 go_region
 go_wp2_with fail
 refine (Uh HN).mono ?_
 rintro _ w2 ⟨rfl,v2,cs2,s2,k2⟩
 obtain ⟨bO,bo,hS,sS⟩:=Uh HB
 have nO:w.heap.size ≠ B:=by omega
 have nO2:v.ownBlock ≠ some w.heap.size:=fun e => by have:=(hS.row.ge e).2; omega
 have bY:=(bO.below ((Below.refl _ _).drew)).keep k2 nO nO2
 have hB2:B < w2.heap.size:=s2.box.lt
 have hO2:w.heap.size < w2.heap.size:=bY.lt
 have y1:=(s2.box.all 1 _ rfl).1
 have y1f:=(s2.box.all 1 _ rfl).2
 have z0:=(bY.all 0 _ rfl).1
 have z0f:=(bY.all 0 _ rfl).2
 have z1:=(bY.all 1 _ rfl).1
 have z1f:=(bY.all 1 _ rfl).2
 have HF:=Hj (And.intro bY (And.intro s2 (And.intro k2 (And.intro bo (And.intro hS bO.lt)))))
 clear bO bo hS sS bY s2 k2 nO2 HN c0 c1 c1f
 go_wp2_with fail
 obtain ⟨bY,s2,k2,bo,hS,zX⟩:=Uh HF
 have zX2:w.heap.size < wo.drew.heap.size:=zX
 have bd:Below w.heap.size w wo.drew:=bo.drew
 have hf:=(((bY.other (Y:=B) 1 (.int .i64 ((st'.i:Int) + 1)) nO).put 0 (.int .i64 0)).put 1 (.int .i64 0)).below ((Below.refl _ _).alloc (Nat.le_refl _) (.cells #[.int .i64 0,.int .i64 0] 33))
 have f0:=(hf.all 0 _ rfl).1
 have f1:=(hf.all 1 _ rfl).1
 have fB:=(((s2.box.put 1 (.int .i64 ((st'.i:Int) + 1))).other (Y:=w.heap.size) 0 (.int .i64 0) (fun e => nO e.symm)).other (Y:=w.heap.size) 1 (.int .i64 0) (fun e => nO e.symm)).below ((Below.refl _ _).alloc (Nat.le_refl _) (.cells #[.int .i64 0,.int .i64 0] 33))
 have cW:Chg (fun j => j = B ∨ j = w.heap.size) w2 ((((w2.setCell ⟨B,1,none⟩ (.int .i64 ((st'.i:Int) + 1))).setCell ⟨w.heap.size,0,none⟩ (.int .i64 0)).setCell ⟨w.heap.size,1,none⟩ (.int .i64 0)).alloc (.cells #[.int .i64 0,.int .i64 0] 33)):=(((Chg.of_set _ _ _ _ (.inl rfl)).trans (Chg.of_set _ _ _ _ (.inr rfl))).trans (Chg.of_set _ _ _ _ (.inr rfl))).trans (Chg.of_alloc _ _)
 have fC:ScC w ((((w2.setCell ⟨B,1,none⟩ (.int .i64 ((st'.i:Int) + 1))).setCell ⟨w.heap.size,0,none⟩ (.int .i64 0)).setCell ⟨w.heap.size,1,none⟩ (.int .i64 0)).alloc (.cells #[.int .i64 0,.int .i64 0] 33)) B v v2:=by
  refine ⟨((Chg.of_below bd).thens k2.chg (fun k hk e => e)).thens cW (fun k hk e => by rcases e with d | d; exact .inl d; omega),fun j hj => ?_⟩
  rcases k2.new j hj with d | d
  ·exact .inl d
  ·exact .inr (Nat.le_trans bd.size d)
 have fR:=s2.row.chg cW (fun j hj e => by
  have h1:=(s2.row.ge hj).1
  rcases e with d | d
  ·omega
  ·rcases k2.new j hj with d3 | d3
   ·have:=(hS.row.ge d3).2; omega
   ·omega)
 have ei:((st'.i:Int) + 1) = ((st'.i + 1:Nat):Int):=by omega
 generalize ((((w2.setCell ⟨B,1,none⟩ (.int .i64 ((st'.i:Int) + 1))).setCell ⟨w.heap.size,0,none⟩ (.int .i64 0)).setCell ⟨w.heap.size,1,none⟩ (.int .i64 0)).alloc (.cells #[.int .i64 0,.int .i64 0] 33)) = wf at *
 rw [ei] at fB
 refine bodyPost_ret (by simp [results,Tryz.results11,go_sem,f0,f1]; try rfl) rfl ?_
 exact ⟨rfl,_,_,⟨fB,fR⟩,fC⟩
set_option maxRecDepth 100000 in
set_option maxHeartbeats 32000000 in
theorem step_nl_bad (B:Nat) (s:ByteArray) (st:TkS) (v:Value) (cs:List Value) (w:World) (hS:ScS w B 41 s st v cs) (hi:st.i < s.size) (hs:s.size ≤ 65536) (hc:byA s st.i = 10) (a er:Int) (her:er ≠ 0) (hN:∀ W,Below w.heap.size w W → ScS W B 41 s st v cs → Calls Tryz.prog 12 #[.pointer (some ⟨B,0,none⟩)] W fun e w' => e = .returned (fltV a er) ∧ ScC W w' B v v ∧ BoxL w' B [.string s,.int .i64 (st.i:Int),.bool false,v]) :
  Calls Tryz.prog 11 #[.pointer (some ⟨B,0,none⟩)] w fun e w' => e = .returned (fltV a er) ∧ ScC w w' B v v:=by
 obtain ⟨wo,hwo⟩:∃ x,w.alloc (.cells #[.int .i64 0,.int .i64 0] 33) = x:=⟨_,rfl⟩
 have bo:Below w.heap.size w wo:=by rw [← hwo]; exact bAl
 have bO:BoxL wo w.heap.size [.int .i64 0,.int .i64 0]:=by have:=BoxL.made w #[.int .i64 0,.int .i64 0] 33; rw [hwo] at this; exact this
 have sS:=hS.below bo
 have hBl:=hS.box.lt
 have c0:=(sS.box.all 0 _ rfl).1
 have c1:=(sS.box.all 1 _ rfl).1
 have c1f:=(sS.box.all 1 _ rfl).2
 have t1:(0:Int) ≤ (st.i:Int):=by omega
 have t2:(st.i:Int) ≤ (s.size:Int):=by omega
 obtain ⟨R,hR⟩:∃ R,s.extract st.i s.size = R:=⟨_,rfl⟩
 have hRs:R.size = s.size - st.i:=by rw [← hR,ByteArray.size_extract]; omega
 have hR0:0 < R.size:=by omega
 have hRb:byA R 0 = byA s st.i:=by rw [← hR]; exact byA_ext (by omega) (Nat.le_refl _)
 have e1:=byA_get R 0 hR0
 have tr0:(0:Int) < (R.size:Int):=by omega
 have hc':((R[0]'hR0).toNat:Int) = 10:=by omega
 have hwd:Below w.heap.size w wo.drew:=bo.drew
 have hN1:=hN wo.drew hwd (sS.below ((Below.refl _ _).drew))
 unfold fltV at hN1
 have HN:=Hj hN1
 have HB:=Hj (And.intro bO (And.intro bo (And.intro hS sS)))
 have HR:=Hj hR
 clear hN hN1 hwd e1 hRb hRs hc bO bo hS sS
 go_enter Tryz.func11,Tryz.ntmps11
 go_wp2_with fail
 go_region
 go_wp2_with fail
 refine (Uh HN).mono ?_
 rintro _ w2 ⟨rfl,k2,sb2⟩
 obtain ⟨bO,bo,hS,sS⟩:=Uh HB
 have nO:w.heap.size ≠ B:=by omega
 have nO2:v.ownBlock ≠ some w.heap.size:=fun e => by have:=(hS.row.ge e).2; omega
 have bY:=(bO.below ((Below.refl _ _).drew)).keep k2 nO nO2
 have hB2:B < w2.heap.size:=sb2.lt
 have hO2:w.heap.size < w2.heap.size:=bY.lt
 have y1:=(sb2.all 1 _ rfl).1
 have y1f:=(sb2.all 1 _ rfl).2
 have z0:=(bY.all 0 _ rfl).1
 have z0f:=(bY.all 0 _ rfl).2
 have z1:=(bY.all 1 _ rfl).1
 have z1f:=(bY.all 1 _ rfl).2
 have HF:=Hj (And.intro bY (And.intro sb2 (And.intro k2 (And.intro bo (And.intro hS bO.lt)))))
 clear bO bo hS sS bY sb2 k2 nO2 HN c0 c1 c1f
 go_wp2_with fail
 obtain ⟨bY,sb2,k2,bo,hS,zX⟩:=Uh HF
 have zX2:w.heap.size < wo.drew.heap.size:=zX
 have bd:Below w.heap.size w wo.drew:=bo.drew
 have hf:=(((bY.other (Y:=B) 1 (.int .i64 ((st.i:Int) + 1)) nO).put 0 (.int .i64 a)).put 1 (.int .i64 er)).below ((Below.refl _ _).alloc (Nat.le_refl _) (.cells #[.int .i64 a,.int .i64 er] 33))
 have f0:=(hf.all 0 _ rfl).1
 have f1:=(hf.all 1 _ rfl).1
 have fB:=(((sb2.put 1 (.int .i64 ((st.i:Int) + 1))).other (Y:=w.heap.size) 0 (.int .i64 a) (fun e => nO e.symm)).other (Y:=w.heap.size) 1 (.int .i64 er) (fun e => nO e.symm)).below ((Below.refl _ _).alloc (Nat.le_refl _) (.cells #[.int .i64 a,.int .i64 er] 33))
 have cW:Chg (fun j => j = B ∨ j = w.heap.size) w2 ((((w2.setCell ⟨B,1,none⟩ (.int .i64 ((st.i:Int) + 1))).setCell ⟨w.heap.size,0,none⟩ (.int .i64 a)).setCell ⟨w.heap.size,1,none⟩ (.int .i64 er)).alloc (.cells #[.int .i64 a,.int .i64 er] 33)):=(((Chg.of_set _ _ _ _ (.inl rfl)).trans (Chg.of_set _ _ _ _ (.inr rfl))).trans (Chg.of_set _ _ _ _ (.inr rfl))).trans (Chg.of_alloc _ _)
 have fC:ScC w ((((w2.setCell ⟨B,1,none⟩ (.int .i64 ((st.i:Int) + 1))).setCell ⟨w.heap.size,0,none⟩ (.int .i64 a)).setCell ⟨w.heap.size,1,none⟩ (.int .i64 er)).alloc (.cells #[.int .i64 a,.int .i64 er] 33)) B v v:=by
  refine ⟨((Chg.of_below bd).thens k2.chg (fun k hk e => e)).thens cW (fun k hk e => by rcases e with d | d; exact .inl d; omega),fun j hj => ?_⟩
  rcases k2.new j hj with d | d
  ·exact .inl d
  ·exact .inr (Nat.le_trans bd.size d)
 generalize ((((w2.setCell ⟨B,1,none⟩ (.int .i64 ((st.i:Int) + 1))).setCell ⟨w.heap.size,0,none⟩ (.int .i64 a)).setCell ⟨w.heap.size,1,none⟩ (.int .i64 er)).alloc (.cells #[.int .i64 a,.int .i64 er] 33)) = wf at *
 refine bodyPost_ret (by simp [results,Tryz.results11,go_sem,f0,f1]; try rfl) rfl ?_
 exact ⟨rfl,fC⟩
end Go.Proofs.YtjoaijbhpgekoaaGreatDoor
