/- Ft9b -/
import Derived.Test.YtjoaijbhpgekoaaGreatDoorFt8a
import Derived.Test.YtjoaijbhpgekoaaGreatDoorRpd
import Derived.Test.YtjoaijbhpgekoaaGreatDoorFt9a
namespace Go.Proofs.YtjoaijbhpgekoaaGreatDoor
open Go.RowKit Go.Deep
set_option linter.unusedVariables false
set_option maxRecDepth 100000 in
set_option maxHeartbeats 32000000 in
theorem number_add (B:Nat) (s:ByteArray) (st:TkS) (v:Value) (cs:List Value) (n:Nat) (w:World) (hS:ScS w B 41 s st v cs) (hi:st.i + n ≤ s.size) (hs:s.size ≤ 65536) (hn:0 < n) (ht:st.i + n < s.size → ltrN (byA s (st.i + n)) = false ∧ byA s (st.i + n) ≠ 46) (U:ByteArray) (hTr:∀ W,Calls Tryz.prog 28 #[.string (s.extract st.i (st.i + n)),.string ⟨#[91,93]⟩] W fun e w' => e = .returned (.string U) ∧ Below W.heap.size W w') (rg:Bool) (rx ry:List Nat) (ra re:Int) (hP:∀ W,Below w.heap.size w W → Calls Tryz.prog 27 #[.string U] W fun e w' => PsPost W w' rg rx ry ra re e) (he:re = 0) (hl:st.l.length < 16384) :
  Calls Tryz.prog 16 #[.pointer (some ⟨B,0,none⟩),.int .i64 (n:Nat)] w fun e w' => e = .returned (fltV 0 0) ∧ ∃ v' cs',ScS w' B 41 s ⟨st.i + n,true,st.l ++ [s.extract st.i (st.i + n)]⟩ v' cs' ∧ ScC w w' B v v':=by
 obtain ⟨wo,hwo⟩:∃ x,w.alloc (.cells #[.int .i64 0,.int .i64 0] 33) = x:=⟨_,rfl⟩
 have bo:Below w.heap.size w wo:=by rw [← hwo]; exact bAl
 have bO:BoxL wo w.heap.size [.int .i64 0,.int .i64 0]:=by have:=BoxL.made w #[.int .i64 0,.int .i64 0] 33; rw [hwo] at this; exact this
 have sS:=hS.below bo
 have hBl:=hS.box.lt
 have c0:=(sS.box.all 0 _ rfl).1
 have c1:=(sS.box.all 1 _ rfl).1
 have t1:(0:Int) ≤ (st.i:Int):=by omega
 have t2:(st.i:Int) ≤ (st.i:Int) + (n:Int):=by omega
 have t3:(st.i:Int) + (n:Int) ≤ (s.size:Int):=by omega
 have tw:IntKind.i64.wrap ((st.i:Int) + (n:Int)) = (st.i:Int) + (n:Int):=wrapI _ (by omega) (by omega)
 have t0:(0:Int) ≤ (st.i:Int) + (n:Int):=by omega
 have tn:((st.i:Int) + (n:Int)).toNat = st.i + n:=by omega
 obtain ⟨T,hT⟩:∃ T,s.extract st.i (st.i + n) = T:=⟨_,rfl⟩
 obtain ⟨R,hR⟩:∃ R,s.extract (st.i + n) s.size = R:=⟨_,rfl⟩
 have hRs:R.size = s.size - (st.i + n):=by rw [← hR,ByteArray.size_extract]; omega
 have hRb:∀ q,q < R.size → byA R q = byA s (st.i + n + q):=fun q hq => by rw [← hR]; exact byA_ext (by omega) (Nat.le_refl _)
 have tz:((n:Int) == 0) = false:=by simp; omega
 have HB:=Hj (And.intro bO (And.intro bo (And.intro hS sS)))
 have hTs:T.size = n:=by rw [← hT,ByteArray.size_extract]; omega
 have HTS:=Hj hTs
 clear hTs
 have hRb0:0 < R.size → byA R 0 = byA s (st.i + n):=fun h => hRb 0 h
 have hRs0:=hRs
 have HTR:=Hj (And.intro hT hR)
 clear bO bo hS sS hRs hRb hn
 have HTr:=Hj hTr
 have HP:=Hj hP
 rw [hT] at HTr
 clear hTr hP
 have HHt:=Hj (fun (h:0 < R.size) => And.intro (show ltrN (byA R 0) = false by rw [hRb0 h]; exact (ht (by omega)).1) (show byA R 0 ≠ 46 by rw [hRb0 h]; exact (ht (by omega)).2))
 clear ht hRb0 hRs0
 by_cases h0:R.size = 0
 ·have trn:=str_nil h0
  clear h0
  go_enter Tryz.func16,Tryz.ntmps16
  go_wp2_with fail
  go_region
  go_wp2_with fail
  refine (Uh HTr _).mono ?_
  rintro _ w2 ⟨rfl,b2⟩
  obtain ⟨bO,bo,hS,sS⟩:=Uh HB
  have b2':Below wo.heap.size wo w2:=(Below.refl _ _).drew.trans b2
  have hw2:Below w.heap.size w w2:=bo.trans (b2'.mono bo.size)
  have KP:=Uh HP w2 hw2
  have HKP:=Hj KP
  have H2:=Hj (And.intro b2' hw2)
  clear bO bo hS sS b2 b2' hw2 KP HTr HP
  go_wp2_with fail
  refine (Uh HKP).mono ?_
  rintro _ w3 ⟨v8,rfl,aN,mN,cN,aD,mD,cD,rfl,sN,sD,nN,nD,b3⟩
  unfold ratV
  obtain ⟨w4,hw4⟩:∃ x,w3.alloc (.cells #[.bool rg,.slice aN mN cN,.slice aD mD cD] 39) = x:=⟨_,rfl⟩
  have b4:Below w3.heap.size w3 w4:=by rw [← hw4]; exact bAl
  have bV:BoxL w4 w3.heap.size [.bool rg,.slice aN mN cN,.slice aD mD cD]:=by have:=BoxL.made w3 #[.bool rg,.slice aN mN cN,.slice aD mD cD] 39; rw [hw4] at this; exact this
  obtain ⟨bO,bo,hS,sS⟩:=Uh HB
  have b34:Below wo.heap.size wo w4:=(Uh H2).1.trans ((b3.trans (b4.mono b3.size)).mono (Uh H2).1.size)
  have bO4:=bO.below b34
  have sS4:=sS.below b34
  have b04:Below w.heap.size w w4:=bo.trans (b34.mono bo.size)
  have v0:=(bV.all 0 _ rfl).1
  have v1:=(bV.all 1 _ rfl).1
  have v2:=(bV.all 2 _ rfl).1
  have d1:=(sS4.box.all 1 _ rfl).1
  have u0:=(bO4.all 0 _ rfl).1
  have u0f:=(bO4.all 0 _ rfl).2
  have u1:=(bO4.all 1 _ rfl).1
  have u1f:=(bO4.all 1 _ rfl).2
  have H4:=Hj (And.intro bO4 (And.intro sS4 (And.intro b04 hS)))
  have K1:=take_add B s st v cs 3 T 0 rg aN aD mN cN mD cD w4 sS4 hl (by decide) (by rw [Uh HTS]; omega)
  unfold fltV at K1
  have HK1:=Hj K1
  clear bO bo hS sS b3 b4 bV b34 bO4 sS4 b04 HKP sN sD nN nD K1
  subst he
  go_wp2_with fail
  refine (Uh HK1).mono ?_
  clear HK1
  rintro _ w5 ⟨rfl,vv,cs2,s2,k2⟩
  obtain ⟨bO4,sS4,b04,hS⟩:=Uh H4
  have nO:w.heap.size ≠ B:=by omega
  have nO2:v.ownBlock ≠ some w.heap.size:=fun e => by have:=(hS.row.ge e).2; omega
  have bY:=bO4.keep k2 nO nO2
  have q0:=(bY.all 0 _ rfl).1
  have q0f:=(bY.all 0 _ rfl).2
  have q1:=(bY.all 1 _ rfl).1
  have q1f:=(bY.all 1 _ rfl).2
  have HF:=Hj (And.intro bY (And.intro s2 (And.intro k2 (And.intro b04 (And.intro hS bO4.lt)))))
  clear bO4 sS4 b04 hS bY s2 k2 nO2 u0 u0f u1 u1f
  go_wp2_with fail
  obtain ⟨bY,s2,k2,b04,hS,zX⟩:=Uh HF
  have hf:=(bY.put 0 (.int .i64 0)).put 1 (.int .i64 0)
  have f0:=(hf.all 0 _ rfl).1
  have f1:=(hf.all 1 _ rfl).1
  have fB:=(s2.box.other (Y:=w.heap.size) 0 (.int .i64 0) (fun e => nO e.symm)).other (Y:=w.heap.size) 1 (.int .i64 0) (fun e => nO e.symm)
  have cW:Chg (fun j => j = w.heap.size) w5 ((w5.setCell ⟨w.heap.size,0,none⟩ (.int .i64 0)).setCell ⟨w.heap.size,1,none⟩ (.int .i64 0)):=(Chg.of_set (S:=fun j => j = w.heap.size) _ _ _ _ rfl).trans (Chg.of_set (S:=fun j => j = w.heap.size) _ _ _ _ rfl)
  have fC:ScC w ((w5.setCell ⟨w.heap.size,0,none⟩ (.int .i64 0)).setCell ⟨w.heap.size,1,none⟩ (.int .i64 0)) B v vv:=by
   refine ⟨((Chg.of_below b04).thens k2.chg (fun k hk e => e)).thens cW (fun k hk e => by omega),fun j hj => ?_⟩
   rcases k2.new j hj with d | d
   ·exact .inl d
   ·exact .inr (Nat.le_trans b04.size d)
  have fR:=s2.row.chg cW (fun j hj e => by
   rcases k2.new j hj with d | d
   ·have:=(hS.row.ge d).2; omega
   ·omega)
  have hTs:=Uh HTS
  have hT':=(Uh HTR).1
  rw [hTs,← hT'] at fB fR
  generalize ((w5.setCell ⟨w.heap.size,0,none⟩ (.int .i64 0)).setCell ⟨w.heap.size,1,none⟩ (.int .i64 0)) = wf at *
  refine bodyPost_ret (by simp [results,Tryz.results16,go_sem,f0,f1]; try rfl) rfl ?_
  exact ⟨rfl,_,_,⟨fB,fR⟩,fC⟩
 ·have hR0:0 < R.size:=by omega
  have e1:=byA_get R 0 hR0
  have e2:(R[0]'hR0).toNat = byA R 0:=by omega
  have tr0:(0:Int) < (R.size:Int):=by omega
  have trn:=str_some (r:=R) h0
  have KL:=fun W => fletter_any (R[0]'hR0).toNat W
  rw [e2,(Uh HHt hR0).1,← e2] at KL
  have tdt:(((R[0]'hR0).toNat:Int) == 46) = false:=by have:=(Uh HHt hR0).2; simp; omega
  have tdt':¬ ((R[0]'hR0).toNat:Int) = 46:=by have:=(Uh HHt hR0).2; omega
  have HL:=Hj KL
  clear KL e1 e2 h0
  go_enter Tryz.func16,Tryz.ntmps16
  go_wp2_with fail
  go_region
  go_wp2_with fail
  refine (Uh HL _).mono ?_
  rintro _ _ ⟨rfl,hw⟩
  obtain rfl:=hw.symm
  clear hw HL
  go_wp2_with fail
  refine (Uh HTr _).mono ?_
  rintro _ w2 ⟨rfl,b2⟩
  obtain ⟨bO,bo,hS,sS⟩:=Uh HB
  have b2':Below wo.heap.size wo w2:=(Below.refl _ _).drew.trans b2
  have hw2:Below w.heap.size w w2:=bo.trans (b2'.mono bo.size)
  have KP:=Uh HP w2 hw2
  have HKP:=Hj KP
  have H2:=Hj (And.intro b2' hw2)
  clear bO bo hS sS b2 b2' hw2 KP HTr HP
  go_wp2_with fail
  refine (Uh HKP).mono ?_
  rintro _ w3 ⟨v8,rfl,aN,mN,cN,aD,mD,cD,rfl,sN,sD,nN,nD,b3⟩
  unfold ratV
  obtain ⟨w4,hw4⟩:∃ x,w3.alloc (.cells #[.bool rg,.slice aN mN cN,.slice aD mD cD] 39) = x:=⟨_,rfl⟩
  have b4:Below w3.heap.size w3 w4:=by rw [← hw4]; exact bAl
  have bV:BoxL w4 w3.heap.size [.bool rg,.slice aN mN cN,.slice aD mD cD]:=by have:=BoxL.made w3 #[.bool rg,.slice aN mN cN,.slice aD mD cD] 39; rw [hw4] at this; exact this
  obtain ⟨bO,bo,hS,sS⟩:=Uh HB
  have b34:Below wo.heap.size wo w4:=(Uh H2).1.trans ((b3.trans (b4.mono b3.size)).mono (Uh H2).1.size)
  have bO4:=bO.below b34
  have sS4:=sS.below b34
  have b04:Below w.heap.size w w4:=bo.trans (b34.mono bo.size)
  have v0:=(bV.all 0 _ rfl).1
  have v1:=(bV.all 1 _ rfl).1
  have v2:=(bV.all 2 _ rfl).1
  have d1:=(sS4.box.all 1 _ rfl).1
  have u0:=(bO4.all 0 _ rfl).1
  have u0f:=(bO4.all 0 _ rfl).2
  have u1:=(bO4.all 1 _ rfl).1
  have u1f:=(bO4.all 1 _ rfl).2
  have H4:=Hj (And.intro bO4 (And.intro sS4 (And.intro b04 hS)))
  have K1:=take_add B s st v cs 3 T 0 rg aN aD mN cN mD cD w4 sS4 hl (by decide) (by rw [Uh HTS]; omega)
  unfold fltV at K1
  have HK1:=Hj K1
  clear bO bo hS sS b3 b4 bV b34 bO4 sS4 b04 HKP sN sD nN nD K1
  subst he
  go_wp2_with fail
  refine (Uh HK1).mono ?_
  clear HK1
  rintro _ w5 ⟨rfl,vv,cs2,s2,k2⟩
  obtain ⟨bO4,sS4,b04,hS⟩:=Uh H4
  have nO:w.heap.size ≠ B:=by omega
  have nO2:v.ownBlock ≠ some w.heap.size:=fun e => by have:=(hS.row.ge e).2; omega
  have bY:=bO4.keep k2 nO nO2
  have q0:=(bY.all 0 _ rfl).1
  have q0f:=(bY.all 0 _ rfl).2
  have q1:=(bY.all 1 _ rfl).1
  have q1f:=(bY.all 1 _ rfl).2
  have HF:=Hj (And.intro bY (And.intro s2 (And.intro k2 (And.intro b04 (And.intro hS bO4.lt)))))
  clear bO4 sS4 b04 hS bY s2 k2 nO2 u0 u0f u1 u1f
  go_wp2_with fail
  obtain ⟨bY,s2,k2,b04,hS,zX⟩:=Uh HF
  have hf:=(bY.put 0 (.int .i64 0)).put 1 (.int .i64 0)
  have f0:=(hf.all 0 _ rfl).1
  have f1:=(hf.all 1 _ rfl).1
  have fB:=(s2.box.other (Y:=w.heap.size) 0 (.int .i64 0) (fun e => nO e.symm)).other (Y:=w.heap.size) 1 (.int .i64 0) (fun e => nO e.symm)
  have cW:Chg (fun j => j = w.heap.size) w5 ((w5.setCell ⟨w.heap.size,0,none⟩ (.int .i64 0)).setCell ⟨w.heap.size,1,none⟩ (.int .i64 0)):=(Chg.of_set (S:=fun j => j = w.heap.size) _ _ _ _ rfl).trans (Chg.of_set (S:=fun j => j = w.heap.size) _ _ _ _ rfl)
  have fC:ScC w ((w5.setCell ⟨w.heap.size,0,none⟩ (.int .i64 0)).setCell ⟨w.heap.size,1,none⟩ (.int .i64 0)) B v vv:=by
   refine ⟨((Chg.of_below b04).thens k2.chg (fun k hk e => e)).thens cW (fun k hk e => by omega),fun j hj => ?_⟩
   rcases k2.new j hj with d | d
   ·exact .inl d
   ·exact .inr (Nat.le_trans b04.size d)
  have fR:=s2.row.chg cW (fun j hj e => by
   rcases k2.new j hj with d | d
   ·have:=(hS.row.ge d).2; omega
   ·omega)
  have hTs:=Uh HTS
  have hT':=(Uh HTR).1
  rw [hTs,← hT'] at fB fR
  generalize ((w5.setCell ⟨w.heap.size,0,none⟩ (.int .i64 0)).setCell ⟨w.heap.size,1,none⟩ (.int .i64 0)) = wf at *
  refine bodyPost_ret (by simp [results,Tryz.results16,go_sem,f0,f1]; try rfl) rfl ?_
  exact ⟨rfl,_,_,⟨fB,fR⟩,fC⟩
end Go.Proofs.YtjoaijbhpgekoaaGreatDoor
namespace Go.Proofs.YtjoaijbhpgekoaaGreatDoor
open Go.RowKit Go.Deep Go.Shelf
set_option linter.unusedVariables false
theorem trim_br (s:ByteArray) (w:World) (hs:s.size ≤ 65536):Calls Tryz.prog 28 #[.string s,.string ⟨#[91,93]⟩] w fun e w' => e = .returned (.string ⟨(Lib.trimS s.data.toList [91,93]).toArray⟩) ∧ Below w.heap.size w w' :=
 Any.strings_Trim_laid trLays (by kernel_rfl) s ⟨#[91,93]⟩ w (by omega) (by decide) (ascii_of_all (by decide))
theorem tok_num {s:ByteArray} {i:Nat} (hl:ltrN (byA s i) = false) (hd:dgtN (byA s i) = true ∨ byA s i = 91):tokE s i = if nuE s i = 0 ∨ (nuE s i < s.size ∧ (ltrN (byA s (nuE s i)) = true ∨ byA s (nuE s i) = 46)) then (81,0) else (0,nuE s i):=by
 unfold tokE
 rw [if_neg (by rw [hl]; decide),if_pos hd]
theorem num_of {s:ByteArray} {w0 w:World} {B n:Nat} {st:TkS} {v:Value} {cs:List Value} (hs:s.size ≤ 65536) (hT:Tab64 w0) (hTB:TabBh w0) (hS:ScS w B 41 s st v cs) (hi:st.i < s.size) (hl:ltrN (byA s st.i) = false) (hd:dgtN (byA s st.i) = true ∨ byA s st.i = 91) (hb:Below w0.heap.size w0 w)
  (hnz:nzE s st.i = n) (h0:n = 0 → nuE s st.i = 0) (hn:0 < n → st.i + n ≤ s.size ∧ ∃ U,(∀ W,Calls Tryz.prog 28 #[.string (s.extract st.i (st.i + n)),.string ⟨#[91,93]⟩] W fun e w' => e = .returned (.string U) ∧ Below W.heap.size W w') ∧ ∃ rg rx ry ra re,(∀ W,Tab64 W → TabBh W → Calls Tryz.prog 27 #[.string U] W fun e w' => PsPost W w' rg rx ry ra re e) ∧ (re = 0 → nuE s st.i = st.i + n) ∧ (re ≠ 0 → nuE s st.i = 0)) :
  ((tokE s st.i).1 ≠ 0 → Calls Tryz.prog 16 #[.pointer (some ⟨B,0,none⟩),.int .i64 (nzE s st.i:Nat)] w fun e w' => e = .returned (fltV (st.i:Int) ((tokE s st.i).1:Nat)) ∧ Below w.heap.size w w') ∧
  ((tokE s st.i).1 = 0 → st.l.length = 16384 → Calls Tryz.prog 16 #[.pointer (some ⟨B,0,none⟩),.int .i64 (nzE s st.i:Nat)] w fun e w' => e = .returned (fltV (st.i:Int) 85) ∧ Below w.heap.size w w') ∧
  ((tokE s st.i).1 = 0 → st.l.length < 16384 → Calls Tryz.prog 16 #[.pointer (some ⟨B,0,none⟩),.int .i64 (nzE s st.i:Nat)] w fun e w' => e = .returned (fltV 0 0) ∧ ∃ v' cs',ScS w' B 41 s ⟨(tokE s st.i).2,true,st.l ++ [s.extract st.i (tokE s st.i).2]⟩ v' cs' ∧ ScC w w' B v v'):=by
 have et:=tok_num hl hd
 rw [hnz]
 rcases Nat.eq_zero_or_pos n with hz | hz
 ·rw [if_pos (.inl (h0 hz))] at et
  rw [et]
  exact ⟨fun _ => number_z B s st v cs n w hS (by omega) hs hz,(fun h => by cases h),(fun h => by cases h)⟩
 ·obtain ⟨hin,U,hTr,rg,rx,ry,ra,re,hP,h1,h2⟩:=hn hz
  have hP':∀ W,Below w.heap.size w W → Calls Tryz.prog 27 #[.string U] W fun e w' => PsPost W w' rg rx ry ra re e:=fun W hW => hP W (hT.below (hb.trans (hW.mono hb.size))) (hTB.below (hb.trans (hW.mono hb.size)))
  by_cases hf:st.i + n < s.size ∧ (ltrN (byA s (st.i + n)) = true ∨ byA s (st.i + n) = 46)
  ·have e81:tokE s st.i = (81,0):=by
    by_cases hre:re = 0
    ·rw [et,h1 hre,if_pos (.inr hf)]
    ·rw [et,if_pos (.inl (h2 hre))]
   rw [e81]
   refine ⟨fun _ => ?_,(fun h => by cases h),(fun h => by cases h)⟩
   by_cases hL:ltrN (byA s (st.i + n)) = true
   ·exact number_l B s st v cs n w hS hin hs hz hf.1 hL
   ·exact number_d B s st v cs n w hS hin hs hz hf.1 (by simpa using hL) (hf.2.resolve_left hL)
  ·have ht:st.i + n < s.size → ltrN (byA s (st.i + n)) = false ∧ byA s (st.i + n) ≠ 46:=fun h => ⟨by
    cases e:ltrN (byA s (st.i + n))
    ·rfl
    ·exact absurd ⟨h,.inl e⟩ hf,fun e => hf ⟨h,.inr e⟩⟩
   by_cases hre:re = 0
   ·have e0:tokE s st.i = (0,st.i + n):=by
     rw [et,h1 hre,if_neg]
     rintro (c | c)
     ·omega
     ·exact hf c
    rw [e0]
    exact ⟨fun h => absurd rfl h,fun _ hl => number_full B s st v cs n w hS hin hs hz ht U hTr rg rx ry ra re hP' hre hl,fun _ hl => number_add B s st v cs n w hS hin hs hz ht U hTr rg rx ry ra re hP' hre hl⟩
   ·have e81:tokE s st.i = (81,0):=by rw [et,if_pos (.inl (h2 hre))]
    rw [e81]
    exact ⟨fun _ => number_p B s st v cs n w hS hin hs hz ht U hTr rg rx ry ra re hP' hre,(fun h => by cases h),(fun h => by cases h)⟩
theorem num_plain {s:ByteArray} {i:Nat} (hs:s.size ≤ 65536) (hi:i < s.size) (hd:dgtN (byA s i) = true):∃ n,nzE s i = n ∧ (n = 0 → nuE s i = 0) ∧ (0 < n → i + n ≤ s.size ∧ ∃ U,(∀ W,Calls Tryz.prog 28 #[.string (s.extract i (i + n)),.string ⟨#[91,93]⟩] W fun e w' => e = .returned (.string U) ∧ Below W.heap.size W w') ∧ ∃ rg rx ry ra re,(∀ W,Tab64 W → TabBh W → Calls Tryz.prog 27 #[.string U] W fun e w' => PsPost W w' rg rx ry ra re e) ∧ (re = 0 → nuE s i = i + n) ∧ (re ≠ 0 → nuE s i = 0)):=by
 have h91:¬ byA s i = 91:=fun c => by rw [c] at hd; cases hd
 have e1:nzE s i = plE (s.extract i s.size) 0:=by unfold nzE; rw [if_neg h91]
 have e2:nuE s i = plE s i:=by unfold nuE; rw [if_neg h91]
 have hk:=plE_link hi hd
 refine ⟨_,e1,fun h => by rw [e2,hk,if_pos h],fun h => ?_⟩
 obtain ⟨n,hn⟩:∃ n,plE (s.extract i s.size) 0 = n:=⟨_,rfl⟩
 rw [hn] at h hk ⊢
 obtain ⟨f1,f2,a,f3,f4,f5⟩:=plain_form hi hd hn h
 have hTs:(s.extract i (i + n)).size = n:=by rw [ByteArray.size_extract]; omega
 obtain ⟨rg,rx,ry,hP⟩:=parse_plain (T:=s.extract i (i + n)) (by omega) f3 f4 f5
 refine ⟨f2,s.extract i (i + n),fun W => ?_,rg,rx,ry,0,0,hP,fun _ => by rw [e2,hk,if_neg (by omega)],fun c => absurd rfl c⟩
 have K:=trim_br (s.extract i (i + n)) W (by omega)
 have b1:∀ q,q < (s.extract i (i + n)).size → (q = 0 ∨ q = (s.extract i (i + n)).size - 1) → 48 ≤ byA (s.extract i (i + n)) q ∧ byA (s.extract i (i + n)) q ≤ 57:=fun q hq hq2 => by
  have ht:=f3.top
  by_cases c:q < a
  ·exact (kd_one (by omega)).1 (f3.all q (Nat.zero_le _) c)
  ·rcases f5 with f5 | ⟨_,g2,g3,g4⟩
   ·omega
   ·exact (kd_one (by omega)).1 (g3.all q (by omega) (by omega))
 have x0:=b1 0 (by omega) (.inl rfl)
 have x1:=b1 ((s.extract i (i + n)).size - 1) (by omega) (.inr rfl)
 rw [trim_mid (x:=0) (y:=(s.extract i (i + n)).size) (by omega) (Nat.le_refl _) (fun q hq => by omega) (by omega) (fun q h1 h2 => by omega) (by omega),ByteArray.extract_zero_size] at K
 exact K
end Go.Proofs.YtjoaijbhpgekoaaGreatDoor
namespace Go.Proofs.YtjoaijbhpgekoaaGreatDoor
open Go.RowKit Go.Deep
set_option linter.unusedVariables false
theorem pws_pw {s:ByteArray} {x y:Nat} (hy:y ≤ s.size):∀ k,x + k ≤ y → pwS s x k = pwB (s.extract x y) k
 | 0,_ => rfl
 | k + 1,h => by
  show 10 * pwS s x k + (byA s (x + k) - 48) = 10 * pwB (s.extract x y) k + (byA (s.extract x y) k - 48)
  rw [pws_pw hy k (by omega),byA_ext (by omega) hy]
theorem fitD_is {s:ByteArray} {x y:Nat} (hxy:x < y) (hy:y ≤ s.size):fitD s x y = decide ((limbs (pwB (s.extract x y) (s.extract x y).size)).length ≤ 2048):=by
 unfold fitD
 have hz:(s.extract x y).size = y - x:=by rw [ByteArray.size_extract]; omega
 rw [decide_eq_true hxy,Bool.true_and,pws_pw hy (y - x) (by omega),hz]
theorem fitD_no {s:ByteArray} {x y:Nat} (h:y ≤ x):fitD s x y = false:=by
 unfold fitD
 rw [decide_eq_false (by omega),Bool.false_and]
theorem brS_shift {s:ByteArray} {i:Nat} (hi:i < s.size):brS s i = i + brS (s.extract i s.size) 0:=by
 have hz:(s.extract i s.size).size = s.size - i:=by rw [ByteArray.size_extract]; omega
 unfold brS
 by_cases c:i + 1 < s.size ∧ byA s (i + 1) = 45
 ·rw [if_pos c,if_pos ⟨by omega,by rw [Nat.zero_add,ext_byte (by omega)]; exact c.2⟩]
 ·rw [if_neg c,if_neg (fun h => c ⟨by omega,by have:=h.2; rw [Nat.zero_add,ext_byte (by omega)] at this; exact this⟩)]
theorem parse_whole_br {U:ByteArray} {g:Bool} {j:Nat} (hs:U.size ≤ 65536) (h:Hd U g j) (r:RunK U j U.size) (hj:j < U.size):∃ rg rx ry ra re,(∀ W,Tab64 W → TabBh W → Calls Tryz.prog 27 #[.string U] W fun e w' => PsPost W w' rg rx ry ra re e) ∧ (re = 0 ↔ (limbs (pwB (U.extract j U.size) (U.extract j U.size).size)).length ≤ 2048):=by
 have t:=ok_end (mn_whole h r hj) rfl
 have TK:=tk_z h hs hj t
 have hcat:=cat_nil (U.extract j U.size)
 have hd:=run_dig r
 have hsz:(U.extract j U.size).size = U.size - j:=by rw [ByteArray.size_extract]; omega
 obtain ⟨Z,hZ⟩:∃ Z,WfF g (pwB (U.extract j U.size) (U.extract j U.size).size * 10 ^ 0) 1 = Z:=⟨_,rfl⟩
 refine ⟨Z.1.1,Z.1.2.1,Z.1.2.2,0,Z.2,fun W hT hB => ?_,?_⟩
 ·have K:=rparse_up g U (U.extract j U.size) ⟨#[]⟩ ⟨#[]⟩ 0 0 0 W hs hT hB (by omega) (by decide) (by omega) TK (fun V => readPower_nil V) (by rw [hcat]; omega) (by rw [hcat]; omega) (by rw [hcat]; exact hd)
  rw [hcat,hZ] at K
  exact K
 ·rw [← hZ,Nat.pow_zero,Nat.mul_one]
  constructor
  ·intro e
   rcases Nat.lt_or_ge 2048 (limbs (pwB (U.extract j U.size) (U.extract j U.size).size)).length with c | c
   ·rw [wf_big (.inl c)] at e; cases e
   ·exact c
  ·intro c
   exact wf_zero (by decide) c (by rw [limbs_1]; decide)
theorem parse_frac_br {U:ByteArray} {g:Bool} {j a:Nat} (hs:U.size ≤ 65536) (h:Hd U g j) (r:RunK U j a) (hj:j < a) (h47:byA U a = 47) (ha:a < U.size) (r2:RunK U (a + 1) U.size) (hk:a + 1 < U.size):∃ rg rx ry ra re,(∀ W,Tab64 W → TabBh W → Calls Tryz.prog 27 #[.string U] W fun e w' => PsPost W w' rg rx ry ra re e) ∧ (re = 0 ↔ (limbs (pwB (U.extract j a) (U.extract j a).size)).length ≤ 2048 ∧ (limbs (pwB (U.extract (a + 1) U.size) (U.extract (a + 1) U.size).size)).length ≤ 2048 ∧ pwB (U.extract (a + 1) U.size) (U.extract (a + 1) U.size).size ≠ 0):=by
 have h4:=(kd_four ha).2 h47
 have t:=ok_slash h r hj h4 r2 hk rfl
 have TK:=tk_n h hs hj ha t
 have dd:=run_dig r
 have du:=run_dig r2
 have hsd:(U.extract j a).size = a - j:=by rw [ByteArray.size_extract]; omega
 have hsu:(U.extract (a + 1) U.size).size = U.size - (a + 1):=by rw [ByteArray.size_extract]; omega
 by_cases h0:pwB (U.extract (a + 1) U.size) (U.extract (a + 1) U.size).size = 0
 ·refine ⟨false,[],[],(a:Nat),3,fun W hT hB => rparse_sl0 g U _ _ a W hs hT hB (by omega) TK (by omega) du h0,?_⟩
  constructor
  ·intro e; cases e
  ·intro e; exact absurd h0 e.2.2
 ·obtain ⟨Z,hZ⟩:∃ Z,WfF g (pwB (U.extract j a) (U.extract j a).size) (pwB (U.extract (a + 1) U.size) (U.extract (a + 1) U.size).size) = Z:=⟨_,rfl⟩
  refine ⟨Z.1.1,Z.1.2.1,Z.1.2.2,0,Z.2,fun W hT hB => ?_,?_⟩
  ·have K:=rparse_sl g U (U.extract j a) (U.extract (a + 1) U.size) a W hs hT hB (by omega) TK (by omega) (by omega) dd (by omega) (by omega) du (by omega)
   rw [hZ] at K
   exact K
  ·rw [← hZ]
   constructor
   ·intro e
    refine ⟨?_,?_,h0⟩
    ·rcases Nat.lt_or_ge 2048 (limbs (pwB (U.extract j a) (U.extract j a).size)).length with c | c
     ·rw [wf_big (.inl c)] at e; cases e
     ·exact c
    ·rcases Nat.lt_or_ge 2048 (limbs (pwB (U.extract (a + 1) U.size) (U.extract (a + 1) U.size).size)).length with c | c
     ·rw [wf_big (.inr c)] at e; cases e
     ·exact c
   ·rintro ⟨c1,c2,_⟩
    exact wf_zero (by omega) c1 c2
end Go.Proofs.YtjoaijbhpgekoaaGreatDoor
