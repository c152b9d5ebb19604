/- Ci6 -/
import Derived.Test.YtgjokididdffhaaGreatCi1
import Derived.Test.YtgjokididdffhaaGreatCi2
namespace Go.Proofs.YtgjokididdffhaaGreat
open Go.RowKit Go.Deep
set_option linter.unusedVariables false
theorem crow_list (R:Nat) (width:Int) (a1 a2:Option Addr) (n1 c1 n2 c2:Nat) (st cols:List Int) (r:Nat) (w:World) (h1:SlI w a1 n1 c1 st) (h2:SlI w a2 n2 c2 cols) (hb1:n1 ≤ 17592186044000) (hb2:n2 ≤ 17592186044000) (hm:MayP (R:Int) width st cols) (hr:r < R) :
  Calls Tryz.prog 115 #[patV (R:Int) width a1 n1 c1 a2 n2 c2,.int .i64 (r:Int)] w fun e w' => ∃ a c,e = .returned (.slice a (rowL st cols r).length c) ∧ SlI w' a (rowL st cols r).length c (rowL st cols r) ∧ (rowL st cols r).length ≤ 17592186044000 ∧ (∀ y,a = some y → rowL st cols r ≠ [] → ∃ t,a2 = some t ∧ t.block = y.block) ∧ Below w.heap.size w w':=by
 obtain ⟨X,Y,hR⟩:=hm.rowAt (k:=r) (by omega)
 refine (crow_any R width a1 a2 n1 c1 n2 c2 st cols r X Y w h1 h2 (by omega) (by omega) hm hr hR).mono ?_
 rintro _ w' ⟨rfl,b⟩
 have hsub:=(h2.below b).sub hR.le (by rw [← h2.len]; exact hR.lt)
 have hl:rowL st cols r = (cols.drop X).take (Y - X):=by
  unfold rowL
  rw [hR.hX,hR.hY]
  simp
 have hlen:(rowL st cols r).length = Y - X:=by
  rw [hl,List.length_take,List.length_drop]
  have:=hR.lt
  omega
 unfold subV
 refine ⟨_,_,by rw [hlen],by rw [hlen,hl]; exact hsub,by rw [hlen]; have:=hR.lt; have:=h2.len; omega,fun y hy _ => ?_,b⟩
 by_cases e:c2 = X
 ·rw [if_pos e] at hy
  exact ⟨y,hy,rfl⟩
 ·rw [if_neg e] at hy
  cases h:a2 with
  | none => rw [h] at hy; simp at hy
  | some t =>
   rw [h] at hy
   simp at hy
   refine ⟨t,rfl,?_⟩
   rw [← hy]
   unfold Addr.add
   split <;> rfl
def NeT (S C:List Int) (xs:List Int) (m:Nat) (wd:Bool) (v:Nat) (L:List Int) (i k:Nat):Prop:=(∃ p,p < i ∧ L.getD p 0 = (k:Int)) ∨ (wd = true ∧ ∃ p,p < i ∧ posI xs m (L.getD p 0).toNat < posI xs m v ∧ (k:Int) ∈ rowL S C (L.getD p 0).toNat)
def NeaC (S C:List Int) (xs:List Int) (m:Nat) (wd:Bool) (v k:Nat):Prop:=NeT S C xs m wd v (rowL S C v) (rowL S C v).length k
theorem row_rng {m:Nat} {S C:List Int} (hm:MayP (m:Int) (m:Int) S C) {v:Nat} (hv:v < m) {p:Nat} (hp:p < (rowL S C v).length):0 ≤ (rowL S C v).getD p 0 ∧ (rowL S C v).getD p 0 < (m:Int):=by
 have h0:=rowL_rng hm hv p hp
 obtain ⟨c,hc⟩:∃ c:Nat,(rowL S C v).getD p 0 = (c:Int):=⟨((rowL S C v).getD p 0).toNat,by omega⟩
 rw [hc]
 obtain ⟨X',Y',hR'⟩:=hm.rowAt (k:=v) (by omega)
 obtain ⟨j,j1,j2,j3⟩:=(rowL_mem hm hv).1 (mem_getD.2 ⟨p,hp,hc⟩)
 rw [hR'.hX] at j1
 rw [hR'.hY] at j2
 have:=hR'.row.rng j (by omega) (by omega)
 omega
def CtP (S C:List Int) (xs:List Int) (m:Nat) (wd:Bool) (v h X o cnt:Nat) (w w':World) (e:Ending):Prop:=∃ ls':Nat → Int,e = .returned (.int .i64 (cnP (fun j => NeaC S C xs m wd v (xs.getD j 0).toNat) (posI xs m v).toNat:Int)) ∧ RoV w' h m (fun i => .int .i64 (ls' i)) ∧ (∀ k,k < m → ls' k ≤ ((cnt + 1:Nat):Int)) ∧ (w'.cell? ⟨X,o,none⟩ = some (.int .i64 ((cnt + 1:Nat):Int)) ∧ w'.frozen? ⟨X,o,none⟩ = false) ∧ w'.cell? ⟨X,o + 1,none⟩ = some (.slice (some ⟨h,0,none⟩) m m) ∧ Chg (fun j => j = h ∨ j = X) w w'
theorem Chg.then2 {S T:Nat → Prop} {a b c:World} (h:Chg S a b) (k:Chg T b c) (hs:∀ k,k < a.heap.size → T k → S k):Chg S a c :=
 ⟨k.os.trans h.os,k.tape.trans h.tape,k.output.trans h.output,Nat.le_trans h.size k.size,fun j hj hn => (k.block j (Nat.lt_of_lt_of_le hj h.size) (fun t => hn (hs j hj t))).trans (h.block j hj hn)⟩
theorem NeT_next {S C:List Int} {xs:List Int} {m:Nat} {wd:Bool} {v:Nat} {L:List Int} {i u:Nat} (hu:L.getD i 0 = (u:Int)) (k:Nat):NeT S C xs m wd v L (i + 1) k ↔ ((NeT S C xs m wd v L i k ∨ k = u) ∨ (wd = true ∧ posI xs m u < posI xs m v ∧ (k:Int) ∈ rowL S C u)):=by
 have eu:((u:Int)).toNat = u:=by omega
 constructor
 ·rintro (⟨p,hp,e⟩ | ⟨h1,p,hp,h2,h3⟩)
  ·by_cases c:p = i
   ·subst c; left; right; rw [hu] at e; omega
   ·exact .inl (.inl (.inl ⟨p,by omega,e⟩))
  ·by_cases c:p = i
   ·subst c; right; rw [hu,eu] at h2 h3; exact ⟨h1,h2,h3⟩
   ·exact .inl (.inl (.inr ⟨h1,p,by omega,h2,h3⟩))
 ·rintro (((⟨p,hp,e⟩ | ⟨h1,p,hp,h2,h3⟩) | e) | ⟨h1,h2,h3⟩)
  ·exact .inl ⟨p,by omega,e⟩
  ·exact .inr ⟨h1,p,by omega,h2,h3⟩
  ·exact .inl ⟨i,by omega,by rw [hu,e]⟩
  ·exact .inr ⟨h1,i,by omega,by rw [hu,eu]; exact h2,by rw [hu,eu]; exact h3⟩
theorem cnP_none {P:Nat → Prop} {k:Nat} (h:∀ j,j < k → ¬ P j) (n:Nat) (hn:n ≤ k):cnP P n = 0:=by
 induction n with
 | zero => rfl
 | succ n ih => rw [cnP_next,ih (by omega),tb_no (h n (by omega))]; rfl
set_option maxRecDepth 100000 in
set_option maxHeartbeats 16000000 in
theorem ccount_any (G G1 G2 G3:Nat) (wd:Bool) (R width:Nat) (a1:Option Addr) (n1 c1:Nat) (a2:Option Addr) (n2 c2 m:Nat) (x:Option Addr) (sl d:Nat) (y:Option Addr) (cl z:Nat) (S C:List Int) (xs:List Int) (v g h X o cnt:Nat) (ls:Nat → Int) (w:World)
  (hS:SlI w x sl d S) (hC:SlI w y cl z C) (hb1:sl ≤ 17592186044000) (hb2:cl ≤ 17592186044000) (hm:MayP (m:Int) (m:Int) S C) (ho:OrdTo xs m m) (hv:v < m) (hpl:RoV w g m (fun i => .int .i64 (posI xs m i))) (hls:RoV w h m (fun i => .int .i64 (ls i))) (k0:w.cell? ⟨X,o,none⟩ = some (.int .i64 (cnt:Int)) ∧ w.frozen? ⟨X,o,none⟩ = false) (k1:w.cell? ⟨X,o + 1,none⟩ = some (.slice (some ⟨h,0,none⟩) m m)) (hcn:cnt ≤ 1000000) (hne:h ≠ g ∧ h ≠ X ∧ X ≠ g) (hle:∀ k,k < m → ls k ≤ (cnt:Int)) (hns:∀ t,x = some t → S ≠ [] → t.block ≠ h ∧ t.block ≠ X) (hnc:∀ t,y = some t → C ≠ [] → t.block ≠ h ∧ t.block ≠ X) :
  Calls Tryz.prog 74 #[tkV G G1 G2 G3 wd R width a1 n1 c1 a2 n2 c2 m x sl d y cl z,.int .i64 (v:Int),.slice (some ⟨g,0,none⟩) m m,.pointer (some ⟨X,o,none⟩)] w fun e w' => CtP S C xs m wd v h X o cnt w w' e:=by
 have hm8:m ≤ 128:=by have:=hm.head.fit; omega
 unfold tkV
 generalize hTV:#[(.func (.func G) #[] #[]),(.func (.func G1) #[] #[]),(.func (.func G2) #[] #[]),(.func (.func G3) #[] #[]),(.bool wd),.int .i64 (R:Int),.int .i64 (width:Int),.slice a1 n1 c1,.slice a2 n2 c2,.int .i64 (m:Int),.int .i64 (m:Int),.slice x sl d,Value.slice y cl z] = TV
 obtain ⟨wA,hwA⟩:∃ q,w.alloc (.cells TV 80) = q:=⟨_,rfl⟩
 obtain ⟨wB,hwB⟩:∃ q,wA.alloc (.cells #[.int .i64 (v:Int)] 3) = q:=⟨_,rfl⟩
 obtain ⟨wC,hwC⟩:∃ q,wB.alloc (.cells #[.slice (some ⟨g,0,none⟩) m m] 23) = q:=⟨_,rfl⟩
 obtain ⟨wD,hwD⟩:∃ q,wC.alloc (.cells #[.pointer (some ⟨X,o,none⟩)] 129) = q:=⟨_,rfl⟩
 have bA:Below w.heap.size w wA:=by rw [← hwA]; exact bAl
 have bB:Below wA.heap.size wA wB:=by rw [← hwB]; exact bAl
 have bC:Below wB.heap.size wB wC:=by rw [← hwC]; exact bAl
 have bD:Below wC.heap.size wC wD:=by rw [← hwD]; exact bAl
 have xA:=BoxP.made w TV 80
 rw [hwA,← hTV] at xA
 have xB:=BoxP.made wA #[.int .i64 (v:Int)] 3
 rw [hwB] at xB
 have xC:=BoxP.made wB #[.slice (some ⟨g,0,none⟩) m m] 23
 rw [hwC] at xC
 have xD:=BoxP.made wC #[.pointer (some ⟨X,o,none⟩)] 129
 rw [hwD] at xD
 have bCD:=bC.trans (bD.mono bC.size)
 have bBD:=bB.trans (bCD.mono bB.size)
 have bAD:=bA.trans (bBD.mono bA.size)
 have lA:=xA.lt
 have lB:=xB.lt
 have lC:=xC.lt
 have lD:=xD.lt
 have d0:=(xD.all 0 _ rfl).1
 have c5:Chg (fun j => j = X) wD (wD.setCell ⟨X,o,none⟩ (.int .i64 ((cnt + 1:Nat):Int))):=Chg.of_set _ _ _ _ rfl
 have cAD:Chg (fun _ => False) w wD:=Chg.of_below bAD
 have kD:=cAD.cell (fun q => q) k0.1
 have fD:wD.frozen? ⟨X,o,none⟩ = false:=by rw [cAD.frzP (World.block_lt_of_cell? _ _ k0.1) (fun q => q)]; exact k0.2
 have KD:=Hj (cdrop_any X o cnt wD kD fD (by omega))
 have lX:X < w.heap.size:=World.block_lt_of_cell? _ _ k0.1
 have lg:g < w.heap.size:=World.block_lt_of_cell? _ _ (hpl v hv).1
 have lh:h < w.heap.size:=World.block_lt_of_cell? _ _ (hls v hv).1
 have s1:=bA.size
 have s2:=bB.size
 have s3:=bC.size
 have s4:=bD.size
 have hX5:(wD.setCell ⟨X,o,none⟩ (.int .i64 ((cnt + 1:Nat):Int))).cell? ⟨X,o,none⟩ = some (.int .i64 ((cnt + 1:Nat):Int)):=by
  have hf:=World.cell?_setCell_same (w:=wD) (a:=⟨X,o,none⟩) (v:=.int .i64 ((cnt + 1:Nat):Int)) kD
  exact hf
 have hX6:(wD.setCell ⟨X,o,none⟩ (.int .i64 ((cnt + 1:Nat):Int))).cell? ⟨X,o + 1,none⟩ = some (.slice (some ⟨h,0,none⟩) m m):=by
  rw [World.cell?_setCell_other _ _ _ _ (by intro q; simp at q)]
  exact cAD.cell (fun q => q) k1
 have fX5:(wD.setCell ⟨X,o,none⟩ (.int .i64 ((cnt + 1:Nat):Int))).frozen? ⟨X,o,none⟩ = false:=by rw [World.frozen?_setCell]; exact fD
 have yA:=(xA.below bBD).chg c5 (by omega)
 have yB:=(xB.below bCD).chg c5 (by omega)
 have yC:=(xC.below bD).chg c5 (by omega)
 have yD:=xD.chg c5 (by omega)
 have zg:=(hpl.below bAD).chg c5 (fun e => hne.2.2 e.symm)
 have zh:=(hls.below bAD).chg c5 hne.2.1
 have zS:=(hS.below bAD).chg c5 (fun t ht hn => (hns t ht hn).2)
 have zC:=(hC.below bAD).chg c5 (fun t ht hn => (hnc t ht hn).2)
 have HCW:=Hj (show Chg (fun j => j = h ∨ j = X) w (wD.setCell ⟨X,o,none⟩ (.int .i64 ((cnt + 1:Nat):Int))) from (Chg.of_below bAD).trans (c5.mono (fun j _ e => .inr e)))
 have s5:=c5.size
 have HLB:=Hj (And.intro (fun hn => hS.block_lt hn) (fun hn => hC.block_lt hn))
 obtain ⟨w5,hw5⟩:∃ q,wD.setCell ⟨X,o,none⟩ (.int .i64 ((cnt + 1:Nat):Int)) = q:=⟨_,rfl⟩
 rw [hw5] at hX5 hX6 fX5 yA yB yC yD zg zh zS zC HCW s5
 have HW5:=Hj hw5
 obtain ⟨w6,hw6⟩:∃ q,w5.alloc (.cells #[.int .i64 0] 3) = q:=⟨_,rfl⟩
 have b6:Below w5.heap.size w5 w6:=by rw [← hw6]; exact bAl
 have xP:=BoxP.made w5 #[.int .i64 0] 3
 rw [hw6] at xP
 have c6:Chg (fun _ => False) w5 w6:=Chg.of_below b6
 have hCI:CaI w6 g h X o wB.heap.size wA.heap.size wC.heap.size w5.heap.size m (cnt + 1) xs v ls 0 :=
  ⟨yC.below b6,yB.below b6,yD.below b6,xP,⟨c6.cell (fun q => q) hX5,by rw [c6.frzP (World.block_lt_of_cell? _ _ hX5) (fun q => q)]; exact fX5⟩,c6.cell (fun q => q) hX6,zg.below b6,zh.below b6,by omega,by omega⟩
 have hCM:CaM xs m v (cnt + 1) (fun _ => False) ls 0:=⟨fun k hk => ⟨fun e => by have:=hle k hk; omega,fun e => e.1.elim⟩,(cnP_none (fun _ _ q => q) _ (Nat.le_refl _)).symm,fun k hk => by have:=hle k hk; omega⟩
 have hKP:∀ W,Chg (fun j => j = h ∨ j = w5.heap.size) w6 W → BoxP W w.heap.size [(.func (.func G) #[] #[]),(.func (.func G1) #[] #[]),(.func (.func G2) #[] #[]),(.func (.func G3) #[] #[]),(.bool wd),.int .i64 (R:Int),.int .i64 (width:Int),.slice a1 n1 c1,.slice a2 n2 c2,.int .i64 (m:Int),.int .i64 (m:Int),.slice x sl d,Value.slice y cl z] ∧ SlI W x sl d S ∧ SlI W y cl z C:=fun W k =>
  ⟨(yA.below b6).chg k (by omega),(zS.below b6).chg k (fun t ht hn e => by have:=hns t ht hn; have:=(Uh HLB).1 hn t ht; omega),(zC.below b6).chg k (fun t ht hn e => by have:=hnc t ht hn; have:=(Uh HLB).2 hn t ht; omega)⟩
 have HNC:=Hj (show ∀ t,y = some t → C ≠ [] → t.block ≠ h ∧ t.block < w5.heap.size from fun t ht hn => ⟨(hnc t ht hn).1,by have:=(Uh HLB).2 hn t ht; omega⟩)
 have HCI:=Hj hCI
 have HCM:=Hj hCM
 have HKP:=Hj hKP
 have HM:=Hj hm
 have HOR:=Hj ho
 have HLS:=Hj (And.intro lX (And.intro lg lh))
 have HSZ:=Hj (show w.heap.size ≤ w5.heap.size by omega)
 have HC6:=Hj ((Uh HCW).trans (Chg.of_below (S:=fun j => j = h ∨ j = X) b6))
 have HNE:=Hj hne
 have q0:=((hKP w6 (Chg.refl _ _)).1.all 9 _ rfl).1
 have q1:=((hKP w6 (Chg.refl _ _)).1.all 10 _ rfl).1
 have q2:=((hKP w6 (Chg.refl _ _)).1.all 11 _ rfl).1
 have q3:=((hKP w6 (Chg.refl _ _)).1.all 12 _ rfl).1
 have v6:=(hCI.bv.all 0 _ rfl).1
 have KR:=Hj (crow_list m (m:Int) x y sl d cl z S C v w6 (hKP w6 (Chg.refl _ _)).2.1 (hKP w6 (Chg.refl _ _)).2.2 hb1 hb2 hm hv)
 unfold patV at KR
 have HW6:=Hj hw6
 rw [← hw6] at q0 q1 q2 q3 v6 KR
 clear hw6
 clear hCI hCM hKP hm ho lX lg lh hne hle hns hnc hS hC hpl hls k0 k1 kD fD cAD c5 c6 xA xB xC xD yA yB yC yD zg zh zS zC bA bB bC bD bCD bBD bAD lA lB lC lD s1 s2 s3 s4 s5 hX5 hX6 fX5 xP b6
 go_enter Tryz.func74,Tryz.ntmps74
 go_wp2_with fail
 refine (Uh KD).mono ?_
 rintro _ w5' ⟨⟨z0,rfl⟩,hw5'⟩
 have e5:w5' = w5:=by rw [hw5']; exact Uh HW5
 rw [e5]
 clear e5 hw5' KD w5' hw5 d0
 go_wp2_with fail
 refine (Uh KR).mono ?_
 rintro _ w7 ⟨a7,c7,rfl,hs7,hl7,hn7,b7⟩
 rw [Uh HW6] at b7
 obtain ⟨L,hL⟩:∃ L,rowL S C v = L:=⟨_,rfl⟩
 have HRG:=Hj (fun p (hp:p < (rowL S C v).length) => row_rng (Uh HM) hv hp)
 rw [hL] at hs7 hl7 hn7 HRG ⊢
 have HLE:=Hj hL
 have HS7:=Hj hs7
 have HN7:=Hj (show ∀ q,a7 = some q → L ≠ [] → q.block ≠ h ∧ q.block < w5.heap.size from fun q hq hne => by
  obtain ⟨t,ht,et⟩:=hn7 q hq hne
  have hC:C ≠ []:=fun e => hne (by rw [← hL]; unfold rowL; rw [e]; simp)
  rw [← et]
  exact Uh HNC t ht hC)
 have HI7:=Hj (show ∃ ls' count,CaI w7 g h X o wB.heap.size wA.heap.size wC.heap.size w5.heap.size m (cnt + 1) xs v ls' count ∧ CaM xs m v (cnt + 1) (NeT S C xs m wd v L 0) ls' count ∧ Chg (fun j => j = h ∨ j = w5.heap.size) w6 w7 from
  ⟨ls,0,(Uh HCI).below b7,(Uh HCM).same (Uh HOR) hv (fun k _ _ => ⟨fun q => q.elim,fun q => q.elim (fun ⟨p,hp,_⟩ => absurd hp (Nat.not_lt_zero _)) (fun ⟨_,p,hp,_⟩ => absurd hp (Nat.not_lt_zero _))⟩),Chg.of_below b7⟩)
 have HS7c:=Hj (show ∀ W,Chg (fun j => j = h ∨ j = w5.heap.size) w7 W → SlI W a7 L.length c7 L from fun W k => (Uh HS7).chg k (fun q hq hne e => by have:=Uh HN7 q hq hne; omega))
 clear q0 q1 q2 q3 v6 KR hs7 hn7 hL
 have HB7:=Hj b7
 clear b7
 go_wp2_with fail
 go_loopw [23,12] (fun kv _ wr => ∃ i:Nat,i ≤ L.length ∧ kv = .int .i64 (i:Int) ∧ Hid (∃ ls' count,CaI wr g h X o wB.heap.size wA.heap.size wC.heap.size w5.heap.size m (cnt + 1) xs v ls' count ∧ CaM xs m v (cnt + 1) (NeT S C xs m wd v L i) ls' count ∧ Chg (fun j => j = h ∨ j = w5.heap.size) w7 wr)) (fun kv _ _ => L.length - (intOf kv).toNat)
 case atStart => exact ⟨0,Nat.zero_le _,rfl,Hj (by obtain ⟨l,q,a,b,_⟩:=Uh HI7; exact ⟨l,q,a,b,Chg.refl _ _⟩)⟩
 case round =>
  obtain ⟨i,hi,rfl,HJ⟩:=hrel
  obtain ⟨ls1,ct1,hI1,hM1,hC1⟩:=Uh HJ
  by_cases hlt:i < L.length
  ·have hlt':(i:Int) < (L.length:Int):=by omega
   obtain ⟨bb,off,e1,hc⟩:=(Uh HS7c wr hC1).at (by omega)
   subst e1
   have sk:=hc i hlt
   have hg:=Uh HRG i hlt
   obtain ⟨u,hu⟩:∃ u:Nat,L.getD i 0 = (u:Int):=⟨(L.getD i 0).toNat,by omega⟩
   rw [hu] at sk hg
   have hum:u < m:=by omega
   have hum':(u:Int) < (m:Int):=by omega
   have hvm':(v:Int) < (m:Int):=by omega
   have HU:=Hj hu
   have KN:=Hj (cnote_any g h X o wB.heap.size wA.heap.size wC.heap.size w5.heap.size m (cnt + 1) xs v u (NeT S C xs m wd v L i) ls1 ct1 wr hI1 hM1 (Uh HOR) hv hum hm8)
   have HC1:=Hj hC1
   have HST:=Hj (show ∀ k:Nat,NeT S C xs m wd v L (i + 1) k ↔ ((NeT S C xs m wd v L i k ∨ k = u) ∨ (wd = true ∧ posI xs m u < posI xs m v ∧ (k:Int) ∈ rowL S C u)) from fun k => NeT_next hu k)
   clear hc hg hu hI1 hM1 hC1 HJ
   go_wp2_with fail
   refine (Uh KN).mono ?_
   rintro _ w8 ⟨⟨z8,rfl⟩,ls2,ct2,hI2,hM2,hC2⟩
   have hC8:Chg (fun j => j = h ∨ j = w5.heap.size) w7 w8:=(Uh HC1).trans hC2
   have hK8:=Uh HKP w8 ((Chg.of_below (Uh HB7)).trans hC8)
   have t4:=(hK8.1.all 4 _ rfl).1
   have p8:=(hI2.bp.all 0 _ rfl).1
   have v8:=(hI2.bv.all 0 _ rfl).1
   have su:=(hI2.pl u hum).1
   have sv:=(hI2.pl v hv).1
   obtain ⟨pu,hpu⟩:∃ pu,posI xs m u = pu:=⟨_,rfl⟩
   obtain ⟨qv,hqv⟩:∃ qv,posI xs m v = qv:=⟨_,rfl⟩
   simp only [hpu] at su
   simp only [hqv] at sv
   have HPU:=Hj (And.intro hpu hqv)
   have Ft4:=fun x':Ext w8 => x'.cell t4
   have Fp8:=fun x':Ext w8 => x'.cell p8
   have Fv8:=fun x':Ext w8 => x'.cell v8
   have Fsu:=fun x':Ext w8 => x'.cell su
   have Fsv:=fun x':Ext w8 => x'.cell sv
   have hNE:=Ext.ne w8
   have HI2:=Hj hI2
   have HM2:=Hj hM2
   have HC8:=Hj hC8
   clear KN hI2 hM2 hC2 hC8 hK8 t4 p8 v8 su sv hpu hqv sk
   by_cases hgo:wd = true ∧ pu < qv
   ·obtain ⟨rfl,hlp⟩:=hgo
    have hlpd:decide (pu < qv) = true:=decide_eq_true hlp
    go_wp2_with fail
    refine wp_region_ext (by kernel_rfl) (by kernel_rfl) ?_
    repeat (go_big_quiet_step (fail))
    refine wpQuiet_nil ?_
    rintro _ ⟨xE,rfl⟩
    have HI3:=Hj ((Uh HI2).below xE.bel)
    have HC9:=Hj ((Uh HC8).trans (Chg.of_below xE.bel))
    have hK9:=Uh HKP xE.w ((Chg.of_below (Uh HB7)).trans (Uh HC9))
    have q0:=(hK9.1.all 9 _ rfl).1
    have q1:=(hK9.1.all 10 _ rfl).1
    have q2:=(hK9.1.all 11 _ rfl).1
    have q3:=(hK9.1.all 12 _ rfl).1
    have KR:=Hj (crow_list m (m:Int) x y sl d cl z S C u xE.w hK9.2.1 hK9.2.2 hb1 hb2 (Uh HM) hum)
    unfold patV at KR
    clear Ft4 Fp8 Fv8 Fsu Fsv hNE hK9
    go_wp2_with fail
    refine (Uh KR).mono ?_
    rintro _ wa ⟨aa,ca,rfl,hsa,hla,hna,ba⟩
    obtain ⟨N,hN⟩:∃ N,rowL S C u = N:=⟨_,rfl⟩
    have HRN:=Hj (fun p (hp:p < (rowL S C u).length) => row_rng (Uh HM) hum hp)
    rw [hN] at hsa hla hna HRN HST ⊢
    have HNA:=Hj (show ∀ q,aa = some q → N ≠ [] → q.block ≠ h ∧ q.block < w5.heap.size from fun q hq hne => by
     obtain ⟨t,ht,et⟩:=hna q hq hne
     have hC:C ≠ []:=fun e => hne (by rw [← hN]; unfold rowL; rw [e]; simp)
     rw [← et]
     exact Uh HNC t ht hC)
    have HSA:=Hj (show ∀ W,Chg (fun j => j = h ∨ j = w5.heap.size) wa W → SlI W aa N.length ca N from fun W k => hsa.chg k (fun q hq hne e => by have:=Uh HNA q hq hne; omega))
    have HIA:=Hj ((Uh HI3).below ba)
    have HCA:=Hj ((Uh HC9).trans (Chg.of_below ba))
    clear KR q0 q1 q2 q3 hsa hna ba hN
    go_wp2_with fail
    go_loopw [49,14] (fun kv _ wq => ∃ j:Nat,j ≤ N.length ∧ kv = .int .i64 (j:Int) ∧ Hid (∃ ls' count,CaI wq g h X o wB.heap.size wA.heap.size wC.heap.size w5.heap.size m (cnt + 1) xs v ls' count ∧ CaM xs m v (cnt + 1) (fun k => (NeT S C xs m true v L i k ∨ k = u) ∨ ∃ p,p < j ∧ N.getD p 0 = (k:Int)) ls' count ∧ Chg (fun j => j = h ∨ j = w5.heap.size) wa wq)) (fun kv _ _ => N.length - (intOf kv).toNat)
    case atStart => exact ⟨0,Nat.zero_le _,rfl,Hj ⟨ls2,ct2,Uh HIA,(Uh HM2).same (Uh HOR) hv (fun k _ _ => ⟨.inl,fun q => q.elim id (fun ⟨p,hp,_⟩ => absurd hp (Nat.not_lt_zero _))⟩),Chg.refl _ _⟩⟩
    case round =>
     obtain ⟨j,hj,rfl,HQ⟩:=hrel
     obtain ⟨ls3,ct3,hI3,hM3,hC3⟩:=Uh HQ
     by_cases hjn:j < N.length
     ·have hjn':(j:Int) < (N.length:Int):=by omega
      obtain ⟨bb',off',e1,hc⟩:=(Uh HSA wr hC3).at (by omega)
      subst e1
      have sk:=hc j hjn
      have hg:=Uh HRN j hjn
      obtain ⟨t,ht⟩:∃ t:Nat,N.getD j 0 = (t:Int):=⟨(N.getD j 0).toNat,by omega⟩
      rw [ht] at sk hg
      have htm:t < m:=by omega
      have KN:=Hj (cnote_any g h X o wB.heap.size wA.heap.size wC.heap.size w5.heap.size m (cnt + 1) xs v t _ ls3 ct3 wr hI3 hM3 (Uh HOR) hv htm hm8)
      have HTT:=Hj ht
      have HC3:=Hj hC3
      clear hc hg ht hI3 hM3 hC3 HQ
      go_wp2_with fail
      refine (Uh KN).mono ?_
      rintro _ wz ⟨⟨zz,rfl⟩,ls4,ct4,hI4,hM4,hC4⟩
      have HN4:=Hj (show ∃ ls' count,CaI wz g h X o wB.heap.size wA.heap.size wC.heap.size w5.heap.size m (cnt + 1) xs v ls' count ∧ CaM xs m v (cnt + 1) (fun k => (NeT S C xs m true v L i k ∨ k = u) ∨ ∃ p,p < j + 1 ∧ N.getD p 0 = (k:Int)) ls' count ∧ Chg (fun j => j = h ∨ j = w5.heap.size) wa wz from
       ⟨ls4,ct4,hI4,hM4.same (Uh HOR) hv (fun k _ _ => ⟨fun q => q.elim (fun q => q.imp_right (fun ⟨p,hp,e⟩ => ⟨p,by omega,e⟩)) (fun q => .inr ⟨j,by omega,by rw [Uh HTT,q]⟩),fun q => q.elim (fun q => .inl (.inl q)) (fun ⟨p,hp,e⟩ => by
        by_cases ep:p = j
        ·subst ep; right; rw [Uh HTT] at e; omega
        ·exact .inl (.inr ⟨p,by omega,e⟩))⟩),(Uh HC3).trans hC4⟩)
      clear KN hI4 hM4 hC4 sk
      go_wp2_with fail
      exact ⟨⟨j + 1,by omega,by (first | rfl | go_num),HN4⟩,by simp [intOf]; omega⟩
     ·obtain rfl:j = N.length:=by omega
      have hjn':¬ (N.length:Int) < (N.length:Int):=by omega
      have HFN:=Hj (show ∃ ls' count,CaI wr g h X o wB.heap.size wA.heap.size wC.heap.size w5.heap.size m (cnt + 1) xs v ls' count ∧ CaM xs m v (cnt + 1) (NeT S C xs m true v L (i + 1)) ls' count ∧ Chg (fun j => j = h ∨ j = w5.heap.size) w7 wr from
       ⟨ls3,ct3,hI3,hM3.same (Uh HOR) hv (fun k _ _ => by
        rw [Uh HST k]
        have e1:=(Uh HPU).1
        have e2:=(Uh HPU).2
        exact ⟨fun q => q.imp_right (fun ⟨p,hp,e⟩ => ⟨by simp,by rw [e1,e2]; exact hlp,mem_getD.2 ⟨p,hp,e⟩⟩),fun q => q.imp_right (fun ⟨_,_,q⟩ => mem_getD.1 q)⟩),(Uh HCA).trans hC3⟩)
      clear hI3 hM3 hC3 HQ
      go_wp2_with fail
      exact ⟨⟨i + 1,by omega,by (first | rfl | go_num),HFN⟩,by simp [intOf]; omega⟩
   ·have HFN:=Hj (show ∀ x':Ext w8,∃ ls' count,CaI x'.w g h X o wB.heap.size wA.heap.size wC.heap.size w5.heap.size m (cnt + 1) xs v ls' count ∧ CaM xs m v (cnt + 1) (NeT S C xs m wd v L (i + 1)) ls' count ∧ Chg (fun j => j = h ∨ j = w5.heap.size) w7 x'.w from fun x' =>
     ⟨ls2,ct2,(Uh HI2).below x'.bel,(Uh HM2).same (Uh HOR) hv (fun k _ _ => by
      rw [Uh HST k]
      exact ⟨.inl,fun q => q.elim id (fun ⟨q1,q2,_⟩ => absurd ⟨q1,by rw [(Uh HPU).1,(Uh HPU).2] at q2; exact q2⟩ hgo)⟩),(Uh HC8).trans (Chg.of_below x'.bel)⟩)
    cases wd
    ·go_wp2_with fail
     refine wp_region_ext (by kernel_rfl) (by kernel_rfl) ?_
     repeat (go_big_quiet_step (fail))
     refine wpQuiet_nil ?_
     rintro _ ⟨xE,rfl⟩
     have HFE:=Hj (Uh HFN xE)
     clear Ft4 Fp8 Fv8 Fsu Fsv hNE HFN
     go_wp2_with fail
     exact ⟨⟨i + 1,by omega,by (first | rfl | go_num),HFE⟩,by simp [intOf]; omega⟩
    ·have hlpd:decide (pu < qv) = false:=decide_eq_false (fun e => hgo ⟨by simp,e⟩)
     go_wp2_with fail
     refine wp_region_ext (by kernel_rfl) (by kernel_rfl) ?_
     repeat (go_big_quiet_step (fail))
     refine wpQuiet_nil ?_
     rintro _ ⟨xE,rfl⟩
     have HFE:=Hj (Uh HFN xE)
     clear Ft4 Fp8 Fv8 Fsu Fsv hNE HFN
     go_wp2_with fail
     exact ⟨⟨i + 1,by omega,by (first | rfl | go_num),HFE⟩,by simp [intOf]; omega⟩
  ·obtain rfl:i = L.length:=by omega
   have hlt':¬ (L.length:Int) < (L.length:Int):=by omega
   have cc:=(hI1.bc.all 0 _ rfl).1
   have HI1:=Hj hI1
   have HM1:=Hj hM1
   have HC1:=Hj hC1
   clear hI1 hM1 hC1 HJ
   go_wp2_with fail
   try go_ret
   have eL:=Uh HLE
   refine ⟨ls1,?_,(Uh HI1).last,fun k hk => ?_,(Uh HI1).k0,(Uh HI1).k1,?_⟩
   ·rw [(Uh HM1).cn]
    unfold NeaC
    rw [eL]
    rfl
   ·exact (Uh HM1).le k hk
   ·exact ((Uh HC6).trans (Chg.of_below (Uh HB7))).then2 (Uh HC1) (fun j hj e => by have:=Uh HSZ; omega)
end Go.Proofs.YtgjokididdffhaaGreat
