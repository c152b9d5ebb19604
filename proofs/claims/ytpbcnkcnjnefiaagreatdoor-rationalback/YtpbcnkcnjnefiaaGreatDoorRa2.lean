/- Pr9 -/
import Derived.Test.YtpbcnkcnjnefiaaGreatDoorPr7
import Derived.Test.YtpbcnkcnjnefiaaGreatDoorPr8
import Derived.Test.YtpbcnkcnjnefiaaGreatDoorPa2
import Derived.Test.YtpbcnkcnjnefiaaGreatDoorPr3
import Derived.Test.YtpbcnkcnjnefiaaGreatDoorPw1
import Derived.Test.YtpbcnkcnjnefiaaGreatDoorShN
import Derived.Test.YtpbcnkcnjnefiaaGreatDoorCmp
import Derived.Test.YtpbcnkcnjnefiaaGreatDoorMul
import Derived.Test.YtpbcnkcnjnefiaaGreatDoorShr
namespace Go.Proofs.YtpbcnkcnjnefiaaGreatDoor
open Go.RowKit Go.Deep
set_option linter.unusedVariables false
theorem make_b2 (n:Nat) (hn:n ≤ 1000000000) (w:World):(Instr.makeSlice 108 (.int .i64 (n:Int)) (.int .i64 (n:Int))).run Tryz.prog w = .ok (.slice (some ⟨w.heap.size,0,none⟩) n n) (w.alloc (.cells (madeCells #[.int .u8 0] n) 5)) :=
 run_make_row' (P:=Tryz.prog) 108 5 (.int .u8 0) 1 Tryz.underlying108 Tryz.info_u8 rfl .i64 .i64 n (by omega) (by omega) w

theorem pow_small2 {wt N n k:Nat} (hw:2 ≤ wt) (hn:n ≤ 2048) (hN:N < 2 ^ (32 * n)) (h:∀ i,i < k → wt ^ 2 ^ i ≤ N):k ≤ 16:=by
 rcases Nat.eq_zero_or_pos k with e | e
 ·omega
 ·have h1:=h (k - 1) (by omega)
  have h2:2 ^ 2 ^ (k - 1) ≤ wt ^ 2 ^ (k - 1):=Nat.pow_le_pow_left hw _
  have h3:2 ^ 2 ^ (k - 1) < 2 ^ (32 * n):=by omega
  have h4:=(Nat.pow_lt_pow_iff_right (by decide:1 < 2)).1 h3
  have h5:2 ^ (k - 1) < 2 ^ 16:=by
   have:(2:Nat) ^ 16 = 65536:=by decide
   omega
  have:=(Nat.pow_lt_pow_iff_right (by decide:1 < 2)).1 h5
  omega

theorem top_zero {N b L:Nat} (hb:0 < b):∀ {t:Nat},t ≤ L → N < b ^ L → (∀ p,p < t → dgt N b (L - 1 - p) = 0) → N < b ^ (L - t)
 | 0,_,h,_ => by simpa using h
 | t + 1,ht,h,hz => by
  have h1:=top_zero hb (t:=t) (by omega) h (fun p hp => hz p (by omega))
  have h2:=hz t (by omega)
  unfold dgt at h2
  have hp:0 < b ^ (L - 1 - t):=Nat.pow_pos hb
  rw [show L - t = (L - 1 - t) + 1 from by omega,Nat.pow_succ] at h1
  have h3:N / b ^ (L - 1 - t) < b:=(Nat.div_lt_iff_lt_mul hp).2 (by rw [Nat.mul_comm]; exact h1)
  rw [Nat.mod_eq_of_lt h3] at h2
  have h4:=Nat.div_eq_zero_iff.1 h2
  rw [show L - (t + 1) = L - 1 - t from by omega]
  omega
theorem top_ge {N b j:Nat} (hb:0 < b) (h:dgt N b j ≠ 0):b ^ j ≤ N:=by
 rcases Nat.lt_or_ge N (b ^ j) with k | k
 ·exfalso
  apply h
  unfold dgt
  rw [Nat.div_eq_of_lt k,Nat.zero_mod]
 ·exact k

theorem pr_pre (w1 w2:World) (a:Option Addr) (n c N b cnt wt K pb L:Nat) (a0:Option Addr) (cp:Nat) (hw2:((w1.alloc (.cells #[.int .i64 (b:Nat),.int .i64 (cnt:Nat),.int .u32 (wt:Nat),.slice a0 K cp] 159)).alloc (.cells (madeCells #[.int .u8 0] L) 5)) = w2)
  (hL:cnt * 2 ^ K = L) (hs:Sl w1 a n c (limbs N)) (hsb:∀ x,a = some x → limbs N ≠ [] → x.block < w1.heap.size) (hn:n ≤ 2048) (hN:N < wt ^ 2 ^ K) (hpb:pb < w1.heap.size)
  (hpe:∀ i,i < K → ∃ a m,w1.cell? ⟨pb,0 + i,none⟩ = some (.slice a m m) ∧ Sl w1 a m m (limbs (wt ^ 2 ^ i)) ∧ m ≤ 2048 ∧ ∀ x,a = some x → x.block < w1.heap.size) :
  WrPre w2 K (w1.heap.size + 1) 0 L L a n c N b cnt wt pb 0 K (fun _ => 0) ∧ Below w1.heap.size w1 w2:=by
 have bA:Below w1.heap.size w1 _:=(Below.refl _ _).alloc (Nat.le_refl _) (.cells #[.int .i64 (b:Nat),.int .i64 (cnt:Nat),.int .u32 (wt:Nat),.slice a0 K cp] 159)
 have fB:=FnB.made (w1.alloc (.cells #[.int .i64 (b:Nat),.int .i64 (cnt:Nat),.int .u32 (wt:Nat),.slice a0 K cp] 159)) L 5
 have bB:=bA.alloc (by simp) (.cells (madeCells #[.int .u8 0] L) 5)
 rw [hw2] at fB bB
 rw [show (w1.alloc (.cells #[.int .i64 (b:Nat),.int .i64 (cnt:Nat),.int .u32 (wt:Nat),.slice a0 K cp] 159)).heap.size = w1.heap.size + 1 from by simp] at fB
 refine ⟨⟨hL.symm,Nat.le_refl _,hs.below bB,fun x hx hne => by have:=hsb x hx hne; omega,hn,hN,Nat.le_refl _,⟨by omega,fun i hi => ?_⟩,fB⟩,bB⟩
 obtain ⟨ai,mi,h1,h2,h3,h4⟩:=hpe i hi
 have hcc:Chg (fun _ => False) w1 w2:=Chg.of_below bB
 exact ⟨ai,mi,hcc.cell (fun h => h) h1,h2.below bB,h3,fun x hx => by have:=h4 x hx; omega⟩

set_option maxHeartbeats 16000000 in
theorem nprint_ok (a:Option Addr) (n c:Nat) (xs:List Nat) (b:Nat) (w:World) (h:Sl w a n c xs) (ox:Ok xs) (m:MayL xs = true) (hb:2 ≤ b) (hb2:b ≤ 36) :
  Calls Tryz.prog 63 #[.slice a n c,.int .i64 (b:Nat)] w fun e w' => PrPost xs (b:Nat) w e w':=by
 have KM:=may_any a n c xs w h
 rw [m] at KM
 have KM':=Hd KM
 have KB:=isBase_any (b:Int) w
 rw [show decide ((2:Int) ≤ (b:Int) ∧ (b:Int) ≤ 36) = true from by simp; omega] at KB
 have KB':=Hd KB
 have hn:n ≤ 2048:=by have:=h.len; have:=MayL.len m; omega
 have KW:=Hd (newWriter_any a n c b xs w h ox (MayL.norm m) hn hb hb2)
 have HM:=Hd m
 have H:=Hd h
 have HL:=Hd h.len
 clear KM KB m h
 go_enter Tryz.func63,Tryz.ntmps63
 go_wp2_with fail
 refine (Uh KM').mono ?_
 rintro _ _ ⟨rfl,hw⟩
 obtain rfl:=hw.symm
 clear hw KM'
 go_wp2_with fail
 refine (Uh KB').mono ?_
 rintro _ _ ⟨rfl,hw⟩
 obtain rfl:=hw.symm
 clear hw KB'
 go_wp2_with fail
 refine (Uh KW).mono ?_
 rintro _ w1 ⟨cnt,wt,K,pv,rfl,hQ⟩
 obtain ⟨pb,a0,cp,rfl,hpv,hpb,hpe⟩:=hQ.pvs
 have hc1:=hQ.ch.pos
 have hc2:=hQ.ch.le
 have hwt2:2 ≤ wt:=by
  rw [← hQ.wte]
  exact Nat.le_trans hb (Nat.le_trans (by rw [Nat.pow_one]; exact Nat.le_refl _) (Nat.pow_le_pow_right (n:=b) (by omega) hc1))
 have hK:K ≤ 16:=pow_small2 hwt2 hn (by
  have h1:=val_lt ox
  rw [Uh HL,pow_limb] at h1
  exact h1) hQ.le
 obtain ⟨L,hL⟩:∃ L,cnt * 2 ^ K = L:=⟨_,rfl⟩
 have hL2:L ≤ 31 * 65536:=by
  rw [← hL]
  exact Nat.mul_le_mul hc2 (Nat.le_trans (Nat.pow_le_pow_right (by decide) hK) (by decide))
 have hL1:1 ≤ L:=by rw [← hL]; exact Nat.mul_pos hc1 (Nat.pow_pos (by decide))
 have sh:(cnt:Int) * 2 ^ K = (L:Int):=by rw [← hL,Int.natCast_mul,Int.natCast_pow]; rfl
 have wL:IntKind.i64.wrap (L:Int) = (L:Int):=by rw [IntKind.wrap_i64]; omega
 have hmk:=make_b2 L (by omega)
 have HLe:=Hd hL
 clear hL
 have HQ:=Hd hQ
 have HPE:=Hd (And.intro hpv (And.intro hpb hpe))
 clear KW hQ hpv hpb hpe
 unfold writerV
 go_wp2_with fail
 obtain ⟨w2,hw2⟩:∃ w2,((w1.alloc (.cells #[.int .i64 (b:Nat),.int .i64 (cnt:Nat),.int .u32 (wt:Nat),.slice a0 K cp] 159)).alloc (.cells (madeCells #[.int .u8 0] L) 5)) = w2:=⟨_,rfl⟩
 rw [hw2]
 obtain ⟨N,hN⟩:∃ N,val xs = N:=⟨_,rfl⟩
 have hxs:xs = limbs N:=by rw [← hN]; exact (limbs_val ox (MayL.norm (Uh HM))).symm
 have hsA:Sl w1 a n c (limbs N):=by rw [← hxs]; exact (Uh H).below (Uh HQ).bel
 have hPre:=pr_pre w1 w2 a n c N b cnt wt K pb L a0 cp hw2 (Uh HLe) hsA
 have hNlt:N < wt ^ 2 ^ K:=by rw [← hN]; exact (Uh HQ).lt
 have hPre:=hPre (fun x hx hne => hsA.block_lt hne x hx) hn hNlt (Uh HPE).2.1 (Uh HPE).2.2
 have KR:=write_any (w1.heap.size + 1) b cnt wt pb 0 K cp (.slice a0 K cp) (Uh HPE).1 hb hb2 (Uh HQ).ch (Uh HQ).wte (by omega) K 0 L L a n c N (fun _ => 0) w2 (by omega) (by omega) hPre.1
 unfold writerV at KR
 refine KR.mono ?_
 rintro _ w3 ⟨rfl,f3,u3⟩
 have hNL:N < b ^ L:=by
  rw [← Uh HLe,Nat.pow_mul,(Uh HQ).wte]
  exact hNlt
 have hb3:Below w.heap.size w w3:=by
  have h1:=(Uh HQ).bel
  have h2:=h1.size
  exact h1.trans ((hPre.2.mono h2).trans (u3.below (by omega) (by have:=hPre.2.size; omega)))
 have HF:=Hd f3
 have HB3:=Hd hb3
 have HNe:=Hd hN
 clear KR f3 u3 hb3 hPre hNlt hsA hxs hN hw2 HQ HPE HLe H wL sh hmk
 go_wp2_with fail
 go_loop [8] (fun iv => ∃ i:Nat,i < L ∧ iv = .int .i64 (i:Nat) ∧ Hid (∀ p,p < i → dgt N b (L - 1 - p) = 0)) (fun iv => L - (intOf iv).toNat)
 case atStart => exact ⟨0,by omega,rfl,fun p hp => by omega⟩
 case round =>
  obtain ⟨i,hi,rfl,HZ⟩:=hrel
  by_cases hst:i < L - 1 ∧ dgt N b (L - 1 - i) = 0
  ·obtain ⟨hi1,hz⟩:=hst
   have t1:(i:Int) < (L:Int) - 1:=by omega
   have f1:=(Uh HF i hi).1
   simp only [hz] at f1
   rw [Nat.zero_add,show chrN 0 = 48 from rfl] at f1
   have HZ2:=Hd (show ∀ p,p < i + 1 → dgt N b (L - 1 - p) = 0 from fun p hp => by
    by_cases e:p = i
    ·rw [e]; exact hz
    ·exact Uh HZ p (by omega))
   clear HZ hz
   go_wp2_with fail
   exact ⟨⟨i + 1,by omega,by go_num,Uh HZ2⟩,by simp [intOf]; omega⟩
  ·have hT:TxtOf N b (L - i):=by
    refine ⟨by omega,top_zero (by omega) (by omega) hNL (Uh HZ),?_⟩
    by_cases e:i < L - 1
    ·right
     refine top_ge (by omega) (fun hz => hst ⟨e,?_⟩)
     rw [show L - 1 - i = L - i - 1 from by omega]
     exact hz
    ·left; omega
   have HX:=Hd (show PrIs xs (b:Nat) (strB (txtL N b (L - i))) 0 from by
    have:=PrIs.text (xs:=xs) (b:=(b:Int)) (L - i) (Uh HM) (by omega) (by rw [Uh HNe]; exact hT)
    rw [Uh HNe] at this
    exact this)
   have hsub:FnB w3 (w1.heap.size + 1) i (L - i) (fun p => chrN (dgt N b (L - i - 1 - p))):=by
    intro p hp
    have:=Uh HF (i + p) (by omega)
    simp only at this ⊢
    rw [Nat.zero_add,show L - 1 - (i + p) = L - i - 1 - p from by omega] at this
    exact this
   have kc:=(hsub.slB (c:=L - i) (Nat.le_refl _) (fun p hp => chr_ok N hb hb2 _)).conv
   change _ = Result.ok (Value.string (strB (txtL N b (L - i)))) w3 at kc
   have f1:=(Uh HF i hi).1
   simp only at f1
   rw [Nat.zero_add] at f1
   have hz1:dgt N b (L - 1 - i) = 0 → ¬ i < L - 1:=fun h1 h2 => hst ⟨h2,h1⟩
   have hcl:=chr_ok N hb hb2 (L - 1 - i)
   have hch:=chrN_zero (d:=dgt N b (L - 1 - i)) (by have:=dgt_lt N (L - 1 - i) (b:=b) (by omega); omega)
   generalize strB (txtL N b (L - i)) = S at *
   obtain ⟨q,hq⟩:∃ q,L - i = q:=⟨_,rfl⟩
   have hq1:(L:Int) - (i:Int) = (q:Int):=by omega
   rw [hq] at kc
   have hLi:¬ L = i:=by omega
   generalize dgt N b (L - 1 - i) = D at *
   generalize chrN D = z at *
   clear hst hsub hT HZ
   by_cases hi1:i < L - 1
   ·have t1:(i:Int) < (L:Int) - 1:=by omega
    have hz48:z ≠ 48:=fun e => hz1 (hch.1 e) hi1
    have t2:((z:Int) == 48) = false:=by simp; omega
    have t3:¬ (z:Int) = 48:=by omega
    clear hz1 hch
    go_wp2_with fail
    go_ret2
    exact ⟨S,0,rfl,Uh HX,Uh HB3⟩
   ·have t1:¬ (i:Int) < (L:Int) - 1:=by omega
    clear hz1 hch
    go_wp2_with fail
    go_ret2
    exact ⟨S,0,rfl,Uh HX,Uh HB3⟩

set_option maxHeartbeats 4000000 in
theorem nprint_any (a:Option Addr) (n c:Nat) (xs:List Nat) (b:Int) (w:World) (h:Sl w a n c xs) (ox:Ok xs) :
  Calls Tryz.prog 63 #[.slice a n c,.int .i64 b] w fun e w' => PrPost xs b w e w':=by
 have KM:=may_any a n c xs w h
 by_cases m:MayL xs = true
 ·by_cases hb:2 ≤ b ∧ b ≤ 36
  ·obtain ⟨k,rfl⟩:∃ k:Nat,b = (k:Int):=⟨b.toNat,by omega⟩
   exact nprint_ok a n c xs k w h ox m (by omega) (by omega)
  ·have KB:=isBase_any b w
   rw [show decide (2 ≤ b ∧ b ≤ 36) = false from decide_eq_false hb] at KB
   rw [m] at KM
   have KM':=Hd KM
   have KB':=Hd KB
   have HM:=Hd m
   have HB:=Hd hb
   clear KM KB m h hb
   go_enter Tryz.func63,Tryz.ntmps63
   go_wp2_with fail
   refine (Uh KM').mono ?_
   rintro _ _ ⟨rfl,hw⟩
   obtain rfl:=hw.symm
   clear hw KM'
   go_wp2_with fail
   refine (Uh KB').mono ?_
   rintro _ _ ⟨rfl,hw⟩
   obtain rfl:=hw.symm
   clear hw KB'
   go_wp2_with fail
   go_ret2
   exact ⟨_,_,rfl,.base (Uh HM) (Uh HB),Below.refl _ _⟩
 ·have m':MayL xs = false:=by simpa using m
  rw [m'] at KM
  have KM':=Hd KM
  have HM:=Hd m'
  clear KM m m' h
  go_enter Tryz.func63,Tryz.ntmps63
  go_wp2_with fail
  refine (Uh KM').mono ?_
  rintro _ _ ⟨rfl,hw⟩
  obtain rfl:=hw.symm
  clear hw KM'
  go_wp2_with fail
  go_ret2
  exact ⟨_,_,rfl,.nat (Uh HM),Below.refl _ _⟩
structure SlL (w:World) (a:Option Addr) (n c:Nat) (ps:List Pc):Prop where
 len:ps.length = n
 le:n ≤ c
 cells:ps = [] ∨ ∃ b off,a = some ⟨b,off,none⟩ ∧ ∀ i p,ps[i]? = some p → w.cell? ⟨b,off + i,none⟩ = some (.slice p.a p.n p.c)
 each:∀ p ∈ ps,Sl w p.a p.n p.c p.xs ∧ Ok p.xs

theorem SlL.below {w w':World} {a:Option Addr} {n c:Nat} {ps:List Pc} (h:SlL w a n c ps) (k:Below w.heap.size w w'):SlL w' a n c ps:=by
 refine ⟨h.len,h.le,?_,fun p hp => ⟨(h.each p hp).1.below k,(h.each p hp).2⟩⟩
 rcases h.cells with e | ⟨b,off,e,hc⟩
 ·exact .inl e
 ·refine .inr ⟨b,off,e,fun i p hp => ?_⟩
  have h1:=hc i p hp
  have hb:=World.block_lt_of_cell? _ _ h1
  have:w'.cell? ⟨b,off + i,none⟩ = w.cell? ⟨b,off + i,none⟩:=by unfold World.cell?; simp only; rw [k.block b hb]
  rw [this]; exact h1

theorem SlL.at' {w:World} {a:Option Addr} {n c:Nat} {ps:List Pc} (h:SlL w a n c ps) {i:Nat} (hi:i < n) :
  ∃ b off p,a = some ⟨b,off,none⟩ ∧ ps[i]? = some p ∧ w.cell? ⟨b,off + i,none⟩ = some (.slice p.a p.n p.c) ∧ Sl w p.a p.n p.c p.xs ∧ Ok p.xs:=by
 have hl:=h.len
 have hi':i < ps.length:=by omega
 have hp:ps[i]? = some ps[i]:=List.getElem?_eq_getElem hi'
 rcases h.cells with e | ⟨b,off,e,hc⟩
 ·rw [e] at hl; simp at hl; omega
 ·exact ⟨b,off,ps[i],e,hp,hc i _ hp,h.each _ (List.getElem_mem hi')⟩

def mayB (ps:List Pc):Bool:=ps.all (fun p => MayL p.xs)

theorem mayB_get {ps:List Pc} (h:mayB ps = true) {i:Nat} {p:Pc} (hp:ps[i]? = some p):MayL p.xs = true:=by
 unfold mayB at h
 rw [List.all_eq_true] at h
 exact h p (List.mem_of_getElem? hp)
theorem mayB_false {ps:List Pc} {i:Nat} {p:Pc} (hp:ps[i]? = some p) (h:MayL p.xs = false):mayB ps = false:=by
 cases hm:mayB ps
 ·rfl
 ·have:=mayB_get hm hp
  rw [h] at this
  cases this
theorem mayB_true {ps:List Pc} {n:Nat} (hl:ps.length = n) (h:∀ i p,i < n → ps[i]? = some p → MayL p.xs = true):mayB ps = true:=by
 unfold mayB
 rw [List.all_eq_true]
 intro p hp
 obtain ⟨i,hi,e⟩:=List.getElem_of_mem hp
 exact h i p (by omega) (by rw [List.getElem?_eq_getElem hi,e])

set_option maxHeartbeats 4000000 in
theorem nmayAll_any (a:Option Addr) (n c:Nat) (ps:List Pc) (w:World) (h:SlL w a n c ps) (hn:n ≤ 140737488355328) :
  Calls Tryz.prog 142 #[.slice a n c] w fun e w' => e = .returned (.bool (mayB ps)) ∧ w' = w:=by
 have H:=Hd h
 have HL:=Hd h.len
 clear h
 go_enter Tryz.func142,Tryz.ntmps142
 go_wp2_with fail
 go_loop [6] (fun iv => ∃ i:Nat,i ≤ n ∧ iv = .int .i64 (i:Nat) ∧ Hid (∀ j p,j < i → ps[j]? = some p → MayL p.xs = true)) (fun iv => n - (intOf iv).toNat)
 case atStart => exact ⟨0,Nat.zero_le _,rfl,fun j p hj => by omega⟩
 case round =>
  obtain ⟨i,hi,rfl,HA⟩:=hrel
  by_cases hlt:i < n
  ·have hlt':(i:Int) < (n:Int):=by omega
   obtain ⟨b,off,p,rfl,hp,hc,hs,ok⟩:=(Uh H).at' hlt
   have KM:=may_any p.a p.n p.c p.xs w hs
   have HP:=Hd hp
   clear hp hs ok
   cases hm:MayL p.xs
   ·rw [hm] at KM
    have KM':=Hd KM
    have HF:=Hd (mayB_false (Uh HP) hm)
    clear KM hm
    go_wp2_with fail
    refine (Uh KM').mono ?_
    rintro _ _ ⟨rfl,hw⟩
    obtain rfl:=hw.symm
    clear hw
    go_wp2_with fail
    go_ret
    rw [Uh HF]
    exact ⟨rfl,rfl⟩
   ·rw [hm] at KM
    have KM':=Hd KM
    have HA2:=Hd (show ∀ j q,j < i + 1 → ps[j]? = some q → MayL q.xs = true from fun j q hj hq => by
     by_cases e:j = i
     ·subst e
      rw [Uh HP] at hq
      cases hq
      exact hm
     ·exact Uh HA j q (by omega) hq)
    clear KM hm HA
    go_wp2_with fail
    refine (Uh KM').mono ?_
    rintro _ _ ⟨rfl,hw⟩
    obtain rfl:=hw.symm
    clear hw
    go_wp2_with fail
    exact ⟨⟨i + 1,by omega,by go_num,Uh HA2⟩,by simp [intOf]; omega⟩
  ·obtain rfl:i = n:=by omega
   have hlt':¬ (i:Int) < (i:Int):=by omega
   have HF:=Hd (mayB_true (Uh HL) (Uh HA))
   clear HA
   go_wp2_with fail
   go_ret
   rw [Uh HF]
   exact ⟨rfl,rfl⟩

def prodF:Nat → List Pc → List Nat × Int
 | z,[] => (limbs z,0)
 | z,p :: ps => if 2048 < (limbs (z * val p.xs)).length then ([],2) else prodF (z * val p.xs) ps
def prodL (ps:List Pc):List Nat × Int:=if mayB ps = true then prodF 1 ps else ([],20)

theorem drop_at {ps:List Pc} {i:Nat} {p:Pc} (h:ps[i]? = some p):ps.drop i = p :: ps.drop (i + 1):=by
 obtain ⟨hi,e⟩:=List.getElem?_eq_some_iff.1 h
 rw [List.drop_eq_getElem_cons hi,e]

structure PdR (wr w:World) (ps:List Pc) (i Z:Nat) (a:Option Addr) (m c:Nat):Prop where
 sl:Sl wr a m c (limbs Z)
 new:NewAt w.heap.size a
 le:(limbs Z).length ≤ 2048
 eq:prodF 1 ps = prodF Z (ps.drop i)
 bel:Below w.heap.size w wr
theorem mul_may {Z:Nat} {xs:List Nat} (hl:(limbs Z).length ≤ 2048) (hm:MayL xs = true):mulL (limbs Z) xs = fitL (Z * val xs):=by
 unfold mulL
 rw [show MayL (limbs Z) = true from MayL.mk (limbs_rep _).norm hl,hm,(limbs_rep Z).val]
 rfl

set_option maxHeartbeats 4000000 in
theorem nprod_any (a:Option Addr) (n c:Nat) (ps:List Pc) (w:World) (h:SlL w a n c ps) (hn:n ≤ 140737488355328) :
  Calls Tryz.prog 89 #[.slice a n c] w fun e w' => Res2 w w' (prodL ps) e:=by
 have KA:=nmayAll_any a n c ps w h hn
 have H:=Hd h
 have HL:=Hd h.len
 clear h
 cases hm:mayB ps
 ·rw [hm] at KA
  have KA':=Hd KA
  have HR:=Hd (show prodL ps = ([],20) from by unfold prodL; rw [hm]; rfl)
  clear KA hm
  go_enter Tryz.func89,Tryz.ntmps89
  go_wp2_with fail
  refine (Uh KA').mono ?_
  rintro _ _ ⟨rfl,hw⟩
  obtain rfl:=hw.symm
  clear hw
  go_wp2_with fail
  go_ret2
  rw [Uh HR]
  exact ⟨none,0,0,rfl,sl_nil _,newAt_nil _,Below.refl _ _⟩
 ·rw [hm] at KA
  have KA':=Hd KA
  have HR:=Hd (show prodL ps = prodF 1 ps from by unfold prodL; rw [if_pos hm])
  have HM:=Hd hm
  clear KA hm
  go_enter Tryz.func89,Tryz.ntmps89
  go_wp2_with fail
  refine (Uh KA').mono ?_
  rintro _ _ ⟨rfl,hw⟩
  obtain rfl:=hw.symm
  clear hw
  go_wp2_with fail
  refine (from_any 1 w (by decide)).mono ?_
  rintro _ w1 ⟨a1,m1,y1,rfl,s1,r1,n1,b1⟩
  rw [r1.eq] at s1
  have H1:=Hd (And.intro s1 (And.intro n1 b1))
  clear s1 r1 n1 b1
  go_wp2_with fail
  go_loopw [4,13] (fun zv iv wr => ∃ (i Z:Nat) (az:Option Addr) (mz cz:Nat),i ≤ n ∧ iv = .int .i64 (i:Nat) ∧ zv = .slice az mz cz ∧ PdR wr w ps i Z az mz cz) (fun _ iv _ => n - (intOf iv).toNat)
  case atStart => exact ⟨0,1,a1,m1,m1,Nat.zero_le _,rfl,rfl,(Uh H1).1,(Uh H1).2.1,by decide,by simp,(Uh H1).2.2⟩
  case round =>
   clear H1
   obtain ⟨i,Z,az,mz,cz,hi,rfl,rfl,hR⟩:=hrel
   by_cases hlt:i < n
   ·have hlt':(i:Int) < (n:Int):=by omega
    obtain ⟨b,off,p,rfl,hp,hc,hs,ok⟩:=((Uh H).below hR.bel).at' hlt
    have hmp:=mayB_get (Uh HM) hp
    have KM:=nmul_any az p.a mz cz p.n p.c (limbs Z) p.xs wr hR.sl hs (limbs_rep Z).ok ok
    rw [mul_may hR.le hmp] at KM
    have hd:=drop_at hp
    have heq:=hR.eq
    rw [hd] at heq
    by_cases hbig:2048 < (limbs (Z * val p.xs)).length
    ·rw [fitL_big hbig] at KM
     have HE:=Hd (show prodF 1 ps = ([],2) from by rw [heq]; simp [prodF,hbig])
     have KM':=Hd KM
     have HB:=Hd hR.bel
     clear KM hR hp hs ok hd heq hbig
     go_wp2_with fail
     refine (Uh KM').mono ?_
     rintro _ w2 ⟨a2,m2,c2,rfl,s2,n2,b2⟩
     have HB2:=Hd ((Uh HB).trans (b2.mono (Uh HB).size))
     clear s2 n2 b2 KM' HB
     go_wp2_with fail
     go_ret2
     rw [Uh HR,Uh HE]
     exact ⟨none,0,0,rfl,sl_nil _,newAt_nil _,Uh HB2⟩
    ·rw [fitL_ok hbig] at KM
     have HE:=Hd (show prodF 1 ps = prodF (Z * val p.xs) (ps.drop (i + 1)) from by rw [heq]; simp [prodF,hbig])
     have hle2:(limbs (Z * val p.xs)).length ≤ 2048:=by omega
     have HL2:=Hd hle2
     have KM':=Hd KM
     have HB:=Hd hR.bel
     clear KM hR hp hs ok hd heq hbig hle2
     generalize Z * val p.xs = Z' at *
     go_wp2_with fail
     refine (Uh KM').mono ?_
     rintro _ w2 ⟨a2,m2,c2,rfl,s2,n2,b2⟩
     have HN:=Hd (show PdR w2 w ps (i + 1) Z' a2 m2 c2 from ⟨s2,fun x hx => Nat.le_trans (Uh HB).size (n2 x hx),Uh HL2,Uh HE,(Uh HB).trans (b2.mono (Uh HB).size)⟩)
     clear s2 n2 b2 KM' HB
     go_wp2_with fail
     exact ⟨⟨i + 1,Z',a2,m2,c2,by omega,by go_num,rfl,Uh HN⟩,by simp [intOf]; omega⟩
   ·obtain rfl:i = n:=by omega
    have hlt':¬ (i:Int) < (i:Int):=by omega
    have heq:=hR.eq
    rw [List.drop_eq_nil_of_le (by rw [Uh HL]; exact Nat.le_refl _)] at heq
    have HE:=Hd (show prodF 1 ps = (limbs Z,0) from heq)
    have HN:=Hd hR
    clear hR heq
    go_wp2_with fail
    go_ret2
    rw [Uh HR,Uh HE]
    exact ⟨az,mz,cz,rfl,(Uh HN).sl,(Uh HN).new,(Uh HN).bel⟩

def sumV:List Pc → Nat
 | [] => 0
 | p :: ps => val p.xs + sumV ps
def sumL (ps:List Pc):List Nat × Int:=if mayB ps = true then fitL (sumV ps) else ([],20)
theorem sumV_append (xs ys:List Pc):sumV (xs ++ ys) = sumV xs + sumV ys:=by
 induction xs with
 | nil => simp [sumV]
 | cons p xs ih => simp only [List.cons_append,sumV,ih]; omega
theorem sumV_take {ps:List Pc} {i:Nat} {p:Pc} (h:ps[i]? = some p):sumV (ps.take (i + 1)) = sumV (ps.take i) + val p.xs:=by
 obtain ⟨hi,e⟩:=List.getElem?_eq_some_iff.1 h
 rw [List.take_succ_eq_append_getElem hi,sumV_append,e]
 simp [sumV]
theorem limbs_len_monoF {v u:Nat} (h:v ≤ u):(limbs v).length ≤ (limbs u).length:=by
 have h1:=val_lt (limbs_rep u).ok
 rw [(limbs_rep u).val] at h1
 refine rep_len_le (limbs_rep v) (by omega)
theorem sum_bound {w:World} {a:Option Addr} {n c:Nat} {ps:List Pc} (h:SlL w a n c ps) {g:Nat} (hg:∀ j p,j < n → ps[j]? = some p → p.n ≤ g):∀ i,i ≤ n → sumV (ps.take i) ≤ i * 4294967296 ^ g
 | 0,_ => by simp [sumV]
 | i + 1,hi => by
  have ih:=sum_bound h hg i (by omega)
  obtain ⟨b,off,p,e,hp,hc,hs,ok⟩:=h.at' (show i < n by omega)
  rw [sumV_take hp,Nat.succ_mul]
  have h1:=val_lt ok
  rw [hs.len] at h1
  have h2:4294967296 ^ p.n ≤ 4294967296 ^ g:=pow_mono (hg i p (by omega) hp)
  omega

structure AaR (wr w:World) (M:Nat) (ps:List Pc) (i:Nat) (f:Nat → Nat):Prop where
 fn:Fn wr w.heap.size 0 M f
 ok:∀ i,i < M → f i < 4294967296
 val:valF f M = sumV (ps.take i)
 bel:Below w.heap.size w wr

theorem sum_small {n i g M S:Nat} (hn:n ≤ 140737488355328) (hi:i ≤ n) (hM:g + 2 = M) (h:S ≤ i * 4294967296 ^ g):S < 4294967296 ^ M:=by
 rw [← hM,Nat.pow_add]
 have h1:i * 4294967296 ^ g ≤ 140737488355328 * 4294967296 ^ g:=Nat.mul_le_mul_right _ (by omega)
 have h2:0 < 4294967296 ^ g:=Nat.pow_pos (by decide)
 have h3:(4294967296:Nat) ^ 2 = 18446744073709551616:=by decide
 rw [h3]
 generalize 4294967296 ^ g = Y at *
 omega

set_option maxHeartbeats 4000000 in
theorem naddAll_any (a:Option Addr) (n c:Nat) (ps:List Pc) (w:World) (h:SlL w a n c ps) (hn:n ≤ 140737488355328) (hm:mayB ps = true) :
  Calls Tryz.prog 211 #[.slice a n c] w fun e w' => NewRep w w' (sumV ps) e:=by
 have H:=Hd h
 have HL:=Hd h.len
 have HM:=Hd hm
 clear h hm
 go_enter Tryz.func211,Tryz.ntmps211
 go_wp2_with fail
 go_loop [3,9] (fun gv iv => ∃ i g:Nat,i ≤ n ∧ g ≤ 2048 ∧ gv = .int .i64 (g:Nat) ∧ iv = .int .i64 (i:Nat) ∧ Hid (∀ j p,j < i → ps[j]? = some p → p.n ≤ g)) (fun _ iv => n - (intOf iv).toNat)
 case atStart => exact ⟨0,0,Nat.zero_le _,Nat.zero_le _,rfl,rfl,fun j p hj => by omega⟩
 case round =>
  obtain ⟨i,g,hi,hg,rfl,rfl,HA⟩:=hrel
  by_cases hlt:i < n
  ·have hlt':(i:Int) < (n:Int):=by omega
   obtain ⟨b,off,p,rfl,hp,hc,hs,ok⟩:=(Uh H).at' hlt
   have hmp:=mayB_get (Uh HM) hp
   have hl:=hs.len
   have hml:=MayL.len hmp
   have hpn:p.n ≤ 2048:=by omega
   have HP:=Hd hp
   clear hp hs ok hmp hl hml
   by_cases hgl:g < p.n
   ·have HA2:=Hd (show ∀ j q,j < i + 1 → ps[j]? = some q → q.n ≤ p.n from fun j q hj hq => by
     by_cases e:j = i
     ·subst e
      rw [Uh HP] at hq
      cases hq
      exact Nat.le_refl _
     ·have:=Uh HA j q (by omega) hq; omega)
    have g1:(g:Int) < (p.n:Int):=by omega
    have g2:max (g:Int) (p.n:Int) = (p.n:Int):=by omega
    clear HA HP
    go_wp2_with fail
    exact ⟨⟨i + 1,p.n,by omega,hpn,by simp,by go_num,Uh HA2⟩,by simp [intOf]; omega⟩
   ·have HA2:=Hd (show ∀ j q,j < i + 1 → ps[j]? = some q → q.n ≤ g from fun j q hj hq => by
     by_cases e:j = i
     ·subst e
      rw [Uh HP] at hq
      cases hq
      omega
     ·exact Uh HA j q (by omega) hq)
    have g1:¬ (g:Int) < (p.n:Int):=by omega
    have g2:max (g:Int) (p.n:Int) = (g:Int):=by omega
    clear HA HP
    go_wp2_with fail
    exact ⟨⟨i + 1,g,by omega,hg,by simp,by go_num,Uh HA2⟩,by simp [intOf]; omega⟩
  ·obtain rfl:i = n:=by omega
   have hlt':¬ (i:Int) < (i:Int):=by omega
   obtain ⟨n,rfl⟩:∃ n,n = i:=⟨i,rfl⟩
   obtain ⟨M,hM⟩:∃ M,g + 2 = M:=⟨_,rfl⟩
   have hM1:(g:Int) + 2 = (M:Int):=by omega
   have hmk:=make_len M (by omega)
   have HF:=Hd (Fn.made w M 84)
   have HB:=Hd ((Below.refl w.heap.size w).alloc (Nat.le_refl _) (.cells (madeCells #[.int .u32 0] M) 84))
   have HMe:=Hd hM
   clear hM
   go_wp2_with fail
   go_loopw [25] (fun iv wr => ∃ (i:Nat) (f:Nat → Nat),i ≤ n ∧ iv = .int .i64 (i:Nat) ∧ AaR wr w M ps i f) (fun iv _ => n - (intOf iv).toNat)
   case atStart => exact ⟨0,_,Nat.zero_le _,rfl,Uh HF,fun i hi => by simp,by rw [valF_zero]; simp [sumV],Uh HB⟩
   case round =>
    clear HF HB
    obtain ⟨i,f,hi,rfl,hR⟩:=hrel
    by_cases hlt:i < n
    ·have hlt':(i:Int) < (n:Int):=by omega
     obtain ⟨b,off,p,rfl,hp,hc,hs,ok⟩:=((Uh H).below hR.bel).at' hlt
     have hpg:=Uh HA i p hlt hp
     obtain ⟨b',off',p',e',hp',hc',hs',ok'⟩:=(Uh H).at' hlt
     rw [hp] at hp'
     cases hp'
     have KA:=addTo_any w.heap.size 0 M M p.n p.c p.a f p.xs wr hs (fun x hx hne => by have:=hs'.block_lt hne x hx; omega) (by have:=Uh HMe; omega) (by unfold maxLen; have:=Uh HMe; omega) ok hR.ok hR.fn
     have hsm:=sum_small (i:=i + 1) hn (by omega) (Uh HMe) (sum_bound (Uh H) (Uh HA) (i + 1) (by omega))
     have KA':=Hd KA
     have HS:=Hd (And.intro hsm (And.intro hR.val (And.intro hR.bel (sumV_take hp))))
     clear KA hR hp hs ok hs' ok' hc' e' hsm hpg
     go_wp2_with fail
     refine (Uh KA').mono ?_
     rintro _ w2 ⟨f2,c2,rfl,hc2,fn2,ok2,v2,u2⟩
     have hh:=Uh HS
     have hc0:c2 = 0:=by
      rw [hh.2.1,← hh.2.2.2] at v2
      rcases Nat.eq_zero_or_pos c2 with e | e
      ·exact e
      ·exfalso
       have:4294967296 ^ M * 1 ≤ 4294967296 ^ M * c2:=Nat.mul_le_mul_left _ e
       have:=hh.1
       omega
     subst hc0
     rw [hh.2.1,← hh.2.2.2,Nat.mul_zero,Nat.add_zero] at v2
     have HN:=Hd (show AaR w2 w M ps (i + 1) f2 from ⟨fn2,ok2,v2,hh.2.2.1.trans (u2.below (Nat.le_refl _) hh.2.2.1.size)⟩)
     clear fn2 ok2 v2 u2 hh HS KA' hc2
     go_wp2_with fail
     exact ⟨⟨i + 1,f2,by omega,by go_num,Uh HN⟩,by simp [intOf]; omega⟩
    ·obtain rfl:i = n:=by omega
     have hlt':¬ (i:Int) < (i:Int):=by omega
     have hv:=hR.val
     rw [List.take_of_length_le (by rw [Uh HL]; exact Nat.le_refl _)] at hv
     have KT:=trim_any (some ⟨w.heap.size,0,none⟩) M M (lst f M) wr (hR.fn.sl (Nat.le_refl _) (by unfold maxLen; have:=Uh HMe; omega)) (lst_ok hR.ok)
     rw [lst_val,hv] at KT
     have KT':=Hd KT
     have HB2:=Hd hR.bel
     clear KT hR hv
     go_wp2_with fail
     refine (Uh KT').mono ?_
     rintro _ _ ⟨a',m',ys,rfl,hs,hr,ha,hw⟩
     obtain rfl:=hw.symm
     have HX:=Hd (And.intro hs (And.intro hr ha))
     clear hs hr ha hw KT'
     go_wp2_with fail
     go_ret
     refine ⟨a',m',ys,rfl,(Uh HX).1,(Uh HX).2.1,fun x hx => ?_,Uh HB2⟩
     rcases (Uh HX).2.2 with e | e
     ·rw [e] at hx; cases hx; exact Nat.le_refl _
     ·rw [e] at hx; cases hx

set_option maxHeartbeats 4000000 in
theorem nsum_any (a:Option Addr) (n c:Nat) (ps:List Pc) (w:World) (h:SlL w a n c ps) (hn:n ≤ 140737488355328) :
  Calls Tryz.prog 179 #[.slice a n c] w fun e w' => Res2 w w' (sumL ps) e:=by
 have KA:=nmayAll_any a n c ps w h hn
 cases hm:mayB ps
 ·rw [hm] at KA
  have KA':=Hd KA
  have HR:=Hd (show sumL ps = ([],20) from by unfold sumL; rw [hm]; rfl)
  clear KA hm h
  go_enter Tryz.func179,Tryz.ntmps179
  go_wp2_with fail
  refine (Uh KA').mono ?_
  rintro _ _ ⟨rfl,hw⟩
  obtain rfl:=hw.symm
  clear hw
  go_wp2_with fail
  go_ret2
  rw [Uh HR]
  exact ⟨none,0,0,rfl,sl_nil _,newAt_nil _,Below.refl _ _⟩
 ·rw [hm] at KA
  have KA':=Hd KA
  have HR:=Hd (show sumL ps = fitL (sumV ps) from by unfold sumL; rw [if_pos hm])
  have KS:=Hd (naddAll_any a n c ps w h hn hm)
  clear KA hm h
  go_enter Tryz.func179,Tryz.ntmps179
  go_wp2_with fail
  refine (Uh KA').mono ?_
  rintro _ _ ⟨rfl,hw⟩
  obtain rfl:=hw.symm
  clear hw
  go_wp2_with fail
  refine (Uh KS).mono ?_
  rintro _ w1 ⟨a1,m1,y1,rfl,s1,r1,n1,b1⟩
  have KF:=Hd (fit_any a1 m1 m1 (sumV ps) y1 w1 s1 r1)
  have H1:=Hd (And.intro n1 b1)
  clear s1 r1 n1 b1 KS
  go_wp2_with fail
  refine (Uh KF).mono ?_
  rintro _ _ ⟨a2,m2,c2,rfl,s2,ha2,hw⟩
  obtain rfl:=hw.symm
  have H2:=Hd (And.intro s2 ha2)
  clear s2 ha2 hw KF
  go_wp2_with fail
  go_ret2
  rw [Uh HR]
  refine ⟨a2,m2,c2,rfl,(Uh H2).1,fun x hx => ?_,(Uh H1).2⟩
  rcases (Uh H2).2 with e | e
  ·rw [e] at hx; exact (Uh H1).1 x hx
  ·rw [e] at hx; cases hx
def ratV (neg:Bool) (a1:Option Addr) (n1 c1:Nat) (a2:Option Addr) (n2 c2:Nat):Value:=.agg #[.bool neg,.slice a1 n1 c1,.slice a2 n2 c2]

def MayR (neg:Bool) (xs ys:List Nat):Bool:=MayL xs && MayL ys && !decide (ys = []) && !(neg && decide (xs = [])) && decide (Nat.gcd (val xs) (val ys) = 1)

def ratBox (w:World) (neg:Bool) (a1:Option Addr) (n1 c1:Nat) (a2:Option Addr) (n2 c2:Nat):World:=w.alloc (.cells #[.bool neg,.slice a1 n1 c1,.slice a2 n2 c2] 25)

theorem one_is {v:Nat}:(limbs v = [1]) = (v = 1):=by
 apply propext
 constructor
 ·intro h
  have:=(limbs_rep v).val
  rw [h] at this
  simp [val] at this
  exact this.symm
 ·intro h
  rw [h,limbs_1]

set_option maxHeartbeats 8000000 in
theorem ratMay_any (neg:Bool) (a1 a2:Option Addr) (n1 c1 n2 c2:Nat) (xs ys:List Nat) (w:World) (h1:Sl w a1 n1 c1 xs) (h2:Sl w a2 n2 c2 ys) (ox:Ok xs) (oy:Ok ys) (hT:Tab64 w) :
  Calls Tryz.prog 6 #[ratV neg a1 n1 c1 a2 n2 c2] w fun e w' => e = .returned (.bool (MayR neg xs ys)) ∧ Below w.heap.size w w':=by
 have bel:Below w.heap.size w (ratBox w neg a1 n1 c1 a2 n2 c2):=bAl
 have d0:(ratBox w neg a1 n1 c1 a2 n2 c2).cell? ⟨w.heap.size,0,none⟩ = some (.bool neg):=by simp [ratBox]
 have d1:(ratBox w neg a1 n1 c1 a2 n2 c2).cell? ⟨w.heap.size,1,none⟩ = some (.slice a1 n1 c1):=by simp [ratBox]
 have d2:(ratBox w neg a1 n1 c1 a2 n2 c2).cell? ⟨w.heap.size,2,none⟩ = some (.slice a2 n2 c2):=by simp [ratBox]
 obtain ⟨wa,hwa⟩:∃ wa,ratBox w neg a1 n1 c1 a2 n2 c2 = wa:=⟨_,rfl⟩
 rw [hwa] at bel d0 d1 d2
 unfold ratBox at hwa
 have K1:=may_any a1 n1 c1 xs wa (h1.below bel)
 have K2:=may_any a2 n2 c2 ys wa (h2.below bel)
 have hl1:=h1.len
 have hl2:=h2.len
 have HB:=Hd bel
 cases m1:MayL xs
 ·rw [m1] at K1
  have K1':=Hd K1
  have HR:=Hd (show MayR neg xs ys = false from by simp [MayR,m1])
  clear K1 K2 h1 h2 hT m1 bel
  unfold ratV
  go_enter Tryz.func6,Tryz.ntmps6
  go_wp2_with fail
  refine (Uh K1').mono ?_
  rintro _ _ ⟨rfl,hw⟩
  obtain rfl:=hw.symm
  clear hw
  go_wp2_with fail
  go_ret
  rw [Uh HR]
  exact ⟨rfl,Uh HB⟩
 ·rw [m1] at K1
  cases m2:MayL ys
  ·rw [m2] at K2
   have K1':=Hd K1
   have K2':=Hd K2
   have HR:=Hd (show MayR neg xs ys = false from by simp [MayR,m2])
   clear K1 K2 h1 h2 hT m1 m2 bel
   unfold ratV
   go_enter Tryz.func6,Tryz.ntmps6
   go_wp2_with fail
   refine (Uh K1').mono ?_
   rintro _ _ ⟨rfl,hw⟩
   obtain rfl:=hw.symm
   clear hw
   go_wp2_with fail
   refine (Uh K2').mono ?_
   rintro _ _ ⟨rfl,hw⟩
   obtain rfl:=hw.symm
   clear hw
   go_wp2_with fail
   go_ret
   rw [Uh HR]
   exact ⟨rfl,Uh HB⟩
  ·rw [m2] at K2
   have K1':=Hd K1
   have K2':=Hd K2
   by_cases hy:ys = []
   ·have HR:=Hd (show MayR neg xs ys = false from by simp [MayR,hy])
    have hn2:n2 = 0:=by rw [← hl2,hy]; rfl
    subst hn2
    clear K1 K2 h1 h2 hT m1 m2 bel
    unfold ratV
    go_enter Tryz.func6,Tryz.ntmps6
    go_wp2_with fail
    refine (Uh K1').mono ?_
    rintro _ _ ⟨rfl,hw⟩
    obtain rfl:=hw.symm
    clear hw
    go_wp2_with fail
    refine (Uh K2').mono ?_
    rintro _ _ ⟨rfl,hw⟩
    obtain rfl:=hw.symm
    clear hw
    go_wp2_with fail
    go_ret
    rw [Uh HR]
    exact ⟨rfl,Uh HB⟩
   ·have hn2:0 < n2:=by rw [← hl2]; exact List.length_pos_iff.2 hy
    have t1:((n2:Int) == 0) = false:=by simp; omega
    have t2:¬ (n2:Int) = 0:=by omega
    by_cases hz:neg = true ∧ xs = []
    ·obtain ⟨rfl,hx⟩:=hz
     have hn1:n1 = 0:=by rw [← hl1,hx]; rfl
     subst hn1
     have HR:=Hd (show MayR true xs ys = false from by simp [MayR,hx])
     clear K1 K2 h1 h2 hT m1 m2 bel
     unfold ratV
     go_enter Tryz.func6,Tryz.ntmps6
     go_wp2_with fail
     refine (Uh K1').mono ?_
     rintro _ _ ⟨rfl,hw⟩
     obtain rfl:=hw.symm
     clear hw
     go_wp2_with fail
     refine (Uh K2').mono ?_
     rintro _ _ ⟨rfl,hw⟩
     obtain rfl:=hw.symm
     clear hw
     go_wp2_with fail
     go_ret
     rw [Uh HR]
     exact ⟨rfl,Uh HB⟩
    ·have hz2:neg = false ∨ ¬ xs = []:=by
      cases neg
      ·exact .inl rfl
      ·right; intro e; exact hz ⟨rfl,e⟩
     obtain ⟨G,hG⟩:∃ G,Nat.gcd (val xs) (val ys) = G:=⟨_,rfl⟩
     have HR:=Hd (show MayR neg xs ys = decide (G = 1) from by
      subst hG
      rcases hz2 with e | e
      ·simp [MayR,m1,m2,hy,e]
      ·simp [MayR,m1,m2,hy,e])
     have KD0:=ratDivisor_any a1 a2 n1 c1 n2 c2 xs ys wa (h1.below bel) (h2.below bel) ox oy m1 m2 (hT.below bel)
     rw [hG] at KD0
     have KD:=Hd KD0
     clear KD0 hG
     have hz3:neg = false ∨ (neg = true ∧ 0 < n1):=by
      cases neg
      ·exact .inl rfl
      ·right
       refine ⟨rfl,?_⟩
       rw [← hl1]
       exact List.length_pos_iff.2 (hz2.resolve_left (by simp))
     clear K1 K2 h1 h2 hT m1 m2 bel hz hz2
     unfold ratV
     rcases hz3 with rfl | ⟨rfl,hn1⟩
     ·go_enter Tryz.func6,Tryz.ntmps6
      go_wp2_with fail
      refine (Uh K1').mono ?_
      rintro _ _ ⟨rfl,hw⟩
      obtain rfl:=hw.symm
      clear hw
      go_wp2_with fail
      refine (Uh K2').mono ?_
      rintro _ _ ⟨rfl,hw⟩
      obtain rfl:=hw.symm
      clear hw
      go_wp2_with fail
      refine (Uh KD).mono ?_
      rintro _ w1 ⟨a3,m3,c3,rfl,s3,n3,b3⟩
      have KI:=isOne_any a3 m3 c3 (limbs G) w1 s3 (limbs_rep G).ok
      simp only [one_is] at KI
      have KI':=Hd KI
      have HB1:=Hd ((Uh HB).trans (b3.mono (Uh HB).size))
      clear KI s3 n3 b3
      go_wp2_with fail
      refine (Uh KI').mono ?_
      rintro _ _ ⟨rfl,hw⟩
      obtain rfl:=hw.symm
      clear hw
      go_wp2_with fail
      go_ret
      rw [Uh HR]
      exact ⟨rfl,Uh HB1⟩
     ·have t3:((n1:Int) == 0) = false:=by simp; omega
      have t4:¬ (n1:Int) = 0:=by omega
      go_enter Tryz.func6,Tryz.ntmps6
      go_wp2_with fail
      refine (Uh K1').mono ?_
      rintro _ _ ⟨rfl,hw⟩
      obtain rfl:=hw.symm
      clear hw
      go_wp2_with fail
      refine (Uh K2').mono ?_
      rintro _ _ ⟨rfl,hw⟩
      obtain rfl:=hw.symm
      clear hw
      go_wp2_with fail
      refine (Uh KD).mono ?_
      rintro _ w1 ⟨a3,m3,c3,rfl,s3,n3,b3⟩
      have KI:=isOne_any a3 m3 c3 (limbs G) w1 s3 (limbs_rep G).ok
      simp only [one_is] at KI
      have KI':=Hd KI
      have HB1:=Hd ((Uh HB).trans (b3.mono (Uh HB).size))
      clear KI s3 n3 b3
      go_wp2_with fail
      refine (Uh KI').mono ?_
      rintro _ _ ⟨rfl,hw⟩
      obtain rfl:=hw.symm
      clear hw
      go_wp2_with fail
      go_ret
      rw [Uh HR]
      exact ⟨rfl,Uh HB1⟩
end Go.Proofs.YtpbcnkcnjnefiaaGreatDoor
