/- Pr9 -/
import Derived.Test.YtncolonhdjkglaaGreatDoorPr7
import Derived.Test.YtncolonhdjkglaaGreatDoorPr8
import Derived.Test.YtncolonhdjkglaaGreatDoorPa2
import Derived.Test.YtncolonhdjkglaaGreatDoorKarP
namespace Go.Proofs.YtncolonhdjkglaaGreatDoor
open Go.RowKit Go.Deep
set_option linter.unusedVariables false
theorem make_b2 (n:Nat) (hn:n ≤ 1000000000) (w:World):(Instr.makeSlice 104 (.int .i64 (n:Int)) (.int .i64 (n:Int))).run Tryz.prog w = .ok (.slice (some ⟨w.heap.size,0,none⟩) n n) (w.alloc (.cells (madeCells #[.int .u8 0] n) 5)) :=
 run_make_row' (P:=Tryz.prog) 104 5 (.int .u8 0) 1 Tryz.underlying104 Tryz.info_u8 rfl .i64 .i64 n (by omega) (by omega) w

theorem pow_small2 {wt N n k:Nat} (hw:2 ≤ wt) (hn:n ≤ 2048) (hN:N < 2 ^ (32 * n)) (h:∀ i,i < k → wt ^ 2 ^ i ≤ N):k ≤ 16:=by
 rcases Nat.eq_zero_or_pos k with e | e
 ·omega
 ·have h1:=h (k - 1) (by omega)
  have h2:2 ^ 2 ^ (k - 1) ≤ wt ^ 2 ^ (k - 1):=Nat.pow_le_pow_left hw _
  have h3:2 ^ 2 ^ (k - 1) < 2 ^ (32 * n):=by omega
  have h4:=(Nat.pow_lt_pow_iff_right (by decide:1 < 2)).1 h3
  have h5:2 ^ (k - 1) < 2 ^ 16:=by
   have:(2:Nat) ^ 16 = 65536:=by decide
   omega
  have:=(Nat.pow_lt_pow_iff_right (by decide:1 < 2)).1 h5
  omega

theorem top_zero {N b L:Nat} (hb:0 < b):∀ {t:Nat},t ≤ L → N < b ^ L → (∀ p,p < t → dgt N b (L - 1 - p) = 0) → N < b ^ (L - t)
 | 0,_,h,_ => by simpa using h
 | t + 1,ht,h,hz => by
  have h1:=top_zero hb (t:=t) (by omega) h (fun p hp => hz p (by omega))
  have h2:=hz t (by omega)
  unfold dgt at h2
  have hp:0 < b ^ (L - 1 - t):=Nat.pow_pos hb
  rw [show L - t = (L - 1 - t) + 1 from by omega,Nat.pow_succ] at h1
  have h3:N / b ^ (L - 1 - t) < b:=(Nat.div_lt_iff_lt_mul hp).2 (by rw [Nat.mul_comm]; exact h1)
  rw [Nat.mod_eq_of_lt h3] at h2
  have h4:=Nat.div_eq_zero_iff.1 h2
  rw [show L - (t + 1) = L - 1 - t from by omega]
  omega
theorem top_ge {N b j:Nat} (hb:0 < b) (h:dgt N b j ≠ 0):b ^ j ≤ N:=by
 rcases Nat.lt_or_ge N (b ^ j) with k | k
 ·exfalso
  apply h
  unfold dgt
  rw [Nat.div_eq_of_lt k,Nat.zero_mod]
 ·exact k

theorem pr_pre (w1 w2:World) (a:Option Addr) (n c N b cnt wt K pb L:Nat) (a0:Option Addr) (cp:Nat) (hw2:((w1.alloc (.cells #[.int .i64 (b:Nat),.int .i64 (cnt:Nat),.int .u32 (wt:Nat),.slice a0 K cp] 165)).alloc (.cells (madeCells #[.int .u8 0] L) 5)) = w2)
  (hL:cnt * 2 ^ K = L) (hs:Sl w1 a n c (limbs N)) (hsb:∀ x,a = some x → limbs N ≠ [] → x.block < w1.heap.size) (hn:n ≤ 2048) (hN:N < wt ^ 2 ^ K) (hpb:pb < w1.heap.size)
  (hpe:∀ i,i < K → ∃ a m,w1.cell? ⟨pb,0 + i,none⟩ = some (.slice a m m) ∧ Sl w1 a m m (limbs (wt ^ 2 ^ i)) ∧ m ≤ 2048 ∧ ∀ x,a = some x → x.block < w1.heap.size) :
  WrPre w2 K (w1.heap.size + 1) 0 L L a n c N b cnt wt pb 0 K (fun _ => 0) ∧ Below w1.heap.size w1 w2:=by
 have bA:Below w1.heap.size w1 _:=(Below.refl _ _).alloc (Nat.le_refl _) (.cells #[.int .i64 (b:Nat),.int .i64 (cnt:Nat),.int .u32 (wt:Nat),.slice a0 K cp] 165)
 have fB:=FnB.made (w1.alloc (.cells #[.int .i64 (b:Nat),.int .i64 (cnt:Nat),.int .u32 (wt:Nat),.slice a0 K cp] 165)) L 5
 have bB:=bA.alloc (by simp) (.cells (madeCells #[.int .u8 0] L) 5)
 rw [hw2] at fB bB
 rw [show (w1.alloc (.cells #[.int .i64 (b:Nat),.int .i64 (cnt:Nat),.int .u32 (wt:Nat),.slice a0 K cp] 165)).heap.size = w1.heap.size + 1 from by simp] at fB
 refine ⟨⟨hL.symm,Nat.le_refl _,hs.below bB,fun x hx hne => by have:=hsb x hx hne; omega,hn,hN,Nat.le_refl _,⟨by omega,fun i hi => ?_⟩,fB⟩,bB⟩
 obtain ⟨ai,mi,h1,h2,h3,h4⟩:=hpe i hi
 have hcc:Chg (fun _ => False) w1 w2:=Chg.of_below bB
 exact ⟨ai,mi,hcc.cell (fun h => h) h1,h2.below bB,h3,fun x hx => by have:=h4 x hx; omega⟩

set_option maxHeartbeats 16000000 in
theorem nprint_ok (a:Option Addr) (n c:Nat) (xs:List Nat) (b:Nat) (w:World) (h:Sl w a n c xs) (ox:Ok xs) (m:MayL xs = true) (hb:2 ≤ b) (hb2:b ≤ 36) :
  Calls Tryz.prog 50 #[.slice a n c,.int .i64 (b:Nat)] w fun e w' => PrPost xs (b:Nat) w e w':=by
 have KM:=may_any a n c xs w h
 rw [m] at KM
 have KM':=Hd KM
 have KB:=isBase_any (b:Int) w
 rw [show decide ((2:Int) ≤ (b:Int) ∧ (b:Int) ≤ 36) = true from by simp; omega] at KB
 have KB':=Hd KB
 have hn:n ≤ 2048:=by have:=h.len; have:=MayL.len m; omega
 have KW:=Hd (newWriter_any a n c b xs w h ox (MayL.norm m) hn hb hb2)
 have HM:=Hd m
 have H:=Hd h
 have HL:=Hd h.len
 clear KM KB m h
 go_enter Tryz.func50,Tryz.ntmps50
 go_wp2_with fail
 refine (Uh KM').mono ?_
 rintro _ _ ⟨rfl,hw⟩
 obtain rfl:=hw.symm
 clear hw KM'
 go_wp2_with fail
 refine (Uh KB').mono ?_
 rintro _ _ ⟨rfl,hw⟩
 obtain rfl:=hw.symm
 clear hw KB'
 go_wp2_with fail
 refine (Uh KW).mono ?_
 rintro _ w1 ⟨cnt,wt,K,pv,rfl,hQ⟩
 obtain ⟨pb,a0,cp,rfl,hpv,hpb,hpe⟩:=hQ.pvs
 have hc1:=hQ.ch.pos
 have hc2:=hQ.ch.le
 have hwt2:2 ≤ wt:=by
  rw [← hQ.wte]
  exact Nat.le_trans hb (Nat.le_trans (by rw [Nat.pow_one]; exact Nat.le_refl _) (Nat.pow_le_pow_right (n:=b) (by omega) hc1))
 have hK:K ≤ 16:=pow_small2 hwt2 hn (by
  have h1:=val_lt ox
  rw [Uh HL,pow_limb] at h1
  exact h1) hQ.le
 obtain ⟨L,hL⟩:∃ L,cnt * 2 ^ K = L:=⟨_,rfl⟩
 have hL2:L ≤ 31 * 65536:=by
  rw [← hL]
  exact Nat.mul_le_mul hc2 (Nat.le_trans (Nat.pow_le_pow_right (by decide) hK) (by decide))
 have hL1:1 ≤ L:=by rw [← hL]; exact Nat.mul_pos hc1 (Nat.pow_pos (by decide))
 have sh:(cnt:Int) * 2 ^ K = (L:Int):=by rw [← hL,Int.natCast_mul,Int.natCast_pow]; rfl
 have wL:IntKind.i64.wrap (L:Int) = (L:Int):=by rw [IntKind.wrap_i64]; omega
 have hmk:=make_b2 L (by omega)
 have HLe:=Hd hL
 clear hL
 have HQ:=Hd hQ
 have HPE:=Hd (And.intro hpv (And.intro hpb hpe))
 clear KW hQ hpv hpb hpe
 unfold writerV
 go_wp2_with fail
 obtain ⟨w2,hw2⟩:∃ w2,((w1.alloc (.cells #[.int .i64 (b:Nat),.int .i64 (cnt:Nat),.int .u32 (wt:Nat),.slice a0 K cp] 165)).alloc (.cells (madeCells #[.int .u8 0] L) 5)) = w2:=⟨_,rfl⟩
 rw [hw2]
 obtain ⟨N,hN⟩:∃ N,val xs = N:=⟨_,rfl⟩
 have hxs:xs = limbs N:=by rw [← hN]; exact (limbs_val ox (MayL.norm (Uh HM))).symm
 have hsA:Sl w1 a n c (limbs N):=by rw [← hxs]; exact (Uh H).below (Uh HQ).bel
 have hPre:=pr_pre w1 w2 a n c N b cnt wt K pb L a0 cp hw2 (Uh HLe) hsA
 have hNlt:N < wt ^ 2 ^ K:=by rw [← hN]; exact (Uh HQ).lt
 have hPre:=hPre (fun x hx hne => hsA.block_lt hne x hx) hn hNlt (Uh HPE).2.1 (Uh HPE).2.2
 have KR:=write_any (w1.heap.size + 1) b cnt wt pb 0 K cp (.slice a0 K cp) (Uh HPE).1 hb hb2 (Uh HQ).ch (Uh HQ).wte (by omega) K 0 L L a n c N (fun _ => 0) w2 (by omega) (by omega) hPre.1
 unfold writerV at KR
 refine KR.mono ?_
 rintro _ w3 ⟨rfl,f3,u3⟩
 have hNL:N < b ^ L:=by
  rw [← Uh HLe,Nat.pow_mul,(Uh HQ).wte]
  exact hNlt
 have hb3:Below w.heap.size w w3:=by
  have h1:=(Uh HQ).bel
  have h2:=h1.size
  exact h1.trans ((hPre.2.mono h2).trans (u3.below (by omega) (by have:=hPre.2.size; omega)))
 have HF:=Hd f3
 have HB3:=Hd hb3
 have HNe:=Hd hN
 clear KR f3 u3 hb3 hPre hNlt hsA hxs hN hw2 HQ HPE HLe H wL sh hmk
 go_wp2_with fail
 go_loop [8] (fun iv => ∃ i:Nat,i < L ∧ iv = .int .i64 (i:Nat) ∧ Hid (∀ p,p < i → dgt N b (L - 1 - p) = 0)) (fun iv => L - (intOf iv).toNat)
 case atStart => exact ⟨0,by omega,rfl,fun p hp => by omega⟩
 case round =>
  obtain ⟨i,hi,rfl,HZ⟩:=hrel
  by_cases hst:i < L - 1 ∧ dgt N b (L - 1 - i) = 0
  ·obtain ⟨hi1,hz⟩:=hst
   have t1:(i:Int) < (L:Int) - 1:=by omega
   have f1:=(Uh HF i hi).1
   simp only [hz] at f1
   rw [Nat.zero_add,show chrN 0 = 48 from rfl] at f1
   have HZ2:=Hd (show ∀ p,p < i + 1 → dgt N b (L - 1 - p) = 0 from fun p hp => by
    by_cases e:p = i
    ·rw [e]; exact hz
    ·exact Uh HZ p (by omega))
   clear HZ hz
   go_wp2_with fail
   exact ⟨⟨i + 1,by omega,by go_num,Uh HZ2⟩,by simp [intOf]; omega⟩
  ·have hT:TxtOf N b (L - i):=by
    refine ⟨by omega,top_zero (by omega) (by omega) hNL (Uh HZ),?_⟩
    by_cases e:i < L - 1
    ·right
     refine top_ge (by omega) (fun hz => hst ⟨e,?_⟩)
     rw [show L - 1 - i = L - i - 1 from by omega]
     exact hz
    ·left; omega
   have HX:=Hd (show PrIs xs (b:Nat) (strB (txtL N b (L - i))) 0 from by
    have:=PrIs.text (xs:=xs) (b:=(b:Int)) (L - i) (Uh HM) (by omega) (by rw [Uh HNe]; exact hT)
    rw [Uh HNe] at this
    exact this)
   have hsub:FnB w3 (w1.heap.size + 1) i (L - i) (fun p => chrN (dgt N b (L - i - 1 - p))):=by
    intro p hp
    have:=Uh HF (i + p) (by omega)
    simp only at this ⊢
    rw [Nat.zero_add,show L - 1 - (i + p) = L - i - 1 - p from by omega] at this
    exact this
   have kc:=(hsub.slB (c:=L - i) (Nat.le_refl _) (fun p hp => chr_ok N hb hb2 _)).conv
   change _ = Result.ok (Value.string (strB (txtL N b (L - i)))) w3 at kc
   have f1:=(Uh HF i hi).1
   simp only at f1
   rw [Nat.zero_add] at f1
   have hz1:dgt N b (L - 1 - i) = 0 → ¬ i < L - 1:=fun h1 h2 => hst ⟨h2,h1⟩
   have hcl:=chr_ok N hb hb2 (L - 1 - i)
   have hch:=chrN_zero (d:=dgt N b (L - 1 - i)) (by have:=dgt_lt N (L - 1 - i) (b:=b) (by omega); omega)
   generalize strB (txtL N b (L - i)) = S at *
   obtain ⟨q,hq⟩:∃ q,L - i = q:=⟨_,rfl⟩
   have hq1:(L:Int) - (i:Int) = (q:Int):=by omega
   rw [hq] at kc
   have hLi:¬ L = i:=by omega
   generalize dgt N b (L - 1 - i) = D at *
   generalize chrN D = z at *
   clear hst hsub hT HZ
   by_cases hi1:i < L - 1
   ·have t1:(i:Int) < (L:Int) - 1:=by omega
    have hz48:z ≠ 48:=fun e => hz1 (hch.1 e) hi1
    have t2:((z:Int) == 48) = false:=by simp; omega
    have t3:¬ (z:Int) = 48:=by omega
    clear hz1 hch
    go_wp2_with fail
    go_ret2
    exact ⟨S,0,rfl,Uh HX,Uh HB3⟩
   ·have t1:¬ (i:Int) < (L:Int) - 1:=by omega
    clear hz1 hch
    go_wp2_with fail
    go_ret2
    exact ⟨S,0,rfl,Uh HX,Uh HB3⟩

set_option maxHeartbeats 4000000 in
theorem nprint_any (a:Option Addr) (n c:Nat) (xs:List Nat) (b:Int) (w:World) (h:Sl w a n c xs) (ox:Ok xs) :
  Calls Tryz.prog 50 #[.slice a n c,.int .i64 b] w fun e w' => PrPost xs b w e w':=by
 have KM:=may_any a n c xs w h
 by_cases m:MayL xs = true
 ·by_cases hb:2 ≤ b ∧ b ≤ 36
  ·obtain ⟨k,rfl⟩:∃ k:Nat,b = (k:Int):=⟨b.toNat,by omega⟩
   exact nprint_ok a n c xs k w h ox m (by omega) (by omega)
  ·have KB:=isBase_any b w
   rw [show decide (2 ≤ b ∧ b ≤ 36) = false from decide_eq_false hb] at KB
   rw [m] at KM
   have KM':=Hd KM
   have KB':=Hd KB
   have HM:=Hd m
   have HB:=Hd hb
   clear KM KB m h hb
   go_enter Tryz.func50,Tryz.ntmps50
   go_wp2_with fail
   refine (Uh KM').mono ?_
   rintro _ _ ⟨rfl,hw⟩
   obtain rfl:=hw.symm
   clear hw KM'
   go_wp2_with fail
   refine (Uh KB').mono ?_
   rintro _ _ ⟨rfl,hw⟩
   obtain rfl:=hw.symm
   clear hw KB'
   go_wp2_with fail
   go_ret2
   exact ⟨_,_,rfl,.base (Uh HM) (Uh HB),Below.refl _ _⟩
 ·have m':MayL xs = false:=by simpa using m
  rw [m'] at KM
  have KM':=Hd KM
  have HM:=Hd m'
  clear KM m m' h
  go_enter Tryz.func50,Tryz.ntmps50
  go_wp2_with fail
  refine (Uh KM').mono ?_
  rintro _ _ ⟨rfl,hw⟩
  obtain rfl:=hw.symm
  clear hw KM'
  go_wp2_with fail
  go_ret2
  exact ⟨_,_,rfl,.nat (Uh HM),Below.refl _ _⟩
def mnB (g:Bool):ByteArray:=if g then ⟨#[45]⟩ else ⟨#[]⟩
inductive PrR (g:Bool) (x y:List Nat):ByteArray → Int → Prop where
 | bad (h:MayR g x y = false):PrR g x y ⟨#[]⟩ 40
 | whole (n:Nat) (h:MayR g x y = true) (hy:y = [1]) (ht:TxtOf (val x) 10 n):PrR g x y (mnB g ++ strB (txtL (val x) 10 n)) 0
 | frac (n m:Nat) (h:MayR g x y = true) (hy:y ≠ [1]) (ht:TxtOf (val x) 10 n) (hm:TxtOf (val y) 10 m):PrR g x y (mnB g ++ (strB (txtL (val x) 10 n) ++ (⟨#[47]⟩ ++ strB (txtL (val y) 10 m)))) 0
def PrRPost (g:Bool) (x y:List Nat) (w:World) (e:Ending) (w':World):Prop :=
 ∃ s er,e = .returned (.tuple #[.string s,.int .i64 er]) ∧ PrR g x y s er ∧ Below w.heap.size w w'

theorem txt_len {xs:List Nat} {k:Nat} (ox:Ok xs) (m:MayL xs = true) (h:TxtOf (val xs) 10 k):(strB (txtL (val xs) 10 k)).size ≤ 70000:=by
 have hl:(strB (txtL (val xs) 10 k)).size = k:=by unfold strB; rw [strOfNums_size]; simp only [List.length_map]; exact lst_len _ _
 rw [hl]
 rcases h.ge with e | e
 ·omega
 ·have h1:=val_lt ox
  have h2:=MayL.len m
  have h3:2 ^ (k - 1) ≤ 10 ^ (k - 1):=Nat.pow_le_pow_left (by decide) _
  rw [pow_limb] at h1
  have h4:=(Nat.pow_lt_pow_iff_right (by decide:1 < 2)).1 (show 2 ^ (k - 1) < 2 ^ (32 * xs.length) by omega)
  omega
theorem mnB_size (g:Bool):(mnB g).size ≤ 1:=by cases g <;> decide

set_option maxHeartbeats 4000000 in
theorem digits_any (a:Option Addr) (n c:Nat) (xs:List Nat) (w:World) (h:Sl w a n c xs) (ox:Ok xs) (m:MayL xs = true) :
  Calls Tryz.prog 26 #[.slice a n c] w fun e w' => ∃ k,TxtOf (val xs) 10 k ∧ e = .returned (.string (strB (txtL (val xs) 10 k))) ∧ Below w.heap.size w w':=by
 have K:=Hd (nprint_any a n c xs 10 w h ox)
 have HM:=Hd m
 clear h m
 go_enter Tryz.func26,Tryz.ntmps26
 go_wp2_with fail
 refine (Uh K).mono ?_
 rintro _ w' ⟨s,er,rfl,hp,hb⟩
 have H:=Hd (And.intro hp hb)
 clear hp hb K
 go_wp2_with fail
 go_ret
 obtain ⟨hp,hb⟩:=Uh H
 cases hp with
 | nat k => rw [Uh HM] at k; cases k
 | base k kb => exact absurd (by decide) kb
 | text k _ _ ht => exact ⟨k,ht,rfl,hb⟩

theorem ratMinusS_any (g:Bool) (w:World):Calls Tryz.prog 28 #[.bool g] w fun e w' => e = .returned (.string (mnB g)) ∧ w' = w:=by
 cases g
 ·go_enter Tryz.func28,Tryz.ntmps28
  go_wp2
  go_ret
  exact ⟨rfl,rfl⟩
 ·go_enter Tryz.func28,Tryz.ntmps28
  go_wp2
  go_ret
  exact ⟨rfl,rfl⟩

set_option maxHeartbeats 8000000 in
theorem ratPrint_any (g:Bool) (a b:Option Addr) (n c m d:Nat) (x y:List Nat) (w:World) (hx:Sl w a n c x) (hy:Sl w b m d y) (ox:Ok x) (oy:Ok y) (hT:Tab64 w) :
  Calls Tryz.prog 8 #[ratV g a n c b m d] w fun e w' => PrRPost g x y w e w':=by
 have bx:=Box.made w g a n c b m d
 obtain ⟨wa,hwa⟩:∃ wa,ratBox w g a n c b m d = wa:=⟨_,rfl⟩
 rw [hwa] at bx
 have hba:Below w.heap.size w wa:=by rw [← hwa]; exact bAl
 unfold ratBox at hwa
 have p0:=bx.d0
 have p1:=bx.d1
 have p2:=bx.d2
 have KM:=ratMay_any g a b n c m d x y wa (hx.below hba) (hy.below hba) ox oy (hT.below hba)
 have HBx:=Hd bx
 have HBa:=Hd hba
 unfold ratV at KM ⊢
 cases hm:MayR g x y
 ·rw [hm] at KM
  have HKM:=Hd KM
  have HR:=Hd (PrR.bad hm)
  clear KM hx hy hT bx hba hm
  go_enter Tryz.func8,Tryz.ntmps8
  go_wp2_with fail
  refine (Uh HKM).mono ?_
  rintro _ wb ⟨rfl,hbb⟩
  have HB:=Hd ((Uh HBa).trans (hbb.mono (Uh HBa).size))
  clear hbb HKM
  go_wp2_with fail
  go_ret2
  exact ⟨_,_,rfl,Uh HR,Uh HB⟩
 ·rw [hm] at KM
  obtain ⟨kx,ky,ey,_,_⟩:=MayR.parts hm
  have HKM:=Hd KM
  have HX:=Hd (And.intro hx hy)
  have HM:=Hd (And.intro hm (And.intro kx ky))
  clear KM hx hy hT bx hba hm kx ky ey
  go_enter Tryz.func8,Tryz.ntmps8
  go_wp2_with fail
  refine (Uh HKM).mono ?_
  rintro _ wb ⟨rfl,hbb⟩
  have b2:=(Uh HBx).keep hbb
  have r0:=b2.d0
  have r1:=b2.d1
  have r2:=b2.d2
  have hB:=(Uh HBa).trans (hbb.mono (Uh HBa).size)
  have KD:=digits_any a n c x wb ((Uh HX).1.below hB) ox (Uh HM).2.1
  have HKD:=Hd KD
  have HB:=Hd hB
  have HB2:=Hd b2
  clear hbb HKM b2 p0 p1 p2 KD hB
  go_wp2_with fail
  refine (Uh HKD).mono ?_
  rintro _ wc ⟨k1,ht1,rfl,hbc⟩
  have hC:=(Uh HB).trans (hbc.mono (Uh HB).size)
  have b3:=(Uh HB2).keep hbc
  have q0:=b3.d0
  have q1:=b3.d1
  have q2:=b3.d2
  have KO:=isOne_any b m d y wc ((Uh HX).2.below hC) oy
  have HT1:=Hd ht1
  obtain ⟨S1,hS1⟩:∃ S1,strB (txtL (val x) 10 k1) = S1:=⟨_,rfl⟩
  rw [hS1]
  have HS1:=Hd hS1
  have l1:=txt_len ox (Uh HM).2.1 ht1
  rw [hS1] at l1
  have l3:=mnB_size g
  obtain ⟨MB,hMB⟩:∃ MB,mnB g = MB:=⟨_,rfl⟩
  rw [hMB] at l3
  have KMB:∀ W,Calls Tryz.prog 28 #[.bool g] W fun e w' => e = .returned (.string MB) ∧ w' = W:=fun W => by rw [← hMB]; exact ratMinusS_any g W
  have HMB:=Hd hMB
  have HKMB:=Hd KMB
  clear hMB KMB
  by_cases e1:y = [1]
  ·rw [decide_eq_true e1] at KO
   have HKO:=Hd KO
   have HE:=Hd e1
   have HC:=Hd hC
   clear ht1 hS1 hC hbc b3 KO e1 r0 r1 r2 HKD
   go_wp2_with fail
   refine (Uh HKO).mono ?_
   rintro _ _ ⟨rfl,hw⟩
   obtain rfl:=hw.symm
   clear hw HKO
   go_wp2_with fail
   refine (Uh HKMB wc).mono ?_
   rintro _ _ ⟨rfl,hw⟩
   obtain rfl:=hw.symm
   clear hw
   go_wp2_with fail
   go_ret2
   exact ⟨_,_,rfl,by rw [← Uh HS1,← Uh HMB]; exact PrR.whole k1 (Uh HM).1 (Uh HE) (Uh HT1),Uh HC⟩
  ·rw [decide_eq_false e1] at KO
   have HKO:=Hd KO
   have HE:=Hd e1
   have KD2:=Hd (digits_any b m d y wc ((Uh HX).2.below hC) oy (Uh HM).2.2)
   have HC:=Hd hC
   have HB3:=Hd b3
   clear ht1 hS1 hC hbc b3 KO e1 r0 r1 r2 HKD
   go_wp2_with fail
   refine (Uh HKO).mono ?_
   rintro _ _ ⟨rfl,hw⟩
   obtain rfl:=hw.symm
   clear hw HKO
   go_wp2_with fail
   refine (Uh KD2).mono ?_
   rintro _ wd ⟨k2,ht2,rfl,hbd⟩
   obtain ⟨S2,hS2⟩:∃ S2,strB (txtL (val y) 10 k2) = S2:=⟨_,rfl⟩
   rw [hS2]
   have HS2:=Hd (And.intro hS2 ht2)
   have l2:=txt_len oy (Uh HM).2.2 ht2
   rw [hS2] at l2
   have b4:=(Uh HB3).keep hbd
   have s0:=b4.d0
   have HD:=Hd ((Uh HC).trans (hbd.mono (Uh HC).size))
   clear ht2 hS2 hbd b4 q0 q1 q2 KD2
   go_wp2_with fail
   refine (Uh HKMB wd).mono ?_
   rintro _ _ ⟨rfl,hw⟩
   obtain rfl:=hw.symm
   clear hw
   go_wp2_with fail
   go_ret2
   exact ⟨_,_,rfl,by rw [← Uh HS1,← (Uh HS2).1,← Uh HMB]; exact PrR.frac k1 k2 (Uh HM).1 (Uh HE) (Uh HT1) (Uh HS2).2,Uh HD⟩
inductive DcR (g:Bool) (x y:List Nat) (pl:Int):ByteArray → Int → Prop where
 | bad (h:MayR g x y = false):DcR g x y pl ⟨#[]⟩ 40
 | arg (h:MayR g x y = true) (hp:pl < 0 ∨ 1000 < pl):DcR g x y pl ⟨#[]⟩ 1
 | text (k L N:Nat) (h:MayR g x y = true) (hk:pl = (k:Int)) (hk2:k ≤ 1000) (hN:N = rdQ (val x * 10 ^ k) (val y)) (ht:TxtOf (N / 10 ^ k) 10 L):DcR g x y pl (mnB (g && decide (N ≠ 0)) ++ (strB (txtL (N / 10 ^ k) 10 L) ++ dotB N k)) 0
theorem DcR.uniq {g:Bool} {x y:List Nat} {pl:Int} {s t:ByteArray} {e f:Int} (h:DcR g x y pl s e) (k:DcR g x y pl t f):s = t ∧ e = f:=by
 cases h with
 | bad h =>
  cases k with
  | bad k => exact ⟨rfl,rfl⟩
  | arg k hp => rw [h] at k; cases k
  | text k L N k2 hk hk2 hN ht => rw [h] at k2; cases k2
 | arg h hp =>
  cases k with
  | bad k => rw [h] at k; cases k
  | arg k hp => exact ⟨rfl,rfl⟩
  | text k L N k2 hk hk2 hN ht => omega
 | text j L N h hk hk2 hN ht =>
  cases k with
  | bad k => rw [h] at k; cases k
  | arg k hp => omega
  | text j2 L2 N2 k2 hk3 hk4 hN2 ht2 =>
   obtain rfl:j = j2:=by omega
   obtain rfl:N = N2:=hN.trans hN2.symm
   rw [ht.uniq (by decide) ht2]
   exact ⟨rfl,rfl⟩
theorem PrR.uniq {g:Bool} {x y:List Nat} {s t:ByteArray} {e f:Int} (h:PrR g x y s e) (k:PrR g x y t f):s = t ∧ e = f:=by
 cases h with
 | bad h =>
  cases k with
  | bad k => exact ⟨rfl,rfl⟩
  | whole n k hy ht => rw [h] at k; cases k
  | frac n m k hy ht hm => rw [h] at k; cases k
 | whole n h hy ht =>
  cases k with
  | bad k => rw [h] at k; cases k
  | whole m k hy2 ht2 => rw [ht.uniq (by decide) ht2]; exact ⟨rfl,rfl⟩
  | frac n m k hy2 ht2 hm2 => exact absurd hy hy2
 | frac n m h hy ht hm =>
  cases k with
  | bad k => rw [h] at k; cases k
  | whole m k hy2 ht2 => exact absurd hy2 hy
  | frac n2 m2 k hy2 ht2 hm2 => rw [ht.uniq (by decide) ht2,hm.uniq (by decide) hm2]; exact ⟨rfl,rfl⟩
def DcPost (g:Bool) (x y:List Nat) (pl:Int) (w:World) (e:Ending) (w':World):Prop :=
 ∃ s er,e = .returned (.tuple #[.string s,.int .i64 er]) ∧ DcR g x y pl s er ∧ Below w.heap.size w w'
structure DgS (wr w:World) (V:Nat) (v:Value) (k Q:Nat) (a:Option Addr) (m c:Nat):Prop where
 own:DgO wr w V v k
 sl:Sl wr a m c (limbs Q)
 far:FarB v a (limbs Q)

def revF (f:Nat → Nat) (k i p:Nat):Nat:=if p < i ∨ k - 1 - p < i then f (k - 1 - p) else f p
theorem revF_zero (f:Nat → Nat) (k p:Nat):revF f k 0 p = f p:=by unfold revF; rw [if_neg (by omega)]
theorem revF_step (f:Nat → Nat) {k i p:Nat} (hi:i < k / 2) (hp:p < k):revF f k (i + 1) p = if p = k - 1 - i then revF f k i i else (if p = i then revF f k i (k - 1 - i) else revF f k i p):=by
 unfold revF
 by_cases e1:p = k - 1 - i
 ·subst e1
  rw [if_pos rfl,if_pos (by omega),if_neg (by omega)]
  congr 1
  omega
 ·rw [if_neg e1]
  by_cases e2:p = i
  ·subst e2
   rw [if_pos rfl,if_pos (by omega),if_neg (by omega)]
  ·rw [if_neg e2]
   by_cases e3:p < i ∨ k - 1 - p < i
   ·rw [if_pos (by omega),if_pos e3]
   ·rw [if_neg (by omega),if_neg e3]
theorem revF_end (f:Nat → Nat) {k p:Nat} (hp:p < k):revF f k (k / 2) p = f (k - 1 - p):=by
 unfold revF
 by_cases e:p < k / 2 ∨ k - 1 - p < k / 2
 ·rw [if_pos e]
 ·rw [if_neg e]
  congr 1
  omega

theorem own_fnB {w:World} {base g n c:Nat} {f:Nat → Nat} (h:w.ownsRow base 5 1 (.slice (some ⟨g,0,none⟩) n c) n (valsB (lst f n))):FnB w g 0 n f:=by
 intro i hi
 have hz:=World.ownsRow.frozenAt h i
 obtain ⟨hl,h2⟩:=h
 rcases h2 with ⟨h2,h3⟩ | ⟨g',cap,cur,h3,h4,h5,h6,h7,h8,h9⟩
 ·cases h2
 ·injection h3 with e1 e2 e3
  injection e1 with e1
  injection e1 with e1
  subst e1 e3
  rw [Nat.zero_add]
  refine ⟨?_,hz⟩
  rw [cell_of_block h5]
  have h10:(cur.toList.take (n * 1))[i]? = some (.int .u8 (f i:Nat)):=by
   rw [h9]
   unfold valsB lst
   simp [hi]
  rw [List.getElem?_take,if_pos (by omega),Array.getElem?_toList] at h10
  exact h10

set_option maxRecDepth 100000 in
set_option maxHeartbeats 16000000 in
theorem wdigits_pos (a:Option Addr) (n c V:Nat) (w:World) (h:Sl w a n c (limbs V)) (hV:0 < V) (hn:n ≤ 100000) :
  Calls Tryz.prog 30 #[.slice a n c] w fun e w' => ∃ k,TxtOf V 10 k ∧ e = .returned (.string (strB (txtL V 10 k))) ∧ Below w.heap.size w w':=by
 obtain ⟨i80,hi80,hz80,hs80,hb80⟩:=info_parts Tryz.info_u8
 have I80:=Hd (And.intro hi80 (And.intro hz80 (And.intro hs80 hb80)))
 have hl:=h.len
 have hn0:0 < n:=by
  rcases Nat.eq_zero_or_pos n with e | e
  ·exfalso
   rw [e] at hl
   have:=limbs_eq_nil.1 (List.eq_nil_of_length_eq_zero hl)
   omega
  ·exact e
 have hV2:V < 2 ^ (32 * n):=by
  have h1:=limbs_lt V
  rw [hl,pow_limb] at h1
  exact h1
 have hVn:=limbs_lt V
 rw [hl] at hVn
 have HV:=Hd (And.intro hV (And.intro hV2 hVn))
 have HR0:=Hd (show DgS w w V (.slice none 0 0) 0 V a n c from ⟨⟨World.ownsRow_nil _ _ _ _,.inl rfl,Below.refl _ _⟩,h,fun x _ _ e => by cases e⟩)
 have t0:((n:Int) == 0) = false:=by simp; omega
 have t1:¬ (n:Int) = 0:=by omega
 clear hi80 hz80 hs80 hb80 h hl hV hV2 hVn
 go_enter Tryz.func30,Tryz.ntmps30
 go_wp2_with fail
 go_loopg [0,3] V (fun gq av bv wr => ∃ k Q aa m cc,av = .slice aa m cc ∧ Q ≤ gq ∧ Q = V / 10 ^ k ∧ Hid (DgS wr w V bv k Q aa m cc))
 case atStart => exact ⟨0,V,_,_,_,rfl,Nat.le_refl _,by simp,Uh HR0⟩
 case round =>
  clear HR0
  obtain ⟨k,Q,al,ml,cl,rfl,hgq,hq,HR⟩:=hrel
  have hk:k ≤ 32 * n:=(Uh HR).own.len (Uh HV).2.1
  obtain ⟨av,cv,rfl⟩:=own_len (Uh HR).own.own
  by_cases hQ:Q = 0
  ·subst hQ
   have hm0:ml = 0:=by have:=(Uh HR).sl.len; simpa [limbs_zero] using this.symm
   subst hm0
   have hT:=(Uh HR).own.done (Uh HV).1 hq.symm
   have hkp:=hT.pos
   have hform:∃ g,av = some ⟨g,0,none⟩:=by
    rcases (Uh HR).own.own.2 with ⟨e,h0⟩ | ⟨g,cap,cur,e,_⟩
    ·omega
    ·injection e with e1
     exact ⟨g,e1⟩
   obtain ⟨g,rfl⟩:=hform
   have hF:=own_fnB (Uh HR).own.own
   have hgw:w.heap.size ≤ g:=(own_ge (Uh HR).own.own g rfl).1
   obtain ⟨wq,rfl⟩:∃ wq,wq = wr:=⟨wr,rfl⟩
   have HT:=Hd hT
   have HF:=Hd (hF.congr (fun p hp => (revF_zero (fun p => chrN (dgt V 10 p)) k p).symm))
   have HB:=Hd (Uh HR).own.bel
   have HKC:=Hd (show k ≤ cv by
    rcases (Uh HR).own.own.2 with ⟨e,h0⟩ | ⟨g,cap,cur,e,_,_,h6,_⟩
    ·cases e
    ·injection e with e1 e2 e3
     omega)
   have hk2:(k:Int).tdiv 2 = ((k / 2:Nat):Int):=rfl
   have hk3:(k:Int) / 2 = ((k / 2:Nat):Int):=rfl
   have hk4:IntKind.i64.wrap ((k:Int).tdiv 2) = ((k / 2:Nat):Int):=by rw [hk2,IntKind.wrap_i64]; omega
   obtain ⟨K2,hK2⟩:∃ x,k / 2 = x:=⟨_,rfl⟩
   rw [hK2] at hk2 hk3 hk4
   have hK3:K2 + K2 ≤ k ∧ k ≤ K2 + K2 + 1:=by omega
   have HK2:=Hd hK2
   clear HR hT hF hq hgq hK2
   go_wp2_with fail
   go_loopw [7] (fun iv w2 => ∃ i:Nat,i ≤ K2 ∧ iv = .int .i64 (i:Nat) ∧ Hid (FnB w2 g 0 k (revF (fun p => chrN (dgt V 10 p)) k i)) ∧ Hid (Below w.heap.size w w2)) (fun iv _ => K2 - (intOf iv).toNat)
   case atStart => exact ⟨0,Nat.zero_le _,rfl,Uh HF,Uh HB⟩
   case round =>
    clear HF HB
    obtain ⟨i,hi,rfl,HF,HB⟩:=hrel
    by_cases hik:i < K2
    ·have t6:(i:Int) < (K2:Int):=by omega
     have t7:(k:Int) - 1 - (i:Int) = ((k - 1 - i:Nat):Int):=by omega
     have t8:(i:Int) < (k:Int):=by omega
     have t9:k - 1 - i < k:=by omega
     have t10:(((k - 1 - i:Nat):Int)) < (k:Int):=by omega
     have hne:k - 1 - i ≠ i:=by omega
     have f1:=(Uh HF i (by omega)).1
     have f2:=(Uh HF i (by omega)).2
     have f3:=(Uh HF (k - 1 - i) (by omega)).1
     have f4:=(Uh HF (k - 1 - i) (by omega)).2
     rw [Nat.zero_add] at f1 f2 f3 f4
     have hs1:=(Uh HF).set i (revF (fun p => chrN (dgt V 10 p)) k i (k - 1 - i)) (by omega)
     have hs2:=hs1.set (k - 1 - i) (revF (fun p => chrN (dgt V 10 p)) k i i) (by omega)
     rw [Nat.zero_add] at hs1
     rw [Nat.zero_add,Nat.zero_add] at hs2
     have HN:=Hd (hs2.congr (fun p hp => (revF_step (fun p => chrN (dgt V 10 p)) (by rw [Uh HK2]; exact hik) hp).symm))
     have HB2:=Hd (((Uh HB).setCell (p:=⟨g,i,none⟩) hgw (.int .u8 (revF (fun p => chrN (dgt V 10 p)) k i (k - 1 - i):Nat))).setCell (p:=⟨g,k - 1 - i,none⟩) hgw (.int .u8 (revF (fun p => chrN (dgt V 10 p)) k i i:Nat)))
     have hx:revF (fun p => chrN (dgt V 10 p)) k i i < 256:=by unfold revF; split <;> exact chr_ok V (by decide) (by decide) _
     have hy:revF (fun p => chrN (dgt V 10 p)) k i (k - 1 - i) < 256:=by unfold revF; split <;> exact chr_ok V (by decide) (by decide) _
     generalize revF (fun p => chrN (dgt V 10 p)) k i i = x at *
     generalize revF (fun p => chrN (dgt V 10 p)) k i (k - 1 - i) = y at *
     clear hs1 hs2 HF HB
     generalize k - 1 - i = q at *
     go_wp2_with fail
     exact ⟨⟨i + 1,by omega,by go_num,Uh HN,Uh HB2⟩,by simp [intOf]; omega⟩
    ·obtain rfl:i = K2:=by omega
     have t6:¬ (i:Int) < (i:Int):=by omega
     have hfin:FnB wr g 0 k (fun p => chrN (dgt V 10 (k - 1 - p))):=(Uh HF).congr (fun p hp => by rw [← Uh HK2]; exact revF_end _ hp)
     have kc:=(hfin.slB (c:=cv) (Uh HKC) (fun p hp => chr_ok V (by decide) (by decide) _)).conv
     have HS:=Hd (show strB (lst (fun p => chrN (dgt V 10 (k - 1 - p))) k) = strB (txtL V 10 k) from rfl)
     generalize strB (lst (fun p => chrN (dgt V 10 (k - 1 - p))) k) = S at *
     clear hfin HF
     go_wp2_with fail
     go_ret
     exact ⟨k,Uh HT,(by rw [← Uh HS]; rfl),Uh HB⟩
  ·have hml:0 < ml:=by
    rcases Nat.eq_zero_or_pos ml with e | e
    ·exfalso
     have:=(Uh HR).sl.len
     rw [e] at this
     exact hQ (limbs_eq_nil.1 (List.eq_nil_of_length_eq_zero this))
    ·exact e
   have hml':(0:Int) < (ml:Int):=by omega
   have hQV:Q ≤ V:=by rw [hq]; exact Nat.div_le_self _ _
   have hml2:ml ≤ n:=by
    have h3:=limbs_len (Nat.lt_of_le_of_lt hQV (Uh HV).2.2)
    have h4:=(Uh HR).sl.len
    omega
   have KS:=wshort_any al ml cl 1000000000 (limbs Q) wr (Uh HR).sl (limbs_ok Q) (by omega) (by decide) (by decide)
   rw [limbs_v] at KS
   have KS':=Hd KS
   have HQb:=Hd (And.intro (show 0 < Q by omega) (show Q / 1000000000 < Q from Nat.div_lt_self (by omega) (by decide)))
   have HQ:=Hd hq
   clear KS hQ hq
   go_wp2_with fail
   refine (Uh KS').mono ?_
   rintro _ w2 ⟨aq,mq,cq,rfl,sq,nq,zq,bq⟩
   have hD2:=(Uh HR).own.below bq
   have hfar:FarB (.slice av k cv) aq (limbs (Q / 1000000000)):=fun x hx _ e => by
    have h1:=(own_ge (Uh HR).own.own _ e).2
    have h2:=nq x hx
    omega
   have hmq:(0 < mq ↔ 0 < Q / 1000000000):=by
    have h4:=sq.len
    constructor
    ·intro e
     rcases Nat.eq_zero_or_pos (Q / 1000000000) with g | g
     ·rw [g,limbs_zero] at h4; simp at h4; omega
     ·exact g
    ·intro e
     rcases Nat.eq_zero_or_pos mq with g | g
     ·rw [g] at h4
      have:=limbs_eq_nil.1 (List.eq_nil_of_length_eq_zero h4)
      omega
     ·exact g
   have HI0:=Hd (show DgS w2 w V (.slice av k cv) k (Q / 1000000000) aq mq cq from ⟨hD2,sq,hfar⟩)
   have HMQ:=Hd hmq
   obtain ⟨Q1,hQ1⟩:∃ x,Q / 1000000000 = x:=⟨_,rfl⟩
   obtain ⟨R,hR1⟩:∃ x,Q % 1000000000 = x:=⟨_,rfl⟩
   rw [hQ1] at HI0 HMQ HQb
   rw [hR1]
   have HQ1:=Hd (And.intro hQ1 hR1)
   clear hD2 hfar hmq sq nq zq bq KS' HR hQ1 hR1
   go_wp2_with fail
   go_loopw [3,5,6] (fun bv rv iv w3 => ∃ i:Nat,i ≤ 9 ∧ iv = .int .i64 (i:Nat) ∧ rv = .int .u32 ((R / 10 ^ i:Nat):Int) ∧ Hid (DgS w3 w V bv (k + i) Q1 aq mq cq)) (fun _ _ iv _ => 9 - (intOf iv).toNat)
   case atStart => exact ⟨0,by omega,rfl,by simp,Uh HI0⟩
   case round =>
    clear HI0
    obtain ⟨i,hi,rfl,rfl,HI⟩:=hrel
    have hki:k + i ≤ 32 * n:=(Uh HI).own.len (Uh HV).2.1
    obtain ⟨av,cv,rfl⟩:=own_len (Uh HI).own.own
    have hr9:R / 10 ^ i < 1000000000:=by rw [← (Uh HQ1).2]; exact dg_lt
    have HEnd:=Hd (fun (hh:i = 9 ∨ Q1 = 0 ∧ R / 10 ^ i = 0) => dg_end (Uh HQ) hi (by rw [(Uh HQ1).1,(Uh HQ1).2]; exact hh))
    have HNx:=Hd (dg_next R i)
    have HDp:=Hd (fun (h9:i < 9) (hh:0 < Q1 ∨ 0 < R / 10 ^ i) => And.intro (dg_pos (Uh HQ) h9 (by rw [(Uh HQ1).1,(Uh HQ1).2]; exact hh)) (dg_digit (Uh HQ) h9))
    rw [(Uh HQ1).1] at HEnd
    rw [(Uh HQ1).2] at HDp
    generalize R / 10 ^ i = r at *
    have hgo:(i < 9 ∧ (0 < mq ∨ 0 < r)) ∨ (i = 9 ∨ mq = 0 ∧ r = 0):=by omega
    rcases hgo with ⟨h9,hor⟩ | hex
    ·have t9:(i:Int) < 9:=by omega
     have hpd:=Uh HDp h9 (by rcases hor with e | e; exact .inl ((Uh HMQ).1 e); exact .inr e)
     have HPD:=Hd hpd
     have e1:(r:Int) % 10 = ((r % 10:Nat):Int):=rfl
     have e1':(r:Int).tmod 10 = ((r % 10:Nat):Int):=rfl
     have e2:(r:Int) / 10 = ((r / 10:Nat):Int):=rfl
     have e2':(r:Int).tdiv 10 = ((r / 10:Nat):Int):=rfl
     have e3:(48:Int) + ((r % 10:Nat):Int) = ((48 + r % 10:Nat):Int):=by omega
     have e4:48 + r % 10 < 256:=by omega
     have HCH:=Hd (show chrN (dgt V 10 (k + i)) = 48 + r % 10 by rw [hpd.2]; exact chr_up (by omega))
     have HSz:=Hd (Uh HI).own.bel.size
     have e5:r / 10 < 1000000000:=by omega
     generalize 48 + r % 10 = z at *
     generalize r % 10 = r1 at *
     generalize r / 10 = r2 at *
     clear hpd
     have tm:decide ((0:Int) < (mq:Int)) = decide (0 < mq):=by simp
     by_cases hm0:0 < mq
     ·have t10:(0:Int) < (mq:Int):=by omega
      go_wp2_with (at_builtin; refine wpList_append_lies _ rfl _ _ 104 rfl w.heap.size 5 i80 (.int .u8 0) 1 1 Tryz.underlying104 (Uh I80).1 (Uh I80).2.1 (Uh I80).2.2.1 (Uh I80).2.2.2 rfl (by decide) _ (k + i) _ rfl ((Uh HI).own.own.alloc _) ⟨wr.heap.size,0,none⟩ 1 1 [.int .u8 (z:Nat)] rfl rfl (World.news_of_block (alloc_block _ _)) one_int (by decide) ?c31 ?c41 ?c51 (wr.heap.size + 1) (by simp) ?_)
      case c31 => unfold maxLen; omega
      case c41 => omega
      case c51 => have:=Uh HSz; simp; omega
      intro g1 cc w4 hown hgrow hat hlt2
      have HN:=Hd (show DgS w4 w V (.slice (some ⟨g1,0,none⟩) (k + i + 1) cc) (k + (i + 1)) Q1 aq mq cq from ⟨(Uh HI).own.step (Uh HPD).1 (by rw [Uh HCH]; exact hown) hgrow,((Uh HI).far.step (k2:=k + i + 1) (c2:=cc) (Uh HI).sl hgrow hat).1,((Uh HI).far.step (k2:=k + i + 1) (c2:=cc) (Uh HI).sl hgrow hat).2⟩)
      clear hown hgrow hat hlt2
      go_wp2_with fail
      exact ⟨⟨i + 1,by omega,by go_num,by rw [← Uh HNx],Uh HN⟩,by simp [intOf]; omega⟩
     ·obtain rfl:mq = 0:=by omega
      have t11:(0:Int) < (r:Int):=by omega
      go_wp2_with (at_builtin; refine wpList_append_lies _ rfl _ _ 104 rfl w.heap.size 5 i80 (.int .u8 0) 1 1 Tryz.underlying104 (Uh I80).1 (Uh I80).2.1 (Uh I80).2.2.1 (Uh I80).2.2.2 rfl (by decide) _ (k + i) _ rfl ((Uh HI).own.own.alloc _) ⟨wr.heap.size,0,none⟩ 1 1 [.int .u8 (z:Nat)] rfl rfl (World.news_of_block (alloc_block _ _)) one_int (by decide) ?c31 ?c41 ?c51 (wr.heap.size + 1) (by simp) ?_)
      case c31 => unfold maxLen; omega
      case c41 => omega
      case c51 => have:=Uh HSz; simp; omega
      intro g1 cc w4 hown hgrow hat hlt2
      have HN:=Hd (show DgS w4 w V (.slice (some ⟨g1,0,none⟩) (k + i + 1) cc) (k + (i + 1)) Q1 aq 0 cq from ⟨(Uh HI).own.step (Uh HPD).1 (by rw [Uh HCH]; exact hown) hgrow,((Uh HI).far.step (k2:=k + i + 1) (c2:=cc) (Uh HI).sl hgrow hat).1,((Uh HI).far.step (k2:=k + i + 1) (c2:=cc) (Uh HI).sl hgrow hat).2⟩)
      clear hown hgrow hat hlt2
      go_wp2_with fail
      exact ⟨⟨i + 1,by omega,by go_num,by rw [← Uh HNx],Uh HN⟩,by simp [intOf]; omega⟩
    ·have HE:=Hd (Uh HEnd (by
      rcases hex with e | ⟨e1,e2⟩
      ·exact .inl e
      ·refine .inr ⟨?_,e2⟩
       rcases Nat.eq_zero_or_pos Q1 with g | g
       ·exact g
       ·have:=(Uh HMQ).2 g; omega))
     clear HEnd HDp HNx
     by_cases h9:i < 9
     ·have t9:(i:Int) < 9:=by omega
      obtain ⟨rfl,rfl⟩:mq = 0 ∧ r = 0:=by omega
      go_wp2_with fail
      go_roundg Q1
      case measure => exact Nat.lt_of_lt_of_le (Uh HQb).2 hgq
      case rel => exact ⟨k + i,Q1,aq,0,cq,rfl,Nat.le_refl _,Uh HE,Uh HI⟩
     ·obtain rfl:i = 9:=by omega
      go_wp2_with fail
      go_roundg Q1
      case measure => exact Nat.lt_of_lt_of_le (Uh HQb).2 hgq
      case rel => exact ⟨k + 9,Q1,aq,mq,cq,rfl,Nat.le_refl _,Uh HE,Uh HI⟩

set_option maxHeartbeats 4000000 in
theorem wdigits_any (a:Option Addr) (n c V:Nat) (w:World) (h:Sl w a n c (limbs V)) (hn:n ≤ 100000) :
  Calls Tryz.prog 30 #[.slice a n c] w fun e w' => ∃ k,TxtOf V 10 k ∧ e = .returned (.string (strB (txtL V 10 k))) ∧ Below w.heap.size w w':=by
 rcases Nat.eq_zero_or_pos V with e | e
 ·subst e
  have hl:=h.len
  rw [limbs_zero] at hl
  simp at hl
  subst hl
  have HX:=Hd (show strB [48] = strB (txtL 0 10 1) by rw [txtL_zero])
  clear h
  go_enter Tryz.func30,Tryz.ntmps30
  go_wp2_with fail
  go_ret
  exact ⟨1,txt_zero (by decide),by rw [← Uh HX]; rfl,Below.refl _ _⟩
 ·exact wdigits_pos a n c V w h e hn
end Go.Proofs.YtncolonhdjkglaaGreatDoor
