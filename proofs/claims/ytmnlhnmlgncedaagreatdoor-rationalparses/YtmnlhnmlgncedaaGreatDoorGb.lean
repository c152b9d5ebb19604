/- Wr5 -/
import Derived.Test.YtmnlhnmlgncedaaGreatDoorWr4
import Derived.Test.YtmnlhnmlgncedaaGreatDoorPa2
import Derived.Test.YtmnlhnmlgncedaaGreatDoorWr9
import Derived.Test.YtmnlhnmlgncedaaGreatDoorWr2
import Derived.Test.YtmnlhnmlgncedaaGreatDoorBase
import Derived.Test.YtmnlhnmlgncedaaGreatDoorKarS
import Derived.Test.YtmnlhnmlgncedaaGreatDoorDv2
namespace Go.Proofs.YtmnlhnmlgncedaaGreatDoor
open Go.RowKit Go.Deep
set_option linter.unusedVariables false
set_option maxHeartbeats 4000000 in
theorem wmulw_any (a1 a2:Option Addr) (n1 c1 n2 c2:Nat) (xs ys:List Nat) (w:World) (h1:Sl w a1 n1 c1 xs) (h2:Sl w a2 n2 c2 ys) (ox:Ok xs) (oy:Ok ys) (hb:n1 + n2 ≤ 1000000000) :
  Calls Tryz.prog 111 #[.slice a1 n1 c1,.slice a2 n2 c2] w fun e w' => NewL w w' (val xs * val ys) e:=by
 have hmk:=make_sum n1 n2 (by omega)
 have bel0:=(Below.refl w.heap.size w).alloc (Nat.le_refl _) (.cells (madeCells #[.int .u32 0] (n1 + n2)) 84)
 have HL1:=Hj h1.len
 have HL2:=Hj h2.len
 have HN1:=Hj (fun (hne:xs ≠ []) => h1.block_lt hne)
 have HN2:=Hj (fun (hne:ys ≠ []) => h2.block_lt hne)
 have S1:=Hj (h1.below bel0)
 have S2:=Hj (h2.below bel0)
 have HB:=Hj bel0
 have hR0:RowsR (w.alloc (.cells (madeCells #[.int .u32 0] (n1 + n2)) 84)) (w.alloc (.cells (madeCells #[.int .u32 0] (n1 + n2)) 84)) w.heap.size 0 (n1 + n2) ys xs 0 (fun _ => 0):=⟨Fn.made w (n1 + n2) 84,fun _ _ => by decide,fun _ _ _ => rfl,by simp [valF,valF_zero],Upd.refl _ _ _ _⟩
 have HR0:=Hj hR0
 clear h1 h2 bel0 hR0
 go_enter Tryz.func111,Tryz.ntmps111
 go_wp2_with fail
 generalize hw0:(w.alloc (.cells (madeCells #[.int .u32 0] (n1 + n2)) 84)) = w0 at *
 have HW0:=Hj hw0
 clear hw0
 go_loopw [6] (fun i wr => ∃ k:Nat,∃ f:Nat → Nat,k ≤ n1 ∧ i = .int .i64 k ∧ RowsR wr w0 w.heap.size 0 (n1 + n2) ys xs k f) (fun i _ => n1 - (intOf i).toNat)
 case atStart => exact ⟨0,_,Nat.zero_le _,rfl,Uh HR0⟩
 case round =>
  clear HR0
  obtain ⟨k,f,hk,rfl,hR⟩:=hrel
  by_cases hlt:k < n1
  ·have hlt':(k:Int) < (n1:Int):=by omega
   have hX:=ox.getD k
   have hxne:xs ≠ []:=by intro e; have:=Uh HL1; rw [e] at this; simp at this; omega
   obtain ⟨b1,o1,rfl,hx⟩:=(Uh S1).cells.resolve_left hxne
   have hb1:b1 < w.heap.size:=Uh HN1 hxne _ rfl
   have HX1:=Hj hx
   obtain ⟨wo,rfl⟩:∃ wo:World,wo = wr:=⟨_,rfl⟩
   have HR:=Hj hR
   clear hR hx hxne S1 HN1
   go_wp2_with fail
   go_loopw [7,8] (fun cv jv wr => ∃ j c:Nat,∃ g:Nat → Nat,j ≤ n2 ∧ jv = .int .i64 j ∧ cv = .int .u64 (c:Nat) ∧ RowR wr w0 w.heap.size 0 (n1 + n2) f k (xs.getD k 0) ys j c g) (fun _ jv _ => n2 - (intOf jv).toNat)
   case atStart => exact ⟨0,0,f,Nat.zero_le _,rfl,rfl,(Uh HR).begin _⟩
   case round =>
    obtain ⟨j,c,g,hj,rfl,rfl,hQ⟩:=hrel
    have hc0:=hQ.cle
    by_cases hjl:j < n2
    ·have hjl':(j:Int) < (n2:Int):=by omega
     have hjl2:(k:Int) + (j:Int) < (n1:Int) + (n2:Int):=by omega
     have hyne:ys ≠ []:=by intro e; have:=Uh HL2; rw [e] at this; simp at this; omega
     obtain ⟨b2,o2,rfl,hy⟩:=(Uh S2).cells.resolve_left hyne
     have hb2:b2 < w.heap.size:=Uh HN2 hyne _ rfl
     have g1:=hQ.upd.cells (Uh HX1) (.inl (by omega)) k (by rw [Uh HL1]; exact hlt)
     have g2:=hQ.upd.cells hy (.inl (by omega)) j (by rw [Uh HL2]; exact hjl)
     have g3:=(hQ.fn (k + j) (by omega)).1
     have g4:=(hQ.fn (k + j) (by omega)).2
     rw [Nat.zero_add] at g3 g4
     have by':=oy.getD j
     have br:=hQ.ok (k + j) (by omega)
     have HS0:=hQ.step (by omega) by' hX
     rw [Nat.zero_add] at HS0
     have HS:=Hj HS0
     clear HS0
     have mb:((xs.getD k 0:Nat):Int) * ((ys.getD j 0:Nat):Int) ≤ 18446744065119617025:=by
      have:=mul_bound hX by'
      rw [← Int.natCast_mul]; omega
     have mb0:0 ≤ ((xs.getD k 0:Nat):Int) * ((ys.getD j 0:Nat):Int):=Int.mul_nonneg (by omega) (by omega)
     have e1:=mdl_int (ys.getD j 0) (xs.getD k 0) (g (k + j)) c
     have e2:=mdh_int (ys.getD j 0) (xs.getD k 0) (g (k + j)) c
     rw [Int.mul_comm] at e1 e2
     have e0:(c:Int) + ((xs.getD k 0:Nat):Int) * ((ys.getD j 0:Nat):Int) + (g (k + j):Nat) = ((xs.getD k 0:Nat):Int) * ((ys.getD j 0:Nat):Int) + (g (k + j):Nat) + c:=by omega
     rw [← e0] at e1 e2
     clear e0
     generalize ys.getD j 0 = y at g2 by' HS mb mb0 e1 e2
     generalize hyy:xs.getD k 0 = x at g1 HS mb mb0 e1 e2 hX
     have HY:=Hj hyy
     generalize g (k + j) = r at g3 br HS e1 e2
     clear hQ hyy hy hyne S2 HN2
     go_wp2_with fail
     go_quiet (fail)
     go_wp2
     exact ⟨⟨j + 1,_,_,by omega,by go_num,rfl,(Uh HS).drewN _⟩,by simp [intOf]; omega⟩
    ·have hjn:j = n2:=by omega
     subst hjn
     have hjl':¬ (j:Int) < (j:Int):=by omega
     have hjl3:(k:Int) + (j:Int) < (n1:Int) + (j:Int):=by omega
     have g3:=(hQ.fn (k + j) (by omega)).1
     have g4:=(hQ.fn (k + j) (by omega)).2
     rw [Nat.zero_add] at g3 g4
     have HS:=rows_step (Uh HL2) (Uh HR) hQ (by omega)
     rw [Nat.zero_add] at HS
     have HS':=Hj HS
     generalize ((g (k + j):Nat):Int) = r at g3
     clear hQ HS HR
     go_wp2
     exact ⟨⟨k + 1,_,by omega,by go_num,Uh HS'⟩,by simp [intOf]; omega⟩
  ·have hkn:k = n1:=by omega
   have hv:valF f (n1 + n2) = val xs * val ys:=by
    have hv:=hR.val
    rw [hkn,Uh HL2] at hv
    rw [hv,← Uh HL1,valF_list,Nat.mul_comm]
   have HR:=Hj (And.intro hR hv)
   clear hR hv hkn
   have K:=wnorm_sl (some ⟨w.heap.size,0,none⟩) (n1 + n2) (n1 + n2) _ wr ((Uh HR).1.fn.sl (Nat.le_refl _) (by unfold maxLen; omega)) (by intro e; cases e) (lst_ok (Uh HR).1.ok)
   rw [lst_val,(Uh HR).2] at K
   have HK:=Hj K
   clear K
   go_wp2_with fail
   refine (Uh HK).mono ?_
   rintro e w' ⟨m,rfl,hm,hO,hw⟩
   obtain rfl:=hw.symm
   have HO:=Hj hO
   clear hO hw HK
   go_wp2_with fail
   go_ret
   exact ⟨_,_,_,rfl,Uh HO,fun x hx => by cases hx; exact Nat.le_refl _,(by intro e; cases e),(Uh HB).trans ((Uh HR).1.upd.below (Nat.le_refl _) (Uh HB).size)⟩
theorem ten_lt {v n:Nat} (h:v ≤ 10 ^ n):v < 4294967296 ^ (n + 1):=by
 have h1:10 ^ n ≤ 4294967296 ^ n:=Nat.pow_le_pow_left (by decide) n
 have h2:4294967296 ^ n < 4294967296 ^ (n + 1):=Nat.pow_lt_pow_right (by decide) (Nat.lt_succ_self n)
 omega
theorem ten_len {v n:Nat} (h:v ≤ 10 ^ n):(limbs v).length ≤ n + 1:=limbs_len (ten_lt h)

structure TnR (wr w:World) (n j X Y:Nat) (ax:Option Addr) (mx cx:Nat) (ab:Option Addr) (mb cb:Nat):Prop where
 sx:Sl wr ax mx cx (limbs X)
 sb:Sl wr ab mb cb (limbs Y)
 nx:NewAt w.heap.size ax
 zx:ax = none → cx = 0
 eq:X * Y ^ j = 10 ^ n
 bel:Below w.heap.size w wr
theorem TnR.bx {wr w:World} {n j X Y:Nat} {ax:Option Addr} {mx cx:Nat} {ab:Option Addr} {mb cb:Nat} (h:TnR wr w n j X Y ax mx cx ab mb cb):X ≤ 10 ^ n ∧ (0 < j → X * Y ≤ 10 ^ n ∧ Y ≤ 10 ^ n):=by
 have hp:0 < 10 ^ n:=Nat.pow_pos (by decide)
 have he:=h.eq
 have hX:0 < X:=by
  rcases Nat.eq_zero_or_pos X with e | e
  ·rw [e,Nat.zero_mul] at he; omega
  ·exact e
 have hY:0 < Y ^ j:=by
  rcases Nat.eq_zero_or_pos (Y ^ j) with e | e
  ·rw [e,Nat.mul_zero] at he; omega
  ·exact e
 refine ⟨by rw [← he]; exact Nat.le_mul_of_pos_right _ hY,fun hj => ?_⟩
 have hY0:0 < Y:=by
  rcases Nat.eq_zero_or_pos Y with e | e
  ·rw [e,Nat.zero_pow hj] at hY; omega
  ·exact e
 obtain ⟨i,rfl⟩:∃ i,j = i + 1:=⟨j - 1,by omega⟩
 have h1:X * Y ≤ 10 ^ n:=by
  rw [← he,Nat.pow_succ,Nat.mul_comm (Y ^ i) Y,← Nat.mul_assoc]
  exact Nat.le_mul_of_pos_right _ (Nat.pow_pos hY0)
 exact ⟨h1,Nat.le_trans (Nat.le_mul_of_pos_left _ hX) h1⟩

set_option maxRecDepth 100000 in
set_option maxHeartbeats 8000000 in
theorem wten_any (n:Nat) (hn:n ≤ 100000) (w:World) :
  Calls Tryz.prog 113 #[.int .i64 (n:Nat)] w fun e w' => NewL w w' (10 ^ n) e:=by
 obtain ⟨wa,hwa⟩:∃ x,w.alloc (.cells #[.int .u32 1] 84) = x:=⟨_,rfl⟩
 obtain ⟨wb,hwb⟩:∃ x,wa.alloc (.cells #[.int .u32 10] 84) = x:=⟨_,rfl⟩
 have ba:Below w.heap.size w wa:=by rw [← hwa]; exact bAl
 have bb:Below wa.heap.size wa wb:=by rw [← hwb]; exact bAl
 have s1:Sl wa (some ⟨w.heap.size,0,none⟩) 1 1 (limbs 1):=by rw [← hwa,show limbs 1 = [1] from rfl]; exact one_sl w 1 _
 have s2:Sl wb (some ⟨wa.heap.size,0,none⟩) 1 1 (limbs 10):=by rw [← hwb,show limbs 10 = [10] from rfl]; exact one_sl wa 10 _
 have HR0:=Hj (show TnR wb w n n 1 10 (some ⟨w.heap.size,0,none⟩) 1 1 (some ⟨wa.heap.size,0,none⟩) 1 1 from ⟨s1.below bb,s2,fun x hx => by cases hx; exact Nat.le_refl _,fun h => by (cases h),by simp,ba.trans (bb.mono ba.size)⟩)
 clear ba bb s1 s2
 go_enter Tryz.func113,Tryz.ntmps113
 go_wp2_with fail
 go_loopw [0,3,4] (fun nv xv bv wr => ∃ j X Y:Nat,∃ ax mx cx ab mb cb,j ≤ n ∧ nv = .int .i64 (j:Nat) ∧ xv = .slice ax mx cx ∧ bv = .slice ab mb cb ∧ Hid (TnR wr w n j X Y ax mx cx ab mb cb)) (fun nv _ _ _ => (intOf nv).toNat)
 case atStart => exact ⟨n,1,10,_,_,_,_,_,_,Nat.le_refl _,rfl,rfl,rfl,Uh HR0⟩
 case round =>
  clear HR0
  obtain ⟨j,X,Y,ax,mx,cx,ab,mb,cb,hj,rfl,rfl,rfl,HR⟩:=hrel
  rcases Nat.eq_zero_or_pos j with e | e
  ·subst e
   go_wp2_with fail
   go_ret
   have h:=Uh HR
   have he:=h.eq
   rw [Nat.pow_zero,Nat.mul_one] at he
   exact ⟨_,_,_,rfl,by rw [← he]; exact h.sx,h.nx,h.zx,h.bel⟩
  ·have t0:(0:Int) < (j:Int):=by omega
   have hb:=(Uh HR).bx
   have l1:=ten_len hb.1
   have l2:=ten_len (hb.2 e).2
   rw [(Uh HR).sx.len] at l1
   rw [(Uh HR).sb.len] at l2
   have e1:(j:Int).tmod 2 = ((j % 2:Nat):Int):=rfl
   have e2:(j:Int) % 2 = ((j % 2:Nat):Int):=rfl
   have e3:(j:Int).tdiv 2 = ((j / 2:Nat):Int):=rfl
   have e4:(j:Int) / 2 = ((j / 2:Nat):Int):=rfl
   have hm:j % 2 = 0 ∨ j % 2 = 1:=by omega
   have hlt:j / 2 < j:=by omega
   have hY2:(Y * Y) ^ (j / 2) = Y ^ (2 * (j / 2)):=by rw [Nat.pow_mul,Nat.pow_two]
   have HJ:=Hj (show j = 2 * (j / 2) + j % 2 by omega)
   rcases hm with hm | hm
   ·rw [hm] at e1 e2
    have K2:=wmulw_any ab ab mb cb mb cb (limbs Y) (limbs Y) wr (Uh HR).sb (Uh HR).sb (limbs_ok Y) (limbs_ok Y) (by omega)
    rw [limbs_v] at K2
    have K2':=Hj K2
    have HE:=Hj (show X * (Y * Y) ^ (j / 2) = 10 ^ n by rw [hY2,← (Uh HR).eq]; congr 2; have:=Uh HJ; omega)
    generalize j / 2 = j2 at *
    clear K2 hY2 l1 l2 hb
    go_wp2_with fail
    refine (Uh K2').mono ?_
    rintro _ w2 ⟨a2,m2,c2,rfl,s2,n2,z2,b2⟩
    have h:=Uh HR
    have HN:=Hj (show TnR w2 w n j2 X (Y * Y) ax mx cx a2 m2 c2 from ⟨h.sx.below b2,s2,h.nx,h.zx,Uh HE,h.bel.trans (b2.mono h.bel.size)⟩)
    clear h s2 n2 z2 b2 K2' HR
    go_wp2_with fail
    exact ⟨⟨j2,X,Y * Y,_,_,_,_,_,_,by omega,by go_num,rfl,rfl,Uh HN⟩,by simp [intOf]; omega⟩
   ·rw [hm] at e1 e2
    have K1:=wmulw_any ax ab mx cx mb cb (limbs X) (limbs Y) wr (Uh HR).sx (Uh HR).sb (limbs_ok X) (limbs_ok Y) (by omega)
    rw [limbs_v,limbs_v] at K1
    have K1':=Hj K1
    have HE:=Hj (show X * Y * (Y * Y) ^ (j / 2) = 10 ^ n by
     rw [hY2,← (Uh HR).eq,Nat.mul_assoc]
     congr 1
     have h1:=Uh HJ
     rw [hm] at h1
     conv => rhs; rw [h1,Nat.pow_succ,Nat.mul_comm])
    have hl2:mb + mb ≤ 1000000000:=by omega
    generalize j / 2 = j2 at *
    clear K1 hY2 l1 l2 hb
    go_wp2_with fail
    refine (Uh K1').mono ?_
    rintro _ w1 ⟨a1,m1,c1,rfl,s1,n1,z1,b1⟩
    have K2:=wmulw_any ab ab mb cb mb cb (limbs Y) (limbs Y) w1 ((Uh HR).sb.below b1) ((Uh HR).sb.below b1) (limbs_ok Y) (limbs_ok Y) hl2
    rw [limbs_v] at K2
    have K2':=Hj K2
    have H1:=Hj (And.intro s1 (And.intro n1 (And.intro z1 b1)))
    clear K2 s1 n1 z1 b1 K1'
    go_wp2_with fail
    refine (Uh K2').mono ?_
    rintro _ w2 ⟨a2,m2,c2,rfl,s2,n2,z2,b2⟩
    have h:=Uh HR
    obtain ⟨s1,n1,z1,b1⟩:=Uh H1
    have hB:=h.bel.trans (b1.mono h.bel.size)
    have HN:=Hj (show TnR w2 w n j2 (X * Y) (Y * Y) a1 m1 c1 a2 m2 c2 from ⟨s1.below b2,s2,fun x hx => Nat.le_trans h.bel.size (n1 x hx),z1,Uh HE,hB.trans (b2.mono hB.size)⟩)
    clear h s1 n1 z1 b1 s2 n2 z2 b2 hB K2' HR
    go_wp2_with fail
    exact ⟨⟨j2,X * Y,Y * Y,_,_,_,_,_,_,by omega,by go_num,rfl,rfl,Uh HN⟩,by simp [intOf]; omega⟩
theorem tz_and:∀ (f x:Nat),0 < x → x < 2 ^ f → x &&& (2 ^ f - x) = 2 ^ Lib.ntzAux f x
 | 0,x,h0,h => by simp at h; omega
 | f + 1,x,h0,h => by
  have hp:2 ^ (f + 1) = 2 * 2 ^ f:=by rw [Nat.pow_succ,Nat.mul_comm]
  have hq:=Nat.two_pow_pos f
  rw [hp] at h ⊢
  have hd:=Nat.div_add_mod (x &&& (2 * 2 ^ f - x)) 2
  have hm:=and_m2 x (2 * 2 ^ f - x)
  rw [Nat.and_div_two] at hd
  simp only [Lib.ntzAux]
  rcases Nat.mod_two_eq_zero_or_one x with e | e
  ·rw [if_neg (by omega)]
   have e1:(2 * 2 ^ f - x) / 2 = 2 ^ f - x / 2:=by omega
   rw [e1,tz_and f (x / 2) (by omega) (by omega)] at hd
   rw [e,Nat.zero_mul] at hm
   rw [show 1 + Lib.ntzAux f (x / 2) = Lib.ntzAux f (x / 2) + 1 from by omega,Nat.pow_succ]
   omega
  ·rw [if_pos e]
   have e1:(2 * 2 ^ f - x) / 2 = 2 ^ f - 1 - x / 2:=by omega
   have e2:(2 * 2 ^ f - x) % 2 = 1:=by omega
   have e3:=and_not_add f (x / 2) (x / 2) (by omega) (by omega)
   rw [Nat.and_self] at e3
   rw [e1] at hd
   rw [e,e2] at hm
   simp only [Nat.pow_zero]
   omega

theorem tz_lt:∀ (f x:Nat),0 < x → x < 2 ^ f → Lib.ntzAux f x < f
 | 0,x,h0,h => by simp at h; omega
 | f + 1,x,h0,h => by
  rw [Nat.pow_succ] at h
  simp only [Lib.ntzAux]
  split
  ·omega
  ·have:=tz_lt f (x / 2) (by omega) (by omega)
   omega

theorem tz_bit:∀ (f x:Nat),0 < x → x < 2 ^ f → x / 2 ^ Lib.ntzAux f x % 2 = 1 ∧ ∀ s,s < Lib.ntzAux f x → x / 2 ^ s % 2 = 0
 | 0,x,h0,h => by simp at h; omega
 | f + 1,x,h0,h => by
  rw [Nat.pow_succ] at h
  simp only [Lib.ntzAux]
  split
  ·rename_i e
   exact ⟨by simpa using e,fun s hs => by omega⟩
  ·rename_i e
   have:=tz_bit f (x / 2) (by omega) (by omega)
   refine ⟨?_,?_⟩
   ·rw [show 1 + Lib.ntzAux f (x / 2) = Lib.ntzAux f (x / 2) + 1 from by omega,Nat.pow_succ,Nat.mul_comm,← Nat.div_div_eq_div_mul]
    exact this.1
   ·intro s hs
    cases s with
    | zero => simp; omega
    | succ s =>
     rw [Nat.pow_succ,Nat.mul_comm,← Nat.div_div_eq_div_mul]
     exact this.2 s (by omega)

theorem p32:(2:Nat) ^ 32 = 4294967296:=by decide
end Go.Proofs.YtmnlhnmlgncedaaGreatDoor
namespace Go.Proofs.YtmnlhnmlgncedaaGreatDoor
set_option linter.unusedVariables false
def Dif (o:Bool) (p q A B r:Nat):Prop:=if o then r + q * B = p * A else r + p * A = q * B
theorem dif_true {p q A B r:Nat}:Dif true p q A B r ↔ r + q * B = p * A:=Iff.rfl
theorem dif_false {p q A B r:Nat}:Dif false p q A B r ↔ r + p * A = q * B:=by simp [Dif]

theorem top_mul (K p X α:Nat):p * (K * X + α) = K * (p * X) + p * α:=by rw [Nat.mul_add,← Nat.mul_assoc,Nat.mul_comm p K,Nat.mul_assoc]

theorem dif_top {o:Bool} {p q X Y r A B K α β:Nat} (h:Dif o p q X Y r) (hA:A = K * X + α) (hB:B = K * Y + β) (ha:α < K) (hb:β < K) (hpq:p ≤ q) (hq:q ≤ r):∃ R,Dif o p q A B R ∧ (1 ≤ q → 1 ≤ R):=by
 have h1:K * q ≤ K * r:=Nat.mul_le_mul_left K hq
 have h2:p * α ≤ q * α:=Nat.mul_le_mul_right α hpq
 have h3:q * α ≤ q * K:=Nat.mul_le_mul_left q (Nat.le_of_lt ha)
 have h4:q * β ≤ q * K:=Nat.mul_le_mul_left q (Nat.le_of_lt hb)
 have h5:q * K = K * q:=Nat.mul_comm _ _
 have h6:1 ≤ q → q * α < q * K:=fun h => Nat.mul_lt_mul_of_pos_left ha h
 have h7:1 ≤ q → q * β < q * K:=fun h => Nat.mul_lt_mul_of_pos_left hb h
 subst hA hB
 cases o
 ·rw [dif_false] at h
  have e:K * r + K * (p * X) = K * (q * Y):=by rw [← Nat.mul_add,h]
  refine ⟨K * r + q * β - p * α,?_,?_⟩
  ·rw [dif_false,top_mul,top_mul]; omega
  ·intro h0; have:=h6 h0; omega
 ·rw [dif_true] at h
  have e:K * r + K * (q * Y) = K * (p * X):=by rw [← Nat.mul_add,h]
  refine ⟨K * r + p * α - q * β,?_,?_⟩
  ·rw [dif_true,top_mul,top_mul]; omega
  ·intro h0; have:=h7 h0; omega

theorem dif_sub {o:Bool} {u1 v1 u2 v2 A B r s d:Nat} (h1:Dif o u1 v1 A B r) (h2:Dif (!o) u2 v2 A B s):Dif o (u1 + u2) (v1 + v2) A B d ↔ d + s = r:=by
 cases o
 ·rw [dif_false] at *
  rw [show (!false) = true from rfl,dif_true] at h2
  rw [Nat.add_mul,Nat.add_mul]
  omega
 ·rw [dif_true] at *
  rw [show (!true) = false from rfl,dif_false] at h2
  rw [Nat.add_mul,Nat.add_mul]
  omega

theorem dif_step {o:Bool} {u1 v1 u2 v2 A B x y q z:Nat} (h1:Dif o u1 v1 A B x) (h2:Dif (!o) u2 v2 A B y) (hz:z + q * y = x):Dif o (u1 + q * u2) (v1 + q * v2) A B z:=by
 have e:∀ (p C:Nat),(q * p) * C = q * (p * C):=fun p C => Nat.mul_assoc _ _ _
 cases o
 ·rw [dif_false] at *
  rw [show (!false) = true from rfl,dif_true] at h2
  have e2:q * y + q * (v2 * B) = q * (u2 * A):=by rw [← Nat.mul_add,h2]
  rw [Nat.add_mul,Nat.add_mul,e,e]
  omega
 ·rw [dif_true] at *
  rw [show (!true) = false from rfl,dif_false] at h2
  have e2:q * y + q * (u2 * A) = q * (v2 * B):=by rw [← Nat.mul_add,h2]
  rw [Nat.add_mul,Nat.add_mul,e,e]
  omega

structure Whole (A B:Nat) (o:Bool) (u0 u1 u2 v0 v1 v2 R0 R1 q:Nat):Prop where
 d0:Dif (!o) u0 v0 A B R0
 d1:Dif o u1 v1 A B R1
 lt:R1 < R0
 gcd:Nat.gcd R0 R1 = Nat.gcd A B
 leB:R1 ≤ B
 le0:v0 ≠ 0 → R0 ≤ B
 u2e:u2 = u0 + q * u1
 v2e:v2 = v0 + q * v1

structure Leh (A B X Y:Nat) (o:Bool) (u0 u1 u2 v0 v1 v2 x y:Nat):Prop where
 hx:Dif o u1 v1 X Y x
 hy:Dif (!o) u2 v2 X Y y
 le1:u1 + u2 ≤ v1 + v2
 le2:u2 ≤ v2
 pos:1 ≤ v2
 idn:x * v2 + y * v1 = X
 yx:y ≤ x
 bu0:u0 < 4294967296
 bu1:u1 < 4294967296
 bv0:v0 < 4294967296
 bv1:v1 < 4294967296
 st:(v1 = 0 ∧ v0 = 0 ∧ o = true ∧ u1 = 1 ∧ u2 = 0 ∧ v2 = 1) ∨ (1 ≤ v1 ∧ ∃ R0 R1 q,Whole A B o u0 u1 u2 v0 v1 v2 R0 R1 q)

theorem Leh.start {A B X Y:Nat} (h:Y ≤ X):Leh A B X Y true 0 1 0 0 0 1 X Y :=
 ⟨by rw [dif_true]; simp,by rw [show (!true) = false from rfl,dif_false]; simp,by omega,by omega,by omega,by simp,h,by decide,by decide,by decide,by decide,.inl ⟨rfl,rfl,rfl,rfl,rfl,rfl⟩⟩

theorem sq_lt {v x X:Nat} (h1:v < x) (h2:x * v ≤ X) (h3:X < 18446744073709551616):v < 4294967296:=by
 rcases Nat.lt_or_ge v 4294967296 with h | h
 ·exact h
 ·exfalso
  have:4294967296 * 4294967296 ≤ x * v:=Nat.mul_le_mul (by omega) h
  omega

theorem gcd_step {a b c q:Nat} (h:c + q * b = a):Nat.gcd b c = Nat.gcd a b:=by
 rw [← h,Nat.gcd_comm (c + q * b) b,Nat.mul_comm q b,Nat.gcd_add_mul_left_right]

theorem Leh.step {A B X Y K α β:Nat} {o:Bool} {u0 u1 u2 v0 v1 v2 x y:Nat} (h:Leh A B X Y o u0 u1 u2 v0 v1 v2 x y) (hA:A = K * X + α) (hB:B = K * Y + β) (ha:α < K) (hb:β < K) (hX:X < 18446744073709551616) (hBA:B ≤ A)
  (c1:v2 ≤ y) (c2:v1 + v2 ≤ x - y):Leh A B X Y (!o) u1 u2 (u1 + x / y * u2) v1 v2 (v1 + x / y * v2) y (x - x / y * y):=by
 have hy1:1 ≤ y:=Nat.le_trans h.pos c1
 have hxy:y < x:=by have:=h.pos; omega
 have hdm:=Nat.div_add_mod x y
 have hml:=Nat.mod_lt x hy1
 rw [Nat.mul_comm] at hdm
 have hq1:1 ≤ x / y:=(Nat.le_div_iff_mul_le hy1).2 (by omega)
 have hxv:x * v2 ≤ X:=by have:=h.idn; omega
 have hv2:v2 < 4294967296:=sq_lt (v:=v2) (x:=x) (by omega) hxv hX
 generalize x / y = q at *
 have hz:(x - q * y) + q * y = x:=by omega
 obtain ⟨R2,hR2,hR2p⟩:=dif_top h.hy hA hB ha hb h.le2 c1
 have hdxy:Dif o (u1 + u2) (v1 + v2) X Y (x - y):=(dif_sub h.hx h.hy).2 (by omega)
 obtain ⟨Rd,hRd,hRdp⟩:=dif_top hdxy hA hB ha hb h.le1 c2
 have hRdp':=hRdp (by have:=h.pos; omega)
 have hqv:q * v2 = v2 + (q - 1) * v2:=by
  rw [Nat.sub_mul,Nat.one_mul]
  have:1 * v2 ≤ q * v2:=Nat.mul_le_mul_right v2 hq1
  omega
 have hqu:q * u2 = u2 + (q - 1) * u2:=by
  rw [Nat.sub_mul,Nat.one_mul]
  have:1 * u2 ≤ q * u2:=Nat.mul_le_mul_right u2 hq1
  omega
 have hquv:(q - 1) * u2 ≤ (q - 1) * v2:=Nat.mul_le_mul_left _ h.le2
 refine ⟨h.hy,by rw [Bool.not_not]; exact dif_step h.hx h.hy hz,?_,?_,?_,?_,by omega,h.bu1,by have:=h.le2; omega,h.bv1,hv2,?_⟩
 ·have:=h.le1; have:=h.le2; omega
 ·have:=h.le1; have:=h.le2; omega
 ·have:=h.pos; omega
 ·have e1:y * (v1 + q * v2) + (x - q * y) * v2 = X:=by
   rw [Nat.mul_add,Nat.sub_mul,← Nat.mul_assoc y q,Nat.mul_comm y q]
   have hle:q * y * v2 ≤ x * v2:=Nat.mul_le_mul_right v2 (by omega)
   have:=h.idn
   omega
  exact e1
 ·right
  refine ⟨h.pos,?_⟩
  rcases h.st with ⟨s1,s2,s3,s4,s5,s6⟩ | ⟨s1,R0,R1,q0,W⟩
  ·subst s1 s2 s3 s4 s5 s6
   have hRB:R2 = B:=by rw [show (!true) = false from rfl,dif_false] at hR2; omega
   subst hRB
   have hRA:Dif true 1 0 A R2 A:=by rw [dif_true]; simp
   have hlt:=(dif_sub hRA hR2).1 hRd
   exact ⟨A,R2,q,by rw [Bool.not_not]; exact hRA,hR2,by omega,rfl,Nat.le_refl _,by simp,rfl,rfl⟩
  ·have hlt:=(dif_sub W.d1 hR2).1 hRd
   have hR:R2 + q0 * R1 = R0:=by
    have hz2:∃ z,z + q0 * R1 = R0 ∨ R0 + z = q0 * R1:=by
     rcases Nat.le_total (q0 * R1) R0 with k | k
     ·exact ⟨R0 - q0 * R1,.inl (by omega)⟩
     ·exact ⟨q0 * R1 - R0,.inr (by omega)⟩
    have e:∀ (p C:Nat),(q0 * p) * C = q0 * (p * C):=fun p C => Nat.mul_assoc _ _ _
    have d0:=W.d0
    have d1:=W.d1
    rw [W.u2e,W.v2e] at hR2
    cases o
    ·rw [show (!false) = true from rfl,dif_true] at d0 hR2
     rw [dif_false] at d1
     have e2:q0 * R1 + q0 * (u1 * A) = q0 * (v1 * B):=by rw [← Nat.mul_add,d1]
     rw [Nat.add_mul,Nat.add_mul,e,e] at hR2
     omega
    ·rw [show (!true) = false from rfl,dif_false] at d0 hR2
     rw [dif_true] at d1
     have e2:q0 * R1 + q0 * (v1 * B) = q0 * (u1 * A):=by rw [← Nat.mul_add,d1]
     rw [Nat.add_mul,Nat.add_mul,e,e] at hR2
     omega
   exact ⟨R1,R2,q,by rw [Bool.not_not]; exact W.d1,hR2,by omega,(gcd_step hR).trans W.gcd,by have:=W.leB; omega,fun _ => W.leB,rfl,rfl⟩
open Go.RowKit Go.Deep
set_option linter.unusedVariables false

def topN (xs:List Nat) (n s:Nat):Nat:=(xs.getD (n - 2) 0 + 4294967296 * xs.getD (n - 1) 0) * 2 ^ s + xs.getD (n - 3) 0 / 2 ^ (32 - s)

theorem top_arith {L P S l m t:Nat} (hPS:P * S = 4294967296):L + (l + 4294967296 * (m + 4294967296 * t)) = P * ((m + 4294967296 * t) * S + l / P) + (L + l % P):=by
 have h1:=Nat.div_add_mod l P
 have e:P * ((m + 4294967296 * t) * S) = 4294967296 * (m + 4294967296 * t):=by rw [Nat.mul_comm (m + 4294967296 * t) S,← Nat.mul_assoc,hPS]
 have e2:P * ((m + 4294967296 * t) * S + l / P) = P * ((m + 4294967296 * t) * S) + P * (l / P):=Nat.mul_add _ _ _
 rw [e2,e]
 omega

theorem top_val {xs:List Nat} {n s:Nat} (ox:Ok xs) (hl:xs.length ≤ n) (hn:3 ≤ n) (hs:s ≤ 31) :
  ∃ α,val xs = 2 ^ (32 * (n - 3) + (32 - s)) * topN xs n s + α ∧ α < 2 ^ (32 * (n - 3) + (32 - s)):=by
 have e1:=valF_add (fun i => xs.getD i 0) (n - 3) 3
 rw [show n - 3 + 3 = n from by omega,valF_ge xs n hl] at e1
 simp only [valF,Nat.pow_zero,Nat.one_mul,Nat.zero_add,Nat.pow_one,Nat.add_zero] at e1
 rw [show n - 3 + 1 = n - 2 from by omega,show n - 3 + 2 = n - 1 from by omega] at e1
 have hL:=valF_lt (f:=fun i => xs.getD i 0) (n:=n - 3) (fun i _ => ox.getD i)
 rw [pow_limb] at e1 hL
 generalize valF (fun i => xs.getD i 0) (n - 3) = L at *
 have hP:2 ^ (32 - s) * 2 ^ s = 4294967296:=by rw [← Nat.pow_add,show 32 - s + s = 32 from by omega]
 have hpos:0 < 2 ^ (32 - s):=Nat.two_pow_pos _
 have hm:=Nat.mod_lt (xs.getD (n - 3) 0) hpos
 have hA:=top_arith (L:=0) (l:=xs.getD (n - 3) 0) (m:=xs.getD (n - 2) 0) (t:=xs.getD (n - 1) 0) hP
 unfold topN
 rw [Nat.pow_add]
 generalize 2 ^ (32 * (n - 3)) = Q at *
 generalize 2 ^ (32 - s) = P at *
 generalize xs.getD (n - 3) 0 = l at *
 generalize xs.getD (n - 2) 0 = m at *
 generalize xs.getD (n - 1) 0 = t at *
 refine ⟨L + Q * (l % P),?_,?_⟩
 ·rw [e1,show (l + 4294967296 * m + 4294967296 ^ 2 * t) = 0 + (l + 4294967296 * (m + 4294967296 * t)) from by omega,hA,Nat.mul_add,Nat.zero_add,← Nat.mul_assoc]
  omega
 ·have:Q * (l % P) + Q ≤ Q * P:=by
   rw [← Nat.mul_succ]
   exact Nat.mul_le_mul_left Q hm
  omega

theorem top_lt {xs:List Nat} {n s:Nat} (ox:Ok xs) (hs:s ≤ 31) (ht:xs.getD (n - 1) 0 * 2 ^ s < 4294967296):topN xs n s < 18446744073709551616 ∧ (xs.getD (n - 2) 0 + 4294967296 * xs.getD (n - 1) 0) * 2 ^ s + 2 ^ s ≤ 18446744073709551616 ∧ xs.getD (n - 3) 0 / 2 ^ (32 - s) < 2 ^ s:=by
 have hP:2 ^ (32 - s) * 2 ^ s = 4294967296:=by rw [← Nat.pow_add,show 32 - s + s = 32 from by omega]
 have h1:=ox.getD (n - 2)
 have h3:=ox.getD (n - 3)
 have hS:0 < 2 ^ s:=Nat.two_pow_pos _
 have hd:xs.getD (n - 3) 0 / 2 ^ (32 - s) < 2 ^ s:=by
  rw [Nat.div_lt_iff_lt_mul (Nat.two_pow_pos _),Nat.mul_comm,hP]
  exact h3
 unfold topN
 generalize xs.getD (n - 3) 0 / 2 ^ (32 - s) = d at *
 generalize xs.getD (n - 2) 0 = m at *
 generalize xs.getD (n - 1) 0 = t at *
 generalize 2 ^ (32 - s) = P at *
 generalize 2 ^ s = S at *
 -- t S < 2^32 and S divides 2^32: t S + S <= 2^32
 have hk:t * S + S ≤ 4294967296:=by
  rw [← hP,← Nat.succ_mul]
  rw [← hP] at ht
  exact Nat.mul_le_mul_right S (Nat.lt_of_mul_lt_mul_right ht)
 have hm:m * S + S ≤ 4294967296 * S:=by
  rw [← Nat.succ_mul]
  exact Nat.mul_le_mul_right S h1
 have e:(m + 4294967296 * t) * S = m * S + 4294967296 * (t * S):=by rw [Nat.add_mul,Nat.mul_assoc]
 rw [e]
 exact ⟨by omega,by omega,hd⟩

theorem or_low {h S d:Nat} {s:Nat} (hS:S = 2 ^ s) (hd:d < S) (hb:h * S + S ≤ 18446744073709551616):bits .or .u64 ((h * S:Nat):Int) (d:Int) = ((h * S + d:Nat):Int):=by
 have h1:h * S < 18446744073709551616:=by omega
 have h2:d < 18446744073709551616:=by omega
 rw [u64_or_nat _ _ h1 h2]
 congr 1
 have:=Nat.shiftLeft_add_eq_or_of_lt (i:=s) (b:=d) (by rw [← hS]; exact hd) h
 rw [Nat.shiftLeft_eq,← hS] at this
 exact this.symm

set_option maxHeartbeats 4000000 in
theorem topWord_any (a:Option Addr) (m c:Nat) (xs:List Nat) (n s:Nat) (w:World) (h:Sl w a m c xs) (ox:Ok xs) (hn:3 ≤ n) (hn2:n ≤ 1000000) (hs:s ≤ 31) (ht:xs.getD (n - 1) 0 * 2 ^ s < 4294967296) :
  Calls Tryz.prog 198 #[.slice a m c,.int .i64 (n:Nat),.int .i64 (s:Nat)] w fun e w' => e = .returned (.int .u64 (topN xs n s:Nat)) ∧ ∃ k,w' = w.drewN k:=by
 have K1:=limbAt_any a m c xs ((n:Int) - 1) w h (by omega)
 have K2:=limbAt_any a m c xs ((n:Int) - 2) w h (by omega)
 have K3:=fun j => limbAt_any a m c xs ((n:Int) - 3) (w.drewN j) (h.drewN j) (by omega)
 rw [show ((n:Int) - 1).toNat = n - 1 from by omega] at K1
 rw [show ((n:Int) - 2).toNat = n - 2 from by omega] at K2
 rw [show ((n:Int) - 3).toNat = n - 3 from by omega] at K3
 have hT:=top_lt ox hs ht
 have b1:=ox.getD (n - 1)
 have b2:=ox.getD (n - 2)
 have b3:=ox.getD (n - 3)
 unfold topN at hT ⊢
 generalize xs.getD (n - 1) 0 = t at *
 generalize xs.getD (n - 2) 0 = m' at *
 generalize xs.getD (n - 3) 0 = l at *
 have e1:=or_halves t m' b1 b2
 have e2:(((m' + 4294967296 * t:Nat):Int)) * 2 ^ s = (((m' + 4294967296 * t) * 2 ^ s:Nat):Int):=by rw [Int.natCast_mul,Int.natCast_pow]; rfl
 have e3:(32:Int) - (s:Int) = ((32 - s:Nat):Int):=by omega
 have e4:(l:Int) / 2 ^ (32 - s) = ((l / 2 ^ (32 - s):Nat):Int):=by rw [Int.natCast_ediv,Int.natCast_pow]; rfl
 have e5:=or_low (h:=m' + 4294967296 * t) (s:=s) rfl hT.2.2 hT.2.1
 have hd:=hT.2.2
 have hb:=hT.2.1
 have hr:=hT.1
 have hhb:m' + 4294967296 * t < 18446744073709551616:=by omega
 generalize hh:m' + 4294967296 * t = hd0 at *
 have hle:hd0 * 2 ^ s < 18446744073709551616:=by have:=Nat.two_pow_pos s; omega
 generalize hh2:hd0 * 2 ^ s = hs0 at *
 have hl2:l / 2 ^ (32 - s) < 4294967296:=Nat.lt_of_le_of_lt (Nat.div_le_self _ _) b3
 generalize l / 2 ^ (32 - s) = d at *
 generalize hh3:32 - s = r at *
 have K1':=Hj K1
 have K2':=Hj K2
 have K3':=Hj K3
 clear K1 K2 K3 h hT ht hh hh2 hh3
 go_enter Tryz.func198,Tryz.ntmps198
 go_wp2_with fail
 refine (Uh K1').mono ?_
 rintro e w' ⟨rfl,hw⟩
 obtain rfl:=hw.symm
 go_wp2_with fail
 refine (Uh K2').mono ?_
 rintro e w' ⟨rfl,hw⟩
 obtain rfl:=hw.symm
 go_wp2_with fail
 go_quiet ((go_at_call 148; exact Calls.quiet_of_same (Uh K3' _)))
 go_wp2
 go_ret
 exact ⟨rfl,_,rfl⟩
end Go.Proofs.YtmnlhnmlgncedaaGreatDoor
