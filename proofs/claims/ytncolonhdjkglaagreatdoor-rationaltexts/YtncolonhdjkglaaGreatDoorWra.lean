/- Wr5 -/
import Derived.Test.YtncolonhdjkglaaGreatDoorWr4
import Derived.Test.YtncolonhdjkglaaGreatDoorFo1
import Derived.Test.YtncolonhdjkglaaGreatDoorWr9
namespace Go.Proofs.YtncolonhdjkglaaGreatDoor
open Go.RowKit Go.Deep
set_option linter.unusedVariables false
set_option maxHeartbeats 4000000 in
theorem wmulw_any (a1 a2:Option Addr) (n1 c1 n2 c2:Nat) (xs ys:List Nat) (w:World) (h1:Sl w a1 n1 c1 xs) (h2:Sl w a2 n2 c2 ys) (ox:Ok xs) (oy:Ok ys) (hb:n1 + n2 ≤ 1000000000) :
  Calls Tryz.prog 34 #[.slice a1 n1 c1,.slice a2 n2 c2] w fun e w' => NewL w w' (val xs * val ys) e:=by
 have hmk:=make_sum n1 n2 (by omega)
 have bel0:=(Below.refl w.heap.size w).alloc (Nat.le_refl _) (.cells (madeCells #[.int .u32 0] (n1 + n2)) 64)
 have HL1:=Hd h1.len
 have HL2:=Hd h2.len
 have HN1:=Hd (fun (hne:xs ≠ []) => h1.block_lt hne)
 have HN2:=Hd (fun (hne:ys ≠ []) => h2.block_lt hne)
 have S1:=Hd (h1.below bel0)
 have S2:=Hd (h2.below bel0)
 have HB:=Hd bel0
 have hR0:RowsR (w.alloc (.cells (madeCells #[.int .u32 0] (n1 + n2)) 64)) (w.alloc (.cells (madeCells #[.int .u32 0] (n1 + n2)) 64)) w.heap.size 0 (n1 + n2) ys xs 0 (fun _ => 0):=⟨Fn.made w (n1 + n2) 64,fun _ _ => by decide,fun _ _ _ => rfl,by simp [valF,valF_zero],Upd.refl _ _ _ _⟩
 have HR0:=Hd hR0
 clear h1 h2 bel0 hR0
 go_enter Tryz.func34,Tryz.ntmps34
 go_wp2_with fail
 generalize hw0:(w.alloc (.cells (madeCells #[.int .u32 0] (n1 + n2)) 64)) = w0 at *
 have HW0:=Hd hw0
 clear hw0
 go_loopw [6] (fun i wr => ∃ k:Nat,∃ f:Nat → Nat,k ≤ n1 ∧ i = .int .i64 k ∧ RowsR wr w0 w.heap.size 0 (n1 + n2) ys xs k f) (fun i _ => n1 - (intOf i).toNat)
 case atStart => exact ⟨0,_,Nat.zero_le _,rfl,Uh HR0⟩
 case round =>
  clear HR0
  obtain ⟨k,f,hk,rfl,hR⟩:=hrel
  by_cases hlt:k < n1
  ·have hlt':(k:Int) < (n1:Int):=by omega
   have hX:=ox.getD k
   have hxne:xs ≠ []:=by intro e; have:=Uh HL1; rw [e] at this; simp at this; omega
   obtain ⟨b1,o1,rfl,hx⟩:=(Uh S1).cells.resolve_left hxne
   have hb1:b1 < w.heap.size:=Uh HN1 hxne _ rfl
   have HX1:=Hd hx
   obtain ⟨wo,rfl⟩:∃ wo:World,wo = wr:=⟨_,rfl⟩
   have HR:=Hd hR
   clear hR hx hxne S1 HN1
   go_wp2_with fail
   go_loopw [7,8] (fun cv jv wr => ∃ j c:Nat,∃ g:Nat → Nat,j ≤ n2 ∧ jv = .int .i64 j ∧ cv = .int .u64 (c:Nat) ∧ RowR wr w0 w.heap.size 0 (n1 + n2) f k (xs.getD k 0) ys j c g) (fun _ jv _ => n2 - (intOf jv).toNat)
   case atStart => exact ⟨0,0,f,Nat.zero_le _,rfl,rfl,(Uh HR).begin _⟩
   case round =>
    obtain ⟨j,c,g,hj,rfl,rfl,hQ⟩:=hrel
    have hc0:=hQ.cle
    by_cases hjl:j < n2
    ·have hjl':(j:Int) < (n2:Int):=by omega
     have hjl2:(k:Int) + (j:Int) < (n1:Int) + (n2:Int):=by omega
     have hyne:ys ≠ []:=by intro e; have:=Uh HL2; rw [e] at this; simp at this; omega
     obtain ⟨b2,o2,rfl,hy⟩:=(Uh S2).cells.resolve_left hyne
     have hb2:b2 < w.heap.size:=Uh HN2 hyne _ rfl
     have g1:=hQ.upd.cells (Uh HX1) (.inl (by omega)) k (by rw [Uh HL1]; exact hlt)
     have g2:=hQ.upd.cells hy (.inl (by omega)) j (by rw [Uh HL2]; exact hjl)
     have g3:=(hQ.fn (k + j) (by omega)).1
     have g4:=(hQ.fn (k + j) (by omega)).2
     rw [Nat.zero_add] at g3 g4
     have by':=oy.getD j
     have br:=hQ.ok (k + j) (by omega)
     have HS0:=hQ.step (by omega) by' hX
     rw [Nat.zero_add] at HS0
     have HS:=Hd HS0
     clear HS0
     have mb:((xs.getD k 0:Nat):Int) * ((ys.getD j 0:Nat):Int) ≤ 18446744065119617025:=by
      have:=mul_bound hX by'
      rw [← Int.natCast_mul]; omega
     have mb0:0 ≤ ((xs.getD k 0:Nat):Int) * ((ys.getD j 0:Nat):Int):=Int.mul_nonneg (by omega) (by omega)
     have e1:=mdl_int (ys.getD j 0) (xs.getD k 0) (g (k + j)) c
     have e2:=mdh_int (ys.getD j 0) (xs.getD k 0) (g (k + j)) c
     rw [Int.mul_comm] at e1 e2
     have e0:(c:Int) + ((xs.getD k 0:Nat):Int) * ((ys.getD j 0:Nat):Int) + (g (k + j):Nat) = ((xs.getD k 0:Nat):Int) * ((ys.getD j 0:Nat):Int) + (g (k + j):Nat) + c:=by omega
     rw [← e0] at e1 e2
     clear e0
     generalize ys.getD j 0 = y at g2 by' HS mb mb0 e1 e2
     generalize hyy:xs.getD k 0 = x at g1 HS mb mb0 e1 e2 hX
     have HY:=Hd hyy
     generalize g (k + j) = r at g3 br HS e1 e2
     clear hQ hyy hy hyne S2 HN2
     go_wp2_with fail
     go_quiet (fail)
     go_wp2
     exact ⟨⟨j + 1,_,_,by omega,by go_num,rfl,(Uh HS).drewN _⟩,by simp [intOf]; omega⟩
    ·have hjn:j = n2:=by omega
     subst hjn
     have hjl':¬ (j:Int) < (j:Int):=by omega
     have hjl3:(k:Int) + (j:Int) < (n1:Int) + (j:Int):=by omega
     have g3:=(hQ.fn (k + j) (by omega)).1
     have g4:=(hQ.fn (k + j) (by omega)).2
     rw [Nat.zero_add] at g3 g4
     have HS:=rows_step (Uh HL2) (Uh HR) hQ (by omega)
     rw [Nat.zero_add] at HS
     have HS':=Hd HS
     generalize ((g (k + j):Nat):Int) = r at g3
     clear hQ HS HR
     go_wp2
     exact ⟨⟨k + 1,_,by omega,by go_num,Uh HS'⟩,by simp [intOf]; omega⟩
  ·have hkn:k = n1:=by omega
   have hv:valF f (n1 + n2) = val xs * val ys:=by
    have hv:=hR.val
    rw [hkn,Uh HL2] at hv
    rw [hv,← Uh HL1,valF_list,Nat.mul_comm]
   have HR:=Hd (And.intro hR hv)
   clear hR hv hkn
   have K:=wnorm_sl (some ⟨w.heap.size,0,none⟩) (n1 + n2) (n1 + n2) _ wr ((Uh HR).1.fn.sl (Nat.le_refl _) (by unfold maxLen; omega)) (by intro e; cases e) (lst_ok (Uh HR).1.ok)
   rw [lst_val,(Uh HR).2] at K
   have HK:=Hd K
   clear K
   go_wp2_with fail
   refine (Uh HK).mono ?_
   rintro e w' ⟨m,rfl,hm,hO,hw⟩
   obtain rfl:=hw.symm
   have HO:=Hd hO
   clear hO hw HK
   go_wp2_with fail
   go_ret
   exact ⟨_,_,_,rfl,Uh HO,fun x hx => by cases hx; exact Nat.le_refl _,(by intro e; cases e),(Uh HB).trans ((Uh HR).1.upd.below (Nat.le_refl _) (Uh HB).size)⟩
theorem ten_lt {v n:Nat} (h:v ≤ 10 ^ n):v < 4294967296 ^ (n + 1):=by
 have h1:10 ^ n ≤ 4294967296 ^ n:=Nat.pow_le_pow_left (by decide) n
 have h2:4294967296 ^ n < 4294967296 ^ (n + 1):=Nat.pow_lt_pow_right (by decide) (Nat.lt_succ_self n)
 omega
theorem ten_len {v n:Nat} (h:v ≤ 10 ^ n):(limbs v).length ≤ n + 1:=limbs_len (ten_lt h)

structure TnR (wr w:World) (n j X Y:Nat) (ax:Option Addr) (mx cx:Nat) (ab:Option Addr) (mb cb:Nat):Prop where
 sx:Sl wr ax mx cx (limbs X)
 sb:Sl wr ab mb cb (limbs Y)
 nx:NewAt w.heap.size ax
 zx:ax = none → cx = 0
 eq:X * Y ^ j = 10 ^ n
 bel:Below w.heap.size w wr
theorem TnR.bx {wr w:World} {n j X Y:Nat} {ax:Option Addr} {mx cx:Nat} {ab:Option Addr} {mb cb:Nat} (h:TnR wr w n j X Y ax mx cx ab mb cb):X ≤ 10 ^ n ∧ (0 < j → X * Y ≤ 10 ^ n ∧ Y ≤ 10 ^ n):=by
 have hp:0 < 10 ^ n:=Nat.pow_pos (by decide)
 have he:=h.eq
 have hX:0 < X:=by
  rcases Nat.eq_zero_or_pos X with e | e
  ·rw [e,Nat.zero_mul] at he; omega
  ·exact e
 have hY:0 < Y ^ j:=by
  rcases Nat.eq_zero_or_pos (Y ^ j) with e | e
  ·rw [e,Nat.mul_zero] at he; omega
  ·exact e
 refine ⟨by rw [← he]; exact Nat.le_mul_of_pos_right _ hY,fun hj => ?_⟩
 have hY0:0 < Y:=by
  rcases Nat.eq_zero_or_pos Y with e | e
  ·rw [e,Nat.zero_pow hj] at hY; omega
  ·exact e
 obtain ⟨i,rfl⟩:∃ i,j = i + 1:=⟨j - 1,by omega⟩
 have h1:X * Y ≤ 10 ^ n:=by
  rw [← he,Nat.pow_succ,Nat.mul_comm (Y ^ i) Y,← Nat.mul_assoc]
  exact Nat.le_mul_of_pos_right _ (Nat.pow_pos hY0)
 exact ⟨h1,Nat.le_trans (Nat.le_mul_of_pos_left _ hX) h1⟩

set_option maxRecDepth 100000 in
set_option maxHeartbeats 8000000 in
theorem wten_any (n:Nat) (hn:n ≤ 100000) (w:World) :
  Calls Tryz.prog 35 #[.int .i64 (n:Nat)] w fun e w' => NewL w w' (10 ^ n) e:=by
 obtain ⟨wa,hwa⟩:∃ x,w.alloc (.cells #[.int .u32 1] 64) = x:=⟨_,rfl⟩
 obtain ⟨wb,hwb⟩:∃ x,wa.alloc (.cells #[.int .u32 10] 64) = x:=⟨_,rfl⟩
 have ba:Below w.heap.size w wa:=by rw [← hwa]; exact bAl
 have bb:Below wa.heap.size wa wb:=by rw [← hwb]; exact bAl
 have s1:Sl wa (some ⟨w.heap.size,0,none⟩) 1 1 (limbs 1):=by rw [← hwa,show limbs 1 = [1] from rfl]; exact one_sl w 1 _
 have s2:Sl wb (some ⟨wa.heap.size,0,none⟩) 1 1 (limbs 10):=by rw [← hwb,show limbs 10 = [10] from rfl]; exact one_sl wa 10 _
 have HR0:=Hd (show TnR wb w n n 1 10 (some ⟨w.heap.size,0,none⟩) 1 1 (some ⟨wa.heap.size,0,none⟩) 1 1 from ⟨s1.below bb,s2,fun x hx => by cases hx; exact Nat.le_refl _,fun h => by (cases h),by simp,ba.trans (bb.mono ba.size)⟩)
 clear ba bb s1 s2
 go_enter Tryz.func35,Tryz.ntmps35
 go_wp2_with fail
 go_loopw [0,3,4] (fun nv xv bv wr => ∃ j X Y:Nat,∃ ax mx cx ab mb cb,j ≤ n ∧ nv = .int .i64 (j:Nat) ∧ xv = .slice ax mx cx ∧ bv = .slice ab mb cb ∧ Hid (TnR wr w n j X Y ax mx cx ab mb cb)) (fun nv _ _ _ => (intOf nv).toNat)
 case atStart => exact ⟨n,1,10,_,_,_,_,_,_,Nat.le_refl _,rfl,rfl,rfl,Uh HR0⟩
 case round =>
  clear HR0
  obtain ⟨j,X,Y,ax,mx,cx,ab,mb,cb,hj,rfl,rfl,rfl,HR⟩:=hrel
  rcases Nat.eq_zero_or_pos j with e | e
  ·subst e
   go_wp2_with fail
   go_ret
   have h:=Uh HR
   have he:=h.eq
   rw [Nat.pow_zero,Nat.mul_one] at he
   exact ⟨_,_,_,rfl,by rw [← he]; exact h.sx,h.nx,h.zx,h.bel⟩
  ·have t0:(0:Int) < (j:Int):=by omega
   have hb:=(Uh HR).bx
   have l1:=ten_len hb.1
   have l2:=ten_len (hb.2 e).2
   rw [(Uh HR).sx.len] at l1
   rw [(Uh HR).sb.len] at l2
   have e1:(j:Int).tmod 2 = ((j % 2:Nat):Int):=rfl
   have e2:(j:Int) % 2 = ((j % 2:Nat):Int):=rfl
   have e3:(j:Int).tdiv 2 = ((j / 2:Nat):Int):=rfl
   have e4:(j:Int) / 2 = ((j / 2:Nat):Int):=rfl
   have hm:j % 2 = 0 ∨ j % 2 = 1:=by omega
   have hlt:j / 2 < j:=by omega
   have hY2:(Y * Y) ^ (j / 2) = Y ^ (2 * (j / 2)):=by rw [Nat.pow_mul,Nat.pow_two]
   have HJ:=Hd (show j = 2 * (j / 2) + j % 2 by omega)
   rcases hm with hm | hm
   ·rw [hm] at e1 e2
    have K2:=wmulw_any ab ab mb cb mb cb (limbs Y) (limbs Y) wr (Uh HR).sb (Uh HR).sb (limbs_ok Y) (limbs_ok Y) (by omega)
    rw [limbs_v] at K2
    have K2':=Hd K2
    have HE:=Hd (show X * (Y * Y) ^ (j / 2) = 10 ^ n by rw [hY2,← (Uh HR).eq]; congr 2; have:=Uh HJ; omega)
    generalize j / 2 = j2 at *
    clear K2 hY2 l1 l2 hb
    go_wp2_with fail
    refine (Uh K2').mono ?_
    rintro _ w2 ⟨a2,m2,c2,rfl,s2,n2,z2,b2⟩
    have h:=Uh HR
    have HN:=Hd (show TnR w2 w n j2 X (Y * Y) ax mx cx a2 m2 c2 from ⟨h.sx.below b2,s2,h.nx,h.zx,Uh HE,h.bel.trans (b2.mono h.bel.size)⟩)
    clear h s2 n2 z2 b2 K2' HR
    go_wp2_with fail
    exact ⟨⟨j2,X,Y * Y,_,_,_,_,_,_,by omega,by go_num,rfl,rfl,Uh HN⟩,by simp [intOf]; omega⟩
   ·rw [hm] at e1 e2
    have K1:=wmulw_any ax ab mx cx mb cb (limbs X) (limbs Y) wr (Uh HR).sx (Uh HR).sb (limbs_ok X) (limbs_ok Y) (by omega)
    rw [limbs_v,limbs_v] at K1
    have K1':=Hd K1
    have HE:=Hd (show X * Y * (Y * Y) ^ (j / 2) = 10 ^ n by
     rw [hY2,← (Uh HR).eq,Nat.mul_assoc]
     congr 1
     have h1:=Uh HJ
     rw [hm] at h1
     conv => rhs; rw [h1,Nat.pow_succ,Nat.mul_comm])
    have hl2:mb + mb ≤ 1000000000:=by omega
    generalize j / 2 = j2 at *
    clear K1 hY2 l1 l2 hb
    go_wp2_with fail
    refine (Uh K1').mono ?_
    rintro _ w1 ⟨a1,m1,c1,rfl,s1,n1,z1,b1⟩
    have K2:=wmulw_any ab ab mb cb mb cb (limbs Y) (limbs Y) w1 ((Uh HR).sb.below b1) ((Uh HR).sb.below b1) (limbs_ok Y) (limbs_ok Y) hl2
    rw [limbs_v] at K2
    have K2':=Hd K2
    have H1:=Hd (And.intro s1 (And.intro n1 (And.intro z1 b1)))
    clear K2 s1 n1 z1 b1 K1'
    go_wp2_with fail
    refine (Uh K2').mono ?_
    rintro _ w2 ⟨a2,m2,c2,rfl,s2,n2,z2,b2⟩
    have h:=Uh HR
    obtain ⟨s1,n1,z1,b1⟩:=Uh H1
    have hB:=h.bel.trans (b1.mono h.bel.size)
    have HN:=Hd (show TnR w2 w n j2 (X * Y) (Y * Y) a1 m1 c1 a2 m2 c2 from ⟨s1.below b2,s2,fun x hx => Nat.le_trans h.bel.size (n1 x hx),z1,Uh HE,hB.trans (b2.mono hB.size)⟩)
    clear h s1 n1 z1 b1 s2 n2 z2 b2 hB K2' HR
    go_wp2_with fail
    exact ⟨⟨j2,X * Y,Y * Y,_,_,_,_,_,_,by omega,by go_num,rfl,rfl,Uh HN⟩,by simp [intOf]; omega⟩
structure OddP (w w':World) (B:Nat) (a:Option Addr) (n cp v m k u:Nat) (d:Bool):Prop where
 own:Ow w' B a m cp (limbs u)
 eq:v = u * 2 ^ k
 kle:k ≤ 32
 yes:d = true → u % 2 = 1
 no:d = false → m < n
 chg:Chg (fun j => AtB a j) w w'

def OddQ (w:World) (B:Nat) (a:Option Addr) (n cp v:Nat) (e:Ending) (w':World):Prop:=∃ m k u d,e = .returned (.tuple #[.slice a m cp,.int .i64 (k:Nat),.bool d]) ∧ OddP w w' B a n cp v m k u d

structure MvR (wr w:World) (B g n cp:Nat) (xs:List Nat) (k:Nat):Prop where
 own:Ow wr B (some ⟨g,0,none⟩) n cp ((xs.drop 1).take k ++ xs.drop k)
 chg:Chg (fun j => AtB (some ⟨g,0,none⟩) j) w wr

theorem mv_len {xs:List Nat} {k n:Nat} (hl:xs.length = n) (hk:k + 1 ≤ n):((xs.drop 1).take k).length = k:=by simp [hl]; omega
theorem MvR.step {wr w:World} {B g n cp:Nat} {xs:List Nat} {k:Nat} (h:MvR wr w B g n cp xs k) (hl:xs.length = n) (hk:k + 1 < n) :
  MvR (wr.setCell ⟨g,k,none⟩ (.int .u32 (xs.getD (k + 1) 0:Nat))) w B g n cp xs (k + 1):=by
 refine ⟨?_,h.chg.trans (.of_set _ _ _ _ atB_some)⟩
 have:=h.own.set k (xs.getD (k + 1) 0)
 rw [set_mid (mv_len hl (by omega)) hl (by omega)] at this
 have e:(xs.drop 1).take k ++ [xs.getD (k + 1) 0] = (xs.drop 1).take (k + 1):=by
  rw [List.take_succ_eq_append_getElem (by simp; omega)]
  simp [List.getD,show k + 1 < xs.length from by omega]
 rw [e] at this
 exact this
theorem MvR.get {wr w:World} {B g n cp:Nat} {xs:List Nat} {k:Nat} (h:MvR wr w B g n cp xs k) (hl:xs.length = n) (hk:k + 1 < n) :
  wr.cell? ⟨g,k + 1,none⟩ = some (.int .u32 (xs.getD (k + 1) 0:Nat)):=by
 rw [h.own.cell (by omega)]
 congr 3
 have e:=mv_len hl (k:=k) (by omega)
 simp only [List.getD]
 rw [List.getElem?_append_right (by omega),e,List.getElem?_drop]
 congr 2; omega
theorem MvR.fin {wr w:World} {B g n cp v:Nat} {k:Nat} (h:MvR wr w B g n cp (limbs v) k) (hl:(limbs v).length = n) (hk:k + 1 = n) :
  Ow wr B (some ⟨g,0,none⟩) (n - 1) cp (limbs (v / 4294967296)):=by
 have h1:=h.own.take (m:=n - 1) (by omega)
 have e1:=mv_len hl (k:=k) (by omega)
 rw [List.take_append_of_le_length (by omega),List.take_of_length_le (by omega)] at h1
 have e2:((limbs v).drop 1).take k = (limbs v).drop 1:=List.take_of_length_le (by simp; omega)
 rw [e2] at h1
 have e3:(limbs v).drop 1 = limbs (v / 4294967296):=by
  have hv:=val_drop (limbs_ok v) 1
  rw [limbs_v,Nat.pow_one] at hv
  have nn:Norm ((limbs v).drop 1):=by
   have:=limbs_norm v
   cases hh:limbs v with
   | nil => left; rfl
   | cons x xs => rw [hh] at this; simpa using norm_tail this
  rw [← hv]
  exact (limbs_val ((limbs_ok v).drop 1) nn).symm
 rw [← e3]
 exact h1

theorem low_limb (v:Nat):(limbs v).getD 0 0 = v % 4294967296:=by
 have h:=val_drop_step (limbs v) 0
 rw [List.drop_zero,limbs_v] at h
 have:=(limbs_ok v).getD 0
 omega

set_option maxRecDepth 100000 in
set_option maxHeartbeats 4000000 in
theorem wodd_zero (g B n cp v:Nat) (w:World) (h1:Ow w B (some ⟨g,0,none⟩) n cp (limbs v)) (hv:0 < v) (hn:n ≤ 1000000000) (hz:v % 4294967296 = 0) :
  Calls Tryz.prog 134 #[.slice (some ⟨g,0,none⟩) n cp] w fun e w' => OddQ w B (some ⟨g,0,none⟩) n cp v e w':=by
 have hl:=h1.len
 have hcap:=h1.sl.cap
 have hle:=h1.sl.le
 unfold maxLen at hcap
 have hn1:1 < n:=by
  rcases Nat.lt_or_ge 1 n with h | h
  ·exact h
  ·exfalso
   have:=limbs_lt v
   have h2:4294967296 ^ (limbs v).length ≤ 4294967296 ^ 1:=Nat.pow_le_pow_right (by decide) (by omega)
   omega
 have c0:=h1.cell (i:=0) (by omega)
 rw [low_limb,hz] at c0
 have HF:=Hd (fun wr k (h:MvR wr w B g n cp (limbs v) k) (hk:k + 1 = n) => (show OddP w wr B (some ⟨g,0,none⟩) n cp v (n - 1) 32 (v / 4294967296) false from ⟨h.fin hl hk,by omega,Nat.le_refl _,(by intro e; cases e),fun _ => by omega,h.chg⟩))
 have H0:=Hd (show MvR w w B g n cp (limbs v) 0 from ⟨by simpa using h1,Chg.refl _ _⟩)
 have hn1':((n:Int) - 1) = ((n - 1:Nat):Int):=by omega
 obtain ⟨xs,hxs⟩:∃ xs,limbs v = xs:=⟨_,rfl⟩
 have HL:=Hd hl
 rw [hxs] at HF H0 HL
 clear h1 hxs hl hv hz
 obtain ⟨n0,hn0⟩:∃ k,n - 1 = k:=⟨_,rfl⟩
 rw [hn0] at hn1' HF
 have HN0:=Hd hn0
 clear hn0
 go_enter Tryz.func134,Tryz.ntmps134
 go_wp2_with fail
 go_loopw [5] (fun i wr => ∃ k:Nat,k + 1 ≤ n ∧ i = .int .i64 (k:Nat) ∧ MvR wr w B g n cp xs k) (fun i _ => n - (intOf i).toNat)
 case atStart => exact ⟨0,by omega,rfl,Uh H0⟩
 case round =>
  clear H0
  obtain ⟨k,hk,rfl,hR⟩:=hrel
  by_cases hlt:k + 1 < n
  ·have tA:(k:Int) + 1 < (n:Int):=by omega
   have g1:=hR.get (Uh HL) hlt
   have g2:=hR.own.cell (i:=k) (by omega)
   have g3:=hR.own.froz (i:=k)
   have HS:=Hd (hR.step (Uh HL) hlt)
   generalize xs.getD (k + 1) 0 = x at *
   generalize ((xs.drop 1).take k ++ xs.drop k).getD k 0 = y at *
   clear hR c0
   go_wp2_with fail
   exact ⟨⟨k + 1,by omega,by go_num,Uh HS⟩,by simp [intOf]; omega⟩
  ·have tA:¬ (k:Int) + 1 < (n:Int):=by omega
   have HX:=Hd (Uh HF wr k hR (by omega))
   have hb0:n0 ≤ n:=by have:=Uh HN0; omega
   clear hR c0 hlt
   go_wp2_with fail
   go_ret3
   exact ⟨n0,32,_,false,rfl,Uh HX⟩

theorem low_bit {x k:Nat} (hk:x % 2 ^ k = 0) (hb:x / 2 ^ k % 2 = 0):x % 2 ^ (k + 1) = 0:=by
 rw [Nat.pow_succ,Nat.mod_mul,hk,hb,Nat.mul_zero]
theorem low_bit1 {x k:Nat} (hk:x % 2 ^ k = 0):x = x / 2 ^ k * 2 ^ k:=by
 have:=Nat.div_add_mod x (2 ^ k)
 rw [hk,Nat.add_zero,Nat.mul_comm] at this
 exact this.symm

structure MbR (wr w:World) (B g n cp:Nat) (xs:List Nat) (s k:Nat):Prop where
 own:Ow wr B (some ⟨g,0,none⟩) n cp (lst (shF xs 0 s) k ++ xs.drop k)
 chg:Chg (fun j => AtB (some ⟨g,0,none⟩) j) w wr
theorem MbR.step {wr w:World} {B g n cp:Nat} {xs:List Nat} {s k:Nat} (h:MbR wr w B g n cp xs s k) (hl:xs.length = n) (hk:k < n) :
  MbR (wr.setCell ⟨g,k,none⟩ (.int .u32 (srd (xs.getD k 0) (xs.getD (k + 1) 0) s:Nat))) w B g n cp xs s (k + 1):=by
 refine ⟨?_,h.chg.trans (.of_set _ _ _ _ atB_some)⟩
 have:=h.own.set k (srd (xs.getD k 0) (xs.getD (k + 1) 0) s)
 rw [set_mid (lst_len _ _) hl hk] at this
 have e:lst (shF xs 0 s) k ++ [srd (xs.getD k 0) (xs.getD (k + 1) 0) s] = lst (shF xs 0 s) (k + 1):=by
  simp [lst,List.range_succ,shF]
 rw [e] at this
 exact this
theorem MbR.get {wr w:World} {B g n cp:Nat} {xs:List Nat} {s k j:Nat} (h:MbR wr w B g n cp xs s k) (hl:xs.length = n) (hk:k ≤ j) (hj:j < n) :
  wr.cell? ⟨g,j,none⟩ = some (.int .u32 (xs.getD j 0:Nat)):=by
 rw [h.own.cell hj]
 congr 3
 have e:=lst_len (shF xs 0 s) k
 simp only [List.getD]
 rw [List.getElem?_append_right (by omega),e,List.getElem?_drop]
 congr 2; omega

set_option maxRecDepth 100000 in
set_option maxHeartbeats 8000000 in
theorem wodd_some (g B n cp v:Nat) (w:World) (h1:Ow w B (some ⟨g,0,none⟩) n cp (limbs v)) (hn:n ≤ 1000000000) (hz:v % 4294967296 ≠ 0) :
  Calls Tryz.prog 134 #[.slice (some ⟨g,0,none⟩) n cp] w fun e w' => OddQ w B (some ⟨g,0,none⟩) n cp v e w':=by
 have hl:=h1.len
 have hn1:0 < n:=by
  rcases Nat.eq_zero_or_pos n with h | h
  ·exfalso
   rw [h] at hl
   have:=limbs_eq_nil.1 (List.eq_nil_of_length_eq_zero hl)
   subst this
   exact hz rfl
  ·exact h
 have c0:=h1.cell (i:=0) (by omega)
 rw [low_limb] at c0
 obtain ⟨x0,hx0⟩:∃ x,v % 4294967296 = x:=⟨_,rfl⟩
 rw [hx0] at c0
 have hxb:x0 < 4294967296:=by omega
 have hxe:((x0:Int) == 0) = false:=by simp; omega
 have hxn:¬ (x0:Int) = 0:=by omega
 have HX0:=Hd hx0
 have HXN:=Hd (show x0 ≠ 0 by omega)
 have ox:=limbs_ok v
 have HV:=Hd (limbs_v v)
 have H0:=Hd (fun s => (show MbR w w B g n cp (limbs v) s 0 from ⟨by simpa [lst] using h1,Chg.refl _ _⟩))
 obtain ⟨xs,hxs⟩:∃ xs,limbs v = xs:=⟨_,rfl⟩
 have HL:=Hd hl
 have HO:=Hd h1
 rw [hxs] at H0 HL ox HV HO
 have HXS:=Hd hxs
 clear h1 hxs hl hz hx0
 go_enter Tryz.func134,Tryz.ntmps134
 go_wp2_with fail
 go_loop [6] (fun i => ∃ k:Nat,k < 32 ∧ i = .int .i64 (k:Nat) ∧ x0 % 2 ^ k = 0) (fun i => 32 - (intOf i).toNat)
 case atStart => exact ⟨0,by decide,rfl,by rw [Nat.pow_zero,Nat.mod_one]⟩
 case round =>
  obtain ⟨k,hk,rfl,hm⟩:=hrel
  have hy:=shr_lt (s:=k) hxb
  have e1:(x0:Int) / 2 ^ k = ((x0 / 2 ^ k:Nat):Int):=by rw [Int.natCast_ediv,Int.natCast_pow]; rfl
  have e2:=and_one _ hy
  have hy2:x0 / 2 ^ k % 2 < 2:=Nat.mod_lt _ (by decide)
  by_cases hb:x0 / 2 ^ k % 2 = 0
  ·have h2:=low_bit hm hb
   have hk31:k + 1 < 32:=by
    rcases Nat.lt_or_ge (k + 1) 32 with h | h
    ·exact h
    ·exfalso
     have:k = 31:=by omega
     subst this
     rw [show 31 + 1 = 32 from rfl,show (2:Nat) ^ 32 = 4294967296 from by decide,Nat.mod_eq_of_lt hxb] at h2
     exact Uh HXN h2
   have H2:=Hd h2
   have HM:=Hd hm
   rw [hb] at e2
   clear h2 hm hb hy2
   generalize x0 / 2 ^ k = y at *
   go_wp2_with fail
   exact ⟨⟨k + 1,hk31,by go_num,Uh H2⟩,by simp [intOf]; omega⟩
  ·have hb1:x0 / 2 ^ k % 2 = 1:=by omega
   rw [hb1] at e2
   -- v is an odd number times 2 ^ k
   have hvk:v % 2 ^ k = 0:=by
    have hd:2 ^ k ∣ 4294967296:=by rw [show (4294967296:Nat) = 2 ^ 32 from by decide]; exact Nat.pow_dvd_pow 2 (by omega)
    rw [← Uh HX0] at hm
    rw [Nat.mod_mod_of_dvd v hd] at hm
    exact hm
   have hvo:v / 2 ^ k % 2 = 1:=by
    obtain ⟨q,h3⟩:∃ q,v = x0 + 4294967296 * q:=⟨v / 4294967296,by have:=Uh HX0; omega⟩
    have hp:=pow_split (s:=k) hk
    have h4:v / 2 ^ k = x0 / 2 ^ k + 2 ^ (32 - k) * q:=by
     rw [h3,← hp,Nat.mul_assoc,Nat.add_mul_div_left _ _ (Nat.two_pow_pos k)]
    rw [h4,show 32 - k = 31 - k + 1 from by omega,Nat.pow_succ,Nat.mul_comm (2 ^ (31 - k)) 2,Nat.mul_assoc]
    omega
   have HVE:=Hd (low_bit1 hvk)
   have HVO:=Hd hvo
   have HSV:=Hd (shr_val ox (Uh HL) (Nat.zero_le n) (show k / 32 = 0 by omega) (show k % 32 = k by omega))
   clear hb hm hb1 hvk hvo
   generalize x0 / 2 ^ k = y at *
   by_cases hk0:k = 0
   ·have tk:¬ (0:Int) < (k:Int):=by omega
    have HK0:=Hd hk0
    clear hk0
    have K:=wnorm_any (some ⟨g,0,none⟩) n cp B xs w (Uh HO) ox
    rw [Uh HV] at K
    have HK:=Hd K
    clear K
    go_wp2_with fail
    go_loopw [7] (fun i wr => i = .int .i64 0 ∧ wr = w) (fun i _ => (intOf i).toNat)
    case atStart => exact ⟨rfl,rfl⟩
    case round =>
     obtain ⟨rfl,hw⟩:=hrel
     subst hw
     have t1:(0:Int) < (n:Int):=by omega
     go_wp2_with fail
     refine (Uh HK).mono ?_
     rintro e w' ⟨m,rfl,hm,hO,hw⟩
     obtain rfl:=hw.symm
     have HO2:=Hd hO
     clear hO hw HK
     go_wp2_with fail
     go_ret3
     have ho:=Uh HVO
     rw [Uh HK0,Nat.pow_zero,Nat.div_one] at ho
     exact ⟨m,k,v,true,rfl,⟨Uh HO2,by rw [Uh HK0,Nat.pow_zero,Nat.mul_one],by omega,fun _ => ho,(by intro e; cases e),Chg.refl _ _⟩⟩
   ·have tk:(0:Int) < (k:Int):=by omega
    go_wp2_with fail
    go_loopw [7] (fun i wr => ∃ j:Nat,j ≤ n ∧ i = .int .i64 (j:Nat) ∧ MbR wr w B g n cp xs k j) (fun i _ => n - (intOf i).toNat)
    case atStart => exact ⟨0,Nat.zero_le _,rfl,Uh H0 k⟩
    case round =>
     clear c0
     obtain ⟨j,hj,rfl,hR⟩:=hrel
     by_cases hlt:j < n
     ·have tA:(j:Int) < (n:Int):=by omega
      have g1:=hR.get (Uh HL) (Nat.le_refl j) hlt
      have g3:=hR.own.froz (i:=j)
      have HS:=Hd (hR.step (Uh HL) hlt)
      have bx:=ox.getD j
      have bY:=ox.getD (j + 1)
      by_cases hB:j + 1 < n
      ·have tB:(j:Int) + 1 < (n:Int):=by omega
       have g2:=hR.get (j:=j + 1) (Uh HL) (by omega) hB
       have e5:=dv_int2 (lo:=xs.getD j 0) (hi:=xs.getD (j + 1) 0) bx bY
       have e6:=srd_int (xs.getD j 0) (xs.getD (j + 1) 0) k
       have b1:=dv_lt (lo:=xs.getD j 0) (hi:=xs.getD (j + 1) 0) bx bY
       generalize xs.getD j 0 = xx at *
       generalize xs.getD (j + 1) 0 = yy at *
       clear hR
       go_wp2_with fail
       exact ⟨⟨j + 1,by omega,by go_num,Uh HS⟩,by simp [intOf]; omega⟩
      ·have tB:¬ (j:Int) + 1 < (n:Int):=by omega
       have zy:xs.getD (j + 1) 0 = 0:=getD_ge (by rw [Uh HL]; omega)
       have hsr:srd (xs.getD j 0) (xs.getD (j + 1) 0) k = xs.getD j 0 / 2 ^ k:=by
        rw [zy]; unfold srd dv
        rw [Nat.mul_zero,Nat.add_zero,Nat.mod_eq_of_lt (Nat.lt_of_le_of_lt (Nat.div_le_self _ _) bx)]
       have b3:=srd_lt (xs.getD j 0) (xs.getD (j + 1) 0) k
       have e5:((xs.getD j 0:Nat):Int) / 2 ^ k = ((srd (xs.getD j 0) (xs.getD (j + 1) 0) k:Nat):Int):=by rw [hsr,Int.natCast_ediv,Int.natCast_pow]; rfl
       clear hR zy hsr
       generalize srd (xs.getD j 0) (xs.getD (j + 1) 0) k = sd at *
       generalize xs.getD j 0 = xx at *
       go_wp2_with fail
       exact ⟨⟨j + 1,by omega,by go_num,Uh HS⟩,by simp [intOf]; omega⟩
     ·have tA:¬ (j:Int) < (n:Int):=by omega
      have ho:=hR.own
      rw [List.drop_eq_nil_of_le (by rw [Uh HL]; omega),List.append_nil] at ho
      have hjn:j = n - 0:=by omega
      have K:=wnorm_any (some ⟨g,0,none⟩) n cp B _ wr ho (lst_ok (fun i _ => srd_lt _ _ _))
      rw [lst_val,hjn,Uh HSV,Uh HV] at K
      have HK:=Hd K
      have HC:=Hd hR.chg
      clear K hR ho hjn
      go_wp2_with fail
      refine (Uh HK).mono ?_
      rintro e w' ⟨m,rfl,hm,hO,hw⟩
      obtain rfl:=hw.symm
      have HO2:=Hd hO
      clear hO hw HK
      go_wp2_with fail
      go_ret3
      exact ⟨m,k,v / 2 ^ k,true,rfl,⟨Uh HO2,Uh HVE,by omega,fun _ => Uh HVO,(by intro e; cases e),Uh HC⟩⟩

theorem wodd_any (a:Option Addr) (B n cp v:Nat) (w:World) (h1:Ow w B a n cp (limbs v)) (hv:0 < v) (hn:n ≤ 1000000000) :
  Calls Tryz.prog 134 #[.slice a n cp] w fun e w' => OddQ w B a n cp v e w':=by
 have hn0:0 < n:=by
  rcases Nat.eq_zero_or_pos n with h | h
  ·exfalso
   have hl:=h1.len
   rw [h] at hl
   have:=limbs_eq_nil.1 (List.eq_nil_of_length_eq_zero hl)
   omega
  ·exact h
 obtain ⟨g,rfl,_⟩:=h1.form hn0
 by_cases hz:v % 4294967296 = 0
 ·exact wodd_zero g B n cp v w h1 hv hn hz
 ·exact wodd_some g B n cp v w h1 hn hz

structure StrP (w w':World) (B:Nat) (a:Option Addr) (cp v m k u:Nat):Prop where
 own:Ow w' B a m cp (limbs u)
 eq:v = u * 2 ^ k
 odd:u % 2 = 1
 chg:Chg (fun j => AtB a j) w w'

def StrQ (w:World) (B:Nat) (a:Option Addr) (cp v:Nat) (e:Ending) (w':World):Prop:=∃ m k u,e = .returned (.tuple #[.slice a m cp,.int .i64 (k:Nat)]) ∧ StrP w w' B a cp v m k u
def lenV:Value → Nat
 | .slice _ m _ => m
 | _ => 0

theorem two_pow_bound {v k n u:Nat} (hv:v < 4294967296 ^ n) (he:v = u * 2 ^ k) (hu:0 < u):k < 32 * n + 1:=by
 rw [pow_limb] at hv
 rcases Nat.lt_or_ge k (32 * n) with h | h
 ·omega
 ·exfalso
  have h1:2 ^ (32 * n) ≤ 2 ^ k:=Nat.pow_le_pow_right (by decide) h
  have h2:1 * 2 ^ k ≤ u * 2 ^ k:=Nat.mul_le_mul_right _ hu
  omega

set_option maxRecDepth 100000 in
set_option maxHeartbeats 4000000 in
theorem wstrip_any (a:Option Addr) (B n cp v:Nat) (w:World) (h1:Ow w B a n cp (limbs v)) (hv:0 < v) (hn:n ≤ 1000000000) :
  Calls Tryz.prog 93 #[.slice a n cp] w fun e w' => StrQ w B a cp v e w':=by
 have HV:=Hd (show v < 4294967296 ^ n by have:=limbs_lt v; rwa [h1.len] at this)
 have H0:=Hd h1
 clear h1
 go_enter Tryz.func93,Tryz.ntmps93
 go_wp2_with fail
 go_loopw [0,4] (fun av nv wr => ∃ m k u:Nat,av = .slice a m cp ∧ nv = .int .i64 (k:Nat) ∧ m ≤ n ∧ 0 < u ∧ v = u * 2 ^ k ∧ Ow wr B a m cp (limbs u) ∧ Chg (fun j => AtB a j) w wr) (fun av _ _ => lenV av)
 case atStart => exact ⟨n,0,v,rfl,rfl,Nat.le_refl _,hv,by rw [Nat.pow_zero,Nat.mul_one],Uh H0,Chg.refl _ _⟩
 case round =>
  clear H0
  obtain ⟨m,k,u,rfl,rfl,hm,hu,he,hO,hc⟩:=hrel
  have hkb:=two_pow_bound (Uh HV) he hu
  have HK:=Hd (wodd_any a B m cp u wr hO hu (by omega))
  have HE:=Hd he
  have HC:=Hd hc
  clear he hO hc
  go_wp2_with fail
  refine (Uh HK).mono ?_
  rintro e w2 ⟨m2,k2,u2,d,rfl,hP⟩
  have hk2:=hP.kle
  have hu2:0 < u2:=by
   rcases Nat.eq_zero_or_pos u2 with h | h
   ·exfalso
    have:=hP.eq
    rw [h,Nat.zero_mul] at this
    omega
   ·exact h
  have HE2:=Hd (show v = u2 * 2 ^ (k + k2) by rw [Uh HE,hP.eq,Nat.mul_assoc,← Nat.pow_add,Nat.add_comm k2])
  have HP:=Hd hP
  clear hP HK
  cases d
  ·have hmm:=(Uh HP).no rfl
   have HX:=Hd (And.intro (Uh HP).own ((Uh HC).trans (Uh HP).chg))
   clear HP HC HE
   go_wp2_with fail
   exact ⟨⟨m2,k + k2,u2,rfl,by go_num,by omega,hu2,Uh HE2,(Uh HX).1,(Uh HX).2⟩,by simp [lenV]; omega⟩
  ·have HX:=Hd (show StrP w w2 B a cp v m2 (k + k2) u2 from ⟨(Uh HP).own,Uh HE2,(Uh HP).yes rfl,(Uh HC).trans (Uh HP).chg⟩)
   clear HP HC HE
   go_wp2_with fail
   go_ret2
   exact ⟨m2,k + k2,u2,by first | rfl | (congr 1),Uh HX⟩
end Go.Proofs.YtncolonhdjkglaaGreatDoor
