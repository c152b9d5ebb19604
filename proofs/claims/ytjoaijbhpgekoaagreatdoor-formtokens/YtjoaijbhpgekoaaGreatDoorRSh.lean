/- Rd2 -/
import Derived.Test.YtjoaijbhpgekoaaGreatDoorRd1
import Derived.Test.YtjoaijbhpgekoaaGreatDoorMul
namespace Go.Proofs.YtjoaijbhpgekoaaGreatDoor
open Go.RowKit Go.Deep
set_option linter.unusedVariables false
def tw (x c:Nat):Nat:=2 * x % 4294967296 + c
theorem tw_lt {x c:Nat} (hc:c ≤ 1):tw x c < 4294967296:=by unfold tw; omega
theorem tw_or {x c:Nat} (hx:x < 4294967296) (hc:c ≤ 1):bits .or .u32 ((2 * x % 4294967296:Nat):Int) (c:Int) = ((tw x c:Nat):Int):=by
 rw [u32_or_nat _ _ (by omega) (by omega)]
 congr 1
 have:=Nat.shiftLeft_add_eq_or_of_lt (i:=1) (b:=c) (by omega) (x % 2147483648)
 rw [Nat.shiftLeft_eq] at this
 have e:2 * x % 4294967296 = x % 2147483648 * 2 ^ 1:=by omega
 rw [e,← this]
 unfold tw
 omega

structure TwR (wr w:World) (b n:Nat) (f:Nat → Nat) (bit k c:Nat) (g:Nat → Nat):Prop where
 cle:c ≤ 1
 fn:Fn wr b 0 n g
 ok:∀ i,i < n → g i < 4294967296
 eq:∀ i,k ≤ i → i < n → g i = f i
 val:valF g k + 4294967296 ^ k * c = 2 * valF f k + bit
 upd:Upd b 0 n w wr

theorem tw_arith {A F P c x t bit:Nat} (h:A + P * c = 2 * F + bit) (e:t + 4294967296 * (x / 2147483648) = 2 * x + c):A + P * t + P * 4294967296 * (x / 2147483648) = 2 * (F + P * x) + bit:=by
 have:P * (t + 4294967296 * (x / 2147483648)) = P * (2 * x + c):=by rw [e]
 rw [Nat.mul_add,Nat.mul_add,← Nat.mul_assoc,← Nat.mul_assoc P 2,Nat.mul_comm P 2,Nat.mul_assoc 2] at this
 omega

theorem TwR.step {wr w:World} {b n:Nat} {f:Nat → Nat} {bit k c:Nat} {g:Nat → Nat} (h:TwR wr w b n f bit k c g) (hk:k < n) :
  TwR (wr.setCell ⟨b,0 + k,none⟩ (.int .u32 (tw (g k) c:Nat))) w b n f bit (k + 1) (g k / 2147483648) (fun i => if i = k then tw (g k) c else g i):=by
 have hx:=h.ok k hk
 refine ⟨by omega,h.fn.set k _ hk,?_,?_,?_,h.upd.set _ _ (by omega) (by omega)⟩
 ·intro i hi
  by_cases e:i = k
  ·simp only [e,if_true]; exact tw_lt h.cle
  ·simp only [e,if_false]; exact h.ok i hi
 ·intro i h1 h2
  rw [if_neg (by omega)]
  exact h.eq i (by omega) h2
 ·simp only [valF,if_true]
  rw [valF_congr (g:=g) (fun i hi => by rw [if_neg (by omega)]),Nat.pow_succ,← h.eq k (Nat.le_refl _) hk]
  refine tw_arith h.val ?_
  unfold tw
  omega

theorem TwR.drewN {wr w:World} {b n:Nat} {f:Nat → Nat} {bit k c:Nat} {g:Nat → Nat} (h:TwR wr w b n f bit k c g) (j:Nat):TwR (wr.drewN j) w b n f bit k c g:=⟨h.cle,h.fn,h.ok,h.eq,h.val,h.upd.drewN j⟩

set_option maxHeartbeats 2000000 in
theorem twice_any (b n bit:Nat) (f:Nat → Nat) (w:World) (h:Fn w b 0 n f) (ok:∀ i,i < n → f i < 4294967296) (hn:n ≤ 1000000) (hb:bit ≤ 1) :
  Calls Tryz.prog 74 #[.slice (some ⟨b,0,none⟩) n n,.int .i64 (bit:Nat)] w fun e w' => e = .returned (.tuple #[]) ∧ ∃ c g,TwR w' w b n f bit n c g:=by
 have HR0:=Hj (show TwR w w b n f bit 0 bit f from ⟨hb,h,ok,fun _ _ _ => rfl,by simp [valF],Upd.refl _ _ _ _⟩)
 clear h ok
 go_enter Tryz.func74,Tryz.ntmps74
 go_wp2
 go_loopw [4,5] (fun cv i wr => ∃ k c:Nat,∃ g:Nat → Nat,k ≤ n ∧ i = .int .i64 k ∧ cv = .int .u32 (c:Nat) ∧ TwR wr w b n f bit k c g) (fun _ i _ => n - (intOf i).toNat)
 case atStart => exact ⟨0,bit,f,Nat.zero_le _,rfl,rfl,Uh HR0⟩
 case round =>
  clear HR0
  obtain ⟨k,c,g,hk,rfl,rfl,hR⟩:=hrel
  by_cases hlt:k < n
  ·have hlt':(k:Int) < (n:Int):=by omega
   have g1:=(hR.fn k hlt).1
   have g2:=(hR.fn k hlt).2
   rw [Nat.zero_add] at g1 g2
   have bx:=hR.ok k hlt
   have hc:=hR.cle
   have HS:=hR.step hlt
   rw [Nat.zero_add] at HS
   have HS':=Hj HS
   have eo:=tw_or bx hc
   have e1:IntKind.u32.wrap (((g k:Nat):Int) * 2) = ((2 * g k % 4294967296:Nat):Int):=by rw [IntKind.wrap_u32]; omega
   have e2:(((g k:Nat):Int) * 2) % 4294967296 = ((2 * g k % 4294967296:Nat):Int):=by omega
   have e3:((g k:Nat):Int) / 2147483648 = ((g k / 2147483648:Nat):Int):=by omega
   have b3:g k / 2147483648 ≤ 1:=by omega
   generalize g k / 2147483648 = t at *
   have b2:2 * g k % 4294967296 < 4294967296:=by omega
   generalize 2 * g k % 4294967296 = d at *
   have b4:=tw_lt (x:=g k) hc
   generalize tw (g k) c = y at *
   generalize g k = x at *
   clear hR HS
   go_wp2_with fail
   exact ⟨⟨k + 1,_,_,by omega,by go_num,rfl,Uh HS'⟩,by simp [intOf]; omega⟩
  ·have hkn:k = n:=by omega
   have hlt':¬ (k:Int) < (n:Int):=by omega
   subst hkn
   have HR:=Hj hR
   clear hR
   go_wp2
   go_end0
   exact ⟨rfl,c,g,Uh HR⟩

def TkPost (w:World) (br n:Nat) (f:Nat → Nat) (V:Nat) (e:Ending) (w':World):Prop :=
 (valF f (n + 1) < V ∧ e = .returned (.bool false) ∧ ∃ k,w' = w.drewN k) ∨ (V ≤ valF f (n + 1) ∧ e = .returned (.bool true) ∧ ∃ g,Fn w' br 0 (n + 1) g ∧ (∀ i,i < n + 1 → g i < 4294967296) ∧ valF g (n + 1) + V = valF f (n + 1) ∧ Upd br 0 (n + 1) w w')

theorem Sl.upd' {w w':World} {b off n c bz lo hi:Nat} {xs:List Nat} (h:Sl w (some ⟨b,off,none⟩) n c xs) (u:Upd bz lo hi w w') (hd:b ≠ bz ∨ off + xs.length ≤ lo ∨ hi ≤ off):Sl w' (some ⟨b,off,none⟩) n c xs:=by
 refine ⟨h.len,h.le,h.cap,?_⟩
 rcases h.cells with e | ⟨b',o',e,hh⟩
 ·exact .inl e
 ·right
  injection e with e
  injection e with e1 e2
  subst e1 e2
  exact ⟨_,_,rfl,u.cells hh hd⟩

theorem lst_lt {f:Nat → Nat} {ys:List Nat} {n k:Nat} (hl:ys.length = n) (oy:Ok ys) (ok:∀ i,i < n + 1 → f i < 4294967296) (h0:f n = 0) (hk:k < n) (he:∀ j,k < j → j < n → f j = ys.getD j 0) :
  (f k < ys.getD k 0 → valF f (n + 1) < val ys) ∧ (ys.getD k 0 < f k → val ys < valF f (n + 1)):=by
 have e:valF f (n + 1) = val (lst f n):=by rw [lst_val]; simp only [valF]; rw [h0]; simp
 have hg:∀ j,k < j → (lst f n).getD j 0 = ys.getD j 0:=by
  intro j hj
  by_cases hjn:j < n
  ·rw [lst_getD f n j hjn]; exact he j hj hjn
  ·rw [getD_ge (by rw [lst_len]; omega),getD_ge (by omega)]
 have ol:Ok (lst f n):=lst_ok (fun i hi => ok i (by omega))
 rw [e]
 constructor
 ·intro h
  exact val_lt_of (i:=k) (by rw [lst_len,hl]) ol oy (by rw [lst_len]; exact hk) hg (by rw [lst_getD f n k hk]; exact h)
 ·intro h
  exact val_lt_of (i:=k) (by rw [lst_len,hl]) oy ol (by omega) (fun j hj => (hg j hj).symm) (by rw [lst_getD f n k hk]; exact h)

theorem lst_eq {f:Nat → Nat} {ys:List Nat} {n:Nat} (hl:ys.length = n) (h0:f n = 0) (he:∀ j,j < n → f j = ys.getD j 0):valF f (n + 1) = val ys:=by
 simp only [valF]
 rw [h0,valF_congr he,← hl,valF_list]
 simp

set_option maxHeartbeats 8000000 in
theorem takes_any (br n b2 o2 c2:Nat) (f:Nat → Nat) (ys:List Nat) (w:World) (h:Fn w br 0 (n + 1) f) (ok:∀ i,i < n + 1 → f i < 4294967296) (hn:n ≤ 1000000) (hn0:1 ≤ n) (h2:Sl w (some ⟨b2,o2,none⟩) n c2 ys) (oy:Ok ys) (hb:b2 ≠ br) :
  Calls Tryz.prog 76 #[.slice (some ⟨br,0,none⟩) (n + 1) (n + 1),.slice (some ⟨b2,o2,none⟩) n c2] w fun e w' => TkPost w br n f (val ys) e w':=by
 have HL:=Hj h2.len
 have H2:=Hj h2
 have HF:=Hj h
 have HO:=Hj ok
 have hyne:ys ≠ []:=by intro e; have:=h2.len; rw [e] at this; simp at this; omega
 have hcy:Cells w b2 o2 ys:=by
  obtain ⟨b',o',e,hc⟩:=h2.cells.resolve_left hyne
  cases e; exact hc
 have HCY:=Hj hcy
 have t1:=(h n (by omega)).1
 rw [Nat.zero_add] at t1
 have bt:=ok n (by omega)
 have i1:(n:Int) < (n:Int) + 1:=by omega
 clear h ok h2 hyne hcy
 by_cases hz:f n = 0
 ·have HZ:=Hj hz
  rw [hz] at t1
  clear hz
  go_enter Tryz.func76,Tryz.ntmps76
  go_wp2_with fail
  go_loopw [5] (fun i wr => ∃ k d:Nat,k ≤ n ∧ i = .int .i64 ((k:Int) - 1) ∧ wr = w.drewN d ∧ Hid (∀ j,k ≤ j → j < n → f j = ys.getD j 0)) (fun i _ => (intOf i + 1).toNat)
  case atStart => exact ⟨n,0,Nat.le_refl _,rfl,rfl,fun j h1 h2 => by omega⟩
  case round =>
   obtain ⟨k,d,hk,rfl,rfl,HE⟩:=hrel
   rcases k with _ | k
   ·have GE:=Hj (show val ys ≤ valF f (n + 1) from Nat.le_of_eq (lst_eq (Uh HL) (Uh HZ) (fun j hj => Uh HE j (Nat.zero_le _) hj)).symm)
    have t2:¬ (0:Int) ≤ ((0:Nat):Int) - 1:=by omega
    clear HE
    go_wp2_with fail
    go_quiet (fail)
    go_wp2_with fail
    go_quiet (fail)
    go_wp2_with fail
    go_loopw [6,7] (fun cv i wr => ∃ k c:Nat,∃ g:Nat → Nat,k ≤ n + 1 ∧ i = .int .i64 k ∧ cv = .int .u64 (c:Nat) ∧ SubR wr w br 0 (n + 1) f (valF (fun i => ys.getD i 0) k) k c g) (fun _ i _ => n + 1 - (intOf i).toNat)
    case atStart => exact ⟨0,0,f,Nat.zero_le _,rfl,rfl,⟨Nat.zero_le _,Uh HF,Uh HO,fun _ _ _ => rfl,rfl,(((Upd.refl _ _ _ _).drewN _).drewN _).drewN _⟩⟩
    case round =>
     obtain ⟨k,c,g,hk,rfl,rfl,hR⟩:=hrel
     by_cases hlt:k < n + 1
     ·have hlt':(k:Int) < (n:Int) + 1:=by omega
      have bx:=hR.ok k hlt
      have bY:=oy.getD k
      have g1:=(hR.fn k hlt).1
      have g2:=(hR.fn k hlt).2
      rw [Nat.zero_add] at g1 g2
      have KY:=Hj (rat_any (some ⟨b2,o2,none⟩) n c2 ys k wr.drew (((Uh H2).upd' hR.upd (.inl hb)).below (Below.refl _ _).drew) oy)
      have hs:=hR.step hlt (ys.getD k 0) bY
      rw [Nat.zero_add] at hs
      have HS:=Hj (show SubR _ w br 0 (n + 1) f (valF (fun i => ys.getD i 0) (k + 1)) (k + 1) _ _ from hs)
      have e1:=lim_int (g k) (ys.getD k 0) c bx bY hR.cle
      have e2:=bor_int (g k) (ys.getD k 0) c bx bY hR.cle
      have hc1:=hR.cle
      have hbl:=bor_le (g k) (ys.getD k 0 + c)
      have hll:=lim_lt (g k) (ys.getD k 0) c
      generalize g k = x at *
      generalize ys.getD k 0 = y at *
      generalize bor x (y + c) = cc at *
      clear hR hs
      go_wp2_with fail
      go_region_with (go_at_call 70; refine (Uh KY).mono ?_; rintro e w' ⟨rfl,hw⟩; obtain rfl:=hw.symm)
      all_goals
       go_wp2
       exact ⟨⟨k + 1,_,_,by omega,by go_num,rfl,(Uh HS).drew⟩,by simp [intOf]; omega⟩
     ·have hkn:k = n + 1:=by omega
      have hlt':¬ (k:Int) < (n:Int) + 1:=by omega
      have e2:valF (fun i => ys.getD i 0) k = val ys:=valF_ge ys k (by rw [Uh HL]; omega)
      rw [e2,hkn] at hR
      have hv:valF g (n + 1) + val ys = valF f (n + 1):=by
       have h3:=hR.val
       have h4:=valF_lt hR.ok
       have h5:=Uh GE
       rcases Nat.eq_zero_or_pos c with h0 | h0
       ·rw [h0,Nat.mul_zero] at h3; omega
       ·have:4294967296 ^ (n + 1) * 1 ≤ 4294967296 ^ (n + 1) * c:=Nat.mul_le_mul_left _ h0
        omega
      have HR:=Hj hR
      have HV:=Hj hv
      clear hR e2 hv hkn
      go_wp2
      go_ret
      exact .inr ⟨Uh GE,rfl,g,(Uh HR).fn,(Uh HR).ok,Uh HV,by have:=(Uh HR).upd; rwa [Nat.zero_add] at this⟩
   ·have t0:((k + 1:Nat):Int) - 1 = (k:Int):=by omega
    rw [t0]
    have hkn:k < n:=by omega
    have t3:(k:Int) < (n:Int):=by omega
    have t4:(k:Int) < (n:Int) + 1:=by omega
    have c1:=(Uh HF k (by omega)).1
    rw [Nat.zero_add] at c1
    have c2':=Uh HCY k (by rw [Uh HL]; exact hkn)
    have bf:=Uh HO k (by omega)
    have by':=oy.getD k
    have HLT:=Hj (lst_lt (Uh HL) oy (Uh HO) (Uh HZ) hkn (fun j h1 h2 => Uh HE j (by omega) h2))
    have HEQ:=Hj (fun (e:f k = ys.getD k 0) => show ∀ j,k ≤ j → j < n → f j = ys.getD j 0 from fun j h1 h2 => by
     rcases Nat.lt_or_eq_of_le h1 with h | h
     ·exact Uh HE j (by omega) h2
     ·subst h; exact e)
    generalize f k = u at *
    generalize ys.getD k 0 = v at *
    clear HE
    by_cases he:u = v
    ·have HN:=Hj (Uh HEQ he)
     subst he
     have t5:((u:Int) == (u:Int)) = true:=by simp
     go_wp2_with fail
     go_quiet (fail)
     go_wp2
     exact ⟨⟨k,_,by omega,rfl,rfl,Uh HN⟩,by simp [intOf]⟩
    ·have t5:((u:Int) == (v:Int)) = false:=by simp; omega
     have t6:¬ (u:Int) = (v:Int):=by omega
     by_cases hl:u < v
     ·have t7:(u:Int) < (v:Int):=by omega
      have LT:=Hj ((Uh HLT).1 hl)
      go_wp2_with fail
      go_quiet (fail)
      go_wp2_with fail
      go_quiet (fail)
      go_wp2
      go_ret
      exact .inl ⟨Uh LT,rfl,_,by rw [drewN_add,drewN_add]⟩
     ·have t7:¬ (u:Int) < (v:Int):=by omega
      have GE:=Hj (Nat.le_of_lt ((Uh HLT).2 (by omega)))
      clear HLT HEQ
      go_wp2_with fail
      go_quiet (fail)
      go_wp2_with fail
      go_quiet (fail)
      go_wp2_with fail
      go_loopw [6,7] (fun cv i wr => ∃ k c:Nat,∃ g:Nat → Nat,k ≤ n + 1 ∧ i = .int .i64 k ∧ cv = .int .u64 (c:Nat) ∧ SubR wr w br 0 (n + 1) f (valF (fun i => ys.getD i 0) k) k c g) (fun _ i _ => n + 1 - (intOf i).toNat)
      case atStart => exact ⟨0,0,f,Nat.zero_le _,rfl,rfl,⟨Nat.zero_le _,Uh HF,Uh HO,fun _ _ _ => rfl,rfl,(((Upd.refl _ _ _ _).drewN _).drewN _).drewN _⟩⟩
      case round =>
       obtain ⟨k,c,g,hk,rfl,rfl,hR⟩:=hrel
       by_cases hlt:k < n + 1
       ·have hlt':(k:Int) < (n:Int) + 1:=by omega
        have bx:=hR.ok k hlt
        have bY:=oy.getD k
        have g1:=(hR.fn k hlt).1
        have g2:=(hR.fn k hlt).2
        rw [Nat.zero_add] at g1 g2
        have KY:=Hj (rat_any (some ⟨b2,o2,none⟩) n c2 ys k wr.drew (((Uh H2).upd' hR.upd (.inl hb)).below (Below.refl _ _).drew) oy)
        have hs:=hR.step hlt (ys.getD k 0) bY
        rw [Nat.zero_add] at hs
        have HS:=Hj (show SubR _ w br 0 (n + 1) f (valF (fun i => ys.getD i 0) (k + 1)) (k + 1) _ _ from hs)
        have e1:=lim_int (g k) (ys.getD k 0) c bx bY hR.cle
        have e2:=bor_int (g k) (ys.getD k 0) c bx bY hR.cle
        have hc1:=hR.cle
        have hbl:=bor_le (g k) (ys.getD k 0 + c)
        have hll:=lim_lt (g k) (ys.getD k 0) c
        generalize g k = x at *
        generalize ys.getD k 0 = y at *
        generalize bor x (y + c) = cc at *
        clear hR hs
        go_wp2_with fail
        go_region_with (go_at_call 70; refine (Uh KY).mono ?_; rintro e w' ⟨rfl,hw⟩; obtain rfl:=hw.symm)
        all_goals
         go_wp2
         exact ⟨⟨k + 1,_,_,by omega,by go_num,rfl,(Uh HS).drew⟩,by simp [intOf]; omega⟩
       ·have hkn:k = n + 1:=by omega
        have hlt':¬ (k:Int) < (n:Int) + 1:=by omega
        have e2:valF (fun i => ys.getD i 0) k = val ys:=valF_ge ys k (by rw [Uh HL]; omega)
        rw [e2,hkn] at hR
        have hv:valF g (n + 1) + val ys = valF f (n + 1):=by
         have h3:=hR.val
         have h4:=valF_lt hR.ok
         have h5:=Uh GE
         rcases Nat.eq_zero_or_pos c with h0 | h0
         ·rw [h0,Nat.mul_zero] at h3; omega
         ·have:4294967296 ^ (n + 1) * 1 ≤ 4294967296 ^ (n + 1) * c:=Nat.mul_le_mul_left _ h0
          omega
        have HR:=Hj hR
        have HV:=Hj hv
        clear hR e2 hv hkn
        go_wp2
        go_ret
        exact .inr ⟨Uh GE,rfl,g,(Uh HR).fn,(Uh HR).ok,Uh HV,by have:=(Uh HR).upd; rwa [Nat.zero_add] at this⟩
 ·have GE:=Hj (show val ys ≤ valF f (n + 1) from by
   have h1:=val_lt oy
   rw [Uh HL] at h1
   simp only [valF]
   have h2:4294967296 ^ n * 1 ≤ 4294967296 ^ n * f n:=Nat.mul_le_mul_left _ (by omega)
   omega)
  have t5:(((f n:Nat):Int) == 0) = false:=by simp; omega
  have t6:¬ ((f n:Nat):Int) = 0:=by omega
  generalize f n = u at t1 t5 t6 bt hz
  go_enter Tryz.func76,Tryz.ntmps76
  go_wp2_with fail
  go_loopw [6,7] (fun cv i wr => ∃ k c:Nat,∃ g:Nat → Nat,k ≤ n + 1 ∧ i = .int .i64 k ∧ cv = .int .u64 (c:Nat) ∧ SubR wr w br 0 (n + 1) f (valF (fun i => ys.getD i 0) k) k c g) (fun _ i _ => n + 1 - (intOf i).toNat)
  case atStart => exact ⟨0,0,f,Nat.zero_le _,rfl,rfl,⟨Nat.zero_le _,Uh HF,Uh HO,fun _ _ _ => rfl,rfl,Upd.refl _ _ _ _⟩⟩
  case round =>
   obtain ⟨k,c,g,hk,rfl,rfl,hR⟩:=hrel
   by_cases hlt:k < n + 1
   ·have hlt':(k:Int) < (n:Int) + 1:=by omega
    have bx:=hR.ok k hlt
    have bY:=oy.getD k
    have g1:=(hR.fn k hlt).1
    have g2:=(hR.fn k hlt).2
    rw [Nat.zero_add] at g1 g2
    have KY:=Hj (rat_any (some ⟨b2,o2,none⟩) n c2 ys k wr.drew (((Uh H2).upd' hR.upd (.inl hb)).below (Below.refl _ _).drew) oy)
    have hs:=hR.step hlt (ys.getD k 0) bY
    rw [Nat.zero_add] at hs
    have HS:=Hj (show SubR _ w br 0 (n + 1) f (valF (fun i => ys.getD i 0) (k + 1)) (k + 1) _ _ from hs)
    have e1:=lim_int (g k) (ys.getD k 0) c bx bY hR.cle
    have e2:=bor_int (g k) (ys.getD k 0) c bx bY hR.cle
    have hc1:=hR.cle
    have hbl:=bor_le (g k) (ys.getD k 0 + c)
    have hll:=lim_lt (g k) (ys.getD k 0) c
    generalize g k = x at *
    generalize ys.getD k 0 = y at *
    generalize bor x (y + c) = cc at *
    clear hR hs
    go_wp2_with fail
    go_region_with (go_at_call 70; refine (Uh KY).mono ?_; rintro e w' ⟨rfl,hw⟩; obtain rfl:=hw.symm)
    all_goals
     go_wp2
     exact ⟨⟨k + 1,_,_,by omega,by go_num,rfl,(Uh HS).drew⟩,by simp [intOf]; omega⟩
   ·have hkn:k = n + 1:=by omega
    have hlt':¬ (k:Int) < (n:Int) + 1:=by omega
    have e2:valF (fun i => ys.getD i 0) k = val ys:=valF_ge ys k (by rw [Uh HL]; omega)
    rw [e2,hkn] at hR
    have hv:valF g (n + 1) + val ys = valF f (n + 1):=by
     have h3:=hR.val
     have h4:=valF_lt hR.ok
     have h5:=Uh GE
     rcases Nat.eq_zero_or_pos c with h0 | h0
     ·rw [h0,Nat.mul_zero] at h3; omega
     ·have:4294967296 ^ (n + 1) * 1 ≤ 4294967296 ^ (n + 1) * c:=Nat.mul_le_mul_left _ h0
      omega
    have HR:=Hj hR
    have HV:=Hj hv
    clear hR e2 hv hkn
    go_wp2
    go_ret
    exact .inr ⟨Uh GE,rfl,g,(Uh HR).fn,(Uh HR).ok,Uh HV,by have:=(Uh HR).upd; rwa [Nat.zero_add] at this⟩
set_option maxHeartbeats 1000000 in
theorem rshr_any (a:Option Addr) (n c:Nat) (xs:List Nat) (w:World) (k:Int) (h:Sl w a n c xs) (ox:Ok xs) :
  Calls Tryz.prog 73 #[.slice a n c,.int .i64 k] w fun e w' => Res2 w w' (shrL xs k) e:=by
 have K1:=rmay_any a n c xs w h
 by_cases m1:MayL xs = true
 ·rw [m1] at K1
  have K1':=Hj K1
  by_cases hlo:k < 0
  ·have HC:=Hj (show shrL xs k = ([],1) from by unfold shrL; rw [m1]; simp; omega)
   clear K1 m1 h ox
   go_enter Tryz.func73,Tryz.ntmps73
   go_wp2_with fail
   refine (Uh K1').mono ?_
   rintro e w' ⟨rfl,hw⟩
   obtain rfl:=hw.symm
   go_wp2
   go_ret2
   rw [Uh HC]
   exact ⟨none,0,0,rfl,sl_nil _,newAt_nil _,Below.refl _ _⟩
  ·by_cases hhi:65536 < k
   ·have HC:=Hj (show shrL xs k = ([],1) from by unfold shrL; rw [m1]; simp; omega)
    clear K1 m1 h ox
    go_enter Tryz.func73,Tryz.ntmps73
    go_wp2_with fail
    refine (Uh K1').mono ?_
    rintro e w' ⟨rfl,hw⟩
    obtain rfl:=hw.symm
    go_wp2
    go_ret2
    rw [Uh HC]
    exact ⟨none,0,0,rfl,sl_nil _,newAt_nil _,Below.refl _ _⟩
   ·obtain ⟨k,rfl⟩:=Int.eq_ofNat_of_zero_le (show 0 ≤ k by omega)
    have hn:n ≤ 2048:=by have:=h.len; have:=MayL.len m1; omega
    rw [show shrL xs k = (limbs (val xs / 2 ^ k),0) from by unfold shrL; rw [m1]; simp; omega]
    exact rshr_core a n c xs w k (k / 32) (k % 32) h ox (by omega) (by omega) (by omega) (by omega) hn K1'
 ·have m1':MayL xs = false:=by simpa using m1
  rw [m1'] at K1
  have K1':=Hj K1
  have HC:=Hj (show shrL xs k = ([],20) from by unfold shrL; rw [m1']; simp)
  clear K1 m1 m1' h ox
  go_enter Tryz.func73,Tryz.ntmps73
  go_wp2_with fail
  refine (Uh K1').mono ?_
  rintro e w' ⟨rfl,hw⟩
  obtain rfl:=hw.symm
  go_wp2
  go_ret2
  rw [Uh HC]
  exact ⟨none,0,0,rfl,sl_nil _,newAt_nil _,Below.refl _ _⟩
end Go.Proofs.YtjoaijbhpgekoaaGreatDoor
