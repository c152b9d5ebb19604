/- Fo2 -/
import Derived.Test.YtncolonhdjkglaaGreatDoorFo1
import Derived.Test.YtncolonhdjkglaaGreatDoorMul
import Derived.Test.YtncolonhdjkglaaGreatDoorShr
import Derived.Test.YtncolonhdjkglaaGreatDoorBy6
namespace Go.Proofs.YtncolonhdjkglaaGreatDoor
open Go.RowKit Go.Deep
set_option linter.unusedVariables false

def sumV:List Pc → Nat
 | [] => 0
 | p :: ps => val p.xs + sumV ps
def sumL (ps:List Pc):List Nat × Int:=if mayB ps = true then fitL (sumV ps) else ([],20)
theorem sumV_append (xs ys:List Pc):sumV (xs ++ ys) = sumV xs + sumV ys:=by
 induction xs with
 | nil => simp [sumV]
 | cons p xs ih => simp only [List.cons_append,sumV,ih]; omega
theorem sumV_take {ps:List Pc} {i:Nat} {p:Pc} (h:ps[i]? = some p):sumV (ps.take (i + 1)) = sumV (ps.take i) + val p.xs:=by
 obtain ⟨hi,e⟩:=List.getElem?_eq_some_iff.1 h
 rw [List.take_succ_eq_append_getElem hi,sumV_append,e]
 simp [sumV]
theorem limbs_len_monoF {v u:Nat} (h:v ≤ u):(limbs v).length ≤ (limbs u).length:=by
 have h1:=val_lt (limbs_rep u).ok
 rw [(limbs_rep u).val] at h1
 refine rep_len_le (limbs_rep v) (by omega)
theorem sum_bound {w:World} {a:Option Addr} {n c:Nat} {ps:List Pc} (h:SlL w a n c ps) {g:Nat} (hg:∀ j p,j < n → ps[j]? = some p → p.n ≤ g):∀ i,i ≤ n → sumV (ps.take i) ≤ i * 4294967296 ^ g
 | 0,_ => by simp [sumV]
 | i + 1,hi => by
  have ih:=sum_bound h hg i (by omega)
  obtain ⟨b,off,p,e,hp,hc,hs,ok⟩:=h.at' (show i < n by omega)
  rw [sumV_take hp,Nat.succ_mul]
  have h1:=val_lt ok
  rw [hs.len] at h1
  have h2:4294967296 ^ p.n ≤ 4294967296 ^ g:=pow_mono (hg i p (by omega) hp)
  omega

structure AaR (wr w:World) (M:Nat) (ps:List Pc) (i:Nat) (f:Nat → Nat):Prop where
 fn:Fn wr w.heap.size 0 M f
 ok:∀ i,i < M → f i < 4294967296
 val:valF f M = sumV (ps.take i)
 bel:Below w.heap.size w wr

theorem sum_small {n i g M S:Nat} (hn:n ≤ 140737488355328) (hi:i ≤ n) (hM:g + 2 = M) (h:S ≤ i * 4294967296 ^ g):S < 4294967296 ^ M:=by
 rw [← hM,Nat.pow_add]
 have h1:i * 4294967296 ^ g ≤ 140737488355328 * 4294967296 ^ g:=Nat.mul_le_mul_right _ (by omega)
 have h2:0 < 4294967296 ^ g:=Nat.pow_pos (by decide)
 have h3:(4294967296:Nat) ^ 2 = 18446744073709551616:=by decide
 rw [h3]
 generalize 4294967296 ^ g = Y at *
 omega

set_option maxHeartbeats 4000000 in
theorem naddAll_any (a:Option Addr) (n c:Nat) (ps:List Pc) (w:World) (h:SlL w a n c ps) (hn:n ≤ 140737488355328) (hm:mayB ps = true) :
  Calls Tryz.prog 161 #[.slice a n c] w fun e w' => NewRep w w' (sumV ps) e:=by
 have H:=Hd h
 have HL:=Hd h.len
 have HM:=Hd hm
 clear h hm
 go_enter Tryz.func161,Tryz.ntmps161
 go_wp2_with fail
 go_loop [3,9] (fun gv iv => ∃ i g:Nat,i ≤ n ∧ g ≤ 2048 ∧ gv = .int .i64 (g:Nat) ∧ iv = .int .i64 (i:Nat) ∧ Hid (∀ j p,j < i → ps[j]? = some p → p.n ≤ g)) (fun _ iv => n - (intOf iv).toNat)
 case atStart => exact ⟨0,0,Nat.zero_le _,Nat.zero_le _,rfl,rfl,fun j p hj => by omega⟩
 case round =>
  obtain ⟨i,g,hi,hg,rfl,rfl,HA⟩:=hrel
  by_cases hlt:i < n
  ·have hlt':(i:Int) < (n:Int):=by omega
   obtain ⟨b,off,p,rfl,hp,hc,hs,ok⟩:=(Uh H).at' hlt
   have hmp:=mayB_get (Uh HM) hp
   have hl:=hs.len
   have hml:=MayL.len hmp
   have hpn:p.n ≤ 2048:=by omega
   have HP:=Hd hp
   clear hp hs ok hmp hl hml
   by_cases hgl:g < p.n
   ·have HA2:=Hd (show ∀ j q,j < i + 1 → ps[j]? = some q → q.n ≤ p.n from fun j q hj hq => by
     by_cases e:j = i
     ·subst e
      rw [Uh HP] at hq
      cases hq
      exact Nat.le_refl _
     ·have:=Uh HA j q (by omega) hq; omega)
    have g1:(g:Int) < (p.n:Int):=by omega
    have g2:max (g:Int) (p.n:Int) = (p.n:Int):=by omega
    clear HA HP
    go_wp2_with fail
    exact ⟨⟨i + 1,p.n,by omega,hpn,by simp,by go_num,Uh HA2⟩,by simp [intOf]; omega⟩
   ·have HA2:=Hd (show ∀ j q,j < i + 1 → ps[j]? = some q → q.n ≤ g from fun j q hj hq => by
     by_cases e:j = i
     ·subst e
      rw [Uh HP] at hq
      cases hq
      omega
     ·exact Uh HA j q (by omega) hq)
    have g1:¬ (g:Int) < (p.n:Int):=by omega
    have g2:max (g:Int) (p.n:Int) = (g:Int):=by omega
    clear HA HP
    go_wp2_with fail
    exact ⟨⟨i + 1,g,by omega,hg,by simp,by go_num,Uh HA2⟩,by simp [intOf]; omega⟩
  ·obtain rfl:i = n:=by omega
   have hlt':¬ (i:Int) < (i:Int):=by omega
   obtain ⟨n,rfl⟩:∃ n,n = i:=⟨i,rfl⟩
   obtain ⟨M,hM⟩:∃ M,g + 2 = M:=⟨_,rfl⟩
   have hM1:(g:Int) + 2 = (M:Int):=by omega
   have hmk:=make_len M (by omega)
   have HF:=Hd (Fn.made w M 64)
   have HB:=Hd ((Below.refl w.heap.size w).alloc (Nat.le_refl _) (.cells (madeCells #[.int .u32 0] M) 64))
   have HMe:=Hd hM
   clear hM
   go_wp2_with fail
   go_loopw [25] (fun iv wr => ∃ (i:Nat) (f:Nat → Nat),i ≤ n ∧ iv = .int .i64 (i:Nat) ∧ AaR wr w M ps i f) (fun iv _ => n - (intOf iv).toNat)
   case atStart => exact ⟨0,_,Nat.zero_le _,rfl,Uh HF,fun i hi => by simp,by rw [valF_zero]; simp [sumV],Uh HB⟩
   case round =>
    clear HF HB
    obtain ⟨i,f,hi,rfl,hR⟩:=hrel
    by_cases hlt:i < n
    ·have hlt':(i:Int) < (n:Int):=by omega
     obtain ⟨b,off,p,rfl,hp,hc,hs,ok⟩:=((Uh H).below hR.bel).at' hlt
     have hpg:=Uh HA i p hlt hp
     obtain ⟨b',off',p',e',hp',hc',hs',ok'⟩:=(Uh H).at' hlt
     rw [hp] at hp'
     cases hp'
     have KA:=addTo_any w.heap.size 0 M M p.n p.c p.a f p.xs wr hs (fun x hx hne => by have:=hs'.block_lt hne x hx; omega) (by have:=Uh HMe; omega) (by unfold maxLen; have:=Uh HMe; omega) ok hR.ok hR.fn
     have hsm:=sum_small (i:=i + 1) hn (by omega) (Uh HMe) (sum_bound (Uh H) (Uh HA) (i + 1) (by omega))
     have KA':=Hd KA
     have HS:=Hd (And.intro hsm (And.intro hR.val (And.intro hR.bel (sumV_take hp))))
     clear KA hR hp hs ok hs' ok' hc' e' hsm hpg
     go_wp2_with fail
     refine (Uh KA').mono ?_
     rintro _ w2 ⟨f2,c2,rfl,hc2,fn2,ok2,v2,u2⟩
     have hh:=Uh HS
     have hc0:c2 = 0:=by
      rw [hh.2.1,← hh.2.2.2] at v2
      rcases Nat.eq_zero_or_pos c2 with e | e
      ·exact e
      ·exfalso
       have:4294967296 ^ M * 1 ≤ 4294967296 ^ M * c2:=Nat.mul_le_mul_left _ e
       have:=hh.1
       omega
     subst hc0
     rw [hh.2.1,← hh.2.2.2,Nat.mul_zero,Nat.add_zero] at v2
     have HN:=Hd (show AaR w2 w M ps (i + 1) f2 from ⟨fn2,ok2,v2,hh.2.2.1.trans (u2.below (Nat.le_refl _) hh.2.2.1.size)⟩)
     clear fn2 ok2 v2 u2 hh HS KA' hc2
     go_wp2_with fail
     exact ⟨⟨i + 1,f2,by omega,by go_num,Uh HN⟩,by simp [intOf]; omega⟩
    ·obtain rfl:i = n:=by omega
     have hlt':¬ (i:Int) < (i:Int):=by omega
     have hv:=hR.val
     rw [List.take_of_length_le (by rw [Uh HL]; exact Nat.le_refl _)] at hv
     have KT:=trim_any (some ⟨w.heap.size,0,none⟩) M M (lst f M) wr (hR.fn.sl (Nat.le_refl _) (by unfold maxLen; have:=Uh HMe; omega)) (lst_ok hR.ok)
     rw [lst_val,hv] at KT
     have KT':=Hd KT
     have HB2:=Hd hR.bel
     clear KT hR hv
     go_wp2_with fail
     refine (Uh KT').mono ?_
     rintro _ _ ⟨a',m',ys,rfl,hs,hr,ha,hw⟩
     obtain rfl:=hw.symm
     have HX:=Hd (And.intro hs (And.intro hr ha))
     clear hs hr ha hw KT'
     go_wp2_with fail
     go_ret
     refine ⟨a',m',ys,rfl,(Uh HX).1,(Uh HX).2.1,fun x hx => ?_,Uh HB2⟩
     rcases (Uh HX).2.2 with e | e
     ·rw [e] at hx; cases hx; exact Nat.le_refl _
     ·rw [e] at hx; cases hx

set_option maxHeartbeats 4000000 in
theorem nsum_any (a:Option Addr) (n c:Nat) (ps:List Pc) (w:World) (h:SlL w a n c ps) (hn:n ≤ 140737488355328) :
  Calls Tryz.prog 148 #[.slice a n c] w fun e w' => Res2 w w' (sumL ps) e:=by
 have KA:=nmayAll_any a n c ps w h hn
 cases hm:mayB ps
 ·rw [hm] at KA
  have KA':=Hd KA
  have HR:=Hd (show sumL ps = ([],20) from by unfold sumL; rw [hm]; rfl)
  clear KA hm h
  go_enter Tryz.func148,Tryz.ntmps148
  go_wp2_with fail
  refine (Uh KA').mono ?_
  rintro _ _ ⟨rfl,hw⟩
  obtain rfl:=hw.symm
  clear hw
  go_wp2_with fail
  go_ret2
  rw [Uh HR]
  exact ⟨none,0,0,rfl,sl_nil _,newAt_nil _,Below.refl _ _⟩
 ·rw [hm] at KA
  have KA':=Hd KA
  have HR:=Hd (show sumL ps = fitL (sumV ps) from by unfold sumL; rw [if_pos hm])
  have KS:=Hd (naddAll_any a n c ps w h hn hm)
  clear KA hm h
  go_enter Tryz.func148,Tryz.ntmps148
  go_wp2_with fail
  refine (Uh KA').mono ?_
  rintro _ _ ⟨rfl,hw⟩
  obtain rfl:=hw.symm
  clear hw
  go_wp2_with fail
  refine (Uh KS).mono ?_
  rintro _ w1 ⟨a1,m1,y1,rfl,s1,r1,n1,b1⟩
  have KF:=Hd (fit_any a1 m1 m1 (sumV ps) y1 w1 s1 r1)
  have H1:=Hd (And.intro n1 b1)
  clear s1 r1 n1 b1 KS
  go_wp2_with fail
  refine (Uh KF).mono ?_
  rintro _ _ ⟨a2,m2,c2,rfl,s2,ha2,hw⟩
  obtain rfl:=hw.symm
  have H2:=Hd (And.intro s2 ha2)
  clear s2 ha2 hw KF
  go_wp2_with fail
  go_ret2
  rw [Uh HR]
  refine ⟨a2,m2,c2,rfl,(Uh H2).1,fun x hx => ?_,(Uh H1).2⟩
  rcases (Uh H2).2 with e | e
  ·rw [e] at hx; exact (Uh H1).1 x hx
  ·rw [e] at hx; cases hx
theorem tz_and:∀ (f x:Nat),0 < x → x < 2 ^ f → x &&& (2 ^ f - x) = 2 ^ Lib.ntzAux f x
 | 0,x,h0,h => by simp at h; omega
 | f + 1,x,h0,h => by
  have hp:2 ^ (f + 1) = 2 * 2 ^ f:=by rw [Nat.pow_succ,Nat.mul_comm]
  have hq:=Nat.two_pow_pos f
  rw [hp] at h ⊢
  have hd:=Nat.div_add_mod (x &&& (2 * 2 ^ f - x)) 2
  have hm:=and_m2 x (2 * 2 ^ f - x)
  rw [Nat.and_div_two] at hd
  simp only [Lib.ntzAux]
  rcases Nat.mod_two_eq_zero_or_one x with e | e
  ·rw [if_neg (by omega)]
   have e1:(2 * 2 ^ f - x) / 2 = 2 ^ f - x / 2:=by omega
   rw [e1,tz_and f (x / 2) (by omega) (by omega)] at hd
   rw [e,Nat.zero_mul] at hm
   rw [show 1 + Lib.ntzAux f (x / 2) = Lib.ntzAux f (x / 2) + 1 from by omega,Nat.pow_succ]
   omega
  ·rw [if_pos e]
   have e1:(2 * 2 ^ f - x) / 2 = 2 ^ f - 1 - x / 2:=by omega
   have e2:(2 * 2 ^ f - x) % 2 = 1:=by omega
   have e3:=and_not_add f (x / 2) (x / 2) (by omega) (by omega)
   rw [Nat.and_self] at e3
   rw [e1] at hd
   rw [e,e2] at hm
   simp only [Nat.pow_zero]
   omega

theorem tz_lt:∀ (f x:Nat),0 < x → x < 2 ^ f → Lib.ntzAux f x < f
 | 0,x,h0,h => by simp at h; omega
 | f + 1,x,h0,h => by
  rw [Nat.pow_succ] at h
  simp only [Lib.ntzAux]
  split
  ·omega
  ·have:=tz_lt f (x / 2) (by omega) (by omega)
   omega

theorem tz_bit:∀ (f x:Nat),0 < x → x < 2 ^ f → x / 2 ^ Lib.ntzAux f x % 2 = 1 ∧ ∀ s,s < Lib.ntzAux f x → x / 2 ^ s % 2 = 0
 | 0,x,h0,h => by simp at h; omega
 | f + 1,x,h0,h => by
  rw [Nat.pow_succ] at h
  simp only [Lib.ntzAux]
  split
  ·rename_i e
   exact ⟨by simpa using e,fun s hs => by omega⟩
  ·rename_i e
   have:=tz_bit f (x / 2) (by omega) (by omega)
   refine ⟨?_,?_⟩
   ·rw [show 1 + Lib.ntzAux f (x / 2) = Lib.ntzAux f (x / 2) + 1 from by omega,Nat.pow_succ,Nat.mul_comm,← Nat.div_div_eq_div_mul]
    exact this.1
   ·intro s hs
    cases s with
    | zero => simp; omega
    | succ s =>
     rw [Nat.pow_succ,Nat.mul_comm,← Nat.div_div_eq_div_mul]
     exact this.2 s (by omega)

theorem p32:(2:Nat) ^ 32 = 4294967296:=by decide
def pl (x y c:Nat):Nat:=(x * y + c) % 4294967296
def ph (x y c:Nat):Nat:=(x * y + c) / 4294967296
theorem pl_lt (x y c:Nat):pl x y c < 4294967296:=by unfold pl; exact Nat.mod_lt _ (by decide)
theorem pl_eq (x y c:Nat):pl x y c + 4294967296 * ph x y c = x * y + c:=by unfold pl ph; exact Nat.mod_add_div _ _
theorem pl_int (x y c:Nat):((x:Int) * y + c) % 4294967296 = ((pl x y c:Nat):Int):=by unfold pl; rw [Int.natCast_emod,Int.natCast_add,Int.natCast_mul]; rfl
theorem ph_int (x y c:Nat):((x:Int) * y + c) / 4294967296 = ((ph x y c:Nat):Int):=by unfold ph; rw [Int.natCast_ediv,Int.natCast_add,Int.natCast_mul]; rfl
theorem ph_lt {x y c u:Nat} (hx:x < 4294967296) (hy:y < 4294967296) (hc:c < 4294967296) (hu:u < 4294967296):ph x y c + bor u (pl x y c) < 4294967296:=by
 have e:=pl_eq x y c
 have h1:x * y ≤ 4294967295 * 4294967295:=Nat.mul_le_mul (by omega) (by omega)
 unfold bor
 split <;> omega

structure StR (wr w:World) (bz oz n:Nat) (f:Nat → Nat) (g:Nat) (ys:List Nat) (k c:Nat) (h:Nat → Nat):Prop where
 cle:c < 4294967296
 fn:Fn wr bz oz n h
 ok:∀ i,i < n → h i < 4294967296
 eq:∀ i,k ≤ i → i < n → h i = f i
 val:valF h k + g * valF (fun i => ys.getD i 0) k = valF f k + 4294967296 ^ k * c
 upd:Upd bz oz (oz + n) w wr

theorem st_arith {A G Y F P c h' y g f c':Nat} (e:A + g * Y = F + P * c) (s:h' + (y * g + c) = f + 4294967296 * c'):A + P * h' + g * (Y + P * y) = F + P * f + P * 4294967296 * c':=by
 have:P * (h' + (y * g + c)) = P * (f + 4294967296 * c'):=by rw [s]
 rw [Nat.mul_add,Nat.mul_add,Nat.mul_add,← Nat.mul_assoc P 4294967296] at this
 rw [Nat.mul_add g,Nat.mul_left_comm g P y,Nat.mul_comm g y]
 omega

theorem StR.step {wr w:World} {bz oz n:Nat} {f:Nat → Nat} {g:Nat} {ys:List Nat} {k c:Nat} {h:Nat → Nat} (s:StR wr w bz oz n f g ys k c h) (hk:k < n) (hg:g < 4294967296) (hy:ys.getD k 0 < 4294967296) :
  StR (wr.setCell ⟨bz,oz + k,none⟩ (.int .u32 (lim (h k) (pl (ys.getD k 0) g c) 0:Nat))) w bz oz n f g ys (k + 1) (ph (ys.getD k 0) g c + bor (h k) (pl (ys.getD k 0) g c)) (fun i => if i = k then lim (h k) (pl (ys.getD k 0) g c) 0 else h i):=by
 have e1:=pl_eq (ys.getD k 0) g c
 have e2:=lim_eq (h k) (pl (ys.getD k 0) g c) 0 (s.ok k hk) (pl_lt _ _ _) (by decide)
 refine ⟨ph_lt hy hg s.cle (s.ok k hk),s.fn.set k _ hk,?_,?_,?_,s.upd.set _ _ (by omega) (by omega)⟩
 ·intro i hi
  by_cases e:i = k
  ·simp only [e,if_true]; exact lim_lt _ _ _
  ·simp only [e,if_false]; exact s.ok i hi
 ·intro i h1 h2
  rw [if_neg (by omega)]
  exact s.eq i (by omega) h2
 ·simp only [valF,if_true]
  rw [valF_congr (g:=h) (fun i hi => by rw [if_neg (by omega)]),Nat.pow_succ]
  refine st_arith (G:=0) s.val ?_
  rw [← s.eq k (Nat.le_refl _) hk]
  simp only [Nat.add_zero] at e2
  omega

theorem StR.drewN {wr w:World} {bz oz n:Nat} {f:Nat → Nat} {g:Nat} {ys:List Nat} {k c:Nat} {h:Nat → Nat} (s:StR wr w bz oz n f g ys k c h) (j:Nat):StR (wr.drewN j) w bz oz n f g ys k c h:=⟨s.cle,s.fn,s.ok,s.eq,s.val,s.upd.drewN j⟩

def StPost (w:World) (bz oz n:Nat) (f:Nat → Nat) (g:Nat) (ys:List Nat) (e:Ending) (w':World):Prop :=
 ∃ (c:Nat) (h:Nat → Nat),e = .returned (.int .u32 (c:Nat)) ∧ c < 4294967296 ∧ Fn w' bz oz n h ∧ (∀ i,i < n → h i < 4294967296) ∧ valF h n + g * val ys = valF f n + 4294967296 ^ n * c ∧ Upd bz oz (oz + n) w w'

set_option maxHeartbeats 2000000 in
theorem subTimes_any (bz oz n cz bv ov cv g:Nat) (f:Nat → Nat) (ys:List Nat) (w:World) (hn:n ≤ 1000000000) (hl:ys.length = n) (oy:Ok ys) (ok:∀ i,i < n → f i < 4294967296) (h:Fn w bz oz n f) (hy:Cells w bv ov ys) (hb:bv ≠ bz) (hg:g < 4294967296) :
  Calls Tryz.prog 170 #[.slice (some ⟨bz,oz,none⟩) n cz,.slice (some ⟨bv,ov,none⟩) n cv,.int .u32 (g:Nat)] w fun e w' => StPost w bz oz n f g ys e w':=by
 have HR0:=Hd (show StR w w bz oz n f g ys 0 0 f from ⟨by decide,h,ok,fun _ _ _ => rfl,by simp [valF],Upd.refl _ _ _ _⟩)
 have HY:=Hd hy
 have HL:=Hd hl
 clear h ok hy hl
 go_enter Tryz.func170,Tryz.ntmps170
 go_wp2
 go_loopw [7,12] (fun cv i wr => ∃ k c:Nat,∃ h:Nat → Nat,k ≤ n ∧ i = .int .i64 k ∧ cv = .int .u64 (c:Nat) ∧ StR wr w bz oz n f g ys k c h) (fun _ i _ => n - (intOf i).toNat)
 case atStart => exact ⟨0,0,f,Nat.zero_le _,rfl,rfl,Uh HR0⟩
 case round =>
  clear HR0
  obtain ⟨k,c,h,hk,rfl,rfl,hR⟩:=hrel
  by_cases hlt:k < n
  ·have hlt':(k:Int) < (n:Int):=by omega
   have g1:=(hR.fn k hlt).1
   have g2:=(hR.fn k hlt).2
   have g3:=hR.upd.cells (Uh HY) (.inl hb) k (by rw [Uh HL]; exact hlt)
   have by':=oy.getD k
   have br:=hR.ok k hlt
   have hc:=hR.cle
   have HS:=Hd (hR.step hlt hg by')
   have mb:((ys.getD k 0:Nat):Int) * ((g:Nat):Int) ≤ 18446744065119617025:=by
    have:=mul_bound by' hg
    rw [← Int.natCast_mul]; omega
   have mb0:0 ≤ ((ys.getD k 0:Nat):Int) * ((g:Nat):Int):=Int.mul_nonneg (by omega) (by omega)
   have e1:=pl_int (ys.getD k 0) g c
   have e2:=ph_int (ys.getD k 0) g c
   have bp:=pl_lt (ys.getD k 0) g c
   have bh:=ph_lt by' hg hc br
   have e3:((h k:Nat):Int) - ((pl (ys.getD k 0) g c:Nat):Int) = ((h k:Nat):Int) - ((pl (ys.getD k 0) g c:Nat):Int) - ((0:Nat):Int):=by omega
   have e4:=sub_mod (h k) (pl (ys.getD k 0) g c) 0 br bp (by decide)
   rw [← e3] at e4
   clear e3
   generalize ys.getD k 0 = y at *
   generalize pl y g c = p at *
   generalize ph y g c = q at *
   generalize hrr:h k = r at *
   have HQ:=Hd hrr
   clear hR hrr
   by_cases hs:r < p
   ·have hs':(r:Int) < (p:Int):=by omega
    have eb:bor r p = 1:=by unfold bor; rw [if_pos hs]
    rw [eb] at HS bh
    clear eb
    go_wp2_with fail
    exact ⟨⟨k + 1,_,_,by omega,by go_num,by go_num,Uh HS⟩,by simp [intOf]; omega⟩
   ·have hs':¬ (r:Int) < (p:Int):=by omega
    have eb:bor r p = 0:=by unfold bor; rw [if_neg hs]
    have e5:((lim r p 0:Nat):Int) = (r:Int) - (p:Int):=by rw [← e4]; omega
    rw [eb,e5] at HS
    rw [eb] at bh
    clear eb e5
    go_wp2_with fail
    exact ⟨⟨k + 1,_,_,by omega,by go_num,by go_num,Uh HS⟩,by simp [intOf]; omega⟩
  ·have hkn:k = n:=by omega
   have hc:=hR.cle
   have hv:valF h n + g * val ys = valF f n + 4294967296 ^ n * c:=by
    have hv:=hR.val
    rw [hkn] at hv
    rw [← Uh HL,valF_list,Uh HL] at hv
    exact hv
   have HR:=Hd (And.intro hR hv)
   clear hR hv hkn
   go_wp2
   go_ret
   exact ⟨c,h,rfl,hc,(Uh HR).1.fn,(Uh HR).1.ok,(Uh HR).2,(Uh HR).1.upd⟩
end Go.Proofs.YtncolonhdjkglaaGreatDoor
