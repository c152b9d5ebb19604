/- Fo1 -/
import Derived.Test.YtmnlhnmlgncedaaGreatDoorPa2
import Derived.Test.YtmnlhnmlgncedaaGreatDoorGi
import Derived.Test.YtmnlhnmlgncedaaGreatDoorNMul
import Derived.Test.YtmnlhnmlgncedaaGreatDoorCmp
import Derived.Test.YtmnlhnmlgncedaaGreatDoorMul
import Derived.Test.YtmnlhnmlgncedaaGreatDoorShl
namespace Go.Proofs.YtmnlhnmlgncedaaGreatDoor
open Go.RowKit Go.Deep
set_option linter.unusedVariables false
structure SlL (w:World) (a:Option Addr) (n c:Nat) (ps:List Pc):Prop where
 len:ps.length = n
 le:n ≤ c
 cells:ps = [] ∨ ∃ b off,a = some ⟨b,off,none⟩ ∧ ∀ i p,ps[i]? = some p → w.cell? ⟨b,off + i,none⟩ = some (.slice p.a p.n p.c)
 each:∀ p ∈ ps,Sl w p.a p.n p.c p.xs ∧ Ok p.xs

theorem SlL.below {w w':World} {a:Option Addr} {n c:Nat} {ps:List Pc} (h:SlL w a n c ps) (k:Below w.heap.size w w'):SlL w' a n c ps:=by
 refine ⟨h.len,h.le,?_,fun p hp => ⟨(h.each p hp).1.below k,(h.each p hp).2⟩⟩
 rcases h.cells with e | ⟨b,off,e,hc⟩
 ·exact .inl e
 ·refine .inr ⟨b,off,e,fun i p hp => ?_⟩
  have h1:=hc i p hp
  have hb:=World.block_lt_of_cell? _ _ h1
  have:w'.cell? ⟨b,off + i,none⟩ = w.cell? ⟨b,off + i,none⟩:=by unfold World.cell?; simp only; rw [k.block b hb]
  rw [this]; exact h1

theorem SlL.at' {w:World} {a:Option Addr} {n c:Nat} {ps:List Pc} (h:SlL w a n c ps) {i:Nat} (hi:i < n) :
  ∃ b off p,a = some ⟨b,off,none⟩ ∧ ps[i]? = some p ∧ w.cell? ⟨b,off + i,none⟩ = some (.slice p.a p.n p.c) ∧ Sl w p.a p.n p.c p.xs ∧ Ok p.xs:=by
 have hl:=h.len
 have hi':i < ps.length:=by omega
 have hp:ps[i]? = some ps[i]:=List.getElem?_eq_getElem hi'
 rcases h.cells with e | ⟨b,off,e,hc⟩
 ·rw [e] at hl; simp at hl; omega
 ·exact ⟨b,off,ps[i],e,hp,hc i _ hp,h.each _ (List.getElem_mem hi')⟩

def mayB (ps:List Pc):Bool:=ps.all (fun p => MayL p.xs)

theorem mayB_get {ps:List Pc} (h:mayB ps = true) {i:Nat} {p:Pc} (hp:ps[i]? = some p):MayL p.xs = true:=by
 unfold mayB at h
 rw [List.all_eq_true] at h
 exact h p (List.mem_of_getElem? hp)
theorem mayB_false {ps:List Pc} {i:Nat} {p:Pc} (hp:ps[i]? = some p) (h:MayL p.xs = false):mayB ps = false:=by
 cases hm:mayB ps
 ·rfl
 ·have:=mayB_get hm hp
  rw [h] at this
  cases this
theorem mayB_true {ps:List Pc} {n:Nat} (hl:ps.length = n) (h:∀ i p,i < n → ps[i]? = some p → MayL p.xs = true):mayB ps = true:=by
 unfold mayB
 rw [List.all_eq_true]
 intro p hp
 obtain ⟨i,hi,e⟩:=List.getElem_of_mem hp
 exact h i p (by omega) (by rw [List.getElem?_eq_getElem hi,e])

set_option maxHeartbeats 4000000 in
theorem nmayAll_any (a:Option Addr) (n c:Nat) (ps:List Pc) (w:World) (h:SlL w a n c ps) (hn:n ≤ 140737488355328) :
  Calls Tryz.prog 142 #[.slice a n c] w fun e w' => e = .returned (.bool (mayB ps)) ∧ w' = w:=by
 have H:=Hj h
 have HL:=Hj h.len
 clear h
 go_enter Tryz.func142,Tryz.ntmps142
 go_wp2_with fail
 go_loop [6] (fun iv => ∃ i:Nat,i ≤ n ∧ iv = .int .i64 (i:Nat) ∧ Hid (∀ j p,j < i → ps[j]? = some p → MayL p.xs = true)) (fun iv => n - (intOf iv).toNat)
 case atStart => exact ⟨0,Nat.zero_le _,rfl,fun j p hj => by omega⟩
 case round =>
  obtain ⟨i,hi,rfl,HA⟩:=hrel
  by_cases hlt:i < n
  ·have hlt':(i:Int) < (n:Int):=by omega
   obtain ⟨b,off,p,rfl,hp,hc,hs,ok⟩:=(Uh H).at' hlt
   have KM:=may_any p.a p.n p.c p.xs w hs
   have HP:=Hj hp
   clear hp hs ok
   cases hm:MayL p.xs
   ·rw [hm] at KM
    have KM':=Hj KM
    have HF:=Hj (mayB_false (Uh HP) hm)
    clear KM hm
    go_wp2_with fail
    refine (Uh KM').mono ?_
    rintro _ _ ⟨rfl,hw⟩
    obtain rfl:=hw.symm
    clear hw
    go_wp2_with fail
    go_ret
    rw [Uh HF]
    exact ⟨rfl,rfl⟩
   ·rw [hm] at KM
    have KM':=Hj KM
    have HA2:=Hj (show ∀ j q,j < i + 1 → ps[j]? = some q → MayL q.xs = true from fun j q hj hq => by
     by_cases e:j = i
     ·subst e
      rw [Uh HP] at hq
      cases hq
      exact hm
     ·exact Uh HA j q (by omega) hq)
    clear KM hm HA
    go_wp2_with fail
    refine (Uh KM').mono ?_
    rintro _ _ ⟨rfl,hw⟩
    obtain rfl:=hw.symm
    clear hw
    go_wp2_with fail
    exact ⟨⟨i + 1,by omega,by go_num,Uh HA2⟩,by simp [intOf]; omega⟩
  ·obtain rfl:i = n:=by omega
   have hlt':¬ (i:Int) < (i:Int):=by omega
   have HF:=Hj (mayB_true (Uh HL) (Uh HA))
   clear HA
   go_wp2_with fail
   go_ret
   rw [Uh HF]
   exact ⟨rfl,rfl⟩

def prodF:Nat → List Pc → List Nat × Int
 | z,[] => (limbs z,0)
 | z,p :: ps => if 2048 < (limbs (z * val p.xs)).length then ([],2) else prodF (z * val p.xs) ps
def prodL (ps:List Pc):List Nat × Int:=if mayB ps = true then prodF 1 ps else ([],20)

theorem drop_at {ps:List Pc} {i:Nat} {p:Pc} (h:ps[i]? = some p):ps.drop i = p :: ps.drop (i + 1):=by
 obtain ⟨hi,e⟩:=List.getElem?_eq_some_iff.1 h
 rw [List.drop_eq_getElem_cons hi,e]

structure PdR (wr w:World) (ps:List Pc) (i Z:Nat) (a:Option Addr) (m c:Nat):Prop where
 sl:Sl wr a m c (limbs Z)
 new:NewAt w.heap.size a
 le:(limbs Z).length ≤ 2048
 eq:prodF 1 ps = prodF Z (ps.drop i)
 bel:Below w.heap.size w wr
theorem mul_may {Z:Nat} {xs:List Nat} (hl:(limbs Z).length ≤ 2048) (hm:MayL xs = true):mulL (limbs Z) xs = fitL (Z * val xs):=by
 unfold mulL
 rw [show MayL (limbs Z) = true from MayL.mk (limbs_rep _).norm hl,hm,(limbs_rep Z).val]
 rfl

set_option maxHeartbeats 4000000 in
theorem nprod_any (a:Option Addr) (n c:Nat) (ps:List Pc) (w:World) (h:SlL w a n c ps) (hn:n ≤ 140737488355328) :
  Calls Tryz.prog 89 #[.slice a n c] w fun e w' => Res2 w w' (prodL ps) e:=by
 have KA:=nmayAll_any a n c ps w h hn
 have H:=Hj h
 have HL:=Hj h.len
 clear h
 cases hm:mayB ps
 ·rw [hm] at KA
  have KA':=Hj KA
  have HR:=Hj (show prodL ps = ([],20) from by unfold prodL; rw [hm]; rfl)
  clear KA hm
  go_enter Tryz.func89,Tryz.ntmps89
  go_wp2_with fail
  refine (Uh KA').mono ?_
  rintro _ _ ⟨rfl,hw⟩
  obtain rfl:=hw.symm
  clear hw
  go_wp2_with fail
  go_ret2
  rw [Uh HR]
  exact ⟨none,0,0,rfl,sl_nil _,newAt_nil _,Below.refl _ _⟩
 ·rw [hm] at KA
  have KA':=Hj KA
  have HR:=Hj (show prodL ps = prodF 1 ps from by unfold prodL; rw [if_pos hm])
  have HM:=Hj hm
  clear KA hm
  go_enter Tryz.func89,Tryz.ntmps89
  go_wp2_with fail
  refine (Uh KA').mono ?_
  rintro _ _ ⟨rfl,hw⟩
  obtain rfl:=hw.symm
  clear hw
  go_wp2_with fail
  refine (from_any 1 w (by decide)).mono ?_
  rintro _ w1 ⟨a1,m1,y1,rfl,s1,r1,n1,b1⟩
  rw [r1.eq] at s1
  have H1:=Hj (And.intro s1 (And.intro n1 b1))
  clear s1 r1 n1 b1
  go_wp2_with fail
  go_loopw [4,13] (fun zv iv wr => ∃ (i Z:Nat) (az:Option Addr) (mz cz:Nat),i ≤ n ∧ iv = .int .i64 (i:Nat) ∧ zv = .slice az mz cz ∧ PdR wr w ps i Z az mz cz) (fun _ iv _ => n - (intOf iv).toNat)
  case atStart => exact ⟨0,1,a1,m1,m1,Nat.zero_le _,rfl,rfl,(Uh H1).1,(Uh H1).2.1,by decide,by simp,(Uh H1).2.2⟩
  case round =>
   clear H1
   obtain ⟨i,Z,az,mz,cz,hi,rfl,rfl,hR⟩:=hrel
   by_cases hlt:i < n
   ·have hlt':(i:Int) < (n:Int):=by omega
    obtain ⟨b,off,p,rfl,hp,hc,hs,ok⟩:=((Uh H).below hR.bel).at' hlt
    have hmp:=mayB_get (Uh HM) hp
    have KM:=nmul_any az p.a mz cz p.n p.c (limbs Z) p.xs wr hR.sl hs (limbs_rep Z).ok ok
    rw [mul_may hR.le hmp] at KM
    have hd:=drop_at hp
    have heq:=hR.eq
    rw [hd] at heq
    by_cases hbig:2048 < (limbs (Z * val p.xs)).length
    ·rw [fitL_big hbig] at KM
     have HE:=Hj (show prodF 1 ps = ([],2) from by rw [heq]; simp [prodF,hbig])
     have KM':=Hj KM
     have HB:=Hj hR.bel
     clear KM hR hp hs ok hd heq hbig
     go_wp2_with fail
     refine (Uh KM').mono ?_
     rintro _ w2 ⟨a2,m2,c2,rfl,s2,n2,b2⟩
     have HB2:=Hj ((Uh HB).trans (b2.mono (Uh HB).size))
     clear s2 n2 b2 KM' HB
     go_wp2_with fail
     go_ret2
     rw [Uh HR,Uh HE]
     exact ⟨none,0,0,rfl,sl_nil _,newAt_nil _,Uh HB2⟩
    ·rw [fitL_ok hbig] at KM
     have HE:=Hj (show prodF 1 ps = prodF (Z * val p.xs) (ps.drop (i + 1)) from by rw [heq]; simp [prodF,hbig])
     have hle2:(limbs (Z * val p.xs)).length ≤ 2048:=by omega
     have HL2:=Hj hle2
     have KM':=Hj KM
     have HB:=Hj hR.bel
     clear KM hR hp hs ok hd heq hbig hle2
     generalize Z * val p.xs = Z' at *
     go_wp2_with fail
     refine (Uh KM').mono ?_
     rintro _ w2 ⟨a2,m2,c2,rfl,s2,n2,b2⟩
     have HN:=Hj (show PdR w2 w ps (i + 1) Z' a2 m2 c2 from ⟨s2,fun x hx => Nat.le_trans (Uh HB).size (n2 x hx),Uh HL2,Uh HE,(Uh HB).trans (b2.mono (Uh HB).size)⟩)
     clear s2 n2 b2 KM' HB
     go_wp2_with fail
     exact ⟨⟨i + 1,Z',a2,m2,c2,by omega,by go_num,rfl,Uh HN⟩,by simp [intOf]; omega⟩
   ·obtain rfl:i = n:=by omega
    have hlt':¬ (i:Int) < (i:Int):=by omega
    have heq:=hR.eq
    rw [List.drop_eq_nil_of_le (by rw [Uh HL]; exact Nat.le_refl _)] at heq
    have HE:=Hj (show prodF 1 ps = (limbs Z,0) from heq)
    have HN:=Hj hR
    clear hR heq
    go_wp2_with fail
    go_ret2
    rw [Uh HR,Uh HE]
    exact ⟨az,mz,cz,rfl,(Uh HN).sl,(Uh HN).new,(Uh HN).bel⟩

def sumV:List Pc → Nat
 | [] => 0
 | p :: ps => val p.xs + sumV ps
def sumL (ps:List Pc):List Nat × Int:=if mayB ps = true then fitL (sumV ps) else ([],20)
theorem sumV_append (xs ys:List Pc):sumV (xs ++ ys) = sumV xs + sumV ys:=by
 induction xs with
 | nil => simp [sumV]
 | cons p xs ih => simp only [List.cons_append,sumV,ih]; omega
theorem sumV_take {ps:List Pc} {i:Nat} {p:Pc} (h:ps[i]? = some p):sumV (ps.take (i + 1)) = sumV (ps.take i) + val p.xs:=by
 obtain ⟨hi,e⟩:=List.getElem?_eq_some_iff.1 h
 rw [List.take_succ_eq_append_getElem hi,sumV_append,e]
 simp [sumV]
theorem limbs_len_monoF {v u:Nat} (h:v ≤ u):(limbs v).length ≤ (limbs u).length:=by
 have h1:=val_lt (limbs_rep u).ok
 rw [(limbs_rep u).val] at h1
 refine rep_len_le (limbs_rep v) (by omega)
theorem sum_bound {w:World} {a:Option Addr} {n c:Nat} {ps:List Pc} (h:SlL w a n c ps) {g:Nat} (hg:∀ j p,j < n → ps[j]? = some p → p.n ≤ g):∀ i,i ≤ n → sumV (ps.take i) ≤ i * 4294967296 ^ g
 | 0,_ => by simp [sumV]
 | i + 1,hi => by
  have ih:=sum_bound h hg i (by omega)
  obtain ⟨b,off,p,e,hp,hc,hs,ok⟩:=h.at' (show i < n by omega)
  rw [sumV_take hp,Nat.succ_mul]
  have h1:=val_lt ok
  rw [hs.len] at h1
  have h2:4294967296 ^ p.n ≤ 4294967296 ^ g:=pow_mono (hg i p (by omega) hp)
  omega

structure AaR (wr w:World) (M:Nat) (ps:List Pc) (i:Nat) (f:Nat → Nat):Prop where
 fn:Fn wr w.heap.size 0 M f
 ok:∀ i,i < M → f i < 4294967296
 val:valF f M = sumV (ps.take i)
 bel:Below w.heap.size w wr

theorem sum_small {n i g M S:Nat} (hn:n ≤ 140737488355328) (hi:i ≤ n) (hM:g + 2 = M) (h:S ≤ i * 4294967296 ^ g):S < 4294967296 ^ M:=by
 rw [← hM,Nat.pow_add]
 have h1:i * 4294967296 ^ g ≤ 140737488355328 * 4294967296 ^ g:=Nat.mul_le_mul_right _ (by omega)
 have h2:0 < 4294967296 ^ g:=Nat.pow_pos (by decide)
 have h3:(4294967296:Nat) ^ 2 = 18446744073709551616:=by decide
 rw [h3]
 generalize 4294967296 ^ g = Y at *
 omega

set_option maxHeartbeats 4000000 in
theorem naddAll_any (a:Option Addr) (n c:Nat) (ps:List Pc) (w:World) (h:SlL w a n c ps) (hn:n ≤ 140737488355328) (hm:mayB ps = true) :
  Calls Tryz.prog 211 #[.slice a n c] w fun e w' => NewRep w w' (sumV ps) e:=by
 have H:=Hj h
 have HL:=Hj h.len
 have HM:=Hj hm
 clear h hm
 go_enter Tryz.func211,Tryz.ntmps211
 go_wp2_with fail
 go_loop [3,9] (fun gv iv => ∃ i g:Nat,i ≤ n ∧ g ≤ 2048 ∧ gv = .int .i64 (g:Nat) ∧ iv = .int .i64 (i:Nat) ∧ Hid (∀ j p,j < i → ps[j]? = some p → p.n ≤ g)) (fun _ iv => n - (intOf iv).toNat)
 case atStart => exact ⟨0,0,Nat.zero_le _,Nat.zero_le _,rfl,rfl,fun j p hj => by omega⟩
 case round =>
  obtain ⟨i,g,hi,hg,rfl,rfl,HA⟩:=hrel
  by_cases hlt:i < n
  ·have hlt':(i:Int) < (n:Int):=by omega
   obtain ⟨b,off,p,rfl,hp,hc,hs,ok⟩:=(Uh H).at' hlt
   have hmp:=mayB_get (Uh HM) hp
   have hl:=hs.len
   have hml:=MayL.len hmp
   have hpn:p.n ≤ 2048:=by omega
   have HP:=Hj hp
   clear hp hs ok hmp hl hml
   by_cases hgl:g < p.n
   ·have HA2:=Hj (show ∀ j q,j < i + 1 → ps[j]? = some q → q.n ≤ p.n from fun j q hj hq => by
     by_cases e:j = i
     ·subst e
      rw [Uh HP] at hq
      cases hq
      exact Nat.le_refl _
     ·have:=Uh HA j q (by omega) hq; omega)
    have g1:(g:Int) < (p.n:Int):=by omega
    have g2:max (g:Int) (p.n:Int) = (p.n:Int):=by omega
    clear HA HP
    go_wp2_with fail
    exact ⟨⟨i + 1,p.n,by omega,hpn,by simp,by go_num,Uh HA2⟩,by simp [intOf]; omega⟩
   ·have HA2:=Hj (show ∀ j q,j < i + 1 → ps[j]? = some q → q.n ≤ g from fun j q hj hq => by
     by_cases e:j = i
     ·subst e
      rw [Uh HP] at hq
      cases hq
      omega
     ·exact Uh HA j q (by omega) hq)
    have g1:¬ (g:Int) < (p.n:Int):=by omega
    have g2:max (g:Int) (p.n:Int) = (g:Int):=by omega
    clear HA HP
    go_wp2_with fail
    exact ⟨⟨i + 1,g,by omega,hg,by simp,by go_num,Uh HA2⟩,by simp [intOf]; omega⟩
  ·obtain rfl:i = n:=by omega
   have hlt':¬ (i:Int) < (i:Int):=by omega
   obtain ⟨n,rfl⟩:∃ n,n = i:=⟨i,rfl⟩
   obtain ⟨M,hM⟩:∃ M,g + 2 = M:=⟨_,rfl⟩
   have hM1:(g:Int) + 2 = (M:Int):=by omega
   have hmk:=make_len M (by omega)
   have HF:=Hj (Fn.made w M 84)
   have HB:=Hj ((Below.refl w.heap.size w).alloc (Nat.le_refl _) (.cells (madeCells #[.int .u32 0] M) 84))
   have HMe:=Hj hM
   clear hM
   go_wp2_with fail
   go_loopw [25] (fun iv wr => ∃ (i:Nat) (f:Nat → Nat),i ≤ n ∧ iv = .int .i64 (i:Nat) ∧ AaR wr w M ps i f) (fun iv _ => n - (intOf iv).toNat)
   case atStart => exact ⟨0,_,Nat.zero_le _,rfl,Uh HF,fun i hi => by simp,by rw [valF_zero]; simp [sumV],Uh HB⟩
   case round =>
    clear HF HB
    obtain ⟨i,f,hi,rfl,hR⟩:=hrel
    by_cases hlt:i < n
    ·have hlt':(i:Int) < (n:Int):=by omega
     obtain ⟨b,off,p,rfl,hp,hc,hs,ok⟩:=((Uh H).below hR.bel).at' hlt
     have hpg:=Uh HA i p hlt hp
     obtain ⟨b',off',p',e',hp',hc',hs',ok'⟩:=(Uh H).at' hlt
     rw [hp] at hp'
     cases hp'
     have KA:=addTo_any w.heap.size 0 M M p.n p.c p.a f p.xs wr hs (fun x hx hne => by have:=hs'.block_lt hne x hx; omega) (by have:=Uh HMe; omega) (by unfold maxLen; have:=Uh HMe; omega) ok hR.ok hR.fn
     have hsm:=sum_small (i:=i + 1) hn (by omega) (Uh HMe) (sum_bound (Uh H) (Uh HA) (i + 1) (by omega))
     have KA':=Hj KA
     have HS:=Hj (And.intro hsm (And.intro hR.val (And.intro hR.bel (sumV_take hp))))
     clear KA hR hp hs ok hs' ok' hc' e' hsm hpg
     go_wp2_with fail
     refine (Uh KA').mono ?_
     rintro _ w2 ⟨f2,c2,rfl,hc2,fn2,ok2,v2,u2⟩
     have hh:=Uh HS
     have hc0:c2 = 0:=by
      rw [hh.2.1,← hh.2.2.2] at v2
      rcases Nat.eq_zero_or_pos c2 with e | e
      ·exact e
      ·exfalso
       have:4294967296 ^ M * 1 ≤ 4294967296 ^ M * c2:=Nat.mul_le_mul_left _ e
       have:=hh.1
       omega
     subst hc0
     rw [hh.2.1,← hh.2.2.2,Nat.mul_zero,Nat.add_zero] at v2
     have HN:=Hj (show AaR w2 w M ps (i + 1) f2 from ⟨fn2,ok2,v2,hh.2.2.1.trans (u2.below (Nat.le_refl _) hh.2.2.1.size)⟩)
     clear fn2 ok2 v2 u2 hh HS KA' hc2
     go_wp2_with fail
     exact ⟨⟨i + 1,f2,by omega,by go_num,Uh HN⟩,by simp [intOf]; omega⟩
    ·obtain rfl:i = n:=by omega
     have hlt':¬ (i:Int) < (i:Int):=by omega
     have hv:=hR.val
     rw [List.take_of_length_le (by rw [Uh HL]; exact Nat.le_refl _)] at hv
     have KT:=trim_any (some ⟨w.heap.size,0,none⟩) M M (lst f M) wr (hR.fn.sl (Nat.le_refl _) (by unfold maxLen; have:=Uh HMe; omega)) (lst_ok hR.ok)
     rw [lst_val,hv] at KT
     have KT':=Hj KT
     have HB2:=Hj hR.bel
     clear KT hR hv
     go_wp2_with fail
     refine (Uh KT').mono ?_
     rintro _ _ ⟨a',m',ys,rfl,hs,hr,ha,hw⟩
     obtain rfl:=hw.symm
     have HX:=Hj (And.intro hs (And.intro hr ha))
     clear hs hr ha hw KT'
     go_wp2_with fail
     go_ret
     refine ⟨a',m',ys,rfl,(Uh HX).1,(Uh HX).2.1,fun x hx => ?_,Uh HB2⟩
     rcases (Uh HX).2.2 with e | e
     ·rw [e] at hx; cases hx; exact Nat.le_refl _
     ·rw [e] at hx; cases hx

set_option maxHeartbeats 4000000 in
theorem nsum_any (a:Option Addr) (n c:Nat) (ps:List Pc) (w:World) (h:SlL w a n c ps) (hn:n ≤ 140737488355328) :
  Calls Tryz.prog 179 #[.slice a n c] w fun e w' => Res2 w w' (sumL ps) e:=by
 have KA:=nmayAll_any a n c ps w h hn
 cases hm:mayB ps
 ·rw [hm] at KA
  have KA':=Hj KA
  have HR:=Hj (show sumL ps = ([],20) from by unfold sumL; rw [hm]; rfl)
  clear KA hm h
  go_enter Tryz.func179,Tryz.ntmps179
  go_wp2_with fail
  refine (Uh KA').mono ?_
  rintro _ _ ⟨rfl,hw⟩
  obtain rfl:=hw.symm
  clear hw
  go_wp2_with fail
  go_ret2
  rw [Uh HR]
  exact ⟨none,0,0,rfl,sl_nil _,newAt_nil _,Below.refl _ _⟩
 ·rw [hm] at KA
  have KA':=Hj KA
  have HR:=Hj (show sumL ps = fitL (sumV ps) from by unfold sumL; rw [if_pos hm])
  have KS:=Hj (naddAll_any a n c ps w h hn hm)
  clear KA hm h
  go_enter Tryz.func179,Tryz.ntmps179
  go_wp2_with fail
  refine (Uh KA').mono ?_
  rintro _ _ ⟨rfl,hw⟩
  obtain rfl:=hw.symm
  clear hw
  go_wp2_with fail
  refine (Uh KS).mono ?_
  rintro _ w1 ⟨a1,m1,y1,rfl,s1,r1,n1,b1⟩
  have KF:=Hj (fit_any a1 m1 m1 (sumV ps) y1 w1 s1 r1)
  have H1:=Hj (And.intro n1 b1)
  clear s1 r1 n1 b1 KS
  go_wp2_with fail
  refine (Uh KF).mono ?_
  rintro _ _ ⟨a2,m2,c2,rfl,s2,ha2,hw⟩
  obtain rfl:=hw.symm
  have H2:=Hj (And.intro s2 ha2)
  clear s2 ha2 hw KF
  go_wp2_with fail
  go_ret2
  rw [Uh HR]
  refine ⟨a2,m2,c2,rfl,(Uh H2).1,fun x hx => ?_,(Uh H1).2⟩
  rcases (Uh H2).2 with e | e
  ·rw [e] at hx; exact (Uh H1).1 x hx
  ·rw [e] at hx; cases hx
end Go.Proofs.YtmnlhnmlgncedaaGreatDoor
