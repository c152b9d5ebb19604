/- LawSt -/
import Derived.Test.YtlolnaegfponeaaGreatDoorGiv3
import Derived.Test.YtlolnaegfponeaaGreatDoorMul
import Derived.Test.YtlolnaegfponeaaGreatDoorGi
import Derived.Test.YtlolnaegfponeaaGreatDoorNMul
import Derived.Test.YtlolnaegfponeaaGreatDoorAdd
namespace Go.Proofs.YtlolnaegfponeaaGreatDoor
open Go.RowKit Go.Deep
set_option linter.unusedVariables false
structure Pc where
 a:Option Addr
 n:Nat
 c:Nat
 xs:List Nat

def Pc.v (p:Pc):Value:=.slice p.a p.n p.c

structure Kp (w:World) (B:Nat) (v0 v1:Value) (p:Pc):Prop where
 sl:Sl w p.a p.n p.c p.xs
 safe:∀ x,p.a = some x → p.xs ≠ [] → ¬ Own B v0 v1 x.block

structure LawSt (w:World) (B:Nat) (v0 v1:Value) (es:List Ent) (w0:World) (L:List Pc):Prop where
 giv:Giv w B v0 v1 es
 bel:Below w0.heap.size w0 w
 base:w0.heap.size ≤ B
 all:∀ p ∈ L,Kp w B v0 v1 p

theorem Giv.own_lt {w:World} {B:Nat} {v0 v1:Value} {es:List Ent} (h:Giv w B v0 v1 es) {k:Nat} (hk:Own B v0 v1 k):k < w.heap.size:=by
 rcases hk with rfl | hk | hk
 ·exact h.cell0.2.2.2.2
 ·exact (own_ge h.own0 k hk).2
 ·exact (own_ge h.own1 k hk).2

theorem Giv.own_ge {w:World} {B:Nat} {v0 v1:Value} {es:List Ent} (h:Giv w B v0 v1 es) {k:Nat} (hk:Own B v0 v1 k):B ≤ k:=by
 rcases hk with rfl | hk | hk
 ·exact Nat.le_refl _
 ·have:=(Go.Proofs.YtlolnaegfponeaaGreatDoor.own_ge h.own0 k hk).1; omega
 ·have:=(Go.Proofs.YtlolnaegfponeaaGreatDoor.own_ge h.own1 k hk).1; omega

theorem Kp.below {w w':World} {B:Nat} {v0 v1:Value} {p:Pc} (h:Kp w B v0 v1 p) (k:Below w.heap.size w w'):Kp w' B v0 v1 p:=⟨h.sl.below k,h.safe⟩

theorem LawSt.keep {w w':World} {B:Nat} {v0 v1:Value} {es:List Ent} {w0:World} {L:List Pc} (h:LawSt w B v0 v1 es w0 L) (k:Below w.heap.size w w'):LawSt w' B v0 v1 es w0 L :=
 ⟨h.giv.below k,h.bel.trans (k.mono h.bel.size),h.base,fun p hp => (h.all p hp).below k⟩

theorem LawSt.drewN {w:World} {B:Nat} {v0 v1:Value} {es:List Ent} {w0:World} {L:List Pc} (h:LawSt w B v0 v1 es w0 L) (k:Nat):LawSt (w.drewN k) B v0 v1 es w0 L :=
 h.keep (bel_drewN (Below.refl _ _) k)

theorem Sl.pre {w:World} {b c n:Nat} {xs ys:List Nat} (h:Sl w (some ⟨b,0,none⟩) (xs.length + 3) c (xs ++ ys)) (hn:xs.length = n) (hl:ys.length = 3):Sl w (some ⟨b,0,none⟩) n c xs:=by
 have h1:=h.le
 refine ⟨hn,by omega,h.cap,?_⟩
 rcases h.cells with e | ⟨b',off',e,k⟩
 ·left
  cases xs with
  | nil => rfl
  | cons => simp at e
 ·right
  refine ⟨b',off',e,?_⟩
  intro i hi
  have:=k i (by simp; omega)
  rw [this]
  simp [List.getD,List.getElem?_append_left hi]

theorem LawSt.nat {w:World} {B:Nat} {v0 v1:Value} {es:List Ent} {w0:World} {L:List Pc} (h:LawSt w B v0 v1 es w0 L) (p:Pc) (hp:p ∈ L) (hn:p.n ≤ 35184372088000) (he:es.length ≤ 1000000000000) :
  Calls Tryz.prog 58 #[.pointer (some ⟨B,0,none⟩),.slice p.a p.n p.c] w fun e w' => ∃ v0' v1' E,e = .returned (.slice (some ⟨Ent.b E,0,none⟩) p.n E.c) ∧ LawSt w' B v0' v1' (es ++ [E]) w0 (⟨some ⟨E.b,0,none⟩,p.n,E.c,p.xs⟩ :: L):=by
 refine (gnat_any B v0 v1 es p.a p.n p.c p.xs w h.giv (h.all p hp).sl hn he).mono ?_
 rintro e w' ⟨v0',v1',E,rfl,hxs,hge,hg,hc,hsafe⟩
 refine ⟨v0',v1',E,rfl,hg,?_,h.base,?_⟩
 ·refine h.bel.trans (hc.below h.bel.size ?_)
  intro k hk ho
  have:=h.giv.own_ge ho
  have:=h.base
  omega
 ·intro q hq
  rcases List.mem_cons.1 hq with rfl | hq
  ·have E1:=hg.ents E (by simp)
   have:=E1.sl.pre (n:=p.n) (by rw [hxs]; exact (h.all p hp).sl.len) (by rfl)
   rw [hxs] at this
   exact ⟨this,fun x hx _ => by cases hx; exact E1.s⟩
  ·have K:=h.all q hq
   refine ⟨K.sl.chg hc K.safe,?_⟩
   intro x hx hne
   exact hsafe _ (K.sl.block_lt hne x hx) (K.safe x hx hne)

theorem LawSt.sl {w:World} {B:Nat} {v0 v1:Value} {es:List Ent} {w0:World} {L:List Pc} (h:LawSt w B v0 v1 es w0 L) (p:Pc) (hp:p ∈ L):Sl w p.a p.n p.c p.xs:=(h.all p hp).sl

theorem LawSt.begin {w:World} {L:List Pc} (o:Obj) (ho:o = .cells #[.slice none 0 0,.slice none 0 0,.slice none 0 0,.slice none 0 0,.slice none 0 0,.slice none 0 0,.slice none 0 0,.slice none 0 0,.slice none 0 0,.slice none 0 0,.slice none 0 0,.slice none 0 0,.slice none 0 0,.slice none 0 0,.slice none 0 0,.slice none 0 0,.slice none 0 0,.slice none 0 0,.slice none 0 0,.slice none 0 0] 59)
  (h:∀ p ∈ L,Sl w p.a p.n p.c p.xs):LawSt (w.alloc o) w.heap.size (.slice none 0 0) (.slice none 0 0) [] w L:=by
 have bel:Below w.heap.size w (w.alloc o):=(Below.refl _ _).alloc (Nat.le_refl _) o
 subst ho
 refine ⟨⟨⟨_,alloc_block _ _,rfl,rfl,rfl,?_⟩,World.ownsRow_nil _ _ _ _,World.ownsRow_nil _ _ _ _,(fun k hk => by cases hk),(fun e he => by cases he)⟩,bel,Nat.le_refl _,?_⟩
 ·intro i h2 h20
  match i,h20 with
  | 0,_ | 1,_ | 2,_ | 3,_ | 4,_ | 5,_ | 6,_ | 7,_ | 8,_ | 9,_ | 10,_ | 11,_ | 12,_ | 13,_ | 14,_ | 15,_ | 16,_ | 17,_ | 18,_ | 19,_ => rfl
  | n + 20,h => exact absurd h (by omega)
 ·intro p hp
  have:=h p hp
  refine ⟨this.below bel,?_⟩
  rintro x hx hne (h | h | h)
  ·have:=this.block_lt hne x hx; omega
  ·cases h
  ·cases h
structure SlL (w:World) (a:Option Addr) (n c:Nat) (ps:List Pc):Prop where
 len:ps.length = n
 le:n ≤ c
 cells:ps = [] ∨ ∃ b off,a = some ⟨b,off,none⟩ ∧ ∀ i p,ps[i]? = some p → w.cell? ⟨b,off + i,none⟩ = some (.slice p.a p.n p.c)
 each:∀ p ∈ ps,Sl w p.a p.n p.c p.xs ∧ Ok p.xs

theorem SlL.below {w w':World} {a:Option Addr} {n c:Nat} {ps:List Pc} (h:SlL w a n c ps) (k:Below w.heap.size w w'):SlL w' a n c ps:=by
 refine ⟨h.len,h.le,?_,fun p hp => ⟨(h.each p hp).1.below k,(h.each p hp).2⟩⟩
 rcases h.cells with e | ⟨b,off,e,hc⟩
 ·exact .inl e
 ·refine .inr ⟨b,off,e,fun i p hp => ?_⟩
  have h1:=hc i p hp
  have hb:=World.block_lt_of_cell? _ _ h1
  have:w'.cell? ⟨b,off + i,none⟩ = w.cell? ⟨b,off + i,none⟩:=by unfold World.cell?; simp only; rw [k.block b hb]
  rw [this]; exact h1

theorem SlL.at' {w:World} {a:Option Addr} {n c:Nat} {ps:List Pc} (h:SlL w a n c ps) {i:Nat} (hi:i < n) :
  ∃ b off p,a = some ⟨b,off,none⟩ ∧ ps[i]? = some p ∧ w.cell? ⟨b,off + i,none⟩ = some (.slice p.a p.n p.c) ∧ Sl w p.a p.n p.c p.xs ∧ Ok p.xs:=by
 have hl:=h.len
 have hi':i < ps.length:=by omega
 have hp:ps[i]? = some ps[i]:=List.getElem?_eq_getElem hi'
 rcases h.cells with e | ⟨b,off,e,hc⟩
 ·rw [e] at hl; simp at hl; omega
 ·exact ⟨b,off,ps[i],e,hp,hc i _ hp,h.each _ (List.getElem_mem hi')⟩

def mayB (ps:List Pc):Bool:=ps.all (fun p => MayL p.xs)

theorem mayB_get {ps:List Pc} (h:mayB ps = true) {i:Nat} {p:Pc} (hp:ps[i]? = some p):MayL p.xs = true:=by
 unfold mayB at h
 rw [List.all_eq_true] at h
 exact h p (List.mem_of_getElem? hp)
theorem mayB_false {ps:List Pc} {i:Nat} {p:Pc} (hp:ps[i]? = some p) (h:MayL p.xs = false):mayB ps = false:=by
 cases hm:mayB ps
 ·rfl
 ·have:=mayB_get hm hp
  rw [h] at this
  cases this
theorem mayB_true {ps:List Pc} {n:Nat} (hl:ps.length = n) (h:∀ i p,i < n → ps[i]? = some p → MayL p.xs = true):mayB ps = true:=by
 unfold mayB
 rw [List.all_eq_true]
 intro p hp
 obtain ⟨i,hi,e⟩:=List.getElem_of_mem hp
 exact h i p (by omega) (by rw [List.getElem?_eq_getElem hi,e])

set_option maxHeartbeats 4000000 in
theorem nmayAll_any (a:Option Addr) (n c:Nat) (ps:List Pc) (w:World) (h:SlL w a n c ps) (hn:n ≤ 140737488355328) :
  Calls Tryz.prog 181 #[.slice a n c] w fun e w' => e = .returned (.bool (mayB ps)) ∧ w' = w:=by
 have H:=Hd h
 have HL:=Hd h.len
 clear h
 go_enter Tryz.func181,Tryz.ntmps181
 go_wp2_with fail
 go_loop [6] (fun iv => ∃ i:Nat,i ≤ n ∧ iv = .int .i64 (i:Nat) ∧ Hid (∀ j p,j < i → ps[j]? = some p → MayL p.xs = true)) (fun iv => n - (intOf iv).toNat)
 case atStart => exact ⟨0,Nat.zero_le _,rfl,fun j p hj => by omega⟩
 case round =>
  obtain ⟨i,hi,rfl,HA⟩:=hrel
  by_cases hlt:i < n
  ·have hlt':(i:Int) < (n:Int):=by omega
   obtain ⟨b,off,p,rfl,hp,hc,hs,ok⟩:=(Uh H).at' hlt
   have KM:=may_any p.a p.n p.c p.xs w hs
   have HP:=Hd hp
   clear hp hs ok
   cases hm:MayL p.xs
   ·rw [hm] at KM
    have KM':=Hd KM
    have HF:=Hd (mayB_false (Uh HP) hm)
    clear KM hm
    go_wp2_with fail
    refine (Uh KM').mono ?_
    rintro _ _ ⟨rfl,hw⟩
    obtain rfl:=hw.symm
    clear hw
    go_wp2_with fail
    go_ret
    rw [Uh HF]
    exact ⟨rfl,rfl⟩
   ·rw [hm] at KM
    have KM':=Hd KM
    have HA2:=Hd (show ∀ j q,j < i + 1 → ps[j]? = some q → MayL q.xs = true from fun j q hj hq => by
     by_cases e:j = i
     ·subst e
      rw [Uh HP] at hq
      cases hq
      exact hm
     ·exact Uh HA j q (by omega) hq)
    clear KM hm HA
    go_wp2_with fail
    refine (Uh KM').mono ?_
    rintro _ _ ⟨rfl,hw⟩
    obtain rfl:=hw.symm
    clear hw
    go_wp2_with fail
    exact ⟨⟨i + 1,by omega,by go_num,Uh HA2⟩,by simp [intOf]; omega⟩
  ·obtain rfl:i = n:=by omega
   have hlt':¬ (i:Int) < (i:Int):=by omega
   have HF:=Hd (mayB_true (Uh HL) (Uh HA))
   clear HA
   go_wp2_with fail
   go_ret
   rw [Uh HF]
   exact ⟨rfl,rfl⟩

def prodF:Nat → List Pc → List Nat × Int
 | z,[] => (limbs z,0)
 | z,p :: ps => if 2048 < (limbs (z * val p.xs)).length then ([],2) else prodF (z * val p.xs) ps
def prodL (ps:List Pc):List Nat × Int:=if mayB ps = true then prodF 1 ps else ([],20)

theorem drop_at {ps:List Pc} {i:Nat} {p:Pc} (h:ps[i]? = some p):ps.drop i = p :: ps.drop (i + 1):=by
 obtain ⟨hi,e⟩:=List.getElem?_eq_some_iff.1 h
 rw [List.drop_eq_getElem_cons hi,e]

structure PdR (wr w:World) (ps:List Pc) (i Z:Nat) (a:Option Addr) (m c:Nat):Prop where
 sl:Sl wr a m c (limbs Z)
 new:NewAt w.heap.size a
 le:(limbs Z).length ≤ 2048
 eq:prodF 1 ps = prodF Z (ps.drop i)
 bel:Below w.heap.size w wr
theorem mul_may {Z:Nat} {xs:List Nat} (hl:(limbs Z).length ≤ 2048) (hm:MayL xs = true):mulL (limbs Z) xs = fitL (Z * val xs):=by
 unfold mulL
 rw [show MayL (limbs Z) = true from MayL.mk (limbs_rep _).norm hl,hm,(limbs_rep Z).val]
 rfl

set_option maxHeartbeats 4000000 in
theorem nprod_any (a:Option Addr) (n c:Nat) (ps:List Pc) (w:World) (h:SlL w a n c ps) (hn:n ≤ 140737488355328) :
  Calls Tryz.prog 132 #[.slice a n c] w fun e w' => Res2 w w' (prodL ps) e:=by
 have KA:=nmayAll_any a n c ps w h hn
 have H:=Hd h
 have HL:=Hd h.len
 clear h
 cases hm:mayB ps
 ·rw [hm] at KA
  have KA':=Hd KA
  have HR:=Hd (show prodL ps = ([],20) from by unfold prodL; rw [hm]; rfl)
  clear KA hm
  go_enter Tryz.func132,Tryz.ntmps132
  go_wp2_with fail
  refine (Uh KA').mono ?_
  rintro _ _ ⟨rfl,hw⟩
  obtain rfl:=hw.symm
  clear hw
  go_wp2_with fail
  go_ret2
  rw [Uh HR]
  exact ⟨none,0,0,rfl,sl_nil _,newAt_nil _,Below.refl _ _⟩
 ·rw [hm] at KA
  have KA':=Hd KA
  have HR:=Hd (show prodL ps = prodF 1 ps from by unfold prodL; rw [if_pos hm])
  have HM:=Hd hm
  clear KA hm
  go_enter Tryz.func132,Tryz.ntmps132
  go_wp2_with fail
  refine (Uh KA').mono ?_
  rintro _ _ ⟨rfl,hw⟩
  obtain rfl:=hw.symm
  clear hw
  go_wp2_with fail
  refine (from_any 1 w (by decide)).mono ?_
  rintro _ w1 ⟨a1,m1,y1,rfl,s1,r1,n1,b1⟩
  rw [r1.eq] at s1
  have H1:=Hd (And.intro s1 (And.intro n1 b1))
  clear s1 r1 n1 b1
  go_wp2_with fail
  go_loopw [4,13] (fun zv iv wr => ∃ (i Z:Nat) (az:Option Addr) (mz cz:Nat),i ≤ n ∧ iv = .int .i64 (i:Nat) ∧ zv = .slice az mz cz ∧ PdR wr w ps i Z az mz cz) (fun _ iv _ => n - (intOf iv).toNat)
  case atStart => exact ⟨0,1,a1,m1,m1,Nat.zero_le _,rfl,rfl,(Uh H1).1,(Uh H1).2.1,by decide,by simp,(Uh H1).2.2⟩
  case round =>
   clear H1
   obtain ⟨i,Z,az,mz,cz,hi,rfl,rfl,hR⟩:=hrel
   by_cases hlt:i < n
   ·have hlt':(i:Int) < (n:Int):=by omega
    obtain ⟨b,off,p,rfl,hp,hc,hs,ok⟩:=((Uh H).below hR.bel).at' hlt
    have hmp:=mayB_get (Uh HM) hp
    have KM:=nmul_any az p.a mz cz p.n p.c (limbs Z) p.xs wr hR.sl hs (limbs_rep Z).ok ok
    rw [mul_may hR.le hmp] at KM
    have hd:=drop_at hp
    have heq:=hR.eq
    rw [hd] at heq
    by_cases hbig:2048 < (limbs (Z * val p.xs)).length
    ·rw [fitL_big hbig] at KM
     have HE:=Hd (show prodF 1 ps = ([],2) from by rw [heq]; simp [prodF,hbig])
     have KM':=Hd KM
     have HB:=Hd hR.bel
     clear KM hR hp hs ok hd heq hbig
     go_wp2_with fail
     refine (Uh KM').mono ?_
     rintro _ w2 ⟨a2,m2,c2,rfl,s2,n2,b2⟩
     have HB2:=Hd ((Uh HB).trans (b2.mono (Uh HB).size))
     clear s2 n2 b2 KM' HB
     go_wp2_with fail
     go_ret2
     rw [Uh HR,Uh HE]
     exact ⟨none,0,0,rfl,sl_nil _,newAt_nil _,Uh HB2⟩
    ·rw [fitL_ok hbig] at KM
     have HE:=Hd (show prodF 1 ps = prodF (Z * val p.xs) (ps.drop (i + 1)) from by rw [heq]; simp [prodF,hbig])
     have hle2:(limbs (Z * val p.xs)).length ≤ 2048:=by omega
     have HL2:=Hd hle2
     have KM':=Hd KM
     have HB:=Hd hR.bel
     clear KM hR hp hs ok hd heq hbig hle2
     generalize Z * val p.xs = Z' at *
     go_wp2_with fail
     refine (Uh KM').mono ?_
     rintro _ w2 ⟨a2,m2,c2,rfl,s2,n2,b2⟩
     have HN:=Hd (show PdR w2 w ps (i + 1) Z' a2 m2 c2 from ⟨s2,fun x hx => Nat.le_trans (Uh HB).size (n2 x hx),Uh HL2,Uh HE,(Uh HB).trans (b2.mono (Uh HB).size)⟩)
     clear s2 n2 b2 KM' HB
     go_wp2_with fail
     exact ⟨⟨i + 1,Z',a2,m2,c2,by omega,by go_num,rfl,Uh HN⟩,by simp [intOf]; omega⟩
   ·obtain rfl:i = n:=by omega
    have hlt':¬ (i:Int) < (i:Int):=by omega
    have heq:=hR.eq
    rw [List.drop_eq_nil_of_le (by rw [Uh HL]; exact Nat.le_refl _)] at heq
    have HE:=Hd (show prodF 1 ps = (limbs Z,0) from heq)
    have HN:=Hd hR
    clear hR heq
    go_wp2_with fail
    go_ret2
    rw [Uh HR,Uh HE]
    exact ⟨az,mz,cz,rfl,(Uh HN).sl,(Uh HN).new,(Uh HN).bel⟩
end Go.Proofs.YtlolnaegfponeaaGreatDoor
