/- Giv3 -/
import Derived.Test.YtncolonhdjkglaaGreatDoorGiv2
import Derived.Test.YtncolonhdjkglaaGreatDoorShr
import Derived.Test.YtncolonhdjkglaaGreatDoorBy6
import Derived.Test.YtncolonhdjkglaaGreatDoorCmp
import Derived.Deep.LoopGhost
namespace Go.Proofs.YtncolonhdjkglaaGreatDoor
open Go.RowKit Go.Deep
set_option linter.unusedVariables false
theorem quiet_at {P:Program} {f:FuncId} {args:Array Value} {w:World} {d x:Nat} {v:Value} (h:Calls P f args (w.drewN (d + x)) fun e w' => e = .returned v ∧ ∃ k,w' = (w.drewN (d + x)).drewN k) :
  Calls P f args (w.drewN (d + x)) fun e w'' => e = .returned v ∧ ∃ n,w'' = w.drewN (d + n) :=
 h.mono fun _ _ ⟨he,m,hm⟩ => ⟨he,x + m,by rw [hm,drewN_add,Nat.add_assoc]⟩

set_option maxHeartbeats 2000000 in
theorem whole_any (w:World) (B:Nat) (h1:w.cell? ⟨B,12,none⟩ = some (.slice none 0 0)) (h2:w.cell? ⟨B,14,none⟩ = some (.slice none 0 0)) (h3:w.cell? ⟨B,16,none⟩ = some (.slice none 0 0)) (h4:w.cell? ⟨B,18,none⟩ = some (.slice none 0 0)) :
  Calls Tryz.prog 20 #[.pointer (some ⟨B,0,none⟩)] w fun e w' => e = .returned (.bool true) ∧ w' = w:=by
 go_enter Tryz.func20,Tryz.ntmps20
 go_wp2
 go_loop [3] (fun i => i = .int .i64 0) (fun i => (intOf i).toNat)
 case atStart => rfl
 case round =>
  subst hrel
  go_wp2
  go_loop [4] (fun i => i = .int .i64 0) (fun i => (intOf i).toNat)
  case atStart => rfl
  case round =>
   subst hrel
   go_wp2
   go_loop [5] (fun i => i = .int .i64 0) (fun i => (intOf i).toNat)
   case atStart => rfl
   case round =>
    subst hrel
    go_wp2
    go_loop [9] (fun i => i = .int .i64 0) (fun i => (intOf i).toNat)
    case atStart => rfl
    case round =>
     subst hrel
     go_wp2
     go_ret
     exact ⟨rfl,rfl⟩
set_option maxHeartbeats 4000000 in
theorem intact_nil (w:World) (B:Nat) (a0:Option Addr) (c0:Nat) (h0:w.cell? ⟨B,0,none⟩ = some (.slice a0 0 c0)) (h2:w.cell? ⟨B,2,none⟩ = some (.slice none 0 0)) (h4:w.cell? ⟨B,4,none⟩ = some (.slice none 0 0)) (h6:w.cell? ⟨B,6,none⟩ = some (.slice none 0 0)) (h8:w.cell? ⟨B,8,none⟩ = some (.slice none 0 0)) (h10:w.cell? ⟨B,10,none⟩ = some (.slice none 0 0)) (h12:w.cell? ⟨B,12,none⟩ = some (.slice none 0 0)) (h14:w.cell? ⟨B,14,none⟩ = some (.slice none 0 0)) (h16:w.cell? ⟨B,16,none⟩ = some (.slice none 0 0)) (h18:w.cell? ⟨B,18,none⟩ = some (.slice none 0 0)) :
  Calls Tryz.prog 6 #[.pointer (some ⟨B,0,none⟩)] w fun e w' => e = .returned (.bool true) ∧ ∃ k,w' = w.drewN k:=by
 go_enter Tryz.func6,Tryz.ntmps6
 go_wp2
 go_loopw [3] (fun i wr => i = .int .i64 0 ∧ ∃ d,wr = w.drewN d) (fun i _ => (intOf i).toNat)
 case atStart => exact ⟨rfl,0,rfl⟩
 case round =>
  obtain ⟨rfl,d,rfl⟩:=hrel
  go_wp2_with fail
  go_loopw [4] (fun i wr => i = .int .i64 0 ∧ ∃ d,wr = w.drewN d) (fun i _ => (intOf i).toNat)
  case atStart => exact ⟨rfl,_,rfl⟩
  case round =>
   obtain ⟨rfl,d,rfl⟩:=hrel
   go_wp2_with fail
   go_loopw [5] (fun i wr => i = .int .i64 0 ∧ ∃ d,wr = w.drewN d) (fun i _ => (intOf i).toNat)
   case atStart => exact ⟨rfl,_,rfl⟩
   case round =>
    obtain ⟨rfl,d,rfl⟩:=hrel
    go_wp2_with fail
    go_loopw [6] (fun i wr => i = .int .i64 0 ∧ ∃ d,wr = w.drewN d) (fun i _ => (intOf i).toNat)
    case atStart => exact ⟨rfl,_,rfl⟩
    case round =>
     obtain ⟨rfl,d,rfl⟩:=hrel
     go_wp2_with fail
     go_loopw [7] (fun i wr => i = .int .i64 0 ∧ ∃ d,wr = w.drewN d) (fun i _ => (intOf i).toNat)
     case atStart => exact ⟨rfl,_,rfl⟩
     case round =>
      obtain ⟨rfl,d,rfl⟩:=hrel
      go_wp2_with fail
      go_loopw [8] (fun i wr => i = .int .i64 0 ∧ ∃ d,wr = w.drewN d) (fun i _ => (intOf i).toNat)
      case atStart => exact ⟨rfl,_,rfl⟩
      case round =>
       obtain ⟨rfl,d,rfl⟩:=hrel
       go_wp2_with fail
       refine (whole_any (w.drewN d) B h12 h14 h16 h18).mono ?_
       rintro e w' ⟨rfl,rfl⟩
       go_wp2
       go_ret
       exact ⟨rfl,_,rfl⟩

set_option maxHeartbeats 4000000 in
set_option maxRecDepth 100000 in
theorem intact_some (w:World) (B g0 c0 g1 c1 m:Nat) (es:List Ent) (hm:es.length = m) (hm2:m ≤ maxLen) (h0:w.cell? ⟨B,0,none⟩ = some (.slice (some ⟨g0,0,none⟩) m c0)) (h1:w.cell? ⟨B,1,none⟩ = some (.slice (some ⟨g1,0,none⟩) m c1))
  (hr0:∀ k (h:k < es.length),w.cell? ⟨g0,k,none⟩ = some es[k].v) (hr1:∀ k (h:k < es.length),w.cell? ⟨g1,k,none⟩ = some es[k].v0)
  (hes:∀ e ∈ es,Sl w (some ⟨Ent.b e,0,none⟩) (e.xs.length + 3) e.c (e.xs ++ marks) ∧ Sl w (some ⟨e.b0,0,none⟩) (e.xs.length + 3) e.c0 (e.xs ++ marks))
  (h2:w.cell? ⟨B,2,none⟩ = some (.slice none 0 0)) (h4:w.cell? ⟨B,4,none⟩ = some (.slice none 0 0)) (h6:w.cell? ⟨B,6,none⟩ = some (.slice none 0 0)) (h8:w.cell? ⟨B,8,none⟩ = some (.slice none 0 0)) (h10:w.cell? ⟨B,10,none⟩ = some (.slice none 0 0)) (h12:w.cell? ⟨B,12,none⟩ = some (.slice none 0 0)) (h14:w.cell? ⟨B,14,none⟩ = some (.slice none 0 0)) (h16:w.cell? ⟨B,16,none⟩ = some (.slice none 0 0)) (h18:w.cell? ⟨B,18,none⟩ = some (.slice none 0 0)) :
  Calls Tryz.prog 6 #[.pointer (some ⟨B,0,none⟩)] w fun e w' => e = .returned (.bool true) ∧ ∃ k,w' = w.drewN k:=by
 unfold maxLen at hm2
 go_enter Tryz.func6,Tryz.ntmps6
 go_wp2
 go_loopw [3] (fun i wr => ∃ k:Nat,k ≤ m ∧ i = .int .i64 k ∧ ∃ d,wr = w.drewN d) (fun i _ => m - (intOf i).toNat)
 case atStart => exact ⟨0,Nat.zero_le _,rfl,0,rfl⟩
 case round =>
  obtain ⟨k,hk,rfl,d,rfl⟩:=hrel
  by_cases hlt:k < m
  ·have hlt':(k:Int) < (m:Int):=by omega
   have g0':=hr0 k (by omega)
   have g1':=hr1 k (by omega)
   have HE:=Hd (hes es[k] (List.getElem_mem (by omega)))
   generalize es[k] = E at g0' g1' HE
   unfold Ent.v at g0'
   unfold Ent.v0 at g1'
   have K:=fun j => (sameNat_any _ _ _ _ _ _ _ _ (w.drewN j) ((Uh HE).1.drewN j) ((Uh HE).2.drewN j))
   rw [show decide (E.xs ++ marks = E.xs ++ marks) = true from by simp] at K
   have KK:=Hd K
   clear K hr0 hr1 hes HE
   go_wp2_with fail
   go_quiet ((go_at_call 14; exact quiet_at (Uh KK _)))
   go_wp2
   exact ⟨⟨k + 1,by omega,by go_num,_,rfl⟩,by simp [intOf]; omega⟩
  ·clear hr0 hr1 hes
   go_wp2_with fail
   go_loopw [4] (fun i wr => i = .int .i64 0 ∧ ∃ d,wr = w.drewN d) (fun i _ => (intOf i).toNat)
   case atStart => exact ⟨rfl,_,rfl⟩
   case round =>
    obtain ⟨rfl,d,rfl⟩:=hrel
    go_wp2_with fail
    go_loopw [5] (fun i wr => i = .int .i64 0 ∧ ∃ d,wr = w.drewN d) (fun i _ => (intOf i).toNat)
    case atStart => exact ⟨rfl,_,rfl⟩
    case round =>
     obtain ⟨rfl,d,rfl⟩:=hrel
     go_wp2_with fail
     go_loopw [6] (fun i wr => i = .int .i64 0 ∧ ∃ d,wr = w.drewN d) (fun i _ => (intOf i).toNat)
     case atStart => exact ⟨rfl,_,rfl⟩
     case round =>
      obtain ⟨rfl,d,rfl⟩:=hrel
      go_wp2_with fail
      go_loopw [7] (fun i wr => i = .int .i64 0 ∧ ∃ d,wr = w.drewN d) (fun i _ => (intOf i).toNat)
      case atStart => exact ⟨rfl,_,rfl⟩
      case round =>
       obtain ⟨rfl,d,rfl⟩:=hrel
       go_wp2_with fail
       go_loopw [8] (fun i wr => i = .int .i64 0 ∧ ∃ d,wr = w.drewN d) (fun i _ => (intOf i).toNat)
       case atStart => exact ⟨rfl,_,rfl⟩
       case round =>
        obtain ⟨rfl,d,rfl⟩:=hrel
        go_wp2_with fail
        refine (whole_any (w.drewN d) B h12 h14 h16 h18).mono ?_
        rintro e w' ⟨rfl,rfl⟩
        go_wp2
        go_ret
        exact ⟨rfl,_,rfl⟩

theorem intact_any (w:World) (B:Nat) (v0 v1:Value) (es:List Ent) (hg:Giv w B v0 v1 es) :
  Calls Tryz.prog 6 #[.pointer (some ⟨B,0,none⟩)] w fun e w' => e = .returned (.bool true) ∧ ∃ k,w' = w.drewN k:=by
 obtain ⟨cur,hcur,hc20,hc0,hc1,hcr⟩:=hg.blk
 have c0:w.cell? ⟨B,0,none⟩ = some v0:=(cell_of_block hcur 0).trans hc0
 have c1:w.cell? ⟨B,1,none⟩ = some v1:=(cell_of_block hcur 1).trans hc1
 have cr:∀ i,2 ≤ i → i < 20 → w.cell? ⟨B,i,none⟩ = some (.slice none 0 0):=fun i h2 h20 => (cell_of_block hcur i).trans (hcr i h2 h20)
 have r2:=cr 2 (by omega) (by omega)
 have r4:=cr 4 (by omega) (by omega)
 have r6:=cr 6 (by omega) (by omega)
 have r8:=cr 8 (by omega) (by omega)
 have r10:=cr 10 (by omega) (by omega)
 have r12:=cr 12 (by omega) (by omega)
 have r14:=cr 14 (by omega) (by omega)
 have r16:=cr 16 (by omega) (by omega)
 have r18:=cr 18 (by omega) (by omega)
 obtain ⟨l0,o0⟩:=hg.own0
 obtain ⟨l1,o1⟩:=hg.own1
 rcases o0 with ⟨e0,n0⟩ | ⟨g0,p0,u0,e0,b0,k0,s0,t0,z0,x0⟩
 ·subst e0
  exact intact_nil w B none 0 c0 r2 r4 r6 r8 r10 r12 r14 r16 r18
 ·subst e0
  by_cases hz:es.length = 0
  ·rw [hz] at c0
   exact intact_nil w B _ p0 c0 r2 r4 r6 r8 r10 r12 r14 r16 r18
  ·rcases o1 with ⟨e1,n1⟩ | ⟨g1,p1,u1,e1,b1,k1,s1,t1,z1,x1⟩
   ·exact absurd n1 hz
   ·subst e1
    refine intact_some w B g0 p0 g1 p1 es.length es rfl (by omega) c0 c1 ?_ ?_ (fun e he => ⟨(hg.ents e he).sl,(hg.ents e he).sl0⟩) r2 r4 r6 r8 r10 r12 r14 r16 r18
    ·intro k hk
     rw [cell_of_block k0]
     have:(es.map Ent.v)[k]? = some es[k].v:=by simp [hk]
     rw [← x0] at this
     simpa [List.getElem?_take,hk] using this
    ·intro k hk
     rw [cell_of_block k1]
     have:(es.map Ent.v0)[k]? = some es[k].v0:=by simp [hk]
     rw [← x1] at this
     simpa [List.getElem?_take,hk] using this
structure Pc where
 a:Option Addr
 n:Nat
 c:Nat
 xs:List Nat

def Pc.v (p:Pc):Value:=.slice p.a p.n p.c

structure Kp (w:World) (B:Nat) (v0 v1:Value) (p:Pc):Prop where
 sl:Sl w p.a p.n p.c p.xs
 safe:∀ x,p.a = some x → p.xs ≠ [] → ¬ Own B v0 v1 x.block

structure LawSt (w:World) (B:Nat) (v0 v1:Value) (es:List Ent) (w0:World) (L:List Pc):Prop where
 giv:Giv w B v0 v1 es
 bel:Below w0.heap.size w0 w
 base:w0.heap.size ≤ B
 all:∀ p ∈ L,Kp w B v0 v1 p

theorem Giv.own_lt {w:World} {B:Nat} {v0 v1:Value} {es:List Ent} (h:Giv w B v0 v1 es) {k:Nat} (hk:Own B v0 v1 k):k < w.heap.size:=by
 rcases hk with rfl | hk | hk
 ·exact h.cell0.2.2.2.2
 ·exact (own_ge h.own0 k hk).2
 ·exact (own_ge h.own1 k hk).2

theorem Giv.own_ge {w:World} {B:Nat} {v0 v1:Value} {es:List Ent} (h:Giv w B v0 v1 es) {k:Nat} (hk:Own B v0 v1 k):B ≤ k:=by
 rcases hk with rfl | hk | hk
 ·exact Nat.le_refl _
 ·have:=(Go.Proofs.YtncolonhdjkglaaGreatDoor.own_ge h.own0 k hk).1; omega
 ·have:=(Go.Proofs.YtncolonhdjkglaaGreatDoor.own_ge h.own1 k hk).1; omega

theorem Kp.below {w w':World} {B:Nat} {v0 v1:Value} {p:Pc} (h:Kp w B v0 v1 p) (k:Below w.heap.size w w'):Kp w' B v0 v1 p:=⟨h.sl.below k,h.safe⟩

theorem LawSt.keep {w w':World} {B:Nat} {v0 v1:Value} {es:List Ent} {w0:World} {L:List Pc} (h:LawSt w B v0 v1 es w0 L) (k:Below w.heap.size w w'):LawSt w' B v0 v1 es w0 L :=
 ⟨h.giv.below k,h.bel.trans (k.mono h.bel.size),h.base,fun p hp => (h.all p hp).below k⟩

theorem LawSt.drewN {w:World} {B:Nat} {v0 v1:Value} {es:List Ent} {w0:World} {L:List Pc} (h:LawSt w B v0 v1 es w0 L) (k:Nat):LawSt (w.drewN k) B v0 v1 es w0 L :=
 h.keep (bel_drewN (Below.refl _ _) k)

theorem Sl.pre {w:World} {b c n:Nat} {xs ys:List Nat} (h:Sl w (some ⟨b,0,none⟩) (xs.length + 3) c (xs ++ ys)) (hn:xs.length = n) (hl:ys.length = 3):Sl w (some ⟨b,0,none⟩) n c xs:=by
 have h1:=h.le
 refine ⟨hn,by omega,h.cap,?_⟩
 rcases h.cells with e | ⟨b',off',e,k⟩
 ·left
  cases xs with
  | nil => rfl
  | cons => simp at e
 ·right
  refine ⟨b',off',e,?_⟩
  intro i hi
  have:=k i (by simp; omega)
  rw [this]
  simp [List.getD,List.getElem?_append_left hi]

theorem LawSt.nat {w:World} {B:Nat} {v0 v1:Value} {es:List Ent} {w0:World} {L:List Pc} (h:LawSt w B v0 v1 es w0 L) (p:Pc) (hp:p ∈ L) (hn:p.n ≤ 35184372088000) (he:es.length ≤ 1000000000000) :
  Calls Tryz.prog 13 #[.pointer (some ⟨B,0,none⟩),.slice p.a p.n p.c] w fun e w' => ∃ v0' v1' E,e = .returned (.slice (some ⟨Ent.b E,0,none⟩) p.n E.c) ∧ LawSt w' B v0' v1' (es ++ [E]) w0 (⟨some ⟨E.b,0,none⟩,p.n,E.c,p.xs⟩ :: L):=by
 refine (gnat_any B v0 v1 es p.a p.n p.c p.xs w h.giv (h.all p hp).sl hn he).mono ?_
 rintro e w' ⟨v0',v1',E,rfl,hxs,hge,hg,hc,hsafe⟩
 refine ⟨v0',v1',E,rfl,hg,?_,h.base,?_⟩
 ·refine h.bel.trans (hc.below h.bel.size ?_)
  intro k hk ho
  have:=h.giv.own_ge ho
  have:=h.base
  omega
 ·intro q hq
  rcases List.mem_cons.1 hq with rfl | hq
  ·have E1:=hg.ents E (by simp)
   have:=E1.sl.pre (n:=p.n) (by rw [hxs]; exact (h.all p hp).sl.len) (by rfl)
   rw [hxs] at this
   exact ⟨this,fun x hx _ => by cases hx; exact E1.s⟩
  ·have K:=h.all q hq
   refine ⟨K.sl.chg hc K.safe,?_⟩
   intro x hx hne
   exact hsafe _ (K.sl.block_lt hne x hx) (K.safe x hx hne)

theorem LawSt.sl {w:World} {B:Nat} {v0 v1:Value} {es:List Ent} {w0:World} {L:List Pc} (h:LawSt w B v0 v1 es w0 L) (p:Pc) (hp:p ∈ L):Sl w p.a p.n p.c p.xs:=(h.all p hp).sl

theorem LawSt.begin {w:World} {L:List Pc} (o:Obj) (ho:o = .cells #[.slice none 0 0,.slice none 0 0,.slice none 0 0,.slice none 0 0,.slice none 0 0,.slice none 0 0,.slice none 0 0,.slice none 0 0,.slice none 0 0,.slice none 0 0,.slice none 0 0,.slice none 0 0,.slice none 0 0,.slice none 0 0,.slice none 0 0,.slice none 0 0,.slice none 0 0,.slice none 0 0,.slice none 0 0,.slice none 0 0] 38)
  (h:∀ p ∈ L,Sl w p.a p.n p.c p.xs):LawSt (w.alloc o) w.heap.size (.slice none 0 0) (.slice none 0 0) [] w L:=by
 have bel:Below w.heap.size w (w.alloc o):=(Below.refl _ _).alloc (Nat.le_refl _) o
 subst ho
 refine ⟨⟨⟨_,alloc_block _ _,rfl,rfl,rfl,?_⟩,World.ownsRow_nil _ _ _ _,World.ownsRow_nil _ _ _ _,(fun k hk => by cases hk),(fun e he => by cases he)⟩,bel,Nat.le_refl _,?_⟩
 ·intro i h2 h20
  match i,h20 with
  | 0,_ | 1,_ | 2,_ | 3,_ | 4,_ | 5,_ | 6,_ | 7,_ | 8,_ | 9,_ | 10,_ | 11,_ | 12,_ | 13,_ | 14,_ | 15,_ | 16,_ | 17,_ | 18,_ | 19,_ => rfl
  | n + 20,h => exact absurd h (by omega)
 ·intro p hp
  have:=h p hp
  refine ⟨this.below bel,?_⟩
  rintro x hx hne (h | h | h)
  ·have:=this.block_lt hne x hx; omega
  ·cases h
  ·cases h

theorem LawSt.intact {w:World} {B:Nat} {v0 v1:Value} {es:List Ent} {w0:World} {L:List Pc} (h:LawSt w B v0 v1 es w0 L) :
  Calls Tryz.prog 6 #[.pointer (some ⟨B,0,none⟩)] w fun e w' => e = .returned (.bool true) ∧ LawSt w' B v0 v1 es w0 L:=by
 refine (intact_any w B v0 v1 es h.giv).mono ?_
 rintro e w' ⟨rfl,k,rfl⟩
 exact ⟨rfl,h.drewN k⟩
theorem lst_mem {f:Nat → Nat} {n x:Nat} (h:x ∈ lst f n):∃ i,i < n ∧ f i = x:=by
 simpa [lst] using h
def dgt (V b i:Nat):Nat:=V / b ^ i % b
def chrN (d:Nat):Nat:=if d < 10 then 48 + d else 87 + d
structure TxtOf (V b n:Nat):Prop where
 pos:1 ≤ n
 lt:V < b ^ n
 ge:n = 1 ∨ b ^ (n - 1) ≤ V

theorem TxtOf.le {V b n m:Nat} (hb:2 ≤ b) (h:TxtOf V b n) (g:TxtOf V b m):n ≤ m:=by
 rcases h.ge with e | e
 ·have:=g.pos; omega
 ·rcases Nat.lt_or_ge m n with k | k
  ·exfalso
   have h1:b ^ m ≤ b ^ (n - 1):=Nat.pow_le_pow_right (by omega) (by omega)
   have:=g.lt
   omega
  ·exact k
theorem TxtOf.uniq {V b n m:Nat} (hb:2 ≤ b) (h:TxtOf V b n) (g:TxtOf V b m):n = m:=Nat.le_antisymm (h.le hb g) (g.le hb h)

theorem dgt_lt (V i:Nat) {b:Nat} (hb:0 < b):dgt V b i < b:=Nat.mod_lt _ hb
theorem dgt_div (V b i j:Nat):dgt (V / b ^ i) b j = dgt V b (i + j):=by
 unfold dgt
 rw [Nat.div_div_eq_div_mul,← Nat.pow_add]
theorem dgt_mod (V b:Nat) {i j:Nat} (hb:0 < b) (h:j < i):dgt (V % b ^ i) b j = dgt V b j:=by
 unfold dgt
 obtain ⟨k,rfl⟩:∃ k,i = j + (k + 1):=⟨i - j - 1,by omega⟩
 rw [Nat.pow_add,Nat.mod_mul_right_div_self,Nat.pow_succ,Nat.mul_comm,Nat.mod_mul_right_mod]
theorem chrN_lt {d:Nat} (h:d < 36):chrN d < 256:=by unfold chrN; split <;> omega
theorem chrN_zero {d:Nat} (h:d < 36):chrN d = 48 ↔ d = 0:=by unfold chrN; split <;> omega

def txtL (V b n:Nat):List Nat:=lst (fun p => chrN (dgt V b (n - 1 - p))) n

structure QbR (wr w:World) (n:Nat) (xs:List Nat) (d k r:Nat) (g:Nat → Nat):Prop where
 fn:Fn wr w.heap.size 0 n g
 ok:∀ i,i < n → g i < 4294967296
 rlt:r < d
 val:valF (fun i => xs.getD (k + i) 0) (n - k) = valF (fun i => g (k + i)) (n - k) * d + r
 bel:Below w.heap.size w wr

theorem QbR.step {wr w:World} {n:Nat} {xs:List Nat} {d k r x:Nat} {g:Nat → Nat} (h:QbR wr w n xs d (k + 1) r g) (hk:k < n) (hx:xs.getD k 0 = x) (hx2:x < 4294967296) :
  QbR (wr.setCell ⟨w.heap.size,k,none⟩ (.int .u32 (dv x r / d:Nat))) w n xs d k (dv x r % d) (fun i => if i = k then dv x r / d else g i):=by
 have hq:=dv_div_lt hx2 h.rlt
 have hs:=h.fn.set k (dv x r / d) hk
 rw [Nat.zero_add] at hs
 refine ⟨hs,?_,Nat.mod_lt _ (by have:=h.rlt; omega),?_,h.bel.setCell (Nat.le_refl _) _⟩
 ·intro i hi
  by_cases e:i = k
  ·simp only [e,if_true]; exact hq
  ·simp only [e,if_false]; exact h.ok i hi
 ·rw [valF_head (fun i => xs.getD i 0) k n hk,valF_head (fun i => if i = k then dv x r / d else g i) k n hk]
  simp only [if_true]
  have e0:valF (fun i => if k + 1 + i = k then dv x r / d else g (k + 1 + i)) (n - (k + 1)) = valF (fun i => g (k + 1 + i)) (n - (k + 1)):=valF_congr (fun i _ => by rw [if_neg (by omega)])
  rw [e0,hx]
  refine dl_arith h.val ?_
  have:=Nat.div_add_mod (dv x r) d
  unfold dv at *
  omega

open Go.RowKit Go.Deep
set_option linter.unusedVariables false

theorem ownsRow_below {w w':World} {base:Nat} {e:TypeId} {size:Nat} {v:Value} {n:Nat} {xs:List Value} (h:w.ownsRow base e size v n xs) (k:Below w.heap.size w w'):w'.ownsRow base e size v n xs:=by
 refine ⟨h.1,?_⟩
 rcases h.2 with e0 | ⟨g,cap,cur,e0,hb,h5,h6,h7,h8,h9⟩
 ·exact .inl e0
 ·exact .inr ⟨g,cap,cur,e0,hb,by rw [k.block g (by
   rcases Nat.lt_or_ge g w.heap.size with hlt | hge
   ·exact hlt
   ·simp [Array.getElem?_eq_none hge] at h5)]; exact h5,h6,h7,h8,h9⟩

inductive PrIs (xs:List Nat) (b:Int):ByteArray → Int → Prop where
 | nat (h:MayL xs = false):PrIs xs b (strB []) 20
 | base (h:MayL xs = true) (hb:¬ (2 ≤ b ∧ b ≤ 36)):PrIs xs b (strB []) 22
 | text (n:Nat) (h:MayL xs = true) (hb:2 ≤ b ∧ b ≤ 36) (ht:TxtOf (val xs) b.toNat n):PrIs xs b (strB (txtL (val xs) b.toNat n)) 0

theorem PrIs.uniq {xs:List Nat} {b:Int} {s t:ByteArray} {e f:Int} (h:PrIs xs b s e) (g:PrIs xs b t f):s = t ∧ e = f:=by
 cases h with
 | nat h =>
  cases g with
  | nat g => exact ⟨rfl,rfl⟩
  | base g gb => rw [h] at g; cases g
  | text m g gb gt => rw [h] at g; cases g
 | base h hb =>
  cases g with
  | nat g => rw [h] at g; cases g
  | base g gb => exact ⟨rfl,rfl⟩
  | text m g gb gt => exact absurd gb hb
 | text n h hb ht =>
  cases g with
  | nat g => rw [h] at g; cases g
  | base g gb => exact absurd hb gb
  | text m g gb gt => rw [ht.uniq (by omega) gt]; exact ⟨rfl,rfl⟩

def PrPost (xs:List Nat) (b:Int) (w:World) (e:Ending) (w':World):Prop :=
 ∃ s er,e = .returned (.tuple #[.string s,.int .i64 er]) ∧ PrIs xs b s er ∧ Below w.heap.size w w'

structure QpR (wr w:World) (V b:Nat) (v:Value) (k Q:Nat) (a:Option Addr) (m:Nat):Prop where
 own:wr.ownsRow w.heap.size 5 1 v k (valsB (lst (fun p => chrN (dgt V b p)) k))
 sl:Sl wr a m m (limbs Q)
 q:Q = V / b ^ k
 top:k = 0 ∨ 0 < V / b ^ (k - 1)
 bel:Below w.heap.size w wr

theorem QpR.done {wr w:World} {V b:Nat} {v:Value} {k:Nat} {a:Option Addr} {m:Nat} (h:QpR wr w V b v k 0 a m) (hV:0 < V) (hb:2 ≤ b):TxtOf V b k:=by
 have hp:0 < b ^ k:=Nat.pow_pos (by omega)
 have h1:V < b ^ k:=by
  rcases Nat.lt_or_ge V (b ^ k) with e | e
  ·exact e
  ·have:=Nat.div_pos e hp
   have:=h.q
   omega
 rcases h.top with e | e
 ·subst e; simp at h1; omega
 ·have h2:b ^ (k - 1) ≤ V:=by
   rcases Nat.lt_or_ge V (b ^ (k - 1)) with g | g
   ·rw [Nat.div_eq_of_lt g] at e; omega
   ·exact g
  refine ⟨?_,h1,.inr h2⟩
  rcases Nat.eq_zero_or_pos k with g | g
  ·subst g; simp at h1; omega
  ·exact g

theorem QpR.len {wr w:World} {V b:Nat} {v:Value} {k Q:Nat} {a:Option Addr} {m n:Nat} (h:QpR wr w V b v k Q a m) (hb:2 ≤ b) (hV:V < 2 ^ (32 * n)):k ≤ 32 * n:=by
 rcases h.top with e | e
 ·omega
 ·rcases Nat.eq_zero_or_pos k with g | g
  ·omega
  have h2:b ^ (k - 1) ≤ V:=by
   rcases Nat.lt_or_ge V (b ^ (k - 1)) with g | g
   ·rw [Nat.div_eq_of_lt g] at e; omega
   ·exact g
  have h3:2 ^ (k - 1) ≤ b ^ (k - 1):=Nat.pow_le_pow_left hb _
  have h4:2 ^ (k - 1) < 2 ^ (32 * n):=by omega
  have:=(Nat.pow_lt_pow_iff_right (by decide:1 < 2)).1 h4
  omega

theorem QpR.step {wr w w1:World} {V b:Nat} {v v':Value} {k Q:Nat} {a a':Option Addr} {m m':Nat} {o:Obj} (h:QpR wr w V b v k Q a m) (hQ:0 < Q) (hs:Sl wr a' m' m' (limbs (Q / b)))
  (hown:w1.ownsRow w.heap.size 5 1 v' (k + 1) (valsB (lst (fun p => chrN (dgt V b p)) k) ++ [.int .u8 (chrN (Q % b):Nat)])) (hg:(wr.alloc o).grownBy w1 v.ownBlock) (hne:∀ x,a' = some x → v.ownBlock ≠ some x.block):QpR w1 w V b v' (k + 1) (Q / b) a' m':=by
 have hz:=h.bel.size
 have hq:=h.q
 refine ⟨?_,?_,?_,.inr ?_,Below.grown (h.bel.alloc (by omega) o) hg (by simp; omega) (fun k hk => (own_ge h.own k hk).1)⟩
 ·have e:valsB (lst (fun p => chrN (dgt V b p)) k) ++ [.int .u8 (chrN (Q % b):Nat)] = valsB (lst (fun p => chrN (dgt V b p)) (k + 1)):=by
   unfold valsB
   simp only [lst,List.range_succ,List.map_append,List.map_cons,List.map_nil]
   rw [hq]
   rfl
  rw [e] at hown
  exact hown
 ·have hs1:Sl (wr.alloc o) a' m' m' (limbs (Q / b)):=hs.below ((Below.refl _ _).alloc (Nat.le_refl _) o)
  exact hs1.chg (S:=fun k => v.ownBlock = some k) (Chg.of_grown hg (fun k hk => hk)) (fun x hx _ => hne x hx)
 ·rw [hq,Nat.div_div_eq_div_mul,← Nat.pow_succ]
 ·rw [Nat.add_sub_cancel,← hq]; exact hQ

theorem FnB.slB {w:World} {b off n c:Nat} {f:Nat → Nat} (h:FnB w b off n f) (hc:n ≤ c) (hf:∀ i,i < n → f i < 256):SlB w (some ⟨b,off,none⟩) n c (lst f n):=by
 refine ⟨lst_len _ _,hc,fun x hx => ?_,.inr ⟨b,off,rfl,fun i hi => ?_⟩⟩
 ·obtain ⟨i,hi,rfl⟩:=lst_mem hx
  exact hf i hi
 ·rw [lst_len] at hi
  rw [lst_getD f n i hi]
  exact (h i hi).1
theorem chr_ok (V:Nat) {b:Nat} (hb:2 ≤ b) (hb2:b ≤ 36) (i:Nat):chrN (dgt V b i) < 256:=chrN_lt (by have:=dgt_lt V i (b:=b) (by omega); omega)

theorem chr_up {D:Nat} (h:D < 10):chrN D = 48 + D:=by unfold chrN; rw [if_pos h]
open Go.RowKit Go.Deep
set_option linter.unusedVariables false

theorem txt_zero {b:Nat} (hb:2 ≤ b):TxtOf 0 b 1:=⟨Nat.le_refl _,by simp; omega,.inl rfl⟩
theorem txtL_zero (b:Nat):txtL 0 b 1 = [48]:=by
 unfold txtL lst dgt chrN
 simp
end Go.Proofs.YtncolonhdjkglaaGreatDoor
