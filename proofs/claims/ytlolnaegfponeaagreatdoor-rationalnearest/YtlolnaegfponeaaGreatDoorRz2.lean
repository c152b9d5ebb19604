/- Ry1 -/
import Derived.Test.YtlolnaegfponeaaGreatDoorRv3
import Derived.Test.YtlolnaegfponeaaGreatDoorPr5
import Derived.Test.YtlolnaegfponeaaGreatDoorDv3
import Derived.Test.YtlolnaegfponeaaGreatDoorRz5
import Derived.Test.YtlolnaegfponeaaGreatDoorWr7
import Derived.Deep.RegionHeld3
namespace Go.Proofs.YtlolnaegfponeaaGreatDoor
open Go.RowKit Go.Deep
set_option linter.unusedVariables false
structure RowQ (w wr:World) (v:Value) (k:Nat) (ps:List Nq):Prop where
 own:wr.ownsRow w.heap.size 25 3 v k (celQ ps)
 each:∀ p ∈ ps,(Sl wr p.a p.n p.c p.x ∧ Sl wr p.b p.m p.d p.y) ∧ Ok p.x ∧ Ok p.y
 far:FarQ (fun j => v.ownBlock = some j) ps
 bel:Below w.heap.size w wr
theorem RowQ.len {w wr:World} {v:Value} {k:Nat} {ps:List Nq} (h:RowQ w wr v k ps):ps.length = k:=by
 have:=h.own.1
 rw [celQ_len] at this
 omega
theorem RowQ.below {w wr w':World} {v:Value} {k:Nat} {ps:List Nq} (h:RowQ w wr v k ps) (b:Below wr.heap.size wr w'):RowQ w w' v k ps :=
 ⟨ownsRow_chg h.own (.of_below (S:=fun _ => False) b) (fun _ _ => id),fun p hp => ⟨⟨(h.each p hp).1.1.below b,(h.each p hp).1.2.below b⟩,(h.each p hp).2⟩,h.far,h.bel.trans (b.mono h.bel.size)⟩
theorem RowQ.form {w wr:World} {v:Value} {k:Nat} {ps:List Nq} (h:RowQ w wr v k ps):∃ a c,v = .slice a k c ∧ SlQ wr a k c ps:=by
 have hl:=h.len
 rcases h.own.2 with ⟨e,h0⟩ | ⟨g,cap,cur,e,hb,h5,h6,h7,h8,h9⟩
 ·subst e h0
  exact ⟨none,0,rfl,⟨hl,Nat.le_refl _,.inl (List.eq_nil_of_length_eq_zero hl),h.each⟩⟩
 ·refine ⟨_,cap,e,?_⟩
  by_cases hp:ps = []
  ·exact ⟨hl,h6,.inl hp,h.each⟩
  ·have ho:=h.own
   rw [e] at ho
   exact (FilQ.of_own ho hp h.each).sl hl h6
theorem RowQ.app {w wr w1:World} {v:Value} {k g c2:Nat} {ps:List Nq} {o:Obj} (h:RowQ w wr v k ps) (p:Nq) (hp:(Sl wr p.a p.n p.c p.x ∧ Sl wr p.b p.m p.d p.y) ∧ Ok p.x ∧ Ok p.y) (hf:FarQ (fun j => v.ownBlock = some j) [p])
  (hown:w1.ownsRow w.heap.size 25 3 (.slice (some ⟨g,0,none⟩) (k + 1) c2) (k + 1) (celQ ps ++ [.bool p.g,.slice p.a p.n p.c,.slice p.b p.m p.d])) (hg:(wr.alloc o).grownBy w1 v.ownBlock) (hat:v.ownBlock = some g ∨ g = wr.heap.size + 1) :
  RowQ w w1 (.slice (some ⟨g,0,none⟩) (k + 1) c2) (k + 1) (ps ++ [p]):=by
 have hz:=h.bel.size
 have al:Below wr.heap.size wr (wr.alloc o):=(Below.refl _ _).alloc (Nat.le_refl _) o
 have kk:Chg (fun j => v.ownBlock = some j) (wr.alloc o) w1:=Chg.of_grown hg (fun k hk => hk)
 have far:FarQ (fun j => v.ownBlock = some j) (ps ++ [p]):=fun q hq => by
  rcases List.mem_append.1 hq with e | e
  ·exact h.far q e
  ·exact hf q e
 have each:∀ q ∈ ps ++ [p],(Sl wr q.a q.n q.c q.x ∧ Sl wr q.b q.m q.d q.y) ∧ Ok q.x ∧ Ok q.y:=fun q hq => by
  rcases List.mem_append.1 hq with e | e
  ·exact h.each q e
  ·obtain rfl:=List.mem_singleton.1 e
   exact hp
 refine ⟨?_,fun q hq => ⟨⟨((each q hq).1.1.below al).chg kk (far q hq).1,((each q hq).1.2.below al).chg kk (far q hq).2⟩,(each q hq).2⟩,?_,Below.grown (h.bel.alloc (by omega) o) hg (by simp; omega) (fun k hk => (own_ge h.own k hk).1)⟩
 ·rw [celQ_app]
  exact hown
 ·intro q hq
  refine ⟨fun z hz' hne e => ?_,fun z hz' hne e => ?_⟩
  ·simp [Value.ownBlock] at e
   rcases hat with h1 | h1
   ·exact (far q hq).1 z hz' hne (by rw [h1,e])
   ·have:=(each q hq).1.1.block_lt hne z hz'
    omega
  ·simp [Value.ownBlock] at e
   rcases hat with h1 | h1
   ·exact (far q hq).2 z hz' hne (by rw [h1,e])
   ·have:=(each q hq).1.2.block_lt hne z hz'
    omega
theorem RowQ.one {w wr:World} (p:Nq) (hp:(Sl wr p.a p.n p.c p.x ∧ Sl wr p.b p.m p.d p.y) ∧ Ok p.x ∧ Ok p.y) (hb:Below w.heap.size w wr) :
  RowQ w (wr.alloc (.cells #[.bool p.g,.slice p.a p.n p.c,.slice p.b p.m p.d] 25)) (.slice (some ⟨wr.heap.size,0,none⟩) 1 1) 1 [p]:=by
 have al:Below wr.heap.size wr (wr.alloc (.cells #[.bool p.g,.slice p.a p.n p.c,.slice p.b p.m p.d] 25)):=bAl
 refine ⟨⟨rfl,.inr ⟨wr.heap.size,1,_,rfl,hb.size,alloc_block _ _,Nat.le_refl _,by unfold maxLen; omega,rfl,rfl⟩⟩,?_,?_,hb.alloc hb.size _⟩
 ·intro q hq
  obtain rfl:=List.mem_singleton.1 hq
  exact ⟨⟨hp.1.1.below al,hp.1.2.below al⟩,hp.2⟩
 ·intro q hq
  obtain rfl:=List.mem_singleton.1 hq
  refine ⟨fun z hz hne e => ?_,fun z hz hne e => ?_⟩
  ·simp [Value.ownBlock] at e
   have:=hp.1.1.block_lt hne z hz
   omega
  ·simp [Value.ownBlock] at e
   have:=hp.1.2.block_lt hne z hz
   omega
def cfT:Nat → Nat → Nat → List Nat × Bool
 | 0,_,l => ([],decide (l = 0))
 | f + 1,d,l => if l = 0 then ([],true) else (d / l :: (cfT f l (d % l)).1,(cfT f l (d % l)).2)
theorem cfT_end (f d:Nat):cfT f d 0 = ([],true):=by
 cases f with
 | zero => simp [cfT]
 | succ f => simp [cfT]
theorem cfT_stop (d:Nat) {l:Nat} (h:l ≠ 0):cfT 0 d l = ([],false):=by simp [cfT,h]
theorem cfT_step (f d:Nat) {l:Nat} (h:l ≠ 0):cfT (f + 1) d l = (d / l :: (cfT f l (d % l)).1,(cfT f l (d % l)).2):=by rw [cfT,if_neg h]
def whN (t:Nat):Bool × List Nat × List Nat:=(false,limbs t,[1])
structure CfR (f0 d0 l0:Nat) (ts:List Nat) (f d l:Nat):Prop where
 eq:cfT f0 d0 l0 = (ts ++ (cfT f d l).1,(cfT f d l).2)
 cnt:ts.length + f = f0
 lt:l < d
 dle:d ≤ d0
theorem CfR.begin (f d l:Nat) (h:l < d):CfR f d l [] f d l:=⟨by simp,by simp,h,Nat.le_refl _⟩
theorem CfR.next {f0 d0 l0 f d l:Nat} {ts:List Nat} (h:CfR f0 d0 l0 ts (f + 1) d l) (hl:l ≠ 0):CfR f0 d0 l0 (ts ++ [d / l]) f l (d % l):=by
 refine ⟨?_,by have:=h.cnt; simp; omega,Nat.mod_lt _ (by omega),by have:=h.lt; have:=h.dle; omega⟩
 rw [h.eq,cfT_step f d hl]
 simp
theorem CfR.all {f0 d0 l0 f d:Nat} {ts:List Nat} (h:CfR f0 d0 l0 ts f d 0):cfT f0 d0 l0 = (ts,true):=by rw [h.eq,cfT_end]; simp
theorem CfR.some {f0 d0 l0 d l:Nat} {ts:List Nat} (h:CfR f0 d0 l0 ts 0 d l) (hl:l ≠ 0):cfT f0 d0 l0 = (ts,false):=by rw [h.eq,cfT_stop d hl]; simp
structure DgO (wr w:World) (V:Nat) (v:Value) (k:Nat):Prop where
 own:wr.ownsRow w.heap.size 5 1 v k (valsB (lst (fun p => chrN (dgt V 10 p)) k))
 top:k = 0 ∨ 0 < V / 10 ^ (k - 1)
 bel:Below w.heap.size w wr
theorem DgO.below {wr w w':World} {V:Nat} {v:Value} {k:Nat} (h:DgO wr w V v k) (b:Below wr.heap.size wr w'):DgO w' w V v k :=
 ⟨ownsRow_below h.own b,h.top,h.bel.trans (b.mono h.bel.size)⟩
theorem DgO.step {wr w w1:World} {V:Nat} {v v':Value} {k:Nat} {o:Obj} (h:DgO wr w V v k) (hp:0 < V / 10 ^ k)
  (hown:w1.ownsRow w.heap.size 5 1 v' (k + 1) (valsB (lst (fun p => chrN (dgt V 10 p)) k) ++ [.int .u8 (chrN (dgt V 10 k):Nat)])) (hg:(wr.alloc o).grownBy w1 v.ownBlock):DgO w1 w V v' (k + 1):=by
 have hz:=h.bel.size
 refine ⟨?_,.inr (by simpa using hp),Below.grown (h.bel.alloc (by omega) o) hg (by simp; omega) (fun k hk => (own_ge h.own k hk).1)⟩
 have e:valsB (lst (fun p => chrN (dgt V 10 p)) k) ++ [.int .u8 (chrN (dgt V 10 k):Nat)] = valsB (lst (fun p => chrN (dgt V 10 p)) (k + 1)):=by
  unfold valsB
  simp only [lst,List.range_succ,List.map_append,List.map_cons,List.map_nil]
 rw [e] at hown
 exact hown
theorem DgO.done {wr w:World} {V:Nat} {v:Value} {k:Nat} (h:DgO wr w V v k) (hV:0 < V) (hq:V / 10 ^ k = 0):TxtOf V 10 k:=by
 have hp:0 < 10 ^ k:=Nat.pow_pos (by decide)
 have h1:V < 10 ^ k:=by
  rcases Nat.lt_or_ge V (10 ^ k) with e | e
  ·exact e
  ·have:=Nat.div_pos e hp
   omega
 rcases h.top with e | e
 ·subst e; simp at h1; omega
 ·have h2:10 ^ (k - 1) ≤ V:=by
   rcases Nat.lt_or_ge V (10 ^ (k - 1)) with g | g
   ·rw [Nat.div_eq_of_lt g] at e; omega
   ·exact g
  refine ⟨?_,h1,.inr h2⟩
  rcases Nat.eq_zero_or_pos k with g | g
  ·subst g; simp at h1; omega
  ·exact g
theorem DgO.len {wr w:World} {V:Nat} {v:Value} {k n:Nat} (h:DgO wr w V v k) (hV:V < 2 ^ (32 * n)):k ≤ 32 * n:=by
 rcases h.top with e | e
 ·omega
 ·rcases Nat.eq_zero_or_pos k with g | g
  ·omega
  have h2:10 ^ (k - 1) ≤ V:=by
   rcases Nat.lt_or_ge V (10 ^ (k - 1)) with g | g
   ·rw [Nat.div_eq_of_lt g] at e; omega
   ·exact g
  have h3:2 ^ (k - 1) ≤ 10 ^ (k - 1):=Nat.pow_le_pow_left (by decide) _
  have:=(Nat.pow_lt_pow_iff_right (by decide:1 < 2)).1 (show 2 ^ (k - 1) < 2 ^ (32 * n) by omega)
  omega
def FarB (v:Value) (a:Option Addr) (xs:List Nat):Prop:=∀ x,a = some x → xs ≠ [] → v.ownBlock ≠ some x.block
theorem FarB.step {w w1:World} {v:Value} {a:Option Addr} {m c g k2 c2:Nat} {xs:List Nat} {o:Obj} (h:FarB v a xs) (hs:Sl w a m c xs) (hg:(w.alloc o).grownBy w1 v.ownBlock) (hat:v.ownBlock = some g ∨ g = w.heap.size + 1):Sl w1 a m c xs ∧ FarB (.slice (some ⟨g,0,none⟩) k2 c2) a xs:=by
 have hs1:Sl (w.alloc o) a m c xs:=hs.below ((Below.refl _ _).alloc (Nat.le_refl _) o)
 refine ⟨hs1.chg (S:=fun k => v.ownBlock = some k) (Chg.of_grown hg (fun k hk => hk)) (fun x hx hne => h x hx hne),?_⟩
 intro x hx hne e
 simp [Value.ownBlock] at e
 rcases hat with h1 | h1
 ·exact h x hx hne (by rw [h1,e])
 ·have:=hs.block_lt hne x hx
  omega
inductive TmR (g:Bool) (x y:List Nat) (most:Int):List (Bool × List Nat × List Nat) → Bool → Int → Prop where
 | bad (h:MayR g x y = false):TmR g x y most [] false 40
 | arg (h:MayR g x y = true) (hp:most < 1 ∨ 1024 < most):TmR g x y most [] false 1
 | ok (f:Nat) (h:MayR g x y = true) (hp:most = (f:Int) + 1) (hf:f ≤ 1023):TmR g x y most ((g && decide (flQ g (val x) (val y) ≠ 0),limbs (flQ g (val x) (val y)),[1]) :: (cfT f (val y) (flL g (val x) (val y))).1.map whN) (cfT f (val y) (flL g (val x) (val y))).2 0
theorem TmR.uniq {g:Bool} {x y:List Nat} {most:Int} {s t:List (Bool × List Nat × List Nat)} {a b:Bool} {e f:Int} (h:TmR g x y most s a e) (k:TmR g x y most t b f):s = t ∧ a = b ∧ e = f:=by
 cases h with
 | bad h =>
  cases k with
  | bad k => exact ⟨rfl,rfl,rfl⟩
  | arg k hp => rw [h] at k; cases k
  | ok f k hp hf => rw [h] at k; cases k
 | arg h hp =>
  cases k with
  | bad k => rw [h] at k; cases k
  | arg k hp => exact ⟨rfl,rfl,rfl⟩
  | ok f k hp hf => omega
 | ok f h hp hf =>
  cases k with
  | bad k => rw [h] at k; cases k
  | arg k hp => omega
  | ok f2 k hp2 hf2 =>
   obtain rfl:f = f2:=by omega
   exact ⟨rfl,rfl,rfl⟩
def TmPost (g:Bool) (x y:List Nat) (most:Int) (w:World) (e:Ending) (w':World):Prop :=
 ∃ a k c ps b er,e = .returned (.tuple #[.slice a k c,.bool b,.int .i64 er]) ∧ SlQ w' a k c ps ∧ TmR g x y most (ps.map conQ) b er ∧ Below w.heap.size w w'

theorem ok_unit:Ok [1]:=fun y hy => by simp at hy; omega
structure TmX (w wr:World) (v:Value) (k:Nat) (ps:List Nq) (c0:Bool × List Nat × List Nat) (f0 D0 L0:Nat) (ts:List Nat) (f D L:Nat) (ad:Option Addr) (md cd:Nat) (al:Option Addr) (ml cl:Nat):Prop where
 row:RowQ w wr v k ps
 sd:Sl wr ad md cd (limbs D)
 fd:FarB v ad (limbs D)
 sl:Sl wr al ml cl (limbs L)
 fl:FarB v al (limbs L)
 cf:CfR f0 D0 L0 ts f D L
 con:ps.map conQ = c0 :: ts.map whN
theorem TmX.cnt {w wr:World} {v:Value} {k:Nat} {ps:List Nq} {c0:Bool × List Nat × List Nat} {f0 D0 L0:Nat} {ts:List Nat} {f D L:Nat} {ad:Option Addr} {md cd:Nat} {al:Option Addr} {ml cl:Nat} (h:TmX w wr v k ps c0 f0 D0 L0 ts f D L ad md cd al ml cl):k + f = f0 + 1:=by
 have h1:=h.row.len
 have h2:=congrArg List.length h.con
 simp at h2
 have:=h.cf.cnt
 omega
theorem newFarB {w wr:World} {v:Value} {k:Nat} {ps:List Nq} (h:RowQ w wr v k ps) {a:Option Addr} {xs:List Nat} (h1:NewAt wr.heap.size a):FarB v a xs:=fun x hx _ e => by
 have:=(own_ge h.own _ e).2
 have:=h1 x hx
 omega
theorem FarB.none {a:Option Addr} {xs:List Nat} {wr:World} {m c:Nat} (hs:Sl wr a m c xs) {k c2:Nat}:FarB (.slice (some ⟨wr.heap.size,0,none⟩) k c2) a xs:=fun x hx hne e => by
 simp [Value.ownBlock] at e
 have:=hs.block_lt hne x hx
 omega
theorem TmX.next {w wr w2 w3 w4:World} {v:Value} {k g c2:Nat} {ps:List Nq} {c0:Bool × List Nat × List Nat} {f0 D0 L0:Nat} {ts:List Nat} {f D L:Nat} {ad:Option Addr} {md cd:Nat} {al:Option Addr} {ml cl:Nat} {o:Obj}
  (h:TmX w wr v k ps c0 f0 D0 L0 ts (f + 1) D L ad md cd al ml cl) (hL:L ≠ 0) {an:Option Addr} {mn cn:Nat} (b2:Below wr.heap.size wr w2) (sn:Sl w2 an mn cn (limbs (D % L))) (nn:NewAt wr.heap.size an) (b3:Below w2.heap.size w2 w3)
  (p:Nq) (hp:(Sl w3 p.a p.n p.c p.x ∧ Sl w3 p.b p.m p.d p.y) ∧ Ok p.x ∧ Ok p.y) (np:NewAt wr.heap.size p.a ∧ NewAt wr.heap.size p.b) (hc:conQ p = whN (D / L))
  (hown:w4.ownsRow w.heap.size 25 3 (.slice (some ⟨g,0,none⟩) (k + 1) c2) (k + 1) (celQ ps ++ [.bool p.g,.slice p.a p.n p.c,.slice p.b p.m p.d])) (hg:(w3.alloc o).grownBy w4 v.ownBlock) (hat:v.ownBlock = some g ∨ g = w3.heap.size + 1) :
  TmX w w4 (.slice (some ⟨g,0,none⟩) (k + 1) c2) (k + 1) (ps ++ [p]) c0 f0 D0 L0 (ts ++ [D / L]) f L (D % L) al ml cl an mn cn:=by
 have b23:=b2.trans (b3.mono b2.size)
 have r3:=h.row.below b23
 have farp:FarQ (fun j => v.ownBlock = some j) [p]:=by
  intro q hq
  obtain rfl:=List.mem_singleton.1 hq
  refine ⟨fun z hz _ e => ?_,fun z hz _ e => ?_⟩
  ·have:=(own_ge h.row.own _ e).2; have:=np.1 z hz; omega
  ·have:=(own_ge h.row.own _ e).2; have:=np.2 z hz; omega
 have sl3:=h.sl.below b23
 have sn3:=sn.below b3
 have fn:FarB v an (limbs (D % L)):=newFarB h.row nn
 refine ⟨r3.app p hp farp hown hg hat,(h.fl.step (k2:=k + 1) (c2:=c2) sl3 hg hat).1,(h.fl.step (k2:=k + 1) (c2:=c2) sl3 hg hat).2,(fn.step (k2:=k + 1) (c2:=c2) sn3 hg hat).1,(fn.step (k2:=k + 1) (c2:=c2) sn3 hg hat).2,h.cf.next hL,?_⟩
 rw [List.map_append,h.con]
 simp [hc]
theorem TmX.post {w wr:World} {v:Value} {k:Nat} {ps:List Nq} {g:Bool} {x y:List Nat} {f0:Nat} {ts:List Nat} {f D L:Nat} {ad:Option Addr} {md cd:Nat} {al:Option Addr} {ml cl:Nat} {most:Int}
  (h:TmX w wr v k ps (g && decide (flQ g (val x) (val y) ≠ 0),limbs (flQ g (val x) (val y)),[1]) f0 (val y) (flL g (val x) (val y)) ts f D L ad md cd al ml cl) (hm:MayR g x y = true) (hp:most = (f0:Int) + 1) (hf:f0 ≤ 1023) (hend:L = 0 ∨ f = 0) {W:World} (hb:Below wr.heap.size wr W) :
  TmPost g x y most w (.returned (.tuple #[v,.bool (decide (L = 0)),.int .i64 0])) W:=by
 obtain ⟨a,c,rfl,hs⟩:=(h.row.below hb).form
 refine ⟨a,k,c,ps,decide (L = 0),0,rfl,hs,?_,(h.row.below hb).bel⟩
 rw [h.con]
 have key:cfT f0 (val y) (flL g (val x) (val y)) = (ts,decide (L = 0)):=by
  by_cases hL:L = 0
  ·subst hL
   rw [h.cf.all]
   simp
  ·obtain rfl:f = 0:=by omega
   rw [h.cf.some hL]
   simp [hL]
 have:=TmR.ok (g:=g) (x:=x) (y:=y) (most:=most) f0 hm hp hf
 rw [key] at this
 exact this
theorem limbs_two_len (k:Nat):(limbs (2 ^ k)).length ≤ k + 1:=by
 refine rep_len_le (limbs_rep _) ?_
 have h1:2 ^ k ≤ 4294967296 ^ k:=Nat.pow_le_pow_left (by decide) k
 have h2:4294967296 ^ k < 4294967296 ^ (k + 1):=Nat.pow_lt_pow_right (by decide) (Nat.lt_succ_self k)
 exact Nat.lt_of_le_of_lt h1 h2
theorem limbs_pow_len (v k:Nat):(limbs (v * 2 ^ k)).length ≤ (limbs v).length + (k + 1):=by
 refine rep_len_le (limbs_rep _) ?_
 rw [Nat.pow_add]
 have h1:2 ^ k ≤ 4294967296 ^ k:=Nat.pow_le_pow_left (by decide) k
 have h2:4294967296 ^ k < 4294967296 ^ (k + 1):=Nat.pow_lt_pow_right (by decide) (Nat.lt_succ_self k)
 exact Nat.mul_lt_mul_of_lt_of_lt (limbs_lt v) (Nat.lt_of_le_of_lt h1 h2)
end Go.Proofs.YtlolnaegfponeaaGreatDoor
