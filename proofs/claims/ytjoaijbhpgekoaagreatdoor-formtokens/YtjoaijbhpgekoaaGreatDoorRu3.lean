/- Wi6 -/
import Derived.Test.YtjoaijbhpgekoaaGreatDoorWi5
import Derived.Test.YtjoaijbhpgekoaaGreatDoorRq0
import Derived.Test.YtjoaijbhpgekoaaGreatDoorFtm
import Derived.Deep.RegionHeld3
import Derived.Deep.LoopGhost
import Derived.Test.YtjoaijbhpgekoaaGreatDoorMul
import Derived.Test.YtjoaijbhpgekoaaGreatDoorRd1
import Derived.Test.YtjoaijbhpgekoaaGreatDoorRd3
import Derived.Test.YtjoaijbhpgekoaaGreatDoorRp4
import Derived.Test.YtjoaijbhpgekoaaGreatDoorPa2
import Derived.Test.YtjoaijbhpgekoaaGreatDoorCopy
import Derived.Test.YtjoaijbhpgekoaaGreatDoorDv7
import Derived.Test.YtjoaijbhpgekoaaGreatDoorGiv2
import Derived.ProofKit
import Derived.OpenShut
import Derived.ShutString
import Derived.ChangeOld
import Derived.SizedLaws
import Derived.Test.YtjoaijbhpgekoaaGreatDoorRp5
import Derived.Deep.Strs
import Derived.ChangeArms
namespace Go.Proofs.YtjoaijbhpgekoaaGreatDoor
open Go.RowKit Go.Deep
set_option linter.unusedVariables false

theorem Wide.dig {w : World} {a : Option Addr} {n c v : Nat} {ps : List Pc} (h : Wide w a n c v ps) {g : Nat} (hg : w.heap.size ≤ g) : ∀ p ∈ ps, Dig w g p := fun p hp =>
  ⟨(h.sl.each p hp).1, (h.sl.each p hp).2, h.norm p hp, h.len p hp, fun hne x hx hb => by
    obtain ⟨b, off, e, hc⟩ := (h.sl.each p hp).1.cells.resolve_left hne
    rw [e] at hx
    cases hx
    have hl := (h.sl.each p hp).1.len
    have h0 : 0 < p.xs.length := List.length_pos_iff.2 hne
    have h3 : b < w.heap.size := World.block_lt_of_cell? _ _ (hc 0 h0)
    have h2 : b = g := hb
    omega⟩

theorem RowD.put {w wr:World} {g cap i:Nat} {acc:List Pc} {p:Pc} (h:RowD w wr g cap acc) (hi:i < acc.length) (hp:Dig wr g p):RowD w (wr.setCell ⟨g,i,none⟩ (slV p)) g cap (acc.set i p):=by
 have hc:Chg (fun k => k = g) wr (wr.setCell ⟨g,i,none⟩ (slV p)):=Chg.of_set (S:=fun k => k = g) _ _ _ _ rfl
 have dk:∀ q,Dig wr g q → Dig (wr.setCell ⟨g,i,none⟩ (slV p)) g q:=fun q hq => ⟨hq.sl.chg hc (fun x hx hn => hq.off hn x hx),hq.ok,hq.norm,hq.len,hq.off⟩
 refine ⟨?_,fun q hq => ?_,h.bel.setCell (p:=⟨g,i,none⟩) h.ge _,by simpa using h.lt,h.ge⟩
 ·rcases h.own with ⟨e0,⟨e,_⟩ | ⟨g',cap',cur,e,q1,q2,q3,q4,q5,q6⟩⟩
  ·cases e
  ·simp only [Value.slice.injEq,Option.some.injEq,Addr.mk.injEq,and_true,true_and] at e
   obtain ⟨rfl,rfl⟩:=e
   refine ⟨by simp,.inr ⟨g,cap,cur.setIfInBounds i (slV p),by simp,q1,?_,by simpa using q3,q4,by simpa using q5,?_⟩⟩
   ·exact heap_setCell_same _ _ _ _ _ _ q2
   ·rw [List.length_set,Array.toList_setIfInBounds,List.take_set,q6]
    simp
 ·rcases List.mem_or_eq_of_mem_set hq with c | c
  ·exact dk q (h.each q c)
  ·rw [c]; exact dk p hp
theorem RowD.at {w wr:World} {g cap i:Nat} {acc:List Pc} (h:RowD w wr g cap acc) (hi:i < acc.length):(∃ v,wr.cell? ⟨g,i,none⟩ = some v) ∧ wr.frozen? ⟨g,i,none⟩ = false:=by
 rcases h.own with ⟨e0,⟨e,_⟩ | ⟨g',cap',cur,e,q1,q2,q3,q4,q5,q6⟩⟩
 ·cases e
 ·simp only [Value.slice.injEq,Option.some.injEq,Addr.mk.injEq,and_true,true_and] at e
  obtain ⟨rfl,rfl⟩:=e
  have hc:i < cur.size:=by omega
  exact ⟨⟨cur[i],by simp [World.cell?,q2,hc]⟩,by simp [World.frozen?,q2]⟩


theorem MayR.parts {g:Bool} {x y:List Nat} (h:MayR g x y = true):MayL x = true ∧ MayL y = true ∧ y ≠ [] ∧ (g = true → x ≠ []) ∧ Nat.gcd (val x) (val y) = 1:=by
 unfold MayR at h
 simp only [Bool.and_eq_true,Bool.not_eq_true',decide_eq_false_iff_not,decide_eq_true_eq] at h
 obtain ⟨⟨⟨⟨h1,h2⟩,h3⟩,h4⟩,h5⟩:=h
 refine ⟨h1,h2,h3,fun hg hx => ?_,h5⟩
 rw [hg,hx] at h4
 simp at h4






def bigN (v:Nat):Bool:=decide (2048 < (limbs v).length)








structure St4 (w:World) (S b cnt wt:Nat) (pv:Value):Prop where
 c0:w.cell? ⟨S,0,none⟩ = some (.int .i64 (b:Nat))
 c1:w.cell? ⟨S,1,none⟩ = some (.int .i64 (cnt:Nat))
 c2:w.cell? ⟨S,2,none⟩ = some (.int .u32 (wt:Nat))
 c3:w.cell? ⟨S,3,none⟩ = some pv

theorem St4.keep {w w':World} {S b cnt wt:Nat} {pv:Value} (h:St4 w S b cnt wt pv) (k:∀ i,w'.cell? ⟨S,i,none⟩ = w.cell? ⟨S,i,none⟩):St4 w' S b cnt wt pv :=
 ⟨(k 0).trans h.c0,(k 1).trans h.c1,(k 2).trans h.c2,(k 3).trans h.c3⟩
theorem St4.lt {w:World} {S b cnt wt:Nat} {pv:Value} (h:St4 w S b cnt wt pv):S < w.heap.size:=World.block_lt_of_cell? _ _ h.c0
theorem St4.upd {w w':World} {S b cnt wt X lo hi:Nat} {pv:Value} (h:St4 w S b cnt wt pv) (u:Upd X lo hi w w') (hX:S ≠ X):St4 w' S b cnt wt pv :=
 h.keep fun i => by unfold World.cell?; simp only; rw [u.block S h.lt hX]
theorem St4.made (w:World) (b cnt wt:Nat) (pv:Value) (t:TypeId):St4 (w.alloc (.cells #[.int .i64 (b:Nat),.int .i64 (cnt:Nat),.int .u32 (wt:Nat),pv] t)) w.heap.size b cnt wt pv :=
 ⟨by simp,by simp,by simp,by simp⟩

def NumW (w:World) (a:Option Addr) (m bn on v:Nat):Prop :=
 (a = none ∧ m = 0 ∧ v = 0) ∨ ∃ f:Nat → Nat,a = some ⟨bn,on,none⟩ ∧ Fn w bn on m f ∧ (∀ i,i < m → f i < 4294967296) ∧ valF f m = v

theorem Upd.far {T lo hi X l h:Nat} {w0 w w':World} (u:Upd T lo hi w0 w) (v:Upd X l h w w') (hX:w0.heap.size ≤ X) (hT:T < w0.heap.size):Upd T lo hi w0 w':=by
 refine ⟨v.os.trans u.os,v.tape.trans u.tape,v.output.trans u.output,Nat.le_trans u.size v.size,?_,?_,?_⟩
 ·intro k hk hne
  rw [v.block k (Nat.lt_of_lt_of_le hk u.size) (by omega),u.block k hk hne]
 ·intro i hi
  have:w'.cell? ⟨T,i,none⟩ = w.cell? ⟨T,i,none⟩:=by
   unfold World.cell?; simp only; rw [v.block T (Nat.lt_of_lt_of_le hT u.size) (by omega)]
  rw [this,u.cell i hi]
 ·intro i
  have:w'.frozen? ⟨T,i,none⟩ = w.frozen? ⟨T,i,none⟩:=by
   unfold World.frozen?; simp only; rw [v.block T (Nat.lt_of_lt_of_le hT u.size) (by omega)]
  rw [this,u.froz i]
theorem FnB.upd {w w':World} {b off n X lo up:Nat} {f:Nat → Nat} (h:FnB w b off n f) (u:Upd X lo up w w') (hX:b ≠ X ∨ off + n ≤ lo ∨ up ≤ off):FnB w' b off n f:=by
 intro i hi
 obtain ⟨h1,h2⟩:=h i hi
 have hb:=World.block_lt_of_cell? _ _ h1
 by_cases e:b = X
 ·subst e
  have hX':off + n ≤ lo ∨ up ≤ off:=hX.resolve_left (fun h => h rfl)
  exact ⟨by rw [u.cell _ (by omega)]; exact h1,by rw [u.froz]; exact h2⟩
 ·refine ⟨?_,?_⟩
  ·have:w'.cell? ⟨b,off + i,none⟩ = w.cell? ⟨b,off + i,none⟩:=by unfold World.cell?; simp only; rw [u.block b hb e]
   rw [this]; exact h1
  ·have:w'.frozen? ⟨b,off + i,none⟩ = w.frozen? ⟨b,off + i,none⟩:=by unfold World.frozen?; simp only; rw [u.block b hb e]
   rw [this]; exact h2

theorem FnB.bel {w w':World} {b off n:Nat} {f:Nat → Nat} (h:FnB w b off n f) (k:Below w.heap.size w w'):FnB w' b off n f:=by
 intro i hi
 obtain ⟨h1,h2⟩:=h i hi
 have hb:=World.block_lt_of_cell? _ _ h1
 refine ⟨?_,?_⟩
 ·have:w'.cell? ⟨b,off + i,none⟩ = w.cell? ⟨b,off + i,none⟩:=by unfold World.cell?; simp only; rw [k.block b hb]
  rw [this]; exact h1
 ·have:w'.frozen? ⟨b,off + i,none⟩ = w.frozen? ⟨b,off + i,none⟩:=by unfold World.frozen?; simp only; rw [k.block b hb]
  rw [this]; exact h2

def txf (V b L d:Nat) (t0:Nat → Nat):Nat → Nat:=fun p => if L - 1 - p < d then chrN (dgt V b (L - 1 - p)) else t0 p

structure WsR (wr w0:World) (T o L bn on S V b cnt wt:Nat) (pv:Value) (t0:Nat → Nat) (q d:Nat) (a:Option Addr) (m:Nat):Prop where
 num:NumW wr a m bn on q
 fb:FnB wr T o L (txf V b L d t0)
 st:St4 wr S b cnt wt pv
 upd:Upd T o (o + L) w0 wr

theorem WsR.put {wr w0:World} {T o L bn on S V b cnt wt:Nat} {pv:Value} {t0:Nat → Nat} {q d:Nat} {a:Option Addr} {m:Nat} (h:WsR wr w0 T o L bn on S V b cnt wt pv t0 q d a m) (hd:d < L) (hST:S ≠ T) (hbT:bn ≠ T) (z:Nat) (hz:z = chrN (dgt V b d)) :
  WsR (wr.setCell ⟨T,o + (L - 1 - d),none⟩ (.int .u8 (z:Nat))) w0 T o L bn on S V b cnt wt pv t0 q (d + 1) a m:=by
 have u:Upd T o (o + L) wr (wr.setCell ⟨T,o + (L - 1 - d),none⟩ (.int .u8 (z:Nat))):=(Upd.refl _ _ _ _).set _ _ (by omega) (by omega)
 refine ⟨?_,?_,h.st.upd u hST,h.upd.trans u⟩
 ·rcases h.num with e | ⟨f,e1,e2,e3,e4⟩
  ·exact .inl e
  ·exact .inr ⟨f,e1,u.fn e2 (.inl hbT),e3,e4⟩
 ·refine (h.fb.set (L - 1 - d) z (by omega)).congr fun p hp => ?_
  unfold txf
  by_cases e:p = L - 1 - d
  ·rw [if_pos e,if_pos (by omega),hz,show L - 1 - p = d from by omega]
  ·rw [if_neg e]
   by_cases e2:L - 1 - p < d
   ·rw [if_pos e2,if_pos (by omega)]
   ·rw [if_neg e2,if_neg (by omega)]

theorem divideLimb_nil (a:Option Addr) (c d:Nat) (w:World) :
  Calls Tryz.prog 118 #[.slice a 0 c,.int .u32 (d:Nat)] w fun e w' => e = .returned (.int .u32 0) ∧ w' = w:=by
 go_enter Tryz.func118,Tryz.ntmps118
 go_wp2
 go_loop [5,6] (fun rv i => rv = .int .u32 0 ∧ i = .int .i64 (-1)) (fun _ i => (intOf i + 1).toNat)
 case atStart => exact ⟨rfl,rfl⟩
 case round =>
  obtain ⟨rfl,rfl⟩:=hrel
  go_wp2
  go_ret
  exact ⟨rfl,rfl⟩

theorem NumW.divided {w:World} {a:Option Addr} {m bn on v wt:Nat} (h:NumW w a m bn on v) (hm:m ≤ 1000000000) (h0:0 < wt) (h1:wt < 4294967296) :
  Calls Tryz.prog 118 #[.slice a m m,.int .u32 (wt:Nat)] w fun e w' => e = .returned (.int .u32 (v % wt:Nat)) ∧ Upd bn on (on + m) w w' ∧ Calls Tryz.prog 101 #[.slice a m m] w' fun e w'' => ∃ a' m',e = .returned (.slice a' m' m') ∧ m' ≤ m ∧ NumW w' a' m' bn on (v / wt) ∧ w'' = w':=by
 rcases h with ⟨rfl,rfl,rfl⟩ | ⟨f,rfl,hf,ok,hv⟩
 ·refine (divideLimb_nil none 0 wt w).mono ?_
  rintro e w' ⟨rfl,rfl⟩
  refine ⟨by simp,Upd.refl _ _ _ _,?_⟩
  refine (trim_any none 0 0 [] w' (sl_nil _) Ok.nil).mono ?_
  rintro e w2 ⟨a',m',ys,rfl,hs,hr,ha,rfl⟩
  have hy:ys = []:=hr.unique ⟨Ok.nil,.inl rfl,rfl⟩
  have hl:=hs.len
  rw [hy] at hl
  simp at hl
  subst hl
  have ha':a' = none:=by rcases ha with e | e <;> exact e
  exact ⟨a',0,rfl,Nat.le_refl _,.inl ⟨ha',rfl,by simp⟩,rfl⟩
 ·refine (divideLimb_any bn on m m wt f w hf ok hm h0 h1).mono ?_
  rintro e w' ⟨r,g,rfl,hr,hg,og,hval,hu⟩
  rw [hv] at hval
  have e1:v % wt = r:=by rw [hval,Nat.mul_comm,Nat.mul_add_mod,Nat.mod_eq_of_lt hr]
  have e2:v / wt = valF g m:=by rw [hval,Nat.mul_comm,Nat.mul_add_div h0,Nat.div_eq_of_lt hr,Nat.add_zero]
  refine ⟨by rw [e1],hu,?_⟩
  refine (trim_any (some ⟨bn,on,none⟩) m m (lst g m) w' (hg.sl (Nat.le_refl _) (by unfold maxLen; omega)) (lst_ok og)).mono ?_
  rintro e w2 ⟨a',m',ys,rfl,hs,hr2,ha,rfl⟩
  have hl:=hs.len
  have hvy:=hr2.val
  rw [lst_val] at hvy
  have hmm:m' ≤ m:=by
   have:=rep_len_leS hr2 (j:=m) (by rw [lst_val]; exact valF_lt og)
   omega
  by_cases hy:ys = []
  ·subst hy
   simp at hl
   subst hl
   refine ⟨a',0,rfl,hmm,?_,rfl⟩
   rcases ha with e | e
   ·exact .inr ⟨g,e,fun i hi => absurd hi (Nat.not_lt_zero _),fun i hi => absurd hi (Nat.not_lt_zero _),by rw [e2,← hvy]; simp [valF,val]⟩
   ·exact .inl ⟨e,rfl,by rw [e2,← hvy]; rfl⟩
  ·refine ⟨a',m',rfl,hmm,?_,rfl⟩
   obtain ⟨b',o',e,hc⟩:=hs.cells.resolve_left hy
   rcases ha with e' | e'
   ·rw [e'] at e
    cases e
    refine .inr ⟨fun i => ys.getD i 0,e',fun i hi => ⟨hc i (by omega),(hg i (by omega)).2⟩,fun i hi => hr2.ok.getD i,?_⟩
    rw [valF_ge ys m' (by omega),hvy,e2]
   ·rw [e'] at e; cases e
open Go.RowKit Go.Deep
set_option linter.unusedVariables false
structure Pows (w:World) (T pb po K wt:Nat):Prop where
 ne:pb ≠ T
 at':∀ i,i < K → ∃ a m,w.cell? ⟨pb,po + i,none⟩ = some (.slice a m m) ∧ Sl w a m m (limbs (wt ^ 2 ^ i)) ∧ m ≤ 2048 ∧ ∀ x,a = some x → x.block ≠ T

theorem Pows.upd {w w':World} {T pb po K wt lo up:Nat} (h:Pows w T pb po K wt) (u:Upd T lo up w w'):Pows w' T pb po K wt:=by
 refine ⟨h.ne,fun i hi => ?_⟩
 obtain ⟨a,m,h1,h2,h3,h4⟩:=h.at' i hi
 refine ⟨a,m,?_,h2.chg u.chg (fun x hx _ => h4 x hx),h3,h4⟩
 have hb:=World.block_lt_of_cell? _ _ h1
 have:w'.cell? ⟨pb,po + i,none⟩ = w.cell? ⟨pb,po + i,none⟩:=by unfold World.cell?; simp only; rw [u.block pb hb h.ne]
 rw [this]; exact h1
theorem Pows.bel {w w':World} {T pb po K wt:Nat} (h:Pows w T pb po K wt) (k:Below w.heap.size w w'):Pows w' T pb po K wt:=by
 refine ⟨h.ne,fun i hi => ?_⟩
 obtain ⟨a,m,h1,h2,h3,h4⟩:=h.at' i hi
 refine ⟨a,m,?_,h2.below k,h3,h4⟩
 have hb:=World.block_lt_of_cell? _ _ h1
 have:w'.cell? ⟨pb,po + i,none⟩ = w.cell? ⟨pb,po + i,none⟩:=by unfold World.cell?; simp only; rw [k.block pb hb]
 rw [this]; exact h1

theorem FnB.left {w:World} {T o L h:Nat} {f:Nat → Nat} (g:FnB w T o L f) (hh:h ≤ L):FnB w T o h f:=fun i hi => g i (by omega)
theorem FnB.right {w:World} {T o L h:Nat} {f:Nat → Nat} (g:FnB w T o L f) (hh:h ≤ L):FnB w T (o + h) (L - h) (fun i => f (h + i)):=fun i hi => by
 have:=g (h + i) (by omega)
 rwa [← Nat.add_assoc] at this

open Go.RowKit Go.Deep
set_option linter.unusedVariables false
def pwV (e:Option Addr × Nat):Value:=.slice e.1 e.2 e.2

structure PwAt (wr:World) (B:Nat) (pv:Value) (e:Option Addr × Nat) (P:Nat):Prop where
 sl:Sl wr e.1 e.2 e.2 (limbs P)
 le:e.2 ≤ 2048
 new:∀ x,e.1 = some x → B + 2 ≤ x.block
 ne:∀ x,e.1 = some x → pv.ownBlock ≠ some x.block

structure NwA (wr w:World) (b cnt wt N k:Nat) (pv:Value) (es:List (Option Addr × Nat)):Prop where
 st:St4 wr (w.heap.size + 1) b cnt wt pv
 fz:wr.frozen? ⟨w.heap.size + 1,3,none⟩ = false
 rs:∀ i,i < 4 → (∃ v,wr.cell? ⟨w.heap.size,i,none⟩ = some v) ∧ wr.frozen? ⟨w.heap.size,i,none⟩ = false
 own:wr.ownsRow (w.heap.size + 2) 36 1 pv k (es.map pwV)
 each:∀ i,i < k → ∃ e,es[i]? = some e ∧ PwAt wr w.heap.size pv e (wt ^ 2 ^ i)
 le:∀ i,i < k → wt ^ 2 ^ i ≤ N
 bel:Below w.heap.size w wr

theorem Chg.frozen {S:Nat → Prop} {w w':World} (h:Chg S w w') {b i:Nat} (hs:¬ S b) (hb:b < w.heap.size):w'.frozen? ⟨b,i,none⟩ = w.frozen? ⟨b,i,none⟩:=by
 unfold World.frozen?; simp only; rw [h.block b hb hs]
theorem limbs_ne0 {v:Nat} (h:0 < v):limbs v ≠ []:=by
 intro e
 have:=(limbs_rep v).val
 rw [e] at this
 simp [val] at this
 omega

theorem NwA.keep {wr w' w:World} {b cnt wt N k:Nat} {pv:Value} {es:List (Option Addr × Nat)} (h:NwA wr w b cnt wt N k pv es) (hb:Below wr.heap.size wr w'):NwA w' w b cnt wt N k pv es:=by
 have hS:w.heap.size + 1 < wr.heap.size:=h.st.lt
 have c:Chg (fun _ => False) wr w':=Chg.of_below hb
 refine ⟨h.st.keep (fun i => ?_),?_,fun i hi => ?_,ownsRow_below h.own hb,fun i hi => ?_,h.le,h.bel.trans (hb.mono h.bel.size)⟩
 ·unfold World.cell?; simp only; rw [hb.block _ hS]
 ·rw [c.frozen (fun h => h) hS]; exact h.fz
 ·obtain ⟨⟨v,hv⟩,hf⟩:=h.rs i hi
  exact ⟨⟨v,c.cell (fun h => h) hv⟩,by rw [c.frozen (fun h => h) (by omega)]; exact hf⟩
 ·obtain ⟨e,he,p⟩:=h.each i hi
  exact ⟨e,he,p.sl.below hb,p.le,p.new,p.ne⟩

theorem NwA.push {wr w1 w:World} {b cnt wt N k g cap:Nat} {pv:Value} {es:List (Option Addr × Nat)} {ap:Option Addr} {mp:Nat} {o:Obj} (h:NwA wr w b cnt wt N k pv es) (hp:PwAt wr w.heap.size pv (ap,mp) (wt ^ 2 ^ k)) (hw:0 < wt) (hN:wt ^ 2 ^ k ≤ N)
  (hown:w1.ownsRow (w.heap.size + 2) 36 1 (.slice (some ⟨g,0,none⟩) (k + 1) cap) (k + 1) (es.map pwV ++ [.slice ap mp mp])) (hg:(wr.alloc o).grownBy w1 pv.ownBlock) (hat:pv.ownBlock = some g ∨ g = wr.heap.size + 1) :
  NwA (w1.setCell ⟨w.heap.size + 1,3,none⟩ (.slice (some ⟨g,0,none⟩) (k + 1) cap)) w b cnt wt N (k + 1) (.slice (some ⟨g,0,none⟩) (k + 1) cap) (es ++ [(ap,mp)]) ∧
   PwAt (w1.setCell ⟨w.heap.size + 1,3,none⟩ (.slice (some ⟨g,0,none⟩) (k + 1) cap)) w.heap.size (.slice (some ⟨g,0,none⟩) (k + 1) cap) (ap,mp) (wt ^ 2 ^ k) ∧
   w1.cell? ⟨w.heap.size + 1,3,none⟩ = some pv ∧ w1.frozen? ⟨w.heap.size + 1,3,none⟩ = false:=by
 have hS:w.heap.size + 1 < wr.heap.size:=h.st.lt
 have hlk:es.length = k:=by have:=h.own.1; simpa using this
 have hoB:∀ j,pv.ownBlock = some j → w.heap.size + 2 ≤ j ∧ j < wr.heap.size:=own_ge h.own
 have hgB:w.heap.size + 2 ≤ g:=by
  rcases hat with e | e
  ·exact (hoB g e).1
  ·omega
 have c1:Chg (fun j => pv.ownBlock = some j) wr w1:=(Chg.of_alloc wr o).trans (Chg.of_grown hg (fun j hj => hj))
 have c2:Chg (fun j => pv.ownBlock = some j ∨ j = w.heap.size + 1) wr (w1.setCell ⟨w.heap.size + 1,3,none⟩ (.slice (some ⟨g,0,none⟩) (k + 1) cap)) :=
  (c1.mono (fun j _ hj => Or.inl hj)).trans (Chg.of_set _ _ _ _ (.inr rfl))
 have nS:¬ pv.ownBlock = some (w.heap.size + 1):=fun e => by have:=(hoB _ e).1; omega
 have nR:¬ (pv.ownBlock = some w.heap.size ∨ w.heap.size = w.heap.size + 1):=by
  rintro (e | e)
  ·have:=(hoB _ e).1; omega
  ·omega
 have moved:∀ {e:Option Addr × Nat} {P:Nat},0 < P → PwAt wr w.heap.size pv e P → PwAt (w1.setCell ⟨w.heap.size + 1,3,none⟩ (.slice (some ⟨g,0,none⟩) (k + 1) cap)) w.heap.size (.slice (some ⟨g,0,none⟩) (k + 1) cap) e P:=by
  intro e P hP p
  refine ⟨p.sl.chg c2 (fun x hx _ => ?_),p.le,p.new,fun x hx => ?_⟩
  ·rintro (e1 | e1)
   ·exact p.ne x hx e1
   ·have:=p.new x hx; omega
  ·intro e1
   simp only [Value.ownBlock,Option.some.injEq] at e1
   have hlt:=p.sl.block_lt (limbs_ne0 hP) x hx
   rcases hat with e2 | e2
   ·exact p.ne x hx (by rw [e2,e1])
   ·omega
 have hPk:∀ i,0 < wt ^ 2 ^ i:=fun i => Nat.pow_pos hw
 refine ⟨⟨?_,?_,?_,?_,?_,?_,?_⟩,moved (hPk k) hp,c1.cell nS h.st.c3,by rw [c1.frozen nS hS]; exact h.fz⟩
 ·refine ⟨?_,?_,?_,?_⟩
  ·rw [World.cell?_setCell_other _ _ _ _ (by simp)]; exact c1.cell nS h.st.c0
  ·rw [World.cell?_setCell_other _ _ _ _ (by simp)]; exact c1.cell nS h.st.c1
  ·rw [World.cell?_setCell_other _ _ _ _ (by simp)]; exact c1.cell nS h.st.c2
  ·rw [World.cell?_setCell_same _ _ _ (c1.cell nS h.st.c3)]
 ·rw [World.frozen?_setCell,c1.frozen nS hS]; exact h.fz
 ·intro i hi
  obtain ⟨⟨v,hv⟩,hf⟩:=h.rs i hi
  exact ⟨⟨v,c2.cell nR hv⟩,by rw [c2.frozen nR (by omega)]; exact hf⟩
 ·rw [List.map_append]
  exact ownsRow_setCell_other hown (by simp [Value.ownBlock]; omega) _
 ·intro i hi
  by_cases hik:i < k
  ·obtain ⟨e,he,p⟩:=h.each i hik
   exact ⟨e,by rw [List.getElem?_append_left (by omega)]; exact he,moved (hPk i) p⟩
  ·obtain rfl:i = k:=by omega
   exact ⟨(ap,mp),by rw [List.getElem?_append_right (by omega),hlk]; simp,moved (hPk i) hp⟩
 ·intro i hi
  by_cases hik:i < k
  ·exact h.le i hik
  ·obtain rfl:i = k:=by omega
   exact hN
 ·exact h.bel.trans (c2.below h.bel.size (fun j hj => by
   rintro (e | e)
   ·have:=(hoB _ e).1; omega
   ·omega))

structure NwPost (w w':World) (b N cnt wt K:Nat) (pv:Value):Prop where
 ch:Chunk b cnt
 wte:b ^ cnt = wt
 lt:N < wt ^ 2 ^ K
 le:∀ i,i < K → wt ^ 2 ^ i ≤ N
 pvs:∃ pb a0 cp,pv = .slice a0 K cp ∧ (K = 0 ∨ pv = .slice (some ⟨pb,0,none⟩) K cp) ∧ pb < w'.heap.size ∧ ∀ i,i < K → ∃ a m,w'.cell? ⟨pb,0 + i,none⟩ = some (.slice a m m) ∧ Sl w' a m m (limbs (wt ^ 2 ^ i)) ∧ m ≤ 2048 ∧ ∀ x,a = some x → x.block < w'.heap.size
 bel:Below w.heap.size w w'

theorem NwA.done {wr w:World} {b cnt wt N k:Nat} {pv:Value} {es:List (Option Addr × Nat)} (h:NwA wr w b cnt wt N k pv es) (ch:Chunk b cnt) (hwt:b ^ cnt = wt) (hb:0 < b) (hN:N < wt ^ 2 ^ k) (W:World) (c:Chg (fun j => j = w.heap.size) wr W):NwPost w W b N cnt wt k pv:=by
 have hS:w.heap.size + 1 < wr.heap.size:=h.st.lt
 have hw:0 < wt:=by rw [← hwt]; exact Nat.pow_pos hb
 refine ⟨ch,hwt,hN,h.le,?_,h.bel.trans (c.below h.bel.size (fun j hj => by omega))⟩
 rcases h.own.2 with ⟨e,h0⟩ | ⟨g,cap,cur,e,hg,hheap,h6,h7,h8,h9⟩
 ·refine ⟨0,none,0,by rw [e,h0],.inl h0,by have:=c.size; omega,fun i hi => by omega⟩
 ·have hgl:g < wr.heap.size:=(own_ge h.own g (by rw [e]; rfl)).2
  refine ⟨g,some ⟨g,0,none⟩,cap,e,.inr e,Nat.lt_of_lt_of_le hgl c.size,fun i hi => ?_⟩
  obtain ⟨x,hx,p⟩:=h.each i hi
  refine ⟨x.1,x.2,?_,p.sl.chg c (fun y hy _ => by have:=p.new y hy; omega),p.le,fun y hy => Nat.lt_of_lt_of_le (p.sl.block_lt (limbs_ne0 (Nat.pow_pos hw)) y hy) c.size⟩
  have ho:=h.own
  rw [e] at ho
  have hc:=ho.cellAt i (by omega)
  rw [List.getElem?_map,hx] at hc
  rw [Nat.zero_add]
  exact c.cell (by omega) hc


end Go.Proofs.YtjoaijbhpgekoaaGreatDoor
namespace Go.Proofs.YtjoaijbhpgekoaaGreatDoor
open Go.ChangeShapes Go.WideShapes Go.ChangeAt Go.RowKit Go.Deep
set_option linter.unusedVariables false
structure Fct where
 p:World → Prop
 st:∀ {w w':World},Below w.heap.size w w' → p w → p w'
structure Fcts (w0 w:World) (L:List Fct):Prop where
 bel:Below w0.heap.size w0 w
 all:∀ f ∈ L,f.p w
theorem Fcts.step {w0 w w':World} {L:List Fct} (h:Fcts w0 w L) (k:Below w.heap.size w w'):Fcts w0 w' L :=
 ⟨h.bel.trans (k.mono h.bel.size),fun f hf => f.st k (h.all f hf)⟩
theorem Fcts.add {w0 w:World} {L:List Fct} (h:Fcts w0 w L) (f:Fct) (hf:f.p w):Fcts w0 w (f :: L) :=
 ⟨h.bel,fun g hg => by rcases List.mem_cons.1 hg with rfl | hg; exact hf; exact h.all g hg⟩
structure Nm (w:World) (a:Option Addr) (n c:Nat) (x:List Nat) (b:Option Addr) (m d:Nat) (y:List Nat):Prop where
 num:Sl w a n c x
 den:Sl w b m d y
structure Tri (w:World) (R:Nat) (v0 v1 v2:Value):Prop where
 c0:w.cell? ⟨R,0,none⟩ = some v0
 c1:w.cell? ⟨R,1,none⟩ = some v1
 c2:w.cell? ⟨R,2,none⟩ = some v2
 f0:w.frozen? ⟨R,0,none⟩ = false
 f1:w.frozen? ⟨R,1,none⟩ = false
 f2:w.frozen? ⟨R,2,none⟩ = false
 lt:R < w.heap.size
theorem Tri.keep {w w':World} {R:Nat} {v0 v1 v2:Value} (h:Tri w R v0 v1 v2) (k:Below w.heap.size w w'):Tri w' R v0 v1 v2:=by
 have hc:∀ i,w'.cell? ⟨R,i,none⟩ = w.cell? ⟨R,i,none⟩:=fun i => by unfold World.cell?; simp only; rw [k.block _ h.lt]
 have hf:∀ i,w'.frozen? ⟨R,i,none⟩ = w.frozen? ⟨R,i,none⟩:=fun i => by unfold World.frozen?; simp only; rw [k.block _ h.lt]
 exact ⟨(hc 0).trans h.c0,(hc 1).trans h.c1,(hc 2).trans h.c2,(hf 0).trans h.f0,(hf 1).trans h.f1,(hf 2).trans h.f2,Nat.lt_of_lt_of_le h.lt k.size⟩
theorem Tri.made (w:World) (v0 v1 v2:Value) (e:TypeId):Tri (w.alloc (.cells #[v0,v1,v2] e)) w.heap.size v0 v1 v2:=by
 refine ⟨?_,?_,?_,?_,?_,?_,?_⟩ <;> simp
def fN (a:Option Addr) (n c:Nat) (x:List Nat) (b:Option Addr) (m d:Nat) (y:List Nat):Fct:=⟨fun w => Nm w a n c x b m d y,fun k h => ⟨h.num.below k,h.den.below k⟩⟩
def fR (R:Nat) (v0 v1 v2:Value):Fct:=⟨fun w => Tri w R v0 v1 v2,fun k h => h.keep k⟩
theorem Fcts.n {w0 w:World} {L:List Fct} (h:Fcts w0 w L) (a:Option Addr) (n c:Nat) (x:List Nat) (b:Option Addr) (m d:Nat) (y:List Nat) (hm:fN a n c x b m d y ∈ L):Nm w a n c x b m d y:=h.all _ hm
theorem Fcts.r {w0 w:World} {L:List Fct} (h:Fcts w0 w L) (R:Nat) (v0 v1 v2:Value) (hm:fR R v0 v1 v2 ∈ L):Tri w R v0 v1 v2:=h.all _ hm
theorem Fcts.box {w0 w:World} {L:List Fct} (h:Fcts w0 w L) (v0 v1 v2:Value) (e:TypeId):Fcts w0 (w.alloc (.cells #[v0,v1,v2] e)) (fR w.heap.size v0 v1 v2 :: L) :=
 (h.step (bAl)).add (fR w.heap.size v0 v1 v2) (Tri.made _ _ _ _ _)

theorem law_own:ownKnob Tryz.prog.godebug = none:=by kernel_rfl
end Go.Proofs.YtjoaijbhpgekoaaGreatDoor
namespace Go.Proofs.YtjoaijbhpgekoaaGreatDoor
open Go.RowKit Go.Deep
set_option linter.unusedVariables false
structure Nq where
 g:Bool
 a:Option Addr
 n:Nat
 c:Nat
 x:List Nat
 b:Option Addr
 m:Nat
 d:Nat
 y:List Nat
structure SlQ (w:World) (a:Option Addr) (n c:Nat) (ps:List Nq):Prop where
 len:ps.length = n
 le:n ≤ c
 cells:ps = [] ∨ ∃ b off,a = some ⟨b,off,none⟩ ∧ ∀ i p,ps[i]? = some p → w.cell? ⟨b,off + i * 3,none⟩ = some (.bool p.g) ∧ w.cell? ⟨b,off + i * 3 + 1,none⟩ = some (.slice p.a p.n p.c) ∧ w.cell? ⟨b,off + i * 3 + 2,none⟩ = some (.slice p.b p.m p.d)
 each:∀ p ∈ ps,(Sl w p.a p.n p.c p.x ∧ Sl w p.b p.m p.d p.y) ∧ Ok p.x ∧ Ok p.y
theorem SlQ.below {w w':World} {a:Option Addr} {n c:Nat} {ps:List Nq} (h:SlQ w a n c ps) (k:Below w.heap.size w w'):SlQ w' a n c ps:=by
 refine ⟨h.len,h.le,?_,fun p hp => ⟨⟨(h.each p hp).1.1.below k,(h.each p hp).1.2.below k⟩,(h.each p hp).2⟩⟩
 rcases h.cells with e | ⟨b,off,e,hc⟩
 ·exact .inl e
 ·refine .inr ⟨b,off,e,fun i p hp => ?_⟩
  obtain ⟨h1,h2,h3⟩:=hc i p hp
  exact ⟨(ck k h1),(ck k h2),(ck k h3)⟩
theorem SlQ.at' {w:World} {a:Option Addr} {n c:Nat} {ps:List Nq} (h:SlQ w a n c ps) {i:Nat} (hi:i < n) :
  ∃ b off p,a = some ⟨b,off,none⟩ ∧ ps[i]? = some p ∧ (w.cell? ⟨b,off + i * 3,none⟩ = some (.bool p.g) ∧ w.cell? ⟨b,off + i * 3 + 1,none⟩ = some (.slice p.a p.n p.c) ∧ w.cell? ⟨b,off + i * 3 + 2,none⟩ = some (.slice p.b p.m p.d)) ∧ (Sl w p.a p.n p.c p.x ∧ Sl w p.b p.m p.d p.y) ∧ Ok p.x ∧ Ok p.y:=by
 have hl:=h.len
 have hi':i < ps.length:=by omega
 have hp:ps[i]? = some ps[i]:=List.getElem?_eq_getElem hi'
 rcases h.cells with e | ⟨b,off,e,hc⟩
 ·rw [e] at hl; simp at hl; omega
 ·exact ⟨b,off,ps[i],e,hp,hc i _ hp,h.each _ (List.getElem_mem hi')⟩
def lowF (neg:Bool) (N D:Nat):(Bool × List Nat × List Nat) × Int :=
 if N = 0 then ((false,[],[1]),0) else if bigN (N / Nat.gcd N D) || bigN (D / Nat.gcd N D) then ((false,[],[]),2) else ((neg,limbs (N / Nat.gcd N D),limbs (D / Nat.gcd N D)),0)





end Go.Proofs.YtjoaijbhpgekoaaGreatDoor
namespace Go.Proofs.YtjoaijbhpgekoaaGreatDoor
open Go.ChangeShapes Go.WideShapes Go.ChangeAt Go.RowKit Go.Deep
set_option linter.unusedVariables false

end Go.Proofs.YtjoaijbhpgekoaaGreatDoor
namespace Go.Proofs.YtjoaijbhpgekoaaGreatDoor
open Go.RowKit Go.Deep
set_option linter.unusedVariables false


theorem Ok.limbs (v:Nat):Ok (limbs v):=(limbs_rep v).ok
theorem Tri.out {w:World} {R:Nat} {v0 v1 v2:Value} (h:Tri w R v0 v1 v2):Out w R :=
  ⟨fun i hi => by
    match i,hi with
    | 0,_ => exact ⟨_,h.c0⟩
    | 1,_ => exact ⟨_,h.c1⟩
    | 2,_ => exact ⟨_,h.c2⟩,
   fun i hi => by
    match i,hi with
    | 0,_ => exact h.f0
    | 1,_ => exact h.f1
    | 2,_ => exact h.f2,h.lt⟩
theorem Tri.chg {w w':World} {R S:Nat} {v0 v1 v2:Value} (h:Tri w R v0 v1 v2) (c:Chg (fun k => k = S) w w') (hne:R ≠ S):Tri w' R v0 v1 v2:=by
 have hb:=c.block R h.lt hne
 have hc:∀ i,w'.cell? ⟨R,i,none⟩ = w.cell? ⟨R,i,none⟩:=fun i => by unfold World.cell?; simp only; rw [hb]
 have hf:∀ i,w'.frozen? ⟨R,i,none⟩ = w.frozen? ⟨R,i,none⟩:=fun i => by unfold World.frozen?; simp only; rw [hb]
 exact ⟨(hc 0).trans h.c0,(hc 1).trans h.c1,(hc 2).trans h.c2,(hf 0).trans h.f0,(hf 1).trans h.f1,(hf 2).trans h.f2,Nat.lt_of_lt_of_le h.lt c.size⟩
theorem tri_setQ {w:World} {R:Nat} (h:Out w R) (v0 v1 v2:Value):Tri (((w.setCell ⟨R,0,none⟩ v0).setCell ⟨R,1,none⟩ v1).setCell ⟨R,2,none⟩ v2) R v0 v1 v2:=by
 obtain ⟨a,b,c,d⟩:=three_set w R v0 v1 v2 h.cells
 have f:∀ j,(((w.setCell ⟨R,0,none⟩ v0).setCell ⟨R,1,none⟩ v1).setCell ⟨R,2,none⟩ v2).frozen? ⟨R,j,none⟩ = w.frozen? ⟨R,j,none⟩:=fun j => by rw [World.frozen?_setCell,World.frozen?_setCell,World.frozen?_setCell]
 exact ⟨a,b,c,(f 0).trans (h.fz 0 (by decide)),(f 1).trans (h.fz 1 (by decide)),(f 2).trans (h.fz 2 (by decide)),Nat.lt_of_lt_of_le h.lt d.size⟩
structure SmX (w wr:World) (Ro Rx:Nat) (z:Nq):Prop where
 bel:Below w.heap.size w wr
 out:Out wr Ro
 tx:Tri wr Rx (.bool z.g) (.slice z.a z.n z.c) (.slice z.b z.m z.d)
 num:Sl wr z.a z.n z.c z.x
 den:Sl wr z.b z.m z.d z.y
 ox:Ok z.x
 oy:Ok z.y
 may:MayR z.g z.x z.y = true
 na:NewAt (Ro + 1) z.a
 nb:NewAt (Ro + 1) z.b
 ro:w.heap.size ≤ Ro
 rx:Ro < Rx
structure LdY (wr wy:World) (Ry:Nat) (gy:Bool) (ay:Option Addr) (ny cy:Nat) (xy:List Nat) (by_:Option Addr) (my dy:Nat) (yy:List Nat):Prop where
 tri:Tri wy Ry (.bool gy) (.slice ay ny cy) (.slice by_ my dy)
 num:Sl wy ay ny cy xy
 den:Sl wy by_ my dy yy
 na:NewAt wr.heap.size ay
 nb:NewAt wr.heap.size by_
 bel:Below wr.heap.size wr wy
theorem NewR.drewQ {w w':World} {g:Bool} {xs ys:List Nat} {v:Value} (h:NewR w w' g xs ys v):NewR w w'.drew g xs ys v:=by
 obtain ⟨a,m,c,b,k,d,e,h1,h2,h3,h4,h5⟩:=h
 exact ⟨a,m,c,b,k,d,e,h1.below (Below.refl _ _).drew,h2.below (Below.refl _ _).drew,h3,h4,h5.drew⟩
theorem Out.chgQ {S:Nat → Prop} {w w':World} {R:Nat} (h:Out w R) (k:Chg S w w') (hs:¬ S R):Out w' R :=
 ⟨fun i hi => by obtain ⟨v,hv⟩:=h.cells i hi; exact ⟨v,k.cell hs hv⟩,fun i hi => by rw [World.frozen?_of_block (w:=w) (k.block R h.lt hs)]; exact h.fz i hi,Nat.lt_of_lt_of_le h.lt k.size⟩
theorem SmX.next {w wr wy:World} {Ro Rx Ry:Nat} {z:Nq} {gy:Bool} {ay by_:Option Addr} {ny cy my dy:Nat} {xy yy:List Nat} (h:SmX w wr Ro Rx z) (hN:LdY wr wy Ry gy ay ny cy xy by_ my dy yy) (ox:Ok xy) (oy:Ok yy) (hm:MayR gy xy yy = true) :
  SmX w (((wy.setCell ⟨Rx,0,none⟩ (.bool gy)).setCell ⟨Rx,1,none⟩ (.slice ay ny cy)).setCell ⟨Rx,2,none⟩ (.slice by_ my dy)) Ro Rx ⟨gy,ay,ny,cy,xy,by_,my,dy,yy⟩:=by
 have hO:=(h.tx.keep hN.bel).out
 have c4:=(three_set wy Rx (.bool gy) (.slice ay ny cy) (.slice by_ my dy) hO.cells).2.2.2
 have hlt:=h.tx.lt
 have hr:=h.rx
 have hB:=h.bel.trans (hN.bel.mono h.bel.size)
 exact ⟨hB.trans (c4.below hB.size (fun k hk e => by have:=h.ro; omega)),(h.out.keep hN.bel).chgQ c4 (fun e => by omega),tri_setQ hO _ _ _,hN.num.chg c4 (fun p hp _ e => by have:=hN.na p hp; omega),hN.den.chg c4 (fun p hp _ e => by have:=hN.nb p hp; omega),ox,oy,hm,fun p hp => by have:=hN.na p hp; omega,fun p hp => by have:=hN.nb p hp; omega,h.ro,h.rx⟩
theorem ret_Q {w wy:World} {Ro:Nat} {gy:Bool} {ay by_:Option Addr} {ny cy my dy:Nat} {xy yy:List Nat} (hO:Out wy Ro) (hx:Sl wy ay ny cy xy) (hy:Sl wy by_ my dy yy) (na:NewAt (Ro + 1) ay) (nb:NewAt (Ro + 1) by_) (hB:Below w.heap.size w wy) (hR:w.heap.size ≤ Ro) :
  NewR w (((wy.setCell ⟨Ro,0,none⟩ (.bool gy)).setCell ⟨Ro,1,none⟩ (.slice ay ny cy)).setCell ⟨Ro,2,none⟩ (.slice by_ my dy)) gy xy yy (ratV gy ay ny cy by_ my dy):=by
 have c4:=(three_set wy Ro (.bool gy) (.slice ay ny cy) (.slice by_ my dy) hO.cells).2.2.2
 exact ⟨ay,ny,cy,by_,my,dy,rfl,hx.chg c4 (fun p hp _ e => by have:=na p hp; omega),hy.chg c4 (fun p hp _ e => by have:=nb p hp; omega),fun p hp => by have:=na p hp; omega,fun p hp => by have:=nb p hp; omega,hB.trans (c4.below hB.size (fun k hk e => by omega))⟩
end Go.Proofs.YtjoaijbhpgekoaaGreatDoor
