/- Giv2 -/
import Derived.Test.YtkbcmnjgkmkeaaaGreatGiv
import Derived.Deep.AppendLies
import Derived.Deep.RegionLaw
import Derived.Deep.DeepMust
namespace Go.Proofs.YtkbcmnjgkmkeaaaGreat
open Go.RowKit Go.Deep
set_option linter.unusedVariables false
structure Chg (S:Nat → Prop) (w w':World):Prop where
 os:w'.os = w.os
 tape:w'.tape = w.tape
 output:w'.output = w.output
 size:w.heap.size ≤ w'.heap.size
 block:∀ k,k < w.heap.size → ¬ S k → w'.heap[k]? = w.heap[k]?

theorem Chg.refl (S:Nat → Prop) (w:World):Chg S w w:=⟨rfl,rfl,rfl,Nat.le_refl _,fun _ _ _ => rfl⟩
theorem Chg.trans {S:Nat → Prop} {a b c:World} (h:Chg S a b) (k:Chg S b c):Chg S a c :=
 ⟨k.os.trans h.os,k.tape.trans h.tape,k.output.trans h.output,Nat.le_trans h.size k.size,fun i hi hs => (k.block i (Nat.lt_of_lt_of_le hi h.size) hs).trans (h.block i hi hs)⟩
theorem Chg.mono {S T:Nat → Prop} {w w':World} (h:Chg S w w') (hs:∀ k,k < w.heap.size → S k → T k):Chg T w w' :=
 ⟨h.os,h.tape,h.output,h.size,fun k hk hn => h.block k hk (fun hh => hn (hs k hk hh))⟩
theorem Chg.of_below {S:Nat → Prop} {w w':World} (h:Below w.heap.size w w'):Chg S w w' :=
 ⟨h.os,h.tape,h.output,h.size,fun k hk _ => h.block k hk⟩
theorem Chg.of_alloc {S:Nat → Prop} (w:World) (o:Obj):Chg S w (w.alloc o):=.of_below ((Below.refl _ _).alloc (Nat.le_refl _) o)
theorem Chg.of_set {S:Nat → Prop} (w:World) (b i:Nat) (v:Value) (hb:S b):Chg S w (w.setCell ⟨b,i,none⟩ v) :=
 ⟨rfl,rfl,rfl,by simp,fun k hk hs => set_block_other (fun e => by subst e; exact hs hb) v⟩
theorem Chg.of_grown {S:Nat → Prop} {w w':World} {row:Option Nat} (h:w.grownBy w' row) (hr:∀ k,row = some k → S k):Chg S w w' :=
 ⟨h.os,h.tape,h.output,h.size,fun k hk hs => h.block k hk (fun e => hs (hr k e.symm))⟩
theorem Chg.of_drew {S:Nat → Prop} (w:World):Chg S w w.drew:=⟨rfl,rfl,rfl,Nat.le_refl _,fun _ _ _ => rfl⟩
theorem Chg.below {S:Nat → Prop} {w w':World} {B:Nat} (h:Chg S w w') (hB:B ≤ w.heap.size) (hs:∀ k,k < B → ¬ S k):Below B w w' :=
 ⟨h.os,h.tape,h.output,h.size,fun k hk => h.block k (by omega) (hs k hk)⟩

theorem Chg.cell {S:Nat → Prop} {w w':World} (h:Chg S w w') {b i:Nat} {v:Value} (hs:¬ S b) (hc:w.cell? ⟨b,i,none⟩ = some v):w'.cell? ⟨b,i,none⟩ = some v:=by
 have hlt:=World.block_lt_of_cell? _ _ hc
 rw [World.cell?_of_block (w:=w) (h.block b hlt hs)]; exact hc

theorem Cells.chg {S:Nat → Prop} {w w':World} {b off:Nat} {xs:List Nat} (h:Cells w b off xs) (k:Chg S w w') (hs:¬ S b):Cells w' b off xs :=
 fun i hi => k.cell hs (h i hi)

theorem Sl.chg {S:Nat → Prop} {w w':World} {a:Option Addr} {n c:Nat} {xs:List Nat} (h:Sl w a n c xs) (k:Chg S w w') (hs:∀ x,a = some x → xs ≠ [] → ¬ S x.block):Sl w' a n c xs :=
 ⟨h.len,h.le,h.cap,h.cells.elim .inl (fun ⟨b,off,e,kk⟩ => by
  by_cases hx:xs = []
  ·exact .inl hx
  ·exact .inr ⟨b,off,e,kk.chg k (hs _ e hx)⟩)⟩

theorem Sl.block_lt {w:World} {a:Option Addr} {n c:Nat} {xs:List Nat} (h:Sl w a n c xs) (hx:xs ≠ []):∀ x,a = some x → x.block < w.heap.size:=by
 intro x hx'
 rcases h.cells with e | ⟨b,off,e,kk⟩
 ·exact absurd e hx
 ·rw [e] at hx'
  cases hx'
  have:=kk 0 (by cases xs with | nil => exact absurd rfl hx | cons => simp)
  exact World.block_lt_of_cell? _ _ this

theorem ownsRow_chg {S:Nat → Prop} {w w':World} {base:Nat} {e:TypeId} {size:Nat} {v:Value} {n:Nat} {xs:List Value} (h:w.ownsRow base e size v n xs) (k:Chg S w w') (hs:∀ k,v.ownBlock = some k → ¬ S k):w'.ownsRow base e size v n xs:=by
 refine ⟨h.1,h.2.imp id ?_⟩
 rintro ⟨g,cap,cur,rfl,hb,hg,h1,h2,h3,h4⟩
 refine ⟨g,cap,cur,rfl,hb,?_,h1,h2,h3,h4⟩
 have hlt:g < w.heap.size:=by
  rcases Nat.lt_or_ge g w.heap.size with hlt | hge
  ·exact hlt
  ·rw [Array.getElem?_eq_none hge] at hg; cases hg
 rw [k.block g hlt (hs g rfl)]; exact hg

structure Ent where
 b:Nat
 c:Nat
 b0:Nat
 c0:Nat
 xs:List Nat

def marks:List Nat:=[42405,23130,42330]
def Ent.v (e:Ent):Value:=.slice (some ⟨e.b,0,none⟩) (e.xs.length + 3) e.c
def Ent.v0 (e:Ent):Value:=.slice (some ⟨e.b0,0,none⟩) (e.xs.length + 3) e.c0

def Own (B:Nat) (v0 v1:Value) (k:Nat):Prop:=k = B ∨ v0.ownBlock = some k ∨ v1.ownBlock = some k

structure EntOk (w:World) (B:Nat) (v0 v1:Value) (e:Ent):Prop where
 sl:Sl w (some ⟨e.b,0,none⟩) (e.xs.length + 3) e.c (e.xs ++ marks)
 sl0:Sl w (some ⟨e.b0,0,none⟩) (e.xs.length + 3) e.c0 (e.xs ++ marks)
 s:¬ Own B v0 v1 e.b
 s0:¬ Own B v0 v1 e.b0

structure Giv (w:World) (B:Nat) (v0 v1:Value) (es:List Ent):Prop where
 blk:∃ cur,w.heap[B]? = some (.cells cur 34) ∧ cur.size = 20 ∧ cur[0]? = some v0 ∧ cur[1]? = some v1 ∧ ∀ i,2 ≤ i → i < 20 → cur[i]? = some (.slice none 0 0)
 own0:w.ownsRow (B + 1) 49 1 v0 es.length (es.map Ent.v)
 own1:w.ownsRow (B + 1) 49 1 v1 es.length (es.map Ent.v0)
 apart:∀ k,v0.ownBlock = some k → v1.ownBlock ≠ some k
 ents:∀ e ∈ es,EntOk w B v0 v1 e

theorem Giv.chg {S:Nat → Prop} {w w':World} {B:Nat} {v0 v1:Value} {es:List Ent} (h:Giv w B v0 v1 es) (k:Chg S w w') (hB:¬ S B) (h0:∀ k,v0.ownBlock = some k → ¬ S k) (h1:∀ k,v1.ownBlock = some k → ¬ S k)
  (hes:∀ e ∈ es,¬ S e.b ∧ ¬ S e.b0):Giv w' B v0 v1 es:=by
 obtain ⟨cur,hc,hr⟩:=h.blk
 have hlt:B < w.heap.size:=by
  rcases Nat.lt_or_ge B w.heap.size with hlt | hge
  ·exact hlt
  ·rw [Array.getElem?_eq_none hge] at hc; cases hc
 refine ⟨⟨cur,by rw [k.block B hlt hB]; exact hc,hr⟩,ownsRow_chg h.own0 k h0,ownsRow_chg h.own1 k h1,h.apart,fun e he => ?_⟩
 have:=h.ents e he
 exact ⟨this.sl.chg k (fun x hx _ => by cases hx; exact (hes e he).1),this.sl0.chg k (fun x hx _ => by cases hx; exact (hes e he).2),this.s,this.s0⟩

theorem Giv.below {w w':World} {B:Nat} {v0 v1:Value} {es:List Ent} (h:Giv w B v0 v1 es) (k:Below w.heap.size w w'):Giv w' B v0 v1 es :=
 h.chg (S:=fun _ => False) (.of_below k) id (fun _ _ => id) (fun _ _ => id) (fun _ _ => ⟨id,id⟩)

theorem Giv.cell0 {w:World} {B:Nat} {v0 v1:Value} {es:List Ent} (h:Giv w B v0 v1 es):w.cell? ⟨B,0,none⟩ = some v0 ∧ w.cell? ⟨B,1,none⟩ = some v1 ∧ w.frozen? ⟨B,0,none⟩ = false ∧ w.frozen? ⟨B,1,none⟩ = false ∧ B < w.heap.size:=by
 obtain ⟨cur,hc,hr⟩:=h.blk
 have e0:w.cell? ⟨B,0,none⟩ = some v0:=by rw [cell_of_block hc]; exact hr.2.1
 exact ⟨e0,by rw [cell_of_block hc]; exact hr.2.2.1,frozen_of_block hc _,frozen_of_block hc _,World.block_lt_of_cell? _ _ e0⟩

theorem grown_frozen {w w':World} {row:Option Nat} (hg:w.grownBy w' row) {b i:Nat} (hlt:b < w.heap.size) (hne:some b ≠ row):w'.cell? ⟨b,i,none⟩ = w.cell? ⟨b,i,none⟩ ∧ w'.frozen? ⟨b,i,none⟩ = w.frozen? ⟨b,i,none⟩ :=
 ⟨hg.cell_far ⟨b,i,none⟩ hlt hne,hg.frozen_far ⟨b,i,none⟩ hlt hne⟩

theorem own_ge {w:World} {base:Nat} {e:TypeId} {size:Nat} {v:Value} {n:Nat} {xs:List Value} (h:w.ownsRow base e size v n xs):∀ k,v.ownBlock = some k → base ≤ k ∧ k < w.heap.size:=by
 intro k hk
 rcases h.2 with ⟨h2,h3⟩ | ⟨g',cap,cur,h3,h4,h5,h6,h7,h8,h9⟩
 ·subst h2; cases hk
 ·subst h3
  simp [Value.ownBlock] at hk
  subst hk
  refine ⟨h4,?_⟩
  rcases Nat.lt_or_ge g' w.heap.size with hlt | hge
  ·exact hlt
  ·rw [Array.getElem?_eq_none hge] at h5; cases h5

theorem one_slice {a:Option Addr} {n c:Nat}:∀ u ∈ [Value.slice a n c],u.oneCell' = true:=by
 intro u hu; simp at hu; subst hu; rfl
theorem block_lt {w:World} {b:Nat} {o:Obj} (h:w.heap[b]? = some o):b < w.heap.size:=by
 rcases Nat.lt_or_ge b w.heap.size with hlt | hge
 ·exact hlt
 ·rw [Array.getElem?_eq_none hge] at h; cases h
end Go.Proofs.YtkbcmnjgkmkeaaaGreat
