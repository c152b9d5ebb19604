/- Pr3 -/
import Derived.Test.YtlolnaegfponeaaGreatDoorDv3
import Derived.Test.YtlolnaegfponeaaGreatDoorMul
import Derived.Test.YtlolnaegfponeaaGreatDoorCmp
import Derived.Test.YtlolnaegfponeaaGreatDoorBy7
import Derived.Deep.LoopGhost
import Derived.Test.YtlolnaegfponeaaGreatDoorGi
import Derived.Test.YtlolnaegfponeaaGreatDoorGiv
namespace Go.Proofs.YtlolnaegfponeaaGreatDoor
open Go.RowKit Go.Deep
set_option linter.unusedVariables false
def dgt (V b i:Nat):Nat:=V / b ^ i % b
def chrN (d:Nat):Nat:=if d < 10 then 48 + d else 87 + d
structure TxtOf (V b n:Nat):Prop where
 pos:1 ≤ n
 lt:V < b ^ n
 ge:n = 1 ∨ b ^ (n - 1) ≤ V

theorem TxtOf.le {V b n m:Nat} (hb:2 ≤ b) (h:TxtOf V b n) (g:TxtOf V b m):n ≤ m:=by
 rcases h.ge with e | e
 ·have:=g.pos; omega
 ·rcases Nat.lt_or_ge m n with k | k
  ·exfalso
   have h1:b ^ m ≤ b ^ (n - 1):=Nat.pow_le_pow_right (by omega) (by omega)
   have:=g.lt
   omega
  ·exact k
theorem TxtOf.uniq {V b n m:Nat} (hb:2 ≤ b) (h:TxtOf V b n) (g:TxtOf V b m):n = m:=Nat.le_antisymm (h.le hb g) (g.le hb h)

theorem dgt_lt (V i:Nat) {b:Nat} (hb:0 < b):dgt V b i < b:=Nat.mod_lt _ hb
theorem dgt_div (V b i j:Nat):dgt (V / b ^ i) b j = dgt V b (i + j):=by
 unfold dgt
 rw [Nat.div_div_eq_div_mul,← Nat.pow_add]
theorem dgt_mod (V b:Nat) {i j:Nat} (hb:0 < b) (h:j < i):dgt (V % b ^ i) b j = dgt V b j:=by
 unfold dgt
 obtain ⟨k,rfl⟩:∃ k,i = j + (k + 1):=⟨i - j - 1,by omega⟩
 rw [Nat.pow_add,Nat.mod_mul_right_div_self,Nat.pow_succ,Nat.mul_comm,Nat.mod_mul_right_mod]
theorem chrN_lt {d:Nat} (h:d < 36):chrN d < 256:=by unfold chrN; split <;> omega
theorem chrN_zero {d:Nat} (h:d < 36):chrN d = 48 ↔ d = 0:=by unfold chrN; split <;> omega

def txtL (V b n:Nat):List Nat:=lst (fun p => chrN (dgt V b (n - 1 - p))) n

structure QbR (wr w:World) (n:Nat) (xs:List Nat) (d k r:Nat) (g:Nat → Nat):Prop where
 fn:Fn wr w.heap.size 0 n g
 ok:∀ i,i < n → g i < 4294967296
 rlt:r < d
 val:valF (fun i => xs.getD (k + i) 0) (n - k) = valF (fun i => g (k + i)) (n - k) * d + r
 bel:Below w.heap.size w wr

theorem QbR.step {wr w:World} {n:Nat} {xs:List Nat} {d k r x:Nat} {g:Nat → Nat} (h:QbR wr w n xs d (k + 1) r g) (hk:k < n) (hx:xs.getD k 0 = x) (hx2:x < 4294967296) :
  QbR (wr.setCell ⟨w.heap.size,k,none⟩ (.int .u32 (dv x r / d:Nat))) w n xs d k (dv x r % d) (fun i => if i = k then dv x r / d else g i):=by
 have hq:=dv_div_lt hx2 h.rlt
 have hs:=h.fn.set k (dv x r / d) hk
 rw [Nat.zero_add] at hs
 refine ⟨hs,?_,Nat.mod_lt _ (by have:=h.rlt; omega),?_,h.bel.setCell (Nat.le_refl _) _⟩
 ·intro i hi
  by_cases e:i = k
  ·simp only [e,if_true]; exact hq
  ·simp only [e,if_false]; exact h.ok i hi
 ·rw [valF_head (fun i => xs.getD i 0) k n hk,valF_head (fun i => if i = k then dv x r / d else g i) k n hk]
  simp only [if_true]
  have e0:valF (fun i => if k + 1 + i = k then dv x r / d else g (k + 1 + i)) (n - (k + 1)) = valF (fun i => g (k + 1 + i)) (n - (k + 1)):=valF_congr (fun i _ => by rw [if_neg (by omega)])
  rw [e0,hx]
  refine dl_arith h.val ?_
  have:=Nat.div_add_mod (dv x r) d
  unfold dv at *
  omega

open Go.RowKit Go.Deep
set_option linter.unusedVariables false

theorem ownsRow_below {w w':World} {base:Nat} {e:TypeId} {size:Nat} {v:Value} {n:Nat} {xs:List Value} (h:w.ownsRow base e size v n xs) (k:Below w.heap.size w w'):w'.ownsRow base e size v n xs:=by
 refine ⟨h.1,?_⟩
 rcases h.2 with e0 | ⟨g,cap,cur,e0,hb,h5,h6,h7,h8,h9⟩
 ·exact .inl e0
 ·exact .inr ⟨g,cap,cur,e0,hb,by rw [k.block g (by
   rcases Nat.lt_or_ge g w.heap.size with hlt | hge
   ·exact hlt
   ·simp [Array.getElem?_eq_none hge] at h5)]; exact h5,h6,h7,h8,h9⟩

inductive PrIs (xs:List Nat) (b:Int):ByteArray → Int → Prop where
 | nat (h:MayL xs = false):PrIs xs b (strB []) 20
 | base (h:MayL xs = true) (hb:¬ (2 ≤ b ∧ b ≤ 36)):PrIs xs b (strB []) 22
 | text (n:Nat) (h:MayL xs = true) (hb:2 ≤ b ∧ b ≤ 36) (ht:TxtOf (val xs) b.toNat n):PrIs xs b (strB (txtL (val xs) b.toNat n)) 0

theorem PrIs.uniq {xs:List Nat} {b:Int} {s t:ByteArray} {e f:Int} (h:PrIs xs b s e) (g:PrIs xs b t f):s = t ∧ e = f:=by
 cases h with
 | nat h =>
  cases g with
  | nat g => exact ⟨rfl,rfl⟩
  | base g gb => rw [h] at g; cases g
  | text m g gb gt => rw [h] at g; cases g
 | base h hb =>
  cases g with
  | nat g => rw [h] at g; cases g
  | base g gb => exact ⟨rfl,rfl⟩
  | text m g gb gt => exact absurd gb hb
 | text n h hb ht =>
  cases g with
  | nat g => rw [h] at g; cases g
  | base g gb => exact absurd hb gb
  | text m g gb gt => rw [ht.uniq (by omega) gt]; exact ⟨rfl,rfl⟩

def PrPost (xs:List Nat) (b:Int) (w:World) (e:Ending) (w':World):Prop :=
 ∃ s er,e = .returned (.tuple #[.string s,.int .i64 er]) ∧ PrIs xs b s er ∧ Below w.heap.size w w'

structure QpR (wr w:World) (V b:Nat) (v:Value) (k Q:Nat) (a:Option Addr) (m:Nat):Prop where
 own:wr.ownsRow w.heap.size 5 1 v k (valsB (lst (fun p => chrN (dgt V b p)) k))
 sl:Sl wr a m m (limbs Q)
 q:Q = V / b ^ k
 top:k = 0 ∨ 0 < V / b ^ (k - 1)
 bel:Below w.heap.size w wr

theorem QpR.done {wr w:World} {V b:Nat} {v:Value} {k:Nat} {a:Option Addr} {m:Nat} (h:QpR wr w V b v k 0 a m) (hV:0 < V) (hb:2 ≤ b):TxtOf V b k:=by
 have hp:0 < b ^ k:=Nat.pow_pos (by omega)
 have h1:V < b ^ k:=by
  rcases Nat.lt_or_ge V (b ^ k) with e | e
  ·exact e
  ·have:=Nat.div_pos e hp
   have:=h.q
   omega
 rcases h.top with e | e
 ·subst e; simp at h1; omega
 ·have h2:b ^ (k - 1) ≤ V:=by
   rcases Nat.lt_or_ge V (b ^ (k - 1)) with g | g
   ·rw [Nat.div_eq_of_lt g] at e; omega
   ·exact g
  refine ⟨?_,h1,.inr h2⟩
  rcases Nat.eq_zero_or_pos k with g | g
  ·subst g; simp at h1; omega
  ·exact g

theorem QpR.len {wr w:World} {V b:Nat} {v:Value} {k Q:Nat} {a:Option Addr} {m n:Nat} (h:QpR wr w V b v k Q a m) (hb:2 ≤ b) (hV:V < 2 ^ (32 * n)):k ≤ 32 * n:=by
 rcases h.top with e | e
 ·omega
 ·rcases Nat.eq_zero_or_pos k with g | g
  ·omega
  have h2:b ^ (k - 1) ≤ V:=by
   rcases Nat.lt_or_ge V (b ^ (k - 1)) with g | g
   ·rw [Nat.div_eq_of_lt g] at e; omega
   ·exact g
  have h3:2 ^ (k - 1) ≤ b ^ (k - 1):=Nat.pow_le_pow_left hb _
  have h4:2 ^ (k - 1) < 2 ^ (32 * n):=by omega
  have:=(Nat.pow_lt_pow_iff_right (by decide:1 < 2)).1 h4
  omega

theorem QpR.step {wr w w1:World} {V b:Nat} {v v':Value} {k Q:Nat} {a a':Option Addr} {m m':Nat} {o:Obj} (h:QpR wr w V b v k Q a m) (hQ:0 < Q) (hs:Sl wr a' m' m' (limbs (Q / b)))
  (hown:w1.ownsRow w.heap.size 5 1 v' (k + 1) (valsB (lst (fun p => chrN (dgt V b p)) k) ++ [.int .u8 (chrN (Q % b):Nat)])) (hg:(wr.alloc o).grownBy w1 v.ownBlock) (hne:∀ x,a' = some x → v.ownBlock ≠ some x.block):QpR w1 w V b v' (k + 1) (Q / b) a' m':=by
 have hz:=h.bel.size
 have hq:=h.q
 refine ⟨?_,?_,?_,.inr ?_,Below.grown (h.bel.alloc (by omega) o) hg (by simp; omega) (fun k hk => (own_ge h.own k hk).1)⟩
 ·have e:valsB (lst (fun p => chrN (dgt V b p)) k) ++ [.int .u8 (chrN (Q % b):Nat)] = valsB (lst (fun p => chrN (dgt V b p)) (k + 1)):=by
   unfold valsB
   simp only [lst,List.range_succ,List.map_append,List.map_cons,List.map_nil]
   rw [hq]
   rfl
  rw [e] at hown
  exact hown
 ·have hs1:Sl (wr.alloc o) a' m' m' (limbs (Q / b)):=hs.below ((Below.refl _ _).alloc (Nat.le_refl _) o)
  exact hs1.chg (S:=fun k => v.ownBlock = some k) (Chg.of_grown hg (fun k hk => hk)) (fun x hx _ => hne x hx)
 ·rw [hq,Nat.div_div_eq_div_mul,← Nat.pow_succ]
 ·rw [Nat.add_sub_cancel,← hq]; exact hQ

theorem FnB.slB {w:World} {b off n c:Nat} {f:Nat → Nat} (h:FnB w b off n f) (hc:n ≤ c) (hf:∀ i,i < n → f i < 256):SlB w (some ⟨b,off,none⟩) n c (lst f n):=by
 refine ⟨lst_len _ _,hc,fun x hx => ?_,.inr ⟨b,off,rfl,fun i hi => ?_⟩⟩
 ·obtain ⟨i,hi,rfl⟩:=lst_mem hx
  exact hf i hi
 ·rw [lst_len] at hi
  rw [lst_getD f n i hi]
  exact (h i hi).1
theorem chr_ok (V:Nat) {b:Nat} (hb:2 ≤ b) (hb2:b ≤ 36) (i:Nat):chrN (dgt V b i) < 256:=chrN_lt (by have:=dgt_lt V i (b:=b) (by omega); omega)

open Go.RowKit Go.Deep
set_option linter.unusedVariables false
end Go.Proofs.YtlolnaegfponeaaGreatDoor
namespace Go.Proofs.YtlolnaegfponeaaGreatDoor
open Go.RowKit Go.Deep
set_option linter.unusedVariables false
open Go.RowKit Go.Deep
set_option linter.unusedVariables false
structure Chunk (b c:Nat):Prop where
 pos:1 ≤ c
 le:c ≤ 31
 lt:b ^ c < 4294967296
 ge:4294967296 ≤ b ^ c * b

def ChPost (b:Nat) (w:World) (e:Ending) (w':World):Prop :=
 ∃ c,Chunk b c ∧ e = .returned (.tuple #[.int .i64 (c:Nat),.int .u32 (b ^ c:Nat)]) ∧ w' = w

theorem chunk_le {b c:Nat} (hb:2 ≤ b) (h:b ^ c < 4294967296):c ≤ 31:=by
 have h1:2 ^ c ≤ b ^ c:=Nat.pow_le_pow_left hb c
 have h2:2 ^ c < 2 ^ 32:=Nat.lt_of_le_of_lt h1 h
 have:=(Nat.pow_lt_pow_iff_right (by decide:1 < 2)).1 h2
 omega

set_option maxHeartbeats 4000000 in
theorem chunk_any (b:Nat) (hb:2 ≤ b) (hb2:b ≤ 36) (w:World) :
  Calls Tryz.prog 204 #[.int .i64 (b:Nat)] w fun e w' => ChPost b w e w':=by
 go_enter Tryz.func204,Tryz.ntmps204
 go_wp2_with fail
 go_loop [4,5] (fun cv wv => ∃ c:Nat,1 ≤ c ∧ b ^ c < 4294967296 ∧ cv = .int .i64 (c:Nat) ∧ wv = .int .u64 (b ^ c:Nat)) (fun cv _ => 32 - (intOf cv).toNat)
 case atStart => exact ⟨1,Nat.le_refl _,by simp; omega,rfl,by simp⟩
 case round =>
  obtain ⟨c,hc,hlt,rfl,rfl⟩:=hrel
  have hc31:=chunk_le hb hlt
  have hb36:b ^ c * b ≤ b ^ c * 36:=Nat.mul_le_mul_left _ hb2
  obtain ⟨p,hp⟩:∃ p,b ^ c * b = p:=⟨_,rfl⟩
  have hp1:b ^ (c + 1) = p:=by rw [Nat.pow_succ,hp]
  obtain ⟨W,hW⟩:∃ W,b ^ c = W:=⟨_,rfl⟩
  rw [hW] at hb36 hlt hp
  have e1:(W:Int) * (b:Int) = (p:Int):=by rw [← hp,Int.natCast_mul]
  rw [hp] at hb36
  have hp64:p < 18446744073709551616:=by omega
  have HW:=Hd hW
  have HP:=Hd hp1
  have HQ:=Hd hp
  by_cases hs:p < 4294967296
  ·have q1:(p:Int) / 4294967296 = 0:=by omega
   rw [hW]
   clear hW hp1 hp
   go_wp2_with fail
   exact ⟨⟨c + 1,by omega,by rw [Uh HP]; exact hs,by go_num,by rw [Uh HP]⟩,by simp [intOf]; omega⟩
  ·obtain ⟨q,hq⟩:∃ q,p / 4294967296 = q:=⟨_,rfl⟩
   have q1:(p:Int) / 4294967296 = (q:Int):=by omega
   have q2:((q:Int) == 0) = false:=by simp; omega
   have q3:¬ (q:Int) = 0:=by omega
   rw [hW]
   clear hW hp1 hp hq
   go_wp2_with fail
   go_ret2
   have HR:b ^ c * b = p:=by rw [Uh HW]; exact Uh HQ
   refine ⟨c,⟨hc,hc31,by rw [Uh HW]; exact hlt,by rw [HR]; omega⟩,by rw [Uh HW]; rfl,rfl⟩

set_option maxHeartbeats 4000000 in
theorem isBase_any (b:Int) (w:World) :
  Calls Tryz.prog 182 #[.int .i64 b] w fun e w' => e = .returned (.bool (decide (2 ≤ b ∧ b ≤ 36))) ∧ w' = w:=by
 by_cases h1:2 ≤ b
 ·by_cases h2:b ≤ 36
  ·go_enter Tryz.func182,Tryz.ntmps182
   go_wp2_with fail
   go_ret
   simp [h1,h2]
  ·go_enter Tryz.func182,Tryz.ntmps182
   go_wp2_with fail
   go_ret
   simp; omega
 ·go_enter Tryz.func182,Tryz.ntmps182
  go_wp2_with fail
  go_ret
  simp; omega
end Go.Proofs.YtlolnaegfponeaaGreatDoor
namespace Go.Proofs.YtlolnaegfponeaaGreatDoor
open Go.RowKit Go.Deep
set_option linter.unusedVariables false
structure St4 (w:World) (S b cnt wt:Nat) (pv:Value):Prop where
 c0:w.cell? ⟨S,0,none⟩ = some (.int .i64 (b:Nat))
 c1:w.cell? ⟨S,1,none⟩ = some (.int .i64 (cnt:Nat))
 c2:w.cell? ⟨S,2,none⟩ = some (.int .u32 (wt:Nat))
 c3:w.cell? ⟨S,3,none⟩ = some pv

theorem St4.keep {w w':World} {S b cnt wt:Nat} {pv:Value} (h:St4 w S b cnt wt pv) (k:∀ i,w'.cell? ⟨S,i,none⟩ = w.cell? ⟨S,i,none⟩):St4 w' S b cnt wt pv :=
 ⟨(k 0).trans h.c0,(k 1).trans h.c1,(k 2).trans h.c2,(k 3).trans h.c3⟩
theorem St4.lt {w:World} {S b cnt wt:Nat} {pv:Value} (h:St4 w S b cnt wt pv):S < w.heap.size:=World.block_lt_of_cell? _ _ h.c0
theorem St4.upd {w w':World} {S b cnt wt X lo hi:Nat} {pv:Value} (h:St4 w S b cnt wt pv) (u:Upd X lo hi w w') (hX:S ≠ X):St4 w' S b cnt wt pv :=
 h.keep fun i => by unfold World.cell?; simp only; rw [u.block S h.lt hX]
theorem St4.made (w:World) (b cnt wt:Nat) (pv:Value) (t:TypeId):St4 (w.alloc (.cells #[.int .i64 (b:Nat),.int .i64 (cnt:Nat),.int .u32 (wt:Nat),pv] t)) w.heap.size b cnt wt pv :=
 ⟨by simp,by simp,by simp,by simp⟩

def NumW (w:World) (a:Option Addr) (m bn on v:Nat):Prop :=
 (a = none ∧ m = 0 ∧ v = 0) ∨ ∃ f:Nat → Nat,a = some ⟨bn,on,none⟩ ∧ Fn w bn on m f ∧ (∀ i,i < m → f i < 4294967296) ∧ valF f m = v

theorem Upd.far {T lo hi X l h:Nat} {w0 w w':World} (u:Upd T lo hi w0 w) (v:Upd X l h w w') (hX:w0.heap.size ≤ X) (hT:T < w0.heap.size):Upd T lo hi w0 w':=by
 refine ⟨v.os.trans u.os,v.tape.trans u.tape,v.output.trans u.output,Nat.le_trans u.size v.size,?_,?_,?_⟩
 ·intro k hk hne
  rw [v.block k (Nat.lt_of_lt_of_le hk u.size) (by omega),u.block k hk hne]
 ·intro i hi
  have:w'.cell? ⟨T,i,none⟩ = w.cell? ⟨T,i,none⟩:=by
   unfold World.cell?; simp only; rw [v.block T (Nat.lt_of_lt_of_le hT u.size) (by omega)]
  rw [this,u.cell i hi]
 ·intro i
  have:w'.frozen? ⟨T,i,none⟩ = w.frozen? ⟨T,i,none⟩:=by
   unfold World.frozen?; simp only; rw [v.block T (Nat.lt_of_lt_of_le hT u.size) (by omega)]
  rw [this,u.froz i]
theorem FnB.upd {w w':World} {b off n X lo up:Nat} {f:Nat → Nat} (h:FnB w b off n f) (u:Upd X lo up w w') (hX:b ≠ X ∨ off + n ≤ lo ∨ up ≤ off):FnB w' b off n f:=by
 intro i hi
 obtain ⟨h1,h2⟩:=h i hi
 have hb:=World.block_lt_of_cell? _ _ h1
 by_cases e:b = X
 ·subst e
  have hX':off + n ≤ lo ∨ up ≤ off:=hX.resolve_left (fun h => h rfl)
  exact ⟨by rw [u.cell _ (by omega)]; exact h1,by rw [u.froz]; exact h2⟩
 ·refine ⟨?_,?_⟩
  ·have:w'.cell? ⟨b,off + i,none⟩ = w.cell? ⟨b,off + i,none⟩:=by unfold World.cell?; simp only; rw [u.block b hb e]
   rw [this]; exact h1
  ·have:w'.frozen? ⟨b,off + i,none⟩ = w.frozen? ⟨b,off + i,none⟩:=by unfold World.frozen?; simp only; rw [u.block b hb e]
   rw [this]; exact h2

theorem FnB.bel {w w':World} {b off n:Nat} {f:Nat → Nat} (h:FnB w b off n f) (k:Below w.heap.size w w'):FnB w' b off n f:=by
 intro i hi
 obtain ⟨h1,h2⟩:=h i hi
 have hb:=World.block_lt_of_cell? _ _ h1
 refine ⟨?_,?_⟩
 ·have:w'.cell? ⟨b,off + i,none⟩ = w.cell? ⟨b,off + i,none⟩:=by unfold World.cell?; simp only; rw [k.block b hb]
  rw [this]; exact h1
 ·have:w'.frozen? ⟨b,off + i,none⟩ = w.frozen? ⟨b,off + i,none⟩:=by unfold World.frozen?; simp only; rw [k.block b hb]
  rw [this]; exact h2

def txf (V b L d:Nat) (t0:Nat → Nat):Nat → Nat:=fun p => if L - 1 - p < d then chrN (dgt V b (L - 1 - p)) else t0 p

structure WsR (wr w0:World) (T o L bn on S V b cnt wt:Nat) (pv:Value) (t0:Nat → Nat) (q d:Nat) (a:Option Addr) (m:Nat):Prop where
 num:NumW wr a m bn on q
 fb:FnB wr T o L (txf V b L d t0)
 st:St4 wr S b cnt wt pv
 upd:Upd T o (o + L) w0 wr

theorem WsR.put {wr w0:World} {T o L bn on S V b cnt wt:Nat} {pv:Value} {t0:Nat → Nat} {q d:Nat} {a:Option Addr} {m:Nat} (h:WsR wr w0 T o L bn on S V b cnt wt pv t0 q d a m) (hd:d < L) (hST:S ≠ T) (hbT:bn ≠ T) (z:Nat) (hz:z = chrN (dgt V b d)) :
  WsR (wr.setCell ⟨T,o + (L - 1 - d),none⟩ (.int .u8 (z:Nat))) w0 T o L bn on S V b cnt wt pv t0 q (d + 1) a m:=by
 have u:Upd T o (o + L) wr (wr.setCell ⟨T,o + (L - 1 - d),none⟩ (.int .u8 (z:Nat))):=(Upd.refl _ _ _ _).set _ _ (by omega) (by omega)
 refine ⟨?_,?_,h.st.upd u hST,h.upd.trans u⟩
 ·rcases h.num with e | ⟨f,e1,e2,e3,e4⟩
  ·exact .inl e
  ·exact .inr ⟨f,e1,u.fn e2 (.inl hbT),e3,e4⟩
 ·refine (h.fb.set (L - 1 - d) z (by omega)).congr fun p hp => ?_
  unfold txf
  by_cases e:p = L - 1 - d
  ·rw [if_pos e,if_pos (by omega),hz,show L - 1 - p = d from by omega]
  ·rw [if_neg e]
   by_cases e2:L - 1 - p < d
   ·rw [if_pos e2,if_pos (by omega)]
   ·rw [if_neg e2,if_neg (by omega)]

theorem dgt_part {V b cnt k i:Nat} (hb:0 < b) (hi:i < cnt):V / (b ^ cnt) ^ k % b ^ cnt / b ^ i % b = dgt V b (k * cnt + i):=by
 have:=dgt_mod (V / (b ^ cnt) ^ k) b hb hi
 unfold dgt at this
 rw [this,← Nat.pow_mul,Nat.div_div_eq_div_mul,← Nat.pow_add,Nat.mul_comm cnt k]
 rfl

def digLit:ByteArray:=⟨#[48,49,50,51,52,53,54,55,56,57,97,98,99,100,101,102,103,104,105,106,107,108,109,110,111,112,113,114,115,116,117,118,119,120,121,122]⟩
theorem digLit_at:∀ D:Fin 36,(digLit[D.val]'(by have:=D.isLt; exact this)).toNat = chrN D.val:=by decide

theorem divideLimb_nil (a:Option Addr) (c d:Nat) (w:World) :
  Calls Tryz.prog 196 #[.slice a 0 c,.int .u32 (d:Nat)] w fun e w' => e = .returned (.int .u32 0) ∧ w' = w:=by
 go_enter Tryz.func196,Tryz.ntmps196
 go_wp2
 go_loop [5,6] (fun rv i => rv = .int .u32 0 ∧ i = .int .i64 (-1)) (fun _ i => (intOf i + 1).toNat)
 case atStart => exact ⟨rfl,rfl⟩
 case round =>
  obtain ⟨rfl,rfl⟩:=hrel
  go_wp2
  go_ret
  exact ⟨rfl,rfl⟩

theorem NumW.divided {w:World} {a:Option Addr} {m bn on v wt:Nat} (h:NumW w a m bn on v) (hm:m ≤ 1000000000) (h0:0 < wt) (h1:wt < 4294967296) :
  Calls Tryz.prog 196 #[.slice a m m,.int .u32 (wt:Nat)] w fun e w' => e = .returned (.int .u32 (v % wt:Nat)) ∧ Upd bn on (on + m) w w' ∧ Calls Tryz.prog 143 #[.slice a m m] w' fun e w'' => ∃ a' m',e = .returned (.slice a' m' m') ∧ m' ≤ m ∧ NumW w' a' m' bn on (v / wt) ∧ w'' = w':=by
 rcases h with ⟨rfl,rfl,rfl⟩ | ⟨f,rfl,hf,ok,hv⟩
 ·refine (divideLimb_nil none 0 wt w).mono ?_
  rintro e w' ⟨rfl,rfl⟩
  refine ⟨by simp,Upd.refl _ _ _ _,?_⟩
  refine (trim_any none 0 0 [] w' (sl_nil _) Ok.nil).mono ?_
  rintro e w2 ⟨a',m',ys,rfl,hs,hr,ha,rfl⟩
  have hy:ys = []:=hr.unique ⟨Ok.nil,.inl rfl,rfl⟩
  have hl:=hs.len
  rw [hy] at hl
  simp at hl
  subst hl
  have ha':a' = none:=by rcases ha with e | e <;> exact e
  exact ⟨a',0,rfl,Nat.le_refl _,.inl ⟨ha',rfl,by simp⟩,rfl⟩
 ·refine (divideLimb_any bn on m m wt f w hf ok hm h0 h1).mono ?_
  rintro e w' ⟨r,g,rfl,hr,hg,og,hval,hu⟩
  rw [hv] at hval
  have e1:v % wt = r:=by rw [hval,Nat.mul_comm,Nat.mul_add_mod,Nat.mod_eq_of_lt hr]
  have e2:v / wt = valF g m:=by rw [hval,Nat.mul_comm,Nat.mul_add_div h0,Nat.div_eq_of_lt hr,Nat.add_zero]
  refine ⟨by rw [e1],hu,?_⟩
  refine (trim_any (some ⟨bn,on,none⟩) m m (lst g m) w' (hg.sl (Nat.le_refl _) (by unfold maxLen; omega)) (lst_ok og)).mono ?_
  rintro e w2 ⟨a',m',ys,rfl,hs,hr2,ha,rfl⟩
  have hl:=hs.len
  have hvy:=hr2.val
  rw [lst_val] at hvy
  have hmm:m' ≤ m:=by
   have:=rep_len_leS hr2 (j:=m) (by rw [lst_val]; exact valF_lt og)
   omega
  by_cases hy:ys = []
  ·subst hy
   simp at hl
   subst hl
   refine ⟨a',0,rfl,hmm,?_,rfl⟩
   rcases ha with e | e
   ·exact .inr ⟨g,e,fun i hi => absurd hi (Nat.not_lt_zero _),fun i hi => absurd hi (Nat.not_lt_zero _),by rw [e2,← hvy]; simp [valF,val]⟩
   ·exact .inl ⟨e,rfl,by rw [e2,← hvy]; rfl⟩
  ·refine ⟨a',m',rfl,hmm,?_,rfl⟩
   obtain ⟨b',o',e,hc⟩:=hs.cells.resolve_left hy
   rcases ha with e' | e'
   ·rw [e'] at e
    cases e
    refine .inr ⟨fun i => ys.getD i 0,e',fun i hi => ⟨hc i (by omega),(hg i (by omega)).2⟩,fun i hi => hr2.ok.getD i,?_⟩
    rw [valF_ge ys m' (by omega),hvy,e2]
   ·rw [e'] at e; cases e
open Go.RowKit Go.Deep
set_option linter.unusedVariables false

def writerV (b cnt wt:Nat) (pv:Value):Value:=.agg #[.int .i64 (b:Nat),.int .i64 (cnt:Nat),.int .u32 (wt:Nat),pv]

set_option maxHeartbeats 8000000 in
theorem writeShort_any (w0 w:World) (T o L cT bn on:Nat) (a:Option Addr) (m b cnt wt M V:Nat) (pv:Value) (t0:Nat → Nat) (hL:L = cnt * M) (hL2:L ≤ 1000000000) (hb:2 ≤ b) (hb2:b ≤ 36) (hch:Chunk b cnt) (hwt:b ^ cnt = wt)
  (hT:T < w0.heap.size) (hbn:w0.heap.size ≤ bn) (hbn2:bn < w.heap.size) (hm:m ≤ 1000000000) (hf:FnB w T o L t0) (hN:NumW w a m bn on V) (hU:Upd T o (o + L) w0 w) :
  Calls Tryz.prog 205 #[writerV b cnt wt pv,.slice (some ⟨T,o,none⟩) L cT,.slice a m m] w fun e w' => e = .returned (.tuple #[]) ∧ FnB w' T o L (txf V b L L t0) ∧ Upd T o (o + L) w0 w':=by
 have bel:=(Below.refl w.heap.size w).alloc (Nat.le_refl _) (.cells #[.int .i64 (b:Nat),.int .i64 (cnt:Nat),.int .u32 (wt:Nat),pv] 222)
 have u0:Upd T o (o + L) w _:=Upd.of_below (Nat.lt_of_lt_of_le hT hU.size) bel
 have hST:w.heap.size ≠ T:=by have:=hU.size; omega
 have hSb:w.heap.size ≠ bn:=by omega
 have hTb:bn ≠ T:=by omega
 have HR0:=Hd (show WsR _ w0 T o L bn on w.heap.size V b cnt wt pv t0 (V / wt ^ 0) (0 * cnt) a m from ⟨by
   rw [Nat.pow_zero,Nat.div_one]
   rcases hN with e | ⟨f,e1,e2,e3,e4⟩
   ·exact .inl e
   ·exact .inr ⟨f,e1,Fn.below e2 bel,e3,e4⟩,(hf.bel bel).congr (fun p hp => by unfold txf; rw [if_neg (by omega)]),St4.made _ _ _ _ _ _,hU.trans u0⟩)
 have h1:=hch.pos
 have h2:=hch.le
 have h3:=hch.lt
 rw [hwt] at h3
 have hwt0:0 < wt:=by rw [← hwt]; exact Nat.pow_pos (by omega)
 have HWT:=Hd hwt
 have HCH:=Hd hch
 have HL:=Hd hL
 clear hwt hch hL hf hN hU bel u0
 unfold writerV
 go_enter Tryz.func205,Tryz.ntmps205
 go_wp2_with fail
 go_loopw [2,6] (fun nv ev wr => ∃ (k:Nat) (an:Option Addr) (mn:Nat),k ≤ M ∧ mn ≤ 1000000000 ∧ nv = .slice an mn mn ∧ ev = .int .i64 ((L - k * cnt:Nat):Int) ∧ WsR wr w0 T o L bn on w.heap.size V b cnt wt pv t0 (V / wt ^ k) (k * cnt) an mn) (fun _ ev _ => (intOf ev).toNat)
 case atStart => exact ⟨0,a,m,Nat.zero_le _,hm,rfl,by simp,Uh HR0⟩
 case round =>
  clear HR0
  obtain ⟨k,an,mn,hk,hmn,rfl,rfl,hR⟩:=hrel
  have hk1:k * cnt ≤ L:=by rw [Uh HL,Nat.mul_comm]; exact Nat.mul_le_mul_left _ hk
  obtain ⟨E,hE⟩:∃ E,L - k * cnt = E:=⟨_,rfl⟩
  by_cases hkM:k = M
  ·have hE0:E = 0:=by rw [← hE,hkM,Uh HL,Nat.mul_comm,Nat.sub_self]
   have hkL:k * cnt = L:=by omega
   have HR:=Hd hR
   rw [hE,hE0]
   clear hR hE hE0
   go_wp2_with fail
   go_end0
   have hh:=Uh HR
   rw [hkL] at hh
   exact ⟨rfl,hh.fb,hh.upd⟩
  ·have hkk:(k + 1) * cnt ≤ L:=by rw [Uh HL,Nat.mul_comm]; exact Nat.mul_le_mul_left _ (by omega)
   have hk2:(k + 1) * cnt = k * cnt + cnt:=Nat.succ_mul _ _
   have hE1:(0:Int) < (E:Int):=by omega
   have hE2:0 < E:=by omega
   have hE3:decide (0 < E) = true:=by simp [hE2]
   have hEL:E ≤ L:=by omega
   have KD:=Hd (hR.num.divided hmn hwt0 h3)
   have g0:=hR.st.c0
   have g1:=hR.st.c1
   have g2:=hR.st.c2
   have HR:=Hd hR
   have HE:=Hd hE
   rw [hE]
   obtain ⟨R,hRe⟩:∃ R,V / wt ^ k % wt = R:=⟨_,rfl⟩
   have HRE:=Hd hRe
   have hRl:R < 4294967296:=by have:=Nat.mod_lt (V / wt ^ k) hwt0; omega
   rw [hRe] at KD
   clear hRe hE hR
   go_wp2_with fail
   refine (Uh KD).mono ?_
   rintro _ w1 ⟨rfl,u1,KT⟩
   have hR1:FnB w1 T o L (txf V b L (k * cnt) t0) ∧ St4 w1 w.heap.size b cnt wt pv ∧ Upd T o (o + L) w0 w1:=⟨(Uh HR).fb.upd u1 (.inl (by omega)),(Uh HR).st.upd u1 hSb,(Uh HR).upd.far u1 hbn hT⟩
   have HR1:=Hd hR1
   have KT':=Hd KT
   have g3:=hR1.2.1.c0
   have g4:=hR1.2.1.c1
   have g5:=hR1.2.1.c2
   clear KT u1 KD HR hR1 g0 g1 g2
   go_wp2_with fail
   refine (Uh KT').mono ?_
   rintro _ _ ⟨a2,m2,rfl,hm2,hN2,hw⟩
   obtain rfl:=hw.symm
   have HR2:=Hd (show WsR w1 w0 T o L bn on w.heap.size V b cnt wt pv t0 (V / wt ^ (k + 1)) (k * cnt) a2 m2 from ⟨by rw [Nat.pow_succ,← Nat.div_div_eq_div_mul]; exact hN2,(Uh HR1).1,(Uh HR1).2.1,(Uh HR1).2.2⟩)
   clear hN2 hw KT' HR1
   go_wp2_with fail
   go_loopw [7,25] (fun rv iv wr => ∃ i:Nat,i ≤ cnt ∧ iv = .int .i64 (i:Nat) ∧ rv = .int .u32 (R / b ^ i:Nat) ∧ WsR wr w0 T o L bn on w.heap.size V b cnt wt pv t0 (V / wt ^ (k + 1)) (k * cnt + i) a2 m2) (fun _ iv _ => cnt - (intOf iv).toNat)
   case atStart => exact ⟨0,Nat.zero_le _,rfl,by simp,Uh HR2⟩
   case round =>
    clear HR2
    obtain ⟨i,hi,rfl,rfl,hR⟩:=hrel
    by_cases hic:i < cnt
    ·have hic':(i:Int) < (cnt:Int):=by omega
     have hdl:k * cnt + i < L:=by omega
     have f0:=hR.fb (L - 1 - (k * cnt + i)) (by omega)
     have f1:=f0.1
     have f2:=f0.2
     have c0:=hR.st.c0
     have hD:R / b ^ i % b = dgt V b (k * cnt + i):=by
      rw [← Uh HRE,← Uh HWT]
      exact dgt_part (by omega) hic
     have hDl:R / b ^ i % b < b:=Nat.mod_lt _ (by omega)
     have HP:=Hd (hR.put hdl hST hTb (chrN (R / b ^ i % b)) (by rw [hD]))
     have hcl:chrN (R / b ^ i % b) < 256:=chrN_lt (by omega)
     have hq:R / b ^ (i + 1) = R / b ^ i / b:=by rw [Nat.pow_succ,Nat.div_div_eq_div_mul]
     have HQ:=Hd hq
     have hr1:R / b ^ i < 4294967296:=Nat.lt_of_le_of_lt (Nat.div_le_self _ _) hRl
     have hp:(E:Int) - 1 - (i:Int) = ((L - 1 - (k * cnt + i):Nat):Int):=by have:=Uh HE; omega
     have hpl:L - 1 - (k * cnt + i) < L:=by omega
     clear hR hD f0 hq
     generalize L - 1 - (k * cnt + i) = pp at *
     generalize R / b ^ i = Ri at *
     have e1:(Ri:Int) % (b:Int) = ((Ri % b:Nat):Int):=rfl
     have e2:(Ri:Int) / (b:Int) = ((Ri / b:Nat):Int):=rfl
     have e3:(Ri:Int).tmod (b:Int) = ((Ri % b:Nat):Int):=rfl
     have e4:(Ri:Int).tdiv (b:Int) = ((Ri / b:Nat):Int):=rfl
     have hqd:Ri / b < 4294967296:=Nat.lt_of_le_of_lt (Nat.div_le_self _ _) hr1
     generalize Ri / b = Rq at *
     generalize Ri % b = D at *
     have hD36:(D:Int) < 36:=by omega
     have hb0:(b:Int) ≠ 0:=by omega
     have hD3:D < 36:=by omega
     have hch:(digLit[D]'hD3).toNat = chrN D:=digLit_at ⟨D,hD3⟩
     go_wp2_with fail
     refine ⟨⟨i + 1,by omega,by go_num,by rw [Uh HQ],?_⟩,by simp [intOf]; omega⟩
     have hP:=Uh HP
     rw [← hch] at hP
     exact hP
    ·obtain rfl:i = cnt:=by omega
     have hic':¬ (i:Int) < (i:Int):=by omega
     have c1:=hR.st.c1
     have HP:=Hd hR
     have e1:(E:Int) - (i:Int) = ((L - (k + 1) * i:Nat):Int):=by have:=Uh HE; omega
     have hlt:L - (k + 1) * i < E:=by have:=Uh HE; omega
     generalize hX:L - (k + 1) * i = X at *
     have HX:=Hd hX
     clear hR hX
     go_wp2_with fail
     exact ⟨⟨k + 1,a2,m2,by omega,by omega,rfl,by rw [Uh HX],by rw [hk2]; exact Uh HP⟩,by simp [intOf]; omega⟩
end Go.Proofs.YtlolnaegfponeaaGreatDoor
