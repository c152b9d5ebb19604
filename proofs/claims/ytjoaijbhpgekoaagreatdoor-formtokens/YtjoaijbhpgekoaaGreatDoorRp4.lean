/- By1 -/
import Derived.Test.YtjoaijbhpgekoaaGreatDoorRd1
import Derived.Test.YtjoaijbhpgekoaaGreatDoorMul
import Derived.Test.YtjoaijbhpgekoaaGreatDoorShl
import Derived.Laws.BytesArg
import Derived.Test.YtjoaijbhpgekoaaGreatDoorGiv2
import Derived.Test.YtjoaijbhpgekoaaGreatDoorDv4
import Derived.Deep.LoopGhost
import Derived.Test.YtjoaijbhpgekoaaGreatDoorWrb
import Derived.Test.YtjoaijbhpgekoaaGreatDoorFt2
import Derived.Lib.Strings
import Derived.Deep.RegionHeld3
namespace Go.Proofs.YtjoaijbhpgekoaaGreatDoor
open Go.RowKit Go.Deep
set_option linter.unusedVariables false
def FnB (w:World) (b off n:Nat) (f:Nat → Nat):Prop :=
 ∀ i,i < n → w.cell? ⟨b,off + i,none⟩ = some (.int .u8 (f i:Nat)) ∧ w.frozen? ⟨b,off + i,none⟩ = false
theorem FnB.set {w:World} {b off n:Nat} {f:Nat → Nat} (h:FnB w b off n f) (k v:Nat) (hk:k < n) :
  FnB (w.setCell ⟨b,off + k,none⟩ (.int .u8 (v:Nat))) b off n (fun i => if i = k then v else f i):=by
 intro i hi
 refine ⟨?_,by rw [World.frozen?_setCell]; exact (h i hi).2⟩
 by_cases e:i = k
 ·subst e
  rw [World.cell?_setCell_same _ _ _ (h i hi).1]
  simp
 ·rw [World.cell?_setCell_other _ _ _ _ (by intro h; injection h with h1 h2; omega)]
  simp [e,(h i hi).1]
theorem FnB.congr {w:World} {b off n:Nat} {f g:Nat → Nat} (h:FnB w b off n f) (he:∀ i,i < n → f i = g i):FnB w b off n g:=fun i hi => by
 have:=h i hi
 rwa [he i hi] at this
theorem FnB.made (w:World) (n:Nat) (e:TypeId):FnB (w.alloc (.cells (madeCells #[.int .u8 0] n) e)) w.heap.size 0 n (fun _ => 0):=by
 intro i hi
 refine ⟨?_,by simp⟩
 simp [madeCells,hi,Nat.mod_one]

def byteN (v i:Nat):Nat:=v / 256 ^ i % 256
def bytesN (xs:List Nat):Nat:=(bitsN xs + 7) / 8
def valsB (xs:List Nat):List Value:=xs.map (fun x => .int .u8 (x:Nat))
def outB (xs:List Nat) (k:Nat):List Nat:=lst (fun p => byteN (val xs) (bytesN xs - 1 - p)) (bytesN xs - k)

structure ByR (wr w:World) (xs:List Nat) (v:Value) (k:Nat):Prop where
 own:wr.ownsRow w.heap.size 5 1 v (bytesN xs - k) (valsB (outB xs k))
 bel:Below w.heap.size w wr

theorem ByR.step {wr w w1:World} {xs:List Nat} {v v':Value} {k:Nat} {o:Obj} (h:ByR wr w xs v (k + 1)) (hk:k < bytesN xs)
  (hown:w1.ownsRow w.heap.size 5 1 v' (bytesN xs - (k + 1) + 1) (valsB (outB xs (k + 1)) ++ [.int .u8 (byteN (val xs) k:Nat)])) (hg:(wr.alloc o).grownBy w1 v.ownBlock):ByR w1 w xs v' k:=by
 have hs:=h.bel.size
 refine ⟨?_,Below.grown (h.bel.alloc (by omega) o) hg (by simp; omega) (fun k hk => (own_ge h.own k hk).1)⟩
 have e1:bytesN xs - (k + 1) + 1 = bytesN xs - k:=by omega
 have e:valsB (outB xs (k + 1)) ++ [.int .u8 (byteN (val xs) k:Nat)] = valsB (outB xs k):=by
  unfold outB valsB
  rw [← e1]
  simp only [lst,List.range_succ,List.map_append,List.map_cons,List.map_nil]
  rw [show bytesN xs - 1 - (bytesN xs - (k + 1)) = k from by omega]
 rw [e,e1] at hown
 exact hown
theorem ByR.skip {wr w:World} {xs:List Nat} {v:Value} {k:Nat} (h:ByR wr w xs v (k + 1)) (hk:bytesN xs ≤ k):ByR wr w xs v k:=by
 have e:bytesN xs - (k + 1) = bytesN xs - k:=by omega
 refine ⟨?_,h.bel⟩
 have:=h.own
 unfold outB at *
 rw [e] at this
 exact this
structure SlB (w:World) (a:Option Addr) (n c:Nat) (bs:List Nat):Prop where
 len:bs.length = n
 le:n ≤ c
 ok:∀ x ∈ bs,x < 256
 cells:bs = [] ∨ ∃ b off,a = some ⟨b,off,none⟩ ∧ ∀ i,i < bs.length → w.cell? ⟨b,off + i,none⟩ = some (.int .u8 (bs.getD i 0:Nat))
theorem SlB.below {w w':World} {a:Option Addr} {n c:Nat} {bs:List Nat} (h:SlB w a n c bs) (k:Below w.heap.size w w'):SlB w' a n c bs:=by
 refine ⟨h.len,h.le,h.ok,?_⟩
 rcases h.cells with e | ⟨b,off,e,hc⟩
 ·exact .inl e
 ·refine .inr ⟨b,off,e,fun i hi => ?_⟩
  have h1:=hc i hi
  rw [k.cell (World.block_lt_of_cell? _ _ h1)]
  exact h1

def lowB (bs:List Nat):Nat → Nat
 | 0 => 0
 | k + 1 => lowB bs k + bs.getD (bs.length - 1 - k) 0 * 256 ^ k
theorem lowB_lt {bs:List Nat} (ok:∀ x ∈ bs,x < 256):∀ (k:Nat),lowB bs k < 256 ^ k
 | 0 => by simp [lowB]
 | k + 1 => by
  have h1:=lowB_lt ok k
  simp only [lowB]
  have h2:bs.getD (bs.length - 1 - k) 0 < 256:=by
   by_cases hl:bs.length - 1 - k < bs.length
   ·rw [show bs.getD (bs.length - 1 - k) 0 = bs[bs.length - 1 - k] from by simp [List.getD,hl]]
    exact ok _ (List.getElem_mem _)
   ·rw [getD_ge (by omega)]; decide
  have h3:bs.getD (bs.length - 1 - k) 0 * 256 ^ k ≤ 255 * 256 ^ k:=Nat.mul_le_mul_right _ (by omega)
  rw [Nat.pow_succ]
  generalize 256 ^ k = P at *
  omega

theorem valF_putB {f:Nat → Nat} {l d:Nat}:∀ {n:Nat},l < n → valF (fun i => if i = l then f l + d else f i) n = valF f n + 4294967296 ^ l * d
 | 0,h => by omega
 | n + 1,h => by
  simp only [valF]
  by_cases e:n = l
  ·subst e
   rw [valF_congr (g:=f) (fun i hi => by rw [if_neg (by omega)])]
   simp only [if_true,Nat.mul_add]
   omega
  ·rw [valF_putB (n:=n) (by omega),if_neg e]
   omega

theorem byte_put {f:Nat → Nat} {M i l s c:Nat} (ok:∀ j,j < M → f j < 4294967296) (hl:i / 4 = l) (hs:i % 4 = s) (hM:l < M) (hv:valF f M < 256 ^ i) (hc:c < 256) :
  bits .or .u32 (f l:Int) ((c * 2 ^ (8 * s):Nat):Int) = ((f l + c * 2 ^ (8 * s):Nat):Int) ∧ f l + c * 2 ^ (8 * s) < 4294967296 ∧ c * 2 ^ (8 * s) < 4294967296 ∧ 4294967296 ^ l * (c * 2 ^ (8 * s)) = c * 256 ^ i:=by
 have p1:(256:Nat) ^ i = 4294967296 ^ l * 2 ^ (8 * s):=by
  rw [show i = 4 * l + s from by omega,show (256:Nat) = 2 ^ 8 from rfl,← Nat.pow_mul,pow_limb,← Nat.pow_add]
  congr 1
  omega
 have hd:f l < 2 ^ (8 * s):=by
  rw [valF_digit ok hM]
  refine Nat.lt_of_le_of_lt (Nat.mod_le _ _) ?_
  rw [Nat.div_lt_iff_lt_mul (pow_pos l),Nat.mul_comm,← p1]
  exact hv
 have hp:2 ^ (8 * s) * 256 ≤ 4294967296:=by
  rw [show (256:Nat) = 2 ^ 8 from rfl,← Nat.pow_add]
  exact Nat.le_trans (Nat.pow_le_pow_right (by decide) (show 8 * s + 8 ≤ 32 by omega)) (by decide)
 have hcm:c * 2 ^ (8 * s) + 2 ^ (8 * s) ≤ 2 ^ (8 * s) * 256:=by
  rw [← Nat.succ_mul,Nat.mul_comm]
  exact Nat.mul_le_mul_left _ hc
 have hP:=Nat.two_pow_pos (8 * s)
 have ho:c * 2 ^ (8 * s) ||| f l = c * 2 ^ (8 * s) + f l:=by
  have:=Nat.shiftLeft_add_eq_or_of_lt hd c
  rw [Nat.shiftLeft_eq] at this
  exact this.symm
 have h1:c * 2 ^ (8 * s) < 4294967296:=by omega
 have h2:f l < 4294967296:=ok l hM
 refine ⟨?_,by omega,h1,?_⟩
 ·rw [u32_or_nat _ _ h2 h1,Nat.or_comm,ho,Nat.add_comm]
 ·rw [p1,← Nat.mul_assoc,Nat.mul_comm _ c,Nat.mul_assoc]
structure FbR (wr w:World) (M:Nat) (r:List Nat) (i:Nat) (f:Nat → Nat):Prop where
 fn:Fn wr w.heap.size 0 M f
 ok:∀ j,j < M → f j < 4294967296
 val:valF f M = lowB r i
 bel:Below w.heap.size w wr

theorem FbR.drewN {wr w:World} {M:Nat} {r:List Nat} {i:Nat} {f:Nat → Nat} (h:FbR wr w M r i f) (j:Nat):FbR (wr.drewN j) w M r i f:=⟨h.fn,h.ok,h.val,bel_drewN h.bel j⟩
theorem FbR.step {wr w:World} {M:Nat} {r:List Nat} {i l s c:Nat} {f:Nat → Nat} (h:FbR wr w M r i f) (okr:∀ x ∈ r,x < 256) (hl:i / 4 = l) (hs:i % 4 = s) (hM:l < M) (hc:r.getD (r.length - 1 - i) 0 = c) (hc2:c < 256) :
  FbR (wr.setCell ⟨w.heap.size,l,none⟩ (.int .u32 (f l + c * 2 ^ (8 * s):Nat))) w M r (i + 1) (fun j => if j = l then f l + c * 2 ^ (8 * s) else f j):=by
 have hp:=byte_put h.ok hl hs hM (by rw [h.val]; exact lowB_lt okr i) hc2
 have hS:=h.fn.set l (f l + c * 2 ^ (8 * s)) hM
 rw [Nat.zero_add] at hS
 refine ⟨hS,?_,?_,h.bel.trans (((Upd.refl w.heap.size 0 M wr).set l (.int .u32 (f l + c * 2 ^ (8 * s):Nat)) (by omega) hM).below (Nat.le_refl _) h.bel.size)⟩
 ·intro j hj
  by_cases e:j = l
  ·simp only [e,if_true]; exact hp.2.1
  ·simp only [e,if_false]; exact h.ok j hj
 ·rw [valF_putB hM,h.val,hp.2.2.2]
  simp only [lowB]
  rw [hc]
theorem fit_lt {v M:Nat} (h:v < 4294967296 ^ M) (hM:M ≤ 2048):fitL v = (limbs v,0):=by
 apply fitL_ok
 intro hb
 have hr:=limbs_rep v
 have h2:=val_ge_of_norm hr.norm (by intro e; rw [e] at hb; simp at hb)
 have h4:4294967296 ^ M ≤ 4294967296 ^ ((limbs v).length - 1):=pow_mono (by omega)
 rw [hr.val] at h2
 omega
def strB (bs:List Nat):ByteArray:=strOfNums (bs.map (fun x:Nat => (x:Int)))

theorem SlB.conv {w:World} {a:Option Addr} {n c:Nat} {bs:List Nat} (h:SlB w a n c bs) :
  (convert 58 9 (.slice a n c)).run Tryz.prog w = .ok (.string (strB bs)) w:=by
 have hl:=h.len
 cases a with
 | none =>
  rcases h.cells with e | ⟨b,off,e,_⟩
  ·subst e
   exact run_convert_bytes_nil w 58 5 Tryz.underlying58 Tryz.underlying5 n c 9 Tryz.underlying9
  ·cases e
 | some x =>
  rcases h.cells with e | ⟨b,off,e,hc⟩
  ·subst e
   simp at hl
   subst hl
   rw [run_convert_bytes_string w 58 9 5 _ 0 c Tryz.underlying58 Tryz.underlying5 Tryz.underlying9,run_bytesToString w x 0 c [] (by simpa using run_loadCells_list (P:=Tryz.prog) w x [] (by simp))]
   rfl
  ·cases e
   refine run_convert_bytes_arg w 58 5 Tryz.underlying58 Tryz.underlying5 b off n c (bs.map (fun x:Nat => (x:Int))) (by simpa using hl) (fun i hi => ?_) 9 Tryz.underlying9
   rw [hc i (by omega)]
   congr 2
   simp only [List.getD_eq_getElem?_getD,List.getElem?_map]
   cases bs[i]? <;> rfl

structure Pc where
 a:Option Addr
 n:Nat
 c:Nat
 xs:List Nat

def Pc.v (p:Pc):Value:=.slice p.a p.n p.c

structure Kp (w:World) (B:Nat) (v0 v1:Value) (p:Pc):Prop where
 sl:Sl w p.a p.n p.c p.xs
 safe:∀ x,p.a = some x → p.xs ≠ [] → ¬ Own B v0 v1 x.block

theorem Kp.below {w w':World} {B:Nat} {v0 v1:Value} {p:Pc} (h:Kp w B v0 v1 p) (k:Below w.heap.size w w'):Kp w' B v0 v1 p:=⟨h.sl.below k,h.safe⟩

theorem Sl.pre {w:World} {b c n:Nat} {xs ys:List Nat} (h:Sl w (some ⟨b,0,none⟩) (xs.length + 3) c (xs ++ ys)) (hn:xs.length = n) (hl:ys.length = 3):Sl w (some ⟨b,0,none⟩) n c xs:=by
 have h1:=h.le
 refine ⟨hn,by omega,h.cap,?_⟩
 rcases h.cells with e | ⟨b',off',e,k⟩
 ·left
  cases xs with
  | nil => rfl
  | cons => simp at e
 ·right
  refine ⟨b',off',e,?_⟩
  intro i hi
  have:=k i (by simp; omega)
  rw [this]
  simp [List.getD,List.getElem?_append_left hi]
theorem lst_mem {f:Nat → Nat} {n x:Nat} (h:x ∈ lst f n):∃ i,i < n ∧ f i = x:=by
 simpa [lst] using h
def dgt (V b i:Nat):Nat:=V / b ^ i % b
def chrN (d:Nat):Nat:=if d < 10 then 48 + d else 87 + d
structure TxtOf (V b n:Nat):Prop where
 pos:1 ≤ n
 lt:V < b ^ n
 ge:n = 1 ∨ b ^ (n - 1) ≤ V

theorem TxtOf.le {V b n m:Nat} (hb:2 ≤ b) (h:TxtOf V b n) (g:TxtOf V b m):n ≤ m:=by
 rcases h.ge with e | e
 ·have:=g.pos; omega
 ·rcases Nat.lt_or_ge m n with k | k
  ·exfalso
   have h1:b ^ m ≤ b ^ (n - 1):=Nat.pow_le_pow_right (by omega) (by omega)
   have:=g.lt
   omega
  ·exact k
theorem TxtOf.uniq {V b n m:Nat} (hb:2 ≤ b) (h:TxtOf V b n) (g:TxtOf V b m):n = m:=Nat.le_antisymm (h.le hb g) (g.le hb h)

def txtL (V b n:Nat):List Nat:=lst (fun p => chrN (dgt V b (n - 1 - p))) n

structure QbR (wr w:World) (n:Nat) (xs:List Nat) (d k r:Nat) (g:Nat → Nat):Prop where
 fn:Fn wr w.heap.size 0 n g
 ok:∀ i,i < n → g i < 4294967296
 rlt:r < d
 val:valF (fun i => xs.getD (k + i) 0) (n - k) = valF (fun i => g (k + i)) (n - k) * d + r
 bel:Below w.heap.size w wr

theorem QbR.step {wr w:World} {n:Nat} {xs:List Nat} {d k r x:Nat} {g:Nat → Nat} (h:QbR wr w n xs d (k + 1) r g) (hk:k < n) (hx:xs.getD k 0 = x) (hx2:x < 4294967296) :
  QbR (wr.setCell ⟨w.heap.size,k,none⟩ (.int .u32 (dv x r / d:Nat))) w n xs d k (dv x r % d) (fun i => if i = k then dv x r / d else g i):=by
 have hq:=dv_div_lt hx2 h.rlt
 have hs:=h.fn.set k (dv x r / d) hk
 rw [Nat.zero_add] at hs
 refine ⟨hs,?_,Nat.mod_lt _ (by have:=h.rlt; omega),?_,h.bel.setCell (Nat.le_refl _) _⟩
 ·intro i hi
  by_cases e:i = k
  ·simp only [e,if_true]; exact hq
  ·simp only [e,if_false]; exact h.ok i hi
 ·rw [valF_head (fun i => xs.getD i 0) k n hk,valF_head (fun i => if i = k then dv x r / d else g i) k n hk]
  simp only [if_true]
  have e0:valF (fun i => if k + 1 + i = k then dv x r / d else g (k + 1 + i)) (n - (k + 1)) = valF (fun i => g (k + 1 + i)) (n - (k + 1)):=valF_congr (fun i _ => by rw [if_neg (by omega)])
  rw [e0,hx]
  refine dl_arith h.val ?_
  have:=Nat.div_add_mod (dv x r) d
  unfold dv at *
  omega

open Go.RowKit Go.Deep
set_option linter.unusedVariables false

theorem ownsRow_below {w w':World} {base:Nat} {e:TypeId} {size:Nat} {v:Value} {n:Nat} {xs:List Value} (h:w.ownsRow base e size v n xs) (k:Below w.heap.size w w'):w'.ownsRow base e size v n xs:=by
 refine ⟨h.1,?_⟩
 rcases h.2 with e0 | ⟨g,cap,cur,e0,hb,h5,h6,h7,h8,h9⟩
 ·exact .inl e0
 ·exact .inr ⟨g,cap,cur,e0,hb,by rw [k.block g (by
   rcases Nat.lt_or_ge g w.heap.size with hlt | hge
   ·exact hlt
   ·simp [Array.getElem?_eq_none hge] at h5)]; exact h5,h6,h7,h8,h9⟩

inductive PrIs (xs:List Nat) (b:Int):ByteArray → Int → Prop where
 | nat (h:MayL xs = false):PrIs xs b (strB []) 20
 | base (h:MayL xs = true) (hb:¬ (2 ≤ b ∧ b ≤ 36)):PrIs xs b (strB []) 22
 | text (n:Nat) (h:MayL xs = true) (hb:2 ≤ b ∧ b ≤ 36) (ht:TxtOf (val xs) b.toNat n):PrIs xs b (strB (txtL (val xs) b.toNat n)) 0

theorem PrIs.uniq {xs:List Nat} {b:Int} {s t:ByteArray} {e f:Int} (h:PrIs xs b s e) (g:PrIs xs b t f):s = t ∧ e = f:=by
 cases h with
 | nat h =>
  cases g with
  | nat g => exact ⟨rfl,rfl⟩
  | base g gb => rw [h] at g; cases g
  | text m g gb gt => rw [h] at g; cases g
 | base h hb =>
  cases g with
  | nat g => rw [h] at g; cases g
  | base g gb => exact ⟨rfl,rfl⟩
  | text m g gb gt => exact absurd gb hb
 | text n h hb ht =>
  cases g with
  | nat g => rw [h] at g; cases g
  | base g gb => exact absurd hb gb
  | text m g gb gt => rw [ht.uniq (by omega) gt]; exact ⟨rfl,rfl⟩

structure QpR (wr w:World) (V b:Nat) (v:Value) (k Q:Nat) (a:Option Addr) (m:Nat):Prop where
 own:wr.ownsRow w.heap.size 5 1 v k (valsB (lst (fun p => chrN (dgt V b p)) k))
 sl:Sl wr a m m (limbs Q)
 q:Q = V / b ^ k
 top:k = 0 ∨ 0 < V / b ^ (k - 1)
 bel:Below w.heap.size w wr

theorem QpR.done {wr w:World} {V b:Nat} {v:Value} {k:Nat} {a:Option Addr} {m:Nat} (h:QpR wr w V b v k 0 a m) (hV:0 < V) (hb:2 ≤ b):TxtOf V b k:=by
 have hp:0 < b ^ k:=Nat.pow_pos (by omega)
 have h1:V < b ^ k:=by
  rcases Nat.lt_or_ge V (b ^ k) with e | e
  ·exact e
  ·have:=Nat.div_pos e hp
   have:=h.q
   omega
 rcases h.top with e | e
 ·subst e; simp at h1; omega
 ·have h2:b ^ (k - 1) ≤ V:=by
   rcases Nat.lt_or_ge V (b ^ (k - 1)) with g | g
   ·rw [Nat.div_eq_of_lt g] at e; omega
   ·exact g
  refine ⟨?_,h1,.inr h2⟩
  rcases Nat.eq_zero_or_pos k with g | g
  ·subst g; simp at h1; omega
  ·exact g

theorem QpR.len {wr w:World} {V b:Nat} {v:Value} {k Q:Nat} {a:Option Addr} {m n:Nat} (h:QpR wr w V b v k Q a m) (hb:2 ≤ b) (hV:V < 2 ^ (32 * n)):k ≤ 32 * n:=by
 rcases h.top with e | e
 ·omega
 ·rcases Nat.eq_zero_or_pos k with g | g
  ·omega
  have h2:b ^ (k - 1) ≤ V:=by
   rcases Nat.lt_or_ge V (b ^ (k - 1)) with g | g
   ·rw [Nat.div_eq_of_lt g] at e; omega
   ·exact g
  have h3:2 ^ (k - 1) ≤ b ^ (k - 1):=Nat.pow_le_pow_left hb _
  have h4:2 ^ (k - 1) < 2 ^ (32 * n):=by omega
  have:=(Nat.pow_lt_pow_iff_right (by decide:1 < 2)).1 h4
  omega

theorem QpR.step {wr w w1:World} {V b:Nat} {v v':Value} {k Q:Nat} {a a':Option Addr} {m m':Nat} {o:Obj} (h:QpR wr w V b v k Q a m) (hQ:0 < Q) (hs:Sl wr a' m' m' (limbs (Q / b)))
  (hown:w1.ownsRow w.heap.size 5 1 v' (k + 1) (valsB (lst (fun p => chrN (dgt V b p)) k) ++ [.int .u8 (chrN (Q % b):Nat)])) (hg:(wr.alloc o).grownBy w1 v.ownBlock) (hne:∀ x,a' = some x → v.ownBlock ≠ some x.block):QpR w1 w V b v' (k + 1) (Q / b) a' m':=by
 have hz:=h.bel.size
 have hq:=h.q
 refine ⟨?_,?_,?_,.inr ?_,Below.grown (h.bel.alloc (by omega) o) hg (by simp; omega) (fun k hk => (own_ge h.own k hk).1)⟩
 ·have e:valsB (lst (fun p => chrN (dgt V b p)) k) ++ [.int .u8 (chrN (Q % b):Nat)] = valsB (lst (fun p => chrN (dgt V b p)) (k + 1)):=by
   unfold valsB
   simp only [lst,List.range_succ,List.map_append,List.map_cons,List.map_nil]
   rw [hq]
   rfl
  rw [e] at hown
  exact hown
 ·have hs1:Sl (wr.alloc o) a' m' m' (limbs (Q / b)):=hs.below ((Below.refl _ _).alloc (Nat.le_refl _) o)
  exact hs1.chg (S:=fun k => v.ownBlock = some k) (Chg.of_grown hg (fun k hk => hk)) (fun x hx _ => hne x hx)
 ·rw [hq,Nat.div_div_eq_div_mul,← Nat.pow_succ]
 ·rw [Nat.add_sub_cancel,← hq]; exact hQ

theorem FnB.slB {w:World} {b off n c:Nat} {f:Nat → Nat} (h:FnB w b off n f) (hc:n ≤ c) (hf:∀ i,i < n → f i < 256):SlB w (some ⟨b,off,none⟩) n c (lst f n):=by
 refine ⟨lst_len _ _,hc,fun x hx => ?_,.inr ⟨b,off,rfl,fun i hi => ?_⟩⟩
 ·obtain ⟨i,hi,rfl⟩:=lst_mem hx
  exact hf i hi
 ·rw [lst_len] at hi
  rw [lst_getD f n i hi]
  exact (h i hi).1
open Go.RowKit Go.Deep
set_option linter.unusedVariables false
structure DgO (wr w:World) (V:Nat) (v:Value) (k:Nat):Prop where
 own:wr.ownsRow w.heap.size 5 1 v k (valsB (lst (fun p => chrN (dgt V 10 p)) k))
 top:k = 0 ∨ 0 < V / 10 ^ (k - 1)
 bel:Below w.heap.size w wr
theorem DgO.below {wr w w':World} {V:Nat} {v:Value} {k:Nat} (h:DgO wr w V v k) (b:Below wr.heap.size wr w'):DgO w' w V v k :=
 ⟨ownsRow_below h.own b,h.top,h.bel.trans (b.mono h.bel.size)⟩
theorem DgO.step {wr w w1:World} {V:Nat} {v v':Value} {k:Nat} {o:Obj} (h:DgO wr w V v k) (hp:0 < V / 10 ^ k)
  (hown:w1.ownsRow w.heap.size 5 1 v' (k + 1) (valsB (lst (fun p => chrN (dgt V 10 p)) k) ++ [.int .u8 (chrN (dgt V 10 k):Nat)])) (hg:(wr.alloc o).grownBy w1 v.ownBlock):DgO w1 w V v' (k + 1):=by
 have hz:=h.bel.size
 refine ⟨?_,.inr (by simpa using hp),Below.grown (h.bel.alloc (by omega) o) hg (by simp; omega) (fun k hk => (own_ge h.own k hk).1)⟩
 have e:valsB (lst (fun p => chrN (dgt V 10 p)) k) ++ [.int .u8 (chrN (dgt V 10 k):Nat)] = valsB (lst (fun p => chrN (dgt V 10 p)) (k + 1)):=by
  unfold valsB
  simp only [lst,List.range_succ,List.map_append,List.map_cons,List.map_nil]
 rw [e] at hown
 exact hown
theorem DgO.done {wr w:World} {V:Nat} {v:Value} {k:Nat} (h:DgO wr w V v k) (hV:0 < V) (hq:V / 10 ^ k = 0):TxtOf V 10 k:=by
 have hp:0 < 10 ^ k:=Nat.pow_pos (by decide)
 have h1:V < 10 ^ k:=by
  rcases Nat.lt_or_ge V (10 ^ k) with e | e
  ·exact e
  ·have:=Nat.div_pos e hp
   omega
 rcases h.top with e | e
 ·subst e; simp at h1; omega
 ·have h2:10 ^ (k - 1) ≤ V:=by
   rcases Nat.lt_or_ge V (10 ^ (k - 1)) with g | g
   ·rw [Nat.div_eq_of_lt g] at e; omega
   ·exact g
  refine ⟨?_,h1,.inr h2⟩
  rcases Nat.eq_zero_or_pos k with g | g
  ·subst g; simp at h1; omega
  ·exact g
theorem DgO.len {wr w:World} {V:Nat} {v:Value} {k n:Nat} (h:DgO wr w V v k) (hV:V < 2 ^ (32 * n)):k ≤ 32 * n:=by
 rcases h.top with e | e
 ·omega
 ·rcases Nat.eq_zero_or_pos k with g | g
  ·omega
  have h2:10 ^ (k - 1) ≤ V:=by
   rcases Nat.lt_or_ge V (10 ^ (k - 1)) with g | g
   ·rw [Nat.div_eq_of_lt g] at e; omega
   ·exact g
  have h3:2 ^ (k - 1) ≤ 10 ^ (k - 1):=Nat.pow_le_pow_left (by decide) _
  have:=(Nat.pow_lt_pow_iff_right (by decide:1 < 2)).1 (show 2 ^ (k - 1) < 2 ^ (32 * n) by omega)
  omega
def FarB (v:Value) (a:Option Addr) (xs:List Nat):Prop:=∀ x,a = some x → xs ≠ [] → v.ownBlock ≠ some x.block
theorem FarB.step {w w1:World} {v:Value} {a:Option Addr} {m c g k2 c2:Nat} {xs:List Nat} {o:Obj} (h:FarB v a xs) (hs:Sl w a m c xs) (hg:(w.alloc o).grownBy w1 v.ownBlock) (hat:v.ownBlock = some g ∨ g = w.heap.size + 1):Sl w1 a m c xs ∧ FarB (.slice (some ⟨g,0,none⟩) k2 c2) a xs:=by
 have hs1:Sl (w.alloc o) a m c xs:=hs.below ((Below.refl _ _).alloc (Nat.le_refl _) o)
 refine ⟨hs1.chg (S:=fun k => v.ownBlock = some k) (Chg.of_grown hg (fun k hk => hk)) (fun x hx hne => h x hx hne),?_⟩
 intro x hx hne e
 simp [Value.ownBlock] at e
 rcases hat with h1 | h1
 ·exact h x hx hne (by rw [h1,e])
 ·have:=hs.block_lt hne x hx
  omega
theorem TxtOf.up {N L k M:Nat} (h:TxtOf N 10 L) (hM:M = max L (k + 1)):TxtOf (N / 10 ^ k) 10 (M - k):=by
 have hp:0 < 10 ^ k:=Nat.pow_pos (by decide)
 have hlt:N < 10 ^ M:=Nat.lt_of_lt_of_le h.lt (Nat.pow_le_pow_right (by decide) (by omega))
 refine ⟨by omega,?_,?_⟩
 ·rw [Nat.div_lt_iff_lt_mul hp,← Nat.pow_add,show M - k + k = M by omega]
  exact hlt
 ·rcases h.ge with e | e
  ·left; omega
  ·by_cases hl:L ≤ k + 1
   ·left; omega
   ·right
    rw [Nat.le_div_iff_mul_le hp,← Nat.pow_add]
    have e2:M - k - 1 + k = L - 1:=by omega
    rw [e2]
    exact e
set_option maxHeartbeats 4000000 in
theorem slHasPrefix_any (s:ByteArray) (b:Bool) (w:World) (hb:(decide (1 ≤ s.size) && ((s.extract 0 1).toList == [45])) = b) :
  Calls Tryz.prog 47 #[.string s,.string ⟨#[45]⟩] w fun e w' => e = .returned (.bool b) ∧ w' = w:=by
 by_cases h:1 ≤ s.size
 ·have h':(1:Int) ≤ (s.size:Int):=by omega
  have hc:((s.extract 0 1).toList == [45]) = b:=by
   rw [← hb]
   simp [h]
  clear hb
  generalize hx:s.extract 0 1 = x at *
  go_enter Tryz.func47,Tryz.ntmps47
  go_wp2_with fail
  go_ret
  exact ⟨rfl,rfl⟩
 ·have h':¬ (1:Int) ≤ (s.size:Int):=by omega
  obtain rfl:b = false:=by rw [← hb]; simp [h]
  clear hb
  go_enter Tryz.func47,Tryz.ntmps47
  go_wp2_with fail
  go_ret
  exact ⟨rfl,rfl⟩
set_option maxHeartbeats 4000000 in
theorem hasPrefix_any (s:ByteArray) (b:Bool) (w:World) (hb:(decide (1 ≤ s.size) && ((s.extract 0 1).toList == [45])) = b) :
  Calls Tryz.prog 29 #[.string s,.string ⟨#[45]⟩] w fun e w' => e = .returned (.bool b) ∧ w' = w:=by
 have HK:=Hj (slHasPrefix_any s b w hb)
 clear hb
 go_enter Tryz.func29,Tryz.ntmps29
 go_wp2_with fail
 refine (Uh HK).mono ?_
 rintro _ _ ⟨rfl,hw⟩
 obtain rfl:=hw.symm
 clear hw
 go_wp2_with fail
 go_ret
 exact ⟨rfl,rfl⟩
set_option maxHeartbeats 4000000 in
theorem trimPrefix_yes (s:ByteArray) (w:World) (hs:s.size ≤ 65536) (h1:1 ≤ s.size) (hc:((s.extract 0 1).toList == [45]) = true) :
  Calls Tryz.prog 55 #[.string s,.string ⟨#[45]⟩] w fun e w' => e = .returned (.string (s.extract 1 s.size)) ∧ w' = w:=by
 have HK:=Hj (slHasPrefix_any s true w (by simp [h1,hc]))
 clear hc
 have HI:=Hj (show Calls Tryz.prog 77 #[.string s,.string ⟨#[45]⟩] w fun e w' => e = .returned (.string (s.extract 1 s.size)) ∧ w' = w from by
  have h1':(1:Int) ≤ (s.size:Int):=by omega
  go_enter Tryz.func77,Tryz.ntmps77
  go_wp2_with fail
  refine (Uh HK).mono ?_
  rintro _ _ ⟨rfl,hw⟩
  obtain rfl:=hw.symm
  clear hw
  go_wp2_with fail
  go_ret
  exact ⟨rfl,rfl⟩)
 go_enter Tryz.func55,Tryz.ntmps55
 go_wp2_with fail
 refine (Uh HI).mono ?_
 rintro _ _ ⟨rfl,hw⟩
 obtain rfl:=hw.symm
 clear hw
 go_wp2_with fail
 go_ret
 exact ⟨rfl,rfl⟩
set_option maxHeartbeats 4000000 in
theorem trimPrefix_no (s:ByteArray) (w:World) (hb:(decide (1 ≤ s.size) && ((s.extract 0 1).toList == [45])) = false) :
  Calls Tryz.prog 55 #[.string s,.string ⟨#[45]⟩] w fun e w' => e = .returned (.string s) ∧ w' = w:=by
 have HK:=Hj (slHasPrefix_any s false w hb)
 clear hb
 have HI:=Hj (show Calls Tryz.prog 77 #[.string s,.string ⟨#[45]⟩] w fun e w' => e = .returned (.string s) ∧ w' = w from by
  go_enter Tryz.func77,Tryz.ntmps77
  go_wp2_with fail
  refine (Uh HK).mono ?_
  rintro _ _ ⟨rfl,hw⟩
  obtain rfl:=hw.symm
  clear hw
  go_wp2_with fail
  go_ret
  exact ⟨rfl,rfl⟩)
 go_enter Tryz.func55,Tryz.ntmps55
 go_wp2_with fail
 refine (Uh HI).mono ?_
 rintro _ _ ⟨rfl,hw⟩
 obtain rfl:=hw.symm
 clear hw
 go_wp2_with fail
 go_ret
 exact ⟨rfl,rfl⟩
theorem byA_ext {s:ByteArray} {a b i:Nat} (h:i < b - a) (hb:b ≤ s.size):byA (s.extract a b) i = byA s (a + i):=by
 unfold byA
 have h1:(s.extract a b).get! i = s.get! (a + i):=by
  show (s.extract a b).data[i]! = s.data[a + i]!
  have hs:s.data.size = s.size:=rfl
  rw [getElem!_pos _ _ (by rw [ByteArray.data_extract]; simp; omega),getElem!_pos _ _ (by omega)]
  simp [ByteArray.data_extract]
 rw [h1]
end Go.Proofs.YtjoaijbhpgekoaaGreatDoor
