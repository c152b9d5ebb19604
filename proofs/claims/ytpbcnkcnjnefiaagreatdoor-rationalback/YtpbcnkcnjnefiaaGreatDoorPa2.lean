/- Wr1 -/
import Derived.Test.YtpbcnkcnjnefiaaGreatDoorCmp
import Derived.Test.YtpbcnkcnjnefiaaGreatDoorRq0
import Derived.Test.YtpbcnkcnjnefiaaGreatDoorShr
import Derived.Test.YtpbcnkcnjnefiaaGreatDoorShN
import Derived.Test.YtpbcnkcnjnefiaaGreatDoorKar
import Derived.Test.YtpbcnkcnjnefiaaGreatDoorPr3
import Derived.Lib.Strings
import Derived.Deep.RegionHeld3
namespace Go.Proofs.YtpbcnkcnjnefiaaGreatDoor
open Go.RowKit Go.Deep
set_option linter.unusedVariables false
def Ow (w:World) (B:Nat) (a:Option Addr) (n c:Nat) (xs:List Nat):Prop:=w.ownsRow B 84 1 (.slice a n c) n (vals xs)
def AtB (a:Option Addr) (k:Nat):Prop:=∃ x,a = some x ∧ x.block = k
theorem atB_some {g o:Nat}:AtB (some ⟨g,o,none⟩) g:=⟨_,rfl,rfl⟩
theorem atB_none {k:Nat} (h:AtB none k):False:=by obtain ⟨x,e,_⟩:=h; cases e
theorem atB_own {a:Option Addr} {n c k:Nat}:(Value.slice a n c).ownBlock = some k ↔ AtB a k:=by
 cases a with
 | none => exact ⟨fun h => (by cases h),fun h => (atB_none h).elim⟩
 | some x => exact ⟨fun h => ⟨x,rfl,by simpa [Value.ownBlock] using h⟩,fun ⟨y,e,h⟩ => (by cases e; simp [Value.ownBlock,h])⟩

theorem Ow.nil (w:World) (B:Nat):Ow w B none 0 0 []:=World.ownsRow_nil _ _ _ _
theorem Ow.len {w:World} {B n c:Nat} {a:Option Addr} {xs:List Nat} (h:Ow w B a n c xs):xs.length = n:=by have:=h.1; simpa [vals] using this
theorem Ow.sl {w:World} {B n c:Nat} {a:Option Addr} {xs:List Nat} (h:Ow w B a n c xs):Sl w a n c xs:=by
 obtain ⟨a',c',e,k,_⟩:=own_sl h
 cases e; exact k
theorem Ow.new {w:World} {B n c:Nat} {a:Option Addr} {xs:List Nat} (h:Ow w B a n c xs):NewAt B a:=by
 obtain ⟨a',c',e,_,k⟩:=own_sl h
 cases e; exact k
theorem Ow.lt {w:World} {B n c k:Nat} {a:Option Addr} {xs:List Nat} (h:Ow w B a n c xs) (hk:AtB a k):B ≤ k ∧ k < w.heap.size:=own_ge h k (atB_own.2 hk)
theorem Ow.mono {w:World} {B B' n c:Nat} {a:Option Addr} {xs:List Nat} (h:Ow w B a n c xs) (hb:B' ≤ B):Ow w B' a n c xs :=
 ⟨h.1,h.2.imp id (fun ⟨g,cap,cur,e,h1,h2⟩ => ⟨g,cap,cur,e,Nat.le_trans hb h1,h2⟩)⟩
theorem Ow.chg {S:Nat → Prop} {w w':World} {B n c:Nat} {a:Option Addr} {xs:List Nat} (h:Ow w B a n c xs) (k:Chg S w w') (hs:∀ k,AtB a k → ¬ S k):Ow w' B a n c xs :=
 ownsRow_chg h k (fun k hk => hs k (atB_own.1 hk))
theorem Ow.below {w w':World} {B n c:Nat} {a:Option Addr} {xs:List Nat} (h:Ow w B a n c xs) (k:Below w.heap.size w w'):Ow w' B a n c xs :=
 h.chg (S:=fun _ => False) (.of_below k) (fun _ _ => id)
theorem Ow.form {w:World} {B n c:Nat} {a:Option Addr} {xs:List Nat} (h:Ow w B a n c xs) (hn:0 < n):∃ g,a = some ⟨g,0,none⟩ ∧ B ≤ g ∧ g < w.heap.size:=by
 obtain ⟨g,cap,e,h1,h2⟩:=World.ownsRow.form h hn
 cases e
 exact ⟨g,rfl,h1,h2⟩
theorem Ow.cell {w:World} {B g n c i:Nat} {xs:List Nat} (h:Ow w B (some ⟨g,0,none⟩) n c xs) (hi:i < n):w.cell? ⟨g,i,none⟩ = some (.int .u32 (xs.getD i 0:Nat)):=by
 have:=World.ownsRow.cellAt h i (by omega)
 rw [this,vals_get (by rw [h.len]; exact hi)]
theorem Ow.froz {w:World} {B g n c i:Nat} {xs:List Nat} (h:Ow w B (some ⟨g,0,none⟩) n c xs):w.frozen? ⟨g,i,none⟩ = false:=World.ownsRow.frozenAt h i
theorem Ow.set {w:World} {B g n c:Nat} {xs:List Nat} (h:Ow w B (some ⟨g,0,none⟩) n c xs) (j x:Nat):Ow (w.setCell ⟨g,j,none⟩ (.int .u32 (x:Nat))) B (some ⟨g,0,none⟩) n c (xs.set j x):=by
 have:=(World.ownsRow.stored h j (.int .u32 (x:Nat))).1
 have e:(vals xs).set j (.int .u32 (x:Nat)) = vals (xs.set j x):=by simp [vals,List.map_set]
 rw [e] at this
 exact this
theorem Ow.take {w:World} {B n c m:Nat} {a:Option Addr} {xs:List Nat} (h:Ow w B a n c xs) (hm:m ≤ n):Ow w B a m c (xs.take m):=by
 have hl:=h.len
 refine ⟨by simp [vals,hl]; omega,?_⟩
 rcases h.2 with ⟨e,h0⟩ | ⟨g,cap,cur,e,h1,h2,h3,h4,h5,h6⟩
 ·cases e; left; exact ⟨by congr; omega,by omega⟩
 ·cases e
  right
  refine ⟨g,c,cur,rfl,h1,h2,by omega,h4,h5,?_⟩
  have e2:vals (xs.take m) = (vals xs).take m:=by simp [vals]
  rw [e2,← h6,List.take_take]
  congr 1; omega
theorem Ow.made (w:World) (n:Nat) (hn:n ≤ 70368744177600):Ow (w.alloc (.cells (madeCells #[.int .u32 0] n) 84)) w.heap.size (some ⟨w.heap.size,0,none⟩) n n (List.replicate n 0):=by
 have:=World.ownsRow_lit (base:=w.heap.size) (e:=84) (size:=1) w (madeCells #[.int .u32 0] n) n (Nat.le_refl _) (by unfold maxLen; omega) (by simp [madeCells])
 rw [toList_madeCells_one] at this
 have e:vals (List.replicate n 0) = List.replicate n (.int .u32 0):=by simp [vals]
 unfold Ow
 rw [e]
 exact this

theorem TrimAt.limbs {xs:List Nat} {m:Nat} (h:TrimAt xs m) (ok:Ok xs):xs.take m = limbs (val xs):=(h.rep ok).eq
theorem limbs_ok (v:Nat):Ok (limbs v):=(limbs_rep v).ok
theorem limbs_norm (v:Nat):Norm (limbs v):=(limbs_rep v).norm
theorem limbs_v (v:Nat):val (limbs v) = v:=(limbs_rep v).val
theorem limbs_len {v j:Nat} (hv:v < 4294967296 ^ j):(limbs v).length ≤ j:=by
 rcases Nat.lt_or_ge j (limbs v).length with k | k
 ·exfalso
  have hz:limbs v ≠ []:=by intro e; rw [e] at k; simp at k
  have h1:=val_ge_of_norm (limbs_norm v) hz
  rw [limbs_v] at h1
  have h2:4294967296 ^ j ≤ 4294967296 ^ ((limbs v).length - 1):=Nat.pow_le_pow_right (by decide) (by omega)
  omega
 ·exact k
theorem limbs_lt (v:Nat):v < 4294967296 ^ (limbs v).length:=by have:=val_lt (limbs_ok v); rwa [limbs_v] at this
theorem limbs_eq_nil {v:Nat}:limbs v = [] ↔ v = 0:=by
 constructor
 ·intro h; have:=limbs_v v; rw [h] at this; exact this.symm
 ·rintro rfl; rfl
def bitN (v i:Nat):Nat:=v / 2 ^ i % 2
theorem bitN_lt (v i:Nat):bitN v i < 2:=Nat.mod_lt _ (by decide)

theorem bit_limb {xs:List Nat} (ox:Ok xs) {i l s:Nat} (hl:i / 32 = l) (hs:i % 32 = s):bitN (val xs) i = xs.getD l 0 / 2 ^ s % 2:=by
 have hi:i = 32 * l + s:=by omega
 have hs32:s < 32:=by omega
 have hp:=pow_split hs32
 have hpos:=(pow_s hs32).1
 have e3:=val_drop ox l
 have e1:=val_drop_step xs l
 unfold bitN
 rw [hi,Nat.pow_add,← pow_limb,← Nat.div_div_eq_div_mul,← e3,e1]
 generalize xs.getD l 0 = x
 generalize val (xs.drop (l + 1)) = r
 have e4:x + 4294967296 * r = x + 2 ^ s * (2 * (2 ^ (31 - s) * r)):=by
  have:2 ^ s * (2 * (2 ^ (31 - s) * r)) = 4294967296 * r:=by
   rw [← hp,show 32 - s = 31 - s + 1 from by omega,Nat.pow_succ,Nat.mul_comm (2 ^ (31 - s)) 2,← Nat.mul_assoc 2,Nat.mul_assoc (2 ^ s)]
  omega
 rw [e4,Nat.add_mul_div_left _ _ (by omega),Nat.add_mul_mod_self_left]

theorem and_one (y:Nat) (hy:y < 4294967296):bits .and .u32 (y:Int) 1 = ((y % 2:Nat):Int):=by
 have:=u32_and_nat y 1 hy (by decide)
 rw [Nat.and_one_is_mod] at this
 exact this

theorem shr_lt {x s:Nat} (hx:x < 4294967296):x / 2 ^ s < 4294967296:=Nat.lt_of_le_of_lt (Nat.div_le_self _ _) hx
section
variable {P:Program} {w:World}
end

theorem Sl.news {w:World} {a:Option Addr} {n c:Nat} {xs:List Nat} (h:Sl w a n c xs):∀ ad,a = some ad → ∀ j u,(vals xs)[j]? = some u → w.cell? (ad.add j) = some u:=by
 intro ad had j u hu
 have hj:j < xs.length:=by
  have:=(List.getElem?_eq_some_iff.1 hu).1
  simpa [vals] using this
 have hne:xs ≠ []:=by intro e; rw [e] at hj; simp at hj
 obtain ⟨b,off,e,hc⟩:=h.cells.resolve_left hne
 rw [e] at had
 cases had
 have e2:(⟨b,off,none⟩:Addr).add j = ⟨b,off + j,none⟩:=by unfold Addr.add; split <;> simp_all
 rw [e2,hc j hj,← hu]
 simp [vals,List.getD,hj]

structure TakR (wr w:World) (B g n cp:Nat) (xs:List Nat) (s t:Nat) (k c:Nat) (zs:List Nat):Prop where
 len:zs.length = k
 ok:Ok zs
 cle:c ≤ 1
 own:Ow wr B (some ⟨g,0,none⟩) n cp (zs ++ xs.drop k)
 val:val zs + t = s + 4294967296 ^ k * c
 chg:Chg (fun j => AtB (some ⟨g,0,none⟩) j) w wr

theorem set_mid {zs xs:List Nat} {k n:Nat} (hz:zs.length = k) (hx:xs.length = n) (hk:k < n) (v:Nat):(zs ++ xs.drop k).set k v = (zs ++ [v]) ++ xs.drop (k + 1):=by
 rw [drop_cons (by omega),List.set_append_right k v (by omega),hz,Nat.sub_self]
 simp
theorem TakR.step {wr w:World} {B g n cp:Nat} {xs:List Nat} {s t k c:Nat} {zs:List Nat} (h:TakR wr w B g n cp xs s t k c zs) (hl:xs.length = n) (hk:k < n) (x y:Nat) (hx:x < 4294967296) (hy:y < 4294967296) :
  TakR (wr.setCell ⟨g,k,none⟩ (.int .u32 (lim x y c:Nat))) w B g n cp xs (s + 4294967296 ^ k * x) (t + 4294967296 ^ k * y) (k + 1) (bor x (y + c)) (zs ++ [lim x y c]):=by
 refine ⟨by simp [h.len],?_,bor_le _ _,?_,?_,h.chg.trans (.of_set _ _ _ _ atB_some)⟩
 ·intro z hz
  rcases List.mem_append.1 hz with hz | hz
  ·exact h.ok z hz
  ·simp at hz; subst hz; exact lim_lt _ _ _
 ·have:=h.own.set k (lim x y c)
  rw [set_mid h.len hl hk] at this
  exact this
 ·rw [val_append,h.len]
  simp only [Go.Proofs.YtpbcnkcnjnefiaaGreatDoor.val,Nat.mul_zero,Nat.add_zero]
  rw [Nat.pow_succ]
  exact minus_arith h.val (lim_eq x y c hx hy h.cle)

theorem TakR.fin {wr w:World} {B g n cp:Nat} {xs ys:List Nat} {k c:Nat} {zs:List Nat} (h:TakR wr w B g n cp xs (valF (fun i => xs.getD i 0) k) (valF (fun i => ys.getD i 0) k) k c zs) (hl:xs.length = n) (hk:k = n) (h2:ys.length ≤ n) (hle:Go.Proofs.YtpbcnkcnjnefiaaGreatDoor.val ys ≤ Go.Proofs.YtpbcnkcnjnefiaaGreatDoor.val xs) :
  Ow wr B (some ⟨g,0,none⟩) n cp zs ∧ Go.Proofs.YtpbcnkcnjnefiaaGreatDoor.val zs = Go.Proofs.YtpbcnkcnjnefiaaGreatDoor.val xs - Go.Proofs.YtpbcnkcnjnefiaaGreatDoor.val ys:=by
 subst hk
 have ho:=h.own
 rw [List.drop_eq_nil_of_le (by omega),List.append_nil] at ho
 refine ⟨ho,?_⟩
 have hv:=h.val
 rw [valF_ge ys k h2,valF_ge xs k (by omega)] at hv
 have hb:=val_lt h.ok
 rw [h.len] at hb
 have hc:=h.cle
 have hc0:c = 0:=by
  rcases Nat.lt_or_ge c 1 with h0 | h0
  ·omega
  ·have:c = 1:=by omega
   subst this
   rw [Nat.mul_one] at hv
   omega
 subst hc0
 rw [Nat.mul_zero] at hv
 omega
structure ShrR (wr w:World) (bq n:Nat) (xs:List Nat) (d k r:Nat) (g:Nat → Nat):Prop where
 fn:Fn wr bq 0 n g
 ok:∀ i,i < n → g i < 4294967296
 rlt:r < d
 val:valF (fun i => xs.getD (k + i) 0) (n - k) = valF (fun i => g (k + i)) (n - k) * d + r
 bel:Below w.heap.size w wr

theorem ShrR.step {wr w:World} {bq n:Nat} {xs:List Nat} {d k r:Nat} {g:Nat → Nat} (h:ShrR wr w bq n xs d (k + 1) r g) (ox:Ok xs) (hk:k < n) (hb:w.heap.size ≤ bq) :
  ShrR (wr.setCell ⟨bq,k,none⟩ (.int .u32 (dv (xs.getD k 0) r / d:Nat))) w bq n xs d k (dv (xs.getD k 0) r % d) (fun i => if i = k then dv (xs.getD k 0) r / d else g i):=by
 have hq:=dv_div_lt (ox.getD k) h.rlt
 have hs:=h.fn.set k (dv (xs.getD k 0) r / d) hk
 rw [Nat.zero_add] at hs
 refine ⟨hs,?_,Nat.mod_lt _ (by have:=h.rlt; omega),?_,h.bel.setCell hb _⟩
 ·intro i hi
  by_cases e:i = k
  ·simp only [e,if_true]; exact hq
  ·simp only [e,if_false]; exact h.ok i hi
 ·rw [valF_head (fun i => xs.getD i 0) k n hk,valF_head (fun i => if i = k then dv (xs.getD k 0) r / d else g i) k n hk]
  simp only [if_true]
  have e0:valF (fun i => if k + 1 + i = k then dv (xs.getD k 0) r / d else g (k + 1 + i)) (n - (k + 1)) = valF (fun i => g (k + 1 + i)) (n - (k + 1)):=valF_congr (fun i _ => by rw [if_neg (by omega)])
  rw [e0]
  refine dl_arith h.val ?_
  have:=Nat.div_add_mod (dv (xs.getD k 0) r) d
  unfold dv at *
  omega

structure RaR (wr w:World) (L s t:Nat) (v:Value) (k c:Nat) (zs:List Nat):Prop where
 len:zs.length = L + k
 ok:Ok zs
 clt:c < 2 ^ s
 own:wr.ownsRow w.heap.size 84 1 v (L + k) (vals zs)
 val:val zs + 4294967296 ^ (L + k) * c = 4294967296 ^ L * (t * 2 ^ s)
 bel:Below w.heap.size w wr

theorem RaR.step {wr w w1:World} {L s t:Nat} {v v':Value} {k c:Nat} {zs:List Nat} {o:Obj} (h:RaR wr w L s t v k c zs) (y:Nat) (hy:y < 4294967296) (hs:s < 32)
  (hown:w1.ownsRow w.heap.size 84 1 v' (L + k + 1) (vals zs ++ [.int .u32 ((y * 2 ^ s + c) % 4294967296:Nat)])) (hg:(wr.alloc o).grownBy w1 v.ownBlock) :
  RaR w1 w L s (t + 4294967296 ^ k * y) v' (k + 1) ((y * 2 ^ s + c) / 4294967296) (zs ++ [(y * 2 ^ s + c) % 4294967296]):=by
 have hz:=h.bel.size
 have hp:=pow_s hs
 refine ⟨by simp [h.len]; omega,?_,?_,by simpa [vals,Nat.add_assoc] using hown,?_,Below.grown (h.bel.alloc (by omega) o) hg (by simp; omega) (fun k hk => (own_ge h.own k hk).1)⟩
 ·intro z hz
  rcases List.mem_append.1 hz with hz | hz
  ·exact h.ok z hz
  ·simp at hz; subst hz; omega
 ·have hc:=h.clt
  rw [Nat.div_lt_iff_lt_mul (by decide)]
  have:(y + 1) * 2 ^ s ≤ 4294967296 * 2 ^ s:=Nat.mul_le_mul_right _ hy
  rw [Nat.add_mul,Nat.one_mul] at this
  rw [Nat.mul_comm (2 ^ s)]
  omega
 ·rw [val_append,h.len]
  simp only [Go.Proofs.YtpbcnkcnjnefiaaGreatDoor.val,Nat.mul_zero,Nat.add_zero]
  have e:=Nat.div_add_mod (y * 2 ^ s + c) 4294967296
  rw [show L + (k + 1) = L + k + 1 from rfl,Nat.pow_succ]
  have h1:4294967296 ^ (L + k) * ((y * 2 ^ s + c) % 4294967296) + 4294967296 ^ (L + k) * 4294967296 * ((y * 2 ^ s + c) / 4294967296) = 4294967296 ^ (L + k) * (y * 2 ^ s) + 4294967296 ^ (L + k) * c:=by
   rw [Nat.mul_assoc,← Nat.mul_add,Nat.add_comm ((y * 2 ^ s + c) % 4294967296),e,Nat.mul_add]
  have h2:4294967296 ^ L * ((t + 4294967296 ^ k * y) * 2 ^ s) = 4294967296 ^ L * (t * 2 ^ s) + 4294967296 ^ (L + k) * (y * 2 ^ s):=by
   rw [Nat.add_mul,Nat.mul_add,Nat.pow_add,Nat.mul_assoc,Nat.mul_assoc]
  have:=h.val
  omega
structure DgO (wr w:World) (V:Nat) (v:Value) (k:Nat):Prop where
 own:wr.ownsRow w.heap.size 5 1 v k (valsB (lst (fun p => chrN (dgt V 10 p)) k))
 top:k = 0 ∨ 0 < V / 10 ^ (k - 1)
 bel:Below w.heap.size w wr
theorem DgO.below {wr w w':World} {V:Nat} {v:Value} {k:Nat} (h:DgO wr w V v k) (b:Below wr.heap.size wr w'):DgO w' w V v k :=
 ⟨ownsRow_below h.own b,h.top,h.bel.trans (b.mono h.bel.size)⟩
theorem DgO.step {wr w w1:World} {V:Nat} {v v':Value} {k:Nat} {o:Obj} (h:DgO wr w V v k) (hp:0 < V / 10 ^ k)
  (hown:w1.ownsRow w.heap.size 5 1 v' (k + 1) (valsB (lst (fun p => chrN (dgt V 10 p)) k) ++ [.int .u8 (chrN (dgt V 10 k):Nat)])) (hg:(wr.alloc o).grownBy w1 v.ownBlock):DgO w1 w V v' (k + 1):=by
 have hz:=h.bel.size
 refine ⟨?_,.inr (by simpa using hp),Below.grown (h.bel.alloc (by omega) o) hg (by simp; omega) (fun k hk => (own_ge h.own k hk).1)⟩
 have e:valsB (lst (fun p => chrN (dgt V 10 p)) k) ++ [.int .u8 (chrN (dgt V 10 k):Nat)] = valsB (lst (fun p => chrN (dgt V 10 p)) (k + 1)):=by
  unfold valsB
  simp only [lst,List.range_succ,List.map_append,List.map_cons,List.map_nil]
 rw [e] at hown
 exact hown
theorem DgO.done {wr w:World} {V:Nat} {v:Value} {k:Nat} (h:DgO wr w V v k) (hV:0 < V) (hq:V / 10 ^ k = 0):TxtOf V 10 k:=by
 have hp:0 < 10 ^ k:=Nat.pow_pos (by decide)
 have h1:V < 10 ^ k:=by
  rcases Nat.lt_or_ge V (10 ^ k) with e | e
  ·exact e
  ·have:=Nat.div_pos e hp
   omega
 rcases h.top with e | e
 ·subst e; simp at h1; omega
 ·have h2:10 ^ (k - 1) ≤ V:=by
   rcases Nat.lt_or_ge V (10 ^ (k - 1)) with g | g
   ·rw [Nat.div_eq_of_lt g] at e; omega
   ·exact g
  refine ⟨?_,h1,.inr h2⟩
  rcases Nat.eq_zero_or_pos k with g | g
  ·subst g; simp at h1; omega
  ·exact g
theorem DgO.len {wr w:World} {V:Nat} {v:Value} {k n:Nat} (h:DgO wr w V v k) (hV:V < 2 ^ (32 * n)):k ≤ 32 * n:=by
 rcases h.top with e | e
 ·omega
 ·rcases Nat.eq_zero_or_pos k with g | g
  ·omega
  have h2:10 ^ (k - 1) ≤ V:=by
   rcases Nat.lt_or_ge V (10 ^ (k - 1)) with g | g
   ·rw [Nat.div_eq_of_lt g] at e; omega
   ·exact g
  have h3:2 ^ (k - 1) ≤ 10 ^ (k - 1):=Nat.pow_le_pow_left (by decide) _
  have:=(Nat.pow_lt_pow_iff_right (by decide:1 < 2)).1 (show 2 ^ (k - 1) < 2 ^ (32 * n) by omega)
  omega
def FarB (v:Value) (a:Option Addr) (xs:List Nat):Prop:=∀ x,a = some x → xs ≠ [] → v.ownBlock ≠ some x.block
theorem FarB.step {w w1:World} {v:Value} {a:Option Addr} {m c g k2 c2:Nat} {xs:List Nat} {o:Obj} (h:FarB v a xs) (hs:Sl w a m c xs) (hg:(w.alloc o).grownBy w1 v.ownBlock) (hat:v.ownBlock = some g ∨ g = w.heap.size + 1):Sl w1 a m c xs ∧ FarB (.slice (some ⟨g,0,none⟩) k2 c2) a xs:=by
 have hs1:Sl (w.alloc o) a m c xs:=hs.below ((Below.refl _ _).alloc (Nat.le_refl _) o)
 refine ⟨hs1.chg (S:=fun k => v.ownBlock = some k) (Chg.of_grown hg (fun k hk => hk)) (fun x hx hne => h x hx hne),?_⟩
 intro x hx hne e
 simp [Value.ownBlock] at e
 rcases hat with h1 | h1
 ·exact h x hx hne (by rw [h1,e])
 ·have:=hs.block_lt hne x hx
  omega
theorem strB_data (xs:List Nat):(strB xs).data = (xs.map fun x => UInt8.ofNat x).toArray:=by
 unfold strB strOfNums
 simp [List.map_map,Function.comp_def]
theorem strB_app (xs ys:List Nat):strB (xs ++ ys) = strB xs ++ strB ys:=by
 apply ByteArray.ext
 rw [ByteArray.data_append,strB_data,strB_data,strB_data]
 simp
theorem strB_front (xs ys:List Nat) {n:Nat} (h:xs.length = n):(strB (xs ++ ys)).extract 0 n = strB xs:=by
 apply ByteArray.ext
 rw [ByteArray.data_extract,strB_data,strB_data]
 subst h
 simp
theorem strB_back (xs ys:List Nat) {n m:Nat} (h:xs.length = n) (hm:n + ys.length = m):(strB (xs ++ ys)).extract n m = strB ys:=by
 apply ByteArray.ext
 rw [ByteArray.data_extract,strB_data,strB_data]
 subst h
 subst hm
 simp
 exact List.take_of_length_le (by simp)
theorem txtL_len (V b n:Nat):(txtL V b n).length = n:=lst_len _ _
theorem TxtOf.up {N L k M:Nat} (h:TxtOf N 10 L) (hM:M = max L (k + 1)):TxtOf (N / 10 ^ k) 10 (M - k):=by
 have hp:0 < 10 ^ k:=Nat.pow_pos (by decide)
 have hlt:N < 10 ^ M:=Nat.lt_of_lt_of_le h.lt (Nat.pow_le_pow_right (by decide) (by omega))
 refine ⟨by omega,?_,?_⟩
 ·rw [Nat.div_lt_iff_lt_mul hp,← Nat.pow_add,show M - k + k = M by omega]
  exact hlt
 ·rcases h.ge with e | e
  ·left; omega
  ·by_cases hl:L ≤ k + 1
   ·left; omega
   ·right
    rw [Nat.le_div_iff_mul_le hp,← Nat.pow_add]
    have e2:M - k - 1 + k = L - 1:=by omega
    rw [e2]
    exact e
set_option maxHeartbeats 4000000 in
theorem slHasPrefix_any (s:ByteArray) (b:Bool) (w:World) (hb:(decide (1 ≤ s.size) && ((s.extract 0 1).toList == [45])) = b) :
  Calls Tryz.prog 125 #[.string s,.string ⟨#[45]⟩] w fun e w' => e = .returned (.bool b) ∧ w' = w:=by
 by_cases h:1 ≤ s.size
 ·have h':(1:Int) ≤ (s.size:Int):=by omega
  have hc:((s.extract 0 1).toList == [45]) = b:=by
   rw [← hb]
   simp [h]
  clear hb
  generalize hx:s.extract 0 1 = x at *
  go_enter Tryz.func125,Tryz.ntmps125
  go_wp2_with fail
  go_ret
  exact ⟨rfl,rfl⟩
 ·have h':¬ (1:Int) ≤ (s.size:Int):=by omega
  obtain rfl:b = false:=by rw [← hb]; simp [h]
  clear hb
  go_enter Tryz.func125,Tryz.ntmps125
  go_wp2_with fail
  go_ret
  exact ⟨rfl,rfl⟩
set_option maxHeartbeats 4000000 in
theorem hasPrefix_any (s:ByteArray) (b:Bool) (w:World) (hb:(decide (1 ≤ s.size) && ((s.extract 0 1).toList == [45])) = b) :
  Calls Tryz.prog 73 #[.string s,.string ⟨#[45]⟩] w fun e w' => e = .returned (.bool b) ∧ w' = w:=by
 have HK:=Hd (slHasPrefix_any s b w hb)
 clear hb
 go_enter Tryz.func73,Tryz.ntmps73
 go_wp2_with fail
 refine (Uh HK).mono ?_
 rintro _ _ ⟨rfl,hw⟩
 obtain rfl:=hw.symm
 clear hw
 go_wp2_with fail
 go_ret
 exact ⟨rfl,rfl⟩
set_option maxHeartbeats 4000000 in
theorem trimPrefix_yes (s:ByteArray) (w:World) (hs:s.size ≤ 65536) (h1:1 ≤ s.size) (hc:((s.extract 0 1).toList == [45]) = true) :
  Calls Tryz.prog 65 #[.string s,.string ⟨#[45]⟩] w fun e w' => e = .returned (.string (s.extract 1 s.size)) ∧ w' = w:=by
 have HK:=Hd (slHasPrefix_any s true w (by simp [h1,hc]))
 clear hc
 have HI:=Hd (show Calls Tryz.prog 120 #[.string s,.string ⟨#[45]⟩] w fun e w' => e = .returned (.string (s.extract 1 s.size)) ∧ w' = w from by
  have h1':(1:Int) ≤ (s.size:Int):=by omega
  go_enter Tryz.func120,Tryz.ntmps120
  go_wp2_with fail
  refine (Uh HK).mono ?_
  rintro _ _ ⟨rfl,hw⟩
  obtain rfl:=hw.symm
  clear hw
  go_wp2_with fail
  go_ret
  exact ⟨rfl,rfl⟩)
 go_enter Tryz.func65,Tryz.ntmps65
 go_wp2_with fail
 refine (Uh HI).mono ?_
 rintro _ _ ⟨rfl,hw⟩
 obtain rfl:=hw.symm
 clear hw
 go_wp2_with fail
 go_ret
 exact ⟨rfl,rfl⟩
set_option maxHeartbeats 4000000 in
theorem trimPrefix_no (s:ByteArray) (w:World) (hb:(decide (1 ≤ s.size) && ((s.extract 0 1).toList == [45])) = false) :
  Calls Tryz.prog 65 #[.string s,.string ⟨#[45]⟩] w fun e w' => e = .returned (.string s) ∧ w' = w:=by
 have HK:=Hd (slHasPrefix_any s false w hb)
 clear hb
 have HI:=Hd (show Calls Tryz.prog 120 #[.string s,.string ⟨#[45]⟩] w fun e w' => e = .returned (.string s) ∧ w' = w from by
  go_enter Tryz.func120,Tryz.ntmps120
  go_wp2_with fail
  refine (Uh HK).mono ?_
  rintro _ _ ⟨rfl,hw⟩
  obtain rfl:=hw.symm
  clear hw
  go_wp2_with fail
  go_ret
  exact ⟨rfl,rfl⟩)
 go_enter Tryz.func65,Tryz.ntmps65
 go_wp2_with fail
 refine (Uh HI).mono ?_
 rintro _ _ ⟨rfl,hw⟩
 obtain rfl:=hw.symm
 clear hw
 go_wp2_with fail
 go_ret
 exact ⟨rfl,rfl⟩
def Nz (s:ByteArray):Prop:=∃ i,i < s.size ∧ byA s i ≠ 48
theorem byA_ext {s:ByteArray} {a b i:Nat} (h:i < b - a) (hb:b ≤ s.size):byA (s.extract a b) i = byA s (a + i):=by
 unfold byA
 have h1:(s.extract a b).get! i = s.get! (a + i):=by
  show (s.extract a b).data[i]! = s.data[a + i]!
  have hs:s.data.size = s.size:=rfl
  rw [getElem!_pos _ _ (by rw [ByteArray.data_extract]; simp; omega),getElem!_pos _ _ (by omega)]
  simp [ByteArray.data_extract]
 rw [h1]
set_option maxHeartbeats 4000000 in
theorem trimRight_any (s:ByteArray) (w:World) (hs:s.size ≤ 65536) (hn:Nz s) :
  Calls Tryz.prog 67 #[.string s,.int .u8 48] w fun e w' => ∃ r,e = .returned (.string r) ∧ Nz r ∧ r.size ≤ 65536 ∧ w' = w:=by
 go_enter Tryz.func67,Tryz.ntmps67
 go_wp2_with fail
 go_loop [0] (fun sv => ∃ r,sv = .string r ∧ Hid (Nz r) ∧ r.size ≤ 65536) (fun sv => match sv with | .string r => r.size | _ => 0)
 case atStart => exact ⟨s,rfl,hn,hs⟩
 case round =>
  obtain ⟨r,rfl,HN,hr⟩:=hrel
  obtain ⟨i,hi,hne⟩:=Uh HN
  have h0:(0:Int) < (r.size:Int):=by omega
  obtain ⟨k,hk⟩:∃ k,k = r.size - 1:=⟨_,rfl⟩
  have tk:(r.size:Int) - 1 = (k:Int):=by omega
  have hlt:k < r.size:=by omega
  have hlt':(k:Int) < (r.size:Int):=by omega
  have hle':(k:Int) ≤ (r.size:Int):=by omega
  have hg:=byA_get r k hlt
  by_cases hc:byA r k = 48
  ·have hv:((r[k]'hlt).toNat:Int) = 48:=by rw [hg,hc]; rfl
   have hik:i < k:=by
    rcases Nat.lt_or_ge i k with e | e
    ·exact e
    ·exfalso
     have:i = k:=by omega
     rw [this] at hne
     exact hne hc
   have HN2:=Hd (show Nz (r.extract 0 k) ∧ (r.extract 0 k).size = k from ⟨⟨i,by simp [ByteArray.size_extract]; omega,by rw [byA_ext (by omega) (by omega),Nat.zero_add]; exact hne⟩,by simp [ByteArray.size_extract]; omega⟩)
   clear HN hc hg hne hk
   go_wp2_with fail
   exact ⟨⟨_,rfl,(Uh HN2).1,by rw [(Uh HN2).2]; omega⟩,by show (r.extract 0 k).size < r.size; rw [(Uh HN2).2]; omega⟩
  ·have hv:(((r[k]'hlt).toNat:Int) == 48) = false:=by rw [hg]; simp; omega
   clear hc hg hne hk
   go_wp2_with fail
   go_ret
   exact ⟨r,rfl,Uh HN,hr,rfl⟩
set_option maxHeartbeats 4000000 in
theorem trimLeft_any (s:ByteArray) (w:World) (hs:s.size ≤ 65536) (hn:Nz s) :
  Calls Tryz.prog 66 #[.string s,.int .u8 48] w fun e w' => ∃ r,e = .returned (.string r) ∧ Nz r ∧ w' = w:=by
 go_enter Tryz.func66,Tryz.ntmps66
 go_wp2_with fail
 go_loop [0] (fun sv => ∃ r,sv = .string r ∧ Hid (Nz r) ∧ r.size ≤ 65536) (fun sv => match sv with | .string r => r.size | _ => 0)
 case atStart => exact ⟨s,rfl,hn,hs⟩
 case round =>
  obtain ⟨r,rfl,HN,hr⟩:=hrel
  obtain ⟨i,hi,hne⟩:=Uh HN
  have h0:(0:Int) < (r.size:Int):=by omega
  have h1:(1:Int) ≤ (r.size:Int):=by omega
  have hlt:0 < r.size:=by omega
  have hg:=byA_get r 0 hlt
  by_cases hc:byA r 0 = 48
  ·have hv:((r[0]'hlt).toNat:Int) = 48:=by rw [hg,hc]; rfl
   have hik:0 < i:=by
    rcases Nat.eq_zero_or_pos i with e | e
    ·rw [e] at hne; exact absurd hc hne
    ·exact e
   have HN2:=Hd (show Nz (r.extract 1 r.size) ∧ (r.extract 1 r.size).size = r.size - 1 from ⟨⟨i - 1,by simp [ByteArray.size_extract]; omega,by rw [byA_ext (by omega) (by omega),show 1 + (i - 1) = i by omega]; exact hne⟩,by simp [ByteArray.size_extract]⟩)
   clear HN hc hg hne
   go_wp2_with fail
   exact ⟨⟨_,rfl,(Uh HN2).1,by rw [(Uh HN2).2]; omega⟩,by show (r.extract 1 r.size).size < r.size; rw [(Uh HN2).2]; omega⟩
  ·have hv:(((r[0]'hlt).toNat:Int) == 48) = false:=by rw [hg]; simp; omega
   clear hc hg hne
   go_wp2_with fail
   go_ret
   exact ⟨r,rfl,Uh HN,rfl⟩
set_option maxRecDepth 100000 in
set_option maxHeartbeats 4000000 in
theorem strTrim_any (s:ByteArray) (w:World) (hs:s.size ≤ 65536) (hn:Nz s) :
  Calls Tryz.prog 32 #[.string s,.string ⟨#[48]⟩] w fun e w' => ∃ r,e = .returned (.string r) ∧ Nz r ∧ Below w.heap.size w w':=by
 have he:(s.toList == []) = false:=by
  obtain ⟨i,hi,_⟩:=hn
  rw [Lib.toList_data]
  have h1:s.data.toList.length = s.size:=Array.length_toList
  have:s.data.toList ≠ []:=fun e => by
   rw [e] at h1
   simp at h1
   omega
  simpa using this
 have hz:¬ s.size = 0:=by obtain ⟨i,hi,_⟩:=hn; omega
 have HR:=Hd (fun (W:World) => trimRight_any s W hs hn)
 have HL:=Hd (fun (W:World) (r:ByteArray) (h:r.size ≤ 65536) (n:Nz r) => trimLeft_any r W h n)
 clear hn
 go_enter Tryz.func32,Tryz.ntmps32
 go_wp2_with fail
 go_region_held3 (fun w' => Below w.heap.size w w') (first | go_keep | (exact hk1) | (exact hk0) | (exact (Below.refl _ _).drew))
  (first
   | (go_at_call 67; refine (Uh HR _).mono ?_; rintro _ wq ⟨r,rfl,hn,hr,hw⟩; obtain rfl:=hw; have hk0:Below w.heap.size w w.drew:=(Below.refl _ _).drew; have HK:=Hd (fun (W:World) => Uh HL W r hr hn); clear hn hr)
   | (go_at_call 66; refine (Uh HK _).mono ?_; rintro _ wz ⟨q,rfl,hn2,hw2⟩; obtain rfl:=hw2; have hk1:Below w.heap.size w w.drew:=(Below.refl _ _).drew; have HN:=Hd hn2; clear hn2))
 all_goals (try go_wp2_with fail)
 all_goals (go_ret; exact ⟨q,rfl,Uh HN,(Below.refl _ _).drew⟩)

def digitN (c:Nat):Nat:=if 48 ≤ c ∧ c ≤ 57 then c - 48 else if 97 ≤ c ∧ c ≤ 122 then c - 97 + 10 else if 65 ≤ c ∧ c ≤ 90 then c - 65 + 10 else 36
theorem digitN_le (c:Nat):digitN c ≤ 36:=by
 unfold digitN
 split
 ·omega
 ·split
  ·omega
  ·split <;> omega
theorem digit_ways (c:Nat):(c < 48 ∧ digitN c = 36) ∨ (48 ≤ c ∧ c ≤ 57 ∧ (digitN c:Int) = c - 48) ∨ (57 < c ∧ c < 65 ∧ digitN c = 36) ∨ (65 ≤ c ∧ c ≤ 90 ∧ (digitN c:Int) = c - 65 + 10) ∨ (90 < c ∧ c < 97 ∧ digitN c = 36) ∨ (97 ≤ c ∧ c ≤ 122 ∧ (digitN c:Int) = c - 97 + 10) ∨ (122 < c ∧ digitN c = 36):=by
 unfold digitN
 split
 ·right; left; omega
 ·split
  ·right; right; right; right; right; left; omega
  ·split
   ·right; right; right; left; omega
   ·omega

set_option maxHeartbeats 4000000 in
theorem ndigit_any (c:Nat) (hc:c < 256) (w:World) :
  Calls Tryz.prog 170 #[.int .u8 (c:Nat)] w fun e w' => e = .returned (.int .i64 (digitN c:Nat)) ∧ w' = w:=by
 have HW:=digit_ways c
 generalize digitN c = D at HW ⊢
 rcases HW with ⟨h1,rfl⟩ | ⟨h1,h2,h3⟩ | ⟨h1,h2,rfl⟩ | ⟨h1,h2,h3⟩ | ⟨h1,h2,rfl⟩ | ⟨h1,h2,h3⟩ | ⟨h1,rfl⟩
 ·have a1:(c:Int) < 48:=by omega
  clear h1
  go_enter Tryz.func170,Tryz.ntmps170
  go_wp2_with fail
  go_ret
  exact ⟨rfl,rfl⟩
 ·have a1:48 ≤ (c:Int):=by omega
  have a2:(c:Int) ≤ 57:=by omega
  have H3:=Hd h3
  clear h1 h2 h3
  go_enter Tryz.func170,Tryz.ntmps170
  go_wp2_with fail
  go_ret
  exact ⟨by rw [Uh H3]; rfl,rfl⟩
 ·have a1:57 < (c:Int):=by omega
  have a2:(c:Int) < 65:=by omega
  clear h1 h2
  go_enter Tryz.func170,Tryz.ntmps170
  go_wp2_with fail
  go_ret
  exact ⟨rfl,rfl⟩
 ·have a1:65 ≤ (c:Int):=by omega
  have a2:(c:Int) ≤ 90:=by omega
  have H3:=Hd h3
  clear h1 h2 h3
  go_enter Tryz.func170,Tryz.ntmps170
  go_wp2_with fail
  go_ret
  exact ⟨by rw [Uh H3]; rfl,rfl⟩
 ·have a1:90 < (c:Int):=by omega
  have a2:(c:Int) < 97:=by omega
  clear h1 h2
  go_enter Tryz.func170,Tryz.ntmps170
  go_wp2_with fail
  go_ret
  exact ⟨rfl,rfl⟩
 ·have a1:97 ≤ (c:Int):=by omega
  have a2:(c:Int) ≤ 122:=by omega
  have H3:=Hd h3
  clear h1 h2 h3
  go_enter Tryz.func170,Tryz.ntmps170
  go_wp2_with fail
  go_ret
  exact ⟨by rw [Uh H3]; rfl,rfl⟩
 ·have a1:122 < (c:Int):=by omega
  clear h1
  go_enter Tryz.func170,Tryz.ntmps170
  go_wp2_with fail
  go_ret
  exact ⟨rfl,rfl⟩

open Go.RowKit Go.Deep
set_option linter.unusedVariables false

structure Chunk (b c:Nat):Prop where
 pos:1 ≤ c
 le:c ≤ 31
 lt:b ^ c < 4294967296
 ge:4294967296 ≤ b ^ c * b

def ChPost (b:Nat) (w:World) (e:Ending) (w':World):Prop :=
 ∃ c,Chunk b c ∧ e = .returned (.tuple #[.int .i64 (c:Nat),.int .u32 (b ^ c:Nat)]) ∧ w' = w

theorem chunk_le {b c:Nat} (hb:2 ≤ b) (h:b ^ c < 4294967296):c ≤ 31:=by
 have h1:2 ^ c ≤ b ^ c:=Nat.pow_le_pow_left hb c
 have h2:2 ^ c < 2 ^ 32:=Nat.lt_of_le_of_lt h1 h
 have:=(Nat.pow_lt_pow_iff_right (by decide:1 < 2)).1 h2
 omega

set_option maxHeartbeats 4000000 in
theorem chunk_any (b:Nat) (hb:2 ≤ b) (hb2:b ≤ 36) (w:World) :
  Calls Tryz.prog 165 #[.int .i64 (b:Nat)] w fun e w' => ChPost b w e w':=by
 go_enter Tryz.func165,Tryz.ntmps165
 go_wp2_with fail
 go_loop [4,5] (fun cv wv => ∃ c:Nat,1 ≤ c ∧ b ^ c < 4294967296 ∧ cv = .int .i64 (c:Nat) ∧ wv = .int .u64 (b ^ c:Nat)) (fun cv _ => 32 - (intOf cv).toNat)
 case atStart => exact ⟨1,Nat.le_refl _,by simp; omega,rfl,by simp⟩
 case round =>
  obtain ⟨c,hc,hlt,rfl,rfl⟩:=hrel
  have hc31:=chunk_le hb hlt
  have hb36:b ^ c * b ≤ b ^ c * 36:=Nat.mul_le_mul_left _ hb2
  obtain ⟨p,hp⟩:∃ p,b ^ c * b = p:=⟨_,rfl⟩
  have hp1:b ^ (c + 1) = p:=by rw [Nat.pow_succ,hp]
  obtain ⟨W,hW⟩:∃ W,b ^ c = W:=⟨_,rfl⟩
  rw [hW] at hb36 hlt hp
  have e1:(W:Int) * (b:Int) = (p:Int):=by rw [← hp,Int.natCast_mul]
  rw [hp] at hb36
  have hp64:p < 18446744073709551616:=by omega
  have HW:=Hd hW
  have HP:=Hd hp1
  have HQ:=Hd hp
  by_cases hs:p < 4294967296
  ·have q1:(p:Int) / 4294967296 = 0:=by omega
   rw [hW]
   clear hW hp1 hp
   go_wp2_with fail
   exact ⟨⟨c + 1,by omega,by rw [Uh HP]; exact hs,by go_num,by rw [Uh HP]⟩,by simp [intOf]; omega⟩
  ·obtain ⟨q,hq⟩:∃ q,p / 4294967296 = q:=⟨_,rfl⟩
   have q1:(p:Int) / 4294967296 = (q:Int):=by omega
   have q2:((q:Int) == 0) = false:=by simp; omega
   have q3:¬ (q:Int) = 0:=by omega
   rw [hW]
   clear hW hp1 hp hq
   go_wp2_with fail
   go_ret2
   have HR:b ^ c * b = p:=by rw [Uh HW]; exact Uh HQ
   refine ⟨c,⟨hc,hc31,by rw [Uh HW]; exact hlt,by rw [HR]; omega⟩,by rw [Uh HW]; rfl,rfl⟩

set_option maxHeartbeats 4000000 in
theorem isBase_any (b:Int) (w:World) :
  Calls Tryz.prog 117 #[.int .i64 b] w fun e w' => e = .returned (.bool (decide (2 ≤ b ∧ b ≤ 36))) ∧ w' = w:=by
 by_cases h1:2 ≤ b
 ·by_cases h2:b ≤ 36
  ·go_enter Tryz.func117,Tryz.ntmps117
   go_wp2_with fail
   go_ret
   simp [h1,h2]
  ·go_enter Tryz.func117,Tryz.ntmps117
   go_wp2_with fail
   go_ret
   simp; omega
 ·go_enter Tryz.func117,Tryz.ntmps117
  go_wp2_with fail
  go_ret
  simp; omega
end Go.Proofs.YtpbcnkcnjnefiaaGreatDoor
