/- By1 -/
import Derived.Test.YtmnlhnmlgncedaaGreatDoorShl
import Derived.Test.YtmnlhnmlgncedaaGreatDoorDv2
import Derived.Test.YtmnlhnmlgncedaaGreatDoorMul
import Derived.Laws.BytesArg
import Derived.Test.YtmnlhnmlgncedaaGreatDoorUpd
import Derived.Test.YtmnlhnmlgncedaaGreatDoorCmp
import Derived.Deep.LoopGhost
namespace Go.Proofs.YtmnlhnmlgncedaaGreatDoor
open Go.RowKit Go.Deep
set_option linter.unusedVariables false
def FnB (w:World) (b off n:Nat) (f:Nat → Nat):Prop :=
 ∀ i,i < n → w.cell? ⟨b,off + i,none⟩ = some (.int .u8 (f i:Nat)) ∧ w.frozen? ⟨b,off + i,none⟩ = false
theorem FnB.set {w:World} {b off n:Nat} {f:Nat → Nat} (h:FnB w b off n f) (k v:Nat) (hk:k < n) :
  FnB (w.setCell ⟨b,off + k,none⟩ (.int .u8 (v:Nat))) b off n (fun i => if i = k then v else f i):=by
 intro i hi
 refine ⟨?_,by rw [World.frozen?_setCell]; exact (h i hi).2⟩
 by_cases e:i = k
 ·subst e
  rw [World.cell?_setCell_same _ _ _ (h i hi).1]
  simp
 ·rw [World.cell?_setCell_other _ _ _ _ (by intro h; injection h with h1 h2; omega)]
  simp [e,(h i hi).1]
theorem FnB.congr {w:World} {b off n:Nat} {f g:Nat → Nat} (h:FnB w b off n f) (he:∀ i,i < n → f i = g i):FnB w b off n g:=fun i hi => by
 have:=h i hi
 rwa [he i hi] at this
theorem FnB.made (w:World) (n:Nat) (e:TypeId):FnB (w.alloc (.cells (madeCells #[.int .u8 0] n) e)) w.heap.size 0 n (fun _ => 0):=by
 intro i hi
 refine ⟨?_,by simp⟩
 simp [madeCells,hi,Nat.mod_one]

theorem Tryz.info_u8:(Tryz.prog.info? 5).map (fun i => (i.zero,i.size,i.bytes)) = some (some (.int .u8 0),1,1):=by kernel_rfl
theorem own_len {w:World} {base k:Nat} {e:TypeId} {v:Value} {ws:List Value} (h:w.ownsRow base e 1 v k ws):∃ a c,v = .slice a k c:=by
 rcases h.2 with ⟨e,h0⟩ | ⟨g,cap,cur,e,hb,h5,h6,h7,h8,h9⟩
 ·subst e h0
  exact ⟨none,0,rfl⟩
 ·subst e
  exact ⟨_,_,rfl⟩

def MI (N:Nat):Prop:=∀ (w:World) (bz oz nz cz:Nat) (a1:Option Addr) (n1 c1:Nat) (xs:List Nat) (a2:Option Addr) (n2 c2:Nat) (ys:List Nat),n1 + n2 ≤ N → MulPre w bz oz nz cz a1 n1 c1 xs a2 n2 c2 ys →
 Calls Tryz.prog 172 #[.slice (some ⟨bz,oz,none⟩) nz cz,.slice a1 n1 c1,.slice a2 n2 c2] w fun e w' => MulPost w bz oz nz (val xs * val ys) e w'

theorem Fn.below {w w':World} {b off n:Nat} {f:Nat → Nat} (h:Fn w b off n f) (k:Below w.heap.size w w'):Fn w' b off n f:=by
 intro i hi
 have:=h i hi
 have hlt:=World.block_lt_of_cell? _ _ this.1
 exact ⟨(k.cell hlt).trans this.1,(k.frozen hlt).trans this.2⟩

theorem Fn.part {w:World} {b off n:Nat} {f:Nat → Nat} (h:Fn w b off n f) (k m:Nat) (hm:k + m ≤ n):Fn w b (off + k) m (fun i => f (k + i)):=by
 intro i hi
 have:=h (k + i) (by omega)
 rw [← Nat.add_assoc] at this
 exact this

theorem Fn.join {w:World} {b off k m:Nat} {f g:Nat → Nat} (h1:Fn w b off k f) (h2:Fn w b (off + k) m g):Fn w b off (k + m) (fun i => if i < k then f i else g (i - k)):=by
 intro i hi
 by_cases e:i < k
 ·simp only [e,if_true]; exact h1 i e
 ·simp only [e,if_false]
  have:=h2 (i - k) (by omega)
  rw [show off + k + (i - k) = off + i from by omega] at this
  exact this

theorem valF_join (f g:Nat → Nat) (k m:Nat):valF (fun i => if i < k then f i else g (i - k)) (k + m) = valF f k + 4294967296 ^ k * valF g m:=by
 rw [valF_add,valF_congr (g:=f) (fun i hi => by simp [hi]),valF_congr (f:=fun j => if k + j < k then f (k + j) else g (k + j - k)) (g:=g) (fun i hi => by rw [if_neg (by omega),Nat.add_sub_cancel_left])]

theorem rep_len_le {v j:Nat} {zs:List Nat} (h:Rep v zs) (hv:v < 4294967296 ^ j):zs.length ≤ j:=by
 rcases Nat.lt_or_ge j zs.length with hlt | hge
 ·exfalso
  have h1:=val_ge_of_norm h.norm (by intro e; subst e; simp at hlt)
  rw [h.val] at h1
  have h2:4294967296 ^ j ≤ 4294967296 ^ (zs.length - 1):=pow_mono (by omega)
  omega
 ·exact hge

theorem carry_zero {x y P c:Nat} (h:x + P * c = y) (hy:y < P):c = 0 ∧ x = y:=by
 rcases Nat.eq_zero_or_pos c with h0 | h0
 ·subst h0; simp at h; exact ⟨rfl,h⟩
 ·exfalso
  have:P * 1 ≤ P * c:=Nat.mul_le_mul_left _ h0
  omega

structure PieceR (wr w:World) (bz oz nz:Nat) (xs ys:List Nat) (k:Nat) (f:Nat → Nat):Prop where
 fn:Fn wr bz oz nz f
 ok:∀ i,i < nz → f i < 4294967296
 vl:valF f nz = val (xs.take k) * val ys
 upd:Upd bz oz (oz + nz) w wr

theorem take_lt {xs:List Nat} (ox:Ok xs) (t:Nat) (h:t ≤ xs.length):val (xs.take t) < 4294967296 ^ t:=by
 have:=val_lt (ox.take t)
 rwa [List.length_take,Nat.min_eq_left h] at this

theorem take_split (xs:List Nat) (k p:Nat) (h:k + p ≤ xs.length):val (xs.take (k + p)) = val (xs.take k) + 4294967296 ^ k * val ((xs.drop k).take p):=by
 rw [List.take_add,val_append,List.length_take,Nat.min_eq_left (by omega)]

theorem PieceR.step {wr w w5 w6:World} {bz oz nz n1 n2:Nat} {xs ys:List Nat} {k p k' c:Nat} {f f':Nat → Nat} (h:PieceR wr w bz oz nz xs ys k f) (hl1:xs.length = n1) (hl2:ys.length = n2) (hnz:n1 + n2 = nz) (ox:Ok xs) (oy:Ok ys) (hp:k + p ≤ n1)
  (hk':xs.take k' = xs.take (k + p)) (bz5:bz < wr.heap.size) (b5:Below wr.heap.size wr w5) (hF:Fn w6 bz (oz + k) (nz - k) f') (hok:∀ i,i < nz - k → f' i < 4294967296)
  (hval:valF f' (nz - k) + 4294967296 ^ (nz - k) * c = valF (fun i => f (k + i)) (nz - k) + val ((xs.drop k).take p) * val ys) (hupd:Upd bz (oz + k) (oz + k + (nz - k)) w5 w6) :
  ∃ g,PieceR w6 w bz oz nz xs ys k' g:=by
 have hkn:k + (nz - k) = nz:=by omega
 have u1:Upd bz oz (oz + nz) wr w5:=.of_below bz5 b5
 have u2:Upd bz oz (oz + nz) w5 w6:=hupd.mono (by omega) (by omega)
 have fl:Fn w6 bz oz k f:=by
  have:=((h.fn.below b5).part 0 k (by omega))
  simp only [Nat.zero_add,Nat.add_zero] at this
  exact hupd.fn this (.inr (.inl (by omega)))
 have hj:=Fn.join fl hF
 rw [hkn] at hj
 refine ⟨_,hj,?_,?_,(h.upd.trans u1).trans u2⟩
 ·intro i hi
  by_cases e:i < k
  ·simp only [e,if_true]; exact h.ok i hi
  ·simp only [e,if_false]; exact hok _ (by omega)
 ·have e1:=valF_join f f' k (nz - k)
  rw [hkn] at e1
  rw [e1,hk',take_split xs k p (by omega)]
  have e2:=valF_add f k (nz - k)
  rw [hkn,h.vl] at e2
  have e3:valF f k + 4294967296 ^ k * valF f' (nz - k) + 4294967296 ^ nz * c = (val (xs.take k) + 4294967296 ^ k * val ((xs.drop k).take p)) * val ys:=by
   have e4:4294967296 ^ nz * c = 4294967296 ^ k * (4294967296 ^ (nz - k) * c):=by rw [← Nat.mul_assoc,← Nat.pow_add,hkn]
   rw [e4,Nat.add_assoc,← Nat.mul_add,hval,Nat.mul_add,← Nat.add_assoc,← e2,Nat.add_mul,Nat.mul_assoc]
  have hlt:(val (xs.take k) + 4294967296 ^ k * val ((xs.drop k).take p)) * val ys < 4294967296 ^ nz:=by
   rw [← take_split xs k p (by omega)]
   have a1:=take_lt ox (k + p) (by omega)
   have a2:=val_lt oy
   have a3:4294967296 ^ (k + p) ≤ 4294967296 ^ n1:=pow_mono hp
   rw [← hnz,Nat.pow_add,← hl2]
   exact Nat.mul_lt_mul_of_lt_of_le (by omega) (by omega) (pow_pos _)
  exact (carry_zero e3 hlt).2
theorem and_m2 (x y:Nat):(x &&& y) % 2 = (x % 2) * (y % 2):=by
 have h:=@Nat.and_mod_two_eq_one x y
 rcases Nat.mod_two_eq_zero_or_one x with a | a <;> rcases Nat.mod_two_eq_zero_or_one y with b | b <;> rw [a,b] at h ⊢ <;> omega
theorem and_not_add:∀ (f x y:Nat),x < 2 ^ f → y < 2 ^ f → (x &&& y) + (x &&& (2 ^ f - 1 - y)) = x
 | 0,x,y,hx,hy => by simp at hx hy; subst hx; subst hy; rfl
 | f + 1,x,y,hx,hy => by
  have hp:2 ^ (f + 1) = 2 * 2 ^ f:=by rw [Nat.pow_succ,Nat.mul_comm]
  have h0:=Nat.two_pow_pos f
  rw [hp] at hx hy ⊢
  have h:=and_not_add f (x / 2) (y / 2) (by omega) (by omega)
  have e1:(2 * 2 ^ f - 1 - y) / 2 = 2 ^ f - 1 - y / 2:=by omega
  have e2:(2 * 2 ^ f - 1 - y) % 2 = 1 - y % 2:=by omega
  rw [← e1,← Nat.and_div_two,← Nat.and_div_two] at h
  have a:=and_m2 x y
  have b:=and_m2 x (2 * 2 ^ f - 1 - y)
  rw [e2] at b
  generalize 2 * 2 ^ f - 1 - y = z at *
  have c:(x % 2) * (y % 2) + (x % 2) * (1 - y % 2) = x % 2:=by
   rcases Nat.mod_two_eq_zero_or_one y with d | d <;> rw [d] <;> omega
  omega
structure SlB (w:World) (a:Option Addr) (n c:Nat) (bs:List Nat):Prop where
 len:bs.length = n
 le:n ≤ c
 ok:∀ x ∈ bs,x < 256
 cells:bs = [] ∨ ∃ b off,a = some ⟨b,off,none⟩ ∧ ∀ i,i < bs.length → w.cell? ⟨b,off + i,none⟩ = some (.int .u8 (bs.getD i 0:Nat))

theorem fit_lt {v M:Nat} (h:v < 4294967296 ^ M) (hM:M ≤ 2048):fitL v = (limbs v,0):=by
 apply fitL_ok
 intro hb
 have hr:=limbs_rep v
 have h2:=val_ge_of_norm hr.norm (by intro e; rw [e] at hb; simp at hb)
 have h4:4294967296 ^ M ≤ 4294967296 ^ ((limbs v).length - 1):=pow_mono (by omega)
 rw [hr.val] at h2
 omega
def strB (bs:List Nat):ByteArray:=strOfNums (bs.map (fun x:Nat => (x:Int)))

theorem SlB.conv {w:World} {a:Option Addr} {n c:Nat} {bs:List Nat} (h:SlB w a n c bs) :
  (convert 108 9 (.slice a n c)).run Tryz.prog w = .ok (.string (strB bs)) w:=by
 have hl:=h.len
 cases a with
 | none =>
  rcases h.cells with e | ⟨b,off,e,_⟩
  ·subst e
   exact run_convert_bytes_nil w 108 5 Tryz.underlying108 Tryz.underlying5 n c 9 Tryz.underlying9
  ·cases e
 | some x =>
  rcases h.cells with e | ⟨b,off,e,hc⟩
  ·subst e
   simp at hl
   subst hl
   rw [run_convert_bytes_string w 108 9 5 _ 0 c Tryz.underlying108 Tryz.underlying5 Tryz.underlying9,run_bytesToString w x 0 c [] (by simpa using run_loadCells_list (P:=Tryz.prog) w x [] (by simp))]
   rfl
  ·cases e
   refine run_convert_bytes_arg w 108 5 Tryz.underlying108 Tryz.underlying5 b off n c (bs.map (fun x:Nat => (x:Int))) (by simpa using hl) (fun i hi => ?_) 9 Tryz.underlying9
   rw [hc i (by omega)]
   congr 2
   simp only [List.getD_eq_getElem?_getD,List.getElem?_map]
   cases bs[i]? <;> rfl

structure Pc where
 a:Option Addr
 n:Nat
 c:Nat
 xs:List Nat

def Pc.v (p:Pc):Value:=.slice p.a p.n p.c

structure Kp (w:World) (B:Nat) (v0 v1:Value) (p:Pc):Prop where
 sl:Sl w p.a p.n p.c p.xs
 safe:∀ x,p.a = some x → p.xs ≠ [] → ¬ Own B v0 v1 x.block
theorem lst_mem {f:Nat → Nat} {n x:Nat} (h:x ∈ lst f n):∃ i,i < n ∧ f i = x:=by
 simpa [lst] using h
def dgt (V b i:Nat):Nat:=V / b ^ i % b
def chrN (d:Nat):Nat:=if d < 10 then 48 + d else 87 + d
structure TxtOf (V b n:Nat):Prop where
 pos:1 ≤ n
 lt:V < b ^ n
 ge:n = 1 ∨ b ^ (n - 1) ≤ V

theorem TxtOf.le {V b n m:Nat} (hb:2 ≤ b) (h:TxtOf V b n) (g:TxtOf V b m):n ≤ m:=by
 rcases h.ge with e | e
 ·have:=g.pos; omega
 ·rcases Nat.lt_or_ge m n with k | k
  ·exfalso
   have h1:b ^ m ≤ b ^ (n - 1):=Nat.pow_le_pow_right (by omega) (by omega)
   have:=g.lt
   omega
  ·exact k
theorem TxtOf.uniq {V b n m:Nat} (hb:2 ≤ b) (h:TxtOf V b n) (g:TxtOf V b m):n = m:=Nat.le_antisymm (h.le hb g) (g.le hb h)

theorem dgt_lt (V i:Nat) {b:Nat} (hb:0 < b):dgt V b i < b:=Nat.mod_lt _ hb
theorem dgt_div (V b i j:Nat):dgt (V / b ^ i) b j = dgt V b (i + j):=by
 unfold dgt
 rw [Nat.div_div_eq_div_mul,← Nat.pow_add]
theorem dgt_mod (V b:Nat) {i j:Nat} (hb:0 < b) (h:j < i):dgt (V % b ^ i) b j = dgt V b j:=by
 unfold dgt
 obtain ⟨k,rfl⟩:∃ k,i = j + (k + 1):=⟨i - j - 1,by omega⟩
 rw [Nat.pow_add,Nat.mod_mul_right_div_self,Nat.pow_succ,Nat.mul_comm,Nat.mod_mul_right_mod]
theorem chrN_lt {d:Nat} (h:d < 36):chrN d < 256:=by unfold chrN; split <;> omega
theorem chrN_zero {d:Nat} (h:d < 36):chrN d = 48 ↔ d = 0:=by unfold chrN; split <;> omega

def txtL (V b n:Nat):List Nat:=lst (fun p => chrN (dgt V b (n - 1 - p))) n

open Go.RowKit Go.Deep
set_option linter.unusedVariables false

theorem ownsRow_below {w w':World} {base:Nat} {e:TypeId} {size:Nat} {v:Value} {n:Nat} {xs:List Value} (h:w.ownsRow base e size v n xs) (k:Below w.heap.size w w'):w'.ownsRow base e size v n xs:=by
 refine ⟨h.1,?_⟩
 rcases h.2 with e0 | ⟨g,cap,cur,e0,hb,h5,h6,h7,h8,h9⟩
 ·exact .inl e0
 ·exact .inr ⟨g,cap,cur,e0,hb,by rw [k.block g (by
   rcases Nat.lt_or_ge g w.heap.size with hlt | hge
   ·exact hlt
   ·simp [Array.getElem?_eq_none hge] at h5)]; exact h5,h6,h7,h8,h9⟩

inductive PrIs (xs:List Nat) (b:Int):ByteArray → Int → Prop where
 | nat (h:MayL xs = false):PrIs xs b (strB []) 20
 | base (h:MayL xs = true) (hb:¬ (2 ≤ b ∧ b ≤ 36)):PrIs xs b (strB []) 22
 | text (n:Nat) (h:MayL xs = true) (hb:2 ≤ b ∧ b ≤ 36) (ht:TxtOf (val xs) b.toNat n):PrIs xs b (strB (txtL (val xs) b.toNat n)) 0

def PrPost (xs:List Nat) (b:Int) (w:World) (e:Ending) (w':World):Prop :=
 ∃ s er,e = .returned (.tuple #[.string s,.int .i64 er]) ∧ PrIs xs b s er ∧ Below w.heap.size w w'

theorem FnB.slB {w:World} {b off n c:Nat} {f:Nat → Nat} (h:FnB w b off n f) (hc:n ≤ c) (hf:∀ i,i < n → f i < 256):SlB w (some ⟨b,off,none⟩) n c (lst f n):=by
 refine ⟨lst_len _ _,hc,fun x hx => ?_,.inr ⟨b,off,rfl,fun i hi => ?_⟩⟩
 ·obtain ⟨i,hi,rfl⟩:=lst_mem hx
  exact hf i hi
 ·rw [lst_len] at hi
  rw [lst_getD f n i hi]
  exact (h i hi).1
theorem chr_ok (V:Nat) {b:Nat} (hb:2 ≤ b) (hb2:b ≤ 36) (i:Nat):chrN (dgt V b i) < 256:=chrN_lt (by have:=dgt_lt V i (b:=b) (by omega); omega)

open Go.RowKit Go.Deep
set_option linter.unusedVariables false
def Ow (w:World) (B:Nat) (a:Option Addr) (n c:Nat) (xs:List Nat):Prop:=w.ownsRow B 84 1 (.slice a n c) n (vals xs)
def AtB (a:Option Addr) (k:Nat):Prop:=∃ x,a = some x ∧ x.block = k
theorem atB_some {g o:Nat}:AtB (some ⟨g,o,none⟩) g:=⟨_,rfl,rfl⟩
theorem atB_is {g o k:Nat} (h:AtB (some ⟨g,o,none⟩) k):k = g:=by obtain ⟨x,e,rfl⟩:=h; cases e; rfl
theorem atB_none {k:Nat} (h:AtB none k):False:=by obtain ⟨x,e,_⟩:=h; cases e
theorem atB_own {a:Option Addr} {n c k:Nat}:(Value.slice a n c).ownBlock = some k ↔ AtB a k:=by
 cases a with
 | none => exact ⟨fun h => (by cases h),fun h => (atB_none h).elim⟩
 | some x => exact ⟨fun h => ⟨x,rfl,by simpa [Value.ownBlock] using h⟩,fun ⟨y,e,h⟩ => (by cases e; simp [Value.ownBlock,h])⟩

theorem Ow.nil (w:World) (B:Nat):Ow w B none 0 0 []:=World.ownsRow_nil _ _ _ _
theorem Ow.len {w:World} {B n c:Nat} {a:Option Addr} {xs:List Nat} (h:Ow w B a n c xs):xs.length = n:=by have:=h.1; simpa [vals] using this
theorem Ow.sl {w:World} {B n c:Nat} {a:Option Addr} {xs:List Nat} (h:Ow w B a n c xs):Sl w a n c xs:=by
 obtain ⟨a',c',e,k,_⟩:=own_sl h
 cases e; exact k
theorem Ow.new {w:World} {B n c:Nat} {a:Option Addr} {xs:List Nat} (h:Ow w B a n c xs):NewAt B a:=by
 obtain ⟨a',c',e,_,k⟩:=own_sl h
 cases e; exact k
theorem Ow.lt {w:World} {B n c k:Nat} {a:Option Addr} {xs:List Nat} (h:Ow w B a n c xs) (hk:AtB a k):B ≤ k ∧ k < w.heap.size:=own_ge h k (atB_own.2 hk)
theorem Ow.mono {w:World} {B B' n c:Nat} {a:Option Addr} {xs:List Nat} (h:Ow w B a n c xs) (hb:B' ≤ B):Ow w B' a n c xs :=
 ⟨h.1,h.2.imp id (fun ⟨g,cap,cur,e,h1,h2⟩ => ⟨g,cap,cur,e,Nat.le_trans hb h1,h2⟩)⟩
theorem Ow.chg {S:Nat → Prop} {w w':World} {B n c:Nat} {a:Option Addr} {xs:List Nat} (h:Ow w B a n c xs) (k:Chg S w w') (hs:∀ k,AtB a k → ¬ S k):Ow w' B a n c xs :=
 ownsRow_chg h k (fun k hk => hs k (atB_own.1 hk))
theorem Ow.below {w w':World} {B n c:Nat} {a:Option Addr} {xs:List Nat} (h:Ow w B a n c xs) (k:Below w.heap.size w w'):Ow w' B a n c xs :=
 h.chg (S:=fun _ => False) (.of_below k) (fun _ _ => id)
theorem Ow.form {w:World} {B n c:Nat} {a:Option Addr} {xs:List Nat} (h:Ow w B a n c xs) (hn:0 < n):∃ g,a = some ⟨g,0,none⟩ ∧ B ≤ g ∧ g < w.heap.size:=by
 obtain ⟨g,cap,e,h1,h2⟩:=World.ownsRow.form h hn
 cases e
 exact ⟨g,rfl,h1,h2⟩
theorem Ow.shape {w:World} {B n c:Nat} {a:Option Addr} {xs:List Nat} (h:Ow w B a n c xs):(a = none ∧ n = 0 ∧ c = 0) ∨ ∃ g,a = some ⟨g,0,none⟩:=by
 rcases h.2 with ⟨e,h0⟩ | ⟨g,cap,cur,e,_⟩
 ·cases e; exact .inl ⟨rfl,rfl,rfl⟩
 ·cases e; exact .inr ⟨g,rfl⟩
theorem Ow.cell {w:World} {B g n c i:Nat} {xs:List Nat} (h:Ow w B (some ⟨g,0,none⟩) n c xs) (hi:i < n):w.cell? ⟨g,i,none⟩ = some (.int .u32 (xs.getD i 0:Nat)):=by
 have:=World.ownsRow.cellAt h i (by omega)
 rw [this,vals_get (by rw [h.len]; exact hi)]
theorem Ow.froz {w:World} {B g n c i:Nat} {xs:List Nat} (h:Ow w B (some ⟨g,0,none⟩) n c xs):w.frozen? ⟨g,i,none⟩ = false:=World.ownsRow.frozenAt h i
theorem Ow.set {w:World} {B g n c:Nat} {xs:List Nat} (h:Ow w B (some ⟨g,0,none⟩) n c xs) (j x:Nat):Ow (w.setCell ⟨g,j,none⟩ (.int .u32 (x:Nat))) B (some ⟨g,0,none⟩) n c (xs.set j x):=by
 have:=(World.ownsRow.stored h j (.int .u32 (x:Nat))).1
 have e:(vals xs).set j (.int .u32 (x:Nat)) = vals (xs.set j x):=by simp [vals,List.map_set]
 rw [e] at this
 exact this
theorem Ow.take {w:World} {B n c m:Nat} {a:Option Addr} {xs:List Nat} (h:Ow w B a n c xs) (hm:m ≤ n):Ow w B a m c (xs.take m):=by
 have hl:=h.len
 refine ⟨by simp [vals,hl]; omega,?_⟩
 rcases h.2 with ⟨e,h0⟩ | ⟨g,cap,cur,e,h1,h2,h3,h4,h5,h6⟩
 ·cases e; left; exact ⟨by congr; omega,by omega⟩
 ·cases e
  right
  refine ⟨g,c,cur,rfl,h1,h2,by omega,h4,h5,?_⟩
  have e2:vals (xs.take m) = (vals xs).take m:=by simp [vals]
  rw [e2,← h6,List.take_take]
  congr 1; omega
theorem Ow.made (w:World) (n:Nat) (hn:n ≤ 70368744177600):Ow (w.alloc (.cells (madeCells #[.int .u32 0] n) 84)) w.heap.size (some ⟨w.heap.size,0,none⟩) n n (List.replicate n 0):=by
 have:=World.ownsRow_lit (base:=w.heap.size) (e:=84) (size:=1) w (madeCells #[.int .u32 0] n) n (Nat.le_refl _) (by unfold maxLen; omega) (by simp [madeCells])
 rw [toList_madeCells_one] at this
 have e:vals (List.replicate n 0) = List.replicate n (.int .u32 0):=by simp [vals]
 unfold Ow
 rw [e]
 exact this

def NewO (w w':World) (v:Nat) (e:Ending):Prop:=∃ a m c,e = .returned (.slice a m c) ∧ Ow w' w.heap.size a m c (limbs v) ∧ Below w.heap.size w w'
theorem TrimAt.limbs {xs:List Nat} {m:Nat} (h:TrimAt xs m) (ok:Ok xs):xs.take m = limbs (val xs):=(h.rep ok).eq
theorem limbs_ok (v:Nat):Ok (limbs v):=(limbs_rep v).ok
theorem limbs_norm (v:Nat):Norm (limbs v):=(limbs_rep v).norm
theorem limbs_v (v:Nat):val (limbs v) = v:=(limbs_rep v).val
theorem limbs_len {v j:Nat} (hv:v < 4294967296 ^ j):(limbs v).length ≤ j:=by
 rcases Nat.lt_or_ge j (limbs v).length with k | k
 ·exfalso
  have hz:limbs v ≠ []:=by intro e; rw [e] at k; simp at k
  have h1:=val_ge_of_norm (limbs_norm v) hz
  rw [limbs_v] at h1
  have h2:4294967296 ^ j ≤ 4294967296 ^ ((limbs v).length - 1):=Nat.pow_le_pow_right (by decide) (by omega)
  omega
 ·exact k
theorem limbs_lt (v:Nat):v < 4294967296 ^ (limbs v).length:=by have:=val_lt (limbs_ok v); rwa [limbs_v] at this
theorem limbs_eq_nil {v:Nat}:limbs v = [] ↔ v = 0:=by
 constructor
 ·intro h; have:=limbs_v v; rw [h] at this; exact this.symm
 ·rintro rfl; rfl

set_option maxHeartbeats 400000 in
theorem wnorm_some (b off n c:Nat) (xs:List Nat) (w:World) (hn:xs.length = n) (hnc:n ≤ c) (hcm:c ≤ maxLen) (hc:Cells w b off xs) :
  Calls Tryz.prog 155 #[.slice (some ⟨b,off,none⟩) n c] w fun e w' => ∃ m,TrimAt xs m ∧ e = .returned (.slice (some ⟨b,off,none⟩) m c) ∧ w' = w:=by
 unfold maxLen at hcm
 go_enter Tryz.func155,Tryz.ntmps155
 go_wp2
 go_loop [3] (fun i => ∃ k:Nat,k ≤ n ∧ i = .int .i64 k ∧ ∀ j,k ≤ j → xs.getD j 0 = 0) (fun i => (intOf i).toNat)
 case atStart => exact ⟨n,Nat.le_refl _,rfl,fun j hj => getD_ge (by omega)⟩
 case round =>
  obtain ⟨k,hk,rfl,hz⟩:=hrel
  by_cases h0:k = 0
  ·subst h0
   go_wp2
   go_ret
   exact ⟨0,⟨by omega,.inl rfl,hz⟩,rfl,rfl⟩
  ·have hpos:(0:Int) < (k:Int):=by omega
   have hk1:((k:Int) - 1).toNat = k - 1:=by omega
   have hcell:=hc (k - 1) (by omega)
   by_cases hx:xs.getD (k - 1) 0 = 0
   ·rw [hx] at hcell
    have Hx:Hid (xs.getD (k - 1) 0 = 0):=hx
    clear hx
    go_wp2
    go_round
    case rel => exact ⟨k - 1,by omega,by congr 1; omega,fun j hj => by
     by_cases e:j = k - 1
     ·rw [e]; exact Hx.out
     ·exact hz j (by omega)⟩
    case measure => simp [intOf]; omega
   ·have Hx:Hid (xs.getD (k - 1) 0 ≠ 0):=hx
    have hx':(((xs.getD (k - 1) 0:Nat):Int) == 0) = false:=by simp at hx ⊢; exact hx
    clear hx
    generalize hg:(((xs.getD (k - 1) 0:Nat):Int)) = g at hcell hx'
    clear hg
    go_wp2
    go_ret
    exact ⟨k,⟨by omega,.inr Hx.out,hz⟩,rfl,rfl⟩

theorem wnorm_nil (w:World) :
  Calls Tryz.prog 155 #[.slice none 0 0] w fun e w' => e = .returned (.slice none 0 0) ∧ w' = w:=by
 go_enter Tryz.func155,Tryz.ntmps155
 go_wp2
 go_loop [3] (fun i => i = .int .i64 0) (fun i => (intOf i).toNat)
 case atStart => rfl
 case round =>
  subst hrel
  go_wp2
  go_ret
  exact ⟨rfl,rfl⟩

theorem wnorm_any (a:Option Addr) (n c B:Nat) (xs:List Nat) (w:World) (h:Ow w B a n c xs) (ok:Ok xs) :
  Calls Tryz.prog 155 #[.slice a n c] w fun e w' => ∃ m,e = .returned (.slice a m c) ∧ m ≤ n ∧ Ow w B a m c (limbs (val xs)) ∧ w' = w:=by
 rcases h.shape with ⟨rfl,rfl,rfl⟩ | ⟨g,rfl⟩
 ·refine (wnorm_nil w).mono ?_
  rintro e w' ⟨rfl,rfl⟩
  have:xs = []:=List.eq_nil_of_length_eq_zero h.len
  subst this
  exact ⟨0,rfl,Nat.le_refl _,Ow.nil _ _,rfl⟩
 ·have hs:=h.sl
  refine (wnorm_some g 0 n c xs w hs.len hs.le hs.cap ?_).mono ?_
  ·intro i hi
   have:=h.cell (i:=i) (by rw [← h.len]; exact hi)
   simpa using this
  ·rintro e w' ⟨m,ht,rfl,rfl⟩
   have hm:m ≤ n:=by have:=ht.le; rw [h.len] at this; exact this
   refine ⟨m,rfl,hm,?_,rfl⟩
   have:=h.take hm
   rw [ht.limbs ok] at this
   exact this
def bitN (v i:Nat):Nat:=v / 2 ^ i % 2
theorem bitN_lt (v i:Nat):bitN v i < 2:=Nat.mod_lt _ (by decide)

theorem bit_limb {xs:List Nat} (ox:Ok xs) {i l s:Nat} (hl:i / 32 = l) (hs:i % 32 = s):bitN (val xs) i = xs.getD l 0 / 2 ^ s % 2:=by
 have hi:i = 32 * l + s:=by omega
 have hs32:s < 32:=by omega
 have hp:=pow_split hs32
 have hpos:=(pow_s hs32).1
 have e3:=val_drop ox l
 have e1:=val_drop_step xs l
 unfold bitN
 rw [hi,Nat.pow_add,← pow_limb,← Nat.div_div_eq_div_mul,← e3,e1]
 generalize xs.getD l 0 = x
 generalize val (xs.drop (l + 1)) = r
 have e4:x + 4294967296 * r = x + 2 ^ s * (2 * (2 ^ (31 - s) * r)):=by
  have:2 ^ s * (2 * (2 ^ (31 - s) * r)) = 4294967296 * r:=by
   rw [← hp,show 32 - s = 31 - s + 1 from by omega,Nat.pow_succ,Nat.mul_comm (2 ^ (31 - s)) 2,← Nat.mul_assoc 2,Nat.mul_assoc (2 ^ s)]
  omega
 rw [e4,Nat.add_mul_div_left _ _ (by omega),Nat.add_mul_mod_self_left]

theorem and_one (y:Nat) (hy:y < 4294967296):bits .and .u32 (y:Int) 1 = ((y % 2:Nat):Int):=by
 have:=u32_and_nat y 1 hy (by decide)
 rw [Nat.and_one_is_mod] at this
 exact this

theorem shr_lt {x s:Nat} (hx:x < 4294967296):x / 2 ^ s < 4294967296:=Nat.lt_of_le_of_lt (Nat.div_le_self _ _) hx
section
variable {P:Program} {w:World}
theorem wpList_append_nilR {ops:Array Oper} {rest:List Oper} {o:Oper} {a:Act} {Q:Exit → Act → World → Prop} (hgd:o.guard = none) (s x:Operand) (t:TypeId)
  (ho:o.op = .call { callee:=.builtin .append,args:=#[s,x],argTypes:=#[t,t] })
  (base:Nat) (e:TypeId) (i:TypeInfo) (z:Value) (bytes:Nat) (ht:P.underlying t = some (.slice e)) (hi:P.info? e = some i) (hz:i.zero = some z)
  (hsize:i.size = 1) (hby:i.bytes = bytes) (hzs:z.cells.size = 1)
  (hs:a.eval s = .slice none 0 0)
  (ao:Option Addr) (m c:Nat) (news:List Value) (hx:a.eval x = .slice ao m c) (hl:news.length = m) (hnone:ao = none → m = 0 ∧ c = 0)
  (hnews:∀ ad,ao = some ad → ∀ j u,news[j]? = some u → w.cell? (ad.add j) = some u) (h1:∀ u ∈ news,u.oneCell' = true)
  (h63:m ≤ maxLen) (hbytes:m * bytes ≤ 140737488355328) (hbase:base ≤ w.heap.size)
  (h:∀ v w',w'.ownsRow base e 1 v m news → w.grownBy w' none → wpList P ops Q rest (a.put o.dst v) w'):wpList P ops Q (o :: rest) a w:=by
 cases ao with
 | none =>
  obtain ⟨rfl,rfl⟩:=hnone rfl
  have hn:news = []:=List.eq_nil_of_length_eq_zero hl
  subst hn
  refine wpList_plain hgd fun K hK => ?_
  have hrun:=run_append_owned_none (P:=P) (w:=w) base t o.type e i 1 ht hi (.slice none 0 0) 0 [] (World.ownsRow_nil _ _ _ _)
  unfold Oper.wp
  simp [execOp,ho,resolve,invoke,builtin,hs,hx,hrun,Result.andThen]
  exact hK _ _ (h _ w (World.ownsRow_nil _ _ _ _) (World.grownBy.refl _ _))
 | some ad =>
  refine wpList_append_own w hgd s x t ho base e i z 1 bytes ht hi hz hsize hby hzs (by decide) _ 0 [] hs (World.ownsRow_nil _ _ _ _) ad m c news hx (by simpa using hl) (hnews ad rfl) h1 (by simpa using h63) (by simpa using hbytes) hbase ?_
  intro v' w' k1 k2 _
  simp only [Nat.zero_add,List.nil_append] at k1
  exact h v' w' k1 k2
end

theorem Sl.news {w:World} {a:Option Addr} {n c:Nat} {xs:List Nat} (h:Sl w a n c xs):∀ ad,a = some ad → ∀ j u,(vals xs)[j]? = some u → w.cell? (ad.add j) = some u:=by
 intro ad had j u hu
 have hj:j < xs.length:=by
  have:=(List.getElem?_eq_some_iff.1 hu).1
  simpa [vals] using this
 have hne:xs ≠ []:=by intro e; rw [e] at hj; simp at hj
 obtain ⟨b,off,e,hc⟩:=h.cells.resolve_left hne
 rw [e] at had
 cases had
 have e2:(⟨b,off,none⟩:Addr).add j = ⟨b,off + j,none⟩:=by unfold Addr.add; split <;> simp_all
 rw [e2,hc j hj,← hu]
 simp [vals,List.getD,hj]

set_option maxHeartbeats 2000000 in
theorem wcopied_any (a:Option Addr) (n c:Nat) (xs:List Nat) (w:World) (h:Sl w a n c xs) (hnil:a = none → c = 0) (hn:n ≤ 1000000000) :
  Calls Tryz.prog 159 #[.slice a n c] w fun e w' => ∃ a' c',e = .returned (.slice a' n c') ∧ Ow w' w.heap.size a' n c' xs ∧ Below w.heap.size w w':=by
 obtain ⟨i80,hi80,hz80,hs80,hb80⟩:=info_parts Tryz.info_u32
 have I80:=Hj (And.intro hi80 (And.intro hz80 (And.intro hs80 hb80)))
 have HS:=Hj h
 have HNil:=Hj (show a = none → n = 0 ∧ c = 0 from fun e => ⟨by have:=hnil e; have:=h.le; omega,hnil e⟩)
 clear hi80 hz80 hs80 hb80 h hnil
 go_enter Tryz.func159,Tryz.ntmps159
 go_wp2_with (at_builtin; refine wpList_append_nilR rfl _ _ 22 rfl w.heap.size 84 i80 (.int .u32 0) 4 Tryz.underlying22 (Uh I80).1 (Uh I80).2.1 (Uh I80).2.2.1 (Uh I80).2.2.2 rfl rfl a n c (vals xs) rfl ?hl (Uh HNil) ?hnews ?hone ?h63 ?hby (Nat.le_refl _) ?_)
 case hl => simp [vals,(Uh HS).len]
 case hnews => exact (Uh HS).news
 case hone => exact vals_one
 case h63 => unfold maxLen; omega
 case hby => omega
 intro v1 w1 hown hg
 have HB1:=Hj (show Below w.heap.size w w1 from Below.grown (Below.refl _ _) hg (Nat.le_refl _) (fun k hk => by cases hk))
 obtain ⟨a',c',e,_,_⟩:=own_sl hown
 subst e
 have HO:=Hj (show Ow w1 w.heap.size a' n c' xs from hown)
 clear hown hg
 go_wp2_with fail
 go_ret
 exact ⟨a',c',rfl,Uh HO,Uh HB1⟩

theorem wsign_any (n:Int) (w:World) (hl:-9223372036854775808 ≤ n) (hh:n ≤ 9223372036854775807) :
  Calls Tryz.prog 213 #[.int .i64 n] w fun e w' => e = .returned (.int .i64 n.sign) ∧ w' = w:=by
 rcases Int.lt_trichotomy n 0 with h | h | h
 ·rw [Int.sign_eq_neg_one_of_neg h]
  go_enter Tryz.func213,Tryz.ntmps213
  go_wp2
  go_ret
  exact ⟨rfl,rfl⟩
 ·subst h
  go_enter Tryz.func213,Tryz.ntmps213
  go_wp2
  go_ret
  exact ⟨rfl,rfl⟩
 ·rw [Int.sign_eq_one_of_pos h]
  have h2:¬ n < 0:=by omega
  go_enter Tryz.func213,Tryz.ntmps213
  go_wp2
  go_ret
  exact ⟨rfl,rfl⟩

set_option maxHeartbeats 1600000 in
theorem wcmp_some (b1 o1 b2 o2 : Nat) (n c1 c2 : Nat) (xs ys : List Nat) (w : World) (hn : n ≤ maxLen) (hx : xs.length = n) (hy : ys.length = n) (ox : Ok xs) (oy : Ok ys)
   (h1 : Cells w b1 o1 xs) (h2 : Cells w b2 o2 ys) :
    Calls Tryz.prog 190 #[.slice (some ⟨b1, o1, none⟩) n c1, .slice (some ⟨b2, o2, none⟩) n c2] w fun e w' => e = .returned (.int .i64 (cmpN (val xs) (val ys))) ∧ ∃ k, w' = w.drewN k := by
  unfold maxLen at hn
  have hne : ((n:Int) != (n:Int)) = false := by simp
  go_enter Tryz.func190, Tryz.ntmps190
  go_wp2
  go_loopw [5] (fun i wr => ∃ k : Nat, k ≤ n ∧ i = .int .i64 ((k : Int) - 1) ∧ (∀ j, k ≤ j → xs.getD j 0 = ys.getD j 0) ∧ ∃ d, wr = w.drewN d) (fun i _ => (intOf i + 1).toNat)
  case atStart => exact ⟨n, Nat.le_refl _, rfl, fun j hj => by rw [getD_ge (by omega), getD_ge (by omega)], 0, rfl⟩
  case round =>
    obtain ⟨k, hk, rfl, ht, d, rfl⟩ := hrel
    by_cases hlt : 0 < k
    · have hlt' : (0:Int) ≤ (k:Int) - 1 := by omega
      have hlt2 : (k:Int) - 1 < (n:Int) := by omega
      have hk1 : ((k:Int) - 1).toNat = k - 1 := by omega
      have g1 := h1 (k - 1) (by omega)
      have g2 := h2 (k - 1) (by omega)
      by_cases he : xs.getD (k - 1) 0 = ys.getD (k - 1) 0
      · have HT : ∀ j, k - 1 ≤ j → xs.getD j 0 = ys.getD j 0 := fun j hj => by
          by_cases e : j = k - 1
          · rw [e]; exact he
          · exact ht j (by omega)
        have HT' := hide HT
        have hb : ¬ ((xs.getD (k - 1) 0 : Nat) : Int) < ((ys.getD (k - 1) 0 : Nat) : Int) := by omega
        have hb' : ¬ ((ys.getD (k - 1) 0 : Nat) : Int) < ((xs.getD (k - 1) 0 : Nat) : Int) := by omega
        generalize ((xs.getD (k - 1) 0 : Nat) : Int) = u at g1 hb hb'
        generalize ((ys.getD (k - 1) 0 : Nat) : Int) = v at g2 hb hb'
        clear he h1 h2 HT ht
        go_wp2_with fail
        go_quiet (fail)
        go_wp2_with fail
        go_quiet (fail)
        go_wp2
        exact ⟨⟨k - 1, by omega, by congr 1; omega, unhide HT', _, rfl⟩, by simp [intOf]; omega⟩
      · have hr : ((xs.getD (k - 1) 0 : Nat) : Int) < ((ys.getD (k - 1) 0 : Nat) : Int) ∧ cmpN (val xs) (val ys) = -1 ∨ ((ys.getD (k - 1) 0 : Nat) : Int) < ((xs.getD (k - 1) 0 : Nat) : Int) ∧ cmpN (val xs) (val ys) = 1 := by
          by_cases hh : xs.getD (k - 1) 0 < ys.getD (k - 1) 0
          · exact .inl ⟨by omega, cmpN_lt (val_lt_of (i := k - 1) (hx.trans hy.symm) ox oy (by omega) (fun j hj => ht j (by omega)) hh)⟩
          · exact .inr ⟨by omega, cmpN_gt (val_lt_of (i := k - 1) (hy.trans hx.symm) oy ox (by omega) (fun j hj => (ht j (by omega)).symm) (by omega))⟩
        generalize ((xs.getD (k - 1) 0 : Nat) : Int) = u at g1 hr
        generalize ((ys.getD (k - 1) 0 : Nat) : Int) = v at g2 hr
        clear he h1 h2 ht
        rcases hr with ⟨hr, hc⟩ | ⟨hr, hc⟩
        · have HC := hide hc
          clear hc
          go_wp2_with fail
          go_quiet (fail)
          go_wp2
          go_ret
          exact ⟨by rw [unhide HC]; rfl, _, drewN_add _ _ _⟩
        · have HC := hide hc
          have hr' : ¬ u < v := by omega
          clear hc
          go_wp2_with fail
          go_quiet (fail)
          go_wp2_with fail
          go_quiet (fail)
          go_wp2
          go_ret
          exact ⟨by rw [unhide HC]; rfl, _, drewN_add3 _ _ _ _⟩
    · have hk0 : ¬ (0:Int) ≤ (k:Int) - 1 := by omega
      have : xs = ys := ext_getD (hx.trans hy.symm) (fun i _ => ht i (by omega))
      have HE := hide this
      clear this h1 h2 ht
      go_wp2
      go_ret
      exact ⟨by rw [cmpN_eq (by rw [unhide HE])]; rfl, _, rfl⟩

set_option maxHeartbeats 400000 in
theorem wcmp_len (a1 a2:Option Addr) (n1 n2 c1 c2:Nat) (w:World) (hn:((n1:Int) != (n2:Int)) = true) (h1:n1 ≤ 1000000000) (h2:n2 ≤ 1000000000) (r:Int) (hr:((n1:Int) - n2).sign = r) :
  Calls Tryz.prog 190 #[.slice a1 n1 c1,.slice a2 n2 c2] w fun e w' => e = .returned (.int .i64 r) ∧ w' = w:=by
 have K:=wsign_any ((n1:Int) - n2) w (by omega) (by omega)
 rw [hr] at K
 have HK:=Hj K
 clear K hr
 go_enter Tryz.func190,Tryz.ntmps190
 go_wp2_with fail
 refine (Uh HK).mono ?_
 rintro e w' ⟨rfl,hw⟩
 obtain rfl:=hw.symm
 go_wp2_with fail
 go_ret
 exact ⟨rfl,rfl⟩

set_option maxHeartbeats 400000 in
theorem wcmp_nil (a1 a2:Option Addr) (c1 c2:Nat) (w:World) :
  Calls Tryz.prog 190 #[.slice a1 0 c1,.slice a2 0 c2] w fun e w' => e = .returned (.int .i64 0) ∧ w' = w:=by
 go_enter Tryz.func190,Tryz.ntmps190
 go_wp2
 go_loop [5] (fun i => i = .int .i64 (-1)) (fun i => (intOf i).toNat)
 case atStart => rfl
 case round =>
  subst hrel
  go_wp2
  go_ret
  exact ⟨rfl,rfl⟩

theorem wcmp_any (a1 a2:Option Addr) (n1 c1 n2 c2:Nat) (xs ys:List Nat) (w:World) (h1:Sl w a1 n1 c1 xs) (h2:Sl w a2 n2 c2 ys) (ox:Ok xs) (oy:Ok ys) (nx:Norm xs) (ny:Norm ys) (hn1:n1 ≤ 1000000000) (hn2:n2 ≤ 1000000000) :
  Calls Tryz.prog 190 #[.slice a1 n1 c1,.slice a2 n2 c2] w fun e w' => e = .returned (.int .i64 (cmpN (val xs) (val ys))) ∧ ∃ k,w' = w.drewN k:=by
 have l1:=h1.len
 have l2:=h2.len
 by_cases e:n1 = n2
 ·subst e
  by_cases z:n1 = 0
  ·subst z
   have e1:xs = []:=List.eq_nil_of_length_eq_zero l1
   have e2:ys = []:=List.eq_nil_of_length_eq_zero l2
   subst e1 e2
   refine (wcmp_nil a1 a2 c1 c2 w).mono ?_
   rintro e w' ⟨rfl,rfl⟩
   exact ⟨rfl,0,rfl⟩
  ·rcases h1.cells with e1 | ⟨b1,o1,rfl,k1⟩
   ·subst e1; simp at l1; omega
   ·rcases h2.cells with e2 | ⟨b2,o2,rfl,k2⟩
    ·subst e2; simp at l2; omega
    ·exact wcmp_some b1 o1 b2 o2 n1 c1 c2 xs ys w (Nat.le_trans h1.le h1.cap) l1 l2 ox oy k1 k2
 ·refine (wcmp_len a1 a2 n1 n2 c1 c2 w (by rw [bne_iff_ne]; omega) hn1 hn2 (cmpN (val xs) (val ys)) ?_).mono ?_
  ·rw [← cmp_len ox oy nx ny (by omega),l1,l2]
   by_cases h:(n1:Int) < (n2:Int)
   ·rw [if_pos h,Int.sign_eq_neg_one_of_neg (by omega)]
   ·rw [if_neg h,Int.sign_eq_one_of_pos (by omega)]
  ·rintro e w' ⟨rfl,rfl⟩
   exact ⟨rfl,0,rfl⟩

set_option maxHeartbeats 1000000 in
theorem wbit_in (b off n c:Nat) (x i l s:Nat) (w:World) (hn:n ≤ 1000000000) (hl:(i:Int) / 32 = (l:Int)) (hs:(i:Int) % 32 = (s:Int)) (hs32:s < 32) (hln:l < n) (hi:i ≤ 9223372036854775807) (hx:x < 4294967296) (hc:w.cell? ⟨b,off + l,none⟩ = some (.int .u32 (x:Nat))) :
  Calls Tryz.prog 196 #[.slice (some ⟨b,off,none⟩) n c,.int .i64 (i:Nat)] w fun e w' => e = .returned (.int .u32 ((x / 2 ^ s % 2:Nat):Int)) ∧ w' = w:=by
 have hl2:(i:Int).tdiv 32 = (l:Int):=by rw [Int.tdiv_eq_ediv_of_nonneg (by omega)]; exact hl
 have hs2:(i:Int).tmod 32 = (s:Int):=by rw [Int.tmod_eq_emod_of_nonneg (by omega)]; exact hs
 have t1:(l:Int) < (n:Int):=by omega
 have t2:¬ (n:Int) ≤ (l:Int):=by omega
 have hy:=shr_lt (s:=s) hx
 have e1:(x:Int) / 2 ^ s = ((x / 2 ^ s:Nat):Int):=by rw [Int.natCast_ediv,Int.natCast_pow]; rfl
 have e2:=and_one _ hy
 generalize x / 2 ^ s = y at *
 have hy2:y % 2 < 2:=Nat.mod_lt _ (by decide)
 generalize y % 2 = z at *
 go_enter Tryz.func196,Tryz.ntmps196
 go_wp2
 go_ret
 exact ⟨rfl,rfl⟩

set_option maxHeartbeats 1000000 in
theorem wbit_out (a:Option Addr) (n c i l:Nat) (w:World) (hl:(i:Int) / 32 = (l:Int)) (hi:i ≤ 9223372036854775807) (hln:n ≤ l) :
  Calls Tryz.prog 196 #[.slice a n c,.int .i64 (i:Nat)] w fun e w' => e = .returned (.int .u32 0) ∧ w' = w:=by
 have hl2:(i:Int).tdiv 32 = (l:Int):=by rw [Int.tdiv_eq_ediv_of_nonneg (by omega)]; exact hl
 have t2:(n:Int) ≤ (l:Int):=by omega
 go_enter Tryz.func196,Tryz.ntmps196
 go_wp2
 go_ret
 exact ⟨rfl,rfl⟩

theorem wbit_any (a:Option Addr) (n c:Nat) (xs:List Nat) (w:World) (i:Nat) (h:Sl w a n c xs) (ox:Ok xs) (hn:n ≤ 1000000000) (hi:i ≤ 9223372036854775807) :
  Calls Tryz.prog 196 #[.slice a n c,.int .i64 (i:Nat)] w fun e w' => e = .returned (.int .u32 (bitN (val xs) i:Nat)) ∧ w' = w:=by
 have hl:=h.len
 rw [bit_limb ox rfl rfl]
 by_cases hln:i / 32 < n
 ·have hx:xs ≠ []:=by intro e; rw [e] at hl; simp at hl; omega
  obtain ⟨b,off,rfl,hc⟩:=h.cells.resolve_left hx
  exact wbit_in b off n c _ i (i / 32) (i % 32) w hn (by omega) (by omega) (by omega) hln hi (ox.getD _) (hc _ (by omega))
 ·rw [getD_ge (by omega)]
  simp only [Nat.zero_div,Nat.zero_mod]
  exact wbit_out a n c i (i / 32) w (by omega) hi (by omega)

set_option maxHeartbeats 1000000 in
theorem wbits_any (a:Option Addr) (n c:Nat) (xs:List Nat) (w:World) (h:Sl w a n c xs) (ox:Ok xs) (hn:n ≤ 1000000000) :
  Calls Tryz.prog 193 #[.slice a n c] w fun e w' => e = .returned (.int .i64 (bitsN xs:Nat)) ∧ w' = w:=by
 have hl:=h.len
 by_cases h0:xs = []
 ·have:n = 0:=by rw [← hl,h0]; rfl
  subst this
  have HE:=Hj (show bitsN xs = 0 from by simp [bitsN,h0])
  go_enter Tryz.func193,Tryz.ntmps193
  go_wp2
  go_ret
  exact ⟨by rw [Uh HE]; rfl,rfl⟩
 ·have hp:0 < n:=by rw [← hl]; exact List.length_pos_iff.2 h0
  obtain ⟨b,off,rfl,hc⟩:=h.cells.resolve_left h0
  have hk:=hc (n - 1) (by omega)
  have HE:=Hj (show bitsN xs = 32 * (n - 1) + Lib.bitLen (xs.getD (n - 1) 0) from by simp [bitsN,h0,bitsL,hl,Nat.mul_comm])
  have hx:=ox.getD (n - 1)
  generalize xs.getD (n - 1) 0 = x at *
  have hle:Lib.bitLen x ≤ 64:=Lib.bitLen_le x 64 (by omega) (by omega)
  have h1:((n:Int) == 0) = false:=by simp; omega
  have h2:((n:Int) - 1).toNat = n - 1:=by omega
  clear h hc hl h0
  go_enter Tryz.func193,Tryz.ntmps193
  go_wp2
  go_loop [3,4] (fun i xv => ∃ y k:Nat,y < 4294967296 ∧ xv = .int .u32 (y:Nat) ∧ i = .int .i64 (k:Nat) ∧ k + Lib.bitLen y = 32 * (n - 1) + Lib.bitLen x) (fun _ xv => (intOf xv).toNat)
  case atStart => exact ⟨x,32 * (n - 1),hx,rfl,by congr 1; omega,rfl⟩
  case round =>
   obtain ⟨y,k,hy,rfl,rfl,he⟩:=hrel
   by_cases hy0:y = 0
   ·have hk2:k = 32 * (n - 1) + Lib.bitLen x:=by
     have h00:Lib.bitLen 0 = 0:=by decide +kernel
     rw [hy0,h00] at he
     omega
    have HK:=Hj hk2
    have hpos:¬ (0:Int) < (y:Int):=by omega
    clear he hk2 hy0
    go_wp2
    go_ret
    exact ⟨by rw [Uh HE,Uh HK]; rfl,rfl⟩
   ·have hpos:(0:Int) < (y:Int):=by omega
    have hb:=Lib.bitLen_half y hy0 (by omega)
    have HB:=Hj (show k + 1 + Lib.bitLen (y / 2) = 32 * (n - 1) + Lib.bitLen x by omega)
    have hd:(y:Int).tdiv 2 = ((y / 2:Nat):Int):=by rw [Int.tdiv_eq_ediv_of_nonneg (by omega)]; omega
    have hkb:k ≤ 33000000000:=by omega
    clear he hb
    go_wp2
    exact ⟨⟨y / 2,k + 1,by omega,by first | rfl | (congr 1; omega),by congr 1,Uh HB⟩,by simp [intOf]; omega⟩
end Go.Proofs.YtmnlhnmlgncedaaGreatDoor
