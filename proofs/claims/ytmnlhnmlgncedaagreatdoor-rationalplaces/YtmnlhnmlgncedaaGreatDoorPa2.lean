/- By1 -/
import Derived.Test.YtmnlhnmlgncedaaGreatDoorShl
import Derived.Test.YtmnlhnmlgncedaaGreatDoorDv2
import Derived.Test.YtmnlhnmlgncedaaGreatDoorMul
import Derived.Test.YtmnlhnmlgncedaaGreatDoorNMul
import Derived.Laws.BytesArg
import Derived.Test.YtmnlhnmlgncedaaGreatDoorUpd
import Derived.Test.YtmnlhnmlgncedaaGreatDoorCmp
import Derived.Deep.LoopGhost
namespace Go.Proofs.YtmnlhnmlgncedaaGreatDoor
open Go.RowKit Go.Deep
set_option linter.unusedVariables false
def FnB (w:World) (b off n:Nat) (f:Nat → Nat):Prop :=
 ∀ i,i < n → w.cell? ⟨b,off + i,none⟩ = some (.int .u8 (f i:Nat)) ∧ w.frozen? ⟨b,off + i,none⟩ = false
theorem FnB.set {w:World} {b off n:Nat} {f:Nat → Nat} (h:FnB w b off n f) (k v:Nat) (hk:k < n) :
  FnB (w.setCell ⟨b,off + k,none⟩ (.int .u8 (v:Nat))) b off n (fun i => if i = k then v else f i):=by
 intro i hi
 refine ⟨?_,by rw [World.frozen?_setCell]; exact (h i hi).2⟩
 by_cases e:i = k
 ·subst e
  rw [World.cell?_setCell_same _ _ _ (h i hi).1]
  simp
 ·rw [World.cell?_setCell_other _ _ _ _ (by intro h; injection h with h1 h2; omega)]
  simp [e,(h i hi).1]
theorem FnB.congr {w:World} {b off n:Nat} {f g:Nat → Nat} (h:FnB w b off n f) (he:∀ i,i < n → f i = g i):FnB w b off n g:=fun i hi => by
 have:=h i hi
 rwa [he i hi] at this
theorem FnB.made (w:World) (n:Nat) (e:TypeId):FnB (w.alloc (.cells (madeCells #[.int .u8 0] n) e)) w.heap.size 0 n (fun _ => 0):=by
 intro i hi
 refine ⟨?_,by simp⟩
 simp [madeCells,hi,Nat.mod_one]

theorem Tryz.info_u8:(Tryz.prog.info? 5).map (fun i => (i.zero,i.size,i.bytes)) = some (some (.int .u8 0),1,1):=by kernel_rfl
theorem own_len {w:World} {base k:Nat} {e:TypeId} {v:Value} {ws:List Value} (h:w.ownsRow base e 1 v k ws):∃ a c,v = .slice a k c:=by
 rcases h.2 with ⟨e,h0⟩ | ⟨g,cap,cur,e,hb,h5,h6,h7,h8,h9⟩
 ·subst e h0
  exact ⟨none,0,rfl⟩
 ·subst e
  exact ⟨_,_,rfl⟩

def MI (N:Nat):Prop:=∀ (w:World) (bz oz nz cz:Nat) (a1:Option Addr) (n1 c1:Nat) (xs:List Nat) (a2:Option Addr) (n2 c2:Nat) (ys:List Nat),n1 + n2 ≤ N → MulPre w bz oz nz cz a1 n1 c1 xs a2 n2 c2 ys →
 Calls Tryz.prog 172 #[.slice (some ⟨bz,oz,none⟩) nz cz,.slice a1 n1 c1,.slice a2 n2 c2] w fun e w' => MulPost w bz oz nz (val xs * val ys) e w'

theorem Fn.below {w w':World} {b off n:Nat} {f:Nat → Nat} (h:Fn w b off n f) (k:Below w.heap.size w w'):Fn w' b off n f:=by
 intro i hi
 have:=h i hi
 have hlt:=World.block_lt_of_cell? _ _ this.1
 exact ⟨(k.cell hlt).trans this.1,(k.frozen hlt).trans this.2⟩

theorem Fn.part {w:World} {b off n:Nat} {f:Nat → Nat} (h:Fn w b off n f) (k m:Nat) (hm:k + m ≤ n):Fn w b (off + k) m (fun i => f (k + i)):=by
 intro i hi
 have:=h (k + i) (by omega)
 rw [← Nat.add_assoc] at this
 exact this

theorem Fn.join {w:World} {b off k m:Nat} {f g:Nat → Nat} (h1:Fn w b off k f) (h2:Fn w b (off + k) m g):Fn w b off (k + m) (fun i => if i < k then f i else g (i - k)):=by
 intro i hi
 by_cases e:i < k
 ·simp only [e,if_true]; exact h1 i e
 ·simp only [e,if_false]
  have:=h2 (i - k) (by omega)
  rw [show off + k + (i - k) = off + i from by omega] at this
  exact this

theorem valF_join (f g:Nat → Nat) (k m:Nat):valF (fun i => if i < k then f i else g (i - k)) (k + m) = valF f k + 4294967296 ^ k * valF g m:=by
 rw [valF_add,valF_congr (g:=f) (fun i hi => by simp [hi]),valF_congr (f:=fun j => if k + j < k then f (k + j) else g (k + j - k)) (g:=g) (fun i hi => by rw [if_neg (by omega),Nat.add_sub_cancel_left])]

theorem rep_len_le {v j:Nat} {zs:List Nat} (h:Rep v zs) (hv:v < 4294967296 ^ j):zs.length ≤ j:=by
 rcases Nat.lt_or_ge j zs.length with hlt | hge
 ·exfalso
  have h1:=val_ge_of_norm h.norm (by intro e; subst e; simp at hlt)
  rw [h.val] at h1
  have h2:4294967296 ^ j ≤ 4294967296 ^ (zs.length - 1):=pow_mono (by omega)
  omega
 ·exact hge

theorem carry_zero {x y P c:Nat} (h:x + P * c = y) (hy:y < P):c = 0 ∧ x = y:=by
 rcases Nat.eq_zero_or_pos c with h0 | h0
 ·subst h0; simp at h; exact ⟨rfl,h⟩
 ·exfalso
  have:P * 1 ≤ P * c:=Nat.mul_le_mul_left _ h0
  omega

structure PieceR (wr w:World) (bz oz nz:Nat) (xs ys:List Nat) (k:Nat) (f:Nat → Nat):Prop where
 fn:Fn wr bz oz nz f
 ok:∀ i,i < nz → f i < 4294967296
 vl:valF f nz = val (xs.take k) * val ys
 upd:Upd bz oz (oz + nz) w wr

theorem take_lt {xs:List Nat} (ox:Ok xs) (t:Nat) (h:t ≤ xs.length):val (xs.take t) < 4294967296 ^ t:=by
 have:=val_lt (ox.take t)
 rwa [List.length_take,Nat.min_eq_left h] at this

theorem take_split (xs:List Nat) (k p:Nat) (h:k + p ≤ xs.length):val (xs.take (k + p)) = val (xs.take k) + 4294967296 ^ k * val ((xs.drop k).take p):=by
 rw [List.take_add,val_append,List.length_take,Nat.min_eq_left (by omega)]

theorem PieceR.step {wr w w5 w6:World} {bz oz nz n1 n2:Nat} {xs ys:List Nat} {k p k' c:Nat} {f f':Nat → Nat} (h:PieceR wr w bz oz nz xs ys k f) (hl1:xs.length = n1) (hl2:ys.length = n2) (hnz:n1 + n2 = nz) (ox:Ok xs) (oy:Ok ys) (hp:k + p ≤ n1)
  (hk':xs.take k' = xs.take (k + p)) (bz5:bz < wr.heap.size) (b5:Below wr.heap.size wr w5) (hF:Fn w6 bz (oz + k) (nz - k) f') (hok:∀ i,i < nz - k → f' i < 4294967296)
  (hval:valF f' (nz - k) + 4294967296 ^ (nz - k) * c = valF (fun i => f (k + i)) (nz - k) + val ((xs.drop k).take p) * val ys) (hupd:Upd bz (oz + k) (oz + k + (nz - k)) w5 w6) :
  ∃ g,PieceR w6 w bz oz nz xs ys k' g:=by
 have hkn:k + (nz - k) = nz:=by omega
 have u1:Upd bz oz (oz + nz) wr w5:=.of_below bz5 b5
 have u2:Upd bz oz (oz + nz) w5 w6:=hupd.mono (by omega) (by omega)
 have fl:Fn w6 bz oz k f:=by
  have:=((h.fn.below b5).part 0 k (by omega))
  simp only [Nat.zero_add,Nat.add_zero] at this
  exact hupd.fn this (.inr (.inl (by omega)))
 have hj:=Fn.join fl hF
 rw [hkn] at hj
 refine ⟨_,hj,?_,?_,(h.upd.trans u1).trans u2⟩
 ·intro i hi
  by_cases e:i < k
  ·simp only [e,if_true]; exact h.ok i hi
  ·simp only [e,if_false]; exact hok _ (by omega)
 ·have e1:=valF_join f f' k (nz - k)
  rw [hkn] at e1
  rw [e1,hk',take_split xs k p (by omega)]
  have e2:=valF_add f k (nz - k)
  rw [hkn,h.vl] at e2
  have e3:valF f k + 4294967296 ^ k * valF f' (nz - k) + 4294967296 ^ nz * c = (val (xs.take k) + 4294967296 ^ k * val ((xs.drop k).take p)) * val ys:=by
   have e4:4294967296 ^ nz * c = 4294967296 ^ k * (4294967296 ^ (nz - k) * c):=by rw [← Nat.mul_assoc,← Nat.pow_add,hkn]
   rw [e4,Nat.add_assoc,← Nat.mul_add,hval,Nat.mul_add,← Nat.add_assoc,← e2,Nat.add_mul,Nat.mul_assoc]
  have hlt:(val (xs.take k) + 4294967296 ^ k * val ((xs.drop k).take p)) * val ys < 4294967296 ^ nz:=by
   rw [← take_split xs k p (by omega)]
   have a1:=take_lt ox (k + p) (by omega)
   have a2:=val_lt oy
   have a3:4294967296 ^ (k + p) ≤ 4294967296 ^ n1:=pow_mono hp
   rw [← hnz,Nat.pow_add,← hl2]
   exact Nat.mul_lt_mul_of_lt_of_le (by omega) (by omega) (pow_pos _)
  exact (carry_zero e3 hlt).2
theorem and_m2 (x y:Nat):(x &&& y) % 2 = (x % 2) * (y % 2):=by
 have h:=@Nat.and_mod_two_eq_one x y
 rcases Nat.mod_two_eq_zero_or_one x with a | a <;> rcases Nat.mod_two_eq_zero_or_one y with b | b <;> rw [a,b] at h ⊢ <;> omega
theorem and_not_add:∀ (f x y:Nat),x < 2 ^ f → y < 2 ^ f → (x &&& y) + (x &&& (2 ^ f - 1 - y)) = x
 | 0,x,y,hx,hy => by simp at hx hy; subst hx; subst hy; rfl
 | f + 1,x,y,hx,hy => by
  have hp:2 ^ (f + 1) = 2 * 2 ^ f:=by rw [Nat.pow_succ,Nat.mul_comm]
  have h0:=Nat.two_pow_pos f
  rw [hp] at hx hy ⊢
  have h:=and_not_add f (x / 2) (y / 2) (by omega) (by omega)
  have e1:(2 * 2 ^ f - 1 - y) / 2 = 2 ^ f - 1 - y / 2:=by omega
  have e2:(2 * 2 ^ f - 1 - y) % 2 = 1 - y % 2:=by omega
  rw [← e1,← Nat.and_div_two,← Nat.and_div_two] at h
  have a:=and_m2 x y
  have b:=and_m2 x (2 * 2 ^ f - 1 - y)
  rw [e2] at b
  generalize 2 * 2 ^ f - 1 - y = z at *
  have c:(x % 2) * (y % 2) + (x % 2) * (1 - y % 2) = x % 2:=by
   rcases Nat.mod_two_eq_zero_or_one y with d | d <;> rw [d] <;> omega
  omega
structure SlB (w:World) (a:Option Addr) (n c:Nat) (bs:List Nat):Prop where
 len:bs.length = n
 le:n ≤ c
 ok:∀ x ∈ bs,x < 256
 cells:bs = [] ∨ ∃ b off,a = some ⟨b,off,none⟩ ∧ ∀ i,i < bs.length → w.cell? ⟨b,off + i,none⟩ = some (.int .u8 (bs.getD i 0:Nat))

theorem fit_lt {v M:Nat} (h:v < 4294967296 ^ M) (hM:M ≤ 2048):fitL v = (limbs v,0):=by
 apply fitL_ok
 intro hb
 have hr:=limbs_rep v
 have h2:=val_ge_of_norm hr.norm (by intro e; rw [e] at hb; simp at hb)
 have h4:4294967296 ^ M ≤ 4294967296 ^ ((limbs v).length - 1):=pow_mono (by omega)
 rw [hr.val] at h2
 omega
def strB (bs:List Nat):ByteArray:=strOfNums (bs.map (fun x:Nat => (x:Int)))

theorem SlB.conv {w:World} {a:Option Addr} {n c:Nat} {bs:List Nat} (h:SlB w a n c bs) :
  (convert 108 9 (.slice a n c)).run Tryz.prog w = .ok (.string (strB bs)) w:=by
 have hl:=h.len
 cases a with
 | none =>
  rcases h.cells with e | ⟨b,off,e,_⟩
  ·subst e
   exact run_convert_bytes_nil w 108 5 Tryz.underlying108 Tryz.underlying5 n c 9 Tryz.underlying9
  ·cases e
 | some x =>
  rcases h.cells with e | ⟨b,off,e,hc⟩
  ·subst e
   simp at hl
   subst hl
   rw [run_convert_bytes_string w 108 9 5 _ 0 c Tryz.underlying108 Tryz.underlying5 Tryz.underlying9,run_bytesToString w x 0 c [] (by simpa using run_loadCells_list (P:=Tryz.prog) w x [] (by simp))]
   rfl
  ·cases e
   refine run_convert_bytes_arg w 108 5 Tryz.underlying108 Tryz.underlying5 b off n c (bs.map (fun x:Nat => (x:Int))) (by simpa using hl) (fun i hi => ?_) 9 Tryz.underlying9
   rw [hc i (by omega)]
   congr 2
   simp only [List.getD_eq_getElem?_getD,List.getElem?_map]
   cases bs[i]? <;> rfl

structure Pc where
 a:Option Addr
 n:Nat
 c:Nat
 xs:List Nat

def Pc.v (p:Pc):Value:=.slice p.a p.n p.c
theorem lst_mem {f:Nat → Nat} {n x:Nat} (h:x ∈ lst f n):∃ i,i < n ∧ f i = x:=by
 simpa [lst] using h
def dgt (V b i:Nat):Nat:=V / b ^ i % b
def chrN (d:Nat):Nat:=if d < 10 then 48 + d else 87 + d
structure TxtOf (V b n:Nat):Prop where
 pos:1 ≤ n
 lt:V < b ^ n
 ge:n = 1 ∨ b ^ (n - 1) ≤ V

theorem TxtOf.le {V b n m:Nat} (hb:2 ≤ b) (h:TxtOf V b n) (g:TxtOf V b m):n ≤ m:=by
 rcases h.ge with e | e
 ·have:=g.pos; omega
 ·rcases Nat.lt_or_ge m n with k | k
  ·exfalso
   have h1:b ^ m ≤ b ^ (n - 1):=Nat.pow_le_pow_right (by omega) (by omega)
   have:=g.lt
   omega
  ·exact k
theorem TxtOf.uniq {V b n m:Nat} (hb:2 ≤ b) (h:TxtOf V b n) (g:TxtOf V b m):n = m:=Nat.le_antisymm (h.le hb g) (g.le hb h)

theorem dgt_lt (V i:Nat) {b:Nat} (hb:0 < b):dgt V b i < b:=Nat.mod_lt _ hb
theorem dgt_div (V b i j:Nat):dgt (V / b ^ i) b j = dgt V b (i + j):=by
 unfold dgt
 rw [Nat.div_div_eq_div_mul,← Nat.pow_add]
theorem dgt_mod (V b:Nat) {i j:Nat} (hb:0 < b) (h:j < i):dgt (V % b ^ i) b j = dgt V b j:=by
 unfold dgt
 obtain ⟨k,rfl⟩:∃ k,i = j + (k + 1):=⟨i - j - 1,by omega⟩
 rw [Nat.pow_add,Nat.mod_mul_right_div_self,Nat.pow_succ,Nat.mul_comm,Nat.mod_mul_right_mod]
theorem chrN_lt {d:Nat} (h:d < 36):chrN d < 256:=by unfold chrN; split <;> omega
theorem chrN_zero {d:Nat} (h:d < 36):chrN d = 48 ↔ d = 0:=by unfold chrN; split <;> omega

def txtL (V b n:Nat):List Nat:=lst (fun p => chrN (dgt V b (n - 1 - p))) n

open Go.RowKit Go.Deep
set_option linter.unusedVariables false

theorem ownsRow_below {w w':World} {base:Nat} {e:TypeId} {size:Nat} {v:Value} {n:Nat} {xs:List Value} (h:w.ownsRow base e size v n xs) (k:Below w.heap.size w w'):w'.ownsRow base e size v n xs:=by
 refine ⟨h.1,?_⟩
 rcases h.2 with e0 | ⟨g,cap,cur,e0,hb,h5,h6,h7,h8,h9⟩
 ·exact .inl e0
 ·exact .inr ⟨g,cap,cur,e0,hb,by rw [k.block g (by
   rcases Nat.lt_or_ge g w.heap.size with hlt | hge
   ·exact hlt
   ·simp [Array.getElem?_eq_none hge] at h5)]; exact h5,h6,h7,h8,h9⟩

inductive PrIs (xs:List Nat) (b:Int):ByteArray → Int → Prop where
 | nat (h:MayL xs = false):PrIs xs b (strB []) 20
 | base (h:MayL xs = true) (hb:¬ (2 ≤ b ∧ b ≤ 36)):PrIs xs b (strB []) 22
 | text (n:Nat) (h:MayL xs = true) (hb:2 ≤ b ∧ b ≤ 36) (ht:TxtOf (val xs) b.toNat n):PrIs xs b (strB (txtL (val xs) b.toNat n)) 0

def PrPost (xs:List Nat) (b:Int) (w:World) (e:Ending) (w':World):Prop :=
 ∃ s er,e = .returned (.tuple #[.string s,.int .i64 er]) ∧ PrIs xs b s er ∧ Below w.heap.size w w'

theorem FnB.slB {w:World} {b off n c:Nat} {f:Nat → Nat} (h:FnB w b off n f) (hc:n ≤ c) (hf:∀ i,i < n → f i < 256):SlB w (some ⟨b,off,none⟩) n c (lst f n):=by
 refine ⟨lst_len _ _,hc,fun x hx => ?_,.inr ⟨b,off,rfl,fun i hi => ?_⟩⟩
 ·obtain ⟨i,hi,rfl⟩:=lst_mem hx
  exact hf i hi
 ·rw [lst_len] at hi
  rw [lst_getD f n i hi]
  exact (h i hi).1
theorem chr_ok (V:Nat) {b:Nat} (hb:2 ≤ b) (hb2:b ≤ 36) (i:Nat):chrN (dgt V b i) < 256:=chrN_lt (by have:=dgt_lt V i (b:=b) (by omega); omega)

theorem chr_up {D:Nat} (h:D < 10):chrN D = 48 + D:=by unfold chrN; rw [if_pos h]
open Go.RowKit Go.Deep
set_option linter.unusedVariables false
theorem limbs_ok (v:Nat):Ok (limbs v):=(limbs_rep v).ok
theorem limbs_norm (v:Nat):Norm (limbs v):=(limbs_rep v).norm
theorem limbs_v (v:Nat):val (limbs v) = v:=(limbs_rep v).val
theorem limbs_len {v j:Nat} (hv:v < 4294967296 ^ j):(limbs v).length ≤ j:=by
 rcases Nat.lt_or_ge j (limbs v).length with k | k
 ·exfalso
  have hz:limbs v ≠ []:=by intro e; rw [e] at k; simp at k
  have h1:=val_ge_of_norm (limbs_norm v) hz
  rw [limbs_v] at h1
  have h2:4294967296 ^ j ≤ 4294967296 ^ ((limbs v).length - 1):=Nat.pow_le_pow_right (by decide) (by omega)
  omega
 ·exact k
theorem limbs_lt (v:Nat):v < 4294967296 ^ (limbs v).length:=by have:=val_lt (limbs_ok v); rwa [limbs_v] at this
theorem limbs_eq_nil {v:Nat}:limbs v = [] ↔ v = 0:=by
 constructor
 ·intro h; have:=limbs_v v; rw [h] at this; exact this.symm
 ·rintro rfl; rfl
def bitN (v i:Nat):Nat:=v / 2 ^ i % 2
theorem bit_limb {xs:List Nat} (ox:Ok xs) {i l s:Nat} (hl:i / 32 = l) (hs:i % 32 = s):bitN (val xs) i = xs.getD l 0 / 2 ^ s % 2:=by
 have hi:i = 32 * l + s:=by omega
 have hs32:s < 32:=by omega
 have hp:=pow_split hs32
 have hpos:=(pow_s hs32).1
 have e3:=val_drop ox l
 have e1:=val_drop_step xs l
 unfold bitN
 rw [hi,Nat.pow_add,← pow_limb,← Nat.div_div_eq_div_mul,← e3,e1]
 generalize xs.getD l 0 = x
 generalize val (xs.drop (l + 1)) = r
 have e4:x + 4294967296 * r = x + 2 ^ s * (2 * (2 ^ (31 - s) * r)):=by
  have:2 ^ s * (2 * (2 ^ (31 - s) * r)) = 4294967296 * r:=by
   rw [← hp,show 32 - s = 31 - s + 1 from by omega,Nat.pow_succ,Nat.mul_comm (2 ^ (31 - s)) 2,← Nat.mul_assoc 2,Nat.mul_assoc (2 ^ s)]
  omega
 rw [e4,Nat.add_mul_div_left _ _ (by omega),Nat.add_mul_mod_self_left]

theorem and_one (y:Nat) (hy:y < 4294967296):bits .and .u32 (y:Int) 1 = ((y % 2:Nat):Int):=by
 have:=u32_and_nat y 1 hy (by decide)
 rw [Nat.and_one_is_mod] at this
 exact this

theorem shr_lt {x s:Nat} (hx:x < 4294967296):x / 2 ^ s < 4294967296:=Nat.lt_of_le_of_lt (Nat.div_le_self _ _) hx
section
variable {P:Program} {w:World}
end




theorem strB_data (xs:List Nat):(strB xs).data = (xs.map fun x => UInt8.ofNat x).toArray:=by
 unfold strB strOfNums
 simp [List.map_map,Function.comp_def]
theorem strB_app (xs ys:List Nat):strB (xs ++ ys) = strB xs ++ strB ys:=by
 apply ByteArray.ext
 rw [ByteArray.data_append,strB_data,strB_data,strB_data]
 simp
theorem strB_len (xs:List Nat):(strB xs).size = xs.length:=by unfold strB; rw [strOfNums_size]; simp
theorem strB_front (xs ys:List Nat) {n:Nat} (h:xs.length = n):(strB (xs ++ ys)).extract 0 n = strB xs:=by
 apply ByteArray.ext
 rw [ByteArray.data_extract,strB_data,strB_data]
 subst h
 simp
theorem strB_back (xs ys:List Nat) {n m:Nat} (h:xs.length = n) (hm:n + ys.length = m):(strB (xs ++ ys)).extract n m = strB ys:=by
 apply ByteArray.ext
 rw [ByteArray.data_extract,strB_data,strB_data]
 subst h
 subst hm
 simp
 exact List.take_of_length_le (by simp)
theorem lst_add (f:Nat → Nat) (m k:Nat):lst f (m + k) = lst f m ++ lst (fun q => f (m + q)) k:=by
 unfold lst
 rw [List.range_add,List.map_append,List.map_map]
 rfl
theorem lst_same {f g:Nat → Nat} {n:Nat} (h:∀ i,i < n → f i = g i):lst f n = lst g n:=by
 unfold lst
 exact List.map_congr_left (fun i hi => h i (List.mem_range.1 hi))
theorem txtL_len (V b n:Nat):(txtL V b n).length = n:=lst_len _ _
theorem txtL_split (V m k:Nat):txtL V 10 (m + k) = txtL (V / 10 ^ k) 10 m ++ txtL (V % 10 ^ k) 10 k:=by
 unfold txtL
 rw [lst_add]
 congr 1
 ·refine lst_same (fun p hp => ?_)
  rw [dgt_div]
  congr 2
  omega
 ·refine lst_same (fun q hq => ?_)
  rw [dgt_mod V 10 (by decide) (show k - 1 - q < k by omega)]
  congr 2
  omega
theorem txtL_one {V:Nat} (h:V < 10):txtL V 10 1 = [48 + V]:=by
 unfold txtL lst dgt
 simp
 rw [Nat.mod_eq_of_lt h,chr_up h]
theorem txtL_pad {V j:Nat} (h:V < 10 ^ j):txtL V 10 (j + 1) = 48 :: txtL V 10 j:=by
 rw [Nat.add_comm,txtL_split,Nat.div_eq_of_lt h,Nat.mod_eq_of_lt h,txtL_one (by decide)]
 rfl
theorem txtL_pads {V j:Nat} (h:V < 10 ^ j) (c:Nat):txtL V 10 (j + c) = List.replicate c 48 ++ txtL V 10 j:=by
 induction c with
 | zero => simp
 | succ c ih =>
  rw [← Nat.add_assoc,txtL_pad (Nat.lt_of_lt_of_le h (Nat.pow_le_pow_right (by decide) (by omega))),ih]
  rfl
theorem TxtOf.le_of {V L k:Nat} (h:TxtOf V 10 L) (hk:1 ≤ k) (hV:V < 10 ^ k):L ≤ k:=by
 rcases h.ge with e | e
 ·omega
 ·have:=(Nat.pow_lt_pow_iff_right (show 1 < 10 by decide)).1 (Nat.lt_of_le_of_lt e hV)
  omega
def dotB (N k:Nat):ByteArray:=if k = 0 then ⟨#[]⟩ else ⟨#[46]⟩ ++ strB (txtL (N % 10 ^ k) 10 k)
theorem dotB_zero (N:Nat) {k:Nat} (h:k = 0):dotB N k = ⟨#[]⟩:=by unfold dotB; rw [if_pos h]
theorem dotB_pos (N:Nat) {k:Nat} (h:k ≠ 0):dotB N k = ⟨#[46]⟩ ++ strB (txtL (N % 10 ^ k) 10 k):=by unfold dotB; rw [if_neg h]

def digitN (c:Nat):Nat:=if 48 ≤ c ∧ c ≤ 57 then c - 48 else if 97 ≤ c ∧ c ≤ 122 then c - 97 + 10 else if 65 ≤ c ∧ c ≤ 90 then c - 65 + 10 else 36
theorem digitN_le (c:Nat):digitN c ≤ 36:=by
 unfold digitN
 split
 ·omega
 ·split
  ·omega
  ·split <;> omega
theorem digit_ways (c:Nat):(c < 48 ∧ digitN c = 36) ∨ (48 ≤ c ∧ c ≤ 57 ∧ (digitN c:Int) = c - 48) ∨ (57 < c ∧ c < 65 ∧ digitN c = 36) ∨ (65 ≤ c ∧ c ≤ 90 ∧ (digitN c:Int) = c - 65 + 10) ∨ (90 < c ∧ c < 97 ∧ digitN c = 36) ∨ (97 ≤ c ∧ c ≤ 122 ∧ (digitN c:Int) = c - 97 + 10) ∨ (122 < c ∧ digitN c = 36):=by
 unfold digitN
 split
 ·right; left; omega
 ·split
  ·right; right; right; right; right; left; omega
  ·split
   ·right; right; right; left; omega
   ·omega

set_option maxHeartbeats 4000000 in
theorem ndigit_any (c:Nat) (hc:c < 256) (w:World) :
  Calls Tryz.prog 170 #[.int .u8 (c:Nat)] w fun e w' => e = .returned (.int .i64 (digitN c:Nat)) ∧ w' = w:=by
 have HW:=digit_ways c
 generalize digitN c = D at HW ⊢
 rcases HW with ⟨h1,rfl⟩ | ⟨h1,h2,h3⟩ | ⟨h1,h2,rfl⟩ | ⟨h1,h2,h3⟩ | ⟨h1,h2,rfl⟩ | ⟨h1,h2,h3⟩ | ⟨h1,rfl⟩
 ·have a1:(c:Int) < 48:=by omega
  clear h1
  go_enter Tryz.func170,Tryz.ntmps170
  go_wp2_with fail
  go_ret
  exact ⟨rfl,rfl⟩
 ·have a1:48 ≤ (c:Int):=by omega
  have a2:(c:Int) ≤ 57:=by omega
  have H3:=Hj h3
  clear h1 h2 h3
  go_enter Tryz.func170,Tryz.ntmps170
  go_wp2_with fail
  go_ret
  exact ⟨by rw [Uh H3]; rfl,rfl⟩
 ·have a1:57 < (c:Int):=by omega
  have a2:(c:Int) < 65:=by omega
  clear h1 h2
  go_enter Tryz.func170,Tryz.ntmps170
  go_wp2_with fail
  go_ret
  exact ⟨rfl,rfl⟩
 ·have a1:65 ≤ (c:Int):=by omega
  have a2:(c:Int) ≤ 90:=by omega
  have H3:=Hj h3
  clear h1 h2 h3
  go_enter Tryz.func170,Tryz.ntmps170
  go_wp2_with fail
  go_ret
  exact ⟨by rw [Uh H3]; rfl,rfl⟩
 ·have a1:90 < (c:Int):=by omega
  have a2:(c:Int) < 97:=by omega
  clear h1 h2
  go_enter Tryz.func170,Tryz.ntmps170
  go_wp2_with fail
  go_ret
  exact ⟨rfl,rfl⟩
 ·have a1:97 ≤ (c:Int):=by omega
  have a2:(c:Int) ≤ 122:=by omega
  have H3:=Hj h3
  clear h1 h2 h3
  go_enter Tryz.func170,Tryz.ntmps170
  go_wp2_with fail
  go_ret
  exact ⟨by rw [Uh H3]; rfl,rfl⟩
 ·have a1:122 < (c:Int):=by omega
  clear h1
  go_enter Tryz.func170,Tryz.ntmps170
  go_wp2_with fail
  go_ret
  exact ⟨rfl,rfl⟩

open Go.RowKit Go.Deep
set_option linter.unusedVariables false

structure Chunk (b c:Nat):Prop where
 pos:1 ≤ c
 le:c ≤ 31
 lt:b ^ c < 4294967296
 ge:4294967296 ≤ b ^ c * b

def ChPost (b:Nat) (w:World) (e:Ending) (w':World):Prop :=
 ∃ c,Chunk b c ∧ e = .returned (.tuple #[.int .i64 (c:Nat),.int .u32 (b ^ c:Nat)]) ∧ w' = w

theorem chunk_le {b c:Nat} (hb:2 ≤ b) (h:b ^ c < 4294967296):c ≤ 31:=by
 have h1:2 ^ c ≤ b ^ c:=Nat.pow_le_pow_left hb c
 have h2:2 ^ c < 2 ^ 32:=Nat.lt_of_le_of_lt h1 h
 have:=(Nat.pow_lt_pow_iff_right (by decide:1 < 2)).1 h2
 omega

set_option maxHeartbeats 4000000 in
theorem chunk_any (b:Nat) (hb:2 ≤ b) (hb2:b ≤ 36) (w:World) :
  Calls Tryz.prog 165 #[.int .i64 (b:Nat)] w fun e w' => ChPost b w e w':=by
 go_enter Tryz.func165,Tryz.ntmps165
 go_wp2_with fail
 go_loop [4,5] (fun cv wv => ∃ c:Nat,1 ≤ c ∧ b ^ c < 4294967296 ∧ cv = .int .i64 (c:Nat) ∧ wv = .int .u64 (b ^ c:Nat)) (fun cv _ => 32 - (intOf cv).toNat)
 case atStart => exact ⟨1,Nat.le_refl _,by simp; omega,rfl,by simp⟩
 case round =>
  obtain ⟨c,hc,hlt,rfl,rfl⟩:=hrel
  have hc31:=chunk_le hb hlt
  have hb36:b ^ c * b ≤ b ^ c * 36:=Nat.mul_le_mul_left _ hb2
  obtain ⟨p,hp⟩:∃ p,b ^ c * b = p:=⟨_,rfl⟩
  have hp1:b ^ (c + 1) = p:=by rw [Nat.pow_succ,hp]
  obtain ⟨W,hW⟩:∃ W,b ^ c = W:=⟨_,rfl⟩
  rw [hW] at hb36 hlt hp
  have e1:(W:Int) * (b:Int) = (p:Int):=by rw [← hp,Int.natCast_mul]
  rw [hp] at hb36
  have hp64:p < 18446744073709551616:=by omega
  have HW:=Hj hW
  have HP:=Hj hp1
  have HQ:=Hj hp
  by_cases hs:p < 4294967296
  ·have q1:(p:Int) / 4294967296 = 0:=by omega
   rw [hW]
   clear hW hp1 hp
   go_wp2_with fail
   exact ⟨⟨c + 1,by omega,by rw [Uh HP]; exact hs,by go_num,by rw [Uh HP]⟩,by simp [intOf]; omega⟩
  ·obtain ⟨q,hq⟩:∃ q,p / 4294967296 = q:=⟨_,rfl⟩
   have q1:(p:Int) / 4294967296 = (q:Int):=by omega
   have q2:((q:Int) == 0) = false:=by simp; omega
   have q3:¬ (q:Int) = 0:=by omega
   rw [hW]
   clear hW hp1 hp hq
   go_wp2_with fail
   go_ret2
   have HR:b ^ c * b = p:=by rw [Uh HW]; exact Uh HQ
   refine ⟨c,⟨hc,hc31,by rw [Uh HW]; exact hlt,by rw [HR]; omega⟩,by rw [Uh HW]; rfl,rfl⟩

set_option maxHeartbeats 4000000 in
theorem isBase_any (b:Int) (w:World) :
  Calls Tryz.prog 117 #[.int .i64 b] w fun e w' => e = .returned (.bool (decide (2 ≤ b ∧ b ≤ 36))) ∧ w' = w:=by
 by_cases h1:2 ≤ b
 ·by_cases h2:b ≤ 36
  ·go_enter Tryz.func117,Tryz.ntmps117
   go_wp2_with fail
   go_ret
   simp [h1,h2]
  ·go_enter Tryz.func117,Tryz.ntmps117
   go_wp2_with fail
   go_ret
   simp; omega
 ·go_enter Tryz.func117,Tryz.ntmps117
  go_wp2_with fail
  go_ret
  simp; omega
end Go.Proofs.YtmnlhnmlgncedaaGreatDoor
