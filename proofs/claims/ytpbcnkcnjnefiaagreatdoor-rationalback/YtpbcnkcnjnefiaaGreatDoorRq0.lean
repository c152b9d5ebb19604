/- Rp1 -/
import Derived.Test.YtpbcnkcnjnefiaaGreatDoorBase
import Derived.Deep.AppendLies
import Derived.Deep.RegionLaw
import Derived.Deep.DeepMust
namespace Go.Proofs.YtpbcnkcnjnefiaaGreatDoor
open Go.RowKit Go.Deep
set_option linter.unusedVariables false
def kdN (c:Nat):Nat:=if 48 ≤ c ∧ c ≤ 57 then 1 else if c = 45 then 2 else if c = 43 then 3 else if c = 47 then 4 else if c = 46 then 5 else if c = 101 ∨ c = 69 then 6 else 0
def byA (s:ByteArray) (i:Nat):Nat:=(s.get! i).toNat
def kdA (s:ByteArray) (i:Nat):Nat:=if i = s.size then 7 else kdN (byA s i)
theorem kdN_lt (c:Nat):kdN c < 7:=by unfold kdN; repeat (first | (split) | omega)
theorem kdA_lt (s:ByteArray) (i:Nat):kdA s i < 8:=by
 unfold kdA
 split
 ·omega
 ·have:=kdN_lt (byA s i); omega
def bhL:List Nat:=[0,0,0,0,0,0,0,0,0,3,2,0,0,0,0,0,0,3,0,0,0,0,0,0,0,3,0,0,4,6,8,11,0,5,0,0,0,0,0,0,0,5,0,0,0,0,0,11,0,7,0,0,0,0,0,0,0,7,0,0,0,0,8,11,0,10,9,9,0,0,0,0,0,10,0,0,0,0,0,0,0,10,0,0,0,0,0,11,0,0,0,0,0,0,0,0]
def nxS (st k:Nat):Nat:=bhL.getD (st * 8 + k) 0
theorem nxS_lt {st k:Nat} (h:st < 12) (hk:k < 8):nxS st k < 12:=by
 have:∀ a:Fin 12,∀ b:Fin 8,nxS a.1 b.1 < 12:=by decide
 exact this ⟨st,h⟩ ⟨k,hk⟩
def stS (s:ByteArray):Nat → Nat
 | 0 => 1
 | i + 1 => nxS (stS s i) (kdA s i)
theorem stS_lt (s:ByteArray):∀ i,stS s i < 12
 | 0 => (by decide:(1:Nat) < 12)
 | i + 1 => nxS_lt (stS_lt s i) (kdA_lt s i)
def lastS (s:ByteArray) (v:Nat):Nat → Nat
 | 0 => 0
 | i + 1 => if stS s (i + 1) = v then i else lastS s v i
def hasS (s:ByteArray) (v:Nat):Nat → Bool
 | 0 => false
 | i + 1 => if stS s (i + 1) = v then true else hasS s v i
theorem lastS_le (s:ByteArray) (v:Nat):∀ i,lastS s v i ≤ i
 | 0 => Nat.le_refl _
 | i + 1 => by
  unfold lastS
  split
  ·omega
  ·have:=lastS_le s v i; omega
def fineS (s:ByteArray) (i:Nat):Prop:=∀ j,j < i → stS s (j + 1) ≠ 0
theorem fineS.next {s:ByteArray} {i:Nat} (h:fineS s i) (k:stS s (i + 1) ≠ 0):fineS s (i + 1):=fun j hj => by
 rcases Nat.lt_or_eq_of_le (Nat.le_of_lt_succ hj) with e | e
 ·exact h j e
 ·rw [e]; exact k
theorem byA_get (s:ByteArray) (i:Nat) (h:i < s.size):((s[i]'h).toNat:Int) = (byA s i:Int):=by
 unfold byA
 have:s.get! i = s[i]'h:=by
  show s.data[i]! = s.data[i]
  exact getElem!_pos s.data i h
 rw [this]
theorem byte_cases (c:Nat):c = 48 ∨ c = 49 ∨ c = 50 ∨ c = 51 ∨ c = 52 ∨ c = 53 ∨ c = 54 ∨ c = 55 ∨ c = 56 ∨ c = 57 ∨ c = 45 ∨ c = 43 ∨ c = 47 ∨ c = 46 ∨ c = 101 ∨ c = 69 ∨ (c ≠ 48 ∧ c ≠ 49 ∧ c ≠ 50 ∧ c ≠ 51 ∧ c ≠ 52 ∧ c ≠ 53 ∧ c ≠ 54 ∧ c ≠ 55 ∧ c ≠ 56 ∧ c ≠ 57 ∧ c ≠ 45 ∧ c ≠ 43 ∧ c ≠ 47 ∧ c ≠ 46 ∧ c ≠ 101 ∧ c ≠ 69):=by
 by_cases h48:c = 48
 ·exact .inl h48
 by_cases h49:c = 49
 ·exact .inr (.inl h49)
 by_cases h50:c = 50
 ·exact .inr (.inr (.inl h50))
 by_cases h51:c = 51
 ·exact .inr (.inr (.inr (.inl h51)))
 by_cases h52:c = 52
 ·exact .inr (.inr (.inr (.inr (.inl h52))))
 by_cases h53:c = 53
 ·exact .inr (.inr (.inr (.inr (.inr (.inl h53)))))
 by_cases h54:c = 54
 ·exact .inr (.inr (.inr (.inr (.inr (.inr (.inl h54))))))
 by_cases h55:c = 55
 ·exact .inr (.inr (.inr (.inr (.inr (.inr (.inr (.inl h55)))))))
 by_cases h56:c = 56
 ·exact .inr (.inr (.inr (.inr (.inr (.inr (.inr (.inr (.inl h56))))))))
 by_cases h57:c = 57
 ·exact .inr (.inr (.inr (.inr (.inr (.inr (.inr (.inr (.inr (.inl h57)))))))))
 by_cases h45:c = 45
 ·exact .inr (.inr (.inr (.inr (.inr (.inr (.inr (.inr (.inr (.inr (.inl h45))))))))))
 by_cases h43:c = 43
 ·exact .inr (.inr (.inr (.inr (.inr (.inr (.inr (.inr (.inr (.inr (.inr (.inl h43)))))))))))
 by_cases h47:c = 47
 ·exact .inr (.inr (.inr (.inr (.inr (.inr (.inr (.inr (.inr (.inr (.inr (.inr (.inl h47))))))))))))
 by_cases h46:c = 46
 ·exact .inr (.inr (.inr (.inr (.inr (.inr (.inr (.inr (.inr (.inr (.inr (.inr (.inr (.inl h46)))))))))))))
 by_cases h101:c = 101
 ·exact .inr (.inr (.inr (.inr (.inr (.inr (.inr (.inr (.inr (.inr (.inr (.inr (.inr (.inr (.inl h101))))))))))))))
 by_cases h69:c = 69
 ·exact .inr (.inr (.inr (.inr (.inr (.inr (.inr (.inr (.inr (.inr (.inr (.inr (.inr (.inr (.inr (.inl h69)))))))))))))))
 exact .inr (.inr (.inr (.inr (.inr (.inr (.inr (.inr (.inr (.inr (.inr (.inr (.inr (.inr (.inr (.inr (⟨h48,h49,h50,h51,h52,h53,h54,h55,h56,h57,h45,h43,h47,h46,h101,h69⟩))))))))))))))))
set_option maxHeartbeats 4000000 in
theorem kindAt_any (s:ByteArray) (i:Nat) (w:World) (hs:s.size ≤ 65536) (hi:i ≤ s.size) :
  Calls Tryz.prog 64 #[.string s,.int .i64 (i:Nat)] w fun e w' => e = .returned (.int .i64 (kdA s i:Nat)) ∧ w' = w:=by
 by_cases e:i = s.size
 ·have hk:kdA s i = 7:=by unfold kdA; rw [if_pos e]
  rw [hk]
  have t0:((i:Int) == (s.size:Int)) = true:=by simp [e]
  clear hk e
  go_enter Tryz.func64,Tryz.ntmps64
  go_wp2_with fail
  go_ret
  exact ⟨rfl,rfl⟩
 ·have hlt:i < s.size:=by omega
  have hlt':(i:Int) < (s.size:Int):=by omega
  have t0:((i:Int) == (s.size:Int)) = false:=by simp; omega
  have hk:kdA s i = kdN (byA s i):=by unfold kdA; rw [if_neg e]
  rw [hk]
  have hg:=byA_get s i hlt
  clear hk e
  generalize byA s i = c at *
  rcases byte_cases c with rfl | rfl | rfl | rfl | rfl | rfl | rfl | rfl | rfl | rfl | rfl | rfl | rfl | rfl | rfl | rfl | hn
  ·have hv:((s[i]'hlt).toNat:Int) = 48:=hg
   clear hg
   go_enter Tryz.func64,Tryz.ntmps64
   go_wp2_with fail
   go_ret
   exact ⟨rfl,rfl⟩
  ·have hv:((s[i]'hlt).toNat:Int) = 49:=hg
   clear hg
   go_enter Tryz.func64,Tryz.ntmps64
   go_wp2_with fail
   go_ret
   exact ⟨rfl,rfl⟩
  ·have hv:((s[i]'hlt).toNat:Int) = 50:=hg
   clear hg
   go_enter Tryz.func64,Tryz.ntmps64
   go_wp2_with fail
   go_ret
   exact ⟨rfl,rfl⟩
  ·have hv:((s[i]'hlt).toNat:Int) = 51:=hg
   clear hg
   go_enter Tryz.func64,Tryz.ntmps64
   go_wp2_with fail
   go_ret
   exact ⟨rfl,rfl⟩
  ·have hv:((s[i]'hlt).toNat:Int) = 52:=hg
   clear hg
   go_enter Tryz.func64,Tryz.ntmps64
   go_wp2_with fail
   go_ret
   exact ⟨rfl,rfl⟩
  ·have hv:((s[i]'hlt).toNat:Int) = 53:=hg
   clear hg
   go_enter Tryz.func64,Tryz.ntmps64
   go_wp2_with fail
   go_ret
   exact ⟨rfl,rfl⟩
  ·have hv:((s[i]'hlt).toNat:Int) = 54:=hg
   clear hg
   go_enter Tryz.func64,Tryz.ntmps64
   go_wp2_with fail
   go_ret
   exact ⟨rfl,rfl⟩
  ·have hv:((s[i]'hlt).toNat:Int) = 55:=hg
   clear hg
   go_enter Tryz.func64,Tryz.ntmps64
   go_wp2_with fail
   go_ret
   exact ⟨rfl,rfl⟩
  ·have hv:((s[i]'hlt).toNat:Int) = 56:=hg
   clear hg
   go_enter Tryz.func64,Tryz.ntmps64
   go_wp2_with fail
   go_ret
   exact ⟨rfl,rfl⟩
  ·have hv:((s[i]'hlt).toNat:Int) = 57:=hg
   clear hg
   go_enter Tryz.func64,Tryz.ntmps64
   go_wp2_with fail
   go_ret
   exact ⟨rfl,rfl⟩
  ·have hv:((s[i]'hlt).toNat:Int) = 45:=hg
   clear hg
   go_enter Tryz.func64,Tryz.ntmps64
   go_wp2_with fail
   go_ret
   exact ⟨rfl,rfl⟩
  ·have hv:((s[i]'hlt).toNat:Int) = 43:=hg
   clear hg
   go_enter Tryz.func64,Tryz.ntmps64
   go_wp2_with fail
   go_ret
   exact ⟨rfl,rfl⟩
  ·have hv:((s[i]'hlt).toNat:Int) = 47:=hg
   clear hg
   go_enter Tryz.func64,Tryz.ntmps64
   go_wp2_with fail
   go_ret
   exact ⟨rfl,rfl⟩
  ·have hv:((s[i]'hlt).toNat:Int) = 46:=hg
   clear hg
   go_enter Tryz.func64,Tryz.ntmps64
   go_wp2_with fail
   go_ret
   exact ⟨rfl,rfl⟩
  ·have hv:((s[i]'hlt).toNat:Int) = 101:=hg
   clear hg
   go_enter Tryz.func64,Tryz.ntmps64
   go_wp2_with fail
   go_ret
   exact ⟨rfl,rfl⟩
  ·have hv:((s[i]'hlt).toNat:Int) = 69:=hg
   clear hg
   go_enter Tryz.func64,Tryz.ntmps64
   go_wp2_with fail
   go_ret
   exact ⟨rfl,rfl⟩
  ·obtain ⟨n48,n49,n50,n51,n52,n53,n54,n55,n56,n57,n45,n43,n47,n46,n101,n69⟩:=hn
   have t48:((c:Int) == 48) = false:=by simp; omega
   have t49:((c:Int) == 49) = false:=by simp; omega
   have t50:((c:Int) == 50) = false:=by simp; omega
   have t51:((c:Int) == 51) = false:=by simp; omega
   have t52:((c:Int) == 52) = false:=by simp; omega
   have t53:((c:Int) == 53) = false:=by simp; omega
   have t54:((c:Int) == 54) = false:=by simp; omega
   have t55:((c:Int) == 55) = false:=by simp; omega
   have t56:((c:Int) == 56) = false:=by simp; omega
   have t57:((c:Int) == 57) = false:=by simp; omega
   have t45:((c:Int) == 45) = false:=by simp; omega
   have t43:((c:Int) == 43) = false:=by simp; omega
   have t47:((c:Int) == 47) = false:=by simp; omega
   have t46:((c:Int) == 46) = false:=by simp; omega
   have t101:((c:Int) == 101) = false:=by simp; omega
   have t69:((c:Int) == 69) = false:=by simp; omega
   have hk0:kdN c = 0:=by unfold kdN; rw [if_neg (by omega),if_neg n45,if_neg n43,if_neg n47,if_neg n46,if_neg (by omega)]
   rw [hk0]
   clear n48 n49 n50 n51 n52 n53 n54 n55 n56 n57 n45 n43 n47 n46 n101 n69 hk0
   go_enter Tryz.func64,Tryz.ntmps64
   go_wp2_with fail
   go_ret
   exact ⟨rfl,rfl⟩
theorem Tryz.info_u32:(Tryz.prog.info? 84).map (fun i => (i.zero,i.size,i.bytes)) = some (some (.int .u32 0),1,4):=by kernel_rfl

def NewAt (B:Nat) (a:Option Addr):Prop:=∀ x,a = some x → B ≤ x.block

set_option maxHeartbeats 800000 in
theorem sameNat_some (b1 o1 b2 o2 : Nat) (n c1 c2 : Nat) (xs ys : List Nat) (w : World) (hn : n ≤ maxLen) (hx : xs.length = n) (hy : ys.length = n)
   (h1 : Cells w b1 o1 xs) (h2 : Cells w b2 o2 ys) :
    Calls Tryz.prog 36 #[.slice (some ⟨b1, o1, none⟩) n c1, .slice (some ⟨b2, o2, none⟩) n c2] w fun e w' => e = .returned (.bool (decide (xs = ys))) ∧ ∃ k, w' = w.drewN k := by
  unfold maxLen at hn
  go_enter Tryz.func36, Tryz.ntmps36
  go_wp2
  go_loopw [5] (fun i wr => ∃ k : Nat, k ≤ n ∧ i = .int .i64 k ∧ (∀ j, j < k → xs.getD j 0 = ys.getD j 0) ∧ ∃ d, wr = w.drewN d) (fun i _ => n - (intOf i).toNat)
  case atStart => exact ⟨0, Nat.zero_le _, rfl, fun j hj => absurd hj (Nat.not_lt_zero _), 0, rfl⟩
  case round =>
    obtain ⟨k, hk, rfl, ht, d, rfl⟩ := hrel
    by_cases hlt : k < n
    · have hlt' : (k:Int) < (n:Int) := by omega
      have g1 := h1 k (by omega)
      have g2 := h2 k (by omega)
      by_cases he : xs.getD k 0 = ys.getD k 0
      · have HE := hide he
        have hb : (((xs.getD k 0 : Nat) : Int) != ((ys.getD k 0 : Nat) : Int)) = false := by rw [he]; simp
        generalize ((xs.getD k 0 : Nat) : Int) = u at g1 hb
        generalize ((ys.getD k 0 : Nat) : Int) = v at g2 hb
        clear he h1 h2
        go_wp2_with fail
        go_quiet (fail)
        go_wp2
        refine ⟨⟨k + 1, by omega, by go_num, fun j hj => ?_, _, rfl⟩, by simp [intOf]; omega⟩
        by_cases e : j = k
        · rw [e]; exact unhide HE
        · exact ht j (by omega)
      · have hb : (((xs.getD k 0 : Nat) : Int) != ((ys.getD k 0 : Nat) : Int)) = true := by rw [bne_iff_ne]; omega
        have HE := hide he
        generalize ((xs.getD k 0 : Nat) : Int) = u at g1 hb
        generalize ((ys.getD k 0 : Nat) : Int) = v at g2 hb
        clear he h1 h2
        go_wp2_with fail
        go_quiet (fail)
        go_wp2
        go_ret
        refine ⟨?_, _, drewN_add _ _ _⟩
        have : ¬ xs = ys := fun e => unhide HE (by rw [e])
        simp [this]
    · have hk' : k = n := by omega
      have : xs = ys := by
        apply List.ext_getElem (by omega)
        intro i a1 a2
        have := ht i (by omega)
        simpa [List.getD, a1, a2] using this
      have HE := hide this
      clear this hk'
      go_wp2
      go_ret
      exact ⟨by simp [unhide HE], _, rfl⟩

set_option maxHeartbeats 400000 in
theorem sameNat_len (a1 a2:Option Addr) (n1 n2 c1 c2:Nat) (w:World) (hn:((n1:Int) != (n2:Int)) = true) :
  Calls Tryz.prog 36 #[.slice a1 n1 c1,.slice a2 n2 c2] w fun e w' => e = .returned (.bool false) ∧ w' = w:=by
 go_enter Tryz.func36,Tryz.ntmps36
 go_wp2
 go_ret
 exact ⟨rfl,rfl⟩

set_option maxHeartbeats 400000 in
theorem sameNat_nil (a1 a2:Option Addr) (c1 c2:Nat) (w:World) :
  Calls Tryz.prog 36 #[.slice a1 0 c1,.slice a2 0 c2] w fun e w' => e = .returned (.bool true) ∧ w' = w:=by
 go_enter Tryz.func36,Tryz.ntmps36
 go_wp2
 go_loop [5] (fun i => i = .int .i64 0) (fun i => (intOf i).toNat)
 case atStart => rfl
 case round =>
  subst hrel
  go_wp2
  go_ret
  exact ⟨rfl,rfl⟩

theorem sameNat_any (a1 a2:Option Addr) (n1 c1 n2 c2:Nat) (xs ys:List Nat) (w:World) (h1:Sl w a1 n1 c1 xs) (h2:Sl w a2 n2 c2 ys) :
  Calls Tryz.prog 36 #[.slice a1 n1 c1,.slice a2 n2 c2] w fun e w' => e = .returned (.bool (decide (xs = ys))) ∧ ∃ k,w' = w.drewN k:=by
 have l1:=h1.len
 have l2:=h2.len
 by_cases e:n1 = n2
 ·subst e
  by_cases z:n1 = 0
  ·subst z
   have e1:xs = []:=List.eq_nil_of_length_eq_zero l1
   have e2:ys = []:=List.eq_nil_of_length_eq_zero l2
   subst e1 e2
   refine (sameNat_nil a1 a2 c1 c2 w).mono ?_
   rintro e w' ⟨rfl,rfl⟩
   exact ⟨rfl,0,rfl⟩
  ·rcases h1.cells with e1 | ⟨b1,o1,rfl,k1⟩
   ·subst e1; simp at l1; omega
   ·rcases h2.cells with e2 | ⟨b2,o2,rfl,k2⟩
    ·subst e2; simp at l2; omega
    ·exact sameNat_some b1 o1 b2 o2 n1 c1 c2 xs ys w (Nat.le_trans h1.le h1.cap) l1 l2 k1 k2
 ·refine (sameNat_len a1 a2 n1 n2 c1 c2 w (by rw [bne_iff_ne]; omega)).mono ?_
  rintro e w' ⟨rfl,rfl⟩
  have:¬ xs = ys:=fun h => e (by rw [← l1,← l2,h])
  exact ⟨by simp [this],0,rfl⟩
def vals (xs:List Nat):List Value:=xs.map (fun x => Value.int .u32 (x:Nat))

theorem cell_of_block {w:World} {b:Nat} {cur:Array Value} {e:TypeId} {fr:Nat × Nat} (h:w.heap[b]? = some (.cells cur e fr)) (i:Nat):w.cell? ⟨b,i,none⟩ = cur[i]?:=by
 simp [World.cell?,h]

theorem frozen_of_block {w:World} {b:Nat} {cur:Array Value} {e:TypeId} (h:w.heap[b]? = some (.cells cur e)) (i:Nat):w.frozen? ⟨b,i,none⟩ = false:=by
 simp [World.frozen?,h]

theorem set_block {w:World} {b:Nat} {cur:Array Value} {e:TypeId} {fr:Nat × Nat} (h:w.heap[b]? = some (.cells cur e fr)) (i:Nat) (v:Value):(w.setCell ⟨b,i,none⟩ v).heap[b]? = some (.cells (cur.setIfInBounds i v) e fr):=by
 simp only [World.setCell,Array.getElem?_modify,h]
 simp

theorem set_block_other {w:World} {b k i:Nat} (hk:k ≠ b) (v:Value):(w.setCell ⟨b,i,none⟩ v).heap[k]? = w.heap[k]? :=
 Below.heap_setCell w _ v k hk

theorem alloc_block (w:World) (o:Obj):(w.alloc o).heap[w.heap.size]? = some o:=by
 show (w.heap.push o)[w.heap.size]? = some o
 simp

theorem cells_of_block {w:World} {b off:Nat} {cur:Array Value} {e:TypeId} {fr:Nat × Nat} {xs:List Nat} (h:w.heap[b]? = some (.cells cur e fr)) (ht:∀ i,i < xs.length → cur[off + i]? = some (.int .u32 (xs.getD i 0:Nat))):Cells w b off xs:=by
 intro i hi
 rw [cell_of_block h]; exact ht i hi

theorem vals_get {xs:List Nat} {i:Nat} (h:i < xs.length):(vals xs)[i]? = some (.int .u32 (xs.getD i 0:Nat)):=by
 simp [vals,h]

theorem take_vals {cur:Array Value} {n:Nat} {xs:List Nat} (hl:xs.length = n) (h:cur.toList.take n = vals xs):∀ i,i < xs.length → cur[i]? = some (.int .u32 (xs.getD i 0:Nat)):=by
 intro i hi
 have:=vals_get hi
 rw [← h] at this
 simpa [List.getElem?_take,show i < n from by omega] using this
structure Chg (S:Nat → Prop) (w w':World):Prop where
 os:w'.os = w.os
 tape:w'.tape = w.tape
 output:w'.output = w.output
 size:w.heap.size ≤ w'.heap.size
 block:∀ k,k < w.heap.size → ¬ S k → w'.heap[k]? = w.heap[k]?

theorem Chg.refl (S:Nat → Prop) (w:World):Chg S w w:=⟨rfl,rfl,rfl,Nat.le_refl _,fun _ _ _ => rfl⟩
theorem Chg.trans {S:Nat → Prop} {a b c:World} (h:Chg S a b) (k:Chg S b c):Chg S a c :=
 ⟨k.os.trans h.os,k.tape.trans h.tape,k.output.trans h.output,Nat.le_trans h.size k.size,fun i hi hs => (k.block i (Nat.lt_of_lt_of_le hi h.size) hs).trans (h.block i hi hs)⟩
theorem Chg.mono {S T:Nat → Prop} {w w':World} (h:Chg S w w') (hs:∀ k,k < w.heap.size → S k → T k):Chg T w w' :=
 ⟨h.os,h.tape,h.output,h.size,fun k hk hn => h.block k hk (fun hh => hn (hs k hk hh))⟩
theorem Chg.of_below {S:Nat → Prop} {w w':World} (h:Below w.heap.size w w'):Chg S w w' :=
 ⟨h.os,h.tape,h.output,h.size,fun k hk _ => h.block k hk⟩
theorem Chg.of_alloc {S:Nat → Prop} (w:World) (o:Obj):Chg S w (w.alloc o):=.of_below ((Below.refl _ _).alloc (Nat.le_refl _) o)
theorem Chg.of_set {S:Nat → Prop} (w:World) (b i:Nat) (v:Value) (hb:S b):Chg S w (w.setCell ⟨b,i,none⟩ v) :=
 ⟨rfl,rfl,rfl,by simp,fun k hk hs => set_block_other (fun e => by subst e; exact hs hb) v⟩
theorem Chg.of_grown {S:Nat → Prop} {w w':World} {row:Option Nat} (h:w.grownBy w' row) (hr:∀ k,row = some k → S k):Chg S w w' :=
 ⟨h.os,h.tape,h.output,h.size,fun k hk hs => h.block k hk (fun e => hs (hr k e.symm))⟩
theorem Chg.of_drewN {S:Nat → Prop} (w:World) (k:Nat):Chg S w (w.drewN k):=⟨rfl,rfl,rfl,Nat.le_refl _,fun _ _ _ => rfl⟩
theorem Chg.below {S:Nat → Prop} {w w':World} {B:Nat} (h:Chg S w w') (hB:B ≤ w.heap.size) (hs:∀ k,k < B → ¬ S k):Below B w w' :=
 ⟨h.os,h.tape,h.output,h.size,fun k hk => h.block k (by omega) (hs k hk)⟩

theorem Chg.cell {S:Nat → Prop} {w w':World} (h:Chg S w w') {b i:Nat} {v:Value} (hs:¬ S b) (hc:w.cell? ⟨b,i,none⟩ = some v):w'.cell? ⟨b,i,none⟩ = some v:=by
 have hlt:=World.block_lt_of_cell? _ _ hc
 rw [World.cell?_of_block (w:=w) (h.block b hlt hs)]; exact hc

theorem Cells.chg {S:Nat → Prop} {w w':World} {b off:Nat} {xs:List Nat} (h:Cells w b off xs) (k:Chg S w w') (hs:¬ S b):Cells w' b off xs :=
 fun i hi => k.cell hs (h i hi)

theorem Sl.chg {S:Nat → Prop} {w w':World} {a:Option Addr} {n c:Nat} {xs:List Nat} (h:Sl w a n c xs) (k:Chg S w w') (hs:∀ x,a = some x → xs ≠ [] → ¬ S x.block):Sl w' a n c xs :=
 ⟨h.len,h.le,h.cap,h.cells.elim .inl (fun ⟨b,off,e,kk⟩ => by
  by_cases hx:xs = []
  ·exact .inl hx
  ·exact .inr ⟨b,off,e,kk.chg k (hs _ e hx)⟩)⟩

theorem Sl.block_lt {w:World} {a:Option Addr} {n c:Nat} {xs:List Nat} (h:Sl w a n c xs) (hx:xs ≠ []):∀ x,a = some x → x.block < w.heap.size:=by
 intro x hx'
 rcases h.cells with e | ⟨b,off,e,kk⟩
 ·exact absurd e hx
 ·rw [e] at hx'
  cases hx'
  have:=kk 0 (by cases xs with | nil => exact absurd rfl hx | cons => simp)
  exact World.block_lt_of_cell? _ _ this

theorem ownsRow_chg {S:Nat → Prop} {w w':World} {base:Nat} {e:TypeId} {size:Nat} {v:Value} {n:Nat} {xs:List Value} (h:w.ownsRow base e size v n xs) (k:Chg S w w') (hs:∀ k,v.ownBlock = some k → ¬ S k):w'.ownsRow base e size v n xs:=by
 refine ⟨h.1,h.2.imp id ?_⟩
 rintro ⟨g,cap,cur,rfl,hb,hg,h1,h2,h3,h4⟩
 refine ⟨g,cap,cur,rfl,hb,?_,h1,h2,h3,h4⟩
 have hlt:g < w.heap.size:=by
  rcases Nat.lt_or_ge g w.heap.size with hlt | hge
  ·exact hlt
  ·rw [Array.getElem?_eq_none hge] at hg; cases hg
 rw [k.block g hlt (hs g rfl)]; exact hg

structure Ent where
 b:Nat
 c:Nat
 b0:Nat
 c0:Nat
 xs:List Nat

def Ent.v (e:Ent):Value:=.slice (some ⟨e.b,0,none⟩) (e.xs.length + 3) e.c
def Ent.v0 (e:Ent):Value:=.slice (some ⟨e.b0,0,none⟩) (e.xs.length + 3) e.c0

def Own (B:Nat) (v0 v1:Value) (k:Nat):Prop:=k = B ∨ v0.ownBlock = some k ∨ v1.ownBlock = some k

theorem Tryz.info_limbs:(Tryz.prog.info? 22).map (fun i => (i.zero,i.size,i.bytes)) = some (some (.slice none 0 0),1,24):=by kernel_rfl

theorem sl_of_own {w:World} {base g n c:Nat} {xs:List Nat} (h:w.ownsRow base 84 1 (.slice (some ⟨g,0,none⟩) n c) n (vals xs)):Sl w (some ⟨g,0,none⟩) n c xs:=by
 obtain ⟨hl,h2⟩:=h
 have hl':xs.length = n:=by simpa [vals] using hl
 rcases h2 with ⟨h2,h3⟩ | ⟨g',cap,cur,h3,h4,h5,h6,h7,h8,h9⟩
 ·cases h2
 ·injection h3 with e1 e2 e3
  injection e1 with e1
  injection e1 with e1
  subst e1 e3
  refine ⟨hl',h6,h7,.inr ⟨_,_,rfl,cells_of_block h5 ?_⟩⟩
  have:=take_vals hl' (by simpa using h9)
  simpa using this

theorem own_ge {w:World} {base:Nat} {e:TypeId} {size:Nat} {v:Value} {n:Nat} {xs:List Value} (h:w.ownsRow base e size v n xs):∀ k,v.ownBlock = some k → base ≤ k ∧ k < w.heap.size:=by
 intro k hk
 rcases h.2 with ⟨h2,h3⟩ | ⟨g',cap,cur,h3,h4,h5,h6,h7,h8,h9⟩
 ·subst h2; cases hk
 ·subst h3
  simp [Value.ownBlock] at hk
  subst hk
  refine ⟨h4,?_⟩
  rcases Nat.lt_or_ge g' w.heap.size with hlt | hge
  ·exact hlt
  ·rw [Array.getElem?_eq_none hge] at h5; cases h5

theorem one_slice {a:Option Addr} {n c:Nat}:∀ u ∈ [Value.slice a n c],u.oneCell' = true:=by
 intro u hu; simp at hu; subst hu; rfl
theorem block_lt {w:World} {b:Nat} {o:Obj} (h:w.heap[b]? = some o):b < w.heap.size:=by
 rcases Nat.lt_or_ge b w.heap.size with hlt | hge
 ·exact hlt
 ·rw [Array.getElem?_eq_none hge] at h; cases h
structure Ext (w0:World) where
 w:World
 bel:Below w0.heap.size w0 w
theorem Ext.ne (w:World):Nonempty (Ext w):=⟨⟨w,Below.refl _ _⟩⟩
section
variable {P:Program}
theorem wp_region_ext {id:Nat} {Q:Exit → Act → World → Prop} {a:Act} {w:World} {l:List Oper} (hm:P.follows .mixedOrders = true) (hB:Region.lexB .any l.toArray = true)
  (h:wpQuiet P l.toArray (fun w' => ∃ x:Ext w,w' = x.w) (fun a' => ∀ w',(∃ x:Ext w,w' = x.w) → Q .normal a' w') l a):(Code.region id l.toArray true).wp P Q a w :=
 wp_region_quiet (C:=fun w' => ∃ x:Ext w,w' = x.w) hm hB ⟨⟨w.drew,(Below.refl _ _).drew⟩,rfl⟩ (by simpa using h)
end
theorem Ext.call {P:Program} {f:FuncId} {args:Array Value} {w:World} {x:Ext w} {v:Value} {R:Ending → World → Prop} (h:Calls P f args x.w R) (hR:∀ e w',R e w' → e = .returned v ∧ Below x.w.heap.size x.w w') :
  Calls P f args x.w fun e w'' => e = .returned v ∧ ∃ y:Ext w,w'' = y.w :=
 h.mono fun e w' hr => ⟨(hR e w' hr).1,⟨⟨w',x.bel.trans ((hR e w' hr).2.mono x.bel.size)⟩,rfl⟩⟩
theorem Ext.cell {w:World} (x:Ext w) {p:Addr} {v:Value} (h:w.cell? p = some v):x.w.cell? p = some v:=(x.bel.cell (p:=p) (World.block_lt_of_cell? _ _ h)).trans h
end Go.Proofs.YtpbcnkcnjnefiaaGreatDoor
