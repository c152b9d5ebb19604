/- Bits -/
import Derived.Test.YtjoaijbhpgekoaaGreatDoorBase
import Derived.Deep.AppendLies
import Derived.Deep.RegionLaw
import Derived.Deep.DeepMust
namespace Go.Proofs.YtjoaijbhpgekoaaGreatDoor
open Go.RowKit Go.Deep
set_option linter.unusedVariables false
def adl (x y c:Nat):Nat:=(x + y + c) % 4294967296
def adc (x y c:Nat):Nat:=(x + y + c) / 4294967296
theorem adl_lt (x y c:Nat):adl x y c < 4294967296:=by unfold adl; omega
theorem adc_le (x y c:Nat) (hx:x < 4294967296) (hy:y < 4294967296) (hc:c ≤ 1):adc x y c ≤ 1:=by unfold adc; omega
theorem ad_eq (x y c:Nat):adl x y c + 4294967296 * adc x y c = x + y + c:=by unfold adl adc; omega
theorem adl_int (x y c:Nat):((x:Int) + y + c) % 4294967296 = ((adl x y c:Nat):Int):=by unfold adl; omega
theorem adc_int (x y c:Nat):((x:Int) + y + c) / 4294967296 = ((adc x y c:Nat):Int):=by unfold adc; omega

set_option maxHeartbeats 400000 in
theorem add32_any (x y c:Nat) (w:World) (hx:x < 4294967296) (hy:y < 4294967296) (hc:c ≤ 1) :
  Calls Tryz.prog 134 #[.int .u32 (x:Nat),.int .u32 (y:Nat),.int .u32 (c:Nat)] w fun e w' => e = .returned (.tuple #[.int .u32 (adl x y c:Nat),.int .u32 (adc x y c:Nat)]) ∧ w' = w:=by
 have H1:=Hj (adl_int x y c)
 have H2:=Hj (adc_int x y c)
 go_enter Tryz.func134,Tryz.ntmps134
 go_wp2
 go_ret2
 refine ⟨?_,rfl⟩
 show Ending.returned (Value.tuple #[Value.int IntKind.u32 (((x:Int) + y + c) % 4294967296),Value.int IntKind.u32 (((x:Int) + y + c) / 4294967296)]) = _
 rw [Uh H1,Uh H2]

theorem top_bit {n:Nat} (h:n < 4294967296):n.testBit 31 = decide (2147483648 ≤ n):=by
 rw [Nat.testBit_eq_decide_div_mod_eq]
 have e:(2:Nat) ^ 31 = 2147483648:=by decide
 rw [e]
 rw [decide_eq_decide]
 omega

theorem div_top {n:Nat} (h:n < 4294967296):n / 2147483648 = if n.testBit 31 = true then 1 else 0:=by
 rw [top_bit h]
 by_cases hh:2147483648 ≤ n
 ·simp [hh]; omega
 ·simp [hh]; omega

theorem borrow_nat (x y c d:Nat) (hx:x < 4294967296) (hy:y < 4294967296) (hc:c ≤ 1) (hd:d = (8589934592 + x - y - c) % 4294967296) :
  (((4294967295 ^^^ x) &&& y) ||| ((4294967295 ^^^ (x ^^^ y)) &&& d)) / 2147483648 = if x < y + c then 1 else 0:=by
 have hd':d < 4294967296:=by omega
 have b1:((4294967295 ^^^ x) &&& y) < 2 ^ 32:=Nat.and_lt_two_pow _ (by omega)
 have b2:((4294967295 ^^^ (x ^^^ y)) &&& d) < 2 ^ 32:=Nat.and_lt_two_pow _ (by omega)
 have b3:=Nat.or_lt_two_pow b1 b2
 rw [div_top (by omega)]
 have m:(4294967295:Nat).testBit 31 = true:=by decide
 simp only [Nat.testBit_or,Nat.testBit_and,Nat.testBit_xor,m,top_bit hx,top_bit hy,top_bit hd']
 by_cases h1:2147483648 ≤ x <;> by_cases h2:2147483648 ≤ y <;> by_cases h3:2147483648 ≤ d <;> by_cases h4:x < y + c <;> simp [h1,h2,h3,h4] <;> omega

def bor (x y:Nat):Nat:=if x < y then 1 else 0
def lim (x y c:Nat):Nat:=(8589934592 + x - y - c) % 4294967296
theorem bor_le (x y:Nat):bor x y ≤ 1:=by unfold bor; split <;> omega
theorem lim_lt (x y c:Nat):lim x y c < 4294967296:=by unfold lim; omega
theorem lim_eq (x y c:Nat) (hx:x < 4294967296) (hy:y < 4294967296) (hc:c ≤ 1):lim x y c + y + c = x + 4294967296 * bor x (y + c):=by
 unfold lim bor; split <;> omega

theorem u32_max:IntKind.u32.max = ((4294967295:Nat):Int):=by decide

theorem borrow_int (x y c:Nat) (hx:x < 4294967296) (hy:y < 4294967296) (hc:c ≤ 1) :
  bits .or .u32 (bits .and .u32 (bits .xor .u32 IntKind.u32.max (x:Int)) (y:Int)) (bits .and .u32 (bits .xor .u32 IntKind.u32.max (bits .xor .u32 (x:Int) (y:Int))) (((x:Int) - y - c) % 4294967296)) / 2147483648 = ((bor x (y + c):Nat):Int):=by
 have e:((x:Int) - y - c) % 4294967296 = (((8589934592 + x - y - c) % 4294967296:Nat):Int):=by omega
 have p32:(4294967296:Nat) = 2 ^ 32:=by decide
 have x1:(4294967295 ^^^ x:Nat) < 4294967296:=by rw [p32]; exact Nat.xor_lt_two_pow (by decide) (by omega)
 have x2:(x ^^^ y:Nat) < 4294967296:=by rw [p32]; exact Nat.xor_lt_two_pow (by omega) (by omega)
 have x3:(4294967295 ^^^ (x ^^^ y):Nat) < 4294967296:=by rw [p32]; exact Nat.xor_lt_two_pow (by decide) (by omega)
 have x4:((4294967295 ^^^ x) &&& y:Nat) < 4294967296:=by rw [p32]; exact Nat.and_lt_two_pow _ (by omega)
 have x5:((4294967295 ^^^ (x ^^^ y)) &&& ((8589934592 + x - y - c) % 4294967296):Nat) < 4294967296:=by rw [p32]; exact Nat.and_lt_two_pow _ (by omega)
 rw [e,u32_max,u32_xor_nat _ _ (by decide) hx,u32_xor_nat _ _ hx hy,u32_xor_nat _ _ (by decide) x2,u32_and_nat _ _ x1 hy,u32_and_nat _ _ x3 (by omega),u32_or_nat _ _ x4 x5]
 unfold bor
 rw [← borrow_nat x y c _ hx hy hc rfl]
 omega

theorem sub_mod (x y c:Nat) (hx:x < 4294967296) (hy:y < 4294967296) (hc:c ≤ 1):((x:Int) - y - c) % 4294967296 = ((lim x y c:Nat):Int):=by unfold lim; omega

set_option maxHeartbeats 400000 in
theorem sub32_any (x y c:Nat) (w:World) (hx:x < 4294967296) (hy:y < 4294967296) (hc:c ≤ 1) :
  Calls Tryz.prog 135 #[.int .u32 (x:Nat),.int .u32 (y:Nat),.int .u32 (c:Nat)] w fun e w' => e = .returned (.tuple #[.int .u32 (lim x y c:Nat),.int .u32 (bor x (y + c):Nat)]) ∧ w' = w:=by
 have HB:=Hj (borrow_int x y c hx hy hc)
 have HM:=Hj (sub_mod x y c hx hy hc)
 go_enter Tryz.func135,Tryz.ntmps135
 go_wp2
 go_ret2
 refine ⟨?_,rfl⟩
 show Ending.returned (Value.tuple #[Value.int IntKind.u32 (((x:Int) - y - c) % 4294967296),Value.int IntKind.u32 (bits .or .u32 (bits .and .u32 (bits .xor .u32 IntKind.u32.max (x:Int)) (y:Int)) (bits .and .u32 (bits .xor .u32 IntKind.u32.max (bits .xor .u32 (x:Int) (y:Int))) (((x:Int) - y - c) % 4294967296)) / 2147483648)]) = _
 rw [Uh HB,Uh HM]
theorem Tryz.info_u32:(Tryz.prog.info? 94).map (fun i => (i.zero,i.size,i.bytes)) = some (some (.int .u32 0),1,4):=by kernel_rfl

theorem rt_step {wr w:World} {k j:Nat} {xs:List Nat} (hf:Fn wr w.heap.size 0 k (fun i => if i < j then xs.getD i 0 else 0)) (hlt:j < k) (hb:Below w.heap.size w wr) :
  Fn (wr.setCell ⟨w.heap.size,j,none⟩ (.int .u32 (xs.getD j 0:Nat))) w.heap.size 0 k (fun i => if i < j + 1 then xs.getD i 0 else 0) ∧ Below w.heap.size w (wr.setCell ⟨w.heap.size,j,none⟩ (.int .u32 (xs.getD j 0:Nat))):=by
 refine ⟨?_,hb.setCell (Nat.le_refl _) _⟩
 have h:=hf.set j (xs.getD j 0) hlt
 simp only [Nat.zero_add] at h
 intro i hi
 have:=h i hi
 refine ⟨?_,this.2⟩
 rw [this.1]
 by_cases e:i = j
 ·simp [e]
 ·by_cases e2:i < j
  ·simp [e,e2,show i < j + 1 from by omega]
  ·simp [e,e2,show ¬ i < j + 1 from by omega]

theorem rt_end {wr w:World} {k j:Nat} {xs:List Nat} (hf:Fn wr w.heap.size 0 k (fun i => if i < j then xs.getD i 0 else 0)) (hj:j = k) (hk:k ≤ xs.length) :
  Cells wr w.heap.size 0 (xs.take k):=by
 have hlen:(xs.take k).length = k:=by simp [Nat.min_eq_left hk]
 refine hf.cells (by omega) (fun i hi => ?_)
 rw [hlen] at hi
 simp [hj,hi,List.getD]

set_option maxHeartbeats 1000000 in
theorem rtrim_some (b off n c:Nat) (xs:List Nat) (w:World) (hn:xs.length = n) (hnc:n ≤ c) (hcm:n ≤ 70368744177664) (hc:Cells w b off xs) :
  Calls Tryz.prog 49 #[.slice (some ⟨b,off,none⟩) n c] w fun e w' => ∃ m,TrimAt xs m ∧ e = .returned (.slice (some ⟨w.heap.size,0,none⟩) m m) ∧ Cells w' w.heap.size 0 (xs.take m) ∧ Below w.heap.size w w':=by
 go_enter Tryz.func49,Tryz.ntmps49
 go_wp2
 go_loop [3] (fun i => ∃ k:Nat,k ≤ n ∧ i = .int .i64 k ∧ ∀ j,k ≤ j → xs.getD j 0 = 0) (fun i => (intOf i).toNat)
 case atStart => exact ⟨n,Nat.le_refl _,rfl,fun j hj => getD_ge (by omega)⟩
 case round =>
  obtain ⟨k,hk,rfl,hz⟩:=hrel
  have hmk:=run_make_row' (P:=Tryz.prog) 37 94 (.int .u32 0) 4 Tryz.underlying37 Tryz.info_u32 rfl .i64 .i64 k (by omega) (by omega)
  by_cases h0:k = 0
  ·have hpos:¬ (0:Int) < (k:Int):=by omega
   have ht:TrimAt xs k:=⟨by omega,.inl h0,hz⟩
   clear h0 hz
   go_wp2
   go_loopw [5] (fun i wr => ∃ j:Nat,j ≤ k ∧ i = .int .i64 j ∧ Fn wr w.heap.size 0 k (fun i => if i < j then xs.getD i 0 else 0) ∧ Below w.heap.size w wr) (fun i _ => k - (intOf i).toNat)
   case atStart => exact ⟨0,Nat.zero_le _,rfl,by simpa using Fn.made w k _,bAl⟩
   case round =>
    obtain ⟨j,hj,rfl,hf,hbel⟩:=hrel
    by_cases hlt:j < k
    ·exact absurd hlt (by omega)
    ·have HF:=Hj (rt_end hf (by omega:j = k) (by omega) )
     clear hf
     go_wp2
     go_ret
     exact ⟨k,ht,rfl,Uh HF,hbel⟩
  ·have hpos:(0:Int) < (k:Int):=by omega
   have hk1:((k:Int) - 1).toNat = k - 1:=by omega
   have hne:((k:Int) == 0) = false:=by simp; omega
   have hcell:=hc (k - 1) (by omega)
   by_cases hx:xs.getD (k - 1) 0 = 0
   ·rw [hx] at hcell
    have Hx:Hid (xs.getD (k - 1) 0 = 0):=hx
    clear hx
    go_wp2
    go_round
    case rel => exact ⟨k - 1,by omega,by congr 1; omega,fun j hj => by
     by_cases e:j = k - 1
     ·rw [e]; exact Hx.out
     ·exact hz j (by omega)⟩
    case measure => simp [intOf]; omega
   ·have ht:TrimAt xs k:=⟨by omega,.inr hx,hz⟩
    have hx':(((xs.getD (k - 1) 0:Nat):Int) == 0) = false:=by simp at hx ⊢; exact hx
    clear hx hz
    generalize hg:(((xs.getD (k - 1) 0:Nat):Int)) = g at hcell hx'
    clear hg
    go_wp2
    go_loopw [5] (fun i wr => ∃ j:Nat,j ≤ k ∧ i = .int .i64 j ∧ Fn wr w.heap.size 0 k (fun i => if i < j then xs.getD i 0 else 0) ∧ Below w.heap.size w wr) (fun i _ => k - (intOf i).toNat)
    case atStart => exact ⟨0,Nat.zero_le _,rfl,by simpa using Fn.made w k _,bAl⟩
    case round =>
     obtain ⟨j,hj,rfl,hf,hbel⟩:=hrel
     by_cases hlt:j < k
     ·have hlt':(j:Int) < (k:Int):=by omega
      have g1:=(hf j hlt).1
      have g2:=(hf j hlt).2
      simp only [Nat.zero_add] at g1 g2
      have g3:=hc j (by omega)
      have g4:wr.cell? ⟨b,off + j,none⟩ = _:=(ck hbel g3)
      have HF:=Hj (rt_step hf hlt hbel)
      clear hf hbel g3
      go_wp2
      exact ⟨⟨j + 1,by omega,by go_num,by simpa using (Uh HF).1,by simpa using (Uh HF).2⟩,by simp [intOf]; omega⟩
     ·have HF:=Hj (rt_end hf (by omega:j = k) (by omega) )
      clear hf
      go_wp2
      go_ret
      exact ⟨k,ht,rfl,Uh HF,hbel⟩

theorem make_0 (w:World):(Instr.makeSlice 37 (.int .i64 0) (.int .i64 0)).run Tryz.prog w = .ok (.slice (some ⟨w.heap.size,0,none⟩) 0 0) (w.alloc (.cells (madeCells #[.int .u32 0] 0) 94)) :=
 run_make_row' (P:=Tryz.prog) 37 94 (.int .u32 0) 4 Tryz.underlying37 Tryz.info_u32 rfl .i64 .i64 0 (by omega) (by omega) w

theorem rtrim_nil (a:Option Addr) (c:Nat) (w:World) :
  Calls Tryz.prog 49 #[.slice a 0 c] w fun e w' => e = .returned (.slice (some ⟨w.heap.size,0,none⟩) 0 0) ∧ Below w.heap.size w w':=by
 have hmk:=make_0
 go_enter Tryz.func49,Tryz.ntmps49
 go_wp2
 go_loop [3] (fun i => i = .int .i64 0) (fun i => (intOf i).toNat)
 case atStart => rfl
 case round =>
  subst hrel
  go_wp2
  go_loopw [5] (fun i wr => i = .int .i64 0 ∧ Below w.heap.size w wr) (fun i _ => (intOf i).toNat)
  case atStart => exact ⟨rfl,bAl⟩
  case round =>
   obtain ⟨rfl,hb⟩:=hrel
   go_wp2
   go_ret
   exact ⟨rfl,hb⟩

def NewAt (B:Nat) (a:Option Addr):Prop:=∀ x,a = some x → B ≤ x.block

theorem rtrim_any (a:Option Addr) (n c:Nat) (xs:List Nat) (w:World) (h:Sl w a n c xs) (ok:Ok xs) (hb:n ≤ 70368744177664) :
  Calls Tryz.prog 49 #[.slice a n c] w fun e w' => ∃ a' m ys,e = .returned (.slice a' m m) ∧ Sl w' a' m m ys ∧ Rep (val xs) ys ∧ NewAt w.heap.size a' ∧ Below w.heap.size w w':=by
 have hl:=h.len
 rcases h.cells with h0 | ⟨b,off,rfl,hc⟩
 ·subst h0
  simp at hl
  subst hl
  refine (rtrim_nil a c w).mono ?_
  rintro e w' ⟨rfl,hbel⟩
  exact ⟨_,0,[],rfl,⟨rfl,Nat.le_refl _,Nat.zero_le _,.inl rfl⟩,⟨Ok.nil,.inl rfl,rfl⟩,fun x hx => by cases hx; exact Nat.le_refl _,hbel⟩
 ·refine (rtrim_some b off n c xs w hl h.le hb hc).mono ?_
  rintro e w' ⟨m,ht,rfl,hcs,hbel⟩
  have hlen:(xs.take m).length = m:=by simp [Nat.min_eq_left ht.le]
  refine ⟨_,m,xs.take m,rfl,⟨hlen,Nat.le_refl _,?_,.inr ⟨_,_,rfl,hcs⟩⟩,ht.rep ok,fun x hx => by cases hx; exact Nat.le_refl _,hbel⟩
  have:=ht.le; unfold maxLen; omega
def vals (xs:List Nat):List Value:=xs.map (fun x => Value.int .u32 (x:Nat))

theorem cell_of_block {w:World} {b:Nat} {cur:Array Value} {e:TypeId} {fr:Nat × Nat} (h:w.heap[b]? = some (.cells cur e fr)) (i:Nat):w.cell? ⟨b,i,none⟩ = cur[i]?:=by
 simp [World.cell?,h]

theorem frozen_of_block {w:World} {b:Nat} {cur:Array Value} {e:TypeId} (h:w.heap[b]? = some (.cells cur e)) (i:Nat):w.frozen? ⟨b,i,none⟩ = false:=by
 simp [World.frozen?,h]

theorem set_block {w:World} {b:Nat} {cur:Array Value} {e:TypeId} {fr:Nat × Nat} (h:w.heap[b]? = some (.cells cur e fr)) (i:Nat) (v:Value):(w.setCell ⟨b,i,none⟩ v).heap[b]? = some (.cells (cur.setIfInBounds i v) e fr):=by
 simp only [World.setCell,Array.getElem?_modify,h]
 simp

theorem set_block_other {w:World} {b k i:Nat} (hk:k ≠ b) (v:Value):(w.setCell ⟨b,i,none⟩ v).heap[k]? = w.heap[k]? :=
 Below.heap_setCell w _ v k hk

theorem alloc_block (w:World) (o:Obj):(w.alloc o).heap[w.heap.size]? = some o:=by
 show (w.heap.push o)[w.heap.size]? = some o
 simp

theorem cells_of_block {w:World} {b off:Nat} {cur:Array Value} {e:TypeId} {fr:Nat × Nat} {xs:List Nat} (h:w.heap[b]? = some (.cells cur e fr)) (ht:∀ i,i < xs.length → cur[off + i]? = some (.int .u32 (xs.getD i 0:Nat))):Cells w b off xs:=by
 intro i hi
 rw [cell_of_block h]; exact ht i hi

theorem vals_get {xs:List Nat} {i:Nat} (h:i < xs.length):(vals xs)[i]? = some (.int .u32 (xs.getD i 0:Nat)):=by
 simp [vals,h]

theorem take_vals {cur:Array Value} {n:Nat} {xs:List Nat} (hl:xs.length = n) (h:cur.toList.take n = vals xs):∀ i,i < xs.length → cur[i]? = some (.int .u32 (xs.getD i 0:Nat)):=by
 intro i hi
 have:=vals_get hi
 rw [← h] at this
 simpa [List.getElem?_take,show i < n from by omega] using this
structure Chg (S:Nat → Prop) (w w':World):Prop where
 os:w'.os = w.os
 tape:w'.tape = w.tape
 output:w'.output = w.output
 size:w.heap.size ≤ w'.heap.size
 block:∀ k,k < w.heap.size → ¬ S k → w'.heap[k]? = w.heap[k]?

theorem Chg.refl (S:Nat → Prop) (w:World):Chg S w w:=⟨rfl,rfl,rfl,Nat.le_refl _,fun _ _ _ => rfl⟩
theorem Chg.trans {S:Nat → Prop} {a b c:World} (h:Chg S a b) (k:Chg S b c):Chg S a c :=
 ⟨k.os.trans h.os,k.tape.trans h.tape,k.output.trans h.output,Nat.le_trans h.size k.size,fun i hi hs => (k.block i (Nat.lt_of_lt_of_le hi h.size) hs).trans (h.block i hi hs)⟩
theorem Chg.mono {S T:Nat → Prop} {w w':World} (h:Chg S w w') (hs:∀ k,k < w.heap.size → S k → T k):Chg T w w' :=
 ⟨h.os,h.tape,h.output,h.size,fun k hk hn => h.block k hk (fun hh => hn (hs k hk hh))⟩
theorem Chg.of_below {S:Nat → Prop} {w w':World} (h:Below w.heap.size w w'):Chg S w w' :=
 ⟨h.os,h.tape,h.output,h.size,fun k hk _ => h.block k hk⟩
theorem Chg.of_alloc {S:Nat → Prop} (w:World) (o:Obj):Chg S w (w.alloc o):=.of_below ((Below.refl _ _).alloc (Nat.le_refl _) o)
theorem Chg.of_set {S:Nat → Prop} (w:World) (b i:Nat) (v:Value) (hb:S b):Chg S w (w.setCell ⟨b,i,none⟩ v) :=
 ⟨rfl,rfl,rfl,by simp,fun k hk hs => set_block_other (fun e => by subst e; exact hs hb) v⟩
theorem Chg.of_grown {S:Nat → Prop} {w w':World} {row:Option Nat} (h:w.grownBy w' row) (hr:∀ k,row = some k → S k):Chg S w w' :=
 ⟨h.os,h.tape,h.output,h.size,fun k hk hs => h.block k hk (fun e => hs (hr k e.symm))⟩
theorem Chg.of_drewN {S:Nat → Prop} (w:World) (k:Nat):Chg S w (w.drewN k):=⟨rfl,rfl,rfl,Nat.le_refl _,fun _ _ _ => rfl⟩
theorem Chg.of_drew {S:Nat → Prop} (w:World):Chg S w w.drew:=⟨rfl,rfl,rfl,Nat.le_refl _,fun _ _ _ => rfl⟩
theorem Chg.below {S:Nat → Prop} {w w':World} {B:Nat} (h:Chg S w w') (hB:B ≤ w.heap.size) (hs:∀ k,k < B → ¬ S k):Below B w w' :=
 ⟨h.os,h.tape,h.output,h.size,fun k hk => h.block k (by omega) (hs k hk)⟩

theorem Chg.cell {S:Nat → Prop} {w w':World} (h:Chg S w w') {b i:Nat} {v:Value} (hs:¬ S b) (hc:w.cell? ⟨b,i,none⟩ = some v):w'.cell? ⟨b,i,none⟩ = some v:=by
 have hlt:=World.block_lt_of_cell? _ _ hc
 rw [World.cell?_of_block (w:=w) (h.block b hlt hs)]; exact hc

theorem Cells.chg {S:Nat → Prop} {w w':World} {b off:Nat} {xs:List Nat} (h:Cells w b off xs) (k:Chg S w w') (hs:¬ S b):Cells w' b off xs :=
 fun i hi => k.cell hs (h i hi)

theorem Sl.chg {S:Nat → Prop} {w w':World} {a:Option Addr} {n c:Nat} {xs:List Nat} (h:Sl w a n c xs) (k:Chg S w w') (hs:∀ x,a = some x → xs ≠ [] → ¬ S x.block):Sl w' a n c xs :=
 ⟨h.len,h.le,h.cap,h.cells.elim .inl (fun ⟨b,off,e,kk⟩ => by
  by_cases hx:xs = []
  ·exact .inl hx
  ·exact .inr ⟨b,off,e,kk.chg k (hs _ e hx)⟩)⟩

theorem Sl.block_lt {w:World} {a:Option Addr} {n c:Nat} {xs:List Nat} (h:Sl w a n c xs) (hx:xs ≠ []):∀ x,a = some x → x.block < w.heap.size:=by
 intro x hx'
 rcases h.cells with e | ⟨b,off,e,kk⟩
 ·exact absurd e hx
 ·rw [e] at hx'
  cases hx'
  have:=kk 0 (by cases xs with | nil => exact absurd rfl hx | cons => simp)
  exact World.block_lt_of_cell? _ _ this

theorem ownsRow_chg {S:Nat → Prop} {w w':World} {base:Nat} {e:TypeId} {size:Nat} {v:Value} {n:Nat} {xs:List Value} (h:w.ownsRow base e size v n xs) (k:Chg S w w') (hs:∀ k,v.ownBlock = some k → ¬ S k):w'.ownsRow base e size v n xs:=by
 refine ⟨h.1,h.2.imp id ?_⟩
 rintro ⟨g,cap,cur,rfl,hb,hg,h1,h2,h3,h4⟩
 refine ⟨g,cap,cur,rfl,hb,?_,h1,h2,h3,h4⟩
 have hlt:g < w.heap.size:=by
  rcases Nat.lt_or_ge g w.heap.size with hlt | hge
  ·exact hlt
  ·rw [Array.getElem?_eq_none hge] at hg; cases hg
 rw [k.block g hlt (hs g rfl)]; exact hg

structure Ent where
 b:Nat
 c:Nat
 b0:Nat
 c0:Nat
 xs:List Nat

def Ent.v (e:Ent):Value:=.slice (some ⟨e.b,0,none⟩) (e.xs.length + 3) e.c
def Ent.v0 (e:Ent):Value:=.slice (some ⟨e.b0,0,none⟩) (e.xs.length + 3) e.c0

def Own (B:Nat) (v0 v1:Value) (k:Nat):Prop:=k = B ∨ v0.ownBlock = some k ∨ v1.ownBlock = some k

theorem sl_of_own {w:World} {base g n c:Nat} {xs:List Nat} (h:w.ownsRow base 94 1 (.slice (some ⟨g,0,none⟩) n c) n (vals xs)):Sl w (some ⟨g,0,none⟩) n c xs:=by
 obtain ⟨hl,h2⟩:=h
 have hl':xs.length = n:=by simpa [vals] using hl
 rcases h2 with ⟨h2,h3⟩ | ⟨g',cap,cur,h3,h4,h5,h6,h7,h8,h9⟩
 ·cases h2
 ·injection h3 with e1 e2 e3
  injection e1 with e1
  injection e1 with e1
  subst e1 e3
  refine ⟨hl',h6,h7,.inr ⟨_,_,rfl,cells_of_block h5 ?_⟩⟩
  have:=take_vals hl' (by simpa using h9)
  simpa using this

theorem own_ge {w:World} {base:Nat} {e:TypeId} {size:Nat} {v:Value} {n:Nat} {xs:List Value} (h:w.ownsRow base e size v n xs):∀ k,v.ownBlock = some k → base ≤ k ∧ k < w.heap.size:=by
 intro k hk
 rcases h.2 with ⟨h2,h3⟩ | ⟨g',cap,cur,h3,h4,h5,h6,h7,h8,h9⟩
 ·subst h2; cases hk
 ·subst h3
  simp [Value.ownBlock] at hk
  subst hk
  refine ⟨h4,?_⟩
  rcases Nat.lt_or_ge g' w.heap.size with hlt | hge
  ·exact hlt
  ·rw [Array.getElem?_eq_none hge] at h5; cases h5

theorem block_lt {w:World} {b:Nat} {o:Obj} (h:w.heap[b]? = some o):b < w.heap.size:=by
 rcases Nat.lt_or_ge b w.heap.size with hlt | hge
 ·exact hlt
 ·rw [Array.getElem?_eq_none hge] at h; cases h
end Go.Proofs.YtjoaijbhpgekoaaGreatDoor
