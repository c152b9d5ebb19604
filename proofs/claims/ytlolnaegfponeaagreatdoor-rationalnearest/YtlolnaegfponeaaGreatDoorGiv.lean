/- Bits -/
import Derived.Test.YtlolnaegfponeaaGreatDoorBase
namespace Go.Proofs.YtlolnaegfponeaaGreatDoor
open Go.RowKit Go.Deep
set_option linter.unusedVariables false
def adl (x y c:Nat):Nat:=(x + y + c) % 4294967296
def adc (x y c:Nat):Nat:=(x + y + c) / 4294967296
theorem adl_lt (x y c:Nat):adl x y c < 4294967296:=by unfold adl; omega
theorem adc_le (x y c:Nat) (hx:x < 4294967296) (hy:y < 4294967296) (hc:c ≤ 1):adc x y c ≤ 1:=by unfold adc; omega
theorem ad_eq (x y c:Nat):adl x y c + 4294967296 * adc x y c = x + y + c:=by unfold adl adc; omega
theorem adl_int (x y c:Nat):((x:Int) + y + c) % 4294967296 = ((adl x y c:Nat):Int):=by unfold adl; omega
theorem adc_int (x y c:Nat):((x:Int) + y + c) / 4294967296 = ((adc x y c:Nat):Int):=by unfold adc; omega

set_option maxHeartbeats 400000 in
theorem add32_any (x y c:Nat) (w:World) (hx:x < 4294967296) (hy:y < 4294967296) (hc:c ≤ 1) :
  Calls Tryz.prog 206 #[.int .u32 (x:Nat),.int .u32 (y:Nat),.int .u32 (c:Nat)] w fun e w' => e = .returned (.tuple #[.int .u32 (adl x y c:Nat),.int .u32 (adc x y c:Nat)]) ∧ w' = w:=by
 have H1:=Hd (adl_int x y c)
 have H2:=Hd (adc_int x y c)
 go_enter Tryz.func206,Tryz.ntmps206
 go_wp2
 go_ret2
 refine ⟨?_,rfl⟩
 show Ending.returned (Value.tuple #[Value.int IntKind.u32 (((x:Int) + y + c) % 4294967296),Value.int IntKind.u32 (((x:Int) + y + c) / 4294967296)]) = _
 rw [Uh H1,Uh H2]

theorem top_bit {n:Nat} (h:n < 4294967296):n.testBit 31 = decide (2147483648 ≤ n):=by
 rw [Nat.testBit_eq_decide_div_mod_eq]
 have e:(2:Nat) ^ 31 = 2147483648:=by decide
 rw [e]
 rw [decide_eq_decide]
 omega

theorem div_top {n:Nat} (h:n < 4294967296):n / 2147483648 = if n.testBit 31 = true then 1 else 0:=by
 rw [top_bit h]
 by_cases hh:2147483648 ≤ n
 ·simp [hh]; omega
 ·simp [hh]; omega

theorem borrow_nat (x y c d:Nat) (hx:x < 4294967296) (hy:y < 4294967296) (hc:c ≤ 1) (hd:d = (8589934592 + x - y - c) % 4294967296) :
  (((4294967295 ^^^ x) &&& y) ||| ((4294967295 ^^^ (x ^^^ y)) &&& d)) / 2147483648 = if x < y + c then 1 else 0:=by
 have hd':d < 4294967296:=by omega
 have b1:((4294967295 ^^^ x) &&& y) < 2 ^ 32:=Nat.and_lt_two_pow _ (by omega)
 have b2:((4294967295 ^^^ (x ^^^ y)) &&& d) < 2 ^ 32:=Nat.and_lt_two_pow _ (by omega)
 have b3:=Nat.or_lt_two_pow b1 b2
 rw [div_top (by omega)]
 have m:(4294967295:Nat).testBit 31 = true:=by decide
 simp only [Nat.testBit_or,Nat.testBit_and,Nat.testBit_xor,m,top_bit hx,top_bit hy,top_bit hd']
 by_cases h1:2147483648 ≤ x <;> by_cases h2:2147483648 ≤ y <;> by_cases h3:2147483648 ≤ d <;> by_cases h4:x < y + c <;> simp [h1,h2,h3,h4] <;> omega

def bor (x y:Nat):Nat:=if x < y then 1 else 0
def lim (x y c:Nat):Nat:=(8589934592 + x - y - c) % 4294967296
theorem bor_le (x y:Nat):bor x y ≤ 1:=by unfold bor; split <;> omega
theorem lim_lt (x y c:Nat):lim x y c < 4294967296:=by unfold lim; omega
theorem lim_eq (x y c:Nat) (hx:x < 4294967296) (hy:y < 4294967296) (hc:c ≤ 1):lim x y c + y + c = x + 4294967296 * bor x (y + c):=by
 unfold lim bor; split <;> omega

theorem u32_max:IntKind.u32.max = ((4294967295:Nat):Int):=by decide

theorem borrow_int (x y c:Nat) (hx:x < 4294967296) (hy:y < 4294967296) (hc:c ≤ 1) :
  bits .or .u32 (bits .and .u32 (bits .xor .u32 IntKind.u32.max (x:Int)) (y:Int)) (bits .and .u32 (bits .xor .u32 IntKind.u32.max (bits .xor .u32 (x:Int) (y:Int))) (((x:Int) - y - c) % 4294967296)) / 2147483648 = ((bor x (y + c):Nat):Int):=by
 have e:((x:Int) - y - c) % 4294967296 = (((8589934592 + x - y - c) % 4294967296:Nat):Int):=by omega
 have p32:(4294967296:Nat) = 2 ^ 32:=by decide
 have x1:(4294967295 ^^^ x:Nat) < 4294967296:=by rw [p32]; exact Nat.xor_lt_two_pow (by decide) (by omega)
 have x2:(x ^^^ y:Nat) < 4294967296:=by rw [p32]; exact Nat.xor_lt_two_pow (by omega) (by omega)
 have x3:(4294967295 ^^^ (x ^^^ y):Nat) < 4294967296:=by rw [p32]; exact Nat.xor_lt_two_pow (by decide) (by omega)
 have x4:((4294967295 ^^^ x) &&& y:Nat) < 4294967296:=by rw [p32]; exact Nat.and_lt_two_pow _ (by omega)
 have x5:((4294967295 ^^^ (x ^^^ y)) &&& ((8589934592 + x - y - c) % 4294967296):Nat) < 4294967296:=by rw [p32]; exact Nat.and_lt_two_pow _ (by omega)
 rw [e,u32_max,u32_xor_nat _ _ (by decide) hx,u32_xor_nat _ _ hx hy,u32_xor_nat _ _ (by decide) x2,u32_and_nat _ _ x1 hy,u32_and_nat _ _ x3 (by omega),u32_or_nat _ _ x4 x5]
 unfold bor
 rw [← borrow_nat x y c _ hx hy hc rfl]
 omega

theorem sub_mod (x y c:Nat) (hx:x < 4294967296) (hy:y < 4294967296) (hc:c ≤ 1):((x:Int) - y - c) % 4294967296 = ((lim x y c:Nat):Int):=by unfold lim; omega

set_option maxHeartbeats 400000 in
theorem sub32_any (x y c:Nat) (w:World) (hx:x < 4294967296) (hy:y < 4294967296) (hc:c ≤ 1) :
  Calls Tryz.prog 213 #[.int .u32 (x:Nat),.int .u32 (y:Nat),.int .u32 (c:Nat)] w fun e w' => e = .returned (.tuple #[.int .u32 (lim x y c:Nat),.int .u32 (bor x (y + c):Nat)]) ∧ w' = w:=by
 have HB:=Hd (borrow_int x y c hx hy hc)
 have HM:=Hd (sub_mod x y c hx hy hc)
 go_enter Tryz.func213,Tryz.ntmps213
 go_wp2
 go_ret2
 refine ⟨?_,rfl⟩
 show Ending.returned (Value.tuple #[Value.int IntKind.u32 (((x:Int) - y - c) % 4294967296),Value.int IntKind.u32 (bits .or .u32 (bits .and .u32 (bits .xor .u32 IntKind.u32.max (x:Int)) (y:Int)) (bits .and .u32 (bits .xor .u32 IntKind.u32.max (bits .xor .u32 (x:Int) (y:Int))) (((x:Int) - y - c) % 4294967296)) / 2147483648)]) = _
 rw [Uh HB,Uh HM]
theorem Tryz.info_u32:(Tryz.prog.info? 43).map (fun i => (i.zero,i.size,i.bytes)) = some (some (.int .u32 0),1,4):=by kernel_rfl

def NewAt (B:Nat) (a:Option Addr):Prop:=∀ x,a = some x → B ≤ x.block
def vals (xs:List Nat):List Value:=xs.map (fun x => Value.int .u32 (x:Nat))

theorem cell_of_block {w:World} {b:Nat} {cur:Array Value} {e:TypeId} {fr:Nat × Nat} (h:w.heap[b]? = some (.cells cur e fr)) (i:Nat):w.cell? ⟨b,i,none⟩ = cur[i]?:=by
 simp [World.cell?,h]

theorem frozen_of_block {w:World} {b:Nat} {cur:Array Value} {e:TypeId} (h:w.heap[b]? = some (.cells cur e)) (i:Nat):w.frozen? ⟨b,i,none⟩ = false:=by
 simp [World.frozen?,h]

theorem set_block {w:World} {b:Nat} {cur:Array Value} {e:TypeId} {fr:Nat × Nat} (h:w.heap[b]? = some (.cells cur e fr)) (i:Nat) (v:Value):(w.setCell ⟨b,i,none⟩ v).heap[b]? = some (.cells (cur.setIfInBounds i v) e fr):=by
 simp only [World.setCell,Array.getElem?_modify,h]
 simp

theorem set_block_other {w:World} {b k i:Nat} (hk:k ≠ b) (v:Value):(w.setCell ⟨b,i,none⟩ v).heap[k]? = w.heap[k]? :=
 Below.heap_setCell w _ v k hk

theorem alloc_block (w:World) (o:Obj):(w.alloc o).heap[w.heap.size]? = some o:=by
 show (w.heap.push o)[w.heap.size]? = some o
 simp

theorem cells_of_block {w:World} {b off:Nat} {cur:Array Value} {e:TypeId} {fr:Nat × Nat} {xs:List Nat} (h:w.heap[b]? = some (.cells cur e fr)) (ht:∀ i,i < xs.length → cur[off + i]? = some (.int .u32 (xs.getD i 0:Nat))):Cells w b off xs:=by
 intro i hi
 rw [cell_of_block h]; exact ht i hi

theorem vals_get {xs:List Nat} {i:Nat} (h:i < xs.length):(vals xs)[i]? = some (.int .u32 (xs.getD i 0:Nat)):=by
 simp [vals,h]

theorem take_vals {cur:Array Value} {n:Nat} {xs:List Nat} (hl:xs.length = n) (h:cur.toList.take n = vals xs):∀ i,i < xs.length → cur[i]? = some (.int .u32 (xs.getD i 0:Nat)):=by
 intro i hi
 have:=vals_get hi
 rw [← h] at this
 simpa [List.getElem?_take,show i < n from by omega] using this

theorem make_n3 (n:Nat) (hn:n ≤ 70368744177600) (w:World):(Instr.makeSlice 22 (.int .i64 (n:Int)) (.int .i64 ((n:Int) + 3))).run Tryz.prog w = .ok (.slice (some ⟨w.heap.size,0,none⟩) n (n + 3)) (w.alloc (.cells (madeCells #[.int .u32 0] (n + 3)) 43)):=by
 obtain ⟨i,hi,hzz⟩:=Option.map_eq_some_iff.1 Tryz.info_u32
 simp only [Prod.mk.injEq] at hzz
 obtain ⟨hz,hs,hb⟩:=hzz
 have hr:=run_make (P:=Tryz.prog) w 22 43 i (.int .u32 0) Tryz.underlying22 hi hz .i64 .i64 n ((n:Int) + 3) (by omega) (by omega) (by rw [hb]; omega) (by omega)
 rw [hs,Nat.mul_one,show ((n:Int) + 3).toNat = n + 3 from by omega,show ((n:Int)).toNat = n from by omega] at hr
 exact hr

theorem copy_step {wr w:World} {n k:Nat} {cur:Array Value} {xs:List Nat} (hblk:wr.heap[w.heap.size]? = some (.cells cur 43)) (hsz:cur.size = n + 3) (hk:k < n)
  (hpre:∀ i,i < k → cur[i]? = some (.int .u32 (xs.getD i 0:Nat))) :
  ∃ cur',(wr.setCell ⟨w.heap.size,k,none⟩ (.int .u32 (xs.getD k 0:Nat))).heap[w.heap.size]? = some (.cells cur' 43) ∧ cur'.size = n + 3 ∧ ∀ i,i < k + 1 → cur'[i]? = some (.int .u32 (xs.getD i 0:Nat)):=by
 refine ⟨_,set_block hblk k _,by simp [hsz],?_⟩
 intro i hi
 by_cases e:i = k
 ·subst e; simp [show i < cur.size from by omega]
 ·rw [Array.getElem?_setIfInBounds_ne (by omega)]; exact hpre i (by omega)

set_option maxHeartbeats 800000 in
theorem copy_some (b off n c:Nat) (xs:List Nat) (w:World) (hn:xs.length = n) (hcm:n ≤ 70368744177600) (hc:Cells w b off xs) :
  Calls Tryz.prog 113 #[.slice (some ⟨b,off,none⟩) n c] w fun e w' => ∃ cur,e = .returned (.slice (some ⟨w.heap.size,0,none⟩) n (n + 3)) ∧ w'.heap[w.heap.size]? = some (.cells cur 43) ∧ cur.size = n + 3 ∧ (∀ i,i < n → cur[i]? = some (.int .u32 (xs.getD i 0:Nat))) ∧ w'.heap.size = w.heap.size + 1 ∧ Below w.heap.size w w':=by
 have hmk:=make_n3 n hcm
 go_enter Tryz.func113,Tryz.ntmps113
 go_wp2
 go_loopw [4] (fun i wr => ∃ k:Nat,k ≤ n ∧ i = .int .i64 k ∧ (∃ cur,wr.heap[w.heap.size]? = some (.cells cur 43) ∧ cur.size = n + 3 ∧ ∀ i,i < k → cur[i]? = some (.int .u32 (xs.getD i 0:Nat))) ∧ wr.heap.size = w.heap.size + 1 ∧ Below w.heap.size w wr) (fun i _ => n - (intOf i).toNat)
 case atStart => exact ⟨0,Nat.zero_le _,rfl,⟨_,alloc_block _ _,size_madeCells _ _,fun i hi => absurd hi (Nat.not_lt_zero _)⟩,by simp,bAl⟩
 case round =>
  obtain ⟨k,hk,rfl,⟨cur,hblk,hsz,hpre⟩,hhs,hbel⟩:=hrel
  by_cases hlt:k < n
  ·have hlt':(k:Int) < (n:Int):=by omega
   have g1:wr.cell? ⟨w.heap.size,k,none⟩ = some cur[k]!:=by rw [cell_of_block hblk]; simp [show k < cur.size from by omega]
   have g2:=frozen_of_block hblk k
   have g3:=hc k (by omega)
   have g4:wr.cell? ⟨b,off + k,none⟩ = _:=(ck hbel g3)
   have HS:=Hd (copy_step hblk hsz hlt hpre)
   have HB:=Hd (hbel.setCell (p:=⟨w.heap.size,k,none⟩) (Nat.le_refl _) (.int .u32 (xs.getD k 0:Nat)))
   have HH:=Hd hhs
   generalize xs.getD k 0 = x at g3 g4 HS HB
   clear hblk hsz hpre hbel g3 hhs
   go_wp2
   refine ⟨⟨k + 1,by omega,by go_num,by simpa using Uh HS,by simpa using Uh HH,Uh HB⟩,by simp [intOf]; omega⟩
  ·have HS:=Hd hpre
   have HB:=Hd hblk
   have HZ:=Hd hsz
   have HH:=Hd hhs
   clear hpre hblk hsz hhs
   go_wp2
   go_ret
   exact ⟨cur,rfl,Uh HB,Uh HZ,fun i hi => Uh HS i (by omega),Uh HH,hbel⟩

set_option maxHeartbeats 800000 in
theorem copy_nil (a:Option Addr) (c:Nat) (w:World) :
  Calls Tryz.prog 113 #[.slice a 0 c] w fun e w' => ∃ cur,e = .returned (.slice (some ⟨w.heap.size,0,none⟩) 0 3) ∧ w'.heap[w.heap.size]? = some (.cells cur 43) ∧ cur.size = 3 ∧ w'.heap.size = w.heap.size + 1 ∧ Below w.heap.size w w':=by
 have hmk:∀ w,(Instr.makeSlice 22 (.int .i64 0) (.int .i64 3)).run Tryz.prog w = .ok (.slice (some ⟨w.heap.size,0,none⟩) 0 3) (w.alloc (.cells (madeCells #[.int .u32 0] 3) 43)):=fun w => make_n3 0 (by omega) w
 go_enter Tryz.func113,Tryz.ntmps113
 go_wp2
 go_loopw [4] (fun i wr => i = .int .i64 0 ∧ (∃ cur,wr.heap[w.heap.size]? = some (.cells cur 43) ∧ cur.size = 3) ∧ wr.heap.size = w.heap.size + 1 ∧ Below w.heap.size w wr) (fun i _ => (intOf i).toNat)
 case atStart => exact ⟨rfl,⟨_,alloc_block _ _,size_madeCells _ _⟩,by simp,bAl⟩
 case round =>
  obtain ⟨rfl,⟨cur,hblk,hsz⟩,hhs,hbel⟩:=hrel
  have HB:=Hd hblk
  have HZ:=Hd hsz
  have HH:=Hd hhs
  clear hblk hsz hhs
  go_wp2
  go_ret
  exact ⟨cur,rfl,Uh HB,Uh HZ,Uh HH,hbel⟩

theorem copy_any (a:Option Addr) (n c:Nat) (xs:List Nat) (w:World) (h:Sl w a n c xs) (hb:n ≤ 70368744177600) :
  Calls Tryz.prog 113 #[.slice a n c] w fun e w' => ∃ cur,e = .returned (.slice (some ⟨w.heap.size,0,none⟩) n (n + 3)) ∧ w'.heap[w.heap.size]? = some (.cells cur 43) ∧ cur.size = n + 3 ∧ (∀ i,i < n → cur[i]? = some (.int .u32 (xs.getD i 0:Nat))) ∧ w'.heap.size = w.heap.size + 1 ∧ Below w.heap.size w w':=by
 have hl:=h.len
 rcases h.cells with h0 | ⟨b,off,rfl,hc⟩
 ·subst h0
  simp at hl
  subst hl
  refine (copy_nil a c w).mono ?_
  rintro e w' ⟨cur,rfl,h1,h2,h3,h4⟩
  exact ⟨cur,rfl,h1,h2,fun i hi => absurd hi (Nat.not_lt_zero _),h3,h4⟩
 ·exact copy_some b off n c xs w hl hb hc
end Go.Proofs.YtlolnaegfponeaaGreatDoor
