/- Sa1 -/
import Derived.Test.YtcajmdfcanopnaaDoorSa0
namespace Go.Proofs.YtcajmdfcanopnaaDoor
open Go.RowKit Go.Deep
set_option linter.unusedVariables false
def InP (size:Int) (xs:List Int) (n:Nat):Prop:=∀ i,i < n → 0 ≤ xs.getD i 0 ∧ xs.getD i 0 < size
def BIs (P:Prop) (w w':World) (e:Ending):Prop:=(∃ b:Bool,e = .returned (.bool b) ∧ (b = true ↔ P)) ∧ Below w.heap.size w w'
def BIq (P:Prop) (w w':World) (e:Ending):Prop:=(∃ b:Bool,e = .returned (.bool b) ∧ (b = true ↔ P)) ∧ w' = w
def Dr (w w':World):Prop:=∃ m,w' = w.drewN m
theorem Dr.refl (w:World):Dr w w:=⟨0,rfl⟩
theorem Dr.drew {w w':World} (h:Dr w w'):Dr w w'.drew:=by obtain ⟨m,rfl⟩:=h; exact ⟨m + 1,by simp⟩
theorem Dr.n {w w':World} (h:Dr w w') (k:Nat):Dr w (w'.drewN k):=by obtain ⟨m,rfl⟩:=h; exact ⟨m + k,by rw [World.drewN_drewN]⟩
theorem Dr.trans {w w' w'':World} (h:Dr w w') (k:Dr w' w''):Dr w w'':=by obtain ⟨m,rfl⟩:=k; exact h.n m
theorem Dr.below {w w':World} (h:Dr w w'):Below w.heap.size w w':=by obtain ⟨m,rfl⟩:=h; exact bel_drewN (Below.refl _ _) m
def QI (ok:Bool) (w w':World) (e:Ending):Prop:=e = .returned (.bool ok) ∧ Dr w w'
theorem QI.yes {P:Prop} {ok:Bool} (ho:ok = true ↔ P) {w w':World} (h:P) (k:Dr w w'):QI ok w w' (.returned (.bool true)):=⟨by rw [ho.2 h],k⟩
theorem QI.no {P:Prop} {ok:Bool} (ho:ok = true ↔ P) {w w':World} (h:¬ P) (k:Dr w w'):QI ok w w' (.returned (.bool false)):=⟨by cases ok; rfl; exact absurd (ho.1 rfl) h,k⟩
theorem truth (P:Prop):∃ ok:Bool,ok = true ↔ P:=by by_cases h:P; exact ⟨true,by simp [h]⟩; exact ⟨false,by simp [h]⟩
theorem BIs.yes {P:Prop} {w w':World} (h:P) (k:Below w.heap.size w w'):BIs P w w' (.returned (.bool true)):=⟨⟨true,rfl,by simp [h]⟩,k⟩
theorem BIs.no {P:Prop} {w w':World} (h:¬ P) (k:Below w.heap.size w w'):BIs P w w' (.returned (.bool false)):=⟨⟨false,rfl,by simp [h]⟩,k⟩
set_option maxRecDepth 20000 in
set_option maxHeartbeats 8000000 in
theorem fits_any (rows width:Int) (w:World):Calls Tryd.prog 11 #[.int .i64 rows,.int .i64 width] w fun e w' => BIq (0 ≤ rows ∧ rows ≤ 128 ∧ 0 ≤ width ∧ width ≤ 128) w w' e:=by
 by_cases h1:0 ≤ rows
 ·by_cases h2:rows ≤ 128
  ·by_cases h3:0 ≤ width
   ·by_cases h4:width ≤ 128
    ·go_enter Tryd.func11,Tryd.ntmps11
     go_wp2_with fail
     go_ret
     exact ⟨⟨true,rfl,by simp [h1,h2,h3,h4]⟩,rfl⟩
    ·go_enter Tryd.func11,Tryd.ntmps11
     go_wp2_with fail
     go_ret
     exact ⟨⟨false,rfl,by simp; omega⟩,rfl⟩
   ·go_enter Tryd.func11,Tryd.ntmps11
    go_wp2_with fail
    go_ret
    exact ⟨⟨false,rfl,by simp; omega⟩,rfl⟩
  ·go_enter Tryd.func11,Tryd.ntmps11
   go_wp2_with fail
   go_ret
   exact ⟨⟨false,rfl,by simp; omega⟩,rfl⟩
 ·go_enter Tryd.func11,Tryd.ntmps11
  go_wp2_with fail
  go_ret
  exact ⟨⟨false,rfl,by simp; omega⟩,rfl⟩
set_option maxRecDepth 20000 in
set_option maxHeartbeats 8000000 in
theorem sized_any (rows width:Int) (w:World):Calls Tryd.prog 15 #[.int .i64 rows,.int .i64 width] w fun e w' => BIq (0 ≤ rows ∧ rows ≤ 128 ∧ 0 ≤ width ∧ width ≤ 128) w w' e:=by
 by_cases h1:0 ≤ rows
 ·by_cases h2:rows ≤ 128
  ·by_cases h3:0 ≤ width
   ·by_cases h4:width ≤ 128
    ·go_enter Tryd.func15,Tryd.ntmps15
     go_wp2_with fail
     go_ret
     exact ⟨⟨true,rfl,by simp [h1,h2,h3,h4]⟩,rfl⟩
    ·go_enter Tryd.func15,Tryd.ntmps15
     go_wp2_with fail
     go_ret
     exact ⟨⟨false,rfl,by simp; omega⟩,rfl⟩
   ·go_enter Tryd.func15,Tryd.ntmps15
    go_wp2_with fail
    go_ret
    exact ⟨⟨false,rfl,by simp; omega⟩,rfl⟩
  ·go_enter Tryd.func15,Tryd.ntmps15
   go_wp2_with fail
   go_ret
   exact ⟨⟨false,rfl,by simp; omega⟩,rfl⟩
 ·go_enter Tryd.func15,Tryd.ntmps15
  go_wp2_with fail
  go_ret
  exact ⟨⟨false,rfl,by simp; omega⟩,rfl⟩
set_option maxRecDepth 20000 in
set_option maxHeartbeats 8000000 in
theorem within_any (a:Option Addr) (n c:Nat) (xs:List Int) (size:Int) (w:World) (h:SlI w a n c xs) (hn:n ≤ 140737488355328) (ok:Bool) (hok:ok = true ↔ InP size xs n):Calls Tryd.prog 27 #[.slice a n c,.int .i64 size] w fun e w' => QI ok w w' e:=by
 have HS:=Hj h
 have HOK:=Hj hok
 clear h hok
 go_enter Tryd.func27,Tryd.ntmps27
 go_wp2_with fail
 go_loopw [9,6] (fun kv _ wr => ∃ k:Nat,k ≤ n ∧ kv = .int .i64 (k:Nat) ∧ Hid (∀ i,i < k → 0 ≤ xs.getD i 0 ∧ xs.getD i 0 < size) ∧ Hid (Dr w wr)) (fun kv _ _ => n - (intOf kv).toNat)
 case atStart => exact ⟨0,Nat.zero_le _,rfl,fun i hi => absurd hi (Nat.not_lt_zero _),Dr.refl _⟩
 case round =>
  obtain ⟨k,hk,rfl,HK,HW⟩:=hrel
  by_cases hlt:k < n
  ·have hlt':(k:Int) < (n:Int):=by omega
   obtain ⟨b,off,rfl,hc⟩:=((Uh HS).below (Uh HW).below).at (by omega)
   have hx:=hc k hlt
   obtain ⟨x,hxx⟩:∃ x,xs.getD k 0 = x:=⟨_,rfl⟩
   rw [hxx] at hx
   have HX:=Hj hxx
   clear hc hxx
   by_cases h0:x < 0
   ·go_wp2_with fail
    go_ret
    exact QI.no (Uh HOK) (fun z => by unfold InP at z; have:=(z k hlt).1; have h9:=Uh HX; rw [h9] at this; omega) (Uh HW)
   ·by_cases h1:size ≤ x
    ·go_wp2_with fail
     go_ret
     exact QI.no (Uh HOK) (fun z => by unfold InP at z; have:=(z k hlt).2; have h9:=Uh HX; rw [h9] at this; omega) (Uh HW)
    ·go_wp2_with fail
     refine ⟨⟨k + 1,by omega,by (first | rfl | go_num),Hj fun i hi => ?_,HW⟩,by simp [intOf]; omega⟩
     rcases Nat.lt_or_eq_of_le (Nat.le_of_lt_succ hi) with e | e
     ·exact Uh HK i e
     ·rw [e,Uh HX]; omega
  ·have hkn:k = n:=by omega
   subst hkn
   have hlt':¬ (k:Int) < (k:Int):=by omega
   go_wp2_with fail
   go_ret
   exact QI.yes (Uh HOK) (Uh HK) (Uh HW)
set_option maxRecDepth 20000 in
set_option maxHeartbeats 8000000 in
theorem isRow_any (a:Option Addr) (n c:Nat) (xs:List Int) (width:Int) (w:World) (h:SlI w a n c xs) (hn:n ≤ 140737488355328) (ok:Bool) (hok:ok = true ↔ RowP width xs 0 n):Calls Tryd.prog 13 #[.slice a n c,.int .i64 width] w fun e w' => QI ok w w' e:=by
 have HS:=Hj h
 have HOK:=Hj hok
 obtain ⟨ok2,hok2⟩:=truth (InP width xs n)
 have HOK2:=Hj hok2
 have KW:=Hj (fun (W:World) (k:Dr w W) => within_any a n c xs width W (h.below k.below) hn ok2 hok2)
 clear hok2
 clear h hok
 go_enter Tryd.func13,Tryd.ntmps13
 go_wp2_with fail
 go_loopw [5] (fun kv wr => ∃ k:Nat,1 ≤ k ∧ (k ≤ n ∨ k = 1) ∧ kv = .int .i64 (k:Nat) ∧ Hid (∀ i,0 < i → i < k → xs.getD (i - 1) 0 < xs.getD i 0) ∧ Hid (Dr w wr)) (fun kv _ => n - (intOf kv).toNat)
 case atStart => exact ⟨1,Nat.le_refl _,.inr rfl,rfl,fun i hi hi2 => by omega,Dr.refl _⟩
 case round =>
  obtain ⟨k,hk1,hk,rfl,HK,HW⟩:=hrel
  by_cases hlt:k < n
  ·have hlt':(k:Int) < (n:Int):=by omega
   obtain ⟨b,off,rfl,hc⟩:=((Uh HS).below (Uh HW).below).at (by omega)
   obtain ⟨j,hj⟩:∃ j,k = j + 1:=⟨k - 1,by omega⟩
   subst hj
   have hx:=hc (j + 1) hlt
   have hy:=hc j (by omega)
   obtain ⟨x,hxx⟩:∃ x,xs.getD (j + 1) 0 = x:=⟨_,rfl⟩
   obtain ⟨y,hyy⟩:∃ y,xs.getD j 0 = y:=⟨_,rfl⟩
   rw [hxx] at hx
   rw [hyy] at hy
   have HX:=Hj (And.intro hxx hyy)
   clear hc hxx hyy hk
   have hlt2:(j:Int) + 1 < (n:Int):=by omega
   clear hlt'
   by_cases h0:x ≤ y
   ·go_wp2_with fail
    go_region
    all_goals go_wp2_with fail
    all_goals go_ret
    all_goals exact QI.no (Uh HOK) (fun z => by have h8:=z.up (j + 1) (by omega) hlt; have h9:=Uh HX; rw [h9.1,Nat.add_sub_cancel,h9.2] at h8; omega) (Uh HW).drew
   ·go_wp2_with fail
    go_region
    all_goals go_wp2_with fail
    all_goals refine ⟨⟨j + 1 + 1,by omega,by omega,by (first | rfl | go_num),Hj fun i hi hi2 => ?_,Hj (Uh HW).drew⟩,by simp [intOf]; omega⟩
    all_goals rcases Nat.lt_or_eq_of_le (Nat.le_of_lt_succ hi2) with e | e
    all_goals first | exact Uh HK i hi e | (have h9:=Uh HX; subst e; rw [h9.1,Nat.add_sub_cancel,h9.2]; omega)
  ·have hlt':¬ (k:Int) < (n:Int):=by omega
   go_wp2_with fail
   refine (Uh KW _ (Uh HW)).mono ?_
   rintro _ w3 ⟨rfl,d3⟩
   have HD:=Hj ((Uh HW).trans d3)
   clear d3
   go_wp2_with fail
   go_ret
   have hK:=Uh HK
   refine ⟨?_,Uh HD⟩
   have:ok2 = ok:=by
    have h1:=Uh HOK
    have h2:=Uh HOK2
    have h3:InP width xs n ↔ RowP width xs 0 n:=⟨fun z => ⟨fun i _ hi => z i hi,fun i h1 h2 => hK i h1 (by omega)⟩,fun z i hi => z.rng i (Nat.zero_le _) hi⟩
    have h4:=(h2.trans h3).trans h1.symm
    cases ok2 <;> cases ok <;> simp_all
   show Ending.returned (Value.bool ok2) = _
   rw [this]
theorem wrapJ (x:Int) (h0:-9223372036854775808 ≤ x) (h1:x < 9223372036854775808):IntKind.i64.wrap x = x:=by
 have e:IntKind.i64.wrap x = (x + 9223372036854775808) % 18446744073709551616 - 9223372036854775808:=by
  simp [IntKind.wrap,IntKind.bits,IntKind.signed]
  split <;> omega
 rw [e]
 omega
theorem nan_int (x:Int) (w:World):Calls Tryd.prog 39 #[.int .i64 x] w fun e w' => e = .returned (.bool false) ∧ w' = w:=by
 go_enter Tryd.func39,Tryd.ntmps39
 go_wp2_with fail
 go_ret
 exact ⟨by simp,rfl⟩
theorem less_int (x y:Int) (w:World):Calls Tryd.prog 26 #[.int .i64 x,.int .i64 y] w fun e w' => e = .returned (.bool (decide (x < y))) ∧ w' = w:=by
 have H1:=Hj (nan_int x w)
 go_enter Tryd.func26,Tryd.ntmps26
 go_wp2_with fail
 refine (Uh H1).mono ?_
 rintro _ _ ⟨rfl,hw⟩
 obtain rfl:=hw.symm
 clear hw
 go_wp2_with fail
 go_ret
 exact ⟨rfl,rfl⟩
set_option maxRecDepth 20000 in
set_option maxHeartbeats 8000000 in
theorem isSorted_any (a:Option Addr) (n c:Nat) (xs:List Int) (w:World) (h:SlI w a n c xs) (hn:n ≤ 140737488355328) (ok:Bool) (hok:ok = true ↔ SortP xs 0):Calls Tryd.prog 12 #[.slice a n c] w fun e w' => QI ok w w' e:=by
 have HL:=Hj h.len
 have HS:=Hj h
 have HOK:=Hj hok
 have KL:=Hj (fun (x y:Int) (W:World) => less_int x y W)
 clear h hok
 go_enter Tryd.func12,Tryd.ntmps12
 go_wp2_with fail
 go_loopw [3] (fun iv wr => ∃ q:Nat,q ≤ n ∧ iv = .int .i64 ((q:Int) - 1) ∧ Hid (SortP xs (q - 1)) ∧ Hid (Dr w wr)) (fun iv _ => ((intOf iv) + 1).toNat)
 case atStart => exact ⟨n,Nat.le_refl _,rfl,Hj (fun i h1 h2 => by have:=Uh HL; omega),Dr.refl _⟩
 case round =>
  obtain ⟨q,hq,rfl,HK,HW⟩:=hrel
  by_cases h2:2 ≤ q
  ·obtain ⟨j,hj⟩:∃ j,q = j + 2:=⟨q - 2,by omega⟩
   subst hj
   have ej:((j + 2:Nat):Int) - 1 = (j:Int) + 1:=by omega
   rw [ej]
   have HEJ:=Hj ej
   obtain ⟨b,off,rfl,hc⟩:=((Uh HS).below (Uh HW).below).at (by omega)
   have hx:=hc (j + 1) (by omega)
   have hy:=hc j (by omega)
   obtain ⟨x,hxx⟩:∃ x,xs.getD (j + 1) 0 = x:=⟨_,rfl⟩
   obtain ⟨y,hyy⟩:∃ y,xs.getD j 0 = y:=⟨_,rfl⟩
   rw [hxx] at hx
   rw [hyy] at hy
   have HX:=Hj (And.intro hxx hyy)
   have hlt2:(j:Int) + 1 < (n:Int):=by omega
   have h0:(0:Int) < (j:Int) + 1:=by omega
   have hjj:IntKind.i64.wrap ((j:Int) + 1 - 1) = (j:Int):=by rw [wrapJ _ (by omega) (by omega)]; omega
   have hlt3:(j:Int) < (n:Int):=by omega
   have hj0:(0:Int) ≤ (j:Int):=by omega
   clear hc hxx hyy ej h2
   by_cases hl:x < y
   ·have KX:=Hj (fun (W:World) => (show Calls Tryd.prog 26 #[.int .i64 x,.int .i64 y] W fun e w' => e = .returned (.bool true) ∧ w' = W from by have:=less_int x y W; rwa [decide_eq_true hl] at this))
    have HLL:=Hj hl
    clear hl
    go_wp2_with fail
    go_quiet ((go_at_call 26; exact Calls.quiet_of_same (Uh KX _)))
    all_goals go_wp2_with fail
    all_goals go_ret
    all_goals exact QI.no (Uh HOK) (fun z => by have h8:=z j (Nat.zero_le _) (by have:=Uh HL; omega); have h9:=Uh HX; rw [h9.1,h9.2] at h8; have:=Uh HLL; omega) ((Uh HW).n _)
   ·have KX:=Hj (fun (W:World) => (show Calls Tryd.prog 26 #[.int .i64 x,.int .i64 y] W fun e w' => e = .returned (.bool false) ∧ w' = W from by have:=less_int x y W; rwa [decide_eq_false hl] at this))
    have HLL:=Hj hl
    clear hl
    go_wp2_with fail
    go_quiet ((go_at_call 26; exact Calls.quiet_of_same (Uh KX _)))
    all_goals go_wp2_with fail
    all_goals refine ⟨⟨j + 1,by omega,by (first | rfl | go_num | (congr 1; omega)),Hj fun i hi hi2 => ?_,Hj ((Uh HW).n _)⟩,by simp [intOf]; omega⟩
    all_goals by_cases e:i = j
    ·subst e
     have h9:=Uh HX
     rw [h9.1,h9.2]
     have:=Uh HLL
     omega
    ·exact Uh HK i (by omega) hi2
  ·have h0:¬ (0:Int) < (q:Int) - 1:=by omega
   go_wp2_with fail
   go_ret
   exact QI.yes (Uh HOK) (fun i _ hi => Uh HK i (by omega) hi) (Uh HW)
def valsI (xs:List Int):List Value:=xs.map (fun x => Value.int .i64 x)
theorem Tryd.info_i64:(Tryd.prog.info? 3).map (fun i => (i.zero,i.size,i.bytes)) = some (some (.int .i64 0),1,8):=by kernel_rfl
theorem cells_of_blockI {w:World} {b off:Nat} {cur:Array Value} {e:TypeId} {fr:Nat × Nat} {xs:List Int} (h:w.heap[b]? = some (.cells cur e fr)) (ht:∀ i,i < xs.length → cur[off + i]? = some (.int .i64 (xs.getD i 0))):CellsI w b off xs:=by
 intro i hi
 rw [cell_of_block h]; exact ht i hi

theorem vals_getI {xs:List Int} {i:Nat} (h:i < xs.length):(valsI xs)[i]? = some (.int .i64 (xs.getD i 0)):=by
 simp [valsI,h]

theorem take_valsI {cur:Array Value} {n:Nat} {xs:List Int} (hl:xs.length = n) (h:cur.toList.take n = valsI xs):∀ i,i < xs.length → cur[i]? = some (.int .i64 (xs.getD i 0)):=by
 intro i hi
 have:=vals_getI hi
 rw [← h] at this
 simpa [List.getElem?_take,show i < n from by omega] using this

theorem make_n3I (n:Nat) (hn:n ≤ 17592186044400) (w:World):(Instr.makeSlice 22 (.int .i64 (n:Int)) (.int .i64 ((n:Int) + 3))).run Tryd.prog w = .ok (.slice (some ⟨w.heap.size,0,none⟩) n (n + 3)) (w.alloc (.cells (madeCells #[.int .i64 0] (n + 3)) 3)):=by
 obtain ⟨i,hi,hzz⟩:=Option.map_eq_some_iff.1 Tryd.info_i64
 simp only [Prod.mk.injEq] at hzz
 obtain ⟨hz,hs,hb⟩:=hzz
 have hr:=run_make (P:=Tryd.prog) w 22 3 i (.int .i64 0) Tryd.underlying22 hi hz .i64 .i64 n ((n:Int) + 3) (by omega) (by omega) (by rw [hb]; omega) (by omega)
 rw [hs,Nat.mul_one,show ((n:Int) + 3).toNat = n + 3 from by omega,show ((n:Int)).toNat = n from by omega] at hr
 exact hr

theorem copy_stepI {wr w:World} {n k:Nat} {cur:Array Value} {xs:List Int} (hblk:wr.heap[w.heap.size]? = some (.cells cur 3)) (hsz:cur.size = n + 3) (hk:k < n)
  (hpre:∀ i,i < k → cur[i]? = some (.int .i64 (xs.getD i 0))) :
  ∃ cur',(wr.setCell ⟨w.heap.size,k,none⟩ (.int .i64 (xs.getD k 0))).heap[w.heap.size]? = some (.cells cur' 3) ∧ cur'.size = n + 3 ∧ ∀ i,i < k + 1 → cur'[i]? = some (.int .i64 (xs.getD i 0)):=by
 refine ⟨_,set_block hblk k _,by simp [hsz],?_⟩
 intro i hi
 by_cases e:i = k
 ·subst e; simp [show i < cur.size from by omega]
 ·rw [Array.getElem?_setIfInBounds_ne (by omega)]; exact hpre i (by omega)

set_option maxHeartbeats 800000 in
theorem copy_someI (b off n c:Nat) (xs:List Int) (w:World) (hn:xs.length = n) (hcm:n ≤ 17592186044400) (hc:CellsI w b off xs) :
  Calls Tryd.prog 28 #[.slice (some ⟨b,off,none⟩) n c] w fun e w' => ∃ cur,e = .returned (.slice (some ⟨w.heap.size,0,none⟩) n (n + 3)) ∧ w'.heap[w.heap.size]? = some (.cells cur 3) ∧ cur.size = n + 3 ∧ (∀ i,i < n → cur[i]? = some (.int .i64 (xs.getD i 0))) ∧ w'.heap.size = w.heap.size + 1 ∧ Below w.heap.size w w':=by
 have hmk:=make_n3I n hcm
 go_enter Tryd.func28,Tryd.ntmps28
 go_wp2
 go_loopw [4] (fun i wr => ∃ k:Nat,k ≤ n ∧ i = .int .i64 k ∧ (∃ cur,wr.heap[w.heap.size]? = some (.cells cur 3) ∧ cur.size = n + 3 ∧ ∀ i,i < k → cur[i]? = some (.int .i64 (xs.getD i 0))) ∧ wr.heap.size = w.heap.size + 1 ∧ Below w.heap.size w wr) (fun i _ => n - (intOf i).toNat)
 case atStart => exact ⟨0,Nat.zero_le _,rfl,⟨_,alloc_block _ _,size_madeCells _ _,fun i hi => absurd hi (Nat.not_lt_zero _)⟩,by simp,bAl⟩
 case round =>
  obtain ⟨k,hk,rfl,⟨cur,hblk,hsz,hpre⟩,hhs,hbel⟩:=hrel
  by_cases hlt:k < n
  ·have hlt':(k:Int) < (n:Int):=by omega
   have g1:wr.cell? ⟨w.heap.size,k,none⟩ = some cur[k]!:=by rw [cell_of_block hblk]; simp [show k < cur.size from by omega]
   have g2:=frozen_of_block hblk k
   have g3:=hc k (by omega)
   have g4:wr.cell? ⟨b,off + k,none⟩ = _:=(ck hbel g3)
   have HS:=Hj (copy_stepI hblk hsz hlt hpre)
   have HB:=Hj (hbel.setCell (p:=⟨w.heap.size,k,none⟩) (Nat.le_refl _) (.int .i64 (xs.getD k 0)))
   have HH:=Hj hhs
   generalize xs.getD k 0 = x at g3 g4 HS HB
   clear hblk hsz hpre hbel g3 hhs
   go_wp2
   refine ⟨⟨k + 1,by omega,by go_num,by simpa using Uh HS,by simpa using Uh HH,Uh HB⟩,by simp [intOf]; omega⟩
  ·have HS:=Hj hpre
   have HB:=Hj hblk
   have HZ:=Hj hsz
   have HH:=Hj hhs
   clear hpre hblk hsz hhs
   go_wp2
   go_ret
   exact ⟨cur,rfl,Uh HB,Uh HZ,fun i hi => Uh HS i (by omega),Uh HH,hbel⟩

set_option maxHeartbeats 800000 in
theorem copy_nilI (a:Option Addr) (c:Nat) (w:World) :
  Calls Tryd.prog 28 #[.slice a 0 c] w fun e w' => ∃ cur,e = .returned (.slice (some ⟨w.heap.size,0,none⟩) 0 3) ∧ w'.heap[w.heap.size]? = some (.cells cur 3) ∧ cur.size = 3 ∧ w'.heap.size = w.heap.size + 1 ∧ Below w.heap.size w w':=by
 have hmk:∀ w,(Instr.makeSlice 22 (.int .i64 0) (.int .i64 3)).run Tryd.prog w = .ok (.slice (some ⟨w.heap.size,0,none⟩) 0 3) (w.alloc (.cells (madeCells #[.int .i64 0] 3) 3)):=fun w => make_n3I 0 (by omega) w
 go_enter Tryd.func28,Tryd.ntmps28
 go_wp2
 go_loopw [4] (fun i wr => i = .int .i64 0 ∧ (∃ cur,wr.heap[w.heap.size]? = some (.cells cur 3) ∧ cur.size = 3) ∧ wr.heap.size = w.heap.size + 1 ∧ Below w.heap.size w wr) (fun i _ => (intOf i).toNat)
 case atStart => exact ⟨rfl,⟨_,alloc_block _ _,size_madeCells _ _⟩,by simp,bAl⟩
 case round =>
  obtain ⟨rfl,⟨cur,hblk,hsz⟩,hhs,hbel⟩:=hrel
  have HB:=Hj hblk
  have HZ:=Hj hsz
  have HH:=Hj hhs
  clear hblk hsz hhs
  go_wp2
  go_ret
  exact ⟨cur,rfl,Uh HB,Uh HZ,Uh HH,hbel⟩

theorem copy_anyI (a:Option Addr) (n c:Nat) (xs:List Int) (w:World) (h:SlI w a n c xs) (hb:n ≤ 17592186044400) :
  Calls Tryd.prog 28 #[.slice a n c] w fun e w' => ∃ cur,e = .returned (.slice (some ⟨w.heap.size,0,none⟩) n (n + 3)) ∧ w'.heap[w.heap.size]? = some (.cells cur 3) ∧ cur.size = n + 3 ∧ (∀ i,i < n → cur[i]? = some (.int .i64 (xs.getD i 0))) ∧ w'.heap.size = w.heap.size + 1 ∧ Below w.heap.size w w':=by
 have hl:=h.len
 rcases h.cells with h0 | ⟨b,off,rfl,hc⟩
 ·subst h0
  simp at hl
  subst hl
  refine (copy_nilI a c w).mono ?_
  rintro e w' ⟨cur,rfl,h1,h2,h3,h4⟩
  exact ⟨cur,rfl,h1,h2,fun i hi => absurd hi (Nat.not_lt_zero _),h3,h4⟩
 ·exact copy_someI b off n c xs w hl hb hc
end Go.Proofs.YtcajmdfcanopnaaDoor
