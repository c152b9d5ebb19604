/- Sa2 -/
import Derived.Test.YtgjokididdffhaaGreatSa1
namespace Go.Proofs.YtgjokididdffhaaGreat
open Go.RowKit Go.Deep
set_option linter.unusedVariables false
theorem wrapJ (x:Int) (h0:-9223372036854775808 ≤ x) (h1:x < 9223372036854775808):IntKind.i64.wrap x = x:=by
 have e:IntKind.i64.wrap x = (x + 9223372036854775808) % 18446744073709551616 - 9223372036854775808:=by
  simp [IntKind.wrap,IntKind.bits,IntKind.signed]
  split <;> omega
 rw [e]
 omega
theorem nan_int (x:Int) (w:World):Calls Tryz.prog 137 #[.int .i64 x] w fun e w' => e = .returned (.bool false) ∧ w' = w:=by
 go_enter Tryz.func137,Tryz.ntmps137
 go_wp2_with fail
 go_ret
 exact ⟨by simp,rfl⟩
theorem less_int (x y:Int) (w:World):Calls Tryz.prog 108 #[.int .i64 x,.int .i64 y] w fun e w' => e = .returned (.bool (decide (x < y))) ∧ w' = w:=by
 have H1:=Hj (nan_int x w)
 go_enter Tryz.func108,Tryz.ntmps108
 go_wp2_with fail
 refine (Uh H1).mono ?_
 rintro _ _ ⟨rfl,hw⟩
 obtain rfl:=hw.symm
 clear hw
 go_wp2_with fail
 go_ret
 exact ⟨rfl,rfl⟩
set_option maxRecDepth 20000 in
set_option maxHeartbeats 8000000 in
theorem isSorted_any (a:Option Addr) (n c:Nat) (xs:List Int) (w:World) (h:SlI w a n c xs) (hn:n ≤ 140737488355328) (ok:Bool) (hok:ok = true ↔ SortP xs 0):Calls Tryz.prog 68 #[.slice a n c] w fun e w' => QI ok w w' e:=by
 have HL:=Hj h.len
 have HS:=Hj h
 have HOK:=Hj hok
 have KL:=Hj (fun (x y:Int) (W:World) => less_int x y W)
 clear h hok
 go_enter Tryz.func68,Tryz.ntmps68
 go_wp2_with fail
 go_loopw [3] (fun iv wr => ∃ q:Nat,q ≤ n ∧ iv = .int .i64 ((q:Int) - 1) ∧ Hid (SortP xs (q - 1)) ∧ Hid (Dr w wr)) (fun iv _ => ((intOf iv) + 1).toNat)
 case atStart => exact ⟨n,Nat.le_refl _,rfl,Hj (fun i h1 h2 => by have:=Uh HL; omega),Dr.refl _⟩
 case round =>
  obtain ⟨q,hq,rfl,HK,HW⟩:=hrel
  by_cases h2:2 ≤ q
  ·obtain ⟨j,hj⟩:∃ j,q = j + 2:=⟨q - 2,by omega⟩
   subst hj
   have ej:((j + 2:Nat):Int) - 1 = (j:Int) + 1:=by omega
   rw [ej]
   have HEJ:=Hj ej
   obtain ⟨b,off,rfl,hc⟩:=((Uh HS).below (Uh HW).below).at (by omega)
   have hx:=hc (j + 1) (by omega)
   have hy:=hc j (by omega)
   obtain ⟨x,hxx⟩:∃ x,xs.getD (j + 1) 0 = x:=⟨_,rfl⟩
   obtain ⟨y,hyy⟩:∃ y,xs.getD j 0 = y:=⟨_,rfl⟩
   rw [hxx] at hx
   rw [hyy] at hy
   have HX:=Hj (And.intro hxx hyy)
   have hlt2:(j:Int) + 1 < (n:Int):=by omega
   have h0:(0:Int) < (j:Int) + 1:=by omega
   have hjj:IntKind.i64.wrap ((j:Int) + 1 - 1) = (j:Int):=by rw [wrapJ _ (by omega) (by omega)]; omega
   have hlt3:(j:Int) < (n:Int):=by omega
   have hj0:(0:Int) ≤ (j:Int):=by omega
   clear hc hxx hyy ej h2
   by_cases hl:x < y
   ·have KX:=Hj (fun (W:World) => (show Calls Tryz.prog 108 #[.int .i64 x,.int .i64 y] W fun e w' => e = .returned (.bool true) ∧ w' = W from by have:=less_int x y W; rwa [decide_eq_true hl] at this))
    have HLL:=Hj hl
    clear hl
    go_wp2_with fail
    go_quiet ((go_at_call 108; exact Calls.quiet_of_same (Uh KX _)))
    all_goals go_wp2_with fail
    all_goals go_ret
    all_goals exact QI.no (Uh HOK) (fun z => by have h8:=z j (Nat.zero_le _) (by have:=Uh HL; omega); have h9:=Uh HX; rw [h9.1,h9.2] at h8; have:=Uh HLL; omega) ((Uh HW).n _)
   ·have KX:=Hj (fun (W:World) => (show Calls Tryz.prog 108 #[.int .i64 x,.int .i64 y] W fun e w' => e = .returned (.bool false) ∧ w' = W from by have:=less_int x y W; rwa [decide_eq_false hl] at this))
    have HLL:=Hj hl
    clear hl
    go_wp2_with fail
    go_quiet ((go_at_call 108; exact Calls.quiet_of_same (Uh KX _)))
    all_goals go_wp2_with fail
    all_goals refine ⟨⟨j + 1,by omega,by (first | rfl | go_num | (congr 1; omega)),Hj fun i hi hi2 => ?_,Hj ((Uh HW).n _)⟩,by simp [intOf]; omega⟩
    all_goals by_cases e:i = j
    ·subst e
     have h9:=Uh HX
     rw [h9.1,h9.2]
     have:=Uh HLL
     omega
    ·exact Uh HK i (by omega) hi2
  ·have h0:¬ (0:Int) < (q:Int) - 1:=by omega
   go_wp2_with fail
   go_ret
   exact QI.yes (Uh HOK) (fun i _ hi => Uh HK i (by omega) hi) (Uh HW)
def UpS (xs:List Int) (n:Nat):Prop:=∀ i,0 < i → i < n → xs.getD (i - 1) 0 < xs.getD i 0
theorem UpS.lt {xs:List Int} {n:Nat} (h:UpS xs n) {i:Nat}:∀ d,i + d + 1 < n → xs.getD i 0 < xs.getD (i + d + 1) 0
 | 0,hd => by have:=h (i + 1) (by omega) (by omega); simpa using this
 | d + 1,hd => by
  have h1:=UpS.lt h d (by omega:i + d + 1 < n)
  have h2:=h (i + (d + 1) + 1) (by omega) hd
  rw [show i + (d + 1) + 1 - 1 = i + d + 1 by omega] at h2
  exact Int.lt_trans h1 h2
theorem UpS.lt' {xs:List Int} {n:Nat} (h:UpS xs n) {i j:Nat} (hij:i < j) (hj:j < n):xs.getD i 0 < xs.getD j 0:=by
 have:=h.lt (i:=i) (j - i - 1) (by omega)
 rwa [show i + (j - i - 1) + 1 = j by omega] at this
def HasX (xs:List Int) (n:Nat) (t:Int):Prop:=∃ k,k < n ∧ xs.getD k 0 = t
structure BsP (xs:List Int) (n:Nat) (t:Int) (i:Nat):Prop where
 le:i ≤ n
 lo:∀ k,k < i → xs.getD k 0 < t
 hi:∀ k,i ≤ k → k < n → t ≤ xs.getD k 0
theorem BsP.has {xs:List Int} {n:Nat} {t:Int} {i:Nat} (h:BsP xs n t i) (hu:UpS xs n) (hl:i < n):HasX xs n t ↔ xs.getD i 0 = t:=by
 constructor
 ·rintro ⟨k,hk,e⟩
  rcases Nat.lt_trichotomy k i with c | c | c
  ·have:=h.lo k c; omega
  ·rw [← c]; exact e
  ·have h1:=hu.lt' c hk
   have h2:=h.hi i (Nat.le_refl _) hl
   omega
 ·intro e
  exact ⟨i,hl,e⟩
theorem BsP.no {xs:List Int} {n:Nat} {t:Int} (h:BsP xs n t n):¬ HasX xs n t:=by
 rintro ⟨k,hk,e⟩
 have:=h.lo k hk
 omega
theorem BsP.ex (xs:List Int) (t:Int):∀ n,UpS xs n → ∃ i,BsP xs n t i
 | 0,_ => ⟨0,Nat.le_refl _,fun k hk => absurd hk (Nat.not_lt_zero _),fun k _ hk => absurd hk (Nat.not_lt_zero _)⟩
 | n + 1,hu => by
  obtain ⟨i,h⟩:=BsP.ex xs t n (fun i h1 h2 => hu i h1 (by omega))
  by_cases hl:i < n
  ·refine ⟨i,by have:=h.le; omega,h.lo,fun k h1 h2 => ?_⟩
   by_cases e:k = n
   ·have h3:=hu.lt' (i:=i) (j:=n) hl (by omega)
    have h4:=h.hi i (Nat.le_refl _) hl
    rw [e]; omega
   ·exact h.hi k h1 (by omega)
  ·have e:i = n:=by have:=h.le; omega
   subst e
   by_cases c:xs.getD i 0 < t
   ·refine ⟨i + 1,by omega,fun k hk => ?_,fun k h1 h2 => by omega⟩
    by_cases e:k = i
    ·rw [e]; exact c
    ·exact h.lo k (by omega)
   ·refine ⟨i,by omega,h.lo,fun k h1 h2 => ?_⟩
    rw [show k = i by omega]; omega
theorem BsP.one {xs:List Int} {n:Nat} {t:Int} {i j:Nat} (h:BsP xs n t i) (k:BsP xs n t j):i = j:=by
 rcases Nat.lt_trichotomy i j with c | c | c
 ·have h1:=h.hi i (Nat.le_refl _) (by have:=k.le; omega)
  have h2:=k.lo i c
  omega
 ·exact c
 ·have h1:=k.hi j (Nat.le_refl _) (by have:=h.le; omega)
  have h2:=h.lo j c
  omega
theorem nan_intS (x:Int) (w:World):Calls Tryz.prog 110 #[.int .i64 x] w fun e w' => e = .returned (.bool false) ∧ w' = w:=by
 go_enter Tryz.func110,Tryz.ntmps110
 go_wp2_with fail
 go_ret
 exact ⟨by simp,rfl⟩
set_option maxRecDepth 20000 in
set_option maxHeartbeats 8000000 in
theorem bsearch_any (a:Option Addr) (n c:Nat) (xs:List Int) (t:Int) (w:World) (h:SlI w a n c xs) (hn:n ≤ 140737488355328) (hu:UpS xs n) (ok:Bool) (hok:ok = true ↔ HasX xs n t) :
  Calls Tryz.prog 70 #[.slice a n c,.int .i64 t] w fun e w' => ∃ i:Nat,BsP xs n t i ∧ e = .returned (.tuple #[.int .i64 (i:Int),.bool ok]) ∧ Dr w w':=by
 have HL:=Hj h.len
 have HS:=Hj h
 have HU:=Hj hu
 have HOK:=Hj hok
 clear h hu hok
 go_enter Tryz.func70,Tryz.ntmps70
 go_wp2_with fail
 go_loopw [7,8] (fun iv jv wr => ∃ i j:Nat,i ≤ j ∧ j ≤ n ∧ iv = .int .i64 (i:Int) ∧ jv = .int .i64 (j:Int) ∧ Hid (∀ k,k < i → xs.getD k 0 < t) ∧ Hid (∀ k,j ≤ k → k < n → t ≤ xs.getD k 0) ∧ Hid (Dr w wr)) (fun iv jv _ => ((intOf jv) - (intOf iv)).toNat)
 case atStart => exact ⟨0,n,Nat.zero_le _,Nat.le_refl _,rfl,rfl,Hj (fun k hk => by omega),Hj (fun k h1 h2 => by omega),Dr.refl _⟩
 case round =>
  obtain ⟨i,j,hij,hj,rfl,rfl,HA,HB,HW⟩:=hrel
  by_cases hlt:i < j
  ·have hlt':(i:Int) < (j:Int):=by omega
   obtain ⟨m,hm⟩:∃ m,(i + j) / 2 = m:=⟨_,rfl⟩
   have hm1:i ≤ m ∧ m < j:=by omega
   obtain ⟨b,off,rfl,hc⟩:=((Uh HS).below (Uh HW).below).at (by omega)
   have hx:=hc m (by omega)
   obtain ⟨x,hxx⟩:∃ x,xs.getD m 0 = x:=⟨_,rfl⟩
   rw [hxx] at hx
   have HX:=Hj hxx
   obtain ⟨q,hq⟩:∃ q,i + j = q:=⟨_,rfl⟩
   have hs3:(i:Int) + (j:Int) = (q:Int):=by omega
   have hs2:(q:Int) / 2 = (m:Int):=by omega
   have hq1:q ≤ 2 * n:=by omega
   clear hq hm
   have hm0:(m:Int) < (n:Int):=by omega
   have HM:=Hj hm1
   have KX:=Hj (fun (W:World) => less_int x t W)
   clear hc hxx
   by_cases hl:x < t
   ·have KX:=Hj (fun (W:World) => (show Calls Tryz.prog 108 #[.int .i64 x,.int .i64 t] W fun e w' => e = .returned (.bool true) ∧ w' = W from by have:=less_int x t W; rwa [decide_eq_true hl] at this))
    have HLL:=Hj hl
    clear hl hm1
    go_wp2_with fail
    refine (Uh KX _).mono ?_
    rintro _ _ ⟨rfl,hw⟩
    obtain rfl:=hw.symm
    clear hw
    go_wp2_with fail
    refine ⟨⟨m + 1,j,by have:=Uh HM; omega,hj,by go_num,rfl,Hj fun k hk => ?_,HB,HW⟩,by have:=Uh HM; simp [intOf]; omega⟩
    rcases Nat.lt_or_ge k m with c | c
    ·have:=(Uh HU).lt' c (by have:=Uh HM; omega)
     rw [Uh HX] at this
     exact Int.lt_trans this (Uh HLL)
    ·rw [show k = m by omega,Uh HX]; exact Uh HLL
   ·have KX:=Hj (fun (W:World) => (show Calls Tryz.prog 108 #[.int .i64 x,.int .i64 t] W fun e w' => e = .returned (.bool false) ∧ w' = W from by have:=less_int x t W; rwa [decide_eq_false hl] at this))
    have HLL:=Hj hl
    clear hl hm1
    go_wp2_with fail
    refine (Uh KX _).mono ?_
    rintro _ _ ⟨rfl,hw⟩
    obtain rfl:=hw.symm
    clear hw
    go_wp2_with fail
    refine ⟨⟨i,m,by have:=Uh HM; omega,by have:=Uh HM; omega,rfl,rfl,HA,Hj fun k hk hk2 => ?_,HW⟩,by have:=Uh HM; simp [intOf]; omega⟩
    rcases Nat.lt_or_ge m k with c | c
    ·have h1:=(Uh HU).lt' c hk2
     rw [Uh HX] at h1
     have:=Uh HLL
     omega
    ·rw [show k = m by omega,Uh HX]; have:=Uh HLL; omega
  ·have hij2:i = j:=by omega
   subst hij2
   have HP:=Hj (show BsP xs n t i from ⟨hj,Uh HA,Uh HB⟩)
   have hlt':¬ (i:Int) < (i:Int):=by omega
   have KN:=Hj (fun (x:Int) (W:World) => nan_intS x W)
   by_cases hin:i < n
   ·have hin':(i:Int) < (n:Int):=by omega
    obtain ⟨b,off,rfl,hc⟩:=((Uh HS).below (Uh HW).below).at (by omega)
    have hx:=hc i hin
    obtain ⟨x,hxx⟩:∃ x,xs.getD i 0 = x:=⟨_,rfl⟩
    rw [hxx] at hx
    have HX:=Hj (And.intro hxx hin)
    clear hc hxx
    by_cases he:x = t
    ·have he':(x == t) = true:=by simp [he]
     have HE:=Hj he
     clear he
     go_wp2_with fail
     refine bodyPost_ret (by simp [results,Tryz.results70,go_sem]; try rfl) rfl ?_
     exact ⟨i,Uh HP,by rw [(Uh HOK).2 (((Uh HP).has (Uh HU) (Uh HX).2).2 ((Uh HX).1.trans (Uh HE)))],Uh HW⟩
    ·have he':(x == t) = false:=by simp [he]
     have HE:=Hj he
     clear he
     go_wp2_with fail
     refine (Uh KN _ _).mono ?_
     rintro _ _ ⟨rfl,hw⟩
     obtain rfl:=hw.symm
     clear hw
     go_wp2_with fail
     refine bodyPost_ret (by simp [results,Tryz.results70,go_sem]; try rfl) rfl ?_
     refine ⟨i,Uh HP,?_,Uh HW⟩
     cases hk:ok
     ·rfl
     ·exact absurd ((Uh HX).1.symm.trans (((Uh HP).has (Uh HU) (Uh HX).2).1 ((Uh HOK).1 hk))) (Uh HE)
   ·have hin':¬ (i:Int) < (n:Int):=by omega
    have HI:=Hj (show i = n by omega)
    clear hin
    go_wp2_with fail
    refine bodyPost_ret (by simp [results,Tryz.results70,go_sem]; try rfl) rfl ?_
    refine ⟨i,Uh HP,?_,Uh HW⟩
    cases hk:ok
    ·rfl
    ·exact absurd ((Uh HOK).1 hk) (by have:=Uh HP; rw [Uh HI] at this; exact this.no)
def QB (i:Nat) (ok:Bool) (w w':World) (e:Ending):Prop:=e = .returned (.tuple #[.int .i64 (i:Int),.bool ok]) ∧ Dr w w'
theorem bsearch_known (a:Option Addr) (n c:Nat) (xs:List Int) (t:Int) (w:World) (h:SlI w a n c xs) (hn:n ≤ 140737488355328) (hu:UpS xs n) (ok:Bool) (hok:ok = true ↔ HasX xs n t) (i:Nat) (hi:BsP xs n t i) :
  Calls Tryz.prog 70 #[.slice a n c,.int .i64 t] w fun e w' => QB i ok w w' e:=by
 refine (bsearch_any a n c xs t w h hn hu ok hok).mono ?_
 rintro e w' ⟨j,hj,rfl,hd⟩
 rw [hj.one hi]
 exact ⟨rfl,hd⟩
def valsI (xs:List Int):List Value:=xs.map (fun x => Value.int .i64 x)
theorem Tryz.info_i64:(Tryz.prog.info? 3).map (fun i => (i.zero,i.size,i.bytes)) = some (some (.int .i64 0),1,8):=by kernel_rfl
theorem make_n3I (n:Nat) (hn:n ≤ 17592186044400) (w:World):(Instr.makeSlice 23 (.int .i64 (n:Int)) (.int .i64 ((n:Int) + 3))).run Tryz.prog w = .ok (.slice (some ⟨w.heap.size,0,none⟩) n (n + 3)) (w.alloc (.cells (madeCells #[.int .i64 0] (n + 3)) 3)):=by
 obtain ⟨i,hi,hzz⟩:=Option.map_eq_some_iff.1 Tryz.info_i64
 simp only [Prod.mk.injEq] at hzz
 obtain ⟨hz,hs,hb⟩:=hzz
 have hr:=run_make (P:=Tryz.prog) w 23 3 i (.int .i64 0) Tryz.underlying23 hi hz .i64 .i64 n ((n:Int) + 3) (by omega) (by omega) (by rw [hb]; omega) (by omega)
 rw [hs,Nat.mul_one,show ((n:Int) + 3).toNat = n + 3 from by omega,show ((n:Int)).toNat = n from by omega] at hr
 exact hr

theorem copy_stepI {wr w:World} {n k:Nat} {cur:Array Value} {xs:List Int} (hblk:wr.heap[w.heap.size]? = some (.cells cur 3)) (hsz:cur.size = n + 3) (hk:k < n)
  (hpre:∀ i,i < k → cur[i]? = some (.int .i64 (xs.getD i 0))) :
  ∃ cur',(wr.setCell ⟨w.heap.size,k,none⟩ (.int .i64 (xs.getD k 0))).heap[w.heap.size]? = some (.cells cur' 3) ∧ cur'.size = n + 3 ∧ ∀ i,i < k + 1 → cur'[i]? = some (.int .i64 (xs.getD i 0)):=by
 refine ⟨_,set_block hblk k _,by simp [hsz],?_⟩
 intro i hi
 by_cases e:i = k
 ·subst e; simp [show i < cur.size from by omega]
 ·rw [Array.getElem?_setIfInBounds_ne (by omega)]; exact hpre i (by omega)

set_option maxHeartbeats 800000 in
theorem copy_someI (b off n c:Nat) (xs:List Int) (w:World) (hn:xs.length = n) (hcm:n ≤ 17592186044400) (hc:CellsI w b off xs) :
  Calls Tryz.prog 24 #[.slice (some ⟨b,off,none⟩) n c] w fun e w' => ∃ cur,e = .returned (.slice (some ⟨w.heap.size,0,none⟩) n (n + 3)) ∧ w'.heap[w.heap.size]? = some (.cells cur 3) ∧ cur.size = n + 3 ∧ (∀ i,i < n → cur[i]? = some (.int .i64 (xs.getD i 0))) ∧ w'.heap.size = w.heap.size + 1 ∧ Below w.heap.size w w':=by
 have hmk:=make_n3I n hcm
 go_enter Tryz.func24,Tryz.ntmps24
 go_wp2
 go_loopw [4] (fun i wr => ∃ k:Nat,k ≤ n ∧ i = .int .i64 k ∧ (∃ cur,wr.heap[w.heap.size]? = some (.cells cur 3) ∧ cur.size = n + 3 ∧ ∀ i,i < k → cur[i]? = some (.int .i64 (xs.getD i 0))) ∧ wr.heap.size = w.heap.size + 1 ∧ Below w.heap.size w wr) (fun i _ => n - (intOf i).toNat)
 case atStart => exact ⟨0,Nat.zero_le _,rfl,⟨_,alloc_block _ _,size_madeCells _ _,fun i hi => absurd hi (Nat.not_lt_zero _)⟩,by simp,bAl⟩
 case round =>
  obtain ⟨k,hk,rfl,⟨cur,hblk,hsz,hpre⟩,hhs,hbel⟩:=hrel
  by_cases hlt:k < n
  ·have hlt':(k:Int) < (n:Int):=by omega
   have g1:wr.cell? ⟨w.heap.size,k,none⟩ = some cur[k]!:=by rw [cell_of_block hblk]; simp [show k < cur.size from by omega]
   have g2:=frozen_of_block hblk k
   have g3:=hc k (by omega)
   have g4:wr.cell? ⟨b,off + k,none⟩ = _:=(hbel.cell (World.block_lt_of_cell? _ _ g3)).trans g3
   have HS:=Hj (copy_stepI hblk hsz hlt hpre)
   have HB:=Hj (hbel.setCell (p:=⟨w.heap.size,k,none⟩) (Nat.le_refl _) (.int .i64 (xs.getD k 0)))
   have HH:=Hj hhs
   generalize xs.getD k 0 = x at g3 g4 HS HB
   clear hblk hsz hpre hbel g3 hhs
   go_wp2
   refine ⟨⟨k + 1,by omega,by go_num,by simpa using Uh HS,by simpa using Uh HH,Uh HB⟩,by simp [intOf]; omega⟩
  ·have HS:=Hj hpre
   have HB:=Hj hblk
   have HZ:=Hj hsz
   have HH:=Hj hhs
   clear hpre hblk hsz hhs
   go_wp2
   go_ret
   exact ⟨cur,rfl,Uh HB,Uh HZ,fun i hi => Uh HS i (by omega),Uh HH,hbel⟩

set_option maxHeartbeats 800000 in
theorem copy_nilI (a:Option Addr) (c:Nat) (w:World) :
  Calls Tryz.prog 24 #[.slice a 0 c] w fun e w' => ∃ cur,e = .returned (.slice (some ⟨w.heap.size,0,none⟩) 0 3) ∧ w'.heap[w.heap.size]? = some (.cells cur 3) ∧ cur.size = 3 ∧ w'.heap.size = w.heap.size + 1 ∧ Below w.heap.size w w':=by
 have hmk:∀ w,(Instr.makeSlice 23 (.int .i64 0) (.int .i64 3)).run Tryz.prog w = .ok (.slice (some ⟨w.heap.size,0,none⟩) 0 3) (w.alloc (.cells (madeCells #[.int .i64 0] 3) 3)):=fun w => make_n3I 0 (by omega) w
 go_enter Tryz.func24,Tryz.ntmps24
 go_wp2
 go_loopw [4] (fun i wr => i = .int .i64 0 ∧ (∃ cur,wr.heap[w.heap.size]? = some (.cells cur 3) ∧ cur.size = 3) ∧ wr.heap.size = w.heap.size + 1 ∧ Below w.heap.size w wr) (fun i _ => (intOf i).toNat)
 case atStart => exact ⟨rfl,⟨_,alloc_block _ _,size_madeCells _ _⟩,by simp,bAl⟩
 case round =>
  obtain ⟨rfl,⟨cur,hblk,hsz⟩,hhs,hbel⟩:=hrel
  have HB:=Hj hblk
  have HZ:=Hj hsz
  have HH:=Hj hhs
  clear hblk hsz hhs
  go_wp2
  go_ret
  exact ⟨cur,rfl,Uh HB,Uh HZ,Uh HH,hbel⟩

theorem copy_anyI (a:Option Addr) (n c:Nat) (xs:List Int) (w:World) (h:SlI w a n c xs) (hb:n ≤ 17592186044400) :
  Calls Tryz.prog 24 #[.slice a n c] w fun e w' => ∃ cur,e = .returned (.slice (some ⟨w.heap.size,0,none⟩) n (n + 3)) ∧ w'.heap[w.heap.size]? = some (.cells cur 3) ∧ cur.size = n + 3 ∧ (∀ i,i < n → cur[i]? = some (.int .i64 (xs.getD i 0))) ∧ w'.heap.size = w.heap.size + 1 ∧ Below w.heap.size w w':=by
 have hl:=h.len
 rcases h.cells with h0 | ⟨b,off,rfl,hc⟩
 ·subst h0
  simp at hl
  subst hl
  refine (copy_nilI a c w).mono ?_
  rintro e w' ⟨cur,rfl,h1,h2,h3,h4⟩
  exact ⟨cur,rfl,h1,h2,fun i hi => absurd hi (Nat.not_lt_zero _),h3,h4⟩
 ·exact copy_someI b off n c xs w hl hb hc
theorem CellsI.chg {S:Nat → Prop} {w w':World} {b off:Nat} {xs:List Int} (h:CellsI w b off xs) (k:Chg S w w') (hs:¬ S b):CellsI w' b off xs :=
 fun i hi => k.cell hs (h i hi)

theorem SlI.chg {S:Nat → Prop} {w w':World} {a:Option Addr} {n c:Nat} {xs:List Int} (h:SlI w a n c xs) (k:Chg S w w') (hs:∀ x,a = some x → xs ≠ [] → ¬ S x.block):SlI w' a n c xs :=
 ⟨h.len,h.le,h.cap,h.cells.elim .inl (fun ⟨b,off,e,kk⟩ => by
  by_cases hx:xs = []
  ·exact .inl hx
  ·exact .inr ⟨b,off,e,kk.chg k (hs _ e hx)⟩)⟩

theorem SlI.block_lt {w:World} {a:Option Addr} {n c:Nat} {xs:List Int} (h:SlI w a n c xs) (hx:xs ≠ []):∀ x,a = some x → x.block < w.heap.size:=by
 intro x hx'
 rcases h.cells with e | ⟨b,off,e,kk⟩
 ·exact absurd e hx
 ·rw [e] at hx'
  cases hx'
  have:=kk 0 (by cases xs with | nil => exact absurd rfl hx | cons => simp)
  exact World.block_lt_of_cell? _ _ this

structure EntI where
 b:Nat
 c:Nat
 b0:Nat
 c0:Nat
 xs:List Int

def marksI:List Int:=[-41,-42,-43]
def EntI.v (e:EntI):Value:=.slice (some ⟨e.b,0,none⟩) (e.xs.length + 3) e.c
def EntI.v0 (e:EntI):Value:=.slice (some ⟨e.b0,0,none⟩) (e.xs.length + 3) e.c0

structure EntOkI (w:World) (B:Nat) (v0 v1:Value) (e:EntI):Prop where
 sl:SlI w (some ⟨e.b,0,none⟩) (e.xs.length + 3) e.c (e.xs ++ marksI)
 sl0:SlI w (some ⟨e.b0,0,none⟩) (e.xs.length + 3) e.c0 (e.xs ++ marksI)
 s:¬ Own B v0 v1 e.b
 s0:¬ Own B v0 v1 e.b0

structure GivI (w:World) (B:Nat) (v0 v1:Value) (es:List EntI) (rs:Nat → Value):Prop where
 blk:∃ cur,w.heap[B]? = some (.cells cur 65) ∧ cur.size = 20 ∧ cur[4]? = some v0 ∧ cur[5]? = some v1 ∧ ∀ i,i ≠ 4 ∧ i ≠ 5 → i < 20 → cur[i]? = some (rs i)
 own0:w.ownsRow (B + 1) 23 1 v0 es.length (es.map EntI.v)
 own1:w.ownsRow (B + 1) 23 1 v1 es.length (es.map EntI.v0)
 apart:∀ k,v0.ownBlock = some k → v1.ownBlock ≠ some k
 ents:∀ e ∈ es,EntOkI w B v0 v1 e

theorem GivI.chg {S:Nat → Prop} {w w':World} {B:Nat} {v0 v1:Value} {es:List EntI} {rs:Nat → Value} (h:GivI w B v0 v1 es rs) (k:Chg S w w') (hB:¬ S B) (h0:∀ k,v0.ownBlock = some k → ¬ S k) (h1:∀ k,v1.ownBlock = some k → ¬ S k)
  (hes:∀ e ∈ es,¬ S e.b ∧ ¬ S e.b0):GivI w' B v0 v1 es rs:=by
 obtain ⟨cur,hc,hr⟩:=h.blk
 have hlt:B < w.heap.size:=by
  rcases Nat.lt_or_ge B w.heap.size with hlt | hge
  ·exact hlt
  ·rw [Array.getElem?_eq_none hge] at hc; cases hc
 refine ⟨⟨cur,by rw [k.block B hlt hB]; exact hc,hr⟩,ownsRow_chg h.own0 k h0,ownsRow_chg h.own1 k h1,h.apart,fun e he => ?_⟩
 have:=h.ents e he
 exact ⟨this.sl.chg k (fun x hx _ => by cases hx; exact (hes e he).1),this.sl0.chg k (fun x hx _ => by cases hx; exact (hes e he).2),this.s,this.s0⟩

theorem GivI.below {w w':World} {B:Nat} {v0 v1:Value} {es:List EntI} {rs:Nat → Value} (h:GivI w B v0 v1 es rs) (k:Below w.heap.size w w'):GivI w' B v0 v1 es rs :=
 h.chg (S:=fun _ => False) (.of_below k) id (fun _ _ => id) (fun _ _ => id) (fun _ _ => ⟨id,id⟩)

theorem GivI.cell0 {w:World} {B:Nat} {v0 v1:Value} {es:List EntI} {rs:Nat → Value} (h:GivI w B v0 v1 es rs):w.cell? ⟨B,4,none⟩ = some v0 ∧ w.cell? ⟨B,5,none⟩ = some v1 ∧ w.frozen? ⟨B,4,none⟩ = false ∧ w.frozen? ⟨B,5,none⟩ = false ∧ B < w.heap.size:=by
 obtain ⟨cur,hc,hr⟩:=h.blk
 have e0:w.cell? ⟨B,4,none⟩ = some v0:=by rw [cell_of_block hc]; exact hr.2.1
 exact ⟨e0,by rw [cell_of_block hc]; exact hr.2.2.1,frozen_of_block hc _,frozen_of_block hc _,World.block_lt_of_cell? _ _ e0⟩
theorem Dr.cell {w w':World} (h:Dr w w') {a:Addr} {v:Value} (k:w.cell? a = some v):w'.cell? a = some v:=by obtain ⟨m,rfl⟩:=h; exact k
theorem SlI.sub {w:World} {a:Option Addr} {n c X Y:Nat} {xs:List Int} (h:SlI w a n c xs) (hXY:X ≤ Y) (hY:Y ≤ n):SlI w (if c = X then a else Option.map (fun x => x.add X) a) (Y - X) (c - X) ((xs.drop X).take (Y - X)):=by
 have hl:=h.len
 have hle:=h.le
 have hcap:=h.cap
 have hln:((xs.drop X).take (Y - X)).length = Y - X:=by simp; omega
 refine ⟨hln,by omega,by omega,?_⟩
 by_cases h0:Y - X = 0
 ·left
  exact List.length_eq_zero_iff.1 (by omega)
 ·right
  obtain ⟨b,off,rfl,hc⟩:=h.at (by omega)
  refine ⟨b,off + X,?_,fun i hi => ?_⟩
  ·rw [if_neg (by omega)]
   show some (Addr.add ⟨b,off,none⟩ X) = _
   congr 1
   unfold Addr.add
   split <;> simp_all
  ·rw [hln] at hi
   have:=hc (X + i) (by omega)
   rw [Nat.add_assoc,this]
   simp [List.getD,List.getElem?_drop,show i < Y - X from hi]
theorem RowP.sub {width:Int} {cols:List Int} {X Y:Nat} (hXY:X ≤ Y):RowP width ((cols.drop X).take (Y - X)) 0 (Y - X) ↔ RowP width cols X Y:=by
 have e:∀ i,i < Y - X → ((cols.drop X).take (Y - X)).getD i 0 = cols.getD (X + i) 0:=fun i hi => by simp [List.getD,List.getElem?_drop,hi]
 constructor
 ·intro z
  refine ⟨fun i h1 h2 => ?_,fun i h1 h2 => ?_⟩
  ·have:=z.rng (i - X) (Nat.zero_le _) (by omega)
   rw [e _ (by omega),show X + (i - X) = i by omega] at this
   exact this
  ·have:=z.up (i - X) (by omega) (by omega)
   rw [e _ (by omega),e _ (by omega),show X + (i - X) = i by omega,show X + (i - X - 1) = i - 1 by omega] at this
   exact this
 ·intro z
  refine ⟨fun i h1 h2 => ?_,fun i h1 h2 => ?_⟩
  ·rw [e _ h2]
   exact z.rng (X + i) (by omega) (by omega)
  ·rw [e _ h2,e _ (by omega)]
   have:=z.up (X + i) (by omega) (by omega)
   rw [show X + i - 1 = X + (i - 1) by omega] at this
   exact this
def patV (rows width:Int) (a1:Option Addr) (n1 c1:Nat) (a2:Option Addr) (n2 c2:Nat):Value:=.agg #[.int .i64 rows,.int .i64 width,.slice a1 n1 c1,.slice a2 n2 c2]
set_option maxRecDepth 100000 in
set_option maxHeartbeats 16000000 in
theorem smay_any (rows width:Int) (a1 a2:Option Addr) (n1 c1 n2 c2:Nat) (st cols:List Int) (w:World) (h1:SlI w a1 n1 c1 st) (h2:SlI w a2 n2 c2 cols) (hb1:n1 ≤ 17592186044416) (hb2:n2 ≤ 17592186044416) :
  Calls Tryz.prog 38 #[patV rows width a1 n1 c1 a2 n2 c2] w fun e w' => BIs (MayP rows width st cols) w w' e:=by
 obtain ⟨wb,hwb⟩:∃ x,w.alloc (.cells #[.int .i64 rows,.int .i64 width,.slice a1 n1 c1,.slice a2 n2 c2] 25) = x:=⟨_,rfl⟩
 have bb:Below w.heap.size w wb:=by rw [← hwb]; exact bAl
 have hB:∀ q u,[Value.int .i64 rows,.int .i64 width,.slice a1 n1 c1,.slice a2 n2 c2][q]? = some u → wb.cell? ⟨w.heap.size,q,none⟩ = some u:=by
  intro q u hq
  rw [← hwb]
  have hq':#[Value.int .i64 rows,.int .i64 width,.slice a1 n1 c1,.slice a2 n2 c2][q]? = some u:=by simpa using hq
  simp [hq']
 have p0:=hB 0 _ rfl
 have p1:=hB 1 _ rfl
 have p2:=hB 2 _ rfl
 have p3:=hB 3 _ rfl
 have HF:=Hj (fits_any rows width wb)
 have HS:=Hj (And.intro (h1.below bb) (And.intro (h2.below bb) bb))
 clear hB bb h1 h2
 unfold patV
 go_enter Tryz.func38,Tryz.ntmps38
 go_wp2_with fail
 refine (Uh HF).mono ?_
 rintro _ _ ⟨⟨b,rfl,hb⟩,hw⟩
 obtain rfl:=hw.symm
 clear hw HF
 cases b
 ·have HN:=Hj (show ¬ MayP rows width st cols from fun z => absurd (hb.2 z.head.fit) (by decide))
  clear hb
  go_wp2_with fail
  go_ret
  exact BIs.no (Uh HN) (Uh HS).2.2
 ·have hfit:=hb.1 rfl
  clear hb
  obtain ⟨R,rfl⟩:∃ R:Nat,rows = (R:Int):=⟨rows.toNat,by omega⟩
  have hR:R ≤ 128:=by omega
  by_cases hlen:n1 = R + 1
  ·subst hlen
   have tl:(((R + 1:Nat):Int) != (R:Int) + 1) = false:=by simp
   have HFI:=Hj hfit
   obtain ⟨b1,o1,rfl,hc1⟩:=(Uh HS).1.at (by omega)
   have s0:=hc1 0 (by omega)
   have sR:=hc1 R (by omega)
   rw [Nat.add_zero] at s0
   have HC1:=Hj hc1
   obtain ⟨x0,hx0⟩:∃ x,st.getD 0 0 = x:=⟨_,rfl⟩
   obtain ⟨xR,hxR⟩:∃ x,st.getD R 0 = x:=⟨_,rfl⟩
   rw [hx0] at s0
   rw [hxR] at sR
   have HX:=Hj (And.intro hx0 hxR)
   obtain ⟨okS,hokS⟩:=truth (SortP st 0)
   have KS:=Hj (fun (W:World) (k:Dr wb W) => isSorted_any _ _ c1 st W ((Uh HS).1.below k.below) (by omega) okS hokS)
   have HOS:=Hj hokS
   clear hc1 hfit hx0 hxR hokS
   by_cases hz:x0 = 0
   ·have t0:((x0:Int) != 0) = false:=by simp; omega
    by_cases hr:xR = (n2:Int)
    ·have t1:((xR:Int) != (n2:Int)) = false:=by simp; omega
     have HZR:=Hj (And.intro hz hr)
     clear hz hr
     cases okS
     ·go_wp2_with fail
      go_quiet ((go_at_call 68; exact Calls.quiet_of (Uh KS _ ⟨_,rfl⟩)))
      go_wp2_with fail
      go_ret
      exact BIs.no (fun z => absurd ((Uh HOS).2 z.sort) (by decide)) (bel_drewN (Uh HS).2.2 _)
     ·have HSO:=Hj ((Uh HOS).1 rfl)
      have HHD:=Hj (show HeadP (R:Int) width st cols from ⟨Uh HFI,by have:=(Uh HS).1.len; omega,by rw [(Uh HX).1]; exact (Uh HZR).1,by rw [show ((R:Int)).toNat = R by omega,(Uh HX).2,(Uh HZR).2,(Uh HS).2.1.len]⟩)
      go_wp2_with fail
      go_quiet ((go_at_call 68; exact Calls.quiet_of (Uh KS _ ⟨_,rfl⟩)))
      go_wp2_with fail
      go_loopw [44,3] (fun kv _ wr => ∃ k:Nat,k ≤ R ∧ kv = .int .i64 (k:Nat) ∧ Hid (∀ r,r < k → RowP width cols (st.getD r 0).toNat (st.getD (r + 1) 0).toNat) ∧ Hid (Dr wb wr)) (fun kv _ _ => R - (intOf kv).toNat)
      case atStart => exact ⟨0,Nat.zero_le _,rfl,fun r hr => absurd hr (Nat.not_lt_zero _),⟨_,rfl⟩⟩
      case round =>
       obtain ⟨k,hk,rfl,HK,HW⟩:=hrel
       have hhd:=Uh HHD
       have hso:=Uh HSO
       by_cases hlt:k < R
       ·have hlt':(k:Int) < (R:Int):=by omega
        have hln:=(Uh HS).1.len
        have g1:=hhd.rng hso (i:=k) (by omega)
        have g2:=hhd.rng hso (i:=k + 1) (by omega)
        have g3:=hso k (Nat.zero_le _) (by omega)
        obtain ⟨X,hX⟩:∃ X:Nat,st.getD k 0 = (X:Int):=⟨(st.getD k 0).toNat,by omega⟩
        obtain ⟨Y,hY⟩:∃ Y:Nat,st.getD (k + 1) 0 = (Y:Int):=⟨(st.getD (k + 1) 0).toNat,by omega⟩
        have hcl:=(Uh HS).2.1.len
        rw [hX] at g1 g3
        rw [hY] at g2 g3
        have hXY:X ≤ Y:=by omega
        have hYn:Y ≤ n2:=by omega
        have hnc:=(Uh HS).2.1.le
        have dwr:=Uh HW
        have q0:=dwr.cell p0
        have q1:=dwr.cell p1
        have q2:=dwr.cell p2
        have q3:=dwr.cell p3
        have sk:=dwr.cell (Uh HC1 k (by omega))
        have sk1:=dwr.cell (Uh HC1 (k + 1) (by omega))
        rw [hX] at sk
        rw [hY] at sk1
        have tXY:(X:Int) ≤ (Y:Int):=by omega
        have tYc:(Y:Int) ≤ (c2:Int):=by omega
        have tk1:(k:Int) + 1 < (R:Int) + 1:=by omega
        have HXY:=Hj (And.intro hX hY)
        clear g1 g2 g3 hX hY hln hcl dwr hhd hso p0 p1 p2 p3
        obtain ⟨okR,hokR⟩:=truth (RowP width cols X Y)
        have HOR:=Hj hokR
        have KR:=Hj (fun (W:World) (d:Dr wr W) => isRow_any _ _ _ _ width W (((Uh HS).2.1.below (((Uh HW).trans d).below)).sub hXY hYn) (by omega) okR (hokR.trans (RowP.sub hXY).symm))
        clear hokR
        cases okR
        ·have HNO:=Hj (show ¬ MayP (R:Int) width st cols from fun z => by
          have:=z.row k (by rw [(Uh HS).1.len]; omega)
          rw [(Uh HXY).1,(Uh HXY).2] at this
          exact absurd ((Uh HOR).2 this) (by decide))
         go_wp2_with fail
         go_quiet ((go_at_call 69; exact Calls.quiet_of (Uh KR _ ⟨_,rfl⟩)))
         all_goals go_wp2_with fail
         all_goals go_ret
         all_goals exact BIs.no (Uh HNO) ((Uh HS).2.2.trans ((((Uh HW).n _).below).mono (Uh HS).2.2.size))
        ·have HRW:=Hj (show ∀ r,r < k + 1 → RowP width cols (st.getD r 0).toNat (st.getD (r + 1) 0).toNat from fun r hr => by
          by_cases e:r = k
          ·subst e
           rw [(Uh HXY).1,(Uh HXY).2]
           exact (Uh HOR).1 rfl
          ·exact Uh HK r (by omega))
         go_wp2_with fail
         go_quiet ((go_at_call 69; exact Calls.quiet_of (Uh KR _ ⟨_,rfl⟩)))
         all_goals go_wp2_with fail
         all_goals exact ⟨⟨k + 1,by omega,by (first | rfl | go_num),HRW,Hj ((Uh HW).n _)⟩,by simp [intOf]; omega⟩
       ·have hkR:k = R:=by omega
        subst hkR
        have hlt':¬ (k:Int) < (k:Int):=by omega
        clear hhd hso
        go_wp2_with fail
        go_ret
        refine BIs.yes ⟨Uh HHD,Uh HSO,fun r hr => Uh HK r (by rw [(Uh HS).1.len] at hr; omega)⟩ ((Uh HS).2.2.trans (((Uh HW).below).mono (Uh HS).2.2.size))
    ·have t1:((xR:Int) != (n2:Int)) = true:=by simp; omega
     have HN:=Hj (show ¬ MayP (R:Int) width st cols from fun z => by have h8:=z.head.last; have h9:=(Uh HX).2; have h7:=(Uh HS).2.1.len; rw [show ((R:Int)).toNat = R by omega,h9,h7] at h8; exact hr h8)
     clear hr hz
     go_wp2_with fail
     go_quiet (fail)
     go_wp2_with fail
     go_ret
     exact BIs.no (Uh HN) (bel_drewN (Uh HS).2.2 _)
   ·have t0:((x0:Int) != 0) = true:=by simp; omega
    have HN:=Hj (show ¬ MayP (R:Int) width st cols from fun z => by have h8:=z.head.first; have h9:=(Uh HX).1; rw [h9] at h8; exact hz h8)
    clear hz
    go_wp2_with fail
    go_quiet (fail)
    go_wp2_with fail
    go_ret
    exact BIs.no (Uh HN) (bel_drewN (Uh HS).2.2 _)
  ·have tl:((n1:Int) != (R:Int) + 1) = true:=by simp; omega
   have HN:=Hj (show ¬ MayP (R:Int) width st cols from fun z => by have h8:=z.head.len; have h9:=(Uh HS).1.len; exact hlen (by omega))
   clear hlen hfit
   go_wp2_with fail
   go_ret
   exact BIs.no (Uh HN) (Uh HS).2.2
structure RowAt (st cols:List Int) (width:Int) (k X Y:Nat):Prop where
 hX:st.getD k 0 = (X:Int)
 hY:st.getD (k + 1) 0 = (Y:Int)
 le:X ≤ Y
 lt:Y ≤ cols.length
 row:RowP width cols X Y
theorem MayP.rowAt {rows width:Int} {st cols:List Int} (h:MayP rows width st cols) {k:Nat} (hk:(k:Int) < rows):∃ X Y,RowAt st cols width k X Y:=by
 have hl:=h.head.len
 have g1:=h.head.rng h.sort (i:=k) (by omega)
 have g2:=h.head.rng h.sort (i:=k + 1) (by omega)
 have g3:=h.sort k (Nat.zero_le _) (by omega)
 have g4:=h.row k (by omega)
 exact ⟨(st.getD k 0).toNat,(st.getD (k + 1) 0).toNat,by omega,by omega,by omega,by omega,g4⟩
theorem RowAt.up {st cols:List Int} {width:Int} {k X Y:Nat} (h:RowAt st cols width k X Y):UpS ((cols.drop X).take (Y - X)) (Y - X):=fun i h1 h2 => ((RowP.sub h.le).2 h.row).up i h1 h2
structure HasP (rows width:Int) (st cols:List Int) (r c:Int):Prop where
 may:MayP rows width st cols
 lo:0 ≤ r
 hi:r < rows
 at_:∃ i,(st.getD r.toNat 0).toNat ≤ i ∧ i < (st.getD (r.toNat + 1) 0).toNat ∧ cols.getD i 0 = c
theorem RowAt.has {st cols:List Int} {width:Int} {k X Y:Nat} (h:RowAt st cols width k X Y) {rows:Int} (hm:MayP rows width st cols) (hk:(k:Int) < rows) (c:Int):HasX ((cols.drop X).take (Y - X)) (Y - X) c ↔ HasP rows width st cols (k:Int) c:=by
 have e:∀ i,i < Y - X → ((cols.drop X).take (Y - X)).getD i 0 = cols.getD (X + i) 0:=fun i hi => by simp [List.getD,List.getElem?_drop,hi]
 have e1:(st.getD ((k:Int)).toNat 0).toNat = X:=by rw [show ((k:Int)).toNat = k by omega,h.hX]; omega
 have e2:(st.getD (((k:Int)).toNat + 1) 0).toNat = Y:=by rw [show ((k:Int)).toNat = k by omega,h.hY]; omega
 constructor
 ·rintro ⟨i,hi,hc⟩
  rw [e i hi] at hc
  exact ⟨hm,by omega,hk,X + i,by rw [e1]; omega,by rw [e2]; omega,hc⟩
 ·rintro ⟨_,_,_,i,h1,h2,hc⟩
  rw [e1] at h1
  rw [e2] at h2
  exact ⟨i - X,by omega,by rw [e _ (by omega),show X + (i - X) = i by omega]; exact hc⟩
set_option maxRecDepth 100000 in
set_option maxHeartbeats 16000000 in
theorem find_out (rows width:Int) (a1 a2:Option Addr) (n1 c1 n2 c2:Nat) (r t:Int) (w:World) (ho:r < 0 ∨ rows ≤ r) :
  Calls Tryz.prog 39 #[patV rows width a1 n1 c1 a2 n2 c2,.int .i64 r,.int .i64 t] w fun e w' => e = .returned (.tuple #[.int .i64 0,.bool false]) ∧ Below w.heap.size w w':=by
 obtain ⟨wb,hwb⟩:∃ x,w.alloc (.cells #[.int .i64 rows,.int .i64 width,.slice a1 n1 c1,.slice a2 n2 c2] 25) = x:=⟨_,rfl⟩
 have bb:Below w.heap.size w wb:=by rw [← hwb]; exact bAl
 have p0:wb.cell? ⟨w.heap.size,0,none⟩ = some (.int .i64 rows):=by rw [← hwb]; simp
 have HB:=Hj bb
 clear bb
 unfold patV
 by_cases h0:r < 0
 ·clear ho
  go_enter Tryz.func39,Tryz.ntmps39
  go_wp2_with fail
  refine bodyPost_ret (by simp [results,Tryz.results39,go_sem]; try rfl) rfl ?_
  exact ⟨rfl,Uh HB⟩
 ·have h1:rows ≤ r:=by omega
  clear ho
  go_enter Tryz.func39,Tryz.ntmps39
  go_wp2_with fail
  refine bodyPost_ret (by simp [results,Tryz.results39,go_sem]; try rfl) rfl ?_
  exact ⟨rfl,Uh HB⟩
set_option maxRecDepth 100000 in
set_option maxHeartbeats 16000000 in
theorem find_in (rows width:Int) (a1 a2:Option Addr) (n1 c1 n2 c2:Nat) (st cols:List Int) (k X Y:Nat) (t:Int) (w:World) (h1:SlI w a1 n1 c1 st) (h2:SlI w a2 n2 c2 cols) (hb1:n1 ≤ 17592186044416) (hb2:n2 ≤ 17592186044416) (hl1:(n1:Int) = rows + 1) (hk:(k:Int) < rows) (hR:RowAt st cols width k X Y) (ok:Bool) (hok:ok = true ↔ HasX ((cols.drop X).take (Y - X)) (Y - X) t) (i:Nat) (hi:BsP ((cols.drop X).take (Y - X)) (Y - X) t i) :
  Calls Tryz.prog 39 #[patV rows width a1 n1 c1 a2 n2 c2,.int .i64 (k:Int),.int .i64 t] w fun e w' => e = .returned (.tuple #[.int .i64 ((X + i:Nat):Int),.bool ok]) ∧ Below w.heap.size w w':=by
 obtain ⟨wb,hwb⟩:∃ x,w.alloc (.cells #[.int .i64 rows,.int .i64 width,.slice a1 n1 c1,.slice a2 n2 c2] 25) = x:=⟨_,rfl⟩
 have bb:Below w.heap.size w wb:=by rw [← hwb]; exact bAl
 have hB:∀ q u,[Value.int .i64 rows,.int .i64 width,.slice a1 n1 c1,.slice a2 n2 c2][q]? = some u → wb.cell? ⟨w.heap.size,q,none⟩ = some u:=by
  intro q u hq
  rw [← hwb]
  have hq':#[Value.int .i64 rows,.int .i64 width,.slice a1 n1 c1,.slice a2 n2 c2][q]? = some u:=by simpa using hq
  simp [hq']
 have p0:=hB 0 _ rfl
 have p1:=hB 1 _ rfl
 have p2:=hB 2 _ rfl
 have p3:=hB 3 _ rfl
 obtain ⟨b1,o1,rfl,hc1⟩:=(h1.below bb).at (by omega)
 have sk:=hc1 k (by omega)
 have sk1:=hc1 (k + 1) (by omega)
 rw [hR.hX] at sk
 rw [hR.hY] at sk1
 have hcl:=h2.len
 have hnc:=h2.le
 have tXY:(X:Int) ≤ (Y:Int):=by have:=hR.le; omega
 have tYc:(Y:Int) ≤ (c2:Int):=by have:=hR.lt; omega
 have tk0:¬ (k:Int) < 0:=by omega
 have tkr:¬ rows ≤ (k:Int):=by omega
 have tk1:(k:Int) < (n1:Int):=by omega
 have tk2:(k:Int) + 1 < (n1:Int):=by omega
 obtain ⟨z,hz⟩:∃ z,X + i = z:=⟨_,rfl⟩
 have hz2:(X:Int) + (i:Int) = (z:Int):=by omega
 have hzl:z ≤ n2:=by have:=hi.le; have:=hR.lt; have:=hR.le; omega
 have KB:=Hj (fun (W:World) (d:Dr wb W) => bsearch_known _ _ _ _ t W (((h2.below bb).below d.below).sub hR.le (by have:=hR.lt; omega)) (by have:=hR.lt; omega) hR.up ok hok i hi)
 have HB:=Hj bb
 have HL:=Hj hl1
 rw [hz]
 clear bb hB h1 h2 hR hok hi hc1 hz hcl hl1 hk
 unfold patV
 go_enter Tryz.func39,Tryz.ntmps39
 go_wp2_with fail
 go_quiet ((go_at_call 70; exact Calls.quiet_of (Uh KB _ ⟨_,rfl⟩)))
 all_goals go_wp2_with fail
 all_goals refine bodyPost_ret (by simp [results,Tryz.results39,go_sem]; try rfl) rfl ?_
 all_goals exact ⟨rfl,bel_drewN (Uh HB) _⟩
end Go.Proofs.YtgjokididdffhaaGreat
