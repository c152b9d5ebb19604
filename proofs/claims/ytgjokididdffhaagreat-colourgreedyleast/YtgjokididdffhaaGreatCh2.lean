/- Da3 -/
import Derived.Test.YtgjokididdffhaaGreatDa2
import Derived.Test.YtgjokididdffhaaGreatCg8
import Derived.Laws.CopyOwn
import Derived.Deep.RegionLaw
import Derived.Test.YtgjokididdffhaaGreatDa1
namespace Go.Proofs.YtgjokididdffhaaGreat
open Go.RowKit Go.Deep
set_option linter.unusedVariables false
def pzI (xs:List Int):Nat → Nat → Nat
 | 0,_ => 0
 | k + 1,v => if xs.getD k 0 = (v:Int) then k else pzI xs k v
theorem pzI_at {xs:List Int} {m v:Nat}:∀ {n k:Nat},(∀ i j,i < j → j < n → xs.getD i 0 ≠ xs.getD j 0) → k < n → xs.getD k 0 = (v:Int) → pzI xs n v = k
 | 0,k,_,hk,_ => by omega
 | n + 1,k,ho,hk,hv => by
  unfold pzI
  by_cases e:xs.getD n 0 = (v:Int)
  ·rw [if_pos e]
   rcases Nat.lt_or_ge k n with c | c
   ·exact absurd (hv.trans e.symm) (ho k n c (by omega))
   ·omega
  ·rw [if_neg e]
   have:k ≠ n:=fun e2 => by subst e2; exact e hv
   exact pzI_at (m:=m) (fun i j h1 h2 => ho i j h1 (by omega)) (by omega) hv
theorem getD_appL {l l':List Int} {n:Nat} (h:n < l.length):(l ++ l').getD n 0 = l.getD n 0:=by simp [List.getD,List.getElem?_append_left h]
theorem getD_appR {l l':List Int} {n:Nat} (h:l.length ≤ n):(l ++ l').getD n 0 = l'.getD (n - l.length) 0:=by simp [List.getD,List.getElem?_append_right h]
noncomputable def flK (K:Nat → Prop) (L:List Int):Nat → List Int
 | 0 => []
 | t + 1 => flK K L t ++ (if tb (K t) = true then [L.getD t 0] else [])
theorem flK_len {K:Nat → Prop} {L M:List Int}:∀ t,(flK K L t).length = (flK K M t).length
 | 0 => rfl
 | t + 1 => by
  simp only [flK,List.length_append]
  rw [flK_len t]
  split <;> rfl
theorem flK_le {K:Nat → Prop} {L:List Int}:∀ t,(flK K L t).length ≤ t
 | 0 => Nat.le_refl _
 | t + 1 => by
  simp only [flK,List.length_append]
  have:=flK_le (K:=K) (L:=L) t
  split <;> simp <;> omega
theorem flK_pl {K:Nat → Prop} {rs cs:List Int} {r c:Nat}:∀ t,PlQ (flK K rs t) (flK K cs t) (flK K rs t).length r c ↔ ∃ j,j < t ∧ K j ∧ rs.getD j 0 = (r:Int) ∧ cs.getD j 0 = (c:Int)
 | 0 => ⟨fun ⟨i,hi,_⟩ => by simp [flK] at hi,fun ⟨j,hj,_⟩ => by omega⟩
 | t + 1 => by
  have ih:=flK_pl (K:=K) (rs:=rs) (cs:=cs) (r:=r) (c:=c) t
  have hl:=flK_len (K:=K) (L:=rs) (M:=cs) t
  by_cases hk:K t
  ·have e1:flK K rs (t + 1) = flK K rs t ++ [rs.getD t 0]:=by simp only [flK]; rw [if_pos (tb_iff.2 hk)]
   have e2:flK K cs (t + 1) = flK K cs t ++ [cs.getD t 0]:=by simp only [flK]; rw [if_pos (tb_iff.2 hk)]
   rw [e1,e2]
   constructor
   ·rintro ⟨i,hi,h1,h2⟩
    rw [List.length_append,List.length_singleton] at hi
    by_cases c1:i < (flK K rs t).length
    ·rw [getD_appL c1] at h1
     rw [getD_appL (by omega)] at h2
     obtain ⟨j,a,b⟩:=ih.1 ⟨i,c1,h1,h2⟩
     exact ⟨j,by omega,b⟩
    ·have:i = (flK K rs t).length:=by omega
     subst this
     rw [getD_appR (Nat.le_refl _),Nat.sub_self] at h1
     rw [getD_appR (by omega),hl,Nat.sub_self] at h2
     exact ⟨t,by omega,hk,by simpa using h1,by simpa using h2⟩
   ·rintro ⟨j,hj,h0,h1,h2⟩
    by_cases c1:j = t
    ·subst c1
     refine ⟨(flK K rs j).length,by simp,?_,?_⟩
     ·rw [getD_appR (Nat.le_refl _),Nat.sub_self]; simpa using h1
     ·rw [getD_appR (by omega),hl,Nat.sub_self]; simpa using h2
    ·obtain ⟨i,a,b,d⟩:=ih.2 ⟨j,by omega,h0,h1,h2⟩
     refine ⟨i,by rw [List.length_append]; omega,?_,?_⟩
     ·rw [getD_appL a]; exact b
     ·rw [getD_appL (by omega)]; exact d
  ·have e1:flK K rs (t + 1) = flK K rs t:=by simp only [flK]; rw [if_neg (fun e => hk (tb_iff.1 e)),List.append_nil]
   have e2:flK K cs (t + 1) = flK K cs t:=by simp only [flK]; rw [if_neg (fun e => hk (tb_iff.1 e)),List.append_nil]
   rw [e1,e2,ih]
   exact ⟨fun ⟨j,a,b⟩ => ⟨j,by omega,b⟩,fun ⟨j,a,b,d⟩ => ⟨j,by
    have:j ≠ t:=fun e => by subst e; exact hk b
    omega,b,d⟩⟩
theorem flK_from {K:Nat → Prop} {rs cs:List Int}:∀ t i,i < (flK K rs t).length → ∃ j,j < t ∧ K j ∧ (flK K rs t).getD i 0 = rs.getD j 0 ∧ (flK K cs t).getD i 0 = cs.getD j 0
 | 0,i,hi => by simp [flK] at hi
 | t + 1,i,hi => by
  have hl:=flK_len (K:=K) (L:=rs) (M:=cs) t
  by_cases hk:K t
  ·have e1:flK K rs (t + 1) = flK K rs t ++ [rs.getD t 0]:=by simp only [flK]; rw [if_pos (tb_iff.2 hk)]
   have e2:flK K cs (t + 1) = flK K cs t ++ [cs.getD t 0]:=by simp only [flK]; rw [if_pos (tb_iff.2 hk)]
   rw [e1] at hi ⊢
   rw [e2]
   rw [List.length_append,List.length_singleton] at hi
   by_cases c1:i < (flK K rs t).length
   ·obtain ⟨j,a,b,d,e⟩:=flK_from (K:=K) (rs:=rs) (cs:=cs) t i c1
    exact ⟨j,by omega,b,by rw [getD_appL c1,d],by rw [getD_appL (by omega),e]⟩
   ·have:i = (flK K rs t).length:=by omega
    subst this
    refine ⟨t,by omega,hk,?_,?_⟩
    ·rw [getD_appR (Nat.le_refl _),Nat.sub_self]; simp
    ·rw [getD_appR (by omega),hl,Nat.sub_self]; simp
  ·have e1:flK K rs (t + 1) = flK K rs t:=by simp only [flK]; rw [if_neg (fun e => hk (tb_iff.1 e)),List.append_nil]
   have e2:flK K cs (t + 1) = flK K cs t:=by simp only [flK]; rw [if_neg (fun e => hk (tb_iff.1 e)),List.append_nil]
   rw [e1] at hi ⊢
   rw [e2]
   obtain ⟨j,a,b⟩:=flK_from (K:=K) (rs:=rs) (cs:=cs) t i hi
   exact ⟨j,by omega,b⟩
theorem grC_congrR {P Q:Nat → Nat → Prop} {n m:Nat} (h:∀ u v,u < m → v < n → (P u v ↔ Q u v)):∀ k,k ≤ m → grC P n k = grC Q n k
 | 0,_ => rfl
 | k + 1,hk => by simp only [grC]; rw [grC_congrR h k (by omega),grR_congr (fun v hv => h k v (by omega) hv) n (Nat.le_refl _)]
theorem grS_congrR {P Q:Nat → Nat → Prop} {n m:Nat} (h:∀ u v,u < m → v < n → (P u v ↔ Q u v)):∀ k,k ≤ m → grS P n k = grS Q n k
 | 0,_ => rfl
 | k + 1,hk => by simp only [grS]; rw [grS_congrR h k (by omega),grC_congrR h (k + 1) hk]
section
variable {R:Nat} {width:Int} {st cols:List Int}
theorem st_mono (hm:MayP (R:Int) width st cols) {i j:Nat} (hij:i ≤ j) (hj:j ≤ R):st.getD i 0 ≤ st.getD j 0:=by
 have hl:=hm.head.len
 have:=SortP.mono hm.sort (j - i) i (by omega)
 rwa [show i + (j - i) = j by omega] at this
theorem plR_get (hm:MayP (R:Int) width st cols):∀ K,K ≤ R → (∀ r j:Nat,r < K → (st.getD r 0).toNat ≤ j → j < (st.getD (r + 1) 0).toNat → (plR st K).getD j 0 = (r:Int)) ∧ ∀ j,j < (st.getD K 0).toNat → ∃ r,r < K ∧ (st.getD r 0).toNat ≤ j ∧ j < (st.getD (r + 1) 0).toNat
 | 0,_ => ⟨fun r j hr => by omega,fun j hj => by rw [hm.head.first] at hj; simp at hj⟩
 | K + 1,hK => by
  obtain ⟨i1,i2⟩:=plR_get hm K (by omega)
  have hl:=plR_len hm K (by omega)
  obtain ⟨X,Y,h⟩:=hm.rowAt (k:=K) (by omega)
  rw [h.hX] at hl
  rw [plR_row h]
  refine ⟨fun r j hr h1 h2 => ?_,fun j hj => ?_⟩
  ·by_cases e:r = K
   ·subst e
    rw [h.hX] at h1
    rw [h.hY] at h2
    rw [getD_appR (by omega)]
    have:j - (plR st r).length < Y - X:=by omega
    simp [List.getD,this]
   ·have hmo:=st_mono hm (show r + 1 ≤ K by omega) (by omega)
    rw [h.hX] at hmo
    rw [getD_appL (by omega)]
    exact i1 r j (by omega) h1 h2
  ·by_cases c:j < X
   ·obtain ⟨r,a,b⟩:=i2 j (by rw [h.hX]; omega)
    exact ⟨r,by omega,b⟩
   ·exact ⟨K,by omega,by rw [h.hX]; omega,hj⟩
theorem part_col {N k t:Nat} (hm:MayP (R:Int) (N:Int) st cols) (hk:k < R) (h1:(st.getD k 0).toNat ≤ t) (h2:t < (st.getD (k + 1) 0).toNat):∃ c:Nat,c < N ∧ cols.getD t 0 = (c:Int):=by
 obtain ⟨X,Y,h⟩:=hm.rowAt (k:=k) (by omega)
 have:=h.row.rng t (by rw [h.hX] at h1; omega) (by rw [h.hY] at h2; omega)
 exact ⟨(cols.getD t 0).toNat,by omega,by omega⟩
theorem kept_iff {K:Nat → Prop} {Cd:Nat → Nat → Prop} {n2:Nat} (hm:MayP (R:Int) width st cols) (hn:cols.length = n2) (hK:∀ t r c:Nat,t < n2 → (plR st R).getD t 0 = (r:Int) → cols.getD t 0 = (c:Int) → (K t ↔ Cd r c)) {r c:Nat} (hr:r < R):PlQ (flK K (plR st R) n2) (flK K cols n2) (flK K (plR st R) n2).length r c ↔ (InC st cols c r ∧ Cd r c):=by
 have hg:=plR_get hm R (Nat.le_refl _)
 have hl:((n2:Nat):Int) = st.getD R 0:=by have:=hm.head.last; simp only [Int.toNat_natCast] at this; rw [this,hn]
 rw [flK_pl]
 constructor
 ·rintro ⟨t,h1,h2,h3,h4⟩
  refine ⟨?_,(hK t r c h1 h3 h4).1 h2⟩
  obtain ⟨r',a,b,d⟩:=hg.2 t (by omega)
  have:=hg.1 r' t a b d
  have e:r' = r:=by omega
  subst e
  exact ⟨t,b,d,h4⟩
 ·rintro ⟨⟨t,h1,h2,h3⟩,h4⟩
  have hmo:=st_mono hm (show r + 1 ≤ R by omega) (Nat.le_refl _)
  have ht:t < n2:=by omega
  have h5:=hg.1 r t hr h1 h2
  exact ⟨t,ht,(hK t r c ht h5 h3).2 h4,h5,h3⟩
end
theorem u64_andR (x:Nat) (h:x ≤ 128):bits .and .u64 (x:Int) 4294967295 = (x:Int):=by
 have:∀ y:Fin 129,bits .and .u64 ((y.1:Nat):Int) 4294967295 = ((y.1:Nat):Int):=by decide
 exact this ⟨x,by omega⟩
set_option maxRecDepth 100000 in
set_option maxHeartbeats 8000000 in
theorem mul64_one (n:Nat) (w:World) (hn:n ≤ 128) :
  Calls Tryz.prog 136 #[.int .u64 1,.int .u64 (n:Int)] w fun e w' => e = .returned (.tuple #[.int .u64 0,.int .u64 (n:Int)]) ∧ w' = w:=by
 have a1:=u64_andR n hn
 have a2:bits .and .u64 1 4294967295 = 1:=u64_andR 1 (by omega)
 have a3:bits .and .u64 0 4294967295 = 0:=u64_andR 0 (by omega)
 have d1:(n:Int) / 4294967296 = 0:=by omega
 have m1:IntKind.u64.wrap (n:Int) = (n:Int):=by rw [IntKind.wrap_u64]; omega
 have m2:IntKind.u64.wrap 0 = 0:=by rw [IntKind.wrap_u64]; rfl
 go_enter Tryz.func136,Tryz.ntmps136
 go_wp2_with fail
 refine bodyPost_ret (by simp [results,Tryz.results136,go_sem]; try rfl) rfl ?_
 exact ⟨rfl,rfl⟩
set_option maxRecDepth 100000 in
set_option maxHeartbeats 8000000 in
theorem mul_one (n:Nat) (w:World) (hn:n ≤ 128) :
  Calls Tryz.prog 105 #[.int .u64 1,.int .u64 (n:Int)] w fun e w' => e = .returned (.tuple #[.int .u64 0,.int .u64 (n:Int)]) ∧ w' = w:=by
 have K:=mul64_one n w hn
 have m1:IntKind.u64.wrap (n:Int) = (n:Int):=by rw [IntKind.wrap_u64]; omega
 go_enter Tryz.func105,Tryz.ntmps105
 go_wp2_with fail
 refine K.mono ?_
 rintro _ w2 ⟨rfl,hw⟩
 rw [hw]
 clear hw w2 K
 go_wp2_with fail
 refine bodyPost_ret (by simp [results,Tryz.results105,go_sem]; try rfl) rfl ?_
 exact ⟨rfl,rfl⟩
theorem Tryz.info_intR:(Tryz.prog.info? 3).map (fun i => (i.zero,i.size,i.bytes)) = some (some (.int .i64 0),1,8):=by kernel_rfl
theorem size_intR:(Tryz.prog.info? 3).map (·.size) = some 1:=by kernel_rfl
theorem make_intsR (n:Nat) (hn:n ≤ 1000000) (w:World):(Instr.makeSlice 23 (.int .i64 (n:Int)) (.int .i64 (n:Int))).run Tryz.prog w = .ok (.slice (some ⟨w.heap.size,0,none⟩) n n) (w.alloc (.cells (madeCells #[.int .i64 0] n) 3)) :=
 run_make_row' (P:=Tryz.prog) 23 3 (.int .i64 0) 8 Tryz.underlying23 Tryz.info_intR rfl .i64 .i64 n (by omega) (by omega) w
def rpL (y:Int) (n m:Nat):List Value:=List.replicate m (.int .i64 y) ++ List.replicate (n - m) (.int .i64 0)
theorem rpL_len {y:Int} {n m:Nat} (h:m ≤ n):(rpL y n m).length = n:=by simp [rpL]; omega
theorem rpL_splice {y:Int} {n m c:Nat} (h:m + c ≤ n):splice (rpL y n m) m (List.replicate c (.int .i64 y)) = rpL y n (m + c):=by
 unfold splice rpL
 rw [List.take_left' (by simp),List.length_replicate]
 rw [show m + c = (List.replicate m (Value.int .i64 y)).length + c by simp,List.drop_append]
 simp only [List.length_replicate,List.drop_replicate]
 rw [show m - (m + c) = 0 by omega,show m + c - m = c by omega,show n - m - c = n - (m + c) by omega]
 simp only [List.replicate_zero,List.nil_append]
 rw [← List.append_assoc,List.replicate_append_replicate]
theorem made_rpL (y:Int) (n:Nat):madeCells #[Value.int .i64 0] n = (rpL y n 0).toArray:=by
 apply Array.ext
 ·rw [size_madeCells]; simp [rpL]
 ·intro i h1 h2
  simp [madeCells,rpL,Nat.mod_one]
theorem wrap_i64r (x:Int):IntKind.i64.wrap x = (x + 9223372036854775808) % 18446744073709551616 - 9223372036854775808:=by
 simp [IntKind.wrap,IntKind.bits,IntKind.signed]
 split <;> omega
theorem of_ifF {c:Prop} [Decidable c] {A:Prop} (h:if c then A else False):A:=by
 split at h
 ·exact h
 ·exact h.elim
def CpS (w:World) (ys:List Value) (G off:Nat) (dp sp:Option Addr):Prop:=0 < ys.length → dp = some ⟨G,off,none⟩ ∧ ∃ ad',sp = some ad' ∧ ∀ j v,ys[j]? = some v → w.cell? (ad'.add j) = some v
set_option maxRecDepth 100000 in
set_option maxHeartbeats 16000000 in
theorem srepeat_any (ad:Addr) (c:Nat) (y:Int) (n:Nat) (w:World) (hn:n ≤ 128) (hx:w.cell? ad = some (.int .i64 y)) :
  Calls Tryz.prog 64 #[.slice (some ad) 1 c,.int .i64 (n:Int)] w fun e w' => ∃ g,w.heap.size ≤ g ∧ e = .returned (.slice (some ⟨g,0,none⟩) n n) ∧ w'.heap[g]? = some (.cells (rpL y n n).toArray 3 (0,0)) ∧ Below w.heap.size w w':=by
 have KM:=Hj (mul_one n w hn)
 have hmk:=make_intsR n (by omega) w
 have hq:=alloc_block w (.cells (madeCells #[.int .i64 0] n) 3)
 obtain ⟨wm,hwm⟩:∃ x,w.alloc (.cells (madeCells #[.int .i64 0] n) 3) = x:=⟨_,rfl⟩
 have bm:Below w.heap.size w wm:=by rw [← hwm]; exact bAl
 rw [hwm] at hmk hq
 rw [made_rpL y] at hq
 have m1:IntKind.u64.wrap (n:Int) = (n:Int):=by rw [IntKind.wrap_u64]; omega
 have hx1:=(bm.cell (p:=ad) (World.block_lt_of_cell? _ _ hx)).trans hx
 have HQ:=Hj hq
 have HB:=Hj bm
 clear hq bm hx
 go_enter Tryz.func64,Tryz.ntmps64
 go_wp2_with fail
 refine (Uh KM).mono ?_
 rintro _ w2 ⟨rfl,hw⟩
 rw [hw]
 clear hw w2 KM
 obtain ⟨k0,hk0⟩:∃ k0,Nat.min 1 n = k0:=⟨_,rfl⟩
 have hk1:k0 ≤ n ∧ k0 ≤ 1 ∧ (0 < n → 0 < k0):=by rw [← hk0]; refine ⟨Nat.min_le_right _ _,Nat.min_le_left _ _,fun h => ?_⟩; exact Nat.lt_min.2 ⟨by omega,h⟩
 obtain ⟨G,hG⟩:∃ G,w.heap.size = G:=⟨_,rfl⟩
 have HGG:=Hj hG
 have HK:=Hj hk1
 have HX:=Hj hx1
 rw [hG] at hmk HQ HB
 obtain ⟨ys,hys⟩:∃ ys,List.replicate k0 (Value.int .i64 y) = ys:=⟨_,rfl⟩
 have HY:=Hj hys
 have hyl:ys.length = k0:=by rw [← hys]; simp
 have hy1:∀ v ∈ ys,v.oneCell' = true:=by rw [← hys]; intro v hv; rw [List.eq_of_mem_replicate hv]; rfl
 have hsrc:CpS wm ys G 0 (some ⟨G,0,none⟩) (some ad):=fun h => ⟨rfl,ad,rfl,fun j v hj => by
  rw [← hys] at hj
  have h2:=List.getElem?_eq_some_iff.1 hj
  obtain ⟨h3,h4⟩:=h2
  simp at h3
  obtain rfl:j = 0:=by have:=hk1.2.1; omega
  simp at h4
  subst h4
  have e0:ad.add 0 = ad:=by cases ad; simp [Addr.add]
  rw [e0]
  exact hx1⟩
 have HSRC:=Hj hsrc
 have HY1:=Hj hy1
 have HLL:=Hj (show ys.length = Nat.min 1 n by rw [hyl,hk0])
 have HFI:=Hj (show 0 + ys.length ≤ (rpL y n 0).length by rw [rpL_len (Nat.zero_le _),hyl]; have:=hk1.1; omega)
 have HYL:=Hj hyl
 clear hx1 hys hsrc hy1 hk1 hG hk0 hyl
 go_wp2_with ((refine wpList_copy_splice (w:=wm) ?h1 (.tmp 31) (.tmp 32) 23 23 ?h2 3 Tryz.underlying23 size_intR (some ⟨G,0,none⟩) (some ad) n n 1 c ?h3 ?h4 G 0 (rpL y n 0) 3 (Uh HQ) ys (Uh HLL) (Uh HSRC) (Uh HFI) (Uh HY1) G w (Uh HB) (Nat.le_refl _) ?h5); (case h1 => rfl); (case h2 => rfl); (case h3 => rfl); (case h4 => rfl); intro w4 hg4 hb4)
 have HN:=Hj (show w4.heap[G]? = some (.cells (rpL y n k0).toArray 3 (0,0)) from by
  have h1:=Uh hg4
  rw [← Uh HY,rpL_splice (by have:=(Uh HK).1; omega),Nat.zero_add] at h1
  exact h1)
 have HB4:=Hj hb4
 clear hg4 hb4 hmk
 go_loopw [8] (fun mv wr => ∃ m:Nat,m ≤ n ∧ mv = .int .i64 (m:Int) ∧ Hid (0 < n → 0 < m) ∧ Hid (wr.heap[G]? = some (.cells (rpL y n m).toArray 3 (0,0))) ∧ Hid (Below G w wr)) (fun mv _ => n - (intOf mv).toNat)
 case atStart => exact ⟨k0,(Uh HK).1,by have hkl:=Uh HYL; simp [hkl],Hj (Uh HK).2.2,HN,HB4⟩
 case round =>
  obtain ⟨m,hm,rfl,HP,HM,HW⟩:=hrel
  by_cases hlt:m < n
  ·have hlt':(m:Int) < (n:Int):=by omega
   have hm0:0 < m:=Uh HP (by omega)
   obtain ⟨k,hk⟩:∃ k,Nat.min m (n - m) = k:=⟨_,rfl⟩
   have hk1:k ≤ n - m ∧ k ≤ m ∧ 0 < k:=by rw [← hk]; refine ⟨Nat.min_le_right _ _,Nat.min_le_left _ _,?_⟩; exact Nat.lt_min.2 ⟨hm0,by omega⟩
   obtain ⟨zs,hzs⟩:∃ zs,List.replicate k (Value.int .i64 y) = zs:=⟨_,rfl⟩
   have hzl:zs.length = k:=by rw [← hzs]; simp
   have HZ:=Hj hzs
   have HZL:=Hj (show zs.length = Nat.min m (n - m) by rw [hzl,hk])
   have HZF:=Hj (show m + zs.length ≤ (rpL y n m).length by rw [rpL_len hm,hzl]; omega)
   have HZ1:=Hj (show ∀ v ∈ zs,v.oneCell' = true by rw [← hzs]; intro v hv; rw [List.eq_of_mem_replicate hv]; rfl)
   have HZS:=Hj (show CpS wr.drew zs G m (some ⟨G,m,none⟩) (some ⟨G,0,none⟩) from fun _ => ⟨rfl,⟨G,0,none⟩,rfl,fun j v hj => by
    rw [← hzs] at hj
    obtain ⟨h3,h4⟩:=List.getElem?_eq_some_iff.1 hj
    simp at h3 h4
    subst h4
    have e0:(⟨G,0,none⟩:Addr).add j = ⟨G,j,none⟩:=by unfold Addr.add; split <;> simp_all
    rw [e0]
    refine (show wr.cell? ⟨G,j,none⟩ = _ from (cell_of_block (Uh HM) j).trans ?_)
    simp [rpL,List.getElem?_append,show j < m by omega]⟩)
   have HKK:=Hj (And.intro hk1 hzl)
   have hmn:n ≠ m:=by omega
   have hmn':m ≤ n:=hm
   clear hk hzs hzl hk1
   go_wp2_with fail
   have hHeld:(fun _:World => True) wr.drew:=trivial
   refine anyTill_region (fun _ => True) 9 (by kernel_rfl) ?_
   refine anyTill_take (i:=0) (v:=?_) rfl rfl (by kernel_rfl) (by kernel_rfl) (by kernel_rfl) (by kernel_rfl) (fun _ _ _ h => h) (Or.inl ⟨by rfl,?_⟩) (by assumption) ?_
   rotate_left 1
   ·intro W hSw
    try dsimp only at hSw
    go_simp
    try with_reducible rfl
   refine anyTill_take (i:=1) (v:=?_) rfl rfl (by kernel_rfl) (by kernel_rfl) (by kernel_rfl) (by kernel_rfl) (fun _ _ _ h => h) (Or.inl ⟨by rfl,?_⟩) (by assumption) ?_
   rotate_left 1
   ·intro W hSw
    try dsimp only at hSw
    go_simp
    try with_reducible rfl
   refine anyTill_take (i:=2) (v:=?_) rfl rfl (by kernel_rfl) (by kernel_rfl) (by kernel_rfl) (by kernel_rfl) (fun _ _ _ h => h) (Or.inl ⟨by rfl,?_⟩) (by assumption) ?_
   rotate_left 1
   ·intro W hSw
    try dsimp only at hSw
    go_simp
    try with_reducible rfl
   refine anyTill_take (i:=3) (v:=?_) rfl rfl (by kernel_rfl) (by kernel_rfl) (by kernel_rfl) (by kernel_rfl) (fun _ _ _ h => h) (Or.inl ⟨by rfl,?_⟩) (by assumption) ?_
   rotate_left 1
   ·intro W hSw
    try dsimp only at hSw
    go_simp
    try with_reducible rfl
   refine anyTill_take (i:=4) (v:=?_) rfl rfl (by kernel_rfl) (by kernel_rfl) (by kernel_rfl) (by kernel_rfl) (fun _ _ _ h => h) (Or.inl ⟨by rfl,?_⟩) (by assumption) ?_
   rotate_left 1
   ·intro W hSw
    try dsimp only at hSw
    go_simp
    try with_reducible rfl
   refine anyTill_take (i:=5) (v:=?_) rfl rfl (by kernel_rfl) (by kernel_rfl) (by kernel_rfl) (by kernel_rfl) (fun _ _ _ h => h) (Or.inl ⟨by rfl,?_⟩) (by assumption) ?_
   rotate_left 1
   ·intro W hSw
    try dsimp only at hSw
    go_simp
    try with_reducible rfl
   refine anyTill_take (i:=6) (v:=?_) rfl rfl (by kernel_rfl) (by kernel_rfl) (by kernel_rfl) (by kernel_rfl) (fun _ _ _ h => h) (Or.inl ⟨by rfl,?_⟩) (by assumption) ?_
   rotate_left 1
   ·intro W hSw
    try dsimp only at hSw
    go_simp
    try with_reducible rfl
   clear hHeld
   refine anyTill_one (i:=7) (by kernel_rfl) rfl (by rfl) (fun K hK => ?_)
   refine of_ifF (step_copy_splice (ops:=#[]) (E:=False) (P:=Tryz.prog) (w:=wr.drew) ?q1 (.tmp 41) (.tmp 44) 23 23 ?q2 3 Tryz.underlying23 size_intR (some ⟨G,m,none⟩) (some ⟨G,0,none⟩) (n - m) (n - m) m n ?q3 ?q4 G m (rpL y n m) 3 (Uh HM) zs (Uh HZL) (Uh HZS) (Uh HZF) (Uh HZ1) G w ((Uh HW).drew) (Nat.le_refl _) ?q5)
   case q1 => rfl
   case q2 => rfl
   case q3 => go_simp
   case q4 => go_simp
   intro w6 hg6 hb6
   have HN6:=Hj (show w6.heap[G]? = some (.cells (rpL y n (m + k)).toArray 3 (0,0)) from by
    have h1:=Uh hg6
    rw [← Uh HZ,rpL_splice (by have:=(Uh HKK).1.1; omega)] at h1
    exact h1)
   have HB6:=Hj hb6
   rw [show goInt zs.length = .int .i64 (k:Int) from by rw [(Uh HKK).2]; rfl]
   have hkm:IntKind.i64.wrap ((m:Int) + (k:Int)) = (m:Int) + (k:Int):=by rw [wrap_i64r]; have:=(Uh HKK).1.1; omega
   clear hg6 hb6
   refine hK _ _ (fun _ => trivial) ?_
   clear hK K
   refine anyTill_one (i:=8) (by kernel_rfl) rfl (by rfl) (fun K hK => ?_)
   go_simp
   refine hK _ _ (fun _ => trivial) ?_
   clear hK K
   refine anyTill_one (i:=9) (by kernel_rfl) rfl (by rfl) (fun K hK => ?_)
   go_simp
   refine hK _ _ (fun h => absurd rfl h) ?_
   clear hK K
   refine anyTill_done (by kernel_rfl) ?_
   go_wp2_with fail
   refine ⟨⟨m + k,by have:=(Uh HKK).1.1; omega,?_,Hj (fun _ => by omega),HN6,HB6⟩,?_⟩
   ·first | rfl | simp
   ·have:=(Uh HKK).1; simp [intOf]; omega
  ·obtain rfl:m = n:=by omega
   have hlt':¬ (m:Int) < (m:Int):=by omega
   go_wp2_with fail
   try go_ret
   exact ⟨G,by have:=Uh HGG; omega,rfl,Uh HM,by rw [Uh HGG]; exact Uh HW⟩
structure OrdTo (xs:List Int) (n k:Nat):Prop where
 rng:∀ j,j < k → 0 ≤ xs.getD j 0 ∧ xs.getD j 0 < (n:Int)
 one:∀ i j,i < j → j < k → xs.getD i 0 ≠ xs.getD j 0
def IsOrd (xs:List Int) (n:Nat):Prop:=xs.length = n ∧ OrdTo xs n n
def posI (xs:List Int):Nat → Nat → Int
 | 0,_ => -1
 | k + 1,v => if xs.getD k 0 = (v:Int) then (k:Int) else posI xs k v
theorem posI_neg {xs:List Int} {v:Nat}:∀ k,posI xs k v = -1 ↔ ∀ j,j < k → xs.getD j 0 ≠ (v:Int)
 | 0 => by simp [posI]
 | k + 1 => by
  simp only [posI]
  split
  ·rename_i h
   constructor
   ·intro e; omega
   ·intro e; exact absurd h (e k (by omega))
  ·rename_i h
   rw [posI_neg k]
   constructor
   ·intro e j hj
    by_cases c:j = k
    ·subst c; exact h
    ·exact e j (by omega)
   ·intro e j hj
    exact e j (by omega)
theorem OrdTo.next {xs:List Int} {n k v:Nat} (h:OrdTo xs n k) (hv:xs.getD k 0 = (v:Int)) (hn:v < n) (hp:posI xs k v = -1):OrdTo xs n (k + 1):=by
 refine ⟨fun j hj => ?_,fun i j hij hj => ?_⟩
 ·by_cases e:j = k
  ·subst e; rw [hv]; omega
  ·exact h.rng j (by omega)
 ·by_cases e:j = k
  ·subst e
   rw [hv]
   exact (posI_neg j).1 hp i hij
  ·exact h.one i j hij (by omega)
theorem OrdTo.no {xs:List Int} {n k v:Nat} (hk:k < n) (hv:xs.getD k 0 = (v:Int)) (hp:posI xs k v ≠ -1):¬ OrdTo xs n n:=by
 intro h
 refine hp ((posI_neg k).2 (fun j hj => ?_))
 rw [← hv]
 exact h.one j k hj hk
theorem RoV.rep {W:World} {g n:Nat} {y:Int} (h:W.heap[g]? = some (.cells (rpL y n n).toArray 3 (0,0))):RoV W g n (fun _ => .int .i64 y):=fun i hi => ⟨(cell_of_block h i).trans (by simp [rpL,hi]),by simp [World.frozen?,h]⟩
def PlcP (w w':World) (e:Ending) (xs:List Int) (n:Nat) (ok:Bool):Prop:=Below w.heap.size w w' ∧ (ok = false → e = .returned (.tuple #[.slice none 0 0,.bool false])) ∧ (ok = true → ∃ g,w.heap.size ≤ g ∧ e = .returned (.tuple #[.slice (some ⟨g,0,none⟩) n n,.bool true]) ∧ RoV w' g n (fun v => .int .i64 (posI xs n v)))
set_option maxRecDepth 100000 in
set_option maxHeartbeats 16000000 in
theorem oplaces_any (a:Option Addr) (m c:Nat) (xs:List Int) (n:Nat) (w:World) (h:SlI w a m c xs) (hm:m ≤ 17592186044416) (hn:n ≤ 128) (ok:Bool) (hok:TruQ ok (IsOrd xs n)) :
  Calls Tryz.prog 112 #[.slice a m c,.int .i64 (n:Int)] w fun e w' => PlcP w w' e xs n ok:=by
 have HS:=Hj h
 have HOK:=Hj hok
 have hml:=h.len
 by_cases hne:m = n
 ·subst hne
  have KR:=Hj (fun (W:World) (ad:Addr) (hx:W.cell? ad = some (.int .i64 (-1))) => srepeat_any ad 1 (-1) m W hn hx)
  clear h hok hml
  go_enter Tryz.func112,Tryz.ntmps112
  go_wp2_with fail
  have h0:(w.alloc (.cells #[.int .i64 (-1)] 3)).cell? ⟨w.heap.size,0,none⟩ = some (.int .i64 (-1)):=by simp
  refine (Uh KR _ _ h0).mono ?_
  rintro _ w3 ⟨g,hgn,rfl,hgb,b3⟩
  have ba:Below w.heap.size w (w.alloc (.cells #[.int .i64 (-1)] 3)):=bAl
  have bw:=ba.trans (b3.mono ba.size)
  have HB:=Hj bw
  have HGN:=Hj (show w.heap.size ≤ g by simp at hgn; omega)
  have HR0:=Hj (RoV.rep hgb)
  have HS3:=Hj ((Uh HS).below bw)
  have hgl:g < w3.heap.size:=(Array.getElem?_eq_some_iff.1 hgb).1
  have HLW:=Hj (show xs ≠ [] → ∀ z,a = some z → z.block ≠ g from fun hne z hz e => by have:=(Uh HS).block_lt hne z hz; have:=Uh HGN; omega)
  clear KR h0 hgn hgb b3 ba bw
  go_wp2_with fail
  go_loopw [18,7] (fun kv _ wr => ∃ k:Nat,k ≤ m ∧ kv = .int .i64 (k:Int) ∧ Hid (RoV wr g m (fun v => .int .i64 (posI xs k v))) ∧ Hid (OrdTo xs m k) ∧ Hid (Chg (fun j => j = g) w3 wr)) (fun kv _ _ => m - (intOf kv).toNat)
  case atStart => exact ⟨0,Nat.zero_le _,rfl,HR0,Hj ⟨fun j hj => by omega,fun i j _ hj => by omega⟩,Hj (Chg.refl _ _)⟩
  case round =>
   obtain ⟨k,hk,rfl,HR,HO,HC⟩:=hrel
   by_cases hlt:k < m
   ·have hlt':(k:Int) < (m:Int):=by omega
    have hsl:=(Uh HS3).chg (Uh HC) (fun z hz hne => Uh HLW hne z hz)
    obtain ⟨b,off,rfl,hc⟩:=hsl.at (by omega)
    have sk:=hc k hlt
    obtain ⟨x,hx⟩:∃ x,xs.getD k 0 = x:=⟨_,rfl⟩
    rw [hx] at sk
    have HX:=Hj hx
    clear hc hsl hx
    by_cases hx0:x < 0
    ·have HNO:=Hj (show ¬ OrdTo xs m m from fun h => by have:=(h.rng k hlt).1; rw [Uh HX] at this; omega)
     have hokf:ok = false:=by
      cases hk2:ok
      ·rfl
      ·exact absurd (Iff.mp (Uh HOK) hk2).2 (Uh HNO)
     subst hokf
     go_wp2_with fail
     refine bodyPost_ret (by simp [results,Tryz.results112,go_sem]; try rfl) rfl ?_
     exact ⟨(Uh HB).trans ((Uh HC).below (Uh HB).size (fun j hj e => by have:=Uh HGN; omega)),fun _ => rfl,fun e => absurd e (by decide)⟩
    ·by_cases hxm:(m:Int) ≤ x
     ·have HNO:=Hj (show ¬ OrdTo xs m m from fun h => by have:=(h.rng k hlt).2; rw [Uh HX] at this; omega)
      have hokf:ok = false:=by
       cases hk2:ok
       ·rfl
       ·exact absurd (Iff.mp (Uh HOK) hk2).2 (Uh HNO)
      subst hokf
      go_wp2_with fail
      refine bodyPost_ret (by simp [results,Tryz.results112,go_sem]; try rfl) rfl ?_
      exact ⟨(Uh HB).trans ((Uh HC).below (Uh HB).size (fun j hj e => by have:=Uh HGN; omega)),fun _ => rfl,fun e => absurd e (by decide)⟩
     ·obtain ⟨v,hv⟩:∃ v:Nat,x = (v:Int):=⟨x.toNat,by omega⟩
      subst hv
      have hvm:v < m:=by omega
      have hvm':(v:Int) < (m:Int):=by omega
      have hc1:=(Uh HR v hvm).1
      have hc2:=(Uh HR v hvm).2
      obtain ⟨p,hp⟩:∃ p,posI xs k v = p:=⟨_,rfl⟩
      simp only [hp] at hc1
      have HPP:=Hj hp
      clear hp hx0 hxm
      by_cases hq:p = -1
      ·have hq1:(p != -1) = false:=by simp [hq]
       have HN:=Hj (OrdTo.next (Uh HO) (Uh HX) hvm ((Uh HPP).trans hq))
       have HN2:=Hj (show RoV (wr.setCell ⟨g,v,none⟩ (.int .i64 (k:Int))) g m (fun u => .int .i64 (posI xs (k + 1) u)) from ((Uh HR).put v (.int .i64 (k:Int)) hvm).congr (fun u hu => by
        simp only [posI,Uh HX]
        by_cases e:u = v
        ·subst e; simp
        ·rw [if_neg e,if_neg (by omega)]))
       have HN3:=Hj (show Chg (fun j => j = g) w3 (wr.setCell ⟨g,v,none⟩ (.int .i64 (k:Int))) from (Uh HC).trans (Chg.of_set _ _ _ _ rfl))
       clear hq
       go_wp2_with fail
       exact ⟨⟨k + 1,by omega,by (first | rfl | go_num),HN2,HN,HN3⟩,by simp [intOf]; omega⟩
      ·have hq1:(p != -1) = true:=by simp [hq]
       have HNO:=Hj (OrdTo.no (n:=m) hlt (Uh HX) (fun e => hq ((Uh HPP).symm.trans e)))
       clear hq
       have hokf:ok = false:=by
        cases hk2:ok
        ·rfl
        ·exact absurd (Iff.mp (Uh HOK) hk2).2 (Uh HNO)
       subst hokf
       go_wp2_with fail
       refine bodyPost_ret (by simp [results,Tryz.results112,go_sem]; try rfl) rfl ?_
       exact ⟨(Uh HB).trans ((Uh HC).below (Uh HB).size (fun j hj e => by have:=Uh HGN; omega)),fun _ => rfl,fun e => absurd e (by decide)⟩
   ·obtain rfl:k = m:=by omega
    have hlt':¬ (k:Int) < (k:Int):=by omega
    have hokt:ok = true:=Iff.mpr (Uh HOK) ⟨(Uh HS).len,Uh HO⟩
    subst hokt
    go_wp2_with fail
    refine bodyPost_ret (by simp [results,Tryz.results112,go_sem]; try rfl) rfl ?_
    exact ⟨(Uh HB).trans ((Uh HC).below (Uh HB).size (fun j hj e => by have:=Uh HGN; omega)),fun e => absurd e (by decide),fun _ => ⟨g,Uh HGN,rfl,Uh HR⟩⟩
 ·have hne1:((m:Int) != (n:Int)) = true:=by simp; omega
  have hne2:((m:Int) == (n:Int)) = false:=by simp; omega
  have hokf:ok = false:=by
   cases hk:ok
   ·rfl
   ·have:=(Iff.mp hok hk).1
    omega
  subst hokf
  clear h hok hml hne
  go_enter Tryz.func112,Tryz.ntmps112
  go_wp2_with fail
  refine bodyPost_ret (by simp [results,Tryz.results112,go_sem]; try rfl) rfl ?_
  exact ⟨Below.refl _ _,fun _ => rfl,fun e => absurd e (by decide)⟩
theorem PlcP.bool {w w':World} {e:Ending} {xs:List Int} {n:Nat} {ok:Bool} (h:PlcP w w' e xs n ok):∃ a m c,e = .returned (.tuple #[.slice a m c,.bool ok]):=by
 cases ok
 ·exact ⟨_,_,_,h.2.1 rfl⟩
 ·obtain ⟨g,_,he,_⟩:=h.2.2 rfl
  exact ⟨_,_,_,he⟩
set_option maxRecDepth 100000 in
set_option maxHeartbeats 16000000 in
theorem oisOrder_any (a:Option Addr) (m c:Nat) (xs:List Int) (n:Nat) (w:World) (h:SlI w a m c xs) (hm:m ≤ 17592186044416) (hn:n ≤ 128) (ok:Bool) (hok:TruQ ok (IsOrd xs n)) :
  Calls Tryz.prog 111 #[.slice a m c,.int .i64 (n:Int)] w fun e w' => e = .returned (.bool ok) ∧ Below w.heap.size w w':=by
 have KP:=Hj (oplaces_any a m c xs n w h hm hn ok hok)
 clear h hok
 go_enter Tryz.func111,Tryz.ntmps111
 go_wp2_with fail
 refine (Uh KP).mono ?_
 intro e w2 hq
 obtain ⟨b,l,d,rfl⟩:=hq.bool
 have HB:=Hj hq.1
 clear hq KP
 go_wp2_with fail
 try go_ret
 exact ⟨rfl,Uh HB⟩
set_option maxRecDepth 100000 in
set_option maxHeartbeats 16000000 in
theorem ocheck_in (a:Option Addr) (m c:Nat) (xs:List Int) (n:Nat) (w:World) (h:SlI w a m c xs) (hm:m ≤ 17592186044416) (hn:n ≤ 128) (ok:Bool) (hok:TruQ ok (IsOrd xs n)) :
  Calls Tryz.prog 71 #[.int .i64 (n:Int),.slice a m c] w fun e w' => e = .returned (.int .i64 (if ok = true then 0 else 182)) ∧ Below w.heap.size w w':=by
 have KP:=Hj (oisOrder_any a m c xs n w h hm hn ok hok)
 have hn0:¬ (n:Int) < 0:=by omega
 have hn1:¬ (128:Int) < (n:Int):=by omega
 clear h hok
 go_enter Tryz.func71,Tryz.ntmps71
 go_wp2_with fail
 refine (Uh KP).mono ?_
 rintro _ w2 ⟨rfl,b2⟩
 have HB:=Hj b2
 clear b2 KP
 cases ok
 ·go_wp2_with fail
  try go_ret
  exact ⟨rfl,Uh HB⟩
 ·go_wp2_with fail
  try go_ret
  exact ⟨rfl,Uh HB⟩
set_option maxRecDepth 100000 in
set_option maxHeartbeats 16000000 in
theorem cisOrder_any (a:Option Addr) (m c:Nat) (xs:List Int) (n:Nat) (w:World) (h:SlI w a m c xs) (hm:m ≤ 17592186044416) (hn:n ≤ 128) (ok:Bool) (hok:TruQ ok (IsOrd xs n)) :
  Calls Tryz.prog 40 #[.slice a m c,.int .i64 (n:Int)] w fun e w' => e = .returned (.bool ok) ∧ Below w.heap.size w w':=by
 have KP:=Hj (ocheck_in a m c xs n w h hm hn ok hok)
 clear h hok
 cases ok
 ·rw [if_neg (by decide)] at KP
  go_enter Tryz.func40,Tryz.ntmps40
  go_wp2_with fail
  refine (Uh KP).mono ?_
  rintro _ w2 ⟨rfl,b2⟩
  have HB:=Hj b2
  clear b2 KP
  go_wp2_with fail
  try go_ret
  exact ⟨by simp,Uh HB⟩
 ·rw [if_pos rfl] at KP
  go_enter Tryz.func40,Tryz.ntmps40
  go_wp2_with fail
  refine (Uh KP).mono ?_
  rintro _ w2 ⟨rfl,b2⟩
  have HB:=Hj b2
  clear b2 KP
  go_wp2_with fail
  try go_ret
  exact ⟨by simp,Uh HB⟩
end Go.Proofs.YtgjokididdffhaaGreat
