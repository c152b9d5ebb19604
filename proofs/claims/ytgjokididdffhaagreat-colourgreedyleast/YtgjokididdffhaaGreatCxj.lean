/- Cxg -/
import Derived.Test.YtgjokididdffhaaGreatCxf
import Derived.Test.YtgjokididdffhaaGreatDa1
import Derived.Test.YtgjokididdffhaaGreatCh2
namespace Go.Proofs.YtgjokididdffhaaGreat
open Go.RowKit Go.Deep Go.Shelf
set_option linter.unusedVariables false
attribute [local go_sem] Oper.semAt_some

structure AsI (w W:World) (B b:Nat) (rs:List Int):Prop where
 bel:Below w.heap.size w W
 box:∃ v,W.heap[b]? = some (.cells #[v] 23 (0,0)) ∧ W.ownsRow B 3 1 v rs.length (valsI rs)
 le:B ≤ W.heap.size
theorem AsI.own {w:World} {B b B':Nat} (hB:w.heap.size ≤ B'):OwnFrom B' (fun (s:List Int) W => AsI w W B b s):=by
 intro s W W' row h hg hr
 have hr':∀ r,row = some r → ∃ o:Obj,W.heap[r]? = some o ∧ o.isCells = false:=fun r e => (hr r e).2
 obtain ⟨v,k1,o1⟩:=h.box
 exact ⟨h.bel.grown hg h.bel.size (fun k e => Nat.le_trans hB (hr k e).1),⟨v,blk_keptP k1 hg hr',own_keptP o1 hg hr'⟩,Nat.le_trans h.le hg.size⟩
set_option maxHeartbeats 8000000 in
set_option maxRecDepth 100000 in
theorem appseq_vals (Bs : Nat) (a : Option Addr) (n cap : Nat) (xs : List Int) (w : World) (hBs : Bs < w.heap.size) (hcB : w.cell? ⟨Bs, 0, none⟩ = some (.slice a n cap)) (h : SlI w a n cap xs) (hn : n ≤ 128) :
    Calls Tryz.prog 166 #[.slice none 0 0, .func (.func 155) #[] #[.pointer (some ⟨Bs, 0, none⟩)]] w fun e w' => ∃ v, e = .returned v ∧ w'.ownsRow w.heap.size 3 1 v n (valsI xs) ∧ Below w.heap.size w w' := by
  have HSeq := vals_stops 3 (by decide) Bs a n cap xs w hBs hcB h (by omega)
  have HLN := hide h.len
  obtain ⟨i64, hi, hz, hs, hb⟩ := info_parts Tryz.info_i64
  have HI := hide (And.intro hi (And.intro hz (And.intro hs hb)))
  clear hcB h hi hz hs hb
  refine (callsIn_wide (n := 4)).1 ?_
  refine callsIn_of_wp_marks Tryz.func166 rfl trivial ?_ rfl
  simp only [Tryz.ntmps166, List.size_toArray, List.length_cons, List.length_nil, Nat.reduceAdd, Nat.reduceSub, Array.replicate_succ, Array.replicate_zero, List.push_toArray, List.append_toArray, List.nil_append, List.cons_append]
  obtain ⟨wf, hwf⟩ : ∃ y, w.alloc (.cells #[.slice none 0 0] 23) = y := ⟨_, rfl⟩
  have k1 : wf.heap[w.heap.size]? = some (.cells #[.slice none 0 0] 23 (0, 0)) := by rw [← hwf]; exact alloc_block _ _
  have bw : Below w.heap.size w wf := by rw [← hwf]; exact (Below.refl _ _).alloc (Nat.le_refl _) _
  have hsz : wf.heap.size = w.heap.size + 1 := by rw [← hwf]; simp
  gi_wp2_with fail
  clear hwf
  refine wpIn_rangeFunc_ownH (F := Fence.wide) (n := 4) rfl (by decide) (gf := 155) (lb := #[.pointer (some ⟨Bs, 0, none⟩)]) rfl trivial (enters_of Tryz.func155 (by kernel_rfl) rfl)
    HSeq belowK_t (belowK_b (by omega)) bw (fun _ => rfl)
    (fun (pre : List Int) W => AsI w W w.heap.size w.heap.size pre)
    (fun c pre W => False)
    (AsI.own (by omega))
    (fun c s W W' row h => h.elim)
    ⟨bw, ⟨_, k1, World.ownsRow_nil _ _ _ _⟩, bw.size⟩
    (fun x a' W => a' = ({ tmps := #[Value.slice none 0 0, Value.func (Fn.func 155) #[] #[Value.pointer (some { block := Bs, off := 0 })], Value.pointer (some { block := w.heap.size, off := 0 }), undef, Value.slice none 0 0, Value.int IntKind.i64 x, Value.func (Fn.func 155) #[] #[Value.pointer (some { block := Bs, off := 0 })], Value.int IntKind.i64 x, undef, undef, undef, undef, undef], defers := [] } : Act))
    (fun x a' _ W W' row h hg hr => h) ?assign ?body ?done ?stop
  case assign =>
    intro l pre x W K hI hK
    unfold encV
    gi_wp2
    exact hK _ _ ⟨Nat.le_refl _, fun k o h1 h2 h3 => h2⟩ (Below.refl _ _) hI rfl
  case body =>
    rintro l pre x a' W hl hrec hI rfl hlen
    obtain ⟨v, kb, o1⟩ := hI.box
    have c1 : W.cell? ⟨w.heap.size, 0, none⟩ = some v := (cell_of_block kb 0).trans rfl
    have f1 := frz_blk kb 0
    have hle := hI.le
    have hlt := (Array.getElem?_eq_some_iff.1 kb).1
    have nbx := own_neP o1 kb (by decide)
    have HK := hide (And.intro kb (And.intro o1 (And.intro hI.bel nbx)))
    obtain ⟨hi, hz, hs, hb⟩ := unhide HI
    clear kb hI hrec nbx HSeq
    gi_wp2_with (first
      | (gi_at_builtin; refine wpListIn_append_own _ rfl _ _ 23 rfl w.heap.size 3 i64 (.int .i64 0) 1 8 Tryz.underlying23 hi hz hs hb rfl (by decide) _ _ _ rfl (o1.alloc _) ⟨W.heap.size, 0, none⟩ 1 1 [.int .i64 x] rfl rfl (cell_one_new _ _ _) (by simp [Value.oneCell']) (by unfold maxLen; omega) (by omega) (by simp; omega) ?_; intro v' w3 hown' hg3 hnil3
         have hg4 : (W.alloc (Obj.cells #[Value.int IntKind.i64 x] 3)).grownBy w3 v.ownBlock := hg3
         have kb3 : w3.heap[w.heap.size]? = some (.cells #[v] 23 (0, 0)) := (hg4.block _ (by simp; omega) (fun e => (unhide HK).2.2.2 e.symm)).trans ((Below.heap_alloc _ _ _ hlt).trans (unhide HK).1)
         have c3 : w3.cell? ⟨w.heap.size, 0, none⟩ = some v := (cell_of_block kb3 0).trans rfl
         have f3 := frz_blk kb3 0
         have HG := hide (And.intro hg4 (And.intro kb3 hown'))
         obtain ⟨a', n', c', rfl⟩ : ∃ a' n' c', v' = .slice a' n' c' := by
           rcases hown'.2 with ⟨h1, _⟩ | ⟨g, cap, cur, h1, _⟩
           · exact ⟨_, _, _, h1⟩
           · exact ⟨_, _, _, h1⟩
         clear hown' hg3 hnil3 hg4 kb3
         go_frame)
      | fail)
    obtain ⟨hg, kb3, o3⟩ := unhide HG
    have c2 : Chg (fun j => j = w.heap.size) w3 (w3.setCell ⟨w.heap.size, 0, none⟩ (.slice a' n' c')) := Chg.of_set _ _ _ _ rfl
    have cA : Chg (fun j => v.ownBlock = some j ∨ j = w.heap.size) W w3 := Chg.trans (Chg.of_below ((Below.refl _ _).alloc (Nat.le_refl _) _)) ⟨hg.os, hg.tape, hg.output, hg.size, fun j hj hS => hg.block j hj (fun e => hS (.inl e.symm))⟩
    have c := cA.trans (c2.mono (fun _ _ e => .inr e))
    refine ⟨⟨c.size, fun j o hB hj ho => (c.block j (Array.getElem?_eq_some_iff.1 hj).1 (fun e => ?_)).trans hj⟩, c.below (Nat.le_of_lt hlt) (fun j hj e => ?_), ⟨(unhide HK).2.2.1.trans (c.below (unhide HK).2.2.1.size (fun j hj e => ?_)), ⟨.slice a' n' c', ?_, ?_⟩, Nat.le_trans hle c.size⟩⟩
    · rcases e with e | rfl
      · rcases o1.2 with ⟨h1, _⟩ | ⟨g, cp, cur, h1, _, h3, _⟩
        · rw [h1] at e; simp [Value.ownBlock] at e
        · rw [h1] at e
          have : g = j := by simpa [Value.ownBlock] using e
          subst this
          rw [h3] at hj
          cases hj
          cases ho
      · rw [(unhide HK).1] at hj
        cases hj
        cases ho
    · rcases e with e | e
      · have := (own_ge o1 j e).1; omega
      · omega
    · rcases e with e | e
      · have := (own_ge o1 j e).1; omega
      · omega
    · exact (show (w3.setCell ⟨w.heap.size, 0, none⟩ (.slice a' n' c')).heap[w.heap.size]? = some (.cells #[.slice a' n' c'] 23 (0, 0)) by simp [World.setCell, Array.getElem?_modify, kb3])
    · have := ownsRow_chg o3 c2 (fun j hj e => by subst e; exact own_neP o3 kb3 (by decide) hj)
      simpa [valsI] using this
  case done =>
    rintro D ys W hD rfl hI hK
    obtain ⟨v, kb, o1⟩ := hI.box
    have c1 : W.cell? ⟨w.heap.size, 0, none⟩ = some v := (cell_of_block kb 0).trans rfl
    have f1 := frz_blk kb 0
    have HB := hide (And.intro o1 hI.bel)
    clear hI o1
    gi_wp2_with fail
    have g := grownBy_putObj' W D (Obj.deferred none)
    refine ⟨by simp, .inl ⟨_, _, rfl, run_takeDeferred hK, ?_⟩⟩
    refine ⟨_, results_tmp rfl _ _ _, v, rfl, ?_, Below.grown (unhide HB).2 g (unhide HB).2.size (fun k e => by injection e with e; omega)⟩
    have := own_keptP (unhide HB).1 g (fun r e => by cases e; exact ⟨_, hK, rfl⟩)
    rw [unhide HLN] at this
    exact this
  case stop =>
    rintro D c pre W hD hpre h hK
    exact h.elim
attribute [local go_sem] Oper.semAt_some

set_option maxRecDepth 100000 in
set_option maxHeartbeats 4000000 in
theorem collect_vals (Bs:Nat) (a:Option Addr) (n cap:Nat) (xs:List Int) (w:World) (hBs:Bs < w.heap.size) (hcB:w.cell? ⟨Bs,0,none⟩ = some (.slice a n cap)) (h:SlI w a n cap xs) (hn:n ≤ 128) :
  Calls Tryz.prog 154 #[.func (.func 155) #[] #[.pointer (some ⟨Bs,0,none⟩)]] w fun e w' => ∃ v,e = .returned v ∧ w'.ownsRow w.heap.size 3 1 v n (valsI xs) ∧ Below w.heap.size w w':=by
 have K:=Hj (appseq_vals Bs a n cap xs w hBs hcB h hn)
 clear hBs hcB h
 go_enter Tryz.func154,Tryz.ntmps154
 go_wp2_with fail
 refine (Uh K).mono ?_
 rintro _ w1 ⟨v,rfl,o,b⟩
 have HO:=Hj (And.intro o b)
 clear o b K
 go_wp2_with fail
 go_ret
 exact ⟨v,rfl,Uh HO⟩
def srtL (xs:List Int):List Int:=xs.mergeSort fun x y => decide (x ≤ y)
set_option maxRecDepth 100000 in
set_option maxHeartbeats 4000000 in
theorem sorted_vals (Bs:Nat) (a:Option Addr) (n cap:Nat) (xs:List Int) (w:World) (hBs:Bs < w.heap.size) (hcB:w.cell? ⟨Bs,0,none⟩ = some (.slice a n cap)) (h:SlI w a n cap xs) (hn:n ≤ 128) (h0:0 < n) :
  Calls Tryz.prog 149 #[.func (.func 155) #[] #[.pointer (some ⟨Bs,0,none⟩)]] w fun e w' => ∃ g cap,e = .returned (.slice (some ⟨g,0,none⟩) n cap) ∧ n ≤ cap ∧ cap ≤ maxLen ∧ w.heap.size ≤ g ∧ g < w'.heap.size ∧ Sort.Holds (Value.int .i64) w' g 0 (srtL xs).toArray ∧ Below w.heap.size w w':=by
 have K:=Hj (collect_vals Bs a n cap xs w hBs hcB h hn)
 have HLN:=Hj h.len
 clear hBs hcB h
 go_enter Tryz.func149,Tryz.ntmps149
 go_wp2_with fail
 refine (Uh K).mono ?_
 rintro _ w1 ⟨v,rfl,o,b⟩
 obtain ⟨g,cp,rfl,hcp,hg,hlt,hH⟩:=own_hold o h0
 have hmx:cp ≤ maxLen:=by
  obtain ⟨a2,c2,e,s⟩:=own_slG o
  cases e
  exact s.cap
 have HO:=Hj (And.intro (And.intro hcp hmx) (And.intro hg (And.intro hlt b)))
 have KS:=Hj (csort_own g n cp xs w1 (Uh HLN) hn hH hlt)
 clear o b K hcp hg hlt hH hmx
 go_wp2_with fail
 refine (Uh KS).mono ?_
 rintro e w2 ⟨⟨z,rfl⟩,hH2,hk⟩
 have HR:=Hj (And.intro hH2 hk)
 clear hH2 hk KS
 go_wp2_with fail
 go_ret
 obtain ⟨h1,h2,h3,h4⟩:=Uh HO
 obtain ⟨h5,h6⟩:=Uh HR
 exact ⟨g,cp,rfl,h1.1,h1.2,h2,Nat.lt_of_lt_of_le h3 h6.size,h5,h4.trans (h6.below h4.size (fun j hj e => by omega))⟩
theorem cmp_up (s:List Int) (hs:s.Pairwise (fun x y => x ≤ y)):∀ m,m ≤ s.length →
  (Lib.compactUpTo s.toArray m).Pairwise (fun x y => x < y) ∧ (∀ x ∈ Lib.compactUpTo s.toArray m,∃ j,j < m ∧ s.getD j 0 = x) ∧ (∀ j,j < m → s.getD j 0 ∈ Lib.compactUpTo s.toArray m)
 | 0,_ => by simp [Lib.compactUpTo]
 | m + 1,hm => by
  obtain ⟨i1,i2,i3⟩:=cmp_up s hs m (by omega)
  have hle:∀ i j,i ≤ j → j < s.length → s.getD i 0 ≤ s.getD j 0:=fun i j hij hj => by
   rcases Nat.lt_or_ge i j with c | c
   ·have:=(List.pairwise_iff_getElem.1 hs) i j (by omega) hj c
    simpa [List.getD,show i < s.length by omega,hj] using this
   ·rw [show i = j by omega]; exact Int.le_refl _
  have hg:∀ j,j < s.length → s.toArray[j]! = s.getD j 0:=fun j hj => by simp [List.getD,hj]
  rw [Lib.compactUpTo_succ]
  by_cases hk:Lib.keeps s.toArray m = true
  ·rw [if_pos hk,hg m (by omega)]
   have hk2:m = 0 ∨ s.getD m 0 ≠ s.getD (m - 1) 0:=by
    have:=of_decide_eq_true hk
    rcases this with h | h
    ·exact .inl h
    ·right
     rw [hg m (by omega),hg (m - 1) (by omega)] at h
     exact h
   refine ⟨List.pairwise_append.2 ⟨i1,List.pairwise_singleton _ _,fun x hx y hy => ?_⟩,fun x hx => ?_,fun j hj => ?_⟩
   ·obtain rfl:y = s.getD m 0:=by simpa using hy
    obtain ⟨j,hj,rfl⟩:=i2 x hx
    have h1:=hle j (m - 1) (by omega) (by omega)
    have h2:=hle (m - 1) m (by omega) (by omega)
    rcases hk2 with h | h
    ·omega
    ·omega
   ·rcases List.mem_append.1 hx with h | h
    ·obtain ⟨j,hj,e⟩:=i2 x h
     exact ⟨j,by omega,e⟩
    ·exact ⟨m,by omega,(List.mem_singleton.1 h).symm⟩
   ·rcases Nat.lt_or_ge j m with c | c
    ·exact List.mem_append.2 (.inl (i3 j c))
    ·rw [show j = m by omega]; simp
  ·rw [if_neg hk,List.append_nil]
   have hk2:0 < m ∧ s.getD m 0 = s.getD (m - 1) 0:=by
    have h1:¬ (m = 0 ∨ s.toArray[m]! ≠ s.toArray[m - 1]!):=fun h => hk (decide_eq_true h)
    have h2:m ≠ 0:=fun h => h1 (.inl h)
    have h3:s.toArray[m]! = s.toArray[m - 1]!:=Classical.byContradiction fun h => h1 (.inr h)
    rw [hg m (by omega),hg (m - 1) (by omega)] at h3
    exact ⟨by omega,h3⟩
   refine ⟨i1,fun x hx => ?_,fun j hj => ?_⟩
   ·obtain ⟨j,hj,e⟩:=i2 x hx
    exact ⟨j,by omega,e⟩
   ·rcases Nat.lt_or_ge j m with c | c
    ·exact i3 j c
    ·rw [show j = m by omega,hk2.2]; exact i3 _ (by omega)
def risL (xs:List Int):List Int:=Lib.compact (srtL xs)
theorem ris_pw (xs:List Int):(srtL xs).Pairwise (fun x y => x ≤ y):=by
 have:=List.pairwise_mergeSort (le:=fun x y:Int => decide (x ≤ y)) (fun a b c h1 h2 => by simp at h1 h2 ⊢; omega) (fun a b => by simp; omega) xs
 exact this.imp (fun h => of_decide_eq_true h)
theorem ris_mem {xs:List Int} {x:Int}:x ∈ risL xs ↔ x ∈ xs:=by
 have h:=cmp_up (srtL xs) (ris_pw xs) (srtL xs).length (Nat.le_refl _)
 have hp:x ∈ srtL xs ↔ x ∈ xs:=(List.mergeSort_perm xs _).mem_iff
 rw [← hp]
 constructor
 ·intro hx
  obtain ⟨j,hj,rfl⟩:=h.2.1 x hx
  simp [List.getD,hj]
 ·intro hx
  obtain ⟨j,hj,e⟩:=List.getElem_of_mem hx
  have:=h.2.2 j hj
  rwa [show (srtL xs).getD j 0 = x by simp [List.getD,hj,e]] at this
theorem ris_up (xs:List Int):UpS (risL xs) (risL xs).length:=by
 have h:=(cmp_up (srtL xs) (ris_pw xs) (srtL xs).length (Nat.le_refl _)).1
 intro i hi hl
 have:=(List.pairwise_iff_getElem.1 (show (risL xs).Pairwise (fun x y => x < y) from h)) (i - 1) i (by omega) hl (by omega)
 simpa [List.getD,hl,show i - 1 < (risL xs).length by omega] using this
theorem ris_len (xs:List Int):(risL xs).length ≤ xs.length:=by
 have h2:(srtL xs).length = xs.length:=by unfold srtL; rw [List.length_mergeSort]
 unfold risL Lib.compact Lib.compactUpTo
 rw [List.length_map,← h2]
 have:=List.length_filter_le (Lib.keeps (srtL xs).toArray) (List.range (srtL xs).length)
 rwa [List.length_range] at this
noncomputable def rkI (xs:List Int) (t:Int):Nat:=(BsP.ex (risL xs) t (risL xs).length (ris_up xs)).choose
theorem rkI_is (xs:List Int) (t:Int):BsP (risL xs) (risL xs).length t (rkI xs t):=(BsP.ex (risL xs) t (risL xs).length (ris_up xs)).choose_spec
theorem has_ris {xs:List Int} {t:Int} (h:t ∈ xs):HasX (risL xs) (risL xs).length t:=by
 obtain ⟨j,hj,e⟩:=List.getElem_of_mem (ris_mem.2 h)
 exact ⟨j,hj,by simp [List.getD,hj,e]⟩
theorem rkI_lt {xs:List Int} {t:Int} (h:t ∈ xs):rkI xs t < xs.length ∧ (risL xs).getD (rkI xs t) 0 = t:=by
 have b:=rkI_is xs t
 have hx:=has_ris h
 have hlt:rkI xs t < (risL xs).length:=by
  rcases Nat.lt_or_ge (rkI xs t) (risL xs).length with c | c
  ·exact c
  ·obtain ⟨k,hk,e⟩:=hx
   have:=b.lo k (by omega)
   omega
 exact ⟨Nat.lt_of_lt_of_le hlt (ris_len xs),(b.has (ris_up xs) hlt).1 hx⟩
theorem rkI_inj {xs:List Int} {s t:Int} (hs:s ∈ xs) (ht:t ∈ xs):rkI xs s = rkI xs t ↔ s = t:=by
 constructor
 ·intro e
  rw [← (rkI_lt hs).2,← (rkI_lt ht).2,e]
 ·rintro rfl; rfl
end Go.Proofs.YtgjokididdffhaaGreat
namespace Go.Proofs.YtgjokididdffhaaGreat
open Go.RowKit Go.Deep
set_option linter.unusedVariables false
set_option maxRecDepth 100000 in
set_option maxHeartbeats 8000000 in
theorem cranks_pos (a:Option Addr) (n c:Nat) (xs:List Int) (w:World) (h:SlI w a n c xs) (hn:n ≤ 128) (h0:0 < n) :
  Calls Tryz.prog 131 #[.slice a n c] w fun e w' => ∃ g,e = .returned (.slice (some ⟨g,0,none⟩) n n) ∧ w.heap.size ≤ g ∧ g < w'.heap.size ∧ RoV w' g n (fun i => .int .i64 ((rkI xs (xs.getD i 0):Nat):Int)) ∧ Below w.heap.size w w':=by
 have KV:=Hj (callsIn_wide.1 (vals_in 4 a n c w))
 obtain ⟨wb,hwb⟩:∃ x,w.alloc (.cells #[.slice a n c] 23) = x:=⟨_,rfl⟩
 have bb:Below w.heap.size w wb:=by rw [← hwb]; exact bAl
 have kb:wb.heap[w.heap.size]? = some (.cells #[.slice a n c] 23 (0,0)):=by rw [← hwb]; exact alloc_block _ _
 have KS:=Hj (sorted_vals w.heap.size a n c xs wb (Array.getElem?_eq_some_iff.1 kb).1 ((cell_of_block kb 0).trans rfl) (h.below bb) hn h0)
 have HX:=Hj h
 have HB:=Hj bb
 clear h bb kb
 go_enter Tryz.func131,Tryz.ntmps131
 go_wp2_with fail
 refine (Uh KV).mono ?_
 rintro _ _ ⟨rfl,rfl⟩
 rw [hwb]
 clear hwb KV
 go_wp2_with fail
 refine (Uh KS).mono ?_
 rintro _ w2 ⟨g,cp,rfl,hcp,hmx,hg,hgl,hH,b2⟩
 have hl2:(srtL xs).length = n:=by unfold srtL; rw [List.length_mergeSort]; exact (Uh HX).len
 have KC:=scompact_int g 0 cp (srtL xs) w2 hH (by omega) (by omega)
 rw [hl2] at KC
 have HC:=Hj KC
 have HG:=Hj (And.intro hcp (And.intro hmx (And.intro hg (And.intro hgl (And.intro hH (And.intro hl2 ((Uh HB).trans (b2.mono (Uh HB).size))))))))
 clear KC KS hcp hmx hg hgl hH b2 hl2
 go_wp2_with fail
 refine (Uh HC).mono ?_
 rintro e w3 ⟨rfl,q,hw3⟩
 obtain ⟨k,hk⟩:∃ k,(Lib.compact (srtL xs)).length = k:=⟨_,rfl⟩
 have h3:Chg (fun j => j = g) w2 w3 ∧ SlI w3 (some ⟨g,0,none⟩) k cp (risL xs):=by
  obtain ⟨hcp,hmx,hg,hgl,hH,hl2,_⟩:=Uh HG
  have hle:(risL xs).length ≤ n:=by have:=ris_len xs; have:=(Uh HX).len; omega
  refine ⟨by rw [hw3]; exact chg_put w2 q g 0 _,⟨hk,by have:(risL xs).length = k:=hk; omega,hmx,.inr ⟨g,0,rfl,fun i hi => ?_⟩⟩⟩
  have:=Sort.holds_putRow (Value.int .i64) _ g 0 (srtL xs).toArray (Lib.compact (srtL xs) ++ List.replicate (n - (Lib.compact (srtL xs)).length) 0).toArray (Sort.holds_ahead (Value.int .i64) w2 q g 0 _ hH) (by have h5:(Lib.compact (srtL xs)).length ≤ n:=hle; simp; omega)
  rw [← hw3] at this
  have h6:=(this i (by simp; have:i < (Lib.compact (srtL xs)).length:=hi; omega)).1
  rw [h6]
  have hi':i < (Lib.compact (srtL xs)).length:=hi
  simp only [risL,List.getD,List.getElem!_toArray]
  rw [List.getElem!_eq_getElem?_getD,List.getElem?_append_left hi']
  rfl
 rw [hk]
 clear hw3 HC
 have HK:=Hj hk
 have HRS:=Hj h3.2
 have hb3:=(Uh HG).2.2.2.2.2.2.trans (h3.1.below (Uh HG).2.2.2.2.2.2.size (fun j hj e => by have:=(Uh HG).2.2.1; have:=(Uh HB).size; omega))
 have HX3:=Hj ((Uh HX).below hb3)
 have hmk:=make_intsR n (by omega) w3
 have hRo:=RoV.made w3 n 3 (.int .i64 0)
 obtain ⟨w4,hw4⟩:∃ x,w3.alloc (.cells (madeCells #[.int .i64 0] n) 3) = x:=⟨_,rfl⟩
 have b4:Below w3.heap.size w3 w4:=by rw [← hw4]; exact bAl
 have hsz:w3.heap.size < w4.heap.size:=by rw [← hw4]; simp
 rw [hw4] at hmk hRo
 obtain ⟨u,hu⟩:∃ u,w3.heap.size = u:=⟨_,rfl⟩
 have hwu:w.heap.size ≤ u:=by rw [← hu]; exact hb3.size
 have hgu:g < u:=by rw [← hu]; exact Nat.lt_of_lt_of_le (Uh HG).2.2.2.1 h3.1.size
 rw [hu] at hmk hRo hsz
 have HBASE:=Hj (show ∀ W,Chg (fun j => j = u) w4 W → SlI W a n c xs ∧ SlI W (some ⟨g,0,none⟩) k cp (risL xs) ∧ Below w.heap.size w W ∧ u < W.heap.size from fun W kk =>
  have hb4:=hb3.trans (b4.mono hb3.size)
  ⟨((Uh HX3).below b4).chg kk (fun z hz hne e => by have:=(Uh HX3).block_lt hne z hz; omega),((Uh HRS).below b4).chg kk (fun z hz hne e => by cases hz; have e2:g = u:=e; omega),hb4.trans (kk.below hb4.size (fun j hj e => by omega)),Nat.lt_of_lt_of_le hsz kk.size⟩)
 have HR0:=Hj hRo
 clear h3 hk hb3 b4 hRo hu hsz hw4
 go_wp2_with fail
 clear hmk
 go_loopw [16,5,6] (fun iv _ _ wr => ∃ i:Nat,i ≤ n ∧ iv = .int .i64 (i:Int) ∧ Hid (RoV wr u n (fun j => .int .i64 (if j < i then ((rkI xs (xs.getD j 0):Nat):Int) else 0))) ∧ Hid (Chg (fun j => j = u) w4 wr)) (fun iv _ _ _ => n - (intOf iv).toNat)
 case atStart => exact ⟨0,Nat.zero_le _,rfl,Hj ((Uh HR0).congr (fun i _ => by simp)),Hj (Chg.refl _ _)⟩
 case round =>
  obtain ⟨i,hi,rfl,HR1,HC1⟩:=hrel
  have hx:=Uh HBASE wr (Uh HC1)
  by_cases hlt:i < n
  ·have hlt':(i:Int) < (n:Int):=by omega
   obtain ⟨b,off,rfl,hcs⟩:=hx.1.at (by omega)
   have sc:=hcs i hlt
   obtain ⟨x,hxx⟩:∃ x,xs.getD i 0 = x:=⟨_,rfl⟩
   rw [hxx] at sc
   have hmem:x ∈ xs:=by
    have hl:=hx.1.len
    rw [← hxx]
    simp [List.getD,show i < xs.length by omega]
   have hkl:(risL xs).length = k:=Uh HK
   have hkn:k ≤ n:=by have:=ris_len xs; have:=hx.1.len; omega
   have hsl:=hx.2.1
   have hup:UpS (risL xs) k:=by rw [← hkl]; exact ris_up xs
   have hhas:HasX (risL xs) k x:=by rw [← hkl]; exact has_ris hmem
   have hbs:BsP (risL xs) k x (rkI xs x):=by have:=rkI_is xs x; rwa [hkl] at this
   have KB:=Hj (fun (W:World) (d:Dr wr W) => bsearch_known (some ⟨g,0,none⟩) k cp (risL xs) x W (hsl.below d.below) (by omega) hup true ⟨fun _ => hhas,fun _ => rfl⟩ (rkI xs x) hbs)
   clear hx hcs hup hhas hbs hsl
   go_wp2_with fail
   refine (Uh KB _ (Dr.refl _)).mono ?_
   rintro _ W2 ⟨rfl,hd⟩
   have hR2:=(Uh HR1).below hd.below
   have g0:=(hR2 i hlt).1
   have g1:=(hR2 i hlt).2
   simp only [Nat.lt_irrefl,if_false] at g0
   have HR2:=Hj (show RoV (W2.setCell ⟨u,i,none⟩ (.int .i64 ((rkI xs x:Nat):Int))) u n (fun j => .int .i64 (if j < i + 1 then ((rkI xs (xs.getD j 0):Nat):Int) else 0)) from (hR2.put i _ hlt).congr (fun j hj => by
    by_cases e:j = i
    ·subst e; rw [if_pos rfl,if_pos (Nat.lt_succ_self _),hxx]
    ·rw [if_neg e]
     have:(j < i) ↔ (j < i + 1):=by omega
     simp only [this]))
   have HC2:=Hj (((Uh HC1).trans (Chg.of_below hd.below)).trans (Chg.of_set (S:=fun j => j = u) W2 u i (.int .i64 ((rkI xs x:Nat):Int)) rfl))
   clear hd hR2 KB
   go_wp2_with fail
   exact ⟨⟨i + 1,by omega,by (first | rfl | go_num),HR2,HC2⟩,by simp [intOf]; omega⟩
  ·obtain rfl:i = n:=by omega
   have hlt':¬ (i:Int) < (i:Int):=by omega
   clear hx
   go_wp2_with fail
   go_ret
   have hx:=Uh HBASE wr (Uh HC1)
   exact ⟨u,rfl,hwu,hx.2.2.2,(Uh HR1).congr (fun j hj => by simp [hj]),hx.2.2.1⟩
set_option maxRecDepth 100000 in
set_option maxHeartbeats 8000000 in
theorem sorted_none (Bs:Nat) (a:Option Addr) (cap:Nat) (w:World) (hBs:Bs < w.heap.size) (hcB:w.cell? ⟨Bs,0,none⟩ = some (.slice a 0 cap)) (h:SlI w a 0 cap []) :
  Calls Tryz.prog 149 #[.func (.func 155) #[] #[.pointer (some ⟨Bs,0,none⟩)]] w fun e w' => ∃ a c,e = .returned (.slice a 0 c) ∧ Below w.heap.size w w':=by
 have K:=Hj (collect_vals Bs a 0 cap [] w hBs hcB h (by omega))
 clear hBs hcB h
 go_enter Tryz.func149,Tryz.ntmps149
 go_wp2_with fail
 refine (Uh K).mono ?_
 rintro _ w1 ⟨v,rfl,o,b⟩
 obtain ⟨a2,c2,rfl,_⟩:=own_slG o
 have HB:=Hj b
 have KS:=Hj (ssort_none a2 c2 w1)
 clear o b K
 go_wp2_with fail
 refine (Uh KS).mono ?_
 rintro e w2 ⟨rfl,hw⟩
 rw [hw]
 clear hw w2 KS
 go_wp2_with fail
 go_ret
 exact ⟨a2,c2,rfl,Uh HB⟩
set_option maxRecDepth 100000 in
set_option maxHeartbeats 8000000 in
theorem cranks_none (a:Option Addr) (c:Nat) (w:World) (h:SlI w a 0 c []) :
  Calls Tryz.prog 131 #[.slice a 0 c] w fun e w' => ∃ g,e = .returned (.slice (some ⟨g,0,none⟩) 0 0) ∧ w.heap.size ≤ g ∧ g < w'.heap.size ∧ Below w.heap.size w w':=by
 have KV:=Hj (callsIn_wide.1 (vals_in 4 a 0 c w))
 obtain ⟨wb,hwb⟩:∃ x,w.alloc (.cells #[.slice a 0 c] 23) = x:=⟨_,rfl⟩
 have bb:Below w.heap.size w wb:=by rw [← hwb]; exact bAl
 have kb:wb.heap[w.heap.size]? = some (.cells #[.slice a 0 c] 23 (0,0)):=by rw [← hwb]; exact alloc_block _ _
 have KS:=Hj (sorted_none w.heap.size a c wb (Array.getElem?_eq_some_iff.1 kb).1 ((cell_of_block kb 0).trans rfl) (h.below bb))
 have HB:=Hj bb
 clear h bb kb
 go_enter Tryz.func131,Tryz.ntmps131
 go_wp2_with fail
 refine (Uh KV).mono ?_
 rintro _ _ ⟨rfl,rfl⟩
 rw [hwb]
 clear hwb KV
 go_wp2_with fail
 refine (Uh KS).mono ?_
 rintro _ w2 ⟨a2,c2,rfl,b2⟩
 have HB2:=Hj ((Uh HB).trans (b2.mono (Uh HB).size))
 have KC:=Hj (scompact_int_empty a2 c2 w2)
 clear KS b2
 go_wp2_with fail
 refine (Uh KC).mono ?_
 rintro e w3 ⟨rfl,hw⟩
 rw [hw]
 clear hw w3 KC
 have hmk:(Instr.makeSlice 23 (.int .i64 0) (.int .i64 0)).run Tryz.prog w2 = .ok (.slice (some ⟨w2.heap.size,0,none⟩) 0 0) (w2.alloc (.cells (madeCells #[.int .i64 0] 0) 3)):=make_intsR 0 (by omega) w2
 obtain ⟨w4,hw4⟩:∃ x,w2.alloc (.cells (madeCells #[.int .i64 0] 0) 3) = x:=⟨_,rfl⟩
 have b4:Below w2.heap.size w2 w4:=by rw [← hw4]; exact bAl
 have hsz:w2.heap.size < w4.heap.size:=by rw [← hw4]; simp
 rw [hw4] at hmk
 have HE:=Hj (And.intro hsz ((Uh HB2).trans (b4.mono (Uh HB2).size)))
 clear hsz b4 hw4
 go_wp2_with fail
 clear hmk
 go_loopw [16,5,6] (fun iv _ _ wr => iv = .int .i64 0 ∧ wr = w4) (fun _ _ _ _ => 0)
 case atStart => exact ⟨rfl,rfl⟩
 case round =>
  obtain ⟨rfl,rfl⟩:=hrel
  go_wp2_with fail
  go_ret
  exact ⟨_,rfl,(Uh HB2).size,(Uh HE).1,(Uh HE).2⟩
theorem cranks_any (a:Option Addr) (n c:Nat) (xs:List Int) (w:World) (h:SlI w a n c xs) (hn:n ≤ 128) :
  Calls Tryz.prog 131 #[.slice a n c] w fun e w' => ∃ g,e = .returned (.slice (some ⟨g,0,none⟩) n n) ∧ w.heap.size ≤ g ∧ g < w'.heap.size ∧ RoV w' g n (fun i => .int .i64 ((rkI xs (xs.getD i 0):Nat):Int)) ∧ Below w.heap.size w w':=by
 by_cases h0:0 < n
 ·exact cranks_pos a n c xs w h hn h0
 ·obtain rfl:n = 0:=by omega
  obtain rfl:xs = []:=List.eq_nil_of_length_eq_zero h.len
  refine (cranks_none a c w h).mono ?_
  rintro e w' ⟨g,h1,h2,h3,h4⟩
  exact ⟨g,h1,h2,h3,fun i hi => by omega,h4⟩
end Go.Proofs.YtgjokididdffhaaGreat
