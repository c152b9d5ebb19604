/- Tg3 -/
import Derived.Test.YtpicknbdfjjflaaGreatDoorTg2
namespace Go.Proofs.YtpicknbdfjjflaaGreatDoor
open Go.RowKit Go.Deep Go.Shelf
set_option linter.unusedVariables false
attribute [local go_sem] Oper.semAt_some

theorem blk_keptT {w w' : World} {k : Nat} {cs : Array Value} {e : TypeId} (h : w.heap[k]? = some (.cells cs e (0, 0))) {row : Option Nat} (hg : w.grownBy w' row) (hr : ∀ r, row = some r → ∃ o : Obj, w.heap[r]? = some o ∧ o.isCells = false) : w'.heap[k]? = some (.cells cs e (0, 0)) := by
  refine (hg.block k (Array.getElem?_eq_some_iff.1 h).1 (fun he => ?_)).trans h
  obtain ⟨o, ho, hc⟩ := hr k he.symm
  rw [h] at ho
  cases ho
  cases hc
theorem frz_blkT {w : World} {b : Nat} {cs : Array Value} {e : TypeId} (h : w.heap[b]? = some (.cells cs e (0, 0))) (i : Nat) : w.frozen? ⟨b, i, none⟩ = false := by simp [World.frozen?, h]
theorem kpT_t {Z : Nat → Prop} {n₀ : Nat} {A B C : World} (h : KpT Z n₀ A B) (k : KpT Z n₀ B C) : KpT Z n₀ A C := Chg.trans h k
theorem kpT_b {Z : Nat → Prop} {n₀ : Nat} {w : World} (hn : n₀ ≤ w.heap.size) (W : World) (l : Nat) (o o' : Obj) (hl : w.heap.size ≤ l) (h : W.heap[l]? = some o) (_ : o.isCells = false) (_ : o.isWalk = false) : KpT Z n₀ W (W.putObj l o') :=
  ⟨rfl, rfl, rfl, by simp, fun k hk hs => World.putObj_heap_other (fun e => hs (.inr (by omega)))⟩
theorem isb_keep {w w' : World} {T e : TypeId} {B b : Nat} {bs : List Value} (h : Lib.IsBuilderF T e B b bs w) (hc : ∀ (k : Nat) (cur : Array Value) (t : TypeId) (fz : Nat × Nat), B ≤ k → w.heap[k]? = some (.cells cur t fz) → w'.heap[k]? = some (.cells cur t fz)) : Lib.IsBuilderF T e B b bs w' := by
  have one : ∀ p, Lib.BuilderAtF T e B b p bs w → Lib.BuilderAtF T e B b p bs w' := by
    rintro p ⟨h1, v, h2, h3, h4⟩
    refine ⟨h1, v, hc _ _ _ _ h1 h2, ⟨h3.1, ?_⟩, h4⟩
    rcases h3.2 with h5 | ⟨g, cap, cur, fz, e1, e2, e3, e4⟩
    · exact .inl h5
    · exact .inr ⟨g, cap, cur, fz, e1, e2, hc _ _ _ _ e2 e3, e4⟩
  exact h.elim (fun x => .inl (one _ x)) (fun x => .inr (one _ x))
theorem cel_kept {w w' : World} {row : Option Nat} (hg : w.grownBy w' row) (hr : ∀ r, row = some r → ∃ o : Obj, w.heap[r]? = some o ∧ o.isCells = false) (k : Nat) (cur : Array Value) (t : TypeId) (fz : Nat × Nat) (h : w.heap[k]? = some (.cells cur t fz)) : w'.heap[k]? = some (.cells cur t fz) := by
  refine (hg.block k (Array.getElem?_eq_some_iff.1 h).1 (fun he => ?_)).trans h
  obtain ⟨o, ho, hc⟩ := hr k he.symm
  rw [h] at ho
  cases ho
  cases hc
def catL (pre : List ByteArray) : List UInt8 := pre.flatMap (fun x => (cutS x).data.toList)
theorem catL_app (pre : List ByteArray) (x : ByteArray) : catL (pre ++ [x]) = catL pre ++ (cutS x).data.toList := by simp [catL]
theorem catL_cells (pre : List ByteArray) (x : ByteArray) : Lib.byteCells (catL pre) ++ Lib.strCells (cutS x) = Lib.byteCells (catL (pre ++ [x])) := by
  rw [catL_app]
  unfold Lib.byteCells Lib.strCells
  rw [List.map_append]
theorem catL_len (pre : List ByteArray) (x : ByteArray) : (catL (pre ++ [x])).length = (catL pre).length + (cutS x).size := by
  rw [catL_app, List.length_append, Array.length_toList]
  rfl
theorem catL_mono {a b : List ByteArray} (h : a <+: b) : (catL a).length ≤ (catL b).length := by
  obtain ⟨t, rfl⟩ := h
  simp [catL]
def prA (F : List ByteArray) : ByteArray × Int := if 65536 < (catL F).length then (⟨#[]⟩, 4) else (⟨(catL F).toArray⟩, 0)
theorem set_kept {W : World} {p : Addr} {v : Value} {k : Nat} {cur : Array Value} {t : TypeId} {fz : Nat × Nat} (h : W.heap[k]? = some (.cells cur t fz)) (hk : k ≠ p.block) : (W.setCell p v).heap[k]? = some (.cells cur t fz) := by
  rw [← h]
  simp [World.setCell, Array.getElem?_modify]
  omega
structure PrT (w W : World) (r0 r1 bb : Nat) (cs : Array Value) (e : Int) (pre : List ByteArray) : Prop where
  bel : Below w.heap.size w W
  b0 : W.heap[r0]? = some (.cells #[.string { data := #[] }] 9 (0, 0))
  b1 : W.heap[r1]? = some (.cells #[.int .i64 e] 43 (0, 0))
  bt : W.heap[bb + 1]? = some (.cells cs 25 (0, 0))
  bd : Lib.IsBuilderF 108 5 bb bb (Lib.byteCells (catL pre)) W
theorem PrT.own {w : World} {B r0 r1 bb : Nat} {cs : Array Value} {e : Int} (Pl : List ByteArray → Prop) (hB : w.heap.size ≤ B) : OwnFrom B (fun (s : List ByteArray) W => PrT w W r0 r1 bb cs e s ∧ Pl s) := by
  intro s W W' row h hg hr
  have hr' : ∀ r, row = some r → ∃ o : Obj, W.heap[r]? = some o ∧ o.isCells = false := fun r e => (hr r e).2
  exact ⟨⟨h.1.bel.grown hg h.1.bel.size (fun k e => Nat.le_trans hB (hr k e).1), blk_keptT h.1.b0 hg hr', blk_keptT h.1.b1 hg hr', blk_keptT h.1.bt hg hr', isb_keep h.1.bd (fun k cur t fz _ => cel_kept hg hr' k cur t fz)⟩, h.2⟩
set_option maxRecDepth 100000 in
set_option maxHeartbeats 8000000 in
theorem tprint_yes (i : Int) (a : Option Addr) (n c : Nat) (os : List On) (b : Option Addr) (m d : Nat) (ys : List Int) (w : World) (hs : SlO w a n c os) (hy : SlI w b m d ys) (hk : TpOk i os ys) (hT : Tab64 w) (hS : TabSh w) (hP : TabPw w) (he : chF i os ys = (0, 0)) (X : List ByteArray) (hX : X.length = n ∧ (∀ j, (X.getD j ⟨#[]⟩).size ≤ 2000000) ∧ ∀ (j : Nat) (o : On), os[j]? = some o → ∀ W, Below w.heap.size w W → Calls Tryz.prog 73 #[opV o] W fun e w' => e = .returned (.string (X.getD j ⟨#[]⟩)) ∧ Below W.heap.size W w') :
    Calls Tryz.prog 27 #[tapV i a n c b m d] w fun e w' => e = .returned (.tuple #[.string (prA (tlL i X ys)).1, .int .i64 (prA (tlL i X ys)).2]) ∧ Below w.heap.size w w' := by
  obtain ⟨wa, hwa⟩ : ∃ x, w.alloc (.cells #[.int .i64 i, .slice a n c, .slice b m d] 25) = x := ⟨_, rfl⟩
  have bx : BoxP wa w.heap.size [.int .i64 i, .slice a n c, .slice b m d] := by rw [← hwa]; exact BoxP.made _ _ _
  have hba : Below w.heap.size w wa := by rw [← hwa]; exact (Below.refl _ _).alloc (Nat.le_refl _) _
  obtain ⟨wr, hwr⟩ : ∃ x, wa.alloc (.cells #[.string { data := #[] }] 9) = x := ⟨_, rfl⟩
  have kr := alloc_block wa (.cells #[.string { data := #[] }] 9)
  have hbr : Below wa.heap.size wa wr := by rw [← hwr]; exact (Below.refl _ _).alloc (Nat.le_refl _) _
  rw [hwr] at kr
  obtain ⟨we, hwe⟩ : ∃ x, wr.alloc (.cells #[.int .i64 0] 43) = x := ⟨_, rfl⟩
  have ke := alloc_block wr (.cells #[.int .i64 0] 43)
  have hbe : Below wr.heap.size wr we := by rw [← hwe]; exact (Below.refl _ _).alloc (Nat.le_refl _) _
  rw [hwe] at ke
  have kr2 := (hbe.block _ (Array.getElem?_eq_some_iff.1 kr).1).trans kr
  have g0 := (((bx.below hbr).below hbe).all 0 _ rfl).1
  have g1 := (((bx.below hbr).below hbe).all 1 _ rfl).1
  have g2 := (((bx.below hbr).below hbe).all 2 _ rfl).1
  have hB : Below w.heap.size w we := hba.trans ((hbr.trans (hbe.mono hbr.size)).mono hba.size)
  have hsz : wa.heap.size = w.heap.size + 1 ∧ wr.heap.size = w.heap.size + 2 ∧ we.heap.size = w.heap.size + 3 := by
    rw [← hwe, ← hwr, ← hwa]; simp
  have K0 := tchk_any i a n c os b m d ys we (hs.below hB) (hy.below hB) (hT.below hB) (hS.below hB)
  rw [he] at K0
  unfold tapV at K0 ⊢
  have HC := hide K0
  have HB := hide hB
  have HKR := hide (And.intro kr2 ke)
  have HSZ := hide hsz
  have HX := hide hX
  have HD := hide (And.intro hs (And.intro hy (And.intro hk (And.intro hT (And.intro hS hP)))))
  clear bx hba hbr hbe kr ke kr2 hB K0 hs hy hk hT hS hP hX
  refine (callsIn_wide (n := 4)).1 ?_
  refine callsIn_of_wp_marks Tryz.func27 rfl trivial ?_ rfl
  simp only [Tryz.ntmps27, List.size_toArray, List.length_cons, List.length_nil, Nat.reduceAdd, Nat.reduceSub, Array.replicate_succ, Array.replicate_zero, List.push_toArray, List.append_toArray, List.nil_append, List.cons_append]
  gi_wp2_with fail
  refine ⟨trivial, (callsIn_wide.2 (unhide HC)).mono ?_⟩
  rintro _ w1 ⟨rfl, b1⟩
  have g0 := (b1.cell (World.block_lt_of_cell? _ _ g0)).trans g0
  have g1 := (b1.cell (World.block_lt_of_cell? _ _ g1)).trans g1
  have g2 := (b1.cell (World.block_lt_of_cell? _ _ g2)).trans g2
  have HB1 := hide ((unhide HB).trans (b1.mono (unhide HB).size))
  have HKR1 := hide (And.intro ((b1.block _ (Array.getElem?_eq_some_iff.1 (unhide HKR).1).1).trans (unhide HKR).1) ((b1.block _ (Array.getElem?_eq_some_iff.1 (unhide HKR).2).1).trans (unhide HKR).2))
  have HS1 := hide b1.size
  have bb : Below w1.heap.size w1 (w1.alloc (.cells #[.pointer none, .slice none 0 0] 108)) := (Below.refl _ _).alloc (Nat.le_refl _) _
  have g0 := (bb.cell (World.block_lt_of_cell? _ _ g0)).trans g0
  have g1 := (bb.cell (World.block_lt_of_cell? _ _ g1)).trans g1
  have g2 := (bb.cell (World.block_lt_of_cell? _ _ g2)).trans g2
  clear b1 HC HKR hwa hwr hwe bb
  gi_wp2_with fail
  refine ⟨trivial, (lines_in 3 _ _ _ _).mono ?_⟩
  rintro _ _ ⟨rfl, rfl⟩
  have bfr : Lib.IsBuilderF 108 5 w1.heap.size w1.heap.size (Lib.byteCells []) (w1.alloc (.cells #[.pointer none, .slice none 0 0] 108)) := .inl ⟨Nat.le_refl _, _, alloc_block _ _, ⟨by simp [Lib.byteCells], .inl ⟨rfl, rfl⟩⟩, fun e => by cases e⟩
  obtain ⟨wb, hwb⟩ : ∃ y, w1.alloc (.cells #[.pointer none, .slice none 0 0] 108) = y := ⟨_, rfl⟩
  rw [hwb] at bfr g0 g1 g2 ⊢
  have hzb : wb.heap.size = w1.heap.size + 1 := by rw [← hwb]; simp
  have hbb : Below w1.heap.size w1 wb := by rw [← hwb]; exact (Below.refl _ _).alloc (Nat.le_refl _) _
  obtain ⟨wf, hwf⟩ : ∃ y, wb.alloc (.cells #[.int .i64 i, .slice a n c, .slice b m d] 25) = y := ⟨_, rfl⟩
  have hzf : wf.heap.size = wb.heap.size + 1 := by rw [← hwf]; simp
  have hbf : Below wb.heap.size wb wf := by rw [← hwf]; exact (Below.refl _ _).alloc (Nat.le_refl _) _
  have kbf : wf.heap[wb.heap.size]? = some (.cells #[.int .i64 i, .slice a n c, .slice b m d] 25) := by rw [← hwf]; exact alloc_block _ _
  have bxf : BoxP wf wb.heap.size [.int .i64 i, .slice a n c, .slice b m d] := by rw [← hwf]; exact BoxP.made _ _ _
  clear hwb
  rw [hzb] at bxf kbf
  have hG : TpZ wf (fun k => k = w1.heap.size) wf.heap.size w (w1.heap.size + 1) [.int .i64 i, .slice a n c, .slice b m d] :=
    ⟨(unhide HB1).trans ((hbb.trans (hbf.mono hbb.size)).mono (unhide HB1).size), fun k e => by have := (unhide HB1).size; omega, by have := (unhide HB1).size; omega, bxf, ⟨by omega, by omega⟩⟩
  have hbt : Below w1.heap.size w1 wf := hbb.trans (hbf.mono hbb.size)
  have HI0 := hide (show PrT w wf (w.heap.size + 1) (w.heap.size + 2) w1.heap.size #[Value.int .i64 i, .slice a n c, .slice b m d] 0 [] ∧ (catL []).length ≤ 65536 from ⟨⟨hG.bel, by have h := (unhide HKR1).1; rw [(unhide HSZ).1] at h; exact (hbt.block _ (Array.getElem?_eq_some_iff.1 h).1).trans h, by have h := (unhide HKR1).2; rw [(unhide HSZ).2.1] at h; exact (hbt.block _ (Array.getElem?_eq_some_iff.1 h).1).trans h, kbf, isb_keep bfr (fun k cur t fz _ h => (hbf.block k (Array.getElem?_eq_some_iff.1 h).1).trans h)⟩, by simp [catL]⟩)
  have HSeq := lines_stops 3 (by decide) (fun k => k = w1.heap.size) (w1.heap.size + 1) w i a n c os b m d ys X wf (unhide HD).1 (unhide HD).2.1 (by have := (unhide HD).2.2.1.li; omega) (by have h1 := (unhide HD).2.2.1.lo; have h2 := (unhide HD).1.len; omega) (by have h1 := (unhide HD).2.2.1.ly; have h2 := (unhide HD).2.1.len; omega) (fun y hy => by have h1 := (unhide HD).2.2.1.out y hy; have h2 := (unhide HD).2.2.1.lo; omega) (unhide HX).1 (unhide HX).2.1 (unhide HX).2.2 (unhide HD).2.2.2.2.2 hG
  have HFR := hide (And.intro hzb (And.intro hzf (And.intro (unhide HS1) (unhide HSZ).2.2)))
  clear hbt hG hbb hbf bxf kbf bfr g0 g1 g2 hsz
  gi_wp2_with fail
  clear hwf
  refine wpIn_rangeFunc_ownH (F := Fence.wide) (n := 4) rfl (by decide) (gf := 71) (lb := #[.pointer (some ⟨w1.heap.size + 1, 0, none⟩)]) rfl trivial (enters_of Tryz.func71 (by kernel_rfl) rfl)
    HSeq kpT_t (kpT_b (Nat.le_refl _)) (Below.refl _ _) (fun _ => rfl)
    (fun (pre : List ByteArray) W => PrT w W (w.heap.size + 1) (w.heap.size + 2) w1.heap.size #[Value.int .i64 i, .slice a n c, .slice b m d] 0 pre ∧ (catL pre).length ≤ 65536)
    (fun cx pre W => PrT w W (w.heap.size + 1) (w.heap.size + 2) w1.heap.size #[Value.int .i64 i, .slice a n c, .slice b m d] 4 pre ∧ (cx = .ret ∧ 65536 < (catL pre).length))
    (PrT.own (fun pre => (catL pre).length ≤ 65536) (by have := (unhide HFR); omega))
    (fun cx => PrT.own (fun pre => cx = .ret ∧ 65536 < (catL pre).length) (by have := (unhide HFR); omega))
    (unhide HI0)
    (fun x a' W => a' = ({ tmps := #[Value.agg #[Value.int IntKind.i64 i, Value.slice a n c, Value.slice b m d], Value.pointer (some { block := w.heap.size, off := 0 }), Value.pointer (some { block := w.heap.size + 1, off := 0 }), Value.pointer (some { block := w.heap.size + 2, off := 0 }), Value.int IntKind.i64 0, Value.pointer (some { block := w1.heap.size, off := 0 }), Value.string (cutS x), Value.agg #[Value.int IntKind.i64 i, Value.slice a n c, Value.slice b m d], Value.int IntKind.i64 0, Value.int IntKind.i64 0, Value.bool false, undef, Value.agg #[Value.int IntKind.i64 i, Value.slice a n c, Value.slice b m d], Value.func (Fn.func 71) #[] #[Value.pointer (some { block := w1.heap.size + 1, off := 0 })], Value.string (cutS x), undef, undef, undef, undef, undef], defers := [] } : Act))
    (fun x a' _ W W' row h hg hr => h) ?assign ?body ?done ?stop
  case assign =>
    intro l pre x W K hI hK
    unfold encS
    gi_wp2
    exact hK _ _ ⟨Nat.le_refl _, fun k o h1 h2 h3 => h2⟩ (Chg.refl _ _) hI rfl
  case body =>
    rintro l pre x a' W hl hrec hI rfl hlen
    have hbb : w1.heap.size ≤ W.heap.size := by
      rcases hI.1.bd with ⟨_, v, h, _⟩ | ⟨_, v, h, _⟩ <;> exact Nat.le_of_lt (Array.getElem?_eq_some_iff.1 h).1
    have K1 := Go.Proofs.Tryz.Builder_WriteString_k w1.heap.size w1.heap.size (Lib.byteCells (catL pre)) (cutS x) W hI.1.bd (by rw [Lib.byteCells_length]; have := cutS_size x; have := hI.2; omega) hbb
    have HK := hide K1
    have HI := hide hI
    clear hI hrec hl hlen K1
    gi_wp2_with fail
    refine ⟨trivial, (CallsIn.inRound l (callsIn_wide.2 (unhide HK))).mono ?_⟩
    rintro _ W2 ⟨rfl, hat, hbel, hoth⟩
    rw [catL_cells] at hat
    have HL := hide (Go.Proofs.Tryz.Builder_Len_f w1.heap.size w1.heap.size (Lib.byteCells (catL (pre ++ [x]))) W2 (.inr hat))
    rw [Lib.byteCells_length] at HL
    have hfr := unhide HFR
    have hKF : KeepsFrom wf.heap.size W W2 := ⟨by have := hbel.size; omega, fun j o hB hj ho => hoth j o hj (fun e => by cases e; omega) (fun c fz e => by rw [e] at ho; cases ho)⟩
    have hbt2 := hoth _ _ (unhide HI).1.bt (fun e => by injection e with e; omega) (fun c fz e => by injection e with e1 e2 e3; exact absurd e2 (by decide))
    have hKp : KpT (fun k => k = w1.heap.size) wf.heap.size W W2 := ⟨hbel.os, hbel.tape, hbel.output, hbel.size, fun k hk hs => by
      by_cases e1 : k < w1.heap.size
      · exact hbel.block k e1
      · have e2 : k = w1.heap.size + 1 := by
          have h1 : k ≠ w1.heap.size := fun e => hs (.inl e)
          have h2 : ¬ wf.heap.size ≤ k := fun e => hs (.inr e)
          omega
        rw [e2, hbt2, (unhide HI).1.bt]⟩
    have h1 : PrT w W2 (w.heap.size + 1) (w.heap.size + 2) w1.heap.size #[Value.int .i64 i, .slice a n c, .slice b m d] 0 (pre ++ [x]) := ⟨(unhide HI).1.bel.trans (hbel.mono (by omega)), (hbel.block _ (by omega)).trans (unhide HI).1.b0, (hbel.block _ (by omega)).trans (unhide HI).1.b1, hbt2, .inr hat⟩
    have HP1 := hide h1
    have HKF := hide hKF
    have HKp := hide hKp
    clear hat hbel hoth hbt2 hKF hKp h1 hfr HK
    gi_wp2_with fail
    refine ⟨trivial, (CallsIn.inRound l (callsIn_wide.2 (unhide HL))).mono ?_⟩
    rintro _ W3 ⟨rfl, hw⟩
    obtain rfl := hw.symm
    clear hw
    obtain ⟨L, hL⟩ : ∃ L, (catL (pre ++ [x])).length = L := ⟨_, rfl⟩
    rw [hL]
    have HLL := hide hL
    clear hL HL
    by_cases hgt : 65536 < L
    · have hgt' : (65536 : Int) < (L : Int) := by omega
      have c0 := (cell_of_block (unhide HP1).b0 0).trans (show _ = some (Value.string { data := #[] }) from rfl)
      have c1 := (cell_of_block (unhide HP1).b1 0).trans (show _ = some (Value.int .i64 0) from rfl)
      have f0 := frz_blkT (unhide HP1).b0 0
      have f1 := frz_blkT (unhide HP1).b1 0
      gi_wp2_with fail
      have cc : Chg (fun j => j = w.heap.size + 1 ∨ j = w.heap.size + 2) W2 ((W2.setCell ⟨w.heap.size + 1, 0, none⟩ (.string { data := #[] })).setCell ⟨w.heap.size + 2, 0, none⟩ (.int .i64 4)) := ((Chg.refl (fun j => j = w.heap.size + 1 ∨ j = w.heap.size + 2) W2).put _ _ _ (.inl rfl)).put _ _ _ (.inr rfl)
      have e0 : ((W2.setCell ⟨w.heap.size + 1, 0, none⟩ (.string { data := #[] })).setCell ⟨w.heap.size + 2, 0, none⟩ (.int .i64 4)).heap[w.heap.size + 1]? = some (.cells #[.string { data := #[] }] 9 (0, 0)) := by
        simp [World.setCell, Array.getElem?_modify, (unhide HP1).b0]
      have e1 : ((W2.setCell ⟨w.heap.size + 1, 0, none⟩ (.string { data := #[] })).setCell ⟨w.heap.size + 2, 0, none⟩ (.int .i64 4)).heap[w.heap.size + 2]? = some (.cells #[.int .i64 4] 43 (0, 0)) := by
        simp [World.setCell, Array.getElem?_modify, (unhide HP1).b1]
      have hfr := unhide HFR
      have hs1 := (unhide HKF).size
      refine ⟨⟨Nat.le_trans (unhide HKF).size cc.size, fun j o hB hj ho => ?_⟩, ⟨⟨(unhide HP1).bel.trans (cc.below (B := w.heap.size) (unhide HP1).bel.size (fun j hj e => by omega)), e0, e1, (cc.block _ (Array.getElem?_eq_some_iff.1 (unhide HP1).bt).1 (by omega)).trans (unhide HP1).bt, isb_keep (unhide HP1).bd (fun k cur t fz hBk h => ?_)⟩, rfl, by rw [unhide HLL]; exact hgt⟩⟩
      · have h5 := (unhide HKF).same j o hB hj ho
        exact (cc.block j (Array.getElem?_eq_some_iff.1 h5).1 (by omega)).trans h5
      · exact set_kept (set_kept h (by show k ≠ w.heap.size + 1; omega)) (by show k ≠ w.heap.size + 2; omega)
    · have hgt' : ¬ (65536 : Int) < (L : Int) := by omega
      gi_wp2_with fail
      exact ⟨unhide HKF, unhide HKp, unhide HP1, by rw [unhide HLL]; omega⟩
  case done =>
    rintro D zs W hD hzs hI hK
    subst hzs
    have hbb : w1.heap.size ≤ W.heap.size := by
      rcases hI.1.bd with ⟨_, v, h, _⟩ | ⟨_, v, h, _⟩ <;> exact Nat.le_of_lt (Array.getElem?_eq_some_iff.1 h).1
    have K1 := Go.Proofs.Tryz.Builder_String_any_k w1.heap.size w1.heap.size (catL (tlL i X ys)) W hI.1.bd hbb
    have HK := hide K1
    have HI := hide hI
    have HKD := hide hK
    clear hI K1 HSeq hK
    gi_wp2_with fail
    refine ⟨trivial, (callsIn_wide.2 (unhide HK)).mono ?_⟩
    rintro _ W2 ⟨rfl, hat, hbel, hoth⟩
    have hfr := unhide HFR
    have k0 := (hbel.block _ (by omega)).trans (unhide HI).1.b0
    have k1 := (hbel.block _ (by omega)).trans (unhide HI).1.b1
    have hKD := hoth D _ (unhide HKD) (fun e => by injection e with e; omega) (fun c fz e => by cases e)
    have HBW := hide ((unhide HI).1.bel.trans (hbel.mono (by omega)))
    have c0 := (cell_of_block k0 0).trans (show _ = some (Value.string { data := #[] }) from rfl)
    have c1 := (cell_of_block k1 0).trans (show _ = some (Value.int .i64 0) from rfl)
    have f0 := frz_blkT k0 0
    have f1 := frz_blkT k1 0
    have hR : prA (tlL i X ys) = (⟨(catL (tlL i X ys)).toArray⟩, 0) := by unfold prA; rw [if_neg (by have := (unhide HI).2; omega)]
    obtain ⟨ST, hST⟩ : ∃ ST : ByteArray, (⟨(catL (tlL i X ys)).toArray⟩ : ByteArray) = ST := ⟨_, rfl⟩
    rw [hST] at hR ⊢
    have HR := hide hR
    clear hat hbel hoth k0 k1 hR HK
    gi_wp2_with fail
    have hfr := unhide HFR
    have cc2 : Chg (fun j => j = w.heap.size + 1 ∨ j = w.heap.size + 2) W2 ((W2.setCell ⟨w.heap.size + 1, 0, none⟩ (.string ST)).setCell ⟨w.heap.size + 2, 0, none⟩ (.int .i64 0)) := ((Chg.refl (fun j => j = w.heap.size + 1 ∨ j = w.heap.size + 2) W2).put _ _ _ (.inl rfl)).put _ _ _ (.inr rfl)
    have hK2 := (cc2.block D (Array.getElem?_eq_some_iff.1 hKD).1 (fun e => by omega)).trans hKD
    have hv : ((W2.setCell ⟨w.heap.size + 1, 0, none⟩ (.string ST)).setCell ⟨w.heap.size + 2, 0, none⟩ (.int .i64 0)).cell? ⟨w.heap.size + 1, 0, none⟩ = some (.string ST) := (Chg.cell (Chg.of_set (S := fun j => j = w.heap.size + 2) _ _ _ _ rfl) (by omega) (World.cell?_setCell_same W2 ⟨w.heap.size + 1, 0, none⟩ (.string ST) c0))
    have hv' : ((W2.setCell ⟨w.heap.size + 1, 0, none⟩ (.string ST)).setCell ⟨w.heap.size + 2, 0, none⟩ (.int .i64 0)).cell? ⟨w.heap.size + 2, 0, none⟩ = some (.int .i64 0) := World.cell?_setCell_same _ ⟨w.heap.size + 2, 0, none⟩ (.int .i64 0) (Chg.cell (Chg.of_set (S := fun j => j = w.heap.size + 1) _ _ _ _ rfl) (by omega) c1)
    generalize (W2.setCell ⟨w.heap.size + 1, 0, none⟩ (.string ST)).setCell ⟨w.heap.size + 2, 0, none⟩ (.int .i64 0) = Wz at *
    have hbz := (unhide HBW).trans (cc2.below (B := w.heap.size) (unhide HBW).size (fun j hj e => by omega))
    have g := grownBy_putObj' Wz D (Obj.deferred none)
    have hv2 := (g.cell_far ⟨w.heap.size + 1, 0, none⟩ (World.block_lt_of_cell? _ _ hv) (fun e => by injection e with e; simp at e; omega)).trans hv
    have hv3 := (g.cell_far ⟨w.heap.size + 2, 0, none⟩ (World.block_lt_of_cell? _ _ hv') (fun e => by injection e with e; simp at e; omega)).trans hv'
    refine ⟨by simp, .inl ⟨_, _, rfl, run_takeDeferred hK2, ?_⟩⟩
    refine ⟨.tuple #[.string ST, .int .i64 0], by simp [results, Tryz.results27, go_sem, hv2, hv3]; try rfl, ?_⟩
    exact ⟨by rw [unhide HR], Below.grown hbz g hbz.size (fun k e => by injection e with e; omega)⟩
  case stop =>
    rintro D cx pre W hD hpre ⟨hI, rfl, hx⟩ hK
    have c0 := (cell_of_block hI.b0 0).trans (show _ = some (Value.string { data := #[] }) from rfl)
    have c1 := (cell_of_block hI.b1 0).trans (show _ = some (Value.int .i64 4) from rfl)
    have hR : prA (tlL i X ys) = (⟨#[]⟩, 4) := by unfold prA; rw [if_pos (by have := catL_mono hpre.2; omega)]
    have HI := hide hI
    have HR := hide hR
    clear hI HSeq hR
    gi_wp2_with fail
    have hfr := unhide HFR
    have g := grownBy_putObj' W D (Obj.deferred none)
    have hv2 := (g.cell_far ⟨w.heap.size + 1, 0, none⟩ (World.block_lt_of_cell? _ _ c0) (fun e => by injection e with e; simp at e; omega)).trans c0
    have hv3 := (g.cell_far ⟨w.heap.size + 2, 0, none⟩ (World.block_lt_of_cell? _ _ c1) (fun e => by injection e with e; simp at e; omega)).trans c1
    refine ⟨by simp, .inl ⟨_, _, rfl, run_takeDeferred hK, ?_⟩⟩
    refine ⟨.tuple #[.string { data := #[] }, .int .i64 4], by simp [results, Tryz.results27, go_sem, hv2, hv3]; try rfl, ?_⟩
    exact ⟨by rw [unhide HR], Below.grown (unhide HI).bel g (unhide HI).bel.size (fun k e => by injection e with e; omega)⟩
end Go.Proofs.YtpicknbdfjjflaaGreatDoor
