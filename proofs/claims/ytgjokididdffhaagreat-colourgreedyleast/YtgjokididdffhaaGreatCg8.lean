/- Sp9 -/
import Derived.Test.YtgjokididdffhaaGreatSp8
import Derived.Test.YtgjokididdffhaaGreatCg1
namespace Go.Proofs.YtgjokididdffhaaGreat
open Go.RowKit Go.Deep Go.Shelf
set_option linter.unusedVariables false
attribute [local go_sem] Oper.semAt_some

structure PgI (w W : World) (B b1 b2 : Nat) (rs cs : List Int) : Prop where
  bel : Below w.heap.size w W
  two : ∃ v u, (W.heap[b1]? = some (.cells #[v] 23 (0, 0)) ∧ W.heap[b2]? = some (.cells #[u] 23 (0, 0))) ∧ W.ownsRow B 3 1 v rs.length (valsI rs) ∧ W.ownsRow B 3 1 u cs.length (valsI cs) ∧ ∀ g, v.ownBlock = some g → u.ownBlock ≠ some g
  le : B ≤ W.heap.size
theorem own_keptP {w w' : World} {B : Nat} {e : TypeId} {v : Value} {n : Nat} {xs : List Value} (h : w.ownsRow B e 1 v n xs) {row : Option Nat} (hg : w.grownBy w' row) (hr : ∀ r, row = some r → ∃ o : Obj, w.heap[r]? = some o ∧ o.isCells = false) : w'.ownsRow B e 1 v n xs := by
  refine h.kept hg ?_
  rcases h.2 with ⟨h1, _⟩ | ⟨g, cap, cur, h1, h2, h3, _⟩
  · left; rw [h1]; rfl
  · right
    rw [h1]
    intro he
    obtain ⟨o, ho, hc⟩ := hr g he.symm
    rw [h3] at ho
    cases ho
    cases hc
theorem blk_keptP {w w' : World} {k : Nat} {cs : Array Value} {e : TypeId} (h : w.heap[k]? = some (.cells cs e (0, 0))) {row : Option Nat} (hg : w.grownBy w' row) (hr : ∀ r, row = some r → ∃ o : Obj, w.heap[r]? = some o ∧ o.isCells = false) : w'.heap[k]? = some (.cells cs e (0, 0)) := by
  refine (hg.block k (Array.getElem?_eq_some_iff.1 h).1 (fun he => ?_)).trans h
  obtain ⟨o, ho, hc⟩ := hr k he.symm
  rw [h] at ho
  cases ho
  cases hc
theorem PgI.own {β : Type} {w : World} {B b1 b2 : Nat} (r c : β → List Int) (hB : w.heap.size ≤ B) : OwnFrom B (fun (s : β) W => PgI w W B b1 b2 (r s) (c s)) := by
  intro s W W' row h hg hr
  have hr' : ∀ r, row = some r → ∃ o : Obj, W.heap[r]? = some o ∧ o.isCells = false := fun r e => (hr r e).2
  obtain ⟨v, u, ⟨k1, k2⟩, o1, o2, ap⟩ := h.two
  exact ⟨h.bel.grown hg h.bel.size (fun k e => Nat.le_trans hB (hr k e).1), ⟨v, u, ⟨blk_keptP k1 hg hr', blk_keptP k2 hg hr'⟩, own_keptP o1 hg hr', own_keptP o2 hg hr', ap⟩, Nat.le_trans h.le hg.size⟩
structure AqS (W Wc : World) (B b1 b2 : Nat) (v0 u0 v u : Value) (rs cs : List Int) : Prop where
  chg : Chg (fun j => v0.ownBlock = some j ∨ u0.ownBlock = some j ∨ j = b1) W Wc
  bx1 : Wc.heap[b1]? = some (.cells #[v0] 23 (0, 0))
  bx2 : Wc.heap[b2]? = some (.cells #[u0] 23 (0, 0))
  own1 : Wc.ownsRow B 3 1 v rs.length (valsI rs)
  own2 : Wc.ownsRow B 3 1 u cs.length (valsI cs)
  apart : ∀ g, v.ownBlock = some g → u.ownBlock ≠ some g
  le : B ≤ Wc.heap.size
  lw : W.heap.size ≤ Wc.heap.size
  kp : KeepsFrom B W Wc
theorem own_neP {w : World} {B : Nat} {e : TypeId} {v : Value} {n : Nat} {xs : List Value} (h : w.ownsRow B e 1 v n xs) {k : Nat} {cs : Array Value} {e2 : TypeId} (hk : w.heap[k]? = some (.cells cs e2 (0, 0))) (hne : e ≠ e2) : v.ownBlock ≠ some k := by
  intro he
  rcases h.2 with ⟨h1, _⟩ | ⟨g, cap, cur, h1, h2, h3, _⟩
  · rw [h1] at he; simp [Value.ownBlock] at he
  · rw [h1] at he
    have : g = k := by simpa [Value.ownBlock] using he
    subst this
    rw [h3] at hk
    cases hk
    exact hne rfl
theorem AqS.below {W Wc Wn : World} {B b1 b2 : Nat} {v0 u0 v u : Value} {rs cs : List Int} (h : AqS W Wc B b1 b2 v0 u0 v u rs cs) (k : Below Wc.heap.size Wc Wn) : AqS W Wn B b1 b2 v0 u0 v u rs cs := by
  have lt : ∀ {i : Nat} {o : Obj}, Wc.heap[i]? = some o → i < Wc.heap.size := fun h => (Array.getElem?_eq_some_iff.1 h).1
  refine ⟨⟨k.os.trans h.chg.os, k.tape.trans h.chg.tape, k.output.trans h.chg.output, Nat.le_trans h.chg.size k.size, fun j hj hS => (k.block j (Nat.lt_of_lt_of_le hj h.lw)).trans (h.chg.block j hj hS)⟩, (k.block _ (lt h.bx1)).trans h.bx1, (k.block _ (lt h.bx2)).trans h.bx2, ownsRow_chg (S := fun _ => False) h.own1 (.of_below k) (fun _ _ => id), ownsRow_chg (S := fun _ => False) h.own2 (.of_below k) (fun _ _ => id), h.apart, Nat.le_trans h.le k.size, Nat.le_trans h.lw k.size, ⟨Nat.le_trans h.kp.size k.size, fun j o hB hj ho => by
    have h1 := h.kp.same j o hB hj ho
    exact (k.block _ (lt h1)).trans h1⟩⟩
theorem frz_blk {w : World} {b : Nat} {cs : Array Value} {e : TypeId} (h : w.heap[b]? = some (.cells cs e (0, 0))) (i : Nat) : w.frozen? ⟨b, i, none⟩ = false := by simp [World.frozen?, h]
theorem AqS.c1 {W Wc : World} {B b1 b2 : Nat} {v0 u0 v u : Value} {rs cs : List Int} (h : AqS W Wc B b1 b2 v0 u0 v u rs cs) : Wc.cell? ⟨b1, 0, none⟩ = some v0 := (cell_of_block h.bx1 0).trans rfl
theorem AqS.f1 {W Wc : World} {B b1 b2 : Nat} {v0 u0 v u : Value} {rs cs : List Int} (h : AqS W Wc B b1 b2 v0 u0 v u rs cs) : Wc.frozen? ⟨b1, 0, none⟩ = false := frz_blk h.bx1 0
theorem AqS.c2 {W Wc : World} {B b1 b2 : Nat} {v0 u0 v u : Value} {rs cs : List Int} (h : AqS W Wc B b1 b2 v0 u0 v u rs cs) (y : Value) (hne : b1 ≠ b2) : (Wc.setCell ⟨b1, 0, none⟩ y).cell? ⟨b2, 0, none⟩ = some u0 := (cell_of_block ((blk_setCell_other _ _ _ _ (fun e => hne e.symm)).trans h.bx2) 0).trans rfl
theorem AqS.f2 {W Wc : World} {B b1 b2 : Nat} {v0 u0 v u : Value} {rs cs : List Int} (h : AqS W Wc B b1 b2 v0 u0 v u rs cs) (y : Value) (hne : b1 ≠ b2) : (Wc.setCell ⟨b1, 0, none⟩ y).frozen? ⟨b2, 0, none⟩ = false := frz_blk ((blk_setCell_other _ _ _ _ (fun e => hne e.symm)).trans h.bx2) 0
theorem AqS.fin {w W Wc : World} {B b1 b2 : Nat} {v0 u0 v u : Value} {rs cs : List Int} (h : AqS W Wc B b1 b2 v0 u0 v u rs cs) (hb : Below w.heap.size w W) (hwB : w.heap.size ≤ B) (hb1 : w.heap.size ≤ b1) (hb2 : w.heap.size ≤ b2) (hne : b1 ≠ b2) (l1 : ∀ j, v0.ownBlock = some j → B ≤ j) (l2 : ∀ j, u0.ownBlock = some j → B ≤ j) :
    KeepsFrom B W ((Wc.setCell ⟨b1, 0, none⟩ v).setCell ⟨b2, 0, none⟩ u) ∧ KpY (fun j => j = b1 ∨ j = b2) B W ((Wc.setCell ⟨b1, 0, none⟩ v).setCell ⟨b2, 0, none⟩ u) ∧ PgI w ((Wc.setCell ⟨b1, 0, none⟩ v).setCell ⟨b2, 0, none⟩ u) B b1 b2 rs cs := by
  have c1 : Chg (fun j => j = b1 ∨ j = b2) Wc ((Wc.setCell ⟨b1, 0, none⟩ v).setCell ⟨b2, 0, none⟩ u) := (Chg.of_set (S := fun j => j = b1 ∨ j = b2) _ _ _ _ (.inl rfl)).trans (Chg.of_set (S := fun j => j = b1 ∨ j = b2) _ _ _ _ (.inr rfl))
  have c0 : KpY (fun j => j = b1 ∨ j = b2) B W ((Wc.setCell ⟨b1, 0, none⟩ v).setCell ⟨b2, 0, none⟩ u) := by
    refine ⟨c1.os.trans h.chg.os, c1.tape.trans h.chg.tape, c1.output.trans h.chg.output, Nat.le_trans h.chg.size c1.size, fun j hj hS => ?_⟩
    rw [c1.block j (Nat.lt_of_lt_of_le hj h.lw) (fun e => hS (.inl e)), h.chg.block j hj (fun e => hS ?_)]
    rcases e with e | e | e
    · exact .inr (l1 j e)
    · exact .inr (l2 j e)
    · exact .inl (.inl e)
  have r1 : (Wc.setCell ⟨b1, 0, none⟩ v).heap[b1]? = some (.cells #[v] 23 (0, 0)) := by simp [World.setCell, Array.getElem?_modify, h.bx1]
  have r2 : (Wc.setCell ⟨b1, 0, none⟩ v).heap[b2]? = some (.cells #[u0] 23 (0, 0)) := by rw [blk_setCell_other _ _ _ _ (fun e => hne e.symm)]; exact h.bx2
  have o1 := ownsRow_chg h.own1 c1 (fun j hj e => by rcases e with rfl | rfl; exact own_neP h.own1 h.bx1 (by decide) hj; exact own_neP h.own1 h.bx2 (by decide) hj)
  have o2 := ownsRow_chg h.own2 c1 (fun j hj e => by rcases e with rfl | rfl; exact own_neP h.own2 h.bx1 (by decide) hj; exact own_neP h.own2 h.bx2 (by decide) hj)
  refine ⟨h.kp.trans ⟨c1.size, fun j o hB hj ho => ?_⟩, c0, ⟨hb.trans (c0.below hb.size (fun j hj e => by rcases e with (e | e) | e <;> omega)), ⟨v, u, ⟨?_, ?_⟩, o1, o2, h.apart⟩, Nat.le_trans h.le c1.size⟩⟩
  · refine (c1.block j (Array.getElem?_eq_some_iff.1 hj).1 (fun e => ?_)).trans hj
    rcases e with rfl | rfl
    · rw [h.bx1] at hj; cases hj; cases ho
    · rw [h.bx2] at hj; cases hj; cases ho
  · rw [blk_setCell_other _ _ _ _ hne]; exact r1
  · simp [World.setCell, Array.getElem?_modify] at r2 ⊢
    rw [r2]
    simp
theorem own_slG {w : World} {base n : Nat} {e : TypeId} {v : Value} {xs : List Int} (h : w.ownsRow base e 1 v n (valsI xs)) : ∃ a c, v = .slice a n c ∧ SlI w a n c xs := by
  have hl : xs.length = n := by have := h.1; simpa [valsI] using this
  rcases h.2 with ⟨rfl, rfl⟩ | ⟨b, cap, cur, rfl, h4, h5, h6, h7, h8, h9⟩
  · have : xs = [] := List.eq_nil_of_length_eq_zero hl
    subst this
    exact ⟨none, 0, rfl, SlI.nil _⟩
  · refine ⟨_, _, rfl, ⟨hl, h6, h7, .inr ⟨b, 0, rfl, fun i hi => ?_⟩⟩⟩
    rw [Nat.zero_add, cell_of_block h5]
    have : (cur.toList.take (n * 1))[i]? = (valsI xs)[i]? := by rw [h9]
    rw [List.getElem?_take_of_lt (by omega)] at this
    rw [← Array.getElem?_toList, this]
    simp [valsI, List.getD, hi]
theorem kpY_t {Z : Nat → Prop} {n₀ : Nat} {A B C : World} (h : KpY Z n₀ A B) (k : KpY Z n₀ B C) : KpY Z n₀ A C := Chg.trans h k
theorem kpY_b {Z : Nat → Prop} {n₀ : Nat} {w : World} (hn : n₀ ≤ w.heap.size) (W : World) (l : Nat) (o o' : Obj) (hl : w.heap.size ≤ l) (h : W.heap[l]? = some o) (_ : o.isCells = false) (_ : o.isWalk = false) : KpY Z n₀ W (W.putObj l o') :=
  ⟨rfl, rfl, rfl, by simp, fun k hk hs => World.putObj_heap_other (fun e => hs (.inr (by omega)))⟩
end Go.Proofs.YtgjokididdffhaaGreat
namespace Go.Proofs.YtgjokididdffhaaGreat
open Go.RowKit Go.Deep
set_option linter.unusedVariables false
set_option maxRecDepth 100000 in
set_option maxHeartbeats 16000000 in
theorem pgraph_any (n b : Nat) (Q : Nat → Bool) (P : Nat → Nat → Prop) (w : World) (hn : n ≤ 128) (hR : RoV w b 16384 (fun i => .bool (Q i))) (hP : ∀ u v, u < n → v < n → ((Q (u * 128 + v) = true ∧ u ≠ v) ↔ P u v)) :
    Calls Tryz.prog 84 #[.pointer (some ⟨b, 0, none⟩), .int .i64 (n : Int)] w fun e w' => GpP w w' e n (grS P n n) (grC P n n) := by
  have hO0 := BoxP.made w #[.int .i64 0, .int .i64 0, .slice none 0 0, .slice none 0 0] 25
  obtain ⟨wo, hwo⟩ : ∃ x, w.alloc (.cells #[.int .i64 0, .int .i64 0, .slice none 0 0, .slice none 0 0] 25) = x := ⟨_, rfl⟩
  have bbo : Below w.heap.size w wo := by rw [← hwo]; exact (Below.refl _ _).alloc (Nat.le_refl _) _
  rw [hwo] at hO0
  obtain ⟨i64, hi, hz, hs, hb⟩ := info_parts Tryz.info_i64
  have HI := hide (And.intro hi (And.intro hz (And.intro hs hb)))
  have hone : ∀ y : Int, ∀ z ∈ [Value.int .i64 y], z.oneCell' = true := by intro y z hz; simp at hz; subst hz; rfl
  have hlt2 : w.heap.size < wo.heap.size := hO0.lt
  have HX := hide (And.intro hO0 (hR.below bbo))
  have HB := hide bbo
  have HWB := hide (Nat.le_refl w.heap.size)
  have HPP := hide hP
  have hnn : n * n ≤ 16384 := Nat.mul_le_mul hn hn
  have HP0 := hide (show PbI wo ((wo.alloc (.cells #[.int .i64 0] 3)).alloc (.cells #[.int .i64 (n : Int), .int .i64 (n : Int), .slice (some ⟨wo.heap.size, 0, none⟩) 1 1, .slice none 0 0] 25)) wo.heap.size (wo.heap.size + 1) (n : Int) (.slice (some ⟨wo.heap.size, 0, none⟩) 1 1) (.slice none 0 0) [0] [] from by
    have e : (wo.alloc (.cells #[.int .i64 0] 3)).heap.size = wo.heap.size + 1 := by simp
    refine ⟨?_, ⟨rfl, .inr ⟨wo.heap.size, 1, #[.int .i64 0], rfl, Nat.le_refl _, ?_, Nat.le_refl _, by decide, rfl, rfl⟩⟩, World.ownsRow_nil _ _ _ _, fun g hg hu => (by simp [Value.ownBlock] at hu), ((Below.refl _ _).alloc (Nat.le_refl _) _).alloc (by simp) _, by simp; omega, by omega⟩
    · have := alloc_block (wo.alloc (.cells #[.int .i64 0] 3)) (.cells #[.int .i64 (n : Int), .int .i64 (n : Int), .slice (some ⟨wo.heap.size, 0, none⟩) 1 1, .slice none 0 0] 25)
      rw [e] at this
      exact this
    · exact (((Below.refl (wo.alloc (.cells #[.int .i64 0] 3)).heap.size _).alloc (Nat.le_refl _) _).block _ (by simp)).trans (alloc_block _ _))
  clear hi hz hs hb bbo hO0 hR hP
  go_enter Tryz.func84, Tryz.ntmps84
  go_wp2_with fail
  generalize (wo.alloc (Obj.cells #[Value.int IntKind.i64 0] 3)).alloc (Obj.cells #[Value.int IntKind.i64 (n : Int), Value.int IntKind.i64 (n : Int), Value.slice (some ⟨wo.heap.size, 0, none⟩) 1 1, Value.slice none 0 0] 25) = w0 at *
  obtain ⟨X, hX⟩ : ∃ X, wo.heap.size + 1 = X := ⟨_, rfl⟩
  rw [hX] at HP0 ⊢
  have HXX := hide hX
  clear hX
  have HBX := hide (show ∀ W, Below wo.heap.size wo W → BoxP W w.heap.size [.int .i64 0, .int .i64 0, .slice none 0 0, .slice none 0 0] ∧ RoV W b 16384 (fun i => .bool (Q i)) from fun W k => ⟨(unhide HX).1.below k, (unhide HX).2.below k⟩)
  go_loopw [13, 6] (fun kv _ wr => ∃ k : Nat, k ≤ n ∧ kv = .int .i64 (k : Int) ∧ Hid (∃ vS vC, PbI wo wr wo.heap.size X (n : Int) vS vC (grS P n k) (grC P n k))) (fun kv _ _ => n - (intOf kv).toNat)
  case atStart => exact ⟨0, Nat.zero_le _, rfl, hide ⟨_, _, unhide HP0⟩⟩
  case round =>
    obtain ⟨k, hk, rfl, HK⟩ := hrel
    by_cases hlt : k < n
    · have hlt' : (k : Int) < (n : Int) := by omega
      obtain ⟨vS, vC, hPb⟩ := unhide HK
      have hbx := unhide HBX wr hPb.bel
      have HK0 := hide (show ∃ vS vC, PbI wo wr wo.heap.size X (n : Int) vS vC (grS P n k) (grC P n k ++ grR P k 0) from ⟨vS, vC, by rw [show grR P k 0 = [] from rfl, List.append_nil]; exact hPb⟩)
      clear hPb hbx HK
      go_wp2_with fail
      go_loopw [17, 7] (fun iv _ wq => ∃ v : Nat, v ≤ n ∧ iv = .int .i64 (v : Int) ∧ Hid (∃ vS vC, PbI wo wq wo.heap.size X (n : Int) vS vC (grS P n k) (grC P n k ++ grR P k v))) (fun iv _ _ => n - (intOf iv).toNat)
      case atStart => exact ⟨0, Nat.zero_le _, rfl, HK0⟩
      case round =>
        obtain ⟨v, hv, rfl, HV⟩ := hrel
        obtain ⟨vS, vC, hPb⟩ := unhide HV
        have hbx := unhide HBX wr hPb.bel
        have hCl : (grC P n k ++ grR P k v).length ≤ 16384 := by
          have h1 := grC_len P n k
          have h2 := grR_len P k v
          have h3 : (k + 1) * n ≤ n * n := Nat.mul_le_mul_right _ hlt
          rw [Nat.add_mul, Nat.one_mul] at h3
          rw [List.length_append]
          omega
        by_cases hin : v < n
        · have hin' : (v : Int) < (n : Int) := by omega
          have hQ := unhide HPP k v hlt hin
          have hcell : wr.cell? ⟨b, k * 128 + v, none⟩ = some (.bool (Q (k * 128 + v))) := (hbx.2 (k * 128 + v) (by omega)).1
          obtain ⟨bq, hbq⟩ : ∃ bq, Q (k * 128 + v) = bq := ⟨_, rfl⟩
          rw [hbq] at hcell hQ
          obtain ⟨bn, hbn⟩ : ∃ bn, ((k : Int) != (v : Int)) = bn := ⟨_, rfl⟩
          have HR := hide (show grR P k (v + 1) = grR P k v ++ (if (bq && bn) = true then [(v : Int)] else []) from by
            simp only [grR]
            have hb2 : bn = true ↔ k ≠ v := by rw [← hbn]; simp; omega
            have : tb (P k v) = (bq && bn) := by
              cases bq
              · exact tb_no (fun z => by have := (hQ.2 z).1; cases this)
              · cases bn
                · exact tb_no (fun z => by have := hb2.2 (hQ.2 z).2; cases this)
                · exact tb_yes (hQ.1 ⟨rfl, hb2.1 rfl⟩)
            rw [this])
          have HPb := hide hPb
          clear hPb hbx hQ hbq
          by_cases hc1 : bq = false
          · subst hc1
            go_wp2_with fail
            exact ⟨⟨v + 1, by omega, by (first | rfl | go_num), hide ⟨vS, vC, by have h9 := unhide HR; simp at h9; rw [h9]; exact unhide HPb⟩⟩, by simp [intOf]; omega⟩
          by_cases hc2 : bn = false
          · obtain rfl : bq = true := by cases bq; exact absurd rfl hc1; rfl
            subst hc2
            go_wp2_with fail
            exact ⟨⟨v + 1, by omega, by (first | rfl | go_num), hide ⟨vS, vC, by have h9 := unhide HR; simp at h9; rw [h9]; exact unhide HPb⟩⟩, by simp [intOf]; omega⟩
          · obtain rfl : bq = true := by cases bq; exact absurd rfl hc1; rfl
            obtain rfl : bn = true := by cases bn; exact absurd rfl hc2; rfl
            clear hc1 hc2
            have HP3 := HPb
            have HR2 := hide (show grR P k (v + 1) = grR P k v ++ [(v : Int)] from by have := unhide HR; simpa using this)
            have x3 := (cell_of_block (unhide HP3).box 3).trans (show _ = some vC from rfl)
            have hle := (unhide HP3).le
            obtain ⟨C, hC⟩ : ∃ C, grC P n k ++ grR P k v = C := ⟨_, rfl⟩
            rw [hC] at HP3 hCl
            have HC := hide hC
            have hmx : C.length + 1 ≤ maxLen := by unfold maxLen; omega
            have hby : (C.length + 1) * 8 ≤ 140737488355328 := by omega
            clear hC
            go_wp2_with (at_builtin; refine wpList_append_lies _ rfl _ _ 23 rfl wo.heap.size 3 i64 (.int .i64 0) 1 8 Tryz.underlying23 (unhide HI).1 (unhide HI).2.1 (unhide HI).2.2.1 (unhide HI).2.2.2 rfl (by decide) vC C.length (valsI C) rfl ((unhide HP3).ownC.alloc _) ⟨wr.heap.size, 0, none⟩ 1 1 [.int .i64 (v : Int)] rfl rfl (World.news_of_block (alloc_block _ _)) (hone _) (by decide) hmx hby (by simp; omega) (wr.heap.size + 1) (by simp) ?_)
            intro g cap w4 hown hg hat hlt4
            have hXl := (Array.getElem?_eq_some_iff.1 (unhide HP3).box).1
            have hb4 : w4.heap[X]? = some (.cells #[.int .i64 (n : Int), .int .i64 (n : Int), vS, vC] 25 (0, 0)) := (hg.block X (by simp; omega) (fun e => own_neB (unhide HP3).ownC (unhide HP3).box (by decide) e.symm)).trans ((((Below.refl _ _).alloc (Nat.le_refl _) _).block X hXl).trans (unhide HP3).box)
            have y3 := (cell_of_block hb4 3).trans (show _ = some vC from rfl)
            have z3 : w4.frozen? ⟨X, 3, none⟩ = false := by simp [World.frozen?, hb4]
            have HP4 := hide (((unhide HP3).below ((Below.refl _ _).alloc (Nat.le_refl _) _)).appC hown hg (by rcases hat with e | e; exact .inl e; exact .inr (by simpa using e)))
            clear hown hg hat hlt4 hb4 x3 hXl
            go_wp2_with fail
            refine ⟨⟨v + 1, by omega, by (first | rfl | go_num), hide ⟨vS, .slice (some ⟨g, 0, none⟩) (C.length + 1) cap, ?_⟩⟩, by simp [intOf]; omega⟩
            rw [unhide HR2, ← List.append_assoc, unhide HC]
            exact unhide HP4
        · obtain rfl : v = n := by omega
          have hin' : ¬ (v : Int) < (v : Int) := by omega
          have HPb := hide hPb
          have x2 := (cell_of_block hPb.box 2).trans (show _ = some vS from rfl)
          have x3 := (cell_of_block hPb.box 3).trans (show _ = some vC from rfl)
          have hle := hPb.le
          obtain ⟨aC, cC, hvC, _⟩ := own_slI hPb.ownC
          have hSl : (grS P v k).length ≤ 16384 := by rw [grS_len]; omega
          have HE := hide (show grC P v (k + 1) = grC P v k ++ grR P k v from rfl)
          obtain ⟨C, hC⟩ : ∃ C, grC P v k ++ grR P k v = C := ⟨_, rfl⟩
          obtain ⟨S, hS⟩ : ∃ S, grS P v k = S := ⟨_, rfl⟩
          rw [hC] at HPb hvC hCl HE
          rw [hS] at HPb hSl
          have HS := hide hS
          have hmx : S.length + 1 ≤ maxLen := by unfold maxLen; omega
          have hby : (S.length + 1) * 8 ≤ 140737488355328 := by omega
          subst hvC
          clear hPb hbx hC hS
          go_wp2_with (at_builtin; refine wpList_append_lies _ rfl _ _ 23 rfl wo.heap.size 3 i64 (.int .i64 0) 1 8 Tryz.underlying23 (unhide HI).1 (unhide HI).2.1 (unhide HI).2.2.1 (unhide HI).2.2.2 rfl (by decide) vS S.length (valsI S) rfl ((unhide HPb).ownS.alloc _) ⟨wr.heap.size, 0, none⟩ 1 1 [.int .i64 (C.length : Int)] rfl rfl (World.news_of_block (alloc_block _ _)) (hone _) (by decide) hmx hby (by simp; omega) (wr.heap.size + 1) (by simp) ?_)
          intro g cap w4 hown hg hat hlt4
          have hXl := (Array.getElem?_eq_some_iff.1 (unhide HPb).box).1
          have hb4 : w4.heap[X]? = some (.cells #[.int .i64 (v : Int), .int .i64 (v : Int), vS, .slice aC C.length cC] 25 (0, 0)) := (hg.block X (by simp; omega) (fun e => own_neB (unhide HPb).ownS (unhide HPb).box (by decide) e.symm)).trans ((((Below.refl _ _).alloc (Nat.le_refl _) _).block X hXl).trans (unhide HPb).box)
          have y2 := (cell_of_block hb4 2).trans (show _ = some vS from rfl)
          have z2 : w4.frozen? ⟨X, 2, none⟩ = false := by simp [World.frozen?, hb4]
          have HP4 := hide (((unhide HPb).below ((Below.refl _ _).alloc (Nat.le_refl _) _)).appS hown hg (by rcases hat with e | e; exact .inl e; exact .inr (by simpa using e)))
          clear hown hg hat hlt4 hb4 x2 x3 hXl
          go_wp2_with fail
          refine ⟨⟨k + 1, by omega, by (first | rfl | go_num), hide ⟨.slice (some ⟨g, 0, none⟩) (S.length + 1) cap, .slice aC C.length cC, ?_⟩⟩, by simp [intOf]; omega⟩
          rw [show grS P v (k + 1) = grS P v k ++ [((grC P v (k + 1)).length : Int)] from rfl, unhide HE, unhide HS]
          exact unhide HP4
    · obtain rfl : k = n := by omega
      have hlt' : ¬ (k : Int) < (k : Int) := by omega
      obtain ⟨vS, vC, hPb⟩ := unhide HK
      have hbx := unhide HBX wr hPb.bel
      obtain ⟨aS, cS, hvS, sS⟩ := own_slI hPb.ownS
      obtain ⟨aC, cC, hvC, sC⟩ := own_slI hPb.ownC
      subst hvS hvC
      have x0 := (cell_of_block hPb.box 0).trans (show _ = some (Value.int .i64 (k : Int)) from rfl)
      have x1 := (cell_of_block hPb.box 1).trans (show _ = some (Value.int .i64 (k : Int)) from rfl)
      have x2 := (cell_of_block hPb.box 2).trans (show _ = some (Value.slice aS (grS P k k).length cS) from rfl)
      have x3 := (cell_of_block hPb.box 3).trans (show _ = some (Value.slice aC (grC P k k).length cC) from rfl)
      have y0 := (hbx.1.all 0 _ rfl).1
      have y1 := (hbx.1.all 1 _ rfl).1
      have y2 := (hbx.1.all 2 _ rfl).1
      have y3 := (hbx.1.all 3 _ rfl).1
      have f0 := (hbx.1.all 0 _ rfl).2
      have f1 := (hbx.1.all 1 _ rfl).2
      have f2 := (hbx.1.all 2 _ rfl).2
      have f3 := (hbx.1.all 3 _ rfl).2
      have HO := hide hbx.1
      have HPb := hide hPb
      have HSS := hide (And.intro sS sC)
      clear hPb hbx HK sS sC
      go_wp2_with fail
      have hf := ((((unhide HO).put 0 (.int .i64 (k : Int))).put 1 (.int .i64 (k : Int))).put 2 (.slice aS (grS P k k).length cS)).put 3 (.slice aC (grC P k k).length cC)
      have t0 := (hf.all 0 _ rfl).1
      have t1 := (hf.all 1 _ rfl).1
      have t2 := (hf.all 2 _ rfl).1
      have t3 := (hf.all 3 _ rfl).1
      have c4 : Chg (fun j => j = w.heap.size) wr ((((wr.setCell ⟨w.heap.size, 0, none⟩ (.int .i64 (k : Int))).setCell ⟨w.heap.size, 1, none⟩ (.int .i64 (k : Int))).setCell ⟨w.heap.size, 2, none⟩ (.slice aS (grS P k k).length cS)).setCell ⟨w.heap.size, 3, none⟩ (.slice aC (grC P k k).length cC)) := (((Chg.of_set (S := fun j => j = w.heap.size) _ _ _ _ rfl).trans (Chg.of_set (S := fun j => j = w.heap.size) _ _ _ _ rfl)).trans (Chg.of_set (S := fun j => j = w.heap.size) _ _ _ _ rfl)).trans (Chg.of_set (S := fun j => j = w.heap.size) _ _ _ _ rfl)
      generalize (((wr.setCell ⟨w.heap.size, 0, none⟩ (.int .i64 (k : Int))).setCell ⟨w.heap.size, 1, none⟩ (.int .i64 (k : Int))).setCell ⟨w.heap.size, 2, none⟩ (.slice aS (grS P k k).length cS)).setCell ⟨w.heap.size, 3, none⟩ (.slice aC (grC P k k).length cC) = wf at *
      refine bodyPost_ret (by simp [results, Tryz.results84, go_sem, t0, t1, t2, t3]; try rfl) rfl ?_
      have hS9 := (unhide HPb).ownS
      have hC9 := (unhide HPb).ownC
      refine ⟨aS, cS, aC, cC, rfl, (unhide HSS).1.chg c4 (fun z hz _ e => ?_), (unhide HSS).2.chg c4 (fun z hz _ e => ?_), ?_, fun z hz => ?_, fun z hz => ?_⟩
      · have := (own_ge hS9 z.block (by rw [hz]; rfl)).1; omega
      · have := (own_ge hC9 z.block (by rw [hz]; rfl)).1; omega
      · exact ((unhide HB).trans ((unhide HPb).bel.mono (unhide HB).size)).trans (c4.below (Nat.le_trans (unhide HB).size (unhide HPb).bel.size) (fun j hj e => by have := unhide HWB; omega))
      · have := (own_ge hS9 z.block (by rw [hz]; rfl)).1; have := unhide HWB; omega
      · have := (own_ge hC9 z.block (by rw [hz]; rfl)).1; have := unhide HWB; omega
def MeP (xs : List Int) (i j : Nat) (x : Nat) : Prop := ∃ p q : Nat, (p < i ∧ q < xs.length ∨ p = i ∧ q < j) ∧ xs.getD p 0 * 128 + xs.getD q 0 = (x : Int)
theorem MeP.step {xs : List Int} {i j : Nat} {c : Nat} (hj : j < xs.length) (hc : xs.getD i 0 * 128 + xs.getD j 0 = (c : Int)) (x : Nat) : MeP xs i (j + 1) x ↔ (MeP xs i j x ∨ x = c) := by
  constructor
  · rintro ⟨p, q, h, e⟩
    rcases h with h | ⟨h1, h2⟩
    · exact .inl ⟨p, q, .inl h, e⟩
    · by_cases e2 : q = j
      · subst h1 e2
        right
        omega
      · exact .inl ⟨p, q, .inr ⟨h1, by omega⟩, e⟩
  · rintro (⟨p, q, h, e⟩ | e)
    · rcases h with h | ⟨h1, h2⟩
      · exact ⟨p, q, .inl h, e⟩
      · exact ⟨p, q, .inr ⟨h1, by omega⟩, e⟩
    · exact ⟨i, j, .inr ⟨rfl, by omega⟩, by rw [e]; exact hc⟩
theorem MeP.next {xs : List Int} {i x : Nat} : MeP xs (i + 1) 0 x ↔ MeP xs i xs.length x := by
  constructor
  · rintro ⟨p, q, h, e⟩
    rcases h with ⟨h1, h2⟩ | ⟨h1, h2⟩
    · by_cases e2 : p = i
      · exact ⟨p, q, .inr ⟨e2, h2⟩, e⟩
      · exact ⟨p, q, .inl ⟨by omega, h2⟩, e⟩
    · omega
  · rintro ⟨p, q, h, e⟩
    rcases h with ⟨h1, h2⟩ | ⟨h1, h2⟩
    · exact ⟨p, q, .inl ⟨by omega, h2⟩, e⟩
    · exact ⟨p, q, .inl ⟨by omega, h2⟩, e⟩
structure PrS (w W : World) (b : Nat) (P : Nat → Prop) : Prop where
  row : RoV W b 16384 (fun x => .bool (tb (P x)))
  chg : Chg (fun j => j = b) w W
theorem PrS.put {w W : World} {b : Nat} {P R : Nat → Prop} (h : PrS w W b P) (x : Nat) (hx : x < 16384) (e : ∀ y, R y ↔ (P y ∨ y = x)) : PrS w (W.setCell ⟨b, x, none⟩ (.bool true)) b R := by
  refine ⟨(h.row.put x (.bool true) hx).congr (fun i hi => ?_), h.chg.trans (Chg.of_set _ _ _ _ rfl)⟩
  by_cases c : i = x
  · simp only [c, if_true]
    rw [tb_yes ((e x).2 (.inr rfl))]
  · simp only [c, if_false]
    rw [tb_congr (show P i ↔ R i from ⟨fun p => (e i).2 (.inl p), fun q => ((e i).1 q).resolve_right c⟩)]
theorem PrS.congr {w W : World} {b : Nat} {P R : Nat → Prop} (h : PrS w W b P) (e : ∀ x, P x ↔ R x) : PrS w W b R := ⟨h.row.congr (fun i hi => by rw [tb_congr (e i)]), h.chg⟩
theorem PrS.drew {w W : World} {b : Nat} {P : Nat → Prop} (h : PrS w W b P) : PrS w W.drew b P := ⟨h.row.chg (S := fun _ => False) (Chg.of_drew _) (fun x => x), h.chg.trans (Chg.of_drew _)⟩
set_option maxRecDepth 100000 in
set_option maxHeartbeats 16000000 in
theorem pmeet_any (b : Nat) (a : Option Addr) (n c : Nat) (xs : List Int) (P : Nat → Prop) (w : World) (h : SlI w a n c xs) (hn : n ≤ 17592186044416) (hx : ∀ i, i < n → 0 ≤ xs.getD i 0 ∧ xs.getD i 0 < 128) (hna : ∀ z, a = some z → xs ≠ [] → z.block ≠ b) (hS : RoV w b 16384 (fun x => .bool (tb (P x)))) :
    Calls Tryz.prog 83 #[.pointer (some ⟨b, 0, none⟩), .slice a n c] w fun e w' => (∃ v, e = .returned v) ∧ PrS w w' b (fun x => P x ∨ MeP xs n 0 x) := by
  have HL := hide h.len
  have HSl := hide (show ∀ W, Chg (fun j => j = b) w W → SlI W a n c xs from fun W k => h.chg k (fun z hz hne e => hna z hz hne e))
  have HX := hide hx
  have HS0 := hide hS
  clear h hx hna hS
  go_enter Tryz.func83, Tryz.ntmps83
  go_wp2_with fail
  go_loopw [10, 5] (fun kv _ wr => ∃ k : Nat, k ≤ n ∧ kv = .int .i64 (k : Int) ∧ Hid (PrS w wr b (fun x => P x ∨ MeP xs k 0 x))) (fun kv _ _ => n - (intOf kv).toNat)
  case atStart =>
    refine ⟨0, Nat.zero_le _, rfl, hide ⟨(unhide HS0).congr (fun i hi => ?_), Chg.refl _ _⟩⟩
    rw [tb_congr (show P i ↔ (P i ∨ MeP xs 0 0 i) from ⟨.inl, fun z => z.elim id (fun ⟨p, q, h, _⟩ => by omega)⟩)]
  case round =>
    obtain ⟨k, hk, rfl, HK⟩ := hrel
    by_cases hlt : k < n
    · have hlt' : (k : Int) < (n : Int) := by omega
      obtain ⟨bb, off, rfl, hc⟩ := (unhide HSl wr (unhide HK).chg).at (by omega)
      have sk := hc k hlt
      have hx1 := unhide HX k hlt
      obtain ⟨U, hU⟩ : ∃ U : Nat, xs.getD k 0 = (U : Int) := ⟨(xs.getD k 0).toNat, by omega⟩
      rw [hU] at sk hx1
      have HU := hide hU
      have hU8 : (U : Int) < 128 := hx1.2
      clear hc hU hx1
      go_wp2_with fail
      go_loopw [16, 7] (fun iv _ wq => ∃ v : Nat, v ≤ n ∧ iv = .int .i64 (v : Int) ∧ Hid (PrS w wq b (fun x => P x ∨ MeP xs k v x))) (fun iv _ _ => n - (intOf iv).toNat)
      case atStart => exact ⟨0, Nat.zero_le _, rfl, HK⟩
      case round =>
        clear sk
        obtain ⟨v, hv, rfl, HV⟩ := hrel
        by_cases hin : v < n
        · have hin' : (v : Int) < (n : Int) := by omega
          obtain ⟨bb', off', e1, hc⟩ := (unhide HSl wr (unhide HV).chg).at (by omega)
          cases e1
          have sv := hc v hin
          have hx2 := unhide HX v hin
          obtain ⟨V, hVV⟩ : ∃ V : Nat, xs.getD v 0 = (V : Int) := ⟨(xs.getD v 0).toNat, by omega⟩
          rw [hVV] at sv hx2
          have hV8 : (V : Int) < 128 := hx2.2
          have hcell := (unhide HV).row (U * 128 + V) (by omega)
          have hc1 := hcell.1
          have hc2 := hcell.2
          have HN := hide (((unhide HV).put (R := fun x => P x ∨ MeP xs k (v + 1) x) (U * 128 + V) (by omega) (fun y => by
            have h9 := MeP.step (xs := xs) (i := k) (j := v) (c := U * 128 + V) (by rw [unhide HL]; exact hin) (by rw [unhide HU, hVV]; omega) y
            constructor
            · rintro (z | z)
              · exact .inl (.inl z)
              · rcases h9.1 z with z | z
                · exact .inl (.inr z)
                · exact .inr z
            · rintro ((z | z) | z)
              · exact .inl z
              · exact .inr (h9.2 (.inl z))
              · exact .inr (h9.2 (.inr z)))))
          clear hc hcell hVV hx2
          go_wp2_with fail
          try go_region
          all_goals (try go_wp2_with fail)
          all_goals exact ⟨⟨v + 1, by omega, by (first | rfl | go_num), hide (by first | exact unhide HN | exact (unhide HN).drew)⟩, by simp [intOf]; omega⟩
        · obtain rfl : v = n := by omega
          have hin' : ¬ (v : Int) < (v : Int) := by omega
          go_wp2_with fail
          refine ⟨⟨k + 1, by omega, by (first | rfl | go_num), hide ((unhide HV).congr (fun x => ?_))⟩, by simp [intOf]; omega⟩
          rw [MeP.next, unhide HL]
    · obtain rfl : k = n := by omega
      have hlt' : ¬ (k : Int) < (k : Int) := by omega
      go_wp2_with fail
      go_end0
      exact ⟨⟨_, rfl⟩, unhide HK⟩
def subV (a : Option Addr) (c X Y : Nat) : Value := .slice (if c = X then a else Option.map (fun x => x.add X) a) (Y - X) (c - X)
set_option maxRecDepth 100000 in
set_option maxHeartbeats 16000000 in
theorem crow_any (R : Nat) (width : Int) (a1 a2 : Option Addr) (n1 c1 n2 c2 : Nat) (st cols : List Int) (r X Y : Nat) (w : World) (h1 : SlI w a1 n1 c1 st) (h2 : SlI w a2 n2 c2 cols) (hb1 : n1 ≤ 17592186044416) (hb2 : n2 ≤ 17592186044416) (hm : MayP (R : Int) width st cols) (hr : r < R) (hR : RowAt st cols width r X Y) :
    Calls Tryz.prog 115 #[patV (R : Int) width a1 n1 c1 a2 n2 c2, .int .i64 (r : Int)] w fun e w' => e = .returned (subV a2 c2 X Y) ∧ Below w.heap.size w w' := by
  obtain ⟨wb, hwb⟩ : ∃ x, w.alloc (.cells #[.int .i64 (R : Int), .int .i64 width, .slice a1 n1 c1, .slice a2 n2 c2] 25) = x := ⟨_, rfl⟩
  have bb : Below w.heap.size w wb := by rw [← hwb]; exact (Below.refl _ _).alloc (Nat.le_refl _) _
  have hT := BoxP.made w #[.int .i64 (R : Int), .int .i64 width, .slice a1 n1 c1, .slice a2 n2 c2] 25
  rw [hwb] at hT
  have p0 := (hT.all 0 _ rfl).1
  have p1 := (hT.all 1 _ rfl).1
  have p2 := (hT.all 2 _ rfl).1
  have p3 := (hT.all 3 _ rfl).1
  have hln := h1.len
  have hlc := h2.len
  have hl2 := hm.head.len
  have hnc := h2.le
  have hfit := hm.head.fit
  obtain ⟨b1, o1, rfl, hc1⟩ := (h1.below bb).at (by omega)
  have sk := hc1 r (by omega)
  have sk1 := hc1 (r + 1) (by omega)
  rw [hR.hX] at sk
  rw [hR.hY] at sk1
  have hXY := hR.le
  have hYn := hR.lt
  have hn1 : n1 = R + 1 := by omega
  subst hn1
  have tr : (r : Int) < (R : Int) + 1 := by omega
  have tr1 : (r : Int) + 1 < (R : Int) + 1 := by omega
  have tXY : (X:Int) ≤ (Y:Int) := by omega
  have tYc : (Y:Int) ≤ (c2:Int) := by omega
  have hr8 : r < 128 := by omega
  have HB := hide bb
  clear hT bb hc1 hm hR h1 h2 hln hlc hl2 hfit
  unfold patV
  go_enter Tryz.func115, Tryz.ntmps115
  go_wp2_with fail
  try go_quiet (fail)
  all_goals (try go_wp2_with fail)
  all_goals (try go_ret)
  all_goals exact ⟨by simp_all [subV], by first | exact unhide HB | exact bel_drewN (unhide HB) _⟩
theorem Tryz.info_listI : (Tryz.prog.info? 23).map (fun i => (i.zero, i.size, i.bytes)) = some (some (.slice none 0 0), 1, 24) := by kernel_rfl
theorem make_listsI (n : Nat) (hn : n ≤ 1000000000) (w : World) : (Instr.makeSlice 56 (.int .i64 (n : Int)) (.int .i64 (n : Int))).run Tryz.prog w = .ok (.slice (some ⟨w.heap.size, 0, none⟩) n n) (w.alloc (.cells (madeCells #[.slice none 0 0] n) 23)) :=
  run_make_row' (P := Tryz.prog) 56 23 (.slice none 0 0) 24 Tryz.underlying56 Tryz.info_listI rfl .i64 .i64 n (by omega) (by omega) w
def rowV (st : List Int) (a2 : Option Addr) (c2 : Nat) (i : Nat) : Value := subV a2 c2 (st.getD i 0).toNat (st.getD (i + 1) 0).toNat
set_option maxRecDepth 100000 in
set_option maxHeartbeats 16000000 in
theorem crows_any (R : Nat) (width : Int) (a1 a2 : Option Addr) (n1 c1 n2 c2 : Nat) (st cols : List Int) (w : World) (h1 : SlI w a1 n1 c1 st) (h2 : SlI w a2 n2 c2 cols) (hb1 : n1 ≤ 17592186044416) (hb2 : n2 ≤ 17592186044416) (hm : MayP (R : Int) width st cols) :
    Calls Tryz.prog 82 #[patV (R : Int) width a1 n1 c1 a2 n2 c2] w fun e w' => ∃ b, w.heap.size ≤ b ∧ e = .returned (.slice (some ⟨b, 0, none⟩) R R) ∧ RoV w' b R (rowV st a2 c2) ∧ Below w.heap.size w w' := by
  obtain ⟨wb, hwb⟩ : ∃ x, w.alloc (.cells #[.int .i64 (R : Int), .int .i64 width, .slice a1 n1 c1, .slice a2 n2 c2] 25) = x := ⟨_, rfl⟩
  have bb : Below w.heap.size w wb := by rw [← hwb]; exact (Below.refl _ _).alloc (Nat.le_refl _) _
  have hT := BoxP.made w #[.int .i64 (R : Int), .int .i64 width, .slice a1 n1 c1, .slice a2 n2 c2] 25
  rw [hwb] at hT
  have p0 := (hT.all 0 _ rfl).1
  have hfit := hm.head.fit
  have hR8 : R ≤ 128 := by omega
  have hmk := make_listsI R (by omega) wb
  have hR := RoV.made wb R 23 (.slice none 0 0)
  obtain ⟨wm, hwm⟩ : ∃ x, wb.alloc (.cells (madeCells #[.slice none 0 0] R) 23) = x := ⟨_, rfl⟩
  have bm : Below wb.heap.size wb wm := by rw [← hwm]; exact (Below.refl _ _).alloc (Nat.le_refl _) _
  rw [hwm] at hR hmk
  have hbl : wb.heap.size < wm.heap.size := by rw [← hwm]; simp
  have hwl : w.heap.size < wb.heap.size := hT.lt
  have HT := hide (hT.below bm)
  have HR := hide hR
  have HB := hide (bb.trans (bm.mono bb.size))
  have HS := hide (And.intro h1 h2)
  have HM := hide hm
  have HL := hide (And.intro hbl hwl)
  clear hT bb bm hR hm h1 h2 hfit hbl hwl
  unfold patV
  go_enter Tryz.func82, Tryz.ntmps82
  go_wp2_with fail
  go_loopw [10, 4] (fun kv _ wr => ∃ k : Nat, k ≤ R ∧ kv = .int .i64 (k : Int) ∧ Hid (RoV wr wb.heap.size R (fun i => if i < k then rowV st a2 c2 i else .slice none 0 0)) ∧ Hid (BoxP wr w.heap.size [.int .i64 (R : Int), .int .i64 width, .slice a1 n1 c1, .slice a2 n2 c2]) ∧ Hid (Below w.heap.size w wr)) (fun kv _ _ => R - (intOf kv).toNat)
  case atStart =>
    exact ⟨0, Nat.zero_le _, rfl, HR, HT, HB⟩
  case round =>
    obtain ⟨k, hk, rfl, HK, HX, HW⟩ := hrel
    by_cases hlt : k < R
    · have hlt' : (k : Int) < (R : Int) := by omega
      obtain ⟨X, Y, hRow⟩ := (unhide HM).rowAt (k := k) hlt'
      have KR := hide (crow_any R width a1 a2 n1 c1 n2 c2 st cols k X Y wr ((unhide HS).1.below (unhide HW)) ((unhide HS).2.below (unhide HW)) hb1 hb2 (unhide HM) hlt hRow)
      unfold patV at KR
      have hV : rowV st a2 c2 k = subV a2 c2 X Y := by unfold rowV; rw [hRow.hX, hRow.hY]; simp
      unfold subV at KR hV
      obtain ⟨A, hA⟩ : ∃ A, (if c2 = X then a2 else Option.map (fun x => x.add X) a2) = A := ⟨_, rfl⟩
      rw [hA] at KR hV
      obtain ⟨m, hmm⟩ : ∃ m, Y - X = m := ⟨_, rfl⟩
      obtain ⟨d, hdd⟩ : ∃ d, c2 - X = d := ⟨_, rfl⟩
      rw [hmm, hdd] at KR hV
      have HV := hide hV
      clear hA hmm hdd
      have q0 := ((unhide HX).all 0 _ rfl).1
      have q1 := ((unhide HX).all 1 _ rfl).1
      have q2 := ((unhide HX).all 2 _ rfl).1
      have q3 := ((unhide HX).all 3 _ rfl).1
      clear hV hRow p0
      go_wp2_with fail
      refine (unhide KR).mono ?_
      rintro _ wk ⟨rfl, bk⟩
      have hKk := (unhide HK).below bk
      have hc1 := (hKk k hlt).1
      have hc2 := (hKk k hlt).2
      simp only [Nat.lt_irrefl, if_false] at hc1
      have HN := hide (show RoV (wk.setCell ⟨wb.heap.size, k, none⟩ (.slice A m d)) wb.heap.size R (fun i => if i < k + 1 then rowV st a2 c2 i else .slice none 0 0) from (hKk.put k (.slice A m d) hlt).congr (fun i hi => by
        by_cases e : i = k
        · subst e
          simp only [if_true, Nat.lt_succ_self]
          exact (unhide HV).symm
        · simp only [if_neg e]
          by_cases e2 : i < k
          · rw [if_pos e2, if_pos (by omega)]
          · rw [if_neg e2, if_neg (by omega)]))
      have HN2 := hide (((unhide HX).below bk).other (Y := wb.heap.size) k (.slice A m d) (by have := unhide HL; omega))
      have HN3 := hide (show Below w.heap.size w (wk.setCell ⟨wb.heap.size, k, none⟩ (.slice A m d)) from ((unhide HW).trans (bk.mono (unhide HW).size)).trans ((Chg.of_set (S := fun j => j = wb.heap.size) _ _ _ _ rfl).below (Nat.le_trans (unhide HW).size bk.size) (fun j hj e => by have := unhide HL; omega)))
      clear hKk bk KR q0 q1 q2 q3
      go_wp2_with fail
      exact ⟨⟨k + 1, by omega, by (first | rfl | go_num), HN, HN2, HN3⟩, by simp [intOf]; omega⟩
    · obtain rfl : k = R := by omega
      have hlt' : ¬ (k : Int) < (k : Int) := by omega
      go_wp2_with fail
      go_ret
      exact ⟨_, Nat.le_of_lt (unhide HL).2, rfl, (unhide HK).congr (fun i hi => by simp [hi]), unhide HW⟩
def fz0 : List Value := [.bool false, .bool false, .bool false, .bool false, .bool false, .bool false, .bool false, .bool false, .bool false, .bool false, .bool false, .bool false, .bool false, .bool false, .bool false, .bool false, .bool false, .bool false, .bool false, .bool false, .bool false, .bool false, .bool false, .bool false, .bool false, .bool false, .bool false, .bool false, .bool false, .bool false, .bool false, .bool false, .bool false, .bool false, .bool false, .bool false, .bool false, .bool false, .bool false, .bool false, .bool false, .bool false, .bool false, .bool false, .bool false, .bool false, .bool false, .bool false, .bool false, .bool false, .bool false, .bool false, .bool false, .bool false, .bool false, .bool false, .bool false, .bool false, .bool false, .bool false, .bool false, .bool false, .bool false, .bool false]
def fz1 : List Value := fz0.append fz0
def fz2 : List Value := fz1.append fz1
def fz3 : List Value := fz2.append fz2
def fz4 : List Value := fz3.append fz3
def fz5 : List Value := fz4.append fz4
def fz6 : List Value := fz5.append fz5
def fz7 : List Value := fz6.append fz6
def fz8 : List Value := fz7.append fz7
theorem fz_two {l : List Value} {n m : Nat} (h : l = List.replicate n (.bool false)) (hm : n + n = m) : l.append l = List.replicate m (.bool false) := by
  subst h hm
  exact List.replicate_append_replicate
theorem fz0_is : fz0 = List.replicate 64 (.bool false) := rfl
theorem fz1_is : fz1 = List.replicate 128 (.bool false) := fz_two fz0_is rfl
theorem fz2_is : fz2 = List.replicate 256 (.bool false) := fz_two fz1_is rfl
theorem fz3_is : fz3 = List.replicate 512 (.bool false) := fz_two fz2_is rfl
theorem fz4_is : fz4 = List.replicate 1024 (.bool false) := fz_two fz3_is rfl
theorem fz5_is : fz5 = List.replicate 2048 (.bool false) := fz_two fz4_is rfl
theorem fz6_is : fz6 = List.replicate 4096 (.bool false) := fz_two fz5_is rfl
theorem fz7_is : fz7 = List.replicate 8192 (.bool false) := fz_two fz6_is rfl
theorem fz8_is : fz8 = List.replicate 16384 (.bool false) := fz_two fz7_is rfl
theorem zc_pairs : Tryz.zeroCells137 = fz8.toArray := by kernel_rfl
theorem rep_at (l : List Value) (n i : Nat) (v : Value) (h : l = List.replicate n v) (hi : i < n) : l.toArray[i]? = some v := by subst h; simp [hi]
theorem RoV.pairs (w : World) : RoV (w.alloc (.cells Tryz.zeroCells137 137)) w.heap.size 16384 (fun _ => .bool false) := by
  intro i hi
  have hq : Tryz.zeroCells137[i]? = some (.bool false) := by rw [zc_pairs]; exact rep_at _ _ _ _ fz8_is hi
  exact ⟨by simp [hq], by simp⟩
def LsI (w : World) (L m : Nat) (ls : Nat → List Int) : Prop := ∀ i, i < m → ∃ a n c, w.cell? ⟨L, i, none⟩ = some (.slice a n c) ∧ SlI w a n c (ls i) ∧ n ≤ 17592186044416
def MtP (ls : Nat → List Int) (k x : Nat) : Prop := ∃ i, i < k ∧ MeP (ls i) (ls i).length 0 x
set_option maxRecDepth 100000 in
set_option maxHeartbeats 16000000 in
theorem cmeeting_any (L m n : Nat) (ls : Nat → List Int) (P : Nat → Nat → Prop) (w : World) (hm : m ≤ 128) (hn : n ≤ 128) (hL : LsI w L m ls) (hx : ∀ i, i < m → ∀ j, j < (ls i).length → 0 ≤ (ls i).getD j 0 ∧ (ls i).getD j 0 < 128) (hP : ∀ u v, u < n → v < n → ((MtP ls m (u * 128 + v) ∧ u ≠ v) ↔ P u v)) :
    Calls Tryz.prog 123 #[.slice (some ⟨L, 0, none⟩) m m, .int .i64 (n : Int)] w fun e w' => GpP w w' e n (grS P n n) (grC P n n) := by
  have hO0 := BoxP.made w #[.int .i64 0, .int .i64 0, .slice none 0 0, .slice none 0 0] 25
  obtain ⟨wo, hwo⟩ : ∃ x, w.alloc (.cells #[.int .i64 0, .int .i64 0, .slice none 0 0, .slice none 0 0] 25) = x := ⟨_, rfl⟩
  have bo : Below w.heap.size w wo := by rw [← hwo]; exact (Below.refl _ _).alloc (Nat.le_refl _) _
  rw [hwo] at hO0
  have hS0 := RoV.pairs wo
  obtain ⟨ws, hws⟩ : ∃ x, wo.alloc (.cells Tryz.zeroCells137 137) = x := ⟨_, rfl⟩
  have bs : Below wo.heap.size wo ws := by rw [← hws]; exact (Below.refl _ _).alloc (Nat.le_refl _) _
  rw [hws] at hS0
  have bws := bo.trans (bs.mono bo.size)
  have hO1 := hO0.below bs
  have HO := hide hO1
  have HLt := hide (show w.heap.size < wo.heap.size from hO0.lt)
  have HB := hide bws
  have HLs := hide hL
  have HX := hide hx
  have HP := hide hP
  have HS := hide hS0
  clear hO0 bo bs bws hO1 hL hx hP hS0
  go_enter Tryz.func123, Tryz.ntmps123
  go_wp2_with fail
  go_loopw [10, 7] (fun kv _ wr => ∃ k : Nat, k ≤ m ∧ kv = .int .i64 (k : Int) ∧ Hid (PrS ws wr wo.heap.size (MtP ls k))) (fun kv _ _ => m - (intOf kv).toNat)
  case atStart =>
    refine ⟨0, Nat.zero_le _, rfl, hide ⟨(unhide HS).congr (fun i hi => ?_), Chg.refl _ _⟩⟩
    rw [tb_no (show ¬ MtP ls 0 i from fun ⟨_, h, _⟩ => absurd h (Nat.not_lt_zero _))]
  case round =>
    obtain ⟨k, hk, rfl, HK⟩ := hrel
    by_cases hlt : k < m
    · have hlt' : (k : Int) < (m : Int) := by omega
      obtain ⟨a, q, c, hcell, hsl, hq⟩ := unhide HLs k hlt
      have hLl := World.block_lt_of_cell? _ _ hcell
      have cw : Chg (fun j => j = wo.heap.size) w wr := (Chg.of_below (unhide HB)).trans (unhide HK).chg
      have hsz := unhide HLt
      have hc1 := cw.cell (show ¬ L = wo.heap.size by simp at hLl; omega) hcell
      have hne : ∀ z, a = some z → ls k ≠ [] → z.block ≠ wo.heap.size := fun z e1 e2 => by have := hsl.block_lt e2 z e1; omega
      have KM := hide (pmeet_any wo.heap.size a q c (ls k) (MtP ls k) wr (hsl.chg cw (fun z e1 e2 => hne z e1 e2)) hq (fun i hi => unhide HX k hlt i (by rw [hsl.len]; exact hi)) hne (unhide HK).row)
      have HQ := hide hsl.len
      clear hcell hsl hLl cw hne hsz
      go_wp2_with fail
      refine (unhide KM).mono ?_
      rintro _ wk ⟨⟨v, rfl⟩, hpr⟩
      have HN := hide (show PrS ws wk wo.heap.size (MtP ls (k + 1)) from ⟨hpr.row.congr (fun i hi => by
        rw [tb_congr (show (MtP ls k i ∨ MeP (ls k) q 0 i) ↔ MtP ls (k + 1) i from ⟨fun z => z.elim (fun ⟨j, h, e⟩ => ⟨j, by omega, e⟩) (fun e => ⟨k, by omega, by rw [unhide HQ]; exact e⟩), fun ⟨j, h, e⟩ => by
          by_cases e2 : j = k
          · subst e2
            rw [unhide HQ] at e
            exact .inr e
          · exact .inl ⟨j, by omega, e⟩⟩)]), (unhide HK).chg.trans hpr.chg⟩)
      clear hpr KM hc1
      go_wp2_with fail
      exact ⟨⟨k + 1, by omega, by (first | rfl | go_num), HN⟩, by simp [intOf]; omega⟩
    · obtain rfl : k = m := by omega
      have hlt' : ¬ (k : Int) < (k : Int) := by omega
      have cw : Chg (fun j => j = wo.heap.size) w wr := (Chg.of_below (unhide HB)).trans (unhide HK).chg
      have KG := hide (pgraph_any n wo.heap.size (fun x => tb (MtP ls k x)) P wr hn (unhide HK).row (fun u v hu hv => by rw [tb_iff]; exact unhide HP u v hu hv))
      have hsz := unhide HLt
      have HOr := hide ((unhide HO).chg (unhide HK).chg (show ¬ w.heap.size = wo.heap.size by omega))
      have HCw := hide cw
      clear cw hsz
      go_wp2_with fail
      refine (unhide KG).mono ?_
      rintro _ wk ⟨b1, d1, b2, d2, rfl, g1, g2, bk, f1, f2⟩
      have hOk := (unhide HOr).below bk
      have q0 := (hOk.all 0 _ rfl).1
      have q1 := (hOk.all 1 _ rfl).1
      have q2 := (hOk.all 2 _ rfl).1
      have q3 := (hOk.all 3 _ rfl).1
      have r0 := (hOk.all 0 _ rfl).2
      have r1 := (hOk.all 1 _ rfl).2
      have r2 := (hOk.all 2 _ rfl).2
      have r3 := (hOk.all 3 _ rfl).2
      have HOk := hide hOk
      have HG := hide (And.intro g1 g2)
      have HBK := hide bk
      have HFr := hide (And.intro f1 f2)
      clear hOk g1 g2 bk KG f1 f2
      go_wp2_with fail
      have hf := ((((unhide HOk).put 0 (.int .i64 (n : Int))).put 1 (.int .i64 (n : Int))).put 2 (.slice b1 (grS P n n).length d1)).put 3 (.slice b2 (grC P n n).length d2)
      have t0 := (hf.all 0 _ rfl).1
      have t1 := (hf.all 1 _ rfl).1
      have t2 := (hf.all 2 _ rfl).1
      have t3 := (hf.all 3 _ rfl).1
      have cc : Chg (fun j => j = w.heap.size) wk ((((wk.setCell ⟨w.heap.size, 0, none⟩ (.int .i64 (n : Int))).setCell ⟨w.heap.size, 1, none⟩ (.int .i64 (n : Int))).setCell ⟨w.heap.size, 2, none⟩ (.slice b1 (grS P n n).length d1)).setCell ⟨w.heap.size, 3, none⟩ (.slice b2 (grC P n n).length d2)) := (((Chg.of_set (S := fun j => j = w.heap.size) _ _ _ _ rfl).trans (Chg.of_set (S := fun j => j = w.heap.size) _ _ _ _ rfl)).trans (Chg.of_set (S := fun j => j = w.heap.size) _ _ _ _ rfl)).trans (Chg.of_set (S := fun j => j = w.heap.size) _ _ _ _ rfl)
      generalize (((wk.setCell ⟨w.heap.size, 0, none⟩ (.int .i64 (n : Int))).setCell ⟨w.heap.size, 1, none⟩ (.int .i64 (n : Int))).setCell ⟨w.heap.size, 2, none⟩ (.slice b1 (grS P n n).length d1)).setCell ⟨w.heap.size, 3, none⟩ (.slice b2 (grC P n n).length d2) = wf at *
      refine bodyPost_ret (by simp [results, Tryz.results123, go_sem, t0, t1, t2, t3]; try rfl) rfl ?_
      have hwr : w.heap.size < wr.heap.size := (unhide HOr).lt
      have h9 := unhide HLt
      refine ⟨b1, d1, b2, d2, rfl, (unhide HG).1.chg cc (fun z hz _ e => ?_), (unhide HG).2.chg cc (fun z hz _ e => ?_), ?_, fun z hz => ?_, fun z hz => ?_⟩
      · have := (unhide HFr).1 z hz; omega
      · have := (unhide HFr).2 z hz; omega
      · exact (((unhide HCw).below (Nat.le_refl _) (fun j hj e => by omega)).trans ((unhide HBK).mono (unhide HCw).size)).trans (cc.below (Nat.le_trans (unhide HCw).size (unhide HBK).size) (fun j hj e => by omega))
      · have := (unhide HFr).1 z hz; omega
      · have := (unhide HFr).2 z hz; omega
def rowL (st cols : List Int) (i : Nat) : List Int := (cols.drop (st.getD i 0).toNat).take ((st.getD (i + 1) 0).toNat - (st.getD i 0).toNat)
def NrP (st cols : List Int) (k x : Nat) : Prop := ∃ i, i < k ∧ (MeP (rowL st cols i) (rowL st cols i).length 0 x ∨ ∃ t, t < (rowL st cols i).length ∧ (i : Int) * 128 + (rowL st cols i).getD t 0 = (x : Int))
end Go.Proofs.YtgjokididdffhaaGreat
