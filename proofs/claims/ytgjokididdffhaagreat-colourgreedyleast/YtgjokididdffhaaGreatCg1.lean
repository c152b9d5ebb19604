/- Sp5 -/
import Derived.Test.YtgjokididdffhaaGreatSp4
import Derived.Test.YtgjokididdffhaaGreatSa0
import Derived.OrdersHeld
import Derived.OrdersIn
import Derived.OwnWalkIn
import Derived.RangeFuncCalls
namespace Go.Proofs.YtgjokididdffhaaGreat
open Go.RowKit Go.Deep
set_option linter.unusedVariables false
def plR (st : List Int) : Nat → List Int
  | 0 => []
  | k + 1 => plR st k ++ List.replicate ((st.getD (k + 1) 0).toNat - (st.getD k 0).toNat) (k : Int)
structure PlI (w1 W : World) (base : Nat) (v u : Value) (rs cs : List Int) : Prop where
  own1 : W.ownsRow base 3 1 v rs.length (valsI rs)
  own2 : W.ownsRow base 3 1 u cs.length (valsI cs)
  apart : ∀ g, v.ownBlock = some g → u.ownBlock ≠ some g
  bel : Below base w1 W
  le : base ≤ W.heap.size
theorem PlI.swap {w1 W : World} {base : Nat} {v u : Value} {rs cs : List Int} (h : PlI w1 W base v u rs cs) : PlI w1 W base u v cs rs := ⟨h.own2, h.own1, fun g hu hv => h.apart g hv hu, h.bel, h.le⟩
theorem PlI.app {w1 W W3 : World} {base : Nat} {v u : Value} {rs cs : List Int} {x : Int} {g cap : Nat} (h : PlI w1 W base v u rs cs) (o : Obj) (hown : W3.ownsRow base 3 1 (.slice (some ⟨g, 0, none⟩) (rs.length + 1) cap) (rs.length + 1) (valsI rs ++ [.int .i64 x])) (hg : (W.alloc o).grownBy W3 v.ownBlock) (hat : v.ownBlock = some g ∨ g = W.heap.size + 1) : PlI w1 W3 base (.slice (some ⟨g, 0, none⟩) (rs.length + 1) cap) u (rs ++ [x]) cs := by
  have hB : Below base W W3 := Below.grown ((Below.refl base W).alloc h.le o) hg (by simp; have := h.le; omega) (fun j hj => (own_ge h.own1 j hj).1)
  refine ⟨by simpa [valsI] using hown, (h.own2.alloc o).kept hg ?_, ?_, h.bel.trans hB, Nat.le_trans h.le hB.size⟩
  · cases hu : u.ownBlock with
    | none => exact .inl rfl
    | some j =>
      right
      intro e
      exact h.apart j e.symm hu
  · intro j hj hu
    have hj' : g = j := by simpa [Value.ownBlock] using hj
    subst hj'
    rcases hat with e | e
    · exact h.apart _ e hu
    · have := (own_ge h.own2 _ hu).2
      omega
theorem own_slI {w : World} {base n : Nat} {v : Value} {xs : List Int} (h : w.ownsRow base 3 1 v n (valsI xs)) : ∃ a c, v = .slice a n c ∧ SlI w a n c xs := by
  have hl : xs.length = n := by have := h.1; simpa [valsI] using this
  rcases h.2 with ⟨rfl, rfl⟩ | ⟨b, cap, cur, rfl, h4, h5, h6, h7, h8, h9⟩
  · have : xs = [] := List.eq_nil_of_length_eq_zero hl
    subst this
    exact ⟨none, 0, rfl, SlI.nil _⟩
  · refine ⟨_, _, rfl, ⟨hl, h6, h7, .inr ⟨b, 0, rfl, fun i hi => ?_⟩⟩⟩
    rw [Nat.zero_add, cell_of_block h5]
    have : (cur.toList.take (n * 1))[i]? = (valsI xs)[i]? := by rw [h9]
    rw [List.getElem?_take_of_lt (by omega)] at this
    rw [← Array.getElem?_toList, this]
    simp [valsI, List.getD, hi]
structure PlP (w w' : World) (e : Ending) (rs cs : List Int) : Prop where
  out : ∃ a1 c1 a2 c2, e = .returned (.tuple #[.slice a1 rs.length c1, .slice a2 cs.length c2, .int .i64 0]) ∧ SlI w' a1 rs.length c1 rs ∧ SlI w' a2 cs.length c2 cs
  bel : Below w.heap.size w w'
theorem PlI.res {w w1 W : World} {base : Nat} {v u : Value} {rs cs : List Int} (h : PlI w1 W base v u rs cs) (hb : Below w.heap.size w w1) (hB : w.heap.size ≤ base) : PlP w W (.returned (.tuple #[v, u, .int .i64 0])) rs cs := by
  obtain ⟨a1, c1, rfl, s1⟩ := own_slI h.own1
  obtain ⟨a2, c2, rfl, s2⟩ := own_slI h.own2
  exact ⟨⟨a1, c1, a2, c2, rfl, s1, s2⟩, hb.trans (h.bel.mono hB)⟩
theorem plR_row {st cols : List Int} {width : Int} {k X Y : Nat} (h : RowAt st cols width k X Y) : plR st (k + 1) = plR st k ++ List.replicate (Y - X) (k : Int) := by
  simp only [plR]
  rw [h.hX, h.hY]
  rfl
theorem rep_snoc (n : Nat) (x : Int) : List.replicate (n + 1) x = List.replicate n x ++ [x] := List.replicate_succ'
theorem take_snoc {cols : List Int} {i : Nat} {x : Int} (hi : i < cols.length) (hx : cols.getD i 0 = x) : cols.take (i + 1) = cols.take i ++ [x] := by
  rw [List.take_add_one]
  congr 1
  subst hx
  simp [hi, List.getD]
theorem plR_len {R : Nat} {width : Int} {st cols : List Int} (hm : MayP (R : Int) width st cols) : ∀ k, k ≤ R → ((plR st k).length : Int) = st.getD k 0
  | 0, _ => by rw [hm.head.first]; rfl
  | k + 1, hk => by
    obtain ⟨X, Y, h⟩ := hm.rowAt (k := k) (by omega)
    rw [plR_row h, List.length_append, List.length_replicate, h.hY]
    have := plR_len hm k (by omega)
    rw [h.hX] at this
    have := h.le
    omega
set_option maxRecDepth 100000 in
set_option maxHeartbeats 16000000 in
theorem wplaces_yes (R : Nat) (width : Int) (a1 a2 : Option Addr) (n1 c1 n2 c2 : Nat) (st cols : List Int) (w : World) (h1 : SlI w a1 n1 c1 st) (h2 : SlI w a2 n2 c2 cols) (hb1 : n1 ≤ 17592186044000) (hb2 : n2 ≤ 17592186044000) (hm : MayP (R : Int) width st cols) :
    Calls Tryz.prog 47 #[patV (R : Int) width a1 n1 c1 a2 n2 c2] w fun e w' => PlP w w' e (plR st R) cols := by
  obtain ⟨wb, hwb⟩ : ∃ x, w.alloc (.cells #[.int .i64 (R : Int), .int .i64 width, .slice a1 n1 c1, .slice a2 n2 c2] 25) = x := ⟨_, rfl⟩
  have bb : Below w.heap.size w wb := by rw [← hwb]; exact (Below.refl _ _).alloc (Nat.le_refl _) _
  have hT := BoxP.made w #[.int .i64 (R : Int), .int .i64 width, .slice a1 n1 c1, .slice a2 n2 c2] 25
  rw [hwb] at hT
  have p0 := (hT.all 0 _ rfl).1
  have p1 := (hT.all 1 _ rfl).1
  have p2 := (hT.all 2 _ rfl).1
  have p3 := (hT.all 3 _ rfl).1
  have KM := hide (wsmay_any (R : Int) width a1 a2 n1 c1 n2 c2 st cols wb (h1.below bb) (h2.below bb) (by omega) (by omega))
  have HP := hide hT
  have HS := hide (And.intro h1 h2)
  have HB := hide bb
  have HM := hide hm
  have HTR := hide (show TruQ true (MayP (R : Int) width st cols) from ⟨fun _ => hm, fun _ => rfl⟩)
  have HLN := hide (And.intro h1.len (And.intro h2.len hm.head.len))
  obtain ⟨i64, hi, hz, hs, hb⟩ := info_parts Tryz.info_i64
  have HI := hide (And.intro hi (And.intro hz (And.intro hs hb)))
  clear hT bb h1 h2 hm hi hz hs hb
  unfold patV
  unfold patV at KM
  go_enter Tryz.func47, Tryz.ntmps47
  go_wp2_with fail
  refine (unhide KM).mono ?_
  intro e w1 hq
  obtain ⟨rfl, b1⟩ := hq.known (unhide HTR)
  have HP1 := hide ((unhide HP).below b1)
  have HB1 := hide ((unhide HB).trans (b1.mono (unhide HB).size))
  obtain ⟨base, hbase⟩ : ∃ x, w1.heap.size = x := ⟨_, rfl⟩
  have HBs := hide (And.intro hbase ((unhide HP).below b1).lt)
  have HS1 := hide (And.intro ((unhide HS).1.below (unhide HB1)) ((unhide HS).2.below (unhide HB1)))
  have HBX := hide (show ∀ W, Below base w1 W → BoxP W w.heap.size [.int .i64 (R : Int), .int .i64 width, .slice a1 n1 c1, .slice a2 n2 c2] ∧ SlI W a1 n1 c1 st ∧ SlI W a2 n2 c2 cols from fun W k => by
    rw [← hbase] at k
    exact ⟨((unhide HP).below b1).below k, (unhide HS1).1.below k, (unhide HS1).2.below k⟩)
  clear b1 hq KM HTR hbase p0 p1 p2 p3
  go_wp2_with fail
  go_loopw [7, 5, 6] (fun kv v u wr => ∃ k : Nat, k ≤ R ∧ kv = .int .i64 (k : Int) ∧ Hid (∃ X : Nat, st.getD k 0 = (X : Int) ∧ PlI w1 wr base v u (plR st k) (cols.take X))) (fun kv _ _ _ => R - (intOf kv).toNat)
  case atStart => exact ⟨0, Nat.zero_le _, rfl, hide ⟨0, by rw [(unhide HM).head.first]; rfl, ⟨World.ownsRow_nil _ _ _ _, World.ownsRow_nil _ _ _ _, fun g hg => (by simp [Value.ownBlock] at hg), Below.refl _ _, Nat.le_of_eq (unhide HBs).1.symm⟩⟩⟩
  case round =>
    obtain ⟨k, hk, rfl, HX⟩ := hrel
    obtain ⟨X, hX, hP⟩ := unhide HX
    have hbx := unhide HBX wr hP.bel
    have p0 := (hbx.1.all 0 _ rfl).1
    have p2 := (hbx.1.all 2 _ rfl).1
    by_cases hlt : k < R
    · have hlt' : (k : Int) < (R : Int) := by omega
      obtain ⟨X', Y, hRow⟩ := (unhide HM).rowAt (k := k) (by omega)
      obtain rfl : X' = X := by have h8 := hRow.hX; rw [hX] at h8; omega
      have hln := unhide HLN
      obtain ⟨b1, o1, rfl, hc1⟩ := hbx.2.1.at (by omega)
      have sk := hc1 k (by omega)
      rw [hRow.hX] at sk
      have tk1 : (k : Int) < (n1 : Int) := by omega
      have tk2 : (k : Int) + 1 < (n1 : Int) := by omega
      have hrl := hRow.le
      have hrt := hRow.lt
      have HRow := hide hRow
      have HPL := hide hP
      clear hc1 hln hRow hP hbx hX
      go_wp2_with fail
      go_loopw [8, 5, 6] (fun iv v u wq => ∃ i : Nat, X' ≤ i ∧ i ≤ Y ∧ iv = .int .i64 (i : Int) ∧ Hid (PlI w1 wq base v u (plR st k ++ List.replicate (i - X') (k : Int)) (cols.take i))) (fun iv _ _ _ => Y - (intOf iv).toNat)
      case atStart => exact ⟨X', Nat.le_refl _, hrl, rfl, hide (by rw [Nat.sub_self, List.replicate_zero, List.append_nil]; exact unhide HPL)⟩
      case round =>
        clear p0 p2 sk
        obtain ⟨i, hi1, hi2, rfl, HQ⟩ := hrel
        have hbx := unhide HBX wr (unhide HQ).bel
        have p2 := (hbx.1.all 2 _ rfl).1
        have p3 := (hbx.1.all 3 _ rfl).1
        obtain ⟨b1', o1', e1, hc1⟩ := hbx.2.1.at (by omega)
        cases e1
        have sk1 := hc1 (k + 1) (by have := unhide HLN; omega)
        rw [(unhide HRow).hY] at sk1
        by_cases hin : i < Y
        · have hin' : (i : Int) < (Y : Int) := by omega
          have h22 := (unhide HLN).2.1
          obtain ⟨b2, o2, rfl, hc2⟩ := hbx.2.2.at (by omega)
          have sc := hc2 i (by omega)
          obtain ⟨x, hx⟩ : ∃ x, cols.getD i 0 = x := ⟨_, rfl⟩
          rw [hx] at sc
          have hin2 : (i : Int) < (n2 : Int) := by omega
          have HE := hide (And.intro (show plR st k ++ List.replicate (i + 1 - X') (k : Int) = (plR st k ++ List.replicate (i - X') (k : Int)) ++ [(k : Int)] by rw [show i + 1 - X' = (i - X') + 1 by omega, rep_snoc, List.append_assoc]) (take_snoc (cols := cols) (i := i) (by omega) hx))
          have hlr : (plR st k ++ List.replicate (i - X') (k : Int)).length = i := by
            have h8 := plR_len (unhide HM) k (by omega)
            rw [(unhide HRow).hX] at h8
            rw [List.length_append, List.length_replicate]
            omega
          have hlc : (cols.take i).length = i := by rw [List.length_take]; omega
          generalize plR st k ++ List.replicate (i - X') (k : Int) = rs at *
          generalize cols.take i = cs at *
          have HLL := hide (And.intro hlr hlc)
          have HXX := hide hx
          have hle := (unhide HQ).le
          have hrs1 : rs.length ≤ 17592186044000 := by omega
          have hcs1 : cs.length ≤ 17592186044000 := by omega
          clear hc1 hc2 hbx hx h22 hlr hlc
          go_wp2_with (at_builtin; refine wpList_append_lies _ rfl _ _ 23 rfl base 3 i64 (.int .i64 0) 1 8 Tryz.underlying23 (unhide HI).1 (unhide HI).2.1 (unhide HI).2.2.1 (unhide HI).2.2.2 rfl (by decide) _ rs.length (valsI rs) rfl ((unhide HQ).own1.alloc _) ⟨wr.heap.size, 0, none⟩ 1 1 [.int .i64 (k : Int)] rfl rfl (World.news_of_block (alloc_block _ _)) ?c21 (by decide) ?c31 ?c41 ?c51 (wr.heap.size + 1) (by simp) ?_)
          case c21 => intro z hz; simp at hz; rcases hz with rfl; rfl
          case c31 => unfold maxLen; omega
          case c41 => omega
          case c51 => simp; omega
          intro g1 cap1 w3 hown hg hat hlt4
          have HQ3 := hide ((unhide HQ).app _ hown hg hat)
          have hbx3 := unhide HBX w3 (unhide HQ3).bel
          have q2 := (hbx3.1.all 2 _ rfl).1
          have q3 := (hbx3.1.all 3 _ rfl).1
          obtain ⟨b2', o2', e2, hc2⟩ := hbx3.2.2.at (by omega)
          cases e2
          have sc3 := hc2 i (by have := (unhide HLN).2.1; omega)
          rw [unhide HXX] at sc3
          have hle3 := (unhide HQ3).le
          clear hown hg hat hlt4 hc2 hbx3 p2 p3 sk1
          go_wp2_with (at_builtin; refine wpList_append_lies _ rfl _ _ 23 rfl base 3 i64 (.int .i64 0) 1 8 Tryz.underlying23 (unhide HI).1 (unhide HI).2.1 (unhide HI).2.2.1 (unhide HI).2.2.2 rfl (by decide) _ cs.length (valsI cs) rfl ((unhide HQ3).own2.alloc _) ⟨w3.heap.size, 0, none⟩ 1 1 [.int .i64 x] rfl rfl (World.news_of_block (alloc_block _ _)) ?c21 (by decide) ?c31 ?c41 ?c51 (w3.heap.size + 1) (by simp) ?_)
          case c21 => intro z hz; simp at hz; rcases hz with rfl; rfl
          case c31 => unfold maxLen; omega
          case c41 => omega
          case c51 => simp; omega
          intro g2 cap2 w4 hown hg hat hlt4
          have HQ4 := hide ((unhide HQ3).swap.app _ hown hg hat).swap
          clear hown hg hat hlt4 q2 q3
          go_wp2_with fail
          refine ⟨⟨i + 1, by omega, by omega, by (first | rfl | go_num), hide ?_⟩, by simp [intOf]; omega⟩
          rw [(unhide HE).1, (unhide HE).2]
          exact unhide HQ4
        · obtain rfl : i = Y := by omega
          have hin' : ¬ (i : Int) < (i : Int) := by omega
          clear hbx hc1
          go_wp2_with fail
          refine ⟨⟨k + 1, by omega, by (first | rfl | go_num), hide ⟨i, (unhide HRow).hY, ?_⟩⟩, by simp [intOf]; omega⟩
          rw [plR_row (unhide HRow)]
          exact unhide HQ
    · obtain rfl : k = R := by omega
      have hlt' : ¬ (k : Int) < (k : Int) := by omega
      have hlast : X = cols.length := by
        have h8 := (unhide HM).head.last
        rw [show ((k : Int)).toNat = k by omega, hX] at h8
        omega
      rw [hlast, List.take_length] at hP
      have HPL := hide hP
      clear hP hbx hX hlast
      go_wp2_with fail
      refine bodyPost_ret (by simp [results, Tryz.results47, go_sem]; try rfl) rfl ?_
      exact (unhide HPL).res (unhide HB1) (by have := unhide HBs; omega)
section
variable {P : Program} {ops : Array Oper} {Q : Exit → Act → World → Prop} {md : Region.Mode} {S : World → Prop} {L : Nat}

def anyTill (P : Program) (md : Region.Mode) (ops : Array Oper) (Q : Exit → Act → World → Prop) (S : World → Prop) (L : Nat) : Nat → Array Bool → Act → World → Prop
  | 0, l, a, w => Region.ready md ops l = [] ∧ Q .normal a w
  | n + 1, l, a, w => (Region.ready md ops l = [] → Q .normal a w) ∧
      ∀ i ∈ Region.ready md ops l, wpOp P ops Q i (fun a' w' => (i ≠ L → S w') ∧ anyTill P md ops Q S L n (l.setIfInBounds i true) a' w') a w

theorem anyTill_any : ∀ (n : Nat) (l : Array Bool) (a : Act) (w : World), anyTill P md ops Q S L n l a w → wpAny P md ops Q n l a w
  | 0, _, _, _, h => h
  | n + 1, _, _, _, h => ⟨h.1, fun i hi => wpOp_mono (fun a' w' k => anyTill_any n _ a' w' k.2) (h.2 i hi)⟩

theorem anyTill_region (S : World → Prop) (L : Nat) {id : Nat} {a : Act} {w : World} (hm : P.follows .mixedOrders = true)
    (h : anyTill P .any ops Q S L ops.size (Array.replicate ops.size false) a w.drew) : (Code.region id ops true).wp P Q a w :=
  wp_region_any hm (anyTill_any _ _ _ _ h)

theorem anyTill_first {i : Nat} {oi oL : Oper} {v : Value} (hi : ops[i]? = some oi) (hn : Region.noSelect ops = true)
    (hL : ops[L]? = some oL) (hw : ∃ e ∈ oL.after, Region.binds md e = true ∧ e.on = i)
    (hQ : ∀ c a w, Q (.panic c) (a.put oi.dst v) w → Q (.panic c) a w) :
    ∀ (n : Nat) (l : Array Bool) (a : Act) (w : World),
      (∀ j oj, ops[j]? = some oj → j ≠ i → l.getD j true = false → (∀ e ∈ oj.after, Region.binds md e = true → e.on ≠ i) → oi.apart ops oj = true) →
      i ∈ Region.ready md ops l → YieldsIf P ops S oi v a → S w →
      anyTill P md ops Q S L n (l.setIfInBounds i true) (a.put oi.dst v) w → anyTill P md ops Q S L (n + 1) l a w := by
  intro n
  induction n with
  | zero =>
    intro l a w _ hr hy hS H
    refine ⟨fun h => absurd hr (by rw [h]; simp), fun j hj => ?_⟩
    by_cases hji : j = i
    · subst hji; exact hy.wpOp hi hS ⟨fun _ => hS, H⟩
    · exact absurd (ready_mono hj hji) (by rw [H.1]; simp)
  | succ n ih =>
    intro l a w hf hr hy hS H
    refine ⟨fun h => absurd hr (by rw [h]; simp), fun j hj => ?_⟩
    by_cases hji : j = i
    · subst hji; exact hy.wpOp hi hS ⟨fun _ => hS, H⟩
    · obtain ⟨hju, oj, hoj, hall⟩ := mem_ready.1 hj
      have hno : ∀ e ∈ oj.after, Region.binds md e = true → e.on ≠ i := fun e he hb heq => by
        have k1 := hall e he hb
        have k0 := (mem_ready.1 hr).1
        rw [heq] at k1
        rcases Nat.lt_or_ge i l.size with h' | h'
        · simp [h'] at k0 k1; rw [k0] at k1; cases k1
        · simp [Array.getElem?_eq_none h'] at k1
      have hjL : j ≠ L := fun e => by
        obtain ⟨e1, h1, h2, h3⟩ := hw
        rw [e, hL] at hoj
        cases hoj
        exact hno e1 h1 h2 h3
      have k2 := wpOp_putIf hoj (hf j oj hoj hji hju hno) (fun cs b => Region.noSelect_spec hn i oi cs b hi) (fun cs b => Region.noSelect_spec hn j oj cs b hoj) hQ hy (H.2 j (ready_mono hj hji))
      refine wpOp_mono (fun a' w' k3 => ⟨fun _ => k3.2.1 hjL, ih (l.setIfInBounds j true) a' w' (fun k ok hk hki hun hno' => hf k ok hk hki ?_ hno') (ready_mono hr (Ne.symm hji)) k3.1 (k3.2.1 hjL) ?_⟩) k2
      · by_cases hjk : j = k
        · subst hjk; exact hju
        · rw [getD_set_ne true hjk] at hun; exact hun
      · rw [Array.setIfInBounds_comm _ _ hji]; exact k3.2.2

theorem anyTill_take {i : Nat} {oi oL : Oper} {v : Value} {n : Nat} {l : Array Bool} {a : Act} {w : World} (hi : ops[i]? = some oi) (hL : ops[L]? = some oL)
    (hn : Region.noSelect ops = true) (hf : Region.free md ops l i = true) (hr : (Region.ready md ops l).contains i = true) (hw : (oL.after.any fun e => Region.binds md e && e.on == i) = true)
    (hQ : ∀ c a w, Q (.panic c) (a.put oi.dst v) w → Q (.panic c) a w) (hy : YieldsIf P ops S oi v a) (hS : S w)
    (h : anyTill P md ops Q S L n (l.setIfInBounds i true) (a.put oi.dst v) w) : anyTill P md ops Q S L (n + 1) l a w := by
  obtain ⟨e, h1, h2⟩ := Array.any_eq_true'.1 hw
  simp only [Bool.and_eq_true, beq_iff_eq] at h2
  exact anyTill_first hi hn hL ⟨e, h1, h2⟩ hQ n l a w (Region.free_spec hi hf) (by simpa using hr) hy hS h
theorem anyTill_one {i : Nat} {o : Oper} {n : Nat} {l : Array Bool} {a : Act} {w : World} (hr : Region.ready md ops l = [i]) (ho : ops[i]? = some o) (hg : Region.wanted o (yielded ops a.tmps) = true)
    (h : ∀ K : Act → World → Prop, (∀ a' w', (i ≠ L → S w') → anyTill P md ops Q S L n (l.setIfInBounds i true) a' w' → K a' w') → o.wp P a w K Q) : anyTill P md ops Q S L (n + 1) l a w := by
  refine ⟨fun e => absurd (hr.symm.trans e) (by simp), fun j hj => ?_⟩
  rw [hr] at hj
  obtain rfl : j = i := by simpa using hj
  unfold wpOp
  simp only [ho, hg, if_true]
  exact .inl (h _ fun a' w' h1 h2 => ⟨h1, h2⟩)
theorem anyTill_done {n : Nat} {l : Array Bool} {a : Act} {w : World} (hr : Region.ready md ops l = []) (h : Q .normal a w) : anyTill P md ops Q S L n l a w := by
  cases n with
  | zero => exact ⟨hr, h⟩
  | succ n => exact ⟨fun _ => h, fun i hi => absurd hi (by rw [hr]; simp)⟩
end
section
variable {P : Program} {ops : Array Oper} {Q : Exit → Act → World → Prop} {md : Region.Mode} {n l : Nat}
end
noncomputable def grR (P : Nat → Nat → Prop) (u : Nat) : Nat → List Int
  | 0 => []
  | k + 1 => grR P u k ++ (if tb (P u k) = true then [(k : Int)] else [])
noncomputable def grC (P : Nat → Nat → Prop) (n : Nat) : Nat → List Int
  | 0 => []
  | k + 1 => grC P n k ++ grR P k n
noncomputable def grS (P : Nat → Nat → Prop) (n : Nat) : Nat → List Int
  | 0 => [0]
  | k + 1 => grS P n k ++ [((grC P n (k + 1)).length : Int)]
theorem grR_len (P : Nat → Nat → Prop) (u : Nat) : ∀ k, (grR P u k).length ≤ k
  | 0 => Nat.le_refl _
  | k + 1 => by
    have := grR_len P u k
    simp only [grR, List.length_append]
    split <;> simp <;> omega
theorem grC_len (P : Nat → Nat → Prop) (n : Nat) : ∀ k, (grC P n k).length ≤ k * n
  | 0 => Nat.zero_le _
  | k + 1 => by
    have h1 := grC_len P n k
    have h2 := grR_len P k n
    simp only [grC, List.length_append]
    rw [Nat.add_mul, Nat.one_mul]
    omega
theorem grS_len (P : Nat → Nat → Prop) (n : Nat) : ∀ k, (grS P n k).length = k + 1
  | 0 => rfl
  | k + 1 => by simp only [grS, List.length_append, List.length_singleton]; rw [grS_len P n k]
theorem grR_congr {P Q : Nat → Nat → Prop} {u n : Nat} (h : ∀ v, v < n → (P u v ↔ Q u v)) : ∀ k, k ≤ n → grR P u k = grR Q u k
  | 0, _ => rfl
  | k + 1, hk => by simp only [grR]; rw [grR_congr h k (by omega), tb_congr (h k (by omega))]
structure PbI (w1 W : World) (B X : Nat) (n : Int) (vS vC : Value) (S C : List Int) : Prop where
  box : W.heap[X]? = some (.cells #[.int .i64 n, .int .i64 n, vS, vC] 25 (0, 0))
  ownS : W.ownsRow B 3 1 vS S.length (valsI S)
  ownC : W.ownsRow B 3 1 vC C.length (valsI C)
  apart : ∀ g, vS.ownBlock = some g → vC.ownBlock ≠ some g
  bel : Below B w1 W
  le : B ≤ W.heap.size
  lx : B ≤ X
theorem own_neB {w : World} {B : Nat} {e : TypeId} {v : Value} {n : Nat} {xs : List Value} (h : w.ownsRow B e 1 v n xs) {k : Nat} {cs : Array Value} {e2 : TypeId} (hk : w.heap[k]? = some (.cells cs e2 (0, 0))) (hne : e ≠ e2) : v.ownBlock ≠ some k := by
  intro he
  rcases h.2 with ⟨h1, _⟩ | ⟨g, cap, cur, h1, h2, h3, _⟩
  · rw [h1] at he; simp [Value.ownBlock] at he
  · rw [h1] at he
    have : g = k := by simpa [Value.ownBlock] using he
    subst this
    rw [h3] at hk
    cases hk
    exact hne rfl
theorem PbI.below {w1 W Wn : World} {B X : Nat} {n : Int} {vS vC : Value} {S C : List Int} (h : PbI w1 W B X n vS vC S C) (k : Below W.heap.size W Wn) : PbI w1 Wn B X n vS vC S C :=
  ⟨(k.block _ (Array.getElem?_eq_some_iff.1 h.box).1).trans h.box, ownsRow_chg (S := fun _ => False) h.ownS (.of_below k) (fun _ _ => id), ownsRow_chg (S := fun _ => False) h.ownC (.of_below k) (fun _ _ => id), h.apart, h.bel.trans (k.mono h.le), Nat.le_trans h.le k.size, h.lx⟩
theorem PbI.appC {w1 W W3 : World} {B X : Nat} {n : Int} {vS vC : Value} {S C : List Int} {x : Int} {g cap : Nat} (h : PbI w1 W B X n vS vC S C) (hown : W3.ownsRow B 3 1 (.slice (some ⟨g, 0, none⟩) (C.length + 1) cap) (C.length + 1) (valsI C ++ [.int .i64 x])) (hg : W.grownBy W3 vC.ownBlock) (hat : vC.ownBlock = some g ∨ g = W.heap.size) :
    PbI w1 (W3.setCell ⟨X, 3, none⟩ (.slice (some ⟨g, 0, none⟩) (C.length + 1) cap)) B X n vS (.slice (some ⟨g, 0, none⟩) (C.length + 1) cap) S (C ++ [x]) := by
  have hX := (Array.getElem?_eq_some_iff.1 h.box).1
  have nC := own_neB h.ownC h.box (by decide)
  have nS := own_neB h.ownS h.box (by decide)
  have hb3 : W3.heap[X]? = some (.cells #[.int .i64 n, .int .i64 n, vS, vC] 25 (0, 0)) := (hg.block X hX (fun e => nC e.symm)).trans h.box
  have hB : Below B W W3 := (Below.refl B W).grown hg h.le (fun j hj => (own_ge h.ownC j hj).1)
  have hc : Chg (fun j => j = X) W3 (W3.setCell ⟨X, 3, none⟩ (.slice (some ⟨g, 0, none⟩) (C.length + 1) cap)) := Chg.of_set _ _ _ _ rfl
  have hgX : g ≠ X := by
    intro e
    rcases hown.2 with ⟨h1, _⟩ | ⟨g', cap', cur, h1, h2, h3, _⟩
    · cases h1
    · cases h1
      rw [e, hb3] at h3
      cases h3
  refine ⟨by simp [World.setCell, Array.getElem?_modify, hb3], ownsRow_chg (h.ownS.kept hg ?_) hc (fun j hj e => nS (by rw [← e]; exact hj)), ownsRow_chg (by simpa [valsI] using hown) hc (fun j hj e => ?_), fun j hj hu => ?_, h.bel.trans (hB.trans (hc.below (Nat.le_trans h.le hB.size) (fun j hj e => by have := h.lx; omega))), Nat.le_trans h.le (Nat.le_trans hB.size hc.size), h.lx⟩
  · cases hv : vS.ownBlock with
    | none => exact .inl rfl
    | some j => right; intro e; exact h.apart j hv e.symm
  · have : g = j := by simpa [Value.ownBlock] using hj
    exact hgX (this.trans e)
  · have hu' : g = j := by simpa [Value.ownBlock] using hu
    subst hu'
    rcases hat with e | e
    · exact h.apart _ hj e
    · have := (own_ge h.ownS _ hj).2; omega
theorem PbI.appS {w1 W W3 : World} {B X : Nat} {n : Int} {vS vC : Value} {S C : List Int} {x : Int} {g cap : Nat} (h : PbI w1 W B X n vS vC S C) (hown : W3.ownsRow B 3 1 (.slice (some ⟨g, 0, none⟩) (S.length + 1) cap) (S.length + 1) (valsI S ++ [.int .i64 x])) (hg : W.grownBy W3 vS.ownBlock) (hat : vS.ownBlock = some g ∨ g = W.heap.size) :
    PbI w1 (W3.setCell ⟨X, 2, none⟩ (.slice (some ⟨g, 0, none⟩) (S.length + 1) cap)) B X n (.slice (some ⟨g, 0, none⟩) (S.length + 1) cap) vC (S ++ [x]) C := by
  have hX := (Array.getElem?_eq_some_iff.1 h.box).1
  have nC := own_neB h.ownC h.box (by decide)
  have nS := own_neB h.ownS h.box (by decide)
  have hb3 : W3.heap[X]? = some (.cells #[.int .i64 n, .int .i64 n, vS, vC] 25 (0, 0)) := (hg.block X hX (fun e => nS e.symm)).trans h.box
  have hB : Below B W W3 := (Below.refl B W).grown hg h.le (fun j hj => (own_ge h.ownS j hj).1)
  have hc : Chg (fun j => j = X) W3 (W3.setCell ⟨X, 2, none⟩ (.slice (some ⟨g, 0, none⟩) (S.length + 1) cap)) := Chg.of_set _ _ _ _ rfl
  have hgX : g ≠ X := by
    intro e
    rcases hown.2 with ⟨h1, _⟩ | ⟨g', cap', cur, h1, h2, h3, _⟩
    · cases h1
    · cases h1
      rw [e, hb3] at h3
      cases h3
  refine ⟨by simp [World.setCell, Array.getElem?_modify, hb3], ownsRow_chg (by simpa [valsI] using hown) hc (fun j hj e => ?_), ownsRow_chg (h.ownC.kept hg ?_) hc (fun j hj e => nC (by rw [← e]; exact hj)), fun j hj hu => ?_, h.bel.trans (hB.trans (hc.below (Nat.le_trans h.le hB.size) (fun j hj e => by have := h.lx; omega))), Nat.le_trans h.le (Nat.le_trans hB.size hc.size), h.lx⟩
  · have : g = j := by simpa [Value.ownBlock] using hj
    exact hgX (this.trans e)
  · cases hv : vC.ownBlock with
    | none => exact .inl rfl
    | some j => right; intro e; exact h.apart j e.symm hv
  · have hj' : g = j := by simpa [Value.ownBlock] using hj
    subst hj'
    rcases hat with e | e
    · exact h.apart _ e hu
    · have := (own_ge h.ownC _ hu).2; omega
def grV (n : Nat) (b m : Nat) : Value := .agg #[.int .i64 (n : Int), .slice (some ⟨b, 0, none⟩) m m]
set_option maxRecDepth 100000 in
set_option maxHeartbeats 16000000 in
theorem wmeet_any (n b m u v : Nat) (Q : Nat → Bool) (w : World) (hn : n ≤ 128) (hu : u < 128) (hv : v < 128) (hm : u * n + v < m) (hm2 : m ≤ 16384) (hR : RoV w b m (fun i => .bool (Q i))) :
    Calls Tryz.prog 59 #[grV n b m, .int .i64 (u : Int), .int .i64 (v : Int)] w fun e w' => e = .returned (.bool (Q (u * n + v))) ∧ Below w.heap.size w w' := by
  obtain ⟨wb, hwb⟩ : ∃ x, w.alloc (.cells #[.int .i64 (n : Int), .slice (some ⟨b, 0, none⟩) m m] 45) = x := ⟨_, rfl⟩
  have bb : Below w.heap.size w wb := by rw [← hwb]; exact (Below.refl _ _).alloc (Nat.le_refl _) _
  have hT := BoxP.made w #[.int .i64 (n : Int), .slice (some ⟨b, 0, none⟩) m m] 45
  rw [hwb] at hT
  have q0 := (hT.all 0 _ rfl).1
  have q1 := (hT.all 1 _ rfl).1
  obtain ⟨y, hy⟩ : ∃ y, u * n = y := ⟨_, rfl⟩
  obtain ⟨x, hx⟩ : ∃ x, y + v = x := ⟨_, rfl⟩
  have hm1 : (u : Int) * (n : Int) = (y : Int) := by rw [← hy]; simp
  have hx1 : (y : Int) + (v : Int) = (x : Int) := by omega
  rw [hy, hx] at hm ⊢
  have hxn : (x : Int) < (m : Int) := by omega
  have hcell := ((hR.below bb) x hm).1
  obtain ⟨z, hz⟩ : ∃ z, Q x = z := ⟨_, rfl⟩
  rw [hz] at hcell ⊢
  have HB := hide bb
  clear bb hT hR hy hx hz
  unfold grV
  go_enter Tryz.func59, Tryz.ntmps59
  go_wp2_with fail
  go_ret
  exact ⟨rfl, unhide HB⟩
def GpP (w w' : World) (e : Ending) (n : Nat) (S C : List Int) : Prop := ∃ a1 c1 a2 c2, e = .returned (.agg #[.int .i64 (n : Int), .int .i64 (n : Int), .slice a1 S.length c1, .slice a2 C.length c2]) ∧ SlI w' a1 S.length c1 S ∧ SlI w' a2 C.length c2 C ∧ Below w.heap.size w w' ∧ (∀ z, a1 = some z → w.heap.size ≤ z.block) ∧ (∀ z, a2 = some z → w.heap.size ≤ z.block)
end Go.Proofs.YtgjokididdffhaaGreat
