/- Tg2 -/
import Derived.Test.YtpicknbdfjjflaaGreatDoorTg1
import Derived.RangeFuncNested
import Derived.RangeFuncBound
import Derived.RangeFuncCalls
import Derived.RangeFuncLeaves
import Derived.Shelf.Abstract
import Derived.OwnWalkIn
import Derived.TacticsInMore
import Derived.LoopNIn
import Derived.LoopIn
import Derived.Stop.RegionWithIn
namespace Go.Proofs.YtpicknbdfjjflaaGreatDoor
open Go.RowKit Go.Deep Go.Shelf
set_option linter.unusedVariables false
attribute [local go_sem] Oper.semAt_some

def wIn : ByteArray := { data := #[105, 110, 112, 117, 116, 115] }
def wOut : ByteArray := { data := #[111, 117, 116] }
def tlL (i : Int) (X : List ByteArray) (ys : List Int) : List ByteArray := lnT wIn [i] :: (X ++ ys.map (fun y => lnT wOut [y]))
def cutS (x : ByteArray) : ByteArray := if x.size ≤ 2000000 then x else ⟨#[]⟩
theorem cutS_of {x : ByteArray} (h : x.size ≤ 2000000) : cutS x = x := by unfold cutS; rw [if_pos h]
theorem cutS_size (x : ByteArray) : (cutS x).size ≤ 2000000 := by
  unfold cutS
  split
  · assumption
  · simp [ByteArray.size]
def encS (x : ByteArray) : Array Value := #[.string (cutS x)]
theorem lnT_size {word : ByteArray} (hw : word.size ≤ 100) {l : List Int} (hl : l.length ≤ 2) (h : ∀ x ∈ l, -9223372036854775808 ≤ x ∧ x ≤ 9223372036854775807) : (lnT word l).size ≤ 2000000 := by
  have := wdT_size word l h
  unfold lnT
  rw [ByteArray.size_append]
  have : nlB.size = 1 := rfl
  omega
abbrev KpT (Z : Nat → Prop) (n₀ : Nat) : World → World → Prop := Chg (fun k => Z k ∨ n₀ ≤ k)
structure TpZ (W : World) (Z : Nat → Prop) (n₀ : Nat) (w0 : World) (Bs : Nat) (vs : List Value) : Prop where
  bel : Below w0.heap.size w0 W
  zb : ∀ k, Z k → w0.heap.size ≤ k
  n0 : w0.heap.size ≤ n₀
  box : BoxP W Bs vs
  bn : Bs < n₀ ∧ ¬ Z Bs
theorem TpZ.chg {W W' : World} {Z : Nat → Prop} {n₀ Bs : Nat} {w0 : World} {vs : List Value} (h : TpZ W Z n₀ w0 Bs vs) (k : KpT Z n₀ W W') : TpZ W' Z n₀ w0 Bs vs := by
  have h1 : Below w0.heap.size W W' := k.below h.bel.size (fun j hj e => by
    rcases e with e | e
    · have := h.zb j e; omega
    · have := h.n0; omega)
  have h2 : BoxP W' Bs vs := h.box.chg k (fun e => by
    rcases e with e | e
    · exact h.bn.2 e
    · have := h.bn.1; omega)
  exact ⟨h.bel.trans h1, h.zb, h.n0, h2, h.bn⟩
theorem grown_belowT {W W' : World} (h : Below W.heap.size W W') : W.grownBy W' none := ⟨h.os, h.tape, h.output, h.size, fun k hk _ => h.block k hk⟩
theorem take_nextG {α : Type} (d : α) {l : List α} {j : Nat} (hj : j < l.length) : l.take (j + 1) = l.take j ++ [l.getD j d] := by
  rw [List.take_succ_eq_append_getElem hj, List.getD_eq_getElem?_getD, List.getElem?_eq_getElem hj]
  rfl
def tlA (i : Int) (X : List ByteArray) (k : Nat) : List ByteArray := lnT wIn [i] :: X.take k
def tlB (i : Int) (X : List ByteArray) (ys : List Int) (j : Nat) : List ByteArray := lnT wIn [i] :: (X ++ (ys.map (fun y => lnT wOut [y])).take j)
theorem tlA_next {i : Int} {X : List ByteArray} {k : Nat} (hk : k < X.length) : tlA i X k ++ [X.getD k ⟨#[]⟩] = tlA i X (k + 1) := by
  unfold tlA
  rw [take_nextG ⟨#[]⟩ hk]
  rfl
theorem tlA_pre {i : Int} {X : List ByteArray} {ys : List Int} {k : Nat} : tlA i X k <+: tlL i X ys := by
  unfold tlA tlL
  rw [List.cons_prefix_cons]
  exact ⟨rfl, (List.take_prefix k X).trans (List.prefix_append _ _)⟩
theorem tlA_lt {i : Int} {X : List ByteArray} {ys : List Int} {k : Nat} (hk : k < X.length) : (tlA i X k).length < (tlL i X ys).length := by
  unfold tlA tlL
  simp
  omega
theorem tlB_lt {i : Int} {X : List ByteArray} {ys : List Int} {j : Nat} (hj : j < ys.length) : (tlB i X ys j).length < (tlL i X ys).length := by
  unfold tlB tlL
  simp
  omega
theorem tlA_end {i : Int} {X : List ByteArray} {ys : List Int} {n : Nat} (hn : X.length = n) : tlA i X n = tlB i X ys 0 := by
  unfold tlA tlB
  rw [List.take_of_length_le (by omega)]
  simp
theorem tlB_next {i : Int} {X : List ByteArray} {ys : List Int} {j : Nat} (hj : j < ys.length) : tlB i X ys j ++ [lnT wOut [ys.getD j 0]] = tlB i X ys (j + 1) := by
  unfold tlB
  rw [take_nextG (lnT wOut [0]) (by simpa using hj)]
  rw [List.getD_eq_getElem?_getD, List.getD_eq_getElem?_getD, List.getElem?_map, List.getElem?_eq_getElem hj]
  simp
theorem tlB_pre {i : Int} {X : List ByteArray} {ys : List Int} {j : Nat} : tlB i X ys j <+: tlL i X ys := by
  unfold tlB tlL
  rw [List.cons_prefix_cons]
  exact ⟨rfl, (List.prefix_append_right_inj _).2 (List.take_prefix j _)⟩
theorem tlB_end {i : Int} {X : List ByteArray} {ys : List Int} {m : Nat} (hm : ys.length = m) : tlB i X ys m = tlL i X ys := by
  unfold tlB tlL
  rw [List.take_of_length_le (by simp; omega)]
set_option maxHeartbeats 1000000 in
theorem lines_in (m : Nat) (x y z : Value) (w : World) :
    CallsIn Fence.wide m Tryz.prog 49 #[.agg #[x, y, z]] w fun e w' => e = .returned (.func (.func 71) #[] #[.pointer (some ⟨w.heap.size, 0, none⟩)]) ∧ w' = w.alloc (.cells #[x, y, z] 25) := by
  refine callsIn_of_wp Tryz.func49 rfl trivial ?_ rfl
  simp only [Tryz.ntmps49, List.size_toArray, List.length_cons, List.length_nil, Nat.reduceAdd, Nat.reduceSub, Array.replicate_succ, Array.replicate_zero, List.push_toArray, List.append_toArray, List.nil_append, List.cons_append]
  gi_wp2
  go_ret
  exact ⟨rfl, rfl⟩
set_option maxRecDepth 100000 in
set_option maxHeartbeats 8000000 in
theorem lines1_in (m : Nat) (hm : 1 ≤ m) (l Bs n₀ : Nat) (Z : Nat → Prop) (w0 : World) (i : Int) (a : Option Addr) (n c : Nat) (os : List On) (b : Option Addr) (k2 d : Nat) (ys : List Int) (X : List ByteArray)
    (hs : SlO w0 a n c os) (hy : SlI w0 b k2 d ys) (hi : -9223372036854775808 ≤ i ∧ i ≤ 9223372036854775807) (hn : n ≤ 2048) (hk2 : k2 ≤ 64) (hyr : ∀ y ∈ ys, -9223372036854775808 ≤ y ∧ y ≤ 9223372036854775807) (hXl : X.length = n) (hXs : ∀ j, (X.getD j ⟨#[]⟩).size ≤ 2000000)
    (hXc : ∀ (j : Nat) (o : On), os[j]? = some o → ∀ W, Below w0.heap.size w0 W → Calls Tryz.prog 73 #[opV o] W fun e w' => e = .returned (.string (X.getD j ⟨#[]⟩)) ∧ Below W.heap.size W w') (hP : TabPw w0)
    (J Jx : List ByteArray → World → Prop) (W : World) (hJa : AbidesFrom W.heap.size J)
    (hY : ∀ pre x W1, J pre W1 → pre.length < (tlL i X ys).length → YieldAt Fence.wide (m - 1) Tryz.prog l (encS x) W1 fun e W' =>
      (e = .returned (.bool true) ∧ J (pre ++ [x]) W' ∧ KpT Z n₀ W1 W') ∨ (e = .returned (.bool false) ∧ Jx (pre ++ [x]) W'))
    (hn0 : n₀ ≤ W.heap.size) (hG : TpZ W Z n₀ w0 Bs [.int .i64 i, .slice a n c, .slice b k2 d]) (h0 : J [] W) :
    CallsIn Fence.wide m Tryz.prog 71 #[.func (.yield l) #[] #[], .pointer (some ⟨Bs, 0, none⟩)] W fun e W' => (∃ v, e = .returned v) ∧
      ((∃ zs, zs = tlL i X ys ∧ J zs W') ∨ (∃ pre, (pre ≠ [] ∧ pre <+: tlL i X ys) ∧ Jx pre W')) := by
  refine callsIn_of_wp Tryz.func71 rfl trivial ?_ rfl
  simp only [Tryz.ntmps71, List.size_toArray, List.length_cons, List.length_nil, Nat.reduceAdd, Nat.reduceSub, Array.replicate_succ, Array.replicate_zero, List.push_toArray, List.append_toArray, List.nil_append, List.cons_append]
  have HY := hide hY
  have H0 := hide h0
  have HG := hide hG
  have b0 := (hG.box.all 0 _ rfl).1
  have b1 := (hG.box.all 1 _ rfl).1
  have b2 := (hG.box.all 2 _ rfl).1
  have HS := hide (And.intro hs hy)
  have HI := hide (And.intro hi (And.intro hyr hXl))
  have HXS := hide hXs
  have HX := hide hXc
  have HP := hide hP
  have HJ := hide hJa
  clear hY h0 hG hs hy hi hyr hXl hXc hP hJa hXs
  gi_wp2_with fail
  have hb0 : Below W.heap.size W (W.alloc (.cells #[.int .i64 i] 3)) := (Below.refl _ _).alloc (Nat.le_refl _) _
  have K0 := tline_any wIn (by decide) (some ⟨W.heap.size, 0, none⟩) 1 1 [i] _ (by decide) (sli_made W [i] 3 (by simp)) (fun x hx => by have := (unhide HI).1; simp at hx; omega) (((unhide HP).below (unhide HG).bel).below hb0)
  refine ⟨trivial, (callsIn_wide.2 K0).mono ?_⟩
  rintro _ W1 ⟨rfl, hb1⟩
  have hbW : Below W.heap.size W W1 := hb0.trans (hb1.mono hb0.size)
  have hJ1 : J [] W1 := unhide HJ _ W W1 none (unhide H0) (grown_belowT hbW) (fun r e => by cases e)
  have HG1 := hide ((unhide HG).chg (Chg.of_below hbW))
  have HKW := hide hbW.size
  obtain ⟨fn, tmps, assign, body, hyy, hRR⟩ := unhide HY _ (lnT wIn [i]) W1 hJ1 (by simp [tlL])
  unfold encS at hyy
  rw [cutS_of (lnT_size (by decide) (by simp) (fun x hx => by have := (unhide HI).1; simp at hx; omega))] at hyy
  try dsimp only at hyy
  obtain ⟨L0, hL0⟩ : ∃ L0, lnT wIn [i] = L0 := ⟨_, rfl⟩
  have HL0 := hide hL0
  rw [hL0] at hyy hRR ⊢
  have HR := hide hRR
  clear hRR hL0 hJ1 hbW hb1 hb0 K0 b0 b1 b2
  gi_wp2_with fail
  refine (unhide HR).mono ?_
  rintro e3 W3 (⟨rfl, hJ3, hk3⟩ | ⟨rfl, hJx3⟩)
  rotate_left
  · have HJx3 := hide hJx3
    clear hJx3
    gi_wp2_with fail
    refine bodyPost_ret (results_none rfl _ _ _) rfl ?_
    refine ⟨⟨_, rfl⟩, .inr ⟨_, ⟨by simp, ?_⟩, unhide HJx3⟩⟩
    rw [← unhide HL0]
    simp [tlL]
  have HJ3 := hide hJ3
  have HG3 := hide ((unhide HG1).chg hk3)
  clear hJ3 hk3 hyy HR HG HG1
  have b1 := ((unhide HG3).box.all 1 _ rfl).1
  gi_wp2_with fail
  gi_loopw [16, 3] (fun kv _ wr => ∃ k : Nat, k ≤ n ∧ kv = .int .i64 (k : Int) ∧ Hid (J (tlA i X k) wr ∧ TpZ wr Z n₀ w0 Bs [.int .i64 i, .slice a n c, .slice b k2 d])) (fun kv _ _ => n - (intOf kv).toNat)
  case atStart => exact ⟨0, Nat.zero_le _, rfl, hide ⟨by have h := unhide HJ3; rw [← unhide HL0] at h; simpa [tlA] using h, unhide HG3⟩⟩
  case round =>
    clear b1
    obtain ⟨k, hk, rfl, HQ⟩ := hrel
    have hG := (unhide HQ).2
    have b1 := (hG.box.all 1 _ rfl).1
    by_cases hlt : k < n
    · have hlt' : (k : Int) < (n : Int) := by omega
      obtain ⟨b', off, o, rfl, ho, O, hok⟩ := ((unhide HS).1.below hG.bel).at' hlt
      obtain ⟨c0, c1, c2, c3, c4, c5, c6⟩ := O
      have K0 := unhide HX k o ho wr hG.bel
      unfold opV at K0
      have HK := hide K0
      clear K0 hG ho hok
      gi_wp2_with fail
      refine ⟨trivial, (callsIn_wide.2 (unhide HK)).mono ?_⟩
      rintro _ W2 ⟨rfl, hb2⟩
      have hJ2 := unhide HJ _ wr W2 none (unhide HQ).1 (grown_belowT hb2) (fun r e => by cases e)
      have HG2 := hide ((unhide HQ).2.chg (Chg.of_below hb2))
      have hxl := (unhide HI).2.2
      obtain ⟨fn, tmps, assign, body, hyy, hRR⟩ := unhide HY _ (X.getD k ⟨#[]⟩) W2 hJ2 (tlA_lt (by omega))
      unfold encS at hyy
      rw [cutS_of (unhide HXS k)] at hyy
      try dsimp only at hyy
      have hnx := tlA_next (i := i) (X := X) (k := k) (by omega)
      obtain ⟨L1, hL1⟩ : ∃ L1, X.getD k ⟨#[]⟩ = L1 := ⟨_, rfl⟩
      rw [hL1] at hyy hRR hnx ⊢
      have HNX := hide hnx
      have HR := hide hRR
      clear hRR hL1 hJ2 hb2 hnx hxl HK b1 c0 c1 c2 c3 c4 c5 c6
      gi_wp2_with fail
      refine (unhide HR).mono ?_
      rintro e3 W3 (⟨rfl, hJ3, hk3⟩ | ⟨rfl, hJx3⟩)
      · have HJ3 := hide (And.intro hJ3 ((unhide HG2).chg hk3))
        clear hJ3 hk3 hyy HR
        gi_wp2_with fail
        go_roundw
        case rel => exact ⟨k + 1, by omega, by (first | rfl | go_num), hide ⟨by rw [← unhide HNX]; exact (unhide HJ3).1, (unhide HJ3).2⟩⟩
        case measure => first | (simp [intOf]; done) | (simp [intOf]; omega)
      · have HJx3 := hide hJx3
        clear hJx3
        gi_wp2_with fail
        refine bodyPost_ret (results_none rfl _ _ _) rfl ?_
        exact ⟨⟨_, rfl⟩, .inr ⟨_, ⟨by simp, by rw [unhide HNX]; exact tlA_pre⟩, unhide HJx3⟩⟩
    · obtain rfl : k = n := by omega
      have hlt' : ¬ (k : Int) < (k : Int) := by omega
      have b2 := (hG.box.all 2 _ rfl).1
      have hym := (unhide HS).2.len
      have HQ0 := hide (show J (tlB i X ys 0) wr from by rw [← tlA_end (ys := ys) (unhide HI).2.2]; exact (unhide HQ).1)
      clear hG
      gi_wp2_with fail
      gi_loopw [32, 5] (fun jv _ wr' => ∃ j : Nat, j ≤ k2 ∧ jv = .int .i64 (j : Int) ∧ Hid (J (tlB i X ys j) wr' ∧ TpZ wr' Z n₀ w0 Bs [.int .i64 i, .slice a k c, .slice b k2 d])) (fun jv _ _ => k2 - (intOf jv).toNat)
      case atStart => exact ⟨0, Nat.zero_le _, rfl, hide ⟨unhide HQ0, (unhide HQ).2⟩⟩
      case round =>
        clear b1 b2
        obtain ⟨j, hj, rfl, HQ⟩ := hrel
        have hG := (unhide HQ).2
        by_cases hlj : j < k2
        · have hlj' : (j : Int) < (k2 : Int) := by omega
          obtain ⟨zb, zo, rfl, hc⟩ := ((unhide HS).2.below hG.bel).at (by omega)
          have sk := hc j hlj
          have hyj := (unhide HI).2.1 (ys.getD j 0) (by rw [List.getD_eq_getElem?_getD, List.getElem?_eq_getElem (by omega)]; exact List.getElem_mem (by omega))
          have hnx := tlB_next (i := i) (X := X) (ys := ys) (j := j) (by omega)
          obtain ⟨y, hyy0⟩ : ∃ y, ys.getD j 0 = y := ⟨_, rfl⟩
          rw [hyy0] at sk hyj hnx
          have hb1 : Below wr.heap.size wr (wr.alloc (.cells #[.int .i64 y] 3)) := (Below.refl _ _).alloc (Nat.le_refl _) _
          have K0 := tline_any wOut (by decide) (some ⟨wr.heap.size, 0, none⟩) 1 1 [y] _ (by decide) (sli_made wr [y] 3 (by simp)) (fun x hx => by simp at hx; omega) (((unhide HP).below hG.bel).below hb1)
          have HK := hide K0
          have HB1 := hide hb1
          have HYJ := hide hyj
          clear K0 hG hc hyy0 hyj hb1
          gi_wp2_with fail
          refine ⟨trivial, (callsIn_wide.2 (unhide HK)).mono ?_⟩
          rintro _ W2 ⟨rfl, hb3⟩
          have hb2 : Below wr.heap.size wr W2 := (unhide HB1).trans (hb3.mono (unhide HB1).size)
          have hJ2 := unhide HJ _ wr W2 none (unhide HQ).1 (grown_belowT hb2) (fun r e => by cases e)
          have HG2 := hide ((unhide HQ).2.chg (Chg.of_below hb2))
          obtain ⟨fn, tmps, assign, body, hyy, hRR⟩ := unhide HY _ (lnT wOut [y]) W2 hJ2 (tlB_lt (by omega))
          unfold encS at hyy
          rw [cutS_of (lnT_size (by decide) (by simp) (fun x hx => by have := unhide HYJ; simp at hx; omega))] at hyy
          try dsimp only at hyy
          obtain ⟨L1, hL1⟩ : ∃ L1, lnT wOut [y] = L1 := ⟨_, rfl⟩
          rw [hL1] at hyy hRR hnx ⊢
          have HNX := hide hnx
          have HR := hide hRR
          clear hRR hL1 hJ2 hb2 hb3 hnx HK HB1
          gi_wp2_with fail
          refine (unhide HR).mono ?_
          rintro e3 W3 (⟨rfl, hJ3, hk3⟩ | ⟨rfl, hJx3⟩)
          · have HJ3 := hide (And.intro hJ3 ((unhide HG2).chg hk3))
            clear hJ3 hk3 hyy HR
            gi_wp2_with fail
            go_roundw
            case rel => exact ⟨j + 1, by omega, by (first | rfl | go_num), hide ⟨by rw [← unhide HNX]; exact (unhide HJ3).1, (unhide HJ3).2⟩⟩
            case measure => first | (simp [intOf]; done) | (simp [intOf]; omega)
          · have HJx3 := hide hJx3
            clear hJx3
            gi_wp2_with fail
            refine bodyPost_ret (results_none rfl _ _ _) rfl ?_
            exact ⟨⟨_, rfl⟩, .inr ⟨_, ⟨by simp, by rw [unhide HNX]; exact tlB_pre⟩, unhide HJx3⟩⟩
        · obtain rfl : j = k2 := by omega
          have hlj' : ¬ (j : Int) < (j : Int) := by omega
          have HQE := hide (show J (tlL i X ys) wr from by rw [← tlB_end (i := i) (X := X) (ys := ys) (m := j) (by omega)]; exact (unhide HQ).1)
          clear hG
          gi_wp2_with fail
          go_end0
          exact ⟨⟨_, rfl⟩, .inl (unhide HQE)⟩
theorem lines_stops (m : Nat) (hm : 1 ≤ m) (Z : Nat → Prop) (Bs : Nat) (w0 : World) (i : Int) (a : Option Addr) (n c : Nat) (os : List On) (b : Option Addr) (k2 d : Nat) (ys : List Int) (X : List ByteArray) (w : World)
    (hs : SlO w0 a n c os) (hy : SlI w0 b k2 d ys) (hi : -9223372036854775808 ≤ i ∧ i ≤ 9223372036854775807) (hn : n ≤ 2048) (hk2 : k2 ≤ 64) (hyr : ∀ y ∈ ys, -9223372036854775808 ≤ y ∧ y ≤ 9223372036854775807) (hXl : X.length = n) (hXs : ∀ j, (X.getD j ⟨#[]⟩).size ≤ 2000000)
    (hXc : ∀ (j : Nat) (o : On), os[j]? = some o → ∀ W, Below w0.heap.size w0 W → Calls Tryz.prog 73 #[opV o] W fun e w' => e = .returned (.string (X.getD j ⟨#[]⟩)) ∧ Below W.heap.size W w') (hP : TabPw w0)
    (hG : TpZ w Z w.heap.size w0 Bs [.int .i64 i, .slice a n c, .slice b k2 d]) :
    SeqStopsK Fence.wide m Tryz.prog 71 #[.pointer (some ⟨Bs, 0, none⟩)] encS (KpT Z w.heap.size) (fun zs => zs = tlL i X ys) (fun pre => pre ≠ [] ∧ pre <+: tlL i X ys) (tlL i X ys).length w := fun l J Jx W hW hJ _ hY h0 =>
  lines1_in m hm l Bs w.heap.size Z w0 i a n c os b k2 d ys X hs hy hi hn hk2 hyr hXl hXs hXc hP J Jx W hJ hY hW.size (hG.chg (Chg.of_below hW)) h0
end Go.Proofs.YtpicknbdfjjflaaGreatDoor
