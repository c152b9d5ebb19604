/-
  COLOURS: slices.Max of whole numbers; colour.number: contracts.
-/
import Derived.Test.YtmlodfgpedoloaaGreatCg5
import Derived.Lib.MinMax
import Derived.Test.YtmlodfgpedoloaaGreatCga
namespace Go.Proofs.YtmlodfgpedoloaaGreat
open Go.RowKit Go.Deep
set_option linter.unusedVariables false

/-- The greatest of the first k. -/
structure MaxTo (xs : List Int) (k : Nat) (v : Int) : Prop where
  at_ : ∃ i, i < k ∧ xs.getD i 0 = v
  le : ∀ i, i < k → xs.getD i 0 ≤ v
theorem MaxTo.next {xs : List Int} {k : Nat} {v x : Int} (h : MaxTo xs k v) (hx : xs.getD k 0 = x) : MaxTo xs (k + 1) (max v x) := by
  obtain ⟨i, hi, he⟩ := h.at_
  refine ⟨?_, fun j hj => ?_⟩
  · by_cases c : v ≤ x
    · exact ⟨k, by omega, by rw [hx]; omega⟩
    · exact ⟨i, by omega, by rw [he]; omega⟩
  · by_cases e : j = k
    · subst e; rw [hx]; omega
    · have := h.le j (by omega); omega
theorem MaxTo.one {xs : List Int} {k : Nat} {v u : Int} (h : MaxTo xs k v) (g : MaxTo xs k u) : v = u := by
  obtain ⟨i, hi, he⟩ := h.at_
  obtain ⟨j, hj, hf⟩ := g.at_
  have := h.le j hj
  have := g.le i hi
  omega
set_option maxRecDepth 20000 in
set_option maxHeartbeats 8000000 in
/-- slices.Max of whole numbers. -/
theorem smax_any (a : Option Addr) (n c : Nat) (xs : List Int) (w : World) (h : SlI w a n c xs) (hn : n ≤ 1000000) (h0 : 0 < n) :
    Calls Tryz.prog 78 #[.slice a n c] w fun e w' => ∃ v : Int, e = .returned (.int .i64 v) ∧ MaxTo xs n v ∧ Below w.heap.size w w' := by
  have HS := hide h
  obtain ⟨b, off, rfl, hc⟩ := h.at (by omega)
  have s0 := hc 0 h0
  rw [Nat.add_zero] at s0
  obtain ⟨x, hx⟩ : ∃ x, xs.getD 0 0 = x := ⟨_, rfl⟩
  rw [hx] at s0
  have HX := hide hx
  have hn1 : ¬ (n : Int) < 1 := by omega
  have hn2 : (0 : Int) < (n : Int) := by omega
  clear h hc hx
  go_enter Tryz.func78, Tryz.ntmps78
  go_wp2_with fail
  go_loopw [3, 4] (fun mv iv wr => ∃ (u : Int) (k : Nat), 1 ≤ k ∧ k ≤ n ∧ mv = .int .i64 u ∧ iv = .int .i64 (k : Int) ∧ Hid (MaxTo xs k u) ∧ Hid (Below w.heap.size w wr)) (fun _ iv _ => n - (intOf iv).toNat)
  case atStart => exact ⟨x, 1, Nat.le_refl _, by omega, rfl, rfl, hide ⟨⟨0, by omega, unhide HX⟩, fun i hi => by rw [show i = 0 by omega, unhide HX]; exact Int.le_refl _⟩, hide (Below.refl _ _)⟩
  case round =>
    obtain ⟨u, k, hk1, hk, rfl, rfl, HM, HW⟩ := hrel
    clear s0
    by_cases hlt : k < n
    · have hlt' : (k : Int) < (n : Int) := by omega
      obtain ⟨b', off', e1, hc⟩ := ((unhide HS).below (unhide HW)).at (by omega)
      cases e1
      have sk := hc k hlt
      obtain ⟨y, hy⟩ : ∃ y, xs.getD k 0 = y := ⟨_, rfl⟩
      rw [hy] at sk
      have HN := hide ((unhide HM).next hy)
      obtain ⟨z, hz⟩ : ∃ z, max u y = z := ⟨_, rfl⟩
      rw [hz] at HN
      clear hc hy
      go_wp2_with fail
      exact ⟨⟨z, k + 1, by omega, by omega, by (first | rfl | simp [hz]), by (first | rfl | go_num), HN, HW⟩, by simp [intOf]; omega⟩
    · obtain rfl : k = n := by omega
      have hlt' : ¬ (k : Int) < (k : Int) := by omega
      go_wp2_with fail
      try go_ret
      exact ⟨u, rfl, unhide HM, unhide HW⟩
theorem wrap_i64n (x : Int) : IntKind.i64.wrap x = (x + 9223372036854775808) % 18446744073709551616 - 9223372036854775808 := by
  simp [IntKind.wrap, IntKind.bits, IntKind.signed]
  split <;> omega
/-- How many colours there are. -/
def NumC (cs : List Int) (z : Int) : Prop := MaxTo (-1 :: cs) (cs.length + 1) (z - 1)
set_option maxRecDepth 20000 in
set_option maxHeartbeats 8000000 in
/-- colour.number. -/
theorem cnumber_any (a : Option Addr) (n c : Nat) (cs : List Int) (w : World) (h : SlI w a n c cs) (hn : n ≤ 128) (hr : ∀ i, i < n → cs.getD i 0 ≤ 65536) (hnil : a = none → c = 0) :
    Calls Tryz.prog 48 #[.slice a n c] w fun e w' => ∃ z : Int, e = .returned (.int .i64 z) ∧ NumC cs z ∧ Below w.heap.size w w' := by
  have HS := hide h
  obtain ⟨i64, hi, hz, hs, hb⟩ := info_parts Tryz.info_i64
  have HI := hide (And.intro hi (And.intro hz (And.intro hs hb)))
  have hlc := h.len
  have HV := hide (show ∀ v, MaxTo (-1 :: cs) (cs.length + 1) v → -1 ≤ v ∧ v ≤ 65536 from fun v hv => by
    refine ⟨by have := hv.le 0 (by omega); simpa using this, ?_⟩
    obtain ⟨i, hi, he⟩ := hv.at_
    cases i with
    | zero => simp at he; omega
    | succ i =>
      rw [List.getD_cons_succ] at he
      have := hr i (by omega)
      omega)
  obtain ⟨wa, hwa⟩ : ∃ x, w.alloc (.cells #[.int .i64 (-1)] 3) = x := ⟨_, rfl⟩
  have ba : Below w.heap.size w wa := by rw [← hwa]; exact (Below.refl _ _).alloc (Nat.le_refl _) _
  have hblk : wa.heap[w.heap.size]? = some (.cells #[.int .i64 (-1)] 3 (0, 0)) := by rw [← hwa]; exact alloc_block _ _
  have HOW := hide (show wa.ownsRow w.heap.size 3 1 (.slice (some ⟨w.heap.size, 0, none⟩) 1 1) 1 [.int .i64 (-1)] from ⟨rfl, .inr ⟨w.heap.size, 1, #[.int .i64 (-1)], rfl, Nat.le_refl _, hblk, Nat.le_refl _, by decide, rfl, rfl⟩⟩)
  have HBA := hide ba
  have HLC := hide hlc
  by_cases hn0 : n = 0
  · subst hn0
    have hcs : cs = [] := List.eq_nil_of_length_eq_zero hlc
    have KM := hide (smax_any (some ⟨w.heap.size, 0, none⟩) 1 1 [-1] wa ((own_slI (xs := [-1]) (unhide HOW)).elim (fun a h => h.elim (fun c h => by have e := h.1; injection e with e1 e2 e3; subst e1 e3; exact h.2))) (by omega) (by omega))
    clear h hr hi hz hs hb hblk ba hlc
    have HNN := hide (show a = none → 0 = 0 ∧ c = 0 from fun e => ⟨rfl, hnil e⟩)
    have HCC := hide (show ∀ ad, a = some ad → ∀ j u, ([] : List Value)[j]? = some u → wa.cell? (ad.add j) = some u from fun ad _ j u hj => by simp at hj)
    have HO1 := hide (show ∀ u ∈ ([] : List Value), u.oneCell' = true from fun u hu => by cases hu)
    subst hcs
    clear hnil KM
    go_enter Tryz.func48, Tryz.ntmps48
    go_wp2_with (at_builtin; refine wpList_append_fits_any _ rfl _ _ 23 rfl w.heap.size 3 i64 1 Tryz.underlying23 (unhide HI).1 (unhide HI).2.2.1 w.heap.size 1 1 [.int .i64 (-1)] rfl (unhide HOW) a 0 c [] rfl rfl (unhide HNN) (unhide HCC) (unhide HO1) (by decide) ?_)
    intro w3 hown hg
    have hb3 : Below w.heap.size w w3 := (unhide HBA).grown hg (unhide HBA).size (fun j hj => by injection hj with hj; omega)
    obtain ⟨a4, c4, e4, s4⟩ := own_slI (xs := [-1]) (show w3.ownsRow w.heap.size 3 1 (.slice (some ⟨w.heap.size, 0, none⟩) 1 1) 1 (valsI [-1]) from by simpa [valsI] using hown)
    injection e4 with e5 e6 e7
    subst e5 e7
    have KM := hide (smax_any (some ⟨w.heap.size, 0, none⟩) 1 1 [-1] w3 s4 (by omega) (by omega))
    have HB3 := hide hb3
    clear hown hg hb3 e6 s4
    go_wp2_with fail
    refine (unhide KM).mono ?_
    rintro _ w4 ⟨v, rfl, hv, b4⟩
    have hrg := unhide HV v hv
    have HV2 := hide hv
    have HB4 := hide ((unhide HB3).trans (b4.mono (unhide HB3).size))
    have hw7 : IntKind.i64.wrap (1 + v) = 1 + v := by rw [wrap_i64n]; omega
    clear KM hv b4 hrg
    go_wp2_with fail
    try go_ret
    exact ⟨1 + v, rfl, (show MaxTo _ _ (1 + v - 1) from by rw [show 1 + v - 1 = v by omega]; exact unhide HV2), unhide HB4⟩
  · obtain ⟨b, off, rfl, hc⟩ := (h.below ba).at (by omega)
    have hnews : ∀ j u, (valsI cs)[j]? = some u → wa.cell? ((⟨b, off, none⟩ : Addr).add j) = some u := fun j u hj => by
      obtain ⟨h3, h4⟩ := List.getElem?_eq_some_iff.1 hj
      simp [valsI] at h3 h4
      have e0 : (⟨b, off, none⟩ : Addr).add j = ⟨b, off + j, none⟩ := by unfold Addr.add; split <;> simp_all
      rw [e0, hc j (by omega), ← h4]
      simp [List.getD, h3]
    have HNW := hide hnews
    have HON := hide (show ∀ u ∈ valsI cs, u.oneCell' = true from fun u hu => by simp [valsI] at hu; obtain ⟨x, _, rfl⟩ := hu; rfl)
    have HVL := hide (show (valsI cs).length = n * 1 by simp [valsI]; omega)
    have hmx : 1 + n ≤ maxLen := by unfold maxLen; omega
    have hby : (1 + n) * 8 ≤ 140737488355328 := by omega
    have hpn : 0 < n := by omega
    have hle := ba.size
    clear h hr hi hz hs hb hblk ba hlc hc hnews hn0
    go_enter Tryz.func48, Tryz.ntmps48
    go_wp2_with (at_builtin; refine wpList_append_lies _ rfl _ _ 23 rfl w.heap.size 3 i64 (.int .i64 0) 1 8 Tryz.underlying23 (unhide HI).1 (unhide HI).2.1 (unhide HI).2.2.1 (unhide HI).2.2.2 rfl (by decide) (.slice (some ⟨w.heap.size, 0, none⟩) 1 1) 1 [.int .i64 (-1)] rfl (unhide HOW) ⟨b, off, none⟩ n c (valsI cs) rfl (unhide HVL) (unhide HNW) (unhide HON) hpn hmx hby hle wa.heap.size rfl ?_)
    intro g cap w3 hown hg hat hlt
    have hb3 : Below w.heap.size w w3 := (unhide HBA).grown hg (unhide HBA).size (fun j hj => by simp [Value.ownBlock] at hj; omega)
    obtain ⟨a4, c4, e4, s4⟩ := own_slI (xs := -1 :: cs) (show w3.ownsRow w.heap.size 3 1 (.slice (some ⟨g, 0, none⟩) (1 + n) cap) (1 + n) (valsI (-1 :: cs)) from by simpa [valsI] using hown)
    injection e4 with e5 e6 e7
    subst e5 e7
    have KM := hide (smax_any (some ⟨g, 0, none⟩) (1 + n) cap (-1 :: cs) w3 s4 (by omega) (by omega))
    have HB3 := hide hb3
    clear hown hg hat hlt hb3 e6 s4
    go_wp2_with fail
    refine (unhide KM).mono ?_
    rintro _ w4 ⟨v, rfl, hv, b4⟩
    have hv2 : MaxTo (-1 :: cs) (cs.length + 1) v := by rw [unhide HLC, Nat.add_comm]; exact hv
    have hrg := unhide HV v hv2
    have HV2 := hide hv2
    have HB4 := hide ((unhide HB3).trans (b4.mono (unhide HB3).size))
    have hw7 : IntKind.i64.wrap (1 + v) = 1 + v := by rw [wrap_i64n]; omega
    clear KM hv b4 hv2 hrg
    go_wp2_with fail
    try go_ret
    exact ⟨1 + v, rfl, (show MaxTo _ _ (1 + v - 1) from by rw [show 1 + v - 1 = v by omega]; exact unhide HV2), unhide HB4⟩
end Go.Proofs.YtmlodfgpedoloaaGreat

namespace Go.Proofs.YtmlodfgpedoloaaGreat
open Go.RowKit Go.Deep
set_option linter.unusedVariables false

set_option maxRecDepth 100000 in
set_option maxHeartbeats 8000000 in
/-- colour.marks.drop. -/
theorem cdrop_any (X o : Nat) (cnt : Nat) (w : World) (hc : w.cell? ⟨X, o, none⟩ = some (.int .i64 (cnt : Int))) (hf : w.frozen? ⟨X, o, none⟩ = false) (hn : cnt ≤ 1000000000) :
    Calls Tryz.prog 68 #[.pointer (some ⟨X, o, none⟩)] w fun e w' => (∃ v, e = .returned v) ∧ w' = w.setCell ⟨X, o, none⟩ (.int .i64 ((cnt + 1 : Nat) : Int)) := by
  have hw : IntKind.i64.wrap ((cnt : Int) + 1) = (cnt : Int) + 1 := by rw [wrap_i64n]; omega
  have he : ((cnt + 1 : Nat) : Int) = (cnt : Int) + 1 := by omega
  rw [he]
  clear he
  go_enter Tryz.func68, Tryz.ntmps68
  go_wp2_with fail
  try go_region
  all_goals (try go_wp2_with fail)
  all_goals (try go_end0)
  all_goals exact ⟨⟨_, rfl⟩, rfl⟩
set_option maxRecDepth 100000 in
set_option maxHeartbeats 8000000 in
/-- colour.marks.set. -/
theorem cset_any (X o h n : Nat) (cnt : Int) (k : Nat) (u : Value) (w : World) (hc : w.cell? ⟨X, o, none⟩ = some (.int .i64 cnt)) (hl : w.cell? ⟨X, o + 1, none⟩ = some (.slice (some ⟨h, 0, none⟩) n n)) (hk : k < n) (hn : n ≤ 128) (hu : w.cell? ⟨h, k, none⟩ = some u) (hf : w.frozen? ⟨h, k, none⟩ = false) :
    Calls Tryz.prog 71 #[.pointer (some ⟨X, o, none⟩), .int .i64 (k : Int)] w fun e w' => (∃ v, e = .returned v) ∧ Chg (fun j => j = h) w w' ∧ ∀ f, RoV w h n f → RoV w' h n (fun i => if i = k then .int .i64 cnt else f i) := by
  have hk' : (k : Int) < (n : Int) := by omega
  go_enter Tryz.func71, Tryz.ntmps71
  go_wp2_with fail
  go_region
  all_goals (try go_wp2_with fail)
  all_goals (try go_end0)
  all_goals exact ⟨⟨_, rfl⟩, by first | exact (Chg.of_drew _).trans (Chg.of_set _ _ _ _ rfl) | exact (Chg.of_set _ _ _ _ rfl).trans (Chg.of_drew _) | exact Chg.of_set _ _ _ _ rfl, fun f hf => by first | exact RoV.put (hf.chg (S := fun _ => False) (Chg.of_drew _) (fun x => x)) k _ hk | exact (RoV.put hf k _ hk).chg (S := fun _ => False) (Chg.of_drew _) (fun x => x) | exact RoV.put hf k _ hk⟩
set_option maxRecDepth 100000 in
set_option maxHeartbeats 8000000 in
/-- colour.marks.has. -/
theorem chas_any (X o h n : Nat) (cnt : Int) (k : Nat) (u : Int) (w : World) (hc : w.cell? ⟨X, o, none⟩ = some (.int .i64 cnt)) (hl : w.cell? ⟨X, o + 1, none⟩ = some (.slice (some ⟨h, 0, none⟩) n n)) (hk : k < n) (hn : n ≤ 128) (hu : w.cell? ⟨h, k, none⟩ = some (.int .i64 u)) :
    Calls Tryz.prog 70 #[.pointer (some ⟨X, o, none⟩), .int .i64 (k : Int)] w fun e w' => e = .returned (.bool (u == cnt)) ∧ Below w.heap.size w w' := by
  have hk' : (k : Int) < (n : Int) := by omega
  go_enter Tryz.func70, Tryz.ntmps70
  go_wp2_with fail
  try go_quiet (fail)
  all_goals (try go_wp2_with fail)
  all_goals (try go_ret)
  all_goals exact ⟨rfl, by first | exact Below.refl _ _ | exact bel_drewN (Below.refl _ _) _⟩
/-- What a brush holds: its box, the colours, the marks; its graph lies elsewhere. -/
structure BrI (W : World) (X R : Nat) (vs : List Value) (b1 : Option Addr) (m1 d1 : Nat) (b2 : Option Addr) (m2 d2 : Nat) (g h : Nat) (cnt : Nat) (cs ls : Nat → Int) (st cols : List Int) : Prop where
  box : BoxP W X vs
  v9 : vs[9]? = some (.int .i64 (R : Int))
  v10 : vs[10]? = some (.int .i64 (R : Int))
  v11 : vs[11]? = some (.slice b1 m1 d1)
  v12 : vs[12]? = some (.slice b2 m2 d2)
  v13 : vs[13]? = some (.slice (some ⟨g, 0, none⟩) R R)
  v14 : vs[14]? = some (.int .i64 (cnt : Int))
  v15 : vs[15]? = some (.slice (some ⟨h, 0, none⟩) R R)
  col : RoV W g R (fun i => .int .i64 (cs i))
  last : RoV W h R (fun i => .int .i64 (ls i))
  s1 : SlI W b1 m1 d1 st
  s2 : SlI W b2 m2 d2 cols
  o1 : ∀ z, b1 = some z → st ≠ [] → z.block ≠ X ∧ z.block ≠ g ∧ z.block ≠ h
  o2 : ∀ z, b2 = some z → cols ≠ [] → z.block ≠ X ∧ z.block ≠ g ∧ z.block ≠ h
  ne : g ≠ h ∧ g ≠ X ∧ h ≠ X
theorem BrI.below {W W' : World} {X R : Nat} {vs : List Value} {b1 : Option Addr} {m1 d1 : Nat} {b2 : Option Addr} {m2 d2 : Nat} {g h cnt : Nat} {cs ls : Nat → Int} {st cols : List Int} (k : BrI W X R vs b1 m1 d1 b2 m2 d2 g h cnt cs ls st cols) (b : Below W.heap.size W W') : BrI W' X R vs b1 m1 d1 b2 m2 d2 g h cnt cs ls st cols :=
  ⟨k.box.below b, k.v9, k.v10, k.v11, k.v12, k.v13, k.v14, k.v15, k.col.below b, k.last.below b, k.s1.below b, k.s2.below b, k.o1, k.o2, k.ne⟩
/-- The neighbours of a thing that have a colour. -/
def cldL (cs : Nat → Int) : List Int → List Int
  | [] => []
  | u :: l => (if cs u.toNat = -1 then [] else [u]) ++ cldL cs l
theorem cldL_snoc (cs : Nat → Int) (u : Int) : ∀ l, cldL cs (l ++ [u]) = cldL cs l ++ (if cs u.toNat = -1 then [] else [u])
  | [] => by simp [cldL]
  | x :: l => by simp only [List.cons_append, cldL]; rw [cldL_snoc cs u l, List.append_assoc]
theorem cldL_len (cs : Nat → Int) : ∀ l, (cldL cs l).length ≤ l.length
  | [] => Nat.le_refl _
  | x :: l => by
    have := cldL_len cs l
    simp only [cldL, List.length_append, List.length_cons]
    split <;> simp <;> omega
/-- A new list. -/
def CldP (w w' : World) (e : Ending) (l : List Int) : Prop := ∃ a c, e = .returned (.slice a l.length c) ∧ SlI w' a l.length c l ∧ (∀ z, a = some z → w.heap.size ≤ z.block) ∧ Below w.heap.size w w'
set_option maxRecDepth 100000 in
set_option maxHeartbeats 16000000 in
/-- colour.brush.coloured. -/
theorem ccoloured_any (X R : Nat) (vs : List Value) (b1 : Option Addr) (m1 d1 : Nat) (b2 : Option Addr) (m2 d2 : Nat) (g h cnt : Nat) (cs ls : Nat → Int) (st cols : List Int) (v : Nat) (w : World) (hB : BrI w X R vs b1 m1 d1 b2 m2 d2 g h cnt cs ls st cols) (hm : MayP (R : Int) (R : Int) st cols) (hv : v < R) (hb1 : m1 ≤ 17592186044000) (hb2 : m2 ≤ 17592186044000) :
    Calls Tryz.prog 83 #[.pointer (some ⟨X, 0, none⟩), .int .i64 (v : Int)] w fun e w' => CldP w w' e (cldL cs (rowL st cols v)) := by
  obtain ⟨Xr, Yr, hRow⟩ := hm.rowAt (k := v) (by omega)
  have q9 := (hB.box.all 9 _ hB.v9).1
  have q10 := (hB.box.all 10 _ hB.v10).1
  have q11 := (hB.box.all 11 _ hB.v11).1
  have q12 := (hB.box.all 12 _ hB.v12).1
  have KR := hide (crow_any R (R : Int) b1 b2 m1 d1 m2 d2 st cols v Xr Yr w hB.s1 hB.s2 (by omega) (by omega) hm hv hRow)
  unfold patV subV at KR
  have hln := hB.s2.len
  have hsub := hB.s2.sub hRow.le (by rw [← hln]; exact hRow.lt)
  have eL : rowL st cols v = (cols.drop Xr).take (Yr - Xr) := by unfold rowL; rw [hRow.hX, hRow.hY]; simp
  rw [← eL] at hsub
  obtain ⟨A, hA⟩ : ∃ A, (if d2 = Xr then b2 else Option.map (fun x => x.add Xr) b2) = A := ⟨_, rfl⟩
  obtain ⟨q, hq⟩ : ∃ q, Yr - Xr = q := ⟨_, rfl⟩
  obtain ⟨d, hd⟩ : ∃ d, d2 - Xr = d := ⟨_, rfl⟩
  rw [hA, hq, hd] at KR hsub
  have hq8 : q ≤ 17592186044000 := by have := hRow.lt; omega
  have HRG := hide (fun (i : Nat) (hi : i < (rowL st cols v).length) => rowL_rng hm hv i hi)
  have HRW := hide (show ∀ i, i < q → (rowL st cols v).getD i 0 < (R : Int) from fun i hi => by
    have hrow := (RowP.sub hRow.le).2 hRow.row
    rw [← eL] at hrow
    exact (hrow.rng i (Nat.zero_le _) (by omega)).2)
  obtain ⟨xs, hxs⟩ : ∃ xs, rowL st cols v = xs := ⟨_, rfl⟩
  rw [hxs] at hsub HRG HRW ⊢
  have HXL := hide hsub.len
  have HSB := hide hsub
  have HBR := hide hB
  have hR8 : R ≤ 128 := by have := hm.head.fit; omega
  obtain ⟨i64, hi, hz, hs, hb⟩ := info_parts Tryz.info_i64
  have HI := hide (And.intro hi (And.intro hz (And.intro hs hb)))
  clear hi hz hs hb hB hsub hRow hA hq hd eL hln hm hxs
  go_enter Tryz.func83, Tryz.ntmps83
  go_wp2_with fail
  refine (unhide KR).mono ?_
  rintro _ w2 ⟨rfl, b2'⟩
  have HB2 := hide b2'
  have HBR2 := hide ((unhide HBR).below b2')
  have HSB2 := hide ((unhide HSB).below b2')
  clear KR b2' q9 q10 q11 q12
  go_wp2_with fail
  have hone : ∀ y : Int, ∀ z ∈ [Value.int .i64 y], z.oneCell' = true := by intro y z hz; simp at hz; subst hz; rfl
  go_loopw [16, 5] (fun kv lv wr => ∃ k : Nat, k ≤ q ∧ kv = .int .i64 (k : Int) ∧ Hid (wr.ownsRow w2.heap.size 3 1 lv (cldL cs (xs.take k)).length (valsI (cldL cs (xs.take k)))) ∧ Hid (Below w2.heap.size w2 wr)) (fun kv _ _ => q - (intOf kv).toNat)
  case atStart => exact ⟨0, Nat.zero_le _, rfl, hide (by simpa [cldL, valsI] using World.ownsRow_nil w2 w2.heap.size 3 1), hide (Below.refl _ _)⟩
  case round =>
    obtain ⟨k, hk, rfl, HO, HW⟩ := hrel
    by_cases hlt : k < q
    · have hlt' : (k : Int) < (q : Int) := by omega
      have hbr := (unhide HBR2).below (unhide HW)
      have q13 := (hbr.box.all 13 _ hbr.v13).1
      obtain ⟨bb, off, e1, hc⟩ := ((unhide HSB2).below (unhide HW)).at (by omega)
      subst e1
      have sk := hc k hlt
      have hg := unhide HRG k (by rw [unhide HXL]; exact hlt)
      have hgR := unhide HRW k hlt
      obtain ⟨x, hx⟩ : ∃ x : Nat, xs.getD k 0 = (x : Int) := ⟨(xs.getD k 0).toNat, by omega⟩
      rw [hx] at sk hg hgR
      have hxR : x < R := by omega
      have hcx := (hbr.col x hxR).1
      have HSN := hide (show xs.take (k + 1) = xs.take k ++ [(x : Int)] from by
        have hl := unhide HXL
        rw [List.take_add_one]
        congr 1
        rw [List.getElem?_eq_getElem (by omega)]
        simp [List.getD, show k < xs.length by omega] at hx
        simp [hx])
      obtain ⟨y, hy⟩ : ∃ y, cs x = y := ⟨_, rfl⟩
      simp only [hy] at hcx
      have HY := hide hy
      have hcl : (cldL cs (xs.take k)).length ≤ 17592186044000 := by have := cldL_len cs (xs.take k); rw [List.length_take] at this; omega
      clear hbr hc hx hg hy
      by_cases hn : y = -1
      · have hn1 : (y != -1) = false := by simp [hn]
        have HN := hide (show wr.ownsRow w2.heap.size 3 1 u5 (cldL cs (xs.take (k + 1))).length (valsI (cldL cs (xs.take (k + 1)))) from by
          rw [unhide HSN, cldL_snoc]
          have e : cs ((x : Int)).toNat = -1 := by rw [show ((x : Int)).toNat = x by omega, unhide HY]; exact hn
          rw [if_pos e, List.append_nil]
          exact unhide HO)
        clear hn
        go_wp2_with fail
        exact ⟨⟨k + 1, by omega, by (first | rfl | go_num), HN, HW⟩, by simp [intOf]; omega⟩
      · have hn1 : (y != -1) = true := by simp [hn]
        have HN1 := hide (show cldL cs (xs.take (k + 1)) = cldL cs (xs.take k) ++ [(x : Int)] from by
          rw [unhide HSN, cldL_snoc]
          have e : ¬ cs ((x : Int)).toNat = -1 := by rw [show ((x : Int)).toNat = x by omega, unhide HY]; exact hn
          rw [if_neg e])
        obtain ⟨C, hC⟩ : ∃ C, cldL cs (xs.take k) = C := ⟨_, rfl⟩
        rw [hC] at HO hcl HN1
        have hmx : C.length + 1 ≤ maxLen := by unfold maxLen; omega
        have hby : (C.length + 1) * 8 ≤ 140737488355328 := by omega
        have hsz := (unhide HW).size
        clear hn hC
        go_wp2_with (at_builtin; refine wpList_append_lies _ rfl _ _ 23 rfl w2.heap.size 3 i64 (.int .i64 0) 1 8 Tryz.underlying23 (unhide HI).1 (unhide HI).2.1 (unhide HI).2.2.1 (unhide HI).2.2.2 rfl (by decide) u5 C.length (valsI C) rfl ((unhide HO).alloc _) ⟨wr.heap.size, 0, none⟩ 1 1 [.int .i64 (x : Int)] rfl rfl (World.news_of_block (alloc_block _ _)) (hone _) (by decide) hmx hby (by simp; omega) (wr.heap.size + 1) (by simp) ?_)
        intro g2 cap w4 hown hgr hat hlt4
        have hB4 : Below w2.heap.size w2 w4 := ((unhide HW).trans (((Below.refl w2.heap.size wr).alloc hsz _))).grown hgr (by simp; omega) (fun j hj => (own_ge (unhide HO) j hj).1)
        have HN := hide (show w4.ownsRow w2.heap.size 3 1 (.slice (some ⟨g2, 0, none⟩) (C.length + 1) cap) (cldL cs (xs.take (k + 1))).length (valsI (cldL cs (xs.take (k + 1)))) from by
          rw [unhide HN1]
          simpa [valsI] using hown)
        have HB4 := hide hB4
        clear hown hgr hat hlt4 hB4
        go_wp2_with fail
        exact ⟨⟨k + 1, by omega, by (first | rfl | go_num), HN, HB4⟩, by simp [intOf]; omega⟩
    · obtain rfl : k = q := by omega
      have hlt' : ¬ (k : Int) < (k : Int) := by omega
      have ho := unhide HO
      rw [← unhide HXL, List.take_length] at ho
      obtain ⟨a, c, hv', hs'⟩ := own_slI ho
      have HNEW := hide (show ∀ z, a = some z → w2.heap.size ≤ z.block from fun z hz => (own_ge ho z.block (by rw [hv', hz]; rfl)).1)
      have HSS := hide hs'
      subst hv'
      clear ho hs'
      go_wp2_with fail
      try go_ret
      exact ⟨a, c, rfl, unhide HSS, fun z hz => Nat.le_trans (unhide HB2).size (unhide HNEW z hz), (unhide HB2).trans ((unhide HW).mono (unhide HB2).size)⟩
end Go.Proofs.YtmlodfgpedoloaaGreat
