/-
  slopelaw1.kept: contract; the walk of NatFolds.
-/
import Derived.Test.YtlecjjcpidjmhaaFo5
namespace Go.Proofs.Ytlecjjcpidjmhaa
open Go.RowKit Go.Deep
set_option linter.unusedVariables false

theorem same_lists : ∀ {qs ps : List Pc}, qs.map Pc.xs = ps.map Pc.xs → mayB qs = mayB ps ∧ sumV qs = sumV ps ∧ ∀ z, prodF z qs = prodF z ps
  | [], [], _ => ⟨rfl, rfl, fun _ => rfl⟩
  | [], _ :: _, h => by simp at h
  | _ :: _, [], h => by simp at h
  | q :: qs, p :: ps, h => by
    simp only [List.map_cons, List.cons.injEq] at h
    obtain ⟨h1, h2⟩ := h
    obtain ⟨i1, i2, i3⟩ := same_lists h2
    refine ⟨?_, ?_, fun z => ?_⟩
    · unfold mayB at i1 ⊢
      simp only [List.all_cons, h1, i1]
    · simp only [sumV, h1, i2]
    · simp only [prodF, h1, i3]
theorem same_sum {qs ps : List Pc} (h : qs.map Pc.xs = ps.map Pc.xs) : sumL qs = sumL ps := by
  obtain ⟨i1, i2, i3⟩ := same_lists h
  unfold sumL
  rw [i1, i2]
theorem same_prod {qs ps : List Pc} (h : qs.map Pc.xs = ps.map Pc.xs) : prodL qs = prodL ps := by
  obtain ⟨i1, i2, i3⟩ := same_lists h
  unfold prodL
  rw [i1, i3]

theorem Row.lists {w : World} {base B : Nat} {v0 v1 v : Value} {es : List Ent} {w0 : World} {qs L : List Pc} (r : Row w base B v0 v1 v qs L) (h : LawSt w B v0 v1 es w0 L) {n : Nat} (hn : qs.length = n) (ok : ∀ q ∈ qs, Ok q.xs) : ∃ a c, v = .slice a n c ∧ SlL w a n c qs := by
  have ho := r.own
  rw [hn] at ho
  rcases ho.2 with ⟨e, h0⟩ | ⟨g, cap, cur, e, hb, h5, h6, h7, h8, h9⟩
  · refine ⟨none, 0, by rw [e, h0], by rw [hn], by omega, .inl (List.eq_nil_of_length_eq_zero (by omega)), fun q hq => ⟨(h.all q (r.mem q hq)).sl, ok q hq⟩⟩
  · refine ⟨_, cap, e, hn, h6, .inr ⟨g, 0, rfl, fun i q hq => ?_⟩, fun q hq => ⟨(h.all q (r.mem q hq)).sl, ok q hq⟩⟩
    rw [e] at ho
    obtain ⟨hi, _⟩ := List.getElem?_eq_some_iff.1 hq
    have hc := ho.cellAt i (by omega)
    rw [List.getElem?_map, hq] at hc
    rw [Nat.zero_add]
    exact hc

set_option maxHeartbeats 4000000 in
/-- slopelaw1.kept, of lists that are the same. -/
theorem kept_any (a1 a2 : Option Addr) (n c1 c2 : Nat) (qs ps : List Pc) (w : World) (h1 : SlL w a1 n c1 qs) (h2 : SlL w a2 n c2 ps) (hn : n ≤ 140737488355328) (he : qs.map Pc.xs = ps.map Pc.xs) :
    Calls Try.prog 26 #[.slice a1 n c1, .slice a2 n c2] w fun e w' => e = .returned (.bool true) ∧ Below w.heap.size w w' := by
  have H1 := hide h1
  have H2 := hide h2
  have HE := hide he
  clear h1 h2 he
  go_enter Try.func26, Try.ntmps26
  go_wp2_with fail
  go_loopw [5] (fun iv wr => ∃ i : Nat, i ≤ n ∧ iv = .int .i64 (i : Nat) ∧ Below w.heap.size w wr) (fun iv _ => n - (intOf iv).toNat)
  case atStart => exact ⟨0, Nat.zero_le _, rfl, Below.refl _ _⟩
  case round =>
    obtain ⟨i, hi, rfl, hB⟩ := hrel
    by_cases hlt : i < n
    · have hlt' : (i:Int) < (n:Int) := by omega
      obtain ⟨b1, o1, q, rfl, hq, hc1, hs1, ok1⟩ := ((unhide H1).below hB).at' hlt
      obtain ⟨b2, o2, p, rfl, hp, hc2, hs2, ok2⟩ := ((unhide H2).below hB).at' hlt
      have hx : q.xs = p.xs := by
        have e1 : (qs.map Pc.xs)[i]? = some q.xs := by rw [List.getElem?_map, hq]; rfl
        have e2 : (ps.map Pc.xs)[i]? = some p.xs := by rw [List.getElem?_map, hp]; rfl
        rw [unhide HE, e2] at e1
        exact (Option.some.inj e1).symm
      have d1 : wr.drew.cell? ⟨b1, o1 + i, none⟩ = some (.slice q.a q.n q.c) := hc1
      have d2 : wr.drew.cell? ⟨b2, o2 + i, none⟩ = some (.slice p.a p.n p.c) := hc2
      have KS := same_any q.a p.a q.n q.c p.n p.c q.xs p.xs wr.drew (hs1.below (Below.refl _ _).drew) (hs2.below (Below.refl _ _).drew)
      rw [decide_eq_true hx] at KS
      have KS' := hide KS
      have HB := hide hB.drew
      clear KS hx hs1 hs2 ok1 ok2 hq hp hB
      go_wp2_with fail
      go_region_with (go_at_call 10; refine (unhide KS').mono ?_; rintro _ w2 ⟨rfl, k2, hw2⟩; have HB2 := hide (show Below w.heap.size w w2 from by rw [hw2]; exact bel_drewN (unhide HB) k2); clear hw2 KS' HB)
      all_goals
        go_wp2_with fail
        exact ⟨⟨i + 1, by omega, by go_num, unhide HB2⟩, by simp [intOf]; omega⟩
    · obtain rfl : i = n := by omega
      have hlt' : ¬ (i:Int) < (i:Int) := by omega
      have HB := hide hB
      clear hB
      go_wp2_with fail
      go_ret
      exact ⟨rfl, unhide HB⟩

set_option maxHeartbeats 8000000 in
theorem natFolds_walk (a : Option Addr) (n c : Nat) (ps : List Pc) (w : World) (h : SlL w a n c ps) (hn : n ≤ 2000000) (hp : ∀ p ∈ ps, p.n ≤ 35184372088000) :
    Calls Try.prog 6 #[.slice a n c] w fun e w' => e = .returned (.bool true) ∧ Below w.heap.size w w' := by
  have HS0 := hide (LawSt.begin (w := w) (L := []) _ rfl (by intro p hp; cases hp))
  have H := hide h
  have HP := hide hp
  have HOK := hide (show ∀ p ∈ ps, Ok p.xs from fun p hp => (h.each p hp).2)
  clear h hp
  go_enter Try.func6, Try.ntmps6
  go_wp2_with fail
  refine (many_any w.heap.size (.slice none 0 0) (.slice none 0 0) [] w _ [] a n c ps (unhide HS0) (unhide H) (fun p hp => by cases hp) (by omega) (by simp) (unhide HP)).mono ?_
  rintro _ w1 ⟨vA, y0, y1, es1, L1, qA, rfl, he1, hA⟩
  have okA : ∀ q ∈ qA, Ok q.xs := by
    intro q hq
    have : q.xs ∈ ps.map Pc.xs := by
      have h1 : q.xs ∈ qA.map Pc.xs := List.mem_map_of_mem hq
      rw [hA.same] at h1
      obtain ⟨z, hz, e⟩ := List.mem_map.1 h1
      exact e ▸ List.mem_map_of_mem (List.mem_of_mem_take hz)
    obtain ⟨z, hz, e⟩ := List.mem_map.1 this
    rw [← e]
    exact unhide HOK z hz
  have HA := hide hA
  have KB := many_any w.heap.size y0 y1 es1 w w1 L1 a n c ps hA.law (unhide H) hA.easy (by omega) (by simp at he1; omega) (unhide HP)
  obtain ⟨aA, cA, rfl⟩ := own_lenF hA.row.own
  rw [hA.len]
  have KB' := hide KB
  clear KB hA HS0
  go_wp2_with fail
  refine (unhide KB').mono ?_
  rintro _ w2 ⟨vB, z0, z1, es2, L2, qB, rfl, he2, hB⟩
  have okB : ∀ q ∈ qB, Ok q.xs := by
    intro q hq
    have : q.xs ∈ ps.map Pc.xs := by
      have h1 : q.xs ∈ qB.map Pc.xs := List.mem_map_of_mem hq
      rw [hB.same] at h1
      obtain ⟨z, hz, e⟩ := List.mem_map.1 h1
      exact e ▸ List.mem_map_of_mem (List.mem_of_mem_take hz)
    obtain ⟨z, hz, e⟩ := List.mem_map.1 this
    rw [← e]
    exact unhide HOK z hz
  have hA := unhide HA
  have htk : ps.take n = ps := List.take_of_length_le (by rw [(unhide H).len]; exact Nat.le_refl _)
  have rA := hA.row.fr hB.fr hB.sub
  rw [hA.len] at rA
  obtain ⟨aA', cA', eA, SA⟩ := rA.lists hB.law hA.len okA
  cases eA
  obtain ⟨aB, cB, rfl, SB⟩ := hB.row.lists hB.law hB.len okB
  have sA := hA.same
  have sB := hB.same
  rw [htk] at sA sB
  have SL := (unhide H).below hB.law.bel
  have KsA := nsum_any aA n cA qA w2 SA (by omega)
  rw [same_sum sA] at KsA
  have KsA' := hide KsA
  have HLw := hide hB.law
  have HS := hide (And.intro SA (And.intro SB (And.intro SL (And.intro sA sB))))
  clear KsA hA rA SA SB SL sA sB hB HA KB' okA okB htk
  go_wp2_with fail
  refine (unhide KsA').mono ?_
  rintro _ w3 ⟨a3, m3, c3, rfl, s3, n3, b3⟩
  have HLw3 := hide ((unhide HLw).res b3 s3 n3)
  have HB3 := hide b3
  have hS := unhide HS
  have KrS := hide (rsum_any a n c ps w3 (hS.2.2.1.below b3) (by omega))
  clear s3 n3 b3 KsA' HLw hS
  go_wp2_with fail
  refine (unhide KrS).mono ?_
  rintro _ w4 ⟨a4, m4, c4, rfl, s4, n4, b4⟩
  have HLw4 := hide ((unhide HLw3).res b4 s4 n4)
  have HB4 := hide ((unhide HB3).trans (b4.mono (unhide HB3).size))
  have hS := unhide HS
  have KpB := nprod_any aB n cB qB w4 (hS.2.1.below (unhide HB4)) (by omega)
  rw [same_prod hS.2.2.2.2] at KpB
  have KpB' := hide KpB
  clear s4 n4 b4 KrS HLw3 HB3 hS KpB
  go_wp2_with fail
  refine (unhide KpB').mono ?_
  rintro _ w5 ⟨a5, m5, c5, rfl, s5, n5, b5⟩
  have HLw5 := hide ((unhide HLw4).res b5 s5 n5)
  have HB5 := hide ((unhide HB4).trans (b5.mono (unhide HB4).size))
  have hS := unhide HS
  have KrP := hide (rprod_any a n c ps w5 (hS.2.2.1.below (unhide HB5)) (by omega))
  clear s5 n5 b5 KpB' HLw4 HB4 hS
  go_wp2_with fail
  refine (unhide KrP).mono ?_
  rintro _ w6 ⟨a6, m6, c6, rfl, s6, n6, b6⟩
  have HLw6 := hide ((unhide HLw5).res b6 s6 n6)
  have HB6 := hide ((unhide HB5).trans (b6.mono (unhide HB5).size))
  clear s6 n6 b6 KrP HLw5 HB5
  go_wp2_with fail
  refine (num_any _ _).mono ?_
  rintro _ _ ⟨rfl, hw⟩
  obtain rfl := hw.symm
  clear hw
  go_wp2_with fail
  refine (num_any _ _).mono ?_
  rintro _ _ ⟨rfl, hw⟩
  obtain rfl := hw.symm
  clear hw
  go_wp2_with fail
  refine (same_any a3 a4 m3 c3 m4 c4 _ _ w6 ((unhide HLw6).sl ⟨a3, m3, c3, (sumL ps).1⟩ (by simp)) ((unhide HLw6).sl ⟨a4, m4, c4, (sumL ps).1⟩ (by simp))).mono ?_
  rintro _ w7 ⟨rfl, k7, hw7⟩
  rw [decide_eq_true rfl]
  have HLw7 := hide (show LawSt w7 _ _ _ _ _ _ from by rw [hw7]; exact (unhide HLw6).drewN k7)
  have HB7 := hide (show Below w2.heap.size w2 w7 from by rw [hw7]; exact bel_drewN (unhide HB6) k7)
  clear hw7 HLw6 HB6
  go_wp2_with fail
  refine (same_any a5 a6 m5 c5 m6 c6 _ _ w7 ((unhide HLw7).sl ⟨a5, m5, c5, (prodL ps).1⟩ (by simp)) ((unhide HLw7).sl ⟨a6, m6, c6, (prodL ps).1⟩ (by simp))).mono ?_
  rintro _ w8 ⟨rfl, k8, hw8⟩
  rw [decide_eq_true rfl]
  have HLw8 := hide (show LawSt w8 _ _ _ _ _ _ from by rw [hw8]; exact (unhide HLw7).drewN k8)
  have HB8 := hide (show Below w2.heap.size w2 w8 from by rw [hw8]; exact bel_drewN (unhide HB7) k8)
  clear hw8 HLw7 HB7
  go_wp2_with fail
  refine (kept_any aA a n cA c qA ps w8 ((unhide HS).1.below (unhide HB8)) ((unhide HS).2.2.1.below (unhide HB8)) (by omega) (unhide HS).2.2.2.1).mono ?_
  rintro _ w9 ⟨rfl, b9⟩
  have HLw9 := hide ((unhide HLw8).keep b9)
  have HB9 := hide ((unhide HB8).trans (b9.mono (unhide HB8).size))
  clear b9 HLw8 HB8
  go_wp2_with fail
  refine (kept_any aB a n cB c qB ps w9 ((unhide HS).2.1.below (unhide HB9)) ((unhide HS).2.2.1.below (unhide HB9)) (by omega) (unhide HS).2.2.2.2).mono ?_
  rintro _ wA ⟨rfl, bA⟩
  have HLwA := hide ((unhide HLw9).keep bA)
  clear bA HLw9 HB9
  go_wp2_with fail
  refine ((unhide HLwA).intact).mono ?_
  rintro _ wB ⟨rfl, hst⟩
  have HLwB := hide hst
  clear hst HLwA
  go_wp2
  go_ret
  exact ⟨rfl, (unhide HLwB).bel⟩
end Go.Proofs.Ytlecjjcpidjmhaa
