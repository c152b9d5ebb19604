/- Cx8 -/
import Derived.Test.YtgjokididdffhaaGreatCx7
import Derived.Test.YtgjokididdffhaaGreatCxj
import Derived.Test.YtgjokididdffhaaGreatCxe
import Derived.Test.YtgjokididdffhaaGreatCj2
import Derived.Test.YtgjokididdffhaaGreatCw5
import Derived.Test.YtgjokididdffhaaGreatCxd
namespace Go.Proofs.YtgjokididdffhaaGreat
open Go.RowKit Go.Deep
set_option linter.unusedVariables false
def CqP (ad : Nat → Nat → Prop) (cs : Nat → Int) (Fo : Int → Int → Prop) (u v : Nat) (c d : Int) : Prop := ∃ u' v', (u' < u ∨ (u' = u ∧ v' < v)) ∧ ad u' v' ∧ cs u' = c ∧ cs v' = d ∧ c ≤ d ∧ ¬ Fo c d
def BsI (P : Int → Int → Prop) : Option (Int × Int) → Prop
  | none => ∀ c d, ¬ P c d
  | some (c, d) => P c d ∧ ∀ c' d', P c' d' → (c < c' ∨ (c = c' ∧ d ≤ d'))
def ciL : Option (Int × Int) → List Int
  | none => []
  | some (c, d) => [c, d]
theorem BsI.congr {P P' : Int → Int → Prop} {o : Option (Int × Int)} (h : BsI P o) (e : ∀ c d, P' c d ↔ P c d) : BsI P' o := by
  have : P' = P := by funext c d; exact propext (e c d)
  rw [this]; exact h
theorem BsI.one {P : Int → Int → Prop} {o q : Option (Int × Int)} (h : BsI P o) (g : BsI P q) : o = q := by
  cases o with
  | none =>
    cases q with
    | none => rfl
    | some q => exact absurd g.1 (h _ _)
  | some o =>
    cases q with
    | none => exact absurd h.1 (g _ _)
    | some q =>
      obtain ⟨a, b⟩ := o
      obtain ⟨c, d⟩ := q
      have h1 := h.2 c d g.1
      have h2 := g.2 a b h.1
      have : a = c ∧ b = d := by omega
      rw [this.1, this.2]
section
variable {ad : Nat → Nat → Prop} {cs : Nat → Int} {Fo : Int → Int → Prop} {u v : Nat}
theorem CqP.next (c d : Int) : CqP ad cs Fo u (v + 1) c d ↔ (CqP ad cs Fo u v c d ∨ (ad u v ∧ cs u = c ∧ cs v = d ∧ c ≤ d ∧ ¬ Fo c d)) := by
  constructor
  · rintro ⟨u', v', h, k⟩
    by_cases e : u' = u ∧ v' = v
    · obtain ⟨rfl, rfl⟩ := e; exact .inr k
    · exact .inl ⟨u', v', by omega, k⟩
  · rintro (⟨u', v', h, k⟩ | k)
    · exact ⟨u', v', by omega, k⟩
    · exact ⟨u, v, by omega, k⟩
theorem CqP.row {N : Nat} (had : ∀ u v, ad u v → u < N ∧ v < N) (c d : Int) : CqP ad cs Fo (u + 1) 0 c d ↔ CqP ad cs Fo u N c d := by
  constructor
  · rintro ⟨u', v', h, k⟩
    have := (had u' v' k.1).2
    exact ⟨u', v', by omega, k⟩
  · rintro ⟨u', v', h, k⟩
    exact ⟨u', v', by omega, k⟩
theorem BsI.skip {o : Option (Int × Int)} (h : BsI (CqP ad cs Fo u v) o) (k : ad u v → cs u ≤ cs v → Fo (cs u) (cs v)) : BsI (CqP ad cs Fo u (v + 1)) o := h.congr (fun c d => by
  rw [CqP.next]
  refine ⟨fun q => q.elim id (fun q => ?_), .inl⟩
  obtain ⟨h1, rfl, rfl, h4, h5⟩ := q
  exact absurd (k h1 h4) h5)
theorem BsI.keep {a b : Int} (h : BsI (CqP ad cs Fo u v) (some (a, b))) (k : ¬ (cs u < a ∨ (cs u = a ∧ cs v < b))) : BsI (CqP ad cs Fo u (v + 1)) (some (a, b)) := by
  refine ⟨(CqP.next a b).2 (.inl h.1), fun c d q => ?_⟩
  rcases (CqP.next c d).1 q with q | ⟨_, rfl, rfl, _, _⟩
  · exact h.2 c d q
  · omega
theorem BsI.take {o : Option (Int × Int)} (h : BsI (CqP ad cs Fo u v) o) (h1 : ad u v) (h2 : cs u ≤ cs v) (h3 : ¬ Fo (cs u) (cs v)) (k : ∀ a b, o = some (a, b) → (cs u < a ∨ (cs u = a ∧ cs v < b))) : BsI (CqP ad cs Fo u (v + 1)) (some (cs u, cs v)) := by
  refine ⟨(CqP.next _ _).2 (.inr ⟨h1, rfl, rfl, h2, h3⟩), fun c d q => ?_⟩
  rcases (CqP.next c d).1 q with q | ⟨_, rfl, rfl, _, _⟩
  · cases o with
    | none => exact absurd q (h c d)
    | some p =>
      obtain ⟨a, b⟩ := p
      have := h.2 c d q
      have := k a b rfl
      omega
  · omega
end
set_option maxRecDepth 100000 in
set_option maxHeartbeats 16000000 in
theorem wcircle_any (N gb m : Nat) (Q : Nat → Bool) (ad : Nat → Nat → Prop) (hQ : ∀ u v, u < N → v < N → (Q (u * N + v) = true ↔ ad u v)) (had : ∀ u v, ad u v → u < N ∧ v < N) (ac : Option Addr) (cc : Nat) (xs : List Int) (w : World) (hN : N ≤ 128) (hmm : N * N = m) (hR : RoV w gb m (fun i => .bool (Q i))) (h3 : SlI w ac N cc xs) (q : Option (Int × Int)) (hq : BsI (CqP ad (fun i => xs.getD i 0) (fun c d => FoP (adQ Q N) (fun u => u < N ∧ twB (fun i => xs.getD i 0) c d u = true)) N 0) q) :
    Calls Tryz.prog 62 #[grV N gb m, .slice ac N cc] w fun e w' => OwA (ciL q) w w' e := by
  obtain ⟨wb, hwb⟩ : ∃ x, w.alloc (.cells #[.int .i64 (N : Int), .slice (some ⟨gb, 0, none⟩) m m] 45) = x := ⟨_, rfl⟩
  have bb : Below w.heap.size w wb := by rw [← hwb]; exact (Below.refl _ _).alloc (Nat.le_refl _) _
  have hT := BoxP.made w #[.int .i64 (N : Int), .slice (some ⟨gb, 0, none⟩) m m] 45
  rw [hwb] at hT
  have hm2 : m ≤ 16384 := by rw [← hmm]; exact Nat.mul_le_mul hN hN
  have p0 := (hT.all 0 _ rfl).1
  obtain ⟨cs, hcs⟩ : ∃ cs, (fun i => xs.getD i 0) = cs := ⟨_, rfl⟩
  rw [hcs] at hq
  obtain ⟨Fo, hFo⟩ : ∃ Fo, (fun c d => FoP (adQ Q N) (fun u => u < N ∧ twB cs c d u = true)) = Fo := ⟨_, rfl⟩
  rw [hFo] at hq
  have HA := hide (show ∀ W, Below wb.heap.size wb W → BoxP W w.heap.size [.int .i64 (N : Int), .slice (some ⟨gb, 0, none⟩) m m] ∧ SlI W ac N cc xs ∧ Below w.heap.size w W from fun W b => ⟨hT.below b, (h3.below bb).below b, bb.trans (b.mono bb.size)⟩)
  have HM := hide (show ∀ W, Below wb.heap.size wb W → ∀ u z t, u < N → z < N → Q (u * N + z) = t → Calls Tryz.prog 59 #[.agg #[.int .i64 (N : Int), .slice (some ⟨gb, 0, none⟩) m m], .int .i64 (u : Int), .int .i64 (z : Int)] W fun e w' => e = .returned (.bool t) ∧ Below W.heap.size W w' from fun W b u z t hu hz ht => by
    subst ht
    exact wmeet_any N gb m u z Q W hN (by omega) (by omega) (by rw [← hmm]; have := Nat.mul_le_mul_right N (show u + 1 ≤ N by omega); rw [Nat.add_mul, Nat.one_mul] at this; omega) hm2 ((hR.below bb).below b))
  have HF := hide (show ∀ W, Below wb.heap.size wb W → ∀ c d t, TruQ t (Fo c d) → Calls Tryz.prog 91 #[.agg #[.int .i64 (N : Int), .slice (some ⟨gb, 0, none⟩) m m], .slice ac N cc, .int .i64 c, .int .i64 d] W fun e w' => e = .returned (.bool t) ∧ Below W.heap.size W w' from fun W b c d t ht => wforestL_any N gb m Q ac cc xs cs hcs c d W hN hmm ((hR.below bb).below b) ((h3.below bb).below b) t (by rw [← hFo] at ht; exact ht))
  have HQ := hide hQ
  have HD := hide had
  have HO := hide hq
  have HCS := hide hcs
  have hwsz := bb.size
  have hwlt := hT.lt
  clear hT bb hR h3 hq hmm hQ had hFo hcs
  unfold grV
  go_enter Tryz.func62, Tryz.ntmps62
  go_wp2_with fail
  clear p0
  go_loopw [6, 5] (fun uv bv wr => ∃ (u : Nat) (o : Option (Int × Int)), u ≤ N ∧ uv = .int .i64 (u : Int) ∧ Hid (BsI (CqP ad cs Fo u 0) o) ∧ Hid (wr.ownsRow wb.heap.size 3 1 bv (ciL o).length (valsI (ciL o))) ∧ Hid (Below wb.heap.size wb wr)) (fun uv _ _ => N - (intOf uv).toNat)
  case atStart => exact ⟨0, none, Nat.zero_le _, rfl, hide (fun c d ⟨u', v', h, _⟩ => by omega), hide (World.ownsRow_nil _ _ _ _), hide (Below.refl _ _)⟩
  case round =>
    obtain ⟨u, o, hu, rfl, HB, HO1, HW⟩ := hrel
    have hx := unhide HA wr (unhide HW)
    have p0 := (hx.1.all 0 _ rfl).1
    by_cases hul : u < N
    · have hul' : (u : Int) < (N : Int) := by omega
      clear hx
      go_wp2_with fail
      clear p0
      go_loopw [7, 5] (fun vv bv wq => ∃ (v : Nat) (o : Option (Int × Int)), v ≤ N ∧ vv = .int .i64 (v : Int) ∧ Hid (BsI (CqP ad cs Fo u v) o) ∧ Hid (wq.ownsRow wb.heap.size 3 1 bv (ciL o).length (valsI (ciL o))) ∧ Hid (Below wb.heap.size wb wq)) (fun vv _ _ => N - (intOf vv).toNat)
      case atStart => exact ⟨0, o, Nat.zero_le _, rfl, HB, HO1, HW⟩
      case round =>
        obtain ⟨v, o, hv, rfl, HB, HO1, HW⟩ := hrel
        have hx := unhide HA wr (unhide HW)
        have p0 := (hx.1.all 0 _ rfl).1
        have p1 := (hx.1.all 1 _ rfl).1
        by_cases hvl : v < N
        · have hvl' : (v : Int) < (N : Int) := by omega
          obtain ⟨bc, oc, ea, hcx⟩ := hx.2.1.at (by omega)
          subst ea
          have s0 : wr.cell? ⟨bc, oc + u, none⟩ = some (.int .i64 (cs u)) := by rw [← unhide HCS]; exact hcx u hul
          have s1 : wr.cell? ⟨bc, oc + v, none⟩ = some (.int .i64 (cs v)) := by rw [← unhide HCS]; exact hcx v hvl
          obtain ⟨y0, hy0⟩ : ∃ y, cs u = y := ⟨_, rfl⟩
          obtain ⟨y1, hy1⟩ : ∃ y, cs v = y := ⟨_, rfl⟩
          rw [hy0] at s0
          rw [hy1] at s1
          obtain ⟨q1, hq1⟩ : ∃ t, Q (u * N + v) = t := ⟨_, rfl⟩
          have KM := hide (unhide HM wr (unhide HW) u v q1 hul hvl hq1)
          have HQ1 := hide (show TruQ q1 (ad u v) from by rw [← hq1]; exact unhide HQ u v hul hvl)
          have HY := hide (And.intro hy0 hy1)
          clear hq1 hy0 hy1 hx hcx
          cases q1
          · have HN := hide ((unhide HB).skip (fun k => by have := (unhide HQ1).2 k; cases this))
            go_wp2_with fail
            refine (unhide KM).mono ?_
            rintro _ w5 ⟨rfl, b5⟩
            have HW5 := hide ((unhide HW).trans (b5.mono (unhide HW).size))
            have HO5 := hide (ownsRow_chg (S := fun _ => False) (unhide HO1) (Chg.of_below b5) (fun _ _ x => x))
            clear KM p0 p1
            have hx5 := unhide HA w5 (unhide HW5)
            have p0 := (hx5.1.all 0 _ rfl).1
            have p1 := (hx5.1.all 1 _ rfl).1
            clear b5 hx5
            clear s0 s1
            go_wp2_with fail
            exact ⟨⟨v + 1, o, by omega, by (first | rfl | go_num), HN, HO5, HW5⟩, by simp [intOf]; omega⟩
          · by_cases hle : y0 ≤ y1
            · have hle' : decide (y1 < y0) = false := by simp; omega
              obtain ⟨fo, hfo⟩ := truth (Fo y0 y1)
              have HFO := hide (show TruQ fo (Fo y0 y1) from hfo)
              have KF := hide (fun W (k : Below wb.heap.size wb W) => unhide HF W k y0 y1 fo hfo)
              clear hfo
              cases o with
              | none =>
                obtain ⟨ap, cp, rfl, hsl⟩ := own_slI (n := 0) (xs := []) (unhide HO1)
                clear hsl
                go_wp2_with fail
                refine (unhide KM).mono ?_
                rintro _ w5 ⟨rfl, b5⟩
                have HW5 := hide ((unhide HW).trans (b5.mono (unhide HW).size))
                have HO5 := hide (ownsRow_chg (S := fun _ => False) (unhide HO1) (Chg.of_below b5) (fun _ _ x => x))
                clear KM p0 p1
                have hx5 := unhide HA w5 (unhide HW5)
                have p0 := (hx5.1.all 0 _ rfl).1
                have p1 := (hx5.1.all 1 _ rfl).1
                clear b5 hx5
                clear s0 s1
                go_wp2_with fail
                refine (unhide KF w5 (unhide HW5)).mono ?_
                rintro _ w6 ⟨rfl, b6⟩
                have HW6 := hide ((unhide HW5).trans (b6.mono (unhide HW5).size))
                have HO6 := hide (ownsRow_chg (S := fun _ => False) (unhide HO5) (Chg.of_below b6) (fun _ _ x => x))
                clear KF b6 p0 p1
                cases fo
                · have HN := hide (by have h9 := (unhide HB).take ((unhide HQ1).1 (by first | rfl | trivial)) (by rw [(unhide HY).1, (unhide HY).2]; exact hle) (by rw [(unhide HY).1, (unhide HY).2]; intro h; have := (unhide HFO).2 h; cases this) (fun a b e => by cases e); rw [(unhide HY).1, (unhide HY).2] at h9; exact h9)
                  go_wp2_with fail
                  exact ⟨⟨v + 1, some (y0, y1), by omega, by (first | rfl | go_num), HN, hide (own_pair _ _ _ (unhide HW6).size), hide ((unhide HW6).alloc (unhide HW6).size _)⟩, by simp [intOf]; omega⟩
                · have HN := hide ((unhide HB).skip (fun _ _ => by rw [(unhide HY).1, (unhide HY).2]; exact (unhide HFO).1 rfl))
                  go_wp2_with fail
                  exact ⟨⟨v + 1, none, by omega, by (first | rfl | go_num), HN, HO6, HW6⟩, by simp [intOf]; omega⟩
              | some o =>
                obtain ⟨a, b⟩ := o
                obtain ⟨ap, cp, rfl, hsl⟩ := own_slI (n := 2) (xs := [a, b]) (unhide HO1)
                obtain ⟨pb, ob, rfl, hcb⟩ := hsl.at (by decide)
                have t0 : wr.cell? ⟨pb, ob, none⟩ = some (.int .i64 a) := hcb 0 (by decide)
                have t1 : wr.cell? ⟨pb, ob + 1, none⟩ = some (.int .i64 b) := hcb 1 (by decide)
                have HT01 := hide (And.intro t0 t1)
                clear hsl hcb
                by_cases hlt : y0 < a
                · have hlt1 : decide (y0 < a) = true := by simp [hlt]
                  have HLT := hide (show y0 < a ∨ (y0 = a ∧ y1 < b) from .inl hlt)
                  clear hlt
                  go_wp2_with fail
                  refine (unhide KM).mono ?_
                  rintro _ w5 ⟨rfl, b5⟩
                  have HW5 := hide ((unhide HW).trans (b5.mono (unhide HW).size))
                  have HO5 := hide (ownsRow_chg (S := fun _ => False) (unhide HO1) (Chg.of_below b5) (fun _ _ x => x))
                  clear KM p0 p1
                  have t0' := (b5.cell (p := ⟨pb, ob, none⟩) (World.block_lt_of_cell? _ _ t0)).trans t0
                  have t1' := (b5.cell (p := ⟨pb, ob + 1, none⟩) (World.block_lt_of_cell? _ _ t1)).trans t1
                  clear t0 t1
                  have hx5 := unhide HA w5 (unhide HW5)
                  have p0 := (hx5.1.all 0 _ rfl).1
                  have p1 := (hx5.1.all 1 _ rfl).1
                  clear b5 hx5
                  clear s0 s1
                  go_wp2_with fail
                  refine (unhide KF w5 (unhide HW5)).mono ?_
                  rintro _ w6 ⟨rfl, b6⟩
                  have HW6 := hide ((unhide HW5).trans (b6.mono (unhide HW5).size))
                  have HO6 := hide (ownsRow_chg (S := fun _ => False) (unhide HO5) (Chg.of_below b6) (fun _ _ x => x))
                  clear KF b6 p0 p1 t0' t1'
                  cases fo
                  · have HN := hide (by have h9 := (unhide HB).take ((unhide HQ1).1 (by first | rfl | trivial)) (by rw [(unhide HY).1, (unhide HY).2]; exact hle) (by rw [(unhide HY).1, (unhide HY).2]; intro h; have := (unhide HFO).2 h; cases this) (fun a9 b9 e => by cases e; rw [(unhide HY).1, (unhide HY).2]; exact unhide HLT); rw [(unhide HY).1, (unhide HY).2] at h9; exact h9)
                    go_wp2_with fail
                    exact ⟨⟨v + 1, some (y0, y1), by omega, by (first | rfl | go_num), HN, hide (own_pair _ _ _ (unhide HW6).size), hide ((unhide HW6).alloc (unhide HW6).size _)⟩, by simp [intOf]; omega⟩
                  · have HN := hide ((unhide HB).skip (fun _ _ => by rw [(unhide HY).1, (unhide HY).2]; exact (unhide HFO).1 rfl))
                    go_wp2_with fail
                    exact ⟨⟨v + 1, some (a, b), by omega, by (first | rfl | go_num), HN, HO6, HW6⟩, by simp [intOf]; omega⟩
                · have hlt1 : decide (y0 < a) = false := by simp; omega
                  by_cases heq : y0 = a
                  · have heq1 : (y0 == a) = true := by simp [heq]
                    by_cases hbl2 : y1 < b
                    · have hbl3 : decide (y1 < b) = true := by simp [hbl2]
                      have HLT := hide (show y0 < a ∨ (y0 = a ∧ y1 < b) from .inr ⟨heq, hbl2⟩)
                      clear hlt heq hbl2
                      go_wp2_with fail
                      refine (unhide KM).mono ?_
                      rintro _ w5 ⟨rfl, b5⟩
                      have HW5 := hide ((unhide HW).trans (b5.mono (unhide HW).size))
                      have HO5 := hide (ownsRow_chg (S := fun _ => False) (unhide HO1) (Chg.of_below b5) (fun _ _ x => x))
                      clear KM p0 p1
                      have t0' := (b5.cell (p := ⟨pb, ob, none⟩) (World.block_lt_of_cell? _ _ t0)).trans t0
                      have t1' := (b5.cell (p := ⟨pb, ob + 1, none⟩) (World.block_lt_of_cell? _ _ t1)).trans t1
                      clear t0 t1
                      have hx5 := unhide HA w5 (unhide HW5)
                      have p0 := (hx5.1.all 0 _ rfl).1
                      have p1 := (hx5.1.all 1 _ rfl).1
                      clear b5 hx5
                      clear s0 s1
                      go_wp2_with fail
                      refine (unhide KF w5 (unhide HW5)).mono ?_
                      rintro _ w6 ⟨rfl, b6⟩
                      have HW6 := hide ((unhide HW5).trans (b6.mono (unhide HW5).size))
                      have HO6 := hide (ownsRow_chg (S := fun _ => False) (unhide HO5) (Chg.of_below b6) (fun _ _ x => x))
                      clear KF b6 p0 p1 t0' t1'
                      cases fo
                      · have HN := hide (by have h9 := (unhide HB).take ((unhide HQ1).1 (by first | rfl | trivial)) (by rw [(unhide HY).1, (unhide HY).2]; exact hle) (by rw [(unhide HY).1, (unhide HY).2]; intro h; have := (unhide HFO).2 h; cases this) (fun a9 b9 e => by cases e; rw [(unhide HY).1, (unhide HY).2]; exact unhide HLT); rw [(unhide HY).1, (unhide HY).2] at h9; exact h9)
                        go_wp2_with fail
                        exact ⟨⟨v + 1, some (y0, y1), by omega, by (first | rfl | go_num), HN, hide (own_pair _ _ _ (unhide HW6).size), hide ((unhide HW6).alloc (unhide HW6).size _)⟩, by simp [intOf]; omega⟩
                      · have HN := hide ((unhide HB).skip (fun _ _ => by rw [(unhide HY).1, (unhide HY).2]; exact (unhide HFO).1 rfl))
                        go_wp2_with fail
                        exact ⟨⟨v + 1, some (a, b), by omega, by (first | rfl | go_num), HN, HO6, HW6⟩, by simp [intOf]; omega⟩
                    · have hbl3 : decide (y1 < b) = false := by simp; omega
                      have HN := hide ((unhide HB).keep (by rw [(unhide HY).1, (unhide HY).2]; omega))
                      clear hlt heq hbl2
                      go_wp2_with fail
                      refine (unhide KM).mono ?_
                      rintro _ w5 ⟨rfl, b5⟩
                      have HW5 := hide ((unhide HW).trans (b5.mono (unhide HW).size))
                      have HO5 := hide (ownsRow_chg (S := fun _ => False) (unhide HO1) (Chg.of_below b5) (fun _ _ x => x))
                      clear KM p0 p1
                      have t0' := (b5.cell (p := ⟨pb, ob, none⟩) (World.block_lt_of_cell? _ _ t0)).trans t0
                      have t1' := (b5.cell (p := ⟨pb, ob + 1, none⟩) (World.block_lt_of_cell? _ _ t1)).trans t1
                      clear t0 t1
                      have hx5 := unhide HA w5 (unhide HW5)
                      have p0 := (hx5.1.all 0 _ rfl).1
                      have p1 := (hx5.1.all 1 _ rfl).1
                      clear b5 hx5
                      clear s0 s1
                      go_wp2_with fail
                      exact ⟨⟨v + 1, some (a, b), by omega, by (first | rfl | go_num), HN, HO5, HW5⟩, by simp [intOf]; omega⟩
                  · have heq1 : (y0 == a) = false := by simp [heq]
                    have HN := hide ((unhide HB).keep (by rw [(unhide HY).1, (unhide HY).2]; omega))
                    clear hlt heq
                    go_wp2_with fail
                    refine (unhide KM).mono ?_
                    rintro _ w5 ⟨rfl, b5⟩
                    have HW5 := hide ((unhide HW).trans (b5.mono (unhide HW).size))
                    have HO5 := hide (ownsRow_chg (S := fun _ => False) (unhide HO1) (Chg.of_below b5) (fun _ _ x => x))
                    clear KM p0 p1
                    have t0' := (b5.cell (p := ⟨pb, ob, none⟩) (World.block_lt_of_cell? _ _ t0)).trans t0
                    have t1' := (b5.cell (p := ⟨pb, ob + 1, none⟩) (World.block_lt_of_cell? _ _ t1)).trans t1
                    clear t0 t1
                    have hx5 := unhide HA w5 (unhide HW5)
                    have p0 := (hx5.1.all 0 _ rfl).1
                    have p1 := (hx5.1.all 1 _ rfl).1
                    clear b5 hx5
                    clear s0 s1
                    go_wp2_with fail
                    exact ⟨⟨v + 1, some (a, b), by omega, by (first | rfl | go_num), HN, HO5, HW5⟩, by simp [intOf]; omega⟩
            · have hle' : decide (y1 < y0) = true := by simp; omega
              have HN := hide ((unhide HB).skip (fun _ k => by rw [(unhide HY).1, (unhide HY).2] at k; exact absurd k hle))
              go_wp2_with fail
              refine (unhide KM).mono ?_
              rintro _ w5 ⟨rfl, b5⟩
              have HW5 := hide ((unhide HW).trans (b5.mono (unhide HW).size))
              have HO5 := hide (ownsRow_chg (S := fun _ => False) (unhide HO1) (Chg.of_below b5) (fun _ _ x => x))
              clear KM p0 p1
              have hx5 := unhide HA w5 (unhide HW5)
              have p0 := (hx5.1.all 0 _ rfl).1
              have p1 := (hx5.1.all 1 _ rfl).1
              clear b5 hx5
              clear s0 s1
              go_wp2_with fail
              exact ⟨⟨v + 1, o, by omega, by (first | rfl | go_num), HN, HO5, HW5⟩, by simp [intOf]; omega⟩
        · obtain rfl : v = N := by omega
          have hvl' : ¬ (v : Int) < (v : Int) := by omega
          have HN := hide ((unhide HB).congr (fun c d => CqP.row (unhide HD) c d))
          clear hx
          go_wp2_with fail
          exact ⟨⟨u + 1, o, by omega, by (first | rfl | go_num), HN, HO1, HW⟩, by simp [intOf]; omega⟩
    · obtain rfl : u = N := by omega
      have hul' : ¬ (u : Int) < (u : Int) := by omega
      have hres := BsI.one (unhide HO) (unhide HB)
      subst hres
      have HF9 := hide hx.2.2
      have HO9 := hide (own_mono5 (unhide HO1) hwsz)
      clear hx
      go_wp2_with fail
      try go_ret
      exact ⟨_, rfl, unhide HO9, unhide HF9⟩
theorem FoP.set {ad : Nat → Nat → Prop} {T T' : Nat → Prop} (h : FoP ad T) (k : ∀ v, T' v → T v) : FoP ad T' := fun S hS hc => h S (fun v hv => k v (hS v hv)) hc
section
variable {st cols : List Int} {R : Nat} {xs : List Int}
noncomputable def rkC (xs : List Int) (i : Nat) : Int := ((rkI xs (xs.getD i 0) : Nat) : Int)
theorem at_mem {xs : List Int} {i : Nat} (h : i < xs.length) : xs.getD i 0 ∈ xs := by simp [List.getD, h]
theorem rkC_inj {i j : Nat} (hi : i < xs.length) (hj : j < xs.length) : rkC xs i = rkC xs j ↔ xs.getD i 0 = xs.getD j 0 := by
  unfold rkC
  rw [← rkI_inj (at_mem hi) (at_mem hj)]
  omega
theorem rkC_rng {i : Nat} (hi : i < xs.length) : 0 ≤ rkC xs i ∧ rkC xs i < (xs.length : Int) := by
  have := (rkI_lt (at_mem hi)).1
  unfold rkC
  omega
def SrP (xs : List Int) (p : Nat × Nat) (c d : Int) : Prop := c ≤ d ∧ ((xs.getD p.1 0 = c ∧ xs.getD p.2 0 = d) ∨ (xs.getD p.1 0 = d ∧ xs.getD p.2 0 = c))
theorem tw_rk (hl : xs.length = R) {u v : Nat} (hu : u < R) (hv : v < R) (w : Nat) : TwC (rkC xs) R (rkC xs u) (rkC xs v) w ↔ TwC (fun i => xs.getD i 0) R (xs.getD u 0) (xs.getD v 0) w := by
  unfold TwC
  constructor
  · rintro ⟨h, k⟩
    exact ⟨h, k.imp (rkC_inj (by omega) (by omega)).1 (rkC_inj (by omega) (by omega)).1⟩
  · rintro ⟨h, k⟩
    exact ⟨h, k.imp (rkC_inj (by omega) (by omega)).2 (rkC_inj (by omega) (by omega)).2⟩
def CiP (st cols : List Int) (R : Nat) (xs : List Int) (c d : Int) : Prop := ∃ u v, adG st cols R u v ∧ xs.getD u 0 = c ∧ xs.getD v 0 = d ∧ c ≤ d ∧ ¬ FoP (adG st cols R) (TwC (fun i => xs.getD i 0) R c d)
theorem ClF.cip {cl : List (Nat × Nat)} (hg : GraP st cols R R) (hl : xs.length = R) (h : ClF st cols R (rkC xs) cl) (hpr : ∀ u v, adG st cols R u v → xs.getD u 0 ≠ xs.getD v 0) (c d : Int) : (∃ p ∈ cl, SrP xs p c d) ↔ CiP st cols R xs c d := by
  constructor
  · rintro ⟨p, hp, hcd, hs⟩
    obtain ⟨h1, h2, h3, h4⟩ := h.edge p hp
    have hF : ¬ FoP (adG st cols R) (TwC (fun i => xs.getD i 0) R (xs.getD p.1 0) (xs.getD p.2 0)) := fun f => h4 (f.set (fun v k => (tw_rk hl h1.1 h1.2.1 v).1 k))
    rcases hs with ⟨e1, e2⟩ | ⟨e1, e2⟩
    · rw [e1, e2] at hF
      exact ⟨p.1, p.2, h1, e1, e2, hcd, hF⟩
    · rw [e1, e2] at hF
      exact ⟨p.2, p.1, adG.sy hg _ _ h1, e2, e1, hcd, fun f => hF (f.set (fun v k => k.swap))⟩
  · rintro ⟨u, v, had, e1, e2, hcd, hF⟩
    have hne := hpr u v had
    have hu : u < xs.length := by have := had.1; omega
    have hv : v < xs.length := by have := had.2.1; omega
    have hF2 : ¬ FoP (adG st cols R) (TwC (rkC xs) R (rkC xs u) (rkC xs v)) := fun f => by
      apply hF
      rw [← e1, ← e2]
      exact f.set (fun w k => (tw_rk hl had.1 had.2.1 w).2 k)
    obtain ⟨p, hp, hq⟩ := h.all (rkC xs u) (rkC xs v) (rkC_rng hu).1 (rkC_rng hv).1 (fun e => hne ((rkC_inj hu hv).1 e)) hF2
    have hp1 := (h.edge p hp).1
    have l1 : p.1 < xs.length := by have := hp1.1; omega
    have l2 : p.2 < xs.length := by have := hp1.2.1; omega
    refine ⟨p, hp, hcd, ?_⟩
    rw [← e1, ← e2]
    exact hq.imp (fun k => ⟨(rkC_inj l1 hu).1 k.1, (rkC_inj l2 hv).1 k.2⟩) (fun k => ⟨(rkC_inj l1 hv).1 k.1, (rkC_inj l2 hu).1 k.2⟩)
def LeE (xs : List Int) (cl : List (Nat × Nat)) (i : Nat) (q : Option (Int × Int)) : Prop := BsI (fun c d => ∃ p ∈ cl.take i, SrP xs p c d) q
theorem LeE.zero {cl : List (Nat × Nat)} : LeE xs cl 0 none := fun c d h => by obtain ⟨p, hp, _⟩ := h; simp at hp
def ltP (c d c' d' : Int) : Prop := c < c' ∨ (c = c' ∧ d < d')
theorem srt_two (x y : Int) : srtL [x, y] = [min x y, max x y] := by
  unfold srtL
  rcases Int.le_total x y with h | h
  · rw [Int.min_eq_left h, Int.max_eq_right h]
    exact List.mergeSort_of_pairwise (by simp [h])
  · by_cases e : x = y
    · subst e
      rw [Int.min_eq_left (Int.le_refl _), Int.max_eq_right (Int.le_refl _)]
      exact List.mergeSort_of_pairwise (by simp)
    · rw [Int.min_eq_right h, Int.max_eq_left h]
      have hp := List.mergeSort_perm [x, y] (fun x y => decide (x ≤ y))
      have hs : ([x, y].mergeSort fun x y => decide (x ≤ y)).Pairwise (fun x y => decide (x ≤ y) = true) := List.pairwise_mergeSort (fun a b c h1 h2 => by simp at h1 h2 ⊢; omega) (fun a b => by simp; omega) _
      obtain ⟨s, es⟩ : ∃ s, ([x, y].mergeSort fun x y => decide (x ≤ y)) = s := ⟨_, rfl⟩
      rw [es] at hp hs ⊢
      have hl := hp.length_eq
      match s, hl with
      | [a, b], _ =>
        have ha : a ∈ [x, y] := hp.subset (by simp)
        have hb : b ∈ [x, y] := hp.subset (by simp)
        have hx : x ∈ [a, b] := hp.symm.subset (by simp)
        have hy : y ∈ [a, b] := hp.symm.subset (by simp)
        simp at ha hb hx hy hs
        congr 1
        · omega
        · congr 1; omega
theorem LeE.step {cl : List (Nat × Nat)} {i : Nat} {q : Option (Int × Int)} {p : Nat × Nat} (h : LeE xs cl i q) (hi : i < cl.length) (hp : cl[i]? = some p) {c d : Int} (hc : min (xs.getD p.1 0) (xs.getD p.2 0) = c) (hd : max (xs.getD p.1 0) (xs.getD p.2 0) = d) :
    (q = none → LeE xs cl (i + 1) (some (c, d))) ∧ (∀ c0 d0, q = some (c0, d0) → (ltP c d c0 d0 → LeE xs cl (i + 1) (some (c, d))) ∧ (¬ ltP c d c0 d0 → LeE xs cl (i + 1) q)) := by
  have ht : cl.take (i + 1) = cl.take i ++ [p] := by
    rw [List.take_add_one, hp]; rfl
  have hS : ∀ c' d', SrP xs p c' d' ↔ (c' = c ∧ d' = d) := fun c' d' => by
    unfold SrP
    omega
  have hE : ∀ c' d', (∃ r ∈ cl.take (i + 1), SrP xs r c' d') ↔ ((∃ r ∈ cl.take i, SrP xs r c' d') ∨ (c' = c ∧ d' = d)) := fun c' d' => by
    rw [ht, ← hS]
    constructor
    · rintro ⟨r, hr, k⟩
      rcases List.mem_append.1 hr with e | e
      · exact .inl ⟨r, e, k⟩
      · rw [List.mem_singleton.1 e] at k; exact .inr k
    · rintro (⟨r, hr, k⟩ | k)
      · exact ⟨r, List.mem_append.2 (.inl hr), k⟩
      · exact ⟨p, List.mem_append.2 (.inr (List.mem_singleton.2 rfl)), k⟩
  unfold LeE at h ⊢
  simp only [hE]
  refine ⟨fun e => ?_, fun c0 d0 e => ⟨fun hlt => ?_, fun hlt => ?_⟩⟩
  · subst e
    exact ⟨.inr ⟨rfl, rfl⟩, fun c' d' k => by
      rcases k with k | ⟨rfl, rfl⟩
      · exact absurd k (h c' d')
      · exact .inr ⟨rfl, Int.le_refl _⟩⟩
  · subst e
    exact ⟨.inr ⟨rfl, rfl⟩, fun c' d' k => by
      rcases k with k | ⟨rfl, rfl⟩
      · have := h.2 c' d' k
        unfold ltP at hlt
        omega
      · exact .inr ⟨rfl, Int.le_refl _⟩⟩
  · subst e
    exact ⟨.inl h.1, fun c' d' k => by
      rcases k with k | ⟨rfl, rfl⟩
      · exact h.2 c' d' k
      · unfold ltP at hlt
        omega⟩
end
def cuE (e : Nat → Nat) (v : Nat) : Nat → Int := fun i => if i < v then (e i : Int) else -1
def usE (e : Nat → Nat) : Nat → Nat
  | 0 => 0
  | v + 1 => max (usE e v) (e v + 1)
def AgE (f e : Nat → Nat) (v : Nat) : Prop := ∀ i, i < v → f i = e i
def upE (e : Nat → Nat) (v y : Nat) : Nat → Nat := fun i => if i = v then y else e i
theorem upE_same (e : Nat → Nat) (v y : Nat) : upE e v y v = y := by simp [upE]
theorem upE_other (e : Nat → Nat) {v i : Nat} (y : Nat) (h : i ≠ v) : upE e v y i = e i := by simp [upE, h]
theorem upE_ag (e : Nat → Nat) (v y : Nat) : AgE (upE e v y) e v := fun i hi => upE_other e y (by omega)
theorem AgE.cu {f e : Nat → Nat} {v : Nat} (h : AgE f e v) : cuE f v = cuE e v := by
  funext i
  unfold cuE
  by_cases hi : i < v
  · rw [if_pos hi, if_pos hi, h i hi]
  · rw [if_neg hi, if_neg hi]
theorem AgE.us {f e : Nat → Nat} : ∀ {v : Nat}, AgE f e v → usE f v = usE e v
  | 0, _ => rfl
  | v + 1, h => by
    unfold usE
    rw [AgE.us (v := v) (fun i hi => h i (by omega)), h v (by omega)]
theorem AgE.refl (e : Nat → Nat) (v : Nat) : AgE e e v := fun _ _ => rfl
theorem AgE.mono {f e : Nat → Nat} {v u : Nat} (h : AgE f e v) (k : u ≤ v) : AgE f e u := fun i hi => h i (by omega)
theorem cuE_upd (e : Nat → Nat) (v : Nat) : cuE e (v + 1) = updC (cuE e v) v (e v) := by
  funext i
  unfold cuE updC
  by_cases h : i = v
  · subst h; simp
  · rw [if_neg h]
    show (if i < v + 1 then (e i : Int) else -1) = if i < v then (e i : Int) else -1
    by_cases hi : i < v
    · rw [if_pos hi, if_pos (by omega)]
    · rw [if_neg hi, if_neg (by omega)]
theorem usE_succ (e : Nat → Nat) (v : Nat) : usE e (v + 1) = max (usE e v) (e v + 1) := rfl
theorem cuE_up (e : Nat → Nat) (v y : Nat) : cuE (upE e v y) (v + 1) = updC (cuE e v) v y := by
  rw [cuE_upd, (upE_ag e v y).cu, upE_same]
theorem usE_mono (e : Nat → Nat) : ∀ {v u : Nat}, v ≤ u → usE e v ≤ usE e u
  | v, 0, h => by rw [show v = 0 by omega]; exact Nat.le_refl _
  | v, u + 1, h => by
    by_cases k : v = u + 1
    · rw [k]; exact Nat.le_refl _
    · have := usE_mono e (show v ≤ u by omega)
      rw [usE_succ]
      omega
theorem usE_at (e : Nat → Nat) {v j : Nat} (h : j < v) : e j < usE e v := by
  have := usE_mono e (show j + 1 ≤ v by omega)
  rw [usE_succ] at this
  omega
theorem usE_le (e : Nat → Nat) {k : Nat} : ∀ {v : Nat}, (∀ j, j < v → e j < k) → usE e v ≤ k
  | 0, _ => Nat.zero_le _
  | v + 1, h => by
    have h1 := usE_le e (v := v) (fun j hj => h j (by omega))
    have h2 := h v (by omega)
    rw [usE_succ]
    omega
theorem usE_small (e : Nat → Nat) : ∀ {v : Nat}, (∀ j, j < v → e j ≤ usE e j) → usE e v ≤ v
  | 0, _ => Nat.le_refl _
  | v + 1, h => by
    have h1 := usE_small e (v := v) (fun j hj => h j (by omega))
    have h2 := h v (by omega)
    rw [usE_succ]
    omega
theorem cuE_rng {e : Nat → Nat} {v m : Nat} (h : usE e v ≤ m) (i : Nat) : -1 ≤ cuE e v i ∧ cuE e v i < (m : Int) := by
  unfold cuE
  by_cases hi : i < v
  · have := usE_at e hi
    rw [if_pos hi]
    omega
  · rw [if_neg hi]
    omega
theorem cuE_fresh (e : Nat → Nat) (v : Nat) : cuE e v v = -1 := by simp [cuE]
theorem cuE_nm (e : Nat → Nat) {m : Nat} : ∀ {v : Nat}, v ≤ m → NmI (cuE e v) m (usE e v)
  | 0, _ => by
    have : cuE e 0 = fun _ => -1 := by funext i; simp [cuE]
    rw [this]
    exact NmI.none
  | v + 1, h => by
    rw [cuE_upd]
    exact (cuE_nm e (v := v) (by omega)).upd (by omega) (cuE_fresh e v)
section
variable {bar : (Nat → Int) → Nat → Nat → Prop} {m : Nat}
def VdE (bar : (Nat → Int) → Nat → Nat → Prop) (m : Nat) (e : Nat → Nat) (v : Nat) : Prop := ∀ j, v ≤ j → j < m → e j ≤ usE e j ∧ ¬ bar (cuE e j) j (e j)
structure LpE (bar : (Nat → Int) → Nat → Nat → Prop) (m : Nat) (e : Nat → Nat) (v : Nat) (A : Nat → Prop) (best r : Nat) : Prop where
  le : r ≤ best
  at_ : r = best ∨ ∃ f, AgE f e v ∧ VdE bar m f v ∧ usE f m = r
  all : ∀ f, AgE f e v → VdE bar m f v → A (f v) → r ≤ usE f m
def FwP (bar : (Nat → Int) → Nat → Nat → Prop) (m : Nat) (e : Nat → Nat) (v best r : Nat) : Prop := LpE bar m e v (fun _ => True) best r
theorem FwP.done {e : Nat → Nat} {v best : Nat} (hv : v ≤ m) (h : best ≤ usE e v ∨ v = m) : FwP bar m e v best (min (usE e v) best) := by
  by_cases hb : best ≤ usE e v
  · rw [Nat.min_eq_right hb]
    exact ⟨Nat.le_refl _, .inl rfl, fun f hf _ _ => by have := usE_mono f hv; rw [hf.us] at this; omega⟩
  · obtain rfl : v = m := h.resolve_left hb
    rw [Nat.min_eq_left (by omega)]
    exact ⟨by omega, .inr ⟨e, AgE.refl _ _, fun j h1 h2 => by omega, rfl⟩, fun f hf _ _ => by rw [hf.us]; exact Nat.le_refl _⟩
theorem LpE.start (e : Nat → Nat) (v best : Nat) : LpE bar m e v (fun _ => False) best best := ⟨Nat.le_refl _, .inl rfl, fun _ _ _ h => h.elim⟩
theorem LpE.step {e : Nat → Nat} {v best r r' y : Nat} {A A' : Nat → Prop} (h : LpE bar m e v A best r) (hv : v < m) (hy : y ≤ usE e v) (hb : ¬ bar (cuE e v) v y) (g : FwP bar m (upE e v y) (v + 1) r r') (hA : ∀ z, A' z → A z ∨ z = y) : LpE bar m e v A' best r' := by
  have up : ∀ f, AgE f (upE e v y) (v + 1) → AgE f e v ∧ f v = y := fun f hf => ⟨fun i hi => by rw [hf i (by omega), upE_other _ _ (by omega)], by rw [hf v (by omega), upE_same]⟩
  refine ⟨Nat.le_trans g.le h.le, ?_, fun f hf hV ha => ?_⟩
  · rcases g.at_ with e1 | ⟨f, h1, h2, h3⟩
    · rw [e1]; exact h.at_
    · obtain ⟨u1, u2⟩ := up f h1
      refine .inr ⟨f, u1, fun j hj hjm => ?_, h3⟩
      by_cases e2 : j = v
      · subst e2
        rw [u1.us, u1.cu, u2]
        exact ⟨hy, hb⟩
      · exact h2 j (by omega) hjm
  · rcases hA _ ha with ha | ha
    · exact Nat.le_trans g.le (h.all f hf hV ha)
    · refine g.all f (fun i hi => ?_) (fun j hj hjm => hV j (by omega) hjm) trivial
      by_cases e2 : i = v
      · subst e2; rw [ha, upE_same]
      · rw [upE_other _ _ e2]; exact hf i (by omega)
theorem LpE.all_ {e : Nat → Nat} {v best r : Nat} {A : Nat → Prop} (h : LpE bar m e v A best r) (hv : v < m) (hA : ∀ y, y ≤ usE e v → ¬ bar (cuE e v) v y → A y) : FwP bar m e v best r :=
  ⟨h.le, h.at_, fun f hf hV _ => h.all f hf hV (by
    have := hV v (Nat.le_refl _) hv
    rw [hf.us, hf.cu] at this
    exact hA _ this.1 this.2)⟩
def SmP (Gd : (Nat → Nat) → Prop) (m : Nat) (e : Nat → Nat) (v k : Nat) : Prop := ∃ f, AgE f e v ∧ (∀ j, v ≤ j → j < m → f j < k ∧ f j ≤ usE f j) ∧ Gd f
end
section
variable {S C : List Int} {m : Nat}
def GdN (S C : List Int) (m : Nat) (f : Nat → Nat) : Prop := ∀ u v, adG S C m u v → f u ≠ f v
theorem gd_nb (hm : MayP (m : Int) (m : Int) S C) (hg : GraP S C m m) (f : Nat → Nat) : GdN S C m f ↔ ∀ v, v < m → ¬ BarN S C (cuE f v) v (f v) := by
  constructor
  · intro h v hv hb
    obtain ⟨u, ha, e⟩ := (barN_ad hm hv).1 hb
    unfold cuE at e
    by_cases hu : u < v
    · rw [if_pos hu] at e
      exact h v u ha (by omega)
    · rw [if_neg hu] at e; omega
  · intro h u v ha e
    have key : ∀ u v, adG S C m u v → u < v → f u = f v → False := fun u v ha hl e => by
      refine h v ha.2.1 ((barN_ad hm ha.2.1).2 ⟨u, adG.sy hg _ _ ha, ?_⟩)
      unfold cuE
      rw [if_pos hl, e]
    rcases Nat.lt_trichotomy u v with hl | hl | hl
    · exact key u v ha hl e
    · subst hl; exact adG.ir hg _ ha
    · exact key v u (adG.sy hg _ _ ha) hl e.symm
def GdS (S C : List Int) (m : Nat) (f : Nat → Nat) : Prop := GdN S C m f ∧ ∀ a b c d, ¬ Pa4 (adG S C m) (fun i => (f i : Int)) a b c d
theorem gd_st (hm : MayP (m : Int) (m : Int) S C) (hg : GraP S C m m) (f : Nat → Nat) : GdS S C m f ↔ ∀ v, v < m → ¬ BarP S C (cuE f v) v (f v) := by
  have cu : ∀ {v i : Nat}, i < v → cuE f v i = (f i : Int) := fun {v i} h => by simp [cuE, h]
  have lt : ∀ {v i : Nat} {x : Nat}, cuE f v i = (x : Int) → i < v ∧ f i = x := fun {v i x} h => by
    unfold cuE at h
    by_cases k : i < v
    · rw [if_pos k] at h; exact ⟨k, by omega⟩
    · rw [if_neg k] at h; omega
  have sy := adG.sy hg
  have ir := adG.ir hg
  constructor
  · rintro ⟨hN, hP⟩ v hv hb
    rcases (barP_ad hm hv).1 hb with hb | ⟨b, c, d, h1, h2, h3, h4, h5, h6, h7⟩
    · exact (gd_nb hm hg f).1 hN v hv hb
    · have hbl : b < v := by
        apply Classical.byContradiction
        intro k
        exact h2 (by simp [cuE, k])
      rw [cu hbl] at h7
      obtain ⟨hdl, e7⟩ := lt h7
      obtain ⟨hcl, e4⟩ := lt h4
      rcases h6 with h6 | h6
      · have hdc : d ≠ c := fun e => hN b c h3 (by rw [← e, e7])
        by_cases hl : d < c
        · exact hP d v b c ⟨sy _ _ h6, h1, h5.symm, by simp [e7], h3, hl, by omega, by simp [e4]⟩
        · exact hP c b v d ⟨sy _ _ h3, sy _ _ h1, by omega, by simp [e4], h6, by omega, h5, by simp [e7]⟩
      · exact hP d c b v ⟨sy _ _ h6, sy _ _ h3, h5.symm, by simp [e7], sy _ _ h1, hdl, by omega, by simp [e4]⟩
  · intro h
    have hN : GdN S C m f := (gd_nb hm hg f).2 (fun v hv hb => h v hv ((barP_ad hm hv).2 (.inl hb)))
    refine ⟨hN, fun a b c d hp => ?_⟩
    obtain ⟨ab, bc, hca, eca, cd, had, hdb, edb⟩ := hp
    have eca : f c = f a := by simp only at eca; omega
    have edb : f d = f b := by simp only at edb; omega
    have nab : a ≠ b := fun e => ir a (by rw [e] at ab ⊢; exact ab)
    have nbc : b ≠ c := fun e => ir b (by rw [← e] at bc; exact bc)
    have ncd : c ≠ d := fun e => ir c (by rw [← e] at cd; exact cd)
    have key : ∀ v b c d, adG S C m v b → adG S C m b c → f c = f v → d ≠ b → (adG S C m v d ∨ adG S C m c d) → f d = f b → b < v → c < v → d < v → False := fun v b c d h1 h2 h3 h4 h5 h6 l1 l2 l3 =>
      h v h1.1 ((barP_ad hm h1.1).2 (.inr ⟨b, c, d, h1, by rw [cu l1]; omega, h2, by rw [cu l2, h3], h4, h5, by rw [cu l3, cu l1, h6]⟩))
    by_cases m1 : b < a ∧ c < a ∧ d < a
    · exact key a b c d ab bc eca hdb (.inr cd) edb m1.1 m1.2.1 m1.2.2
    · by_cases m2 : a < b ∧ c < b ∧ d < b
      · exact key b c d a bc cd edb (Ne.symm hca) (.inl (sy _ _ ab)) eca.symm m2.2.1 m2.2.2 m2.1
      · by_cases m3 : a < c ∧ b < c ∧ d < c
        · exact key c b a d (sy _ _ bc) (sy _ _ ab) eca.symm hdb (.inl cd) edb m3.2.1 m3.1 m3.2.2
        · exact key d c b a (sy _ _ cd) (sy _ _ bc) edb.symm (Ne.symm hca) (.inr (sy _ _ ab)) eca.symm (by omega) (by omega) (by omega)
def GdA (S C : List Int) (m : Nat) (f : Nat → Nat) : Prop := GdN S C m f ∧ ∀ u v, adG S C m u v → f u ≤ f v → FoP (adG S C m) (TwC (fun i => (f i : Int)) m (f u : Int) (f v : Int))
theorem gd_ac (hm : MayP (m : Int) (m : Int) S C) (hg : GraP S C m m) (f : Nat → Nat) : GdA S C m f ↔ ∀ v, v < m → ¬ BarA S C m (cuE f v) v (f v) := by
  have cu : ∀ {v i : Nat}, i < v → cuE f v i = (f i : Int) := fun {v i} h => by simp [cuE, h]
  constructor
  · rintro ⟨hN, hF⟩
    have hA : AcyC S C m (fun i => (f i : Int)) := fun c d hc hd T hT hC v hTv => by
      obtain ⟨p, q, _, h1, _, ap, _⟩ := hC v hTv
      have t1 := (hT v hTv).2
      have t2 := (hT p h1).2
      have hne := hN p v ap
      simp only at t1 t2
      by_cases hl : f p ≤ f v
      · refine hF p v ap hl T (fun x hx => ?_) hC v hTv
        have := hT x hx
        refine ⟨this.1, ?_⟩
        have k := this.2
        simp only at k ⊢
        omega
      · refine hF v p (adG.sy hg _ _ ap) (by omega) T (fun x hx => ?_) hC v hTv
        have := hT x hx
        refine ⟨this.1, ?_⟩
        have k := this.2
        simp only at k ⊢
        omega
    intro v hv hb
    have hAv : AcyC S C m (cuE f v) := fun c d hc hd => (hA c d hc hd).set (fun x hx => ⟨hx.1, by
      have k := hx.2
      unfold cuE at k
      by_cases hl : x < v
      · rw [if_pos hl] at k; exact k
      · rw [if_neg hl] at k; omega⟩)
    rcases hb with hb | ⟨u1, u2, c, hne, a1, a2, e1, e2, w⟩
    · exact (gd_nb hm hg f).1 hN v hv hb
    · have hf2 : FoP (adG S C m) (fun u => TwC (cuE f v) m (c : Int) (f v : Int) u ∨ u = v) := (hA (c : Int) (f v : Int) (by omega) (by omega)).set (fun x hx => by
        rcases hx with hx | rfl
        · refine ⟨hx.1, ?_⟩
          have k := hx.2
          unfold cuE at k
          by_cases hl : x < v
          · rw [if_pos hl] at k; exact k
          · rw [if_neg hl] at k; omega
        · exact ⟨hv, .inr rfl⟩)
      refine hne ((forest_add (n := 0) (adG.ir hg) (adG.sy hg) ⟨List.range m, fun x hx => List.mem_range.2 hx.1⟩ (hAv c (f v) (by omega) (by omega)) (fun h => ?_)).1 hf2 u1 u2 (adG.sy hg _ _ a1) (adG.sy hg _ _ a2) w)
      have := h.2
      rw [cuE_fresh] at this
      omega
  · intro h
    have hN : GdN S C m f := (gd_nb hm hg f).2 (fun v hv hb => h v hv (.inl hb))
    have key : ∀ v, v ≤ m → AcyC S C m (cuE f v) := fun v => by
      induction v with
      | zero =>
        intro _ c d hc hd T hT _ x hx
        · have := (hT x hx).2
          unfold cuE at this
          rw [if_neg (Nat.not_lt_zero x)] at this
          omega
      | succ v ih =>
        intro hv
        rw [cuE_upd]
        exact (ih (by omega)).next hm hg (by omega) (cuE_fresh f v) (h v (by omega))
    refine ⟨hN, fun u v ha hl => (key m (Nat.le_refl _) (f u : Int) (f v : Int) (by omega) (by omega)).set (fun x hx => ⟨hx.1, by
      have k := hx.2
      rw [cu hx.1]
      exact k⟩)⟩
end
end Go.Proofs.YtgjokididdffhaaGreat
