/- Cxg -/
import Derived.Test.YtgjokididdffhaaGreatCxf
import Derived.Test.YtgjokididdffhaaGreatCg1
import Derived.Test.YtgjokididdffhaaGreatCh2
import Derived.Test.YtgjokididdffhaaGreatCu7
import Derived.Test.YtgjokididdffhaaGreatCxd
namespace Go.Proofs.YtgjokididdffhaaGreat
open Go.RowKit Go.Deep Go.Shelf
set_option linter.unusedVariables false
attribute [local go_sem] Oper.semAt_some

structure AsI (w W : World) (B b : Nat) (rs : List Int) : Prop where
  bel : Below w.heap.size w W
  box : ∃ v, W.heap[b]? = some (.cells #[v] 23 (0, 0)) ∧ W.ownsRow B 3 1 v rs.length (valsI rs)
  le : B ≤ W.heap.size
theorem AsI.own {w : World} {B b B' : Nat} (hB : w.heap.size ≤ B') : OwnFrom B' (fun (s : List Int) W => AsI w W B b s) := by
  intro s W W' row h hg hr
  have hr' : ∀ r, row = some r → ∃ o : Obj, W.heap[r]? = some o ∧ o.isCells = false := fun r e => (hr r e).2
  obtain ⟨v, k1, o1⟩ := h.box
  exact ⟨h.bel.grown hg h.bel.size (fun k e => Nat.le_trans hB (hr k e).1), ⟨v, blk_keptP k1 hg hr', own_keptP o1 hg hr'⟩, Nat.le_trans h.le hg.size⟩
attribute [local go_sem] Oper.semAt_some

end Go.Proofs.YtgjokididdffhaaGreat
namespace Go.Proofs.YtgjokididdffhaaGreat
open Go.RowKit Go.Deep
set_option linter.unusedVariables false

def GzI (X o R : Nat) (cs : Nat → Int) (st cols : List Int) (wb W : World) (u i : Nat) (cl : List (Nat × Nat)) : Prop := ∃ pf' ro h M, RoF W X o pf' ∧ UfI (elD R) pf' ro h M ∧ UfE (EdS st cols R u i) cs R ro (EdN st cols R u i) ∧ ClE st cols R cs u i cl ∧ FrC X o wb W
section
variable {st cols : List Int} {R : Nat} {cs : Nat → Int}
theorem EdN.zero {p q : Nat} : ¬ EdN st cols R 0 0 p q := by
  rintro ⟨_, _, h | ⟨_, j, hj, _⟩⟩ <;> omega
theorem ClE.zero : ClE st cols R cs 0 0 [] := by
  refine ⟨fun p hp => absurd hp (by simp), fun c d _ _ _ f => absurd (fun S hS hc v hv => ?_) f⟩
  obtain ⟨p, q, _, _, _, h, _⟩ := hc v hv
  exact h.elim EdN.zero EdN.zero
theorem EdN.row {u : Nat} (hm : MayP (R : Int) (R : Int) st cols) (hu : u < R) : EdN st cols R (u + 1) 0 = EdN st cols R u (rowL st cols u).length := by
  funext p q
  apply propext
  unfold EdN
  constructor
  · rintro ⟨h1, h2, h3 | ⟨_, j, hj, _⟩⟩
    · refine ⟨h1, h2, ?_⟩
      by_cases e : p = u
      · subst e
        obtain ⟨j, hj, e⟩ := mem_getD.1 ((rowL_mem hm hu).2 h1.2.2)
        exact .inr ⟨rfl, j, hj, e⟩
      · exact .inl (by omega)
    · omega
  · rintro ⟨h1, h2, h3 | ⟨h3, _⟩⟩
    · exact ⟨h1, h2, .inl (by omega)⟩
    · exact ⟨h1, h2, .inl (by omega)⟩
theorem GzI.row {X o u : Nat} {wb W : World} {cl : List (Nat × Nat)} (hm : MayP (R : Int) (R : Int) st cols) (hu : u < R) (h : GzI X o R cs st cols wb W u (rowL st cols u).length cl) : GzI X o R cs st cols wb W (u + 1) 0 cl := by
  have e1 := EdN.row hm hu
  have e2 : EdS st cols R (u + 1) 0 = EdS st cols R u (rowL st cols u).length := by
    funext p q
    unfold EdS
    rw [e1]
  obtain ⟨pf, r, a, M, k1, k2, k3, k5, k4⟩ := h
  refine ⟨pf, r, a, M, k1, k2, by rw [e1, e2]; exact k3, ⟨fun p hp => by rw [e2]; exact k5.edge p hp, fun c d h1 h2 h3 f => by rw [e2] at f; exact k5.all c d h1 h2 h3 f⟩, k4⟩
theorem EdS.up {u i p q : Nat} (k : EdS st cols R u i p q) : EdS st cols R u (i + 1) p q := k.imp (fun k => EdN.next.2 (.inl k)) (fun k => EdN.next.2 (.inl k))
theorem GzI.skip {X o u i : Nat} {wb W : World} {cl : List (Nat × Nat)} (h : GzI X o R cs st cols wb W u i cl) {v : Nat} (hv : (rowL st cols u).getD i 0 = (v : Int)) (hs : v < u ∨ cs u = -1 ∨ cs v = -1) : GzI X o R cs st cols wb W u (i + 1) cl := by
  obtain ⟨pf, r, a, M, k1, k2, k3, k5, k4⟩ := h
  have old : ∀ p q, 0 ≤ cs p → 0 ≤ cs q → EdN st cols R u (i + 1) p q → EdN st cols R u i p q := fun p q hp hq k => by
    rcases EdN.next.1 k with k | ⟨_, h2, rfl, h4⟩
    · exact k
    · exfalso
      have e : q = v := by omega
      subst e
      rcases hs with hs | hs | hs <;> omega
  refine ⟨pf, r, a, M, k1, k2, ⟨fun x hx => (k3.link x hx).more (fun _ _ k => k.up), fun p q a' b' he ea eb => k3.edge p q a' b' (old p q (by omega) (by omega) he) ea eb⟩, k5.congr (fun p q hp hq => ⟨fun k => k.imp (old p q hp hq) (old q p hq hp), EdS.up⟩), k4⟩
theorem GzI.take {X o u i : Nat} {wb W' : World} {pf ro h : Nat → Nat} {M : Nat} {cl : List (Nat × Nat)} (hR : R ≤ 128) (hg : GraP st cols R R) (hU : UfI (elD R) pf ro h M) (hE : UfE (EdS st cols R u i) cs R ro (EdN st cols R u i)) {v a b : Nat} (hu : u < R) (hv : v < R) (huv : u ≤ v) (hv2 : (rowL st cols u).getD i 0 = (v : Int)) (hI : InC st cols v u) (ea : cs v = (a : Int)) (eb : cs u = (b : Int)) (ha : a < R) (hb : b < R) (hcl : ClE st cols R cs u (i + 1) cl) (hF' : RoF W' X o (upF pf (ro (elN u a)) (ro (elN v b)))) (hC : FrC X o wb W') : GzI X o R cs st cols wb W' u (i + 1) cl := by
  have D1 := elN_D hR hu ha
  have D2 := elN_D hR hv hb
  obtain ⟨h', M', hJ⟩ := hU.join (hU.rl _ D1) (hU.rl _ D2) (hU.fx _ D1) (hU.fx _ D2)
  have hE2 : UfE (EdS st cols R u (i + 1)) cs R ro (EdN st cols R u i) := ⟨fun x hx => (hE.link x hx).more (fun _ _ k => k.up), hE.edge⟩
  refine ⟨_, _, h', M', hF', hJ, (hE2.step EdS.sy hR hu hv ea eb ha hb (.inl (EdN.next.2 (.inr ⟨⟨hu, hv, hI⟩, huv, rfl, hv2⟩)))).more (fun x y a' b' he _ _ => ?_), hcl, hC⟩
  rcases EdN.next.1 he with k | ⟨_, _, k1, k2⟩
  · exact .inl k
  · exact .inr ⟨k1, by omega⟩
structure ClF (st cols : List Int) (R : Nat) (cs : Nat → Int) (cl : List (Nat × Nat)) : Prop where
  edge : ∀ p ∈ cl, adG st cols R p.1 p.2 ∧ 0 ≤ cs p.1 ∧ 0 ≤ cs p.2 ∧ ¬ FoP (adG st cols R) (TwC cs R (cs p.1) (cs p.2))
  all : ∀ c d : Int, 0 ≤ c → 0 ≤ d → c ≠ d → ¬ FoP (adG st cols R) (TwC cs R c d) → ∃ p ∈ cl, (cs p.1 = c ∧ cs p.2 = d) ∨ (cs p.1 = d ∧ cs p.2 = c)
end
theorem ClE.last {st cols : List Int} {R : Nat} {cs : Nat → Int} {cl : List (Nat × Nat)} (hg : GraP st cols R R) (h : ClE st cols R cs R 0 cl) : ClF st cols R cs cl := by
  have e : EdS st cols R R 0 = adG st cols R := by
    funext p q
    apply propext
    refine ⟨fun k => k.ad hg, fun k => ?_⟩
    rcases Nat.le_total p q with c | c
    · exact .inl ⟨k, c, .inl k.1⟩
    · exact .inr ⟨adG.sy hg _ _ k, c, .inl k.2.1⟩
  exact ⟨fun p hp => ⟨(h.edge p hp).1, (h.edge p hp).2.1, (h.edge p hp).2.2.1, fun f => (h.edge p hp).2.2.2 (by rw [e]; exact f)⟩, fun c d h1 h2 h3 f => h.all c d h1 h2 h3 (by rw [e]; exact f)⟩
def NQ4 (ad : Nat → Nat → Prop) (cs : Nat → Int) (a b c d : Nat) : Prop := ∀ a' b' c' d', Lx4 a' b' c' d' a b c d → ¬ Pa4 ad cs a' b' c' d'
section
variable {ad : Nat → Nat → Prop} {cs : Nat → Int} {a b c d : Nat}
theorem NQ4.first : NQ4 ad cs 0 0 0 0 := fun a' b' c' d' h => by unfold Lx4 at h; omega
theorem NQ4.skip (h : NQ4 ad cs a b c 0) : NQ4 ad cs a b c (a + 1) := fun a' b' c' d' hl k => by
  by_cases e : a' = a ∧ b' = b ∧ c' = c
  · obtain ⟨rfl, rfl, rfl⟩ := e
    have := k.2.2.2.2.2.1
    unfold Lx4 at hl
    omega
  · exact h a' b' c' d' (by unfold Lx4 at hl ⊢; omega) k
theorem NQ4.nextD (h : NQ4 ad cs a b c d) (k : ¬ Pa4 ad cs a b c d) : NQ4 ad cs a b c (d + 1) := fun a' b' c' d' hl => by
  by_cases e : a' = a ∧ b' = b ∧ c' = c ∧ d' = d
  · obtain ⟨rfl, rfl, rfl, rfl⟩ := e; exact k
  · exact h a' b' c' d' (by unfold Lx4 at hl ⊢; omega)
theorem NQ4.nextC (h : NQ4 ad cs a b c d) (k : ∀ d', d ≤ d' → ¬ Pa4 ad cs a b c d') : NQ4 ad cs a b (c + 1) 0 := fun a' b' c' d' hl => by
  by_cases e : a' = a ∧ b' = b ∧ c' = c ∧ d ≤ d'
  · obtain ⟨rfl, rfl, rfl, e⟩ := e; exact k d' e
  · exact h a' b' c' d' (by unfold Lx4 at hl ⊢; omega)
theorem NQ4.nextB (h : NQ4 ad cs a b c 0) (k : ∀ c' d', c ≤ c' → ¬ Pa4 ad cs a b c' d') : NQ4 ad cs a (b + 1) 0 0 := fun a' b' c' d' hl => by
  by_cases e : a' = a ∧ b' = b ∧ c ≤ c'
  · obtain ⟨rfl, rfl, e⟩ := e; exact k c' d' e
  · exact h a' b' c' d' (by unfold Lx4 at hl ⊢; omega)
theorem NQ4.nextA (h : NQ4 ad cs a b 0 0) (k : ∀ b' c' d', b ≤ b' → ¬ Pa4 ad cs a b' c' d') : NQ4 ad cs (a + 1) 0 0 0 := fun a' b' c' d' hl => by
  by_cases e : a' = a ∧ b ≤ b'
  · obtain ⟨rfl, e⟩ := e; exact k b' c' d' e
  · exact h a' b' c' d' (by unfold Lx4 at hl ⊢; omega)
end
set_option maxRecDepth 100000 in
set_option maxHeartbeats 16000000 in
theorem wpath_any (N gb m : Nat) (Q : Nat → Bool) (ad : Nat → Nat → Prop) (hQ : ∀ u v, u < N → v < N → (Q (u * N + v) = true ↔ ad u v)) (had : ∀ u v, ad u v → u < N ∧ v < N) (ac : Option Addr) (cc : Nat) (xs : List Int) (w : World) (hN : N ≤ 128) (hmm : N * N = m) (hR : RoV w gb m (fun i => .bool (Q i))) (h3 : SlI w ac N cc xs) (q : Option (Nat × Nat × Nat × Nat)) (hq : PaO ad (fun i => xs.getD i 0) q) :
    Calls Tryz.prog 61 #[grV N gb m, .slice ac N cc] w fun e w' => OwA (paL q) w w' e := by
  obtain ⟨wb, hwb⟩ : ∃ x, w.alloc (.cells #[.int .i64 (N : Int), .slice (some ⟨gb, 0, none⟩) m m] 45) = x := ⟨_, rfl⟩
  have bb : Below w.heap.size w wb := by rw [← hwb]; exact (Below.refl _ _).alloc (Nat.le_refl _) _
  have hT := BoxP.made w #[.int .i64 (N : Int), .slice (some ⟨gb, 0, none⟩) m m] 45
  rw [hwb] at hT
  have hm2 : m ≤ 16384 := by rw [← hmm]; exact Nat.mul_le_mul hN hN
  have p0 := (hT.all 0 _ rfl).1
  have HA := hide (show ∀ W, Below wb.heap.size wb W → BoxP W w.heap.size [.int .i64 (N : Int), .slice (some ⟨gb, 0, none⟩) m m] ∧ SlI W ac N cc xs ∧ Below w.heap.size w W from fun W b => ⟨hT.below b, (h3.below bb).below b, bb.trans (b.mono bb.size)⟩)
  have HM := hide (show ∀ W, Below wb.heap.size wb W → ∀ u z t, u < N → z < N → Q (u * N + z) = t → Calls Tryz.prog 59 #[.agg #[.int .i64 (N : Int), .slice (some ⟨gb, 0, none⟩) m m], .int .i64 (u : Int), .int .i64 (z : Int)] W fun e w' => e = .returned (.bool t) ∧ Below W.heap.size W w' from fun W b u z t hu hz ht => by
    subst ht
    exact wmeet_any N gb m u z Q W hN (by omega) (by omega) (by rw [← hmm]; have := Nat.mul_le_mul_right N (show u + 1 ≤ N by omega); rw [Nat.add_mul, Nat.one_mul] at this; omega) hm2 ((hR.below bb).below b))
  have HQ := hide hQ
  have HD := hide had
  have HO := hide hq
  clear hT bb hR h3 hq hmm hQ had
  unfold grV
  go_enter Tryz.func61, Tryz.ntmps61
  go_wp2_with fail
  clear p0
  go_loopw [5] (fun av wr => ∃ a : Nat, a ≤ N ∧ av = .int .i64 (a : Int) ∧ Hid (NQ4 ad (fun i => xs.getD i 0) a 0 0 0) ∧ Hid (Below wb.heap.size wb wr)) (fun av _ => N - (intOf av).toNat)
  case atStart => exact ⟨0, Nat.zero_le _, rfl, hide NQ4.first, hide (Below.refl _ _)⟩
  case round =>
    obtain ⟨a, ha, rfl, HS, HW⟩ := hrel
    have hx := unhide HA wr (unhide HW)
    have p0 := (hx.1.all 0 _ rfl).1
    by_cases hal : a < N
    · have hal' : (a : Int) < (N : Int) := by omega
      clear hx
      go_wp2_with fail
      clear p0
      go_loopw [6] (fun bv wq => ∃ b : Nat, b ≤ N ∧ bv = .int .i64 (b : Int) ∧ Hid (NQ4 ad (fun i => xs.getD i 0) a b 0 0) ∧ Hid (Below wb.heap.size wb wq)) (fun bv _ => N - (intOf bv).toNat)
      case atStart => exact ⟨0, Nat.zero_le _, rfl, HS, HW⟩
      case round =>
        obtain ⟨b, hb, rfl, HS2, HW2⟩ := hrel
        have hx := unhide HA wr (unhide HW2)
        have p0 := (hx.1.all 0 _ rfl).1
        by_cases hbl : b < N
        · have hbl' : (b : Int) < (N : Int) := by omega
          clear hx
          go_wp2_with fail
          clear p0
          go_loopw [7] (fun cv wq => ∃ c : Nat, c ≤ N ∧ cv = .int .i64 (c : Int) ∧ Hid (NQ4 ad (fun i => xs.getD i 0) a b c 0) ∧ Hid (Below wb.heap.size wb wq)) (fun cv _ => N - (intOf cv).toNat)
          case atStart => exact ⟨0, Nat.zero_le _, rfl, HS2, HW2⟩
          case round =>
            obtain ⟨c, hc, rfl, HS3, HW3⟩ := hrel
            have hx := unhide HA wr (unhide HW3)
            have p0 := (hx.1.all 0 _ rfl).1
            have p1 := (hx.1.all 1 _ rfl).1
            obtain ⟨q1, hq1⟩ : ∃ t, Q (a * N + b) = t := ⟨_, rfl⟩
            have KM := hide (unhide HM wr (unhide HW3) a b q1 hal hbl hq1)
            have HQ1 := hide (show q1 = true ↔ ad a b from by rw [← hq1]; exact unhide HQ a b hal hbl)
            clear hx hq1
            cases q1
            · have HN := hide ((unhide HS3).nextB (fun c' d' _ k => by have := (unhide HQ1).2 k.1; cases this))
              go_wp2_with fail
              refine (unhide KM).mono ?_
              rintro _ w5 ⟨rfl, b5⟩
              have HW5 := hide ((unhide HW3).trans (b5.mono (unhide HW3).size))
              clear KM b5 p0 p1
              go_wp2_with fail
              exact ⟨⟨b + 1, by omega, by (first | rfl | go_num), HN, HW5⟩, by simp [intOf]; omega⟩
            · go_wp2_with fail
              refine (unhide KM).mono ?_
              rintro _ w5 ⟨rfl, b5⟩
              have HW5 := hide ((unhide HW3).trans (b5.mono (unhide HW3).size))
              clear KM b5 p0 p1
              have hx := unhide HA w5 (unhide HW5)
              have p0 := (hx.1.all 0 _ rfl).1
              have p1 := (hx.1.all 1 _ rfl).1
              by_cases hcl : c < N
              · have hcl' : (c : Int) < (N : Int) := by omega
                obtain ⟨bc, oc, ea, hcx⟩ := hx.2.1.at (by omega)
                subst ea
                have s0 := hcx c hcl
                have s1 := hcx a hal
                obtain ⟨y0, hy0⟩ : ∃ y, xs.getD c 0 = y := ⟨_, rfl⟩
                obtain ⟨y1, hy1⟩ : ∃ y, xs.getD a 0 = y := ⟨_, rfl⟩
                rw [hy0] at s0
                rw [hy1] at s1
                obtain ⟨q2, hq2⟩ : ∃ t, Q (b * N + c) = t := ⟨_, rfl⟩
                have F0 := fun x' : Ext w5 => x'.cell s0
                have F1 := fun x' : Ext w5 => x'.cell s1
                have F2 := fun x' : Ext w5 => x'.cell p0
                have F3 := fun x' : Ext w5 => x'.cell p1
                have hNE := Ext.ne w5
                have HK2 := hide (show ∀ x' : Ext w5, Calls Tryz.prog 59 #[.agg #[.int .i64 (N : Int), .slice (some ⟨gb, 0, none⟩) m m], .int .i64 (b : Int), .int .i64 (c : Int)] x'.w fun e w' => e = .returned (.bool q2) ∧ Below x'.w.heap.size x'.w w' from fun x' => unhide HM x'.w ((unhide HW5).trans (x'.bel.mono (unhide HW5).size)) b c q2 hbl hcl hq2)
                have HQ2 := hide (show q2 = true ↔ ad b c from by rw [← hq2]; exact unhide HQ b c hbl hcl)
                have HY := hide (And.intro hy0 hy1)
                clear hq2 hy0 hy1 hx hcx
                cases q2
                · have HN2 := hide ((unhide HS3).nextC (fun d' _ k => by have := (unhide HQ2).2 k.2.1; cases this))
                  go_wp2_with fail
                  refine wp_region_ext (by kernel_rfl) (by kernel_rfl) ?_
                  repeat (go_big_quiet_step ((go_at_call 59; rename_i x'; first
                    | (with_reducible exact Ext.call (unhide HK2 x') (fun e w' h => h)))))
                  refine wpQuiet_nil ?_
                  clear s0 s1 p0 p1
                  rintro _ ⟨xE, rfl⟩
                  have HX1 := hide (show Below wb.heap.size wb xE.w from (unhide HW5).trans (xE.bel.mono (unhide HW5).size))
                  clear F0 F1 F2 F3 hNE HK2
                  go_wp2_with fail
                  exact ⟨⟨c + 1, by omega, by (first | rfl | go_num), HN2, HX1⟩, by simp [intOf]; omega⟩
                · by_cases hca : c = a
                  · have hca' : ((c : Int) == (a : Int)) = true := by simp; omega
                    have HN2 := hide ((unhide HS3).nextC (fun d' _ k => k.2.2.1 hca))
                    clear hca
                    go_wp2_with fail
                    refine wp_region_ext (by kernel_rfl) (by kernel_rfl) ?_
                    repeat (go_big_quiet_step ((go_at_call 59; rename_i x'; first
                      | (with_reducible exact Ext.call (unhide HK2 x') (fun e w' h => h)))))
                    refine wpQuiet_nil ?_
                    clear s0 s1 p0 p1
                    rintro _ ⟨xE, rfl⟩
                    have HX1 := hide (show Below wb.heap.size wb xE.w from (unhide HW5).trans (xE.bel.mono (unhide HW5).size))
                    clear F0 F1 F2 F3 hNE HK2
                    go_wp2_with fail
                    exact ⟨⟨c + 1, by omega, by (first | rfl | go_num), HN2, HX1⟩, by simp [intOf]; omega⟩
                  · have hca' : ((c : Int) == (a : Int)) = false := by simp; omega
                    by_cases hyy : y0 = y1
                    · have hyy' : (y0 != y1) = false := by simp [hyy]
                      have HYY := hide hyy
                      have HCA := hide hca
                      have hw1 : IntKind.i64.wrap ((a : Int) + 1) = (a : Int) + 1 := by rw [IntKind.wrap_i64]; omega
                      clear hyy hca
                      go_wp2_with fail
                      refine wp_region_ext (by kernel_rfl) (by kernel_rfl) ?_
                      repeat (go_big_quiet_step ((go_at_call 59; rename_i x'; first
                        | (with_reducible exact Ext.call (unhide HK2 x') (fun e w' h => h)))))
                      refine wpQuiet_nil ?_
                      clear s0 s1 p0 p1
                      rintro _ ⟨xE, rfl⟩
                      have HX1 := hide (show Below wb.heap.size wb xE.w from (unhide HW5).trans (xE.bel.mono (unhide HW5).size))
                      clear F0 F1 F2 F3 hNE HK2
                      go_wp2_with fail
                      go_loopw [8] (fun dv wz => ∃ d : Nat, a + 1 ≤ d ∧ d ≤ N ∧ dv = .int .i64 (d : Int) ∧ Hid (NQ4 ad (fun i => xs.getD i 0) a b c d) ∧ Hid (Below wb.heap.size wb wz)) (fun dv _ => N - (intOf dv).toNat)
                      case atStart => exact ⟨a + 1, Nat.le_refl _, by omega, by (first | rfl | go_num), hide ((unhide HS3).skip), HX1⟩
                      case round =>
                        obtain ⟨d, had1, hd, rfl, HS4, HW6⟩ := hrel
                        have hx := unhide HA wr (unhide HW6)
                        have p0 := (hx.1.all 0 _ rfl).1
                        have p1 := (hx.1.all 1 _ rfl).1
                        by_cases hdl : d < N
                        · have hdl' : (d : Int) < (N : Int) := by omega
                          obtain ⟨bc', oc', ea, hcx⟩ := hx.2.1.at (by omega)
                          cases ea
                          have s0 := hcx d hdl
                          have s1 := hcx b hbl
                          obtain ⟨y3, hy3⟩ : ∃ y, xs.getD d 0 = y := ⟨_, rfl⟩
                          obtain ⟨y4, hy4⟩ : ∃ y, xs.getD b 0 = y := ⟨_, rfl⟩
                          rw [hy3] at s0
                          rw [hy4] at s1
                          obtain ⟨q3, hq3⟩ : ∃ t, Q (c * N + d) = t := ⟨_, rfl⟩
                          have F0 := fun x' : Ext wr => x'.cell s0
                          have F1 := fun x' : Ext wr => x'.cell s1
                          have F2 := fun x' : Ext wr => x'.cell p0
                          have F3 := fun x' : Ext wr => x'.cell p1
                          have hNE := Ext.ne wr
                          have HK3 := hide (show ∀ x' : Ext wr, Calls Tryz.prog 59 #[.agg #[.int .i64 (N : Int), .slice (some ⟨gb, 0, none⟩) m m], .int .i64 (c : Int), .int .i64 (d : Int)] x'.w fun e w' => e = .returned (.bool q3) ∧ Below x'.w.heap.size x'.w w' from fun x' => unhide HM x'.w ((unhide HW6).trans (x'.bel.mono (unhide HW6).size)) c d q3 hcl hdl hq3)
                          have HQ3 := hide (show q3 = true ↔ ad c d from by rw [← hq3]; exact unhide HQ c d hcl hdl)
                          have HY3 := hide (And.intro hy3 hy4)
                          clear hq3 hy3 hy4 hx hcx
                          cases q3
                          · have HN4 := hide ((unhide HS4).nextD (fun k => by have := (unhide HQ3).2 k.2.2.2.2.1; cases this))
                            go_wp2_with fail
                            refine wp_region_ext (by kernel_rfl) (by kernel_rfl) ?_
                            repeat (go_big_quiet_step ((go_at_call 59; rename_i x'; first
                              | (with_reducible exact Ext.call (unhide HK3 x') (fun e w' h => h)))))
                            refine wpQuiet_nil ?_
                            clear s0 s1 p0 p1
                            rintro _ ⟨xE, rfl⟩
                            have HX2 := hide (show Below wb.heap.size wb xE.w from (unhide HW6).trans (xE.bel.mono (unhide HW6).size))
                            clear F0 F1 F2 F3 hNE HK3
                            go_wp2_with fail
                            exact ⟨⟨d + 1, by omega, by omega, by (first | rfl | go_num), HN4, HX2⟩, by simp [intOf]; omega⟩
                          · by_cases hdb : d = b
                            · have hdb' : ((d : Int) != (b : Int)) = false := by simp; omega
                              have HN4 := hide ((unhide HS4).nextD (fun k => k.2.2.2.2.2.2.1 hdb))
                              clear hdb
                              go_wp2_with fail
                              refine wp_region_ext (by kernel_rfl) (by kernel_rfl) ?_
                              repeat (go_big_quiet_step ((go_at_call 59; rename_i x'; first
                                | (with_reducible exact Ext.call (unhide HK3 x') (fun e w' h => h)))))
                              refine wpQuiet_nil ?_
                              clear s0 s1 p0 p1
                              rintro _ ⟨xE, rfl⟩
                              have HX2 := hide (show Below wb.heap.size wb xE.w from (unhide HW6).trans (xE.bel.mono (unhide HW6).size))
                              clear F0 F1 F2 F3 hNE HK3
                              go_wp2_with fail
                              exact ⟨⟨d + 1, by omega, by omega, by (first | rfl | go_num), HN4, HX2⟩, by simp [intOf]; omega⟩
                            · have hdb' : ((d : Int) != (b : Int)) = true := by simp; omega
                              by_cases hy34 : y3 = y4
                              · have hy34' : (y3 == y4) = true := by simp [hy34]
                                have hres : q = some (a, b, c, d) := PaO.at (unhide HO) ⟨(unhide HQ1).1 (by first | rfl | trivial), (unhide HQ2).1 (by first | rfl | trivial), unhide HCA, (by show xs.getD c 0 = xs.getD a 0; rw [(unhide HY).1, (unhide HY).2]; exact unhide HYY), (unhide HQ3).1 (by first | rfl | trivial), by omega, hdb, (by show xs.getD d 0 = xs.getD b 0; rw [(unhide HY3).1, (unhide HY3).2]; exact hy34)⟩ (unhide HS4)
                                subst hres
                                clear hdb hy34
                                go_wp2_with fail
                                refine wp_region_ext (by kernel_rfl) (by kernel_rfl) ?_
                                repeat (go_big_quiet_step ((go_at_call 59; rename_i x'; first
                                  | (with_reducible exact Ext.call (unhide HK3 x') (fun e w' h => h)))))
                                refine wpQuiet_nil ?_
                                clear s0 s1 p0 p1
                                rintro _ ⟨xE, rfl⟩
                                have HX2 := hide (show Below wb.heap.size wb xE.w from (unhide HW6).trans (xE.bel.mono (unhide HW6).size))
                                have HF := hide ((unhide HA xE.w (unhide HX2)).2.2)
                                clear F0 F1 F2 F3 hNE HK3
                                go_wp2_with fail
                                try go_ret
                                exact ⟨_, rfl, own_four _ _ _ _ _ (unhide HF).size, (unhide HF).alloc (unhide HF).size _⟩
                              · have hy34' : (y3 == y4) = false := by simp [hy34]
                                have HN4 := hide ((unhide HS4).nextD (fun k => by have h9 : xs.getD d 0 = xs.getD b 0 := k.2.2.2.2.2.2.2; rw [(unhide HY3).1, (unhide HY3).2] at h9; exact hy34 h9))
                                clear hdb hy34
                                go_wp2_with fail
                                refine wp_region_ext (by kernel_rfl) (by kernel_rfl) ?_
                                repeat (go_big_quiet_step ((go_at_call 59; rename_i x'; first
                                  | (with_reducible exact Ext.call (unhide HK3 x') (fun e w' h => h)))))
                                refine wpQuiet_nil ?_
                                clear s0 s1 p0 p1
                                rintro _ ⟨xE, rfl⟩
                                have HX2 := hide (show Below wb.heap.size wb xE.w from (unhide HW6).trans (xE.bel.mono (unhide HW6).size))
                                clear F0 F1 F2 F3 hNE HK3
                                go_wp2_with fail
                                exact ⟨⟨d + 1, by omega, by omega, by (first | rfl | go_num), HN4, HX2⟩, by simp [intOf]; omega⟩
                        · obtain rfl : d = N := by omega
                          have hdl' : ¬ (d : Int) < (d : Int) := by omega
                          have HN5 := hide ((unhide HS4).nextC (fun d' h1 k => by have := (unhide HD c d' k.2.2.2.2.1).2; omega))
                          clear hx
                          go_wp2_with fail
                          exact ⟨⟨c + 1, by omega, by (first | rfl | go_num), HN5, HW6⟩, by simp [intOf]; omega⟩
                    · have hyy' : (y0 != y1) = true := by simp [hyy]
                      have HN2 := hide ((unhide HS3).nextC (fun d' _ k => by have h9 : xs.getD c 0 = xs.getD a 0 := k.2.2.2.1; rw [(unhide HY).1, (unhide HY).2] at h9; exact hyy h9))
                      clear hyy hca
                      go_wp2_with fail
                      refine wp_region_ext (by kernel_rfl) (by kernel_rfl) ?_
                      repeat (go_big_quiet_step ((go_at_call 59; rename_i x'; first
                        | (with_reducible exact Ext.call (unhide HK2 x') (fun e w' h => h)))))
                      refine wpQuiet_nil ?_
                      clear s0 s1 p0 p1
                      rintro _ ⟨xE, rfl⟩
                      have HX1 := hide (show Below wb.heap.size wb xE.w from (unhide HW5).trans (xE.bel.mono (unhide HW5).size))
                      clear F0 F1 F2 F3 hNE HK2
                      go_wp2_with fail
                      exact ⟨⟨c + 1, by omega, by (first | rfl | go_num), HN2, HX1⟩, by simp [intOf]; omega⟩
              · obtain rfl : c = N := by omega
                have hcl' : ¬ (c : Int) < (c : Int) := by omega
                have HN5 := hide ((unhide HS3).nextB (fun c' d' h1 k => by have := (unhide HD b c' k.2.1).2; omega))
                clear hx
                go_wp2_with fail
                exact ⟨⟨b + 1, by omega, by (first | rfl | go_num), HN5, HW5⟩, by simp [intOf]; omega⟩
        · obtain rfl : b = N := by omega
          have hbl' : ¬ (b : Int) < (b : Int) := by omega
          have HN5 := hide ((unhide HS2).nextA (fun b' c' d' h1 k => by have := (unhide HD a b' k.1).2; omega))
          clear hx
          go_wp2_with fail
          exact ⟨⟨a + 1, by omega, by (first | rfl | go_num), HN5, HW2⟩, by simp [intOf]; omega⟩
    · obtain rfl : a = N := by omega
      have hal' : ¬ (a : Int) < (a : Int) := by omega
      have hres := PaO.no (unhide HO) (fun a' b' c' d' k => unhide HS a' b' c' d' (.inl (unhide HD a' b' k.1).1) k)
      subst hres
      have HF := hide hx.2.2
      clear hx
      go_wp2_with fail
      try go_ret
      exact ⟨_, rfl, World.ownsRow_nil _ _ _ _, unhide HF⟩
end Go.Proofs.YtgjokididdffhaaGreat
