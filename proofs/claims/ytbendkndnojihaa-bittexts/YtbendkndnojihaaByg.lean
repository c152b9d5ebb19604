/-
  bitset's reader: number: its contract.
-/
import Derived.Test.YtbendkndnojihaaByf
namespace Go.Proofs.Ytbendkndnojihaa
open Go.RowKit Go.Deep
set_option linter.unusedVariables false

/-- Three cells. -/
structure Thr (w : World) (R : Nat) (v0 v1 v2 : Value) : Prop where
  c0 : w.cell? ⟨R, 0, none⟩ = some v0
  c1 : w.cell? ⟨R, 1, none⟩ = some v1
  c2 : w.cell? ⟨R, 2, none⟩ = some v2
  f0 : w.frozen? ⟨R, 0, none⟩ = false
  f1 : w.frozen? ⟨R, 1, none⟩ = false
  f2 : w.frozen? ⟨R, 2, none⟩ = false
theorem Thr.lt {w : World} {R : Nat} {v0 v1 v2 : Value} (h : Thr w R v0 v1 v2) : R < w.heap.size := World.block_lt_of_cell? _ _ h.c0
theorem Thr.made (w : World) (v0 v1 v2 : Value) (e : TypeId) : Thr (w.alloc (.cells #[v0, v1, v2] e)) w.heap.size v0 v1 v2 := ⟨by simp, by simp, by simp, by simp, by simp, by simp⟩
theorem Thr.chg {S : Nat → Prop} {w w' : World} {R : Nat} {v0 v1 v2 : Value} (h : Thr w R v0 v1 v2) (k : Chg S w w') (hs : ¬ S R) : Thr w' R v0 v1 v2 :=
  ⟨k.cell hs h.c0, k.cell hs h.c1, k.cell hs h.c2, by rw [k.froz h.lt hs]; exact h.f0, by rw [k.froz h.lt hs]; exact h.f1, by rw [k.froz h.lt hs]; exact h.f2⟩
theorem Thr.keep {w w' : World} {R : Nat} {v0 v1 v2 : Value} (h : Thr w R v0 v1 v2) (k : Below w.heap.size w w') : Thr w' R v0 v1 v2 := h.chg (S := fun _ => False) (Chg.of_below k) (fun x => x)
theorem Thr.put0 {w : World} {R : Nat} {v0 v1 v2 : Value} (h : Thr w R v0 v1 v2) (u : Value) : Thr (w.setCell ⟨R, 0, none⟩ u) R u v1 v2 :=
  ⟨World.cell?_setCell_same _ _ _ h.c0, by rw [World.cell?_setCell_other _ _ _ _ (by simp)]; exact h.c1, by rw [World.cell?_setCell_other _ _ _ _ (by simp)]; exact h.c2, by rw [World.frozen?_setCell]; exact h.f0, by rw [World.frozen?_setCell]; exact h.f1, by rw [World.frozen?_setCell]; exact h.f2⟩
theorem Thr.all {w : World} {R : Nat} {v0 v1 v2 : Value} (h : Thr w R v0 v1 v2) (u0 u1 u2 : Value) : Thr (((w.setCell ⟨R, 0, none⟩ u0).setCell ⟨R, 1, none⟩ u1).setCell ⟨R, 2, none⟩ u2) R u0 u1 u2 := by
  have k0 := h.put0 u0
  have s1 := World.cell?_setCell_same _ _ u1 k0.c1
  have e0 : ((w.setCell ⟨R, 0, none⟩ u0).setCell ⟨R, 1, none⟩ u1).cell? ⟨R, 0, none⟩ = some u0 := by rw [World.cell?_setCell_other _ _ _ _ (by simp)]; exact k0.c0
  have e2 : ((w.setCell ⟨R, 0, none⟩ u0).setCell ⟨R, 1, none⟩ u1).cell? ⟨R, 2, none⟩ = some v2 := by rw [World.cell?_setCell_other _ _ _ _ (by simp)]; exact k0.c2
  refine ⟨by rw [World.cell?_setCell_other _ _ _ _ (by simp)]; exact e0, by rw [World.cell?_setCell_other _ _ _ _ (by simp)]; exact s1, World.cell?_setCell_same _ _ _ e2, ?_, ?_, ?_⟩
  · rw [World.frozen?_setCell, World.frozen?_setCell, World.frozen?_setCell]; exact h.f0
  · rw [World.frozen?_setCell, World.frozen?_setCell, World.frozen?_setCell]; exact h.f1
  · rw [World.frozen?_setCell, World.frozen?_setCell, World.frozen?_setCell]; exact h.f2
theorem Chg.new {S : Nat → Prop} {w wr : World} (h : Chg S w wr) {b : Nat} (hb : w.heap.size ≤ b) (i : Nat) (v : Value) : Chg S w (wr.setCell ⟨b, i, none⟩ v) :=
  ⟨h.os, h.tape, h.output, by simpa using h.size, fun k hk hs => by
    rw [Below.heap_setCell wr _ v k (fun e => by have e2 : k = b := e; omega)]
    exact h.block k hk hs⟩

def isDg (c : Nat) : Bool := decide (48 ≤ c) && decide (c ≤ 57)
/-- A number's digits: what it is worth (no more than 4097), and where it ends. -/
def rdV (s : ByteArray) : Nat → Nat → Nat → Nat × Nat
  | 0, p, v => (v, p)
  | f + 1, p, v => if isDg (bySt s p) then rdV s f (p + 1) (min (10 * v + (bySt s p - 48)) 4097) else (v, p)
def numR (s : ByteArray) (p : Nat) : (Nat × Nat) × Bool := if skB s p 48 then ((0, p + 1), true) else ((rdV s (s.size - p) p 0), decide (p < (rdV s (s.size - p) p 0).2))
theorem rdV_le (s : ByteArray) : ∀ f p v, p ≤ (rdV s f p v).2 ∧ (rdV s f p v).2 ≤ p + f
  | 0, p, v => ⟨Nat.le_refl _, Nat.le_refl _⟩
  | f + 1, p, v => by
    unfold rdV
    split
    · have := rdV_le s f (p + 1) (min (10 * v + (bySt s p - 48)) 4097)
      omega
    · simp

structure NbI (w wr : World) (R : Nat) (s : ByteArray) (p q v : Nat) : Prop where
  tr : Two wr R (.string s) (.int .i64 (q : Int))
  tn : Thr wr (w.heap.size + 1) (.int .i64 (v : Int)) (.int .i64 (p : Int)) (.bool false)
  tz : Thr wr w.heap.size (.int .i64 0) (.int .i64 0) (.bool false)
  chg : Chg (fun j => j = R) w wr
theorem NbI.below {w wr w2 : World} {R : Nat} {s : ByteArray} {p q v : Nat} (h : NbI w wr R s p q v) (hb : Below wr.heap.size wr w2) : NbI w w2 R s p q v :=
  ⟨h.tr.keep hb, h.tn.keep hb, h.tz.keep hb, h.chg.trans (Chg.of_below hb)⟩
theorem NbI.skip {w wr w2 : World} {R : Nat} {s : ByteArray} {p q q2 v : Nat} (h : NbI w wr R s p q v) (hR : R < w.heap.size) (ht : Two w2 R (.string s) (.int .i64 (q2 : Int))) (hc : Chg (fun j => j = R) wr w2) : NbI w w2 R s p q2 v :=
  ⟨ht, h.tn.chg hc (by omega), h.tz.chg hc (by omega), h.chg.trans hc⟩
/-- The value is written, and the place. -/
theorem NbI.step {w wr : World} {R : Nat} {s : ByteArray} {p q v : Nat} (h : NbI w wr R s p q v) (hR : R < w.heap.size) (v2 q2 : Nat) : NbI w ((wr.setCell ⟨w.heap.size + 1, 0, none⟩ (.int .i64 (v2 : Int))).setCell ⟨R, 1, none⟩ (.int .i64 (q2 : Int))) R s p q2 v2 := by
  have h1 : Chg (fun j => j = w.heap.size + 1) wr (wr.setCell ⟨w.heap.size + 1, 0, none⟩ (.int .i64 (v2 : Int))) := Chg.of_set (S := fun j => j = w.heap.size + 1) _ _ _ _ rfl
  have h2 : Chg (fun j => j = R) (wr.setCell ⟨w.heap.size + 1, 0, none⟩ (.int .i64 (v2 : Int))) ((wr.setCell ⟨w.heap.size + 1, 0, none⟩ (.int .i64 (v2 : Int))).setCell ⟨R, 1, none⟩ (.int .i64 (q2 : Int))) := Chg.of_set (S := fun j => j = R) _ _ _ _ rfl
  exact ⟨(h.tr.chg h1 (by omega)).put1 _, (h.tn.put0 _).chg h2 (by omega), (h.tz.chg h1 (by omega)).chg h2 (by omega), (h.chg.new (by omega) 0 _).trans h2⟩
theorem NbI.val {w wr : World} {R : Nat} {s : ByteArray} {p q v : Nat} (h : NbI w wr R s p q v) (hR : R < w.heap.size) (v2 : Nat) : NbI w (wr.setCell ⟨w.heap.size + 1, 0, none⟩ (.int .i64 (v2 : Int))).drew R s p q v2 := by
  have h1 : Chg (fun j => j = w.heap.size + 1) wr (wr.setCell ⟨w.heap.size + 1, 0, none⟩ (.int .i64 (v2 : Int))) := Chg.of_set (S := fun j => j = w.heap.size + 1) _ _ _ _ rfl
  exact NbI.below (wr := wr.setCell ⟨w.heap.size + 1, 0, none⟩ (.int .i64 (v2 : Int))) ⟨h.tr.chg h1 (by omega), h.tn.put0 _, h.tz.chg h1 (by omega), h.chg.new (by omega) 0 _⟩ (Below.refl _ _).drew
theorem NbI.at1 {w wr : World} {R : Nat} {s : ByteArray} {p q v : Nat} (h : NbI w wr R s p q v) (hR : R < w.heap.size) (q2 : Nat) : NbI w (wr.setCell ⟨R, 1, none⟩ (.int .i64 (q2 : Int))) R s p q2 v := by
  have h2 : Chg (fun j => j = R) wr (wr.setCell ⟨R, 1, none⟩ (.int .i64 (q2 : Int))) := Chg.of_set (S := fun j => j = R) _ _ _ _ rfl
  exact ⟨h.tr.put1 _, h.tn.chg h2 (by omega), h.tz.chg h2 (by omega), h.chg.trans h2⟩
/-- The answer's place is written. -/
theorem NbI.fin {w wr : World} {R : Nat} {s : ByteArray} {p q v : Nat} (h : NbI w wr R s p q v) (hR : R < w.heap.size) (u0 u1 u2 : Value) : Two (((wr.setCell ⟨w.heap.size, 0, none⟩ u0).setCell ⟨w.heap.size, 1, none⟩ u1).setCell ⟨w.heap.size, 2, none⟩ u2) R (.string s) (.int .i64 (q : Int)) ∧ Chg (fun j => j = R) w (((wr.setCell ⟨w.heap.size, 0, none⟩ u0).setCell ⟨w.heap.size, 1, none⟩ u1).setCell ⟨w.heap.size, 2, none⟩ u2) :=
  ⟨((h.tr.other _ _ _ (by omega)).other _ _ _ (by omega)).other _ _ _ (by omega), ((h.chg.new (Nat.le_refl _) 0 _).new (Nat.le_refl _) 1 _).new (Nat.le_refl _) 2 _⟩

def rdI (w : World) (R : Nat) : Nat := match w.cell? ⟨R, 1, none⟩ with | some (.int _ z) => z.toNat | _ => 0
theorem NbI.rd {w wr : World} {R : Nat} {s : ByteArray} {p q v : Nat} (h : NbI w wr R s p q v) : rdI wr R = q := by
  unfold rdI
  rw [h.tr.c1]
  simp
theorem rdV_dg (s : ByteArray) {q v : Nat} (hq : q < s.size) (hd : isDg (bySt s q) = true) : rdV s (s.size - q) q v = rdV s (s.size - (q + 1)) (q + 1) (min (10 * v + (bySt s q - 48)) 4097) := by
  obtain ⟨f, hf⟩ : ∃ f, s.size - q = f + 1 := ⟨s.size - q - 1, by omega⟩
  rw [hf, show s.size - (q + 1) = f from by omega]
  show (if isDg (bySt s q) then _ else _) = _
  rw [if_pos hd]
theorem rdV_no (s : ByteArray) {q v : Nat} (hd : s.size ≤ q ∨ isDg (bySt s q) = false) : rdV s (s.size - q) q v = (v, q) := by
  rcases hd with h | h
  · rw [show s.size - q = 0 from by omega]; rfl
  · cases hf : s.size - q with
    | zero => rfl
    | succ f =>
      show (if isDg (bySt s q) then _ else _) = _
      rw [h]; rfl

set_option maxHeartbeats 8000000 in
set_option maxRecDepth 100000 in
theorem number_any (R : Nat) (s : ByteArray) (p : Nat) (w : World) (h : Two w R (.string s) (.int .i64 (p : Int))) (hN : s.size ≤ 65536) (hp : p ≤ s.size) :
    Calls Try.prog 75 #[.pointer (some ⟨R, 0, none⟩)] w fun r w' => r = .returned (.tuple #[.agg #[.int .i64 ((numR s p).1.1 : Int), .int .i64 (p : Int), .bool false], .bool (numR s p).2]) ∧ Two w' R (.string s) (.int .i64 ((numR s p).1.2 : Int)) ∧ Chg (fun j => j = R) w w' := by
  have hRl := h.lt
  have hw0 : Below w.heap.size w (w.alloc (.cells #[.int .i64 0, .int .i64 0, .bool false] 77)) := (Below.refl _ _).alloc (Nat.le_refl _) _
  have hw1 : Below (w.alloc (.cells #[.int .i64 0, .int .i64 0, .bool false] 77)).heap.size (w.alloc (.cells #[.int .i64 0, .int .i64 0, .bool false] 77)) ((w.alloc (.cells #[.int .i64 0, .int .i64 0, .bool false] 77)).alloc (.cells #[.int .i64 0, .int .i64 (p : Int), .bool false] 77)) := (Below.refl _ _).alloc (Nat.le_refl _) _
  have t0 := h.keep hw0
  have c0 := t0.c0
  have c1 := t0.c1
  have d0 := h.c0
  have d1 := h.c1
  have hI0 : NbI w ((w.alloc (.cells #[.int .i64 0, .int .i64 0, .bool false] 77)).alloc (.cells #[.int .i64 0, .int .i64 (p : Int), .bool false] 77)) R s p p 0 := by
    refine ⟨t0.keep hw1, ?_, (Thr.made w _ _ _ _).keep hw1, Chg.of_below (hw0.trans (hw1.mono hw0.size))⟩
    have := Thr.made (w.alloc (.cells #[.int .i64 0, .int .i64 0, .bool false] 77)) (.int .i64 0) (.int .i64 (p : Int)) (.bool false) 77
    rwa [show (w.alloc (.cells #[.int .i64 0, .int .i64 0, .bool false] 77)).heap.size = w.heap.size + 1 from by simp] at this
  have K := skip_any R s p 48 _ hI0.tr hN hp (by decide)
  have HI0 := hide hI0
  obtain ⟨nr, hnr⟩ : ∃ x, numR s p = x := ⟨_, rfl⟩
  have HNR := hide hnr
  rw [hnr]
  clear t0 hw0 hw1 h hI0 hnr
  cases hsk : skB s p 48
  · have hsp : skP s p 48 = p := by unfold skP; rw [hsk]; rfl
    rw [hsk, hsp] at K
    have HK := hide K
    have HE := hide (show nr = (rdV s (s.size - p) p 0, decide (p < (rdV s (s.size - p) p 0).2)) from by rw [← unhide HNR]; unfold numR; rw [hsk]; rfl)
    clear K hsk hsp HNR
    go_enter Try.func75, Try.ntmps75
    go_wp2_with fail
    clear c0 c1 d0 d1
    generalize (w.alloc (.cells #[.int .i64 0, .int .i64 0, .bool false] 77)).alloc (.cells #[.int .i64 0, .int .i64 (p : Int), .bool false] 77) = w2 at *
    refine (unhide HK).mono ?_
    rintro _ w3 ⟨rfl, ht3, hc3⟩
    have HI1 := hide ((unhide HI0).skip hRl ht3 hc3)
    clear ht3 hc3 HK HI0
    go_wp2_with fail
    go_loopw [39] (fun _ wr => ∃ q v : Nat, p ≤ q ∧ q ≤ s.size ∧ v ≤ 4097 ∧ rdV s (s.size - q) q v = rdV s (s.size - p) p 0 ∧ NbI w wr R s p q v) (fun _ wr => s.size - rdI wr R)
    case atStart => exact ⟨p, 0, Nat.le_refl _, hp, by omega, rfl, unhide HI1⟩
    case round =>
      obtain ⟨q, v, hpq, hq, hv, hrd, hst⟩ := hrel
      have c0 := hst.tr.c0
      have c1 := hst.tr.c1
      have K := fun x : Ext wr => ended_any R s q x.w (hst.tr.keep x.bel) hN hq
      have F0 := fun x : Ext wr => x.cell c0
      have F1 := fun x : Ext wr => x.cell c1
      have hNE := Ext.ne wr
      have HS := hide hst
      have HRd := hide hrd
      clear hst hrd
      by_cases hdg : q < s.size ∧ isDg (bySt s q) = true
      · obtain ⟨hlt, hd⟩ := hdg
        have e2 : decide (q = s.size) = false := by simp; omega
        rw [e2] at K
        have HK := hide K
        have hlt' : (q : Int) < (s.size : Int) := by omega
        have hq0 : (0 : Int) ≤ (q : Int) := by omega
        have hsp := bySt_get s q hlt
        have hd2 : 48 ≤ bySt s q ∧ bySt s q ≤ 57 := by simpa [isDg] using hd
        have HN := hide (rdV_dg s (v := v) hlt hd)
        obtain ⟨cb, hcb⟩ : ∃ cb, bySt s q = cb := ⟨_, rfl⟩
        rw [hcb] at hsp hd2 HN
        have q1 : (48 : Int) ≤ ((s[q]'hlt).toNat : Int) := by rw [hsp]; omega
        have q2 : ((s[q]'hlt).toNat : Int) ≤ 57 := by rw [hsp]; omega
        obtain ⟨V, hVd⟩ : ∃ V, min (10 * v + (cb - 48)) 4097 = V := ⟨_, rfl⟩
        have hV : (if (4097 : Int) < 10 * (v : Int) + (((s[q]'hlt).toNat : Int) - 48) then (4097 : Int) else 10 * (v : Int) + (((s[q]'hlt).toNat : Int) - 48)) = (V : Int) := by
          rw [hsp, ← hVd]
          split <;> omega
        have hV9 : V ≤ 4097 := by omega
        rw [hVd] at HN
        have HV := hide hV
        clear K e2 hd hcb hsp c0 c1 hV hVd
        go_wp2_with fail
        refine wp_region_ext (by kernel_rfl) (by kernel_rfl) ?_
        repeat (go_big_quiet_step (first | (go_at_call 77; rename_i x; exact Ext.call (unhide HK x) (fun e w' h => h))))
        refine wpQuiet_nil ?_
        rintro _ ⟨x, rfl⟩
        have h2 := (unhide HS).below x.bel
        have k0 := h2.tr.c0
        have k1 := h2.tr.c1
        have k2 := h2.tr.f1
        have m0 := h2.tn.c0
        have m1 := h2.tn.f0
        have HS2 := hide h2
        clear F0 F1 h2 HK
        go_wp2_with fail
        go_region
        rw [unhide HV]
        have h3 := (unhide HS2).val hRl V
        generalize (x.w.setCell ⟨w.heap.size + 1, 0, none⟩ (.int .i64 (V : Int))).drew = W4 at *
        clear k0 k1 k2 m0 m1
        have k0 := h3.tr.c0
        have k1 := h3.tr.c1
        have k2 := h3.tr.f1
        have q9 : IntKind.i64.wrap ((q : Int) + 1) = (q : Int) + 1 := by rw [wrap_i64]; omega
        have HS3 := hide (h3.at1 hRl (q + 1))
        clear h3 HS2
        go_wp2_with fail
        have hnat : ((q + 1 : Nat) : Int) = (q : Int) + 1 := by omega
        have h5 := unhide HS3
        rw [hnat] at h5
        refine ⟨⟨q + 1, V, by omega, by omega, hV9, by rw [← unhide HN]; exact unhide HRd, h5⟩, ?_⟩
        rw [h5.rd, (unhide HS).rd]
        omega
      · have HNo := hide (show rdV s (s.size - p) p 0 = (v, q) from by
          rw [← unhide HRd]
          refine rdV_no s ?_
          by_cases c : q < s.size
          · right
            cases hh : isDg (bySt s q)
            · rfl
            · exact absurd ⟨c, hh⟩ hdg
          · left; omega)
        have HE2 := hide (show nr = ((v, q), decide (p < q)) from by rw [unhide HE, unhide HNo])
        by_cases hlt : q < s.size
        · have e2 : decide (q = s.size) = false := by simp; omega
          rw [e2] at K
          have HK := hide K
          have hlt' : (q : Int) < (s.size : Int) := by omega
          have hq0 : (0 : Int) ≤ (q : Int) := by omega
          have hsp := bySt_get s q hlt
          have hnd : bySt s q < 48 ∨ 57 < bySt s q := by
            by_cases c : bySt s q < 48
            · exact .inl c
            · right
              by_cases c2 : 57 < bySt s q
              · exact c2
              · exact absurd ⟨hlt, by simp [isDg]; omega⟩ hdg
          rcases hnd with hnd | hnd
          · have q1 : decide ((48 : Int) ≤ ((s[q]'hlt).toNat : Int)) = false := by rw [hsp]; simp; omega
            clear K e2 hsp c0 c1 hnd hdg
            go_wp2_with fail
            refine wp_region_ext (by kernel_rfl) (by kernel_rfl) ?_
            repeat (go_big_quiet_step (first | (go_at_call 77; rename_i x; exact Ext.call (unhide HK x) (fun e w' h => h))))
            refine wpQuiet_nil ?_
            rintro _ ⟨x, rfl⟩
            have h2 := (unhide HS).below x.bel
            have k0 := h2.tr.c0
            have k1 := h2.tr.c1
            have n0 := h2.tn.c0
            have n1 := h2.tn.c1
            have n2 := h2.tn.c2
            have z0 := h2.tz.c0
            have z1 := h2.tz.c1
            have z2 := h2.tz.c2
            have y0 := h2.tz.f0
            have y1 := h2.tz.f1
            have y2 := h2.tz.f2
            have T3 := h2.tz.all (.int .i64 (v : Int)) (.int .i64 (p : Int)) (.bool false)
            have p0 := T3.c0
            have p1 := T3.c1
            have p2 := T3.c2
            have HF := hide (h2.fin hRl (.int .i64 (v : Int)) (.int .i64 (p : Int)) (.bool false))
            clear F0 F1 h2 HK T3
            go_wp2_with fail
            try go_region
            all_goals
              try go_wp2_with fail
              have hE := unhide HE2
              subst hE
              refine bodyPost_ret (by simp [results, Try.results75, go_sem, p0, p1, p2]; try rfl) rfl ?_
              exact ⟨rfl, (unhide HF).1.keep (Below.refl _ _).drew, (unhide HF).2.drew⟩
          · have q1 : (48 : Int) ≤ ((s[q]'hlt).toNat : Int) := by rw [hsp]; omega
            have q2 : ¬ ((s[q]'hlt).toNat : Int) ≤ 57 := by rw [hsp]; omega
            clear K e2 hsp c0 c1 hnd hdg
            go_wp2_with fail
            refine wp_region_ext (by kernel_rfl) (by kernel_rfl) ?_
            repeat (go_big_quiet_step (first | (go_at_call 77; rename_i x; exact Ext.call (unhide HK x) (fun e w' h => h))))
            refine wpQuiet_nil ?_
            rintro _ ⟨x, rfl⟩
            have h2 := (unhide HS).below x.bel
            have k0 := h2.tr.c0
            have k1 := h2.tr.c1
            have n0 := h2.tn.c0
            have n1 := h2.tn.c1
            have n2 := h2.tn.c2
            have z0 := h2.tz.c0
            have z1 := h2.tz.c1
            have z2 := h2.tz.c2
            have y0 := h2.tz.f0
            have y1 := h2.tz.f1
            have y2 := h2.tz.f2
            have T3 := h2.tz.all (.int .i64 (v : Int)) (.int .i64 (p : Int)) (.bool false)
            have p0 := T3.c0
            have p1 := T3.c1
            have p2 := T3.c2
            have HF := hide (h2.fin hRl (.int .i64 (v : Int)) (.int .i64 (p : Int)) (.bool false))
            clear F0 F1 h2 HK T3
            go_wp2_with fail
            try go_region
            all_goals
              try go_wp2_with fail
              have hE := unhide HE2
              subst hE
              refine bodyPost_ret (by simp [results, Try.results75, go_sem, p0, p1, p2]; try rfl) rfl ?_
              exact ⟨rfl, (unhide HF).1.keep (Below.refl _ _).drew, (unhide HF).2.drew⟩
        · have e2 : decide (q = s.size) = true := by simp; omega
          rw [e2] at K
          have HK := hide K
          clear K e2 c0 c1 hdg
          go_wp2_with fail
          refine wp_region_ext (by kernel_rfl) (by kernel_rfl) ?_
          repeat (go_big_quiet_step (first | (go_at_call 77; rename_i x; exact Ext.call (unhide HK x) (fun e w' h => h))))
          refine wpQuiet_nil ?_
          rintro _ ⟨x, rfl⟩
          have h2 := (unhide HS).below x.bel
          have k0 := h2.tr.c0
          have k1 := h2.tr.c1
          have n0 := h2.tn.c0
          have n1 := h2.tn.c1
          have n2 := h2.tn.c2
          have z0 := h2.tz.c0
          have z1 := h2.tz.c1
          have z2 := h2.tz.c2
          have y0 := h2.tz.f0
          have y1 := h2.tz.f1
          have y2 := h2.tz.f2
          have T3 := h2.tz.all (.int .i64 (v : Int)) (.int .i64 (p : Int)) (.bool false)
          have p0 := T3.c0
          have p1 := T3.c1
          have p2 := T3.c2
          have HF := hide (h2.fin hRl (.int .i64 (v : Int)) (.int .i64 (p : Int)) (.bool false))
          clear F0 F1 h2 HK T3
          go_wp2_with fail
          try go_region
          all_goals
            try go_wp2_with fail
            have hE := unhide HE2
            subst hE
            refine bodyPost_ret (by simp [results, Try.results75, go_sem, p0, p1, p2]; try rfl) rfl ?_
            exact ⟨rfl, (unhide HF).1.keep (Below.refl _ _).drew, (unhide HF).2.drew⟩
  · have hsp : skP s p 48 = p + 1 := by unfold skP; rw [hsk]; rfl
    rw [hsk, hsp] at K
    have HK := hide K
    have hE : nr = ((0, p + 1), true) := by rw [← unhide HNR]; unfold numR; rw [hsk]; rfl
    subst hE
    clear K hsk hsp HNR
    go_enter Try.func75, Try.ntmps75
    go_wp2_with fail
    clear c0 c1 d0 d1
    generalize (w.alloc (.cells #[.int .i64 0, .int .i64 0, .bool false] 77)).alloc (.cells #[.int .i64 0, .int .i64 (p : Int), .bool false] 77) = w2 at *
    refine (unhide HK).mono ?_
    rintro _ w3 ⟨rfl, ht3, hc3⟩
    have hI1 := (unhide HI0).skip hRl ht3 hc3
    have n0 := hI1.tn.c0
    have n1 := hI1.tn.c1
    have n2 := hI1.tn.c2
    have z0 := hI1.tz.c0
    have z1 := hI1.tz.c1
    have z2 := hI1.tz.c2
    have y0 := hI1.tz.f0
    have y1 := hI1.tz.f1
    have y2 := hI1.tz.f2
    have T3 := hI1.tz.all (.int .i64 0) (.int .i64 (p : Int)) (.bool false)
    have p0 := T3.c0
    have p1 := T3.c1
    have p2 := T3.c2
    have HE := hide (hI1.fin hRl (.int .i64 0) (.int .i64 (p : Int)) (.bool false))
    clear hI1 T3 ht3 hc3
    go_wp2_with fail
    refine bodyPost_ret (by simp [results, Try.results75, go_sem, p0, p1, p2]; try rfl) rfl ?_
    exact ⟨rfl, (unhide HE).1, (unhide HE).2⟩
end Go.Proofs.Ytbendkndnojihaa
