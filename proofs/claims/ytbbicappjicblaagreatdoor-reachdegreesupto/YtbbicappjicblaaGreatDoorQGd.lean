/- QBxz -/
import Derived.Test.YtbbicappjicblaaGreatDoorQBn2
import Derived.Test.YtbbicappjicblaaGreatDoorQBty
namespace Go.Proofs.YtbbicappjicblaaGreatDoor.Bs
open Go.RowKit Go.Deep
set_option linter.unusedVariables false
def ResZ (w w' : World) (r : Int × List Nat × Int) (e : Ending) : Prop :=
 ∃ a n c, e = .returned (.tuple #[setV r.1 a n c, .int .i64 r.2.2]) ∧ SlW w' a n c r.2.1 ∧ Below w.heap.size w w' ∧ ∀ x, a = some x → x.off = 0
theorem resZ_zero {w w' : World} {er : Int} (h : Below w.heap.size w w') : ResZ w w' (0, [], er) (.returned (.tuple #[.agg #[.int .i64 0, .slice none 0 0], .int .i64 er])) :=
 ⟨none, 0, 0, rfl, SlG.nil _, h, fun x hx => by cases hx⟩
theorem resZ_set {w w' : World} {s : Int} {sz b cb : Nat} {f : Nat → Nat} {P : Nat → Bool} (hf : FnW w' b 0 (nW sz) f) (hr : RepB (nW sz) f P) (hc : nW sz ≤ cb) (hm : cb ≤ maxLen) (h : Below w.heap.size w w') :
  ResZ w w' (s, wordsL sz P, 0) (.returned (.tuple #[.agg #[.int .i64 s, .slice (some ⟨b, 0, none⟩) (nW sz) cb], .int .i64 0])) := by
 have := hf.sl (d := 0) hc hm
 rw [show lstG f (nW sz) = wordsL sz P from wordsL_of hr] at this
 exact ⟨_, _, _, rfl, this, h, fun x hx => by cases hx; rfl⟩

set_option maxHeartbeats 8000000 in
theorem joined_new (size : Int) (a : Option Addr) (n c : Nat) (L : List SetC) (w : World) (h : SlS w a n c L) :
  Calls Tryz.prog 93 #[.int .i64 size, .slice a n c, .int .u64 0, .func (.func 94) #[] #[]] w fun r w' => ResZ w w' (joinedR op_or false size L) r := by
 have hle := h.le
 have hcap := h.cap
 unfold maxLen at hcap
 obtain ⟨wa, hwa⟩ : ∃ wa, w.alloc (.cells #[.int .i64 0, .slice none 0 0] 82) = wa := ⟨_, rfl⟩
 have tR : Two wa w.heap.size (.int .i64 0) (.slice none 0 0) := by rw [← hwa]; exact Two.made _ _ _ _
 have hB : Below w.heap.size w wa := by rw [← hwa]; exact (Below.refl _ _).alloc (Nat.le_refl _) _
 have K := alike_any size a n c L wa (h.below hB)
 have HR := hide (And.intro tR hB)
 have hlt1 := tR.lt
 by_cases hz : alikeE size L = 0
 ·obtain ⟨hfit, hall⟩ := alike_zero hz
  obtain ⟨sz, rfl, hsz⟩ := fitsI_nat hfit
  have hE : joinedR op_or false sz L = ((sz : Int), wordsL sz (PJ op_or false sz L), 0) := by simp [joinedR, hz]
  rw [hE]
  rw [hz] at K
  have HK := hide K
  have HAll := hide hall
  have HSl := hide h
  have HLn := hide h.len
  have hle64 : nW sz ≤ 64 := by unfold nW; omega
  clear K hz hall hfit hE tR hB h
  go_enter Tryz.func93, Tryz.ntmps93
  go_wp2_with fail
  refine (unhide HK).mono ?_
  rintro _ w1 ⟨rfl, hb1⟩
  have HR1 := hide (And.intro ((unhide HR).1.keep hb1) ((unhide HR).2.trans (hb1.mono (by omega))))
  clear hb1 HK HR
  go_wp2_with fail
  refine (blank_any sz w1 hsz).mono ?_
  rintro _ wb ⟨v, rfl, b, cb, rfl, hc1, hc2, hb1, hb2, hfn, hbel⟩
  unfold setV
  have hRl := (unhide HR1).1.lt
  have hw1 := (unhide HR1).2.size
  have hal : Below wb.heap.size wb (wb.alloc (.cells #[.int .i64 sz, .slice (some ⟨b, 0, none⟩) (nW sz) cb] 82)) := (Below.refl _ _).alloc (Nat.le_refl _) _
  have HT := hide (show RgLp w (wb.alloc (.cells #[.int .i64 sz, .slice (some ⟨b, 0, none⟩) (nW sz) cb] 82)) w.heap.size wb.heap.size b cb (nW sz) sz (fun x => decide (x < 64 * 0) && false) from
   ⟨((unhide HR1).1.keep hbel).keep hal, Two.made _ _ _ _, ⟨_, hfn.below hal, (RepB.zero (nW sz)).congr (fun _ _ => rfl) (fun x _ => by simp)⟩, ((unhide HR1).2.trans (hbel.mono hw1)).trans (hal.mono (by have := hbel.size; omega))⟩)
  have hcb : cb ≤ 9223372036854775807 := by unfold maxLen at hc2; omega
  have HC := hide (And.intro hc1 hc2)
  clear hal hfn hbel hc1 hc2 HR1
  go_wp2_with fail
  have hbZ : wb.heap.size ≠ b := by omega
  have hbR : w.heap.size ≠ b := by omega
  have hbw : w.heap.size ≤ b := by omega
  have hRZ : w.heap.size < wb.heap.size := by omega
  clear hb1 hb2 hRl hw1
  generalize wb.alloc (.cells #[.int .i64 sz, .slice (some ⟨b, 0, none⟩) (nW sz) cb] 82) = wc at *
  generalize wb.heap.size = Z at *
  obtain ⟨N, hN⟩ : ∃ N, nW sz = N := ⟨_, rfl⟩
  have HNN := hide hN
  rw [hN] at HT hle64 HC ⊢
  clear hN
  go_loopw [27, 12] (fun i _ wr => ∃ k : Nat, k ≤ N ∧ i = .int .i64 k ∧ RgLp w wr w.heap.size Z b cb N sz (fun x => decide (x < 64 * k) && false)) (fun i _ _ => N - (intOf i).toNat)
  case atStart => exact ⟨0, Nat.zero_le _, rfl, unhide HT⟩
  case round =>
   obtain ⟨k, hk, rfl, hst⟩ := hrel
   have t0 := hst.two.c0
   have t1 := hst.two.c1
   have HS := hide hst
   by_cases hlt : k < N
   ·have hlt' : (k : Int) < (N : Int) := by omega
    obtain ⟨f, hfn, hrep⟩ := hst.rep
    have g1 := (hfn k hlt).1
    have g2 := (hfn k hlt).2
    rw [Nat.zero_add] at g1 g2
    unfold vU at g1
    have HS2 := hide (show RgLp w (wr.setCell ⟨b, k, none⟩ (.int .u64 0)) w.heap.size Z b cb N sz (fun x => decide (x < 64 * (k + 1)) && false) by
     have hs := hfn.set k 0 hlt
     rw [Nat.zero_add] at hs
     exact hst.chg hbR hbZ hbw (fill_step (v := 0) rfl hrep) hs (Chg.of_set (S := fun j => j = b) _ _ _ _ rfl))
    generalize f k = old at g1
    clear hst hfn hrep
    go_wp2_with fail
    exact ⟨⟨k + 1, by omega, by go_num, unhide HS2⟩, by simp [intOf]; omega⟩
   ·have hlt' : ¬ (k : Int) < (N : Int) := by omega
    have hkn : k = N := by omega
    subst hkn
    obtain ⟨f, hfn, hrep⟩ := hst.rep
    have K := trim_any sz b k cb f wr hsz hfn (fun i hi => (hrep i hi).1) hle64
    unfold setV at K
    have HK := hide K
    have HRp := hide hrep
    clear K hst hfn hrep
    go_wp2_with fail
    refine (unhide HK).mono ?_
    rintro _ w3 ⟨rfl, hf3, hc3⟩
    have HS3 := hide (show RgLp w w3 w.heap.size Z b cb k sz (PJ op_or false sz (L.take 0)) by
     have e := unhide HNN
     subst e
     refine ((unhide HS).chg hbR hbZ hbw (unhide HRp).trim hf3 hc3).congr (fun x hx => ?_)
     show ((decide (x < 64 * nW sz) && false) && decide (x < sz)) = (false && decide (x < sz))
     rw [show decide (x < 64 * nW sz) = true from by simpa using hx, Bool.true_and])
    clear hf3 hc3 HK HS HRp t0 t1
    go_wp2_with fail
    go_loopw [40, 14] (fun i _ wr => ∃ j : Nat, j ≤ n ∧ i = .int .i64 j ∧ RgLp w wr w.heap.size Z b cb k sz (PJ op_or false sz (L.take j))) (fun i _ _ => n - (intOf i).toNat)
    case atStart => exact ⟨0, Nat.zero_le _, rfl, unhide HS3⟩
    case round =>
     obtain ⟨j, hj, rfl, hst⟩ := hrel
     have HS := hide hst
     by_cases hlt : j < n
     ·have hlt' : (j : Int) < (n : Int) := by omega
      have hjl : j < L.length := by rw [unhide HLn]; exact hlt
      have hS := (unhide HSl).below hst.bel
      obtain ⟨bl, off, rfl, hcells⟩ := hS.at (by omega)
      have g1 := (hcells j hlt).1
      have g2 := (hcells j hlt).2
      have hin0 := (unhide HSl).get j hlt
      have hin := hS.get j hlt
      have HStep := hide (fun x => PJ_step (op := op_or) (init := false) (sz := sz) hjl x)
      have hmay := unhide HAll (L.getD j .nul) (by
       have : L.getD j .nul = L[j] := by simp [List.getD, hjl]
       rw [this]; exact List.getElem_mem hjl)
      obtain ⟨e, he⟩ : ∃ e, L.getD j .nul = e := ⟨_, rfl⟩
      rw [he] at g1 g2 hin hin0 HStep hmay
      obtain ⟨es, ea, en, ec, exs⟩ := e
      obtain ⟨hmy, hes⟩ := hmay
      simp only at g1 g2 hes hmy
      subst hes
      have hlen : exs.length = k := by rw [MayS.len hmy]; simp [unhide HNN]
      have hen : en = k := hin.1.len.symm.trans hlen
      subst hen
      have hal : Below wr.heap.size wr (wr.alloc (.cells #[.int .i64 sz, .slice ea en ec] 82)) := (Below.refl _ _).alloc (Nat.le_refl _) _
      have hst2 := hst.keep hal
      have tS : Two (wr.alloc (.cells #[.int .i64 sz, .slice ea en ec] 82)) wr.heap.size (.int .i64 sz) (.slice ea en ec) := Two.made _ _ _ _
      obtain ⟨f, hfn, hrep⟩ := hst2.rep
      have K := join_or sz sz b en cb f ea en ec exs (wr.alloc (.cells #[.int .i64 sz, .slice ea en ec] 82)) hfn (fun i hi => (hrep i hi).1) ((hin.1.below hal)) hin.2 (Nat.le_refl _) hle64 ?hne (unhide HC).2 (unhide HC).1
      case hne =>
       intro h0 x hx
       obtain ⟨b9, o9, e9, k9⟩ := SlG.at hin0.1 h0
       have e9' : ea = some ⟨b9, o9, none⟩ := e9
       rw [e9'] at hx
       cases hx
       have := World.block_lt_of_cell? _ _ (k9 0 h0)
       show b9 ≠ b
       have h9 : b9 < w.heap.size := this
       omega
      have HRp := hide (And.intro hst2 hrep)
      have HO := hide (And.intro hlen hin.2)
      unfold setV at K
      have HK := hide K
      have z0 := hst2.two.c0
      have z1 := hst2.two.c1
      clear K hst hst2 hcells hin hin0 he hal tS hfn hrep hS hmy
      go_wp2_with fail
      refine (unhide HK).mono ?_
      rintro _ w5 ⟨rfl, hf5, hc5⟩
      have HS5 := hide (show RgLp w w5 w.heap.size Z b cb en sz (PJ op_or false sz (L.take (j + 1))) from
       ((unhide HRp).1.chg hbR hbZ hbw (jn_rep (op := op_or) (fun x y hx hy => jOr_bits x y hx hy) (unhide HRp).2 (unhide HO).1 (unhide HO).2) hf5 hc5).congr (fun x _ => (unhide HStep x).symm))
      clear hf5 hc5 HK HRp z0 z1
      go_wp2_with fail
      exact ⟨⟨j + 1, by omega, by go_num, unhide HS5⟩, by simp [intOf]; omega⟩
     ·have hlt' : ¬ (j : Int) < (n : Int) := by omega
      have hjn : j = n := by omega
      subst hjn
      have z0 := hst.two.c0
      have z1 := hst.two.c1
      have r0 := hst.res.c0
      have r1 := hst.res.c1
      have f0 := hst.res.f0
      have f1 := hst.res.f1
      have T3 := hst.res.set (.int .i64 sz) (.slice (some ⟨b, 0, none⟩) k cb)
      have p0 := T3.c0
      have p1 := T3.c1
      clear hst T3
      go_wp2_with fail
      refine bodyPost_ret (by simp [results, Tryz.results93, go_sem, p0, p1]; try rfl) rfl ?_
      have hall : L.take j = L := by rw [List.take_of_length_le]; rw [unhide HLn]; exact Nat.le_refl _
      obtain ⟨f, hfn, hrep⟩ := (unhide HS).rep
      rw [hall] at hrep
      have e := unhide HNN
      subst e
      exact resZ_set (hfn.two _ _ _ hbR) hrep (unhide HC).1 (unhide HC).2 (two_below (unhide HS).bel _ (Nat.le_refl _) _ _)
 ·have hE : joinedR op_or false size L = (0, [], alikeE size L) := by simp [joinedR, hz]
  rw [hE]
  have hne : (alikeE size L == 0) = false := by simpa using hz
  generalize alikeE size L = er at *
  have HK := hide K
  clear K hz hE tR hB h
  go_enter Tryz.func93, Tryz.ntmps93
  go_wp2_with fail
  refine (unhide HK).mono ?_
  rintro _ w1 ⟨rfl, hb1⟩
  have tR := (unhide HR).1.keep hb1
  have r0 := tR.c0
  have r1 := tR.c1
  have f0 := tR.f0
  have f1 := tR.f1
  have T3 := tR.set (.int .i64 0) (.slice none 0 0)
  have p0 := T3.c0
  have p1 := T3.c1
  have HB := hide (two_below ((unhide HR).2.trans (hb1.mono (by omega))) w.heap.size (by omega) (.int .i64 0) (.slice none 0 0))
  clear tR T3 hb1 HK HR
  go_wp2_with fail
  refine bodyPost_ret (by simp [results, Tryz.results93, go_sem, p0, p1]; try rfl) rfl ?_
  exact resZ_zero (unhide HB)

set_option maxHeartbeats 2000000 in
theorem union_new (size : Int) (a : Option Addr) (n c : Nat) (L : List SetC) (w : World) (h : SlS w a n c L) :
  Calls Tryz.prog 72 #[.int .i64 size, .slice a n c] w fun r w' => ResZ w w' (manyR size L false) r := by
 obtain ⟨wa, hwa⟩ : ∃ wa, w.alloc (.cells #[.int .i64 0, .slice none 0 0] 82) = wa := ⟨_, rfl⟩
 have tR : Two wa w.heap.size (.int .i64 0) (.slice none 0 0) := by rw [← hwa]; exact Two.made _ _ _ _
 have hB : Below w.heap.size w wa := by rw [← hwa]; exact (Below.refl _ _).alloc (Nat.le_refl _) _
 have K := joined_new size a n c L wa (h.below hB)
 rw [joined_or_many] at K
 generalize manyR size L false = rr at *
 obtain ⟨rs, rx, re⟩ := rr
 have HK := hide K
 have HR := hide (And.intro tR hB)
 have hlt := tR.lt
 clear K tR hB h
 go_enter Tryz.func72, Tryz.ntmps72
 go_wp2_with fail
 refine (unhide HK).mono ?_
 rintro _ w1 ⟨a1, n1, c1, rfl, hs, hb, ho⟩
 have tR := (unhide HR).1.keep hb
 have r0 := tR.c0
 have r1 := tR.c1
 have f0 := tR.f0
 have f1 := tR.f1
 have T3 := tR.set (.int .i64 rs) (.slice a1 n1 c1)
 have p0 := T3.c0
 have p1 := T3.c1
 have HE := hide (And.intro (SlW.two hs tR (.int .i64 rs) (.slice a1 n1 c1)) (two_below ((unhide HR).2.trans (hb.mono (by omega))) w.heap.size (Nat.le_refl _) (.int .i64 rs) (.slice a1 n1 c1)))
 have HO := hide ho
 clear tR T3 hs hb HK ho
 unfold setV
 go_wp2_with fail
 refine bodyPost_ret (by simp [results, Tryz.results72, go_sem, p0, p1]; try rfl) rfl ?_
 exact ⟨a1, n1, c1, rfl, (unhide HE).1, (unhide HE).2, unhide HO⟩
def SetC.Z (e : SetC) (w : World) : Prop := e.In w ∧ ∀ x, e.a = some x → x.off = 0
theorem SetC.Z.below {e : SetC} {w w' : World} (h : e.Z w) (k : Below w.heap.size w w') : e.Z w' := ⟨h.1.below k, h.2⟩
structure GrT (w wr : World) (v : Value) (T : List SetC) : Prop where
 nil : T.length = 0 → v = .slice none 0 0
 own : wr.ownsRow w.heap.size 82 2 v T.length (flatS T)
 ins : ∀ e ∈ T, e.Z wr
 bel : Below w.heap.size w wr
theorem GrT.start (w : World) : GrT w w (.slice none 0 0) [] := ⟨fun _ => rfl, World.ownsRow_nil _ _ _ _, (fun e he => by cases he), Below.refl _ _⟩
theorem GrT.below {w wr w1 : World} {v : Value} {T : List SetC} (h : GrT w wr v T) (hb : Below wr.heap.size wr w1) : GrT w w1 v T := by
 refine ⟨h.nil, ?_, fun e he => (h.ins e he).below hb, h.bel.trans (hb.mono h.bel.size)⟩
 rcases h.own with ⟨h1, h2 | ⟨g, cap, cur, e, q1, q2, q3⟩⟩
 ·exact ⟨h1, .inl h2⟩
 ·refine ⟨h1, .inr ⟨g, cap, cur, e, q1, ?_, q3⟩⟩
  rw [hb.block g]
  ·exact q2
  ·rcases Nat.lt_or_ge g wr.heap.size with hlt | hge
   ·exact hlt
   ·rw [Array.getElem?_eq_none hge] at q2; cases q2
theorem GrT.apart {w wr : World} {v : Value} {T : List SetC} (h : GrT w wr v T) {t : SetC} (ht : t.Z wr) (h0 : 0 < t.n) (x : Addr) (hx : t.a = some x) : v.ownBlock ≠ some x.block := by
 intro hv
 rcases h.own.2 with ⟨e, hk⟩ | ⟨g, cap, cur, e, hb, hblk, h1, h2, h3, h4⟩
 ·rw [e] at hv; cases hv
 ·rw [e] at hv
  simp [Value.ownBlock] at hv
  subst hv
  obtain ⟨b', o', e', hc⟩ := ht.1.1.at h0
  rw [e'] at hx
  have hoff := ht.2 _ e'
  cases hx
  have ho : o' = 0 := hoff
  subst ho
  have c0 := hc 0 h0
  rw [Nat.zero_add, cell_of_block hblk] at c0
  by_cases hk : T.length = 0
  ·have := h.nil hk
   rw [e] at this
   cases this
  ·have f := (flatS_get T 0 (by omega)).1
   rw [← h4] at f
   have f2 : cur[0]? = some (.int .i64 (T.getD 0 .nul).s) := by
    simpa [List.getElem?_take, show 0 < T.length * 2 from by omega] using f
   rw [f2] at c0
   cases c0
theorem GrT.step {w wr w1 w2 : World} {v v2 : Value} {T : List SetC} {t : SetC} (h : GrT w wr v T) (hb : Below wr.heap.size wr w1) (ht : t.Z w1) (hnz : v2 ≠ .slice none 0 0)
  (hg : (w1.alloc (.cells #[.int .i64 t.s, .slice t.a t.n t.c] 82)).grownBy w2 v.ownBlock) (hown : w2.ownsRow w.heap.size 82 2 v2 (T.length + 1) (flatS T ++ [.int .i64 t.s, .slice t.a t.n t.c])) : GrT w w2 v2 (T ++ [t]) := by
 have hal : Below w1.heap.size w1 (w1.alloc (.cells #[.int .i64 t.s, .slice t.a t.n t.c] 82)) := (Below.refl _ _).alloc (Nat.le_refl _) _
 have hlp := (h.below hb).below hal
 have hc := chg_grown hg
 have keep : ∀ u : SetC, u.Z (w1.alloc (.cells #[.int .i64 t.s, .slice t.a t.n t.c] 82)) → u.Z w2 := fun u hu =>
  ⟨⟨by
   by_cases h0 : 0 < u.n
   ·exact hu.1.1.chg hc (fun x hx _ => hlp.apart hu h0 x hx)
   ·have hs := hu.1.1
    have e0 : u.xs = [] := List.length_eq_zero_iff.1 (by rw [hs.len]; omega)
    exact ⟨hs.len, hs.le, hs.cap, .inl e0⟩, hu.1.2⟩, hu.2⟩
 refine ⟨fun hk => by simp at hk, by rw [flatS_append, List.length_append]; exact hown, fun e he => ?_, Below.grown hlp.bel hg hlp.bel.size (fun j hj => (own_ge h.own j hj).1)⟩
 rcases List.mem_append.1 he with c | c
 ·exact keep e (hlp.ins e c)
 ·rw [List.mem_singleton.1 c]; exact keep t (ht.below hal)
theorem GrT.sl {w wr : World} {v : Value} {T : List SetC} (h : GrT w wr v T) (hl : T.length ≤ maxLen) : ∃ a c, v = .slice a T.length c ∧ SlS wr a T.length c T := by
 rcases h.own.2 with ⟨e, hk⟩ | ⟨g, cap, cur, e, q1, q2, q3, q4, q5, q6⟩
 ·have ht : T = [] := by first | exact List.length_eq_zero_iff.1 hk | simpa using hk
  subst ht
  exact ⟨none, 0, e, ⟨rfl, Nat.le_refl _, Nat.zero_le _, .inl rfl, fun e he => by cases he⟩⟩
 ·refine ⟨some ⟨g, 0, none⟩, cap, e, ⟨rfl, q3, q4, ?_, fun e he => (h.ins e he).1⟩⟩
  by_cases h0 : T = []
  ·exact .inl h0
  ·refine .inr ⟨g, 0, rfl, fun i hi => ?_⟩
   have hcell : ∀ j, j < T.length * 2 → wr.cell? ⟨g, j, none⟩ = (flatS T)[j]? := by
    intro j hj
    rw [cell_of_block q2, ← q6]
    simp [hj]
   have f := flatS_get T i hi
   rw [Nat.zero_add, hcell _ (by omega), hcell _ (by omega)]
   exact f
set_option maxHeartbeats 2000000 in
theorem make_new (size : Int) (a : Option Addr) (n c : Nat) (l : List Int) (w : World) (h : SlI w a n c l) :
  Calls Tryz.prog 71 #[.int .i64 size, .slice a n c] w fun e w' => ResZ w w' (mkR size l) e := by
 cases hf : fitsI size
 ·have e0 : mkR size l = (0, [], 60) := by simp [mkR, hf]
  rw [e0]
  have K := fits_any size
  rw [hf] at K
  have HK := hide K
  clear K hf
  go_enter Tryz.func71, Tryz.ntmps71
  go_wp2_with fail
  refine (unhide HK _).mono ?_
  rintro _ w1 ⟨rfl, rfl⟩
  go_wp2_with fail
  refine bodyPost_ret (by simp [results, Tryz.results71, go_sem]; try rfl) rfl ?_
  exact ⟨none, 0, 0, rfl, SlG.nil _, (Below.refl _ _).alloc (Nat.le_refl _) _, fun x hx => by cases hx⟩
 ·have K := fits_any size
  rw [hf] at K
  obtain ⟨sz, rfl, hsz⟩ := fitsI_nat hf
  have HK := hide K
  have HF := hide hf
  have hn := h.cap
  have hle := h.le
  unfold maxLen at hn
  have hle64 : nW sz ≤ 64 := by unfold nW; omega
  have HN := hide (show ∀ e, e < sz → e / 64 < nW sz from fun e he => by unfold nW; omega)
  have HSl := hide h
  have HLn := hide h.len
  clear K hf h
  go_enter Tryz.func71, Tryz.ntmps71
  go_wp2_with fail
  refine (unhide HK _).mono ?_
  rintro _ w1 ⟨rfl, rfl⟩
  clear HK
  go_wp2_with fail
  obtain ⟨wa, hwa⟩ : ∃ wa, w.alloc (.cells #[.int .i64 0, .slice none 0 0] 82) = wa := ⟨_, rfl⟩
  rw [hwa]
  have HR := hide (show Two wa w.heap.size (.int .i64 0) (.slice none 0 0) by rw [← hwa]; exact Two.made _ _ _ _)
  have HB := hide (show Below w.heap.size w wa by rw [← hwa]; exact (Below.refl _ _).alloc (Nat.le_refl _) _)
  clear hwa
  refine (blank_any sz wa hsz).mono ?_
  rintro _ wb ⟨v, rfl, b, cb, rfl, hc1, hc2, hb1, hb2, hfn, hbel⟩
  unfold setV
  have HW := hide (And.intro hc1 (And.intro hc2 (And.intro hb1 (And.intro hb2 (And.intro hfn hbel)))))
  have hcb : cb ≤ 9223372036854775807 := by unfold maxLen at hc2; omega
  clear hc1 hc2 hb1 hb2 hfn hbel
  go_wp2_with fail
  have hzR := (unhide HR).lt
  have hbR : w.heap.size ≠ b := by have := (unhide HW).2.2.1; omega
  have HT := hide (show MkLp w (wb.alloc (.cells #[.int .i64 sz, .slice (some ⟨b, 0, none⟩) (nW sz) cb] 82)) w.heap.size wb.heap.size b cb (nW sz) sz l 0 by
   obtain ⟨hc1, hc2, hb1, hb2, hfn, hbel⟩ := unhide HW
   have hal : Below wb.heap.size wb (wb.alloc (.cells #[.int .i64 sz, .slice (some ⟨b, 0, none⟩) (nW sz) cb] 82)) := (Below.refl _ _).alloc (Nat.le_refl _) _
   refine ⟨((unhide HR).keep hbel).keep hal, Two.made _ _ _ _, rfl, ⟨_, hfn.below hal, by simpa using RepB.zero (nW sz)⟩, ?_⟩
   exact ((unhide HB).trans (hbel.mono (unhide HB).size)).trans (hal.mono (by have := (unhide HB).size; have := hbel.size; omega)))
  have hbb : b < wb.heap.size := (unhide HW).2.2.2.1
  have hbw : w.heap.size ≤ b := by have := (unhide HW).2.2.1; omega
  generalize hZ : wb.heap.size = Z at *
  generalize wb.alloc (.cells #[.int .i64 sz, .slice (some ⟨b, 0, none⟩) (nW sz) cb] 82) = wc at *
  obtain ⟨N, hN⟩ : ∃ N, nW sz = N := ⟨_, rfl⟩
  rw [hN] at HN hle64 HT ⊢
  have HCB := hide (show nW sz = N ∧ nW sz ≤ cb ∧ cb ≤ maxLen from ⟨hN, (unhide HW).1, (unhide HW).2.1⟩)
  clear HW HR HB hZ hN
  go_loopw [17, 8] (fun i _ wr => ∃ k : Nat, k ≤ n ∧ i = .int .i64 k ∧ MkLp w wr w.heap.size Z b cb N sz l k) (fun i _ _ => n - (intOf i).toNat)
  case atStart => exact ⟨0, Nat.zero_le _, rfl, unhide HT⟩
  case round =>
   obtain ⟨k, hk, rfl, hst⟩ := hrel
   have t0 := hst.two.c0
   have t1 := hst.two.c1
   have r0 := hst.res.c0
   have r1 := hst.res.c1
   have q0 := hst.res.f0
   have q1 := hst.res.f1
   have HS := hide hst
   by_cases hlt : k < n
   ·have hlt' : (k : Int) < (n : Int) := by omega
    obtain ⟨ba, off, rfl, hcells⟩ := ((unhide HSl).below hst.bel).at (by omega)
    have hcell := hcells k hlt
    have hkl : k < l.length := by rw [unhide HLn]; exact hlt
    have HL := hide hkl
    obtain ⟨e, hge⟩ : ∃ e, l.getD k 0 = e := ⟨_, rfl⟩
    have HG := hide hge
    rw [hge] at hcell
    unfold vI at hcell
    clear hcells hkl hst hge
    by_cases h0 : e < 0
    ·have HE := hide (show mkR sz l = (0, [], 62) by
      have : l.any (badE sz) = true := any_bad (unhide HL) (by rw [unhide HG]; simp [badE, h0])
      simp [mkR, unhide HF, this])
     have HT3 := hide (two_below (unhide HS).bel w.heap.size (Nat.le_refl _) (.int .i64 0) (.slice none 0 0))
     have T3 := (unhide HS).res.set (.int .i64 0) (.slice none 0 0)
     have p0 := T3.c0
     have p1 := T3.c1
     clear T3
     go_wp2_with fail
     refine bodyPost_ret (by simp [results, Tryz.results71, go_sem, p0, p1]; try rfl) rfl ?_
     rw [unhide HE]
     exact resZ_zero (unhide HT3)
    ·by_cases h1 : (sz : Int) ≤ e
     ·have HE := hide (show mkR sz l = (0, [], 62) by
       have : l.any (badE sz) = true := any_bad (unhide HL) (by rw [unhide HG]; simp [badE, h1])
       simp [mkR, unhide HF, this])
      have HT3 := hide (two_below (unhide HS).bel w.heap.size (Nat.le_refl _) (.int .i64 0) (.slice none 0 0))
      have T3 := (unhide HS).res.set (.int .i64 0) (.slice none 0 0)
      have p0 := T3.c0
      have p1 := T3.c1
      clear T3
      go_wp2_with fail
      refine bodyPost_ret (by simp [results, Tryz.results71, go_sem, p0, p1]; try rfl) rfl ?_
      rw [unhide HE]
      exact resZ_zero (unhide HT3)
     ·obtain ⟨e, rfl⟩ := Int.eq_ofNat_of_zero_le (by omega : 0 ≤ e)
      obtain ⟨f, hfn, hrep⟩ := (unhide HS).rep
      have hes : e < sz := by omega
      have heN := unhide HN e hes
      have HP := hide (put_any sz b N cb f e wr hfn (fun i hi => (hrep i hi).1) heN hle64)
      unfold setV at HP
      have h0' : ¬ ((e : Int) < 0) := by omega
      have HE := hide (And.intro hes (And.intro heN hrep))
      clear hfn hrep
      go_wp2_with fail
      refine (unhide HP).mono ?_
      rintro _ w2 ⟨rfl, hf2, hc2⟩
      have HS2 := hide ((unhide HS).step (unhide HL) (unhide HG) (unhide HE).1 (unhide HE).2.1 hbR (by omega) hbw (unhide HE).2.2 hf2 hc2)
      clear hf2 hc2 HP HE HS t0 t1 r0 r1 q0 q1 hcell
      go_wp2_with fail
      exact ⟨⟨k + 1, by omega, by go_num, unhide HS2⟩, by simp [intOf]; omega⟩
   ·have hlt' : ¬ (k : Int) < (n : Int) := by omega
    have hkn : k = n := by omega
    subst hkn
    have HT3 := hide (two_below (unhide HS).bel w.heap.size (Nat.le_refl _) (.int .i64 sz) (.slice (some ⟨b, 0, none⟩) N cb))
    have T3 := (unhide HS).res.set (.int .i64 sz) (.slice (some ⟨b, 0, none⟩) N cb)
    have p0 := T3.c0
    have p1 := T3.c1
    clear T3 hst
    go_wp2_with fail
    refine bodyPost_ret (by simp [results, Tryz.results71, go_sem, p0, p1]; try rfl) rfl ?_
    obtain ⟨f, hfn, hrep⟩ := (unhide HS).rep
    have hall : l.take k = l := by rw [List.take_of_length_le]; rw [unhide HLn]; exact Nat.le_refl _
    have hok := (unhide HS).ok
    rw [hall] at hok hrep
    have hE : mkR sz l = ((sz : Int), wordsL sz (fun x => l.any (fun e => e == (x : Int))), 0) := by simp [mkR, unhide HF, hok]
    rw [hE]
    obtain ⟨hcN, hcb1, hcb2⟩ := unhide HCB
    subst hcN
    exact resZ_set (hfn.two _ _ _ hbR) hrep hcb1 hcb2 (unhide HT3)
end Go.Proofs.YtbbicappjicblaaGreatDoor.Bs
namespace Go.Proofs.YtbbicappjicblaaGreatDoor.Bs
set_option linter.unusedVariables false
structure Good (sz : Nat) (X : List Nat) (P : Nat → Bool) : Prop where
 eq : X = wordsL sz P
 zero : ∀ x, sz ≤ x → P x = false
 le : sz ≤ 4096
theorem Good.ok {sz : Nat} {X : List Nat} {P : Nat → Bool} (h : Good sz X P) : OkW X := by
 intro x hx
 rw [h.eq] at hx
 obtain ⟨i, hi, rfl⟩ := List.mem_map.1 hx
 exact (wd_rep (nW sz) P i (List.mem_range.1 hi)).1
theorem Good.len {sz : Nat} {X : List Nat} {P : Nat → Bool} (h : Good sz X P) : X.length = nW sz := by rw [h.eq, wordsL_len]
theorem Good.has {sz : Nat} {X : List Nat} {P : Nat → Bool} (h : Good sz X P) (x : Nat) (hx : x < 64 * nW sz) : hasB (gW X) x = P x := by
 have hr := (wd_rep (nW sz) P).has x hx
 rw [← hr]
 unfold hasB gW
 rw [h.eq, wordsL_getD sz P (x / 64) (by omega)]
theorem Good.may {sz : Nat} {X : List Nat} {P : Nat → Bool} (h : Good sz X P) : MayS sz X = true := by
 refine MayS.mk (by simp [fitsI]; have := h.le; omega) (by simpa using h.len) (fun x h1 h2 => ?_)
 have := h.has x (by rw [← h.len]; exact h2)
 exact this.trans (h.zero x (by simpa using h1))
theorem count_good {sz : Nat} {X1 : List Nat} {P1 : Nat → Bool} (g1 : Good sz X1 P1) : countR sz X1 = cntB P1 sz := by
 rw [countR, if_pos g1.may]
 have hn : sz ≤ 64 * nW sz := by unfold nW; omega
 show cntB _ sz = _
 exact cntB_congr (fun x hx => g1.has x (by omega))
theorem cnt_pos (P : Nat → Bool) : ∀ n, decide (0 < cntB P n) = (List.range n).any P
 | 0 => rfl
 | n + 1 => by
  have ih := cnt_pos P n
  rw [List.range_succ, List.any_append, ← ih]
  simp only [cntB]
  rcases Bool.eq_false_or_eq_true (P n) with hp | hp <;> simp [hp]
theorem make_one {I : Nat} (hI : I ≤ 4096) {a : Nat} (ha : a < I) : mkR (I : Int) [(a : Int)] = ((I : Int), wordsL I (fun x => decide (a = x)), 0) := by
 have hf : fitsI (I : Int) = true := by simp [fitsI]; omega
 have hb : [(a : Int)].any (badE (I : Int)) = false := by simp [badE]; omega
 unfold mkR
 rw [if_pos hf, hb]
 simp only [Bool.false_eq_true, if_false, Int.toNat_natCast]
 congr 2
 refine wordsL_congr (fun x _ => ?_)
 simp only [List.any_cons, List.any_nil, Bool.or_false]
 by_cases e : a = x
 ·simp [e]
 ·have : ¬ ((a : Int) = (x : Int)) := by omega
  simp [e, this]
theorem union_ix {I : Nat} (hI : I ≤ 4096) {α : Type} (l : List α) (g : α → SetC) (Q : α → Nat → Bool) (hg : ∀ y ∈ l, (g y).s = (I : Int) ∧ Good I (g y).xs (Q y)) : manyR (I : Int) (l.map g) false = ((I : Int), wordsL I (fun x => l.any (fun y => Q y x)), 0) := by
 have hf : fitsI (I : Int) = true := by simp [fitsI]; omega
 have ha : alikeE (I : Int) (l.map g) = 0 := by
  unfold alikeE
  rw [if_neg, if_neg]
  ·rw [hf]
   simp only [Bool.not_true, Bool.false_or, Bool.not_eq_true, List.any_eq_false]
   intro e he
   obtain ⟨y, hy, rfl⟩ := List.mem_map.1 he
   simp [offS, (hg y hy).1]
  ·simp only [Bool.not_eq_true, List.any_eq_false]
   intro e he
   obtain ⟨y, hy, rfl⟩ := List.mem_map.1 he
   have := (hg y hy).2.may
   simp [notMay, (hg y hy).1, this]
 unfold manyR
 rw [if_pos ha]
 simp only [Int.toNat_natCast]
 congr 2
 refine wordsL_congr (fun x hx => ?_)
 unfold manyB
 simp only [Bool.false_eq_true, if_false]
 by_cases c : x < I
 ·simp only [c, decide_true, Bool.true_and]
  have key : ∀ y ∈ l, hasS x (g y) = Q y x := fun y hy => (hg y hy).2.has x hx
  rw [Bool.eq_iff_iff, List.any_eq_true, List.any_eq_true]
  exact ⟨fun ⟨e, he, h⟩ => by
   obtain ⟨y, hy, rfl⟩ := List.mem_map.1 he
   exact ⟨y, hy, by rw [← key y hy]; exact h⟩, fun ⟨y, hy, h⟩ => ⟨g y, List.mem_map.2 ⟨y, hy, rfl⟩, by rw [key y hy]; exact h⟩⟩
 ·simp only [c, decide_false, Bool.false_and]
  symm
  rw [List.any_eq_false]
  intro e he
  rw [(hg e he).2.zero x (by omega)]
  decide
end Go.Proofs.YtbbicappjicblaaGreatDoor.Bs
