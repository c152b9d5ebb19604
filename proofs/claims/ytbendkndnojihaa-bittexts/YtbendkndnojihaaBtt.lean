/-
  sloperef3.Many: its contract.
-/
import Derived.Test.YtbendkndnojihaaBts
import Derived.Test.YtbendkndnojihaaBto
namespace Go.Proofs.Ytbendkndnojihaa
open Go.RowKit Go.Deep
set_option linter.unusedVariables false

def hasS (x : Nat) (e : SetC) : Bool := hasB (fun i => e.xs.getD i 0) x
def manyB (all : Bool) (L : List SetC) (x : Nat) : Bool := if all then L.all (hasS x) else L.any (hasS x)
def manyR (size : Int) (L : List SetC) (all : Bool) : Int × List Nat × Int :=
  if alikeE size L = 0 then (size, wordsL size.toNat (fun x => decide (x < size.toNat) && manyB all L x), 0) else (0, [], alikeE size L)
def cntS (x : Nat) (L : List SetC) : Nat := L.countP (hasS x)
theorem cnt_step {l : List SetC} {k : Nat} (hk : k < l.length) (x : Nat) : cntS x (l.take (k + 1)) = cntS x (l.take k) + (if hasS x (l.getD k .nul) then 1 else 0) := by
  unfold cntS
  rw [List.take_add_one, List.getElem?_eq_getElem hk, List.countP_append]
  simp [List.getD, hk, List.countP_cons]
theorem cnt_le (x : Nat) (L : List SetC) : cntS x L ≤ L.length := List.countP_le_length
theorem cnt_any (x : Nat) (L : List SetC) : decide (0 < cntS x L) = L.any (hasS x) := by
  unfold cntS
  rw [Bool.eq_iff_iff]
  simp [List.countP_pos_iff]
theorem cnt_all (x : Nat) (L : List SetC) : decide (cntS x L = L.length) = L.all (hasS x) := by
  unfold cntS
  rw [Bool.eq_iff_iff]
  simp [List.countP_eq_length]

set_option maxHeartbeats 4000000 in
/-- sloperef3.Many. -/
theorem many_any (size : Int) (a : Option Addr) (n c : Nat) (L : List SetC) (all : Bool) (w : World) (h : SlS w a n c L) :
    Calls Try.prog 36 #[.int .i64 size, .slice a n c, .bool all] w fun r w' => ResS w w' (manyR size L all) r := by
  have hle := h.le
  have hcap := h.cap
  unfold maxLen at hcap
  obtain ⟨wa, hwa⟩ : ∃ wa, w.alloc (.cells #[.int .i64 0, .slice none 0 0] 24) = wa := ⟨_, rfl⟩
  have tR : Two wa w.heap.size (.int .i64 0) (.slice none 0 0) := by rw [← hwa]; exact Two.made _ _ _ _
  have hB : Below w.heap.size w wa := by rw [← hwa]; exact (Below.refl _ _).alloc (Nat.le_refl _) _
  have K := fit_any size a n c L wa (h.below hB)
  have HR := hide (And.intro tR hB)
  have hlt1 := tR.lt
  by_cases hz : alikeE size L = 0
  · obtain ⟨hfit, hall⟩ := alike_zero hz
    obtain ⟨sz, rfl, hsz⟩ := fitsI_nat hfit
    have hE : manyR sz L all = ((sz : Int), wordsL sz (fun x => decide (x < sz) && manyB all L x), 0) := by simp [manyR, hz]
    rw [hE]
    rw [hz] at K
    have HK := hide K
    have HAll := hide hall
    have HSl := hide h
    have HLn := hide h.len
    have hm := make_bools sz (by omega)
    clear K hz hall hfit hE tR hB h
    go_enter Try.func36, Try.ntmps36
    go_wp2_with fail
    refine (unhide HK).mono ?_
    rintro _ w1 ⟨rfl, hb1⟩
    have HR1 := hide (And.intro ((unhide HR).1.keep hb1) ((unhide HR).2.trans (hb1.mono (by omega))))
    clear hb1 HK HR hwa
    go_wp2_with fail
    have hzR := (unhide HR1).1.lt
    have HT := hide (InLp.made (unhide HR1).1 (unhide HR1).2 sz)
    have hbR : w.heap.size ≠ w1.heap.size := by omega
    have hbw : w.heap.size ≤ w1.heap.size := by omega
    clear HR1
    have hbs : w1.heap.size < (w1.alloc (.cells (madeCells #[.bool false] sz) 4)).heap.size := by simp
    generalize w1.alloc (.cells (madeCells #[.bool false] sz) 4) = wc at *
    generalize w1.heap.size = b at *
    go_loopw [10, 11, 12] (fun i _ _ wr => ∃ k : Nat, k ≤ sz ∧ i = .int .i64 k ∧ InLp w wr w.heap.size b sz (fun x => decide (x < k) && manyB all L x) ∧ b < wr.heap.size) (fun i _ _ _ => sz - (intOf i).toNat)
    case atStart => exact ⟨0, Nat.zero_le _, rfl, by simpa using unhide HT, hbs⟩
    case round =>
      obtain ⟨k, hk, rfl, hst, hbs2⟩ := hrel
      have HS := hide hst
      by_cases hlt : k < sz
      · have hlt' : (k : Int) < (sz : Int) := by omega
        clear hst
        go_wp2_with fail
        go_loopw [12, 11] (fun i o wr => ∃ j : Nat, j ≤ n ∧ i = .int .i64 j ∧ o = .int .i64 (cntS k (L.take j) : Nat) ∧ InLp w wr w.heap.size b sz (fun x => decide (x < k) && manyB all L x) ∧ b < wr.heap.size) (fun i _ _ => n - (intOf i).toNat)
        case atStart => exact ⟨0, Nat.zero_le _, rfl, by simp [cntS], unhide HS, hbs2⟩
        case round =>
          obtain ⟨j, hj, rfl, rfl, hst, hbs3⟩ := hrel
          have HS := hide hst
          by_cases hltj : j < n
          · have hltj' : (j : Int) < (n : Int) := by omega
            have hjl : j < L.length := by rw [unhide HLn]; exact hltj
            have hS := (unhide HSl).below hst.bel
            obtain ⟨bl, off, rfl, hcells⟩ := hS.at (by omega)
            have g1 := (hcells j hltj).1
            have g2 := (hcells j hltj).2
            have hin := hS.get j hltj
            have HStep := hide (cnt_step hjl k)
            have hmay := unhide HAll (L.getD j .nul) (by
              have : L.getD j .nul = L[j] := by simp [List.getD, hjl]
              rw [this]; exact List.getElem_mem hjl)
            obtain ⟨e, he⟩ : ∃ e, L.getD j .nul = e := ⟨_, rfl⟩
            rw [he] at g1 g2 hin HStep hmay
            obtain ⟨es, ea, en, ec, exs⟩ := e
            obtain ⟨hmy, hes⟩ := hmay
            simp only at g1 g2 hes hmy
            subst hes
            have hlen : exs.length = nW sz := by rw [MayS.len hmy]; simp
            have hen : en = nW sz := hin.1.len.symm.trans hlen
            have K := in_any sz ea en ec exs k wr hin.1 (by rw [hen]; unfold nW; omega) (by omega)
            have hcl : cntS k (L.take j) ≤ j := by
              have := cnt_le k (L.take j)
              simp at this
              omega
            unfold setV at K
            have hhs : hasS k ⟨sz, ea, en, ec, exs⟩ = hasB (fun i => exs.getD i 0) k := rfl
            rw [hhs] at HStep
            generalize hasB (fun i => exs.getD i 0) k = hv at *
            have HK := hide K
            generalize cntS k (L.take j) = cn at *
            clear K hst hcells hin he hS hmy hlen hen hhs
            cases hv
            · go_wp2_with fail
              refine (unhide HK).mono ?_
              rintro _ w5 ⟨rfl, hb5⟩
              have HS5 := hide (show InLp w w5 w.heap.size b sz (fun x => decide (x < k) && manyB all L x) ∧ b < w5.heap.size from ⟨⟨(unhide HS).res.keep hb5, (unhide HS).row.below hb5, (unhide HS).bel.trans (hb5.mono (unhide HS).bel.size)⟩, by have := hb5.size; omega⟩)
              clear hb5 HK
              go_wp2_with fail
              exact ⟨⟨j + 1, by omega, by go_num, by rw [unhide HStep]; simp, (unhide HS5).1, (unhide HS5).2⟩, by simp [intOf]; omega⟩
            · go_wp2_with fail
              refine (unhide HK).mono ?_
              rintro _ w5 ⟨rfl, hb5⟩
              have HS5 := hide (show InLp w w5 w.heap.size b sz (fun x => decide (x < k) && manyB all L x) ∧ b < w5.heap.size from ⟨⟨(unhide HS).res.keep hb5, (unhide HS).row.below hb5, (unhide HS).bel.trans (hb5.mono (unhide HS).bel.size)⟩, by have := hb5.size; omega⟩)
              clear hb5 HK
              go_wp2_with fail
              exact ⟨⟨j + 1, by omega, by go_num, by rw [unhide HStep]; simp, (unhide HS5).1, (unhide HS5).2⟩, by simp [intOf]; omega⟩
          · have hltj' : ¬ (j : Int) < (n : Int) := by omega
            have hjn : j = n := by omega
            subst hjn
            have hall : L.take j = L := by rw [List.take_of_length_le]; rw [unhide HLn]; exact Nat.le_refl _
            rw [hall]
            have hca := cnt_any k L
            have hcl := cnt_all k L
            rw [unhide HLn] at hcl
            have HCA := hide (And.intro hca hcl)
            generalize cntS k L = cn at *
            have g1 := (hst.row k hlt).1
            have g2 := (hst.row k hlt).2
            rw [Nat.zero_add] at g1 g2
            unfold vB at g1
            generalize (decide (k < k) && manyB all L k) = old at g1
            have HS2 := hide (fun v (hv : v = manyB all L k) => (hst.set k v hlt hbR hbw).congr (g' := fun x => decide (x < k + 1) && manyB all L x) (fun x _ => by
              by_cases hx : x = k
              · subst hx; rw [if_pos rfl, hv]; simp
              · rw [if_neg hx]
                by_cases h2 : x < k
                · simp [h2, show x < k + 1 from by omega]
                · simp [h2, show ¬ x < k + 1 from by omega]))
            have hst0 := hst
            clear hst hall hca hcl
            cases all
            · clear hst0
              go_wp2_with fail
              refine ⟨⟨k + 1, by omega, by go_num, unhide HS2 _ ?_, by simp; omega⟩, by simp [intOf]; omega⟩
              exact (unhide HCA).1
            · have HS3 := hide (fun v1 v2 (hv : v2 = manyB true L k) => ((hst0.set k v1 hlt hbR hbw).set k v2 hlt hbR hbw).congr (g' := fun x => decide (x < k + 1) && manyB true L x) (fun x _ => by
                by_cases hx : x = k
                · subst hx; rw [if_pos rfl, hv]; simp
                · rw [if_neg hx, if_neg hx]
                  by_cases h2 : x < k
                  · simp [h2, show x < k + 1 from by omega]
                  · simp [h2, show ¬ x < k + 1 from by omega]))
              clear hst0
              go_wp2_with fail
              refine ⟨⟨k + 1, by omega, by go_num, unhide HS3 _ _ ?_, by simp; omega⟩, by simp [intOf]; omega⟩
              have := (unhide HCA).2
              simp only [manyB, if_true]
              rw [← this]
              rw [Bool.eq_iff_iff]
              simp
              omega
      · have hlt' : ¬ (k : Int) < (sz : Int) := by omega
        have hkn : k = sz := by omega
        subst hkn
        have HO := hide (of_any (some ⟨b, 0, none⟩) k k _ wr (hst.sl hsz) hsz)
        clear hst
        go_wp2_with fail
        refine (unhide HO).mono ?_
        rintro _ w2 ⟨_, rfl, a2, n2, c2, rfl, hs2, hn2, hb2⟩
        have T2 := (unhide HS).res.keep hb2
        have t0 := T2.c0
        have t1 := T2.c1
        have f0 := T2.f0
        have f1 := T2.f1
        have T3 := T2.set (.int .i64 k) (.slice a2 n2 c2)
        have p0 := T3.c0
        have p1 := T3.c1
        have HS2 := hide hs2
        have HB2 := hide hb2
        have HN2 := hide hn2
        clear T2 T3 hb2 hs2 HO hn2
        unfold setV
        go_wp2_with fail
        refine bodyPost_ret (by simp [results, Try.results36, go_sem, p0, p1]; try rfl) rfl ?_
        refine (unhide HS).done rfl (unhide HS2) (unhide HB2) (unhide HN2) (fun x => ?_)
        by_cases hx : x < k
        · simp [hx]
        · simp [hx]
  · have hE : manyR size L all = (0, [], alikeE size L) := by simp [manyR, hz]
    rw [hE]
    have hne : (alikeE size L == 0) = false := by simpa using hz
    generalize alikeE size L = er at *
    have HK := hide K
    clear K hz hE tR hB h
    go_enter Try.func36, Try.ntmps36
    go_wp2_with fail
    refine (unhide HK).mono ?_
    rintro _ w1 ⟨rfl, hb1⟩
    have HR1 := hide (And.intro ((unhide HR).1.keep hb1) ((unhide HR).2.trans (hb1.mono (by omega))))
    clear hb1 HK HR
    go_wp2_with fail
    refine (none_any _).mono ?_
    rintro _ w2 ⟨rfl, hb2⟩
    have tR := (unhide HR1).1.keep hb2
    have r0 := tR.c0
    have r1 := tR.c1
    have f0 := tR.f0
    have f1 := tR.f1
    have T3 := tR.set (.int .i64 0) (.slice none 0 0)
    have p0 := T3.c0
    have p1 := T3.c1
    have HB := hide (two_below ((unhide HR1).2.trans (hb2.mono (unhide HR1).2.size)) w.heap.size (by omega) (.int .i64 0) (.slice none 0 0))
    clear tR T3 hb2 HR1
    go_wp2_with fail
    refine bodyPost_ret (by simp [results, Try.results36, go_sem, p0, p1]; try rfl) rfl ?_
    exact resS_zero (unhide HB)
end Go.Proofs.Ytbendkndnojihaa
