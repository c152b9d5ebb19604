/-
  bitset.Rest, sloperef3.Rest: contracts.
-/
import Derived.Test.YtbendkndnojihabDoorBp0
import Derived.Test.YtbendkndnojihabDoorBtr
import Derived.Test.YtbendkndnojihabDoorBtg
import Derived.Test.YtbendkndnojihabDoorBti
import Derived.Test.YtbendkndnojihabDoorBto
import Derived.Test.YtbendkndnojihabDoorBn2
namespace Go.Proofs.YtbendkndnojihabDoor
open Go.RowKit Go.Deep
set_option linter.unusedVariables false

def restR (s : Int) (x : List Nat) : Int × List Nat × Int := if MayS s x then (s, wordsL s.toNat (fun e => decide (e < s.toNat) && !hasB (gW x) e), 0) else (0, [], 61)
theorem rest_joined (s : Int) (a : Option Addr) (n c : Nat) (x : List Nat) : joinedR op_andNot true s [⟨s, a, n, c, x⟩] = restR s x := by
  unfold joinedR restR
  cases h : MayS s x
  · have : alikeE s [⟨s, a, n, c, x⟩] = 61 := by simp [alikeE, notMay, h]
    rw [this]; simp
  · have : alikeE s [⟨s, a, n, c, x⟩] = 0 := by simp [alikeE, notMay, offS, h, MayS.fits h]
    rw [this]
    simp only [if_true]
    congr 2

end Go.Proofs.YtbendkndnojihabDoor

namespace Go.Proofs.YtbendkndnojihabDoor
open Go.RowKit Go.Deep
set_option linter.unusedVariables false

set_option maxHeartbeats 2000000 in
/-- sloperef3.fit. -/
theorem fit_any (size : Int) (a : Option Addr) (n c : Nat) (L : List SetC) (w : World) (h : SlS w a n c L) :
    Calls Tryd.prog 56 #[.int .i64 size, .slice a n c] w fun r w' => r = .returned (.int .i64 (alikeE size L)) ∧ Below w.heap.size w w' := by
  have hle := h.le
  have hcap := h.cap
  unfold maxLen at hcap
  have HSl := hide h
  have HLn := hide h.len
  have HK := hide (sized_any size)
  obtain ⟨fv, hfv⟩ : ∃ f, fitsI size = f := ⟨_, rfl⟩
  rw [hfv] at HK
  have HFV := hide hfv
  clear h hfv
  cases fv
  all_goals
    go_enter Tryd.func56, Tryd.ntmps56
    go_wp2_with fail
    refine (unhide HK _).mono ?_
    rintro _ w' ⟨rfl, hw⟩
    obtain rfl := hw.symm
    go_wp2_with fail
    go_loopw [6, 5] (fun i o wr => ∃ k : Nat, k ≤ n ∧ i = .int .i64 k ∧ o = .int .i64 (if ((!fitsI size) || (L.take k).any (offS size)) = true then 60 else 0) ∧ (L.take k).any notMay = false ∧ Below w.heap.size w wr) (fun i _ _ => n - (intOf i).toNat)
    case atStart => exact ⟨0, Nat.zero_le _, rfl, by simp [unhide HFV], rfl, Below.refl _ _⟩
    case round =>
      obtain ⟨k, hk, rfl, rfl, hok, hbl⟩ := hrel
      by_cases hlt : k < n
      · have hlt' : (k : Int) < (n : Int) := by omega
        have hkl : k < L.length := by rw [unhide HLn]; exact hlt
        have hS := (unhide HSl).below hbl
        obtain ⟨b, off, rfl, hcells⟩ := hS.at (by omega)
        have g1 := (hcells k hlt).1
        have g2 := (hcells k hlt).2
        have hin := hS.get k hlt
        have HAny := hide (any_takeS hkl (offS size))
        have HAny2 := hide (any_takeS hkl notMay)
        have HBad := hide (fun h => any_badS (p := notMay) hkl h)
        obtain ⟨e, he⟩ : ∃ e, L.getD k .nul = e := ⟨_, rfl⟩
        rw [he] at g1 g2 hin HAny HAny2 HBad
        obtain ⟨es, ea, en, ec, exs⟩ := e
        simp only at g1 g2
        have K := rmay_any es ea en ec exs wr hin.1
        unfold setV at K
        have HO := hide hok
        have HBl := hide hbl
        generalize hov : (if ((!fitsI size) || (L.take k).any (offS size)) = true then (60 : Int) else 0) = ov at *
        have HOV := hide hov
        clear hov
        have HG := hide (And.intro g1 g2)
        clear hcells hin he hbl hS hok
        cases hm : MayS es exs
        · rw [hm] at K
          have HKM := hide K
          have HE := hide (show alikeE size L = 61 by
            have : L.any notMay = true := unhide HBad (by simp [notMay, hm])
            simp [alikeE, this])
          clear K hm
          go_wp2_with fail
          refine (unhide HKM).mono ?_
          rintro _ w2 ⟨rfl, hb2⟩
          have HB2 := hide ((unhide HBl).trans (hb2.mono (unhide HBl).size))
          clear hb2 HKM
          go_wp2_with fail
          go_ret
          rw [unhide HE]
          exact ⟨rfl, unhide HB2⟩
        · rw [hm] at K
          have HKM := hide K
          have HM := hide hm
          clear K hm
          go_wp2_with fail
          refine (unhide HKM).mono ?_
          rintro _ w2 ⟨rfl, hb2⟩
          have HB2 := hide ((unhide HBl).trans (hb2.mono (unhide HBl).size))
          have g3 := below_cell hb2 (unhide HG).1
          have HO2 := hide (show (L.take (k + 1)).any notMay = false by rw [unhide HAny2, unhide HO]; simp [notMay, unhide HM])
          clear hb2 HKM g1 g2
          by_cases hes : es = size
          · have HV := hide (show ov = (if ((!fitsI size) || (L.take (k + 1)).any (offS size)) = true then (60 : Int) else 0) by
              rw [unhide HAny, ← unhide HOV]
              simp [offS, hes])
            subst hes
            go_wp2_with fail
            exact ⟨⟨k + 1, by omega, by go_num, by rw [← unhide HV], unhide HO2, unhide HB2⟩, by simp [intOf]; omega⟩
          · have HV := hide (show (60 : Int) = (if ((!fitsI size) || (L.take (k + 1)).any (offS size)) = true then (60 : Int) else 0) by
              rw [unhide HAny]
              simp [offS, hes])
            have hes' : (es == size) = false := by simpa using hes
            go_wp2_with fail
            exact ⟨⟨k + 1, by omega, by go_num, by rw [← unhide HV], unhide HO2, unhide HB2⟩, by simp [intOf]; omega⟩
      · have hlt' : ¬ (k : Int) < (n : Int) := by omega
        have hkn : k = n := by omega
        subst hkn
        have hall : L.take k = L := by rw [List.take_of_length_le]; rw [unhide HLn]; exact Nat.le_refl _
        rw [hall] at hok ⊢
        have HB2 := hide hbl
        have HE := hide (show alikeE size L = if ((!fitsI size) || L.any (offS size)) = true then 60 else 0 by simp [alikeE, hok])
        clear hall hok hbl
        generalize (if ((!fitsI size) || L.any (offS size)) = true then (60 : Int) else 0) = ov at *
        go_wp2_with fail
        go_ret
        rw [unhide HE]
        exact ⟨rfl, unhide HB2⟩
end Go.Proofs.YtbendkndnojihabDoor

namespace Go.Proofs.YtbendkndnojihabDoor
open Go.RowKit Go.Deep
set_option linter.unusedVariables false

def hasS (x : Nat) (e : SetC) : Bool := hasB (fun i => e.xs.getD i 0) x
def manyB (all : Bool) (L : List SetC) (x : Nat) : Bool := if all then L.all (hasS x) else L.any (hasS x)
def manyR (size : Int) (L : List SetC) (all : Bool) : Int × List Nat × Int :=
  if alikeE size L = 0 then (size, wordsL size.toNat (fun x => decide (x < size.toNat) && manyB all L x), 0) else (0, [], alikeE size L)
def cntS (x : Nat) (L : List SetC) : Nat := L.countP (hasS x)
theorem cnt_step {l : List SetC} {k : Nat} (hk : k < l.length) (x : Nat) : cntS x (l.take (k + 1)) = cntS x (l.take k) + (if hasS x (l.getD k .nul) then 1 else 0) := by
  unfold cntS
  rw [List.take_add_one, List.getElem?_eq_getElem hk, List.countP_append]
  simp [List.getD, hk, List.countP_cons]
theorem cnt_le (x : Nat) (L : List SetC) : cntS x L ≤ L.length := List.countP_le_length
theorem cnt_any (x : Nat) (L : List SetC) : decide (0 < cntS x L) = L.any (hasS x) := by
  unfold cntS
  rw [Bool.eq_iff_iff]
  simp [List.countP_pos_iff]
theorem cnt_all (x : Nat) (L : List SetC) : decide (cntS x L = L.length) = L.all (hasS x) := by
  unfold cntS
  rw [Bool.eq_iff_iff]
  simp [List.countP_eq_length]

end Go.Proofs.YtbendkndnojihabDoor

namespace Go.Proofs.YtbendkndnojihabDoor
set_option linter.unusedVariables false

structure Good (sz : Nat) (X : List Nat) (P : Nat → Bool) : Prop where
  eq : X = wordsL sz P
  zero : ∀ x, sz ≤ x → P x = false
  le : sz ≤ 4096
theorem Good.ok {sz : Nat} {X : List Nat} {P : Nat → Bool} (h : Good sz X P) : OkW X := by
  intro x hx
  rw [h.eq] at hx
  obtain ⟨i, hi, rfl⟩ := List.mem_map.1 hx
  exact (wd_rep (nW sz) P i (List.mem_range.1 hi)).1
theorem Good.len {sz : Nat} {X : List Nat} {P : Nat → Bool} (h : Good sz X P) : X.length = nW sz := by rw [h.eq, wordsL_len]
theorem Good.has {sz : Nat} {X : List Nat} {P : Nat → Bool} (h : Good sz X P) (x : Nat) (hx : x < 64 * nW sz) : hasB (gW X) x = P x := by
  have hr := (wd_rep (nW sz) P).has x hx
  rw [← hr]
  unfold hasB gW
  rw [h.eq, wordsL_getD sz P (x / 64) (by omega)]
theorem Good.may {sz : Nat} {X : List Nat} {P : Nat → Bool} (h : Good sz X P) : MayS sz X = true := by
  refine MayS.mk (by simp [fitsI]; have := h.le; omega) (by simpa using h.len) (fun x h1 h2 => ?_)
  have := h.has x (by rw [← h.len]; exact h2)
  exact this.trans (h.zero x (by simpa using h1))
theorem Good.mk' {sz : Nat} {P : Nat → Bool} (hz : ∀ x, sz ≤ x → P x = false) (hl : sz ≤ 4096) : Good sz (wordsL sz P) P := ⟨rfl, hz, hl⟩
theorem words_eq {sz : Nat} {P Q : Nat → Bool} (h : ∀ x, x < 64 * nW sz → P x = Q x) : wordsL sz P = wordsL sz Q := wordsL_congr h

theorem alike_good2 {sz : Nat} {X1 X2 : List Nat} {P1 P2 : Nat → Bool} {a1 a2 : Option Addr} {n1 c1 n2 c2 : Nat} (g1 : Good sz X1 P1) (g2 : Good sz X2 P2) : alikeE sz [⟨sz, a1, n1, c1, X1⟩, ⟨sz, a2, n2, c2, X2⟩] = 0 := by
  simp [alikeE, notMay, offS, g1.may, g2.may, MayS.fits g1.may]
theorem many_good2 {sz : Nat} {X1 X2 : List Nat} {P1 P2 : Nat → Bool} {a1 a2 : Option Addr} {n1 c1 n2 c2 : Nat} (g1 : Good sz X1 P1) (g2 : Good sz X2 P2) (all : Bool) {X : List Nat} (hX : wordsL sz (fun x => if all then (P1 x && P2 x) else (P1 x || P2 x)) = X) :
    manyR sz [⟨sz, a1, n1, c1, X1⟩, ⟨sz, a2, n2, c2, X2⟩] all = ((sz : Int), X, 0) := by
  unfold manyR
  rw [alike_good2 g1 g2]
  simp only [if_true]
  rw [← hX]
  congr 2
  show wordsL sz _ = wordsL sz _
  refine words_eq (fun x hx => ?_)
  have e1 := g1.has x hx
  have e2 := g2.has x hx
  have e1' : hasS x ⟨sz, a1, n1, c1, X1⟩ = P1 x := e1
  have e2' : hasS x ⟨sz, a2, n2, c2, X2⟩ = P2 x := e2
  unfold manyB
  simp only [List.all_cons, List.all_nil, List.any_cons, List.any_nil, e1', e2', Bool.and_true, Bool.or_false, Int.toNat_natCast]
  by_cases hs : x < sz
  · simp [hs]
  · rw [g1.zero x (by omega), g2.zero x (by omega)]
    cases all <;> simp
theorem many_good3 {sz : Nat} {X1 X2 X3 : List Nat} {P1 P2 P3 : Nat → Bool} {a1 a2 a3 : Option Addr} {n1 c1 n2 c2 n3 c3 : Nat} (g1 : Good sz X1 P1) (g2 : Good sz X2 P2) (g3 : Good sz X3 P3) {X : List Nat} (hX : wordsL sz (fun x => P1 x || P2 x || P3 x) = X) :
    manyR sz [⟨sz, a1, n1, c1, X1⟩, ⟨sz, a2, n2, c2, X2⟩, ⟨sz, a3, n3, c3, X3⟩] false = ((sz : Int), X, 0) := by
  unfold manyR
  have ha : alikeE sz [⟨sz, a1, n1, c1, X1⟩, ⟨sz, a2, n2, c2, X2⟩, ⟨sz, a3, n3, c3, X3⟩] = 0 := by
    simp [alikeE, notMay, offS, g1.may, g2.may, g3.may, MayS.fits g1.may]
  rw [ha]
  simp only [if_true]
  rw [← hX]
  congr 2
  show wordsL sz _ = wordsL sz _
  refine words_eq (fun x hx => ?_)
  have e1' : hasS x ⟨sz, a1, n1, c1, X1⟩ = P1 x := g1.has x hx
  have e2' : hasS x ⟨sz, a2, n2, c2, X2⟩ = P2 x := g2.has x hx
  have e3' : hasS x ⟨sz, a3, n3, c3, X3⟩ = P3 x := g3.has x hx
  unfold manyB
  simp only [List.any_cons, List.any_nil, e1', e2', e3', Bool.or_false, Int.toNat_natCast, Bool.false_eq_true, if_false]
  by_cases hs : x < sz
  · simp [hs, Bool.or_assoc]
  · rw [g1.zero x (by omega), g2.zero x (by omega), g3.zero x (by omega)]
    simp
theorem rest_good {sz : Nat} {X1 : List Nat} {P1 : Nat → Bool} (g1 : Good sz X1 P1) {X : List Nat} (hX : wordsL sz (fun x => decide (x < sz) && !P1 x) = X) : restR sz X1 = ((sz : Int), X, 0) := by
  unfold restR
  rw [if_pos g1.may, ← hX]
  congr 2
  show wordsL sz _ = wordsL sz _
  refine words_eq (fun x hx => ?_)
  rw [g1.has x hx]
  simp
theorem pair_good {sz : Nat} {X1 X2 : List Nat} {P1 P2 : Nat → Bool} (both : Bool) (g1 : Good sz X1 P1) (g2 : Good sz X2 P2) {X : List Nat} (hX : wordsL sz (fun x => mOp both (P1 x) (P2 x)) = X) : pairR both sz X1 sz X2 = ((sz : Int), X, 0) := by
  have h0 : pairE sz X1 sz X2 = 0 := by simp [pairE, g1.may, g2.may]
  unfold pairR
  rw [if_pos h0, ← hX]
  congr 2
  show wordsL sz _ = wordsL sz _
  refine words_eq (fun x hx => ?_)
  rw [g1.has x hx, g2.has x hx]
theorem leaves_good {sz : Nat} {X1 X2 : List Nat} {P1 P2 : Nat → Bool} {F : Nat → Nat → Nat} {op : Bool → Bool → Bool} (hF : ∀ x y, x < 18446744073709551616 → y < 18446744073709551616 → F x y < 18446744073709551616 ∧ ∀ j, (F x y).testBit j = op (x.testBit j) (y.testBit j))
    (h00 : op false false = false) (g1 : Good sz X1 P1) (g2 : Good sz X2 P2) (h : ∀ x, x < sz → op (P1 x) (P2 x) = false) : leavesR F sz X1 sz X2 = true := by
  rw [leaves_bits hF h00 g1.ok g2.ok g1.may g2.may, List.all_eq_true]
  intro x hx
  have hxs : x < sz := by simpa using hx
  have hn : sz ≤ 64 * nW sz := by unfold nW; omega
  rw [g1.has x (by omega), g2.has x (by omega), h x hxs]
  rfl
theorem count_good {sz : Nat} {X1 : List Nat} {P1 : Nat → Bool} (g1 : Good sz X1 P1) : countR sz X1 = cntB P1 sz := by
  rw [countR, if_pos g1.may]
  have hn : sz ≤ 64 * nW sz := by unfold nW; omega
  show cntB _ sz = _
  exact cntB_congr (fun x hx => g1.has x (by omega))
theorem cnt_or_and (P Q : Nat → Bool) : ∀ n, cntB (fun x => P x || Q x) n + cntB (fun x => P x && Q x) n = cntB P n + cntB Q n
  | 0 => rfl
  | n + 1 => by
    have ih := cnt_or_and P Q n
    simp only [cntB]
    rcases Bool.eq_false_or_eq_true (P n) with hp | hp <;> rcases Bool.eq_false_or_eq_true (Q n) with hq | hq <;> simp [hp, hq] <;> omega
theorem cnt_not (P : Nat → Bool) : ∀ n m, n ≤ m → cntB P n + cntB (fun x => decide (x < m) && !P x) n = n
  | 0, _, _ => rfl
  | n + 1, m, h => by
    have ih := cnt_not P n m (by omega)
    simp only [cntB]
    have hm : n < m := by omega
    rcases Bool.eq_false_or_eq_true (P n) with hp | hp <;> simp [hp, hm] <;> omega
theorem make_good {size : Int} {l : List Int} (hf : fitsI size = true) (hb : l.any (badE size) = false) : Good size.toNat (wordsL size.toNat (fun x => l.any (fun e => e == (x : Int)))) (fun x => l.any (fun e => e == (x : Int))) := by
  obtain ⟨sz, rfl, hsz⟩ := fitsI_nat hf
  refine Good.mk' (fun x hx => ?_) (by simpa using hsz)
  rw [List.any_eq_false]
  intro e he hh
  have := List.any_eq_false.1 hb e he
  simp [badE] at this
  simp at hh hx
  omega
end Go.Proofs.YtbendkndnojihabDoor
