/-
  bitset.join, by and: its contract.
-/
import Derived.Test.YtbendkndnojihabDoorBx2
import Derived.Test.YtbendkndnojihabDoorBto
import Derived.Test.YtbendkndnojihabDoorBti
import Derived.Test.YtbendkndnojihabDoorBtm
import Derived.Test.YtbendkndnojihabDoorBtp
namespace Go.Proofs.YtbendkndnojihabDoor
open Go.RowKit Go.Deep
set_option linter.unusedVariables false

end Go.Proofs.YtbendkndnojihabDoor

namespace Go.Proofs.YtbendkndnojihabDoor
open Go.RowKit Go.Deep
set_option linter.unusedVariables false

def op_and (x y : Bool) : Bool := x && y

end Go.Proofs.YtbendkndnojihabDoor

namespace Go.Proofs.YtbendkndnojihabDoor
open Go.RowKit Go.Deep
set_option linter.unusedVariables false

set_option maxHeartbeats 2000000 in
/-- sloperef3.fit. -/
theorem fit_any (size : Int) (a : Option Addr) (n c : Nat) (L : List SetC) (w : World) (h : SlS w a n c L) :
    Calls Tryd.prog 56 #[.int .i64 size, .slice a n c] w fun r w' => r = .returned (.int .i64 (alikeE size L)) ∧ Below w.heap.size w w' := by
  have hle := h.le
  have hcap := h.cap
  unfold maxLen at hcap
  have HSl := hide h
  have HLn := hide h.len
  have HK := hide (sized_any size)
  obtain ⟨fv, hfv⟩ : ∃ f, fitsI size = f := ⟨_, rfl⟩
  rw [hfv] at HK
  have HFV := hide hfv
  clear h hfv
  cases fv
  all_goals
    go_enter Tryd.func56, Tryd.ntmps56
    go_wp2_with fail
    refine (unhide HK _).mono ?_
    rintro _ w' ⟨rfl, hw⟩
    obtain rfl := hw.symm
    go_wp2_with fail
    go_loopw [6, 5] (fun i o wr => ∃ k : Nat, k ≤ n ∧ i = .int .i64 k ∧ o = .int .i64 (if ((!fitsI size) || (L.take k).any (offS size)) = true then 60 else 0) ∧ (L.take k).any notMay = false ∧ Below w.heap.size w wr) (fun i _ _ => n - (intOf i).toNat)
    case atStart => exact ⟨0, Nat.zero_le _, rfl, by simp [unhide HFV], rfl, Below.refl _ _⟩
    case round =>
      obtain ⟨k, hk, rfl, rfl, hok, hbl⟩ := hrel
      by_cases hlt : k < n
      · have hlt' : (k : Int) < (n : Int) := by omega
        have hkl : k < L.length := by rw [unhide HLn]; exact hlt
        have hS := (unhide HSl).below hbl
        obtain ⟨b, off, rfl, hcells⟩ := hS.at (by omega)
        have g1 := (hcells k hlt).1
        have g2 := (hcells k hlt).2
        have hin := hS.get k hlt
        have HAny := hide (any_takeS hkl (offS size))
        have HAny2 := hide (any_takeS hkl notMay)
        have HBad := hide (fun h => any_badS (p := notMay) hkl h)
        obtain ⟨e, he⟩ : ∃ e, L.getD k .nul = e := ⟨_, rfl⟩
        rw [he] at g1 g2 hin HAny HAny2 HBad
        obtain ⟨es, ea, en, ec, exs⟩ := e
        simp only at g1 g2
        have K := rmay_any es ea en ec exs wr hin.1
        unfold setV at K
        have HO := hide hok
        have HBl := hide hbl
        generalize hov : (if ((!fitsI size) || (L.take k).any (offS size)) = true then (60 : Int) else 0) = ov at *
        have HOV := hide hov
        clear hov
        have HG := hide (And.intro g1 g2)
        clear hcells hin he hbl hS hok
        cases hm : MayS es exs
        · rw [hm] at K
          have HKM := hide K
          have HE := hide (show alikeE size L = 61 by
            have : L.any notMay = true := unhide HBad (by simp [notMay, hm])
            simp [alikeE, this])
          clear K hm
          go_wp2_with fail
          refine (unhide HKM).mono ?_
          rintro _ w2 ⟨rfl, hb2⟩
          have HB2 := hide ((unhide HBl).trans (hb2.mono (unhide HBl).size))
          clear hb2 HKM
          go_wp2_with fail
          go_ret
          rw [unhide HE]
          exact ⟨rfl, unhide HB2⟩
        · rw [hm] at K
          have HKM := hide K
          have HM := hide hm
          clear K hm
          go_wp2_with fail
          refine (unhide HKM).mono ?_
          rintro _ w2 ⟨rfl, hb2⟩
          have HB2 := hide ((unhide HBl).trans (hb2.mono (unhide HBl).size))
          have g3 := below_cell hb2 (unhide HG).1
          have HO2 := hide (show (L.take (k + 1)).any notMay = false by rw [unhide HAny2, unhide HO]; simp [notMay, unhide HM])
          clear hb2 HKM g1 g2
          by_cases hes : es = size
          · have HV := hide (show ov = (if ((!fitsI size) || (L.take (k + 1)).any (offS size)) = true then (60 : Int) else 0) by
              rw [unhide HAny, ← unhide HOV]
              simp [offS, hes])
            subst hes
            go_wp2_with fail
            exact ⟨⟨k + 1, by omega, by go_num, by rw [← unhide HV], unhide HO2, unhide HB2⟩, by simp [intOf]; omega⟩
          · have HV := hide (show (60 : Int) = (if ((!fitsI size) || (L.take (k + 1)).any (offS size)) = true then (60 : Int) else 0) by
              rw [unhide HAny]
              simp [offS, hes])
            have hes' : (es == size) = false := by simpa using hes
            go_wp2_with fail
            exact ⟨⟨k + 1, by omega, by go_num, by rw [← unhide HV], unhide HO2, unhide HB2⟩, by simp [intOf]; omega⟩
      · have hlt' : ¬ (k : Int) < (n : Int) := by omega
        have hkn : k = n := by omega
        subst hkn
        have hall : L.take k = L := by rw [List.take_of_length_le]; rw [unhide HLn]; exact Nat.le_refl _
        rw [hall] at hok ⊢
        have HB2 := hide hbl
        have HE := hide (show alikeE size L = if ((!fitsI size) || L.any (offS size)) = true then 60 else 0 by simp [alikeE, hok])
        clear hall hok hbl
        generalize (if ((!fitsI size) || L.any (offS size)) = true then (60 : Int) else 0) = ov at *
        go_wp2_with fail
        go_ret
        rw [unhide HE]
        exact ⟨rfl, unhide HB2⟩
end Go.Proofs.YtbendkndnojihabDoor

namespace Go.Proofs.YtbendkndnojihabDoor
open Go.RowKit Go.Deep
set_option linter.unusedVariables false

def hasS (x : Nat) (e : SetC) : Bool := hasB (fun i => e.xs.getD i 0) x
def manyB (all : Bool) (L : List SetC) (x : Nat) : Bool := if all then L.all (hasS x) else L.any (hasS x)
def manyR (size : Int) (L : List SetC) (all : Bool) : Int × List Nat × Int :=
  if alikeE size L = 0 then (size, wordsL size.toNat (fun x => decide (x < size.toNat) && manyB all L x), 0) else (0, [], alikeE size L)
def cntS (x : Nat) (L : List SetC) : Nat := L.countP (hasS x)
theorem cnt_step {l : List SetC} {k : Nat} (hk : k < l.length) (x : Nat) : cntS x (l.take (k + 1)) = cntS x (l.take k) + (if hasS x (l.getD k .nul) then 1 else 0) := by
  unfold cntS
  rw [List.take_add_one, List.getElem?_eq_getElem hk, List.countP_append]
  simp [List.getD, hk, List.countP_cons]
theorem cnt_le (x : Nat) (L : List SetC) : cntS x L ≤ L.length := List.countP_le_length
theorem cnt_any (x : Nat) (L : List SetC) : decide (0 < cntS x L) = L.any (hasS x) := by
  unfold cntS
  rw [Bool.eq_iff_iff]
  simp [List.countP_pos_iff]
theorem cnt_all (x : Nat) (L : List SetC) : decide (cntS x L = L.length) = L.all (hasS x) := by
  unfold cntS
  rw [Bool.eq_iff_iff]
  simp [List.countP_eq_length]

end Go.Proofs.YtbendkndnojihabDoor

namespace Go.Proofs.YtbendkndnojihabDoor
open Go.RowKit Go.Deep
set_option linter.unusedVariables false

theorem fold_or (p : SetC → Bool) : ∀ (L : List SetC) (a : Bool), L.foldl (fun acc e => op_or acc (p e)) a = (a || L.any p)
  | [], a => by simp
  | e :: L, a => by rw [List.foldl_cons, fold_or p L, List.any_cons]; unfold op_or; rw [Bool.or_assoc]
theorem fold_and (p : SetC → Bool) : ∀ (L : List SetC) (a : Bool), L.foldl (fun acc e => op_and acc (p e)) a = (a && L.all p)
  | [], a => by simp
  | e :: L, a => by rw [List.foldl_cons, fold_and p L, List.all_cons]; unfold op_and; rw [Bool.and_assoc]
theorem joined_or_many (size : Int) (L : List SetC) : joinedR op_or false size L = manyR size L false := by
  unfold joinedR manyR
  by_cases h : alikeE size L = 0
  · simp only [if_pos h]
    congr 2
    obtain ⟨h1, h2⟩ := alike_zero h
    apply wordsL_congr
    intro x hx
    have e : PJ op_or false size.toNat L x = L.any (hasS x) := by
      unfold PJ
      rw [show (fun (acc : Bool) (e : SetC) => op_or acc (hasB (fun i => e.xs.getD i 0) x)) = (fun acc e => op_or acc (hasS x e)) from rfl, fold_or]
      simp
    rw [e]
    simp only [manyB]
    by_cases hs : x < size.toNat
    · simp [hs]
    · have : L.any (hasS x) = false := by
        rw [List.any_eq_false]
        intro y hy hh
        obtain ⟨m1, m2⟩ := h2 y hy
        have hz := MayS.zero m1 x (by rw [m2]; omega) (by rw [MayS.len m1, m2]; exact hx)
        unfold hasS at hh
        rw [hz] at hh
        cases hh
      rw [this]; simp
  · simp only [if_neg h]
theorem joined_and_many (size : Int) (L : List SetC) : joinedR op_and true size L = manyR size L true := by
  unfold joinedR manyR
  by_cases h : alikeE size L = 0
  · simp only [if_pos h]
    congr 2
    apply wordsL_congr
    intro x hx
    unfold PJ
    rw [show (fun (acc : Bool) (e : SetC) => op_and acc (hasB (fun i => e.xs.getD i 0) x)) = (fun acc e => op_and acc (hasS x e)) from rfl, fold_and]
    simp [manyB]
  · simp only [if_neg h]

set_option maxHeartbeats 2000000 in
/-- bitset.Union. -/
theorem union_any (size : Int) (a : Option Addr) (n c : Nat) (L : List SetC) (w : World) (h : SlS w a n c L) :
    Calls Tryd.prog 14 #[.int .i64 size, .slice a n c] w fun r w' => ResS w w' (manyR size L false) r := by
  obtain ⟨wa, hwa⟩ : ∃ wa, w.alloc (.cells #[.int .i64 0, .slice none 0 0] 35) = wa := ⟨_, rfl⟩
  have tR : Two wa w.heap.size (.int .i64 0) (.slice none 0 0) := by rw [← hwa]; exact Two.made _ _ _ _
  have hB : Below w.heap.size w wa := by rw [← hwa]; exact (Below.refl _ _).alloc (Nat.le_refl _) _
  have K := joined_or size a n c L wa (h.below hB)
  rw [joined_or_many] at K
  generalize manyR size L false = rr at *
  obtain ⟨rs, rx, re⟩ := rr
  have HK := hide K
  have HR := hide (And.intro tR hB)
  have hlt := tR.lt
  clear K tR hB h
  go_enter Tryd.func14, Tryd.ntmps14
  go_wp2_with fail
  refine (unhide HK).mono ?_
  rintro _ w1 ⟨a1, n1, c1, rfl, hs, hb⟩
  have tR := (unhide HR).1.keep hb
  have r0 := tR.c0
  have r1 := tR.c1
  have f0 := tR.f0
  have f1 := tR.f1
  have T3 := tR.set (.int .i64 rs) (.slice a1 n1 c1)
  have p0 := T3.c0
  have p1 := T3.c1
  have HE := hide (And.intro (SlW.two hs tR (.int .i64 rs) (.slice a1 n1 c1)) (two_below ((unhide HR).2.trans (hb.mono (by omega))) w.heap.size (Nat.le_refl _) (.int .i64 rs) (.slice a1 n1 c1)))
  clear tR T3 hs hb HK
  unfold setV
  go_wp2_with fail
  refine bodyPost_ret (by simp [results, Tryd.results14, go_sem, p0, p1]; try rfl) rfl ?_
  exact ⟨a1, n1, c1, rfl, (unhide HE).1, (unhide HE).2⟩

end Go.Proofs.YtbendkndnojihabDoor
