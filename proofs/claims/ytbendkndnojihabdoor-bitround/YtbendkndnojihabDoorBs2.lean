/-
  sloperef3.Print: contract; a set's text, plain.
-/
import Derived.Test.YtbendkndnojihabDoorByl
import Derived.Test.YtbendkndnojihabDoorBtg
import Derived.Test.YtbendkndnojihabDoorBk5
import Derived.Test.YtbendkndnojihabDoorBz1
import Derived.Test.YtbendkndnojihabDoorByf
namespace Go.Proofs.YtbendkndnojihabDoor
open Go.RowKit Go.Deep
set_option linter.unusedVariables false

/-- Does a run begin at e, does one end? -/
def bgB (P : Nat → Bool) (e : Nat) : Bool := !(decide (1 ≤ e) && P (e - 1))
def enB (P : Nat → Bool) (N e : Nat) : Bool := !(decide (e + 1 < N) && P (e + 1))
/-- What e puts to the text. -/
def pcT (P : Nat → Bool) (N e : Nat) : List UInt8 :=
  if P e then (if bgB P e then (if cntB P e = 0 then [] else [44]) ++ Lib.decDigits e else if enB P N e then 45 :: Lib.decDigits e else []) else []
/-- The runs below e. -/
def rnT (P : Nat → Bool) (N : Nat) : Nat → List UInt8
  | 0 => []
  | e + 1 => rnT P N e ++ pcT P N e
theorem pcT_len (P : Nat → Bool) (N e : Nat) (h : e ≤ 4096) : (pcT P N e).length ≤ 8 := by
  have := dec_len e (by omega)
  unfold pcT
  split
  · split
    · split
      · simp; omega
      · simp; omega
    · split
      · simp; omega
      · simp
  · simp
theorem rnT_len (P : Nat → Bool) (N : Nat) : ∀ e, e ≤ 4096 → (rnT P N e).length ≤ 8 * e
  | 0, _ => by simp [rnT]
  | e + 1, h => by
    simp only [rnT, List.length_append]
    have := rnT_len P N e (by omega)
    have := pcT_len P N e (by omega)
    omega
/-- A set's text. -/
def prT (s : Int) (xs : List Nat) : List UInt8 × Int := if MayS s xs then ((Lib.decDigits s.toNat ++ [58]) ++ rnT (hasB (gW xs)) s.toNat s.toNat, 0) else ([], 61)
def commaT (P : Nat → Bool) (e : Nat) : List UInt8 := if cntB P e = 0 then [] else [44]

theorem cnt_zero_succ {P : Nat → Bool} {e : Nat} : (cntB P (e + 1) = 0) ↔ (cntB P e = 0 ∧ P e = false) := by
  simp only [cntB]
  cases P e <;> simp

set_option maxHeartbeats 8000000 in
set_option maxRecDepth 100000 in
/-- sloperef3.Print. -/
theorem rsprint_any (s : Int) (a : Option Addr) (n c : Nat) (xs : List Nat) (w : World) (h : SlW w a n c xs) :
    Calls Tryd.prog 20 #[setV s a n c] w fun e w' => e = .returned (.tuple #[.string (strL (prT s xs).1), .int .i64 (prT s xs).2]) ∧ Below w.heap.size w w' := by
  obtain ⟨wa, hwa⟩ : ∃ x, w.alloc (.cells #[.int .i64 s, .slice a n c] 35) = x := ⟨_, rfl⟩
  have hba : Below w.heap.size w wa := by rw [← hwa]; exact (Below.refl _ _).alloc (Nat.le_refl _) _
  have tA : Two wa w.heap.size (.int .i64 s) (.slice a n c) := by rw [← hwa]; exact Two.made _ _ _ _
  have K := rmay_any s a n c xs wa (h.below hba)
  have a0 := tA.c0
  have a1 := tA.c1
  have HA := hide (And.intro tA (And.intro (h.below hba) hba))
  have HL := hide h.len
  clear tA hba h
  unfold setV at K ⊢
  cases m : MayS s xs
  · rw [m] at K
    have e0 : prT s xs = ([], 61) := by simp [prT, m]
    rw [e0]
    have HK := hide K
    clear K m e0
    go_enter Tryd.func20, Tryd.ntmps20
    go_wp2_with fail
    refine (unhide HK).mono ?_
    rintro _ w1 ⟨rfl, hb1⟩
    have HB := hide ((unhide HA).2.2.trans (hb1.mono (unhide HA).2.2.size))
    clear hb1 HK
    go_wp2_with fail
    refine bodyPost_ret (by simp [results, Tryd.results20, go_sem]; try rfl) rfl ?_
    exact ⟨rfl, unhide HB⟩
  · rw [m] at K
    obtain ⟨sz, rfl, hsz⟩ := fitsI_nat (MayS.fits m)
    have hnn : n = nW sz := by have := MayS.len m; rw [unhide HL] at this; simpa using this
    have e0 : prT sz xs = ((Lib.decDigits sz ++ [58]) ++ rnT (hasB (gW xs)) sz sz, 0) := by simp [prT, m]
    rw [e0]
    obtain ⟨P, hP⟩ : ∃ P, hasB (gW xs) = P := ⟨_, rfl⟩
    rw [hP]
    have HPx := hide (show hasB (fun i => xs.getD i 0) = P from hP)
    obtain ⟨T, hT⟩ : ∃ T, strL ((Lib.decDigits sz ++ [58]) ++ rnT P sz sz) = T := ⟨_, rfl⟩
    simp only
    rw [hT]
    have HTT := hide hT
    have HK := hide K
    have HN := hide hnn
    clear K m e0 hP hT hnn
    go_enter Tryd.func20, Tryd.ntmps20
    go_wp2_with fail
    refine (unhide HK).mono ?_
    rintro _ w1 ⟨rfl, hb1⟩
    have HA1 := hide (And.intro ((unhide HA).1.keep hb1) (And.intro ((unhide HA).2.1.below hb1) ((unhide HA).2.2.trans (hb1.mono (unhide HA).2.2.size))))
    have b0 := (unhide HA1).1.c0
    have b1 := (unhide HA1).1.c1
    have KL := list_any sz a n c xs w1 (unhide HA1).2.1 hsz (unhide HN)
    unfold setV at KL
    have HKL := hide KL
    clear hb1 HK HA a0 a1 KL
    go_wp2_with fail
    refine (unhide HKL).mono ?_
    rintro _ w2 ⟨bI, rfl, hI1, hI2, hIf, hIb⟩
    have HI := hide (And.intro hIf (And.intro hI1 hI2))
    have HA2 := hide (And.intro ((unhide HA1).1.keep hIb) ((unhide HA1).2.2.trans (hIb.mono (unhide HA1).2.2.size)))
    have c0 := (unhide HA2).1.c0
    have c1 := (unhide HA2).1.c1
    have KD := hide (decimal_any sz w2 (by omega))
    clear hIf hI1 hI2 hIb HKL HA1 b0 b1
    go_wp2_with fail
    refine (unhide KD).mono ?_
    rintro _ w3 ⟨rfl, hb3⟩
    have hd7 := dec_len sz (by omega)
    rw [← strL_size] at hd7
    obtain ⟨D1, hD1⟩ : ∃ D, strL (Lib.decDigits sz) = D := ⟨_, rfl⟩
    rw [hD1] at hd7 ⊢
    have HD1 := hide hD1
    have HB3 := hide hb3
    have tA3 := (unhide HA2).1.keep hb3
    have d0 := tA3.c0
    have d1 := tA3.c1
    have HW := hide ((unhide HA2).2.trans (hb3.mono (unhide HA2).2.size))
    have HIn := hide (show FnB w3 bI 0 sz P by have := (unhide HI).1.below hb3; rw [unhide HPx] at this; exact this)
    clear hD1 hb3 tA3 KD c0 c1 HA2 HI
    go_wp2_with fail
    go_loopw [7, 5, 6, 8, 9] (fun i o cm _ _ wr => ∃ (k : Nat) (S C : ByteArray), k ≤ sz ∧ i = .int .i64 k ∧ o = .string S ∧ cm = .string C ∧ S = strL ((Lib.decDigits sz ++ [58]) ++ rnT P sz k) ∧ C = strL (commaT P k) ∧ Below w3.heap.size w3 wr) (fun i _ _ _ _ _ => sz - (intOf i).toNat)
    case atStart =>
      refine ⟨0, _, _, Nat.zero_le _, rfl, rfl, rfl, ?_, rfl, Below.refl _ _⟩
      rw [show (Lib.decDigits sz ++ [58]) ++ rnT P sz 0 = Lib.decDigits sz ++ [58] from by simp [rnT], ← strL_append, unhide HD1]
      rfl
    case round =>
      obtain ⟨k, S, C, hk, rfl, rfl, rfl, hS, hC, hb⟩ := hrel
      have hSl : S.size ≤ 40000 := by
        rw [hS, strL_size]
        have h1 := rnT_len P sz k (by omega)
        have h2 := hd7
        rw [← unhide HD1, strL_size] at h2
        simp
        omega
      have hCl : C.size ≤ 1 := by rw [hC, strL_size]; unfold commaT; split <;> simp
      have HS := hide hS
      have HC := hide hC
      have HB := hide hb
      have HF := hide (show FnB wr bI 0 sz P from (unhide HIn).below hb)
      clear hS hC hb
      by_cases hlt : k < sz
      · have hlt' : (k : Int) < (sz : Int) := by omega
        have g := (unhide HF k hlt).1
        unfold vB at g
        rw [Nat.zero_add] at g
        have hrn : rnT P sz (k + 1) = rnT P sz k ++ pcT P sz k := rfl
        have HRn := hide hrn
        clear hrn
        cases hv : P k
        · rw [hv] at g
          have HE := hide (show pcT P sz k = [] by simp [pcT, hv])
          have HCm := hide (show commaT P (k + 1) = commaT P k by
            unfold commaT
            have := cnt_zero_succ (P := P) (e := k)
            by_cases c : cntB P k = 0
            · rw [if_pos c, if_pos (this.2 ⟨c, hv⟩)]
            · rw [if_neg c, if_neg (fun h => c (this.1 h).1)])
          clear hv
          go_wp2_with fail
          exact ⟨⟨k + 1, S, C, by omega, by go_num, rfl, rfl, by rw [unhide HRn, unhide HE, List.append_nil]; exact unhide HS, by rw [unhide HCm]; exact unhide HC, unhide HB⟩, by simp [intOf]; omega⟩
        · rw [hv] at g
          have hdk := dec_len k (by omega)
          rw [← strL_size] at hdk
          have HCn := hide (show commaT P (k + 1) = [44] by
            unfold commaT
            rw [if_neg (fun h => by have := (cnt_zero_succ (P := P) (e := k)).1 h; rw [hv] at this; cases this.2)])
          have HV := hide hv
          clear hv
          obtain ⟨Dk, hDk⟩ : ∃ D, strL (Lib.decDigits k) = D := ⟨_, rfl⟩
          rw [hDk] at hdk
          have KD := decimal_any k wr (by omega)
          rw [hDk] at KD
          have HDk := hide hDk
          have HKD := hide KD
          clear hDk KD
          by_cases k0 : k = 0
          · have q1 : ((k : Int) == 0) = true := by simp [k0]
            have HBg := hide (show bgB P k = true by simp [bgB, k0])
            have q2 : decide (k = 0) = true := by simp [k0]
            clear k0
            have HV2 := hide (Eq.refl 0)
            by_cases kl : k + 1 = sz
            · have p1 : ((k : Int) == (sz : Int) - 1) = true := by simp; omega
              have p1b : (sz : Int) - 1 = (k : Int) := by omega
              have HEn := hide (show enB P sz k = true by simp [enB, kl])
              clear kl
              clear HV2
              go_wp2_with fail
              refine (unhide HKD).mono ?_
              rintro _ w4 ⟨rfl, hb4⟩
              have HB4 := hide ((unhide HB).trans (hb4.mono (unhide HB).size))
              clear hb4 HKD
              go_wp2_with fail
              refine ⟨⟨k + 1, _, _, by omega, by go_num, rfl, rfl, ?_, ?_, unhide HB4⟩, by simp [intOf]; omega⟩
              · rw [unhide HRn, show pcT P sz k = commaT P k ++ Lib.decDigits k from by unfold pcT commaT; rw [unhide HV, unhide HBg]; simp]
                rw [unhide HS, unhide HC, ← unhide HDk, strL_append, strL_append, List.append_assoc, List.append_assoc]
              · rw [unhide HCn]; rfl
            · have p1 : ((k : Int) == (sz : Int) - 1) = false := by simp; omega
              have p1b : ¬ (k : Int) = (sz : Int) - 1 := by omega
              have hk2 : k + 1 < sz := by omega
              have hk2' : (k : Int) + 1 < (sz : Int) := by omega
              have g3 := (unhide HF (k + 1) hk2).1
              unfold vB at g3
              rw [Nat.zero_add] at g3
              cases hve : P (k + 1)
              · rw [hve] at g3
                have HEn := hide (show enB P sz k = true by simp [enB, hve])
                clear hve
                clear HV2
                go_wp2_with fail
                refine (unhide HKD).mono ?_
                rintro _ w4 ⟨rfl, hb4⟩
                have HB4 := hide ((unhide HB).trans (hb4.mono (unhide HB).size))
                clear hb4 HKD
                go_wp2_with fail
                refine ⟨⟨k + 1, _, _, by omega, by go_num, rfl, rfl, ?_, ?_, unhide HB4⟩, by simp [intOf]; omega⟩
                · rw [unhide HRn, show pcT P sz k = commaT P k ++ Lib.decDigits k from by unfold pcT commaT; rw [unhide HV, unhide HBg]; simp]
                  rw [unhide HS, unhide HC, ← unhide HDk, strL_append, strL_append, List.append_assoc, List.append_assoc]
                · rw [unhide HCn]; rfl
              · rw [hve] at g3
                have HEn := hide (show enB P sz k = false by simp [enB, hve, hk2])
                clear hve
                clear HV2
                go_wp2_with fail
                refine (unhide HKD).mono ?_
                rintro _ w4 ⟨rfl, hb4⟩
                have HB4 := hide ((unhide HB).trans (hb4.mono (unhide HB).size))
                clear hb4 HKD
                go_wp2_with fail
                refine ⟨⟨k + 1, _, _, by omega, by go_num, rfl, rfl, ?_, ?_, unhide HB4⟩, by simp [intOf]; omega⟩
                · rw [unhide HRn, show pcT P sz k = commaT P k ++ Lib.decDigits k from by unfold pcT commaT; rw [unhide HV, unhide HBg]; simp]
                  rw [unhide HS, unhide HC, ← unhide HDk, strL_append, strL_append, List.append_assoc, List.append_assoc]
                · rw [unhide HCn]; rfl
          · have q1 : ((k : Int) == 0) = false := by simp [k0]
            have q2 : ¬ (k : Int) = 0 := by omega
            have hk1 : k - 1 < sz := by omega
            have hk1t : ((k : Int) - 1).toNat = k - 1 := by omega
            have hk1a : (0 : Int) ≤ (k : Int) - 1 := by omega
            have hk1b : (k : Int) - 1 < (sz : Int) := by omega
            have g2 := (unhide HF (k - 1) hk1).1
            unfold vB at g2
            rw [Nat.zero_add] at g2
            cases hvb : P (k - 1)
            · rw [hvb] at g2
              have HBg := hide (show bgB P k = true by simp [bgB, hvb])
              clear hvb k0
              have HV2 := hide (Eq.refl 0)
              by_cases kl : k + 1 = sz
              · have p1 : ((k : Int) == (sz : Int) - 1) = true := by simp; omega
                have p1b : (sz : Int) - 1 = (k : Int) := by omega
                have HEn := hide (show enB P sz k = true by simp [enB, kl])
                clear kl
                clear HV2
                go_wp2_with fail
                refine (unhide HKD).mono ?_
                rintro _ w4 ⟨rfl, hb4⟩
                have HB4 := hide ((unhide HB).trans (hb4.mono (unhide HB).size))
                clear hb4 HKD
                go_wp2_with fail
                refine ⟨⟨k + 1, _, _, by omega, by go_num, rfl, rfl, ?_, ?_, unhide HB4⟩, by simp [intOf]; omega⟩
                · rw [unhide HRn, show pcT P sz k = commaT P k ++ Lib.decDigits k from by unfold pcT commaT; rw [unhide HV, unhide HBg]; simp]
                  rw [unhide HS, unhide HC, ← unhide HDk, strL_append, strL_append, List.append_assoc, List.append_assoc]
                · rw [unhide HCn]; rfl
              · have p1 : ((k : Int) == (sz : Int) - 1) = false := by simp; omega
                have p1b : ¬ (k : Int) = (sz : Int) - 1 := by omega
                have hk2 : k + 1 < sz := by omega
                have hk2' : (k : Int) + 1 < (sz : Int) := by omega
                have g3 := (unhide HF (k + 1) hk2).1
                unfold vB at g3
                rw [Nat.zero_add] at g3
                cases hve : P (k + 1)
                · rw [hve] at g3
                  have HEn := hide (show enB P sz k = true by simp [enB, hve])
                  clear hve
                  clear HV2
                  go_wp2_with fail
                  refine (unhide HKD).mono ?_
                  rintro _ w4 ⟨rfl, hb4⟩
                  have HB4 := hide ((unhide HB).trans (hb4.mono (unhide HB).size))
                  clear hb4 HKD
                  go_wp2_with fail
                  refine ⟨⟨k + 1, _, _, by omega, by go_num, rfl, rfl, ?_, ?_, unhide HB4⟩, by simp [intOf]; omega⟩
                  · rw [unhide HRn, show pcT P sz k = commaT P k ++ Lib.decDigits k from by unfold pcT commaT; rw [unhide HV, unhide HBg]; simp]
                    rw [unhide HS, unhide HC, ← unhide HDk, strL_append, strL_append, List.append_assoc, List.append_assoc]
                  · rw [unhide HCn]; rfl
                · rw [hve] at g3
                  have HEn := hide (show enB P sz k = false by simp [enB, hve, hk2])
                  clear hve
                  clear HV2
                  go_wp2_with fail
                  refine (unhide HKD).mono ?_
                  rintro _ w4 ⟨rfl, hb4⟩
                  have HB4 := hide ((unhide HB).trans (hb4.mono (unhide HB).size))
                  clear hb4 HKD
                  go_wp2_with fail
                  refine ⟨⟨k + 1, _, _, by omega, by go_num, rfl, rfl, ?_, ?_, unhide HB4⟩, by simp [intOf]; omega⟩
                  · rw [unhide HRn, show pcT P sz k = commaT P k ++ Lib.decDigits k from by unfold pcT commaT; rw [unhide HV, unhide HBg]; simp]
                    rw [unhide HS, unhide HC, ← unhide HDk, strL_append, strL_append, List.append_assoc, List.append_assoc]
                  · rw [unhide HCn]; rfl
            · rw [hvb] at g2
              have HBg := hide (show bgB P k = false by simp [bgB, hvb]; omega)
              have HCo := hide (show ([44] : List UInt8) = commaT P k by
                unfold commaT
                rw [if_neg (fun h => by have := cntB_lt P (show k - 1 < k by omega) hvb; omega)])
              clear hvb k0
              have HV2 := hide (Eq.refl 0)
              by_cases kl : k + 1 = sz
              · have p1 : ((k : Int) == (sz : Int) - 1) = true := by simp; omega
                have p1b : (sz : Int) - 1 = (k : Int) := by omega
                have HEn := hide (show enB P sz k = true by simp [enB, kl])
                clear kl
                clear HV2
                go_wp2_with fail
                refine (unhide HKD).mono ?_
                rintro _ w4 ⟨rfl, hb4⟩
                have HB4 := hide ((unhide HB).trans (hb4.mono (unhide HB).size))
                clear hb4 HKD
                go_wp2_with fail
                refine ⟨⟨k + 1, _, C, by omega, by go_num, rfl, rfl, ?_, ?_, unhide HB4⟩, by simp [intOf]; omega⟩
                · rw [unhide HRn, show pcT P sz k = [45] ++ Lib.decDigits k from by unfold pcT; rw [unhide HV, unhide HBg, unhide HEn]; simp]
                  rw [unhide HS, ← unhide HDk, show ({ data := #[45] } : ByteArray) = strL [45] from rfl, strL_append, strL_append, List.append_assoc, List.append_assoc]
                · rw [unhide HC, unhide HCn, unhide HCo]
              · have p1 : ((k : Int) == (sz : Int) - 1) = false := by simp; omega
                have p1b : ¬ (k : Int) = (sz : Int) - 1 := by omega
                have hk2 : k + 1 < sz := by omega
                have hk2' : (k : Int) + 1 < (sz : Int) := by omega
                have g3 := (unhide HF (k + 1) hk2).1
                unfold vB at g3
                rw [Nat.zero_add] at g3
                cases hve : P (k + 1)
                · rw [hve] at g3
                  have HEn := hide (show enB P sz k = true by simp [enB, hve])
                  clear hve
                  clear HV2
                  go_wp2_with fail
                  refine (unhide HKD).mono ?_
                  rintro _ w4 ⟨rfl, hb4⟩
                  have HB4 := hide ((unhide HB).trans (hb4.mono (unhide HB).size))
                  clear hb4 HKD
                  go_wp2_with fail
                  refine ⟨⟨k + 1, _, C, by omega, by go_num, rfl, rfl, ?_, ?_, unhide HB4⟩, by simp [intOf]; omega⟩
                  · rw [unhide HRn, show pcT P sz k = [45] ++ Lib.decDigits k from by unfold pcT; rw [unhide HV, unhide HBg, unhide HEn]; simp]
                    rw [unhide HS, ← unhide HDk, show ({ data := #[45] } : ByteArray) = strL [45] from rfl, strL_append, strL_append, List.append_assoc, List.append_assoc]
                  · rw [unhide HC, unhide HCn, unhide HCo]
                · rw [hve] at g3
                  have HEn := hide (show enB P sz k = false by simp [enB, hve, hk2])
                  clear hve
                  clear HKD HV2
                  go_wp2_with fail
                  refine ⟨⟨k + 1, S, C, by omega, by go_num, rfl, rfl, ?_, ?_, unhide HB⟩, by simp [intOf]; omega⟩
                  · rw [unhide HRn, show pcT P sz k = [] from by unfold pcT; rw [unhide HV, unhide HBg, unhide HEn]; simp, List.append_nil]
                    exact unhide HS
                  · rw [unhide HC, unhide HCn, unhide HCo]
      · have hlt' : ¬ (k : Int) < (sz : Int) := by omega
        obtain rfl : k = sz := by omega
        have HR := hide (show T = S by rw [← unhide HTT, unhide HS])
        go_wp2_with fail
        refine bodyPost_ret (by simp [results, Tryd.results20, go_sem]; try rfl) rfl ?_
        rw [unhide HR]
        exact ⟨rfl, (unhide HW).trans ((unhide HB).mono (unhide HW).size)⟩
end Go.Proofs.YtbendkndnojihabDoor
