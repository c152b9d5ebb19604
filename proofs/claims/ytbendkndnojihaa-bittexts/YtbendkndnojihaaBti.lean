/-
  LISTS OF SETS; bitset.alike: its contract.
-/
import Derived.Test.YtbendkndnojihaaBta
import Derived.Test.YtbendkndnojihaaBth
namespace Go.Proofs.Ytbendkndnojihaa
open Go.RowKit Go.Deep
set_option linter.unusedVariables false

/-- A set in memory. -/
structure SetC where
  s : Int
  a : Option Addr
  n : Nat
  c : Nat
  xs : List Nat
def SetC.nul : SetC := ⟨0, none, 0, 0, []⟩
def SetC.In (e : SetC) (w : World) : Prop := SlW w e.a e.n e.c e.xs ∧ OkW e.xs
theorem SetC.In.below {e : SetC} {w w' : World} (h : e.In w) (k : Below w.heap.size w w') : e.In w' := ⟨h.1.below k, h.2⟩

/-- A slice of sets. -/
structure SlS (w : World) (a : Option Addr) (n c : Nat) (L : List SetC) : Prop where
  len : L.length = n
  le : n ≤ c
  cap : c ≤ maxLen
  cells : L = [] ∨ ∃ b off, a = some ⟨b, off, none⟩ ∧ ∀ i, i < L.length → w.cell? ⟨b, off + i * 2, none⟩ = some (.int .i64 (L.getD i .nul).s) ∧ w.cell? ⟨b, off + i * 2 + 1, none⟩ = some (.slice (L.getD i .nul).a (L.getD i .nul).n (L.getD i .nul).c)
  all : ∀ e ∈ L, e.In w
theorem SlS.below {w w' : World} {a : Option Addr} {n c : Nat} {L : List SetC} (h : SlS w a n c L) (hb : Below w.heap.size w w') : SlS w' a n c L :=
  ⟨h.len, h.le, h.cap, h.cells.imp id (fun ⟨b, off, e, k⟩ => ⟨b, off, e, fun i hi => ⟨below_cell hb (k i hi).1, below_cell hb (k i hi).2⟩⟩), fun e he => (h.all e he).below hb⟩
theorem SlS.at {w : World} {a : Option Addr} {n c : Nat} {L : List SetC} (h : SlS w a n c L) (hn : 0 < n) : ∃ b off, a = some ⟨b, off, none⟩ ∧ ∀ i, i < n → w.cell? ⟨b, off + i * 2, none⟩ = some (.int .i64 (L.getD i .nul).s) ∧ w.cell? ⟨b, off + i * 2 + 1, none⟩ = some (.slice (L.getD i .nul).a (L.getD i .nul).n (L.getD i .nul).c) := by
  rcases h.cells with e | ⟨b, off, e, k⟩
  · have := h.len; rw [e] at this; simp at this; omega
  · exact ⟨b, off, e, fun i hi => k i (by rw [h.len]; exact hi)⟩
theorem SlS.get {w : World} {a : Option Addr} {n c : Nat} {L : List SetC} (h : SlS w a n c L) (i : Nat) (hi : i < n) : (L.getD i .nul).In w := by
  have hl : i < L.length := by rw [h.len]; exact hi
  have : L.getD i .nul = L[i] := by simp [List.getD, hl]
  rw [this]; exact h.all _ (List.getElem_mem hl)

theorem any_takeS {l : List SetC} {k : Nat} (hk : k < l.length) (p : SetC → Bool) : (l.take (k + 1)).any p = (p (l.getD k .nul) || (l.take k).any p) := by
  rw [List.take_add_one, List.getElem?_eq_getElem hk, List.any_append, Bool.or_comm]
  simp [List.getD, hk]
theorem any_badS {l : List SetC} {p : SetC → Bool} {k : Nat} (hk : k < l.length) (h : p (l.getD k .nul) = true) : l.any p = true := by
  rw [List.any_eq_true]
  refine ⟨l[k], List.getElem_mem hk, ?_⟩
  simpa [List.getD, hk] using h

def notMay (e : SetC) : Bool := !MayS e.s e.xs
def offS (size : Int) (e : SetC) : Bool := decide (e.s ≠ size)
/-- Are they sets of one universe? -/
def alikeE (size : Int) (L : List SetC) : Int := if L.any notMay then 61 else if (!fitsI size) || L.any (offS size) then 60 else 0

set_option maxHeartbeats 2000000 in
/-- bitset.alike. -/
theorem alike_any (size : Int) (a : Option Addr) (n c : Nat) (L : List SetC) (w : World) (h : SlS w a n c L) :
    Calls Try.prog 82 #[.int .i64 size, .slice a n c] w fun r w' => r = .returned (.int .i64 (alikeE size L)) ∧ Below w.heap.size w w' := by
  have hle := h.le
  have hcap := h.cap
  unfold maxLen at hcap
  have HSl := hide h
  have HLn := hide h.len
  have HK := hide (fits_any size)
  obtain ⟨fv, hfv⟩ : ∃ f, fitsI size = f := ⟨_, rfl⟩
  rw [hfv] at HK
  have HFV := hide hfv
  clear h hfv
  go_enter Try.func82, Try.ntmps82
  go_wp2_with fail
  refine (unhide HK _).mono ?_
  rintro _ w' ⟨rfl, hw⟩
  obtain rfl := hw.symm
  go_wp2_with fail
  go_loopw [13, 5, 7] (fun i o _ wr => ∃ k : Nat, k ≤ n ∧ i = .int .i64 k ∧ o = .bool ((!fv) || (L.take k).any (offS size)) ∧ (L.take k).any notMay = false ∧ Below w.heap.size w wr) (fun i _ _ _ => n - (intOf i).toNat)
  case atStart => exact ⟨0, Nat.zero_le _, rfl, by simp, rfl, Below.refl _ _⟩
  case round =>
    obtain ⟨k, hk, rfl, rfl, hok, hbl⟩ := hrel
    by_cases hlt : k < n
    · have hlt' : (k : Int) < (n : Int) := by omega
      have hkl : k < L.length := by rw [unhide HLn]; exact hlt
      have hS := (unhide HSl).below hbl
      obtain ⟨b, off, rfl, hcells⟩ := hS.at (by omega)
      have g1 := (hcells k hlt).1
      have g2 := (hcells k hlt).2
      have hin := hS.get k hlt
      have HAny := hide (any_takeS hkl (offS size))
      have HAny2 := hide (any_takeS hkl notMay)
      have HBad := hide (fun h => any_badS (p := notMay) hkl h)
      obtain ⟨e, he⟩ : ∃ e, L.getD k .nul = e := ⟨_, rfl⟩
      rw [he] at g1 g2 hin HAny HAny2 HBad
      obtain ⟨es, ea, en, ec, exs⟩ := e
      simp only at g1 g2
      have hal : Below wr.heap.size wr (wr.alloc (.cells #[.int .i64 es, .slice ea en ec] 24)) := (Below.refl _ _).alloc (Nat.le_refl _) _
      have K := may_any es ea en ec exs (wr.alloc (.cells #[.int .i64 es, .slice ea en ec] 24)) (hin.1.below hal) hin.2
      have tZ : Two (wr.alloc (.cells #[.int .i64 es, .slice ea en ec] 24)) wr.heap.size (.int .i64 es) (.slice ea en ec) := Two.made _ _ _ _
      have HZ := hide (And.intro tZ (hbl.trans (hal.mono hbl.size)))
      unfold setV at K
      have HO := hide hok
      generalize hov : ((!fv) || (L.take k).any (offS size)) = ov at *
      have HOV := hide hov
      clear hov
      clear hcells hin he hal tZ hbl hS hok
      cases hm : MayS es exs
      · rw [hm] at K
        have HKM := hide K
        have HE := hide (show alikeE size L = 61 by
          have : L.any notMay = true := unhide HBad (by simp [notMay, hm])
          simp [alikeE, this])
        clear K hm
        go_wp2_with fail
        refine (unhide HKM).mono ?_
        rintro _ w2 ⟨rfl, hb2⟩
        have HB2 := hide ((unhide HZ).2.trans (hb2.mono (unhide HZ).2.size))
        clear hb2 HKM
        go_wp2_with fail
        go_ret
        rw [unhide HE]
        exact ⟨rfl, unhide HB2⟩
      · rw [hm] at K
        have HKM := hide K
        have HM := hide hm
        clear K hm
        go_wp2_with fail
        refine (unhide HKM).mono ?_
        rintro _ w2 ⟨rfl, hb2⟩
        have HB2 := hide ((unhide HZ).2.trans (hb2.mono (unhide HZ).2.size))
        have t2 := (unhide HZ).1.keep hb2
        have t20 := t2.c0
        clear hb2 HKM t2
        have HO2 := hide (show (L.take (k + 1)).any notMay = false by rw [unhide HAny2, unhide HO]; simp [notMay, unhide HM])
        have HV := hide (show ∀ v, v = (offS size ⟨es, ea, en, ec, exs⟩ || ov) → v = ((!fv) || (L.take (k + 1)).any (offS size)) by
          intro v hv
          rw [hv, unhide HAny, ← unhide HOV]
          cases fv <;> cases offS size ⟨es, ea, en, ec, exs⟩ <;> simp)
        cases ov
        · by_cases hes : es = size
          · subst hes
            go_wp2_with fail
            exact ⟨⟨k + 1, by omega, by go_num, by rw [← unhide HV false (by simp [offS])], unhide HO2, unhide HB2⟩, by simp [intOf]; omega⟩
          · have hes' : (es == size) = false := by simpa using hes
            go_wp2_with fail
            exact ⟨⟨k + 1, by omega, by go_num, by rw [← unhide HV true (by simp [offS, hes])]; congr 1; simpa using hes, unhide HO2, unhide HB2⟩, by simp [intOf]; omega⟩
        · go_wp2_with fail
          exact ⟨⟨k + 1, by omega, by go_num, by rw [← unhide HV true (by simp)], unhide HO2, unhide HB2⟩, by simp [intOf]; omega⟩
    · have hlt' : ¬ (k : Int) < (n : Int) := by omega
      have hkn : k = n := by omega
      subst hkn
      have hall : L.take k = L := by rw [List.take_of_length_le]; rw [unhide HLn]; exact Nat.le_refl _
      rw [hall] at hok ⊢
      have HB2 := hide hbl
      have HE := hide (show alikeE size L = if ((!fv) || L.any (offS size)) = true then 60 else 0 by simp [alikeE, hok, unhide HFV])
      clear hall hok hbl
      cases hv : ((!fv) || L.any (offS size))
      · rw [hv] at HE
        clear hv
        go_wp2_with fail
        go_ret
        rw [unhide HE]
        exact ⟨rfl, unhide HB2⟩
      · rw [hv] at HE
        clear hv
        go_wp2_with fail
        go_ret
        rw [unhide HE]
        exact ⟨rfl, unhide HB2⟩
end Go.Proofs.Ytbendkndnojihaa
