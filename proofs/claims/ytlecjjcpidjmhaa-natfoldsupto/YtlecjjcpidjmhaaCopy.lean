/-
  The builtin copy into a row of limbs; natural.clone, add, subtract: contracts.
-/
import Derived.Test.YtlecjjcpidjmhaaUpd
import Derived.Laws.IdiomCopy
namespace Go.Proofs.Ytlecjjcpidjmhaa
open Go.RowKit Go.Deep
set_option linter.unusedVariables false

theorem Upd.setCells (b lo hi : Nat) : ∀ (vs : List Value) (o : Nat) (w : World), lo ≤ o → o + vs.length ≤ hi → Upd b lo hi w (w.setCells b o vs)
  | [], o, w, _, _ => Upd.refl _ _ _ _
  | v :: vs, o, w, h1, h2 => by
    simp only [List.length_cons] at h2
    exact ((Upd.refl b lo hi w).set o v h1 (by omega)).trans (Upd.setCells b lo hi vs (o + 1) _ (by omega) (by omega))

theorem vals_getElem {xs : List Nat} {i : Nat} (h : i < (vals xs).length) : (vals xs)[i] = .int .u32 (xs.getD i 0 : Nat) := by
  have h' : i < xs.length := by simpa [vals] using h
  have := vals_get h'
  rw [List.getElem?_eq_getElem h] at this
  simpa using this

theorem Fn.copied {w : World} {b off n : Nat} {f : Nat → Nat} (h : Fn w b off n f) (xs : List Nat) (hl : xs.length ≤ n) : Fn (w.setCells b off (vals xs)) b off n (fun i => if i < xs.length then xs.getD i 0 else f i) := by
  intro i hi
  refine ⟨?_, by rw [World.frozen?_setCells]; exact (h i hi).2⟩
  have hlen : (vals xs).length = xs.length := by simp [vals]
  by_cases e : i < xs.length
  · rw [World.cell?_setCells_in b (vals xs) off w (fun j hj => by rw [(h j (by omega)).1]; rfl) i (by omega), vals_getElem]
    simp [e]
  · rw [World.cell?_setCells_out b (vals xs) off w _ (fun _ _ => by simp; omega)]
    simp [e, (h i hi).1]

theorem Try.size_u32 : (Try.prog.info? 77).map (·.size) = some 1 := by kernel_rfl

theorem vals_one {xs : List Nat} : ∀ v ∈ vals xs, v.oneCell' = true := by
  intro v hv
  simp [vals] at hv
  obtain ⟨x, _, rfl⟩ := hv
  rfl

/-- copy(z, a): z a row of the call's own, not shorter than a. -/
theorem wpList_copy_row {w : World} {ops : Array Oper} {rest : List Oper} {o : Oper} {a : Act} {Q : Exit → Act → World → Prop} (hgd : o.guard = none) (d s : Operand)
    (ho : o.op = .call { callee := .builtin .copy, args := #[d, s], argTypes := #[22, 22] })
    (b off dLen dCap : Nat) (sp : Option Addr) (sLen sCap : Nat) (hd : a.eval d = .slice (some ⟨b, off, none⟩) dLen dCap) (hs : a.eval s = .slice sp sLen sCap)
    (f : Nat → Nat) (hf : Fn w b off dLen f) (xs : List Nat) (hx : Sl w sp sLen sCap xs) (hle : sLen ≤ dLen)
    (h : wpList Try.prog ops Q rest (a.put o.dst (goInt xs.length)) (w.setCells b off (vals xs))) : wpList Try.prog ops Q (o :: rest) a w := by
  refine wpList_plain hgd fun K hK => ?_
  have hlen : (vals xs).length = xs.length := by simp [vals]
  rcases hx.cells with h0 | ⟨b', off', rfl, hc⟩
  · subst h0
    have hl := hx.len
    simp at hl
    subst hl
    have hrun := run_copy_none (P := Try.prog) w 22 22 o.type 77 (some ⟨b, off, none⟩) sp dLen dCap 0 sCap Try.underlying22 Try.size_u32 (by simp)
    unfold Oper.wp
    simp [execOp, ho, resolve, invoke, builtin, hd, hs, hrun, Result.andThen]
    exact hK _ _ h
  · have hrun := run_copy_cells (P := Try.prog) w 22 22 o.type 77 b off dLen dCap ⟨b', off', none⟩ sLen sCap (vals xs) Try.underlying22 Try.size_u32
      (by rw [hlen, hx.len]; exact (Nat.min_eq_left hle).symm)
      (fun j v hj => by
        have hj' : j < xs.length := by
          rcases Nat.lt_or_ge j xs.length with h | h
          · exact h
          · rw [List.getElem?_eq_none (by omega)] at hj; cases hj
        rw [vals_get hj'] at hj
        cases hj
        have := hc j hj'
        have e : (⟨b', off', none⟩ : Addr).add j = ⟨b', off' + j, none⟩ := by unfold Addr.add; split <;> simp_all
        rw [e]; exact this)
      (fun j hj => by rw [(hf j (by have := hx.len; omega)).1]; rfl) (fun j hj => (hf j (by have := hx.len; omega)).2) vals_one
    unfold Oper.wp
    simp [execOp, ho, resolve, invoke, builtin, hd, hs, hrun, Result.andThen]
    rw [hlen]
    exact hK _ _ h

theorem make_len (n : Nat) (hn : n ≤ 70368744177600) (w : World) : (Instr.makeSlice 22 (.int .i64 (n : Int)) (.int .i64 (n : Int))).run Try.prog w = .ok (.slice (some ⟨w.heap.size, 0, none⟩) n n) (w.alloc (.cells (madeCells #[.int .u32 0] n) 77)) :=
  run_make_row' (P := Try.prog) 22 77 (.int .u32 0) 4 Try.underlying22 Try.info_u32 rfl .i64 .i64 n (by omega) (by omega) w

theorem Fn.congr {w : World} {b off n : Nat} {f g : Nat → Nat} (h : Fn w b off n f) (he : ∀ i, i < n → f i = g i) : Fn w b off n g := by
  intro i hi
  rw [← he i hi]; exact h i hi

/-- The first n as a list. -/
def lst (f : Nat → Nat) (n : Nat) : List Nat := (List.range n).map f
theorem lst_len (f : Nat → Nat) (n : Nat) : (lst f n).length = n := by simp [lst]
theorem lst_getD (f : Nat → Nat) (n i : Nat) (h : i < n) : (lst f n).getD i 0 = f i := by simp [lst, List.getD, h]
theorem lst_val (f : Nat → Nat) (n : Nat) : val (lst f n) = valF f n := by
  rw [← valF_list, lst_len]
  exact valF_congr (fun i hi => lst_getD f n i hi)
theorem lst_ok {f : Nat → Nat} {n : Nat} (h : ∀ i, i < n → f i < 4294967296) : Ok (lst f n) := by
  intro x hx
  simp [lst] at hx
  obtain ⟨i, hi, rfl⟩ := hx
  exact h i hi
theorem Fn.sl {w : World} {b off n c : Nat} {f : Nat → Nat} (h : Fn w b off n f) (hc : n ≤ c) (hm : c ≤ maxLen) : Sl w (some ⟨b, off, none⟩) n c (lst f n) := by
  refine ⟨lst_len f n, hc, hm, .inr ⟨_, _, rfl, ?_⟩⟩
  intro i hi
  rw [lst_len] at hi
  rw [lst_getD f n i hi]; exact (h i hi).1

theorem getD_lt {xs : List Nat} {f : Nat → Nat} (ok : Ok xs) : ∀ i, (if i < xs.length then xs.getD i 0 else 0) < 4294967296 := by
  intro i
  split
  · exact ok.getD i
  · decide

/-- A list, and zeros behind it. -/
theorem valF_pad (xs : List Nat) (n : Nat) (h : xs.length ≤ n) : valF (fun i => if i < xs.length then xs.getD i 0 else 0) n = val xs := by
  have e0 : valF (fun i => if i < xs.length then xs.getD i 0 else 0) xs.length = valF (fun i => xs.getD i 0) xs.length := valF_congr (fun i hi => by simp [hi])
  have : ∀ k, valF (fun i => if i < xs.length then xs.getD i 0 else 0) (xs.length + k) = val xs := by
    intro k
    induction k with
    | zero => rw [Nat.add_zero, e0, valF_list]
    | succ k ih =>
      rw [← Nat.add_assoc]
      simp only [valF]
      rw [ih]; simp
  have h2 := this (n - xs.length)
  rw [show xs.length + (n - xs.length) = n from by omega] at h2
  exact h2

set_option maxHeartbeats 400000 in
/-- natural.clone. -/
theorem clone_any (a : Option Addr) (n c : Nat) (xs : List Nat) (w : World) (h : Sl w a n c xs) (hb : n ≤ 70368744177600) :
    Calls Try.prog 63 #[.slice a n c] w fun e w' => e = .returned (.slice (some ⟨w.heap.size, 0, none⟩) n n) ∧ Fn w' w.heap.size 0 n (fun i => xs.getD i 0) ∧ Below w.heap.size w w' := by
  have hmk := make_len n hb
  have HF := hide (Fn.made w n 77)
  have HS := hide (h.below ((Below.refl w.heap.size w).alloc (Nat.le_refl _) (.cells (madeCells #[.int .u32 0] n) 77)))
  have HL := hide h.len
  go_enter Try.func63, Try.ntmps63
  go_wp2_with (refine wpList_copy_row rfl _ _ rfl w.heap.size 0 n n a n c rfl rfl _ (unhide HF) xs (unhide HS) (Nat.le_refl _) ?_)
  go_ret
  refine ⟨rfl, ?_, ?_⟩
  · refine ((unhide HF).copied xs (by rw [unhide HL]; exact Nat.le_refl _)).congr ?_
    intro i hi
    simp [unhide HL, hi]
  · refine ((Below.refl w.heap.size w).alloc (Nat.le_refl _) (.cells (madeCells #[.int .u32 0] n) 77)).trans ?_
    refine (Upd.setCells w.heap.size 0 n (vals xs) 0 _ (Nat.le_refl _) ?_).below (Nat.le_refl _) (by simp)
    simp [vals, unhide HL]

set_option maxHeartbeats 800000 in
theorem addTo_nil (bz oz nz cz cb : Nat) (a : Option Addr) (w : World) :
    Calls Try.prog 72 #[.slice (some ⟨bz, oz, none⟩) nz cz, .slice a 0 cb] w fun e w' => e = .returned (.int .u32 0) ∧ w' = w := by
  go_enter Try.func72, Try.ntmps72
  go_wp2
  go_loop [5, 10] (fun cv i => cv = .int .u32 0 ∧ i = .int .i64 0) (fun _ i => (intOf i).toNat)
  case atStart => exact ⟨rfl, rfl⟩
  case round =>
    obtain ⟨rfl, rfl⟩ := hrel
    go_wp2
    go_loop [5, 7] (fun cv i => cv = .int .u32 0 ∧ i = .int .i64 0) (fun _ i => (intOf i).toNat)
    case atStart => exact ⟨rfl, rfl⟩
    case round =>
      obtain ⟨rfl, rfl⟩ := hrel
      go_wp2
      go_ret
      exact ⟨rfl, rfl⟩

set_option maxHeartbeats 800000 in
theorem subFrom_nil (bz oz nz cz cb : Nat) (a : Option Addr) (w : World) :
    Calls Try.prog 88 #[.slice (some ⟨bz, oz, none⟩) nz cz, .slice a 0 cb] w fun e w' => e = .returned (.tuple #[]) ∧ w' = w := by
  go_enter Try.func88, Try.ntmps88
  go_wp2
  go_loop [4, 9] (fun cv i => cv = .int .u32 0 ∧ i = .int .i64 0) (fun _ i => (intOf i).toNat)
  case atStart => exact ⟨rfl, rfl⟩
  case round =>
    obtain ⟨rfl, rfl⟩ := hrel
    go_wp2
    go_loop [4, 6] (fun cv i => cv = .int .u32 0 ∧ i = .int .i64 0) (fun _ i => (intOf i).toNat)
    case atStart => exact ⟨rfl, rfl⟩
    case round =>
      obtain ⟨rfl, rfl⟩ := hrel
      go_wp2
      go_end0
      exact ⟨rfl, rfl⟩

/-- natural.addTo. -/
theorem addTo_any (bz oz nz cz m cb : Nat) (a : Option Addr) (f : Nat → Nat) (ys : List Nat) (w : World) (hs : Sl w a m cb ys) (hb : ∀ x, a = some x → ys ≠ [] → x.block ≠ bz) (hle : m ≤ nz) (hn : nz ≤ maxLen) (oy : Ok ys) (of : ∀ i, i < nz → f i < 4294967296)
    (hz : Fn w bz oz nz f) :
    Calls Try.prog 72 #[.slice (some ⟨bz, oz, none⟩) nz cz, .slice a m cb] w fun e w' => ∃ f' c, e = .returned (.int .u32 (c : Nat)) ∧ c ≤ 1 ∧ Fn w' bz oz nz f' ∧ (∀ i, i < nz → f' i < 4294967296) ∧
      valF f' nz + 4294967296 ^ nz * c = valF f nz + val ys ∧ Upd bz oz (oz + nz) w w' := by
  by_cases h0 : ys = []
  · subst h0
    have hl := hs.len
    simp at hl
    subst hl
    refine (addTo_nil bz oz nz cz cb a w).mono ?_
    rintro e w' ⟨rfl, rfl⟩
    exact ⟨f, 0, rfl, Nat.zero_le _, hz, of, by simp [val], Upd.refl _ _ _ _⟩
  · rcases hs.cells with h | ⟨b, off, rfl, hc⟩
    · exact absurd h h0
    · exact addTo_some bz oz nz cz b off m cb f ys w (hb _ rfl h0) hs.len hle hn oy of hz hc

/-- natural.subFrom. -/
theorem subFrom_any (bz oz nz cz m cb : Nat) (a : Option Addr) (f : Nat → Nat) (ys : List Nat) (w : World) (hs : Sl w a m cb ys) (hb : ∀ x, a = some x → ys ≠ [] → x.block ≠ bz) (hle : m ≤ nz) (hn : nz ≤ maxLen) (oy : Ok ys) (of : ∀ i, i < nz → f i < 4294967296)
    (hz : Fn w bz oz nz f) (hge : val ys ≤ valF f nz) :
    Calls Try.prog 88 #[.slice (some ⟨bz, oz, none⟩) nz cz, .slice a m cb] w fun e w' => e = .returned (.tuple #[]) ∧ ∃ f', Fn w' bz oz nz f' ∧ (∀ i, i < nz → f' i < 4294967296) ∧
      valF f' nz + val ys = valF f nz ∧ Upd bz oz (oz + nz) w w' := by
  by_cases h0 : ys = []
  · subst h0
    have hl := hs.len
    simp at hl
    subst hl
    refine (subFrom_nil bz oz nz cz cb a w).mono ?_
    rintro e w' ⟨rfl, rfl⟩
    exact ⟨rfl, f, hz, of, by simp [val], Upd.refl _ _ _ _⟩
  · rcases hs.cells with h | ⟨b, off, rfl, hc⟩
    · exact absurd h h0
    · exact subFrom_some bz oz nz cz b off m cb f ys w (hb _ rfl h0) hs.len hle hn oy of hz hc hge
end Go.Proofs.Ytlecjjcpidjmhaa
