/- Te0 -/
import Derived.Test.YtbbicappjicblaaGreatDoorTa0
import Derived.Test.YtbbicappjicblaaGreatDoorWie
namespace Go.Proofs.YtbbicappjicblaaGreatDoor
open Go.RowKit Go.Deep
set_option linter.unusedVariables false
def twoK (k : Int) : Bool := decide (3 ≤ k) && decide (k ≤ 6)
def oneK (k : Int) : Bool := decide (7 ≤ k) && decide (k ≤ 8)
def blankQ (p : Nq) : Bool := !p.g && decide (p.x = []) && decide (p.y = [])
def unuO (o : On) : Bool := (decide (o.k = 2) && decide (o.a ≠ 0)) || (!twoK o.k && decide (o.b ≠ 0)) || (decide (o.k ≠ 8) && decide (o.n ≠ 0)) || (decide (o.k ≠ 2) && !blankQ o.p)
def opsL (o : On) : List Int := if twoK o.k then [o.a, o.b] else if oneK o.k then [o.a] else []
def offI (v : Int) (n : Int) : Bool := decide (v < 0) || decide (n ≤ v)
def opF (inp : Int) (i : Nat) (o : On) : Int :=
 if o.k < 1 ∨ 8 < o.k then 103 else if unuO o then 104 else if o.k = 1 ∧ offI o.a inp = true then 105 else if o.k = 2 ∧ MayR o.p.g o.p.x o.p.y = false then 40 else if (opsL o).any (fun v => offI v i) = true then 106 else if o.n < -1024 ∨ 1024 < o.n then 107 else 0
def opsF (inp : Int) : Nat → List On → Option (Int × Int)
 | _, [] => none
 | i, o :: os => if opF inp i o = 0 then opsF inp (i + 1) os else some ((i : Int), opF inp i o)
def outsF (n : Nat) : Nat → List Int → Option (Int × Int)
 | _, [] => none
 | i, y :: ys => if offI y n = true then some ((n : Int) + i, 108) else outsF n (i + 1) ys
def chF (inp : Int) (os : List On) (ys : List Int) : Int × Int :=
 if inp < 0 ∨ 64 < inp then (-1, 100) else if 2048 < os.length then (-1, 101) else if ys.length = 0 ∨ 64 < ys.length then (-1, 102) else
  match opsF inp 0 os with
  | some r => r
  | none => match outsF os.length 0 ys with
   | some r => r
   | none => (0, 0)
theorem opsF_drop (inp : Int) (os : List On) {k : Nat} {o : On} (h : os[k]? = some o) (i : Nat) : opsF inp i (os.drop k) = if opF inp i o = 0 then opsF inp (i + 1) (os.drop (k + 1)) else some ((i : Int), opF inp i o) := by
 obtain ⟨hk, rfl⟩ := List.getElem?_eq_some_iff.1 h
 rw [List.drop_eq_getElem_cons hk]
 rfl
theorem outsF_drop (n : Nat) (ys : List Int) {k : Nat} (hk : k < ys.length) (i : Nat) : outsF n i (ys.drop k) = if offI (ys.getD k 0) n = true then some ((n : Int) + i, 108) else outsF n (i + 1) (ys.drop (k + 1)) := by
 rw [List.drop_eq_getElem_cons hk, List.getD_eq_getElem?_getD, List.getElem?_eq_getElem hk]
 rfl
theorem opsF_end (inp : Int) (os : List On) {k : Nat} (h : os.length = k) (i : Nat) : opsF inp i (os.drop k) = none := by
 rw [List.drop_of_length_le (by omega)]
 rfl
theorem outsF_end (n : Nat) (ys : List Int) {k : Nat} (h : ys.length = k) (i : Nat) : outsF n i (ys.drop k) = none := by
 rw [List.drop_of_length_le (by omega)]
 rfl
theorem opF_con {o q : On} (h : conO o = conO q) (inp : Int) (i : Nat) : opF inp i o = opF inp i q ∧ opsL o = opsL q := by
 obtain ⟨k, a, b, n, p⟩ := o
 obtain ⟨k', a', b', n', r⟩ := q
 unfold conO conQ at h
 simp only [Prod.mk.injEq] at h
 obtain ⟨⟨rfl, rfl, rfl, rfl⟩, h1, h2, h3⟩ := h
 unfold opF unuO opsL blankQ
 simp only [h1, h2, h3]
 exact ⟨trivial, trivial⟩
theorem opsF_con (inp : Int) : ∀ (os qs : List On) (i : Nat), os.map conO = qs.map conO → opsF inp i os = opsF inp i qs
 | [], [], i, _ => rfl
 | o :: os, q :: qs, i, h => by
  simp only [List.map_cons, List.cons.injEq] at h
  unfold opsF
  rw [(opF_con h.1 inp i).1, opsF_con inp os qs (i + 1) h.2]
 | [], q :: qs, i, h => by simp at h
 | o :: os, [], i, h => by simp at h
theorem chF_con {os qs : List On} (h : os.map conO = qs.map conO) (inp : Int) (ys : List Int) : chF inp os ys = chF inp qs ys := by
 have hl : os.length = qs.length := by simpa using congrArg List.length h
 unfold chF
 rw [opsF_con inp os qs 0 h, hl]
structure TpOk (inp : Int) (os : List On) (ys : List Int) : Prop where
 li : 0 ≤ inp ∧ inp ≤ 64
 lo : os.length ≤ 2048
 ly : 0 < ys.length ∧ ys.length ≤ 64
 op : ∀ i o, os[i]? = some o → opF inp i o = 0
 out : ∀ y ∈ ys, 0 ≤ y ∧ y < os.length
theorem opsF_none (inp : Int) : ∀ (os : List On) (i : Nat), opsF inp i os = none → ∀ j o, os[j]? = some o → opF inp (i + j) o = 0
 | [], i, _, j, o, ho => by simp at ho
 | q :: qs, i, h, j, o, ho => by
  unfold opsF at h
  split at h
  ·rename_i h0
   cases j with
   | zero => simp at ho; subst ho; simpa using h0
   | succ j =>
    have := opsF_none inp qs (i + 1) h j o (by simpa using ho)
    rw [show i + (j + 1) = i + 1 + j from by omega]
    exact this
  ·cases h
theorem opsF_ne (inp : Int) : ∀ (os : List On) (i : Nat) (r : Int × Int), opsF inp i os = some r → r.2 ≠ 0
 | [], i, r, h => by cases h
 | q :: qs, i, r, h => by
  unfold opsF at h
  split at h
  ·exact opsF_ne inp qs (i + 1) r h
  ·rename_i h0
   cases h
   exact h0
theorem outsF_none (n : Nat) : ∀ (ys : List Int) (i : Nat), outsF n i ys = none → ∀ y ∈ ys, 0 ≤ y ∧ y < n
 | [], i, _, y, hy => by cases hy
 | q :: qs, i, h, y, hy => by
  unfold outsF at h
  split at h
  ·cases h
  ·rename_i h0
   rcases List.mem_cons.1 hy with rfl | hy
   ·unfold offI at h0
    simp only [Bool.or_eq_true, decide_eq_true_eq, not_or] at h0
    omega
   ·exact outsF_none n qs (i + 1) h y hy
theorem outsF_ne (n : Nat) : ∀ (ys : List Int) (i : Nat) (r : Int × Int), outsF n i ys = some r → r.2 ≠ 0
 | [], i, r, h => by cases h
 | q :: qs, i, r, h => by
  unfold outsF at h
  split at h
  ·cases h; exact (by decide : (108 : Int) ≠ 0)
  ·exact outsF_ne n qs (i + 1) r h
theorem TpOk.of {inp : Int} {os : List On} {ys : List Int} (h : (chF inp os ys).2 = 0) : TpOk inp os ys := by
 unfold chF at h
 split at h
 ·cases h
 split at h
 ·cases h
 split at h
 ·cases h
 rename_i h1 h2 h3
 split at h
 ·rename_i r hr
  exact absurd h (opsF_ne inp os 0 r hr)
 ·rename_i ho
  split at h
  ·rename_i r hr
   exact absurd h (outsF_ne os.length ys 0 r hr)
  ·rename_i hy
   exact ⟨by omega, by omega, by omega, fun i o hi => by simpa using opsF_none inp os 0 ho i o hi, outsF_none os.length ys 0 hy⟩
theorem TpOk.ch {inp : Int} {os : List On} {ys : List Int} (h : (chF inp os ys).2 = 0) : chF inp os ys = (0, 0) := by
 unfold chF at h ⊢
 split at h
 ·cases h
 split at h
 ·cases h
 split at h
 ·cases h
 rename_i h1 h2 h3
 rw [if_neg h1, if_neg h2, if_neg h3]
 split at h
 ·rename_i r hr
  exact absurd h (opsF_ne inp os 0 r hr)
 ·rename_i ho
  split at h
  ·rename_i r hr
   exact absurd h (outsF_ne os.length ys 0 r hr)
  ·rename_i hy
   first | rfl | simp only [ho] | simp only [hy]
theorem op_ok {inp : Int} {i : Nat} {o : On} (h : opF inp i o = 0) : (1 ≤ o.k ∧ o.k ≤ 8) ∧ (∀ v ∈ opsL o, 0 ≤ v ∧ v < i) ∧ unuO o = false ∧ (o.k = 1 → 0 ≤ o.a ∧ o.a < inp) ∧ (o.k = 2 → MayR o.p.g o.p.x o.p.y = true) ∧ (-1024 ≤ o.n ∧ o.n ≤ 1024) := by
 unfold opF at h
 split at h
 ·cases h
 split at h
 ·cases h
 split at h
 ·cases h
 split at h
 ·cases h
 split at h
 ·cases h
 split at h
 ·cases h
 rename_i h1 h2 h3 h4 h5 h6
 refine ⟨by omega, fun v hv => ?_, by simpa using h2, fun e => ?_, fun e => ?_, by omega⟩
 ·simp only [List.any_eq_true, not_exists, not_and] at h5
  have := h5 v hv
  unfold offI at this
  simp only [Bool.or_eq_true, decide_eq_true_eq, not_or] at this
  omega
 ·have : ¬ offI o.a inp = true := fun h => h3 ⟨e, h⟩
  unfold offI at this
  simp only [Bool.or_eq_true, decide_eq_true_eq, not_or] at this
  omega
 ·cases hm : MayR o.p.g o.p.x o.p.y
  ·exact absurd ⟨e, hm⟩ h4
  ·rfl
theorem tisKind_any (k : Int) (w : World) : Calls Tryz.prog 87 #[.int .i64 k] w fun e w' => e = .returned (.bool (decide (1 ≤ k) && decide (k ≤ 8))) ∧ w' = w := by
 by_cases h1 : 1 ≤ k
 ·have h1' : ¬ k < 1 := by omega
  by_cases h2 : k ≤ 8
  ·have h2' : ¬ 8 < k := by omega
   rw [show (decide (1 ≤ k) && decide (k ≤ 8)) = true by simp [h1, h2]]
   go_enter Tryz.func87, Tryz.ntmps87
   go_wp2_with fail
   go_ret
   exact ⟨rfl, rfl⟩
  ·have h2' : 8 < k := by omega
   rw [show (decide (1 ≤ k) && decide (k ≤ 8)) = false by simp [h2]]
   go_enter Tryz.func87, Tryz.ntmps87
   go_wp2_with fail
   go_ret
   exact ⟨rfl, rfl⟩
 ·have h1' : k < 1 := by omega
  rw [show (decide (1 ≤ k) && decide (k ≤ 8)) = false by simp [h1]]
  go_enter Tryz.func87, Tryz.ntmps87
  go_wp2_with fail
  go_ret
  exact ⟨rfl, rfl⟩
theorem tbelow_any (k n : Int) (w : World) : Calls Tryz.prog 69 #[.int .i64 k, .int .i64 n] w fun e w' => e = .returned (.bool (!offI k n)) ∧ w' = w := by
 by_cases h1 : 0 ≤ k
 ·have h1' : ¬ k < 0 := by omega
  by_cases h2 : k < n
  ·have h2' : ¬ n ≤ k := by omega
   rw [show (!offI k n) = true by simp [offI, h1', h2']]
   go_enter Tryz.func69, Tryz.ntmps69
   go_wp2_with fail
   go_ret
   exact ⟨rfl, rfl⟩
  ·have h2' : n ≤ k := by omega
   rw [show (!offI k n) = false by simp [offI, h2']]
   go_enter Tryz.func69, Tryz.ntmps69
   go_wp2_with fail
   go_ret
   exact ⟨rfl, rfl⟩
 ·have h1' : k < 0 := by omega
  rw [show (!offI k n) = false by simp [offI, h1']]
  go_enter Tryz.func69, Tryz.ntmps69
  go_wp2_with fail
  go_ret
  exact ⟨rfl, rfl⟩
theorem two_any (k : Int) (w : World) : Calls Tryz.prog 63 #[.int .i64 k] w fun e w' => e = .returned (.bool (twoK k)) ∧ w' = w := by
 by_cases h3 : k = 3
 ·subst h3
  go_enter Tryz.func63, Tryz.ntmps63
  go_wp2_with fail
  go_ret
  exact ⟨rfl, rfl⟩
 by_cases h4 : k = 4
 ·subst h4
  go_enter Tryz.func63, Tryz.ntmps63
  go_wp2_with fail
  go_ret
  exact ⟨rfl, rfl⟩
 by_cases h5 : k = 5
 ·subst h5
  go_enter Tryz.func63, Tryz.ntmps63
  go_wp2_with fail
  go_ret
  exact ⟨rfl, rfl⟩
 by_cases h6 : k = 6
 ·subst h6
  go_enter Tryz.func63, Tryz.ntmps63
  go_wp2_with fail
  go_ret
  exact ⟨rfl, rfl⟩
 have e : twoK k = false := by unfold twoK; simp; omega
 have a3 : (k == 3) = false := by simpa using h3
 have a4 : (k == 4) = false := by simpa using h4
 have a5 : (k == 5) = false := by simpa using h5
 have a6 : (k == 6) = false := by simpa using h6
 rw [e]
 go_enter Tryz.func63, Tryz.ntmps63
 go_wp2_with fail
 go_ret
 exact ⟨rfl, rfl⟩
theorem onef_any (k : Int) (w : World) : Calls Tryz.prog 64 #[.int .i64 k] w fun e w' => e = .returned (.bool (oneK k)) ∧ w' = w := by
 by_cases h3 : k = 7
 ·subst h3
  go_enter Tryz.func64, Tryz.ntmps64
  go_wp2_with fail
  go_ret
  exact ⟨rfl, rfl⟩
 by_cases h4 : k = 8
 ·subst h4
  go_enter Tryz.func64, Tryz.ntmps64
  go_wp2_with fail
  go_ret
  exact ⟨rfl, rfl⟩
 have e : oneK k = false := by unfold oneK; simp; omega
 have a3 : (k == 7) = false := by simpa using h3
 have a4 : (k == 8) = false := by simpa using h4
 rw [e]
 go_enter Tryz.func64, Tryz.ntmps64
 go_wp2_with fail
 go_ret
 exact ⟨rfl, rfl⟩
theorem tblank_any (p : Nq) (w : World) (hx : p.n = p.x.length) (hy : p.m = p.y.length) : Calls Tryz.prog 105 #[.agg #[.bool p.g, .slice p.a p.n p.c, .slice p.b p.m p.d]] w fun e w' => e = .returned (.bool (blankQ p)) ∧ Below w.heap.size w w' := by
 have bx := Box.made w p.g p.a p.n p.c p.b p.m p.d
 obtain ⟨wa, hwa⟩ : ∃ wa, ratBox w p.g p.a p.n p.c p.b p.m p.d = wa := ⟨_, rfl⟩
 rw [hwa] at bx
 have hba : Below w.heap.size w wa := by rw [← hwa]; exact (Below.refl _ _).alloc (Nat.le_refl _) _
 unfold ratBox at hwa
 have p0 := bx.d0
 have p1 := bx.d1
 have p2 := bx.d2
 have HB := hide hba
 clear bx hba
 obtain ⟨g, a, n, c, x, b, m, d, y⟩ := p
 simp only at hx hy hwa p0 p1 p2 ⊢
 cases g
 ·by_cases h1 : x = []
  ·subst h1
   obtain rfl : n = 0 := hx
   by_cases h2 : y = []
   ·subst h2
    obtain rfl : m = 0 := hy
    go_enter Tryz.func105, Tryz.ntmps105
    go_wp2_with fail
    go_ret
    exact ⟨rfl, unhide HB⟩
   ·have e : ((m : Int) == 0) = false := by
     have : y.length ≠ 0 := by simpa using h2
     simp; omega
    clear hy
    rw [show blankQ ⟨false, a, 0, c, [], b, m, d, y⟩ = false by simp [blankQ, h2]]
    go_enter Tryz.func105, Tryz.ntmps105
    go_wp2_with fail
    go_ret
    exact ⟨rfl, unhide HB⟩
  ·have e : ((n : Int) == 0) = false := by
    have : x.length ≠ 0 := by simpa using h1
    simp; omega
   clear hx hy
   rw [show blankQ ⟨false, a, n, c, x, b, m, d, y⟩ = false by simp [blankQ, h1]]
   go_enter Tryz.func105, Tryz.ntmps105
   go_wp2_with fail
   go_ret
   exact ⟨rfl, unhide HB⟩
 ·clear hx hy
  rw [show blankQ ⟨true, a, n, c, x, b, m, d, y⟩ = false by simp [blankQ]]
  go_enter Tryz.func105, Tryz.ntmps105
  go_wp2_with fail
  go_ret
  exact ⟨rfl, unhide HB⟩
theorem wnone_any (p : Nq) (w : World) (hx : p.n = p.x.length) (hy : p.m = p.y.length) : Calls Tryz.prog 95 #[.agg #[.bool p.g, .slice p.a p.n p.c, .slice p.b p.m p.d]] w fun e w' => e = .returned (.bool (blankQ p)) ∧ Below w.heap.size w w' := by
 have bx := Box.made w p.g p.a p.n p.c p.b p.m p.d
 obtain ⟨wa, hwa⟩ : ∃ wa, ratBox w p.g p.a p.n p.c p.b p.m p.d = wa := ⟨_, rfl⟩
 rw [hwa] at bx
 have hba : Below w.heap.size w wa := by rw [← hwa]; exact (Below.refl _ _).alloc (Nat.le_refl _) _
 unfold ratBox at hwa
 have p0 := bx.d0
 have p1 := bx.d1
 have p2 := bx.d2
 have HB := hide hba
 clear bx hba
 obtain ⟨g, a, n, c, x, b, m, d, y⟩ := p
 simp only at hx hy hwa p0 p1 p2 ⊢
 cases g
 ·by_cases h1 : x = []
  ·subst h1
   obtain rfl : n = 0 := hx
   by_cases h2 : y = []
   ·subst h2
    obtain rfl : m = 0 := hy
    go_enter Tryz.func95, Tryz.ntmps95
    go_wp2_with fail
    go_ret
    exact ⟨rfl, unhide HB⟩
   ·have e : ((m : Int) == 0) = false := by
     have : y.length ≠ 0 := by simpa using h2
     simp; omega
    clear hy
    rw [show blankQ ⟨false, a, 0, c, [], b, m, d, y⟩ = false by simp [blankQ, h2]]
    go_enter Tryz.func95, Tryz.ntmps95
    go_wp2_with fail
    go_ret
    exact ⟨rfl, unhide HB⟩
  ·have e : ((n : Int) == 0) = false := by
    have : x.length ≠ 0 := by simpa using h1
    simp; omega
   clear hx hy
   rw [show blankQ ⟨false, a, n, c, x, b, m, d, y⟩ = false by simp [blankQ, h1]]
   go_enter Tryz.func95, Tryz.ntmps95
   go_wp2_with fail
   go_ret
   exact ⟨rfl, unhide HB⟩
 ·clear hx hy
  rw [show blankQ ⟨true, a, n, c, x, b, m, d, y⟩ = false by simp [blankQ]]
  go_enter Tryz.func95, Tryz.ntmps95
  go_wp2_with fail
  go_ret
  exact ⟨rfl, unhide HB⟩
theorem Chg.put {S : Nat → Prop} {w w' : World} (h : Chg S w w') (b q : Nat) (v : Value) (hs : S b) : Chg S w (w'.setCell ⟨b, q, none⟩ v) := h.trans (Chg.of_set _ _ _ _ hs)
def shW : Nat → List Nat
 | 1 => [105, 110]
 | 2 => [99, 111, 110, 115, 116]
 | 3 => [97, 100, 100]
 | 4 => [115, 117, 98]
 | 5 => [109, 117, 108]
 | 6 => [100, 105, 118]
 | 7 => [110, 101, 103]
 | 8 => [112, 111, 119]
 | _ => []
def shA (k : Nat) : Bool := k != 0 && k != 2
def shB (k : Nat) : Bool := k == 3 || k == 4 || k == 5 || k == 6
def shN (k : Nat) : Bool := k == 8
def shC (k : Nat) : Bool := k == 2
def shV (k : Nat) : List Value := [.string (strB (shW k)), .bool (shA k), .bool (shB k), .bool (shN k), .bool (shC k)]
def TabSh (w : World) : Prop := ∀ k j : Nat, k < 9 → j < 5 → w.cell? ⟨0, k * 5 + j, none⟩ = (shV k)[j]?
theorem TabSh.below {w w' : World} (h : TabSh w) (k : Below w.heap.size w w') : TabSh w' := by
 intro a j ha hj
 have h1 := h a j ha hj
 have h2 : (shV a)[j]? = some ((shV a)[j]'hj) := List.getElem?_eq_getElem hj
 rw [h2] at h1 ⊢
 rw [k.cell (World.block_lt_of_cell? _ _ h1)]
 exact h1
set_option maxRecDepth 100000 in
theorem tshape_any (k : Nat) (h1 : 1 ≤ k) (h8 : k ≤ 8) (w : World) (hT : TabSh w) : Calls Tryz.prog 88 #[.int .i64 (k : Int)] w fun e w' => e = .returned (.agg (shV k).toArray) ∧ Below w.heap.size w w' := by
 obtain ⟨wa, hwa⟩ : ∃ x, w.alloc (.cells #[.string { data := #[] }, .bool false, .bool false, .bool false, .bool false] 164) = x := ⟨_, rfl⟩
 have bx : BoxP wa w.heap.size [.string { data := #[] }, .bool false, .bool false, .bool false, .bool false] := by rw [← hwa]; exact BoxP.made _ _ _
 have hba : Below w.heap.size w wa := by rw [← hwa]; exact (Below.refl _ _).alloc (Nat.le_refl _) _
 have hT' := hT.below hba
 have c0 := hT' k 0 (by omega) (by omega)
 have c1 := hT' k 1 (by omega) (by omega)
 have c2 := hT' k 2 (by omega) (by omega)
 have c3 := hT' k 3 (by omega) (by omega)
 have c4 := hT' k 4 (by omega) (by omega)
 have g0 := (bx.all 0 _ rfl).1
 have g1 := (bx.all 1 _ rfl).1
 have g2 := (bx.all 2 _ rfl).1
 have g3 := (bx.all 3 _ rfl).1
 have g4 := (bx.all 4 _ rfl).1
 have z0 := (bx.all 0 _ rfl).2
 have z1 := (bx.all 1 _ rfl).2
 have z2 := (bx.all 2 _ rfl).2
 have z3 := (bx.all 3 _ rfl).2
 have z4 := (bx.all 4 _ rfl).2
 have HB := hide hba
 have HX := hide bx
 clear hT hT' hba bx
 unfold shV at *
 generalize strB (shW k) = W at *
 generalize shA k = A at *
 generalize shB k = B at *
 generalize shN k = N at *
 generalize shC k = C at *
 simp only [List.getElem?_cons_zero, List.getElem?_cons_succ, Nat.add_zero] at c0 c1 c2 c3 c4
 have h1' : 0 ≤ (k : Int) := by omega
 have h2' : (k : Int) < 9 := by omega
 go_enter Tryz.func88, Tryz.ntmps88
 go_wp2_with fail
 have bF := (((((unhide HX).put 0 (.string W)).put 1 (.bool A)).put 2 (.bool B)).put 3 (.bool N)).put 4 (.bool C)
 have cF : Chg (fun j => j = w.heap.size) wa (((((wa.setCell ⟨w.heap.size, 0, none⟩ (.string W)).setCell ⟨w.heap.size, 1, none⟩ (.bool A)).setCell ⟨w.heap.size, 2, none⟩ (.bool B)).setCell ⟨w.heap.size, 3, none⟩ (.bool N)).setCell ⟨w.heap.size, 4, none⟩ (.bool C)) := (((((Chg.refl (fun j => j = w.heap.size) wa).put _ _ _ rfl).put _ _ _ rfl).put _ _ _ rfl).put _ _ _ rfl).put _ _ _ rfl
 generalize ((((wa.setCell ⟨w.heap.size, 0, none⟩ (.string W)).setCell ⟨w.heap.size, 1, none⟩ (.bool A)).setCell ⟨w.heap.size, 2, none⟩ (.bool B)).setCell ⟨w.heap.size, 3, none⟩ (.bool N)).setCell ⟨w.heap.size, 4, none⟩ (.bool C) = wf at *
 have t0 := (bF.all 0 _ rfl).1
 have t1 := (bF.all 1 _ rfl).1
 have t2 := (bF.all 2 _ rfl).1
 have t3 := (bF.all 3 _ rfl).1
 have t4 := (bF.all 4 _ rfl).1
 refine bodyPost_ret (by simp [results, Tryz.results88, go_sem, t0, t1, t2, t3, t4]; try rfl) rfl ?_
 exact ⟨rfl, (unhide HB).trans (cF.below (B := w.heap.size) (unhide HB).size (fun j hj e => by omega))⟩
set_option maxRecDepth 100000 in
set_option maxHeartbeats 8000000 in
theorem tleaves_1 (a b n : Int) (p : Nq) (w : World) (hx : p.n = p.x.length) (hy : p.m = p.y.length) :
  Calls Tryz.prog 89 #[.agg #[.string (strB (shW 1)), .bool true, .bool false, .bool false, .bool false], opV ⟨1, a, b, n, p⟩] w fun e w' => e = .returned (.bool (!unuO ⟨1, a, b, n, p⟩)) ∧ Below w.heap.size w w' := by
 generalize strB (shW 1) = WW
 obtain ⟨wa, hwa⟩ : ∃ x, w.alloc (.cells #[.string WW, .bool true, .bool false, .bool false, .bool false] 164) = x := ⟨_, rfl⟩
 have bx : BoxP wa w.heap.size [.string WW, .bool true, .bool false, .bool false, .bool false] := by rw [← hwa]; exact BoxP.made _ _ _
 have hba : Below w.heap.size w wa := by rw [← hwa]; exact (Below.refl _ _).alloc (Nat.le_refl _) _
 obtain ⟨wo, hwo⟩ : ∃ x, wa.alloc (.cells #[.int .i64 1, .int .i64 a, .int .i64 b, .int .i64 n, .bool p.g, .slice p.a p.n p.c, .slice p.b p.m p.d] 73) = x := ⟨_, rfl⟩
 have br : BoxP wo wa.heap.size [.int .i64 1, .int .i64 a, .int .i64 b, .int .i64 n, .bool p.g, .slice p.a p.n p.c, .slice p.b p.m p.d] := by rw [← hwo]; exact BoxP.made _ _ _
 have hbo : Below wa.heap.size wa wo := by rw [← hwo]; exact (Below.refl _ _).alloc (Nat.le_refl _) _
 have bx2 := bx.below hbo
 have hB := hba.trans (hbo.mono hba.size)
 have HB := hide hB
 have g1 := (bx2.all 1 _ rfl).1
 have g2 := (bx2.all 2 _ rfl).1
 have g3 := (bx2.all 3 _ rfl).1
 have g4 := (bx2.all 4 _ rfl).1
 have f1 := (br.all 1 _ rfl).1
 have f2 := (br.all 2 _ rfl).1
 have f3 := (br.all 3 _ rfl).1
 have f4 := (br.all 4 _ rfl).1
 have f5 := (br.all 5 _ rfl).1
 have f6 := (br.all 6 _ rfl).1
 have KB := hide (fun (W : World) => tblank_any p W hx hy)
 unfold opV
 clear bx bx2 br hba hbo hB hx hy
 by_cases hb : b = 0
 rotate_left
 ·have eb : (b == 0) = false := by simpa using hb
  rw [show (!unuO ⟨1, a, b, n, p⟩) = false by simp [unuO, twoK, hb]]
  go_enter Tryz.func89, Tryz.ntmps89
  go_wp2_with fail
  go_ret
  exact ⟨rfl, unhide HB⟩
 subst hb
 by_cases hn : n = 0
 rotate_left
 ·have en : (n == 0) = false := by simpa using hn
  rw [show (!unuO ⟨1, a, 0, n, p⟩) = false by simp [unuO, twoK, hn]]
  go_enter Tryz.func89, Tryz.ntmps89
  go_wp2_with fail
  go_ret
  exact ⟨rfl, unhide HB⟩
 subst hn
 rw [show (!unuO ⟨1, a, 0, 0, p⟩) = blankQ p by simp [unuO, twoK]]
 go_enter Tryz.func89, Tryz.ntmps89
 go_wp2_with fail
 refine (unhide KB wo).mono ?_
 rintro _ w' ⟨rfl, hb⟩
 have HE := hide ((unhide HB).trans (hb.mono (unhide HB).size))
 clear hb
 go_wp2_with fail
 go_ret
 exact ⟨rfl, unhide HE⟩
set_option maxRecDepth 100000 in
set_option maxHeartbeats 8000000 in
theorem tleaves_2 (a b n : Int) (p : Nq) (w : World) (hx : p.n = p.x.length) (hy : p.m = p.y.length) :
  Calls Tryz.prog 89 #[.agg #[.string (strB (shW 2)), .bool false, .bool false, .bool false, .bool true], opV ⟨2, a, b, n, p⟩] w fun e w' => e = .returned (.bool (!unuO ⟨2, a, b, n, p⟩)) ∧ Below w.heap.size w w' := by
 generalize strB (shW 2) = WW
 obtain ⟨wa, hwa⟩ : ∃ x, w.alloc (.cells #[.string WW, .bool false, .bool false, .bool false, .bool true] 164) = x := ⟨_, rfl⟩
 have bx : BoxP wa w.heap.size [.string WW, .bool false, .bool false, .bool false, .bool true] := by rw [← hwa]; exact BoxP.made _ _ _
 have hba : Below w.heap.size w wa := by rw [← hwa]; exact (Below.refl _ _).alloc (Nat.le_refl _) _
 obtain ⟨wo, hwo⟩ : ∃ x, wa.alloc (.cells #[.int .i64 2, .int .i64 a, .int .i64 b, .int .i64 n, .bool p.g, .slice p.a p.n p.c, .slice p.b p.m p.d] 73) = x := ⟨_, rfl⟩
 have br : BoxP wo wa.heap.size [.int .i64 2, .int .i64 a, .int .i64 b, .int .i64 n, .bool p.g, .slice p.a p.n p.c, .slice p.b p.m p.d] := by rw [← hwo]; exact BoxP.made _ _ _
 have hbo : Below wa.heap.size wa wo := by rw [← hwo]; exact (Below.refl _ _).alloc (Nat.le_refl _) _
 have bx2 := bx.below hbo
 have hB := hba.trans (hbo.mono hba.size)
 have HB := hide hB
 have g1 := (bx2.all 1 _ rfl).1
 have g2 := (bx2.all 2 _ rfl).1
 have g3 := (bx2.all 3 _ rfl).1
 have g4 := (bx2.all 4 _ rfl).1
 have f1 := (br.all 1 _ rfl).1
 have f2 := (br.all 2 _ rfl).1
 have f3 := (br.all 3 _ rfl).1
 have f4 := (br.all 4 _ rfl).1
 have f5 := (br.all 5 _ rfl).1
 have f6 := (br.all 6 _ rfl).1
 have KB := hide (fun (W : World) => tblank_any p W hx hy)
 unfold opV
 clear bx bx2 br hba hbo hB hx hy
 by_cases ha : a = 0
 rotate_left
 ·have ea : (a == 0) = false := by simpa using ha
  rw [show (!unuO ⟨2, a, b, n, p⟩) = false by simp [unuO, twoK, ha]]
  go_enter Tryz.func89, Tryz.ntmps89
  go_wp2_with fail
  go_ret
  exact ⟨rfl, unhide HB⟩
 subst ha
 by_cases hb : b = 0
 rotate_left
 ·have eb : (b == 0) = false := by simpa using hb
  rw [show (!unuO ⟨2, 0, b, n, p⟩) = false by simp [unuO, twoK, hb]]
  go_enter Tryz.func89, Tryz.ntmps89
  go_wp2_with fail
  go_ret
  exact ⟨rfl, unhide HB⟩
 subst hb
 by_cases hn : n = 0
 rotate_left
 ·have en : (n == 0) = false := by simpa using hn
  rw [show (!unuO ⟨2, 0, 0, n, p⟩) = false by simp [unuO, twoK, hn]]
  go_enter Tryz.func89, Tryz.ntmps89
  go_wp2_with fail
  go_ret
  exact ⟨rfl, unhide HB⟩
 subst hn
 rw [show (!unuO ⟨2, 0, 0, 0, p⟩) = true by simp [unuO, twoK]]
 go_enter Tryz.func89, Tryz.ntmps89
 go_wp2_with fail
 go_ret
 exact ⟨rfl, unhide HB⟩
set_option maxRecDepth 100000 in
set_option maxHeartbeats 8000000 in
theorem tleaves_3 (a b n : Int) (p : Nq) (w : World) (hx : p.n = p.x.length) (hy : p.m = p.y.length) :
  Calls Tryz.prog 89 #[.agg #[.string (strB (shW 3)), .bool true, .bool true, .bool false, .bool false], opV ⟨3, a, b, n, p⟩] w fun e w' => e = .returned (.bool (!unuO ⟨3, a, b, n, p⟩)) ∧ Below w.heap.size w w' := by
 generalize strB (shW 3) = WW
 obtain ⟨wa, hwa⟩ : ∃ x, w.alloc (.cells #[.string WW, .bool true, .bool true, .bool false, .bool false] 164) = x := ⟨_, rfl⟩
 have bx : BoxP wa w.heap.size [.string WW, .bool true, .bool true, .bool false, .bool false] := by rw [← hwa]; exact BoxP.made _ _ _
 have hba : Below w.heap.size w wa := by rw [← hwa]; exact (Below.refl _ _).alloc (Nat.le_refl _) _
 obtain ⟨wo, hwo⟩ : ∃ x, wa.alloc (.cells #[.int .i64 3, .int .i64 a, .int .i64 b, .int .i64 n, .bool p.g, .slice p.a p.n p.c, .slice p.b p.m p.d] 73) = x := ⟨_, rfl⟩
 have br : BoxP wo wa.heap.size [.int .i64 3, .int .i64 a, .int .i64 b, .int .i64 n, .bool p.g, .slice p.a p.n p.c, .slice p.b p.m p.d] := by rw [← hwo]; exact BoxP.made _ _ _
 have hbo : Below wa.heap.size wa wo := by rw [← hwo]; exact (Below.refl _ _).alloc (Nat.le_refl _) _
 have bx2 := bx.below hbo
 have hB := hba.trans (hbo.mono hba.size)
 have HB := hide hB
 have g1 := (bx2.all 1 _ rfl).1
 have g2 := (bx2.all 2 _ rfl).1
 have g3 := (bx2.all 3 _ rfl).1
 have g4 := (bx2.all 4 _ rfl).1
 have f1 := (br.all 1 _ rfl).1
 have f2 := (br.all 2 _ rfl).1
 have f3 := (br.all 3 _ rfl).1
 have f4 := (br.all 4 _ rfl).1
 have f5 := (br.all 5 _ rfl).1
 have f6 := (br.all 6 _ rfl).1
 have KB := hide (fun (W : World) => tblank_any p W hx hy)
 unfold opV
 clear bx bx2 br hba hbo hB hx hy
 by_cases hn : n = 0
 rotate_left
 ·have en : (n == 0) = false := by simpa using hn
  rw [show (!unuO ⟨3, a, b, n, p⟩) = false by simp [unuO, twoK, hn]]
  go_enter Tryz.func89, Tryz.ntmps89
  go_wp2_with fail
  go_ret
  exact ⟨rfl, unhide HB⟩
 subst hn
 rw [show (!unuO ⟨3, a, b, 0, p⟩) = blankQ p by simp [unuO, twoK]]
 go_enter Tryz.func89, Tryz.ntmps89
 go_wp2_with fail
 refine (unhide KB wo).mono ?_
 rintro _ w' ⟨rfl, hb⟩
 have HE := hide ((unhide HB).trans (hb.mono (unhide HB).size))
 clear hb
 go_wp2_with fail
 go_ret
 exact ⟨rfl, unhide HE⟩
set_option maxRecDepth 100000 in
set_option maxHeartbeats 8000000 in
theorem tleaves_4 (a b n : Int) (p : Nq) (w : World) (hx : p.n = p.x.length) (hy : p.m = p.y.length) :
  Calls Tryz.prog 89 #[.agg #[.string (strB (shW 4)), .bool true, .bool true, .bool false, .bool false], opV ⟨4, a, b, n, p⟩] w fun e w' => e = .returned (.bool (!unuO ⟨4, a, b, n, p⟩)) ∧ Below w.heap.size w w' := by
 generalize strB (shW 4) = WW
 obtain ⟨wa, hwa⟩ : ∃ x, w.alloc (.cells #[.string WW, .bool true, .bool true, .bool false, .bool false] 164) = x := ⟨_, rfl⟩
 have bx : BoxP wa w.heap.size [.string WW, .bool true, .bool true, .bool false, .bool false] := by rw [← hwa]; exact BoxP.made _ _ _
 have hba : Below w.heap.size w wa := by rw [← hwa]; exact (Below.refl _ _).alloc (Nat.le_refl _) _
 obtain ⟨wo, hwo⟩ : ∃ x, wa.alloc (.cells #[.int .i64 4, .int .i64 a, .int .i64 b, .int .i64 n, .bool p.g, .slice p.a p.n p.c, .slice p.b p.m p.d] 73) = x := ⟨_, rfl⟩
 have br : BoxP wo wa.heap.size [.int .i64 4, .int .i64 a, .int .i64 b, .int .i64 n, .bool p.g, .slice p.a p.n p.c, .slice p.b p.m p.d] := by rw [← hwo]; exact BoxP.made _ _ _
 have hbo : Below wa.heap.size wa wo := by rw [← hwo]; exact (Below.refl _ _).alloc (Nat.le_refl _) _
 have bx2 := bx.below hbo
 have hB := hba.trans (hbo.mono hba.size)
 have HB := hide hB
 have g1 := (bx2.all 1 _ rfl).1
 have g2 := (bx2.all 2 _ rfl).1
 have g3 := (bx2.all 3 _ rfl).1
 have g4 := (bx2.all 4 _ rfl).1
 have f1 := (br.all 1 _ rfl).1
 have f2 := (br.all 2 _ rfl).1
 have f3 := (br.all 3 _ rfl).1
 have f4 := (br.all 4 _ rfl).1
 have f5 := (br.all 5 _ rfl).1
 have f6 := (br.all 6 _ rfl).1
 have KB := hide (fun (W : World) => tblank_any p W hx hy)
 unfold opV
 clear bx bx2 br hba hbo hB hx hy
 by_cases hn : n = 0
 rotate_left
 ·have en : (n == 0) = false := by simpa using hn
  rw [show (!unuO ⟨4, a, b, n, p⟩) = false by simp [unuO, twoK, hn]]
  go_enter Tryz.func89, Tryz.ntmps89
  go_wp2_with fail
  go_ret
  exact ⟨rfl, unhide HB⟩
 subst hn
 rw [show (!unuO ⟨4, a, b, 0, p⟩) = blankQ p by simp [unuO, twoK]]
 go_enter Tryz.func89, Tryz.ntmps89
 go_wp2_with fail
 refine (unhide KB wo).mono ?_
 rintro _ w' ⟨rfl, hb⟩
 have HE := hide ((unhide HB).trans (hb.mono (unhide HB).size))
 clear hb
 go_wp2_with fail
 go_ret
 exact ⟨rfl, unhide HE⟩
set_option maxRecDepth 100000 in
set_option maxHeartbeats 8000000 in
theorem tleaves_5 (a b n : Int) (p : Nq) (w : World) (hx : p.n = p.x.length) (hy : p.m = p.y.length) :
  Calls Tryz.prog 89 #[.agg #[.string (strB (shW 5)), .bool true, .bool true, .bool false, .bool false], opV ⟨5, a, b, n, p⟩] w fun e w' => e = .returned (.bool (!unuO ⟨5, a, b, n, p⟩)) ∧ Below w.heap.size w w' := by
 generalize strB (shW 5) = WW
 obtain ⟨wa, hwa⟩ : ∃ x, w.alloc (.cells #[.string WW, .bool true, .bool true, .bool false, .bool false] 164) = x := ⟨_, rfl⟩
 have bx : BoxP wa w.heap.size [.string WW, .bool true, .bool true, .bool false, .bool false] := by rw [← hwa]; exact BoxP.made _ _ _
 have hba : Below w.heap.size w wa := by rw [← hwa]; exact (Below.refl _ _).alloc (Nat.le_refl _) _
 obtain ⟨wo, hwo⟩ : ∃ x, wa.alloc (.cells #[.int .i64 5, .int .i64 a, .int .i64 b, .int .i64 n, .bool p.g, .slice p.a p.n p.c, .slice p.b p.m p.d] 73) = x := ⟨_, rfl⟩
 have br : BoxP wo wa.heap.size [.int .i64 5, .int .i64 a, .int .i64 b, .int .i64 n, .bool p.g, .slice p.a p.n p.c, .slice p.b p.m p.d] := by rw [← hwo]; exact BoxP.made _ _ _
 have hbo : Below wa.heap.size wa wo := by rw [← hwo]; exact (Below.refl _ _).alloc (Nat.le_refl _) _
 have bx2 := bx.below hbo
 have hB := hba.trans (hbo.mono hba.size)
 have HB := hide hB
 have g1 := (bx2.all 1 _ rfl).1
 have g2 := (bx2.all 2 _ rfl).1
 have g3 := (bx2.all 3 _ rfl).1
 have g4 := (bx2.all 4 _ rfl).1
 have f1 := (br.all 1 _ rfl).1
 have f2 := (br.all 2 _ rfl).1
 have f3 := (br.all 3 _ rfl).1
 have f4 := (br.all 4 _ rfl).1
 have f5 := (br.all 5 _ rfl).1
 have f6 := (br.all 6 _ rfl).1
 have KB := hide (fun (W : World) => tblank_any p W hx hy)
 unfold opV
 clear bx bx2 br hba hbo hB hx hy
 by_cases hn : n = 0
 rotate_left
 ·have en : (n == 0) = false := by simpa using hn
  rw [show (!unuO ⟨5, a, b, n, p⟩) = false by simp [unuO, twoK, hn]]
  go_enter Tryz.func89, Tryz.ntmps89
  go_wp2_with fail
  go_ret
  exact ⟨rfl, unhide HB⟩
 subst hn
 rw [show (!unuO ⟨5, a, b, 0, p⟩) = blankQ p by simp [unuO, twoK]]
 go_enter Tryz.func89, Tryz.ntmps89
 go_wp2_with fail
 refine (unhide KB wo).mono ?_
 rintro _ w' ⟨rfl, hb⟩
 have HE := hide ((unhide HB).trans (hb.mono (unhide HB).size))
 clear hb
 go_wp2_with fail
 go_ret
 exact ⟨rfl, unhide HE⟩
set_option maxRecDepth 100000 in
set_option maxHeartbeats 8000000 in
theorem tleaves_6 (a b n : Int) (p : Nq) (w : World) (hx : p.n = p.x.length) (hy : p.m = p.y.length) :
  Calls Tryz.prog 89 #[.agg #[.string (strB (shW 6)), .bool true, .bool true, .bool false, .bool false], opV ⟨6, a, b, n, p⟩] w fun e w' => e = .returned (.bool (!unuO ⟨6, a, b, n, p⟩)) ∧ Below w.heap.size w w' := by
 generalize strB (shW 6) = WW
 obtain ⟨wa, hwa⟩ : ∃ x, w.alloc (.cells #[.string WW, .bool true, .bool true, .bool false, .bool false] 164) = x := ⟨_, rfl⟩
 have bx : BoxP wa w.heap.size [.string WW, .bool true, .bool true, .bool false, .bool false] := by rw [← hwa]; exact BoxP.made _ _ _
 have hba : Below w.heap.size w wa := by rw [← hwa]; exact (Below.refl _ _).alloc (Nat.le_refl _) _
 obtain ⟨wo, hwo⟩ : ∃ x, wa.alloc (.cells #[.int .i64 6, .int .i64 a, .int .i64 b, .int .i64 n, .bool p.g, .slice p.a p.n p.c, .slice p.b p.m p.d] 73) = x := ⟨_, rfl⟩
 have br : BoxP wo wa.heap.size [.int .i64 6, .int .i64 a, .int .i64 b, .int .i64 n, .bool p.g, .slice p.a p.n p.c, .slice p.b p.m p.d] := by rw [← hwo]; exact BoxP.made _ _ _
 have hbo : Below wa.heap.size wa wo := by rw [← hwo]; exact (Below.refl _ _).alloc (Nat.le_refl _) _
 have bx2 := bx.below hbo
 have hB := hba.trans (hbo.mono hba.size)
 have HB := hide hB
 have g1 := (bx2.all 1 _ rfl).1
 have g2 := (bx2.all 2 _ rfl).1
 have g3 := (bx2.all 3 _ rfl).1
 have g4 := (bx2.all 4 _ rfl).1
 have f1 := (br.all 1 _ rfl).1
 have f2 := (br.all 2 _ rfl).1
 have f3 := (br.all 3 _ rfl).1
 have f4 := (br.all 4 _ rfl).1
 have f5 := (br.all 5 _ rfl).1
 have f6 := (br.all 6 _ rfl).1
 have KB := hide (fun (W : World) => tblank_any p W hx hy)
 unfold opV
 clear bx bx2 br hba hbo hB hx hy
 by_cases hn : n = 0
 rotate_left
 ·have en : (n == 0) = false := by simpa using hn
  rw [show (!unuO ⟨6, a, b, n, p⟩) = false by simp [unuO, twoK, hn]]
  go_enter Tryz.func89, Tryz.ntmps89
  go_wp2_with fail
  go_ret
  exact ⟨rfl, unhide HB⟩
 subst hn
 rw [show (!unuO ⟨6, a, b, 0, p⟩) = blankQ p by simp [unuO, twoK]]
 go_enter Tryz.func89, Tryz.ntmps89
 go_wp2_with fail
 refine (unhide KB wo).mono ?_
 rintro _ w' ⟨rfl, hb⟩
 have HE := hide ((unhide HB).trans (hb.mono (unhide HB).size))
 clear hb
 go_wp2_with fail
 go_ret
 exact ⟨rfl, unhide HE⟩
set_option maxRecDepth 100000 in
set_option maxHeartbeats 8000000 in
theorem tleaves_7 (a b n : Int) (p : Nq) (w : World) (hx : p.n = p.x.length) (hy : p.m = p.y.length) :
  Calls Tryz.prog 89 #[.agg #[.string (strB (shW 7)), .bool true, .bool false, .bool false, .bool false], opV ⟨7, a, b, n, p⟩] w fun e w' => e = .returned (.bool (!unuO ⟨7, a, b, n, p⟩)) ∧ Below w.heap.size w w' := by
 generalize strB (shW 7) = WW
 obtain ⟨wa, hwa⟩ : ∃ x, w.alloc (.cells #[.string WW, .bool true, .bool false, .bool false, .bool false] 164) = x := ⟨_, rfl⟩
 have bx : BoxP wa w.heap.size [.string WW, .bool true, .bool false, .bool false, .bool false] := by rw [← hwa]; exact BoxP.made _ _ _
 have hba : Below w.heap.size w wa := by rw [← hwa]; exact (Below.refl _ _).alloc (Nat.le_refl _) _
 obtain ⟨wo, hwo⟩ : ∃ x, wa.alloc (.cells #[.int .i64 7, .int .i64 a, .int .i64 b, .int .i64 n, .bool p.g, .slice p.a p.n p.c, .slice p.b p.m p.d] 73) = x := ⟨_, rfl⟩
 have br : BoxP wo wa.heap.size [.int .i64 7, .int .i64 a, .int .i64 b, .int .i64 n, .bool p.g, .slice p.a p.n p.c, .slice p.b p.m p.d] := by rw [← hwo]; exact BoxP.made _ _ _
 have hbo : Below wa.heap.size wa wo := by rw [← hwo]; exact (Below.refl _ _).alloc (Nat.le_refl _) _
 have bx2 := bx.below hbo
 have hB := hba.trans (hbo.mono hba.size)
 have HB := hide hB
 have g1 := (bx2.all 1 _ rfl).1
 have g2 := (bx2.all 2 _ rfl).1
 have g3 := (bx2.all 3 _ rfl).1
 have g4 := (bx2.all 4 _ rfl).1
 have f1 := (br.all 1 _ rfl).1
 have f2 := (br.all 2 _ rfl).1
 have f3 := (br.all 3 _ rfl).1
 have f4 := (br.all 4 _ rfl).1
 have f5 := (br.all 5 _ rfl).1
 have f6 := (br.all 6 _ rfl).1
 have KB := hide (fun (W : World) => tblank_any p W hx hy)
 unfold opV
 clear bx bx2 br hba hbo hB hx hy
 by_cases hb : b = 0
 rotate_left
 ·have eb : (b == 0) = false := by simpa using hb
  rw [show (!unuO ⟨7, a, b, n, p⟩) = false by simp [unuO, twoK, hb]]
  go_enter Tryz.func89, Tryz.ntmps89
  go_wp2_with fail
  go_ret
  exact ⟨rfl, unhide HB⟩
 subst hb
 by_cases hn : n = 0
 rotate_left
 ·have en : (n == 0) = false := by simpa using hn
  rw [show (!unuO ⟨7, a, 0, n, p⟩) = false by simp [unuO, twoK, hn]]
  go_enter Tryz.func89, Tryz.ntmps89
  go_wp2_with fail
  go_ret
  exact ⟨rfl, unhide HB⟩
 subst hn
 rw [show (!unuO ⟨7, a, 0, 0, p⟩) = blankQ p by simp [unuO, twoK]]
 go_enter Tryz.func89, Tryz.ntmps89
 go_wp2_with fail
 refine (unhide KB wo).mono ?_
 rintro _ w' ⟨rfl, hb⟩
 have HE := hide ((unhide HB).trans (hb.mono (unhide HB).size))
 clear hb
 go_wp2_with fail
 go_ret
 exact ⟨rfl, unhide HE⟩
set_option maxRecDepth 100000 in
set_option maxHeartbeats 8000000 in
theorem tleaves_8 (a b n : Int) (p : Nq) (w : World) (hx : p.n = p.x.length) (hy : p.m = p.y.length) :
  Calls Tryz.prog 89 #[.agg #[.string (strB (shW 8)), .bool true, .bool false, .bool true, .bool false], opV ⟨8, a, b, n, p⟩] w fun e w' => e = .returned (.bool (!unuO ⟨8, a, b, n, p⟩)) ∧ Below w.heap.size w w' := by
 generalize strB (shW 8) = WW
 obtain ⟨wa, hwa⟩ : ∃ x, w.alloc (.cells #[.string WW, .bool true, .bool false, .bool true, .bool false] 164) = x := ⟨_, rfl⟩
 have bx : BoxP wa w.heap.size [.string WW, .bool true, .bool false, .bool true, .bool false] := by rw [← hwa]; exact BoxP.made _ _ _
 have hba : Below w.heap.size w wa := by rw [← hwa]; exact (Below.refl _ _).alloc (Nat.le_refl _) _
 obtain ⟨wo, hwo⟩ : ∃ x, wa.alloc (.cells #[.int .i64 8, .int .i64 a, .int .i64 b, .int .i64 n, .bool p.g, .slice p.a p.n p.c, .slice p.b p.m p.d] 73) = x := ⟨_, rfl⟩
 have br : BoxP wo wa.heap.size [.int .i64 8, .int .i64 a, .int .i64 b, .int .i64 n, .bool p.g, .slice p.a p.n p.c, .slice p.b p.m p.d] := by rw [← hwo]; exact BoxP.made _ _ _
 have hbo : Below wa.heap.size wa wo := by rw [← hwo]; exact (Below.refl _ _).alloc (Nat.le_refl _) _
 have bx2 := bx.below hbo
 have hB := hba.trans (hbo.mono hba.size)
 have HB := hide hB
 have g1 := (bx2.all 1 _ rfl).1
 have g2 := (bx2.all 2 _ rfl).1
 have g3 := (bx2.all 3 _ rfl).1
 have g4 := (bx2.all 4 _ rfl).1
 have f1 := (br.all 1 _ rfl).1
 have f2 := (br.all 2 _ rfl).1
 have f3 := (br.all 3 _ rfl).1
 have f4 := (br.all 4 _ rfl).1
 have f5 := (br.all 5 _ rfl).1
 have f6 := (br.all 6 _ rfl).1
 have KB := hide (fun (W : World) => tblank_any p W hx hy)
 unfold opV
 clear bx bx2 br hba hbo hB hx hy
 by_cases hb : b = 0
 rotate_left
 ·have eb : (b == 0) = false := by simpa using hb
  rw [show (!unuO ⟨8, a, b, n, p⟩) = false by simp [unuO, twoK, hb]]
  go_enter Tryz.func89, Tryz.ntmps89
  go_wp2_with fail
  go_ret
  exact ⟨rfl, unhide HB⟩
 subst hb
 rw [show (!unuO ⟨8, a, 0, n, p⟩) = blankQ p by simp [unuO, twoK]]
 go_enter Tryz.func89, Tryz.ntmps89
 go_wp2_with fail
 refine (unhide KB wo).mono ?_
 rintro _ w' ⟨rfl, hb⟩
 have HE := hide ((unhide HB).trans (hb.mono (unhide HB).size))
 clear hb
 go_wp2_with fail
 go_ret
 exact ⟨rfl, unhide HE⟩
theorem tleaves_any (o : On) (k : Nat) (hk : o.k = (k : Int)) (h1 : 1 ≤ k) (h8 : k ≤ 8) (w : World) (hx : o.p.n = o.p.x.length) (hy : o.p.m = o.p.y.length) :
  Calls Tryz.prog 89 #[.agg (shV k).toArray, opV o] w fun e w' => e = .returned (.bool (!unuO o)) ∧ Below w.heap.size w w' := by
 obtain ⟨ok, a, b, n, p⟩ := o
 simp only at hk hx hy
 subst hk
 match k, h1, h8 with
 | 1, _, _ => exact tleaves_1 a b n p w hx hy
 | 2, _, _ => exact tleaves_2 a b n p w hx hy
 | 3, _, _ => exact tleaves_3 a b n p w hx hy
 | 4, _, _ => exact tleaves_4 a b n p w hx hy
 | 5, _, _ => exact tleaves_5 a b n p w hx hy
 | 6, _, _ => exact tleaves_6 a b n p w hx hy
 | 7, _, _ => exact tleaves_7 a b n p w hx hy
 | 8, _, _ => exact tleaves_8 a b n p w hx hy
end Go.Proofs.YtbbicappjicblaaGreatDoor
