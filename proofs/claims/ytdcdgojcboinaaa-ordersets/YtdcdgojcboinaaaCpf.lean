/-
  ORDERS: the edges of a graph, and its degeneracy, plain.
-/
import Derived.Test.YtdcdgojcboinaaaCs3
import Derived.Test.YtdcdgojcboinaaaCpd
namespace Go.Proofs.Ytdcdgojcboinaaa
open Go.RowKit Go.Deep
set_option linter.unusedVariables false
section
variable {R : Nat} {st cols : List Int}

def sumN (f : Nat → Nat) : Nat → Nat
  | 0 => 0
  | k + 1 => sumN f k + f k
theorem sumN_le {f g : Nat → Nat} : ∀ k, (∀ i, i < k → f i ≤ g i) → sumN f k ≤ sumN g k
  | 0, _ => Nat.le_refl _
  | k + 1, h => Nat.add_le_add (sumN_le k (fun i hi => h i (by omega))) (h k (by omega))
theorem sumN_add (f g : Nat → Nat) : ∀ k, sumN (fun i => f i + g i) k = sumN f k + sumN g k
  | 0 => rfl
  | k + 1 => by
    simp only [sumN]
    rw [sumN_add f g k]
    omega
theorem sumN_one (a c : Nat) : ∀ k, sumN (fun u => if u = a then c else 0) k = if a < k then c else 0
  | 0 => by simp [sumN]
  | k + 1 => by
    simp only [sumN]
    rw [sumN_one a c k]
    by_cases e : k = a
    · subst e
      simp
    · rw [if_neg e]
      by_cases c1 : a < k
      · rw [if_pos c1, if_pos (by omega)]
        rfl
      · rw [if_neg c1, if_neg (by omega)]
theorem sumN_zero {f : Nat → Nat} : ∀ k, (∀ i, i < k → f i = 0) → sumN f k = 0
  | 0, _ => rfl
  | k + 1, h => by
    simp only [sumN]
    rw [sumN_zero k (fun i hi => h i (by omega)), h k (by omega)]
theorem sumN_const {f : Nat → Nat} {d : Nat} : ∀ k, (∀ i, i < k → f i ≤ d) → sumN f k ≤ d * k
  | 0, _ => Nat.zero_le _
  | k + 1, h => by
    simp only [sumN]
    rw [Nat.mul_add, Nat.mul_one]
    exact Nat.add_le_add (sumN_const k (fun i hi => h i (by omega))) (h k (by omega))
/-- Those of a list that are left, counted among all. -/
theorem sum_lf (g : Nat → Bool) : ∀ l : List Nat, sumN (fun u => if u ∈ l ∧ g u = false then 1 else 0) R ≤ lfN g l
  | [] => by
    rw [sumN_zero R (fun i _ => by simp)]
    exact Nat.zero_le _
  | a :: l => by
    have h1 : sumN (fun u => if u ∈ a :: l ∧ g u = false then 1 else 0) R ≤ sumN (fun u => (if u = a then (if g a = false then 1 else 0) else 0) + (if u ∈ l ∧ g u = false then 1 else 0)) R := sumN_le R (fun u _ => by
      by_cases e : u = a
      · subst e
        cases hu : g u
        · simp
        · simp
      · simp [e])
    rw [sumN_add, sumN_one] at h1
    have h2 := sum_lf g l
    have h3 : lfN g (a :: l) = lfN g l + (if g a = false then 1 else 0) := by
      unfold lfN
      rw [List.countP_cons]
      cases g a <;> rfl
    rw [h3]
    have h4 : (if a < R then (if g a = false then 1 else 0) else 0) ≤ (if g a = false then 1 else 0) := by
      by_cases c : a < R
      · rw [if_pos c]; exact Nat.le_refl _
      · rw [if_neg c]; exact Nat.zero_le _
    omega
/-- What is left of all degrees. -/
def tN (R : Nat) (st cols : List Int) (g : Nat → Bool) : Nat := sumN (fun u => if g u = true then 0 else lfN g (nbL st cols u)) R
theorem tN_step (hm : MayP (R : Int) (R : Int) st cols) (hg : GraP st cols R R) (g : Nat → Bool) {v : Nat} (hv : v < R) (hn : g v = false) : tN R st cols g ≤ tN R st cols (fun u => if u = v then true else g u) + 2 * lfN g (nbL st cols v) := by
  have h1 : tN R st cols g ≤ sumN (fun u => ((if (fun u => if u = v then true else g u) u = true then 0 else lfN (fun u => if u = v then true else g u) (nbL st cols u)) + (if u = v then lfN g (nbL st cols v) else 0)) + (if u ∈ nbL st cols v ∧ g u = false then 1 else 0)) R := sumN_le R (fun u hu => by
    by_cases e : u = v
    · subst e
      simp [hn]
    · cases hgu : g u
      · simp only [e, if_false, hgu]
        have := lfN_upd g v hn (nbL st cols u) (nb_nodup hm hu)
        obtain ⟨z, hz⟩ : ∃ z, lfN (fun u => if u = v then true else g u) (nbL st cols u) = z := ⟨_, rfl⟩
        rw [hz] at this ⊢
        have hs : v ∈ nbL st cols u ↔ u ∈ nbL st cols v := by
          rw [nb_mem hm hu, nb_mem hm hv]
          exact ⟨fun x => hg.2.1 _ _ hv hu x, fun x => hg.2.1 _ _ hu hv x⟩
        by_cases c : u ∈ nbL st cols v
        · rw [if_pos (hs.2 c)] at this
          simp [c]
          omega
        · rw [if_neg (fun x => c (hs.1 x))] at this
          simp [c]
          omega
      · simp [hgu])
  rw [sumN_add, sumN_add, sumN_one, if_pos hv] at h1
  have h2 := sum_lf (R := R) g (nbL st cols v)
  unfold tN at h1 ⊢
  omega
theorem tN_all (hm : MayP (R : Int) (R : Int) st cols) (hg : GraP st cols R R) : ∀ k, k ≤ R → tN R st cols (fun _ => false) ≤ tN R st cols (peS R (nbL st cols) (fun v => (rowL st cols v).length) k).1 + 2 * sumN (peC R (nbL st cols) (fun v => (rowL st cols v).length)) k
  | 0, _ => Nat.le_refl _
  | k + 1, hk => by
    have h1 := tN_all hm hg k (by omega)
    have hS := stp_all hm hg k (by omega)
    have h2 := tN_step hm hg _ hS.lt hS.new
    rw [← hS.is] at h2
    rw [peS_succ]
    show _ ≤ tN R st cols (peG R (nbL st cols) (fun v => (rowL st cols v).length) k) + _
    simp only [sumN]
    unfold peG
    omega
theorem deg_sum (hm : MayP (R : Int) (R : Int) st cols) : ∀ k, k ≤ R → (sumN (fun u => (nbL st cols u).length) k : Int) = st.getD k 0
  | 0, _ => by rw [hm.head.first]; rfl
  | k + 1, hk => by
    obtain ⟨X, Y, hR⟩ := hm.rowAt (k := k) (by omega)
    have hlen : (nbL st cols k).length = Y - X := by
      unfold nbL rowL
      rw [hR.hX, hR.hY, List.length_map, List.length_take, List.length_drop]
      have := hR.lt
      simp
      omega
    have h1 := deg_sum hm k (by omega)
    rw [hR.hX] at h1
    rw [hR.hY]
    simp only [sumN]
    rw [hlen]
    have := hR.le
    omega
/-- Twice the edges. -/
theorem edges_le (hm : MayP (R : Int) (R : Int) st cols) (hg : GraP st cols R R) : cols.length ≤ 2 * dgN R st cols * R := by
  have h1 := tN_all hm hg R (Nat.le_refl _)
  have h2 : tN R st cols (peS R (nbL st cols) (fun v => (rowL st cols v).length) R).1 = 0 := sumN_zero R (fun u hu => by
    obtain ⟨p, hp, e⟩ := pev_surj hm hg u hu
    rw [if_pos (((peW_all hm hg R (Nat.le_refl _)).gone u).2 ⟨p, hp, e⟩)])
  have h3 : sumN (peC R (nbL st cols) (fun v => (rowL st cols v).length)) R ≤ dgN R st cols * R := sumN_const R (fun i hi => moF_ge _ R i hi)
  have h4 := deg_sum hm R (Nat.le_refl _)
  have h5 := hm.head.last
  have h6 : tN R st cols (fun _ => false) = sumN (fun u => (nbL st cols u).length) R := by
    unfold tN
    congr 1
    funext u
    simp [lfN]
  rw [show ((R : Int)).toNat = R by omega] at h5
  rw [Nat.mul_assoc]
  omega
end
end Go.Proofs.Ytdcdgojcboinaaa

namespace Go.Proofs.Ytdcdgojcboinaaa
open Go.Shelf Go.RowKit Go.Deep
set_option linter.unusedVariables false

set_option maxRecDepth 100000 in
set_option maxHeartbeats 8000000 in
/-- cmp.Compare of whole numbers: nothing is laid. -/
theorem ocmp_dr (x y : Int) (w : World) : Calls Try.prog 59 #[.int .i64 x, .int .i64 y] w fun e w' => e = .returned (.int .i64 (cmpI x y)) ∧ Dr w w' := by
  by_cases h1 : x < y
  · have e : cmpI x y = -1 := by unfold cmpI; rw [if_pos h1]
    rw [e]
    clear e
    go_enter Try.func59, Try.ntmps59
    go_wp2_with ((go_at_call 72; refine (nan_int _ _).mono ?_; rintro _ _ ⟨rfl, hw⟩; subst hw))
    try go_ret
    exact ⟨rfl, Dr.refl _⟩
  · by_cases h2 : y < x
    · have e : cmpI x y = 1 := by unfold cmpI; rw [if_neg h1, if_pos h2]
      rw [e]
      clear e
      go_enter Try.func59, Try.ntmps59
      go_wp2_with ((go_at_call 72; refine (nan_int _ _).mono ?_; rintro _ _ ⟨rfl, hw⟩; subst hw))
      try go_ret
      exact ⟨rfl, Dr.refl _⟩
    · have e : cmpI x y = 0 := by unfold cmpI; rw [if_neg h1, if_neg h2]
      rw [e]
      clear e
      go_enter Try.func59, Try.ntmps59
      go_wp2_with ((go_at_call 72; refine (nan_int _ _).mono ?_; rintro _ _ ⟨rfl, hw⟩; subst hw))
      try go_ret
      exact ⟨rfl, Dr.refl _⟩
set_option maxRecDepth 100000 in
set_option maxHeartbeats 8000000 in
/-- byDegree's closure: nothing is laid. -/
theorem obydeg1_dr (u v R g pb : Nat) (f : Nat → Int) (w : World) (hu : u < R) (hv : v < R) (hR : R ≤ 128) (hp : w.cell? ⟨pb, 0, none⟩ = some (.slice (some ⟨g, 0, none⟩) R R)) (hf : RoV w g R (fun i => .int .i64 (f i))) :
    Calls Try.prog 58 #[.int .i64 (u : Int), .int .i64 (v : Int), .pointer (some ⟨pb, 0, none⟩)] w fun e w' => e = .returned (.int .i64 (cmpI (f v) (f u))) ∧ Dr w w' := by
  have hu' : (u : Int) < (R : Int) := by omega
  have hv' : (v : Int) < (R : Int) := by omega
  have cu := (hf u hu).1
  have cv := (hf v hv).1
  obtain ⟨x, hx⟩ : ∃ x, f u = x := ⟨_, rfl⟩
  obtain ⟨y, hy⟩ : ∃ y, f v = y := ⟨_, rfl⟩
  simp only [hx] at cu
  simp only [hy] at cv
  rw [hx, hy]
  have HK := hide (fun W => ocmp_dr y x W)
  clear hf hx hy
  go_enter Try.func58, Try.ntmps58
  go_wp2_with fail
  go_quiet ((go_at_call 59; exact Calls.quiet_of (unhide HK _)))
  go_wp2_with fail
  try go_ret
  exact ⟨rfl, ⟨_, rfl⟩⟩
/-- A vertex below R, as a value. -/
def encF (q : Nat) (x : Fin (q + 1)) : Value := .int .i64 (x.val : Int)
/-- By falling degrees. -/
def cfF (q : Nat) (f : Nat → Int) (u v : Fin (q + 1)) : Int := cmpI (f v.val) (f u.val)
theorem Chg.of_sort {S : Nat → Prop} (q : Nat) (w : World) (m blk off : Nat) (dk : Array (Fin (q + 1))) (os : Array Obj) (hb : S blk) : Chg S w (sortWorld (encF q) w blk off m dk os) := by
  refine ⟨rfl, rfl, rfl, by simp [sortWorld, Sort.grow, Sort.putRow, Sort.mapBlock, Sort.ahead], fun k hk hS => ?_⟩
  have : blk ≠ k := fun e => hS (e ▸ hb)
  simp only [sortWorld, Sort.grow]
  rw [Array.getElem?_append_left (by simp [Sort.ahead]; exact hk)]
  simp [Sort.putRow, Sort.mapBlock, Sort.ahead, Array.getElem?_modify, this]
theorem ocmp_reads (q g pb blk n : Nat) (f : Nat → Int) (w : World) (hR : q + 1 ≤ 128) (hp : w.cell? ⟨pb, 0, none⟩ = some (.slice (some ⟨g, 0, none⟩) (q + 1) (q + 1))) (hf : RoV w g (q + 1) (fun i => .int .i64 (f i))) (h1 : pb ≠ blk) (h2 : g ≠ blk) :
    CmpReads Try.prog 58 #[.pointer (some ⟨pb, 0, none⟩)] (encF q) (cfF q f) blk 0 n w := by
  intro m os dk hs x y
  have hC := Chg.of_sort (S := fun j => j = blk) q w m blk 0 dk os rfl
  refine (obydeg1_dr x.val y.val (q + 1) g pb f _ x.isLt y.isLt hR (hC.cell h1 hp) (hf.chg hC h2)).mono ?_
  rintro e w' ⟨rfl, k, rfl⟩
  exact ⟨rfl, k, rfl⟩
end Go.Proofs.Ytdcdgojcboinaaa

namespace Go.Proofs.Ytdcdgojcboinaaa
open Go.Shelf Go.RowKit Go.Deep
set_option linter.unusedVariables false

/-- What the sort leaves. -/
def SrP (q blk : Nat) (res : Array (Fin (q + 1))) (w w' : World) (e : Ending) : Prop := e = .returned (.tuple #[]) ∧ ∃ n, w' = (Sort.putRow (encF q) w blk 0 res).drewN n
theorem oinsSort_any (q g pb blk : Nat) (f : Nat → Int) (d res : Array (Fin (q + 1))) (w : World) (hR : q + 1 ≤ 20) (hd : d.size = q + 1) (hH : Sort.Holds (encF q) w blk 0 d) (hp : w.cell? ⟨pb, 0, none⟩ = some (.slice (some ⟨g, 0, none⟩) (q + 1) (q + 1))) (hf : RoV w g (q + 1) (fun i => .int .i64 (f i))) (h1 : pb ≠ blk) (h2 : g ≠ blk) (hres : Sort.insertionSort (ltOf (cfF q f)) d 0 (q + 1) = res) :
    Calls Try.prog 75 #[.slice (some ⟨blk, 0, none⟩) (q + 1) (q + 1), .int .i64 0, .int .i64 ((q + 1 : Nat) : Int), .func (.func 58) #[] #[.pointer (some ⟨pb, 0, none⟩)]] w fun e w' => SrP q blk res w w' e := by
  have eg : ∀ args w, (callFunc 58 args).run Try.prog w = .ok (.enter 58 args) w := enters_of Try.func58 (by kernel_rfl) rfl
  have hc := ocmp_reads q g pb blk d.size f w (by omega) hp hf h1 h2
  have K := Any.insertionSortCmpFunc_one shSrt (encF q) (fun _ => rfl) (cfF q f) 58 #[.pointer (some ⟨pb, 0, none⟩)] blk 0 (q + 1) 0 (q + 1) d w eg hc hH (by omega) (by omega) (by omega)
  rw [hres] at K
  simp only [hd] at K
  exact K
set_option maxRecDepth 100000 in
set_option maxHeartbeats 8000000 in
/-- slices.stableCmpFunc of few. -/
theorem ostable_any (q blk pb R : Nat) (res : Array (Fin (q + 1))) (w : World) (hR : R ≤ 19) (K : Calls Try.prog 75 #[.slice (some ⟨blk, 0, none⟩) R R, .int .i64 0, .int .i64 (R : Int), .func (.func 58) #[] #[.pointer (some ⟨pb, 0, none⟩)]] w fun e w' => SrP q blk res w w' e) :
    Calls Try.prog 71 #[.slice (some ⟨blk, 0, none⟩) R R, .int .i64 (R : Int), .func (.func 58) #[] #[.pointer (some ⟨pb, 0, none⟩)]] w fun e w' => SrP q blk res w w' e := by
  have h1 : ¬ (20 : Int) ≤ (R : Int) := by omega
  have h2 : ¬ (20 : Int) < (R : Int) := by omega
  have HK := hide K
  clear K
  go_enter Try.func71, Try.ntmps71
  go_wp2_with fail
  go_loopw [7, 8] (fun av bv wr => av = .int .i64 0 ∧ bv = .int .i64 20 ∧ wr = w) (fun _ _ _ => 0)
  case atStart => exact ⟨rfl, rfl, rfl⟩
  case round =>
    obtain ⟨rfl, rfl, rfl⟩ := hrel
    go_wp2_with fail
    refine (unhide HK).mono ?_
    rintro _ w2 ⟨rfl, hw2⟩
    have HW2 := hide hw2
    clear HK hw2
    go_wp2_with fail
    go_loopw [6] (fun sv wq => sv = .int .i64 20 ∧ wq = w2) (fun _ _ => 0)
    case atStart => exact ⟨rfl, rfl⟩
    case round =>
      obtain ⟨rfl, rfl⟩ := hrel
      go_wp2_with fail
      go_end0
      exact ⟨rfl, unhide HW2⟩
set_option maxRecDepth 100000 in
set_option maxHeartbeats 8000000 in
/-- slices.SortStableFunc of few. -/
theorem osortSt_any (q blk pb R : Nat) (res : Array (Fin (q + 1))) (w : World) (hR : R ≤ 19) (K : Calls Try.prog 75 #[.slice (some ⟨blk, 0, none⟩) R R, .int .i64 0, .int .i64 (R : Int), .func (.func 58) #[] #[.pointer (some ⟨pb, 0, none⟩)]] w fun e w' => SrP q blk res w w' e) :
    Calls Try.prog 57 #[.slice (some ⟨blk, 0, none⟩) R R, .func (.func 58) #[] #[.pointer (some ⟨pb, 0, none⟩)]] w fun e w' => SrP q blk res w w' e := by
  have HK := hide (ostable_any q blk pb R res w hR K)
  clear K
  go_enter Try.func57, Try.ntmps57
  go_wp2_with fail
  refine (unhide HK).mono ?_
  rintro _ w2 ⟨rfl, hw2⟩
  have HW2 := hide hw2
  clear HK hw2
  go_wp2_with fail
  go_end0
  exact ⟨rfl, unhide HW2⟩
end Go.Proofs.Ytdcdgojcboinaaa
