/- Ua0 -/
import Derived.Test.YtbbicappjicblaaGreatDoorTh1
import Derived.Test.YtbbicappjicblaaGreatDoorTe3
import Derived.Test.YtbbicappjicblaaGreatDoorTe4
import Derived.Test.YtbbicappjicblaaGreatDoorTe6
import Derived.Test.YtbbicappjicblaaGreatDoorRv3
namespace Go.Proofs.YtbbicappjicblaaGreatDoor
open Go.RowKit Go.Deep
set_option linter.unusedVariables false
def hgO (f : Nat → Nat → Bool) (o : On) (j : Nat) : Bool := (decide (o.k = 1) && decide (o.a = (j : Int))) || (opsL o).any (fun a => f a.toNat j)
def hgF (os : List On) : Nat → Nat → Nat → Bool
 | 0 => fun _ _ => false
 | k + 1 => fun v j => if v = k then (match os[k]? with | some o => hgO (hgF os k) o j | none => false) else hgF os k v j
theorem hgF_next {os : List On} {k : Nat} {o : On} (h : os[k]? = some o) (v j : Nat) : hgF os (k + 1) v j = if v = k then hgO (hgF os k) o j else hgF os k v j := by
 show (if v = k then (match os[k]? with | some o => hgO (hgF os k) o j | none => false) else hgF os k v j) = _
 rw [h]
theorem hgF_keep (os : List On) (k v j : Nat) (h : v < k) : hgF os (k + 1) v j = hgF os k v j := by
 show (if v = k then _ else hgF os k v j) = _
 rw [if_neg (by omega)]
theorem hgF_stay (os : List On) (v j : Nat) : ∀ m, v < m → ∀ k, m ≤ k → hgF os k v j = hgF os m v j := by
 intro m hm k hk
 induction k with
 | zero => omega
 | succ k ih =>
  by_cases e : m = k + 1
  ·rw [e]
  ·rw [hgF_keep os k v j (by omega)]
   exact ih (by omega)
theorem ops_lt {inp : Int} {os : List On} {ys : List Int} (hk : TpOk inp os ys) {i : Nat} {o : On} (ho : os[i]? = some o) : ∀ v ∈ opsL o, 0 ≤ v ∧ v < i := (op_ok (hk.op i o ho)).2.1
theorem hgF_in {inp : Int} {os : List On} {ys : List Int} (hk : TpOk inp os ys) (j : Nat) : ∀ k v, hgF os k v j = true → (j : Int) < inp
 | 0, v, h => by cases h
 | k + 1, v, h => by
  cases ho : os[k]? with
  | none =>
   have e : hgF os (k + 1) v j = if v = k then false else hgF os k v j := by
    show (if v = k then (match os[k]? with | some o => hgO (hgF os k) o j | none => false) else hgF os k v j) = _
    rw [ho]
   rw [e] at h
   split at h
   ·cases h
   ·exact hgF_in hk j k v h
  | some o =>
   rw [hgF_next ho] at h
   split at h
   ·unfold hgO at h
    rw [Bool.or_eq_true] at h
    rcases h with h | h
    ·simp only [Bool.and_eq_true, decide_eq_true_eq] at h
     have := (op_ok (hk.op k o ho)).2.2.2.1 h.1
     omega
    ·obtain ⟨a, _, ha⟩ := List.any_eq_true.1 h
     exact hgF_in hk j k _ ha
   ·exact hgF_in hk j k v h
def mvP (inp : Nat) (f : Nat → Bool) : Bool := (List.range inp).any f
def mvF (inp : Nat) (os : List On) (k v : Nat) : Bool := mvP inp (hgF os k v)
theorem mvP_true {inp : Nat} {f : Nat → Bool} : mvP inp f = true ↔ ∃ j, j < inp ∧ f j = true := by
 unfold mvP
 rw [List.any_eq_true]
 simp
theorem mvP_false {inp : Nat} {f : Nat → Bool} : mvP inp f = false ↔ ∀ j, j < inp → f j = false := by
 unfold mvP
 rw [List.any_eq_false]
 simp
theorem mvF_keep {inp : Nat} {os : List On} {k v : Nat} (h : v < k) : mvF inp os (k + 1) v = mvF inp os k v := by
 unfold mvF
 rw [show hgF os (k + 1) v = hgF os k v from funext fun j => hgF_keep os k v j h]
theorem mvF_stay {inp : Nat} {os : List On} {v m k : Nat} (h : v < m) (hk : m ≤ k) : mvF inp os k v = mvF inp os m v := by
 unfold mvF
 rw [show hgF os k v = hgF os m v from funext fun j => hgF_stay os v j m h k hk]
theorem mvF_op {inp : Nat} {os : List On} {k : Nat} {o : On} (ho : os[k]? = some o) {a : Int} (ha : a ∈ opsL o) (h : mvF inp os k a.toNat = true) : mvF inp os (k + 1) k = true := by
 obtain ⟨j, hj, hf⟩ := mvP_true.1 h
 refine mvP_true.2 ⟨j, hj, ?_⟩
 rw [hgF_next ho, if_pos rfl]
 unfold hgO
 rw [Bool.or_eq_true]
 exact .inr (List.any_eq_true.2 ⟨a, ha, hf⟩)
theorem mvF_inp {inp : Nat} {os : List On} {k : Nat} {o : On} (ho : os[k]? = some o) (h1 : o.k = 1) (ha : 0 ≤ o.a ∧ o.a < (inp : Int)) : mvF inp os (k + 1) k = true := by
 refine mvP_true.2 ⟨o.a.toNat, by omega, ?_⟩
 rw [hgF_next ho, if_pos rfl]
 unfold hgO
 have e : o.a = ((o.a.toNat : Nat) : Int) := by omega
 simp only [h1, ← e]
 simp
def capI (n : Int) : Int := if 1099511627776 < n then 1099511627776 else n
def dgO (d : Nat → Int) (mv : Nat → Bool) (o : On) : Int :=
 if o.k = 1 then 1 else if o.k = 2 then 0
 else if o.k = 8 then (if o.n = 0 then 0 else if 0 < o.n ∧ d o.a.toNat ≠ -1 then capI (o.n * d o.a.toNat) else if o.n < 0 ∧ mv o.a.toNat = false then 0 else -1)
 else if (opsL o).any (fun a => decide (d a.toNat = -1)) = true then -1
 else if o.k = 3 ∨ o.k = 4 then max (d o.a.toNat) (d o.b.toNat)
 else if o.k = 5 then capI (d o.a.toNat + d o.b.toNat)
 else if o.k = 6 then (if mv o.b.toNat = true then -1 else d o.a.toNat)
 else d o.a.toNat
def dgF (inp : Nat) (os : List On) : Nat → Nat → Int
 | 0 => fun _ => 0
 | k + 1 => fun v => if v = k then (match os[k]? with | some o => dgO (dgF inp os k) (mvF inp os k) o | none => 0) else dgF inp os k v
theorem dgF_next {inp : Nat} {os : List On} {k : Nat} {o : On} (h : os[k]? = some o) (v : Nat) : dgF inp os (k + 1) v = if v = k then dgO (dgF inp os k) (mvF inp os k) o else dgF inp os k v := by
 show (if v = k then (match os[k]? with | some o => dgO (dgF inp os k) (mvF inp os k) o | none => 0) else dgF inp os k v) = _
 rw [h]
theorem dgF_keep (inp : Nat) (os : List On) (k v : Nat) (h : v < k) : dgF inp os (k + 1) v = dgF inp os k v := by
 show (if v = k then _ else dgF inp os k v) = _
 rw [if_neg (by omega)]
theorem capI_rng {n : Int} (h : -1 ≤ n) : -1 ≤ capI n ∧ capI n ≤ 1099511627776 := by
 unfold capI
 split <;> omega
theorem capI_pos {n : Int} (h : 0 ≤ n) : 0 ≤ capI n := by
 unfold capI
 split <;> omega
theorem dgO_rng {d : Nat → Int} {mv : Nat → Bool} {o : On} (hd : ∀ v, -1 ≤ d v ∧ d v ≤ 1099511627776) : -1 ≤ dgO d mv o ∧ dgO d mv o ≤ 1099511627776 := by
 have ha := hd o.a.toNat
 have hb := hd o.b.toNat
 unfold dgO
 split
 ·omega
 ·split
  ·omega
  ·split
   ·split
    ·omega
    ·split
     ·rename_i h
      refine capI_rng ?_
      have : 0 ≤ o.n * d o.a.toNat := Int.mul_nonneg (by omega) (by omega)
      omega
     ·split <;> omega
   ·split
    ·omega
    ·rename_i h
     split
     ·omega
     ·split
      ·rename_i h5
       have hop : opsL o = [o.a, o.b] := by
        unfold opsL twoK
        rw [if_pos (by simp; omega)]
       rw [hop] at h
       simp only [List.any_cons, List.any_nil, Bool.or_false, Bool.or_eq_true, decide_eq_true_eq, not_or] at h
       exact capI_rng (by omega)
      ·split
       ·split <;> omega
       ·exact ha
theorem dgF_rng (inp : Nat) (os : List On) : ∀ k v, -1 ≤ dgF inp os k v ∧ dgF inp os k v ≤ 1099511627776
 | 0, v => by simp [dgF]
 | k + 1, v => by
  have ih := dgF_rng inp os k
  show -1 ≤ (if v = k then (match os[k]? with | some o => dgO (dgF inp os k) (mvF inp os k) o | none => 0) else dgF inp os k v) ∧ (if v = k then (match os[k]? with | some o => dgO (dgF inp os k) (mvF inp os k) o | none => 0) else dgF inp os k v) ≤ 1099511627776
  split
  ·cases os[k]? with
   | none => simp
   | some o => exact dgO_rng ih
  ·exact ih v
theorem dg_free {inp : Nat} {os : List On} {ys : List Int} (hk : TpOk (inp : Int) os ys) : ∀ k v, v < k → k ≤ os.length → mvF inp os k v = false → 0 ≤ dgF inp os k v
 | 0, v, h, _, _ => by omega
 | k + 1, v, h, hl, hm => by
  by_cases e : v = k
  ·subst e
   obtain ⟨o, ho⟩ : ∃ o, os[v]? = some o := ⟨_, List.getElem?_eq_getElem (by omega)⟩
   have hop := op_ok (hk.op v o ho)
   have hlt := ops_lt hk ho
   have fr : ∀ a ∈ opsL o, mvF inp os v a.toNat = false ∧ 0 ≤ dgF inp os v a.toNat := fun a ha => by
    have h1 : mvF inp os v a.toNat = false := by
     cases h2 : mvF inp os v a.toNat with
     | false => rfl
     | true => rw [mvF_op ho ha h2] at hm; cases hm
    have := hlt a ha
    exact ⟨h1, dg_free hk v a.toNat (by omega) (by omega) h1⟩
   rw [dgF_next ho, if_pos rfl]
   have k1 : o.k ≠ 1 := fun e1 => by
    rw [mvF_inp ho e1 (hop.2.2.2.1 e1)] at hm; cases hm
   unfold dgO
   rw [if_neg k1]
   by_cases k2 : o.k = 2
   ·rw [if_pos k2]; omega
   rw [if_neg k2]
   by_cases k8 : o.k = 8
   ·rw [if_pos k8]
    have hA : o.a ∈ opsL o := by
     unfold opsL twoK oneK
     rw [if_neg (by simp; omega), if_pos (by simp; omega)]
     simp
    obtain ⟨f1, f2⟩ := fr _ hA
    by_cases n0 : o.n = 0
    ·rw [if_pos n0]; omega
    rw [if_neg n0]
    by_cases np : 0 < o.n
    ·rw [if_pos ⟨np, by omega⟩]
     exact capI_pos (Int.mul_nonneg (by omega) f2)
    ·rw [if_neg (fun h => np h.1), if_pos ⟨by omega, f1⟩]
     omega
   rw [if_neg k8]
   have hany : (opsL o).any (fun a => decide (dgF inp os v a.toNat = -1)) = false := by
    rw [List.any_eq_false]
    intro a ha
    have := (fr a ha).2
    simp
    omega
   rw [if_neg (by rw [hany]; decide)]
   have hA : o.a ∈ opsL o := by
    unfold opsL twoK oneK
    by_cases t : 3 ≤ o.k ∧ o.k ≤ 6
    ·rw [if_pos (by simp; omega)]; simp
    ·rw [if_neg (by simp; omega), if_pos (by simp; omega)]; simp
   have fA := (fr _ hA).2
   by_cases t : 3 ≤ o.k ∧ o.k ≤ 6
   ·have hB : o.b ∈ opsL o := by
     unfold opsL twoK
     rw [if_pos (by simp; omega)]; simp
    have fB := fr _ hB
    split
    ·omega
    ·split
     ·exact capI_pos (by omega)
     ·split
      ·rw [fB.1]; simp; exact fA
      ·exact fA
   ·rw [if_neg (by omega), if_neg (by omega), if_neg (by omega)]
    exact fA
  ·rw [dgF_keep inp os k v (by omega)]
   rw [mvF_keep (by omega)] at hm
   exact dg_free hk k v (by omega) (by omega) hm
def jnO (mv : Nat → Bool) (o : On) : Bool :=
 if o.k = 5 then mv o.a.toNat && mv o.b.toNat else if o.k = 6 then mv o.b.toNat else if o.k = 8 ∧ o.n ≠ 0 ∧ o.n ≠ 1 then mv o.a.toNat else false
def btF (inp : Nat) (os : List On) : Nat → Nat → Bool
 | 0 => fun _ => false
 | k + 1 => fun v => if v = k then (match os[k]? with | some o => jnO (mvF inp os k) o || (opsL o).any (fun a => btF inp os k a.toNat) | none => false) else btF inp os k v
theorem btF_next {inp : Nat} {os : List On} {k : Nat} {o : On} (h : os[k]? = some o) (v : Nat) : btF inp os (k + 1) v = if v = k then jnO (mvF inp os k) o || (opsL o).any (fun a => btF inp os k a.toNat) else btF inp os k v := by
 show (if v = k then (match os[k]? with | some o => jnO (mvF inp os k) o || (opsL o).any (fun a => btF inp os k a.toNat) | none => false) else btF inp os k v) = _
 rw [h]
theorem btF_stay (inp : Nat) (os : List On) (v : Nat) : ∀ m, v < m → ∀ k, m ≤ k → btF inp os k v = btF inp os m v := by
 intro m hm k hk
 induction k with
 | zero => omega
 | succ k ih =>
  by_cases e : m = k + 1
  ·rw [e]
  ·have : btF inp os (k + 1) v = btF inp os k v := by
    show (if v = k then _ else btF inp os k v) = _
    rw [if_neg (by omega)]
   rw [this]
   exact ih (by omega)
theorem lv_next (os : List On) (ys : List Int) (k : Nat) : lvL os ys (k + 1) = lvL os ys k ∨ ∃ o, os[os.length - 1 - k]? = some o ∧ mkB (lvL os ys k) (os.length - 1 - k) = true ∧ lvL os ys (k + 1) = lvL os ys k ++ opsL o := by
 cases ho : os[os.length - 1 - k]? with
 | none =>
  left
  show (match os[os.length - 1 - k]? with | some o => _ | none => _) = _
  rw [ho]
 | some o =>
  cases hm : mkB (lvL os ys k) (os.length - 1 - k) with
  | true => exact .inr ⟨o, rfl, rfl, lvL_yes rfl rfl ho hm⟩
  | false => exact .inl (lvL_no rfl rfl ho hm)
theorem lv_mono {os : List On} {ys : List Int} {x : Int} {k m : Nat} (h : k ≤ m) (hx : x ∈ lvL os ys k) : x ∈ lvL os ys m := by
 induction m with
 | zero =>
  obtain rfl : k = 0 := by omega
  exact hx
 | succ m ih =>
  by_cases e : k = m + 1
  ·rw [← e]; exact hx
  ·have := ih (by omega)
   rcases lv_next os ys m with h1 | ⟨o, _, _, h1⟩
   ·rw [h1]; exact this
   ·rw [h1]; exact List.mem_append_left _ this
theorem lv_back {inp : Int} {os : List On} {zs ys : List Int} (hk : TpOk inp os zs) (v : Nat) (hv : v < os.length) : ∀ k, os.length - 1 - v ≤ k → (v : Int) ∈ lvL os ys k → (v : Int) ∈ lvL os ys (os.length - 1 - v) := by
 intro k
 induction k with
 | zero => intro h hx; rw [show os.length - 1 - v = 0 by omega]; exact hx
 | succ k ih =>
  intro h hx
  by_cases e : os.length - 1 - v = k + 1
  ·rw [e]; exact hx
  ·refine ih (by omega) ?_
   rcases lv_next os ys k with h1 | ⟨o, ho, _, h1⟩
   ·rw [← h1]; exact hx
   ·rw [h1] at hx
    rcases List.mem_append.1 hx with hx | hx
    ·exact hx
    ·have := ops_lt hk ho _ hx
     omega
theorem lv_closed {inp : Int} {os : List On} {zs ys : List Int} (hk : TpOk inp os zs) {v : Nat} {o : On} (ho : os[v]? = some o) (h : (v : Int) ∈ lvL os ys os.length) : ∀ a ∈ opsL o, a ∈ lvL os ys os.length := by
 have hv := (List.getElem?_eq_some_iff.1 ho).1
 have h1 := lv_back hk v hv os.length (by omega) h
 intro a ha
 refine lv_mono (k := os.length - 1 - v + 1) (by omega) ?_
 have e : os.length - 1 - (os.length - 1 - v) = v := by omega
 rcases lv_next os ys (os.length - 1 - v) with h2 | ⟨q, hq, hm, h2⟩
 ·have hm : mkB (lvL os ys (os.length - 1 - v)) (os.length - 1 - (os.length - 1 - v)) = true := by
   rw [e]; unfold mkB; simpa using h1
  rw [lvL_yes rfl rfl (by rw [e]; exact ho) hm]
  exact List.mem_append_right _ ha
 ·rw [e, ho] at hq
  cases hq
  rw [h2]
  exact List.mem_append_right _ ha
theorem jnO_stay {inp : Nat} {os : List On} {zs : List Int} (hk : TpOk (inp : Int) os zs) {v : Nat} {o : On} (ho : os[v]? = some o) : jnO (mvF inp os os.length) o = jnO (mvF inp os v) o := by
 have hv := (List.getElem?_eq_some_iff.1 ho).1
 have hlt := ops_lt hk ho
 have key : ∀ a ∈ opsL o, mvF inp os os.length a.toNat = mvF inp os v a.toNat := fun a ha => by
  have := hlt a ha
  exact mvF_stay (by omega) (by omega)
 unfold jnO
 by_cases k5 : o.k = 5
 ·rw [if_pos k5, if_pos k5]
  have e : opsL o = [o.a, o.b] := by unfold opsL twoK; rw [if_pos (by simp; omega)]
  rw [key o.a (by rw [e]; simp), key o.b (by rw [e]; simp)]
 rw [if_neg k5, if_neg k5]
 by_cases k6 : o.k = 6
 ·rw [if_pos k6, if_pos k6]
  have e : opsL o = [o.a, o.b] := by unfold opsL twoK; rw [if_pos (by simp; omega)]
  rw [key o.b (by rw [e]; simp)]
 rw [if_neg k6, if_neg k6]
 by_cases k8 : o.k = 8
 ·have e : opsL o = [o.a] := by unfold opsL twoK oneK; rw [if_neg (by simp; omega), if_pos (by simp; omega)]
  rw [key o.a (by rw [e]; simp)]
 ·rw [if_neg (fun h => k8 h.1), if_neg (fun h => k8 h.1)]
theorem bt_of_lv {inp : Nat} {os : List On} {zs ys : List Int} (hk : TpOk (inp : Int) os zs) (h : ∀ (v : Nat) (o : On), os[v]? = some o → (v : Int) ∈ lvL os ys os.length → jnO (mvF inp os os.length) o = false) : ∀ (m v : Nat), v < m → v < os.length → (v : Int) ∈ lvL os ys os.length → btF inp os os.length v = false := by
 intro m
 induction m with
 | zero => intro v hv; omega
 | succ m ih =>
  intro v hm hv hl
  obtain ⟨o, ho⟩ : ∃ o, os[v]? = some o := ⟨_, List.getElem?_eq_getElem hv⟩
  rw [btF_stay inp os v (v + 1) (by omega) os.length (by omega), btF_next ho, if_pos rfl]
  have h1 := h v o ho hl
  rw [jnO_stay hk ho] at h1
  rw [h1, Bool.false_or, List.any_eq_false]
  intro a ha
  have hlt := ops_lt hk ho a ha
  have h2 := lv_closed hk ho hl a ha
  have e : ((a.toNat : Nat) : Int) = a := by omega
  have h3 := ih a.toNat (by omega) (by omega) (by rw [e]; exact h2)
  rw [btF_stay inp os a.toNat v (by omega) os.length (by omega)] at h3
  rw [h3]
  decide
theorem lv_of_bt {inp : Nat} {os : List On} {zs ys : List Int} (hk : TpOk (inp : Int) os zs) (hb : ∀ y ∈ ys, btF inp os os.length y.toNat = false) : ∀ k, ∀ x ∈ lvL os ys k, btF inp os os.length x.toNat = false := by
 intro k
 induction k with
 | zero => exact hb
 | succ k ih =>
  intro x hx
  rcases lv_next os ys k with h1 | ⟨o, ho, hm, h1⟩
  ·rw [h1] at hx; exact ih x hx
  ·rw [h1] at hx
   rcases List.mem_append.1 hx with hx | hx
   ·exact ih x hx
   ·obtain ⟨j, hj⟩ : ∃ j, os.length - 1 - k = j := ⟨_, rfl⟩
    rw [hj] at ho hm
    have hjl := (List.getElem?_eq_some_iff.1 ho).1
    have h2 := ih (j : Int) (by unfold mkB at hm; simpa using hm)
    rw [Int.toNat_natCast, btF_stay inp os j (j + 1) (by omega) os.length (by omega), btF_next ho, if_pos rfl, Bool.or_eq_false_iff] at h2
    have h3 := List.any_eq_false.1 h2.2 x hx
    have hlt := ops_lt hk ho x hx
    rw [btF_stay inp os x.toNat j (by omega) os.length (by omega)]
    simpa using h3
theorem jn_of_bt {inp : Nat} {os : List On} {zs : List Int} (hk : TpOk (inp : Int) os zs) {v : Nat} {o : On} (ho : os[v]? = some o) (hb : btF inp os os.length v = false) : jnO (mvF inp os os.length) o = false := by
 have hv := (List.getElem?_eq_some_iff.1 ho).1
 rw [btF_stay inp os v (v + 1) (by omega) os.length (by omega), btF_next ho, if_pos rfl, Bool.or_eq_false_iff] at hb
 rw [jnO_stay hk ho]
 exact hb.1
theorem bt_live {inp : Nat} {os : List On} {zs : List Int} (hk : TpOk (inp : Int) os zs) {y : Nat} (hy : y < os.length) : btF inp os os.length y = false ↔ ∀ (v : Nat) (o : On), os[v]? = some o → mkB (lvL os [(y : Int)] os.length) v = true → jnO (mvF inp os os.length) o = false := by
 constructor
 ·intro hb v o ho hm
  have h := lv_of_bt (ys := [(y : Int)]) hk (fun z hz => by simp at hz; subst hz; simpa using hb) os.length (v : Int) (by unfold mkB at hm; simpa using hm)
  exact jn_of_bt hk ho (by simpa using h)
 ·intro h
  exact bt_of_lv (ys := [(y : Int)]) hk (fun v o ho hl => h v o ho (by unfold mkB; simpa using hl)) (y + 1) y (by omega) hy (lv_mono (k := 0) (Nat.zero_le _) (by simp [lvL]))
structure HgT (w : World) (h : Option Addr) (inp n : Nat) (f : Nat → Nat → Bool) : Prop where
 row : ∀ j, j < inp → ∃ H g, h = some ⟨H, 0, none⟩ ∧ w.cell? ⟨H, j, none⟩ = some (.slice (some ⟨g, 0, none⟩) n n) ∧ RoV w g n (fun v => .bool (f v j))
theorem HgT.below {w w' : World} {h : Option Addr} {inp n : Nat} {f : Nat → Nat → Bool} (hh : HgT w h inp n f) (k : Below w.heap.size w w') : HgT w' h inp n f := ⟨fun j hj => by
 obtain ⟨H, g, e, hc, hr⟩ := hh.row j hj
 exact ⟨H, g, e, (k.cell (World.block_lt_of_cell? _ _ hc)).trans hc, hr.below k⟩⟩
set_option maxRecDepth 100000 in
set_option maxHeartbeats 8000000 in
theorem wfree_any (h : Option Addr) (inp n c v : Nat) (f : Nat → Nat → Bool) (w : World) (hh : HgT w h inp n f) (hv : v < n) (hi : inp ≤ 64) :
  Calls Tryz.prog 41 #[.slice h inp c, .int .i64 (v : Int)] w fun e w' => e = .returned (.bool (!mvP inp (f v))) ∧ w' = w := by
 have HH := hide hh
 obtain ⟨R, hR⟩ : ∃ R, (!mvP inp (f v)) = R := ⟨_, rfl⟩
 rw [hR]
 have HR := hide hR
 clear hh hR
 go_enter Tryz.func41, Tryz.ntmps41
 go_wp2_with fail
 go_loopw [5] (fun iv wr => ∃ j : Nat, j ≤ inp ∧ iv = .int .i64 (j : Int) ∧ wr = w ∧ Hid (∀ x, x < j → f v x = false)) (fun iv _ => inp - (intOf iv).toNat)
 case atStart => exact ⟨0, Nat.zero_le _, rfl, rfl, hide (fun x hx => by omega)⟩
 case round =>
  obtain ⟨j, hj, rfl, rfl, HF⟩ := hrel
  by_cases hlt : j < inp
  ·have hlt' : (j : Int) < (inp : Int) := by omega
   obtain ⟨H, g, rfl, hc, hr⟩ := (unhide HH).row j hlt
   have hb : wr.cell? ⟨g, v, none⟩ = some (.bool (f v j)) := (hr v hv).1
   have hvn : (v : Int) < (n : Int) := by omega
   cases hf : f v j
   ·rw [hf] at hb
    have HF2 := hide (show ∀ x, x < j + 1 → f v x = false from fun x hx => by
     by_cases e : x = j
     ·rw [e]; exact hf
     ·exact unhide HF x (by omega))
    clear hr hf
    go_wp2_with fail
    exact ⟨⟨j + 1, by omega, by (first | rfl | go_num), by (first | rfl | trivial), HF2⟩, by simp [intOf]; omega⟩
   ·rw [hf] at hb
    have HA := hide (show R = false from by rw [← unhide HR, mvP_true.2 ⟨j, hlt, hf⟩]; rfl)
    clear hr hf
    go_wp2_with fail
    try go_ret
    exact ⟨by rw [unhide HA]; rfl, rfl⟩
  ·obtain rfl : j = inp := by omega
   have hlt' : ¬ (j : Int) < (j : Int) := by omega
   have HA := hide (show R = true from by rw [← unhide HR, mvP_false.2 (unhide HF)]; rfl)
   go_wp2_with fail
   try go_ret
   exact ⟨by rw [unhide HA]; rfl, rfl⟩
set_option maxHeartbeats 8000000 in
theorem wcapped_any (x : Int) (w : World) : Calls Tryz.prog 59 #[.int .i64 x] w fun e w' => e = .returned (.int .i64 (capI x)) ∧ w' = w := by
 by_cases h : 1099511627776 < x
 ·have HE := hide (show capI x = 1099511627776 from by unfold capI; rw [if_pos h])
  go_enter Tryz.func59, Tryz.ntmps59
  go_wp2_with fail
  try go_ret
  exact ⟨by rw [unhide HE]; rfl, rfl⟩
 ·have HE := hide (show capI x = x from by unfold capI; rw [if_neg h])
  go_enter Tryz.func59, Tryz.ntmps59
  go_wp2_with fail
  try go_ret
  exact ⟨by rw [unhide HE]; rfl, rfl⟩
def bnO (o : On) (p q : Nat) : Bool := if o.k = 5 then decide (p ≠ q) else if o.k = 6 then decide (p = 1) || decide (q = 1) else if o.k = 8 then decide (o.n ≠ 0) && decide (o.n ≠ 1) else false
set_option maxHeartbeats 16000000 in
set_option maxRecDepth 100000 in
theorem wholeO_any (w : World) (B : Nat) (a14 a15 : Option Addr) (c14 c15 m : Nat) (ts : List Tn) (hm : ts.length = m) (hm2 : m ≤ 2 ^ 63 - 1)
  {a12 : Option Addr} {c12 : Nat} (h12 : w.cell? ⟨B, 12, none⟩ = some (.slice a12 0 c12)) (h14 : w.cell? ⟨B, 14, none⟩ = some (.slice a14 m c14)) (h15 : w.cell? ⟨B, 15, none⟩ = some (.slice a15 m c15)) {a16 : Option Addr} {c16 : Nat} (h16 : w.cell? ⟨B, 16, none⟩ = some (.slice a16 0 c16)) (h18 : w.cell? ⟨B, 18, none⟩ = some (.slice none 0 0))
  (hr : ∀ k (h : k < ts.length), ∃ g0 g1, a14 = some ⟨g0, 0, none⟩ ∧ a15 = some ⟨g1, 0, none⟩ ∧ w.cell? ⟨g0, k, none⟩ = some ts[k].v ∧ w.cell? ⟨g1, k, none⟩ = some ts[k].v0)
  (hts : ∀ t ∈ ts, SlO w (some ⟨Tn.b t, 0, none⟩) t.os.length t.c t.os ∧ SlO w (some ⟨t.b0, 0, none⟩) t.os0.length t.c0 t.os0 ∧ t.os.map conO = t.os0.map conO ∧ t.os.length ≤ 140737488355328) :
  Calls Tryz.prog 34 #[.pointer (some ⟨B, 0, none⟩)] w fun e w' => e = .returned (.bool true) ∧ Below w.heap.size w w' := by
 have HR := hide hr
 have HT := hide hts
 clear hr hts
 go_enter Tryz.func34, Tryz.ntmps34
 go_wp2
 go_loop [3] (fun i => i = .int .i64 0) (fun i => (intOf i).toNat)
 case atStart => rfl
 case round =>
  subst hrel
  go_wp2
  go_loopw [4] (fun i wr => ∃ k : Nat, k ≤ m ∧ i = .int .i64 k ∧ Hid (Below w.heap.size w wr)) (fun i _ => m - (intOf i).toNat)
  case atStart => exact ⟨0, Nat.zero_le _, rfl, Below.refl _ _⟩
  case round =>
   obtain ⟨k, hk, rfl, HB⟩ := hrel
   have r14 := ((unhide HB).cell (p := ⟨B, 14, none⟩) (World.block_lt_of_cell? _ _ h14)).trans h14
   have r15 := ((unhide HB).cell (p := ⟨B, 15, none⟩) (World.block_lt_of_cell? _ _ h15)).trans h15
   by_cases hlt : k < m
   ·have hlt' : (k:Int) < (m:Int) := by omega
    obtain ⟨g0, g1, rfl, rfl, g0', g1'⟩ := unhide HR k (by omega)
    have HE := hide (unhide HT ts[k] (List.getElem_mem (by omega)))
    generalize ts[k] = Q at g0' g1' HE
    unfold Tn.v at g0'
    unfold Tn.v0 at g1'
    have hle : Q.os.length = Q.os0.length := by have := congrArg List.length (unhide HE).2.2.1; simpa using this
    rw [← hle] at g1'
    have s0 := ((unhide HB).cell (p := ⟨g0, k, none⟩) (World.block_lt_of_cell? _ _ g0')).trans g0'
    have s1 := ((unhide HB).cell (p := ⟨g1, k, none⟩) (World.block_lt_of_cell? _ _ g1')).trans g1'
    have K := hide (fun (W : World) (hb : Below wr.heap.size wr W) => sameTape_con 0 (some ⟨Q.b, 0, none⟩) Q.os.length Q.c Q.os none 0 0 (some ⟨Q.b0, 0, none⟩) Q.c0 Q.os0 none 0 [] W (((unhide HE).1.below (unhide HB)).below hb) (SlI.nil _) (by have h3 := (((unhide HE).2.1.below (unhide HB)).below hb); rw [← hle] at h3; exact h3) (SlI.nil _) (unhide HE).2.2.2 (by omega) (unhide HE).2.2.1)
    have Fr8 := fun x : Ext wr => x.cell r14
    have Fr9 := fun x : Ext wr => x.cell r15
    have Fs8 := fun x : Ext wr => x.cell s0
    have Fs9 := fun x : Ext wr => x.cell s1
    have hNE := Ext.ne wr
    clear HE hle g0' g1'
    unfold tapV at K
    go_wp2_with fail
    refine wp_region_ext (by kernel_rfl) (by kernel_rfl) ?_
    repeat (go_big_quiet_step (first | (go_at_call 55; rename_i x; exact Ext.call (unhide K x.w x.bel) (fun e w' h => h))))
    refine wpQuiet_nil ?_
    rintro _ ⟨xE, rfl⟩
    have HBE := hide ((unhide HB).trans (xE.bel.mono (unhide HB).size))
    clear Fr8 Fr9 Fs8 Fs9 hNE
    go_wp2_with fail
    exact ⟨⟨k + 1, by omega, by go_num, unhide HBE⟩, by simp [intOf]; omega⟩
   ·have r16 := ((unhide HB).cell (p := ⟨B, 16, none⟩) (World.block_lt_of_cell? _ _ h16)).trans h16
    have r18 := ((unhide HB).cell (p := ⟨B, 18, none⟩) (World.block_lt_of_cell? _ _ h18)).trans h18
    go_wp2_with fail
    go_loopw [5] (fun i wr' => i = .int .i64 0 ∧ wr' = wr) (fun i _ => (intOf i).toNat)
    case atStart => exact ⟨rfl, rfl⟩
    case round =>
     obtain ⟨rfl, rfl⟩ := hrel
     go_wp2_with fail
     go_loopw [9] (fun i wr' => i = .int .i64 0 ∧ wr' = wr) (fun i _ => (intOf i).toNat)
     case atStart => exact ⟨rfl, rfl⟩
     case round =>
      obtain ⟨rfl, rfl⟩ := hrel
      go_wp2_with fail
      go_ret
      exact ⟨rfl, unhide HB⟩
set_option maxHeartbeats 16000000 in
set_option maxRecDepth 100000 in
theorem intactO_all (w : World) (B : Nat) (a0 a1 a14 a15 : Option Addr) (c0 c1 c14 c15 m mq : Nat) (es : List Ent) (ts : List Tn) (a4 a5 : Option Addr) (c4 c5 mi : Nat) (is : List EntI) (hmi : is.length = mi) (hi2 : mi ≤ maxLen) (hm : es.length = m) (hmq : ts.length = mq) (hm2 : m ≤ maxLen) (hq2 : mq ≤ maxLen)
  (h0 : w.cell? ⟨B, 0, none⟩ = some (.slice a0 m c0)) (h1 : w.cell? ⟨B, 1, none⟩ = some (.slice a1 m c1)) (h14 : w.cell? ⟨B, 14, none⟩ = some (.slice a14 mq c14)) (h15 : w.cell? ⟨B, 15, none⟩ = some (.slice a15 mq c15))
  (hr0 : ∀ k (h : k < es.length), ∃ g0 g1, a0 = some ⟨g0, 0, none⟩ ∧ a1 = some ⟨g1, 0, none⟩ ∧ w.cell? ⟨g0, k, none⟩ = some es[k].v ∧ w.cell? ⟨g1, k, none⟩ = some es[k].v0)
  (hr14 : ∀ k (h : k < ts.length), ∃ g0 g1, a14 = some ⟨g0, 0, none⟩ ∧ a15 = some ⟨g1, 0, none⟩ ∧ w.cell? ⟨g0, k, none⟩ = some ts[k].v ∧ w.cell? ⟨g1, k, none⟩ = some ts[k].v0)
  (hes : ∀ e ∈ es, Sl w (some ⟨Ent.b e, 0, none⟩) (e.xs.length + 3) e.c (e.xs ++ marks) ∧ Sl w (some ⟨e.b0, 0, none⟩) (e.xs.length + 3) e.c0 (e.xs ++ marks))
  (hts : ∀ t ∈ ts, SlO w (some ⟨Tn.b t, 0, none⟩) t.os.length t.c t.os ∧ SlO w (some ⟨t.b0, 0, none⟩) t.os0.length t.c0 t.os0 ∧ t.os.map conO = t.os0.map conO ∧ t.os.length ≤ 140737488355328)
  {a2 : Option Addr} {c2 : Nat} (h2 : w.cell? ⟨B, 2, none⟩ = some (.slice a2 0 c2)) (h4 : w.cell? ⟨B, 4, none⟩ = some (.slice a4 mi c4)) (h5 : w.cell? ⟨B, 5, none⟩ = some (.slice a5 mi c5))
  (hr4 : ∀ k (h : k < is.length), ∃ g0 g1, a4 = some ⟨g0, 0, none⟩ ∧ a5 = some ⟨g1, 0, none⟩ ∧ w.cell? ⟨g0, k, none⟩ = some is[k].v ∧ w.cell? ⟨g1, k, none⟩ = some is[k].v0)
  (his : ∀ e ∈ is, SlI w (some ⟨EntI.b e, 0, none⟩) (e.xs.length + 3) e.c (e.xs ++ marksI) ∧ SlI w (some ⟨e.b0, 0, none⟩) (e.xs.length + 3) e.c0 (e.xs ++ marksI) ∧ e.xs.length ≤ 17592186044000)
  {a6 : Option Addr} {c6 : Nat} (h6 : w.cell? ⟨B, 6, none⟩ = some (.slice a6 0 c6)) {a10 : Option Addr} {c10 : Nat} (h10 : w.cell? ⟨B, 10, none⟩ = some (.slice a10 0 c10)) {a12 : Option Addr} {c12 : Nat} (h12 : w.cell? ⟨B, 12, none⟩ = some (.slice a12 0 c12)) {a8 : Option Addr} {c8 : Nat} (h8 : w.cell? ⟨B, 8, none⟩ = some (.slice a8 0 c8)) {a16 : Option Addr} {c16 : Nat} (h16 : w.cell? ⟨B, 16, none⟩ = some (.slice a16 0 c16)) (h18 : w.cell? ⟨B, 18, none⟩ = some (.slice none 0 0)) :
  Calls Tryz.prog 12 #[.pointer (some ⟨B, 0, none⟩)] w fun e w' => e = .returned (.bool true) ∧ Below w.heap.size w w' := by
 unfold maxLen at hm2 hq2 hi2
 have HR4 := hide hr4
 have HIS := hide his
 clear hr4 his
 have HR0 := hide hr0
 have HR14 := hide hr14
 have HES := hide hes
 have HTS := hide hts
 clear hr0 hr14 hes hts
 go_enter Tryz.func12, Tryz.ntmps12
 go_wp2
 go_loopw [3] (fun i wr => ∃ k : Nat, k ≤ m ∧ i = .int .i64 k ∧ ∃ d, wr = w.drewN d) (fun i _ => m - (intOf i).toNat)
 case atStart => exact ⟨0, Nat.zero_le _, rfl, 0, rfl⟩
 case round =>
  obtain ⟨k, hk, rfl, d, rfl⟩ := hrel
  by_cases hlt : k < m
  ·have hlt' : (k:Int) < (m:Int) := by omega
   obtain ⟨g0, g1, rfl, rfl, g0', g1'⟩ := unhide HR0 k (by omega)
   have HE := hide (unhide HES es[k] (List.getElem_mem (by omega)))
   generalize es[k] = E at g0' g1' HE
   unfold Ent.v at g0'
   unfold Ent.v0 at g1'
   have K := fun j => (sameNat_any _ _ _ _ _ _ _ _ (w.drewN j) ((unhide HE).1.drewN j) ((unhide HE).2.drewN j))
   rw [show decide (E.xs ++ marks = E.xs ++ marks) = true from by simp] at K
   have KK := hide K
   clear K HE
   go_wp2_with fail
   go_quiet ((go_at_call 29; exact quiet_at (unhide KK _)))
   go_wp2
   exact ⟨⟨k + 1, by omega, by go_num, _, rfl⟩, by simp [intOf]; omega⟩
  ·go_wp2_with fail
   go_loopw [4] (fun i wr => i = .int .i64 0 ∧ ∃ d, wr = w.drewN d) (fun i _ => (intOf i).toNat)
   case atStart => exact ⟨rfl, _, rfl⟩
   case round =>
    obtain ⟨rfl, d, rfl⟩ := hrel
    go_wp2_with fail
    go_loopw [5] (fun i wr => ∃ k : Nat, k ≤ mi ∧ i = .int .i64 k ∧ ∃ d, wr = w.drewN d) (fun i _ => mi - (intOf i).toNat)
    case atStart => exact ⟨0, Nat.zero_le _, rfl, _, rfl⟩
    case round =>
     obtain ⟨k, hk, rfl, d, rfl⟩ := hrel
     by_cases hlt : k < mi
     ·have hlt' : (k:Int) < (mi:Int) := by omega
      obtain ⟨g0, g1, rfl, rfl, g0', g1'⟩ := unhide HR4 k (by omega)
      have HE := hide (unhide HIS is[k] (List.getElem_mem (by omega)))
      generalize is[k] = E at g0' g1' HE
      unfold EntI.v at g0'
      unfold EntI.v0 at g1'
      have KK := hide (fun j => (sameInts_eq _ _ _ _ _ _ (w.drewN j) ((unhide HE).1.below (bel_drewN (Below.refl _ _) j)) ((unhide HE).2.1.below (bel_drewN (Below.refl _ _) j)) (by have := (unhide HE).2.2; omega)))
      clear HE
      go_wp2_with fail
      go_quiet ((go_at_call 17; exact quiet_at (unhide KK _)))
      go_wp2
      exact ⟨⟨k + 1, by omega, by go_num, _, rfl⟩, by simp [intOf]; omega⟩
     ·go_wp2_with fail
      go_loopw [6] (fun i wr => i = .int .i64 0 ∧ ∃ d, wr = w.drewN d) (fun i _ => (intOf i).toNat)
      case atStart => exact ⟨rfl, _, rfl⟩
      case round =>
       obtain ⟨rfl, d, rfl⟩ := hrel
       go_wp2_with fail
       go_loopw [7] (fun i wr => i = .int .i64 0 ∧ ∃ d, wr = w.drewN d) (fun i _ => (intOf i).toNat)
       case atStart => exact ⟨rfl, _, rfl⟩
       case round =>
        obtain ⟨rfl, d, rfl⟩ := hrel
        go_wp2_with fail
        go_loopw [8] (fun i wr => i = .int .i64 0 ∧ ∃ d, wr = w.drewN d) (fun i _ => (intOf i).toNat)
        case atStart => exact ⟨rfl, _, rfl⟩
        case round =>
         obtain ⟨rfl, d, rfl⟩ := hrel
         have HB : Below w.heap.size w (w.drewN d) := bel_drewN (Below.refl _ _) d
         have K := wholeO_any (w.drewN d) B a14 a15 c14 c15 mq ts hmq hq2 (by simpa using h12) (by simpa using h14) (by simpa using h15) (by simpa using h16) (by simpa using h18) (fun k hk => by simpa using unhide HR14 k hk) (fun t ht => by
          have T := unhide HTS t ht
          exact ⟨T.1.below HB, T.2.1.below HB, T.2.2⟩)
         have HK := hide K
         have HB' := hide HB
         clear K HB
         go_wp2_with fail
         refine (unhide HK).mono ?_
         rintro e w' ⟨rfl, hb⟩
         have HE := hide ((unhide HB').trans (hb.mono (unhide HB').size))
         clear hb
         go_wp2_with fail
         go_ret
         exact ⟨rfl, unhide HE⟩
theorem own_nil {w : World} {base : Nat} {e : TypeId} {v : Value} (h : w.ownsRow base e 1 v 0 []) : ∃ a c, v = .slice a 0 c := by
 obtain ⟨a, c, h1, _⟩ := own_at h
 exact ⟨a, c, h1⟩
theorem intactO_any {w : World} {B : Nat} {f : Nat → Value} {P : Nat → Prop} {es : List Ent} {is : List EntI} {ts : List Tn} (h : GvT w B f P es is ts) (hts : ∀ t ∈ ts, t.os.length ≤ 140737488355328) :
  Calls Tryz.prog 12 #[.pointer (some ⟨B, 0, none⟩)] w fun e w' => e = .returned (.bool true) ∧ Below w.heap.size w w' := by
 have cr : ∀ i, i < 20 → w.cell? ⟨B, i, none⟩ = some (f i) := fun i hi => (h.gv.cell i hi).1
 have nl : ∀ i, i < 18 → rowT es is ts i = [] → ∃ a c, w.cell? ⟨B, i, none⟩ = some (.slice a 0 c) := fun i hi e => by
  have h1 := h.gv.own i hi
  rw [e] at h1
  obtain ⟨a, c, h2⟩ := own_nil h1
  exact ⟨a, c, by rw [cr i (by omega), h2]⟩
 obtain ⟨_, _, n2⟩ := nl 2 (by omega) rfl
 obtain ⟨_, _, n6⟩ := nl 6 (by omega) rfl
 obtain ⟨_, _, n8⟩ := nl 8 (by omega) rfl
 obtain ⟨_, _, n10⟩ := nl 10 (by omega) rfl
 obtain ⟨_, _, n12⟩ := nl 12 (by omega) rfl
 obtain ⟨_, _, n16⟩ := nl 16 (by omega) rfl
 have at2 : ∀ i, i < 18 → ∃ a c, f i = .slice a (rowT es is ts i).length c ∧ (rowT es is ts i).length ≤ maxLen ∧ ∀ k (hk : k < (rowT es is ts i).length), ∃ g, a = some ⟨g, 0, none⟩ ∧ w.cell? ⟨g, k, none⟩ = some (rowT es is ts i)[k] := fun i hi => own_at (h.gv.own i hi)
 obtain ⟨a0, c0, e0, l0, x0⟩ := at2 0 (by omega)
 obtain ⟨a1, c1, e1, l1, x1⟩ := at2 1 (by omega)
 obtain ⟨a4, c4, e4, l4, x4⟩ := at2 4 (by omega)
 obtain ⟨a5, c5, e5, l5, x5⟩ := at2 5 (by omega)
 obtain ⟨a14, c14, e14, l14, x14⟩ := at2 14 (by omega)
 obtain ⟨a15, c15, e15, l15, x15⟩ := at2 15 (by omega)
 simp only [rowT, List.length_map] at e0 e1 e4 e5 e14 e15 l0 l4 l14 x0 x1 x4 x5 x14 x15
 refine intactO_all w B a0 a1 a14 a15 c0 c1 c14 c15 es.length ts.length es ts a4 a5 c4 c5 is.length is rfl l4 rfl rfl l0 l14 ((cr 0 (by omega)).trans (congrArg some e0)) ((cr 1 (by omega)).trans (congrArg some e1)) ((cr 14 (by omega)).trans (congrArg some e14)) ((cr 15 (by omega)).trans (congrArg some e15)) ?_ ?_ (fun e he => (h.e e he).1) ?_ n2 ((cr 4 (by omega)).trans (congrArg some e4)) ((cr 5 (by omega)).trans (congrArg some e5)) ?_ (fun e he => ⟨(h.i e he).1.1.1, (h.i e he).1.1.2, (h.i e he).1.2⟩) n6 n10 n12 n8 n16 ((cr 18 (by omega)).trans (congrArg some h.gv.md))
 ·intro k hk
  obtain ⟨g, e, hg⟩ := x0 k hk
  obtain ⟨g', e', hg'⟩ := x1 k hk
  exact ⟨g, g', e, e', by simpa using hg, by simpa using hg'⟩
 ·intro k hk
  obtain ⟨g, e, hg⟩ := x14 k hk
  obtain ⟨g', e', hg'⟩ := x15 k hk
  exact ⟨g, g', e, e', by simpa using hg, by simpa using hg'⟩
 ·intro t ht
  have T := (h.t t ht).1
  exact ⟨T.1.1.fil.slo rfl T.1.1.le T.1.1.each, T.1.2.fil.slo rfl T.1.2.le T.1.2.each, T.2, hts t ht⟩
 ·intro k hk
  obtain ⟨g, e, hg⟩ := x4 k hk
  obtain ⟨g', e', hg'⟩ := x5 k hk
  exact ⟨g, g', e, e', by simpa using hg, by simpa using hg'⟩
theorem made_first (n : Nat) : ∃ b, (madeCells #[.bool false, .slice none 0 0, .slice none 0 0] ((n + 3) * 3))[0]? = some (.bool b) := ⟨false, by simp [madeCells]⟩
theorem FilQ.made (w : World) (n : Nat) : FilQ (w.alloc (.cells (madeCells #[.bool false, .slice none 0 0, .slice none 0 0] ((n + 3) * 3)) 71)) w.heap.size (n + 3) [] :=
 FilQ.begin w (n + 3) _ (size_madeCells _ _) (made_first n)

structure CpQ (w wr : World) (n k : Nat) (ps qs : List Nq) : Prop where
 fil : FilQ wr w.heap.size (n + 3) qs
 len : qs.length = k
 con : qs.map conQ = (ps.take k).map conQ
 far : FarQ (fun j => j ≤ w.heap.size) qs
 bel : Below w.heap.size w wr
theorem CpQ.next {w wr wk : World} {n k : Nat} {ps qs : List Nq} (h : CpQ w wr n k ps qs) (hk : k < n) {p : Nq} (hp : ps[k]? = some p) (ho : Ok p.x ∧ Ok p.y) {a1 a2 : Option Addr} {m1 c1 m2 c2 : Nat}
  (hN : Sl wk a1 m1 c1 p.x ∧ Sl wk a2 m2 c2 p.y ∧ NewAt wr.heap.size a1 ∧ NewAt wr.heap.size a2 ∧ Below wr.heap.size wr wk) :
  CpQ w (((wk.setCell ⟨w.heap.size, k * 3, none⟩ (.bool p.g)).setCell ⟨w.heap.size, k * 3 + 1, none⟩ (.slice a1 m1 c1)).setCell ⟨w.heap.size, k * 3 + 2, none⟩ (.slice a2 m2 c2)) n (k + 1) ps (qs ++ [⟨p.g, a1, m1, c1, p.x, a2, m2, c2, p.y⟩]) := by
 obtain ⟨s1, s2, n1, n2, b⟩ := hN
 have hlt := h.fil.lt
 have hlen := h.len
 have hfar : FarQ (fun j => j ≤ w.heap.size) (qs ++ [⟨p.g, a1, m1, c1, p.x, a2, m2, c2, p.y⟩]) := by
  intro q hq
  rcases List.mem_append.1 hq with e | e
  ·exact h.far q e
  ·obtain rfl := List.mem_singleton.1 e
   exact ⟨fun z hz _ hl => by have := n1 z hz; omega, fun z hz _ hl => by have := n2 z hz; omega⟩
 obtain ⟨f1, f2⟩ := (h.fil.below b).next (by omega) ⟨p.g, a1, m1, c1, p.x, a2, m2, c2, p.y⟩ ⟨⟨s1, s2⟩, ho⟩ (fun q hq => ⟨fun z hz hne e => (hfar q hq).1 z hz hne (Nat.le_of_eq e), fun z hz hne e => (hfar q hq).2 z hz hne (Nat.le_of_eq e)⟩) h.len
 have hb := h.bel.trans (b.mono h.bel.size)
 refine ⟨f1, by simp [h.len], ?_, hfar, hb.trans (f2.below hb.size (fun j hj e => by omega))⟩
 rw [List.map_append, h.con, List.take_add_one, hp]
 simp [conQ]
end Go.Proofs.YtbbicappjicblaaGreatDoor
