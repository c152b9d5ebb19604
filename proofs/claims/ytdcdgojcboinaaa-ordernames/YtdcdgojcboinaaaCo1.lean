/-
  BOUNDS: near things that stand ahead, plain; countAhead's note: contract.
-/
import Derived.Test.YtdcdgojcboinaaaRq0
import Derived.Test.YtdcdgojcboinaaaCh2
namespace Go.Proofs.Ytdcdgojcboinaaa
open Go.RowKit Go.Deep
set_option linter.unusedVariables false

theorem posI_at {xs : List Int} {n j : Nat} (h : OrdTo xs n n) (hj : j < n) : ∀ k, j < k → k ≤ n → posI xs k (xs.getD j 0).toNat = (j : Int)
  | 0, hk, _ => absurd hk (Nat.not_lt_zero _)
  | k + 1, hk, hn => by
    have hr := h.rng j hj
    have e : (((xs.getD j 0).toNat : Nat) : Int) = xs.getD j 0 := by omega
    simp only [posI]
    rw [e]
    by_cases c : k = j
    · subst c; rw [if_pos rfl]
    · rw [if_neg (fun q => h.one j k (by omega) (by omega) q.symm)]
      exact posI_at h hj k (by omega) (by omega)
theorem inj_surj : ∀ (n : Nat) (f : Nat → Nat), (∀ i, i < n → f i < n) → (∀ i j, i < n → j < n → f i = f j → i = j) → ∀ v, v < n → ∃ i, i < n ∧ f i = v
  | 0, _, _, _, v, hv => absurd hv (Nat.not_lt_zero _)
  | n + 1, f, hf, hi, v, hv => by
    have hlt : ∀ i, i < n → f i = n → f n < n := fun i hin e => by
      have := hf n (by omega)
      rcases Nat.lt_or_ge (f n) n with c | c
      · exact c
      · have := hi i n (by omega) (by omega) (by omega); omega
    have ih := inj_surj n (fun i => if f i = n then f n else f i) (fun i hin => by
      show (if f i = n then f n else f i) < n
      by_cases e : f i = n
      · rw [if_pos e]; exact hlt i hin e
      · rw [if_neg e]; have := hf i (by omega); omega) (fun i j hin hjn e => by
      have e' : (if f i = n then f n else f i) = (if f j = n then f n else f j) := e
      by_cases e1 : f i = n
      · by_cases e2 : f j = n
        · exact hi i j (by omega) (by omega) (by omega)
        · rw [if_pos e1, if_neg e2] at e'
          have := hi n j (by omega) (by omega) e'
          omega
      · by_cases e2 : f j = n
        · rw [if_neg e1, if_pos e2] at e'
          have := hi i n (by omega) (by omega) e'
          omega
        · rw [if_neg e1, if_neg e2] at e'
          exact hi i j (by omega) (by omega) e')
    by_cases ca : v = f n
    · exact ⟨n, by omega, ca.symm⟩
    · by_cases cn : v = n
      · have han : f n < n := by have := hf n (by omega); omega
        obtain ⟨i, hin, e⟩ := ih (f n) han
        have e' : (if f i = n then f n else f i) = f n := e
        by_cases e1 : f i = n
        · exact ⟨i, by omega, by omega⟩
        · rw [if_neg e1] at e'
          have := hi i n (by omega) (by omega) e'
          omega
      · obtain ⟨i, hin, e⟩ := ih v (by omega)
        have e' : (if f i = n then f n else f i) = v := e
        by_cases e1 : f i = n
        · rw [if_pos e1] at e'; exact absurd e'.symm ca
        · rw [if_neg e1] at e'; exact ⟨i, by omega, e'⟩
/-- In an order each thing has its place. -/
theorem OrdTo.place {xs : List Int} {n v : Nat} (h : OrdTo xs n n) (hv : v < n) : ∃ j, j < n ∧ xs.getD j 0 = (v : Int) ∧ posI xs n v = (j : Int) := by
  obtain ⟨j, hj, e⟩ := inj_surj n (fun i => (xs.getD i 0).toNat) (fun i hi => by have := h.rng i hi; show (xs.getD i 0).toNat < n; omega) (fun i j hi hj e => by
    have e' : (xs.getD i 0).toNat = (xs.getD j 0).toNat := e
    have := h.rng i hi
    have := h.rng j hj
    rcases Nat.lt_trichotomy i j with c | c | c
    · exact absurd (show xs.getD i 0 = xs.getD j 0 by omega) (h.one i j c hj)
    · exact c
    · exact absurd (show xs.getD j 0 = xs.getD i 0 by omega) (h.one j i c hi)) v hv
  have e' : (xs.getD j 0).toNat = v := e
  have := h.rng j hj
  exact ⟨j, hj, by omega, by rw [← e']; exact posI_at h hj n hj (Nat.le_refl _)⟩
/-- How many of the first k are so. -/
noncomputable def cnP (P : Nat → Prop) (k : Nat) : Nat := (grR (fun _ j => P j) 0 k).length
theorem cnP_next (P : Nat → Prop) (k : Nat) : cnP P (k + 1) = cnP P k + (if tb (P k) = true then 1 else 0) := by
  unfold cnP
  simp only [grR, List.length_append]
  split <;> simp
theorem cnP_le (P : Nat → Prop) (k : Nat) : cnP P k ≤ k := grR_len _ _ _
theorem cnP_congr {P Q : Nat → Prop} : ∀ {k : Nat}, (∀ j, j < k → (P j ↔ Q j)) → cnP P k = cnP Q k
  | 0, _ => rfl
  | k + 1, h => by
    rw [cnP_next, cnP_next, cnP_congr (fun j hj => h j (by omega))]
    by_cases c : P k
    · rw [tb_yes c, tb_yes ((h k (by omega)).1 c)]
    · rw [tb_no c, tb_no (fun q => c ((h k (by omega)).2 q))]
theorem cnP_add {P Q : Nat → Prop} {j0 : Nat} : ∀ {k : Nat}, j0 < k → ¬ P j0 → (∀ j, j < k → (Q j ↔ (P j ∨ j = j0))) → cnP Q k = cnP P k + 1
  | 0, h, _, _ => absurd h (Nat.not_lt_zero _)
  | k + 1, h, hp, hq => by
    rw [cnP_next, cnP_next]
    by_cases c : k = j0
    · subst c
      rw [tb_yes ((hq k (by omega)).2 (.inr rfl)), tb_no hp, cnP_congr (P := Q) (Q := P) (fun j hj => ⟨fun q => ((hq j (by omega)).1 q).resolve_right (by omega), fun p => (hq j (by omega)).2 (.inl p)⟩)]
      simp
    · rw [cnP_add (k := k) (by omega) hp (fun j hj => hq j (by omega))]
      have e : P k ↔ Q k := ⟨fun p => (hq k (by omega)).2 (.inl p), fun q => ((hq k (by omega)).1 q).resolve_right c⟩
      by_cases d : P k
      · rw [tb_yes d, tb_yes (e.1 d)]; simp
      · rw [tb_no d, tb_no (fun q => d (e.2 q))]; simp
/-- What countAhead has in hand. -/
structure CaI (W : World) (g h X o pp pv pm pc m cnt : Nat) (xs : List Int) (v : Nat) (ls : Nat → Int) (count : Nat) : Prop where
  bp : BoxP W pp [.slice (some ⟨g, 0, none⟩) m m]
  bv : BoxP W pv [.int .i64 (v : Int)]
  bm : BoxP W pm [.pointer (some ⟨X, o, none⟩)]
  bc : BoxP W pc [.int .i64 (count : Int)]
  k0 : W.cell? ⟨X, o, none⟩ = some (.int .i64 (cnt : Int)) ∧ W.frozen? ⟨X, o, none⟩ = false
  k1 : W.cell? ⟨X, o + 1, none⟩ = some (.slice (some ⟨h, 0, none⟩) m m)
  pl : RoV W g m (fun i => .int .i64 (posI xs m i))
  last : RoV W h m (fun i => .int .i64 (ls i))
  nh : h ≠ g ∧ h ≠ X ∧ h ≠ pp ∧ h ≠ pv ∧ h ≠ pm ∧ h ≠ pc
  nc : pc ≠ g ∧ pc ≠ X ∧ pc ≠ pp ∧ pc ≠ pv ∧ pc ≠ pm
theorem CaI.below {W W' : World} {g h X o pp pv pm pc m cnt : Nat} {xs : List Int} {v : Nat} {ls : Nat → Int} {count : Nat} (k : CaI W g h X o pp pv pm pc m cnt xs v ls count) (b : Below W.heap.size W W') : CaI W' g h X o pp pv pm pc m cnt xs v ls count :=
  have c : Chg (fun _ => False) W W' := Chg.of_below b
  ⟨k.bp.below b, k.bv.below b, k.bm.below b, k.bc.below b, ⟨c.cell (fun x => x) k.k0.1, by rw [c.frzP (World.block_lt_of_cell? _ _ k.k0.1) (fun x => x)]; exact k.k0.2⟩, c.cell (fun x => x) k.k1, k.pl.below b, k.last.below b, k.nh, k.nc⟩
/-- Marks change. -/
theorem CaI.mark {W W' : World} {g h X o pp pv pm pc m cnt : Nat} {xs : List Int} {v : Nat} {ls ls' : Nat → Int} {count : Nat} (k : CaI W g h X o pp pv pm pc m cnt xs v ls count) (c : Chg (fun j => j = h) W W') (hl : RoV W' h m (fun i => .int .i64 (ls' i))) : CaI W' g h X o pp pv pm pc m cnt xs v ls' count := by
  obtain ⟨n1, n2, n3, n4, n5, n6⟩ := k.nh
  exact ⟨k.bp.chg c (fun e => n3 e.symm), k.bv.chg c (fun e => n4 e.symm), k.bm.chg c (fun e => n5 e.symm), k.bc.chg c (fun e => n6 e.symm), ⟨c.cell (fun e => n2 e.symm) k.k0.1, by rw [c.frzP (World.block_lt_of_cell? _ _ k.k0.1) (fun e => n2 e.symm)]; exact k.k0.2⟩, c.cell (fun e => n2 e.symm) k.k1, k.pl.chg c (fun e => n1 e.symm), hl, k.nh, k.nc⟩
/-- The count changes. -/
theorem CaI.more {W : World} {g h X o pp pv pm pc m cnt : Nat} {xs : List Int} {v : Nat} {ls : Nat → Int} {count : Nat} (k : CaI W g h X o pp pv pm pc m cnt xs v ls count) (n : Nat) : CaI (W.setCell ⟨pc, 0, none⟩ (.int .i64 (n : Int))) g h X o pp pv pm pc m cnt xs v ls n := by
  obtain ⟨n1, n2, n3, n4, n5⟩ := k.nc
  have c : Chg (fun j => j = pc) W (W.setCell ⟨pc, 0, none⟩ (.int .i64 (n : Int))) := Chg.of_set _ _ _ _ rfl
  exact ⟨k.bp.chg c (fun e => n3 e.symm), k.bv.chg c (fun e => n4 e.symm), k.bm.chg c (fun e => n5 e.symm), k.bc.put 0 _, ⟨c.cell (fun e => n2 e.symm) k.k0.1, by rw [c.frzP (World.block_lt_of_cell? _ _ k.k0.1) (fun e => n2 e.symm)]; exact k.k0.2⟩, c.cell (fun e => n2 e.symm) k.k1, k.pl.chg c (fun e => n1 e.symm), k.last.chg c (fun e => k.nh.2.2.2.2.2 e), k.nh, k.nc⟩
/-- Those of M that stand ahead of v are marked and counted. -/
structure CaM (xs : List Int) (m v cnt : Nat) (M : Nat → Prop) (ls : Nat → Int) (count : Nat) : Prop where
  iff : ∀ k, k < m → (ls k = (cnt : Int) ↔ (M k ∧ posI xs m k < posI xs m v))
  cn : count = cnP (fun j => M (xs.getD j 0).toNat) (posI xs m v).toNat
  le : ∀ k, k < m → ls k ≤ (cnt : Int)
theorem CaM.same {xs : List Int} {m v cnt : Nat} {M N : Nat → Prop} {ls : Nat → Int} {count : Nat} (h : CaM xs m v cnt M ls count) (ho : OrdTo xs m m) (hv : v < m) (e : ∀ k, k < m → posI xs m k < posI xs m v → (M k ↔ N k)) : CaM xs m v cnt N ls count := by
  refine ⟨fun k hk => (h.iff k hk).trans ⟨fun q => ⟨(e k hk q.2).1 q.1, q.2⟩, fun q => ⟨(e k hk q.2).2 q.1, q.2⟩⟩, h.cn.trans (cnP_congr (fun j hj => ?_)), h.le⟩
  obtain ⟨jv, hjv, _, ev⟩ := ho.place hv
  rw [ev] at hj
  have hr := ho.rng j (by omega)
  exact e _ (by omega) (by rw [posI_at ho (by omega) m (by omega) (Nat.le_refl _), ev]; omega)
theorem CaM.add {xs : List Int} {m v cnt u : Nat} {M : Nat → Prop} {ls : Nat → Int} {count : Nat} (h : CaM xs m v cnt M ls count) (ho : OrdTo xs m m) (hv : v < m) (hu : u < m) (hp : posI xs m u < posI xs m v) (hn : ls u ≠ (cnt : Int)) : CaM xs m v cnt (fun k => M k ∨ k = u) (fun i => if i = u then (cnt : Int) else ls i) (count + 1) := by
  obtain ⟨jv, hjv, _, ev⟩ := ho.place hv
  obtain ⟨ju, hju, eu, pu⟩ := ho.place hu
  refine ⟨fun k hk => ?_, ?_, fun k hk => ?_⟩
  · by_cases c : k = u
    · subst c; simp; exact hp
    · show (if k = u then (cnt : Int) else ls k) = _ ↔ _
      rw [if_neg c, h.iff k hk]
      exact ⟨fun q => ⟨.inl q.1, q.2⟩, fun q => ⟨q.1.resolve_right c, q.2⟩⟩
  · rw [h.cn]
    refine (cnP_add (j0 := ju) (by rw [ev]; omega) (fun q => hn ((h.iff u hu).2 ⟨by have e2 : (xs.getD ju 0).toNat = u := by omega
                                                                                    rw [e2] at q; exact q, hp⟩)) (fun j hj => ?_)).symm
    rw [ev] at hj
    constructor
    · rintro (q | q)
      · exact .inl q
      · right
        have := posI_at ho (j := j) (by omega) m (by omega) (Nat.le_refl _)
        rw [q, pu] at this
        omega
    · rintro (q | q)
      · exact .inl q
      · right; subst q; omega
  · show (if k = u then (cnt : Int) else ls k) ≤ _
    have := h.le k hk
    split <;> omega
end Go.Proofs.Ytdcdgojcboinaaa

namespace Go.Proofs.Ytdcdgojcboinaaa
open Go.RowKit Go.Deep
set_option linter.unusedVariables false

/-- What Check tells. -/
def chkE (ok : Bool) : Int := if ok then 0 else 182
set_option maxRecDepth 100000 in
set_option maxHeartbeats 16000000 in
/-- sloperef11.Check of a number that may be. -/
theorem wocheck_in (a : Option Addr) (m c : Nat) (xs : List Int) (n : Nat) (w : World) (h : SlI w a m c xs) (hm : m ≤ 17592186044416) (hn : n ≤ 128) (ok : Bool) (hok : TruQ ok (IsOrd xs n)) :
    Calls Try.prog 10 #[.int .i64 (n : Int), .slice a m c] w fun e w' => e = .returned (.int .i64 (chkE ok)) ∧ Below w.heap.size w w' := by
  have HS := hide h
  have HOK := hide hok
  have hml := h.len
  by_cases hne : m = n
  · subst hne
    have tn : ((m : Int) != (m : Int)) = false := by simp
    have tm0 : ¬ (m : Int) < 0 := by omega
    have tm1 : ¬ (128 : Int) < (m : Int) := by omega
    have hmk := make_boolsP m (by omega) w
    have hR := RoV.made w m 4 (.bool false)
    obtain ⟨wm, hwm⟩ : ∃ x, w.alloc (.cells (madeCells #[.bool false] m) 4) = x := ⟨_, rfl⟩
    have bm : Below w.heap.size w wm := by rw [← hwm]; exact (Below.refl _ _).alloc (Nat.le_refl _) _
    rw [hwm] at hmk hR
    obtain ⟨g, hg⟩ : ∃ g, w.heap.size = g := ⟨_, rfl⟩
    have HB := hide bm
    have HG := hide hg
    rw [hg] at hmk hR
    have HR0 := hide hR
    have HS3 := hide ((unhide HS).below bm)
    have HLW := hide (show xs ≠ [] → ∀ z, a = some z → z.block ≠ g from fun hne z hz e => by have := (unhide HS).block_lt hne z hz; omega)
    clear h hok hml bm hR hwm
    go_enter Try.func10, Try.ntmps10
    go_wp2_with fail
    go_loopw [6] (fun kv wr => ∃ k : Nat, k ≤ m ∧ kv = .int .i64 (k : Int) ∧ Hid (RoV wr g m (fun v => .bool (posI xs k v != -1))) ∧ Hid (OrdTo xs m k) ∧ Hid (Chg (fun j => j = g) wm wr)) (fun kv _ => m - (intOf kv).toNat)
    case atStart => exact ⟨0, Nat.zero_le _, rfl, hide ((unhide HR0).congr (fun i _ => by simp [posI])), hide ⟨fun j hj => by omega, fun i j _ hj => by omega⟩, hide (Chg.refl _ _)⟩
    case round =>
      obtain ⟨k, hk, rfl, HR, HO, HC⟩ := hrel
      by_cases hlt : k < m
      · have hlt' : (k : Int) < (m : Int) := by omega
        have hsl := (unhide HS3).chg (unhide HC) (fun z hz hne => unhide HLW hne z hz)
        obtain ⟨b, off, rfl, hc⟩ := hsl.at (by omega)
        have sk := hc k hlt
        have hbg : b ≠ g := unhide HLW (fun e => by have := (unhide HS).len; rw [e] at this; simp at this; omega) _ rfl
        obtain ⟨x, hx⟩ : ∃ x, xs.getD k 0 = x := ⟨_, rfl⟩
        rw [hx] at sk
        have HX := hide hx
        clear hc hsl hx hmk
        by_cases hx0 : x < 0
        · have HNO := hide (show ¬ OrdTo xs m m from fun h => by have := (h.rng k hlt).1; rw [unhide HX] at this; omega)
          have hokf : ok = false := by
            cases hk2 : ok
            · rfl
            · exact absurd (Iff.mp (unhide HOK) hk2).2 (unhide HNO)
          subst hokf
          go_wp2_with fail
          try go_ret
          exact ⟨rfl, by have h9 := (unhide HB).trans ((unhide HC).below (unhide HB).size (fun j hj e => by have := unhide HG; omega)); first | exact h9 | (rw [unhide HG] at h9; exact h9)⟩
        · by_cases hxm : (m : Int) ≤ x
          · have HNO := hide (show ¬ OrdTo xs m m from fun h => by have := (h.rng k hlt).2; rw [unhide HX] at this; omega)
            have hokf : ok = false := by
              cases hk2 : ok
              · rfl
              · exact absurd (Iff.mp (unhide HOK) hk2).2 (unhide HNO)
            subst hokf
            go_wp2_with fail
            try go_ret
            exact ⟨rfl, by have h9 := (unhide HB).trans ((unhide HC).below (unhide HB).size (fun j hj e => by have := unhide HG; omega)); first | exact h9 | (rw [unhide HG] at h9; exact h9)⟩
          · obtain ⟨v, hv⟩ : ∃ v : Nat, x = (v : Int) := ⟨x.toNat, by omega⟩
            subst hv
            have hvm : v < m := by omega
            have hvm' : (v : Int) < (m : Int) := by omega
            have hc1 := (unhide HR v hvm).1
            have hc2 := (unhide HR v hvm).2
            obtain ⟨p, hp⟩ : ∃ p, (posI xs k v != -1) = p := ⟨_, rfl⟩
            simp only [hp] at hc1
            have HPP := hide hp
            clear hp
            cases p
            · have hq : posI xs k v = -1 := by have := unhide HPP; simpa using this
              have HN := hide (OrdTo.next (unhide HO) (unhide HX) hvm hq)
              have HN2 := hide (show RoV (wr.setCell ⟨g, v, none⟩ (.bool true)) g m (fun u => .bool (posI xs (k + 1) u != -1)) from ((unhide HR).put v (.bool true) hvm).congr (fun u hu => by
                simp only [posI, unhide HX]
                by_cases e : u = v
                · subst e; simp
                · rw [if_neg e, if_neg (by omega)]))
              have HN3 := hide (show Chg (fun j => j = g) wm (wr.setCell ⟨g, v, none⟩ (.bool true)) from (unhide HC).trans (Chg.of_set _ _ _ _ rfl))
              clear hq
              go_wp2_with fail
              exact ⟨⟨k + 1, by omega, by (first | rfl | go_num), HN2, HN, HN3⟩, by simp [intOf]; omega⟩
            · have HNO := hide (OrdTo.no (n := m) hlt (unhide HX) (fun e => by have := unhide HPP; rw [e] at this; simp at this))
              have hokf : ok = false := by
                cases hk2 : ok
                · rfl
                · exact absurd (Iff.mp (unhide HOK) hk2).2 (unhide HNO)
              subst hokf
              go_wp2_with fail
              try go_ret
              exact ⟨rfl, by have h9 := (unhide HB).trans ((unhide HC).below (unhide HB).size (fun j hj e => by have := unhide HG; omega)); first | exact h9 | (rw [unhide HG] at h9; exact h9)⟩
      · obtain rfl : k = m := by omega
        have hlt' : ¬ (k : Int) < (k : Int) := by omega
        have hokt : ok = true := Iff.mpr (unhide HOK) ⟨(unhide HS).len, unhide HO⟩
        subst hokt
        clear hmk
        go_wp2_with fail
        try go_ret
        exact ⟨rfl, by have h9 := (unhide HB).trans ((unhide HC).below (unhide HB).size (fun j hj e => by have := unhide HG; omega)); first | exact h9 | (rw [unhide HG] at h9; exact h9)⟩
  · have hne1 : ((m : Int) != (n : Int)) = true := by simp; omega
    have tm0 : ¬ (n : Int) < 0 := by omega
    have tm1 : ¬ (128 : Int) < (n : Int) := by omega
    have hokf : ok = false := by
      cases hk : ok
      · rfl
      · have := (Iff.mp hok hk).1
        omega
    subst hokf
    clear h hok hml hne
    go_enter Try.func10, Try.ntmps10
    go_wp2_with fail
    try go_ret
    exact ⟨rfl, Below.refl _ _⟩
set_option maxRecDepth 100000 in
set_option maxHeartbeats 8000000 in
/-- sloperef11.Check of a number that may not be. -/
theorem wocheck_out (x : Int) (a : Option Addr) (m c : Nat) (w : World) (hx : x < 0 ∨ 128 < x) :
    Calls Try.prog 10 #[.int .i64 x, .slice a m c] w fun e w' => e = .returned (.int .i64 220) ∧ Below w.heap.size w w' := by
  rcases hx with h | h
  · go_enter Try.func10, Try.ntmps10
    go_wp2_with fail
    try go_ret
    exact ⟨rfl, Below.refl _ _⟩
  · have h0 : ¬ x < 0 := by omega
    go_enter Try.func10, Try.ntmps10
    go_wp2_with fail
    try go_ret
    exact ⟨rfl, Below.refl _ _⟩
end Go.Proofs.Ytdcdgojcboinaaa
