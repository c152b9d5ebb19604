/- Rx1 -/
import Derived.Test.YtpicknbdfjjflaaGreatDoorPa2
import Derived.Test.YtpicknbdfjjflaaGreatDoorWr9
namespace Go.Proofs.YtpicknbdfjjflaaGreatDoor
open Go.RowKit Go.Deep
set_option linter.unusedVariables false
theorem dg_split {V k Q i : Nat} (hq : Q = V / 10 ^ k) (hi : i ≤ 9) : V / 10 ^ (k + i) = Q / 1000000000 * 10 ^ (9 - i) + Q % 1000000000 / 10 ^ i := by
  have e9 : 1000000000 = 10 ^ i * 10 ^ (9 - i) := by rw [← Nat.pow_add, show i + (9 - i) = 9 from by omega]
  have hV : V / 10 ^ (k + i) = Q / 10 ^ i := by rw [hq, Nat.div_div_eq_div_mul, ← Nat.pow_add]
  have hQ : Q = 10 ^ i * (Q / 1000000000 * 10 ^ (9 - i)) + Q % 1000000000 := by
    have h1 := Nat.div_add_mod Q 1000000000
    have h2 : 10 ^ i * (Q / 1000000000 * 10 ^ (9 - i)) = 1000000000 * (Q / 1000000000) := by
      rw [Nat.mul_left_comm, ← e9, Nat.mul_comm]
    omega
  rw [hV]
  conv => lhs; rw [hQ]
  rw [Nat.mul_add_div (Nat.pow_pos (by decide))]
theorem dg_digit {V k Q i : Nat} (hq : Q = V / 10 ^ k) (hi : i < 9) : dgt V 10 (k + i) = Q % 1000000000 / 10 ^ i % 10 := by
  unfold dgt
  rw [dg_split hq (by omega)]
  obtain ⟨t, ht⟩ : ∃ t, 9 - i = t + 1 := ⟨8 - i, by omega⟩
  rw [ht, Nat.pow_succ, ← Nat.mul_assoc, Nat.mul_comm _ 10, Nat.mul_add_mod]
theorem dg_pos {V k Q i : Nat} (hq : Q = V / 10 ^ k) (hi : i < 9) (h : 0 < Q / 1000000000 ∨ 0 < Q % 1000000000 / 10 ^ i) : 0 < V / 10 ^ (k + i) := by
  rw [dg_split hq (by omega)]
  rcases h with h | h
  · exact Nat.add_pos_left (Nat.mul_pos h (Nat.pow_pos (by decide))) _
  · exact Nat.add_pos_right _ h
theorem dg_next (R i : Nat) : R / 10 ^ i / 10 = R / 10 ^ (i + 1) := by rw [Nat.div_div_eq_div_mul, ← Nat.pow_succ]
theorem dg_lt {Q i : Nat} : Q % 1000000000 / 10 ^ i < 1000000000 := Nat.lt_of_le_of_lt (Nat.div_le_self _ _) (Nat.mod_lt _ (by decide))
theorem dg_end {V k Q i : Nat} (hq : Q = V / 10 ^ k) (hi : i ≤ 9) (h : i = 9 ∨ Q / 1000000000 = 0 ∧ Q % 1000000000 / 10 ^ i = 0) : Q / 1000000000 = V / 10 ^ (k + i) := by
  rw [dg_split hq hi]
  rcases h with rfl | ⟨h1, h2⟩
  · have : Q % 1000000000 / 10 ^ 9 = 0 := Nat.div_eq_of_lt (Nat.mod_lt _ (by decide))
    omega
  · rw [h1, h2]; simp

structure DgO (wr w : World) (V : Nat) (v : Value) (k : Nat) : Prop where
  own : wr.ownsRow w.heap.size 5 1 v k (valsB (lst (fun p => chrN (dgt V 10 p)) k))
  top : k = 0 ∨ 0 < V / 10 ^ (k - 1)
  bel : Below w.heap.size w wr
theorem DgO.below {wr w w' : World} {V : Nat} {v : Value} {k : Nat} (h : DgO wr w V v k) (b : Below wr.heap.size wr w') : DgO w' w V v k :=
  ⟨ownsRow_below h.own b, h.top, h.bel.trans (b.mono h.bel.size)⟩
theorem DgO.step {wr w w1 : World} {V : Nat} {v v' : Value} {k : Nat} {o : Obj} (h : DgO wr w V v k) (hp : 0 < V / 10 ^ k)
    (hown : w1.ownsRow w.heap.size 5 1 v' (k + 1) (valsB (lst (fun p => chrN (dgt V 10 p)) k) ++ [.int .u8 (chrN (dgt V 10 k) : Nat)])) (hg : (wr.alloc o).grownBy w1 v.ownBlock) : DgO w1 w V v' (k + 1) := by
  have hz := h.bel.size
  refine ⟨?_, .inr (by simpa using hp), Below.grown (h.bel.alloc (by omega) o) hg (by simp; omega) (fun k hk => (own_ge h.own k hk).1)⟩
  have e : valsB (lst (fun p => chrN (dgt V 10 p)) k) ++ [.int .u8 (chrN (dgt V 10 k) : Nat)] = valsB (lst (fun p => chrN (dgt V 10 p)) (k + 1)) := by
    unfold valsB
    simp only [lst, List.range_succ, List.map_append, List.map_cons, List.map_nil]
  rw [e] at hown
  exact hown
theorem DgO.done {wr w : World} {V : Nat} {v : Value} {k : Nat} (h : DgO wr w V v k) (hV : 0 < V) (hq : V / 10 ^ k = 0) : TxtOf V 10 k := by
  have hp : 0 < 10 ^ k := Nat.pow_pos (by decide)
  have h1 : V < 10 ^ k := by
    rcases Nat.lt_or_ge V (10 ^ k) with e | e
    · exact e
    · have := Nat.div_pos e hp
      omega
  rcases h.top with e | e
  · subst e; simp at h1; omega
  · have h2 : 10 ^ (k - 1) ≤ V := by
      rcases Nat.lt_or_ge V (10 ^ (k - 1)) with g | g
      · rw [Nat.div_eq_of_lt g] at e; omega
      · exact g
    refine ⟨?_, h1, .inr h2⟩
    rcases Nat.eq_zero_or_pos k with g | g
    · subst g; simp at h1; omega
    · exact g
theorem DgO.len {wr w : World} {V : Nat} {v : Value} {k n : Nat} (h : DgO wr w V v k) (hV : V < 2 ^ (32 * n)) : k ≤ 32 * n := by
  rcases h.top with e | e
  · omega
  · rcases Nat.eq_zero_or_pos k with g | g
    · omega
    have h2 : 10 ^ (k - 1) ≤ V := by
      rcases Nat.lt_or_ge V (10 ^ (k - 1)) with g | g
      · rw [Nat.div_eq_of_lt g] at e; omega
      · exact g
    have h3 : 2 ^ (k - 1) ≤ 10 ^ (k - 1) := Nat.pow_le_pow_left (by decide) _
    have := (Nat.pow_lt_pow_iff_right (by decide : 1 < 2)).1 (show 2 ^ (k - 1) < 2 ^ (32 * n) by omega)
    omega
def FarB (v : Value) (a : Option Addr) (xs : List Nat) : Prop := ∀ x, a = some x → xs ≠ [] → v.ownBlock ≠ some x.block
theorem FarB.step {w w1 : World} {v : Value} {a : Option Addr} {m c g k2 c2 : Nat} {xs : List Nat} {o : Obj} (h : FarB v a xs) (hs : Sl w a m c xs) (hg : (w.alloc o).grownBy w1 v.ownBlock) (hat : v.ownBlock = some g ∨ g = w.heap.size + 1) : Sl w1 a m c xs ∧ FarB (.slice (some ⟨g, 0, none⟩) k2 c2) a xs := by
  have hs1 : Sl (w.alloc o) a m c xs := hs.below ((Below.refl _ _).alloc (Nat.le_refl _) o)
  refine ⟨hs1.chg (S := fun k => v.ownBlock = some k) (Chg.of_grown hg (fun k hk => hk)) (fun x hx hne => h x hx hne), ?_⟩
  intro x hx hne e
  simp [Value.ownBlock] at e
  rcases hat with h1 | h1
  · exact h x hx hne (by rw [h1, e])
  · have := hs.block_lt hne x hx
    omega
structure DgS (wr w : World) (V : Nat) (v : Value) (k Q : Nat) (a : Option Addr) (m c : Nat) : Prop where
  own : DgO wr w V v k
  sl : Sl wr a m c (limbs Q)
  far : FarB v a (limbs Q)

def revF (f : Nat → Nat) (k i p : Nat) : Nat := if p < i ∨ k - 1 - p < i then f (k - 1 - p) else f p
theorem revF_zero (f : Nat → Nat) (k p : Nat) : revF f k 0 p = f p := by unfold revF; rw [if_neg (by omega)]
theorem revF_step (f : Nat → Nat) {k i p : Nat} (hi : i < k / 2) (hp : p < k) : revF f k (i + 1) p = if p = k - 1 - i then revF f k i i else (if p = i then revF f k i (k - 1 - i) else revF f k i p) := by
  unfold revF
  by_cases e1 : p = k - 1 - i
  · subst e1
    rw [if_pos rfl, if_pos (by omega), if_neg (by omega)]
    congr 1
    omega
  · rw [if_neg e1]
    by_cases e2 : p = i
    · subst e2
      rw [if_pos rfl, if_pos (by omega), if_neg (by omega)]
    · rw [if_neg e2]
      by_cases e3 : p < i ∨ k - 1 - p < i
      · rw [if_pos (by omega), if_pos e3]
      · rw [if_neg (by omega), if_neg e3]
theorem revF_end (f : Nat → Nat) {k p : Nat} (hp : p < k) : revF f k (k / 2) p = f (k - 1 - p) := by
  unfold revF
  by_cases e : p < k / 2 ∨ k - 1 - p < k / 2
  · rw [if_pos e]
  · rw [if_neg e]
    congr 1
    omega

theorem own_fnB {w : World} {base g n c : Nat} {f : Nat → Nat} (h : w.ownsRow base 5 1 (.slice (some ⟨g, 0, none⟩) n c) n (valsB (lst f n))) : FnB w g 0 n f := by
  intro i hi
  have hz := World.ownsRow.frozenAt h i
  obtain ⟨hl, h2⟩ := h
  rcases h2 with ⟨h2, h3⟩ | ⟨g', cap, cur, h3, h4, h5, h6, h7, h8, h9⟩
  · cases h2
  · injection h3 with e1 e2 e3
    injection e1 with e1
    injection e1 with e1
    subst e1 e3
    rw [Nat.zero_add]
    refine ⟨?_, hz⟩
    rw [cell_of_block h5]
    have h10 : (cur.toList.take (n * 1))[i]? = some (.int .u8 (f i : Nat)) := by
      rw [h9]
      unfold valsB lst
      simp [hi]
    rw [List.getElem?_take, if_pos (by omega), Array.getElem?_toList] at h10
    exact h10

set_option maxRecDepth 100000 in
set_option maxHeartbeats 16000000 in
theorem wdigits_pos (a : Option Addr) (n c V : Nat) (w : World) (h : Sl w a n c (limbs V)) (hV : 0 < V) (hn : n ≤ 100000) :
    Calls Tryz.prog 87 #[.slice a n c] w fun e w' => ∃ k, TxtOf V 10 k ∧ e = .returned (.string (strB (txtL V 10 k))) ∧ Below w.heap.size w w' := by
  obtain ⟨i80, hi80, hz80, hs80, hb80⟩ := info_parts Tryz.info_u8
  have I80 := hide (And.intro hi80 (And.intro hz80 (And.intro hs80 hb80)))
  have hl := h.len
  have hn0 : 0 < n := by
    rcases Nat.eq_zero_or_pos n with e | e
    · exfalso
      rw [e] at hl
      have := limbs_eq_nil.1 (List.eq_nil_of_length_eq_zero hl)
      omega
    · exact e
  have hV2 : V < 2 ^ (32 * n) := by
    have h1 := limbs_lt V
    rw [hl, pow_limb] at h1
    exact h1
  have hVn := limbs_lt V
  rw [hl] at hVn
  have HV := hide (And.intro hV (And.intro hV2 hVn))
  have HR0 := hide (show DgS w w V (.slice none 0 0) 0 V a n c from ⟨⟨World.ownsRow_nil _ _ _ _, .inl rfl, Below.refl _ _⟩, h, fun x _ _ e => by cases e⟩)
  have t0 : ((n:Int) == 0) = false := by simp; omega
  have t1 : ¬ (n:Int) = 0 := by omega
  clear hi80 hz80 hs80 hb80 h hl hV hV2 hVn
  go_enter Tryz.func87, Tryz.ntmps87
  go_wp2_with fail
  go_loopg [0, 3] V (fun gq av bv wr => ∃ k Q aa m cc, av = .slice aa m cc ∧ Q ≤ gq ∧ Q = V / 10 ^ k ∧ Hid (DgS wr w V bv k Q aa m cc))
  case atStart => exact ⟨0, V, _, _, _, rfl, Nat.le_refl _, by simp, unhide HR0⟩
  case round =>
    clear HR0
    obtain ⟨k, Q, al, ml, cl, rfl, hgq, hq, HR⟩ := hrel
    have hk : k ≤ 32 * n := (unhide HR).own.len (unhide HV).2.1
    obtain ⟨av, cv, rfl⟩ := own_len (unhide HR).own.own
    by_cases hQ : Q = 0
    · subst hQ
      have hm0 : ml = 0 := by have := (unhide HR).sl.len; simpa [limbs_zero] using this.symm
      subst hm0
      have hT := (unhide HR).own.done (unhide HV).1 hq.symm
      have hkp := hT.pos
      have hform : ∃ g, av = some ⟨g, 0, none⟩ := by
        rcases (unhide HR).own.own.2 with ⟨e, h0⟩ | ⟨g, cap, cur, e, _⟩
        · omega
        · injection e with e1
          exact ⟨g, e1⟩
      obtain ⟨g, rfl⟩ := hform
      have hF := own_fnB (unhide HR).own.own
      have hgw : w.heap.size ≤ g := (own_ge (unhide HR).own.own g rfl).1
      obtain ⟨wq, rfl⟩ : ∃ wq, wq = wr := ⟨wr, rfl⟩
      have HT := hide hT
      have HF := hide (hF.congr (fun p hp => (revF_zero (fun p => chrN (dgt V 10 p)) k p).symm))
      have HB := hide (unhide HR).own.bel
      have HKC := hide (show k ≤ cv by
        rcases (unhide HR).own.own.2 with ⟨e, h0⟩ | ⟨g, cap, cur, e, _, _, h6, _⟩
        · cases e
        · injection e with e1 e2 e3
          omega)
      have hk2 : (k:Int).tdiv 2 = ((k / 2 : Nat) : Int) := rfl
      have hk3 : (k:Int) / 2 = ((k / 2 : Nat) : Int) := rfl
      have hk4 : IntKind.i64.wrap ((k:Int).tdiv 2) = ((k / 2 : Nat) : Int) := by rw [hk2, IntKind.wrap_i64]; omega
      obtain ⟨K2, hK2⟩ : ∃ x, k / 2 = x := ⟨_, rfl⟩
      rw [hK2] at hk2 hk3 hk4
      have hK3 : K2 + K2 ≤ k ∧ k ≤ K2 + K2 + 1 := by omega
      have HK2 := hide hK2
      clear HR hT hF hq hgq hK2
      go_wp2_with fail
      go_loopw [7] (fun iv w2 => ∃ i : Nat, i ≤ K2 ∧ iv = .int .i64 (i : Nat) ∧ Hid (FnB w2 g 0 k (revF (fun p => chrN (dgt V 10 p)) k i)) ∧ Hid (Below w.heap.size w w2)) (fun iv _ => K2 - (intOf iv).toNat)
      case atStart => exact ⟨0, Nat.zero_le _, rfl, unhide HF, unhide HB⟩
      case round =>
        clear HF HB
        obtain ⟨i, hi, rfl, HF, HB⟩ := hrel
        by_cases hik : i < K2
        · have t6 : (i:Int) < (K2 : Int) := by omega
          have t7 : (k:Int) - 1 - (i:Int) = ((k - 1 - i : Nat) : Int) := by omega
          have t8 : (i:Int) < (k:Int) := by omega
          have t9 : k - 1 - i < k := by omega
          have t10 : (((k - 1 - i : Nat) : Int)) < (k:Int) := by omega
          have hne : k - 1 - i ≠ i := by omega
          have f1 := (unhide HF i (by omega)).1
          have f2 := (unhide HF i (by omega)).2
          have f3 := (unhide HF (k - 1 - i) (by omega)).1
          have f4 := (unhide HF (k - 1 - i) (by omega)).2
          rw [Nat.zero_add] at f1 f2 f3 f4
          have hs1 := (unhide HF).set i (revF (fun p => chrN (dgt V 10 p)) k i (k - 1 - i)) (by omega)
          have hs2 := hs1.set (k - 1 - i) (revF (fun p => chrN (dgt V 10 p)) k i i) (by omega)
          rw [Nat.zero_add] at hs1
          rw [Nat.zero_add, Nat.zero_add] at hs2
          have HN := hide (hs2.congr (fun p hp => (revF_step (fun p => chrN (dgt V 10 p)) (by rw [unhide HK2]; exact hik) hp).symm))
          have HB2 := hide (((unhide HB).setCell (p := ⟨g, i, none⟩) hgw (.int .u8 (revF (fun p => chrN (dgt V 10 p)) k i (k - 1 - i) : Nat))).setCell (p := ⟨g, k - 1 - i, none⟩) hgw (.int .u8 (revF (fun p => chrN (dgt V 10 p)) k i i : Nat)))
          have hx : revF (fun p => chrN (dgt V 10 p)) k i i < 256 := by unfold revF; split <;> exact chr_ok V (by decide) (by decide) _
          have hy : revF (fun p => chrN (dgt V 10 p)) k i (k - 1 - i) < 256 := by unfold revF; split <;> exact chr_ok V (by decide) (by decide) _
          generalize revF (fun p => chrN (dgt V 10 p)) k i i = x at *
          generalize revF (fun p => chrN (dgt V 10 p)) k i (k - 1 - i) = y at *
          clear hs1 hs2 HF HB
          generalize k - 1 - i = q at *
          go_wp2_with fail
          exact ⟨⟨i + 1, by omega, by go_num, unhide HN, unhide HB2⟩, by simp [intOf]; omega⟩
        · obtain rfl : i = K2 := by omega
          have t6 : ¬ (i : Int) < (i : Int) := by omega
          have hfin : FnB wr g 0 k (fun p => chrN (dgt V 10 (k - 1 - p))) := (unhide HF).congr (fun p hp => by rw [← unhide HK2]; exact revF_end _ hp)
          have kc := (hfin.slB (c := cv) (unhide HKC) (fun p hp => chr_ok V (by decide) (by decide) _)).conv
          have HS := hide (show strB (lst (fun p => chrN (dgt V 10 (k - 1 - p))) k) = strB (txtL V 10 k) from rfl)
          generalize strB (lst (fun p => chrN (dgt V 10 (k - 1 - p))) k) = S at *
          clear hfin HF
          go_wp2_with fail
          go_ret
          exact ⟨k, unhide HT, (by rw [← unhide HS]; rfl), unhide HB⟩
    · have hml : 0 < ml := by
        rcases Nat.eq_zero_or_pos ml with e | e
        · exfalso
          have := (unhide HR).sl.len
          rw [e] at this
          exact hQ (limbs_eq_nil.1 (List.eq_nil_of_length_eq_zero this))
        · exact e
      have hml' : (0:Int) < (ml:Int) := by omega
      have hQV : Q ≤ V := by rw [hq]; exact Nat.div_le_self _ _
      have hml2 : ml ≤ n := by
        have h3 := limbs_len (Nat.lt_of_le_of_lt hQV (unhide HV).2.2)
        have h4 := (unhide HR).sl.len
        omega
      have KS := wshort_any al ml cl 1000000000 (limbs Q) wr (unhide HR).sl (limbs_ok Q) (by omega) (by decide) (by decide)
      rw [limbs_v] at KS
      have KS' := hide KS
      have HQb := hide (And.intro (show 0 < Q by omega) (show Q / 1000000000 < Q from Nat.div_lt_self (by omega) (by decide)))
      have HQ := hide hq
      clear KS hQ hq
      go_wp2_with fail
      refine (unhide KS').mono ?_
      rintro _ w2 ⟨aq, mq, cq, rfl, sq, nq, zq, bq⟩
      have hD2 := (unhide HR).own.below bq
      have hfar : FarB (.slice av k cv) aq (limbs (Q / 1000000000)) := fun x hx _ e => by
        have h1 := (own_ge (unhide HR).own.own _ e).2
        have h2 := nq x hx
        omega
      have hmq : (0 < mq ↔ 0 < Q / 1000000000) := by
        have h4 := sq.len
        constructor
        · intro e
          rcases Nat.eq_zero_or_pos (Q / 1000000000) with g | g
          · rw [g, limbs_zero] at h4; simp at h4; omega
          · exact g
        · intro e
          rcases Nat.eq_zero_or_pos mq with g | g
          · rw [g] at h4
            have := limbs_eq_nil.1 (List.eq_nil_of_length_eq_zero h4)
            omega
          · exact g
      have HI0 := hide (show DgS w2 w V (.slice av k cv) k (Q / 1000000000) aq mq cq from ⟨hD2, sq, hfar⟩)
      have HMQ := hide hmq
      obtain ⟨Q1, hQ1⟩ : ∃ x, Q / 1000000000 = x := ⟨_, rfl⟩
      obtain ⟨R, hR1⟩ : ∃ x, Q % 1000000000 = x := ⟨_, rfl⟩
      rw [hQ1] at HI0 HMQ HQb
      rw [hR1]
      have HQ1 := hide (And.intro hQ1 hR1)
      clear hD2 hfar hmq sq nq zq bq KS' HR hQ1 hR1
      go_wp2_with fail
      go_loopw [3, 5, 6] (fun bv rv iv w3 => ∃ i : Nat, i ≤ 9 ∧ iv = .int .i64 (i : Nat) ∧ rv = .int .u32 ((R / 10 ^ i : Nat) : Int) ∧ Hid (DgS w3 w V bv (k + i) Q1 aq mq cq)) (fun _ _ iv _ => 9 - (intOf iv).toNat)
      case atStart => exact ⟨0, by omega, rfl, by simp, unhide HI0⟩
      case round =>
        clear HI0
        obtain ⟨i, hi, rfl, rfl, HI⟩ := hrel
        have hki : k + i ≤ 32 * n := (unhide HI).own.len (unhide HV).2.1
        obtain ⟨av, cv, rfl⟩ := own_len (unhide HI).own.own
        have hr9 : R / 10 ^ i < 1000000000 := by rw [← (unhide HQ1).2]; exact dg_lt
        have HEnd := hide (fun (hh : i = 9 ∨ Q1 = 0 ∧ R / 10 ^ i = 0) => dg_end (unhide HQ) hi (by rw [(unhide HQ1).1, (unhide HQ1).2]; exact hh))
        have HNx := hide (dg_next R i)
        have HDp := hide (fun (h9 : i < 9) (hh : 0 < Q1 ∨ 0 < R / 10 ^ i) => And.intro (dg_pos (unhide HQ) h9 (by rw [(unhide HQ1).1, (unhide HQ1).2]; exact hh)) (dg_digit (unhide HQ) h9))
        rw [(unhide HQ1).1] at HEnd
        rw [(unhide HQ1).2] at HDp
        generalize R / 10 ^ i = r at *
        have hgo : (i < 9 ∧ (0 < mq ∨ 0 < r)) ∨ (i = 9 ∨ mq = 0 ∧ r = 0) := by omega
        rcases hgo with ⟨h9, hor⟩ | hex
        · have t9 : (i:Int) < 9 := by omega
          have hpd := unhide HDp h9 (by rcases hor with e | e; exact .inl ((unhide HMQ).1 e); exact .inr e)
          have HPD := hide hpd
          have e1 : (r:Int) % 10 = ((r % 10 : Nat) : Int) := rfl
          have e1' : (r:Int).tmod 10 = ((r % 10 : Nat) : Int) := rfl
          have e2 : (r:Int) / 10 = ((r / 10 : Nat) : Int) := rfl
          have e2' : (r:Int).tdiv 10 = ((r / 10 : Nat) : Int) := rfl
          have e3 : (48:Int) + ((r % 10 : Nat) : Int) = ((48 + r % 10 : Nat) : Int) := by omega
          have e4 : 48 + r % 10 < 256 := by omega
          have HCH := hide (show chrN (dgt V 10 (k + i)) = 48 + r % 10 by rw [hpd.2]; exact chr_up (by omega))
          have HSz := hide (unhide HI).own.bel.size
          have e5 : r / 10 < 1000000000 := by omega
          generalize 48 + r % 10 = z at *
          generalize r % 10 = r1 at *
          generalize r / 10 = r2 at *
          clear hpd
          have tm : decide ((0:Int) < (mq:Int)) = decide (0 < mq) := by simp
          by_cases hm0 : 0 < mq
          · have t10 : (0:Int) < (mq:Int) := by omega
            go_wp2_with (at_builtin; refine wpList_append_lies _ rfl _ _ 106 rfl w.heap.size 5 i80 (.int .u8 0) 1 1 Tryz.underlying106 (unhide I80).1 (unhide I80).2.1 (unhide I80).2.2.1 (unhide I80).2.2.2 rfl (by decide) _ (k + i) _ rfl ((unhide HI).own.own.alloc _) ⟨wr.heap.size, 0, none⟩ 1 1 [.int .u8 (z : Nat)] rfl rfl (World.news_of_block (alloc_block _ _)) one_int (by decide) ?c31 ?c41 ?c51 (wr.heap.size + 1) (by simp) ?_)
            case c31 => unfold maxLen; omega
            case c41 => omega
            case c51 => have := unhide HSz; simp; omega
            intro g1 cc w4 hown hgrow hat hlt2
            have HN := hide (show DgS w4 w V (.slice (some ⟨g1, 0, none⟩) (k + i + 1) cc) (k + (i + 1)) Q1 aq mq cq from ⟨(unhide HI).own.step (unhide HPD).1 (by rw [unhide HCH]; exact hown) hgrow, ((unhide HI).far.step (k2 := k + i + 1) (c2 := cc) (unhide HI).sl hgrow hat).1, ((unhide HI).far.step (k2 := k + i + 1) (c2 := cc) (unhide HI).sl hgrow hat).2⟩)
            clear hown hgrow hat hlt2
            go_wp2_with fail
            exact ⟨⟨i + 1, by omega, by go_num, by rw [← unhide HNx], unhide HN⟩, by simp [intOf]; omega⟩
          · obtain rfl : mq = 0 := by omega
            have t11 : (0:Int) < (r:Int) := by omega
            go_wp2_with (at_builtin; refine wpList_append_lies _ rfl _ _ 106 rfl w.heap.size 5 i80 (.int .u8 0) 1 1 Tryz.underlying106 (unhide I80).1 (unhide I80).2.1 (unhide I80).2.2.1 (unhide I80).2.2.2 rfl (by decide) _ (k + i) _ rfl ((unhide HI).own.own.alloc _) ⟨wr.heap.size, 0, none⟩ 1 1 [.int .u8 (z : Nat)] rfl rfl (World.news_of_block (alloc_block _ _)) one_int (by decide) ?c31 ?c41 ?c51 (wr.heap.size + 1) (by simp) ?_)
            case c31 => unfold maxLen; omega
            case c41 => omega
            case c51 => have := unhide HSz; simp; omega
            intro g1 cc w4 hown hgrow hat hlt2
            have HN := hide (show DgS w4 w V (.slice (some ⟨g1, 0, none⟩) (k + i + 1) cc) (k + (i + 1)) Q1 aq 0 cq from ⟨(unhide HI).own.step (unhide HPD).1 (by rw [unhide HCH]; exact hown) hgrow, ((unhide HI).far.step (k2 := k + i + 1) (c2 := cc) (unhide HI).sl hgrow hat).1, ((unhide HI).far.step (k2 := k + i + 1) (c2 := cc) (unhide HI).sl hgrow hat).2⟩)
            clear hown hgrow hat hlt2
            go_wp2_with fail
            exact ⟨⟨i + 1, by omega, by go_num, by rw [← unhide HNx], unhide HN⟩, by simp [intOf]; omega⟩
        · have HE := hide (unhide HEnd (by
            rcases hex with e | ⟨e1, e2⟩
            · exact .inl e
            · refine .inr ⟨?_, e2⟩
              rcases Nat.eq_zero_or_pos Q1 with g | g
              · exact g
              · have := (unhide HMQ).2 g; omega))
          clear HEnd HDp HNx
          by_cases h9 : i < 9
          · have t9 : (i:Int) < 9 := by omega
            obtain ⟨rfl, rfl⟩ : mq = 0 ∧ r = 0 := by omega
            go_wp2_with fail
            go_roundg Q1
            case measure => exact Nat.lt_of_lt_of_le (unhide HQb).2 hgq
            case rel => exact ⟨k + i, Q1, aq, 0, cq, rfl, Nat.le_refl _, unhide HE, unhide HI⟩
          · obtain rfl : i = 9 := by omega
            go_wp2_with fail
            go_roundg Q1
            case measure => exact Nat.lt_of_lt_of_le (unhide HQb).2 hgq
            case rel => exact ⟨k + 9, Q1, aq, mq, cq, rfl, Nat.le_refl _, unhide HE, unhide HI⟩

set_option maxHeartbeats 4000000 in
theorem wdigits_any (a : Option Addr) (n c V : Nat) (w : World) (h : Sl w a n c (limbs V)) (hn : n ≤ 100000) :
    Calls Tryz.prog 87 #[.slice a n c] w fun e w' => ∃ k, TxtOf V 10 k ∧ e = .returned (.string (strB (txtL V 10 k))) ∧ Below w.heap.size w w' := by
  rcases Nat.eq_zero_or_pos V with e | e
  · subst e
    have hl := h.len
    rw [limbs_zero] at hl
    simp at hl
    subst hl
    have HX := hide (show strB [48] = strB (txtL 0 10 1) by rw [txtL_zero])
    clear h
    go_enter Tryz.func87, Tryz.ntmps87
    go_wp2_with fail
    go_ret
    exact ⟨1, txt_zero (by decide), by rw [← unhide HX]; rfl, Below.refl _ _⟩
  · exact wdigits_pos a n c V w h e hn
end Go.Proofs.YtpicknbdfjjflaaGreatDoor
