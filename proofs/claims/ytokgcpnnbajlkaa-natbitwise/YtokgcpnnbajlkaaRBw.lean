/-
  sloperef1.Bitwise: contracts.
-/
import Derived.Test.YtokgcpnnbajlkaaBw
import Derived.Test.YtokgcpnnbajlkaaRAdd
namespace Go.Proofs.Ytokgcpnnbajlkaa
open Go.RowKit Go.Deep
set_option linter.unusedVariables false

/-- What a round leaves. -/
structure BwR (F : Nat → Nat → Nat) (wr w : World) (xs ys : List Nat) (v : Value) (k : Nat) : Prop where
  own : wr.ownsRow w.heap.size 80 1 v k (vals (lst (bwF F xs ys) k))
  bel : Below w.heap.size w wr

theorem BwR.step {F : Nat → Nat → Nat} {wr w w1 : World} {xs ys : List Nat} {v v' : Value} {k : Nat} {o : Obj} (h : BwR F wr w xs ys v k)
    (hown : w1.ownsRow w.heap.size 80 1 v' (k + 1) (vals (lst (bwF F xs ys) k) ++ [.int .u32 (F (xs.getD k 0) (ys.getD k 0) : Nat)])) (hg : (wr.alloc o).grownBy w1 v.ownBlock) : BwR F w1 w xs ys v' (k + 1) := by
  have hs := h.bel.size
  refine ⟨?_, Below.grown (h.bel.alloc (by omega) o) hg (by simp; omega) (fun k hk => (own_ge h.own k hk).1)⟩
  have e : vals (lst (bwF F xs ys) k) ++ [.int .u32 (F (xs.getD k 0) (ys.getD k 0) : Nat)] = vals (lst (bwF F xs ys) (k + 1)) := by
    simp [vals, lst, List.range_succ, bwF]
  rw [← e]; exact hown

theorem fit_bw {F : Nat → Nat → Nat} {xs ys : List Nat} (hF : ∀ i, bwF F xs ys i < 4294967296) (h1 : xs.length ≤ 2048) (h2 : ys.length ≤ 2048) : fitL (bwV F xs ys) = (limbs (bwV F xs ys), 0) := by
  apply fitL_ok
  intro hb
  have hr := limbs_rep (bwV F xs ys)
  have h3 := val_ge_of_norm hr.norm (by intro e; rw [e] at hb; simp at hb)
  rw [hr.val] at h3
  have h4 : bwV F xs ys < 4294967296 ^ (max xs.length ys.length) := valF_lt (fun i _ => hF i)
  have h5 : 4294967296 ^ (max xs.length ys.length) ≤ 4294967296 ^ ((limbs (bwV F xs ys)).length - 1) := pow_mono (by omega)
  omega

theorem bwV_at {F : Nat → Nat → Nat} (h0 : F 0 0 = 0) (xs ys : List Nat) (k : Nat) (h1 : xs.length ≤ k) (h2 : ys.length ≤ k) : valF (bwF F xs ys) k = bwV F xs ys := by
  unfold bwV
  have key : ∀ d, valF (bwF F xs ys) (max xs.length ys.length + d) = valF (bwF F xs ys) (max xs.length ys.length) := by
    intro d
    induction d with
    | zero => rfl
    | succ d ih =>
      rw [← Nat.add_assoc]
      simp only [valF]
      rw [ih]
      have : bwF F xs ys (max xs.length ys.length + d) = 0 := by
        unfold bwF
        rw [getD_ge (by omega), getD_ge (by omega)]; exact h0
      rw [this]; simp
  have := key (k - max xs.length ys.length)
  rw [show max xs.length ys.length + (k - max xs.length ys.length) = k from by omega] at this
  exact this

set_option maxHeartbeats 4000000 in
theorem rbitAnd_core (a1 a2 : Option Addr) (n1 c1 n2 c2 : Nat) (xs ys : List Nat) (w : World) (h1 : Sl w a1 n1 c1 xs) (h2 : Sl w a2 n2 c2 ys) (ox : Ok xs) (oy : Ok ys) (hb1 : n1 ≤ 2048) (hb2 : n2 ≤ 2048)
    (K1 : Hid (Calls Try.prog 60 #[.slice a1 n1 c1] w fun e w' => e = .returned (.bool true) ∧ w' = w)) (K2 : Hid (Calls Try.prog 60 #[.slice a2 n2 c2] w fun e w' => e = .returned (.bool true) ∧ w' = w)) :
    Calls Try.prog 45 #[.int .i64 0, .slice a1 n1 c1, .slice a2 n2 c2] w fun e w' => Res2 w w' (limbs (bwV bwAnd xs ys), 0) e := by
  have hl1 := hide h1.len
  have hl2 := hide h2.len
  obtain ⟨i80, hi80, hz80, hs80, hb80⟩ := info_parts Try.info_u32
  have I80 := hide (And.intro hi80 (And.intro hz80 (And.intro hs80 hb80)))
  clear hi80 hz80 hs80 hb80
  go_enter Try.func45, Try.ntmps45
  go_wp2_with fail
  refine (unhide K1).mono ?_
  rintro e w' ⟨rfl, hw⟩
  obtain rfl := hw.symm
  go_wp2_with fail
  refine (unhide K2).mono ?_
  rintro e w' ⟨rfl, hw⟩
  obtain rfl := hw.symm
  clear K1 K2
  go_wp2_with fail
  go_loopw [8, 9] (fun v i wr => ∃ k : Nat, (k ≤ n1 ∨ k ≤ n2) ∧ i = .int .i64 k ∧ BwR bwAnd wr w xs ys v k) (fun _ i _ => n1 + n2 - (intOf i).toNat)
  case atStart => exact ⟨0, .inl (Nat.zero_le _), rfl, ⟨World.ownsRow_nil _ _ _ _, Below.refl _ _⟩⟩
  case round =>
    obtain ⟨k, hk, rfl, hR⟩ := hrel
    by_cases hlt : k < n1 ∨ k < n2
    · have bx := ox.getD k
      have bY := oy.getD k
      have KX := hide (rat_any a1 n1 c1 xs k wr (h1.below hR.bel) ox)
      have KY := hide (rat_any a2 n2 c2 ys k wr (h2.below hR.bel) oy)
      have HS := hide (fun w1 v' o hown hg => (BwR.step (w1 := w1) (v' := v') (o := o) hR hown hg))
      have e1 : bits .and .u32 ((xs.getD k 0 : Nat) : Int) ((ys.getD k 0 : Nat) : Int) = ((bwAnd (xs.getD k 0) (ys.getD k 0) : Nat) : Int) := u32_and_nat _ _ bx bY
      have HR := hide hR
      generalize xs.getD k 0 = x at *
      generalize ys.getD k 0 = y at *
      clear hR
      by_cases hA : (k:Int) < (n1:Int)
      all_goals
        have hB : (k:Int) < (n1:Int) ∨ (k:Int) < (n2:Int) := by omega
        go_wp2_with fail
        refine (unhide KX).mono ?_
        rintro e w' ⟨rfl, hw⟩
        obtain rfl := hw.symm
        go_wp2_with fail
        refine (unhide KY).mono ?_
        rintro e w' ⟨rfl, hw⟩
        obtain rfl := hw.symm
        go_wp2_with (at_builtin; refine wpList_append_lies _ rfl _ _ 23 rfl w.heap.size 80 i80 (.int .u32 0) 1 4 Try.underlying23 (unhide I80).1 (unhide I80).2.1 (unhide I80).2.2.1 (unhide I80).2.2.2 rfl (by decide) _ k _ rfl ((unhide HR).own.alloc _) ⟨wr.heap.size, 0, none⟩ 1 1 [.int .u32 (bwAnd x y : Nat)] rfl rfl (World.news_of_block (alloc_block _ _)) one_int (by decide) ?c31 ?c41 ?c51 (wr.heap.size + 1) (by simp) ?_)
        case c31 => unfold maxLen; omega
        case c41 => omega
        case c51 => have := (unhide HR).bel.size; simp; omega
        intro g1 cc w2 hown hgrow hat hlt2
        have HN := hide (unhide HS w2 _ _ hown hgrow)
        clear hown hgrow hat hlt2 HS HR KX KY
        go_wp2
        exact ⟨⟨k + 1, by omega, by go_num, unhide HN⟩, by simp [intOf]; omega⟩
    · have hA : ¬ (k:Int) < (n1:Int) := by omega
      have hB : ¬ (k:Int) < (n2:Int) := by omega
      obtain ⟨a', c', hv, hs, hn⟩ := own_sl hR.own
      have hF : ∀ i, bwF bwAnd xs ys i < 4294967296 := fun i => bwAnd_lt _ _ (ox.getD i) (oy.getD i)
      have KF := rfit_any a' k c' _ wr hs (lst_ok (fun i _ => hF i)) (by omega)
      rw [lst_val, bwV_at rfl xs ys k (by rw [unhide hl1]; omega) (by rw [unhide hl2]; omega), fit_bw hF (by rw [unhide hl1]; omega) (by rw [unhide hl2]; omega)] at KF
      have KF' := hide KF
      have HB := hide hR.bel
      subst hv
      clear hR hs hn KF hF
      go_wp2_with fail
      refine (unhide KF').mono ?_
      rintro e w2 ⟨a2', m2, c2', rfl, hs2, ha2, hb2⟩
      have HX := hide (And.intro hs2 (And.intro ha2 hb2))
      clear hs2 ha2 hb2
      go_wp2
      go_ret2
      exact ⟨a2', m2, c2', rfl, (unhide HX).1, fun x hx => Nat.le_trans (unhide HB).size ((unhide HX).2.1 x hx), (unhide HB).trans ((unhide HX).2.2.mono (unhide HB).size)⟩

set_option maxHeartbeats 2000000 in
/-- sloperef1.Bitwise at 0. -/
theorem rbitAnd_any (a1 a2 : Option Addr) (n1 c1 n2 c2 : Nat) (xs ys : List Nat) (w : World) (h1 : Sl w a1 n1 c1 xs) (h2 : Sl w a2 n2 c2 ys) (ox : Ok xs) (oy : Ok ys) :
    Calls Try.prog 45 #[.int .i64 0, .slice a1 n1 c1, .slice a2 n2 c2] w fun e w' => Res2 w w' (bwL bwAnd xs ys) e := by
  have K1 := rmay_any a1 n1 c1 xs w h1
  have K2 := rmay_any a2 n2 c2 ys w h2
  by_cases m1 : MayL xs = true
  · by_cases m2 : MayL ys = true
    · rw [m1] at K1; rw [m2] at K2
      have K1' := hide K1
      have K2' := hide K2
      have nx := MayL.norm m1
      have ny := MayL.norm m2
      have hl1 : n1 ≤ 2048 := by have := h1.len; have := MayL.len m1; omega
      have hl2 : n2 ≤ 2048 := by have := h2.len; have := MayL.len m2; omega
      rw [show bwL bwAnd xs ys = (limbs (bwV bwAnd xs ys), 0) from by simp [bwL, m1, m2]]
      exact rbitAnd_core a1 a2 n1 c1 n2 c2 xs ys w h1 h2 ox oy hl1 hl2 K1' K2'
    · have m2' : MayL ys = false := by simpa using m2
      rw [m1] at K1; rw [m2'] at K2
      have K1' := hide K1
      have K2' := hide K2
      have HC := hide (show bwL bwAnd xs ys = ([], 20) from by simp [bwL, m2'])
      clear K1 K2 m1 m2 m2' h1 h2 ox oy
      go_enter Try.func45, Try.ntmps45
      go_wp2_with fail
      refine (unhide K1').mono ?_
      rintro e w' ⟨rfl, hw⟩
      obtain rfl := hw.symm
      go_wp2_with fail
      refine (unhide K2').mono ?_
      rintro e w' ⟨rfl, hw⟩
      obtain rfl := hw.symm
      go_wp2
      go_ret2
      rw [unhide HC]
      exact ⟨none, 0, 0, rfl, sl_nil _, newAt_nil _, Below.refl _ _⟩
  · have m1' : MayL xs = false := by simpa using m1
    rw [m1'] at K1
    have K1' := hide K1
    have HC := hide (show bwL bwAnd xs ys = ([], 20) from by simp [bwL, m1'])
    clear K1 K2 m1 m1' h1 h2 ox oy
    go_enter Try.func45, Try.ntmps45
    go_wp2_with fail
    refine (unhide K1').mono ?_
    rintro e w' ⟨rfl, hw⟩
    obtain rfl := hw.symm
    go_wp2
    go_ret2
    rw [unhide HC]
    exact ⟨none, 0, 0, rfl, sl_nil _, newAt_nil _, Below.refl _ _⟩

set_option maxHeartbeats 4000000 in
theorem rbitOr_core (a1 a2 : Option Addr) (n1 c1 n2 c2 : Nat) (xs ys : List Nat) (w : World) (h1 : Sl w a1 n1 c1 xs) (h2 : Sl w a2 n2 c2 ys) (ox : Ok xs) (oy : Ok ys) (hb1 : n1 ≤ 2048) (hb2 : n2 ≤ 2048)
    (K1 : Hid (Calls Try.prog 60 #[.slice a1 n1 c1] w fun e w' => e = .returned (.bool true) ∧ w' = w)) (K2 : Hid (Calls Try.prog 60 #[.slice a2 n2 c2] w fun e w' => e = .returned (.bool true) ∧ w' = w)) :
    Calls Try.prog 45 #[.int .i64 1, .slice a1 n1 c1, .slice a2 n2 c2] w fun e w' => Res2 w w' (limbs (bwV bwOr xs ys), 0) e := by
  have hl1 := hide h1.len
  have hl2 := hide h2.len
  obtain ⟨i80, hi80, hz80, hs80, hb80⟩ := info_parts Try.info_u32
  have I80 := hide (And.intro hi80 (And.intro hz80 (And.intro hs80 hb80)))
  clear hi80 hz80 hs80 hb80
  go_enter Try.func45, Try.ntmps45
  go_wp2_with fail
  refine (unhide K1).mono ?_
  rintro e w' ⟨rfl, hw⟩
  obtain rfl := hw.symm
  go_wp2_with fail
  refine (unhide K2).mono ?_
  rintro e w' ⟨rfl, hw⟩
  obtain rfl := hw.symm
  clear K1 K2
  go_wp2_with fail
  go_loopw [8, 9] (fun v i wr => ∃ k : Nat, (k ≤ n1 ∨ k ≤ n2) ∧ i = .int .i64 k ∧ BwR bwOr wr w xs ys v k) (fun _ i _ => n1 + n2 - (intOf i).toNat)
  case atStart => exact ⟨0, .inl (Nat.zero_le _), rfl, ⟨World.ownsRow_nil _ _ _ _, Below.refl _ _⟩⟩
  case round =>
    obtain ⟨k, hk, rfl, hR⟩ := hrel
    by_cases hlt : k < n1 ∨ k < n2
    · have bx := ox.getD k
      have bY := oy.getD k
      have KX := hide (rat_any a1 n1 c1 xs k wr (h1.below hR.bel) ox)
      have KY := hide (rat_any a2 n2 c2 ys k wr (h2.below hR.bel) oy)
      have HS := hide (fun w1 v' o hown hg => (BwR.step (w1 := w1) (v' := v') (o := o) hR hown hg))
      have e1 : bits .or .u32 ((xs.getD k 0 : Nat) : Int) ((ys.getD k 0 : Nat) : Int) = ((bwOr (xs.getD k 0) (ys.getD k 0) : Nat) : Int) := u32_or_nat _ _ bx bY
      have HR := hide hR
      generalize xs.getD k 0 = x at *
      generalize ys.getD k 0 = y at *
      clear hR
      by_cases hA : (k:Int) < (n1:Int)
      all_goals
        have hB : (k:Int) < (n1:Int) ∨ (k:Int) < (n2:Int) := by omega
        go_wp2_with fail
        refine (unhide KX).mono ?_
        rintro e w' ⟨rfl, hw⟩
        obtain rfl := hw.symm
        go_wp2_with fail
        refine (unhide KY).mono ?_
        rintro e w' ⟨rfl, hw⟩
        obtain rfl := hw.symm
        go_wp2_with (at_builtin; refine wpList_append_lies _ rfl _ _ 23 rfl w.heap.size 80 i80 (.int .u32 0) 1 4 Try.underlying23 (unhide I80).1 (unhide I80).2.1 (unhide I80).2.2.1 (unhide I80).2.2.2 rfl (by decide) _ k _ rfl ((unhide HR).own.alloc _) ⟨wr.heap.size, 0, none⟩ 1 1 [.int .u32 (bwOr x y : Nat)] rfl rfl (World.news_of_block (alloc_block _ _)) one_int (by decide) ?c31 ?c41 ?c51 (wr.heap.size + 1) (by simp) ?_)
        case c31 => unfold maxLen; omega
        case c41 => omega
        case c51 => have := (unhide HR).bel.size; simp; omega
        intro g1 cc w2 hown hgrow hat hlt2
        have HN := hide (unhide HS w2 _ _ hown hgrow)
        clear hown hgrow hat hlt2 HS HR KX KY
        go_wp2
        exact ⟨⟨k + 1, by omega, by go_num, unhide HN⟩, by simp [intOf]; omega⟩
    · have hA : ¬ (k:Int) < (n1:Int) := by omega
      have hB : ¬ (k:Int) < (n2:Int) := by omega
      obtain ⟨a', c', hv, hs, hn⟩ := own_sl hR.own
      have hF : ∀ i, bwF bwOr xs ys i < 4294967296 := fun i => bwOr_lt _ _ (ox.getD i) (oy.getD i)
      have KF := rfit_any a' k c' _ wr hs (lst_ok (fun i _ => hF i)) (by omega)
      rw [lst_val, bwV_at rfl xs ys k (by rw [unhide hl1]; omega) (by rw [unhide hl2]; omega), fit_bw hF (by rw [unhide hl1]; omega) (by rw [unhide hl2]; omega)] at KF
      have KF' := hide KF
      have HB := hide hR.bel
      subst hv
      clear hR hs hn KF hF
      go_wp2_with fail
      refine (unhide KF').mono ?_
      rintro e w2 ⟨a2', m2, c2', rfl, hs2, ha2, hb2⟩
      have HX := hide (And.intro hs2 (And.intro ha2 hb2))
      clear hs2 ha2 hb2
      go_wp2
      go_ret2
      exact ⟨a2', m2, c2', rfl, (unhide HX).1, fun x hx => Nat.le_trans (unhide HB).size ((unhide HX).2.1 x hx), (unhide HB).trans ((unhide HX).2.2.mono (unhide HB).size)⟩

set_option maxHeartbeats 2000000 in
/-- sloperef1.Bitwise at 1. -/
theorem rbitOr_any (a1 a2 : Option Addr) (n1 c1 n2 c2 : Nat) (xs ys : List Nat) (w : World) (h1 : Sl w a1 n1 c1 xs) (h2 : Sl w a2 n2 c2 ys) (ox : Ok xs) (oy : Ok ys) :
    Calls Try.prog 45 #[.int .i64 1, .slice a1 n1 c1, .slice a2 n2 c2] w fun e w' => Res2 w w' (bwL bwOr xs ys) e := by
  have K1 := rmay_any a1 n1 c1 xs w h1
  have K2 := rmay_any a2 n2 c2 ys w h2
  by_cases m1 : MayL xs = true
  · by_cases m2 : MayL ys = true
    · rw [m1] at K1; rw [m2] at K2
      have K1' := hide K1
      have K2' := hide K2
      have nx := MayL.norm m1
      have ny := MayL.norm m2
      have hl1 : n1 ≤ 2048 := by have := h1.len; have := MayL.len m1; omega
      have hl2 : n2 ≤ 2048 := by have := h2.len; have := MayL.len m2; omega
      rw [show bwL bwOr xs ys = (limbs (bwV bwOr xs ys), 0) from by simp [bwL, m1, m2]]
      exact rbitOr_core a1 a2 n1 c1 n2 c2 xs ys w h1 h2 ox oy hl1 hl2 K1' K2'
    · have m2' : MayL ys = false := by simpa using m2
      rw [m1] at K1; rw [m2'] at K2
      have K1' := hide K1
      have K2' := hide K2
      have HC := hide (show bwL bwOr xs ys = ([], 20) from by simp [bwL, m2'])
      clear K1 K2 m1 m2 m2' h1 h2 ox oy
      go_enter Try.func45, Try.ntmps45
      go_wp2_with fail
      refine (unhide K1').mono ?_
      rintro e w' ⟨rfl, hw⟩
      obtain rfl := hw.symm
      go_wp2_with fail
      refine (unhide K2').mono ?_
      rintro e w' ⟨rfl, hw⟩
      obtain rfl := hw.symm
      go_wp2
      go_ret2
      rw [unhide HC]
      exact ⟨none, 0, 0, rfl, sl_nil _, newAt_nil _, Below.refl _ _⟩
  · have m1' : MayL xs = false := by simpa using m1
    rw [m1'] at K1
    have K1' := hide K1
    have HC := hide (show bwL bwOr xs ys = ([], 20) from by simp [bwL, m1'])
    clear K1 K2 m1 m1' h1 h2 ox oy
    go_enter Try.func45, Try.ntmps45
    go_wp2_with fail
    refine (unhide K1').mono ?_
    rintro e w' ⟨rfl, hw⟩
    obtain rfl := hw.symm
    go_wp2
    go_ret2
    rw [unhide HC]
    exact ⟨none, 0, 0, rfl, sl_nil _, newAt_nil _, Below.refl _ _⟩

set_option maxHeartbeats 4000000 in
theorem rbitXor_core (a1 a2 : Option Addr) (n1 c1 n2 c2 : Nat) (xs ys : List Nat) (w : World) (h1 : Sl w a1 n1 c1 xs) (h2 : Sl w a2 n2 c2 ys) (ox : Ok xs) (oy : Ok ys) (hb1 : n1 ≤ 2048) (hb2 : n2 ≤ 2048)
    (K1 : Hid (Calls Try.prog 60 #[.slice a1 n1 c1] w fun e w' => e = .returned (.bool true) ∧ w' = w)) (K2 : Hid (Calls Try.prog 60 #[.slice a2 n2 c2] w fun e w' => e = .returned (.bool true) ∧ w' = w)) :
    Calls Try.prog 45 #[.int .i64 2, .slice a1 n1 c1, .slice a2 n2 c2] w fun e w' => Res2 w w' (limbs (bwV bwXor xs ys), 0) e := by
  have hl1 := hide h1.len
  have hl2 := hide h2.len
  obtain ⟨i80, hi80, hz80, hs80, hb80⟩ := info_parts Try.info_u32
  have I80 := hide (And.intro hi80 (And.intro hz80 (And.intro hs80 hb80)))
  clear hi80 hz80 hs80 hb80
  go_enter Try.func45, Try.ntmps45
  go_wp2_with fail
  refine (unhide K1).mono ?_
  rintro e w' ⟨rfl, hw⟩
  obtain rfl := hw.symm
  go_wp2_with fail
  refine (unhide K2).mono ?_
  rintro e w' ⟨rfl, hw⟩
  obtain rfl := hw.symm
  clear K1 K2
  go_wp2_with fail
  go_loopw [8, 9] (fun v i wr => ∃ k : Nat, (k ≤ n1 ∨ k ≤ n2) ∧ i = .int .i64 k ∧ BwR bwXor wr w xs ys v k) (fun _ i _ => n1 + n2 - (intOf i).toNat)
  case atStart => exact ⟨0, .inl (Nat.zero_le _), rfl, ⟨World.ownsRow_nil _ _ _ _, Below.refl _ _⟩⟩
  case round =>
    obtain ⟨k, hk, rfl, hR⟩ := hrel
    by_cases hlt : k < n1 ∨ k < n2
    · have bx := ox.getD k
      have bY := oy.getD k
      have KX := hide (rat_any a1 n1 c1 xs k wr (h1.below hR.bel) ox)
      have KY := hide (rat_any a2 n2 c2 ys k wr (h2.below hR.bel) oy)
      have HS := hide (fun w1 v' o hown hg => (BwR.step (w1 := w1) (v' := v') (o := o) hR hown hg))
      have e1 : bits .xor .u32 ((xs.getD k 0 : Nat) : Int) ((ys.getD k 0 : Nat) : Int) = ((bwXor (xs.getD k 0) (ys.getD k 0) : Nat) : Int) := u32_xor_nat _ _ bx bY
      have HR := hide hR
      generalize xs.getD k 0 = x at *
      generalize ys.getD k 0 = y at *
      clear hR
      by_cases hA : (k:Int) < (n1:Int)
      all_goals
        have hB : (k:Int) < (n1:Int) ∨ (k:Int) < (n2:Int) := by omega
        go_wp2_with fail
        refine (unhide KX).mono ?_
        rintro e w' ⟨rfl, hw⟩
        obtain rfl := hw.symm
        go_wp2_with fail
        refine (unhide KY).mono ?_
        rintro e w' ⟨rfl, hw⟩
        obtain rfl := hw.symm
        go_wp2_with (at_builtin; refine wpList_append_lies _ rfl _ _ 23 rfl w.heap.size 80 i80 (.int .u32 0) 1 4 Try.underlying23 (unhide I80).1 (unhide I80).2.1 (unhide I80).2.2.1 (unhide I80).2.2.2 rfl (by decide) _ k _ rfl ((unhide HR).own.alloc _) ⟨wr.heap.size, 0, none⟩ 1 1 [.int .u32 (bwXor x y : Nat)] rfl rfl (World.news_of_block (alloc_block _ _)) one_int (by decide) ?c31 ?c41 ?c51 (wr.heap.size + 1) (by simp) ?_)
        case c31 => unfold maxLen; omega
        case c41 => omega
        case c51 => have := (unhide HR).bel.size; simp; omega
        intro g1 cc w2 hown hgrow hat hlt2
        have HN := hide (unhide HS w2 _ _ hown hgrow)
        clear hown hgrow hat hlt2 HS HR KX KY
        go_wp2
        exact ⟨⟨k + 1, by omega, by go_num, unhide HN⟩, by simp [intOf]; omega⟩
    · have hA : ¬ (k:Int) < (n1:Int) := by omega
      have hB : ¬ (k:Int) < (n2:Int) := by omega
      obtain ⟨a', c', hv, hs, hn⟩ := own_sl hR.own
      have hF : ∀ i, bwF bwXor xs ys i < 4294967296 := fun i => bwXor_lt _ _ (ox.getD i) (oy.getD i)
      have KF := rfit_any a' k c' _ wr hs (lst_ok (fun i _ => hF i)) (by omega)
      rw [lst_val, bwV_at rfl xs ys k (by rw [unhide hl1]; omega) (by rw [unhide hl2]; omega), fit_bw hF (by rw [unhide hl1]; omega) (by rw [unhide hl2]; omega)] at KF
      have KF' := hide KF
      have HB := hide hR.bel
      subst hv
      clear hR hs hn KF hF
      go_wp2_with fail
      refine (unhide KF').mono ?_
      rintro e w2 ⟨a2', m2, c2', rfl, hs2, ha2, hb2⟩
      have HX := hide (And.intro hs2 (And.intro ha2 hb2))
      clear hs2 ha2 hb2
      go_wp2
      go_ret2
      exact ⟨a2', m2, c2', rfl, (unhide HX).1, fun x hx => Nat.le_trans (unhide HB).size ((unhide HX).2.1 x hx), (unhide HB).trans ((unhide HX).2.2.mono (unhide HB).size)⟩

set_option maxHeartbeats 2000000 in
/-- sloperef1.Bitwise at 2. -/
theorem rbitXor_any (a1 a2 : Option Addr) (n1 c1 n2 c2 : Nat) (xs ys : List Nat) (w : World) (h1 : Sl w a1 n1 c1 xs) (h2 : Sl w a2 n2 c2 ys) (ox : Ok xs) (oy : Ok ys) :
    Calls Try.prog 45 #[.int .i64 2, .slice a1 n1 c1, .slice a2 n2 c2] w fun e w' => Res2 w w' (bwL bwXor xs ys) e := by
  have K1 := rmay_any a1 n1 c1 xs w h1
  have K2 := rmay_any a2 n2 c2 ys w h2
  by_cases m1 : MayL xs = true
  · by_cases m2 : MayL ys = true
    · rw [m1] at K1; rw [m2] at K2
      have K1' := hide K1
      have K2' := hide K2
      have nx := MayL.norm m1
      have ny := MayL.norm m2
      have hl1 : n1 ≤ 2048 := by have := h1.len; have := MayL.len m1; omega
      have hl2 : n2 ≤ 2048 := by have := h2.len; have := MayL.len m2; omega
      rw [show bwL bwXor xs ys = (limbs (bwV bwXor xs ys), 0) from by simp [bwL, m1, m2]]
      exact rbitXor_core a1 a2 n1 c1 n2 c2 xs ys w h1 h2 ox oy hl1 hl2 K1' K2'
    · have m2' : MayL ys = false := by simpa using m2
      rw [m1] at K1; rw [m2'] at K2
      have K1' := hide K1
      have K2' := hide K2
      have HC := hide (show bwL bwXor xs ys = ([], 20) from by simp [bwL, m2'])
      clear K1 K2 m1 m2 m2' h1 h2 ox oy
      go_enter Try.func45, Try.ntmps45
      go_wp2_with fail
      refine (unhide K1').mono ?_
      rintro e w' ⟨rfl, hw⟩
      obtain rfl := hw.symm
      go_wp2_with fail
      refine (unhide K2').mono ?_
      rintro e w' ⟨rfl, hw⟩
      obtain rfl := hw.symm
      go_wp2
      go_ret2
      rw [unhide HC]
      exact ⟨none, 0, 0, rfl, sl_nil _, newAt_nil _, Below.refl _ _⟩
  · have m1' : MayL xs = false := by simpa using m1
    rw [m1'] at K1
    have K1' := hide K1
    have HC := hide (show bwL bwXor xs ys = ([], 20) from by simp [bwL, m1'])
    clear K1 K2 m1 m1' h1 h2 ox oy
    go_enter Try.func45, Try.ntmps45
    go_wp2_with fail
    refine (unhide K1').mono ?_
    rintro e w' ⟨rfl, hw⟩
    obtain rfl := hw.symm
    go_wp2
    go_ret2
    rw [unhide HC]
    exact ⟨none, 0, 0, rfl, sl_nil _, newAt_nil _, Below.refl _ _⟩

set_option maxHeartbeats 4000000 in
theorem rbitNot_core (a1 a2 : Option Addr) (n1 c1 n2 c2 : Nat) (xs ys : List Nat) (w : World) (h1 : Sl w a1 n1 c1 xs) (h2 : Sl w a2 n2 c2 ys) (ox : Ok xs) (oy : Ok ys) (hb1 : n1 ≤ 2048) (hb2 : n2 ≤ 2048)
    (K1 : Hid (Calls Try.prog 60 #[.slice a1 n1 c1] w fun e w' => e = .returned (.bool true) ∧ w' = w)) (K2 : Hid (Calls Try.prog 60 #[.slice a2 n2 c2] w fun e w' => e = .returned (.bool true) ∧ w' = w)) :
    Calls Try.prog 45 #[.int .i64 3, .slice a1 n1 c1, .slice a2 n2 c2] w fun e w' => Res2 w w' (limbs (bwV bwNot xs ys), 0) e := by
  have hl1 := hide h1.len
  have hl2 := hide h2.len
  obtain ⟨i80, hi80, hz80, hs80, hb80⟩ := info_parts Try.info_u32
  have I80 := hide (And.intro hi80 (And.intro hz80 (And.intro hs80 hb80)))
  clear hi80 hz80 hs80 hb80
  go_enter Try.func45, Try.ntmps45
  go_wp2_with fail
  refine (unhide K1).mono ?_
  rintro e w' ⟨rfl, hw⟩
  obtain rfl := hw.symm
  go_wp2_with fail
  refine (unhide K2).mono ?_
  rintro e w' ⟨rfl, hw⟩
  obtain rfl := hw.symm
  clear K1 K2
  go_wp2_with fail
  go_loopw [8, 9] (fun v i wr => ∃ k : Nat, (k ≤ n1 ∨ k ≤ n2) ∧ i = .int .i64 k ∧ BwR bwNot wr w xs ys v k) (fun _ i _ => n1 + n2 - (intOf i).toNat)
  case atStart => exact ⟨0, .inl (Nat.zero_le _), rfl, ⟨World.ownsRow_nil _ _ _ _, Below.refl _ _⟩⟩
  case round =>
    obtain ⟨k, hk, rfl, hR⟩ := hrel
    by_cases hlt : k < n1 ∨ k < n2
    · have bx := ox.getD k
      have bY := oy.getD k
      have KX := hide (rat_any a1 n1 c1 xs k wr (h1.below hR.bel) ox)
      have KY := hide (rat_any a2 n2 c2 ys k wr (h2.below hR.bel) oy)
      have HS := hide (fun w1 v' o hown hg => (BwR.step (w1 := w1) (v' := v') (o := o) hR hown hg))
      have e1 : bits .andNot .u32 ((xs.getD k 0 : Nat) : Int) ((ys.getD k 0 : Nat) : Int) = ((bwNot (xs.getD k 0) (ys.getD k 0) : Nat) : Int) := u32_andNot_nat _ _ bx bY
      have HR := hide hR
      generalize xs.getD k 0 = x at *
      generalize ys.getD k 0 = y at *
      clear hR
      by_cases hA : (k:Int) < (n1:Int)
      all_goals
        have hB : (k:Int) < (n1:Int) ∨ (k:Int) < (n2:Int) := by omega
        go_wp2_with fail
        refine (unhide KX).mono ?_
        rintro e w' ⟨rfl, hw⟩
        obtain rfl := hw.symm
        go_wp2_with fail
        refine (unhide KY).mono ?_
        rintro e w' ⟨rfl, hw⟩
        obtain rfl := hw.symm
        go_wp2_with (at_builtin; refine wpList_append_lies _ rfl _ _ 23 rfl w.heap.size 80 i80 (.int .u32 0) 1 4 Try.underlying23 (unhide I80).1 (unhide I80).2.1 (unhide I80).2.2.1 (unhide I80).2.2.2 rfl (by decide) _ k _ rfl ((unhide HR).own.alloc _) ⟨wr.heap.size, 0, none⟩ 1 1 [.int .u32 (bwNot x y : Nat)] rfl rfl (World.news_of_block (alloc_block _ _)) one_int (by decide) ?c31 ?c41 ?c51 (wr.heap.size + 1) (by simp) ?_)
        case c31 => unfold maxLen; omega
        case c41 => omega
        case c51 => have := (unhide HR).bel.size; simp; omega
        intro g1 cc w2 hown hgrow hat hlt2
        have HN := hide (unhide HS w2 _ _ hown hgrow)
        clear hown hgrow hat hlt2 HS HR KX KY
        go_wp2
        exact ⟨⟨k + 1, by omega, by go_num, unhide HN⟩, by simp [intOf]; omega⟩
    · have hA : ¬ (k:Int) < (n1:Int) := by omega
      have hB : ¬ (k:Int) < (n2:Int) := by omega
      obtain ⟨a', c', hv, hs, hn⟩ := own_sl hR.own
      have hF : ∀ i, bwF bwNot xs ys i < 4294967296 := fun i => bwNot_lt _ _ (ox.getD i) (oy.getD i)
      have KF := rfit_any a' k c' _ wr hs (lst_ok (fun i _ => hF i)) (by omega)
      rw [lst_val, bwV_at rfl xs ys k (by rw [unhide hl1]; omega) (by rw [unhide hl2]; omega), fit_bw hF (by rw [unhide hl1]; omega) (by rw [unhide hl2]; omega)] at KF
      have KF' := hide KF
      have HB := hide hR.bel
      subst hv
      clear hR hs hn KF hF
      go_wp2_with fail
      refine (unhide KF').mono ?_
      rintro e w2 ⟨a2', m2, c2', rfl, hs2, ha2, hb2⟩
      have HX := hide (And.intro hs2 (And.intro ha2 hb2))
      clear hs2 ha2 hb2
      go_wp2
      go_ret2
      exact ⟨a2', m2, c2', rfl, (unhide HX).1, fun x hx => Nat.le_trans (unhide HB).size ((unhide HX).2.1 x hx), (unhide HB).trans ((unhide HX).2.2.mono (unhide HB).size)⟩

set_option maxHeartbeats 2000000 in
/-- sloperef1.Bitwise at 3. -/
theorem rbitNot_any (a1 a2 : Option Addr) (n1 c1 n2 c2 : Nat) (xs ys : List Nat) (w : World) (h1 : Sl w a1 n1 c1 xs) (h2 : Sl w a2 n2 c2 ys) (ox : Ok xs) (oy : Ok ys) :
    Calls Try.prog 45 #[.int .i64 3, .slice a1 n1 c1, .slice a2 n2 c2] w fun e w' => Res2 w w' (bwL bwNot xs ys) e := by
  have K1 := rmay_any a1 n1 c1 xs w h1
  have K2 := rmay_any a2 n2 c2 ys w h2
  by_cases m1 : MayL xs = true
  · by_cases m2 : MayL ys = true
    · rw [m1] at K1; rw [m2] at K2
      have K1' := hide K1
      have K2' := hide K2
      have nx := MayL.norm m1
      have ny := MayL.norm m2
      have hl1 : n1 ≤ 2048 := by have := h1.len; have := MayL.len m1; omega
      have hl2 : n2 ≤ 2048 := by have := h2.len; have := MayL.len m2; omega
      rw [show bwL bwNot xs ys = (limbs (bwV bwNot xs ys), 0) from by simp [bwL, m1, m2]]
      exact rbitNot_core a1 a2 n1 c1 n2 c2 xs ys w h1 h2 ox oy hl1 hl2 K1' K2'
    · have m2' : MayL ys = false := by simpa using m2
      rw [m1] at K1; rw [m2'] at K2
      have K1' := hide K1
      have K2' := hide K2
      have HC := hide (show bwL bwNot xs ys = ([], 20) from by simp [bwL, m2'])
      clear K1 K2 m1 m2 m2' h1 h2 ox oy
      go_enter Try.func45, Try.ntmps45
      go_wp2_with fail
      refine (unhide K1').mono ?_
      rintro e w' ⟨rfl, hw⟩
      obtain rfl := hw.symm
      go_wp2_with fail
      refine (unhide K2').mono ?_
      rintro e w' ⟨rfl, hw⟩
      obtain rfl := hw.symm
      go_wp2
      go_ret2
      rw [unhide HC]
      exact ⟨none, 0, 0, rfl, sl_nil _, newAt_nil _, Below.refl _ _⟩
  · have m1' : MayL xs = false := by simpa using m1
    rw [m1'] at K1
    have K1' := hide K1
    have HC := hide (show bwL bwNot xs ys = ([], 20) from by simp [bwL, m1'])
    clear K1 K2 m1 m1' h1 h2 ox oy
    go_enter Try.func45, Try.ntmps45
    go_wp2_with fail
    refine (unhide K1').mono ?_
    rintro e w' ⟨rfl, hw⟩
    obtain rfl := hw.symm
    go_wp2
    go_ret2
    rw [unhide HC]
    exact ⟨none, 0, 0, rfl, sl_nil _, newAt_nil _, Below.refl _ _⟩
end Go.Proofs.Ytokgcpnnbajlkaa
