/-
  natural.descend: contract.
-/
import Derived.Test.YtpnhmaenmmelnaaDoorRt2
import Derived.Test.YtpnhmaenmmelnaaDoorDv7
import Derived.Test.YtpnhmaenmmelnaaDoorKarM
import Derived.Deep.LoopGhost
namespace Go.Proofs.YtpnhmaenmmelnaaDoor
open Go.RowKit Go.Deep
set_option linter.unusedVariables false

theorem fz_fn {w : World} {b off n c : Nat} {xs : List Nat} (h : Sl w (some ⟨b, off, none⟩) n c xs) (hf : Fz w (some ⟨b, off, none⟩) n) (hx : xs ≠ []) : Fn w b off n (fun i => xs.getD i 0) := by
  intro i hi
  obtain ⟨b', o', e, hc⟩ := h.cells.resolve_left hx
  cases e
  exact ⟨hc i (by rw [h.len]; omega), hf _ rfl i (by omega)⟩

/-- What a round of descend leaves. -/
structure DsR (wr w w0 : World) (r X0 g : Nat) (a : Option Addr) (m : Nat) (zs : List Nat) (X : Nat) : Prop where
  sl : Sl wr a m m zs
  rep : Rep X zs
  ge : r ≤ X
  pos : 0 < X
  top : X ≤ X0
  lt : X ≤ g
  new : NewAt w0.heap.size a
  bel0 : Below w0.heap.size w0 wr
  bel : Below w.heap.size w wr

set_option maxHeartbeats 8000000 in
/-- natural.descend. -/
theorem descend_any (an : Option Addr) (nn cn : Nat) (ns : List Nat) (k j : Nat) (ax : Option Addr) (mx : Nat) (zx : List Nat) (X0 r : Nat) (w0 w : World) (hN : Sl w an nn cn ns) (oN : Ok ns) (nN : Norm ns) (hn : nn ≤ 2048) (hk : k = j + 1) (hj : 1 ≤ j) (hk2 : k ≤ 1024)
    (hX : Sl w ax mx mx zx) (rX : Rep X0 zx) (hr : IsRoot (val ns) k r) (hr1 : 1 ≤ r) (hge : r ≤ X0) (hpos : 0 < X0) (hlen : mx ≤ 5000) (hb0 : Below w0.heap.size w0 w) (hnew : NewAt w0.heap.size ax) :
    Calls Tryd.prog 79 #[.slice an nn cn, .int .i64 (k : Nat), .slice ax mx mx] w fun e w' => NewRep w0 w' r e := by
  have HN := hide hN
  have HIR := hide hr
  have HLX := hide (show X0 < 4294967296 ^ mx from by
    have h := val_lt rX.ok
    rwa [rX.val, hX.len] at h)
  have HR0 := hide (show DsR w w w0 r X0 X0 ax mx zx X0 from ⟨hX, rX, hge, hpos, Nat.le_refl _, Nat.le_refl _, hnew, hb0, Below.refl _ _⟩)
  have tk : (k:Int) - 1 = (j:Int) := by omega
  have HK := hide hk
  clear hN hX rX hr hge hpos hb0 hnew hk
  go_enter Tryd.func79, Tryd.ntmps79
  go_wp2_with fail
  go_loopg [2] X0 (fun g xv wr => ∃ a m zs X, xv = .slice a m m ∧ DsR wr w w0 r X0 g a m zs X)
  case atStart => exact ⟨_, _, _, _, rfl, unhide HR0⟩
  case round =>
    clear HR0
    obtain ⟨a, m, zs, X, rfl, hR⟩ := hrel
    have hm : m ≤ 5000 := by
      have h1 : zs.length ≤ mx := rep_len_leS hR.rep (Nat.lt_of_le_of_lt hR.top (unhide HLX))
      have h2 := hR.sl.len
      omega
    have hXp := hR.pos
    have KP := power_any a m m zs j wr hR.sl hR.rep.ok (by omega) (by omega)
    rw [hR.rep.val] at KP
    have KP' := hide KP
    have hpp : 0 < X ^ j := Nat.pow_pos hXp
    have HR := hide hR
    clear KP hR
    go_wp2_with fail
    refine (unhide KP').mono ?_
    rintro e w1 ⟨a1, m1, z1, rfl, s1, r1, n1, b1⟩
    have hz1 : z1 ≠ [] := by intro e; have := r1.val; rw [e] at this; simp [val] at this; omega
    have hB1 := (unhide HR).bel.trans (b1.mono (unhide HR).bel.size)
    have KD := divide_any an a1 nn cn m1 m1 ns z1 w1 ((unhide HN).below hB1) s1 oN r1.ok nN r1.norm hn hz1
    rw [r1.val] at KD
    have KD' := hide KD
    have HB1 := hide b1
    clear KD s1 r1 n1 b1 hz1 hB1 KP'
    go_wp2_with fail
    refine (unhide KD').mono ?_
    rintro e w2 ⟨aq, mq, zq, ar, mr, zr, rfl, sq, rq, nq, s2, r2, n2, hne, hB⟩
    have hB2 : Below wr.heap.size wr w2 := (unhide HB1).trans (hB.mono (unhide HB1).size)
    have hlq : mq ≤ 2048 := by
      have h1 : zq.length ≤ nn := by
        refine rep_len_leS rq ?_
        have h := val_lt oN
        rw [(unhide HN).len] at h
        exact Nat.lt_of_le_of_lt (Nat.div_le_self _ _) h
      have h2 := sq.len
      omega
    have HQ := hide (And.intro sq (And.intro rq hlq))
    have bel3 := (Below.refl w2.heap.size w2).alloc (Nat.le_refl _) (.cells #[.int .u32 (j : Nat)] 64)
    have hB3 := hB2.trans (bel3.mono hB2.size)
    have KM := multiply_any a _ m m 1 1 zs [j] (w2.alloc (.cells #[.int .u32 (j : Nat)] 64)) ((unhide HR).sl.below hB3) (sl_unit w2 j 64) (unhide HR).rep.ok (Ok.cons (by omega) Ok.nil) (by omega)
    rw [(unhide HR).rep.val, show val [j] = j from by simp [val]] at KM
    have KM' := hide KM
    have HB3 := hide (And.intro hB3 bel3)
    clear KM KD' sq rq nq s2 r2 n2 hne hB hB2 bel3 hB3 hlq HB1
    go_wp2_with fail
    refine (unhide KM').mono ?_
    rintro e w3 ⟨a3, m3, z3, rfl, s3, r3, n3, b3⟩
    have hB4 : Below wr.heap.size wr w3 := (unhide HB3).1.trans (b3.mono (unhide HB3).1.size)
    have hl3 : m3 ≤ mx + 1 := by
      rw [← s3.len]
      refine rep_len_leS r3 ?_
      rw [Nat.pow_succ]
      exact Nat.mul_lt_mul_of_lt_of_le (Nat.lt_of_le_of_lt (unhide HR).top (unhide HLX)) (by omega) (by decide)
    have sq3 := ((unhide HQ).1.below (unhide HB3).2).below b3
    have KA := add_anyF a3 aq m3 m3 mq mq z3 zq w3 s3 sq3 r3.ok (unhide HQ).2.1.ok (by omega) (by have := (unhide HQ).2.2; omega)
    rw [r3.val, (unhide HQ).2.1.val] at KA
    have KA' := hide KA
    have HB4 := hide hB4
    clear KA s3 r3 n3 b3 sq3 hB4 KM'
    go_wp2_with fail
    refine (unhide KA').mono ?_
    rintro e w4 ⟨a4, m4, z4, rfl, s4, r4, n4, b4, f4⟩
    have hz4 : z4 ≠ [] := by
      intro e
      have h1 := r4.val
      rw [e] at h1
      simp only [val] at h1
      have h2 : 1 * 1 ≤ X * j := Nat.mul_le_mul hXp hj
      generalize val ns / X ^ j = qq at h1
      omega
    obtain ⟨bb, ob, rfl, _⟩ := s4.cells.resolve_left hz4
    have F4 := fz_fn s4 f4 hz4
    have hlen4 : m4 ≤ 10000 := by
      rw [← s4.len]
      refine Nat.le_trans (rep_len_leS (j := mx + 2 + nn) r4 ?_) (by omega)
      have e1 : X * j < 4294967296 ^ (mx + 1) := by
        rw [Nat.pow_succ]
        exact Nat.mul_lt_mul_of_lt_of_le (Nat.lt_of_le_of_lt (unhide HR).top (unhide HLX)) (by omega) (by decide)
      have e2 : val ns / X ^ j < 4294967296 ^ nn := by
        have h := val_lt oN
        rw [(unhide HN).len] at h
        exact Nat.lt_of_le_of_lt (Nat.div_le_self _ _) h
      have e3 : (4294967296:Nat) ^ (mx + 1) ≤ 4294967296 ^ (mx + 1 + nn) := pow_mono (by omega)
      have e4 : (4294967296:Nat) ^ nn ≤ 4294967296 ^ (mx + 1 + nn) := pow_mono (by omega)
      have e5 : (4294967296:Nat) ^ (mx + 2 + nn) = 4294967296 ^ (mx + 1 + nn) * 4294967296 := by rw [← Nat.pow_succ]; congr 1; omega
      generalize val ns / X ^ j = qq at *
      generalize X * j = pp at *
      omega
    have hbb : w3.heap.size ≤ bb := n4 _ rfl
    have KL := divideLimb_any bb ob m4 m4 k (fun i => z4.getD i 0) w4 F4 (fun i _ => r4.ok.getD i) (by omega) (by omega) (by omega)
    have hv4 : valF (fun i => z4.getD i 0) m4 = X * j + val ns / X ^ j := by rw [← s4.len, valF_list, r4.val]
    have hB5 := (unhide HB4).trans (b4.mono (unhide HB4).size)
    have KL' := hide KL
    have HV4 := hide hv4
    have HB5 := hide hB5
    have hbw : wr.heap.size ≤ bb := Nat.le_trans (unhide HB4).size hbb
    clear KL s4 r4 n4 b4 f4 hz4 F4 hv4 hB5 hbb KA'
    go_wp2_with fail
    refine (unhide KL').mono ?_
    rintro e w5 ⟨rr, g, rfl, hrr, F5, o5, hv5, U5⟩
    have hY : valF g m4 = (X * j + val ns / X ^ j) / k := by
      rw [← unhide HV4, hv5, Nat.mul_comm, Nat.add_comm, Nat.add_mul_div_left _ _ (by omega), Nat.div_eq_of_lt hrr, Nat.zero_add]
    have KT := trim_any (some ⟨bb, ob, none⟩) m4 m4 _ w5 (F5.sl (Nat.le_refl _) (by unfold maxLen; omega)) (lst_ok o5)
    rw [lst_val, hY] at KT
    have hge2 : r ≤ (X * j + val ns / X ^ j) / k := by
      have h := (unhide HIR).1
      rw [unhide HK] at h ⊢
      exact newton_ge h hXp
    have hlt2 : r < X → (X * j + val ns / X ^ j) / k < X := by
      intro h
      have h2 := (unhide HIR).gt h
      rw [unhide HK] at h2 ⊢
      exact newton_lt h2 hXp
    have HG2 := hide (And.intro hge2 hlt2)
    clear hge2 hlt2 hY hv5
    generalize (X * j + val ns / X ^ j) / k = Y at *
    have KT' := hide KT
    have hxs : Sl w5 a m m zs := by
      refine ((unhide HR).sl.below (unhide HB5)).chg U5.chg ?_
      intro x hx hne
      have := (unhide HR).sl.block_lt hne x hx
      omega
    have HX5 := hide hxs
    have hb05 : Below w0.heap.size w0 w5 := ((unhide HR).bel0.trans ((unhide HB5).mono (unhide HR).bel0.size)).trans (U5.below (Nat.le_trans (unhide HR).bel0.size hbw) (Nat.le_trans (unhide HR).bel0.size (unhide HB5).size))
    have hbw5 : Below w.heap.size w w5 := ((unhide HR).bel.trans ((unhide HB5).mono (unhide HR).bel.size)).trans (U5.below (Nat.le_trans (unhide HR).bel.size hbw) (Nat.le_trans (unhide HR).bel.size (unhide HB5).size))
    have HBB := hide (And.intro hb05 hbw5)
    clear KT hxs hb05 hbw5 F5 o5 U5 KL' HV4 HQ HB3 HB4
    go_wp2_with fail
    refine (unhide KT').mono ?_
    rintro e w' ⟨a6, m6, z6, rfl, s6, r6, h6, hw⟩
    obtain rfl := hw.symm
    have KC := compare_any a6 a m6 m6 m m z6 zs w5 s6 (unhide HX5) r6.ok (unhide HR).rep.ok r6.norm (unhide HR).rep.norm
    rw [r6.val, (unhide HR).rep.val] at KC
    have H6 := hide (And.intro s6 (And.intro r6 h6))
    clear s6 r6 h6 hw KT'
    by_cases hYX : Y < X
    · rw [cmpN_lt hYX] at KC
      have KC' := hide KC
      clear KC
      go_wp2_with fail
      refine (unhide KC').mono ?_
      rintro e w7 ⟨rfl, d, hw⟩
      have HD := hide (show DsR w7 w w0 r X0 Y a6 m6 z6 Y from by
        obtain ⟨s6, r6, h6⟩ := unhide H6
        rw [hw]
        refine ⟨s6.drewN d, r6, (unhide HG2).1, by have := (unhide HG2).1; omega, by have := (unhide HR).top; omega, Nat.le_refl _, ?_, bel_drewN (unhide HBB).1 d, bel_drewN (unhide HBB).2 d⟩
        intro x hx
        rcases h6 with e | e
        · rw [e] at hx; cases hx; exact Nat.le_trans (unhide HR).bel0.size hbw
        · rw [e] at hx; cases hx)
      have HLT := hide (show Y < gk from Nat.lt_of_lt_of_le hYX (unhide HR).lt)
      clear hw KC' hYX
      go_wp2_with fail
      go_roundg Y
      case measure => exact unhide HLT
      case rel => exact ⟨_, _, _, _, rfl, unhide HD⟩
    · have hXr : X = r := by
        rcases Nat.lt_or_eq_of_le (unhide HR).ge with h | h
        · exact absurd ((unhide HG2).2 h) hYX
        · exact h.symm
      have hc0 : 0 ≤ cmpN Y X := by
        rcases Nat.lt_or_eq_of_le (show X ≤ Y by omega) with h | h
        · rw [cmpN_gt h]; decide
        · rw [cmpN_eq h.symm]; decide
      have hc1 : ¬ cmpN Y X < 0 := by omega
      generalize cmpN Y X = cc at *
      have KC' := hide KC
      have HXr := hide hXr
      clear KC hYX hXr
      go_wp2_with fail
      refine (unhide KC').mono ?_
      rintro e w7 ⟨rfl, d, hw⟩
      have HN7 := hide (show Sl w7 a m m zs ∧ Below w0.heap.size w0 w7 from by rw [hw]; exact ⟨(unhide HX5).drewN d, bel_drewN (unhide HBB).1 d⟩)
      clear hw KC'
      go_wp2_with fail
      go_ret
      exact ⟨a, m, zs, rfl, (unhide HN7).1, by rw [← unhide HXr]; exact (unhide HR).rep, (unhide HR).new, (unhide HN7).2⟩
end Go.Proofs.YtpnhmaenmmelnaaDoor
