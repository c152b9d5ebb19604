/-
  Wide numbers: minus: contract.
-/
import Derived.Test.YtcfefobgmhhfkaaGreatDoorWi9
namespace Go.Proofs.YtcfefobgmhhfkaaGreatDoor
open Go.RowKit Go.Deep
set_option linter.unusedVariables false

theorem wide_lt {w : World} {a : Option Addr} {n c v : Nat} {ps : List Pc} (h : Wide w a n c v ps) : v < wD ^ n := by
  rw [← h.val, wv_sF ps n (by rw [h.sl.len]; exact Nat.le_refl _)]
  exact sF_lt wD_pos (fun i _ => (wide_dg h i).2.2.2.2)
theorem wide_ge {w : World} {a : Option Addr} {n c v : Nat} {ps : List Pc} (h : Wide w a n c v ps) (hn : 0 < n) : wD ^ (n - 1) ≤ v := by
  have hl := h.sl.len
  rcases h.top with e | ⟨p, hp, hx⟩
  · rw [e] at hl; simp at hl; omega
  · have hlast : ps[n - 1]? = some p := by rw [List.getLast?_eq_getElem?, hl] at hp; exact hp
    have hmem := List.mem_of_getElem? hlast
    have hge := val_ge_of_norm (h.norm p hmem) hx
    have hpos := pow_pos (p.xs.length - 1)
    have hd : (fun i => val (dgP ps i).xs) (n - 1) ≠ 0 := by
      simp only [dgP, hlast, Option.getD_some]
      omega
    rw [← h.val, wv_sF ps n (by rw [hl]; exact Nat.le_refl _)]
    exact sF_ge (D := wD) wD_pos (f := fun i => val (dgP ps i).xs) (i := n - 1) (n := n) (by omega) hd
theorem wide_len_le {w : World} {a1 a2 : Option Addr} {n1 c1 n2 c2 v1 v2 : Nat} {ps qs : List Pc} (h1 : Wide w a1 n1 c1 v1 ps) (h2 : Wide w a2 n2 c2 v2 qs) (hle : v2 ≤ v1) : n2 ≤ n1 := by
  rcases Nat.lt_or_ge n1 n2 with h | h
  · exfalso
    have k1 := wide_lt h1
    have k2 := wide_ge h2 (by omega)
    have k3 : wD ^ n1 ≤ wD ^ (n2 - 1) := Nat.pow_le_pow_right wD_pos (by omega)
    omega
  · exact h
theorem may_limbs {v : Nat} (h : v < wD * wD) : MayL (limbs v) = true := MayL.mk (limbs_rep v).norm (len_two h)
theorem add_fit {xs ys : List Nat} (m1 : MayL xs = true) (m2 : MayL ys = true) (h : val xs + val ys < wD * wD) : addL xs ys = (limbs (val xs + val ys), 0) := by
  unfold addL
  rw [m1, m2]
  exact fitL_ok (by have := len_two h; omega)
theorem sub_fit {xs ys : List Nat} (m1 : MayL xs = true) (m2 : MayL ys = true) (h : val ys ≤ val xs) : subL xs ys = (limbs (val xs - val ys), 0) := by
  unfold subL
  rw [m1, m2]
  simp only [Bool.and_self, if_true]
  rw [if_neg (by omega)]
theorem mn_zero (f h : Nat → Nat) (l : List Pc) : sF wD f 0 + wD ^ 0 * val pcNil.xs = sF wD h 0 + wv (l.take 0) := by
  have e : val pcNil.xs = 0 := rfl
  rw [e, Nat.mul_zero, List.take_zero]
  rfl
/-- The end: nothing is borrowed. -/
theorem mn_end {A v1 v2 M b : Nat} (h : v1 + M * b = v2 + A) (hA : A < M) (hle : v2 ≤ v1) : A = v1 - v2 := by
  rcases Nat.eq_zero_or_pos b with e | e
  · subst e; omega
  · have : M * 1 ≤ M * b := Nat.mul_le_mul_left M e
    omega
theorem dig_new {w' : World} {a : Option Addr} {m c v g B : Nat} (s : Sl w' a m c (limbs v)) (hv : v < wD) (hn : NewAt B a) (hB : g < B) : Dig w' g ⟨a, m, c, limbs v⟩ :=
  ⟨s, (limbs_rep v).ok, (limbs_rep v).norm, by have h := len_oneD hv; have := s.len; show m ≤ dLimbs; omega, fun _ x hx => by have := hn x hx; omega⟩
theorem dig_one {w' : World} {a : Option Addr} {m c g B : Nat} (s : Sl w' a m c [1]) (hn : NewAt B a) (hB : g < B) : Dig w' g ⟨a, m, c, [1]⟩ :=
  ⟨s, fun x hx => by simp at hx; subst hx; decide, .inr (by show ([1] : List Nat).getD (([1] : List Nat).length - 1) 0 ≠ 0; decide), by have := s.len; show m ≤ dLimbs; rw [dL_eq]; simp at this; omega, fun _ x hx => by have := hn x hx; omega⟩
/-- A place of a row, to be written. -/
theorem RowD.at {w wr : World} {g cap i : Nat} {acc : List Pc} (h : RowD w wr g cap acc) (hi : i < acc.length) : (∃ v, wr.cell? ⟨g, i, none⟩ = some v) ∧ wr.frozen? ⟨g, i, none⟩ = false := by
  rcases h.own with ⟨e0, ⟨e, _⟩ | ⟨g', cap', cur, e, q1, q2, q3, q4, q5, q6⟩⟩
  · cases e
  · simp only [Value.slice.injEq, Option.some.injEq, Addr.mk.injEq, and_true, true_and] at e
    obtain ⟨rfl, rfl⟩ := e
    have hc : i < cur.size := by omega
    exact ⟨⟨cur[i], by simp [World.cell?, q2, hc]⟩, by simp [World.frozen?, q2]⟩
theorem may_wD : MayL (limbs wD) = true := may_limbs (v := wD) (by
  have h1 := wD_two'
  have h2 : wD * 1 < wD * wD := Nat.mul_lt_mul_of_pos_left (by omega) wD_pos
  rw [Nat.mul_one] at h2
  exact h2)
/-- Add of one whole digit's worth. -/
theorem add_wD {xs : List Nat} (m : MayL xs = true) (h : val xs < wD) : addL xs (limbs wD) = (limbs (val xs + wD), 0) := by
  have e := (limbs_rep wD).val
  have h1 := wD_two'
  have hww : 4 * wD ≤ wD * wD := Nat.mul_le_mul_right wD h1
  have k := add_fit m may_wD (by rw [e]; omega)
  rw [e] at k
  exact k
/-- What minus carries along. -/
structure MnI (w wr : World) (g N i : Nat) (f h : Nat → Nat) (acc : List Pc) (bw : Pc) : Prop where
  row : RowD w wr g N acc
  len : acc.length = N
  dig : Dig wr g bw
  small : val bw.xs ≤ 1
  sum : sF wD f i + wD ^ i * val bw.xs = sF wD h i + wv (acc.take i)

set_option maxHeartbeats 8000000 in
set_option maxRecDepth 100000 in
/-- rational.wide.minus. -/
theorem minus_any (a1 a2 : Option Addr) (n1 c1 n2 c2 v1 v2 : Nat) (ps qs : List Pc) (w : World) (h1 : Wide w a1 n1 c1 v1 ps) (h2 : Wide w a2 n2 c2 v2 qs) (hle : v2 ≤ v1) (hn1 : n1 ≤ 1000) :
    Calls Tryz.prog 62 #[.slice a1 n1 c1, .slice a2 n2 c2] w fun e w' => WdPostN n1 w w' (v1 - v2) e := by
  have hn21 := wide_len_le h1 h2 hle
  have e1 : v1 = sF wD (fun i => val (dgP ps i).xs) n1 := by rw [← h1.val]; exact wv_sF ps n1 (by rw [h1.sl.len]; omega)
  have e2 : v2 = sF wD (fun i => val (dgP qs i).xs) n1 := by rw [← h2.val]; exact wv_sF qs n1 (by rw [h2.sl.len]; omega)
  have H1 := hide h1
  have H2 := hide h2
  have HE := hide (And.intro e1 (And.intro e2 hle))
  have hm := make_wide3 n1 (by omega)
  obtain ⟨wa, hwa⟩ : ∃ x, w.alloc (.cells (madeCells #[.slice none 0 0] n1) 23) = x := ⟨_, rfl⟩
  have HR0 := hide (row_nils (n := n1) (m := 0) hwa (by omega))
  clear h1 h2 e1 e2 hle
  go_enter Tryz.func62, Tryz.ntmps62
  go_wp2_with fail
  clear hm hwa
  go_loopw [15, 6, 7, 8, 9] (fun cnt bw _ _ _ wr => ∃ (i : Nat) (acc : List Pc) (B : Pc), i ≤ n1 ∧ cnt = .int .i64 (i : Int) ∧ bw = .slice B.a B.n B.c ∧ MnI w wr w.heap.size n1 i (fun i => val (dgP ps i).xs) (fun i => val (dgP qs i).xs) acc B) (fun cnt _ _ _ _ _ => n1 - (intOf cnt).toNat)
  case atStart => exact ⟨0, List.replicate n1 pcNil, pcNil, Nat.zero_le _, rfl, rfl, ⟨by have h := unhide HR0; rw [Nat.add_zero] at h; exact h, by simp, dig_nil _ _, (by show (0 : Nat) ≤ 1; omega), mn_zero _ _ _⟩⟩
  case round =>
    obtain ⟨i, acc, B, hi, rfl, rfl, hst⟩ := hrel
    have HSt := hide hst
    have hgl := hst.row.lt
    by_cases hlti : i < n1
    · have hlti' : (i : Int) < (n1 : Int) := by omega
      have hi0 : (0 : Int) ≤ (i : Int) := by omega
      have W1 := (unhide H1).below hst.row.bel
      have W2 := (unhide H2).below hst.row.bel
      obtain ⟨s1, o1, m1, l1, d1⟩ := wide_dg W1 i
      obtain ⟨s2, o2, m2, l2, d2⟩ := wide_dg W2 i
      obtain ⟨b1, f1, P, rfl, hp, hc1, _, _⟩ := W1.sl.at' hlti
      have eP : dgP ps i = P := by unfold dgP; rw [hp]; rfl
      obtain ⟨Q, eQ⟩ : ∃ Q, dgP qs i = Q := ⟨_, rfl⟩
      rw [eP] at s1 o1 m1 l1 d1
      rw [eQ] at s2 o2 m2 l2 d2
      have y1 := dL_may s1.len m1 l1
      have y2 := dL_may s2.len m2 l2
      have yB := dL_may hst.dig.sl.len hst.dig.norm hst.dig.len
      have hsm := hst.small
      have hw4 := wD_two'
      have hww : 4 * wD ≤ wD * wD := Nat.mul_le_mul_right wD hw4
      have hadd := add_fit y2 yB (by omega)
      obtain ⟨TK, hTK⟩ : ∃ T, val Q.xs + val B.xs = T := ⟨_, rfl⟩
      rw [hTK] at hadd
      have hTw : TK ≤ wD := by omega
      have HMT := hide (may_limbs (v := TK) (by omega))
      have HKD := hide (fun (W : World) (hb : Below wr.heap.size wr W) => (by have K := wdigit_any a2 n2 c2 qs W (W2.below hb).sl i; rw [eQ] at K; exact K : Calls Tryz.prog 109 #[.slice a2 n2 c2, .int .i64 (i : Int)] W fun e w' => e = .returned (.slice Q.a Q.n Q.c) ∧ w' = W))
      have HKA := hide (fun (W : World) (hb : Below wr.heap.size wr W) => (by have K := nadd_any Q.a B.a Q.n Q.c B.n B.c Q.xs B.xs W (s2.below hb) (hst.dig.sl.below hb) o2 hst.dig.ok; rw [hadd] at K; exact K : Calls Tryz.prog 105 #[.slice Q.a Q.n Q.c, .slice B.a B.n B.c] W fun e w' => Res2 W w' (limbs TK, 0) e))
      have HP := hide (And.intro s1 (And.intro o1 (And.intro y1 (And.intro eP (And.intro eQ hTK)))))
      clear W1 W2 s1 o1 m1 l1 s2 o2 m2 l2 hp eP eQ y1 y2 yB hadd hst
      go_wp2_with fail
      go_region_with (first
        | (go_at_call 109; refine (unhide HKD _ ?_).mono ?_; exact (Below.refl _ _).drew; rintro _ _ ⟨rfl, hw⟩; obtain rfl := hw.symm; clear hw)
        | (go_at_call 105; refine (unhide HKA _ ?_).mono ?_; exact (Below.refl _ _).drew; rintro _ wc ⟨at_, nt, ct, rfl, st, nw, bd⟩; have hbM : Below wr.heap.size wr wc := (Below.refl wr.heap.size wr).drew.trans bd; have c9 := (hbM.cell (p := ⟨b1, f1 + i, none⟩) (World.block_lt_of_cell? _ _ hc1)).trans hc1; have HT := hide (And.intro st hbM); clear st nw bd hbM)
        | (go_at_call 93; refine (sure_any _ _ _).mono ?_; rintro _ _ ⟨rfl, hw⟩; obtain rfl := hw.symm; clear hw))
      all_goals
        have hbM := (unhide HT).2
        have KC := ncmp_any P.a at_ P.n P.c nt ct P.xs (limbs TK) wc ((unhide HP).1.below hbM) (unhide HT).1 (unhide HP).2.1 (limbs_rep TK).ok
        rw [show cmpL P.xs (limbs TK) = cmpN (val P.xs) TK from by unfold cmpL; rw [(unhide HP).2.2.1, unhide HMT, (limbs_rep TK).val]; rfl] at KC
        by_cases hlt : val P.xs < TK
        · rw [cmpN_lt hlt] at KC
          have HKC := hide KC
          clear KC hbM
          go_wp2_with fail
          refine (unhide HKC).mono ?_
          rintro _ wd ⟨rfl, kk, hwd⟩
          have hbd : Below wr.heap.size wr wd := by rw [hwd]; exact bel_drewN (unhide HT).2 kk
          have hTd : Sl wd at_ nt ct (limbs TK) := (unhide HT).1.below (by rw [hwd]; exact bel_drewN (Below.refl _ _) kk)
          have HD := hide (And.intro hbd hTd)
          have hgd : w.heap.size < wd.heap.size := Nat.lt_of_lt_of_le hgl hbd.size
          clear hwd hbd hTd HKC
          go_wp2_with fail
          refine (ratOne_any wd).mono ?_
          rintro _ we ⟨ao, mo, rfl, so, no, bo⟩
          have m1 : MayL [1] = true := by decide
          have hS := shl_wD m1 (show val [1] < wD by have : val [1] = 1 := rfl; omega)
          rw [show val [1] = 1 from rfl, Nat.one_mul] at hS
          have KS := nshl_any ao mo mo [1] we 32768 so (by intro x hx; simp at hx; subst hx; decide)
          rw [hS] at KS
          have HKS := hide KS
          have HO := hide (And.intro so (And.intro no bo))
          clear so no bo hS KS m1
          go_wp2_with fail
          refine (unhide HKS).mono ?_
          rintro _ wf ⟨as_, ms, cs, rfl, ss, ns, bs⟩
          dsimp only at ss
          have hbwf : Below wd.heap.size wd wf := (unhide HO).2.2.trans (bs.mono (unhide HO).2.2.size)
          have hadd := add_wD (unhide HP).2.2.1 d1
          have hbrf : Below wr.heap.size wr wf := (unhide HD).1.trans (hbwf.mono (unhide HD).1.size)
          have KA := nadd_any P.a as_ P.n P.c ms cs P.xs (limbs wD) wf ((unhide HP).1.below hbrf) ss (unhide HP).2.1 (limbs_rep wD).ok
          rw [hadd] at KA
          have HKA2 := hide KA
          have HF := hide (And.intro hbwf (And.intro hbrf bs))
          clear ss ns bs hbwf hbrf hadd KA HKS
          go_wp2_with fail
          refine (sure_any _ _ _).mono ?_
          rintro _ _ ⟨rfl, hw⟩
          obtain rfl := hw.symm
          clear hw
          go_wp2_with fail
          refine (unhide HKA2).mono ?_
          rintro _ wg ⟨af, mf, cf, rfl, sf_, nf, bf⟩
          dsimp only at sf_
          have hsub := sub_fit (may_limbs (v := val P.xs + wD) (by omega)) (unhide HMT) (by rw [(limbs_rep TK).val, (limbs_rep (val P.xs + wD)).val]; omega)
          rw [(limbs_rep TK).val, (limbs_rep (val P.xs + wD)).val] at hsub
          have hbdg : Below wd.heap.size wd wg := (unhide HF).1.trans (bf.mono (unhide HF).1.size)
          have KB := nsub_any af at_ mf cf nt ct (limbs (val P.xs + wD)) (limbs TK) wg sf_ ((unhide HD).2.below hbdg) (limbs_rep _).ok (limbs_rep TK).ok
          rw [hsub] at KB
          have HKB := hide KB
          have HG := hide (And.intro hbdg ((unhide HD).1.trans (hbdg.mono (unhide HD).1.size)))
          have hgg : w.heap.size < wg.heap.size := Nat.lt_of_lt_of_le hgd hbdg.size
          have hdO := dig_one ((unhide HO).1.below ((unhide HF).2.2.trans (bf.mono (unhide HF).2.2.size))) (unhide HO).2.1 hgd
          have HDO := hide hdO
          clear sf_ nf bf hsub hbdg KB HKA2 hdO
          go_wp2_with fail
          refine (sure_any _ _ _).mono ?_
          rintro _ _ ⟨rfl, hw⟩
          obtain rfl := hw.symm
          clear hw
          go_wp2_with fail
          refine (unhide HKB).mono ?_
          rintro _ wh ⟨az, mz, cz, rfl, sz, nz, bz⟩
          dsimp only at sz
          have hdB := (unhide HDO).below bz
          have hR := (unhide HSt).row.below ((unhide HG).2.trans (bz.mono (unhide HG).2.size))
          have hil : i < acc.length := by rw [(unhide HSt).len]; exact hlti
          obtain ⟨⟨zv, z0⟩, z1⟩ := hR.at hil
          have hdn : Dig wh w.heap.size ⟨az, mz, cz, limbs (val P.xs + wD - TK)⟩ := dig_new sz (by omega) nz (by omega)
          have HFin := hide (show MnI w (wh.setCell ⟨w.heap.size, i, none⟩ (.slice az mz cz)) w.heap.size n1 (i + 1) (fun i => val (dgP ps i).xs) (fun i => val (dgP qs i).xs) (acc.set i ⟨az, mz, cz, limbs (val P.xs + wD - TK)⟩) ⟨ao, mo, mo, [1]⟩ from by
            have hc : Chg (fun k => k = w.heap.size) wh (wh.setCell ⟨w.heap.size, i, none⟩ (.slice az mz cz)) := Chg.of_set (S := fun k => k = w.heap.size) _ _ _ _ rfl
            refine ⟨hR.put hil hdn, by rw [List.length_set]; exact (unhide HSt).len, ?_, (by show val [1] ≤ 1; decide), ?_⟩
            · have hB := hdB
              exact ⟨hB.sl.chg hc (fun x hx hn => hB.off hn x hx), hB.ok, hB.norm, hB.len, hB.off⟩
            · rw [wv_take_set hil]
              refine mn_step (unhide HSt).sum ?_
              show val (dgP ps i).xs + wD * _ = _ + val (dgP qs i).xs + val (limbs (val P.xs + wD - TK))
              rw [(unhide HP).2.2.2.1, (unhide HP).2.2.2.2.1, (limbs_rep _).val]
              have hTK := (unhide HP).2.2.2.2.2
              have e1 : val [1] = 1 := rfl
              show val P.xs + wD * val [1] = _
              rw [e1]
              omega)
          clear hR hdn hdB sz nz bz
          go_wp2_with fail
          refine (sure_any _ _ _).mono ?_
          rintro _ _ ⟨rfl, hw⟩
          obtain rfl := hw.symm
          clear hw
          go_wp2_with fail
          exact ⟨⟨i + 1, _, ⟨ao, mo, mo, [1]⟩, by omega, by go_num, rfl, unhide HFin⟩, by simp [intOf]; omega⟩
        · have hc0 : ¬ cmpN (val P.xs) TK < 0 := by
            rcases Nat.lt_trichotomy (val P.xs) TK with h | h | h
            · omega
            · rw [cmpN_eq h]; decide
            · rw [cmpN_gt h]; decide
          obtain ⟨cv, hcv⟩ : ∃ cv, cmpN (val P.xs) TK = cv := ⟨_, rfl⟩
          rw [hcv] at KC hc0
          have HKC := hide KC
          clear KC hbM hcv
          go_wp2_with fail
          refine (unhide HKC).mono ?_
          rintro _ wd ⟨rfl, kk, hwd⟩
          have hbd : Below wr.heap.size wr wd := by rw [hwd]; exact bel_drewN (unhide HT).2 kk
          have hTd : Sl wd at_ nt ct (limbs TK) := (unhide HT).1.below (by rw [hwd]; exact bel_drewN (Below.refl _ _) kk)
          have hgd : w.heap.size < wd.heap.size := Nat.lt_of_lt_of_le hgl hbd.size
          have hsub := sub_fit (unhide HP).2.2.1 (unhide HMT) (by rw [(limbs_rep TK).val]; omega)
          rw [(limbs_rep TK).val] at hsub
          have KB := nsub_any P.a at_ P.n P.c nt ct P.xs (limbs TK) wd ((unhide HP).1.below hbd) hTd (unhide HP).2.1 (limbs_rep TK).ok
          rw [hsub] at KB
          have HKB := hide KB
          have HD := hide hbd
          clear hwd hbd hTd HKC hsub KB
          go_wp2_with fail
          refine (unhide HKB).mono ?_
          rintro _ wh ⟨az, mz, cz, rfl, sz, nz, bz⟩
          dsimp only at sz
          have hdB := dig_nil wh w.heap.size
          have hR := (unhide HSt).row.below ((unhide HD).trans (bz.mono (unhide HD).size))
          have hil : i < acc.length := by rw [(unhide HSt).len]; exact hlti
          obtain ⟨⟨zv, z0⟩, z1⟩ := hR.at hil
          have hdn : Dig wh w.heap.size ⟨az, mz, cz, limbs (val P.xs - TK)⟩ := dig_new sz (by omega) nz (by omega)
          have HFin := hide (show MnI w (wh.setCell ⟨w.heap.size, i, none⟩ (.slice az mz cz)) w.heap.size n1 (i + 1) (fun i => val (dgP ps i).xs) (fun i => val (dgP qs i).xs) (acc.set i ⟨az, mz, cz, limbs (val P.xs - TK)⟩) pcNil from by
            have hc : Chg (fun k => k = w.heap.size) wh (wh.setCell ⟨w.heap.size, i, none⟩ (.slice az mz cz)) := Chg.of_set (S := fun k => k = w.heap.size) _ _ _ _ rfl
            refine ⟨hR.put hil hdn, by rw [List.length_set]; exact (unhide HSt).len, ?_, (by show (0 : Nat) ≤ 1; omega), ?_⟩
            · have hB := hdB
              exact ⟨hB.sl.chg hc (fun x hx hn => hB.off hn x hx), hB.ok, hB.norm, hB.len, hB.off⟩
            · rw [wv_take_set hil]
              refine mn_step (unhide HSt).sum ?_
              show val (dgP ps i).xs + wD * _ = _ + val (dgP qs i).xs + val (limbs (val P.xs - TK))
              rw [(unhide HP).2.2.2.1, (unhide HP).2.2.2.2.1, (limbs_rep _).val]
              have hTK := (unhide HP).2.2.2.2.2
              have e1 : val pcNil.xs = 0 := rfl
              rw [e1]
              omega)
          clear hR hdn hdB sz nz bz
          go_wp2_with fail
          refine (sure_any _ _ _).mono ?_
          rintro _ _ ⟨rfl, hw⟩
          obtain rfl := hw.symm
          clear hw
          go_wp2_with fail
          exact ⟨⟨i + 1, _, pcNil, by omega, by go_num, rfl, unhide HFin⟩, by simp [intOf]; omega⟩
    · have hlti' : ¬ (i : Int) < (n1 : Int) := by omega
      have hin : i = n1 := by omega
      have hlen := hst.len
      have hval : wv acc = v1 - v2 := by
        have hs := hst.sum
        rw [hin, List.take_of_length_le (by omega)] at hs
        have e1 := (unhide HE).1
        have e2 := (unhide HE).2.1
        rw [← e1, ← e2] at hs
        have hA : wv acc < wD ^ n1 := by
          rw [wv_sF acc n1 (by omega)]
          refine sF_lt wD_pos (fun j hj => ?_)
          have hj2 : j < acc.length := by omega
          have hd := hst.row.each acc[j] (List.getElem_mem hj2)
          have e : dgP acc j = acc[j] := by unfold dgP; rw [List.getElem?_eq_getElem hj2]; rfl
          show val (dgP acc j).xs < wD
          rw [e]
          have h1 := val_lt hd.ok
          have h2 : 4294967296 ^ acc[j].xs.length ≤ 4294967296 ^ dLimbs := pow_mono (by rw [hd.sl.len]; exact hd.len)
          rw [← wD_def] at h2
          omega
        exact mn_end hs hA (unhide HE).2.2
      have hsl := hst.row.sl
      rw [hlen] at hsl
      have KT := wtrim_any (some ⟨w.heap.size, 0, none⟩) n1 n1 acc wr hsl (by omega)
      have HKT := hide KT
      have HV := hide hval
      have HLn := hide hlen
      clear hin hlen hval hsl KT hst
      go_wp2_with fail
      refine (unhide HKT).mono ?_
      rintro _ _ ⟨m, qz, rfl, sz, tz, hw⟩
      obtain rfl := hw.symm
      have hWd := pl_end (N := 0) (unhide HSt).row tz sz
      rw [unhide HV] at hWd
      have hmle := tz.le
      rw [unhide HLn] at hmle
      have HFin := hide (And.intro hWd (And.intro hmle (unhide HSt).row.bel))
      clear hw sz tz hWd hmle HKT
      go_wp2_with fail
      go_ret
      exact ⟨_, _, _, qz, rfl, (unhide HFin).1, (unhide HFin).2.1, (unhide HFin).2.2⟩
end Go.Proofs.YtcfefobgmhhfkaaGreatDoor
