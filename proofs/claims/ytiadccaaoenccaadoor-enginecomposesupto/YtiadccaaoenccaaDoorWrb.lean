/- Wrb -/
import Derived.Test.YtiadccaaoenccaaDoorWra
import Derived.Deep.LoopGhost
namespace Go.Proofs.YtiadccaaoenccaaDoor
open Go.RowKit Go.Deep
set_option linter.unusedVariables false
theorem odd_cop {u : Nat} (h : u % 2 = 1) (k : Nat) : Nat.Coprime (2 ^ k) u := by
  apply Nat.Coprime.pow_left
  show Nat.gcd 2 u = 1
  rw [Nat.gcd_rec, h, Nat.gcd_one_left]
theorem wgcd_odd {u : Nat} (h : u % 2 = 1) (x k : Nat) : Nat.gcd (x * 2 ^ k) u = Nat.gcd x u := Nat.Coprime.gcd_mul_right_cancel x (odd_cop h k)
theorem wgcd_odd' {u : Nat} (h : u % 2 = 1) (x k : Nat) : Nat.gcd u (x * 2 ^ k) = Nat.gcd u x := by rw [Nat.gcd_comm, wgcd_odd h, Nat.gcd_comm]
theorem gcd_parts1 {u1 u2 k1 k2 : Nat} (h1 : u1 % 2 = 1) (h : k1 ≤ k2) : Nat.gcd (u1 * 2 ^ k1) (u2 * 2 ^ k2) = Nat.gcd u1 u2 * 2 ^ k1 := by
  obtain ⟨d, rfl⟩ : ∃ d, k2 = d + k1 := ⟨k2 - k1, by omega⟩
  rw [Nat.pow_add, ← Nat.mul_assoc, Nat.gcd_mul_right, wgcd_odd' h1]
theorem gcd_parts2 {u1 u2 k1 k2 : Nat} (h2 : u2 % 2 = 1) (h : k2 ≤ k1) : Nat.gcd (u1 * 2 ^ k1) (u2 * 2 ^ k2) = Nat.gcd u1 u2 * 2 ^ k2 := by
  rw [Nat.gcd_comm, gcd_parts1 h2 h, Nat.gcd_comm]
theorem gcd_less {a b : Nat} (h : b ≤ a) : Nat.gcd (a - b) b = Nat.gcd a b := by
  obtain ⟨c, rfl⟩ : ∃ c, a = b + c := ⟨a - b, by omega⟩
  rw [Nat.add_sub_cancel_left, Nat.gcd_comm, Nat.gcd_comm (b + c)]
  rw [Nat.add_comm, Nat.gcd_add_self_right]

structure GwR (wr w : World) (M G g : Nat) (aa : Option Addr) (ma ca A : Nat) (ab : Option Addr) (mb cb Bv : Nat) : Prop where
  oa : Ow wr w.heap.size aa ma ca (limbs A)
  ob : Ow wr w.heap.size ab mb cb (limbs Bv)
  ne : ∀ k, AtB aa k → ¬ AtB ab k
  odd : Bv % 2 = 1
  gcd : Nat.gcd A Bv = G
  gh : g = A + Bv
  ba : A < 4294967296 ^ M
  bb : Bv < 4294967296 ^ M
  bel : Below w.heap.size w wr

theorem GwR.stripped {wr w w3 : World} {M G g : Nat} {aa : Option Addr} {ma ca A : Nat} {ab : Option Addr} {mb cb Bv m2 k2 A2 : Nat} (h : GwR wr w M G g aa ma ca A ab mb cb Bv) (p : StrP wr w3 w.heap.size aa ca A m2 k2 A2) : Nat.gcd A2 Bv = G := by
  rw [← h.gcd, p.eq, wgcd_odd h.odd]
theorem GwR.le {wr w w3 : World} {A m2 k2 A2 ca : Nat} {aa : Option Addr} (p : StrP wr w3 w.heap.size aa ca A m2 k2 A2) : A2 ≤ A ∧ 0 < A2 := by
  have h2 : A2 * 1 ≤ A2 * 2 ^ k2 := Nat.mul_le_mul_left _ (Nat.two_pow_pos _)
  have := p.eq
  have := p.odd
  omega
theorem GwR.less {wr w w3 w6 : World} {M G g : Nat} {aa : Option Addr} {ma ca A : Nat} {ab : Option Addr} {mb cb Bv m2 k2 A2 m6 j : Nat} (h : GwR wr w M G g aa ma ca A ab mb cb Bv) (p : StrP wr w3 w.heap.size aa ca A m2 k2 A2) (hlt : A2 < Bv)
    (hO6 : Ow w6 w.heap.size ab m6 cb (limbs (Bv - A2))) (hc6 : Chg (fun k => AtB ab k) (w3.drewN j) w6) : ∃ g6, g6 < g ∧ GwR w6 w M G g6 ab m6 cb (Bv - A2) aa m2 ca A2 := by
  have hl := GwR.le p
  have h6 : Chg (fun k => AtB ab k) w3 w6 := (Chg.of_drewN w3 j).trans hc6
  have hb3 : Below w.heap.size w w3 := h.bel.trans (p.chg.below h.bel.size (fun k hk hh => by have := (h.oa.lt hh).1; omega))
  refine ⟨Bv - A2 + A2, by have := h.gh; omega, hO6, p.own.chg h6 (fun k hk hh => h.ne k hk hh), fun k hk hh => h.ne k hh hk, p.odd, ?_, rfl, by have := h.bb; omega, by have := h.ba; omega, hb3.trans (h6.below hb3.size (fun k hk hh => by have := (h.ob.lt hh).1; omega))⟩
  rw [gcd_less (by omega), Nat.gcd_comm]
  exact h.stripped p
theorem GwR.more {wr w w3 w6 : World} {M G g : Nat} {aa : Option Addr} {ma ca A : Nat} {ab : Option Addr} {mb cb Bv m2 k2 A2 m6 j : Nat} (h : GwR wr w M G g aa ma ca A ab mb cb Bv) (p : StrP wr w3 w.heap.size aa ca A m2 k2 A2) (hge : Bv ≤ A2)
    (hO6 : Ow w6 w.heap.size aa m6 ca (limbs (A2 - Bv))) (hc6 : Chg (fun k => AtB aa k) (w3.drewN j) w6) : ∃ g6, g6 < g ∧ GwR w6 w M G g6 aa m6 ca (A2 - Bv) ab mb cb Bv := by
  have hl := GwR.le p
  have hod := h.odd
  have h6 : Chg (fun k => AtB aa k) w3 w6 := (Chg.of_drewN w3 j).trans hc6
  have hb3 : Below w.heap.size w w3 := h.bel.trans (p.chg.below h.bel.size (fun k hk hh => by have := (h.oa.lt hh).1; omega))
  refine ⟨A2 - Bv + Bv, by have := h.gh; omega, hO6, (h.ob.chg p.chg (fun k hk hh => h.ne k hh hk)).chg h6 (fun k hk hh => h.ne k hh hk), h.ne, h.odd, ?_, rfl, by have := h.ba; omega, h.bb, hb3.trans (h6.below hb3.size (fun k hk hh => by have := (h.oa.lt hh).1; omega))⟩
  rw [gcd_less hge]
  exact h.stripped p

set_option maxRecDepth 100000 in
set_option maxHeartbeats 16000000 in
theorem wgcd_any (a1 a2 : Option Addr) (n1 c1 n2 c2 : Nat) (xs ys : List Nat) (w : World) (h1 : Sl w a1 n1 c1 xs) (h2 : Sl w a2 n2 c2 ys) (ox : Ok xs) (oy : Ok ys) (nx : Norm xs) (ny : Norm ys) (hx : xs ≠ []) (hy : ys ≠ []) (hb1 : n1 ≤ 10000000) (hb2 : n2 ≤ 10000000) :
    Calls Tryd.prog 55 #[.slice a1 n1 c1, .slice a2 n2 c2] w fun e w' => NewL w w' (Nat.gcd (val xs) (val ys)) e := by
  have n1p : 0 < n1 := by rw [← h1.len]; exact List.length_pos_iff.2 hx
  have n2p : 0 < n2 := by rw [← h2.len]; exact List.length_pos_iff.2 hy
  have t1 : ((n1:Int) == 0) = false := by simp; omega
  have t2 : ((n2:Int) == 0) = false := by simp; omega
  have v1 : 0 < val xs := Nat.pos_of_ne_zero (val_ne nx hx)
  have v2 : 0 < val ys := Nat.pos_of_ne_zero (val_ne ny hy)
  obtain ⟨M, hM⟩ : ∃ M, M = n1 + n2 := ⟨_, rfl⟩
  have hMb : M ≤ 20000000 := by omega
  have b1 : val xs < 4294967296 ^ M := by
    have := val_lt ox
    rw [h1.len] at this
    exact Nat.lt_of_lt_of_le this (Nat.pow_le_pow_right (by decide) (by omega))
  have b2 : val ys < 4294967296 ^ M := by
    have := val_lt oy
    rw [h2.len] at this
    exact Nat.lt_of_lt_of_le this (Nat.pow_le_pow_right (by decide) (by omega))
  have HNil1 : a1 = none → c1 = 0 := fun e => by
    rcases h1.cells with h | ⟨b, off, h, _⟩
    · exact absurd h hx
    · rw [e] at h; cases h
  have HNil2 : a2 = none → c2 = 0 := fun e => by
    rcases h2.cells with h | ⟨b, off, h, _⟩
    · exact absurd h hy
    · rw [e] at h; cases h
  have HK1 := hide (wcopied_any a1 n1 c1 xs w h1 HNil1 (by omega))
  have HK2 := hide (fun w' (hb : Below w.heap.size w w') => wcopied_any a2 n2 c2 ys w' (h2.below hb) HNil2 (by omega))
  have LX := hide (limbs_of ox nx)
  have LY := hide (limbs_of oy ny)
  obtain ⟨V, hV⟩ : ∃ V, Nat.gcd (val xs) (val ys) = V := ⟨_, rfl⟩
  have HV := hide hV
  rw [hV]
  obtain ⟨v, hv⟩ : ∃ v, val xs = v := ⟨_, rfl⟩
  obtain ⟨u, hu⟩ : ∃ u, val ys = u := ⟨_, rfl⟩
  rw [hv] at HV LX v1 b1
  rw [hu] at HV LY v2 b2
  clear h1 h2 ox oy nx ny hx hy HNil1 HNil2 hM hV hv hu
  go_enter Tryd.func55, Tryd.ntmps55
  go_wp2_with fail
  refine (unhide HK1).mono ?_
  rintro e w1 ⟨aa, ca, rfl, hO1, hB1⟩
  have K := unhide HK2 w1 hB1
  have HK3 := hide K
  rw [← unhide LX] at hO1
  have HO1 := hide hO1
  have HB1 := hide hB1
  clear K hO1 hB1 HK1 HK2
  go_wp2_with fail
  refine (unhide HK3).mono ?_
  rintro e w2 ⟨ab, cb, rfl, hO2, hB2⟩
  rw [← unhide LY] at hO2
  have hOa := (unhide HO1).below hB2
  have hne : ∀ k, AtB aa k → ¬ AtB ab k := fun k h h' => by have := ((unhide HO1).lt h).2; have := (hO2.lt h').1; omega
  have hOb := hO2.mono (B' := w.heap.size) (unhide HB1).size
  have HB2 := hide ((unhide HB1).trans (hB2.mono (unhide HB1).size))
  have HK4 := hide (wstrip_any aa w.heap.size n1 ca v w2 hOa v1 (by omega))
  have HF := hide (And.intro hOa (And.intro hOb hne))
  clear hO2 hB2 hOa hOb hne HK3 HO1 HB1
  go_wp2_with fail
  refine (unhide HK4).mono ?_
  rintro e w3 ⟨m1, k1, U1, rfl, hP1⟩
  obtain ⟨hOa, hOb, hne⟩ := unhide HF
  have hOb3 := hOb.chg hP1.chg (fun k hk h => hne k h hk)
  have HB3 := hide ((unhide HB2).trans (hP1.chg.below (unhide HB2).size (fun k hk h => by have := (hOa.lt h).1; omega)))
  have HK5 := hide (wstrip_any ab w.heap.size n2 cb u w3 hOb3 v2 (by omega))
  have HF2 := hide (And.intro hP1 (And.intro hOb3 hne))
  clear hP1 hOa hOb hne hOb3 HF HB2 HK4
  go_wp2_with fail
  refine (unhide HK5).mono ?_
  rintro e w4 ⟨m2, k2, U2, rfl, hP2⟩
  obtain ⟨hP1, hOb3, hne⟩ := unhide HF2
  have l1 := GwR.le (w := w) hP1
  have l2 := GwR.le (w := w) hP2
  have HB4 := (unhide HB3).trans (hP2.chg.below (unhide HB3).size (fun k hk h => by have := (hOb3.lt h).1; omega))
  have hst : GwR w4 w M (Nat.gcd U1 U2) (U1 + U2) aa m1 ca U1 ab m2 cb U2 := ⟨hP1.own.chg hP2.chg (fun k hk h => hne k hk h), hP2.own, hne, hP2.odd, rfl, rfl, by omega, by omega, HB4⟩
  have kb1 := two_pow_bound b1 hP1.eq l1.2
  have kb2 := two_pow_bound b2 hP2.eq l2.2
  have hE1 := hP1.eq
  have hE2 := hP2.eq
  have hG1 : k1 ≤ k2 → Nat.gcd U1 U2 * 2 ^ k1 = V := fun h => by rw [← unhide HV, hE1, hE2, gcd_parts1 hP1.odd h]
  have hG2 : k2 ≤ k1 → Nat.gcd U1 U2 * 2 ^ k2 = V := fun h => by rw [← unhide HV, hE1, hE2, gcd_parts2 hP2.odd h]
  have HG1 := hide hG1
  have HG2 := hide hG2
  obtain ⟨G, hG⟩ : ∃ G, Nat.gcd U1 U2 = G := ⟨_, rfl⟩
  rw [hG] at hst HG1 HG2
  have HST := hide hst
  clear hst hG hG1 hG2 hE1 hE2 hP1 hP2 hOb3 hne l1 l2 HB4 HB3 HF2 HK5 HV LX LY v1 v2 b1 b2
  by_cases hk : k2 < k1
  · have tk : (k2:Int) < (k1:Int) := by omega
    obtain ⟨KK, hKK⟩ : ∃ K, k2 = K := ⟨_, rfl⟩
    have HGV := hide (unhide HG2 (by omega))
    rw [hKK] at HGV kb2 tk hk
    subst hKK
    clear HG1 HG2 hk
    go_wp2_with fail
    clear tk
    go_loopg [0, 1] (U1 + U2) (fun g av bv wr => ∃ aa ma ca A ab mb cb Bv, av = .slice aa ma ca ∧ bv = .slice ab mb cb ∧ GwR wr w M G g aa ma ca A ab mb cb Bv)
    case atStart => exact ⟨_, _, _, _, _, _, _, _, rfl, rfl, unhide HST⟩
    case round =>
      clear HST
      obtain ⟨aa, ma, ca, A, ab, mb, cb, Bv, rfl, rfl, hR⟩ := hrel
      have hmb : mb ≤ M := by rw [← hR.ob.len]; exact limbs_len hR.bb
      have hma : ma ≤ M := by rw [← hR.oa.len]; exact limbs_len hR.ba
      by_cases h0 : ma = 0
      · have t1 : ¬ (0:Int) < (ma:Int) := by omega
        have hA : A = 0 := limbs_eq_nil.1 (List.eq_nil_of_length_eq_zero (by rw [hR.oa.len, h0]))
        have hg : Bv = G := by have := hR.gcd; rw [hA, Nat.gcd_zero_left] at this; exact this
        have K := wraise_any ab mb cb (limbs Bv) wr k2 hR.ob.sl (limbs_ok _) (by omega) (by omega)
        rw [limbs_v, hg, unhide HGV] at K
        have HK := hide K
        have HB := hide hR.bel
        clear K hR hg hA h0
        go_wp2_with fail
        refine (unhide HK).mono ?_
        rintro e w' ⟨a', m', c', rfl, hS, hN, hnl, hb⟩
        have HX := hide (And.intro hS (And.intro hN (And.intro hnl hb)))
        clear hS hN hnl hb HK
        go_wp2_with fail
        go_ret
        obtain ⟨p1, p2, p3, p4⟩ := unhide HX
        exact ⟨_, _, _, rfl, p1, fun x hx => Nat.le_trans (unhide HB).size (p2 x hx), p3, (unhide HB).trans (p4.mono (unhide HB).size)⟩
      · have t1 : (0:Int) < (ma:Int) := by omega
        have hA : 0 < A := by
          rcases Nat.eq_zero_or_pos A with h | h
          · exfalso
            have := hR.oa.len
            rw [h] at this
            simp [limbs_zero] at this
            omega
          · exact h
        have HK := hide (wstrip_any aa w.heap.size ma ca A wr hR.oa hA (by omega))
        have HR := hide hR
        clear hR h0
        go_wp2_with fail
        refine (unhide HK).mono ?_
        rintro e w3 ⟨m9, k9, A2, rfl, hP⟩
        have hR := unhide HR
        have hob := hR.ob.chg hP.chg (fun k hk h => hR.ne k h hk)
        have hm9 : m9 ≤ M := by
          rw [← hP.own.len]
          refine limbs_len (Nat.lt_of_le_of_lt ?_ hR.ba)
          have := hP.eq
          have h2 : A2 * 1 ≤ A2 * 2 ^ k9 := Nat.mul_le_mul_left _ (Nat.two_pow_pos _)
          omega
        clear HK HR
        by_cases hs1 : m9 ≤ 2
        · have t2 : (m9:Int) ≤ 2 := by omega
          by_cases hs2 : mb ≤ 2
          · have t3 : (mb:Int) ≤ 2 := by omega
            have K1 := wsmall_any aa m9 ca (limbs A2) w3 hP.own.sl (limbs_ok _) hs1
            have K2 := wsmall_any ab mb cb (limbs Bv) w3 hob.sl (limbs_ok _) hs2
            rw [limbs_v] at K1 K2
            have b1 : A2 < 18446744073709551616 := by
              have := limbs_lt A2
              have h2 : 4294967296 ^ (limbs A2).length ≤ 4294967296 ^ 2 := Nat.pow_le_pow_right (by decide) (by rw [hP.own.len]; exact hs1)
              omega
            have b2 : Bv < 18446744073709551616 := by
              have := limbs_lt Bv
              have h2 : 4294967296 ^ (limbs Bv).length ≤ 4294967296 ^ 2 := Nat.pow_le_pow_right (by decide) (by rw [hob.len]; exact hs2)
              omega
            have hg : Nat.gcd A2 Bv = G := hR.stripped hP
            have hG : G < 18446744073709551616 := by
              rw [← hg]
              exact Nat.lt_of_le_of_lt (Nat.gcd_le_right _ (by have := hR.odd; omega)) b2
            have K3 := weuclid_any A2 Bv w3 b1 b2
            rw [hg] at K3
            have HK1 := hide K1
            have HK2 := hide K2
            have HK3 := hide K3
            have HK4 := hide (wlimbs_any G w3 hG)
            have HB := hide (hR.bel.trans (hP.chg.below hR.bel.size (fun k hk h => by have := (hR.oa.lt h).1; omega)))
            clear K1 K2 K3 hP hob hR hg
            go_wp2_with fail
            refine (unhide HK1).mono ?_
            rintro e w' ⟨rfl, hw⟩
            obtain rfl := hw.symm
            clear hw
            go_wp2_with fail
            refine (unhide HK2).mono ?_
            rintro e w' ⟨rfl, hw⟩
            obtain rfl := hw.symm
            clear hw
            go_wp2_with fail
            refine (unhide HK3).mono ?_
            rintro e w' ⟨rfl, hw⟩
            obtain rfl := hw.symm
            clear hw
            go_wp2_with fail
            refine (unhide HK4).mono ?_
            rintro e w4 ⟨a4, m4, c4, rfl, hS4, hN4, hnl4, hb4⟩
            have hm4 : m4 ≤ 2 := by
              rw [← hS4.len]
              exact limbs_len (by omega)
            have K5 := wraise_any a4 m4 c4 (limbs G) w4 k2 hS4 (limbs_ok _) (by omega) (by omega)
            rw [limbs_v, unhide HGV] at K5
            have HK5 := hide K5
            have HB4 := hide ((unhide HB).trans (hb4.mono (unhide HB).size))
            clear HK1 HK2 HK3 HK4 K5 hS4 hN4 hnl4 hb4 HB
            go_wp2_with fail
            refine (unhide HK5).mono ?_
            rintro e w5 ⟨a', m', c', rfl, hS, hN, hnl, hb⟩
            have HX := hide (And.intro hS (And.intro hN (And.intro hnl hb)))
            clear hS hN hnl hb HK5
            go_wp2_with fail
            go_ret
            obtain ⟨p1, p2, p3, p4⟩ := unhide HX
            exact ⟨_, _, _, rfl, p1, fun x hx => Nat.le_trans (unhide HB4).size (p2 x hx), p3, (unhide HB4).trans (p4.mono (unhide HB4).size)⟩
          · have t3 : ¬ (mb:Int) ≤ 2 := by omega
            have KC := wcmp_any aa ab m9 ca mb cb (limbs A2) (limbs Bv) w3 hP.own.sl hob.sl (limbs_ok _) (limbs_ok _) (limbs_norm _) (limbs_norm _) (by omega) (by omega)
            rw [limbs_v, limbs_v] at KC
            by_cases hlt : A2 < Bv
            · have hcg : cmpN A2 Bv < 0 := by rw [cmpN_lt hlt]; decide
              have HKT := hide (fun j => wtake_any ab w.heap.size mb cb aa m9 ca (limbs Bv) (limbs A2) (w3.drewN j) (hob.below (bel_drewN (Below.refl _ _) j)) (hP.own.sl.below (bel_drewN (Below.refl _ _) j)) (limbs_ok _) (limbs_ok _) (by omega) (by rw [← hP.own.len, ← hob.len]; exact limbs_mono (by omega)) (by rw [limbs_v, limbs_v]; omega) (fun x hx hy h => hR.ne _ ⟨x, hx, rfl⟩ h))
              have HN := hide (fun j w6 m6 hO6 hc6 => hR.less (w6 := w6) (m6 := m6) (j := j) hP hlt hO6 hc6)
              have HK := hide KC
              clear KC hP hob hR
              generalize cmpN A2 Bv = cc at *
              go_wp2_with fail
              refine (unhide HK).mono ?_
              rintro e w' ⟨rfl, j, hw⟩
              have KT := unhide HKT j
              rw [← hw] at KT
              have HKT2 := hide KT
              have HW := hide hw
              clear KT HKT HK hw
              go_wp2_with fail
              refine (unhide HKT2).mono ?_
              rintro e w6 ⟨m6, rfl, hm6, hO6, hc6⟩
              rw [unhide HW] at hc6
              rw [limbs_v, limbs_v] at hO6
              obtain ⟨g6, hg6, hN⟩ := unhide HN j w6 m6 hO6 hc6
              have HX := hide hN
              have HG6 := hide hg6
              clear hN HN HW HKT2 hO6 hc6 hg6
              go_wp2_with fail
              go_roundg g6
              case measure => exact unhide HG6
              case rel => exact ⟨_, _, _, _, _, _, _, _, rfl, rfl, unhide HX⟩
            · have hcg : ¬ cmpN A2 Bv < 0 := by unfold cmpN; rw [if_neg hlt]; split <;> omega
              have HKT := hide (fun j => wtake_any aa w.heap.size m9 ca ab mb cb (limbs A2) (limbs Bv) (w3.drewN j) (hP.own.below (bel_drewN (Below.refl _ _) j)) (hob.sl.below (bel_drewN (Below.refl _ _) j)) (limbs_ok _) (limbs_ok _) (by omega) (by rw [← hP.own.len, ← hob.len]; exact limbs_mono (by omega)) (by rw [limbs_v, limbs_v]; omega) (fun x hx hy h => hR.ne _ h ⟨x, hx, rfl⟩))
              have HN := hide (fun j w6 m6 hO6 hc6 => hR.more (w6 := w6) (m6 := m6) (j := j) hP (by omega) hO6 hc6)
              have HK := hide KC
              clear KC hP hob hR
              generalize cmpN A2 Bv = cc at *
              go_wp2_with fail
              refine (unhide HK).mono ?_
              rintro e w' ⟨rfl, j, hw⟩
              have KT := unhide HKT j
              rw [← hw] at KT
              have HKT2 := hide KT
              have HW := hide hw
              clear KT HKT HK hw
              go_wp2_with fail
              refine (unhide HKT2).mono ?_
              rintro e w6 ⟨m6, rfl, hm6, hO6, hc6⟩
              rw [unhide HW] at hc6
              rw [limbs_v, limbs_v] at hO6
              obtain ⟨g6, hg6, hN⟩ := unhide HN j w6 m6 hO6 hc6
              have HX := hide hN
              have HG6 := hide hg6
              clear hN HN HW HKT2 hO6 hc6 hg6
              go_wp2_with fail
              go_roundg g6
              case measure => exact unhide HG6
              case rel => exact ⟨_, _, _, _, _, _, _, _, rfl, rfl, unhide HX⟩
        · have t2 : ¬ (m9:Int) ≤ 2 := by omega
          have KC := wcmp_any aa ab m9 ca mb cb (limbs A2) (limbs Bv) w3 hP.own.sl hob.sl (limbs_ok _) (limbs_ok _) (limbs_norm _) (limbs_norm _) (by omega) (by omega)
          rw [limbs_v, limbs_v] at KC
          by_cases hlt : A2 < Bv
          · have hcg : cmpN A2 Bv < 0 := by rw [cmpN_lt hlt]; decide
            have HKT := hide (fun j => wtake_any ab w.heap.size mb cb aa m9 ca (limbs Bv) (limbs A2) (w3.drewN j) (hob.below (bel_drewN (Below.refl _ _) j)) (hP.own.sl.below (bel_drewN (Below.refl _ _) j)) (limbs_ok _) (limbs_ok _) (by omega) (by rw [← hP.own.len, ← hob.len]; exact limbs_mono (by omega)) (by rw [limbs_v, limbs_v]; omega) (fun x hx hy h => hR.ne _ ⟨x, hx, rfl⟩ h))
            have HN := hide (fun j w6 m6 hO6 hc6 => hR.less (w6 := w6) (m6 := m6) (j := j) hP hlt hO6 hc6)
            have HK := hide KC
            clear KC hP hob hR
            generalize cmpN A2 Bv = cc at *
            go_wp2_with fail
            refine (unhide HK).mono ?_
            rintro e w' ⟨rfl, j, hw⟩
            have KT := unhide HKT j
            rw [← hw] at KT
            have HKT2 := hide KT
            have HW := hide hw
            clear KT HKT HK hw
            go_wp2_with fail
            refine (unhide HKT2).mono ?_
            rintro e w6 ⟨m6, rfl, hm6, hO6, hc6⟩
            rw [unhide HW] at hc6
            rw [limbs_v, limbs_v] at hO6
            obtain ⟨g6, hg6, hN⟩ := unhide HN j w6 m6 hO6 hc6
            have HX := hide hN
            have HG6 := hide hg6
            clear hN HN HW HKT2 hO6 hc6 hg6
            go_wp2_with fail
            go_roundg g6
            case measure => exact unhide HG6
            case rel => exact ⟨_, _, _, _, _, _, _, _, rfl, rfl, unhide HX⟩
          · have hcg : ¬ cmpN A2 Bv < 0 := by unfold cmpN; rw [if_neg hlt]; split <;> omega
            have HKT := hide (fun j => wtake_any aa w.heap.size m9 ca ab mb cb (limbs A2) (limbs Bv) (w3.drewN j) (hP.own.below (bel_drewN (Below.refl _ _) j)) (hob.sl.below (bel_drewN (Below.refl _ _) j)) (limbs_ok _) (limbs_ok _) (by omega) (by rw [← hP.own.len, ← hob.len]; exact limbs_mono (by omega)) (by rw [limbs_v, limbs_v]; omega) (fun x hx hy h => hR.ne _ h ⟨x, hx, rfl⟩))
            have HN := hide (fun j w6 m6 hO6 hc6 => hR.more (w6 := w6) (m6 := m6) (j := j) hP (by omega) hO6 hc6)
            have HK := hide KC
            clear KC hP hob hR
            generalize cmpN A2 Bv = cc at *
            go_wp2_with fail
            refine (unhide HK).mono ?_
            rintro e w' ⟨rfl, j, hw⟩
            have KT := unhide HKT j
            rw [← hw] at KT
            have HKT2 := hide KT
            have HW := hide hw
            clear KT HKT HK hw
            go_wp2_with fail
            refine (unhide HKT2).mono ?_
            rintro e w6 ⟨m6, rfl, hm6, hO6, hc6⟩
            rw [unhide HW] at hc6
            rw [limbs_v, limbs_v] at hO6
            obtain ⟨g6, hg6, hN⟩ := unhide HN j w6 m6 hO6 hc6
            have HX := hide hN
            have HG6 := hide hg6
            clear hN HN HW HKT2 hO6 hc6 hg6
            go_wp2_with fail
            go_roundg g6
            case measure => exact unhide HG6
            case rel => exact ⟨_, _, _, _, _, _, _, _, rfl, rfl, unhide HX⟩
  · have tk : ¬ (k2:Int) < (k1:Int) := by omega
    obtain ⟨KK, hKK⟩ : ∃ K, k1 = K := ⟨_, rfl⟩
    have HGV := hide (unhide HG1 (by omega))
    rw [hKK] at HGV kb1 tk hk
    subst hKK
    clear HG1 HG2 hk
    have td : decide (k2 < k1) = false := by simp; omega
    go_wp2_with fail
    clear tk td
    go_loopg [0, 1] (U1 + U2) (fun g av bv wr => ∃ aa ma ca A ab mb cb Bv, av = .slice aa ma ca ∧ bv = .slice ab mb cb ∧ GwR wr w M G g aa ma ca A ab mb cb Bv)
    case atStart => exact ⟨_, _, _, _, _, _, _, _, rfl, rfl, unhide HST⟩
    case round =>
      clear HST
      obtain ⟨aa, ma, ca, A, ab, mb, cb, Bv, rfl, rfl, hR⟩ := hrel
      have hmb : mb ≤ M := by rw [← hR.ob.len]; exact limbs_len hR.bb
      have hma : ma ≤ M := by rw [← hR.oa.len]; exact limbs_len hR.ba
      by_cases h0 : ma = 0
      · have t1 : ¬ (0:Int) < (ma:Int) := by omega
        have hA : A = 0 := limbs_eq_nil.1 (List.eq_nil_of_length_eq_zero (by rw [hR.oa.len, h0]))
        have hg : Bv = G := by have := hR.gcd; rw [hA, Nat.gcd_zero_left] at this; exact this
        have K := wraise_any ab mb cb (limbs Bv) wr k1 hR.ob.sl (limbs_ok _) (by omega) (by omega)
        rw [limbs_v, hg, unhide HGV] at K
        have HK := hide K
        have HB := hide hR.bel
        clear K hR hg hA h0
        go_wp2_with fail
        refine (unhide HK).mono ?_
        rintro e w' ⟨a', m', c', rfl, hS, hN, hnl, hb⟩
        have HX := hide (And.intro hS (And.intro hN (And.intro hnl hb)))
        clear hS hN hnl hb HK
        go_wp2_with fail
        go_ret
        obtain ⟨p1, p2, p3, p4⟩ := unhide HX
        exact ⟨_, _, _, rfl, p1, fun x hx => Nat.le_trans (unhide HB).size (p2 x hx), p3, (unhide HB).trans (p4.mono (unhide HB).size)⟩
      · have t1 : (0:Int) < (ma:Int) := by omega
        have hA : 0 < A := by
          rcases Nat.eq_zero_or_pos A with h | h
          · exfalso
            have := hR.oa.len
            rw [h] at this
            simp [limbs_zero] at this
            omega
          · exact h
        have HK := hide (wstrip_any aa w.heap.size ma ca A wr hR.oa hA (by omega))
        have HR := hide hR
        clear hR h0
        go_wp2_with fail
        refine (unhide HK).mono ?_
        rintro e w3 ⟨m9, k9, A2, rfl, hP⟩
        have hR := unhide HR
        have hob := hR.ob.chg hP.chg (fun k hk h => hR.ne k h hk)
        have hm9 : m9 ≤ M := by
          rw [← hP.own.len]
          refine limbs_len (Nat.lt_of_le_of_lt ?_ hR.ba)
          have := hP.eq
          have h2 : A2 * 1 ≤ A2 * 2 ^ k9 := Nat.mul_le_mul_left _ (Nat.two_pow_pos _)
          omega
        clear HK HR
        by_cases hs1 : m9 ≤ 2
        · have t2 : (m9:Int) ≤ 2 := by omega
          by_cases hs2 : mb ≤ 2
          · have t3 : (mb:Int) ≤ 2 := by omega
            have K1 := wsmall_any aa m9 ca (limbs A2) w3 hP.own.sl (limbs_ok _) hs1
            have K2 := wsmall_any ab mb cb (limbs Bv) w3 hob.sl (limbs_ok _) hs2
            rw [limbs_v] at K1 K2
            have b1 : A2 < 18446744073709551616 := by
              have := limbs_lt A2
              have h2 : 4294967296 ^ (limbs A2).length ≤ 4294967296 ^ 2 := Nat.pow_le_pow_right (by decide) (by rw [hP.own.len]; exact hs1)
              omega
            have b2 : Bv < 18446744073709551616 := by
              have := limbs_lt Bv
              have h2 : 4294967296 ^ (limbs Bv).length ≤ 4294967296 ^ 2 := Nat.pow_le_pow_right (by decide) (by rw [hob.len]; exact hs2)
              omega
            have hg : Nat.gcd A2 Bv = G := hR.stripped hP
            have hG : G < 18446744073709551616 := by
              rw [← hg]
              exact Nat.lt_of_le_of_lt (Nat.gcd_le_right _ (by have := hR.odd; omega)) b2
            have K3 := weuclid_any A2 Bv w3 b1 b2
            rw [hg] at K3
            have HK1 := hide K1
            have HK2 := hide K2
            have HK3 := hide K3
            have HK4 := hide (wlimbs_any G w3 hG)
            have HB := hide (hR.bel.trans (hP.chg.below hR.bel.size (fun k hk h => by have := (hR.oa.lt h).1; omega)))
            clear K1 K2 K3 hP hob hR hg
            go_wp2_with fail
            refine (unhide HK1).mono ?_
            rintro e w' ⟨rfl, hw⟩
            obtain rfl := hw.symm
            clear hw
            go_wp2_with fail
            refine (unhide HK2).mono ?_
            rintro e w' ⟨rfl, hw⟩
            obtain rfl := hw.symm
            clear hw
            go_wp2_with fail
            refine (unhide HK3).mono ?_
            rintro e w' ⟨rfl, hw⟩
            obtain rfl := hw.symm
            clear hw
            go_wp2_with fail
            refine (unhide HK4).mono ?_
            rintro e w4 ⟨a4, m4, c4, rfl, hS4, hN4, hnl4, hb4⟩
            have hm4 : m4 ≤ 2 := by
              rw [← hS4.len]
              exact limbs_len (by omega)
            have K5 := wraise_any a4 m4 c4 (limbs G) w4 k1 hS4 (limbs_ok _) (by omega) (by omega)
            rw [limbs_v, unhide HGV] at K5
            have HK5 := hide K5
            have HB4 := hide ((unhide HB).trans (hb4.mono (unhide HB).size))
            clear HK1 HK2 HK3 HK4 K5 hS4 hN4 hnl4 hb4 HB
            go_wp2_with fail
            refine (unhide HK5).mono ?_
            rintro e w5 ⟨a', m', c', rfl, hS, hN, hnl, hb⟩
            have HX := hide (And.intro hS (And.intro hN (And.intro hnl hb)))
            clear hS hN hnl hb HK5
            go_wp2_with fail
            go_ret
            obtain ⟨p1, p2, p3, p4⟩ := unhide HX
            exact ⟨_, _, _, rfl, p1, fun x hx => Nat.le_trans (unhide HB4).size (p2 x hx), p3, (unhide HB4).trans (p4.mono (unhide HB4).size)⟩
          · have t3 : ¬ (mb:Int) ≤ 2 := by omega
            have KC := wcmp_any aa ab m9 ca mb cb (limbs A2) (limbs Bv) w3 hP.own.sl hob.sl (limbs_ok _) (limbs_ok _) (limbs_norm _) (limbs_norm _) (by omega) (by omega)
            rw [limbs_v, limbs_v] at KC
            by_cases hlt : A2 < Bv
            · have hcg : cmpN A2 Bv < 0 := by rw [cmpN_lt hlt]; decide
              have HKT := hide (fun j => wtake_any ab w.heap.size mb cb aa m9 ca (limbs Bv) (limbs A2) (w3.drewN j) (hob.below (bel_drewN (Below.refl _ _) j)) (hP.own.sl.below (bel_drewN (Below.refl _ _) j)) (limbs_ok _) (limbs_ok _) (by omega) (by rw [← hP.own.len, ← hob.len]; exact limbs_mono (by omega)) (by rw [limbs_v, limbs_v]; omega) (fun x hx hy h => hR.ne _ ⟨x, hx, rfl⟩ h))
              have HN := hide (fun j w6 m6 hO6 hc6 => hR.less (w6 := w6) (m6 := m6) (j := j) hP hlt hO6 hc6)
              have HK := hide KC
              clear KC hP hob hR
              generalize cmpN A2 Bv = cc at *
              go_wp2_with fail
              refine (unhide HK).mono ?_
              rintro e w' ⟨rfl, j, hw⟩
              have KT := unhide HKT j
              rw [← hw] at KT
              have HKT2 := hide KT
              have HW := hide hw
              clear KT HKT HK hw
              go_wp2_with fail
              refine (unhide HKT2).mono ?_
              rintro e w6 ⟨m6, rfl, hm6, hO6, hc6⟩
              rw [unhide HW] at hc6
              rw [limbs_v, limbs_v] at hO6
              obtain ⟨g6, hg6, hN⟩ := unhide HN j w6 m6 hO6 hc6
              have HX := hide hN
              have HG6 := hide hg6
              clear hN HN HW HKT2 hO6 hc6 hg6
              go_wp2_with fail
              go_roundg g6
              case measure => exact unhide HG6
              case rel => exact ⟨_, _, _, _, _, _, _, _, rfl, rfl, unhide HX⟩
            · have hcg : ¬ cmpN A2 Bv < 0 := by unfold cmpN; rw [if_neg hlt]; split <;> omega
              have HKT := hide (fun j => wtake_any aa w.heap.size m9 ca ab mb cb (limbs A2) (limbs Bv) (w3.drewN j) (hP.own.below (bel_drewN (Below.refl _ _) j)) (hob.sl.below (bel_drewN (Below.refl _ _) j)) (limbs_ok _) (limbs_ok _) (by omega) (by rw [← hP.own.len, ← hob.len]; exact limbs_mono (by omega)) (by rw [limbs_v, limbs_v]; omega) (fun x hx hy h => hR.ne _ h ⟨x, hx, rfl⟩))
              have HN := hide (fun j w6 m6 hO6 hc6 => hR.more (w6 := w6) (m6 := m6) (j := j) hP (by omega) hO6 hc6)
              have HK := hide KC
              clear KC hP hob hR
              generalize cmpN A2 Bv = cc at *
              go_wp2_with fail
              refine (unhide HK).mono ?_
              rintro e w' ⟨rfl, j, hw⟩
              have KT := unhide HKT j
              rw [← hw] at KT
              have HKT2 := hide KT
              have HW := hide hw
              clear KT HKT HK hw
              go_wp2_with fail
              refine (unhide HKT2).mono ?_
              rintro e w6 ⟨m6, rfl, hm6, hO6, hc6⟩
              rw [unhide HW] at hc6
              rw [limbs_v, limbs_v] at hO6
              obtain ⟨g6, hg6, hN⟩ := unhide HN j w6 m6 hO6 hc6
              have HX := hide hN
              have HG6 := hide hg6
              clear hN HN HW HKT2 hO6 hc6 hg6
              go_wp2_with fail
              go_roundg g6
              case measure => exact unhide HG6
              case rel => exact ⟨_, _, _, _, _, _, _, _, rfl, rfl, unhide HX⟩
        · have t2 : ¬ (m9:Int) ≤ 2 := by omega
          have KC := wcmp_any aa ab m9 ca mb cb (limbs A2) (limbs Bv) w3 hP.own.sl hob.sl (limbs_ok _) (limbs_ok _) (limbs_norm _) (limbs_norm _) (by omega) (by omega)
          rw [limbs_v, limbs_v] at KC
          by_cases hlt : A2 < Bv
          · have hcg : cmpN A2 Bv < 0 := by rw [cmpN_lt hlt]; decide
            have HKT := hide (fun j => wtake_any ab w.heap.size mb cb aa m9 ca (limbs Bv) (limbs A2) (w3.drewN j) (hob.below (bel_drewN (Below.refl _ _) j)) (hP.own.sl.below (bel_drewN (Below.refl _ _) j)) (limbs_ok _) (limbs_ok _) (by omega) (by rw [← hP.own.len, ← hob.len]; exact limbs_mono (by omega)) (by rw [limbs_v, limbs_v]; omega) (fun x hx hy h => hR.ne _ ⟨x, hx, rfl⟩ h))
            have HN := hide (fun j w6 m6 hO6 hc6 => hR.less (w6 := w6) (m6 := m6) (j := j) hP hlt hO6 hc6)
            have HK := hide KC
            clear KC hP hob hR
            generalize cmpN A2 Bv = cc at *
            go_wp2_with fail
            refine (unhide HK).mono ?_
            rintro e w' ⟨rfl, j, hw⟩
            have KT := unhide HKT j
            rw [← hw] at KT
            have HKT2 := hide KT
            have HW := hide hw
            clear KT HKT HK hw
            go_wp2_with fail
            refine (unhide HKT2).mono ?_
            rintro e w6 ⟨m6, rfl, hm6, hO6, hc6⟩
            rw [unhide HW] at hc6
            rw [limbs_v, limbs_v] at hO6
            obtain ⟨g6, hg6, hN⟩ := unhide HN j w6 m6 hO6 hc6
            have HX := hide hN
            have HG6 := hide hg6
            clear hN HN HW HKT2 hO6 hc6 hg6
            go_wp2_with fail
            go_roundg g6
            case measure => exact unhide HG6
            case rel => exact ⟨_, _, _, _, _, _, _, _, rfl, rfl, unhide HX⟩
          · have hcg : ¬ cmpN A2 Bv < 0 := by unfold cmpN; rw [if_neg hlt]; split <;> omega
            have HKT := hide (fun j => wtake_any aa w.heap.size m9 ca ab mb cb (limbs A2) (limbs Bv) (w3.drewN j) (hP.own.below (bel_drewN (Below.refl _ _) j)) (hob.sl.below (bel_drewN (Below.refl _ _) j)) (limbs_ok _) (limbs_ok _) (by omega) (by rw [← hP.own.len, ← hob.len]; exact limbs_mono (by omega)) (by rw [limbs_v, limbs_v]; omega) (fun x hx hy h => hR.ne _ h ⟨x, hx, rfl⟩))
            have HN := hide (fun j w6 m6 hO6 hc6 => hR.more (w6 := w6) (m6 := m6) (j := j) hP (by omega) hO6 hc6)
            have HK := hide KC
            clear KC hP hob hR
            generalize cmpN A2 Bv = cc at *
            go_wp2_with fail
            refine (unhide HK).mono ?_
            rintro e w' ⟨rfl, j, hw⟩
            have KT := unhide HKT j
            rw [← hw] at KT
            have HKT2 := hide KT
            have HW := hide hw
            clear KT HKT HK hw
            go_wp2_with fail
            refine (unhide HKT2).mono ?_
            rintro e w6 ⟨m6, rfl, hm6, hO6, hc6⟩
            rw [unhide HW] at hc6
            rw [limbs_v, limbs_v] at hO6
            obtain ⟨g6, hg6, hN⟩ := unhide HN j w6 m6 hO6 hc6
            have HX := hide hN
            have HG6 := hide hg6
            clear hN HN HW HKT2 hO6 hc6 hg6
            go_wp2_with fail
            go_roundg g6
            case measure => exact unhide HG6
            case rel => exact ⟨_, _, _, _, _, _, _, _, rfl, rfl, unhide HX⟩
end Go.Proofs.YtiadccaaoenccaaDoor
