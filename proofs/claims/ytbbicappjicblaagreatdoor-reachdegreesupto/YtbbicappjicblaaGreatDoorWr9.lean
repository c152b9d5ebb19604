/- Wr3 -/
import Derived.Test.YtbbicappjicblaaGreatDoorWr2
import Derived.Test.YtbbicappjicblaaGreatDoorNMul
import Derived.Test.YtbbicappjicblaaGreatDoorDv2
import Derived.Test.YtbbicappjicblaaGreatDoorRa1
namespace Go.Proofs.YtbbicappjicblaaGreatDoor
open Go.RowKit Go.Deep
set_option linter.unusedVariables false
def NewL (w w' : World) (v : Nat) (e : Ending) : Prop := ∃ a m c, e = .returned (.slice a m c) ∧ Sl w' a m c (limbs v) ∧ NewAt w.heap.size a ∧ (a = none → c = 0) ∧ Below w.heap.size w w'
theorem Ow.nilc {w : World} {B n c : Nat} {a : Option Addr} {xs : List Nat} (h : Ow w B a n c xs) : a = none → c = 0 := by
 intro e
 rcases h.shape with ⟨_, _, h3⟩ | ⟨g, e2⟩
 ·exact h3
 ·rw [e] at e2; cases e2
theorem wnorm_sl (a : Option Addr) (n c : Nat) (xs : List Nat) (w : World) (h : Sl w a n c xs) (hnil : a = none → c = 0) (ok : Ok xs) :
  Calls Tryz.prog 128 #[.slice a n c] w fun e w' => ∃ m, e = .returned (.slice a m c) ∧ m ≤ n ∧ Sl w a m c (limbs (val xs)) ∧ w' = w := by
 cases a with
 | none =>
  have hc := hnil rfl
  have hl := h.le
  have hn : n = 0 := by omega
  subst hn hc
  have hx : xs = [] := List.eq_nil_of_length_eq_zero h.len
  subst hx
  refine (wnorm_nil w).mono ?_
  rintro e w' ⟨rfl, rfl⟩
  exact ⟨0, rfl, Nat.le_refl _, sl_nil _, rfl⟩
 | some x =>
  by_cases hx : xs = []
  ·subst hx
   have hn : n = 0 := by rw [← h.len]; rfl
   subst hn
   obtain ⟨b, off, spot⟩ := x
   cases spot with
   | none =>
    refine (wnorm_some b off 0 c [] w rfl h.le h.cap (fun i hi => by simp at hi)).mono ?_
    rintro e w' ⟨m, ht, rfl, rfl⟩
    have hm : m = 0 := by have := ht.le; simpa using this
    subst hm
    exact ⟨0, rfl, Nat.le_refl _, ⟨rfl, h.le, h.cap, .inl rfl⟩, rfl⟩
   | some p =>
    have hle := h.le
    have hcm := h.cap
    unfold maxLen at hcm
    go_enter Tryz.func128, Tryz.ntmps128
    go_wp2
    go_loop [3] (fun i => i = .int .i64 0) (fun i => (intOf i).toNat)
    case atStart => rfl
    case round =>
     subst hrel
     go_wp2
     go_ret
     exact ⟨0, rfl, by omega, ⟨rfl, h.le, h.cap, .inl rfl⟩, rfl⟩
  ·obtain ⟨b, off, e, hc⟩ := h.cells.resolve_left hx
   cases e
   refine (wnorm_some b off n c xs w h.len h.le h.cap hc).mono ?_
   rintro e w' ⟨m, ht, rfl, rfl⟩
   have hm : m ≤ n := by have := ht.le; rw [h.len] at this; exact this
   refine ⟨m, rfl, hm, ?_, rfl⟩
   rw [← ht.limbs ok]
   refine ⟨by simp [h.len]; omega, Nat.le_trans hm h.le, h.cap, .inr ⟨b, off, rfl, ?_⟩⟩
   intro i hi
   have hi2 : i < m := by simp at hi; omega
   rw [hc i (by rw [h.len]; omega)]
   simp [List.getD, hi2]

structure TakR (wr w : World) (B g n cp : Nat) (xs : List Nat) (s t : Nat) (k c : Nat) (zs : List Nat) : Prop where
 len : zs.length = k
 ok : Ok zs
 cle : c ≤ 1
 own : Ow wr B (some ⟨g, 0, none⟩) n cp (zs ++ xs.drop k)
 val : val zs + t = s + 4294967296 ^ k * c
 chg : Chg (fun j => AtB (some ⟨g, 0, none⟩) j) w wr

theorem set_mid {zs xs : List Nat} {k n : Nat} (hz : zs.length = k) (hx : xs.length = n) (hk : k < n) (v : Nat) : (zs ++ xs.drop k).set k v = (zs ++ [v]) ++ xs.drop (k + 1) := by
 rw [drop_cons (by omega), List.set_append_right k v (by omega), hz, Nat.sub_self]
 simp
theorem get_mid {zs xs : List Nat} {k n : Nat} (hz : zs.length = k) (hx : xs.length = n) (hk : k < n) : (zs ++ xs.drop k).getD k 0 = xs.getD k 0 := by
 rw [drop_cons (by omega)]
 simp [List.getD, hz]

theorem TakR.step {wr w : World} {B g n cp : Nat} {xs : List Nat} {s t k c : Nat} {zs : List Nat} (h : TakR wr w B g n cp xs s t k c zs) (hl : xs.length = n) (hk : k < n) (x y : Nat) (hx : x < 4294967296) (hy : y < 4294967296) :
  TakR (wr.setCell ⟨g, k, none⟩ (.int .u32 (lim x y c : Nat))) w B g n cp xs (s + 4294967296 ^ k * x) (t + 4294967296 ^ k * y) (k + 1) (bor x (y + c)) (zs ++ [lim x y c]) := by
 refine ⟨by simp [h.len], ?_, bor_le _ _, ?_, ?_, h.chg.trans (.of_set _ _ _ _ atB_some)⟩
 ·intro z hz
  rcases List.mem_append.1 hz with hz | hz
  ·exact h.ok z hz
  ·simp at hz; subst hz; exact lim_lt _ _ _
 ·have := h.own.set k (lim x y c)
  rw [set_mid h.len hl hk] at this
  exact this
 ·rw [val_append, h.len]
  simp only [Go.Proofs.YtbbicappjicblaaGreatDoor.val, Nat.mul_zero, Nat.add_zero]
  rw [Nat.pow_succ]
  exact minus_arith h.val (lim_eq x y c hx hy h.cle)

theorem TakR.fin {wr w : World} {B g n cp : Nat} {xs ys : List Nat} {k c : Nat} {zs : List Nat} (h : TakR wr w B g n cp xs (valF (fun i => xs.getD i 0) k) (valF (fun i => ys.getD i 0) k) k c zs) (hl : xs.length = n) (hk : k = n) (h2 : ys.length ≤ n) (hle : Go.Proofs.YtbbicappjicblaaGreatDoor.val ys ≤ Go.Proofs.YtbbicappjicblaaGreatDoor.val xs) :
  Ow wr B (some ⟨g, 0, none⟩) n cp zs ∧ Go.Proofs.YtbbicappjicblaaGreatDoor.val zs = Go.Proofs.YtbbicappjicblaaGreatDoor.val xs - Go.Proofs.YtbbicappjicblaaGreatDoor.val ys := by
 subst hk
 have ho := h.own
 rw [List.drop_eq_nil_of_le (by omega), List.append_nil] at ho
 refine ⟨ho, ?_⟩
 have hv := h.val
 rw [valF_ge ys k h2, valF_ge xs k (by omega)] at hv
 have hb := val_lt h.ok
 rw [h.len] at hb
 have hc := h.cle
 have hc0 : c = 0 := by
  rcases Nat.lt_or_ge c 1 with h0 | h0
  ·omega
  ·have : c = 1 := by omega
   subst this
   rw [Nat.mul_one] at hv
   omega
 subst hc0
 rw [Nat.mul_zero] at hv
 omega

set_option maxRecDepth 100000 in
set_option maxHeartbeats 4000000 in
theorem wtake_some (g B n cp : Nat) (a2 : Option Addr) (n2 c2 : Nat) (xs ys : List Nat) (w : World) (h1 : Ow w B (some ⟨g, 0, none⟩) n cp xs) (h2 : Sl w a2 n2 c2 ys) (ox : Ok xs) (oy : Ok ys) (hb1 : n ≤ 1000000000) (hb2 : n2 ≤ n) (hge : val ys ≤ val xs) (hne : ∀ x, a2 = some x → ys ≠ [] → x.block ≠ g) :
  Calls Tryz.prog 120 #[.slice (some ⟨g, 0, none⟩) n cp, .slice a2 n2 c2] w fun e w' => ∃ m, e = .returned (.slice (some ⟨g, 0, none⟩) m cp) ∧ m ≤ n ∧ Ow w' B (some ⟨g, 0, none⟩) m cp (limbs (val xs - val ys)) ∧ Chg (fun j => AtB (some ⟨g, 0, none⟩) j) w w' := by
 have hl1 := hide h1.len
 have hl2 := hide h2.len
 have HY := hide h2
 have HNE := hide hne
 have HGE := hide hge
 have H0 := hide (show TakR w w B g n cp xs (valF (fun i => xs.getD i 0) 0) (valF (fun i => ys.getD i 0) 0) 0 0 [] from ⟨rfl, Ok.nil, Nat.zero_le _, by simpa using h1, by simp [valF, val], Chg.refl _ _⟩)
 clear h1 h2 hne hge
 go_enter Tryz.func120, Tryz.ntmps120
 go_wp2
 go_loopw [5, 6] (fun cv i wr => ∃ k c : Nat, ∃ zs : List Nat, k ≤ n ∧ i = .int .i64 k ∧ cv = .int .i64 (-(c : Int)) ∧ TakR wr w B g n cp xs (valF (fun i => xs.getD i 0) k) (valF (fun i => ys.getD i 0) k) k c zs) (fun _ i _ => n - (intOf i).toNat)
 case atStart => exact ⟨0, 0, [], Nat.zero_le _, rfl, rfl, unhide H0⟩
 case round =>
  clear H0
  obtain ⟨k, c, zs, hk, rfl, rfl, hR⟩ := hrel
  by_cases hlt : k < n
  ·have tA : (k:Int) < (n:Int) := by omega
   have bx := ox.getD k
   have bY := oy.getD k
   have hc1 := hR.cle
   have g1 := hR.own.cell (i := k) hlt
   rw [get_mid hR.len (unhide hl1) hlt] at g1
   have g2 := hR.own.froz (i := k)
   have HS := hide (show TakR _ w B g n cp xs (valF (fun i => xs.getD i 0) (k + 1)) (valF (fun i => ys.getD i 0) (k + 1)) (k + 1) _ _ from hR.step (unhide hl1) hlt (xs.getD k 0) (ys.getD k 0) bx bY)
   by_cases hB : k < n2
   ·have tB : (k:Int) < (n2:Int) := by omega
    have hne : ys ≠ [] := by intro e; have := unhide hl2; rw [e] at this; simp at this; omega
    obtain ⟨b2, o2, e2, hc⟩ := (unhide HY).cells.resolve_left hne
    have hb2g := unhide HNE _ e2 hne
    subst e2
    have g3 := (hc.chg hR.chg (fun h => hb2g (atB_is h))) k (by rw [unhide hl2]; exact hB)
    have e1 : (-(c : Int) + (xs.getD k 0 : Nat) - (ys.getD k 0 : Nat)) % 4294967296 = ((lim (xs.getD k 0) (ys.getD k 0) c : Nat) : Int) := by unfold lim; omega
    have e2 : (-(c : Int) + (xs.getD k 0 : Nat) - (ys.getD k 0 : Nat)) / 4294967296 = -((bor (xs.getD k 0) (ys.getD k 0 + c) : Nat) : Int) := by unfold bor; split <;> omega
    clear hR hne hc hb2g HY HNE
    generalize xs.getD k 0 = x at *
    generalize ys.getD k 0 = y at *
    go_wp2
    exact ⟨⟨k + 1, _, _, by omega, by go_num, rfl, unhide HS⟩, by simp [intOf]; omega⟩
   ·have tB : ¬ (k:Int) < (n2:Int) := by omega
    have zy : ys.getD k 0 = 0 := getD_ge (by rw [unhide hl2]; omega)
    have e1 : (-(c : Int) + (xs.getD k 0 : Nat)) % 4294967296 = ((lim (xs.getD k 0) (ys.getD k 0) c : Nat) : Int) := by unfold lim; omega
    have e2 : (-(c : Int) + (xs.getD k 0 : Nat)) / 4294967296 = -((bor (xs.getD k 0) (ys.getD k 0 + c) : Nat) : Int) := by unfold bor; split <;> omega
    clear hR zy HY HNE
    generalize xs.getD k 0 = x at *
    generalize ys.getD k 0 = y at *
    go_wp2
    exact ⟨⟨k + 1, _, _, by omega, by go_num, rfl, unhide HS⟩, by simp [intOf]; omega⟩
  ·have tA : ¬ (k:Int) < (n:Int) := by omega
   obtain ⟨hO, hv⟩ := hR.fin (unhide hl1) (by omega) (by rw [unhide hl2]; exact hb2) (unhide HGE)
   have K := wnorm_any (some ⟨g, 0, none⟩) n cp B zs wr hO hR.ok
   rw [hv] at K
   have HK := hide K
   have HC := hide hR.chg
   clear K hR hO hv
   go_wp2_with fail
   refine (unhide HK).mono ?_
   rintro e w' ⟨m, rfl, hm, hO, hw⟩
   obtain rfl := hw.symm
   have HO := hide hO
   clear hO hw HK
   go_wp2_with fail
   go_ret
   exact ⟨m, rfl, hm, unhide HO, unhide HC⟩

set_option maxHeartbeats 400000 in
theorem wtake_nil (w : World) (a2 : Option Addr) (n2 c2 : Nat) : Calls Tryz.prog 120 #[.slice none 0 0, .slice a2 n2 c2] w fun e w' => e = .returned (.slice none 0 0) ∧ w' = w := by
 have HK := hide (wnorm_nil w)
 go_enter Tryz.func120, Tryz.ntmps120
 go_wp2
 go_loop [5, 6] (fun c i => c = .int .i64 0 ∧ i = .int .i64 0) (fun _ i => (intOf i).toNat)
 case atStart => exact ⟨rfl, rfl⟩
 case round =>
  obtain ⟨rfl, rfl⟩ := hrel
  go_wp2_with fail
  refine (unhide HK).mono ?_
  rintro e w' ⟨rfl, hw⟩
  obtain rfl := hw.symm
  go_wp2_with fail
  go_ret
  exact ⟨rfl, rfl⟩

theorem wtake_any (a : Option Addr) (B n cp : Nat) (a2 : Option Addr) (n2 c2 : Nat) (xs ys : List Nat) (w : World) (h1 : Ow w B a n cp xs) (h2 : Sl w a2 n2 c2 ys) (ox : Ok xs) (oy : Ok ys) (hb1 : n ≤ 1000000000) (hb2 : n2 ≤ n) (hge : val ys ≤ val xs) (hne : ∀ x, a2 = some x → ys ≠ [] → ¬ AtB a x.block) :
  Calls Tryz.prog 120 #[.slice a n cp, .slice a2 n2 c2] w fun e w' => ∃ m, e = .returned (.slice a m cp) ∧ m ≤ n ∧ Ow w' B a m cp (limbs (val xs - val ys)) ∧ Chg (fun j => AtB a j) w w' := by
 rcases h1.shape with ⟨rfl, rfl, rfl⟩ | ⟨g, rfl⟩
 ·have hx : xs = [] := List.eq_nil_of_length_eq_zero h1.len
  subst hx
  refine (wtake_nil w a2 n2 c2).mono ?_
  rintro e w' ⟨rfl, rfl⟩
  refine ⟨0, rfl, Nat.le_refl _, ?_, Chg.refl _ _⟩
  have : val [] - val ys = 0 := by simp [val]
  rw [this]
  exact Ow.nil _ _
 ·exact wtake_some g B n cp a2 n2 c2 xs ys w h1 h2 ox oy hb1 hb2 hge (fun x hx hy h => hne x hx hy (by rw [h]; exact atB_some))
set_option maxHeartbeats 1000000 in
theorem weuclid_any (x y : Nat) (w : World) (hx : x < 18446744073709551616) (hy : y < 18446744073709551616) :
  Calls Tryz.prog 117 #[.int .u64 (x : Nat), .int .u64 (y : Nat)] w fun e w' => e = .returned (.int .u64 (Nat.gcd x y : Nat)) ∧ w' = w := by
 go_enter Tryz.func117, Tryz.ntmps117
 go_wp2
 go_loop [0, 1] (fun xv yv => ∃ u v : Nat, u < 18446744073709551616 ∧ v < 18446744073709551616 ∧ xv = .int .u64 (u : Nat) ∧ yv = .int .u64 (v : Nat) ∧ Nat.gcd u v = Nat.gcd x y) (fun _ yv => (intOf yv).toNat)
 case atStart => exact ⟨x, y, hx, hy, rfl, rfl, rfl⟩
 case round =>
  obtain ⟨u, v, hu, hv, rfl, rfl, hg⟩ := hrel
  by_cases h0 : v = 0
  ·have HG := hide (show u = Nat.gcd x y by rw [← hg, h0, Nat.gcd_zero_right])
   have t1 : ¬ (0:Int) < (v:Int) := by omega
   clear hg h0
   go_wp2
   go_ret
   exact ⟨by rw [← unhide HG]; rfl, rfl⟩
  ·have t1 : (0:Int) < (v:Int) := by omega
   have t2 : ((v:Int) == 0) = false := by simp; omega
   have t3 : ¬ (v:Int) = 0 := by omega
   have hlt : u % v < v := Nat.mod_lt _ (by omega)
   have HG := hide (show Nat.gcd v (u % v) = Nat.gcd x y by rw [← hg, Nat.gcd_comm v, ← Nat.gcd_rec, Nat.gcd_comm])
   have e1 : (u : Int).tmod (v : Int) = ((u % v : Nat) : Int) := by rw [Int.tmod_eq_emod_of_nonneg (by omega)]; exact (Int.natCast_emod _ _).symm
   have e2 : (u : Int) % (v : Int) = ((u % v : Nat) : Int) := (Int.natCast_emod _ _).symm
   generalize u % v = r at *
   clear hg h0
   go_wp2
   exact ⟨⟨v, r, hv, by omega, rfl, rfl, unhide HG⟩, by simp [intOf]; omega⟩

theorem drop_small {xs : List Nat} (ox : Ok xs) {k : Nat} (hk : 1 ≤ k) (hn : xs.length ≤ 2) : val (xs.drop k) < 4294967296 := by
 have := val_lt (ox.drop k)
 have hl : (xs.drop k).length ≤ 1 := by simp; omega
 have h2 : 4294967296 ^ (xs.drop k).length ≤ 4294967296 ^ 1 := Nat.pow_le_pow_right (by decide) hl
 omega

set_option maxHeartbeats 1000000 in
theorem wsmall_any (a : Option Addr) (n c : Nat) (xs : List Nat) (w : World) (h : Sl w a n c xs) (ox : Ok xs) (hn : n ≤ 2) :
  Calls Tryz.prog 118 #[.slice a n c] w fun e w' => e = .returned (.int .u64 (val xs : Nat)) ∧ w' = w := by
 have HL := hide h.len
 have HS := hide h
 clear h
 go_enter Tryz.func118, Tryz.ntmps118
 go_wp2
 go_loop [3, 4] (fun xv i => ∃ k : Nat, k ≤ n ∧ i = .int .i64 ((k : Int) - 1) ∧ xv = .int .u64 (val (xs.drop k) : Nat)) (fun _ i => (intOf i + 1).toNat)
 case atStart => exact ⟨n, Nat.le_refl _, rfl, by rw [List.drop_eq_nil_of_le (by rw [unhide HL]; exact Nat.le_refl _)]; rfl⟩
 case round =>
  obtain ⟨k, hk, rfl, rfl⟩ := hrel
  rcases k with _ | k
  ·have t1 : ¬ (0:Int) ≤ ((0:Nat):Int) - 1 := by omega
   go_wp2
   go_ret
   exact ⟨rfl, rfl⟩
  ·have t0 : ((k + 1 : Nat) : Int) - 1 = (k : Int) := by omega
   rw [t0]
   have t1 : (k:Int) < (n:Int) := by omega
   have hne : xs ≠ [] := by intro e; have := unhide HL; rw [e] at this; simp at this; omega
   obtain ⟨b, off, rfl, hc⟩ := (unhide HS).cells.resolve_left hne
   have g1 := hc k (by rw [unhide HL]; omega)
   have b1 := drop_small ox (k := k + 1) (by omega) (by rw [unhide HL]; exact hn)
   have b2 := ox.getD k
   have e1 := or_halves (val (xs.drop (k + 1))) (xs.getD k 0) b1 b2
   rw [← val_drop_step] at e1
   have HV := hide (show val (xs.drop k) = xs.getD k 0 + 4294967296 * val (xs.drop (k + 1)) from val_drop_step _ _)
   have b3 : val (xs.drop k) < 18446744073709551616 := by rw [unhide HV]; omega
   generalize val (xs.drop (k + 1)) = u at *
   generalize xs.getD k 0 = x at *
   obtain ⟨z, hz⟩ : ∃ z, val (xs.drop k) = z := ⟨_, rfl⟩
   rw [hz] at e1 b3
   have HZ := hide hz
   clear hz hc hne HS HV
   go_wp2
   exact ⟨⟨k, by omega, rfl, by rw [unhide HZ]⟩, by simp [intOf]⟩

set_option maxHeartbeats 400000 in
theorem wlimbs_any (v : Nat) (w : World) (hv : v < 18446744073709551616) :
  Calls Tryz.prog 116 #[.int .u64 (v : Nat)] w fun e w' => NewL w w' v e := by
 have K := wnorm_sl _ 2 2 _ _ (two_sl w (v % 4294967296) (v / 4294967296) 115) (by intro e; cases e) (two_ok v hv)
 rw [two_val] at K
 have HK := hide K
 clear K
 go_enter Tryz.func116, Tryz.ntmps116
 go_wp2_with fail
 refine (unhide HK).mono ?_
 rintro e w' ⟨m, rfl, hm, hO, hw⟩
 obtain rfl := hw.symm
 have HO := hide hO
 clear hO HK
 have HB := hide ((Below.refl w.heap.size w).alloc (Nat.le_refl _) (.cells #[.int .u32 (v % 4294967296 : Nat), .int .u32 (v / 4294967296 : Nat)] 115))
 go_wp2_with fail
 go_ret
 exact ⟨_, _, _, rfl, unhide HO, fun x hx => by cases hx; exact Nat.le_refl _, (by intro e; cases e), unhide HB⟩
structure DbR (wr w : World) (B g n cp : Nat) (xs : List Nat) (s bit : Nat) (k c : Nat) (zs : List Nat) : Prop where
 len : zs.length = k
 ok : Ok zs
 cle : c ≤ 1
 own : Ow wr B (some ⟨g, 0, none⟩) n cp (zs ++ xs.drop k)
 val : val zs + 4294967296 ^ k * c = 2 * s + bit
 chg : Chg (fun j => AtB (some ⟨g, 0, none⟩) j) w wr

theorem DbR.step {wr w : World} {B g n cp : Nat} {xs : List Nat} {s bit k c : Nat} {zs : List Nat} (h : DbR wr w B g n cp xs s bit k c zs) (hl : xs.length = n) (hk : k < n) (x : Nat) (hx : x < 4294967296) :
  DbR (wr.setCell ⟨g, k, none⟩ (.int .u32 (tw x c : Nat))) w B g n cp xs (s + 4294967296 ^ k * x) bit (k + 1) (x / 2147483648) (zs ++ [tw x c]) := by
 refine ⟨by simp [h.len], ?_, by omega, ?_, ?_, h.chg.trans (.of_set _ _ _ _ atB_some)⟩
 ·intro z hz
  rcases List.mem_append.1 hz with hz | hz
  ·exact h.ok z hz
  ·simp at hz; subst hz; exact tw_lt h.cle
 ·have := h.own.set k (tw x c)
  rw [set_mid h.len hl hk] at this
  exact this
 ·rw [val_append, h.len]
  simp only [Go.Proofs.YtbbicappjicblaaGreatDoor.val, Nat.mul_zero, Nat.add_zero]
  rw [Nat.pow_succ]
  refine tw_arith h.val ?_
  unfold tw
  omega
structure ShrR (wr w : World) (bq n : Nat) (xs : List Nat) (d k r : Nat) (g : Nat → Nat) : Prop where
 fn : Fn wr bq 0 n g
 ok : ∀ i, i < n → g i < 4294967296
 rlt : r < d
 val : valF (fun i => xs.getD (k + i) 0) (n - k) = valF (fun i => g (k + i)) (n - k) * d + r
 bel : Below w.heap.size w wr

theorem ShrR.step {wr w : World} {bq n : Nat} {xs : List Nat} {d k r : Nat} {g : Nat → Nat} (h : ShrR wr w bq n xs d (k + 1) r g) (ox : Ok xs) (hk : k < n) (hb : w.heap.size ≤ bq) :
  ShrR (wr.setCell ⟨bq, k, none⟩ (.int .u32 (dv (xs.getD k 0) r / d : Nat))) w bq n xs d k (dv (xs.getD k 0) r % d) (fun i => if i = k then dv (xs.getD k 0) r / d else g i) := by
 have hq := dv_div_lt (ox.getD k) h.rlt
 have hs := h.fn.set k (dv (xs.getD k 0) r / d) hk
 rw [Nat.zero_add] at hs
 refine ⟨hs, ?_, Nat.mod_lt _ (by have := h.rlt; omega), ?_, h.bel.setCell hb _⟩
 ·intro i hi
  by_cases e : i = k
  ·simp only [e, if_true]; exact hq
  ·simp only [e, if_false]; exact h.ok i hi
 ·rw [valF_head (fun i => xs.getD i 0) k n hk, valF_head (fun i => if i = k then dv (xs.getD k 0) r / d else g i) k n hk]
  simp only [if_true]
  have e0 : valF (fun i => if k + 1 + i = k then dv (xs.getD k 0) r / d else g (k + 1 + i)) (n - (k + 1)) = valF (fun i => g (k + 1 + i)) (n - (k + 1)) := valF_congr (fun i _ => by rw [if_neg (by omega)])
  rw [e0]
  refine dl_arith h.val ?_
  have := Nat.div_add_mod (dv (xs.getD k 0) r) d
  unfold dv at *
  omega

theorem wor_low {c y s : Nat} (hs : s < 32) (hc : c < 2 ^ s) (hy : y < 4294967296) : bits .or .u64 (c : Int) ((y * 2 ^ s : Nat) : Int) = ((y * 2 ^ s + c : Nat) : Int) ∧ y * 2 ^ s + c < 18446744073709551616 := by
 have hp := (pow_s hs)
 have hb : y * 2 ^ s ≤ 4294967295 * 2147483648 := Nat.mul_le_mul (by omega) hp.2
 refine ⟨?_, by omega⟩
 rw [u64_or_nat _ _ (by omega) (by omega)]
 congr 1
 have h := Nat.shiftLeft_add_eq_or_of_lt (i := s) (b := c) hc y
 rw [Nat.shiftLeft_eq] at h
 rw [Nat.or_comm, ← h]

structure RaR (wr w : World) (L s t : Nat) (v : Value) (k c : Nat) (zs : List Nat) : Prop where
 len : zs.length = L + k
 ok : Ok zs
 clt : c < 2 ^ s
 own : wr.ownsRow w.heap.size 115 1 v (L + k) (vals zs)
 val : val zs + 4294967296 ^ (L + k) * c = 4294967296 ^ L * (t * 2 ^ s)
 bel : Below w.heap.size w wr

theorem RaR.step {wr w w1 : World} {L s t : Nat} {v v' : Value} {k c : Nat} {zs : List Nat} {o : Obj} (h : RaR wr w L s t v k c zs) (y : Nat) (hy : y < 4294967296) (hs : s < 32)
  (hown : w1.ownsRow w.heap.size 115 1 v' (L + k + 1) (vals zs ++ [.int .u32 ((y * 2 ^ s + c) % 4294967296 : Nat)])) (hg : (wr.alloc o).grownBy w1 v.ownBlock) :
  RaR w1 w L s (t + 4294967296 ^ k * y) v' (k + 1) ((y * 2 ^ s + c) / 4294967296) (zs ++ [(y * 2 ^ s + c) % 4294967296]) := by
 have hz := h.bel.size
 have hp := pow_s hs
 refine ⟨by simp [h.len]; omega, ?_, ?_, by simpa [vals, Nat.add_assoc] using hown, ?_, Below.grown (h.bel.alloc (by omega) o) hg (by simp; omega) (fun k hk => (own_ge h.own k hk).1)⟩
 ·intro z hz
  rcases List.mem_append.1 hz with hz | hz
  ·exact h.ok z hz
  ·simp at hz; subst hz; omega
 ·have hc := h.clt
  rw [Nat.div_lt_iff_lt_mul (by decide)]
  have : (y + 1) * 2 ^ s ≤ 4294967296 * 2 ^ s := Nat.mul_le_mul_right _ hy
  rw [Nat.add_mul, Nat.one_mul] at this
  rw [Nat.mul_comm (2 ^ s)]
  omega
 ·rw [val_append, h.len]
  simp only [Go.Proofs.YtbbicappjicblaaGreatDoor.val, Nat.mul_zero, Nat.add_zero]
  have e := Nat.div_add_mod (y * 2 ^ s + c) 4294967296
  rw [show L + (k + 1) = L + k + 1 from rfl, Nat.pow_succ]
  have h1 : 4294967296 ^ (L + k) * ((y * 2 ^ s + c) % 4294967296) + 4294967296 ^ (L + k) * 4294967296 * ((y * 2 ^ s + c) / 4294967296) = 4294967296 ^ (L + k) * (y * 2 ^ s) + 4294967296 ^ (L + k) * c := by
   rw [Nat.mul_assoc, ← Nat.mul_add, Nat.add_comm ((y * 2 ^ s + c) % 4294967296), e, Nat.mul_add]
  have h2 : 4294967296 ^ L * ((t + 4294967296 ^ k * y) * 2 ^ s) = 4294967296 ^ L * (t * 2 ^ s) + 4294967296 ^ (L + k) * (y * 2 ^ s) := by
   rw [Nat.add_mul, Nat.mul_add, Nat.pow_add, Nat.mul_assoc, Nat.mul_assoc]
  have := h.val
  omega

set_option maxRecDepth 100000 in
set_option maxHeartbeats 4000000 in
theorem wraise_core (a : Option Addr) (n c : Nat) (xs : List Nat) (w : World) (k l s : Nat) (hsl : Sl w a n c xs) (ox : Ok xs) (hx : xs ≠ []) (hkl : (k:Int) / 32 = (l:Int)) (hks : (k:Int) % 32 = (s:Int)) (hs32 : s < 32) (hk0 : k ≤ 10000000000) (hn2 : n ≤ 1000000000) :
  Calls Tryz.prog 115 #[.slice a n c, .int .i64 (k : Nat)] w fun e w' => NewL w w' (val xs * 2 ^ k) e := by
 have hl2 : (k:Int).tdiv 32 = (l:Int) := by rw [Int.tdiv_eq_ediv_of_nonneg (by omega)]; exact hkl
 have hs2 : (k:Int).tmod 32 = (s:Int) := by rw [Int.tmod_eq_emod_of_nonneg (by omega)]; exact hks
 have hl0 : l ≤ 1000000000 := by omega
 have hn0 : 0 < n := by rw [← hsl.len]; exact List.length_pos_iff.2 hx
 have t0 : ((n:Int) == 0) = false := by simp; omega
 have hmk := make_len l (by omega)
 have hp := pow_s hs32
 have bel0 := (Below.refl w.heap.size w).alloc (Nat.le_refl _) (.cells (madeCells #[.int .u32 0] l) 115)
 have hv0 : ∀ j, val (List.replicate j 0) = 0 := fun j => val_zero _ (fun i => by simp [List.getD, List.getElem?_replicate]; split <;> rfl)
 have HR0 := hide (show RaR (w.alloc (.cells (madeCells #[.int .u32 0] l) 115)) w l s (valF (fun i => xs.getD i 0) 0) (.slice (some ⟨w.heap.size, 0, none⟩) l l) 0 0 (List.replicate l 0) from ⟨by simp, fun z hz => by rw [(List.mem_replicate.1 hz).2]; decide, by omega, Ow.made w l (by omega), by simp [valF, hv0], bel0⟩)
 have HT := hide (sh_total (v := val xs) (show k / 32 = l by omega) (show k % 32 = s by omega))
 have HL := hide hsl.len
 have HS0 := hide hsl
 obtain ⟨V, hV⟩ : ∃ V, val xs * 2 ^ k = V := ⟨_, rfl⟩
 rw [hV] at HT ⊢
 obtain ⟨i80, hi80, hz80, hs80, hb80⟩ := info_parts Tryz.info_u32
 have I80 := hide (And.intro hi80 (And.intro hz80 (And.intro hs80 hb80)))
 clear hi80 hz80 hs80 hb80 hsl bel0 hv0 hV
 go_enter Tryz.func115, Tryz.ntmps115
 go_wp2_with fail
 go_loopw [5, 7, 8] (fun v cv i wr => ∃ j cc : Nat, ∃ zs : List Nat, j ≤ n ∧ i = .int .i64 (j : Nat) ∧ cv = .int .u64 (cc : Nat) ∧ RaR wr w l s (valF (fun i => xs.getD i 0) j) v j cc zs) (fun _ _ i _ => n - (intOf i).toNat)
 case atStart => exact ⟨0, 0, _, Nat.zero_le _, rfl, rfl, unhide HR0⟩
 case round =>
  clear HR0
  obtain ⟨j, cy, zs, hj, rfl, rfl, hR⟩ := hrel
  have hcy := hR.clt
  by_cases hlt : j < n
  ·have hlt' : (j:Int) < (n:Int) := by omega
   obtain ⟨b, off, e0, hc⟩ := ((unhide HS0).below hR.bel).cells.resolve_left hx
   subst e0
   have g1 := hc j (by rw [unhide HL]; omega)
   have bx := ox.getD j
   obtain ⟨e1, b1⟩ := wor_low hs32 hcy bx
   have HS := hide (fun w1 v' o hown hg => (show RaR w1 w l s (valF (fun i => xs.getD i 0) (j + 1)) v' (j + 1) _ _ from RaR.step (w1 := w1) (v' := v') (o := o) hR (xs.getD j 0) bx hs32 hown hg))
   have HSZ := hide hR.bel.size
   have HR := hide hR
   have hb2 : xs.getD j 0 * 2 ^ s ≤ 4294967295 * 2147483648 := Nat.mul_le_mul (by omega) hp.2
   have e0 : ((xs.getD j 0 : Nat) : Int) * 2 ^ s = ((xs.getD j 0 * 2 ^ s : Nat) : Int) := by rw [Int.natCast_mul, Int.natCast_pow]; rfl
   have e00 : ((xs.getD j 0 : Nat) : Int) * 2 ^ s % 18446744073709551616 = ((xs.getD j 0 * 2 ^ s : Nat) : Int) := by rw [e0]; omega
   have e5 : IntKind.u64.wrap (((xs.getD j 0 : Nat) : Int) * 2 ^ s) = ((xs.getD j 0 * 2 ^ s : Nat) : Int) := by rw [e0, IntKind.wrap_u64]; omega
   clear hR hc HS0
   generalize xs.getD j 0 * 2 ^ s = y at *
   generalize y + cy = z at *
   have e2 : ((z : Nat) : Int) % 4294967296 = ((z % 4294967296 : Nat) : Int) := by omega
   have e3 : ((z : Nat) : Int) / 4294967296 = ((z / 4294967296 : Nat) : Int) := by omega
   have b4 : z % 4294967296 < 4294967296 := by omega
   have b5 : z / 4294967296 < 4294967296 := by omega
   generalize z % 4294967296 = z1 at *
   generalize z / 4294967296 = z2 at *
   generalize xs.getD j 0 = x at *
   go_wp2_with (at_builtin; refine wpList_append_lies _ rfl _ _ 68 rfl w.heap.size 115 i80 (.int .u32 0) 1 4 Tryz.underlying68 (unhide I80).1 (unhide I80).2.1 (unhide I80).2.2.1 (unhide I80).2.2.2 rfl (by decide) _ (l + j) (vals zs) rfl ((unhide HR).own.alloc _) ⟨wr.heap.size, 0, none⟩ 1 1 [.int .u32 (z1 : Nat)] rfl rfl (World.news_of_block (alloc_block _ _)) one_int (by decide) ?c31A ?c41A ?c51A (wr.heap.size + 1) (by simp) ?_)
   case c31A => unfold maxLen; omega
   case c41A => omega
   case c51A => have := unhide HSZ; simp; omega
   intro g1 cc w2 hown hgrow hat hlt2
   have HN := hide (unhide HS w2 _ _ hown hgrow)
   clear hown hgrow hat hlt2 HS HR
   go_wp2
   exact ⟨⟨j + 1, _, _, by omega, by go_num, rfl, unhide HN⟩, by simp [intOf]; omega⟩
  ·have hlt' : ¬ (j:Int) < (n:Int) := by omega
   have hjn : j = n := by omega
   have hv := hR.val
   rw [valF_ge xs j (by rw [unhide HL]; omega)] at hv
   have HV := hide (show val (zs ++ [cy]) = V by
    rw [val_append, hR.len]
    simp only [val, Nat.mul_zero, Nat.add_zero]
    rw [hv, ← unhide HT, Nat.mul_comm])
   have HOK := hide (show Ok (zs ++ [cy]) from fun z hz => by
    rcases List.mem_append.1 hz with hz | hz
    ·exact hR.ok z hz
    ·simp at hz; subst hz; omega)
   have hcb : cy < 4294967296 := by omega
   have HSZ := hide hR.bel.size
   have HR := hide hR
   clear hR hv hjn
   go_wp2_with (at_builtin; refine wpList_append_lies _ rfl _ _ 68 rfl w.heap.size 115 i80 (.int .u32 0) 1 4 Tryz.underlying68 (unhide I80).1 (unhide I80).2.1 (unhide I80).2.2.1 (unhide I80).2.2.2 rfl (by decide) _ (l + j) (vals zs) rfl ((unhide HR).own.alloc _) ⟨wr.heap.size, 0, none⟩ 1 1 [.int .u32 (cy : Nat)] rfl rfl (World.news_of_block (alloc_block _ _)) one_int (by decide) ?c31B ?c41B ?c51B (wr.heap.size + 1) (by simp) ?_)
   case c31B => unfold maxLen; omega
   case c41B => omega
   case c51B => have := unhide HSZ; simp; omega
   intro g1 cc w2 hown hgrow hat hlt2
   have e9 : vals zs ++ [.int .u32 (cy : Nat)] = vals (zs ++ [cy]) := by simp [vals]
   rw [e9] at hown
   have K := wnorm_any (some ⟨g1, 0, none⟩) (l + j + 1) cc w.heap.size _ w2 hown (unhide HOK)
   rw [unhide HV] at K
   have HK := hide K
   have HB := hide (Below.grown ((unhide HR).bel.alloc (unhide HSZ) _) hgrow (by have := unhide HSZ; simp; omega) (fun k hk => (own_ge (unhide HR).own k hk).1))
   clear K hown hgrow hat hlt2 e9 HR
   go_wp2_with fail
   refine (unhide HK).mono ?_
   rintro e w' ⟨m, rfl, hm, hO, hw⟩
   obtain rfl := hw.symm
   have HO := hide hO
   clear hO hw HK
   go_wp2_with fail
   go_ret
   exact ⟨_, _, _, rfl, (unhide HO).sl, (unhide HO).new, (unhide HO).nilc, unhide HB⟩

set_option maxHeartbeats 400000 in
theorem wraise_nil (a : Option Addr) (c : Nat) (k : Int) (w : World) : Calls Tryz.prog 115 #[.slice a 0 c, .int .i64 k] w fun e w' => e = .returned (.slice none 0 0) ∧ w' = w := by
 go_enter Tryz.func115, Tryz.ntmps115
 go_wp2
 go_ret
 exact ⟨rfl, rfl⟩

theorem wraise_any (a : Option Addr) (n c : Nat) (xs : List Nat) (w : World) (k : Nat) (hsl : Sl w a n c xs) (ox : Ok xs) (hk0 : k ≤ 10000000000) (hn2 : n ≤ 1000000000) :
  Calls Tryz.prog 115 #[.slice a n c, .int .i64 (k : Nat)] w fun e w' => NewL w w' (val xs * 2 ^ k) e := by
 by_cases hx : xs = []
 ·have hn : n = 0 := by rw [← hsl.len, hx]; rfl
  subst hn
  refine (wraise_nil a c k w).mono ?_
  rintro e w' ⟨rfl, rfl⟩
  subst hx
  have : val [] * 2 ^ k = 0 := by simp [val]
  rw [this]
  exact ⟨none, 0, 0, rfl, sl_nil _, newAt_nil _, fun _ => rfl, Below.refl _ _⟩
 ·exact wraise_core a n c xs w k (k / 32) (k % 32) hsl ox hx (by omega) (by omega) (by omega) hk0 hn2
theorem limbs_of {xs : List Nat} (ox : Ok xs) (nx : Norm xs) : limbs (val xs) = xs := limbs_val ox nx
theorem limbs_mono {a b : Nat} (h : a ≤ b) : (limbs a).length ≤ (limbs b).length := limbs_len (Nat.lt_of_le_of_lt h (limbs_lt b))
theorem Fn.chgW {S : Nat → Prop} {w w' : World} {b off n : Nat} {f : Nat → Nat} (h : Fn w b off n f) (k : Chg S w w') (hs : ¬ S b) : Fn w' b off n f := by
 intro i hi
 have := h i hi
 have hlt := World.block_lt_of_cell? _ _ this.1
 exact ⟨k.cell hs this.1, by rw [World.frozen?_of_block (w := w) (k.block b hlt hs)]; exact this.2⟩

structure DwR (wr w : World) (nq A D k : Nat) (f : Nat → Nat) (a : Option Addr) (m c R : Nat) : Prop where
 q : Fn wr w.heap.size 0 nq f
 qok : ∀ j, j < nq → f j < 4294967296
 qv : valF f nq = A / 2 ^ k / D * 2 ^ k
 r : Ow wr (w.heap.size + 1) a m c (limbs R)
 bel : Below w.heap.size w wr

theorem DwR.less {wr w wd : World} {nq A D i : Nat} {f : Nat → Nat} {a a' : Option Addr} {m c m' c' R T : Nat} (h : DwR wr w nq A D (i + 1) f a m c R) (hc : Chg (fun k => AtB a k) wr wd) (hO : Ow wd (w.heap.size + 1) a' m' c' (limbs T)) (hT : T = 2 * (A / 2 ^ (i + 1) % D) + bitN A i) (hD : 0 < D) (hlt : T < D) (j : Nat) :
  DwR (wd.drewN j) w nq A D i f a' m' c' T := by
 have e := dm_less hD hT hlt
 have hne : ¬ AtB a w.heap.size := fun hk => by have := (h.r.lt hk).1; omega
 refine ⟨h.q.chgW (hc.trans (Chg.of_drewN _ j)) hne, h.qok, by rw [h.qv, e.2], hO.below (bel_drewN (Below.refl _ _) j), bel_drewN (h.bel.trans (hc.below h.bel.size (fun k hk hh => by have := (h.r.lt hh).1; omega))) j⟩

theorem DwR.more {wr w wd w6 : World} {nq A D i : Nat} {f : Nat → Nat} {a a' : Option Addr} {m c m' c' R T m6 : Nat} (h : DwR wr w nq A D (i + 1) f a m c R) (hc : Chg (fun k => AtB a k) wr wd) (hO : Ow wd (w.heap.size + 1) a' m' c' (limbs T)) (hT : T = 2 * (A / 2 ^ (i + 1) % D) + bitN A i) (hD : 0 < D) (hge : D ≤ T) (j : Nat)
  (hO6 : Ow w6 (w.heap.size + 1) a' m6 c' (limbs (T - D))) (hc6 : Chg (fun k => AtB a' k) (wd.drewN j) w6) {l s : Nat} (hi : i = 32 * l + s) (hs : s < 32) (hl : l < nq) (h0 : f l % 2 ^ (s + 1) = 0) :
  DwR (w6.setCell ⟨w.heap.size, l, none⟩ (.int .u32 (f l + 2 ^ s : Nat))) w nq A D i (fun j => if j = l then f l + 2 ^ s else f j) a' m6 c' (T - D) := by
 have e := dm_more (V := A) (D := D) (i := i) (r := T - D) hD (by omega)
 have hne : ¬ AtB a w.heap.size := fun hk => by have := (h.r.lt hk).1; omega
 have hne' : ¬ AtB a' w.heap.size := fun hk => by have := (hO.lt hk).1; omega
 have k6 : Chg (fun k => AtB a' k) wd w6 := (Chg.of_drewN (S := fun k => AtB a' k) wd j).trans hc6
 have hb1 : Below w.heap.size w wd := h.bel.trans (hc.below h.bel.size (fun k hk hh => by have := (h.r.lt hh).1; omega))
 have hb2 : Below w.heap.size w w6 := hb1.trans (k6.below hb1.size (fun k hk hh => by have := (hO.lt hh).1; omega))
 have hq := ((h.q.chgW hc hne).chgW k6 hne').set l (f l + 2 ^ s) hl
 rw [Nat.zero_add] at hq
 have hx := (or_bit (h.qok l hl) hs h0).2
 refine ⟨hq, ?_, ?_, hO6.chg (.of_set (S := fun k => k = w.heap.size) _ _ _ _ rfl) (fun k hk hh => by subst hh; exact hne' hk), hb2.setCell (Nat.le_refl _) _⟩
 ·intro j hj
  by_cases k : j = l
  ·simp only [k, if_true]; exact hx
  ·simp only [k, if_false]; exact h.qok j hj
 ·rw [valF_put hl, h.qv, e.2, pow_limb, ← Nat.pow_add, ← hi]
end Go.Proofs.YtbbicappjicblaaGreatDoor
