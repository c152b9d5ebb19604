/-
  natural.multiplyHalves: the walk.
-/
import Derived.Test.YtjjeinfoeipjnaaGreatDoorKarS
import Derived.Test.YtjjeinfoeipjnaaGreatDoorMul
import Derived.Test.YtjjeinfoeipjnaaGreatDoorNMul
namespace Go.Proofs.YtjjeinfoeipjnaaGreatDoor
open Go.RowKit Go.Deep
set_option linter.unusedVariables false

theorem make_four (n : Nat) (hn : n ≤ 1000000000) (w : World) : (Instr.makeSlice 22 (.int .i64 (4 * ((n : Int) + 1))) (.int .i64 (4 * ((n : Int) + 1)))).run Tryz.prog w = .ok (.slice (some ⟨w.heap.size, 0, none⟩) (4 * (n + 1)) (4 * (n + 1))) (w.alloc (.cells (madeCells #[.int .u32 0] (4 * (n + 1))) 46)) := by
  have := make_len (4 * (n + 1)) (by omega) w
  rw [show ((4 * (n + 1) : Nat) : Int) = 4 * ((n : Int) + 1) from by omega] at this
  exact this

set_option maxHeartbeats 4000000 in
theorem halves_some (bz oz nz cz b1 o1 n1 c1 b2 o2 n2 c2 h : Nat) (xs ys : List Nat) (w : World) (hp : MulPre w bz oz nz cz (some ⟨b1, o1, none⟩) n1 c1 xs (some ⟨b2, o2, none⟩) n2 c2 ys) (h48 : 48 ≤ n2) (hle : n2 ≤ n1) (hh1 : 2 * h ≤ n1 + 1) (hh0 : n1 ≤ 2 * h) (hh2 : h < n2) (hbig : nz ≤ 1000000000) (N : Nat) (hN : n1 + n2 ≤ N + 1) (IH : MI N) :
    Calls Tryz.prog 110 #[.slice (some ⟨bz, oz, none⟩) nz cz, .slice (some ⟨b1, o1, none⟩) n1 c1, .slice (some ⟨b2, o2, none⟩) n2 c2] w fun e w' => MulPost w bz oz nz (val xs * val ys) e w' := by
  have HP := hide hp
  have HI := hide IH
  have hx : xs ≠ [] := by intro e; have := hp.h1.len; rw [e] at this; simp at this; omega
  have hy : ys ≠ [] := by intro e; have := hp.h2.len; rw [e] at this; simp at this; omega
  have HX := hide hx
  have HY := hide hy
  have KL := hide (fun q => half_lo hp hx hy IH hN h48 hle hh1 hh2 hbig q)
  have KH := hide (fun w1 => half_hi (w1 := w1) hp hx hy IH hN h48 hle hh1 hh0 hh2 hbig)
  have hcz := hp.hcz
  have hc1 := hp.h1.le
  have hc2 := hp.h2.le
  have hnz1 : n1 + n2 ≤ nz := by have := hp.hnz; omega
  have hnz2 : nz ≤ n1 + n2 := by have := hp.hnz; omega
  have eh : ((n1:Int) + 1).tdiv 2 = (h:Int) := by rw [Int.tdiv_eq_ediv_of_nonneg (by omega)]; omega
  have eh' : ((n1:Int) + 1) / 2 = (h:Int) := by omega
  have hz0 := World.block_lt_of_cell? _ _ (hp.hz 0 (by omega)).1
  have hb1 := hp.h1.block_lt hx _ rfl
  have hb2 := hp.h2.block_lt hy _ rfl
  have g1 : (h:Int) ≤ (c1:Int) := by omega
  have g2 : (h:Int) ≤ (c2:Int) := by omega
  have g3 : (h:Int) ≤ (n1:Int) := by omega
  have g4 : (h:Int) ≤ (n2:Int) := by omega
  have g5 : 2 * (h:Int) ≤ (cz:Int) := by omega
  have g6 : 2 * (h:Int) ≤ (nz:Int) := by omega
  have g7 : (nz:Int) ≤ (cz:Int) := by omega
  have g8 : (n1:Int) ≤ (c1:Int) := by omega
  have g9 : (n2:Int) ≤ (c2:Int) := by omega
  clear hp IH hx hy
  go_enter Tryz.func110, Tryz.ntmps110
  go_wp2_with fail
  go_quiet (fail)
  go_wp2_with fail
  go_quiet (fail)
  go_wp2_with fail
  go_quiet (fail)
  go_wp2_with fail
  refine (unhide KL _).mono ?_
  rintro e w1 ⟨rfl, hlo, hu⟩
  have KH' := hide (unhide KH w1 hlo hu)
  clear KL KH hlo hu
  go_wp2_with fail
  refine (unhide KH').mono ?_
  rintro e w2 ⟨rfl, hz⟩
  have hsz := hz.upd.size
  have S0 := hide (HalfS.start hz (by omega) (by omega) (by omega) 46)
  have hmk := make_four h (by omega)
  have r1 : (h:Int) + 1 ≤ 4 * ((h:Int) + 1) := by omega
  have r2 : 2 * ((h:Int) + 1) ≤ 4 * ((h:Int) + 1) := by omega
  have r3 : (h:Int) + 1 ≤ 2 * ((h:Int) + 1) := by omega
  have q1 : 2 * (h + 1) - (h + 1) = h + 1 := by omega
  have q2 : 4 * (h + 1) - 2 * (h + 1) = 2 * (h + 1) := by omega
  clear KH' hz hsz
  go_wp2_with fail
  go_quiet (fail)
  go_wp2_with (refine wpList_copy_part rfl _ _ rfl w2.heap.size 0 (h + 1) (h + 1) _ h h rfl rfl ((unhide S0).drewN _).pa (xs.take h) (HalfS.slA ((unhide S0).drewN _) (by omega) (by omega)) ((unhide HP).ox.take h) (Nat.le_succ _) ?_; intro w3 hu3 hp3; have S1 := hide (((unhide S0).drewN _).setA hu3 hp3); clear hu3 hp3 S0)
  have KA := hide ((unhide S1).addA (unhide HP).ox (by omega) (by omega) (by omega))
  clear S1
  refine (unhide KA).mono ?_
  rintro e w4 ⟨cc, rfl, s2⟩
  have S2 := hide s2
  clear s2 KA
  go_wp2_with (refine wpList_copy_part rfl _ _ rfl w2.heap.size (h + 1) (h + 1) (h + 1) _ h h rfl rfl (unhide S2).pb (ys.take h) ((unhide S2).slB (by omega) (by omega)) ((unhide HP).oy.take h) (Nat.le_succ _) ?_; intro w5 hu5 hp5; have S3 := hide ((unhide S2).setB hu5 hp5); clear hu5 hp5 S2)
  have KB := hide ((unhide S3).addB (unhide HP).oy (by omega) (by omega) (by omega))
  clear S3
  refine (unhide KB).mono ?_
  rintro e w6 ⟨cc2, rfl, s4⟩
  have KM := hide (s4.mul (unhide HI) (by omega) (by omega))
  clear s4 KB
  go_wp2_with fail
  refine (unhide KM).mono ?_
  rintro e w7 ⟨rfl, s5⟩
  rw [kar_mid] at s5
  have KS := hide (s5.subL (by omega) (by omega))
  clear s5 KM
  go_wp2_with fail
  refine (unhide KS).mono ?_
  rintro e w8 ⟨rfl, s6⟩
  have KT := hide (s6.subH (by omega) (by omega) (by omega))
  clear s6 KS
  go_wp2_with fail
  refine (unhide KT).mono ?_
  rintro e w9 ⟨rfl, s7⟩
  rw [half_less] at s7
  obtain ⟨zs, hs, hok, hv⟩ := s7.pc.sl (c := 2 * (h + 1)) (Nat.le_refl _) (by unfold maxLen; omega)
  have KR := trim_any _ (2 * (h + 1)) (2 * (h + 1)) zs w9.drew (hs.below (Below.refl _ _).drew) hok
  rw [hv] at KR
  have KR' := hide KR
  have KF := hide (fun (a' : Option Addr) (m : Nat) (zs' : List Nat) (hs' : Sl w9.drew a' m m zs') (hr : Rep _ zs') (ha : a' = some ⟨w2.heap.size, 2 * (h + 1), none⟩ ∨ a' = none) => half_fin (cz := cz) (s7.z.below (Nat.lt_trans s7.rz s7.rv) (Below.refl _ _).drew) (unhide HP).ox (unhide HP).oy (unhide HP).hnz (by omega) (by omega) (by omega) hbig hs' hr (fun x hx _ => by rcases ha with e | e <;> rw [e] at hx <;> cases hx; exact Nat.ne_of_gt s7.rz))
  have t1 : (h:Int) ≤ (nz:Int) := by omega
  clear s7 hs hok hv KT KR
  go_wp2_with fail
  go_region_with (first | (go_at_call 65; refine (unhide KR').mono ?_; rintro e w5 ⟨a', m, zs', rfl, hs, hr, ha, rfl⟩; have KB := hide (unhide KF a' m zs' hs hr ha); clear hs hr ha) | (go_at_call 117; refine (unhide KB).mono ?_; rintro e w6 ⟨cc, rfl, hR2⟩; have HR2 := hide hR2; clear hR2))
  all_goals
    go_wp2
    go_end0
    exact unhide HR2
end Go.Proofs.YtjjeinfoeipjnaaGreatDoor

namespace Go.Proofs.YtjjeinfoeipjnaaGreatDoor
open Go.RowKit Go.Deep
set_option linter.unusedVariables false

set_option maxHeartbeats 800000 in
theorem into_p {w : World} {bz oz nz cz : Nat} {a1 : Option Addr} {n1 c1 : Nat} {a2 : Option Addr} {n2 c2 : Nat} {v : Nat} (h : Nat) (hge : n2 ≤ n1) (h48 : 48 ≤ n2) (hh : (n1 + 1) / 2 = h) (hk : (n2:Int) ≤ (h:Int)) (hbig : n1 + n2 ≤ 1000000000)
    (KK : Calls Tryz.prog 109 #[.slice (some ⟨bz, oz, none⟩) nz cz, .slice a1 n1 c1, .slice a2 n2 c2] w fun e w' => MulPost w bz oz nz v e w') :
    Calls Tryz.prog 88 #[.slice (some ⟨bz, oz, none⟩) nz cz, .slice a1 n1 c1, .slice a2 n2 c2] w fun e w' => MulPost w bz oz nz v e w' := by
  have K := hide KK
  have ht : ¬ (n1:Int) < (n2:Int) := by omega
  have ht2 : ¬ (n2:Int) < 48 := by omega
  have eh : ((n1:Int) + 1).tdiv 2 = (h:Int) := by rw [Int.tdiv_eq_ediv_of_nonneg (by omega)]; omega
  have eh' : ((n1:Int) + 1) / 2 = (h:Int) := by omega
  clear KK
  go_enter Tryz.func88, Tryz.ntmps88
  go_wp2_with fail
  refine (unhide K).mono ?_
  rintro e w' ⟨rfl, hp⟩
  have HP := hide hp
  clear hp K
  go_wp2
  go_end0
  exact ⟨rfl, unhide HP⟩

set_option maxHeartbeats 800000 in
theorem into_ps {w : World} {bz oz nz cz : Nat} {a1 : Option Addr} {n1 c1 : Nat} {a2 : Option Addr} {n2 c2 : Nat} {v : Nat} (h : Nat) (hlt : n1 < n2) (h48 : 48 ≤ n1) (hh : (n2 + 1) / 2 = h) (hk : (n1:Int) ≤ (h:Int)) (hbig : n1 + n2 ≤ 1000000000)
    (KK : Calls Tryz.prog 109 #[.slice (some ⟨bz, oz, none⟩) nz cz, .slice a2 n2 c2, .slice a1 n1 c1] w fun e w' => MulPost w bz oz nz v e w') :
    Calls Tryz.prog 88 #[.slice (some ⟨bz, oz, none⟩) nz cz, .slice a1 n1 c1, .slice a2 n2 c2] w fun e w' => MulPost w bz oz nz v e w' := by
  have K := hide KK
  have ht : (n1:Int) < (n2:Int) := by omega
  have ht2 : ¬ (n1:Int) < 48 := by omega
  have eh : ((n2:Int) + 1).tdiv 2 = (h:Int) := by rw [Int.tdiv_eq_ediv_of_nonneg (by omega)]; omega
  have eh' : ((n2:Int) + 1) / 2 = (h:Int) := by omega
  clear KK
  go_enter Tryz.func88, Tryz.ntmps88
  go_wp2_with fail
  refine (unhide K).mono ?_
  rintro e w' ⟨rfl, hp⟩
  have HP := hide hp
  clear hp K
  go_wp2
  go_end0
  exact ⟨rfl, unhide HP⟩

set_option maxHeartbeats 800000 in
theorem into_h {w : World} {bz oz nz cz : Nat} {a1 : Option Addr} {n1 c1 : Nat} {a2 : Option Addr} {n2 c2 : Nat} {v : Nat} (h : Nat) (hge : n2 ≤ n1) (h48 : 48 ≤ n2) (hh : (n1 + 1) / 2 = h) (hk : ¬ (n2:Int) ≤ (h:Int)) (hbig : n1 + n2 ≤ 1000000000)
    (KK : Calls Tryz.prog 110 #[.slice (some ⟨bz, oz, none⟩) nz cz, .slice a1 n1 c1, .slice a2 n2 c2] w fun e w' => MulPost w bz oz nz v e w') :
    Calls Tryz.prog 88 #[.slice (some ⟨bz, oz, none⟩) nz cz, .slice a1 n1 c1, .slice a2 n2 c2] w fun e w' => MulPost w bz oz nz v e w' := by
  have K := hide KK
  have ht : ¬ (n1:Int) < (n2:Int) := by omega
  have ht2 : ¬ (n2:Int) < 48 := by omega
  have eh : ((n1:Int) + 1).tdiv 2 = (h:Int) := by rw [Int.tdiv_eq_ediv_of_nonneg (by omega)]; omega
  have eh' : ((n1:Int) + 1) / 2 = (h:Int) := by omega
  clear KK
  go_enter Tryz.func88, Tryz.ntmps88
  go_wp2_with fail
  refine (unhide K).mono ?_
  rintro e w' ⟨rfl, hp⟩
  have HP := hide hp
  clear hp K
  go_wp2
  go_end0
  exact ⟨rfl, unhide HP⟩

set_option maxHeartbeats 800000 in
theorem into_hs {w : World} {bz oz nz cz : Nat} {a1 : Option Addr} {n1 c1 : Nat} {a2 : Option Addr} {n2 c2 : Nat} {v : Nat} (h : Nat) (hlt : n1 < n2) (h48 : 48 ≤ n1) (hh : (n2 + 1) / 2 = h) (hk : ¬ (n1:Int) ≤ (h:Int)) (hbig : n1 + n2 ≤ 1000000000)
    (KK : Calls Tryz.prog 110 #[.slice (some ⟨bz, oz, none⟩) nz cz, .slice a2 n2 c2, .slice a1 n1 c1] w fun e w' => MulPost w bz oz nz v e w') :
    Calls Tryz.prog 88 #[.slice (some ⟨bz, oz, none⟩) nz cz, .slice a1 n1 c1, .slice a2 n2 c2] w fun e w' => MulPost w bz oz nz v e w' := by
  have K := hide KK
  have ht : (n1:Int) < (n2:Int) := by omega
  have ht2 : ¬ (n1:Int) < 48 := by omega
  have eh : ((n2:Int) + 1).tdiv 2 = (h:Int) := by rw [Int.tdiv_eq_ediv_of_nonneg (by omega)]; omega
  have eh' : ((n2:Int) + 1) / 2 = (h:Int) := by omega
  clear KK
  go_enter Tryz.func88, Tryz.ntmps88
  go_wp2_with fail
  refine (unhide K).mono ?_
  rintro e w' ⟨rfl, hp⟩
  have HP := hide hp
  clear hp K
  go_wp2
  go_end0
  exact ⟨rfl, unhide HP⟩

theorem MulPre.some {w : World} {bz oz nz cz : Nat} {a1 : Option Addr} {n1 c1 : Nat} {xs : List Nat} {a2 : Option Addr} {n2 c2 : Nat} {ys : List Nat} (h : MulPre w bz oz nz cz a1 n1 c1 xs a2 n2 c2 ys) (h1 : 0 < n1) (h2 : 0 < n2) : ∃ b1 o1 b2 o2, a1 = some ⟨b1, o1, none⟩ ∧ a2 = some ⟨b2, o2, none⟩ := by
  have l1 := h.h1.len
  have l2 := h.h2.len
  rcases h.h1.cells with e | ⟨b1, o1, e1, _⟩
  · subst e; simp at l1; omega
  · rcases h.h2.cells with e | ⟨b2, o2, e2, _⟩
    · subst e; simp at l2; omega
    · exact ⟨b1, o1, b2, o2, e1, e2⟩

/-- natural.multiplyInto. -/
theorem mi_all : ∀ N, N ≤ 1000000000 → MI N
  | 0, _ => fun w bz oz nz cz a1 n1 c1 xs a2 n2 c2 ys hN h => into_small h (.inl (by omega))
  | N + 1, hb => fun w bz oz nz cz a1 n1 c1 xs a2 n2 c2 ys hN h => by
    have IH := mi_all N (by omega)
    have hnz := h.hnz
    by_cases hs : n1 < 48 ∨ n2 < 48
    · exact into_small h hs
    · obtain ⟨b1, o1, b2, o2, rfl, rfl⟩ := h.some (by omega) (by omega)
      by_cases hlt : n1 < n2
      · by_cases hk : 2 * n1 ≤ n2 + 1
        · refine into_ps _ hlt (by omega) rfl (by omega) (by omega) ?_
          rw [Nat.mul_comm (val xs)]
          exact pieces_some bz oz nz cz b2 o2 n2 c2 b1 o1 n1 c1 ys xs w h.swap (by omega) hk (by omega) N (by omega) IH
        · refine into_hs _ hlt (by omega) rfl (by omega) (by omega) ?_
          rw [Nat.mul_comm (val xs)]
          exact halves_some bz oz nz cz b2 o2 n2 c2 b1 o1 n1 c1 ((n2 + 1) / 2) ys xs w h.swap (by omega) (by omega) (by omega) (by omega) (by omega) (by omega) N (by omega) IH
      · by_cases hk : 2 * n2 ≤ n1 + 1
        · refine into_p _ (by omega) (by omega) rfl (by omega) (by omega) ?_
          exact pieces_some bz oz nz cz b1 o1 n1 c1 b2 o2 n2 c2 xs ys w h (by omega) hk (by omega) N (by omega) IH
        · refine into_h _ (by omega) (by omega) rfl (by omega) (by omega) ?_
          exact halves_some bz oz nz cz b1 o1 n1 c1 b2 o2 n2 c2 ((n1 + 1) / 2) xs ys w h (by omega) (by omega) (by omega) (by omega) (by omega) (by omega) N (by omega) IH

/-- natural.multiply. -/
theorem multiply_any (a1 a2 : Option Addr) (n1 c1 n2 c2 : Nat) (xs ys : List Nat) (w : World) (h1 : Sl w a1 n1 c1 xs) (h2 : Sl w a2 n2 c2 ys) (ox : Ok xs) (oy : Ok ys) (hb : n1 + n2 ≤ 1000000000) :
    Calls Tryz.prog 63 #[.slice a1 n1 c1, .slice a2 n2 c2] w fun e w' => NewRep w w' (val xs * val ys) e :=
  multiply_of a1 a2 n1 c1 n2 c2 xs ys w h1 h2 ox oy (by omega) (fun w bz oz nz cz h => mi_all 1000000000 (Nat.le_refl _) w bz oz nz cz a1 n1 c1 xs a2 n2 c2 ys hb h)

/-- natural.Mul. -/
theorem nmul_any (a1 a2 : Option Addr) (n1 c1 n2 c2 : Nat) (xs ys : List Nat) (w : World) (h1 : Sl w a1 n1 c1 xs) (h2 : Sl w a2 n2 c2 ys) (ox : Ok xs) (oy : Ok ys) :
    Calls Tryz.prog 50 #[.slice a1 n1 c1, .slice a2 n2 c2] w fun e w' => Res2 w w' (mulL xs ys) e :=
  nmul_of a1 a2 n1 c1 n2 c2 xs ys w h1 h2 ox oy (fun m1 m2 => multiply_any a1 a2 n1 c1 n2 c2 xs ys w h1 h2 ox oy (by have := h1.len; have := h2.len; have := MayL.len m1; have := MayL.len m2; omega))
end Go.Proofs.YtjjeinfoeipjnaaGreatDoor

namespace Go.Proofs.YtjjeinfoeipjnaaGreatDoor
open Go.RowKit Go.Deep
set_option linter.unusedVariables false

end Go.Proofs.YtjjeinfoeipjnaaGreatDoor
