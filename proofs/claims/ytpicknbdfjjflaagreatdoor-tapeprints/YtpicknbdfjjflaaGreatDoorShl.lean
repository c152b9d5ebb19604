/- KarH -/
import Derived.Test.YtpicknbdfjjflaaGreatDoorKarS
import Derived.Test.YtpicknbdfjjflaaGreatDoorMul
import Derived.Test.YtpicknbdfjjflaaGreatDoorKarP
import Derived.Test.YtpicknbdfjjflaaGreatDoorCmp
namespace Go.Proofs.YtpicknbdfjjflaaGreatDoor
open Go.RowKit Go.Deep
set_option linter.unusedVariables false
theorem make_four (n : Nat) (hn : n ≤ 1000000000) (w : World) : (Instr.makeSlice 50 (.int .i64 (4 * ((n : Int) + 1))) (.int .i64 (4 * ((n : Int) + 1)))).run Tryz.prog w = .ok (.slice (some ⟨w.heap.size, 0, none⟩) (4 * (n + 1)) (4 * (n + 1))) (w.alloc (.cells (madeCells #[.int .u32 0] (4 * (n + 1))) 87)) := by
  have := make_len (4 * (n + 1)) (by omega) w
  rw [show ((4 * (n + 1) : Nat) : Int) = 4 * ((n : Int) + 1) from by omega] at this
  exact this

set_option maxHeartbeats 4000000 in
theorem halves_some (bz oz nz cz b1 o1 n1 c1 b2 o2 n2 c2 h : Nat) (xs ys : List Nat) (w : World) (hp : MulPre w bz oz nz cz (some ⟨b1, o1, none⟩) n1 c1 xs (some ⟨b2, o2, none⟩) n2 c2 ys) (h48 : 48 ≤ n2) (hle : n2 ≤ n1) (hh1 : 2 * h ≤ n1 + 1) (hh0 : n1 ≤ 2 * h) (hh2 : h < n2) (hbig : nz ≤ 1000000000) (N : Nat) (hN : n1 + n2 ≤ N + 1) (IH : MI N) :
    Calls Tryz.prog 152 #[.slice (some ⟨bz, oz, none⟩) nz cz, .slice (some ⟨b1, o1, none⟩) n1 c1, .slice (some ⟨b2, o2, none⟩) n2 c2] w fun e w' => MulPost w bz oz nz (val xs * val ys) e w' := by
  have HP := hide hp
  have HI := hide IH
  have hx : xs ≠ [] := by intro e; have := hp.h1.len; rw [e] at this; simp at this; omega
  have hy : ys ≠ [] := by intro e; have := hp.h2.len; rw [e] at this; simp at this; omega
  have HX := hide hx
  have HY := hide hy
  have KL := hide (fun q => half_lo hp hx hy IH hN h48 hle hh1 hh2 hbig q)
  have KH := hide (fun w1 => half_hi (w1 := w1) hp hx hy IH hN h48 hle hh1 hh0 hh2 hbig)
  have hcz := hp.hcz
  have hc1 := hp.h1.le
  have hc2 := hp.h2.le
  have hnz1 : n1 + n2 ≤ nz := by have := hp.hnz; omega
  have hnz2 : nz ≤ n1 + n2 := by have := hp.hnz; omega
  have eh : ((n1:Int) + 1).tdiv 2 = (h:Int) := by rw [Int.tdiv_eq_ediv_of_nonneg (by omega)]; omega
  have eh' : ((n1:Int) + 1) / 2 = (h:Int) := by omega
  have hz0 := World.block_lt_of_cell? _ _ (hp.hz 0 (by omega)).1
  have hb1 := hp.h1.block_lt hx _ rfl
  have hb2 := hp.h2.block_lt hy _ rfl
  have g1 : (h:Int) ≤ (c1:Int) := by omega
  have g2 : (h:Int) ≤ (c2:Int) := by omega
  have g3 : (h:Int) ≤ (n1:Int) := by omega
  have g4 : (h:Int) ≤ (n2:Int) := by omega
  have g5 : 2 * (h:Int) ≤ (cz:Int) := by omega
  have g6 : 2 * (h:Int) ≤ (nz:Int) := by omega
  have g7 : (nz:Int) ≤ (cz:Int) := by omega
  have g8 : (n1:Int) ≤ (c1:Int) := by omega
  have g9 : (n2:Int) ≤ (c2:Int) := by omega
  clear hp IH hx hy
  go_enter Tryz.func152, Tryz.ntmps152
  go_wp2_with fail
  go_quiet (fail)
  go_wp2_with fail
  go_quiet (fail)
  go_wp2_with fail
  go_quiet (fail)
  go_wp2_with fail
  refine (unhide KL _).mono ?_
  rintro e w1 ⟨rfl, hlo, hu⟩
  have KH' := hide (unhide KH w1 hlo hu)
  clear KL KH hlo hu
  go_wp2_with fail
  refine (unhide KH').mono ?_
  rintro e w2 ⟨rfl, hz⟩
  have hsz := hz.upd.size
  have S0 := hide (HalfS.start hz (by omega) (by omega) (by omega) 87)
  have hmk := make_four h (by omega)
  have r1 : (h:Int) + 1 ≤ 4 * ((h:Int) + 1) := by omega
  have r2 : 2 * ((h:Int) + 1) ≤ 4 * ((h:Int) + 1) := by omega
  have r3 : (h:Int) + 1 ≤ 2 * ((h:Int) + 1) := by omega
  have q1 : 2 * (h + 1) - (h + 1) = h + 1 := by omega
  have q2 : 4 * (h + 1) - 2 * (h + 1) = 2 * (h + 1) := by omega
  clear KH' hz hsz
  go_wp2_with fail
  go_quiet (fail)
  go_wp2_with (refine wpList_copy_part rfl _ _ rfl w2.heap.size 0 (h + 1) (h + 1) _ h h rfl rfl ((unhide S0).drewN _).pa (xs.take h) (HalfS.slA ((unhide S0).drewN _) (by omega) (by omega)) ((unhide HP).ox.take h) (Nat.le_succ _) ?_; intro w3 hu3 hp3; have S1 := hide (((unhide S0).drewN _).setA hu3 hp3); clear hu3 hp3 S0)
  have KA := hide ((unhide S1).addA (unhide HP).ox (by omega) (by omega) (by omega))
  clear S1
  refine (unhide KA).mono ?_
  rintro e w4 ⟨cc, rfl, s2⟩
  have S2 := hide s2
  clear s2 KA
  go_wp2_with (refine wpList_copy_part rfl _ _ rfl w2.heap.size (h + 1) (h + 1) (h + 1) _ h h rfl rfl (unhide S2).pb (ys.take h) ((unhide S2).slB (by omega) (by omega)) ((unhide HP).oy.take h) (Nat.le_succ _) ?_; intro w5 hu5 hp5; have S3 := hide ((unhide S2).setB hu5 hp5); clear hu5 hp5 S2)
  have KB := hide ((unhide S3).addB (unhide HP).oy (by omega) (by omega) (by omega))
  clear S3
  refine (unhide KB).mono ?_
  rintro e w6 ⟨cc2, rfl, s4⟩
  have KM := hide (s4.mul (unhide HI) (by omega) (by omega))
  clear s4 KB
  go_wp2_with fail
  refine (unhide KM).mono ?_
  rintro e w7 ⟨rfl, s5⟩
  rw [kar_mid] at s5
  have KS := hide (s5.subL (by omega) (by omega))
  clear s5 KM
  go_wp2_with fail
  refine (unhide KS).mono ?_
  rintro e w8 ⟨rfl, s6⟩
  have KT := hide (s6.subH (by omega) (by omega) (by omega))
  clear s6 KS
  go_wp2_with fail
  refine (unhide KT).mono ?_
  rintro e w9 ⟨rfl, s7⟩
  rw [half_less] at s7
  obtain ⟨zs, hs, hok, hv⟩ := s7.pc.sl (c := 2 * (h + 1)) (Nat.le_refl _) (by unfold maxLen; omega)
  have KR := trim_any _ (2 * (h + 1)) (2 * (h + 1)) zs w9.drew (hs.below (Below.refl _ _).drew) hok
  rw [hv] at KR
  have KR' := hide KR
  have KF := hide (fun (a' : Option Addr) (m : Nat) (zs' : List Nat) (hs' : Sl w9.drew a' m m zs') (hr : Rep _ zs') (ha : a' = some ⟨w2.heap.size, 2 * (h + 1), none⟩ ∨ a' = none) => half_fin (cz := cz) (s7.z.below (Nat.lt_trans s7.rz s7.rv) (Below.refl _ _).drew) (unhide HP).ox (unhide HP).oy (unhide HP).hnz (by omega) (by omega) (by omega) hbig hs' hr (fun x hx _ => by rcases ha with e | e <;> rw [e] at hx <;> cases hx; exact Nat.ne_of_gt s7.rz))
  have t1 : (h:Int) ≤ (nz:Int) := by omega
  clear s7 hs hok hv KT KR
  go_wp2_with fail
  go_region_with (first | (go_at_call 130; refine (unhide KR').mono ?_; rintro e w5 ⟨a', m, zs', rfl, hs, hr, ha, rfl⟩; have KB := hide (unhide KF a' m zs' hs hr ha); clear hs hr ha) | (go_at_call 149; refine (unhide KB).mono ?_; rintro e w6 ⟨cc, rfl, hR2⟩; have HR2 := hide hR2; clear hR2))
  all_goals
    go_wp2
    go_end0
    exact unhide HR2
set_option maxHeartbeats 800000 in
theorem into_p {w : World} {bz oz nz cz : Nat} {a1 : Option Addr} {n1 c1 : Nat} {a2 : Option Addr} {n2 c2 : Nat} {v : Nat} (h : Nat) (hge : n2 ≤ n1) (h48 : 48 ≤ n2) (hh : (n1 + 1) / 2 = h) (hk : (n2:Int) ≤ (h:Int)) (hbig : n1 + n2 ≤ 1000000000)
    (KK : Calls Tryz.prog 151 #[.slice (some ⟨bz, oz, none⟩) nz cz, .slice a1 n1 c1, .slice a2 n2 c2] w fun e w' => MulPost w bz oz nz v e w') :
    Calls Tryz.prog 146 #[.slice (some ⟨bz, oz, none⟩) nz cz, .slice a1 n1 c1, .slice a2 n2 c2] w fun e w' => MulPost w bz oz nz v e w' := by
  have K := hide KK
  have ht : ¬ (n1:Int) < (n2:Int) := by omega
  have ht2 : ¬ (n2:Int) < 48 := by omega
  have eh : ((n1:Int) + 1).tdiv 2 = (h:Int) := by rw [Int.tdiv_eq_ediv_of_nonneg (by omega)]; omega
  have eh' : ((n1:Int) + 1) / 2 = (h:Int) := by omega
  clear KK
  go_enter Tryz.func146, Tryz.ntmps146
  go_wp2_with fail
  refine (unhide K).mono ?_
  rintro e w' ⟨rfl, hp⟩
  have HP := hide hp
  clear hp K
  go_wp2
  go_end0
  exact ⟨rfl, unhide HP⟩

set_option maxHeartbeats 800000 in
theorem into_ps {w : World} {bz oz nz cz : Nat} {a1 : Option Addr} {n1 c1 : Nat} {a2 : Option Addr} {n2 c2 : Nat} {v : Nat} (h : Nat) (hlt : n1 < n2) (h48 : 48 ≤ n1) (hh : (n2 + 1) / 2 = h) (hk : (n1:Int) ≤ (h:Int)) (hbig : n1 + n2 ≤ 1000000000)
    (KK : Calls Tryz.prog 151 #[.slice (some ⟨bz, oz, none⟩) nz cz, .slice a2 n2 c2, .slice a1 n1 c1] w fun e w' => MulPost w bz oz nz v e w') :
    Calls Tryz.prog 146 #[.slice (some ⟨bz, oz, none⟩) nz cz, .slice a1 n1 c1, .slice a2 n2 c2] w fun e w' => MulPost w bz oz nz v e w' := by
  have K := hide KK
  have ht : (n1:Int) < (n2:Int) := by omega
  have ht2 : ¬ (n1:Int) < 48 := by omega
  have eh : ((n2:Int) + 1).tdiv 2 = (h:Int) := by rw [Int.tdiv_eq_ediv_of_nonneg (by omega)]; omega
  have eh' : ((n2:Int) + 1) / 2 = (h:Int) := by omega
  clear KK
  go_enter Tryz.func146, Tryz.ntmps146
  go_wp2_with fail
  refine (unhide K).mono ?_
  rintro e w' ⟨rfl, hp⟩
  have HP := hide hp
  clear hp K
  go_wp2
  go_end0
  exact ⟨rfl, unhide HP⟩

set_option maxHeartbeats 800000 in
theorem into_h {w : World} {bz oz nz cz : Nat} {a1 : Option Addr} {n1 c1 : Nat} {a2 : Option Addr} {n2 c2 : Nat} {v : Nat} (h : Nat) (hge : n2 ≤ n1) (h48 : 48 ≤ n2) (hh : (n1 + 1) / 2 = h) (hk : ¬ (n2:Int) ≤ (h:Int)) (hbig : n1 + n2 ≤ 1000000000)
    (KK : Calls Tryz.prog 152 #[.slice (some ⟨bz, oz, none⟩) nz cz, .slice a1 n1 c1, .slice a2 n2 c2] w fun e w' => MulPost w bz oz nz v e w') :
    Calls Tryz.prog 146 #[.slice (some ⟨bz, oz, none⟩) nz cz, .slice a1 n1 c1, .slice a2 n2 c2] w fun e w' => MulPost w bz oz nz v e w' := by
  have K := hide KK
  have ht : ¬ (n1:Int) < (n2:Int) := by omega
  have ht2 : ¬ (n2:Int) < 48 := by omega
  have eh : ((n1:Int) + 1).tdiv 2 = (h:Int) := by rw [Int.tdiv_eq_ediv_of_nonneg (by omega)]; omega
  have eh' : ((n1:Int) + 1) / 2 = (h:Int) := by omega
  clear KK
  go_enter Tryz.func146, Tryz.ntmps146
  go_wp2_with fail
  refine (unhide K).mono ?_
  rintro e w' ⟨rfl, hp⟩
  have HP := hide hp
  clear hp K
  go_wp2
  go_end0
  exact ⟨rfl, unhide HP⟩

set_option maxHeartbeats 800000 in
theorem into_hs {w : World} {bz oz nz cz : Nat} {a1 : Option Addr} {n1 c1 : Nat} {a2 : Option Addr} {n2 c2 : Nat} {v : Nat} (h : Nat) (hlt : n1 < n2) (h48 : 48 ≤ n1) (hh : (n2 + 1) / 2 = h) (hk : ¬ (n1:Int) ≤ (h:Int)) (hbig : n1 + n2 ≤ 1000000000)
    (KK : Calls Tryz.prog 152 #[.slice (some ⟨bz, oz, none⟩) nz cz, .slice a2 n2 c2, .slice a1 n1 c1] w fun e w' => MulPost w bz oz nz v e w') :
    Calls Tryz.prog 146 #[.slice (some ⟨bz, oz, none⟩) nz cz, .slice a1 n1 c1, .slice a2 n2 c2] w fun e w' => MulPost w bz oz nz v e w' := by
  have K := hide KK
  have ht : (n1:Int) < (n2:Int) := by omega
  have ht2 : ¬ (n1:Int) < 48 := by omega
  have eh : ((n2:Int) + 1).tdiv 2 = (h:Int) := by rw [Int.tdiv_eq_ediv_of_nonneg (by omega)]; omega
  have eh' : ((n2:Int) + 1) / 2 = (h:Int) := by omega
  clear KK
  go_enter Tryz.func146, Tryz.ntmps146
  go_wp2_with fail
  refine (unhide K).mono ?_
  rintro e w' ⟨rfl, hp⟩
  have HP := hide hp
  clear hp K
  go_wp2
  go_end0
  exact ⟨rfl, unhide HP⟩

theorem MulPre.some {w : World} {bz oz nz cz : Nat} {a1 : Option Addr} {n1 c1 : Nat} {xs : List Nat} {a2 : Option Addr} {n2 c2 : Nat} {ys : List Nat} (h : MulPre w bz oz nz cz a1 n1 c1 xs a2 n2 c2 ys) (h1 : 0 < n1) (h2 : 0 < n2) : ∃ b1 o1 b2 o2, a1 = some ⟨b1, o1, none⟩ ∧ a2 = some ⟨b2, o2, none⟩ := by
  have l1 := h.h1.len
  have l2 := h.h2.len
  rcases h.h1.cells with e | ⟨b1, o1, e1, _⟩
  · subst e; simp at l1; omega
  · rcases h.h2.cells with e | ⟨b2, o2, e2, _⟩
    · subst e; simp at l2; omega
    · exact ⟨b1, o1, b2, o2, e1, e2⟩

theorem mi_all : ∀ N, N ≤ 1000000000 → MI N
  | 0, _ => fun w bz oz nz cz a1 n1 c1 xs a2 n2 c2 ys hN h => into_small h (.inl (by omega))
  | N + 1, hb => fun w bz oz nz cz a1 n1 c1 xs a2 n2 c2 ys hN h => by
    have IH := mi_all N (by omega)
    have hnz := h.hnz
    by_cases hs : n1 < 48 ∨ n2 < 48
    · exact into_small h hs
    · obtain ⟨b1, o1, b2, o2, rfl, rfl⟩ := h.some (by omega) (by omega)
      by_cases hlt : n1 < n2
      · by_cases hk : 2 * n1 ≤ n2 + 1
        · refine into_ps _ hlt (by omega) rfl (by omega) (by omega) ?_
          rw [Nat.mul_comm (val xs)]
          exact pieces_some bz oz nz cz b2 o2 n2 c2 b1 o1 n1 c1 ys xs w h.swap (by omega) hk (by omega) N (by omega) IH
        · refine into_hs _ hlt (by omega) rfl (by omega) (by omega) ?_
          rw [Nat.mul_comm (val xs)]
          exact halves_some bz oz nz cz b2 o2 n2 c2 b1 o1 n1 c1 ((n2 + 1) / 2) ys xs w h.swap (by omega) (by omega) (by omega) (by omega) (by omega) (by omega) N (by omega) IH
      · by_cases hk : 2 * n2 ≤ n1 + 1
        · refine into_p _ (by omega) (by omega) rfl (by omega) (by omega) ?_
          exact pieces_some bz oz nz cz b1 o1 n1 c1 b2 o2 n2 c2 xs ys w h (by omega) hk (by omega) N (by omega) IH
        · refine into_h _ (by omega) (by omega) rfl (by omega) (by omega) ?_
          exact halves_some bz oz nz cz b1 o1 n1 c1 b2 o2 n2 c2 ((n1 + 1) / 2) xs ys w h (by omega) (by omega) (by omega) (by omega) (by omega) (by omega) N (by omega) IH

theorem multiply_any (a1 a2 : Option Addr) (n1 c1 n2 c2 : Nat) (xs ys : List Nat) (w : World) (h1 : Sl w a1 n1 c1 xs) (h2 : Sl w a2 n2 c2 ys) (ox : Ok xs) (oy : Ok ys) (hb : n1 + n2 ≤ 1000000000) :
    Calls Tryz.prog 138 #[.slice a1 n1 c1, .slice a2 n2 c2] w fun e w' => NewRep w w' (val xs * val ys) e :=
  multiply_of a1 a2 n1 c1 n2 c2 xs ys w h1 h2 ox oy (by omega) (fun w bz oz nz cz h => mi_all 1000000000 (Nat.le_refl _) w bz oz nz cz a1 n1 c1 xs a2 n2 c2 ys hb h)

structure SlL (w : World) (a : Option Addr) (n c : Nat) (ps : List Pc) : Prop where
  len : ps.length = n
  le : n ≤ c
  cells : ps = [] ∨ ∃ b off, a = some ⟨b, off, none⟩ ∧ ∀ i p, ps[i]? = some p → w.cell? ⟨b, off + i, none⟩ = some (.slice p.a p.n p.c)
  each : ∀ p ∈ ps, Sl w p.a p.n p.c p.xs ∧ Ok p.xs

theorem SlL.below {w w' : World} {a : Option Addr} {n c : Nat} {ps : List Pc} (h : SlL w a n c ps) (k : Below w.heap.size w w') : SlL w' a n c ps := by
  refine ⟨h.len, h.le, ?_, fun p hp => ⟨(h.each p hp).1.below k, (h.each p hp).2⟩⟩
  rcases h.cells with e | ⟨b, off, e, hc⟩
  · exact .inl e
  · refine .inr ⟨b, off, e, fun i p hp => ?_⟩
    have h1 := hc i p hp
    have hb := World.block_lt_of_cell? _ _ h1
    have : w'.cell? ⟨b, off + i, none⟩ = w.cell? ⟨b, off + i, none⟩ := by unfold World.cell?; simp only; rw [k.block b hb]
    rw [this]; exact h1

theorem SlL.at' {w : World} {a : Option Addr} {n c : Nat} {ps : List Pc} (h : SlL w a n c ps) {i : Nat} (hi : i < n) :
    ∃ b off p, a = some ⟨b, off, none⟩ ∧ ps[i]? = some p ∧ w.cell? ⟨b, off + i, none⟩ = some (.slice p.a p.n p.c) ∧ Sl w p.a p.n p.c p.xs ∧ Ok p.xs := by
  have hl := h.len
  have hi' : i < ps.length := by omega
  have hp : ps[i]? = some ps[i] := List.getElem?_eq_getElem hi'
  rcases h.cells with e | ⟨b, off, e, hc⟩
  · rw [e] at hl; simp at hl; omega
  · exact ⟨b, off, ps[i], e, hp, hc i _ hp, h.each _ (List.getElem_mem hi')⟩



def sv (x s : Nat) : Nat := x * 2 ^ s
def slo (x s : Nat) : Nat := x * 2 ^ s % 4294967296
def shi (x s : Nat) : Nat := x * 2 ^ s / 4294967296

theorem pow_s {s : Nat} (h : s < 32) : 1 ≤ 2 ^ s ∧ 2 ^ s ≤ 2147483648 := by
  refine ⟨Nat.pow_pos (by decide), ?_⟩
  have : 2 ^ s ≤ 2 ^ 31 := Nat.pow_le_pow_right (by decide) (by omega)
  simpa using this

theorem pow_split {s : Nat} (h : s < 32) : 2 ^ s * 2 ^ (32 - s) = 4294967296 := by
  rw [← Nat.pow_add, show s + (32 - s) = 32 from by omega]

theorem sv_lt {x s : Nat} (hx : x < 4294967296) (h : s < 32) : sv x s < 9223372036854775808 := by
  obtain ⟨h1, h2⟩ := pow_s h
  have : x * 2 ^ s ≤ 4294967295 * 2147483648 := Nat.mul_le_mul (by omega) h2
  unfold sv
  omega

theorem sv_int {x s : Nat} (hx : x < 4294967296) (h : s < 32) : IntKind.u64.wrap ((x : Int) * 2 ^ s) = ((sv x s : Nat) : Int) := by
  have hb := sv_lt hx h
  have e : (x : Int) * 2 ^ s = ((sv x s : Nat) : Int) := by unfold sv; rw [Int.natCast_mul, Int.natCast_pow]; rfl
  rw [e, IntKind.wrap_u64]
  omega

theorem slo_int (x s : Nat) : ((sv x s : Nat) : Int) % 4294967296 = ((slo x s : Nat) : Int) := by unfold slo sv; omega
theorem shi_int (x s : Nat) : ((sv x s : Nat) : Int) / 4294967296 = ((shi x s : Nat) : Int) := by unfold shi sv; omega
theorem sh_eq (x s : Nat) : slo x s + 4294967296 * shi x s = x * 2 ^ s := by unfold slo shi; exact Nat.mod_add_div _ _
theorem slo_lt (x s : Nat) : slo x s < 4294967296 := by unfold slo; exact Nat.mod_lt _ (by decide)
theorem shi_lt {x s : Nat} (hx : x < 4294967296) (h : s < 32) : shi x s < 2 ^ s := by
  unfold shi
  obtain ⟨h1, h2⟩ := pow_s h
  rw [Nat.div_lt_iff_lt_mul (by decide), Nat.mul_comm]
  exact Nat.mul_lt_mul_of_pos_left hx (by omega)

theorem slo_mul {x s : Nat} (h : s < 32) : slo x s = 2 ^ s * (x % 2 ^ (32 - s)) := by
  unfold slo
  rw [← pow_split h, Nat.mul_comm x, Nat.mul_mod_mul_left]

theorem or_slo {o x s : Nat} (h : s < 32) (ho : o < 2 ^ s) : o ||| slo x s = o + slo x s := by
  rw [slo_mul h]
  have := Nat.shiftLeft_add_eq_or_of_lt (i := s) (b := o) ho (x % 2 ^ (32 - s))
  rw [Nat.shiftLeft_eq, Nat.mul_comm] at this
  rw [Nat.or_comm, ← this, Nat.add_comm]

theorem or_slo_lt {o x s : Nat} (h : s < 32) (ho : o < 2 ^ s) : o + slo x s < 4294967296 := by
  rw [← or_slo h ho]
  have : (o ||| slo x s) < 2 ^ 32 := Nat.or_lt_two_pow (by have := (pow_s h).2; omega) (slo_lt x s)
  exact this

def orv (o x s : Nat) : Nat := o + slo x s
theorem or_int {o x s : Nat} (h : s < 32) (ho : o < 2 ^ s) : bits .or .u32 (o : Int) ((slo x s : Nat) : Int) = ((orv o x s : Nat) : Int) := by
  rw [u32_or_nat _ _ (by have := (pow_s h).2; omega) (slo_lt x s), or_slo h ho]
  rfl

structure ShR (wr w : World) (m l s : Nat) (xs : List Nat) (i : Nat) (g : Nat → Nat) : Prop where
  fn : Fn wr w.heap.size 0 m g
  ok : ∀ k, k < m → g k < 4294967296
  top : g (l + i) < 2 ^ s
  zero : ∀ k, l + i < k → g k = 0
  val : valF g (l + i + 1) = valF (fun k => xs.getD k 0) i * 2 ^ s * 4294967296 ^ l
  bel : Below w.heap.size w wr

theorem ShR.step {wr w : World} {m l s : Nat} {xs : List Nat} {i : Nat} {g : Nat → Nat} (h : ShR wr w m l s xs i g) (hs : s < 32) (hm : l + i + 1 < m) (ox : Ok xs) :
    ShR ((wr.setCell ⟨w.heap.size, l + i, none⟩ (.int .u32 (orv (g (l + i)) (xs.getD i 0) s : Nat))).setCell ⟨w.heap.size, l + i + 1, none⟩ (.int .u32 (shi (xs.getD i 0) s : Nat))) w m l s xs (i + 1)
      (fun k => if k = l + i + 1 then shi (xs.getD i 0) s else if k = l + i then orv (g (l + i)) (xs.getD i 0) s else g k) := by
  have f1 := h.fn.set (l + i) (orv (g (l + i)) (xs.getD i 0) s) (by omega)
  have f2 := f1.set (l + i + 1) (shi (xs.getD i 0) s) hm
  simp only [Nat.zero_add] at f2
  have hh := shi_lt (ox.getD i) hs
  have hp := pow_s hs
  refine ⟨f2, ?_, ?_, ?_, ?_, (h.bel.setCell (Nat.le_refl _) _).setCell (Nat.le_refl _) _⟩
  · intro k hk
    by_cases e : k = l + i + 1
    · simp only [e, if_true]; omega
    · by_cases e2 : k = l + i
      · simp only [e2, show ¬ l + i = l + i + 1 from by omega, if_true, if_false]; exact or_slo_lt hs h.top
      · simp only [e, e2, if_false]; exact h.ok k hk
  · simp only [show l + (i + 1) = l + i + 1 from by omega, if_true]; exact hh
  · intro k hk
    simp only [show ¬ k = l + i + 1 from by omega, show ¬ k = l + i from by omega, if_false]
    exact h.zero k (by omega)
  · have e1 : l + (i + 1) + 1 = l + i + 1 + 1 := by omega
    rw [e1]
    simp only [valF]
    simp only [if_true, show ¬ l + i = l + i + 1 from by omega, if_false]
    rw [valF_congr (g := g) (fun k hk => by rw [if_neg (by omega), if_neg (by omega)])]
    have hv := h.val
    simp only [valF] at hv
    have e := sh_eq (xs.getD i 0) s
    have e2 : orv (g (l + i)) (xs.getD i 0) s = g (l + i) + slo (xs.getD i 0) s := rfl
    rw [e2, Nat.mul_add, Nat.pow_succ, Nat.add_mul, Nat.add_mul, ← hv]
    have e3 : 4294967296 ^ (l + i) * slo (xs.getD i 0) s + 4294967296 ^ (l + i) * 4294967296 * shi (xs.getD i 0) s = 4294967296 ^ i * xs.getD i 0 * 2 ^ s * 4294967296 ^ l := by
      rw [Nat.mul_assoc, ← Nat.mul_add, e, Nat.pow_add]
      rw [Nat.mul_comm (4294967296 ^ l), Nat.mul_assoc, Nat.mul_comm (4294967296 ^ l), ← Nat.mul_assoc, ← Nat.mul_assoc]
    generalize 4294967296 ^ (l + i) * slo (xs.getD i 0) s = t1 at *
    generalize 4294967296 ^ (l + i) * 4294967296 * shi (xs.getD i 0) s = t2 at *
    generalize 4294967296 ^ i * xs.getD i 0 * 2 ^ s * 4294967296 ^ l = t3 at *
    generalize 4294967296 ^ (l + i) * g (l + i) = t4 at *
    omega

theorem ShR.begin (w : World) (m l s : Nat) (xs : List Nat) (hs : s < 32) : ShR (w.alloc (.cells (madeCells #[.int .u32 0] m) 87)) w m l s xs 0 (fun _ => 0) :=
  ⟨Fn.made w m _, fun _ _ => by decide, (pow_s hs).1, fun _ _ => rfl, by rw [valF_zero]; simp [valF], (Below.refl _ _).alloc (Nat.le_refl _) _⟩

theorem sh_total {v k l s : Nat} (hl : k / 32 = l) (hs : k % 32 = s) : v * 2 ^ s * 4294967296 ^ l = v * 2 ^ k := by
  have e : k = s + 32 * l := by omega
  have p : (4294967296 : Nat) ^ l = 2 ^ (32 * l) := by rw [Nat.pow_mul]
  rw [e, Nat.pow_add, p, Nat.mul_assoc]
theorem make_nl (n l : Nat) (h : n + l + 1 ≤ 70368744177600) (w : World) : (Instr.makeSlice 50 (.int .i64 ((n : Int) + (l : Int) + 1)) (.int .i64 ((n : Int) + (l : Int) + 1))).run Tryz.prog w = .ok (.slice (some ⟨w.heap.size, 0, none⟩) (n + l + 1) (n + l + 1)) (w.alloc (.cells (madeCells #[.int .u32 0] (n + l + 1)) 87)) := by
  have := make_len (n + l + 1) h w
  rw [show ((n + l + 1 : Nat) : Int) = (n : Int) + (l : Int) + 1 from by omega] at this
  exact this

set_option maxHeartbeats 2000000 in
theorem shl_some (b off n c : Nat) (xs : List Nat) (w : World) (k l s : Nat) (hl : xs.length = n) (hc : Cells w b off xs) (ox : Ok xs) (hkl : (k:Int) / 32 = (l:Int)) (hks : (k:Int) % 32 = (s:Int)) (hs32 : s < 32) (hk0 : k ≤ 65536) (hl0 : l ≤ 2048) (hn : 0 < n) (hn2 : n ≤ 2048) :
    Calls Tryz.prog 143 #[.slice (some ⟨b, off, none⟩) n c, .int .i64 (k : Nat)] w fun e w' => NewRep w w' (val xs * 2 ^ k) e := by
  have hmk := fun w => make_nl n l (by omega) w
  have hne : ((n:Int) == 0) = false := by simp; omega
  have HL := hide hl
  have HT := hide (sh_total (v := val xs) (k := k) (l := l) (s := s) (by omega) (by omega))
  clear hl
  go_enter Tryz.func143, Tryz.ntmps143
  go_wp2_with fail
  rw [hks]
  clear hkl hks hk0
  go_loopw [25] (fun i wr => ∃ j : Nat, ∃ g : Nat → Nat, j ≤ n ∧ i = .int .i64 j ∧ ShR wr w (n + l + 1) l s xs j g) (fun i _ => n - (intOf i).toNat)
  case atStart => exact ⟨0, _, Nat.zero_le _, rfl, ShR.begin w (n + l + 1) l s xs hs32⟩
  case round =>
    obtain ⟨j, g, hj, rfl, hR⟩ := hrel
    by_cases hlt : j < n
    · have hlt' : (j:Int) < (n:Int) := by omega
      have hb1 : (l:Int) + (j:Int) < (n:Int) + (l:Int) + 1 := by omega
      have hb2 : (l:Int) + (j:Int) + 1 < (n:Int) + (l:Int) + 1 := by omega
      have g0 := hc j (by rw [unhide HL]; exact hlt)
      have g1 : wr.cell? ⟨b, off + j, none⟩ = _ := (hR.bel.cell (World.block_lt_of_cell? _ _ g0)).trans g0
      have g2 := hR.fn (l + j) (by omega)
      have g3 := hR.fn (l + j + 1) (by omega)
      simp only [Nat.zero_add] at g2 g3
      have c1 := g2.1
      have c2 := g2.2
      have c3 := g3.1
      have c4 := g3.2
      have bx := ox.getD j
      have e0 := sv_int (x := xs.getD j 0) (s := s) bx hs32
      have e1 := slo_int (xs.getD j 0) s
      have e2 := shi_int (xs.getD j 0) s
      have e3 := or_int (x := xs.getD j 0) hs32 hR.top
      have b1 := sv_lt (x := xs.getD j 0) bx hs32
      have b2 : shi (xs.getD j 0) s < 4294967296 := by have := shi_lt (x := xs.getD j 0) bx hs32; have := (pow_s hs32).2; omega
      have HS := hide (hR.step hs32 (by omega) ox)
      generalize xs.getD j 0 = x at *
      generalize g (l + j) = o at *
      generalize g (l + j + 1) = o2 at *
      clear hR g0 g2 g3
      go_wp2
      exact ⟨⟨j + 1, _, by omega, by go_num, unhide HS⟩, by simp [intOf]; omega⟩
    · have hjn : j = n := by omega
      subst hjn
      have hv : valF g (j + l + 1) = val xs * 2 ^ k := by
        have := hR.val
        rw [← unhide HL, valF_list, unhide HT, unhide HL, Nat.add_comm l j] at this
        exact this
      have KT := trim_any _ (j + l + 1) (j + l + 1) _ wr (hR.fn.sl (Nat.le_refl _) (by unfold maxLen; omega)) (lst_ok hR.ok)
      rw [lst_val, hv] at KT
      have KT' := hide KT
      have HB := hide hR.bel
      clear hR KT hv
      go_wp2_with fail
      refine (unhide KT').mono ?_
      rintro e w3 ⟨a', m, zs, rfl, hs, hr, ha, rfl⟩
      go_wp2
      go_ret
      refine ⟨a', m, zs, rfl, hs, hr, ?_, unhide HB⟩
      intro x hx
      rcases ha with rfl | rfl
      · cases hx; exact Nat.le_refl _
      · cases hx

set_option maxHeartbeats 400000 in
theorem shl_nil (a : Option Addr) (c : Nat) (k : Int) (w : World) :
    Calls Tryz.prog 143 #[.slice a 0 c, .int .i64 k] w fun e w' => e = .returned (.slice none 0 0) ∧ w' = w := by
  go_enter Tryz.func143, Tryz.ntmps143
  go_wp2
  go_ret
  exact ⟨rfl, rfl⟩

theorem shl_any (a : Option Addr) (n c : Nat) (xs : List Nat) (w : World) (k : Nat) (h : Sl w a n c xs) (ox : Ok xs) (hn : n ≤ 2048) (hk : k ≤ 65536) :
    Calls Tryz.prog 143 #[.slice a n c, .int .i64 (k : Nat)] w fun e w' => NewRep w w' (val xs * 2 ^ k) e := by
  by_cases h0 : xs = []
  · have hl := h.len
    subst h0
    simp at hl
    subst hl
    refine (shl_nil a c k w).mono ?_
    rintro e w' ⟨rfl, rfl⟩
    exact ⟨none, 0, [], rfl, sl_nil _, ⟨Ok.nil, .inl rfl, by simp [val]⟩, newAt_nil _, Below.refl _ _⟩
  · have hp : 0 < xs.length := List.length_pos_iff.2 h0
    rcases h.cells with e | ⟨b, off, rfl, hc⟩
    · exact absurd e h0
    · exact shl_some b off n c xs w k (k / 32) (k % 32) h.len hc ox (by omega) (by omega) (by omega) hk (by omega) (by have := h.len; omega) hn
end Go.Proofs.YtpicknbdfjjflaaGreatDoor
