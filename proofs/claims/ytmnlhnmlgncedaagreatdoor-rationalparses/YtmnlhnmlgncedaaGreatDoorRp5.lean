/- KarH -/
import Derived.Test.YtmnlhnmlgncedaaGreatDoorKarS
import Derived.Test.YtmnlhnmlgncedaaGreatDoorGg
import Derived.Test.YtmnlhnmlgncedaaGreatDoorRd3
import Derived.Test.YtmnlhnmlgncedaaGreatDoorPa2
import Derived.Test.YtmnlhnmlgncedaaGreatDoorCmp
import Derived.Test.YtmnlhnmlgncedaaGreatDoorShl
import Derived.Test.YtmnlhnmlgncedaaGreatDoorGb
import Derived.Test.YtmnlhnmlgncedaaGreatDoorWr2
import Derived.Test.YtmnlhnmlgncedaaGreatDoorRp3
import Derived.Test.YtmnlhnmlgncedaaGreatDoorRd2
import Derived.Test.YtmnlhnmlgncedaaGreatDoorPa6
import Derived.Laws.IdiomStrings
namespace Go.Proofs.YtmnlhnmlgncedaaGreatDoor
open Go.RowKit Go.Deep
set_option linter.unusedVariables false
theorem make_four (n:Nat) (hn:n ≤ 1000000000) (w:World):(Instr.makeSlice 22 (.int .i64 (4 * ((n:Int) + 1))) (.int .i64 (4 * ((n:Int) + 1)))).run Tryz.prog w = .ok (.slice (some ⟨w.heap.size,0,none⟩) (4 * (n + 1)) (4 * (n + 1))) (w.alloc (.cells (madeCells #[.int .u32 0] (4 * (n + 1))) 84)):=by
 have:=make_len (4 * (n + 1)) (by omega) w
 rw [show ((4 * (n + 1):Nat):Int) = 4 * ((n:Int) + 1) from by omega] at this
 exact this

set_option maxHeartbeats 4000000 in
theorem halves_some (bz oz nz cz b1 o1 n1 c1 b2 o2 n2 c2 h:Nat) (xs ys:List Nat) (w:World) (hp:MulPre w bz oz nz cz (some ⟨b1,o1,none⟩) n1 c1 xs (some ⟨b2,o2,none⟩) n2 c2 ys) (h48:48 ≤ n2) (hle:n2 ≤ n1) (hh1:2 * h ≤ n1 + 1) (hh0:n1 ≤ 2 * h) (hh2:h < n2) (hbig:nz ≤ 1000000000) (N:Nat) (hN:n1 + n2 ≤ N + 1) (IH:MI N) :
  Calls Tryz.prog 206 #[.slice (some ⟨bz,oz,none⟩) nz cz,.slice (some ⟨b1,o1,none⟩) n1 c1,.slice (some ⟨b2,o2,none⟩) n2 c2] w fun e w' => MulPost w bz oz nz (val xs * val ys) e w':=by
 have HP:=Hj hp
 have HI:=Hj IH
 have hx:xs ≠ []:=by intro e; have:=hp.h1.len; rw [e] at this; simp at this; omega
 have hy:ys ≠ []:=by intro e; have:=hp.h2.len; rw [e] at this; simp at this; omega
 have HX:=Hj hx
 have HY:=Hj hy
 have KL:=Hj (fun q => half_lo hp hx hy IH hN h48 hle hh1 hh2 hbig q)
 have KH:=Hj (fun w1 => half_hi (w1:=w1) hp hx hy IH hN h48 hle hh1 hh0 hh2 hbig)
 have hcz:=hp.hcz
 have hc1:=hp.h1.le
 have hc2:=hp.h2.le
 have hnz1:n1 + n2 ≤ nz:=by have:=hp.hnz; omega
 have hnz2:nz ≤ n1 + n2:=by have:=hp.hnz; omega
 have eh:((n1:Int) + 1).tdiv 2 = (h:Int):=by rw [Int.tdiv_eq_ediv_of_nonneg (by omega)]; omega
 have eh':((n1:Int) + 1) / 2 = (h:Int):=by omega
 have hz0:=World.block_lt_of_cell? _ _ (hp.hz 0 (by omega)).1
 have hb1:=hp.h1.block_lt hx _ rfl
 have hb2:=hp.h2.block_lt hy _ rfl
 have g1:(h:Int) ≤ (c1:Int):=by omega
 have g2:(h:Int) ≤ (c2:Int):=by omega
 have g3:(h:Int) ≤ (n1:Int):=by omega
 have g4:(h:Int) ≤ (n2:Int):=by omega
 have g5:2 * (h:Int) ≤ (cz:Int):=by omega
 have g6:2 * (h:Int) ≤ (nz:Int):=by omega
 have g7:(nz:Int) ≤ (cz:Int):=by omega
 have g8:(n1:Int) ≤ (c1:Int):=by omega
 have g9:(n2:Int) ≤ (c2:Int):=by omega
 clear hp IH hx hy
 go_enter Tryz.func206,Tryz.ntmps206
 go_wp2_with fail
 go_quiet (fail)
 go_wp2_with fail
 go_quiet (fail)
 go_wp2_with fail
 go_quiet (fail)
 go_wp2_with fail
 refine (Uh KL _).mono ?_
 rintro e w1 ⟨rfl,hlo,hu⟩
 have KH':=Hj (Uh KH w1 hlo hu)
 clear KL KH hlo hu
 go_wp2_with fail
 refine (Uh KH').mono ?_
 rintro e w2 ⟨rfl,hz⟩
 have hsz:=hz.upd.size
 have S0:=Hj (HalfS.start hz (by omega) (by omega) (by omega) 84)
 have hmk:=make_four h (by omega)
 have r1:(h:Int) + 1 ≤ 4 * ((h:Int) + 1):=by omega
 have r2:2 * ((h:Int) + 1) ≤ 4 * ((h:Int) + 1):=by omega
 have r3:(h:Int) + 1 ≤ 2 * ((h:Int) + 1):=by omega
 have q1:2 * (h + 1) - (h + 1) = h + 1:=by omega
 have q2:4 * (h + 1) - 2 * (h + 1) = 2 * (h + 1):=by omega
 clear KH' hz hsz
 go_wp2_with fail
 go_quiet (fail)
 go_wp2_with (refine wpList_copy_part rfl _ _ rfl w2.heap.size 0 (h + 1) (h + 1) _ h h rfl rfl ((Uh S0).drewN _).pa (xs.take h) (HalfS.slA ((Uh S0).drewN _) (by omega) (by omega)) ((Uh HP).ox.take h) (Nat.le_succ _) ?_; intro w3 hu3 hp3; have S1:=Hj (((Uh S0).drewN _).setA hu3 hp3); clear hu3 hp3 S0)
 have KA:=Hj ((Uh S1).addA (Uh HP).ox (by omega) (by omega) (by omega))
 clear S1
 refine (Uh KA).mono ?_
 rintro e w4 ⟨cc,rfl,s2⟩
 have S2:=Hj s2
 clear s2 KA
 go_wp2_with (refine wpList_copy_part rfl _ _ rfl w2.heap.size (h + 1) (h + 1) (h + 1) _ h h rfl rfl (Uh S2).pb (ys.take h) ((Uh S2).slB (by omega) (by omega)) ((Uh HP).oy.take h) (Nat.le_succ _) ?_; intro w5 hu5 hp5; have S3:=Hj ((Uh S2).setB hu5 hp5); clear hu5 hp5 S2)
 have KB:=Hj ((Uh S3).addB (Uh HP).oy (by omega) (by omega) (by omega))
 clear S3
 refine (Uh KB).mono ?_
 rintro e w6 ⟨cc2,rfl,s4⟩
 have KM:=Hj (s4.mul (Uh HI) (by omega) (by omega))
 clear s4 KB
 go_wp2_with fail
 refine (Uh KM).mono ?_
 rintro e w7 ⟨rfl,s5⟩
 rw [kar_mid] at s5
 have KS:=Hj (s5.subL (by omega) (by omega))
 clear s5 KM
 go_wp2_with fail
 refine (Uh KS).mono ?_
 rintro e w8 ⟨rfl,s6⟩
 have KT:=Hj (s6.subH (by omega) (by omega) (by omega))
 clear s6 KS
 go_wp2_with fail
 refine (Uh KT).mono ?_
 rintro e w9 ⟨rfl,s7⟩
 rw [half_less] at s7
 obtain ⟨zs,hs,hok,hv⟩:=s7.pc.sl (c:=2 * (h + 1)) (Nat.le_refl _) (by unfold maxLen; omega)
 have KR:=trim_any _ (2 * (h + 1)) (2 * (h + 1)) zs w9.drew (hs.below (Below.refl _ _).drew) hok
 rw [hv] at KR
 have KR':=Hj KR
 have KF:=Hj (fun (a':Option Addr) (m:Nat) (zs':List Nat) (hs':Sl w9.drew a' m m zs') (hr:Rep _ zs') (ha:a' = some ⟨w2.heap.size,2 * (h + 1),none⟩ ∨ a' = none) => half_fin (cz:=cz) (s7.z.below (Nat.lt_trans s7.rz s7.rv) (Below.refl _ _).drew) (Uh HP).ox (Uh HP).oy (Uh HP).hnz (by omega) (by omega) (by omega) hbig hs' hr (fun x hx _ => by rcases ha with e | e <;> rw [e] at hx <;> cases hx; exact Nat.ne_of_gt s7.rz))
 have t1:(h:Int) ≤ (nz:Int):=by omega
 clear s7 hs hok hv KT KR
 go_wp2_with fail
 go_region_with (first | (go_at_call 134; refine (Uh KR').mono ?_; rintro e w5 ⟨a',m,zs',rfl,hs,hr,ha,rfl⟩; have KB:=Hj (Uh KF a' m zs' hs hr ha); clear hs hr ha) | (go_at_call 207; refine (Uh KB).mono ?_; rintro e w6 ⟨cc,rfl,hR2⟩; have HR2:=Hj hR2; clear hR2))
 all_goals
  go_wp2
  go_end0
  exact Uh HR2
set_option maxHeartbeats 800000 in
theorem into_p {w:World} {bz oz nz cz:Nat} {a1:Option Addr} {n1 c1:Nat} {a2:Option Addr} {n2 c2:Nat} {v:Nat} (h:Nat) (hge:n2 ≤ n1) (h48:48 ≤ n2) (hh:(n1 + 1) / 2 = h) (hk:(n2:Int) ≤ (h:Int)) (hbig:n1 + n2 ≤ 1000000000)
  (KK:Calls Tryz.prog 205 #[.slice (some ⟨bz,oz,none⟩) nz cz,.slice a1 n1 c1,.slice a2 n2 c2] w fun e w' => MulPost w bz oz nz v e w') :
  Calls Tryz.prog 172 #[.slice (some ⟨bz,oz,none⟩) nz cz,.slice a1 n1 c1,.slice a2 n2 c2] w fun e w' => MulPost w bz oz nz v e w':=by
 have K:=Hj KK
 have ht:¬ (n1:Int) < (n2:Int):=by omega
 have ht2:¬ (n2:Int) < 48:=by omega
 have eh:((n1:Int) + 1).tdiv 2 = (h:Int):=by rw [Int.tdiv_eq_ediv_of_nonneg (by omega)]; omega
 have eh':((n1:Int) + 1) / 2 = (h:Int):=by omega
 clear KK
 go_enter Tryz.func172,Tryz.ntmps172
 go_wp2_with fail
 refine (Uh K).mono ?_
 rintro e w' ⟨rfl,hp⟩
 have HP:=Hj hp
 clear hp K
 go_wp2
 go_end0
 exact ⟨rfl,Uh HP⟩

set_option maxHeartbeats 800000 in
theorem into_ps {w:World} {bz oz nz cz:Nat} {a1:Option Addr} {n1 c1:Nat} {a2:Option Addr} {n2 c2:Nat} {v:Nat} (h:Nat) (hlt:n1 < n2) (h48:48 ≤ n1) (hh:(n2 + 1) / 2 = h) (hk:(n1:Int) ≤ (h:Int)) (hbig:n1 + n2 ≤ 1000000000)
  (KK:Calls Tryz.prog 205 #[.slice (some ⟨bz,oz,none⟩) nz cz,.slice a2 n2 c2,.slice a1 n1 c1] w fun e w' => MulPost w bz oz nz v e w') :
  Calls Tryz.prog 172 #[.slice (some ⟨bz,oz,none⟩) nz cz,.slice a1 n1 c1,.slice a2 n2 c2] w fun e w' => MulPost w bz oz nz v e w':=by
 have K:=Hj KK
 have ht:(n1:Int) < (n2:Int):=by omega
 have ht2:¬ (n1:Int) < 48:=by omega
 have eh:((n2:Int) + 1).tdiv 2 = (h:Int):=by rw [Int.tdiv_eq_ediv_of_nonneg (by omega)]; omega
 have eh':((n2:Int) + 1) / 2 = (h:Int):=by omega
 clear KK
 go_enter Tryz.func172,Tryz.ntmps172
 go_wp2_with fail
 refine (Uh K).mono ?_
 rintro e w' ⟨rfl,hp⟩
 have HP:=Hj hp
 clear hp K
 go_wp2
 go_end0
 exact ⟨rfl,Uh HP⟩

set_option maxHeartbeats 800000 in
theorem into_h {w:World} {bz oz nz cz:Nat} {a1:Option Addr} {n1 c1:Nat} {a2:Option Addr} {n2 c2:Nat} {v:Nat} (h:Nat) (hge:n2 ≤ n1) (h48:48 ≤ n2) (hh:(n1 + 1) / 2 = h) (hk:¬ (n2:Int) ≤ (h:Int)) (hbig:n1 + n2 ≤ 1000000000)
  (KK:Calls Tryz.prog 206 #[.slice (some ⟨bz,oz,none⟩) nz cz,.slice a1 n1 c1,.slice a2 n2 c2] w fun e w' => MulPost w bz oz nz v e w') :
  Calls Tryz.prog 172 #[.slice (some ⟨bz,oz,none⟩) nz cz,.slice a1 n1 c1,.slice a2 n2 c2] w fun e w' => MulPost w bz oz nz v e w':=by
 have K:=Hj KK
 have ht:¬ (n1:Int) < (n2:Int):=by omega
 have ht2:¬ (n2:Int) < 48:=by omega
 have eh:((n1:Int) + 1).tdiv 2 = (h:Int):=by rw [Int.tdiv_eq_ediv_of_nonneg (by omega)]; omega
 have eh':((n1:Int) + 1) / 2 = (h:Int):=by omega
 clear KK
 go_enter Tryz.func172,Tryz.ntmps172
 go_wp2_with fail
 refine (Uh K).mono ?_
 rintro e w' ⟨rfl,hp⟩
 have HP:=Hj hp
 clear hp K
 go_wp2
 go_end0
 exact ⟨rfl,Uh HP⟩

set_option maxHeartbeats 800000 in
theorem into_hs {w:World} {bz oz nz cz:Nat} {a1:Option Addr} {n1 c1:Nat} {a2:Option Addr} {n2 c2:Nat} {v:Nat} (h:Nat) (hlt:n1 < n2) (h48:48 ≤ n1) (hh:(n2 + 1) / 2 = h) (hk:¬ (n1:Int) ≤ (h:Int)) (hbig:n1 + n2 ≤ 1000000000)
  (KK:Calls Tryz.prog 206 #[.slice (some ⟨bz,oz,none⟩) nz cz,.slice a2 n2 c2,.slice a1 n1 c1] w fun e w' => MulPost w bz oz nz v e w') :
  Calls Tryz.prog 172 #[.slice (some ⟨bz,oz,none⟩) nz cz,.slice a1 n1 c1,.slice a2 n2 c2] w fun e w' => MulPost w bz oz nz v e w':=by
 have K:=Hj KK
 have ht:(n1:Int) < (n2:Int):=by omega
 have ht2:¬ (n1:Int) < 48:=by omega
 have eh:((n2:Int) + 1).tdiv 2 = (h:Int):=by rw [Int.tdiv_eq_ediv_of_nonneg (by omega)]; omega
 have eh':((n2:Int) + 1) / 2 = (h:Int):=by omega
 clear KK
 go_enter Tryz.func172,Tryz.ntmps172
 go_wp2_with fail
 refine (Uh K).mono ?_
 rintro e w' ⟨rfl,hp⟩
 have HP:=Hj hp
 clear hp K
 go_wp2
 go_end0
 exact ⟨rfl,Uh HP⟩

theorem MulPre.some {w:World} {bz oz nz cz:Nat} {a1:Option Addr} {n1 c1:Nat} {xs:List Nat} {a2:Option Addr} {n2 c2:Nat} {ys:List Nat} (h:MulPre w bz oz nz cz a1 n1 c1 xs a2 n2 c2 ys) (h1:0 < n1) (h2:0 < n2):∃ b1 o1 b2 o2,a1 = some ⟨b1,o1,none⟩ ∧ a2 = some ⟨b2,o2,none⟩:=by
 have l1:=h.h1.len
 have l2:=h.h2.len
 rcases h.h1.cells with e | ⟨b1,o1,e1,_⟩
 ·subst e; simp at l1; omega
 ·rcases h.h2.cells with e | ⟨b2,o2,e2,_⟩
  ·subst e; simp at l2; omega
  ·exact ⟨b1,o1,b2,o2,e1,e2⟩

theorem mi_all:∀ N,N ≤ 1000000000 → MI N
 | 0,_ => fun w bz oz nz cz a1 n1 c1 xs a2 n2 c2 ys hN h => into_small h (.inl (by omega))
 | N + 1,hb => fun w bz oz nz cz a1 n1 c1 xs a2 n2 c2 ys hN h => by
  have IH:=mi_all N (by omega)
  have hnz:=h.hnz
  by_cases hs:n1 < 48 ∨ n2 < 48
  ·exact into_small h hs
  ·obtain ⟨b1,o1,b2,o2,rfl,rfl⟩:=h.some (by omega) (by omega)
   by_cases hlt:n1 < n2
   ·by_cases hk:2 * n1 ≤ n2 + 1
    ·refine into_ps _ hlt (by omega) rfl (by omega) (by omega) ?_
     rw [Nat.mul_comm (val xs)]
     exact pieces_some bz oz nz cz b2 o2 n2 c2 b1 o1 n1 c1 ys xs w h.swap (by omega) hk (by omega) N (by omega) IH
    ·refine into_hs _ hlt (by omega) rfl (by omega) (by omega) ?_
     rw [Nat.mul_comm (val xs)]
     exact halves_some bz oz nz cz b2 o2 n2 c2 b1 o1 n1 c1 ((n2 + 1) / 2) ys xs w h.swap (by omega) (by omega) (by omega) (by omega) (by omega) (by omega) N (by omega) IH
   ·by_cases hk:2 * n2 ≤ n1 + 1
    ·refine into_p _ (by omega) (by omega) rfl (by omega) (by omega) ?_
     exact pieces_some bz oz nz cz b1 o1 n1 c1 b2 o2 n2 c2 xs ys w h (by omega) hk (by omega) N (by omega) IH
    ·refine into_h _ (by omega) (by omega) rfl (by omega) (by omega) ?_
     exact halves_some bz oz nz cz b1 o1 n1 c1 b2 o2 n2 c2 ((n1 + 1) / 2) xs ys w h (by omega) (by omega) (by omega) (by omega) (by omega) (by omega) N (by omega) IH

theorem multiply_any (a1 a2:Option Addr) (n1 c1 n2 c2:Nat) (xs ys:List Nat) (w:World) (h1:Sl w a1 n1 c1 xs) (h2:Sl w a2 n2 c2 ys) (ox:Ok xs) (oy:Ok ys) (hb:n1 + n2 ≤ 1000000000) :
  Calls Tryz.prog 128 #[.slice a1 n1 c1,.slice a2 n2 c2] w fun e w' => NewRep w w' (val xs * val ys) e :=
 multiply_of a1 a2 n1 c1 n2 c2 xs ys w h1 h2 ox oy (by omega) (fun w bz oz nz cz h => mi_all 1000000000 (Nat.le_refl _) w bz oz nz cz a1 n1 c1 xs a2 n2 c2 ys hb h)

theorem nmul_any (a1 a2:Option Addr) (n1 c1 n2 c2:Nat) (xs ys:List Nat) (w:World) (h1:Sl w a1 n1 c1 xs) (h2:Sl w a2 n2 c2 ys) (ox:Ok xs) (oy:Ok ys) :
  Calls Tryz.prog 77 #[.slice a1 n1 c1,.slice a2 n2 c2] w fun e w' => Res2 w w' (mulL xs ys) e :=
 nmul_of a1 a2 n1 c1 n2 c2 xs ys w h1 h2 ox oy (fun m1 m2 => multiply_any a1 a2 n1 c1 n2 c2 xs ys w h1 h2 ox oy (by have:=h1.len; have:=h2.len; have:=MayL.len m1; have:=MayL.len m2; omega))
def gcdL (xs ys:List Nat):List Nat × Int:=if MayL xs && MayL ys then (limbs (Nat.gcd (val xs) (val ys)),0) else ([],20)
theorem newRep_res2 {w w':World} {v:Nat} {e:Ending} (h:NewRep w w' v e):∃ a m,e = .returned (.slice a m m) ∧ Sl w' a m m (limbs v) ∧ NewAt w.heap.size a ∧ Below w.heap.size w w':=by
 obtain ⟨a,m,ys,h1,h2,h3,h4,h5⟩:=h
 rw [h3.eq] at h2
 exact ⟨a,m,h1,h2,h4,h5⟩

set_option maxHeartbeats 2000000 in
theorem ngcd_any (a1 a2:Option Addr) (n1 c1 n2 c2:Nat) (xs ys:List Nat) (w:World) (h1:Sl w a1 n1 c1 xs) (h2:Sl w a2 n2 c2 ys) (ox:Ok xs) (oy:Ok ys) (hT:Tab64 w) :
  Calls Tryz.prog 62 #[.slice a1 n1 c1,.slice a2 n2 c2] w fun e w' => Res2 w w' (gcdL xs ys) e:=by
 have K1:=may_any a1 n1 c1 xs w h1
 have K2:=may_any a2 n2 c2 ys w h2
 by_cases m1:MayL xs = true
 ·by_cases m2:MayL ys = true
  ·rw [m1] at K1; rw [m2] at K2
   have K1':=Hj K1
   have K2':=Hj K2
   have hl1:n1 ≤ 2048:=by have:=h1.len; have:=MayL.len m1; omega
   have hl2:n2 ≤ 2048:=by have:=h2.len; have:=MayL.len m2; omega
   have HC:=Hj (show gcdL xs ys = (limbs (Nat.gcd (val xs) (val ys)),0) from by simp [gcdL,m1,m2])
   have KD:=Hj (divisor_any a1 a2 n1 c1 n2 c2 xs ys w h1 h2 ox oy (MayL.norm m1) (MayL.norm m2) hl1 hl2 hT)
   clear K1 K2 m1 m2 h1 h2 ox oy hT
   go_enter Tryz.func62,Tryz.ntmps62
   go_wp2_with fail
   refine (Uh K1').mono ?_
   rintro e w' ⟨rfl,hw⟩
   obtain rfl:=hw.symm
   go_wp2_with fail
   refine (Uh K2').mono ?_
   rintro e w' ⟨rfl,hw⟩
   obtain rfl:=hw.symm
   go_wp2_with fail
   refine (Uh KD).mono ?_
   intro e w1 hq
   obtain ⟨ag,mg,rfl,s1,q1,b1⟩:=newRep_res2 hq
   have HX:=Hj (And.intro s1 (And.intro q1 b1))
   clear hq s1 q1 b1 KD
   go_wp2
   go_ret2
   rw [Uh HC]
   exact ⟨ag,mg,mg,rfl,(Uh HX).1,(Uh HX).2.1,(Uh HX).2.2⟩
  ·have m2':MayL ys = false:=by simpa using m2
   rw [m1] at K1; rw [m2'] at K2
   have K1':=Hj K1
   have K2':=Hj K2
   have HC:=Hj (show gcdL xs ys = ([],20) from by simp [gcdL,m2'])
   clear K1 K2 m1 m2 m2' h1 h2 ox oy hT
   go_enter Tryz.func62,Tryz.ntmps62
   go_wp2_with fail
   refine (Uh K1').mono ?_
   rintro e w' ⟨rfl,hw⟩
   obtain rfl:=hw.symm
   go_wp2_with fail
   refine (Uh K2').mono ?_
   rintro e w' ⟨rfl,hw⟩
   obtain rfl:=hw.symm
   go_wp2
   go_ret2
   rw [Uh HC]
   exact ⟨none,0,0,rfl,sl_nil _,newAt_nil _,Below.refl _ _⟩
 ·have m1':MayL xs = false:=by simpa using m1
  rw [m1'] at K1
  have K1':=Hj K1
  have HC:=Hj (show gcdL xs ys = ([],20) from by simp [gcdL,m1'])
  clear K1 K2 m1 m1' h1 h2 ox oy hT
  go_enter Tryz.func62,Tryz.ntmps62
  go_wp2_with fail
  refine (Uh K1').mono ?_
  rintro e w' ⟨rfl,hw⟩
  obtain rfl:=hw.symm
  go_wp2
  go_ret2
  rw [Uh HC]
  exact ⟨none,0,0,rfl,sl_nil _,newAt_nil _,Below.refl _ _⟩

theorem may_div {xs:List Nat} (m:MayL xs = true) (ox:Ok xs) (d:Nat):MayL (limbs (val xs / d)) = true:=by
 refine MayL.mk (limbs_rep _).norm ?_
 have h1:(limbs (val xs / d)).length ≤ xs.length:=by
  refine rep_len_le (limbs_rep _) ?_
  exact Nat.lt_of_le_of_lt (Nat.div_le_self _ _) (val_lt ox)
 have:=MayL.len m
 omega
theorem may_small {xs:List Nat} (m:MayL xs = true) (ox:Ok xs) {v:Nat} (h:v ≤ val xs):MayL (limbs v) = true:=by
 refine MayL.mk (limbs_rep _).norm ?_
 have h1:(limbs v).length ≤ xs.length:=rep_len_le (limbs_rep _) (Nat.lt_of_le_of_lt h (val_lt ox))
 have:=MayL.len m
 omega
theorem val_pos_of_may {xs:List Nat} (m:MayL xs = true) (h:xs ≠ []):0 < val xs:=by
 have a:=val_ge_of_norm (MayL.norm m) h
 have b:=pow_pos (xs.length - 1)
 omega
theorem limbs_ne {v:Nat} (h:0 < v):limbs v ≠ []:=by
 intro e
 have:=(limbs_rep v).val
 rw [e] at this
 simp [val] at this
 omega

open Go.RowKit Go.Deep
set_option linter.unusedVariables false
set_option maxHeartbeats 4000000 in
theorem isOne_any (a:Option Addr) (n c:Nat) (xs:List Nat) (w:World) (h:Sl w a n c xs) (ok:Ok xs) :
  Calls Tryz.prog 27 #[.slice a n c] w fun e w' => e = .returned (.bool (decide (xs = [1]))) ∧ w' = w:=by
 have hl:=h.len
 by_cases h1:n = 1
 ·subst h1
  obtain ⟨x,rfl⟩:∃ x,xs = [x]:=by
   match xs,hl with
   | [x],_ => exact ⟨x,rfl⟩
  obtain ⟨b,off,rfl,hc⟩:=h.cells.resolve_left (by simp)
  have c0:=hc 0 (by simp)
  have hx:=ok.head
  simp only [List.getD,List.getElem?_cons_zero,Option.getD_some] at c0
  rw [Nat.add_zero] at c0
  clear hc h
  by_cases hx1:x = 1
  ·subst hx1
   go_enter Tryz.func27,Tryz.ntmps27
   go_wp2_with fail
   go_ret
   exact ⟨by simp,rfl⟩
  ·have t1:((x:Int) == 1) = false:=by simp; omega
   have t2:¬ (x:Int) = 1:=by omega
   go_enter Tryz.func27,Tryz.ntmps27
   go_wp2_with fail
   go_ret
   exact ⟨by simp [hx1],rfl⟩
 ·have t1:((n:Int) == 1) = false:=by simp; omega
  have t2:¬ (n:Int) = 1:=by omega
  have hne:¬ xs = [1]:=by intro e; rw [e] at hl; simp at hl; omega
  have HN:=Hj hne
  clear h hne
  go_enter Tryz.func27,Tryz.ntmps27
  go_wp2_with fail
  go_ret
  exact ⟨by simp [Uh HN],rfl⟩

set_option maxHeartbeats 4000000 in
theorem ratOne_any (w:World) :
  Calls Tryz.prog 44 #[] w fun e w' => ∃ a m,e = .returned (.slice a m m) ∧ Sl w' a m m [1] ∧ NewAt w.heap.size a ∧ Below w.heap.size w w':=by
 have K:=Hj (from_any 1 w (by decide))
 go_enter Tryz.func44,Tryz.ntmps44
 go_wp2_with fail
 refine (Uh K).mono ?_
 rintro _ w1 ⟨a1,m1,y1,rfl,s1,r1,n1,b1⟩
 have e1:y1 = [1]:=r1.unique ⟨Ok.cons (by decide) Ok.nil,.inr (by decide),by simp [val]⟩
 subst e1
 have H:=Hj (And.intro s1 (And.intro n1 b1))
 clear s1 r1 n1 b1 K
 go_wp2_with fail
 go_ret
 exact ⟨a1,m1,rfl,(Uh H).1,(Uh H).2.1,(Uh H).2.2⟩

theorem sure_any (v:Value) (e:Int) (w:World):Calls Tryz.prog 45 #[v,.int .i64 e] w fun x w' => x = .returned v ∧ w' = w:=by
 go_enter Tryz.func45,Tryz.ntmps45
 go_wp2
 go_ret
 exact ⟨rfl,rfl⟩

def NewN (w w':World) (v:Nat) (e:Ending):Prop:=∃ a m c,e = .returned (.slice a m c) ∧ Sl w' a m c (limbs v) ∧ NewAt w.heap.size a ∧ Below w.heap.size w w'

theorem limbs_1:limbs 1 = [1]:=by decide

set_option maxHeartbeats 4000000 in
theorem ratDivisor_any (a1 a2:Option Addr) (n1 c1 n2 c2:Nat) (xs ys:List Nat) (w:World) (h1:Sl w a1 n1 c1 xs) (h2:Sl w a2 n2 c2 ys) (ox:Ok xs) (oy:Ok ys) (m1:MayL xs = true) (m2:MayL ys = true) (hT:Tab64 w) :
  Calls Tryz.prog 28 #[.slice a1 n1 c1,.slice a2 n2 c2] w fun e w' => NewN w w' (Nat.gcd (val xs) (val ys)) e:=by
 have K1:=isOne_any a1 n1 c1 xs w h1 ox
 have K2:=isOne_any a2 n2 c2 ys w h2 oy
 have KG:=ngcd_any a1 a2 n1 c1 n2 c2 xs ys w h1 h2 ox oy hT
 rw [show gcdL xs ys = (limbs (Nat.gcd (val xs) (val ys)),0) from by simp [gcdL,m1,m2]] at KG
 have KO:=Hj (ratOne_any w)
 have KG':=Hj KG
 clear KG h1 h2 ox oy m1 m2 hT
 by_cases e1:xs = [1]
 ·rw [decide_eq_true e1] at K1
  have HV:=Hj (show Nat.gcd (val xs) (val ys) = 1 from by rw [e1]; simp [val])
  have K1':=Hj K1
  clear K1 K2 e1 KG'
  go_enter Tryz.func28,Tryz.ntmps28
  go_wp2_with fail
  refine (Uh K1').mono ?_
  rintro _ _ ⟨rfl,hw⟩
  obtain rfl:=hw.symm
  clear hw
  go_wp2_with fail
  refine (Uh KO).mono ?_
  rintro _ w1 ⟨a3,m3,rfl,s3,n3,b3⟩
  have H:=Hj (And.intro s3 (And.intro n3 b3))
  clear s3 n3 b3
  go_wp2_with fail
  go_ret
  rw [Uh HV]
  exact ⟨a3,m3,m3,rfl,by rw [limbs_1]; exact (Uh H).1,(Uh H).2.1,(Uh H).2.2⟩
 ·rw [decide_eq_false e1] at K1
  by_cases e2:ys = [1]
  ·rw [decide_eq_true e2] at K2
   have HV:=Hj (show Nat.gcd (val xs) (val ys) = 1 from by rw [e2]; simp [val])
   have K1':=Hj K1
   have K2':=Hj K2
   clear K1 K2 e1 e2 KG'
   go_enter Tryz.func28,Tryz.ntmps28
   go_wp2_with fail
   refine (Uh K1').mono ?_
   rintro _ _ ⟨rfl,hw⟩
   obtain rfl:=hw.symm
   clear hw
   go_wp2_with fail
   refine (Uh K2').mono ?_
   rintro _ _ ⟨rfl,hw⟩
   obtain rfl:=hw.symm
   clear hw
   go_wp2_with fail
   refine (Uh KO).mono ?_
   rintro _ w1 ⟨a3,m3,rfl,s3,n3,b3⟩
   have H:=Hj (And.intro s3 (And.intro n3 b3))
   clear s3 n3 b3
   go_wp2_with fail
   go_ret
   rw [Uh HV]
   exact ⟨a3,m3,m3,rfl,by rw [limbs_1]; exact (Uh H).1,(Uh H).2.1,(Uh H).2.2⟩
  ·rw [decide_eq_false e2] at K2
   have K1':=Hj K1
   have K2':=Hj K2
   clear K1 K2 e1 e2 KO
   generalize Nat.gcd (val xs) (val ys) = G at *
   go_enter Tryz.func28,Tryz.ntmps28
   go_wp2_with fail
   refine (Uh K1').mono ?_
   rintro _ _ ⟨rfl,hw⟩
   obtain rfl:=hw.symm
   clear hw
   go_wp2_with fail
   refine (Uh K2').mono ?_
   rintro _ _ ⟨rfl,hw⟩
   obtain rfl:=hw.symm
   clear hw
   go_wp2_with fail
   refine (Uh KG').mono ?_
   rintro _ w1 ⟨a3,m3,c3,rfl,s3,n3,b3⟩
   have H:=Hj (And.intro s3 (And.intro n3 b3))
   clear s3 n3 b3
   go_wp2_with fail
   refine (sure_any _ _ _).mono ?_
   rintro _ _ ⟨rfl,hw⟩
   obtain rfl:=hw.symm
   clear hw
   go_wp2_with fail
   go_ret
   exact ⟨a3,m3,c3,rfl,(Uh H).1,(Uh H).2.1,(Uh H).2.2⟩

def OldN (w w':World) (a:Option Addr) (n c:Nat) (v:Nat) (e:Ending):Prop:=∃ a' m c',e = .returned (.slice a' m c') ∧ Sl w' a' m c' (limbs v) ∧ (NewAt w.heap.size a' ∨ (a' = a ∧ m = n ∧ c' = c)) ∧ Below w.heap.size w w'

set_option maxHeartbeats 4000000 in
theorem ratQuotient_any (a1 a2:Option Addr) (n1 c1 n2 c2:Nat) (xs ys:List Nat) (w:World) (h1:Sl w a1 n1 c1 xs) (h2:Sl w a2 n2 c2 ys) (ox:Ok xs) (oy:Ok ys) (m1:MayL xs = true) (m2:MayL ys = true) (hy:ys ≠ []) :
  Calls Tryz.prog 80 #[.slice a1 n1 c1,.slice a2 n2 c2] w fun e w' => OldN w w' a1 n1 c1 (val xs / val ys) e:=by
 have K2:=isOne_any a2 n2 c2 ys w h2 oy
 have KD:=ndivmod_any a1 a2 n1 c1 n2 c2 xs ys w h1 h2 ox oy
 rw [show divL xs ys = (limbs (val xs / val ys),limbs (val xs % val ys),0) from by simp [divL,m1,m2,hy]] at KD
 have KD':=Hj KD
 clear KD
 by_cases e2:ys = [1]
 ·rw [decide_eq_true e2] at K2
  have HV:=Hj (show limbs (val xs / val ys) = xs from by rw [e2]; simp [val]; exact limbs_val ox (MayL.norm m1))
  have K2':=Hj K2
  have H1:=Hj h1
  clear K2 e2 KD' h1 h2
  go_enter Tryz.func80,Tryz.ntmps80
  go_wp2_with fail
  refine (Uh K2').mono ?_
  rintro _ _ ⟨rfl,hw⟩
  obtain rfl:=hw.symm
  clear hw
  go_wp2_with fail
  go_ret
  exact ⟨a1,n1,c1,rfl,by rw [Uh HV]; exact Uh H1,.inr ⟨rfl,rfl,rfl⟩,Below.refl _ _⟩
 ·rw [decide_eq_false e2] at K2
  have K2':=Hj K2
  clear K2 e2 h1 h2
  generalize val xs / val ys = Q at *
  generalize val xs % val ys = R at *
  go_enter Tryz.func80,Tryz.ntmps80
  go_wp2_with fail
  refine (Uh K2').mono ?_
  rintro _ _ ⟨rfl,hw⟩
  obtain rfl:=hw.symm
  clear hw
  go_wp2_with fail
  refine (Uh KD').mono ?_
  rintro _ w1 ⟨aq,mq,cq,ar,mr,cr,rfl,s1,q1,s2,q2,_,hB⟩
  have H:=Hj (And.intro s1 (And.intro q1 hB))
  clear s1 q1 s2 q2 hB
  go_wp2_with fail
  go_ret
  exact ⟨aq,mq,cq,rfl,(Uh H).1,.inl (Uh H).2.1,(Uh H).2.2⟩
theorem i64_and_one (n:Int):bits .and .i64 n 1 = n % 2:=by
 have h1:(BitVec.ofInt 64 1).toNat = 2 ^ 1 - 1:=by decide
 have key:(BitVec.ofInt 64 n &&& BitVec.ofInt 64 1).toNat = (n % ((2 ^ 64:Nat):Int)).toNat % 2 ^ 1:=by
  rw [BitVec.toNat_and,BitVec.toNat_ofInt,h1,Nat.and_two_pow_sub_one_eq_mod]
 show IntKind.i64.wrap ((BitVec.ofInt 64 n &&& BitVec.ofInt 64 1).toNat:Nat) = n % 2
 rw [key,IntKind.wrap_i64]
 omega

set_option maxHeartbeats 4000000 in
set_option maxRecDepth 100000 in
theorem len64_a (x:Int) (w:World) (h0:0 ≤ x) (h1:x < 256) :
  Calls Tryz.prog 184 #[.int .u64 x] w fun e w' => e = .returned (.int .i64 (Lib.bitLen x.toNat)) ∧ w' = w:=by
 have hs:=tab_size
 have hc:¬ (4294967296:Int) ≤ x:=by omega
 have ha:¬ (65536:Int) ≤ x:=by omega
 have hb:¬ (256:Int) ≤ x:=by omega
 go_enter Tryz.func184,Tryz.ntmps184
 go_wp2
 go_ret
 refine ⟨congrArg Ending.returned (congrArg (Value.int IntKind.i64) ?_),rfl⟩
 rw [tab_at]
 have l:=bl8 x.toNat (by omega)
 rw [wr_small ((Lib.bitLen x.toNat:Nat):Int) (by omega) (by omega)]
 rw [wr_small ((Lib.bitLen x.toNat:Nat):Int) (by omega) (by omega)]

set_option maxHeartbeats 4000000 in
set_option maxRecDepth 100000 in
theorem len64_b (x:Int) (w:World) (h0:256 ≤ x) (h1:x < 65536) :
  Calls Tryz.prog 184 #[.int .u64 x] w fun e w' => e = .returned (.int .i64 (Lib.bitLen x.toNat)) ∧ w' = w:=by
 have hs:=tab_size
 have hc:¬ (4294967296:Int) ≤ x:=by omega
 have ha:¬ (65536:Int) ≤ x:=by omega
 have hb:(256:Int) ≤ x:=by omega
 go_enter Tryz.func184,Tryz.ntmps184
 go_wp2
 go_ret
 refine ⟨congrArg Ending.returned (congrArg (Value.int IntKind.i64) ?_),rfl⟩
 have e:(x / 256).toNat = x.toNat / 256:=by omega
 have l:=bl8 (x.toNat / 256) (by omega)
 have s:=Lib.bitLen_shift8 x.toNat (by omega) (by omega)
 rw [tab_at,e]
 rw [wr_small ((Lib.bitLen (x.toNat / 256):Nat):Int) (by omega) (by omega)]
 rw [wr_small _ (by omega) (by omega)]
 omega

theorem len64_small (x:Nat) (w:World) (h:x < 65536) :
  Calls Tryz.prog 184 #[.int .u64 (x:Nat)] w fun e w' => e = .returned (.int .i64 (Lib.bitLen x:Nat)) ∧ w' = w:=by
 by_cases k:x < 256
 ·exact len64_a (x:Int) w (by omega) (by omega)
 ·exact len64_b (x:Int) w (by omega) (by omega)

set_option maxHeartbeats 1000000 in
theorem blen_small (x:Nat) (w:World) (h:x < 65536) :
  Calls Tryz.prog 154 #[.int .u64 (x:Nat)] w fun e w' => e = .returned (.int .i64 (Lib.bitLen x:Nat)) ∧ w' = w:=by
 have K:=Hj (len64_small x w h)
 have hb:Lib.bitLen x ≤ 16:=Lib.bitLen_le _ 16 (by omega) (by omega)
 generalize Lib.bitLen x = y at *
 go_enter Tryz.func154,Tryz.ntmps154
 go_wp2_with fail
 refine (Uh K).mono ?_
 rintro e w' ⟨rfl,hw⟩
 obtain rfl:=hw.symm
 go_wp2
 go_ret
 exact ⟨rfl,rfl⟩

theorem bitLen_top (k:Nat) (h:k < 65536):k / 2 ^ Lib.bitLen k = 0:=Nat.div_eq_of_lt (bl_lt k k (Nat.le_refl _) (by omega))

theorem pow_half (v k i:Nat):v ^ (k / 2 ^ (i + 1)) * v ^ (k / 2 ^ (i + 1)) * (if k / 2 ^ i % 2 = 1 then v else 1) = v ^ (k / 2 ^ i):=by
 have e:k / 2 ^ (i + 1) = k / 2 ^ i / 2:=by rw [Nat.pow_succ,Nat.div_div_eq_div_mul]
 rw [e,← Nat.pow_add]
 generalize k / 2 ^ i = q
 by_cases h:q % 2 = 1
 ·rw [if_pos h,← Nat.pow_succ]
  congr 1
  omega
 ·rw [if_neg h,Nat.mul_one]
  congr 1
  omega

theorem pow_len {xs zs:List Nat} {n k j:Nat} (ox:Ok xs) (hl:xs.length = n) (hr:Rep (val xs ^ j) zs) (hj:j ≤ k):zs.length ≤ n * k + 1:=by
 refine rep_len_le hr ?_
 have h:=val_lt ox
 rw [hl] at h
 have h1:val xs ^ j ≤ (4294967296 ^ n) ^ j:=Nat.pow_le_pow_left (Nat.le_of_lt h) j
 rw [← Nat.pow_mul] at h1
 have h2:(4294967296:Nat) ^ (n * j) < 4294967296 ^ (n * k + 1):=Nat.pow_lt_pow_right (by decide) (Nat.lt_succ_of_le (Nat.mul_le_mul_left n hj))
 omega

theorem sl_unit (w:World) (x:Nat) (e:TypeId):Sl (w.alloc (.cells #[.int .u32 (x:Nat)] e)) (some ⟨w.heap.size,0,none⟩) 1 1 [x]:=by
 refine ⟨rfl,Nat.le_refl _,by unfold maxLen; omega,.inr ⟨_,_,rfl,?_⟩⟩
 intro i hi
 have:i = 0:=by simp at hi; omega
 subst this
 simp

structure PwR (wr w:World) (v:Value) (t:Nat):Prop where
 has:∃ a m zs,v = .slice a m m ∧ Sl wr a m m zs ∧ Rep t zs ∧ NewAt w.heap.size a
 bel:Below w.heap.size w wr

set_option maxHeartbeats 2000000 in
theorem power_any (a:Option Addr) (n c:Nat) (xs:List Nat) (k:Nat) (w:World) (h:Sl w a n c xs) (ox:Ok xs) (hn:n ≤ 100000) (hk:k ≤ 1024) :
  Calls Tryz.prog 106 #[.slice a n c,.int .i64 (k:Nat)] w fun e w' => NewRep w w' (val xs ^ k) e:=by
 have HL:=Hj h.len
 have H:=Hj h
 have hnk:n * k ≤ 102400000:=by
  have:n * k ≤ 100000 * 1024:=Nat.mul_le_mul hn hk
  omega
 have KB:=Hj (fun w => blen_small k w (by omega))
 have hb:Lib.bitLen k ≤ 16:=Lib.bitLen_le _ 16 (by omega) (by omega)
 have HT:=Hj (bitLen_top k (by omega))
 generalize Lib.bitLen k = y at *
 clear h
 go_enter Tryz.func106,Tryz.ntmps106
 go_wp2_with fail
 refine (Uh KB _).mono ?_
 rintro e w' ⟨rfl,hw⟩
 obtain rfl:=hw.symm
 clear hw KB
 have HR0:=Hj (show PwR (w.alloc (.cells #[.int .u32 1] 84)) w (.slice (some ⟨w.heap.size,0,none⟩) 1 1) (val xs ^ (k / 2 ^ y)) from ⟨⟨some ⟨w.heap.size,0,none⟩,1,[1],rfl,sl_unit w 1 84,by rw [Uh HT,Nat.pow_zero]; exact ⟨Ok.cons (by decide) Ok.nil,.inr (by decide),by simp [val]⟩,fun x hx => by cases hx; exact Nat.le_refl _⟩,(Below.refl w.heap.size w).alloc (Nat.le_refl _) _⟩)
 go_wp2_with fail
 go_loopw [5,6] (fun z iv wr => ∃ i:Nat,i ≤ y ∧ iv = .int .i64 ((i:Int) - 1) ∧ PwR wr w z (val xs ^ (k / 2 ^ i))) (fun _ iv _ => (intOf iv + 1).toNat)
 case atStart => exact ⟨y,Nat.le_refl _,rfl,Uh HR0⟩
 case round =>
  clear HR0
  obtain ⟨i,hi,rfl,⟨az,mz,zs,rfl,hsz,hrz,haz⟩,hbel⟩:=hrel
  rcases i with _ | i
  ·have t0:¬ (0:Int) ≤ ((0:Nat):Int) - 1:=by omega
   rw [Nat.pow_zero,Nat.div_one] at hrz
   have HZ:=Hj (And.intro hsz (And.intro hrz (And.intro haz hbel)))
   clear hsz hrz haz hbel
   go_wp2
   go_ret
   obtain ⟨hsz,hrz,haz,hbel⟩:=Uh HZ
   exact ⟨az,mz,zs,rfl,hsz,hrz,haz,hbel⟩
  ·have t0:((i + 1:Nat):Int) - 1 = (i:Int):=by omega
   rw [t0]
   have t1:(0:Int) ≤ (i:Int):=by omega
   have hml:mz ≤ n * k + 1:=by rw [← hsz.len]; exact pow_len ox (Uh HL) hrz (Nat.div_le_self _ _)
   have KM:=Hj (multiply_any az az mz mz mz mz zs zs wr hsz hsz hrz.ok hrz.ok (by omega))
   rw [hrz.val] at KM
   have HB:=Hj hbel
   have t2:(k:Int) / 2 ^ i = ((k / 2 ^ i:Nat):Int):=by rw [Int.natCast_ediv,Int.natCast_pow]; rfl
   have t3:=i64_and_one ((k / 2 ^ i:Nat):Int)
   have hP:=pow_half (val xs) k i
   have hdk:k / 2 ^ i ≤ k:=Nat.div_le_self _ _
   have hP2:=Hj (fun (zs:List Nat) (hr:Rep (val xs ^ (k / 2 ^ i)) zs) => pow_len ox (Uh HL) hr hdk)
   have hP3:=Hj (fun (zs:List Nat) (hr:Rep (val xs ^ (2 * (k / 2 ^ (i + 1)))) zs) => pow_len (k:=k) ox (Uh HL) hr (by rw [Nat.pow_succ,← Nat.div_div_eq_div_mul]; omega))
   generalize hq0:k / 2 ^ i = q at *
   have HQ0:=Hj hq0
   clear hq0
   generalize hQ:val xs ^ (k / 2 ^ (i + 1)) = Q at *
   have hQ2:=Hj (show Q * Q = val xs ^ (2 * (k / 2 ^ (i + 1))) from by rw [← hQ,← Nat.pow_add]; congr 1; omega)
   clear hsz hrz haz hbel hQ
   go_wp2_with fail
   refine (Uh KM).mono ?_
   rintro e w1 ⟨a1,m1,z1,rfl,hs1,hr1,ha1,hb1⟩
   have hb2:=(Uh HB).trans (hb1.mono (Uh HB).size)
   have ha2:NewAt w.heap.size a1:=fun x hx => Nat.le_trans (Uh HB).size (ha1 x hx)
   by_cases hq:q % 2 = 1
   ·rw [if_pos hq] at hP
    have t4:((q:Int) % 2 == 1) = true:=by simp; omega
    have t5:(q:Int) % 2 = 1:=by omega
    have hl1:m1 ≤ n * k + 1:=by
     rw [← hs1.len]
     exact Uh hP3 z1 (by rw [← Uh hQ2]; exact hr1)
    have KN:=Hj (multiply_any a1 a m1 m1 n c z1 xs w1 hs1 ((Uh H).below hb2) hr1.ok ox (by omega))
    rw [hr1.val,hP] at KN
    have HB2:=Hj hb2
    clear hs1 hr1 ha1 ha2 hb1 hb2 KM hP HB
    go_wp2_with fail
    refine (Uh KN).mono ?_
    rintro e w2 ⟨a2,m2,z2,rfl,hs2,hr2,ha2,hb3⟩
    have HS:=Hj (show PwR w2 w (.slice a2 m2 m2) (val xs ^ q) from ⟨⟨a2,m2,z2,rfl,hs2,hr2,fun x hx => Nat.le_trans (Uh HB2).size (ha2 x hx)⟩,(Uh HB2).trans (hb3.mono (Uh HB2).size)⟩)
    clear hs2 hr2 ha2 hb3 KN HB2
    go_wp2_with fail
    exact ⟨⟨i,by omega,rfl,by rw [Uh HQ0]; exact Uh HS⟩,by show ((i:Int) - 1 + 1).toNat < ((i:Int) + 1).toNat; omega⟩
   ·rw [if_neg hq,Nat.mul_one] at hP
    have t4:((q:Int) % 2 == 1) = false:=by simp; omega
    have t5:¬ (q:Int) % 2 = 1:=by omega
    rw [hP] at hr1
    have HS:=Hj (show PwR w1 w (.slice a1 m1 m1) (val xs ^ q) from ⟨⟨a1,m1,z1,rfl,hs1,hr1,ha2⟩,hb2⟩)
    clear hs1 hr1 ha1 ha2 hb1 hb2 KM hP HB
    go_wp2_with fail
    exact ⟨⟨i,by omega,rfl,by rw [Uh HQ0]; exact Uh HS⟩,by show ((i:Int) - 1 + 1).toNat < ((i:Int) + 1).toNat; omega⟩
def powL (xs:List Nat) (k:Int):List Nat × Int:=if MayL xs then (if k < 0 ∨ 1024 < k then ([],1) else fitL (val xs ^ k.toNat)) else ([],20)

theorem big_len {v E:Nat} (hE:65536 ≤ E) (h:2 ^ E ≤ v):2048 < (limbs v).length:=by
 rcases Nat.lt_or_ge 2048 (limbs v).length with k | k
 ·exact k
 ·exfalso
  have h1:=val_lt (limbs_rep v).ok
  rw [(limbs_rep v).val,pow_limb] at h1
  have:=(Nat.pow_lt_pow_iff_right (by decide:1 < 2)).1 (Nat.lt_of_le_of_lt h h1)
  omega

theorem limbs_len_le {v u:Nat} (h:v ≤ u):(limbs v).length ≤ (limbs u).length:=by
 refine rep_len_le (limbs_rep v) ?_
 have h1:=val_lt (limbs_rep u).ok
 rw [(limbs_rep u).val] at h1
 omega

theorem pow_big {xs:List Nat} {k:Nat} (ox:Ok xs) (nx:Norm xs) (h:65536 ≤ ((bitsN xs:Int) - 1) * (k:Int)):2048 < (limbs (val xs ^ k)).length:=by
 have h0:xs ≠ []:=by
  intro e
  subst e
  simp only [bitsN,if_true] at h
  have:(((0:Nat):Int) - 1) * (k:Int) = -(k:Int):=by rw [show ((0:Nat):Int) - 1 = -1 from rfl,Int.neg_mul,Int.one_mul]
  omega
 have hb:=val_ge_bits ox nx h0
 have e:bitsN xs = bitsL xs:=by unfold bitsN; rw [if_neg h0]
 rw [e] at h
 have h1:(2 ^ (bitsL xs - 1)) ^ k ≤ val xs ^ k:=Nat.pow_le_pow_left hb.2 k
 rw [← Nat.pow_mul] at h1
 refine big_len ?_ h1
 have h2:(((bitsL xs - 1) * k:Nat):Int) = ((bitsL xs:Int) - 1) * (k:Int):=by
  rw [Int.natCast_mul,Int.natCast_sub hb.1]; rfl
 omega

theorem pow_prod {u k:Nat} (hu:u ≤ 100000) (hk:k ≤ 1024):-1024 ≤ ((u:Int) - 1) * (k:Int) ∧ ((u:Int) - 1) * (k:Int) ≤ 102400000:=by
 rcases u with _ | u
 ·have:(((0:Nat):Int) - 1) * (k:Int) = -(k:Int):=by rw [show ((0:Nat):Int) - 1 = -1 from rfl,Int.neg_mul,Int.one_mul]
  omega
 ·have e:(((u + 1:Nat):Int) - 1) * (k:Int) = ((u * k:Nat):Int):=by rw [Int.natCast_mul]; congr 1; omega
  have:u * k ≤ 100000 * 1024:=Nat.mul_le_mul (by omega) hk
  rw [e]
  omega

set_option maxHeartbeats 2000000 in
theorem npow_any (a:Option Addr) (n c:Nat) (xs:List Nat) (k:Int) (w:World) (h:Sl w a n c xs) (ox:Ok xs) :
  Calls Tryz.prog 51 #[.slice a n c,.int .i64 k] w fun e w' => Res2 w w' (powL xs k) e:=by
 have K1:=may_any a n c xs w h
 by_cases m1:MayL xs = true
 ·rw [m1] at K1
  have K1':=Hj K1
  by_cases hk:k < 0
  ·have HC:=Hj (show powL xs k = ([],1) from by simp [powL,m1,hk])
   clear K1 m1 h ox
   go_enter Tryz.func51,Tryz.ntmps51
   go_wp2_with fail
   refine (Uh K1').mono ?_
   rintro e w' ⟨rfl,hw⟩
   obtain rfl:=hw.symm
   go_wp2
   go_ret2
   rw [Uh HC]
   exact ⟨none,0,0,rfl,sl_nil _,newAt_nil _,Below.refl _ _⟩
  ·by_cases hk2:1024 < k
   ·have HC:=Hj (show powL xs k = ([],1) from by simp [powL,m1,hk2])
    clear K1 m1 h ox
    go_enter Tryz.func51,Tryz.ntmps51
    go_wp2_with fail
    refine (Uh K1').mono ?_
    rintro e w' ⟨rfl,hw⟩
    obtain rfl:=hw.symm
    go_wp2
    go_ret2
    rw [Uh HC]
    exact ⟨none,0,0,rfl,sl_nil _,newAt_nil _,Below.refl _ _⟩
   ·obtain ⟨j,rfl⟩:∃ j:Nat,k = (j:Int):=⟨k.toNat,by omega⟩
    have HC:=Hj (show powL xs (j:Int) = fitL (val xs ^ j) from by simp [powL,m1,hk,hk2])
    have nx:=MayL.norm m1
    have hl:n ≤ 2048:=by have:=h.len; have:=MayL.len m1; omega
    have KB:=Hj (bitLen_all a n c xs w h ox (by omega))
    have KP:=Hj (power_any a n c xs j w h ox (by omega) (by omega))
    have HBig:=Hj (pow_big (k:=j) ox nx)
    have hpb:=pow_prod (k:=j) (bitsN_le ox (MayL.len m1)) (by omega)
    have hub:=bitsN_le ox (MayL.len m1)
    generalize bitsN xs = u at *
    generalize hp:((u:Int) - 1) * (j:Int) = p at *
    clear K1 m1 h ox nx
    by_cases hbig:65536 ≤ p
    ·have HF:=Hj (fitL_big (Uh HBig hbig))
     clear KP
     go_enter Tryz.func51,Tryz.ntmps51
     go_wp2_with fail
     refine (Uh K1').mono ?_
     rintro e w' ⟨rfl,hw⟩
     obtain rfl:=hw.symm
     go_wp2_with fail
     refine (Uh KB).mono ?_
     rintro e w' ⟨rfl,hw⟩
     obtain rfl:=hw.symm
     go_wp2
     go_ret2
     rw [Uh HC,Uh HF]
     exact ⟨none,0,0,rfl,sl_nil _,newAt_nil _,Below.refl _ _⟩
    ·go_enter Tryz.func51,Tryz.ntmps51
     go_wp2_with fail
     refine (Uh K1').mono ?_
     rintro e w' ⟨rfl,hw⟩
     obtain rfl:=hw.symm
     go_wp2_with fail
     refine (Uh KB).mono ?_
     rintro e w' ⟨rfl,hw⟩
     obtain rfl:=hw.symm
     go_wp2_with fail
     refine (Uh KP).mono ?_
     rintro e w1 ⟨a',m,zs,rfl,hs,hr,ha,hb⟩
     have KF:=Hj (fit_any a' m m _ zs w1 hs hr)
     have HA:=Hj (And.intro ha hb)
     clear hs hr ha hb KP
     go_wp2_with fail
     refine (Uh KF).mono ?_
     rintro e w' ⟨a2,m2,c2,rfl,hs,ha2,hw⟩
     obtain rfl:=hw.symm
     have HS:=Hj (And.intro hs ha2)
     clear hs ha2 hw
     go_wp2
     go_ret2
     rw [Uh HC]
     refine ⟨a2,m2,c2,rfl,(Uh HS).1,?_,(Uh HA).2⟩
     rcases (Uh HS).2 with e | e
     ·rw [e]; exact (Uh HA).1
     ·rw [e]; exact newAt_nil _
 ·have m1':MayL xs = false:=by simpa using m1
  rw [m1'] at K1
  have K1':=Hj K1
  have HC:=Hj (show powL xs k = ([],20) from by simp [powL,m1'])
  clear K1 m1 m1' h ox
  go_enter Tryz.func51,Tryz.ntmps51
  go_wp2_with fail
  refine (Uh K1').mono ?_
  rintro e w' ⟨rfl,hw⟩
  obtain rfl:=hw.symm
  go_wp2
  go_ret2
  rw [Uh HC]
  exact ⟨none,0,0,rfl,sl_nil _,newAt_nil _,Below.refl _ _⟩
theorem ten_may {n:Nat} (hn:n ≤ 1024):MayL (limbs (10 ^ n)) = true:=MayL.mk (limbs_norm _) (by have:=ten_len (Nat.le_refl (10 ^ n)); omega)
theorem ten_fit {n:Nat} (hn:n ≤ 1024):fitL (10 ^ n) = (limbs (10 ^ n),0):=fit_lt (ten_lt (Nat.le_refl _)) (by omega)
theorem pow_ten {k:Int} {n:Nat} (hk:k = (n:Int)) (hn:n ≤ 1024):powL (limbs 10) k = (limbs (10 ^ n),0):=by
 subst hk
 unfold powL
 rw [if_pos (by decide),if_neg (by omega),limbs_v,Int.toNat_natCast,ten_fit hn]
theorem cat_nil (D:ByteArray):D ++ (⟨#[]⟩:ByteArray) = D:=by
 apply ByteArray.ext
 simp
set_option maxRecDepth 100000 in
set_option maxHeartbeats 8000000 in
theorem trimLeft_nil (w:World):Calls Tryz.prog 74 #[.string ⟨#[]⟩,.string ⟨#[43,45]⟩] w fun e w' => e = .returned (.string ⟨#[]⟩) ∧ w' = w:=by
 go_enter Tryz.func74,Tryz.ntmps74
 go_wp2_with fail
 go_ret
 exact ⟨rfl,rfl⟩
set_option maxRecDepth 100000 in
set_option maxHeartbeats 8000000 in
theorem readPower_nil (w:World):Calls Tryz.prog 33 #[.string ⟨#[]⟩] w fun e w' => e = .returned (.tuple #[.int .i64 0,.bool true]) ∧ Below w.heap.size w w':=by
 have HP:=Hj (hasPrefix_any ⟨#[]⟩ false w rfl)
 have hconv:=run_bytes_of_string (P:=Tryz.prog) w 9 108 5 ⟨#[]⟩ Tryz.underlying9 Tryz.underlying108 Tryz.underlying5
 obtain ⟨wc,hwc⟩:∃ x,w.drew.alloc (.cells (bytesRow ⟨#[]⟩ (grownCap w (ByteArray.mk #[]).size 0 5)) 5 ((bytesRow ⟨#[]⟩ (grownCap w (ByteArray.mk #[]).size 0 5)).size,(bytesRow ⟨#[]⟩ (grownCap w (ByteArray.mk #[]).size 0 5)).size + 1)) = x:=⟨_,rfl⟩
 rw [hwc] at hconv
 have hbc:Below w.heap.size w wc:=by rw [← hwc]; exact (Below.refl _ _).drew.alloc (by simp) _
 have HBc:=Hj hbc
 obtain ⟨cp,hcp⟩:∃ c,grownCap w (ByteArray.mk #[]).size 0 5 = c:=⟨_,rfl⟩
 rw [hcp] at hconv
 clear hbc hwc hcp
 go_enter Tryz.func33,Tryz.ntmps33
 go_wp2_with fail
 refine (Uh HP).mono ?_
 rintro _ _ ⟨rfl,hw⟩
 obtain rfl:=hw.symm
 clear hw
 go_wp2_with fail
 refine (trimLeft_nil _).mono ?_
 rintro _ _ ⟨rfl,hw⟩
 obtain rfl:=hw.symm
 clear hw
 go_wp2_with fail
 go_loopw [5,14] (fun nv cv wr => nv = .int .i64 0 ∧ cv = .int .i64 0 ∧ Hid (Below w.heap.size w wr)) (fun _ _ _ => 0)
 case atStart => exact ⟨rfl,rfl,Uh HBc⟩
 case round =>
  obtain ⟨rfl,rfl,HB⟩:=hrel
  go_wp2_with fail
  go_ret2
  exact ⟨rfl,Uh HB⟩
end Go.Proofs.YtmnlhnmlgncedaaGreatDoor
