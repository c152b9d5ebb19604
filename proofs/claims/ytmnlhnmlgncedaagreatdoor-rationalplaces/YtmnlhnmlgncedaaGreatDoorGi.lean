/- KarH -/
import Derived.Test.YtmnlhnmlgncedaaGreatDoorKarS
import Derived.Test.YtmnlhnmlgncedaaGreatDoorGg
import Derived.Test.YtmnlhnmlgncedaaGreatDoorGc
import Derived.Test.YtmnlhnmlgncedaaGreatDoorPa2
namespace Go.Proofs.YtmnlhnmlgncedaaGreatDoor
open Go.RowKit Go.Deep
set_option linter.unusedVariables false
theorem make_four (n:Nat) (hn:n ≤ 1000000000) (w:World):(Instr.makeSlice 22 (.int .i64 (4 * ((n:Int) + 1))) (.int .i64 (4 * ((n:Int) + 1)))).run Tryz.prog w = .ok (.slice (some ⟨w.heap.size,0,none⟩) (4 * (n + 1)) (4 * (n + 1))) (w.alloc (.cells (madeCells #[.int .u32 0] (4 * (n + 1))) 84)):=by
 have:=make_len (4 * (n + 1)) (by omega) w
 rw [show ((4 * (n + 1):Nat):Int) = 4 * ((n:Int) + 1) from by omega] at this
 exact this

set_option maxHeartbeats 4000000 in
theorem halves_some (bz oz nz cz b1 o1 n1 c1 b2 o2 n2 c2 h:Nat) (xs ys:List Nat) (w:World) (hp:MulPre w bz oz nz cz (some ⟨b1,o1,none⟩) n1 c1 xs (some ⟨b2,o2,none⟩) n2 c2 ys) (h48:48 ≤ n2) (hle:n2 ≤ n1) (hh1:2 * h ≤ n1 + 1) (hh0:n1 ≤ 2 * h) (hh2:h < n2) (hbig:nz ≤ 1000000000) (N:Nat) (hN:n1 + n2 ≤ N + 1) (IH:MI N) :
  Calls Tryz.prog 206 #[.slice (some ⟨bz,oz,none⟩) nz cz,.slice (some ⟨b1,o1,none⟩) n1 c1,.slice (some ⟨b2,o2,none⟩) n2 c2] w fun e w' => MulPost w bz oz nz (val xs * val ys) e w':=by
 have HP:=Hj hp
 have HI:=Hj IH
 have hx:xs ≠ []:=by intro e; have:=hp.h1.len; rw [e] at this; simp at this; omega
 have hy:ys ≠ []:=by intro e; have:=hp.h2.len; rw [e] at this; simp at this; omega
 have HX:=Hj hx
 have HY:=Hj hy
 have KL:=Hj (fun q => half_lo hp hx hy IH hN h48 hle hh1 hh2 hbig q)
 have KH:=Hj (fun w1 => half_hi (w1:=w1) hp hx hy IH hN h48 hle hh1 hh0 hh2 hbig)
 have hcz:=hp.hcz
 have hc1:=hp.h1.le
 have hc2:=hp.h2.le
 have hnz1:n1 + n2 ≤ nz:=by have:=hp.hnz; omega
 have hnz2:nz ≤ n1 + n2:=by have:=hp.hnz; omega
 have eh:((n1:Int) + 1).tdiv 2 = (h:Int):=by rw [Int.tdiv_eq_ediv_of_nonneg (by omega)]; omega
 have eh':((n1:Int) + 1) / 2 = (h:Int):=by omega
 have hz0:=World.block_lt_of_cell? _ _ (hp.hz 0 (by omega)).1
 have hb1:=hp.h1.block_lt hx _ rfl
 have hb2:=hp.h2.block_lt hy _ rfl
 have g1:(h:Int) ≤ (c1:Int):=by omega
 have g2:(h:Int) ≤ (c2:Int):=by omega
 have g3:(h:Int) ≤ (n1:Int):=by omega
 have g4:(h:Int) ≤ (n2:Int):=by omega
 have g5:2 * (h:Int) ≤ (cz:Int):=by omega
 have g6:2 * (h:Int) ≤ (nz:Int):=by omega
 have g7:(nz:Int) ≤ (cz:Int):=by omega
 have g8:(n1:Int) ≤ (c1:Int):=by omega
 have g9:(n2:Int) ≤ (c2:Int):=by omega
 clear hp IH hx hy
 go_enter Tryz.func206,Tryz.ntmps206
 go_wp2_with fail
 go_quiet (fail)
 go_wp2_with fail
 go_quiet (fail)
 go_wp2_with fail
 go_quiet (fail)
 go_wp2_with fail
 refine (Uh KL _).mono ?_
 rintro e w1 ⟨rfl,hlo,hu⟩
 have KH':=Hj (Uh KH w1 hlo hu)
 clear KL KH hlo hu
 go_wp2_with fail
 refine (Uh KH').mono ?_
 rintro e w2 ⟨rfl,hz⟩
 have hsz:=hz.upd.size
 have S0:=Hj (HalfS.start hz (by omega) (by omega) (by omega) 84)
 have hmk:=make_four h (by omega)
 have r1:(h:Int) + 1 ≤ 4 * ((h:Int) + 1):=by omega
 have r2:2 * ((h:Int) + 1) ≤ 4 * ((h:Int) + 1):=by omega
 have r3:(h:Int) + 1 ≤ 2 * ((h:Int) + 1):=by omega
 have q1:2 * (h + 1) - (h + 1) = h + 1:=by omega
 have q2:4 * (h + 1) - 2 * (h + 1) = 2 * (h + 1):=by omega
 clear KH' hz hsz
 go_wp2_with fail
 go_quiet (fail)
 go_wp2_with (refine wpList_copy_part rfl _ _ rfl w2.heap.size 0 (h + 1) (h + 1) _ h h rfl rfl ((Uh S0).drewN _).pa (xs.take h) (HalfS.slA ((Uh S0).drewN _) (by omega) (by omega)) ((Uh HP).ox.take h) (Nat.le_succ _) ?_; intro w3 hu3 hp3; have S1:=Hj (((Uh S0).drewN _).setA hu3 hp3); clear hu3 hp3 S0)
 have KA:=Hj ((Uh S1).addA (Uh HP).ox (by omega) (by omega) (by omega))
 clear S1
 refine (Uh KA).mono ?_
 rintro e w4 ⟨cc,rfl,s2⟩
 have S2:=Hj s2
 clear s2 KA
 go_wp2_with (refine wpList_copy_part rfl _ _ rfl w2.heap.size (h + 1) (h + 1) (h + 1) _ h h rfl rfl (Uh S2).pb (ys.take h) ((Uh S2).slB (by omega) (by omega)) ((Uh HP).oy.take h) (Nat.le_succ _) ?_; intro w5 hu5 hp5; have S3:=Hj ((Uh S2).setB hu5 hp5); clear hu5 hp5 S2)
 have KB:=Hj ((Uh S3).addB (Uh HP).oy (by omega) (by omega) (by omega))
 clear S3
 refine (Uh KB).mono ?_
 rintro e w6 ⟨cc2,rfl,s4⟩
 have KM:=Hj (s4.mul (Uh HI) (by omega) (by omega))
 clear s4 KB
 go_wp2_with fail
 refine (Uh KM).mono ?_
 rintro e w7 ⟨rfl,s5⟩
 rw [kar_mid] at s5
 have KS:=Hj (s5.subL (by omega) (by omega))
 clear s5 KM
 go_wp2_with fail
 refine (Uh KS).mono ?_
 rintro e w8 ⟨rfl,s6⟩
 have KT:=Hj (s6.subH (by omega) (by omega) (by omega))
 clear s6 KS
 go_wp2_with fail
 refine (Uh KT).mono ?_
 rintro e w9 ⟨rfl,s7⟩
 rw [half_less] at s7
 obtain ⟨zs,hs,hok,hv⟩:=s7.pc.sl (c:=2 * (h + 1)) (Nat.le_refl _) (by unfold maxLen; omega)
 have KR:=trim_any _ (2 * (h + 1)) (2 * (h + 1)) zs w9.drew (hs.below (Below.refl _ _).drew) hok
 rw [hv] at KR
 have KR':=Hj KR
 have KF:=Hj (fun (a':Option Addr) (m:Nat) (zs':List Nat) (hs':Sl w9.drew a' m m zs') (hr:Rep _ zs') (ha:a' = some ⟨w2.heap.size,2 * (h + 1),none⟩ ∨ a' = none) => half_fin (cz:=cz) (s7.z.below (Nat.lt_trans s7.rz s7.rv) (Below.refl _ _).drew) (Uh HP).ox (Uh HP).oy (Uh HP).hnz (by omega) (by omega) (by omega) hbig hs' hr (fun x hx _ => by rcases ha with e | e <;> rw [e] at hx <;> cases hx; exact Nat.ne_of_gt s7.rz))
 have t1:(h:Int) ≤ (nz:Int):=by omega
 clear s7 hs hok hv KT KR
 go_wp2_with fail
 go_region_with (first | (go_at_call 134; refine (Uh KR').mono ?_; rintro e w5 ⟨a',m,zs',rfl,hs,hr,ha,rfl⟩; have KB:=Hj (Uh KF a' m zs' hs hr ha); clear hs hr ha) | (go_at_call 207; refine (Uh KB).mono ?_; rintro e w6 ⟨cc,rfl,hR2⟩; have HR2:=Hj hR2; clear hR2))
 all_goals
  go_wp2
  go_end0
  exact Uh HR2
set_option maxHeartbeats 800000 in
theorem into_p {w:World} {bz oz nz cz:Nat} {a1:Option Addr} {n1 c1:Nat} {a2:Option Addr} {n2 c2:Nat} {v:Nat} (h:Nat) (hge:n2 ≤ n1) (h48:48 ≤ n2) (hh:(n1 + 1) / 2 = h) (hk:(n2:Int) ≤ (h:Int)) (hbig:n1 + n2 ≤ 1000000000)
  (KK:Calls Tryz.prog 205 #[.slice (some ⟨bz,oz,none⟩) nz cz,.slice a1 n1 c1,.slice a2 n2 c2] w fun e w' => MulPost w bz oz nz v e w') :
  Calls Tryz.prog 172 #[.slice (some ⟨bz,oz,none⟩) nz cz,.slice a1 n1 c1,.slice a2 n2 c2] w fun e w' => MulPost w bz oz nz v e w':=by
 have K:=Hj KK
 have ht:¬ (n1:Int) < (n2:Int):=by omega
 have ht2:¬ (n2:Int) < 48:=by omega
 have eh:((n1:Int) + 1).tdiv 2 = (h:Int):=by rw [Int.tdiv_eq_ediv_of_nonneg (by omega)]; omega
 have eh':((n1:Int) + 1) / 2 = (h:Int):=by omega
 clear KK
 go_enter Tryz.func172,Tryz.ntmps172
 go_wp2_with fail
 refine (Uh K).mono ?_
 rintro e w' ⟨rfl,hp⟩
 have HP:=Hj hp
 clear hp K
 go_wp2
 go_end0
 exact ⟨rfl,Uh HP⟩

set_option maxHeartbeats 800000 in
theorem into_ps {w:World} {bz oz nz cz:Nat} {a1:Option Addr} {n1 c1:Nat} {a2:Option Addr} {n2 c2:Nat} {v:Nat} (h:Nat) (hlt:n1 < n2) (h48:48 ≤ n1) (hh:(n2 + 1) / 2 = h) (hk:(n1:Int) ≤ (h:Int)) (hbig:n1 + n2 ≤ 1000000000)
  (KK:Calls Tryz.prog 205 #[.slice (some ⟨bz,oz,none⟩) nz cz,.slice a2 n2 c2,.slice a1 n1 c1] w fun e w' => MulPost w bz oz nz v e w') :
  Calls Tryz.prog 172 #[.slice (some ⟨bz,oz,none⟩) nz cz,.slice a1 n1 c1,.slice a2 n2 c2] w fun e w' => MulPost w bz oz nz v e w':=by
 have K:=Hj KK
 have ht:(n1:Int) < (n2:Int):=by omega
 have ht2:¬ (n1:Int) < 48:=by omega
 have eh:((n2:Int) + 1).tdiv 2 = (h:Int):=by rw [Int.tdiv_eq_ediv_of_nonneg (by omega)]; omega
 have eh':((n2:Int) + 1) / 2 = (h:Int):=by omega
 clear KK
 go_enter Tryz.func172,Tryz.ntmps172
 go_wp2_with fail
 refine (Uh K).mono ?_
 rintro e w' ⟨rfl,hp⟩
 have HP:=Hj hp
 clear hp K
 go_wp2
 go_end0
 exact ⟨rfl,Uh HP⟩

set_option maxHeartbeats 800000 in
theorem into_h {w:World} {bz oz nz cz:Nat} {a1:Option Addr} {n1 c1:Nat} {a2:Option Addr} {n2 c2:Nat} {v:Nat} (h:Nat) (hge:n2 ≤ n1) (h48:48 ≤ n2) (hh:(n1 + 1) / 2 = h) (hk:¬ (n2:Int) ≤ (h:Int)) (hbig:n1 + n2 ≤ 1000000000)
  (KK:Calls Tryz.prog 206 #[.slice (some ⟨bz,oz,none⟩) nz cz,.slice a1 n1 c1,.slice a2 n2 c2] w fun e w' => MulPost w bz oz nz v e w') :
  Calls Tryz.prog 172 #[.slice (some ⟨bz,oz,none⟩) nz cz,.slice a1 n1 c1,.slice a2 n2 c2] w fun e w' => MulPost w bz oz nz v e w':=by
 have K:=Hj KK
 have ht:¬ (n1:Int) < (n2:Int):=by omega
 have ht2:¬ (n2:Int) < 48:=by omega
 have eh:((n1:Int) + 1).tdiv 2 = (h:Int):=by rw [Int.tdiv_eq_ediv_of_nonneg (by omega)]; omega
 have eh':((n1:Int) + 1) / 2 = (h:Int):=by omega
 clear KK
 go_enter Tryz.func172,Tryz.ntmps172
 go_wp2_with fail
 refine (Uh K).mono ?_
 rintro e w' ⟨rfl,hp⟩
 have HP:=Hj hp
 clear hp K
 go_wp2
 go_end0
 exact ⟨rfl,Uh HP⟩

set_option maxHeartbeats 800000 in
theorem into_hs {w:World} {bz oz nz cz:Nat} {a1:Option Addr} {n1 c1:Nat} {a2:Option Addr} {n2 c2:Nat} {v:Nat} (h:Nat) (hlt:n1 < n2) (h48:48 ≤ n1) (hh:(n2 + 1) / 2 = h) (hk:¬ (n1:Int) ≤ (h:Int)) (hbig:n1 + n2 ≤ 1000000000)
  (KK:Calls Tryz.prog 206 #[.slice (some ⟨bz,oz,none⟩) nz cz,.slice a2 n2 c2,.slice a1 n1 c1] w fun e w' => MulPost w bz oz nz v e w') :
  Calls Tryz.prog 172 #[.slice (some ⟨bz,oz,none⟩) nz cz,.slice a1 n1 c1,.slice a2 n2 c2] w fun e w' => MulPost w bz oz nz v e w':=by
 have K:=Hj KK
 have ht:(n1:Int) < (n2:Int):=by omega
 have ht2:¬ (n1:Int) < 48:=by omega
 have eh:((n2:Int) + 1).tdiv 2 = (h:Int):=by rw [Int.tdiv_eq_ediv_of_nonneg (by omega)]; omega
 have eh':((n2:Int) + 1) / 2 = (h:Int):=by omega
 clear KK
 go_enter Tryz.func172,Tryz.ntmps172
 go_wp2_with fail
 refine (Uh K).mono ?_
 rintro e w' ⟨rfl,hp⟩
 have HP:=Hj hp
 clear hp K
 go_wp2
 go_end0
 exact ⟨rfl,Uh HP⟩

theorem MulPre.some {w:World} {bz oz nz cz:Nat} {a1:Option Addr} {n1 c1:Nat} {xs:List Nat} {a2:Option Addr} {n2 c2:Nat} {ys:List Nat} (h:MulPre w bz oz nz cz a1 n1 c1 xs a2 n2 c2 ys) (h1:0 < n1) (h2:0 < n2):∃ b1 o1 b2 o2,a1 = some ⟨b1,o1,none⟩ ∧ a2 = some ⟨b2,o2,none⟩:=by
 have l1:=h.h1.len
 have l2:=h.h2.len
 rcases h.h1.cells with e | ⟨b1,o1,e1,_⟩
 ·subst e; simp at l1; omega
 ·rcases h.h2.cells with e | ⟨b2,o2,e2,_⟩
  ·subst e; simp at l2; omega
  ·exact ⟨b1,o1,b2,o2,e1,e2⟩

theorem mi_all:∀ N,N ≤ 1000000000 → MI N
 | 0,_ => fun w bz oz nz cz a1 n1 c1 xs a2 n2 c2 ys hN h => into_small h (.inl (by omega))
 | N + 1,hb => fun w bz oz nz cz a1 n1 c1 xs a2 n2 c2 ys hN h => by
  have IH:=mi_all N (by omega)
  have hnz:=h.hnz
  by_cases hs:n1 < 48 ∨ n2 < 48
  ·exact into_small h hs
  ·obtain ⟨b1,o1,b2,o2,rfl,rfl⟩:=h.some (by omega) (by omega)
   by_cases hlt:n1 < n2
   ·by_cases hk:2 * n1 ≤ n2 + 1
    ·refine into_ps _ hlt (by omega) rfl (by omega) (by omega) ?_
     rw [Nat.mul_comm (val xs)]
     exact pieces_some bz oz nz cz b2 o2 n2 c2 b1 o1 n1 c1 ys xs w h.swap (by omega) hk (by omega) N (by omega) IH
    ·refine into_hs _ hlt (by omega) rfl (by omega) (by omega) ?_
     rw [Nat.mul_comm (val xs)]
     exact halves_some bz oz nz cz b2 o2 n2 c2 b1 o1 n1 c1 ((n2 + 1) / 2) ys xs w h.swap (by omega) (by omega) (by omega) (by omega) (by omega) (by omega) N (by omega) IH
   ·by_cases hk:2 * n2 ≤ n1 + 1
    ·refine into_p _ (by omega) (by omega) rfl (by omega) (by omega) ?_
     exact pieces_some bz oz nz cz b1 o1 n1 c1 b2 o2 n2 c2 xs ys w h (by omega) hk (by omega) N (by omega) IH
    ·refine into_h _ (by omega) (by omega) rfl (by omega) (by omega) ?_
     exact halves_some bz oz nz cz b1 o1 n1 c1 b2 o2 n2 c2 ((n1 + 1) / 2) xs ys w h (by omega) (by omega) (by omega) (by omega) (by omega) (by omega) N (by omega) IH

theorem multiply_any (a1 a2:Option Addr) (n1 c1 n2 c2:Nat) (xs ys:List Nat) (w:World) (h1:Sl w a1 n1 c1 xs) (h2:Sl w a2 n2 c2 ys) (ox:Ok xs) (oy:Ok ys) (hb:n1 + n2 ≤ 1000000000) :
  Calls Tryz.prog 128 #[.slice a1 n1 c1,.slice a2 n2 c2] w fun e w' => NewRep w w' (val xs * val ys) e :=
 multiply_of a1 a2 n1 c1 n2 c2 xs ys w h1 h2 ox oy (by omega) (fun w bz oz nz cz h => mi_all 1000000000 (Nat.le_refl _) w bz oz nz cz a1 n1 c1 xs a2 n2 c2 ys hb h)

theorem nmul_any (a1 a2:Option Addr) (n1 c1 n2 c2:Nat) (xs ys:List Nat) (w:World) (h1:Sl w a1 n1 c1 xs) (h2:Sl w a2 n2 c2 ys) (ox:Ok xs) (oy:Ok ys) :
  Calls Tryz.prog 77 #[.slice a1 n1 c1,.slice a2 n2 c2] w fun e w' => Res2 w w' (mulL xs ys) e :=
 nmul_of a1 a2 n1 c1 n2 c2 xs ys w h1 h2 ox oy (fun m1 m2 => multiply_any a1 a2 n1 c1 n2 c2 xs ys w h1 h2 ox oy (by have:=h1.len; have:=h2.len; have:=MayL.len m1; have:=MayL.len m2; omega))
def gcdL (xs ys:List Nat):List Nat × Int:=if MayL xs && MayL ys then (limbs (Nat.gcd (val xs) (val ys)),0) else ([],20)
theorem newRep_res2 {w w':World} {v:Nat} {e:Ending} (h:NewRep w w' v e):∃ a m,e = .returned (.slice a m m) ∧ Sl w' a m m (limbs v) ∧ NewAt w.heap.size a ∧ Below w.heap.size w w':=by
 obtain ⟨a,m,ys,h1,h2,h3,h4,h5⟩:=h
 rw [h3.eq] at h2
 exact ⟨a,m,h1,h2,h4,h5⟩

set_option maxHeartbeats 2000000 in
theorem ngcd_any (a1 a2:Option Addr) (n1 c1 n2 c2:Nat) (xs ys:List Nat) (w:World) (h1:Sl w a1 n1 c1 xs) (h2:Sl w a2 n2 c2 ys) (ox:Ok xs) (oy:Ok ys) (hT:Tab64 w) :
  Calls Tryz.prog 62 #[.slice a1 n1 c1,.slice a2 n2 c2] w fun e w' => Res2 w w' (gcdL xs ys) e:=by
 have K1:=may_any a1 n1 c1 xs w h1
 have K2:=may_any a2 n2 c2 ys w h2
 by_cases m1:MayL xs = true
 ·by_cases m2:MayL ys = true
  ·rw [m1] at K1; rw [m2] at K2
   have K1':=Hj K1
   have K2':=Hj K2
   have hl1:n1 ≤ 2048:=by have:=h1.len; have:=MayL.len m1; omega
   have hl2:n2 ≤ 2048:=by have:=h2.len; have:=MayL.len m2; omega
   have HC:=Hj (show gcdL xs ys = (limbs (Nat.gcd (val xs) (val ys)),0) from by simp [gcdL,m1,m2])
   have KD:=Hj (divisor_any a1 a2 n1 c1 n2 c2 xs ys w h1 h2 ox oy (MayL.norm m1) (MayL.norm m2) hl1 hl2 hT)
   clear K1 K2 m1 m2 h1 h2 ox oy hT
   go_enter Tryz.func62,Tryz.ntmps62
   go_wp2_with fail
   refine (Uh K1').mono ?_
   rintro e w' ⟨rfl,hw⟩
   obtain rfl:=hw.symm
   go_wp2_with fail
   refine (Uh K2').mono ?_
   rintro e w' ⟨rfl,hw⟩
   obtain rfl:=hw.symm
   go_wp2_with fail
   refine (Uh KD).mono ?_
   intro e w1 hq
   obtain ⟨ag,mg,rfl,s1,q1,b1⟩:=newRep_res2 hq
   have HX:=Hj (And.intro s1 (And.intro q1 b1))
   clear hq s1 q1 b1 KD
   go_wp2
   go_ret2
   rw [Uh HC]
   exact ⟨ag,mg,mg,rfl,(Uh HX).1,(Uh HX).2.1,(Uh HX).2.2⟩
  ·have m2':MayL ys = false:=by simpa using m2
   rw [m1] at K1; rw [m2'] at K2
   have K1':=Hj K1
   have K2':=Hj K2
   have HC:=Hj (show gcdL xs ys = ([],20) from by simp [gcdL,m2'])
   clear K1 K2 m1 m2 m2' h1 h2 ox oy hT
   go_enter Tryz.func62,Tryz.ntmps62
   go_wp2_with fail
   refine (Uh K1').mono ?_
   rintro e w' ⟨rfl,hw⟩
   obtain rfl:=hw.symm
   go_wp2_with fail
   refine (Uh K2').mono ?_
   rintro e w' ⟨rfl,hw⟩
   obtain rfl:=hw.symm
   go_wp2
   go_ret2
   rw [Uh HC]
   exact ⟨none,0,0,rfl,sl_nil _,newAt_nil _,Below.refl _ _⟩
 ·have m1':MayL xs = false:=by simpa using m1
  rw [m1'] at K1
  have K1':=Hj K1
  have HC:=Hj (show gcdL xs ys = ([],20) from by simp [gcdL,m1'])
  clear K1 K2 m1 m1' h1 h2 ox oy hT
  go_enter Tryz.func62,Tryz.ntmps62
  go_wp2_with fail
  refine (Uh K1').mono ?_
  rintro e w' ⟨rfl,hw⟩
  obtain rfl:=hw.symm
  go_wp2
  go_ret2
  rw [Uh HC]
  exact ⟨none,0,0,rfl,sl_nil _,newAt_nil _,Below.refl _ _⟩

theorem may_div {xs:List Nat} (m:MayL xs = true) (ox:Ok xs) (d:Nat):MayL (limbs (val xs / d)) = true:=by
 refine MayL.mk (limbs_rep _).norm ?_
 have h1:(limbs (val xs / d)).length ≤ xs.length:=by
  refine rep_len_le (limbs_rep _) ?_
  exact Nat.lt_of_le_of_lt (Nat.div_le_self _ _) (val_lt ox)
 have:=MayL.len m
 omega
theorem may_small {xs:List Nat} (m:MayL xs = true) (ox:Ok xs) {v:Nat} (h:v ≤ val xs):MayL (limbs v) = true:=by
 refine MayL.mk (limbs_rep _).norm ?_
 have h1:(limbs v).length ≤ xs.length:=rep_len_le (limbs_rep _) (Nat.lt_of_le_of_lt h (val_lt ox))
 have:=MayL.len m
 omega
theorem val_pos_of_may {xs:List Nat} (m:MayL xs = true) (h:xs ≠ []):0 < val xs:=by
 have a:=val_ge_of_norm (MayL.norm m) h
 have b:=pow_pos (xs.length - 1)
 omega
theorem limbs_ne {v:Nat} (h:0 < v):limbs v ≠ []:=by
 intro e
 have:=(limbs_rep v).val
 rw [e] at this
 simp [val] at this
 omega

open Go.RowKit Go.Deep
set_option linter.unusedVariables false
end Go.Proofs.YtmnlhnmlgncedaaGreatDoor
