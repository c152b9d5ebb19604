/- RMul -/
import Derived.Test.YtjoaijbhpgekoaaGreatDoorShl
import Derived.Test.YtjoaijbhpgekoaaGreatDoorRd1
import Derived.Test.YtjoaijbhpgekoaaGreatDoorKarS
import Derived.Test.YtjoaijbhpgekoaaGreatDoorGg
import Derived.Test.YtjoaijbhpgekoaaGreatDoorRd3
import Derived.Test.YtjoaijbhpgekoaaGreatDoorGiv2
namespace Go.Proofs.YtjoaijbhpgekoaaGreatDoor
open Go.RowKit Go.Deep
set_option linter.unusedVariables false
set_option maxHeartbeats 4000000 in
theorem rtimes_any (a1 a2:Option Addr) (n1 c1 n2 c2:Nat) (xs ys:List Nat) (w:World) (h1:Sl w a1 n1 c1 xs) (h2:Sl w a2 n2 c2 ys) (ox:Ok xs) (oy:Ok ys) (hb:n1 + n2 ≤ 1000000000) :
  Calls Tryz.prog 51 #[.slice a1 n1 c1,.slice a2 n2 c2] w fun e w' => ∃ zs,e = .returned (.slice (some ⟨w.heap.size,0,none⟩) (n1 + n2) (n1 + n2)) ∧ Sl w' (some ⟨w.heap.size,0,none⟩) (n1 + n2) (n1 + n2) zs ∧ Ok zs ∧ val zs = val xs * val ys ∧ Below w.heap.size w w':=by
 have hmk:=make_sum n1 n2 (by omega)
 have bel0:=(Below.refl w.heap.size w).alloc (Nat.le_refl _) (.cells (madeCells #[.int .u32 0] (n1 + n2)) 94)
 have HL1:=Hj h1.len
 have HL2:=Hj h2.len
 have HN1:=Hj (fun (hne:xs ≠ []) => h1.block_lt hne)
 have HN2:=Hj (fun (hne:ys ≠ []) => h2.block_lt hne)
 have S1:=Hj (h1.below bel0)
 have S2:=Hj (h2.below bel0)
 have HB:=Hj bel0
 have hR0:RowsR (w.alloc (.cells (madeCells #[.int .u32 0] (n1 + n2)) 94)) (w.alloc (.cells (madeCells #[.int .u32 0] (n1 + n2)) 94)) w.heap.size 0 (n1 + n2) ys xs 0 (fun _ => 0):=⟨Fn.made w (n1 + n2) 94,fun _ _ => by decide,fun _ _ _ => rfl,by simp [valF,valF_zero],Upd.refl _ _ _ _⟩
 have HR0:=Hj hR0
 clear h1 h2 bel0 hR0
 go_enter Tryz.func51,Tryz.ntmps51
 go_wp2_with fail
 generalize hw0:(w.alloc (.cells (madeCells #[.int .u32 0] (n1 + n2)) 94)) = w0 at *
 have HW0:=Hj hw0
 clear hw0
 go_loopw [6] (fun i wr => ∃ k:Nat,∃ f:Nat → Nat,k ≤ n1 ∧ i = .int .i64 k ∧ RowsR wr w0 w.heap.size 0 (n1 + n2) ys xs k f) (fun i _ => n1 - (intOf i).toNat)
 case atStart => exact ⟨0,_,Nat.zero_le _,rfl,Uh HR0⟩
 case round =>
  clear HR0
  obtain ⟨k,f,hk,rfl,hR⟩:=hrel
  by_cases hlt:k < n1
  ·have hlt':(k:Int) < (n1:Int):=by omega
   have hX:=ox.getD k
   have hxne:xs ≠ []:=by intro e; have:=Uh HL1; rw [e] at this; simp at this; omega
   obtain ⟨b1,o1,rfl,hx⟩:=(Uh S1).cells.resolve_left hxne
   have hb1:b1 < w.heap.size:=Uh HN1 hxne _ rfl
   have HX1:=Hj hx
   obtain ⟨wo,rfl⟩:∃ wo:World,wo = wr:=⟨_,rfl⟩
   have HR:=Hj hR
   clear hR hx hxne S1 HN1
   go_wp2_with fail
   go_loopw [7,8] (fun cv jv wr => ∃ j c:Nat,∃ g:Nat → Nat,j ≤ n2 ∧ jv = .int .i64 j ∧ cv = .int .u64 (c:Nat) ∧ RowR wr w0 w.heap.size 0 (n1 + n2) f k (xs.getD k 0) ys j c g) (fun _ jv _ => n2 - (intOf jv).toNat)
   case atStart => exact ⟨0,0,f,Nat.zero_le _,rfl,rfl,(Uh HR).begin _⟩
   case round =>
    obtain ⟨j,c,g,hj,rfl,rfl,hQ⟩:=hrel
    have hc0:=hQ.cle
    by_cases hjl:j < n2
    ·have hjl':(j:Int) < (n2:Int):=by omega
     have hjl2:(k:Int) + (j:Int) < (n1:Int) + (n2:Int):=by omega
     have hyne:ys ≠ []:=by intro e; have:=Uh HL2; rw [e] at this; simp at this; omega
     obtain ⟨b2,o2,rfl,hy⟩:=(Uh S2).cells.resolve_left hyne
     have hb2:b2 < w.heap.size:=Uh HN2 hyne _ rfl
     have g1:=hQ.upd.cells (Uh HX1) (.inl (by omega)) k (by rw [Uh HL1]; exact hlt)
     have g2:=hQ.upd.cells hy (.inl (by omega)) j (by rw [Uh HL2]; exact hjl)
     have g3:=(hQ.fn (k + j) (by omega)).1
     have g4:=(hQ.fn (k + j) (by omega)).2
     rw [Nat.zero_add] at g3 g4
     have by':=oy.getD j
     have br:=hQ.ok (k + j) (by omega)
     have HS0:=hQ.step (by omega) by' hX
     rw [Nat.zero_add] at HS0
     have HS:=Hj HS0
     clear HS0
     have mb:((xs.getD k 0:Nat):Int) * ((ys.getD j 0:Nat):Int) ≤ 18446744065119617025:=by
      have:=mul_bound hX by'
      rw [← Int.natCast_mul]; omega
     have mb0:0 ≤ ((xs.getD k 0:Nat):Int) * ((ys.getD j 0:Nat):Int):=Int.mul_nonneg (by omega) (by omega)
     have e1:=mdl_int (ys.getD j 0) (xs.getD k 0) (g (k + j)) c
     have e2:=mdh_int (ys.getD j 0) (xs.getD k 0) (g (k + j)) c
     rw [Int.mul_comm] at e1 e2
     generalize ys.getD j 0 = y at g2 by' HS mb mb0 e1 e2
     generalize hyy:xs.getD k 0 = x at g1 HS mb mb0 e1 e2 hX
     have HY:=Hj hyy
     generalize g (k + j) = r at g3 br HS e1 e2
     clear hQ hyy hy hyne S2 HN2
     go_wp2_with fail
     go_quiet (fail)
     go_wp2
     exact ⟨⟨j + 1,_,_,by omega,by go_num,rfl,(Uh HS).drewN _⟩,by simp [intOf]; omega⟩
    ·have hjn:j = n2:=by omega
     subst hjn
     have hjl':¬ (j:Int) < (j:Int):=by omega
     have hjl3:(k:Int) + (j:Int) < (n1:Int) + (j:Int):=by omega
     have g3:=(hQ.fn (k + j) (by omega)).1
     have g4:=(hQ.fn (k + j) (by omega)).2
     rw [Nat.zero_add] at g3 g4
     have HS:=rows_step (Uh HL2) (Uh HR) hQ (by omega)
     rw [Nat.zero_add] at HS
     have HS':=Hj HS
     generalize ((g (k + j):Nat):Int) = r at g3
     clear hQ HS HR
     go_wp2
     exact ⟨⟨k + 1,_,by omega,by go_num,Uh HS'⟩,by simp [intOf]; omega⟩
  ·have hkn:k = n1:=by omega
   have hv:valF f (n1 + n2) = val xs * val ys:=by
    have hv:=hR.val
    rw [hkn,Uh HL2] at hv
    rw [hv,← Uh HL1,valF_list,Nat.mul_comm]
   have HR:=Hj (And.intro hR hv)
   clear hR hv hkn
   go_wp2
   go_ret
   refine ⟨_,rfl,(Uh HR).1.fn.sl (Nat.le_refl _) (by unfold maxLen; omega),lst_ok (Uh HR).1.ok,(lst_val _ _).trans (Uh HR).2,(Uh HB).trans ((Uh HR).1.upd.below (Nat.le_refl _) (Uh HB).size)⟩
theorem make_four (n:Nat) (hn:n ≤ 1000000000) (w:World):(Instr.makeSlice 36 (.int .i64 (4 * ((n:Int) + 1))) (.int .i64 (4 * ((n:Int) + 1)))).run Tryz.prog w = .ok (.slice (some ⟨w.heap.size,0,none⟩) (4 * (n + 1)) (4 * (n + 1))) (w.alloc (.cells (madeCells #[.int .u32 0] (4 * (n + 1))) 94)):=by
 have:=make_len (4 * (n + 1)) (by omega) w
 rw [show ((4 * (n + 1):Nat):Int) = 4 * ((n:Int) + 1) from by omega] at this
 exact this

set_option maxHeartbeats 4000000 in
theorem halves_some (bz oz nz cz b1 o1 n1 c1 b2 o2 n2 c2 h:Nat) (xs ys:List Nat) (w:World) (hp:MulPre w bz oz nz cz (some ⟨b1,o1,none⟩) n1 c1 xs (some ⟨b2,o2,none⟩) n2 c2 ys) (h48:48 ≤ n2) (hle:n2 ≤ n1) (hh1:2 * h ≤ n1 + 1) (hh0:n1 ≤ 2 * h) (hh2:h < n2) (hbig:nz ≤ 1000000000) (N:Nat) (hN:n1 + n2 ≤ N + 1) (IH:MI N) :
  Calls Tryz.prog 111 #[.slice (some ⟨bz,oz,none⟩) nz cz,.slice (some ⟨b1,o1,none⟩) n1 c1,.slice (some ⟨b2,o2,none⟩) n2 c2] w fun e w' => MulPost w bz oz nz (val xs * val ys) e w':=by
 have HP:=Hj hp
 have HI:=Hj IH
 have hx:xs ≠ []:=by intro e; have:=hp.h1.len; rw [e] at this; simp at this; omega
 have hy:ys ≠ []:=by intro e; have:=hp.h2.len; rw [e] at this; simp at this; omega
 have HX:=Hj hx
 have HY:=Hj hy
 have KL:=Hj (fun q => half_lo hp hx hy IH hN h48 hle hh1 hh2 hbig q)
 have KH:=Hj (fun w1 => half_hi (w1:=w1) hp hx hy IH hN h48 hle hh1 hh0 hh2 hbig)
 have hcz:=hp.hcz
 have hc1:=hp.h1.le
 have hc2:=hp.h2.le
 have hnz1:n1 + n2 ≤ nz:=by have:=hp.hnz; omega
 have hnz2:nz ≤ n1 + n2:=by have:=hp.hnz; omega
 have eh:((n1:Int) + 1).tdiv 2 = (h:Int):=by rw [Int.tdiv_eq_ediv_of_nonneg (by omega)]; omega
 have eh':((n1:Int) + 1) / 2 = (h:Int):=by omega
 have hz0:=World.block_lt_of_cell? _ _ (hp.hz 0 (by omega)).1
 have hb1:=hp.h1.block_lt hx _ rfl
 have hb2:=hp.h2.block_lt hy _ rfl
 have g1:(h:Int) ≤ (c1:Int):=by omega
 have g2:(h:Int) ≤ (c2:Int):=by omega
 have g3:(h:Int) ≤ (n1:Int):=by omega
 have g4:(h:Int) ≤ (n2:Int):=by omega
 have g5:2 * (h:Int) ≤ (cz:Int):=by omega
 have g6:2 * (h:Int) ≤ (nz:Int):=by omega
 have g7:(nz:Int) ≤ (cz:Int):=by omega
 have g8:(n1:Int) ≤ (c1:Int):=by omega
 have g9:(n2:Int) ≤ (c2:Int):=by omega
 clear hp IH hx hy
 go_enter Tryz.func111,Tryz.ntmps111
 go_wp2_with fail
 go_quiet (fail)
 go_wp2_with fail
 go_quiet (fail)
 go_wp2_with fail
 go_quiet (fail)
 go_wp2_with fail
 refine (Uh KL _).mono ?_
 rintro e w1 ⟨rfl,hlo,hu⟩
 have KH':=Hj (Uh KH w1 hlo hu)
 clear KL KH hlo hu
 go_wp2_with fail
 refine (Uh KH').mono ?_
 rintro e w2 ⟨rfl,hz⟩
 have hsz:=hz.upd.size
 have S0:=Hj (HalfS.start hz (by omega) (by omega) (by omega) 94)
 have hmk:=make_four h (by omega)
 have r1:(h:Int) + 1 ≤ 4 * ((h:Int) + 1):=by omega
 have r2:2 * ((h:Int) + 1) ≤ 4 * ((h:Int) + 1):=by omega
 have r3:(h:Int) + 1 ≤ 2 * ((h:Int) + 1):=by omega
 have q1:2 * (h + 1) - (h + 1) = h + 1:=by omega
 have q2:4 * (h + 1) - 2 * (h + 1) = 2 * (h + 1):=by omega
 clear KH' hz hsz
 go_wp2_with fail
 go_quiet (fail)
 go_wp2_with (refine wpList_copy_part rfl _ _ rfl w2.heap.size 0 (h + 1) (h + 1) _ h h rfl rfl ((Uh S0).drewN _).pa (xs.take h) (HalfS.slA ((Uh S0).drewN _) (by omega) (by omega)) ((Uh HP).ox.take h) (Nat.le_succ _) ?_; intro w3 hu3 hp3; have S1:=Hj (((Uh S0).drewN _).setA hu3 hp3); clear hu3 hp3 S0)
 have KA:=Hj ((Uh S1).addA (Uh HP).ox (by omega) (by omega) (by omega))
 clear S1
 refine (Uh KA).mono ?_
 rintro e w4 ⟨cc,rfl,s2⟩
 have S2:=Hj s2
 clear s2 KA
 go_wp2_with (refine wpList_copy_part rfl _ _ rfl w2.heap.size (h + 1) (h + 1) (h + 1) _ h h rfl rfl (Uh S2).pb (ys.take h) ((Uh S2).slB (by omega) (by omega)) ((Uh HP).oy.take h) (Nat.le_succ _) ?_; intro w5 hu5 hp5; have S3:=Hj ((Uh S2).setB hu5 hp5); clear hu5 hp5 S2)
 have KB:=Hj ((Uh S3).addB (Uh HP).oy (by omega) (by omega) (by omega))
 clear S3
 refine (Uh KB).mono ?_
 rintro e w6 ⟨cc2,rfl,s4⟩
 have KM:=Hj (s4.mul (Uh HI) (by omega) (by omega))
 clear s4 KB
 go_wp2_with fail
 refine (Uh KM).mono ?_
 rintro e w7 ⟨rfl,s5⟩
 rw [kar_mid] at s5
 have KS:=Hj (s5.subL (by omega) (by omega))
 clear s5 KM
 go_wp2_with fail
 refine (Uh KS).mono ?_
 rintro e w8 ⟨rfl,s6⟩
 have KT:=Hj (s6.subH (by omega) (by omega) (by omega))
 clear s6 KS
 go_wp2_with fail
 refine (Uh KT).mono ?_
 rintro e w9 ⟨rfl,s7⟩
 rw [half_less] at s7
 obtain ⟨zs,hs,hok,hv⟩:=s7.pc.sl (c:=2 * (h + 1)) (Nat.le_refl _) (by unfold maxLen; omega)
 have KR:=trim_any _ (2 * (h + 1)) (2 * (h + 1)) zs w9.drew (hs.below (Below.refl _ _).drew) hok
 rw [hv] at KR
 have KR':=Hj KR
 have KF:=Hj (fun (a':Option Addr) (m:Nat) (zs':List Nat) (hs':Sl w9.drew a' m m zs') (hr:Rep _ zs') (ha:a' = some ⟨w2.heap.size,2 * (h + 1),none⟩ ∨ a' = none) => half_fin (cz:=cz) (s7.z.below (Nat.lt_trans s7.rz s7.rv) (Below.refl _ _).drew) (Uh HP).ox (Uh HP).oy (Uh HP).hnz (by omega) (by omega) (by omega) hbig hs' hr (fun x hx _ => by rcases ha with e | e <;> rw [e] at hx <;> cases hx; exact Nat.ne_of_gt s7.rz))
 have t1:(h:Int) ≤ (nz:Int):=by omega
 clear s7 hs hok hv KT KR
 go_wp2_with fail
 go_region_with (first | (go_at_call 101; refine (Uh KR').mono ?_; rintro e w5 ⟨a',m,zs',rfl,hs,hr,ha,rfl⟩; have KB:=Hj (Uh KF a' m zs' hs hr ha); clear hs hr ha) | (go_at_call 122; refine (Uh KB).mono ?_; rintro e w6 ⟨cc,rfl,hR2⟩; have HR2:=Hj hR2; clear hR2))
 all_goals
  go_wp2
  go_end0
  exact Uh HR2
set_option maxHeartbeats 800000 in
theorem into_p {w:World} {bz oz nz cz:Nat} {a1:Option Addr} {n1 c1:Nat} {a2:Option Addr} {n2 c2:Nat} {v:Nat} (h:Nat) (hge:n2 ≤ n1) (h48:48 ≤ n2) (hh:(n1 + 1) / 2 = h) (hk:(n2:Int) ≤ (h:Int)) (hbig:n1 + n2 ≤ 1000000000)
  (KK:Calls Tryz.prog 110 #[.slice (some ⟨bz,oz,none⟩) nz cz,.slice a1 n1 c1,.slice a2 n2 c2] w fun e w' => MulPost w bz oz nz v e w') :
  Calls Tryz.prog 100 #[.slice (some ⟨bz,oz,none⟩) nz cz,.slice a1 n1 c1,.slice a2 n2 c2] w fun e w' => MulPost w bz oz nz v e w':=by
 have K:=Hj KK
 have ht:¬ (n1:Int) < (n2:Int):=by omega
 have ht2:¬ (n2:Int) < 48:=by omega
 have eh:((n1:Int) + 1).tdiv 2 = (h:Int):=by rw [Int.tdiv_eq_ediv_of_nonneg (by omega)]; omega
 have eh':((n1:Int) + 1) / 2 = (h:Int):=by omega
 clear KK
 go_enter Tryz.func100,Tryz.ntmps100
 go_wp2_with fail
 refine (Uh K).mono ?_
 rintro e w' ⟨rfl,hp⟩
 have HP:=Hj hp
 clear hp K
 go_wp2
 go_end0
 exact ⟨rfl,Uh HP⟩

set_option maxHeartbeats 800000 in
theorem into_ps {w:World} {bz oz nz cz:Nat} {a1:Option Addr} {n1 c1:Nat} {a2:Option Addr} {n2 c2:Nat} {v:Nat} (h:Nat) (hlt:n1 < n2) (h48:48 ≤ n1) (hh:(n2 + 1) / 2 = h) (hk:(n1:Int) ≤ (h:Int)) (hbig:n1 + n2 ≤ 1000000000)
  (KK:Calls Tryz.prog 110 #[.slice (some ⟨bz,oz,none⟩) nz cz,.slice a2 n2 c2,.slice a1 n1 c1] w fun e w' => MulPost w bz oz nz v e w') :
  Calls Tryz.prog 100 #[.slice (some ⟨bz,oz,none⟩) nz cz,.slice a1 n1 c1,.slice a2 n2 c2] w fun e w' => MulPost w bz oz nz v e w':=by
 have K:=Hj KK
 have ht:(n1:Int) < (n2:Int):=by omega
 have ht2:¬ (n1:Int) < 48:=by omega
 have eh:((n2:Int) + 1).tdiv 2 = (h:Int):=by rw [Int.tdiv_eq_ediv_of_nonneg (by omega)]; omega
 have eh':((n2:Int) + 1) / 2 = (h:Int):=by omega
 clear KK
 go_enter Tryz.func100,Tryz.ntmps100
 go_wp2_with fail
 refine (Uh K).mono ?_
 rintro e w' ⟨rfl,hp⟩
 have HP:=Hj hp
 clear hp K
 go_wp2
 go_end0
 exact ⟨rfl,Uh HP⟩

set_option maxHeartbeats 800000 in
theorem into_h {w:World} {bz oz nz cz:Nat} {a1:Option Addr} {n1 c1:Nat} {a2:Option Addr} {n2 c2:Nat} {v:Nat} (h:Nat) (hge:n2 ≤ n1) (h48:48 ≤ n2) (hh:(n1 + 1) / 2 = h) (hk:¬ (n2:Int) ≤ (h:Int)) (hbig:n1 + n2 ≤ 1000000000)
  (KK:Calls Tryz.prog 111 #[.slice (some ⟨bz,oz,none⟩) nz cz,.slice a1 n1 c1,.slice a2 n2 c2] w fun e w' => MulPost w bz oz nz v e w') :
  Calls Tryz.prog 100 #[.slice (some ⟨bz,oz,none⟩) nz cz,.slice a1 n1 c1,.slice a2 n2 c2] w fun e w' => MulPost w bz oz nz v e w':=by
 have K:=Hj KK
 have ht:¬ (n1:Int) < (n2:Int):=by omega
 have ht2:¬ (n2:Int) < 48:=by omega
 have eh:((n1:Int) + 1).tdiv 2 = (h:Int):=by rw [Int.tdiv_eq_ediv_of_nonneg (by omega)]; omega
 have eh':((n1:Int) + 1) / 2 = (h:Int):=by omega
 clear KK
 go_enter Tryz.func100,Tryz.ntmps100
 go_wp2_with fail
 refine (Uh K).mono ?_
 rintro e w' ⟨rfl,hp⟩
 have HP:=Hj hp
 clear hp K
 go_wp2
 go_end0
 exact ⟨rfl,Uh HP⟩

set_option maxHeartbeats 800000 in
theorem into_hs {w:World} {bz oz nz cz:Nat} {a1:Option Addr} {n1 c1:Nat} {a2:Option Addr} {n2 c2:Nat} {v:Nat} (h:Nat) (hlt:n1 < n2) (h48:48 ≤ n1) (hh:(n2 + 1) / 2 = h) (hk:¬ (n1:Int) ≤ (h:Int)) (hbig:n1 + n2 ≤ 1000000000)
  (KK:Calls Tryz.prog 111 #[.slice (some ⟨bz,oz,none⟩) nz cz,.slice a2 n2 c2,.slice a1 n1 c1] w fun e w' => MulPost w bz oz nz v e w') :
  Calls Tryz.prog 100 #[.slice (some ⟨bz,oz,none⟩) nz cz,.slice a1 n1 c1,.slice a2 n2 c2] w fun e w' => MulPost w bz oz nz v e w':=by
 have K:=Hj KK
 have ht:(n1:Int) < (n2:Int):=by omega
 have ht2:¬ (n1:Int) < 48:=by omega
 have eh:((n2:Int) + 1).tdiv 2 = (h:Int):=by rw [Int.tdiv_eq_ediv_of_nonneg (by omega)]; omega
 have eh':((n2:Int) + 1) / 2 = (h:Int):=by omega
 clear KK
 go_enter Tryz.func100,Tryz.ntmps100
 go_wp2_with fail
 refine (Uh K).mono ?_
 rintro e w' ⟨rfl,hp⟩
 have HP:=Hj hp
 clear hp K
 go_wp2
 go_end0
 exact ⟨rfl,Uh HP⟩

theorem MulPre.some {w:World} {bz oz nz cz:Nat} {a1:Option Addr} {n1 c1:Nat} {xs:List Nat} {a2:Option Addr} {n2 c2:Nat} {ys:List Nat} (h:MulPre w bz oz nz cz a1 n1 c1 xs a2 n2 c2 ys) (h1:0 < n1) (h2:0 < n2):∃ b1 o1 b2 o2,a1 = some ⟨b1,o1,none⟩ ∧ a2 = some ⟨b2,o2,none⟩:=by
 have l1:=h.h1.len
 have l2:=h.h2.len
 rcases h.h1.cells with e | ⟨b1,o1,e1,_⟩
 ·subst e; simp at l1; omega
 ·rcases h.h2.cells with e | ⟨b2,o2,e2,_⟩
  ·subst e; simp at l2; omega
  ·exact ⟨b1,o1,b2,o2,e1,e2⟩

theorem mi_all:∀ N,N ≤ 1000000000 → MI N
 | 0,_ => fun w bz oz nz cz a1 n1 c1 xs a2 n2 c2 ys hN h => into_small h (.inl (by omega))
 | N + 1,hb => fun w bz oz nz cz a1 n1 c1 xs a2 n2 c2 ys hN h => by
  have IH:=mi_all N (by omega)
  have hnz:=h.hnz
  by_cases hs:n1 < 48 ∨ n2 < 48
  ·exact into_small h hs
  ·obtain ⟨b1,o1,b2,o2,rfl,rfl⟩:=h.some (by omega) (by omega)
   by_cases hlt:n1 < n2
   ·by_cases hk:2 * n1 ≤ n2 + 1
    ·refine into_ps _ hlt (by omega) rfl (by omega) (by omega) ?_
     rw [Nat.mul_comm (val xs)]
     exact pieces_some bz oz nz cz b2 o2 n2 c2 b1 o1 n1 c1 ys xs w h.swap (by omega) hk (by omega) N (by omega) IH
    ·refine into_hs _ hlt (by omega) rfl (by omega) (by omega) ?_
     rw [Nat.mul_comm (val xs)]
     exact halves_some bz oz nz cz b2 o2 n2 c2 b1 o1 n1 c1 ((n2 + 1) / 2) ys xs w h.swap (by omega) (by omega) (by omega) (by omega) (by omega) (by omega) N (by omega) IH
   ·by_cases hk:2 * n2 ≤ n1 + 1
    ·refine into_p _ (by omega) (by omega) rfl (by omega) (by omega) ?_
     exact pieces_some bz oz nz cz b1 o1 n1 c1 b2 o2 n2 c2 xs ys w h (by omega) hk (by omega) N (by omega) IH
    ·refine into_h _ (by omega) (by omega) rfl (by omega) (by omega) ?_
     exact halves_some bz oz nz cz b1 o1 n1 c1 b2 o2 n2 c2 ((n1 + 1) / 2) xs ys w h (by omega) (by omega) (by omega) (by omega) (by omega) (by omega) N (by omega) IH

theorem multiply_any (a1 a2:Option Addr) (n1 c1 n2 c2:Nat) (xs ys:List Nat) (w:World) (h1:Sl w a1 n1 c1 xs) (h2:Sl w a2 n2 c2 ys) (ox:Ok xs) (oy:Ok ys) (hb:n1 + n2 ≤ 1000000000) :
  Calls Tryz.prog 86 #[.slice a1 n1 c1,.slice a2 n2 c2] w fun e w' => NewRep w w' (val xs * val ys) e :=
 multiply_of a1 a2 n1 c1 n2 c2 xs ys w h1 h2 ox oy (by omega) (fun w bz oz nz cz h => mi_all 1000000000 (Nat.le_refl _) w bz oz nz cz a1 n1 c1 xs a2 n2 c2 ys hb h)

theorem nmul_any (a1 a2:Option Addr) (n1 c1 n2 c2:Nat) (xs ys:List Nat) (w:World) (h1:Sl w a1 n1 c1 xs) (h2:Sl w a2 n2 c2 ys) (ox:Ok xs) (oy:Ok ys) :
  Calls Tryz.prog 59 #[.slice a1 n1 c1,.slice a2 n2 c2] w fun e w' => Res2 w w' (mulL xs ys) e :=
 nmul_of a1 a2 n1 c1 n2 c2 xs ys w h1 h2 ox oy (fun m1 m2 => multiply_any a1 a2 n1 c1 n2 c2 xs ys w h1 h2 ox oy (by have:=h1.len; have:=h2.len; have:=MayL.len m1; have:=MayL.len m2; omega))
def gcdL (xs ys:List Nat):List Nat × Int:=if MayL xs && MayL ys then (limbs (Nat.gcd (val xs) (val ys)),0) else ([],20)
theorem newRep_res2 {w w':World} {v:Nat} {e:Ending} (h:NewRep w w' v e):∃ a m,e = .returned (.slice a m m) ∧ Sl w' a m m (limbs v) ∧ NewAt w.heap.size a ∧ Below w.heap.size w w':=by
 obtain ⟨a,m,ys,h1,h2,h3,h4,h5⟩:=h
 rw [h3.eq] at h2
 exact ⟨a,m,h1,h2,h4,h5⟩

set_option maxHeartbeats 2000000 in
theorem ngcd_any (a1 a2:Option Addr) (n1 c1 n2 c2:Nat) (xs ys:List Nat) (w:World) (h1:Sl w a1 n1 c1 xs) (h2:Sl w a2 n2 c2 ys) (ox:Ok xs) (oy:Ok ys) (hT:Tab64 w) :
  Calls Tryz.prog 88 #[.slice a1 n1 c1,.slice a2 n2 c2] w fun e w' => Res2 w w' (gcdL xs ys) e:=by
 have K1:=may_any a1 n1 c1 xs w h1
 have K2:=may_any a2 n2 c2 ys w h2
 by_cases m1:MayL xs = true
 ·by_cases m2:MayL ys = true
  ·rw [m1] at K1; rw [m2] at K2
   have K1':=Hj K1
   have K2':=Hj K2
   have hl1:n1 ≤ 2048:=by have:=h1.len; have:=MayL.len m1; omega
   have hl2:n2 ≤ 2048:=by have:=h2.len; have:=MayL.len m2; omega
   have HC:=Hj (show gcdL xs ys = (limbs (Nat.gcd (val xs) (val ys)),0) from by simp [gcdL,m1,m2])
   have KD:=Hj (divisor_any a1 a2 n1 c1 n2 c2 xs ys w h1 h2 ox oy (MayL.norm m1) (MayL.norm m2) hl1 hl2 hT)
   clear K1 K2 m1 m2 h1 h2 ox oy hT
   go_enter Tryz.func88,Tryz.ntmps88
   go_wp2_with fail
   refine (Uh K1').mono ?_
   rintro e w' ⟨rfl,hw⟩
   obtain rfl:=hw.symm
   go_wp2_with fail
   refine (Uh K2').mono ?_
   rintro e w' ⟨rfl,hw⟩
   obtain rfl:=hw.symm
   go_wp2_with fail
   refine (Uh KD).mono ?_
   intro e w1 hq
   obtain ⟨ag,mg,rfl,s1,q1,b1⟩:=newRep_res2 hq
   have HX:=Hj (And.intro s1 (And.intro q1 b1))
   clear hq s1 q1 b1 KD
   go_wp2
   go_ret2
   rw [Uh HC]
   exact ⟨ag,mg,mg,rfl,(Uh HX).1,(Uh HX).2.1,(Uh HX).2.2⟩
  ·have m2':MayL ys = false:=by simpa using m2
   rw [m1] at K1; rw [m2'] at K2
   have K1':=Hj K1
   have K2':=Hj K2
   have HC:=Hj (show gcdL xs ys = ([],20) from by simp [gcdL,m2'])
   clear K1 K2 m1 m2 m2' h1 h2 ox oy hT
   go_enter Tryz.func88,Tryz.ntmps88
   go_wp2_with fail
   refine (Uh K1').mono ?_
   rintro e w' ⟨rfl,hw⟩
   obtain rfl:=hw.symm
   go_wp2_with fail
   refine (Uh K2').mono ?_
   rintro e w' ⟨rfl,hw⟩
   obtain rfl:=hw.symm
   go_wp2
   go_ret2
   rw [Uh HC]
   exact ⟨none,0,0,rfl,sl_nil _,newAt_nil _,Below.refl _ _⟩
 ·have m1':MayL xs = false:=by simpa using m1
  rw [m1'] at K1
  have K1':=Hj K1
  have HC:=Hj (show gcdL xs ys = ([],20) from by simp [gcdL,m1'])
  clear K1 K2 m1 m1' h1 h2 ox oy hT
  go_enter Tryz.func88,Tryz.ntmps88
  go_wp2_with fail
  refine (Uh K1').mono ?_
  rintro e w' ⟨rfl,hw⟩
  obtain rfl:=hw.symm
  go_wp2
  go_ret2
  rw [Uh HC]
  exact ⟨none,0,0,rfl,sl_nil _,newAt_nil _,Below.refl _ _⟩

theorem may_div {xs:List Nat} (m:MayL xs = true) (ox:Ok xs) (d:Nat):MayL (limbs (val xs / d)) = true:=by
 refine MayL.mk (limbs_rep _).norm ?_
 have h1:(limbs (val xs / d)).length ≤ xs.length:=by
  refine rep_len_le (limbs_rep _) ?_
  exact Nat.lt_of_le_of_lt (Nat.div_le_self _ _) (val_lt ox)
 have:=MayL.len m
 omega
theorem may_small {xs:List Nat} (m:MayL xs = true) (ox:Ok xs) {v:Nat} (h:v ≤ val xs):MayL (limbs v) = true:=by
 refine MayL.mk (limbs_rep _).norm ?_
 have h1:(limbs v).length ≤ xs.length:=rep_len_le (limbs_rep _) (Nat.lt_of_le_of_lt h (val_lt ox))
 have:=MayL.len m
 omega
theorem val_pos_of_may {xs:List Nat} (m:MayL xs = true) (h:xs ≠ []):0 < val xs:=by
 have a:=val_ge_of_norm (MayL.norm m) h
 have b:=pow_pos (xs.length - 1)
 omega
theorem limbs_ne {v:Nat} (h:0 < v):limbs v ≠ []:=by
 intro e
 have:=(limbs_rep v).val
 rw [e] at this
 simp [val] at this
 omega

open Go.RowKit Go.Deep
set_option linter.unusedVariables false

structure RgR (wr w:World) (G k:Nat) (ax:Option Addr) (nx cx X:Nat) (ay:Option Addr) (ny cy Y:Nat):Prop where
 sx:Sl wr ax nx cx (limbs X)
 sy:Sl wr ay ny cy (limbs Y)
 mx:MayL (limbs X) = true
 my:MayL (limbs Y) = true
 hx:NewAt w.heap.size ax
 hy:NewAt w.heap.size ay
 gcd:Nat.gcd X Y = G
 bel:Below w.heap.size w wr
 lt:Y ≤ k

theorem divL_limbs {X Y:Nat} (mx:MayL (limbs X) = true) (my:MayL (limbs Y) = true) (hY:0 < Y):divL (limbs X) (limbs Y) = (limbs (X / Y),limbs (X % Y),0):=by
 simp [divL,mx,my,limbs_ne hY,(limbs_rep X).val,(limbs_rep Y).val]

theorem RgR.step {wr w w2:World} {G k:Nat} {ax ay:Option Addr} {nx cx X ny cy Y:Nat} (h:RgR wr w G k ax nx cx X ay ny cy Y) (hY:0 < Y) {e:Ending} (hr:Res4w wr w2 (divL (limbs X) (limbs Y)) e) :
  ∃ aq mq cq ar mr cr,e = .returned (.tuple #[.slice aq mq cq,.slice ar mr cr,.int .i64 0]) ∧ X % Y < k ∧ RgR w2 w G (X % Y) ay ny cy Y ar mr cr (X % Y):=by
 rw [divL_limbs h.mx h.my hY] at hr
 obtain ⟨aq,mq,cq,ar,mr,cr,rfl,s1,q1,s2,q2,hB⟩:=hr
 have hml:=Nat.mod_lt X hY
 refine ⟨aq,mq,cq,ar,mr,cr,rfl,by have:=h.lt; omega,h.sy.below hB,s2,h.my,?_,h.hy,fun x hx => Nat.le_trans h.bel.size (q2 x hx),?_,h.bel.trans (hB.mono h.bel.size),Nat.le_refl _⟩
 ·have:=may_small h.my (limbs_rep Y).ok (v:=X % Y) (by rw [(limbs_rep Y).val]; omega)
  exact this
 ·rw [Nat.gcd_comm,← Nat.gcd_rec,Nat.gcd_comm,h.gcd]

set_option maxHeartbeats 4000000 in
theorem rgcd_core (a1 a2:Option Addr) (n1 c1 n2 c2:Nat) (xs ys:List Nat) (w:World) (h1:Sl w a1 n1 c1 xs) (h2:Sl w a2 n2 c2 ys) (ox:Ok xs) (oy:Ok ys) (m1:MayL xs = true) (m2:MayL ys = true) :
  Calls Tryz.prog 52 #[.slice a1 n1 c1,.slice a2 n2 c2] w fun e w' => Res2 w w' (limbs (Nat.gcd (val xs) (val ys)),0) e:=by
 have K1:=rmay_any a1 n1 c1 xs w h1
 have K2:=rmay_any a2 n2 c2 ys w h2
 rw [m1] at K1; rw [m2] at K2
 have K1':=Hj K1
 have K2':=Hj K2
 have hl1:n1 ≤ 2048:=by have:=h1.len; have:=MayL.len m1; omega
 have hl2:n2 ≤ 2048:=by have:=h2.len; have:=MayL.len m2; omega
 have KT:=Hj (rtrim_any a1 n1 c1 xs w h1 ox (by omega))
 have H2:=Hj h2
 have hM1:=Hj (show MayL (limbs (val xs)) = true from may_small m1 ox (Nat.le_refl _))
 have hM2:=Hj (show MayL (limbs (val ys)) = true from may_small m2 oy (Nat.le_refl _))
 obtain ⟨G,hG⟩:∃ G,Nat.gcd (val xs) (val ys) = G:=⟨_,rfl⟩
 rw [hG]
 have HG:=Hj hG
 clear K1 K2 h1 h2 m1 m2 hG
 go_enter Tryz.func52,Tryz.ntmps52
 go_wp2_with fail
 refine (Uh K1').mono ?_
 rintro e w' ⟨rfl,hw⟩
 obtain rfl:=hw.symm
 go_wp2_with fail
 refine (Uh K2').mono ?_
 rintro e w' ⟨rfl,hw⟩
 obtain rfl:=hw.symm
 clear K1' K2'
 go_wp2_with fail
 refine (Uh KT).mono ?_
 rintro e w1 ⟨ax,mx,zx,rfl,sx,rx,qx,bx⟩
 rw [rx.eq] at sx
 have KT2:=Hj (rtrim_any a2 n2 c2 ys w1 ((Uh H2).below bx) oy (by omega))
 have HX:=Hj (And.intro sx (And.intro qx bx))
 clear sx rx qx bx KT
 go_wp2_with fail
 refine (Uh KT2).mono ?_
 rintro e w2 ⟨ay,my,zy,rfl,sy,ry,qy,by'⟩
 rw [ry.eq] at sy
 have HR0:=Hj (show RgR w2 w G (val ys) ax mx mx (val xs) ay my my (val ys) from by
  obtain ⟨sx,qx,bx⟩:=Uh HX
  exact ⟨sx.below by',sy,Uh hM1,Uh hM2,qx,fun x hx => Nat.le_trans bx.size (qy x hx),Uh HG,bx.trans (by'.mono bx.size),Nat.le_refl _⟩)
 clear sy ry qy by' KT2 HX H2 hM1 hM2 HG
 go_wp2_with fail
 go_loopg [6,7] (val ys) (fun k xv yv wr => ∃ ax nx cx X ay ny cy Y,xv = .slice ax nx cx ∧ yv = .slice ay ny cy ∧ RgR wr w G k ax nx cx X ay ny cy Y)
 case atStart => exact ⟨_,_,_,_,_,_,_,_,rfl,rfl,Uh HR0⟩
 case round =>
  clear HR0
  obtain ⟨ax,nx,cx,X,ay,ny,cy,Y,rfl,rfl,hR⟩:=hrel
  by_cases hz:ny = 0
  ·subst hz
   have hy:limbs Y = []:=List.eq_nil_of_length_eq_zero hR.sy.len
   have hY:Y = 0:=by have:=(limbs_rep Y).val; rw [hy] at this; simp [val] at this; exact this.symm
   have hg:G = X:=by have:=hR.gcd; rw [hY,Nat.gcd_zero_right] at this; exact this.symm
   have HN:=Hj (And.intro (show Sl wr ax nx cx (limbs G) from by rw [hg]; exact hR.sx) (And.intro hR.hx hR.bel))
   clear hR hy hY hg
   go_wp2_with fail
   go_ret2
   exact ⟨ax,nx,cx,rfl,(Uh HN).1,(Uh HN).2.1,(Uh HN).2.2⟩
  ·have t1:(0:Int) < (ny:Int):=by omega
   have hY:0 < Y:=by
    rcases Nat.eq_zero_or_pos Y with e | e
    ·exfalso
     have:=hR.sy.len
     rw [e,show limbs 0 = [] from rfl] at this
     simp at this
     omega
    ·exact e
   have KD:=Hj (rdivmod_any ax ay nx cx ny cy (limbs X) (limbs Y) wr hR.sx hR.sy (limbs_rep X).ok (limbs_rep Y).ok)
   have HR:=Hj hR
   have HY:=Hj hY
   clear hR hY
   go_wp2_with fail
   refine (Uh KD).mono ?_
   intro e w5 hq
   obtain ⟨aq,mq,cq,ar,mr,cr,rfl,hk,hD⟩:=(Uh HR).step (Uh HY) hq
   have HD:=Hj hD
   have HK:=Hj hk
   clear hq hD hk KD HR HY
   generalize X % Y = rr at *
   go_wp2_with fail
   go_roundg rr
   case measure => exact Uh HK
   case rel => exact ⟨_,_,_,_,_,_,_,_,rfl,rfl,Uh HD⟩

set_option maxHeartbeats 2000000 in
theorem rgcd_any (a1 a2:Option Addr) (n1 c1 n2 c2:Nat) (xs ys:List Nat) (w:World) (h1:Sl w a1 n1 c1 xs) (h2:Sl w a2 n2 c2 ys) (ox:Ok xs) (oy:Ok ys) :
  Calls Tryz.prog 52 #[.slice a1 n1 c1,.slice a2 n2 c2] w fun e w' => Res2 w w' (gcdL xs ys) e:=by
 have K1:=rmay_any a1 n1 c1 xs w h1
 have K2:=rmay_any a2 n2 c2 ys w h2
 by_cases m1:MayL xs = true
 ·by_cases m2:MayL ys = true
  ·rw [show gcdL xs ys = (limbs (Nat.gcd (val xs) (val ys)),0) from by simp [gcdL,m1,m2]]
   exact rgcd_core a1 a2 n1 c1 n2 c2 xs ys w h1 h2 ox oy m1 m2
  ·have m2':MayL ys = false:=by simpa using m2
   rw [m1] at K1; rw [m2'] at K2
   have K1':=Hj K1
   have K2':=Hj K2
   have HC:=Hj (show gcdL xs ys = ([],20) from by simp [gcdL,m2'])
   clear K1 K2 m1 m2 m2' h1 h2 ox oy
   go_enter Tryz.func52,Tryz.ntmps52
   go_wp2_with fail
   refine (Uh K1').mono ?_
   rintro e w' ⟨rfl,hw⟩
   obtain rfl:=hw.symm
   go_wp2_with fail
   refine (Uh K2').mono ?_
   rintro e w' ⟨rfl,hw⟩
   obtain rfl:=hw.symm
   go_wp2
   go_ret2
   rw [Uh HC]
   exact ⟨none,0,0,rfl,sl_nil _,newAt_nil _,Below.refl _ _⟩
 ·have m1':MayL xs = false:=by simpa using m1
  rw [m1'] at K1
  have K1':=Hj K1
  have HC:=Hj (show gcdL xs ys = ([],20) from by simp [gcdL,m1'])
  clear K1 K2 m1 m1' h1 h2 ox oy
  go_enter Tryz.func52,Tryz.ntmps52
  go_wp2_with fail
  refine (Uh K1').mono ?_
  rintro e w' ⟨rfl,hw⟩
  obtain rfl:=hw.symm
  go_wp2
  go_ret2
  rw [Uh HC]
  exact ⟨none,0,0,rfl,sl_nil _,newAt_nil _,Below.refl _ _⟩
def digitN (c:Nat):Nat:=if 48 ≤ c ∧ c ≤ 57 then c - 48 else if 97 ≤ c ∧ c ≤ 122 then c - 97 + 10 else if 65 ≤ c ∧ c ≤ 90 then c - 65 + 10 else 36
theorem digitN_le (c:Nat):digitN c ≤ 36:=by
 unfold digitN
 split
 ·omega
 ·split
  ·omega
  ·split <;> omega
theorem digit_ways (c:Nat):(c < 48 ∧ digitN c = 36) ∨ (48 ≤ c ∧ c ≤ 57 ∧ (digitN c:Int) = c - 48) ∨ (57 < c ∧ c < 65 ∧ digitN c = 36) ∨ (65 ≤ c ∧ c ≤ 90 ∧ (digitN c:Int) = c - 65 + 10) ∨ (90 < c ∧ c < 97 ∧ digitN c = 36) ∨ (97 ≤ c ∧ c ≤ 122 ∧ (digitN c:Int) = c - 97 + 10) ∨ (122 < c ∧ digitN c = 36):=by
 unfold digitN
 split
 ·right; left; omega
 ·split
  ·right; right; right; right; right; left; omega
  ·split
   ·right; right; right; left; omega
   ·omega

set_option maxHeartbeats 4000000 in
theorem ndigit_any (c:Nat) (hc:c < 256) (w:World) :
  Calls Tryz.prog 94 #[.int .u8 (c:Nat)] w fun e w' => e = .returned (.int .i64 (digitN c:Nat)) ∧ w' = w:=by
 have HW:=digit_ways c
 generalize digitN c = D at HW ⊢
 rcases HW with ⟨h1,rfl⟩ | ⟨h1,h2,h3⟩ | ⟨h1,h2,rfl⟩ | ⟨h1,h2,h3⟩ | ⟨h1,h2,rfl⟩ | ⟨h1,h2,h3⟩ | ⟨h1,rfl⟩
 ·have a1:(c:Int) < 48:=by omega
  clear h1
  go_enter Tryz.func94,Tryz.ntmps94
  go_wp2_with fail
  go_ret
  exact ⟨rfl,rfl⟩
 ·have a1:48 ≤ (c:Int):=by omega
  have a2:(c:Int) ≤ 57:=by omega
  have H3:=Hj h3
  clear h1 h2 h3
  go_enter Tryz.func94,Tryz.ntmps94
  go_wp2_with fail
  go_ret
  exact ⟨by rw [Uh H3]; rfl,rfl⟩
 ·have a1:57 < (c:Int):=by omega
  have a2:(c:Int) < 65:=by omega
  clear h1 h2
  go_enter Tryz.func94,Tryz.ntmps94
  go_wp2_with fail
  go_ret
  exact ⟨rfl,rfl⟩
 ·have a1:65 ≤ (c:Int):=by omega
  have a2:(c:Int) ≤ 90:=by omega
  have H3:=Hj h3
  clear h1 h2 h3
  go_enter Tryz.func94,Tryz.ntmps94
  go_wp2_with fail
  go_ret
  exact ⟨by rw [Uh H3]; rfl,rfl⟩
 ·have a1:90 < (c:Int):=by omega
  have a2:(c:Int) < 97:=by omega
  clear h1 h2
  go_enter Tryz.func94,Tryz.ntmps94
  go_wp2_with fail
  go_ret
  exact ⟨rfl,rfl⟩
 ·have a1:97 ≤ (c:Int):=by omega
  have a2:(c:Int) ≤ 122:=by omega
  have H3:=Hj h3
  clear h1 h2 h3
  go_enter Tryz.func94,Tryz.ntmps94
  go_wp2_with fail
  go_ret
  exact ⟨by rw [Uh H3]; rfl,rfl⟩
 ·have a1:122 < (c:Int):=by omega
  clear h1
  go_enter Tryz.func94,Tryz.ntmps94
  go_wp2_with fail
  go_ret
  exact ⟨rfl,rfl⟩

set_option maxHeartbeats 4000000 in
theorem rdigit_any (c:Nat) (hc:c < 256) (w:World) :
  Calls Tryz.prog 48 #[.int .u8 (c:Nat)] w fun e w' => e = .returned (.int .i64 (digitN c:Nat)) ∧ w' = w:=by
 have HW:=digit_ways c
 generalize digitN c = D at HW ⊢
 rcases HW with ⟨h1,rfl⟩ | ⟨h1,h2,h3⟩ | ⟨h1,h2,rfl⟩ | ⟨h1,h2,h3⟩ | ⟨h1,h2,rfl⟩ | ⟨h1,h2,h3⟩ | ⟨h1,rfl⟩
 ·have a1:(c:Int) < 48:=by omega
  clear h1
  go_enter Tryz.func48,Tryz.ntmps48
  go_wp2_with fail
  go_ret
  exact ⟨rfl,rfl⟩
 ·have a1:48 ≤ (c:Int):=by omega
  have a2:(c:Int) ≤ 57:=by omega
  have H3:=Hj h3
  clear h1 h2 h3
  go_enter Tryz.func48,Tryz.ntmps48
  go_wp2_with fail
  go_ret
  exact ⟨by rw [Uh H3]; rfl,rfl⟩
 ·have a1:57 < (c:Int):=by omega
  have a2:(c:Int) < 65:=by omega
  clear h1 h2
  go_enter Tryz.func48,Tryz.ntmps48
  go_wp2_with fail
  go_ret
  exact ⟨rfl,rfl⟩
 ·have a1:65 ≤ (c:Int):=by omega
  have a2:(c:Int) ≤ 90:=by omega
  have H3:=Hj h3
  clear h1 h2 h3
  go_enter Tryz.func48,Tryz.ntmps48
  go_wp2_with fail
  go_ret
  exact ⟨by rw [Uh H3]; rfl,rfl⟩
 ·have a1:90 < (c:Int):=by omega
  have a2:(c:Int) < 97:=by omega
  clear h1 h2
  go_enter Tryz.func48,Tryz.ntmps48
  go_wp2_with fail
  go_ret
  exact ⟨rfl,rfl⟩
 ·have a1:97 ≤ (c:Int):=by omega
  have a2:(c:Int) ≤ 122:=by omega
  have H3:=Hj h3
  clear h1 h2 h3
  go_enter Tryz.func48,Tryz.ntmps48
  go_wp2_with fail
  go_ret
  exact ⟨by rw [Uh H3]; rfl,rfl⟩
 ·have a1:122 < (c:Int):=by omega
  clear h1
  go_enter Tryz.func48,Tryz.ntmps48
  go_wp2_with fail
  go_ret
  exact ⟨rfl,rfl⟩

open Go.RowKit Go.Deep
set_option linter.unusedVariables false

structure Chunk (b c:Nat):Prop where
 pos:1 ≤ c
 le:c ≤ 31
 lt:b ^ c < 4294967296
 ge:4294967296 ≤ b ^ c * b

def ChPost (b:Nat) (w:World) (e:Ending) (w':World):Prop :=
 ∃ c,Chunk b c ∧ e = .returned (.tuple #[.int .i64 (c:Nat),.int .u32 (b ^ c:Nat)]) ∧ w' = w

theorem chunk_le {b c:Nat} (hb:2 ≤ b) (h:b ^ c < 4294967296):c ≤ 31:=by
 have h1:2 ^ c ≤ b ^ c:=Nat.pow_le_pow_left hb c
 have h2:2 ^ c < 2 ^ 32:=Nat.lt_of_le_of_lt h1 h
 have:=(Nat.pow_lt_pow_iff_right (by decide:1 < 2)).1 h2
 omega

set_option maxHeartbeats 4000000 in
theorem chunk_any (b:Nat) (hb:2 ≤ b) (hb2:b ≤ 36) (w:World) :
  Calls Tryz.prog 95 #[.int .i64 (b:Nat)] w fun e w' => ChPost b w e w':=by
 go_enter Tryz.func95,Tryz.ntmps95
 go_wp2_with fail
 go_loop [4,5] (fun cv wv => ∃ c:Nat,1 ≤ c ∧ b ^ c < 4294967296 ∧ cv = .int .i64 (c:Nat) ∧ wv = .int .u64 (b ^ c:Nat)) (fun cv _ => 32 - (intOf cv).toNat)
 case atStart => exact ⟨1,Nat.le_refl _,by simp; omega,rfl,by simp⟩
 case round =>
  obtain ⟨c,hc,hlt,rfl,rfl⟩:=hrel
  have hc31:=chunk_le hb hlt
  have hb36:b ^ c * b ≤ b ^ c * 36:=Nat.mul_le_mul_left _ hb2
  obtain ⟨p,hp⟩:∃ p,b ^ c * b = p:=⟨_,rfl⟩
  have hp1:b ^ (c + 1) = p:=by rw [Nat.pow_succ,hp]
  obtain ⟨W,hW⟩:∃ W,b ^ c = W:=⟨_,rfl⟩
  rw [hW] at hb36 hlt hp
  have e1:(W:Int) * (b:Int) = (p:Int):=by rw [← hp,Int.natCast_mul]
  rw [hp] at hb36
  have hp64:p < 18446744073709551616:=by omega
  have HW:=Hj hW
  have HP:=Hj hp1
  have HQ:=Hj hp
  by_cases hs:p < 4294967296
  ·have q1:(p:Int) / 4294967296 = 0:=by omega
   rw [hW]
   clear hW hp1 hp
   go_wp2_with fail
   exact ⟨⟨c + 1,by omega,by rw [Uh HP]; exact hs,by go_num,by rw [Uh HP]⟩,by simp [intOf]; omega⟩
  ·obtain ⟨q,hq⟩:∃ q,p / 4294967296 = q:=⟨_,rfl⟩
   have q1:(p:Int) / 4294967296 = (q:Int):=by omega
   have q2:((q:Int) == 0) = false:=by simp; omega
   have q3:¬ (q:Int) = 0:=by omega
   rw [hW]
   clear hW hp1 hp hq
   go_wp2_with fail
   go_ret2
   have HR:b ^ c * b = p:=by rw [Uh HW]; exact Uh HQ
   refine ⟨c,⟨hc,hc31,by rw [Uh HW]; exact hlt,by rw [HR]; omega⟩,by rw [Uh HW]; rfl,rfl⟩

set_option maxHeartbeats 4000000 in
theorem isBase_any (b:Int) (w:World) :
  Calls Tryz.prog 78 #[.int .i64 b] w fun e w' => e = .returned (.bool (decide (2 ≤ b ∧ b ≤ 36))) ∧ w' = w:=by
 by_cases h1:2 ≤ b
 ·by_cases h2:b ≤ 36
  ·go_enter Tryz.func78,Tryz.ntmps78
   go_wp2_with fail
   go_ret
   simp [h1,h2]
  ·go_enter Tryz.func78,Tryz.ntmps78
   go_wp2_with fail
   go_ret
   simp; omega
 ·go_enter Tryz.func78,Tryz.ntmps78
  go_wp2_with fail
  go_ret
  simp; omega
end Go.Proofs.YtjoaijbhpgekoaaGreatDoor
