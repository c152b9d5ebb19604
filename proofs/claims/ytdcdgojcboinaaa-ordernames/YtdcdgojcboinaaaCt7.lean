/-
  ORDERS: OrderNames of a graph and two orders.
-/
import Derived.Test.YtdcdgojcboinaaaCt6
namespace Go.Proofs.Ytdcdgojcboinaaa
open Go.Shelf Go.RowKit Go.Deep
set_option linter.unusedVariables false

set_option maxRecDepth 100000 in
set_option maxHeartbeats 16000000 in
/-- OrderNames of a graph and two orders. -/
theorem names_gr (R : Nat) (a1 a2 : Option Addr) (n1 c1 n2 c2 : Nat) (st cols : List Int) (a : Option Addr) (m c : Nat) (xs : List Int) (a' : Option Addr) (m' c' : Nat) (ys : List Int) (w : World) (h1 : SlI w a1 n1 c1 st) (h2 : SlI w a2 n2 c2 cols) (h3 : SlI w a m c xs) (h4 : SlI w a' m' c' ys) (hb1 : n1 ≤ 17592186044000) (hb2 : n2 ≤ 17592186044000) (hm : MayP (R : Int) (R : Int) st cols) (hg : GraP st cols R R) (hx : IsOrd xs R) (hy : IsOrd ys R) :
    Calls Try.prog 4 #[patV (R : Int) (R : Int) a1 n1 c1 a2 n2 c2, .slice a m c, .slice a' m' c'] w fun e w' => e = .returned (.bool true) ∧ Below w.heap.size w w' := by
  have hR : R ≤ 128 := by have := hm.head.fit; omega
  obtain rfl : m = R := by have := h3.len; have := hx.1; omega
  obtain ⟨R, hRR⟩ : ∃ x, x = m := ⟨_, rfl⟩
  subst hRR
  obtain rfl : m' = R := by have := h4.len; have := hy.1; omega
  obtain ⟨R, hRR⟩ : ∃ x, x = m' := ⟨_, rfl⟩
  subst hRR
  have hdg : ∀ v, v < R → (rowL st cols v).length < R := fun v hv => deg_lt hm hg hv
  have hok := peO_all hm hg
  have hrn := rn_of hm hg hx
  have hgr : IsGr (R : Int) (R : Int) st cols := ⟨R, rfl, rfl, hm, hg⟩
  obtain ⟨wb, hwb⟩ : ∃ x, w.alloc (.cells #[.int .i64 (R : Int), .int .i64 (R : Int), .slice a1 n1 c1, .slice a2 n2 c2] 24) = x := ⟨_, rfl⟩
  have bb : Below w.heap.size w wb := by rw [← hwb]; exact (Below.refl _ _).alloc (Nat.le_refl _) _
  have hT := BoxP.made w #[.int .i64 (R : Int), .int .i64 (R : Int), .slice a1 n1 c1, .slice a2 n2 c2] 24
  rw [hwb] at hT
  have p0 := (hT.all 0 _ rfl).1
  have p1 := (hT.all 1 _ rfl).1
  have p2 := (hT.all 2 _ rfl).1
  have p3 := (hT.all 3 _ rfl).1
  have K2 := hide (wowrong_any (R : Int) (R : Int) a1 a2 n1 c1 n2 c2 st cols wb (h1.below bb) (h2.below bb) hb1 hb2 true ⟨fun _ => hgr, fun _ => rfl⟩)
  have K3 := hide (fun (W : World) (b : Below w.heap.size w W) => wocheck_in a R c xs R W (h3.below b) (by omega) hR true ⟨fun _ => hx, fun _ => rfl⟩)
  have K4 := hide (fun (W : World) (b : Below w.heap.size w W) => wocheck_in a' R c' ys R W (h4.below b) (by omega) hR true ⟨fun _ => hy, fun _ => rfl⟩)
  have K5 := hide (fun (W : World) (b : Below w.heap.size w W) => orenamed_any R a1 a2 n1 c1 n2 c2 st cols a R c xs (ftN xs) W (h1.below b) (h2.below b) (h3.below b) hb1 hb2 hm rfl (fun i hi => ftN_at hx hi))
  have K6 := hide (fun (W : World) (b : Below w.heap.size w W) => odegen_all R a1 a2 n1 c1 n2 c2 st cols W (h1.below b) (h2.below b) hb1 hb2 hm hg hdg hok)
  have K8 := hide (fun (W : World) (b : Below w.heap.size w W) (a : Option Addr) (c : Nat) (h3 : SlI W a R c (thL xs ys R)) => oBack_gr R a1 a2 n1 c1 n2 c2 st cols a R c (thL xs ys R) W (h1.below b) (h2.below b) h3 hb1 hb2 (by omega) hm hg true ⟨fun _ => thL_ord hx hy, fun _ => rfl⟩)
  have HS := hide (And.intro h3 h4)
  have HXY := hide (And.intro hx hy)
  have HM := hide (And.intro hm hg)
  obtain ⟨S, hS⟩ : ∃ S, grS (fun i k => InC st cols (ftN xs k) (ftN xs i)) R R = S := ⟨_, rfl⟩
  obtain ⟨C, hC⟩ : ∃ C, grC (fun i k => InC st cols (ftN xs k) (ftN xs i)) R R = C := ⟨_, rfl⟩
  rw [hS, hC] at hrn
  rw [hS, hC] at K5
  have hSl : S.length ≤ 17592186044000 := by rw [← hS, grS_len]; omega
  have hCl : C.length ≤ 17592186044000 := by
    have h5 := grC_len (fun i k => InC st cols (ftN xs k) (ftN xs i)) R R
    have h6 : R * R ≤ 128 * 128 := Nat.mul_le_mul hR hR
    rw [← hC]
    omega
  have HRN := hide hrn
  have K7 := hide (fun (W : World) (b1 b2 : Option Addr) (d1 d2 : Nat) (g1 : SlI W b1 S.length d1 S) (g2 : SlI W b2 C.length d2 C) => odegen_all R b1 b2 S.length d1 C.length d2 S C W g1 g2 hSl hCl hrn.hm' hrn.hg' (fun v hv => deg_lt hrn.hm' hrn.hg' hv) (peO_all hrn.hm' hrn.hg'))
  have K9 := hide (fun (W : World) (b1 b2 : Option Addr) (d1 d2 : Nat) (g1 : SlI W b1 S.length d1 S) (g2 : SlI W b2 C.length d2 C) (g3 : SlI W a' R c' ys) => oBack_gr R b1 b2 S.length d1 C.length d2 S C a' R c' ys W g1 g2 g3 hSl hCl (by omega) hrn.hm' hrn.hg' true ⟨fun _ => hy, fun _ => rfl⟩)
  unfold GpP at K5
  unfold patV at K2 K5 K6 K7 K8 K9
  have HB := hide bb
  have HT := hide hT
  clear hT bb h1 h2 h3 h4 hgr hm hg hx hy hdg hok hrn hS hC
  unfold patV
  go_enter Try.func4, Try.ntmps4
  go_wp2_with fail
  refine (unhide K2).mono ?_
  rintro _ w3 ⟨rfl, b3⟩
  have HB3 := hide ((unhide HB).trans (b3.mono (unhide HB).size))
  have HT3 := hide ((unhide HT).below b3)
  clear K2 b3 p0 p1 p2 p3
  have p0 := ((unhide HT3).all 0 _ rfl).1
  go_wp2_with fail
  refine (unhide K3 w3 (unhide HB3)).mono ?_
  rintro _ w4 ⟨rfl, b4⟩
  unfold chkE
  have HB4 := hide ((unhide HB3).trans (b4.mono (unhide HB3).size))
  have HT4 := hide ((unhide HT3).below b4)
  clear K3 b4 p0
  have p0 := ((unhide HT4).all 0 _ rfl).1
  go_wp2_with fail
  refine (unhide K4 w4 (unhide HB4)).mono ?_
  rintro _ w5 ⟨rfl, b5⟩
  unfold chkE
  have HB5 := hide ((unhide HB4).trans (b5.mono (unhide HB4).size))
  have HT5 := hide ((unhide HT4).below b5)
  clear K4 b5 p0 HT3 HT4 HB3 HB4
  have p0 := ((unhide HT5).all 0 _ rfl).1
  have p1 := ((unhide HT5).all 1 _ rfl).1
  have p2 := ((unhide HT5).all 2 _ rfl).1
  have p3 := ((unhide HT5).all 3 _ rfl).1
  go_wp2_with fail
  refine (unhide K5 w5 (unhide HB5)).mono ?_
  rintro _ w6 ⟨b1, d1, b2, d2, rfl, hs1, hs2, b6, hz1, hz2⟩
  obtain ⟨w7, hw7⟩ : ∃ x, w6.alloc (.cells #[.int .i64 (R : Int), .int .i64 (R : Int), .slice b1 S.length d1, .slice b2 C.length d2] 24) = x := ⟨_, rfl⟩
  have bb7 : Below w6.heap.size w6 w7 := by rw [← hw7]; exact (Below.refl _ _).alloc (Nat.le_refl _) _
  have hT7 := BoxP.made w6 #[.int .i64 (R : Int), .int .i64 (R : Int), .slice b1 S.length d1, .slice b2 C.length d2] 24
  rw [hw7] at hT7
  have HB6 := hide ((unhide HB5).trans (b6.mono (unhide HB5).size))
  have HB7 := hide ((unhide HB6).trans (bb7.mono (unhide HB6).size))
  have HT7 := hide (((unhide HT5).below b6).below bb7)
  have HU7 := hide hT7
  have HQ7 := hide (And.intro (hs1.below bb7) (hs2.below bb7))
  have HW7 := hide hw7
  clear K5 b6 p0 p1 p2 p3 bb7 hT7 hs1 hs2 hz1 hz2 hw7
  try dsimp only
  repeat ((fail_if_success (with_reducible (show Code.wp _ _ _ _ (World.alloc w6 (Obj.cells #[_, _, _, .slice b2 _ _] _))))); (first | go_values | go_skip | go_guarded | go_step | go_upon | go_back))
  rw [unhide HW7]
  obtain ⟨X, hX⟩ : ∃ X, w6.heap.size = X := ⟨_, rfl⟩
  rw [hX]
  rw [hX] at HU7
  clear hX HW7
  have p0 := ((unhide HT7).all 0 _ rfl).1
  have p1 := ((unhide HT7).all 1 _ rfl).1
  have p2 := ((unhide HT7).all 2 _ rfl).1
  have p3 := ((unhide HT7).all 3 _ rfl).1
  go_wp2_with fail
  refine (unhide K6 w7 (unhide HB7)).mono ?_
  rintro _ w8 ⟨v, g, hgw, rfl, hr, hmx, b8⟩
  have hv := degen_is (unhide HM).1 (unhide HM).2 hmx
  obtain ⟨D, hD⟩ : ∃ D, dgN R st cols = D := ⟨_, rfl⟩
  rw [hD] at hv
  subst hv
  have HR8 := hide (show RoV w8 g R (fun v => .int .i64 (coV R st cols v : Int)) from hr)
  have HB8 := hide ((unhide HB7).trans (b8.mono (unhide HB7).size))
  have HT8 := hide ((unhide HT7).below b8)
  have HU8 := hide ((unhide HU7).below b8)
  have HQ8 := hide (And.intro ((unhide HQ7).1.below b8) ((unhide HQ7).2.below b8))
  clear K6 b8 p0 p1 p2 p3 hr hmx hgw
  have u0 := ((unhide HU8).all 0 _ rfl).1
  have u1 := ((unhide HU8).all 1 _ rfl).1
  have u2 := ((unhide HU8).all 2 _ rfl).1
  have u3 := ((unhide HU8).all 3 _ rfl).1
  go_wp2_with fail
  refine (unhide K7 w8 b1 b2 d1 d2 (unhide HQ8).1 (unhide HQ8).2).mono ?_
  rintro _ w9 ⟨v, g', hgw, rfl, hr, hmx, b9⟩
  have hv := degen_is (unhide HRN).hm' (unhide HRN).hg' hmx
  rw [(unhide HRN).dg, hD] at hv
  subst hv
  have HR9 := hide (show RoV w9 g' R (fun v => .int .i64 (coV R st cols (ftN xs v) : Int)) from (show RoV w9 g' R (fun v => .int .i64 (coV R S C v : Int)) from hr).congr (fun u hu => by rw [(unhide HRN).co hu]))
  have HA9 := hide ((unhide HR8).below b9)
  have HB9 := hide ((unhide HB8).trans (b9.mono (unhide HB8).size))
  have HT9 := hide ((unhide HT8).below b9)
  have HU9 := hide ((unhide HU8).below b9)
  have HQ9 := hide (And.intro ((unhide HQ8).1.below b9) ((unhide HQ8).2.below b9))
  clear K7 b9 u0 u1 u2 u3 hr hmx hgw hD HR8 HB8 HT8 HU8 HQ8 HB7 HT7 HU7 HQ7
  have p0 := ((unhide HT9).all 0 _ rfl).1
  have e1 : ((D : Int) == (D : Int)) = true := by simp
  have e2 : ((R : Int) == (R : Int)) = true := by simp
  go_wp2_with ((go_at_call 7; refine (num11_any _ _).mono ?_; rintro _ wn ⟨rfl, hwn⟩; rw [hwn]; clear hwn wn))
  clear p0 e1 e2
  obtain ⟨cf, hcf⟩ : ∃ cf : Nat → Nat, coV R st cols = cf := ⟨_, rfl⟩
  rw [hcf] at HR9 HA9
  clear hcf
  have HN9 := hide (show ∀ W, Below w9.heap.size w9 W → BoxP W w.heap.size [.int .i64 (R : Int), .int .i64 (R : Int), .slice a1 n1 c1, .slice a2 n2 c2] ∧ BoxP W X [.int .i64 (R : Int), .int .i64 (R : Int), .slice b1 S.length d1, .slice b2 C.length d2] ∧ SlI W b1 S.length d1 S ∧ SlI W b2 C.length d2 C ∧ SlI W a R c xs ∧ SlI W a' R c' ys ∧ RoV W g' R (fun v => .int .i64 (cf (ftN xs v) : Int)) ∧ RoV W g R (fun v => .int .i64 (cf v : Int)) ∧ Below w.heap.size w W from fun W k => ⟨(unhide HT9).below k, (unhide HU9).below k, (unhide HQ9).1.below k, (unhide HQ9).2.below k, ((unhide HS).1.below (unhide HB9)).below k, ((unhide HS).2.below (unhide HB9)).below k, (unhide HR9).below k, (unhide HA9).below k, (unhide HB9).trans (k.mono (unhide HB9).size)⟩)
  clear HT9 HU9 HQ9 HR9 HA9
  obtain ⟨i64, hi, hz, hs, hb⟩ := info_parts Try.info_i64
  have HI := hide (And.intro hi (And.intro hz (And.intro hs hb)))
  have hone : ∀ y : Int, ∀ z ∈ [Value.int .i64 y], z.oneCell' = true := by intro y z hz; simp at hz; subst hz; rfl
  clear hi hz hs hb
  go_loopw [15, 14] (fun kv tv wr => ∃ k : Nat, k ≤ R ∧ kv = .int .i64 (k : Int) ∧ Hid (ThI w9 wr w9.heap.size tv (thL xs ys k))) (fun kv _ _ => R - (intOf kv).toNat)
  case atStart => exact ⟨0, Nat.zero_le _, rfl, hide ⟨World.ownsRow_nil _ _ _ _, Below.refl _ _, Nat.le_refl _⟩⟩
  case round =>
    obtain ⟨k, hk, rfl, HK⟩ := hrel
    have hbx := unhide HN9 wr (unhide HK).bel
    have p0 := (hbx.1.all 0 _ rfl).1
    by_cases hlt : k < R
    · have hlt' : (k : Int) < (R : Int) := by omega
      obtain ⟨ex, lx⟩ := ftN_at (unhide HXY).1 hlt
      obtain ⟨ey, ly⟩ := ftN_at (unhide HXY).2 hlt
      obtain ⟨bX, oX, hax, hcX⟩ := hbx.2.2.2.2.1.at (by omega)
      obtain ⟨bY, oY, hay, hcY⟩ := hbx.2.2.2.2.2.1.at (by omega)
      subst hax hay
      have s1 := hcX k hlt
      have s2 := hcY k hlt
      have s3 := hcX (ftN ys k) ly
      have s4 := (hbx.2.2.2.2.2.2.1 k hlt).1
      have s5 := (hbx.2.2.2.2.2.2.2.1 (ftN xs k) lx).1
      rw [ex] at s1
      rw [ey] at s2
      obtain ⟨x, hx⟩ : ∃ x, xs.getD (ftN ys k) 0 = x := ⟨_, rfl⟩
      rw [hx] at s3
      have HTH := hide (show thL xs ys (k + 1) = thL xs ys k ++ [x] by rw [thL_succ, hx])
      obtain ⟨fx, hfx⟩ : ∃ y, ftN xs k = y := ⟨_, rfl⟩
      obtain ⟨fy, hfy⟩ : ∃ y, ftN ys k = y := ⟨_, rfl⟩
      obtain ⟨cx, hcx⟩ : ∃ y, cf fx = y := ⟨_, rfl⟩
      simp only [hfx, hcx] at s4 s5
      rw [hfx] at s1 lx
      rw [hfy] at s2 s3 ly
      have lx' : (fx : Int) < (R : Int) := by omega
      have ly' : (fy : Int) < (R : Int) := by omega
      have d1 : ((cx : Int) == (cx : Int)) = true := by simp
      have F1 := fun z : Ext wr => z.cell s1
      have F2 := fun z : Ext wr => z.cell s2
      have F3 := fun z : Ext wr => z.cell s3
      have F4 := fun z : Ext wr => z.cell s4
      have F5 := fun z : Ext wr => z.cell s5
      have hNE := Ext.ne wr
      clear hbx ex ey hcX hcY hx hfx hfy hcx
      go_wp2_with fail
      refine wp_region_ext (by kernel_rfl) (by kernel_rfl) ?_
      repeat (go_big_quiet_step (fail))
      refine wpQuiet_nil ?_
      rintro _ ⟨xE, rfl⟩
      have bE := xE.bel
      clear F1 F2 F3 F4 F5 hNE
      generalize xE.w = w10 at *
      have HK2 := hide (show ThI w9 w10 w9.heap.size _ (thL xs ys k) from ⟨ownsRow_chg (S := fun _ => False) (unhide HK).own (.of_below bE) (fun _ _ => id), (unhide HK).bel.trans (bE.mono (unhide HK).le), Nat.le_trans (unhide HK).le bE.size⟩)
      have t2 : w10.cell? ⟨bY, oY + k, none⟩ = some (.int .i64 (fy : Int)) := (⟨w10, bE⟩ : Ext wr).cell s2
      have t3 : w10.cell? ⟨bX, oX + fy, none⟩ = some (.int .i64 x) := (⟨w10, bE⟩ : Ext wr).cell s3
      have hle := (unhide HK2).le
      have htl : (thL xs ys k).length = k := thL_len k
      obtain ⟨tl, htl2⟩ : ∃ tl, thL xs ys k = tl := ⟨_, rfl⟩
      rw [htl2] at HK2 HTH htl
      have hmx : tl.length + 1 ≤ maxLen := by unfold maxLen; omega
      have hby : (tl.length + 1) * 8 ≤ 140737488355328 := by omega
      clear htl2 htl bE s1 s2 s3 s4 s5 d1 HK
      go_wp2_with (at_builtin; refine wpList_append_lies _ rfl _ _ 22 rfl w9.heap.size 3 i64 (.int .i64 0) 1 8 Try.underlying22 (unhide HI).1 (unhide HI).2.1 (unhide HI).2.2.1 (unhide HI).2.2.2 rfl (by decide) _ tl.length (valsI tl) rfl ((unhide HK2).own.alloc _) ⟨w10.heap.size, 0, none⟩ 1 1 [.int .i64 x] rfl rfl (World.news_of_block (alloc_block _ _)) (hone _) (by decide) hmx hby (by simp; omega) (w10.heap.size + 1) (by simp) ?_)
      intro g2 cap2 w11 hown hg2 hat hlt4
      have HK3 := hide ((unhide HK2).app _ hown hg2)
      clear hown hg2 hat hlt4 t2 t3
      go_wp2_with fail
      exact ⟨⟨k + 1, by omega, by (first | rfl | go_num), hide (by rw [unhide HTH]; exact unhide HK3)⟩, by simp [intOf]; omega⟩
    · obtain rfl : k = R := by omega
      have hlt' : ¬ (k : Int) < (k : Int) := by omega
      obtain ⟨aT, cT, htv, sT⟩ := own_slI (unhide HK).own
      rw [thL_len] at htv sT
      subst htv
      have HST := hide sT
      have KQ := hide (unhide K9 wr b1 b2 d1 d2 hbx.2.2.1 hbx.2.2.2.1 hbx.2.2.2.2.2.1)
      have u0 := (hbx.2.1.all 0 _ rfl).1
      have u1 := (hbx.2.1.all 1 _ rfl).1
      have u2 := (hbx.2.1.all 2 _ rfl).1
      have u3 := (hbx.2.1.all 3 _ rfl).1
      have HT1 := hide hbx.1
      have HX1 := hide hbx.2.2.2.2.1
      have HB1 := hide hbx.2.2.2.2.2.2.2.2
      clear K9 sT hbx HK HN9
      go_wp2_with fail
      refine (unhide KQ).mono ?_
      rintro _ w11 ⟨b11, _, hyes⟩
      obtain ⟨v1, g1, rfl, hr1, hm1⟩ := hyes rfl
      have HB11 := hide ((unhide HB1).trans (b11.mono (unhide HB1).size))
      have HT11 := hide ((unhide HT1).below b11)
      have HX11 := hide ((unhide HX1).below b11)
      have HR11 := hide hr1
      have HM1 := hide hm1
      have KP := hide (unhide K8 w11 (unhide HB11) aT cT ((unhide HST).below b11))
      clear b11 hyes hr1 hm1 KQ u0 u1 u2 u3 p0 HST K8 HT1 HX1 HB1
      have p0 := ((unhide HT11).all 0 _ rfl).1
      have p1 := ((unhide HT11).all 1 _ rfl).1
      have p2 := ((unhide HT11).all 2 _ rfl).1
      have p3 := ((unhide HT11).all 3 _ rfl).1
      go_wp2_with fail
      refine (unhide KP).mono ?_
      rintro _ w12 ⟨b12, _, hyes⟩
      obtain ⟨v2, g2, rfl, hr2, hm2⟩ := hyes rfl
      have hvv := back_same (unhide HRN) (unhide HXY).1 (unhide HXY).2 (unhide HM1) hm2
      subst hvv
      have HB12 := hide ((unhide HB11).trans (b12.mono (unhide HB11).size))
      have HT12 := hide ((unhide HT11).below b12)
      have HX12 := hide ((unhide HX11).below b12)
      have HR12 := hide (show RoV w12 g1 k (fun u => .int .i64 (bkO (thL xs ys k) st cols k (ftN xs u) : Int)) from ((unhide HR11).below b12).congr (fun u hu => by rw [(unhide HRN).bk (unhide HXY).2 (thL_ord (unhide HXY).1 (unhide HXY).2) (fun j hj => thL_is (unhide HXY).1 (unhide HXY).2 hj) hu]))
      have HY12 := hide hr2
      clear b12 hyes hr2 hm2 KP p0 p1 p2 p3 HM1 HR11 HT11 HX11 HB11
      have p0 := ((unhide HT12).all 0 _ rfl).1
      have e1 : (v1 == v1) = true := by simp
      have e2 : ((k : Int) == (k : Int)) = true := by simp
      go_wp2_with ((go_at_call 7; refine (num11_any _ _).mono ?_; rintro _ wn ⟨rfl, hwn⟩; rw [hwn]; clear hwn wn))
      clear p0 e1 e2
      obtain ⟨cg, hcg⟩ : ∃ cg : Nat → Nat, bkO (thL xs ys k) st cols k = cg := ⟨_, rfl⟩
      rw [hcg] at HR12 HY12
      clear hcg
      go_loopw [22] (fun jv wr => ∃ j : Nat, j ≤ k ∧ jv = .int .i64 (j : Int) ∧ Hid (Below w12.heap.size w12 wr)) (fun jv _ => k - (intOf jv).toNat)
      case atStart => exact ⟨0, Nat.zero_le _, rfl, hide (Below.refl _ _)⟩
      case round =>
        obtain ⟨j, hj, rfl, HW⟩ := hrel
        have HB13 := hide ((unhide HB12).trans ((unhide HW).mono (unhide HB12).size))
        have p0 := (((unhide HT12).below (unhide HW)).all 0 _ rfl).1
        by_cases hlt2 : j < k
        · have hlt2' : (j : Int) < (k : Int) := by omega
          obtain ⟨ex, lx⟩ := ftN_at (unhide HXY).1 hlt2
          obtain ⟨bX, oX, hax, hcX⟩ := ((unhide HX12).below (unhide HW)).at (by omega)
          subst hax
          have s1 := hcX j hlt2
          rw [ex] at s1
          have s4 := ((unhide HR12).below (unhide HW) j hlt2).1
          have s5 := ((unhide HY12).below (unhide HW) (ftN xs j) lx).1
          obtain ⟨fx, hfx⟩ : ∃ y, ftN xs j = y := ⟨_, rfl⟩
          obtain ⟨cx, hcx⟩ : ∃ y, cg fx = y := ⟨_, rfl⟩
          simp only [hfx, hcx] at s4 s5
          rw [hfx] at s1 lx
          have lx' : (fx : Int) < (k : Int) := by omega
          have d1 : ((cx : Int) == (cx : Int)) = true := by simp
          have F1 := fun z : Ext wr => z.cell s1
          have F4 := fun z : Ext wr => z.cell s4
          have F5 := fun z : Ext wr => z.cell s5
          have hNE := Ext.ne wr
          clear ex hcX hfx hcx
          go_wp2_with fail
          refine wp_region_ext (by kernel_rfl) (by kernel_rfl) ?_
          repeat (go_big_quiet_step (fail))
          refine wpQuiet_nil ?_
          rintro _ ⟨xE, rfl⟩
          have HWE := hide ((unhide HW).trans (xE.bel.mono (unhide HW).size))
          clear F1 F4 F5 hNE s1 s4 s5
          go_wp2_with fail
          exact ⟨⟨j + 1, by omega, by (first | rfl | go_num), HWE⟩, by simp [intOf]; omega⟩
        · obtain rfl : j = k := by omega
          have hlt2' : ¬ (j : Int) < (j : Int) := by omega
          go_wp2_with fail
          refine (oalive_any wr).mono ?_
          rintro _ w9 ⟨rfl, b9⟩
          have HB9 := hide ((unhide HB13).trans (b9.mono (unhide HB13).size))
          clear b9
          go_wp2_with fail
          try go_ret
          exact ⟨rfl, unhide HB9⟩
end Go.Proofs.Ytdcdgojcboinaaa
