/- Cv4 -/
import Derived.Test.YtgjokididdffhaaGreatCv3
import Derived.Test.YtgjokididdffhaaGreatChd
import Derived.Test.YtgjokididdffhaaGreatCv1
namespace Go.Proofs.YtgjokididdffhaaGreat
open Go.RowKit Go.Deep
set_option linter.unusedVariables false
theorem BrI.frc {W W' : World} {X R : Nat} {vs : List Value} {b1 : Option Addr} {m1 d1 : Nat} {b2 : Option Addr} {m2 d2 : Nat} {g h cnt : Nat} {cs ls : Nat → Int} {st cols : List Int} (k : BrI W X R vs b1 m1 d1 b2 m2 d2 g h cnt cs ls st cols) (c : FrC X 16 W W') (hl : vs.length ≤ 16) : BrI W' X R vs b1 m1 d1 b2 m2 d2 g h cnt cs ls st cols :=
  ⟨c.box k.box hl, k.v9, k.v10, k.v11, k.v12, k.v13, k.v14, k.v15, k.col.chg c.chg k.ne.2.1, k.last.chg c.chg k.ne.2.2, k.s1.chg c.chg (fun z hz hne => (k.o1 z hz hne).1), k.s2.chg c.chg (fun z hz hne => (k.o2 z hz hne).1), k.o1, k.o2, k.ne⟩
structure BcP (w w' : World) (X R : Nat) (vs : List Value) (b1 : Option Addr) (m1 d1 : Nat) (b2 : Option Addr) (m2 d2 : Nat) (g h cnt : Nat) (cs ls : Nat → Int) (st cols : List Int) (v : Nat) (ls' : Nat → Int) : Prop where
  bru : BrI w' X R vs b1 m1 d1 b2 m2 d2 g h cnt cs ls' st cols
  mks : MkI ls ls' cnt R (BarA st cols R cs v)
  arr : ∃ pf, RoF w' X 16 pf
  chg : Chg (fun j => j = h ∨ j = X) w w'
set_option maxRecDepth 100000 in
set_option maxHeartbeats 16000000 in
theorem cbarC_any (X R : Nat) (vs : List Value) (b1 : Option Addr) (m1 d1 : Nat) (b2 : Option Addr) (m2 d2 : Nat) (g h cnt : Nat) (cs ls : Nat → Int) (st cols : List Int) (v : Nat) (w : World) (hB : BrI w X R vs b1 m1 d1 b2 m2 d2 g h cnt cs ls st cols) (hvl : vs.length ≤ 16) (pf : Nat → Nat) (hF : RoF w X 16 pf) (hm : MayP (R : Int) (R : Int) st cols) (hg : GraP st cols R R) (hpr : PrpC st cols R cs) (hv : v < R) (hb1 : m1 ≤ 17592186044000) (hb2 : m2 ≤ 17592186044000) (hcs : ∀ i, i < R → -1 ≤ cs i ∧ cs i < (R : Int)) (hls : ∀ k, k < R → ls k ≤ (cnt : Int)) :
    Calls Tryz.prog 104 #[.pointer (some ⟨X, 0, none⟩), .int .i64 (v : Int)] w fun e w' => (∃ z, e = .returned z) ∧ ∃ ls', BcP w w' X R vs b1 m1 d1 b2 m2 d2 g h cnt cs ls st cols v ls' := by
  have hR8 : R ≤ 128 := by have := hm.head.fit; omega
  have hXw : X < w.heap.size := World.block_lt_of_cell? _ _ (hF 0 (by decide)).1
  have KN := hide (cbarN_any X R vs b1 m1 d1 b2 m2 d2 g h cnt cs ls st cols v w hB hm hv hb1 hb2 hcs hls)
  have HF := hide hF
  have HM := hide (And.intro hm (And.intro hg (And.intro hpr hcs)))
  have HNE := hide hB.ne
  have hXh : X ≠ h := fun e => hB.ne.2.2 e.symm
  clear hB hF hm hg hpr hcs hls
  go_enter Tryz.func104, Tryz.ntmps104
  go_wp2_with fail
  refine (unhide KN).mono ?_
  rintro _ w1 ⟨⟨z0, rfl⟩, ls1, hB1, hM1, hC1⟩
  have q9 := (hB1.box.all 9 _ hB1.v9).1
  have q10 := (hB1.box.all 10 _ hB1.v10).1
  have q11 := (hB1.box.all 11 _ hB1.v11).1
  have q12 := (hB1.box.all 12 _ hB1.v12).1
  have q13 := (hB1.box.all 13 _ hB1.v13).1
  have HB1 := hide hB1
  have HM1 := hide hM1
  have HC1 := hide hC1
  have KG := hide (fun W (b : Below w1.heap.size w1 W) => cgrow_any X 16 R pf b1 m1 d1 b2 m2 d2 g cs st cols W (((unhide HF).chg hC1 hXh).below b) (Nat.lt_of_lt_of_le hXw (Nat.le_trans hC1.size b.size)) (hB1.s1.below b) (hB1.s2.below b) hb1 hb2 (unhide HM).1 (unhide HM).2.1 (hB1.col.below b) (unhide HM).2.2.2 (fun z hz hne => (hB1.o1 z hz hne).1) (fun z hz hne => (hB1.o2 z hz hne).1) hB1.ne.2.1)
  unfold patV at KG
  clear KN hB1 hM1 hC1
  go_wp2_with fail
  go_region_held3 (fun w' => w'.cell? ⟨X, 9, none⟩ = some (.int .i64 (R : Int)) ∧ w'.cell? ⟨X, 10, none⟩ = some (.int .i64 (R : Int)) ∧ w'.cell? ⟨X, 11, none⟩ = some (.slice b1 m1 d1) ∧ w'.cell? ⟨X, 12, none⟩ = some (.slice b2 m2 d2) ∧ w'.cell? ⟨X, 13, none⟩ = some (.slice (some ⟨g, 0, none⟩) R R)) (first | (exact ⟨k9, k10, k11, k12, k13⟩) | go_keep)
    ((go_at_call 130; refine (unhide KG _ (by first | exact Below.refl _ _ | exact (Below.refl _ _).drew)).mono ?_; rintro _ w2 ⟨⟨z1, rfl⟩, pf2, ro, hh, M, hF2, hU2, hE2, hC2⟩; have HF2 := hide (And.intro (show ∃ pf, RoF w2 X 16 pf ∧ UfI (elD R) pf ro hh M from ⟨pf2, hF2, hU2⟩) hE2); have hC2' := (show FrC X 16 w1 w2 from (by first | exact hC2 | exact (FrC.refl _ _ _).drew.trans hC2)); have hB2 := (unhide HB1).frc hC2' hvl; have k9 := (hB2.box.all 9 _ hB2.v9).1; have k10 := (hB2.box.all 10 _ hB2.v10).1; have k11 := (hB2.box.all 11 _ hB2.v11).1; have k12 := (hB2.box.all 12 _ hB2.v12).1; have k13 := (hB2.box.all 13 _ hB2.v13).1; have HC2 := hide hC2'; clear hF2 hU2 hE2 hC2 hC2'))
  have HB2 := hide hB2
  have KC := hide (ccoloured_any X R vs b1 m1 d1 b2 m2 d2 g h cnt cs ls1 st cols v w2 hB2 (unhide HM).1 hv hb1 hb2)
  clear KG q9 q10 q11 q12 q13 hB2 k9 k10 k11 k12 k13
  go_wp2_with fail
  refine (unhide KC).mono ?_
  rintro _ w3 ⟨a, c, rfl, hs3, hnew, b3⟩
  have hB3 := (unhide HB2).below b3
  have q13 := (hB3.box.all 13 _ hB3.v13).1
  have KM := hide (cnumber_any (some ⟨g, 0, none⟩) R R (csL cs R) w3 (hB3.col.sli hR8) hR8 (fun i hi => by rw [csL_get hi]; have := ((unhide HM).2.2.2 i hi).2; omega) (fun e => by cases e))
  have HB3 := hide hB3
  have HB3' := hide b3
  have HS3 := hide hs3
  have HNEW := hide hnew
  have hcl : (cldL cs (rowL st cols v)).length ≤ 128 := Nat.le_trans (cldL_len _ _) (Nat.le_trans (row_lenF (unhide HM).1 hv) hR8)
  have HLR := hide (show ∀ i, i < (cldL cs (rowL st cols v)).length → 0 ≤ (cldL cs (rowL st cols v)).getD i 0 ∧ (cldL cs (rowL st cols v)).getD i 0 < (R : Int) from fun i hi => by
    have := cld_rng (unhide HM).1 hv (cs := cs) (u := (cldL cs (rowL st cols v)).getD i 0) (mem_getD.2 ⟨i, hi, rfl⟩)
    exact ⟨this.1, this.2.1⟩)
  have HRA := hide (fun k (hk : k < R) hb => roots_alike (k := k) (unhide HM).1 (unhide HM).2.1 hv hk (unhide HM).2.2.2 (unhide HM).2.2.1 (unhide HF2).2 hb)
  obtain ⟨NL, hNL⟩ : ∃ NL, cldL cs (rowL st cols v) = NL := ⟨_, rfl⟩
  rw [hNL] at HS3 hcl HLR HRA ⊢
  clear KC hB3 b3 hs3 hnew hNL
  go_wp2_with fail
  refine (unhide KM).mono ?_
  rintro _ w4 ⟨zi, rfl, hN, b4⟩
  obtain ⟨hz0, hzk, hzu⟩ := numC_rng hN (unhide HM).2.2.2
  obtain ⟨z, rfl⟩ : ∃ z : Nat, zi = (z : Int) := ⟨zi.toNat, by omega⟩
  have hzR : z ≤ R := by omega
  have HZU := hide hzu
  have HB4 := hide ((unhide HB3).below b4)
  have HS4 := hide ((unhide HS3).below b4)
  have HA4 := hide (show ∃ pf, RoF w4 X 16 pf ∧ UfI (elD R) pf ro hh M from by
    obtain ⟨p, k1, k2⟩ := (unhide HF2).1
    exact ⟨p, (k1.below (unhide HB3')).below b4, k2⟩)
  have HC4 := hide (show Chg (fun j => j = h ∨ j = X) w w4 from ((((unhide HC1).mono (fun j _ e => .inl e)).trans ((unhide HC2).chg.mono (fun j _ e => .inr e))).trans (Chg.of_below (unhide HB3'))).trans (Chg.of_below b4))
  have HOL := hide (show ∀ x, a = some x → NL ≠ [] → x.block ≠ X ∧ x.block ≠ h from fun x hx _ => by
    have h1 := unhide HNEW x hx
    have h2 : X < w2.heap.size := (unhide HB2).box.lt
    have h3 := World.block_lt_of_cell? _ _ ((unhide HB2).last 0 (by omega)).1
    simp at h3
    omega)
  clear KM HB3 HS3 HB3' hN b4 hz0 hzk hzu q13 HNEW HB2 HF2 HC2 HB1
  go_wp2_with fail
  go_loopw [30] (fun kv wr => ∃ k : Nat, k ≤ z ∧ kv = .int .i64 (k : Int) ∧ Hid (∃ ls', BrI wr X R vs b1 m1 d1 b2 m2 d2 g h cnt cs ls' st cols ∧ MkI ls ls' cnt R (fun j => BarN st cols cs v j ∨ (j < k ∧ CirP st cols R cs v j)) ∧ (∃ pf, RoF wr X 16 pf ∧ UfI (elD R) pf ro hh M) ∧ Chg (fun j => j = h ∨ j = X) w4 wr)) (fun kv _ => z - (intOf kv).toNat)
  case atStart => exact ⟨0, Nat.zero_le _, rfl, hide ⟨ls1, unhide HB4, (unhide HM1).same (fun k p => .inl p) (fun k _ q => .inl (q.elim id (fun q => absurd q.1 (Nat.not_lt_zero _)))), unhide HA4, Chg.refl _ _⟩⟩
  case round =>
    obtain ⟨k, hk, rfl, HK⟩ := hrel
    obtain ⟨ls3, hbr, hmk, har, hch⟩ := unhide HK
    by_cases hlt : k < z
    · have hlt' : (k : Int) < (z : Int) := by omega
      have hkR : k < R := by omega
      have q14 := (hbr.box.all 14 _ hbr.v14).1
      have q15 := (hbr.box.all 15 _ hbr.v15).1
      have hly := hbr.last k hkR
      have KH := hide (chas_any X 14 h R (cnt : Int) k (ls3 k) wr q14 q15 hkR hR8 hly.1)
      obtain ⟨hs, hhs⟩ : ∃ hs, (ls3 k == (cnt : Int)) = hs := ⟨_, rfl⟩
      rw [hhs] at KH
      have HHS := hide hhs
      have HB5 := hide hbr
      have HM5 := hide hmk
      have HA5 := hide har
      have HC5 := hide hch
      clear hbr hmk har hch q14 q15 hly hhs HK
      cases hs
      · have hnb : ¬ BarN st cols cs v k := fun hb => by
          have h1 := ((unhide HM5).iff k hkR).2 (.inr (.inl hb))
          have h2 := unhide HHS
          rw [h1] at h2
          simp at h2
        obtain ⟨ok, hok⟩ := truth (CirP st cols R cs v k)
        have HOK := hide (show TruQ ok (CirP st cols R cs v k) from hok)
        have HNB := hide hnb
        have KJ := hide (show ∀ W, Below wr.heap.size wr W → Calls Tryz.prog 134 #[.pointer (some ⟨X, 0, none⟩), .slice a NL.length c, .int .i64 (k : Int)] W fun e w' => e = .returned (.bool ok) ∧ (∃ pf', RoF w' X 16 pf' ∧ UfI (elD R) pf' ro hh M) ∧ FrC X 16 W w' from fun W b => by
          obtain ⟨p, k1, k2⟩ := unhide HA5
          exact canyj_any X R k a NL.length c NL p ro hh M W hR8 (k1.below b) k2 (((unhide HS4).chg (unhide HC5) (fun x hx hne e => by have := unhide HOL x hx hne; rcases e with e | e <;> omega)).below b) (unhide HLR) hkR hcl (fun x hx hne => (unhide HOL x hx hne).1) ok (hok.trans (unhide HRA k hkR hnb).symm))
        clear hok hnb
        go_wp2_with fail
        refine (unhide KH).mono ?_
        rintro _ w5 ⟨rfl, b5⟩
        have KJ2 := hide (unhide KJ w5 b5)
        have HB6 := hide ((unhide HB5).below b5)
        have HC6 := hide ((unhide HC5).trans (Chg.of_below b5))
        clear KH KJ b5
        go_wp2_with fail
        refine (unhide KJ2).mono ?_
        rintro _ w6 ⟨rfl, hA6, hC6⟩
        have hB7 := (unhide HB6).frc hC6 hvl
        have HC7 := hide ((unhide HC6).trans (hC6.chg.mono (fun j _ e => .inr e)))
        have HA7 := hide hA6
        have HB7 := hide hB7
        clear KJ2 hA6 hC6
        cases ok
        · clear hB7
          go_wp2_with fail
          exact ⟨⟨k + 1, by omega, by (first | rfl | go_num), hide ⟨ls3, unhide HB7, (unhide HM5).same (fun j p => p.imp_right (fun p => ⟨by omega, p.2⟩)) (fun j _ q => .inl (q.imp_right (fun q => ⟨by
            have := q.1
            by_cases e : j = k
            · subst e; exact absurd ((Iff.mpr (unhide HOK)) q.2) (by decide)
            · omega, q.2⟩))), unhide HA7, unhide HC7⟩⟩, by simp [intOf]; omega⟩
        · have q14 := (hB7.box.all 14 _ hB7.v14).1
          have q15 := (hB7.box.all 15 _ hB7.v15).1
          have hly := hB7.last k hkR
          have KS := hide (cset_any X 14 h R (cnt : Int) k (.int .i64 (ls3 k)) w6 q14 q15 hkR hR8 hly.1 hly.2)
          clear q14 q15 hly hB7
          go_wp2_with fail
          refine (unhide KS).mono ?_
          rintro _ w7 ⟨⟨z7, rfl⟩, c7, r7⟩
          have HB8 := hide (show BrI w7 X R vs b1 m1 d1 b2 m2 d2 g h cnt cs (fun i => if i = k then (cnt : Int) else ls3 i) st cols from (unhide HB7).chg c7 ((r7 _ (unhide HB7).last).congr (fun i hi => by by_cases e : i = k <;> simp [e])))
          have HA8 := hide (show ∃ pf, RoF w7 X 16 pf ∧ UfI (elD R) pf ro hh M from by obtain ⟨p, k1, k2⟩ := unhide HA7; exact ⟨p, k1.chg c7 hXh, k2⟩)
          have HC8 := hide ((unhide HC7).trans (c7.mono (fun j _ e => .inl e)))
          clear KS c7 r7
          go_wp2_with fail
          exact ⟨⟨k + 1, by omega, by (first | rfl | go_num), hide ⟨_, unhide HB8, (unhide HM5).put (y := k) (fun j => ⟨fun q => q.elim (fun q => .inl (.inl q)) (fun q => by
            by_cases e : j = k
            · exact .inr e
            · exact .inl (.inr ⟨by have := q.1; omega, q.2⟩)), fun q => q.elim (fun q => q.imp_right (fun p => ⟨by omega, p.2⟩)) (fun e => .inr ⟨by omega, by rw [e]; exact Iff.mp (unhide HOK) rfl⟩)⟩), unhide HA8, unhide HC8⟩⟩, by simp [intOf]; omega⟩
      · go_wp2_with fail
        refine (unhide KH).mono ?_
        rintro _ w5 ⟨rfl, b5⟩
        have HB6 := hide ((unhide HB5).below b5)
        have HA6 := hide (show ∃ pf, RoF w5 X 16 pf ∧ UfI (elD R) pf ro hh M from by obtain ⟨p, k1, k2⟩ := unhide HA5; exact ⟨p, k1.below b5, k2⟩)
        have HC6 := hide ((unhide HC5).trans (Chg.of_below b5))
        clear KH b5
        go_wp2_with fail
        exact ⟨⟨k + 1, by omega, by (first | rfl | go_num), hide ⟨ls3, unhide HB6, (unhide HM5).same (fun j p => p.imp_right (fun p => ⟨by omega, p.2⟩)) (fun j _ q => by
          by_cases e : j = k
          · right
            have := unhide HHS
            subst e
            simpa using this
          · exact .inl (q.imp_right (fun q => ⟨by have := q.1; omega, q.2⟩))), unhide HA6, unhide HC6⟩⟩, by simp [intOf]; omega⟩
    · obtain rfl : k = z := by omega
      have hlt' : ¬ (k : Int) < (k : Int) := by omega
      have HFI := hide (show BcP w wr X R vs b1 m1 d1 b2 m2 d2 g h cnt cs ls st cols v ls3 from ⟨hbr, hmk.same (fun j p => p.imp_right (fun p => p.2)) (fun j hj q => .inl (q.imp_right (fun q => ⟨by
        obtain ⟨i, hi, he⟩ := BarA.used (unhide HM).1 (unhide HM).2.2.1 hv (.inr q)
        have := unhide HZU i hi
        omega, q⟩))), by obtain ⟨p, k1, _⟩ := har; exact ⟨p, k1⟩, (unhide HC4).trans hch⟩)
      clear hbr hmk har hch HK
      go_wp2_with fail
      try go_end0
      exact ⟨⟨_, rfl⟩, ls3, unhide HFI⟩
theorem RoF.front {w : World} {X : Nat} {pf : Nat → Nat} (h : RoF w X 16 pf) (i : Nat) (hi : i < 16) (v : Value) : RoF (w.setCell ⟨X, i, none⟩ v) X 16 pf := by
  intro e he
  rw [World.frozen?_setCell]
  refine ⟨?_, (h e he).2⟩
  rw [World.cell?_setCell_other _ _ _ _ (by intro c; simp at c; first | done | omega)]
  exact (h e he).1
structure FrA (w w' : World) (e : Ending) (X R : Nat) (vs : List Value) (b1 : Option Addr) (m1 d1 : Nat) (b2 : Option Addr) (m2 d2 : Nat) (g h cnt : Nat) (cs : Nat → Int) (st cols : List Int) (v : Nat) (z : Nat) (a : Option Addr) (c : Nat) (ls' : Nat → Int) : Prop where
  num : NumC (csL cs R) (z : Int)
  ret : e = .returned (.slice a (grR (fun _ j => ¬ BarA st cols R cs v j) 0 (z + 1)).length c)
  sl : SlI w' a (grR (fun _ j => ¬ BarA st cols R cs v j) 0 (z + 1)).length c (grR (fun _ j => ¬ BarA st cols R cs v j) 0 (z + 1))
  new : ∀ x, a = some x → w.heap.size ≤ x.block
  bru : BrI w' X R (vs.set 14 (.int .i64 ((cnt + 1 : Nat) : Int))) b1 m1 d1 b2 m2 d2 g h (cnt + 1) cs ls' st cols
  le : ∀ j, j < R → ls' j ≤ ((cnt + 1 : Nat) : Int)
  chg : Chg (fun j => j = h ∨ j = X) w w'
  arr : ∃ pf, RoF w' X 16 pf
set_option maxRecDepth 100000 in
set_option maxHeartbeats 16000000 in
theorem cfree_ac (X R : Nat) (vs : List Value) (b1 : Option Addr) (m1 d1 : Nat) (b2 : Option Addr) (m2 d2 : Nat) (g h cnt : Nat) (cs ls : Nat → Int) (st cols : List Int) (v k : Nat) (w : World) (hB : BrI w X R vs b1 m1 d1 b2 m2 d2 g h cnt cs ls st cols) (hm : MayP (R : Int) (R : Int) st cols) (hv : v < R) (hb1 : m1 ≤ 17592186044000) (hb2 : m2 ≤ 17592186044000) (hcs : ∀ i, i < R → -1 ≤ cs i ∧ cs i < (k : Int)) (hk : k < R) (hls : ∀ j, j < R → ls j ≤ (cnt : Int)) (hcn : cnt ≤ 1000000) (hf : vs[2]? = some (.func (.func 104) #[] #[])) (hvl : vs.length ≤ 16) (hA : ∃ pf, RoF w X 16 pf) (hg : GraP st cols R R) (hpr : PrpC st cols R cs) :
    Calls Tryz.prog 66 #[.pointer (some ⟨X, 0, none⟩), .int .i64 (v : Int)] w fun e w' => ∃ z a c ls', FrA w w' e X R vs b1 m1 d1 b2 m2 d2 g h cnt cs st cols v z a c ls' := by
  have hR8 : R ≤ 128 := by have := hm.head.fit; omega
  have q14 := (hB.box.all 14 _ hB.v14).1
  have r14 := (hB.box.all 14 _ hB.v14).2
  have KD := hide (cdrop_any X 14 cnt w q14 r14 (by omega))
  have hB1 := hB.drop (cnt + 1)
  have c1 : Chg (fun j => j = h ∨ j = X) w (w.setCell ⟨X, 14, none⟩ (.int .i64 ((cnt + 1 : Nat) : Int))) := Chg.of_set _ _ _ _ (.inr rfl)
  have q2 := (hB1.box.all 2 _ (by rw [List.getElem?_set_ne (by omega)]; exact hf)).1
  obtain ⟨pf, hpf⟩ := hA
  have KP := hide (cbarC_any X R _ b1 m1 d1 b2 m2 d2 g h (cnt + 1) cs ls st cols v _ hB1 (by simpa using hvl) pf (hpf.front 14 (by omega) _) hm hg hpr hv hb1 hb2 (fun i hi => ⟨(hcs i hi).1, by have := (hcs i hi).2; omega⟩) (fun j hj => by have := hls j hj; omega))
  have HC := hide hcs
  have HM := hide hm
  have HL := hide hls
  have HC1 := hide c1
  have HF := hide hf
  have HGP := hide (And.intro hg hpr)
  clear hcs hm hls hB hB1 c1 hf q14 r14 hpf hg hpr
  go_enter Tryz.func66, Tryz.ntmps66
  go_wp2_with fail
  refine (unhide KD).mono ?_
  rintro _ w1 ⟨⟨z0, rfl⟩, hw1⟩
  rw [← hw1] at q2 KP HC1
  clear KD hw1
  go_wp2_with fail
  refine (unhide KP).mono ?_
  rintro _ w2 ⟨⟨z1, rfl⟩, ls', hP⟩
  have hB2 := hP.bru
  have hM2 := hP.mks
  have hC2 := hP.chg
  have HA2 := hide hP.arr
  clear hP
  have KN := hide (cnumber_any (some ⟨g, 0, none⟩) R R (csL cs R) w2 (hB2.col.sli hR8) hR8 (fun i hi => by rw [csL_get hi]; have := (unhide HC i hi).2; omega) (fun e => by cases e))
  have q13 := (hB2.box.all 13 _ hB2.v13).1
  have HB2 := hide hB2
  have HMK := hide (show ∀ j, j < R → (ls' j = ((cnt + 1 : Nat) : Int) ↔ BarA st cols R cs v j) from fun j hj => by
    rw [hM2.iff j hj]
    have := unhide HL j hj
    exact ⟨fun z => z.elim (fun z => by omega) id, .inr⟩)
  have HLE := hide hM2.le
  have HC2 := hide ((unhide HC1).trans hC2)
  clear KP hB2 hM2 hC2 HC1 q2
  go_wp2_with fail
  refine (unhide KN).mono ?_
  rintro _ w3 ⟨zi, rfl, hN, b3⟩
  obtain ⟨hz0, hzk, _⟩ := numC_rng hN (unhide HC)
  obtain ⟨z, rfl⟩ : ∃ z : Nat, zi = (z : Int) := ⟨zi.toNat, by omega⟩
  have hw7 : IntKind.i64.wrap ((z : Int) + 1) = (z : Int) + 1 := by rw [wrap_i64n]; omega
  have HN := hide hN
  have HB3 := hide ((unhide HB2).below b3)
  have HC3 := hide ((unhide HC2).trans (Chg.of_below b3))
  have HA3 := hide (show ∃ pf, RoF w3 X 16 pf from by obtain ⟨p, k1⟩ := unhide HA2; exact ⟨p, k1.below b3⟩)
  have hzR : z < R := by omega
  obtain ⟨P, hP⟩ : ∃ P : Nat → Nat → Prop, P = (fun _ j => ¬ BarA st cols R cs v j) := ⟨_, rfl⟩
  have HP := hide hP
  obtain ⟨i64, hi, hz, hs, hb⟩ := info_parts Tryz.info_i64
  have HI := hide (And.intro hi (And.intro hz (And.intro hs hb)))
  have hone : ∀ y : Int, ∀ z ∈ [Value.int .i64 y], z.oneCell' = true := by intro y z hz; simp at hz; subst hz; rfl
  clear KN HB2 HC2 hN b3 hz0 hzk q13 hP hi hz hs hb
  go_wp2_with fail
  go_loopw [26, 5] (fun kv lv wr => ∃ j : Nat, j ≤ z + 1 ∧ kv = .int .i64 (j : Int) ∧ Hid (wr.ownsRow w3.heap.size 3 1 lv (grR P 0 j).length (valsI (grR P 0 j))) ∧ Hid (Below w3.heap.size w3 wr)) (fun kv _ _ => z + 1 - (intOf kv).toNat)
  case atStart => exact ⟨0, Nat.zero_le _, rfl, hide (by simpa [grR, valsI] using World.ownsRow_nil w3 w3.heap.size 3 1), hide (Below.refl _ _)⟩
  case round =>
    obtain ⟨j, hj, rfl, HO, HW⟩ := hrel
    by_cases hlt : j < z + 1
    · have hlt' : (j : Int) < (z : Int) + 1 := by omega
      have hjR : j < R := by omega
      have hbr := (unhide HB3).below (unhide HW)
      have q14 := (hbr.box.all 14 _ hbr.v14).1
      have q15 := (hbr.box.all 15 _ hbr.v15).1
      have KH := hide (chas_any X 14 h R ((cnt + 1 : Nat) : Int) j (ls' j) wr q14 q15 hjR hR8 (hbr.last j hjR).1)
      have hcl : (grR P 0 j).length ≤ 128 := by have := grR_len P 0 j; omega
      have hIF := unhide HMK j hjR
      clear hbr q14 q15
      by_cases hbp : BarA st cols R cs v j
      · have he : (ls' j == ((cnt + 1 : Nat) : Int)) = true := by rw [hIF.2 hbp]; simp
        rw [he] at KH
        have HN1 := hide (show grR P 0 (j + 1) = grR P 0 j from by
          have ht : tb (P 0 j) = false := by rw [unhide HP]; simp [tb, hbp]
          simp [grR, ht])
        clear he hIF hbp
        go_wp2_with fail
        refine (unhide KH).mono ?_
        rintro _ w4 ⟨rfl, b4⟩
        have HB4 := hide ((unhide HW).trans (b4.mono (unhide HW).size))
        have HO4 := hide (show w4.ownsRow w3.heap.size 3 1 u5 (grR P 0 (j + 1)).length (valsI (grR P 0 (j + 1))) from by rw [unhide HN1]; exact ownsRow_chg (S := fun _ => False) (unhide HO) (Chg.of_below b4) (fun _ _ x => x))
        clear KH b4
        go_wp2_with fail
        exact ⟨⟨j + 1, by omega, by (first | rfl | go_num), HO4, HB4⟩, by simp [intOf]; omega⟩
      · have he : (ls' j == ((cnt + 1 : Nat) : Int)) = false := by
          rw [Bool.eq_false_iff]; intro e; exact hbp (hIF.1 (by simpa using e))
        rw [he] at KH
        have HN1 := hide (show grR P 0 (j + 1) = grR P 0 j ++ [(j : Int)] from by
          have ht : tb (P 0 j) = true := by rw [unhide HP]; simp [tb, hbp]
          simp [grR, ht])
        clear he hIF hbp
        go_wp2_with fail
        refine (unhide KH).mono ?_
        rintro _ w4 ⟨rfl, b4⟩
        have HB4 := hide ((unhide HW).trans (b4.mono (unhide HW).size))
        obtain ⟨C, hC⟩ : ∃ C, grR P 0 j = C := ⟨_, rfl⟩
        rw [hC] at HO hcl HN1
        have HO4 := hide (ownsRow_chg (S := fun _ => False) (unhide HO) (Chg.of_below b4) (fun _ _ x => x))
        have hmx : C.length + 1 ≤ maxLen := by unfold maxLen; omega
        have hby : (C.length + 1) * 8 ≤ 140737488355328 := by omega
        have hsz := (unhide HB4).size
        clear hC KH b4 HO
        go_wp2_with (at_builtin; refine wpList_append_lies _ rfl _ _ 23 rfl w3.heap.size 3 i64 (.int .i64 0) 1 8 Tryz.underlying23 (unhide HI).1 (unhide HI).2.1 (unhide HI).2.2.1 (unhide HI).2.2.2 rfl (by decide) u5 C.length (valsI C) rfl ((unhide HO4).alloc _) ⟨w4.heap.size, 0, none⟩ 1 1 [.int .i64 (j : Int)] rfl rfl (World.news_of_block (alloc_block _ _)) (hone _) (by decide) hmx hby (by simp; omega) (w4.heap.size + 1) (by simp) ?_)
        intro g2 cap w5 hown hgr hat hlt5
        have hB5 : Below w3.heap.size w3 w5 := ((unhide HB4).trans (((Below.refl w3.heap.size w4).alloc hsz _))).grown hgr (by simp; omega) (fun j hj => (own_ge (unhide HO4) j hj).1)
        have HN := hide (show w5.ownsRow w3.heap.size 3 1 (.slice (some ⟨g2, 0, none⟩) (C.length + 1) cap) (grR P 0 (j + 1)).length (valsI (grR P 0 (j + 1))) from by
          rw [unhide HN1]
          simpa [valsI] using hown)
        have HB5 := hide hB5
        clear hown hgr hat hlt5 hB5
        go_wp2_with fail
        exact ⟨⟨j + 1, by omega, by (first | rfl | go_num), HN, HB5⟩, by simp [intOf]; omega⟩
    · obtain rfl : j = z + 1 := by omega
      have hlt' : ¬ ((z + 1 : Nat) : Int) < (z : Int) + 1 := by omega
      obtain ⟨a, c, hv', hs'⟩ := own_slI (unhide HO)
      have HNEW := hide (show ∀ z, a = some z → w3.heap.size ≤ z.block from fun z hz => (own_ge (unhide HO) z.block (by rw [hv', hz]; rfl)).1)
      have HSS := hide hs'
      subst hv'
      clear hs' HO
      go_wp2_with fail
      try go_ret
      have hP := unhide HP
      subst hP
      exact ⟨z, a, c, ls', unhide HN, rfl, unhide HSS, fun x hx => Nat.le_trans (unhide HC3).size (unhide HNEW x hx), (unhide HB3).below (unhide HW), unhide HLE, (unhide HC3).trans (Chg.of_below (unhide HW)), by obtain ⟨p, k1⟩ := unhide HA3; exact ⟨p, k1.below ((unhide HW))⟩⟩
structure LstA (st cols : List Int) (R : Nat) (cs : Nat → Int) (v y : Nat) : Prop where
  may : ¬ BarA st cols R cs v y
  bar : ∀ j, j < y → BarA st cols R cs v j
theorem LstA.one {st cols : List Int} {R : Nat} {cs : Nat → Int} {v y x : Nat} (h : LstA st cols R cs v y) (k : LstA st cols R cs v x) : y = x := by
  rcases Nat.lt_trichotomy y x with c | c | c
  · exact absurd (k.bar y c) h.may
  · exact c
  · exact absurd (h.bar x c) k.may
def PntA (st cols : List Int) (R : Nat) (xs : List Int) : Nat → (Nat → Int) → Prop
  | 0, cs => cs = fun _ => -1
  | k + 1, cs => ∃ cs0 y, PntA st cols R xs k cs0 ∧ LstA st cols R cs0 (xs.getD k 0).toNat y ∧ cs = updC cs0 (xs.getD k 0).toNat y
theorem PntA.one {st cols : List Int} {R : Nat} {xs : List Int} : ∀ {k : Nat} {cs ds : Nat → Int}, PntA st cols R xs k cs → PntA st cols R xs k ds → cs = ds
  | 0, _, _, h, g => by unfold PntA at h g; rw [h, g]
  | k + 1, _, _, ⟨c, y, h1, h2, h3⟩, ⟨d, x, g1, g2, g3⟩ => by
    have e := PntA.one h1 g1
    subst e
    have e := h2.one g2
    subst e
    rw [h3, g3]
theorem LstA.prp {st cols : List Int} {R : Nat} {cs : Nat → Int} {v y : Nat} (hm : MayP (R : Int) (R : Int) st cols) (hg : GraP st cols R R) (h : LstA st cols R cs v y) (hp : PrpC st cols R cs) : PrpC st cols R (updC cs v y) := by
  intro u w e hu
  have key : ∀ x, adG st cols R v x → cs x ≠ (y : Int) := fun x hx e2 => h.may (.inl ⟨(x : Int), (ad_row hm hx.1).1 hx, by rw [show ((x : Int)).toNat = x by omega]; exact e2⟩)
  have ir := adG.ir hg
  unfold updC at hu ⊢
  by_cases c1 : u = v
  · subst c1
    have c2 : w ≠ u := fun e2 => by subst e2; exact ir _ e
    rw [if_pos rfl, if_neg c2]
    exact (key w e).symm
  · rw [if_neg c1] at hu ⊢
    by_cases c2 : w = v
    · subst c2
      rw [if_pos rfl]
      exact key u (adG.sy hg _ _ e)
    · rw [if_neg c2]
      exact hp u w e hu
theorem PntA.prp {R n : Nat} {st cols xs : List Int} (hm : MayP (R : Int) (R : Int) st cols) (hg : GraP st cols R R) : ∀ {k : Nat} {cs : Nat → Int}, PntA st cols R xs k cs → PrpC st cols R cs
  | 0, cs, h => by unfold PntA at h; subst h; intro u v _ h0; simp at h0
  | k + 1, cs, ⟨c, y, h1, h2, h3⟩ => by
    subst h3
    exact h2.prp hm hg (PntA.prp (n := n) hm hg h1)
theorem PntA.rng {R n : Nat} {st cols xs : List Int} (hm : MayP (R : Int) (R : Int) st cols) (hg : GraP st cols R R) (hx : ∀ i, i < n → 0 ≤ xs.getD i 0 ∧ xs.getD i 0 < (R : Int)) : ∀ {k : Nat} {cs : Nat → Int}, k ≤ n → PntA st cols R xs k cs → ∀ i, -1 ≤ cs i ∧ cs i < (k : Int)
  | 0, cs, _, h, i => by unfold PntA at h; subst h; simp
  | k + 1, cs, hk, ⟨c, y, h1, h2, h3⟩, i => by
    have ih := PntA.rng hm hg hx (by omega) h1
    subst h3
    unfold updC
    split
    · cases y with
      | zero => omega
      | succ j =>
        obtain ⟨i', _, he⟩ := (h2.bar j (by omega)).used hm (PntA.prp (n := n) hm hg h1) (by have := hx k (by omega); omega)
        have := ih i'
        omega
    · have := ih i
      omega
theorem FrA.head {w w' : World} {e : Ending} {X R : Nat} {vs : List Value} {b1 : Option Addr} {m1 d1 : Nat} {b2 : Option Addr} {m2 d2 g h cnt : Nat} {cs : Nat → Int} {st cols : List Int} {v z : Nat} {a : Option Addr} {c : Nat} {ls' : Nat → Int} (hpr : PrpC st cols R cs) (k : FrA w w' e X R vs b1 m1 d1 b2 m2 d2 g h cnt cs st cols v z a c ls') (hm : MayP (R : Int) (R : Int) st cols) (hv : v < R) (hc : ∀ i, i < R → -1 ≤ cs i ∧ cs i < (R : Int)) : ∃ y : Nat, (grR (fun _ j => ¬ BarA st cols R cs v j) 0 (z + 1)).getD 0 0 = (y : Int) ∧ 0 < (grR (fun _ j => ¬ BarA st cols R cs v j) 0 (z + 1)).length ∧ LstA st cols R cs v y := by
  rcases grR_head (P := fun _ j => ¬ BarA st cols R cs v j) (u := 0) (z + 1) with ⟨_, h2⟩ | ⟨y, h1, h2, h3, h4⟩
  · exfalso
    refine h2 z (by omega) (fun hb => ?_)
    obtain ⟨i, hi, he⟩ := hb.used hm hpr hv
    have := (numC_rng k.num hc).2.2 i hi
    omega
  · exact ⟨y, h1, h2, h3, fun j hj => Classical.byContradiction (h4 j hj)⟩
end Go.Proofs.YtgjokididdffhaaGreat
