/- Te7 -/
import Derived.Test.YtbbicappjicblaaGreatDoorTe6
namespace Go.Proofs.YtbbicappjicblaaGreatDoor
open Go.RowKit Go.Deep
set_option linter.unusedVariables false
theorem opR_val (i : Nat) (o : On) : opR i o = if ((twoK o.k || oneK o.k) && offI o.a i) = true then 106 else if (twoK o.k && offI o.b i) = true then 106 else if o.n < -1024 ∨ 1024 < o.n then 107 else 0 := by
 unfold opR opsL
 cases h2 : twoK o.k
 ·cases h1 : oneK o.k
  ·simp
  ·cases ha : offI o.a i <;> simp [ha]
 ·cases ha : offI o.a i <;> cases hb : offI o.b i <;> simp [ha, hb]
theorem two_not_one {k : Int} (h : twoK k = true) : oneK k = false := by unfold twoK at h; unfold oneK; simp at h ⊢; omega
set_option maxRecDepth 100000 in
set_option maxHeartbeats 64000000 in
theorem wnode_any (i : Int) (at' : Nat) (o : On) (w : World) (hok : NqL w o.p) (hT : Tab64 w) :
    Calls Tryz.prog 48 #[opV o, .int .i64 i, .int .i64 (at' : Int)] w fun e w' => e = .returned (.int .i64 (opF i at' o)) ∧ Below w.heap.size w w' := by
  obtain ⟨wo, hwo⟩ : ∃ x, w.alloc (.cells #[.int .i64 o.k, .int .i64 o.a, .int .i64 o.b, .int .i64 o.n, .bool o.p.g, .slice o.p.a o.p.n o.p.c, .slice o.p.b o.p.m o.p.d] 73) = x := ⟨_, rfl⟩
  have br : BoxP wo w.heap.size [.int .i64 o.k, .int .i64 o.a, .int .i64 o.b, .int .i64 o.n, .bool o.p.g, .slice o.p.a o.p.n o.p.c, .slice o.p.b o.p.m o.p.d] := by rw [← hwo]; exact BoxP.made _ _ _
  have hbo : Below w.heap.size w wo := by rw [← hwo]; exact (Below.refl _ _).alloc (Nat.le_refl _) _
  have y0 := (br.all 0 _ rfl).1
  have y1 := (br.all 1 _ rfl).1
  have y2 := (br.all 2 _ rfl).1
  have y3 := (br.all 3 _ rfl).1
  have y4 := (br.all 4 _ rfl).1
  have y5 := (br.all 5 _ rfl).1
  have y6 := (br.all 6 _ rfl).1
  have HBo := hide hbo
  have HOo := hide (hok.below hbo)
  have HTo := hide (hT.below hbo)
  have HKu := hide (fun (W : World) => (by
    have K := wunused_any o W hok.x.len.symm hok.y.len.symm
    unfold opV at K
    exact K : Calls Tryz.prog 74 #[.agg #[.int .i64 o.k, .int .i64 o.a, .int .i64 o.b, .int .i64 o.n, .bool o.p.g, .slice o.p.a o.p.n o.p.c, .slice o.p.b o.p.m o.p.d]] W fun e w' => e = .returned (.bool (unuO o)) ∧ Below W.heap.size W w'))
  clear br hbo hok hT
  unfold opV
  by_cases k0 : o.k < 1
  · have HR := hide (show opF i at' o = 103 by unfold opF; rw [if_pos (by omega)])
    go_enter Tryz.func48, Tryz.ntmps48
    go_wp2_with fail
    go_ret
    exact ⟨by rw [unhide HR]; rfl, unhide HBo⟩
  by_cases k9 : 8 < o.k
  · have HR := hide (show opF i at' o = 103 by unfold opF; rw [if_pos (by omega)])
    go_enter Tryz.func48, Tryz.ntmps48
    go_wp2_with fail
    go_ret
    exact ⟨by rw [unhide HR]; rfl, unhide HBo⟩
  obtain ⟨k, hkk⟩ : ∃ k : Nat, o.k = (k : Int) := ⟨o.k.toNat, by omega⟩
  have HKK := hide (show KKo o k from ⟨hkk, by omega, by omega⟩)
  clear hkk
  go_enter Tryz.func48, Tryz.ntmps48
  go_wp2_with fail
  refine (unhide HKu _).mono ?_
  rintro _ wq ⟨rfl, bE⟩
  have HBq := hide ((unhide HBo).trans (bE.mono (unhide HBo).size))
  have HOq := hide ((unhide HOo).below bE)
  have HTq := hide (show Tab64 wq from (unhide HTo).below bE)
  have q0 := (bE.cell (World.block_lt_of_cell? _ _ y0)).trans y0
  have q1 := (bE.cell (World.block_lt_of_cell? _ _ y1)).trans y1
  have q2 := (bE.cell (World.block_lt_of_cell? _ _ y2)).trans y2
  have q3 := (bE.cell (World.block_lt_of_cell? _ _ y3)).trans y3
  have q4 := (bE.cell (World.block_lt_of_cell? _ _ y4)).trans y4
  have q5 := (bE.cell (World.block_lt_of_cell? _ _ y5)).trans y5
  have q6 := (bE.cell (World.block_lt_of_cell? _ _ y6)).trans y6
  clear bE y0 y1 y2 y3 y4 y5 y6 HBo HOo HTo HKu k0 k9
  cases hu : unuO o
  rotate_left
  · have HR := hide (op_104 (unhide HKK) hu (inp := i) (i := at'))
    clear hu
    go_wp2_with fail
    go_ret
    exact ⟨by rw [unhide HR]; rfl, unhide HBq⟩
  have HU := hide hu
  clear hu
  by_cases k1 : o.k = 1
  focus
    have k1' : (o.k == 1) = true := by simpa using k1
    have k2' : (o.k == 2) = false := by rw [k1]; rfl
    have HK1 := hide (show k = 1 from by have := (unhide HKK).1; omega)
    have HKx := hide (show o.k ≤ 2 from by omega)
    clear k1
    cases ho1 : offI o.a i
    rotate_left
    · have HR := hide (op_105 ((unhide HK1) ▸ unhide HKK) (unhide HU) ho1 (i := at'))
      by_cases a0 : o.a < 0
      · go_wp2_with fail
        go_ret
        exact ⟨by rw [unhide HR]; rfl, unhide HBq⟩
      · have a1 : i ≤ o.a := by unfold offI at ho1; simp at ho1; omega
        go_wp2_with fail
        go_ret
        exact ⟨by rw [unhide HR]; rfl, unhide HBq⟩
    have HF := hide (opR_of (unhide HKK) (unhide HU) (fun _ => ho1) (fun e => by have := (unhide HKK).1; have := unhide HK1; omega) (i := at'))
    have a0 : ¬ o.a < 0 := by unfold offI at ho1; simp at ho1; omega
    have a1 : ¬ i ≤ o.a := by unfold offI at ho1; simp at ho1; omega
    clear ho1
    go_wp2_with fail
    clear a0 a1
  rotate_left
  focus
    have k1' : (o.k == 1) = false := by simpa using k1
    by_cases k2 : o.k = 2
    focus
      have k2' : (o.k == 2) = true := by simpa using k2
      have HK2 := hide (show k = 2 from by have := (unhide HKK).1; omega)
      have HKx := hide (show o.k ≤ 2 from by omega)
      clear k1 k2
      have HM := hide (fun (W : World) (hb : Below wq.heap.size wq W) => wmay_any o.p.g o.p.a o.p.b o.p.n o.p.c o.p.m o.p.d o.p.x o.p.y W ((unhide HOq).x.below hb) ((unhide HOq).y.below hb) (unhide HOq).ox (unhide HOq).oy)
      unfold ratV at HM
      cases hm : MayR o.p.g o.p.x o.p.y
      · have HR := hide (op_40 ((unhide HK2) ▸ unhide HKK) (unhide HU) hm (inp := i) (i := at'))
        rw [hm] at HM
        clear hm
        go_wp2_with fail
        refine (unhide HM _ (Below.refl _ _)).mono ?_
        rintro _ wz ⟨rfl, hb⟩
        have HBz := hide ((unhide HBq).trans (hb.mono (unhide HBq).size))
        clear hb
        go_wp2_with fail
        go_ret
        exact ⟨by rw [unhide HR]; rfl, unhide HBz⟩
      have HF := hide (opR_of (unhide HKK) (unhide HU) (fun e => by have := (unhide HKK).1; have := unhide HK2; omega) (fun _ => hm) (inp := i) (i := at'))
      rw [hm] at HM
      clear hm
      go_wp2_with fail
      refine (unhide HM _ (Below.refl _ _)).mono ?_
      rintro _ wq ⟨rfl, bE⟩
      have HBq := hide ((unhide HBq).trans (bE.mono (unhide HBq).size))
      have HOq := hide ((unhide HOq).below bE)
      have q0 := (bE.cell (World.block_lt_of_cell? _ _ q0)).trans q0
      have q1 := (bE.cell (World.block_lt_of_cell? _ _ q1)).trans q1
      have q2 := (bE.cell (World.block_lt_of_cell? _ _ q2)).trans q2
      have q3 := (bE.cell (World.block_lt_of_cell? _ _ q3)).trans q3
      clear bE HM
      go_wp2_with fail
    rotate_left
    focus
      have k2' : (o.k == 2) = false := by simpa using k2
      have HF := hide (opR_of (unhide HKK) (unhide HU) (fun e => absurd e k1) (fun e => absurd e k2) (inp := i) (i := at'))
      have HKx := hide (show True from trivial)
      clear k1 k2
      go_wp2_with fail
  all_goals
    have K1 := fun W => onef_any o.k W
    have K2 := fun W => two_any o.k W
    cases h2 : twoK o.k
    · rw [h2] at K2
      cases h1 : oneK o.k
      · rw [h1] at K1
        have HK1 := hide K1
        have HK2 := hide K2
        have HV := hide (show opR at' o = if o.n < -1024 ∨ 1024 < o.n then 107 else 0 by rw [opR_val, h1, h2]; simp)
        clear K1 K2 h1 h2
        by_cases n1 : o.n < -1024
        · have HN := hide (show opR at' o = 107 by rw [unhide HV, if_pos (.inl n1)])
          refine (unhide HK1 _).mono ?_
          rintro _ wz ⟨rfl, hw⟩
          obtain rfl := hw.symm
          clear hw
          go_wp2_with fail
          refine (unhide HK2 _).mono ?_
          rintro _ wz ⟨rfl, hw⟩
          obtain rfl := hw.symm
          clear hw
          go_wp2_with fail
          refine (unhide HK2 _).mono ?_
          rintro _ wz ⟨rfl, hw⟩
          obtain rfl := hw.symm
          clear hw
          go_wp2_with fail
          try go_ret
          exact ⟨by rw [unhide HF, unhide HN]; rfl, unhide HBq⟩
        by_cases n2 : 1024 < o.n
        · have HN := hide (show opR at' o = 107 by rw [unhide HV, if_pos (.inr n2)])
          refine (unhide HK1 _).mono ?_
          rintro _ wz ⟨rfl, hw⟩
          obtain rfl := hw.symm
          clear hw
          go_wp2_with fail
          refine (unhide HK2 _).mono ?_
          rintro _ wz ⟨rfl, hw⟩
          obtain rfl := hw.symm
          clear hw
          go_wp2_with fail
          refine (unhide HK2 _).mono ?_
          rintro _ wz ⟨rfl, hw⟩
          obtain rfl := hw.symm
          clear hw
          go_wp2_with fail
          try go_ret
          exact ⟨by rw [unhide HF, unhide HN]; rfl, unhide HBq⟩
        · have HN := hide (show opR at' o = 0 by rw [unhide HV, if_neg (by omega)])
          refine (unhide HK1 _).mono ?_
          rintro _ wz ⟨rfl, hw⟩
          obtain rfl := hw.symm
          clear hw
          go_wp2_with fail
          refine (unhide HK2 _).mono ?_
          rintro _ wz ⟨rfl, hw⟩
          obtain rfl := hw.symm
          clear hw
          go_wp2_with fail
          refine (unhide HK2 _).mono ?_
          rintro _ wz ⟨rfl, hw⟩
          obtain rfl := hw.symm
          clear hw
          go_wp2_with fail
          try go_ret
          exact ⟨by rw [unhide HF, unhide HN]; rfl, unhide HBq⟩
      · first
        | (exfalso; have hx := unhide HKx; unfold oneK at h1; simp only [Bool.and_eq_true, decide_eq_true_eq] at h1; omega)
        | (rw [h1] at K1
           have HK1 := hide K1
           have HK2 := hide K2
           have HV := hide (show opR at' o = if offI o.a at' = true then 106 else if o.n < -1024 ∨ 1024 < o.n then 107 else 0 by rw [opR_val, h1, h2]; simp)
           clear K1 K2 h1 h2
           by_cases a0 : o.a < 0
           · have HN := hide (show opR at' o = 106 by rw [unhide HV, if_pos (by simp [offI, a0])])
             refine (unhide HK1 _).mono ?_
             rintro _ wz ⟨rfl, hw⟩
             obtain rfl := hw.symm
             clear hw
             go_wp2_with fail
             try go_ret
             exact ⟨by rw [unhide HF, unhide HN]; rfl, unhide HBq⟩
           by_cases a1 : (at' : Int) ≤ o.a
           · have HN := hide (show opR at' o = 106 by rw [unhide HV, if_pos (by simp [offI, a1])])
             refine (unhide HK1 _).mono ?_
             rintro _ wz ⟨rfl, hw⟩
             obtain rfl := hw.symm
             clear hw
             go_wp2_with fail
             try go_ret
             exact ⟨by rw [unhide HF, unhide HN]; rfl, unhide HBq⟩
           by_cases n1 : o.n < -1024
           · have HN := hide (show opR at' o = 107 by rw [unhide HV, if_neg (by simp [offI, a0, a1]), if_pos (.inl n1)])
             refine (unhide HK1 _).mono ?_
             rintro _ wz ⟨rfl, hw⟩
             obtain rfl := hw.symm
             clear hw
             go_wp2_with fail
             refine (unhide HK2 _).mono ?_
             rintro _ wz ⟨rfl, hw⟩
             obtain rfl := hw.symm
             clear hw
             go_wp2_with fail
             try go_ret
             exact ⟨by rw [unhide HF, unhide HN]; rfl, unhide HBq⟩
           by_cases n2 : 1024 < o.n
           · have HN := hide (show opR at' o = 107 by rw [unhide HV, if_neg (by simp [offI, a0, a1]), if_pos (.inr n2)])
             refine (unhide HK1 _).mono ?_
             rintro _ wz ⟨rfl, hw⟩
             obtain rfl := hw.symm
             clear hw
             go_wp2_with fail
             refine (unhide HK2 _).mono ?_
             rintro _ wz ⟨rfl, hw⟩
             obtain rfl := hw.symm
             clear hw
             go_wp2_with fail
             try go_ret
             exact ⟨by rw [unhide HF, unhide HN]; rfl, unhide HBq⟩
           · have HN := hide (show opR at' o = 0 by rw [unhide HV, if_neg (by simp [offI, a0, a1]), if_neg (by omega)])
             refine (unhide HK1 _).mono ?_
             rintro _ wz ⟨rfl, hw⟩
             obtain rfl := hw.symm
             clear hw
             go_wp2_with fail
             refine (unhide HK2 _).mono ?_
             rintro _ wz ⟨rfl, hw⟩
             obtain rfl := hw.symm
             clear hw
             go_wp2_with fail
             try go_ret
             exact ⟨by rw [unhide HF, unhide HN]; rfl, unhide HBq⟩)
    · first
      | (exfalso; have hx := unhide HKx; unfold twoK at h2; simp only [Bool.and_eq_true, decide_eq_true_eq] at h2; omega)
      | (rw [h2] at K2
         have K1' := K1
         rw [two_not_one h2] at K1'
         have HK1 := hide K1'
         have HK2 := hide K2
         have HV := hide (show opR at' o = if offI o.a at' = true then 106 else if offI o.b at' = true then 106 else if o.n < -1024 ∨ 1024 < o.n then 107 else 0 by rw [opR_val, h2]; simp)
         clear K1 K1' K2 h2
         by_cases a0 : o.a < 0
         · have HN := hide (show opR at' o = 106 by rw [unhide HV, if_pos (by simp [offI, a0])])
           refine (unhide HK1 _).mono ?_
           rintro _ wz ⟨rfl, hw⟩
           obtain rfl := hw.symm
           clear hw
           go_wp2_with fail
           refine (unhide HK2 _).mono ?_
           rintro _ wz ⟨rfl, hw⟩
           obtain rfl := hw.symm
           clear hw
           go_wp2_with fail
           try go_ret
           exact ⟨by rw [unhide HF, unhide HN]; rfl, unhide HBq⟩
         by_cases a1 : (at' : Int) ≤ o.a
         · have HN := hide (show opR at' o = 106 by rw [unhide HV, if_pos (by simp [offI, a1])])
           refine (unhide HK1 _).mono ?_
           rintro _ wz ⟨rfl, hw⟩
           obtain rfl := hw.symm
           clear hw
           go_wp2_with fail
           refine (unhide HK2 _).mono ?_
           rintro _ wz ⟨rfl, hw⟩
           obtain rfl := hw.symm
           clear hw
           go_wp2_with fail
           try go_ret
           exact ⟨by rw [unhide HF, unhide HN]; rfl, unhide HBq⟩
         by_cases b0 : o.b < 0
         · have HN := hide (show opR at' o = 106 by rw [unhide HV, if_neg (by simp [offI, a0, a1]), if_pos (by simp [offI, b0])])
           refine (unhide HK1 _).mono ?_
           rintro _ wz ⟨rfl, hw⟩
           obtain rfl := hw.symm
           clear hw
           go_wp2_with fail
           refine (unhide HK2 _).mono ?_
           rintro _ wz ⟨rfl, hw⟩
           obtain rfl := hw.symm
           clear hw
           go_wp2_with fail
           refine (unhide HK2 _).mono ?_
           rintro _ wz ⟨rfl, hw⟩
           obtain rfl := hw.symm
           clear hw
           go_wp2_with fail
           try go_ret
           exact ⟨by rw [unhide HF, unhide HN]; rfl, unhide HBq⟩
         by_cases b1 : (at' : Int) ≤ o.b
         · have HN := hide (show opR at' o = 106 by rw [unhide HV, if_neg (by simp [offI, a0, a1]), if_pos (by simp [offI, b1])])
           refine (unhide HK1 _).mono ?_
           rintro _ wz ⟨rfl, hw⟩
           obtain rfl := hw.symm
           clear hw
           go_wp2_with fail
           refine (unhide HK2 _).mono ?_
           rintro _ wz ⟨rfl, hw⟩
           obtain rfl := hw.symm
           clear hw
           go_wp2_with fail
           refine (unhide HK2 _).mono ?_
           rintro _ wz ⟨rfl, hw⟩
           obtain rfl := hw.symm
           clear hw
           go_wp2_with fail
           try go_ret
           exact ⟨by rw [unhide HF, unhide HN]; rfl, unhide HBq⟩
         by_cases n1 : o.n < -1024
         · have HN := hide (show opR at' o = 107 by rw [unhide HV, if_neg (by simp [offI, a0, a1]), if_neg (by simp [offI, b0, b1]), if_pos (.inl n1)])
           refine (unhide HK1 _).mono ?_
           rintro _ wz ⟨rfl, hw⟩
           obtain rfl := hw.symm
           clear hw
           go_wp2_with fail
           refine (unhide HK2 _).mono ?_
           rintro _ wz ⟨rfl, hw⟩
           obtain rfl := hw.symm
           clear hw
           go_wp2_with fail
           refine (unhide HK2 _).mono ?_
           rintro _ wz ⟨rfl, hw⟩
           obtain rfl := hw.symm
           clear hw
           go_wp2_with fail
           try go_ret
           exact ⟨by rw [unhide HF, unhide HN]; rfl, unhide HBq⟩
         by_cases n2 : 1024 < o.n
         · have HN := hide (show opR at' o = 107 by rw [unhide HV, if_neg (by simp [offI, a0, a1]), if_neg (by simp [offI, b0, b1]), if_pos (.inr n2)])
           refine (unhide HK1 _).mono ?_
           rintro _ wz ⟨rfl, hw⟩
           obtain rfl := hw.symm
           clear hw
           go_wp2_with fail
           refine (unhide HK2 _).mono ?_
           rintro _ wz ⟨rfl, hw⟩
           obtain rfl := hw.symm
           clear hw
           go_wp2_with fail
           refine (unhide HK2 _).mono ?_
           rintro _ wz ⟨rfl, hw⟩
           obtain rfl := hw.symm
           clear hw
           go_wp2_with fail
           try go_ret
           exact ⟨by rw [unhide HF, unhide HN]; rfl, unhide HBq⟩
         · have HN := hide (show opR at' o = 0 by rw [unhide HV, if_neg (by simp [offI, a0, a1]), if_neg (by simp [offI, b0, b1]), if_neg (by omega)])
           refine (unhide HK1 _).mono ?_
           rintro _ wz ⟨rfl, hw⟩
           obtain rfl := hw.symm
           clear hw
           go_wp2_with fail
           refine (unhide HK2 _).mono ?_
           rintro _ wz ⟨rfl, hw⟩
           obtain rfl := hw.symm
           clear hw
           go_wp2_with fail
           refine (unhide HK2 _).mono ?_
           rintro _ wz ⟨rfl, hw⟩
           obtain rfl := hw.symm
           clear hw
           go_wp2_with fail
           try go_ret
           exact ⟨by rw [unhide HF, unhide HN]; rfl, unhide HBq⟩)
def szF (i : Int) (n m : Nat) : Int := if i < 0 ∨ 64 < i then 100 else if 2048 < n then 101 else if m = 0 ∨ 64 < m then 102 else 0
set_option maxRecDepth 100000 in
set_option maxHeartbeats 16000000 in
theorem tsizes_any (i : Int) (a : Option Addr) (n c : Nat) (b : Option Addr) (m d : Nat) (w : World) :
  Calls Tryz.prog 67 #[tapV i a n c b m d] w fun e w' => e = .returned (.int .i64 (szF i n m)) ∧ Below w.heap.size w w' := by
 obtain ⟨wa, hwa⟩ : ∃ x, w.alloc (.cells #[.int .i64 i, .slice a n c, .slice b m d] 25) = x := ⟨_, rfl⟩
 have bx : BoxP wa w.heap.size [.int .i64 i, .slice a n c, .slice b m d] := by rw [← hwa]; exact BoxP.made _ _ _
 have hba : Below w.heap.size w wa := by rw [← hwa]; exact (Below.refl _ _).alloc (Nat.le_refl _) _
 have g0 := (bx.all 0 _ rfl).1
 have g1 := (bx.all 1 _ rfl).1
 have g2 := (bx.all 2 _ rfl).1
 have HB := hide hba
 clear bx hba
 unfold tapV
 by_cases i0 : i < 0
 ·have HR := hide (show szF i n m = 100 by unfold szF; rw [if_pos (by omega)])
  go_enter Tryz.func67, Tryz.ntmps67
  go_wp2_with fail
  go_ret
  exact ⟨by rw [unhide HR]; try rfl, unhide HB⟩
 by_cases i1 : 64 < i
 ·have HR := hide (show szF i n m = 100 by unfold szF; rw [if_pos (by omega)])
  go_enter Tryz.func67, Tryz.ntmps67
  go_wp2_with fail
  go_ret
  exact ⟨by rw [unhide HR]; try rfl, unhide HB⟩
 by_cases n1 : 2048 < (n : Int)
 ·have HR := hide (show szF i n m = 101 by unfold szF; rw [if_neg (by omega), if_pos (by omega)])
  go_enter Tryz.func67, Tryz.ntmps67
  go_wp2_with fail
  go_ret
  exact ⟨by rw [unhide HR]; try rfl, unhide HB⟩
 by_cases m0 : m = 0
 ·have HR := hide (show szF i n m = 102 by unfold szF; rw [if_neg (by omega), if_neg (by omega), if_pos (by omega)])
  have m0' : ((m : Int) == 0) = true := by simpa using m0
  clear m0
  go_enter Tryz.func67, Tryz.ntmps67
  go_wp2_with fail
  go_ret
  exact ⟨by rw [unhide HR]; try rfl, unhide HB⟩
 have m0' : ((m : Int) == 0) = false := by simpa using m0
 by_cases m1 : 64 < (m : Int)
 ·have HR := hide (show szF i n m = 102 by unfold szF; rw [if_neg (by omega), if_neg (by omega), if_pos (by omega)])
  clear m0
  go_enter Tryz.func67, Tryz.ntmps67
  go_wp2_with fail
  go_ret
  exact ⟨by rw [unhide HR]; try rfl, unhide HB⟩
 ·have HR := hide (show szF i n m = 0 by unfold szF; rw [if_neg (by omega), if_neg (by omega), if_neg (by omega)])
  clear m0
  go_enter Tryz.func67, Tryz.ntmps67
  go_wp2_with fail
  go_ret
  exact ⟨by rw [unhide HR]; try rfl, unhide HB⟩
theorem chF_sz {i : Int} {os : List On} {ys : List Int} {n m : Nat} (hn : os.length = n) (hm : ys.length = m) (h : szF i n m ≠ 0) : chF i os ys = (-1, szF i n m) := by
 unfold chF
 unfold szF at h ⊢
 rw [hn, hm]
 split
 ·rfl
 ·split
  ·rfl
  ·split
   ·rfl
   ·rename_i h1 h2 h3
    rw [if_neg h1, if_neg h2, if_neg h3] at h
    exact absurd rfl h
theorem chF_in {i : Int} {os : List On} {ys : List Int} {n m : Nat} (hn : os.length = n) (hm : ys.length = m) (h : szF i n m = 0) : (0 ≤ i ∧ i ≤ 64) ∧ n ≤ 2048 ∧ (0 < m ∧ m ≤ 64) ∧ chF i os ys = ((opsF i 0 os).getD ((outsF n 0 ys).getD (0, 0))) := by
 unfold szF at h
 split at h
 ·cases h
 split at h
 ·cases h
 split at h
 ·cases h
 rename_i h1 h2 h3
 refine ⟨by omega, by omega, by omega, ?_⟩
 unfold chF
 rw [hn, hm, if_neg h1, if_neg h2, if_neg h3]
 cases opsF i 0 os
 ·cases outsF n 0 ys <;> rfl
 ·rfl
set_option maxRecDepth 100000 in
set_option maxHeartbeats 16000000 in
theorem tcheck_any (i : Int) (a : Option Addr) (n c : Nat) (os : List On) (b : Option Addr) (m d : Nat) (ys : List Int) (w : World) (hs : SlO w a n c os) (hy : SlI w b m d ys) (hT : Tab64 w) (hS : TabSh w) :
  Calls Tryz.prog 43 #[tapV i a n c b m d] w fun e w' => e = .returned (.tuple #[.int .i64 (chF i os ys).1, .int .i64 (chF i os ys).2]) ∧ Below w.heap.size w w' := by
 obtain ⟨wa, hwa⟩ : ∃ x, w.alloc (.cells #[.int .i64 i, .slice a n c, .slice b m d] 25) = x := ⟨_, rfl⟩
 have bx : BoxP wa w.heap.size [.int .i64 i, .slice a n c, .slice b m d] := by rw [← hwa]; exact BoxP.made _ _ _
 have hba : Below w.heap.size w wa := by rw [← hwa]; exact (Below.refl _ _).alloc (Nat.le_refl _) _
 have g0 := (bx.all 0 _ rfl).1
 have g1 := (bx.all 1 _ rfl).1
 have g2 := (bx.all 2 _ rfl).1
 have HB := hide hba
 have HS := hide (hs.below hba)
 have HY := hide (hy.below hba)
 have HT := hide (And.intro (hT.below hba) (hS.below hba))
 have hn := hs.len
 have hm := hy.len
 have HZ := hide (fun W => tsizes_any i a n c b m d W)
 unfold tapV at HZ
 have HN := hide (And.intro hn hm)
 clear bx hba hs hy hT hS hn hm
 unfold tapV
 go_enter Tryz.func43, Tryz.ntmps43
 go_wp2_with fail
 refine (unhide HZ _).mono ?_
 rintro _ w1 ⟨rfl, b1⟩
 have HB1 := hide ((unhide HB).trans (b1.mono (unhide HB).size))
 have g0 := (b1.cell (World.block_lt_of_cell? _ _ g0)).trans g0
 have g1 := (b1.cell (World.block_lt_of_cell? _ _ g1)).trans g1
 have g2 := (b1.cell (World.block_lt_of_cell? _ _ g2)).trans g2
 have HS1 := hide ((unhide HS).below b1)
 have HY1 := hide ((unhide HY).below b1)
 have HT1 := hide (And.intro ((unhide HT).1.below b1) ((unhide HT).2.below b1))
 clear b1 HB HS HY HT hwa
 by_cases hz : szF i n m = 0
 rotate_left
 ·have HR := hide (chF_sz (os := os) (ys := ys) (unhide HN).1 (unhide HN).2 hz)
  have hz1 : (szF i n m != 0) = true := by simpa using hz
  obtain ⟨z, hzz⟩ : ∃ z, szF i n m = z := ⟨_, rfl⟩
  rw [hzz] at hz1 HR ⊢
  clear hz hzz
  go_wp2_with fail
  try go_ret2
  exact ⟨by rw [unhide HR]; try rfl, unhide HB1⟩
 obtain ⟨hi, hn2, hm2, hR⟩ := chF_in (unhide HN).1 (unhide HN).2 hz
 have HR := hide hR
 rw [hz]
 clear hz hR HZ
 go_wp2_with fail
 go_loopw [17] (fun iv wr => ∃ k : Nat, k ≤ n ∧ iv = .int .i64 (k : Int) ∧ Hid (Below w1.heap.size w1 wr) ∧ Hid (opsF i 0 os = opsF i k (os.drop k))) (fun iv _ => n - (intOf iv).toNat)
 case atStart => exact ⟨0, Nat.zero_le _, rfl, hide (Below.refl _ _), hide (by simp)⟩
 case round =>
  obtain ⟨k, hk, rfl, HBr, HF⟩ := hrel
  have r0 := ((unhide HBr).cell (World.block_lt_of_cell? _ _ g0)).trans g0
  have r1 := ((unhide HBr).cell (World.block_lt_of_cell? _ _ g1)).trans g1
  have r2 := ((unhide HBr).cell (World.block_lt_of_cell? _ _ g2)).trans g2
  by_cases hlt : k < n
  ·have hlt' : (k : Int) < (n : Int) := by omega
   obtain ⟨o, ho⟩ : ∃ o, os[k]? = some o := ⟨_, List.getElem?_eq_getElem (show k < os.length by have := (unhide HN).1; omega)⟩
   have HK := hide (fun (W : World) (hb : Below wr.heap.size wr W) => (by
    have K := topf_any i a n c os b m d k o W ((unhide HS1).below ((unhide HBr).trans (hb.mono (unhide HBr).size))) ho (by omega) ((unhide HT1).1.below ((unhide HBr).trans (hb.mono (unhide HBr).size))) ((unhide HT1).2.below ((unhide HBr).trans (hb.mono (unhide HBr).size)))
    unfold tapV at K
    exact K : Calls Tryz.prog 68 #[.agg #[.int .i64 i, .slice a n c, .slice b m d], .int .i64 (k : Int)] W fun e w' => e = .returned (.int .i64 (opF i k o)) ∧ Below W.heap.size W w'))
   have hst := opsF_drop i os ho k
   obtain ⟨z, hzz⟩ : ∃ z, opF i k o = z := ⟨_, rfl⟩
   rw [hzz] at hst
   simp only [hzz] at HK
   clear ho hzz
   go_wp2_with fail
   refine (unhide HK _ (Below.refl _ _)).mono ?_
   rintro _ w2 ⟨rfl, b2⟩
   have HB2 := hide ((unhide HBr).trans (b2.mono (unhide HBr).size))
   clear b2 HK
   by_cases hz : z = 0
   ·rw [if_pos hz] at hst
    have HF2 := hide ((unhide HF).trans hst)
    have hz1 : (z != 0) = false := by simpa using hz
    clear hst hz
    go_wp2_with fail
    exact ⟨⟨k + 1, by omega, by (first | rfl | go_num), HB2, HF2⟩, by simp [intOf]; omega⟩
   ·rw [if_neg hz] at hst
    have HR2 := hide (show chF i os ys = ((k : Int), z) from by rw [unhide HR, unhide HF, hst]; rfl)
    have hz1 : (z != 0) = true := by simpa using hz
    clear hst hz
    go_wp2_with fail
    try go_ret2
    exact ⟨by rw [unhide HR2]; try rfl, (unhide HB1).trans ((unhide HB2).mono (unhide HB1).size)⟩
  ·obtain rfl : k = n := by omega
   have hlt' : ¬ (k : Int) < (k : Int) := by omega
   have HR2 := hide (show chF i os ys = (outsF k 0 ys).getD (0, 0) from by rw [unhide HR, unhide HF, opsF_end i os (unhide HN).1]; rfl)
   clear HR HF
   go_wp2_with fail
   go_loopw [31] (fun iv wr' => ∃ j : Nat, j ≤ m ∧ iv = .int .i64 (j : Int) ∧ wr' = wr ∧ Hid (outsF k 0 ys = outsF k j (ys.drop j))) (fun iv _ => m - (intOf iv).toNat)
   case atStart => exact ⟨0, Nat.zero_le _, rfl, rfl, hide (by simp)⟩
   case round =>
    obtain ⟨j, hj, rfl, hw, HF⟩ := hrel
    obtain rfl := hw.symm
    clear hw
    by_cases hlj : j < m
    ·have hlj' : (j : Int) < (m : Int) := by omega
     have hst := outsF_drop k ys (show j < ys.length by have := (unhide HN).2; omega) j
     obtain ⟨zb, zo, rfl, hc⟩ := ((unhide HY1).below (unhide HBr)).at (by omega)
     have sk := hc j hlj
     obtain ⟨v, hv⟩ : ∃ v, ys.getD j 0 = v := ⟨_, rfl⟩
     rw [hv] at sk hst
     clear hc hv
     have KB := fun W => tbelow_any v k W
     cases hof : offI v k
     ·rw [hof] at KB hst
      rw [if_neg (by decide)] at hst
      have HF2 := hide ((unhide HF).trans hst)
      have HK := hide KB
      clear KB hof hst
      go_wp2_with fail
      refine (unhide HK _).mono ?_
      rintro _ wz ⟨rfl, hw⟩
      obtain rfl := hw.symm
      clear hw HK
      go_wp2_with fail
      exact ⟨⟨j + 1, by omega, by (first | rfl | go_num), (by first | rfl | trivial), HF2⟩, by simp [intOf]; omega⟩
     ·rw [hof] at KB hst
      rw [if_pos rfl] at hst
      have HR3 := hide (show chF i os ys = ((k : Int) + j, 108) from by rw [unhide HR2, unhide HF, hst]; rfl)
      have HK := hide KB
      clear KB hof hst
      go_wp2_with fail
      refine (unhide HK _).mono ?_
      rintro _ wz ⟨rfl, hw⟩
      obtain rfl := hw.symm
      clear hw HK
      go_wp2_with fail
      try go_ret2
      exact ⟨by rw [unhide HR3]; (first | rfl | (simp; go_num)), (unhide HB1).trans ((unhide HBr).mono (unhide HB1).size)⟩
    ·obtain rfl : j = m := by omega
     have hlj' : ¬ (j : Int) < (j : Int) := by omega
     have HR3 := hide (show chF i os ys = (0, 0) from by rw [unhide HR2, unhide HF, outsF_end k ys (unhide HN).2]; rfl)
     go_wp2_with fail
     try go_ret2
     exact ⟨by rw [unhide HR3]; try rfl, (unhide HB1).trans ((unhide HBr).mono (unhide HB1).size)⟩
set_option maxRecDepth 100000 in
set_option maxHeartbeats 16000000 in
theorem tchk_any (i : Int) (a : Option Addr) (n c : Nat) (os : List On) (b : Option Addr) (m d : Nat) (ys : List Int) (w : World) (hs : SlO w a n c os) (hy : SlI w b m d ys) (hT : Tab64 w) (hS : TabSh w) :
  Calls Tryz.prog 65 #[tapV i a n c b m d] w fun e w' => e = .returned (.int .i64 (chF i os ys).2) ∧ Below w.heap.size w w' := by
 have hbo : Below w.heap.size w (w.alloc (.cells #[.int .i64 i, .slice a n c, .slice b m d] 25)) := (Below.refl _ _).alloc (Nat.le_refl _) _
 have K := tcheck_any i a n c os b m d ys _ (hs.below hbo) (hy.below hbo) (hT.below hbo) (hS.below hbo)
 have HK := hide K
 have HB := hide hbo
 unfold tapV at HK ⊢
 clear K hs hy hT hS hbo
 go_enter Tryz.func65, Tryz.ntmps65
 go_wp2_with fail
 refine (unhide HK).mono ?_
 rintro _ w1 ⟨rfl, b1⟩
 have HB1 := hide ((unhide HB).trans (b1.mono (unhide HB).size))
 clear b1 HK
 go_wp2_with fail
 go_ret
 exact ⟨rfl, unhide HB1⟩
set_option maxRecDepth 100000 in
set_option maxHeartbeats 16000000 in
theorem wcheck_any (i : Int) (a : Option Addr) (n c : Nat) (os : List On) (b : Option Addr) (m d : Nat) (ys : List Int) (w : World) (hs : SlO w a n c os) (hy : SlI w b m d ys) (hT : Tab64 w) :
  Calls Tryz.prog 23 #[tapV i a n c b m d] w fun e w' => e = .returned (.tuple #[.int .i64 (chF i os ys).1, .int .i64 (chF i os ys).2]) ∧ Below w.heap.size w w' := by
 obtain ⟨w1, hwa⟩ : ∃ x, w.alloc (.cells #[.int .i64 i, .slice a n c, .slice b m d] 25) = x := ⟨_, rfl⟩
 have bx : BoxP w1 w.heap.size [.int .i64 i, .slice a n c, .slice b m d] := by rw [← hwa]; exact BoxP.made _ _ _
 have hba : Below w.heap.size w w1 := by rw [← hwa]; exact (Below.refl _ _).alloc (Nat.le_refl _) _
 have g0 := (bx.all 0 _ rfl).1
 have g1 := (bx.all 1 _ rfl).1
 have g2 := (bx.all 2 _ rfl).1
 have HB1 := hide hba
 have HS1 := hide (hs.below hba)
 have HY1 := hide (hy.below hba)
 have HT1 := hide (hT.below hba)
 have HN := hide (And.intro hs.len hy.len)
 clear bx hba hs hy hT
 unfold tapV
 by_cases hz : szF i n m = 0
 rotate_left
 ·have HR := hide (chF_sz (os := os) (ys := ys) (unhide HN).1 (unhide HN).2 hz)
  by_cases i0 : i < 0
  ·have HV := hide (show szF i n m = 100 by unfold szF; rw [if_pos (by omega)])
   go_enter Tryz.func23, Tryz.ntmps23
   go_wp2_with fail
   try go_ret2
   exact ⟨by rw [unhide HR, unhide HV]; try rfl, unhide HB1⟩
  by_cases i1 : 64 < i
  ·have HV := hide (show szF i n m = 100 by unfold szF; rw [if_pos (by omega)])
   go_enter Tryz.func23, Tryz.ntmps23
   go_wp2_with fail
   try go_ret2
   exact ⟨by rw [unhide HR, unhide HV]; try rfl, unhide HB1⟩
  by_cases n1 : 2048 < (n : Int)
  ·have HV := hide (show szF i n m = 101 by unfold szF; rw [if_neg (by omega), if_pos (by omega)])
   go_enter Tryz.func23, Tryz.ntmps23
   go_wp2_with fail
   try go_ret2
   exact ⟨by rw [unhide HR, unhide HV]; try rfl, unhide HB1⟩
  by_cases m0 : m = 0
  ·have HV := hide (show szF i n m = 102 by unfold szF; rw [if_neg (by omega), if_neg (by omega), if_pos (by omega)])
   have m0' : ((m : Int) == 0) = true := by simpa using m0
   clear m0
   go_enter Tryz.func23, Tryz.ntmps23
   go_wp2_with fail
   try go_ret2
   exact ⟨by rw [unhide HR, unhide HV]; try rfl, unhide HB1⟩
  have m0' : ((m : Int) == 0) = false := by simpa using m0
  have m1 : 64 < (m : Int) := by unfold szF at hz; rw [if_neg (by omega), if_neg (by omega)] at hz; split at hz <;> omega
  have HV := hide (show szF i n m = 102 by unfold szF; rw [if_neg (by omega), if_neg (by omega), if_pos (by omega)])
  clear m0
  go_enter Tryz.func23, Tryz.ntmps23
  go_wp2_with fail
  try go_ret2
  exact ⟨by rw [unhide HR, unhide HV]; try rfl, unhide HB1⟩
 obtain ⟨hi, hn2, hm2, hR⟩ := chF_in (unhide HN).1 (unhide HN).2 hz
 have HR := hide hR
 have i0 : ¬ i < 0 := by omega
 have i1 : ¬ 64 < i := by omega
 have n1 : ¬ 2048 < (n : Int) := by omega
 have m0' : ((m : Int) == 0) = false := by simp; omega
 have m1 : ¬ 64 < (m : Int) := by omega
 clear hz hR
 go_enter Tryz.func23, Tryz.ntmps23
 go_wp2_with fail
 clear i0 i1 n1 m0' m1
 go_loopw [4] (fun iv wr => ∃ k : Nat, k ≤ n ∧ iv = .int .i64 (k : Int) ∧ Hid (Below w1.heap.size w1 wr) ∧ Hid (opsF i 0 os = opsF i k (os.drop k))) (fun iv _ => n - (intOf iv).toNat)
 case atStart => exact ⟨0, Nat.zero_le _, rfl, hide (Below.refl _ _), hide (by simp)⟩
 case round =>
  obtain ⟨k, hk, rfl, HBr, HF⟩ := hrel
  have r0 := ((unhide HBr).cell (World.block_lt_of_cell? _ _ g0)).trans g0
  have r1 := ((unhide HBr).cell (World.block_lt_of_cell? _ _ g1)).trans g1
  have r2 := ((unhide HBr).cell (World.block_lt_of_cell? _ _ g2)).trans g2
  by_cases hlt : k < n
  ·have hlt' : (k : Int) < (n : Int) := by omega
   obtain ⟨o, ho⟩ : ∃ o, os[k]? = some o := ⟨_, List.getElem?_eq_getElem (show k < os.length by have := (unhide HN).1; omega)⟩
   obtain ⟨b1, off, o', rfl, hoo, O, hok⟩ := ((unhide HS1).below (unhide HBr)).at' hlt
   obtain rfl : o = o' := by rw [ho] at hoo; exact Option.some.inj hoo
   obtain ⟨c0, c1, c2, c3, c4, c5, c6⟩ := O
   have HK := hide (fun (W : World) (hb : Below wr.heap.size wr W) => (by
    have K := wnode_any i k o W (hok.below hb) ((unhide HT1).below ((unhide HBr).trans (hb.mono (unhide HBr).size)))
    unfold opV at K
    exact K : Calls Tryz.prog 48 #[.agg #[.int .i64 o.k, .int .i64 o.a, .int .i64 o.b, .int .i64 o.n, .bool o.p.g, .slice o.p.a o.p.n o.p.c, .slice o.p.b o.p.m o.p.d], .int .i64 i, .int .i64 (k : Int)] W fun e w' => e = .returned (.int .i64 (opF i k o)) ∧ Below W.heap.size W w'))
   have hst := opsF_drop i os ho k
   obtain ⟨z, hzz⟩ : ∃ z, opF i k o = z := ⟨_, rfl⟩
   rw [hzz] at hst
   simp only [hzz] at HK
   have Fr0 := fun x : Ext wr => x.cell r0
   have Fr1 := fun x : Ext wr => x.cell r1
   have Fc0 := fun x : Ext wr => x.cell c0
   have Fc1 := fun x : Ext wr => x.cell c1
   have Fc2 := fun x : Ext wr => x.cell c2
   have Fc3 := fun x : Ext wr => x.cell c3
   have Fc4 := fun x : Ext wr => x.cell c4
   have Fc5 := fun x : Ext wr => x.cell c5
   have Fc6 := fun x : Ext wr => x.cell c6
   have hNE := Ext.ne wr
   clear ho hoo hok hzz
   go_wp2_with fail
   refine wp_region_ext (by kernel_rfl) (by kernel_rfl) ?_
   repeat (go_big_quiet_step (first | (go_at_call 48; rename_i x; exact Ext.call (unhide HK x.w x.bel) (fun e w' h => h))))
   refine wpQuiet_nil ?_
   rintro _ ⟨xE, rfl⟩
   have HB2 := hide ((unhide HBr).trans (xE.bel.mono (unhide HBr).size))
   clear Fr0 Fr1 Fc0 Fc1 Fc2 Fc3 Fc4 Fc5 Fc6 hNE HK
   by_cases hz : z = 0
   ·rw [if_pos hz] at hst
    have HF2 := hide ((unhide HF).trans hst)
    have hz1 : (z != 0) = false := by simpa using hz
    clear hst hz
    go_wp2_with fail
    exact ⟨⟨k + 1, by omega, by (first | rfl | go_num), HB2, HF2⟩, by simp [intOf]; omega⟩
   ·rw [if_neg hz] at hst
    have HR2 := hide (show chF i os ys = ((k : Int), z) from by rw [unhide HR, unhide HF, hst]; rfl)
    have hz1 : (z != 0) = true := by simpa using hz
    clear hst hz
    go_wp2_with fail
    try go_ret2
    exact ⟨by rw [unhide HR2]; try rfl, (unhide HB1).trans ((unhide HB2).mono (unhide HB1).size)⟩
  ·obtain rfl : k = n := by omega
   have hlt' : ¬ (k : Int) < (k : Int) := by omega
   have HR2 := hide (show chF i os ys = (outsF k 0 ys).getD (0, 0) from by rw [unhide HR, unhide HF, opsF_end i os (unhide HN).1]; rfl)
   clear HR HF
   go_wp2_with fail
   go_loopw [6] (fun iv wr' => ∃ j : Nat, j ≤ m ∧ iv = .int .i64 (j : Int) ∧ Hid (Below w1.heap.size w1 wr') ∧ Hid (outsF k 0 ys = outsF k j (ys.drop j))) (fun iv _ => m - (intOf iv).toNat)
   case atStart => exact ⟨0, Nat.zero_le _, rfl, HBr, hide (by simp)⟩
   case round =>
    obtain ⟨j, hj, rfl, HBr, HF⟩ := hrel
    have r0 := ((unhide HBr).cell (World.block_lt_of_cell? _ _ g0)).trans g0
    have r1 := ((unhide HBr).cell (World.block_lt_of_cell? _ _ g1)).trans g1
    have r2 := ((unhide HBr).cell (World.block_lt_of_cell? _ _ g2)).trans g2
    by_cases hlj : j < m
    ·have hlj' : (j : Int) < (m : Int) := by omega
     have hst := outsF_drop k ys (show j < ys.length by have := (unhide HN).2; omega) j
     obtain ⟨zb, zo, rfl, hc⟩ := ((unhide HY1).below (unhide HBr)).at (by omega)
     have sk := hc j hlj
     obtain ⟨v, hv⟩ : ∃ v, ys.getD j 0 = v := ⟨_, rfl⟩
     rw [hv] at sk hst
     clear hc hv
     cases hof : offI v k
     ·rw [hof, if_neg (by decide)] at hst
      have HF2 := hide ((unhide HF).trans hst)
      have v0 : ¬ v < 0 := by unfold offI at hof; simp at hof; omega
      have v1 : ¬ (k : Int) ≤ v := by unfold offI at hof; simp at hof; omega
      have v0' : 0 ≤ v := by omega
      have v1' : v < (k : Int) := by omega
      clear hof hst
      have Fr1 := fun x : Ext wr => x.cell r1
      have Fr2 := fun x : Ext wr => x.cell r2
      have Fsk := fun x : Ext wr => x.cell sk
      have hNE := Ext.ne wr
      go_wp2_with fail
      have vv0 : ¬ v < 0 := by omega
      have vv1 : ¬ (k : Int) ≤ v := by omega
      refine wp_region_ext (by kernel_rfl) (by kernel_rfl) ?_
      repeat (go_big_quiet_step (fail))
      refine wpQuiet_nil ?_
      rintro _ ⟨xE, rfl⟩
      have rx := Fr1 xE
      have HBE := hide ((unhide HBr).trans (xE.bel.mono (unhide HBr).size))
      clear Fr1 Fr2 Fsk hNE
      go_wp2_with fail
      exact ⟨⟨j + 1, by omega, by (first | rfl | go_num), HBE, HF2⟩, by simp [intOf]; omega⟩
     ·rw [hof, if_pos rfl] at hst
      have HR3 := hide (show chF i os ys = ((k : Int) + j, 108) from by rw [unhide HR2, unhide HF, hst]; rfl)
      clear hst
      by_cases v0 : v < 0
      ·clear hof
       have Fr1 := fun x : Ext wr => x.cell r1
       have Fr2 := fun x : Ext wr => x.cell r2
       have Fsk := fun x : Ext wr => x.cell sk
       have hNE := Ext.ne wr
       go_wp2_with fail
       have vv0 : v < 0 := by omega
       refine wp_region_ext (by kernel_rfl) (by kernel_rfl) ?_
       repeat (go_big_quiet_step (fail))
       refine wpQuiet_nil ?_
       rintro _ ⟨xE, rfl⟩
       have rx := Fr1 xE
       have HBE := hide ((unhide HBr).trans (xE.bel.mono (unhide HBr).size))
       clear Fr1 Fr2 Fsk hNE
       go_wp2_with fail
       try go_ret2
       exact ⟨by rw [unhide HR3]; (first | rfl | (simp; go_num)), (unhide HB1).trans ((unhide HBE).mono (unhide HB1).size)⟩
      ·have v1 : (k : Int) ≤ v := by unfold offI at hof; simp at hof; omega
       have v0' : 0 ≤ v := by omega
       clear hof
       have Fr1 := fun x : Ext wr => x.cell r1
       have Fr2 := fun x : Ext wr => x.cell r2
       have Fsk := fun x : Ext wr => x.cell sk
       have hNE := Ext.ne wr
       go_wp2_with fail
       have vv0 : ¬ v < 0 := by omega
       have vv1 : (k : Int) ≤ v := by omega
       refine wp_region_ext (by kernel_rfl) (by kernel_rfl) ?_
       repeat (go_big_quiet_step (fail))
       refine wpQuiet_nil ?_
       rintro _ ⟨xE, rfl⟩
       have rx := Fr1 xE
       have HBE := hide ((unhide HBr).trans (xE.bel.mono (unhide HBr).size))
       clear Fr1 Fr2 Fsk hNE
       go_wp2_with fail
       try go_ret2
       exact ⟨by rw [unhide HR3]; (first | rfl | (simp; go_num)), (unhide HB1).trans ((unhide HBE).mono (unhide HB1).size)⟩
    ·obtain rfl : j = m := by omega
     have hlj' : ¬ (j : Int) < (j : Int) := by omega
     have HR3 := hide (show chF i os ys = (0, 0) from by rw [unhide HR2, unhide HF, outsF_end k ys (unhide HN).2]; rfl)
     go_wp2_with fail
     try go_ret2
     exact ⟨by rw [unhide HR3]; try rfl, (unhide HB1).trans ((unhide HBr).mono (unhide HB1).size)⟩
end Go.Proofs.YtbbicappjicblaaGreatDoor
