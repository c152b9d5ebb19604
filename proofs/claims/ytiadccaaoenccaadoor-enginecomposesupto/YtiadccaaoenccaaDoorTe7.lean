/- Te7 -/
import Derived.Test.YtiadccaaoenccaaDoorTe6
namespace Go.Proofs.YtiadccaaoenccaaDoor
open Go.RowKit Go.Deep
set_option linter.unusedVariables false
theorem opR_val (i : Nat) (o : On) : opR i o = if ((twoK o.k || oneK o.k) && offI o.a i) = true then 106 else if (twoK o.k && offI o.b i) = true then 106 else if o.n < -1024 ∨ 1024 < o.n then 107 else 0 := by
  unfold opR opsL
  cases h2 : twoK o.k
  · cases h1 : oneK o.k
    · simp
    · cases ha : offI o.a i <;> simp [ha]
  · cases ha : offI o.a i <;> cases hb : offI o.b i <;> simp [ha, hb]
theorem two_not_one {k : Int} (h : twoK k = true) : oneK k = false := by unfold twoK at h; unfold oneK; simp at h ⊢; omega
set_option maxRecDepth 100000 in
set_option maxHeartbeats 64000000 in
theorem wnode_any (i : Int) (at' : Nat) (o : On) (w : World) (hok : NqL w o.p) (hT : Tab64 w) :
    Calls Tryd.prog 36 #[opV o, .int .i64 i, .int .i64 (at' : Int)] w fun e w' => e = .returned (.int .i64 (opF i at' o)) ∧ Below w.heap.size w w' := by
  obtain ⟨wo, hwo⟩ : ∃ x, w.alloc (.cells #[.int .i64 o.k, .int .i64 o.a, .int .i64 o.b, .int .i64 o.n, .bool o.p.g, .slice o.p.a o.p.n o.p.c, .slice o.p.b o.p.m o.p.d] 54) = x := ⟨_, rfl⟩
  have br : BoxP wo w.heap.size [.int .i64 o.k, .int .i64 o.a, .int .i64 o.b, .int .i64 o.n, .bool o.p.g, .slice o.p.a o.p.n o.p.c, .slice o.p.b o.p.m o.p.d] := by rw [← hwo]; exact BoxP.made _ _ _
  have hbo : Below w.heap.size w wo := by rw [← hwo]; exact (Below.refl _ _).alloc (Nat.le_refl _) _
  have y0 := (br.all 0 _ rfl).1
  have y1 := (br.all 1 _ rfl).1
  have y2 := (br.all 2 _ rfl).1
  have y3 := (br.all 3 _ rfl).1
  have y4 := (br.all 4 _ rfl).1
  have y5 := (br.all 5 _ rfl).1
  have y6 := (br.all 6 _ rfl).1
  have HBo := hide hbo
  have HOo := hide (hok.below hbo)
  have HTo := hide (hT.below hbo)
  have HKu := hide (fun (W : World) => (by
    have K := wunused_any o W hok.x.len.symm hok.y.len.symm
    unfold opV at K
    exact K : Calls Tryd.prog 45 #[.agg #[.int .i64 o.k, .int .i64 o.a, .int .i64 o.b, .int .i64 o.n, .bool o.p.g, .slice o.p.a o.p.n o.p.c, .slice o.p.b o.p.m o.p.d]] W fun e w' => e = .returned (.bool (unuO o)) ∧ Below W.heap.size W w'))
  clear br hbo hok hT
  unfold opV
  by_cases k0 : o.k < 1
  · have HR := hide (show opF i at' o = 103 by unfold opF; rw [if_pos (by omega)])
    go_enter Tryd.func36, Tryd.ntmps36
    go_wp2_with fail
    go_ret
    exact ⟨by rw [unhide HR]; rfl, unhide HBo⟩
  by_cases k9 : 8 < o.k
  · have HR := hide (show opF i at' o = 103 by unfold opF; rw [if_pos (by omega)])
    go_enter Tryd.func36, Tryd.ntmps36
    go_wp2_with fail
    go_ret
    exact ⟨by rw [unhide HR]; rfl, unhide HBo⟩
  obtain ⟨k, hkk⟩ : ∃ k : Nat, o.k = (k : Int) := ⟨o.k.toNat, by omega⟩
  have HKK := hide (show KKo o k from ⟨hkk, by omega, by omega⟩)
  clear hkk
  go_enter Tryd.func36, Tryd.ntmps36
  go_wp2_with fail
  refine (unhide HKu _).mono ?_
  rintro _ wq ⟨rfl, bE⟩
  have HBq := hide ((unhide HBo).trans (bE.mono (unhide HBo).size))
  have HOq := hide ((unhide HOo).below bE)
  have HTq := hide (show Tab64 wq from (unhide HTo).below bE)
  have q0 := (bE.cell (World.block_lt_of_cell? _ _ y0)).trans y0
  have q1 := (bE.cell (World.block_lt_of_cell? _ _ y1)).trans y1
  have q2 := (bE.cell (World.block_lt_of_cell? _ _ y2)).trans y2
  have q3 := (bE.cell (World.block_lt_of_cell? _ _ y3)).trans y3
  have q4 := (bE.cell (World.block_lt_of_cell? _ _ y4)).trans y4
  have q5 := (bE.cell (World.block_lt_of_cell? _ _ y5)).trans y5
  have q6 := (bE.cell (World.block_lt_of_cell? _ _ y6)).trans y6
  clear bE y0 y1 y2 y3 y4 y5 y6 HBo HOo HTo HKu k0 k9
  cases hu : unuO o
  rotate_left
  · have HR := hide (op_104 (unhide HKK) hu (inp := i) (i := at'))
    clear hu
    go_wp2_with fail
    go_ret
    exact ⟨by rw [unhide HR]; rfl, unhide HBq⟩
  have HU := hide hu
  clear hu
  by_cases k1 : o.k = 1
  focus
    have k1' : (o.k == 1) = true := by simpa using k1
    have k2' : (o.k == 2) = false := by rw [k1]; rfl
    have HK1 := hide (show k = 1 from by have := (unhide HKK).1; omega)
    have HKx := hide (show o.k ≤ 2 from by omega)
    clear k1
    cases ho1 : offI o.a i
    rotate_left
    · have HR := hide (op_105 ((unhide HK1) ▸ unhide HKK) (unhide HU) ho1 (i := at'))
      by_cases a0 : o.a < 0
      · go_wp2_with fail
        go_ret
        exact ⟨by rw [unhide HR]; rfl, unhide HBq⟩
      · have a1 : i ≤ o.a := by unfold offI at ho1; simp at ho1; omega
        go_wp2_with fail
        go_ret
        exact ⟨by rw [unhide HR]; rfl, unhide HBq⟩
    have HF := hide (opR_of (unhide HKK) (unhide HU) (fun _ => ho1) (fun e => by have := (unhide HKK).1; have := unhide HK1; omega) (i := at'))
    have a0 : ¬ o.a < 0 := by unfold offI at ho1; simp at ho1; omega
    have a1 : ¬ i ≤ o.a := by unfold offI at ho1; simp at ho1; omega
    clear ho1
    go_wp2_with fail
    clear a0 a1
  rotate_left
  focus
    have k1' : (o.k == 1) = false := by simpa using k1
    by_cases k2 : o.k = 2
    focus
      have k2' : (o.k == 2) = true := by simpa using k2
      have HK2 := hide (show k = 2 from by have := (unhide HKK).1; omega)
      have HKx := hide (show o.k ≤ 2 from by omega)
      clear k1 k2
      have HM := hide (fun (W : World) (hb : Below wq.heap.size wq W) => wmay_any o.p.g o.p.a o.p.b o.p.n o.p.c o.p.m o.p.d o.p.x o.p.y W ((unhide HOq).x.below hb) ((unhide HOq).y.below hb) (unhide HOq).ox (unhide HOq).oy)
      unfold ratV at HM
      cases hm : MayR o.p.g o.p.x o.p.y
      · have HR := hide (op_40 ((unhide HK2) ▸ unhide HKK) (unhide HU) hm (inp := i) (i := at'))
        rw [hm] at HM
        clear hm
        go_wp2_with fail
        refine (unhide HM _ (Below.refl _ _)).mono ?_
        rintro _ wz ⟨rfl, hb⟩
        have HBz := hide ((unhide HBq).trans (hb.mono (unhide HBq).size))
        clear hb
        go_wp2_with fail
        go_ret
        exact ⟨by rw [unhide HR]; rfl, unhide HBz⟩
      have HF := hide (opR_of (unhide HKK) (unhide HU) (fun e => by have := (unhide HKK).1; have := unhide HK2; omega) (fun _ => hm) (inp := i) (i := at'))
      rw [hm] at HM
      clear hm
      go_wp2_with fail
      refine (unhide HM _ (Below.refl _ _)).mono ?_
      rintro _ wq ⟨rfl, bE⟩
      have HBq := hide ((unhide HBq).trans (bE.mono (unhide HBq).size))
      have HOq := hide ((unhide HOq).below bE)
      have q0 := (bE.cell (World.block_lt_of_cell? _ _ q0)).trans q0
      have q1 := (bE.cell (World.block_lt_of_cell? _ _ q1)).trans q1
      have q2 := (bE.cell (World.block_lt_of_cell? _ _ q2)).trans q2
      have q3 := (bE.cell (World.block_lt_of_cell? _ _ q3)).trans q3
      clear bE HM
      go_wp2_with fail
    rotate_left
    focus
      have k2' : (o.k == 2) = false := by simpa using k2
      have HF := hide (opR_of (unhide HKK) (unhide HU) (fun e => absurd e k1) (fun e => absurd e k2) (inp := i) (i := at'))
      have HKx := hide (show True from trivial)
      clear k1 k2
      go_wp2_with fail
  all_goals
    have K1 := fun W => onef_any o.k W
    have K2 := fun W => two_any o.k W
    cases h2 : twoK o.k
    · rw [h2] at K2
      cases h1 : oneK o.k
      · rw [h1] at K1
        have HK1 := hide K1
        have HK2 := hide K2
        have HV := hide (show opR at' o = if o.n < -1024 ∨ 1024 < o.n then 107 else 0 by rw [opR_val, h1, h2]; simp)
        clear K1 K2 h1 h2
        by_cases n1 : o.n < -1024
        · have HN := hide (show opR at' o = 107 by rw [unhide HV, if_pos (.inl n1)])
          refine (unhide HK1 _).mono ?_
          rintro _ wz ⟨rfl, hw⟩
          obtain rfl := hw.symm
          clear hw
          go_wp2_with fail
          refine (unhide HK2 _).mono ?_
          rintro _ wz ⟨rfl, hw⟩
          obtain rfl := hw.symm
          clear hw
          go_wp2_with fail
          refine (unhide HK2 _).mono ?_
          rintro _ wz ⟨rfl, hw⟩
          obtain rfl := hw.symm
          clear hw
          go_wp2_with fail
          try go_ret
          exact ⟨by rw [unhide HF, unhide HN]; rfl, unhide HBq⟩
        by_cases n2 : 1024 < o.n
        · have HN := hide (show opR at' o = 107 by rw [unhide HV, if_pos (.inr n2)])
          refine (unhide HK1 _).mono ?_
          rintro _ wz ⟨rfl, hw⟩
          obtain rfl := hw.symm
          clear hw
          go_wp2_with fail
          refine (unhide HK2 _).mono ?_
          rintro _ wz ⟨rfl, hw⟩
          obtain rfl := hw.symm
          clear hw
          go_wp2_with fail
          refine (unhide HK2 _).mono ?_
          rintro _ wz ⟨rfl, hw⟩
          obtain rfl := hw.symm
          clear hw
          go_wp2_with fail
          try go_ret
          exact ⟨by rw [unhide HF, unhide HN]; rfl, unhide HBq⟩
        · have HN := hide (show opR at' o = 0 by rw [unhide HV, if_neg (by omega)])
          refine (unhide HK1 _).mono ?_
          rintro _ wz ⟨rfl, hw⟩
          obtain rfl := hw.symm
          clear hw
          go_wp2_with fail
          refine (unhide HK2 _).mono ?_
          rintro _ wz ⟨rfl, hw⟩
          obtain rfl := hw.symm
          clear hw
          go_wp2_with fail
          refine (unhide HK2 _).mono ?_
          rintro _ wz ⟨rfl, hw⟩
          obtain rfl := hw.symm
          clear hw
          go_wp2_with fail
          try go_ret
          exact ⟨by rw [unhide HF, unhide HN]; rfl, unhide HBq⟩
      · first
        | (exfalso; have hx := unhide HKx; unfold oneK at h1; simp only [Bool.and_eq_true, decide_eq_true_eq] at h1; omega)
        | (rw [h1] at K1
           have HK1 := hide K1
           have HK2 := hide K2
           have HV := hide (show opR at' o = if offI o.a at' = true then 106 else if o.n < -1024 ∨ 1024 < o.n then 107 else 0 by rw [opR_val, h1, h2]; simp)
           clear K1 K2 h1 h2
           by_cases a0 : o.a < 0
           · have HN := hide (show opR at' o = 106 by rw [unhide HV, if_pos (by simp [offI, a0])])
             refine (unhide HK1 _).mono ?_
             rintro _ wz ⟨rfl, hw⟩
             obtain rfl := hw.symm
             clear hw
             go_wp2_with fail
             try go_ret
             exact ⟨by rw [unhide HF, unhide HN]; rfl, unhide HBq⟩
           by_cases a1 : (at' : Int) ≤ o.a
           · have HN := hide (show opR at' o = 106 by rw [unhide HV, if_pos (by simp [offI, a1])])
             refine (unhide HK1 _).mono ?_
             rintro _ wz ⟨rfl, hw⟩
             obtain rfl := hw.symm
             clear hw
             go_wp2_with fail
             try go_ret
             exact ⟨by rw [unhide HF, unhide HN]; rfl, unhide HBq⟩
           by_cases n1 : o.n < -1024
           · have HN := hide (show opR at' o = 107 by rw [unhide HV, if_neg (by simp [offI, a0, a1]), if_pos (.inl n1)])
             refine (unhide HK1 _).mono ?_
             rintro _ wz ⟨rfl, hw⟩
             obtain rfl := hw.symm
             clear hw
             go_wp2_with fail
             refine (unhide HK2 _).mono ?_
             rintro _ wz ⟨rfl, hw⟩
             obtain rfl := hw.symm
             clear hw
             go_wp2_with fail
             try go_ret
             exact ⟨by rw [unhide HF, unhide HN]; rfl, unhide HBq⟩
           by_cases n2 : 1024 < o.n
           · have HN := hide (show opR at' o = 107 by rw [unhide HV, if_neg (by simp [offI, a0, a1]), if_pos (.inr n2)])
             refine (unhide HK1 _).mono ?_
             rintro _ wz ⟨rfl, hw⟩
             obtain rfl := hw.symm
             clear hw
             go_wp2_with fail
             refine (unhide HK2 _).mono ?_
             rintro _ wz ⟨rfl, hw⟩
             obtain rfl := hw.symm
             clear hw
             go_wp2_with fail
             try go_ret
             exact ⟨by rw [unhide HF, unhide HN]; rfl, unhide HBq⟩
           · have HN := hide (show opR at' o = 0 by rw [unhide HV, if_neg (by simp [offI, a0, a1]), if_neg (by omega)])
             refine (unhide HK1 _).mono ?_
             rintro _ wz ⟨rfl, hw⟩
             obtain rfl := hw.symm
             clear hw
             go_wp2_with fail
             refine (unhide HK2 _).mono ?_
             rintro _ wz ⟨rfl, hw⟩
             obtain rfl := hw.symm
             clear hw
             go_wp2_with fail
             try go_ret
             exact ⟨by rw [unhide HF, unhide HN]; rfl, unhide HBq⟩)
    · first
      | (exfalso; have hx := unhide HKx; unfold twoK at h2; simp only [Bool.and_eq_true, decide_eq_true_eq] at h2; omega)
      | (rw [h2] at K2
         have K1' := K1
         rw [two_not_one h2] at K1'
         have HK1 := hide K1'
         have HK2 := hide K2
         have HV := hide (show opR at' o = if offI o.a at' = true then 106 else if offI o.b at' = true then 106 else if o.n < -1024 ∨ 1024 < o.n then 107 else 0 by rw [opR_val, h2]; simp)
         clear K1 K1' K2 h2
         by_cases a0 : o.a < 0
         · have HN := hide (show opR at' o = 106 by rw [unhide HV, if_pos (by simp [offI, a0])])
           refine (unhide HK1 _).mono ?_
           rintro _ wz ⟨rfl, hw⟩
           obtain rfl := hw.symm
           clear hw
           go_wp2_with fail
           refine (unhide HK2 _).mono ?_
           rintro _ wz ⟨rfl, hw⟩
           obtain rfl := hw.symm
           clear hw
           go_wp2_with fail
           try go_ret
           exact ⟨by rw [unhide HF, unhide HN]; rfl, unhide HBq⟩
         by_cases a1 : (at' : Int) ≤ o.a
         · have HN := hide (show opR at' o = 106 by rw [unhide HV, if_pos (by simp [offI, a1])])
           refine (unhide HK1 _).mono ?_
           rintro _ wz ⟨rfl, hw⟩
           obtain rfl := hw.symm
           clear hw
           go_wp2_with fail
           refine (unhide HK2 _).mono ?_
           rintro _ wz ⟨rfl, hw⟩
           obtain rfl := hw.symm
           clear hw
           go_wp2_with fail
           try go_ret
           exact ⟨by rw [unhide HF, unhide HN]; rfl, unhide HBq⟩
         by_cases b0 : o.b < 0
         · have HN := hide (show opR at' o = 106 by rw [unhide HV, if_neg (by simp [offI, a0, a1]), if_pos (by simp [offI, b0])])
           refine (unhide HK1 _).mono ?_
           rintro _ wz ⟨rfl, hw⟩
           obtain rfl := hw.symm
           clear hw
           go_wp2_with fail
           refine (unhide HK2 _).mono ?_
           rintro _ wz ⟨rfl, hw⟩
           obtain rfl := hw.symm
           clear hw
           go_wp2_with fail
           refine (unhide HK2 _).mono ?_
           rintro _ wz ⟨rfl, hw⟩
           obtain rfl := hw.symm
           clear hw
           go_wp2_with fail
           try go_ret
           exact ⟨by rw [unhide HF, unhide HN]; rfl, unhide HBq⟩
         by_cases b1 : (at' : Int) ≤ o.b
         · have HN := hide (show opR at' o = 106 by rw [unhide HV, if_neg (by simp [offI, a0, a1]), if_pos (by simp [offI, b1])])
           refine (unhide HK1 _).mono ?_
           rintro _ wz ⟨rfl, hw⟩
           obtain rfl := hw.symm
           clear hw
           go_wp2_with fail
           refine (unhide HK2 _).mono ?_
           rintro _ wz ⟨rfl, hw⟩
           obtain rfl := hw.symm
           clear hw
           go_wp2_with fail
           refine (unhide HK2 _).mono ?_
           rintro _ wz ⟨rfl, hw⟩
           obtain rfl := hw.symm
           clear hw
           go_wp2_with fail
           try go_ret
           exact ⟨by rw [unhide HF, unhide HN]; rfl, unhide HBq⟩
         by_cases n1 : o.n < -1024
         · have HN := hide (show opR at' o = 107 by rw [unhide HV, if_neg (by simp [offI, a0, a1]), if_neg (by simp [offI, b0, b1]), if_pos (.inl n1)])
           refine (unhide HK1 _).mono ?_
           rintro _ wz ⟨rfl, hw⟩
           obtain rfl := hw.symm
           clear hw
           go_wp2_with fail
           refine (unhide HK2 _).mono ?_
           rintro _ wz ⟨rfl, hw⟩
           obtain rfl := hw.symm
           clear hw
           go_wp2_with fail
           refine (unhide HK2 _).mono ?_
           rintro _ wz ⟨rfl, hw⟩
           obtain rfl := hw.symm
           clear hw
           go_wp2_with fail
           try go_ret
           exact ⟨by rw [unhide HF, unhide HN]; rfl, unhide HBq⟩
         by_cases n2 : 1024 < o.n
         · have HN := hide (show opR at' o = 107 by rw [unhide HV, if_neg (by simp [offI, a0, a1]), if_neg (by simp [offI, b0, b1]), if_pos (.inr n2)])
           refine (unhide HK1 _).mono ?_
           rintro _ wz ⟨rfl, hw⟩
           obtain rfl := hw.symm
           clear hw
           go_wp2_with fail
           refine (unhide HK2 _).mono ?_
           rintro _ wz ⟨rfl, hw⟩
           obtain rfl := hw.symm
           clear hw
           go_wp2_with fail
           refine (unhide HK2 _).mono ?_
           rintro _ wz ⟨rfl, hw⟩
           obtain rfl := hw.symm
           clear hw
           go_wp2_with fail
           try go_ret
           exact ⟨by rw [unhide HF, unhide HN]; rfl, unhide HBq⟩
         · have HN := hide (show opR at' o = 0 by rw [unhide HV, if_neg (by simp [offI, a0, a1]), if_neg (by simp [offI, b0, b1]), if_neg (by omega)])
           refine (unhide HK1 _).mono ?_
           rintro _ wz ⟨rfl, hw⟩
           obtain rfl := hw.symm
           clear hw
           go_wp2_with fail
           refine (unhide HK2 _).mono ?_
           rintro _ wz ⟨rfl, hw⟩
           obtain rfl := hw.symm
           clear hw
           go_wp2_with fail
           refine (unhide HK2 _).mono ?_
           rintro _ wz ⟨rfl, hw⟩
           obtain rfl := hw.symm
           clear hw
           go_wp2_with fail
           try go_ret
           exact ⟨by rw [unhide HF, unhide HN]; rfl, unhide HBq⟩)
end Go.Proofs.YtiadccaaoenccaaDoor
