/- Te8 -/
import Derived.Test.YtiadccaaoenccaaDoorTe7
namespace Go.Proofs.YtiadccaaoenccaaDoor
open Go.RowKit Go.Deep
set_option linter.unusedVariables false
def szF (i : Int) (n m : Nat) : Int := if i < 0 ∨ 64 < i then 100 else if 2048 < n then 101 else if m = 0 ∨ 64 < m then 102 else 0
set_option maxRecDepth 100000 in
set_option maxHeartbeats 16000000 in
theorem tsizes_any (i : Int) (a : Option Addr) (n c : Nat) (b : Option Addr) (m d : Nat) (w : World) :
    Calls Tryd.prog 31 #[tapV i a n c b m d] w fun e w' => e = .returned (.int .i64 (szF i n m)) ∧ Below w.heap.size w w' := by
  obtain ⟨wa, hwa⟩ : ∃ x, w.alloc (.cells #[.int .i64 i, .slice a n c, .slice b m d] 25) = x := ⟨_, rfl⟩
  have bx : BoxP wa w.heap.size [.int .i64 i, .slice a n c, .slice b m d] := by rw [← hwa]; exact BoxP.made _ _ _
  have hba : Below w.heap.size w wa := by rw [← hwa]; exact (Below.refl _ _).alloc (Nat.le_refl _) _
  have g0 := (bx.all 0 _ rfl).1
  have g1 := (bx.all 1 _ rfl).1
  have g2 := (bx.all 2 _ rfl).1
  have HB := hide hba
  clear bx hba
  unfold tapV
  by_cases i0 : i < 0
  · have HR := hide (show szF i n m = 100 by unfold szF; rw [if_pos (by omega)])
    go_enter Tryd.func31, Tryd.ntmps31
    go_wp2_with fail
    go_ret
    exact ⟨by rw [unhide HR]; try rfl, unhide HB⟩
  by_cases i1 : 64 < i
  · have HR := hide (show szF i n m = 100 by unfold szF; rw [if_pos (by omega)])
    go_enter Tryd.func31, Tryd.ntmps31
    go_wp2_with fail
    go_ret
    exact ⟨by rw [unhide HR]; try rfl, unhide HB⟩
  by_cases n1 : 2048 < (n : Int)
  · have HR := hide (show szF i n m = 101 by unfold szF; rw [if_neg (by omega), if_pos (by omega)])
    go_enter Tryd.func31, Tryd.ntmps31
    go_wp2_with fail
    go_ret
    exact ⟨by rw [unhide HR]; try rfl, unhide HB⟩
  by_cases m0 : m = 0
  · have HR := hide (show szF i n m = 102 by unfold szF; rw [if_neg (by omega), if_neg (by omega), if_pos (by omega)])
    have m0' : ((m : Int) == 0) = true := by simpa using m0
    clear m0
    go_enter Tryd.func31, Tryd.ntmps31
    go_wp2_with fail
    go_ret
    exact ⟨by rw [unhide HR]; try rfl, unhide HB⟩
  have m0' : ((m : Int) == 0) = false := by simpa using m0
  by_cases m1 : 64 < (m : Int)
  · have HR := hide (show szF i n m = 102 by unfold szF; rw [if_neg (by omega), if_neg (by omega), if_pos (by omega)])
    clear m0
    go_enter Tryd.func31, Tryd.ntmps31
    go_wp2_with fail
    go_ret
    exact ⟨by rw [unhide HR]; try rfl, unhide HB⟩
  · have HR := hide (show szF i n m = 0 by unfold szF; rw [if_neg (by omega), if_neg (by omega), if_neg (by omega)])
    clear m0
    go_enter Tryd.func31, Tryd.ntmps31
    go_wp2_with fail
    go_ret
    exact ⟨by rw [unhide HR]; try rfl, unhide HB⟩
theorem chF_sz {i : Int} {os : List On} {ys : List Int} {n m : Nat} (hn : os.length = n) (hm : ys.length = m) (h : szF i n m ≠ 0) : chF i os ys = (-1, szF i n m) := by
  unfold chF
  unfold szF at h ⊢
  rw [hn, hm]
  split
  · rfl
  · split
    · rfl
    · split
      · rfl
      · rename_i h1 h2 h3
        rw [if_neg h1, if_neg h2, if_neg h3] at h
        exact absurd rfl h
theorem chF_in {i : Int} {os : List On} {ys : List Int} {n m : Nat} (hn : os.length = n) (hm : ys.length = m) (h : szF i n m = 0) : (0 ≤ i ∧ i ≤ 64) ∧ n ≤ 2048 ∧ (0 < m ∧ m ≤ 64) ∧ chF i os ys = ((opsF i 0 os).getD ((outsF n 0 ys).getD (0, 0))) := by
  unfold szF at h
  split at h
  · cases h
  split at h
  · cases h
  split at h
  · cases h
  rename_i h1 h2 h3
  refine ⟨by omega, by omega, by omega, ?_⟩
  unfold chF
  rw [hn, hm, if_neg h1, if_neg h2, if_neg h3]
  cases opsF i 0 os
  · cases outsF n 0 ys <;> rfl
  · rfl
set_option maxRecDepth 100000 in
set_option maxHeartbeats 16000000 in
theorem tcheck_any (i : Int) (a : Option Addr) (n c : Nat) (os : List On) (b : Option Addr) (m d : Nat) (ys : List Int) (w : World) (hs : SlO w a n c os) (hy : SlI w b m d ys) (hT : Tab64 w) (hS : TabSh w) :
    Calls Tryd.prog 20 #[tapV i a n c b m d] w fun e w' => e = .returned (.tuple #[.int .i64 (chF i os ys).1, .int .i64 (chF i os ys).2]) ∧ Below w.heap.size w w' := by
  obtain ⟨wa, hwa⟩ : ∃ x, w.alloc (.cells #[.int .i64 i, .slice a n c, .slice b m d] 25) = x := ⟨_, rfl⟩
  have bx : BoxP wa w.heap.size [.int .i64 i, .slice a n c, .slice b m d] := by rw [← hwa]; exact BoxP.made _ _ _
  have hba : Below w.heap.size w wa := by rw [← hwa]; exact (Below.refl _ _).alloc (Nat.le_refl _) _
  have g0 := (bx.all 0 _ rfl).1
  have g1 := (bx.all 1 _ rfl).1
  have g2 := (bx.all 2 _ rfl).1
  have HB := hide hba
  have HS := hide (hs.below hba)
  have HY := hide (hy.below hba)
  have HT := hide (And.intro (hT.below hba) (hS.below hba))
  have hn := hs.len
  have hm := hy.len
  have HZ := hide (fun W => tsizes_any i a n c b m d W)
  unfold tapV at HZ
  have HN := hide (And.intro hn hm)
  clear bx hba hs hy hT hS hn hm
  unfold tapV
  go_enter Tryd.func20, Tryd.ntmps20
  go_wp2_with fail
  refine (unhide HZ _).mono ?_
  rintro _ w1 ⟨rfl, b1⟩
  have HB1 := hide ((unhide HB).trans (b1.mono (unhide HB).size))
  have g0 := (b1.cell (World.block_lt_of_cell? _ _ g0)).trans g0
  have g1 := (b1.cell (World.block_lt_of_cell? _ _ g1)).trans g1
  have g2 := (b1.cell (World.block_lt_of_cell? _ _ g2)).trans g2
  have HS1 := hide ((unhide HS).below b1)
  have HY1 := hide ((unhide HY).below b1)
  have HT1 := hide (And.intro ((unhide HT).1.below b1) ((unhide HT).2.below b1))
  clear b1 HB HS HY HT hwa
  by_cases hz : szF i n m = 0
  rotate_left
  · have HR := hide (chF_sz (os := os) (ys := ys) (unhide HN).1 (unhide HN).2 hz)
    have hz1 : (szF i n m != 0) = true := by simpa using hz
    obtain ⟨z, hzz⟩ : ∃ z, szF i n m = z := ⟨_, rfl⟩
    rw [hzz] at hz1 HR ⊢
    clear hz hzz
    go_wp2_with fail
    try go_ret2
    exact ⟨by rw [unhide HR]; try rfl, unhide HB1⟩
  obtain ⟨hi, hn2, hm2, hR⟩ := chF_in (unhide HN).1 (unhide HN).2 hz
  have HR := hide hR
  rw [hz]
  clear hz hR HZ
  go_wp2_with fail
  go_loopw [17] (fun iv wr => ∃ k : Nat, k ≤ n ∧ iv = .int .i64 (k : Int) ∧ Hid (Below w1.heap.size w1 wr) ∧ Hid (opsF i 0 os = opsF i k (os.drop k))) (fun iv _ => n - (intOf iv).toNat)
  case atStart => exact ⟨0, Nat.zero_le _, rfl, hide (Below.refl _ _), hide (by simp)⟩
  case round =>
    obtain ⟨k, hk, rfl, HBr, HF⟩ := hrel
    have r0 := ((unhide HBr).cell (World.block_lt_of_cell? _ _ g0)).trans g0
    have r1 := ((unhide HBr).cell (World.block_lt_of_cell? _ _ g1)).trans g1
    have r2 := ((unhide HBr).cell (World.block_lt_of_cell? _ _ g2)).trans g2
    by_cases hlt : k < n
    · have hlt' : (k : Int) < (n : Int) := by omega
      obtain ⟨o, ho⟩ : ∃ o, os[k]? = some o := ⟨_, List.getElem?_eq_getElem (show k < os.length by have := (unhide HN).1; omega)⟩
      have HK := hide (fun (W : World) (hb : Below wr.heap.size wr W) => (by
        have K := topf_any i a n c os b m d k o W ((unhide HS1).below ((unhide HBr).trans (hb.mono (unhide HBr).size))) ho (by omega) ((unhide HT1).1.below ((unhide HBr).trans (hb.mono (unhide HBr).size))) ((unhide HT1).2.below ((unhide HBr).trans (hb.mono (unhide HBr).size)))
        unfold tapV at K
        exact K : Calls Tryd.prog 32 #[.agg #[.int .i64 i, .slice a n c, .slice b m d], .int .i64 (k : Int)] W fun e w' => e = .returned (.int .i64 (opF i k o)) ∧ Below W.heap.size W w'))
      have hst := opsF_drop i os ho k
      obtain ⟨z, hzz⟩ : ∃ z, opF i k o = z := ⟨_, rfl⟩
      rw [hzz] at hst
      simp only [hzz] at HK
      clear ho hzz
      go_wp2_with fail
      refine (unhide HK _ (Below.refl _ _)).mono ?_
      rintro _ w2 ⟨rfl, b2⟩
      have HB2 := hide ((unhide HBr).trans (b2.mono (unhide HBr).size))
      clear b2 HK
      by_cases hz : z = 0
      · rw [if_pos hz] at hst
        have HF2 := hide ((unhide HF).trans hst)
        have hz1 : (z != 0) = false := by simpa using hz
        clear hst hz
        go_wp2_with fail
        exact ⟨⟨k + 1, by omega, by (first | rfl | go_num), HB2, HF2⟩, by simp [intOf]; omega⟩
      · rw [if_neg hz] at hst
        have HR2 := hide (show chF i os ys = ((k : Int), z) from by rw [unhide HR, unhide HF, hst]; rfl)
        have hz1 : (z != 0) = true := by simpa using hz
        clear hst hz
        go_wp2_with fail
        try go_ret2
        exact ⟨by rw [unhide HR2]; try rfl, (unhide HB1).trans ((unhide HB2).mono (unhide HB1).size)⟩
    · obtain rfl : k = n := by omega
      have hlt' : ¬ (k : Int) < (k : Int) := by omega
      have HR2 := hide (show chF i os ys = (outsF k 0 ys).getD (0, 0) from by rw [unhide HR, unhide HF, opsF_end i os (unhide HN).1]; rfl)
      clear HR HF
      go_wp2_with fail
      go_loopw [31] (fun iv wr' => ∃ j : Nat, j ≤ m ∧ iv = .int .i64 (j : Int) ∧ wr' = wr ∧ Hid (outsF k 0 ys = outsF k j (ys.drop j))) (fun iv _ => m - (intOf iv).toNat)
      case atStart => exact ⟨0, Nat.zero_le _, rfl, rfl, hide (by simp)⟩
      case round =>
        obtain ⟨j, hj, rfl, hw, HF⟩ := hrel
        obtain rfl := hw.symm
        clear hw
        by_cases hlj : j < m
        · have hlj' : (j : Int) < (m : Int) := by omega
          have hst := outsF_drop k ys (show j < ys.length by have := (unhide HN).2; omega) j
          obtain ⟨zb, zo, rfl, hc⟩ := ((unhide HY1).below (unhide HBr)).at (by omega)
          have sk := hc j hlj
          obtain ⟨v, hv⟩ : ∃ v, ys.getD j 0 = v := ⟨_, rfl⟩
          rw [hv] at sk hst
          clear hc hv
          have KB := fun W => tbelow_any v k W
          cases hof : offI v k
          · rw [hof] at KB hst
            rw [if_neg (by decide)] at hst
            have HF2 := hide ((unhide HF).trans hst)
            have HK := hide KB
            clear KB hof hst
            go_wp2_with fail
            refine (unhide HK _).mono ?_
            rintro _ wz ⟨rfl, hw⟩
            obtain rfl := hw.symm
            clear hw HK
            go_wp2_with fail
            exact ⟨⟨j + 1, by omega, by (first | rfl | go_num), (by first | rfl | trivial), HF2⟩, by simp [intOf]; omega⟩
          · rw [hof] at KB hst
            rw [if_pos rfl] at hst
            have HR3 := hide (show chF i os ys = ((k : Int) + j, 108) from by rw [unhide HR2, unhide HF, hst]; rfl)
            have HK := hide KB
            clear KB hof hst
            go_wp2_with fail
            refine (unhide HK _).mono ?_
            rintro _ wz ⟨rfl, hw⟩
            obtain rfl := hw.symm
            clear hw HK
            go_wp2_with fail
            try go_ret2
            exact ⟨by rw [unhide HR3]; (first | rfl | (simp; go_num)), (unhide HB1).trans ((unhide HBr).mono (unhide HB1).size)⟩
        · obtain rfl : j = m := by omega
          have hlj' : ¬ (j : Int) < (j : Int) := by omega
          have HR3 := hide (show chF i os ys = (0, 0) from by rw [unhide HR2, unhide HF, outsF_end k ys (unhide HN).2]; rfl)
          go_wp2_with fail
          try go_ret2
          exact ⟨by rw [unhide HR3]; try rfl, (unhide HB1).trans ((unhide HBr).mono (unhide HB1).size)⟩
set_option maxRecDepth 100000 in
set_option maxHeartbeats 16000000 in
theorem wcheck_any (i : Int) (a : Option Addr) (n c : Nat) (os : List On) (b : Option Addr) (m d : Nat) (ys : List Int) (w : World) (hs : SlO w a n c os) (hy : SlI w b m d ys) (hT : Tab64 w) :
    Calls Tryd.prog 22 #[tapV i a n c b m d] w fun e w' => e = .returned (.tuple #[.int .i64 (chF i os ys).1, .int .i64 (chF i os ys).2]) ∧ Below w.heap.size w w' := by
  obtain ⟨w1, hwa⟩ : ∃ x, w.alloc (.cells #[.int .i64 i, .slice a n c, .slice b m d] 25) = x := ⟨_, rfl⟩
  have bx : BoxP w1 w.heap.size [.int .i64 i, .slice a n c, .slice b m d] := by rw [← hwa]; exact BoxP.made _ _ _
  have hba : Below w.heap.size w w1 := by rw [← hwa]; exact (Below.refl _ _).alloc (Nat.le_refl _) _
  have g0 := (bx.all 0 _ rfl).1
  have g1 := (bx.all 1 _ rfl).1
  have g2 := (bx.all 2 _ rfl).1
  have HB1 := hide hba
  have HS1 := hide (hs.below hba)
  have HY1 := hide (hy.below hba)
  have HT1 := hide (hT.below hba)
  have HN := hide (And.intro hs.len hy.len)
  clear bx hba hs hy hT
  unfold tapV
  by_cases hz : szF i n m = 0
  rotate_left
  · have HR := hide (chF_sz (os := os) (ys := ys) (unhide HN).1 (unhide HN).2 hz)
    by_cases i0 : i < 0
    · have HV := hide (show szF i n m = 100 by unfold szF; rw [if_pos (by omega)])
      go_enter Tryd.func22, Tryd.ntmps22
      go_wp2_with fail
      try go_ret2
      exact ⟨by rw [unhide HR, unhide HV]; try rfl, unhide HB1⟩
    by_cases i1 : 64 < i
    · have HV := hide (show szF i n m = 100 by unfold szF; rw [if_pos (by omega)])
      go_enter Tryd.func22, Tryd.ntmps22
      go_wp2_with fail
      try go_ret2
      exact ⟨by rw [unhide HR, unhide HV]; try rfl, unhide HB1⟩
    by_cases n1 : 2048 < (n : Int)
    · have HV := hide (show szF i n m = 101 by unfold szF; rw [if_neg (by omega), if_pos (by omega)])
      go_enter Tryd.func22, Tryd.ntmps22
      go_wp2_with fail
      try go_ret2
      exact ⟨by rw [unhide HR, unhide HV]; try rfl, unhide HB1⟩
    by_cases m0 : m = 0
    · have HV := hide (show szF i n m = 102 by unfold szF; rw [if_neg (by omega), if_neg (by omega), if_pos (by omega)])
      have m0' : ((m : Int) == 0) = true := by simpa using m0
      clear m0
      go_enter Tryd.func22, Tryd.ntmps22
      go_wp2_with fail
      try go_ret2
      exact ⟨by rw [unhide HR, unhide HV]; try rfl, unhide HB1⟩
    have m0' : ((m : Int) == 0) = false := by simpa using m0
    have m1 : 64 < (m : Int) := by unfold szF at hz; rw [if_neg (by omega), if_neg (by omega)] at hz; split at hz <;> omega
    have HV := hide (show szF i n m = 102 by unfold szF; rw [if_neg (by omega), if_neg (by omega), if_pos (by omega)])
    clear m0
    go_enter Tryd.func22, Tryd.ntmps22
    go_wp2_with fail
    try go_ret2
    exact ⟨by rw [unhide HR, unhide HV]; try rfl, unhide HB1⟩
  obtain ⟨hi, hn2, hm2, hR⟩ := chF_in (unhide HN).1 (unhide HN).2 hz
  have HR := hide hR
  have i0 : ¬ i < 0 := by omega
  have i1 : ¬ 64 < i := by omega
  have n1 : ¬ 2048 < (n : Int) := by omega
  have m0' : ((m : Int) == 0) = false := by simp; omega
  have m1 : ¬ 64 < (m : Int) := by omega
  clear hz hR
  go_enter Tryd.func22, Tryd.ntmps22
  go_wp2_with fail
  clear i0 i1 n1 m0' m1
  go_loopw [4] (fun iv wr => ∃ k : Nat, k ≤ n ∧ iv = .int .i64 (k : Int) ∧ Hid (Below w1.heap.size w1 wr) ∧ Hid (opsF i 0 os = opsF i k (os.drop k))) (fun iv _ => n - (intOf iv).toNat)
  case atStart => exact ⟨0, Nat.zero_le _, rfl, hide (Below.refl _ _), hide (by simp)⟩
  case round =>
    obtain ⟨k, hk, rfl, HBr, HF⟩ := hrel
    have r0 := ((unhide HBr).cell (World.block_lt_of_cell? _ _ g0)).trans g0
    have r1 := ((unhide HBr).cell (World.block_lt_of_cell? _ _ g1)).trans g1
    have r2 := ((unhide HBr).cell (World.block_lt_of_cell? _ _ g2)).trans g2
    by_cases hlt : k < n
    · have hlt' : (k : Int) < (n : Int) := by omega
      obtain ⟨o, ho⟩ : ∃ o, os[k]? = some o := ⟨_, List.getElem?_eq_getElem (show k < os.length by have := (unhide HN).1; omega)⟩
      obtain ⟨b1, off, o', rfl, hoo, O, hok⟩ := ((unhide HS1).below (unhide HBr)).at' hlt
      obtain rfl : o = o' := by rw [ho] at hoo; exact Option.some.inj hoo
      obtain ⟨c0, c1, c2, c3, c4, c5, c6⟩ := O
      have HK := hide (fun (W : World) (hb : Below wr.heap.size wr W) => (by
        have K := wnode_any i k o W (hok.below hb) ((unhide HT1).below ((unhide HBr).trans (hb.mono (unhide HBr).size)))
        unfold opV at K
        exact K : Calls Tryd.prog 36 #[.agg #[.int .i64 o.k, .int .i64 o.a, .int .i64 o.b, .int .i64 o.n, .bool o.p.g, .slice o.p.a o.p.n o.p.c, .slice o.p.b o.p.m o.p.d], .int .i64 i, .int .i64 (k : Int)] W fun e w' => e = .returned (.int .i64 (opF i k o)) ∧ Below W.heap.size W w'))
      have hst := opsF_drop i os ho k
      obtain ⟨z, hzz⟩ : ∃ z, opF i k o = z := ⟨_, rfl⟩
      rw [hzz] at hst
      simp only [hzz] at HK
      have Fr0 := fun x : Ext wr => x.cell r0
      have Fr1 := fun x : Ext wr => x.cell r1
      have Fc0 := fun x : Ext wr => x.cell c0
      have Fc1 := fun x : Ext wr => x.cell c1
      have Fc2 := fun x : Ext wr => x.cell c2
      have Fc3 := fun x : Ext wr => x.cell c3
      have Fc4 := fun x : Ext wr => x.cell c4
      have Fc5 := fun x : Ext wr => x.cell c5
      have Fc6 := fun x : Ext wr => x.cell c6
      have hNE := Ext.ne wr
      clear ho hoo hok hzz
      go_wp2_with fail
      refine wp_region_ext (by kernel_rfl) (by kernel_rfl) ?_
      repeat (go_big_quiet_step (first | (go_at_call 36; rename_i x; exact Ext.call (unhide HK x.w x.bel) (fun e w' h => h))))
      refine wpQuiet_nil ?_
      rintro _ ⟨xE, rfl⟩
      have HB2 := hide ((unhide HBr).trans (xE.bel.mono (unhide HBr).size))
      clear Fr0 Fr1 Fc0 Fc1 Fc2 Fc3 Fc4 Fc5 Fc6 hNE HK
      by_cases hz : z = 0
      · rw [if_pos hz] at hst
        have HF2 := hide ((unhide HF).trans hst)
        have hz1 : (z != 0) = false := by simpa using hz
        clear hst hz
        go_wp2_with fail
        exact ⟨⟨k + 1, by omega, by (first | rfl | go_num), HB2, HF2⟩, by simp [intOf]; omega⟩
      · rw [if_neg hz] at hst
        have HR2 := hide (show chF i os ys = ((k : Int), z) from by rw [unhide HR, unhide HF, hst]; rfl)
        have hz1 : (z != 0) = true := by simpa using hz
        clear hst hz
        go_wp2_with fail
        try go_ret2
        exact ⟨by rw [unhide HR2]; try rfl, (unhide HB1).trans ((unhide HB2).mono (unhide HB1).size)⟩
    · obtain rfl : k = n := by omega
      have hlt' : ¬ (k : Int) < (k : Int) := by omega
      have HR2 := hide (show chF i os ys = (outsF k 0 ys).getD (0, 0) from by rw [unhide HR, unhide HF, opsF_end i os (unhide HN).1]; rfl)
      clear HR HF
      go_wp2_with fail
      go_loopw [6] (fun iv wr' => ∃ j : Nat, j ≤ m ∧ iv = .int .i64 (j : Int) ∧ Hid (Below w1.heap.size w1 wr') ∧ Hid (outsF k 0 ys = outsF k j (ys.drop j))) (fun iv _ => m - (intOf iv).toNat)
      case atStart => exact ⟨0, Nat.zero_le _, rfl, HBr, hide (by simp)⟩
      case round =>
        obtain ⟨j, hj, rfl, HBr, HF⟩ := hrel
        have r0 := ((unhide HBr).cell (World.block_lt_of_cell? _ _ g0)).trans g0
        have r1 := ((unhide HBr).cell (World.block_lt_of_cell? _ _ g1)).trans g1
        have r2 := ((unhide HBr).cell (World.block_lt_of_cell? _ _ g2)).trans g2
        by_cases hlj : j < m
        · have hlj' : (j : Int) < (m : Int) := by omega
          have hst := outsF_drop k ys (show j < ys.length by have := (unhide HN).2; omega) j
          obtain ⟨zb, zo, rfl, hc⟩ := ((unhide HY1).below (unhide HBr)).at (by omega)
          have sk := hc j hlj
          obtain ⟨v, hv⟩ : ∃ v, ys.getD j 0 = v := ⟨_, rfl⟩
          rw [hv] at sk hst
          clear hc hv
          cases hof : offI v k
          · rw [hof, if_neg (by decide)] at hst
            have HF2 := hide ((unhide HF).trans hst)
            have v0 : ¬ v < 0 := by unfold offI at hof; simp at hof; omega
            have v1 : ¬ (k : Int) ≤ v := by unfold offI at hof; simp at hof; omega
            have v0' : 0 ≤ v := by omega
            have v1' : v < (k : Int) := by omega
            clear hof hst
            have Fr1 := fun x : Ext wr => x.cell r1
            have Fr2 := fun x : Ext wr => x.cell r2
            have Fsk := fun x : Ext wr => x.cell sk
            have hNE := Ext.ne wr
            go_wp2_with fail
            have vv0 : ¬ v < 0 := by omega
            have vv1 : ¬ (k : Int) ≤ v := by omega
            refine wp_region_ext (by kernel_rfl) (by kernel_rfl) ?_
            repeat (go_big_quiet_step (fail))
            refine wpQuiet_nil ?_
            rintro _ ⟨xE, rfl⟩
            have rx := Fr1 xE
            have HBE := hide ((unhide HBr).trans (xE.bel.mono (unhide HBr).size))
            clear Fr1 Fr2 Fsk hNE
            go_wp2_with fail
            exact ⟨⟨j + 1, by omega, by (first | rfl | go_num), HBE, HF2⟩, by simp [intOf]; omega⟩
          · rw [hof, if_pos rfl] at hst
            have HR3 := hide (show chF i os ys = ((k : Int) + j, 108) from by rw [unhide HR2, unhide HF, hst]; rfl)
            clear hst
            by_cases v0 : v < 0
            · clear hof
              have Fr1 := fun x : Ext wr => x.cell r1
              have Fr2 := fun x : Ext wr => x.cell r2
              have Fsk := fun x : Ext wr => x.cell sk
              have hNE := Ext.ne wr
              go_wp2_with fail
              have vv0 : v < 0 := by omega
              refine wp_region_ext (by kernel_rfl) (by kernel_rfl) ?_
              repeat (go_big_quiet_step (fail))
              refine wpQuiet_nil ?_
              rintro _ ⟨xE, rfl⟩
              have rx := Fr1 xE
              have HBE := hide ((unhide HBr).trans (xE.bel.mono (unhide HBr).size))
              clear Fr1 Fr2 Fsk hNE
              go_wp2_with fail
              try go_ret2
              exact ⟨by rw [unhide HR3]; (first | rfl | (simp; go_num)), (unhide HB1).trans ((unhide HBE).mono (unhide HB1).size)⟩
            · have v1 : (k : Int) ≤ v := by unfold offI at hof; simp at hof; omega
              have v0' : 0 ≤ v := by omega
              clear hof
              have Fr1 := fun x : Ext wr => x.cell r1
              have Fr2 := fun x : Ext wr => x.cell r2
              have Fsk := fun x : Ext wr => x.cell sk
              have hNE := Ext.ne wr
              go_wp2_with fail
              have vv0 : ¬ v < 0 := by omega
              have vv1 : (k : Int) ≤ v := by omega
              refine wp_region_ext (by kernel_rfl) (by kernel_rfl) ?_
              repeat (go_big_quiet_step (fail))
              refine wpQuiet_nil ?_
              rintro _ ⟨xE, rfl⟩
              have rx := Fr1 xE
              have HBE := hide ((unhide HBr).trans (xE.bel.mono (unhide HBr).size))
              clear Fr1 Fr2 Fsk hNE
              go_wp2_with fail
              try go_ret2
              exact ⟨by rw [unhide HR3]; (first | rfl | (simp; go_num)), (unhide HB1).trans ((unhide HBE).mono (unhide HB1).size)⟩
        · obtain rfl : j = m := by omega
          have hlj' : ¬ (j : Int) < (j : Int) := by omega
          have HR3 := hide (show chF i os ys = (0, 0) from by rw [unhide HR2, unhide HF, outsF_end k ys (unhide HN).2]; rfl)
          go_wp2_with fail
          try go_ret2
          exact ⟨by rw [unhide HR3]; try rfl, (unhide HB1).trans ((unhide HBr).mono (unhide HB1).size)⟩
end Go.Proofs.YtiadccaaoenccaaDoor
