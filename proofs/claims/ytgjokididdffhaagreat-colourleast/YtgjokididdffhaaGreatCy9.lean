/- Cy8 -/
import Derived.Test.YtgjokididdffhaaGreatCy7
import Derived.Test.YtgjokididdffhaaGreatCxp
import Derived.Test.YtgjokididdffhaaGreatCw4
namespace Go.Proofs.YtgjokididdffhaaGreat
open Go.RowKit Go.Deep
set_option linter.unusedVariables false
set_option maxRecDepth 100000 in
set_option maxHeartbeats 16000000 in
theorem wLeast_no (k rows width : Int) (er : Int) (her : (er != 0) = true) (a1 a2 : Option Addr) (n1 c1 n2 c2 : Nat) (st cols : List Int) (w : World) (h1 : SlI w a1 n1 c1 st) (h2 : SlI w a2 n2 c2 cols) (hT : ∀ W, SlI W a1 n1 c1 st → SlI W a2 n2 c2 cols → Calls Tryz.prog 21 #[.int .i64 k, patV rows width a1 n1 c1 a2 n2 c2] W fun e w' => e = .returned (.tuple #[.agg #[.int .i64 0, .slice none 0 0], .int .i64 er]) ∧ Below W.heap.size W w') :
    Calls Tryz.prog 27 #[.int .i64 k, patV rows width a1 n1 c1 a2 n2 c2] w fun e w' => Below w.heap.size w w' ∧ e = .returned (.tuple #[.int .i64 0, .int .i64 er]) := by
  obtain ⟨wb, hwb⟩ : ∃ x, w.alloc (.cells #[.int .i64 rows, .int .i64 width, .slice a1 n1 c1, .slice a2 n2 c2] 25) = x := ⟨_, rfl⟩
  have bb : Below w.heap.size w wb := by rw [← hwb]; exact (Below.refl _ _).alloc (Nat.le_refl _) _
  have hT0 := BoxP.made w #[.int .i64 rows, .int .i64 width, .slice a1 n1 c1, .slice a2 n2 c2] 25
  rw [hwb] at hT0
  have p0 := (hT0.all 0 _ rfl).1
  have p1 := (hT0.all 1 _ rfl).1
  have p2 := (hT0.all 2 _ rfl).1
  have p3 := (hT0.all 3 _ rfl).1
  have KT := hide (hT wb (h1.below bb) (h2.below bb))
  unfold patV at KT
  have HB := hide bb
  have HT0 := hide hT0
  clear hT0 bb h1 h2 hT
  unfold patV
  go_enter Tryz.func27, Tryz.ntmps27
  go_wp2_with fail
  refine (unhide KT).mono ?_
  rintro _ w2 ⟨rfl, b2⟩
  clear p0 p1 p2 p3 KT
  try dsimp only
  have HB2 := hide ((unhide HB).trans (b2.mono (unhide HB).size))
  clear b2
  go_wp2_with fail
  refine bodyPost_ret (by simp [results, Tryz.results27, go_sem]; try rfl) rfl ?_
  exact ⟨(unhide HB2).alloc (unhide HB2).size _, rfl⟩
def DsP (Gd : (Nat → Nat) → Prop) (m d : Nat) : Prop := (d < m ∧ SmP Gd m (fun _ => 0) 0 d ∧ ∀ j, j < d → ¬ SmP Gd m (fun _ => 0) 0 j) ∨ (d = m ∧ ∀ k, k < m → ¬ SmP Gd m (fun _ => 0) 0 k)
def LeW (Gd : (Nat → Nat) → Prop) (m : Nat) (w w' : World) (e : Ending) : Prop := Below w.heap.size w w' ∧ ((8 < m ∧ e = .returned (.tuple #[.int .i64 0, .int .i64 1])) ∨ (m ≤ 8 ∧ ∃ d : Nat, DsP Gd m d ∧ e = .returned (.tuple #[.int .i64 (d : Int), .int .i64 0])))
set_option maxRecDepth 100000 in
set_option maxHeartbeats 16000000 in
theorem wLeast_yes (Gd : (Nat → Nat) → Prop) (kd : Int) (R width m : Nat) (Q : Nat → Bool) (a1 a2 : Option Addr) (n1 c1 n2 c2 : Nat) (st cols : List Int) (w : World) (h1 : SlI w a1 n1 c1 st) (h2 : SlI w a2 n2 c2 cols) (hm8 : m ≤ 128) (hGc : ∀ f e, AgE f e m → (Gd f ↔ Gd e))
    (hF : ∀ (gb gc : Nat) (f : Nat → Nat) W, RoV W gb (m * m) (fun i => .bool (Q i)) → RoV W gc m (fun i => .int .i64 (f i : Int)) → Calls Tryz.prog 85 #[.int .i64 kd, grV m gb (m * m), .slice (some ⟨gc, 0, none⟩) m m] W fun e w' => ∃ ok, e = .returned (.bool ok) ∧ TruQ ok (Gd f) ∧ Below W.heap.size W w')
    (hT : ∀ W, SlI W a1 n1 c1 st → SlI W a2 n2 c2 cols → Calls Tryz.prog 21 #[.int .i64 kd, patV (R : Int) (width : Int) a1 n1 c1 a2 n2 c2] W fun e w' => TgQ W w' e m (m * m) Q) :
    Calls Tryz.prog 27 #[.int .i64 kd, patV (R : Int) (width : Int) a1 n1 c1 a2 n2 c2] w fun e w' => LeW Gd m w w' e := by
  obtain ⟨wb, hwb⟩ : ∃ x, w.alloc (.cells #[.int .i64 (R : Int), .int .i64 (width : Int), .slice a1 n1 c1, .slice a2 n2 c2] 25) = x := ⟨_, rfl⟩
  have bb : Below w.heap.size w wb := by rw [← hwb]; exact (Below.refl _ _).alloc (Nat.le_refl _) _
  have hT0 := BoxP.made w #[.int .i64 (R : Int), .int .i64 (width : Int), .slice a1 n1 c1, .slice a2 n2 c2] 25
  rw [hwb] at hT0
  have p0 := (hT0.all 0 _ rfl).1
  have p1 := (hT0.all 1 _ rfl).1
  have p2 := (hT0.all 2 _ rfl).1
  have p3 := (hT0.all 3 _ rfl).1
  have KT := hide (hT wb (h1.below bb) (h2.below bb))
  unfold patV at KT
  have HB := hide bb
  have HSO := hide (fun (gb gc k : Nat) (W : World) (hg : gb ≠ gc) (hk : k ≤ m) (h1 : RoV W gb (m * m) (fun i => .bool (Q i))) (h2 : RoV W gc m (fun _ => .int .i64 0)) => wsome_any Gd kd m gb (m * m) gc Q k hm8 hg rfl hGc (hF gb gc) m (fun _ => 0) 0 (fun _ => 0) W (by omega) (fun j hj => by omega) hk h1 h2 (fun i hi => by omega))
  obtain ⟨mm, hmm⟩ : ∃ mm, m * m = mm := ⟨_, rfl⟩
  have HMM := hide hmm
  have hmm2 : mm ≤ 16384 := by
    have := Nat.mul_le_mul hm8 hm8
    omega
  rw [hmm] at KT HSO
  unfold TgQ grV at KT
  unfold grV at HSO
  clear hT0 bb h1 h2 hT hmm hF
  unfold patV
  go_enter Tryz.func27, Tryz.ntmps27
  go_wp2_with fail
  refine (unhide KT).mono ?_
  rintro _ w2 ⟨gb, rfl, hRo, b2⟩
  clear p0 p1 p2 p3 KT
  try dsimp only
  repeat ((fail_if_success (with_reducible (show Code.wp _ _ _ _ (World.alloc w2 (Obj.cells #[_, .slice (some ⟨gb, 0, none⟩) mm mm] _))))); (first | go_values | go_skip | go_guarded | go_step | go_upon | go_back))
  have hG := BoxP.made w2 #[.int .i64 (m : Int), .slice (some ⟨gb, 0, none⟩) mm mm] 45
  have bg : Below w2.heap.size w2 (w2.alloc (.cells #[.int .i64 (m : Int), .slice (some ⟨gb, 0, none⟩) mm mm] 45)) := (Below.refl _ _).alloc (Nat.le_refl _) _
  have hb3 := ((unhide HB).trans (b2.mono (unhide HB).size)).trans (bg.mono (Nat.le_trans (unhide HB).size b2.size))
  have HRo := hide (hRo.below bg)
  clear b2 bg hRo
  generalize w2.alloc (.cells #[.int .i64 (m : Int), .slice (some ⟨gb, 0, none⟩) mm mm] 45) = w3 at *
  have HB3 := hide hb3
  have HN := hide (show ∀ W, Below w3.heap.size w3 W → BoxP W w2.heap.size [.int .i64 (m : Int), .slice (some ⟨gb, 0, none⟩) mm mm] ∧ RoV W gb mm (fun i => .bool (Q i)) ∧ Below w.heap.size w W from fun W b => ⟨hG.below b, (unhide HRo).below b, hb3.trans (b.mono hb3.size)⟩)
  have p0 := (hG.all 0 _ rfl).1
  have p1 := (hG.all 1 _ rfl).1
  clear hG hb3
  by_cases hb8 : m ≤ 8
  · have hb8' : ¬ (m : Int) > 8 := by omega
    go_wp2_with fail
    clear p0 p1
    go_loopw [8] (fun kv wr => ∃ k : Nat, k ≤ m ∧ kv = .int .i64 (k : Int) ∧ Hid (∀ j, j < k → ¬ SmP Gd m (fun _ => 0) 0 j) ∧ Hid (Below w3.heap.size w3 wr)) (fun kv _ => m - (intOf kv).toNat)
    case atStart => exact ⟨0, Nat.zero_le _, rfl, hide (fun j hj => by omega), hide (Below.refl _ _)⟩
    case round =>
      obtain ⟨k, hk, rfl, HNo, HW⟩ := hrel
      have hx := unhide HN wr (unhide HW)
      have p0 := (hx.1.all 0 _ rfl).1
      have p1 := (hx.1.all 1 _ rfl).1
      by_cases hlt : k < m
      · have hlt' : (k : Int) < (m : Int) := by omega
        have hgb : gb < wr.heap.size := by
          have h0 : 0 < mm := by rw [← unhide HMM]; exact Nat.mul_pos (by omega) (by omega)
          exact World.block_lt_of_cell? _ _ (hx.2.1 0 h0).1
        have u0 : usE (fun _ => 0) 0 = 0 := rfl
        have KS := hide (show Calls Tryz.prog 51 #[.int .i64 kd, .agg #[.int .i64 (m : Int), .slice (some ⟨gb, 0, none⟩) mm mm], .slice (some ⟨wr.heap.size, 0, none⟩) m m, .int .i64 0, .int .i64 0, .int .i64 (k : Int)] (wr.alloc (.cells (madeCells #[.int .i64 0] m) 3)).drew fun e w' => ∃ ok, e = .returned (.bool ok) ∧ TruQ ok (SmP Gd m (fun _ => 0) 0 k) ∧ Below w3.heap.size w3 w' from by
          have b5 : Below wr.heap.size wr (wr.alloc (.cells (madeCells #[.int .i64 0] m) 3)).drew := ((Below.refl _ _).alloc (Nat.le_refl _) _).drew
          have q := unhide HSO gb wr.heap.size k (wr.alloc (.cells (madeCells #[.int .i64 0] m) 3)).drew (by omega) hk (hx.2.1.below b5) ((RoV.made wr m 3 (.int .i64 0)).below ((Below.refl _ _).drew))
          rw [u0] at q
          simp only [Int.natCast_zero] at q
          refine q.mono (fun e w' ⟨ok, h1, h2, _, h4⟩ => ⟨ok, h1, h2, ?_⟩)
          have hW5 := (unhide HW).trans (b5.mono (unhide HW).size)
          exact hW5.trans (h4.below hW5.size (fun j hj e => by have := (unhide HW).size; omega)))
        have HI9 := hide (show k + 1 ≤ m ∧ m - (k + 1) < m - k from by omega)
        clear hx hgb u0
        have hmk := make_intsR m (by omega)
        go_wp2_with fail
        go_region_held3 (fun w' => w'.cell? ⟨w2.heap.size, 0, none⟩ = some (.int .i64 (m : Int)) ∧ w'.cell? ⟨w2.heap.size, 1, none⟩ = some (.slice (some ⟨gb, 0, none⟩) mm mm)) (first | (exact ⟨p0, p1⟩) | go_keep) ((go_at_call 51; refine (unhide KS).mono ?_; rintro _ w6 ⟨ok, rfl, hok, b6⟩; have hn6 := unhide HN w6 b6; clear p0 p1; have p0 := (hn6.1.all 0 _ rfl).1; have p1 := (hn6.1.all 1 _ rfl).1; have HOK := hide hok; have HW6 := hide b6; clear hok b6 hn6))
        all_goals
          clear KS hmk p0 p1
          cases ok
          · have HN2 := hide (show ∀ j, j < k + 1 → ¬ SmP Gd m (fun _ => 0) 0 j from fun j hj hs => by
              by_cases e2 : j = k
              · subst e2; have := (unhide HOK).2 hs; cases this
              · exact unhide HNo j (by omega) hs)
            go_wp2_with fail
            exact ⟨⟨k + 1, (unhide HI9).1, by (first | rfl | go_num), HN2, HW6⟩, by have := (unhide HI9).2; simp only [intOf]; omega⟩
          · have HA := hide (show LeW Gd m w w6 (.returned (.tuple #[.int .i64 (k : Int), .int .i64 0])) from ⟨(unhide HN w6 (unhide HW6)).2.2, .inr ⟨hb8, k, .inl ⟨hlt, (unhide HOK).1 rfl, unhide HNo⟩, rfl⟩⟩)
            go_wp2_with fail
            refine bodyPost_ret (by simp [results, Tryz.results27, go_sem]; try rfl) rfl ?_
            exact unhide HA
      · obtain rfl : k = m := by omega
        have hlt' : ¬ (k : Int) < (k : Int) := by omega
        have HA := hide (show LeW Gd k w wr (.returned (.tuple #[.int .i64 (k : Int), .int .i64 0])) from ⟨hx.2.2, .inr ⟨hb8, k, .inr ⟨rfl, unhide HNo⟩, rfl⟩⟩)
        clear hx
        go_wp2_with fail
        refine bodyPost_ret (by simp [results, Tryz.results27, go_sem]; try rfl) rfl ?_
        exact unhide HA
  · have hb8' : (m : Int) > 8 := by omega
    go_wp2_with fail
    refine bodyPost_ret (by simp [results, Tryz.results27, go_sem]; try rfl) rfl ?_
    exact ⟨unhide HB3, .inl ⟨by omega, rfl⟩⟩
theorem zfE_at {f : Nat → Nat} {N i : Nat} (h : i < N) : zfE f N i = (f i : Int) := by unfold zfE; rw [if_pos h]
theorem zfE_ag {f e : Nat → Nat} {N : Nat} (h : AgE f e N) : zfE f N = zfE e N := by
  funext i
  unfold zfE
  by_cases hi : i < N
  · rw [if_pos hi, if_pos hi, h i hi]
  · rw [if_neg hi, if_neg hi]
section
variable {S C : List Int} {m : Nat} {Q : Nat → Bool}
def GdF (S C : List Int) (m : Nat) (Q : Nat → Bool) (k4 k5 : Bool) (f : Nat → Nat) : Prop := FiE (adG S C m) (zfE f m) (CqP (adG S C m) (zfE f m) (fun c d => FoP (adQ Q m) (fun u => u < m ∧ twB (zfE f m) c d u = true)) m 0) k4 k5
theorem GdF.cong {k4 k5 : Bool} {f e : Nat → Nat} (h : AgE f e m) : GdF S C m Q k4 k5 f ↔ GdF S C m Q k4 k5 e := by unfold GdF; rw [zfE_ag h]
theorem gdN_iff {f : Nat → Nat} : (∀ u v, adG S C m u v → zfE f m u ≠ zfE f m v) ↔ GdN S C m f := by
  unfold GdN
  constructor
  · intro h u v ha e
    have := h u v ha
    rw [zfE_at ha.1, zfE_at ha.2.1] at this
    omega
  · intro h u v ha
    have := h u v ha
    rw [zfE_at ha.1, zfE_at ha.2.1]
    omega
theorem gdF_nb {f : Nat → Nat} : GdF S C m Q false false f ↔ GdN S C m f := by
  unfold GdF FiE
  rw [gdN_iff]
  exact ⟨fun h => h.1, fun h => ⟨h, fun e => (by cases e), fun _ e => (by cases e)⟩⟩
theorem pa4_iff {f : Nat → Nat} {a b c d : Nat} : Pa4 (adG S C m) (zfE f m) a b c d ↔ Pa4 (adG S C m) (fun i => (f i : Int)) a b c d := by
  unfold Pa4 Lk1
  constructor
  · rintro ⟨h1, h2, h3, h4, h5, h6, h7, h8⟩
    rw [zfE_at h2.2.1, zfE_at h1.1] at h4
    rw [zfE_at h5.2.1, zfE_at h1.2.1] at h8
    exact ⟨h1, h2, h3, h4, h5, h6, h7, h8⟩
  · rintro ⟨h1, h2, h3, h4, h5, h6, h7, h8⟩
    refine ⟨h1, h2, h3, ?_, h5, h6, h7, ?_⟩
    · rw [zfE_at h2.2.1, zfE_at h1.1]; exact h4
    · rw [zfE_at h5.2.1, zfE_at h1.2.1]; exact h8
theorem gdF_st {k5 : Bool} {f : Nat → Nat} : GdF S C m Q true k5 f ↔ GdS S C m f := by
  unfold GdF FiE GdS
  rw [gdN_iff]
  exact ⟨fun h => ⟨h.1, fun a b c d hp => h.2.1 rfl a b c d (pa4_iff.2 hp)⟩, fun h => ⟨h.1, fun _ a b c d hp => h.2 a b c d (pa4_iff.1 hp), fun e => (by cases e)⟩⟩
theorem tw_zf {f : Nat → Nat} {c d : Int} {w : Nat} : TwC (zfE f m) m c d w ↔ TwC (fun i => (f i : Int)) m c d w := by
  unfold TwC
  constructor
  · rintro ⟨h, k⟩; rw [zfE_at h] at k; exact ⟨h, k⟩
  · rintro ⟨h, k⟩; refine ⟨h, ?_⟩; rw [zfE_at h]; exact k
theorem cip_zf (hQ : ∀ u v, u < m → v < m → (Q (u * m + v) = true ↔ adG S C m u v)) {f : Nat → Nat} (c d : Int) : CqP (adG S C m) (zfE f m) (fun c d => FoP (adQ Q m) (fun u => u < m ∧ twB (zfE f m) c d u = true)) m 0 c d ↔ CiP S C m (csL (fun i => (f i : Int)) m) c d := by
  have h := cqp_cip (xs := csL (fun i => (f i : Int)) m) hQ c d
  rw [zfE_get] at h
  exact h
theorem gdF_ac (hQ : ∀ u v, u < m → v < m → (Q (u * m + v) = true ↔ adG S C m u v)) {f : Nat → Nat} : GdF S C m Q false true f ↔ GdA S C m f := by
  unfold GdF FiE GdA
  rw [gdN_iff]
  have hget : ∀ i, i < m → (csL (fun i => (f i : Int)) m).getD i 0 = (f i : Int) := fun i hi => csL_get hi
  have htw : ∀ (c d : Int) (w : Nat), TwC (fun i => (csL (fun i => (f i : Int)) m).getD i 0) m c d w ↔ TwC (fun i => (f i : Int)) m c d w := fun c d w => by rw [zfE_get]; exact tw_zf
  constructor
  · rintro ⟨h1, _, h3⟩
    refine ⟨h1, fun u v ha hl => Classical.byContradiction (fun hn => h3 rfl rfl (f u : Int) (f v : Int) ((cip_zf hQ _ _).2 ⟨u, v, ha, hget u ha.1, hget v ha.2.1, by omega, fun hf => hn (hf.set (fun w hw => (htw _ _ w).2 hw))⟩))⟩
  · rintro ⟨h1, h2⟩
    refine ⟨h1, fun e => (by cases e), fun _ _ c d hc => ?_⟩
    obtain ⟨u, v, ha, e1, e2, hl, hn⟩ := (cip_zf hQ _ _).1 hc
    rw [hget u ha.1] at e1
    rw [hget v ha.2.1] at e2
    subst e1 e2
    exact hn ((h2 u v ha (by omega)).set (fun w hw => (htw _ _ w).1 hw))
theorem wfine_gd {k : Int} {k4 k5 : Bool} (hk4 : (k == 4) = k4) (hk5 : (k != 5) = !k5) (hm8 : m ≤ 128) (hg : GraP S C m m) (hQ : ∀ u v, u < m → v < m → (Q (u * m + v) = true ↔ adG S C m u v)) (gb gc : Nat) (f : Nat → Nat) (W : World) (h1 : RoV W gb (m * m) (fun i => .bool (Q i))) (h2 : RoV W gc m (fun i => .int .i64 (f i : Int))) :
    Calls Tryz.prog 85 #[.int .i64 k, grV m gb (m * m), .slice (some ⟨gc, 0, none⟩) m m] W fun e w' => ∃ ok, e = .returned (.bool ok) ∧ TruQ ok (GdF S C m Q k4 k5 f) ∧ Below W.heap.size W w' := by
  obtain ⟨q4, hq4⟩ := PaO.ex (adG S C m) (zfE f m)
  obtain ⟨q5, hq5⟩ := CiP.ex S C m (csL (fun i => (f i : Int)) m)
  exact (wfine_any k k4 k5 hk4 hk5 m gb (m * m) gc Q (adG S C m) hQ (fun u v h => ⟨h.1, h.2.1⟩) (adG.sy hg) (adG.ir hg) f W hm8 rfl h1 h2 q4 hq4 q5 (hq5.congr (fun c d => cip_zf hQ c d)) (tb (GdF S C m Q k4 k5 f)) tb_iff).mono (fun e w' h => ⟨_, h.1, tb_iff, h.2⟩)
end
structure LsT (k rows width : Int) (n1 n2 : Nat) (st cols : List Int) (d : Nat) (er : Int) : Prop where
  one : ∀ (a1 a2 : Option Addr) (c1 c2 : Nat) (w : World), SlI w a1 n1 c1 st → SlI w a2 n2 c2 cols → Calls Tryz.prog 10 #[.int .i64 k, patV rows width a1 n1 c1 a2 n2 c2] w fun e w' => Below w.heap.size w w' ∧ e = .returned (.tuple #[.int .i64 (d : Int), .int .i64 er])
  two : ∀ (a1 a2 : Option Addr) (c1 c2 : Nat) (w : World), SlI w a1 n1 c1 st → SlI w a2 n2 c2 cols → Calls Tryz.prog 27 #[.int .i64 k, patV rows width a1 n1 c1 a2 n2 c2] w fun e w' => Below w.heap.size w w' ∧ e = .returned (.tuple #[.int .i64 (d : Int), .int .i64 er])
section
variable {k : Int} {R width n1 n2 m : Nat} {st cols S C : List Int} {Q : Nat → Bool} {G G1 G2 G3 : Nat} {wd : Bool}
theorem dsP_ex (Gd : (Nat → Nat) → Prop) (m : Nat) : ∃ d, DsP Gd m d := by
  by_cases h : ∃ k, k < m ∧ SmP Gd m (fun _ => 0) 0 k
  · obtain ⟨k, hk, hs⟩ := h
    obtain ⟨y, h1, h2, h3⟩ := least_ex (B := fun j => ¬ SmP Gd m (fun _ => 0) 0 j) (k := k) (fun hb => hb hs)
    exact ⟨y, .inl ⟨by omega, Classical.byContradiction h2, h3⟩⟩
  · exact ⟨m, .inr ⟨rfl, fun k hk hs => h ⟨k, hk, hs⟩⟩⟩
theorem lsT_of (bar : (Nat → Int) → Nat → Nat → Prop) (Gd : (Nat → Nat) → Prop) (hG : ∀ f, (∀ j, j < m → f j ≤ usE f j) → (Gd f ↔ ∀ j, j < m → ¬ bar (cuE f j) j (f j)))
    (hp : ∀ (a1 a2 : Option Addr) (c1 c2 : Nat) (w : World), SlI w a1 n1 c1 st → SlI w a2 n2 c2 cols → Calls Tryz.prog 10 #[.int .i64 k, patV (R : Int) (width : Int) a1 n1 c1 a2 n2 c2] w fun e w' => LeA bar m w w' e)
    (hw : ∀ (a1 a2 : Option Addr) (c1 c2 : Nat) (w : World), SlI w a1 n1 c1 st → SlI w a2 n2 c2 cols → Calls Tryz.prog 27 #[.int .i64 k, patV (R : Int) (width : Int) a1 n1 c1 a2 n2 c2] w fun e w' => LeW Gd m w w' e) :
    ∃ d er, LsT k (R : Int) (width : Int) n1 n2 st cols d er := by
  obtain ⟨d, hd⟩ := dsP_ex Gd m
  by_cases h8 : m ≤ 8
  · refine ⟨d, 0, ⟨fun a1 a2 c1 c2 w g1 g2 => (hp a1 a2 c1 c2 w g1 g2).mono (fun e w' h => ⟨h.1, ?_⟩), fun a1 a2 c1 c2 w g1 g2 => (hw a1 a2 c1 c2 w g1 g2).mono (fun e w' h => ⟨h.1, ?_⟩)⟩⟩
    · rcases h.2 with h2 | ⟨_, r, h2, h3⟩
      · omega
      · rw [h3, least_same hG h2 hd]
    · rcases h.2 with h2 | ⟨_, d', h2, h3⟩
      · omega
      · have e1 : d' = d := by
          rcases h2 with ⟨a1, a2, a3⟩ | ⟨a1, a2⟩
          · rcases hd with ⟨b1, b2, b3⟩ | ⟨b1, b2⟩
            · rcases Nat.lt_trichotomy d' d with l | l | l
              · exact absurd a2 (b3 d' l)
              · exact l
              · exact absurd b2 (a3 d l)
            · exact absurd a2 (b2 d' a1)
          · rcases hd with ⟨b1, b2, b3⟩ | ⟨b1, b2⟩
            · exact absurd b2 (a2 d b1)
            · omega
        rw [h3, e1]
  · refine ⟨0, 1, ⟨fun a1 a2 c1 c2 w g1 g2 => (hp a1 a2 c1 c2 w g1 g2).mono (fun e w' h => ⟨h.1, ?_⟩), fun a1 a2 c1 c2 w g1 g2 => (hw a1 a2 c1 c2 w g1 g2).mono (fun e w' h => ⟨h.1, ?_⟩)⟩⟩
    · rcases h.2 with ⟨_, h3⟩ | ⟨h2, _⟩
      · rw [h3]; rfl
      · omega
    · rcases h.2 with ⟨_, h3⟩ | ⟨h2, _⟩
      · rw [h3]; rfl
      · omega
theorem lsT_nb (hk4 : (k == 4) = false) (hk5 : (k != 5) = true) (h : KdY k R width n1 n2 st cols m S C Q G G1 93 G3 wd) : ∃ d er, LsT k (R : Int) (width : Int) n1 n2 st cols d er :=
  lsT_of (BarN S C) (GdF S C m Q false false) (fun f _ => gdF_nb.trans (gd_nb h.may h.gra f))
    (fun a1 a2 c1 c2 w g1 g2 => cLeast_yes (BarN S C) (fun _ _ => True) (fun _ _ _ _ _ => trivial) (fun _ _ _ _ _ _ _ => trivial) (fun _ _ _ => trivial) k G G1 _ G3 wd R width m S C a1 a2 n1 c1 n2 c2 st cols w g1 g2 h.m8 (fun X x d y z g h' => frAll_nb h.may h.sl h.cl) (fun W' => h.task a1 a2 c1 c2 W'))
    (fun a1 a2 c1 c2 w g1 g2 => wLeast_yes _ k R width m Q a1 a2 n1 c1 n2 c2 st cols w g1 g2 h.m8 (fun f e he => GdF.cong he) (fun gb gc f W' r1 r2 => wfine_gd hk4 (by rw [hk5]; rfl) h.m8 h.gra h.hQ gb gc f W' r1 r2) (fun W' => h.thg a1 a2 c1 c2 W'))
theorem lsT_st (hk4 : (k == 4) = true) (h : KdY k R width n1 n2 st cols m S C Q G G1 102 G3 wd) : ∃ d er, LsT k (R : Int) (width : Int) n1 n2 st cols d er :=
  lsT_of (BarP S C) (GdF S C m Q true (!(k != 5))) (fun f _ => gdF_st.trans (gd_st h.may h.gra f))
    (fun a1 a2 c1 c2 w g1 g2 => cLeast_yes (BarP S C) (fun _ _ => True) (fun _ _ _ _ _ => trivial) (fun _ _ _ _ _ _ _ => trivial) (fun _ _ _ => trivial) k G G1 _ G3 wd R width m S C a1 a2 n1 c1 n2 c2 st cols w g1 g2 h.m8 (fun X x d y z g h' => frAll_st h.may h.sl h.cl) (fun W' => h.task a1 a2 c1 c2 W'))
    (fun a1 a2 c1 c2 w g1 g2 => wLeast_yes _ k R width m Q a1 a2 n1 c1 n2 c2 st cols w g1 g2 h.m8 (fun f e he => GdF.cong he) (fun gb gc f W' r1 r2 => wfine_gd hk4 (by simp) h.m8 h.gra h.hQ gb gc f W' r1 r2) (fun W' => h.thg a1 a2 c1 c2 W'))
theorem lsT_ac (hk4 : (k == 4) = false) (hk5 : (k != 5) = false) (h : KdY k R width n1 n2 st cols m S C Q G G1 104 G3 wd) : ∃ d er, LsT k (R : Int) (width : Int) n1 n2 st cols d er :=
  lsT_of (BarA S C m) (GdF S C m Q false true) (fun f _ => (gdF_ac h.hQ).trans (gd_ac h.may h.gra f))
    (fun a1 a2 c1 c2 w g1 g2 => cLeast_yes (BarA S C m) (fun X W => ∃ pf, RoF W X 16 pf) (fun X W W' ⟨pf, hr⟩ b => ⟨pf, hr.below b⟩) (fun X g W W' hne ⟨pf, hr⟩ b => ⟨pf, hr.chg b (fun e => hne e.symm)⟩) (fun X W hr => ⟨_, hr⟩) k G G1 _ G3 wd R width m S C a1 a2 n1 c1 n2 c2 st cols w g1 g2 h.m8 (fun X x d y z g h' => frAll_ac h.may h.gra h.sl h.cl) (fun W' => h.task a1 a2 c1 c2 W'))
    (fun a1 a2 c1 c2 w g1 g2 => wLeast_yes _ k R width m Q a1 a2 n1 c1 n2 c2 st cols w g1 g2 h.m8 (fun f e he => GdF.cong he) (fun gb gc f W' r1 r2 => wfine_gd hk4 (by rw [hk5]; rfl) h.m8 h.gra h.hQ gb gc f W' r1 r2) (fun W' => h.thg a1 a2 c1 c2 W'))
end
theorem lsT_two (k rows width : Int) (n1 n2 : Nat) (st cols : List Int) (hl1 : st.length = n1) (hl2 : cols.length = n2) (hb1 : n1 ≤ 17592186044000) (hb2 : n2 ≤ 17592186044000) : ∃ d er, LsT k rows width n1 n2 st cols d er := by
  rcases kd_all k rows width n1 n2 st cols hl1 hl2 hb1 hb2 with ⟨er, h⟩ | ⟨R, W, rfl, rfl, hm, h⟩
  · exact ⟨0, er, fun a1 a2 c1 c2 w g1 g2 => cLeast_no k rows width er h.ne a1 a2 n1 c1 n2 c2 st cols w g1 g2 (h.task a1 a2 c1 c2), fun a1 a2 c1 c2 w g1 g2 => wLeast_no k rows width er h.ne a1 a2 n1 c1 n2 c2 st cols w g1 g2 (h.thg a1 a2 c1 c2)⟩
  · rcases h with ⟨rfl, Q, h⟩ | ⟨rfl, Q, h⟩ | ⟨rfl, Q, h⟩ | ⟨rfl, Q, h⟩ | ⟨rfl, Q, h⟩
    · exact lsT_nb (by decide) (by decide) h
    · exact lsT_st (by decide) h
    · exact lsT_ac (by decide) (by decide) h
    · exact lsT_nb (by decide) (by decide) h
    · exact lsT_nb (by decide) (by decide) h
end Go.Proofs.YtgjokididdffhaaGreat
