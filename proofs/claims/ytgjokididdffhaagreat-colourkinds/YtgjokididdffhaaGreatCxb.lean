/- Cxa -/
import Derived.Test.YtgjokididdffhaaGreatCx7
import Derived.Test.YtgjokididdffhaaGreatChi
import Derived.Test.YtgjokididdffhaaGreatCw5
namespace Go.Proofs.YtgjokididdffhaaGreat
open Go.RowKit Go.Deep
set_option linter.unusedVariables false
def FaP (L : List Int) (er : Int) (w w' : World) (e : Ending) : Prop := Below w.heap.size w w' ∧ ∃ a c, e = .returned (.tuple #[.slice a L.length c, .int .i64 er]) ∧ w'.ownsRow w.heap.size 3 1 (.slice a L.length c) L.length (valsI L)
def faL : Bool → Option (Nat × Nat) → List Int → List Int → List Int
  | false, _, _, _ => []
  | true, none, _, Lt => Lt
  | true, some _, Lp, _ => Lp
def faE : Bool → Int
  | false => 240
  | true => 0
set_option maxRecDepth 100000 in
set_option maxHeartbeats 8000000 in
theorem wmay2_any (a : Option Addr) (n c : Nat) (xs : List Int) (m : Nat) (w : World) (h : SlI w a n c xs) (hn : n ≤ 17592186044416) (ok : Bool) (hok : TruQ ok (n = m ∧ MayC xs n)) :
    Calls Tryz.prog 58 #[.int .i64 (m : Int), .slice a n c] w fun e w' => e = .returned (.bool ok) ∧ Below w.heap.size w w' := by
  by_cases hnm : n = m
  · subst hnm
    exact wmayC_any a n c xs w h hn ok ⟨fun e => (hok.1 e).2, fun k => hok.2 ⟨rfl, k⟩⟩
  · have hk : ok = false := by rw [Bool.eq_false_iff]; intro e; exact hnm (hok.1 e).1
    have tn : ((n : Int) != (m : Int)) = true := by simp; omega
    subst hk
    clear hok hnm h
    go_enter Tryz.func58, Tryz.ntmps58
    go_wp2_with fail
    try go_ret
    exact ⟨rfl, Below.refl _ _⟩
set_option maxRecDepth 100000 in
set_option maxHeartbeats 16000000 in
theorem wFault_yes (kd : Int) (k4 k5 : Bool) (hk4 : (kd == 4) = k4) (hk5 : (kd == 5) = k5) (R width m : Nat) (Q : Nat → Bool) (ad : Nat → Nat → Prop) (hQ : ∀ u v, u < m → v < m → (Q (u * m + v) = true ↔ ad u v)) (had : ∀ u v, ad u v → u < m ∧ v < m) (a : Option Addr) (n c : Nat) (xs : List Int) (a1 a2 : Option Addr) (n1 c1 n2 c2 : Nat) (st cols : List Int) (w : World) (h1 : SlI w a1 n1 c1 st) (h2 : SlI w a2 n2 c2 cols) (h3 : SlI w a n c xs) (hn : n ≤ 17592186044000) (hm8 : m ≤ 128) (ok : Bool) (hok : TruQ ok (n = m ∧ MayC xs n)) (o : Option (Nat × Nat)) (ho : PrO ad (fun i => xs.getD i 0) o) (Lp Lt : List Int)
    (hWh : ∀ u v, o = some (u, v) → u < m → v < m → ∀ W, SlI W a1 n1 c1 st → SlI W a2 n2 c2 cols → Calls Tryz.prog 60 #[.int .i64 kd, patV (R : Int) (width : Int) a1 n1 c1 a2 n2 c2, .int .i64 (u : Int), .int .i64 (v : Int)] W fun e w' => OwA Lp W w' e)
    (hPa : k4 = true → n = m → ∀ gb W, RoV W gb (m * m) (fun i => .bool (Q i)) → SlI W a n c xs → Calls Tryz.prog 61 #[grV m gb (m * m), .slice a n c] W fun e w' => OwA Lt W w' e)
    (hCi : k4 = false → k5 = true → n = m → ∀ gb W, RoV W gb (m * m) (fun i => .bool (Q i)) → SlI W a n c xs → Calls Tryz.prog 62 #[grV m gb (m * m), .slice a n c] W fun e w' => OwA Lt W w' e)
    (hNo : k4 = false → k5 = false → Lt = [])
    (hT : ∀ W, SlI W a1 n1 c1 st → SlI W a2 n2 c2 cols → Calls Tryz.prog 21 #[.int .i64 kd, patV (R : Int) (width : Int) a1 n1 c1 a2 n2 c2] W fun e w' => TgQ W w' e m (m * m) Q) :
    Calls Tryz.prog 30 #[.int .i64 kd, patV (R : Int) (width : Int) a1 n1 c1 a2 n2 c2, .slice a n c] w fun e w' => FaP (faL ok o Lp Lt) (faE ok) w w' e := by
  obtain ⟨wb, hwb⟩ : ∃ x, w.alloc (.cells #[.int .i64 (R : Int), .int .i64 (width : Int), .slice a1 n1 c1, .slice a2 n2 c2] 25) = x := ⟨_, rfl⟩
  have bb : Below w.heap.size w wb := by rw [← hwb]; exact (Below.refl _ _).alloc (Nat.le_refl _) _
  have hT0 := BoxP.made w #[.int .i64 (R : Int), .int .i64 (width : Int), .slice a1 n1 c1, .slice a2 n2 c2] 25
  rw [hwb] at hT0
  have p0 := (hT0.all 0 _ rfl).1
  have p1 := (hT0.all 1 _ rfl).1
  have p2 := (hT0.all 2 _ rfl).1
  have p3 := (hT0.all 3 _ rfl).1
  have KT := hide (hT wb (h1.below bb) (h2.below bb))
  unfold patV at KT
  have HB := hide bb
  have HT0 := hide hT0
  have HX := hide h3
  have HOK := hide hok
  have HQ := hide hQ
  have HD := hide had
  have HPO := hide ho
  have HWh := hide hWh
  have HPa := hide hPa
  have HCi := hide hCi
  have HNo := hide hNo
  have HS12 := hide (And.intro (h1.below bb) (h2.below bb))
  have HK45 := hide (And.intro hk4 hk5)
  obtain ⟨mm, hmm⟩ : ∃ mm, m * m = mm := ⟨_, rfl⟩
  have HMM := hide hmm
  have hmm2 : mm ≤ 16384 := by
    have := Nat.mul_le_mul hm8 hm8
    omega
  rw [hmm] at KT HPa HCi
  unfold TgQ grV at KT
  unfold grV at HPa HCi
  unfold patV at HWh
  clear hT0 bb h1 h2 hT h3 hok hQ had ho hWh hPa hCi hNo hk4 hk5 hmm
  unfold patV
  go_enter Tryz.func30, Tryz.ntmps30
  go_wp2_with fail
  refine (unhide KT).mono ?_
  rintro _ w2 ⟨gb, rfl, hRo, b2⟩
  clear p0 p1 p2 p3 KT
  try dsimp only
  repeat ((fail_if_success (with_reducible (show Code.wp _ _ _ _ (World.alloc w2 (Obj.cells #[_, .slice (some ⟨gb, 0, none⟩) mm mm] _))))); (first | go_values | go_skip | go_guarded | go_step | go_upon | go_back))
  have hG := BoxP.made w2 #[.int .i64 (m : Int), .slice (some ⟨gb, 0, none⟩) mm mm] 45
  have bg : Below w2.heap.size w2 (w2.alloc (.cells #[.int .i64 (m : Int), .slice (some ⟨gb, 0, none⟩) mm mm] 45)) := (Below.refl _ _).alloc (Nat.le_refl _) _
  have hb3 := ((unhide HB).trans (b2.mono (unhide HB).size)).trans (bg.mono (Nat.le_trans (unhide HB).size b2.size))
  have HRo := hide (hRo.below bg)
  have b2q := b2
  have bgq := bg
  clear b2 bg hRo
  generalize w2.alloc (.cells #[.int .i64 (m : Int), .slice (some ⟨gb, 0, none⟩) mm mm] 45) = w3 at *
  have s0 := (hG.all 0 _ rfl).1
  have s1 := (hG.all 1 _ rfl).1
  have KO := hide (wmay2_any a n c xs m w3 ((unhide HX).below hb3) (by omega) ok (unhide HOK))
  have HB3 := hide hb3
  have HG := hide hG
  have HTT := hide (((unhide HT0).below b2q).below bgq)
  clear hG hb3
  go_wp2_with fail
  refine (unhide KO).mono ?_
  rintro _ w4 ⟨rfl, b4'⟩
  have HN := hide (show ∀ W, Below w4.heap.size w4 W → BoxP W w2.heap.size [.int .i64 (m : Int), .slice (some ⟨gb, 0, none⟩) mm mm] ∧ RoV W gb mm (fun i => .bool (Q i)) ∧ SlI W a n c xs ∧ Below w.heap.size w W from fun W k =>
    have hb4 := (unhide HB3).trans (b4'.mono (unhide HB3).size)
    ⟨((unhide HG).below b4').below k, ((unhide HRo).below b4').below k, ((unhide HX).below hb4).below k, hb4.trans (k.mono hb4.size)⟩)
  have HTB := hide (show ∀ W, Below w4.heap.size w4 W → BoxP W w.heap.size [.int .i64 (R : Int), .int .i64 (width : Int), .slice a1 n1 c1, .slice a2 n2 c2] ∧ SlI W a1 n1 c1 st ∧ SlI W a2 n2 c2 cols from fun W k =>
    ⟨((unhide HTT).below b4').below k, (((((unhide HS12).1.below b2q).below bgq).below b4').below k), (((((unhide HS12).2.below b2q).below bgq).below b4').below k)⟩)
  clear KO b4' s0 s1 b2q bgq
  cases ok
  · have HF := hide (unhide HN w4 (Below.refl _ _)).2.2.2
    go_wp2_with fail
    refine bodyPost_ret (by simp [results, Tryz.results30, go_sem]; try rfl) rfl ?_
    exact ⟨unhide HF, none, 0, rfl, World.ownsRow_nil _ _ _ _⟩
  · have hok1 := (unhide HOK).1 rfl
    obtain ⟨hnm, hmc⟩ := hok1
    subst hnm
    have hx := unhide HN w4 (Below.refl _ _)
    have p0 := (hx.1.all 0 _ rfl).1
    have HM := hide (show ∀ W, Below w4.heap.size w4 W → ∀ u z t, u < n → z < n → Q (u * n + z) = t → Calls Tryz.prog 59 #[.agg #[.int .i64 (n : Int), .slice (some ⟨gb, 0, none⟩) mm mm], .int .i64 (u : Int), .int .i64 (z : Int)] W fun e w' => e = .returned (.bool t) ∧ Below W.heap.size W w' from fun W b u z t hu hz ht => by
      subst ht
      exact wmeet_any n gb mm u z Q W hm8 (by omega) (by omega) (by rw [← unhide HMM]; exact idx_lt hu hz) hmm2 (unhide HN W b).2.1)
    clear hx hmc
    go_wp2_with fail
    clear p0
    go_loopw [10] (fun uv wr => ∃ u : Nat, u ≤ n ∧ uv = .int .i64 (u : Int) ∧ Hid (∀ u' v', (u' < u ∨ (u' = u ∧ v' < 0)) → ¬ Pr1 ad (fun i => xs.getD i 0) u' v') ∧ Hid (Below w4.heap.size w4 wr)) (fun uv _ => n - (intOf uv).toNat)
    case atStart => exact ⟨0, Nat.zero_le _, rfl, hide (fun u' v' h => by omega), hide (Below.refl _ _)⟩
    case round =>
      obtain ⟨u, hu, rfl, HP, HW⟩ := hrel
      have hx := unhide HN wr (unhide HW)
      have p0 := (hx.1.all 0 _ rfl).1
      by_cases hul : u < n
      · have hul' : (u : Int) < (n : Int) := by omega
        have hw1 : IntKind.i64.wrap ((u : Int) + 1) = (u : Int) + 1 := by rw [IntKind.wrap_i64]; omega
        clear hx
        go_wp2_with fail
        clear p0
        go_loopw [11] (fun vv wq => ∃ v : Nat, u + 1 ≤ v ∧ v ≤ n ∧ vv = .int .i64 (v : Int) ∧ Hid (∀ u' v', (u' < u ∨ (u' = u ∧ v' < v)) → ¬ Pr1 ad (fun i => xs.getD i 0) u' v') ∧ Hid (Below w4.heap.size w4 wq)) (fun vv _ => n - (intOf vv).toNat)
        case atStart => exact ⟨u + 1, Nat.le_refl _, by omega, by (first | rfl | go_num), hide (fun u' v' h k => by
          by_cases e : u' < u
          · exact unhide HP u' v' (.inl e) k
          · have := k.2.1; omega), HW⟩
        case round =>
          obtain ⟨v, hv1, hv, rfl, HP2, HW2⟩ := hrel
          have hx := unhide HN wr (unhide HW2)
          have p0 := (hx.1.all 0 _ rfl).1
          have p1 := (hx.1.all 1 _ rfl).1
          by_cases hvl : v < n
          · have hvl' : (v : Int) < (n : Int) := by omega
            obtain ⟨bc, oc, ea, hcx⟩ := hx.2.2.1.at (by omega)
            have s0 := hcx u hul
            have s1 := hcx v hvl
            obtain ⟨y0, hy0⟩ : ∃ y, xs.getD u 0 = y := ⟨_, rfl⟩
            obtain ⟨y1, hy1⟩ : ∃ y, xs.getD v 0 = y := ⟨_, rfl⟩
            rw [hy0] at s0
            rw [hy1] at s1
            obtain ⟨q1, hq1⟩ : ∃ t, Q (u * n + v) = t := ⟨_, rfl⟩
            have F0 := fun x' : Ext wr => x'.cell s0
            have F1 := fun x' : Ext wr => x'.cell s1
            have F2 := fun x' : Ext wr => x'.cell p0
            have F3 := fun x' : Ext wr => x'.cell p1
            have hNE := Ext.ne wr
            have HK1 := hide (show ∀ x' : Ext wr, Calls Tryz.prog 59 #[.agg #[.int .i64 (n : Int), .slice (some ⟨gb, 0, none⟩) mm mm], .int .i64 (u : Int), .int .i64 (v : Int)] x'.w fun e w' => e = .returned (.bool q1) ∧ Below x'.w.heap.size x'.w w' from fun x' => unhide HM x'.w ((unhide HW2).trans (x'.bel.mono (unhide HW2).size)) u v q1 hul hvl hq1)
            have HQ1 := hide (show TruQ q1 (ad u v) from by rw [← hq1]; exact unhide HQ u v hul hvl)
            have HY := hide (And.intro hy0 hy1)
            have HNX := hide (show ¬ Pr1 ad (fun i => xs.getD i 0) u v → ∀ u' v', (u' < u ∨ (u' = u ∧ v' < v + 1)) → ¬ Pr1 ad (fun i => xs.getD i 0) u' v' from fun k u' v' h => by
              by_cases e : u' = u ∧ v' = v
              · obtain ⟨rfl, rfl⟩ := e; exact k
              · exact unhide HP2 u' v' (by omega))
            subst ea
            clear hq1 hy0 hy1 hx hcx
            cases q1
            · have HN3 := hide (unhide HNX (fun k => by have := (unhide HQ1).2 k.1; cases this))
              go_wp2_with fail
              refine wp_region_ext (by kernel_rfl) (by kernel_rfl) ?_
              repeat (go_big_quiet_step ((go_at_call 59; rename_i x'; exact Ext.call (unhide HK1 x') (fun e w' h => h))))
              refine wpQuiet_nil ?_
              rintro _ ⟨xE, rfl⟩
              have HX1 := hide (show Below w4.heap.size w4 xE.w from (unhide HW2).trans (xE.bel.mono (unhide HW2).size))
              clear F0 F1 F2 F3 hNE HK1 s0 s1 p0 p1
              go_wp2_with fail
              exact ⟨⟨v + 1, by omega, by omega, by (first | rfl | go_num), HN3, HX1⟩, by simp [intOf]; omega⟩
            · by_cases hyy : y0 = y1
              · have hyy' : (y0 == y1) = true := by simp [hyy]
                have hres := PrO.at (unhide HPO) (u := u) (v := v) ⟨(unhide HQ1).1 (by first | rfl | trivial), by omega, (by show xs.getD u 0 = xs.getD v 0; rw [(unhide HY).1, (unhide HY).2]; exact hyy)⟩ (unhide HP2)
                have HRES := hide hres
                clear hyy hres
                go_wp2_with fail
                refine wp_region_ext (by kernel_rfl) (by kernel_rfl) ?_
                repeat (go_big_quiet_step ((go_at_call 59; rename_i x'; exact Ext.call (unhide HK1 x') (fun e w' h => h))))
                refine wpQuiet_nil ?_
                rintro _ ⟨xE, rfl⟩
                have HX1 := hide (show Below w4.heap.size w4 xE.w from (unhide HW2).trans (xE.bel.mono (unhide HW2).size))
                clear F0 F1 F2 F3 hNE HK1 s0 s1 p0 p1
                have hxt := unhide HTB xE.w (unhide HX1)
                have t0 := (hxt.1.all 0 _ rfl).1
                have t1 := (hxt.1.all 1 _ rfl).1
                have t2 := (hxt.1.all 2 _ rfl).1
                have t3 := (hxt.1.all 3 _ rfl).1
                have KW := hide (unhide HWh u v (unhide HRES) hul hvl xE.w hxt.2.1 hxt.2.2)
                have hF9 := (unhide HN xE.w (unhide HX1)).2.2.2
                have HF9 := hide hF9
                clear hxt hF9
                go_wp2_with fail
                refine (unhide KW).mono ?_
                rintro _ w6 ⟨v6, rfl, hO6, b6⟩
                obtain ⟨a6, c6, rfl, hs6⟩ := own_slI hO6
                have HO6 := hide (own_mono5 hO6 (unhide HF9).size)
                have HF6 := hide ((unhide HF9).trans (b6.mono (unhide HF9).size))
                have hres := unhide HRES
                subst hres
                clear KW hO6 hs6 b6
                go_wp2_with fail
                refine bodyPost_ret (by simp [results, Tryz.results30, go_sem]; try rfl) rfl ?_
                exact ⟨unhide HF6, _, _, rfl, unhide HO6⟩
              · have hyy' : (y0 == y1) = false := by simp [hyy]
                have HN3 := hide (unhide HNX (fun k => by have h9 : xs.getD u 0 = xs.getD v 0 := k.2.2; rw [(unhide HY).1, (unhide HY).2] at h9; exact hyy h9))
                clear hyy
                go_wp2_with fail
                refine wp_region_ext (by kernel_rfl) (by kernel_rfl) ?_
                repeat (go_big_quiet_step ((go_at_call 59; rename_i x'; exact Ext.call (unhide HK1 x') (fun e w' h => h))))
                refine wpQuiet_nil ?_
                rintro _ ⟨xE, rfl⟩
                have HX1 := hide (show Below w4.heap.size w4 xE.w from (unhide HW2).trans (xE.bel.mono (unhide HW2).size))
                clear F0 F1 F2 F3 hNE HK1 s0 s1 p0 p1
                go_wp2_with fail
                exact ⟨⟨v + 1, by omega, by omega, by (first | rfl | go_num), HN3, HX1⟩, by simp [intOf]; omega⟩
          · obtain rfl : v = n := by omega
            have hvl' : ¬ (v : Int) < (v : Int) := by omega
            have HN3 := hide (show ∀ u' v', (u' < u + 1 ∨ (u' = u + 1 ∧ v' < 0)) → ¬ Pr1 ad (fun i => xs.getD i 0) u' v' from fun u' v' h k => by
              have := (unhide HD u' v' k.1).2
              exact unhide HP2 u' v' (by omega) k)
            clear hx
            go_wp2_with fail
            exact ⟨⟨u + 1, by omega, by (first | rfl | go_num), HN3, HW2⟩, by simp [intOf]; omega⟩
      · obtain rfl : u = n := by omega
        have hul' : ¬ (u : Int) < (u : Int) := by omega
        have hres := PrO.no (unhide HPO) (fun u' v' k => unhide HP u' v' (.inl (unhide HD u' v' k.1).1) k)
        subst hres
        have p1 := (hx.1.all 1 _ rfl).1
        have HF9 := hide hx.2.2.2
        obtain ⟨hk4, hk5⟩ := unhide HK45
        cases k4
        · cases k5
          · have hL := unhide HNo (by first | rfl | trivial) (by first | rfl | trivial)
            subst hL
            clear hx
            go_wp2_with fail
            refine bodyPost_ret (by simp [results, Tryz.results30, go_sem]; try rfl) rfl ?_
            exact ⟨unhide HF9, none, 0, rfl, World.ownsRow_nil _ _ _ _⟩
          · have KC := hide (unhide HCi (by first | rfl | trivial) (by first | rfl | trivial) (by first | rfl | trivial) gb wr hx.2.1 hx.2.2.1)
            clear hx
            go_wp2_with fail
            refine (unhide KC).mono ?_
            rintro _ w6 ⟨v6, rfl, hO6, b6⟩
            obtain ⟨a6, c6, rfl, hs6⟩ := own_slI hO6
            have HO6 := hide (own_mono5 hO6 (unhide HF9).size)
            have HF6 := hide ((unhide HF9).trans (b6.mono (unhide HF9).size))
            clear KC hO6 hs6 b6 p0 p1
            go_wp2_with fail
            refine bodyPost_ret (by simp [results, Tryz.results30, go_sem]; try rfl) rfl ?_
            exact ⟨unhide HF6, _, _, rfl, unhide HO6⟩
        · have KC := hide (unhide HPa (by first | rfl | trivial) (by first | rfl | trivial) gb wr hx.2.1 hx.2.2.1)
          clear hx hk5
          go_wp2_with fail
          refine (unhide KC).mono ?_
          rintro _ w6 ⟨v6, rfl, hO6, b6⟩
          obtain ⟨a6, c6, rfl, hs6⟩ := own_slI hO6
          have HO6 := hide (own_mono5 hO6 (unhide HF9).size)
          have HF6 := hide ((unhide HF9).trans (b6.mono (unhide HF9).size))
          clear KC hO6 hs6 b6 p0 p1
          go_wp2_with fail
          refine bodyPost_ret (by simp [results, Tryz.results30, go_sem]; try rfl) rfl ?_
          exact ⟨unhide HF6, _, _, rfl, unhide HO6⟩
def ckE : List Int → Int → Int
  | [], er => er
  | _ :: _, er => if er = 0 then 241 else er
set_option maxRecDepth 100000 in
set_option maxHeartbeats 16000000 in
theorem cCheck_by (k rows width er : Int) (L : List Int) (a1 a2 a : Option Addr) (n1 c1 n2 c2 n c : Nat) (w : World) (hF : ∀ W, Below w.heap.size w W → Calls Tryz.prog 14 #[.int .i64 k, patV rows width a1 n1 c1 a2 n2 c2, .slice a n c] W fun e w' => FaP L er W w' e) :
    Calls Tryz.prog 15 #[.int .i64 k, patV rows width a1 n1 c1 a2 n2 c2, .slice a n c] w fun e w' => e = .returned (.int .i64 (ckE L er)) ∧ Below w.heap.size w w' := by
  obtain ⟨wb, hwb⟩ : ∃ x, w.alloc (.cells #[.int .i64 rows, .int .i64 width, .slice a1 n1 c1, .slice a2 n2 c2] 25) = x := ⟨_, rfl⟩
  have bb : Below w.heap.size w wb := by rw [← hwb]; exact (Below.refl _ _).alloc (Nat.le_refl _) _
  have hT := BoxP.made w #[.int .i64 rows, .int .i64 width, .slice a1 n1 c1, .slice a2 n2 c2] 25
  rw [hwb] at hT
  have p0 := (hT.all 0 _ rfl).1
  have p1 := (hT.all 1 _ rfl).1
  have p2 := (hT.all 2 _ rfl).1
  have p3 := (hT.all 3 _ rfl).1
  have KF := hide (hF wb bb)
  unfold patV at KF
  have HB := hide bb
  clear hT bb hF
  have key : ∀ e : Int, e = er → (e == 0) = (er == 0) := fun e h => by rw [h]
  cases L with
  | nil =>
    have hce : ckE [] er = er := rfl
    rw [hce]
    unfold patV
    by_cases he : er = 0
    · have he' : (er == 0) = true := by simp [he]
      clear he key hce
      go_enter Tryz.func15, Tryz.ntmps15
      go_wp2_with fail
      refine (unhide KF).mono ?_
      rintro _ w2 ⟨b2, a6, c6, rfl, hO⟩
      have HF2 := hide ((unhide HB).trans (b2.mono (unhide HB).size))
      clear KF b2 hO p0 p1 p2 p3
      go_wp2_with fail
      try go_ret
      exact ⟨rfl, unhide HF2⟩
    · have he' : (er == 0) = false := by simp [he]
      clear he key hce
      go_enter Tryz.func15, Tryz.ntmps15
      go_wp2_with fail
      refine (unhide KF).mono ?_
      rintro _ w2 ⟨b2, a6, c6, rfl, hO⟩
      have HF2 := hide ((unhide HB).trans (b2.mono (unhide HB).size))
      clear KF b2 hO p0 p1 p2 p3
      go_wp2_with fail
      try go_ret
      exact ⟨rfl, unhide HF2⟩
  | cons x L =>
    unfold patV
    obtain ⟨z, hz⟩ : ∃ z, (x :: L).length = z := ⟨_, rfl⟩
    have hzp : 0 < z := by rw [← hz]; simp
    have hzp' : decide (0 < z) = true := by simp [hzp]
    have hzi : (0 : Int) < (z : Int) := by omega
    by_cases he : er = 0
    · have he' : (er == 0) = true := by simp [he]
      have hce : ckE (x :: L) er = 241 := by show (if er = 0 then (241 : Int) else er) = 241; rw [if_pos he]
      rw [hce]
      clear he key hce
      go_enter Tryz.func15, Tryz.ntmps15
      go_wp2_with fail
      refine (unhide KF).mono ?_
      rintro _ w2 ⟨b2, a6, c6, rfl, hO⟩
      rw [hz]
      have HF2 := hide ((unhide HB).trans (b2.mono (unhide HB).size))
      clear KF b2 hO p0 p1 p2 p3 hz
      go_wp2_with fail
      try go_ret
      exact ⟨rfl, unhide HF2⟩
    · have he' : (er == 0) = false := by simp [he]
      have hce : ckE (x :: L) er = er := by show (if er = 0 then (241 : Int) else er) = er; rw [if_neg he]
      rw [hce]
      clear he key hce
      go_enter Tryz.func15, Tryz.ntmps15
      go_wp2_with fail
      refine (unhide KF).mono ?_
      rintro _ w2 ⟨b2, a6, c6, rfl, hO⟩
      rw [hz]
      have HF2 := hide ((unhide HB).trans (b2.mono (unhide HB).size))
      clear KF b2 hO p0 p1 p2 p3 hz
      go_wp2_with fail
      try go_ret
      exact ⟨rfl, unhide HF2⟩
set_option maxRecDepth 100000 in
set_option maxHeartbeats 16000000 in
theorem cFault_no (k rows width : Int) (er : Int) (her : (er != 0) = true) (a : Option Addr) (n c : Nat) (a1 a2 : Option Addr) (n1 c1 n2 c2 : Nat) (st cols : List Int) (w : World) (h1 : SlI w a1 n1 c1 st) (h2 : SlI w a2 n2 c2 cols) (hT : ∀ W, SlI W a1 n1 c1 st → SlI W a2 n2 c2 cols → Calls Tryz.prog 34 #[.int .i64 k, patV rows width a1 n1 c1 a2 n2 c2] W fun e w' => TkN W w' e er) :
    Calls Tryz.prog 14 #[.int .i64 k, patV rows width a1 n1 c1 a2 n2 c2, .slice a n c] w fun e w' => e = .returned (.tuple #[.slice none 0 0, .int .i64 er]) ∧ Below w.heap.size w w' := by
  obtain ⟨wb, hwb⟩ : ∃ x, w.alloc (.cells #[.int .i64 rows, .int .i64 width, .slice a1 n1 c1, .slice a2 n2 c2] 25) = x := ⟨_, rfl⟩
  have bb : Below w.heap.size w wb := by rw [← hwb]; exact (Below.refl _ _).alloc (Nat.le_refl _) _
  have hT0 := BoxP.made w #[.int .i64 rows, .int .i64 width, .slice a1 n1 c1, .slice a2 n2 c2] 25
  rw [hwb] at hT0
  have p0 := (hT0.all 0 _ rfl).1
  have p1 := (hT0.all 1 _ rfl).1
  have p2 := (hT0.all 2 _ rfl).1
  have p3 := (hT0.all 3 _ rfl).1
  have KT := hide (hT wb (h1.below bb) (h2.below bb))
  unfold patV at KT
  have HB := hide bb
  have HT0 := hide hT0
  clear hT0 bb h1 h2 hT
  unfold patV
  go_enter Tryz.func14, Tryz.ntmps14
  go_wp2_with fail
  refine (unhide KT).mono ?_
  rintro _ w2 ⟨rfl, b2⟩
  unfold tkZ
  clear p0 p1 p2 p3 KT
  try dsimp only
  have HB2 := hide ((unhide HB).trans (b2.mono (unhide HB).size))
  clear b2
  go_wp2_with fail
  refine bodyPost_ret (by simp [results, Tryz.results14, go_sem]; try rfl) rfl ?_
  exact ⟨rfl, (unhide HB2).alloc (unhide HB2).size _⟩
set_option maxRecDepth 100000 in
set_option maxHeartbeats 16000000 in
theorem cFault_pair (k : Int) (G G2 G3 : Nat) (wd : Bool) (R width m : Nat) (S C : List Int) (a : Option Addr) (n c : Nat) (xs : List Int) (a1 a2 : Option Addr) (n1 c1 n2 c2 : Nat) (st cols : List Int) (w : World) (h1 : SlI w a1 n1 c1 st) (h2 : SlI w a2 n2 c2 cols) (h3 : SlI w a n c xs) (hn : n ≤ 17592186044000) (hbs : S.length ≤ 17592186044000) (hbc : C.length ≤ 17592186044000) (hm : MayP (m : Int) (m : Int) S C) (ok : Bool) (hok : TruQ ok (n = m ∧ MayC xs n)) (Lf : List Int) (hF : n = m → MayC xs n → ∀ (x : Option Addr) (d : Nat) (y : Option Addr) (z : Nat) W, SlI W x S.length d S → SlI W y C.length z C → SlI W a1 n1 c1 st → SlI W a2 n2 c2 cols → SlI W a n c xs → Calls Tryz.prog 92 #[tkV G 92 G2 G3 wd R width a1 n1 c1 a2 n2 c2 m x S.length d y C.length z, .slice a n c] W fun e w' => OwA Lf W w' e) (hT : ∀ W, SlI W a1 n1 c1 st → SlI W a2 n2 c2 cols → Calls Tryz.prog 34 #[.int .i64 k, patV (R : Int) (width : Int) a1 n1 c1 a2 n2 c2] W fun e w' => TkP W w' e G 92 G2 G3 wd R width a1 n1 c1 a2 n2 c2 m S C) :
    Calls Tryz.prog 14 #[.int .i64 k, patV (R : Int) (width : Int) a1 n1 c1 a2 n2 c2, .slice a n c] w fun e w' => FaP (if ok = true then Lf else []) (faE ok) w w' e := by
  have hm8 : m ≤ 128 := by have := hm.head.fit; omega
  obtain ⟨wb, hwb⟩ : ∃ x, w.alloc (.cells #[.int .i64 (R : Int), .int .i64 (width : Int), .slice a1 n1 c1, .slice a2 n2 c2] 25) = x := ⟨_, rfl⟩
  have bb : Below w.heap.size w wb := by rw [← hwb]; exact (Below.refl _ _).alloc (Nat.le_refl _) _
  have hT0 := BoxP.made w #[.int .i64 (R : Int), .int .i64 (width : Int), .slice a1 n1 c1, .slice a2 n2 c2] 25
  rw [hwb] at hT0
  have p0 := (hT0.all 0 _ rfl).1
  have p1 := (hT0.all 1 _ rfl).1
  have p2 := (hT0.all 2 _ rfl).1
  have p3 := (hT0.all 3 _ rfl).1
  have KT := hide (hT wb (h1.below bb) (h2.below bb))
  unfold patV at KT
  have HB := hide bb
  have HT0 := hide hT0
  have HX := hide h3
  have HM := hide hm
  have HOK := hide hok
  have HFF := hide hF
  have HS12 := hide (And.intro (h1.below bb) (h2.below bb))
  clear hT0 bb h1 h2 hT h3 hm hok hF
  unfold patV
  go_enter Tryz.func14, Tryz.ntmps14
  go_wp2_with fail
  refine (unhide KT).mono ?_
  rintro _ w2 ⟨x, d, y, z, rfl, hS2, hC2, b2⟩
  unfold tkV
  clear p0 p1 p2 p3 KT
  try dsimp only
  repeat ((fail_if_success (with_reducible (show Code.wp _ _ _ _ (World.alloc w2 (Obj.cells #[_, _, _, _, _, _, _, _, _, _, _, _, .slice y C.length z] _))))); (first | go_values | go_skip | go_guarded | go_step | go_upon | go_back))
  have hR := BoxP.made w2 #[(.func (.func G) #[] #[]), (.func (.func 92) #[] #[]), (.func (.func G2) #[] #[]), (.func (.func G3) #[] #[]), (.bool wd), .int .i64 (R : Int), .int .i64 (width : Int), .slice a1 n1 c1, .slice a2 n2 c2, .int .i64 (m : Int), .int .i64 (m : Int), .slice x S.length d, .slice y C.length z] 80
  have br : Below w2.heap.size w2 (w2.alloc (.cells #[(.func (.func G) #[] #[]), (.func (.func 92) #[] #[]), (.func (.func G2) #[] #[]), (.func (.func G3) #[] #[]), (.bool wd), .int .i64 (R : Int), .int .i64 (width : Int), .slice a1 n1 c1, .slice a2 n2 c2, .int .i64 (m : Int), .int .i64 (m : Int), .slice x S.length d, .slice y C.length z] 80)) := (Below.refl _ _).alloc (Nat.le_refl _) _
  have hb3 := ((unhide HB).trans (b2.mono (unhide HB).size)).trans (br.mono (Nat.le_trans (unhide HB).size b2.size))
  have HSC := hide (And.intro (hS2.below br) (hC2.below br))
  have HS3 := hide (And.intro (((unhide HS12).1.below b2).below br) (((unhide HS12).2.below b2).below br))
  have HT3 := hide (((unhide HT0).below b2).below br)
  clear b2 br hS2 hC2
  generalize w2.alloc (.cells #[(.func (.func G) #[] #[]), (.func (.func 92) #[] #[]), (.func (.func G2) #[] #[]), (.func (.func G3) #[] #[]), (.bool wd), .int .i64 (R : Int), .int .i64 (width : Int), .slice a1 n1 c1, .slice a2 n2 c2, .int .i64 (m : Int), .int .i64 (m : Int), .slice x S.length d, .slice y C.length z] 80) = w3 at *
  have s0 := (hR.all 0 _ rfl).1
  have s1 := (hR.all 1 _ rfl).1
  have s2 := (hR.all 2 _ rfl).1
  have s3 := (hR.all 3 _ rfl).1
  have s4 := (hR.all 4 _ rfl).1
  have s5 := (hR.all 5 _ rfl).1
  have s6 := (hR.all 6 _ rfl).1
  have s7 := (hR.all 7 _ rfl).1
  have s8 := (hR.all 8 _ rfl).1
  have s9 := (hR.all 9 _ rfl).1
  have s10 := (hR.all 10 _ rfl).1
  have s11 := (hR.all 11 _ rfl).1
  have s12 := (hR.all 12 _ rfl).1
  have HB3 := hide hb3
  have HR := hide hR
  clear hR hb3
  by_cases hnm : n = m
  · have hnm' : ((n : Int) != (m : Int)) = false := by simp; omega
    subst hnm
    have KM := hide (cmayAll_any a n c xs w3 ((unhide HX).below (unhide HB3)) (by omega) ok ⟨fun e => ((unhide HOK).1 e).2, fun k => (unhide HOK).2 ⟨rfl, k⟩⟩)
    go_wp2_with fail
    refine (unhide KM).mono ?_
    rintro _ w4 ⟨rfl, b4⟩
    have hR4 := (unhide HR).below b4
    have hb4 := (unhide HB3).trans (b4.mono (unhide HB3).size)
    have HSC4 := hide (And.intro ((unhide HSC).1.below b4) ((unhide HSC).2.below b4))
    have HS4 := hide (And.intro ((unhide HS3).1.below b4) ((unhide HS3).2.below b4))
    have HB4 := hide hb4
    clear KM b4 s0 s1 s2 s3 s4 s5 s6 s7 s8 s9 s10 s11 s12
    have s0 := (hR4.all 0 _ rfl).1
    have s1 := (hR4.all 1 _ rfl).1
    have s2 := (hR4.all 2 _ rfl).1
    have s3 := (hR4.all 3 _ rfl).1
    have s4 := (hR4.all 4 _ rfl).1
    have s5 := (hR4.all 5 _ rfl).1
    have s6 := (hR4.all 6 _ rfl).1
    have s7 := (hR4.all 7 _ rfl).1
    have s8 := (hR4.all 8 _ rfl).1
    have s9 := (hR4.all 9 _ rfl).1
    have s10 := (hR4.all 10 _ rfl).1
    have s11 := (hR4.all 11 _ rfl).1
    have s12 := (hR4.all 12 _ rfl).1
    cases ok
    · clear hR4 hb4
      go_wp2_with fail
      refine bodyPost_ret (by simp [results, Tryz.results14, go_sem]; try rfl) rfl ?_
      exact ⟨unhide HB4, none, 0, rfl, World.ownsRow_nil _ _ _ _⟩
    · have HR4 := hide hR4
      have KF := hide (fun W (k : Below w4.heap.size w4 W) => unhide HFF (by first | rfl | trivial) ((unhide HOK).1 (by first | rfl | trivial)).2 x d y z W ((unhide HSC4).1.below k) ((unhide HSC4).2.below k) ((unhide HS4).1.below k) ((unhide HS4).2.below k) (((unhide HX).below (unhide HB4)).below k))
      unfold tkV at KF
      clear hR4 hb4
      go_wp2_with fail
      refine (unhide KF w4 (Below.refl _ _)).mono ?_
      rintro _ w6 ⟨v6, rfl, hO6, b6⟩
      obtain ⟨a6, c6, rfl, hs6⟩ := own_slI hO6
      have HO6 := hide (own_mono5 hO6 (unhide HB4).size)
      have HF6 := hide ((unhide HB4).trans (b6.mono (unhide HB4).size))
      clear KF hO6 hs6 b6 s0 s1 s2 s3 s4 s5 s6 s7 s8 s9 s10 s11 s12
      go_wp2_with fail
      refine bodyPost_ret (by simp [results, Tryz.results14, go_sem]; try rfl) rfl ?_
      exact ⟨unhide HF6, _, _, rfl, unhide HO6⟩
  · have hnm' : ((n : Int) != (m : Int)) = true := by simp; omega
    have hk : ok = false := by rw [Bool.eq_false_iff]; intro e; exact hnm ((unhide HOK).1 e).1
    subst hk
    clear hnm
    go_wp2_with fail
    refine bodyPost_ret (by simp [results, Tryz.results14, go_sem]; try rfl) rfl ?_
    exact ⟨unhide HB3, none, 0, rfl, World.ownsRow_nil _ _ _ _⟩
set_option maxRecDepth 100000 in
set_option maxHeartbeats 16000000 in
theorem cFault_star (k : Int) (G G2 G3 : Nat) (wd : Bool) (R width m : Nat) (S C : List Int) (a : Option Addr) (n c : Nat) (xs : List Int) (a1 a2 : Option Addr) (n1 c1 n2 c2 : Nat) (st cols : List Int) (w : World) (h1 : SlI w a1 n1 c1 st) (h2 : SlI w a2 n2 c2 cols) (h3 : SlI w a n c xs) (hn : n ≤ 17592186044000) (hbs : S.length ≤ 17592186044000) (hbc : C.length ≤ 17592186044000) (hm : MayP (m : Int) (m : Int) S C) (ok : Bool) (hok : TruQ ok (n = m ∧ MayC xs n)) (Lf : List Int) (hF : n = m → MayC xs n → ∀ (x : Option Addr) (d : Nat) (y : Option Addr) (z : Nat) W, SlI W x S.length d S → SlI W y C.length z C → SlI W a1 n1 c1 st → SlI W a2 n2 c2 cols → SlI W a n c xs → Calls Tryz.prog 101 #[tkV G 101 G2 G3 wd R width a1 n1 c1 a2 n2 c2 m x S.length d y C.length z, .slice a n c] W fun e w' => OwA Lf W w' e) (hT : ∀ W, SlI W a1 n1 c1 st → SlI W a2 n2 c2 cols → Calls Tryz.prog 34 #[.int .i64 k, patV (R : Int) (width : Int) a1 n1 c1 a2 n2 c2] W fun e w' => TkP W w' e G 101 G2 G3 wd R width a1 n1 c1 a2 n2 c2 m S C) :
    Calls Tryz.prog 14 #[.int .i64 k, patV (R : Int) (width : Int) a1 n1 c1 a2 n2 c2, .slice a n c] w fun e w' => FaP (if ok = true then Lf else []) (faE ok) w w' e := by
  have hm8 : m ≤ 128 := by have := hm.head.fit; omega
  obtain ⟨wb, hwb⟩ : ∃ x, w.alloc (.cells #[.int .i64 (R : Int), .int .i64 (width : Int), .slice a1 n1 c1, .slice a2 n2 c2] 25) = x := ⟨_, rfl⟩
  have bb : Below w.heap.size w wb := by rw [← hwb]; exact (Below.refl _ _).alloc (Nat.le_refl _) _
  have hT0 := BoxP.made w #[.int .i64 (R : Int), .int .i64 (width : Int), .slice a1 n1 c1, .slice a2 n2 c2] 25
  rw [hwb] at hT0
  have p0 := (hT0.all 0 _ rfl).1
  have p1 := (hT0.all 1 _ rfl).1
  have p2 := (hT0.all 2 _ rfl).1
  have p3 := (hT0.all 3 _ rfl).1
  have KT := hide (hT wb (h1.below bb) (h2.below bb))
  unfold patV at KT
  have HB := hide bb
  have HT0 := hide hT0
  have HX := hide h3
  have HM := hide hm
  have HOK := hide hok
  have HFF := hide hF
  have HS12 := hide (And.intro (h1.below bb) (h2.below bb))
  clear hT0 bb h1 h2 hT h3 hm hok hF
  unfold patV
  go_enter Tryz.func14, Tryz.ntmps14
  go_wp2_with fail
  refine (unhide KT).mono ?_
  rintro _ w2 ⟨x, d, y, z, rfl, hS2, hC2, b2⟩
  unfold tkV
  clear p0 p1 p2 p3 KT
  try dsimp only
  repeat ((fail_if_success (with_reducible (show Code.wp _ _ _ _ (World.alloc w2 (Obj.cells #[_, _, _, _, _, _, _, _, _, _, _, _, .slice y C.length z] _))))); (first | go_values | go_skip | go_guarded | go_step | go_upon | go_back))
  have hR := BoxP.made w2 #[(.func (.func G) #[] #[]), (.func (.func 101) #[] #[]), (.func (.func G2) #[] #[]), (.func (.func G3) #[] #[]), (.bool wd), .int .i64 (R : Int), .int .i64 (width : Int), .slice a1 n1 c1, .slice a2 n2 c2, .int .i64 (m : Int), .int .i64 (m : Int), .slice x S.length d, .slice y C.length z] 80
  have br : Below w2.heap.size w2 (w2.alloc (.cells #[(.func (.func G) #[] #[]), (.func (.func 101) #[] #[]), (.func (.func G2) #[] #[]), (.func (.func G3) #[] #[]), (.bool wd), .int .i64 (R : Int), .int .i64 (width : Int), .slice a1 n1 c1, .slice a2 n2 c2, .int .i64 (m : Int), .int .i64 (m : Int), .slice x S.length d, .slice y C.length z] 80)) := (Below.refl _ _).alloc (Nat.le_refl _) _
  have hb3 := ((unhide HB).trans (b2.mono (unhide HB).size)).trans (br.mono (Nat.le_trans (unhide HB).size b2.size))
  have HSC := hide (And.intro (hS2.below br) (hC2.below br))
  have HS3 := hide (And.intro (((unhide HS12).1.below b2).below br) (((unhide HS12).2.below b2).below br))
  have HT3 := hide (((unhide HT0).below b2).below br)
  clear b2 br hS2 hC2
  generalize w2.alloc (.cells #[(.func (.func G) #[] #[]), (.func (.func 101) #[] #[]), (.func (.func G2) #[] #[]), (.func (.func G3) #[] #[]), (.bool wd), .int .i64 (R : Int), .int .i64 (width : Int), .slice a1 n1 c1, .slice a2 n2 c2, .int .i64 (m : Int), .int .i64 (m : Int), .slice x S.length d, .slice y C.length z] 80) = w3 at *
  have s0 := (hR.all 0 _ rfl).1
  have s1 := (hR.all 1 _ rfl).1
  have s2 := (hR.all 2 _ rfl).1
  have s3 := (hR.all 3 _ rfl).1
  have s4 := (hR.all 4 _ rfl).1
  have s5 := (hR.all 5 _ rfl).1
  have s6 := (hR.all 6 _ rfl).1
  have s7 := (hR.all 7 _ rfl).1
  have s8 := (hR.all 8 _ rfl).1
  have s9 := (hR.all 9 _ rfl).1
  have s10 := (hR.all 10 _ rfl).1
  have s11 := (hR.all 11 _ rfl).1
  have s12 := (hR.all 12 _ rfl).1
  have HB3 := hide hb3
  have HR := hide hR
  clear hR hb3
  by_cases hnm : n = m
  · have hnm' : ((n : Int) != (m : Int)) = false := by simp; omega
    subst hnm
    have KM := hide (cmayAll_any a n c xs w3 ((unhide HX).below (unhide HB3)) (by omega) ok ⟨fun e => ((unhide HOK).1 e).2, fun k => (unhide HOK).2 ⟨rfl, k⟩⟩)
    go_wp2_with fail
    refine (unhide KM).mono ?_
    rintro _ w4 ⟨rfl, b4⟩
    have hR4 := (unhide HR).below b4
    have hb4 := (unhide HB3).trans (b4.mono (unhide HB3).size)
    have HSC4 := hide (And.intro ((unhide HSC).1.below b4) ((unhide HSC).2.below b4))
    have HS4 := hide (And.intro ((unhide HS3).1.below b4) ((unhide HS3).2.below b4))
    have HB4 := hide hb4
    clear KM b4 s0 s1 s2 s3 s4 s5 s6 s7 s8 s9 s10 s11 s12
    have s0 := (hR4.all 0 _ rfl).1
    have s1 := (hR4.all 1 _ rfl).1
    have s2 := (hR4.all 2 _ rfl).1
    have s3 := (hR4.all 3 _ rfl).1
    have s4 := (hR4.all 4 _ rfl).1
    have s5 := (hR4.all 5 _ rfl).1
    have s6 := (hR4.all 6 _ rfl).1
    have s7 := (hR4.all 7 _ rfl).1
    have s8 := (hR4.all 8 _ rfl).1
    have s9 := (hR4.all 9 _ rfl).1
    have s10 := (hR4.all 10 _ rfl).1
    have s11 := (hR4.all 11 _ rfl).1
    have s12 := (hR4.all 12 _ rfl).1
    cases ok
    · clear hR4 hb4
      go_wp2_with fail
      refine bodyPost_ret (by simp [results, Tryz.results14, go_sem]; try rfl) rfl ?_
      exact ⟨unhide HB4, none, 0, rfl, World.ownsRow_nil _ _ _ _⟩
    · have HR4 := hide hR4
      have KF := hide (fun W (k : Below w4.heap.size w4 W) => unhide HFF (by first | rfl | trivial) ((unhide HOK).1 (by first | rfl | trivial)).2 x d y z W ((unhide HSC4).1.below k) ((unhide HSC4).2.below k) ((unhide HS4).1.below k) ((unhide HS4).2.below k) (((unhide HX).below (unhide HB4)).below k))
      unfold tkV at KF
      clear hR4 hb4
      go_wp2_with fail
      refine (unhide KF w4 (Below.refl _ _)).mono ?_
      rintro _ w6 ⟨v6, rfl, hO6, b6⟩
      obtain ⟨a6, c6, rfl, hs6⟩ := own_slI hO6
      have HO6 := hide (own_mono5 hO6 (unhide HB4).size)
      have HF6 := hide ((unhide HB4).trans (b6.mono (unhide HB4).size))
      clear KF hO6 hs6 b6 s0 s1 s2 s3 s4 s5 s6 s7 s8 s9 s10 s11 s12
      go_wp2_with fail
      refine bodyPost_ret (by simp [results, Tryz.results14, go_sem]; try rfl) rfl ?_
      exact ⟨unhide HF6, _, _, rfl, unhide HO6⟩
  · have hnm' : ((n : Int) != (m : Int)) = true := by simp; omega
    have hk : ok = false := by rw [Bool.eq_false_iff]; intro e; exact hnm ((unhide HOK).1 e).1
    subst hk
    clear hnm
    go_wp2_with fail
    refine bodyPost_ret (by simp [results, Tryz.results14, go_sem]; try rfl) rfl ?_
    exact ⟨unhide HB3, none, 0, rfl, World.ownsRow_nil _ _ _ _⟩
set_option maxRecDepth 100000 in
set_option maxHeartbeats 16000000 in
theorem cFault_circ (k : Int) (G G2 G3 : Nat) (wd : Bool) (R width m : Nat) (S C : List Int) (a : Option Addr) (n c : Nat) (xs : List Int) (a1 a2 : Option Addr) (n1 c1 n2 c2 : Nat) (st cols : List Int) (w : World) (h1 : SlI w a1 n1 c1 st) (h2 : SlI w a2 n2 c2 cols) (h3 : SlI w a n c xs) (hn : n ≤ 17592186044000) (hbs : S.length ≤ 17592186044000) (hbc : C.length ≤ 17592186044000) (hm : MayP (m : Int) (m : Int) S C) (ok : Bool) (hok : TruQ ok (n = m ∧ MayC xs n)) (Lf : List Int) (hF : n = m → MayC xs n → ∀ (x : Option Addr) (d : Nat) (y : Option Addr) (z : Nat) W, SlI W x S.length d S → SlI W y C.length z C → SlI W a1 n1 c1 st → SlI W a2 n2 c2 cols → SlI W a n c xs → Calls Tryz.prog 103 #[tkV G 103 G2 G3 wd R width a1 n1 c1 a2 n2 c2 m x S.length d y C.length z, .slice a n c] W fun e w' => OwA Lf W w' e) (hT : ∀ W, SlI W a1 n1 c1 st → SlI W a2 n2 c2 cols → Calls Tryz.prog 34 #[.int .i64 k, patV (R : Int) (width : Int) a1 n1 c1 a2 n2 c2] W fun e w' => TkP W w' e G 103 G2 G3 wd R width a1 n1 c1 a2 n2 c2 m S C) :
    Calls Tryz.prog 14 #[.int .i64 k, patV (R : Int) (width : Int) a1 n1 c1 a2 n2 c2, .slice a n c] w fun e w' => FaP (if ok = true then Lf else []) (faE ok) w w' e := by
  have hm8 : m ≤ 128 := by have := hm.head.fit; omega
  obtain ⟨wb, hwb⟩ : ∃ x, w.alloc (.cells #[.int .i64 (R : Int), .int .i64 (width : Int), .slice a1 n1 c1, .slice a2 n2 c2] 25) = x := ⟨_, rfl⟩
  have bb : Below w.heap.size w wb := by rw [← hwb]; exact (Below.refl _ _).alloc (Nat.le_refl _) _
  have hT0 := BoxP.made w #[.int .i64 (R : Int), .int .i64 (width : Int), .slice a1 n1 c1, .slice a2 n2 c2] 25
  rw [hwb] at hT0
  have p0 := (hT0.all 0 _ rfl).1
  have p1 := (hT0.all 1 _ rfl).1
  have p2 := (hT0.all 2 _ rfl).1
  have p3 := (hT0.all 3 _ rfl).1
  have KT := hide (hT wb (h1.below bb) (h2.below bb))
  unfold patV at KT
  have HB := hide bb
  have HT0 := hide hT0
  have HX := hide h3
  have HM := hide hm
  have HOK := hide hok
  have HFF := hide hF
  have HS12 := hide (And.intro (h1.below bb) (h2.below bb))
  clear hT0 bb h1 h2 hT h3 hm hok hF
  unfold patV
  go_enter Tryz.func14, Tryz.ntmps14
  go_wp2_with fail
  refine (unhide KT).mono ?_
  rintro _ w2 ⟨x, d, y, z, rfl, hS2, hC2, b2⟩
  unfold tkV
  clear p0 p1 p2 p3 KT
  try dsimp only
  repeat ((fail_if_success (with_reducible (show Code.wp _ _ _ _ (World.alloc w2 (Obj.cells #[_, _, _, _, _, _, _, _, _, _, _, _, .slice y C.length z] _))))); (first | go_values | go_skip | go_guarded | go_step | go_upon | go_back))
  have hR := BoxP.made w2 #[(.func (.func G) #[] #[]), (.func (.func 103) #[] #[]), (.func (.func G2) #[] #[]), (.func (.func G3) #[] #[]), (.bool wd), .int .i64 (R : Int), .int .i64 (width : Int), .slice a1 n1 c1, .slice a2 n2 c2, .int .i64 (m : Int), .int .i64 (m : Int), .slice x S.length d, .slice y C.length z] 80
  have br : Below w2.heap.size w2 (w2.alloc (.cells #[(.func (.func G) #[] #[]), (.func (.func 103) #[] #[]), (.func (.func G2) #[] #[]), (.func (.func G3) #[] #[]), (.bool wd), .int .i64 (R : Int), .int .i64 (width : Int), .slice a1 n1 c1, .slice a2 n2 c2, .int .i64 (m : Int), .int .i64 (m : Int), .slice x S.length d, .slice y C.length z] 80)) := (Below.refl _ _).alloc (Nat.le_refl _) _
  have hb3 := ((unhide HB).trans (b2.mono (unhide HB).size)).trans (br.mono (Nat.le_trans (unhide HB).size b2.size))
  have HSC := hide (And.intro (hS2.below br) (hC2.below br))
  have HS3 := hide (And.intro (((unhide HS12).1.below b2).below br) (((unhide HS12).2.below b2).below br))
  have HT3 := hide (((unhide HT0).below b2).below br)
  clear b2 br hS2 hC2
  generalize w2.alloc (.cells #[(.func (.func G) #[] #[]), (.func (.func 103) #[] #[]), (.func (.func G2) #[] #[]), (.func (.func G3) #[] #[]), (.bool wd), .int .i64 (R : Int), .int .i64 (width : Int), .slice a1 n1 c1, .slice a2 n2 c2, .int .i64 (m : Int), .int .i64 (m : Int), .slice x S.length d, .slice y C.length z] 80) = w3 at *
  have s0 := (hR.all 0 _ rfl).1
  have s1 := (hR.all 1 _ rfl).1
  have s2 := (hR.all 2 _ rfl).1
  have s3 := (hR.all 3 _ rfl).1
  have s4 := (hR.all 4 _ rfl).1
  have s5 := (hR.all 5 _ rfl).1
  have s6 := (hR.all 6 _ rfl).1
  have s7 := (hR.all 7 _ rfl).1
  have s8 := (hR.all 8 _ rfl).1
  have s9 := (hR.all 9 _ rfl).1
  have s10 := (hR.all 10 _ rfl).1
  have s11 := (hR.all 11 _ rfl).1
  have s12 := (hR.all 12 _ rfl).1
  have HB3 := hide hb3
  have HR := hide hR
  clear hR hb3
  by_cases hnm : n = m
  · have hnm' : ((n : Int) != (m : Int)) = false := by simp; omega
    subst hnm
    have KM := hide (cmayAll_any a n c xs w3 ((unhide HX).below (unhide HB3)) (by omega) ok ⟨fun e => ((unhide HOK).1 e).2, fun k => (unhide HOK).2 ⟨rfl, k⟩⟩)
    go_wp2_with fail
    refine (unhide KM).mono ?_
    rintro _ w4 ⟨rfl, b4⟩
    have hR4 := (unhide HR).below b4
    have hb4 := (unhide HB3).trans (b4.mono (unhide HB3).size)
    have HSC4 := hide (And.intro ((unhide HSC).1.below b4) ((unhide HSC).2.below b4))
    have HS4 := hide (And.intro ((unhide HS3).1.below b4) ((unhide HS3).2.below b4))
    have HB4 := hide hb4
    clear KM b4 s0 s1 s2 s3 s4 s5 s6 s7 s8 s9 s10 s11 s12
    have s0 := (hR4.all 0 _ rfl).1
    have s1 := (hR4.all 1 _ rfl).1
    have s2 := (hR4.all 2 _ rfl).1
    have s3 := (hR4.all 3 _ rfl).1
    have s4 := (hR4.all 4 _ rfl).1
    have s5 := (hR4.all 5 _ rfl).1
    have s6 := (hR4.all 6 _ rfl).1
    have s7 := (hR4.all 7 _ rfl).1
    have s8 := (hR4.all 8 _ rfl).1
    have s9 := (hR4.all 9 _ rfl).1
    have s10 := (hR4.all 10 _ rfl).1
    have s11 := (hR4.all 11 _ rfl).1
    have s12 := (hR4.all 12 _ rfl).1
    cases ok
    · clear hR4 hb4
      go_wp2_with fail
      refine bodyPost_ret (by simp [results, Tryz.results14, go_sem]; try rfl) rfl ?_
      exact ⟨unhide HB4, none, 0, rfl, World.ownsRow_nil _ _ _ _⟩
    · have HR4 := hide hR4
      have KF := hide (fun W (k : Below w4.heap.size w4 W) => unhide HFF (by first | rfl | trivial) ((unhide HOK).1 (by first | rfl | trivial)).2 x d y z W ((unhide HSC4).1.below k) ((unhide HSC4).2.below k) ((unhide HS4).1.below k) ((unhide HS4).2.below k) (((unhide HX).below (unhide HB4)).below k))
      unfold tkV at KF
      clear hR4 hb4
      go_wp2_with fail
      refine (unhide KF w4 (Below.refl _ _)).mono ?_
      rintro _ w6 ⟨v6, rfl, hO6, b6⟩
      obtain ⟨a6, c6, rfl, hs6⟩ := own_slI hO6
      have HO6 := hide (own_mono5 hO6 (unhide HB4).size)
      have HF6 := hide ((unhide HB4).trans (b6.mono (unhide HB4).size))
      clear KF hO6 hs6 b6 s0 s1 s2 s3 s4 s5 s6 s7 s8 s9 s10 s11 s12
      go_wp2_with fail
      refine bodyPost_ret (by simp [results, Tryz.results14, go_sem]; try rfl) rfl ?_
      exact ⟨unhide HF6, _, _, rfl, unhide HO6⟩
  · have hnm' : ((n : Int) != (m : Int)) = true := by simp; omega
    have hk : ok = false := by rw [Bool.eq_false_iff]; intro e; exact hnm ((unhide HOK).1 e).1
    subst hk
    clear hnm
    go_wp2_with fail
    refine bodyPost_ret (by simp [results, Tryz.results14, go_sem]; try rfl) rfl ?_
    exact ⟨unhide HB3, none, 0, rfl, World.ownsRow_nil _ _ _ _⟩
end Go.Proofs.YtgjokididdffhaaGreat
