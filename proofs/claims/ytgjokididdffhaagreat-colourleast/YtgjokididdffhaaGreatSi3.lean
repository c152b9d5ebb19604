/- Sa4 -/
import Derived.Test.YtgjokididdffhaaGreatSp2
import Derived.Test.YtgjokididdffhaaGreatSa2
import Derived.Test.YtgjokididdffhaaGreatSi2
namespace Go.Proofs.YtgjokididdffhaaGreat
open Go.RowKit Go.Deep
set_option linter.unusedVariables false
theorem BIq.qi {P : Prop} {ok : Bool} {w w' : World} {e : Ending} (h : BIq P w w' e) (ho : ok = true ↔ P) : QI ok w w' e := by
  obtain ⟨⟨b, rfl, hb⟩, rfl⟩ := h
  refine ⟨?_, Dr.refl _⟩
  have : b = ok := by have h4 := hb.trans ho.symm; cases b <;> cases ok <;> simp_all
  rw [this]
structure SeenP (width : Int) (st cols : List Int) (k : Nat) : Prop where
  up : ∀ r, r < k → st.getD r 0 ≤ st.getD (r + 1) 0
  row : ∀ r, r < k → RowP width cols (st.getD r 0).toNat (st.getD (r + 1) 0).toNat
  rng : 0 ≤ st.getD k 0 ∧ st.getD k 0 ≤ (cols.length : Int)
set_option maxRecDepth 100000 in
set_option maxHeartbeats 16000000 in
theorem wsmay_any (rows width : Int) (a1 a2 : Option Addr) (n1 c1 n2 c2 : Nat) (st cols : List Int) (w : World) (h1 : SlI w a1 n1 c1 st) (h2 : SlI w a2 n2 c2 cols) (hb1 : n1 ≤ 17592186044416) (hb2 : n2 ≤ 17592186044416) :
    Calls Tryz.prog 44 #[patV rows width a1 n1 c1 a2 n2 c2] w fun e w' => BIs (MayP rows width st cols) w w' e := by
  obtain ⟨wb, hwb⟩ : ∃ x, w.alloc (.cells #[.int .i64 rows, .int .i64 width, .slice a1 n1 c1, .slice a2 n2 c2] 25) = x := ⟨_, rfl⟩
  have bb : Below w.heap.size w wb := by rw [← hwb]; exact (Below.refl _ _).alloc (Nat.le_refl _) _
  have hB : ∀ q u, [Value.int .i64 rows, .int .i64 width, .slice a1 n1 c1, .slice a2 n2 c2][q]? = some u → wb.cell? ⟨w.heap.size, q, none⟩ = some u := by
    intro q u hq
    rw [← hwb]
    have hq' : #[Value.int .i64 rows, .int .i64 width, .slice a1 n1 c1, .slice a2 n2 c2][q]? = some u := by simpa using hq
    simp [hq']
  have p0 := hB 0 _ rfl
  have p1 := hB 1 _ rfl
  have p2 := hB 2 _ rfl
  have p3 := hB 3 _ rfl
  have HF := hide (sized_any rows width wb)
  have HS := hide (And.intro (h1.below bb) (And.intro (h2.below bb) bb))
  clear hB bb h1 h2
  unfold patV
  obtain ⟨okF, hokF⟩ := truth (0 ≤ rows ∧ rows ≤ 128 ∧ 0 ≤ width ∧ width ≤ 128)
  have KF := hide (fun (W : World) => (sized_any rows width W).mono fun e w' h => h.qi hokF)
  clear HF
  cases okF
  · have HN := hide (show ¬ MayP rows width st cols from fun z => absurd (hokF.2 z.head.fit) (by decide))
    clear hokF
    go_enter Tryz.func44, Tryz.ntmps44
    go_wp2_with fail
    go_quiet ((go_at_call 75; exact Calls.quiet_of (unhide KF _)))
    go_wp2_with fail
    go_ret
    exact BIs.no (unhide HN) (bel_drewN (unhide HS).2.2 _)
  · have hfit := hokF.1 rfl
    clear hokF
    obtain ⟨R, rfl⟩ : ∃ R : Nat, rows = (R : Int) := ⟨rows.toNat, by omega⟩
    have hR : R ≤ 128 := by omega
    by_cases hlen : n1 = R + 1
    · subst hlen
      have tl : (((R + 1 : Nat) : Int) != (R : Int) + 1) = false := by simp
      have HFI := hide hfit
      obtain ⟨b1, o1, rfl, hc1⟩ := (unhide HS).1.at (by omega)
      have s0 := hc1 0 (by omega)
      have sR := hc1 R (by omega)
      rw [Nat.add_zero] at s0
      have HC1 := hide hc1
      obtain ⟨x0, hx0⟩ : ∃ x, st.getD 0 0 = x := ⟨_, rfl⟩
      obtain ⟨xR, hxR⟩ : ∃ x, st.getD R 0 = x := ⟨_, rfl⟩
      rw [hx0] at s0
      rw [hxR] at sR
      have HX := hide (And.intro hx0 hxR)
      clear hc1 hfit hx0 hxR
      by_cases hz : x0 = 0
      · have t0 : ((x0:Int) != 0) = false := by simp; omega
        by_cases hr : xR = (n2 : Int)
        · have t1 : ((xR:Int) != (n2:Int)) = false := by simp; omega
          have HZR := hide (And.intro hz hr)
          clear hz hr
          have HHD := hide (show HeadP (R : Int) width st cols from ⟨unhide HFI, by have := (unhide HS).1.len; omega, by rw [(unhide HX).1]; exact (unhide HZR).1, by rw [show ((R:Int)).toNat = R by omega, (unhide HX).2, (unhide HZR).2, (unhide HS).2.1.len]⟩)
          go_enter Tryz.func44, Tryz.ntmps44
          go_wp2_with fail
          go_quiet ((go_at_call 75; exact Calls.quiet_of (unhide KF _)))
          go_wp2_with fail
          go_loopw [3, 4] (fun rv _ wr => ∃ k : Nat, k ≤ R ∧ rv = .int .i64 (k : Nat) ∧ Hid (SeenP width st cols k) ∧ Hid (Dr wb wr)) (fun rv _ _ => R - (intOf rv).toNat)
          case atStart => exact ⟨0, Nat.zero_le _, rfl, ⟨fun r hr => absurd hr (Nat.not_lt_zero _), fun r hr => absurd hr (Nat.not_lt_zero _), by rw [(unhide HX).1, (unhide HZR).1]; omega⟩, ⟨_, rfl⟩⟩
          case round =>
            obtain ⟨k, hk, rfl, HK, HW⟩ := hrel
            have HP := hide (And.intro p0 (And.intro p1 (And.intro p2 p3)))
            have dwr := unhide HW
            have q0 := dwr.cell p0
            have q1 := dwr.cell p1
            have q2 := dwr.cell p2
            have q3 := dwr.cell p3
            by_cases hlt : k < R
            · have hlt' : (k:Int) < (R:Int) := by omega
              have sk := dwr.cell (unhide HC1 k (by omega))
              have sk1 := dwr.cell (unhide HC1 (k + 1) (by omega))
              have hrg := (unhide HK).rng
              have hcl := (unhide HS).2.1.len
              have hln := (unhide HS).1.len
              obtain ⟨X, hX⟩ : ∃ X : Nat, st.getD k 0 = (X : Int) := ⟨(st.getD k 0).toNat, by omega⟩
              obtain ⟨y, hy⟩ : ∃ y, st.getD (k + 1) 0 = y := ⟨_, rfl⟩
              rw [hX] at sk hrg
              rw [hy] at sk1
              have hXn : X ≤ n2 := by omega
              have HXY := hide (And.intro hX hy)
              have tk1 : (k:Int) + 1 < (R:Int) + 1 := by omega
              have HLN := hide (And.intro hln hcl)
              clear dwr hrg hX hy p0 p1 p2 p3 hcl hln
              by_cases hy1 : y < (X:Int)
              · have HN := hide (show ¬ MayP (R : Int) width st cols from fun z => by have := z.sort k (Nat.zero_le _) (by rw [(unhide HLN).1]; omega); rw [(unhide HXY).1, (unhide HXY).2] at this; omega)
                go_wp2_with fail
                go_quiet (fail)
                go_wp2_with fail
                go_ret
                exact BIs.no (unhide HN) ((unhide HS).2.2.trans ((((unhide HW).n _).below).mono (unhide HS).2.2.size))
              · by_cases hy2 : (n2:Int) < y
                · have hy1' : decide (y < (X:Int)) = false := decide_eq_false hy1
                  have hy2' : decide ((n2:Int) < y) = true := decide_eq_true hy2
                  have HN := hide (show ¬ MayP (R : Int) width st cols from fun z => by have := (z.head.rng z.sort (i := k + 1) (by rw [(unhide HLN).1]; omega)).2; rw [(unhide HXY).2, (unhide HLN).2] at this; omega)
                  go_wp2_with fail
                  go_quiet (fail)
                  go_wp2_with fail
                  go_ret
                  exact BIs.no (unhide HN) ((unhide HS).2.2.trans ((((unhide HW).n _).below).mono (unhide HS).2.2.size))
                · have hy1' : decide (y < (X:Int)) = false := decide_eq_false hy1
                  have hy2' : decide ((n2:Int) < y) = false := decide_eq_false hy2
                  have HYY := hide (And.intro hy1 hy2)
                  clear hy1 hy2
                  go_wp2_with fail
                  go_quiet (fail)
                  obtain ⟨hy1, hy2⟩ := unhide HYY
                  obtain ⟨Y, rfl⟩ : ∃ Y : Nat, y = (Y : Int) := ⟨y.toNat, by omega⟩
                  have hXY : X ≤ Y := by omega
                  have hYn : Y ≤ n2 := by omega
                  clear hy1 hy2 hy1' hy2'
                  go_wp2_with fail
                  go_loopw [4] (fun iv wi => ∃ i : Nat, X ≤ i ∧ i ≤ Y ∧ iv = .int .i64 (i : Nat) ∧ Hid (RowP width cols X i) ∧ Hid (Dr wb wi)) (fun iv _ => Y - (intOf iv).toNat)
                  case atStart => exact ⟨X, Nat.le_refl _, hXY, rfl, ⟨fun i h1 h2 => by omega, fun i h1 h2 => by omega⟩, (unhide HW).n _⟩
                  case round =>
                    rename_i wi
                    obtain ⟨i, hi1, hi2, rfl, HR, HV⟩ := hrel
                    have dwi := unhide HV
                    obtain ⟨p0, p1, p2, p3⟩ := unhide HP
                    have r0 := dwi.cell p0
                    have r1 := dwi.cell p1
                    have r2 := dwi.cell p2
                    have r3 := dwi.cell p3
                    have uk := dwi.cell (unhide HC1 k (by omega))
                    have uk1 := dwi.cell (unhide HC1 (k + 1) (by omega))
                    rw [(unhide HXY).1] at uk
                    rw [(unhide HXY).2] at uk1
                    clear p0 p1 p2 p3 q0 q1 q2 q3 sk sk1
                    by_cases hlt2 : i < Y
                    · have hlt3 : (i:Int) < (Y:Int) := by omega
                      have tin : (i:Int) < (n2:Int) := by omega
                      obtain ⟨b2, o2, rfl, hc2⟩ := (unhide HS).2.1.at (by omega)
                      have ci := dwi.cell (hc2 i (by omega))
                      obtain ⟨x, hx⟩ : ∃ x, cols.getD i 0 = x := ⟨_, rfl⟩
                      rw [hx] at ci
                      have HXI := hide hx
                      have HC2 := hide hc2
                      have HRW := hide (show MayP (R : Int) width st cols → RowP width cols X Y from fun z => by have := z.row k (by rw [(unhide HLN).1]; omega); rw [(unhide HXY).1, (unhide HXY).2] at this; exact this)
                      clear hx hc2
                      by_cases h0 : x < 0
                      · have d1 : decide (x < 0) = true := decide_eq_true h0
                        have HN := hide (show ¬ MayP (R : Int) width st cols from fun z => by have := ((unhide HRW z).rng i hi1 hlt2).1; rw [unhide HXI] at this; omega)
                        clear h0 dwi
                        go_wp2_with fail
                        go_quiet (fail)
                        go_wp2_with fail
                        go_ret
                        exact BIs.no (unhide HN) ((unhide HS).2.2.trans ((((unhide HV).n _).below).mono (unhide HS).2.2.size))
                      · have d1 : decide (x < 0) = false := decide_eq_false h0
                        by_cases h1 : width ≤ x
                        · have d2 : decide (width ≤ x) = true := decide_eq_true h1
                          have HN := hide (show ¬ MayP (R : Int) width st cols from fun z => by have := ((unhide HRW z).rng i hi1 hlt2).2; rw [unhide HXI] at this; omega)
                          clear h0 h1 dwi
                          go_wp2_with fail
                          go_quiet (fail)
                          go_wp2_with fail
                          go_ret
                          exact BIs.no (unhide HN) ((unhide HS).2.2.trans ((((unhide HV).n _).below).mono (unhide HS).2.2.size))
                        · have d2 : decide (width ≤ x) = false := decide_eq_false h1
                          by_cases he : i = X
                          · subst he
                            have HNX := hide (show RowP width cols i (i + 1) from ⟨fun r g1 g2 => by obtain rfl : r = i := (by omega); rw [unhide HXI]; omega, fun r g1 g2 => by omega⟩)
                            clear h0 h1 dwi
                            go_wp2_with fail
                            go_quiet (fail)
                            go_wp2_with fail
                            exact ⟨⟨i + 1, by omega, by omega, by (first | rfl | go_num), HNX, hide ((unhide HV).n _)⟩, by simp [intOf]; omega⟩
                          · obtain ⟨j, hj⟩ : ∃ j, i = j + 1 := ⟨i - 1, by omega⟩
                            have cj := dwi.cell (unhide HC2 j (by omega))
                            obtain ⟨z, hz⟩ : ∃ z, cols.getD j 0 = z := ⟨_, rfl⟩
                            rw [hz] at cj
                            have HZJ := hide (And.intro hz hj)
                            have hXi : X < i := by omega
                            have d3 : decide (X < i) = true := decide_eq_true hXi
                            have d3' : decide ((X:Int) < (i:Int)) = true := decide_eq_true (by omega)
                            have hw1 : IntKind.i64.wrap ((i:Int) - 1) = (j:Int) := by rw [wrapJ _ (by omega) (by omega)]; omega
                            have hij : (i:Int) - 1 = (j:Int) := by omega
                            have tj : (j:Int) < (n2:Int) := by omega
                            clear hz hj he dwi
                            by_cases h2 : x ≤ z
                            · have d4 : decide (x ≤ z) = true := decide_eq_true h2
                              have HN := hide (show ¬ MayP (R : Int) width st cols from fun y => by have := (unhide HRW y).up i hXi hlt2; rw [unhide HXI, show i - 1 = j by have := (unhide HZJ).2; omega, (unhide HZJ).1] at this; omega)
                              clear h0 h1 h2
                              go_wp2_with fail
                              go_quiet (fail)
                              go_wp2_with fail
                              go_ret
                              exact BIs.no (unhide HN) ((unhide HS).2.2.trans ((((unhide HV).n _).below).mono (unhide HS).2.2.size))
                            · have d4 : decide (x ≤ z) = false := decide_eq_false h2
                              have HNX := hide (show RowP width cols X (i + 1) from ⟨fun r g1 g2 => by
                                  by_cases e : r = i
                                  · subst e; rw [unhide HXI]; omega
                                  · exact (unhide HR).rng r g1 (by omega), fun r g1 g2 => by
                                  by_cases e : r = i
                                  · subst e; rw [unhide HXI, show r - 1 = j by have := (unhide HZJ).2; omega, (unhide HZJ).1]; omega
                                  · exact (unhide HR).up r g1 (by omega)⟩)
                              clear h0 h1 h2
                              go_wp2_with fail
                              go_quiet (fail)
                              go_wp2_with fail
                              exact ⟨⟨i + 1, by omega, by omega, by (first | rfl | go_num), HNX, hide ((unhide HV).n _)⟩, by simp [intOf]; omega⟩
                    · have hiY : i = Y := by omega
                      subst hiY
                      have hlt3 : ¬ (i:Int) < (i:Int) := by omega
                      have HSN := hide (show SeenP width st cols (k + 1) from ⟨fun r hr => by
                          by_cases e : r = k
                          · subst e; rw [(unhide HXY).1, (unhide HXY).2]; omega
                          · exact (unhide HK).up r (by omega), fun r hr => by
                          by_cases e : r = k
                          · subst e; rw [(unhide HXY).1, (unhide HXY).2]; exact unhide HR
                          · exact (unhide HK).row r (by omega), by rw [(unhide HXY).2, (unhide HLN).2]; omega⟩)
                      clear dwi
                      go_wp2_with fail
                      exact ⟨⟨k + 1, by omega, by (first | rfl | go_num), HSN, HV⟩, by simp [intOf]; omega⟩
            · have hkR : k = R := by omega
              subst hkR
              have hlt' : ¬ (k:Int) < (k:Int) := by omega
              clear dwr
              go_wp2_with fail
              go_ret
              have hK := unhide HK
              have hln := (unhide HS).1.len
              exact BIs.yes ⟨unhide HHD, fun i _ hi => hK.up i (by omega), fun r hr => hK.row r (by omega)⟩ ((unhide HS).2.2.trans (((unhide HW).below).mono (unhide HS).2.2.size))
        · have t1 : ((xR:Int) != (n2:Int)) = true := by simp; omega
          have HN := hide (show ¬ MayP (R : Int) width st cols from fun z => by have h8 := z.head.last; have h9 := (unhide HX).2; have h7 := (unhide HS).2.1.len; rw [show ((R:Int)).toNat = R by omega, h9, h7] at h8; exact hr h8)
          clear hr hz
          go_enter Tryz.func44, Tryz.ntmps44
          go_wp2_with fail
          go_quiet ((go_at_call 75; exact Calls.quiet_of (unhide KF _)))
          go_wp2_with fail
          go_ret
          exact BIs.no (unhide HN) (bel_drewN (unhide HS).2.2 _)
      · have t0 : ((x0:Int) != 0) = true := by simp; omega
        have HN := hide (show ¬ MayP (R : Int) width st cols from fun z => by have h8 := z.head.first; have h9 := (unhide HX).1; rw [h9] at h8; exact hz h8)
        clear hz
        go_enter Tryz.func44, Tryz.ntmps44
        go_wp2_with fail
        go_quiet ((go_at_call 75; exact Calls.quiet_of (unhide KF _)))
        go_wp2_with fail
        go_ret
        exact BIs.no (unhide HN) (bel_drewN (unhide HS).2.2 _)
    · have tl : ((n1:Int) != (R : Int) + 1) = true := by simp; omega
      have HN := hide (show ¬ MayP (R : Int) width st cols from fun z => by have h8 := z.head.len; have h9 := (unhide HS).1.len; exact hlen (by omega))
      clear hlen hfit
      go_enter Tryz.func44, Tryz.ntmps44
      go_wp2_with fail
      go_quiet ((go_at_call 75; exact Calls.quiet_of (unhide KF _)))
      go_wp2_with fail
      go_ret
      exact BIs.no (unhide HN) (bel_drewN (unhide HS).2.2 _)
theorem quiet_at {P : Program} {f : FuncId} {args : Array Value} {w : World} {d x : Nat} {v : Value} (h : Calls P f args (w.drewN (d + x)) fun e w' => e = .returned v ∧ ∃ k, w' = (w.drewN (d + x)).drewN k) :
    Calls P f args (w.drewN (d + x)) fun e w'' => e = .returned v ∧ ∃ n, w'' = w.drewN (d + n) :=
  h.mono fun _ _ ⟨he, m, hm⟩ => ⟨he, x + m, by rw [hm, drewN_add, Nat.add_assoc]⟩

set_option maxHeartbeats 2000000 in
theorem whole_any (w : World) (B : Nat) (h1 : w.cell? ⟨B, 12, none⟩ = some (.slice none 0 0)) (h2 : w.cell? ⟨B, 14, none⟩ = some (.slice none 0 0)) (h3 : w.cell? ⟨B, 16, none⟩ = some (.slice none 0 0)) (h4 : w.cell? ⟨B, 18, none⟩ = some (.slice none 0 0)) :
    Calls Tryz.prog 57 #[.pointer (some ⟨B, 0, none⟩)] w fun e w' => e = .returned (.bool true) ∧ w' = w := by
  go_enter Tryz.func57, Tryz.ntmps57
  go_wp2
  go_loop [3] (fun i => i = .int .i64 0) (fun i => (intOf i).toNat)
  case atStart => rfl
  case round =>
    subst hrel
    go_wp2
    go_loop [4] (fun i => i = .int .i64 0) (fun i => (intOf i).toNat)
    case atStart => rfl
    case round =>
      subst hrel
      go_wp2
      go_loop [5] (fun i => i = .int .i64 0) (fun i => (intOf i).toNat)
      case atStart => rfl
      case round =>
        subst hrel
        go_wp2
        go_loop [9] (fun i => i = .int .i64 0) (fun i => (intOf i).toNat)
        case atStart => rfl
        case round =>
          subst hrel
          go_wp2
          go_ret
          exact ⟨rfl, rfl⟩
set_option maxRecDepth 100000 in
set_option maxHeartbeats 8000000 in
theorem sameInts_eq (a1 a2 : Option Addr) (n c1 c2 : Nat) (xs : List Int) (w : World) (h1 : SlI w a1 n c1 xs) (h2 : SlI w a2 n c2 xs) (hn : n ≤ 140737488355328) :
    Calls Tryz.prog 32 #[.slice a1 n c1, .slice a2 n c2] w fun e w' => e = .returned (.bool true) ∧ ∃ m, w' = w.drewN m := by
  have tn : ((n:Int) != (n:Int)) = false := by simp
  have H1 := hide h1
  have H2 := hide h2
  clear h1 h2
  go_enter Tryz.func32, Tryz.ntmps32
  go_wp2_with fail
  go_loopw [5] (fun iv wr => ∃ q : Nat, q ≤ n ∧ iv = .int .i64 (q : Nat) ∧ Hid (Dr w wr)) (fun iv _ => n - (intOf iv).toNat)
  case atStart => exact ⟨0, Nat.zero_le _, rfl, Dr.refl _⟩
  case round =>
    obtain ⟨q, hq, rfl, HW⟩ := hrel
    by_cases hlt : q < n
    · have hlt' : (q:Int) < (n:Int) := by omega
      obtain ⟨g1, o1, rfl, k1⟩ := ((unhide H1).below (unhide HW).below).at (by omega)
      obtain ⟨g2, o2, rfl, k2⟩ := ((unhide H2).below (unhide HW).below).at (by omega)
      have z1 := k1 q hlt
      have z2 := k2 q hlt
      generalize xs.getD q 0 = x at *
      have tx : ((x:Int) != x) = false := by simp
      clear k1 k2
      go_wp2_with fail
      go_quiet (fail)
      go_wp2_with fail
      exact ⟨⟨q + 1, by omega, by (first | rfl | go_num), hide ((unhide HW).n _)⟩, by simp [intOf]; omega⟩
    · have hq2 : q = n := by omega
      subst hq2
      have hlt' : ¬ (q:Int) < (q:Int) := by omega
      go_wp2_with fail
      go_ret
      exact ⟨rfl, unhide HW⟩
set_option maxRecDepth 100000 in
set_option maxHeartbeats 8000000 in
theorem intactI_some (w : World) (B g0 c0 g1 c1 m : Nat) (es : List EntI) (hm : es.length = m) (hm2 : m ≤ maxLen) (h4 : w.cell? ⟨B, 4, none⟩ = some (.slice (some ⟨g0, 0, none⟩) m c0)) (h5 : w.cell? ⟨B, 5, none⟩ = some (.slice (some ⟨g1, 0, none⟩) m c1))
    (hr0 : ∀ k (h : k < es.length), w.cell? ⟨g0, k, none⟩ = some es[k].v) (hr1 : ∀ k (h : k < es.length), w.cell? ⟨g1, k, none⟩ = some es[k].v0)
    (hes : ∀ e ∈ es, SlI w (some ⟨EntI.b e, 0, none⟩) (e.xs.length + 3) e.c (e.xs ++ marksI) ∧ SlI w (some ⟨e.b0, 0, none⟩) (e.xs.length + 3) e.c0 (e.xs ++ marksI) ∧ e.xs.length ≤ 17592186044000)
    (h0 : w.cell? ⟨B, 0, none⟩ = some (.slice none 0 0)) (h2 : w.cell? ⟨B, 2, none⟩ = some (.slice none 0 0)) (h6 : w.cell? ⟨B, 6, none⟩ = some (.slice none 0 0)) (h8 : w.cell? ⟨B, 8, none⟩ = some (.slice none 0 0)) (h10 : w.cell? ⟨B, 10, none⟩ = some (.slice none 0 0)) (h12 : w.cell? ⟨B, 12, none⟩ = some (.slice none 0 0)) (h14 : w.cell? ⟨B, 14, none⟩ = some (.slice none 0 0)) (h16 : w.cell? ⟨B, 16, none⟩ = some (.slice none 0 0)) (h18 : w.cell? ⟨B, 18, none⟩ = some (.slice none 0 0)) :
    Calls Tryz.prog 28 #[.pointer (some ⟨B, 0, none⟩)] w fun e w' => e = .returned (.bool true) ∧ ∃ k, w' = w.drewN k := by
  unfold maxLen at hm2
  go_enter Tryz.func28, Tryz.ntmps28
  go_wp2
  go_loopw [3] (fun i wr => i = .int .i64 0 ∧ ∃ d, wr = w.drewN d) (fun i _ => (intOf i).toNat)
  case atStart => (first | exact ⟨rfl, _, rfl⟩ | exact ⟨rfl, 0, rfl⟩)
  case round =>
    obtain ⟨rfl, d, rfl⟩ := hrel
    go_wp2_with fail
    go_loopw [4] (fun i wr => i = .int .i64 0 ∧ ∃ d, wr = w.drewN d) (fun i _ => (intOf i).toNat)
    case atStart => (first | exact ⟨rfl, _, rfl⟩ | exact ⟨rfl, 0, rfl⟩)
    case round =>
      obtain ⟨rfl, d, rfl⟩ := hrel
      go_wp2_with fail
      go_loopw [5] (fun i wr => ∃ k : Nat, k ≤ m ∧ i = .int .i64 k ∧ ∃ d, wr = w.drewN d) (fun i _ => m - (intOf i).toNat)
      case atStart => exact ⟨0, Nat.zero_le _, rfl, _, rfl⟩
      case round =>
        obtain ⟨k, hk, rfl, d, rfl⟩ := hrel
        by_cases hlt : k < m
        · have hlt' : (k:Int) < (m:Int) := by omega
          have g0' := hr0 k (by omega)
          have g1' := hr1 k (by omega)
          have HE := hide (hes es[k] (List.getElem_mem (by omega)))
          generalize es[k] = E at g0' g1' HE
          unfold EntI.v at g0'
          unfold EntI.v0 at g1'
          have KK := hide (fun j => (sameInts_eq _ _ _ _ _ _ (w.drewN j) ((unhide HE).1.below (bel_drewN (Below.refl _ _) j)) ((unhide HE).2.1.below (bel_drewN (Below.refl _ _) j)) (by have := (unhide HE).2.2; omega)))
          clear hr0 hr1 hes HE
          go_wp2_with fail
          go_quiet ((go_at_call 32; exact quiet_at (unhide KK _)))
          go_wp2
          exact ⟨⟨k + 1, by omega, by go_num, _, rfl⟩, by simp [intOf]; omega⟩
        · clear hr0 hr1 hes
          go_wp2_with fail
          go_loopw [6] (fun i wr => i = .int .i64 0 ∧ ∃ d, wr = w.drewN d) (fun i _ => (intOf i).toNat)
          case atStart => (first | exact ⟨rfl, _, rfl⟩ | exact ⟨rfl, 0, rfl⟩)
          case round =>
            obtain ⟨rfl, d, rfl⟩ := hrel
            go_wp2_with fail
            go_loopw [7] (fun i wr => i = .int .i64 0 ∧ ∃ d, wr = w.drewN d) (fun i _ => (intOf i).toNat)
            case atStart => (first | exact ⟨rfl, _, rfl⟩ | exact ⟨rfl, 0, rfl⟩)
            case round =>
              obtain ⟨rfl, d, rfl⟩ := hrel
              go_wp2_with fail
              go_loopw [8] (fun i wr => i = .int .i64 0 ∧ ∃ d, wr = w.drewN d) (fun i _ => (intOf i).toNat)
              case atStart => (first | exact ⟨rfl, _, rfl⟩ | exact ⟨rfl, 0, rfl⟩)
              case round =>
                obtain ⟨rfl, d, rfl⟩ := hrel
                go_wp2_with fail
                refine (whole_any (w.drewN d) B h12 h14 h16 h18).mono ?_
                rintro e w' ⟨rfl, rfl⟩
                go_wp2
                go_ret
                exact ⟨rfl, _, rfl⟩

theorem intactI_any (w : World) (B : Nat) (v0 v1 : Value) (es : List EntI) (hg : GivI w B v0 v1 es (fun _ => .slice none 0 0)) (hne : es ≠ []) (hb : ∀ e ∈ es, e.xs.length ≤ 17592186044000) :
    Calls Tryz.prog 28 #[.pointer (some ⟨B, 0, none⟩)] w fun e w' => e = .returned (.bool true) ∧ ∃ k, w' = w.drewN k := by
  obtain ⟨cur, hcur, hc20, hc0, hc1, hcr⟩ := hg.blk
  have c0 : w.cell? ⟨B, 4, none⟩ = some v0 := (cell_of_block hcur 4).trans hc0
  have c1 : w.cell? ⟨B, 5, none⟩ = some v1 := (cell_of_block hcur 5).trans hc1
  have cr : ∀ i, i ≠ 4 ∧ i ≠ 5 → i < 20 → w.cell? ⟨B, i, none⟩ = some (.slice none 0 0) := fun i h2 h20 => (cell_of_block hcur i).trans (hcr i h2 h20)
  have hz : es.length ≠ 0 := fun e => hne (List.length_eq_zero_iff.1 e)
  obtain ⟨l0, o0⟩ := hg.own0
  obtain ⟨l1, o1⟩ := hg.own1
  rcases o0 with ⟨e0, n0⟩ | ⟨g0, p0, u0, e0, b0, k0, s0, t0, z0, x0⟩
  · exact absurd n0 hz
  · subst e0
    rcases o1 with ⟨e1, n1⟩ | ⟨g1, p1, u1, e1, b1, k1, s1, t1, z1, x1⟩
    · exact absurd n1 hz
    · subst e1
      refine intactI_some w B g0 p0 g1 p1 es.length es rfl (by omega) c0 c1 ?_ ?_ (fun e he => ⟨(hg.ents e he).sl, (hg.ents e he).sl0, hb e he⟩) (cr 0 (by omega) (by omega)) (cr 2 (by omega) (by omega)) (cr 6 (by omega) (by omega)) (cr 8 (by omega) (by omega)) (cr 10 (by omega) (by omega)) (cr 12 (by omega) (by omega)) (cr 14 (by omega) (by omega)) (cr 16 (by omega) (by omega)) (cr 18 (by omega) (by omega))
      · intro k hk
        rw [cell_of_block k0]
        have : (es.map EntI.v)[k]? = some es[k].v := by simp [hk]
        rw [← x0] at this
        simpa [List.getElem?_take, hk] using this
      · intro k hk
        rw [cell_of_block k1]
        have : (es.map EntI.v0)[k]? = some es[k].v0 := by simp [hk]
        rw [← x1] at this
        simpa [List.getElem?_take, hk] using this
end Go.Proofs.YtgjokididdffhaaGreat
