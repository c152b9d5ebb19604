/-
  ORDERS: slopelaw11.renamed: contract.
-/
import Derived.Test.YtdcdgojcboinaaaCg5
import Derived.Test.YtdcdgojcboinaaaCs8
import Derived.Test.YtdcdgojcboinaaaCi5
namespace Go.Proofs.Ytdcdgojcboinaaa
open Go.RowKit Go.Deep
set_option linter.unusedVariables false

set_option maxRecDepth 100000 in
set_option maxHeartbeats 16000000 in
/-- slopelaw11.renamed. -/
theorem orenamed_any (n : Nat) (a1 a2 : Option Addr) (n1 c1 n2 c2 : Nat) (st cols : List Int) (a : Option Addr) (m c : Nat) (xs : List Int) (f : Nat → Nat) (w : World) (h1 : SlI w a1 n1 c1 st) (h2 : SlI w a2 n2 c2 cols) (h3 : SlI w a m c xs) (hb1 : n1 ≤ 17592186044000) (hb2 : n2 ≤ 17592186044000) (hm : MayP (n : Int) (n : Int) st cols) (hmn : m = n) (hf : ∀ i, i < n → xs.getD i 0 = (f i : Int) ∧ f i < n) :
    Calls Try.prog 11 #[patV (n : Int) (n : Int) a1 n1 c1 a2 n2 c2, .slice a m c] w fun e w' => GpP w w' e n (grS (fun i k => InC st cols (f k) (f i)) n n) (grC (fun i k => InC st cols (f k) (f i)) n n) := by
  subst hmn
  obtain ⟨n, hnm⟩ : ∃ x, x = m := ⟨_, rfl⟩
  subst hnm
  obtain ⟨P, hPP⟩ : ∃ P : Nat → Nat → Prop, (fun i k => InC st cols (f k) (f i)) = P := ⟨_, rfl⟩
  rw [hPP]
  have HPP := hide (fun i k => (congrFun (congrFun hPP i) k).symm)
  clear hPP
  have hn : n ≤ 128 := by have := hm.head.fit; omega
  obtain ⟨wb, hwb⟩ : ∃ x, w.alloc (.cells #[.int .i64 (n : Int), .int .i64 (n : Int), .slice a1 n1 c1, .slice a2 n2 c2] 24) = x := ⟨_, rfl⟩
  have bb : Below w.heap.size w wb := by rw [← hwb]; exact (Below.refl _ _).alloc (Nat.le_refl _) _
  have hT := BoxP.made w #[.int .i64 (n : Int), .int .i64 (n : Int), .slice a1 n1 c1, .slice a2 n2 c2] 24
  rw [hwb] at hT
  have hO0 := BoxP.made wb #[.int .i64 0, .int .i64 0, .slice none 0 0, .slice none 0 0] 24
  obtain ⟨wo, hwo⟩ : ∃ x, wb.alloc (.cells #[.int .i64 0, .int .i64 0, .slice none 0 0, .slice none 0 0] 24) = x := ⟨_, rfl⟩
  have bo : Below wb.heap.size wb wo := by rw [← hwo]; exact (Below.refl _ _).alloc (Nat.le_refl _) _
  rw [hwo] at hO0
  have hT1 := hT.below bo
  have q0 := (hT1.all 0 _ rfl).1
  have q1 := (hT1.all 1 _ rfl).1
  obtain ⟨i64, hi, hz, hs, hb⟩ := info_parts Try.info_i64
  have HI := hide (And.intro hi (And.intro hz (And.intro hs hb)))
  have hone : ∀ y : Int, ∀ z ∈ [Value.int .i64 y], z.oneCell' = true := by intro y z hz; simp at hz; subst hz; rfl
  have bbo := bb.trans (bo.mono bb.size)
  have hlt1 : w.heap.size < wo.heap.size := hT1.lt
  have hlt2 : wb.heap.size < wo.heap.size := hO0.lt
  have HX := hide (And.intro hT1 (And.intro hO0 (And.intro (h1.below bbo) (And.intro (h2.below bbo) (h3.below bbo)))))
  have HB := hide bbo
  have HWB := hide bb.size
  have HF := hide hf
  have HM := hide hm
  have HP0 := hide (show PbI wo ((wo.alloc (.cells #[.int .i64 0] 3)).alloc (.cells #[.int .i64 (n : Int), .int .i64 (n : Int), .slice (some ⟨wo.heap.size, 0, none⟩) 1 1, .slice none 0 0] 24)) wo.heap.size (wo.heap.size + 1) (n : Int) (.slice (some ⟨wo.heap.size, 0, none⟩) 1 1) (.slice none 0 0) [0] [] from by
    have e : (wo.alloc (.cells #[.int .i64 0] 3)).heap.size = wo.heap.size + 1 := by simp
    refine ⟨?_, ⟨rfl, .inr ⟨wo.heap.size, 1, #[.int .i64 0], rfl, Nat.le_refl _, ?_, Nat.le_refl _, by decide, rfl, rfl⟩⟩, World.ownsRow_nil _ _ _ _, fun g hg hu => (by simp [Value.ownBlock] at hu), ((Below.refl _ _).alloc (Nat.le_refl _) _).alloc (by simp) _, by simp; omega, by omega⟩
    · have := alloc_block (wo.alloc (.cells #[.int .i64 0] 3)) (.cells #[.int .i64 (n : Int), .int .i64 (n : Int), .slice (some ⟨wo.heap.size, 0, none⟩) 1 1, .slice none 0 0] 24)
      rw [e] at this
      exact this
    · exact (((Below.refl (wo.alloc (.cells #[.int .i64 0] 3)).heap.size _).alloc (Nat.le_refl _) _).block _ (by simp)).trans (alloc_block _ _))
  clear hi hz hs hb bb bo bbo hT hT1 hO0 h1 h2 h3 hm hf
  unfold patV
  go_enter Try.func11, Try.ntmps11
  go_wp2_with fail
  generalize (wo.alloc (Obj.cells #[Value.int IntKind.i64 0] 3)).alloc (Obj.cells #[Value.int IntKind.i64 (n : Int), Value.int IntKind.i64 (n : Int), Value.slice (some ⟨wo.heap.size, 0, none⟩) 1 1, Value.slice none 0 0] 24) = w0 at *
  obtain ⟨X, hX⟩ : ∃ X, wo.heap.size + 1 = X := ⟨_, rfl⟩
  rw [hX] at HP0 ⊢
  have HXX := hide hX
  clear hX q0 q1
  have HBX := hide (show ∀ W, Below wo.heap.size wo W → BoxP W w.heap.size [.int .i64 (n : Int), .int .i64 (n : Int), .slice a1 n1 c1, .slice a2 n2 c2] ∧ BoxP W wb.heap.size [.int .i64 0, .int .i64 0, .slice none 0 0, .slice none 0 0] ∧ SlI W a1 n1 c1 st ∧ SlI W a2 n2 c2 cols ∧ SlI W a n c xs from fun W k => ⟨(unhide HX).1.below k, (unhide HX).2.1.below k, (unhide HX).2.2.1.below k, (unhide HX).2.2.2.1.below k, (unhide HX).2.2.2.2.below k⟩)
  go_loopw [6] (fun kv wr => ∃ k : Nat, k ≤ n ∧ kv = .int .i64 (k : Int) ∧ Hid (∃ vS vC, PbI wo wr wo.heap.size X (n : Int) vS vC (grS P n k) (grC P n k))) (fun kv _ => n - (intOf kv).toNat)
  case atStart => exact ⟨0, Nat.zero_le _, rfl, hide ⟨_, _, unhide HP0⟩⟩
  case round =>
    obtain ⟨k, hk, rfl, HK⟩ := hrel
    by_cases hlt : k < n
    · have hlt' : (k : Int) < (n : Int) := by omega
      obtain ⟨vS, vC, hPb⟩ := unhide HK
      have hbx := unhide HBX wr hPb.bel
      have q0 := (hbx.1.all 0 _ rfl).1
      have HK0 := hide (show ∃ vS vC, PbI wo wr wo.heap.size X (n : Int) vS vC (grS P n k) (grC P n k ++ grR P k 0) from ⟨vS, vC, by rw [show grR P k 0 = [] from rfl, List.append_nil]; exact hPb⟩)
      clear hPb hbx HK
      go_wp2_with fail
      go_loopw [7] (fun iv wq => ∃ v : Nat, v ≤ n ∧ iv = .int .i64 (v : Int) ∧ Hid (∃ vS vC, PbI wo wq wo.heap.size X (n : Int) vS vC (grS P n k) (grC P n k ++ grR P k v))) (fun iv _ => n - (intOf iv).toNat)
      case atStart => exact ⟨0, Nat.zero_le _, rfl, HK0⟩
      case round =>
        clear q0
        obtain ⟨v, hv, rfl, HV⟩ := hrel
        obtain ⟨vS, vC, hPb⟩ := unhide HV
        have hbx := unhide HBX wr hPb.bel
        have q0 := (hbx.1.all 0 _ rfl).1
        have q1 := (hbx.1.all 1 _ rfl).1
        have q2 := (hbx.1.all 2 _ rfl).1
        have q3 := (hbx.1.all 3 _ rfl).1
        have hCl : (grC P n k ++ grR P k v).length ≤ 16384 := by
          have h1 := grC_len P n k
          have h2 := grR_len P k v
          have h3 : (k + 1) * n ≤ n * n := Nat.mul_le_mul_right _ hlt
          have h4 : n * n ≤ 128 * 128 := Nat.mul_le_mul hn hn
          rw [Nat.add_mul, Nat.one_mul] at h3
          rw [List.length_append]
          omega
        by_cases hin : v < n
        · have hin' : (v : Int) < (n : Int) := by omega
          obtain ⟨e1, l1⟩ := unhide HF k hlt
          obtain ⟨e2, l2⟩ := unhide HF v hin
          obtain ⟨bL, oL, rfl, hcL⟩ := hbx.2.2.2.2.at (by omega)
          have s1 := hcL k hlt
          have s2 := hcL v hin
          rw [e1] at s1
          rw [e2] at s2
          obtain ⟨bq, hbq⟩ : ∃ bq, tb (P k v) = bq := ⟨_, rfl⟩
          have hQ : TruQ bq (InC st cols (f v) (f k)) := by
            have h5 := unhide HPP k v
            rw [← h5, ← hbq]
            exact tb_iff
          have KM := hide (fun x : Ext wr => wohas_any n (n : Int) a1 a2 n1 c1 n2 c2 st cols (f k) (f v) x.w (hbx.2.2.1.below x.bel) (hbx.2.2.2.1.below x.bel) hb1 hb2 (unhide HM) l1 bq hQ)
          have F0 := fun x : Ext wr => x.cell q0
          have F1 := fun x : Ext wr => x.cell q1
          have F2 := fun x : Ext wr => x.cell q2
          have F3 := fun x : Ext wr => x.cell q3
          have hNE := Ext.ne wr
          unfold patV at KM
          have HR := hide (show grR P k (v + 1) = grR P k v ++ (if bq = true then [(v : Int)] else []) from by
            simp only [grR]
            rw [hbq])
          obtain ⟨fk, hfk⟩ : ∃ y, f k = y := ⟨_, rfl⟩
          obtain ⟨fv, hfv⟩ : ∃ y, f v = y := ⟨_, rfl⟩
          rw [hfk] at KM s1
          rw [hfv] at KM s2
          have F4 := fun x : Ext wr => x.cell s1
          have F5 := fun x : Ext wr => x.cell s2
          have hPb' := hPb
          clear e1 e2 l1 l2 hcL hfk hfv
          have HPb := hide hPb
          clear hPb hPb' hbx hQ hbq
          cases bq
          · go_wp2_with fail
            refine wp_region_ext (by kernel_rfl) (by kernel_rfl) ?_
            repeat (go_big_quiet_step ((go_at_call 20; rename_i x'; exact Ext.call (unhide KM x') (fun e w' h => h))))
            refine wpQuiet_nil ?_
            rintro _ ⟨xE, rfl⟩
            have b3 := xE.bel
            clear F0 F1 F2 F3 F4 F5 hNE KM
            generalize xE.w = w3 at *
            have HP3 := hide (show ∃ vS vC, PbI wo w3 wo.heap.size X (n : Int) vS vC (grS P n k) (grC P n k ++ grR P k (v + 1)) from ⟨vS, vC, by rw [unhide HR, if_neg (by decide), List.append_nil]; exact (unhide HPb).below b3⟩)
            clear b3
            go_wp2_with fail
            exact ⟨⟨v + 1, by omega, by (first | rfl | go_num), HP3⟩, by simp [intOf]; omega⟩
          · go_wp2_with fail
            refine wp_region_ext (by kernel_rfl) (by kernel_rfl) ?_
            repeat (go_big_quiet_step ((go_at_call 20; rename_i x'; exact Ext.call (unhide KM x') (fun e w' h => h))))
            refine wpQuiet_nil ?_
            rintro _ ⟨xE, rfl⟩
            have b3 := xE.bel
            clear F0 F1 F2 F3 F4 F5 hNE KM
            generalize xE.w = w3 at *
            have HP3 := hide ((unhide HPb).below b3)
            have HR2 := hide (show grR P k (v + 1) = grR P k v ++ [(v : Int)] from by have := unhide HR; simpa using this)
            have x3 := (cell_of_block (unhide HP3).box 3).trans (show _ = some vC from rfl)
            have hle := (unhide HP3).le
            clear b3 q0 q1 q2 q3 s1 s2
            obtain ⟨C, hC⟩ : ∃ C, grC P n k ++ grR P k v = C := ⟨_, rfl⟩
            rw [hC] at HP3 hCl
            have HC := hide hC
            have hmx : C.length + 1 ≤ maxLen := by unfold maxLen; omega
            have hby : (C.length + 1) * 8 ≤ 140737488355328 := by omega
            clear hC
            go_wp2_with (at_builtin; refine wpList_append_lies _ rfl _ _ 22 rfl wo.heap.size 3 i64 (.int .i64 0) 1 8 Try.underlying22 (unhide HI).1 (unhide HI).2.1 (unhide HI).2.2.1 (unhide HI).2.2.2 rfl (by decide) vC C.length (valsI C) rfl ((unhide HP3).ownC.alloc _) ⟨w3.heap.size, 0, none⟩ 1 1 [.int .i64 (v : Int)] rfl rfl (World.news_of_block (alloc_block _ _)) (hone _) (by decide) hmx hby (by simp; omega) (w3.heap.size + 1) (by simp) ?_)
            intro g cap w4 hown hg hat hlt4
            have hXl := (Array.getElem?_eq_some_iff.1 (unhide HP3).box).1
            have hb4 : w4.heap[X]? = some (.cells #[.int .i64 (n : Int), .int .i64 (n : Int), vS, vC] 24 (0, 0)) := (hg.block X (by simp; omega) (fun e => own_neB (unhide HP3).ownC (unhide HP3).box (by decide) e.symm)).trans ((((Below.refl _ _).alloc (Nat.le_refl _) _).block X hXl).trans (unhide HP3).box)
            have y3 := (cell_of_block hb4 3).trans (show _ = some vC from rfl)
            have z3 : w4.frozen? ⟨X, 3, none⟩ = false := by simp [World.frozen?, hb4]
            have HP4 := hide (((unhide HP3).below ((Below.refl _ _).alloc (Nat.le_refl _) _)).appC hown hg (by rcases hat with e | e; exact .inl e; exact .inr (by simpa using e)))
            clear hown hg hat hlt4 hb4 x3 hXl
            go_wp2_with fail
            refine ⟨⟨v + 1, by omega, by (first | rfl | go_num), hide ⟨vS, .slice (some ⟨g, 0, none⟩) (C.length + 1) cap, ?_⟩⟩, by simp [intOf]; omega⟩
            rw [unhide HR2, ← List.append_assoc, unhide HC]
            exact unhide HP4
        · obtain rfl : v = n := by omega
          have hin' : ¬ (v : Int) < (v : Int) := by omega
          have HPb := hide hPb
          have x2 := (cell_of_block hPb.box 2).trans (show _ = some vS from rfl)
          have x3 := (cell_of_block hPb.box 3).trans (show _ = some vC from rfl)
          have hle := hPb.le
          obtain ⟨aC, cC, hvC, _⟩ := own_slI hPb.ownC
          have hSl : (grS P v k).length ≤ 16384 := by rw [grS_len]; omega
          have HE := hide (show grC P v (k + 1) = grC P v k ++ grR P k v from rfl)
          obtain ⟨C, hC⟩ : ∃ C, grC P v k ++ grR P k v = C := ⟨_, rfl⟩
          obtain ⟨S, hS⟩ : ∃ S, grS P v k = S := ⟨_, rfl⟩
          rw [hC] at HPb hvC hCl HE
          rw [hS] at HPb hSl
          have HS := hide hS
          have hmx : S.length + 1 ≤ maxLen := by unfold maxLen; omega
          have hby : (S.length + 1) * 8 ≤ 140737488355328 := by omega
          subst hvC
          clear hPb hbx hC hS
          go_wp2_with (at_builtin; refine wpList_append_lies _ rfl _ _ 22 rfl wo.heap.size 3 i64 (.int .i64 0) 1 8 Try.underlying22 (unhide HI).1 (unhide HI).2.1 (unhide HI).2.2.1 (unhide HI).2.2.2 rfl (by decide) vS S.length (valsI S) rfl ((unhide HPb).ownS.alloc _) ⟨wr.heap.size, 0, none⟩ 1 1 [.int .i64 (C.length : Int)] rfl rfl (World.news_of_block (alloc_block _ _)) (hone _) (by decide) hmx hby (by simp; omega) (wr.heap.size + 1) (by simp) ?_)
          intro g cap w4 hown hg hat hlt4
          have hXl := (Array.getElem?_eq_some_iff.1 (unhide HPb).box).1
          have hb4 : w4.heap[X]? = some (.cells #[.int .i64 (v : Int), .int .i64 (v : Int), vS, .slice aC C.length cC] 24 (0, 0)) := (hg.block X (by simp; omega) (fun e => own_neB (unhide HPb).ownS (unhide HPb).box (by decide) e.symm)).trans ((((Below.refl _ _).alloc (Nat.le_refl _) _).block X hXl).trans (unhide HPb).box)
          have y2 := (cell_of_block hb4 2).trans (show _ = some vS from rfl)
          have z2 : w4.frozen? ⟨X, 2, none⟩ = false := by simp [World.frozen?, hb4]
          have HP4 := hide (((unhide HPb).below ((Below.refl _ _).alloc (Nat.le_refl _) _)).appS hown hg (by rcases hat with e | e; exact .inl e; exact .inr (by simpa using e)))
          clear hown hg hat hlt4 hb4 x2 x3 hXl
          go_wp2_with fail
          refine ⟨⟨k + 1, by omega, by (first | rfl | go_num), hide ⟨.slice (some ⟨g, 0, none⟩) (S.length + 1) cap, .slice aC C.length cC, ?_⟩⟩, by simp [intOf]; omega⟩
          rw [show grS P v (k + 1) = grS P v k ++ [((grC P v (k + 1)).length : Int)] from rfl, unhide HE, unhide HS]
          exact unhide HP4
    · obtain rfl : k = n := by omega
      have hlt' : ¬ (k : Int) < (k : Int) := by omega
      obtain ⟨vS, vC, hPb⟩ := unhide HK
      have hbx := unhide HBX wr hPb.bel
      have q0 := (hbx.1.all 0 _ rfl).1
      obtain ⟨aS, cS, hvS, sS⟩ := own_slI hPb.ownS
      obtain ⟨aC, cC, hvC, sC⟩ := own_slI hPb.ownC
      subst hvS hvC
      have x0 := (cell_of_block hPb.box 0).trans (show _ = some (Value.int .i64 (k : Int)) from rfl)
      have x1 := (cell_of_block hPb.box 1).trans (show _ = some (Value.int .i64 (k : Int)) from rfl)
      have x2 := (cell_of_block hPb.box 2).trans (show _ = some (Value.slice aS (grS P k k).length cS) from rfl)
      have x3 := (cell_of_block hPb.box 3).trans (show _ = some (Value.slice aC (grC P k k).length cC) from rfl)
      have y0 := (hbx.2.1.all 0 _ rfl).1
      have y1 := (hbx.2.1.all 1 _ rfl).1
      have y2 := (hbx.2.1.all 2 _ rfl).1
      have y3 := (hbx.2.1.all 3 _ rfl).1
      have f0 := (hbx.2.1.all 0 _ rfl).2
      have f1 := (hbx.2.1.all 1 _ rfl).2
      have f2 := (hbx.2.1.all 2 _ rfl).2
      have f3 := (hbx.2.1.all 3 _ rfl).2
      have HO := hide hbx.2.1
      have HPb := hide hPb
      have HSS := hide (And.intro sS sC)
      clear hPb hbx HK sS sC
      go_wp2_with fail
      have hf := ((((unhide HO).put 0 (.int .i64 (k : Int))).put 1 (.int .i64 (k : Int))).put 2 (.slice aS (grS P k k).length cS)).put 3 (.slice aC (grC P k k).length cC)
      have t0 := (hf.all 0 _ rfl).1
      have t1 := (hf.all 1 _ rfl).1
      have t2 := (hf.all 2 _ rfl).1
      have t3 := (hf.all 3 _ rfl).1
      have c4 : Chg (fun j => j = wb.heap.size) wr ((((wr.setCell ⟨wb.heap.size, 0, none⟩ (.int .i64 (k : Int))).setCell ⟨wb.heap.size, 1, none⟩ (.int .i64 (k : Int))).setCell ⟨wb.heap.size, 2, none⟩ (.slice aS (grS P k k).length cS)).setCell ⟨wb.heap.size, 3, none⟩ (.slice aC (grC P k k).length cC)) := (((Chg.of_set (S := fun j => j = wb.heap.size) _ _ _ _ rfl).trans (Chg.of_set (S := fun j => j = wb.heap.size) _ _ _ _ rfl)).trans (Chg.of_set (S := fun j => j = wb.heap.size) _ _ _ _ rfl)).trans (Chg.of_set (S := fun j => j = wb.heap.size) _ _ _ _ rfl)
      generalize (((wr.setCell ⟨wb.heap.size, 0, none⟩ (.int .i64 (k : Int))).setCell ⟨wb.heap.size, 1, none⟩ (.int .i64 (k : Int))).setCell ⟨wb.heap.size, 2, none⟩ (.slice aS (grS P k k).length cS)).setCell ⟨wb.heap.size, 3, none⟩ (.slice aC (grC P k k).length cC) = wf at *
      refine bodyPost_ret (by simp [results, Try.results11, go_sem, t0, t1, t2, t3]; try rfl) rfl ?_
      have hS9 := (unhide HPb).ownS
      have hC9 := (unhide HPb).ownC
      refine ⟨aS, cS, aC, cC, rfl, (unhide HSS).1.chg c4 (fun z hz _ e => ?_), (unhide HSS).2.chg c4 (fun z hz _ e => ?_), ?_, fun z hz => ?_, fun z hz => ?_⟩
      · have := (own_ge hS9 z.block (by rw [hz]; rfl)).1; omega
      · have := (own_ge hC9 z.block (by rw [hz]; rfl)).1; omega
      · exact ((unhide HB).trans ((unhide HPb).bel.mono (unhide HB).size)).trans (c4.below (Nat.le_trans (unhide HB).size (unhide HPb).bel.size) (fun j hj e => by have := unhide HWB; omega))
      · have := (own_ge hS9 z.block (by rw [hz]; rfl)).1; have := unhide HWB; omega
      · have := (own_ge hC9 z.block (by rw [hz]; rfl)).1; have := unhide HWB; omega
end Go.Proofs.Ytdcdgojcboinaaa
