/- Cv3 -/
import Derived.Test.YtgjokididdffhaaGreatCv2
import Derived.Test.YtgjokididdffhaaGreatCu7
import Derived.Test.YtgjokididdffhaaGreatCg1
namespace Go.Proofs.YtgjokididdffhaaGreat
open Go.RowKit Go.Deep
set_option linter.unusedVariables false
theorem own_hold {w : World} {base n : Nat} {v : Value} {xs : List Int} (h : w.ownsRow base 3 1 v n (valsI xs)) (hn : 0 < n) : ∃ g cap, v = .slice (some ⟨g, 0, none⟩) n cap ∧ n ≤ cap ∧ base ≤ g ∧ g < w.heap.size ∧ Sort.Holds (Value.int .i64) w g 0 xs.toArray := by
  have hl : xs.length = n := by have := h.1; simpa [valsI] using this
  rcases h.2 with ⟨h2, h3⟩ | ⟨b, cap, cur, rfl, h4, h5, h6, h7, h8, h9⟩
  · exfalso; omega
  · refine ⟨b, cap, rfl, h6, h4, (Array.getElem?_eq_some_iff.1 h5).1, fun j hj => ?_⟩
    have hj' : j < n := by simp at hj; omega
    refine ⟨?_, by simp [World.frozen?, h5]⟩
    rw [Nat.zero_add, cell_of_block h5]
    have : (cur.toList.take (n * 1))[j]? = (valsI xs)[j]? := by rw [h9]
    rw [List.getElem?_take_of_lt (by omega)] at this
    rw [← Array.getElem?_toList, this]
    simp [valsI, show j < xs.length by omega]
theorem chg_put {enc : Int → Value} (w : World) (n blk off : Nat) (d : Array Int) : Chg (fun j => j = blk) w (Sort.putRow enc (Sort.ahead w n) blk off d) :=
  ⟨rfl, rfl, rfl, by simp, fun k hk hs => by
    show (w.heap.modify blk _)[k]? = _
    rw [Array.getElem?_modify, if_neg (fun e => hs e.symm)]⟩
theorem chg_growS (w : World) (os : Array Obj) : Chg (fun _ => False) w (Sort.grow w os) :=
  ⟨rfl, rfl, rfl, by simp, fun k hk _ => Sort.heap_grow_old w os hk⟩
set_option maxRecDepth 100000 in
theorem csort_own (g n cap : Nat) (zs : List Int) (w : World) (hl : zs.length = n) (hn : n ≤ 128) (hH : Sort.Holds (Value.int .i64) w g 0 zs.toArray) (hg : g < w.heap.size) :
    Calls Tryz.prog 132 #[.slice (some ⟨g, 0, none⟩) n cap] w fun e w' => (∃ z, e = .returned z) ∧ Sort.Holds (Value.int .i64) w' g 0 (zs.mergeSort fun x y => decide (x ≤ y)).toArray ∧ Chg (fun j => j = g) w w' := by
  subst hl
  refine (ssort_int g 0 cap zs w hH hg (by omega)).mono ?_
  rintro e w' ⟨rfl, q, os, rfl⟩
  refine ⟨⟨_, rfl⟩, ?_, (chg_put w q g 0 _).trans ((chg_growS _ os).mono (fun _ _ x => x.elim))⟩
  exact Sort.holds_grow _ _ os g 0 _ (by simpa using hg) (Sort.holds_putRow _ _ g 0 zs.toArray _ (Sort.holds_ahead _ w q g 0 _ hH) (by simp [List.length_mergeSort]))
set_option maxRecDepth 100000 in
theorem ccompact_own (g n cap : Nat) (zs : List Int) (w : World) (hl : zs.length = n) (hn : n ≤ 128) (hc : n ≤ cap) (hH : Sort.Holds (Value.int .i64) w g 0 (zs.mergeSort fun x y => decide (x ≤ y)).toArray) :
    Calls Tryz.prog 148 #[.slice (some ⟨g, 0, none⟩) n cap] w fun e w' => ∃ m, e = .returned (.slice (some ⟨g, 0, none⟩) m cap) ∧ (m < n ↔ ¬ zs.Nodup) ∧ m ≤ n ∧ Chg (fun j => j = g) w w' := by
  have hl2 : (zs.mergeSort fun x y => decide (x ≤ y)).length = n := by rw [List.length_mergeSort, hl]
  have h := scompact_int g 0 cap (zs.mergeSort fun x y => decide (x ≤ y)) w hH (by omega) (by omega)
  rw [hl2] at h
  refine h.mono ?_
  rintro e w' ⟨rfl, q, rfl⟩
  refine ⟨_, rfl, ?_, ?_, chg_put w q g 0 _⟩
  · have := compact_short zs
    unfold Lib.compact
    rw [List.length_mergeSort]
    rw [hl] at this ⊢
    exact this
  · unfold Lib.compact Lib.compactUpTo
    rw [List.length_map]
    have := (filt_len (Lib.keeps (zs.mergeSort fun x y => decide (x ≤ y)).toArray) (zs.mergeSort fun x y => decide (x ≤ y)).length).1
    omega
theorem map_snoc {f : Int → Int} {L : List Int} {j x : Nat} (hj : j < L.length) (hx : L.getD j 0 = (x : Int)) : (L.take (j + 1)).map f = (L.take j).map f ++ [f (x : Int)] := by
  rw [List.take_add_one, List.map_append]
  congr 1
  rw [List.getElem?_eq_getElem hj]
  have : L[j] = (x : Int) := by rw [← hx]; simp [List.getD, hj]
  simp [this]
set_option maxRecDepth 100000 in
set_option maxHeartbeats 16000000 in
theorem canyj_any (X R k : Nat) (a : Option Addr) (n c : Nat) (L : List Int) (pf ro h : Nat → Nat) (M : Nat) (w : World) (hR : R ≤ 128) (hF : RoF w X 16 pf) (hU : UfI (elD R) pf ro h M) (hL : SlI w a n c L) (hLr : ∀ i, i < n → 0 ≤ L.getD i 0 ∧ L.getD i 0 < (R : Int)) (hk : k < R) (hn : n ≤ 128) (oL : ∀ z, a = some z → L ≠ [] → z.block ≠ X) (ok : Bool) (hok : TruQ ok (¬ (L.map (fun u => ((ro (elN u.toNat k) : Nat) : Int))).Nodup)) :
    Calls Tryz.prog 134 #[.pointer (some ⟨X, 0, none⟩), .slice a n c, .int .i64 (k : Int)] w fun e w' => e = .returned (.bool ok) ∧ (∃ pf', RoF w' X 16 pf' ∧ UfI (elD R) pf' ro h M) ∧ FrC X 16 w w' := by
  have hXw : X < w.heap.size := World.block_lt_of_cell? _ _ (hF 0 (by decide)).1
  have HA := hide (show ∃ pf', RoF w X 16 pf' ∧ UfI (elD R) pf' ro h M from ⟨pf, hF, hU⟩)
  have HL := hide hL
  have HLR := hide hLr
  have HOL := hide oL
  have HOK := hide hok
  have hln := hL.len
  obtain ⟨i64, hi, hz, hs, hb⟩ := info_parts Tryz.info_i64
  have HI := hide (And.intro hi (And.intro hz (And.intro hs hb)))
  have hone : ∀ y : Int, ∀ z ∈ [Value.int .i64 y], z.oneCell' = true := by intro y z hz; simp at hz; subst hz; rfl
  obtain ⟨f, hf⟩ : ∃ f : Int → Int, f = (fun u => ((ro (elN u.toNat k) : Nat) : Int)) := ⟨_, rfl⟩
  rw [← hf] at HOK
  have HFF := hide hf
  clear hF hU hL hLr oL hok hi hz hs hb hf
  go_enter Tryz.func134, Tryz.ntmps134
  go_wp2_with fail
  go_loopw [12, 7] (fun jv lv wr => ∃ j : Nat, j ≤ n ∧ jv = .int .i64 (j : Int) ∧ Hid (wr.ownsRow w.heap.size 3 1 lv ((L.take j).map f).length (valsI ((L.take j).map f))) ∧ Hid ((∃ pf', RoF wr X 16 pf' ∧ UfI (elD R) pf' ro h M) ∧ FrC X 16 w wr)) (fun jv _ _ => n - (intOf jv).toNat)
  case atStart => exact ⟨0, Nat.zero_le _, rfl, hide (by simpa [valsI] using World.ownsRow_nil w w.heap.size 3 1), hide ⟨unhide HA, FrC.refl _ _ _⟩⟩
  case round =>
    obtain ⟨j, hj, rfl, HO, HW⟩ := hrel
    by_cases hlt : j < n
    · have hlt' : (j : Int) < (n : Int) := by omega
      obtain ⟨bb, off, e1, hc⟩ := ((unhide HL).chg (unhide HW).2.chg (fun z hz hne => unhide HOL z hz hne)).at (by omega)
      subst e1
      have sk := hc j hlt
      have hg := unhide HLR j hlt
      obtain ⟨x, hx⟩ : ∃ x : Nat, L.getD j 0 = (x : Int) := ⟨(L.getD j 0).toNat, by omega⟩
      rw [hx] at sk hg
      have hxR : x < R := by omega
      have HSN := hide (map_snoc (f := f) (L := L) (j := j) (x := x) (by omega) hx)
      have hcl : ((L.take j).map f).length ≤ 128 := by rw [List.length_map, List.length_take]; omega
      obtain ⟨C, hC⟩ : ∃ C, (L.take j).map f = C := ⟨_, rfl⟩
      rw [hC] at HO hcl HSN
      clear hc hg hx hC
      have HE := hide (celement_any x k)
      have KR := hide (fun W (b : Below wr.heap.size wr W) => (show Calls Tryz.prog 146 #[.pointer (some ⟨X, 16, none⟩), .int .i64 (elN x k : Int)] W fun e w' => e = .returned (.int .i64 (ro (elN x k) : Int)) ∧ (∃ pf', RoF w' X 16 pf' ∧ UfI (elD R) pf' ro h M) ∧ FrC X 16 w w' ∧ FrC X 16 wr w' from by
        obtain ⟨⟨p, k1, k2⟩, k3⟩ := unhide HW
        have hXr : X < wr.heap.size := World.block_lt_of_cell? _ _ (k1 0 (by decide)).1
        exact (croot_any X 16 R (elN x k) p ro h M W hR (k1.below b) k2 (elN_D hR hxR hk)).mono (fun e w' ⟨h1, p', h2, h3, h4⟩ => ⟨h1, ⟨p', h2, h3⟩, (k3.trans (FrC.of_below b hXr)).trans h4, (FrC.of_below b hXr).trans h4⟩)))
      have hx8 : x < 128 := by omega
      have hk8 : k < 128 := by omega
      have HNX := hide (show ∀ k, u7.ownBlock = some k → ¬ (k = X) from fun k hk e => by have := (own_ge (unhide HO) k hk).1; omega)
      obtain ⟨rr, hrr⟩ : ∃ rr : Int, ((ro (elN x k) : Nat) : Int) = rr := ⟨_, rfl⟩
      have hfx : f (x : Int) = rr := by rw [unhide HFF, ← hrr]; simp
      rw [hrr] at KR
      rw [hfx] at HSN
      obtain ⟨el, hel⟩ : ∃ el : Int, ((elN x k : Nat) : Int) = el := ⟨_, rfl⟩
      rw [hel] at KR HE
      have hmx : C.length + 1 ≤ maxLen := by unfold maxLen; omega
      have hby : (C.length + 1) * 8 ≤ 140737488355328 := by omega
      clear hel hrr hfx
      go_wp2_with fail
      refine anyTill_region (fun _ => True) 10 (by kernel_rfl) ?_
      refine anyTill_take (i := 0) (v := ?_) rfl rfl (by kernel_rfl) (by kernel_rfl) (by kernel_rfl) (by kernel_rfl) (fun _ _ _ h => h) (Or.inl ⟨by rfl, ?_⟩) trivial ?_
      rotate_left 1
      · intro W hSw
        go_simp
        try with_reducible rfl
      refine anyTill_take (i := 1) (v := ?_) rfl rfl (by kernel_rfl) (by kernel_rfl) (by kernel_rfl) (by kernel_rfl) (fun _ _ _ h => h) (Or.inl ⟨by rfl, ?_⟩) trivial ?_
      rotate_left 1
      · intro W hSw
        go_simp
        try with_reducible rfl
      refine anyTill_take (i := 2) (v := ?_) rfl rfl (by kernel_rfl) (by kernel_rfl) (by kernel_rfl) (by kernel_rfl) (fun _ _ _ h => h) (Or.inl ⟨by rfl, ?_⟩) trivial ?_
      rotate_left 1
      · intro W hSw
        go_simp
        try with_reducible rfl
      refine anyTill_take (i := 3) (v := ?_) rfl rfl (by kernel_rfl) (by kernel_rfl) (by kernel_rfl) (by kernel_rfl) (fun _ _ _ h => h) (Or.inl ⟨by rfl, ?_⟩) trivial ?_
      rotate_left 1
      · intro W hSw
        go_simp
        try with_reducible rfl
      refine anyTill_take (i := 4) (v := ?_) rfl rfl (by kernel_rfl) (by kernel_rfl) (by kernel_rfl) (by kernel_rfl) (fun _ _ _ h => h) (Or.inl ⟨by rfl, ?_⟩) trivial ?_
      rotate_left 1
      · intro W hSw
        go_simp
        try with_reducible rfl
      refine anyTill_take (i := 5) (v := ?_) rfl rfl (by kernel_rfl) (by kernel_rfl) (by kernel_rfl) (by kernel_rfl) (fun _ _ _ h => h) (Or.inl ⟨by rfl, ?_⟩) trivial ?_
      rotate_left 1
      · intro W hSw
        go_simp
        try with_reducible rfl
      refine anyTill_one (i := 6) (by kernel_rfl) rfl (by rfl) (fun K hK => ?_)
      go_simp
      refine (unhide HE _ hx8 hk8).mono ?_
      rintro _ w4 ⟨rfl, hw4⟩
      have b4 : Below wr.heap.size wr w4 := by rw [hw4]; exact (Below.refl _ _).drew
      clear hw4 HE
      refine hK _ _ (fun _ => trivial) ?_
      clear hK K
      refine anyTill_one (i := 7) (by kernel_rfl) rfl (by rfl) (fun K hK => ?_)
      go_simp
      refine (unhide KR _ b4).mono ?_
      rintro _ w5 ⟨rfl, hA5, hC5, hD5⟩
      have HA5 := hide (And.intro hA5 hC5)
      have HO5 := hide (show w5.ownsRow w.heap.size 3 1 u7 C.length (valsI C) from ownsRow_chg (unhide HO) hD5.chg (unhide HNX))
      clear hA5 hC5 hD5 KR
      refine hK _ _ (fun _ => trivial) ?_
      clear hK K
      refine anyTill_one (i := 8) (by kernel_rfl) rfl (by rfl) (fun K hK => ?_)
      go_simp
      refine hK _ _ (fun _ => trivial) ?_
      clear hK K
      have hsz : w.heap.size ≤ w5.heap.size := (unhide HA5).2.chg.size
      refine anyTill_one (i := 9) (by kernel_rfl) rfl (by rfl) (fun K hK => ?_)
      refine wp_append_lies _ _ _ 23 rfl w.heap.size 3 i64 (.int .i64 0) 1 8 Tryz.underlying23 (unhide HI).1 (unhide HI).2.1 (unhide HI).2.2.1 (unhide HI).2.2.2 rfl (by decide) u7 C.length (valsI C) rfl ((unhide HO5).alloc _) ⟨w5.heap.size, 0, none⟩ 1 1 [.int .i64 rr] rfl rfl (World.news_of_block (alloc_block _ _)) (hone _) (by decide) hmx hby (by simp <;> omega) (w5.heap.size + 1) (by simp) ?_
      intro g2 cap w6 hown hgr hat hlt6
      have HN6 := hide (show w6.ownsRow w.heap.size 3 1 (.slice (some ⟨g2, 0, none⟩) (C.length + 1) cap) ((L.take (j + 1)).map f).length (valsI ((L.take (j + 1)).map f)) from by
        rw [unhide HSN]
        simpa [valsI] using hown)
      have HC6 := hide (show (∃ pf', RoF w6 X 16 pf' ∧ UfI (elD R) pf' ro h M) ∧ FrC X 16 w w6 from by
        have c6 : Chg (fun j => w.heap.size ≤ j) w5 w6 := (Chg.of_below ((Below.refl _ _).alloc (Nat.le_refl _) _)).trans (Chg.of_grown hgr (fun k hk => (own_ge (unhide HO5) k hk).1))
        obtain ⟨⟨p, k1, k2⟩, k3⟩ := unhide HA5
        exact ⟨⟨p, k1.chg c6 (by omega), k2⟩, k3.grow c6 hXw⟩)
      clear hown hgr hat hlt6
      refine hK _ _ (fun _ => trivial) ?_
      clear hK K
      refine anyTill_one (i := 10) (by kernel_rfl) rfl (by rfl) (fun K hK => ?_)
      go_simp
      refine hK _ _ (fun h => absurd rfl h) ?_
      clear hK K
      refine anyTill_done (by kernel_rfl) ?_
      go_wp2_with fail
      exact ⟨⟨j + 1, by omega, by (first | rfl | go_num), HN6, HC6⟩, by simp [intOf]; omega⟩
    · obtain rfl : j = n := by omega
      have hlt' : ¬ (j : Int) < (j : Int) := by omega
      have ho := unhide HO
      have eL : L.take j = L := by rw [← hln]; exact List.take_length
      rw [eL] at ho
      obtain ⟨rs, hrs⟩ : ∃ rs, L.map f = rs := ⟨_, rfl⟩
      have hrl : rs.length = j := by rw [← hrs, List.length_map, hln]
      rw [hrs] at ho HOK
      rw [hrl] at ho
      have HO2 := hide ho
      clear HO ho hrs eL
      have HT := hide (show ∀ W, Chg (fun q => w.heap.size ≤ q) wr W → (∃ pf', RoF W X 16 pf' ∧ UfI (elD R) pf' ro h M) ∧ FrC X 16 w W from fun W c6 => by
        obtain ⟨⟨p, k1, k2⟩, k3⟩ := unhide HW
        exact ⟨⟨p, k1.chg c6 (by omega), k2⟩, k3.grow c6 hXw⟩)
      by_cases h0 : j = 0
      · obtain ⟨a0, c0, rfl, hs0⟩ := own_slI (unhide HO2)
        have hk0 : ok = false := by
          have hr0 : rs = [] := List.eq_nil_of_length_eq_zero (by omega)
          have := unhide HOK
          rw [hr0] at this
          rw [Bool.eq_false_iff]
          intro e
          exact this.1 e List.nodup_nil
        have KS := hide (ssort_none a0 c0 wr)
        have KC := hide (fun W => scompact_int_empty a0 c0 W)
        have HT0 := hide (unhide HT wr (Chg.refl _ _))
        subst hk0
        have e0 : (j : Int) = 0 := by omega
        rw [← h0] at KS KC
        have hj0 : ¬ (j : Int) < (j : Int) := by omega
        clear hs0 HO2 h0 e0 HT HOK HL HLR HOL hln hrl
        go_wp2_with fail
        refine (unhide KS).mono ?_
        rintro _ w2 ⟨rfl, hw2⟩
        rw [← hw2] at HT0
        clear hw2 KS
        go_wp2_with fail
        refine (unhide KC w2).mono ?_
        rintro _ w3 ⟨rfl, hw3⟩
        rw [← hw3] at HT0
        clear hw3 KC
        go_wp2_with fail
        try go_ret
        exact ⟨rfl, unhide HT0⟩
      · obtain ⟨g, cap, rfl, hcap, hgb, hgw, hH⟩ := own_hold (unhide HO2) (by omega)
        have KS := hide (csort_own g j cap rs wr hrl hn hH hgw)
        clear hH HO2
        go_wp2_with fail
        refine (unhide KS).mono ?_
        rintro _ w2 ⟨⟨z0, rfl⟩, hH2, hC2⟩
        have KC := hide (ccompact_own g j cap rs w2 hrl hn hcap hH2)
        have HC2 := hide hC2
        clear KS hH2 hC2
        go_wp2_with fail
        refine (unhide KC).mono ?_
        rintro _ w3 ⟨m, rfl, hm, hmj, hC3⟩
        have HT3 := hide (unhide HT w3 (((unhide HC2).trans hC3).mono (fun q _ e => by rw [e]; exact hgb)))
        have hd : decide ((m : Int) < (j : Int)) = ok := by
          have h1 := unhide HOK
          by_cases c1 : m < j
          · have : ok = true := h1.2 (hm.1 c1)
            rw [this]; simp; omega
          · have : ok = false := by
              rw [Bool.eq_false_iff]
              intro e
              exact c1 (hm.2 (h1.1 e))
            rw [this]; simp; omega
        clear KC hm hC3 HC2 HT HOK
        go_wp2_with fail
        try go_ret
        exact ⟨by simpa using hd, unhide HT3⟩
end Go.Proofs.YtgjokididdffhaaGreat
