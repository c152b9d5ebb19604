/- Ti2 -/
import Derived.Test.YtpicknbdfjjflaaGreatDoorTi1
namespace Go.Proofs.YtpicknbdfjjflaaGreatDoor
open Go.RowKit Go.Deep
set_option linter.unusedVariables false
noncomputable def xsT (os : List On) : List ByteArray := os.map (fun o => opTx (prT o.p) o o.k.toNat)
theorem xsT_len (os : List On) : (xsT os).length = os.length := by simp [xsT]
theorem xsT_at {os : List On} {j : Nat} {o : On} (h : os[j]? = some o) : (xsT os).getD j ⟨#[]⟩ = opTx (prT o.p) o o.k.toNat := by
  unfold xsT
  rw [List.getD_eq_getElem?_getD, List.getElem?_map, h]
  rfl
theorem xsT_con : ∀ {os qs : List On}, os.map conO = qs.map conO → xsT os = xsT qs
  | [], [], _ => rfl
  | o :: os, q :: qs, h => by
    simp only [List.map_cons, List.cons.injEq] at h
    have ih := xsT_con h.2
    have e := prT_con h.1
    unfold xsT at ih ⊢
    simp only [List.map_cons]
    rw [ih, e]
    obtain ⟨k, a, b, n, p⟩ := o
    obtain ⟨k', a', b', n', r⟩ := q
    have h1 := h.1
    unfold conO at h1
    simp only [Prod.mk.injEq] at h1
    obtain ⟨⟨rfl, rfl, rfl, rfl⟩, _⟩ := h1
    rfl
  | [], _ :: _, h => by simp at h
  | _ :: _, [], h => by simp at h
theorem op_rg {inp : Int} {i : Nat} {o : On} (h : opF inp i o = 0) (hi : 0 ≤ inp ∧ inp ≤ 64) (hn : i ≤ 2048) : OpRg o ∧ KKo o o.k.toNat := by
  obtain ⟨h1, h2, h3, h4, h5, h6⟩ := op_ok h
  have hk : KKo o o.k.toNat := ⟨by omega, by omega, by omega⟩
  refine ⟨⟨?_, ?_, by omega⟩, hk⟩
  · by_cases k1 : o.k = 1
    · have := h4 k1; omega
    · by_cases k2 : o.k = 2
      · unfold unuO at h3
        simp [k2] at h3
        omega
      · have := h2 o.a (by
          unfold opsL twoK oneK
          by_cases e : 3 ≤ o.k ∧ o.k ≤ 6
          · rw [if_pos (by simp; omega)]; simp
          · rw [if_neg (by simp; omega), if_pos (by simp; omega)]; simp)
        omega
  · by_cases e : 3 ≤ o.k ∧ o.k ≤ 6
    · have := h2 o.b (by
        unfold opsL twoK
        rw [if_pos (by simp; omega)]
        simp)
      omega
    · unfold unuO twoK at h3
      simp at h3
      omega
theorem opTx_size {o : On} {k : Nat} {PT : ByteArray} (hg : OpRg o) (hp : PT.size ≤ 200000) : (opTx PT o k).size ≤ 300000 := by
  have hw := shW_size k
  have ha := hg.a
  have hb := hg.b
  have hn := hg.n
  have z1 : spB.size = 1 := rfl
  have z2 : nlB.size = 1 := rfl
  have g : ∀ l : List Int, (∀ x ∈ l, -9223372036854775808 ≤ x ∧ x ≤ 9223372036854775807) → l.length ≤ 2 → (lnT (strB (shW k)) l).size ≤ 300000 := fun l hl hl2 => by
    have := wdT_size (strB (shW k)) l hl
    unfold lnT
    rw [ByteArray.size_append]
    omega
  unfold opTx
  split
  · rw [ByteArray.size_append, ByteArray.size_append, ByteArray.size_append]
    omega
  · split
    · exact g _ (fun x hx => by simp at hx; omega) (by simp)
    · split
      · exact g _ (fun x hx => by simp at hx; omega) (by simp)
      · exact g _ (fun x hx => by simp at hx; omega) (by simp)
theorem catL_bound (l : List ByteArray) : (catL l).length ≤ 2000000 * l.length := by
  induction l with
  | nil => simp [catL]
  | cons x l ih =>
    have h := catL_len [] x
    have e : catL (x :: l) = (cutS x).data.toList ++ catL l := rfl
    rw [e, List.length_append]
    have h2 : (cutS x).data.toList.length = (cutS x).size := by rw [Array.length_toList]; rfl
    have := cutS_size x
    simp only [List.length_cons]
    omega
theorem catL_snoc {pre : List ByteArray} {x : ByteArray} (h : x.size ≤ 2000000) : catL (pre ++ [x]) = catL pre ++ bl x := by
  rw [catL_app, cutS_of h]
  rfl
theorem wline_any (o : On) (K : Nat) (hk : KKo o K) (PT : ByteArray) (w : World) (hg : OpRg o) (hPT : o.k = 2 → PrOw w o.p PT) (hsz : PT.size ≤ 200000) (hP : TabPw w) :
    Calls Tryz.prog 54 #[opV o] w fun e w' => ∃ L, e = .returned (.string L) ∧ LnW o K PT L ∧ Below w.heap.size w w' := by
  obtain ⟨k, a, b, n, p⟩ := o
  obtain ⟨e, h1, h8⟩ := hk
  simp only at e hPT
  have hK : K = 1 ∨ K = 2 ∨ K = 3 ∨ K = 4 ∨ K = 5 ∨ K = 6 ∨ K = 7 ∨ K = 8 := by omega
  rcases hK with rfl | rfl | rfl | rfl | rfl | rfl | rfl | rfl
  · obtain rfl : k = 1 := by omega
    exact wline_1 a b n p PT w hg hPT hsz hP
  · obtain rfl : k = 2 := by omega
    exact wline_2 a b n p PT w hg hPT hsz hP
  · obtain rfl : k = 3 := by omega
    exact wline_3 a b n p PT w hg hPT hsz hP
  · obtain rfl : k = 4 := by omega
    exact wline_4 a b n p PT w hg hPT hsz hP
  · obtain rfl : k = 5 := by omega
    exact wline_5 a b n p PT w hg hPT hsz hP
  · obtain rfl : k = 6 := by omega
    exact wline_6 a b n p PT w hg hPT hsz hP
  · obtain rfl : k = 7 := by omega
    exact wline_7 a b n p PT w hg hPT hsz hP
  · obtain rfl : k = 8 := by omega
    exact wline_8 a b n p PT w hg hPT hsz hP
theorem bl_lnT (word : ByteArray) (x : Int) : bl (lnT word [x]) = bl word ++ ([32] ++ bl (itS x)) ++ [10] := by
  unfold lnT wdT
  simp only [List.foldl, bl_app]
  rfl
theorem ln_small (word : ByteArray) (hw : word.size ≤ 100) (x : Int) (h : -9223372036854775808 ≤ x ∧ x ≤ 9223372036854775807) : (lnT word [x]).size ≤ 2000000 := lnT_size hw (by simp) (fun y hy => by simp at hy; omega)
theorem hdr_at (i : Int) (hi : -9223372036854775808 ≤ i ∧ i ≤ 9223372036854775807) (X : List ByteArray) : bl ({ data := #[105, 110, 112, 117, 116, 115, 32] } ++ itS i ++ { data := #[10] }) = catL (tlA i X 0) := by
  have e : catL (tlA i X 0) = bl (lnT wIn [i]) := by
    have h : tlA i X 0 = [] ++ [lnT wIn [i]] := by simp [tlA]
    rw [h, catL_snoc (ln_small wIn (by decide) i hi)]
    simp [catL]
  rw [e, bl_lnT, bl_app, bl_app]
  simp [bl, wIn]
theorem out_at (S : ByteArray) (v : Int) : bl (S ++ { data := #[111, 117, 116, 32] } ++ itS v ++ { data := #[10] }) = bl S ++ bl (lnT wOut [v]) := by
  rw [bl_lnT, bl_app, bl_app, bl_app]
  simp [bl, wOut]
theorem op_at (S L T : ByteArray) (h : bl L ++ [10] = bl T) : bl (S ++ L ++ { data := #[10] }) = bl S ++ bl T := by
  rw [← h, bl_app, bl_app]
  simp [bl]
theorem ys_at {ys : List Int} {j : Nat} {v : Int} {k : Nat} (h : ∀ y ∈ ys, 0 ≤ y ∧ y < (k : Int)) (hj : j < ys.length) (hv : ys.getD j 0 = v) : 0 ≤ v ∧ v < (k : Int) := by
  rw [← hv, List.getD_eq_getElem?_getD, List.getElem?_eq_getElem hj]
  exact h _ (List.getElem_mem hj)
theorem tlA_len (i : Int) (X : List ByteArray) (k : Nat) : (tlA i X k).length ≤ k + 1 := by unfold tlA; simp; omega
theorem tlB_len (i : Int) (X : List ByteArray) (ys : List Int) (j : Nat) : (tlB i X ys j).length ≤ 1 + X.length + j := by unfold tlB; simp; omega
theorem xsT_nth {os : List On} {k : Nat} {o : On} (h : os[k]? = some o) (hz : (opTx (prT o.p) o o.k.toNat).size ≤ 2000000) (i : Int) : catL (tlA i (xsT os) (k + 1)) = catL (tlA i (xsT os) k) ++ bl (opTx (prT o.p) o o.k.toNat) := by
  rw [← tlA_next (by rw [xsT_len]; exact (List.getElem?_eq_some_iff.1 h).1), xsT_at h, catL_snoc hz]
theorem ysT_nth {ys : List Int} {j : Nat} {v : Int} (hj : j < ys.length) (hv : ys.getD j 0 = v) (hr : -9223372036854775808 ≤ v ∧ v ≤ 9223372036854775807) (i : Int) (X : List ByteArray) : catL (tlB i X ys (j + 1)) = catL (tlB i X ys j) ++ bl (lnT wOut [v]) := by
  rw [← tlB_next hj, hv, catL_snoc (ln_small wOut (by decide) v hr)]
theorem prA_bl {F : List ByteArray} {S : ByteArray} (h : bl S = catL F) : prA F = if 65536 < S.size then (⟨#[]⟩, 4) else (S, 0) := by
  unfold prA
  rw [← h, bl_len]
  split
  · rfl
  · have : (⟨(bl S).toArray⟩ : ByteArray) = S := by
      apply bl_inj
      simp [bl]
    rw [this]
set_option maxRecDepth 100000 in
set_option maxHeartbeats 16000000 in
theorem wPrint_yes (i : Int) (a : Option Addr) (n c : Nat) (os : List On) (b : Option Addr) (m d : Nat) (ys : List Int) (w : World) (hs : SlO w a n c os) (hy : SlI w b m d ys) (hT : Tab64 w) (hP : TabPw w) (he : (chF i os ys).2 = 0) :
    Calls Tryz.prog 28 #[tapV i a n c b m d] w fun e w' => e = .returned (.tuple #[.string (prA (tlL i (xsT os) ys)).1, .int .i64 (prA (tlL i (xsT os) ys)).2]) ∧ Below w.heap.size w w' := by
  have hk := TpOk.of he
  have hn := hs.len
  have hm := hy.len
  have hn2 : n ≤ 2048 := by have := hk.lo; omega
  have hm2 : m ≤ 64 := by have := hk.ly; omega
  obtain ⟨wa, hwa⟩ : ∃ x, w.alloc (.cells #[.int .i64 i, .slice a n c, .slice b m d] 25) = x := ⟨_, rfl⟩
  have bx : BoxP wa w.heap.size [.int .i64 i, .slice a n c, .slice b m d] := by rw [← hwa]; exact BoxP.made _ _ _
  have hba : Below w.heap.size w wa := by rw [← hwa]; exact (Below.refl _ _).alloc (Nat.le_refl _) _
  have g0 := (bx.all 0 _ rfl).1
  have g1 := (bx.all 1 _ rfl).1
  have g2 := (bx.all 2 _ rfl).1
  have K0 := wcheck_any i a n c os b m d ys wa (hs.below hba) (hy.below hba) (hT.below hba)
  obtain ⟨z1, hz1⟩ : ∃ z, (chF i os ys).1 = z := ⟨_, rfl⟩
  rw [he, hz1] at K0
  have HC := hide K0
  have HB := hide hba
  have HS := hide (hs.below hba)
  have HY := hide (hy.below hba)
  have HP := hide (hP.below hba)
  have HK := hide hk
  have HN := hide (And.intro hn hm)
  have KI := hide (fun (W : World) (hb : Below wa.heap.size wa W) => titoa_any i (by have := hk.li; omega) (by have := hk.li; omega) W ((hP.below hba).below hb))
  have si := itS_size i (by have := hk.li; omega) (by have := hk.li; omega)
  unfold tapV at HC ⊢
  clear bx hba K0 hs hy hT hP he hz1 hk
  go_enter Tryz.func28, Tryz.ntmps28
  go_wp2_with fail
  refine (unhide HC).mono ?_
  rintro _ w1 ⟨rfl, b1⟩
  have g0 := (b1.cell (World.block_lt_of_cell? _ _ g0)).trans g0
  have g1 := (b1.cell (World.block_lt_of_cell? _ _ g1)).trans g1
  have g2 := (b1.cell (World.block_lt_of_cell? _ _ g2)).trans g2
  have HB1 := hide b1
  clear b1 HC hwa
  go_wp2_with fail
  refine (unhide KI w1 (unhide HB1)).mono ?_
  rintro _ w2 ⟨rfl, b2⟩
  have g0 := (b2.cell (World.block_lt_of_cell? _ _ g0)).trans g0
  have g1 := (b2.cell (World.block_lt_of_cell? _ _ g1)).trans g1
  have g2 := (b2.cell (World.block_lt_of_cell? _ _ g2)).trans g2
  have HB2 := hide ((unhide HB1).trans (b2.mono (unhide HB1).size))
  clear b2 HB1
  obtain ⟨IT, hIT⟩ : ∃ x, itS i = x := ⟨_, rfl⟩
  have HIT := hide hIT
  rw [hIT] at si ⊢
  clear hIT
  go_wp2_with fail
  have hH := hdr_at i (by have := (unhide HK).li; omega) (xsT os)
  rw [unhide HIT] at hH
  obtain ⟨S0, hS0⟩ : ∃ x, ({ data := #[105, 110, 112, 117, 116, 115, 32] } : ByteArray) ++ IT ++ { data := #[10] } = x := ⟨_, rfl⟩
  rw [hS0] at hH ⊢
  have HH := hide hH
  have HP2 := hide ((unhide HP).below (unhide HB2))
  have HS2 := hide ((unhide HS).below (unhide HB2))
  have HY2 := hide ((unhide HY).below (unhide HB2))
  clear hH hS0 si HIT KI
  go_loopw [7, 6] (fun iv sv wr => ∃ (k : Nat) (S : ByteArray), k ≤ n ∧ iv = .int .i64 (k : Int) ∧ sv = .string S ∧ Hid (bl S = catL (tlA i (xsT os) k)) ∧ Hid (Below w2.heap.size w2 wr)) (fun iv _ _ => n - (intOf iv).toNat)
  case atStart => exact ⟨0, S0, Nat.zero_le _, rfl, rfl, HH, hide (Below.refl _ _)⟩
  case round =>
    obtain ⟨k, S, hk, rfl, rfl, HF, HBr⟩ := hrel
    have r0 := ((unhide HBr).cell (World.block_lt_of_cell? _ _ g0)).trans g0
    have r1 := ((unhide HBr).cell (World.block_lt_of_cell? _ _ g1)).trans g1
    have r2 := ((unhide HBr).cell (World.block_lt_of_cell? _ _ g2)).trans g2
    by_cases hlt : k < n
    · have hlt' : (k : Int) < (n : Int) := by omega
      obtain ⟨o, ho⟩ : ∃ o, os[k]? = some o := ⟨_, List.getElem?_eq_getElem (show k < os.length by have := (unhide HN).1; omega)⟩
      obtain ⟨b1, off, o', rfl, hoo, O, hok⟩ := ((unhide HS2).below (unhide HBr)).at' hlt
      obtain rfl : o = o' := by rw [ho] at hoo; exact Option.some.inj hoo
      obtain ⟨c0, c1, c2, c3, c4, c5, c6⟩ := O
      obtain ⟨hrg, hkk⟩ := op_rg ((unhide HK).op k o ho) (unhide HK).li (by omega)
      have hz := prT_size hok.ox hok.oy
      have K := wline_any o o.k.toNat hkk (prT o.p) wr hrg (fun _ => prOw_t hok) hz ((unhide HP2).below (unhide HBr))
      unfold opV at K
      have HL := hide K
      have hso := opTx_size (k := o.k.toNat) hrg hz
      have HX := hide (xsT_nth ho (by omega) i)
      have sS : S.size ≤ 6000000000 := by
        have h1 := catL_bound (tlA i (xsT os) k)
        have h2 := tlA_len i (xsT os) k
        rw [← unhide HF, bl_len] at h1
        have : (tlA i (xsT os) k).length ≤ 2049 := by omega
        have := Nat.mul_le_mul_left 2000000 this
        omega
      clear K ho hoo hok hrg hkk hz hso
      go_wp2_with fail
      refine (unhide HL).mono ?_
      rintro _ w3 ⟨L, rfl, hL, b3⟩
      have sL := hL.sz
      have HLn := hide hL
      have HB3 := hide ((unhide HBr).trans (b3.mono (unhide HBr).size))
      clear b3 HL hL
      go_wp2_with fail
      exact ⟨⟨k + 1, _, by omega, by (first | rfl | go_num), rfl, hide (by rw [unhide HX, ← unhide HF]; exact op_at S L _ (unhide HLn).txt), HB3⟩, by simp [intOf]; omega⟩
    · obtain rfl : k = n := by omega
      have hlt' : ¬ (k : Int) < (k : Int) := by omega
      have HF0 := hide (show bl S = catL (tlB i (xsT os) ys 0) from by rw [unhide HF, tlA_end (by rw [xsT_len]; exact (unhide HN).1)])
      clear HF
      go_wp2_with fail
      go_loopw [8, 6] (fun iv sv wr' => ∃ (j : Nat) (S' : ByteArray), j ≤ m ∧ iv = .int .i64 (j : Int) ∧ sv = .string S' ∧ Hid (bl S' = catL (tlB i (xsT os) ys j)) ∧ Hid (Below w2.heap.size w2 wr')) (fun iv _ _ => m - (intOf iv).toNat)
      case atStart => exact ⟨0, S, Nat.zero_le _, rfl, rfl, HF0, HBr⟩
      case round =>
        clear HBr HF0 r0 r1 r2
        obtain ⟨j, S', hj, rfl, rfl, HF, HBr⟩ := hrel
        have r0 := ((unhide HBr).cell (World.block_lt_of_cell? _ _ g0)).trans g0
        have r1 := ((unhide HBr).cell (World.block_lt_of_cell? _ _ g1)).trans g1
        have r2 := ((unhide HBr).cell (World.block_lt_of_cell? _ _ g2)).trans g2
        have sS : S'.size ≤ 6000000000 := by
          have h1 := catL_bound (tlB i (xsT os) ys j)
          have h2 := tlB_len i (xsT os) ys j
          rw [xsT_len, (unhide HN).1] at h2
          rw [← unhide HF, bl_len] at h1
          have : (tlB i (xsT os) ys j).length ≤ 2200 := by omega
          have := Nat.mul_le_mul_left 2000000 this
          omega
        by_cases hlj : j < m
        · have hlj' : (j : Int) < (m : Int) := by omega
          obtain ⟨zb, zo, rfl, hc⟩ := ((unhide HY2).below (unhide HBr)).at (by omega)
          have sk := hc j hlj
          obtain ⟨v, hv⟩ : ∃ v, ys.getD j 0 = v := ⟨_, rfl⟩
          rw [hv] at sk
          have hjl : j < ys.length := by have := (unhide HN).2; omega
          have hvr := ys_at (k := os.length) (unhide HK).out hjl hv
          have hvr2 : -9223372036854775808 ≤ v ∧ v ≤ 9223372036854775807 := by have := (unhide HN).1; omega
          have HX := hide (ysT_nth hjl hv hvr2 i (xsT os))
          have HI := hide (titoa_any v (by omega) (by omega) wr ((unhide HP2).below (unhide HBr)))
          have si := itS_size v (by omega) (by omega)
          obtain ⟨IT, hIT⟩ : ∃ x, itS v = x := ⟨_, rfl⟩
          have HO := hide (out_at S' v)
          rw [hIT] at si HI HO
          clear hc hv hIT hjl hvr hvr2
          go_wp2_with fail
          refine (unhide HI).mono ?_
          rintro _ w3 ⟨rfl, b3⟩
          have HB3 := hide ((unhide HBr).trans (b3.mono (unhide HBr).size))
          clear b3 HI
          go_wp2_with fail
          exact ⟨⟨j + 1, _, by omega, by (first | rfl | go_num), rfl, hide (by rw [unhide HX, ← unhide HF]; exact unhide HO), HB3⟩, by simp [intOf]; omega⟩
        · obtain rfl : j = m := by omega
          have hlj' : ¬ (j : Int) < (j : Int) := by omega
          have hE := prA_bl (unhide HF)
          rw [tlB_end (unhide HN).2] at hE
          by_cases hbig : 65536 < S'.size
          · rw [if_pos hbig] at hE
            have hb : 65536 < (S'.size : Int) := by omega
            have HE := hide hE
            clear hE hbig
            go_wp2_with fail
            try go_ret2
            exact ⟨by rw [unhide HE]; try rfl, (unhide HB).trans (((unhide HB2).trans ((unhide HBr).mono (unhide HB2).size)).mono (unhide HB).size)⟩
          · rw [if_neg hbig] at hE
            have hb : ¬ 65536 < (S'.size : Int) := by omega
            have HE := hide hE
            clear hE hbig
            go_wp2_with fail
            try go_ret2
            exact ⟨by rw [unhide HE]; try rfl, (unhide HB).trans (((unhide HB2).trans ((unhide HBr).mono (unhide HB2).size)).mono (unhide HB).size)⟩
end Go.Proofs.YtpicknbdfjjflaaGreatDoor
