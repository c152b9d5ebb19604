/- Tg0 -/
import Derived.Lib.ItoaLen
import Derived.Lib.AppendIntMem
import Derived.Test.YtpicknbdfjjflaaGreatDoorTs0
import Derived.Test.YtpicknbdfjjflaaGreatDoorTh0
namespace Go.Proofs.YtpicknbdfjjflaaGreatDoor
open Go.RowKit Go.Deep
set_option linter.unusedVariables false
def TabPw (w : World) : Prop := Lib.TabIs Tryz.prog w "internal/strconv.uint64pow10" .u64 Lib.pow10Tab
theorem TabPw.below {w w' : World} (h : TabPw w) (hb : Below w.heap.size w w') : TabPw w' := by
  unfold TabPw Lib.TabIs World.var? at h ⊢
  cases hg : Tryz.prog.globalNamed "internal/strconv.uint64pow10" with
  | none => rw [hg] at h; cases h
  | some g =>
    rw [hg] at h
    simp only [Option.bind_some] at h ⊢
    have hlt : g < w.heap.size := by
      rcases Nat.lt_or_ge g w.heap.size with c | c
      · exact c
      · rw [Array.getElem?_eq_none c] at h; cases h
    rw [hb.block g hlt]
    exact h
def itS (n : Int) : ByteArray := ⟨(Lib.itoa n).toArray⟩
theorem itS_size (n : Int) (h0 : -9223372036854775808 ≤ n) (h1 : n ≤ 9223372036854775807) : (itS n).size ≤ 21 := by
  have := Lib.itoa_length_le n h0 h1
  simpa [itS, ByteArray.size] using this
theorem titoa_any (n : Int) (h0 : -9223372036854775808 ≤ n) (h1 : n ≤ 9223372036854775807) (w : World) (hP : TabPw w) :
    Calls Tryz.prog 53 #[.int .i64 n] w fun e w' => e = .returned (.string (itS n)) ∧ Below w.heap.size w w' := by
  refine (Go.Proofs.Tryz.strconv_Itoa n h0 h1 w hP).mono ?_
  rintro e w' ⟨rfl, k, os, rfl⟩
  exact ⟨rfl, Go.Lib.below_grow _ w (Nat.le_refl _) k os⟩
def spB : ByteArray := { data := #[32] }
def nlB : ByteArray := { data := #[10] }
def wdT (word : ByteArray) (l : List Int) : ByteArray := l.foldl (fun acc n => acc ++ (spB ++ itS n)) word
def lnT (word : ByteArray) (l : List Int) : ByteArray := wdT word l ++ nlB
theorem wdT_app (word : ByteArray) (l : List Int) (x : Int) : wdT word (l ++ [x]) = wdT word l ++ (spB ++ itS x) := by
  unfold wdT
  rw [List.foldl_append]
  rfl
theorem wdT_size (word : ByteArray) : ∀ (l : List Int), (∀ x ∈ l, -9223372036854775808 ≤ x ∧ x ≤ 9223372036854775807) → (wdT word l).size ≤ word.size + 22 * l.length := by
  intro l
  induction l generalizing word with
  | nil => intro _; simp [wdT]
  | cons y l ih =>
    intro h
    have h1 := ih (word ++ (spB ++ itS y)) (fun x hx => h x (List.mem_cons_of_mem _ hx))
    have h2 := itS_size y (h y (by simp)).1 (h y (by simp)).2
    have h3 : spB.size = 1 := rfl
    show (wdT (word ++ (spB ++ itS y)) l).size ≤ _
    rw [ByteArray.size_append, ByteArray.size_append] at h1
    simp only [List.length_cons]
    omega
set_option maxRecDepth 100000 in
set_option maxHeartbeats 16000000 in
theorem tline_any (word : ByteArray) (hw : word.size ≤ 100) (z : Option Addr) (m c : Nat) (l : List Int) (w : World) (hm : m ≤ 2) (h : SlI w z m c l) (hr : ∀ x ∈ l, -9223372036854775808 ≤ x ∧ x ≤ 9223372036854775807) (hP : TabPw w) :
    Calls Tryz.prog 72 #[.string word, .slice z m c] w fun e w' => e = .returned (.string (lnT word l)) ∧ Below w.heap.size w w' := by
  have HS := hide h
  have HR := hide hr
  have HP := hide hP
  have HL := hide h.len
  clear h hr hP
  go_enter Tryz.func72, Tryz.ntmps72
  go_wp2_with fail
  go_loopw [9, 0] (fun iv wv wr => ∃ j : Nat, j ≤ m ∧ iv = .int .i64 (j : Int) ∧ wv = .string (wdT word (l.take j)) ∧ Hid (Below w.heap.size w wr)) (fun iv _ _ => m - (intOf iv).toNat)
  case atStart => exact ⟨0, Nat.zero_le _, rfl, rfl, hide (Below.refl _ _)⟩
  case round =>
    obtain ⟨j, hj, rfl, rfl, HB⟩ := hrel
    have hl := unhide HL
    by_cases hlt : j < m
    · have hlt' : (j : Int) < (m : Int) := by omega
      obtain ⟨zb, zo, rfl, hc⟩ := ((unhide HS).below (unhide HB)).at (by omega)
      have sk := hc j hlt
      have hsz := wdT_size word (l.take j) (fun x hx => unhide HR x (List.mem_of_mem_take hx))
      have hnx := wdT_app word (l.take j) (l.getD j 0)
      rw [← take_next (l := l) (j := j) (by omega)] at hnx
      have hx := unhide HR (l.getD j 0) (by rw [List.getD_eq_getElem?_getD, List.getElem?_eq_getElem (by omega)]; exact List.getElem_mem (by omega))
      obtain ⟨x, hxx⟩ : ∃ x, l.getD j 0 = x := ⟨_, rfl⟩
      rw [hxx] at sk hnx hx
      have HK := hide (fun (W : World) (hb : Below wr.heap.size wr W) => titoa_any x hx.1 hx.2 W ((unhide HP).below ((unhide HB).trans (hb.mono (unhide HB).size))))
      have hi := itS_size x hx.1 hx.2
      obtain ⟨IT, hIT⟩ : ∃ IT, itS x = IT := ⟨_, rfl⟩
      obtain ⟨WD, hWD⟩ : ∃ WD, wdT word (l.take j) = WD := ⟨_, rfl⟩
      simp only [hIT] at HK hi hnx
      rw [hWD] at hnx hsz ⊢
      have hs2 : WD.size ≤ 200 := by
        have : (l.take j).length ≤ 2 := by simp; omega
        omega
      have HNX := hide hnx
      clear hc hx hxx hIT hWD hnx hsz hl
      go_wp2_with fail
      refine (unhide HK _ (Below.refl _ _)).mono ?_
      rintro _ w1 ⟨rfl, b1⟩
      have HB1 := hide ((unhide HB).trans (b1.mono (unhide HB).size))
      clear b1 HK
      go_wp2_with fail
      exact ⟨⟨j + 1, by omega, by (first | rfl | go_num), by rw [unhide HNX]; rfl, HB1⟩, by simp [intOf]; omega⟩
    · obtain rfl : j = m := by omega
      have hlt' : ¬ (j : Int) < (j : Int) := by omega
      have hsz := wdT_size word l (unhide HR)
      rw [List.take_of_length_le (by omega)]
      obtain ⟨WD, hWD⟩ : ∃ WD, wdT word l = WD := ⟨_, rfl⟩
      rw [hWD] at hsz ⊢
      have HR2 := hide (show lnT word l = WD ++ nlB from by unfold lnT; rw [hWD])
      have hs2 : WD.size ≤ 200 := by omega
      clear hWD hsz hl
      go_wp2_with fail
      go_ret
      exact ⟨by rw [unhide HR2]; rfl, unhide HB⟩
def opTx (PT : ByteArray) (o : On) (k : Nat) : ByteArray :=
  if shC k then ((strB (shW k) ++ spB) ++ PT) ++ nlB else if shB k then lnT (strB (shW k)) [o.a, o.b] else if shN k then lnT (strB (shW k)) [o.a, o.n] else lnT (strB (shW k)) [o.a]
structure OpRg (o : On) : Prop where
  a : -4000000 ≤ o.a ∧ o.a ≤ 4000000
  b : -4000000 ≤ o.b ∧ o.b ≤ 4000000
  n : -4000000 ≤ o.n ∧ o.n ≤ 4000000
def PrOf (w : World) (p : Nq) (PT : ByteArray) : Prop := ∀ W, Below w.heap.size w W → ∃ er, Calls Tryz.prog 84 #[.agg #[.bool p.g, .slice p.a p.n p.c, .slice p.b p.m p.d]] W fun e w' => e = .returned (.tuple #[.string PT, .int .i64 er]) ∧ Below W.heap.size W w'
theorem PrOf.below {w w' : World} {p : Nq} {PT : ByteArray} (h : PrOf w p PT) (k : Below w.heap.size w w') : PrOf w' p PT := fun W hb => h W (k.trans (hb.mono k.size))
theorem shW_size (k : Nat) : (strB (shW k)).size ≤ 5 := by
  unfold shW
  split <;> decide
set_option maxRecDepth 100000 in
set_option maxHeartbeats 16000000 in
theorem topline_any (o : On) (k : Nat) (hk : KKo o k) (hg : OpRg o) (PT : ByteArray) (w : World) (hPT : o.k = 2 → PrOf w o.p PT) (hsz : PT.size ≤ 1000000) (hS : TabSh w) (hP : TabPw w) :
    Calls Tryz.prog 73 #[opV o] w fun e w' => e = .returned (.string (opTx PT o k)) ∧ Below w.heap.size w w' := by
  obtain ⟨wo, hwo⟩ : ∃ x, w.alloc (.cells #[.int .i64 o.k, .int .i64 o.a, .int .i64 o.b, .int .i64 o.n, .bool o.p.g, .slice o.p.a o.p.n o.p.c, .slice o.p.b o.p.m o.p.d] 55) = x := ⟨_, rfl⟩
  have br : BoxP wo w.heap.size [.int .i64 o.k, .int .i64 o.a, .int .i64 o.b, .int .i64 o.n, .bool o.p.g, .slice o.p.a o.p.n o.p.c, .slice o.p.b o.p.m o.p.d] := by rw [← hwo]; exact BoxP.made _ _ _
  have hbo : Below w.heap.size w wo := by rw [← hwo]; exact (Below.refl _ _).alloc (Nat.le_refl _) _
  have y0 := (br.all 0 _ rfl).1
  have y1 := (br.all 1 _ rfl).1
  have y2 := (br.all 2 _ rfl).1
  have y3 := (br.all 3 _ rfl).1
  have y4 := (br.all 4 _ rfl).1
  have y5 := (br.all 5 _ rfl).1
  have y6 := (br.all 6 _ rfl).1
  have HKs := hide (fun (W : World) (hb : Below wo.heap.size wo W) => (by
    have K := tshape_any k hk.2.1 hk.2.2 W ((hS.below hbo).below hb)
    rw [← hk.1] at K
    exact K : Calls Tryz.prog 60 #[.int .i64 o.k] W fun e w' => e = .returned (.agg (shV k).toArray) ∧ Below W.heap.size W w'))
  have HB := hide hbo
  have HP := hide (hP.below hbo)
  have HPT := hide (fun h => (hPT h).below hbo)
  have HKK := hide hk
  have HG := hide hg
  have HZ := hide hsz
  clear br hbo hk hPT hS hP hg hsz
  unfold opV
  go_enter Tryz.func73, Tryz.ntmps73
  go_wp2_with fail
  refine (unhide HKs _ (Below.refl _ _)).mono ?_
  rintro _ w1 ⟨rfl, b1⟩
  have HB1 := hide ((unhide HB).trans (b1.mono (unhide HB).size))
  have HP1 := hide ((unhide HP).below b1)
  have HPT1 := hide (fun h => (unhide HPT h).below b1)
  have q0 := (b1.cell (World.block_lt_of_cell? _ _ y0)).trans y0
  have q1 := (b1.cell (World.block_lt_of_cell? _ _ y1)).trans y1
  have q2 := (b1.cell (World.block_lt_of_cell? _ _ y2)).trans y2
  have q3 := (b1.cell (World.block_lt_of_cell? _ _ y3)).trans y3
  have q4 := (b1.cell (World.block_lt_of_cell? _ _ y4)).trans y4
  have q5 := (b1.cell (World.block_lt_of_cell? _ _ y5)).trans y5
  have q6 := (b1.cell (World.block_lt_of_cell? _ _ y6)).trans y6
  clear b1 y0 y1 y2 y3 y4 y5 y6 HB HP HPT HKs hwo
  have hws := shW_size k
  have HR := hide (show opTx PT o k = if shC k then ((strB (shW k) ++ spB) ++ PT) ++ nlB else if shB k then lnT (strB (shW k)) [o.a, o.b] else if shN k then lnT (strB (shW k)) [o.a, o.n] else lnT (strB (shW k)) [o.a] from rfl)
  have HCk := hide (show shC k = true → o.k = 2 from fun h => by have := (unhide HKK).1; unfold shC at h; simp at h; omega)
  unfold shV
  generalize strB (shW k) = WW at *
  generalize shA k = A at *
  generalize shB k = B at *
  generalize shN k = N at *
  generalize shC k = C at *
  have b2 : Below w1.heap.size w1 (w1.alloc (.cells #[.string WW, .bool A, .bool B, .bool N, .bool C] 125)) := (Below.refl _ _).alloc (Nat.le_refl _) _
  have HB2 := hide b2
  have HP2 := hide ((unhide HP1).below b2)
  have HPT2 := hide (fun h => (unhide HPT1 h).below b2)
  have q0 := (b2.cell (World.block_lt_of_cell? _ _ q0)).trans q0
  have q1 := (b2.cell (World.block_lt_of_cell? _ _ q1)).trans q1
  have q2 := (b2.cell (World.block_lt_of_cell? _ _ q2)).trans q2
  have q3 := (b2.cell (World.block_lt_of_cell? _ _ q3)).trans q3
  have q4 := (b2.cell (World.block_lt_of_cell? _ _ q4)).trans q4
  have q5 := (b2.cell (World.block_lt_of_cell? _ _ q5)).trans q5
  have q6 := (b2.cell (World.block_lt_of_cell? _ _ q6)).trans q6
  clear b2
  cases C
  · cases B
    · cases N
      · have b3 : Below w1.heap.size w1 ((w1.alloc (.cells #[.string WW, .bool A, .bool false, .bool false, .bool false] 125)).alloc (.cells #[.int .i64 o.a] 3)) := ((Below.refl _ _).alloc (Nat.le_refl _) _).alloc (by simp) _
        have hsl := sli_made (w1.alloc (.cells #[.string WW, .bool A, .bool false, .bool false, .bool false] 125)) [o.a] 3 (by simp)
        rw [World.size_alloc] at hsl
        have HK := hide (tline_any WW (by omega) _ _ _ [o.a] _ (by simp) hsl (fun x hx => by have hg := unhide HG; have := hg.a; have := hg.b; have := hg.n; simp at hx; omega) ((unhide HP1).below b3))
        have HB3 := hide ((unhide HB1).trans (b3.mono (unhide HB1).size))
        clear b3 hsl HPT1 HPT2 HB2 HP1 HP2 HB1
        go_wp2_with fail
        refine (unhide HK).mono ?_
        rintro _ w3 ⟨rfl, b4⟩
        have HB4 := hide ((unhide HB3).trans (b4.mono (unhide HB3).size))
        clear b4 HK HB3 q0 q1 q2 q3 q4 q5 q6
        go_wp2_with fail
        try go_ret
        exact ⟨by rw [unhide HR]; rfl, unhide HB4⟩
      · have b3 : Below w1.heap.size w1 ((w1.alloc (.cells #[.string WW, .bool A, .bool false, .bool true, .bool false] 125)).alloc (.cells #[.int .i64 o.a, .int .i64 o.n] 3)) := ((Below.refl _ _).alloc (Nat.le_refl _) _).alloc (by simp) _
        have hsl := sli_made (w1.alloc (.cells #[.string WW, .bool A, .bool false, .bool true, .bool false] 125)) [o.a, o.n] 3 (by simp)
        rw [World.size_alloc] at hsl
        have HK := hide (tline_any WW (by omega) _ _ _ [o.a, o.n] _ (by simp) hsl (fun x hx => by have hg := unhide HG; have := hg.a; have := hg.b; have := hg.n; simp at hx; omega) ((unhide HP1).below b3))
        have HB3 := hide ((unhide HB1).trans (b3.mono (unhide HB1).size))
        clear b3 hsl HPT1 HPT2 HB2 HP1 HP2 HB1
        go_wp2_with fail
        refine (unhide HK).mono ?_
        rintro _ w3 ⟨rfl, b4⟩
        have HB4 := hide ((unhide HB3).trans (b4.mono (unhide HB3).size))
        clear b4 HK HB3 q0 q1 q2 q3 q4 q5 q6
        go_wp2_with fail
        try go_ret
        exact ⟨by rw [unhide HR]; rfl, unhide HB4⟩
    · have b3 : Below w1.heap.size w1 ((w1.alloc (.cells #[.string WW, .bool A, .bool true, .bool N, .bool false] 125)).alloc (.cells #[.int .i64 o.a, .int .i64 o.b] 3)) := ((Below.refl _ _).alloc (Nat.le_refl _) _).alloc (by simp) _
      have hsl := sli_made (w1.alloc (.cells #[.string WW, .bool A, .bool true, .bool N, .bool false] 125)) [o.a, o.b] 3 (by simp)
      rw [World.size_alloc] at hsl
      have HK := hide (tline_any WW (by omega) _ _ _ [o.a, o.b] _ (by simp) hsl (fun x hx => by have hg := unhide HG; have := hg.a; have := hg.b; have := hg.n; simp at hx; omega) ((unhide HP1).below b3))
      have HB3 := hide ((unhide HB1).trans (b3.mono (unhide HB1).size))
      clear b3 hsl HPT1 HPT2 HB2 HP1 HP2 HB1
      go_wp2_with fail
      refine (unhide HK).mono ?_
      rintro _ w3 ⟨rfl, b4⟩
      have HB4 := hide ((unhide HB3).trans (b4.mono (unhide HB3).size))
      clear b4 HK HB3 q0 q1 q2 q3 q4 q5 q6
      go_wp2_with fail
      try go_ret
      exact ⟨by rw [unhide HR]; rfl, unhide HB4⟩
  · have t0 : (w1.alloc (.cells #[.string WW, .bool A, .bool B, .bool N, .bool true] 125)).cell? ⟨w1.heap.size, 0, none⟩ = some (.string WW) := by simp
    obtain ⟨er, K⟩ := unhide HPT2 (unhide HCk rfl) _ (Below.refl _ _)
    have HK := hide K
    have HB3 := hide ((unhide HB1).trans ((unhide HB2).mono (unhide HB1).size))
    have hpz := unhide HZ
    clear K HPT1 HPT2 HB1 HP1 HP2
    go_wp2_with fail
    refine (unhide HK).mono ?_
    rintro _ w3 ⟨rfl, b4⟩
    have t0 := (b4.cell (World.block_lt_of_cell? _ _ t0)).trans t0
    have HB4 := hide ((unhide HB3).trans (b4.mono (unhide HB3).size))
    clear b4 HK HB3 HB2 q0 q1 q2 q3 q4 q5 q6
    go_wp2_with fail
    try go_ret
    exact ⟨by rw [unhide HR]; rfl, unhide HB4⟩
end Go.Proofs.YtpicknbdfjjflaaGreatDoor
