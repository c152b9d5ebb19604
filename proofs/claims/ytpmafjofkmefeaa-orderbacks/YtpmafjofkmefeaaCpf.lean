/-
  ORDERS: slopelaw11.backs: contract.
-/
import Derived.Test.YtpmafjofkmefeaaCo2
import Derived.Test.YtpmafjofkmefeaaCpd
namespace Go.Proofs.Ytpmafjofkmefeaa
open Go.RowKit Go.Deep
set_option linter.unusedVariables false

/-- Both sides' answers of Back. -/
structure BkT (rows width : Int) (n1 n2 n : Nat) (st cols xs : List Int) (v e : Int) (L : List Int) : Prop where
  one : ∀ (a1 a2 a : Option Addr) (c1 c2 c : Nat) (W : World), SlI W a1 n1 c1 st → SlI W a2 n2 c2 cols → SlI W a n c xs → Calls Try.prog 24 #[patV rows width a1 n1 c1 a2 n2 c2, .slice a n c] W fun r W' => ∃ b m d, r = .returned (.tuple #[.int .i64 v, .slice b m d, .int .i64 e]) ∧ SlI W' b m d L ∧ Below W.heap.size W W'
  two : ∀ (a1 a2 a : Option Addr) (c1 c2 c : Nat) (W : World), SlI W a1 n1 c1 st → SlI W a2 n2 c2 cols → SlI W a n c xs → Calls Try.prog 25 #[patV rows width a1 n1 c1 a2 n2 c2, .slice a n c] W fun r W' => ∃ b m d, r = .returned (.tuple #[.int .i64 v, .slice b m d, .int .i64 e]) ∧ SlI W' b m d L ∧ Below W.heap.size W W'
  len : L.length ≤ 128
theorem back_two (rows width : Int) (n1 n2 n : Nat) (st cols xs : List Int) (hl : xs.length = n) (hb1 : n1 ≤ 17592186044000) (hb2 : n2 ≤ 17592186044000) (hb3 : n ≤ 17592186044000) : ∃ v e L, BkT rows width n1 n2 n st cols xs v e L := by
  by_cases hg : IsGr rows width st cols
  · obtain ⟨R, rfl, rfl, hm, hg⟩ := hg
    have hR : R ≤ 128 := by have := hm.head.fit; omega
    by_cases ho : IsOrd xs R
    · refine ⟨(moG (fun i => amF xs st cols i (thg xs i)) R : Int), 0, (List.range R).map (fun u => (bkO xs st cols R u : Int)), ⟨fun a1 a2 a c1 c2 c W h1 h2 h3 => ?_, fun a1 a2 a c1 c2 c W h1 h2 h3 => ?_, by simp; exact hR⟩⟩
      · refine (oBack_gr R a1 a2 n1 c1 n2 c2 st cols a n c xs W h1 h2 h3 hb1 hb2 hb3 hm hg true ⟨fun _ => ho, fun _ => rfl⟩).mono ?_
        rintro r W' ⟨hB, _, hy⟩
        obtain ⟨v, g, rfl, hr, hmx⟩ := hy rfl
        have ev := most_two ho.2 hm hmx
        subst ev
        exact ⟨_, _, _, rfl, hr.sl2 hR, hB⟩
      · refine (woBack_gr R a1 a2 n1 c1 n2 c2 st cols a n c xs W h1 h2 h3 hb1 hb2 hb3 hm hg true ⟨fun _ => ho, fun _ => rfl⟩).mono ?_
        rintro r W' ⟨hB, _, hy⟩
        obtain ⟨g, rfl, hr⟩ := hy rfl
        have hr2 : RoV W' g R (fun u => .int .i64 (bkO xs st cols R u : Int)) := hr.congr (fun u hu => by rw [lbF_bk ho.2 hm hu])
        exact ⟨_, _, _, rfl, hr2.sl2 hR, hB⟩
    · refine ⟨0, 182, [], ⟨fun a1 a2 a c1 c2 c W h1 h2 h3 => ?_, fun a1 a2 a c1 c2 c W h1 h2 h3 => ?_, by simp⟩⟩
      · refine (oBack_gr R a1 a2 n1 c1 n2 c2 st cols a n c xs W h1 h2 h3 hb1 hb2 hb3 hm hg false ⟨fun e => absurd e (by decide), fun h => absurd h ho⟩).mono ?_
        rintro r W' ⟨hB, hn, _⟩
        exact ⟨_, _, _, hn rfl, SlI.nil _, hB⟩
      · refine (woBack_gr R a1 a2 n1 c1 n2 c2 st cols a n c xs W h1 h2 h3 hb1 hb2 hb3 hm hg false ⟨fun e => absurd e (by decide), fun h => absurd h ho⟩).mono ?_
        rintro r W' ⟨hB, hn, _⟩
        exact ⟨_, _, _, hn rfl, SlI.nil _, hB⟩
  · refine ⟨0, 220, [], ⟨fun a1 a2 a c1 c2 c W h1 h2 h3 => ?_, fun a1 a2 a c1 c2 c W h1 h2 h3 => ?_, by simp⟩⟩
    · refine (oBack_nogr rows width a1 a2 n1 c1 n2 c2 st cols _ W h1 h2 hb1 hb2 hg).mono ?_
      rintro r W' ⟨rfl, hB⟩
      exact ⟨_, _, _, rfl, SlI.nil _, hB⟩
    · refine (woBack_nogr rows width a1 a2 n1 c1 n2 c2 st cols _ W h1 h2 hb1 hb2 hg).mono ?_
      rintro r W' ⟨rfl, hB⟩
      exact ⟨_, _, _, rfl, SlI.nil _, hB⟩
set_option maxRecDepth 100000 in
set_option maxHeartbeats 16000000 in
/-- slopelaw11.backs. -/
theorem olawbacks_any (rows width : Int) (x1 x2 x : Option Addr) (y1 y2 y : Nat) (a1 a2 a : Option Addr) (n1 c1 n2 c2 n c : Nat) (st cols xs : List Int) (w : World) (g1 : SlI w x1 n1 y1 st) (g2 : SlI w x2 n2 y2 cols) (g3 : SlI w x n y xs) (h1 : SlI w a1 n1 c1 st) (h2 : SlI w a2 n2 c2 cols) (h3 : SlI w a n c xs) (hb1 : n1 ≤ 17592186044000) (hb2 : n2 ≤ 17592186044000) (hb3 : n ≤ 17592186044000) :
    Calls Try.prog 10 #[patV rows width x1 n1 y1 x2 n2 y2, .slice x n y, patV rows width a1 n1 c1 a2 n2 c2, .slice a n c] w fun e w' => e = .returned (.bool true) ∧ Below w.heap.size w w' := by
  obtain ⟨v, er, L, hBT⟩ := back_two rows width n1 n2 n st cols xs h3.len hb1 hb2 hb3
  obtain ⟨wb, hwb⟩ : ∃ q, w.alloc (.cells #[.int .i64 rows, .int .i64 width, .slice x1 n1 y1, .slice x2 n2 y2] 24) = q := ⟨_, rfl⟩
  have bb : Below w.heap.size w wb := by rw [← hwb]; exact (Below.refl _ _).alloc (Nat.le_refl _) _
  have hT := BoxP.made w #[.int .i64 rows, .int .i64 width, .slice x1 n1 y1, .slice x2 n2 y2] 24
  rw [hwb] at hT
  obtain ⟨wc, hwc⟩ : ∃ q, wb.alloc (.cells #[.int .i64 rows, .int .i64 width, .slice a1 n1 c1, .slice a2 n2 c2] 24) = q := ⟨_, rfl⟩
  have bc : Below wb.heap.size wb wc := by rw [← hwc]; exact (Below.refl _ _).alloc (Nat.le_refl _) _
  have hT2 := BoxP.made wb #[.int .i64 rows, .int .i64 width, .slice a1 n1 c1, .slice a2 n2 c2] 24
  rw [hwc] at hT2
  have bwc := bb.trans (bc.mono bb.size)
  have hT1 := hT.below bc
  have p0 := (hT1.all 0 _ rfl).1
  have p1 := (hT1.all 1 _ rfl).1
  have p2 := (hT1.all 2 _ rfl).1
  have p3 := (hT1.all 3 _ rfl).1
  have K1 := hide (hBT.one x1 x2 x y1 y2 y wc (g1.below bwc) (g2.below bwc) (g3.below bwc))
  unfold patV at K1
  have HT2 := hide hT2
  have HB := hide bwc
  have HS := hide (And.intro h1 (And.intro h2 h3))
  have HBT := hide hBT
  clear hT hT1 hT2 bb bc bwc g1 g2 g3 h1 h2 h3 hBT
  unfold patV
  go_enter Try.func10, Try.ntmps10
  go_wp2_with fail
  refine (unhide K1).mono ?_
  rintro _ w2 ⟨b, m, d, rfl, hs, b2⟩
  have HB2 := hide ((unhide HB).trans (b2.mono (unhide HB).size))
  have hT3 := (unhide HT2).below b2
  have K2 := hide ((unhide HBT).two a1 a2 a c1 c2 c w2 ((unhide HS).1.below (unhide HB2)) ((unhide HS).2.1.below (unhide HB2)) ((unhide HS).2.2.below (unhide HB2)))
  unfold patV at K2
  have HS2 := hide hs
  clear K1 b2 p0 p1 p2 p3 hs
  have p0 := (hT3.all 0 _ rfl).1
  have p1 := (hT3.all 1 _ rfl).1
  have p2 := (hT3.all 2 _ rfl).1
  have p3 := (hT3.all 3 _ rfl).1
  clear hT3
  go_wp2_with fail
  refine (unhide K2).mono ?_
  rintro _ w3 ⟨b', m', d', rfl, hs', b3⟩
  obtain rfl : m = m' := by rw [← (unhide HS2).len, ← hs'.len]
  have hml : m ≤ 128 := by rw [← (unhide HS2).len]; exact (unhide HBT).len
  have HB3 := hide ((unhide HB2).trans (b3.mono (unhide HB2).size))
  have KS := hide (sameInts_eq b b' m d d' L w3 ((unhide HS2).below b3) hs' (by omega))
  clear K2 b3 hs' p0 p1 p2 p3
  have d1 : (v == v) = true := by simp
  have d2 : (er == er) = true := by simp
  go_wp2_with ((go_at_call 15; refine (num11_any _ _).mono ?_; rintro _ wn ⟨rfl, hwn⟩; rw [hwn]; clear hwn wn))
  refine (unhide KS).mono ?_
  rintro _ w4 ⟨rfl, kx, hkx⟩
  have HB4 := hide (show Below w.heap.size w w4 from by rw [hkx]; exact bel_drewN (unhide HB3) kx)
  clear KS hkx
  go_wp2_with fail
  try go_ret
  exact ⟨rfl, unhide HB4⟩
end Go.Proofs.Ytpmafjofkmefeaa

namespace Go.Proofs.Ytpmafjofkmefeaa
open Go.Shelf Go.RowKit Go.Deep
set_option linter.unusedVariables false

set_option maxRecDepth 100000 in
set_option maxHeartbeats 8000000 in
/-- cmp.Compare of whole numbers: nothing is laid. -/
theorem ocmp_dr (x y : Int) (w : World) : Calls Try.prog 80 #[.int .i64 x, .int .i64 y] w fun e w' => e = .returned (.int .i64 (cmpI x y)) ∧ Dr w w' := by
  by_cases h1 : x < y
  · have e : cmpI x y = -1 := by unfold cmpI; rw [if_pos h1]
    rw [e]
    clear e
    go_enter Try.func80, Try.ntmps80
    go_wp2_with ((go_at_call 93; refine (nan_int _ _).mono ?_; rintro _ _ ⟨rfl, hw⟩; subst hw))
    try go_ret
    exact ⟨rfl, Dr.refl _⟩
  · by_cases h2 : y < x
    · have e : cmpI x y = 1 := by unfold cmpI; rw [if_neg h1, if_pos h2]
      rw [e]
      clear e
      go_enter Try.func80, Try.ntmps80
      go_wp2_with ((go_at_call 93; refine (nan_int _ _).mono ?_; rintro _ _ ⟨rfl, hw⟩; subst hw))
      try go_ret
      exact ⟨rfl, Dr.refl _⟩
    · have e : cmpI x y = 0 := by unfold cmpI; rw [if_neg h1, if_neg h2]
      rw [e]
      clear e
      go_enter Try.func80, Try.ntmps80
      go_wp2_with ((go_at_call 93; refine (nan_int _ _).mono ?_; rintro _ _ ⟨rfl, hw⟩; subst hw))
      try go_ret
      exact ⟨rfl, Dr.refl _⟩
set_option maxRecDepth 100000 in
set_option maxHeartbeats 8000000 in
/-- byDegree's closure: nothing is laid. -/
theorem obydeg1_dr (u v R g pb : Nat) (f : Nat → Int) (w : World) (hu : u < R) (hv : v < R) (hR : R ≤ 128) (hp : w.cell? ⟨pb, 0, none⟩ = some (.slice (some ⟨g, 0, none⟩) R R)) (hf : RoV w g R (fun i => .int .i64 (f i))) :
    Calls Try.prog 79 #[.int .i64 (u : Int), .int .i64 (v : Int), .pointer (some ⟨pb, 0, none⟩)] w fun e w' => e = .returned (.int .i64 (cmpI (f v) (f u))) ∧ Dr w w' := by
  have hu' : (u : Int) < (R : Int) := by omega
  have hv' : (v : Int) < (R : Int) := by omega
  have cu := (hf u hu).1
  have cv := (hf v hv).1
  obtain ⟨x, hx⟩ : ∃ x, f u = x := ⟨_, rfl⟩
  obtain ⟨y, hy⟩ : ∃ y, f v = y := ⟨_, rfl⟩
  simp only [hx] at cu
  simp only [hy] at cv
  rw [hx, hy]
  have HK := hide (fun W => ocmp_dr y x W)
  clear hf hx hy
  go_enter Try.func79, Try.ntmps79
  go_wp2_with fail
  go_quiet ((go_at_call 80; exact Calls.quiet_of (unhide HK _)))
  go_wp2_with fail
  try go_ret
  exact ⟨rfl, ⟨_, rfl⟩⟩
/-- A vertex below R, as a value. -/
def encF (q : Nat) (x : Fin (q + 1)) : Value := .int .i64 (x.val : Int)
/-- By falling degrees. -/
def cfF (q : Nat) (f : Nat → Int) (u v : Fin (q + 1)) : Int := cmpI (f v.val) (f u.val)
theorem Chg.of_sort {S : Nat → Prop} (q : Nat) (w : World) (m blk off : Nat) (dk : Array (Fin (q + 1))) (os : Array Obj) (hb : S blk) : Chg S w (sortWorld (encF q) w blk off m dk os) := by
  refine ⟨rfl, rfl, rfl, by simp [sortWorld, Sort.grow, Sort.putRow, Sort.mapBlock, Sort.ahead], fun k hk hS => ?_⟩
  have : blk ≠ k := fun e => hS (e ▸ hb)
  simp only [sortWorld, Sort.grow]
  rw [Array.getElem?_append_left (by simp [Sort.ahead]; exact hk)]
  simp [Sort.putRow, Sort.mapBlock, Sort.ahead, Array.getElem?_modify, this]
theorem ocmp_reads (q g pb blk n : Nat) (f : Nat → Int) (w : World) (hR : q + 1 ≤ 128) (hp : w.cell? ⟨pb, 0, none⟩ = some (.slice (some ⟨g, 0, none⟩) (q + 1) (q + 1))) (hf : RoV w g (q + 1) (fun i => .int .i64 (f i))) (h1 : pb ≠ blk) (h2 : g ≠ blk) :
    CmpReads Try.prog 79 #[.pointer (some ⟨pb, 0, none⟩)] (encF q) (cfF q f) blk 0 n w := by
  intro m os dk hs x y
  have hC := Chg.of_sort (S := fun j => j = blk) q w m blk 0 dk os rfl
  refine (obydeg1_dr x.val y.val (q + 1) g pb f _ x.isLt y.isLt hR (hC.cell h1 hp) (hf.chg hC h2)).mono ?_
  rintro e w' ⟨rfl, k, rfl⟩
  exact ⟨rfl, k, rfl⟩
end Go.Proofs.Ytpmafjofkmefeaa

namespace Go.Proofs.Ytpmafjofkmefeaa
open Go.Shelf Go.RowKit Go.Deep
set_option linter.unusedVariables false

/-- What the sort leaves. -/
def SrP (q blk : Nat) (res : Array (Fin (q + 1))) (w w' : World) (e : Ending) : Prop := e = .returned (.tuple #[]) ∧ ∃ n, w' = (Sort.putRow (encF q) w blk 0 res).drewN n
theorem oinsSort_any (q g pb blk : Nat) (f : Nat → Int) (d res : Array (Fin (q + 1))) (w : World) (hR : q + 1 ≤ 20) (hd : d.size = q + 1) (hH : Sort.Holds (encF q) w blk 0 d) (hp : w.cell? ⟨pb, 0, none⟩ = some (.slice (some ⟨g, 0, none⟩) (q + 1) (q + 1))) (hf : RoV w g (q + 1) (fun i => .int .i64 (f i))) (h1 : pb ≠ blk) (h2 : g ≠ blk) (hres : Sort.insertionSort (ltOf (cfF q f)) d 0 (q + 1) = res) :
    Calls Try.prog 103 #[.slice (some ⟨blk, 0, none⟩) (q + 1) (q + 1), .int .i64 0, .int .i64 ((q + 1 : Nat) : Int), .func (.func 79) #[] #[.pointer (some ⟨pb, 0, none⟩)]] w fun e w' => SrP q blk res w w' e := by
  have eg : ∀ args w, (callFunc 79 args).run Try.prog w = .ok (.enter 79 args) w := enters_of Try.func79 (by kernel_rfl) rfl
  have hc := ocmp_reads q g pb blk d.size f w (by omega) hp hf h1 h2
  have K := Any.insertionSortCmpFunc_one shSrt (encF q) (fun _ => rfl) (cfF q f) 79 #[.pointer (some ⟨pb, 0, none⟩)] blk 0 (q + 1) 0 (q + 1) d w eg hc hH (by omega) (by omega) (by omega)
  rw [hres] at K
  simp only [hd] at K
  exact K
set_option maxRecDepth 100000 in
set_option maxHeartbeats 8000000 in
/-- slices.stableCmpFunc of few. -/
theorem ostable_any (q blk pb R : Nat) (res : Array (Fin (q + 1))) (w : World) (hR : R ≤ 19) (K : Calls Try.prog 103 #[.slice (some ⟨blk, 0, none⟩) R R, .int .i64 0, .int .i64 (R : Int), .func (.func 79) #[] #[.pointer (some ⟨pb, 0, none⟩)]] w fun e w' => SrP q blk res w w' e) :
    Calls Try.prog 92 #[.slice (some ⟨blk, 0, none⟩) R R, .int .i64 (R : Int), .func (.func 79) #[] #[.pointer (some ⟨pb, 0, none⟩)]] w fun e w' => SrP q blk res w w' e := by
  have h1 : ¬ (20 : Int) ≤ (R : Int) := by omega
  have h2 : ¬ (20 : Int) < (R : Int) := by omega
  have HK := hide K
  clear K
  go_enter Try.func92, Try.ntmps92
  go_wp2_with fail
  go_loopw [7, 8] (fun av bv wr => av = .int .i64 0 ∧ bv = .int .i64 20 ∧ wr = w) (fun _ _ _ => 0)
  case atStart => exact ⟨rfl, rfl, rfl⟩
  case round =>
    obtain ⟨rfl, rfl, rfl⟩ := hrel
    go_wp2_with fail
    refine (unhide HK).mono ?_
    rintro _ w2 ⟨rfl, hw2⟩
    have HW2 := hide hw2
    clear HK hw2
    go_wp2_with fail
    go_loopw [6] (fun sv wq => sv = .int .i64 20 ∧ wq = w2) (fun _ _ => 0)
    case atStart => exact ⟨rfl, rfl⟩
    case round =>
      obtain ⟨rfl, rfl⟩ := hrel
      go_wp2_with fail
      go_end0
      exact ⟨rfl, unhide HW2⟩
set_option maxRecDepth 100000 in
set_option maxHeartbeats 8000000 in
/-- slices.SortStableFunc of few. -/
theorem osortSt_any (q blk pb R : Nat) (res : Array (Fin (q + 1))) (w : World) (hR : R ≤ 19) (K : Calls Try.prog 103 #[.slice (some ⟨blk, 0, none⟩) R R, .int .i64 0, .int .i64 (R : Int), .func (.func 79) #[] #[.pointer (some ⟨pb, 0, none⟩)]] w fun e w' => SrP q blk res w w' e) :
    Calls Try.prog 78 #[.slice (some ⟨blk, 0, none⟩) R R, .func (.func 79) #[] #[.pointer (some ⟨pb, 0, none⟩)]] w fun e w' => SrP q blk res w w' e := by
  have HK := hide (ostable_any q blk pb R res w hR K)
  clear K
  go_enter Try.func78, Try.ntmps78
  go_wp2_with fail
  refine (unhide HK).mono ?_
  rintro _ w2 ⟨rfl, hw2⟩
  have HW2 := hide hw2
  clear HK hw2
  go_wp2_with fail
  go_end0
  exact ⟨rfl, unhide HW2⟩
end Go.Proofs.Ytpmafjofkmefeaa
