/-
  slopeplain.SameInts; Given.Intact where lists of whole numbers alone are given: contracts.
-/
import Derived.Test.YtpmafjofkmefeaaSp1
import Derived.Test.YtpmafjofkmefeaaSi2
import Derived.Test.YtpmafjofkmefeaaGiv3
import Derived.Test.YtpmafjofkmefeaaSa3
import Derived.Deep.RegionHeld3
namespace Go.Proofs.Ytpmafjofkmefeaa
open Go.RowKit Go.Deep
set_option linter.unusedVariables false

set_option maxRecDepth 100000 in
set_option maxHeartbeats 8000000 in
/-- slopeplain.SameInts of like lists. -/
theorem sameInts_eq (a1 a2 : Option Addr) (n c1 c2 : Nat) (xs : List Int) (w : World) (h1 : SlI w a1 n c1 xs) (h2 : SlI w a2 n c2 xs) (hn : n ≤ 140737488355328) :
    Calls Try.prog 16 #[.slice a1 n c1, .slice a2 n c2] w fun e w' => e = .returned (.bool true) ∧ ∃ m, w' = w.drewN m := by
  have tn : ((n:Int) != (n:Int)) = false := by simp
  have H1 := hide h1
  have H2 := hide h2
  clear h1 h2
  go_enter Try.func16, Try.ntmps16
  go_wp2_with fail
  go_loopw [5] (fun iv wr => ∃ q : Nat, q ≤ n ∧ iv = .int .i64 (q : Nat) ∧ Hid (Dr w wr)) (fun iv _ => n - (intOf iv).toNat)
  case atStart => exact ⟨0, Nat.zero_le _, rfl, Dr.refl _⟩
  case round =>
    obtain ⟨q, hq, rfl, HW⟩ := hrel
    by_cases hlt : q < n
    · have hlt' : (q:Int) < (n:Int) := by omega
      obtain ⟨g1, o1, rfl, k1⟩ := ((unhide H1).below (unhide HW).below).at (by omega)
      obtain ⟨g2, o2, rfl, k2⟩ := ((unhide H2).below (unhide HW).below).at (by omega)
      have z1 := k1 q hlt
      have z2 := k2 q hlt
      generalize xs.getD q 0 = x at *
      have tx : ((x:Int) != x) = false := by simp
      clear k1 k2
      go_wp2_with fail
      go_quiet (fail)
      go_wp2_with fail
      exact ⟨⟨q + 1, by omega, by (first | rfl | go_num), hide ((unhide HW).n _)⟩, by simp [intOf]; omega⟩
    · have hq2 : q = n := by omega
      subst hq2
      have hlt' : ¬ (q:Int) < (q:Int) := by omega
      go_wp2_with fail
      go_ret
      exact ⟨rfl, unhide HW⟩
set_option maxRecDepth 100000 in
set_option maxHeartbeats 8000000 in
theorem intactI_some (w : World) (B g0 c0 g1 c1 m : Nat) (es : List EntI) (hm : es.length = m) (hm2 : m ≤ maxLen) (h4 : w.cell? ⟨B, 4, none⟩ = some (.slice (some ⟨g0, 0, none⟩) m c0)) (h5 : w.cell? ⟨B, 5, none⟩ = some (.slice (some ⟨g1, 0, none⟩) m c1))
    (hr0 : ∀ k (h : k < es.length), w.cell? ⟨g0, k, none⟩ = some es[k].v) (hr1 : ∀ k (h : k < es.length), w.cell? ⟨g1, k, none⟩ = some es[k].v0)
    (hes : ∀ e ∈ es, SlI w (some ⟨EntI.b e, 0, none⟩) (e.xs.length + 3) e.c (e.xs ++ marksI) ∧ SlI w (some ⟨e.b0, 0, none⟩) (e.xs.length + 3) e.c0 (e.xs ++ marksI) ∧ e.xs.length ≤ 17592186044000)
    (h0 : w.cell? ⟨B, 0, none⟩ = some (.slice none 0 0)) (h2 : w.cell? ⟨B, 2, none⟩ = some (.slice none 0 0)) (h6 : w.cell? ⟨B, 6, none⟩ = some (.slice none 0 0)) (h8 : w.cell? ⟨B, 8, none⟩ = some (.slice none 0 0)) (h10 : w.cell? ⟨B, 10, none⟩ = some (.slice none 0 0)) (h12 : w.cell? ⟨B, 12, none⟩ = some (.slice none 0 0)) (h14 : w.cell? ⟨B, 14, none⟩ = some (.slice none 0 0)) (h16 : w.cell? ⟨B, 16, none⟩ = some (.slice none 0 0)) (h18 : w.cell? ⟨B, 18, none⟩ = some (.slice none 0 0)) :
    Calls Try.prog 8 #[.pointer (some ⟨B, 0, none⟩)] w fun e w' => e = .returned (.bool true) ∧ ∃ k, w' = w.drewN k := by
  unfold maxLen at hm2
  go_enter Try.func8, Try.ntmps8
  go_wp2
  go_loopw [3] (fun i wr => i = .int .i64 0 ∧ ∃ d, wr = w.drewN d) (fun i _ => (intOf i).toNat)
  case atStart => (first | exact ⟨rfl, _, rfl⟩ | exact ⟨rfl, 0, rfl⟩)
  case round =>
    obtain ⟨rfl, d, rfl⟩ := hrel
    go_wp2_with fail
    go_loopw [4] (fun i wr => i = .int .i64 0 ∧ ∃ d, wr = w.drewN d) (fun i _ => (intOf i).toNat)
    case atStart => (first | exact ⟨rfl, _, rfl⟩ | exact ⟨rfl, 0, rfl⟩)
    case round =>
      obtain ⟨rfl, d, rfl⟩ := hrel
      go_wp2_with fail
      go_loopw [5] (fun i wr => ∃ k : Nat, k ≤ m ∧ i = .int .i64 k ∧ ∃ d, wr = w.drewN d) (fun i _ => m - (intOf i).toNat)
      case atStart => exact ⟨0, Nat.zero_le _, rfl, _, rfl⟩
      case round =>
        obtain ⟨k, hk, rfl, d, rfl⟩ := hrel
        by_cases hlt : k < m
        · have hlt' : (k:Int) < (m:Int) := by omega
          have g0' := hr0 k (by omega)
          have g1' := hr1 k (by omega)
          have HE := hide (hes es[k] (List.getElem_mem (by omega)))
          generalize es[k] = E at g0' g1' HE
          unfold EntI.v at g0'
          unfold EntI.v0 at g1'
          have KK := hide (fun j => (sameInts_eq _ _ _ _ _ _ (w.drewN j) ((unhide HE).1.below (bel_drewN (Below.refl _ _) j)) ((unhide HE).2.1.below (bel_drewN (Below.refl _ _) j)) (by have := (unhide HE).2.2; omega)))
          clear hr0 hr1 hes HE
          go_wp2_with fail
          go_quiet ((go_at_call 16; exact quiet_at (unhide KK _)))
          go_wp2
          exact ⟨⟨k + 1, by omega, by go_num, _, rfl⟩, by simp [intOf]; omega⟩
        · clear hr0 hr1 hes
          go_wp2_with fail
          go_loopw [6] (fun i wr => i = .int .i64 0 ∧ ∃ d, wr = w.drewN d) (fun i _ => (intOf i).toNat)
          case atStart => (first | exact ⟨rfl, _, rfl⟩ | exact ⟨rfl, 0, rfl⟩)
          case round =>
            obtain ⟨rfl, d, rfl⟩ := hrel
            go_wp2_with fail
            go_loopw [7] (fun i wr => i = .int .i64 0 ∧ ∃ d, wr = w.drewN d) (fun i _ => (intOf i).toNat)
            case atStart => (first | exact ⟨rfl, _, rfl⟩ | exact ⟨rfl, 0, rfl⟩)
            case round =>
              obtain ⟨rfl, d, rfl⟩ := hrel
              go_wp2_with fail
              go_loopw [8] (fun i wr => i = .int .i64 0 ∧ ∃ d, wr = w.drewN d) (fun i _ => (intOf i).toNat)
              case atStart => (first | exact ⟨rfl, _, rfl⟩ | exact ⟨rfl, 0, rfl⟩)
              case round =>
                obtain ⟨rfl, d, rfl⟩ := hrel
                go_wp2_with fail
                refine (whole_any (w.drewN d) B h12 h14 h16 h18).mono ?_
                rintro e w' ⟨rfl, rfl⟩
                go_wp2
                go_ret
                exact ⟨rfl, _, rfl⟩

/-- slopeplain.Given.Intact, where lists of whole numbers alone are given. -/
theorem intactI_any (w : World) (B : Nat) (v0 v1 : Value) (es : List EntI) (hg : GivI w B v0 v1 es (fun _ => .slice none 0 0)) (hne : es ≠ []) (hb : ∀ e ∈ es, e.xs.length ≤ 17592186044000) :
    Calls Try.prog 8 #[.pointer (some ⟨B, 0, none⟩)] w fun e w' => e = .returned (.bool true) ∧ ∃ k, w' = w.drewN k := by
  obtain ⟨cur, hcur, hc20, hc0, hc1, hcr⟩ := hg.blk
  have c0 : w.cell? ⟨B, 4, none⟩ = some v0 := (cell_of_block hcur 4).trans hc0
  have c1 : w.cell? ⟨B, 5, none⟩ = some v1 := (cell_of_block hcur 5).trans hc1
  have cr : ∀ i, i ≠ 4 ∧ i ≠ 5 → i < 20 → w.cell? ⟨B, i, none⟩ = some (.slice none 0 0) := fun i h2 h20 => (cell_of_block hcur i).trans (hcr i h2 h20)
  have hz : es.length ≠ 0 := fun e => hne (List.length_eq_zero_iff.1 e)
  obtain ⟨l0, o0⟩ := hg.own0
  obtain ⟨l1, o1⟩ := hg.own1
  rcases o0 with ⟨e0, n0⟩ | ⟨g0, p0, u0, e0, b0, k0, s0, t0, z0, x0⟩
  · exact absurd n0 hz
  · subst e0
    rcases o1 with ⟨e1, n1⟩ | ⟨g1, p1, u1, e1, b1, k1, s1, t1, z1, x1⟩
    · exact absurd n1 hz
    · subst e1
      refine intactI_some w B g0 p0 g1 p1 es.length es rfl (by omega) c0 c1 ?_ ?_ (fun e he => ⟨(hg.ents e he).sl, (hg.ents e he).sl0, hb e he⟩) (cr 0 (by omega) (by omega)) (cr 2 (by omega) (by omega)) (cr 6 (by omega) (by omega)) (cr 8 (by omega) (by omega)) (cr 10 (by omega) (by omega)) (cr 12 (by omega) (by omega)) (cr 14 (by omega) (by omega)) (cr 16 (by omega) (by omega)) (cr 18 (by omega) (by omega))
      · intro k hk
        rw [cell_of_block k0]
        have : (es.map EntI.v)[k]? = some es[k].v := by simp [hk]
        rw [← x0] at this
        simpa [List.getElem?_take, hk] using this
      · intro k hk
        rw [cell_of_block k1]
        have : (es.map EntI.v0)[k]? = some es[k].v0 := by simp [hk]
        rw [← x1] at this
        simpa [List.getElem?_take, hk] using this
end Go.Proofs.Ytpmafjofkmefeaa

namespace Go.Proofs.Ytpmafjofkmefeaa
open Go.RowKit Go.Deep
set_option linter.unusedVariables false

/-- A box of cells that may be written. -/
structure BoxP (w : World) (X : Nat) (vs : List Value) : Prop where
  all : ∀ q u, vs[q]? = some u → w.cell? ⟨X, q, none⟩ = some u ∧ w.frozen? ⟨X, q, none⟩ = false
  lt : X < w.heap.size
theorem Chg.frzP {S : Nat → Prop} {w w' : World} (h : Chg S w w') {b i : Nat} (hb : b < w.heap.size) (hs : ¬ S b) : w'.frozen? ⟨b, i, none⟩ = w.frozen? ⟨b, i, none⟩ := by
  unfold World.frozen?
  rw [h.block b hb hs]
theorem BoxP.chg {S : Nat → Prop} {w w' : World} {X : Nat} {vs : List Value} (h : BoxP w X vs) (k : Chg S w w') (hs : ¬ S X) : BoxP w' X vs :=
  ⟨fun q u hq => ⟨k.cell hs (h.all q u hq).1, by rw [k.frzP h.lt hs]; exact (h.all q u hq).2⟩, Nat.lt_of_lt_of_le h.lt k.size⟩
theorem BoxP.below {w w' : World} {X : Nat} {vs : List Value} (h : BoxP w X vs) (k : Below w.heap.size w w') : BoxP w' X vs := h.chg (S := fun _ => False) (Chg.of_below k) (fun x => x)
theorem BoxP.put {w : World} {X : Nat} {vs : List Value} (h : BoxP w X vs) (q : Nat) (u : Value) : BoxP (w.setCell ⟨X, q, none⟩ u) X (vs.set q u) := by
  refine ⟨fun p x hp => ?_, by simpa using h.lt⟩
  rw [World.frozen?_setCell]
  rw [List.getElem?_set] at hp
  by_cases e : q = p
  · subst e
    rw [if_pos rfl] at hp
    split at hp
    · rename_i hl
      obtain ⟨y, hy⟩ : ∃ y, vs[q]? = some y := ⟨_, List.getElem?_eq_getElem hl⟩
      have h1 := h.all q y hy
      obtain rfl := Option.some.inj hp
      exact ⟨World.cell?_setCell_same _ _ _ h1.1, h1.2⟩
    · cases hp
  · rw [if_neg e] at hp
    have h1 := h.all p x hp
    exact ⟨by rw [World.cell?_setCell_other _ _ _ _ (by intro c; simp at c; try omega)]; exact h1.1, h1.2⟩
theorem BoxP.other {w : World} {X : Nat} {vs : List Value} (h : BoxP w X vs) {Y : Nat} (q : Nat) (u : Value) (hn : X ≠ Y) : BoxP (w.setCell ⟨Y, q, none⟩ u) X vs :=
  h.chg (S := fun j => j = Y) (Chg.of_set _ _ _ _ rfl) hn
theorem BoxP.made (w : World) (vs : Array Value) (e : TypeId) : BoxP (w.alloc (.cells vs e)) w.heap.size vs.toList := by
  refine ⟨fun q u hq => ?_, by simp⟩
  have hq' : vs[q]? = some u := by simpa using hq
  exact ⟨by simp [hq'], by simp⟩
theorem GivI.own_lt {w : World} {B : Nat} {v0 v1 : Value} {es : List EntI} {rs : Nat → Value} (h : GivI w B v0 v1 es rs) {k : Nat} (hk : Own B v0 v1 k) : k < w.heap.size := by
  rcases hk with rfl | hk | hk
  · exact h.cell0.2.2.2.2
  · exact (Go.Proofs.Ytpmafjofkmefeaa.own_ge h.own0 k hk).2
  · exact (Go.Proofs.Ytpmafjofkmefeaa.own_ge h.own1 k hk).2
theorem GivI.own_ge {w : World} {B : Nat} {v0 v1 : Value} {es : List EntI} {rs : Nat → Value} (h : GivI w B v0 v1 es rs) {k : Nat} (hk : Own B v0 v1 k) : B ≤ k := by
  rcases hk with rfl | hk | hk
  · exact Nat.le_refl _
  · have := (Go.Proofs.Ytpmafjofkmefeaa.own_ge h.own0 k hk).1; omega
  · have := (Go.Proofs.Ytpmafjofkmefeaa.own_ge h.own1 k hk).1; omega
theorem EntOkI.ne {w : World} {B : Nat} {v0 v1 : Value} {e : EntI} (h : EntOkI w B v0 v1 e) {R : Nat} {a : Option Addr} {n c : Nat} (hR : w.cell? ⟨R, 2, none⟩ = some (.slice a n c)) : ¬ e.b = R ∧ ¬ e.b0 = R := by
  have k : ∀ {b c' : Nat}, SlI w (some ⟨b, 0, none⟩) (e.xs.length + 3) c' (e.xs ++ marksI) → ¬ b = R := by
    intro b c' hs hb
    obtain ⟨b2, o2, e2, hc⟩ := hs.at (by omega)
    injection e2 with e3
    injection e3 with e4 e5 e6
    subst e4 e5 hb
    have := hc 2 (by omega)
    rw [Nat.zero_add, hR] at this
    cases this
  exact ⟨k h.sl, k h.sl0⟩
/-- A variable of one's own is written. -/
theorem GivI.setR {w w' : World} {B : Nat} {v0 v1 : Value} {es : List EntI} {rs : Nat → Value} (h : GivI w B v0 v1 es rs) {R : Nat} {a : Option Addr} {n c : Nat} (hR : w.cell? ⟨R, 2, none⟩ = some (.slice a n c)) (hc : Chg (fun j => j = R) w w') (hO : ¬ Own B v0 v1 R) : GivI w' B v0 v1 es rs :=
  h.chg hc (fun e => hO (by rw [← e]; exact .inl rfl)) (fun k hk e => hO (by rw [← e]; exact .inr (.inl hk))) (fun k hk e => hO (by rw [← e]; exact .inr (.inr hk))) (fun e he => (h.ents e he).ne hR)
/-- What Given.Pattern leaves. -/
structure GpPost (w w' : World) (B : Nat) (v0 v1 v0' v1' : Value) (es : List EntI) (rs : Nat → Value) (x y : List Int) (E1 E2 : EntI) : Prop where
  x1 : E1.xs = x
  x2 : E2.xs = y
  n1 : w.heap.size ≤ E1.b ∧ w.heap.size ≤ E1.b0
  n2 : w.heap.size ≤ E2.b ∧ w.heap.size ≤ E2.b0
  giv : GivI w' B v0' v1' (es ++ [E1] ++ [E2]) rs
  chg : Chg (Own B v0 v1) w w'
  safe : ∀ k, k < w.heap.size → ¬ Own B v0 v1 k → ¬ Own B v0' v1' k
set_option maxRecDepth 100000 in
set_option maxHeartbeats 16000000 in
/-- slopeplain.Given.Pattern. -/
theorem gpat_any (B : Nat) (v0 v1 : Value) (es : List EntI) (rs : Nat → Value) (rows width : Int) (a : Option Addr) (n c : Nat) (x : List Int) (b : Option Addr) (m d : Nat) (y : List Int) (w : World) (h : GivI w B v0 v1 es rs) (hx : SlI w a n c x) (hy : SlI w b m d y) (lo : ∀ z, b = some z → y ≠ [] → z.block < B) (hn : n ≤ 17592186044000) (hm : m ≤ 17592186044000) (he : es.length ≤ 5700000000000) :
    Calls Try.prog 7 #[.pointer (some ⟨B, 0, none⟩), patV rows width a n c b m d] w fun e w' => ∃ v, e = .returned v ∧ ∃ v0' v1' E1 E2, v = patV rows width (some ⟨EntI.b E1, 0, none⟩) n E1.c (some ⟨EntI.b E2, 0, none⟩) m E2.c ∧ GpPost w w' B v0 v1 v0' v1' es rs x y E1 E2 := by
  obtain ⟨wa, hwa⟩ : ∃ x, w.alloc (.cells #[.int .i64 rows, .int .i64 width, .slice a n c, .slice b m d] 24) = x := ⟨_, rfl⟩
  obtain ⟨wo, hwo⟩ : ∃ x, wa.alloc (.cells #[.int .i64 0, .int .i64 0, .slice none 0 0, .slice none 0 0] 24) = x := ⟨_, rfl⟩
  have hba : Below w.heap.size w wa := by rw [← hwa]; exact (Below.refl _ _).alloc (Nat.le_refl _) _
  have hbo : Below wa.heap.size wa wo := by rw [← hwo]; exact (Below.refl _ _).alloc (Nat.le_refl _) _
  have hPB : BoxP wo w.heap.size [.int .i64 rows, .int .i64 width, .slice a n c, .slice b m d] := by have := BoxP.made w #[.int .i64 rows, .int .i64 width, .slice a n c, .slice b m d] 24; rw [hwa] at this; exact this.below hbo
  have hT : BoxP wo wa.heap.size [.int .i64 0, .int .i64 0, .slice none 0 0, .slice none 0 0] := by have := BoxP.made wa #[.int .i64 0, .int .i64 0, .slice none 0 0, .slice none 0 0] 24; rw [hwo] at this; exact this
  have hB := hba.trans (hbo.mono hba.size)
  have hO := h.below hB
  have p0 := (hPB.all 0 _ rfl).1
  have p1 := (hPB.all 1 _ rfl).1
  have p2 := (hPB.all 2 _ rfl).1
  have p3 := (hPB.all 3 _ rfl).1
  have hlt : w.heap.size < wa.heap.size := by rw [← hwa]; simp
  have hlt2 : wa.heap.size < wo.heap.size := hT.lt
  have hnb : ¬ Own B v0 v1 w.heap.size := fun ho => by have := h.own_lt ho; omega
  have hnr : ¬ Own B v0 v1 wa.heap.size := fun ho => by have := h.own_lt ho; omega
  have HK1 := hide (fun (W : World) (hb : Below wo.heap.size wo W) => gints_any B v0 v1 es rs a n c x W (hO.below hb) ((hx.below hB).below hb) hn (by omega))
  have HY := hide (And.intro (hy.below hB) (fun z hz hne ho => by have := h.own_ge ho; have := lo z hz hne; omega : ∀ z, b = some z → y ≠ [] → ¬ Own B v0 v1 z.block))
  have hne1 : w.heap.size ≠ wa.heap.size := by omega
  have hne3 : wa.heap.size ≠ w.heap.size := by omega
  have HW := hide (And.intro hB.size (And.intro hnb (And.intro hnr (And.intro hlt hlt2))))
  have HT := hide hT
  have HPB := hide hPB
  have HCB := hide (show Chg (Own B v0 v1) w wo from Chg.of_below hB)
  have HE := hide he
  clear hba hbo hB hnb hnr hT hO h hx hy lo he hPB
  unfold patV
  go_enter Try.func7, Try.ntmps7
  go_wp2_with fail
  go_region_held3 (fun w' => w'.cell? ⟨w.heap.size, 0, none⟩ = some (.int .i64 rows) ∧ w'.cell? ⟨w.heap.size, 1, none⟩ = some (.int .i64 width) ∧ w'.cell? ⟨w.heap.size, 2, none⟩ = some (.slice a n c) ∧ w'.cell? ⟨w.heap.size, 3, none⟩ = some (.slice b m d)) (first | go_keep | (exact ⟨k0, k1, k2, k3⟩) | (exact ⟨j0, j1, j2, j3⟩))
    (first
      | (go_at_call_of 11 (Value.slice a n c); refine (unhide HK1 _ (Below.refl _ _).drew).mono ?_; rintro _ wk ⟨u0, u1, E1, rfl, hx1, hE1, hL1, hc1, hs1⟩; have hcd : Chg (Own B v0 v1) wo wk := (Chg.of_drew wo).trans hc1; have hP1 := (unhide HPB).chg hcd (unhide HW).2.1; have k0 := (hP1.all 0 _ rfl).1; have k1 := (hP1.all 1 _ rfl).1; have k2 := (hP1.all 2 _ rfl).1; have k3 := (hP1.all 3 _ rfl).1; have hT1 := (unhide HT).chg hcd (unhide HW).2.2.1; have HS1 := hide (And.intro hL1 (And.intro (And.intro hx1 (show wo.heap.size ≤ E1.b ∧ wo.heap.size ≤ E1.b0 from hE1)) (And.intro (hs1 w.heap.size (by have := (unhide HW).2.2.2; simp; omega) (unhide HW).2.1) (And.intro (hs1 wa.heap.size (by have := (unhide HW).2.2.2; simp; omega) (unhide HW).2.2.1) (And.intro hT1 (And.intro hcd.size (And.intro hP1 ((unhide HY).1.chg hcd (unhide HY).2)))))))); have HC1 := hide (And.intro hcd hs1); clear hL1 hx1 hE1 hc1 hs1 hcd hT1 hP1)
      | (go_at_call_of 11 (Value.slice b m d); refine (gints_any B u0 u1 (es ++ [E1]) rs b m d y _ (unhide HS1).1 (unhide HS1).2.2.2.2.2.2.2 hm (by have := unhide HE; simp; omega)).mono ?_; rintro _ wj ⟨z0, z1, E2, rfl, hx2, hE2, hL2, hc2, hs2⟩; have hP2 := (unhide HS1).2.2.2.2.2.2.1.chg hc2 (unhide HS1).2.2.1; have j0 := (hP2.all 0 _ rfl).1; have j1 := (hP2.all 1 _ rfl).1; have j2 := (hP2.all 2 _ rfl).1; have j3 := (hP2.all 3 _ rfl).1; have hT2 := (unhide HS1).2.2.2.2.1.chg hc2 (unhide HS1).2.2.2.1; have HO3 := hide hT2; have q0 := (hT2.all 0 _ rfl).1; have q1 := (hT2.all 1 _ rfl).1; have q2 := (hT2.all 2 _ rfl).1; have q3 := (hT2.all 3 _ rfl).1; have r0 := (hT2.all 0 _ rfl).2; have r1 := (hT2.all 1 _ rfl).2; have r2 := (hT2.all 2 _ rfl).2; have r3 := (hT2.all 3 _ rfl).2; have HS2 := hide (And.intro hL2 (And.intro (unhide HS1).2.1 (And.intro (And.intro hx2 (show wo.heap.size ≤ E2.b ∧ wo.heap.size ≤ E2.b0 from ⟨Nat.le_trans (unhide HS1).2.2.2.2.2.1 hE2.1, Nat.le_trans (unhide HS1).2.2.2.2.2.1 hE2.2⟩)) (hs2 wa.heap.size (unhide HS1).2.2.2.2.1.lt (unhide HS1).2.2.2.1)))); have HC2 := hide (And.intro hc2 hs2); clear hL2 hx2 hE2 hc2 hs2 hT2 hP2))
  clear q0 q1 q2 q3 r0 r1 r2 r3
  try go_wp2_with fail
  have hf := (((unhide HO3).put 0 (.int .i64 rows)).put 1 (.int .i64 width)).put 2 (.slice (some ⟨E1.b, 0, none⟩) n E1.c) |>.put 3 (.slice (some ⟨E2.b, 0, none⟩) m E2.c)
  have t0 := (hf.all 0 _ rfl).1
  have t1 := (hf.all 1 _ rfl).1
  have t2 := (hf.all 2 _ rfl).1
  have t3 := (hf.all 3 _ rfl).1
  have c4 : Chg (fun j => j = wa.heap.size) wj ((((wj.setCell ⟨wa.heap.size, 0, none⟩ (.int .i64 rows)).setCell ⟨wa.heap.size, 1, none⟩ (.int .i64 width)).setCell ⟨wa.heap.size, 2, none⟩ (.slice (some ⟨E1.b, 0, none⟩) n E1.c)).setCell ⟨wa.heap.size, 3, none⟩ (.slice (some ⟨E2.b, 0, none⟩) m E2.c)) := (((Chg.of_set (S := fun j => j = wa.heap.size) _ _ _ _ rfl).trans (Chg.of_set (S := fun j => j = wa.heap.size) _ _ _ _ rfl)).trans (Chg.of_set (S := fun j => j = wa.heap.size) _ _ _ _ rfl)).trans (Chg.of_set (S := fun j => j = wa.heap.size) _ _ _ _ rfl)
  generalize (((wj.setCell ⟨wa.heap.size, 0, none⟩ (.int .i64 rows)).setCell ⟨wa.heap.size, 1, none⟩ (.int .i64 width)).setCell ⟨wa.heap.size, 2, none⟩ (.slice (some ⟨E1.b, 0, none⟩) n E1.c)).setCell ⟨wa.heap.size, 3, none⟩ (.slice (some ⟨E2.b, 0, none⟩) m E2.c) = wf at *
  refine bodyPost_ret (by simp [results, Try.results7, go_sem, t0, t1, t2, t3]; try rfl) rfl ?_
  obtain ⟨hL2, ⟨hX1, hE1⟩, ⟨hX2, hE2⟩, hNR⟩ := unhide HS2
  refine ⟨_, rfl, _, _, E1, E2, rfl, ⟨hX1, hX2, ?_, ?_, hL2.setR ((unhide HO3).all 2 _ rfl).1 c4 hNR, ?_, ?_⟩⟩
  · have := (unhide HW).1; omega
  · have := (unhide HW).1; omega
  · have hB := unhide HCB
    have hcd := (unhide HC1).1
    have hc2 := (unhide HC2).1
    refine ⟨c4.os.trans (hc2.os.trans (hcd.os.trans hB.os)), c4.tape.trans (hc2.tape.trans (hcd.tape.trans hB.tape)), c4.output.trans (hc2.output.trans (hcd.output.trans hB.output)), Nat.le_trans hB.size (Nat.le_trans hcd.size (Nat.le_trans hc2.size c4.size)), fun k hk hS => ?_⟩
    have k1 : k < wo.heap.size := Nat.lt_of_lt_of_le hk hB.size
    have k2 : k < wk.heap.size := Nat.lt_of_lt_of_le k1 hcd.size
    have k3 : k < wj.heap.size := Nat.lt_of_lt_of_le k2 hc2.size
    rw [c4.block k k3 (fun e => by have := (unhide HW).2.2.2.1; omega), hc2.block k k2 ((unhide HC1).2 k k1 hS), hcd.block k k1 hS, hB.block k hk hS]
  · intro k hk hS
    have k1 : k < wo.heap.size := Nat.lt_of_lt_of_le hk (unhide HCB).size
    exact (unhide HC2).2 k (Nat.lt_of_lt_of_le k1 (unhide HC1).1.size) ((unhide HC1).2 k k1 hS)
end Go.Proofs.Ytpmafjofkmefeaa
