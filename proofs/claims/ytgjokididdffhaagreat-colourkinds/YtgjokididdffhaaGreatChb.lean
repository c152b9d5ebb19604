/- Cx9 -/
import Derived.Test.YtgjokididdffhaaGreatCx4
import Derived.Test.YtgjokididdffhaaGreatRq0
import Derived.Test.YtgjokididdffhaaGreatChi
import Derived.Test.YtgjokididdffhaaGreatCxb
import Derived.Test.YtgjokididdffhaaGreatCxd
import Derived.Test.YtgjokididdffhaaGreatCx7
import Derived.Test.YtgjokididdffhaaGreatCy1
import Derived.Test.YtgjokididdffhaaGreatCw5
import Derived.Test.YtgjokididdffhaaGreatCxl
import Derived.Test.YtgjokididdffhaaGreatCy2
import Derived.Test.YtgjokididdffhaaGreatSp4
import Derived.Test.YtgjokididdffhaaGreatCi1
namespace Go.Proofs.YtgjokididdffhaaGreat
open Go.RowKit Go.Deep
set_option linter.unusedVariables false
set_option maxRecDepth 100000 in
set_option maxHeartbeats 16000000 in
theorem wwhere_off (kd : Int) (hk2 : (kd == 2) = false) (hk3 : (kd == 3) = false) (R width : Nat) (a1 a2 : Option Addr) (n1 c1 n2 c2 : Nat) (st cols : List Int) (u v : Nat) (w : World) (h1 : SlI w a1 n1 c1 st) (h2 : SlI w a2 n2 c2 cols) (hb1 : n1 ≤ 17592186044416) (hb2 : n2 ≤ 17592186044416) (hm : MayP (R : Int) (width : Int) st cols) :
    Calls Tryz.prog 60 #[.int .i64 kd, patV (R : Int) (width : Int) a1 n1 c1 a2 n2 c2, .int .i64 (u : Int), .int .i64 (v : Int)] w fun e w' => OwA [(u : Int), (v : Int)] w w' e := by
  have hR8 : R ≤ 128 ∧ width ≤ 128 := by have := hm.head.fit; omega
  obtain ⟨wb, hwb⟩ : ∃ x, w.alloc (.cells #[.int .i64 (R : Int), .int .i64 (width : Int), .slice a1 n1 c1, .slice a2 n2 c2] 25) = x := ⟨_, rfl⟩
  have bb : Below w.heap.size w wb := by rw [← hwb]; exact (Below.refl _ _).alloc (Nat.le_refl _) _
  have hT := BoxP.made w #[.int .i64 (R : Int), .int .i64 (width : Int), .slice a1 n1 c1, .slice a2 n2 c2] 25
  rw [hwb] at hT
  have p0 := (hT.all 0 _ rfl).1
  have p1 := (hT.all 1 _ rfl).1
  have p2 := (hT.all 2 _ rfl).1
  have p3 := (hT.all 3 _ rfl).1
  have KO := hide (wopen_any R width a1 a2 n1 c1 n2 c2 st cols wb (h1.below bb) (h2.below bb) hb1 hb2 hm)
  obtain ⟨nn, hnn⟩ : ∃ nn, R * width = nn := ⟨_, rfl⟩
  have hnn2 : nn ≤ 16384 := by rw [← hnn]; exact Nat.mul_le_mul hR8.1 hR8.2
  rw [hnn] at KO
  unfold patV gridV at KO
  have HT := hide hT
  have HB := hide bb
  have HM := hide hm
  have HNN := hide hnn
  clear hT bb h1 h2 hm hnn
  unfold patV
  go_enter Tryz.func60, Tryz.ntmps60
  go_wp2_with fail
  refine (unhide KO).mono ?_
  rintro _ w2 ⟨b, rfl, hRo, b2⟩
  have hG0 := BoxP.made w2 #[.int .i64 (R : Int), .int .i64 (width : Int), .slice (some ⟨b, 0, none⟩) nn nn] 131
  obtain ⟨wg, hwg⟩ : ∃ x, w2.alloc (.cells #[.int .i64 (R : Int), .int .i64 (width : Int), .slice (some ⟨b, 0, none⟩) nn nn] 131) = x := ⟨_, rfl⟩
  have bg : Below w2.heap.size w2 wg := by rw [← hwg]; exact (Below.refl _ _).alloc (Nat.le_refl _) _
  rw [hwg] at hG0
  obtain ⟨GB, hGB⟩ : ∃ GB, w2.heap.size = GB := ⟨_, rfl⟩
  rw [hGB] at hG0
  have b2g := b2.trans (bg.mono b2.size)
  have HN := hide (show ∀ W, Below wg.heap.size wg W → BoxP W w.heap.size [.int .i64 (R : Int), .int .i64 (width : Int), .slice a1 n1 c1, .slice a2 n2 c2] ∧ BoxP W GB [.int .i64 (R : Int), .int .i64 (width : Int), .slice (some ⟨b, 0, none⟩) nn nn] ∧ Below w.heap.size w W from fun W k => ⟨((unhide HT).below b2g).below k, hG0.below k, ((unhide HB).trans (b2g.mono (unhide HB).size)).trans (k.mono (Nat.le_trans (unhide HB).size b2g.size))⟩)
  have HAT := hide (show ∀ W, Below wg.heap.size wg W → ∀ r c t, r < R → c < width → TruQ t (InC st cols c r) → Calls Tryz.prog 77 #[.agg #[.int .i64 (R : Int), .int .i64 (width : Int), .slice (some ⟨b, 0, none⟩) nn nn], .int .i64 (r : Int), .int .i64 (c : Int)] W fun e w' => e = .returned (.bool t) ∧ Below W.heap.size W w' from fun W k r c t hr hc ht => by
    have h9 := wat_any R width b nn r c (fun x => tb (Vis R width st cols cols.length x)) W hR8.2 (by omega) (by omega) (by rw [← unhide HNN]; exact idx_lt hr hc) hnn2 ((hRo.below bg).below k)
    have e9 : t = tb (Vis R width st cols cols.length (r * width + c)) := by
      have h1 : t = true ↔ InC st cols c r := ht
      have h2 : tb (Vis R width st cols cols.length (r * width + c)) = true ↔ InC st cols c r := vis_in (unhide HM) hr hc
      rw [Bool.eq_iff_iff, h1, h2]
    rw [e9]
    exact h9)
  clear KO p0 p1 p2 p3 hG0 bg b2 b2g hRo
  have HX0 := hide (Below.refl wg.heap.size wg)
  go_wp2_with fail
  go_loopw [10] (fun kv wr => kv = .int .i64 0 ∧ Hid (Below wg.heap.size wg wr)) (fun kv _ => 0)
  case atStart => exact ⟨rfl, HX0⟩
  case round =>
    obtain ⟨rfl, HX0⟩ := hrel
    go_wp2_with fail
    go_loopw [11] (fun kv wr => kv = .int .i64 0 ∧ Hid (Below wg.heap.size wg wr)) (fun kv _ => 0)
    case atStart => exact ⟨rfl, HX0⟩
    case round =>
      obtain ⟨rfl, HX1⟩ := hrel
      have HF := hide (unhide HN wr (unhide HX1)).2.2
      go_wp2_with fail
      try go_ret
      exact ⟨_, rfl, own_pair _ _ _ (unhide HF).size, (unhide HF).alloc (unhide HF).size _⟩
theorem BsI.exL (P : Int → Int → Prop) : ∀ L : List (Int × Int), ∃ q, BsI (fun c d => (c, d) ∈ L ∧ P c d) q
  | [] => ⟨none, fun c d h => by simp at h⟩
  | p :: L => by
    obtain ⟨q, hq⟩ := BsI.exL P L
    obtain ⟨a, b⟩ := p
    by_cases hp : P a b
    · cases q with
      | none =>
        refine ⟨some (a, b), ⟨List.mem_cons_self, hp⟩, fun c' d' h => ?_⟩
        rcases List.mem_cons.1 h.1 with e | e
        · cases e; exact .inr ⟨rfl, Int.le_refl _⟩
        · exact absurd ⟨e, h.2⟩ (hq c' d')
      | some q =>
        obtain ⟨c, d⟩ := q
        by_cases hlt : a < c ∨ (a = c ∧ b ≤ d)
        · refine ⟨some (a, b), ⟨List.mem_cons_self, hp⟩, fun c' d' h => ?_⟩
          rcases List.mem_cons.1 h.1 with e | e
          · cases e; exact .inr ⟨rfl, Int.le_refl _⟩
          · have := hq.2 c' d' ⟨e, h.2⟩
            omega
        · refine ⟨some (c, d), ⟨List.mem_cons_of_mem _ hq.1.1, hq.1.2⟩, fun c' d' h => ?_⟩
          rcases List.mem_cons.1 h.1 with e | e
          · cases e; omega
          · exact hq.2 c' d' ⟨e, h.2⟩
    · refine ⟨q, hq.congr (fun c d => ⟨fun h => ?_, fun h => ⟨List.mem_cons_of_mem _ h.1, h.2⟩⟩)⟩
      rcases List.mem_cons.1 h.1 with e | e
      · cases e; exact absurd h.2 hp
      · exact ⟨e, h.2⟩
theorem CiP.ex (st cols : List Int) (R : Nat) (xs : List Int) : ∃ q, BsI (CiP st cols R xs) q := by
  obtain ⟨q, hq⟩ := BsI.exL (CiP st cols R xs) ((List.range R).flatMap (fun u => (List.range R).map (fun v => (xs.getD u 0, xs.getD v 0))))
  refine ⟨q, hq.congr (fun c d => ⟨fun h => ⟨?_, h⟩, fun h => h.2⟩)⟩
  obtain ⟨u, v, had, e1, e2, _⟩ := h
  rw [List.mem_flatMap]
  refine ⟨u, List.mem_range.2 had.1, List.mem_map.2 ⟨v, List.mem_range.2 had.2.1, ?_⟩⟩
  rw [e1, e2]
theorem prL_len (o : Option (Nat × Nat)) : (prL o).length ≤ 4 := by cases o <;> simp [prL]
theorem paL_len (o : Option (Nat × Nat × Nat × Nat)) : (paL o).length ≤ 4 := by cases o <;> simp [paL]
theorem ciL_len (o : Option (Int × Int)) : (ciL o).length ≤ 4 := by cases o <;> simp [ciL]
theorem stL_len (o : Option (Nat × Nat)) (q : Option (Nat × Nat × Nat × Nat)) : (stL o q).length ≤ 4 := by
  cases o with
  | none => exact paL_len q
  | some p => exact prL_len (some p)
theorem cfL_len (o : Option (Nat × Nat)) (q : Option (Int × Int)) : (cfL o q).length ≤ 4 := by
  cases o with
  | none => exact ciL_len q
  | some p => exact prL_len (some p)
structure ChT (k rows width : Int) (n1 n2 n : Nat) (st cols xs L : List Int) (er : Int) : Prop where
  len : L.length ≤ 4
  one : ∀ (a1 a2 a : Option Addr) (c1 c2 c : Nat) (w : World), SlI w a1 n1 c1 st → SlI w a2 n2 c2 cols → SlI w a n c xs → Calls Tryz.prog 14 #[.int .i64 k, patV rows width a1 n1 c1 a2 n2 c2, .slice a n c] w fun e w' => FaP L er w w' e
  two : ∀ (a1 a2 a : Option Addr) (c1 c2 c : Nat) (w : World), SlI w a1 n1 c1 st → SlI w a2 n2 c2 cols → SlI w a n c xs → Calls Tryz.prog 30 #[.int .i64 k, patV rows width a1 n1 c1 a2 n2 c2, .slice a n c] w fun e w' => FaP L er w w' e
theorem faL_eq {ok : Bool} {o : Option (Nat × Nat)} {Lf Lp Lt : List Int} (h1 : o = none → Lf = Lt) (h2 : ∀ p, o = some p → Lf = Lp) : (if ok = true then Lf else []) = faL ok o Lp Lt := by
  cases ok with
  | false => rfl
  | true =>
    cases o with
    | none => exact h1 rfl
    | some p => exact h2 p rfl
theorem faP_no {L : List Int} {er : Int} {w w' : World} {e : Ending} (h : e = .returned (.tuple #[.slice none 0 0, .int .i64 er]) ∧ Below w.heap.size w w') : FaP [] er w w' e := ⟨h.2, none, 0, h.1, World.ownsRow_nil _ _ _ _⟩
section
variable {k : Int} {R width n1 n2 n m : Nat} {st cols xs S C : List Int} {Q : Nat → Bool} {G G1 G2 G3 : Nat} {wd : Bool}
theorem chT_of {ok : Bool} {o : Option (Nat × Nat)} {Lf Lp Lt : List Int} (hl : Lf.length ≤ 4) (h1 : o = none → Lf = Lt) (h2 : ∀ p, o = some p → Lf = Lp)
    (hp : ∀ (a1 a2 a : Option Addr) (c1 c2 c : Nat) W, SlI W a1 n1 c1 st → SlI W a2 n2 c2 cols → SlI W a n c xs → Calls Tryz.prog 14 #[.int .i64 k, patV (R : Int) (width : Int) a1 n1 c1 a2 n2 c2, .slice a n c] W fun e w' => FaP (if ok = true then Lf else []) (faE ok) W w' e)
    (hw : ∀ (a1 a2 a : Option Addr) (c1 c2 c : Nat) W, SlI W a1 n1 c1 st → SlI W a2 n2 c2 cols → SlI W a n c xs → Calls Tryz.prog 30 #[.int .i64 k, patV (R : Int) (width : Int) a1 n1 c1 a2 n2 c2, .slice a n c] W fun e w' => FaP (faL ok o Lp Lt) (faE ok) W w' e) :
    ChT k (R : Int) (width : Int) n1 n2 n st cols xs (if ok = true then Lf else []) (faE ok) := by
  refine ⟨?_, hp, ?_⟩
  · cases ok
    · simp
    · exact hl
  · rw [faL_eq h1 h2]
    exact hw
theorem adG_lt : ∀ u v, adG S C m u v → u < m ∧ v < m := fun u v h => ⟨h.1, h.2.1⟩
theorem chT_pair (hk2 : (k == 2) = false) (hk3 : (k == 3) = false) (hk4 : (k == 4) = false) (hk5 : (k == 5) = false) (hb1 : n1 ≤ 17592186044000) (hb2 : n2 ≤ 17592186044000) (hn : n ≤ 17592186044000) (hm : MayP (R : Int) (width : Int) st cols) (h : KdY k R width n1 n2 st cols m S C Q G 92 G2 G3 wd) (o : Option (Nat × Nat)) (ho : PrO (adG S C m) (fun i => xs.getD i 0) o) : ChT k (R : Int) (width : Int) n1 n2 n st cols xs (if tb (n = m ∧ MayC xs n) = true then prL o else []) (faE (tb (n = m ∧ MayC xs n))) := by
  refine chT_of (ok := tb (n = m ∧ MayC xs n)) (o := o) (Lf := prL o) (Lp := prL o) (Lt := []) (prL_len o) (fun e => by rw [e]; rfl) (fun p e => rfl) (fun a1 a2 a c1 c2 c W g1 g2 g3 => ?_) (fun a1 a2 a c1 c2 c W g1 g2 g3 => ?_)
  · exact cFault_pair k G G2 G3 wd R width m S C a n c xs a1 a2 n1 c1 n2 c2 st cols W g1 g2 g3 hn h.sl h.cl h.may _ tb_iff (prL o) (fun hnm hmc x d y z W' s1 s2 s3 s4 s5 => by
      subst hnm
      exact cpair_any _ _ _ _ wd R width a1 n1 c1 a2 n2 c2 n x S.length d y C.length z S C a c xs W' s1 s2 s5 h.sl h.cl h.may o ho) (fun W' => h.task a1 a2 c1 c2 W')
  · refine wFault_yes k false false hk4 hk5 R width m Q (adG S C m) h.hQ adG_lt a n c xs a1 a2 n1 c1 n2 c2 st cols W g1 g2 g3 hn h.m8 _ tb_iff o ho (prL o) [] (fun u v e hu hv W' s1 s2 => ?_) (fun e => by cases e) (fun _ e => by cases e) (fun _ _ => rfl) (fun W' => h.thg a1 a2 c1 c2 W')
    subst e
    exact wwhere_off k hk2 hk3 R width a1 a2 n1 c1 n2 c2 st cols u v W' s1 s2 (by omega) (by omega) hm
theorem chT_star (hk2 : (k == 2) = false) (hk3 : (k == 3) = false) (hk4 : (k == 4) = true) (hb1 : n1 ≤ 17592186044000) (hb2 : n2 ≤ 17592186044000) (hn : n ≤ 17592186044000) (hm : MayP (R : Int) (width : Int) st cols) (h : KdY k R width n1 n2 st cols m S C Q G 101 G2 G3 wd) (o : Option (Nat × Nat)) (ho : PrO (adG S C m) (fun i => xs.getD i 0) o) (q : Option (Nat × Nat × Nat × Nat)) (hq : PaO (adG S C m) (fun i => xs.getD i 0) q) : ChT k (R : Int) (width : Int) n1 n2 n st cols xs (if tb (n = m ∧ MayC xs n) = true then stL o q else []) (faE (tb (n = m ∧ MayC xs n))) := by
  refine chT_of (ok := tb (n = m ∧ MayC xs n)) (o := o) (Lf := stL o q) (Lp := prL o) (Lt := paL q) (stL_len o q) (fun e => by rw [e]; rfl) (fun p e => by rw [e]; rfl) (fun a1 a2 a c1 c2 c W g1 g2 g3 => ?_) (fun a1 a2 a c1 c2 c W g1 g2 g3 => ?_)
  · exact cFault_star k G G2 G3 wd R width m S C a n c xs a1 a2 n1 c1 n2 c2 st cols W g1 g2 g3 hn h.sl h.cl h.may _ tb_iff (stL o q) (fun hnm hmc x d y z W' s1 s2 s3 s4 s5 => by
      subst hnm
      exact cstarF_any _ _ _ _ wd R width a1 n1 c1 a2 n2 c2 n x S.length d y C.length z S C a c xs W' s1 s2 s5 h.sl h.cl h.may o ho q hq) (fun W' => h.task a1 a2 c1 c2 W')
  · refine wFault_yes k true (k == 5) hk4 rfl R width m Q (adG S C m) h.hQ adG_lt a n c xs a1 a2 n1 c1 n2 c2 st cols W g1 g2 g3 hn h.m8 _ tb_iff o ho (prL o) (paL q) (fun u v e hu hv W' s1 s2 => ?_) (fun _ hnm gb W' r1 r2 => ?_) (fun e => by cases e) (fun e => by cases e) (fun W' => h.thg a1 a2 c1 c2 W')
    · subst e
      exact wwhere_off k hk2 hk3 R width a1 a2 n1 c1 n2 c2 st cols u v W' s1 s2 (by omega) (by omega) hm
    · subst hnm
      exact wpath_any n gb (n * n) Q (adG S C n) h.hQ adG_lt a c xs W' h.m8 rfl r1 r2 q hq
theorem chT_acyc (hk2 : (k == 2) = false) (hk3 : (k == 3) = false) (hk4 : (k == 4) = false) (hk5 : (k == 5) = true) (hb1 : n1 ≤ 17592186044000) (hb2 : n2 ≤ 17592186044000) (hn : n ≤ 17592186044000) (hm : MayP (R : Int) (width : Int) st cols) (h : KdY k R width n1 n2 st cols m S C Q G 103 G2 G3 wd) (o : Option (Nat × Nat)) (ho : PrO (adG S C m) (fun i => xs.getD i 0) o) (q : Option (Int × Int)) (hq : BsI (CiP S C m xs) q) : ChT k (R : Int) (width : Int) n1 n2 n st cols xs (if tb (n = m ∧ MayC xs n) = true then cfL o q else []) (faE (tb (n = m ∧ MayC xs n))) := by
  refine chT_of (ok := tb (n = m ∧ MayC xs n)) (o := o) (Lf := cfL o q) (Lp := prL o) (Lt := ciL q) (cfL_len o q) (fun e => by rw [e]; rfl) (fun p e => by rw [e]; rfl) (fun a1 a2 a c1 c2 c W g1 g2 g3 => ?_) (fun a1 a2 a c1 c2 c W g1 g2 g3 => ?_)
  · exact cFault_circ k G G2 G3 wd R width m S C a n c xs a1 a2 n1 c1 n2 c2 st cols W g1 g2 g3 hn h.sl h.cl h.may _ tb_iff (cfL o q) (fun hnm hmc x d y z W' s1 s2 s3 s4 s5 => by
      subst hnm
      exact ccircF_any _ _ _ _ wd R width a1 n1 c1 a2 n2 c2 n x S.length d y C.length z S C a c xs W' s1 s2 s5 h.sl h.cl h.may h.gra o ho q hq) (fun W' => h.task a1 a2 c1 c2 W')
  · refine wFault_yes k false true hk4 hk5 R width m Q (adG S C m) h.hQ adG_lt a n c xs a1 a2 n1 c1 n2 c2 st cols W g1 g2 g3 hn h.m8 _ tb_iff o ho (prL o) (ciL q) (fun u v e hu hv W' s1 s2 => ?_) (fun e => by cases e) (fun _ _ hnm gb W' r1 r2 => ?_) (fun _ e => by cases e) (fun W' => h.thg a1 a2 c1 c2 W')
    · subst e
      exact wwhere_off k hk2 hk3 R width a1 a2 n1 c1 n2 c2 st cols u v W' s1 s2 (by omega) (by omega) hm
    · subst hnm
      exact wcircle_any n gb (n * n) Q (adG S C n) h.hQ adG_lt a c xs W' h.m8 rfl r1 r2 q (bsi_cqp h.hQ hq)
end
section
variable {R width n1 n2 n : Nat} {st cols xs : List Int} {Q : Nat → Bool} {G G2 G3 : Nat} {wd : Bool}
end
theorem paO_none {ad : Nat → Nat → Prop} {cs : Nat → Int} {q : Option (Nat × Nat × Nat × Nat)} (h : PaO ad cs q) : q = none ↔ ∀ a b c d, ¬ Pa4 ad cs a b c d := by
  cases q with
  | none => exact ⟨fun _ => h, fun _ => rfl⟩
  | some p => exact ⟨fun e => (by cases e), fun k => absurd h.1 (k _ _ _ _)⟩
theorem bsI_none {P : Int → Int → Prop} {q : Option (Int × Int)} (h : BsI P q) : q = none ↔ ∀ c d, ¬ P c d := by
  cases q with
  | none => exact ⟨fun _ => h, fun _ => rfl⟩
  | some p => exact ⟨fun e => (by cases e), fun k => absurd h.1 (k _ _)⟩
theorem SmP.split {Gd : (Nat → Nat) → Prop} {m : Nat} {e : Nat → Nat} {v k : Nat} (hv : v < m) : SmP Gd m e v k ↔ ∃ y, y < k ∧ y ≤ usE e v ∧ SmP Gd m (upE e v y) (v + 1) k := by
  constructor
  · rintro ⟨f, h1, h2, h3⟩
    have h := h2 v (Nat.le_refl _) hv
    rw [h1.us] at h
    refine ⟨f v, h.1, h.2, f, fun i hi => ?_, fun j hj hjm => h2 j (by omega) hjm, h3⟩
    by_cases e2 : i = v
    · subst e2; rw [upE_same]
    · rw [upE_other _ _ e2]; exact h1 i (by omega)
  · rintro ⟨y, hy, hu, f, h1, h2, h3⟩
    have ag : AgE f e v := fun i hi => by rw [h1 i (by omega), upE_other _ _ (by omega)]
    refine ⟨f, ag, fun j hj hjm => ?_, h3⟩
    by_cases e2 : j = v
    · subst e2
      rw [h1 j (by omega), upE_same, ag.us]
      exact ⟨hy, hu⟩
    · exact h2 j (by omega) hjm
def DsP (Gd : (Nat → Nat) → Prop) (m d : Nat) : Prop := (d < m ∧ SmP Gd m (fun _ => 0) 0 d ∧ ∀ j, j < d → ¬ SmP Gd m (fun _ => 0) 0 j) ∨ (d = m ∧ ∀ k, k < m → ¬ SmP Gd m (fun _ => 0) 0 k)
section
variable {S C : List Int} {m : Nat} {Q : Nat → Bool}
end
section
variable {k : Int} {R width n1 n2 m : Nat} {st cols S C : List Int} {Q : Nat → Bool} {G G1 G2 G3 : Nat} {wd : Bool}
theorem dsP_ex (Gd : (Nat → Nat) → Prop) (m : Nat) : ∃ d, DsP Gd m d := by
  by_cases h : ∃ k, k < m ∧ SmP Gd m (fun _ => 0) 0 k
  · obtain ⟨k, hk, hs⟩ := h
    obtain ⟨y, h1, h2, h3⟩ := least_ex (B := fun j => ¬ SmP Gd m (fun _ => 0) 0 j) (k := k) (fun hb => hb hs)
    exact ⟨y, .inl ⟨by omega, Classical.byContradiction h2, h3⟩⟩
  · exact ⟨m, .inr ⟨rfl, fun k hk hs => h ⟨k, hk, hs⟩⟩⟩
end
theorem fwP_of_ds {bar : (Nat → Int) → Nat → Nat → Prop} {Gd : (Nat → Nat) → Prop} {m d : Nat} (hG : ∀ f, (∀ j, j < m → f j ≤ usE f j) → (Gd f ↔ ∀ j, j < m → ¬ bar (cuE f j) j (f j))) (hd : DsP Gd m d) : FwP bar m (fun _ => 0) 0 m d := by
  have hs : ∀ f, VdE bar m f 0 → ∀ k, usE f m ≤ k → SmP Gd m (fun _ => 0) 0 k := fun f hf k hk => by
    have h1 : ∀ j, j < m → f j ≤ usE f j := fun j hj => (hf j (Nat.zero_le _) hj).1
    exact ⟨f, fun i hi => by omega, fun j _ hj => ⟨by have := usE_at f hj; omega, h1 j hj⟩, (hG f h1).2 (fun j hj => (hf j (Nat.zero_le _) hj).2)⟩
  have hle : d ≤ m := by rcases hd with h | h <;> omega
  have hno : ∀ k, k < d → ¬ SmP Gd m (fun _ => 0) 0 k := fun k hk => by
    rcases hd with ⟨_, _, h⟩ | ⟨h1, h2⟩
    · exact h k hk
    · exact h2 k (by omega)
  refine ⟨hle, ?_, fun f _ hf _ => ?_⟩
  · rcases hd with ⟨h1, ⟨f, _, f2, f3⟩, h3⟩ | ⟨h1, _⟩
    · have g1 : ∀ j, j < m → f j ≤ usE f j := fun j hj => (f2 j (Nat.zero_le _) hj).2
      have hV : VdE bar m f 0 := fun j _ hj => ⟨g1 j hj, (hG f g1).1 f3 j hj⟩
      have hu : usE f m ≤ d := usE_le f (fun j hj => (f2 j (Nat.zero_le _) hj).1)
      refine .inr ⟨f, fun i hi => by omega, hV, ?_⟩
      rcases Nat.lt_or_ge (usE f m) d with c | c
      · exact absurd (hs f hV _ (Nat.le_refl _)) (hno _ c)
      · omega
    · exact .inl h1
  · rcases Nat.lt_or_ge (usE f m) d with c | c
    · exact absurd (hs f hf _ (Nat.le_refl _)) (hno _ c)
    · exact c
section
variable {k : Int} {R width n1 n2 m : Nat} {st cols S C : List Int}
variable {Q : Nat → Bool} {G G1 G3 : Nat} {wd : Bool}
theorem all_nn {xs : List Int} {cs : Nat → Int} (ho : OrdTo xs m m) (h : ∀ j, j < m → 0 ≤ cs (xs.getD j 0).toNat) : ∀ i, i < m → 0 ≤ cs i := fun i hi => by
  obtain ⟨j, h1, h2⟩ := ord_at ho hi
  have := h j h1
  rwa [h2] at this
end

set_option maxRecDepth 100000 in
set_option maxHeartbeats 16000000 in
theorem ctask_star (R : Nat) (a1 a2 : Option Addr) (n1 c1 n2 c2 : Nat) (st cols : List Int) (w : World) (h1 : SlI w a1 n1 c1 st) (h2 : SlI w a2 n2 c2 cols) (hb1 : n1 ≤ 17592186044000) (hb2 : n2 ≤ 17592186044000) (hm : MayP (R : Int) (R : Int) st cols) (hg : GraP st cols R R) :
    Calls Tryz.prog 34 #[.int .i64 4, patV (R : Int) (R : Int) a1 n1 c1 a2 n2 c2] w fun e w' => e = .returned (.tuple #[.agg #[(.func (.func 49) #[] #[]), (.func (.func 101) #[] #[]), (.func (.func 102) #[] #[]), (.func (.func 94) #[] #[]), (.bool true), .int .i64 (R : Int), .int .i64 (R : Int), .slice a1 n1 c1, .slice a2 n2 c2, .int .i64 (R : Int), .int .i64 (R : Int), .slice a1 n1 c1, .slice a2 n2 c2], .int .i64 0]) ∧ Below w.heap.size w w' := by
  obtain ⟨wb, hwb⟩ : ∃ x, w.alloc (.cells #[.int .i64 (R : Int), .int .i64 (R : Int), .slice a1 n1 c1, .slice a2 n2 c2] 25) = x := ⟨_, rfl⟩
  have bb : Below w.heap.size w wb := by rw [← hwb]; exact (Below.refl _ _).alloc (Nat.le_refl _) _
  have hT := BoxP.made w #[.int .i64 (R : Int), .int .i64 (R : Int), .slice a1 n1 c1, .slice a2 n2 c2] 25
  rw [hwb] at hT
  have hO0 := BoxP.made wb #[Value.nilFunc, Value.nilFunc, Value.nilFunc, Value.nilFunc, .bool false, .int .i64 0, .int .i64 0, .slice none 0 0, .slice none 0 0, .int .i64 0, .int .i64 0, .slice none 0 0, .slice none 0 0] 80
  obtain ⟨wo, hwo⟩ : ∃ x, wb.alloc (.cells #[Value.nilFunc, Value.nilFunc, Value.nilFunc, Value.nilFunc, .bool false, .int .i64 0, .int .i64 0, .slice none 0 0, .slice none 0 0, .int .i64 0, .int .i64 0, .slice none 0 0, .slice none 0 0] 80) = x := ⟨_, rfl⟩
  have bo : Below wb.heap.size wb wo := by rw [← hwo]; exact (Below.refl _ _).alloc (Nat.le_refl _) _
  rw [hwo] at hO0
  have hT1 := hT.below bo
  have p0 := (hT1.all 0 _ rfl).1
  have p1 := (hT1.all 1 _ rfl).1
  have p2 := (hT1.all 2 _ rfl).1
  have p3 := (hT1.all 3 _ rfl).1
  have bw := bb.trans (bo.mono bb.size)
  have KM := hide (smay_any (R : Int) (R : Int) a1 a2 n1 c1 n2 c2 st cols wo (h1.below bw) (h2.below bw) (by omega) (by omega))
  unfold patV at KM
  have HT := hide hT1
  have HO := hide hO0
  have HB := hide bw
  have HWB := hide bb.size
  have HS := hide (And.intro h1 h2)
  have HM := hide hm
  have HG := hide hg
  have HTQ := hide (show TruQ true (MayP (R : Int) (R : Int) st cols) from ⟨fun _ => hm, fun _ => rfl⟩)
  clear hT hT1 hO0 bb bo bw h1 h2 hm hg
  unfold patV
  go_enter Tryz.func34, Tryz.ntmps34
  go_wp2_with fail
  refine (unhide KM).mono ?_
  intro e w2 hq
  obtain ⟨rfl, b2⟩ := hq.known (unhide HTQ)
  have hT2 := (unhide HT).below b2
  have HT2 := hide hT2
  have HO2 := hide ((unhide HO).below b2)
  have HB2 := hide ((unhide HB).trans (b2.mono (unhide HB).size))
  clear hq KM b2 hT2 p0 p1 p2 p3
  go_wp2_with fail
  refine (crules_star w2).mono ?_
  rintro _ w3 ⟨rfl, b3⟩
  try dsimp only
  repeat ((fail_if_success (with_reducible (show Code.wp _ _ _ _ (World.alloc w3 (Obj.cells #[_, _, _, _, .bool true] _))))); (first | go_values | go_skip | go_guarded | go_step | go_upon | go_back))
  have hR := BoxP.made w3 #[(.func (.func 49) #[] #[]), (.func (.func 101) #[] #[]), (.func (.func 102) #[] #[]), (.func (.func 94) #[] #[]), (.bool true)] 78
  have br : Below w3.heap.size w3 (w3.alloc (.cells #[(.func (.func 49) #[] #[]), (.func (.func 101) #[] #[]), (.func (.func 102) #[] #[]), (.func (.func 94) #[] #[]), (.bool true)] 78)) := (Below.refl _ _).alloc (Nat.le_refl _) _
  have hT3 := ((unhide HT2).below b3).below br
  have HO3 := hide (((unhide HO2).below b3).below br)
  have HB3 := hide (((unhide HB2).trans (b3.mono (unhide HB2).size)).trans (br.mono (Nat.le_trans (unhide HB2).size b3.size)))
  clear b3 br
  generalize w3.alloc (.cells #[(.func (.func 49) #[] #[]), (.func (.func 101) #[] #[]), (.func (.func 102) #[] #[]), (.func (.func 94) #[] #[]), (.bool true)] 78) = wr at *
  have s0 := (hR.all 0 _ rfl).1
  have q0 := (hT3.all 0 _ rfl).1
  have q1 := (hT3.all 1 _ rfl).1
  have q2 := (hT3.all 2 _ rfl).1
  have q3 := (hT3.all 3 _ rfl).1
  have HR := hide hR
  have HT3 := hide hT3
  clear hR hT3
  go_wp2_with fail
  have KI := hide (citself_yes R R a1 a2 n1 c1 n2 c2 st cols wr ((unhide HS).1.below (unhide HB3)) ((unhide HS).2.below (unhide HB3)) hb1 hb2 (unhide HM) (unhide HG))
  unfold patV at KI
  refine (unhide KI).mono ?_
  rintro _ w4 ⟨rfl, b4⟩
  have hR4 := (unhide HR).below b4
  have hT4 := (unhide HT3).below b4
  have hO4 := (unhide HO3).below b4
  have bw4 := (unhide HB3).trans (b4.mono (unhide HB3).size)
  clear KI b4 s0 q0 q1 q2 q3
  try dsimp only
  repeat ((fail_if_success (with_reducible (show Code.wp _ _ _ _ (World.alloc w4 (Obj.cells #[_, _, _, .slice a2 n2 c2] _))))); (first | go_values | go_skip | go_guarded | go_step | go_upon | go_back))
  have hG := BoxP.made w4 #[.int .i64 (R : Int), .int .i64 (R : Int), .slice a1 n1 c1, .slice a2 n2 c2] 25
  have bg : Below w4.heap.size w4 (w4.alloc (.cells #[.int .i64 (R : Int), .int .i64 (R : Int), .slice a1 n1 c1, .slice a2 n2 c2] 25)) := (Below.refl _ _).alloc (Nat.le_refl _) _
  have hR5 := hR4.below bg
  have hT5 := hT4.below bg
  have hO5 := hO4.below bg
  have bw5 := bw4.trans (bg.mono bw4.size)
  clear bg bw4 hR4 hT4 hO4
  generalize w4.alloc (.cells #[.int .i64 (R : Int), .int .i64 (R : Int), .slice a1 n1 c1, .slice a2 n2 c2] 25) = wg at *
  have s0 := (hR5.all 0 _ rfl).1
  have s1 := (hR5.all 1 _ rfl).1
  have s2 := (hR5.all 2 _ rfl).1
  have s3 := (hR5.all 3 _ rfl).1
  have s4 := (hR5.all 4 _ rfl).1
  have q0 := (hT5.all 0 _ rfl).1
  have q1 := (hT5.all 1 _ rfl).1
  have q2 := (hT5.all 2 _ rfl).1
  have q3 := (hT5.all 3 _ rfl).1
  have g0 := (hG.all 0 _ rfl).1
  have g1 := (hG.all 1 _ rfl).1
  have g2 := (hG.all 2 _ rfl).1
  have g3 := (hG.all 3 _ rfl).1
  have o0 := (hO5.all 0 _ rfl).1
  have r0 := (hO5.all 0 _ rfl).2
  have o1 := (hO5.all 1 _ rfl).1
  have r1 := (hO5.all 1 _ rfl).2
  have o2 := (hO5.all 2 _ rfl).1
  have r2 := (hO5.all 2 _ rfl).2
  have o3 := (hO5.all 3 _ rfl).1
  have r3 := (hO5.all 3 _ rfl).2
  have o4 := (hO5.all 4 _ rfl).1
  have r4 := (hO5.all 4 _ rfl).2
  have o5 := (hO5.all 5 _ rfl).1
  have r5 := (hO5.all 5 _ rfl).2
  have o6 := (hO5.all 6 _ rfl).1
  have r6 := (hO5.all 6 _ rfl).2
  have o7 := (hO5.all 7 _ rfl).1
  have r7 := (hO5.all 7 _ rfl).2
  have o8 := (hO5.all 8 _ rfl).1
  have r8 := (hO5.all 8 _ rfl).2
  have o9 := (hO5.all 9 _ rfl).1
  have r9 := (hO5.all 9 _ rfl).2
  have o10 := (hO5.all 10 _ rfl).1
  have r10 := (hO5.all 10 _ rfl).2
  have o11 := (hO5.all 11 _ rfl).1
  have r11 := (hO5.all 11 _ rfl).2
  have o12 := (hO5.all 12 _ rfl).1
  have r12 := (hO5.all 12 _ rfl).2
  have HO5 := hide hO5
  have HB5 := hide bw5
  clear hO5 bw5 hG hR5 hT5
  go_wp2_with fail
  have hf := ((((((((((((((unhide HO5).put 0 (.func (.func 49) #[] #[])).put 1 (.func (.func 101) #[] #[])).put 2 (.func (.func 102) #[] #[])).put 3 (.func (.func 94) #[] #[])).put 4 (.bool true)).put 5 (.int .i64 (R : Int))).put 6 (.int .i64 (R : Int))).put 7 (.slice a1 n1 c1)).put 8 (.slice a2 n2 c2)).put 9 (.int .i64 (R : Int))).put 10 (.int .i64 (R : Int))).put 11 (.slice a1 n1 c1)).put 12 (.slice a2 n2 c2))
  have t0 := (hf.all 0 _ rfl).1
  have t1 := (hf.all 1 _ rfl).1
  have t2 := (hf.all 2 _ rfl).1
  have t3 := (hf.all 3 _ rfl).1
  have t4 := (hf.all 4 _ rfl).1
  have t5 := (hf.all 5 _ rfl).1
  have t6 := (hf.all 6 _ rfl).1
  have t7 := (hf.all 7 _ rfl).1
  have t8 := (hf.all 8 _ rfl).1
  have t9 := (hf.all 9 _ rfl).1
  have t10 := (hf.all 10 _ rfl).1
  have t11 := (hf.all 11 _ rfl).1
  have t12 := (hf.all 12 _ rfl).1
  have cc : Chg (fun j => j = wb.heap.size) wg (((((((((((((wg.setCell ⟨wb.heap.size, 0, none⟩ (.func (.func 49) #[] #[])).setCell ⟨wb.heap.size, 1, none⟩ (.func (.func 101) #[] #[])).setCell ⟨wb.heap.size, 2, none⟩ (.func (.func 102) #[] #[])).setCell ⟨wb.heap.size, 3, none⟩ (.func (.func 94) #[] #[])).setCell ⟨wb.heap.size, 4, none⟩ (.bool true)).setCell ⟨wb.heap.size, 5, none⟩ (.int .i64 (R : Int))).setCell ⟨wb.heap.size, 6, none⟩ (.int .i64 (R : Int))).setCell ⟨wb.heap.size, 7, none⟩ (.slice a1 n1 c1)).setCell ⟨wb.heap.size, 8, none⟩ (.slice a2 n2 c2)).setCell ⟨wb.heap.size, 9, none⟩ (.int .i64 (R : Int))).setCell ⟨wb.heap.size, 10, none⟩ (.int .i64 (R : Int))).setCell ⟨wb.heap.size, 11, none⟩ (.slice a1 n1 c1)).setCell ⟨wb.heap.size, 12, none⟩ (.slice a2 n2 c2)) := (((((((((((((Chg.of_set (S := fun j => j = wb.heap.size) _ _ _ _ rfl).trans (Chg.of_set (S := fun j => j = wb.heap.size) _ _ _ _ rfl)).trans (Chg.of_set (S := fun j => j = wb.heap.size) _ _ _ _ rfl)).trans (Chg.of_set (S := fun j => j = wb.heap.size) _ _ _ _ rfl)).trans (Chg.of_set (S := fun j => j = wb.heap.size) _ _ _ _ rfl)).trans (Chg.of_set (S := fun j => j = wb.heap.size) _ _ _ _ rfl)).trans (Chg.of_set (S := fun j => j = wb.heap.size) _ _ _ _ rfl)).trans (Chg.of_set (S := fun j => j = wb.heap.size) _ _ _ _ rfl)).trans (Chg.of_set (S := fun j => j = wb.heap.size) _ _ _ _ rfl)).trans (Chg.of_set (S := fun j => j = wb.heap.size) _ _ _ _ rfl)).trans (Chg.of_set (S := fun j => j = wb.heap.size) _ _ _ _ rfl)).trans (Chg.of_set (S := fun j => j = wb.heap.size) _ _ _ _ rfl)).trans (Chg.of_set (S := fun j => j = wb.heap.size) _ _ _ _ rfl))
  generalize (((((((((((((wg.setCell ⟨wb.heap.size, 0, none⟩ (.func (.func 49) #[] #[])).setCell ⟨wb.heap.size, 1, none⟩ (.func (.func 101) #[] #[])).setCell ⟨wb.heap.size, 2, none⟩ (.func (.func 102) #[] #[])).setCell ⟨wb.heap.size, 3, none⟩ (.func (.func 94) #[] #[])).setCell ⟨wb.heap.size, 4, none⟩ (.bool true)).setCell ⟨wb.heap.size, 5, none⟩ (.int .i64 (R : Int))).setCell ⟨wb.heap.size, 6, none⟩ (.int .i64 (R : Int))).setCell ⟨wb.heap.size, 7, none⟩ (.slice a1 n1 c1)).setCell ⟨wb.heap.size, 8, none⟩ (.slice a2 n2 c2)).setCell ⟨wb.heap.size, 9, none⟩ (.int .i64 (R : Int))).setCell ⟨wb.heap.size, 10, none⟩ (.int .i64 (R : Int))).setCell ⟨wb.heap.size, 11, none⟩ (.slice a1 n1 c1)).setCell ⟨wb.heap.size, 12, none⟩ (.slice a2 n2 c2)) = wf at *
  refine bodyPost_ret (by simp [results, Tryz.results34, go_sem, t0, t1, t2, t3, t4, t5, t6, t7, t8, t9, t10, t11, t12]; try rfl) rfl ?_
  exact ⟨rfl, (unhide HB5).trans (cc.below (unhide HB5).size (fun j hj e => by have := unhide HWB; omega))⟩
end Go.Proofs.YtgjokididdffhaaGreat
