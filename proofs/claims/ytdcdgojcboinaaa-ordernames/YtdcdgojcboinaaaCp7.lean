/-
  ORDERS: buckets.shift: contract.
-/
import Derived.Test.YtdcdgojcboinaaaCp6
import Derived.Test.YtdcdgojcboinaaaSi2
namespace Go.Proofs.Ytdcdgojcboinaaa
open Go.Shelf Go.RowKit Go.Deep
set_option linter.unusedVariables false
variable {A : Nat → Prop}

theorem BkR.sli {W : World} {t : Nat} {v : Value} {xs : List Int} (h : BkR A W t v xs) : ∃ a cap, v = .slice a xs.length cap ∧ SlI W a xs.length cap xs := by
  rcases h with ⟨e, e2⟩ | ⟨g, o, cap, e, _, hc⟩
  · subst e2; exact ⟨none, 0, e, SlI.nil _⟩
  · exact ⟨_, cap, e, rfl, hc.len, hc.big, .inr ⟨g, o, rfl, fun i hi => hc.val i hi⟩⟩
set_option maxRecDepth 20000 in
set_option maxHeartbeats 8000000 in
/-- buckets.shift of a vertex that was taken. -/
theorem oshift_gone (t X g0 gr gc gk gg n v : Nat) (by' : Int) (f : Nat → Value) (br : Nat → Nat) (rk : Nat → Int) (ct : Nat → Nat) (xs : Nat → List Int) (gone : Nat → Bool) (w : World) (h : BuS A w t X g0 gr gc gk gg n f br rk ct xs gone) (hn : n ≤ 128) (hv : v < n) (hg : gone v = true) :
    Calls Try.prog 43 #[.pointer (some ⟨X, 0, none⟩), .int .i64 (v : Int), .int .i64 by'] w fun e w' => e = .returned (.tuple #[]) ∧ BuP A t X g0 gr gc gk gg n br rk ct xs gone w w' := by
  have hv' : (v : Int) < (n : Int) := by omega
  have p4 := (h.box.all 4 _ rfl).1
  have s1 := (h.gn v hv).1
  simp only [hg] at s1
  have HH := hide h
  clear h hg
  go_enter Try.func43, Try.ntmps43
  go_wp2_with fail
  all_goals (try go_quiet (fail))
  all_goals (try go_wp2_with fail)
  all_goals refine bodyPost_ret (by simp [results, Try.results43, go_sem]; try rfl) rfl ?_
  all_goals exact ⟨rfl, ⟨_, by first | exact unhide HH | exact (unhide HH).below (bel_drewN (Below.refl _ _) _)⟩, by first | exact Chg.refl _ _ | exact Chg.of_drewN _ _⟩
set_option maxRecDepth 20000 in
set_option maxHeartbeats 8000000 in
/-- buckets.shift of a vertex that is left. -/
theorem oshift_any (t X g0 gr gc gk gg n v c c2 r i j : Nat) (by' : Int) (f : Nat → Value) (br : Nat → Nat) (rk : Nat → Int) (ct : Nat → Nat) (xs : Nat → List Int) (gone : Nat → Bool) (w : World) (h : BuS A w t X g0 gr gc gk gg n f br rk ct xs gone) (hn : n ≤ 128) (hv : v < n) (hg : gone v = false) (hct : ct v = c) (hc : c < n) (hc2 : (c2 : Int) = (c : Int) + by') (hc2n : c2 < n) (hne : c ≠ c2) (hrk : rk v = (r : Int)) (hlen : ∀ q, q < n → (xs q).length ≤ 1000)
    (hi : i < (xs c).length) (hu1 : UpS (xs c) (xs c).length) (hi2 : BsP (xs c) (xs c).length (r : Int) i) (hir : HasX (xs c) (xs c).length (r : Int)) (hu2 : UpS (xs c2) (xs c2).length) (hj2 : BsP (xs c2) (xs c2).length (r : Int) j) :
    Calls Try.prog 43 #[.pointer (some ⟨X, 0, none⟩), .int .i64 (v : Int), .int .i64 by'] w fun e w' => e = .returned (.tuple #[]) ∧ BuP A t X g0 gr gc gk gg n br rk (fun u => if u = v then c2 else ct u) (fun q => if q = c2 then putL (xs c2) j (r : Int) else if q = c then (xs c).eraseIdx i else xs q) gone w w' := by
  have hv' : (v : Int) < (n : Int) := by omega
  have hc' : (c : Int) < (n : Int) := by omega
  have hc2' : (c2 : Int) < (n : Int) := by omega
  have p1 := (h.box.all 1 _ rfl).1
  have p2 := (h.box.all 2 _ rfl).1
  have p3 := (h.box.all 3 _ rfl).1
  have p4 := (h.box.all 4 _ rfl).1
  have s1 := (h.gn v hv).1
  simp only [hg] at s1
  have s2 := (h.rc v hv).1
  simp only [hct] at s2
  have s3 := (h.rr v hv).1
  simp only [hrk] at s3
  have HRK := hide hrk
  have HCT := hide hct
  have he2 : (c : Int) + by' = (c2 : Int) := by omega
  have hw2 : IntKind.i64.wrap ((c : Int) + by') = (c2 : Int) := by rw [← hc2, IntKind.wrap_i64]; omega
  obtain ⟨ga, oa, capa, hfa, hta, hba⟩ : ∃ g o cap, f c = .slice (some ⟨g, o, none⟩) (xs c).length cap ∧ (t ≤ g ∧ ¬ A g) ∧ BkC w g o cap (xs c) := by
    rcases h.bk.own c hc with ⟨_, e⟩ | h
    · rw [e] at hi; simp at hi
    · exact h
  have lk := (h.bk.row c hc).1
  have lf := (h.bk.row c hc).2
  rw [hfa] at lk
  obtain ⟨la, hla⟩ : ∃ la, (xs c).length = la := ⟨_, rfl⟩
  have hsl : SlI w (some ⟨ga, oa, none⟩) la capa (xs c) := ⟨hla, hla ▸ hba.len, hba.big, .inr ⟨ga, oa, rfl, fun i hi => hba.val i hi⟩⟩
  rw [hla] at lk hfa hi hu1 hi2 hir
  have hla2 : la ≤ 1000 := by rw [← hla]; exact hlen c hc
  have K1 := hide (fun (W : World) (d : Dr w W) => bsearch_known (some ⟨ga, oa, none⟩) la capa (xs c) (r : Int) W (hsl.below d.below) (by omega) hu1 true ⟨fun _ => hir, fun _ => rfl⟩ i hi2)
  have HH := hide h
  have HLEN := hide hlen
  have HU := hide (And.intro hu2 hj2)
  have HFA := hide (And.intro hfa (And.intro hla hta))
  clear h hg hsl hba hfa hla hta hu1 hi2 hir hu2 hj2 hlen hct hrk hc2
  go_enter Try.func43, Try.ntmps43
  go_wp2_with fail
  go_quiet (fail)
  have HH1 := hide ((unhide HH).below (bel_drewN (Below.refl _ _) nq))
  have HC1 := hide (show Chg (fun j => j = gc ∨ j = gk ∨ j = gg ∨ (t ≤ j ∧ ¬ A j)) w (w.drewN nq) from Chg.of_drewN _ nq)
  have K2 := hide (fun (W : World) (d : Dr (w.drewN nq) W) => unhide K1 W (Dr.trans ⟨_, rfl⟩ d))
  clear K1 HH p1 p2 p3 p4 s1 s2 s3 lk lf
  generalize w.drewN nq = w1 at *
  have p1 := ((unhide HH1).box.all 1 _ rfl).1
  have s3 : w1.cell? ⟨gr, v, none⟩ = some (.int .i64 (r : Int)) := by have := ((unhide HH1).rr v hv).1; simp only [unhide HRK] at this; exact this
  have lk := ((unhide HH1).bk.row c hc).1
  rw [(unhide HFA).1] at lk
  go_wp2_with fail
  go_quiet ((go_at_call 52; exact Calls.quiet_of (unhide K2 _ ⟨_, rfl⟩)))
  have HH2 := hide ((unhide HH1).below (bel_drewN (Below.refl _ _) nq))
  have HC2 := hide (show Chg (fun j => j = gc ∨ j = gk ∨ j = gg ∨ (t ≤ j ∧ ¬ A j)) w (w1.drewN nq) from (unhide HC1).trans (Chg.of_drewN _ nq))
  clear K2 HH1 HC1 p1 s3 lk
  generalize w1.drewN nq = w2 at *
  obtain ⟨hbc, hla3⟩ : BkC w2 ga oa capa (xs c) ∧ (xs c).length = la := by
    refine ⟨?_, (unhide HFA).2.1⟩
    rcases (unhide HH2).bk.own c hc with ⟨e, _⟩ | ⟨g, o, cap, e, _, hb⟩
    · rw [(unhide HFA).1] at e; cases e
    · rw [(unhide HFA).1] at e
      obtain ⟨⟨rfl, rfl⟩, _, rfl⟩ : (ga = g ∧ oa = o) ∧ la = (xs c).length ∧ capa = cap := by simpa using e
      exact hb
  have KD := odel_any ga oa capa i (xs c) w2 hbc (by omega)
  rw [hla3, show ((i + 1 : Nat) : Int) = (i : Int) + 1 from by omega] at KD
  have HKD := hide KD
  have lk := ((unhide HH2).bk.row c hc).1
  have lf := ((unhide HH2).bk.row c hc).2
  rw [(unhide HFA).1] at lk
  clear KD hbc hla3
  go_wp2_with fail
  refine (unhide HKD).mono ?_
  rintro _ w3 ⟨rfl, hb3, hC3⟩
  have hgka : gk ≠ ga := by have := (unhide HFA).2.2; have := (unhide HH2).lt; omega
  have lk3 := hC3.cell hgka lk
  have lf3 : w3.frozen? ⟨gk, c, none⟩ = false := by rw [hC3.frzP (Nat.lt_of_lt_of_le (unhide HH2).lt.2.2.1 (unhide HH2).ht) hgka]; exact lf
  have hlen3 : ((xs c).eraseIdx i).length = la - 1 := by rw [List.length_eraseIdx_of_lt (by rw [(unhide HFA).2.1]; exact hi), (unhide HFA).2.1]
  have HN0 := BnI.upd (v := .slice (some ⟨ga, oa, none⟩) (la - 1) capa) (ys := (xs c).eraseIdx i) (unhide HH2).bk hc (unhide HH2).lt.2.2.1 (unhide HH2).ht (hC3.mono (fun j _ e => by rw [(unhide HFA).1, e]; rfl)) (.inr ⟨ga, oa, capa, by rw [hlen3], (unhide HFA).2.2, hb3⟩) (fun j hj => .inl (by rw [(unhide HFA).1]; simpa [Value.ownBlock] using hj))
  have hne2 := (unhide HH2).ne
  have hlt2 := (unhide HH2).lt
  have HX4 := hide ((unhide HH2).box.chg HN0.2 (show ¬ (X = gk ∨ (t ≤ X ∧ ¬ A X)) by rintro (h | h) <;> omega))
  have HR0 := hide ((unhide HH2).r0.chg HN0.2 (show ¬ (g0 = gk ∨ (t ≤ g0 ∧ ¬ A g0)) by rintro (h | h) <;> omega))
  have HRR := hide ((unhide HH2).rr.chg HN0.2 (show ¬ (gr = gk ∨ (t ≤ gr ∧ ¬ A gr)) by rintro (h | h) <;> omega))
  have HRC := hide ((unhide HH2).rc.chg HN0.2 (show ¬ (gc = gk ∨ (t ≤ gc ∧ ¬ A gc)) by rintro (h | h) <;> omega))
  have HGN := hide ((unhide HH2).gn.chg HN0.2 (show ¬ (gg = gk ∨ (t ≤ gg ∧ ¬ A gg)) by rintro (h | h) <;> omega))
  have HBN := hide HN0.1
  have HC4 := hide ((unhide HC2).trans (HN0.2.mono (fun j _ e => by rcases e with e | e; exact .inr (.inl e); exact .inr (.inr (.inr e)))))
  have HT4 := hide (Nat.le_trans (unhide HH2).ht HN0.2.size)
  have HA4 := hide (fun q (hq : A q) => Nat.lt_of_lt_of_le ((unhide HH2).hA q hq) HN0.2.size)
  have HNL := hide (And.intro hne2 hlt2)
  clear HKD hb3 hC3 lk lf HN0 HH2 HC2 hne2 hlt2 hgka hlen3
  go_wp2_with fail
  clear lk3 lf3
  generalize w3.setCell ⟨gk, c, none⟩ (.slice (some ⟨ga, oa, none⟩) (la - 1) capa) = w4 at *
  have hown := (unhide HBN).own c2 hc2n
  simp only [if_neg (Ne.symm hne)] at hown
  obtain ⟨ab, capb, hfb, hsb⟩ := hown.sli
  have lk := ((unhide HBN).row c2 hc2n).1
  simp only [if_neg (Ne.symm hne)] at lk
  rw [hfb] at lk
  obtain ⟨lb, hlb⟩ : ∃ lb, (xs c2).length = lb := ⟨_, rfl⟩
  have hlb2 : lb ≤ 1000 := by rw [← hlb]; exact unhide HLEN c2 hc2n
  have hU := unhide HU
  rw [hlb] at lk hsb hU hfb
  obtain ⟨ok, hok⟩ : ∃ ok : Bool, (ok = true ↔ HasX (xs c2) lb (r : Int)) := by
    by_cases hh : HasX (xs c2) lb (r : Int)
    · exact ⟨true, ⟨fun _ => hh, fun _ => rfl⟩⟩
    · exact ⟨false, ⟨fun e => by simp at e, fun e => absurd e hh⟩⟩
  have K4 := hide (fun (W : World) (d : Dr w4 W) => bsearch_known ab lb capb (xs c2) (r : Int) W (hsb.below d.below) (by omega) hU.1 ok hok j hU.2)
  have p1 := ((unhide HX4).all 1 _ rfl).1
  have s3 : w4.cell? ⟨gr, v, none⟩ = some (.int .i64 (r : Int)) := by have := (unhide HRR v hv).1; simp only [unhide HRK] at this; exact this
  have HOW := hide (And.intro hown (And.intro hfb (And.intro hlb hU.2)))
  clear hown hfb hsb hU hok hlb
  go_quiet ((go_at_call 52; exact Calls.quiet_of (unhide K4 _ ⟨_, rfl⟩)))
  have hB5 : Below w4.heap.size w4 (w4.drewN nq) := bel_drewN (Below.refl _ _) nq
  have HX5 := hide ((unhide HX4).below hB5)
  have HR05 := hide ((unhide HR0).below hB5)
  have HRR5 := hide ((unhide HRR).below hB5)
  have HRC5 := hide ((unhide HRC).below hB5)
  have HGN5 := hide ((unhide HGN).below hB5)
  have HBN5 := hide ((unhide HBN).below hB5)
  have HC5 := hide ((unhide HC4).trans (Chg.of_below hB5))
  have HT5 := hide (Nat.le_trans (unhide HT4) hB5.size)
  have HA5 := hide (fun q (hq : A q) => Nat.lt_of_lt_of_le (unhide HA4 q hq) hB5.size)
  clear K4 HX4 HR0 HRR HRC HGN HBN HC4 HT4 HA4 p1 s3 lk hB5
  generalize w4.drewN nq = w5 at *
  have p1 := ((unhide HX5).all 1 _ rfl).1
  have s3 : w5.cell? ⟨gr, v, none⟩ = some (.int .i64 (r : Int)) := by have := (unhide HRR5 v hv).1; simp only [unhide HRK] at this; exact this
  have lk := ((unhide HBN5).row c2 hc2n).1
  have lf := ((unhide HBN5).row c2 hc2n).2
  simp only [if_neg (Ne.symm hne)] at lk
  rw [(unhide HOW).2.1] at lk
  go_wp2_with fail
  have hHeld : (fun w' => w'.cell? ⟨X, 1, none⟩ = some (.slice (some ⟨gr, 0, none⟩) n n) ∧ w'.cell? ⟨gr, v, none⟩ = some (.int .i64 (r : Int)) ∧ w'.cell? ⟨gk, c2, none⟩ = some (.slice ab lb capb)) w5.drew := ⟨p1, s3, lk⟩
  refine anyTill_region (fun w' => w'.cell? ⟨X, 1, none⟩ = some (.slice (some ⟨gr, 0, none⟩) n n) ∧ w'.cell? ⟨gr, v, none⟩ = some (.int .i64 (r : Int)) ∧ w'.cell? ⟨gk, c2, none⟩ = some (.slice ab lb capb)) 15 (by kernel_rfl) ?_
  refine anyTill_take (i := 0) (v := ?_) rfl rfl (by kernel_rfl) (by kernel_rfl) (by kernel_rfl) (by kernel_rfl) (fun _ _ _ h => h) (Or.inl ⟨by rfl, ?_⟩) (by assumption) ?_
  rotate_left 1
  · intro W hSw
    try dsimp only at hSw
    go_simp
    try with_reducible rfl
  refine anyTill_take (i := 1) (v := ?_) rfl rfl (by kernel_rfl) (by kernel_rfl) (by kernel_rfl) (by kernel_rfl) (fun _ _ _ h => h) (Or.inl ⟨by rfl, ?_⟩) (by assumption) ?_
  rotate_left 1
  · intro W hSw
    try dsimp only at hSw
    go_simp
    try with_reducible rfl
  refine anyTill_take (i := 2) (v := ?_) rfl rfl (by kernel_rfl) (by kernel_rfl) (by kernel_rfl) (by kernel_rfl) (fun _ _ _ h => h) (Or.inl ⟨by rfl, ?_⟩) (by assumption) ?_
  rotate_left 1
  · intro W hSw
    try dsimp only at hSw
    go_simp
    try with_reducible rfl
  refine anyTill_take (i := 3) (v := ?_) rfl rfl (by kernel_rfl) (by kernel_rfl) (by kernel_rfl) (by kernel_rfl) (fun _ _ _ h => h) (Or.inl ⟨by rfl, ?_⟩) (by assumption) ?_
  rotate_left 1
  · intro W hSw
    try dsimp only at hSw
    go_simp
    try with_reducible rfl
  refine anyTill_take (i := 4) (v := ?_) rfl rfl (by kernel_rfl) (by kernel_rfl) (by kernel_rfl) (by kernel_rfl) (fun _ _ _ h => h) (Or.inl ⟨by rfl, ?_⟩) (by assumption) ?_
  rotate_left 1
  · intro W hSw
    try dsimp only at hSw
    go_simp
    try with_reducible rfl
  refine anyTill_take (i := 5) (v := ?_) rfl rfl (by kernel_rfl) (by kernel_rfl) (by kernel_rfl) (by kernel_rfl) (fun _ _ _ h => h) (Or.inl ⟨by rfl, ?_⟩) (by assumption) ?_
  rotate_left 1
  · intro W hSw
    try dsimp only at hSw
    go_simp
    try with_reducible rfl
  refine anyTill_take (i := 6) (v := ?_) rfl rfl (by kernel_rfl) (by kernel_rfl) (by kernel_rfl) (by kernel_rfl) (fun _ _ _ h => h) (Or.inl ⟨by rfl, ?_⟩) (by assumption) ?_
  rotate_left 1
  · intro W hSw
    try dsimp only at hSw
    go_simp
    try with_reducible rfl
  refine anyTill_take (i := 7) (v := ?_) rfl rfl (by kernel_rfl) (by kernel_rfl) (by kernel_rfl) (by kernel_rfl) (fun _ _ _ h => h) (Or.inl ⟨by rfl, ?_⟩) (by assumption) ?_
  rotate_left 1
  · intro W hSw
    try dsimp only at hSw
    go_simp
    try with_reducible rfl
  refine anyTill_take (i := 8) (v := ?_) rfl rfl (by kernel_rfl) (by kernel_rfl) (by kernel_rfl) (by kernel_rfl) (fun _ _ _ h => h) (Or.inl ⟨by rfl, ?_⟩) (by assumption) ?_
  rotate_left 1
  · intro W hSw
    try dsimp only at hSw
    go_simp
    try with_reducible rfl
  refine anyTill_take (i := 9) (v := ?_) rfl rfl (by kernel_rfl) (by kernel_rfl) (by kernel_rfl) (by kernel_rfl) (fun _ _ _ h => h) (Or.inl ⟨by rfl, ?_⟩) (by assumption) ?_
  rotate_left 1
  · intro W hSw
    try dsimp only at hSw
    go_simp
    try with_reducible rfl
  refine anyTill_take (i := 10) (v := ?_) rfl rfl (by kernel_rfl) (by kernel_rfl) (by kernel_rfl) (by kernel_rfl) (fun _ _ _ h => h) (Or.inl ⟨by rfl, ?_⟩) (by assumption) ?_
  rotate_left 1
  · intro W hSw
    try dsimp only at hSw
    go_simp
    try with_reducible rfl
  refine anyTill_take (i := 11) (v := ?_) rfl rfl (by kernel_rfl) (by kernel_rfl) (by kernel_rfl) (by kernel_rfl) (fun _ _ _ h => h) (Or.inl ⟨by rfl, ?_⟩) (by assumption) ?_
  rotate_left 1
  · intro W hSw
    try dsimp only at hSw
    go_simp
    try with_reducible rfl
  refine anyTill_one (i := 12) (by kernel_rfl) rfl (by rfl) (fun K hK => ?_)
  go_simp
  have hXl : X < w5.heap.size := (unhide HX5).lt
  have hgl : gr < w5.heap.size := World.block_lt_of_cell? _ _ s3
  have hkl : gk < w5.heap.size := World.block_lt_of_cell? _ _ lk
  clear hHeld
  have hHeld : (fun w' => w'.cell? ⟨X, 1, none⟩ = some (.slice (some ⟨gr, 0, none⟩) n n) ∧ w'.cell? ⟨gr, v, none⟩ = some (.int .i64 (r : Int)) ∧ w'.cell? ⟨gk, c2, none⟩ = some (.slice ab lb capb)) (w5.alloc (Obj.cells #[Value.int IntKind.i64 (r : Int)] 3)).drew := ⟨(World.cell?_alloc_lt _ _ _ hXl).trans p1, (World.cell?_alloc_lt _ _ _ hgl).trans s3, (World.cell?_alloc_lt _ _ _ hkl).trans lk⟩
  refine hK _ _ (fun _ => hHeld) ?_
  clear hK K hHeld
  refine anyTill_one (i := 13) (by kernel_rfl) rfl (by rfl) (fun K hK => ?_)
  go_simp
  have hB6 : Below w5.heap.size w5 (w5.alloc (Obj.cells #[Value.int IntKind.i64 (r : Int)] 3)).drew := ((Below.refl _ _).alloc (Nat.le_refl _) _).drew
  have hb6 : (w5.alloc (Obj.cells #[Value.int IntKind.i64 (r : Int)] 3)).drew.heap[w5.heap.size]? = some (.cells #[.int .i64 (r : Int)] 3) := alloc_block w5 _
  have own5 := (unhide HBN5).own c2 hc2n
  simp only [if_neg (Ne.symm hne)] at own5
  rw [(unhide HOW).2.1] at own5
  have hvb : (Value.slice ab lb capb).ownBlock ≠ some w5.heap.size := fun e => by have := (own5.ge _ e).2; omega
  have own6 : BkR A (w5.alloc (Obj.cells #[Value.int IntKind.i64 (r : Int)] 3)).drew t (.slice ab lb capb) (xs c2) := own5.chg (S := fun _ => False) (Chg.of_below hB6) (fun _ _ x => x)
  have HX6 := hide ((unhide HX5).below hB6)
  have HR06 := hide ((unhide HR05).below hB6)
  have HRR6 := hide ((unhide HRR5).below hB6)
  have HRC6 := hide ((unhide HRC5).below hB6)
  have HGN6 := hide ((unhide HGN5).below hB6)
  have HBN6 := hide ((unhide HBN5).below hB6)
  have HC6 := hide ((unhide HC5).trans (Chg.of_below hB6))
  have HT6 := hide (Nat.le_trans (unhide HT5) hB6.size)
  have HA6 := hide (fun q (hq : A q) => Nat.lt_of_lt_of_le (unhide HA5 q hq) hB6.size)
  have p16 := (hB6.cell (p := ⟨X, 1, none⟩) hXl).trans p1
  have s36 := (hB6.cell (p := ⟨gr, v, none⟩) hgl).trans s3
  have lk6 := (hB6.cell (p := ⟨gk, c2, none⟩) hkl).trans lk
  have lf6 : (w5.alloc (Obj.cells #[Value.int IntKind.i64 (r : Int)] 3)).drew.frozen? ⟨gk, c2, none⟩ = false := by rw [(Chg.of_below (S := fun _ => False) hB6).frzP hkl (fun x => x)]; exact lf
  clear HX5 HR05 HRR5 HRC5 HGN5 HBN5 HC5 HT5 HA5 p1 s3 lk lf own5 hXl hgl hkl hB6
  generalize (w5.alloc (Obj.cells #[Value.int IntKind.i64 (r : Int)] 3)).drew = w6 at *
  generalize w5.heap.size = vb at *
  have hjl : j ≤ (xs c2).length := by rw [(unhide HOW).2.2.1]; exact (unhide HOW).2.2.2.le
  refine (oins_any (.slice ab lb capb) j (xs c2) (r : Int) vb t w6 own6 hjl ⟨unhide HT6, fun x => absurd (unhide HA6 _ x) (Nat.lt_irrefl _)⟩ (by rw [(unhide HOW).2.2.1]; exact hlb2) hb6 hvb).mono ?_
  rintro _ w7 ⟨v7, rfl, hb7, hC7, hat7⟩
  obtain ⟨a7, c7, hv7, _⟩ := hb7.sli
  generalize (putL (xs c2) j (r : Int)).length = n7 at hv7
  subst hv7
  have hown : ∀ q, q < t → ¬ (Value.slice ab lb capb).ownBlock = some q := fun q hq e => by have := (own6.ge _ e).1; omega
  have hnl := unhide HNL
  have p17 := hC7.cell (hown X (by omega)) p16
  have s37 := hC7.cell (hown gr (by omega)) s36
  have lk7 := hC7.cell (hown gk (by omega)) lk6
  have lf7 : w7.frozen? ⟨gk, c2, none⟩ = false := by rw [hC7.frzP (World.block_lt_of_cell? _ _ lk6) (hown gk (by omega))]; exact lf6
  have HN7 := hide (BnI.upd (v := .slice a7 n7 c7) (ys := putL (xs c2) j (r : Int)) (unhide HBN6) hc2n hnl.2.2.2.1 (unhide HT6) (hC7.mono (fun q _ e => by simp only [if_neg (Ne.symm hne)]; rw [(unhide HOW).2.1]; exact e)) hb7 (fun q hq => by simp only [if_neg (Ne.symm hne)]; rw [(unhide HOW).2.1]; exact hat7 q hq))
  clear hb7 hC7 hat7 hown own6 hb6 hvb hjl hnl p16 s36 lk6 lf6
  refine hK _ _ (fun _ => ⟨p17, s37, lk7⟩) ?_
  clear hK K
  refine anyTill_one (i := 14) (by kernel_rfl) rfl (by rfl) (fun K hK => ?_)
  go_simp
  refine hK _ _ (fun _ => ⟨p17, s37, lk7⟩) ?_
  clear hK K
  refine anyTill_one (i := 15) (by kernel_rfl) rfl (by rfl) (fun K hK => ?_)
  go_simp
  refine hK _ _ (fun h => absurd rfl h) ?_
  clear hK K p17 s37 lk7 lf7
  refine anyTill_done (by kernel_rfl) ?_
  have hne2 := (unhide HNL).1
  have hlt2 := (unhide HNL).2
  have HX8 := hide ((unhide HX6).chg (unhide HN7).2 (show ¬ (X = gk ∨ (t ≤ X ∧ ¬ A X)) by rintro (h | h) <;> omega))
  have HR08 := hide ((unhide HR06).chg (unhide HN7).2 (show ¬ (g0 = gk ∨ (t ≤ g0 ∧ ¬ A g0)) by rintro (h | h) <;> omega))
  have HRR8 := hide ((unhide HRR6).chg (unhide HN7).2 (show ¬ (gr = gk ∨ (t ≤ gr ∧ ¬ A gr)) by rintro (h | h) <;> omega))
  have HRC8 := hide ((unhide HRC6).chg (unhide HN7).2 (show ¬ (gc = gk ∨ (t ≤ gc ∧ ¬ A gc)) by rintro (h | h) <;> omega))
  have HGN8 := hide ((unhide HGN6).chg (unhide HN7).2 (show ¬ (gg = gk ∨ (t ≤ gg ∧ ¬ A gg)) by rintro (h | h) <;> omega))
  have HBN8 := hide (unhide HN7).1
  have HC8 := hide ((unhide HC6).trans ((unhide HN7).2.mono (fun q _ e => by rcases e with e | e; exact .inr (.inl e); exact .inr (.inr (.inr e)))))
  have HT8 := hide (Nat.le_trans (unhide HT6) (unhide HN7).2.size)
  have HA8 := hide (fun q (hq : A q) => Nat.lt_of_lt_of_le (unhide HA6 q hq) (unhide HN7).2.size)
  clear HX6 HR06 HRR6 HRC6 HGN6 HBN6 HC6 HT6 HA6 HN7 hne2 hlt2
  generalize w7.setCell ⟨gk, c2, none⟩ (.slice a7 n7 c7) = w8 at *
  have p2 := ((unhide HX8).all 2 _ rfl).1
  have s2 : w8.cell? ⟨gc, v, none⟩ = some (.int .i64 (c : Int)) := by have := (unhide HRC8 v hv).1; simp only [unhide HCT] at this; exact this
  have s2f := (unhide HRC8 v hv).2
  go_wp2_with fail
  go_end0
  have cs : Chg (fun q => q = gc) w8 (w8.setCell ⟨gc, v, none⟩ (.int .i64 (c2 : Int))) := Chg.of_set _ _ _ _ rfl
  obtain ⟨hne2, hlt2⟩ := unhide HNL
  refine ⟨rfl, ⟨_, ⟨(unhide HX8).chg cs (by omega), (unhide HR08).chg cs (by omega), (unhide HRR8).chg cs (by omega), ((unhide HRC8).put v (.int .i64 (c2 : Int)) hv).congr (fun q hq => ?_), (unhide HBN8).chg cs (by omega) (by intro q hq _; omega), (unhide HGN8).chg cs (by omega), hne2, hlt2, Nat.le_trans (unhide HT8) cs.size, fun q hq => Nat.lt_of_lt_of_le (unhide HA8 q hq) cs.size⟩⟩, (unhide HC8).trans (cs.mono (fun q _ e => .inl e))⟩
  by_cases e : q = v
  · simp [e]
  · simp [e]
end Go.Proofs.Ytdcdgojcboinaaa
