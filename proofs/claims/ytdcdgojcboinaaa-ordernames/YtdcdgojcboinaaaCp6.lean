/-
  ORDERS: buckets.take: contract (wip/gens/mkcp6.py).
-/
import Derived.Test.YtdcdgojcboinaaaCp5
namespace Go.Proofs.Ytdcdgojcboinaaa
open Go.Shelf Go.RowKit Go.Deep
set_option linter.unusedVariables false
variable {A : Nat → Prop}

/-- What a call of the buckets leaves. -/
def BuP (A : Nat → Prop) (t X g0 gr gc gk gg n : Nat) (br : Nat → Nat) (rk : Nat → Int) (ct : Nat → Nat) (xs : Nat → List Int) (gone : Nat → Bool) (w w' : World) : Prop := (∃ f, BuS A w' t X g0 gr gc gk gg n f br rk ct xs gone) ∧ Chg (fun j => j = gc ∨ j = gk ∨ j = gg ∨ (t ≤ j ∧ ¬ A j)) w w'
set_option maxRecDepth 20000 in
set_option maxHeartbeats 8000000 in
/-- buckets.take. -/
theorem otake_any (t X g0 gr gc gk gg n c r : Nat) (rest : List Int) (f : Nat → Value) (br : Nat → Nat) (rk : Nat → Int) (ct : Nat → Nat) (xs : Nat → List Int) (gone : Nat → Bool) (w : World) (h : BuS A w t X g0 gr gc gk gg n f br rk ct xs gone) (hn : n ≤ 128) (hc : c < n) (hx : xs c = (r : Int) :: rest) (hr : r < n) (hb : ∀ i, i < n → br i < n) :
    Calls Try.prog 42 #[.pointer (some ⟨X, 0, none⟩), .int .i64 (c : Int)] w fun e w' => e = .returned (.int .i64 (br r : Int)) ∧ BuP A t X g0 gr gc gk gg n br rk ct (fun q => if q = c then rest else xs q) (fun u => if u = br r then true else gone u) w w' := by
  have hc' : (c : Int) < (n : Int) := by omega
  have hr' : (r : Int) < (n : Int) := by omega
  have p0 := (h.box.all 0 _ rfl).1
  have p3 := (h.box.all 3 _ rfl).1
  have p4 := (h.box.all 4 _ rfl).1
  have lk := (h.bk.row c hc).1
  have lf := (h.bk.row c hc).2
  obtain ⟨g, o, cap, hf, htg, hbk⟩ : ∃ g o cap, f c = .slice (some ⟨g, o, none⟩) (rest.length + 1) cap ∧ (t ≤ g ∧ ¬ A g) ∧ BkC w g o cap ((r : Int) :: rest) := by
    rcases h.bk.own c hc with ⟨_, e⟩ | ⟨g, o, cap, e, h1, h2⟩
    · rw [hx] at e; cases e
    · rw [hx] at e h2
      exact ⟨g, o, cap, by simpa using e, h1, h2⟩
  rw [hf] at lk
  have c0 := hbk.val 0 (by simp)
  rw [Nat.add_zero] at c0
  have c0' : w.cell? ⟨g, o, none⟩ = some (.int .i64 (r : Int)) := c0
  have cr := (h.r0 r hr).1
  have hbr := hb r hr
  obtain ⟨x, hxx⟩ : ∃ x, br r = x := ⟨_, rfl⟩
  rw [hxx] at hbr ⊢
  simp only [hxx] at cr
  have hbr' : (x : Int) < (n : Int) := by omega
  have HH := hide h
  have HBK := hide hbk
  have HF := hide hf
  have HX := hide hx
  have HTG := hide htg
  have hL1 : (1 : Int) ≤ (rest.length : Int) + 1 := by omega
  clear h hbk hf hx c0 hb hxx htg
  by_cases hcap : cap = 1
  · subst hcap
    
    go_enter Try.func42, Try.ntmps42
    go_wp2_with fail
    go_quiet (fail)
    have HH1 := hide ((unhide HH).below (bel_drewN (Below.refl _ _) nq))
    have HBK1 := hide ((unhide HBK).chg (S := fun _ => False) (Chg.of_drewN _ nq) (fun x => x))
    have HC1 := hide (show Chg (fun j => j = gc ∨ j = gk ∨ j = gg ∨ (t ≤ j ∧ ¬ A j)) w (w.drewN nq) from Chg.of_drewN _ nq)
    clear p0 p3 p4 lk lf c0' cr HBK HH
    generalize w.drewN nq = w1 at *
    have p3 := ((unhide HH1).box.all 3 _ rfl).1
    have lk := ((unhide HH1).bk.row c hc).1
    have lf := ((unhide HH1).bk.row c hc).2
    rw [unhide HF] at lk
    go_wp2_with fail
    have hHeld : (fun w' => w'.cell? ⟨X, 3, none⟩ = some (.slice (some ⟨gk, 0, none⟩) n n) ∧ w'.cell? ⟨gk, c, none⟩ = some (.slice (some ⟨g, o, none⟩) (rest.length + 1) 1)) w1.drew := ⟨p3, lk⟩
    refine anyTill_region (fun w' => w'.cell? ⟨X, 3, none⟩ = some (.slice (some ⟨gk, 0, none⟩) n n) ∧ w'.cell? ⟨gk, c, none⟩ = some (.slice (some ⟨g, o, none⟩) (rest.length + 1) 1)) 14 (by kernel_rfl) ?_
    refine anyTill_take (i := 0) (v := ?_) rfl rfl (by kernel_rfl) (by kernel_rfl) (by kernel_rfl) (by kernel_rfl) (fun _ _ _ h => h) (Or.inl ⟨by rfl, ?_⟩) (by assumption) ?_
    rotate_left 1
    · intro W hSw
      try dsimp only at hSw
      go_simp
      try with_reducible rfl
    refine anyTill_take (i := 1) (v := ?_) rfl rfl (by kernel_rfl) (by kernel_rfl) (by kernel_rfl) (by kernel_rfl) (fun _ _ _ h => h) (Or.inl ⟨by rfl, ?_⟩) (by assumption) ?_
    rotate_left 1
    · intro W hSw
      try dsimp only at hSw
      go_simp
      try with_reducible rfl
    refine anyTill_take (i := 2) (v := ?_) rfl rfl (by kernel_rfl) (by kernel_rfl) (by kernel_rfl) (by kernel_rfl) (fun _ _ _ h => h) (Or.inl ⟨by rfl, ?_⟩) (by assumption) ?_
    rotate_left 1
    · intro W hSw
      try dsimp only at hSw
      go_simp
      try with_reducible rfl
    refine anyTill_take (i := 3) (v := ?_) rfl rfl (by kernel_rfl) (by kernel_rfl) (by kernel_rfl) (by kernel_rfl) (fun _ _ _ h => h) (Or.inl ⟨by rfl, ?_⟩) (by assumption) ?_
    rotate_left 1
    · intro W hSw
      try dsimp only at hSw
      go_simp
      try with_reducible rfl
    refine anyTill_take (i := 4) (v := ?_) rfl rfl (by kernel_rfl) (by kernel_rfl) (by kernel_rfl) (by kernel_rfl) (fun _ _ _ h => h) (Or.inl ⟨by rfl, ?_⟩) (by assumption) ?_
    rotate_left 1
    · intro W hSw
      try dsimp only at hSw
      go_simp
      try with_reducible rfl
    refine anyTill_take (i := 5) (v := ?_) rfl rfl (by kernel_rfl) (by kernel_rfl) (by kernel_rfl) (by kernel_rfl) (fun _ _ _ h => h) (Or.inl ⟨by rfl, ?_⟩) (by assumption) ?_
    rotate_left 1
    · intro W hSw
      try dsimp only at hSw
      go_simp
      try with_reducible rfl
    refine anyTill_take (i := 6) (v := ?_) rfl rfl (by kernel_rfl) (by kernel_rfl) (by kernel_rfl) (by kernel_rfl) (fun _ _ _ h => h) (Or.inl ⟨by rfl, ?_⟩) (by assumption) ?_
    rotate_left 1
    · intro W hSw
      try dsimp only at hSw
      go_simp
      try with_reducible rfl
    refine anyTill_take (i := 7) (v := ?_) rfl rfl (by kernel_rfl) (by kernel_rfl) (by kernel_rfl) (by kernel_rfl) (fun _ _ _ h => h) (Or.inl ⟨by rfl, ?_⟩) (by assumption) ?_
    rotate_left 1
    · intro W hSw
      try dsimp only at hSw
      go_simp
      try with_reducible rfl
    refine anyTill_take (i := 8) (v := ?_) rfl rfl (by kernel_rfl) (by kernel_rfl) (by kernel_rfl) (by kernel_rfl) (fun _ _ _ h => h) (Or.inl ⟨by rfl, ?_⟩) (by assumption) ?_
    rotate_left 1
    · intro W hSw
      try dsimp only at hSw
      go_simp
      try with_reducible rfl
    refine anyTill_take (i := 9) (v := ?_) rfl rfl (by kernel_rfl) (by kernel_rfl) (by kernel_rfl) (by kernel_rfl) (fun _ _ _ h => h) (Or.inl ⟨by rfl, ?_⟩) (by assumption) ?_
    rotate_left 1
    · intro W hSw
      try dsimp only at hSw
      go_simp
      try with_reducible rfl
    refine anyTill_take (i := 10) (v := ?_) rfl rfl (by kernel_rfl) (by kernel_rfl) (by kernel_rfl) (by kernel_rfl) (fun _ _ _ h => h) (Or.inl ⟨by rfl, ?_⟩) (by assumption) ?_
    rotate_left 1
    · intro W hSw
      try dsimp only at hSw
      go_simp
      try with_reducible rfl
    refine anyTill_take (i := 11) (v := ?_) rfl rfl (by kernel_rfl) (by kernel_rfl) (by kernel_rfl) (by kernel_rfl) (fun _ _ _ h => h) (Or.inl ⟨by rfl, ?_⟩) (by assumption) ?_
    rotate_left 1
    · intro W hSw
      try dsimp only at hSw
      go_simp
      try with_reducible rfl
    refine anyTill_take (i := 12) (v := ?_) rfl rfl (by kernel_rfl) (by kernel_rfl) (by kernel_rfl) (by kernel_rfl) (fun _ _ _ h => h) (Or.inl ⟨by rfl, ?_⟩) (by assumption) ?_
    rotate_left 1
    · intro W hSw
      try dsimp only at hSw
      go_simp
      try with_reducible rfl
    refine anyTill_one (i := 13) (by kernel_rfl) rfl (by rfl) (fun K hK => ?_)
    go_simp
    refine hK _ _ (fun _ => hHeld) ?_
    clear hK K
    refine anyTill_one (i := 14) (by kernel_rfl) rfl (by rfl) (fun K hK => ?_)
    go_simp
    refine hK _ _ (fun h => absurd rfl h) ?_
    clear hK K hHeld
    refine anyTill_done (by kernel_rfl) ?_
    have HN0 := BnI.upd (W2 := w1) (v := .slice (some ⟨g, o, none⟩) rest.length 0) (ys := rest) ((unhide HH1).bk) hc (unhide HH1).lt.2.2.1 (unhide HH1).ht (Chg.refl _ _) (.inr ⟨_, _, _, rfl, unhide HTG, by
      have q := unhide HBK1
      have ql := q.len
      have qb := q.big
      simp only [List.length_cons] at ql
      have e0 : rest = [] := List.length_eq_zero_iff.1 (by omega)
      subst e0
      exact ⟨Nat.le_refl _, Nat.zero_le _, fun j hj => absurd hj (Nat.not_lt_zero j), fun j hj => absurd hj (Nat.not_lt_zero j), q.lt⟩⟩) (fun j hj => .inl (by rw [unhide HF]; simpa [Value.ownBlock] using hj))
    have HN := hide (And.intro (HN0.1.below (Below.refl _ _).drew) (HN0.2.trans (Chg.of_drew _)))
    have HX2 := hide ((unhide HH1).box.chg (unhide HN).2 (show ¬ (X = gk ∨ (t ≤ X ∧ ¬ A X)) by have := (unhide HH1).ne; have := (unhide HH1).lt; rintro (h | h) <;> omega))
    have HG2 := hide ((unhide HH1).gn.chg (unhide HN).2 (show ¬ (gg = gk ∨ (t ≤ gg ∧ ¬ A gg)) by have := (unhide HH1).ne; have := (unhide HH1).lt; rintro (h | h) <;> omega))
    have HR0 := hide ((unhide HH1).r0.chg (unhide HN).2 (show ¬ (g0 = gk ∨ (t ≤ g0 ∧ ¬ A g0)) by have := (unhide HH1).ne; have := (unhide HH1).lt; rintro (h | h) <;> omega))
    have HRR := hide ((unhide HH1).rr.chg (unhide HN).2 (show ¬ (gr = gk ∨ (t ≤ gr ∧ ¬ A gr)) by have := (unhide HH1).ne; have := (unhide HH1).lt; rintro (h | h) <;> omega))
    have HRC := hide ((unhide HH1).rc.chg (unhide HN).2 (show ¬ (gc = gk ∨ (t ≤ gc ∧ ¬ A gc)) by have := (unhide HH1).ne; have := (unhide HH1).lt; rintro (h | h) <;> omega))
    have HK2 := hide (unhide HN)
    clear p3 lk lf HN HN0
    generalize (w1.setCell ⟨gk, c, none⟩ (.slice (some ⟨g, o, none⟩) rest.length 0)).drew = w2 at *
    have p4 := ((unhide HX2).all 4 _ rfl).1
    have s1 := (unhide HG2 x hbr).1
    have s2 := (unhide HG2 x hbr).2
    go_wp2_with fail
    try go_ret
    have cs : Chg (fun j => j = gg) w2 (w2.setCell ⟨gg, x, none⟩ (.bool true)) := Chg.of_set _ _ _ _ rfl
    have hne := (unhide HH1).ne
    have hlt := (unhide HH1).lt
    have hht := (unhide HH1).ht
    refine ⟨rfl, ⟨_, ⟨(unhide HX2).chg cs (by omega), (unhide HR0).chg cs (by omega), (unhide HRR).chg cs (by omega), (unhide HRC).chg cs (by omega), (unhide HK2).1.chg cs (by omega) (by intro j hj _; omega), ((unhide HG2).put x (.bool true) hbr).congr (fun i hi => ?_), hne, hlt, Nat.le_trans hht (Nat.le_trans (unhide HK2).2.size cs.size), fun j hj => Nat.lt_of_lt_of_le ((unhide HH1).hA j hj) (Nat.le_trans (unhide HK2).2.size cs.size)⟩⟩, ((unhide HC1).trans ((unhide HK2).2.mono (fun j _ e => by rcases e with e | e; exact .inr (.inl e); exact .inr (.inr (.inr e))))).trans (cs.mono (fun j _ e => .inr (.inr (.inl e))))⟩
    by_cases e : i = x
    · simp [e]
    · simp [e]
  · skip
    go_enter Try.func42, Try.ntmps42
    go_wp2_with fail
    go_quiet (fail)
    have HH1 := hide ((unhide HH).below (bel_drewN (Below.refl _ _) nq))
    have HBK1 := hide ((unhide HBK).chg (S := fun _ => False) (Chg.of_drewN _ nq) (fun x => x))
    have HC1 := hide (show Chg (fun j => j = gc ∨ j = gk ∨ j = gg ∨ (t ≤ j ∧ ¬ A j)) w (w.drewN nq) from Chg.of_drewN _ nq)
    clear p0 p3 p4 lk lf c0' cr HBK HH
    generalize w.drewN nq = w1 at *
    have p3 := ((unhide HH1).box.all 3 _ rfl).1
    have lk := ((unhide HH1).bk.row c hc).1
    have lf := ((unhide HH1).bk.row c hc).2
    rw [unhide HF] at lk
    go_wp2_with fail
    have hHeld : (fun w' => w'.cell? ⟨X, 3, none⟩ = some (.slice (some ⟨gk, 0, none⟩) n n) ∧ w'.cell? ⟨gk, c, none⟩ = some (.slice (some ⟨g, o, none⟩) (rest.length + 1) cap)) w1.drew := ⟨p3, lk⟩
    refine anyTill_region (fun w' => w'.cell? ⟨X, 3, none⟩ = some (.slice (some ⟨gk, 0, none⟩) n n) ∧ w'.cell? ⟨gk, c, none⟩ = some (.slice (some ⟨g, o, none⟩) (rest.length + 1) cap)) 14 (by kernel_rfl) ?_
    refine anyTill_take (i := 0) (v := ?_) rfl rfl (by kernel_rfl) (by kernel_rfl) (by kernel_rfl) (by kernel_rfl) (fun _ _ _ h => h) (Or.inl ⟨by rfl, ?_⟩) (by assumption) ?_
    rotate_left 1
    · intro W hSw
      try dsimp only at hSw
      go_simp
      try with_reducible rfl
    refine anyTill_take (i := 1) (v := ?_) rfl rfl (by kernel_rfl) (by kernel_rfl) (by kernel_rfl) (by kernel_rfl) (fun _ _ _ h => h) (Or.inl ⟨by rfl, ?_⟩) (by assumption) ?_
    rotate_left 1
    · intro W hSw
      try dsimp only at hSw
      go_simp
      try with_reducible rfl
    refine anyTill_take (i := 2) (v := ?_) rfl rfl (by kernel_rfl) (by kernel_rfl) (by kernel_rfl) (by kernel_rfl) (fun _ _ _ h => h) (Or.inl ⟨by rfl, ?_⟩) (by assumption) ?_
    rotate_left 1
    · intro W hSw
      try dsimp only at hSw
      go_simp
      try with_reducible rfl
    refine anyTill_take (i := 3) (v := ?_) rfl rfl (by kernel_rfl) (by kernel_rfl) (by kernel_rfl) (by kernel_rfl) (fun _ _ _ h => h) (Or.inl ⟨by rfl, ?_⟩) (by assumption) ?_
    rotate_left 1
    · intro W hSw
      try dsimp only at hSw
      go_simp
      try with_reducible rfl
    refine anyTill_take (i := 4) (v := ?_) rfl rfl (by kernel_rfl) (by kernel_rfl) (by kernel_rfl) (by kernel_rfl) (fun _ _ _ h => h) (Or.inl ⟨by rfl, ?_⟩) (by assumption) ?_
    rotate_left 1
    · intro W hSw
      try dsimp only at hSw
      go_simp
      try with_reducible rfl
    refine anyTill_take (i := 5) (v := ?_) rfl rfl (by kernel_rfl) (by kernel_rfl) (by kernel_rfl) (by kernel_rfl) (fun _ _ _ h => h) (Or.inl ⟨by rfl, ?_⟩) (by assumption) ?_
    rotate_left 1
    · intro W hSw
      try dsimp only at hSw
      go_simp
      try with_reducible rfl
    refine anyTill_take (i := 6) (v := ?_) rfl rfl (by kernel_rfl) (by kernel_rfl) (by kernel_rfl) (by kernel_rfl) (fun _ _ _ h => h) (Or.inl ⟨by rfl, ?_⟩) (by assumption) ?_
    rotate_left 1
    · intro W hSw
      try dsimp only at hSw
      go_simp
      try with_reducible rfl
    refine anyTill_take (i := 7) (v := ?_) rfl rfl (by kernel_rfl) (by kernel_rfl) (by kernel_rfl) (by kernel_rfl) (fun _ _ _ h => h) (Or.inl ⟨by rfl, ?_⟩) (by assumption) ?_
    rotate_left 1
    · intro W hSw
      try dsimp only at hSw
      go_simp
      try with_reducible rfl
    refine anyTill_take (i := 8) (v := ?_) rfl rfl (by kernel_rfl) (by kernel_rfl) (by kernel_rfl) (by kernel_rfl) (fun _ _ _ h => h) (Or.inl ⟨by rfl, ?_⟩) (by assumption) ?_
    rotate_left 1
    · intro W hSw
      try dsimp only at hSw
      go_simp
      try with_reducible rfl
    refine anyTill_take (i := 9) (v := ?_) rfl rfl (by kernel_rfl) (by kernel_rfl) (by kernel_rfl) (by kernel_rfl) (fun _ _ _ h => h) (Or.inl ⟨by rfl, ?_⟩) (by assumption) ?_
    rotate_left 1
    · intro W hSw
      try dsimp only at hSw
      go_simp
      try with_reducible rfl
    refine anyTill_take (i := 10) (v := ?_) rfl rfl (by kernel_rfl) (by kernel_rfl) (by kernel_rfl) (by kernel_rfl) (fun _ _ _ h => h) (Or.inl ⟨by rfl, ?_⟩) (by assumption) ?_
    rotate_left 1
    · intro W hSw
      try dsimp only at hSw
      go_simp
      try with_reducible rfl
    refine anyTill_take (i := 11) (v := ?_) rfl rfl (by kernel_rfl) (by kernel_rfl) (by kernel_rfl) (by kernel_rfl) (fun _ _ _ h => h) (Or.inl ⟨by rfl, ?_⟩) (by assumption) ?_
    rotate_left 1
    · intro W hSw
      try dsimp only at hSw
      go_simp
      try with_reducible rfl
    refine anyTill_take (i := 12) (v := ?_) rfl rfl (by kernel_rfl) (by kernel_rfl) (by kernel_rfl) (by kernel_rfl) (fun _ _ _ h => h) (Or.inl ⟨by rfl, ?_⟩) (by assumption) ?_
    rotate_left 1
    · intro W hSw
      try dsimp only at hSw
      go_simp
      try with_reducible rfl
    refine anyTill_one (i := 13) (by kernel_rfl) rfl (by rfl) (fun K hK => ?_)
    go_simp
    refine hK _ _ (fun _ => hHeld) ?_
    clear hK K
    refine anyTill_one (i := 14) (by kernel_rfl) rfl (by rfl) (fun K hK => ?_)
    go_simp
    refine hK _ _ (fun h => absurd rfl h) ?_
    clear hK K hHeld
    refine anyTill_done (by kernel_rfl) ?_
    have HN0 := BnI.upd (W2 := w1) (v := .slice (some ⟨g, o + 1, none⟩) rest.length (cap - 1)) (ys := rest) ((unhide HH1).bk) hc (unhide HH1).lt.2.2.1 (unhide HH1).ht (Chg.refl _ _) (.inr ⟨_, _, _, rfl, unhide HTG, by
      have q := unhide HBK1
      have ql := q.len
      have qb := q.big
      simp only [List.length_cons] at ql
      exact ⟨by omega, by omega, fun j hj => by rw [show o + 1 + j = o + (j + 1) by omega]; exact q.has (j + 1) (by omega), fun j hj => by rw [show o + 1 + j = o + (j + 1) by omega]; exact (q.val (j + 1) (by simp; omega)).trans (by simp), q.lt⟩⟩) (fun j hj => .inl (by rw [unhide HF]; simpa [Value.ownBlock] using hj))
    have HN := hide (And.intro (HN0.1.below (Below.refl _ _).drew) (HN0.2.trans (Chg.of_drew _)))
    have HX2 := hide ((unhide HH1).box.chg (unhide HN).2 (show ¬ (X = gk ∨ (t ≤ X ∧ ¬ A X)) by have := (unhide HH1).ne; have := (unhide HH1).lt; rintro (h | h) <;> omega))
    have HG2 := hide ((unhide HH1).gn.chg (unhide HN).2 (show ¬ (gg = gk ∨ (t ≤ gg ∧ ¬ A gg)) by have := (unhide HH1).ne; have := (unhide HH1).lt; rintro (h | h) <;> omega))
    have HR0 := hide ((unhide HH1).r0.chg (unhide HN).2 (show ¬ (g0 = gk ∨ (t ≤ g0 ∧ ¬ A g0)) by have := (unhide HH1).ne; have := (unhide HH1).lt; rintro (h | h) <;> omega))
    have HRR := hide ((unhide HH1).rr.chg (unhide HN).2 (show ¬ (gr = gk ∨ (t ≤ gr ∧ ¬ A gr)) by have := (unhide HH1).ne; have := (unhide HH1).lt; rintro (h | h) <;> omega))
    have HRC := hide ((unhide HH1).rc.chg (unhide HN).2 (show ¬ (gc = gk ∨ (t ≤ gc ∧ ¬ A gc)) by have := (unhide HH1).ne; have := (unhide HH1).lt; rintro (h | h) <;> omega))
    have HK2 := hide (unhide HN)
    clear p3 lk lf HN HN0
    generalize (w1.setCell ⟨gk, c, none⟩ (.slice (some ⟨g, o + 1, none⟩) rest.length (cap - 1))).drew = w2 at *
    have p4 := ((unhide HX2).all 4 _ rfl).1
    have s1 := (unhide HG2 x hbr).1
    have s2 := (unhide HG2 x hbr).2
    go_wp2_with fail
    try go_ret
    have cs : Chg (fun j => j = gg) w2 (w2.setCell ⟨gg, x, none⟩ (.bool true)) := Chg.of_set _ _ _ _ rfl
    have hne := (unhide HH1).ne
    have hlt := (unhide HH1).lt
    have hht := (unhide HH1).ht
    refine ⟨rfl, ⟨_, ⟨(unhide HX2).chg cs (by omega), (unhide HR0).chg cs (by omega), (unhide HRR).chg cs (by omega), (unhide HRC).chg cs (by omega), (unhide HK2).1.chg cs (by omega) (by intro j hj _; omega), ((unhide HG2).put x (.bool true) hbr).congr (fun i hi => ?_), hne, hlt, Nat.le_trans hht (Nat.le_trans (unhide HK2).2.size cs.size), fun j hj => Nat.lt_of_lt_of_le ((unhide HH1).hA j hj) (Nat.le_trans (unhide HK2).2.size cs.size)⟩⟩, ((unhide HC1).trans ((unhide HK2).2.mono (fun j _ e => by rcases e with e | e; exact .inr (.inl e); exact .inr (.inr (.inr e))))).trans (cs.mono (fun j _ e => .inr (.inr (.inl e))))⟩
    by_cases e : i = x
    · simp [e]
    · simp [e]
end Go.Proofs.Ytdcdgojcboinaaa
