/-
  slopelaw3.twins: its contract.
-/
import Derived.Test.YtbendkndnojihaaBtb
import Derived.Test.YtbendkndnojihaaBti
namespace Go.Proofs.Ytbendkndnojihaa
open Go.RowKit Go.Deep
set_option linter.unusedVariables false

theorem Try.info_set : (Try.prog.info? 24).map (fun i => (i.zero, i.size, i.bytes)) = some (some (.agg #[.int .i64 0, .slice none 0 0]), 2, 32) := by kernel_rfl

/-- A set that came in. -/
def SetC.Arg (e : SetC) : Prop := e.n ≤ 17592186043904 ∧ (e.a = none → e.n = 0 ∧ e.c = 0)
/-- A set and its twin. -/
structure Tw (w : World) (e t : SetC) : Prop where
  s : t.s = e.s
  n : t.n = e.n
  xs : t.xs = e.xs
  mark : ∃ b, t.a = some ⟨b, 0, none⟩ ∧ SlW w (some ⟨b, 0, none⟩) (e.n + 1) t.c (e.xs ++ [markN])
  ok : OkW e.xs
theorem Tw.below {w w' : World} {e t : SetC} (h : Tw w e t) (k : Below w.heap.size w w') : Tw w' e t :=
  ⟨h.s, h.n, h.xs, by obtain ⟨b, h1, h2⟩ := h.mark; exact ⟨b, h1, h2.below k⟩, h.ok⟩
theorem Tw.in {w : World} {e t : SetC} (h : Tw w e t) : t.In w := by
  obtain ⟨b, h1, h2⟩ := h.mark
  refine ⟨?_, by rw [h.xs]; exact h.ok⟩
  rw [h1, h.n, h.xs]
  exact h2.init
/-- Their cells, one behind the other. -/
def flatS : List SetC → List Value
  | [] => []
  | e :: L => .int .i64 e.s :: .slice e.a e.n e.c :: flatS L
theorem flatS_len : ∀ L, (flatS L).length = L.length * 2
  | [] => rfl
  | e :: L => by simp [flatS, flatS_len L]; omega
theorem flatS_append : ∀ (L M : List SetC), flatS (L ++ M) = flatS L ++ flatS M
  | [], M => rfl
  | e :: L, M => by simp [flatS, flatS_append L M]
theorem flatS_get : ∀ (L : List SetC) (i : Nat), i < L.length → (flatS L)[i * 2]? = some (.int .i64 (L.getD i .nul).s) ∧ (flatS L)[i * 2 + 1]? = some (.slice (L.getD i .nul).a (L.getD i .nul).n (L.getD i .nul).c)
  | [], i, h => by simp at h
  | e :: L, 0, h => by simp [flatS]
  | e :: L, i + 1, h => by
    have := flatS_get L i (by simpa using h)
    rw [show (i + 1) * 2 = i * 2 + 1 + 1 from by omega]
    simpa [flatS] using this

/-- In the loop: the row so far, the twins so far. -/
structure TwLp (w wr : World) (v : Value) (L T : List SetC) (k : Nat) : Prop where
  len : T.length = k
  nil : k = 0 → v = .slice none 0 0
  own : wr.ownsRow w.heap.size 24 2 v k (flatS T)
  tw : ∀ i, i < k → Tw wr (L.getD i .nul) (T.getD i .nul)
  bel : Below w.heap.size w wr

/-- The row's block holds no words. -/
theorem TwLp.apart {w wr : World} {v : Value} {L T : List SetC} {k : Nat} (h : TwLp w wr v L T k) {b n c : Nat} {xs : List Nat} (hs : SlW wr (some ⟨b, 0, none⟩) (n + 1) c xs) : v.ownBlock ≠ some b := by
  intro hv
  rcases h.own.2 with ⟨e, hk⟩ | ⟨g, cap, cur, e, hb, hblk, h1, h2, h3, h4⟩
  · rw [e] at hv; cases hv
  · rw [e] at hv
    simp [Value.ownBlock] at hv
    subst hv
    obtain ⟨b', o', e', hc⟩ := hs.at (by omega)
    cases e'
    have c0 := hc 0 (by omega)
    rw [Nat.zero_add, cell_of_block hblk] at c0
    by_cases hk : k = 0
    · have := h.nil hk
      rw [e] at this
      cases this
    · have f := (flatS_get T 0 (by rw [h.len]; omega)).1
      rw [← h4] at f
      have f2 : cur[0]? = some (.int .i64 (T.getD 0 .nul).s) := by
        simpa [List.getElem?_take, show 0 < k * 2 from by omega] using f
      rw [f2] at c0
      cases c0
theorem chg_grown {w w' : World} {row : Option Nat} (h : w.grownBy w' row) : Chg (fun j => row = some j) w w' :=
  ⟨h.os, h.tape, h.output, h.size, fun k hk hs => h.block k hk (fun e => hs e.symm)⟩

/-- One more. -/
theorem TwLp.step {w wr w1 w2 : World} {v v2 : Value} {L T : List SetC} {k : Nat} {t : SetC} (h : TwLp w wr v L T k) (hb : Below wr.heap.size wr w1) (ht : Tw w1 (L.getD k .nul) t) (hnz : v2 ≠ .slice none 0 0)
    (hg : (w1.alloc (.cells #[.int .i64 t.s, .slice t.a t.n t.c] 24)).grownBy w2 v.ownBlock) (hown : w2.ownsRow w.heap.size 24 2 v2 (k + 1) (flatS T ++ [.int .i64 t.s, .slice t.a t.n t.c])) : TwLp w w2 v2 L (T ++ [t]) (k + 1) := by
  have hal : Below w1.heap.size w1 (w1.alloc (.cells #[.int .i64 t.s, .slice t.a t.n t.c] 24)) := (Below.refl _ _).alloc (Nat.le_refl _) _
  have hall : Below wr.heap.size wr (w1.alloc (.cells #[.int .i64 t.s, .slice t.a t.n t.c] 24)) := hb.trans (hal.mono hb.size)
  have hlp : TwLp w (w1.alloc (.cells #[.int .i64 t.s, .slice t.a t.n t.c] 24)) v L T k := by
    refine ⟨h.len, h.nil, ?_, fun i hi => (h.tw i hi).below hall, h.bel.trans (hall.mono h.bel.size)⟩
    rcases h.own with ⟨h1, h2 | ⟨g, cap, cur, e, q1, q2, q3⟩⟩
    · exact ⟨h1, .inl h2⟩
    · refine ⟨h1, .inr ⟨g, cap, cur, e, q1, ?_, q3⟩⟩
      rw [hall.block g]
      · exact q2
      · rcases Nat.lt_or_ge g wr.heap.size with hlt | hge
        · exact hlt
        · rw [Array.getElem?_eq_none hge] at q2; cases q2
  have hc := chg_grown hg
  have keep : ∀ e u, Tw (w1.alloc (.cells #[.int .i64 t.s, .slice t.a t.n t.c] 24)) e u → Tw w2 e u := by
    intro e u hu
    obtain ⟨b, h1, h2⟩ := hu.mark
    refine ⟨hu.s, hu.n, hu.xs, ⟨b, h1, h2.chg hc (fun x hx _ => ?_)⟩, hu.ok⟩
    cases hx
    exact hlp.apart h2
  refine ⟨by simp [h.len], fun hk => by omega, by rw [flatS_append]; exact hown, ?_, ?_⟩
  · intro i hi
    by_cases e : i = k
    · subst e
      have : (T ++ [t]).getD i .nul = t := by
        have hl := h.len
        subst hl
        simp [List.getD]
      rw [this]
      exact keep _ _ (ht.below hal)
    · have : (T ++ [t]).getD i .nul = T.getD i .nul := by
        simp [List.getD, List.getElem?_append_left (show i < T.length by rw [h.len]; omega)]
      rw [this]
      exact keep _ _ (hlp.tw i (by omega))
  · exact Below.grown hlp.bel hg hlp.bel.size (fun j hj => (own_ge h.own j hj).1)

/-- Twins, with one more behind them. -/
structure Twins (w : World) (g cap n : Nat) (L T : List SetC) : Prop where
  sl : SlS w (some ⟨g, 0, none⟩) n cap T
  tw : ∀ i, i < n → Tw w (L.getD i .nul) (T.getD i .nul)
  lt : n + 1 ≤ cap
  last : w.cell? ⟨g, n * 2, none⟩ = some (.int .i64 (-7))
theorem Twins.below {w w' : World} {g cap n : Nat} {L T : List SetC} (h : Twins w g cap n L T) (k : Below w.heap.size w w') : Twins w' g cap n L T :=
  ⟨h.sl.below k, fun i hi => (h.tw i hi).below k, h.lt, below_cell k h.last⟩
theorem TwLp.twins {w wr w2 : World} {v : Value} {L T : List SetC} {n g cap : Nat} (h : TwLp w wr v L T n) (hn : L.length = n)
    (hg : (wr.alloc (.cells #[.int .i64 (-7), .slice none 0 0] 24)).grownBy w2 v.ownBlock) (hown : w2.ownsRow w.heap.size 24 2 (.slice (some ⟨g, 0, none⟩) (n + 1) cap) (n + 1) (flatS T ++ [.int .i64 (-7), .slice none 0 0])) : Twins w2 g cap n L T ∧ Below w.heap.size w w2 := by
  have hal : Below wr.heap.size wr (wr.alloc (.cells #[.int .i64 (-7), .slice none 0 0] 24)) := (Below.refl _ _).alloc (Nat.le_refl _) _
  have hlp : TwLp w (wr.alloc (.cells #[.int .i64 (-7), .slice none 0 0] 24)) v L T n := by
    refine ⟨h.len, h.nil, ?_, fun i hi => (h.tw i hi).below hal, h.bel.trans (hal.mono h.bel.size)⟩
    rcases h.own with ⟨h1, h2 | ⟨g, cap, cur, e, q1, q2, q3⟩⟩
    · exact ⟨h1, .inl h2⟩
    · refine ⟨h1, .inr ⟨g, cap, cur, e, q1, ?_, q3⟩⟩
      rw [hal.block g]
      · exact q2
      · rcases Nat.lt_or_ge g wr.heap.size with hlt | hge
        · exact hlt
        · rw [Array.getElem?_eq_none hge] at q2; cases q2
  have hc := chg_grown hg
  have htw : ∀ i, i < n → Tw w2 (L.getD i .nul) (T.getD i .nul) := by
    intro i hi
    have hu := hlp.tw i hi
    obtain ⟨b, h1, h2⟩ := hu.mark
    refine ⟨hu.s, hu.n, hu.xs, ⟨b, h1, h2.chg hc (fun x hx _ => ?_)⟩, hu.ok⟩
    cases hx
    exact hlp.apart h2
  rcases hown.2 with ⟨e, _⟩ | ⟨g', cap', cur, e, q1, q2, q3, q4, q5, q6⟩
  · cases e
  · cases e
    have hcell : ∀ j, j < (n + 1) * 2 → w2.cell? ⟨g, j, none⟩ = (flatS T ++ [.int .i64 (-7), .slice none 0 0])[j]? := by
      intro j hj
      rw [cell_of_block q2, ← q6]
      simp [hj]
    refine ⟨⟨⟨h.len, by omega, q4, ?_, ?_⟩, htw, q3, ?_⟩, Below.grown hlp.bel hg hlp.bel.size (fun j hj => (own_ge h.own j hj).1)⟩
    · by_cases h0 : T = []
      · exact .inl h0
      · refine .inr ⟨g, 0, rfl, fun i hi => ?_⟩
        have hl := flatS_len T
        have f := flatS_get T i hi
        rw [h.len] at hi
        rw [Nat.zero_add, hcell _ (by omega), hcell _ (by omega), List.getElem?_append_left (by rw [hl, h.len]; omega), List.getElem?_append_left (by rw [hl, h.len]; omega)]
        exact f
    · intro e he
      obtain ⟨i, hi, rfl⟩ := List.getElem_of_mem he
      have := (htw i (by rw [← h.len]; exact hi)).in
      rwa [show T.getD i .nul = T[i] from by simp [List.getD, hi]] at this
    · rw [hcell _ (by omega), List.getElem?_append_right (by rw [flatS_len, h.len]; omega), flatS_len, h.len]
      simp

set_option maxHeartbeats 4000000 in
/-- slopelaw3.twins. -/
theorem twins_any (a : Option Addr) (n c : Nat) (L : List SetC) (w : World) (h : SlS w a n c L) (hargs : ∀ e ∈ L, e.Arg) (hn : n ≤ 4398046510976) :
    Calls Try.prog 11 #[.slice a n c] w fun e w' => ∃ g cap T, e = .returned (.slice (some ⟨g, 0, none⟩) n cap) ∧ Twins w' g cap n L T ∧ Below w.heap.size w w' := by
  have hle := h.le
  have hcap := h.cap
  unfold maxLen at hcap
  obtain ⟨i24, hi, hz, hs, hb⟩ := info_parts Try.info_set
  have HI := hide (And.intro hi (And.intro hz (And.intro hs hb)))
  have HSl := hide h
  have HLn := hide h.len
  have HArg := hide hargs
  clear h hargs hi hz hs hb
  go_enter Try.func11, Try.ntmps11
  go_wp2_with fail
  go_loopw [4, 3] (fun i v wr => ∃ (k : Nat) (T : List SetC), k ≤ n ∧ i = .int .i64 k ∧ TwLp w wr v L T k) (fun i _ _ => n - (intOf i).toNat)
  case atStart => exact ⟨0, [], Nat.zero_le _, rfl, rfl, fun _ => rfl, World.ownsRow_nil _ _ _ _, fun i hi => by omega, Below.refl _ _⟩
  case round =>
    obtain ⟨k, T, hk, rfl, hst⟩ := hrel
    have HS := hide hst
    by_cases hlt : k < n
    · have hlt' : (k : Int) < (n : Int) := by omega
      have hkl : k < L.length := by rw [unhide HLn]; exact hlt
      have hS := (unhide HSl).below hst.bel
      obtain ⟨b, off, rfl, hcells⟩ := hS.at (by omega)
      have g1 := (hcells k hlt).1
      have g2 := (hcells k hlt).2
      have hin := hS.get k hlt
      have harg := unhide HArg (L.getD k .nul) (by
        have : L.getD k .nul = L[k] := by simp [List.getD, hkl]
        rw [this]; exact List.getElem_mem hkl)
      have HSt := hide (fun (t : SetC) (w1 w2 : World) (v2 : Value) hb (ht : Tw w1 (L.getD k .nul) t) hnz hg hown => (unhide HS).step (w1 := w1) (w2 := w2) (v2 := v2) (t := t) hb ht hnz hg hown)
      obtain ⟨e, he⟩ : ∃ e, L.getD k .nul = e := ⟨_, rfl⟩
      rw [he] at g1 g2 hin harg HSt
      obtain ⟨es, ea, en, ec, exs⟩ := e
      simp only at g1 g2
      have K := twin_any es ea en ec exs wr hin.1 harg.1 harg.2
      unfold setV at K
      have HK := hide K
      have HOk := hide hin.2
      have hbase := hst.bel.size
      clear hcells hin he hS K hst harg
      go_wp2_with fail
      refine (unhide HK).mono ?_
      rintro _ w1 ⟨b1, cap1, rfl, hs1, hb1⟩
      have hb1s := hb1.size
      have HO1 := hide (show (w1.alloc (.cells #[.int .i64 es, .slice (some ⟨b1, 0, none⟩) en cap1] 24)).ownsRow w.heap.size 24 2 _ k (flatS T) by
        have hlp := (unhide HS).own
        have hall : Below wr.heap.size wr (w1.alloc (.cells #[.int .i64 es, .slice (some ⟨b1, 0, none⟩) en cap1] 24)) := hb1.trans (((Below.refl _ _).alloc (Nat.le_refl _) _ : Below w1.heap.size w1 _).mono hb1.size)
        rcases hlp with ⟨h1, h2 | ⟨g, cap, cur, e, q1, q2, q3⟩⟩
        · exact ⟨h1, .inl h2⟩
        · refine ⟨h1, .inr ⟨g, cap, cur, e, q1, ?_, q3⟩⟩
          rw [hall.block g]
          · exact q2
          · rcases Nat.lt_or_ge g wr.heap.size with hlt | hge
            · exact hlt
            · rw [Array.getElem?_eq_none hge] at q2; cases q2)
      have HT1 := hide (And.intro hb1 (show Tw w1 ⟨es, ea, en, ec, exs⟩ ⟨es, some ⟨b1, 0, none⟩, en, cap1, exs⟩ from ⟨rfl, rfl, rfl, ⟨b1, rfl, hs1⟩, unhide HOk⟩))
      clear hs1 hb1 HK g1 g2
      go_wp2_with (at_builtin; refine wpList_append_lies _ rfl _ _ 25 rfl w.heap.size 24 i24 (.agg #[.int .i64 0, .slice none 0 0]) 2 32 Try.underlying25 (unhide HI).1 (unhide HI).2.1 (unhide HI).2.2.1 (unhide HI).2.2.2 rfl (by decide) _ k (flatS T) rfl (unhide HO1) ⟨w1.heap.size, 0, none⟩ 1 1 [.int .i64 es, .slice (some ⟨b1, 0, none⟩) en cap1] rfl rfl (World.news_of_block (alloc_block _ _)) ?c21 (by decide) ?c31 ?c41 ?c51 (w1.heap.size + 1) (by simp) ?_)
      case c21 => first | (intro u hu; simp at hu; rcases hu with rfl | rfl <;> rfl) | exact ⟨rfl, rfl⟩
      case c31 => unfold maxLen; omega
      case c41 => omega
      case c51 => first | omega | (simp; omega)
      intro g cap w2 hown hg hat hlt2
      have HS2 := hide (unhide HSt ⟨es, some ⟨b1, 0, none⟩, en, cap1, exs⟩ w1 w2 _ (unhide HT1).1 (unhide HT1).2 (by intro h; cases h) hg hown)
      clear hown hg hat hlt2 HO1 HT1 HSt
      go_wp2_with fail
      exact ⟨⟨k + 1, _, by omega, by go_num, unhide HS2⟩, by simp [intOf]; omega⟩
    · have hlt' : ¬ (k : Int) < (n : Int) := by omega
      have hkn : k = n := by omega
      subst hkn
      have hbase := hst.bel.size
      have HO1 := hide (show (wr.alloc (.cells #[.int .i64 (-7), .slice none 0 0] 24)).ownsRow w.heap.size 24 2 _ k (flatS T) from hst.own.alloc _)
      clear hst
      go_wp2_with (at_builtin; refine wpList_append_lies _ rfl _ _ 25 rfl w.heap.size 24 i24 (.agg #[.int .i64 0, .slice none 0 0]) 2 32 Try.underlying25 (unhide HI).1 (unhide HI).2.1 (unhide HI).2.2.1 (unhide HI).2.2.2 rfl (by decide) _ k (flatS T) rfl (unhide HO1) ⟨wr.heap.size, 0, none⟩ 1 1 [.int .i64 (-7), .slice none 0 0] rfl rfl (World.news_of_block (alloc_block _ _)) ?c21 (by decide) ?c31 ?c41 ?c51 (wr.heap.size + 1) (by simp) ?_)
      case c21 => first | (intro u hu; simp at hu; rcases hu with rfl | rfl <;> rfl) | exact ⟨rfl, rfl⟩
      case c31 => unfold maxLen; omega
      case c41 => omega
      case c51 => first | omega | (simp; omega)
      intro g cap w2 hown hg hat hlt2
      have hE := (unhide HS).twins (unhide HLn) hg hown
      have HE := hide hE
      have hc1 := hE.1.lt
      have hc2 := hE.1.sl.cap
      unfold maxLen at hc2
      clear hE hown hg hat hlt2 HO1
      go_wp2_with fail
      go_ret
      exact ⟨g, cap, T, rfl, (unhide HE).1, (unhide HE).2⟩
end Go.Proofs.Ytbendkndnojihaa
