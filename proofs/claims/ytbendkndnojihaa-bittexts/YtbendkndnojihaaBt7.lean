/-
  slopelaw3.num, same, sameInts, lent, back: contracts.
-/
import Derived.Test.YtbendkndnojihaaBt2
namespace Go.Proofs.Ytbendkndnojihaa
open Go.RowKit Go.Deep
set_option linter.unusedVariables false

set_option maxHeartbeats 400000 in
/-- slopelaw3.num. -/
theorem num_any (x : Int) (w : World) : Calls Try.prog 21 #[.int .i64 x] w fun e w' => e = .returned (.int .i64 x) ∧ w' = w := by
  go_enter Try.func21, Try.ntmps21
  go_wp2
  go_ret
  exact ⟨rfl, rfl⟩

set_option maxHeartbeats 2000000 in
/-- slopelaw3.same, of two sets that are the same. -/
theorem same_eq (s : Int) (a1 a2 : Option Addr) (n c1 c2 : Nat) (xs : List Nat) (w : World) (h1 : SlW w a1 n c1 xs) (h2 : SlW w a2 n c2 xs) :
    Calls Try.prog 20 #[setV s a1 n c1, setV s a2 n c2] w fun e w' => e = .returned (.bool true) ∧ Below w.heap.size w w' := by
  unfold setV
  have hle1 := h1.le
  have hle2 := h2.le
  have hcap1 := h1.cap
  have hcap2 := h2.cap
  unfold maxLen at hcap1 hcap2
  obtain ⟨wa, hwa⟩ : ∃ wa, w.alloc (.cells #[.int .i64 s, .slice a1 n c1] 24) = wa := ⟨_, rfl⟩
  obtain ⟨wb, hwb⟩ : ∃ wb, wa.alloc (.cells #[.int .i64 s, .slice a2 n c2] 24) = wb := ⟨_, rfl⟩
  have hba : Below w.heap.size w wa := by rw [← hwa]; exact (Below.refl _ _).alloc (Nat.le_refl _) _
  have hbb : Below wa.heap.size wa wb := by rw [← hwb]; exact (Below.refl _ _).alloc (Nat.le_refl _) _
  have hsz : wa.heap.size = w.heap.size + 1 := by rw [← hwa]; simp
  have tA : Two wb w.heap.size (.int .i64 s) (.slice a1 n c1) := by
    refine Two.keep (w := wa) ?_ hbb
    rw [← hwa]; exact Two.made _ _ _ _
  have tB : Two wb wa.heap.size (.int .i64 s) (.slice a2 n c2) := by rw [← hwb]; exact Two.made _ _ _ _
  have HB := hide (hba.trans (hbb.mono hba.size))
  have k1 := (h1.below hba).below hbb
  have k2 := (h2.below hba).below hbb
  have HT := hide (And.intro tA (And.intro tB (And.intro k1 k2)))
  have a0 := tA.c0
  have a1' := tA.c1
  have b0 := tB.c0
  have b1 := tB.c1
  clear hba hbb h1 h2 k1 k2 tA tB hsz
  go_enter Try.func20, Try.ntmps20
  go_wp2_with fail
  go_loopw [5] (fun i wr => ∃ k q : Nat, k ≤ n ∧ i = .int .i64 k ∧ wr = wb.drewN q) (fun i _ => n - (intOf i).toNat)
  case atStart => exact ⟨0, 0, Nat.zero_le _, rfl, rfl⟩
  case round =>
    obtain ⟨k, q, hk, rfl, rfl⟩ := hrel
    by_cases hlt : k < n
    · have hlt' : (k : Int) < (n : Int) := by omega
      obtain ⟨b1', o1, rfl, hc1⟩ := (unhide HT).2.2.1.at (by omega)
      obtain ⟨b2', o2, rfl, hc2⟩ := (unhide HT).2.2.2.at (by omega)
      have g1 := hc1 k hlt
      have g2 := hc2 k hlt
      unfold vU at g1 g2
      generalize xs.getD k 0 = x at g1 g2
      clear hc1 hc2
      go_wp2_with fail
      go_quiet (fail)
      go_wp2_with fail
      exact ⟨⟨k + 1, _, by omega, by go_num, rfl⟩, by simp [intOf]; omega⟩
    · have hlt' : ¬ (k : Int) < (n : Int) := by omega
      go_wp2_with fail
      go_ret
      exact ⟨rfl, bel_drewN (unhide HB) _⟩

set_option maxHeartbeats 2000000 in
/-- slopelaw3.sameInts, of two lists that are the same. -/
theorem sameInts_eq (a1 a2 : Option Addr) (n c1 c2 : Nat) (xs : List Int) (w : World) (h1 : SlI w a1 n c1 xs) (h2 : SlI w a2 n c2 xs) :
    Calls Try.prog 55 #[.slice a1 n c1, .slice a2 n c2] w fun e w' => e = .returned (.bool true) ∧ ∃ q, w' = w.drewN q := by
  have hle1 := h1.le
  have hle2 := h2.le
  have hcap1 := h1.cap
  have hcap2 := h2.cap
  unfold maxLen at hcap1 hcap2
  have HT := hide (And.intro h1 h2)
  clear h1 h2
  go_enter Try.func55, Try.ntmps55
  go_wp2_with fail
  go_loopw [5] (fun i wr => ∃ k q : Nat, k ≤ n ∧ i = .int .i64 k ∧ wr = w.drewN q) (fun i _ => n - (intOf i).toNat)
  case atStart => exact ⟨0, 0, Nat.zero_le _, rfl, rfl⟩
  case round =>
    obtain ⟨k, q, hk, rfl, rfl⟩ := hrel
    by_cases hlt : k < n
    · have hlt' : (k : Int) < (n : Int) := by omega
      obtain ⟨b1', o1, rfl, hc1⟩ := (unhide HT).1.at (by omega)
      obtain ⟨b2', o2, rfl, hc2⟩ := (unhide HT).2.at (by omega)
      have g1 := hc1 k hlt
      have g2 := hc2 k hlt
      unfold vI at g1 g2
      generalize xs.getD k 0 = x at g1 g2
      clear hc1 hc2
      go_wp2_with fail
      go_quiet (fail)
      go_wp2_with fail
      exact ⟨⟨k + 1, _, by omega, by go_num, rfl⟩, by simp [intOf]; omega⟩
    · have hlt' : ¬ (k : Int) < (n : Int) := by omega
      go_wp2_with fail
      go_ret
      exact ⟨rfl, _, rfl⟩

theorem Try.info_int : (Try.prog.info? 3).map (fun i => (i.zero, i.size, i.bytes)) = some (some (.int .i64 0), 1, 8) := by kernel_rfl

section
variable {P : Program} {w : World}
/-- append to nothing, of what may be nothing. -/
theorem wpList_append_nil {ops : Array Oper} {rest : List Oper} {o : Oper} {a : Act} {Q : Exit → Act → World → Prop} (hgd : o.guard = none) (s x : Operand) (t : TypeId)
    (ho : o.op = .call { callee := .builtin .append, args := #[s, x], argTypes := #[t, t] })
    (base : Nat) (e : TypeId) (i : TypeInfo) (z : Value) (bytes : Nat) (ht : P.underlying t = some (.slice e)) (hi : P.info? e = some i) (hz : i.zero = some z)
    (hsize : i.size = 1) (hby : i.bytes = bytes) (hzs : z.cells.size = 1)
    (hs : a.eval s = .slice none 0 0)
    (ao : Option Addr) (m c : Nat) (news : List Value) (hx : a.eval x = .slice ao m c) (hl : news.length = m) (hnone : ao = none → m = 0 ∧ c = 0)
    (hnews : ∀ ad, ao = some ad → ∀ j u, news[j]? = some u → w.cell? (ad.add j) = some u) (h1 : ∀ u ∈ news, u.oneCell' = true)
    (h63 : m ≤ maxLen) (hbytes : m * bytes ≤ 140737488355328) (hbase : base ≤ w.heap.size)
    (h : ∀ v w', w'.ownsRow base e 1 v m news → w.grownBy w' none → wpList P ops Q rest (a.put o.dst v) w') : wpList P ops Q (o :: rest) a w := by
  cases ao with
  | none =>
    obtain ⟨rfl, rfl⟩ := hnone rfl
    have hn : news = [] := List.eq_nil_of_length_eq_zero hl
    subst hn
    refine wpList_plain hgd fun K hK => ?_
    have hrun := run_append_owned_none (P := P) (w := w) base t o.type e i 1 ht hi (.slice none 0 0) 0 [] (World.ownsRow_nil _ _ _ _)
    unfold Oper.wp
    simp [execOp, ho, resolve, invoke, builtin, hs, hx, hrun, Result.andThen]
    exact hK _ _ (h _ w (World.ownsRow_nil _ _ _ _) (World.grownBy.refl _ _))
  | some ad =>
    refine wpList_append_own w hgd s x t ho base e i z 1 bytes ht hi hz hsize hby hzs (by decide) _ 0 [] hs (World.ownsRow_nil _ _ _ _) ad m c news hx (by simpa using hl) (hnews ad rfl) h1 (by simpa using h63) (by simpa using hbytes) hbase ?_
    intro v' w' k1 k2 _
    simp only [Nat.zero_add, List.nil_append] at k1
    exact h v' w' k1 k2
end

/-- The cells of a slice, as append asks for them. -/
theorem SlG.news {α : Type} {g : α → Value} {d : α} {w : World} {a : Option Addr} {n c : Nat} {xs : List α} (h : SlG g d w a n c xs) : ∀ ad, a = some ad → ∀ j u, (xs.map g)[j]? = some u → w.cell? (ad.add j) = some u := by
  intro ad had j u hu
  have hj : j < xs.length := by
    have := (List.getElem?_eq_some_iff.1 hu).1
    simpa using this
  obtain ⟨b, off, e, hc⟩ := h.at (by rw [← h.len]; omega)
  rw [e] at had
  cases had
  rw [addr_add, hc j (by rw [← h.len]; exact hj), ← hu]
  simp [List.getD, hj]

/-- A list with one more behind it. -/
theorem own_sl {α : Type} {g : α → Value} {w : World} {base b n c : Nat} {e : TypeId} {xs : List α} (d : α) (h : w.ownsRow base e 1 (.slice (some ⟨b, 0, none⟩) n c) n (xs.map g)) : SlG g d w (some ⟨b, 0, none⟩) n c xs := by
  obtain ⟨h1, h2, h3, h4, h5⟩ := own_fn d h
  have := h5.sl (d := d) h2 h3
  subst h1
  rwa [lstG_self] at this
theorem SlG.init {α : Type} {g : α → Value} {d : α} {w : World} {a : Option Addr} {n c : Nat} {xs : List α} {y : α} (h : SlG g d w a (n + 1) c (xs ++ [y])) : SlG g d w a n c xs := by
  have := h.pre (m := n) (by omega)
  have hl := h.len
  simp at hl
  rwa [List.take_append_of_le_length (by omega), List.take_of_length_le (by omega)] at this
theorem SlG.last {α : Type} {g : α → Value} {d : α} {w : World} {b n c : Nat} {xs : List α} {y : α} (h : SlG g d w (some ⟨b, 0, none⟩) (n + 1) c (xs ++ [y])) : w.cell? ⟨b, n, none⟩ = some (g y) := by
  have hl := h.len
  simp at hl
  obtain ⟨b', o', e, hc⟩ := h.at (by omega)
  cases e
  have := hc n (by omega)
  rw [Nat.zero_add] at this
  rw [this]
  subst hl
  simp [List.getD]

set_option maxHeartbeats 2000000 in
/-- slopelaw3.lent. -/
theorem lent_any (a : Option Addr) (n c : Nat) (l : List Int) (w : World) (h : SlI w a n c l) (hn : n ≤ 17592186043904) (hnil : a = none → n = 0 ∧ c = 0) :
    Calls Try.prog 22 #[.slice a n c] w fun e w' => ∃ b cap, e = .returned (.slice (some ⟨b, 0, none⟩) n cap) ∧ SlI w' (some ⟨b, 0, none⟩) (n + 1) cap (l ++ [77777]) ∧ Below w.heap.size w w' := by
  have hle := h.le
  have hcap := h.cap
  unfold maxLen at hcap
  obtain ⟨i64, hi, hz, hs, hb⟩ := info_parts Try.info_int
  have HI := hide (And.intro hi (And.intro hz (And.intro hs hb)))
  have HS := hide h
  have HNil := hide hnil
  clear h hnil hi hz hs hb
  go_enter Try.func22, Try.ntmps22
  go_wp2_with (at_builtin; refine wpList_append_nil rfl _ _ 42 rfl w.heap.size 3 i64 (.int .i64 0) 8 Try.underlying42 (unhide HI).1 (unhide HI).2.1 (unhide HI).2.2.1 (unhide HI).2.2.2 rfl rfl a n c (l.map vI) rfl ?hl (unhide HNil) ?hnews ?hone ?h63 ?hby (Nat.le_refl _) ?_)
  case hl => simp [(unhide HS).len]
  case hnews => exact (unhide HS).news
  case hone => intro u hu; simp at hu; obtain ⟨x, _, rfl⟩ := hu; rfl
  case h63 => unfold maxLen; omega
  case hby => omega
  intro v1 w1 hown hg
  have HB1 := hide (show Below w.heap.size w w1 from Below.grown (Below.refl _ _) hg (Nat.le_refl _) (fun k hk => by cases hk))
  have hz1 := hg.size
  have HO := hide hown
  clear hown hg
  go_wp2_with (at_builtin; refine wpList_append_lies _ rfl _ _ 42 rfl w.heap.size 3 i64 (.int .i64 0) 1 8 Try.underlying42 (unhide HI).1 (unhide HI).2.1 (unhide HI).2.2.1 (unhide HI).2.2.2 rfl (by decide) v1 n (l.map vI) rfl ((unhide HO).alloc _) ⟨w1.heap.size, 0, none⟩ 1 1 [.int .i64 77777] rfl rfl (World.news_of_block (alloc_block _ _)) ?c21 (by decide) ?c31 ?c41 ?c51 (w1.heap.size + 1) (by simp) ?_)
  case c21 => intro u hu; simp at hu; rcases hu with rfl; rfl
  case c31 => unfold maxLen; omega
  case c41 => omega
  case c51 => simp; omega
  intro g cap w2 hown hg hat hlt
  have HB2 := hide (show Below w.heap.size w w2 from Below.grown ((unhide HB1).alloc hz1 _) hg (by simp; omega) (fun k hk => (own_ge (unhide HO) k hk).1))
  have hs2 : SlI w2 (some ⟨g, 0, none⟩) (n + 1) cap (l ++ [77777]) := own_sl (xs := l ++ [77777]) 0 (by simpa [vI] using hown)
  have hc2 := hs2.le
  have hc3 := hs2.cap
  unfold maxLen at hc3
  have HS2 := hide hs2
  clear hs2 hown hg hat hlt HO
  go_wp2_with fail
  go_ret
  exact ⟨g, cap, rfl, unhide HS2, unhide HB2⟩

set_option maxHeartbeats 2000000 in
/-- slopelaw3.back. -/
theorem back_any (b cap : Nat) (a : Option Addr) (n c : Nat) (l : List Int) (w : World) (h1 : SlI w (some ⟨b, 0, none⟩) (n + 1) cap (l ++ [77777])) (h2 : SlI w a n c l) :
    Calls Try.prog 27 #[.slice (some ⟨b, 0, none⟩) n cap, .slice a n c] w fun e w' => e = .returned (.bool true) ∧ Below w.heap.size w w' := by
  have hle1 := h1.le
  have hle2 := h2.le
  have hcap1 := h1.cap
  have hcap2 := h2.cap
  unfold maxLen at hcap1 hcap2
  have HK := hide (sameInts_eq (some ⟨b, 0, none⟩) a n cap c l w h1.init h2)
  have hc := h1.last
  unfold vI at hc
  clear h1 h2
  go_enter Try.func27, Try.ntmps27
  go_wp2_with fail
  refine (unhide HK).mono ?_
  rintro _ w1 ⟨rfl, q, rfl⟩
  go_wp2_with fail
  go_ret
  exact ⟨rfl, bel_drewN (Below.refl _ _) _⟩
end Go.Proofs.Ytbendkndnojihaa
