/-
  natural.appendLimb: contract.
-/
import Derived.Test.YtlecjjcpidjmhaaPa3
namespace Go.Proofs.Ytlecjjcpidjmhaa
open Go.RowKit Go.Deep
set_option linter.unusedVariables false

/-- A row that is being written over. -/
structure ApR (wr w : World) (base g cap n : Nat) (f : Nat → Nat) : Prop where
  blk : ∃ cur, wr.heap[g]? = some (.cells cur 77) ∧ cur.size = cap ∧ ∀ i, i < n → cur[i]? = some (.int .u32 (f i : Nat))
  bel : Below base w wr
  ge : base ≤ g
  nc : n ≤ cap
  cm : cap ≤ maxLen

theorem ApR.own {wr w : World} {base g cap n : Nat} {f : Nat → Nat} (h : ApR wr w base g cap n f) : wr.ownsRow base 77 1 (.slice (some ⟨g, 0, none⟩) n cap) n (vals (lst f n)) := by
  obtain ⟨cur, h1, h2, h3⟩ := h.blk
  refine ⟨by simp [vals, lst_len], .inr ⟨g, cap, cur, rfl, h.ge, h1, h.nc, h.cm, by rw [h2, Nat.mul_one], ?_⟩⟩
  refine List.ext_getElem? fun i => ?_
  rw [Nat.mul_one]
  by_cases hi : i < n
  · rw [vals_get (by rw [lst_len]; exact hi), lst_getD _ _ _ hi]
    simp only [List.getElem?_take, hi, if_true, Array.getElem?_toList]
    exact h3 i hi
  · rw [List.getElem?_eq_none (by simp; omega), List.getElem?_eq_none (by simp [vals, lst_len]; omega)]
theorem ApR.set {wr w : World} {base g cap n : Nat} {f : Nat → Nat} (h : ApR wr w base g cap n f) (k v : Nat) (hk : k < n) : ApR (wr.setCell ⟨g, k, none⟩ (.int .u32 (v : Nat))) w base g cap n (fun i => if i = k then v else f i) := by
  obtain ⟨cur, h1, h2, h3⟩ := h.blk
  refine ⟨⟨_, set_block h1 k _, by simp [h2], fun i hi => ?_⟩, h.bel.setCell (p := ⟨g, k, none⟩) h.ge _, h.ge, h.nc, h.cm⟩
  have := h.nc
  by_cases e : i = k
  · subst e; simp [show i < cur.size from by omega]
  · rw [Array.getElem?_setIfInBounds_ne (by omega), h3 i hi, if_neg e]
theorem ApR.cell {wr w : World} {base g cap n : Nat} {f : Nat → Nat} (h : ApR wr w base g cap n f) {k : Nat} (hk : k < n) : wr.cell? ⟨g, k, none⟩ = some (.int .u32 (f k : Nat)) ∧ wr.frozen? ⟨g, k, none⟩ = false := by
  obtain ⟨cur, h1, h2, h3⟩ := h.blk
  exact ⟨by rw [cell_of_block h1]; exact h3 k hk, frozen_of_block h1 k⟩
theorem ApR.of {w : World} {base g cap n : Nat} {xs : List Nat} (h : w.ownsRow base 77 1 (.slice (some ⟨g, 0, none⟩) n cap) n (vals xs)) : xs.length = n ∧ ApR w w base g cap n (fun i => xs.getD i 0) := by
  have h0 := h.1
  simp [vals] at h0
  rcases h.2 with ⟨e, _⟩ | ⟨g', cap', cur, e, h2, h3, h4, h5, h6, h7⟩
  · cases e
  · cases e
    rw [Nat.mul_one] at h6 h7
    exact ⟨h0, ⟨cur, h3, h6, fun i hi => take_vals h0 h7 i (by omega)⟩, Below.refl _ _, h2, h4, h5⟩

/-- A round's numbers. -/
theorem ap_step {F F' P c x wt d t B : Nat} (h : F + P * c = F' * wt + d) (ht : t = c + x * wt) (hB : 0 < B) : F + P * (t % B) + P * B * (t / B) = (F' + P * x) * wt + d := by
  have e : P * (t % B) + P * B * (t / B) = P * t := by
    rw [Nat.mul_assoc, ← Nat.mul_add, Nat.mod_add_div]
  rw [Nat.add_assoc, e, ht, Nat.mul_add, ← Nat.add_assoc, h, Nat.add_mul, Nat.mul_assoc]
  omega

structure ApI (wr w : World) (base g cap n : Nat) (xs : List Nat) (wt d i c : Nat) (f : Nat → Nat) : Prop where
  row : ApR wr w base g cap n f
  ok : ∀ j, j < n → f j < 4294967296
  old : ∀ j, i ≤ j → f j = xs.getD j 0
  eqn : valF f i + 4294967296 ^ i * c = valF (fun j => xs.getD j 0) i * wt + d
  lt : c < 4294967296

def ApPost (base : Nat) (w : World) (xs : List Nat) (wt d : Nat) (e : Ending) (w' : World) : Prop :=
  ∃ v n ys, e = .returned v ∧ w'.ownsRow base 77 1 v n (vals ys) ∧ Ok ys ∧ (Norm xs → 0 < wt → Norm ys) ∧ val ys = val xs * wt + d ∧ n ≤ xs.length + 1 ∧ Below base w w'

theorem ApI.step {wr w : World} {base g cap n : Nat} {xs : List Nat} {wt d i c t : Nat} {f : Nat → Nat} (h : ApI wr w base g cap n xs wt d i c f) (hi : i < n) (ht : t = c + xs.getD i 0 * wt) (hw : wt < 4294967296) (ok : Ok xs) :
    ApI (wr.setCell ⟨g, i, none⟩ (.int .u32 (t % 4294967296 : Nat))) w base g cap n xs wt d (i + 1) (t / 4294967296) (fun j => if j = i then t % 4294967296 else f j) := by
  have hb := ok.getD i
  have hx : xs.getD i 0 * wt ≤ 4294967295 * 4294967295 := Nat.mul_le_mul (by omega) (by omega)
  have hl := h.lt
  refine ⟨h.row.set i _ hi, ?_, ?_, ?_, ?_⟩
  · intro j hj
    by_cases e : j = i
    · simp only [e, if_true]; exact Nat.mod_lt _ (by decide)
    · simp only [e, if_false]; exact h.ok j hj
  · intro j hj
    rw [if_neg (by omega)]
    exact h.old j (by omega)
  · simp only [valF, if_true]
    rw [valF_congr (g := f) (fun j hj => by rw [if_neg (by omega)]), Nat.pow_succ]
    exact ap_step h.eqn ht (by decide)
  · exact (Nat.div_lt_iff_lt_mul (by decide)).2 (by omega)

theorem norm_of_ge {ys : List Nat} (ok : Ok ys) (h : ys = [] ∨ 4294967296 ^ (ys.length - 1) ≤ val ys) : Norm ys := by
  rcases h with h | h
  · exact .inl h
  · by_cases hy : ys = []
    · exact .inl hy
    · right
      intro h0
      have hp : 0 < ys.length := List.length_pos_iff.2 hy
      have e := val_split ys (ys.length - 1) (by omega)
      rw [drop_cons (by omega), h0] at e
      have h2 : (ys.drop (ys.length - 1 + 1)) = [] := List.drop_eq_nil_of_le (by omega)
      rw [h2] at e
      simp [val] at e
      have h3 := val_lt (xs := ys.take (ys.length - 1)) (fun x hx => ok x (List.mem_of_mem_take hx))
      rw [List.length_take, Nat.min_eq_left (by omega)] at h3
      omega

theorem ApI.ends {wr w : World} {base g cap n : Nat} {xs : List Nat} {wt d c : Nat} {f : Nat → Nat} (h : ApI wr w base g cap n xs wt d n c f) (hl : xs.length = n) : val (lst f n) + 4294967296 ^ n * c = val xs * wt + d := by
  have := h.eqn
  rw [← lst_val, ← hl, valF_list, hl] at this
  exact this

theorem ApI.done {wr w : World} {base g cap n : Nat} {xs : List Nat} {wt d : Nat} {f : Nat → Nat} (h : ApI wr w base g cap n xs wt d n 0 f) (hl : xs.length = n) : ApPost base w xs wt d (.returned (.slice (some ⟨g, 0, none⟩) n cap)) wr := by
  have hv := h.ends hl
  rw [Nat.mul_zero, Nat.add_zero] at hv
  have ok := lst_ok h.ok
  refine ⟨_, n, lst f n, rfl, h.row.own, ok, fun hN hw => norm_of_ge ok ?_, hv, by omega, h.row.bel⟩
  by_cases h0 : n = 0
  · left
    subst h0
    rfl
  · right
    rw [hv, lst_len]
    have h1 := val_ge_of_norm hN (by intro e; rw [e] at hl; simp at hl; omega)
    rw [hl] at h1
    have h2 : val xs * 1 ≤ val xs * wt := Nat.mul_le_mul_left _ hw
    omega

theorem app_done {w1 w2 w : World} {base n wt d c : Nat} {v : Value} {xs ys : List Nat} (hv : val ys + 4294967296 ^ n * c = val xs * wt + d) (hy : ys.length = n) (hl : xs.length = n) (ok : Ok ys) (hc : c < 4294967296) (hc0 : 0 < c)
    (hown : w2.ownsRow base 77 1 v (n + 1) (vals ys ++ [.int .u32 (c : Nat)])) (hb : Below base w w2) : ApPost base w xs wt d (.returned v) w2 := by
  refine ⟨v, n + 1, ys ++ [c], rfl, by simpa [vals] using hown, ?_, fun _ _ => ?_, ?_, by omega, hb⟩
  · intro x hx
    simp at hx
    rcases hx with hx | rfl
    · exact ok x hx
    · exact hc
  · right
    simp [List.getD]
    omega
  · rw [val_append, hy]
    simp only [val, Nat.mul_zero, Nat.add_zero]
    exact hv

set_option maxHeartbeats 4000000 in
theorem appendLimb_some (base g n cap : Nat) (xs : List Nat) (wt d : Nat) (w : World) (ho : w.ownsRow base 77 1 (.slice (some ⟨g, 0, none⟩) n cap) n (vals xs)) (hbase : base ≤ w.heap.size) (ok : Ok xs) (hn : n ≤ 4096) (hw : wt < 4294967296) (hd : d < 4294967296) :
    Calls Try.prog 58 #[.slice (some ⟨g, 0, none⟩) n cap, .int .u32 (wt : Nat), .int .u32 (d : Nat)] w fun e w' => ApPost base w xs wt d e w' := by
  obtain ⟨hl, hA⟩ := ApR.of ho
  have HI0 := hide (show ApI w w base g cap n xs wt d 0 d (fun i => xs.getD i 0) from ⟨hA, fun j _ => ok.getD j, fun _ _ => rfl, by simp [valF], hd⟩)
  have hnc := hA.nc
  obtain ⟨i32, hi32, hz32, hs32, hb32⟩ := info_parts Try.info_u32
  have I32 := hide (And.intro hi32 (And.intro hz32 (And.intro hs32 hb32)))
  have HL := hide hl
  clear hi32 hz32 hs32 hb32 hA ho hl
  go_enter Try.func58, Try.ntmps58
  go_wp2_with fail
  go_loopw [7, 13] (fun cv iv wr => ∃ (i c : Nat) (f : Nat → Nat), i ≤ n ∧ iv = .int .i64 (i : Nat) ∧ cv = .int .u64 (c : Nat) ∧ ApI wr w base g cap n xs wt d i c f) (fun _ iv _ => n - (intOf iv).toNat)
  case atStart => exact ⟨0, d, _, Nat.zero_le _, rfl, rfl, unhide HI0⟩
  case round =>
    clear HI0
    obtain ⟨i, c, f, hi, rfl, rfl, hR⟩ := hrel
    by_cases hlt : i < n
    · have hlt' : (i:Int) < (n:Int) := by omega
      have c1 := (hR.row.cell hlt).1
      have c2 := (hR.row.cell hlt).2
      rw [hR.old i (Nat.le_refl _)] at c1
      obtain ⟨t, ht⟩ : ∃ t, t = c + xs.getD i 0 * wt := ⟨_, rfl⟩
      have HS := hide (hR.step hlt ht hw ok)
      have hx := ok.getD i
      have hm : xs.getD i 0 * wt ≤ 4294967295 * 4294967295 := Nat.mul_le_mul (by omega) (by omega)
      have hc := hR.lt
      generalize xs.getD i 0 = x at *
      obtain ⟨y, hy⟩ : ∃ y, x * wt = y := ⟨_, rfl⟩
      have e1 : (x:Int) * (wt:Int) = (y:Int) := by rw [← hy, Int.natCast_mul]
      rw [hy] at ht hm
      have e2 : (c:Int) + (y:Int) = (t:Int) := by omega
      have ht64 : t < 18446744073709551616 := by omega
      have e3 : IntKind.u32.wrap (t:Int) = ((t % 4294967296 : Nat) : Int) := by rw [IntKind.wrap_u32]; omega
      have e4 : (t:Int) / 4294967296 = ((t / 4294967296 : Nat) : Int) := by omega
      generalize t % 4294967296 = tl at *
      generalize t / 4294967296 = th at *
      clear hR hy ht
      go_wp2_with fail
      exact ⟨⟨i + 1, th, _, by omega, by go_num, rfl, unhide HS⟩, by simp [intOf]; omega⟩
    · have hin : i = n := by omega
      subst hin
      have hlt' : ¬ (i:Int) < (i:Int) := by omega
      have hc := hR.lt
      by_cases hc0 : c = 0
      · subst hc0
        have HD := hide (hR.done (unhide HL))
        clear hR
        go_wp2_with fail
        go_ret
        exact unhide HD
      · have HR := hide hR
        have HV := hide (hR.ends (unhide HL))
        have HO := hide hR.row.own
        have HB := hide hR.row.bel
        have hsz := hR.row.bel.size
        have hc1 : ((c:Int) == 0) = false := by simp; omega
        have hc2 : ¬ (c:Int) = 0 := by omega
        have HL2 := hide (lst_ok hR.ok)
        clear hR
        go_wp2_with (at_builtin; refine wpList_append_lies _ rfl _ _ 22 rfl base 77 i32 (.int .u32 0) 1 4 Try.underlying22 (unhide I32).1 (unhide I32).2.1 (unhide I32).2.2.1 (unhide I32).2.2.2 rfl (by decide) _ i _ rfl ((unhide HO).alloc _) ⟨wr.heap.size, 0, none⟩ 1 1 [.int .u32 (c : Nat)] rfl rfl (World.news_of_block (alloc_block _ _)) one_int (by decide) ?c31 ?c41 ?c51 (wr.heap.size + 1) (by simp) ?_)
        case c31 => unfold maxLen; omega
        case c41 => omega
        case c51 => omega
        intro g1' cc w2 hown hgrow hat hlt2
        have HN := hide (app_done (w1 := wr) (unhide HV) (lst_len _ _) (unhide HL) (unhide HL2) hc (by omega) hown (Below.grown ((unhide HB).alloc (by omega) _) hgrow (by simp; omega) (fun k hk => (own_ge (unhide HO) k hk).1)))
        clear hown hgrow hat hlt2
        go_wp2
        go_ret
        exact unhide HN

set_option maxHeartbeats 4000000 in
theorem appendLimb_nil (base : Nat) (wt d : Nat) (w : World) (hbase : base ≤ w.heap.size) (hw : wt < 4294967296) (hd : d < 4294967296) :
    Calls Try.prog 58 #[.slice none 0 0, .int .u32 (wt : Nat), .int .u32 (d : Nat)] w fun e w' => ApPost base w [] wt d e w' := by
  obtain ⟨i32, hi32, hz32, hs32, hb32⟩ := info_parts Try.info_u32
  have I32 := hide (And.intro hi32 (And.intro hz32 (And.intro hs32 hb32)))
  clear hi32 hz32 hs32 hb32
  go_enter Try.func58, Try.ntmps58
  go_wp2_with fail
  go_loopw [7, 13] (fun cv iv wr => iv = .int .i64 0 ∧ cv = .int .u64 (d : Nat) ∧ wr = w) (fun _ iv _ => 0)
  case atStart => exact ⟨rfl, rfl, rfl⟩
  case round =>
    obtain ⟨rfl, rfl, rfl⟩ := hrel
    by_cases hc0 : d = 0
    · subst hc0
      go_wp2_with fail
      go_ret
      exact ⟨_, 0, [], rfl, World.ownsRow_nil _ _ _ _, Ok.nil, fun h _ => h, by simp [val], by simp, Below.refl _ _⟩
    · have hc1 : ((d:Int) == 0) = false := by simp; omega
      have hc2 : ¬ (d:Int) = 0 := by omega
      have HO := hide (show wr.ownsRow base 77 1 (.slice none 0 0) 0 (vals []) from World.ownsRow_nil _ _ _ _)
      go_wp2_with (at_builtin; refine wpList_append_lies _ rfl _ _ 22 rfl base 77 i32 (.int .u32 0) 1 4 Try.underlying22 (unhide I32).1 (unhide I32).2.1 (unhide I32).2.2.1 (unhide I32).2.2.2 rfl (by decide) _ 0 _ rfl ((unhide HO).alloc _) ⟨wr.heap.size, 0, none⟩ 1 1 [.int .u32 (d : Nat)] rfl rfl (World.news_of_block (alloc_block _ _)) one_int (by decide) ?c31 ?c41 ?c51 (wr.heap.size + 1) (by simp) ?_)
      case c31 => unfold maxLen; omega
      case c41 => omega
      case c51 => simp; omega
      intro g1' cc w2 hown hgrow hat hlt2
      have HN := hide (app_done (w1 := wr) (n := 0) (ys := []) (xs := []) (wt := wt) (d := d) (by simp [val]) rfl rfl Ok.nil hd (by omega) hown (Below.grown ((Below.refl base wr).alloc hbase _) hgrow (by simp; omega) (fun k hk => (own_ge (unhide HO) k hk).1)))
      clear hown hgrow hat hlt2
      go_wp2
      go_ret
      exact unhide HN

/-- natural.appendLimb. -/
theorem appendLimb_any (base : Nat) (v : Value) (n : Nat) (xs : List Nat) (wt d : Nat) (w : World) (ho : w.ownsRow base 77 1 v n (vals xs)) (hbase : base ≤ w.heap.size) (ok : Ok xs) (hn : n ≤ 4096) (hw : wt < 4294967296) (hd : d < 4294967296) :
    Calls Try.prog 58 #[v, .int .u32 (wt : Nat), .int .u32 (d : Nat)] w fun e w' => ApPost base w xs wt d e w' := by
  have h1 := ho.1
  simp [vals] at h1
  rcases ho.2 with ⟨rfl, rfl⟩ | ⟨g, cap, cur, rfl, _⟩
  · obtain rfl := List.eq_nil_of_length_eq_zero h1
    exact appendLimb_nil base wt d w hbase hw hd
  · exact appendLimb_some base g n cap xs wt d w ho hbase ok hn hw hd
end Go.Proofs.Ytlecjjcpidjmhaa
