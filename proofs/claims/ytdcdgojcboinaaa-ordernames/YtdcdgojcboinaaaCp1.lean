/-
  ORDERS: order.fill: contract (wip/gens/mkcp1.py).
-/
import Derived.Test.YtdcdgojcboinaaaCo8
import Derived.Test.YtdcdgojcboinaaaCg9
import Derived.Test.YtdcdgojcboinaaaRq2
namespace Go.Proofs.Ytdcdgojcboinaaa
open Go.RowKit Go.Deep
set_option linter.unusedVariables false

/-- The buckets, just made. -/
structure FlB (n g0 g1 : Nat) (w ws : World) (X gr gk gg : Nat) : Prop where
  box : BoxP ws X [.slice (some ⟨g0, 0, none⟩) n n, .slice (some ⟨gr, 0, none⟩) n n, .slice (some ⟨g1, 0, none⟩) n n, .slice (some ⟨gk, 0, none⟩) n n, .slice (some ⟨gg, 0, none⟩) n n]
  rk : RoV ws gr n (fun _ => .int .i64 0)
  rw : ws.rowIs gk 22 n (fun _ => .slice none 0 0)
  gn : RoV ws gg n (fun _ => .bool false)
  ne : (X ≠ gr ∧ X ≠ gk ∧ X ≠ gg) ∧ gr ≠ gk ∧ gr ≠ gg ∧ gk ≠ gg
  lo : (w.heap.size ≤ X ∧ w.heap.size ≤ gr) ∧ w.heap.size ≤ gk ∧ w.heap.size ≤ gg
  hi : gr < ws.heap.size ∧ gk < ws.heap.size ∧ gg < ws.heap.size
  bel : Below w.heap.size w ws
theorem al4 (w : World) (o1 o2 o3 o4 : Obj) : ((((((w.alloc o1).alloc o2).alloc o3).alloc o4).drew.heap[w.heap.size]? = some o1 ∧ ((((w.alloc o1).alloc o2).alloc o3).alloc o4).drew.heap[w.heap.size + 1]? = some o2) ∧ ((((w.alloc o1).alloc o2).alloc o3).alloc o4).drew.heap[w.heap.size + 1 + 1]? = some o3 ∧ ((((w.alloc o1).alloc o2).alloc o3).alloc o4).drew.heap[w.heap.size + 1 + 1 + 1]? = some o4) ∧ ((((w.alloc o1).alloc o2).alloc o3).alloc o4).drew.heap.size = w.heap.size + 4 ∧ Below w.heap.size w ((((w.alloc o1).alloc o2).alloc o3).alloc o4).drew := by
  refine ⟨⟨⟨?_, ?_⟩, ?_, ?_⟩, by simp, (((((Below.refl _ _).alloc (Nat.le_refl _) _).alloc (by simp) _).alloc (by simp; omega) _).alloc (by simp; omega) _).drew⟩
  · show ((((w.alloc o1).alloc o2).alloc o3).alloc o4).heap[w.heap.size]? = _
    rw [heap_alloc_old _ _ (by simp <;> omega), heap_alloc_old _ _ (by simp <;> omega), heap_alloc_old _ _ (by simp)]
    exact alloc_block _ _
  · show ((((w.alloc o1).alloc o2).alloc o3).alloc o4).heap[w.heap.size + 1]? = _
    rw [heap_alloc_old _ _ (by simp <;> omega), heap_alloc_old _ _ (by simp)]
    have := alloc_block (w.alloc o1) o2
    simpa using this
  · show ((((w.alloc o1).alloc o2).alloc o3).alloc o4).heap[w.heap.size + 1 + 1]? = _
    rw [heap_alloc_old _ _ (by simp)]
    have := alloc_block ((w.alloc o1).alloc o2) o3
    simpa using this
  · show ((((w.alloc o1).alloc o2).alloc o3).alloc o4).heap[w.heap.size + 1 + 1 + 1]? = _
    have := alloc_block (((w.alloc o1).alloc o2).alloc o3) o4
    simpa using this
theorem RoV.of_made {W : World} {g n : Nat} {e : TypeId} {z : Value} (h : W.heap[g]? = some (.cells (madeCells #[z] n) e)) : RoV W g n (fun _ => z) := fun i hi => ⟨(cell_of_block h i).trans (by simp [madeCells, hi, Nat.mod_one]), by simp [World.frozen?, h]⟩
theorem BoxP.of_block {W : World} {X : Nat} {e : TypeId} {vs : Array Value} (h : W.heap[X]? = some (.cells vs e)) : BoxP W X vs.toList := ⟨fun q u hq => ⟨(cell_of_block h q).trans (by simpa using hq), by simp [World.frozen?, h]⟩, (Array.getElem?_eq_some_iff.1 h).1⟩
theorem FlB.of {n g0 g1 : Nat} {w ws : World} {X gr gk gg : Nat} (hX : ws.heap[X]? = some (.cells #[.slice (some ⟨g0, 0, none⟩) n n, .slice (some ⟨gr, 0, none⟩) n n, .slice (some ⟨g1, 0, none⟩) n n, .slice (some ⟨gk, 0, none⟩) n n, .slice (some ⟨gg, 0, none⟩) n n] 89)) (h1 : ws.heap[gr]? = some (.cells (madeCells #[.int .i64 0] n) 3)) (h2 : ws.heap[gk]? = some (.cells (madeCells #[.slice none 0 0] n) 22)) (h3 : ws.heap[gg]? = some (.cells (madeCells #[.bool false] n) 4)) (ne : (X ≠ gr ∧ X ≠ gk ∧ X ≠ gg) ∧ gr ≠ gk ∧ gr ≠ gg ∧ gk ≠ gg) (lo : (w.heap.size ≤ X ∧ w.heap.size ≤ gr) ∧ w.heap.size ≤ gk ∧ w.heap.size ≤ gg) (hb : Below w.heap.size w ws) : FlB n g0 g1 w ws X gr gk gg :=
  ⟨BoxP.of_block hX, RoV.of_made h1, ⟨_, h2, size_madeCells _ _, made_getI n⟩, RoV.of_made h3, ne, lo, ⟨(Array.getElem?_eq_some_iff.1 h1).1, (Array.getElem?_eq_some_iff.1 h2).1, (Array.getElem?_eq_some_iff.1 h3).1⟩, hb⟩
/-- The ranks of the first k. -/
def rkF (br : Nat → Nat) : Nat → Nat → Int
  | 0, _ => 0
  | k + 1, v => if v = br k then (k : Int) else rkF br k v
/-- The buckets of the first k. -/
def bkF (br ct : Nat → Nat) : Nat → Nat → List Int
  | 0, _ => []
  | k + 1, c => if c = ct (br k) then bkF br ct k c ++ [(k : Int)] else bkF br ct k c
theorem bkF_len (br ct : Nat → Nat) (c : Nat) : ∀ k, (bkF br ct k c).length ≤ k
  | 0 => by simp [bkF]
  | k + 1 => by
    have := bkF_len br ct c k
    simp only [bkF]
    split
    · rw [List.length_append]; simp; omega
    · omega
/-- What fill answers. -/
def FlP (n g0 g1 : Nat) (br ct : Nat → Nat) (w w' : World) (e : Ending) : Prop := ∃ X gr gk gg t f, e = .returned (.pointer (some ⟨X, 0, none⟩)) ∧ BoxP w' X [.slice (some ⟨g0, 0, none⟩) n n, .slice (some ⟨gr, 0, none⟩) n n, .slice (some ⟨g1, 0, none⟩) n n, .slice (some ⟨gk, 0, none⟩) n n, .slice (some ⟨gg, 0, none⟩) n n] ∧ RoV w' gr n (fun i => .int .i64 (rkF br n i)) ∧ LnI w' t gk n f (bkF br ct n) ∧ RoV w' gg n (fun _ => .bool false) ∧ ((X ≠ gr ∧ X ≠ gk ∧ X ≠ gg) ∧ gr ≠ gk ∧ gr ≠ gg ∧ gk ≠ gg) ∧ ((w.heap.size ≤ X ∧ w.heap.size ≤ gr) ∧ w.heap.size ≤ gk ∧ w.heap.size ≤ gg) ∧ (X < t ∧ gr < t ∧ gk < t ∧ gg < t) ∧ t ≤ w'.heap.size ∧ Below w.heap.size w w'
set_option maxRecDepth 100000 in
set_option maxHeartbeats 16000000 in
/-- order.fill. -/
theorem ofill_any (n g0 g1 : Nat) (br ct : Nat → Nat) (w : World) (h0 : RoV w g0 n (fun i => .int .i64 (br i : Int))) (h1 : RoV w g1 n (fun i => .int .i64 (ct i : Int))) (hn : n ≤ 128) (hbr : ∀ i, i < n → br i < n) (hct : ∀ i, i < n → ct i < n) :
    Calls Try.prog 39 #[.slice (some ⟨g0, 0, none⟩) n n, .slice (some ⟨g1, 0, none⟩) n n] w fun e w' => FlP n g0 g1 br ct w w' e := by
  have H0 := hide h0
  have H1 := hide h1
  obtain ⟨i64, hi, hz, hs, hb⟩ := info_parts Try.info_i64
  have HI := hide (And.intro hi (And.intro hz (And.intro hs hb)))
  clear h0 h1 hi hz hs hb
  go_enter Try.func39, Try.ntmps39
  go_wp2_with fail
  rename_i K hK
  have HK : ∀ (X gr gk gg : Nat) (ws : World), FlB n g0 g1 w ws X gr gk gg → K { tmps := #[.slice (some ⟨g0, 0, none⟩) n n, .slice (some ⟨g1, 0, none⟩) n n, undef, undef, .pointer none, .int .i64 (n : Int), .pointer (some ⟨X, 0, none⟩), undef, undef, .slice (some ⟨g0, 0, none⟩) n n, .int .i64 (n : Int), .slice (some ⟨g0, 0, none⟩) n n, .int .i64 (n : Int), .slice (some ⟨gr, 0, none⟩) n n, .slice (some ⟨g1, 0, none⟩) n n, .int .i64 (n : Int), .slice (some ⟨gk, 0, none⟩) n n, .int .i64 (n : Int), .slice (some ⟨gg, 0, none⟩) n n, .agg #[.slice (some ⟨g0, 0, none⟩) n n, .slice (some ⟨gr, 0, none⟩) n n, .slice (some ⟨g1, 0, none⟩) n n, .slice (some ⟨gk, 0, none⟩) n n, .slice (some ⟨gg, 0, none⟩) n n], .pointer (some ⟨X, 0, none⟩), undef, undef, undef, undef, undef, undef, undef, undef, undef, undef, undef, undef, undef, undef, undef, undef, undef, undef, undef, undef, undef, undef, undef, undef, undef, undef, undef, undef, undef, undef, undef, undef, undef, undef, undef, undef, undef, undef], defers := [] } ws := by
    intro X gr gk gg ws hF
    refine hK _ _ ?_
    clear hK K
    have hF0 := (hF.box.all 0 _ rfl).1
    obtain ⟨t, ht⟩ : ∃ t, ws.heap.size = t := ⟨_, rfl⟩
    have HT := hide ht
    have HF := hide hF
    clear hF ht
    go_wp2_with fail
    go_loopw [23, 7, 8] (fun kv _ _ wr => ∃ k : Nat, k ≤ n ∧ kv = .int .i64 (k : Int) ∧ Hid (∃ f, LnI wr t gk n f (bkF br ct k) ∧ RoV wr gr n (fun i => .int .i64 (rkF br k i)) ∧ Chg (fun j => j = gr ∨ j = gk ∨ t ≤ j) ws wr)) (fun kv _ _ _ => n - (intOf kv).toNat)
    case atStart => exact ⟨0, Nat.zero_le _, rfl, hide ⟨fun _ => .slice none 0 0, ⟨(unhide HF).rw, fun r hr => World.ownsRow_nil _ _ _ _, fun r s _ _ _ g hg => (by simp [Value.ownBlock] at hg)⟩, (unhide HF).rk, Chg.refl _ _⟩⟩
    case round =>
      obtain ⟨k, hk, rfl, HV⟩ := hrel
      by_cases hlt : k < n
      · have hlt' : (k : Int) < (n : Int) := by omega
        obtain ⟨f, hL, hG, hC⟩ := unhide HV
        have d := unhide HF
        have ht := unhide HT
        have l1 := d.box.lt
        have l2 := d.hi
        have hxn := hbr k hlt
        have a0 := World.block_lt_of_cell? _ _ (unhide H0 k hlt).1
        have a1 := World.block_lt_of_cell? _ _ (unhide H1 k hlt).1
        simp only at a0 a1
        have hds := d.bel.size
        have hne := d.ne
        have hlo := d.lo
        have b0 : RoV wr g0 n (fun i => .int .i64 (br i : Int)) := ((unhide H0).below d.bel).chg hC (by omega)
        have b1 : RoV wr g1 n (fun i => .int .i64 (ct i : Int)) := ((unhide H1).below d.bel).chg hC (by omega)
        have bx := d.box.chg hC (by omega)
        have c0 := (b0 k hlt).1
        obtain ⟨x, hx⟩ : ∃ x, br k = x := ⟨_, rfl⟩
        rw [hx] at hxn
        simp only [hx] at c0
        have c1 := (b1 x hxn).1
        have hcn := hct x hxn
        obtain ⟨c, hc⟩ : ∃ c, ct x = c := ⟨_, rfl⟩
        rw [hc] at hcn
        simp only [hc] at c1
        have hxn' : (x : Int) < (n : Int) := by omega
        have hcn' : (c : Int) < (n : Int) := by omega
        have x1 := (bx.all 1 _ rfl).1
        have x3 := (bx.all 3 _ rfl).1
        have r0 := (hG x hxn).1
        have r1 := (hG x hxn).2
        have HX := hide hx
        have HCC := hide hc
        -- the world behind the store of the rank
        have cS : Chg (fun j => j = gr) wr (wr.setCell ⟨gr, x, none⟩ (.int .i64 (k : Int))) := Chg.of_set _ _ _ _ rfl
        have hG2 := hG.put x (.int .i64 (k : Int)) hxn
        have hL2 : LnI (wr.setCell ⟨gr, x, none⟩ (.int .i64 (k : Int))) t gk n f (bkF br ct k) := hL.chg cS (by omega) (by intro j hj _; omega)
        have hC2 : Chg (fun j => j = gr ∨ j = gk ∨ t ≤ j) ws (wr.setCell ⟨gr, x, none⟩ (.int .i64 (k : Int))) := hC.trans (cS.mono (fun j _ e => Or.inl e))
        have y3 := (bx.chg cS (by omega)).all 3 _ rfl
        have y1 := b1.chg cS (by omega) x hxn
        simp only [hc] at y1
        have g3 := y3.1
        have e1 := y1.1
        have HAL := hide (And.intro hL2 (And.intro hG2 hC2))
        have HSZ := hide (show t ≤ (wr.setCell ⟨gr, x, none⟩ (.int .i64 (k : Int))).heap.size from by have := hC2.size; rw [ht] at this; exact this)
        have HNN := hide (And.intro l1 (And.intro l2 (And.intro hds (And.intro hne (And.intro hlo (And.intro a0 a1))))))
        clear hL hG hC d ht b0 b1 bx hx hc cS hG2 hL2 hC2 y3 y1 HV l1 l2 hds hne hlo a0 a1 g3 e1
        go_wp2_with fail
        generalize wr.setCell ⟨gr, x, none⟩ (.int .i64 (k : Int)) = wq at *
        obtain ⟨hL, hG, hC⟩ := unhide HAL
        have htw := unhide HSZ
        obtain ⟨l1, l2, hds, hne, hlo, a0, a1⟩ := unhide HNN
        have d := unhide HF
        have ht := unhide HT
        have bx := d.box.chg hC (by omega)
        have b1 : RoV wq g1 n (fun i => .int .i64 (ct i : Int)) := ((unhide H1).below d.bel).chg hC (by omega)
        have p3 := (bx.all 3 _ rfl).1
        have p1 := (b1 x hxn).1
        simp only [unhide HCC] at p1
        have lk := hL.row.cell hcn
        have lf := hL.row.frozen c
        obtain ⟨v, hv⟩ : ∃ v, f c = v := ⟨_, rfl⟩
        rw [hv] at lk
        obtain ⟨ys, hys⟩ : ∃ ys, bkF br ct k c = ys := ⟨_, rfl⟩
        have hyl : ys.length ≤ 128 := by
          rw [← hys]
          have := bkF_len br ct c k
          omega
        have how := hL.own c hcn
        rw [hv, hys] at how
        have HOW := hide how
        have HYS := hide hys
        have HV2 := hide hv
        have hLt : gk < t := by omega
        have hLw : gk < wq.heap.size := by omega
        have hXw : X < wq.heap.size := by omega
        have hBw : g1 < wq.heap.size := by omega
        have hvX : some X ≠ v.ownBlock := fun e => by have := (own_ge how _ e.symm).1; omega
        have hvB : some g1 ≠ v.ownBlock := fun e => by have := (own_ge how _ e.symm).1; omega
        have hvL : some gk ≠ v.ownBlock := fun e => by have := (own_ge how _ e.symm).1; omega
        have hmx : ys.length + 1 ≤ maxLen := by unfold maxLen; omega
        have hby : (ys.length + 1) * 8 ≤ 140737488355328 := by omega
        have hone : ∀ u ∈ [Value.int .i64 (k : Int)], u.oneCell' = true := by intro u hu; simp at hu; subst hu; rfl
        clear hL hG hC d ht bx b1 hv hys how x1 x3 c0 c1 r0 r1 hlt' l1 l2 hds hne hlo a0 a1
        have hHeld : (fun w' => w'.cell? ⟨X, 3, none⟩ = some (.slice (some ⟨gk, 0, none⟩) n n) ∧ w'.cell? ⟨gk, c, none⟩ = some v ∧ w'.cell? ⟨g1, x, none⟩ = some (.int .i64 (c : Int))) wq.drew := ⟨p3, lk, p1⟩
        refine anyTill_region (fun w' => w'.cell? ⟨X, 3, none⟩ = some (.slice (some ⟨gk, 0, none⟩) n n) ∧ w'.cell? ⟨gk, c, none⟩ = some v ∧ w'.cell? ⟨g1, x, none⟩ = some (.int .i64 (c : Int))) 22 (by kernel_rfl) ?_
        refine anyTill_take (i := 0) (v := ?_) rfl rfl (by kernel_rfl) (by kernel_rfl) (by kernel_rfl) (by kernel_rfl) (fun _ _ _ h => h) (Or.inl ⟨by rfl, ?_⟩) (by assumption) ?_
        rotate_left 1
        · intro W hSw
          try dsimp only at hSw
          go_simp
          try with_reducible rfl
        refine anyTill_take (i := 1) (v := ?_) rfl rfl (by kernel_rfl) (by kernel_rfl) (by kernel_rfl) (by kernel_rfl) (fun _ _ _ h => h) (Or.inl ⟨by rfl, ?_⟩) (by assumption) ?_
        rotate_left 1
        · intro W hSw
          try dsimp only at hSw
          go_simp
          try with_reducible rfl
        refine anyTill_take (i := 2) (v := ?_) rfl rfl (by kernel_rfl) (by kernel_rfl) (by kernel_rfl) (by kernel_rfl) (fun _ _ _ h => h) (Or.inl ⟨by rfl, ?_⟩) (by assumption) ?_
        rotate_left 1
        · intro W hSw
          try dsimp only at hSw
          go_simp
          try with_reducible rfl
        refine anyTill_take (i := 3) (v := ?_) rfl rfl (by kernel_rfl) (by kernel_rfl) (by kernel_rfl) (by kernel_rfl) (fun _ _ _ h => h) (Or.inl ⟨by rfl, ?_⟩) (by assumption) ?_
        rotate_left 1
        · intro W hSw
          try dsimp only at hSw
          go_simp
          try with_reducible rfl
        refine anyTill_take (i := 4) (v := ?_) rfl rfl (by kernel_rfl) (by kernel_rfl) (by kernel_rfl) (by kernel_rfl) (fun _ _ _ h => h) (Or.inl ⟨by rfl, ?_⟩) (by assumption) ?_
        rotate_left 1
        · intro W hSw
          try dsimp only at hSw
          go_simp
          try with_reducible rfl
        refine anyTill_take (i := 5) (v := ?_) rfl rfl (by kernel_rfl) (by kernel_rfl) (by kernel_rfl) (by kernel_rfl) (fun _ _ _ h => h) (Or.inl ⟨by rfl, ?_⟩) (by assumption) ?_
        rotate_left 1
        · intro W hSw
          try dsimp only at hSw
          go_simp
          try with_reducible rfl
        refine anyTill_take (i := 6) (v := ?_) rfl rfl (by kernel_rfl) (by kernel_rfl) (by kernel_rfl) (by kernel_rfl) (fun _ _ _ h => h) (Or.inl ⟨by rfl, ?_⟩) (by assumption) ?_
        rotate_left 1
        · intro W hSw
          try dsimp only at hSw
          go_simp
          try with_reducible rfl
        refine anyTill_take (i := 7) (v := ?_) rfl rfl (by kernel_rfl) (by kernel_rfl) (by kernel_rfl) (by kernel_rfl) (fun _ _ _ h => h) (Or.inl ⟨by rfl, ?_⟩) (by assumption) ?_
        rotate_left 1
        · intro W hSw
          try dsimp only at hSw
          go_simp
          try with_reducible rfl
        refine anyTill_take (i := 8) (v := ?_) rfl rfl (by kernel_rfl) (by kernel_rfl) (by kernel_rfl) (by kernel_rfl) (fun _ _ _ h => h) (Or.inl ⟨by rfl, ?_⟩) (by assumption) ?_
        rotate_left 1
        · intro W hSw
          try dsimp only at hSw
          go_simp
          try with_reducible rfl
        refine anyTill_take (i := 9) (v := ?_) rfl rfl (by kernel_rfl) (by kernel_rfl) (by kernel_rfl) (by kernel_rfl) (fun _ _ _ h => h) (Or.inl ⟨by rfl, ?_⟩) (by assumption) ?_
        rotate_left 1
        · intro W hSw
          try dsimp only at hSw
          go_simp
          try with_reducible rfl
        refine anyTill_take (i := 10) (v := ?_) rfl rfl (by kernel_rfl) (by kernel_rfl) (by kernel_rfl) (by kernel_rfl) (fun _ _ _ h => h) (Or.inl ⟨by rfl, ?_⟩) (by assumption) ?_
        rotate_left 1
        · intro W hSw
          try dsimp only at hSw
          go_simp
          try with_reducible rfl
        refine anyTill_take (i := 11) (v := ?_) rfl rfl (by kernel_rfl) (by kernel_rfl) (by kernel_rfl) (by kernel_rfl) (fun _ _ _ h => h) (Or.inl ⟨by rfl, ?_⟩) (by assumption) ?_
        rotate_left 1
        · intro W hSw
          try dsimp only at hSw
          go_simp
          try with_reducible rfl
        refine anyTill_take (i := 12) (v := ?_) rfl rfl (by kernel_rfl) (by kernel_rfl) (by kernel_rfl) (by kernel_rfl) (fun _ _ _ h => h) (Or.inl ⟨by rfl, ?_⟩) (by assumption) ?_
        rotate_left 1
        · intro W hSw
          try dsimp only at hSw
          go_simp
          try with_reducible rfl
        refine anyTill_take (i := 13) (v := ?_) rfl rfl (by kernel_rfl) (by kernel_rfl) (by kernel_rfl) (by kernel_rfl) (fun _ _ _ h => h) (Or.inl ⟨by rfl, ?_⟩) (by assumption) ?_
        rotate_left 1
        · intro W hSw
          try dsimp only at hSw
          go_simp
          try with_reducible rfl
        refine anyTill_take (i := 14) (v := ?_) rfl rfl (by kernel_rfl) (by kernel_rfl) (by kernel_rfl) (by kernel_rfl) (fun _ _ _ h => h) (Or.inl ⟨by rfl, ?_⟩) (by assumption) ?_
        rotate_left 1
        · intro W hSw
          try dsimp only at hSw
          go_simp
          try with_reducible rfl
        refine anyTill_take (i := 15) (v := ?_) rfl rfl (by kernel_rfl) (by kernel_rfl) (by kernel_rfl) (by kernel_rfl) (fun _ _ _ h => h) (Or.inl ⟨by rfl, ?_⟩) (by assumption) ?_
        rotate_left 1
        · intro W hSw
          try dsimp only at hSw
          go_simp
          try with_reducible rfl
        refine anyTill_take (i := 16) (v := ?_) rfl rfl (by kernel_rfl) (by kernel_rfl) (by kernel_rfl) (by kernel_rfl) (fun _ _ _ h => h) (Or.inl ⟨by rfl, ?_⟩) (by assumption) ?_
        rotate_left 1
        · intro W hSw
          try dsimp only at hSw
          go_simp
          try with_reducible rfl
        refine anyTill_take (i := 17) (v := ?_) rfl rfl (by kernel_rfl) (by kernel_rfl) (by kernel_rfl) (by kernel_rfl) (fun _ _ _ h => h) (Or.inl ⟨by rfl, ?_⟩) (by assumption) ?_
        rotate_left 1
        · intro W hSw
          try dsimp only at hSw
          go_simp
          try with_reducible rfl
        refine anyTill_take (i := 18) (v := ?_) rfl rfl (by kernel_rfl) (by kernel_rfl) (by kernel_rfl) (by kernel_rfl) (fun _ _ _ h => h) (Or.inl ⟨by rfl, ?_⟩) (by assumption) ?_
        rotate_left 1
        · intro W hSw
          try dsimp only at hSw
          go_simp
          try with_reducible rfl
        clear hHeld
        refine anyTill_one (i := 19) (by kernel_rfl) rfl (by rfl) (fun K hK => ?_)
        go_simp
        have hHeld : (fun w' => w'.cell? ⟨X, 3, none⟩ = some (.slice (some ⟨gk, 0, none⟩) n n) ∧ w'.cell? ⟨gk, c, none⟩ = some v ∧ w'.cell? ⟨g1, x, none⟩ = some (.int .i64 (c : Int))) (wq.alloc (Obj.cells #[Value.int IntKind.i64 (k : Int)] 3)).drew := ⟨(World.cell?_alloc_lt _ _ _ hXw).trans p3, (World.cell?_alloc_lt _ _ _ hLw).trans lk, (World.cell?_alloc_lt _ _ _ hBw).trans p1⟩
        refine hK _ _ (fun _ => hHeld) ?_
        clear hK K hHeld
        refine anyTill_one (i := 20) (by kernel_rfl) rfl (by rfl) (fun K hK => ?_)
        refine wp_append_lies _ _ _ 22 rfl t 3 i64 (.int .i64 0) 1 8 Try.underlying22 (unhide HI).1 (unhide HI).2.1 (unhide HI).2.2.1 (unhide HI).2.2.2 rfl (by decide) v ys.length (valsI ys) rfl ((unhide HOW).alloc _) ⟨wq.heap.size, 0, none⟩ 1 1 [.int .i64 (k : Int)] rfl rfl (World.news_of_block (alloc_block _ _)) hone (by decide) hmx hby (by simp <;> omega) (wq.heap.size + 1) (by simp) ?_
        intro g cap w6 hown6 hgrow6 hat6 hlt6
        have F6 := hide (And.intro hown6 (And.intro hgrow6 hat6))
        have lk6 : w6.cell? ⟨gk, c, none⟩ = some v := (hgrow6.cell_far ⟨gk, c, none⟩ (by simp; omega) hvL).trans ((World.cell?_alloc_lt _ _ _ hLw).trans lk)
        have lf6 : w6.frozen? ⟨gk, c, none⟩ = false := (hgrow6.frozen_far ⟨gk, c, none⟩ (by simp; omega) hvL).trans ((World.frozen?_alloc_old _ _ _ (Nat.ne_of_lt hLw)).trans lf)
        have g6 : w6.cell? ⟨X, 3, none⟩ = some (.slice (some ⟨gk, 0, none⟩) n n) := (hgrow6.cell_far ⟨X, 3, none⟩ (by simp; omega) hvX).trans ((World.cell?_alloc_lt _ _ _ hXw).trans p3)
        have q6 : w6.cell? ⟨g1, x, none⟩ = some (.int .i64 (c : Int)) := (hgrow6.cell_far ⟨g1, x, none⟩ (by simp; omega) hvB).trans ((World.cell?_alloc_lt _ _ _ hBw).trans p1)
        clear hown6 hgrow6 hat6 hlt6
        refine hK _ _ (fun _ => ⟨g6, lk6, q6⟩) ?_
        clear hK K
        refine anyTill_one (i := 21) (by kernel_rfl) rfl (by rfl) (fun K hK => ?_)
        go_simp
        refine hK _ _ (fun _ => ⟨g6, lk6, q6⟩) ?_
        clear hK K
        refine anyTill_one (i := 22) (by kernel_rfl) rfl (by rfl) (fun K hK => ?_)
        go_simp
        refine hK _ _ (fun h => absurd rfl h) ?_
        clear hK K
        refine anyTill_done (by kernel_rfl) ?_
        have HN := hide (LnI.app (x := (k : Int)) (unhide HAL).1 hcn hLt htw (Obj.cells #[Value.int IntKind.i64 (k : Int)] 3) (by rw [unhide HYS]; exact (unhide F6).1) (by rw [unhide HV2]; exact (show (wq.alloc _).grownBy w6 _ from ⟨(unhide F6).2.1.os, (unhide F6).2.1.tape, (unhide F6).2.1.output, (unhide F6).2.1.size, (unhide F6).2.1.block⟩)) (by rw [unhide HV2]; exact (unhide F6).2.2))
        rw [unhide HYS] at HN
        have HRK := hide ((unhide HAL).2.1.chg (unhide HN).2 (by have := (unhide HNN).2.1; have := (unhide HNN).2.2.2.1; have := unhide HT; omega))
        clear F6 g6 lk6 lf6 q6 lk lf p1 p3
        go_wp2_with fail
        refine ⟨⟨k + 1, by omega, by (first | rfl | go_num), hide ⟨_, (unhide HN).1.congr (fun r hr => ?_), (unhide HRK).congr (fun i hi => ?_), (unhide HAL).2.2.trans ((unhide HN).2.mono (fun j _ e => Or.inr e))⟩⟩, by simp [intOf]; omega⟩
        · simp only [bkF]
          rw [unhide HX, unhide HCC]
          by_cases e : r = c
          · subst e; simp [unhide HYS]
          · simp [e]
        · simp only [rkF]
          rw [unhide HX]
          by_cases e : i = x
          · simp [e]
          · simp [e]
      · obtain rfl : k = n := by omega
        have hlt' : ¬ (k : Int) < (k : Int) := by omega
        go_wp2_with fail
        try go_ret
        obtain ⟨f, hL, hG, hC⟩ := unhide HV
        have d := unhide HF
        have ht := unhide HT
        have l1 := d.box.lt
        have l2 := d.hi
        have hds := d.bel.size
        have hne := d.ne
        have hlo := d.lo
        have hsz := hC.size
        exact ⟨X, gr, gk, gg, t, f, rfl, d.box.chg hC (by omega), hG, hL, d.gn.chg hC (by omega), hne, hlo, by omega, by omega, d.bel.trans (hC.below hds (fun j hj e => by omega))⟩
  clear hK H0 H1 HI
  have hm1 := make_intsR n (by omega)
  have hm2 := make_listsI n (by omega)
  have hm3 := make_boolsP n (by omega)
  go_region
  all_goals clear hm1 hm2 hm3
  all_goals first
    | exact HK (w.heap.size + 1 + 1 + 1) w.heap.size (w.heap.size + 1) (w.heap.size + 1 + 1) _ (FlB.of (al4 w _ _ _ _).1.2.2 (al4 w _ _ _ _).1.1.1 (al4 w _ _ _ _).1.1.2 (al4 w _ _ _ _).1.2.1 (by omega) (by omega) (al4 w _ _ _ _).2.2)
    | exact HK (w.heap.size + 1 + 1 + 1) w.heap.size (w.heap.size + 1 + 1) (w.heap.size + 1) _ (FlB.of (al4 w _ _ _ _).1.2.2 (al4 w _ _ _ _).1.1.1 (al4 w _ _ _ _).1.2.1 (al4 w _ _ _ _).1.1.2 (by omega) (by omega) (al4 w _ _ _ _).2.2)
    | exact HK (w.heap.size + 1 + 1 + 1) (w.heap.size + 1) w.heap.size (w.heap.size + 1 + 1) _ (FlB.of (al4 w _ _ _ _).1.2.2 (al4 w _ _ _ _).1.1.2 (al4 w _ _ _ _).1.1.1 (al4 w _ _ _ _).1.2.1 (by omega) (by omega) (al4 w _ _ _ _).2.2)
    | exact HK (w.heap.size + 1 + 1 + 1) (w.heap.size + 1) (w.heap.size + 1 + 1) w.heap.size _ (FlB.of (al4 w _ _ _ _).1.2.2 (al4 w _ _ _ _).1.1.2 (al4 w _ _ _ _).1.2.1 (al4 w _ _ _ _).1.1.1 (by omega) (by omega) (al4 w _ _ _ _).2.2)
    | exact HK (w.heap.size + 1 + 1 + 1) (w.heap.size + 1 + 1) w.heap.size (w.heap.size + 1) _ (FlB.of (al4 w _ _ _ _).1.2.2 (al4 w _ _ _ _).1.2.1 (al4 w _ _ _ _).1.1.1 (al4 w _ _ _ _).1.1.2 (by omega) (by omega) (al4 w _ _ _ _).2.2)
    | exact HK (w.heap.size + 1 + 1 + 1) (w.heap.size + 1 + 1) (w.heap.size + 1) w.heap.size _ (FlB.of (al4 w _ _ _ _).1.2.2 (al4 w _ _ _ _).1.2.1 (al4 w _ _ _ _).1.1.2 (al4 w _ _ _ _).1.1.1 (by omega) (by omega) (al4 w _ _ _ _).2.2)
end Go.Proofs.Ytdcdgojcboinaaa
