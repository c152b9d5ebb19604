/- Upd -/
import Derived.Test.YtiadccaaoenccaaDoorBits
import Derived.Deep.RegionWith
namespace Go.Proofs.YtiadccaaoenccaaDoor
open Go.RowKit Go.Deep
set_option linter.unusedVariables false
structure Upd (b lo hi : Nat) (w w' : World) : Prop where
  os : w'.os = w.os
  tape : w'.tape = w.tape
  output : w'.output = w.output
  size : w.heap.size ≤ w'.heap.size
  block : ∀ k, k < w.heap.size → k ≠ b → w'.heap[k]? = w.heap[k]?
  cell : ∀ i, (i < lo ∨ hi ≤ i) → w'.cell? ⟨b, i, none⟩ = w.cell? ⟨b, i, none⟩
  froz : ∀ i, w'.frozen? ⟨b, i, none⟩ = w.frozen? ⟨b, i, none⟩

theorem Upd.refl (b lo hi : Nat) (w : World) : Upd b lo hi w w := ⟨rfl, rfl, rfl, Nat.le_refl _, fun _ _ _ => rfl, fun _ _ => rfl, fun _ => rfl⟩
theorem Upd.trans {b lo hi : Nat} {x y z : World} (h : Upd b lo hi x y) (k : Upd b lo hi y z) : Upd b lo hi x z :=
  ⟨k.os.trans h.os, k.tape.trans h.tape, k.output.trans h.output, Nat.le_trans h.size k.size, fun i hi hb => (k.block i (Nat.lt_of_lt_of_le hi h.size) hb).trans (h.block i hi hb),
   fun i hi => (k.cell i hi).trans (h.cell i hi), fun i => (k.froz i).trans (h.froz i)⟩
theorem Upd.mono {b lo hi lo' hi' : Nat} {w w' : World} (h : Upd b lo hi w w') (h1 : lo' ≤ lo) (h2 : hi ≤ hi') : Upd b lo' hi' w w' :=
  ⟨h.os, h.tape, h.output, h.size, h.block, fun i hi => h.cell i (by omega), h.froz⟩
theorem Upd.drew {b lo hi : Nat} {x y : World} (h : Upd b lo hi x y) : Upd b lo hi x y.drew := ⟨h.os, h.tape, h.output, h.size, h.block, h.cell, h.froz⟩
theorem Upd.drewN {b lo hi : Nat} {x y : World} (h : Upd b lo hi x y) (k : Nat) : Upd b lo hi x (y.drewN k) := ⟨h.os, h.tape, h.output, h.size, h.block, h.cell, h.froz⟩
theorem Upd.set {b lo hi : Nat} {x y : World} (h : Upd b lo hi x y) (i : Nat) (v : Value) (h1 : lo ≤ i) (h2 : i < hi) : Upd b lo hi x (y.setCell ⟨b, i, none⟩ v) :=
  ⟨h.os, h.tape, h.output, by rw [World.size_setCell]; exact h.size, fun k hk hb => (set_block_other hb v).trans (h.block k hk hb),
   fun j hj => by rw [World.cell?_setCell_other _ _ _ _ (by intro e; injection e with e1 e2; omega)]; exact h.cell j hj, fun j => by rw [World.frozen?_setCell]; exact h.froz j⟩
theorem Upd.of_below {b lo hi : Nat} {w w' : World} (hb : b < w.heap.size) (h : Below w.heap.size w w') : Upd b lo hi w w' :=
  ⟨h.os, h.tape, h.output, h.size, fun k hk _ => h.block k hk, fun i _ => h.cell (p := ⟨b, i, none⟩) hb, fun i => h.frozen (p := ⟨b, i, none⟩) hb⟩
theorem Upd.chg {b lo hi : Nat} {w w' : World} (h : Upd b lo hi w w') : Chg (fun k => k = b) w w' := ⟨h.os, h.tape, h.output, h.size, h.block⟩
theorem Upd.below {b lo hi B : Nat} {w w' : World} (h : Upd b lo hi w w') (hB : B ≤ b) (hs : B ≤ w.heap.size) : Below B w w' :=
  ⟨h.os, h.tape, h.output, h.size, fun k hk => h.block k (by omega) (by omega)⟩

theorem Upd.cells {b lo hi : Nat} {w w' : World} (h : Upd b lo hi w w') {b' off : Nat} {xs : List Nat} (hc : Cells w b' off xs) (hn : b' ≠ b ∨ off + xs.length ≤ lo ∨ hi ≤ off) : Cells w' b' off xs := by
  intro i hi
  have := hc i hi
  by_cases e : b' = b
  · subst e
    rw [h.cell _ (by omega)]; exact this
  · exact h.chg.cell e this

theorem Upd.fn {b lo hi : Nat} {w w' : World} (h : Upd b lo hi w w') {b' off n : Nat} {f : Nat → Nat} (hc : Fn w b' off n f) (hn : b' ≠ b ∨ off + n ≤ lo ∨ hi ≤ off) : Fn w' b' off n f := by
  intro i hi
  have := hc i hi
  by_cases e : b' = b
  · subst e
    rw [h.cell _ (by omega), h.froz]; exact this
  · have hlt := World.block_lt_of_cell? _ _ this.1
    exact ⟨h.chg.cell e this.1, by rw [World.frozen?_of_block (w := w) (h.block b' hlt e)]; exact this.2⟩

def valF (f : Nat → Nat) : Nat → Nat
  | 0 => 0
  | n + 1 => valF f n + 4294967296 ^ n * f n

theorem valF_congr {f g : Nat → Nat} : ∀ {n : Nat}, (∀ i, i < n → f i = g i) → valF f n = valF g n
  | 0, _ => rfl
  | n + 1, h => by simp only [valF]; rw [valF_congr (fun i hi => h i (by omega)), h n (by omega)]

theorem valF_tail {f g : Nat → Nat} {i : Nat} (x y : Nat) (he : valF f i + x = valF g i + y) : ∀ {n : Nat}, i ≤ n → (∀ j, i ≤ j → j < n → f j = g j) → valF f n + x = valF g n + y
  | 0, hn, _ => by have : i = 0 := by omega
                   subst this; exact he
  | n + 1, hn, h => by
    by_cases e : i = n + 1
    · subst e; exact he
    · have := valF_tail x y he (show i ≤ n by omega) (fun j h1 h2 => h j h1 (by omega))
      simp only [valF]
      rw [h n (by omega) (by omega)]
      omega

theorem valF_list : ∀ (xs : List Nat), valF (fun i => xs.getD i 0) xs.length = val xs := by
  intro xs
  have key : ∀ n, n ≤ xs.length → valF (fun i => xs.getD i 0) n = val (xs.take n) := by
    intro n
    induction n with
    | zero => intro _; simp [valF, val]
    | succ n ih =>
      intro hn
      simp only [valF]
      rw [ih (by omega), List.take_succ_eq_append_getElem (by omega), val_append]
      simp [val, List.getD, show n < xs.length from by omega, Nat.min_eq_left (show n ≤ xs.length by omega)]
  have := key xs.length (Nat.le_refl _)
  simpa using this

theorem valF_zero : ∀ (n : Nat), valF (fun _ => 0) n = 0
  | 0 => rfl
  | n + 1 => by simp [valF, valF_zero n]

theorem valF_lt {f : Nat → Nat} : ∀ {n : Nat}, (∀ i, i < n → f i < 4294967296) → valF f n < 4294967296 ^ n
  | 0, _ => by simp [valF]
  | n + 1, h => by
    have ih := valF_lt (fun i hi => h i (by omega) : ∀ i, i < n → f i < 4294967296)
    have hn := h n (by omega)
    simp only [valF, Nat.pow_succ]
    have : 4294967296 ^ n * (f n + 1) ≤ 4294967296 ^ n * 4294967296 := Nat.mul_le_mul_left _ hn
    rw [Nat.mul_add, Nat.mul_one] at this
    omega

theorem add_step {f g : Nat → Nat} {y k c : Nat} {s t : Nat} (he : valF g k + 4294967296 ^ k * c = s + t) :
    valF (fun i => if i = k then adl (g k) y c else g i) (k + 1) + 4294967296 ^ (k + 1) * adc (g k) y c = s + 4294967296 ^ k * g k + (t + 4294967296 ^ k * y) := by
  simp only [valF]
  rw [valF_congr (g := g) (fun i hi => by rw [if_neg (by omega)]), if_pos trivial, Nat.pow_succ]
  have e := ad_eq (g k) y c
  have : 4294967296 ^ k * adl (g k) y c + 4294967296 ^ k * 4294967296 * adc (g k) y c = 4294967296 ^ k * g k + 4294967296 ^ k * y + 4294967296 ^ k * c := by
    rw [Nat.mul_assoc, ← Nat.mul_add, e, Nat.mul_add, Nat.mul_add]
  omega

structure AddR (wr w : World) (bz oz nz : Nat) (f : Nat → Nat) (t : Nat) (k c : Nat) (g : Nat → Nat) : Prop where
  cle : c ≤ 1
  fn : Fn wr bz oz nz g
  ok : ∀ i, i < nz → g i < 4294967296
  eq : ∀ i, k ≤ i → i < nz → g i = f i
  val : valF g k + 4294967296 ^ k * c = valF f k + t
  upd : Upd bz oz (oz + nz) w wr

theorem AddR.step {wr w : World} {bz oz nz : Nat} {f : Nat → Nat} {t k c : Nat} {g : Nat → Nat} (h : AddR wr w bz oz nz f t k c g) (hk : k < nz) (y : Nat) (hy : y < 4294967296) :
    AddR (wr.setCell ⟨bz, oz + k, none⟩ (.int .u32 (adl (g k) y c : Nat))) w bz oz nz f (t + 4294967296 ^ k * y) (k + 1) (adc (g k) y c) (fun i => if i = k then adl (g k) y c else g i) := by
  refine ⟨adc_le _ _ _ (h.ok k hk) hy h.cle, h.fn.set k _ hk, ?_, ?_, ?_, h.upd.set _ _ (by omega) (by omega)⟩
  · intro i hi
    by_cases e : i = k
    · simp [e, adl_lt]
    · simp [e, h.ok i hi]
  · intro i h1 h2
    rw [if_neg (by omega)]; exact h.eq i (by omega) h2
  · have := add_step (f := f) (y := y) h.val
    rw [this]
    simp only [valF]
    rw [h.eq k (Nat.le_refl _) hk]

theorem AddR.drew {wr w : World} {bz oz nz : Nat} {f : Nat → Nat} {t k c : Nat} {g : Nat → Nat} (h : AddR wr w bz oz nz f t k c g) : AddR wr.drew w bz oz nz f t k c g := ⟨h.cle, h.fn, h.ok, h.eq, h.val, h.upd.drew⟩

set_option maxHeartbeats 2000000 in
theorem addTo_some (bz oz nz cz bb ob m cb : Nat) (f : Nat → Nat) (ys : List Nat) (w : World) (hb : bb ≠ bz) (hm : ys.length = m) (hle : m ≤ nz) (hn : nz ≤ maxLen) (oy : Ok ys) (of : ∀ i, i < nz → f i < 4294967296)
    (hz : Fn w bz oz nz f) (hy : Cells w bb ob ys) :
    Calls Tryd.prog 96 #[.slice (some ⟨bz, oz, none⟩) nz cz, .slice (some ⟨bb, ob, none⟩) m cb] w fun e w' => ∃ f' c, e = .returned (.int .u32 (c : Nat)) ∧ c ≤ 1 ∧ Fn w' bz oz nz f' ∧ (∀ i, i < nz → f' i < 4294967296) ∧
      valF f' nz + 4294967296 ^ nz * c = valF f nz + val ys ∧ Upd bz oz (oz + nz) w w' := by
  unfold maxLen at hn
  go_enter Tryd.func96, Tryd.ntmps96
  go_wp2
  go_loopw [5, 10] (fun cv i wr => ∃ k c : Nat, ∃ g : Nat → Nat, k ≤ m ∧ i = .int .i64 k ∧ cv = .int .u32 (c : Nat) ∧ AddR wr w bz oz nz f (valF (fun i => ys.getD i 0) k) k c g) (fun _ i _ => m - (intOf i).toNat)
  case atStart => exact ⟨0, 0, f, Nat.zero_le _, rfl, rfl, ⟨Nat.zero_le _, hz, of, fun _ _ _ => rfl, rfl, Upd.refl _ _ _ _⟩⟩
  case round =>
    obtain ⟨k, c, g, hk, rfl, rfl, hR⟩ := hrel
    by_cases hlt : k < m
    · have hlt' : (k:Int) < (m:Int) := by omega
      have hlt2 : (k:Int) < (nz:Int) := by omega
      have g1 := (hR.fn k (by omega)).1
      have g2 := (hR.fn k (by omega)).2
      have g3 := hR.upd.cells hy (.inl hb) k (by omega)
      have KA' := hide (fun w => add32_any (g k) (ys.getD k 0) c w (hR.ok k (by omega)) (oy.getD k) hR.cle)
      have HR := hide (show AddR _ _ _ _ _ _ (valF (fun i => ys.getD i 0) (k + 1)) _ _ _ from hR.step (by omega) (ys.getD k 0) (oy.getD k))
      generalize ys.getD k 0 = v at g3 KA' HR
      clear hR hy hz of
      go_wp2_with fail
      go_region_with (go_at_call 97; refine (unhide KA' _).mono ?_; rintro e w' ⟨rfl, rfl⟩)
      all_goals
        go_wp2
        exact ⟨⟨k + 1, _, _, by omega, by go_num, rfl, (unhide HR).drew⟩, by simp [intOf]; omega⟩
    · have hkm : k = m := by omega
      subst hkm
      have hR2 : AddR wr w bz oz nz f (val ys) k c g := by
        have e : valF (fun i => ys.getD i 0) k = val ys := by rw [← hm]; exact valF_list ys
        rw [← e]; exact hR
      clear hR hy hz of oy hm
      have hkn := hle
      obtain ⟨wo, rfl⟩ : ∃ wo : World, wo = wr := ⟨_, rfl⟩
      go_wp2
      go_loopw [5, 7] (fun cv i wr => ∃ q c : Nat, ∃ g : Nat → Nat, k ≤ q ∧ q ≤ nz ∧ i = .int .i64 q ∧ cv = .int .u32 (c : Nat) ∧ AddR wr w bz oz nz f (val ys) q c g) (fun _ i _ => nz - (intOf i).toNat)
      case atStart => exact ⟨k, c, g, Nat.le_refl _, hle, rfl, rfl, hR2⟩
      case round =>
        clear hR2
        obtain ⟨q, c, g, hkq, hqn, rfl, rfl, hR⟩ := hrel
        by_cases hc0 : c = 0
        · have hfin : valF g nz + 4294967296 ^ nz * 0 = valF f nz + val ys := by
            have hv := hR.val
            rw [hc0] at hv
            have := valF_tail (4294967296 ^ q * 0) (val ys) hv hqn hR.eq
            simpa using this
          have HR := hide (And.intro hR hfin)
          have hb0 : (((c : Nat) : Int) != 0) = false := by rw [hc0]; rfl
          have HC := hide hc0
          clear hR hfin hc0
          go_wp2
          go_ret
          refine ⟨g, c, rfl, (unhide HR).1.cle, (unhide HR).1.fn, (unhide HR).1.ok, ?_, (unhide HR).1.upd⟩
          rw [unhide HC]; exact (unhide HR).2
        · have hb0 : (((c : Nat) : Int) != 0) = true := by rw [bne_iff_ne]; omega
          by_cases hlt2 : q < nz
          · have hlt' : (q:Int) < (nz:Int) := by omega
            have g1 := (hR.fn q hlt2).1
            have g2 := (hR.fn q hlt2).2
            have KA' := hide (fun w => add32_any (g q) 0 c w (hR.ok q hlt2) (by decide) hR.cle)
            have HR := hide (show AddR _ _ _ _ _ _ (val ys) _ _ _ from hR.step hlt2 0 (by decide))
            clear hR hc0
            go_wp2_with (go_at_call 97; refine (unhide KA' _).mono ?_; rintro e w' ⟨rfl, rfl⟩)
            exact ⟨⟨q + 1, _, _, by omega, by omega, by go_num, rfl, unhide HR⟩, by simp [intOf]; omega⟩
          · have hq : q = nz := by omega
            have HR := hide hR
            have HQ := hide hq
            have hlt' : ¬ (q:Int) < (nz:Int) := by omega
            clear hR hq hc0
            go_wp2
            go_ret
            refine ⟨g, c, rfl, (unhide HR).cle, (unhide HR).fn, (unhide HR).ok, ?_, (unhide HR).upd⟩
            have := (unhide HR).val
            rw [unhide HQ] at this
            exact this
theorem sub_step {f g : Nat → Nat} {y k c : Nat} {s t : Nat} (he : valF g k + t = s + 4294967296 ^ k * c) (hg : g k < 4294967296) (hy : y < 4294967296) (hc : c ≤ 1) :
    valF (fun i => if i = k then lim (g k) y c else g i) (k + 1) + (t + 4294967296 ^ k * y) = s + 4294967296 ^ k * g k + 4294967296 ^ (k + 1) * bor (g k) (y + c) := by
  simp only [valF]
  rw [valF_congr (g := g) (fun i hi => by rw [if_neg (by omega)]), if_pos trivial, Nat.pow_succ]
  have e := lim_eq (g k) y c hg hy hc
  have : 4294967296 ^ k * lim (g k) y c + 4294967296 ^ k * y + 4294967296 ^ k * c = 4294967296 ^ k * g k + 4294967296 ^ k * 4294967296 * bor (g k) (y + c) := by
    rw [← Nat.mul_add, ← Nat.mul_add, e, Nat.mul_add, Nat.mul_assoc]
  omega

structure SubR (wr w : World) (bz oz nz : Nat) (f : Nat → Nat) (t : Nat) (k c : Nat) (g : Nat → Nat) : Prop where
  cle : c ≤ 1
  fn : Fn wr bz oz nz g
  ok : ∀ i, i < nz → g i < 4294967296
  eq : ∀ i, k ≤ i → i < nz → g i = f i
  val : valF g k + t = valF f k + 4294967296 ^ k * c
  upd : Upd bz oz (oz + nz) w wr

theorem SubR.step {wr w : World} {bz oz nz : Nat} {f : Nat → Nat} {t k c : Nat} {g : Nat → Nat} (h : SubR wr w bz oz nz f t k c g) (hk : k < nz) (y : Nat) (hy : y < 4294967296) :
    SubR (wr.setCell ⟨bz, oz + k, none⟩ (.int .u32 (lim (g k) y c : Nat))) w bz oz nz f (t + 4294967296 ^ k * y) (k + 1) (bor (g k) (y + c)) (fun i => if i = k then lim (g k) y c else g i) := by
  refine ⟨bor_le _ _, h.fn.set k _ hk, ?_, ?_, ?_, h.upd.set _ _ (by omega) (by omega)⟩
  · intro i hi
    by_cases e : i = k
    · simp [e, lim_lt]
    · simp [e, h.ok i hi]
  · intro i h1 h2
    rw [if_neg (by omega)]; exact h.eq i (by omega) h2
  · have := sub_step (f := f) (y := y) h.val (h.ok k hk) hy h.cle
    rw [this]
    simp only [valF]
    rw [h.eq k (Nat.le_refl _) hk]

theorem SubR.drew {wr w : World} {bz oz nz : Nat} {f : Nat → Nat} {t k c : Nat} {g : Nat → Nat} (h : SubR wr w bz oz nz f t k c g) : SubR wr.drew w bz oz nz f t k c g := ⟨h.cle, h.fn, h.ok, h.eq, h.val, h.upd.drew⟩
end Go.Proofs.YtiadccaaoenccaaDoor
