/-
  natural.subTimes, takeQuotient: contracts.
-/
import Derived.Test.YtlecjjcpidjmhaaDv2
namespace Go.Proofs.Ytlecjjcpidjmhaa
open Go.RowKit Go.Deep
set_option linter.unusedVariables false

def pl (x y c : Nat) : Nat := (x * y + c) % 4294967296
def ph (x y c : Nat) : Nat := (x * y + c) / 4294967296
theorem pl_lt (x y c : Nat) : pl x y c < 4294967296 := by unfold pl; exact Nat.mod_lt _ (by decide)
theorem pl_eq (x y c : Nat) : pl x y c + 4294967296 * ph x y c = x * y + c := by unfold pl ph; exact Nat.mod_add_div _ _
theorem pl_int (x y c : Nat) : ((x : Int) * y + c) % 4294967296 = ((pl x y c : Nat) : Int) := by unfold pl; rw [Int.natCast_emod, Int.natCast_add, Int.natCast_mul]; rfl
theorem ph_int (x y c : Nat) : ((x : Int) * y + c) / 4294967296 = ((ph x y c : Nat) : Int) := by unfold ph; rw [Int.natCast_ediv, Int.natCast_add, Int.natCast_mul]; rfl
theorem ph_lt {x y c u : Nat} (hx : x < 4294967296) (hy : y < 4294967296) (hc : c < 4294967296) (hu : u < 4294967296) : ph x y c + bor u (pl x y c) < 4294967296 := by
  have e := pl_eq x y c
  have h1 : x * y ≤ 4294967295 * 4294967295 := Nat.mul_le_mul (by omega) (by omega)
  unfold bor
  split <;> omega

/-- What a round of subTimes leaves. -/
structure StR (wr w : World) (bz oz n : Nat) (f : Nat → Nat) (g : Nat) (ys : List Nat) (k c : Nat) (h : Nat → Nat) : Prop where
  cle : c < 4294967296
  fn : Fn wr bz oz n h
  ok : ∀ i, i < n → h i < 4294967296
  eq : ∀ i, k ≤ i → i < n → h i = f i
  val : valF h k + g * valF (fun i => ys.getD i 0) k = valF f k + 4294967296 ^ k * c
  upd : Upd bz oz (oz + n) w wr

theorem st_arith {A G Y F P c h' y g f c' : Nat} (e : A + g * Y = F + P * c) (s : h' + (y * g + c) = f + 4294967296 * c') : A + P * h' + g * (Y + P * y) = F + P * f + P * 4294967296 * c' := by
  have : P * (h' + (y * g + c)) = P * (f + 4294967296 * c') := by rw [s]
  rw [Nat.mul_add, Nat.mul_add, Nat.mul_add, ← Nat.mul_assoc P 4294967296] at this
  rw [Nat.mul_add g, Nat.mul_left_comm g P y, Nat.mul_comm g y]
  omega

theorem StR.step {wr w : World} {bz oz n : Nat} {f : Nat → Nat} {g : Nat} {ys : List Nat} {k c : Nat} {h : Nat → Nat} (s : StR wr w bz oz n f g ys k c h) (hk : k < n) (hg : g < 4294967296) (hy : ys.getD k 0 < 4294967296) :
    StR (wr.setCell ⟨bz, oz + k, none⟩ (.int .u32 (lim (h k) (pl (ys.getD k 0) g c) 0 : Nat))) w bz oz n f g ys (k + 1) (ph (ys.getD k 0) g c + bor (h k) (pl (ys.getD k 0) g c)) (fun i => if i = k then lim (h k) (pl (ys.getD k 0) g c) 0 else h i) := by
  have e1 := pl_eq (ys.getD k 0) g c
  have e2 := lim_eq (h k) (pl (ys.getD k 0) g c) 0 (s.ok k hk) (pl_lt _ _ _) (by decide)
  refine ⟨ph_lt hy hg s.cle (s.ok k hk), s.fn.set k _ hk, ?_, ?_, ?_, s.upd.set _ _ (by omega) (by omega)⟩
  · intro i hi
    by_cases e : i = k
    · simp only [e, if_true]; exact lim_lt _ _ _
    · simp only [e, if_false]; exact s.ok i hi
  · intro i h1 h2
    rw [if_neg (by omega)]
    exact s.eq i (by omega) h2
  · simp only [valF, if_true]
    rw [valF_congr (g := h) (fun i hi => by rw [if_neg (by omega)]), Nat.pow_succ]
    refine st_arith (G := 0) s.val ?_
    rw [← s.eq k (Nat.le_refl _) hk]
    simp only [Nat.add_zero] at e2
    omega

theorem StR.drewN {wr w : World} {bz oz n : Nat} {f : Nat → Nat} {g : Nat} {ys : List Nat} {k c : Nat} {h : Nat → Nat} (s : StR wr w bz oz n f g ys k c h) (j : Nat) : StR (wr.drewN j) w bz oz n f g ys k c h := ⟨s.cle, s.fn, s.ok, s.eq, s.val, s.upd.drewN j⟩

def StPost (w : World) (bz oz n : Nat) (f : Nat → Nat) (g : Nat) (ys : List Nat) (e : Ending) (w' : World) : Prop :=
  ∃ (c : Nat) (h : Nat → Nat), e = .returned (.int .u32 (c : Nat)) ∧ c < 4294967296 ∧ Fn w' bz oz n h ∧ (∀ i, i < n → h i < 4294967296) ∧ valF h n + g * val ys = valF f n + 4294967296 ^ n * c ∧ Upd bz oz (oz + n) w w'

set_option maxHeartbeats 2000000 in
/-- natural.subTimes. -/
theorem subTimes_any (bz oz n cz bv ov cv g : Nat) (f : Nat → Nat) (ys : List Nat) (w : World) (hn : n ≤ 1000000000) (hl : ys.length = n) (oy : Ok ys) (ok : ∀ i, i < n → f i < 4294967296) (h : Fn w bz oz n f) (hy : Cells w bv ov ys) (hb : bv ≠ bz) (hg : g < 4294967296) :
    Calls Try.prog 90 #[.slice (some ⟨bz, oz, none⟩) n cz, .slice (some ⟨bv, ov, none⟩) n cv, .int .u32 (g : Nat)] w fun e w' => StPost w bz oz n f g ys e w' := by
  have HR0 := hide (show StR w w bz oz n f g ys 0 0 f from ⟨by decide, h, ok, fun _ _ _ => rfl, by simp [valF], Upd.refl _ _ _ _⟩)
  have HY := hide hy
  have HL := hide hl
  clear h ok hy hl
  go_enter Try.func90, Try.ntmps90
  go_wp2
  go_loopw [7, 12] (fun cv i wr => ∃ k c : Nat, ∃ h : Nat → Nat, k ≤ n ∧ i = .int .i64 k ∧ cv = .int .u64 (c : Nat) ∧ StR wr w bz oz n f g ys k c h) (fun _ i _ => n - (intOf i).toNat)
  case atStart => exact ⟨0, 0, f, Nat.zero_le _, rfl, rfl, unhide HR0⟩
  case round =>
    clear HR0
    obtain ⟨k, c, h, hk, rfl, rfl, hR⟩ := hrel
    by_cases hlt : k < n
    · have hlt' : (k:Int) < (n:Int) := by omega
      have g1 := (hR.fn k hlt).1
      have g2 := (hR.fn k hlt).2
      have g3 := hR.upd.cells (unhide HY) (.inl hb) k (by rw [unhide HL]; exact hlt)
      have by' := oy.getD k
      have br := hR.ok k hlt
      have hc := hR.cle
      have HS := hide (hR.step hlt hg by')
      have mb : ((ys.getD k 0 : Nat) : Int) * ((g : Nat) : Int) ≤ 18446744065119617025 := by
        have := mul_bound by' hg
        rw [← Int.natCast_mul]; omega
      have mb0 : 0 ≤ ((ys.getD k 0 : Nat) : Int) * ((g : Nat) : Int) := Int.mul_nonneg (by omega) (by omega)
      have e1 := pl_int (ys.getD k 0) g c
      have e2 := ph_int (ys.getD k 0) g c
      have bp := pl_lt (ys.getD k 0) g c
      have bh := ph_lt by' hg hc br
      have e3 : ((h k : Nat) : Int) - ((pl (ys.getD k 0) g c : Nat) : Int) = ((h k : Nat) : Int) - ((pl (ys.getD k 0) g c : Nat) : Int) - ((0 : Nat) : Int) := by omega
      have e4 := sub_mod (h k) (pl (ys.getD k 0) g c) 0 br bp (by decide)
      rw [← e3] at e4
      clear e3
      generalize ys.getD k 0 = y at *
      generalize pl y g c = p at *
      generalize ph y g c = q at *
      generalize hrr : h k = r at *
      have HQ := hide hrr
      clear hR hrr
      by_cases hs : r < p
      · have hs' : (r:Int) < (p:Int) := by omega
        have eb : bor r p = 1 := by unfold bor; rw [if_pos hs]
        rw [eb] at HS bh
        clear eb
        go_wp2_with fail
        exact ⟨⟨k + 1, _, _, by omega, by go_num, by go_num, unhide HS⟩, by simp [intOf]; omega⟩
      · have hs' : ¬ (r:Int) < (p:Int) := by omega
        have eb : bor r p = 0 := by unfold bor; rw [if_neg hs]
        have e5 : ((lim r p 0 : Nat) : Int) = (r:Int) - (p:Int) := by rw [← e4]; omega
        rw [eb, e5] at HS
        rw [eb] at bh
        clear eb e5
        go_wp2_with fail
        exact ⟨⟨k + 1, _, _, by omega, by go_num, by go_num, unhide HS⟩, by simp [intOf]; omega⟩
    · have hkn : k = n := by omega
      have hc := hR.cle
      have hv : valF h n + g * val ys = valF f n + 4294967296 ^ n * c := by
        have hv := hR.val
        rw [hkn] at hv
        rw [← unhide HL, valF_list, unhide HL] at hv
        exact hv
      have HR := hide (And.intro hR hv)
      clear hR hv hkn
      go_wp2
      go_ret
      exact ⟨c, h, rfl, hc, (unhide HR).1.fn, (unhide HR).1.ok, (unhide HR).2, (unhide HR).1.upd⟩
end Go.Proofs.Ytlecjjcpidjmhaa
