/- Dv3 -/
import Derived.Test.YtiadccaaoenccaaDoorDv2
namespace Go.Proofs.YtiadccaaoenccaaDoor
open Go.RowKit Go.Deep
set_option linter.unusedVariables false
def pl (x y c : Nat) : Nat := (x * y + c) % 4294967296
def ph (x y c : Nat) : Nat := (x * y + c) / 4294967296
theorem pl_lt (x y c : Nat) : pl x y c < 4294967296 := by unfold pl; exact Nat.mod_lt _ (by decide)
theorem pl_eq (x y c : Nat) : pl x y c + 4294967296 * ph x y c = x * y + c := by unfold pl ph; exact Nat.mod_add_div _ _
theorem pl_int (x y c : Nat) : ((x : Int) * y + c) % 4294967296 = ((pl x y c : Nat) : Int) := by unfold pl; rw [Int.natCast_emod, Int.natCast_add, Int.natCast_mul]; rfl
theorem ph_int (x y c : Nat) : ((x : Int) * y + c) / 4294967296 = ((ph x y c : Nat) : Int) := by unfold ph; rw [Int.natCast_ediv, Int.natCast_add, Int.natCast_mul]; rfl
theorem ph_lt {x y c u : Nat} (hx : x < 4294967296) (hy : y < 4294967296) (hc : c < 4294967296) (hu : u < 4294967296) : ph x y c + bor u (pl x y c) < 4294967296 := by
  have e := pl_eq x y c
  have h1 : x * y ≤ 4294967295 * 4294967295 := Nat.mul_le_mul (by omega) (by omega)
  unfold bor
  split <;> omega

structure StR (wr w : World) (bz oz n : Nat) (f : Nat → Nat) (g : Nat) (ys : List Nat) (k c : Nat) (h : Nat → Nat) : Prop where
  cle : c < 4294967296
  fn : Fn wr bz oz n h
  ok : ∀ i, i < n → h i < 4294967296
  eq : ∀ i, k ≤ i → i < n → h i = f i
  val : valF h k + g * valF (fun i => ys.getD i 0) k = valF f k + 4294967296 ^ k * c
  upd : Upd bz oz (oz + n) w wr

theorem st_arith {A G Y F P c h' y g f c' : Nat} (e : A + g * Y = F + P * c) (s : h' + (y * g + c) = f + 4294967296 * c') : A + P * h' + g * (Y + P * y) = F + P * f + P * 4294967296 * c' := by
  have : P * (h' + (y * g + c)) = P * (f + 4294967296 * c') := by rw [s]
  rw [Nat.mul_add, Nat.mul_add, Nat.mul_add, ← Nat.mul_assoc P 4294967296] at this
  rw [Nat.mul_add g, Nat.mul_left_comm g P y, Nat.mul_comm g y]
  omega

theorem StR.step {wr w : World} {bz oz n : Nat} {f : Nat → Nat} {g : Nat} {ys : List Nat} {k c : Nat} {h : Nat → Nat} (s : StR wr w bz oz n f g ys k c h) (hk : k < n) (hg : g < 4294967296) (hy : ys.getD k 0 < 4294967296) :
    StR (wr.setCell ⟨bz, oz + k, none⟩ (.int .u32 (lim (h k) (pl (ys.getD k 0) g c) 0 : Nat))) w bz oz n f g ys (k + 1) (ph (ys.getD k 0) g c + bor (h k) (pl (ys.getD k 0) g c)) (fun i => if i = k then lim (h k) (pl (ys.getD k 0) g c) 0 else h i) := by
  have e1 := pl_eq (ys.getD k 0) g c
  have e2 := lim_eq (h k) (pl (ys.getD k 0) g c) 0 (s.ok k hk) (pl_lt _ _ _) (by decide)
  refine ⟨ph_lt hy hg s.cle (s.ok k hk), s.fn.set k _ hk, ?_, ?_, ?_, s.upd.set _ _ (by omega) (by omega)⟩
  · intro i hi
    by_cases e : i = k
    · simp only [e, if_true]; exact lim_lt _ _ _
    · simp only [e, if_false]; exact s.ok i hi
  · intro i h1 h2
    rw [if_neg (by omega)]
    exact s.eq i (by omega) h2
  · simp only [valF, if_true]
    rw [valF_congr (g := h) (fun i hi => by rw [if_neg (by omega)]), Nat.pow_succ]
    refine st_arith (G := 0) s.val ?_
    rw [← s.eq k (Nat.le_refl _) hk]
    simp only [Nat.add_zero] at e2
    omega

theorem StR.drewN {wr w : World} {bz oz n : Nat} {f : Nat → Nat} {g : Nat} {ys : List Nat} {k c : Nat} {h : Nat → Nat} (s : StR wr w bz oz n f g ys k c h) (j : Nat) : StR (wr.drewN j) w bz oz n f g ys k c h := ⟨s.cle, s.fn, s.ok, s.eq, s.val, s.upd.drewN j⟩

def StPost (w : World) (bz oz n : Nat) (f : Nat → Nat) (g : Nat) (ys : List Nat) (e : Ending) (w' : World) : Prop :=
  ∃ (c : Nat) (h : Nat → Nat), e = .returned (.int .u32 (c : Nat)) ∧ c < 4294967296 ∧ Fn w' bz oz n h ∧ (∀ i, i < n → h i < 4294967296) ∧ valF h n + g * val ys = valF f n + 4294967296 ^ n * c ∧ Upd bz oz (oz + n) w w'

set_option maxHeartbeats 2000000 in
theorem subTimes_any (bz oz n cz bv ov cv g : Nat) (f : Nat → Nat) (ys : List Nat) (w : World) (hn : n ≤ 1000000000) (hl : ys.length = n) (oy : Ok ys) (ok : ∀ i, i < n → f i < 4294967296) (h : Fn w bz oz n f) (hy : Cells w bv ov ys) (hb : bv ≠ bz) (hg : g < 4294967296) :
    Calls Tryd.prog 95 #[.slice (some ⟨bz, oz, none⟩) n cz, .slice (some ⟨bv, ov, none⟩) n cv, .int .u32 (g : Nat)] w fun e w' => StPost w bz oz n f g ys e w' := by
  have HR0 := hide (show StR w w bz oz n f g ys 0 0 f from ⟨by decide, h, ok, fun _ _ _ => rfl, by simp [valF], Upd.refl _ _ _ _⟩)
  have HY := hide hy
  have HL := hide hl
  clear h ok hy hl
  go_enter Tryd.func95, Tryd.ntmps95
  go_wp2
  go_loopw [7, 12] (fun cv i wr => ∃ k c : Nat, ∃ h : Nat → Nat, k ≤ n ∧ i = .int .i64 k ∧ cv = .int .u64 (c : Nat) ∧ StR wr w bz oz n f g ys k c h) (fun _ i _ => n - (intOf i).toNat)
  case atStart => exact ⟨0, 0, f, Nat.zero_le _, rfl, rfl, unhide HR0⟩
  case round =>
    clear HR0
    obtain ⟨k, c, h, hk, rfl, rfl, hR⟩ := hrel
    by_cases hlt : k < n
    · have hlt' : (k:Int) < (n:Int) := by omega
      have g1 := (hR.fn k hlt).1
      have g2 := (hR.fn k hlt).2
      have g3 := hR.upd.cells (unhide HY) (.inl hb) k (by rw [unhide HL]; exact hlt)
      have by' := oy.getD k
      have br := hR.ok k hlt
      have hc := hR.cle
      have HS := hide (hR.step hlt hg by')
      have mb : ((ys.getD k 0 : Nat) : Int) * ((g : Nat) : Int) ≤ 18446744065119617025 := by
        have := mul_bound by' hg
        rw [← Int.natCast_mul]; omega
      have mb0 : 0 ≤ ((ys.getD k 0 : Nat) : Int) * ((g : Nat) : Int) := Int.mul_nonneg (by omega) (by omega)
      have e1 := pl_int (ys.getD k 0) g c
      have e2 := ph_int (ys.getD k 0) g c
      have bp := pl_lt (ys.getD k 0) g c
      have bh := ph_lt by' hg hc br
      have e3 : ((h k : Nat) : Int) - ((pl (ys.getD k 0) g c : Nat) : Int) = ((h k : Nat) : Int) - ((pl (ys.getD k 0) g c : Nat) : Int) - ((0 : Nat) : Int) := by omega
      have e4 := sub_mod (h k) (pl (ys.getD k 0) g c) 0 br bp (by decide)
      rw [← e3] at e4
      clear e3
      generalize ys.getD k 0 = y at *
      generalize pl y g c = p at *
      generalize ph y g c = q at *
      generalize hrr : h k = r at *
      have HQ := hide hrr
      clear hR hrr
      by_cases hs : r < p
      · have hs' : (r:Int) < (p:Int) := by omega
        have eb : bor r p = 1 := by unfold bor; rw [if_pos hs]
        rw [eb] at HS bh
        clear eb
        go_wp2_with fail
        exact ⟨⟨k + 1, _, _, by omega, by go_num, by go_num, unhide HS⟩, by simp [intOf]; omega⟩
      · have hs' : ¬ (r:Int) < (p:Int) := by omega
        have eb : bor r p = 0 := by unfold bor; rw [if_neg hs]
        have e5 : ((lim r p 0 : Nat) : Int) = (r:Int) - (p:Int) := by rw [← e4]; omega
        rw [eb, e5] at HS
        rw [eb] at bh
        clear eb e5
        go_wp2_with fail
        exact ⟨⟨k + 1, _, _, by omega, by go_num, by go_num, unhide HS⟩, by simp [intOf]; omega⟩
    · have hkn : k = n := by omega
      have hc := hR.cle
      have hv : valF h n + g * val ys = valF f n + 4294967296 ^ n * c := by
        have hv := hR.val
        rw [hkn] at hv
        rw [← unhide HL, valF_list, unhide HL] at hv
        exact hv
      have HR := hide (And.intro hR hv)
      clear hR hv hkn
      go_wp2
      go_ret
      exact ⟨c, h, rfl, hc, (unhide HR).1.fn, (unhide HR).1.ok, (unhide HR).2, (unhide HR).1.upd⟩
theorem three_top (f : Nat → Nat) (n : Nat) (hn : 2 ≤ n) : valF f (n + 1) = valF f (n - 2) + 4294967296 ^ (n - 2) * (f (n - 2) + 4294967296 * (f (n - 1) + 4294967296 * f n)) := by
  obtain ⟨m, rfl⟩ : ∃ m, n = m + 2 := ⟨n - 2, by omega⟩
  simp only [valF, Nat.add_sub_cancel]
  rw [show m + 2 - 1 = m + 1 from by omega, Nat.pow_succ 4294967296 (m + 1), Nat.pow_succ 4294967296 m]
  generalize 4294967296 ^ m = P
  simp only [Nat.mul_add, Nat.mul_assoc]
  omega

theorem two_top (f : Nat → Nat) (n : Nat) (hn : 2 ≤ n) : valF f n = valF f (n - 2) + 4294967296 ^ (n - 2) * (f (n - 2) + 4294967296 * f (n - 1)) := by
  obtain ⟨m, rfl⟩ : ∃ m, n = m + 2 := ⟨n - 2, by omega⟩
  simp only [valF, Nat.add_sub_cancel]
  rw [show m + 2 - 1 = m + 1 from by omega, Nat.pow_succ]
  generalize 4294967296 ^ m = P
  rw [Nat.mul_add, Nat.mul_assoc]
  omega

theorem gs_of {n : Nat} {f : Nat → Nat} {ys : List Nat} (hn : 2 ≤ n) (hl : ys.length = n) (oy : Ok ys) (ok : ∀ i, i < n + 1 → f i < 4294967296) (ht : 2147483648 ≤ ys.getD (n - 1) 0) (hu : valF f (n + 1) < val ys * 4294967296) :
    Gs (4294967296 ^ (n - 2)) (f n) (f (n - 1)) (f (n - 2)) (valF f (n - 2)) (ys.getD (n - 1) 0) (ys.getD (n - 2) 0) (valF (fun i => ys.getD i 0) (n - 2)) := by
  refine ⟨pow_pos _, ok n (by omega), ok _ (by omega), ok _ (by omega), valF_lt (fun i hi => ok i (by omega)), oy.getD _, ht, oy.getD _, valF_lt (fun i hi => oy.getD _), ?_⟩
  rw [← three_top f n hn]
  have := two_top (fun i => ys.getD i 0) n hn
  rw [← this]
  rw [← hl, valF_list, hl]
  exact hu

theorem tq_right {P X F t c gV U V g : Nat} (h1 : X + g * V = F + P * c) (hU : U = F + P * t) (h : c ≤ t) : X + P * (t - c) + g * V = U := by
  subst hU
  have : P * t = P * (t - c) + P * c := by rw [← Nat.mul_add, Nat.sub_add_cancel h]
  omega

theorem tq_short {P X X2 F t c d U V g : Nat} (h1 : X + g * V = F + P * c) (h2 : X2 + P * d = X + V) (hU : U = F + P * t) (h : t < c) (hd : d ≤ 1) (hX : X < P) (hX2 : X2 < P) (hg : g * V < U + V) : c = t + 1 ∧ d = 1 ∧ 1 ≤ g ∧ X2 + (g - 1) * V = U ∧ X2 < V := by
  subst hU
  have hc1 : P * c = P * t + P * (c - t) := by rw [← Nat.mul_add]; congr 1; omega
  have hc2 : P * 1 ≤ P * (c - t) := Nat.mul_le_mul_left _ (by omega)
  have hd1 : d = 1 := by
    rcases Nat.lt_or_ge d 1 with k | k
    · exfalso
      have : d = 0 := by omega
      subst this
      simp at h2
      omega
    · omega
  subst hd1
  have hc3 : c = t + 1 := by
    rcases Nat.lt_or_ge (c - t) 2 with k | k
    · omega
    · exfalso
      have : P * 2 ≤ P * (c - t) := Nat.mul_le_mul_left _ k
      omega
  subst hc3
  rw [Nat.mul_add] at h1
  have hg1 : 1 ≤ g := by
    rcases Nat.eq_zero_or_pos g with k | k
    · exfalso; subst k; simp at h1; omega
    · exact k
  have e : (g - 1) * V + V = g * V := by
    obtain ⟨k, rfl⟩ : ∃ k, g = k + 1 := ⟨g - 1, by omega⟩
    rw [Nat.add_sub_cancel, Nat.add_mul, Nat.one_mul]
  exact ⟨rfl, rfl, hg1, by omega, by omega⟩

def TqPost (w : World) (bu ou n : Nat) (f : Nat → Nat) (V : Nat) (e : Ending) (w' : World) : Prop :=
  ∃ (q : Nat) (f' : Nat → Nat), e = .returned (.int .u32 (q : Nat)) ∧ q < 4294967296 ∧ Fn w' bu ou (n + 1) f' ∧ (∀ i, i < n + 1 → f' i < 4294967296) ∧ valF f' (n + 1) + q * V = valF f (n + 1) ∧ valF f' (n + 1) < V ∧ Upd bu ou (ou + (n + 1)) w w'

theorem Fn.low {w : World} {b off n : Nat} {f : Nat → Nat} (h : Fn w b off (n + 1) f) : Fn w b off n f := fun i hi => h i (by omega)

theorem Fn.top {w : World} {b off n v : Nat} {g : Nat → Nat} (h : Fn w b off n g) (k : w.cell? ⟨b, off + n, none⟩ = some (.int .u32 (v : Nat))) (kf : w.frozen? ⟨b, off + n, none⟩ = false) : Fn w b off (n + 1) (fun i => if i = n then v else g i) := by
  intro i hi
  by_cases e : i = n
  · subst e; simp only [if_true]; exact ⟨k, kf⟩
  · simp only [e, if_false]; exact h i (by omega)

theorem valF_top (n v : Nat) (g : Nat → Nat) : valF (fun i => if i = n then v else g i) (n + 1) = valF g n + 4294967296 ^ n * v := by
  simp only [valF, if_true]
  rw [valF_congr (g := g) (fun i hi => by rw [if_neg (by omega)])]

theorem Upd.setTop {b off n : Nat} {w w' : World} (u : Upd b off (off + n) w w') (v : Value) : Upd b off (off + (n + 1)) w (w'.setCell ⟨b, off + n, none⟩ v) :=
  (u.mono (Nat.le_refl _) (by omega)).set _ _ (by omega) (by omega)

theorem setTop_fn {b off n : Nat} {w : World} {g : Nat → Nat} {v x : Nat} (h : Fn w b off n g) (k : w.cell? ⟨b, off + n, none⟩ = some (.int .u32 (x : Nat))) (kf : w.frozen? ⟨b, off + n, none⟩ = false) : Fn (w.setCell ⟨b, off + n, none⟩ (.int .u32 (v : Nat))) b off n g ∧ (w.setCell ⟨b, off + n, none⟩ (.int .u32 (v : Nat))).cell? ⟨b, off + n, none⟩ = some (.int .u32 (v : Nat)) ∧ (w.setCell ⟨b, off + n, none⟩ (.int .u32 (v : Nat))).frozen? ⟨b, off + n, none⟩ = false := by
  refine ⟨?_, World.cell?_setCell_same _ _ _ k, by rw [World.frozen?_setCell]; exact kf⟩
  intro i hi
  rw [World.cell?_setCell_other _ _ _ _ (by intro h; injection h with h1 h2; omega), World.frozen?_setCell]
  exact h i hi

theorem fn_drew {w : World} {b off n : Nat} {f : Nat → Nat} (h : Fn w b off n f) : Fn w.drew b off n f := h
theorem cells_drew {w : World} {b off : Nat} {ys : List Nat} (h : Cells w b off ys) : Cells w.drew b off ys := h

set_option maxHeartbeats 4000000 in
theorem takeQ_any (bu ou n bv ov cv : Nat) (f : Nat → Nat) (ys : List Nat) (w : World) (hn : 2 ≤ n) (hm : n ≤ 1000000) (hl : ys.length = n) (hcv : n ≤ cv) (hcm : cv ≤ maxLen) (oy : Ok ys) (ok : ∀ i, i < n + 1 → f i < 4294967296) (ht : 2147483648 ≤ ys.getD (n - 1) 0) (hu : valF f (n + 1) < val ys * 4294967296)
    (h : Fn w bu ou (n + 1) f) (hy : Cells w bv ov ys) (hb : bv ≠ bu) :
    Calls Tryd.prog 92 #[.slice (some ⟨bu, ou, none⟩) (n + 1) (n + 1), .slice (some ⟨bv, ov, none⟩) n cv] w fun e w' => TqPost w bu ou n f (val ys) e w' := by
  have gs := gs_of hn hl oy ok ht hu
  have KG := guess_any bu ou n (n + 1) bv ov cv _ _ _ _ _ _ _ _ w gs hn (by omega) (h n (by omega)).1 (h (n - 1) (by omega)).1 (h (n - 2) (by omega)).1 (hy (n - 1) (by omega)) (hy (n - 2) (by omega))
  have e2 := two_top (fun i => ys.getD i 0) n hn
  rw [← three_top f n hn, ← e2] at KG
  rw [← hl, valF_list, hl] at KG
  clear gs e2
  have HT := h n (by omega)
  have bt := ok n (by omega)
  have HL := hide hl
  have HY := hide hy
  have HF := hide h
  have HO := hide ok
  have KG' := hide KG
  clear KG hl hy h ok ht hu
  go_enter Tryd.func92, Tryd.ntmps92
  go_wp2_with fail
  refine (unhide KG').mono ?_
  rintro e w1 ⟨⟨g, rfl, hg, hlt, hgt⟩, kk, hw⟩
  have f1 : Fn w1 bu ou (n + 1) f := by rw [hw]; exact fn_drewN (unhide HF) kk
  have u1 : Upd bu ou (ou + n) w w1 := by rw [hw]; exact (Upd.refl _ _ _ _).drewN kk
  have y1 : Cells w1 bv ov ys := u1.cells (unhide HY) (.inl hb)
  have KS := hide (subTimes_any bu ou n n bv ov cv g f ys w1 (by omega) (unhide HL) oy (fun i hi => unhide HO i (by omega)) f1.low y1 hb hg)
  have HLT := hide hlt
  have HGT := hide hgt
  have U1 := hide u1
  have F1 := hide f1
  have s1 : (n:Int) ≤ (n:Int) + 1 := by omega
  have s2 : (n:Int) < (n:Int) + 1 := by omega
  clear hlt hgt hw f1 u1 y1 KG' HT
  go_wp2_with fail
  refine (unhide KS).mono ?_
  rintro e w2 ⟨c, x, rfl, hc, fx, ox, hx, u2⟩
  have k2 := (u2.cell (ou + n) (.inr (Nat.le_refl _))).trans (unhide F1 n (by omega)).1
  have k2f := (u2.froz (ou + n)).trans (unhide F1 n (by omega)).2
  have FX := hide fx
  have OX := hide ox
  have EX := hide hx
  have U2 := hide ((unhide U1).trans u2)
  have Y2 := hide (u2.cells ((unhide U1).cells (unhide HY) (.inl hb)) (.inl hb))
  generalize hft : f n = t at *
  have HFT := hide hft
  clear fx ox hx u2 KS hft
  have hUt : valF f (n + 1) = valF f n + 4294967296 ^ n * t := by rw [← unhide HFT]; rfl
  have HU := hide hUt
  clear hUt
  have XL := hide (valF_lt (unhide OX))
  by_cases hs : t < c
  · have hs' : (t:Int) < (c:Int) := by omega
    have e4 : ((t:Int) - (c:Int)) % 4294967296 = ((lim t c 0 : Nat) : Int) := by
      have := sub_mod t c 0 bt hc (by decide)
      rw [show (t:Int) - (c:Int) - ((0 : Nat) : Int) = (t:Int) - (c:Int) from by omega] at this
      exact this
    have g1 : 1 ≤ g := by
      rcases Nat.eq_zero_or_pos g with k | k
      · exfalso
        have h1 := unhide EX
        have h2 := unhide XL
        rw [k, Nat.zero_mul] at h1
        have h3 : 4294967296 ^ n * 1 ≤ 4294967296 ^ n * c := Nat.mul_le_mul_left _ (by omega)
        omega
      · exact k
    have by' := lim_lt t c 0
    have HYV := hide (show lim t c 0 = (4294967296 + t - c) % 4294967296 from by unfold lim; omega)
    generalize lim t c 0 = y at *
    have S3 := hide (setTop_fn (v := y) (unhide FX) k2 k2f)
    have Y3 := hide (((Upd.refl bu (ou + n) (ou + n + 1) w2).set (ou + n) (.int .u32 (y : Nat)) (Nat.le_refl _) (by omega)).cells (unhide Y2) (.inl hb))
    have U3 := hide ((unhide U2).setTop (.int .u32 (y : Nat)))
    have KA := hide (fun (v : World) (hF : Fn v bu ou n x) (hy : Cells v bv ov ys) => addTo_any bu ou n n n cv (some ⟨bv, ov, none⟩) x ys v ⟨unhide HL, hcv, hcm, .inr ⟨_, _, rfl, hy⟩⟩ (fun z hz _ => by cases hz; exact hb) (Nat.le_refl _) (by unfold maxLen; omega) oy (unhide OX) hF)
    go_wp2_with fail
    go_region_with (go_at_call 96; refine (unhide KA _ (fn_drew (unhide S3).1) (cells_drew (unhide Y3))).mono ?_; rintro e w4 ⟨x2, d, rfl, hd, f4, o4, v4, u4⟩; have k4 := (u4.cell (ou + n) (.inr (Nat.le_refl _))).trans (unhide S3).2.1; have k4f := (u4.froz (ou + n)).trans (unhide S3).2.2; have F4 := hide f4; have O4 := hide o4; have V4 := hide v4; have U4 := hide (((unhide U3).drew).trans (u4.mono (Nat.le_refl _) (by omega))); have eyd : ((y:Int) + (d:Int)) % 4294967296 = (((y + d) % 4294967296 : Nat) : Int) := (by omega); clear f4 o4 v4 u4 KA)
    all_goals
      generalize hsd : (y + d) % 4294967296 = sd at eyd
      have HSD := hide hsd
      clear hsd
      go_wp2
      go_ret
      obtain ⟨r1, r2, r3, r4, r5⟩ := tq_short (unhide EX) (unhide V4) (unhide HU) hs hd (unhide XL) (valF_lt (unhide O4)) (unhide HGT)
      have hz : sd = 0 := by
        have h1 := unhide HSD
        have h2 := unhide HYV
        omega
      have ewr : IntKind.u32.wrap ((y:Int) + (d:Int)) = ((sd : Nat) : Int) := by
        simp only [IntKind.wrap, IntKind.bits, IntKind.signed]
        first | (rw [← eyd]; rfl) | omega
      rw [ewr]
      have S5 := setTop_fn (v := sd) (unhide F4) k4 k4f
      refine ⟨g - 1, _, ?_, by omega, S5.1.top S5.2.1 S5.2.2, ?_, ?_, ?_, ((unhide U4).set _ _ (by omega) (by omega))⟩
      · show Ending.returned (Value.int IntKind.u32 ((g:Int) - 1)) = _
        rw [show (g:Int) - 1 = ((g - 1 : Nat) : Int) from by omega]
      · intro i hi
        by_cases e : i = n
        · simp only [e, if_true]; omega
        · simp only [e, if_false]; exact unhide O4 i (by omega)
      · rw [valF_top, hz, Nat.mul_zero, Nat.add_zero]; exact r4
      · rw [valF_top, hz, Nat.mul_zero, Nat.add_zero]; exact r5
  · have hs' : ¬ (t:Int) < (c:Int) := by omega
    have S3 := hide (setTop_fn (v := t - c) (unhide FX) k2 k2f)
    have U3 := hide ((unhide U2).setTop (.int .u32 ((t - c : Nat) : Int)))
    have etc : ((t - c : Nat) : Int) = (t:Int) - (c:Int) := by omega
    rw [etc] at S3 U3
    clear etc
    go_wp2
    go_ret
    have r := tq_right (gV := 0) (unhide EX) (unhide HU) (by omega)
    refine ⟨g, _, rfl, hg, (unhide S3).1.top (v := t - c) (by rw [(unhide S3).2.1]; congr 2; omega) (unhide S3).2.2, ?_, ?_, ?_, unhide U3⟩
    · intro i hi
      by_cases e : i = n
      · simp only [e, if_true]; omega
      · simp only [e, if_false]; exact unhide OX i (by omega)
    · rw [valF_top]; exact r
    · rw [valF_top]
      have h1 := unhide HLT
      rw [Nat.add_mul, Nat.one_mul] at h1
      omega
end Go.Proofs.YtiadccaaoenccaaDoor
