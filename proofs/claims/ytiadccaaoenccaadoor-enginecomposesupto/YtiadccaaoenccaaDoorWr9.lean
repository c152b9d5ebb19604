/- Wr8 -/
import Derived.Test.YtiadccaaoenccaaDoorWr7
import Derived.Test.YtiadccaaoenccaaDoorDv2
import Derived.Test.YtiadccaaoenccaaDoorRa2
namespace Go.Proofs.YtiadccaaoenccaaDoor
open Go.RowKit Go.Deep
set_option linter.unusedVariables false
structure ShrR (wr w : World) (bq n : Nat) (xs : List Nat) (d k r : Nat) (g : Nat → Nat) : Prop where
  fn : Fn wr bq 0 n g
  ok : ∀ i, i < n → g i < 4294967296
  rlt : r < d
  val : valF (fun i => xs.getD (k + i) 0) (n - k) = valF (fun i => g (k + i)) (n - k) * d + r
  bel : Below w.heap.size w wr

theorem ShrR.step {wr w : World} {bq n : Nat} {xs : List Nat} {d k r : Nat} {g : Nat → Nat} (h : ShrR wr w bq n xs d (k + 1) r g) (ox : Ok xs) (hk : k < n) (hb : w.heap.size ≤ bq) :
    ShrR (wr.setCell ⟨bq, k, none⟩ (.int .u32 (dv (xs.getD k 0) r / d : Nat))) w bq n xs d k (dv (xs.getD k 0) r % d) (fun i => if i = k then dv (xs.getD k 0) r / d else g i) := by
  have hq := dv_div_lt (ox.getD k) h.rlt
  have hs := h.fn.set k (dv (xs.getD k 0) r / d) hk
  rw [Nat.zero_add] at hs
  refine ⟨hs, ?_, Nat.mod_lt _ (by have := h.rlt; omega), ?_, h.bel.setCell hb _⟩
  · intro i hi
    by_cases e : i = k
    · simp only [e, if_true]; exact hq
    · simp only [e, if_false]; exact h.ok i hi
  · rw [valF_head (fun i => xs.getD i 0) k n hk, valF_head (fun i => if i = k then dv (xs.getD k 0) r / d else g i) k n hk]
    simp only [if_true]
    have e0 : valF (fun i => if k + 1 + i = k then dv (xs.getD k 0) r / d else g (k + 1 + i)) (n - (k + 1)) = valF (fun i => g (k + 1 + i)) (n - (k + 1)) := valF_congr (fun i _ => by rw [if_neg (by omega)])
    rw [e0]
    refine dl_arith h.val ?_
    have := Nat.div_add_mod (dv (xs.getD k 0) r) d
    unfold dv at *
    omega

theorem wor_low {c y s : Nat} (hs : s < 32) (hc : c < 2 ^ s) (hy : y < 4294967296) : bits .or .u64 (c : Int) ((y * 2 ^ s : Nat) : Int) = ((y * 2 ^ s + c : Nat) : Int) ∧ y * 2 ^ s + c < 18446744073709551616 := by
  have hp := (pow_s hs)
  have hb : y * 2 ^ s ≤ 4294967295 * 2147483648 := Nat.mul_le_mul (by omega) hp.2
  refine ⟨?_, by omega⟩
  rw [u64_or_nat _ _ (by omega) (by omega)]
  congr 1
  have h := Nat.shiftLeft_add_eq_or_of_lt (i := s) (b := c) hc y
  rw [Nat.shiftLeft_eq] at h
  rw [Nat.or_comm, ← h]

structure RaR (wr w : World) (L s t : Nat) (v : Value) (k c : Nat) (zs : List Nat) : Prop where
  len : zs.length = L + k
  ok : Ok zs
  clt : c < 2 ^ s
  own : wr.ownsRow w.heap.size 74 1 v (L + k) (vals zs)
  val : val zs + 4294967296 ^ (L + k) * c = 4294967296 ^ L * (t * 2 ^ s)
  bel : Below w.heap.size w wr

theorem RaR.step {wr w w1 : World} {L s t : Nat} {v v' : Value} {k c : Nat} {zs : List Nat} {o : Obj} (h : RaR wr w L s t v k c zs) (y : Nat) (hy : y < 4294967296) (hs : s < 32)
    (hown : w1.ownsRow w.heap.size 74 1 v' (L + k + 1) (vals zs ++ [.int .u32 ((y * 2 ^ s + c) % 4294967296 : Nat)])) (hg : (wr.alloc o).grownBy w1 v.ownBlock) :
    RaR w1 w L s (t + 4294967296 ^ k * y) v' (k + 1) ((y * 2 ^ s + c) / 4294967296) (zs ++ [(y * 2 ^ s + c) % 4294967296]) := by
  have hz := h.bel.size
  have hp := pow_s hs
  refine ⟨by simp [h.len]; omega, ?_, ?_, by simpa [vals, Nat.add_assoc] using hown, ?_, Below.grown (h.bel.alloc (by omega) o) hg (by simp; omega) (fun k hk => (own_ge h.own k hk).1)⟩
  · intro z hz
    rcases List.mem_append.1 hz with hz | hz
    · exact h.ok z hz
    · simp at hz; subst hz; omega
  · have hc := h.clt
    rw [Nat.div_lt_iff_lt_mul (by decide)]
    have : (y + 1) * 2 ^ s ≤ 4294967296 * 2 ^ s := Nat.mul_le_mul_right _ hy
    rw [Nat.add_mul, Nat.one_mul] at this
    rw [Nat.mul_comm (2 ^ s)]
    omega
  · rw [val_append, h.len]
    simp only [Go.Proofs.YtiadccaaoenccaaDoor.val, Nat.mul_zero, Nat.add_zero]
    have e := Nat.div_add_mod (y * 2 ^ s + c) 4294967296
    rw [show L + (k + 1) = L + k + 1 from rfl, Nat.pow_succ]
    have h1 : 4294967296 ^ (L + k) * ((y * 2 ^ s + c) % 4294967296) + 4294967296 ^ (L + k) * 4294967296 * ((y * 2 ^ s + c) / 4294967296) = 4294967296 ^ (L + k) * (y * 2 ^ s) + 4294967296 ^ (L + k) * c := by
      rw [Nat.mul_assoc, ← Nat.mul_add, Nat.add_comm ((y * 2 ^ s + c) % 4294967296), e, Nat.mul_add]
    have h2 : 4294967296 ^ L * ((t + 4294967296 ^ k * y) * 2 ^ s) = 4294967296 ^ L * (t * 2 ^ s) + 4294967296 ^ (L + k) * (y * 2 ^ s) := by
      rw [Nat.add_mul, Nat.mul_add, Nat.pow_add, Nat.mul_assoc, Nat.mul_assoc]
    have := h.val
    omega

set_option maxRecDepth 100000 in
set_option maxHeartbeats 4000000 in
theorem wraise_core (a : Option Addr) (n c : Nat) (xs : List Nat) (w : World) (k l s : Nat) (hsl : Sl w a n c xs) (ox : Ok xs) (hx : xs ≠ []) (hkl : (k:Int) / 32 = (l:Int)) (hks : (k:Int) % 32 = (s:Int)) (hs32 : s < 32) (hk0 : k ≤ 10000000000) (hn2 : n ≤ 1000000000) :
    Calls Tryd.prog 61 #[.slice a n c, .int .i64 (k : Nat)] w fun e w' => NewL w w' (val xs * 2 ^ k) e := by
  have hl2 : (k:Int).tdiv 32 = (l:Int) := by rw [Int.tdiv_eq_ediv_of_nonneg (by omega)]; exact hkl
  have hs2 : (k:Int).tmod 32 = (s:Int) := by rw [Int.tmod_eq_emod_of_nonneg (by omega)]; exact hks
  have hl0 : l ≤ 1000000000 := by omega
  have hn0 : 0 < n := by rw [← hsl.len]; exact List.length_pos_iff.2 hx
  have t0 : ((n:Int) == 0) = false := by simp; omega
  have hmk := make_len l (by omega)
  have hp := pow_s hs32
  have bel0 := (Below.refl w.heap.size w).alloc (Nat.le_refl _) (.cells (madeCells #[.int .u32 0] l) 74)
  have hv0 : ∀ j, val (List.replicate j 0) = 0 := fun j => val_zero _ (fun i => by simp [List.getD, List.getElem?_replicate]; split <;> rfl)
  have HR0 := hide (show RaR (w.alloc (.cells (madeCells #[.int .u32 0] l) 74)) w l s (valF (fun i => xs.getD i 0) 0) (.slice (some ⟨w.heap.size, 0, none⟩) l l) 0 0 (List.replicate l 0) from ⟨by simp, fun z hz => by rw [(List.mem_replicate.1 hz).2]; decide, by omega, Ow.made w l (by omega), by simp [valF, hv0], bel0⟩)
  have HT := hide (sh_total (v := val xs) (show k / 32 = l by omega) (show k % 32 = s by omega))
  have HL := hide hsl.len
  have HS0 := hide hsl
  obtain ⟨V, hV⟩ : ∃ V, val xs * 2 ^ k = V := ⟨_, rfl⟩
  rw [hV] at HT ⊢
  obtain ⟨i80, hi80, hz80, hs80, hb80⟩ := info_parts Tryd.info_u32
  have I80 := hide (And.intro hi80 (And.intro hz80 (And.intro hs80 hb80)))
  clear hi80 hz80 hs80 hb80 hsl bel0 hv0 hV
  go_enter Tryd.func61, Tryd.ntmps61
  go_wp2_with fail
  go_loopw [5, 7, 8] (fun v cv i wr => ∃ j cc : Nat, ∃ zs : List Nat, j ≤ n ∧ i = .int .i64 (j : Nat) ∧ cv = .int .u64 (cc : Nat) ∧ RaR wr w l s (valF (fun i => xs.getD i 0) j) v j cc zs) (fun _ _ i _ => n - (intOf i).toNat)
  case atStart => exact ⟨0, 0, _, Nat.zero_le _, rfl, rfl, unhide HR0⟩
  case round =>
    clear HR0
    obtain ⟨j, cy, zs, hj, rfl, rfl, hR⟩ := hrel
    have hcy := hR.clt
    by_cases hlt : j < n
    · have hlt' : (j:Int) < (n:Int) := by omega
      obtain ⟨b, off, e0, hc⟩ := ((unhide HS0).below hR.bel).cells.resolve_left hx
      subst e0
      have g1 := hc j (by rw [unhide HL]; omega)
      have bx := ox.getD j
      obtain ⟨e1, b1⟩ := wor_low hs32 hcy bx
      have HS := hide (fun w1 v' o hown hg => (show RaR w1 w l s (valF (fun i => xs.getD i 0) (j + 1)) v' (j + 1) _ _ from RaR.step (w1 := w1) (v' := v') (o := o) hR (xs.getD j 0) bx hs32 hown hg))
      have HSZ := hide hR.bel.size
      have HR := hide hR
      have hb2 : xs.getD j 0 * 2 ^ s ≤ 4294967295 * 2147483648 := Nat.mul_le_mul (by omega) hp.2
      have e0 : ((xs.getD j 0 : Nat) : Int) * 2 ^ s = ((xs.getD j 0 * 2 ^ s : Nat) : Int) := by rw [Int.natCast_mul, Int.natCast_pow]; rfl
      have e00 : ((xs.getD j 0 : Nat) : Int) * 2 ^ s % 18446744073709551616 = ((xs.getD j 0 * 2 ^ s : Nat) : Int) := by rw [e0]; omega
      have e5 : IntKind.u64.wrap (((xs.getD j 0 : Nat) : Int) * 2 ^ s) = ((xs.getD j 0 * 2 ^ s : Nat) : Int) := by rw [e0, IntKind.wrap_u64]; omega
      clear hR hc HS0
      generalize xs.getD j 0 * 2 ^ s = y at *
      generalize y + cy = z at *
      have e2 : ((z : Nat) : Int) % 4294967296 = ((z % 4294967296 : Nat) : Int) := by omega
      have e3 : ((z : Nat) : Int) / 4294967296 = ((z / 4294967296 : Nat) : Int) := by omega
      have b4 : z % 4294967296 < 4294967296 := by omega
      have b5 : z / 4294967296 < 4294967296 := by omega
      generalize z % 4294967296 = z1 at *
      generalize z / 4294967296 = z2 at *
      generalize xs.getD j 0 = x at *
      go_wp2_with (at_builtin; refine wpList_append_lies _ rfl _ _ 49 rfl w.heap.size 74 i80 (.int .u32 0) 1 4 Tryd.underlying49 (unhide I80).1 (unhide I80).2.1 (unhide I80).2.2.1 (unhide I80).2.2.2 rfl (by decide) _ (l + j) (vals zs) rfl ((unhide HR).own.alloc _) ⟨wr.heap.size, 0, none⟩ 1 1 [.int .u32 (z1 : Nat)] rfl rfl (World.news_of_block (alloc_block _ _)) one_int (by decide) ?c31A ?c41A ?c51A (wr.heap.size + 1) (by simp) ?_)
      case c31A => unfold maxLen; omega
      case c41A => omega
      case c51A => have := unhide HSZ; simp; omega
      intro g1 cc w2 hown hgrow hat hlt2
      have HN := hide (unhide HS w2 _ _ hown hgrow)
      clear hown hgrow hat hlt2 HS HR
      go_wp2
      exact ⟨⟨j + 1, _, _, by omega, by go_num, rfl, unhide HN⟩, by simp [intOf]; omega⟩
    · have hlt' : ¬ (j:Int) < (n:Int) := by omega
      have hjn : j = n := by omega
      have hv := hR.val
      rw [valF_ge xs j (by rw [unhide HL]; omega)] at hv
      have HV := hide (show val (zs ++ [cy]) = V by
        rw [val_append, hR.len]
        simp only [val, Nat.mul_zero, Nat.add_zero]
        rw [hv, ← unhide HT, Nat.mul_comm])
      have HOK := hide (show Ok (zs ++ [cy]) from fun z hz => by
        rcases List.mem_append.1 hz with hz | hz
        · exact hR.ok z hz
        · simp at hz; subst hz; omega)
      have hcb : cy < 4294967296 := by omega
      have HSZ := hide hR.bel.size
      have HR := hide hR
      clear hR hv hjn
      go_wp2_with (at_builtin; refine wpList_append_lies _ rfl _ _ 49 rfl w.heap.size 74 i80 (.int .u32 0) 1 4 Tryd.underlying49 (unhide I80).1 (unhide I80).2.1 (unhide I80).2.2.1 (unhide I80).2.2.2 rfl (by decide) _ (l + j) (vals zs) rfl ((unhide HR).own.alloc _) ⟨wr.heap.size, 0, none⟩ 1 1 [.int .u32 (cy : Nat)] rfl rfl (World.news_of_block (alloc_block _ _)) one_int (by decide) ?c31B ?c41B ?c51B (wr.heap.size + 1) (by simp) ?_)
      case c31B => unfold maxLen; omega
      case c41B => omega
      case c51B => have := unhide HSZ; simp; omega
      intro g1 cc w2 hown hgrow hat hlt2
      have e9 : vals zs ++ [.int .u32 (cy : Nat)] = vals (zs ++ [cy]) := by simp [vals]
      rw [e9] at hown
      have K := wnorm_any (some ⟨g1, 0, none⟩) (l + j + 1) cc w.heap.size _ w2 hown (unhide HOK)
      rw [unhide HV] at K
      have HK := hide K
      have HB := hide (Below.grown ((unhide HR).bel.alloc (unhide HSZ) _) hgrow (by have := unhide HSZ; simp; omega) (fun k hk => (own_ge (unhide HR).own k hk).1))
      clear K hown hgrow hat hlt2 e9 HR
      go_wp2_with fail
      refine (unhide HK).mono ?_
      rintro e w' ⟨m, rfl, hm, hO, hw⟩
      obtain rfl := hw.symm
      have HO := hide hO
      clear hO hw HK
      go_wp2_with fail
      go_ret
      exact ⟨_, _, _, rfl, (unhide HO).sl, (unhide HO).new, (unhide HO).nilc, unhide HB⟩

set_option maxHeartbeats 400000 in
theorem wraise_nil (a : Option Addr) (c : Nat) (k : Int) (w : World) : Calls Tryd.prog 61 #[.slice a 0 c, .int .i64 k] w fun e w' => e = .returned (.slice none 0 0) ∧ w' = w := by
  go_enter Tryd.func61, Tryd.ntmps61
  go_wp2
  go_ret
  exact ⟨rfl, rfl⟩

theorem wraise_any (a : Option Addr) (n c : Nat) (xs : List Nat) (w : World) (k : Nat) (hsl : Sl w a n c xs) (ox : Ok xs) (hk0 : k ≤ 10000000000) (hn2 : n ≤ 1000000000) :
    Calls Tryd.prog 61 #[.slice a n c, .int .i64 (k : Nat)] w fun e w' => NewL w w' (val xs * 2 ^ k) e := by
  by_cases hx : xs = []
  · have hn : n = 0 := by rw [← hsl.len, hx]; rfl
    subst hn
    refine (wraise_nil a c k w).mono ?_
    rintro e w' ⟨rfl, rfl⟩
    subst hx
    have : val [] * 2 ^ k = 0 := by simp [val]
    rw [this]
    exact ⟨none, 0, 0, rfl, sl_nil _, newAt_nil _, fun _ => rfl, Below.refl _ _⟩
  · exact wraise_core a n c xs w k (k / 32) (k % 32) hsl ox hx (by omega) (by omega) (by omega) hk0 hn2
theorem limbs_of {xs : List Nat} (ox : Ok xs) (nx : Norm xs) : limbs (val xs) = xs := limbs_val ox nx
theorem limbs_mono {a b : Nat} (h : a ≤ b) : (limbs a).length ≤ (limbs b).length := limbs_len (Nat.lt_of_le_of_lt h (limbs_lt b))
theorem Fn.chgW {S : Nat → Prop} {w w' : World} {b off n : Nat} {f : Nat → Nat} (h : Fn w b off n f) (k : Chg S w w') (hs : ¬ S b) : Fn w' b off n f := by
  intro i hi
  have := h i hi
  have hlt := World.block_lt_of_cell? _ _ this.1
  exact ⟨k.cell hs this.1, by rw [World.frozen?_of_block (w := w) (k.block b hlt hs)]; exact this.2⟩

structure DwR (wr w : World) (nq A D k : Nat) (f : Nat → Nat) (a : Option Addr) (m c R : Nat) : Prop where
  q : Fn wr w.heap.size 0 nq f
  qok : ∀ j, j < nq → f j < 4294967296
  qv : valF f nq = A / 2 ^ k / D * 2 ^ k
  r : Ow wr (w.heap.size + 1) a m c (limbs R)
  bel : Below w.heap.size w wr

theorem DwR.less {wr w wd : World} {nq A D i : Nat} {f : Nat → Nat} {a a' : Option Addr} {m c m' c' R T : Nat} (h : DwR wr w nq A D (i + 1) f a m c R) (hc : Chg (fun k => AtB a k) wr wd) (hO : Ow wd (w.heap.size + 1) a' m' c' (limbs T)) (hT : T = 2 * (A / 2 ^ (i + 1) % D) + bitN A i) (hD : 0 < D) (hlt : T < D) (j : Nat) :
    DwR (wd.drewN j) w nq A D i f a' m' c' T := by
  have e := dm_less hD hT hlt
  have hne : ¬ AtB a w.heap.size := fun hk => by have := (h.r.lt hk).1; omega
  refine ⟨h.q.chgW (hc.trans (Chg.of_drewN _ j)) hne, h.qok, by rw [h.qv, e.2], hO.below (bel_drewN (Below.refl _ _) j), bel_drewN (h.bel.trans (hc.below h.bel.size (fun k hk hh => by have := (h.r.lt hh).1; omega))) j⟩

theorem DwR.more {wr w wd w6 : World} {nq A D i : Nat} {f : Nat → Nat} {a a' : Option Addr} {m c m' c' R T m6 : Nat} (h : DwR wr w nq A D (i + 1) f a m c R) (hc : Chg (fun k => AtB a k) wr wd) (hO : Ow wd (w.heap.size + 1) a' m' c' (limbs T)) (hT : T = 2 * (A / 2 ^ (i + 1) % D) + bitN A i) (hD : 0 < D) (hge : D ≤ T) (j : Nat)
    (hO6 : Ow w6 (w.heap.size + 1) a' m6 c' (limbs (T - D))) (hc6 : Chg (fun k => AtB a' k) (wd.drewN j) w6) {l s : Nat} (hi : i = 32 * l + s) (hs : s < 32) (hl : l < nq) (h0 : f l % 2 ^ (s + 1) = 0) :
    DwR (w6.setCell ⟨w.heap.size, l, none⟩ (.int .u32 (f l + 2 ^ s : Nat))) w nq A D i (fun j => if j = l then f l + 2 ^ s else f j) a' m6 c' (T - D) := by
  have e := dm_more (V := A) (D := D) (i := i) (r := T - D) hD (by omega)
  have hne : ¬ AtB a w.heap.size := fun hk => by have := (h.r.lt hk).1; omega
  have hne' : ¬ AtB a' w.heap.size := fun hk => by have := (hO.lt hk).1; omega
  have k6 : Chg (fun k => AtB a' k) wd w6 := (Chg.of_drewN (S := fun k => AtB a' k) wd j).trans hc6
  have hb1 : Below w.heap.size w wd := h.bel.trans (hc.below h.bel.size (fun k hk hh => by have := (h.r.lt hh).1; omega))
  have hb2 : Below w.heap.size w w6 := hb1.trans (k6.below hb1.size (fun k hk hh => by have := (hO.lt hh).1; omega))
  have hq := ((h.q.chgW hc hne).chgW k6 hne').set l (f l + 2 ^ s) hl
  rw [Nat.zero_add] at hq
  have hx := (or_bit (h.qok l hl) hs h0).2
  refine ⟨hq, ?_, ?_, hO6.chg (.of_set (S := fun k => k = w.heap.size) _ _ _ _ rfl) (fun k hk hh => by subst hh; exact hne' hk), hb2.setCell (Nat.le_refl _) _⟩
  · intro j hj
    by_cases k : j = l
    · simp only [k, if_true]; exact hx
    · simp only [k, if_false]; exact h.qok j hj
  · rw [valF_put hl, h.qv, e.2, pow_limb, ← Nat.pow_add, ← hi]
end Go.Proofs.YtiadccaaoenccaaDoor
