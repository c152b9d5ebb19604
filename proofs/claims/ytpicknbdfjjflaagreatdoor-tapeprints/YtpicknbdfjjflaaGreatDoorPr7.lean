/- Pr5 -/
import Derived.Test.YtpicknbdfjjflaaGreatDoorPa2
import Derived.Test.YtpicknbdfjjflaaGreatDoorCmp
import Derived.Test.YtpicknbdfjjflaaGreatDoorDv7
namespace Go.Proofs.YtpicknbdfjjflaaGreatDoor
open Go.RowKit Go.Deep
set_option linter.unusedVariables false
structure St4 (w : World) (S b cnt wt : Nat) (pv : Value) : Prop where
  c0 : w.cell? ⟨S, 0, none⟩ = some (.int .i64 (b : Nat))
  c1 : w.cell? ⟨S, 1, none⟩ = some (.int .i64 (cnt : Nat))
  c2 : w.cell? ⟨S, 2, none⟩ = some (.int .u32 (wt : Nat))
  c3 : w.cell? ⟨S, 3, none⟩ = some pv

theorem St4.keep {w w' : World} {S b cnt wt : Nat} {pv : Value} (h : St4 w S b cnt wt pv) (k : ∀ i, w'.cell? ⟨S, i, none⟩ = w.cell? ⟨S, i, none⟩) : St4 w' S b cnt wt pv :=
  ⟨(k 0).trans h.c0, (k 1).trans h.c1, (k 2).trans h.c2, (k 3).trans h.c3⟩
theorem St4.lt {w : World} {S b cnt wt : Nat} {pv : Value} (h : St4 w S b cnt wt pv) : S < w.heap.size := World.block_lt_of_cell? _ _ h.c0
theorem St4.upd {w w' : World} {S b cnt wt X lo hi : Nat} {pv : Value} (h : St4 w S b cnt wt pv) (u : Upd X lo hi w w') (hX : S ≠ X) : St4 w' S b cnt wt pv :=
  h.keep fun i => by unfold World.cell?; simp only; rw [u.block S h.lt hX]
theorem St4.made (w : World) (b cnt wt : Nat) (pv : Value) (t : TypeId) : St4 (w.alloc (.cells #[.int .i64 (b : Nat), .int .i64 (cnt : Nat), .int .u32 (wt : Nat), pv] t)) w.heap.size b cnt wt pv :=
  ⟨by simp, by simp, by simp, by simp⟩

def NumW (w : World) (a : Option Addr) (m bn on v : Nat) : Prop :=
  (a = none ∧ m = 0 ∧ v = 0) ∨ ∃ f : Nat → Nat, a = some ⟨bn, on, none⟩ ∧ Fn w bn on m f ∧ (∀ i, i < m → f i < 4294967296) ∧ valF f m = v

theorem Upd.far {T lo hi X l h : Nat} {w0 w w' : World} (u : Upd T lo hi w0 w) (v : Upd X l h w w') (hX : w0.heap.size ≤ X) (hT : T < w0.heap.size) : Upd T lo hi w0 w' := by
  refine ⟨v.os.trans u.os, v.tape.trans u.tape, v.output.trans u.output, Nat.le_trans u.size v.size, ?_, ?_, ?_⟩
  · intro k hk hne
    rw [v.block k (Nat.lt_of_lt_of_le hk u.size) (by omega), u.block k hk hne]
  · intro i hi
    have : w'.cell? ⟨T, i, none⟩ = w.cell? ⟨T, i, none⟩ := by
      unfold World.cell?; simp only; rw [v.block T (Nat.lt_of_lt_of_le hT u.size) (by omega)]
    rw [this, u.cell i hi]
  · intro i
    have : w'.frozen? ⟨T, i, none⟩ = w.frozen? ⟨T, i, none⟩ := by
      unfold World.frozen?; simp only; rw [v.block T (Nat.lt_of_lt_of_le hT u.size) (by omega)]
    rw [this, u.froz i]
theorem FnB.upd {w w' : World} {b off n X lo up : Nat} {f : Nat → Nat} (h : FnB w b off n f) (u : Upd X lo up w w') (hX : b ≠ X ∨ off + n ≤ lo ∨ up ≤ off) : FnB w' b off n f := by
  intro i hi
  obtain ⟨h1, h2⟩ := h i hi
  have hb := World.block_lt_of_cell? _ _ h1
  by_cases e : b = X
  · subst e
    have hX' : off + n ≤ lo ∨ up ≤ off := hX.resolve_left (fun h => h rfl)
    exact ⟨by rw [u.cell _ (by omega)]; exact h1, by rw [u.froz]; exact h2⟩
  · refine ⟨?_, ?_⟩
    · have : w'.cell? ⟨b, off + i, none⟩ = w.cell? ⟨b, off + i, none⟩ := by unfold World.cell?; simp only; rw [u.block b hb e]
      rw [this]; exact h1
    · have : w'.frozen? ⟨b, off + i, none⟩ = w.frozen? ⟨b, off + i, none⟩ := by unfold World.frozen?; simp only; rw [u.block b hb e]
      rw [this]; exact h2

theorem FnB.bel {w w' : World} {b off n : Nat} {f : Nat → Nat} (h : FnB w b off n f) (k : Below w.heap.size w w') : FnB w' b off n f := by
  intro i hi
  obtain ⟨h1, h2⟩ := h i hi
  have hb := World.block_lt_of_cell? _ _ h1
  refine ⟨?_, ?_⟩
  · have : w'.cell? ⟨b, off + i, none⟩ = w.cell? ⟨b, off + i, none⟩ := by unfold World.cell?; simp only; rw [k.block b hb]
    rw [this]; exact h1
  · have : w'.frozen? ⟨b, off + i, none⟩ = w.frozen? ⟨b, off + i, none⟩ := by unfold World.frozen?; simp only; rw [k.block b hb]
    rw [this]; exact h2

def txf (V b L d : Nat) (t0 : Nat → Nat) : Nat → Nat := fun p => if L - 1 - p < d then chrN (dgt V b (L - 1 - p)) else t0 p

structure WsR (wr w0 : World) (T o L bn on S V b cnt wt : Nat) (pv : Value) (t0 : Nat → Nat) (q d : Nat) (a : Option Addr) (m : Nat) : Prop where
  num : NumW wr a m bn on q
  fb : FnB wr T o L (txf V b L d t0)
  st : St4 wr S b cnt wt pv
  upd : Upd T o (o + L) w0 wr

theorem WsR.put {wr w0 : World} {T o L bn on S V b cnt wt : Nat} {pv : Value} {t0 : Nat → Nat} {q d : Nat} {a : Option Addr} {m : Nat} (h : WsR wr w0 T o L bn on S V b cnt wt pv t0 q d a m) (hd : d < L) (hST : S ≠ T) (hbT : bn ≠ T) (z : Nat) (hz : z = chrN (dgt V b d)) :
    WsR (wr.setCell ⟨T, o + (L - 1 - d), none⟩ (.int .u8 (z : Nat))) w0 T o L bn on S V b cnt wt pv t0 q (d + 1) a m := by
  have u : Upd T o (o + L) wr (wr.setCell ⟨T, o + (L - 1 - d), none⟩ (.int .u8 (z : Nat))) := (Upd.refl _ _ _ _).set _ _ (by omega) (by omega)
  refine ⟨?_, ?_, h.st.upd u hST, h.upd.trans u⟩
  · rcases h.num with e | ⟨f, e1, e2, e3, e4⟩
    · exact .inl e
    · exact .inr ⟨f, e1, u.fn e2 (.inl hbT), e3, e4⟩
  · refine (h.fb.set (L - 1 - d) z (by omega)).congr fun p hp => ?_
    unfold txf
    by_cases e : p = L - 1 - d
    · rw [if_pos e, if_pos (by omega), hz, show L - 1 - p = d from by omega]
    · rw [if_neg e]
      by_cases e2 : L - 1 - p < d
      · rw [if_pos e2, if_pos (by omega)]
      · rw [if_neg e2, if_neg (by omega)]

theorem dgt_part {V b cnt k i : Nat} (hb : 0 < b) (hi : i < cnt) : V / (b ^ cnt) ^ k % b ^ cnt / b ^ i % b = dgt V b (k * cnt + i) := by
  have := dgt_mod (V / (b ^ cnt) ^ k) b hb hi
  unfold dgt at this
  rw [this, ← Nat.pow_mul, Nat.div_div_eq_div_mul, ← Nat.pow_add, Nat.mul_comm cnt k]
  rfl

def digLit : ByteArray := ⟨#[48, 49, 50, 51, 52, 53, 54, 55, 56, 57, 97, 98, 99, 100, 101, 102, 103, 104, 105, 106, 107, 108, 109, 110, 111, 112, 113, 114, 115, 116, 117, 118, 119, 120, 121, 122]⟩
theorem digLit_at : ∀ D : Fin 36, (digLit[D.val]'(by have := D.isLt; exact this)).toNat = chrN D.val := by decide

theorem divideLimb_nil (a : Option Addr) (c d : Nat) (w : World) :
    Calls Tryz.prog 135 #[.slice a 0 c, .int .u32 (d : Nat)] w fun e w' => e = .returned (.int .u32 0) ∧ w' = w := by
  go_enter Tryz.func135, Tryz.ntmps135
  go_wp2
  go_loop [5, 6] (fun rv i => rv = .int .u32 0 ∧ i = .int .i64 (-1)) (fun _ i => (intOf i + 1).toNat)
  case atStart => exact ⟨rfl, rfl⟩
  case round =>
    obtain ⟨rfl, rfl⟩ := hrel
    go_wp2
    go_ret
    exact ⟨rfl, rfl⟩

theorem NumW.divided {w : World} {a : Option Addr} {m bn on v wt : Nat} (h : NumW w a m bn on v) (hm : m ≤ 1000000000) (h0 : 0 < wt) (h1 : wt < 4294967296) :
    Calls Tryz.prog 135 #[.slice a m m, .int .u32 (wt : Nat)] w fun e w' => e = .returned (.int .u32 (v % wt : Nat)) ∧ Upd bn on (on + m) w w' ∧ Calls Tryz.prog 130 #[.slice a m m] w' fun e w'' => ∃ a' m', e = .returned (.slice a' m' m') ∧ m' ≤ m ∧ NumW w' a' m' bn on (v / wt) ∧ w'' = w' := by
  rcases h with ⟨rfl, rfl, rfl⟩ | ⟨f, rfl, hf, ok, hv⟩
  · refine (divideLimb_nil none 0 wt w).mono ?_
    rintro e w' ⟨rfl, rfl⟩
    refine ⟨by simp, Upd.refl _ _ _ _, ?_⟩
    refine (trim_any none 0 0 [] w' (sl_nil _) Ok.nil).mono ?_
    rintro e w2 ⟨a', m', ys, rfl, hs, hr, ha, rfl⟩
    have hy : ys = [] := hr.unique ⟨Ok.nil, .inl rfl, rfl⟩
    have hl := hs.len
    rw [hy] at hl
    simp at hl
    subst hl
    have ha' : a' = none := by rcases ha with e | e <;> exact e
    exact ⟨a', 0, rfl, Nat.le_refl _, .inl ⟨ha', rfl, by simp⟩, rfl⟩
  · refine (divideLimb_any bn on m m wt f w hf ok hm h0 h1).mono ?_
    rintro e w' ⟨r, g, rfl, hr, hg, og, hval, hu⟩
    rw [hv] at hval
    have e1 : v % wt = r := by rw [hval, Nat.mul_comm, Nat.mul_add_mod, Nat.mod_eq_of_lt hr]
    have e2 : v / wt = valF g m := by rw [hval, Nat.mul_comm, Nat.mul_add_div h0, Nat.div_eq_of_lt hr, Nat.add_zero]
    refine ⟨by rw [e1], hu, ?_⟩
    refine (trim_any (some ⟨bn, on, none⟩) m m (lst g m) w' (hg.sl (Nat.le_refl _) (by unfold maxLen; omega)) (lst_ok og)).mono ?_
    rintro e w2 ⟨a', m', ys, rfl, hs, hr2, ha, rfl⟩
    have hl := hs.len
    have hvy := hr2.val
    rw [lst_val] at hvy
    have hmm : m' ≤ m := by
      have := rep_len_leS hr2 (j := m) (by rw [lst_val]; exact valF_lt og)
      omega
    by_cases hy : ys = []
    · subst hy
      simp at hl
      subst hl
      refine ⟨a', 0, rfl, hmm, ?_, rfl⟩
      rcases ha with e | e
      · exact .inr ⟨g, e, fun i hi => absurd hi (Nat.not_lt_zero _), fun i hi => absurd hi (Nat.not_lt_zero _), by rw [e2, ← hvy]; simp [valF, val]⟩
      · exact .inl ⟨e, rfl, by rw [e2, ← hvy]; rfl⟩
    · refine ⟨a', m', rfl, hmm, ?_, rfl⟩
      obtain ⟨b', o', e, hc⟩ := hs.cells.resolve_left hy
      rcases ha with e' | e'
      · rw [e'] at e
        cases e
        refine .inr ⟨fun i => ys.getD i 0, e', fun i hi => ⟨hc i (by omega), (hg i (by omega)).2⟩, fun i hi => hr2.ok.getD i, ?_⟩
        rw [valF_ge ys m' (by omega), hvy, e2]
      · rw [e'] at e; cases e
open Go.RowKit Go.Deep
set_option linter.unusedVariables false

def writerV (b cnt wt : Nat) (pv : Value) : Value := .agg #[.int .i64 (b : Nat), .int .i64 (cnt : Nat), .int .u32 (wt : Nat), pv]

set_option maxHeartbeats 8000000 in
theorem writeShort_any (w0 w : World) (T o L cT bn on : Nat) (a : Option Addr) (m b cnt wt M V : Nat) (pv : Value) (t0 : Nat → Nat) (hL : L = cnt * M) (hL2 : L ≤ 1000000000) (hb : 2 ≤ b) (hb2 : b ≤ 36) (hch : Chunk b cnt) (hwt : b ^ cnt = wt)
    (hT : T < w0.heap.size) (hbn : w0.heap.size ≤ bn) (hbn2 : bn < w.heap.size) (hm : m ≤ 1000000000) (hf : FnB w T o L t0) (hN : NumW w a m bn on V) (hU : Upd T o (o + L) w0 w) :
    Calls Tryz.prog 139 #[writerV b cnt wt pv, .slice (some ⟨T, o, none⟩) L cT, .slice a m m] w fun e w' => e = .returned (.tuple #[]) ∧ FnB w' T o L (txf V b L L t0) ∧ Upd T o (o + L) w0 w' := by
  have bel := (Below.refl w.heap.size w).alloc (Nat.le_refl _) (.cells #[.int .i64 (b : Nat), .int .i64 (cnt : Nat), .int .u32 (wt : Nat), pv] 191)
  have u0 : Upd T o (o + L) w _ := Upd.of_below (Nat.lt_of_lt_of_le hT hU.size) bel
  have hST : w.heap.size ≠ T := by have := hU.size; omega
  have hSb : w.heap.size ≠ bn := by omega
  have hTb : bn ≠ T := by omega
  have HR0 := hide (show WsR _ w0 T o L bn on w.heap.size V b cnt wt pv t0 (V / wt ^ 0) (0 * cnt) a m from ⟨by
      rw [Nat.pow_zero, Nat.div_one]
      rcases hN with e | ⟨f, e1, e2, e3, e4⟩
      · exact .inl e
      · exact .inr ⟨f, e1, Fn.below e2 bel, e3, e4⟩, (hf.bel bel).congr (fun p hp => by unfold txf; rw [if_neg (by omega)]), St4.made _ _ _ _ _ _, hU.trans u0⟩)
  have h1 := hch.pos
  have h2 := hch.le
  have h3 := hch.lt
  rw [hwt] at h3
  have hwt0 : 0 < wt := by rw [← hwt]; exact Nat.pow_pos (by omega)
  have HWT := hide hwt
  have HCH := hide hch
  have HL := hide hL
  clear hwt hch hL hf hN hU bel u0
  unfold writerV
  go_enter Tryz.func139, Tryz.ntmps139
  go_wp2_with fail
  go_loopw [2, 6] (fun nv ev wr => ∃ (k : Nat) (an : Option Addr) (mn : Nat), k ≤ M ∧ mn ≤ 1000000000 ∧ nv = .slice an mn mn ∧ ev = .int .i64 ((L - k * cnt : Nat) : Int) ∧ WsR wr w0 T o L bn on w.heap.size V b cnt wt pv t0 (V / wt ^ k) (k * cnt) an mn) (fun _ ev _ => (intOf ev).toNat)
  case atStart => exact ⟨0, a, m, Nat.zero_le _, hm, rfl, by simp, unhide HR0⟩
  case round =>
    clear HR0
    obtain ⟨k, an, mn, hk, hmn, rfl, rfl, hR⟩ := hrel
    have hk1 : k * cnt ≤ L := by rw [unhide HL, Nat.mul_comm]; exact Nat.mul_le_mul_left _ hk
    obtain ⟨E, hE⟩ : ∃ E, L - k * cnt = E := ⟨_, rfl⟩
    by_cases hkM : k = M
    · have hE0 : E = 0 := by rw [← hE, hkM, unhide HL, Nat.mul_comm, Nat.sub_self]
      have hkL : k * cnt = L := by omega
      have HR := hide hR
      rw [hE, hE0]
      clear hR hE hE0
      go_wp2_with fail
      go_end0
      have hh := unhide HR
      rw [hkL] at hh
      exact ⟨rfl, hh.fb, hh.upd⟩
    · have hkk : (k + 1) * cnt ≤ L := by rw [unhide HL, Nat.mul_comm]; exact Nat.mul_le_mul_left _ (by omega)
      have hk2 : (k + 1) * cnt = k * cnt + cnt := Nat.succ_mul _ _
      have hE1 : (0:Int) < (E:Int) := by omega
      have hE2 : 0 < E := by omega
      have hE3 : decide (0 < E) = true := by simp [hE2]
      have hEL : E ≤ L := by omega
      have KD := hide (hR.num.divided hmn hwt0 h3)
      have g0 := hR.st.c0
      have g1 := hR.st.c1
      have g2 := hR.st.c2
      have HR := hide hR
      have HE := hide hE
      rw [hE]
      obtain ⟨R, hRe⟩ : ∃ R, V / wt ^ k % wt = R := ⟨_, rfl⟩
      have HRE := hide hRe
      have hRl : R < 4294967296 := by have := Nat.mod_lt (V / wt ^ k) hwt0; omega
      rw [hRe] at KD
      clear hRe hE hR
      go_wp2_with fail
      refine (unhide KD).mono ?_
      rintro _ w1 ⟨rfl, u1, KT⟩
      have hR1 : FnB w1 T o L (txf V b L (k * cnt) t0) ∧ St4 w1 w.heap.size b cnt wt pv ∧ Upd T o (o + L) w0 w1 := ⟨(unhide HR).fb.upd u1 (.inl (by omega)), (unhide HR).st.upd u1 hSb, (unhide HR).upd.far u1 hbn hT⟩
      have HR1 := hide hR1
      have KT' := hide KT
      have g3 := hR1.2.1.c0
      have g4 := hR1.2.1.c1
      have g5 := hR1.2.1.c2
      clear KT u1 KD HR hR1 g0 g1 g2
      go_wp2_with fail
      refine (unhide KT').mono ?_
      rintro _ _ ⟨a2, m2, rfl, hm2, hN2, hw⟩
      obtain rfl := hw.symm
      have HR2 := hide (show WsR w1 w0 T o L bn on w.heap.size V b cnt wt pv t0 (V / wt ^ (k + 1)) (k * cnt) a2 m2 from ⟨by rw [Nat.pow_succ, ← Nat.div_div_eq_div_mul]; exact hN2, (unhide HR1).1, (unhide HR1).2.1, (unhide HR1).2.2⟩)
      clear hN2 hw KT' HR1
      go_wp2_with fail
      go_loopw [7, 25] (fun rv iv wr => ∃ i : Nat, i ≤ cnt ∧ iv = .int .i64 (i : Nat) ∧ rv = .int .u32 (R / b ^ i : Nat) ∧ WsR wr w0 T o L bn on w.heap.size V b cnt wt pv t0 (V / wt ^ (k + 1)) (k * cnt + i) a2 m2) (fun _ iv _ => cnt - (intOf iv).toNat)
      case atStart => exact ⟨0, Nat.zero_le _, rfl, by simp, unhide HR2⟩
      case round =>
        clear HR2
        obtain ⟨i, hi, rfl, rfl, hR⟩ := hrel
        by_cases hic : i < cnt
        · have hic' : (i:Int) < (cnt:Int) := by omega
          have hdl : k * cnt + i < L := by omega
          have f0 := hR.fb (L - 1 - (k * cnt + i)) (by omega)
          have f1 := f0.1
          have f2 := f0.2
          have c0 := hR.st.c0
          have hD : R / b ^ i % b = dgt V b (k * cnt + i) := by
            rw [← unhide HRE, ← unhide HWT]
            exact dgt_part (by omega) hic
          have hDl : R / b ^ i % b < b := Nat.mod_lt _ (by omega)
          have HP := hide (hR.put hdl hST hTb (chrN (R / b ^ i % b)) (by rw [hD]))
          have hcl : chrN (R / b ^ i % b) < 256 := chrN_lt (by omega)
          have hq : R / b ^ (i + 1) = R / b ^ i / b := by rw [Nat.pow_succ, Nat.div_div_eq_div_mul]
          have HQ := hide hq
          have hr1 : R / b ^ i < 4294967296 := Nat.lt_of_le_of_lt (Nat.div_le_self _ _) hRl
          have hp : (E:Int) - 1 - (i:Int) = ((L - 1 - (k * cnt + i) : Nat) : Int) := by have := unhide HE; omega
          have hpl : L - 1 - (k * cnt + i) < L := by omega
          clear hR hD f0 hq
          generalize L - 1 - (k * cnt + i) = pp at *
          generalize R / b ^ i = Ri at *
          have e1 : (Ri:Int) % (b:Int) = ((Ri % b : Nat) : Int) := rfl
          have e2 : (Ri:Int) / (b:Int) = ((Ri / b : Nat) : Int) := rfl
          have e3 : (Ri:Int).tmod (b:Int) = ((Ri % b : Nat) : Int) := rfl
          have e4 : (Ri:Int).tdiv (b:Int) = ((Ri / b : Nat) : Int) := rfl
          have hqd : Ri / b < 4294967296 := Nat.lt_of_le_of_lt (Nat.div_le_self _ _) hr1
          generalize Ri / b = Rq at *
          generalize Ri % b = D at *
          have hD36 : (D:Int) < 36 := by omega
          have hb0 : (b:Int) ≠ 0 := by omega
          have hD3 : D < 36 := by omega
          have hch : (digLit[D]'hD3).toNat = chrN D := digLit_at ⟨D, hD3⟩
          go_wp2_with fail
          refine ⟨⟨i + 1, by omega, by go_num, by rw [unhide HQ], ?_⟩, by simp [intOf]; omega⟩
          have hP := unhide HP
          rw [← hch] at hP
          exact hP
        · obtain rfl : i = cnt := by omega
          have hic' : ¬ (i:Int) < (i:Int) := by omega
          have c1 := hR.st.c1
          have HP := hide hR
          have e1 : (E:Int) - (i:Int) = ((L - (k + 1) * i : Nat) : Int) := by have := unhide HE; omega
          have hlt : L - (k + 1) * i < E := by have := unhide HE; omega
          generalize hX : L - (k + 1) * i = X at *
          have HX := hide hX
          clear hR hX
          go_wp2_with fail
          exact ⟨⟨k + 1, a2, m2, by omega, by omega, rfl, by rw [unhide HX], by rw [hk2]; exact unhide HP⟩, by simp [intOf]; omega⟩
structure Pows (w : World) (T pb po K wt : Nat) : Prop where
  ne : pb ≠ T
  at' : ∀ i, i < K → ∃ a m, w.cell? ⟨pb, po + i, none⟩ = some (.slice a m m) ∧ Sl w a m m (limbs (wt ^ 2 ^ i)) ∧ m ≤ 2048 ∧ ∀ x, a = some x → x.block ≠ T

theorem Pows.upd {w w' : World} {T pb po K wt lo up : Nat} (h : Pows w T pb po K wt) (u : Upd T lo up w w') : Pows w' T pb po K wt := by
  refine ⟨h.ne, fun i hi => ?_⟩
  obtain ⟨a, m, h1, h2, h3, h4⟩ := h.at' i hi
  refine ⟨a, m, ?_, h2.chg u.chg (fun x hx _ => h4 x hx), h3, h4⟩
  have hb := World.block_lt_of_cell? _ _ h1
  have : w'.cell? ⟨pb, po + i, none⟩ = w.cell? ⟨pb, po + i, none⟩ := by unfold World.cell?; simp only; rw [u.block pb hb h.ne]
  rw [this]; exact h1
theorem Pows.bel {w w' : World} {T pb po K wt : Nat} (h : Pows w T pb po K wt) (k : Below w.heap.size w w') : Pows w' T pb po K wt := by
  refine ⟨h.ne, fun i hi => ?_⟩
  obtain ⟨a, m, h1, h2, h3, h4⟩ := h.at' i hi
  refine ⟨a, m, ?_, h2.below k, h3, h4⟩
  have hb := World.block_lt_of_cell? _ _ h1
  have : w'.cell? ⟨pb, po + i, none⟩ = w.cell? ⟨pb, po + i, none⟩ := by unfold World.cell?; simp only; rw [k.block pb hb]
  rw [this]; exact h1

def WrPost (w : World) (T o L N b : Nat) (e : Ending) (w' : World) : Prop :=
  e = .returned (.tuple #[]) ∧ FnB w' T o L (fun p => chrN (dgt N b (L - 1 - p))) ∧ Upd T o (o + L) w w'

theorem FnB.left {w : World} {T o L h : Nat} {f : Nat → Nat} (g : FnB w T o L f) (hh : h ≤ L) : FnB w T o h f := fun i hi => g i (by omega)
theorem FnB.right {w : World} {T o L h : Nat} {f : Nat → Nat} (g : FnB w T o L f) (hh : h ≤ L) : FnB w T (o + h) (L - h) (fun i => f (h + i)) := fun i hi => by
  have := g (h + i) (by omega)
  rwa [← Nat.add_assoc] at this

theorem halves {w3 w4 : World} {T o h N P b : Nat} (hb : 0 < b) (hP : P = b ^ h) (f3 : FnB w3 T o h (fun p => chrN (dgt (N / P) b (h - 1 - p)))) (f4 : FnB w4 T (o + h) h (fun p => chrN (dgt (N % P) b (h - 1 - p)))) (u4 : Upd T (o + h) (o + h + h) w3 w4) :
    FnB w4 T o (2 * h) (fun p => chrN (dgt N b (2 * h - 1 - p))) := by
  intro i hi
  by_cases hl : i < h
  · have := (f3.upd u4 (.inr (.inl (Nat.le_refl _)))) i hl
    simp only at this ⊢
    rw [hP, dgt_div, show h + (h - 1 - i) = 2 * h - 1 - i from by omega] at this
    exact this
  · have := f4 (i - h) (by omega)
    simp only at this ⊢
    rw [hP, dgt_mod N b hb (by omega), show h - 1 - (i - h) = 2 * h - 1 - i from by omega, show o + h + (i - h) = o + i from by omega] at this
    exact this

theorem clone_size (a : Option Addr) (n c : Nat) (xs : List Nat) (w : World) (h : Sl w a n c xs) (hb : n ≤ 70368744177600) :
    Calls Tryz.prog 121 #[.slice a n c] w fun e w' => e = .returned (.slice (some ⟨w.heap.size, 0, none⟩) n n) ∧ Fn w' w.heap.size 0 n (fun i => xs.getD i 0) ∧ Below w.heap.size w w' ∧ w.heap.size < w'.heap.size := by
  have hmk := make_len n hb
  have HF := hide (Fn.made w n 87)
  have HS := hide (h.below ((Below.refl w.heap.size w).alloc (Nat.le_refl _) (.cells (madeCells #[.int .u32 0] n) 87)))
  have HL := hide h.len
  go_enter Tryz.func121, Tryz.ntmps121
  go_wp2_with (refine wpList_copy_row rfl _ _ rfl w.heap.size 0 n n a n c rfl rfl _ (unhide HF) xs (unhide HS) (Nat.le_refl _) ?_)
  go_ret
  have hu := Upd.setCells w.heap.size 0 n (vals xs) 0 (w.alloc (.cells (madeCells #[.int .u32 0] n) 87)) (Nat.le_refl _) (by simp [vals, unhide HL])
  refine ⟨rfl, ?_, ?_, ?_⟩
  · refine ((unhide HF).copied xs (by rw [unhide HL]; exact Nat.le_refl _)).congr ?_
    intro i hi
    simp [unhide HL, hi]
  · refine ((Below.refl w.heap.size w).alloc (Nat.le_refl _) (.cells (madeCells #[.int .u32 0] n) 87)).trans ?_
    exact hu.below (Nat.le_refl _) (by simp)
  · have := hu.size
    simp at this
    omega

set_option maxHeartbeats 8000000 in
theorem write_short (lv T o L cT : Nat) (a : Option Addr) (m c N b cnt wt : Nat) (pv : Value) (t0 : Nat → Nat) (w : World) (hL : L = cnt * 2 ^ lv) (hL2 : L ≤ 1000000000) (hb : 2 ≤ b) (hb2 : b ≤ 36) (hch : Chunk b cnt) (hwt : b ^ cnt = wt)
    (hm : m ≤ 24) (hs : Sl w a m c (limbs N)) (hf : FnB w T o L t0) :
    Calls Tryz.prog 127 #[writerV b cnt wt pv, .slice (some ⟨T, o, none⟩) L cT, .slice a m c, .int .i64 (lv : Nat)] w fun e w' => WrPost w T o L N b e w' := by
  have hc1 := hch.pos
  have hLp : 0 < L := by rw [hL]; exact Nat.mul_pos hc1 (Nat.pow_pos (by decide))
  have hT : T < w.heap.size := World.block_lt_of_cell? _ _ (hf 0 hLp).1
  have bel := (Below.refl w.heap.size w).alloc (Nat.le_refl _) (.cells #[.int .i64 (b : Nat), .int .i64 (cnt : Nat), .int .u32 (wt : Nat), pv] 191)
  have St := St4.made w b cnt wt pv 191
  obtain ⟨wa, hwa⟩ : ∃ wa, w.alloc (.cells #[.int .i64 (b : Nat), .int .i64 (cnt : Nat), .int .u32 (wt : Nat), pv] 191) = wa := ⟨_, rfl⟩
  rw [hwa] at bel St
  have bel := bel.drew
  have St : St4 wa.drew w.heap.size b cnt wt pv := St.keep (fun i => rfl)
  have KC := hide (clone_size a m c (limbs N) wa.drew (hs.below bel) (by omega))
  have HW := hide (fun (w1 : World) (bn : Nat) (h1 : w.heap.size ≤ bn) (h2 : bn < w1.heap.size) (hB : Below w.heap.size w w1) (hN : NumW w1 (some ⟨bn, 0, none⟩) m bn 0 N) => writeShort_any w w1 T o L cT bn 0 (some ⟨bn, 0, none⟩) m b cnt wt (2 ^ lv) N pv t0 hL hL2 hb hb2 hch hwt hT h1 h2 (by omega) (hf.bel hB) hN (Upd.of_below hT hB))
  have HL := hide hs.len
  have HB := hide bel
  have HSt := hide St
  have d0 := St.c0
  have d1 := St.c1
  have d2 := St.c2
  have d3 := St.c3
  have hm' : (m:Int) ≤ 24 := by omega
  have hwS : w.heap.size < wa.drew.heap.size := St.lt
  clear hs hf hch hwt hL bel St
  unfold writerV at HW ⊢
  go_enter Tryz.func127, Tryz.ntmps127
  go_wp2_with fail
  go_region_with (first
    | (go_at_call 121
       refine (unhide KC).mono ?_
       clear KC
       rintro _ w1 ⟨rfl, f1, b1, z1⟩
       have hSt1 : St4 w1 w.heap.size b cnt wt pv := (unhide HSt).keep (fun i => by unfold World.cell?; simp only; rw [b1.block _ hwS])
       have k0 := hSt1.c0
       have k1 := hSt1.c1
       have k2 := hSt1.c2
       have k3 := hSt1.c3
       have hN1 : NumW w1 (some ⟨wa.drew.heap.size, 0, none⟩) m wa.drew.heap.size 0 N := .inr ⟨_, rfl, f1, fun i _ => (limbs_rep N).ok.getD i, by rw [valF_ge _ _ (by rw [unhide HL]; exact Nat.le_refl _), (limbs_rep N).val]⟩
       have hB1 : Below w.heap.size w w1 := (unhide HB).trans (b1.mono (unhide HB).size)
       have KW := hide (unhide HW w1 wa.drew.heap.size (unhide HB).size z1 hB1 hN1)
       clear f1 b1 hN1 hB1 HW hSt1 z1)
    | (go_at_call 139
       refine (unhide KW).mono ?_
       clear KW
       rintro _ w2 ⟨rfl, f2, u2⟩
       have H2 := hide (And.intro f2 u2)
       clear f2 u2))
  all_goals
    go_wp2
    go_end0
    refine ⟨rfl, (unhide H2).1.congr (fun p hp => by unfold txf; rw [if_pos (by omega)]), (unhide H2).2⟩
open Go.RowKit Go.Deep
set_option linter.unusedVariables false

structure WrPre (w : World) (lv T o L cT : Nat) (a : Option Addr) (m c N b cnt wt pb po K : Nat) (t0 : Nat → Nat) : Prop where
  hL : L = cnt * 2 ^ lv
  hc : L ≤ cT
  hs : Sl w a m c (limbs N)
  ne : ∀ x, a = some x → limbs N ≠ [] → x.block ≠ T
  hm : m ≤ 2048
  hN : N < wt ^ 2 ^ lv
  hK : lv ≤ K
  ps : Pows w T pb po K wt
  fb : FnB w T o L t0

set_option maxHeartbeats 16000000 in
theorem write_long (l T o L cT : Nat) (a : Option Addr) (m c N b cnt wt pb po K cp : Nat) (t0 : Nat → Nat) (w : World) (hb : 2 ≤ b) (hb2 : b ≤ 36) (hch : Chunk b cnt) (hwt : b ^ cnt = wt) (hL2 : L ≤ 1000000000) (hK2 : K ≤ 1000) (hcT : cT ≤ 1000000000) (hm : ¬ m ≤ 24)
    (h : WrPre w (l + 1) T o L cT a m c N b cnt wt pb po K t0)
    (ih : ∀ (o L cT : Nat) (a : Option Addr) (m c N : Nat) (t0 : Nat → Nat) (w : World), L ≤ 1000000000 → cT ≤ 1000000000 → WrPre w l T o L cT a m c N b cnt wt pb po K t0 →
      Calls Tryz.prog 127 #[writerV b cnt wt (.slice (some ⟨pb, po, none⟩) K cp), .slice (some ⟨T, o, none⟩) L cT, .slice a m c, .int .i64 (l : Nat)] w fun e w' => WrPost w T o L N b e w') :
    Calls Tryz.prog 127 #[writerV b cnt wt (.slice (some ⟨pb, po, none⟩) K cp), .slice (some ⟨T, o, none⟩) L cT, .slice a m c, .int .i64 ((l + 1 : Nat) : Int)] w fun e w' => WrPost w T o L N b e w' := by
  obtain ⟨H, hH⟩ : ∃ H, cnt * 2 ^ l = H := ⟨_, rfl⟩
  have hL : L = 2 * H := by rw [h.hL, Nat.pow_succ, ← hH, Nat.mul_comm (2 ^ l) 2, Nat.mul_left_comm]
  have hH1 : 0 < H := by rw [← hH]; exact Nat.mul_pos hch.pos (Nat.pow_pos (by decide))
  have hT : T < w.heap.size := World.block_lt_of_cell? _ _ (h.fb 0 (by omega)).1
  obtain ⟨P, hP⟩ : ∃ P, wt ^ 2 ^ l = P := ⟨_, rfl⟩
  have hPb : P = b ^ H := by rw [← hP, ← hwt, ← hH, Nat.pow_mul]
  have hP0 : 0 < P := by rw [hPb]; exact Nat.pow_pos (by omega)
  have hNP : N < P * P := by
    have := h.hN
    rw [Nat.pow_succ, Nat.mul_comm (2 ^ l) 2, Nat.two_mul, Nat.pow_add, hP] at this
    exact this
  have hNq : N / P < P := (Nat.div_lt_iff_lt_mul hP0).2 hNP
  have hNr : N % P < P := Nat.mod_lt _ hP0
  have hlK := h.hK
  obtain ⟨ai, mi, p1, p2, p3, p4⟩ := h.ps.at' l (by omega)
  rw [hP] at p2
  have bel := (Below.refl w.heap.size w).alloc (Nat.le_refl _) (.cells #[.int .i64 (b : Nat), .int .i64 (cnt : Nat), .int .u32 (wt : Nat), .slice (some ⟨pb, po, none⟩) K cp] 191)
  have St := St4.made w b cnt wt (.slice (some ⟨pb, po, none⟩) K cp) 191
  obtain ⟨wa, hwa⟩ : ∃ wa, w.alloc (.cells #[.int .i64 (b : Nat), .int .i64 (cnt : Nat), .int .u32 (wt : Nat), .slice (some ⟨pb, po, none⟩) K cp] 191) = wa := ⟨_, rfl⟩
  rw [hwa] at bel St
  have hpb := World.block_lt_of_cell? _ _ p1
  have p1a : wa.cell? ⟨pb, po + l, none⟩ = some (.slice ai mi mi) := by rw [← p1]; unfold World.cell?; simp only; rw [bel.block pb hpb]
  have d0 := St.c0
  have d1 := St.c1
  have d2 := St.c2
  have d3 := St.c3
  have hm' : ¬ (m:Int) ≤ 24 := by omega
  have hl1 : ((l + 1 : Nat) : Int) - 1 = (l : Int) := by omega
  have hl2 : (l:Int) < (K:Int) := by omega
  have hh1 : (L:Int).tdiv 2 = (H:Int) := by rw [Int.tdiv_eq_ediv_of_nonneg (by omega)]; omega
  have hh2 : (L:Int) / 2 = (H:Int) := by omega
  have hLH : (H:Int) ≤ (L:Int) := by omega
  have HSt := hide St
  have HB := hide bel
  have H0 := hide h
  have HI := hide ih
  have HPs := hide p2
  have HHe := hide hH.symm
  clear h ih p1 p2 bel St hch hwt hH
  unfold writerV at HI ⊢
  go_enter Tryz.func127, Tryz.ntmps127
  go_wp2_with fail
  have hPne : limbs P ≠ [] := by
    intro e
    have := (limbs_rep P).val
    rw [e] at this
    simp [val] at this
    omega
  have KD := divide_any a ai m c mi mi (limbs N) (limbs P) wa ((unhide H0).hs.below (unhide HB)) ((unhide HPs).below (unhide HB)) (limbs_rep N).ok (limbs_rep P).ok (limbs_rep N).norm (limbs_rep P).norm (unhide H0).hm hPne
  rw [(limbs_rep N).val, (limbs_rep P).val] at KD
  refine KD.mono ?_
  clear KD
  rintro _ w1 ⟨aq, mq, zq, ar, mr, zr, rfl, s1, r1, q1, s2, r2, q2, hne, hB⟩
  rw [r1.eq] at s1
  rw [r2.eq] at s2
  have hsz := (unhide HB).size
  have hwS : w.heap.size < wa.heap.size := (unhide HSt).lt
  have hb1 : Below w.heap.size w w1.drew := ((unhide HB).trans (hB.mono hsz)).drew
  have hNm : N < 4294967296 ^ m := by
    have h1 := val_lt (limbs_rep N).ok
    rw [(limbs_rep N).val, (unhide H0).hs.len] at h1
    exact h1
  have hmq : mq ≤ 2048 := by
    have h1 := rep_len_leS (limbs_rep (N / P)) (j := m) (Nat.lt_of_le_of_lt (Nat.div_le_self _ _) hNm)
    have h2 := s1.len
    have := (unhide H0).hm
    omega
  have hmr : mr ≤ 2048 := by
    have h1 := rep_len_leS (limbs_rep (N % P)) (j := m) (Nat.lt_of_le_of_lt (Nat.mod_le _ _) hNm)
    have h2 := s2.len
    have := (unhide H0).hm
    omega
  have neq : ∀ x, aq = some x → x.block ≠ T := fun x hx => by have := q1 x hx; omega
  have ner : ∀ x, ar = some x → x.block ≠ T := fun x hx => by have := q2 x hx; omega
  have St1 : St4 w1.drew w.heap.size b cnt wt (.slice (some ⟨pb, po, none⟩) K cp) := (unhide HSt).keep (fun i => by show w1.cell? _ = _; unfold World.cell?; simp only; rw [hB.block _ hwS])
  have ps1 := (unhide H0).ps.bel hb1
  have fb1 := (unhide H0).fb.bel hb1
  have K1 := hide (unhide HI o H H aq mq mq (N / P) t0 w1.drew (by omega) (by omega) ⟨unhide HHe, Nat.le_refl _, s1.below (Below.refl _ _).drew, fun x hx _ => neq x hx, hmq, by rw [hP]; exact hNq, by omega, ps1, fb1.left (by omega)⟩)
  have HX := hide (And.intro (s2.below (Below.refl _ _).drew) (And.intro St1 (And.intro ps1 (And.intro fb1 (And.intro hb1 ner)))))
  have e0 := St1.c0
  have e1 := St1.c1
  have e2 := St1.c2
  have e3 := St1.c3
  have hST : w.heap.size ≠ T := by omega
  have hcc := (unhide H0).hc
  have v1 : (H:Int) ≤ (cT:Int) := by omega
  have v2 : (H:Int) ≤ 2 * (H:Int) := by omega
  have v3 : H ≤ cT := by omega
  have v4 : H ≤ 2 * H := by omega
  have v5 : 2 * (H:Int) - (H:Int) = (H:Int) := by omega
  have v6 : 2 * H - H = H := by omega
  obtain ⟨C, hC⟩ : ∃ C, cT - H = C := ⟨_, rfl⟩
  have v7 : (cT:Int) - (H:Int) = (C : Int) := by omega
  have HC := hide hC
  have v8 : ¬ cT = H := by omega
  have wl : IntKind.i64.wrap (l:Int) = (l:Int) := by rw [IntKind.wrap_i64]; omega
  have wl2 : IntKind.i64.wrap ((l:Int) + 1 - 1) = (l:Int) := by rw [IntKind.wrap_i64]; omega
  have HNum := hide (And.intro hPb (And.intro hNr hP))
  clear hP hPb hP0 hNP hNq hNr hh1 hh2 hLH hwa hsz hNm p3 p4 hC hlK
  clear s1 s2 r1 r2 q1 q2 hne hB St1 ps1 fb1 hb1 neq ner HSt HPs hPne d0 d1 d2 d3 p1a
  go_wp2_with fail
  go_region_with (go_at_call 127; refine (unhide K1).mono ?_; clear K1; rintro _ w2 ⟨rfl, f2, u2⟩; have H2 := hide (And.intro f2 u2); clear f2 u2)
  all_goals
    obtain ⟨f2, u2⟩ := unhide H2
    obtain ⟨s2, St1, ps1, fb1, hb1, ner⟩ := unhide HX
    have St2 : St4 w2.drew w.heap.size b cnt wt (.slice (some ⟨pb, po, none⟩) K cp) := (St1.upd u2 hST).keep (fun i => rfl)
    have fr : FnB w2.drew T (o + H) H (fun i => t0 (H + i)) := by
      have h1 : FnB w1.drew T (o + H) (L - H) (fun i => t0 (H + i)) := fb1.right (by omega)
      rw [show L - H = H from by omega] at h1
      exact (h1.upd u2 (.inr (.inr (Nat.le_refl _)))).bel (Below.refl _ _).drew
    have K2 := hide (unhide HI (o + H) H (cT - H) ar mr mr (N % P) (fun i => t0 (H + i)) w2.drew (by omega) (by omega) ⟨unhide HHe, by omega, (s2.chg u2.chg (fun x hx _ => ner x hx)).below (Below.refl _ _).drew, fun x hx _ => ner x hx, hmr, by rw [(unhide HNum).2.2]; exact (unhide HNum).2.1, by omega, (ps1.upd u2).bel (Below.refl _ _).drew, fr⟩)
    have g0 := St2.c0
    have g1 := St2.c1
    have g2 := St2.c2
    have g3 := St2.c3
    clear f2 u2 s2 St1 ps1 fb1 hb1 ner St2 fr e0 e1 e2 e3
    go_wp2_with fail
    go_region_with (go_at_call 127; refine (unhide K2).mono ?_; clear K2; rintro _ w3 ⟨rfl, f3, u3⟩; have H3 := hide (And.intro f3 u3); clear f3 u3)
    all_goals
      go_wp2
      go_end0
      obtain ⟨f2, u2⟩ := unhide H2
      obtain ⟨f3, u3⟩ := unhide H3
      obtain ⟨s2, St1, ps1, fb1, hb1, ner⟩ := unhide HX
      refine ⟨rfl, ?_, ?_⟩
      · have := halves (N := N) (P := P) (by omega) (unhide HNum).1 f2 f3 (by
          have h1 : Upd T (o + H) (o + H + H) w2 w2.drew := (Upd.refl _ _ _ _).drew
          exact h1.trans u3)
        rw [hL]
        exact this
      · rw [hL]
        have h1 : Upd T o (o + 2 * H) w w1.drew := Upd.of_below hT hb1
        have h2 : Upd T o (o + 2 * H) w1.drew w2 := u2.mono (Nat.le_refl _) (by omega)
        have h3 : Upd T o (o + 2 * H) w2 w2.drew := (Upd.refl _ _ _ _).drew
        have h4 : Upd T o (o + 2 * H) w2.drew w3 := u3.mono (by omega) (by omega)
        exact ((h1.trans h2).trans h3).trans h4

theorem long_level {N n lv wt : Nat} (hw : wt < 4294967296) (h : N < wt ^ 2 ^ lv) (hn : ¬ (limbs N).length ≤ 24) : 0 < lv := by
  rcases Nat.eq_zero_or_pos lv with e | e
  · exfalso
    subst e
    simp at h
    have := rep_len_leS (limbs_rep N) (j := 1) (by omega)
    omega
  · exact e

theorem write_any (T b cnt wt pb po K cp : Nat) (pv : Value) (hpv : K = 0 ∨ pv = .slice (some ⟨pb, po, none⟩) K cp) (hb : 2 ≤ b) (hb2 : b ≤ 36) (hch : Chunk b cnt) (hwt : b ^ cnt = wt) (hK2 : K ≤ 1000) :
    ∀ (lv o L cT : Nat) (a : Option Addr) (m c N : Nat) (t0 : Nat → Nat) (w : World), L ≤ 1000000000 → cT ≤ 1000000000 → WrPre w lv T o L cT a m c N b cnt wt pb po K t0 →
      Calls Tryz.prog 127 #[writerV b cnt wt pv, .slice (some ⟨T, o, none⟩) L cT, .slice a m c, .int .i64 (lv : Nat)] w fun e w' => WrPost w T o L N b e w'
  | 0, o, L, cT, a, m, c, N, t0, w, hL2, hc2, h => by
    by_cases hm : m ≤ 24
    · exact write_short 0 T o L cT a m c N b cnt wt pv t0 w h.hL hL2 hb hb2 hch hwt hm h.hs h.fb
    · have := long_level (n := 0) (by have := hch.lt; omega) h.hN (by rw [h.hs.len]; exact hm)
      omega
  | l + 1, o, L, cT, a, m, c, N, t0, w, hL2, hc2, h => by
    by_cases hm : m ≤ 24
    · exact write_short (l + 1) T o L cT a m c N b cnt wt pv t0 w h.hL hL2 hb hb2 hch hwt hm h.hs h.fb
    · have hK := h.hK
      have e := hpv.resolve_left (by omega)
      subst e
      exact write_long l T o L cT a m c N b cnt wt pb po K cp t0 w hb hb2 hch hwt hL2 hK2 hc2 hm h (write_any T b cnt wt pb po K cp _ (.inr rfl) hb hb2 hch hwt hK2 l)
end Go.Proofs.YtpicknbdfjjflaaGreatDoor
