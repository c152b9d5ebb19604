/- Dv6 -/
import Derived.Test.YtiadccaaoenccaaDoorGb
import Derived.Test.YtiadccaaoenccaaDoorShl
namespace Go.Proofs.YtiadccaaoenccaaDoor
open Go.RowKit Go.Deep
set_option linter.unusedVariables false
def QRPost (w w' : World) (q r : Nat) (e : Ending) : Prop :=
  ∃ aq mq zq ar mr zr, e = .returned (.tuple #[.slice aq mq mq, .slice ar mr mr]) ∧ Sl w' aq mq mq zq ∧ Rep q zq ∧ NewAt w.heap.size aq ∧ Sl w' ar mr mr zr ∧ Rep r zr ∧ NewAt w.heap.size ar ∧ (∀ x y, aq = some x → ar = some y → x.block ≠ y.block) ∧ Below w.heap.size w w'

theorem make_dif1 (n l : Nat) (hle : l ≤ n) (h : n ≤ 70368744177000) (w : World) : (Instr.makeSlice 49 (.int .i64 ((n : Int) - (l : Int) + 1)) (.int .i64 ((n : Int) - (l : Int) + 1))).run Tryd.prog w = .ok (.slice (some ⟨w.heap.size, 0, none⟩) (n - l + 1) (n - l + 1)) (w.alloc (.cells (madeCells #[.int .u32 0] (n - l + 1)) 74)) := by
  have := make_len (n - l + 1) (by omega) w
  rw [show ((n - l + 1 : Nat) : Int) = (n : Int) - (l : Int) + 1 from by omega] at this
  exact this

theorem qr_unique {a b s Q t : Nat} (hb : 0 < b) (h : t + Q * (b * 2 ^ s) = a * 2 ^ s) (hlt : t < b * 2 ^ s) : Q = a / b ∧ t / 2 ^ s = a % b := by
  have hp : 0 < 2 ^ s := Nat.pow_pos (by decide)
  generalize 2 ^ s = S at *
  have h1 : t = S * (t / S) := by
    have : S ∣ t := by
      have d1 : S ∣ t + Q * (b * S) := by rw [h]; exact Nat.dvd_mul_left _ _
      have d2 : S ∣ Q * (b * S) := by rw [← Nat.mul_assoc]; exact Nat.dvd_mul_left _ _
      exact (Nat.dvd_add_left d2).1 d1
    exact (Nat.mul_div_cancel' this).symm
  generalize t / S = r at *
  subst h1
  have h2 : S * (r + Q * b) = S * a := by
    rw [Nat.mul_add, Nat.mul_comm S a, ← h, Nat.mul_comm S (Q * b), Nat.mul_assoc]
  have h3 : r + Q * b = a := Nat.eq_of_mul_eq_mul_left hp h2
  have h4 : r < b := by
    rw [Nat.mul_comm b] at hlt
    exact Nat.lt_of_mul_lt_mul_left hlt
  subst h3
  constructor
  · rw [Nat.add_mul_div_right _ _ hb, Nat.div_eq_of_lt h4, Nat.zero_add]
  · rw [Nat.add_mul_mod_self_right, Nat.mod_eq_of_lt h4]

theorem lg_start {xs ys : List Nat} {n1 n2 s : Nat} (ox : Ok xs) (hl1 : xs.length = n1) (hl2 : ys.length = n2) (hge : 4294967296 ^ (ys.length - 1) ≤ val ys) (hn : 1 ≤ n2) (hle : n2 ≤ n1) : val xs * 2 ^ s < val ys * 2 ^ s * 4294967296 ^ (n1 - n2 + 1) := by
  have hp : 0 < 2 ^ s := Nat.pow_pos (by decide)
  rw [Nat.mul_right_comm]
  refine Nat.mul_lt_mul_of_pos_right ?_ hp
  refine Nat.lt_of_lt_of_le (val_lt ox) ?_
  rw [hl1, show n1 = (ys.length - 1) + (n1 - n2 + 1) from by omega, Nat.pow_add]
  rw [show (ys.length - 1) + (n1 - n2 + 1) - n2 + 1 = n1 - n2 + 1 from by omega]
  exact Nat.mul_le_mul_right _ hge

theorem lg_rest {f : Nat → Nat} {n N V : Nat} (hn : n ≤ N) (h : valF f N < V) (hV : V < 4294967296 ^ n) : valF f n = valF f N := by
  have e := valF_add f n (N - n)
  rw [show n + (N - n) = N from by omega] at e
  rcases Nat.eq_zero_or_pos (valF (fun i => f (n + i)) (N - n)) with k | k
  · rw [k] at e; omega
  · exfalso
    have : 4294967296 ^ n * 1 ≤ 4294967296 ^ n * valF (fun i => f (n + i)) (N - n) := Nat.mul_le_mul_left _ k
    omega

def QRF (w w' : World) (q r : Nat) (e : Ending) : Prop :=
  ∃ aq mq zq ar mr zr, e = .returned (.tuple #[.slice aq mq mq, .slice ar mr mr]) ∧ Sl w' aq mq mq zq ∧ Rep q zq ∧ NewAt w.heap.size aq ∧ Sl w' ar mr mr zr ∧ Rep r zr ∧ NewAt w.heap.size ar ∧ (∀ x y, aq = some x → ar = some y → x.block ≠ y.block) ∧ Below w.heap.size w w' ∧ Fz w' ar mr
theorem QRF.post {w w' : World} {q r : Nat} {e : Ending} (h : QRF w w' q r e) : QRPost w w' q r e := by
  obtain ⟨aq, mq, zq, ar, mr, zr, h1, h2, h3, h4, h5, h6, h7, h8, h9, _⟩ := h
  exact ⟨aq, mq, zq, ar, mr, zr, h1, h2, h3, h4, h5, h6, h7, h8, h9⟩

set_option maxHeartbeats 8000000 in
theorem divLong_someF (b1 o1 n1 c1 b2 o2 n2 c2 : Nat) (xs ys : List Nat) (w : World) (h1 : Sl w (some ⟨b1, o1, none⟩) n1 c1 xs) (h2 : Sl w (some ⟨b2, o2, none⟩) n2 c2 ys) (ox : Ok xs) (oy : Ok ys) (ny : Norm ys) (hn1 : n1 ≤ 2048) (hn2 : 2 ≤ n2) (hle : n2 ≤ n1) :
    Calls Tryd.prog 87 #[.slice (some ⟨b1, o1, none⟩) n1 c1, .slice (some ⟨b2, o2, none⟩) n2 c2] w fun e w' => QRF w w' (val xs / val ys) (val xs % val ys) e := by
  have hl1 := h1.len
  have hl2 := h2.len
  have hy0 : ys ≠ [] := by intro e; subst e; simp at hl2; omega
  have ht : ys.getD (n2 - 1) 0 ≠ 0 := by rw [← hl2]; exact ny.resolve_left hy0
  have bt := oy.getD (n2 - 1)
  have ct : w.cell? ⟨b2, o2 + (n2 - 1), none⟩ = some (.int .u32 (ys.getD (n2 - 1) 0 : Nat)) := by
    rcases h2.cells with e | ⟨b, o, e, hc⟩
    · exact absurd e hy0
    · cases e; exact hc _ (by omega)
  have bl1 := bl_pos _ ht (by omega)
  have bl2 : Lib.bitLen (ys.getD (n2 - 1) 0) ≤ 32 := Lib.bitLen_le _ 32 (by omega) (by omega)
  obtain ⟨s, hs⟩ : ∃ s, Lib.bitLen (ys.getD (n2 - 1) 0) + s = 32 := ⟨32 - Lib.bitLen (ys.getD (n2 - 1) 0), by omega⟩
  have KZ := lz32_any (ys.getD (n2 - 1) 0) w bt
  rw [show (32 : Int) - (Lib.bitLen (ys.getD (n2 - 1) 0) : Int) = (s : Int) from by omega] at KZ
  have hs31 : s ≤ 31 := by omega
  have KZ' := hide KZ
  have KV := hide (shl_any _ n2 c2 ys w s h2 oy (by omega) (by omega))
  have HV := hide (fun (zs : List Nat) (hr : Rep (val ys * 2 ^ s) zs) => norm_shift hl2 (by omega) oy hs ht hr)
  have HX := hide h1
  have HL1 := hide hl1
  have HL2 := hide hl2
  have j1 : ((n2:Int) - 1).toNat = n2 - 1 := by omega
  have hvy : 0 < val ys := by
    have a := val_ge_of_norm ny hy0
    have b := pow_pos (ys.length - 1)
    omega
  have hgeY := hide (val_ge_of_norm ny hy0)
  generalize ys.getD (n2 - 1) 0 = t at ct KZ'
  clear KZ h1 h2 hs bl1 bl2 bt ht hl1 hl2
  go_enter Tryd.func87, Tryd.ntmps87
  go_wp2_with fail
  refine (unhide KZ').mono ?_
  rintro e w' ⟨rfl, hw⟩
  obtain rfl := hw.symm
  clear hw
  go_wp2_with fail
  refine (unhide KV).mono ?_
  rintro e w1 ⟨av, mv, vs, rfl, hsv, hrv, hav, hbv⟩
  have hvl := unhide HV vs hrv
  have hmv : n2 = mv := by rw [← hsv.len]; exact hvl.1.symm
  subst hmv
  have htv := hvl.2
  have hvne : vs ≠ [] := by intro e; have := hvl.1; rw [e] at this; simp at this; omega
  obtain ⟨bv, ov, rfl, hvc⟩ := hsv.cells.resolve_left hvne
  have hbvn : w.heap.size ≤ bv := hav _ rfl
  have hbvl : bv < w1.heap.size := World.block_lt_of_cell? _ _ (hvc 0 (by have := hvl.1; omega))
  have HVL := hide hvl.1
  have HVR := hide hrv
  have HVC := hide hvc
  have HB1 := hide hbv
  have hmk := make_len1 n1 (by omega)
  have HS1 := hide ((unhide HX).below hbv)
  clear hvl hsv hrv hav hbv hvc hvne KV HV KZ'
  have KX := hide (shl_any _ n1 c1 xs (w1.alloc (.cells (madeCells #[.int .u32 0] (n1 + 1)) 74)) s ((unhide HS1).below ((Below.refl w1.heap.size w1).alloc (Nat.le_refl _) _)) ox hn1 (by omega))
  have HP1 := hide (Part.of_zero (Fn.made w1 (n1 + 1) 74))
  have HB2 := hide ((unhide HB1).trans (((Below.refl w1.heap.size w1).alloc (Nat.le_refl _) (.cells (madeCells #[.int .u32 0] (n1 + 1)) 74)).mono (unhide HB1).size))
  have HVC2 := hide ((unhide HVC).below ((Below.refl w1.heap.size w1).alloc (Nat.le_refl _) (.cells (madeCells #[.int .u32 0] (n1 + 1)) 74)))
  go_wp2_with fail
  refine (unhide KX).mono ?_
  rintro e w2 ⟨ax, mx, zs, rfl, hsx, hrx, hax, hbx⟩
  have hmx : mx ≤ n1 + 1 := by
    rw [← hsx.len]
    refine rep_len_le' hrx ?_
    have a1 := val_lt ox
    rw [unhide HL1] at a1
    have a2 : (2:Nat) ^ s ≤ 4294967296 := Nat.le_trans (Nat.pow_le_pow_right (by decide) (show s ≤ 32 by omega)) (by decide)
    rw [Nat.pow_succ]
    exact Nat.mul_lt_mul_of_lt_of_le a1 a2 (by decide)
  have HP2 := hide ((unhide HP1).below hbx)
  have HVC3 := hide ((unhide HVC2).below hbx)
  have HB3 := hide ((unhide HB2).trans (hbx.mono (unhide HB2).size))
  have hsz2 : w1.heap.size < w2.heap.size := by have := hbx.size; simp at this; omega
  have HRX := hide hrx
  have HSX := hide hsx
  have hmk2 := make_dif1 n1 n2 hle (by omega)
  clear hsx hrx hax hbx KX HP1 HB2 HVC2 HVC HB1 hmk
  go_wp2_with (refine wpList_copy_part rfl _ _ rfl w1.heap.size 0 (n1 + 1) (n1 + 1) ax mx mx rfl rfl (unhide HP2) zs (unhide HSX) (unhide HRX).ok hmx ?_; intro w3 hu3 hp3; have HU3 := hide hu3; have HP3 := hide hp3; clear hu3 hp3 HP2)
  have hsz3 : w2.heap.size ≤ w3.heap.size := (unhide HU3).size
  have hbu : w.heap.size ≤ w1.heap.size := by have := (unhide HB3).size; omega
  have hV := hide (show val vs < 4294967296 ^ n2 from by have := val_lt (unhide HVR).ok; rwa [unhide HVL] at this)
  have HR0 := hide (show ∃ f, LgR (w3.alloc (.cells (madeCells #[.int .u32 0] (n1 - n2 + 1)) 74)) w w1.heap.size w3.heap.size bv ov n1 n2 (n1 - n2 + 1) vs (val xs * 2 ^ s) (val vs) (n1 - n2 + 1) f (fun _ => 0) from by
    obtain ⟨f, F, hf, hv⟩ := unhide HP3
    have bel := (Below.refl w3.heap.size w3).alloc (Nat.le_refl _) (.cells (madeCells #[.int .u32 0] (n1 - n2 + 1)) 74)
    rw [(unhide HRX).val] at hv
    refine ⟨f, F.below bel, hf, Fn.made w3 (n1 - n2 + 1) 74, fun _ _ => by decide, ?_, ?_, ((unhide HU3).cells (unhide HVC3) (.inl (by omega))).below bel, ?_⟩
    · rw [Nat.sub_self]; simp only [valF, Nat.zero_mul, Nat.mul_zero, Nat.add_zero]; exact hv
    · rw [hv, (unhide HVR).val]
      exact lg_start ox (unhide HL1) (unhide HL2) (unhide hgeY) (by omega) hle
    · exact (unhide HB3).trans (((unhide HU3).below hbu (unhide HB3).size).trans (bel.mono (by omega))))
  have hbq : w1.heap.size ≠ w3.heap.size := by omega
  have hb2 : bv ≠ w1.heap.size := by omega
  have hb3 : bv ≠ w3.heap.size := by omega
  have hq0 : w.heap.size ≤ w3.heap.size := by omega
  generalize hbuE : w1.heap.size = bu at *
  generalize hbqE : w3.heap.size = bq at *
  clear HP3 HU3 HVC3 HB3 hmk2 HSX HS1 HX
  go_loopw [10] (fun i wr => ∃ k : Nat, ∃ f g : Nat → Nat, k ≤ n1 - n2 + 1 ∧ i = .int .i64 ((k : Int) - 1) ∧ LgR wr w bu bq bv ov n1 n2 (n1 - n2 + 1) vs (val xs * 2 ^ s) (val vs) k f g) (fun i _ => (intOf i + 1).toNat)
  case atStart =>
    obtain ⟨f, hR⟩ := unhide HR0
    exact ⟨n1 - n2 + 1, f, _, Nat.le_refl _, by congr 1; omega, hR⟩
  case round =>
    clear HR0
    obtain ⟨k, f, g, hk, rfl, hR⟩ := hrel
    rcases k with _ | k
    · have hV' := unhide hV
      have hlt := hR.lt
      rw [Nat.pow_zero, Nat.mul_one] at hlt
      have hrest := lg_rest (n := n2) (by omega) hlt hV'
      have htot := hR.tot
      simp only [Nat.pow_zero, Nat.one_mul, Nat.zero_add, Nat.sub_zero] at htot
      rw [(unhide HVR).val] at htot hlt
      have hqr := qr_unique hvy htot hlt
      have KT := trim_any (some ⟨bq, 0, none⟩) (n1 - n2 + 1) (n1 - n2 + 1) _ wr.drew ((fn_drew hR.qn).sl (Nat.le_refl _) (by unfold maxLen; omega)) (lst_ok hR.qk)
      rw [lst_val, hqr.1] at KT
      have fl : Fn wr.drew bu 0 n2 f := fun i hi => hR.fn i (by omega)
      have KS := shr_anyF (some ⟨bu, 0, none⟩) n2 (n1 + 1) _ wr.drew s (fl.sl (by omega) (by unfold maxLen; omega)) (lst_ok (fun i hi => hR.ok i (by omega))) (by omega) (by omega)
      rw [lst_val, hrest, hqr.2] at KS
      have KT' := hide KT
      have KS' := hide KS
      have HB := hide hR.bel.drew
      have hbql : bq < wr.drew.heap.size := World.block_lt_of_cell? _ _ (hR.qn 0 (by omega)).1
      clear KT KS fl hqr htot hrest hlt hV' hR
      have t1 : ¬ (0:Int) ≤ ((0:Nat):Int) - 1 := by omega
      have t2 : (n2:Int) ≤ (n1:Int) + 1 := by omega
      go_wp2_with fail
      go_region_with (first | (go_at_call 80; refine (unhide KT').mono ?_; rintro e w' ⟨aq, mq, zq, rfl, hsq, hrq, haq, hw⟩; obtain rfl := hw.symm; have HSQ := hide hsq; have HRQ := hide hrq; have HAQ := hide haq; clear hsq hrq haq KT') | (go_at_call 93; refine (unhide KS').mono ?_; rintro e w6 ⟨ar, mr, zr, rfl, hsr, hrr, har, hbr, hfr⟩; have HZ := hide (And.intro hsr (And.intro hrr (And.intro har (And.intro hbr hfr)))); clear hsr hrr har hbr hfr KS'))
      all_goals
        go_wp2
        go_ret2
        obtain ⟨hsr, hrr, har, hbr, hfr⟩ := unhide HZ
        refine ⟨aq, mq, zq, ar, mr, zr, rfl, (unhide HSQ).below hbr, unhide HRQ, ?_, hsr, hrr, fun x hx => Nat.le_trans (unhide HB).size (har x hx), ?_, (unhide HB).trans (hbr.mono (unhide HB).size), hfr⟩
        · intro x hx
          rcases unhide HAQ with e | e
          · rw [e] at hx; cases hx; exact hq0
          · rw [e] at hx; cases hx
        · intro x y hx hy
          have := har y hy
          rcases unhide HAQ with e | e
          · rw [e] at hx; cases hx; simp only at *; omega
          · rw [e] at hx; cases hx
    · have t0 : ((k + 1 : Nat) : Int) - 1 = (k : Int) := by omega
      rw [t0]
      have hkm : k < n1 - n2 + 1 := by omega
      have t1 : (k:Int) < (n1:Int) - (n2:Int) + 1 := by omega
      have t2 : (k:Int) + (n2:Int) + 1 ≤ (n1:Int) + 1 := by omega
      have t3 : k + n2 + 1 - k = n2 + 1 := by omega
      have hwin := hR.win (by omega) hkm (unhide hV)
      have fw := hR.fn.part k (n2 + 1) (by omega)
      rw [Nat.zero_add] at fw
      have KQ := hide (takeQ_any bu k n2 bv ov n2 (fun i => f (k + i)) vs wr hn2 (by omega) (unhide HVL) (Nat.le_refl _) (by unfold maxLen; omega) (unhide HVR).ok (fun i hi => hR.ok _ (by omega)) htv hwin.1 fw hR.vc hb2)
      have HR := hide hR
      have q1 := (hR.qn k hkm).1
      have q2 := (hR.qn k hkm).2
      rw [Nat.zero_add] at q1 q2
      clear hR hwin fw
      go_wp2_with fail
      refine (unhide KQ).mono ?_
      rintro e w5 ⟨q, f', rfl, hqb, hF, hok, hval, hlt, u⟩
      have hs := (unhide HR).step (by omega) hkm (unhide hV) hbq.symm hb2 hb3 hbu hq0 hqb hF hok hval hlt u
      rw [Nat.zero_add] at hs
      have q3 := (u.fn (unhide HR).qn (.inl hbq.symm) k hkm).1
      have q4 := (u.fn (unhide HR).qn (.inl hbq.symm) k hkm).2
      rw [Nat.zero_add] at q3 q4
      have HS := hide hs
      clear hs hF hok hval hlt u KQ q1 q2
      go_wp2
      exact ⟨⟨k, _, _, by omega, rfl, unhide HS⟩, by simp [intOf]⟩

theorem divLong_some (b1 o1 n1 c1 b2 o2 n2 c2 : Nat) (xs ys : List Nat) (w : World) (h1 : Sl w (some ⟨b1, o1, none⟩) n1 c1 xs) (h2 : Sl w (some ⟨b2, o2, none⟩) n2 c2 ys) (ox : Ok xs) (oy : Ok ys) (ny : Norm ys) (hn1 : n1 ≤ 2048) (hn2 : 2 ≤ n2) (hle : n2 ≤ n1) :
    Calls Tryd.prog 87 #[.slice (some ⟨b1, o1, none⟩) n1 c1, .slice (some ⟨b2, o2, none⟩) n2 c2] w fun e w' => QRPost w w' (val xs / val ys) (val xs % val ys) e :=
  (divLong_someF b1 o1 n1 c1 b2 o2 n2 c2 xs ys w h1 h2 ox oy ny hn1 hn2 hle).mono fun _ _ h => h.post
theorem val_one (d : Nat) : val [d] = d := by simp [val]

theorem len_one {ys : List Nat} (h : ys.length = 1) : ys = [ys.getD 0 0] := by
  match ys, h with
  | [a], _ => simp

theorem dm_one {x g d r : Nat} (h : x = g * d + r) (hr : r < d) : g = x / d ∧ r = x % d := by
  subst h
  constructor
  · rw [Nat.add_comm, Nat.add_mul_div_right _ _ (by omega), Nat.div_eq_of_lt hr, Nat.zero_add]
  · rw [Nat.add_comm, Nat.add_mul_mod_self_right, Nat.mod_eq_of_lt hr]

theorem sl_one (w : World) (r : Nat) (e : TypeId) : Sl (w.alloc (.cells #[.int .u32 (r : Nat)] e)) (some ⟨w.heap.size, 0, none⟩) 1 1 [r] := by
  refine ⟨rfl, Nat.le_refl _, by decide, .inr ⟨_, _, rfl, ?_⟩⟩
  intro i hi
  have : i = 0 := by simp at hi; omega
  subst this
  simp

set_option maxHeartbeats 2000000 in
theorem div_less (a1 a2 : Option Addr) (n1 c1 n2 c2 : Nat) (xs ys : List Nat) (w : World) (h1 : Sl w a1 n1 c1 xs) (h2 : Sl w a2 n2 c2 ys) (ox : Ok xs) (oy : Ok ys) (nx : Norm xs) (ny : Norm ys) (hn1 : n1 ≤ 2048) (hlt : val xs < val ys) :
    Calls Tryd.prog 79 #[.slice a1 n1 c1, .slice a2 n2 c2] w fun e w' => QRPost w w' (val xs / val ys) (val xs % val ys) e := by
  have KC := compare_any a1 a2 n1 c1 n2 c2 xs ys w h1 h2 ox oy nx ny
  rw [cmpN_lt hlt] at KC
  have KC' := hide KC
  have HL := hide h1.len
  have HS := hide h1
  have HN := hide nx
  have HE := hide (And.intro (Nat.div_eq_of_lt hlt) (Nat.mod_eq_of_lt hlt))
  clear KC h1 h2 nx ny hlt
  go_enter Tryd.func79, Tryd.ntmps79
  go_wp2_with fail
  refine (unhide KC').mono ?_
  rintro e w1 ⟨rfl, k, hw⟩
  have s1 : Sl w1 a1 n1 c1 xs := by rw [hw]; exact (unhide HS).drewN k
  have b1 : Below w.heap.size w w1 := by rw [hw]; exact bel_drewN (Below.refl _ _) k
  have KL := hide (fun (v : World) (bv : Below w1.heap.size w1 v) => clone_any a1 n1 c1 xs v (s1.below bv) (by omega))
  have HB := hide b1
  clear hw s1 b1 KC'
  go_wp2_with fail
  refine (unhide KL _ (Below.refl _ _)).mono ?_
  rintro e w2 ⟨rfl, hF, hb⟩
  have HF := hide hF
  have HB2 := hide hb
  clear hF hb KL
  go_wp2
  go_ret2
  rw [(unhide HE).1, (unhide HE).2]
  refine ⟨none, 0, [], _, n1, xs, rfl, sl_nil _, ⟨Ok.nil, .inl rfl, rfl⟩, newAt_nil _, ?_, ⟨ox, unhide HN, rfl⟩, ?_, (fun x y hx _ => by cases hx), (unhide HB).trans ((unhide HB2).mono (unhide HB).size)⟩
  · exact ⟨unhide HL, Nat.le_refl _, by unfold maxLen; omega, .inr ⟨_, _, rfl, fun i hi => ((unhide HF) i (by rw [← unhide HL]; exact hi)).1⟩⟩
  · intro x hx
    cases hx
    exact (unhide HB).size

set_option maxHeartbeats 4000000 in
theorem div_one (b1 o1 n1 c1 b2 o2 c2 : Nat) (xs : List Nat) (d : Nat) (w : World) (h1 : Sl w (some ⟨b1, o1, none⟩) n1 c1 xs) (h2 : Sl w (some ⟨b2, o2, none⟩) 1 c2 [d]) (ox : Ok xs) (oy : Ok [d]) (nx : Norm xs) (ny : Norm [d]) (hn1 : n1 ≤ 2048) (hn0 : 0 < n1) (hge : val [d] ≤ val xs) :
    Calls Tryd.prog 79 #[.slice (some ⟨b1, o1, none⟩) n1 c1, .slice (some ⟨b2, o2, none⟩) 1 c2] w fun e w' => QRPost w w' (val xs / val [d]) (val xs % val [d]) e := by
  have KC := compare_any _ _ n1 c1 1 c2 xs [d] w h1 h2 ox oy nx ny
  have hc0 : ¬ cmpN (val xs) (val [d]) < 0 := by
    rcases Nat.lt_or_eq_of_le hge with h | h
    · rw [cmpN_gt h]; decide
    · rw [cmpN_eq h.symm]; decide
  generalize cmpN (val xs) (val [d]) = cc at *
  have KC' := hide KC
  have HL := hide h1.len
  have HS := hide h1
  have HS2 := hide h2
  have hd := oy.head
  have hd0 : d ≠ 0 := norm_one ny
  rw [val_one]
  clear KC h1 h2 nx ny hge
  go_enter Tryd.func79, Tryd.ntmps79
  go_wp2_with fail
  refine (unhide KC').mono ?_
  rintro e w1 ⟨rfl, k, hw⟩
  have s1 : Sl w1 (some ⟨b1, o1, none⟩) n1 c1 xs := by rw [hw]; exact (unhide HS).drewN k
  have s2 : Sl w1 (some ⟨b2, o2, none⟩) 1 c2 [d] := by rw [hw]; exact (unhide HS2).drewN k
  have b1' : Below w.heap.size w w1 := by rw [hw]; exact bel_drewN (Below.refl _ _) k
  have KL := hide (clone_any _ n1 c1 xs w1 s1 (by omega))
  have HB := hide b1'
  have HT := hide s2
  clear hw s1 b1' s2 KC'
  go_wp2_with fail
  refine (unhide KL).mono ?_
  rintro e w2 ⟨rfl, hF, hb⟩
  have s2 := (unhide HT).below hb
  have cd : w2.cell? ⟨b2, o2, none⟩ = some (.int .u32 (d : Nat)) := by
    rcases s2.cells with e | ⟨b, o, e, hc⟩
    · cases e
    · cases e
      have := hc 0 (by simp)
      simpa using this
  have KD := hide (divideLimb_any w1.heap.size 0 n1 n1 d (fun i => xs.getD i 0) w2 hF (fun i _ => ox.getD i) (by omega) (by omega) hd)
  have HB2 := hide ((unhide HB).trans (hb.mono (unhide HB).size))
  have hsz : w1.heap.size < w2.heap.size := World.block_lt_of_cell? _ _ (hF 0 hn0).1
  have hb0 : w.heap.size ≤ w1.heap.size := (unhide HB).size
  clear s2 hF hb KL HT HB
  generalize w1.heap.size = bq at *
  go_wp2_with fail
  refine (unhide KD).mono ?_
  rintro e w3 ⟨r, g, rfl, hr, hF, hok, hval, hu⟩
  have KT := trim_any (some ⟨bq, 0, none⟩) n1 n1 _ w3 (hF.sl (Nat.le_refl _) (by unfold maxLen; omega)) (lst_ok hok)
  have e0 : valF (fun i => xs.getD i 0) n1 = val xs := by rw [← unhide HL]; exact valF_list xs
  rw [e0] at hval
  have hqr := dm_one hval hr
  rw [lst_val, hqr.1] at KT
  have KT' := hide KT
  have hrb : r < 4294967296 := by omega
  have KR := fun (v : World) => trim_any _ 1 1 [r] _ (sl_one v r 74) (Ok.cons hrb Ok.nil)
  rw [val_one] at KR
  have HR := hide hqr.2
  have KR' := hide KR
  have HB3 := hide ((unhide HB2).trans (hu.below hb0 (unhide HB2).size))
  have hsz3 : bq < w3.heap.size := Nat.lt_of_lt_of_le hsz hu.size
  clear KT KR hF hok hval hu hqr e0 KD cd
  go_wp2_with fail
  refine (unhide KT').mono ?_
  rintro e w' ⟨aq, mq, zq, rfl, hsq, hrq, haq, hw⟩
  obtain rfl := hw.symm
  have HSQ := hide hsq
  have HRQ := hide hrq
  have HAQ := hide haq
  clear hsq hrq haq KT' hw
  go_wp2_with fail
  refine (unhide KR' _).mono ?_
  rintro e w' ⟨ar, mr, zr, rfl, hsr, hrr, har, hw⟩
  have hbel : Below w3.heap.size w3 w' := by rw [hw]; exact (Below.refl _ _).alloc (Nat.le_refl _) _
  rw [← hw] at hsr
  have HZ := hide (And.intro hsr (And.intro hrr (And.intro har hbel)))
  clear hsr hrr har hbel hw KR'
  go_wp2
  go_ret2
  obtain ⟨hsr, hrr, har, hbel⟩ := unhide HZ
  refine ⟨aq, mq, zq, ar, mr, zr, rfl, (unhide HSQ).below hbel, unhide HRQ, ?_, hsr, ?_, ?_, ?_, (unhide HB3).trans (hbel.mono (unhide HB3).size)⟩
  · intro x hx
    rcases unhide HAQ with e | e
    · rw [e] at hx; cases hx; exact hb0
    · rw [e] at hx; cases hx
  · rw [← unhide HR]; exact hrr
  · intro x hx
    rcases har with e | e
    · rw [e] at hx; cases hx; exact (unhide HB3).size
    · rw [e] at hx; cases hx
  · intro x y hx hy
    rcases unhide HAQ with e | e
    · rw [e] at hx
      cases hx
      rcases har with e | e
      · rw [e] at hy; cases hy; simp only; omega
      · rw [e] at hy; cases hy
    · rw [e] at hx; cases hx

set_option maxHeartbeats 2000000 in
theorem div_long (b1 o1 n1 c1 b2 o2 n2 c2 : Nat) (xs ys : List Nat) (w : World) (h1 : Sl w (some ⟨b1, o1, none⟩) n1 c1 xs) (h2 : Sl w (some ⟨b2, o2, none⟩) n2 c2 ys) (ox : Ok xs) (oy : Ok ys) (nx : Norm xs) (ny : Norm ys) (hn1 : n1 ≤ 2048) (hn2 : 2 ≤ n2) (hle : n2 ≤ n1) (hge : val ys ≤ val xs) :
    Calls Tryd.prog 79 #[.slice (some ⟨b1, o1, none⟩) n1 c1, .slice (some ⟨b2, o2, none⟩) n2 c2] w fun e w' => QRPost w w' (val xs / val ys) (val xs % val ys) e := by
  have KC := compare_any _ _ n1 c1 n2 c2 xs ys w h1 h2 ox oy nx ny
  have hc0 : ¬ cmpN (val xs) (val ys) < 0 := by
    rcases Nat.lt_or_eq_of_le hge with h | h
    · rw [cmpN_gt h]; decide
    · rw [cmpN_eq h.symm]; decide
  generalize cmpN (val xs) (val ys) = cc at *
  have KC' := hide KC
  have HS := hide h1
  have HS2 := hide h2
  have t1 : ((n2:Int) == 1) = false := by simp; omega
  have t2 : ¬ (n2:Int) = 1 := by omega
  clear KC h1 h2 hge
  go_enter Tryd.func79, Tryd.ntmps79
  go_wp2_with fail
  refine (unhide KC').mono ?_
  rintro e w1 ⟨rfl, k, hw⟩
  have s1 : Sl w1 (some ⟨b1, o1, none⟩) n1 c1 xs := by rw [hw]; exact (unhide HS).drewN k
  have s2 : Sl w1 (some ⟨b2, o2, none⟩) n2 c2 ys := by rw [hw]; exact (unhide HS2).drewN k
  have b1' : Below w.heap.size w w1 := by rw [hw]; exact bel_drewN (Below.refl _ _) k
  have KD := hide (divLong_some b1 o1 n1 c1 b2 o2 n2 c2 xs ys w1 s1 s2 ox oy ny hn1 hn2 hle)
  have HB := hide b1'
  clear hw s1 b1' s2 KC'
  go_wp2_with fail
  refine (unhide KD).mono ?_
  rintro e w2 ⟨aq, mq, zq, ar, mr, zr, rfl, hz⟩
  have HZ := hide hz
  clear hz KD
  go_wp2
  go_ret2
  obtain ⟨z1, z2, z3, z4, z5, z6, z7, z8⟩ := unhide HZ
  exact ⟨aq, mq, zq, ar, mr, zr, rfl, z1, z2, fun x hx => Nat.le_trans (unhide HB).size (z3 x hx), z4, z5, fun x hx => Nat.le_trans (unhide HB).size (z6 x hx), z7, (unhide HB).trans (z8.mono (unhide HB).size)⟩

set_option maxHeartbeats 2000000 in
theorem div_longF (b1 o1 n1 c1 b2 o2 n2 c2 : Nat) (xs ys : List Nat) (w : World) (h1 : Sl w (some ⟨b1, o1, none⟩) n1 c1 xs) (h2 : Sl w (some ⟨b2, o2, none⟩) n2 c2 ys) (ox : Ok xs) (oy : Ok ys) (nx : Norm xs) (ny : Norm ys) (hn1 : n1 ≤ 2048) (hn2 : 2 ≤ n2) (hle : n2 ≤ n1) (hge : val ys ≤ val xs) :
    Calls Tryd.prog 79 #[.slice (some ⟨b1, o1, none⟩) n1 c1, .slice (some ⟨b2, o2, none⟩) n2 c2] w fun e w' => QRF w w' (val xs / val ys) (val xs % val ys) e := by
  have KC := compare_any _ _ n1 c1 n2 c2 xs ys w h1 h2 ox oy nx ny
  have hc0 : ¬ cmpN (val xs) (val ys) < 0 := by
    rcases Nat.lt_or_eq_of_le hge with h | h
    · rw [cmpN_gt h]; decide
    · rw [cmpN_eq h.symm]; decide
  generalize cmpN (val xs) (val ys) = cc at *
  have KC' := hide KC
  have HS := hide h1
  have HS2 := hide h2
  have t1 : ((n2:Int) == 1) = false := by simp; omega
  have t2 : ¬ (n2:Int) = 1 := by omega
  clear KC h1 h2 hge
  go_enter Tryd.func79, Tryd.ntmps79
  go_wp2_with fail
  refine (unhide KC').mono ?_
  rintro e w1 ⟨rfl, k, hw⟩
  have s1 : Sl w1 (some ⟨b1, o1, none⟩) n1 c1 xs := by rw [hw]; exact (unhide HS).drewN k
  have s2 : Sl w1 (some ⟨b2, o2, none⟩) n2 c2 ys := by rw [hw]; exact (unhide HS2).drewN k
  have b1' : Below w.heap.size w w1 := by rw [hw]; exact bel_drewN (Below.refl _ _) k
  have KD := hide (divLong_someF b1 o1 n1 c1 b2 o2 n2 c2 xs ys w1 s1 s2 ox oy ny hn1 hn2 hle)
  have HB := hide b1'
  clear hw s1 b1' s2 KC'
  go_wp2_with fail
  refine (unhide KD).mono ?_
  rintro e w2 ⟨aq, mq, zq, ar, mr, zr, rfl, hz⟩
  have HZ := hide hz
  clear hz KD
  go_wp2
  go_ret2
  obtain ⟨z1, z2, z3, z4, z5, z6, z7, z8, z9⟩ := unhide HZ
  exact ⟨aq, mq, zq, ar, mr, zr, rfl, z1, z2, fun x hx => Nat.le_trans (unhide HB).size (z3 x hx), z4, z5, fun x hx => Nat.le_trans (unhide HB).size (z6 x hx), z7, (unhide HB).trans (z8.mono (unhide HB).size), z9⟩

theorem divide_any (a1 a2 : Option Addr) (n1 c1 n2 c2 : Nat) (xs ys : List Nat) (w : World) (h1 : Sl w a1 n1 c1 xs) (h2 : Sl w a2 n2 c2 ys) (ox : Ok xs) (oy : Ok ys) (nx : Norm xs) (ny : Norm ys) (hn1 : n1 ≤ 2048) (hy : ys ≠ []) :
    Calls Tryd.prog 79 #[.slice a1 n1 c1, .slice a2 n2 c2] w fun e w' => QRPost w w' (val xs / val ys) (val xs % val ys) e := by
  rcases Nat.lt_or_ge (val xs) (val ys) with hlt | hge
  · exact div_less a1 a2 n1 c1 n2 c2 xs ys w h1 h2 ox oy nx ny hn1 hlt
  · have hvy : 0 < val ys := by
      have a := val_ge_of_norm ny hy
      have b := pow_pos (ys.length - 1)
      omega
    have hx : xs ≠ [] := by intro e; rw [e] at hge; simp [val] at hge; omega
    have hle : ys.length ≤ xs.length := by
      rcases Nat.lt_or_ge xs.length ys.length with k | k
      · have := len_lt_val ox ny k; omega
      · exact k
    have l1 := h1.len
    have l2 := h2.len
    have p1 : 0 < xs.length := List.length_pos_iff.2 hx
    have p2 : 0 < ys.length := List.length_pos_iff.2 hy
    obtain ⟨b1, o1, rfl, _⟩ := h1.cells.resolve_left hx
    obtain ⟨b2, o2, rfl, _⟩ := h2.cells.resolve_left hy
    by_cases h : n2 = 1
    · subst h
      have e := len_one l2
      generalize ys.getD 0 0 = d at e
      subst e
      exact div_one b1 o1 n1 c1 b2 o2 c2 xs d w h1 h2 ox oy nx ny hn1 (by omega) hge
    · exact div_long b1 o1 n1 c1 b2 o2 n2 c2 xs ys w h1 h2 ox oy nx ny hn1 (by omega) (by omega) hge

def divL (xs ys : List Nat) : List Nat × List Nat × Int := if MayL xs && MayL ys then (if ys = [] then ([], [], 3) else (limbs (val xs / val ys), limbs (val xs % val ys), 0)) else ([], [], 20)
end Go.Proofs.YtiadccaaoenccaaDoor
