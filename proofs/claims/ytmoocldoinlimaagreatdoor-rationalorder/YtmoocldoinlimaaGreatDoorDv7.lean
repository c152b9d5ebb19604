/-
  natural.divide, DivMod: contracts.
-/
import Derived.Test.YtmoocldoinlimaaGreatDoorDv6
namespace Go.Proofs.YtmoocldoinlimaaGreatDoor
open Go.RowKit Go.Deep
set_option linter.unusedVariables false

theorem val_one (d : Nat) : val [d] = d := by simp [val]

theorem len_one {ys : List Nat} (h : ys.length = 1) : ys = [ys.getD 0 0] := by
  match ys, h with
  | [a], _ => simp

theorem dm_one {x g d r : Nat} (h : x = g * d + r) (hr : r < d) : g = x / d ∧ r = x % d := by
  subst h
  constructor
  · rw [Nat.add_comm, Nat.add_mul_div_right _ _ (by omega), Nat.div_eq_of_lt hr, Nat.zero_add]
  · rw [Nat.add_comm, Nat.add_mul_mod_self_right, Nat.mod_eq_of_lt hr]

theorem sl_one (w : World) (r : Nat) (e : TypeId) : Sl (w.alloc (.cells #[.int .u32 (r : Nat)] e)) (some ⟨w.heap.size, 0, none⟩) 1 1 [r] := by
  refine ⟨rfl, Nat.le_refl _, by decide, .inr ⟨_, _, rfl, ?_⟩⟩
  intro i hi
  have : i = 0 := by simp at hi; omega
  subst this
  simp

set_option maxHeartbeats 2000000 in
theorem div_less (a1 a2 : Option Addr) (n1 c1 n2 c2 : Nat) (xs ys : List Nat) (w : World) (h1 : Sl w a1 n1 c1 xs) (h2 : Sl w a2 n2 c2 ys) (ox : Ok xs) (oy : Ok ys) (nx : Norm xs) (ny : Norm ys) (hn1 : n1 ≤ 2048) (hlt : val xs < val ys) :
    Calls Tryz.prog 70 #[.slice a1 n1 c1, .slice a2 n2 c2] w fun e w' => QRPost w w' (val xs / val ys) (val xs % val ys) e := by
  have KC := compare_any a1 a2 n1 c1 n2 c2 xs ys w h1 h2 ox oy nx ny
  rw [cmpN_lt hlt] at KC
  have KC' := hide KC
  have HL := hide h1.len
  have HS := hide h1
  have HN := hide nx
  have HE := hide (And.intro (Nat.div_eq_of_lt hlt) (Nat.mod_eq_of_lt hlt))
  clear KC h1 h2 nx ny hlt
  go_enter Tryz.func70, Tryz.ntmps70
  go_wp2_with fail
  refine (unhide KC').mono ?_
  rintro e w1 ⟨rfl, k, hw⟩
  have s1 : Sl w1 a1 n1 c1 xs := by rw [hw]; exact (unhide HS).drewN k
  have b1 : Below w.heap.size w w1 := by rw [hw]; exact bel_drewN (Below.refl _ _) k
  have KL := hide (fun (v : World) (bv : Below w1.heap.size w1 v) => clone_any a1 n1 c1 xs v (s1.below bv) (by omega))
  have HB := hide b1
  clear hw s1 b1 KC'
  go_wp2_with fail
  refine (unhide KL _ (Below.refl _ _)).mono ?_
  rintro e w2 ⟨rfl, hF, hb⟩
  have HF := hide hF
  have HB2 := hide hb
  clear hF hb KL
  go_wp2
  go_ret2
  rw [(unhide HE).1, (unhide HE).2]
  refine ⟨none, 0, [], _, n1, xs, rfl, sl_nil _, ⟨Ok.nil, .inl rfl, rfl⟩, newAt_nil _, ?_, ⟨ox, unhide HN, rfl⟩, ?_, (fun x y hx _ => by cases hx), (unhide HB).trans ((unhide HB2).mono (unhide HB).size)⟩
  · exact ⟨unhide HL, Nat.le_refl _, by unfold maxLen; omega, .inr ⟨_, _, rfl, fun i hi => ((unhide HF) i (by rw [← unhide HL]; exact hi)).1⟩⟩
  · intro x hx
    cases hx
    exact (unhide HB).size

set_option maxHeartbeats 4000000 in
theorem div_one (b1 o1 n1 c1 b2 o2 c2 : Nat) (xs : List Nat) (d : Nat) (w : World) (h1 : Sl w (some ⟨b1, o1, none⟩) n1 c1 xs) (h2 : Sl w (some ⟨b2, o2, none⟩) 1 c2 [d]) (ox : Ok xs) (oy : Ok [d]) (nx : Norm xs) (ny : Norm [d]) (hn1 : n1 ≤ 2048) (hn0 : 0 < n1) (hge : val [d] ≤ val xs) :
    Calls Tryz.prog 70 #[.slice (some ⟨b1, o1, none⟩) n1 c1, .slice (some ⟨b2, o2, none⟩) 1 c2] w fun e w' => QRPost w w' (val xs / val [d]) (val xs % val [d]) e := by
  have KC := compare_any _ _ n1 c1 1 c2 xs [d] w h1 h2 ox oy nx ny
  have hc0 : ¬ cmpN (val xs) (val [d]) < 0 := by
    rcases Nat.lt_or_eq_of_le hge with h | h
    · rw [cmpN_gt h]; decide
    · rw [cmpN_eq h.symm]; decide
  generalize cmpN (val xs) (val [d]) = cc at *
  have KC' := hide KC
  have HL := hide h1.len
  have HS := hide h1
  have HS2 := hide h2
  have hd := oy.head
  have hd0 : d ≠ 0 := norm_one ny
  rw [val_one]
  clear KC h1 h2 nx ny hge
  go_enter Tryz.func70, Tryz.ntmps70
  go_wp2_with fail
  refine (unhide KC').mono ?_
  rintro e w1 ⟨rfl, k, hw⟩
  have s1 : Sl w1 (some ⟨b1, o1, none⟩) n1 c1 xs := by rw [hw]; exact (unhide HS).drewN k
  have s2 : Sl w1 (some ⟨b2, o2, none⟩) 1 c2 [d] := by rw [hw]; exact (unhide HS2).drewN k
  have b1' : Below w.heap.size w w1 := by rw [hw]; exact bel_drewN (Below.refl _ _) k
  have KL := hide (clone_any _ n1 c1 xs w1 s1 (by omega))
  have HB := hide b1'
  have HT := hide s2
  clear hw s1 b1' s2 KC'
  go_wp2_with fail
  refine (unhide KL).mono ?_
  rintro e w2 ⟨rfl, hF, hb⟩
  have s2 := (unhide HT).below hb
  have cd : w2.cell? ⟨b2, o2, none⟩ = some (.int .u32 (d : Nat)) := by
    rcases s2.cells with e | ⟨b, o, e, hc⟩
    · cases e
    · cases e
      have := hc 0 (by simp)
      simpa using this
  have KD := hide (divideLimb_any w1.heap.size 0 n1 n1 d (fun i => xs.getD i 0) w2 hF (fun i _ => ox.getD i) (by omega) (by omega) hd)
  have HB2 := hide ((unhide HB).trans (hb.mono (unhide HB).size))
  have hsz : w1.heap.size < w2.heap.size := World.block_lt_of_cell? _ _ (hF 0 hn0).1
  have hb0 : w.heap.size ≤ w1.heap.size := (unhide HB).size
  clear s2 hF hb KL HT HB
  generalize w1.heap.size = bq at *
  go_wp2_with fail
  refine (unhide KD).mono ?_
  rintro e w3 ⟨r, g, rfl, hr, hF, hok, hval, hu⟩
  have KT := trim_any (some ⟨bq, 0, none⟩) n1 n1 _ w3 (hF.sl (Nat.le_refl _) (by unfold maxLen; omega)) (lst_ok hok)
  have e0 : valF (fun i => xs.getD i 0) n1 = val xs := by rw [← unhide HL]; exact valF_list xs
  rw [e0] at hval
  have hqr := dm_one hval hr
  rw [lst_val, hqr.1] at KT
  have KT' := hide KT
  have hrb : r < 4294967296 := by omega
  have KR := fun (v : World) => trim_any _ 1 1 [r] _ (sl_one v r 39) (Ok.cons hrb Ok.nil)
  rw [val_one] at KR
  have HR := hide hqr.2
  have KR' := hide KR
  have HB3 := hide ((unhide HB2).trans (hu.below hb0 (unhide HB2).size))
  have hsz3 : bq < w3.heap.size := Nat.lt_of_lt_of_le hsz hu.size
  clear KT KR hF hok hval hu hqr e0 KD cd
  go_wp2_with fail
  refine (unhide KT').mono ?_
  rintro e w' ⟨aq, mq, zq, rfl, hsq, hrq, haq, hw⟩
  obtain rfl := hw.symm
  have HSQ := hide hsq
  have HRQ := hide hrq
  have HAQ := hide haq
  clear hsq hrq haq KT' hw
  go_wp2_with fail
  refine (unhide KR' _).mono ?_
  rintro e w' ⟨ar, mr, zr, rfl, hsr, hrr, har, hw⟩
  have hbel : Below w3.heap.size w3 w' := by rw [hw]; exact (Below.refl _ _).alloc (Nat.le_refl _) _
  rw [← hw] at hsr
  have HZ := hide (And.intro hsr (And.intro hrr (And.intro har hbel)))
  clear hsr hrr har hbel hw KR'
  go_wp2
  go_ret2
  obtain ⟨hsr, hrr, har, hbel⟩ := unhide HZ
  refine ⟨aq, mq, zq, ar, mr, zr, rfl, (unhide HSQ).below hbel, unhide HRQ, ?_, hsr, ?_, ?_, ?_, (unhide HB3).trans (hbel.mono (unhide HB3).size)⟩
  · intro x hx
    rcases unhide HAQ with e | e
    · rw [e] at hx; cases hx; exact hb0
    · rw [e] at hx; cases hx
  · rw [← unhide HR]; exact hrr
  · intro x hx
    rcases har with e | e
    · rw [e] at hx; cases hx; exact (unhide HB3).size
    · rw [e] at hx; cases hx
  · intro x y hx hy
    rcases unhide HAQ with e | e
    · rw [e] at hx
      cases hx
      rcases har with e | e
      · rw [e] at hy; cases hy; simp only; omega
      · rw [e] at hy; cases hy
    · rw [e] at hx; cases hx

set_option maxHeartbeats 2000000 in
theorem div_long (b1 o1 n1 c1 b2 o2 n2 c2 : Nat) (xs ys : List Nat) (w : World) (h1 : Sl w (some ⟨b1, o1, none⟩) n1 c1 xs) (h2 : Sl w (some ⟨b2, o2, none⟩) n2 c2 ys) (ox : Ok xs) (oy : Ok ys) (nx : Norm xs) (ny : Norm ys) (hn1 : n1 ≤ 2048) (hn2 : 2 ≤ n2) (hle : n2 ≤ n1) (hge : val ys ≤ val xs) :
    Calls Tryz.prog 70 #[.slice (some ⟨b1, o1, none⟩) n1 c1, .slice (some ⟨b2, o2, none⟩) n2 c2] w fun e w' => QRPost w w' (val xs / val ys) (val xs % val ys) e := by
  have KC := compare_any _ _ n1 c1 n2 c2 xs ys w h1 h2 ox oy nx ny
  have hc0 : ¬ cmpN (val xs) (val ys) < 0 := by
    rcases Nat.lt_or_eq_of_le hge with h | h
    · rw [cmpN_gt h]; decide
    · rw [cmpN_eq h.symm]; decide
  generalize cmpN (val xs) (val ys) = cc at *
  have KC' := hide KC
  have HS := hide h1
  have HS2 := hide h2
  have t1 : ((n2:Int) == 1) = false := by simp; omega
  have t2 : ¬ (n2:Int) = 1 := by omega
  clear KC h1 h2 hge
  go_enter Tryz.func70, Tryz.ntmps70
  go_wp2_with fail
  refine (unhide KC').mono ?_
  rintro e w1 ⟨rfl, k, hw⟩
  have s1 : Sl w1 (some ⟨b1, o1, none⟩) n1 c1 xs := by rw [hw]; exact (unhide HS).drewN k
  have s2 : Sl w1 (some ⟨b2, o2, none⟩) n2 c2 ys := by rw [hw]; exact (unhide HS2).drewN k
  have b1' : Below w.heap.size w w1 := by rw [hw]; exact bel_drewN (Below.refl _ _) k
  have KD := hide (divLong_some b1 o1 n1 c1 b2 o2 n2 c2 xs ys w1 s1 s2 ox oy ny hn1 hn2 hle)
  have HB := hide b1'
  clear hw s1 b1' s2 KC'
  go_wp2_with fail
  refine (unhide KD).mono ?_
  rintro e w2 ⟨aq, mq, zq, ar, mr, zr, rfl, hz⟩
  have HZ := hide hz
  clear hz KD
  go_wp2
  go_ret2
  obtain ⟨z1, z2, z3, z4, z5, z6, z7, z8⟩ := unhide HZ
  exact ⟨aq, mq, zq, ar, mr, zr, rfl, z1, z2, fun x hx => Nat.le_trans (unhide HB).size (z3 x hx), z4, z5, fun x hx => Nat.le_trans (unhide HB).size (z6 x hx), z7, (unhide HB).trans (z8.mono (unhide HB).size)⟩

set_option maxHeartbeats 2000000 in
theorem div_longF (b1 o1 n1 c1 b2 o2 n2 c2 : Nat) (xs ys : List Nat) (w : World) (h1 : Sl w (some ⟨b1, o1, none⟩) n1 c1 xs) (h2 : Sl w (some ⟨b2, o2, none⟩) n2 c2 ys) (ox : Ok xs) (oy : Ok ys) (nx : Norm xs) (ny : Norm ys) (hn1 : n1 ≤ 2048) (hn2 : 2 ≤ n2) (hle : n2 ≤ n1) (hge : val ys ≤ val xs) :
    Calls Tryz.prog 70 #[.slice (some ⟨b1, o1, none⟩) n1 c1, .slice (some ⟨b2, o2, none⟩) n2 c2] w fun e w' => QRF w w' (val xs / val ys) (val xs % val ys) e := by
  have KC := compare_any _ _ n1 c1 n2 c2 xs ys w h1 h2 ox oy nx ny
  have hc0 : ¬ cmpN (val xs) (val ys) < 0 := by
    rcases Nat.lt_or_eq_of_le hge with h | h
    · rw [cmpN_gt h]; decide
    · rw [cmpN_eq h.symm]; decide
  generalize cmpN (val xs) (val ys) = cc at *
  have KC' := hide KC
  have HS := hide h1
  have HS2 := hide h2
  have t1 : ((n2:Int) == 1) = false := by simp; omega
  have t2 : ¬ (n2:Int) = 1 := by omega
  clear KC h1 h2 hge
  go_enter Tryz.func70, Tryz.ntmps70
  go_wp2_with fail
  refine (unhide KC').mono ?_
  rintro e w1 ⟨rfl, k, hw⟩
  have s1 : Sl w1 (some ⟨b1, o1, none⟩) n1 c1 xs := by rw [hw]; exact (unhide HS).drewN k
  have s2 : Sl w1 (some ⟨b2, o2, none⟩) n2 c2 ys := by rw [hw]; exact (unhide HS2).drewN k
  have b1' : Below w.heap.size w w1 := by rw [hw]; exact bel_drewN (Below.refl _ _) k
  have KD := hide (divLong_someF b1 o1 n1 c1 b2 o2 n2 c2 xs ys w1 s1 s2 ox oy ny hn1 hn2 hle)
  have HB := hide b1'
  clear hw s1 b1' s2 KC'
  go_wp2_with fail
  refine (unhide KD).mono ?_
  rintro e w2 ⟨aq, mq, zq, ar, mr, zr, rfl, hz⟩
  have HZ := hide hz
  clear hz KD
  go_wp2
  go_ret2
  obtain ⟨z1, z2, z3, z4, z5, z6, z7, z8, z9⟩ := unhide HZ
  exact ⟨aq, mq, zq, ar, mr, zr, rfl, z1, z2, fun x hx => Nat.le_trans (unhide HB).size (z3 x hx), z4, z5, fun x hx => Nat.le_trans (unhide HB).size (z6 x hx), z7, (unhide HB).trans (z8.mono (unhide HB).size), z9⟩

/-- natural.divide. -/
theorem divide_any (a1 a2 : Option Addr) (n1 c1 n2 c2 : Nat) (xs ys : List Nat) (w : World) (h1 : Sl w a1 n1 c1 xs) (h2 : Sl w a2 n2 c2 ys) (ox : Ok xs) (oy : Ok ys) (nx : Norm xs) (ny : Norm ys) (hn1 : n1 ≤ 2048) (hy : ys ≠ []) :
    Calls Tryz.prog 70 #[.slice a1 n1 c1, .slice a2 n2 c2] w fun e w' => QRPost w w' (val xs / val ys) (val xs % val ys) e := by
  rcases Nat.lt_or_ge (val xs) (val ys) with hlt | hge
  · exact div_less a1 a2 n1 c1 n2 c2 xs ys w h1 h2 ox oy nx ny hn1 hlt
  · have hvy : 0 < val ys := by
      have a := val_ge_of_norm ny hy
      have b := pow_pos (ys.length - 1)
      omega
    have hx : xs ≠ [] := by intro e; rw [e] at hge; simp [val] at hge; omega
    have hle : ys.length ≤ xs.length := by
      rcases Nat.lt_or_ge xs.length ys.length with k | k
      · have := len_lt_val ox ny k; omega
      · exact k
    have l1 := h1.len
    have l2 := h2.len
    have p1 : 0 < xs.length := List.length_pos_iff.2 hx
    have p2 : 0 < ys.length := List.length_pos_iff.2 hy
    obtain ⟨b1, o1, rfl, _⟩ := h1.cells.resolve_left hx
    obtain ⟨b2, o2, rfl, _⟩ := h2.cells.resolve_left hy
    by_cases h : n2 = 1
    · subst h
      have e := len_one l2
      generalize ys.getD 0 0 = d at e
      subst e
      exact div_one b1 o1 n1 c1 b2 o2 c2 xs d w h1 h2 ox oy nx ny hn1 (by omega) hge
    · exact div_long b1 o1 n1 c1 b2 o2 n2 c2 xs ys w h1 h2 ox oy nx ny hn1 (by omega) (by omega) hge

/-- Two lists and a number, the lists in new memory. -/
def Res4 (w w' : World) (r : List Nat × List Nat × Int) (e : Ending) : Prop :=
  ∃ aq mq cq ar mr cr, e = .returned (.tuple #[.slice aq mq cq, .slice ar mr cr, .int .i64 r.2.2]) ∧ Sl w' aq mq cq r.1 ∧ NewAt w.heap.size aq ∧ Sl w' ar mr cr r.2.1 ∧ NewAt w.heap.size ar ∧ (∀ x y, aq = some x → ar = some y → x.block ≠ y.block) ∧ Below w.heap.size w w'

def divL (xs ys : List Nat) : List Nat × List Nat × Int := if MayL xs && MayL ys then (if ys = [] then ([], [], 3) else (limbs (val xs / val ys), limbs (val xs % val ys), 0)) else ([], [], 20)
theorem res4_nil (w : World) (k : Int) : Res4 w w ([], [], k) (.returned (.tuple #[.slice none 0 0, .slice none 0 0, .int .i64 k])) := ⟨none, 0, 0, none, 0, 0, rfl, sl_nil _, newAt_nil _, sl_nil _, newAt_nil _, (fun x y hx _ => by cases hx), Below.refl _ _⟩

set_option maxHeartbeats 2000000 in
/-- natural.DivMod. -/
theorem ndivmod_any (a1 a2 : Option Addr) (n1 c1 n2 c2 : Nat) (xs ys : List Nat) (w : World) (h1 : Sl w a1 n1 c1 xs) (h2 : Sl w a2 n2 c2 ys) (ox : Ok xs) (oy : Ok ys) :
    Calls Tryz.prog 51 #[.slice a1 n1 c1, .slice a2 n2 c2] w fun e w' => Res4 w w' (divL xs ys) e := by
  have K1 := may_any a1 n1 c1 xs w h1
  have K2 := may_any a2 n2 c2 ys w h2
  by_cases m1 : MayL xs = true
  · by_cases m2 : MayL ys = true
    · rw [m1] at K1; rw [m2] at K2
      have K1' := hide K1
      have K2' := hide K2
      have nx := MayL.norm m1
      have ny := MayL.norm m2
      have hl1 : n1 ≤ 2048 := by have := h1.len; have := MayL.len m1; omega
      have hl2 : n2 ≤ 2048 := by have := h2.len; have := MayL.len m2; omega
      by_cases hy : ys = []
      · have HC := hide (show divL xs ys = ([], [], 3) from by simp [divL, m1, hy, show MayL [] = true from rfl])
        have hz : n2 = 0 := by rw [← h2.len, hy]; rfl
        subst hz
        clear K1 K2 m1 m2 h1 h2 ox oy nx ny hy
        go_enter Tryz.func51, Tryz.ntmps51
        go_wp2_with fail
        refine (unhide K1').mono ?_
        rintro e w' ⟨rfl, hw⟩
        obtain rfl := hw.symm
        go_wp2_with fail
        refine (unhide K2').mono ?_
        rintro e w' ⟨rfl, hw⟩
        obtain rfl := hw.symm
        go_wp2
        go_ret3
        rw [unhide HC]
        exact res4_nil _ _
      · have HC := hide (show divL xs ys = (limbs (val xs / val ys), limbs (val xs % val ys), 0) from by simp [divL, m1, m2, hy])
        have hz : 0 < n2 := by rw [← h2.len]; exact List.length_pos_iff.2 hy
        have t1 : ((n2:Int) == 0) = false := by simp; omega
        have t2 : ¬ (n2:Int) = 0 := by omega
        have KD := hide (divide_any a1 a2 n1 c1 n2 c2 xs ys w h1 h2 ox oy nx ny hl1 hy)
        clear K1 K2 m1 m2 h1 h2 ox oy nx ny hy
        go_enter Tryz.func51, Tryz.ntmps51
        go_wp2_with fail
        refine (unhide K1').mono ?_
        rintro e w' ⟨rfl, hw⟩
        obtain rfl := hw.symm
        go_wp2_with fail
        refine (unhide K2').mono ?_
        rintro e w' ⟨rfl, hw⟩
        obtain rfl := hw.symm
        go_wp2_with fail
        refine (unhide KD).mono ?_
        rintro e w2 ⟨aq, mq, zq, ar, mr, zr, rfl, hz⟩
        have HZ := hide hz
        clear hz KD
        go_wp2
        go_ret3
        obtain ⟨z1, z2, z3, z4, z5, z6, z7, z8⟩ := unhide HZ
        rw [unhide HC]
        rw [z2.eq] at z1
        rw [z5.eq] at z4
        exact ⟨aq, mq, mq, ar, mr, mr, rfl, z1, z3, z4, z6, z7, z8⟩
    · have m2' : MayL ys = false := by simpa using m2
      rw [m1] at K1; rw [m2'] at K2
      have K1' := hide K1
      have K2' := hide K2
      have HC := hide (show divL xs ys = ([], [], 20) from by simp [divL, m2'])
      clear K1 K2 m1 m2 m2' h1 h2 ox oy
      go_enter Tryz.func51, Tryz.ntmps51
      go_wp2_with fail
      refine (unhide K1').mono ?_
      rintro e w' ⟨rfl, hw⟩
      obtain rfl := hw.symm
      go_wp2_with fail
      refine (unhide K2').mono ?_
      rintro e w' ⟨rfl, hw⟩
      obtain rfl := hw.symm
      go_wp2
      go_ret3
      rw [unhide HC]
      exact res4_nil _ _
  · have m1' : MayL xs = false := by simpa using m1
    rw [m1'] at K1
    have K1' := hide K1
    have HC := hide (show divL xs ys = ([], [], 20) from by simp [divL, m1'])
    clear K1 K2 m1 m1' h1 h2 ox oy
    go_enter Tryz.func51, Tryz.ntmps51
    go_wp2_with fail
    refine (unhide K1').mono ?_
    rintro e w' ⟨rfl, hw⟩
    obtain rfl := hw.symm
    go_wp2
    go_ret3
    rw [unhide HC]
    exact res4_nil _ _
end Go.Proofs.YtmoocldoinlimaaGreatDoor
