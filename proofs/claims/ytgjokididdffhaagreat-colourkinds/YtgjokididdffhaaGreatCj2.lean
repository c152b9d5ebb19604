/- Cv8 -/
import Derived.Test.YtgjokididdffhaaGreatCu9
import Derived.Test.YtgjokididdffhaaGreatCh2
import Derived.Test.YtgjokididdffhaaGreatRq0
import Derived.Test.YtgjokididdffhaaGreatDa3
namespace Go.Proofs.YtgjokididdffhaaGreat
open Go.RowKit Go.Deep
set_option linter.unusedVariables false
def Sk1 (Q : Nat → Bool) (N : Nat) (cs : Nat → Int) (v b c d : Nat) : Prop := Q (v * N + b) = true ∧ Q (b * N + c) = true ∧ c ≠ v ∧ cs c = cs v ∧ d ≠ b ∧ (Q (c * N + d) = true ∨ Q (v * N + d) = true) ∧ cs d = cs b
def SkP (Q : Nat → Bool) (N : Nat) (cs : Nat → Int) (v : Nat) : Prop := ∃ b c d, b < N ∧ c < N ∧ d < N ∧ Sk1 Q N cs v b c d
def RtN (Q : Nat → Bool) (N : Nat) (cs : Nat → Int) (v : Nat) : Prop := ∀ u, u < N → Q (u * N + v) = true → cs u ≠ cs v
def ptQ (Q : Nat → Bool) (N : Nat) (cs : Nat → Int) (x : Nat) : Bool := decide (0 ≤ cs (x / N)) && (decide (0 ≤ cs (x % N)) && Q x)
def RtS (Q : Nat → Bool) (N : Nat) (cs : Nat → Int) (v : Nat) : Prop := RtN Q N cs v ∧ ¬ SkP (ptQ Q N cs) N cs v
def RtA (Q : Nat → Bool) (N : Nat) (cs : Nat → Int) (v : Nat) : Prop := RtN Q N cs v ∧ ∀ u, u < N → ptQ Q N cs (u * N + v) = true → FoP (adQ (ptQ Q N cs) N) (fun x => x < N ∧ twB cs (cs u) (cs v) x = true)
theorem updC_same (cs : Nat → Int) (v y : Nat) : updC cs v y v = (y : Int) := by simp [updC]
theorem updC_other (cs : Nat → Int) {v u : Nat} (y : Nat) (h : u ≠ v) : updC cs v y u = cs u := by simp [updC, h]
theorem row_nat {S C : List Int} {m v : Nat} {u : Int} (hm : MayP (m : Int) (m : Int) S C) (hv : v < m) (hu : u ∈ rowL S C v) : ∃ x : Nat, u = (x : Int) ∧ x < m ∧ adG S C m v x := by
  obtain ⟨i, hi, he⟩ := mem_getD.1 hu
  obtain ⟨x, h1, h2⟩ := row_atF hm hv hi
  have e : u = (x : Int) := by rw [← he, h1]
  subst e
  exact ⟨x, rfl, h2, (ad_row hm hv).2 hu⟩
section
variable {S C : List Int} {m : Nat} {Q : Nat → Bool} {cs : Nat → Int} {v y : Nat}
theorem barN_ad (hm : MayP (m : Int) (m : Int) S C) (hv : v < m) : BarN S C cs v y ↔ ∃ u, adG S C m v u ∧ cs u = (y : Int) := by
  constructor
  · rintro ⟨u, hu, e⟩
    obtain ⟨x, rfl, hx, ha⟩ := row_nat hm hv hu
    exact ⟨x, ha, by simpa using e⟩
  · rintro ⟨u, ha, e⟩
    exact ⟨(u : Int), (ad_row hm hv).1 ha, by simpa using e⟩
theorem barP_ad (hm : MayP (m : Int) (m : Int) S C) (hv : v < m) : BarP S C cs v y ↔ (BarN S C cs v y ∨ ∃ b c d, adG S C m v b ∧ cs b ≠ -1 ∧ adG S C m b c ∧ cs c = (y : Int) ∧ d ≠ b ∧ (adG S C m v d ∨ adG S C m c d) ∧ cs d = cs b) := by
  unfold BarP
  refine or_congr Iff.rfl ?_
  constructor
  · rintro ⟨p, hp, x, hx, e, ht⟩
    have hb := cldL_mem.1 (mem_getD.2 ⟨p, hp, rfl⟩)
    obtain ⟨b, eb, hbm, hab⟩ := row_nat hm hv hb.1
    rw [eb] at hx ht hb
    simp only [Int.toNat_natCast] at hx ht hb
    obtain ⟨c, rfl, hcm, hac⟩ := row_nat hm hbm (cldL_mem.1 hx).1
    simp only [Int.toNat_natCast] at e ht
    have key : ∀ z, z < m → TwP cs (rowL S C z) b → ∃ d, d ≠ b ∧ adG S C m z d ∧ cs d = cs b := by
      rintro z hz ⟨t, ht, h1, h2⟩
      obtain ⟨d, rfl, hdm, had⟩ := row_nat hm hz ht
      exact ⟨d, by omega, had, by simpa using h2⟩
    rcases ht with ht | ht
    · obtain ⟨d, h1, h2, h3⟩ := key v hv ht
      exact ⟨b, c, d, hab, hb.2, hac, e, h1, .inl h2, h3⟩
    · obtain ⟨d, h1, h2, h3⟩ := key c hcm ht
      exact ⟨b, c, d, hab, hb.2, hac, e, h1, .inr h2, h3⟩
  · rintro ⟨b, c, d, hab, hcb, hac, e, hne, ht, hd⟩
    have hb : (b : Int) ∈ cldL cs (rowL S C v) := cldL_mem.2 ⟨(ad_row hm hv).1 hab, by simpa using hcb⟩
    obtain ⟨p, hp, he⟩ := mem_getD.1 hb
    refine ⟨p, hp, (c : Int), ?_, by simpa using e, ?_⟩
    · rw [he]
      simp only [Int.toNat_natCast]
      exact cldL_mem.2 ⟨(ad_row hm hab.2.1).1 hac, by simp only [Int.toNat_natCast]; omega⟩
    · rw [he]
      simp only [Int.toNat_natCast]
      rcases ht with ht | ht
      · exact .inl ⟨(d : Int), (ad_row hm hv).1 ht, by omega, by simpa using hd⟩
      · exact .inr ⟨(d : Int), (ad_row hm hac.2.1).1 ht, by omega, by simpa using hd⟩
def AcyC (S C : List Int) (m : Nat) (cs : Nat → Int) : Prop := ∀ c d : Int, 0 ≤ c → 0 ≤ d → FoP (adG S C m) (TwC cs m c d)
theorem add_fo (hm : MayP (m : Int) (m : Int) S C) (hg : GraP S C m m) (hv : v < m) (hvc : cs v = -1) (hA : AcyC S C m cs) (hb : ¬ BarA S C m cs v y) (c : Int) (hc : 0 ≤ c) : FoP (adG S C m) (fun u => TwC cs m c (y : Int) u ∨ u = v) := by
  refine (forest_add (n := 0) (adG.ir hg) (adG.sy hg) ⟨List.range m, fun x hx => List.mem_range.2 hx.1⟩ (hA c y hc (by omega)) (fun h => ?_)).2 (fun a b hav hbv w => ?_)
  · rcases h.2 with h | h <;> omega
  · apply Classical.byContradiction
    intro hab
    have key : ∀ x, adG S C m x v → TwC cs m c (y : Int) x → cs x = c := fun x hx ht => ht.2.elim id (fun e => absurd (.inl ((barN_ad hm hv).2 ⟨x, adG.sy hg _ _ hx, e⟩)) hb)
    have e1 := key a hav w.first
    have e2 := key b hbv w.last
    refine hb (.inr ⟨a, b, c.toNat, hab, adG.sy hg _ _ hav, adG.sy hg _ _ hbv, by omega, by omega, ?_⟩)
    rw [show ((c.toNat : Nat) : Int) = c by omega]
    exact w
theorem TwC.upd (c : Int) (hvm : v < m) (hvc : cs v = -1) (hc : 0 ≤ c) (x : Nat) : TwC (updC cs v y) m c (y : Int) x ↔ (TwC cs m c (y : Int) x ∨ x = v) := by
  unfold TwC
  by_cases e : x = v
  · subst e
    rw [updC_same]
    exact ⟨fun _ => .inr rfl, fun _ => ⟨hvm, .inr rfl⟩⟩
  · rw [updC_other _ _ e]
    exact ⟨fun h => .inl h, fun h => h.elim id (fun h => absurd h e)⟩
theorem AcyC.next (hm : MayP (m : Int) (m : Int) S C) (hg : GraP S C m m) (hv : v < m) (hvc : cs v = -1) (hA : AcyC S C m cs) (hb : ¬ BarA S C m cs v y) : AcyC S C m (updC cs v y) := by
  intro c d hc hd
  by_cases e1 : d = (y : Int)
  · subst e1
    exact (FoP.iff (TwC.upd c hv hvc hc)).2 (add_fo hm hg hv hvc hA hb c hc)
  · by_cases e2 : c = (y : Int)
    · subst e2
      exact (FoP.iff (fun x => ⟨fun h => h.swap, fun h => h.swap⟩)).2 ((FoP.iff (TwC.upd d hv hvc hd)).2 (add_fo hm hg hv hvc hA hb d hd))
    · refine (FoP.iff (fun x => ?_)).2 (hA c d hc hd)
      unfold TwC
      by_cases e : x = v
      · subst e
        rw [updC_same, hvc]
        exact ⟨fun h => h.2.elim (fun h => absurd h.symm e2) (fun h => absurd h.symm e1), fun h => h.2.elim (fun h => by omega) (fun h => by omega)⟩
      · rw [updC_other _ _ e]
end
def PntG (L : (Nat → Int) → Nat → Nat → Prop) (xs : List Int) : Nat → (Nat → Int) → Prop
  | 0, cs => cs = fun _ => -1
  | k + 1, cs => ∃ cs0 y, PntG L xs k cs0 ∧ L cs0 (xs.getD k 0).toNat y ∧ cs = updC cs0 (xs.getD k 0).toNat y
theorem PntN.g {st cols xs : List Int} : ∀ {k : Nat} {cs : Nat → Int}, PntN st cols xs k cs ↔ PntG (LstN st cols) xs k cs
  | 0, _ => Iff.rfl
  | k + 1, cs => by
    unfold PntN PntG
    exact ⟨fun ⟨c, y, h1, h2⟩ => ⟨c, y, PntN.g.1 h1, h2⟩, fun ⟨c, y, h1, h2⟩ => ⟨c, y, PntN.g.2 h1, h2⟩⟩
theorem PntI.g {st cols xs : List Int} : ∀ {k : Nat} {cs : Nat → Int}, PntI st cols xs k cs ↔ PntG (LstP st cols) xs k cs
  | 0, _ => Iff.rfl
  | k + 1, cs => by
    unfold PntI PntG
    exact ⟨fun ⟨c, y, h1, h2⟩ => ⟨c, y, PntI.g.1 h1, h2⟩, fun ⟨c, y, h1, h2⟩ => ⟨c, y, PntI.g.2 h1, h2⟩⟩
theorem PntA.g {st cols xs : List Int} {R : Nat} : ∀ {k : Nat} {cs : Nat → Int}, PntA st cols R xs k cs ↔ PntG (LstA st cols R) xs k cs
  | 0, _ => Iff.rfl
  | k + 1, cs => by
    unfold PntA PntG
    exact ⟨fun ⟨c, y, h1, h2⟩ => ⟨c, y, PntA.g.1 h1, h2⟩, fun ⟨c, y, h1, h2⟩ => ⟨c, y, PntA.g.2 h1, h2⟩⟩
theorem PntG.fresh {L : (Nat → Int) → Nat → Nat → Prop} {xs : List Int} {v : Nat} : ∀ {k : Nat} {cs : Nat → Int}, PntG L xs k cs → (∀ j, j < k → (xs.getD j 0).toNat ≠ v) → cs v = -1
  | 0, cs, h, _ => by unfold PntG at h; rw [h]
  | k + 1, cs, ⟨c, y, h1, _, h3⟩, hn => by
    rw [h3, updC_other _ _ (fun e => hn k (by omega) e.symm)]
    exact PntG.fresh h1 (fun j hj => hn j (by omega))
theorem PntG.one {L : (Nat → Int) → Nat → Nat → Prop} {xs : List Int} (hL : ∀ cs v y z, L cs v y → L cs v z → y = z) : ∀ {k : Nat} {cs ds : Nat → Int}, PntG L xs k cs → PntG L xs k ds → cs = ds
  | 0, _, _, h, g => by unfold PntG at h g; rw [h, g]
  | k + 1, _, _, ⟨c, y, h1, h2, h3⟩, ⟨d, x, g1, g2, g3⟩ => by
    have e := PntG.one hL h1 g1
    subst e
    have e := hL _ _ _ _ h2 g2
    subst e
    rw [h3, g3]
theorem least_ex {B : Nat → Prop} : ∀ {k : Nat}, ¬ B k → ∃ y, y ≤ k ∧ ¬ B y ∧ ∀ j, j < y → B j := by
  intro k
  induction k using Nat.strongRecOn with
  | _ k ih =>
    intro hk
    by_cases h : ∃ j, j < k ∧ ¬ B j
    · obtain ⟨j, hj, hb⟩ := h
      obtain ⟨y, h1, h2⟩ := ih j hj hb
      exact ⟨y, by omega, h2⟩
    · exact ⟨k, Nat.le_refl _, hk, fun j hj => Classical.byContradiction (fun hb => h ⟨j, hj, hb⟩)⟩
structure PnX (RT : (Nat → Int) → Nat → Prop) (xs : List Int) (m : Nat) (P : Nat → (Nat → Int) → Prop) : Prop where
  zero : P 0 (fun _ => -1)
  next : ∀ k cs, k < m → P k cs → ∃ y, y ≤ k ∧ RT (updC cs (xs.getD k 0).toNat y) (xs.getD k 0).toNat ∧ (∀ j, j < y → ¬ RT (updC cs (xs.getD k 0).toNat j) (xs.getD k 0).toNat) ∧ P (k + 1) (updC cs (xs.getD k 0).toNat y)
  rng : ∀ k cs, k ≤ m → P k cs → ∀ i, -1 ≤ cs i ∧ cs i < (k : Int)
  fresh : ∀ k cs, k < m → P k cs → cs (xs.getD k 0).toNat = -1
section
variable {S C xs : List Int} {m : Nat} {Q : Nat → Bool}
end
set_option maxRecDepth 100000 in
set_option maxHeartbeats 16000000 in
theorem wisOrder_any (a : Option Addr) (m c : Nat) (xs : List Int) (n : Nat) (w : World) (h : SlI w a m c xs) (hm : m ≤ 17592186044416) (hn : n ≤ 128) (ok : Bool) (hok : TruQ ok (IsOrd xs n)) :
    Calls Tryz.prog 22 #[.slice a m c, .int .i64 (n : Int)] w fun e w' => e = .returned (.bool ok) ∧ Below w.heap.size w w' := by
  have HS := hide h
  have HOK := hide hok
  have hml := h.len
  by_cases hne : m = n
  · subst hne
    have tn : ((m : Int) != (m : Int)) = false := by simp
    have hmk := make_boolsP m (by omega) w
    have hR := RoV.made w m 4 (.bool false)
    obtain ⟨wm, hwm⟩ : ∃ x, w.alloc (.cells (madeCells #[.bool false] m) 4) = x := ⟨_, rfl⟩
    have bm : Below w.heap.size w wm := by rw [← hwm]; exact (Below.refl _ _).alloc (Nat.le_refl _) _
    rw [hwm] at hmk hR
    obtain ⟨g, hg⟩ : ∃ g, w.heap.size = g := ⟨_, rfl⟩
    have HB := hide bm
    have HG := hide hg
    rw [hg] at hmk hR
    have HR0 := hide hR
    have HS3 := hide ((unhide HS).below bm)
    have HLW := hide (show xs ≠ [] → ∀ z, a = some z → z.block ≠ g from fun hne z hz e => by have := (unhide HS).block_lt hne z hz; omega)
    clear h hok hml bm hR hwm
    go_enter Tryz.func22, Tryz.ntmps22
    go_wp2_with fail
    go_loopw [6, 18] (fun kv _ wr => ∃ k : Nat, k ≤ m ∧ kv = .int .i64 (k : Int) ∧ Hid (RoV wr g m (fun v => .bool (posI xs k v != -1))) ∧ Hid (OrdTo xs m k) ∧ Hid (Chg (fun j => j = g) wm wr)) (fun kv _ _ => m - (intOf kv).toNat)
    case atStart => exact ⟨0, Nat.zero_le _, rfl, hide ((unhide HR0).congr (fun i _ => by simp [posI])), hide ⟨fun j hj => by omega, fun i j _ hj => by omega⟩, hide (Chg.refl _ _)⟩
    case round =>
      obtain ⟨k, hk, rfl, HR, HO, HC⟩ := hrel
      by_cases hlt : k < m
      · have hlt' : (k : Int) < (m : Int) := by omega
        have hsl := (unhide HS3).chg (unhide HC) (fun z hz hne => unhide HLW hne z hz)
        obtain ⟨b, off, rfl, hc⟩ := hsl.at (by omega)
        have sk := hc k hlt
        have hbg : b ≠ g := unhide HLW (fun e => by have := (unhide HS).len; rw [e] at this; simp at this; omega) _ rfl
        obtain ⟨x, hx⟩ : ∃ x, xs.getD k 0 = x := ⟨_, rfl⟩
        rw [hx] at sk
        have HX := hide hx
        clear hc hsl hx hmk
        by_cases hx0 : x < 0
        · have HNO := hide (show ¬ OrdTo xs m m from fun h => by have := (h.rng k hlt).1; rw [unhide HX] at this; omega)
          have hokf : ok = false := by
            cases hk2 : ok
            · rfl
            · exact absurd (Iff.mp (unhide HOK) hk2).2 (unhide HNO)
          subst hokf
          go_wp2_with fail
          try go_ret
          exact ⟨rfl, by have h9 := (unhide HB).trans ((unhide HC).below (unhide HB).size (fun j hj e => by have := unhide HG; omega)); first | exact h9 | (rw [unhide HG] at h9; exact h9)⟩
        · by_cases hxm : (m : Int) ≤ x
          · have HNO := hide (show ¬ OrdTo xs m m from fun h => by have := (h.rng k hlt).2; rw [unhide HX] at this; omega)
            have hokf : ok = false := by
              cases hk2 : ok
              · rfl
              · exact absurd (Iff.mp (unhide HOK) hk2).2 (unhide HNO)
            subst hokf
            go_wp2_with fail
            try go_ret
            exact ⟨rfl, by have h9 := (unhide HB).trans ((unhide HC).below (unhide HB).size (fun j hj e => by have := unhide HG; omega)); first | exact h9 | (rw [unhide HG] at h9; exact h9)⟩
          · obtain ⟨v, hv⟩ : ∃ v : Nat, x = (v : Int) := ⟨x.toNat, by omega⟩
            subst hv
            have hvm : v < m := by omega
            have hvm' : (v : Int) < (m : Int) := by omega
            have hc1 := (unhide HR v hvm).1
            have hc2 := (unhide HR v hvm).2
            obtain ⟨p, hp⟩ : ∃ p, (posI xs k v != -1) = p := ⟨_, rfl⟩
            simp only [hp] at hc1
            have HPP := hide hp
            clear hp
            cases p
            · have hq : posI xs k v = -1 := by have := unhide HPP; simpa using this
              have HN := hide (OrdTo.next (unhide HO) (unhide HX) hvm hq)
              have HN2 := hide (show RoV (wr.setCell ⟨g, v, none⟩ (.bool true)) g m (fun u => .bool (posI xs (k + 1) u != -1)) from ((unhide HR).put v (.bool true) hvm).congr (fun u hu => by
                simp only [posI, unhide HX]
                by_cases e : u = v
                · subst e; simp
                · rw [if_neg e, if_neg (by omega)]))
              have HN3 := hide (show Chg (fun j => j = g) wm (wr.setCell ⟨g, v, none⟩ (.bool true)) from (unhide HC).trans (Chg.of_set _ _ _ _ rfl))
              clear hq
              go_wp2_with fail
              exact ⟨⟨k + 1, by omega, by (first | rfl | go_num), HN2, HN, HN3⟩, by simp [intOf]; omega⟩
            · have HNO := hide (OrdTo.no (n := m) hlt (unhide HX) (fun e => by have := unhide HPP; rw [e] at this; simp at this))
              have hokf : ok = false := by
                cases hk2 : ok
                · rfl
                · exact absurd (Iff.mp (unhide HOK) hk2).2 (unhide HNO)
              subst hokf
              go_wp2_with fail
              try go_ret
              exact ⟨rfl, by have h9 := (unhide HB).trans ((unhide HC).below (unhide HB).size (fun j hj e => by have := unhide HG; omega)); first | exact h9 | (rw [unhide HG] at h9; exact h9)⟩
      · obtain rfl : k = m := by omega
        have hlt' : ¬ (k : Int) < (k : Int) := by omega
        have hokt : ok = true := Iff.mpr (unhide HOK) ⟨(unhide HS).len, unhide HO⟩
        subst hokt
        clear hmk
        go_wp2_with fail
        try go_ret
        exact ⟨rfl, by have h9 := (unhide HB).trans ((unhide HC).below (unhide HB).size (fun j hj e => by have := unhide HG; omega)); first | exact h9 | (rw [unhide HG] at h9; exact h9)⟩
  · have hne1 : ((m : Int) != (n : Int)) = true := by simp; omega
    have hokf : ok = false := by
      cases hk : ok
      · rfl
      · have := (Iff.mp hok hk).1
        omega
    subst hokf
    clear h hok hml hne
    go_enter Tryz.func22, Tryz.ntmps22
    go_wp2_with fail
    try go_ret
    exact ⟨rfl, Below.refl _ _⟩
set_option maxRecDepth 100000 in
set_option maxHeartbeats 16000000 in
theorem wthings_bad4 (R width : Nat) (a1 a2 : Option Addr) (n1 c1 n2 c2 : Nat) (st cols : List Int) (w : World) (h1 : SlI w a1 n1 c1 st) (h2 : SlI w a2 n2 c2 cols) (hb1 : n1 ≤ 17592186044416) (hb2 : n2 ≤ 17592186044416) (hm : MayP (R : Int) (width : Int) st cols) (hg : ¬ GraP st cols R width) :
    Calls Tryz.prog 21 #[.int .i64 4, patV (R : Int) (width : Int) a1 n1 c1 a2 n2 c2] w fun e w' => e = .returned (.tuple #[.agg #[.int .i64 0, .slice none 0 0], .int .i64 220]) ∧ Below w.heap.size w w' := by
  obtain ⟨wb, hwb⟩ : ∃ x, w.alloc (.cells #[.int .i64 (R : Int), .int .i64 (width : Int), .slice a1 n1 c1, .slice a2 n2 c2] 25) = x := ⟨_, rfl⟩
  have bb : Below w.heap.size w wb := by rw [← hwb]; exact (Below.refl _ _).alloc (Nat.le_refl _) _
  have hT := BoxP.made w #[.int .i64 (R : Int), .int .i64 (width : Int), .slice a1 n1 c1, .slice a2 n2 c2] 25
  rw [hwb] at hT
  have hO0 := BoxP.made wb #[.int .i64 0, .slice none 0 0] 45
  obtain ⟨wo, hwo⟩ : ∃ x, wb.alloc (.cells #[.int .i64 0, .slice none 0 0] 45) = x := ⟨_, rfl⟩
  have bo : Below wb.heap.size wb wo := by rw [← hwo]; exact (Below.refl _ _).alloc (Nat.le_refl _) _
  rw [hwo] at hO0
  have hT1 := hT.below bo
  have p0 := (hT1.all 0 _ rfl).1
  have p1 := (hT1.all 1 _ rfl).1
  have p2 := (hT1.all 2 _ rfl).1
  have p3 := (hT1.all 3 _ rfl).1
  have bw := bb.trans (bo.mono bb.size)
  have HT := hide hT1
  have HO := hide hO0
  have HB := hide bw
  have HWB := hide bb.size
  have HS := hide (And.intro h1 h2)
  have KM := hide (wsmay_any (R : Int) (width : Int) a1 a2 n1 c1 n2 c2 st cols wo (h1.below bw) (h2.below bw) hb1 hb2)
  unfold patV at KM
  have HTQ := hide (show TruQ true (MayP (R : Int) (width : Int) st cols) from ⟨fun _ => hm, fun _ => rfl⟩)
  have HM := hide hm
  have HGR := hide hg
  clear hT hT1 hO0 bb bo bw h1 h2 hm hg
  unfold patV
  go_enter Tryz.func21, Tryz.ntmps21
  go_wp2_with fail
  refine (unhide KM).mono ?_
  intro e w2 hq
  obtain ⟨rfl, b2⟩ := hq.known (unhide HTQ)
  have hT2 := (unhide HT).below b2
  have q0 := (hT2.all 0 _ rfl).1
  have q1 := (hT2.all 1 _ rfl).1
  have q2 := (hT2.all 2 _ rfl).1
  have q3 := (hT2.all 3 _ rfl).1
  have bw2 := (unhide HB).trans (b2.mono (unhide HB).size)
  have hO2 := (unhide HO).below b2
  have KO := hide (show Calls Tryz.prog 46 #[patV (R : Int) (width : Int) a1 n1 c1 a2 n2 c2] w2 fun e w' => e = .returned (.tuple #[.agg #[.int .i64 0, .slice none 0 0], .bool false]) ∧ Below w2.heap.size w2 w' from by
    by_cases hRw : R = width
    · subst hRw
      exact (wopenG_any R a1 a2 n1 c1 n2 c2 st cols w2 ((unhide HS).1.below bw2) ((unhide HS).2.below bw2) hb1 hb2 (unhide HM) false ⟨fun e => absurd e (by decide), fun h => absurd h (unhide HGR)⟩).mono (fun e w' (h : OgP _ _ _ _ _ _ _) => ⟨h.2.2 rfl, h.1⟩)
    · exact wopenG_no R width a1 a2 n1 c1 n2 c2 st cols w2 ((unhide HS).1.below bw2) ((unhide HS).2.below bw2) hb1 hb2 hRw)
  unfold patV at KO
  have HO2 := hide hO2
  have HB2 := hide bw2
  clear hq KM b2 hT2 hO2 bw2 p0 p1 p2 p3
  go_wp2_with fail
  refine (unhide KO).mono ?_
  rintro _ w3 ⟨rfl, b3⟩
  have bz : Below w3.heap.size w3 (w3.alloc (.cells #[.int .i64 0, .slice none 0 0] 45)) := (Below.refl _ _).alloc (Nat.le_refl _) _
  have b2z := b3.trans (bz.mono b3.size)
  have hO3 := (unhide HO2).below b2z
  have o0 := (hO3.all 0 _ rfl).1
  have o1 := (hO3.all 1 _ rfl).1
  have r0 := (hO3.all 0 _ rfl).2
  have r1 := (hO3.all 1 _ rfl).2
  have HO3 := hide hO3
  have HB3 := hide ((unhide HB2).trans (b2z.mono (unhide HB2).size))
  clear KO b3 bz b2z hO3 q0 q1 q2 q3
  go_wp2_with fail
  have hf := ((unhide HO3).put 0 (.int .i64 0)).put 1 (.slice none 0 0)
  have t0 := (hf.all 0 _ rfl).1
  have t1 := (hf.all 1 _ rfl).1
  have cc : Chg (fun j => j = wb.heap.size) (w3.alloc (.cells #[.int .i64 0, .slice none 0 0] 45)) (((w3.alloc (.cells #[.int .i64 0, .slice none 0 0] 45)).setCell ⟨wb.heap.size, 0, none⟩ (.int .i64 0)).setCell ⟨wb.heap.size, 1, none⟩ (.slice none 0 0)) := (Chg.of_set (S := fun j => j = wb.heap.size) _ _ _ _ rfl).trans (Chg.of_set (S := fun j => j = wb.heap.size) _ _ _ _ rfl)
  generalize ((w3.alloc (.cells #[.int .i64 0, .slice none 0 0] 45)).setCell ⟨wb.heap.size, 0, none⟩ (.int .i64 0)).setCell ⟨wb.heap.size, 1, none⟩ (.slice none 0 0) = wf at *
  refine bodyPost_ret (by simp [results, Tryz.results21, go_sem, t0, t1]; try rfl) rfl ?_
  have h9 := unhide HWB
  exact ⟨rfl, (unhide HB3).trans (cc.below (unhide HB3).size (fun j hj e => by omega))⟩
set_option maxRecDepth 100000 in
set_option maxHeartbeats 16000000 in
theorem wthings_yes4 (R : Nat) (a1 a2 : Option Addr) (n1 c1 n2 c2 : Nat) (st cols : List Int) (w : World) (h1 : SlI w a1 n1 c1 st) (h2 : SlI w a2 n2 c2 cols) (hb1 : n1 ≤ 17592186044416) (hb2 : n2 ≤ 17592186044416) (hm : MayP (R : Int) (R : Int) st cols) (hg : GraP st cols R R) :
    Calls Tryz.prog 21 #[.int .i64 4, patV (R : Int) (R : Int) a1 n1 c1 a2 n2 c2] w fun e w' => TgP w w' e R (R * R) (fun x => tb (Vis R R st cols cols.length x)) := by
  obtain ⟨wb, hwb⟩ : ∃ x, w.alloc (.cells #[.int .i64 (R : Int), .int .i64 (R : Int), .slice a1 n1 c1, .slice a2 n2 c2] 25) = x := ⟨_, rfl⟩
  have bb : Below w.heap.size w wb := by rw [← hwb]; exact (Below.refl _ _).alloc (Nat.le_refl _) _
  have hT := BoxP.made w #[.int .i64 (R : Int), .int .i64 (R : Int), .slice a1 n1 c1, .slice a2 n2 c2] 25
  rw [hwb] at hT
  have hO0 := BoxP.made wb #[.int .i64 0, .slice none 0 0] 45
  obtain ⟨wo, hwo⟩ : ∃ x, wb.alloc (.cells #[.int .i64 0, .slice none 0 0] 45) = x := ⟨_, rfl⟩
  have bo : Below wb.heap.size wb wo := by rw [← hwo]; exact (Below.refl _ _).alloc (Nat.le_refl _) _
  rw [hwo] at hO0
  have hT1 := hT.below bo
  have p0 := (hT1.all 0 _ rfl).1
  have p1 := (hT1.all 1 _ rfl).1
  have p2 := (hT1.all 2 _ rfl).1
  have p3 := (hT1.all 3 _ rfl).1
  have bw := bb.trans (bo.mono bb.size)
  have HT := hide hT1
  have HO := hide hO0
  have HB := hide bw
  have HWB := hide bb.size
  have HS := hide (And.intro h1 h2)
  have KM := hide (wsmay_any (R : Int) (R : Int) a1 a2 n1 c1 n2 c2 st cols wo (h1.below bw) (h2.below bw) hb1 hb2)
  unfold patV at KM
  have HTQ := hide (show TruQ true (MayP (R : Int) (R : Int) st cols) from ⟨fun _ => hm, fun _ => rfl⟩)
  have HM := hide hm
  have HGR := hide hg
  obtain ⟨nn, hnn⟩ : ∃ nn, R * R = nn := ⟨_, rfl⟩
  have HNN := hide hnn
  rw [hnn]
  clear hnn
  clear hT hT1 hO0 bb bo bw h1 h2 hm hg
  unfold patV
  go_enter Tryz.func21, Tryz.ntmps21
  go_wp2_with fail
  refine (unhide KM).mono ?_
  intro e w2 hq
  obtain ⟨rfl, b2⟩ := hq.known (unhide HTQ)
  have hT2 := (unhide HT).below b2
  have q0 := (hT2.all 0 _ rfl).1
  have q1 := (hT2.all 1 _ rfl).1
  have q2 := (hT2.all 2 _ rfl).1
  have q3 := (hT2.all 3 _ rfl).1
  have bw2 := (unhide HB).trans (b2.mono (unhide HB).size)
  have hO2 := (unhide HO).below b2
  have KO := hide ((wopenG_any R a1 a2 n1 c1 n2 c2 st cols w2 ((unhide HS).1.below bw2) ((unhide HS).2.below bw2) hb1 hb2 (unhide HM) true ⟨fun _ => unhide HGR, fun _ => rfl⟩).mono (fun e w' (h : OgP _ _ _ _ _ _ _) => (show (∃ b, w2.heap.size ≤ b ∧ e = .returned (.tuple #[grV R b (R * R), .bool true]) ∧ RoV w' b (R * R) (fun x => .bool (tb (Vis R R st cols cols.length x)))) ∧ Below w2.heap.size w2 w' from ⟨h.2.1 rfl, h.1⟩)))
  rw [unhide HNN] at KO
  unfold patV grV at KO
  have HO2 := hide hO2
  have HB2 := hide bw2
  clear hq KM b2 hT2 hO2 bw2 p0 p1 p2 p3
  go_wp2_with fail
  refine (unhide KO).mono ?_
  rintro _ w3 ⟨⟨b, hbn, rfl, hRo⟩, b3⟩
  obtain ⟨wz, hwz⟩ : ∃ x, w3.alloc (.cells #[.int .i64 (R : Int), .slice (some ⟨b, 0, none⟩) nn nn] 45) = x := ⟨_, rfl⟩
  have bz : Below w3.heap.size w3 wz := by rw [← hwz]; exact (Below.refl _ _).alloc (Nat.le_refl _) _
  have hZ := BoxP.made w3 #[.int .i64 (R : Int), .slice (some ⟨b, 0, none⟩) nn nn] 45
  rw [hwz] at hZ
  have z0 := (hZ.all 0 _ rfl).1
  have z1 := (hZ.all 1 _ rfl).1
  have b2z := b3.trans (bz.mono b3.size)
  have hO3 := (unhide HO2).below b2z
  have o0 := (hO3.all 0 _ rfl).1
  have o1 := (hO3.all 1 _ rfl).1
  have r0 := (hO3.all 0 _ rfl).2
  have r1 := (hO3.all 1 _ rfl).2
  have HO3 := hide hO3
  have HRo := hide (hRo.below bz)
  have HB3 := hide ((unhide HB2).trans (b2z.mono (unhide HB2).size))
  have HBn := hide (show wb.heap.size < b ∧ w.heap.size ≤ b from by have := (unhide HO2).lt; have := unhide HWB; omega)
  clear KO hRo b3 bz b2z hZ hO3 q0 q1 q2 q3 hbn
  go_wp2_with fail
  have hf := ((unhide HO3).put 0 (.int .i64 (R : Int))).put 1 (.slice (some ⟨b, 0, none⟩) nn nn)
  have t0 := (hf.all 0 _ rfl).1
  have t1 := (hf.all 1 _ rfl).1
  have cc : Chg (fun j => j = wb.heap.size) wz ((wz.setCell ⟨wb.heap.size, 0, none⟩ (.int .i64 (R : Int))).setCell ⟨wb.heap.size, 1, none⟩ (.slice (some ⟨b, 0, none⟩) nn nn)) := (Chg.of_set (S := fun j => j = wb.heap.size) _ _ _ _ rfl).trans (Chg.of_set (S := fun j => j = wb.heap.size) _ _ _ _ rfl)
  generalize (wz.setCell ⟨wb.heap.size, 0, none⟩ (.int .i64 (R : Int))).setCell ⟨wb.heap.size, 1, none⟩ (.slice (some ⟨b, 0, none⟩) nn nn) = wf at *
  refine bodyPost_ret (by simp [results, Tryz.results21, go_sem, t0, t1]; try rfl) rfl ?_
  have h9 := unhide HWB
  exact ⟨b, (unhide HBn).2, rfl, (unhide HRo).chg cc (fun e => by have := (unhide HBn).1; omega), (unhide HB3).trans (cc.below (unhide HB3).size (fun j hj e => by omega))⟩
set_option maxRecDepth 100000 in
set_option maxHeartbeats 16000000 in
theorem wthings_yes5 (R : Nat) (a1 a2 : Option Addr) (n1 c1 n2 c2 : Nat) (st cols : List Int) (w : World) (h1 : SlI w a1 n1 c1 st) (h2 : SlI w a2 n2 c2 cols) (hb1 : n1 ≤ 17592186044416) (hb2 : n2 ≤ 17592186044416) (hm : MayP (R : Int) (R : Int) st cols) (hg : GraP st cols R R) :
    Calls Tryz.prog 21 #[.int .i64 5, patV (R : Int) (R : Int) a1 n1 c1 a2 n2 c2] w fun e w' => TgP w w' e R (R * R) (fun x => tb (Vis R R st cols cols.length x)) := by
  obtain ⟨wb, hwb⟩ : ∃ x, w.alloc (.cells #[.int .i64 (R : Int), .int .i64 (R : Int), .slice a1 n1 c1, .slice a2 n2 c2] 25) = x := ⟨_, rfl⟩
  have bb : Below w.heap.size w wb := by rw [← hwb]; exact (Below.refl _ _).alloc (Nat.le_refl _) _
  have hT := BoxP.made w #[.int .i64 (R : Int), .int .i64 (R : Int), .slice a1 n1 c1, .slice a2 n2 c2] 25
  rw [hwb] at hT
  have hO0 := BoxP.made wb #[.int .i64 0, .slice none 0 0] 45
  obtain ⟨wo, hwo⟩ : ∃ x, wb.alloc (.cells #[.int .i64 0, .slice none 0 0] 45) = x := ⟨_, rfl⟩
  have bo : Below wb.heap.size wb wo := by rw [← hwo]; exact (Below.refl _ _).alloc (Nat.le_refl _) _
  rw [hwo] at hO0
  have hT1 := hT.below bo
  have p0 := (hT1.all 0 _ rfl).1
  have p1 := (hT1.all 1 _ rfl).1
  have p2 := (hT1.all 2 _ rfl).1
  have p3 := (hT1.all 3 _ rfl).1
  have bw := bb.trans (bo.mono bb.size)
  have HT := hide hT1
  have HO := hide hO0
  have HB := hide bw
  have HWB := hide bb.size
  have HS := hide (And.intro h1 h2)
  have KM := hide (wsmay_any (R : Int) (R : Int) a1 a2 n1 c1 n2 c2 st cols wo (h1.below bw) (h2.below bw) hb1 hb2)
  unfold patV at KM
  have HTQ := hide (show TruQ true (MayP (R : Int) (R : Int) st cols) from ⟨fun _ => hm, fun _ => rfl⟩)
  have HM := hide hm
  have HGR := hide hg
  obtain ⟨nn, hnn⟩ : ∃ nn, R * R = nn := ⟨_, rfl⟩
  have HNN := hide hnn
  rw [hnn]
  clear hnn
  clear hT hT1 hO0 bb bo bw h1 h2 hm hg
  unfold patV
  go_enter Tryz.func21, Tryz.ntmps21
  go_wp2_with fail
  refine (unhide KM).mono ?_
  intro e w2 hq
  obtain ⟨rfl, b2⟩ := hq.known (unhide HTQ)
  have hT2 := (unhide HT).below b2
  have q0 := (hT2.all 0 _ rfl).1
  have q1 := (hT2.all 1 _ rfl).1
  have q2 := (hT2.all 2 _ rfl).1
  have q3 := (hT2.all 3 _ rfl).1
  have bw2 := (unhide HB).trans (b2.mono (unhide HB).size)
  have hO2 := (unhide HO).below b2
  have KO := hide ((wopenG_any R a1 a2 n1 c1 n2 c2 st cols w2 ((unhide HS).1.below bw2) ((unhide HS).2.below bw2) hb1 hb2 (unhide HM) true ⟨fun _ => unhide HGR, fun _ => rfl⟩).mono (fun e w' (h : OgP _ _ _ _ _ _ _) => (show (∃ b, w2.heap.size ≤ b ∧ e = .returned (.tuple #[grV R b (R * R), .bool true]) ∧ RoV w' b (R * R) (fun x => .bool (tb (Vis R R st cols cols.length x)))) ∧ Below w2.heap.size w2 w' from ⟨h.2.1 rfl, h.1⟩)))
  rw [unhide HNN] at KO
  unfold patV grV at KO
  have HO2 := hide hO2
  have HB2 := hide bw2
  clear hq KM b2 hT2 hO2 bw2 p0 p1 p2 p3
  go_wp2_with fail
  refine (unhide KO).mono ?_
  rintro _ w3 ⟨⟨b, hbn, rfl, hRo⟩, b3⟩
  obtain ⟨wz, hwz⟩ : ∃ x, w3.alloc (.cells #[.int .i64 (R : Int), .slice (some ⟨b, 0, none⟩) nn nn] 45) = x := ⟨_, rfl⟩
  have bz : Below w3.heap.size w3 wz := by rw [← hwz]; exact (Below.refl _ _).alloc (Nat.le_refl _) _
  have hZ := BoxP.made w3 #[.int .i64 (R : Int), .slice (some ⟨b, 0, none⟩) nn nn] 45
  rw [hwz] at hZ
  have z0 := (hZ.all 0 _ rfl).1
  have z1 := (hZ.all 1 _ rfl).1
  have b2z := b3.trans (bz.mono b3.size)
  have hO3 := (unhide HO2).below b2z
  have o0 := (hO3.all 0 _ rfl).1
  have o1 := (hO3.all 1 _ rfl).1
  have r0 := (hO3.all 0 _ rfl).2
  have r1 := (hO3.all 1 _ rfl).2
  have HO3 := hide hO3
  have HRo := hide (hRo.below bz)
  have HB3 := hide ((unhide HB2).trans (b2z.mono (unhide HB2).size))
  have HBn := hide (show wb.heap.size < b ∧ w.heap.size ≤ b from by have := (unhide HO2).lt; have := unhide HWB; omega)
  clear KO hRo b3 bz b2z hZ hO3 q0 q1 q2 q3 hbn
  go_wp2_with fail
  have hf := ((unhide HO3).put 0 (.int .i64 (R : Int))).put 1 (.slice (some ⟨b, 0, none⟩) nn nn)
  have t0 := (hf.all 0 _ rfl).1
  have t1 := (hf.all 1 _ rfl).1
  have cc : Chg (fun j => j = wb.heap.size) wz ((wz.setCell ⟨wb.heap.size, 0, none⟩ (.int .i64 (R : Int))).setCell ⟨wb.heap.size, 1, none⟩ (.slice (some ⟨b, 0, none⟩) nn nn)) := (Chg.of_set (S := fun j => j = wb.heap.size) _ _ _ _ rfl).trans (Chg.of_set (S := fun j => j = wb.heap.size) _ _ _ _ rfl)
  generalize (wz.setCell ⟨wb.heap.size, 0, none⟩ (.int .i64 (R : Int))).setCell ⟨wb.heap.size, 1, none⟩ (.slice (some ⟨b, 0, none⟩) nn nn) = wf at *
  refine bodyPost_ret (by simp [results, Tryz.results21, go_sem, t0, t1]; try rfl) rfl ?_
  have h9 := unhide HWB
  exact ⟨b, (unhide HBn).2, rfl, (unhide HRo).chg cc (fun e => by have := (unhide HBn).1; omega), (unhide HB3).trans (cc.below (unhide HB3).size (fun j hj e => by omega))⟩
def TgQ (w w' : World) (e : Ending) (m mm : Nat) (f : Nat → Bool) : Prop := ∃ b, e = .returned (.tuple #[grV m b mm, .int .i64 0]) ∧ RoV w' b mm (fun x => .bool (f x)) ∧ Below w.heap.size w w'
end Go.Proofs.YtgjokididdffhaaGreat
