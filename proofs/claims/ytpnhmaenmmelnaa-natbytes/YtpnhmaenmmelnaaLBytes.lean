/-
  THE LAW NatBytes: out of the contracts; the row's step.
-/
import Derived.Test.YtpnhmaenmmelnaaBy7
import Derived.Test.YtpnhmaenmmelnaaOpen
namespace Go.Proofs.Ytpnhmaenmmelnaa
open Go.ChangeShapes Go.WideShapes Go.ChangeAt Go.RowKit Go.Deep
set_option linter.unusedVariables false

theorem valsB_one (bs : List Nat) : ∀ u ∈ valsB bs, u.oneCell' = true := by
  intro u hu
  simp [valsB] at hu
  obtain ⟨x, _, rfl⟩ := hu
  rfl

theorem SlB.pre {w : World} {g n cap : Nat} {bs ys : List Nat} {m : Nat} (h : SlB w (some ⟨g, 0, none⟩) m cap (bs ++ ys)) (hn : bs.length = n) : SlB w (some ⟨g, 0, none⟩) n cap bs := by
  have h1 := h.len
  have h2 := h.le
  simp at h1
  refine ⟨hn, by omega, fun x hx => h.ok x (by simp [hx]), ?_⟩
  rcases h.cells with e | ⟨b, off, e, hc⟩
  · left
    simp at e
    exact e.1
  · right
    refine ⟨b, off, e, fun i hi => ?_⟩
    rw [hc i (by simp; omega)]
    simp [List.getD, List.getElem?_append_left hi]
theorem SlB.two {w : World} {g n cap : Nat} {bs : List Nat} {x y : Nat} (h : SlB w (some ⟨g, 0, none⟩) (n + 2) cap (bs ++ [x, y])) (hn : bs.length = n) :
    w.cell? ⟨g, n, none⟩ = some (.int .u8 (x : Nat)) ∧ w.cell? ⟨g, n + 1, none⟩ = some (.int .u8 (y : Nat)) := by
  rcases h.cells with e | ⟨b, off, e, hc⟩
  · simp at e
  · cases e
    have c1 := hc n (by simp; omega)
    have c2 := hc (n + 1) (by simp; omega)
    rw [Nat.zero_add] at c1 c2
    rw [c1, c2]
    subst hn
    refine ⟨?_, ?_⟩ <;> congr 3 <;> simp [List.getD]

section
variable {P : Program} {w : World}
/-- append to a list without room, of what may be nothing. -/
theorem wpList_append_first {ops : Array Oper} {rest : List Oper} {o : Oper} {a : Act} {Q : Exit → Act → World → Prop} (hgd : o.guard = none) (s x : Operand) (t : TypeId)
    (ho : o.op = .call { callee := .builtin .append, args := #[s, x], argTypes := #[t, t] })
    (base : Nat) (e : TypeId) (i : TypeInfo) (z : Value) (bytes : Nat) (ht : P.underlying t = some (.slice e)) (hi : P.info? e = some i) (hz : i.zero = some z)
    (hsize : i.size = 1) (hby : i.bytes = bytes) (hzs : z.cells.size = 1) (g0 : Nat)
    (hs : a.eval s = .slice (some ⟨g0, 0, none⟩) 0 0) (hown : w.ownsRow base e 1 (.slice (some ⟨g0, 0, none⟩) 0 0) 0 [])
    (ao : Option Addr) (m c : Nat) (news : List Value) (hx : a.eval x = .slice ao m c) (hl : news.length = m) (hnone : ao = none → m = 0 ∧ c = 0)
    (hnews : ∀ ad, ao = some ad → ∀ j u, news[j]? = some u → w.cell? (ad.add j) = some u) (h1 : ∀ u ∈ news, u.oneCell' = true)
    (h63 : m ≤ maxLen) (hbytes : m * bytes ≤ 140737488355328) (hbase : base ≤ w.heap.size)
    (h : ∀ g cap w', w'.ownsRow base e 1 (.slice (some ⟨g, 0, none⟩) m cap) m news → w.grownBy w' (some g0) → wpList P ops Q rest (a.put o.dst (.slice (some ⟨g, 0, none⟩) m cap)) w') : wpList P ops Q (o :: rest) a w := by
  by_cases hm : m = 0
  · refine wpList_append_fits_any w hgd s x t ho base e i 1 ht hi hsize g0 0 0 [] hs hown ao m c news hx (by simpa using hl) hnone hnews h1 (by omega) ?_
    intro w' k1 k2
    simp only [Nat.zero_add, List.nil_append] at k1 ⊢
    exact h g0 0 w' k1 k2
  · cases ao with
    | none => exact absurd (hnone rfl).1 hm
    | some ad =>
      refine wpList_append_lies w hgd s x t ho base e i z 1 bytes ht hi hz hsize hby hzs (by decide) _ 0 [] hs hown ad m c news hx (by simpa using hl) (hnews ad rfl) h1 (by omega) (by simpa using h63) (by simpa using hbytes) hbase _ rfl ?_
      intro g cap w' k1 k2 _ _
      simp only [Nat.zero_add, List.nil_append] at k1 ⊢
      exact h g cap w' k1 k2
end

set_option maxHeartbeats 8000000 in
theorem natBytes_walk (a1 a2 : Option Addr) (n1 c1 n2 c2 : Nat) (xs bs : List Nat) (w : World) (h1 : Sl w a1 n1 c1 xs) (h2 : SlB w a2 n2 c2 bs) (ox : Ok xs) (hb1 : n1 ≤ 35184372088000) (hb2 : c2 ≤ 140737488351232) (hnil : a2 = none → n2 = 0 ∧ c2 = 0) :
    Calls Try.prog 5 #[.slice a1 n1 c1, .slice a2 n2 c2] w fun e w' => e = .returned (.bool true) ∧ Below w.heap.size w w' := by
  have HS0 := hide (LawSt.begin (w := w) (L := [⟨a1, n1, c1, xs⟩]) _ rfl (by intro p hp; simp at hp; subst hp; exact h1))
  have HB0 := hide h2
  have HNil := hide hnil
  have HLe := hide h2.le
  obtain ⟨i80, hi80, hz80, hs80, hb80⟩ := info_parts Try.info_u8
  have I80 := hide (And.intro hi80 (And.intro hz80 (And.intro hs80 hb80)))
  have HN2 : n2 ≤ 140737488351232 := Nat.le_trans h2.le hb2
  clear h1 h2 hi80 hz80 hs80 hb80 hnil
  go_enter Try.func5, Try.ntmps5
  go_wp2_with fail
  refine ((unhide HS0).nat ⟨a1, n1, c1, xs⟩ (by simp) hb1 (by simp)).mono ?_
  rintro e w1 ⟨v0, v1, E, rfl, hst⟩
  have HS1 := hide hst
  have HB1 := hide ((unhide HB0).below hst.bel)
  clear hst HS0
  go_wp2_with fail
  refine (nbytes_any (some ⟨E.b, 0, none⟩) n1 E.c xs _ ((unhide HS1).sl ⟨some ⟨E.b, 0, none⟩, n1, E.c, xs⟩ (by simp)) ox).mono ?_
  rintro e w2 ⟨al, ml, cl, rfl, sl, bel⟩
  have HS2 := hide ((unhide HS1).keep bel)
  have HB2 := hide ((unhide HB1).below bel)
  have HL2 := hide sl
  clear sl bel HS1 HB1
  go_wp2_with fail
  refine (rbytes_any a1 n1 c1 xs _ ((unhide HS2).sl ⟨a1, n1, c1, xs⟩ (by simp)) ox).mono ?_
  rintro e w3 ⟨ax, mx, cx, rfl, sx, bel⟩
  have HS3 := hide ((unhide HS2).keep bel)
  have HB3 := hide ((unhide HB2).below bel)
  have HL3 := hide ((unhide HL2).below bel)
  have HX3 := hide sx
  clear sx bel HS2 HB2 HL2
  go_wp2_with (at_builtin; refine wpList_append_first rfl _ _ 53 rfl w3.heap.size 5 i80 (.int .u8 0) 1 Try.underlying53 (unhide I80).1 (unhide I80).2.1 (unhide I80).2.2.1 (unhide I80).2.2.2 rfl w3.heap.size rfl ⟨rfl, .inr ⟨w3.heap.size, 0, #[], rfl, Nat.le_refl _, alloc_block _ _, Nat.le_refl _, Nat.zero_le _, rfl, rfl⟩⟩ a2 n2 c2 (valsB bs) rfl (by simp [valsB, (unhide HB3).len]) (unhide HNil) ?hnews ?hone (by unfold maxLen; omega) (by omega) (by simp) ?_)
  case hnews =>
    intro ad had j u hu
    have hj : j < bs.length := by
      have := (List.getElem?_eq_some_iff.1 hu).1
      simpa [valsB] using this
    have hne : bs ≠ [] := by intro e; rw [e] at hj; simp at hj
    obtain ⟨b, off, e, hc⟩ := (unhide HB3).cells.resolve_left hne
    rw [e] at had
    cases had
    have h1 := hc j hj
    have e2 : (⟨b, off, none⟩ : Addr).add j = ⟨b, off + j, none⟩ := by unfold Addr.add; split <;> simp_all
    rw [e2, World.cell?_alloc_lt _ _ _ (World.block_lt_of_cell? _ _ h1), h1, ← hu]
    simp [valsB, hj]
  case hone => exact valsB_one bs
  intro g cap w4 hown hgrow
  have hb4 : Below w3.heap.size w3 w4 := Below.grown ((Below.refl _ _).alloc (Nat.le_refl _) _) hgrow (by simp) (fun k hk => by cases hk; exact Nat.le_refl _)
  have HO4 := hide hown
  have HZ4 := hb4.size
  have HE4 := hide hb4
  clear hown hgrow hb4
  go_wp2_with (at_builtin; refine wpList_append_lies _ rfl _ _ 53 rfl w3.heap.size 5 i80 (.int .u8 0) 1 1 Try.underlying53 (unhide I80).1 (unhide I80).2.1 (unhide I80).2.2.1 (unhide I80).2.2.2 rfl (by decide) _ n2 _ rfl ((unhide HO4).alloc _) ⟨w4.heap.size, 0, none⟩ 2 2 [.int .u8 165, .int .u8 90] rfl rfl (World.news_of_block (alloc_block _ _)) ?c21 (by decide) ?c31 ?c41 ?c51 (w4.heap.size + 1) (by simp) ?_)
  case c21 => intro u hu; simp at hu; rcases hu with rfl | rfl <;> rfl
  case c31 => unfold maxLen; omega
  case c41 => omega
  case c51 => simp; omega
  intro g2 cap2 w5 hown hgrow hat hlt2
  have hb5 : Below w3.heap.size w3 w5 := Below.grown ((unhide HE4).alloc HZ4 _) hgrow (by simp; omega) (fun k hk => (own_ge (unhide HO4) k hk).1)
  have hA : SlB w5 (some ⟨g2, 0, none⟩) (n2 + 2) cap2 (bs ++ [165, 90]) := by
    obtain ⟨a', c', e, hs⟩ := own_slB (bs := bs ++ [165, 90]) (by simpa [valsB] using hown) (by
      intro x hx
      simp at hx
      rcases hx with hx | rfl | rfl
      · exact (unhide HB0).ok x hx
      · decide
      · decide)
    cases e
    exact hs
  have hcm : cap2 ≤ maxLen := by
    rcases hown.2 with ⟨e, _⟩ | ⟨g', cap', cur, e, _, _, _, h5, _⟩
    · cases e
    · cases e; exact h5
  have HS5 := hide ((unhide HS3).keep hb5)
  have HB5 := hide ((unhide HB3).below hb5)
  have HL5 := hide ((unhide HL3).below hb5)
  have HX5 := hide ((unhide HX3).below hb5)
  have HA5 := hide hA
  have hc2 : n2 + 2 ≤ cap2 := hA.le
  have HLen := hide (unhide HB0).len
  have HCM := hide hcm
  have hc63 : cap2 ≤ 9223372036854775807 := by unfold maxLen at hcm; omega
  clear HS3 HB3 HL3 HX3 HE4 hown hgrow hb5 hat hlt2 hA hcm HO4
  go_wp2_with fail
  refine (nfrom_some g2 0 n2 cap2 bs _ ((unhide HA5).pre (unhide HLen)) (unhide HCM)).mono ?_
  intro e w6 hres
  have hb6 : Below w5.heap.size w5 w6 := by obtain ⟨_, _, _, _, _, _, hb⟩ := hres; exact hb
  obtain ⟨a6, m6, c6, rfl, hst⟩ := (unhide HS5).res2 hres
  have HS6 := hide hst
  have HB6 := hide ((unhide HB5).below hb6)
  have HL6 := hide ((unhide HL5).below hb6)
  have HX6 := hide ((unhide HX5).below hb6)
  have HA6 := hide ((unhide HA5).below hb6)
  clear HS5 HB5 HL5 HX5 HA5 hst hb6 hres
  go_wp2_with fail
  refine (rfromB_any a2 n2 c2 bs _ (unhide HB6) (by unfold maxLen; omega)).mono ?_
  intro e w7 hres
  have hb7 : Below w6.heap.size w6 w7 := by obtain ⟨_, _, _, _, _, _, hb⟩ := hres; exact hb
  obtain ⟨a7, m7, c7, rfl, hst⟩ := (unhide HS6).res2 hres
  have HS7 := hide hst
  have HB7 := hide ((unhide HB6).below hb7)
  have HL7 := hide ((unhide HL6).below hb7)
  have HX7 := hide ((unhide HX6).below hb7)
  have HA7 := hide ((unhide HA6).below hb7)
  clear HS6 HB6 HL6 HX6 HA6 hst hb7 hres
  go_wp2_with fail
  refine (num_any _ _).mono ?_
  rintro e w' ⟨rfl, hw⟩
  obtain rfl := hw.symm
  go_wp2_with fail
  refine (num_any _ _).mono ?_
  rintro e w' ⟨rfl, hw⟩
  obtain rfl := hw.symm
  go_wp2_with fail
  have hlx : ml = mx := (unhide HL7).len.symm.trans (unhide HX7).len
  subst hlx
  refine (sameB_any al ax ml cl cx _ _ (unhide HL7) (unhide HX7)).mono ?_
  rintro e w8 ⟨rfl, k8, hw8⟩
  have hb8 : Below w7.heap.size w7 w8 := by rw [hw8]; exact bel_drewN (Below.refl _ _) _
  have HS8 := hide ((unhide HS7).keep hb8)
  have HB8 := hide ((unhide HB7).below hb8)
  have HA8 := hide ((unhide HA7).below hb8)
  clear hw8 hb8 HS7 HB7 HA7 HL7 HX7 hw
  go_wp2_with fail
  refine (same_any a6 a7 m6 c6 m7 c7 (fromBytesL bs).1 (fromBytesL bs).1 _ ((unhide HS8).sl ⟨a6, m6, c6, (fromBytesL bs).1⟩ (by simp)) ((unhide HS8).sl ⟨a7, m7, c7, (fromBytesL bs).1⟩ (by simp))).mono ?_
  rintro e w9 ⟨he, k9, hw9⟩
  have he' : e = .returned (.bool true) := by rw [he]; simp
  subst he'
  have hb9 : Below w8.heap.size w8 w9 := by rw [hw9]; exact bel_drewN (Below.refl _ _) _
  have HS9 := hide ((unhide HS8).keep hb9)
  have HB9 := hide ((unhide HB8).below hb9)
  have HA9 := hide ((unhide HA8).below hb9)
  clear hw9 hb9 HS8 HB8 HA8 he
  go_wp2_with fail
  refine (intact_any _ _ _ _ _ (unhide HS9).giv).mono ?_
  rintro e w10 ⟨rfl, k10, hw10⟩
  have hb10 : Below w9.heap.size w9 w10 := by rw [hw10]; exact bel_drewN (Below.refl _ _) _
  have HS10 := hide ((unhide HS9).keep hb10)
  have HB10 := hide ((unhide HB9).below hb10)
  have HA10 := hide ((unhide HA9).below hb10)
  clear hw10 hb10 HS9 HB9 HA9
  go_wp2_with fail
  refine (sameB_any _ a2 n2 cap2 c2 bs _ ((unhide HA10).pre (unhide HLen)) (unhide HB10)).mono ?_
  rintro e w11 ⟨rfl, k11, hw11⟩
  have hb11 : Below w10.heap.size w10 w11 := by rw [hw11]; exact bel_drewN (Below.refl _ _) _
  have HS11 := hide ((unhide HS10).keep hb11)
  have HA11 := hide ((unhide HA10).below hb11)
  clear hw11 hb11 HS10 HB10 HA10
  have q1 := ((unhide HA11).two (unhide HLen)).1
  have q2 := ((unhide HA11).two (unhide HLen)).2
  have q3 : (n2:Int) < ((n2 + 2 : Nat) : Int) := by omega
  have q4 : (n2:Int) + 1 < ((n2 + 2 : Nat) : Int) := by omega
  go_wp2
  go_ret
  exact ⟨rfl, (unhide HS11).bel⟩

theorem law_bytes8 : Try.prog.bytesOf 5 = 1 := by kernel_rfl
theorem law_cells8 : Try.prog.cellsOf 5 = 1 := by kernel_rfl
theorem arg_bytes {H : Type} {enc : TypeId × Value → H} {W : World} {a : Option Addr} {n c : Nat} {d : DataW H} {p : List MemPlace}
    (h : DataW.Trod enc Try.prog W 0 (fun _ => true) true 53 (.slice a n c) d p) (hz : ∀ el sp, d = .slice el sp → (el.length + sp.length) * Try.prog.bytesOf 5 ≤ reachBytes) :
    ∃ xs, SlB W a n c xs ∧ c ≤ 140737488351232 ∧ (a = none → n = 0 ∧ c = 0) := by
  obtain ⟨fuel, hf⟩ := h
  rcases open_ints Try.underlying53 Try.underlying5 law_cells8 hf with ⟨hcs, _⟩ | ⟨x, l, k, zs, hcs, _, hl, hm, hzl, hx, hcell, hwz⟩
  · simp [Value.cells] at hcs
    obtain ⟨rfl, rfl, rfl⟩ := hcs
    exact ⟨[], slB_nil _, Nat.zero_le _, fun _ => ⟨rfl, rfl⟩⟩
  · simp [Value.cells] at hcs
    obtain ⟨rfl, rfl, rfl⟩ := hcs
    have hzl' : zs.length = c := by simpa using hzl
    have hd : d = .slice (lits .u8 (zs.take n)) (lits .u8 (zs.drop n)) := by injection hx
    have hb := hz _ _ hd
    have hlen : (lits (H := H) .u8 (zs.take n)).length + (lits (H := H) .u8 (zs.drop n)).length = c := by
      simp [lits]; omega
    rw [hlen, law_bytes8] at hb
    unfold reachBytes at hb
    have hr : ∀ i, i < c → 0 ≤ zs.getD i 0 ∧ zs.getD i 0 ≤ 255 := by
      intro i hi
      have hm2 : zs.getD i 0 ∈ zs := by
        have : zs.getD i 0 = zs[i]'(by omega) := by simp [List.getD, show i < zs.length from by omega]
        rw [this]; exact List.getElem_mem _
      exact bounds_u8 (hwz _ hm2)
    refine ⟨(zs.take n).map Int.toNat, ?_, by omega, fun h => by cases h⟩
    · refine ⟨by simp; omega, hl, ?_, ?_⟩
      · intro y hy
        obtain ⟨z, hz1, rfl⟩ := List.mem_map.1 hy
        have := bounds_u8 (hwz z (List.mem_of_mem_take hz1))
        omega
      by_cases h0 : n = 0
      · left; subst h0; simp
      · right
        obtain ⟨b, off, spot⟩ := x
        have c0 := hcell 0 (by omega)
        have hspot : spot = none := by simpa [Addr.add] using World.cell?_spot c0
        subst hspot
        refine ⟨b, off, rfl, ?_⟩
        intro i hi
        have hi' : i < n := by simp at hi; omega
        have e : (⟨b, off, none⟩ : Addr).add i = ⟨b, off + i, none⟩ := by unfold Addr.add; split <;> simp_all
        have := hcell i (by omega)
        rw [e] at this
        rw [this]
        have r := hr i (by omega)
        have e2 : ((zs.take n).map Int.toNat).getD i 0 = (zs.getD i 0).toNat := by
          simp [List.getD, hi', show i < zs.length from by omega]
        rw [e2]
        congr 2
        omega

set_option maxRecDepth 100000 in
theorem natBytes_lifted (os : Os) (started : os.Started) (H : Type) (enc : TypeId × Value → H) :
    ReturnsInHanded {} Try.checked os 5 .any (Rows.natBytesSpec.pre6 enc Try.prog Try.f5 Rows.natBytesRow.domain false) (Rows.natBytesSpec.post enc Try.prog Try.f5 false true false false) := by
  refine returnsInHanded_of_change_sized (C := Try.checked) law_own started (by kernel_rfl) Try.func5
    (ChangeSpec.witness6 (enc := enc) (C := Try.checked) false ⟨#[], #[.slice none 0 0, .slice none 0 0], []⟩ 8 (by kernel_rfl) (by kernel_rfl) (by kernel_rfl) (by kernel_rfl)) ?_
  intro W base args ds gs before hval0 hW hcnd hsz _
  have hval : ∀ (j : Nat) t v, Try.f5.params[j]? = some t → args[j]? = some v → Value.okWide Try.prog W .any base t v := hval0
  have hW' := hW
  obtain ⟨p, q, hA0, hV, rfl, hfz, hnd⟩ := hW
  have hA : DataW.TrodAll enc Try.prog W 0 (fun _ => true) true Try.f5.params.toList args.toList ds p := hA0
  rw [Try.params5] at hA hval hsz
  have r := hA
  obtain ⟨v0, vs0, d0, ds0, p0, q0, hargs, rfl, rfl, h0, r0⟩ := trodAll_cons hA
  obtain ⟨v1, vs1, d1, ds1, p1, q1, rfl, rfl, rfl, h1, r1⟩ := trodAll_cons r0
  obtain ⟨rfl, rfl, rfl⟩ := trodAll_nil r1
  obtain rfl : args = #[v0, v1] := by cases args; simp_all
  obtain ⟨rfl, rfl⟩ := trodVars_none hV
  obtain ⟨a0, n0, c0, rfl⟩ := okWide_slice Try.underlying23 (hval 0 23 v0 rfl rfl)
  have k0 := h0
  have lt0 : ∀ x ∈ p0, x.block < W.heap.size := by obtain ⟨m, hm⟩ := k0; exact DataW.trod_lt m _ _ _ hm
  obtain ⟨x0, s0, o0, b0⟩ := arg_limbs h0 (fun el sp e => by subst e; exact sized_slice (j := 0) hsz rfl rfl Try.underlying23)
  obtain ⟨a1, n1, c1, rfl⟩ := okWide_slice Try.underlying53 (hval 1 53 v1 rfl rfl)
  have k1 := h1
  have lt1 : ∀ x ∈ p1, x.block < W.heap.size := by obtain ⟨m, hm⟩ := k1; exact DataW.trod_lt m _ _ _ hm
  obtain ⟨x1, s1, b1, e1⟩ := arg_bytes h1 (fun el sp e => by subst e; exact sized_slice (j := 1) hsz rfl rfl Try.underlying53)
  clear hA0 hval0
  refine (natBytes_walk a0 a1 n0 c0 n1 c1 x0 x1 W s0 s1 o0 b0 b1 e1).mono fun e W' ⟨he, bel⟩ => ?_
  subst he
  exact ⟨_, rfl, _, _, _, [], _, [], hW', trodAll_mk1 (shut_bool Try.underlying4 _), (trodAll_cons_mk (Below.trod law_laid (by kernel_rfl) (of_decide_eq_true (by kernel_rfl)) k0 bel lt0) (trodAll_cons_mk (Below.trod law_laid (by kernel_rfl) (of_decide_eq_true (by kernel_rfl)) k1 bel lt1) trodAll_mk0)), rfl, bel.frame _, fun h => by cases h⟩

theorem natBytes_holds : Rows.NatBytesSaid :=
  OpenClaim.holds_of_wide 5 Try.f5 rfl rfl rfl rfl rfl rfl rfl ⟨rfl, rfl, rfl, rfl, rfl⟩ rfl rfl rfl rfl rfl (by kernel_rfl) Try.func5 (by kernel_rfl)
    (of_decide_eq_true (by kernel_rfl)) (by unfold Func.isWrapper; first | (rw [if_pos (by decide +kernel)]; kernel_rfl) | (rw [if_neg (by decide +kernel)]; exact ⟨rfl, rfl⟩))
    (fun os started H enc _ => natBytes_lifted os started H enc)
#print axioms natBytes_holds
end Go.Proofs.Ytpnhmaenmmelnaa
