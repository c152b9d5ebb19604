/- Va4 -/
import Derived.Test.YtiadccaaoenccaaDoorVa3
import Derived.Test.YtiadccaaoenccaaDoorVa2
namespace Go.Proofs.YtiadccaaoenccaaDoor
open Go.RowKit Go.Deep
set_option linter.unusedVariables false
set_option linter.unusedSimpArgs false
theorem GrO.chg {S : Nat → Prop} {w wr w1 : World} {v : Value} {qs : List On} (h : GrO S w wr v qs) (c : Chg S wr w1) (hw : ∀ k, S k → k < w.heap.size) : GrO S w w1 v qs :=
  ⟨ownsRow_chg h.own c (fun k e e2 => by have := (own_ge h.own k e).1; have := hw k e2; omega), fun q hq => (h.each q hq).st c (fun k hk => (h.far q hq k hk).2), h.far, h.bel.trans c⟩
theorem own_low {w : World} {base low : Nat} {e : TypeId} {size : Nat} {v : Value} {n : Nat} {xs : List Value} (h : w.ownsRow base e size v n xs) (hl : low ≤ base) : w.ownsRow low e size v n xs := by
  refine ⟨h.1, h.2.imp id ?_⟩
  rintro ⟨g, cap, cur, q1, q2, q⟩
  exact ⟨g, cap, cur, q1, Nat.le_trans hl q2, q⟩
theorem sli_own {w : World} {base : Nat} {v : Value} {n : Nat} {xs : List Int} (h : w.ownsRow base 3 1 v n (valsI xs)) (hl : xs.length = n) : ∃ a c, v = .slice a n c ∧ SlI w a n c xs := by
  rcases h.2 with ⟨e, hk⟩ | ⟨g, cap, cur, e, q⟩
  · have hn : n = 0 := by first | exact hk | simpa using hk
    subst hn
    obtain rfl := List.length_eq_zero_iff.1 hl
    exact ⟨none, 0, e, SlI.nil w⟩
  · rw [e] at h
    exact ⟨_, _, e, sl_of_ownI h⟩
theorem tape_set3 {w : World} {X : Nat} {v0 v1 v2 : Value} (h : BoxP w X [v0, v1, v2]) (u0 u1 u2 : Value) :
    BoxP (((w.setCell ⟨X, 0, none⟩ u0).setCell ⟨X, 1, none⟩ u1).setCell ⟨X, 2, none⟩ u2) X [u0, u1, u2] ∧ Chg (fun j => j = X) w (((w.setCell ⟨X, 0, none⟩ u0).setCell ⟨X, 1, none⟩ u1).setCell ⟨X, 2, none⟩ u2) :=
  ⟨((h.put 0 u0).put 1 u1).put 2 u2, ((Chg.of_set (S := fun j => j = X) _ X 0 u0 rfl).trans (Chg.of_set _ X 1 u1 rfl)).trans (Chg.of_set _ X 2 u2 rfl)⟩
def CmA (w : World) (ii : Int) (os : List On) (ys : List Int) (e : Ending) (w' : World) : Prop := ∃ a c b d qs, e = .returned (tapV ii a os.length c b ys.length d) ∧ GrO (fun j => j < w.heap.size) w w' (.slice a os.length c) qs ∧ qs.map conO = os.map conO ∧ w'.ownsRow w.heap.size 3 1 (.slice b ys.length d) ys.length (valsI ys) ∧ Below w.heap.size w w'
set_option maxRecDepth 100000 in
set_option maxHeartbeats 32000000 in
theorem ecomposed_any (io : Int) (oa : Option Addr) (on oc : Nat) (oso : List On) (ob : Option Addr) (om od : Nat) (yso : List Int) (ii : Int) (ia : Option Addr) (n ic : Nat) (osi : List On) (ib : Option Addr) (m id : Nat) (ysi : List Int) (w : World)
    (h1 : SlO w oa on oc oso) (h2 : SlI w ob om od yso) (h3 : SlO w ia n ic osi) (h4 : SlI w ib m id ysi) (ko : TpOk io oso yso) (ki : TpOk ii osi ysi) (hio : io = (m : Int)) (hnn : n + on ≤ 2048) :
    Calls Tryd.prog 21 #[tapV io oa on oc ob om od, tapV ii ia n ic ib m id] w (CmA w ii (cpO osi oso ysi) (cpY n yso)) := by
  have l1 := h1.len
  have l2 := h2.len
  have l3 := h3.len
  have l4 := h4.len
  have hm2 : m ≤ 64 := by have := ki.ly; omega
  have hom : om ≤ 64 := by have := ko.ly; omega
  obtain ⟨wo, hwo⟩ : ∃ x, w.alloc (.cells #[.int .i64 io, .slice oa on oc, .slice ob om od] 25) = x := ⟨_, rfl⟩
  have bo : BoxP wo w.heap.size [.int .i64 io, .slice oa on oc, .slice ob om od] := by rw [← hwo]; exact BoxP.made _ _ _
  have hbo : Below w.heap.size w wo := by rw [← hwo]; exact (Below.refl _ _).alloc (Nat.le_refl _) _
  obtain ⟨wi, hwi⟩ : ∃ x, wo.alloc (.cells #[.int .i64 ii, .slice ia n ic, .slice ib m id] 25) = x := ⟨_, rfl⟩
  have bi : BoxP wi wo.heap.size [.int .i64 ii, .slice ia n ic, .slice ib m id] := by rw [← hwi]; exact BoxP.made _ _ _
  have hbi : Below wo.heap.size wo wi := by rw [← hwi]; exact (Below.refl _ _).alloc (Nat.le_refl _) _
  obtain ⟨wR, hwR⟩ : ∃ x, wi.alloc (.cells #[.int .i64 0, .slice none 0 0, .slice none 0 0] 25) = x := ⟨_, rfl⟩
  have bR : BoxP wR wi.heap.size [.int .i64 0, .slice none 0 0, .slice none 0 0] := by rw [← hwR]; exact BoxP.made _ _ _
  have hbR : Below wi.heap.size wi wR := by rw [← hwR]; exact (Below.refl _ _).alloc (Nat.le_refl _) _
  have hB2 := hbo.trans (hbi.mono hbo.size)
  have hB3 := hB2.trans (hbR.mono hB2.size)
  have HB := hide hB3
  have HBO := hide ((bo.below hbi).below hbR)
  have HBI := hide (bi.below hbR)
  have HBR := hide bR
  have HLE := hide (And.intro hbo.size (And.intro hbi.size (And.intro bo.lt (And.intro bi.lt bR.lt))))
  have HOO := hide (And.intro (h1.below hB3) (h2.below hB3))
  have HII := hide (And.intro (h3.below hB3) (h4.below hB3))
  have HKO := hide ko
  have HKI := hide ki
  have HL := hide (And.intro l1 (And.intro l2 (And.intro l3 l4)))
  have HIO := hide hio
  have a0 := (((bo.below hbi).below hbR).all 0 _ rfl).1
  have b0 := ((bi.below hbR).all 0 _ rfl).1
  have a1 := (((bo.below hbi).below hbR).all 1 _ rfl).1
  have b1 := ((bi.below hbR).all 1 _ rfl).1
  have a2 := (((bo.below hbi).below hbR).all 2 _ rfl).1
  have b2 := ((bi.below hbR).all 2 _ rfl).1
  unfold tapV
  clear bo hbo bi hbi bR hbR hB2 hB3 h1 h2 h3 h4 ko ki l1 l2 l3 l4 hio
  go_enter Tryd.func21, Tryd.ntmps21
  repeat ((fail_if_success (with_reducible (show Code.wp _ _ _ _ (World.alloc wR (Obj.cells #[.int .i64 ii, .slice none 0 0, .slice none 0 0] _))))); (first | go_values | go_skip | go_guarded | go_step | go_upon | go_back))
  have bZ : BoxP (wR.alloc (.cells #[.int .i64 ii, .slice none 0 0, .slice none 0 0] 25)) wR.heap.size [.int .i64 ii, .slice none 0 0, .slice none 0 0] := BoxP.made _ _ _
  have hbZ : Below wR.heap.size wR (wR.alloc (.cells #[.int .i64 ii, .slice none 0 0, .slice none 0 0] 25)) := (Below.refl _ _).alloc (Nat.le_refl _) _
  generalize wR.alloc (.cells #[.int .i64 ii, .slice none 0 0, .slice none 0 0] 25) = W2 at *
  have m0 := a0
  have n0 := b0
  have m1 := a1
  have n1 := b1
  have m2 := a2
  have n2 := b2
  have a0 := (hbZ.cell (World.block_lt_of_cell? _ _ a0)).trans a0
  have a1 := (hbZ.cell (World.block_lt_of_cell? _ _ a1)).trans a1
  have a2 := (hbZ.cell (World.block_lt_of_cell? _ _ a2)).trans a2
  have b0 := (hbZ.cell (World.block_lt_of_cell? _ _ b0)).trans b0
  have b1 := (hbZ.cell (World.block_lt_of_cell? _ _ b1)).trans b1
  have b2 := (hbZ.cell (World.block_lt_of_cell? _ _ b2)).trans b2
  obtain ⟨X, hX⟩ : ∃ X, wR.heap.size = X := ⟨_, rfl⟩
  have HXlt := hide (show X < W2.heap.size from by have := bZ.lt; omega)
  rw [hX] at bZ ⊢
  have HX := hide hX
  obtain ⟨R, hR⟩ : ∃ R, wi.heap.size = R := ⟨_, rfl⟩
  have HR := hide hR
  rw [hR]
  have HBZ := hide hbZ
  have HG0 := hide (GrO.start (fun j => j = X) W2)
  have HBX := hide bZ
  have HBW := hide hbZ.size
  obtain ⟨i88, hi, hz0, hsi, hb⟩ := info_parts Tryd.info_op
  have HI := hide (And.intro hi (And.intro hz0 (And.intro hsi hb)))
  clear hbZ bZ hi hz0 hsi hb hX hR
  try go_wp2_with fail
  go_loopw [18] (fun kv wr => ∃ (k : Nat) (sv : Value) (qs : List On), k ≤ n ∧ kv = .int .i64 (k : Int) ∧ Hid (GrO (fun j => j = X) W2 wr sv qs) ∧ Hid (qs.map conO = (osi.take k).map conO) ∧ Hid (BoxP wr X [.int .i64 ii, sv, .slice none 0 0]) ∧ Hid (∀ q ∈ qs, ∀ j, nqB q.p j → W2.heap.size ≤ j)) (fun kv _ => n - (intOf kv).toNat)
  case atStart => exact ⟨0, .slice none 0 0, [], Nat.zero_le _, rfl, HG0, hide (by simp), HBX, hide (by intro q hq; cases hq)⟩
  case round =>
    obtain ⟨k, sv, qs, hk, rfl, HG, HC, HBK, HF⟩ := hrel
    have hbr : Below wR.heap.size wR wr := (unhide HBZ).trans ((unhide HG).bel.below (by have := unhide HBW; omega) (fun j hj e => by have := unhide HX; have := unhide HR; have := unhide HLE; omega))
    have a0 := (hbr.cell (World.block_lt_of_cell? _ _ m0)).trans m0
    have b0 := (hbr.cell (World.block_lt_of_cell? _ _ n0)).trans n0
    have a1 := (hbr.cell (World.block_lt_of_cell? _ _ m1)).trans m1
    have b1 := (hbr.cell (World.block_lt_of_cell? _ _ n1)).trans n1
    have a2 := (hbr.cell (World.block_lt_of_cell? _ _ m2)).trans m2
    have b2 := (hbr.cell (World.block_lt_of_cell? _ _ n2)).trans n2
    have hql : qs.length = k := by
      have := congrArg List.length (unhide HC)
      rw [List.length_map, List.length_map, List.length_take, (unhide HL).2.2.1] at this
      omega
    have HQL := hide hql
    clear hql
    obtain ⟨sa, sc, rfl, hsl⟩ := (unhide HG).slo
    have bX := unhide HBK
    by_cases hlt : k < n
    · have hlt' : (k : Int) < (n : Int) := by omega
      obtain ⟨b1, off, o, rfl, ho, O, hok⟩ := ((unhide HII).1.below hbr).at' hlt
      have hfew := con_few (unhide HKI) (List.mem_of_getElem? ho)
      obtain ⟨c0, c1, c2, c3, c4, c5, c6⟩ := O
      obtain ⟨W3, hW3⟩ : ∃ x, wr.alloc (.cells #[.int .i64 o.k, .int .i64 o.a, .int .i64 o.b, .int .i64 o.n, .bool o.p.g, .slice o.p.a o.p.n o.p.c, .slice o.p.b o.p.m o.p.d] 54) = x := ⟨_, rfl⟩
      have br : BoxP W3 wr.heap.size [.int .i64 o.k, .int .i64 o.a, .int .i64 o.b, .int .i64 o.n, .bool o.p.g, .slice o.p.a o.p.n o.p.c, .slice o.p.b o.p.m o.p.d] := by rw [← hW3]; exact BoxP.made _ _ _
      have b3 : Below wr.heap.size wr W3 := by rw [← hW3]; exact (Below.refl _ _).alloc (Nat.le_refl _) _
      have hd3 : Below wr.heap.size wr W3.drew := b3.trans ((Below.refl _ _).drew.mono b3.size)
      have K := ecopyOp_any o W3.drew (hok.below hd3) hfew.1 hfew.2
      unfold opV at K
      have HD := hide K
      have HO := hide ho
      have HG3 := hide ((unhide HG).below hd3)
      have HBX3 := hide (bX.below hd3)
      have HBO3 := hide (br.below (Below.refl _ _).drew)
      have HOL := hide (show ∀ j, (Value.slice sa qs.length sc).ownBlock = some j → W2.heap.size ≤ j ∧ j < wr.heap.size from fun j e => own_ge (unhide HG).own j e)
      have HSW := hide (show W2.heap.size ≤ wr.heap.size ∧ wr.heap.size ≤ W3.heap.size from ⟨(unhide HG).bel.size, b3.size⟩)
      have q0 := (br.all 0 _ rfl).1
      have q1 := (br.all 1 _ rfl).1
      have q2 := (br.all 2 _ rfl).1
      have q3 := (br.all 3 _ rfl).1
      have q4 := (br.all 4 _ rfl).1
      have q5 := (br.all 5 _ rfl).1
      have q6 := (br.all 6 _ rfl).1
      have e0 := ((bX.below b3).all 0 _ rfl).1
      have e1 := ((bX.below b3).all 1 _ rfl).1
      have e2 := ((bX.below b3).all 2 _ rfl).1
      clear K br b3 hd3 bX ho hok
      go_wp2_with fail
      have hHeld : (fun w' => w'.cell? ⟨X, 0, none⟩ = some (.int .i64 ii) ∧ w'.cell? ⟨X, 1, none⟩ = some (.slice sa qs.length sc) ∧ w'.cell? ⟨X, 2, none⟩ = some (.slice none 0 0) ∧ w'.cell? ⟨wr.heap.size, 0, none⟩ = some (.int .i64 o.k) ∧ w'.cell? ⟨wr.heap.size, 1, none⟩ = some (.int .i64 o.a) ∧ w'.cell? ⟨wr.heap.size, 2, none⟩ = some (.int .i64 o.b) ∧ w'.cell? ⟨wr.heap.size, 3, none⟩ = some (.int .i64 o.n) ∧ w'.cell? ⟨wr.heap.size, 4, none⟩ = some (.bool o.p.g) ∧ w'.cell? ⟨wr.heap.size, 5, none⟩ = some (.slice o.p.a o.p.n o.p.c) ∧ w'.cell? ⟨wr.heap.size, 6, none⟩ = some (.slice o.p.b o.p.m o.p.d)) W3.drew := ⟨e0, e1, e2, q0, q1, q2, q3, q4, q5, q6⟩
      refine anyTill_region (fun w' => w'.cell? ⟨X, 0, none⟩ = some (.int .i64 ii) ∧ w'.cell? ⟨X, 1, none⟩ = some (.slice sa qs.length sc) ∧ w'.cell? ⟨X, 2, none⟩ = some (.slice none 0 0) ∧ w'.cell? ⟨wr.heap.size, 0, none⟩ = some (.int .i64 o.k) ∧ w'.cell? ⟨wr.heap.size, 1, none⟩ = some (.int .i64 o.a) ∧ w'.cell? ⟨wr.heap.size, 2, none⟩ = some (.int .i64 o.b) ∧ w'.cell? ⟨wr.heap.size, 3, none⟩ = some (.int .i64 o.n) ∧ w'.cell? ⟨wr.heap.size, 4, none⟩ = some (.bool o.p.g) ∧ w'.cell? ⟨wr.heap.size, 5, none⟩ = some (.slice o.p.a o.p.n o.p.c) ∧ w'.cell? ⟨wr.heap.size, 6, none⟩ = some (.slice o.p.b o.p.m o.p.d)) 7 (by kernel_rfl) ?_
      refine anyTill_take (i := 0) (v := ?_) rfl rfl (by kernel_rfl) (by kernel_rfl) (by kernel_rfl) (by kernel_rfl) (fun _ _ _ h => h) (Or.inl ⟨by kernel_rfl, ?_⟩) (by assumption) ?_
      rotate_left 1
      · intro W hSw
        try dsimp only at hSw
        go_simp
        try with_reducible rfl
      refine anyTill_take (i := 1) (v := ?_) rfl rfl (by kernel_rfl) (by kernel_rfl) (by kernel_rfl) (by kernel_rfl) (fun _ _ _ h => h) (Or.inl ⟨by kernel_rfl, ?_⟩) (by assumption) ?_
      rotate_left 1
      · intro W hSw
        try dsimp only at hSw
        go_simp
        try with_reducible rfl
      refine anyTill_take (i := 2) (v := ?_) rfl rfl (by kernel_rfl) (by kernel_rfl) (by kernel_rfl) (by kernel_rfl) (fun _ _ _ h => h) (Or.inl ⟨by kernel_rfl, ?_⟩) (by assumption) ?_
      rotate_left 1
      · intro W hSw
        try dsimp only at hSw
        go_simp
        try with_reducible rfl
      clear hHeld
      refine anyTill_one (i := 3) (by kernel_rfl) rfl (by kernel_rfl) (fun K hK => ?_)
      go_simp
      refine (unhide HD).mono ?_
      rintro _ w4 ⟨q, rfl, hek, hcon, hnq, hfr, b4⟩
      clear hek
      have bX4 := (unhide HBX3).below b4
      have bO4 := (unhide HBO3).below b4
      have hHeld : (fun w' => w'.cell? ⟨X, 0, none⟩ = some (.int .i64 ii) ∧ w'.cell? ⟨X, 1, none⟩ = some (.slice sa qs.length sc) ∧ w'.cell? ⟨X, 2, none⟩ = some (.slice none 0 0) ∧ w'.cell? ⟨wr.heap.size, 0, none⟩ = some (.int .i64 o.k) ∧ w'.cell? ⟨wr.heap.size, 1, none⟩ = some (.int .i64 o.a) ∧ w'.cell? ⟨wr.heap.size, 2, none⟩ = some (.int .i64 o.b) ∧ w'.cell? ⟨wr.heap.size, 3, none⟩ = some (.int .i64 o.n) ∧ w'.cell? ⟨wr.heap.size, 4, none⟩ = some (.bool o.p.g) ∧ w'.cell? ⟨wr.heap.size, 5, none⟩ = some (.slice o.p.a o.p.n o.p.c) ∧ w'.cell? ⟨wr.heap.size, 6, none⟩ = some (.slice o.p.b o.p.m o.p.d)) w4 := ⟨(bX4.all 0 _ rfl).1, (bX4.all 1 _ rfl).1, (bX4.all 2 _ rfl).1, (bO4.all 0 _ rfl).1, (bO4.all 1 _ rfl).1, (bO4.all 2 _ rfl).1, (bO4.all 3 _ rfl).1, (bO4.all 4 _ rfl).1, (bO4.all 5 _ rfl).1, (bO4.all 6 _ rfl).1⟩
      have HG4 := hide ((unhide HG3).below b4)
      have HQ4 := hide (And.intro hcon (And.intro hnq hfr))
      have HBX4 := hide bX4
      have HBO4 := hide bO4
      have HB4 := hide b4
      clear HD HBX3 HBO3 hcon hnq hfr b4 bX4 bO4 
      unfold opV
      refine hK _ _ (fun _ => hHeld) ?_
      clear hK K hHeld
      refine anyTill_one (i := 4) (by kernel_rfl) rfl (by kernel_rfl) (fun K hK => ?_)
      go_simp
      have hal : Below w4.heap.size w4 (w4.alloc (.cells #[.int .i64 q.k, .int .i64 q.a, .int .i64 q.b, .int .i64 q.n, .bool q.p.g, .slice q.p.a q.p.n q.p.c, .slice q.p.b q.p.m q.p.d] 54)) := (Below.refl _ _).alloc (Nat.le_refl _) _
      have bX5 := (unhide HBX4).below hal
      have bO5 := (unhide HBO4).below hal
      have hHeld : (fun w' => w'.cell? ⟨X, 0, none⟩ = some (.int .i64 ii) ∧ w'.cell? ⟨X, 1, none⟩ = some (.slice sa qs.length sc) ∧ w'.cell? ⟨X, 2, none⟩ = some (.slice none 0 0) ∧ w'.cell? ⟨wr.heap.size, 0, none⟩ = some (.int .i64 o.k) ∧ w'.cell? ⟨wr.heap.size, 1, none⟩ = some (.int .i64 o.a) ∧ w'.cell? ⟨wr.heap.size, 2, none⟩ = some (.int .i64 o.b) ∧ w'.cell? ⟨wr.heap.size, 3, none⟩ = some (.int .i64 o.n) ∧ w'.cell? ⟨wr.heap.size, 4, none⟩ = some (.bool o.p.g) ∧ w'.cell? ⟨wr.heap.size, 5, none⟩ = some (.slice o.p.a o.p.n o.p.c) ∧ w'.cell? ⟨wr.heap.size, 6, none⟩ = some (.slice o.p.b o.p.m o.p.d)) (w4.alloc (.cells #[.int .i64 q.k, .int .i64 q.a, .int .i64 q.b, .int .i64 q.n, .bool q.p.g, .slice q.p.a q.p.n q.p.c, .slice q.p.b q.p.m q.p.d] 54)) := ⟨(bX5.all 0 _ rfl).1, (bX5.all 1 _ rfl).1, (bX5.all 2 _ rfl).1, (bO5.all 0 _ rfl).1, (bO5.all 1 _ rfl).1, (bO5.all 2 _ rfl).1, (bO5.all 3 _ rfl).1, (bO5.all 4 _ rfl).1, (bO5.all 5 _ rfl).1, (bO5.all 6 _ rfl).1⟩
      refine hK _ _ (fun _ => hHeld) ?_
      clear hK K hHeld
      have how : (w4.alloc (.cells #[.int .i64 q.k, .int .i64 q.a, .int .i64 q.b, .int .i64 q.n, .bool q.p.g, .slice q.p.a q.p.n q.p.c, .slice q.p.b q.p.m q.p.d] 54)).ownsRow W2.heap.size 54 7 (.slice sa qs.length sc) qs.length (celO qs) := ((unhide HG4).below hal).own
      have hone : ∀ u ∈ ([.int .i64 q.k, .int .i64 q.a, .int .i64 q.b, .int .i64 q.n, .bool q.p.g, .slice q.p.a q.p.n q.p.c, .slice q.p.b q.p.m q.p.d] : List Value), u.oneCell' = true := by intro u hu; simp at hu; rcases hu with rfl | rfl | rfl | rfl | rfl | rfl | rfl <;> rfl
      have hmx : qs.length + 1 ≤ maxLen := by have := unhide HQL; unfold maxLen; omega
      have hby : (qs.length + 1) * 88 ≤ 140737488355328 := by have := unhide HQL; omega
      have hlw : W2.heap.size ≤ w4.heap.size := (unhide HG4).bel.size
      refine anyTill_one (i := 5) (by kernel_rfl) rfl (by kernel_rfl) (fun K hK => ?_)
      refine wp_append_lies _ _ _ 22 rfl W2.heap.size 54 i88 (.agg #[.int .i64 0, .int .i64 0, .int .i64 0, .int .i64 0, .bool false, .slice none 0 0, .slice none 0 0]) 7 88 Tryd.underlying22 (unhide HI).1 (unhide HI).2.1 (unhide HI).2.2.1 (unhide HI).2.2.2 rfl (by decide) (.slice sa qs.length sc) qs.length (celO qs) rfl how ⟨w4.heap.size, 0, none⟩ 1 1 [.int .i64 q.k, .int .i64 q.a, .int .i64 q.b, .int .i64 q.n, .bool q.p.g, .slice q.p.a q.p.n q.p.c, .slice q.p.b q.p.m q.p.d] rfl rfl (World.news_of_block (alloc_block _ _)) hone (by decide) hmx hby (by simp <;> omega) (w4.heap.size + 1) (by simp) ?_
      intro g5 cap5 w6 hown hgrow hat hlt6
      have hcg : Chg (fun j => (Value.slice sa qs.length sc).ownBlock = some j) (w4.alloc (.cells #[.int .i64 q.k, .int .i64 q.a, .int .i64 q.b, .int .i64 q.n, .bool q.p.g, .slice q.p.a q.p.n q.p.c, .slice q.p.b q.p.m q.p.d] 54)) w6 := ⟨hgrow.os, hgrow.tape, hgrow.output, hgrow.size, fun j hj hs => hgrow.block j hj (fun e => hs e.symm)⟩
      have hnX : ¬ (Value.slice sa qs.length sc).ownBlock = some X := fun e => by have h1 := (unhide HOL _ e).1; have h2 := unhide HXlt; omega
      have hnY : ¬ (Value.slice sa qs.length sc).ownBlock = some wr.heap.size := fun e => by have h1 := (unhide HOL _ e).2; omega
      have bX6 := bX5.chg hcg hnX
      have bO6 := bO5.chg hcg hnY
      have hHeld : (fun w' => w'.cell? ⟨X, 0, none⟩ = some (.int .i64 ii) ∧ w'.cell? ⟨X, 1, none⟩ = some (.slice sa qs.length sc) ∧ w'.cell? ⟨X, 2, none⟩ = some (.slice none 0 0) ∧ w'.cell? ⟨wr.heap.size, 0, none⟩ = some (.int .i64 o.k) ∧ w'.cell? ⟨wr.heap.size, 1, none⟩ = some (.int .i64 o.a) ∧ w'.cell? ⟨wr.heap.size, 2, none⟩ = some (.int .i64 o.b) ∧ w'.cell? ⟨wr.heap.size, 3, none⟩ = some (.int .i64 o.n) ∧ w'.cell? ⟨wr.heap.size, 4, none⟩ = some (.bool o.p.g) ∧ w'.cell? ⟨wr.heap.size, 5, none⟩ = some (.slice o.p.a o.p.n o.p.c) ∧ w'.cell? ⟨wr.heap.size, 6, none⟩ = some (.slice o.p.b o.p.m o.p.d)) w6 := ⟨(bX6.all 0 _ rfl).1, (bX6.all 1 _ rfl).1, (bX6.all 2 _ rfl).1, (bO6.all 0 _ rfl).1, (bO6.all 1 _ rfl).1, (bO6.all 2 _ rfl).1, (bO6.all 3 _ rfl).1, (bO6.all 4 _ rfl).1, (bO6.all 5 _ rfl).1, (bO6.all 6 _ rfl).1⟩
      have hf6 := (bX6.all 1 _ rfl).2
      have hc6 := (bX6.all 1 _ rfl).1
      have HG6 := hide ((unhide HG3).app (q := q) (unhide HB4) (unhide HQ4).2.1 (fun j hj => by
        have h1 := (unhide HQ4).2.2 j hj
        have h2 := unhide HSW
        have h3 := unhide HXlt
        have h4 := unhide HR
        have h5 := unhide HX
        have h6 := unhide HLE
        exact ⟨h1, by have h7 : W3.drew.heap.size = W3.heap.size := rfl; rintro rfl; omega⟩) hgrow hown hat (by simp))
      have HG7 := hide ((unhide HG6).set (X := X) (unhide HXlt) rfl 1 (.slice (some ⟨g5, 0, none⟩) (qs.length + 1) cap5))
      have HBX7 := hide (bX6.put 1 (.slice (some ⟨g5, 0, none⟩) (qs.length + 1) cap5))
      have HF7 := hide (show ∀ p ∈ qs ++ [q], ∀ j, nqB p.p j → W2.heap.size ≤ j from fun p hp j hj => by
        rcases List.mem_append.1 hp with hp | hp
        · exact unhide HF p hp j hj
        · obtain rfl := List.mem_singleton.1 hp
          have h1 := (unhide HQ4).2.2 j hj
          have h2 := unhide HSW
          have h7 : W3.drew.heap.size = W3.heap.size := rfl
          omega)
      have HC7 := hide (show (qs ++ [q]).map conO = (osi.take (k + 1)).map conO from by
        rw [List.map_append, unhide HC, List.take_add_one, unhide HO]
        simp [(unhide HQ4).1])
      clear hown hgrow hat hlt6 hcg hnX hnY bX6 bO6 bX5 bO5 how hal 
      refine hK _ _ (fun _ => hHeld) ?_
      clear hK K
      refine anyTill_one (i := 6) (by kernel_rfl) rfl (by kernel_rfl) (fun K hK => ?_)
      go_simp
      refine hK _ _ (fun _ => hHeld) ?_
      clear hK K hHeld
      refine anyTill_one (i := 7) (by kernel_rfl) rfl (by kernel_rfl) (fun K hK => ?_)
      go_simp
      refine hK _ _ (fun h => absurd rfl h) ?_
      clear hK K
      refine anyTill_done (by kernel_rfl) ?_
      clear hf6 hc6
      go_wp2_with fail
      exact ⟨⟨k + 1, _, qs ++ [q], by omega, by (first | rfl | go_num), HG7, HC7, HBX7, HF7⟩, by simp [intOf]; omega⟩
    · obtain rfl : n = k := by omega
      have hlt' : ¬ (n : Int) < (n : Int) := by omega
      clear hlt
      try go_wp2_with fail
      clear a0 a1 a2 b0 b1 b2
      have hw1 : W2.heap.size ≤ wr.heap.size := (unhide HG).bel.size
      go_loopw [33] (fun kv w2 => ∃ (k : Nat) (sv : Value) (qs : List On), k ≤ on ∧ kv = .int .i64 (k : Int) ∧ Hid (GrO (fun j => j = X) W2 w2 sv qs) ∧ Hid (qs.map conO = (osi ++ (oso.take k).map (bhO n ysi)).map conO) ∧ Hid (BoxP w2 X [.int .i64 ii, sv, .slice none 0 0]) ∧ Hid (∀ q ∈ qs, ∀ j, nqB q.p j → W2.heap.size ≤ j)) (fun kv _ => on - (intOf kv).toNat)
      case atStart => exact ⟨0, _, qs, Nat.zero_le _, rfl, HG, hide (by rw [unhide HC, List.take_of_length_le (by have := (unhide HL).2.2.1; omega)]; simp), HBK, HF⟩
      case round =>
        obtain ⟨k, sv, qs, hk, rfl, HG, HC, HBK, HF⟩ := hrel
        have hbr : Below wR.heap.size wR wr := (unhide HBZ).trans ((unhide HG).bel.below (by have := unhide HBW; omega) (fun j hj e => by have := unhide HX; have := unhide HR; have := unhide HLE; omega))
        have a0 := (hbr.cell (World.block_lt_of_cell? _ _ m0)).trans m0
        have b0 := (hbr.cell (World.block_lt_of_cell? _ _ n0)).trans n0
        have a1 := (hbr.cell (World.block_lt_of_cell? _ _ m1)).trans m1
        have b1 := (hbr.cell (World.block_lt_of_cell? _ _ n1)).trans n1
        have a2 := (hbr.cell (World.block_lt_of_cell? _ _ m2)).trans m2
        have b2 := (hbr.cell (World.block_lt_of_cell? _ _ n2)).trans n2
        have hql : qs.length = n + k := by
          have := congrArg List.length (unhide HC)
          rw [List.length_map, List.length_map, List.length_append, List.length_map, List.length_take, (unhide HL).2.2.1, (unhide HL).1] at this
          omega
        have HQL := hide hql
        clear hql
        obtain ⟨sa, sc, rfl, hsl⟩ := (unhide HG).slo
        have bX := unhide HBK
        by_cases hlt : k < on
        · have hlt' : (k : Int) < (on : Int) := by omega
          obtain ⟨b1, off, o, rfl, ho, O, hok⟩ := ((unhide HOO).1.below hbr).at' hlt
          have hfew := con_few (unhide HKO) (List.mem_of_getElem? ho)
          have bIn := (unhide HBI).below hbr
          have hop := (unhide HKO).op k o ho
          have hysi := (unhide HII).2.below hbr
          have HOP := hide (And.intro hop hysi)
          clear hop hysi
          obtain ⟨c0, c1, c2, c3, c4, c5, c6⟩ := O
          obtain ⟨W3, hW3⟩ : ∃ x, wr.alloc (.cells #[.int .i64 o.k, .int .i64 o.a, .int .i64 o.b, .int .i64 o.n, .bool o.p.g, .slice o.p.a o.p.n o.p.c, .slice o.p.b o.p.m o.p.d] 54) = x := ⟨_, rfl⟩
          have br : BoxP W3 wr.heap.size [.int .i64 o.k, .int .i64 o.a, .int .i64 o.b, .int .i64 o.n, .bool o.p.g, .slice o.p.a o.p.n o.p.c, .slice o.p.b o.p.m o.p.d] := by rw [← hW3]; exact BoxP.made _ _ _
          have b3 : Below wr.heap.size wr W3 := by rw [← hW3]; exact (Below.refl _ _).alloc (Nat.le_refl _) _
          have hd3 : Below wr.heap.size wr W3.drew := b3.trans ((Below.refl _ _).drew.mono b3.size)
          have K := ebehind_any o io k ii ia n ic ib m id ysi W3.drew (hok.below hd3) hfew.1 hfew.2 ((unhide HOP).2.below hd3) (by omega) (unhide HOP).1 (by omega) (unhide HIO) hm2
          unfold opV at K
          unfold tapV at K
          have HD := hide K
          have HO := hide ho
          have HG3 := hide ((unhide HG).below hd3)
          have HBX3 := hide (bX.below hd3)
          have HBO3 := hide (br.below (Below.refl _ _).drew)
          have HEX0 := hide (bIn.below hd3)
          have HOL := hide (show ∀ j, (Value.slice sa qs.length sc).ownBlock = some j → W2.heap.size ≤ j ∧ j < wr.heap.size from fun j e => own_ge (unhide HG).own j e)
          have HSW := hide (show W2.heap.size ≤ wr.heap.size ∧ wr.heap.size ≤ W3.heap.size from ⟨(unhide HG).bel.size, b3.size⟩)
          have q0 := (br.all 0 _ rfl).1
          have q1 := (br.all 1 _ rfl).1
          have q2 := (br.all 2 _ rfl).1
          have q3 := (br.all 3 _ rfl).1
          have q4 := (br.all 4 _ rfl).1
          have q5 := (br.all 5 _ rfl).1
          have q6 := (br.all 6 _ rfl).1
          have e0 := ((bX.below b3).all 0 _ rfl).1
          have e1 := ((bX.below b3).all 1 _ rfl).1
          have e2 := ((bX.below b3).all 2 _ rfl).1
          have g0_0 := ((bIn.below b3).all 0 _ rfl).1
          have g0_1 := ((bIn.below b3).all 1 _ rfl).1
          have g0_2 := ((bIn.below b3).all 2 _ rfl).1
          clear K br b3 hd3 bX ho hok
          go_wp2_with fail
          have hHeld : (fun w' => w'.cell? ⟨X, 0, none⟩ = some (.int .i64 ii) ∧ w'.cell? ⟨X, 1, none⟩ = some (.slice sa qs.length sc) ∧ w'.cell? ⟨X, 2, none⟩ = some (.slice none 0 0) ∧ w'.cell? ⟨wr.heap.size, 0, none⟩ = some (.int .i64 o.k) ∧ w'.cell? ⟨wr.heap.size, 1, none⟩ = some (.int .i64 o.a) ∧ w'.cell? ⟨wr.heap.size, 2, none⟩ = some (.int .i64 o.b) ∧ w'.cell? ⟨wr.heap.size, 3, none⟩ = some (.int .i64 o.n) ∧ w'.cell? ⟨wr.heap.size, 4, none⟩ = some (.bool o.p.g) ∧ w'.cell? ⟨wr.heap.size, 5, none⟩ = some (.slice o.p.a o.p.n o.p.c) ∧ w'.cell? ⟨wr.heap.size, 6, none⟩ = some (.slice o.p.b o.p.m o.p.d) ∧ w'.cell? ⟨wo.heap.size, 0, none⟩ = some (.int .i64 ii) ∧ w'.cell? ⟨wo.heap.size, 1, none⟩ = some (.slice ia n ic) ∧ w'.cell? ⟨wo.heap.size, 2, none⟩ = some (.slice ib m id)) W3.drew := ⟨e0, e1, e2, q0, q1, q2, q3, q4, q5, q6, g0_0, g0_1, g0_2⟩
          refine anyTill_region (fun w' => w'.cell? ⟨X, 0, none⟩ = some (.int .i64 ii) ∧ w'.cell? ⟨X, 1, none⟩ = some (.slice sa qs.length sc) ∧ w'.cell? ⟨X, 2, none⟩ = some (.slice none 0 0) ∧ w'.cell? ⟨wr.heap.size, 0, none⟩ = some (.int .i64 o.k) ∧ w'.cell? ⟨wr.heap.size, 1, none⟩ = some (.int .i64 o.a) ∧ w'.cell? ⟨wr.heap.size, 2, none⟩ = some (.int .i64 o.b) ∧ w'.cell? ⟨wr.heap.size, 3, none⟩ = some (.int .i64 o.n) ∧ w'.cell? ⟨wr.heap.size, 4, none⟩ = some (.bool o.p.g) ∧ w'.cell? ⟨wr.heap.size, 5, none⟩ = some (.slice o.p.a o.p.n o.p.c) ∧ w'.cell? ⟨wr.heap.size, 6, none⟩ = some (.slice o.p.b o.p.m o.p.d) ∧ w'.cell? ⟨wo.heap.size, 0, none⟩ = some (.int .i64 ii) ∧ w'.cell? ⟨wo.heap.size, 1, none⟩ = some (.slice ia n ic) ∧ w'.cell? ⟨wo.heap.size, 2, none⟩ = some (.slice ib m id)) 8 (by kernel_rfl) ?_
          refine anyTill_take (i := 0) (v := ?_) rfl rfl (by kernel_rfl) (by kernel_rfl) (by kernel_rfl) (by kernel_rfl) (fun _ _ _ h => h) (Or.inl ⟨by kernel_rfl, ?_⟩) (by assumption) ?_
          rotate_left 1
          · intro W hSw
            try dsimp only at hSw
            go_simp
            try with_reducible rfl
          refine anyTill_take (i := 1) (v := ?_) rfl rfl (by kernel_rfl) (by kernel_rfl) (by kernel_rfl) (by kernel_rfl) (fun _ _ _ h => h) (Or.inl ⟨by kernel_rfl, ?_⟩) (by assumption) ?_
          rotate_left 1
          · intro W hSw
            try dsimp only at hSw
            go_simp
            try with_reducible rfl
          refine anyTill_take (i := 2) (v := ?_) rfl rfl (by kernel_rfl) (by kernel_rfl) (by kernel_rfl) (by kernel_rfl) (fun _ _ _ h => h) (Or.inl ⟨by kernel_rfl, ?_⟩) (by assumption) ?_
          rotate_left 1
          · intro W hSw
            try dsimp only at hSw
            go_simp
            try with_reducible rfl
          refine anyTill_take (i := 3) (v := ?_) rfl rfl (by kernel_rfl) (by kernel_rfl) (by kernel_rfl) (by kernel_rfl) (fun _ _ _ h => h) (Or.inl ⟨by kernel_rfl, ?_⟩) (by assumption) ?_
          rotate_left 1
          · intro W hSw
            try dsimp only at hSw
            go_simp
            try with_reducible rfl
          clear hHeld
          refine anyTill_one (i := 4) (by kernel_rfl) rfl (by kernel_rfl) (fun K hK => ?_)
          go_simp
          refine (unhide HD).mono ?_
          rintro _ w4 ⟨q, rfl, hcon, hnq, hfr, b4⟩
          have bX4 := (unhide HBX3).below b4
          have bO4 := (unhide HBO3).below b4
          have x4_0 := (unhide HEX0).below b4
          have hHeld : (fun w' => w'.cell? ⟨X, 0, none⟩ = some (.int .i64 ii) ∧ w'.cell? ⟨X, 1, none⟩ = some (.slice sa qs.length sc) ∧ w'.cell? ⟨X, 2, none⟩ = some (.slice none 0 0) ∧ w'.cell? ⟨wr.heap.size, 0, none⟩ = some (.int .i64 o.k) ∧ w'.cell? ⟨wr.heap.size, 1, none⟩ = some (.int .i64 o.a) ∧ w'.cell? ⟨wr.heap.size, 2, none⟩ = some (.int .i64 o.b) ∧ w'.cell? ⟨wr.heap.size, 3, none⟩ = some (.int .i64 o.n) ∧ w'.cell? ⟨wr.heap.size, 4, none⟩ = some (.bool o.p.g) ∧ w'.cell? ⟨wr.heap.size, 5, none⟩ = some (.slice o.p.a o.p.n o.p.c) ∧ w'.cell? ⟨wr.heap.size, 6, none⟩ = some (.slice o.p.b o.p.m o.p.d) ∧ w'.cell? ⟨wo.heap.size, 0, none⟩ = some (.int .i64 ii) ∧ w'.cell? ⟨wo.heap.size, 1, none⟩ = some (.slice ia n ic) ∧ w'.cell? ⟨wo.heap.size, 2, none⟩ = some (.slice ib m id)) w4 := ⟨(bX4.all 0 _ rfl).1, (bX4.all 1 _ rfl).1, (bX4.all 2 _ rfl).1, (bO4.all 0 _ rfl).1, (bO4.all 1 _ rfl).1, (bO4.all 2 _ rfl).1, (bO4.all 3 _ rfl).1, (bO4.all 4 _ rfl).1, (bO4.all 5 _ rfl).1, (bO4.all 6 _ rfl).1, (x4_0.all 0 _ rfl).1, (x4_0.all 1 _ rfl).1, (x4_0.all 2 _ rfl).1⟩
          have HG4 := hide ((unhide HG3).below b4)
          have HQ4 := hide (And.intro hcon (And.intro hnq hfr))
          have HBX4 := hide bX4
          have HBO4 := hide bO4
          have HEX4_0 := hide x4_0
          have HB4 := hide b4
          clear HD HBX3 HBO3 hcon hnq hfr b4 bX4 bO4 HEX0 x4_0
          unfold opV
          refine hK _ _ (fun _ => hHeld) ?_
          clear hK K hHeld
          refine anyTill_one (i := 5) (by kernel_rfl) rfl (by kernel_rfl) (fun K hK => ?_)
          go_simp
          have hal : Below w4.heap.size w4 (w4.alloc (.cells #[.int .i64 q.k, .int .i64 q.a, .int .i64 q.b, .int .i64 q.n, .bool q.p.g, .slice q.p.a q.p.n q.p.c, .slice q.p.b q.p.m q.p.d] 54)) := (Below.refl _ _).alloc (Nat.le_refl _) _
          have bX5 := (unhide HBX4).below hal
          have bO5 := (unhide HBO4).below hal
          have x5_0 := (unhide HEX4_0).below hal
          have hHeld : (fun w' => w'.cell? ⟨X, 0, none⟩ = some (.int .i64 ii) ∧ w'.cell? ⟨X, 1, none⟩ = some (.slice sa qs.length sc) ∧ w'.cell? ⟨X, 2, none⟩ = some (.slice none 0 0) ∧ w'.cell? ⟨wr.heap.size, 0, none⟩ = some (.int .i64 o.k) ∧ w'.cell? ⟨wr.heap.size, 1, none⟩ = some (.int .i64 o.a) ∧ w'.cell? ⟨wr.heap.size, 2, none⟩ = some (.int .i64 o.b) ∧ w'.cell? ⟨wr.heap.size, 3, none⟩ = some (.int .i64 o.n) ∧ w'.cell? ⟨wr.heap.size, 4, none⟩ = some (.bool o.p.g) ∧ w'.cell? ⟨wr.heap.size, 5, none⟩ = some (.slice o.p.a o.p.n o.p.c) ∧ w'.cell? ⟨wr.heap.size, 6, none⟩ = some (.slice o.p.b o.p.m o.p.d) ∧ w'.cell? ⟨wo.heap.size, 0, none⟩ = some (.int .i64 ii) ∧ w'.cell? ⟨wo.heap.size, 1, none⟩ = some (.slice ia n ic) ∧ w'.cell? ⟨wo.heap.size, 2, none⟩ = some (.slice ib m id)) (w4.alloc (.cells #[.int .i64 q.k, .int .i64 q.a, .int .i64 q.b, .int .i64 q.n, .bool q.p.g, .slice q.p.a q.p.n q.p.c, .slice q.p.b q.p.m q.p.d] 54)) := ⟨(bX5.all 0 _ rfl).1, (bX5.all 1 _ rfl).1, (bX5.all 2 _ rfl).1, (bO5.all 0 _ rfl).1, (bO5.all 1 _ rfl).1, (bO5.all 2 _ rfl).1, (bO5.all 3 _ rfl).1, (bO5.all 4 _ rfl).1, (bO5.all 5 _ rfl).1, (bO5.all 6 _ rfl).1, (x5_0.all 0 _ rfl).1, (x5_0.all 1 _ rfl).1, (x5_0.all 2 _ rfl).1⟩
          refine hK _ _ (fun _ => hHeld) ?_
          clear hK K hHeld
          have how : (w4.alloc (.cells #[.int .i64 q.k, .int .i64 q.a, .int .i64 q.b, .int .i64 q.n, .bool q.p.g, .slice q.p.a q.p.n q.p.c, .slice q.p.b q.p.m q.p.d] 54)).ownsRow W2.heap.size 54 7 (.slice sa qs.length sc) qs.length (celO qs) := ((unhide HG4).below hal).own
          have hone : ∀ u ∈ ([.int .i64 q.k, .int .i64 q.a, .int .i64 q.b, .int .i64 q.n, .bool q.p.g, .slice q.p.a q.p.n q.p.c, .slice q.p.b q.p.m q.p.d] : List Value), u.oneCell' = true := by intro u hu; simp at hu; rcases hu with rfl | rfl | rfl | rfl | rfl | rfl | rfl <;> rfl
          have hmx : qs.length + 1 ≤ maxLen := by have := unhide HQL; unfold maxLen; omega
          have hby : (qs.length + 1) * 88 ≤ 140737488355328 := by have := unhide HQL; omega
          have hlw : W2.heap.size ≤ w4.heap.size := (unhide HG4).bel.size
          refine anyTill_one (i := 6) (by kernel_rfl) rfl (by kernel_rfl) (fun K hK => ?_)
          refine wp_append_lies _ _ _ 22 rfl W2.heap.size 54 i88 (.agg #[.int .i64 0, .int .i64 0, .int .i64 0, .int .i64 0, .bool false, .slice none 0 0, .slice none 0 0]) 7 88 Tryd.underlying22 (unhide HI).1 (unhide HI).2.1 (unhide HI).2.2.1 (unhide HI).2.2.2 rfl (by decide) (.slice sa qs.length sc) qs.length (celO qs) rfl how ⟨w4.heap.size, 0, none⟩ 1 1 [.int .i64 q.k, .int .i64 q.a, .int .i64 q.b, .int .i64 q.n, .bool q.p.g, .slice q.p.a q.p.n q.p.c, .slice q.p.b q.p.m q.p.d] rfl rfl (World.news_of_block (alloc_block _ _)) hone (by decide) hmx hby (by simp <;> omega) (w4.heap.size + 1) (by simp) ?_
          intro g5 cap5 w6 hown hgrow hat hlt6
          have hcg : Chg (fun j => (Value.slice sa qs.length sc).ownBlock = some j) (w4.alloc (.cells #[.int .i64 q.k, .int .i64 q.a, .int .i64 q.b, .int .i64 q.n, .bool q.p.g, .slice q.p.a q.p.n q.p.c, .slice q.p.b q.p.m q.p.d] 54)) w6 := ⟨hgrow.os, hgrow.tape, hgrow.output, hgrow.size, fun j hj hs => hgrow.block j hj (fun e => hs e.symm)⟩
          have hnX : ¬ (Value.slice sa qs.length sc).ownBlock = some X := fun e => by have h1 := (unhide HOL _ e).1; have h2 := unhide HXlt; omega
          have hnY : ¬ (Value.slice sa qs.length sc).ownBlock = some wr.heap.size := fun e => by have h1 := (unhide HOL _ e).2; omega
          have hn0 : ¬ (Value.slice sa qs.length sc).ownBlock = some wo.heap.size := fun e => by have h1 := (unhide HOL _ e).1; have h2 := unhide HXlt; have h3 := unhide HLE; have h4 := unhide HX; omega
          have bX6 := bX5.chg hcg hnX
          have bO6 := bO5.chg hcg hnY
          have x6_0 := x5_0.chg hcg hn0
          have hHeld : (fun w' => w'.cell? ⟨X, 0, none⟩ = some (.int .i64 ii) ∧ w'.cell? ⟨X, 1, none⟩ = some (.slice sa qs.length sc) ∧ w'.cell? ⟨X, 2, none⟩ = some (.slice none 0 0) ∧ w'.cell? ⟨wr.heap.size, 0, none⟩ = some (.int .i64 o.k) ∧ w'.cell? ⟨wr.heap.size, 1, none⟩ = some (.int .i64 o.a) ∧ w'.cell? ⟨wr.heap.size, 2, none⟩ = some (.int .i64 o.b) ∧ w'.cell? ⟨wr.heap.size, 3, none⟩ = some (.int .i64 o.n) ∧ w'.cell? ⟨wr.heap.size, 4, none⟩ = some (.bool o.p.g) ∧ w'.cell? ⟨wr.heap.size, 5, none⟩ = some (.slice o.p.a o.p.n o.p.c) ∧ w'.cell? ⟨wr.heap.size, 6, none⟩ = some (.slice o.p.b o.p.m o.p.d) ∧ w'.cell? ⟨wo.heap.size, 0, none⟩ = some (.int .i64 ii) ∧ w'.cell? ⟨wo.heap.size, 1, none⟩ = some (.slice ia n ic) ∧ w'.cell? ⟨wo.heap.size, 2, none⟩ = some (.slice ib m id)) w6 := ⟨(bX6.all 0 _ rfl).1, (bX6.all 1 _ rfl).1, (bX6.all 2 _ rfl).1, (bO6.all 0 _ rfl).1, (bO6.all 1 _ rfl).1, (bO6.all 2 _ rfl).1, (bO6.all 3 _ rfl).1, (bO6.all 4 _ rfl).1, (bO6.all 5 _ rfl).1, (bO6.all 6 _ rfl).1, (x6_0.all 0 _ rfl).1, (x6_0.all 1 _ rfl).1, (x6_0.all 2 _ rfl).1⟩
          have hf6 := (bX6.all 1 _ rfl).2
          have hc6 := (bX6.all 1 _ rfl).1
          have HG6 := hide ((unhide HG3).app (q := q) (unhide HB4) (unhide HQ4).2.1 (fun j hj => by
            have h1 := (unhide HQ4).2.2 j hj
            have h2 := unhide HSW
            have h3 := unhide HXlt
            have h4 := unhide HR
            have h5 := unhide HX
            have h6 := unhide HLE
            exact ⟨h1, by have h7 : W3.drew.heap.size = W3.heap.size := rfl; rintro rfl; omega⟩) hgrow hown hat (by simp))
          have HG7 := hide ((unhide HG6).set (X := X) (unhide HXlt) rfl 1 (.slice (some ⟨g5, 0, none⟩) (qs.length + 1) cap5))
          have HBX7 := hide (bX6.put 1 (.slice (some ⟨g5, 0, none⟩) (qs.length + 1) cap5))
          have HF7 := hide (show ∀ p ∈ qs ++ [q], ∀ j, nqB p.p j → W2.heap.size ≤ j from fun p hp j hj => by
            rcases List.mem_append.1 hp with hp | hp
            · exact unhide HF p hp j hj
            · obtain rfl := List.mem_singleton.1 hp
              have h1 := (unhide HQ4).2.2 j hj
              have h2 := unhide HSW
              have h7 : W3.drew.heap.size = W3.heap.size := rfl
              omega)
          have HC7 := hide (show (qs ++ [q]).map conO = (osi ++ (oso.take (k + 1)).map (bhO n ysi)).map conO from by
            rw [List.map_append, unhide HC, List.take_add_one, unhide HO]
            simp [(unhide HQ4).1])
          clear hown hgrow hat hlt6 hcg hnX hnY bX6 bO6 bX5 bO5 how hal x5_0 x6_0 hn0 HEX4_0
          refine hK _ _ (fun _ => hHeld) ?_
          clear hK K
          refine anyTill_one (i := 7) (by kernel_rfl) rfl (by kernel_rfl) (fun K hK => ?_)
          go_simp
          refine hK _ _ (fun _ => hHeld) ?_
          clear hK K hHeld
          refine anyTill_one (i := 8) (by kernel_rfl) rfl (by kernel_rfl) (fun K hK => ?_)
          go_simp
          refine hK _ _ (fun h => absurd rfl h) ?_
          clear hK K
          refine anyTill_done (by kernel_rfl) ?_
          clear hf6 hc6
          go_wp2_with fail
          exact ⟨⟨k + 1, _, qs ++ [q], by omega, by (first | rfl | go_num), HG7, HC7, HBX7, HF7⟩, by simp [intOf]; omega⟩
        · obtain rfl : on = k := by omega
          have hlt' : ¬ (on : Int) < (on : Int) := by omega
          clear hlt
          try go_wp2_with fail
          clear a0 a1 a2 b0 b1 b2
          obtain ⟨Wb, rfl⟩ : ∃ x, x = wr := ⟨_, rfl⟩
          have hw2 : W2.heap.size ≤ Wb.heap.size := (unhide HG).bel.size
          obtain ⟨i64, hi, hz0, hsi, hb⟩ := info_parts Tryd.info_i64
          have HI3 := hide (And.intro hi (And.intro hz0 (And.intro hsi hb)))
          clear hi hz0 hsi hb
          have HBb := hide hbr
          have HC2 := hide (show qs.map conO = (cpO osi oso ysi).map conO from by rw [unhide HC, List.take_of_length_le (by have := (unhide HL).1; omega)]; unfold cpO; rw [(unhide HL).2.2.1])
          have HX2 := hide (show X < Wb.heap.size from by have := unhide HXlt; omega)
          clear hbr HC
          have HO0 := hide (World.ownsRow_nil Wb Wb.heap.size 3 1)
          have HK0 := hide (Chg.refl (fun j => j = X) Wb)
          go_loopw [49] (fun kv w3 => ∃ (k : Nat) (sv : Value), k ≤ om ∧ kv = .int .i64 (k : Int) ∧ Hid (w3.ownsRow Wb.heap.size 3 1 sv k (valsI (cpY n (yso.take k)))) ∧ Hid (Chg (fun j => j = X) Wb w3) ∧ Hid (BoxP w3 X [.int .i64 ii, .slice sa qs.length sc, sv])) (fun kv _ => om - (intOf kv).toNat)
          case atStart => exact ⟨0, .slice none 0 0, Nat.zero_le _, rfl, HO0, HK0, HBK⟩
          case round =>
            obtain ⟨k, sv, hk, rfl, HOW, HCG, HB3⟩ := hrel
            have hwk : Wb.heap.size ≤ wr.heap.size := (unhide HCG).size
            have hbr : Below wR.heap.size wR wr := (unhide HBb).trans ((unhide HCG).below (by have := (unhide HBb).size; omega) (fun j hj e => by have := unhide HX; omega))
            have a0 := (hbr.cell (World.block_lt_of_cell? _ _ m0)).trans m0
            have b0 := (hbr.cell (World.block_lt_of_cell? _ _ n0)).trans n0
            have a1 := (hbr.cell (World.block_lt_of_cell? _ _ m1)).trans m1
            have b1 := (hbr.cell (World.block_lt_of_cell? _ _ n1)).trans n1
            have a2 := (hbr.cell (World.block_lt_of_cell? _ _ m2)).trans m2
            have b2 := (hbr.cell (World.block_lt_of_cell? _ _ n2)).trans n2
            have x0 := ((unhide HB3).all 0 _ rfl).1
            have x1 := ((unhide HB3).all 1 _ rfl).1
            have x2 := ((unhide HB3).all 2 _ rfl).1
            by_cases hlt : k < om
            · have hlt' : (k : Int) < (om : Int) := by omega
              obtain ⟨b1, off, rfl, hcel⟩ := ((unhide HOO).2.below hbr).at (by omega)
              have g0 := hcel k hlt
              have hkl : k < yso.length := by have := (unhide HL).2.1; omega
              have hmem : yso.getD k 0 ∈ yso := by
                have : yso.getD k 0 = yso[k] := by simp [List.getD, hkl]
                rw [this]; exact List.getElem_mem hkl
              obtain ⟨hy0, hy1⟩ := (unhide HKO).out _ hmem
              rw [(unhide HL).1] at hy1
              have hst : cpY n (yso.take (k + 1)) = cpY n (yso.take k) ++ [(n : Int) + yso.getD k 0] := by
                unfold cpY
                rw [List.take_add_one, List.getElem?_eq_getElem hkl, List.map_append]
                have : yso.getD k 0 = yso[k] := by simp [List.getD, hkl]
                rw [this]
                rfl
              generalize yso.getD k 0 = y at *
              have HST := hide hst
              have hy2 : 0 ≤ (n : Int) + y := by omega
              have hy3 : (n : Int) + y ≤ 2048 := by omega
              clear hcel hmem hst hkl
              go_wp2_with (at_builtin; refine wpList_append_lies _ rfl _ _ 23 rfl Wb.heap.size 3 i64 (.int .i64 0) 1 8 Tryd.underlying23 (unhide HI3).1 (unhide HI3).2.1 (unhide HI3).2.2.1 (unhide HI3).2.2.2 rfl (by decide) _ k (valsI (cpY n (yso.take k))) rfl ((unhide HOW).alloc _) ⟨wr.heap.size, 0, none⟩ 1 1 [.int .i64 ((n : Int) + y)] rfl rfl (World.news_of_block (alloc_block _ _)) ?c21 (by decide) ?c31 ?c41 ?c51 (wr.heap.size + 1) (by simp) ?_)
              case c21 => intro u hu; simp at hu; rcases hu with rfl; rfl
              case c31 => unfold maxLen; omega
              case c41 => omega
              case c51 => simp; omega
              intro gb cap w3 hown hg hat hlt4
              have hcg : Chg (fun j => sv.ownBlock = some j) _ w3 := ⟨hg.os, hg.tape, hg.output, hg.size, fun j hj hs => hg.block j hj (fun e => hs e.symm)⟩
              have hal := fun o => (Below.refl wr.heap.size wr).alloc (Nat.le_refl _) o
              have olt : ∀ j, sv.ownBlock = some j → Wb.heap.size ≤ j ∧ j < wr.heap.size := own_ge (unhide HOW)
              have HCG3 := hide (chg_then ((unhide HCG).trans (Chg.of_below (hal _))) hcg (fun j hj _ e => by have := (olt j e).1; omega))
              have bX3 := ((unhide HB3).below (hal _)).chg hcg (fun e => by have := (olt X e).1; have := unhide HX2; omega)
              have e0 := (bX3.all 0 _ rfl).1
              have e1 := (bX3.all 1 _ rfl).1
              have e2 := (bX3.all 2 _ rfl).1
              have f2 := (bX3.all 2 _ rfl).2
              have hown' : w3.ownsRow Wb.heap.size 3 1 (.slice (some ⟨gb, 0, none⟩) (k + 1) cap) (k + 1) (valsI (cpY n (yso.take (k + 1)))) := by
                rw [unhide HST]
                simpa [valsI] using hown
              have HOW7 := hide (ownsRow_chg (S := fun j => j = X) hown' (Chg.of_set w3 X 2 (.slice (some ⟨gb, 0, none⟩) (k + 1) cap) rfl) (fun j e e2 => by have := (own_ge hown' j e).1; have := unhide HX2; omega))
              have HCG7 := hide ((unhide HCG3).trans (Chg.of_set (S := fun j => j = X) w3 X 2 (.slice (some ⟨gb, 0, none⟩) (k + 1) cap) rfl))
              have HB7 := hide (bX3.put 2 (.slice (some ⟨gb, 0, none⟩) (k + 1) cap))
              clear hown hg hat hlt4 hcg hal olt bX3 hown'
              go_wp2_with fail
              exact ⟨⟨k + 1, _, by omega, by (first | rfl | go_num), HOW7, HCG7, HB7⟩, by simp [intOf]; omega⟩
            · obtain rfl : om = k := by omega
              have hlt' : ¬ (om : Int) < (om : Int) := by omega
              clear hlt
              have hfull : cpY n (yso.take om) = cpY n yso := by rw [List.take_of_length_le (by have := (unhide HL).2.1; omega)]
              have hly : (cpY n yso).length = om := by unfold cpY; rw [List.length_map]; exact (unhide HL).2.1
              rw [hfull] at HOW
              obtain ⟨sb, scb, rfl, hsi⟩ := sli_own (unhide HOW) hly
              have bR3 : BoxP wr R [.int .i64 0, .slice none 0 0, .slice none 0 0] := by
                have h := (unhide HBR).below hbr
                rw [unhide HR] at h
                exact h
              have r0 := (bR3.all 0 _ rfl).1
              have u0 := (bR3.all 0 _ rfl).2
              have r1 := (bR3.all 1 _ rfl).1
              have u1 := (bR3.all 1 _ rfl).2
              have r2 := (bR3.all 2 _ rfl).1
              have u2 := (bR3.all 2 _ rfl).2
              obtain ⟨bR4, hc4⟩ := tape_set3 bR3 (.int .i64 ii) (.slice sa qs.length sc) (.slice sb om scb)
              have p0 := (bR4.all 0 _ rfl).1
              have p1 := (bR4.all 1 _ rfl).1
              have p2 := (bR4.all 2 _ rfl).1
              have HC4 := hide hc4
              have HBE := hide hbr
              have HY := hide hly
              clear hc4 bR3 bR4 hfull hsi hly hbr
              go_wp2_with fail
              refine bodyPost_ret (v := tapV ii sa qs.length sc sb om scb) (by simp [tapV, results, Tryd.results21, go_sem, p0, p1, p2]; try rfl) rfl ?_
              have hl := congrArg List.length (unhide HC2)
              rw [List.length_map, List.length_map] at hl
              have hGf : GrO (fun j => j < W2.heap.size) W2 Wb (.slice sa qs.length sc) qs := (unhide HG).mono (fun k e => by rw [e]; exact unhide HXlt) (fun q hq k hk => by have := unhide HF q hq k hk; omega)
              have hRlt : R < W2.heap.size := by have := unhide HR; have := unhide HLE; have := unhide HX; have := unhide HXlt; omega
              have hGe := hGf.chg (((unhide HCG).mono (fun k _ e => by rw [e]; exact unhide HXlt)).trans ((unhide HC4).mono (fun k _ e => by rw [e]; exact hRlt))) (fun k e => e)
              have hBW : Below w.heap.size w (((wr.setCell ⟨R, 0, none⟩ (.int .i64 ii)).setCell ⟨R, 1, none⟩ (.slice sa qs.length sc)).setCell ⟨R, 2, none⟩ (.slice sb om scb)) := (((unhide HB).trans ((unhide HBE).mono (unhide HB).size))).trans ((unhide HC4).below (B := w.heap.size) (by have := (unhide HBE).size; have := (unhide HB).size; omega) (fun k hk e => by have := unhide HR; have := unhide HLE; omega))
              have hwW : w.heap.size ≤ W2.heap.size := by have := (unhide HB).size; have := (unhide HBW); omega
              refine ⟨sa, sc, sb, scb, qs, by rw [← hl, unhide HY], ?_, unhide HC2, ?_, hBW⟩
              · rw [← hl]
                exact ⟨own_low hGe.own hwW, hGe.each, fun q hq k hk => ⟨(hGe.far q hq k hk).1, fun e => (hGe.far q hq k hk).2 (Nat.lt_of_lt_of_le e hwW)⟩, (Chg.of_below hBW)⟩
              · rw [unhide HY]
                exact own_low (ownsRow_chg (unhide HOW) (unhide HC4) (fun j e e2 => by have := (own_ge (unhide HOW) j e).1; omega)) (by omega)
end Go.Proofs.YtiadccaaoenccaaDoor
