/- Rl2 -/
import Derived.Test.YtiadccaaoenccaaDoorWrd
import Derived.Deep.Strs
import Derived.ChangeArms
import Derived.Test.YtiadccaaoenccaaDoorNMul
import Derived.Test.YtiadccaaoenccaaDoorGiv
import Derived.Deep.RegionHeld3
import Derived.Test.YtiadccaaoenccaaDoorRv1
namespace Go.Proofs.YtiadccaaoenccaaDoor
open Go.ChangeShapes Go.WideShapes Go.ChangeAt Go.RowKit Go.Deep
set_option linter.unusedVariables false

end Go.Proofs.YtiadccaaoenccaaDoor
namespace Go.Proofs.YtiadccaaoenccaaDoor
open Go.ChangeShapes Go.WideShapes Go.ChangeAt Go.RowKit Go.Deep
set_option linter.unusedVariables false
theorem trod_limbsZ {H : Type} {enc : TypeId × Value → H} {W : World} {fuel : Nat} {cs : List Value} {x : DataW H × List MemPlace}
    (h : DataW.trod enc Tryd.prog W 0 (fun _ => true) true fuel 50 cs = some x) (hz : ∀ k ∈ x.1.weights Tryd.prog 50, k ≤ reachBytes) :
    ∃ a n c xs, cs = [.slice a n c] ∧ Sl W a n c xs ∧ Ok xs ∧ n ≤ 35184372088000 ∧ (a = none → c = 0) := by
  rcases open_ints Tryd.underlying50 Tryd.underlying74 law_cellsL h with ⟨rfl, _⟩ | ⟨y, n, c, zs, rfl, _, hl, hm, hzl, rfl, hcell, hwz⟩
  · exact ⟨none, 0, 0, [], rfl, sl_nil _, Ok.nil, Nat.zero_le _, fun _ => rfl⟩
  · have hzl' : zs.length = c := by simpa using hzl
    have hb := hz (((lits (H := H) .u32 (zs.take n)).length + (lits (H := H) .u32 (zs.drop n)).length) * Tryd.prog.bytesOf 74) (by simp [DataW.weights, Tryd.underlying50])
    have hlen : (lits (H := H) .u32 (zs.take n)).length + (lits (H := H) .u32 (zs.drop n)).length = c := by
      simp [lits]; omega
    rw [hlen, law_bytesL] at hb
    unfold reachBytes at hb
    refine ⟨some y, n, c, (zs.take n).map Int.toNat, rfl, ⟨by simp; omega, hl, hm, ?_⟩, fun z hzz => ?_, by omega, fun h => by cases h⟩
    · by_cases h0 : n = 0
      · left; subst h0; simp
      · right
        obtain ⟨b, off, spot⟩ := y
        have c0 := hcell 0 (by omega)
        have hspot : spot = none := by simpa [Addr.add] using World.cell?_spot c0
        subst hspot
        refine ⟨b, off, rfl, ?_⟩
        intro i hi
        have hi' : i < n := by simp at hi; omega
        have e : (⟨b, off, none⟩ : Addr).add i = ⟨b, off + i, none⟩ := by unfold Addr.add; split <;> simp_all
        have hzi := hcell i (by omega)
        rw [e] at hzi
        rw [hzi]
        have hmem : zs.getD i 0 ∈ zs := by
          have : zs.getD i 0 = zs[i]'(by omega) := by simp [List.getD, show i < zs.length from by omega]
          rw [this]; exact List.getElem_mem _
        have r := bounds_u32 (hwz _ hmem)
        have e2 : ((zs.take n).map Int.toNat).getD i 0 = (zs.getD i 0).toNat := by
          simp [List.getD, hi', show i < zs.length from by omega]
        rw [e2]
        congr 2
        omega
    · obtain ⟨u, hu, rfl⟩ := List.mem_map.1 hzz
      have := bounds_u32 (hwz u (List.mem_of_mem_take hu))
      omega

theorem EntOk.ne {w : World} {B : Nat} {v0 v1 : Value} {e : Ent} (h : EntOk w B v0 v1 e) {R : Nat} {b : Bool} (hR : w.cell? ⟨R, 0, none⟩ = some (.bool b)) : e.b ≠ R ∧ e.b0 ≠ R := by
  have key : ∀ (g n c : Nat) (xs : List Nat), Sl w (some ⟨g, 0, none⟩) n c xs → xs ≠ [] → g ≠ R := by
    intro g n c xs hs hne hg
    obtain ⟨b', off', e', hc⟩ := hs.cells.resolve_left hne
    cases e'
    have := hc 0 (List.length_pos_iff.2 hne)
    rw [Nat.zero_add, hg, hR] at this
    cases this
  exact ⟨key _ _ _ _ h.sl (by simp [marks]), key _ _ _ _ h.sl0 (by simp [marks])⟩

theorem LawSt.setR {w w' : World} {B : Nat} {v0 v1 : Value} {es : List Ent} {w0 : World} {L : List Pc} (h : LawSt w B v0 v1 es w0 L) {R : Nat} {b : Bool} (hR : w.cell? ⟨R, 0, none⟩ = some (.bool b)) (hc : Chg (fun j => j = R) w w') (hw : w0.heap.size ≤ R) (hO : ¬ Own B v0 v1 R) (hL : ∀ p ∈ L, ∀ x, p.a = some x → p.xs ≠ [] → x.block ≠ R) :
    LawSt w' B v0 v1 es w0 L := by
  refine ⟨h.giv.chg hc (fun e => hO (by rw [← e]; exact .inl rfl)) (fun k hk e => hO (by rw [← e]; exact .inr (.inl hk))) (fun k hk e => hO (by rw [← e]; exact .inr (.inr hk))) (fun e he => (h.giv.ents e he).ne hR), h.bel.trans (hc.below h.bel.size (fun k hk => by omega)), h.base, ?_⟩
  intro p hp
  have K := h.all p hp
  exact ⟨K.sl.chg hc (fun x hx hne => hL p hp x hx hne), K.safe⟩
end Go.Proofs.YtiadccaaoenccaaDoor
namespace Go.Proofs.YtiadccaaoenccaaDoor
open Go.RowKit Go.Deep
set_option linter.unusedVariables false
def sameR (g1 : Bool) (x1 y1 : List Nat) (g2 : Bool) (x2 y2 : List Nat) : Bool := (g1 == g2) && (decide (x1 = x2) && decide (y1 = y2))
set_option maxHeartbeats 8000000 in
theorem sameRat_any (g1 g2 : Bool) (a1 b1 a2 b2 : Option Addr) (n1 c1 m1 d1 n2 c2 m2 d2 : Nat) (x1 y1 x2 y2 : List Nat) (w : World) (hx1 : Sl w a1 n1 c1 x1) (hy1 : Sl w b1 m1 d1 y1) (hx2 : Sl w a2 n2 c2 x2) (hy2 : Sl w b2 m2 d2 y2) :
    Calls Tryd.prog 27 #[ratV g1 a1 n1 c1 b1 m1 d1, ratV g2 a2 n2 c2 b2 m2 d2] w fun e w' => e = .returned (.bool (sameR g1 x1 y1 g2 x2 y2)) ∧ Below w.heap.size w w' := by
  have bx := Box.made w g1 a1 n1 c1 b1 m1 d1
  obtain ⟨wa, hwa⟩ : ∃ wa, ratBox w g1 a1 n1 c1 b1 m1 d1 = wa := ⟨_, rfl⟩
  rw [hwa] at bx
  have by_ := Box.made wa g2 a2 n2 c2 b2 m2 d2
  obtain ⟨wb, hwb⟩ : ∃ wb, ratBox wa g2 a2 n2 c2 b2 m2 d2 = wb := ⟨_, rfl⟩
  rw [hwb] at by_
  have hba : Below w.heap.size w wa := by rw [← hwa]; exact (Below.refl _ _).alloc (Nat.le_refl _) _
  have hbb : Below wa.heap.size wa wb := by rw [← hwb]; exact (Below.refl _ _).alloc (Nat.le_refl _) _
  have bx2 := bx.keep hbb
  have hB := hba.trans (hbb.mono hba.size)
  unfold ratBox at hwa hwb
  have K1 := sameNat_any a1 a2 n1 c1 n2 c2 x1 x2 wb (hx1.below hB) (hx2.below hB)
  have HK2 := hide (fun k => sameNat_any b1 b2 m1 d1 m2 d2 y1 y2 (wb.drewN k) ((hy1.below hB).below (bel_drewN (Below.refl _ _) k)) ((hy2.below hB).below (bel_drewN (Below.refl _ _) k)))
  have HB := hide hB
  have HBx := hide (And.intro bx2 by_)
  have p0 := bx2.d0
  have p1 := bx2.d1
  have p2 := bx2.d2
  have p3 := by_.d0
  have p4 := by_.d1
  have p5 := by_.d2
  unfold ratV
  by_cases hg : g1 = g2
  · have t1 : (g1 == g2) = true := by simp [hg]
    obtain ⟨s1, hs1⟩ : ∃ s, decide (x1 = x2) = s := ⟨_, rfl⟩
    obtain ⟨s2, hs2⟩ : ∃ s, decide (y1 = y2) = s := ⟨_, rfl⟩
    have HR := hide (show sameR g1 x1 y1 g2 x2 y2 = (s1 && s2) by unfold sameR; rw [t1, hs1, hs2]; rfl)
    rw [hs1] at K1
    rw [hs2] at HK2
    have HK1 := hide K1
    obtain ⟨rr, hrr⟩ : ∃ r, sameR g1 x1 y1 g2 x2 y2 = r := ⟨_, rfl⟩
    rw [hrr] at HR ⊢
    subst hg
    clear K1 hx1 hy1 hx2 hy2 bx by_ bx2 hba hbb hB hs1 hs2 hrr t1
    cases s1
    · go_enter Tryd.func27, Tryd.ntmps27
      go_wp2_with fail
      refine (unhide HK1).mono ?_
      rintro _ _ ⟨rfl, k, rfl⟩
      go_wp2_with fail
      go_ret
      exact ⟨by rw [unhide HR]; rfl, bel_drewN (unhide HB) _⟩
    · go_enter Tryd.func27, Tryd.ntmps27
      go_wp2_with fail
      refine (unhide HK1).mono ?_
      rintro _ _ ⟨rfl, k, rfl⟩
      have q2 : (wb.drewN k).cell? ⟨w.heap.size, 2, none⟩ = some (.slice b1 m1 d1) := p2
      have q5 : (wb.drewN k).cell? ⟨wa.heap.size, 2, none⟩ = some (.slice b2 m2 d2) := p5
      go_wp2_with fail
      refine (unhide HK2 k).mono ?_
      rintro _ _ ⟨rfl, k2, rfl⟩
      go_wp2_with fail
      go_ret
      exact ⟨by rw [unhide HR]; simp, bel_drewN (unhide HB) _⟩
  · have t1 : (g1 == g2) = false := by simp [hg]
    have HR := hide (show sameR g1 x1 y1 g2 x2 y2 = false by unfold sameR; rw [t1]; rfl)
    obtain ⟨rr, hrr⟩ : ∃ r, sameR g1 x1 y1 g2 x2 y2 = r := ⟨_, rfl⟩
    rw [hrr] at HR ⊢
    clear K1 hx1 hy1 hx2 hy2 bx by_ bx2 hba hbb hB hrr HK2
    go_enter Tryd.func27, Tryd.ntmps27
    go_wp2_with fail
    go_ret
    exact ⟨by rw [unhide HR]; rfl, unhide HB⟩
end Go.Proofs.YtiadccaaoenccaaDoor

namespace Go.Proofs.YtiadccaaoenccaaDoor
open Go.RowKit Go.Deep
set_option linter.unusedVariables false

end Go.Proofs.YtiadccaaoenccaaDoor
namespace Go.Proofs.YtiadccaaoenccaaDoor
open Go.RowKit Go.Deep
set_option linter.unusedVariables false
theorem Ok.limbs (v : Nat) : Ok (limbs v) := (limbs_rep v).ok
theorem Tri.out {w : World} {R : Nat} {v0 v1 v2 : Value} (h : Tri w R v0 v1 v2) : Out w R :=
  ⟨fun i hi => by
    match i, hi with
    | 0, _ => exact ⟨_, h.c0⟩
    | 1, _ => exact ⟨_, h.c1⟩
    | 2, _ => exact ⟨_, h.c2⟩,
   fun i hi => by
    match i, hi with
    | 0, _ => exact h.f0
    | 1, _ => exact h.f1
    | 2, _ => exact h.f2, h.lt⟩
theorem Tri.chg {w w' : World} {R S : Nat} {v0 v1 v2 : Value} (h : Tri w R v0 v1 v2) (c : Chg (fun k => k = S) w w') (hne : R ≠ S) : Tri w' R v0 v1 v2 := by
  have hb := c.block R h.lt hne
  have hc : ∀ i, w'.cell? ⟨R, i, none⟩ = w.cell? ⟨R, i, none⟩ := fun i => by unfold World.cell?; simp only; rw [hb]
  have hf : ∀ i, w'.frozen? ⟨R, i, none⟩ = w.frozen? ⟨R, i, none⟩ := fun i => by unfold World.frozen?; simp only; rw [hb]
  exact ⟨(hc 0).trans h.c0, (hc 1).trans h.c1, (hc 2).trans h.c2, (hf 0).trans h.f0, (hf 1).trans h.f1, (hf 2).trans h.f2, Nat.lt_of_lt_of_le h.lt c.size⟩
theorem Tri.chgW {S : Nat → Prop} {w w' : World} {R : Nat} {v0 v1 v2 : Value} (h : Tri w R v0 v1 v2) (k : Chg S w w') (hs : ¬ S R) : Tri w' R v0 v1 v2 := by
  have hf : ∀ i, w'.frozen? ⟨R, i, none⟩ = w.frozen? ⟨R, i, none⟩ := fun i => World.frozen?_of_block (w := w) (k.block R h.lt hs)
  exact ⟨k.cell hs h.c0, k.cell hs h.c1, k.cell hs h.c2, (hf 0).trans h.f0, (hf 1).trans h.f1, (hf 2).trans h.f2, Nat.lt_of_lt_of_le h.lt k.size⟩
theorem GivR.own_lt {w : World} {B : Nat} {v0 v1 : Value} {es : List Ent} {rs : Nat → Value} (h : GivR w B v0 v1 es rs) {k : Nat} (hk : Own B v0 v1 k) : k < w.heap.size := by
  rcases hk with rfl | hk | hk
  · exact h.cell0.2.2.2.2
  · exact (Go.Proofs.YtiadccaaoenccaaDoor.own_ge h.own0 k hk).2
  · exact (Go.Proofs.YtiadccaaoenccaaDoor.own_ge h.own1 k hk).2
theorem GivR.own_ge {w : World} {B : Nat} {v0 v1 : Value} {es : List Ent} {rs : Nat → Value} (h : GivR w B v0 v1 es rs) {k : Nat} (hk : Own B v0 v1 k) : B ≤ k := by
  rcases hk with rfl | hk | hk
  · exact Nat.le_refl _
  · have := (Go.Proofs.YtiadccaaoenccaaDoor.own_ge h.own0 k hk).1; omega
  · have := (Go.Proofs.YtiadccaaoenccaaDoor.own_ge h.own1 k hk).1; omega
theorem GivR.setR {w w' : World} {B : Nat} {v0 v1 : Value} {es : List Ent} {rs : Nat → Value} (h : GivR w B v0 v1 es rs) {R : Nat} {b : Bool} (hR : w.cell? ⟨R, 0, none⟩ = some (.bool b)) (hc : Chg (fun j => j = R) w w') (hO : ¬ Own B v0 v1 R) : GivR w' B v0 v1 es rs :=
  h.chg hc (fun e => hO (by rw [← e]; exact .inl rfl)) (fun k hk e => hO (by rw [← e]; exact .inr (.inl hk))) (fun k hk e => hO (by rw [← e]; exact .inr (.inr hk))) (fun e he => (h.ents e he).ne hR)

structure GrPost (w w' : World) (B : Nat) (v0 v1 v0' v1' : Value) (es : List Ent) (rs : Nat → Value) (x y : List Nat) (E1 E2 : Ent) : Prop where
  x1 : E1.xs = x
  x2 : E2.xs = y
  n1 : w.heap.size ≤ E1.b ∧ w.heap.size ≤ E1.b0
  n2 : w.heap.size ≤ E2.b ∧ w.heap.size ≤ E2.b0
  giv : GivR w' B v0' v1' (es ++ [E1] ++ [E2]) rs
  chg : Chg (Own B v0 v1) w w'
  safe : ∀ k, k < w.heap.size → ¬ Own B v0 v1 k → ¬ Own B v0' v1' k

set_option maxRecDepth 100000 in
set_option maxHeartbeats 16000000 in
theorem gratR_any (B : Nat) (v0 v1 : Value) (es : List Ent) (rs : Nat → Value) (g1 : Bool) (a : Option Addr) (n c : Nat) (x : List Nat) (b : Option Addr) (m d : Nat) (y : List Nat) (w : World) (h : GivR w B v0 v1 es rs) (hx : Sl w a n c x) (hy : Sl w b m d y) (lo : ∀ z, b = some z → y ≠ [] → z.block < B) (hn : n ≤ 35184372088000) (hm : m ≤ 35184372088000) (he : es.length ≤ 5700000000000) :
    Calls Tryd.prog 10 #[.pointer (some ⟨B, 0, none⟩), ratV g1 a n c b m d] w fun e w' => ∃ v, e = .returned v ∧ ∃ v0' v1' E1 E2, v = ratV g1 (some ⟨Ent.b E1, 0, none⟩) n E1.c (some ⟨Ent.b E2, 0, none⟩) m E2.c ∧ GrPost w w' B v0 v1 v0' v1' es rs x y E1 E2 := by
  have bx := Box.made w g1 a n c b m d
  obtain ⟨wa, hwa⟩ : ∃ wa, ratBox w g1 a n c b m d = wa := ⟨_, rfl⟩
  rw [hwa] at bx
  unfold ratBox at hwa
  have hba := bx.bel
  obtain ⟨wo, hwo⟩ : ∃ x, wa.alloc (.cells #[.bool false, .slice none 0 0, .slice none 0 0] 52) = x := ⟨_, rfl⟩
  have hbo : Below wa.heap.size wa wo := by rw [← hwo]; exact (Below.refl _ _).alloc (Nat.le_refl _) _
  have hT : Tri wo wa.heap.size (.bool false) (.slice none 0 0) (.slice none 0 0) := by rw [← hwo]; exact Tri.made _ _ _ _ _
  have bx2 := bx.keep hbo
  have hB := hba.trans (hbo.mono hba.size)
  have hO := h.below hB
  have p0 := bx2.d0
  have p1 := bx2.d1
  have p2 := bx2.d2
  have hlt := bx.lt
  have hlt2 : wa.heap.size < wo.heap.size := hT.lt
  have hnb : ¬ Own B v0 v1 w.heap.size := fun ho => by have := h.own_lt ho; omega
  have hnr : ¬ Own B v0 v1 wa.heap.size := fun ho => by have := h.own_lt ho; omega
  have HK1 := hide (fun (W : World) (hb : Below wo.heap.size wo W) => gnatR_any B v0 v1 es rs a n c x W (hO.below hb) ((hx.below hB).below hb) hn (by omega))
  have HY := hide (And.intro (hy.below hB) (fun z hz hne ho => by have := h.own_ge ho; have := lo z hz hne; omega : ∀ z, b = some z → y ≠ [] → ¬ Own B v0 v1 z.block))
  have hne1 : w.heap.size ≠ wa.heap.size := by omega
  have hne3 : wa.heap.size ≠ w.heap.size := by omega
  have HW := hide (And.intro hB.size (And.intro hnb (And.intro hnr (And.intro hlt hlt2))))
  have HT := hide hT
  have HCB := hide (show Chg (Own B v0 v1) w wo from Chg.of_below hB)
  have HE := hide he
  clear bx bx2 hba hbo hB hnb hnr hT hO h hx hy lo he
  unfold ratV
  go_enter Tryd.func10, Tryd.ntmps10
  go_wp2_with fail
  go_region_held3 (fun w' => w'.cell? ⟨w.heap.size, 0, none⟩ = some (.bool g1) ∧ w'.cell? ⟨w.heap.size, 1, none⟩ = some (.slice a n c) ∧ w'.cell? ⟨w.heap.size, 2, none⟩ = some (.slice b m d)) (first | go_keep | (exact ⟨k0, k1, k2⟩) | (exact ⟨j0, j1, j2⟩))
    (first
      | (go_at_call_of 25 (Value.slice a n c); refine (unhide HK1 _ (Below.refl _ _).drew).mono ?_; rintro _ wk ⟨u0, u1, E1, rfl, hx1, hE1, hL1, hc1, hs1⟩; have hcd : Chg (Own B v0 v1) wo wk := (Chg.of_drew wo).trans hc1; have k0 := hcd.cell (unhide HW).2.1 p0; have k1 := hcd.cell (unhide HW).2.1 p1; have k2 := hcd.cell (unhide HW).2.1 p2; have hT1 : Tri wk wa.heap.size (.bool false) (.slice none 0 0) (.slice none 0 0) := (unhide HT).chgW hcd (unhide HW).2.2.1; have HS1 := hide (And.intro hL1 (And.intro (And.intro hx1 (show wo.heap.size ≤ E1.b ∧ wo.heap.size ≤ E1.b0 from hE1)) (And.intro (hs1 w.heap.size (by have := (unhide HW).2.2.2; simp; omega) (unhide HW).2.1) (And.intro (hs1 wa.heap.size (by have := (unhide HW).2.2.2; simp; omega) (unhide HW).2.2.1) (And.intro hT1 (And.intro hcd.size ((unhide HY).1.chg hcd (unhide HY).2))))))); have HC1 := hide (And.intro hcd hs1); clear hL1 hx1 hE1 hc1 hs1 hcd hT1)
      | (go_at_call_of 25 (Value.slice b m d); refine (gnatR_any B u0 u1 (es ++ [E1]) rs b m d y _ (unhide HS1).1 (unhide HS1).2.2.2.2.2.2 hm (by have := unhide HE; simp; omega)).mono ?_; rintro _ wj ⟨z0, z1, E2, rfl, hx2, hE2, hL2, hc2, hs2⟩; have j0 := hc2.cell (unhide HS1).2.2.1 k0; have j1 := hc2.cell (unhide HS1).2.2.1 k1; have j2 := hc2.cell (unhide HS1).2.2.1 k2; have hT2 : Tri wj wa.heap.size (.bool false) (.slice none 0 0) (.slice none 0 0) := (unhide HS1).2.2.2.2.1.chgW hc2 (unhide HS1).2.2.2.1; have HO3 := hide hT2; have q0 := hT2.c0; have q1 := hT2.c1; have q2 := hT2.c2; have r0 := hT2.f0; have r1 := hT2.f1; have r2 := hT2.f2; have HS2 := hide (And.intro hL2 (And.intro (unhide HS1).2.1 (And.intro (And.intro hx2 (show wo.heap.size ≤ E2.b ∧ wo.heap.size ≤ E2.b0 from ⟨Nat.le_trans (unhide HS1).2.2.2.2.2.1 hE2.1, Nat.le_trans (unhide HS1).2.2.2.2.2.1 hE2.2⟩)) (hs2 wa.heap.size (unhide HS1).2.2.2.2.1.lt (unhide HS1).2.2.2.1)))); have HC2 := hide (And.intro hc2 hs2); clear hL2 hx2 hE2 hc2 hs2 hT2))
  have H4 := hide (three_set wj wa.heap.size (.bool g1) (.slice (some ⟨E1.b, 0, none⟩) n E1.c) (.slice (some ⟨E2.b, 0, none⟩) m E2.c) (unhide HO3).out.cells)
  clear q0 q1 q2 r0 r1 r2
  try go_wp2_with fail
  obtain ⟨t0, t1, t2, c4⟩ := unhide H4
  generalize ((wj.setCell ⟨wa.heap.size, 0, none⟩ (.bool g1)).setCell ⟨wa.heap.size, 1, none⟩ (.slice (some ⟨E1.b, 0, none⟩) n E1.c)).setCell ⟨wa.heap.size, 2, none⟩ (.slice (some ⟨E2.b, 0, none⟩) m E2.c) = wf at *
  refine bodyPost_ret (by simp [results, Tryd.results10, go_sem, t0, t1, t2]; try rfl) rfl ?_
  obtain ⟨hL2, ⟨hX1, hE1⟩, ⟨hX2, hE2⟩, hNR⟩ := unhide HS2
  refine ⟨_, rfl, _, _, E1, E2, rfl, ⟨hX1, hX2, ?_, ?_, hL2.setR (unhide HO3).c0 c4 hNR, ?_, ?_⟩⟩
  · have := (unhide HW).1; omega
  · have := (unhide HW).1; omega
  · have hB := unhide HCB
    have hcd := (unhide HC1).1
    have hc2 := (unhide HC2).1
    refine ⟨c4.os.trans (hc2.os.trans (hcd.os.trans hB.os)), c4.tape.trans (hc2.tape.trans (hcd.tape.trans hB.tape)), c4.output.trans (hc2.output.trans (hcd.output.trans hB.output)), Nat.le_trans hB.size (Nat.le_trans hcd.size (Nat.le_trans hc2.size c4.size)), fun k hk hS => ?_⟩
    have k1 : k < wo.heap.size := Nat.lt_of_lt_of_le hk hB.size
    have k2 : k < wk.heap.size := Nat.lt_of_lt_of_le k1 hcd.size
    have k3 : k < wj.heap.size := Nat.lt_of_lt_of_le k2 hc2.size
    rw [c4.block k k3 (fun e => by have := (unhide HW).2.2.2.1; omega), hc2.block k k2 ((unhide HC1).2 k k1 hS), hcd.block k k1 hS, hB.block k hk hS]
  · intro k hk hS
    have k1 : k < wo.heap.size := Nat.lt_of_lt_of_le hk (unhide HCB).size
    exact (unhide HC2).2 k (Nat.lt_of_lt_of_le k1 (unhide HC1).1.size) ((unhide HC1).2 k k1 hS)
end Go.Proofs.YtiadccaaoenccaaDoor
