/-
  WHAT A LAW CARRIES ALONG; how its arguments are opened.
-/
import Derived.Test.YtbendkndnojihabDoorBt7
import Derived.ProofKit
import Derived.OpenShut
import Derived.ShutString
import Derived.ChangeOld
import Derived.SizedLaws
namespace Go.Proofs.YtbendkndnojihabDoor
open Go.ChangeShapes Go.WideShapes Go.ChangeAt Go.RowKit Go.Deep
set_option linter.unusedVariables false

/-- A fact that new blocks do not change. -/
structure Fact where
  p : World → Prop
  st : ∀ {w w' : World}, Below w.heap.size w w' → p w → p w'
structure Facts (w0 w : World) (L : List Fact) : Prop where
  bel : Below w0.heap.size w0 w
  all : ∀ f ∈ L, f.p w
theorem Facts.step {w0 w w' : World} {L : List Fact} (h : Facts w0 w L) (k : Below w.heap.size w w') : Facts w0 w' L :=
  ⟨h.bel.trans (k.mono h.bel.size), fun f hf => f.st k (h.all f hf)⟩
theorem Facts.add {w0 w : World} {L : List Fact} (h : Facts w0 w L) (f : Fact) (hf : f.p w) : Facts w0 w (f :: L) :=
  ⟨h.bel, fun g hg => by rcases List.mem_cons.1 hg with rfl | hg; exact hf; exact h.all g hg⟩
def fW (a : Option Addr) (n c : Nat) (xs : List Nat) : Fact := ⟨fun w => SlW w a n c xs, fun k h => h.below k⟩
def fI (a : Option Addr) (n c : Nat) (xs : List Int) : Fact := ⟨fun w => SlI w a n c xs, fun k h => h.below k⟩
def fT (R : Nat) (v0 v1 : Value) : Fact := ⟨fun w => Two w R v0 v1, fun k h => h.keep k⟩
theorem Facts.w {w0 w : World} {L : List Fact} (h : Facts w0 w L) (a : Option Addr) (n c : Nat) (xs : List Nat) (hm : fW a n c xs ∈ L) : SlW w a n c xs := h.all _ hm
theorem Facts.i {w0 w : World} {L : List Fact} (h : Facts w0 w L) (a : Option Addr) (n c : Nat) (xs : List Int) (hm : fI a n c xs ∈ L) : SlI w a n c xs := h.all _ hm
theorem Facts.t {w0 w : World} {L : List Fact} (h : Facts w0 w L) (R : Nat) (v0 v1 : Value) (hm : fT R v0 v1 ∈ L) : Two w R v0 v1 := h.all _ hm
theorem Facts.box {w0 w : World} {L : List Fact} (h : Facts w0 w L) (v0 v1 : Value) (e : TypeId) : Facts w0 (w.alloc (.cells #[v0, v1] e)) (fT w.heap.size v0 v1 :: L) :=
  (h.step ((Below.refl _ _).alloc (Nat.le_refl _) _)).add (fT w.heap.size v0 v1) (Two.made _ _ _ _)
/-- A call's answer, laid in a variable. -/
theorem Facts.set {w0 w w' : World} {L : List Fact} (h : Facts w0 w L) {s : Int} {a : Option Addr} {n c : Nat} {xs : List Nat} (hs : SlW w' a n c xs) (hb : Below w.heap.size w w') (e : TypeId) :
    Facts w0 (w'.alloc (.cells #[.int .i64 s, .slice a n c] e)) (fT w'.heap.size (.int .i64 s) (.slice a n c) :: fW a n c xs :: L) :=
  ((h.step hb).add (fW a n c xs) hs).box _ _ _

theorem law_own : ownKnob Tryd.prog.godebug = none := by kernel_rfl
theorem law_laid : laidOutB Tryd.prog = true := by kernel_rfl

theorem law_bytesI : Tryd.prog.bytesOf 3 = 8 := by kernel_rfl
theorem law_cellsI : Tryd.prog.cellsOf 3 = 1 := by kernel_rfl
/-- A list of numbers that is handed in. -/
theorem arg_ints {H : Type} {enc : TypeId × Value → H} {W : World} {a : Option Addr} {n c : Nat} {d : DataW H} {p : List MemPlace}
    (h : DataW.Trod enc Tryd.prog W 0 (fun _ => true) true 52 (.slice a n c) d p) (hz : ∀ el sp, d = .slice el sp → (el.length + sp.length) * Tryd.prog.bytesOf 3 ≤ reachBytes) :
    ∃ xs, SlI W a n c xs ∧ (∀ x ∈ xs, -9223372036854775808 ≤ x ∧ x ≤ 9223372036854775807) ∧ n ≤ 17592186043904 ∧ (a = none → n = 0 ∧ c = 0) := by
  obtain ⟨fuel, hf⟩ := h
  rcases open_ints Tryd.underlying52 Tryd.underlying3 law_cellsI hf with ⟨hcs, _⟩ | ⟨x, l, k, zs, hcs, _, hl, hm, hzl, hx, hcell, hwz⟩
  · simp [Value.cells] at hcs
    obtain ⟨rfl, rfl, rfl⟩ := hcs
    exact ⟨[], SlG.nil _, (fun x hx => by cases hx), Nat.zero_le _, fun _ => ⟨rfl, rfl⟩⟩
  · simp [Value.cells] at hcs
    obtain ⟨rfl, rfl, rfl⟩ := hcs
    have hzl' : zs.length = c := by simpa using hzl
    have hd : d = .slice (lits .i64 (zs.take n)) (lits .i64 (zs.drop n)) := by injection hx
    have hb := hz _ _ hd
    have hlen : (lits (H := H) .i64 (zs.take n)).length + (lits (H := H) .i64 (zs.drop n)).length = c := by
      simp [lits]; omega
    rw [hlen, law_bytesI] at hb
    unfold reachBytes at hb
    refine ⟨zs.take n, ⟨by simp; omega, hl, hm, ?_⟩, fun y hy => bounds_i64 (hwz y (List.mem_of_mem_take hy)), by omega, fun h => by cases h⟩
    by_cases h0 : n = 0
    · left; subst h0; simp
    · right
      obtain ⟨b, off, spot⟩ := x
      have c0 := hcell 0 (by omega)
      have hspot : spot = none := by simpa [Addr.add] using World.cell?_spot c0
      subst hspot
      refine ⟨b, off, rfl, ?_⟩
      intro i hi
      have hi' : i < n := by simp at hi; omega
      have := hcell i (by omega)
      rw [addr_add] at this
      rw [this]
      simp [vI, List.getD, hi', show i < zs.length from by omega]
end Go.Proofs.YtbendkndnojihabDoor

namespace Go.Proofs.YtbendkndnojihabDoor
open Go.RowKit Go.Deep
set_option linter.unusedVariables false

def markN : Nat := 8608480567731124087

set_option maxHeartbeats 2000000 in
/-- slopelaw3.twin. -/
theorem twin_any (s : Int) (a : Option Addr) (n c : Nat) (xs : List Nat) (w : World) (h : SlW w a n c xs) (hn : n ≤ 17592186043904) (hnil : a = none → n = 0 ∧ c = 0) :
    Calls Tryd.prog 18 #[setV s a n c] w fun e w' => ∃ b cap, e = .returned (setV s (some ⟨b, 0, none⟩) n cap) ∧ SlW w' (some ⟨b, 0, none⟩) (n + 1) cap (xs ++ [markN]) ∧ Below w.heap.size w w' := by
  have hle := h.le
  have hcap := h.cap
  unfold maxLen at hcap
  obtain ⟨i64, hi, hz, hs, hb⟩ := info_parts Tryd.info_u64
  have HI := hide (And.intro hi (And.intro hz (And.intro hs hb)))
  obtain ⟨wa, hwa⟩ : ∃ wa, w.alloc (.cells #[.int .i64 s, .slice a n c] 35) = wa := ⟨_, rfl⟩
  obtain ⟨wb, hwb⟩ : ∃ wb, wa.alloc (.cells #[.int .i64 0, .slice none 0 0] 35) = wb := ⟨_, rfl⟩
  have hba : Below w.heap.size w wa := by rw [← hwa]; exact (Below.refl _ _).alloc (Nat.le_refl _) _
  have hbb : Below wa.heap.size wa wb := by rw [← hwb]; exact (Below.refl _ _).alloc (Nat.le_refl _) _
  have hT : Two wb w.heap.size (.int .i64 s) (.slice a n c) := by
    refine Two.keep (w := wa) ?_ hbb
    rw [← hwa]; exact Two.made _ _ _ _
  have hR : Two wb wa.heap.size (.int .i64 0) (.slice none 0 0) := by rw [← hwb]; exact Two.made _ _ _ _
  have hBB := hba.trans (hbb.mono hba.size)
  have HA := hide (And.intro hT (And.intro hR (And.intro ((h.below hba).below hbb) hBB)))
  have t1 := hT.c1
  have hszw : w.heap.size < wa.heap.size := by rw [← hwa]; simp
  have HNil := hide hnil
  have HL := hide h.len
  clear h hnil hi hz hs hb hba hbb hT hR hBB
  unfold setV
  go_enter Tryd.func18, Tryd.ntmps18
  go_wp2_with (at_builtin; refine wpList_append_nil rfl _ _ 33 rfl wb.heap.size 65 i64 (.int .u64 0) 8 Tryd.underlying33 (unhide HI).1 (unhide HI).2.1 (unhide HI).2.2.1 (unhide HI).2.2.2 rfl rfl a n c (xs.map vU) rfl ?hl (unhide HNil) ?hnews ?hone ?h63 ?hby (Nat.le_refl _) ?_)
  case hl => simp [unhide HL]
  case hnews => exact (unhide HA).2.2.1.news
  case hone => intro u hu; simp at hu; obtain ⟨x, _, rfl⟩ := hu; rfl
  case h63 => unfold maxLen; omega
  case hby => omega
  intro v1 w1 hown hg
  have hB1 : Below wb.heap.size wb w1 := Below.grown (Below.refl _ _) hg (Nat.le_refl _) (fun k hk => by cases hk)
  have hz1 := hg.size
  have HO := hide hown
  have HB1 := hide hB1
  clear hown hg hB1
  go_wp2_with (at_builtin; refine wpList_append_lies _ rfl _ _ 33 rfl wb.heap.size 65 i64 (.int .u64 0) 1 8 Tryd.underlying33 (unhide HI).1 (unhide HI).2.1 (unhide HI).2.2.1 (unhide HI).2.2.2 rfl (by decide) v1 n (xs.map vU) rfl ((unhide HO).alloc _) ⟨w1.heap.size, 0, none⟩ 1 1 [.int .u64 8608480567731124087] rfl rfl (World.news_of_block (alloc_block _ _)) ?c21 (by decide) ?c31 ?c41 ?c51 (w1.heap.size + 1) (by simp) ?_)
  case c21 => intro u hu; simp at hu; rcases hu with rfl; rfl
  case c31 => unfold maxLen; omega
  case c41 => omega
  case c51 => simp; omega
  intro g cap w2 hown hg hat hlt
  have hB2 : Below wb.heap.size wb w2 := Below.grown ((unhide HB1).alloc hz1 _) hg (by simp; omega) (fun k hk => (own_ge (unhide HO) k hk).1)
  have hs2 : SlW w2 (some ⟨g, 0, none⟩) (n + 1) cap (xs ++ [markN]) := own_sl (xs := xs ++ [markN]) 0 (by simpa [vU, markN] using hown)
  have hgb : wb.heap.size ≤ g := (own_ge hown g rfl).1
  have hc2 := hs2.le
  have hc3 := hs2.cap
  unfold maxLen at hc3
  have T2 := (unhide HA).1.keep hB2
  have R2 := (unhide HA).2.1.keep hB2
  have a0 := T2.c0
  have a1 := T2.c1
  have r0 := R2.c0
  have r1 := R2.c1
  have f0 := R2.f0
  have f1 := R2.f1
  have R3 := R2.set (.int .i64 s) (.slice (some ⟨g, 0, none⟩) n cap)
  have p0 := R3.c0
  have p1 := R3.c1
  have hRw := (unhide HA).2.1.lt
  have HE := hide (show SlW ((w2.setCell ⟨wa.heap.size, 0, none⟩ (.int .i64 s)).setCell ⟨wa.heap.size, 1, none⟩ (.slice (some ⟨g, 0, none⟩) n cap)) (some ⟨g, 0, none⟩) (n + 1) cap (xs ++ [markN]) ∧ Below w.heap.size w ((w2.setCell ⟨wa.heap.size, 0, none⟩ (.int .i64 s)).setCell ⟨wa.heap.size, 1, none⟩ (.slice (some ⟨g, 0, none⟩) n cap)) from
    ⟨hs2.chg (two_chg w2 wa.heap.size _ _) (fun x hx _ => by cases hx; show g ≠ _; omega), two_below ((unhide HA).2.2.2.trans (hB2.mono (by omega))) _ (by omega) _ _⟩)
  clear hs2 hown hg hat hlt HO T2 R2 R3 hB2 HB1 HA
  go_wp2_with fail
  go_region
  all_goals
    go_wp2_with fail
    refine bodyPost_ret (by simp [results, Tryd.results18, go_sem, p0, p1]; try rfl) rfl ?_
    exact ⟨g, cap, rfl, (unhide HE).1.below (Below.refl _ _).drew, (unhide HE).2.drew⟩
end Go.Proofs.YtbendkndnojihabDoor
