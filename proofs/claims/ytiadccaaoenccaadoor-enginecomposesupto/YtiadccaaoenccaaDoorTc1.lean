/- Sj0 -/
import Derived.Test.YtiadccaaoenccaaDoorTa0
import Derived.Test.YtiadccaaoenccaaDoorTe0
namespace Go.Proofs.YtiadccaaoenccaaDoor
open Go.RowKit Go.Deep
set_option linter.unusedVariables false
theorem SlI.front {w : World} {a : Option Addr} {c : Nat} {xs ys : List Int} (h : SlI w a (xs.length + 3) c (xs ++ ys)) {n : Nat} {x : List Int} (hx : xs = x) (hn : x.length = n) : SlI w a n c x := by
  subst hx
  refine ⟨hn, by have := h.le; omega, h.cap, ?_⟩
  rcases h.cells with e | ⟨b, off, e, k⟩
  · left
    exact (List.append_eq_nil_iff.1 e).1
  · right
    refine ⟨b, off, e, fun i hi => ?_⟩
    have := k i (by simp; omega)
    rw [this]
    congr 2
    simp [List.getD, List.getElem?_append_left hi]
def TruQ (b : Bool) (P : Prop) : Prop := b = true ↔ P
theorem TruQ.con {b : Bool} {P R : Prop} (h : TruQ b P) (e : R ↔ P) : TruQ b R := Iff.trans h e.symm
set_option maxHeartbeats 16000000 in
set_option maxRecDepth 100000 in
theorem wholeO_any (w : World) (B : Nat) (a14 a15 : Option Addr) (c14 c15 m : Nat) (ts : List Tn) (hm : ts.length = m) (hm2 : m ≤ 2 ^ 63 - 1)
    {a12 : Option Addr} {c12 : Nat} (h12 : w.cell? ⟨B, 12, none⟩ = some (.slice a12 0 c12)) (h14 : w.cell? ⟨B, 14, none⟩ = some (.slice a14 m c14)) (h15 : w.cell? ⟨B, 15, none⟩ = some (.slice a15 m c15)) {a16 : Option Addr} {c16 : Nat} (h16 : w.cell? ⟨B, 16, none⟩ = some (.slice a16 0 c16)) (h18 : w.cell? ⟨B, 18, none⟩ = some (.slice none 0 0))
    (hr : ∀ k (h : k < ts.length), ∃ g0 g1, a14 = some ⟨g0, 0, none⟩ ∧ a15 = some ⟨g1, 0, none⟩ ∧ w.cell? ⟨g0, k, none⟩ = some ts[k].v ∧ w.cell? ⟨g1, k, none⟩ = some ts[k].v0)
    (hts : ∀ t ∈ ts, SlO w (some ⟨Tn.b t, 0, none⟩) t.os.length t.c t.os ∧ SlO w (some ⟨t.b0, 0, none⟩) t.os0.length t.c0 t.os0 ∧ t.os.map conO = t.os0.map conO ∧ t.os.length ≤ 140737488355328) :
    Calls Tryd.prog 19 #[.pointer (some ⟨B, 0, none⟩)] w fun e w' => e = .returned (.bool true) ∧ Below w.heap.size w w' := by
  have HR := hide hr
  have HT := hide hts
  clear hr hts
  go_enter Tryd.func19, Tryd.ntmps19
  go_wp2
  go_loop [3] (fun i => i = .int .i64 0) (fun i => (intOf i).toNat)
  case atStart => rfl
  case round =>
    subst hrel
    go_wp2
    go_loopw [4] (fun i wr => ∃ k : Nat, k ≤ m ∧ i = .int .i64 k ∧ Hid (Below w.heap.size w wr)) (fun i _ => m - (intOf i).toNat)
    case atStart => exact ⟨0, Nat.zero_le _, rfl, Below.refl _ _⟩
    case round =>
      obtain ⟨k, hk, rfl, HB⟩ := hrel
      have r14 := ((unhide HB).cell (p := ⟨B, 14, none⟩) (World.block_lt_of_cell? _ _ h14)).trans h14
      have r15 := ((unhide HB).cell (p := ⟨B, 15, none⟩) (World.block_lt_of_cell? _ _ h15)).trans h15
      by_cases hlt : k < m
      · have hlt' : (k:Int) < (m:Int) := by omega
        obtain ⟨g0, g1, rfl, rfl, g0', g1'⟩ := unhide HR k (by omega)
        have HE := hide (unhide HT ts[k] (List.getElem_mem (by omega)))
        generalize ts[k] = Q at g0' g1' HE
        unfold Tn.v at g0'
        unfold Tn.v0 at g1'
        have hle : Q.os.length = Q.os0.length := by have := congrArg List.length (unhide HE).2.2.1; simpa using this
        rw [← hle] at g1'
        have s0 := ((unhide HB).cell (p := ⟨g0, k, none⟩) (World.block_lt_of_cell? _ _ g0')).trans g0'
        have s1 := ((unhide HB).cell (p := ⟨g1, k, none⟩) (World.block_lt_of_cell? _ _ g1')).trans g1'
        have K := hide (fun (W : World) (hb : Below wr.heap.size wr W) => sameTape_con 0 (some ⟨Q.b, 0, none⟩) Q.os.length Q.c Q.os none 0 0 (some ⟨Q.b0, 0, none⟩) Q.c0 Q.os0 none 0 [] W (((unhide HE).1.below (unhide HB)).below hb) (SlI.nil _) (by have h3 := (((unhide HE).2.1.below (unhide HB)).below hb); rw [← hle] at h3; exact h3) (SlI.nil _) (unhide HE).2.2.2 (by omega) (unhide HE).2.2.1)
        have Fr8 := fun x : Ext wr => x.cell r14
        have Fr9 := fun x : Ext wr => x.cell r15
        have Fs8 := fun x : Ext wr => x.cell s0
        have Fs9 := fun x : Ext wr => x.cell s1
        have hNE := Ext.ne wr
        clear HE hle g0' g1'
        unfold tapV at K
        go_wp2_with fail
        refine wp_region_ext (by kernel_rfl) (by kernel_rfl) ?_
        repeat (go_big_quiet_step (first | (go_at_call 9; rename_i x; exact Ext.call (unhide K x.w x.bel) (fun e w' h => h))))
        refine wpQuiet_nil ?_
        rintro _ ⟨xE, rfl⟩
        have HBE := hide ((unhide HB).trans (xE.bel.mono (unhide HB).size))
        clear Fr8 Fr9 Fs8 Fs9 hNE
        go_wp2_with fail
        exact ⟨⟨k + 1, by omega, by go_num, unhide HBE⟩, by simp [intOf]; omega⟩
      · have r16 := ((unhide HB).cell (p := ⟨B, 16, none⟩) (World.block_lt_of_cell? _ _ h16)).trans h16
        have r18 := ((unhide HB).cell (p := ⟨B, 18, none⟩) (World.block_lt_of_cell? _ _ h18)).trans h18
        go_wp2_with fail
        go_loopw [5] (fun i wr' => i = .int .i64 0 ∧ wr' = wr) (fun i _ => (intOf i).toNat)
        case atStart => exact ⟨rfl, rfl⟩
        case round =>
          obtain ⟨rfl, rfl⟩ := hrel
          go_wp2_with fail
          go_loopw [9] (fun i wr' => i = .int .i64 0 ∧ wr' = wr) (fun i _ => (intOf i).toNat)
          case atStart => exact ⟨rfl, rfl⟩
          case round =>
            obtain ⟨rfl, rfl⟩ := hrel
            go_wp2_with fail
            go_ret
            exact ⟨rfl, unhide HB⟩
set_option maxHeartbeats 16000000 in
set_option maxRecDepth 100000 in
theorem intactO_all (w : World) (B : Nat) (a0 a1 a14 a15 : Option Addr) (c0 c1 c14 c15 m mq : Nat) (es : List Ent) (ts : List Tn) (a4 a5 : Option Addr) (c4 c5 mi : Nat) (is : List EntI) (hmi : is.length = mi) (hi2 : mi ≤ maxLen) (hm : es.length = m) (hmq : ts.length = mq) (hm2 : m ≤ maxLen) (hq2 : mq ≤ maxLen)
    (h0 : w.cell? ⟨B, 0, none⟩ = some (.slice a0 m c0)) (h1 : w.cell? ⟨B, 1, none⟩ = some (.slice a1 m c1)) (h14 : w.cell? ⟨B, 14, none⟩ = some (.slice a14 mq c14)) (h15 : w.cell? ⟨B, 15, none⟩ = some (.slice a15 mq c15))
    (hr0 : ∀ k (h : k < es.length), ∃ g0 g1, a0 = some ⟨g0, 0, none⟩ ∧ a1 = some ⟨g1, 0, none⟩ ∧ w.cell? ⟨g0, k, none⟩ = some es[k].v ∧ w.cell? ⟨g1, k, none⟩ = some es[k].v0)
    (hr14 : ∀ k (h : k < ts.length), ∃ g0 g1, a14 = some ⟨g0, 0, none⟩ ∧ a15 = some ⟨g1, 0, none⟩ ∧ w.cell? ⟨g0, k, none⟩ = some ts[k].v ∧ w.cell? ⟨g1, k, none⟩ = some ts[k].v0)
    (hes : ∀ e ∈ es, Sl w (some ⟨Ent.b e, 0, none⟩) (e.xs.length + 3) e.c (e.xs ++ marks) ∧ Sl w (some ⟨e.b0, 0, none⟩) (e.xs.length + 3) e.c0 (e.xs ++ marks))
    (hts : ∀ t ∈ ts, SlO w (some ⟨Tn.b t, 0, none⟩) t.os.length t.c t.os ∧ SlO w (some ⟨t.b0, 0, none⟩) t.os0.length t.c0 t.os0 ∧ t.os.map conO = t.os0.map conO ∧ t.os.length ≤ 140737488355328)
    {a2 : Option Addr} {c2 : Nat} (h2 : w.cell? ⟨B, 2, none⟩ = some (.slice a2 0 c2)) (h4 : w.cell? ⟨B, 4, none⟩ = some (.slice a4 mi c4)) (h5 : w.cell? ⟨B, 5, none⟩ = some (.slice a5 mi c5))
    (hr4 : ∀ k (h : k < is.length), ∃ g0 g1, a4 = some ⟨g0, 0, none⟩ ∧ a5 = some ⟨g1, 0, none⟩ ∧ w.cell? ⟨g0, k, none⟩ = some is[k].v ∧ w.cell? ⟨g1, k, none⟩ = some is[k].v0)
    (his : ∀ e ∈ is, SlI w (some ⟨EntI.b e, 0, none⟩) (e.xs.length + 3) e.c (e.xs ++ marksI) ∧ SlI w (some ⟨e.b0, 0, none⟩) (e.xs.length + 3) e.c0 (e.xs ++ marksI) ∧ e.xs.length ≤ 17592186044000)
    {a6 : Option Addr} {c6 : Nat} (h6 : w.cell? ⟨B, 6, none⟩ = some (.slice a6 0 c6)) {a10 : Option Addr} {c10 : Nat} (h10 : w.cell? ⟨B, 10, none⟩ = some (.slice a10 0 c10)) {a12 : Option Addr} {c12 : Nat} (h12 : w.cell? ⟨B, 12, none⟩ = some (.slice a12 0 c12)) {a8 : Option Addr} {c8 : Nat} (h8 : w.cell? ⟨B, 8, none⟩ = some (.slice a8 0 c8)) {a16 : Option Addr} {c16 : Nat} (h16 : w.cell? ⟨B, 16, none⟩ = some (.slice a16 0 c16)) (h18 : w.cell? ⟨B, 18, none⟩ = some (.slice none 0 0)) :
    Calls Tryd.prog 6 #[.pointer (some ⟨B, 0, none⟩)] w fun e w' => e = .returned (.bool true) ∧ Below w.heap.size w w' := by
  unfold maxLen at hm2 hq2 hi2
  have HR4 := hide hr4
  have HIS := hide his
  clear hr4 his
  have HR0 := hide hr0
  have HR14 := hide hr14
  have HES := hide hes
  have HTS := hide hts
  clear hr0 hr14 hes hts
  go_enter Tryd.func6, Tryd.ntmps6
  go_wp2
  go_loopw [3] (fun i wr => ∃ k : Nat, k ≤ m ∧ i = .int .i64 k ∧ ∃ d, wr = w.drewN d) (fun i _ => m - (intOf i).toNat)
  case atStart => exact ⟨0, Nat.zero_le _, rfl, 0, rfl⟩
  case round =>
    obtain ⟨k, hk, rfl, d, rfl⟩ := hrel
    by_cases hlt : k < m
    · have hlt' : (k:Int) < (m:Int) := by omega
      obtain ⟨g0, g1, rfl, rfl, g0', g1'⟩ := unhide HR0 k (by omega)
      have HE := hide (unhide HES es[k] (List.getElem_mem (by omega)))
      generalize es[k] = E at g0' g1' HE
      unfold Ent.v at g0'
      unfold Ent.v0 at g1'
      have K := fun j => (sameNat_any _ _ _ _ _ _ _ _ (w.drewN j) ((unhide HE).1.drewN j) ((unhide HE).2.drewN j))
      rw [show decide (E.xs ++ marks = E.xs ++ marks) = true from by simp] at K
      have KK := hide K
      clear K HE
      go_wp2_with fail
      go_quiet ((go_at_call 13; exact quiet_at (unhide KK _)))
      go_wp2
      exact ⟨⟨k + 1, by omega, by go_num, _, rfl⟩, by simp [intOf]; omega⟩
    · go_wp2_with fail
      go_loopw [4] (fun i wr => i = .int .i64 0 ∧ ∃ d, wr = w.drewN d) (fun i _ => (intOf i).toNat)
      case atStart => exact ⟨rfl, _, rfl⟩
      case round =>
        obtain ⟨rfl, d, rfl⟩ := hrel
        go_wp2_with fail
        go_loopw [5] (fun i wr => ∃ k : Nat, k ≤ mi ∧ i = .int .i64 k ∧ ∃ d, wr = w.drewN d) (fun i _ => mi - (intOf i).toNat)
        case atStart => exact ⟨0, Nat.zero_le _, rfl, _, rfl⟩
        case round =>
          obtain ⟨k, hk, rfl, d, rfl⟩ := hrel
          by_cases hlt : k < mi
          · have hlt' : (k:Int) < (mi:Int) := by omega
            obtain ⟨g0, g1, rfl, rfl, g0', g1'⟩ := unhide HR4 k (by omega)
            have HE := hide (unhide HIS is[k] (List.getElem_mem (by omega)))
            generalize is[k] = E at g0' g1' HE
            unfold EntI.v at g0'
            unfold EntI.v0 at g1'
            have KK := hide (fun j => (sameInts_eq _ _ _ _ _ _ (w.drewN j) ((unhide HE).1.below (bel_drewN (Below.refl _ _) j)) ((unhide HE).2.1.below (bel_drewN (Below.refl _ _) j)) (by have := (unhide HE).2.2; omega)))
            clear HE
            go_wp2_with fail
            go_quiet ((go_at_call 15; exact quiet_at (unhide KK _)))
            go_wp2
            exact ⟨⟨k + 1, by omega, by go_num, _, rfl⟩, by simp [intOf]; omega⟩
          · go_wp2_with fail
            go_loopw [6] (fun i wr => i = .int .i64 0 ∧ ∃ d, wr = w.drewN d) (fun i _ => (intOf i).toNat)
            case atStart => exact ⟨rfl, _, rfl⟩
            case round =>
              obtain ⟨rfl, d, rfl⟩ := hrel
              go_wp2_with fail
              go_loopw [7] (fun i wr => i = .int .i64 0 ∧ ∃ d, wr = w.drewN d) (fun i _ => (intOf i).toNat)
              case atStart => exact ⟨rfl, _, rfl⟩
              case round =>
                obtain ⟨rfl, d, rfl⟩ := hrel
                go_wp2_with fail
                go_loopw [8] (fun i wr => i = .int .i64 0 ∧ ∃ d, wr = w.drewN d) (fun i _ => (intOf i).toNat)
                case atStart => exact ⟨rfl, _, rfl⟩
                case round =>
                  obtain ⟨rfl, d, rfl⟩ := hrel
                  have HB : Below w.heap.size w (w.drewN d) := bel_drewN (Below.refl _ _) d
                  have K := wholeO_any (w.drewN d) B a14 a15 c14 c15 mq ts hmq hq2 (by simpa using h12) (by simpa using h14) (by simpa using h15) (by simpa using h16) (by simpa using h18) (fun k hk => by simpa using unhide HR14 k hk) (fun t ht => by
                    have T := unhide HTS t ht
                    exact ⟨T.1.below HB, T.2.1.below HB, T.2.2⟩)
                  have HK := hide K
                  have HB' := hide HB
                  clear K HB
                  go_wp2_with fail
                  refine (unhide HK).mono ?_
                  rintro e w' ⟨rfl, hb⟩
                  have HE := hide ((unhide HB').trans (hb.mono (unhide HB').size))
                  clear hb
                  go_wp2_with fail
                  go_ret
                  exact ⟨rfl, unhide HE⟩
theorem own_nil {w : World} {base : Nat} {e : TypeId} {v : Value} (h : w.ownsRow base e 1 v 0 []) : ∃ a c, v = .slice a 0 c := by
  obtain ⟨a, c, h1, _⟩ := own_at h
  exact ⟨a, c, h1⟩
theorem intactO_any {w : World} {B : Nat} {f : Nat → Value} {P : Nat → Prop} {es : List Ent} {is : List EntI} {ts : List Tn} (h : GvT w B f P es is ts) (hts : ∀ t ∈ ts, t.os.length ≤ 140737488355328) :
    Calls Tryd.prog 6 #[.pointer (some ⟨B, 0, none⟩)] w fun e w' => e = .returned (.bool true) ∧ Below w.heap.size w w' := by
  have cr : ∀ i, i < 20 → w.cell? ⟨B, i, none⟩ = some (f i) := fun i hi => (h.gv.cell i hi).1
  have nl : ∀ i, i < 18 → rowT es is ts i = [] → ∃ a c, w.cell? ⟨B, i, none⟩ = some (.slice a 0 c) := fun i hi e => by
    have h1 := h.gv.own i hi
    rw [e] at h1
    obtain ⟨a, c, h2⟩ := own_nil h1
    exact ⟨a, c, by rw [cr i (by omega), h2]⟩
  obtain ⟨_, _, n2⟩ := nl 2 (by omega) rfl
  obtain ⟨_, _, n6⟩ := nl 6 (by omega) rfl
  obtain ⟨_, _, n8⟩ := nl 8 (by omega) rfl
  obtain ⟨_, _, n10⟩ := nl 10 (by omega) rfl
  obtain ⟨_, _, n12⟩ := nl 12 (by omega) rfl
  obtain ⟨_, _, n16⟩ := nl 16 (by omega) rfl
  have at2 : ∀ i, i < 18 → ∃ a c, f i = .slice a (rowT es is ts i).length c ∧ (rowT es is ts i).length ≤ maxLen ∧ ∀ k (hk : k < (rowT es is ts i).length), ∃ g, a = some ⟨g, 0, none⟩ ∧ w.cell? ⟨g, k, none⟩ = some (rowT es is ts i)[k] := fun i hi => own_at (h.gv.own i hi)
  obtain ⟨a0, c0, e0, l0, x0⟩ := at2 0 (by omega)
  obtain ⟨a1, c1, e1, l1, x1⟩ := at2 1 (by omega)
  obtain ⟨a4, c4, e4, l4, x4⟩ := at2 4 (by omega)
  obtain ⟨a5, c5, e5, l5, x5⟩ := at2 5 (by omega)
  obtain ⟨a14, c14, e14, l14, x14⟩ := at2 14 (by omega)
  obtain ⟨a15, c15, e15, l15, x15⟩ := at2 15 (by omega)
  simp only [rowT, List.length_map] at e0 e1 e4 e5 e14 e15 l0 l4 l14 x0 x1 x4 x5 x14 x15
  refine intactO_all w B a0 a1 a14 a15 c0 c1 c14 c15 es.length ts.length es ts a4 a5 c4 c5 is.length is rfl l4 rfl rfl l0 l14 ((cr 0 (by omega)).trans (congrArg some e0)) ((cr 1 (by omega)).trans (congrArg some e1)) ((cr 14 (by omega)).trans (congrArg some e14)) ((cr 15 (by omega)).trans (congrArg some e15)) ?_ ?_ (fun e he => (h.e e he).1) ?_ n2 ((cr 4 (by omega)).trans (congrArg some e4)) ((cr 5 (by omega)).trans (congrArg some e5)) ?_ (fun e he => ⟨(h.i e he).1.1.1, (h.i e he).1.1.2, (h.i e he).1.2⟩) n6 n10 n12 n8 n16 ((cr 18 (by omega)).trans (congrArg some h.gv.md))
  · intro k hk
    obtain ⟨g, e, hg⟩ := x0 k hk
    obtain ⟨g', e', hg'⟩ := x1 k hk
    exact ⟨g, g', e, e', by simpa using hg, by simpa using hg'⟩
  · intro k hk
    obtain ⟨g, e, hg⟩ := x14 k hk
    obtain ⟨g', e', hg'⟩ := x15 k hk
    exact ⟨g, g', e, e', by simpa using hg, by simpa using hg'⟩
  · intro t ht
    have T := (h.t t ht).1
    exact ⟨T.1.1.fil.slo rfl T.1.1.le T.1.1.each, T.1.2.fil.slo rfl T.1.2.le T.1.2.each, T.2, hts t ht⟩
  · intro k hk
    obtain ⟨g, e, hg⟩ := x4 k hk
    obtain ⟨g', e', hg'⟩ := x5 k hk
    exact ⟨g, g', e, e', by simpa using hg, by simpa using hg'⟩
end Go.Proofs.YtiadccaaoenccaaDoor
