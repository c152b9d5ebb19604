/- Te4 -/
import Derived.Test.YtiadccaaoenccaaDoorTe3
import Derived.Test.YtiadccaaoenccaaDoorTe0
import Derived.Test.YtiadccaaoenccaaDoorBy7
namespace Go.Proofs.YtiadccaaoenccaaDoor
open Go.RowKit Go.Deep
set_option linter.unusedVariables false
theorem sli_made (w : World) (xs : List Int) (t : TypeId) (h : xs.length ≤ 128) : SlI (w.alloc (.cells (xs.map (fun x => Value.int .i64 x)).toArray t)) (some ⟨w.heap.size, 0, none⟩) xs.length xs.length xs := by
  refine ⟨rfl, Nat.le_refl _, by unfold maxLen; omega, .inr ⟨w.heap.size, 0, rfl, fun i hi => ?_⟩⟩
  rw [Nat.zero_add]
  exact (cell_of_block (alloc_block _ _) i).trans (by simp [List.getD, hi])
def OpsA (w : World) (l : List Int) (e : Ending) (w' : World) : Prop := ∃ z m c, e = .returned (.slice z m c) ∧ SlI w' z m c l ∧ (∀ y, z = some y → w.heap.size ≤ y.block) ∧ Below w.heap.size w w'
set_option maxRecDepth 100000 in
set_option maxHeartbeats 8000000 in
theorem toperands_1 (a b n : Int) (p : Nq) (w : World) :
    Calls Tryd.prog 43 #[opV ⟨1, a, b, n, p⟩] w (OpsA w (opsL ⟨1, a, b, n, p⟩)) := by
  obtain ⟨wo, hwo⟩ : ∃ x, w.alloc (.cells #[.int .i64 1, .int .i64 a, .int .i64 b, .int .i64 n, .bool p.g, .slice p.a p.n p.c, .slice p.b p.m p.d] 54) = x := ⟨_, rfl⟩
  have br : BoxP wo w.heap.size [.int .i64 1, .int .i64 a, .int .i64 b, .int .i64 n, .bool p.g, .slice p.a p.n p.c, .slice p.b p.m p.d] := by rw [← hwo]; exact BoxP.made _ _ _
  have hbo : Below w.heap.size w wo := by rw [← hwo]; exact (Below.refl _ _).alloc (Nat.le_refl _) _
  have HB := hide hbo
  have f0 := (br.all 0 _ rfl).1
  have f1 := (br.all 1 _ rfl).1
  have f2 := (br.all 2 _ rfl).1
  unfold opV
  clear br hbo
  go_enter Tryd.func43, Tryd.ntmps43
  go_wp2_with fail
  go_ret
  exact ⟨none, 0, 0, rfl, SlI.nil _, (fun y e => by cases e), unhide HB⟩
set_option maxRecDepth 100000 in
set_option maxHeartbeats 8000000 in
theorem toperands_2 (a b n : Int) (p : Nq) (w : World) :
    Calls Tryd.prog 43 #[opV ⟨2, a, b, n, p⟩] w (OpsA w (opsL ⟨2, a, b, n, p⟩)) := by
  obtain ⟨wo, hwo⟩ : ∃ x, w.alloc (.cells #[.int .i64 2, .int .i64 a, .int .i64 b, .int .i64 n, .bool p.g, .slice p.a p.n p.c, .slice p.b p.m p.d] 54) = x := ⟨_, rfl⟩
  have br : BoxP wo w.heap.size [.int .i64 2, .int .i64 a, .int .i64 b, .int .i64 n, .bool p.g, .slice p.a p.n p.c, .slice p.b p.m p.d] := by rw [← hwo]; exact BoxP.made _ _ _
  have hbo : Below w.heap.size w wo := by rw [← hwo]; exact (Below.refl _ _).alloc (Nat.le_refl _) _
  have HB := hide hbo
  have f0 := (br.all 0 _ rfl).1
  have f1 := (br.all 1 _ rfl).1
  have f2 := (br.all 2 _ rfl).1
  unfold opV
  clear br hbo
  go_enter Tryd.func43, Tryd.ntmps43
  go_wp2_with fail
  go_ret
  exact ⟨none, 0, 0, rfl, SlI.nil _, (fun y e => by cases e), unhide HB⟩
set_option maxRecDepth 100000 in
set_option maxHeartbeats 8000000 in
theorem toperands_3 (a b n : Int) (p : Nq) (w : World) :
    Calls Tryd.prog 43 #[opV ⟨3, a, b, n, p⟩] w (OpsA w (opsL ⟨3, a, b, n, p⟩)) := by
  obtain ⟨wo, hwo⟩ : ∃ x, w.alloc (.cells #[.int .i64 3, .int .i64 a, .int .i64 b, .int .i64 n, .bool p.g, .slice p.a p.n p.c, .slice p.b p.m p.d] 54) = x := ⟨_, rfl⟩
  have br : BoxP wo w.heap.size [.int .i64 3, .int .i64 a, .int .i64 b, .int .i64 n, .bool p.g, .slice p.a p.n p.c, .slice p.b p.m p.d] := by rw [← hwo]; exact BoxP.made _ _ _
  have hbo : Below w.heap.size w wo := by rw [← hwo]; exact (Below.refl _ _).alloc (Nat.le_refl _) _
  have HB := hide hbo
  have f0 := (br.all 0 _ rfl).1
  have f1 := (br.all 1 _ rfl).1
  have f2 := (br.all 2 _ rfl).1
  unfold opV
  clear br hbo
  go_enter Tryd.func43, Tryd.ntmps43
  go_wp2_with fail
  go_ret
  exact ⟨_, _, _, rfl, sli_made _ [a, b] _ (by simp), (fun y e => by cases e; exact (unhide HB).size), (unhide HB).alloc (unhide HB).size _⟩
set_option maxRecDepth 100000 in
set_option maxHeartbeats 8000000 in
theorem toperands_4 (a b n : Int) (p : Nq) (w : World) :
    Calls Tryd.prog 43 #[opV ⟨4, a, b, n, p⟩] w (OpsA w (opsL ⟨4, a, b, n, p⟩)) := by
  obtain ⟨wo, hwo⟩ : ∃ x, w.alloc (.cells #[.int .i64 4, .int .i64 a, .int .i64 b, .int .i64 n, .bool p.g, .slice p.a p.n p.c, .slice p.b p.m p.d] 54) = x := ⟨_, rfl⟩
  have br : BoxP wo w.heap.size [.int .i64 4, .int .i64 a, .int .i64 b, .int .i64 n, .bool p.g, .slice p.a p.n p.c, .slice p.b p.m p.d] := by rw [← hwo]; exact BoxP.made _ _ _
  have hbo : Below w.heap.size w wo := by rw [← hwo]; exact (Below.refl _ _).alloc (Nat.le_refl _) _
  have HB := hide hbo
  have f0 := (br.all 0 _ rfl).1
  have f1 := (br.all 1 _ rfl).1
  have f2 := (br.all 2 _ rfl).1
  unfold opV
  clear br hbo
  go_enter Tryd.func43, Tryd.ntmps43
  go_wp2_with fail
  go_ret
  exact ⟨_, _, _, rfl, sli_made _ [a, b] _ (by simp), (fun y e => by cases e; exact (unhide HB).size), (unhide HB).alloc (unhide HB).size _⟩
set_option maxRecDepth 100000 in
set_option maxHeartbeats 8000000 in
theorem toperands_5 (a b n : Int) (p : Nq) (w : World) :
    Calls Tryd.prog 43 #[opV ⟨5, a, b, n, p⟩] w (OpsA w (opsL ⟨5, a, b, n, p⟩)) := by
  obtain ⟨wo, hwo⟩ : ∃ x, w.alloc (.cells #[.int .i64 5, .int .i64 a, .int .i64 b, .int .i64 n, .bool p.g, .slice p.a p.n p.c, .slice p.b p.m p.d] 54) = x := ⟨_, rfl⟩
  have br : BoxP wo w.heap.size [.int .i64 5, .int .i64 a, .int .i64 b, .int .i64 n, .bool p.g, .slice p.a p.n p.c, .slice p.b p.m p.d] := by rw [← hwo]; exact BoxP.made _ _ _
  have hbo : Below w.heap.size w wo := by rw [← hwo]; exact (Below.refl _ _).alloc (Nat.le_refl _) _
  have HB := hide hbo
  have f0 := (br.all 0 _ rfl).1
  have f1 := (br.all 1 _ rfl).1
  have f2 := (br.all 2 _ rfl).1
  unfold opV
  clear br hbo
  go_enter Tryd.func43, Tryd.ntmps43
  go_wp2_with fail
  go_ret
  exact ⟨_, _, _, rfl, sli_made _ [a, b] _ (by simp), (fun y e => by cases e; exact (unhide HB).size), (unhide HB).alloc (unhide HB).size _⟩
set_option maxRecDepth 100000 in
set_option maxHeartbeats 8000000 in
theorem toperands_6 (a b n : Int) (p : Nq) (w : World) :
    Calls Tryd.prog 43 #[opV ⟨6, a, b, n, p⟩] w (OpsA w (opsL ⟨6, a, b, n, p⟩)) := by
  obtain ⟨wo, hwo⟩ : ∃ x, w.alloc (.cells #[.int .i64 6, .int .i64 a, .int .i64 b, .int .i64 n, .bool p.g, .slice p.a p.n p.c, .slice p.b p.m p.d] 54) = x := ⟨_, rfl⟩
  have br : BoxP wo w.heap.size [.int .i64 6, .int .i64 a, .int .i64 b, .int .i64 n, .bool p.g, .slice p.a p.n p.c, .slice p.b p.m p.d] := by rw [← hwo]; exact BoxP.made _ _ _
  have hbo : Below w.heap.size w wo := by rw [← hwo]; exact (Below.refl _ _).alloc (Nat.le_refl _) _
  have HB := hide hbo
  have f0 := (br.all 0 _ rfl).1
  have f1 := (br.all 1 _ rfl).1
  have f2 := (br.all 2 _ rfl).1
  unfold opV
  clear br hbo
  go_enter Tryd.func43, Tryd.ntmps43
  go_wp2_with fail
  go_ret
  exact ⟨_, _, _, rfl, sli_made _ [a, b] _ (by simp), (fun y e => by cases e; exact (unhide HB).size), (unhide HB).alloc (unhide HB).size _⟩
set_option maxRecDepth 100000 in
set_option maxHeartbeats 8000000 in
theorem toperands_7 (a b n : Int) (p : Nq) (w : World) :
    Calls Tryd.prog 43 #[opV ⟨7, a, b, n, p⟩] w (OpsA w (opsL ⟨7, a, b, n, p⟩)) := by
  obtain ⟨wo, hwo⟩ : ∃ x, w.alloc (.cells #[.int .i64 7, .int .i64 a, .int .i64 b, .int .i64 n, .bool p.g, .slice p.a p.n p.c, .slice p.b p.m p.d] 54) = x := ⟨_, rfl⟩
  have br : BoxP wo w.heap.size [.int .i64 7, .int .i64 a, .int .i64 b, .int .i64 n, .bool p.g, .slice p.a p.n p.c, .slice p.b p.m p.d] := by rw [← hwo]; exact BoxP.made _ _ _
  have hbo : Below w.heap.size w wo := by rw [← hwo]; exact (Below.refl _ _).alloc (Nat.le_refl _) _
  have HB := hide hbo
  have f0 := (br.all 0 _ rfl).1
  have f1 := (br.all 1 _ rfl).1
  have f2 := (br.all 2 _ rfl).1
  unfold opV
  clear br hbo
  go_enter Tryd.func43, Tryd.ntmps43
  go_wp2_with fail
  go_ret
  exact ⟨_, _, _, rfl, sli_made _ [a] _ (by simp), (fun y e => by cases e; exact (unhide HB).size), (unhide HB).alloc (unhide HB).size _⟩
set_option maxRecDepth 100000 in
set_option maxHeartbeats 8000000 in
theorem toperands_8 (a b n : Int) (p : Nq) (w : World) :
    Calls Tryd.prog 43 #[opV ⟨8, a, b, n, p⟩] w (OpsA w (opsL ⟨8, a, b, n, p⟩)) := by
  obtain ⟨wo, hwo⟩ : ∃ x, w.alloc (.cells #[.int .i64 8, .int .i64 a, .int .i64 b, .int .i64 n, .bool p.g, .slice p.a p.n p.c, .slice p.b p.m p.d] 54) = x := ⟨_, rfl⟩
  have br : BoxP wo w.heap.size [.int .i64 8, .int .i64 a, .int .i64 b, .int .i64 n, .bool p.g, .slice p.a p.n p.c, .slice p.b p.m p.d] := by rw [← hwo]; exact BoxP.made _ _ _
  have hbo : Below w.heap.size w wo := by rw [← hwo]; exact (Below.refl _ _).alloc (Nat.le_refl _) _
  have HB := hide hbo
  have f0 := (br.all 0 _ rfl).1
  have f1 := (br.all 1 _ rfl).1
  have f2 := (br.all 2 _ rfl).1
  unfold opV
  clear br hbo
  go_enter Tryd.func43, Tryd.ntmps43
  go_wp2_with fail
  go_ret
  exact ⟨_, _, _, rfl, sli_made _ [a] _ (by simp), (fun y e => by cases e; exact (unhide HB).size), (unhide HB).alloc (unhide HB).size _⟩
theorem toperands_any (o : On) (h1 : 1 ≤ o.k) (h8 : o.k ≤ 8) (w : World) : Calls Tryd.prog 43 #[opV o] w (OpsA w (opsL o)) := by
  obtain ⟨k, a, b, n, p⟩ := o
  simp only at h1 h8
  obtain ⟨j, rfl⟩ : ∃ j : Nat, k = (j : Int) := ⟨k.toNat, by omega⟩
  match j, (show 1 ≤ j by omega), (show j ≤ 8 by omega) with
  | 1, _, _ => exact toperands_1 a b n p w
  | 2, _, _ => exact toperands_2 a b n p w
  | 3, _, _ => exact toperands_3 a b n p w
  | 4, _, _ => exact toperands_4 a b n p w
  | 5, _, _ => exact toperands_5 a b n p w
  | 6, _, _ => exact toperands_6 a b n p w
  | 7, _, _ => exact toperands_7 a b n p w
  | 8, _, _ => exact toperands_8 a b n p w
theorem any_next {p : Int → Bool} {l : List Int} {j : Nat} (hj : j < l.length) (h : (l.take j).any p = false) (hv : p (l.getD j 0) = false) : (l.take (j + 1)).any p = false := by
  rw [List.take_succ_eq_append_getElem hj, List.any_append, h]
  rw [List.getD_eq_getElem?_getD, List.getElem?_eq_getElem hj] at hv
  simpa using hv
theorem any_here {p : Int → Bool} {l : List Int} {j : Nat} (hj : j < l.length) (hv : p (l.getD j 0) = true) : l.any p = true := by
  rw [List.getD_eq_getElem?_getD, List.getElem?_eq_getElem hj] at hv
  exact List.any_eq_true.2 ⟨l[j], List.getElem_mem hj, by simpa using hv⟩
theorem opsL_len (o : On) : (opsL o).length ≤ 2 := by
  unfold opsL
  split
  · simp
  · split <;> simp
def KKo (o : On) (k : Nat) : Prop := o.k = (k : Int) ∧ 1 ≤ k ∧ k ≤ 8
def opR (i : Nat) (o : On) : Int := if (opsL o).any (fun v => offI v i) = true then 106 else if o.n < -1024 ∨ 1024 < o.n then 107 else 0
theorem opR_106 {i : Nat} {o : On} (h : (opsL o).any (fun v => offI v i) = true) : opR i o = 106 := by unfold opR; rw [if_pos h]
theorem opR_107 {i : Nat} {o : On} (h : (opsL o).any (fun v => offI v i) = false) (hn : o.n < -1024 ∨ 1024 < o.n) : opR i o = 107 := by unfold opR; rw [if_neg (by simp [h]), if_pos hn]
theorem opR_0 {i : Nat} {o : On} (h : (opsL o).any (fun v => offI v i) = false) (hn : ¬ (o.n < -1024 ∨ 1024 < o.n)) : opR i o = 0 := by unfold opR; rw [if_neg (by simp [h]), if_neg hn]
theorem opR_of {o : On} {k : Nat} (h : KKo o k) {inp : Int} {i : Nat} (hu : unuO o = false) (h1 : o.k = 1 → offI o.a inp = false) (h2 : o.k = 2 → MayR o.p.g o.p.x o.p.y = true) : opF inp i o = opR i o := by
  obtain ⟨e, a, b⟩ := h
  unfold opF
  rw [if_neg (by omega), if_neg (by simp [hu]), if_neg (fun h => by have := h1 h.1; rw [this] at h; exact absurd h.2 (by decide)), if_neg (fun h => by have := h2 h.1; rw [this] at h; exact absurd h.2 (by decide))]
  rfl
theorem op_104 {o : On} {k : Nat} (h : KKo o k) {inp : Int} {i : Nat} (hu : unuO o = true) : opF inp i o = 104 := by
  obtain ⟨e, a, b⟩ := h
  unfold opF
  rw [if_neg (by omega), if_pos hu]
theorem op_105 {o : On} (h : KKo o 1) {inp : Int} {i : Nat} (hu : unuO o = false) (h1 : offI o.a inp = true) : opF inp i o = 105 := by
  obtain ⟨e, a, b⟩ := h
  unfold opF
  rw [if_neg (by omega), if_neg (by simp [hu]), if_pos ⟨by simpa using e, h1⟩]
theorem op_40 {o : On} (h : KKo o 2) {inp : Int} {i : Nat} (hu : unuO o = false) (h1 : MayR o.p.g o.p.x o.p.y = false) : opF inp i o = 40 := by
  obtain ⟨e, a, b⟩ := h
  unfold opF
  rw [if_neg (by omega), if_neg (by simp [hu]), if_neg (by omega), if_pos ⟨by simpa using e, h1⟩]
set_option maxRecDepth 100000 in
set_option maxHeartbeats 16000000 in
theorem topf_any (i : Int) (a : Option Addr) (n c : Nat) (os : List On) (b : Option Addr) (m d : Nat) (at' : Nat) (o : On) (w : World) (hs : SlO w a n c os) (ho : os[at']? = some o) (hn : n ≤ 140737488355328) (hT : Tab64 w) (hS : TabSh w) :
    Calls Tryd.prog 32 #[tapV i a n c b m d, .int .i64 (at' : Int)] w fun e w' => e = .returned (.int .i64 (opF i at' o)) ∧ Below w.heap.size w w' := by
  have hat : at' < n := by have := (List.getElem?_eq_some_iff.1 ho).1; have := hs.len; omega
  obtain ⟨wa, hwa⟩ : ∃ x, w.alloc (.cells #[.int .i64 i, .slice a n c, .slice b m d] 25) = x := ⟨_, rfl⟩
  have bx : BoxP wa w.heap.size [.int .i64 i, .slice a n c, .slice b m d] := by rw [← hwa]; exact BoxP.made _ _ _
  have hba : Below w.heap.size w wa := by rw [← hwa]; exact (Below.refl _ _).alloc (Nat.le_refl _) _
  have zlt : w.heap.size < wa.heap.size := bx.lt
  obtain ⟨b1, off, o', rfl, hoo, O, hok⟩ := (hs.below hba).at' hat
  obtain rfl : o = o' := by rw [ho] at hoo; exact Option.some.inj hoo
  obtain ⟨c0, c1, c2, c3, c4, c5, c6⟩ := O
  have g1 := (bx.all 1 _ rfl).1
  have h1' : (0:Int) ≤ (at' : Int) := by omega
  have h2' : (at' : Int) < (n : Int) := by omega
  have HX := hide (And.intro bx (And.intro hba zlt))
  have HO := hide hok
  have HT := hide (And.intro (hT.below hba) (hS.below hba))
  have HI := hide hoo
  clear bx hba hs ho hok hT hS hoo
  unfold tapV
  go_enter Tryd.func32, Tryd.ntmps32
  go_wp2_with fail
  have br : BoxP (wa.alloc (.cells #[.int .i64 o.k, .int .i64 o.a, .int .i64 o.b, .int .i64 o.n, .bool o.p.g, .slice o.p.a o.p.n o.p.c, .slice o.p.b o.p.m o.p.d] 54)) wa.heap.size [.int .i64 o.k, .int .i64 o.a, .int .i64 o.b, .int .i64 o.n, .bool o.p.g, .slice o.p.a o.p.n o.p.c, .slice o.p.b o.p.m o.p.d] := BoxP.made _ _ _
  have hbo : Below wa.heap.size wa (wa.alloc (.cells #[.int .i64 o.k, .int .i64 o.a, .int .i64 o.b, .int .i64 o.n, .bool o.p.g, .slice o.p.a o.p.n o.p.c, .slice o.p.b o.p.m o.p.d] 54)) := (Below.refl _ _).alloc (Nat.le_refl _) _
  generalize wa.alloc (.cells #[.int .i64 o.k, .int .i64 o.a, .int .i64 o.b, .int .i64 o.n, .bool o.p.g, .slice o.p.a o.p.n o.p.c, .slice o.p.b o.p.m o.p.d] 54) = wo at *
  clear c0 c1 c2 c3 c4 c5 c6 g1 hwa h1' h2'
  have HBo := hide (show Below w.heap.size w wo from (unhide HX).2.1.trans (hbo.mono (unhide HX).2.1.size))
  have HOo := hide ((unhide HO).below hbo)
  have HTo := hide (show Tab64 wo ∧ TabSh wo from ⟨(unhide HT).1.below hbo, (unhide HT).2.below hbo⟩)
  have bx2 := (unhide HX).1.below hbo
  have g0 := (bx2.all 0 _ rfl).1
  have y0 := (br.all 0 _ rfl).1
  have y1 := (br.all 1 _ rfl).1
  have y2 := (br.all 2 _ rfl).1
  have y3 := (br.all 3 _ rfl).1
  have y4 := (br.all 4 _ rfl).1
  have y5 := (br.all 5 _ rfl).1
  have y6 := (br.all 6 _ rfl).1
  clear br hbo bx2 HO HT
  refine (tisKind_any o.k _).mono ?_
  rintro _ wq ⟨rfl, hw⟩
  obtain rfl := hw.symm
  clear hw
  by_cases hk : 1 ≤ o.k ∧ o.k ≤ 8
  rotate_left
  · have HR := hide (show opF i at' o = 103 by unfold opF; rw [if_pos (by omega)])
    rw [show (decide (1 ≤ o.k) && decide (o.k ≤ 8)) = false by simp; omega]
    go_wp2_with fail
    try go_ret
    exact ⟨by rw [unhide HR]; rfl, unhide HBo⟩
  rw [show (decide (1 ≤ o.k) && decide (o.k ≤ 8)) = true by simp; omega]
  obtain ⟨k, hkk⟩ : ∃ k : Nat, o.k = (k : Int) := ⟨o.k.toNat, by omega⟩
  have hk1 : 1 ≤ k := by omega
  have hk8 : k ≤ 8 := by omega
  have HKs := hide (fun (W : World) (hb : Below wo.heap.size wo W) => tshape_any k hk1 hk8 W ((unhide HTo).2.below hb))
  have HKl := hide (fun (W : World) => (by
    have K := tleaves_any o k hkk hk1 hk8 W (unhide HOo).x.len.symm (unhide HOo).y.len.symm
    unfold opV at K
    rw [hkk] at K
    exact K : Calls Tryd.prog 41 #[.agg (shV k).toArray, .agg #[.int .i64 (k : Int), .int .i64 o.a, .int .i64 o.b, .int .i64 o.n, .bool o.p.g, .slice o.p.a o.p.n o.p.c, .slice o.p.b o.p.m o.p.d]] W fun e w' => e = .returned (.bool (!unuO o)) ∧ Below W.heap.size W w'))
  have Fy0 := fun x : Ext wo => x.cell y0
  have Fy1 := fun x : Ext wo => x.cell y1
  have Fy2 := fun x : Ext wo => x.cell y2
  have Fy3 := fun x : Ext wo => x.cell y3
  have Fy4 := fun x : Ext wo => x.cell y4
  have Fy5 := fun x : Ext wo => x.cell y5
  have Fy6 := fun x : Ext wo => x.cell y6
  have hNE := Ext.ne wo
  have HKK := hide (show KKo o k from ⟨hkk, hk1, hk8⟩)
  rw [hkk] at *
  clear hk hkk
  go_wp2_with fail
  refine wp_region_ext (by kernel_rfl) (by kernel_rfl) ?_
  repeat (go_big_quiet_step (first | (go_at_call 40; rename_i x; exact Ext.call (unhide HKs x.w x.bel) (fun e w' h => h)) | (go_at_call 41; rename_i x; exact Ext.call (unhide HKl x.w) (fun e w' h => h))))
  refine wpQuiet_nil ?_
  rintro _ ⟨xE, rfl⟩
  have bE := xE.bel
  generalize xE.w = wq at *
  have HBq := hide ((unhide HBo).trans (bE.mono (unhide HBo).size))
  have HOq := hide ((unhide HOo).below bE)
  have HTq := hide (show Tab64 wq ∧ TabSh wq from ⟨(unhide HTo).1.below bE, (unhide HTo).2.below bE⟩)
  have q0 := (bE.cell (World.block_lt_of_cell? _ _ y0)).trans y0
  have q1 := (bE.cell (World.block_lt_of_cell? _ _ y1)).trans y1
  have q2 := (bE.cell (World.block_lt_of_cell? _ _ y2)).trans y2
  have q3 := (bE.cell (World.block_lt_of_cell? _ _ y3)).trans y3
  have q4 := (bE.cell (World.block_lt_of_cell? _ _ y4)).trans y4
  have q5 := (bE.cell (World.block_lt_of_cell? _ _ y5)).trans y5
  have q6 := (bE.cell (World.block_lt_of_cell? _ _ y6)).trans y6
  have r0 := (bE.cell (World.block_lt_of_cell? _ _ g0)).trans g0
  clear Fy0 Fy1 Fy2 Fy3 Fy4 Fy5 Fy6 hNE bE y0 y1 y2 y3 y4 y5 y6 g0 HBo HOo HTo HKs HKl xE
  cases hu : unuO o
  rotate_left
  · have HR := hide (op_104 (unhide HKK) hu (inp := i) (i := at'))
    clear hu
    go_wp2_with fail
    try go_ret
    exact ⟨by rw [unhide HR]; rfl, unhide HBq⟩
  have HU := hide hu
  clear hu
  by_cases k1 : k = 1
  focus
    have k1' : (o.k == 1) = true := by have := (unhide HKK).1; simp; omega
    have k2' : (o.k == 2) = false := by have := (unhide HKK).1; simp; omega
    have HK1 := hide k1
    clear k1
    cases ho1 : offI o.a i
    rotate_left
    · have HR := hide (op_105 ((unhide HK1) ▸ unhide HKK) (unhide HU) ho1 (i := at'))
      have KB := fun W => tbelow_any o.a i W
      rw [ho1] at KB
      have HK := hide KB
      clear KB ho1
      go_wp2_with fail
      refine (unhide HK _).mono ?_
      rintro _ wz ⟨rfl, hw⟩
      obtain rfl := hw.symm
      clear hw
      go_wp2_with fail
      try go_ret
      exact ⟨by rw [unhide HR]; rfl, unhide HBq⟩
    have HF := hide (opR_of (unhide HKK) (unhide HU) (fun _ => ho1) (fun e => by have := (unhide HKK).1; have := unhide HK1; omega) (i := at'))
    have KB := fun W => tbelow_any o.a i W
    rw [ho1] at KB
    have HK := hide KB
    clear KB ho1
    go_wp2_with fail
    refine (unhide HK _).mono ?_
    rintro _ wz ⟨rfl, hw⟩
    obtain rfl := hw.symm
    clear hw HK
    go_wp2_with fail
  rotate_left
  focus
    have k1' : (o.k == 1) = false := by have := (unhide HKK).1; simp; omega
    by_cases k2 : k = 2
    focus
      have k2' : (o.k == 2) = true := by have := (unhide HKK).1; simp; omega
      have HK2 := hide k2
      clear k2
      have HM := hide (fun (W : World) (hb : Below wq.heap.size wq W) => ratMay_any o.p.g o.p.a o.p.b o.p.n o.p.c o.p.m o.p.d o.p.x o.p.y W ((unhide HOq).x.below hb) ((unhide HOq).y.below hb) (unhide HOq).ox (unhide HOq).oy ((unhide HTq).1.below hb))
      unfold ratV at HM
      cases hm : MayR o.p.g o.p.x o.p.y
      · have HR := hide (op_40 ((unhide HK2) ▸ unhide HKK) (unhide HU) hm (inp := i) (i := at'))
        rw [hm] at HM
        clear hm
        go_wp2_with fail
        refine (unhide HM _ (Below.refl _ _)).mono ?_
        rintro _ wz ⟨rfl, hb⟩
        have HBz := hide ((unhide HBq).trans (hb.mono (unhide HBq).size))
        clear hb
        go_wp2_with fail
        try go_ret
        exact ⟨by rw [unhide HR]; rfl, unhide HBz⟩
      have HF := hide (opR_of (unhide HKK) (unhide HU) (fun e => by have := (unhide HKK).1; have := unhide HK2; omega) (fun _ => hm) (inp := i) (i := at'))
      rw [hm] at HM
      clear hm
      go_wp2_with fail
      refine (unhide HM _ (Below.refl _ _)).mono ?_
      rintro _ wq ⟨rfl, bE⟩
      have HBq := hide ((unhide HBq).trans (bE.mono (unhide HBq).size))
      have HOq := hide ((unhide HOq).below bE)
      have q0 := (bE.cell (World.block_lt_of_cell? _ _ q0)).trans q0
      have q1 := (bE.cell (World.block_lt_of_cell? _ _ q1)).trans q1
      have q2 := (bE.cell (World.block_lt_of_cell? _ _ q2)).trans q2
      have q3 := (bE.cell (World.block_lt_of_cell? _ _ q3)).trans q3
      have q4 := (bE.cell (World.block_lt_of_cell? _ _ q4)).trans q4
      have q5 := (bE.cell (World.block_lt_of_cell? _ _ q5)).trans q5
      have q6 := (bE.cell (World.block_lt_of_cell? _ _ q6)).trans q6
      clear bE HM
      go_wp2_with fail
    rotate_left
    focus
      have k2' : (o.k == 2) = false := by have := (unhide HKK).1; simp; omega
      have HF := hide (opR_of (unhide HKK) (unhide HU) (fun e => by have := (unhide HKK).1; omega) (fun e => by have := (unhide HKK).1; omega) (inp := i) (i := at'))
      clear k1 k2
      go_wp2_with fail
  all_goals
    have HP := hide (fun (W : World) => (by
      have K := toperands_any o (by have := (unhide HKK).1; omega) (by have := (unhide HKK).1; omega) W
      unfold opV at K
      exact K : Calls Tryd.prog 43 #[.agg #[.int .i64 o.k, .int .i64 o.a, .int .i64 o.b, .int .i64 o.n, .bool o.p.g, .slice o.p.a o.p.n o.p.c, .slice o.p.b o.p.m o.p.d]] W (OpsA W (opsL o))))
    refine (unhide HP _).mono ?_
    rintro _ w1 ⟨z, m1, c1, rfl, hz, hnew, bE⟩
    have HB1 := hide ((unhide HBq).trans (bE.mono (unhide HBq).size))
    have HZ := hide hz
    have q3 := (bE.cell (World.block_lt_of_cell? _ _ q3)).trans q3
    clear hz hnew bE HP
    go_wp2_with fail
    go_loopw [46] (fun iv wr => ∃ j : Nat, j ≤ m1 ∧ iv = .int .i64 (j : Int) ∧ wr = w1 ∧ Hid (((opsL o).take j).any (fun v => offI v at') = false)) (fun iv _ => m1 - (intOf iv).toNat)
    case atStart => exact ⟨0, Nat.zero_le _, rfl, rfl, hide (by simp)⟩
    case round =>
      obtain ⟨j, hj, rfl, rfl, HA⟩ := hrel
      have hml := (unhide HZ).len
      have hl2 : m1 ≤ 2 := by have := opsL_len o; omega
      by_cases hlt : j < m1
      · have hlt' : (j : Int) < (m1 : Int) := by omega
        obtain ⟨zb, zo, rfl, hc⟩ := (unhide HZ).at (by omega)
        have sk := hc j hlt
        obtain ⟨v, hv⟩ : ∃ v, (opsL o).getD j 0 = v := ⟨_, rfl⟩
        rw [hv] at sk
        have KB := fun W => tbelow_any v at' W
        cases hof : offI v at'
        · have HN := hide (any_next (p := fun v => offI v at') (by omega) (unhide HA) (by rw [hv]; exact hof))
          rw [hof] at KB
          have HK := hide KB
          clear KB hof hc hv hml
          go_wp2_with fail
          refine (unhide HK _).mono ?_
          rintro _ wz ⟨rfl, hw⟩
          obtain rfl := hw.symm
          clear hw HK
          go_wp2_with fail
          exact ⟨⟨j + 1, by omega, by (first | rfl | go_num), (by first | rfl | trivial), HN⟩, by simp [intOf]; omega⟩
        · have HN := hide (opR_106 (o := o) (i := at') (any_here (j := j) (p := fun v => offI v at') (by omega) (by rw [hv]; exact hof)))
          rw [hof] at KB
          have HK := hide KB
          clear KB hof hc hv hml
          go_wp2_with fail
          refine (unhide HK _).mono ?_
          rintro _ wz ⟨rfl, hw⟩
          obtain rfl := hw.symm
          clear hw HK
          go_wp2_with fail
          try go_ret
          exact ⟨by rw [unhide HF, unhide HN]; rfl, unhide HB1⟩
      · obtain rfl : j = m1 := by omega
        have hlt' : ¬ (j : Int) < (j : Int) := by omega
        have hA : (opsL o).any (fun v => offI v at') = false := by have := unhide HA; rwa [List.take_of_length_le (by omega)] at this
        by_cases n1 : o.n < -1024
        · have HN := hide (opR_107 hA (.inl n1))
          clear hA hml
          go_wp2_with fail
          try go_ret
          exact ⟨by rw [unhide HF, unhide HN]; rfl, unhide HB1⟩
        · by_cases n2 : 1024 < o.n
          · have HN := hide (opR_107 hA (.inr n2))
            clear hA hml
            go_wp2_with fail
            try go_ret
            exact ⟨by rw [unhide HF, unhide HN]; rfl, unhide HB1⟩
          · have HN := hide (opR_0 hA (by omega))
            clear hA hml
            go_wp2_with fail
            try go_ret
            exact ⟨by rw [unhide HF, unhide HN]; rfl, unhide HB1⟩
set_option maxRecDepth 100000 in
set_option maxHeartbeats 16000000 in
theorem wunused_any (o : On) (w : World) (hx : o.p.n = o.p.x.length) (hy : o.p.m = o.p.y.length) :
    Calls Tryd.prog 45 #[opV o] w fun e w' => e = .returned (.bool (unuO o)) ∧ Below w.heap.size w w' := by
  obtain ⟨k, a, b, n, p⟩ := o
  simp only at hx hy
  obtain ⟨wo, hwo⟩ : ∃ x, w.alloc (.cells #[.int .i64 k, .int .i64 a, .int .i64 b, .int .i64 n, .bool p.g, .slice p.a p.n p.c, .slice p.b p.m p.d] 54) = x := ⟨_, rfl⟩
  have br : BoxP wo w.heap.size [.int .i64 k, .int .i64 a, .int .i64 b, .int .i64 n, .bool p.g, .slice p.a p.n p.c, .slice p.b p.m p.d] := by rw [← hwo]; exact BoxP.made _ _ _
  have hbo : Below w.heap.size w wo := by rw [← hwo]; exact (Below.refl _ _).alloc (Nat.le_refl _) _
  have f0 := (br.all 0 _ rfl).1
  have f1 := (br.all 1 _ rfl).1
  have f2 := (br.all 2 _ rfl).1
  have f3 := (br.all 3 _ rfl).1
  have f4 := (br.all 4 _ rfl).1
  have f5 := (br.all 5 _ rfl).1
  have f6 := (br.all 6 _ rfl).1
  have HB := hide hbo
  have KT := hide (fun W => two_any k W)
  have KN := hide (fun (W : World) => wnone_any p W hx hy)
  clear br hbo hx hy
  obtain ⟨A1, t2⟩ : ∃ x, (k == 2) = x := ⟨_, rfl⟩
  obtain ⟨a0, ta⟩ : ∃ x, (a != 0) = x := ⟨_, rfl⟩
  obtain ⟨T, tt⟩ : ∃ x, twoK k = x := ⟨_, rfl⟩
  obtain ⟨b0, tb⟩ : ∃ x, (b != 0) = x := ⟨_, rfl⟩
  obtain ⟨K8, t8⟩ : ∃ x, (k != 8) = x := ⟨_, rfl⟩
  obtain ⟨n0, tn⟩ : ∃ x, (n != 0) = x := ⟨_, rfl⟩
  obtain ⟨bl, tl⟩ : ∃ x, blankQ p = x := ⟨_, rfl⟩
  have n2 : (k != 2) = !A1 := by rw [← t2]; rfl
  have hR : unuO ⟨k, a, b, n, p⟩ = ((A1 && a0) || (!T && b0) || (K8 && n0) || (!A1 && !bl)) := by
    rw [← t2, ← ta, ← tt, ← tb, ← t8, ← tn, ← tl]
    unfold unuO
    have q1 : ∀ x y : Int, decide (x = y) = (x == y) := fun x y => rfl
    simp [bne, q1]
  rw [hR]
  rw [tt] at KT
  rw [tl] at KN
  clear hR tt tl
  unfold opV
  cases A1 <;> cases a0
  all_goals
    simp only [Bool.not_false, Bool.not_true] at n2
    go_enter Tryd.func45, Tryd.ntmps45
    go_wp2_with fail
    first
    | (go_ret; exact ⟨rfl, unhide HB⟩)
    | (refine (unhide KT wo).mono ?_
       rintro _ wz ⟨rfl, hw⟩
       obtain rfl := hw.symm
       clear hw
       cases T <;> cases b0 <;> cases K8 <;> cases n0
       all_goals
         go_wp2_with fail
         first
         | (go_ret; exact ⟨rfl, unhide HB⟩)
         | (refine (unhide KN _).mono ?_
            rintro _ w' ⟨rfl, hb⟩
            have HE := hide ((unhide HB).trans (hb.mono (unhide HB).size))
            clear hb
            go_wp2_with fail
            go_ret
            exact ⟨by simp, unhide HE⟩))
end Go.Proofs.YtiadccaaoenccaaDoor
