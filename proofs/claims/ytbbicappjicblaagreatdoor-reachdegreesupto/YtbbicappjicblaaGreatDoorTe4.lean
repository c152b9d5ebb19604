/- Te4 -/
import Derived.Test.YtbbicappjicblaaGreatDoorTe3
namespace Go.Proofs.YtbbicappjicblaaGreatDoor
open Go.RowKit Go.Deep
set_option linter.unusedVariables false
theorem sli_made (w : World) (xs : List Int) (t : TypeId) (h : xs.length ≤ 128) : SlI (w.alloc (.cells (xs.map (fun x => Value.int .i64 x)).toArray t)) (some ⟨w.heap.size, 0, none⟩) xs.length xs.length xs := by
 refine ⟨rfl, Nat.le_refl _, by unfold maxLen; omega, .inr ⟨w.heap.size, 0, rfl, fun i hi => ?_⟩⟩
 rw [Nat.zero_add]
 exact (cell_of_block (alloc_block _ _) i).trans (by simp [List.getD, hi])
def OpsA (w : World) (l : List Int) (e : Ending) (w' : World) : Prop := ∃ z m c, e = .returned (.slice z m c) ∧ SlI w' z m c l ∧ (∀ y, z = some y → w.heap.size ≤ y.block) ∧ Below w.heap.size w w'
set_option maxRecDepth 100000 in
set_option maxHeartbeats 8000000 in
theorem toperands_1 (a b n : Int) (p : Nq) (w : World) :
  Calls Tryz.prog 86 #[opV ⟨1, a, b, n, p⟩] w (OpsA w (opsL ⟨1, a, b, n, p⟩)) := by
 obtain ⟨wo, hwo⟩ : ∃ x, w.alloc (.cells #[.int .i64 1, .int .i64 a, .int .i64 b, .int .i64 n, .bool p.g, .slice p.a p.n p.c, .slice p.b p.m p.d] 73) = x := ⟨_, rfl⟩
 have br : BoxP wo w.heap.size [.int .i64 1, .int .i64 a, .int .i64 b, .int .i64 n, .bool p.g, .slice p.a p.n p.c, .slice p.b p.m p.d] := by rw [← hwo]; exact BoxP.made _ _ _
 have hbo : Below w.heap.size w wo := by rw [← hwo]; exact (Below.refl _ _).alloc (Nat.le_refl _) _
 have HB := hide hbo
 have f0 := (br.all 0 _ rfl).1
 have f1 := (br.all 1 _ rfl).1
 have f2 := (br.all 2 _ rfl).1
 unfold opV
 clear br hbo
 go_enter Tryz.func86, Tryz.ntmps86
 go_wp2_with fail
 go_ret
 exact ⟨none, 0, 0, rfl, SlI.nil _, (fun y e => by cases e), unhide HB⟩
set_option maxRecDepth 100000 in
set_option maxHeartbeats 8000000 in
theorem toperands_2 (a b n : Int) (p : Nq) (w : World) :
  Calls Tryz.prog 86 #[opV ⟨2, a, b, n, p⟩] w (OpsA w (opsL ⟨2, a, b, n, p⟩)) := by
 obtain ⟨wo, hwo⟩ : ∃ x, w.alloc (.cells #[.int .i64 2, .int .i64 a, .int .i64 b, .int .i64 n, .bool p.g, .slice p.a p.n p.c, .slice p.b p.m p.d] 73) = x := ⟨_, rfl⟩
 have br : BoxP wo w.heap.size [.int .i64 2, .int .i64 a, .int .i64 b, .int .i64 n, .bool p.g, .slice p.a p.n p.c, .slice p.b p.m p.d] := by rw [← hwo]; exact BoxP.made _ _ _
 have hbo : Below w.heap.size w wo := by rw [← hwo]; exact (Below.refl _ _).alloc (Nat.le_refl _) _
 have HB := hide hbo
 have f0 := (br.all 0 _ rfl).1
 have f1 := (br.all 1 _ rfl).1
 have f2 := (br.all 2 _ rfl).1
 unfold opV
 clear br hbo
 go_enter Tryz.func86, Tryz.ntmps86
 go_wp2_with fail
 go_ret
 exact ⟨none, 0, 0, rfl, SlI.nil _, (fun y e => by cases e), unhide HB⟩
set_option maxRecDepth 100000 in
set_option maxHeartbeats 8000000 in
theorem toperands_3 (a b n : Int) (p : Nq) (w : World) :
  Calls Tryz.prog 86 #[opV ⟨3, a, b, n, p⟩] w (OpsA w (opsL ⟨3, a, b, n, p⟩)) := by
 obtain ⟨wo, hwo⟩ : ∃ x, w.alloc (.cells #[.int .i64 3, .int .i64 a, .int .i64 b, .int .i64 n, .bool p.g, .slice p.a p.n p.c, .slice p.b p.m p.d] 73) = x := ⟨_, rfl⟩
 have br : BoxP wo w.heap.size [.int .i64 3, .int .i64 a, .int .i64 b, .int .i64 n, .bool p.g, .slice p.a p.n p.c, .slice p.b p.m p.d] := by rw [← hwo]; exact BoxP.made _ _ _
 have hbo : Below w.heap.size w wo := by rw [← hwo]; exact (Below.refl _ _).alloc (Nat.le_refl _) _
 have HB := hide hbo
 have f0 := (br.all 0 _ rfl).1
 have f1 := (br.all 1 _ rfl).1
 have f2 := (br.all 2 _ rfl).1
 unfold opV
 clear br hbo
 go_enter Tryz.func86, Tryz.ntmps86
 go_wp2_with fail
 go_ret
 exact ⟨_, _, _, rfl, sli_made _ [a, b] _ (by simp), (fun y e => by cases e; exact (unhide HB).size), (unhide HB).alloc (unhide HB).size _⟩
set_option maxRecDepth 100000 in
set_option maxHeartbeats 8000000 in
theorem toperands_4 (a b n : Int) (p : Nq) (w : World) :
  Calls Tryz.prog 86 #[opV ⟨4, a, b, n, p⟩] w (OpsA w (opsL ⟨4, a, b, n, p⟩)) := by
 obtain ⟨wo, hwo⟩ : ∃ x, w.alloc (.cells #[.int .i64 4, .int .i64 a, .int .i64 b, .int .i64 n, .bool p.g, .slice p.a p.n p.c, .slice p.b p.m p.d] 73) = x := ⟨_, rfl⟩
 have br : BoxP wo w.heap.size [.int .i64 4, .int .i64 a, .int .i64 b, .int .i64 n, .bool p.g, .slice p.a p.n p.c, .slice p.b p.m p.d] := by rw [← hwo]; exact BoxP.made _ _ _
 have hbo : Below w.heap.size w wo := by rw [← hwo]; exact (Below.refl _ _).alloc (Nat.le_refl _) _
 have HB := hide hbo
 have f0 := (br.all 0 _ rfl).1
 have f1 := (br.all 1 _ rfl).1
 have f2 := (br.all 2 _ rfl).1
 unfold opV
 clear br hbo
 go_enter Tryz.func86, Tryz.ntmps86
 go_wp2_with fail
 go_ret
 exact ⟨_, _, _, rfl, sli_made _ [a, b] _ (by simp), (fun y e => by cases e; exact (unhide HB).size), (unhide HB).alloc (unhide HB).size _⟩
set_option maxRecDepth 100000 in
set_option maxHeartbeats 8000000 in
theorem toperands_5 (a b n : Int) (p : Nq) (w : World) :
  Calls Tryz.prog 86 #[opV ⟨5, a, b, n, p⟩] w (OpsA w (opsL ⟨5, a, b, n, p⟩)) := by
 obtain ⟨wo, hwo⟩ : ∃ x, w.alloc (.cells #[.int .i64 5, .int .i64 a, .int .i64 b, .int .i64 n, .bool p.g, .slice p.a p.n p.c, .slice p.b p.m p.d] 73) = x := ⟨_, rfl⟩
 have br : BoxP wo w.heap.size [.int .i64 5, .int .i64 a, .int .i64 b, .int .i64 n, .bool p.g, .slice p.a p.n p.c, .slice p.b p.m p.d] := by rw [← hwo]; exact BoxP.made _ _ _
 have hbo : Below w.heap.size w wo := by rw [← hwo]; exact (Below.refl _ _).alloc (Nat.le_refl _) _
 have HB := hide hbo
 have f0 := (br.all 0 _ rfl).1
 have f1 := (br.all 1 _ rfl).1
 have f2 := (br.all 2 _ rfl).1
 unfold opV
 clear br hbo
 go_enter Tryz.func86, Tryz.ntmps86
 go_wp2_with fail
 go_ret
 exact ⟨_, _, _, rfl, sli_made _ [a, b] _ (by simp), (fun y e => by cases e; exact (unhide HB).size), (unhide HB).alloc (unhide HB).size _⟩
set_option maxRecDepth 100000 in
set_option maxHeartbeats 8000000 in
theorem toperands_6 (a b n : Int) (p : Nq) (w : World) :
  Calls Tryz.prog 86 #[opV ⟨6, a, b, n, p⟩] w (OpsA w (opsL ⟨6, a, b, n, p⟩)) := by
 obtain ⟨wo, hwo⟩ : ∃ x, w.alloc (.cells #[.int .i64 6, .int .i64 a, .int .i64 b, .int .i64 n, .bool p.g, .slice p.a p.n p.c, .slice p.b p.m p.d] 73) = x := ⟨_, rfl⟩
 have br : BoxP wo w.heap.size [.int .i64 6, .int .i64 a, .int .i64 b, .int .i64 n, .bool p.g, .slice p.a p.n p.c, .slice p.b p.m p.d] := by rw [← hwo]; exact BoxP.made _ _ _
 have hbo : Below w.heap.size w wo := by rw [← hwo]; exact (Below.refl _ _).alloc (Nat.le_refl _) _
 have HB := hide hbo
 have f0 := (br.all 0 _ rfl).1
 have f1 := (br.all 1 _ rfl).1
 have f2 := (br.all 2 _ rfl).1
 unfold opV
 clear br hbo
 go_enter Tryz.func86, Tryz.ntmps86
 go_wp2_with fail
 go_ret
 exact ⟨_, _, _, rfl, sli_made _ [a, b] _ (by simp), (fun y e => by cases e; exact (unhide HB).size), (unhide HB).alloc (unhide HB).size _⟩
set_option maxRecDepth 100000 in
set_option maxHeartbeats 8000000 in
theorem toperands_7 (a b n : Int) (p : Nq) (w : World) :
  Calls Tryz.prog 86 #[opV ⟨7, a, b, n, p⟩] w (OpsA w (opsL ⟨7, a, b, n, p⟩)) := by
 obtain ⟨wo, hwo⟩ : ∃ x, w.alloc (.cells #[.int .i64 7, .int .i64 a, .int .i64 b, .int .i64 n, .bool p.g, .slice p.a p.n p.c, .slice p.b p.m p.d] 73) = x := ⟨_, rfl⟩
 have br : BoxP wo w.heap.size [.int .i64 7, .int .i64 a, .int .i64 b, .int .i64 n, .bool p.g, .slice p.a p.n p.c, .slice p.b p.m p.d] := by rw [← hwo]; exact BoxP.made _ _ _
 have hbo : Below w.heap.size w wo := by rw [← hwo]; exact (Below.refl _ _).alloc (Nat.le_refl _) _
 have HB := hide hbo
 have f0 := (br.all 0 _ rfl).1
 have f1 := (br.all 1 _ rfl).1
 have f2 := (br.all 2 _ rfl).1
 unfold opV
 clear br hbo
 go_enter Tryz.func86, Tryz.ntmps86
 go_wp2_with fail
 go_ret
 exact ⟨_, _, _, rfl, sli_made _ [a] _ (by simp), (fun y e => by cases e; exact (unhide HB).size), (unhide HB).alloc (unhide HB).size _⟩
set_option maxRecDepth 100000 in
set_option maxHeartbeats 8000000 in
theorem toperands_8 (a b n : Int) (p : Nq) (w : World) :
  Calls Tryz.prog 86 #[opV ⟨8, a, b, n, p⟩] w (OpsA w (opsL ⟨8, a, b, n, p⟩)) := by
 obtain ⟨wo, hwo⟩ : ∃ x, w.alloc (.cells #[.int .i64 8, .int .i64 a, .int .i64 b, .int .i64 n, .bool p.g, .slice p.a p.n p.c, .slice p.b p.m p.d] 73) = x := ⟨_, rfl⟩
 have br : BoxP wo w.heap.size [.int .i64 8, .int .i64 a, .int .i64 b, .int .i64 n, .bool p.g, .slice p.a p.n p.c, .slice p.b p.m p.d] := by rw [← hwo]; exact BoxP.made _ _ _
 have hbo : Below w.heap.size w wo := by rw [← hwo]; exact (Below.refl _ _).alloc (Nat.le_refl _) _
 have HB := hide hbo
 have f0 := (br.all 0 _ rfl).1
 have f1 := (br.all 1 _ rfl).1
 have f2 := (br.all 2 _ rfl).1
 unfold opV
 clear br hbo
 go_enter Tryz.func86, Tryz.ntmps86
 go_wp2_with fail
 go_ret
 exact ⟨_, _, _, rfl, sli_made _ [a] _ (by simp), (fun y e => by cases e; exact (unhide HB).size), (unhide HB).alloc (unhide HB).size _⟩
set_option maxRecDepth 100000 in
set_option maxHeartbeats 8000000 in
theorem woperands_1 (a b n : Int) (p : Nq) (w : World) :
  Calls Tryz.prog 39 #[opV ⟨1, a, b, n, p⟩] w (OpsA w (opsL ⟨1, a, b, n, p⟩)) := by
 obtain ⟨wo, hwo⟩ : ∃ x, w.alloc (.cells #[.int .i64 1, .int .i64 a, .int .i64 b, .int .i64 n, .bool p.g, .slice p.a p.n p.c, .slice p.b p.m p.d] 73) = x := ⟨_, rfl⟩
 have br : BoxP wo w.heap.size [.int .i64 1, .int .i64 a, .int .i64 b, .int .i64 n, .bool p.g, .slice p.a p.n p.c, .slice p.b p.m p.d] := by rw [← hwo]; exact BoxP.made _ _ _
 have hbo : Below w.heap.size w wo := by rw [← hwo]; exact (Below.refl _ _).alloc (Nat.le_refl _) _
 have HB := hide hbo
 have f0 := (br.all 0 _ rfl).1
 have f1 := (br.all 1 _ rfl).1
 have f2 := (br.all 2 _ rfl).1
 unfold opV
 clear br hbo
 have K2 := fun W => two_any 1 W
 have K1 := fun W => onef_any 1 W
 rw [show twoK 1 = false from rfl] at K2
 rw [show oneK 1 = false from rfl] at K1
 have HK2 := hide K2
 have HK1 := hide K1
 clear K1 K2
 go_enter Tryz.func39, Tryz.ntmps39
 go_wp2_with fail
 refine (unhide HK2 wo).mono ?_
 rintro _ _ ⟨rfl, rfl⟩
 go_wp2_with fail
 refine (unhide HK1 _).mono ?_
 rintro _ _ ⟨rfl, rfl⟩
 go_wp2_with fail
 go_ret
 exact ⟨none, 0, 0, rfl, SlI.nil _, (fun y e => by cases e), unhide HB⟩
set_option maxRecDepth 100000 in
set_option maxHeartbeats 8000000 in
theorem woperands_2 (a b n : Int) (p : Nq) (w : World) :
  Calls Tryz.prog 39 #[opV ⟨2, a, b, n, p⟩] w (OpsA w (opsL ⟨2, a, b, n, p⟩)) := by
 obtain ⟨wo, hwo⟩ : ∃ x, w.alloc (.cells #[.int .i64 2, .int .i64 a, .int .i64 b, .int .i64 n, .bool p.g, .slice p.a p.n p.c, .slice p.b p.m p.d] 73) = x := ⟨_, rfl⟩
 have br : BoxP wo w.heap.size [.int .i64 2, .int .i64 a, .int .i64 b, .int .i64 n, .bool p.g, .slice p.a p.n p.c, .slice p.b p.m p.d] := by rw [← hwo]; exact BoxP.made _ _ _
 have hbo : Below w.heap.size w wo := by rw [← hwo]; exact (Below.refl _ _).alloc (Nat.le_refl _) _
 have HB := hide hbo
 have f0 := (br.all 0 _ rfl).1
 have f1 := (br.all 1 _ rfl).1
 have f2 := (br.all 2 _ rfl).1
 unfold opV
 clear br hbo
 have K2 := fun W => two_any 2 W
 have K1 := fun W => onef_any 2 W
 rw [show twoK 2 = false from rfl] at K2
 rw [show oneK 2 = false from rfl] at K1
 have HK2 := hide K2
 have HK1 := hide K1
 clear K1 K2
 go_enter Tryz.func39, Tryz.ntmps39
 go_wp2_with fail
 refine (unhide HK2 wo).mono ?_
 rintro _ _ ⟨rfl, rfl⟩
 go_wp2_with fail
 refine (unhide HK1 _).mono ?_
 rintro _ _ ⟨rfl, rfl⟩
 go_wp2_with fail
 go_ret
 exact ⟨none, 0, 0, rfl, SlI.nil _, (fun y e => by cases e), unhide HB⟩
set_option maxRecDepth 100000 in
set_option maxHeartbeats 8000000 in
theorem woperands_3 (a b n : Int) (p : Nq) (w : World) :
  Calls Tryz.prog 39 #[opV ⟨3, a, b, n, p⟩] w (OpsA w (opsL ⟨3, a, b, n, p⟩)) := by
 obtain ⟨wo, hwo⟩ : ∃ x, w.alloc (.cells #[.int .i64 3, .int .i64 a, .int .i64 b, .int .i64 n, .bool p.g, .slice p.a p.n p.c, .slice p.b p.m p.d] 73) = x := ⟨_, rfl⟩
 have br : BoxP wo w.heap.size [.int .i64 3, .int .i64 a, .int .i64 b, .int .i64 n, .bool p.g, .slice p.a p.n p.c, .slice p.b p.m p.d] := by rw [← hwo]; exact BoxP.made _ _ _
 have hbo : Below w.heap.size w wo := by rw [← hwo]; exact (Below.refl _ _).alloc (Nat.le_refl _) _
 have HB := hide hbo
 have f0 := (br.all 0 _ rfl).1
 have f1 := (br.all 1 _ rfl).1
 have f2 := (br.all 2 _ rfl).1
 unfold opV
 clear br hbo
 have K2 := fun W => two_any 3 W
 have K1 := fun W => onef_any 3 W
 rw [show twoK 3 = true from rfl] at K2
 rw [show oneK 3 = false from rfl] at K1
 have HK2 := hide K2
 have HK1 := hide K1
 clear K1 K2
 go_enter Tryz.func39, Tryz.ntmps39
 go_wp2_with fail
 refine (unhide HK2 wo).mono ?_
 rintro _ _ ⟨rfl, rfl⟩
 go_wp2_with fail
 go_ret
 exact ⟨_, _, _, rfl, sli_made _ [a, b] _ (by simp), (fun y e => by cases e; exact (unhide HB).size), (unhide HB).alloc (unhide HB).size _⟩
set_option maxRecDepth 100000 in
set_option maxHeartbeats 8000000 in
theorem woperands_4 (a b n : Int) (p : Nq) (w : World) :
  Calls Tryz.prog 39 #[opV ⟨4, a, b, n, p⟩] w (OpsA w (opsL ⟨4, a, b, n, p⟩)) := by
 obtain ⟨wo, hwo⟩ : ∃ x, w.alloc (.cells #[.int .i64 4, .int .i64 a, .int .i64 b, .int .i64 n, .bool p.g, .slice p.a p.n p.c, .slice p.b p.m p.d] 73) = x := ⟨_, rfl⟩
 have br : BoxP wo w.heap.size [.int .i64 4, .int .i64 a, .int .i64 b, .int .i64 n, .bool p.g, .slice p.a p.n p.c, .slice p.b p.m p.d] := by rw [← hwo]; exact BoxP.made _ _ _
 have hbo : Below w.heap.size w wo := by rw [← hwo]; exact (Below.refl _ _).alloc (Nat.le_refl _) _
 have HB := hide hbo
 have f0 := (br.all 0 _ rfl).1
 have f1 := (br.all 1 _ rfl).1
 have f2 := (br.all 2 _ rfl).1
 unfold opV
 clear br hbo
 have K2 := fun W => two_any 4 W
 have K1 := fun W => onef_any 4 W
 rw [show twoK 4 = true from rfl] at K2
 rw [show oneK 4 = false from rfl] at K1
 have HK2 := hide K2
 have HK1 := hide K1
 clear K1 K2
 go_enter Tryz.func39, Tryz.ntmps39
 go_wp2_with fail
 refine (unhide HK2 wo).mono ?_
 rintro _ _ ⟨rfl, rfl⟩
 go_wp2_with fail
 go_ret
 exact ⟨_, _, _, rfl, sli_made _ [a, b] _ (by simp), (fun y e => by cases e; exact (unhide HB).size), (unhide HB).alloc (unhide HB).size _⟩
set_option maxRecDepth 100000 in
set_option maxHeartbeats 8000000 in
theorem woperands_5 (a b n : Int) (p : Nq) (w : World) :
  Calls Tryz.prog 39 #[opV ⟨5, a, b, n, p⟩] w (OpsA w (opsL ⟨5, a, b, n, p⟩)) := by
 obtain ⟨wo, hwo⟩ : ∃ x, w.alloc (.cells #[.int .i64 5, .int .i64 a, .int .i64 b, .int .i64 n, .bool p.g, .slice p.a p.n p.c, .slice p.b p.m p.d] 73) = x := ⟨_, rfl⟩
 have br : BoxP wo w.heap.size [.int .i64 5, .int .i64 a, .int .i64 b, .int .i64 n, .bool p.g, .slice p.a p.n p.c, .slice p.b p.m p.d] := by rw [← hwo]; exact BoxP.made _ _ _
 have hbo : Below w.heap.size w wo := by rw [← hwo]; exact (Below.refl _ _).alloc (Nat.le_refl _) _
 have HB := hide hbo
 have f0 := (br.all 0 _ rfl).1
 have f1 := (br.all 1 _ rfl).1
 have f2 := (br.all 2 _ rfl).1
 unfold opV
 clear br hbo
 have K2 := fun W => two_any 5 W
 have K1 := fun W => onef_any 5 W
 rw [show twoK 5 = true from rfl] at K2
 rw [show oneK 5 = false from rfl] at K1
 have HK2 := hide K2
 have HK1 := hide K1
 clear K1 K2
 go_enter Tryz.func39, Tryz.ntmps39
 go_wp2_with fail
 refine (unhide HK2 wo).mono ?_
 rintro _ _ ⟨rfl, rfl⟩
 go_wp2_with fail
 go_ret
 exact ⟨_, _, _, rfl, sli_made _ [a, b] _ (by simp), (fun y e => by cases e; exact (unhide HB).size), (unhide HB).alloc (unhide HB).size _⟩
set_option maxRecDepth 100000 in
set_option maxHeartbeats 8000000 in
theorem woperands_6 (a b n : Int) (p : Nq) (w : World) :
  Calls Tryz.prog 39 #[opV ⟨6, a, b, n, p⟩] w (OpsA w (opsL ⟨6, a, b, n, p⟩)) := by
 obtain ⟨wo, hwo⟩ : ∃ x, w.alloc (.cells #[.int .i64 6, .int .i64 a, .int .i64 b, .int .i64 n, .bool p.g, .slice p.a p.n p.c, .slice p.b p.m p.d] 73) = x := ⟨_, rfl⟩
 have br : BoxP wo w.heap.size [.int .i64 6, .int .i64 a, .int .i64 b, .int .i64 n, .bool p.g, .slice p.a p.n p.c, .slice p.b p.m p.d] := by rw [← hwo]; exact BoxP.made _ _ _
 have hbo : Below w.heap.size w wo := by rw [← hwo]; exact (Below.refl _ _).alloc (Nat.le_refl _) _
 have HB := hide hbo
 have f0 := (br.all 0 _ rfl).1
 have f1 := (br.all 1 _ rfl).1
 have f2 := (br.all 2 _ rfl).1
 unfold opV
 clear br hbo
 have K2 := fun W => two_any 6 W
 have K1 := fun W => onef_any 6 W
 rw [show twoK 6 = true from rfl] at K2
 rw [show oneK 6 = false from rfl] at K1
 have HK2 := hide K2
 have HK1 := hide K1
 clear K1 K2
 go_enter Tryz.func39, Tryz.ntmps39
 go_wp2_with fail
 refine (unhide HK2 wo).mono ?_
 rintro _ _ ⟨rfl, rfl⟩
 go_wp2_with fail
 go_ret
 exact ⟨_, _, _, rfl, sli_made _ [a, b] _ (by simp), (fun y e => by cases e; exact (unhide HB).size), (unhide HB).alloc (unhide HB).size _⟩
set_option maxRecDepth 100000 in
set_option maxHeartbeats 8000000 in
theorem woperands_7 (a b n : Int) (p : Nq) (w : World) :
  Calls Tryz.prog 39 #[opV ⟨7, a, b, n, p⟩] w (OpsA w (opsL ⟨7, a, b, n, p⟩)) := by
 obtain ⟨wo, hwo⟩ : ∃ x, w.alloc (.cells #[.int .i64 7, .int .i64 a, .int .i64 b, .int .i64 n, .bool p.g, .slice p.a p.n p.c, .slice p.b p.m p.d] 73) = x := ⟨_, rfl⟩
 have br : BoxP wo w.heap.size [.int .i64 7, .int .i64 a, .int .i64 b, .int .i64 n, .bool p.g, .slice p.a p.n p.c, .slice p.b p.m p.d] := by rw [← hwo]; exact BoxP.made _ _ _
 have hbo : Below w.heap.size w wo := by rw [← hwo]; exact (Below.refl _ _).alloc (Nat.le_refl _) _
 have HB := hide hbo
 have f0 := (br.all 0 _ rfl).1
 have f1 := (br.all 1 _ rfl).1
 have f2 := (br.all 2 _ rfl).1
 unfold opV
 clear br hbo
 have K2 := fun W => two_any 7 W
 have K1 := fun W => onef_any 7 W
 rw [show twoK 7 = false from rfl] at K2
 rw [show oneK 7 = true from rfl] at K1
 have HK2 := hide K2
 have HK1 := hide K1
 clear K1 K2
 go_enter Tryz.func39, Tryz.ntmps39
 go_wp2_with fail
 refine (unhide HK2 wo).mono ?_
 rintro _ _ ⟨rfl, rfl⟩
 go_wp2_with fail
 refine (unhide HK1 _).mono ?_
 rintro _ _ ⟨rfl, rfl⟩
 go_wp2_with fail
 go_ret
 exact ⟨_, _, _, rfl, sli_made _ [a] _ (by simp), (fun y e => by cases e; exact (unhide HB).size), (unhide HB).alloc (unhide HB).size _⟩
set_option maxRecDepth 100000 in
set_option maxHeartbeats 8000000 in
theorem woperands_8 (a b n : Int) (p : Nq) (w : World) :
  Calls Tryz.prog 39 #[opV ⟨8, a, b, n, p⟩] w (OpsA w (opsL ⟨8, a, b, n, p⟩)) := by
 obtain ⟨wo, hwo⟩ : ∃ x, w.alloc (.cells #[.int .i64 8, .int .i64 a, .int .i64 b, .int .i64 n, .bool p.g, .slice p.a p.n p.c, .slice p.b p.m p.d] 73) = x := ⟨_, rfl⟩
 have br : BoxP wo w.heap.size [.int .i64 8, .int .i64 a, .int .i64 b, .int .i64 n, .bool p.g, .slice p.a p.n p.c, .slice p.b p.m p.d] := by rw [← hwo]; exact BoxP.made _ _ _
 have hbo : Below w.heap.size w wo := by rw [← hwo]; exact (Below.refl _ _).alloc (Nat.le_refl _) _
 have HB := hide hbo
 have f0 := (br.all 0 _ rfl).1
 have f1 := (br.all 1 _ rfl).1
 have f2 := (br.all 2 _ rfl).1
 unfold opV
 clear br hbo
 have K2 := fun W => two_any 8 W
 have K1 := fun W => onef_any 8 W
 rw [show twoK 8 = false from rfl] at K2
 rw [show oneK 8 = true from rfl] at K1
 have HK2 := hide K2
 have HK1 := hide K1
 clear K1 K2
 go_enter Tryz.func39, Tryz.ntmps39
 go_wp2_with fail
 refine (unhide HK2 wo).mono ?_
 rintro _ _ ⟨rfl, rfl⟩
 go_wp2_with fail
 refine (unhide HK1 _).mono ?_
 rintro _ _ ⟨rfl, rfl⟩
 go_wp2_with fail
 go_ret
 exact ⟨_, _, _, rfl, sli_made _ [a] _ (by simp), (fun y e => by cases e; exact (unhide HB).size), (unhide HB).alloc (unhide HB).size _⟩
theorem toperands_any (o : On) (h1 : 1 ≤ o.k) (h8 : o.k ≤ 8) (w : World) : Calls Tryz.prog 86 #[opV o] w (OpsA w (opsL o)) := by
 obtain ⟨k, a, b, n, p⟩ := o
 simp only at h1 h8
 obtain ⟨j, rfl⟩ : ∃ j : Nat, k = (j : Int) := ⟨k.toNat, by omega⟩
 match j, (show 1 ≤ j by omega), (show j ≤ 8 by omega) with
 | 1, _, _ => exact toperands_1 a b n p w
 | 2, _, _ => exact toperands_2 a b n p w
 | 3, _, _ => exact toperands_3 a b n p w
 | 4, _, _ => exact toperands_4 a b n p w
 | 5, _, _ => exact toperands_5 a b n p w
 | 6, _, _ => exact toperands_6 a b n p w
 | 7, _, _ => exact toperands_7 a b n p w
 | 8, _, _ => exact toperands_8 a b n p w
theorem woperands_any (o : On) (h1 : 1 ≤ o.k) (h8 : o.k ≤ 8) (w : World) : Calls Tryz.prog 39 #[opV o] w (OpsA w (opsL o)) := by
 obtain ⟨k, a, b, n, p⟩ := o
 simp only at h1 h8
 obtain ⟨j, rfl⟩ : ∃ j : Nat, k = (j : Int) := ⟨k.toNat, by omega⟩
 match j, (show 1 ≤ j by omega), (show j ≤ 8 by omega) with
 | 1, _, _ => exact woperands_1 a b n p w
 | 2, _, _ => exact woperands_2 a b n p w
 | 3, _, _ => exact woperands_3 a b n p w
 | 4, _, _ => exact woperands_4 a b n p w
 | 5, _, _ => exact woperands_5 a b n p w
 | 6, _, _ => exact woperands_6 a b n p w
 | 7, _, _ => exact woperands_7 a b n p w
 | 8, _, _ => exact woperands_8 a b n p w
end Go.Proofs.YtbbicappjicblaaGreatDoor
