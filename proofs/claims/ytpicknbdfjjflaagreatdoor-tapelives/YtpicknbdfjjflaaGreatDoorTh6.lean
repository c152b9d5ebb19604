/- Th5 -/
import Derived.Test.YtpicknbdfjjflaaGreatDoorTh4
import Derived.Test.YtpicknbdfjjflaaGreatDoorTg4
import Derived.Test.YtpicknbdfjjflaaGreatDoorTa0
namespace Go.Proofs.YtpicknbdfjjflaaGreatDoor
open Go.RowKit Go.Deep
set_option linter.unusedVariables false
set_option maxRecDepth 100000 in
set_option maxHeartbeats 16000000 in
theorem tLive_no (i : Int) (a : Option Addr) (n c : Nat) (os : List On) (b : Option Addr) (m d : Nat) (ys : List Int) (w : World) (hs : SlO w a n c os) (hy : SlI w b m d ys) (hT : Tab64 w) (hS : TabSh w) (he : (chF i os ys).2 ≠ 0) :
    Calls Tryz.prog 29 #[tapV i a n c b m d] w fun e w' => e = .returned (.tuple #[.slice none 0 0, .int .i64 (chF i os ys).2]) ∧ Below w.heap.size w w' := by
  obtain ⟨wa, hwa⟩ : ∃ x, w.alloc (.cells #[.int .i64 i, .slice a n c, .slice b m d] 25) = x := ⟨_, rfl⟩
  have bx : BoxP wa w.heap.size [.int .i64 i, .slice a n c, .slice b m d] := by rw [← hwa]; exact BoxP.made _ _ _
  have hba : Below w.heap.size w wa := by rw [← hwa]; exact (Below.refl _ _).alloc (Nat.le_refl _) _
  have g0 := (bx.all 0 _ rfl).1
  have g1 := (bx.all 1 _ rfl).1
  have g2 := (bx.all 2 _ rfl).1
  have K0 := tchk_any i a n c os b m d ys wa (hs.below hba) (hy.below hba) (hT.below hba) (hS.below hba)
  obtain ⟨z, hz⟩ : ∃ z, (chF i os ys).2 = z := ⟨_, rfl⟩
  obtain ⟨z1, hz1⟩ : ∃ z, (chF i os ys).1 = z := ⟨_, rfl⟩
  rw [hz] at K0 he ⊢
  have he' : (z != 0) = true := by simpa using he
  have HC := hide K0
  have HB := hide hba
  unfold tapV at HC ⊢
  clear bx hba K0 hs hy hT hS he hz hz1
  go_enter Tryz.func29, Tryz.ntmps29
  go_wp2_with fail
  refine (unhide HC).mono ?_
  rintro _ w1 ⟨rfl, b1⟩
  have HB1 := hide ((unhide HB).trans (b1.mono (unhide HB).size))
  clear b1 HC
  go_wp2_with fail
  try go_ret2
  exact ⟨rfl, unhide HB1⟩
set_option maxRecDepth 100000 in
set_option maxHeartbeats 16000000 in
theorem tUses_no (i : Int) (a : Option Addr) (n c : Nat) (os : List On) (b : Option Addr) (m d : Nat) (ys : List Int) (w : World) (hs : SlO w a n c os) (hy : SlI w b m d ys) (hT : Tab64 w) (hS : TabSh w) (he : (chF i os ys).2 ≠ 0) :
    Calls Tryz.prog 25 #[tapV i a n c b m d] w fun e w' => e = .returned (.tuple #[.slice none 0 0, .int .i64 (chF i os ys).2]) ∧ Below w.heap.size w w' := by
  obtain ⟨wa, hwa⟩ : ∃ x, w.alloc (.cells #[.int .i64 i, .slice a n c, .slice b m d] 25) = x := ⟨_, rfl⟩
  have bx : BoxP wa w.heap.size [.int .i64 i, .slice a n c, .slice b m d] := by rw [← hwa]; exact BoxP.made _ _ _
  have hba : Below w.heap.size w wa := by rw [← hwa]; exact (Below.refl _ _).alloc (Nat.le_refl _) _
  have g0 := (bx.all 0 _ rfl).1
  have g1 := (bx.all 1 _ rfl).1
  have g2 := (bx.all 2 _ rfl).1
  have K0 := tchk_any i a n c os b m d ys wa (hs.below hba) (hy.below hba) (hT.below hba) (hS.below hba)
  obtain ⟨z, hz⟩ : ∃ z, (chF i os ys).2 = z := ⟨_, rfl⟩
  obtain ⟨z1, hz1⟩ : ∃ z, (chF i os ys).1 = z := ⟨_, rfl⟩
  rw [hz] at K0 he ⊢
  have he' : (z != 0) = true := by simpa using he
  have HC := hide K0
  have HB := hide hba
  unfold tapV at HC ⊢
  clear bx hba K0 hs hy hT hS he hz hz1
  go_enter Tryz.func25, Tryz.ntmps25
  go_wp2_with fail
  refine (unhide HC).mono ?_
  rintro _ w1 ⟨rfl, b1⟩
  have HB1 := hide ((unhide HB).trans (b1.mono (unhide HB).size))
  clear b1 HC
  go_wp2_with fail
  try go_ret2
  exact ⟨rfl, unhide HB1⟩
set_option maxRecDepth 100000 in
set_option maxHeartbeats 16000000 in
theorem tDepth_no (i : Int) (a : Option Addr) (n c : Nat) (os : List On) (b : Option Addr) (m d : Nat) (ys : List Int) (w : World) (hs : SlO w a n c os) (hy : SlI w b m d ys) (hT : Tab64 w) (hS : TabSh w) (he : (chF i os ys).2 ≠ 0) :
    Calls Tryz.prog 33 #[tapV i a n c b m d] w fun e w' => e = .returned (.tuple #[.slice none 0 0, .int .i64 (chF i os ys).2]) ∧ Below w.heap.size w w' := by
  obtain ⟨wa, hwa⟩ : ∃ x, w.alloc (.cells #[.int .i64 i, .slice a n c, .slice b m d] 25) = x := ⟨_, rfl⟩
  have bx : BoxP wa w.heap.size [.int .i64 i, .slice a n c, .slice b m d] := by rw [← hwa]; exact BoxP.made _ _ _
  have hba : Below w.heap.size w wa := by rw [← hwa]; exact (Below.refl _ _).alloc (Nat.le_refl _) _
  have g0 := (bx.all 0 _ rfl).1
  have g1 := (bx.all 1 _ rfl).1
  have g2 := (bx.all 2 _ rfl).1
  have K0 := tchk_any i a n c os b m d ys wa (hs.below hba) (hy.below hba) (hT.below hba) (hS.below hba)
  obtain ⟨z, hz⟩ : ∃ z, (chF i os ys).2 = z := ⟨_, rfl⟩
  obtain ⟨z1, hz1⟩ : ∃ z, (chF i os ys).1 = z := ⟨_, rfl⟩
  rw [hz] at K0 he ⊢
  have he' : (z != 0) = true := by simpa using he
  have HC := hide K0
  have HB := hide hba
  unfold tapV at HC ⊢
  clear bx hba K0 hs hy hT hS he hz hz1
  go_enter Tryz.func33, Tryz.ntmps33
  go_wp2_with fail
  refine (unhide HC).mono ?_
  rintro _ w1 ⟨rfl, b1⟩
  have HB1 := hide ((unhide HB).trans (b1.mono (unhide HB).size))
  clear b1 HC
  go_wp2_with fail
  try go_ret2
  exact ⟨rfl, unhide HB1⟩
set_option maxRecDepth 100000 in
set_option maxHeartbeats 16000000 in
theorem wLive_no (i : Int) (a : Option Addr) (n c : Nat) (os : List On) (b : Option Addr) (m d : Nat) (ys : List Int) (w : World) (hs : SlO w a n c os) (hy : SlI w b m d ys) (hT : Tab64 w) (he : (chF i os ys).2 ≠ 0) :
    Calls Tryz.prog 30 #[tapV i a n c b m d] w fun e w' => e = .returned (.tuple #[.slice none 0 0, .int .i64 (chF i os ys).2]) ∧ Below w.heap.size w w' := by
  obtain ⟨wa, hwa⟩ : ∃ x, w.alloc (.cells #[.int .i64 i, .slice a n c, .slice b m d] 25) = x := ⟨_, rfl⟩
  have bx : BoxP wa w.heap.size [.int .i64 i, .slice a n c, .slice b m d] := by rw [← hwa]; exact BoxP.made _ _ _
  have hba : Below w.heap.size w wa := by rw [← hwa]; exact (Below.refl _ _).alloc (Nat.le_refl _) _
  have g0 := (bx.all 0 _ rfl).1
  have g1 := (bx.all 1 _ rfl).1
  have g2 := (bx.all 2 _ rfl).1
  have K0 := wcheck_any i a n c os b m d ys wa (hs.below hba) (hy.below hba) (hT.below hba)
  obtain ⟨z, hz⟩ : ∃ z, (chF i os ys).2 = z := ⟨_, rfl⟩
  obtain ⟨z1, hz1⟩ : ∃ z, (chF i os ys).1 = z := ⟨_, rfl⟩
  rw [hz, hz1] at K0
  rw [hz] at he ⊢
  have he' : (z != 0) = true := by simpa using he
  have HC := hide K0
  have HB := hide hba
  unfold tapV at HC ⊢
  clear bx hba K0 hs hy hT he hz hz1
  go_enter Tryz.func30, Tryz.ntmps30
  go_wp2_with fail
  refine (unhide HC).mono ?_
  rintro _ w1 ⟨rfl, b1⟩
  have HB1 := hide ((unhide HB).trans (b1.mono (unhide HB).size))
  clear b1 HC
  go_wp2_with fail
  try go_ret2
  exact ⟨rfl, unhide HB1⟩
set_option maxRecDepth 100000 in
set_option maxHeartbeats 16000000 in
theorem wUses_no (i : Int) (a : Option Addr) (n c : Nat) (os : List On) (b : Option Addr) (m d : Nat) (ys : List Int) (w : World) (hs : SlO w a n c os) (hy : SlI w b m d ys) (hT : Tab64 w) (he : (chF i os ys).2 ≠ 0) :
    Calls Tryz.prog 32 #[tapV i a n c b m d] w fun e w' => e = .returned (.tuple #[.slice none 0 0, .int .i64 (chF i os ys).2]) ∧ Below w.heap.size w w' := by
  obtain ⟨wa, hwa⟩ : ∃ x, w.alloc (.cells #[.int .i64 i, .slice a n c, .slice b m d] 25) = x := ⟨_, rfl⟩
  have bx : BoxP wa w.heap.size [.int .i64 i, .slice a n c, .slice b m d] := by rw [← hwa]; exact BoxP.made _ _ _
  have hba : Below w.heap.size w wa := by rw [← hwa]; exact (Below.refl _ _).alloc (Nat.le_refl _) _
  have g0 := (bx.all 0 _ rfl).1
  have g1 := (bx.all 1 _ rfl).1
  have g2 := (bx.all 2 _ rfl).1
  have K0 := wcheck_any i a n c os b m d ys wa (hs.below hba) (hy.below hba) (hT.below hba)
  obtain ⟨z, hz⟩ : ∃ z, (chF i os ys).2 = z := ⟨_, rfl⟩
  obtain ⟨z1, hz1⟩ : ∃ z, (chF i os ys).1 = z := ⟨_, rfl⟩
  rw [hz, hz1] at K0
  rw [hz] at he ⊢
  have he' : (z != 0) = true := by simpa using he
  have HC := hide K0
  have HB := hide hba
  unfold tapV at HC ⊢
  clear bx hba K0 hs hy hT he hz hz1
  go_enter Tryz.func32, Tryz.ntmps32
  go_wp2_with fail
  refine (unhide HC).mono ?_
  rintro _ w1 ⟨rfl, b1⟩
  have HB1 := hide ((unhide HB).trans (b1.mono (unhide HB).size))
  clear b1 HC
  go_wp2_with fail
  try go_ret2
  exact ⟨rfl, unhide HB1⟩
set_option maxRecDepth 100000 in
set_option maxHeartbeats 16000000 in
theorem wDepth_no (i : Int) (a : Option Addr) (n c : Nat) (os : List On) (b : Option Addr) (m d : Nat) (ys : List Int) (w : World) (hs : SlO w a n c os) (hy : SlI w b m d ys) (hT : Tab64 w) (he : (chF i os ys).2 ≠ 0) :
    Calls Tryz.prog 34 #[tapV i a n c b m d] w fun e w' => e = .returned (.tuple #[.slice none 0 0, .int .i64 (chF i os ys).2]) ∧ Below w.heap.size w w' := by
  obtain ⟨wa, hwa⟩ : ∃ x, w.alloc (.cells #[.int .i64 i, .slice a n c, .slice b m d] 25) = x := ⟨_, rfl⟩
  have bx : BoxP wa w.heap.size [.int .i64 i, .slice a n c, .slice b m d] := by rw [← hwa]; exact BoxP.made _ _ _
  have hba : Below w.heap.size w wa := by rw [← hwa]; exact (Below.refl _ _).alloc (Nat.le_refl _) _
  have g0 := (bx.all 0 _ rfl).1
  have g1 := (bx.all 1 _ rfl).1
  have g2 := (bx.all 2 _ rfl).1
  have K0 := wcheck_any i a n c os b m d ys wa (hs.below hba) (hy.below hba) (hT.below hba)
  obtain ⟨z, hz⟩ : ∃ z, (chF i os ys).2 = z := ⟨_, rfl⟩
  obtain ⟨z1, hz1⟩ : ∃ z, (chF i os ys).1 = z := ⟨_, rfl⟩
  rw [hz, hz1] at K0
  rw [hz] at he ⊢
  have he' : (z != 0) = true := by simpa using he
  have HC := hide K0
  have HB := hide hba
  unfold tapV at HC ⊢
  clear bx hba K0 hs hy hT he hz hz1
  go_enter Tryz.func34, Tryz.ntmps34
  go_wp2_with fail
  refine (unhide HC).mono ?_
  rintro _ w1 ⟨rfl, b1⟩
  have HB1 := hide ((unhide HB).trans (b1.mono (unhide HB).size))
  clear b1 HC
  go_wp2_with fail
  try go_ret2
  exact ⟨rfl, unhide HB1⟩
set_option maxRecDepth 100000 in
set_option maxHeartbeats 16000000 in
theorem tLive_yes (i : Int) (a : Option Addr) (n c : Nat) (os : List On) (b : Option Addr) (m d : Nat) (ys : List Int) (w : World) (hs : SlO w a n c os) (hy : SlI w b m d ys) (hT : Tab64 w) (hS : TabSh w) (he : (chF i os ys).2 = 0) :
    Calls Tryz.prog 29 #[tapV i a n c b m d] w fun e w' => ∃ g, e = .returned (.tuple #[.slice (some ⟨g, 0, none⟩) n n, .int .i64 0]) ∧ w.heap.size ≤ g ∧ RoV w' g n (fun v => .bool (mkB (lvL os ys n) v)) ∧ Below w.heap.size w w' := by
  obtain ⟨wa, hwa⟩ : ∃ x, w.alloc (.cells #[.int .i64 i, .slice a n c, .slice b m d] 25) = x := ⟨_, rfl⟩
  have bx : BoxP wa w.heap.size [.int .i64 i, .slice a n c, .slice b m d] := by rw [← hwa]; exact BoxP.made _ _ _
  have hba : Below w.heap.size w wa := by rw [← hwa]; exact (Below.refl _ _).alloc (Nat.le_refl _) _
  have g0 := (bx.all 0 _ rfl).1
  have g1 := (bx.all 1 _ rfl).1
  have g2 := (bx.all 2 _ rfl).1
  have K0 := tchk_any i a n c os b m d ys wa (hs.below hba) (hy.below hba) (hT.below hba) (hS.below hba)
  obtain ⟨z1, hz1⟩ : ∃ z, (chF i os ys).1 = z := ⟨_, rfl⟩
  rw [he] at K0
  have HC := hide K0
  have HB := hide hba
  have HU := hide (fun (W : World) (hb : Below wa.heap.size wa W) => tlive_any i a n c os b m d ys W ((hs.below hba).below hb) ((hy.below hba).below hb) (TpOk.of he))
  unfold tapV at HC ⊢
  try unfold tapV at HU
  clear bx hba K0 hs hy hT hS he hz1
  go_enter Tryz.func29, Tryz.ntmps29
  go_wp2_with fail
  refine (unhide HC).mono ?_
  rintro _ w1 ⟨rfl, b1⟩
  have g0 := (b1.cell (World.block_lt_of_cell? _ _ g0)).trans g0
  have g1 := (b1.cell (World.block_lt_of_cell? _ _ g1)).trans g1
  have g2 := (b1.cell (World.block_lt_of_cell? _ _ g2)).trans g2
  have HB1 := hide ((unhide HB).trans (b1.mono (unhide HB).size))
  have HUU := hide (unhide HU w1 b1)
  clear b1 HC
  go_wp2_with fail
  refine (unhide HUU).mono ?_
  rintro _ w2 ⟨g, rfl, hg, hR, b2⟩
  have HR := hide (And.intro hg (And.intro hR b2))
  clear hg hR b2 HUU
  go_wp2_with fail
  try go_ret2
  exact ⟨g, rfl, Nat.le_trans (unhide HB1).size (unhide HR).1, (unhide HR).2.1, (unhide HB1).trans ((unhide HR).2.2.mono (unhide HB1).size)⟩
set_option maxRecDepth 100000 in
set_option maxHeartbeats 16000000 in
theorem tDepth_yes (i : Int) (a : Option Addr) (n c : Nat) (os : List On) (b : Option Addr) (m d : Nat) (ys : List Int) (w : World) (hs : SlO w a n c os) (hy : SlI w b m d ys) (hT : Tab64 w) (hS : TabSh w) (he : (chF i os ys).2 = 0) :
    Calls Tryz.prog 33 #[tapV i a n c b m d] w fun e w' => ∃ g, e = .returned (.tuple #[.slice (some ⟨g, 0, none⟩) n n, .int .i64 0]) ∧ w.heap.size ≤ g ∧ RoV w' g n (fun v => .int .i64 (dpF os n v)) ∧ Below w.heap.size w w' := by
  obtain ⟨wa, hwa⟩ : ∃ x, w.alloc (.cells #[.int .i64 i, .slice a n c, .slice b m d] 25) = x := ⟨_, rfl⟩
  have bx : BoxP wa w.heap.size [.int .i64 i, .slice a n c, .slice b m d] := by rw [← hwa]; exact BoxP.made _ _ _
  have hba : Below w.heap.size w wa := by rw [← hwa]; exact (Below.refl _ _).alloc (Nat.le_refl _) _
  have g0 := (bx.all 0 _ rfl).1
  have g1 := (bx.all 1 _ rfl).1
  have g2 := (bx.all 2 _ rfl).1
  have K0 := tchk_any i a n c os b m d ys wa (hs.below hba) (hy.below hba) (hT.below hba) (hS.below hba)
  obtain ⟨z1, hz1⟩ : ∃ z, (chF i os ys).1 = z := ⟨_, rfl⟩
  rw [he] at K0
  have HC := hide K0
  have HB := hide hba
  have HU := hide (fun (W : World) (hb : Below wa.heap.size wa W) => tdepths_any i a n c os ys W ((hs.below hba).below hb) (TpOk.of he))
  unfold tapV at HC ⊢
  try unfold tapV at HU
  clear bx hba K0 hs hy hT hS he hz1
  go_enter Tryz.func33, Tryz.ntmps33
  go_wp2_with fail
  refine (unhide HC).mono ?_
  rintro _ w1 ⟨rfl, b1⟩
  have g0 := (b1.cell (World.block_lt_of_cell? _ _ g0)).trans g0
  have g1 := (b1.cell (World.block_lt_of_cell? _ _ g1)).trans g1
  have g2 := (b1.cell (World.block_lt_of_cell? _ _ g2)).trans g2
  have HB1 := hide ((unhide HB).trans (b1.mono (unhide HB).size))
  have HUU := hide (unhide HU w1 b1)
  clear b1 HC
  go_wp2_with fail
  refine (unhide HUU).mono ?_
  rintro _ w2 ⟨g, rfl, hg, hR, b2⟩
  have HR := hide (And.intro hg (And.intro hR b2))
  clear hg hR b2 HUU
  go_wp2_with fail
  try go_ret2
  exact ⟨g, rfl, Nat.le_trans (unhide HB1).size (unhide HR).1, (unhide HR).2.1, (unhide HB1).trans ((unhide HR).2.2.mono (unhide HB1).size)⟩
set_option maxRecDepth 100000 in
set_option maxHeartbeats 16000000 in
theorem wLive_yes (i : Int) (a : Option Addr) (n c : Nat) (os : List On) (b : Option Addr) (m d : Nat) (ys : List Int) (w : World) (hs : SlO w a n c os) (hy : SlI w b m d ys) (hT : Tab64 w) (he : (chF i os ys).2 = 0) :
    Calls Tryz.prog 30 #[tapV i a n c b m d] w fun e w' => ∃ g, e = .returned (.tuple #[.slice (some ⟨g, 0, none⟩) n n, .int .i64 0]) ∧ w.heap.size ≤ g ∧ RoV w' g n (fun v => .bool (mkB (lvL os ys n) v)) ∧ Below w.heap.size w w' := by
  obtain ⟨wa, hwa⟩ : ∃ x, w.alloc (.cells #[.int .i64 i, .slice a n c, .slice b m d] 25) = x := ⟨_, rfl⟩
  have bx : BoxP wa w.heap.size [.int .i64 i, .slice a n c, .slice b m d] := by rw [← hwa]; exact BoxP.made _ _ _
  have hba : Below w.heap.size w wa := by rw [← hwa]; exact (Below.refl _ _).alloc (Nat.le_refl _) _
  have g0 := (bx.all 0 _ rfl).1
  have g1 := (bx.all 1 _ rfl).1
  have g2 := (bx.all 2 _ rfl).1
  have K0 := wcheck_any i a n c os b m d ys wa (hs.below hba) (hy.below hba) (hT.below hba)
  obtain ⟨z1, hz1⟩ : ∃ z, (chF i os ys).1 = z := ⟨_, rfl⟩
  rw [he, hz1] at K0
  have HC := hide K0
  have HB := hide hba
  have HU := hide (fun (W : World) (hb : Below wa.heap.size wa W) => wlive_any i a n c os b m d ys W ((hs.below hba).below hb) ((hy.below hba).below hb) (TpOk.of he))
  unfold tapV at HC ⊢
  try unfold tapV at HU
  clear bx hba K0 hs hy hT he hz1
  go_enter Tryz.func30, Tryz.ntmps30
  go_wp2_with fail
  refine (unhide HC).mono ?_
  rintro _ w1 ⟨rfl, b1⟩
  have g0 := (b1.cell (World.block_lt_of_cell? _ _ g0)).trans g0
  have g1 := (b1.cell (World.block_lt_of_cell? _ _ g1)).trans g1
  have g2 := (b1.cell (World.block_lt_of_cell? _ _ g2)).trans g2
  have HB1 := hide ((unhide HB).trans (b1.mono (unhide HB).size))
  have HUU := hide (unhide HU w1 b1)
  clear b1 HC
  go_wp2_with fail
  refine (unhide HUU).mono ?_
  rintro _ w2 ⟨g, rfl, hg, hR, b2⟩
  have HR := hide (And.intro hg (And.intro hR b2))
  clear hg hR b2 HUU
  go_wp2_with fail
  try go_ret2
  exact ⟨g, rfl, Nat.le_trans (unhide HB1).size (unhide HR).1, (unhide HR).2.1, (unhide HB1).trans ((unhide HR).2.2.mono (unhide HB1).size)⟩
theorem l5num_any (e : Int) (w : World) : Calls Tryz.prog 14 #[.int .i64 e] w fun x w' => x = .returned (.int .i64 e) ∧ w' = w := by
  go_enter Tryz.func14, Tryz.ntmps14
  go_wp2_with fail
  go_ret
  exact ⟨rfl, rfl⟩
def xsS : List ByteArray := [opTx ⟨#[]⟩ ⟨1, 0, 0, 0, noQ⟩ 1, opTx ⟨#[]⟩ ⟨5, 0, 0, 0, noQ⟩ 5, opTx ⟨#[]⟩ ⟨3, 1, 0, 0, noQ⟩ 3]
theorem xsS_size (j : Nat) : (xsS.getD j ⟨#[]⟩).size ≤ 2000000 := by
  match j with
  | 0 => decide +kernel
  | 1 => decide +kernel
  | 2 => decide +kernel
  | n + 3 =>
    have : xsS.getD (n + 3) ⟨#[]⟩ = ⟨#[]⟩ := rfl
    rw [this]
    decide
theorem xsS_line (w0 : World) (hS : TabSh w0) (hP : TabPw w0) (j : Nat) (o : On) (h : osS[j]? = some o) (W : World) (hb : Below w0.heap.size w0 W) : Calls Tryz.prog 73 #[opV o] W fun e w' => e = .returned (.string (xsS.getD j ⟨#[]⟩)) ∧ Below W.heap.size W w' := by
  match j with
  | 0 =>
    cases h
    exact topline_any _ 1 ⟨rfl, by decide, by decide⟩ ⟨by decide, by decide, by decide⟩ ⟨#[]⟩ W (fun h => by cases h) (by decide) (hS.below hb) (hP.below hb)
  | 1 =>
    cases h
    exact topline_any _ 5 ⟨rfl, by decide, by decide⟩ ⟨by decide, by decide, by decide⟩ ⟨#[]⟩ W (fun h => by cases h) (by decide) (hS.below hb) (hP.below hb)
  | 2 =>
    cases h
    exact topline_any _ 3 ⟨rfl, by decide, by decide⟩ ⟨by decide, by decide, by decide⟩ ⟨#[]⟩ W (fun h => by cases h) (by decide) (hS.below hb) (hP.below hb)
  | n + 3 => simp [osS] at h
set_option maxRecDepth 100000 in
set_option maxHeartbeats 16000000 in
theorem l5alive_any (w : World) (hT : Tab64 w) (hS : TabSh w) (hP : TabPw w) : Calls Tryz.prog 9 #[] w fun e w' => e = .returned (.bool true) ∧ Below w.heap.size w w' := by
  have HT := hide (And.intro hT (And.intro hS hP))
  clear hT hS hP
  go_enter Tryz.func9, Tryz.ntmps9
  go_wp2_with fail
  refine (lsmall_any w).mono ?_
  rintro _ w1 ⟨A, B, rfl, hs, hy, b1⟩
  have K := tUses_yes 1 _ 3 3 osS _ 1 1 [2] w1 hs hy ((unhide HT).1.below b1) ((unhide HT).2.1.below b1) (by rw [ch_small])
  have HK := hide K
  unfold tapV at HK ⊢
  have HB1 := hide b1
  clear hs hy b1 K
  go_wp2_with fail
  refine (unhide HK).mono ?_
  rintro _ w2 ⟨g, rfl, hg, hR, b2⟩
  have l0 : w2.cell? ⟨g, 0, none⟩ = some (.int .i64 3) := by
    have h := (hR 0 (by decide)).1
    dsimp only at h
    rw [cn_small] at h
    exact h
  have HL := hide (And.intro (hR 0 (by decide)).2 hg)
  have HB2 := hide ((unhide HB1).trans (b2.mono (unhide HB1).size))
  clear hR hg b2 HK HB1
  go_wp2_with fail
  refine (lsmall_any w2).mono ?_
  rintro _ w3 ⟨A', B', rfl, hs, hy, b3⟩
  have hB3 := (unhide HB2).trans (b3.mono (unhide HB2).size)
  have K := tprint_yes 1 _ 3 3 osS _ 1 1 [2] w3 hs hy (TpOk.of (by rw [ch_small])) ((unhide HT).1.below hB3) ((unhide HT).2.1.below hB3) ((unhide HT).2.2.below hB3) ch_small xsS ⟨rfl, xsS_size, xsS_line w3 ((unhide HT).2.1.below hB3) ((unhide HT).2.2.below hB3)⟩
  rw [show prA (tlL 1 xsS [2]) = _ from txt_small] at K
  have HK := hide K
  unfold tapV at HK
  have l0 := (b3.cell (World.block_lt_of_cell? _ _ l0)).trans l0
  have HB3 := hide hB3
  clear hs hy b3 K hB3
  unfold tapV
  go_wp2_with fail
  refine (unhide HK).mono ?_
  rintro _ w4 ⟨rfl, b4⟩
  have l0 := (b4.cell (World.block_lt_of_cell? _ _ l0)).trans l0
  have HB4 := hide ((unhide HB3).trans (b4.mono (unhide HB3).size))
  have HN := hide l5num_any
  clear b4 HK HB3
  go_wp2_with fail
  refine (unhide HN 0 _).mono ?_
  rintro _ wz ⟨rfl, hw⟩
  obtain rfl := hw.symm
  clear hw
  go_wp2_with fail
  refine (unhide HN 0 _).mono ?_
  rintro _ wz ⟨rfl, hw⟩
  obtain rfl := hw.symm
  clear hw
  go_wp2_with fail
  go_ret
  exact ⟨rfl, unhide HB4⟩
theorem rov_sli {W : World} {g R : Nat} {f : Nat → Int} (h : RoV W g R (fun i => .int .i64 (f i))) (hR : R ≤ 2048) : SlI W (some ⟨g, 0, none⟩) R R ((List.range R).map f) := by
  refine ⟨by simp, Nat.le_refl _, by unfold maxLen; omega, .inr ⟨g, 0, rfl, fun i hi => ?_⟩⟩
  rw [Nat.zero_add]
  have hi' : i < R := by simpa using hi
  rw [(h i hi').1]
  simp [List.getD, hi']
set_option maxRecDepth 100000 in
set_option maxHeartbeats 8000000 in
theorem sameBools_rov (g1 g2 n : Nat) (f : Nat → Bool) (w : World) (h1 : RoV w g1 n (fun v => .bool (f v))) (h2 : RoV w g2 n (fun v => .bool (f v))) (hn : n ≤ 2048) :
    Calls Tryz.prog 31 #[.slice (some ⟨g1, 0, none⟩) n n, .slice (some ⟨g2, 0, none⟩) n n] w fun e w' => e = .returned (.bool true) ∧ Below w.heap.size w w' := by
  have tn : ((n:Int) != (n:Int)) = false := by simp
  have H1 := hide h1
  have H2 := hide h2
  clear h1 h2
  go_enter Tryz.func31, Tryz.ntmps31
  go_wp2_with fail
  go_loopw [5] (fun iv wr => ∃ q : Nat, q ≤ n ∧ iv = .int .i64 (q : Nat) ∧ Hid (Dr w wr)) (fun iv _ => n - (intOf iv).toNat)
  case atStart => exact ⟨0, Nat.zero_le _, rfl, Dr.refl _⟩
  case round =>
    obtain ⟨q, hq, rfl, HW⟩ := hrel
    by_cases hlt : q < n
    · have hlt' : (q:Int) < (n:Int) := by omega
      have z1 : wr.cell? ⟨g1, q, none⟩ = some (.bool (f q)) := (((unhide H1).below (unhide HW).below) q hlt).1
      have z2 : wr.cell? ⟨g2, q, none⟩ = some (.bool (f q)) := (((unhide H2).below (unhide HW).below) q hlt).1
      generalize f q = x at *
      have tx : (x != x) = false := by simp
      go_wp2_with fail
      go_quiet (fail)
      go_wp2_with fail
      exact ⟨⟨q + 1, by omega, by (first | rfl | go_num), hide ((unhide HW).n _)⟩, by simp [intOf]; omega⟩
    · have hq2 : q = n := by omega
      subst hq2
      have hlt' : ¬ (q:Int) < (q:Int) := by omega
      go_wp2_with fail
      go_ret
      exact ⟨rfl, (unhide HW).below⟩
theorem sameBools_nil (w : World) : Calls Tryz.prog 31 #[.slice none 0 0, .slice none 0 0] w fun e w' => e = .returned (.bool true) ∧ Below w.heap.size w w' := by
  go_enter Tryz.func31, Tryz.ntmps31
  go_wp2_with fail
  go_loopw [5] (fun iv wr => iv = .int .i64 0 ∧ wr = w) (fun iv _ => (intOf iv).toNat)
  case atStart => exact ⟨rfl, rfl⟩
  case round =>
    obtain ⟨rfl, hw⟩ := hrel
    obtain rfl := hw
    go_wp2_with fail
    go_ret
    exact ⟨rfl, Below.refl _ _⟩
theorem con_opsAt {os qs : List On} (h : os.map conO = qs.map conO) (j : Nat) : (os[j]?).map opsL = (qs[j]?).map opsL := by
  have h1 : (os.map conO)[j]? = (qs.map conO)[j]? := by rw [h]
  rw [List.getElem?_map, List.getElem?_map] at h1
  cases ho : os[j]? with
  | none =>
    rw [ho] at h1
    cases hq : qs[j]? with
    | none => rfl
    | some q => rw [hq] at h1; cases h1
  | some o =>
    rw [ho] at h1
    cases hq : qs[j]? with
    | none => rw [hq] at h1; cases h1
    | some q =>
      rw [hq] at h1
      exact congrArg some (opF_con (Option.some.inj h1) 0 0).2
theorem con_len {os qs : List On} (h : os.map conO = qs.map conO) : os.length = qs.length := by simpa using congrArg List.length h
theorem opsT_con {os qs : List On} (h : os.map conO = qs.map conO) : ∀ k, opsT os k = opsT qs k
  | 0 => by simp [opsT]
  | k + 1 => by
    have ih := opsT_con h k
    have h1 := con_opsAt h k
    cases ho : os[k]? with
    | none =>
      have e1 : os.take (k + 1) = os.take k := by
        have := List.getElem?_eq_none_iff.1 ho
        rw [List.take_of_length_le this, List.take_of_length_le (by omega)]
      have hl := con_len h
      have e2 : qs.take (k + 1) = qs.take k := by
        have := List.getElem?_eq_none_iff.1 ho
        rw [List.take_of_length_le (show qs.length ≤ k by omega), List.take_of_length_le (by omega)]
      unfold opsT at ih ⊢
      rw [e1, e2, ih]
    | some o =>
      rw [ho] at h1
      cases hq : qs[k]? with
      | none => rw [hq] at h1; cases h1
      | some q =>
        rw [hq] at h1
        rw [opsT_next ho, opsT_next hq, ih, Option.some.inj h1]
theorem lvL_con {os qs : List On} (h : os.map conO = qs.map conO) (ys : List Int) : ∀ k, lvL os ys k = lvL qs ys k
  | 0 => rfl
  | k + 1 => by
    have ih := lvL_con h ys k
    have h1 := con_opsAt h (os.length - 1 - k)
    have hl := con_len h
    unfold lvL
    rw [← hl, ih]
    cases ho : os[os.length - 1 - k]? with
    | none =>
      rw [ho] at h1
      cases hq : qs[os.length - 1 - k]? with
      | none => rfl
      | some q => rw [hq] at h1; cases h1
    | some o =>
      rw [ho] at h1
      cases hq : qs[os.length - 1 - k]? with
      | none => rw [hq] at h1; cases h1
      | some q =>
        rw [hq] at h1
        simp only [Option.some.inj h1]
theorem dpF_con {os qs : List On} (h : os.map conO = qs.map conO) : ∀ k, dpF os k = dpF qs k
  | 0 => rfl
  | k + 1 => by
    have ih := dpF_con h k
    have h1 := con_opsAt h k
    funext v
    unfold dpF
    rw [ih]
    cases ho : os[k]? with
    | none =>
      rw [ho] at h1
      cases hq : qs[k]? with
      | none => rfl
      | some q => rw [hq] at h1; cases h1
    | some o =>
      rw [ho] at h1
      cases hq : qs[k]? with
      | none => rw [hq] at h1; cases h1
      | some q =>
        rw [hq] at h1
        simp only [Option.some.inj h1]
end Go.Proofs.YtpicknbdfjjflaaGreatDoor
