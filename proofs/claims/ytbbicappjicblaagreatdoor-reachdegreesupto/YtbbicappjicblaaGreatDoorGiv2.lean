/- Ref1 -/
import Derived.Test.YtbbicappjicblaaGreatDoorBase
import Derived.Deep.AppendLies
import Derived.Deep.RegionLaw
import Derived.Deep.DeepMust
namespace Go.Proofs.YtbbicappjicblaaGreatDoor
open Go.RowKit Go.Deep
set_option linter.unusedVariables false
theorem Tryz.info_u32 : (Tryz.prog.info? 115).map (fun i => (i.zero, i.size, i.bytes)) = some (some (.int .u32 0), 1, 4) := by kernel_rfl

def NewAt (B : Nat) (a : Option Addr) : Prop := ∀ x, a = some x → B ≤ x.block

set_option maxHeartbeats 800000 in
theorem sameNat_some (b1 o1 b2 o2 : Nat) (n c1 c2 : Nat) (xs ys : List Nat) (w : World) (hn : n ≤ maxLen) (hx : xs.length = n) (hy : ys.length = n)
   (h1 : Cells w b1 o1 xs) (h2 : Cells w b2 o2 ys) :
    Calls Tryz.prog 29 #[.slice (some ⟨b1, o1, none⟩) n c1, .slice (some ⟨b2, o2, none⟩) n c2] w fun e w' => e = .returned (.bool (decide (xs = ys))) ∧ ∃ k, w' = w.drewN k := by
  unfold maxLen at hn
  go_enter Tryz.func29, Tryz.ntmps29
  go_wp2
  go_loopw [5] (fun i wr => ∃ k : Nat, k ≤ n ∧ i = .int .i64 k ∧ (∀ j, j < k → xs.getD j 0 = ys.getD j 0) ∧ ∃ d, wr = w.drewN d) (fun i _ => n - (intOf i).toNat)
  case atStart => exact ⟨0, Nat.zero_le _, rfl, fun j hj => absurd hj (Nat.not_lt_zero _), 0, rfl⟩
  case round =>
    obtain ⟨k, hk, rfl, ht, d, rfl⟩ := hrel
    by_cases hlt : k < n
    · have hlt' : (k:Int) < (n:Int) := by omega
      have g1 := h1 k (by omega)
      have g2 := h2 k (by omega)
      by_cases he : xs.getD k 0 = ys.getD k 0
      · have HE := hide he
        have hb : (((xs.getD k 0 : Nat) : Int) != ((ys.getD k 0 : Nat) : Int)) = false := by rw [he]; simp
        generalize ((xs.getD k 0 : Nat) : Int) = u at g1 hb
        generalize ((ys.getD k 0 : Nat) : Int) = v at g2 hb
        clear he h1 h2
        go_wp2_with fail
        go_quiet (fail)
        go_wp2
        refine ⟨⟨k + 1, by omega, by go_num, fun j hj => ?_, _, rfl⟩, by simp [intOf]; omega⟩
        by_cases e : j = k
        · rw [e]; exact unhide HE
        · exact ht j (by omega)
      · have hb : (((xs.getD k 0 : Nat) : Int) != ((ys.getD k 0 : Nat) : Int)) = true := by rw [bne_iff_ne]; omega
        have HE := hide he
        generalize ((xs.getD k 0 : Nat) : Int) = u at g1 hb
        generalize ((ys.getD k 0 : Nat) : Int) = v at g2 hb
        clear he h1 h2
        go_wp2_with fail
        go_quiet (fail)
        go_wp2
        go_ret
        refine ⟨?_, _, drewN_add _ _ _⟩
        have : ¬ xs = ys := fun e => unhide HE (by rw [e])
        simp [this]
    · have hk' : k = n := by omega
      have : xs = ys := by
        apply List.ext_getElem (by omega)
        intro i a1 a2
        have := ht i (by omega)
        simpa [List.getD, a1, a2] using this
      have HE := hide this
      clear this hk'
      go_wp2
      go_ret
      exact ⟨by simp [unhide HE], _, rfl⟩

set_option maxHeartbeats 400000 in
theorem sameNat_len (a1 a2 : Option Addr) (n1 n2 c1 c2 : Nat) (w : World) (hn : ((n1:Int) != (n2:Int)) = true) :
  Calls Tryz.prog 29 #[.slice a1 n1 c1, .slice a2 n2 c2] w fun e w' => e = .returned (.bool false) ∧ w' = w := by
 go_enter Tryz.func29, Tryz.ntmps29
 go_wp2
 go_ret
 exact ⟨rfl, rfl⟩

set_option maxHeartbeats 400000 in
theorem sameNat_nil (a1 a2 : Option Addr) (c1 c2 : Nat) (w : World) :
  Calls Tryz.prog 29 #[.slice a1 0 c1, .slice a2 0 c2] w fun e w' => e = .returned (.bool true) ∧ w' = w := by
 go_enter Tryz.func29, Tryz.ntmps29
 go_wp2
 go_loop [5] (fun i => i = .int .i64 0) (fun i => (intOf i).toNat)
 case atStart => rfl
 case round =>
  subst hrel
  go_wp2
  go_ret
  exact ⟨rfl, rfl⟩

theorem sameNat_any (a1 a2 : Option Addr) (n1 c1 n2 c2 : Nat) (xs ys : List Nat) (w : World) (h1 : Sl w a1 n1 c1 xs) (h2 : Sl w a2 n2 c2 ys) :
  Calls Tryz.prog 29 #[.slice a1 n1 c1, .slice a2 n2 c2] w fun e w' => e = .returned (.bool (decide (xs = ys))) ∧ ∃ k, w' = w.drewN k := by
 have l1 := h1.len
 have l2 := h2.len
 by_cases e : n1 = n2
 ·subst e
  by_cases z : n1 = 0
  ·subst z
   have e1 : xs = [] := List.eq_nil_of_length_eq_zero l1
   have e2 : ys = [] := List.eq_nil_of_length_eq_zero l2
   subst e1 e2
   refine (sameNat_nil a1 a2 c1 c2 w).mono ?_
   rintro e w' ⟨rfl, rfl⟩
   exact ⟨rfl, 0, rfl⟩
  ·rcases h1.cells with e1 | ⟨b1, o1, rfl, k1⟩
   ·subst e1; simp at l1; omega
   ·rcases h2.cells with e2 | ⟨b2, o2, rfl, k2⟩
    ·subst e2; simp at l2; omega
    ·exact sameNat_some b1 o1 b2 o2 n1 c1 c2 xs ys w (Nat.le_trans h1.le h1.cap) l1 l2 k1 k2
 ·refine (sameNat_len a1 a2 n1 n2 c1 c2 w (by rw [bne_iff_ne]; omega)).mono ?_
  rintro e w' ⟨rfl, rfl⟩
  have : ¬ xs = ys := fun h => e (by rw [← l1, ← l2, h])
  exact ⟨by simp [this], 0, rfl⟩
def vals (xs : List Nat) : List Value := xs.map (fun x => Value.int .u32 (x : Nat))

theorem cell_of_block {w : World} {b : Nat} {cur : Array Value} {e : TypeId} {fr : Nat × Nat} (h : w.heap[b]? = some (.cells cur e fr)) (i : Nat) : w.cell? ⟨b, i, none⟩ = cur[i]? := by
 simp [World.cell?, h]

theorem frozen_of_block {w : World} {b : Nat} {cur : Array Value} {e : TypeId} (h : w.heap[b]? = some (.cells cur e)) (i : Nat) : w.frozen? ⟨b, i, none⟩ = false := by
 simp [World.frozen?, h]

theorem set_block {w : World} {b : Nat} {cur : Array Value} {e : TypeId} {fr : Nat × Nat} (h : w.heap[b]? = some (.cells cur e fr)) (i : Nat) (v : Value) : (w.setCell ⟨b, i, none⟩ v).heap[b]? = some (.cells (cur.setIfInBounds i v) e fr) := by
 simp only [World.setCell, Array.getElem?_modify, h]
 simp

theorem set_block_other {w : World} {b k i : Nat} (hk : k ≠ b) (v : Value) : (w.setCell ⟨b, i, none⟩ v).heap[k]? = w.heap[k]? :=
 Below.heap_setCell w _ v k hk

theorem alloc_block (w : World) (o : Obj) : (w.alloc o).heap[w.heap.size]? = some o := by
 show (w.heap.push o)[w.heap.size]? = some o
 simp

theorem cells_of_block {w : World} {b off : Nat} {cur : Array Value} {e : TypeId} {fr : Nat × Nat} {xs : List Nat} (h : w.heap[b]? = some (.cells cur e fr)) (ht : ∀ i, i < xs.length → cur[off + i]? = some (.int .u32 (xs.getD i 0 : Nat))) : Cells w b off xs := by
 intro i hi
 rw [cell_of_block h]; exact ht i hi

theorem vals_get {xs : List Nat} {i : Nat} (h : i < xs.length) : (vals xs)[i]? = some (.int .u32 (xs.getD i 0 : Nat)) := by
 simp [vals, h]

theorem take_vals {cur : Array Value} {n : Nat} {xs : List Nat} (hl : xs.length = n) (h : cur.toList.take n = vals xs) : ∀ i, i < xs.length → cur[i]? = some (.int .u32 (xs.getD i 0 : Nat)) := by
 intro i hi
 have := vals_get hi
 rw [← h] at this
 simpa [List.getElem?_take, show i < n from by omega] using this

theorem make_n3 (n : Nat) (hn : n ≤ 70368744177600) (w : World) : (Instr.makeSlice 68 (.int .i64 (n : Int)) (.int .i64 ((n : Int) + 3))).run Tryz.prog w = .ok (.slice (some ⟨w.heap.size, 0, none⟩) n (n + 3)) (w.alloc (.cells (madeCells #[.int .u32 0] (n + 3)) 115)) := by
 obtain ⟨i, hi, hzz⟩ := Option.map_eq_some_iff.1 Tryz.info_u32
 simp only [Prod.mk.injEq] at hzz
 obtain ⟨hz, hs, hb⟩ := hzz
 have hr := run_make (P := Tryz.prog) w 68 115 i (.int .u32 0) Tryz.underlying68 hi hz .i64 .i64 n ((n : Int) + 3) (by omega) (by omega) (by rw [hb]; omega) (by omega)
 rw [hs, Nat.mul_one, show ((n : Int) + 3).toNat = n + 3 from by omega, show ((n : Int)).toNat = n from by omega] at hr
 exact hr

theorem copy_step {wr w : World} {n k : Nat} {cur : Array Value} {xs : List Nat} (hblk : wr.heap[w.heap.size]? = some (.cells cur 115)) (hsz : cur.size = n + 3) (hk : k < n)
  (hpre : ∀ i, i < k → cur[i]? = some (.int .u32 (xs.getD i 0 : Nat))) :
  ∃ cur', (wr.setCell ⟨w.heap.size, k, none⟩ (.int .u32 (xs.getD k 0 : Nat))).heap[w.heap.size]? = some (.cells cur' 115) ∧ cur'.size = n + 3 ∧ ∀ i, i < k + 1 → cur'[i]? = some (.int .u32 (xs.getD i 0 : Nat)) := by
 refine ⟨_, set_block hblk k _, by simp [hsz], ?_⟩
 intro i hi
 by_cases e : i = k
 ·subst e; simp [show i < cur.size from by omega]
 ·rw [Array.getElem?_setIfInBounds_ne (by omega)]; exact hpre i (by omega)

set_option maxHeartbeats 800000 in
theorem copy_some (b off n c : Nat) (xs : List Nat) (w : World) (hn : xs.length = n) (hcm : n ≤ 70368744177600) (hc : Cells w b off xs) :
  Calls Tryz.prog 73 #[.slice (some ⟨b, off, none⟩) n c] w fun e w' => ∃ cur, e = .returned (.slice (some ⟨w.heap.size, 0, none⟩) n (n + 3)) ∧ w'.heap[w.heap.size]? = some (.cells cur 115) ∧ cur.size = n + 3 ∧ (∀ i, i < n → cur[i]? = some (.int .u32 (xs.getD i 0 : Nat))) ∧ w'.heap.size = w.heap.size + 1 ∧ Below w.heap.size w w' := by
 have hmk := make_n3 n hcm
 go_enter Tryz.func73, Tryz.ntmps73
 go_wp2
 go_loopw [4] (fun i wr => ∃ k : Nat, k ≤ n ∧ i = .int .i64 k ∧ (∃ cur, wr.heap[w.heap.size]? = some (.cells cur 115) ∧ cur.size = n + 3 ∧ ∀ i, i < k → cur[i]? = some (.int .u32 (xs.getD i 0 : Nat))) ∧ wr.heap.size = w.heap.size + 1 ∧ Below w.heap.size w wr) (fun i _ => n - (intOf i).toNat)
 case atStart => exact ⟨0, Nat.zero_le _, rfl, ⟨_, alloc_block _ _, size_madeCells _ _, fun i hi => absurd hi (Nat.not_lt_zero _)⟩, by simp, (Below.refl _ _).alloc (Nat.le_refl _) _⟩
 case round =>
  obtain ⟨k, hk, rfl, ⟨cur, hblk, hsz, hpre⟩, hhs, hbel⟩ := hrel
  by_cases hlt : k < n
  ·have hlt' : (k:Int) < (n:Int) := by omega
   have g1 : wr.cell? ⟨w.heap.size, k, none⟩ = some cur[k]! := by rw [cell_of_block hblk]; simp [show k < cur.size from by omega]
   have g2 := frozen_of_block hblk k
   have g3 := hc k (by omega)
   have g4 : wr.cell? ⟨b, off + k, none⟩ = _ := (hbel.cell (World.block_lt_of_cell? _ _ g3)).trans g3
   have HS := hide (copy_step hblk hsz hlt hpre)
   have HB := hide (hbel.setCell (p := ⟨w.heap.size, k, none⟩) (Nat.le_refl _) (.int .u32 (xs.getD k 0 : Nat)))
   have HH := hide hhs
   generalize xs.getD k 0 = x at g3 g4 HS HB
   clear hblk hsz hpre hbel g3 hhs
   go_wp2
   refine ⟨⟨k + 1, by omega, by go_num, by simpa using unhide HS, by simpa using unhide HH, unhide HB⟩, by simp [intOf]; omega⟩
  ·have HS := hide hpre
   have HB := hide hblk
   have HZ := hide hsz
   have HH := hide hhs
   clear hpre hblk hsz hhs
   go_wp2
   go_ret
   exact ⟨cur, rfl, unhide HB, unhide HZ, fun i hi => unhide HS i (by omega), unhide HH, hbel⟩

set_option maxHeartbeats 800000 in
theorem copy_nil (a : Option Addr) (c : Nat) (w : World) :
  Calls Tryz.prog 73 #[.slice a 0 c] w fun e w' => ∃ cur, e = .returned (.slice (some ⟨w.heap.size, 0, none⟩) 0 3) ∧ w'.heap[w.heap.size]? = some (.cells cur 115) ∧ cur.size = 3 ∧ w'.heap.size = w.heap.size + 1 ∧ Below w.heap.size w w' := by
 have hmk : ∀ w, (Instr.makeSlice 68 (.int .i64 0) (.int .i64 3)).run Tryz.prog w = .ok (.slice (some ⟨w.heap.size, 0, none⟩) 0 3) (w.alloc (.cells (madeCells #[.int .u32 0] 3) 115)) := fun w => make_n3 0 (by omega) w
 go_enter Tryz.func73, Tryz.ntmps73
 go_wp2
 go_loopw [4] (fun i wr => i = .int .i64 0 ∧ (∃ cur, wr.heap[w.heap.size]? = some (.cells cur 115) ∧ cur.size = 3) ∧ wr.heap.size = w.heap.size + 1 ∧ Below w.heap.size w wr) (fun i _ => (intOf i).toNat)
 case atStart => exact ⟨rfl, ⟨_, alloc_block _ _, size_madeCells _ _⟩, by simp, (Below.refl _ _).alloc (Nat.le_refl _) _⟩
 case round =>
  obtain ⟨rfl, ⟨cur, hblk, hsz⟩, hhs, hbel⟩ := hrel
  have HB := hide hblk
  have HZ := hide hsz
  have HH := hide hhs
  clear hblk hsz hhs
  go_wp2
  go_ret
  exact ⟨cur, rfl, unhide HB, unhide HZ, unhide HH, hbel⟩

theorem copy_any (a : Option Addr) (n c : Nat) (xs : List Nat) (w : World) (h : Sl w a n c xs) (hb : n ≤ 70368744177600) :
  Calls Tryz.prog 73 #[.slice a n c] w fun e w' => ∃ cur, e = .returned (.slice (some ⟨w.heap.size, 0, none⟩) n (n + 3)) ∧ w'.heap[w.heap.size]? = some (.cells cur 115) ∧ cur.size = n + 3 ∧ (∀ i, i < n → cur[i]? = some (.int .u32 (xs.getD i 0 : Nat))) ∧ w'.heap.size = w.heap.size + 1 ∧ Below w.heap.size w w' := by
 have hl := h.len
 rcases h.cells with h0 | ⟨b, off, rfl, hc⟩
 ·subst h0
  simp at hl
  subst hl
  refine (copy_nil a c w).mono ?_
  rintro e w' ⟨cur, rfl, h1, h2, h3, h4⟩
  exact ⟨cur, rfl, h1, h2, fun i hi => absurd hi (Nat.not_lt_zero _), h3, h4⟩
 ·exact copy_some b off n c xs w hl hb hc
structure Chg (S : Nat → Prop) (w w' : World) : Prop where
 os : w'.os = w.os
 tape : w'.tape = w.tape
 output : w'.output = w.output
 size : w.heap.size ≤ w'.heap.size
 block : ∀ k, k < w.heap.size → ¬ S k → w'.heap[k]? = w.heap[k]?

theorem Chg.refl (S : Nat → Prop) (w : World) : Chg S w w := ⟨rfl, rfl, rfl, Nat.le_refl _, fun _ _ _ => rfl⟩
theorem Chg.trans {S : Nat → Prop} {a b c : World} (h : Chg S a b) (k : Chg S b c) : Chg S a c :=
 ⟨k.os.trans h.os, k.tape.trans h.tape, k.output.trans h.output, Nat.le_trans h.size k.size, fun i hi hs => (k.block i (Nat.lt_of_lt_of_le hi h.size) hs).trans (h.block i hi hs)⟩
theorem Chg.mono {S T : Nat → Prop} {w w' : World} (h : Chg S w w') (hs : ∀ k, k < w.heap.size → S k → T k) : Chg T w w' :=
 ⟨h.os, h.tape, h.output, h.size, fun k hk hn => h.block k hk (fun hh => hn (hs k hk hh))⟩
theorem Chg.of_below {S : Nat → Prop} {w w' : World} (h : Below w.heap.size w w') : Chg S w w' :=
 ⟨h.os, h.tape, h.output, h.size, fun k hk _ => h.block k hk⟩
theorem Chg.of_alloc {S : Nat → Prop} (w : World) (o : Obj) : Chg S w (w.alloc o) := .of_below ((Below.refl _ _).alloc (Nat.le_refl _) o)
theorem Chg.of_set {S : Nat → Prop} (w : World) (b i : Nat) (v : Value) (hb : S b) : Chg S w (w.setCell ⟨b, i, none⟩ v) :=
 ⟨rfl, rfl, rfl, by simp, fun k hk hs => set_block_other (fun e => by subst e; exact hs hb) v⟩
theorem Chg.of_grown {S : Nat → Prop} {w w' : World} {row : Option Nat} (h : w.grownBy w' row) (hr : ∀ k, row = some k → S k) : Chg S w w' :=
 ⟨h.os, h.tape, h.output, h.size, fun k hk hs => h.block k hk (fun e => hs (hr k e.symm))⟩
theorem Chg.of_drewN {S : Nat → Prop} (w : World) (k : Nat) : Chg S w (w.drewN k) := ⟨rfl, rfl, rfl, Nat.le_refl _, fun _ _ _ => rfl⟩
theorem Chg.of_drew {S : Nat → Prop} (w : World) : Chg S w w.drew := ⟨rfl, rfl, rfl, Nat.le_refl _, fun _ _ _ => rfl⟩
theorem Chg.below {S : Nat → Prop} {w w' : World} {B : Nat} (h : Chg S w w') (hB : B ≤ w.heap.size) (hs : ∀ k, k < B → ¬ S k) : Below B w w' :=
 ⟨h.os, h.tape, h.output, h.size, fun k hk => h.block k (by omega) (hs k hk)⟩

theorem Chg.cell {S : Nat → Prop} {w w' : World} (h : Chg S w w') {b i : Nat} {v : Value} (hs : ¬ S b) (hc : w.cell? ⟨b, i, none⟩ = some v) : w'.cell? ⟨b, i, none⟩ = some v := by
 have hlt := World.block_lt_of_cell? _ _ hc
 rw [World.cell?_of_block (w := w) (h.block b hlt hs)]; exact hc

theorem Cells.chg {S : Nat → Prop} {w w' : World} {b off : Nat} {xs : List Nat} (h : Cells w b off xs) (k : Chg S w w') (hs : ¬ S b) : Cells w' b off xs :=
 fun i hi => k.cell hs (h i hi)

theorem Sl.chg {S : Nat → Prop} {w w' : World} {a : Option Addr} {n c : Nat} {xs : List Nat} (h : Sl w a n c xs) (k : Chg S w w') (hs : ∀ x, a = some x → xs ≠ [] → ¬ S x.block) : Sl w' a n c xs :=
 ⟨h.len, h.le, h.cap, h.cells.elim .inl (fun ⟨b, off, e, kk⟩ => by
  by_cases hx : xs = []
  ·exact .inl hx
  ·exact .inr ⟨b, off, e, kk.chg k (hs _ e hx)⟩)⟩

theorem Sl.block_lt {w : World} {a : Option Addr} {n c : Nat} {xs : List Nat} (h : Sl w a n c xs) (hx : xs ≠ []) : ∀ x, a = some x → x.block < w.heap.size := by
 intro x hx'
 rcases h.cells with e | ⟨b, off, e, kk⟩
 ·exact absurd e hx
 ·rw [e] at hx'
  cases hx'
  have := kk 0 (by cases xs with | nil => exact absurd rfl hx | cons => simp)
  exact World.block_lt_of_cell? _ _ this

theorem ownsRow_chg {S : Nat → Prop} {w w' : World} {base : Nat} {e : TypeId} {size : Nat} {v : Value} {n : Nat} {xs : List Value} (h : w.ownsRow base e size v n xs) (k : Chg S w w') (hs : ∀ k, v.ownBlock = some k → ¬ S k) : w'.ownsRow base e size v n xs := by
 refine ⟨h.1, h.2.imp id ?_⟩
 rintro ⟨g, cap, cur, rfl, hb, hg, h1, h2, h3, h4⟩
 refine ⟨g, cap, cur, rfl, hb, ?_, h1, h2, h3, h4⟩
 have hlt : g < w.heap.size := by
  rcases Nat.lt_or_ge g w.heap.size with hlt | hge
  ·exact hlt
  ·rw [Array.getElem?_eq_none hge] at hg; cases hg
 rw [k.block g hlt (hs g rfl)]; exact hg

structure Ent where
 b : Nat
 c : Nat
 b0 : Nat
 c0 : Nat
 xs : List Nat

def marks : List Nat := [42405, 23130, 42330]
def Ent.v (e : Ent) : Value := .slice (some ⟨e.b, 0, none⟩) (e.xs.length + 3) e.c
def Ent.v0 (e : Ent) : Value := .slice (some ⟨e.b0, 0, none⟩) (e.xs.length + 3) e.c0

def Own (B : Nat) (v0 v1 : Value) (k : Nat) : Prop := k = B ∨ v0.ownBlock = some k ∨ v1.ownBlock = some k

structure EntOk (w : World) (B : Nat) (v0 v1 : Value) (e : Ent) : Prop where
 sl : Sl w (some ⟨e.b, 0, none⟩) (e.xs.length + 3) e.c (e.xs ++ marks)
 sl0 : Sl w (some ⟨e.b0, 0, none⟩) (e.xs.length + 3) e.c0 (e.xs ++ marks)
 s : ¬ Own B v0 v1 e.b
 s0 : ¬ Own B v0 v1 e.b0

structure Giv (w : World) (B : Nat) (v0 v1 : Value) (es : List Ent) : Prop where
 blk : ∃ cur, w.heap[B]? = some (.cells cur 37) ∧ cur.size = 20 ∧ cur[0]? = some v0 ∧ cur[1]? = some v1 ∧ ∀ i, 2 ≤ i → i < 20 → cur[i]? = some (.slice none 0 0)
 own0 : w.ownsRow (B + 1) 68 1 v0 es.length (es.map Ent.v)
 own1 : w.ownsRow (B + 1) 68 1 v1 es.length (es.map Ent.v0)
 apart : ∀ k, v0.ownBlock = some k → v1.ownBlock ≠ some k
 ents : ∀ e ∈ es, EntOk w B v0 v1 e

theorem Tryz.info_limbs : (Tryz.prog.info? 68).map (fun i => (i.zero, i.size, i.bytes)) = some (some (.slice none 0 0), 1, 24) := by kernel_rfl

theorem own_of_copy {w w1 : World} {n : Nat} {cur : Array Value} {xs : List Nat} (hl : xs.length = n) (hn : n ≤ 35184372088000) (hblk : w1.heap[w.heap.size]? = some (.cells cur 115)) (hsz : cur.size = n + 3)
  (hpre : ∀ i, i < n → cur[i]? = some (.int .u32 (xs.getD i 0 : Nat))) : w1.ownsRow w.heap.size 115 1 (.slice (some ⟨w.heap.size, 0, none⟩) n (n + 3)) n (vals xs) := by
 refine ⟨by simp [vals, hl], .inr ⟨w.heap.size, n + 3, cur, rfl, Nat.le_refl _, hblk, by omega, ?_, by omega, ?_⟩⟩
 ·unfold maxLen; omega
 ·apply List.ext_getElem?
  intro i
  by_cases hi : i < n
  ·have h1 := hpre i hi
   rw [vals_get (by omega)]
   simpa [List.getElem?_take, hi] using h1
  ·rw [List.getElem?_eq_none (by simp; omega), List.getElem?_eq_none (by simp [vals]; omega)]

theorem Giv.chg {S : Nat → Prop} {w w' : World} {B : Nat} {v0 v1 : Value} {es : List Ent} (h : Giv w B v0 v1 es) (k : Chg S w w') (hB : ¬ S B) (h0 : ∀ k, v0.ownBlock = some k → ¬ S k) (h1 : ∀ k, v1.ownBlock = some k → ¬ S k)
  (hes : ∀ e ∈ es, ¬ S e.b ∧ ¬ S e.b0) : Giv w' B v0 v1 es := by
 obtain ⟨cur, hc, hr⟩ := h.blk
 have hlt : B < w.heap.size := by
  rcases Nat.lt_or_ge B w.heap.size with hlt | hge
  ·exact hlt
  ·rw [Array.getElem?_eq_none hge] at hc; cases hc
 refine ⟨⟨cur, by rw [k.block B hlt hB]; exact hc, hr⟩, ownsRow_chg h.own0 k h0, ownsRow_chg h.own1 k h1, h.apart, fun e he => ?_⟩
 have := h.ents e he
 exact ⟨this.sl.chg k (fun x hx _ => by cases hx; exact (hes e he).1), this.sl0.chg k (fun x hx _ => by cases hx; exact (hes e he).2), this.s, this.s0⟩

theorem Giv.below {w w' : World} {B : Nat} {v0 v1 : Value} {es : List Ent} (h : Giv w B v0 v1 es) (k : Below w.heap.size w w') : Giv w' B v0 v1 es :=
 h.chg (S := fun _ => False) (.of_below k) id (fun _ _ => id) (fun _ _ => id) (fun _ _ => ⟨id, id⟩)

theorem Giv.cell0 {w : World} {B : Nat} {v0 v1 : Value} {es : List Ent} (h : Giv w B v0 v1 es) : w.cell? ⟨B, 0, none⟩ = some v0 ∧ w.cell? ⟨B, 1, none⟩ = some v1 ∧ w.frozen? ⟨B, 0, none⟩ = false ∧ w.frozen? ⟨B, 1, none⟩ = false ∧ B < w.heap.size := by
 obtain ⟨cur, hc, hr⟩ := h.blk
 have e0 : w.cell? ⟨B, 0, none⟩ = some v0 := by rw [cell_of_block hc]; exact hr.2.1
 exact ⟨e0, by rw [cell_of_block hc]; exact hr.2.2.1, frozen_of_block hc _, frozen_of_block hc _, World.block_lt_of_cell? _ _ e0⟩

theorem grown_frozen {w w' : World} {row : Option Nat} (hg : w.grownBy w' row) {b i : Nat} (hlt : b < w.heap.size) (hne : some b ≠ row) : w'.cell? ⟨b, i, none⟩ = w.cell? ⟨b, i, none⟩ ∧ w'.frozen? ⟨b, i, none⟩ = w.frozen? ⟨b, i, none⟩ :=
 ⟨hg.cell_far ⟨b, i, none⟩ hlt hne, hg.frozen_far ⟨b, i, none⟩ hlt hne⟩

theorem sl_of_own {w : World} {base g n c : Nat} {xs : List Nat} (h : w.ownsRow base 115 1 (.slice (some ⟨g, 0, none⟩) n c) n (vals xs)) : Sl w (some ⟨g, 0, none⟩) n c xs := by
 obtain ⟨hl, h2⟩ := h
 have hl' : xs.length = n := by simpa [vals] using hl
 rcases h2 with ⟨h2, h3⟩ | ⟨g', cap, cur, h3, h4, h5, h6, h7, h8, h9⟩
 ·cases h2
 ·injection h3 with e1 e2 e3
  injection e1 with e1
  injection e1 with e1
  subst e1 e3
  refine ⟨hl', h6, h7, .inr ⟨_, _, rfl, cells_of_block h5 ?_⟩⟩
  have := take_vals hl' (by simpa using h9)
  simpa using this

theorem vals_append (xs ys : List Nat) : vals xs ++ vals ys = vals (xs ++ ys) := by simp [vals]

theorem own_ge {w : World} {base : Nat} {e : TypeId} {size : Nat} {v : Value} {n : Nat} {xs : List Value} (h : w.ownsRow base e size v n xs) : ∀ k, v.ownBlock = some k → base ≤ k ∧ k < w.heap.size := by
 intro k hk
 rcases h.2 with ⟨h2, h3⟩ | ⟨g', cap, cur, h3, h4, h5, h6, h7, h8, h9⟩
 ·subst h2; cases hk
 ·subst h3
  simp [Value.ownBlock] at hk
  subst hk
  refine ⟨h4, ?_⟩
  rcases Nat.lt_or_ge g' w.heap.size with hlt | hge
  ·exact hlt
  ·rw [Array.getElem?_eq_none hge] at h5; cases h5

theorem after_copy {W w5 : World} {B n : Nat} {v1 : Value} {xs : List Value} (q7 : B < W.heap.size) (q5 : W.cell? ⟨B, 1, none⟩ = some v1) (q6 : W.frozen? ⟨B, 1, none⟩ = false) (ho : W.ownsRow (B + 1) 68 1 v1 n xs)
  (hb : Below W.heap.size W.drew w5) : w5.ownsRow (B + 1) 68 1 v1 n xs ∧ w5.cell? ⟨B, 1, none⟩ = some v1 ∧ w5.frozen? ⟨B, 1, none⟩ = false ∧ B < w5.heap.size := by
 have hb' : Below W.heap.size W w5 := (Below.drew (Below.refl _ _)).trans hb
 exact ⟨ownsRow_chg ho (.of_below (S := fun _ => False) hb') (fun _ _ => id), (hb'.cell q7).trans q5, (hb'.frozen q7).trans q6, Nat.lt_of_lt_of_le q7 hb'.size⟩

theorem after_append {w5 w6 : World} {B n : Nat} {v1 : Value} {xs : List Value} {o : Obj} (q7 : B < w5.heap.size) (q5 : w5.cell? ⟨B, 1, none⟩ = some v1) (q6 : w5.frozen? ⟨B, 1, none⟩ = false) (ho : w5.ownsRow (B + 1) 68 1 v1 n xs)
  (hg : (w5.alloc o).grownBy w6 v1.ownBlock) : w6.cell? ⟨B, 1, none⟩ = some v1 ∧ w6.frozen? ⟨B, 1, none⟩ = false := by
 have n0 : some B ≠ v1.ownBlock := fun e => by have := (own_ge ho B e.symm).1; omega
 have r1 := grown_frozen hg (b := B) (i := 1) (by simp; omega) n0
 exact ⟨by rw [r1.1, World.cell?_alloc_lt _ _ _ (by exact q7)]; exact q5, by rw [r1.2, World.frozen?_alloc_old _ _ _ (by simp; omega)]; exact q6⟩

theorem one_slice {a : Option Addr} {n c : Nat} : ∀ u ∈ [Value.slice a n c], u.oneCell' = true := by
 intro u hu; simp at hu; subst hu; rfl
theorem block_lt {w : World} {b : Nat} {o : Obj} (h : w.heap[b]? = some o) : b < w.heap.size := by
 rcases Nat.lt_or_ge b w.heap.size with hlt | hge
 ·exact hlt
 ·rw [Array.getElem?_eq_none hge] at h; cases h
end Go.Proofs.YtbbicappjicblaaGreatDoor
