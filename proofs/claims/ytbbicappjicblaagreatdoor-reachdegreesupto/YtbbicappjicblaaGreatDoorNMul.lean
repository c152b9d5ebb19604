/- Copy -/
import Derived.Test.YtbbicappjicblaaGreatDoorUpd
import Derived.Laws.IdiomCopy
import Derived.Test.YtbbicappjicblaaGreatDoorGiv2
import Derived.Test.YtbbicappjicblaaGreatDoorBase
import Derived.Lib.BitFns
namespace Go.Proofs.YtbbicappjicblaaGreatDoor
open Go.RowKit Go.Deep
set_option linter.unusedVariables false
theorem Upd.setCells (b lo hi : Nat) : ∀ (vs : List Value) (o : Nat) (w : World), lo ≤ o → o + vs.length ≤ hi → Upd b lo hi w (w.setCells b o vs)
 | [], o, w, _, _ => Upd.refl _ _ _ _
 | v :: vs, o, w, h1, h2 => by
  simp only [List.length_cons] at h2
  exact ((Upd.refl b lo hi w).set o v h1 (by omega)).trans (Upd.setCells b lo hi vs (o + 1) _ (by omega) (by omega))

theorem vals_getElem {xs : List Nat} {i : Nat} (h : i < (vals xs).length) : (vals xs)[i] = .int .u32 (xs.getD i 0 : Nat) := by
 have h' : i < xs.length := by simpa [vals] using h
 have := vals_get h'
 rw [List.getElem?_eq_getElem h] at this
 simpa using this

theorem Fn.copied {w : World} {b off n : Nat} {f : Nat → Nat} (h : Fn w b off n f) (xs : List Nat) (hl : xs.length ≤ n) : Fn (w.setCells b off (vals xs)) b off n (fun i => if i < xs.length then xs.getD i 0 else f i) := by
 intro i hi
 refine ⟨?_, by rw [World.frozen?_setCells]; exact (h i hi).2⟩
 have hlen : (vals xs).length = xs.length := by simp [vals]
 by_cases e : i < xs.length
 ·rw [World.cell?_setCells_in b (vals xs) off w (fun j hj => by rw [(h j (by omega)).1]; rfl) i (by omega), vals_getElem]
  simp [e]
 ·rw [World.cell?_setCells_out b (vals xs) off w _ (fun _ _ => by simp; omega)]
  simp [e, (h i hi).1]

theorem Tryz.size_u32 : (Tryz.prog.info? 115).map (·.size) = some 1 := by kernel_rfl

theorem vals_one {xs : List Nat} : ∀ v ∈ vals xs, v.oneCell' = true := by
 intro v hv
 simp [vals] at hv
 obtain ⟨x, _, rfl⟩ := hv
 rfl

theorem wpList_copy_row {w : World} {ops : Array Oper} {rest : List Oper} {o : Oper} {a : Act} {Q : Exit → Act → World → Prop} (hgd : o.guard = none) (d s : Operand)
  (ho : o.op = .call { callee := .builtin .copy, args := #[d, s], argTypes := #[68, 68] })
  (b off dLen dCap : Nat) (sp : Option Addr) (sLen sCap : Nat) (hd : a.eval d = .slice (some ⟨b, off, none⟩) dLen dCap) (hs : a.eval s = .slice sp sLen sCap)
  (f : Nat → Nat) (hf : Fn w b off dLen f) (xs : List Nat) (hx : Sl w sp sLen sCap xs) (hle : sLen ≤ dLen)
  (h : wpList Tryz.prog ops Q rest (a.put o.dst (goInt xs.length)) (w.setCells b off (vals xs))) : wpList Tryz.prog ops Q (o :: rest) a w := by
 refine wpList_plain hgd fun K hK => ?_
 have hlen : (vals xs).length = xs.length := by simp [vals]
 rcases hx.cells with h0 | ⟨b', off', rfl, hc⟩
 ·subst h0
  have hl := hx.len
  simp at hl
  subst hl
  have hrun := run_copy_none (P := Tryz.prog) w 68 68 o.type 115 (some ⟨b, off, none⟩) sp dLen dCap 0 sCap Tryz.underlying68 Tryz.size_u32 (by simp)
  unfold Oper.wp
  simp [execOp, ho, resolve, invoke, builtin, hd, hs, hrun, Result.andThen]
  exact hK _ _ h
 ·have hrun := run_copy_cells (P := Tryz.prog) w 68 68 o.type 115 b off dLen dCap ⟨b', off', none⟩ sLen sCap (vals xs) Tryz.underlying68 Tryz.size_u32
   (by rw [hlen, hx.len]; exact (Nat.min_eq_left hle).symm)
   (fun j v hj => by
    have hj' : j < xs.length := by
     rcases Nat.lt_or_ge j xs.length with h | h
     ·exact h
     ·rw [List.getElem?_eq_none (by omega)] at hj; cases hj
    rw [vals_get hj'] at hj
    cases hj
    have := hc j hj'
    have e : (⟨b', off', none⟩ : Addr).add j = ⟨b', off' + j, none⟩ := by unfold Addr.add; split <;> simp_all
    rw [e]; exact this)
   (fun j hj => by rw [(hf j (by have := hx.len; omega)).1]; rfl) (fun j hj => (hf j (by have := hx.len; omega)).2) vals_one
  unfold Oper.wp
  simp [execOp, ho, resolve, invoke, builtin, hd, hs, hrun, Result.andThen]
  rw [hlen]
  exact hK _ _ h

theorem make_len (n : Nat) (hn : n ≤ 70368744177600) (w : World) : (Instr.makeSlice 68 (.int .i64 (n : Int)) (.int .i64 (n : Int))).run Tryz.prog w = .ok (.slice (some ⟨w.heap.size, 0, none⟩) n n) (w.alloc (.cells (madeCells #[.int .u32 0] n) 115)) :=
 run_make_row' (P := Tryz.prog) 68 115 (.int .u32 0) 4 Tryz.underlying68 Tryz.info_u32 rfl .i64 .i64 n (by omega) (by omega) w

theorem Fn.congr {w : World} {b off n : Nat} {f g : Nat → Nat} (h : Fn w b off n f) (he : ∀ i, i < n → f i = g i) : Fn w b off n g := by
 intro i hi
 rw [← he i hi]; exact h i hi

def lst (f : Nat → Nat) (n : Nat) : List Nat := (List.range n).map f
theorem lst_len (f : Nat → Nat) (n : Nat) : (lst f n).length = n := by simp [lst]
theorem lst_getD (f : Nat → Nat) (n i : Nat) (h : i < n) : (lst f n).getD i 0 = f i := by simp [lst, List.getD, h]
theorem lst_val (f : Nat → Nat) (n : Nat) : val (lst f n) = valF f n := by
 rw [← valF_list, lst_len]
 exact valF_congr (fun i hi => lst_getD f n i hi)
theorem lst_ok {f : Nat → Nat} {n : Nat} (h : ∀ i, i < n → f i < 4294967296) : Ok (lst f n) := by
 intro x hx
 simp [lst] at hx
 obtain ⟨i, hi, rfl⟩ := hx
 exact h i hi
theorem Fn.sl {w : World} {b off n c : Nat} {f : Nat → Nat} (h : Fn w b off n f) (hc : n ≤ c) (hm : c ≤ maxLen) : Sl w (some ⟨b, off, none⟩) n c (lst f n) := by
 refine ⟨lst_len f n, hc, hm, .inr ⟨_, _, rfl, ?_⟩⟩
 intro i hi
 rw [lst_len] at hi
 rw [lst_getD f n i hi]; exact (h i hi).1

theorem getD_lt {xs : List Nat} {f : Nat → Nat} (ok : Ok xs) : ∀ i, (if i < xs.length then xs.getD i 0 else 0) < 4294967296 := by
 intro i
 split
 ·exact ok.getD i
 ·decide

theorem valF_pad (xs : List Nat) (n : Nat) (h : xs.length ≤ n) : valF (fun i => if i < xs.length then xs.getD i 0 else 0) n = val xs := by
 have e0 : valF (fun i => if i < xs.length then xs.getD i 0 else 0) xs.length = valF (fun i => xs.getD i 0) xs.length := valF_congr (fun i hi => by simp [hi])
 have : ∀ k, valF (fun i => if i < xs.length then xs.getD i 0 else 0) (xs.length + k) = val xs := by
  intro k
  induction k with
  | zero => rw [Nat.add_zero, e0, valF_list]
  | succ k ih =>
   rw [← Nat.add_assoc]
   simp only [valF]
   rw [ih]; simp
 have h2 := this (n - xs.length)
 rw [show xs.length + (n - xs.length) = n from by omega] at h2
 exact h2

set_option maxHeartbeats 400000 in
theorem clone_any (a : Option Addr) (n c : Nat) (xs : List Nat) (w : World) (h : Sl w a n c xs) (hb : n ≤ 70368744177600) :
  Calls Tryz.prog 137 #[.slice a n c] w fun e w' => e = .returned (.slice (some ⟨w.heap.size, 0, none⟩) n n) ∧ Fn w' w.heap.size 0 n (fun i => xs.getD i 0) ∧ Below w.heap.size w w' := by
 have hmk := make_len n hb
 have HF := hide (Fn.made w n 115)
 have HS := hide (h.below ((Below.refl w.heap.size w).alloc (Nat.le_refl _) (.cells (madeCells #[.int .u32 0] n) 115)))
 have HL := hide h.len
 go_enter Tryz.func137, Tryz.ntmps137
 go_wp2_with (refine wpList_copy_row rfl _ _ rfl w.heap.size 0 n n a n c rfl rfl _ (unhide HF) xs (unhide HS) (Nat.le_refl _) ?_)
 go_ret
 refine ⟨rfl, ?_, ?_⟩
 ·refine ((unhide HF).copied xs (by rw [unhide HL]; exact Nat.le_refl _)).congr ?_
  intro i hi
  simp [unhide HL, hi]
 ·refine ((Below.refl w.heap.size w).alloc (Nat.le_refl _) (.cells (madeCells #[.int .u32 0] n) 115)).trans ?_
  refine (Upd.setCells w.heap.size 0 n (vals xs) 0 _ (Nat.le_refl _) ?_).below (Nat.le_refl _) (by simp)
  simp [vals, unhide HL]

set_option maxHeartbeats 800000 in
theorem addTo_nil (bz oz nz cz cb : Nat) (a : Option Addr) (w : World) :
  Calls Tryz.prog 156 #[.slice (some ⟨bz, oz, none⟩) nz cz, .slice a 0 cb] w fun e w' => e = .returned (.int .u32 0) ∧ w' = w := by
 go_enter Tryz.func156, Tryz.ntmps156
 go_wp2
 go_loop [5, 10] (fun cv i => cv = .int .u32 0 ∧ i = .int .i64 0) (fun _ i => (intOf i).toNat)
 case atStart => exact ⟨rfl, rfl⟩
 case round =>
  obtain ⟨rfl, rfl⟩ := hrel
  go_wp2
  go_loop [5, 7] (fun cv i => cv = .int .u32 0 ∧ i = .int .i64 0) (fun _ i => (intOf i).toNat)
  case atStart => exact ⟨rfl, rfl⟩
  case round =>
   obtain ⟨rfl, rfl⟩ := hrel
   go_wp2
   go_ret
   exact ⟨rfl, rfl⟩

theorem addTo_any (bz oz nz cz m cb : Nat) (a : Option Addr) (f : Nat → Nat) (ys : List Nat) (w : World) (hs : Sl w a m cb ys) (hb : ∀ x, a = some x → ys ≠ [] → x.block ≠ bz) (hle : m ≤ nz) (hn : nz ≤ maxLen) (oy : Ok ys) (of : ∀ i, i < nz → f i < 4294967296)
  (hz : Fn w bz oz nz f) :
  Calls Tryz.prog 156 #[.slice (some ⟨bz, oz, none⟩) nz cz, .slice a m cb] w fun e w' => ∃ f' c, e = .returned (.int .u32 (c : Nat)) ∧ c ≤ 1 ∧ Fn w' bz oz nz f' ∧ (∀ i, i < nz → f' i < 4294967296) ∧
   valF f' nz + 4294967296 ^ nz * c = valF f nz + val ys ∧ Upd bz oz (oz + nz) w w' := by
 by_cases h0 : ys = []
 ·subst h0
  have hl := hs.len
  simp at hl
  subst hl
  refine (addTo_nil bz oz nz cz cb a w).mono ?_
  rintro e w' ⟨rfl, rfl⟩
  exact ⟨f, 0, rfl, Nat.zero_le _, hz, of, by simp [val], Upd.refl _ _ _ _⟩
 ·rcases hs.cells with h | ⟨b, off, rfl, hc⟩
  ·exact absurd h h0
  ·exact addTo_some bz oz nz cz b off m cb f ys w (hb _ rfl h0) hs.len hle hn oy of hz hc
theorem or_halves (a b : Nat) (ha : a < 4294967296) (hb : b < 4294967296) : bits .or .u64 ((a : Int) * 4294967296) (b : Int) = ((b + 4294967296 * a : Nat) : Int) := by
 have e : (a : Int) * 4294967296 = ((a * 4294967296 : Nat) : Int) := by omega
 rw [e, u64_or_nat _ _ (by omega) (by omega)]
 congr 1
 have h := Nat.shiftLeft_add_eq_or_of_lt (i := 32) (b := b) (by simpa using hb) a
 rw [Nat.shiftLeft_eq] at h
 have e2 : (2:Nat) ^ 32 = 4294967296 := by decide
 rw [e2] at h
 rw [← h]; omega

set_option maxHeartbeats 400000 in
theorem word_any (a : Option Addr) (n c : Nat) (xs : List Nat) (w : World) (h : Sl w a n c xs) (ok : Ok xs) :
  Calls Tryz.prog 136 #[.slice a n c] w fun e w' => e = .returned (.int .u64 ((xs.getD 0 0 + 4294967296 * xs.getD 1 0 : Nat) : Int)) ∧ w' = w := by
 have b0 := ok.getD 0
 have b1 := ok.getD 1
 have k1 := limbAt_any a n c xs 1 w h (by decide)
 have k0 := limbAt_any a n c xs 0 w h (by decide)
 rw [show (1:Int).toNat = 1 from rfl] at k1
 rw [show (0:Int).toNat = 0 from rfl] at k0
 generalize xs.getD 0 0 = x0 at *
 generalize xs.getD 1 0 = x1 at *
 have K1 := hide k1
 have K0 := hide k0
 clear k1 k0 h ok
 have HO := hide (or_halves x1 x0 b1 b0)
 go_enter Tryz.func136, Tryz.ntmps136
 go_wp2_with fail
 refine (unhide K1).mono ?_
 rintro e w' ⟨rfl, rfl⟩
 go_wp2_with fail
 refine (unhide K0).mono ?_
 rintro e w' ⟨rfl, rfl⟩
 go_wp2
 go_ret
 refine ⟨?_, rfl⟩
 show Ending.returned (Value.int IntKind.u64 (bits BinOp.or IntKind.u64 ((x1 : Int) * 4294967296) (x0 : Int))) = _
 rw [unhide HO]

theorem two_sl (w : World) (x y : Nat) (e : TypeId) : Sl (w.alloc (.cells #[.int .u32 (x : Nat), .int .u32 (y : Nat)] e)) (some ⟨w.heap.size, 0, none⟩) 2 2 [x, y] := by
 refine ⟨rfl, Nat.le_refl _, by decide, .inr ⟨_, _, rfl, ?_⟩⟩
 intro i hi
 match i, hi with
 | 0, _ => simp
 | 1, _ => simp

theorem two_val (v : Nat) : val [v % 4294967296, v / 4294967296] = v := by
 simp only [val]; omega

theorem two_ok (v : Nat) (hv : v < 18446744073709551616) : Ok [v % 4294967296, v / 4294967296] :=
 Ok.cons (by omega) (Ok.cons (by omega) Ok.nil)

set_option maxHeartbeats 400000 in
theorem fromWord_any (v : Nat) (w : World) (hv : v < 18446744073709551616) :
  Calls Tryz.prog 133 #[.int .u64 (v : Nat)] w fun e w' => ∃ a' m ys, e = .returned (.slice a' m m) ∧ Sl w' a' m m ys ∧ Rep v ys ∧ NewAt w.heap.size a' ∧ Below w.heap.size w w' := by
 have K := hide (trim_any _ 2 2 _ _ (two_sl w (v % 4294967296) (v / 4294967296) 115) (two_ok v hv))
 go_enter Tryz.func133, Tryz.ntmps133
 go_wp2_with fail
 refine (unhide K).mono ?_
 rintro e w' ⟨a', m, ys, rfl, hs, hr, ha, rfl⟩
 go_wp2
 go_ret
 rw [two_val] at hr
 refine ⟨a', m, ys, rfl, hs, hr, ?_, (Below.refl _ _).alloc (Nat.le_refl _) _⟩
 intro x hx
 rcases ha with rfl | rfl
 ·cases hx; exact Nat.le_refl _
 ·cases hx

set_option maxHeartbeats 400000 in
theorem from_any (v : Nat) (w : World) (hv : v < 18446744073709551616) :
  Calls Tryz.prog 131 #[.int .u64 (v : Nat)] w fun e w' => ∃ a' m ys, e = .returned (.slice a' m m) ∧ Sl w' a' m m ys ∧ Rep v ys ∧ NewAt w.heap.size a' ∧ Below w.heap.size w w' := by
 have K := hide (fromWord_any v w hv)
 go_enter Tryz.func131, Tryz.ntmps131
 go_wp2_with fail
 refine (unhide K).mono ?_
 rintro e w' ⟨a', m, ys, rfl, hs, hr, ha, hb⟩
 go_wp2
 go_ret
 exact ⟨a', m, ys, rfl, hs, hr, ha, hb⟩

theorem rep_len {v : Nat} {ys : List Nat} (h : Rep v ys) (hv : v < 18446744073709551616) : ys.length ≤ 2 := by
 match ys, h with
 | [], _ => simp
 | [_], _ => simp
 | [_, _], _ => simp
 | x :: y :: z :: zs, h =>
  exfalso
  have h1 : val (z :: zs) ≠ 0 := val_ne (norm_tail (norm_tail h.norm)) (by simp)
  have h2 := h.val
  simp only [val] at h1 h2
  omega

theorem rep_two {v : Nat} {ys : List Nat} (h : Rep v ys) (hv : v < 18446744073709551616) : ys.getD 0 0 + 4294967296 * ys.getD 1 0 = v := by
 have hl := rep_len h hv
 have h2 := h.val
 match ys, hl with
 | [], _ => simpa [val] using h2
 | [_], _ => simpa [val] using h2
 | [_, _], _ => simpa [val] using h2
set_option maxHeartbeats 1600000 in
theorem compare_some (b1 o1 b2 o2 : Nat) (n c1 c2 : Nat) (xs ys : List Nat) (w : World) (hn : n ≤ maxLen) (hx : xs.length = n) (hy : ys.length = n) (ox : Ok xs) (oy : Ok ys)
   (h1 : Cells w b1 o1 xs) (h2 : Cells w b2 o2 ys) :
    Calls Tryz.prog 134 #[.slice (some ⟨b1, o1, none⟩) n c1, .slice (some ⟨b2, o2, none⟩) n c2] w fun e w' => e = .returned (.int .i64 (cmpN (val xs) (val ys))) ∧ ∃ k, w' = w.drewN k := by
  unfold maxLen at hn
  go_enter Tryz.func134, Tryz.ntmps134
  go_wp2
  go_loopw [5] (fun i wr => ∃ k : Nat, k ≤ n ∧ i = .int .i64 ((k : Int) - 1) ∧ (∀ j, k ≤ j → xs.getD j 0 = ys.getD j 0) ∧ ∃ d, wr = w.drewN d) (fun i _ => (intOf i + 1).toNat)
  case atStart => exact ⟨n, Nat.le_refl _, rfl, fun j hj => by rw [getD_ge (by omega), getD_ge (by omega)], 0, rfl⟩
  case round =>
    obtain ⟨k, hk, rfl, ht, d, rfl⟩ := hrel
    by_cases hlt : 0 < k
    · have hlt' : (0:Int) ≤ (k:Int) - 1 := by omega
      have hlt2 : (k:Int) - 1 < (n:Int) := by omega
      have hk1 : ((k:Int) - 1).toNat = k - 1 := by omega
      have g1 := h1 (k - 1) (by omega)
      have g2 := h2 (k - 1) (by omega)
      by_cases he : xs.getD (k - 1) 0 = ys.getD (k - 1) 0
      · have HT : ∀ j, k - 1 ≤ j → xs.getD j 0 = ys.getD j 0 := fun j hj => by
          by_cases e : j = k - 1
          · rw [e]; exact he
          · exact ht j (by omega)
        have HT' := hide HT
        have hb : (((xs.getD (k - 1) 0 : Nat) : Int) != ((ys.getD (k - 1) 0 : Nat) : Int)) = false := by rw [he]; simp
        generalize ((xs.getD (k - 1) 0 : Nat) : Int) = u at g1 hb
        generalize ((ys.getD (k - 1) 0 : Nat) : Int) = v at g2 hb
        clear he h1 h2 HT ht
        go_wp2_with fail
        go_quiet (fail)
        go_wp2
        exact ⟨⟨k - 1, by omega, by congr 1; omega, unhide HT', _, rfl⟩, by simp [intOf]; omega⟩
      · have hb : (((xs.getD (k - 1) 0 : Nat) : Int) != ((ys.getD (k - 1) 0 : Nat) : Int)) = true := by rw [bne_iff_ne]; omega
        have hr : ((xs.getD (k - 1) 0 : Nat) : Int) < ((ys.getD (k - 1) 0 : Nat) : Int) ∧ cmpN (val xs) (val ys) = -1 ∨ ¬ ((xs.getD (k - 1) 0 : Nat) : Int) < ((ys.getD (k - 1) 0 : Nat) : Int) ∧ cmpN (val xs) (val ys) = 1 := by
          by_cases hh : xs.getD (k - 1) 0 < ys.getD (k - 1) 0
          · exact .inl ⟨by omega, cmpN_lt (val_lt_of (i := k - 1) (hx.trans hy.symm) ox oy (by omega) (fun j hj => ht j (by omega)) hh)⟩
          · exact .inr ⟨by omega, cmpN_gt (val_lt_of (i := k - 1) (hy.trans hx.symm) oy ox (by omega) (fun j hj => (ht j (by omega)).symm) (by omega))⟩
        generalize ((xs.getD (k - 1) 0 : Nat) : Int) = u at g1 hb hr
        generalize ((ys.getD (k - 1) 0 : Nat) : Int) = v at g2 hb hr
        clear he h1 h2 ht
        rcases hr with ⟨hr, hc⟩ | ⟨hr, hc⟩
        · have HC := hide hc
          clear hc
          go_wp2_with fail
          go_quiet (fail)
          go_wp2_with fail
          go_quiet (fail)
          go_wp2
          go_ret
          exact ⟨by rw [unhide HC]; rfl, _, drewN_add3 _ _ _ _⟩
        · have HC := hide hc
          clear hc
          go_wp2_with fail
          go_quiet (fail)
          go_wp2_with fail
          go_quiet (fail)
          go_wp2
          go_ret
          exact ⟨by rw [unhide HC]; rfl, _, drewN_add3 _ _ _ _⟩
    · have hk0 : ¬ (0:Int) ≤ (k:Int) - 1 := by omega
      have : xs = ys := ext_getD (hx.trans hy.symm) (fun i _ => ht i (by omega))
      have HE := hide this
      clear this h1 h2 ht
      go_wp2
      go_ret
      exact ⟨by rw [cmpN_eq (by rw [unhide HE])]; rfl, _, rfl⟩

set_option maxHeartbeats 400000 in
theorem compare_len (a1 a2 : Option Addr) (n1 n2 c1 c2 : Nat) (w : World) (hn : ((n1:Int) != (n2:Int)) = true) :
  Calls Tryz.prog 134 #[.slice a1 n1 c1, .slice a2 n2 c2] w fun e w' => e = .returned (.int .i64 (if (n1:Int) < (n2:Int) then -1 else 1)) ∧ w' = w := by
 by_cases h : (n1:Int) < (n2:Int)
 ·go_enter Tryz.func134, Tryz.ntmps134
  go_wp2
  go_ret
  exact ⟨rfl, rfl⟩
 ·go_enter Tryz.func134, Tryz.ntmps134
  go_wp2
  go_ret
  exact ⟨rfl, rfl⟩

set_option maxHeartbeats 400000 in
theorem compare_nil (a1 a2 : Option Addr) (c1 c2 : Nat) (w : World) :
  Calls Tryz.prog 134 #[.slice a1 0 c1, .slice a2 0 c2] w fun e w' => e = .returned (.int .i64 0) ∧ w' = w := by
 go_enter Tryz.func134, Tryz.ntmps134
 go_wp2
 go_loop [5] (fun i => i = .int .i64 (-1)) (fun i => (intOf i).toNat)
 case atStart => rfl
 case round =>
  subst hrel
  go_wp2
  go_ret
  exact ⟨rfl, rfl⟩

theorem cmp_len {xs ys : List Nat} (ox : Ok xs) (oy : Ok ys) (nx : Norm xs) (ny : Norm ys) (h : xs.length ≠ ys.length) :
  (if (xs.length:Int) < (ys.length:Int) then -1 else 1 : Int) = cmpN (val xs) (val ys) := by
 by_cases hl : xs.length < ys.length
 ·rw [if_pos (by omega), cmpN_lt (len_lt_val ox ny hl)]
 ·rw [if_neg (by omega), cmpN_gt (len_lt_val oy nx (by omega))]

theorem compare_any (a1 a2 : Option Addr) (n1 c1 n2 c2 : Nat) (xs ys : List Nat) (w : World) (h1 : Sl w a1 n1 c1 xs) (h2 : Sl w a2 n2 c2 ys) (ox : Ok xs) (oy : Ok ys) (nx : Norm xs) (ny : Norm ys) :
  Calls Tryz.prog 134 #[.slice a1 n1 c1, .slice a2 n2 c2] w fun e w' => e = .returned (.int .i64 (cmpN (val xs) (val ys))) ∧ ∃ k, w' = w.drewN k := by
 have l1 := h1.len
 have l2 := h2.len
 by_cases e : n1 = n2
 ·subst e
  by_cases z : n1 = 0
  ·subst z
   have e1 : xs = [] := List.eq_nil_of_length_eq_zero l1
   have e2 : ys = [] := List.eq_nil_of_length_eq_zero l2
   subst e1 e2
   refine (compare_nil a1 a2 c1 c2 w).mono ?_
   rintro e w' ⟨rfl, rfl⟩
   exact ⟨rfl, 0, rfl⟩
  ·rcases h1.cells with e1 | ⟨b1, o1, rfl, k1⟩
   ·subst e1; simp at l1; omega
   ·rcases h2.cells with e2 | ⟨b2, o2, rfl, k2⟩
    ·subst e2; simp at l2; omega
    ·exact compare_some b1 o1 b2 o2 n1 c1 c2 xs ys w (Nat.le_trans h1.le h1.cap) l1 l2 ox oy k1 k2
 ·refine (compare_len a1 a2 n1 n2 c1 c2 w (by rw [bne_iff_ne]; omega)).mono ?_
  rintro e w' ⟨rfl, rfl⟩
  rw [← l1, ← l2, cmp_len ox oy nx ny (by omega)]
  exact ⟨rfl, 0, rfl⟩
def NewRep (w w' : World) (v : Nat) (e : Ending) : Prop :=
 ∃ a' m ys, e = .returned (.slice a' m m) ∧ Sl w' a' m m ys ∧ Rep v ys ∧ NewAt w.heap.size a' ∧ Below w.heap.size w w'

theorem make_len1 (n : Nat) (hn : n ≤ 70368744177000) (w : World) : (Instr.makeSlice 68 (.int .i64 ((n : Int) + 1)) (.int .i64 ((n : Int) + 1))).run Tryz.prog w = .ok (.slice (some ⟨w.heap.size, 0, none⟩) (n + 1) (n + 1)) (w.alloc (.cells (madeCells #[.int .u32 0] (n + 1)) 115)) := by
 have := make_len (n + 1) (by omega) w
 rw [show ((n + 1 : Nat) : Int) = (n : Int) + 1 from by omega] at this
 exact this

theorem pow_mono {a b : Nat} (h : a ≤ b) : 4294967296 ^ a ≤ 4294967296 ^ b := Nat.pow_le_pow_right (by decide) h

def Res2 (w w' : World) (r : List Nat × Int) (e : Ending) : Prop :=
 ∃ a m c, e = .returned (.tuple #[.slice a m c, .int .i64 r.2]) ∧ Sl w' a m c r.1 ∧ NewAt w.heap.size a ∧ Below w.heap.size w w'

theorem sl_nil (w : World) : Sl w none 0 0 [] := ⟨rfl, Nat.le_refl _, Nat.zero_le _, .inl rfl⟩
theorem newAt_nil (B : Nat) : NewAt B none := fun x hx => by cases hx
end Go.Proofs.YtbbicappjicblaaGreatDoor

namespace Go.Proofs.YtbbicappjicblaaGreatDoor
open Go.RowKit Go.Deep
set_option linter.unusedVariables false

end Go.Proofs.YtbbicappjicblaaGreatDoor
namespace Go.Proofs.YtbbicappjicblaaGreatDoor
open Go.RowKit Go.Deep
set_option linter.unusedVariables false
theorem valF_ge (xs : List Nat) (n : Nat) (h : xs.length ≤ n) : valF (fun i => xs.getD i 0) n = val xs := by
 rw [← valF_pad xs n h]
 apply valF_congr
 intro i hi
 by_cases e : i < xs.length
 ·simp [e]
 ·rw [if_neg e]; exact getD_ge (by omega)

theorem one_int {k : IntKind} {x : Int} : ∀ u ∈ [Value.int k x], u.oneCell' = true := by
 intro u hu; simp at hu; subst hu; rfl

structure PlusR (wr w : World) (s t : Nat) (v : Value) (k c : Nat) (zs : List Nat) : Prop where
 len : zs.length = k
 ok : Ok zs
 cle : c ≤ 1
 own : wr.ownsRow w.heap.size 115 1 v k (vals zs)
 val : val zs + 4294967296 ^ k * c = s + t
 bel : Below w.heap.size w wr

theorem PlusR.step {wr w w1 : World} {s t : Nat} {v v' : Value} {k c : Nat} {zs : List Nat} {o : Obj} (h : PlusR wr w s t v k c zs) (x y : Nat) (hx : x < 4294967296) (hy : y < 4294967296)
  (hown : w1.ownsRow w.heap.size 115 1 v' (k + 1) (vals zs ++ [.int .u32 (adl x y c : Nat)])) (hg : (wr.alloc o).grownBy w1 v.ownBlock) :
  PlusR w1 w (s + 4294967296 ^ k * x) (t + 4294967296 ^ k * y) v' (k + 1) (adc x y c) (zs ++ [adl x y c]) := by
 have hs := h.bel.size
 refine ⟨by simp [h.len], ?_, adc_le x y c hx hy h.cle, by simpa [vals] using hown, ?_, ?_⟩
 ·intro z hz
  rcases List.mem_append.1 hz with hz | hz
  ·exact h.ok z hz
  ·simp at hz; subst hz; exact adl_lt _ _ _
 ·rw [val_append, h.len]
  simp only [Go.Proofs.YtbbicappjicblaaGreatDoor.val, Nat.mul_zero, Nat.add_zero]
  have e := ad_eq x y c
  rw [Nat.pow_succ]
  have : 4294967296 ^ k * adl x y c + 4294967296 ^ k * 4294967296 * adc x y c = 4294967296 ^ k * x + 4294967296 ^ k * y + 4294967296 ^ k * c := by
   rw [Nat.mul_assoc, ← Nat.mul_add, e, Nat.mul_add, Nat.mul_add]
  have := h.val
  omega
 ·exact Below.grown (h.bel.alloc (by omega) o) hg (by simp; omega) (fun k hk => (own_ge h.own k hk).1)

theorem own_sl {w : World} {base k : Nat} {v : Value} {zs : List Nat} (h : w.ownsRow base 115 1 v k (vals zs)) : ∃ a c, v = .slice a k c ∧ Sl w a k c zs ∧ NewAt base a := by
 have hl : zs.length = k := by simpa [vals] using h.1
 rcases h.2 with ⟨e, h0⟩ | ⟨g, cap, cur, e, hb, h5, h6, h7, h8, h9⟩
 ·subst e h0
  have : zs = [] := List.eq_nil_of_length_eq_zero hl
  subst this
  exact ⟨none, 0, rfl, ⟨rfl, Nat.le_refl _, Nat.zero_le _, .inl rfl⟩, fun x hx => by cases hx⟩
 ·subst e
  exact ⟨_, _, rfl, sl_of_own h, fun x hx => by cases hx; exact hb⟩

theorem minus_arith {P A t s c l y x b : Nat} (h1 : A + t = s + P * c) (e : l + y + c = x + 4294967296 * b) : A + P * l + (t + P * y) = s + P * x + P * 4294967296 * b := by
 have h2 : P * l + P * y + P * c = P * x + P * 4294967296 * b := by
  rw [← Nat.mul_add, ← Nat.mul_add, e, Nat.mul_add, Nat.mul_assoc]
 generalize P * l = a1 at *
 generalize P * y = a2 at *
 generalize P * c = a3 at *
 generalize P * x = a4 at *
 generalize P * 4294967296 * b = a5 at *
 omega

structure MinusR (wr w : World) (s t : Nat) (v : Value) (k c : Nat) (zs : List Nat) : Prop where
 len : zs.length = k
 ok : Ok zs
 cle : c ≤ 1
 own : wr.ownsRow w.heap.size 115 1 v k (vals zs)
 val : val zs + t = s + 4294967296 ^ k * c
 bel : Below w.heap.size w wr

theorem MinusR.step {wr w w1 : World} {s t : Nat} {v v' : Value} {k c : Nat} {zs : List Nat} {o : Obj} (h : MinusR wr w s t v k c zs) (x y : Nat) (hx : x < 4294967296) (hy : y < 4294967296)
  (hown : w1.ownsRow w.heap.size 115 1 v' (k + 1) (vals zs ++ [.int .u32 (lim x y c : Nat)])) (hg : (wr.alloc o).grownBy w1 v.ownBlock) :
  MinusR w1 w (s + 4294967296 ^ k * x) (t + 4294967296 ^ k * y) v' (k + 1) (bor x (y + c)) (zs ++ [lim x y c]) := by
 have hs := h.bel.size
 refine ⟨by simp [h.len], ?_, bor_le _ _, by simpa [vals] using hown, ?_, ?_⟩
 ·intro z hz
  rcases List.mem_append.1 hz with hz | hz
  ·exact h.ok z hz
  ·simp at hz; subst hz; exact lim_lt _ _ _
 ·rw [val_append, h.len]
  simp only [Go.Proofs.YtbbicappjicblaaGreatDoor.val, Nat.mul_zero, Nat.add_zero]
  rw [Nat.pow_succ]
  exact minus_arith h.val (lim_eq x y c hx hy h.cle)
 ·exact Below.grown (h.bel.alloc (by omega) o) hg (by simp; omega) (fun k hk => (own_ge h.own k hk).1)
structure Pc where
 a : Option Addr
 n : Nat
 c : Nat
 xs : List Nat

def Pc.v (p : Pc) : Value := .slice p.a p.n p.c

structure Kp (w : World) (B : Nat) (v0 v1 : Value) (p : Pc) : Prop where
 sl : Sl w p.a p.n p.c p.xs
 safe : ∀ x, p.a = some x → p.xs ≠ [] → ¬ Own B v0 v1 x.block

structure LawSt (w : World) (B : Nat) (v0 v1 : Value) (es : List Ent) (w0 : World) (L : List Pc) : Prop where
 giv : Giv w B v0 v1 es
 bel : Below w0.heap.size w0 w
 base : w0.heap.size ≤ B
 all : ∀ p ∈ L, Kp w B v0 v1 p

theorem Giv.own_lt {w : World} {B : Nat} {v0 v1 : Value} {es : List Ent} (h : Giv w B v0 v1 es) {k : Nat} (hk : Own B v0 v1 k) : k < w.heap.size := by
 rcases hk with rfl | hk | hk
 ·exact h.cell0.2.2.2.2
 ·exact (own_ge h.own0 k hk).2
 ·exact (own_ge h.own1 k hk).2

theorem Giv.own_ge {w : World} {B : Nat} {v0 v1 : Value} {es : List Ent} (h : Giv w B v0 v1 es) {k : Nat} (hk : Own B v0 v1 k) : B ≤ k := by
 rcases hk with rfl | hk | hk
 ·exact Nat.le_refl _
 ·have := (Go.Proofs.YtbbicappjicblaaGreatDoor.own_ge h.own0 k hk).1; omega
 ·have := (Go.Proofs.YtbbicappjicblaaGreatDoor.own_ge h.own1 k hk).1; omega

theorem Kp.below {w w' : World} {B : Nat} {v0 v1 : Value} {p : Pc} (h : Kp w B v0 v1 p) (k : Below w.heap.size w w') : Kp w' B v0 v1 p := ⟨h.sl.below k, h.safe⟩

theorem LawSt.res {w w' : World} {B : Nat} {v0 v1 : Value} {es : List Ent} {w0 : World} {L : List Pc} (h : LawSt w B v0 v1 es w0 L) (k : Below w.heap.size w w') {a : Option Addr} {m c : Nat} {ys : List Nat} (hs : Sl w' a m c ys) (hn : NewAt w.heap.size a) :
  LawSt w' B v0 v1 es w0 (⟨a, m, c, ys⟩ :: L) := by
 refine ⟨h.giv.below k, h.bel.trans (k.mono h.bel.size), h.base, ?_⟩
 intro p hp
 rcases List.mem_cons.1 hp with rfl | hp
 ·refine ⟨hs, ?_⟩
  intro x hx _ ho
  have := h.giv.own_lt ho
  have := hn x hx
  omega
 ·exact (h.all p hp).below k

theorem LawSt.keep {w w' : World} {B : Nat} {v0 v1 : Value} {es : List Ent} {w0 : World} {L : List Pc} (h : LawSt w B v0 v1 es w0 L) (k : Below w.heap.size w w') : LawSt w' B v0 v1 es w0 L :=
 ⟨h.giv.below k, h.bel.trans (k.mono h.bel.size), h.base, fun p hp => (h.all p hp).below k⟩

theorem LawSt.drewN {w : World} {B : Nat} {v0 v1 : Value} {es : List Ent} {w0 : World} {L : List Pc} (h : LawSt w B v0 v1 es w0 L) (k : Nat) : LawSt (w.drewN k) B v0 v1 es w0 L :=
 h.keep (bel_drewN (Below.refl _ _) k)

theorem Sl.pre {w : World} {b c n : Nat} {xs ys : List Nat} (h : Sl w (some ⟨b, 0, none⟩) (xs.length + 3) c (xs ++ ys)) (hn : xs.length = n) (hl : ys.length = 3) : Sl w (some ⟨b, 0, none⟩) n c xs := by
 have h1 := h.le
 refine ⟨hn, by omega, h.cap, ?_⟩
 rcases h.cells with e | ⟨b', off', e, k⟩
 ·left
  cases xs with
  | nil => rfl
  | cons => simp at e
 ·right
  refine ⟨b', off', e, ?_⟩
  intro i hi
  have := k i (by simp; omega)
  rw [this]
  simp [List.getD, List.getElem?_append_left hi]

theorem LawSt.sl {w : World} {B : Nat} {v0 v1 : Value} {es : List Ent} {w0 : World} {L : List Pc} (h : LawSt w B v0 v1 es w0 L) (p : Pc) (hp : p ∈ L) : Sl w p.a p.n p.c p.xs := (h.all p hp).sl

theorem LawSt.begin {w : World} {L : List Pc} (o : Obj) (ho : o = .cells #[.slice none 0 0, .slice none 0 0, .slice none 0 0, .slice none 0 0, .slice none 0 0, .slice none 0 0, .slice none 0 0, .slice none 0 0, .slice none 0 0, .slice none 0 0, .slice none 0 0, .slice none 0 0, .slice none 0 0, .slice none 0 0, .slice none 0 0, .slice none 0 0, .slice none 0 0, .slice none 0 0, .slice none 0 0, .slice none 0 0] 37)
  (h : ∀ p ∈ L, Sl w p.a p.n p.c p.xs) : LawSt (w.alloc o) w.heap.size (.slice none 0 0) (.slice none 0 0) [] w L := by
 have bel : Below w.heap.size w (w.alloc o) := (Below.refl _ _).alloc (Nat.le_refl _) o
 subst ho
 refine ⟨⟨⟨_, alloc_block _ _, rfl, rfl, rfl, ?_⟩, World.ownsRow_nil _ _ _ _, World.ownsRow_nil _ _ _ _, (fun k hk => by cases hk), (fun e he => by cases he)⟩, bel, Nat.le_refl _, ?_⟩
 ·intro i h2 h20
  match i, h20 with
  | 0, _ | 1, _ | 2, _ | 3, _ | 4, _ | 5, _ | 6, _ | 7, _ | 8, _ | 9, _ | 10, _ | 11, _ | 12, _ | 13, _ | 14, _ | 15, _ | 16, _ | 17, _ | 18, _ | 19, _ => rfl
  | n + 20, h => exact absurd h (by omega)
 ·intro p hp
  have := h p hp
  refine ⟨this.below bel, ?_⟩
  rintro x hx hne (h | h | h)
  ·have := this.block_lt hne x hx; omega
  ·cases h
  ·cases h

theorem LawSt.intact {w : World} {B : Nat} {v0 v1 : Value} {es : List Ent} {w0 : World} {L : List Pc} (h : LawSt w B v0 v1 es w0 L) :
  Calls Tryz.prog 12 #[.pointer (some ⟨B, 0, none⟩)] w fun e w' => e = .returned (.bool true) ∧ LawSt w' B v0 v1 es w0 L := by
 refine (intact_any w B v0 v1 es h.giv).mono ?_
 rintro e w' ⟨rfl, k, rfl⟩
 exact ⟨rfl, h.drewN k⟩
theorem valF_add (f : Nat → Nat) (i : Nat) : ∀ (m : Nat), valF f (i + m) = valF f i + 4294967296 ^ i * valF (fun k => f (i + k)) m
 | 0 => by simp [valF]
 | m + 1 => by
  rw [← Nat.add_assoc]
  simp only [valF]
  rw [valF_add f i m, Nat.pow_add, Nat.mul_add, Nat.mul_assoc]
  omega

def mdl (x y r c : Nat) : Nat := (x * y + r + c) % 4294967296
def mdh (x y r c : Nat) : Nat := (x * y + r + c) / 4294967296
theorem mdl_lt (x y r c : Nat) : mdl x y r c < 4294967296 := by unfold mdl; exact Nat.mod_lt _ (by decide)
theorem md_eq (x y r c : Nat) : mdl x y r c + 4294967296 * mdh x y r c = x * y + r + c := by unfold mdl mdh; exact Nat.mod_add_div _ _
theorem mul_bound {x y : Nat} (hx : x < 4294967296) (hy : y < 4294967296) : x * y ≤ 18446744065119617025 := by
 have : x * y ≤ 4294967295 * 4294967295 := Nat.mul_le_mul (by omega) (by omega)
 omega
theorem mdh_lt {x y r c : Nat} (hx : x < 4294967296) (hy : y < 4294967296) (hr : r < 4294967296) (hc : c < 4294967296) : mdh x y r c < 4294967296 := by
 have := mul_bound hx hy
 unfold mdh
 generalize x * y = p at *
 omega
structure RowR (wr w : World) (bz oz nz : Nat) (f : Nat → Nat) (i y : Nat) (xs : List Nat) (j c : Nat) (g : Nat → Nat) : Prop where
 cle : c < 4294967296
 fn : Fn wr bz oz nz g
 ok : ∀ k, k < nz → g k < 4294967296
 lo : ∀ k, k < i → g k = f k
 hi : ∀ k, i + j ≤ k → k < nz → g k = f k
 val : valF (fun k => g (i + k)) j + 4294967296 ^ j * c = valF (fun k => f (i + k)) j + valF (fun k => xs.getD k 0) j * y
 upd : Upd bz oz (oz + nz) w wr

theorem row_arith {P A F X c l h x y r : Nat} (h1 : A + P * c = F + X * y) (e : l + 4294967296 * h = x * y + r + c) : A + P * l + P * 4294967296 * h = F + P * r + (X + P * x) * y := by
 have h2 : P * l + P * 4294967296 * h = P * (x * y) + P * r + P * c := by
  rw [Nat.mul_assoc, ← Nat.mul_add, e, Nat.mul_add, Nat.mul_add]
 rw [Nat.add_mul, Nat.mul_assoc P x y]
 generalize P * l = a1 at *
 generalize P * 4294967296 * h = a2 at *
 generalize P * (x * y) = a3 at *
 generalize P * r = a4 at *
 generalize P * c = a5 at *
 generalize X * y = a6 at *
 omega

theorem RowR.step {wr w : World} {bz oz nz : Nat} {f : Nat → Nat} {i y : Nat} {xs : List Nat} {j c : Nat} {g : Nat → Nat} (h : RowR wr w bz oz nz f i y xs j c g) (hj : i + j < nz) (hx : xs.getD j 0 < 4294967296) (hy : y < 4294967296) :
  RowR (wr.setCell ⟨bz, oz + i + j, none⟩ (.int .u32 (mdl (xs.getD j 0) y (g (i + j)) c : Nat))) w bz oz nz f i y xs (j + 1) (mdh (xs.getD j 0) y (g (i + j)) c) (fun k => if k = i + j then mdl (xs.getD j 0) y (g (i + j)) c else g k) := by
 have ew : oz + i + j = oz + (i + j) := by omega
 rw [ew]
 refine ⟨mdh_lt hx hy (h.ok _ hj) h.cle, h.fn.set (i + j) _ hj, ?_, ?_, ?_, ?_, h.upd.set _ _ (by omega) (by omega)⟩
 ·intro k hk
  by_cases e : k = i + j
  ·simp only [e, if_true]; exact mdl_lt _ _ _ _
  ·simp only [e, if_false]; exact h.ok k hk
 ·intro k hk
  have : k ≠ i + j := by omega
  simp only [this, if_false]; exact h.lo k hk
 ·intro k h1 h2
  have : k ≠ i + j := by omega
  simp only [this, if_false]; exact h.hi k (by omega) h2
 ·simp only [valF]
  rw [valF_congr (g := fun k => g (i + k)) (fun k hk => by rw [if_neg (by omega)]), if_pos trivial, Nat.pow_succ]
  have e := md_eq (xs.getD j 0) y (g (i + j)) c
  have := row_arith h.val e
  rw [h.hi (i + j) (Nat.le_refl _) hj] at this ⊢
  exact this

theorem RowR.drewN {wr w : World} {bz oz nz : Nat} {f : Nat → Nat} {i y : Nat} {xs : List Nat} {j c : Nat} {g : Nat → Nat} (h : RowR wr w bz oz nz f i y xs j c g) (k : Nat) : RowR (wr.drewN k) w bz oz nz f i y xs j c g := ⟨h.cle, h.fn, h.ok, h.lo, h.hi, h.val, h.upd.drewN k⟩

structure RowsR (wr w : World) (bz oz nz : Nat) (xs ys : List Nat) (i : Nat) (f : Nat → Nat) : Prop where
 fn : Fn wr bz oz nz f
 ok : ∀ k, k < nz → f k < 4294967296
 zero : ∀ k, i + xs.length ≤ k → k < nz → f k = 0
 val : valF f (i + xs.length) = Go.Proofs.YtbbicappjicblaaGreatDoor.val xs * valF (fun k => ys.getD k 0) i
 upd : Upd bz oz (oz + nz) w wr

theorem RowsR.step {wr w w1 : World} {bz oz nz : Nat} {xs ys : List Nat} {i c : Nat} {f g : Nat → Nat} (h : RowsR wr w bz oz nz xs ys i f) (hr : RowR w1 w bz oz nz f i (ys.getD i 0) xs xs.length c g) (hi : i + xs.length < nz) :
  RowsR (w1.setCell ⟨bz, oz + i + xs.length, none⟩ (.int .u32 (c : Nat))) w bz oz nz xs ys (i + 1) (fun k => if k = i + xs.length then c else g k) := by
 have ew : oz + i + xs.length = oz + (i + xs.length) := by omega
 rw [ew]
 refine ⟨hr.fn.set _ _ hi, ?_, ?_, ?_, hr.upd.set _ _ (by omega) (by omega)⟩
 ·intro k hk
  by_cases e : k = i + xs.length
  ·simp only [e, if_true]; exact hr.cle
  ·simp only [e, if_false]; exact hr.ok k hk
 ·intro k h1 h2
  have : k ≠ i + xs.length := by omega
  simp only [this, if_false]
  rw [hr.hi k (by omega) h2]; exact h.zero k (by omega) h2
 ·have e1 : i + 1 + xs.length = i + (xs.length + 1) := by omega
  rw [e1, valF_add]
  simp only [valF]
  rw [if_pos trivial]
  rw [valF_congr (f := fun k => if k = i + xs.length then c else g k) (g := f) (fun k hk => by rw [if_neg (by omega)]; exact hr.lo k hk)]
  rw [valF_congr (f := fun k => if i + k = i + xs.length then c else g (i + k)) (g := fun k => g (i + k)) (fun k hk => by rw [if_neg (by omega)])]
  rw [hr.val, valF_list]
  have hv := h.val
  rw [valF_add] at hv
  rw [Nat.mul_add, Nat.mul_add, ← Nat.add_assoc, hv]
  have : 4294967296 ^ i * (Go.Proofs.YtbbicappjicblaaGreatDoor.val xs * ys.getD i 0) = Go.Proofs.YtbbicappjicblaaGreatDoor.val xs * (4294967296 ^ i * ys.getD i 0) := by rw [Nat.mul_left_comm]
  rw [this]

theorem RowsR.drewN {wr w : World} {bz oz nz : Nat} {xs ys : List Nat} {i : Nat} {f : Nat → Nat} (h : RowsR wr w bz oz nz xs ys i f) (k : Nat) : RowsR (wr.drewN k) w bz oz nz xs ys i f := ⟨h.fn, h.ok, h.zero, h.val, h.upd.drewN k⟩

theorem RowsR.begin {wr w : World} {bz oz nz : Nat} {xs ys : List Nat} {i : Nat} {f : Nat → Nat} (h : RowsR wr w bz oz nz xs ys i f) (y : Nat) : RowR wr w bz oz nz f i y xs 0 0 f :=
 ⟨by decide, h.fn, h.ok, fun _ _ => rfl, fun _ _ _ => rfl, by simp [valF], h.upd⟩
theorem tab_size : Lib.len8tab.size = 256 := by decide +kernel
theorem tab_all : ∀ n : Fin 256, (Lib.len8tab[n.val]'(by rw [tab_size]; exact n.isLt)).toNat = Lib.bitLen n.val := by decide +kernel
theorem tab_at (n : Nat) (h : n < Lib.len8tab.size) : (Lib.len8tab[n]'h).toNat = Lib.bitLen n := tab_all ⟨n, by rw [tab_size] at h; exact h⟩
theorem bl8 (n : Nat) (h : n < 256) : Lib.bitLen n ≤ 8 := Lib.bitLen_le8 ⟨n, h⟩
theorem wr_small (n : Int) (h0 : 0 ≤ n) (h1 : n ≤ 100) : wrap64 n = n := by unfold wrap64; omega

set_option maxHeartbeats 4000000 in
set_option maxRecDepth 100000 in
theorem len32_a (x : Int) (w : World) (h0 : 0 ≤ x) (h1 : x < 256) :
  Calls Tryz.prog 148 #[.int .u32 x] w fun e w' => e = .returned (.int .i64 (Lib.bitLen x.toNat)) ∧ w' = w := by
 have hs := tab_size
 have ha : ¬ (65536:Int) ≤ x := by omega
 have hb : ¬ (256:Int) ≤ x := by omega
 go_enter Tryz.func148, Tryz.ntmps148
 go_wp2
 go_ret
 refine ⟨congrArg Ending.returned (congrArg (Value.int IntKind.i64) ?_), rfl⟩
 rw [tab_at]
 have l := bl8 x.toNat (by omega)
 rw [wr_small ((Lib.bitLen x.toNat : Nat) : Int) (by omega) (by omega)]
 rw [wr_small ((Lib.bitLen x.toNat : Nat) : Int) (by omega) (by omega)]

set_option maxHeartbeats 4000000 in
set_option maxRecDepth 100000 in
theorem len32_b (x : Int) (w : World) (h0 : 256 ≤ x) (h1 : x < 65536) :
  Calls Tryz.prog 148 #[.int .u32 x] w fun e w' => e = .returned (.int .i64 (Lib.bitLen x.toNat)) ∧ w' = w := by
 have hs := tab_size
 have ha : ¬ (65536:Int) ≤ x := by omega
 have hb : (256:Int) ≤ x := by omega
 go_enter Tryz.func148, Tryz.ntmps148
 go_wp2
 go_ret
 refine ⟨congrArg Ending.returned (congrArg (Value.int IntKind.i64) ?_), rfl⟩
 have e : (x / 256).toNat = x.toNat / 256 := by omega
 have l := bl8 (x.toNat / 256) (by omega)
 have s := Lib.bitLen_shift8 x.toNat (by omega) (by omega)
 rw [tab_at, e]
 rw [wr_small ((Lib.bitLen (x.toNat / 256) : Nat) : Int) (by omega) (by omega)]
 rw [wr_small _ (by omega) (by omega)]
 omega

set_option maxHeartbeats 4000000 in
set_option maxRecDepth 100000 in
theorem len32_c (x : Int) (w : World) (h0 : 65536 ≤ x) (h1 : x < 16777216) :
  Calls Tryz.prog 148 #[.int .u32 x] w fun e w' => e = .returned (.int .i64 (Lib.bitLen x.toNat)) ∧ w' = w := by
 have hs := tab_size
 have ha : (65536:Int) ≤ x := by omega
 have hb : ¬ (256:Int) ≤ x / 65536 := by omega
 go_enter Tryz.func148, Tryz.ntmps148
 go_wp2
 go_ret
 refine ⟨congrArg Ending.returned (congrArg (Value.int IntKind.i64) ?_), rfl⟩
 have e : (x / 65536).toNat = x.toNat / 65536 := by omega
 have l := bl8 (x.toNat / 65536) (by omega)
 have s := Lib.bitLen_shift16 x.toNat (by omega) (by omega)
 rw [tab_at, e]
 rw [wr_small ((Lib.bitLen (x.toNat / 65536) : Nat) : Int) (by omega) (by omega)]
 rw [wr_small _ (by omega) (by omega)]
 omega

set_option maxHeartbeats 4000000 in
set_option maxRecDepth 100000 in
theorem len32_d (x : Int) (w : World) (h0 : 16777216 ≤ x) (h1 : x ≤ 4294967295) :
  Calls Tryz.prog 148 #[.int .u32 x] w fun e w' => e = .returned (.int .i64 (Lib.bitLen x.toNat)) ∧ w' = w := by
 have hs := tab_size
 have ha : (65536:Int) ≤ x := by omega
 have hb : (256:Int) ≤ x / 65536 := by omega
 go_enter Tryz.func148, Tryz.ntmps148
 go_wp2
 go_ret
 refine ⟨congrArg Ending.returned (congrArg (Value.int IntKind.i64) ?_), rfl⟩
 have e : (x / 65536 / 256).toNat = x.toNat / 16777216 := by omega
 have l := bl8 (x.toNat / 16777216) (by omega)
 have s := Lib.bitLen_shift24 x.toNat (by omega) (by omega)
 rw [tab_at, e]
 rw [wr_small ((Lib.bitLen (x.toNat / 16777216) : Nat) : Int) (by omega) (by omega)]
 rw [wr_small _ (by omega) (by omega)]
 omega

theorem len32_any (x : Nat) (w : World) (h1 : x < 4294967296) :
  Calls Tryz.prog 148 #[.int .u32 (x : Nat)] w fun e w' => e = .returned (.int .i64 (Lib.bitLen x : Nat)) ∧ w' = w := by
 by_cases ha : x < 256
 ·exact len32_a x w (by omega) (by omega)
 ·by_cases hb : x < 65536
  ·exact len32_b x w (by omega) (by omega)
  ·by_cases hc : x < 16777216
   ·exact len32_c x w (by omega) (by omega)
   ·exact len32_d x w (by omega) (by omega)
structure MulPre (w : World) (bz oz nz cz : Nat) (a1 : Option Addr) (n1 c1 : Nat) (xs : List Nat) (a2 : Option Addr) (n2 c2 : Nat) (ys : List Nat) : Prop where
 h1 : Sl w a1 n1 c1 xs
 h2 : Sl w a2 n2 c2 ys
 s1 : ∀ x, a1 = some x → xs ≠ [] → x.block ≠ bz ∨ x.off + xs.length ≤ oz ∨ oz + nz ≤ x.off
 s2 : ∀ x, a2 = some x → ys ≠ [] → x.block ≠ bz ∨ x.off + ys.length ≤ oz ∨ oz + nz ≤ x.off
 ox : Ok xs
 oy : Ok ys
 hz : Fn w bz oz nz (fun _ => 0)
 hnz : n1 + n2 = nz
 hcz : nz ≤ cz
 hm : cz ≤ maxLen

def bitsL (xs : List Nat) : Nat := (xs.length - 1) * 32 + Lib.bitLen (xs.getD (xs.length - 1) 0)
theorem bl_pos : ∀ (x : Nat), x ≠ 0 → x < 18446744073709551616 → 1 ≤ Lib.bitLen x := by
 intro x h0 hx
 rw [Lib.bitLen_half x h0 hx]
 omega

theorem bl_ge : ∀ (n x : Nat), x ≤ n → x ≠ 0 → x < 18446744073709551616 → 2 ^ (Lib.bitLen x - 1) ≤ x
 | 0, x, h, h0, _ => by omega
 | n + 1, x, h, h0, hx => by
  by_cases h1 : x / 2 = 0
  ·have e : x = 1 := by omega
   subst e
   decide +kernel
  ·have ih := bl_ge n (x / 2) (by omega) h1 (by omega)
   have hp := bl_pos (x / 2) h1 (by omega)
   rw [Lib.bitLen_half x h0 hx]
   have e : 1 + Lib.bitLen (x / 2) - 1 = (Lib.bitLen (x / 2) - 1) + 1 := by omega
   rw [e, Nat.pow_succ]
   omega

theorem pow_limb (k : Nat) : (4294967296 : Nat) ^ k = 2 ^ (32 * k) := by
 rw [Nat.pow_mul]
end Go.Proofs.YtbbicappjicblaaGreatDoor
