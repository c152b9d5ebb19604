/- Copy -/
import Derived.Test.YtiadccaaoenccaaDoorUpd
import Derived.Laws.IdiomCopy
import Derived.Test.YtiadccaaoenccaaDoorGiv
namespace Go.Proofs.YtiadccaaoenccaaDoor
open Go.RowKit Go.Deep
set_option linter.unusedVariables false
theorem Upd.setCells (b lo hi : Nat) : ∀ (vs : List Value) (o : Nat) (w : World), lo ≤ o → o + vs.length ≤ hi → Upd b lo hi w (w.setCells b o vs)
  | [], o, w, _, _ => Upd.refl _ _ _ _
  | v :: vs, o, w, h1, h2 => by
    simp only [List.length_cons] at h2
    exact ((Upd.refl b lo hi w).set o v h1 (by omega)).trans (Upd.setCells b lo hi vs (o + 1) _ (by omega) (by omega))

theorem vals_getElem {xs : List Nat} {i : Nat} (h : i < (vals xs).length) : (vals xs)[i] = .int .u32 (xs.getD i 0 : Nat) := by
  have h' : i < xs.length := by simpa [vals] using h
  have := vals_get h'
  rw [List.getElem?_eq_getElem h] at this
  simpa using this

theorem Fn.copied {w : World} {b off n : Nat} {f : Nat → Nat} (h : Fn w b off n f) (xs : List Nat) (hl : xs.length ≤ n) : Fn (w.setCells b off (vals xs)) b off n (fun i => if i < xs.length then xs.getD i 0 else f i) := by
  intro i hi
  refine ⟨?_, by rw [World.frozen?_setCells]; exact (h i hi).2⟩
  have hlen : (vals xs).length = xs.length := by simp [vals]
  by_cases e : i < xs.length
  · rw [World.cell?_setCells_in b (vals xs) off w (fun j hj => by rw [(h j (by omega)).1]; rfl) i (by omega), vals_getElem]
    simp [e]
  · rw [World.cell?_setCells_out b (vals xs) off w _ (fun _ _ => by simp; omega)]
    simp [e, (h i hi).1]

theorem Tryd.size_u32 : (Tryd.prog.info? 74).map (·.size) = some 1 := by kernel_rfl

theorem vals_one {xs : List Nat} : ∀ v ∈ vals xs, v.oneCell' = true := by
  intro v hv
  simp [vals] at hv
  obtain ⟨x, _, rfl⟩ := hv
  rfl

theorem wpList_copy_row {w : World} {ops : Array Oper} {rest : List Oper} {o : Oper} {a : Act} {Q : Exit → Act → World → Prop} (hgd : o.guard = none) (d s : Operand)
    (ho : o.op = .call { callee := .builtin .copy, args := #[d, s], argTypes := #[49, 49] })
    (b off dLen dCap : Nat) (sp : Option Addr) (sLen sCap : Nat) (hd : a.eval d = .slice (some ⟨b, off, none⟩) dLen dCap) (hs : a.eval s = .slice sp sLen sCap)
    (f : Nat → Nat) (hf : Fn w b off dLen f) (xs : List Nat) (hx : Sl w sp sLen sCap xs) (hle : sLen ≤ dLen)
    (h : wpList Tryd.prog ops Q rest (a.put o.dst (goInt xs.length)) (w.setCells b off (vals xs))) : wpList Tryd.prog ops Q (o :: rest) a w := by
  refine wpList_plain hgd fun K hK => ?_
  have hlen : (vals xs).length = xs.length := by simp [vals]
  rcases hx.cells with h0 | ⟨b', off', rfl, hc⟩
  · subst h0
    have hl := hx.len
    simp at hl
    subst hl
    have hrun := run_copy_none (P := Tryd.prog) w 49 49 o.type 74 (some ⟨b, off, none⟩) sp dLen dCap 0 sCap Tryd.underlying49 Tryd.size_u32 (by simp)
    unfold Oper.wp
    simp [execOp, ho, resolve, invoke, builtin, hd, hs, hrun, Result.andThen]
    exact hK _ _ h
  · have hrun := run_copy_cells (P := Tryd.prog) w 49 49 o.type 74 b off dLen dCap ⟨b', off', none⟩ sLen sCap (vals xs) Tryd.underlying49 Tryd.size_u32
      (by rw [hlen, hx.len]; exact (Nat.min_eq_left hle).symm)
      (fun j v hj => by
        have hj' : j < xs.length := by
          rcases Nat.lt_or_ge j xs.length with h | h
          · exact h
          · rw [List.getElem?_eq_none (by omega)] at hj; cases hj
        rw [vals_get hj'] at hj
        cases hj
        have := hc j hj'
        have e : (⟨b', off', none⟩ : Addr).add j = ⟨b', off' + j, none⟩ := by unfold Addr.add; split <;> simp_all
        rw [e]; exact this)
      (fun j hj => by rw [(hf j (by have := hx.len; omega)).1]; rfl) (fun j hj => (hf j (by have := hx.len; omega)).2) vals_one
    unfold Oper.wp
    simp [execOp, ho, resolve, invoke, builtin, hd, hs, hrun, Result.andThen]
    rw [hlen]
    exact hK _ _ h

theorem make_len (n : Nat) (hn : n ≤ 70368744177600) (w : World) : (Instr.makeSlice 49 (.int .i64 (n : Int)) (.int .i64 (n : Int))).run Tryd.prog w = .ok (.slice (some ⟨w.heap.size, 0, none⟩) n n) (w.alloc (.cells (madeCells #[.int .u32 0] n) 74)) :=
  run_make_row' (P := Tryd.prog) 49 74 (.int .u32 0) 4 Tryd.underlying49 Tryd.info_u32 rfl .i64 .i64 n (by omega) (by omega) w

theorem Fn.congr {w : World} {b off n : Nat} {f g : Nat → Nat} (h : Fn w b off n f) (he : ∀ i, i < n → f i = g i) : Fn w b off n g := by
  intro i hi
  rw [← he i hi]; exact h i hi

def lst (f : Nat → Nat) (n : Nat) : List Nat := (List.range n).map f
theorem lst_len (f : Nat → Nat) (n : Nat) : (lst f n).length = n := by simp [lst]
theorem lst_getD (f : Nat → Nat) (n i : Nat) (h : i < n) : (lst f n).getD i 0 = f i := by simp [lst, List.getD, h]
theorem lst_val (f : Nat → Nat) (n : Nat) : val (lst f n) = valF f n := by
  rw [← valF_list, lst_len]
  exact valF_congr (fun i hi => lst_getD f n i hi)
theorem lst_ok {f : Nat → Nat} {n : Nat} (h : ∀ i, i < n → f i < 4294967296) : Ok (lst f n) := by
  intro x hx
  simp [lst] at hx
  obtain ⟨i, hi, rfl⟩ := hx
  exact h i hi
theorem Fn.sl {w : World} {b off n c : Nat} {f : Nat → Nat} (h : Fn w b off n f) (hc : n ≤ c) (hm : c ≤ maxLen) : Sl w (some ⟨b, off, none⟩) n c (lst f n) := by
  refine ⟨lst_len f n, hc, hm, .inr ⟨_, _, rfl, ?_⟩⟩
  intro i hi
  rw [lst_len] at hi
  rw [lst_getD f n i hi]; exact (h i hi).1

theorem getD_lt {xs : List Nat} {f : Nat → Nat} (ok : Ok xs) : ∀ i, (if i < xs.length then xs.getD i 0 else 0) < 4294967296 := by
  intro i
  split
  · exact ok.getD i
  · decide

theorem valF_pad (xs : List Nat) (n : Nat) (h : xs.length ≤ n) : valF (fun i => if i < xs.length then xs.getD i 0 else 0) n = val xs := by
  have e0 : valF (fun i => if i < xs.length then xs.getD i 0 else 0) xs.length = valF (fun i => xs.getD i 0) xs.length := valF_congr (fun i hi => by simp [hi])
  have : ∀ k, valF (fun i => if i < xs.length then xs.getD i 0 else 0) (xs.length + k) = val xs := by
    intro k
    induction k with
    | zero => rw [Nat.add_zero, e0, valF_list]
    | succ k ih =>
      rw [← Nat.add_assoc]
      simp only [valF]
      rw [ih]; simp
  have h2 := this (n - xs.length)
  rw [show xs.length + (n - xs.length) = n from by omega] at h2
  exact h2

set_option maxHeartbeats 400000 in
theorem clone_any (a : Option Addr) (n c : Nat) (xs : List Nat) (w : World) (h : Sl w a n c xs) (hb : n ≤ 70368744177600) :
    Calls Tryd.prog 76 #[.slice a n c] w fun e w' => e = .returned (.slice (some ⟨w.heap.size, 0, none⟩) n n) ∧ Fn w' w.heap.size 0 n (fun i => xs.getD i 0) ∧ Below w.heap.size w w' := by
  have hmk := make_len n hb
  have HF := hide (Fn.made w n 74)
  have HS := hide (h.below ((Below.refl w.heap.size w).alloc (Nat.le_refl _) (.cells (madeCells #[.int .u32 0] n) 74)))
  have HL := hide h.len
  go_enter Tryd.func76, Tryd.ntmps76
  go_wp2_with (refine wpList_copy_row rfl _ _ rfl w.heap.size 0 n n a n c rfl rfl _ (unhide HF) xs (unhide HS) (Nat.le_refl _) ?_)
  go_ret
  refine ⟨rfl, ?_, ?_⟩
  · refine ((unhide HF).copied xs (by rw [unhide HL]; exact Nat.le_refl _)).congr ?_
    intro i hi
    simp [unhide HL, hi]
  · refine ((Below.refl w.heap.size w).alloc (Nat.le_refl _) (.cells (madeCells #[.int .u32 0] n) 74)).trans ?_
    refine (Upd.setCells w.heap.size 0 n (vals xs) 0 _ (Nat.le_refl _) ?_).below (Nat.le_refl _) (by simp)
    simp [vals, unhide HL]

set_option maxHeartbeats 800000 in
theorem addTo_nil (bz oz nz cz cb : Nat) (a : Option Addr) (w : World) :
    Calls Tryd.prog 96 #[.slice (some ⟨bz, oz, none⟩) nz cz, .slice a 0 cb] w fun e w' => e = .returned (.int .u32 0) ∧ w' = w := by
  go_enter Tryd.func96, Tryd.ntmps96
  go_wp2
  go_loop [5, 10] (fun cv i => cv = .int .u32 0 ∧ i = .int .i64 0) (fun _ i => (intOf i).toNat)
  case atStart => exact ⟨rfl, rfl⟩
  case round =>
    obtain ⟨rfl, rfl⟩ := hrel
    go_wp2
    go_loop [5, 7] (fun cv i => cv = .int .u32 0 ∧ i = .int .i64 0) (fun _ i => (intOf i).toNat)
    case atStart => exact ⟨rfl, rfl⟩
    case round =>
      obtain ⟨rfl, rfl⟩ := hrel
      go_wp2
      go_ret
      exact ⟨rfl, rfl⟩

theorem addTo_any (bz oz nz cz m cb : Nat) (a : Option Addr) (f : Nat → Nat) (ys : List Nat) (w : World) (hs : Sl w a m cb ys) (hb : ∀ x, a = some x → ys ≠ [] → x.block ≠ bz) (hle : m ≤ nz) (hn : nz ≤ maxLen) (oy : Ok ys) (of : ∀ i, i < nz → f i < 4294967296)
    (hz : Fn w bz oz nz f) :
    Calls Tryd.prog 96 #[.slice (some ⟨bz, oz, none⟩) nz cz, .slice a m cb] w fun e w' => ∃ f' c, e = .returned (.int .u32 (c : Nat)) ∧ c ≤ 1 ∧ Fn w' bz oz nz f' ∧ (∀ i, i < nz → f' i < 4294967296) ∧
      valF f' nz + 4294967296 ^ nz * c = valF f nz + val ys ∧ Upd bz oz (oz + nz) w w' := by
  by_cases h0 : ys = []
  · subst h0
    have hl := hs.len
    simp at hl
    subst hl
    refine (addTo_nil bz oz nz cz cb a w).mono ?_
    rintro e w' ⟨rfl, rfl⟩
    exact ⟨f, 0, rfl, Nat.zero_le _, hz, of, by simp [val], Upd.refl _ _ _ _⟩
  · rcases hs.cells with h | ⟨b, off, rfl, hc⟩
    · exact absurd h h0
    · exact addTo_some bz oz nz cz b off m cb f ys w (hb _ rfl h0) hs.len hle hn oy of hz hc
theorem or_halves (a b : Nat) (ha : a < 4294967296) (hb : b < 4294967296) : bits .or .u64 ((a : Int) * 4294967296) (b : Int) = ((b + 4294967296 * a : Nat) : Int) := by
  have e : (a : Int) * 4294967296 = ((a * 4294967296 : Nat) : Int) := by omega
  rw [e, u64_or_nat _ _ (by omega) (by omega)]
  congr 1
  have h := Nat.shiftLeft_add_eq_or_of_lt (i := 32) (b := b) (by simpa using hb) a
  rw [Nat.shiftLeft_eq] at h
  have e2 : (2:Nat) ^ 32 = 4294967296 := by decide
  rw [e2] at h
  rw [← h]; omega

set_option maxHeartbeats 400000 in
theorem word_any (a : Option Addr) (n c : Nat) (xs : List Nat) (w : World) (h : Sl w a n c xs) (ok : Ok xs) :
    Calls Tryd.prog 75 #[.slice a n c] w fun e w' => e = .returned (.int .u64 ((xs.getD 0 0 + 4294967296 * xs.getD 1 0 : Nat) : Int)) ∧ w' = w := by
  have b0 := ok.getD 0
  have b1 := ok.getD 1
  have k1 := limbAt_any a n c xs 1 w h (by decide)
  have k0 := limbAt_any a n c xs 0 w h (by decide)
  rw [show (1:Int).toNat = 1 from rfl] at k1
  rw [show (0:Int).toNat = 0 from rfl] at k0
  generalize xs.getD 0 0 = x0 at *
  generalize xs.getD 1 0 = x1 at *
  have K1 := hide k1
  have K0 := hide k0
  clear k1 k0 h ok
  have HO := hide (or_halves x1 x0 b1 b0)
  go_enter Tryd.func75, Tryd.ntmps75
  go_wp2_with fail
  refine (unhide K1).mono ?_
  rintro e w' ⟨rfl, rfl⟩
  go_wp2_with fail
  refine (unhide K0).mono ?_
  rintro e w' ⟨rfl, rfl⟩
  go_wp2
  go_ret
  refine ⟨?_, rfl⟩
  show Ending.returned (Value.int IntKind.u64 (bits BinOp.or IntKind.u64 ((x1 : Int) * 4294967296) (x0 : Int))) = _
  rw [unhide HO]

theorem two_sl (w : World) (x y : Nat) (e : TypeId) : Sl (w.alloc (.cells #[.int .u32 (x : Nat), .int .u32 (y : Nat)] e)) (some ⟨w.heap.size, 0, none⟩) 2 2 [x, y] := by
  refine ⟨rfl, Nat.le_refl _, by decide, .inr ⟨_, _, rfl, ?_⟩⟩
  intro i hi
  match i, hi with
  | 0, _ => simp
  | 1, _ => simp

theorem two_val (v : Nat) : val [v % 4294967296, v / 4294967296] = v := by
  simp only [val]; omega

theorem two_ok (v : Nat) (hv : v < 18446744073709551616) : Ok [v % 4294967296, v / 4294967296] :=
  Ok.cons (by omega) (Ok.cons (by omega) Ok.nil)

set_option maxHeartbeats 400000 in
theorem fromWord_any (v : Nat) (w : World) (hv : v < 18446744073709551616) :
    Calls Tryd.prog 72 #[.int .u64 (v : Nat)] w fun e w' => ∃ a' m ys, e = .returned (.slice a' m m) ∧ Sl w' a' m m ys ∧ Rep v ys ∧ NewAt w.heap.size a' ∧ Below w.heap.size w w' := by
  have K := hide (trim_any _ 2 2 _ _ (two_sl w (v % 4294967296) (v / 4294967296) 74) (two_ok v hv))
  go_enter Tryd.func72, Tryd.ntmps72
  go_wp2_with fail
  refine (unhide K).mono ?_
  rintro e w' ⟨a', m, ys, rfl, hs, hr, ha, rfl⟩
  go_wp2
  go_ret
  rw [two_val] at hr
  refine ⟨a', m, ys, rfl, hs, hr, ?_, (Below.refl _ _).alloc (Nat.le_refl _) _⟩
  intro x hx
  rcases ha with rfl | rfl
  · cases hx; exact Nat.le_refl _
  · cases hx

set_option maxHeartbeats 400000 in
theorem from_any (v : Nat) (w : World) (hv : v < 18446744073709551616) :
    Calls Tryd.prog 67 #[.int .u64 (v : Nat)] w fun e w' => ∃ a' m ys, e = .returned (.slice a' m m) ∧ Sl w' a' m m ys ∧ Rep v ys ∧ NewAt w.heap.size a' ∧ Below w.heap.size w w' := by
  have K := hide (fromWord_any v w hv)
  go_enter Tryd.func67, Tryd.ntmps67
  go_wp2_with fail
  refine (unhide K).mono ?_
  rintro e w' ⟨a', m, ys, rfl, hs, hr, ha, hb⟩
  go_wp2
  go_ret
  exact ⟨a', m, ys, rfl, hs, hr, ha, hb⟩

theorem rep_len {v : Nat} {ys : List Nat} (h : Rep v ys) (hv : v < 18446744073709551616) : ys.length ≤ 2 := by
  match ys, h with
  | [], _ => simp
  | [_], _ => simp
  | [_, _], _ => simp
  | x :: y :: z :: zs, h =>
    exfalso
    have h1 : val (z :: zs) ≠ 0 := val_ne (norm_tail (norm_tail h.norm)) (by simp)
    have h2 := h.val
    simp only [val] at h1 h2
    omega

theorem rep_two {v : Nat} {ys : List Nat} (h : Rep v ys) (hv : v < 18446744073709551616) : ys.getD 0 0 + 4294967296 * ys.getD 1 0 = v := by
  have hl := rep_len h hv
  have h2 := h.val
  match ys, hl with
  | [], _ => simpa [val] using h2
  | [_], _ => simpa [val] using h2
  | [_, _], _ => simpa [val] using h2
set_option maxHeartbeats 1600000 in
theorem compare_some (b1 o1 b2 o2 : Nat) (n c1 c2 : Nat) (xs ys : List Nat) (w : World) (hn : n ≤ maxLen) (hx : xs.length = n) (hy : ys.length = n) (ox : Ok xs) (oy : Ok ys)
   (h1 : Cells w b1 o1 xs) (h2 : Cells w b2 o2 ys) :
    Calls Tryd.prog 73 #[.slice (some ⟨b1, o1, none⟩) n c1, .slice (some ⟨b2, o2, none⟩) n c2] w fun e w' => e = .returned (.int .i64 (cmpN (val xs) (val ys))) ∧ ∃ k, w' = w.drewN k := by
  unfold maxLen at hn
  go_enter Tryd.func73, Tryd.ntmps73
  go_wp2
  go_loopw [5] (fun i wr => ∃ k : Nat, k ≤ n ∧ i = .int .i64 ((k : Int) - 1) ∧ (∀ j, k ≤ j → xs.getD j 0 = ys.getD j 0) ∧ ∃ d, wr = w.drewN d) (fun i _ => (intOf i + 1).toNat)
  case atStart => exact ⟨n, Nat.le_refl _, rfl, fun j hj => by rw [getD_ge (by omega), getD_ge (by omega)], 0, rfl⟩
  case round =>
    obtain ⟨k, hk, rfl, ht, d, rfl⟩ := hrel
    by_cases hlt : 0 < k
    · have hlt' : (0:Int) ≤ (k:Int) - 1 := by omega
      have hlt2 : (k:Int) - 1 < (n:Int) := by omega
      have hk1 : ((k:Int) - 1).toNat = k - 1 := by omega
      have g1 := h1 (k - 1) (by omega)
      have g2 := h2 (k - 1) (by omega)
      by_cases he : xs.getD (k - 1) 0 = ys.getD (k - 1) 0
      · have HT : ∀ j, k - 1 ≤ j → xs.getD j 0 = ys.getD j 0 := fun j hj => by
          by_cases e : j = k - 1
          · rw [e]; exact he
          · exact ht j (by omega)
        have HT' := hide HT
        have hb : (((xs.getD (k - 1) 0 : Nat) : Int) != ((ys.getD (k - 1) 0 : Nat) : Int)) = false := by rw [he]; simp
        generalize ((xs.getD (k - 1) 0 : Nat) : Int) = u at g1 hb
        generalize ((ys.getD (k - 1) 0 : Nat) : Int) = v at g2 hb
        clear he h1 h2 HT ht
        go_wp2_with fail
        go_quiet (fail)
        go_wp2
        exact ⟨⟨k - 1, by omega, by congr 1; omega, unhide HT', _, rfl⟩, by simp [intOf]; omega⟩
      · have hb : (((xs.getD (k - 1) 0 : Nat) : Int) != ((ys.getD (k - 1) 0 : Nat) : Int)) = true := by rw [bne_iff_ne]; omega
        have hr : ((xs.getD (k - 1) 0 : Nat) : Int) < ((ys.getD (k - 1) 0 : Nat) : Int) ∧ cmpN (val xs) (val ys) = -1 ∨ ¬ ((xs.getD (k - 1) 0 : Nat) : Int) < ((ys.getD (k - 1) 0 : Nat) : Int) ∧ cmpN (val xs) (val ys) = 1 := by
          by_cases hh : xs.getD (k - 1) 0 < ys.getD (k - 1) 0
          · exact .inl ⟨by omega, cmpN_lt (val_lt_of (i := k - 1) (hx.trans hy.symm) ox oy (by omega) (fun j hj => ht j (by omega)) hh)⟩
          · exact .inr ⟨by omega, cmpN_gt (val_lt_of (i := k - 1) (hy.trans hx.symm) oy ox (by omega) (fun j hj => (ht j (by omega)).symm) (by omega))⟩
        generalize ((xs.getD (k - 1) 0 : Nat) : Int) = u at g1 hb hr
        generalize ((ys.getD (k - 1) 0 : Nat) : Int) = v at g2 hb hr
        clear he h1 h2 ht
        rcases hr with ⟨hr, hc⟩ | ⟨hr, hc⟩
        · have HC := hide hc
          clear hc
          go_wp2_with fail
          go_quiet (fail)
          go_wp2_with fail
          go_quiet (fail)
          go_wp2
          go_ret
          exact ⟨by rw [unhide HC]; rfl, _, drewN_add3 _ _ _ _⟩
        · have HC := hide hc
          clear hc
          go_wp2_with fail
          go_quiet (fail)
          go_wp2_with fail
          go_quiet (fail)
          go_wp2
          go_ret
          exact ⟨by rw [unhide HC]; rfl, _, drewN_add3 _ _ _ _⟩
    · have hk0 : ¬ (0:Int) ≤ (k:Int) - 1 := by omega
      have : xs = ys := ext_getD (hx.trans hy.symm) (fun i _ => ht i (by omega))
      have HE := hide this
      clear this h1 h2 ht
      go_wp2
      go_ret
      exact ⟨by rw [cmpN_eq (by rw [unhide HE])]; rfl, _, rfl⟩

set_option maxHeartbeats 400000 in
theorem compare_len (a1 a2 : Option Addr) (n1 n2 c1 c2 : Nat) (w : World) (hn : ((n1:Int) != (n2:Int)) = true) :
    Calls Tryd.prog 73 #[.slice a1 n1 c1, .slice a2 n2 c2] w fun e w' => e = .returned (.int .i64 (if (n1:Int) < (n2:Int) then -1 else 1)) ∧ w' = w := by
  by_cases h : (n1:Int) < (n2:Int)
  · go_enter Tryd.func73, Tryd.ntmps73
    go_wp2
    go_ret
    exact ⟨rfl, rfl⟩
  · go_enter Tryd.func73, Tryd.ntmps73
    go_wp2
    go_ret
    exact ⟨rfl, rfl⟩

set_option maxHeartbeats 400000 in
theorem compare_nil (a1 a2 : Option Addr) (c1 c2 : Nat) (w : World) :
    Calls Tryd.prog 73 #[.slice a1 0 c1, .slice a2 0 c2] w fun e w' => e = .returned (.int .i64 0) ∧ w' = w := by
  go_enter Tryd.func73, Tryd.ntmps73
  go_wp2
  go_loop [5] (fun i => i = .int .i64 (-1)) (fun i => (intOf i).toNat)
  case atStart => rfl
  case round =>
    subst hrel
    go_wp2
    go_ret
    exact ⟨rfl, rfl⟩

theorem cmp_len {xs ys : List Nat} (ox : Ok xs) (oy : Ok ys) (nx : Norm xs) (ny : Norm ys) (h : xs.length ≠ ys.length) :
    (if (xs.length:Int) < (ys.length:Int) then -1 else 1 : Int) = cmpN (val xs) (val ys) := by
  by_cases hl : xs.length < ys.length
  · rw [if_pos (by omega), cmpN_lt (len_lt_val ox ny hl)]
  · rw [if_neg (by omega), cmpN_gt (len_lt_val oy nx (by omega))]

theorem compare_any (a1 a2 : Option Addr) (n1 c1 n2 c2 : Nat) (xs ys : List Nat) (w : World) (h1 : Sl w a1 n1 c1 xs) (h2 : Sl w a2 n2 c2 ys) (ox : Ok xs) (oy : Ok ys) (nx : Norm xs) (ny : Norm ys) :
    Calls Tryd.prog 73 #[.slice a1 n1 c1, .slice a2 n2 c2] w fun e w' => e = .returned (.int .i64 (cmpN (val xs) (val ys))) ∧ ∃ k, w' = w.drewN k := by
  have l1 := h1.len
  have l2 := h2.len
  by_cases e : n1 = n2
  · subst e
    by_cases z : n1 = 0
    · subst z
      have e1 : xs = [] := List.eq_nil_of_length_eq_zero l1
      have e2 : ys = [] := List.eq_nil_of_length_eq_zero l2
      subst e1 e2
      refine (compare_nil a1 a2 c1 c2 w).mono ?_
      rintro e w' ⟨rfl, rfl⟩
      exact ⟨rfl, 0, rfl⟩
    · rcases h1.cells with e1 | ⟨b1, o1, rfl, k1⟩
      · subst e1; simp at l1; omega
      · rcases h2.cells with e2 | ⟨b2, o2, rfl, k2⟩
        · subst e2; simp at l2; omega
        · exact compare_some b1 o1 b2 o2 n1 c1 c2 xs ys w (Nat.le_trans h1.le h1.cap) l1 l2 ox oy k1 k2
  · refine (compare_len a1 a2 n1 n2 c1 c2 w (by rw [bne_iff_ne]; omega)).mono ?_
    rintro e w' ⟨rfl, rfl⟩
    rw [← l1, ← l2, cmp_len ox oy nx ny (by omega)]
    exact ⟨rfl, 0, rfl⟩
end Go.Proofs.YtiadccaaoenccaaDoor
