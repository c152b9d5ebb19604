/- Wr1 -/
import Derived.Test.YtbbicappjicblaaGreatDoorNMul
import Derived.Test.YtbbicappjicblaaGreatDoorGiv2
import Derived.Test.YtbbicappjicblaaGreatDoorDv2
namespace Go.Proofs.YtbbicappjicblaaGreatDoor
open Go.RowKit Go.Deep
set_option linter.unusedVariables false
def Ow (w : World) (B : Nat) (a : Option Addr) (n c : Nat) (xs : List Nat) : Prop := w.ownsRow B 115 1 (.slice a n c) n (vals xs)
def AtB (a : Option Addr) (k : Nat) : Prop := ∃ x, a = some x ∧ x.block = k
theorem atB_some {g o : Nat} : AtB (some ⟨g, o, none⟩) g := ⟨_, rfl, rfl⟩
theorem atB_is {g o k : Nat} (h : AtB (some ⟨g, o, none⟩) k) : k = g := by obtain ⟨x, e, rfl⟩ := h; cases e; rfl
theorem atB_none {k : Nat} (h : AtB none k) : False := by obtain ⟨x, e, _⟩ := h; cases e
theorem atB_own {a : Option Addr} {n c k : Nat} : (Value.slice a n c).ownBlock = some k ↔ AtB a k := by
 cases a with
 | none => exact ⟨fun h => (by cases h), fun h => (atB_none h).elim⟩
 | some x => exact ⟨fun h => ⟨x, rfl, by simpa [Value.ownBlock] using h⟩, fun ⟨y, e, h⟩ => (by cases e; simp [Value.ownBlock, h])⟩

theorem Ow.nil (w : World) (B : Nat) : Ow w B none 0 0 [] := World.ownsRow_nil _ _ _ _
theorem Ow.len {w : World} {B n c : Nat} {a : Option Addr} {xs : List Nat} (h : Ow w B a n c xs) : xs.length = n := by have := h.1; simpa [vals] using this
theorem Ow.sl {w : World} {B n c : Nat} {a : Option Addr} {xs : List Nat} (h : Ow w B a n c xs) : Sl w a n c xs := by
 obtain ⟨a', c', e, k, _⟩ := own_sl h
 cases e; exact k
theorem Ow.new {w : World} {B n c : Nat} {a : Option Addr} {xs : List Nat} (h : Ow w B a n c xs) : NewAt B a := by
 obtain ⟨a', c', e, _, k⟩ := own_sl h
 cases e; exact k
theorem Ow.lt {w : World} {B n c k : Nat} {a : Option Addr} {xs : List Nat} (h : Ow w B a n c xs) (hk : AtB a k) : B ≤ k ∧ k < w.heap.size := own_ge h k (atB_own.2 hk)
theorem Ow.mono {w : World} {B B' n c : Nat} {a : Option Addr} {xs : List Nat} (h : Ow w B a n c xs) (hb : B' ≤ B) : Ow w B' a n c xs :=
 ⟨h.1, h.2.imp id (fun ⟨g, cap, cur, e, h1, h2⟩ => ⟨g, cap, cur, e, Nat.le_trans hb h1, h2⟩)⟩
theorem Ow.chg {S : Nat → Prop} {w w' : World} {B n c : Nat} {a : Option Addr} {xs : List Nat} (h : Ow w B a n c xs) (k : Chg S w w') (hs : ∀ k, AtB a k → ¬ S k) : Ow w' B a n c xs :=
 ownsRow_chg h k (fun k hk => hs k (atB_own.1 hk))
theorem Ow.below {w w' : World} {B n c : Nat} {a : Option Addr} {xs : List Nat} (h : Ow w B a n c xs) (k : Below w.heap.size w w') : Ow w' B a n c xs :=
 h.chg (S := fun _ => False) (.of_below k) (fun _ _ => id)
theorem Ow.form {w : World} {B n c : Nat} {a : Option Addr} {xs : List Nat} (h : Ow w B a n c xs) (hn : 0 < n) : ∃ g, a = some ⟨g, 0, none⟩ ∧ B ≤ g ∧ g < w.heap.size := by
 obtain ⟨g, cap, e, h1, h2⟩ := World.ownsRow.form h hn
 cases e
 exact ⟨g, rfl, h1, h2⟩
theorem Ow.shape {w : World} {B n c : Nat} {a : Option Addr} {xs : List Nat} (h : Ow w B a n c xs) : (a = none ∧ n = 0 ∧ c = 0) ∨ ∃ g, a = some ⟨g, 0, none⟩ := by
 rcases h.2 with ⟨e, h0⟩ | ⟨g, cap, cur, e, _⟩
 ·cases e; exact .inl ⟨rfl, rfl, rfl⟩
 ·cases e; exact .inr ⟨g, rfl⟩
theorem Ow.cell {w : World} {B g n c i : Nat} {xs : List Nat} (h : Ow w B (some ⟨g, 0, none⟩) n c xs) (hi : i < n) : w.cell? ⟨g, i, none⟩ = some (.int .u32 (xs.getD i 0 : Nat)) := by
 have := World.ownsRow.cellAt h i (by omega)
 rw [this, vals_get (by rw [h.len]; exact hi)]
theorem Ow.froz {w : World} {B g n c i : Nat} {xs : List Nat} (h : Ow w B (some ⟨g, 0, none⟩) n c xs) : w.frozen? ⟨g, i, none⟩ = false := World.ownsRow.frozenAt h i
theorem Ow.set {w : World} {B g n c : Nat} {xs : List Nat} (h : Ow w B (some ⟨g, 0, none⟩) n c xs) (j x : Nat) : Ow (w.setCell ⟨g, j, none⟩ (.int .u32 (x : Nat))) B (some ⟨g, 0, none⟩) n c (xs.set j x) := by
 have := (World.ownsRow.stored h j (.int .u32 (x : Nat))).1
 have e : (vals xs).set j (.int .u32 (x : Nat)) = vals (xs.set j x) := by simp [vals, List.map_set]
 rw [e] at this
 exact this
theorem Ow.take {w : World} {B n c m : Nat} {a : Option Addr} {xs : List Nat} (h : Ow w B a n c xs) (hm : m ≤ n) : Ow w B a m c (xs.take m) := by
 have hl := h.len
 refine ⟨by simp [vals, hl]; omega, ?_⟩
 rcases h.2 with ⟨e, h0⟩ | ⟨g, cap, cur, e, h1, h2, h3, h4, h5, h6⟩
 ·cases e; left; exact ⟨by congr; omega, by omega⟩
 ·cases e
  right
  refine ⟨g, c, cur, rfl, h1, h2, by omega, h4, h5, ?_⟩
  have e2 : vals (xs.take m) = (vals xs).take m := by simp [vals]
  rw [e2, ← h6, List.take_take]
  congr 1; omega
theorem Ow.made (w : World) (n : Nat) (hn : n ≤ 70368744177600) : Ow (w.alloc (.cells (madeCells #[.int .u32 0] n) 115)) w.heap.size (some ⟨w.heap.size, 0, none⟩) n n (List.replicate n 0) := by
 have := World.ownsRow_lit (base := w.heap.size) (e := 115) (size := 1) w (madeCells #[.int .u32 0] n) n (Nat.le_refl _) (by unfold maxLen; omega) (by simp [madeCells])
 rw [toList_madeCells_one] at this
 have e : vals (List.replicate n 0) = List.replicate n (.int .u32 0) := by simp [vals]
 unfold Ow
 rw [e]
 exact this

theorem TrimAt.limbs {xs : List Nat} {m : Nat} (h : TrimAt xs m) (ok : Ok xs) : xs.take m = limbs (val xs) := (h.rep ok).eq
theorem limbs_ok (v : Nat) : Ok (limbs v) := (limbs_rep v).ok
theorem limbs_norm (v : Nat) : Norm (limbs v) := (limbs_rep v).norm
theorem limbs_v (v : Nat) : val (limbs v) = v := (limbs_rep v).val
theorem limbs_len {v j : Nat} (hv : v < 4294967296 ^ j) : (limbs v).length ≤ j := by
 rcases Nat.lt_or_ge j (limbs v).length with k | k
 ·exfalso
  have hz : limbs v ≠ [] := by intro e; rw [e] at k; simp at k
  have h1 := val_ge_of_norm (limbs_norm v) hz
  rw [limbs_v] at h1
  have h2 : 4294967296 ^ j ≤ 4294967296 ^ ((limbs v).length - 1) := Nat.pow_le_pow_right (by decide) (by omega)
  omega
 ·exact k
theorem limbs_lt (v : Nat) : v < 4294967296 ^ (limbs v).length := by have := val_lt (limbs_ok v); rwa [limbs_v] at this
theorem limbs_eq_nil {v : Nat} : limbs v = [] ↔ v = 0 := by
 constructor
 ·intro h; have := limbs_v v; rw [h] at this; exact this.symm
 ·rintro rfl; rfl

set_option maxHeartbeats 400000 in
theorem wnorm_some (b off n c : Nat) (xs : List Nat) (w : World) (hn : xs.length = n) (hnc : n ≤ c) (hcm : c ≤ maxLen) (hc : Cells w b off xs) :
  Calls Tryz.prog 128 #[.slice (some ⟨b, off, none⟩) n c] w fun e w' => ∃ m, TrimAt xs m ∧ e = .returned (.slice (some ⟨b, off, none⟩) m c) ∧ w' = w := by
 unfold maxLen at hcm
 go_enter Tryz.func128, Tryz.ntmps128
 go_wp2
 go_loop [3] (fun i => ∃ k : Nat, k ≤ n ∧ i = .int .i64 k ∧ ∀ j, k ≤ j → xs.getD j 0 = 0) (fun i => (intOf i).toNat)
 case atStart => exact ⟨n, Nat.le_refl _, rfl, fun j hj => getD_ge (by omega)⟩
 case round =>
  obtain ⟨k, hk, rfl, hz⟩ := hrel
  by_cases h0 : k = 0
  ·subst h0
   go_wp2
   go_ret
   exact ⟨0, ⟨by omega, .inl rfl, hz⟩, rfl, rfl⟩
  ·have hpos : (0:Int) < (k:Int) := by omega
   have hk1 : ((k:Int) - 1).toNat = k - 1 := by omega
   have hcell := hc (k - 1) (by omega)
   by_cases hx : xs.getD (k - 1) 0 = 0
   ·rw [hx] at hcell
    have Hx : Hid (xs.getD (k - 1) 0 = 0) := hx
    clear hx
    go_wp2
    go_round
    case rel => exact ⟨k - 1, by omega, by congr 1; omega, fun j hj => by
     by_cases e : j = k - 1
     ·rw [e]; exact Hx.out
     ·exact hz j (by omega)⟩
    case measure => simp [intOf]; omega
   ·have Hx : Hid (xs.getD (k - 1) 0 ≠ 0) := hx
    have hx' : (((xs.getD (k - 1) 0 : Nat) : Int) == 0) = false := by simp at hx ⊢; exact hx
    clear hx
    generalize hg : (((xs.getD (k - 1) 0 : Nat) : Int)) = g at hcell hx'
    clear hg
    go_wp2
    go_ret
    exact ⟨k, ⟨by omega, .inr Hx.out, hz⟩, rfl, rfl⟩

theorem wnorm_nil (w : World) :
  Calls Tryz.prog 128 #[.slice none 0 0] w fun e w' => e = .returned (.slice none 0 0) ∧ w' = w := by
 go_enter Tryz.func128, Tryz.ntmps128
 go_wp2
 go_loop [3] (fun i => i = .int .i64 0) (fun i => (intOf i).toNat)
 case atStart => rfl
 case round =>
  subst hrel
  go_wp2
  go_ret
  exact ⟨rfl, rfl⟩

theorem wnorm_any (a : Option Addr) (n c B : Nat) (xs : List Nat) (w : World) (h : Ow w B a n c xs) (ok : Ok xs) :
  Calls Tryz.prog 128 #[.slice a n c] w fun e w' => ∃ m, e = .returned (.slice a m c) ∧ m ≤ n ∧ Ow w B a m c (limbs (val xs)) ∧ w' = w := by
 rcases h.shape with ⟨rfl, rfl, rfl⟩ | ⟨g, rfl⟩
 ·refine (wnorm_nil w).mono ?_
  rintro e w' ⟨rfl, rfl⟩
  have : xs = [] := List.eq_nil_of_length_eq_zero h.len
  subst this
  exact ⟨0, rfl, Nat.le_refl _, Ow.nil _ _, rfl⟩
 ·have hs := h.sl
  refine (wnorm_some g 0 n c xs w hs.len hs.le hs.cap ?_).mono ?_
  ·intro i hi
   have := h.cell (i := i) (by rw [← h.len]; exact hi)
   simpa using this
  ·rintro e w' ⟨m, ht, rfl, rfl⟩
   have hm : m ≤ n := by have := ht.le; rw [h.len] at this; exact this
   refine ⟨m, rfl, hm, ?_, rfl⟩
   have := h.take hm
   rw [ht.limbs ok] at this
   exact this
section
variable {P : Program} {w : World}
theorem wpList_append_nilR {ops : Array Oper} {rest : List Oper} {o : Oper} {a : Act} {Q : Exit → Act → World → Prop} (hgd : o.guard = none) (s x : Operand) (t : TypeId)
  (ho : o.op = .call { callee := .builtin .append, args := #[s, x], argTypes := #[t, t] })
  (base : Nat) (e : TypeId) (i : TypeInfo) (z : Value) (bytes : Nat) (ht : P.underlying t = some (.slice e)) (hi : P.info? e = some i) (hz : i.zero = some z)
  (hsize : i.size = 1) (hby : i.bytes = bytes) (hzs : z.cells.size = 1)
  (hs : a.eval s = .slice none 0 0)
  (ao : Option Addr) (m c : Nat) (news : List Value) (hx : a.eval x = .slice ao m c) (hl : news.length = m) (hnone : ao = none → m = 0 ∧ c = 0)
  (hnews : ∀ ad, ao = some ad → ∀ j u, news[j]? = some u → w.cell? (ad.add j) = some u) (h1 : ∀ u ∈ news, u.oneCell' = true)
  (h63 : m ≤ maxLen) (hbytes : m * bytes ≤ 140737488355328) (hbase : base ≤ w.heap.size)
  (h : ∀ v w', w'.ownsRow base e 1 v m news → w.grownBy w' none → wpList P ops Q rest (a.put o.dst v) w') : wpList P ops Q (o :: rest) a w := by
 cases ao with
 | none =>
  obtain ⟨rfl, rfl⟩ := hnone rfl
  have hn : news = [] := List.eq_nil_of_length_eq_zero hl
  subst hn
  refine wpList_plain hgd fun K hK => ?_
  have hrun := run_append_owned_none (P := P) (w := w) base t o.type e i 1 ht hi (.slice none 0 0) 0 [] (World.ownsRow_nil _ _ _ _)
  unfold Oper.wp
  simp [execOp, ho, resolve, invoke, builtin, hs, hx, hrun, Result.andThen]
  exact hK _ _ (h _ w (World.ownsRow_nil _ _ _ _) (World.grownBy.refl _ _))
 | some ad =>
  refine wpList_append_own w hgd s x t ho base e i z 1 bytes ht hi hz hsize hby hzs (by decide) _ 0 [] hs (World.ownsRow_nil _ _ _ _) ad m c news hx (by simpa using hl) (hnews ad rfl) h1 (by simpa using h63) (by simpa using hbytes) hbase ?_
  intro v' w' k1 k2 _
  simp only [Nat.zero_add, List.nil_append] at k1
  exact h v' w' k1 k2
end

theorem Sl.news {w : World} {a : Option Addr} {n c : Nat} {xs : List Nat} (h : Sl w a n c xs) : ∀ ad, a = some ad → ∀ j u, (vals xs)[j]? = some u → w.cell? (ad.add j) = some u := by
 intro ad had j u hu
 have hj : j < xs.length := by
  have := (List.getElem?_eq_some_iff.1 hu).1
  simpa [vals] using this
 have hne : xs ≠ [] := by intro e; rw [e] at hj; simp at hj
 obtain ⟨b, off, e, hc⟩ := h.cells.resolve_left hne
 rw [e] at had
 cases had
 have e2 : (⟨b, off, none⟩ : Addr).add j = ⟨b, off + j, none⟩ := by unfold Addr.add; split <;> simp_all
 rw [e2, hc j hj, ← hu]
 simp [vals, List.getD, hj]

set_option maxHeartbeats 2000000 in
theorem wcopied_any (a : Option Addr) (n c : Nat) (xs : List Nat) (w : World) (h : Sl w a n c xs) (hnil : a = none → c = 0) (hn : n ≤ 1000000000) :
  Calls Tryz.prog 113 #[.slice a n c] w fun e w' => ∃ a' c', e = .returned (.slice a' n c') ∧ Ow w' w.heap.size a' n c' xs ∧ Below w.heap.size w w' := by
 obtain ⟨i80, hi80, hz80, hs80, hb80⟩ := info_parts Tryz.info_u32
 have I80 := hide (And.intro hi80 (And.intro hz80 (And.intro hs80 hb80)))
 have HS := hide h
 have HNil := hide (show a = none → n = 0 ∧ c = 0 from fun e => ⟨by have := hnil e; have := h.le; omega, hnil e⟩)
 clear hi80 hz80 hs80 hb80 h hnil
 go_enter Tryz.func113, Tryz.ntmps113
 go_wp2_with (at_builtin; refine wpList_append_nilR rfl _ _ 68 rfl w.heap.size 115 i80 (.int .u32 0) 4 Tryz.underlying68 (unhide I80).1 (unhide I80).2.1 (unhide I80).2.2.1 (unhide I80).2.2.2 rfl rfl a n c (vals xs) rfl ?hl (unhide HNil) ?hnews ?hone ?h63 ?hby (Nat.le_refl _) ?_)
 case hl => simp [vals, (unhide HS).len]
 case hnews => exact (unhide HS).news
 case hone => exact vals_one
 case h63 => unfold maxLen; omega
 case hby => omega
 intro v1 w1 hown hg
 have HB1 := hide (show Below w.heap.size w w1 from Below.grown (Below.refl _ _) hg (Nat.le_refl _) (fun k hk => by cases hk))
 obtain ⟨a', c', e, _, _⟩ := own_sl hown
 subst e
 have HO := hide (show Ow w1 w.heap.size a' n c' xs from hown)
 clear hown hg
 go_wp2_with fail
 go_ret
 exact ⟨a', c', rfl, unhide HO, unhide HB1⟩

theorem wsign_any (n : Int) (w : World) (hl : -9223372036854775808 ≤ n) (hh : n ≤ 9223372036854775807) :
  Calls Tryz.prog 129 #[.int .i64 n] w fun e w' => e = .returned (.int .i64 n.sign) ∧ w' = w := by
 rcases Int.lt_trichotomy n 0 with h | h | h
 ·rw [Int.sign_eq_neg_one_of_neg h]
  go_enter Tryz.func129, Tryz.ntmps129
  go_wp2
  go_ret
  exact ⟨rfl, rfl⟩
 ·subst h
  go_enter Tryz.func129, Tryz.ntmps129
  go_wp2
  go_ret
  exact ⟨rfl, rfl⟩
 ·rw [Int.sign_eq_one_of_pos h]
  have h2 : ¬ n < 0 := by omega
  go_enter Tryz.func129, Tryz.ntmps129
  go_wp2
  go_ret
  exact ⟨rfl, rfl⟩

set_option maxHeartbeats 1600000 in
theorem wcmp_some (b1 o1 b2 o2 : Nat) (n c1 c2 : Nat) (xs ys : List Nat) (w : World) (hn : n ≤ maxLen) (hx : xs.length = n) (hy : ys.length = n) (ox : Ok xs) (oy : Ok ys)
   (h1 : Cells w b1 o1 xs) (h2 : Cells w b2 o2 ys) :
    Calls Tryz.prog 119 #[.slice (some ⟨b1, o1, none⟩) n c1, .slice (some ⟨b2, o2, none⟩) n c2] w fun e w' => e = .returned (.int .i64 (cmpN (val xs) (val ys))) ∧ ∃ k, w' = w.drewN k := by
  unfold maxLen at hn
  have hne : ((n:Int) != (n:Int)) = false := by simp
  go_enter Tryz.func119, Tryz.ntmps119
  go_wp2
  go_loopw [5] (fun i wr => ∃ k : Nat, k ≤ n ∧ i = .int .i64 ((k : Int) - 1) ∧ (∀ j, k ≤ j → xs.getD j 0 = ys.getD j 0) ∧ ∃ d, wr = w.drewN d) (fun i _ => (intOf i + 1).toNat)
  case atStart => exact ⟨n, Nat.le_refl _, rfl, fun j hj => by rw [getD_ge (by omega), getD_ge (by omega)], 0, rfl⟩
  case round =>
    obtain ⟨k, hk, rfl, ht, d, rfl⟩ := hrel
    by_cases hlt : 0 < k
    · have hlt' : (0:Int) ≤ (k:Int) - 1 := by omega
      have hlt2 : (k:Int) - 1 < (n:Int) := by omega
      have hk1 : ((k:Int) - 1).toNat = k - 1 := by omega
      have g1 := h1 (k - 1) (by omega)
      have g2 := h2 (k - 1) (by omega)
      by_cases he : xs.getD (k - 1) 0 = ys.getD (k - 1) 0
      · have HT : ∀ j, k - 1 ≤ j → xs.getD j 0 = ys.getD j 0 := fun j hj => by
          by_cases e : j = k - 1
          · rw [e]; exact he
          · exact ht j (by omega)
        have HT' := hide HT
        have hb : ¬ ((xs.getD (k - 1) 0 : Nat) : Int) < ((ys.getD (k - 1) 0 : Nat) : Int) := by omega
        have hb' : ¬ ((ys.getD (k - 1) 0 : Nat) : Int) < ((xs.getD (k - 1) 0 : Nat) : Int) := by omega
        generalize ((xs.getD (k - 1) 0 : Nat) : Int) = u at g1 hb hb'
        generalize ((ys.getD (k - 1) 0 : Nat) : Int) = v at g2 hb hb'
        clear he h1 h2 HT ht
        go_wp2_with fail
        go_quiet (fail)
        go_wp2_with fail
        go_quiet (fail)
        go_wp2
        exact ⟨⟨k - 1, by omega, by congr 1; omega, unhide HT', _, rfl⟩, by simp [intOf]; omega⟩
      · have hr : ((xs.getD (k - 1) 0 : Nat) : Int) < ((ys.getD (k - 1) 0 : Nat) : Int) ∧ cmpN (val xs) (val ys) = -1 ∨ ((ys.getD (k - 1) 0 : Nat) : Int) < ((xs.getD (k - 1) 0 : Nat) : Int) ∧ cmpN (val xs) (val ys) = 1 := by
          by_cases hh : xs.getD (k - 1) 0 < ys.getD (k - 1) 0
          · exact .inl ⟨by omega, cmpN_lt (val_lt_of (i := k - 1) (hx.trans hy.symm) ox oy (by omega) (fun j hj => ht j (by omega)) hh)⟩
          · exact .inr ⟨by omega, cmpN_gt (val_lt_of (i := k - 1) (hy.trans hx.symm) oy ox (by omega) (fun j hj => (ht j (by omega)).symm) (by omega))⟩
        generalize ((xs.getD (k - 1) 0 : Nat) : Int) = u at g1 hr
        generalize ((ys.getD (k - 1) 0 : Nat) : Int) = v at g2 hr
        clear he h1 h2 ht
        rcases hr with ⟨hr, hc⟩ | ⟨hr, hc⟩
        · have HC := hide hc
          clear hc
          go_wp2_with fail
          go_quiet (fail)
          go_wp2
          go_ret
          exact ⟨by rw [unhide HC]; rfl, _, drewN_add _ _ _⟩
        · have HC := hide hc
          have hr' : ¬ u < v := by omega
          clear hc
          go_wp2_with fail
          go_quiet (fail)
          go_wp2_with fail
          go_quiet (fail)
          go_wp2
          go_ret
          exact ⟨by rw [unhide HC]; rfl, _, drewN_add3 _ _ _ _⟩
    · have hk0 : ¬ (0:Int) ≤ (k:Int) - 1 := by omega
      have : xs = ys := ext_getD (hx.trans hy.symm) (fun i _ => ht i (by omega))
      have HE := hide this
      clear this h1 h2 ht
      go_wp2
      go_ret
      exact ⟨by rw [cmpN_eq (by rw [unhide HE])]; rfl, _, rfl⟩

set_option maxHeartbeats 400000 in
theorem wcmp_len (a1 a2 : Option Addr) (n1 n2 c1 c2 : Nat) (w : World) (hn : ((n1:Int) != (n2:Int)) = true) (h1 : n1 ≤ 1000000000) (h2 : n2 ≤ 1000000000) (r : Int) (hr : ((n1:Int) - n2).sign = r) :
  Calls Tryz.prog 119 #[.slice a1 n1 c1, .slice a2 n2 c2] w fun e w' => e = .returned (.int .i64 r) ∧ w' = w := by
 have K := wsign_any ((n1:Int) - n2) w (by omega) (by omega)
 rw [hr] at K
 have HK := hide K
 clear K hr
 go_enter Tryz.func119, Tryz.ntmps119
 go_wp2_with fail
 refine (unhide HK).mono ?_
 rintro e w' ⟨rfl, hw⟩
 obtain rfl := hw.symm
 go_wp2_with fail
 go_ret
 exact ⟨rfl, rfl⟩

set_option maxHeartbeats 400000 in
theorem wcmp_nil (a1 a2 : Option Addr) (c1 c2 : Nat) (w : World) :
  Calls Tryz.prog 119 #[.slice a1 0 c1, .slice a2 0 c2] w fun e w' => e = .returned (.int .i64 0) ∧ w' = w := by
 go_enter Tryz.func119, Tryz.ntmps119
 go_wp2
 go_loop [5] (fun i => i = .int .i64 (-1)) (fun i => (intOf i).toNat)
 case atStart => rfl
 case round =>
  subst hrel
  go_wp2
  go_ret
  exact ⟨rfl, rfl⟩

theorem wcmp_any (a1 a2 : Option Addr) (n1 c1 n2 c2 : Nat) (xs ys : List Nat) (w : World) (h1 : Sl w a1 n1 c1 xs) (h2 : Sl w a2 n2 c2 ys) (ox : Ok xs) (oy : Ok ys) (nx : Norm xs) (ny : Norm ys) (hn1 : n1 ≤ 1000000000) (hn2 : n2 ≤ 1000000000) :
  Calls Tryz.prog 119 #[.slice a1 n1 c1, .slice a2 n2 c2] w fun e w' => e = .returned (.int .i64 (cmpN (val xs) (val ys))) ∧ ∃ k, w' = w.drewN k := by
 have l1 := h1.len
 have l2 := h2.len
 by_cases e : n1 = n2
 ·subst e
  by_cases z : n1 = 0
  ·subst z
   have e1 : xs = [] := List.eq_nil_of_length_eq_zero l1
   have e2 : ys = [] := List.eq_nil_of_length_eq_zero l2
   subst e1 e2
   refine (wcmp_nil a1 a2 c1 c2 w).mono ?_
   rintro e w' ⟨rfl, rfl⟩
   exact ⟨rfl, 0, rfl⟩
  ·rcases h1.cells with e1 | ⟨b1, o1, rfl, k1⟩
   ·subst e1; simp at l1; omega
   ·rcases h2.cells with e2 | ⟨b2, o2, rfl, k2⟩
    ·subst e2; simp at l2; omega
    ·exact wcmp_some b1 o1 b2 o2 n1 c1 c2 xs ys w (Nat.le_trans h1.le h1.cap) l1 l2 ox oy k1 k2
 ·refine (wcmp_len a1 a2 n1 n2 c1 c2 w (by rw [bne_iff_ne]; omega) hn1 hn2 (cmpN (val xs) (val ys)) ?_).mono ?_
  ·rw [← cmp_len ox oy nx ny (by omega), l1, l2]
   by_cases h : (n1:Int) < (n2:Int)
   ·rw [if_pos h, Int.sign_eq_neg_one_of_neg (by omega)]
   ·rw [if_neg h, Int.sign_eq_one_of_pos (by omega)]
  ·rintro e w' ⟨rfl, rfl⟩
   exact ⟨rfl, 0, rfl⟩
end Go.Proofs.YtbbicappjicblaaGreatDoor
