/- Gc -/
import Derived.Test.YtiadccaaoenccaaDoorGb
import Derived.Handy
namespace Go.Proofs.YtiadccaaoenccaaDoor
open Go.RowKit Go.Deep
set_option linter.unusedVariables false
structure Steps (A B : Nat) (o : Bool) (u0 u1 v0 v1 : Nat) : Prop where
  bu0 : u0 < 4294967296
  bu1 : u1 < 4294967296
  bv0 : v0 < 4294967296
  bv1 : v1 < 4294967296
  has : v0 ≠ 0 → ∃ R0 R1, Dif (!o) u0 v0 A B R0 ∧ Dif o u1 v1 A B R1 ∧ R1 < R0 ∧ R0 ≤ B ∧ Nat.gcd R0 R1 = Nat.gcd A B

theorem Leh.steps {A B X Y : Nat} {o : Bool} {u0 u1 u2 v0 v1 v2 x y : Nat} (h : Leh A B X Y o u0 u1 u2 v0 v1 v2 x y) : Steps A B o u0 u1 v0 v1 := by
  refine ⟨h.bu0, h.bu1, h.bv0, h.bv1, ?_⟩
  intro h0
  rcases h.st with ⟨_, s2, _⟩ | ⟨_, R0, R1, q, W⟩
  · exact absurd s2 h0
  · exact ⟨R0, R1, W.d0, W.d1, W.lt, W.le0 h0, W.gcd⟩

def stepsV (o : Bool) (u0 u1 v0 v1 : Nat) : Value := .agg #[.int .u64 (u0 : Nat), .int .u64 (u1 : Nat), .int .u64 (v0 : Nat), .int .u64 (v1 : Nat), .bool o]

theorem top_digit {xs : List Nat} {n : Nat} (ox : Ok xs) (hl : xs.length ≤ n) (hn : 1 ≤ n) : xs.getD (n - 1) 0 = val xs / 4294967296 ^ (n - 1) := by
  rw [← val_drop ox, val_drop_step]
  have : val (xs.drop (n - 1 + 1)) = 0 := by rw [List.drop_eq_nil_of_le (by omega)]; rfl
  omega

theorem len_le_of_val {xs ys : List Nat} (ox : Ok xs) (oy : Ok ys) (ny : Norm ys) (h : val ys ≤ val xs) : ys.length ≤ xs.length := by
  rcases Nat.lt_or_ge xs.length ys.length with k | k
  · have := len_lt_val ox ny k; omega
  · exact k

theorem tops {xs ys : List Nat} {n : Nat} (ox : Ok xs) (oy : Ok ys) (nx : Norm xs) (ny : Norm ys) (hl : xs.length = n) (hn : 3 ≤ n) (h : val ys ≤ val xs) {s : Nat} (hs : Lib.bitLen (xs.getD (n - 1) 0) + s = 32) (hb : 1 ≤ Lib.bitLen (xs.getD (n - 1) 0)) :
    s ≤ 31 ∧ xs.getD (n - 1) 0 * 2 ^ s < 4294967296 ∧ ys.getD (n - 1) 0 * 2 ^ s < 4294967296 ∧ ∃ K α β, val xs = K * topN xs n s + α ∧ val ys = K * topN ys n s + β ∧ α < K ∧ β < K ∧ topN ys n s ≤ topN xs n s := by
  have hyl : ys.length ≤ n := by have := len_le_of_val ox oy ny h; omega
  have bx := ox.getD (n - 1)
  have h1 := bl_lt (xs.getD (n - 1) 0) _ (Nat.le_refl _) (by omega)
  have hd : ys.getD (n - 1) 0 ≤ xs.getD (n - 1) 0 := by
    rw [top_digit ox (by omega) (by omega), top_digit oy hyl (by omega)]
    exact Nat.div_le_div_right h
  have hp : 2 ^ Lib.bitLen (xs.getD (n - 1) 0) * 2 ^ s = 4294967296 := by rw [← Nat.pow_add, hs]
  have hS : 0 < 2 ^ s := Nat.two_pow_pos _
  have t1 : xs.getD (n - 1) 0 * 2 ^ s < 4294967296 := by rw [← hp]; exact Nat.mul_lt_mul_of_pos_right h1 hS
  have t2 : ys.getD (n - 1) 0 * 2 ^ s < 4294967296 := Nat.lt_of_le_of_lt (Nat.mul_le_mul_right _ hd) t1
  obtain ⟨α, ea, la⟩ := top_val (s := s) ox (Nat.le_of_eq hl) hn (by omega)
  obtain ⟨β, eb, lb⟩ := top_val (s := s) oy hyl hn (by omega)
  refine ⟨by omega, t1, t2, _, α, β, ea, eb, la, lb, ?_⟩
  generalize 2 ^ (32 * (n - 3) + (32 - s)) = K at *
  rcases Nat.lt_or_ge (topN xs n s) (topN ys n s) with k | k
  · exfalso
    have : K * (topN xs n s + 1) ≤ K * topN ys n s := Nat.mul_le_mul_left K k
    rw [Nat.mul_add, Nat.mul_one] at this
    omega
  · exact k

def St5 (w : World) (b : Nat) (f : Nat → Value) : Prop := ∀ i, i < 5 → w.cell? ⟨b, i, none⟩ = some (f i) ∧ w.frozen? ⟨b, i, none⟩ = false
theorem St5.set {w : World} {b : Nat} {f : Nat → Value} (h : St5 w b f) (k : Nat) (v : Value) (hk : k < 5) : St5 (w.setCell ⟨b, k, none⟩ v) b (fun i => if i = k then v else f i) := by
  intro i hi
  have hw := (h k hk).1
  refine ⟨?_, by rw [World.frozen?_setCell]; exact (h i hi).2⟩
  by_cases e : i = k
  · subst e
    simp only [if_true]
    rw [World.cell?_setCell_same _ _ _ hw]
  · simp only [e, if_false]
    rw [World.cell?_setCell_other _ _ _ _ (by intro hh; injection hh with h1 h2; omega)]
    exact (h i hi).1
theorem St5.other {w : World} {b : Nat} {f : Nat → Value} (h : St5 w b f) (b' k : Nat) (v : Value) (hb : b ≠ b') : St5 (w.setCell ⟨b', k, none⟩ v) b f := by
  intro i hi
  refine ⟨?_, by rw [World.frozen?_setCell]; exact (h i hi).2⟩
  rw [World.cell?_setCell_other _ _ _ _ (by intro hh; injection hh with h1 h2; omega)]
  exact (h i hi).1
theorem St5.congr {w : World} {b : Nat} {f g : Nat → Value} (h : St5 w b f) (e : ∀ i, i < 5 → f i = g i) : St5 w b g := fun i hi => ⟨by rw [← e i hi]; exact (h i hi).1, (h i hi).2⟩
theorem alloc_frozen (w : World) (cs : Array Value) (e : TypeId) (i : Nat) : (w.alloc (.cells cs e)).frozen? ⟨w.heap.size, i, none⟩ = false := by
  have h := alloc_block w (.cells cs e)
  unfold World.frozen?
  simp only
  rw [h]
  simp
theorem St5.made (w : World) (a b c d e : Value) (t : TypeId) : St5 (w.alloc (.cells #[a, b, c, d, e] t)) w.heap.size (fun i => match i with | 0 => a | 1 => b | 2 => c | 3 => d | _ => e) := fun i hi => by
  refine ⟨?_, alloc_frozen _ _ _ _⟩
  match i, hi with
  | 0, _ | 1, _ | 2, _ | 3, _ | 4, _ => simp
theorem St5.below {w w' : World} {b : Nat} {f : Nat → Value} (h : St5 w b f) (k : Below w.heap.size w w') : St5 w' b f := by
  intro i hi
  have hl := World.block_lt_of_cell? _ _ (h i hi).1
  exact ⟨(k.cell hl).trans (h i hi).1, (k.frozen hl).trans (h i hi).2⟩
theorem St5.drewN {w : World} {b : Nat} {f : Nat → Value} (h : St5 w b f) (k : Nat) : St5 (w.drewN k) b f := h.below (bel_drewN (Below.refl _ _) k)
def stv (o : Bool) (u0 u1 v0 v1 : Nat) (i : Nat) : Value := match i with
  | 0 => .int .u64 (u0 : Nat)
  | 1 => .int .u64 (u1 : Nat)
  | 2 => .int .u64 (v0 : Nat)
  | 3 => .int .u64 (v1 : Nat)
  | _ => .bool o

def FsPost (w : World) (A B : Nat) (e : Ending) (w' : World) : Prop := ∃ o u0 u1 v0 v1, Steps A B o u0 u1 v0 v1 ∧ e = .returned (stepsV o u0 u1 v0 v1) ∧ Below w.heap.size w w'

set_option maxHeartbeats 8000000 in
theorem foresee_any (b1 o1 n1 c1 : Nat) (a2 : Option Addr) (n2 c2 : Nat) (xs ys : List Nat) (w : World) (h1 : Sl w (some ⟨b1, o1, none⟩) n1 c1 xs) (h2 : Sl w a2 n2 c2 ys) (ox : Ok xs) (oy : Ok ys) (nx : Norm xs) (ny : Norm ys) (hn : 3 ≤ n1) (hn2 : n1 ≤ 1000000) (hle : val ys ≤ val xs) :
    Calls Tryd.prog 77 #[.slice (some ⟨b1, o1, none⟩) n1 c1, .slice a2 n2 c2] w fun e w' => FsPost w (val xs) (val ys) e w' := by
  have hl1 := h1.len
  have hx0 : xs ≠ [] := by intro e; subst e; simp at hl1; omega
  have ht : xs.getD (n1 - 1) 0 ≠ 0 := by rw [← hl1]; exact nx.resolve_left hx0
  have bt := ox.getD (n1 - 1)
  have ct : w.cell? ⟨b1, o1 + (n1 - 1), none⟩ = some (.int .u32 (xs.getD (n1 - 1) 0 : Nat)) := by
    rcases h1.cells with e | ⟨b, o, e, hc⟩
    · exact absurd e hx0
    · cases e; exact hc _ (by omega)
  have bl1 := bl_pos _ ht (by omega)
  have bl2 : Lib.bitLen (xs.getD (n1 - 1) 0) ≤ 32 := Lib.bitLen_le _ 32 (by omega) (by omega)
  obtain ⟨s, hs⟩ : ∃ s, Lib.bitLen (xs.getD (n1 - 1) 0) + s = 32 := ⟨32 - Lib.bitLen (xs.getD (n1 - 1) 0), by omega⟩
  have KZ := fun v => lz32_any (xs.getD (n1 - 1) 0) v bt
  rw [show (32 : Int) - (Lib.bitLen (xs.getD (n1 - 1) 0) : Int) = (s : Int) from by omega] at KZ
  obtain ⟨hs31, tx, ty, K, α, β, eA, eB, lα, lβ, hYX⟩ := tops ox oy nx ny hl1 hn hle hs bl1
  have hX := (top_lt ox hs31 tx).1
  have KZ' := hide KZ
  have KX := hide (fun v (hv : Below w.heap.size w v) => topWord_any _ n1 c1 xs n1 s v (h1.below hv) ox hn hn2 hs31 tx)
  have KY := hide (fun v (hv : Below w.heap.size w v) => topWord_any a2 n2 c2 ys n1 s v (h2.below hv) oy hn hn2 hs31 ty)
  have ct0 : ∀ o, (w.alloc o).cell? ⟨b1, o1 + (n1 - 1), none⟩ = some (.int .u32 (xs.getD (n1 - 1) 0 : Nat)) := fun o => by
    rw [((Below.refl w.heap.size w).alloc (Nat.le_refl _) o).cell (World.block_lt_of_cell? _ _ ct)]
    exact ct
  have HF := hide (And.intro eA (And.intro eB (And.intro lα (And.intro lβ (And.intro hX hle)))))
  have HL := hide (Leh.start (A := val xs) (B := val ys) hYX)
  have hY : topN ys n1 s < 18446744073709551616 := by omega
  have j1 : ((n1:Int) - 1).toNat = n1 - 1 := by omega
  generalize xs.getD (n1 - 1) 0 = t at *
  generalize hXd : topN xs n1 s = X at *
  generalize hYd : topN ys n1 s = Y at *
  clear KZ h1 h2 hs bl1 bl2 bt ht hl1 tx ty eA eB hXd hYd
  go_enter Tryd.func77, Tryd.ntmps77
  go_wp2_with fail
  refine (unhide KZ' _).mono ?_
  rintro e w' ⟨rfl, hw⟩
  obtain rfl := hw.symm
  clear hw
  go_wp2_with fail
  have hB0 := (Below.refl w.heap.size w).alloc (Nat.le_refl _) (.cells #[.int .u64 0, .int .u64 0, .int .u64 0, .int .u64 0, .bool false] 136)
  refine (unhide KX _ hB0).mono ?_
  rintro e w1 ⟨rfl, k1, hw1⟩
  have hB1 : Below w.heap.size w w1 := by rw [hw1]; exact bel_drewN hB0 k1
  have HB1 := hide hB1
  have HC1 := hide (show St5 w1 w.heap.size (stv false 0 0 0 0) from by rw [hw1]; exact St5.drewN (St5.made w (.int .u64 0) (.int .u64 0) (.int .u64 0) (.int .u64 0) (.bool false) 136) k1)
  clear hw1 hB0 hB1 KX
  go_wp2_with fail
  refine (unhide KY _ (unhide HB1)).mono ?_
  rintro e w2 ⟨rfl, k2, hw2⟩
  have HB2 := hide (show Below w.heap.size w w2 from by rw [hw2]; exact bel_drewN (unhide HB1) k2)
  have HC2 := hide (show St5 w2 w.heap.size (stv false 0 0 0 0) from by rw [hw2]; exact (unhide HC1).drewN k2)
  have hz2 : w.heap.size < w2.heap.size := World.block_lt_of_cell? _ _ (unhide HC2 0 (by decide)).1
  clear KY hw2 HB1 HC1
  go_wp2_with fail
  have HS0 := hide (show St5 (w2.alloc (.cells #[.int .u64 0, .int .u64 1, .int .u64 0, .int .u64 0, .bool true] 136)) w2.heap.size (stv true 0 1 0 0) from St5.made _ _ _ _ _ _ _)
  have HT0 := hide ((unhide HC2).below ((Below.refl w2.heap.size w2).alloc (Nat.le_refl _) (.cells #[.int .u64 0, .int .u64 1, .int .u64 0, .int .u64 0, .bool true] 136)))
  have HB3 := hide ((unhide HB2).trans (((Below.refl w2.heap.size w2).alloc (Nat.le_refl _) (.cells #[.int .u64 0, .int .u64 1, .int .u64 0, .int .u64 0, .bool true] 136)).mono (unhide HB2).size))
  generalize hbs : w2.heap.size = bs at *
  clear HB2 HC2 hbs
  go_loopw [7, 8, 10, 11] (fun xv yv uv vv wr => ∃ (o : Bool) (u0 u1 u2 v0 v1 v2 x y : Nat), xv = .int .u64 (x : Nat) ∧ yv = .int .u64 (y : Nat) ∧ uv = .int .u64 (u2 : Nat) ∧ vv = .int .u64 (v2 : Nat) ∧ Leh (val xs) (val ys) X Y o u0 u1 u2 v0 v1 v2 x y ∧ St5 wr bs (stv o u0 u1 v0 v1) ∧ St5 wr w.heap.size (stv false 0 0 0 0) ∧ Below w.heap.size w wr) (fun _ yv _ _ _ => (intOf yv).toNat)
  case atStart => exact ⟨true, 0, 1, 0, 0, 0, 1, X, Y, rfl, rfl, rfl, rfl, unhide HL, unhide HS0, unhide HT0, unhide HB3⟩
  case round =>
    clear HL HS0 HT0 HB3
    obtain ⟨o, u0, u1, u2, v0, v1, v2, x, y, rfl, rfl, rfl, rfl, hL, hS, hT, hB⟩ := hrel
    have g0 := (hS 0 (by decide)).1
    have g1 := (hS 1 (by decide)).1
    have g2 := (hS 2 (by decide)).1
    have g3 := (hS 3 (by decide)).1
    have g4 := (hS 4 (by decide)).1
    have f0 := (hS 0 (by decide)).2
    have f1 := (hS 1 (by decide)).2
    have f2 := (hS 2 (by decide)).2
    have f3 := (hS 3 (by decide)).2
    have f4 := (hS 4 (by decide)).2
    simp only [stv] at g0 g1 g2 g3 g4
    by_cases c1 : v2 ≤ y
    · have c1' : (v2:Int) ≤ (y:Int) := by omega
      have hyx := hL.yx
      have hp := hL.pos
      have hxX : x * v2 ≤ X := by have := hL.idn; omega
      have hxb : x ≤ X := Nat.le_trans (Nat.le_mul_of_pos_right x hp) hxX
      have hv2 : v2 < 4294967296 := by
        rcases Nat.lt_or_ge v2 4294967296 with h | h
        · exact h
        · exfalso
          have : 4294967296 * 4294967296 ≤ x * v2 := Nat.mul_le_mul (by omega) h
          omega
      have hv1 := hL.bv1
      have ed : (x:Int) - (y:Int) = ((x - y : Nat) : Int) := by omega
      by_cases c2 : v1 + v2 ≤ x - y
      · have c2' : (v1:Int) + (v2:Int) ≤ ((x - y : Nat) : Int) := by omega
        have hF := unhide HF
        have hLs := hL.step hF.1 hF.2.1 hF.2.2.1 hF.2.2.2.1 hF.2.2.2.2.1 hF.2.2.2.2.2 c1 c2
        have hy1 : 1 ≤ y := by omega
        have hqy : x / y * y ≤ x := Nat.div_mul_le_self x y
        have hm : x - x / y * y < y := by
          have h1 := Nat.div_add_mod x y
          have h2 := Nat.mod_lt x hy1
          rw [Nat.mul_comm] at h1
          omega
        have n2 : v1 + x / y * v2 ≤ X := by
          have h1 := hLs.idn
          have h2 : 1 * (v1 + x / y * v2) ≤ y * (v1 + x / y * v2) := Nat.mul_le_mul_right _ hy1
          omega
        have n1 : u1 + x / y * u2 ≤ v1 + x / y * v2 := hLs.le2
        have eq1 : (x:Int).tdiv (y:Int) = ((x / y : Nat) : Int) := by rw [Int.tdiv_eq_ediv_of_nonneg (by omega), Int.natCast_ediv]
        have eq2 : (x:Int) / (y:Int) = ((x / y : Nat) : Int) := by rw [Int.natCast_ediv]
        have hqb : x / y ≤ x := Nat.div_le_self _ _
        have hu1 := hL.bu1
        have HLs := hide hLs
        generalize x / y = q at *
        have ep1 : (q:Int) * (y:Int) = ((q * y : Nat) : Int) := by rw [Int.natCast_mul]
        have ep2 : (q:Int) * (u2:Int) = ((q * u2 : Nat) : Int) := by rw [Int.natCast_mul]
        have ep3 : (q:Int) * (v2:Int) = ((q * v2 : Nat) : Int) := by rw [Int.natCast_mul]
        generalize hqyE : q * y = qy at *
        generalize hquE : q * u2 = qu at *
        generalize hqvE : q * v2 = qv at *
        have t0 : ¬ (y:Int) = 0 := by omega
        have HSt := hide (show St5 (((((wr.setCell ⟨bs, 0, none⟩ (.int .u64 (u1 : Nat))).setCell ⟨bs, 1, none⟩ (.int .u64 (u2 : Nat))).setCell ⟨bs, 2, none⟩ (.int .u64 (v1 : Nat))).setCell ⟨bs, 3, none⟩ (.int .u64 (v2 : Nat))).setCell ⟨bs, 4, none⟩ (.bool (!o))) bs (stv (!o) u1 u2 v1 v2) from
          (((((hS.set 0 _ (by decide)).set 1 _ (by decide)).set 2 _ (by decide)).set 3 _ (by decide)).set 4 _ (by decide)).congr (fun i hi => by
            match i, hi with
            | 0, _ | 1, _ | 2, _ | 3, _ | 4, _ => rfl))
        have hne : w.heap.size ≠ bs := by omega
        have HTt := hide (show St5 (((((wr.setCell ⟨bs, 0, none⟩ (.int .u64 (u1 : Nat))).setCell ⟨bs, 1, none⟩ (.int .u64 (u2 : Nat))).setCell ⟨bs, 2, none⟩ (.int .u64 (v1 : Nat))).setCell ⟨bs, 3, none⟩ (.int .u64 (v2 : Nat))).setCell ⟨bs, 4, none⟩ (.bool (!o))) w.heap.size (stv false 0 0 0 0) from
          ((((hT.other bs 0 _ hne).other bs 1 _ hne).other bs 2 _ hne).other bs 3 _ hne).other bs 4 _ hne)
        have hU := (((((Upd.refl bs 0 5 wr).set 0 (.int .u64 (u1 : Nat)) (by omega) (by omega)).set 1 (.int .u64 (u2 : Nat)) (by omega) (by omega)).set 2 (.int .u64 (v1 : Nat)) (by omega) (by omega)).set 3 (.int .u64 (v2 : Nat)) (by omega) (by omega)).set 4 (.bool (!o)) (by omega) (by omega)
        have HBt := hide (hB.trans (hU.below (by omega) hB.size))
        have HM := hide hm
        clear hL hLs hS hT hB hU hF hm hqyE hquE hqvE
        go_wp2_with fail
        have hm2 := unhide HM
        exact ⟨⟨!o, u1, u2, u1 + qu, v1, v2, v1 + qv, y, x - qy, rfl, by congr 1; omega, by congr 1, by congr 1, unhide HLs, unhide HSt, unhide HTt, unhide HBt⟩, by simp only [intOf]; omega⟩
      · have c2' : ¬ (v1:Int) + (v2:Int) ≤ ((x - y : Nat) : Int) := by omega
        have k0 := (hT 0 (by decide)).1
        have k1 := (hT 1 (by decide)).1
        have k2 := (hT 2 (by decide)).1
        have k3 := (hT 3 (by decide)).1
        have k4 := (hT 4 (by decide)).1
        have m0 := (hT 0 (by decide)).2
        have m1 := (hT 1 (by decide)).2
        have m2 := (hT 2 (by decide)).2
        have m3 := (hT 3 (by decide)).2
        have m4 := (hT 4 (by decide)).2
        simp only [stv] at k0 k1 k2 k3 k4
        have HLs := hide hL.steps
        have hU := (((((Upd.refl w.heap.size 0 5 wr).set 0 (.int .u64 (u0 : Nat)) (by omega) (by omega)).set 1 (.int .u64 (u1 : Nat)) (by omega) (by omega)).set 2 (.int .u64 (v0 : Nat)) (by omega) (by omega)).set 3 (.int .u64 (v1 : Nat)) (by omega) (by omega)).set 4 (.bool o) (by omega) (by omega)
        have HBt := hide (hB.trans (hU.below (Nat.le_refl _) hB.size))
        have HSt := hide (show St5 (((((wr.setCell ⟨w.heap.size, 0, none⟩ (.int .u64 (u0 : Nat))).setCell ⟨w.heap.size, 1, none⟩ (.int .u64 (u1 : Nat))).setCell ⟨w.heap.size, 2, none⟩ (.int .u64 (v0 : Nat))).setCell ⟨w.heap.size, 3, none⟩ (.int .u64 (v1 : Nat))).setCell ⟨w.heap.size, 4, none⟩ (.bool o)) w.heap.size (stv o u0 u1 v0 v1) from
          (((((hT.set 0 _ (by decide)).set 1 _ (by decide)).set 2 _ (by decide)).set 3 _ (by decide)).set 4 _ (by decide)).congr (fun i hi => by
            match i, hi with
            | 0, _ | 1, _ | 2, _ | 3, _ | 4, _ => rfl))
        clear hL hS hT hB hU
        go_wp2_with fail
        generalize (((((wr.setCell ⟨w.heap.size, 0, none⟩ (.int .u64 (u0 : Nat))).setCell ⟨w.heap.size, 1, none⟩ (.int .u64 (u1 : Nat))).setCell ⟨w.heap.size, 2, none⟩ (.int .u64 (v0 : Nat))).setCell ⟨w.heap.size, 3, none⟩ (.int .u64 (v1 : Nat))).setCell ⟨w.heap.size, 4, none⟩ (.bool o)) = wf at HSt HBt ⊢
        have p0 := (unhide HSt 0 (by decide)).1
        have p1 := (unhide HSt 1 (by decide)).1
        have p2 := (unhide HSt 2 (by decide)).1
        have p3 := (unhide HSt 3 (by decide)).1
        have p4 := (unhide HSt 4 (by decide)).1
        simp only [stv] at p0 p1 p2 p3 p4
        try simp only [Exit.inBlock, Exit.then]
        refine bodyPost_ret (by simp [results, Tryd.results77, go_sem, p0, p1, p2, p3, p4]; try rfl) rfl ?_
        exact ⟨o, u0, u1, v0, v1, unhide HLs, rfl, unhide HBt⟩
    · have c1' : ¬ (v2:Int) ≤ (y:Int) := by omega
      have k0 := (hT 0 (by decide)).1
      have k1 := (hT 1 (by decide)).1
      have k2 := (hT 2 (by decide)).1
      have k3 := (hT 3 (by decide)).1
      have k4 := (hT 4 (by decide)).1
      have m0 := (hT 0 (by decide)).2
      have m1 := (hT 1 (by decide)).2
      have m2 := (hT 2 (by decide)).2
      have m3 := (hT 3 (by decide)).2
      have m4 := (hT 4 (by decide)).2
      simp only [stv] at k0 k1 k2 k3 k4
      have HLs := hide hL.steps
      have hU := (((((Upd.refl w.heap.size 0 5 wr).set 0 (.int .u64 (u0 : Nat)) (by omega) (by omega)).set 1 (.int .u64 (u1 : Nat)) (by omega) (by omega)).set 2 (.int .u64 (v0 : Nat)) (by omega) (by omega)).set 3 (.int .u64 (v1 : Nat)) (by omega) (by omega)).set 4 (.bool o) (by omega) (by omega)
      have HBt := hide (hB.trans (hU.below (Nat.le_refl _) hB.size))
      have HSt := hide (show St5 (((((wr.setCell ⟨w.heap.size, 0, none⟩ (.int .u64 (u0 : Nat))).setCell ⟨w.heap.size, 1, none⟩ (.int .u64 (u1 : Nat))).setCell ⟨w.heap.size, 2, none⟩ (.int .u64 (v0 : Nat))).setCell ⟨w.heap.size, 3, none⟩ (.int .u64 (v1 : Nat))).setCell ⟨w.heap.size, 4, none⟩ (.bool o)) w.heap.size (stv o u0 u1 v0 v1) from
        (((((hT.set 0 _ (by decide)).set 1 _ (by decide)).set 2 _ (by decide)).set 3 _ (by decide)).set 4 _ (by decide)).congr (fun i hi => by
          match i, hi with
          | 0, _ | 1, _ | 2, _ | 3, _ | 4, _ => rfl))
      clear hL hS hT hB hU
      go_wp2_with fail
      generalize (((((wr.setCell ⟨w.heap.size, 0, none⟩ (.int .u64 (u0 : Nat))).setCell ⟨w.heap.size, 1, none⟩ (.int .u64 (u1 : Nat))).setCell ⟨w.heap.size, 2, none⟩ (.int .u64 (v0 : Nat))).setCell ⟨w.heap.size, 3, none⟩ (.int .u64 (v1 : Nat))).setCell ⟨w.heap.size, 4, none⟩ (.bool o)) = wf at HSt HBt ⊢
      have p0 := (unhide HSt 0 (by decide)).1
      have p1 := (unhide HSt 1 (by decide)).1
      have p2 := (unhide HSt 2 (by decide)).1
      have p3 := (unhide HSt 3 (by decide)).1
      have p4 := (unhide HSt 4 (by decide)).1
      simp only [stv] at p0 p1 p2 p3 p4
      try simp only [Exit.inBlock, Exit.then]
      refine bodyPost_ret (by simp [results, Tryd.results77, go_sem, p0, p1, p2, p3, p4]; try rfl) rfl ?_
      exact ⟨o, u0, u1, v0, v1, unhide HLs, rfl, unhide HBt⟩
end Go.Proofs.YtiadccaaoenccaaDoor
