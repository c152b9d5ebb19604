/- Pr3 -/
import Derived.Test.YtiadccaaoenccaaDoorDv2
import Derived.Test.YtiadccaaoenccaaDoorNMul
import Derived.Test.YtiadccaaoenccaaDoorCmp
import Derived.Test.YtiadccaaoenccaaDoorBy7
import Derived.Deep.LoopGhost
import Derived.Test.YtiadccaaoenccaaDoorShl
import Derived.Test.YtiadccaaoenccaaDoorGiv
namespace Go.Proofs.YtiadccaaoenccaaDoor
open Go.RowKit Go.Deep
set_option linter.unusedVariables false
def dgt (V b i : Nat) : Nat := V / b ^ i % b
def chrN (d : Nat) : Nat := if d < 10 then 48 + d else 87 + d
structure TxtOf (V b n : Nat) : Prop where
  pos : 1 ≤ n
  lt : V < b ^ n
  ge : n = 1 ∨ b ^ (n - 1) ≤ V

theorem TxtOf.le {V b n m : Nat} (hb : 2 ≤ b) (h : TxtOf V b n) (g : TxtOf V b m) : n ≤ m := by
  rcases h.ge with e | e
  · have := g.pos; omega
  · rcases Nat.lt_or_ge m n with k | k
    · exfalso
      have h1 : b ^ m ≤ b ^ (n - 1) := Nat.pow_le_pow_right (by omega) (by omega)
      have := g.lt
      omega
    · exact k
structure QbR (wr w : World) (n : Nat) (xs : List Nat) (d k r : Nat) (g : Nat → Nat) : Prop where
  fn : Fn wr w.heap.size 0 n g
  ok : ∀ i, i < n → g i < 4294967296
  rlt : r < d
  val : valF (fun i => xs.getD (k + i) 0) (n - k) = valF (fun i => g (k + i)) (n - k) * d + r
  bel : Below w.heap.size w wr

theorem QbR.step {wr w : World} {n : Nat} {xs : List Nat} {d k r x : Nat} {g : Nat → Nat} (h : QbR wr w n xs d (k + 1) r g) (hk : k < n) (hx : xs.getD k 0 = x) (hx2 : x < 4294967296) :
    QbR (wr.setCell ⟨w.heap.size, k, none⟩ (.int .u32 (dv x r / d : Nat))) w n xs d k (dv x r % d) (fun i => if i = k then dv x r / d else g i) := by
  have hq := dv_div_lt hx2 h.rlt
  have hs := h.fn.set k (dv x r / d) hk
  rw [Nat.zero_add] at hs
  refine ⟨hs, ?_, Nat.mod_lt _ (by have := h.rlt; omega), ?_, h.bel.setCell (Nat.le_refl _) _⟩
  · intro i hi
    by_cases e : i = k
    · simp only [e, if_true]; exact hq
    · simp only [e, if_false]; exact h.ok i hi
  · rw [valF_head (fun i => xs.getD i 0) k n hk, valF_head (fun i => if i = k then dv x r / d else g i) k n hk]
    simp only [if_true]
    have e0 : valF (fun i => if k + 1 + i = k then dv x r / d else g (k + 1 + i)) (n - (k + 1)) = valF (fun i => g (k + 1 + i)) (n - (k + 1)) := valF_congr (fun i _ => by rw [if_neg (by omega)])
    rw [e0, hx]
    refine dl_arith h.val ?_
    have := Nat.div_add_mod (dv x r) d
    unfold dv at *
    omega

open Go.RowKit Go.Deep
set_option linter.unusedVariables false

theorem ownsRow_below {w w' : World} {base : Nat} {e : TypeId} {size : Nat} {v : Value} {n : Nat} {xs : List Value} (h : w.ownsRow base e size v n xs) (k : Below w.heap.size w w') : w'.ownsRow base e size v n xs := by
  refine ⟨h.1, ?_⟩
  rcases h.2 with e0 | ⟨g, cap, cur, e0, hb, h5, h6, h7, h8, h9⟩
  · exact .inl e0
  · exact .inr ⟨g, cap, cur, e0, hb, by rw [k.block g (by
      rcases Nat.lt_or_ge g w.heap.size with hlt | hge
      · exact hlt
      · simp [Array.getElem?_eq_none hge] at h5)]; exact h5, h6, h7, h8, h9⟩

structure QpR (wr w : World) (V b : Nat) (v : Value) (k Q : Nat) (a : Option Addr) (m : Nat) : Prop where
  own : wr.ownsRow w.heap.size 5 1 v k (valsB (lst (fun p => chrN (dgt V b p)) k))
  sl : Sl wr a m m (limbs Q)
  q : Q = V / b ^ k
  top : k = 0 ∨ 0 < V / b ^ (k - 1)
  bel : Below w.heap.size w wr

theorem QpR.done {wr w : World} {V b : Nat} {v : Value} {k : Nat} {a : Option Addr} {m : Nat} (h : QpR wr w V b v k 0 a m) (hV : 0 < V) (hb : 2 ≤ b) : TxtOf V b k := by
  have hp : 0 < b ^ k := Nat.pow_pos (by omega)
  have h1 : V < b ^ k := by
    rcases Nat.lt_or_ge V (b ^ k) with e | e
    · exact e
    · have := Nat.div_pos e hp
      have := h.q
      omega
  rcases h.top with e | e
  · subst e; simp at h1; omega
  · have h2 : b ^ (k - 1) ≤ V := by
      rcases Nat.lt_or_ge V (b ^ (k - 1)) with g | g
      · rw [Nat.div_eq_of_lt g] at e; omega
      · exact g
    refine ⟨?_, h1, .inr h2⟩
    rcases Nat.eq_zero_or_pos k with g | g
    · subst g; simp at h1; omega
    · exact g

theorem QpR.len {wr w : World} {V b : Nat} {v : Value} {k Q : Nat} {a : Option Addr} {m n : Nat} (h : QpR wr w V b v k Q a m) (hb : 2 ≤ b) (hV : V < 2 ^ (32 * n)) : k ≤ 32 * n := by
  rcases h.top with e | e
  · omega
  · rcases Nat.eq_zero_or_pos k with g | g
    · omega
    have h2 : b ^ (k - 1) ≤ V := by
      rcases Nat.lt_or_ge V (b ^ (k - 1)) with g | g
      · rw [Nat.div_eq_of_lt g] at e; omega
      · exact g
    have h3 : 2 ^ (k - 1) ≤ b ^ (k - 1) := Nat.pow_le_pow_left hb _
    have h4 : 2 ^ (k - 1) < 2 ^ (32 * n) := by omega
    have := (Nat.pow_lt_pow_iff_right (by decide : 1 < 2)).1 h4
    omega

theorem QpR.step {wr w w1 : World} {V b : Nat} {v v' : Value} {k Q : Nat} {a a' : Option Addr} {m m' : Nat} {o : Obj} (h : QpR wr w V b v k Q a m) (hQ : 0 < Q) (hs : Sl wr a' m' m' (limbs (Q / b)))
    (hown : w1.ownsRow w.heap.size 5 1 v' (k + 1) (valsB (lst (fun p => chrN (dgt V b p)) k) ++ [.int .u8 (chrN (Q % b) : Nat)])) (hg : (wr.alloc o).grownBy w1 v.ownBlock) (hne : ∀ x, a' = some x → v.ownBlock ≠ some x.block) : QpR w1 w V b v' (k + 1) (Q / b) a' m' := by
  have hz := h.bel.size
  have hq := h.q
  refine ⟨?_, ?_, ?_, .inr ?_, Below.grown (h.bel.alloc (by omega) o) hg (by simp; omega) (fun k hk => (own_ge h.own k hk).1)⟩
  · have e : valsB (lst (fun p => chrN (dgt V b p)) k) ++ [.int .u8 (chrN (Q % b) : Nat)] = valsB (lst (fun p => chrN (dgt V b p)) (k + 1)) := by
      unfold valsB
      simp only [lst, List.range_succ, List.map_append, List.map_cons, List.map_nil]
      rw [hq]
      rfl
    rw [e] at hown
    exact hown
  · have hs1 : Sl (wr.alloc o) a' m' m' (limbs (Q / b)) := hs.below ((Below.refl _ _).alloc (Nat.le_refl _) o)
    exact hs1.chg (S := fun k => v.ownBlock = some k) (Chg.of_grown hg (fun k hk => hk)) (fun x hx _ => hne x hx)
  · rw [hq, Nat.div_div_eq_div_mul, ← Nat.pow_succ]
  · rw [Nat.add_sub_cancel, ← hq]; exact hQ

open Go.RowKit Go.Deep
set_option linter.unusedVariables false
end Go.Proofs.YtiadccaaoenccaaDoor
namespace Go.Proofs.YtiadccaaoenccaaDoor
open Go.RowKit Go.Deep
set_option linter.unusedVariables false
open Go.RowKit Go.Deep
set_option linter.unusedVariables false
structure Chunk (b c : Nat) : Prop where
  pos : 1 ≤ c
  le : c ≤ 31
  lt : b ^ c < 4294967296
  ge : 4294967296 ≤ b ^ c * b
end Go.Proofs.YtiadccaaoenccaaDoor
namespace Go.Proofs.YtiadccaaoenccaaDoor
open Go.RowKit Go.Deep
set_option linter.unusedVariables false
structure St4 (w : World) (S b cnt wt : Nat) (pv : Value) : Prop where
  c0 : w.cell? ⟨S, 0, none⟩ = some (.int .i64 (b : Nat))
  c1 : w.cell? ⟨S, 1, none⟩ = some (.int .i64 (cnt : Nat))
  c2 : w.cell? ⟨S, 2, none⟩ = some (.int .u32 (wt : Nat))
  c3 : w.cell? ⟨S, 3, none⟩ = some pv

theorem St4.keep {w w' : World} {S b cnt wt : Nat} {pv : Value} (h : St4 w S b cnt wt pv) (k : ∀ i, w'.cell? ⟨S, i, none⟩ = w.cell? ⟨S, i, none⟩) : St4 w' S b cnt wt pv :=
  ⟨(k 0).trans h.c0, (k 1).trans h.c1, (k 2).trans h.c2, (k 3).trans h.c3⟩
theorem St4.lt {w : World} {S b cnt wt : Nat} {pv : Value} (h : St4 w S b cnt wt pv) : S < w.heap.size := World.block_lt_of_cell? _ _ h.c0
theorem St4.upd {w w' : World} {S b cnt wt X lo hi : Nat} {pv : Value} (h : St4 w S b cnt wt pv) (u : Upd X lo hi w w') (hX : S ≠ X) : St4 w' S b cnt wt pv :=
  h.keep fun i => by unfold World.cell?; simp only; rw [u.block S h.lt hX]
theorem St4.made (w : World) (b cnt wt : Nat) (pv : Value) (t : TypeId) : St4 (w.alloc (.cells #[.int .i64 (b : Nat), .int .i64 (cnt : Nat), .int .u32 (wt : Nat), pv] t)) w.heap.size b cnt wt pv :=
  ⟨by simp, by simp, by simp, by simp⟩

def NumW (w : World) (a : Option Addr) (m bn on v : Nat) : Prop :=
  (a = none ∧ m = 0 ∧ v = 0) ∨ ∃ f : Nat → Nat, a = some ⟨bn, on, none⟩ ∧ Fn w bn on m f ∧ (∀ i, i < m → f i < 4294967296) ∧ valF f m = v

theorem Upd.far {T lo hi X l h : Nat} {w0 w w' : World} (u : Upd T lo hi w0 w) (v : Upd X l h w w') (hX : w0.heap.size ≤ X) (hT : T < w0.heap.size) : Upd T lo hi w0 w' := by
  refine ⟨v.os.trans u.os, v.tape.trans u.tape, v.output.trans u.output, Nat.le_trans u.size v.size, ?_, ?_, ?_⟩
  · intro k hk hne
    rw [v.block k (Nat.lt_of_lt_of_le hk u.size) (by omega), u.block k hk hne]
  · intro i hi
    have : w'.cell? ⟨T, i, none⟩ = w.cell? ⟨T, i, none⟩ := by
      unfold World.cell?; simp only; rw [v.block T (Nat.lt_of_lt_of_le hT u.size) (by omega)]
    rw [this, u.cell i hi]
  · intro i
    have : w'.frozen? ⟨T, i, none⟩ = w.frozen? ⟨T, i, none⟩ := by
      unfold World.frozen?; simp only; rw [v.block T (Nat.lt_of_lt_of_le hT u.size) (by omega)]
    rw [this, u.froz i]
theorem FnB.upd {w w' : World} {b off n X lo up : Nat} {f : Nat → Nat} (h : FnB w b off n f) (u : Upd X lo up w w') (hX : b ≠ X ∨ off + n ≤ lo ∨ up ≤ off) : FnB w' b off n f := by
  intro i hi
  obtain ⟨h1, h2⟩ := h i hi
  have hb := World.block_lt_of_cell? _ _ h1
  by_cases e : b = X
  · subst e
    have hX' : off + n ≤ lo ∨ up ≤ off := hX.resolve_left (fun h => h rfl)
    exact ⟨by rw [u.cell _ (by omega)]; exact h1, by rw [u.froz]; exact h2⟩
  · refine ⟨?_, ?_⟩
    · have : w'.cell? ⟨b, off + i, none⟩ = w.cell? ⟨b, off + i, none⟩ := by unfold World.cell?; simp only; rw [u.block b hb e]
      rw [this]; exact h1
    · have : w'.frozen? ⟨b, off + i, none⟩ = w.frozen? ⟨b, off + i, none⟩ := by unfold World.frozen?; simp only; rw [u.block b hb e]
      rw [this]; exact h2

theorem FnB.bel {w w' : World} {b off n : Nat} {f : Nat → Nat} (h : FnB w b off n f) (k : Below w.heap.size w w') : FnB w' b off n f := by
  intro i hi
  obtain ⟨h1, h2⟩ := h i hi
  have hb := World.block_lt_of_cell? _ _ h1
  refine ⟨?_, ?_⟩
  · have : w'.cell? ⟨b, off + i, none⟩ = w.cell? ⟨b, off + i, none⟩ := by unfold World.cell?; simp only; rw [k.block b hb]
    rw [this]; exact h1
  · have : w'.frozen? ⟨b, off + i, none⟩ = w.frozen? ⟨b, off + i, none⟩ := by unfold World.frozen?; simp only; rw [k.block b hb]
    rw [this]; exact h2

def txf (V b L d : Nat) (t0 : Nat → Nat) : Nat → Nat := fun p => if L - 1 - p < d then chrN (dgt V b (L - 1 - p)) else t0 p

structure WsR (wr w0 : World) (T o L bn on S V b cnt wt : Nat) (pv : Value) (t0 : Nat → Nat) (q d : Nat) (a : Option Addr) (m : Nat) : Prop where
  num : NumW wr a m bn on q
  fb : FnB wr T o L (txf V b L d t0)
  st : St4 wr S b cnt wt pv
  upd : Upd T o (o + L) w0 wr

theorem WsR.put {wr w0 : World} {T o L bn on S V b cnt wt : Nat} {pv : Value} {t0 : Nat → Nat} {q d : Nat} {a : Option Addr} {m : Nat} (h : WsR wr w0 T o L bn on S V b cnt wt pv t0 q d a m) (hd : d < L) (hST : S ≠ T) (hbT : bn ≠ T) (z : Nat) (hz : z = chrN (dgt V b d)) :
    WsR (wr.setCell ⟨T, o + (L - 1 - d), none⟩ (.int .u8 (z : Nat))) w0 T o L bn on S V b cnt wt pv t0 q (d + 1) a m := by
  have u : Upd T o (o + L) wr (wr.setCell ⟨T, o + (L - 1 - d), none⟩ (.int .u8 (z : Nat))) := (Upd.refl _ _ _ _).set _ _ (by omega) (by omega)
  refine ⟨?_, ?_, h.st.upd u hST, h.upd.trans u⟩
  · rcases h.num with e | ⟨f, e1, e2, e3, e4⟩
    · exact .inl e
    · exact .inr ⟨f, e1, u.fn e2 (.inl hbT), e3, e4⟩
  · refine (h.fb.set (L - 1 - d) z (by omega)).congr fun p hp => ?_
    unfold txf
    by_cases e : p = L - 1 - d
    · rw [if_pos e, if_pos (by omega), hz, show L - 1 - p = d from by omega]
    · rw [if_neg e]
      by_cases e2 : L - 1 - p < d
      · rw [if_pos e2, if_pos (by omega)]
      · rw [if_neg e2, if_neg (by omega)]

theorem divideLimb_nil (a : Option Addr) (c d : Nat) (w : World) :
    Calls Tryd.prog 86 #[.slice a 0 c, .int .u32 (d : Nat)] w fun e w' => e = .returned (.int .u32 0) ∧ w' = w := by
  go_enter Tryd.func86, Tryd.ntmps86
  go_wp2
  go_loop [5, 6] (fun rv i => rv = .int .u32 0 ∧ i = .int .i64 (-1)) (fun _ i => (intOf i + 1).toNat)
  case atStart => exact ⟨rfl, rfl⟩
  case round =>
    obtain ⟨rfl, rfl⟩ := hrel
    go_wp2
    go_ret
    exact ⟨rfl, rfl⟩

theorem NumW.divided {w : World} {a : Option Addr} {m bn on v wt : Nat} (h : NumW w a m bn on v) (hm : m ≤ 1000000000) (h0 : 0 < wt) (h1 : wt < 4294967296) :
    Calls Tryd.prog 86 #[.slice a m m, .int .u32 (wt : Nat)] w fun e w' => e = .returned (.int .u32 (v % wt : Nat)) ∧ Upd bn on (on + m) w w' ∧ Calls Tryd.prog 80 #[.slice a m m] w' fun e w'' => ∃ a' m', e = .returned (.slice a' m' m') ∧ m' ≤ m ∧ NumW w' a' m' bn on (v / wt) ∧ w'' = w' := by
  rcases h with ⟨rfl, rfl, rfl⟩ | ⟨f, rfl, hf, ok, hv⟩
  · refine (divideLimb_nil none 0 wt w).mono ?_
    rintro e w' ⟨rfl, rfl⟩
    refine ⟨by simp, Upd.refl _ _ _ _, ?_⟩
    refine (trim_any none 0 0 [] w' (sl_nil _) Ok.nil).mono ?_
    rintro e w2 ⟨a', m', ys, rfl, hs, hr, ha, rfl⟩
    have hy : ys = [] := hr.unique ⟨Ok.nil, .inl rfl, rfl⟩
    have hl := hs.len
    rw [hy] at hl
    simp at hl
    subst hl
    have ha' : a' = none := by rcases ha with e | e <;> exact e
    exact ⟨a', 0, rfl, Nat.le_refl _, .inl ⟨ha', rfl, by simp⟩, rfl⟩
  · refine (divideLimb_any bn on m m wt f w hf ok hm h0 h1).mono ?_
    rintro e w' ⟨r, g, rfl, hr, hg, og, hval, hu⟩
    rw [hv] at hval
    have e1 : v % wt = r := by rw [hval, Nat.mul_comm, Nat.mul_add_mod, Nat.mod_eq_of_lt hr]
    have e2 : v / wt = valF g m := by rw [hval, Nat.mul_comm, Nat.mul_add_div h0, Nat.div_eq_of_lt hr, Nat.add_zero]
    refine ⟨by rw [e1], hu, ?_⟩
    refine (trim_any (some ⟨bn, on, none⟩) m m (lst g m) w' (hg.sl (Nat.le_refl _) (by unfold maxLen; omega)) (lst_ok og)).mono ?_
    rintro e w2 ⟨a', m', ys, rfl, hs, hr2, ha, rfl⟩
    have hl := hs.len
    have hvy := hr2.val
    rw [lst_val] at hvy
    have hmm : m' ≤ m := by
      have := rep_len_leS hr2 (j := m) (by rw [lst_val]; exact valF_lt og)
      omega
    by_cases hy : ys = []
    · subst hy
      simp at hl
      subst hl
      refine ⟨a', 0, rfl, hmm, ?_, rfl⟩
      rcases ha with e | e
      · exact .inr ⟨g, e, fun i hi => absurd hi (Nat.not_lt_zero _), fun i hi => absurd hi (Nat.not_lt_zero _), by rw [e2, ← hvy]; simp [valF, val]⟩
      · exact .inl ⟨e, rfl, by rw [e2, ← hvy]; rfl⟩
    · refine ⟨a', m', rfl, hmm, ?_, rfl⟩
      obtain ⟨b', o', e, hc⟩ := hs.cells.resolve_left hy
      rcases ha with e' | e'
      · rw [e'] at e
        cases e
        refine .inr ⟨fun i => ys.getD i 0, e', fun i hi => ⟨hc i (by omega), (hg i (by omega)).2⟩, fun i hi => hr2.ok.getD i, ?_⟩
        rw [valF_ge ys m' (by omega), hvy, e2]
      · rw [e'] at e; cases e
open Go.RowKit Go.Deep
set_option linter.unusedVariables false
end Go.Proofs.YtiadccaaoenccaaDoor
