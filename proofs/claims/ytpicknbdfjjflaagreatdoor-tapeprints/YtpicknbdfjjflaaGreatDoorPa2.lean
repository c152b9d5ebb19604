/- Wik -/
import Derived.Test.YtpicknbdfjjflaaGreatDoorWr2
import Derived.Deep.LoopGhost
import Derived.Test.YtpicknbdfjjflaaGreatDoorRd1
import Derived.Test.YtpicknbdfjjflaaGreatDoorRa2
import Derived.Test.YtpicknbdfjjflaaGreatDoorMul
import Derived.Laws.BytesArg
import Derived.Test.YtpicknbdfjjflaaGreatDoorDv4
import Derived.Test.YtpicknbdfjjflaaGreatDoorCmp
import Derived.Test.YtpicknbdfjjflaaGreatDoorShl
import Derived.Test.YtpicknbdfjjflaaGreatDoorGiv
namespace Go.Proofs.YtpicknbdfjjflaaGreatDoor
open Go.RowKit Go.Deep
set_option linter.unusedVariables false














def FnB (w : World) (b off n : Nat) (f : Nat → Nat) : Prop :=
  ∀ i, i < n → w.cell? ⟨b, off + i, none⟩ = some (.int .u8 (f i : Nat)) ∧ w.frozen? ⟨b, off + i, none⟩ = false
theorem FnB.set {w : World} {b off n : Nat} {f : Nat → Nat} (h : FnB w b off n f) (k v : Nat) (hk : k < n) :
    FnB (w.setCell ⟨b, off + k, none⟩ (.int .u8 (v : Nat))) b off n (fun i => if i = k then v else f i) := by
  intro i hi
  refine ⟨?_, by rw [World.frozen?_setCell]; exact (h i hi).2⟩
  by_cases e : i = k
  · subst e
    rw [World.cell?_setCell_same _ _ _ (h i hi).1]
    simp
  · rw [World.cell?_setCell_other _ _ _ _ (by intro h; injection h with h1 h2; omega)]
    simp [e, (h i hi).1]
theorem FnB.congr {w : World} {b off n : Nat} {f g : Nat → Nat} (h : FnB w b off n f) (he : ∀ i, i < n → f i = g i) : FnB w b off n g := fun i hi => by
  have := h i hi
  rwa [he i hi] at this
theorem FnB.made (w : World) (n : Nat) (e : TypeId) : FnB (w.alloc (.cells (madeCells #[.int .u8 0] n) e)) w.heap.size 0 n (fun _ => 0) := by
  intro i hi
  refine ⟨?_, by simp⟩
  simp [madeCells, hi, Nat.mod_one]

def byteN (v i : Nat) : Nat := v / 256 ^ i % 256
def bytesN (xs : List Nat) : Nat := (bitsN xs + 7) / 8

theorem Tryz.info_u8 : (Tryz.prog.info? 5).map (fun i => (i.zero, i.size, i.bytes)) = some (some (.int .u8 0), 1, 1) := by kernel_rfl
def valsB (xs : List Nat) : List Value := xs.map (fun x => .int .u8 (x : Nat))
def outB (xs : List Nat) (k : Nat) : List Nat := lst (fun p => byteN (val xs) (bytesN xs - 1 - p)) (bytesN xs - k)

structure ByR (wr w : World) (xs : List Nat) (v : Value) (k : Nat) : Prop where
  own : wr.ownsRow w.heap.size 5 1 v (bytesN xs - k) (valsB (outB xs k))
  bel : Below w.heap.size w wr

theorem ByR.step {wr w w1 : World} {xs : List Nat} {v v' : Value} {k : Nat} {o : Obj} (h : ByR wr w xs v (k + 1)) (hk : k < bytesN xs)
    (hown : w1.ownsRow w.heap.size 5 1 v' (bytesN xs - (k + 1) + 1) (valsB (outB xs (k + 1)) ++ [.int .u8 (byteN (val xs) k : Nat)])) (hg : (wr.alloc o).grownBy w1 v.ownBlock) : ByR w1 w xs v' k := by
  have hs := h.bel.size
  refine ⟨?_, Below.grown (h.bel.alloc (by omega) o) hg (by simp; omega) (fun k hk => (own_ge h.own k hk).1)⟩
  have e1 : bytesN xs - (k + 1) + 1 = bytesN xs - k := by omega
  have e : valsB (outB xs (k + 1)) ++ [.int .u8 (byteN (val xs) k : Nat)] = valsB (outB xs k) := by
    unfold outB valsB
    rw [← e1]
    simp only [lst, List.range_succ, List.map_append, List.map_cons, List.map_nil]
    rw [show bytesN xs - 1 - (bytesN xs - (k + 1)) = k from by omega]
  rw [e, e1] at hown
  exact hown
theorem ByR.skip {wr w : World} {xs : List Nat} {v : Value} {k : Nat} (h : ByR wr w xs v (k + 1)) (hk : bytesN xs ≤ k) : ByR wr w xs v k := by
  have e : bytesN xs - (k + 1) = bytesN xs - k := by omega
  refine ⟨?_, h.bel⟩
  have := h.own
  unfold outB at *
  rw [e] at this
  exact this

theorem own_len {w : World} {base k : Nat} {e : TypeId} {v : Value} {ws : List Value} (h : w.ownsRow base e 1 v k ws) : ∃ a c, v = .slice a k c := by
  rcases h.2 with ⟨e, h0⟩ | ⟨g, cap, cur, e, hb, h5, h6, h7, h8, h9⟩
  · subst e h0
    exact ⟨none, 0, rfl⟩
  · subst e
    exact ⟨_, _, rfl⟩
structure SlB (w : World) (a : Option Addr) (n c : Nat) (bs : List Nat) : Prop where
  len : bs.length = n
  le : n ≤ c
  ok : ∀ x ∈ bs, x < 256
  cells : bs = [] ∨ ∃ b off, a = some ⟨b, off, none⟩ ∧ ∀ i, i < bs.length → w.cell? ⟨b, off + i, none⟩ = some (.int .u8 (bs.getD i 0 : Nat))
theorem SlB.below {w w' : World} {a : Option Addr} {n c : Nat} {bs : List Nat} (h : SlB w a n c bs) (k : Below w.heap.size w w') : SlB w' a n c bs := by
  refine ⟨h.len, h.le, h.ok, ?_⟩
  rcases h.cells with e | ⟨b, off, e, hc⟩
  · exact .inl e
  · refine .inr ⟨b, off, e, fun i hi => ?_⟩
    have h1 := hc i hi
    rw [k.cell (World.block_lt_of_cell? _ _ h1)]
    exact h1

def lowB (bs : List Nat) : Nat → Nat
  | 0 => 0
  | k + 1 => lowB bs k + bs.getD (bs.length - 1 - k) 0 * 256 ^ k
theorem lowB_lt {bs : List Nat} (ok : ∀ x ∈ bs, x < 256) : ∀ (k : Nat), lowB bs k < 256 ^ k
  | 0 => by simp [lowB]
  | k + 1 => by
    have h1 := lowB_lt ok k
    simp only [lowB]
    have h2 : bs.getD (bs.length - 1 - k) 0 < 256 := by
      by_cases hl : bs.length - 1 - k < bs.length
      · rw [show bs.getD (bs.length - 1 - k) 0 = bs[bs.length - 1 - k] from by simp [List.getD, hl]]
        exact ok _ (List.getElem_mem _)
      · rw [getD_ge (by omega)]; decide
    have h3 : bs.getD (bs.length - 1 - k) 0 * 256 ^ k ≤ 255 * 256 ^ k := Nat.mul_le_mul_right _ (by omega)
    rw [Nat.pow_succ]
    generalize 256 ^ k = P at *
    omega

theorem valF_putB {f : Nat → Nat} {l d : Nat} : ∀ {n : Nat}, l < n → valF (fun i => if i = l then f l + d else f i) n = valF f n + 4294967296 ^ l * d
  | 0, h => by omega
  | n + 1, h => by
    simp only [valF]
    by_cases e : n = l
    · subst e
      rw [valF_congr (g := f) (fun i hi => by rw [if_neg (by omega)])]
      simp only [if_true, Nat.mul_add]
      omega
    · rw [valF_putB (n := n) (by omega), if_neg e]
      omega

theorem byte_put {f : Nat → Nat} {M i l s c : Nat} (ok : ∀ j, j < M → f j < 4294967296) (hl : i / 4 = l) (hs : i % 4 = s) (hM : l < M) (hv : valF f M < 256 ^ i) (hc : c < 256) :
    bits .or .u32 (f l : Int) ((c * 2 ^ (8 * s) : Nat) : Int) = ((f l + c * 2 ^ (8 * s) : Nat) : Int) ∧ f l + c * 2 ^ (8 * s) < 4294967296 ∧ c * 2 ^ (8 * s) < 4294967296 ∧ 4294967296 ^ l * (c * 2 ^ (8 * s)) = c * 256 ^ i := by
  have p1 : (256:Nat) ^ i = 4294967296 ^ l * 2 ^ (8 * s) := by
    rw [show i = 4 * l + s from by omega, show (256:Nat) = 2 ^ 8 from rfl, ← Nat.pow_mul, pow_limb, ← Nat.pow_add]
    congr 1
    omega
  have hd : f l < 2 ^ (8 * s) := by
    rw [valF_digit ok hM]
    refine Nat.lt_of_le_of_lt (Nat.mod_le _ _) ?_
    rw [Nat.div_lt_iff_lt_mul (pow_pos l), Nat.mul_comm, ← p1]
    exact hv
  have hp : 2 ^ (8 * s) * 256 ≤ 4294967296 := by
    rw [show (256:Nat) = 2 ^ 8 from rfl, ← Nat.pow_add]
    exact Nat.le_trans (Nat.pow_le_pow_right (by decide) (show 8 * s + 8 ≤ 32 by omega)) (by decide)
  have hcm : c * 2 ^ (8 * s) + 2 ^ (8 * s) ≤ 2 ^ (8 * s) * 256 := by
    rw [← Nat.succ_mul, Nat.mul_comm]
    exact Nat.mul_le_mul_left _ hc
  have hP := Nat.two_pow_pos (8 * s)
  have ho : c * 2 ^ (8 * s) ||| f l = c * 2 ^ (8 * s) + f l := by
    have := Nat.shiftLeft_add_eq_or_of_lt hd c
    rw [Nat.shiftLeft_eq] at this
    exact this.symm
  have h1 : c * 2 ^ (8 * s) < 4294967296 := by omega
  have h2 : f l < 4294967296 := ok l hM
  refine ⟨?_, by omega, h1, ?_⟩
  · rw [u32_or_nat _ _ h2 h1, Nat.or_comm, ho, Nat.add_comm]
  · rw [p1, ← Nat.mul_assoc, Nat.mul_comm _ c, Nat.mul_assoc]
structure FbR (wr w : World) (M : Nat) (r : List Nat) (i : Nat) (f : Nat → Nat) : Prop where
  fn : Fn wr w.heap.size 0 M f
  ok : ∀ j, j < M → f j < 4294967296
  val : valF f M = lowB r i
  bel : Below w.heap.size w wr

theorem FbR.drewN {wr w : World} {M : Nat} {r : List Nat} {i : Nat} {f : Nat → Nat} (h : FbR wr w M r i f) (j : Nat) : FbR (wr.drewN j) w M r i f := ⟨h.fn, h.ok, h.val, bel_drewN h.bel j⟩
theorem FbR.step {wr w : World} {M : Nat} {r : List Nat} {i l s c : Nat} {f : Nat → Nat} (h : FbR wr w M r i f) (okr : ∀ x ∈ r, x < 256) (hl : i / 4 = l) (hs : i % 4 = s) (hM : l < M) (hc : r.getD (r.length - 1 - i) 0 = c) (hc2 : c < 256) :
    FbR (wr.setCell ⟨w.heap.size, l, none⟩ (.int .u32 (f l + c * 2 ^ (8 * s) : Nat))) w M r (i + 1) (fun j => if j = l then f l + c * 2 ^ (8 * s) else f j) := by
  have hp := byte_put h.ok hl hs hM (by rw [h.val]; exact lowB_lt okr i) hc2
  have hS := h.fn.set l (f l + c * 2 ^ (8 * s)) hM
  rw [Nat.zero_add] at hS
  refine ⟨hS, ?_, ?_, h.bel.trans (((Upd.refl w.heap.size 0 M wr).set l (.int .u32 (f l + c * 2 ^ (8 * s) : Nat)) (by omega) hM).below (Nat.le_refl _) h.bel.size)⟩
  · intro j hj
    by_cases e : j = l
    · simp only [e, if_true]; exact hp.2.1
    · simp only [e, if_false]; exact h.ok j hj
  · rw [valF_putB hM, h.val, hp.2.2.2]
    simp only [lowB]
    rw [hc]

def strB (bs : List Nat) : ByteArray := strOfNums (bs.map (fun x : Nat => (x : Int)))

theorem SlB.conv {w : World} {a : Option Addr} {n c : Nat} {bs : List Nat} (h : SlB w a n c bs) :
    (convert 106 9 (.slice a n c)).run Tryz.prog w = .ok (.string (strB bs)) w := by
  have hl := h.len
  cases a with
  | none =>
    rcases h.cells with e | ⟨b, off, e, _⟩
    · subst e
      exact run_convert_bytes_nil w 106 5 Tryz.underlying106 Tryz.underlying5 n c 9 Tryz.underlying9
    · cases e
  | some x =>
    rcases h.cells with e | ⟨b, off, e, hc⟩
    · subst e
      simp at hl
      subst hl
      rw [run_convert_bytes_string w 106 9 5 _ 0 c Tryz.underlying106 Tryz.underlying5 Tryz.underlying9, run_bytesToString w x 0 c [] (by simpa using run_loadCells_list (P := Tryz.prog) w x [] (by simp))]
      rfl
    · cases e
      refine run_convert_bytes_arg w 106 5 Tryz.underlying106 Tryz.underlying5 b off n c (bs.map (fun x : Nat => (x : Int))) (by simpa using hl) (fun i hi => ?_) 9 Tryz.underlying9
      rw [hc i (by omega)]
      congr 2
      simp only [List.getD_eq_getElem?_getD, List.getElem?_map]
      cases bs[i]? <;> rfl
theorem lst_mem {f : Nat → Nat} {n x : Nat} (h : x ∈ lst f n) : ∃ i, i < n ∧ f i = x := by
  simpa [lst] using h
def dgt (V b i : Nat) : Nat := V / b ^ i % b
def chrN (d : Nat) : Nat := if d < 10 then 48 + d else 87 + d
structure TxtOf (V b n : Nat) : Prop where
  pos : 1 ≤ n
  lt : V < b ^ n
  ge : n = 1 ∨ b ^ (n - 1) ≤ V

theorem TxtOf.le {V b n m : Nat} (hb : 2 ≤ b) (h : TxtOf V b n) (g : TxtOf V b m) : n ≤ m := by
  rcases h.ge with e | e
  · have := g.pos; omega
  · rcases Nat.lt_or_ge m n with k | k
    · exfalso
      have h1 : b ^ m ≤ b ^ (n - 1) := Nat.pow_le_pow_right (by omega) (by omega)
      have := g.lt
      omega
    · exact k
theorem TxtOf.uniq {V b n m : Nat} (hb : 2 ≤ b) (h : TxtOf V b n) (g : TxtOf V b m) : n = m := Nat.le_antisymm (h.le hb g) (g.le hb h)

theorem dgt_lt (V i : Nat) {b : Nat} (hb : 0 < b) : dgt V b i < b := Nat.mod_lt _ hb
theorem dgt_div (V b i j : Nat) : dgt (V / b ^ i) b j = dgt V b (i + j) := by
  unfold dgt
  rw [Nat.div_div_eq_div_mul, ← Nat.pow_add]
theorem dgt_mod (V b : Nat) {i j : Nat} (hb : 0 < b) (h : j < i) : dgt (V % b ^ i) b j = dgt V b j := by
  unfold dgt
  obtain ⟨k, rfl⟩ : ∃ k, i = j + (k + 1) := ⟨i - j - 1, by omega⟩
  rw [Nat.pow_add, Nat.mod_mul_right_div_self, Nat.pow_succ, Nat.mul_comm, Nat.mod_mul_right_mod]
theorem chrN_lt {d : Nat} (h : d < 36) : chrN d < 256 := by unfold chrN; split <;> omega
theorem chrN_zero {d : Nat} (h : d < 36) : chrN d = 48 ↔ d = 0 := by unfold chrN; split <;> omega

def txtL (V b n : Nat) : List Nat := lst (fun p => chrN (dgt V b (n - 1 - p))) n

structure QbR (wr w : World) (n : Nat) (xs : List Nat) (d k r : Nat) (g : Nat → Nat) : Prop where
  fn : Fn wr w.heap.size 0 n g
  ok : ∀ i, i < n → g i < 4294967296
  rlt : r < d
  val : valF (fun i => xs.getD (k + i) 0) (n - k) = valF (fun i => g (k + i)) (n - k) * d + r
  bel : Below w.heap.size w wr

theorem QbR.step {wr w : World} {n : Nat} {xs : List Nat} {d k r x : Nat} {g : Nat → Nat} (h : QbR wr w n xs d (k + 1) r g) (hk : k < n) (hx : xs.getD k 0 = x) (hx2 : x < 4294967296) :
    QbR (wr.setCell ⟨w.heap.size, k, none⟩ (.int .u32 (dv x r / d : Nat))) w n xs d k (dv x r % d) (fun i => if i = k then dv x r / d else g i) := by
  have hq := dv_div_lt hx2 h.rlt
  have hs := h.fn.set k (dv x r / d) hk
  rw [Nat.zero_add] at hs
  refine ⟨hs, ?_, Nat.mod_lt _ (by have := h.rlt; omega), ?_, h.bel.setCell (Nat.le_refl _) _⟩
  · intro i hi
    by_cases e : i = k
    · simp only [e, if_true]; exact hq
    · simp only [e, if_false]; exact h.ok i hi
  · rw [valF_head (fun i => xs.getD i 0) k n hk, valF_head (fun i => if i = k then dv x r / d else g i) k n hk]
    simp only [if_true]
    have e0 : valF (fun i => if k + 1 + i = k then dv x r / d else g (k + 1 + i)) (n - (k + 1)) = valF (fun i => g (k + 1 + i)) (n - (k + 1)) := valF_congr (fun i _ => by rw [if_neg (by omega)])
    rw [e0, hx]
    refine dl_arith h.val ?_
    have := Nat.div_add_mod (dv x r) d
    unfold dv at *
    omega

open Go.RowKit Go.Deep
set_option linter.unusedVariables false

theorem ownsRow_below {w w' : World} {base : Nat} {e : TypeId} {size : Nat} {v : Value} {n : Nat} {xs : List Value} (h : w.ownsRow base e size v n xs) (k : Below w.heap.size w w') : w'.ownsRow base e size v n xs := by
  refine ⟨h.1, ?_⟩
  rcases h.2 with e0 | ⟨g, cap, cur, e0, hb, h5, h6, h7, h8, h9⟩
  · exact .inl e0
  · exact .inr ⟨g, cap, cur, e0, hb, by rw [k.block g (by
      rcases Nat.lt_or_ge g w.heap.size with hlt | hge
      · exact hlt
      · simp [Array.getElem?_eq_none hge] at h5)]; exact h5, h6, h7, h8, h9⟩

inductive PrIs (xs : List Nat) (b : Int) : ByteArray → Int → Prop where
  | nat (h : MayL xs = false) : PrIs xs b (strB []) 20
  | base (h : MayL xs = true) (hb : ¬ (2 ≤ b ∧ b ≤ 36)) : PrIs xs b (strB []) 22
  | text (n : Nat) (h : MayL xs = true) (hb : 2 ≤ b ∧ b ≤ 36) (ht : TxtOf (val xs) b.toNat n) : PrIs xs b (strB (txtL (val xs) b.toNat n)) 0

theorem PrIs.uniq {xs : List Nat} {b : Int} {s t : ByteArray} {e f : Int} (h : PrIs xs b s e) (g : PrIs xs b t f) : s = t ∧ e = f := by
  cases h with
  | nat h =>
    cases g with
    | nat g => exact ⟨rfl, rfl⟩
    | base g gb => rw [h] at g; cases g
    | text m g gb gt => rw [h] at g; cases g
  | base h hb =>
    cases g with
    | nat g => rw [h] at g; cases g
    | base g gb => exact ⟨rfl, rfl⟩
    | text m g gb gt => exact absurd gb hb
  | text n h hb ht =>
    cases g with
    | nat g => rw [h] at g; cases g
    | base g gb => exact absurd hb gb
    | text m g gb gt => rw [ht.uniq (by omega) gt]; exact ⟨rfl, rfl⟩

def PrPost (xs : List Nat) (b : Int) (w : World) (e : Ending) (w' : World) : Prop :=
  ∃ s er, e = .returned (.tuple #[.string s, .int .i64 er]) ∧ PrIs xs b s er ∧ Below w.heap.size w w'

structure QpR (wr w : World) (V b : Nat) (v : Value) (k Q : Nat) (a : Option Addr) (m : Nat) : Prop where
  own : wr.ownsRow w.heap.size 5 1 v k (valsB (lst (fun p => chrN (dgt V b p)) k))
  sl : Sl wr a m m (limbs Q)
  q : Q = V / b ^ k
  top : k = 0 ∨ 0 < V / b ^ (k - 1)
  bel : Below w.heap.size w wr

theorem QpR.done {wr w : World} {V b : Nat} {v : Value} {k : Nat} {a : Option Addr} {m : Nat} (h : QpR wr w V b v k 0 a m) (hV : 0 < V) (hb : 2 ≤ b) : TxtOf V b k := by
  have hp : 0 < b ^ k := Nat.pow_pos (by omega)
  have h1 : V < b ^ k := by
    rcases Nat.lt_or_ge V (b ^ k) with e | e
    · exact e
    · have := Nat.div_pos e hp
      have := h.q
      omega
  rcases h.top with e | e
  · subst e; simp at h1; omega
  · have h2 : b ^ (k - 1) ≤ V := by
      rcases Nat.lt_or_ge V (b ^ (k - 1)) with g | g
      · rw [Nat.div_eq_of_lt g] at e; omega
      · exact g
    refine ⟨?_, h1, .inr h2⟩
    rcases Nat.eq_zero_or_pos k with g | g
    · subst g; simp at h1; omega
    · exact g

theorem QpR.len {wr w : World} {V b : Nat} {v : Value} {k Q : Nat} {a : Option Addr} {m n : Nat} (h : QpR wr w V b v k Q a m) (hb : 2 ≤ b) (hV : V < 2 ^ (32 * n)) : k ≤ 32 * n := by
  rcases h.top with e | e
  · omega
  · rcases Nat.eq_zero_or_pos k with g | g
    · omega
    have h2 : b ^ (k - 1) ≤ V := by
      rcases Nat.lt_or_ge V (b ^ (k - 1)) with g | g
      · rw [Nat.div_eq_of_lt g] at e; omega
      · exact g
    have h3 : 2 ^ (k - 1) ≤ b ^ (k - 1) := Nat.pow_le_pow_left hb _
    have h4 : 2 ^ (k - 1) < 2 ^ (32 * n) := by omega
    have := (Nat.pow_lt_pow_iff_right (by decide : 1 < 2)).1 h4
    omega

theorem QpR.step {wr w w1 : World} {V b : Nat} {v v' : Value} {k Q : Nat} {a a' : Option Addr} {m m' : Nat} {o : Obj} (h : QpR wr w V b v k Q a m) (hQ : 0 < Q) (hs : Sl wr a' m' m' (limbs (Q / b)))
    (hown : w1.ownsRow w.heap.size 5 1 v' (k + 1) (valsB (lst (fun p => chrN (dgt V b p)) k) ++ [.int .u8 (chrN (Q % b) : Nat)])) (hg : (wr.alloc o).grownBy w1 v.ownBlock) (hne : ∀ x, a' = some x → v.ownBlock ≠ some x.block) : QpR w1 w V b v' (k + 1) (Q / b) a' m' := by
  have hz := h.bel.size
  have hq := h.q
  refine ⟨?_, ?_, ?_, .inr ?_, Below.grown (h.bel.alloc (by omega) o) hg (by simp; omega) (fun k hk => (own_ge h.own k hk).1)⟩
  · have e : valsB (lst (fun p => chrN (dgt V b p)) k) ++ [.int .u8 (chrN (Q % b) : Nat)] = valsB (lst (fun p => chrN (dgt V b p)) (k + 1)) := by
      unfold valsB
      simp only [lst, List.range_succ, List.map_append, List.map_cons, List.map_nil]
      rw [hq]
      rfl
    rw [e] at hown
    exact hown
  · have hs1 : Sl (wr.alloc o) a' m' m' (limbs (Q / b)) := hs.below ((Below.refl _ _).alloc (Nat.le_refl _) o)
    exact hs1.chg (S := fun k => v.ownBlock = some k) (Chg.of_grown hg (fun k hk => hk)) (fun x hx _ => hne x hx)
  · rw [hq, Nat.div_div_eq_div_mul, ← Nat.pow_succ]
  · rw [Nat.add_sub_cancel, ← hq]; exact hQ

theorem FnB.slB {w : World} {b off n c : Nat} {f : Nat → Nat} (h : FnB w b off n f) (hc : n ≤ c) (hf : ∀ i, i < n → f i < 256) : SlB w (some ⟨b, off, none⟩) n c (lst f n) := by
  refine ⟨lst_len _ _, hc, fun x hx => ?_, .inr ⟨b, off, rfl, fun i hi => ?_⟩⟩
  · obtain ⟨i, hi, rfl⟩ := lst_mem hx
    exact hf i hi
  · rw [lst_len] at hi
    rw [lst_getD f n i hi]
    exact (h i hi).1
theorem chr_ok (V : Nat) {b : Nat} (hb : 2 ≤ b) (hb2 : b ≤ 36) (i : Nat) : chrN (dgt V b i) < 256 := chrN_lt (by have := dgt_lt V i (b := b) (by omega); omega)

theorem chr_up {D : Nat} (h : D < 10) : chrN D = 48 + D := by unfold chrN; rw [if_pos h]
open Go.RowKit Go.Deep
set_option linter.unusedVariables false

theorem txt_zero {b : Nat} (hb : 2 ≤ b) : TxtOf 0 b 1 := ⟨Nat.le_refl _, by simp; omega, .inl rfl⟩
theorem txtL_zero (b : Nat) : txtL 0 b 1 = [48] := by
  unfold txtL lst dgt chrN
  simp
end Go.Proofs.YtpicknbdfjjflaaGreatDoor
namespace Go.Proofs.YtpicknbdfjjflaaGreatDoor
open Go.RowKit Go.Deep
set_option linter.unusedVariables false
open Go.RowKit Go.Deep
set_option linter.unusedVariables false
structure Chunk (b c : Nat) : Prop where
  pos : 1 ≤ c
  le : c ≤ 31
  lt : b ^ c < 4294967296
  ge : 4294967296 ≤ b ^ c * b

def ChPost (b : Nat) (w : World) (e : Ending) (w' : World) : Prop :=
  ∃ c, Chunk b c ∧ e = .returned (.tuple #[.int .i64 (c : Nat), .int .u32 (b ^ c : Nat)]) ∧ w' = w

theorem chunk_le {b c : Nat} (hb : 2 ≤ b) (h : b ^ c < 4294967296) : c ≤ 31 := by
  have h1 : 2 ^ c ≤ b ^ c := Nat.pow_le_pow_left hb c
  have h2 : 2 ^ c < 2 ^ 32 := Nat.lt_of_le_of_lt h1 h
  have := (Nat.pow_lt_pow_iff_right (by decide : 1 < 2)).1 h2
  omega

set_option maxHeartbeats 4000000 in
theorem chunk_any (b : Nat) (hb : 2 ≤ b) (hb2 : b ≤ 36) (w : World) :
    Calls Tryz.prog 137 #[.int .i64 (b : Nat)] w fun e w' => ChPost b w e w' := by
  go_enter Tryz.func137, Tryz.ntmps137
  go_wp2_with fail
  go_loop [4, 5] (fun cv wv => ∃ c : Nat, 1 ≤ c ∧ b ^ c < 4294967296 ∧ cv = .int .i64 (c : Nat) ∧ wv = .int .u64 (b ^ c : Nat)) (fun cv _ => 32 - (intOf cv).toNat)
  case atStart => exact ⟨1, Nat.le_refl _, by simp; omega, rfl, by simp⟩
  case round =>
    obtain ⟨c, hc, hlt, rfl, rfl⟩ := hrel
    have hc31 := chunk_le hb hlt
    have hb36 : b ^ c * b ≤ b ^ c * 36 := Nat.mul_le_mul_left _ hb2
    obtain ⟨p, hp⟩ : ∃ p, b ^ c * b = p := ⟨_, rfl⟩
    have hp1 : b ^ (c + 1) = p := by rw [Nat.pow_succ, hp]
    obtain ⟨W, hW⟩ : ∃ W, b ^ c = W := ⟨_, rfl⟩
    rw [hW] at hb36 hlt hp
    have e1 : (W:Int) * (b:Int) = (p:Int) := by rw [← hp, Int.natCast_mul]
    rw [hp] at hb36
    have hp64 : p < 18446744073709551616 := by omega
    have HW := hide hW
    have HP := hide hp1
    have HQ := hide hp
    by_cases hs : p < 4294967296
    · have q1 : (p:Int) / 4294967296 = 0 := by omega
      rw [hW]
      clear hW hp1 hp
      go_wp2_with fail
      exact ⟨⟨c + 1, by omega, by rw [unhide HP]; exact hs, by go_num, by rw [unhide HP]⟩, by simp [intOf]; omega⟩
    · obtain ⟨q, hq⟩ : ∃ q, p / 4294967296 = q := ⟨_, rfl⟩
      have q1 : (p:Int) / 4294967296 = (q:Int) := by omega
      have q2 : ((q:Int) == 0) = false := by simp; omega
      have q3 : ¬ (q:Int) = 0 := by omega
      rw [hW]
      clear hW hp1 hp hq
      go_wp2_with fail
      go_ret2
      have HR : b ^ c * b = p := by rw [unhide HW]; exact unhide HQ
      refine ⟨c, ⟨hc, hc31, by rw [unhide HW]; exact hlt, by rw [HR]; omega⟩, by rw [unhide HW]; rfl, rfl⟩

set_option maxHeartbeats 4000000 in
theorem isBase_any (b : Int) (w : World) :
    Calls Tryz.prog 125 #[.int .i64 b] w fun e w' => e = .returned (.bool (decide (2 ≤ b ∧ b ≤ 36))) ∧ w' = w := by
  by_cases h1 : 2 ≤ b
  · by_cases h2 : b ≤ 36
    · go_enter Tryz.func125, Tryz.ntmps125
      go_wp2_with fail
      go_ret
      simp [h1, h2]
    · go_enter Tryz.func125, Tryz.ntmps125
      go_wp2_with fail
      go_ret
      simp; omega
  · go_enter Tryz.func125, Tryz.ntmps125
    go_wp2_with fail
    go_ret
    simp; omega
end Go.Proofs.YtpicknbdfjjflaaGreatDoor
