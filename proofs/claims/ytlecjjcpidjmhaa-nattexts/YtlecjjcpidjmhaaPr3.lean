/-
  sloperef1.Print, of whatever: contract.
-/
import Derived.Test.YtlecjjcpidjmhaaDv2
import Derived.Test.YtlecjjcpidjmhaaRAdd
import Derived.Test.YtlecjjcpidjmhaaFrom
import Derived.Test.YtlecjjcpidjmhaaBy2
import Derived.Test.YtlecjjcpidjmhaaBy3
import Derived.Test.YtlecjjcpidjmhaaBy6
import Derived.Test.YtlecjjcpidjmhaaBy7
import Derived.Deep.LoopGhost
namespace Go.Proofs.Ytlecjjcpidjmhaa
open Go.RowKit Go.Deep
set_option linter.unusedVariables false

/-- A digit. -/
def dgt (V b i : Nat) : Nat := V / b ^ i % b
/-- Its sign. -/
def chrN (d : Nat) : Nat := if d < 10 then 48 + d else 87 + d
/-- So many digits a number has. -/
structure TxtOf (V b n : Nat) : Prop where
  pos : 1 ≤ n
  lt : V < b ^ n
  ge : n = 1 ∨ b ^ (n - 1) ≤ V

theorem TxtOf.le {V b n m : Nat} (hb : 2 ≤ b) (h : TxtOf V b n) (g : TxtOf V b m) : n ≤ m := by
  rcases h.ge with e | e
  · have := g.pos; omega
  · rcases Nat.lt_or_ge m n with k | k
    · exfalso
      have h1 : b ^ m ≤ b ^ (n - 1) := Nat.pow_le_pow_right (by omega) (by omega)
      have := g.lt
      omega
    · exact k
theorem TxtOf.uniq {V b n m : Nat} (hb : 2 ≤ b) (h : TxtOf V b n) (g : TxtOf V b m) : n = m := Nat.le_antisymm (h.le hb g) (g.le hb h)

theorem dgt_lt (V i : Nat) {b : Nat} (hb : 0 < b) : dgt V b i < b := Nat.mod_lt _ hb
theorem dgt_div (V b i j : Nat) : dgt (V / b ^ i) b j = dgt V b (i + j) := by
  unfold dgt
  rw [Nat.div_div_eq_div_mul, ← Nat.pow_add]
theorem dgt_mod (V b : Nat) {i j : Nat} (hb : 0 < b) (h : j < i) : dgt (V % b ^ i) b j = dgt V b j := by
  unfold dgt
  obtain ⟨k, rfl⟩ : ∃ k, i = j + (k + 1) := ⟨i - j - 1, by omega⟩
  rw [Nat.pow_add, Nat.mod_mul_right_div_self, Nat.pow_succ, Nat.mul_comm, Nat.mod_mul_right_mod]
theorem chrN_lt {d : Nat} (h : d < 36) : chrN d < 256 := by unfold chrN; split <;> omega
theorem chrN_zero {d : Nat} (h : d < 36) : chrN d = 48 ↔ d = 0 := by unfold chrN; split <;> omega

/-- The bytes of the text. -/
def txtL (V b n : Nat) : List Nat := lst (fun p => chrN (dgt V b (n - 1 - p))) n

/-- What a round of by leaves. -/
structure QbR (wr w : World) (n : Nat) (xs : List Nat) (d k r : Nat) (g : Nat → Nat) : Prop where
  fn : Fn wr w.heap.size 0 n g
  ok : ∀ i, i < n → g i < 4294967296
  rlt : r < d
  val : valF (fun i => xs.getD (k + i) 0) (n - k) = valF (fun i => g (k + i)) (n - k) * d + r
  bel : Below w.heap.size w wr

theorem QbR.step {wr w : World} {n : Nat} {xs : List Nat} {d k r x : Nat} {g : Nat → Nat} (h : QbR wr w n xs d (k + 1) r g) (hk : k < n) (hx : xs.getD k 0 = x) (hx2 : x < 4294967296) :
    QbR (wr.setCell ⟨w.heap.size, k, none⟩ (.int .u32 (dv x r / d : Nat))) w n xs d k (dv x r % d) (fun i => if i = k then dv x r / d else g i) := by
  have hq := dv_div_lt hx2 h.rlt
  have hs := h.fn.set k (dv x r / d) hk
  rw [Nat.zero_add] at hs
  refine ⟨hs, ?_, Nat.mod_lt _ (by have := h.rlt; omega), ?_, h.bel.setCell (Nat.le_refl _) _⟩
  · intro i hi
    by_cases e : i = k
    · simp only [e, if_true]; exact hq
    · simp only [e, if_false]; exact h.ok i hi
  · rw [valF_head (fun i => xs.getD i 0) k n hk, valF_head (fun i => if i = k then dv x r / d else g i) k n hk]
    simp only [if_true]
    have e0 : valF (fun i => if k + 1 + i = k then dv x r / d else g (k + 1 + i)) (n - (k + 1)) = valF (fun i => g (k + 1 + i)) (n - (k + 1)) := valF_congr (fun i _ => by rw [if_neg (by omega)])
    rw [e0, hx]
    refine dl_arith h.val ?_
    have := Nat.div_add_mod (dv x r) d
    unfold dv at *
    omega

set_option maxHeartbeats 4000000 in
/-- sloperef1.by. -/
theorem rby_any (a : Option Addr) (n c : Nat) (xs : List Nat) (d : Nat) (w : World) (h : Sl w a n c xs) (ok : Ok xs) (hn : n ≤ 70368744177600) (hd0 : 0 < d) (hd : d ≤ 36) :
    Calls Try.prog 40 #[.slice a n c, .int .u64 (d : Nat)] w fun e w' => ∃ a' m, e = .returned (.tuple #[.slice a' m m, .int .u64 (val xs % d : Nat)]) ∧ Sl w' a' m m (limbs (val xs / d)) ∧ NewAt w.heap.size a' ∧ Below w.heap.size w w' := by
  have hmk := make_len n hn
  have HF := hide (Fn.made w n 77)
  have HB := hide ((Below.refl w.heap.size w).alloc (Nat.le_refl _) (.cells (madeCells #[.int .u32 0] n) 77))
  have HL := hide h.len
  have H := hide h
  clear h
  go_enter Try.func40, Try.ntmps40
  go_wp2_with fail
  go_loopw [7, 8] (fun rv i wr => ∃ k r : Nat, ∃ g : Nat → Nat, k ≤ n ∧ i = .int .i64 ((k : Int) - 1) ∧ rv = .int .u64 (r : Nat) ∧ QbR wr w n xs d k r g) (fun _ i _ => (intOf i + 1).toNat)
  case atStart => exact ⟨n, 0, _, Nat.le_refl _, rfl, rfl, unhide HF, fun i hi => by simp, hd0, by simp [valF], unhide HB⟩
  case round =>
    obtain ⟨k, r, g, hk, rfl, rfl, hR⟩ := hrel
    rcases k with _ | k
    · have t1 : ¬ (0:Int) ≤ ((0:Nat):Int) - 1 := by omega
      have hv := hR.val
      simp only [Nat.zero_add, Nat.sub_zero] at hv
      rw [valF_ge xs n (by rw [unhide HL]; exact Nat.le_refl _)] at hv
      have hrl := hR.rlt
      have e1 : val xs / d = valF g n := by
        rw [hv, Nat.mul_comm]
        rw [Nat.mul_add_div hd0, Nat.div_eq_of_lt hrl, Nat.add_zero]
      have e2 : val xs % d = r := by
        rw [hv, Nat.mul_comm, Nat.mul_add_mod, Nat.mod_eq_of_lt hrl]
      have KT := rtrim_any (some ⟨w.heap.size, 0, none⟩) n n (lst g n) wr (hR.fn.sl (Nat.le_refl _) (by unfold maxLen; omega)) (lst_ok hR.ok) (by omega)
      rw [lst_val] at KT
      have KT' := hide KT
      have HR := hide (And.intro hR.bel (And.intro e1 e2))
      clear hR hv e1 e2 KT HF HB H ok
      go_wp2_with fail
      refine (unhide KT').mono ?_
      rintro _ w2 ⟨a2, m2, y2, rfl, s2, r2, n2, b2⟩
      rw [r2.eq, ← (unhide HR).2.1] at s2
      have H2 := hide (And.intro s2 (And.intro n2 b2))
      clear s2 r2 n2 b2 KT'
      go_wp2_with fail
      go_ret2
      rw [(unhide HR).2.2]
      exact ⟨a2, m2, rfl, (unhide H2).1, fun x hx => Nat.le_trans (unhide HR).1.size ((unhide H2).2.1 x hx), (unhide HR).1.trans ((unhide H2).2.2.mono (unhide HR).1.size)⟩
    · have t0 : ((k + 1 : Nat) : Int) - 1 = (k : Int) := by omega
      rw [t0]
      have t1 : (k:Int) < (n:Int) := by omega
      have hkn : k < n := by omega
      have hne : xs ≠ [] := by intro e; have := unhide HL; rw [e] at this; simp at this; omega
      obtain ⟨b', o', rfl, hcell⟩ := (unhide H).cells.resolve_left hne
      have g0 := ((unhide H).below hR.bel).cells.resolve_left hne
      obtain ⟨b2, o2, e2, hc2⟩ := g0
      cases e2
      have g1 := hc2 k (by rw [unhide HL]; exact hkn)
      have hx := ok.getD k
      have f1 := (hR.fn k hkn).1
      have f2 := (hR.fn k hkn).2
      rw [Nat.zero_add] at f1 f2
      obtain ⟨x, hxe⟩ : ∃ x, xs.getD k 0 = x := ⟨_, rfl⟩
      rw [hxe] at hx g1
      have HR := hide (hR.step hkn hxe hx)
      have hrd := hR.rlt
      have ho := or_halves r x (by omega) hx
      have hq := dv_div_lt hx hrd
      have hD : x + 4294967296 * r = dv x r := rfl
      rw [hD] at ho
      have w1 : IntKind.u64.wrap ((r:Int) * 4294967296) = (r:Int) * 4294967296 := by rw [IntKind.wrap_u64]; omega
      have hD2 : dv x r < 18446744073709551616 := by unfold dv; omega
      generalize dv x r = D at *
      have q1 : (D:Int) / (d:Int) = ((D / d : Nat) : Int) := rfl
      have q2 : (D:Int) % (d:Int) = ((D % d : Nat) : Int) := rfl
      have q3 : (D:Int).tdiv (d:Int) = ((D / d : Nat) : Int) := rfl
      have q4 : (D:Int).tmod (d:Int) = ((D % d : Nat) : Int) := rfl
      generalize D / d = Q at *
      generalize D % d = R at *
      have hd1 : (d:Int) ≠ 0 := by omega
      clear hR hcell hc2 hne hxe hD HF HB
      go_wp2_with fail
      exact ⟨⟨k, _, _, by omega, by go_num, rfl, unhide HR⟩, by simp [intOf]⟩
open Go.RowKit Go.Deep
set_option linter.unusedVariables false

theorem ownsRow_below {w w' : World} {base : Nat} {e : TypeId} {size : Nat} {v : Value} {n : Nat} {xs : List Value} (h : w.ownsRow base e size v n xs) (k : Below w.heap.size w w') : w'.ownsRow base e size v n xs := by
  refine ⟨h.1, ?_⟩
  rcases h.2 with e0 | ⟨g, cap, cur, e0, hb, h5, h6, h7, h8, h9⟩
  · exact .inl e0
  · exact .inr ⟨g, cap, cur, e0, hb, by rw [k.block g (by
      rcases Nat.lt_or_ge g w.heap.size with hlt | hge
      · exact hlt
      · simp [Array.getElem?_eq_none hge] at h5)]; exact h5, h6, h7, h8, h9⟩

/-- What Print answers. -/
inductive PrIs (xs : List Nat) (b : Int) : ByteArray → Int → Prop where
  | nat (h : MayL xs = false) : PrIs xs b (strB []) 20
  | base (h : MayL xs = true) (hb : ¬ (2 ≤ b ∧ b ≤ 36)) : PrIs xs b (strB []) 22
  | text (n : Nat) (h : MayL xs = true) (hb : 2 ≤ b ∧ b ≤ 36) (ht : TxtOf (val xs) b.toNat n) : PrIs xs b (strB (txtL (val xs) b.toNat n)) 0

theorem PrIs.uniq {xs : List Nat} {b : Int} {s t : ByteArray} {e f : Int} (h : PrIs xs b s e) (g : PrIs xs b t f) : s = t ∧ e = f := by
  cases h with
  | nat h =>
    cases g with
    | nat g => exact ⟨rfl, rfl⟩
    | base g gb => rw [h] at g; cases g
    | text m g gb gt => rw [h] at g; cases g
  | base h hb =>
    cases g with
    | nat g => rw [h] at g; cases g
    | base g gb => exact ⟨rfl, rfl⟩
    | text m g gb gt => exact absurd gb hb
  | text n h hb ht =>
    cases g with
    | nat g => rw [h] at g; cases g
    | base g gb => exact absurd hb gb
    | text m g gb gt => rw [ht.uniq (by omega) gt]; exact ⟨rfl, rfl⟩

def PrPost (xs : List Nat) (b : Int) (w : World) (e : Ending) (w' : World) : Prop :=
  ∃ s er, e = .returned (.tuple #[.string s, .int .i64 er]) ∧ PrIs xs b s er ∧ Below w.heap.size w w'

/-- What a round of sloperef1.Print leaves. -/
structure QpR (wr w : World) (V b : Nat) (v : Value) (k Q : Nat) (a : Option Addr) (m : Nat) : Prop where
  own : wr.ownsRow w.heap.size 5 1 v k (valsB (lst (fun p => chrN (dgt V b p)) k))
  sl : Sl wr a m m (limbs Q)
  q : Q = V / b ^ k
  top : k = 0 ∨ 0 < V / b ^ (k - 1)
  bel : Below w.heap.size w wr

theorem QpR.done {wr w : World} {V b : Nat} {v : Value} {k : Nat} {a : Option Addr} {m : Nat} (h : QpR wr w V b v k 0 a m) (hV : 0 < V) (hb : 2 ≤ b) : TxtOf V b k := by
  have hp : 0 < b ^ k := Nat.pow_pos (by omega)
  have h1 : V < b ^ k := by
    rcases Nat.lt_or_ge V (b ^ k) with e | e
    · exact e
    · have := Nat.div_pos e hp
      have := h.q
      omega
  rcases h.top with e | e
  · subst e; simp at h1; omega
  · have h2 : b ^ (k - 1) ≤ V := by
      rcases Nat.lt_or_ge V (b ^ (k - 1)) with g | g
      · rw [Nat.div_eq_of_lt g] at e; omega
      · exact g
    refine ⟨?_, h1, .inr h2⟩
    rcases Nat.eq_zero_or_pos k with g | g
    · subst g; simp at h1; omega
    · exact g

theorem QpR.len {wr w : World} {V b : Nat} {v : Value} {k Q : Nat} {a : Option Addr} {m n : Nat} (h : QpR wr w V b v k Q a m) (hb : 2 ≤ b) (hV : V < 2 ^ (32 * n)) : k ≤ 32 * n := by
  rcases h.top with e | e
  · omega
  · rcases Nat.eq_zero_or_pos k with g | g
    · omega
    have h2 : b ^ (k - 1) ≤ V := by
      rcases Nat.lt_or_ge V (b ^ (k - 1)) with g | g
      · rw [Nat.div_eq_of_lt g] at e; omega
      · exact g
    have h3 : 2 ^ (k - 1) ≤ b ^ (k - 1) := Nat.pow_le_pow_left hb _
    have h4 : 2 ^ (k - 1) < 2 ^ (32 * n) := by omega
    have := (Nat.pow_lt_pow_iff_right (by decide : 1 < 2)).1 h4
    omega

theorem QpR.step {wr w w1 : World} {V b : Nat} {v v' : Value} {k Q : Nat} {a a' : Option Addr} {m m' : Nat} {o : Obj} (h : QpR wr w V b v k Q a m) (hQ : 0 < Q) (hs : Sl wr a' m' m' (limbs (Q / b)))
    (hown : w1.ownsRow w.heap.size 5 1 v' (k + 1) (valsB (lst (fun p => chrN (dgt V b p)) k) ++ [.int .u8 (chrN (Q % b) : Nat)])) (hg : (wr.alloc o).grownBy w1 v.ownBlock) (hne : ∀ x, a' = some x → v.ownBlock ≠ some x.block) : QpR w1 w V b v' (k + 1) (Q / b) a' m' := by
  have hz := h.bel.size
  have hq := h.q
  refine ⟨?_, ?_, ?_, .inr ?_, Below.grown (h.bel.alloc (by omega) o) hg (by simp; omega) (fun k hk => (own_ge h.own k hk).1)⟩
  · have e : valsB (lst (fun p => chrN (dgt V b p)) k) ++ [.int .u8 (chrN (Q % b) : Nat)] = valsB (lst (fun p => chrN (dgt V b p)) (k + 1)) := by
      unfold valsB
      simp only [lst, List.range_succ, List.map_append, List.map_cons, List.map_nil]
      rw [hq]
      rfl
    rw [e] at hown
    exact hown
  · have hs1 : Sl (wr.alloc o) a' m' m' (limbs (Q / b)) := hs.below ((Below.refl _ _).alloc (Nat.le_refl _) o)
    exact hs1.chg (S := fun k => v.ownBlock = some k) (Chg.of_grown hg (fun k hk => hk)) (fun x hx _ => hne x hx)
  · rw [hq, Nat.div_div_eq_div_mul, ← Nat.pow_succ]
  · rw [Nat.add_sub_cancel, ← hq]; exact hQ

theorem FnB.slB {w : World} {b off n c : Nat} {f : Nat → Nat} (h : FnB w b off n f) (hc : n ≤ c) (hf : ∀ i, i < n → f i < 256) : SlB w (some ⟨b, off, none⟩) n c (lst f n) := by
  refine ⟨lst_len _ _, hc, fun x hx => ?_, .inr ⟨b, off, rfl, fun i hi => ?_⟩⟩
  · obtain ⟨i, hi, rfl⟩ := lst_mem hx
    exact hf i hi
  · rw [lst_len] at hi
    rw [lst_getD f n i hi]
    exact (h i hi).1
theorem chr_ok (V : Nat) {b : Nat} (hb : 2 ≤ b) (hb2 : b ≤ 36) (i : Nat) : chrN (dgt V b i) < 256 := chrN_lt (by have := dgt_lt V i (b := b) (by omega); omega)

theorem chr_up {D : Nat} (h : D < 10) : chrN D = 48 + D := by unfold chrN; rw [if_pos h]
theorem chr_low {D : Nat} (h : ¬ D < 10) : chrN D = 87 + D := by unfold chrN; rw [if_neg h]

set_option maxHeartbeats 8000000 in
/-- sloperef1.Print, of a number above 0. -/
theorem rprint_ok (a : Option Addr) (n c : Nat) (xs : List Nat) (b : Nat) (w : World) (h : Sl w a n c xs) (ox : Ok xs) (m : MayL xs = true) (hn0 : 0 < n) (hb : 2 ≤ b) (hb2 : b ≤ 36) :
    Calls Try.prog 13 #[.slice a n c, .int .i64 (b : Nat)] w fun e w' => PrPost xs (b : Nat) w e w' := by
  have KM := rmay_any a n c xs w h
  rw [m] at KM
  have KM' := hide KM
  have hn : n ≤ 2048 := by have := h.len; have := MayL.len m; omega
  have KT := hide (rtrim_any a n c xs w h ox (by omega))
  have hV0 : 0 < val xs := by
    have hx : xs ≠ [] := by intro e; have := h.len; rw [e] at this; simp at this; omega
    have a := val_ge_of_norm (MayL.norm m) hx
    have b := pow_pos (xs.length - 1)
    omega
  have hV2 : val xs < 2 ^ (32 * n) := by
    have h1 := val_lt ox
    rw [h.len, pow_limb] at h1
    exact h1
  have HM := hide m
  obtain ⟨i80, hi80, hz80, hs80, hb80⟩ := info_parts Try.info_u8
  have I80 := hide (And.intro hi80 (And.intro hz80 (And.intro hs80 hb80)))
  have HV := hide (And.intro hV0 hV2)
  obtain ⟨V, hV⟩ : ∃ V, val xs = V := ⟨_, rfl⟩
  have HVE := hide hV
  rw [hV] at KT HV
  have t0 : ((n:Int) == 0) = false := by simp; omega
  have t1 : ¬ (n:Int) = 0 := by omega
  have t2 : ¬ (b:Int) < 2 := by omega
  have t3 : ¬ (36:Int) < (b:Int) := by omega
  have t4 : decide ((b:Int) < 2) = false := decide_eq_false t2
  have t5 : decide ((36:Int) < (b:Int)) = false := decide_eq_false t3
  have wb : IntKind.u64.wrap (b:Int) = (b:Int) := by rw [IntKind.wrap_u64]; omega
  clear hi80 hz80 hs80 hb80 KM m hV hV0 hV2 h
  go_enter Try.func13, Try.ntmps13
  go_wp2_with fail
  refine (unhide KM').mono ?_
  rintro e w' ⟨rfl, hw⟩
  obtain rfl := hw.symm
  clear hw KM'
  go_wp2_with fail
  refine (unhide KT).mono ?_
  rintro _ w1 ⟨a1, m1, y1, rfl, s1, r1, n1, b1⟩
  rw [r1.eq] at s1
  have H1 := hide (And.intro s1 (And.intro n1 b1))
  clear s1 r1 n1 b1 KT
  go_wp2_with fail
  have HR0 := hide (show QpR w1 w V b (.slice none 0 0) 0 V a1 m1 from ⟨World.ownsRow_nil _ _ _ _, (unhide H1).1, by simp, .inl rfl, (unhide H1).2.2⟩)
  go_loopg [6, 7] V (fun gq bv lv wr => ∃ k Q a m, lv = .slice a m m ∧ Q ≤ gq ∧ QpR wr w V b bv k Q a m)
  case atStart => exact ⟨0, V, _, _, rfl, Nat.le_refl _, unhide HR0⟩
  case round =>
    clear HR0 H1
    obtain ⟨k, Q, al, ml, rfl, hgq, hR⟩ := hrel
    by_cases hQ : Q = 0
    · subst hQ
      have hm0 : ml = 0 := by have := hR.sl.len; simpa [limbs_zero] using this.symm
      subst hm0
      obtain ⟨av, cv, rfl⟩ := own_len hR.own
      have hT := hR.done (unhide HV).1 hb
      have hk := hR.len hb (unhide HV).2
      obtain ⟨wq, rfl⟩ : ∃ wq, wq = wr := ⟨wr, rfl⟩
      have hmk := make_b k (by omega)
      have HF := hide (FnB.made wq k 5)
      have HB := hide ((Below.refl wq.heap.size wq).alloc (Nat.le_refl _) (.cells (madeCells #[.int .u8 0] k) 5))
      have hkp := hT.pos
      have HT := hide hT
      have HR := hide hR
      clear hR hT
      have hk6 : k ≤ 65536 := by omega
      clear hk
      go_wp2_with fail
      obtain ⟨ab, cb, hve, hsB⟩ := own_slB (unhide HR).own (fun x hx => by obtain ⟨i, hi, rfl⟩ := lst_mem hx; exact chr_ok V hb hb2 i)
      cases hve
      have HSB := hide hsB
      clear hsB
      go_loopw [11] (fun iv w2 => ∃ i : Nat, i ≤ k ∧ iv = .int .i64 (i : Nat) ∧ FnB w2 wq.heap.size 0 k (fun p => if p < i then chrN (dgt V b (k - 1 - p)) else 0) ∧ Below wq.heap.size wq w2) (fun iv _ => k - (intOf iv).toNat)
      case atStart => exact ⟨0, Nat.zero_le _, rfl, (unhide HF).congr (fun i hi => by simp), unhide HB⟩
      case round =>
        obtain ⟨i, hi, rfl, hF, hB⟩ := hrel
        clear HF HB
        by_cases hik : i < k
        · have t6 : (i:Int) < (k:Int) := by omega
          have t7 : (k:Int) - 1 - (i:Int) = ((k - 1 - i : Nat) : Int) := by omega
          have hne : lst (fun p => chrN (dgt V b p)) k ≠ [] := by
            intro e
            have := congrArg List.length e
            rw [lst_len] at this
            simp at this
            omega
          obtain ⟨bb, ob, rfl, hcell⟩ := (((unhide HSB).below hB)).cells.resolve_left hne
          have g1 := hcell (k - 1 - i) (by rw [lst_len]; omega)
          rw [lst_getD _ _ _ (by omega)] at g1
          have hz := chr_ok V hb hb2 (k - 1 - i)
          have f1 := (hF i hik).1
          have f2 := (hF i hik).2
          rw [Nat.zero_add] at f1 f2
          have hset := hF.set i (chrN (dgt V b (k - 1 - i))) hik
          rw [Nat.zero_add] at hset
          have HN := hide (show FnB _ wq.heap.size 0 k (fun p => if p < i + 1 then chrN (dgt V b (k - 1 - p)) else 0) from hset.congr (fun p hp => by
            by_cases e : p = i
            · subst e; simp
            · by_cases e2 : p < i
              · simp [e, e2, Nat.lt_succ_of_lt e2]
              · simp only [e, e2, if_false]
                rw [if_neg (by omega)]))
          have HB2 := hide (hB.setCell (p := ⟨wq.heap.size, i, none⟩) (Nat.le_refl _) (.int .u8 (chrN (dgt V b (k - 1 - i)) : Nat)))
          have hq : k - 1 - i < k := by omega
          generalize chrN (dgt V b (k - 1 - i)) = z at *
          generalize k - 1 - i = q at *
          clear hset hcell hne hF hB
          go_wp2_with fail
          exact ⟨⟨i + 1, by omega, by go_num, unhide HN, unhide HB2⟩, by simp [intOf]; omega⟩
        · obtain rfl : i = k := by omega
          have t6 : ¬ (i:Int) < (i:Int) := by omega
          have hfin : FnB wr wq.heap.size 0 i (fun p => chrN (dgt V b (i - 1 - p))) := hF.congr (fun p hp => by simp [hp])
          have kc := (hfin.slB (c := i) (Nat.le_refl _) (fun p hp => chr_ok V hb hb2 _)).conv
          have HX := hide (show PrIs xs (b : Nat) (strB (lst (fun p => chrN (dgt V b (i - 1 - p))) i)) 0 from by
            have := PrIs.text (xs := xs) (b := (b : Int)) i (unhide HM) (by omega) (by rw [unhide HVE]; exact unhide HT)
            rw [unhide HVE] at this
            exact this)
          have HB2 := hide ((unhide HR).bel.trans (hB.mono (unhide HR).bel.size))
          generalize strB (lst (fun p => chrN (dgt V b (i - 1 - p))) i) = S at *
          clear hF hB hfin
          go_wp2_with fail
          go_ret2
          exact ⟨S, 0, rfl, unhide HX, unhide HB2⟩
    · have hml : 0 < ml := by
        have := hR.sl.len
        rcases Nat.eq_zero_or_pos ml with e | e
        · exfalso
          rw [e] at this
          have h0 := (limbs_rep Q).val
          rw [List.eq_nil_of_length_eq_zero this] at h0
          simp [val] at h0
          omega
        · exact e
      have hml' : (0:Int) < (ml:Int) := by omega
      have hk := hR.len hb (unhide HV).2
      have hQ2 : ml ≤ 70368744177600 := by
        have h1 : Q ≤ V := by rw [hR.q]; exact Nat.div_le_self _ _
        have h2 : Q < 4294967296 ^ n := by rw [pow_limb]; have := (unhide HV).2; omega
        have h3 := rep_len_leS (limbs_rep Q) h2
        have h4 := hR.sl.len
        omega
      have KB := hide (rby_any al ml ml (limbs Q) b wr hR.sl (limbs_rep Q).ok hQ2 (by omega) hb2)
      rw [(limbs_rep Q).val] at KB
      have hDb : Q % b < b := Nat.mod_lt _ (by omega)
      have HQb := hide (And.intro (show 0 < Q by omega) (show Q / b < Q from Nat.div_lt_self (by omega) hb))
      obtain ⟨av, cv, rfl⟩ := own_len hR.own
      have HR := hide hR
      clear hR hQ
      obtain ⟨D, hD⟩ : ∃ D, Q % b = D := ⟨_, rfl⟩
      have HD := hide hD
      rw [hD] at KB hDb
      clear hD
      obtain ⟨Q', hQ'⟩ : ∃ Q', Q / b = Q' := ⟨_, rfl⟩
      have HQ' := hide hQ'
      rw [hQ'] at KB
      clear hQ'
      go_wp2_with fail
      refine (unhide KB).mono ?_
      rintro _ w2 ⟨a2, m2, rfl, s2, n2, b2⟩
      have hR2 : QpR w2 w V b (.slice av k cv) k Q al ml := ⟨ownsRow_below (unhide HR).own b2, (unhide HR).sl.below b2, (unhide HR).q, (unhide HR).top, (unhide HR).bel.trans (b2.mono (unhide HR).bel.size)⟩
      have hne : ∀ x, a2 = some x → (Value.slice av k cv).ownBlock ≠ some x.block := fun x hx he => by
        have h1 := (own_ge (unhide HR).own _ he).2
        have h2 := n2 x hx
        omega
      have HR2 := hide hR2
      have HS := hide (And.intro s2 hne)
      have hsz := hR2.bel.size
      clear hR2 s2 n2 b2 hne HR KB
      by_cases hd : D < 10
      · have d1 : (D:Int) < 10 := by omega
        have HC := hide (chr_up hd)
        have e1 : (48:Int) + (D:Int) = ((48 + D : Nat) : Int) := by omega
        have e2 : 48 + D < 256 := by omega
        generalize 48 + D = z at *
        clear hd
        go_wp2_with (at_builtin; refine wpList_append_lies _ rfl _ _ 53 rfl w.heap.size 5 i80 (.int .u8 0) 1 1 Try.underlying53 (unhide I80).1 (unhide I80).2.1 (unhide I80).2.2.1 (unhide I80).2.2.2 rfl (by decide) _ k _ rfl ((unhide HR2).own.alloc _) ⟨w2.heap.size, 0, none⟩ 1 1 [.int .u8 (z : Nat)] rfl rfl (World.news_of_block (alloc_block _ _)) one_int (by decide) ?c31 ?c41 ?c51 (w2.heap.size + 1) (by simp) ?_)
        case c31 => unfold maxLen; omega
        case c41 => omega
        case c51 => simp; omega
        intro g1' cc w3 hown hgrow hat hlt2
        have HN := hide ((unhide HR2).step (unhide HQb).1 (by rw [unhide HQ']; exact (unhide HS).1) (by rw [unhide HD, unhide HC]; exact hown) hgrow (unhide HS).2)
        clear hown hgrow hat hlt2
        go_wp2_with fail
        go_roundg Q'
        case measure => rw [← unhide HQ']; exact Nat.lt_of_lt_of_le (unhide HQb).2 hgq
        case rel => exact ⟨k + 1, Q', a2, m2, rfl, Nat.le_refl _, by have := unhide HN; rwa [unhide HQ'] at this⟩
      · have d1 : ¬ (D:Int) < 10 := by omega
        have HC := hide (chr_low hd)
        have e0 : (97:Int) + (D:Int) - 10 = ((87 + D : Nat) : Int) := by omega
        have e3 : IntKind.u64.wrap ((97:Int) + (D:Int)) = (97:Int) + (D:Int) := by rw [IntKind.wrap_u64]; omega
        have e4 : IntKind.u64.wrap ((97:Int) + (D:Int) - 10) = ((87 + D : Nat) : Int) := by rw [IntKind.wrap_u64]; omega
        have e2 : 87 + D < 256 := by omega
        generalize 87 + D = z at *
        clear hd
        go_wp2_with (at_builtin; refine wpList_append_lies _ rfl _ _ 53 rfl w.heap.size 5 i80 (.int .u8 0) 1 1 Try.underlying53 (unhide I80).1 (unhide I80).2.1 (unhide I80).2.2.1 (unhide I80).2.2.2 rfl (by decide) _ k _ rfl ((unhide HR2).own.alloc _) ⟨w2.heap.size, 0, none⟩ 1 1 [.int .u8 (z : Nat)] rfl rfl (World.news_of_block (alloc_block _ _)) one_int (by decide) ?c31 ?c41 ?c51 (w2.heap.size + 1) (by simp) ?_)
        case c31 => unfold maxLen; omega
        case c41 => omega
        case c51 => simp; omega
        intro g1' cc w3 hown hgrow hat hlt2
        have HN := hide ((unhide HR2).step (unhide HQb).1 (by rw [unhide HQ']; exact (unhide HS).1) (by rw [unhide HD, unhide HC]; exact hown) hgrow (unhide HS).2)
        clear hown hgrow hat hlt2
        go_wp2_with fail
        go_roundg Q'
        case measure => rw [← unhide HQ']; exact Nat.lt_of_lt_of_le (unhide HQb).2 hgq
        case rel => exact ⟨k + 1, Q', a2, m2, rfl, Nat.le_refl _, by have := unhide HN; rwa [unhide HQ'] at this⟩
open Go.RowKit Go.Deep
set_option linter.unusedVariables false

theorem txt_zero {b : Nat} (hb : 2 ≤ b) : TxtOf 0 b 1 := ⟨Nat.le_refl _, by simp; omega, .inl rfl⟩
theorem txtL_zero (b : Nat) : txtL 0 b 1 = [48] := by
  unfold txtL lst dgt chrN
  simp

set_option maxHeartbeats 4000000 in
theorem rprint_any (a : Option Addr) (n c : Nat) (xs : List Nat) (b : Int) (w : World) (h : Sl w a n c xs) (ox : Ok xs) :
    Calls Try.prog 13 #[.slice a n c, .int .i64 b] w fun e w' => PrPost xs b w e w' := by
  have KM := rmay_any a n c xs w h
  by_cases m : MayL xs = true
  · by_cases hb1 : b < 2
    · rw [m] at KM
      have KM' := hide KM
      have HM := hide m
      clear KM m h
      go_enter Try.func13, Try.ntmps13
      go_wp2_with fail
      refine (unhide KM').mono ?_
      rintro e w' ⟨rfl, hw⟩
      obtain rfl := hw.symm
      clear hw KM'
      go_wp2_with fail
      go_ret2
      exact ⟨_, _, rfl, .base (unhide HM) (by omega), Below.refl _ _⟩
    by_cases hb2 : 36 < b
    · rw [m] at KM
      have KM' := hide KM
      have HM := hide m
      clear KM m h
      go_enter Try.func13, Try.ntmps13
      go_wp2_with fail
      refine (unhide KM').mono ?_
      rintro e w' ⟨rfl, hw⟩
      obtain rfl := hw.symm
      clear hw KM'
      go_wp2_with fail
      go_ret2
      exact ⟨_, _, rfl, .base (unhide HM) (by omega), Below.refl _ _⟩
    obtain ⟨k, rfl⟩ : ∃ k : Nat, b = (k : Int) := ⟨b.toNat, by omega⟩
    by_cases hn : n = 0
    · subst hn
      rw [m] at KM
      have KM' := hide KM
      have hx : xs = [] := List.eq_nil_of_length_eq_zero h.len
      have HX := hide (show PrIs xs (k : Nat) (strB [48]) 0 from by
        have := PrIs.text (xs := xs) (b := (k : Int)) 1 m (by omega) (by rw [hx]; exact txt_zero (by omega))
        rw [hx] at this ⊢
        rwa [show val [] = 0 from rfl, txtL_zero] at this)
      clear KM m h hx
      go_enter Try.func13, Try.ntmps13
      go_wp2_with fail
      refine (unhide KM').mono ?_
      rintro e w' ⟨rfl, hw⟩
      obtain rfl := hw.symm
      clear hw KM'
      go_wp2_with fail
      go_ret2
      exact ⟨_, _, rfl, unhide HX, Below.refl _ _⟩
    · exact rprint_ok a n c xs k w h ox m (by omega) (by omega) (by omega)
  · have m' : MayL xs = false := by simpa using m
    rw [m'] at KM
    have KM' := hide KM
    have HM := hide m'
    clear KM m m' h
    go_enter Try.func13, Try.ntmps13
    go_wp2_with fail
    refine (unhide KM').mono ?_
    rintro e w' ⟨rfl, hw⟩
    obtain rfl := hw.symm
    clear hw KM'
    go_wp2_with fail
    go_ret2
    exact ⟨_, _, rfl, .nat (unhide HM), Below.refl _ _⟩
end Go.Proofs.Ytlecjjcpidjmhaa
