/-
  sloperef1.Bytes: contract.
-/
import Derived.Test.YtpnhmaenmmelnaaBy1
import Derived.Test.YtpnhmaenmmelnaaRAdd
namespace Go.Proofs.Ytpnhmaenmmelnaa
open Go.RowKit Go.Deep
set_option linter.unusedVariables false

theorem byte_high {xs : List Nat} (ox : Ok xs) {i : Nat} (h : bytesN xs ≤ i) : byteN (val xs) i = 0 := by
  unfold byteN
  rw [Nat.div_eq_of_lt, Nat.zero_mod]
  refine Nat.lt_of_lt_of_le (val_lt_bits ox) ?_
  rw [show (256:Nat) = 2 ^ 8 from rfl, ← Nat.pow_mul]
  refine Nat.pow_le_pow_right (by decide) ?_
  unfold bytesN at h
  omega
theorem byte_top {xs : List Nat} (ox : Ok xs) (nx : Norm xs) (h : 0 < bytesN xs) : byteN (val xs) (bytesN xs - 1) ≠ 0 := by
  have hx : xs ≠ [] := by intro e; rw [e] at h; simp [bytesN, bitsN] at h
  have hh := val_ge_bits ox nx hx
  have e : bitsN xs = bitsL xs := by unfold bitsN; rw [if_neg hx]
  unfold byteN
  have h1 : 256 ^ (bytesN xs - 1) ≤ val xs := by
    rw [show (256:Nat) = 2 ^ 8 from rfl, ← Nat.pow_mul]
    refine Nat.le_trans (Nat.pow_le_pow_right (by decide) ?_) hh.2
    unfold bytesN at h ⊢
    omega
  have h2 : val xs < 256 ^ (bytesN xs - 1) * 256 := by
    rw [← Nat.pow_succ, show (256:Nat) = 2 ^ 8 from rfl, ← Nat.pow_mul]
    refine Nat.lt_of_lt_of_le (val_lt_bits ox) (Nat.pow_le_pow_right (by decide) ?_)
    unfold bytesN at h ⊢
    omega
  have hp : 0 < 256 ^ (bytesN xs - 1) := Nat.pow_pos (by decide)
  have h3 : 1 ≤ val xs / 256 ^ (bytesN xs - 1) := (Nat.le_div_iff_mul_le hp).2 (by omega)
  have h4 : val xs / 256 ^ (bytesN xs - 1) < 256 := (Nat.div_lt_iff_lt_mul hp).2 (by rw [Nat.mul_comm]; exact h2)
  rw [Nat.mod_eq_of_lt h4]
  omega

def valsB (xs : List Nat) : List Value := xs.map (fun x => .int .u8 (x : Nat))
/-- The bytes that sloperef1.Bytes has behind k bytes to go. -/
def outB (xs : List Nat) (k : Nat) : List Nat := lst (fun p => byteN (val xs) (bytesN xs - 1 - p)) (bytesN xs - k)

structure ByR (wr w : World) (xs : List Nat) (v : Value) (k : Nat) : Prop where
  own : wr.ownsRow w.heap.size 5 1 v (bytesN xs - k) (valsB (outB xs k))
  bel : Below w.heap.size w wr

theorem ByR.step {wr w w1 : World} {xs : List Nat} {v v' : Value} {k : Nat} {o : Obj} (h : ByR wr w xs v (k + 1)) (hk : k < bytesN xs)
    (hown : w1.ownsRow w.heap.size 5 1 v' (bytesN xs - (k + 1) + 1) (valsB (outB xs (k + 1)) ++ [.int .u8 (byteN (val xs) k : Nat)])) (hg : (wr.alloc o).grownBy w1 v.ownBlock) : ByR w1 w xs v' k := by
  have hs := h.bel.size
  refine ⟨?_, Below.grown (h.bel.alloc (by omega) o) hg (by simp; omega) (fun k hk => (own_ge h.own k hk).1)⟩
  have e1 : bytesN xs - (k + 1) + 1 = bytesN xs - k := by omega
  have e : valsB (outB xs (k + 1)) ++ [.int .u8 (byteN (val xs) k : Nat)] = valsB (outB xs k) := by
    unfold outB valsB
    rw [← e1]
    simp only [lst, List.range_succ, List.map_append, List.map_cons, List.map_nil]
    rw [show bytesN xs - 1 - (bytesN xs - (k + 1)) = k from by omega]
  rw [e, e1] at hown
  exact hown
theorem ByR.skip {wr w : World} {xs : List Nat} {v : Value} {k : Nat} (h : ByR wr w xs v (k + 1)) (hk : bytesN xs ≤ k) : ByR wr w xs v k := by
  have e : bytesN xs - (k + 1) = bytesN xs - k := by omega
  refine ⟨?_, h.bel⟩
  have := h.own
  unfold outB at *
  rw [e] at this
  exact this

theorem own_len {w : World} {base k : Nat} {e : TypeId} {v : Value} {ws : List Value} (h : w.ownsRow base e 1 v k ws) : ∃ a c, v = .slice a k c := by
  rcases h.2 with ⟨e, h0⟩ | ⟨g, cap, cur, e, hb, h5, h6, h7, h8, h9⟩
  · subst e h0
    exact ⟨none, 0, rfl⟩
  · subst e
    exact ⟨_, _, rfl⟩

def RbPost (w : World) (xs : List Nat) (e : Ending) (w' : World) : Prop :=
  ∃ v, e = .returned (.tuple #[v, .int .i64 0]) ∧ w'.ownsRow w.heap.size 5 1 v (bytesN xs) (valsB (outB xs 0)) ∧ Below w.heap.size w w'

set_option maxHeartbeats 4000000 in
/-- sloperef1.Bytes. -/
theorem rbytes_ok (a : Option Addr) (n c : Nat) (xs : List Nat) (w : World) (h : Sl w a n c xs) (ox : Ok xs) (m : MayL xs = true) :
    Calls Try.prog 23 #[.slice a n c] w fun e w' => RbPost w xs e w' := by
  have KM := rmay_any a n c xs w h
  rw [m] at KM
  have KM' := hide KM
  have hn : n ≤ 2048 := by have := h.len; have := MayL.len m; omega
  have hL : bytesN xs ≤ 4 * n := by
    unfold bytesN
    by_cases hx : xs = []
    · rw [hx]; simp [bitsN]
    · have hh := val_ge_bits ox (MayL.norm m) hx
      have e : bitsN xs = bitsL xs := by unfold bitsN; rw [if_neg hx]
      have h1 := val_lt ox
      rw [h.len, pow_limb] at h1
      have h2 : 2 ^ (bitsL xs - 1) < 2 ^ (32 * n) := Nat.lt_of_le_of_lt hh.2 h1
      have := (Nat.pow_lt_pow_iff_right (by decide : 1 < 2)).1 h2
      omega
  have H := hide h
  have HL := hide h.len
  have HTop := hide (fun hp => byte_top ox (MayL.norm m) hp)
  obtain ⟨i80, hi80, hz80, hs80, hb80⟩ := info_parts Try.info_u8
  have I80 := hide (And.intro hi80 (And.intro hz80 (And.intro hs80 hb80)))
  clear hi80 hz80 hs80 hb80 KM h m
  go_enter Try.func23, Try.ntmps23
  go_wp2_with fail
  refine (unhide KM').mono ?_
  rintro e w' ⟨rfl, hw⟩
  obtain rfl := hw.symm
  clear hw KM'
  go_wp2_with fail
  go_loopw [4, 5] (fun v iv wr => ∃ k : Nat, k ≤ 4 * n ∧ iv = .int .i64 ((k : Int) - 1) ∧ ByR wr w xs v k) (fun _ iv _ => (intOf iv + 1).toNat)
  case atStart =>
    refine ⟨4 * n, Nat.le_refl _, by go_num, ?_, Below.refl _ _⟩
    have e : bytesN xs - 4 * n = 0 := by omega
    unfold outB
    rw [e]
    exact World.ownsRow_nil _ _ _ _
  case round =>
    obtain ⟨k, hk, rfl, hR⟩ := hrel
    rcases k with _ | k
    · have t0 : ¬ (0:Int) ≤ ((0:Nat):Int) - 1 := by omega
      have HN := hide (And.intro hR.own hR.bel)
      clear hR
      go_wp2_with fail
      go_ret2
      exact ⟨_, rfl, (unhide HN).1, (unhide HN).2⟩
    · have t0 : ((k + 1 : Nat) : Int) - 1 = (k : Int) := by omega
      rw [t0]
      have t1 : (0:Int) ≤ (k:Int) := by omega
      obtain ⟨l, hl⟩ : ∃ l, k / 4 = l := ⟨_, rfl⟩
      obtain ⟨s, hs⟩ : ∃ s, k % 4 = s := ⟨_, rfl⟩
      have hln : l < n := by omega
      have hln' : (l:Int) < (n:Int) := by omega
      have a1 : (k:Int).tdiv 4 = (l:Int) := by rw [Int.tdiv_eq_ediv_of_nonneg (by omega)]; omega
      have a2 : (k:Int) / 4 = (l:Int) := by omega
      have a3 : (k:Int).tmod 4 = (s:Int) := by rw [Int.tmod_eq_emod_of_nonneg (by omega)]; omega
      have a4 : (k:Int) % 4 = (s:Int) := by omega
      have hxne : xs ≠ [] := by intro e; have := unhide HL; rw [e] at this; simp at this; omega
      obtain ⟨b1, o1, rfl, hx⟩ := (unhide H).cells.resolve_left hxne
      have g0 := hx l (by rw [unhide HL]; exact hln)
      have g1 : wr.cell? ⟨b1, o1 + l, none⟩ = _ := (hR.bel.cell (World.block_lt_of_cell? _ _ g0)).trans g0
      have eB := byte_limb ox hl hs
      have bx := ox.getD l
      have b8 : (8:Int) * (s:Int) = ((8 * s : Nat) : Int) := by omega
      obtain ⟨av, cv, rfl⟩ := own_len hR.own
      have HR := hide hR
      generalize xs.getD l 0 = x at *
      have e1 : (x:Int) / 2 ^ (8 * s) = ((x / 2 ^ (8 * s) : Nat) : Int) := by rw [Int.natCast_ediv, Int.natCast_pow]; rfl
      have hy : x / 2 ^ (8 * s) < 4294967296 := Nat.lt_of_le_of_lt (Nat.div_le_self _ _) bx
      have hs24 : 8 * s ≤ 24 := by omega
      generalize 8 * s = t at *
      generalize x / 2 ^ t = y at *
      have e2 : (y:Int) % 256 = ((y % 256 : Nat) : Int) := by omega
      have hz256 : y % 256 < 256 := Nat.mod_lt _ (by decide)
      generalize y % 256 = z at *
      have HZ := hide eB
      clear hR hx hxne g0 eB hl hs
      obtain ⟨q, hq⟩ : ∃ q, bytesN xs - (k + 1) = q := ⟨_, rfl⟩
      have hq8 : q ≤ 8192 := by omega
      have HRq := hide (show ByR wr w xs (.slice av q cv) (k + 1) from by have := unhide HR; rwa [hq] at this)
      have HO := hide (show wr.ownsRow w.heap.size 5 1 (.slice av q cv) q (valsB (outB xs (k + 1))) from by have := (unhide HR).own; rwa [hq] at this)
      by_cases hT : k < bytesN xs
      · have HTT := hide hT
        have hz1 : (z ≠ 0 ∧ True) ∨ (z = 0 ∧ 0 < q) := by
          by_cases hz0 : z = 0
          · right
            refine ⟨hz0, ?_⟩
            rcases Nat.eq_zero_or_pos q with e | e
            · exfalso
              have := unhide HTop (by omega)
              rw [show bytesN xs - 1 = k from by omega, unhide HZ] at this
              exact this hz0
            · exact e
          · exact .inl ⟨hz0, trivial⟩
        have HQ := hide hq
        rw [hq]
        clear hT hq hL
        rcases hz1 with ⟨hz0, _⟩ | ⟨hz0, hq0⟩
        · have z1 : ((z:Int) == 0) = false := by simp; omega
          have z2 : ¬ (z:Int) = 0 := by omega
          go_wp2_with (at_builtin; refine wpList_append_lies _ rfl _ _ 53 rfl w.heap.size 5 i80 (.int .u8 0) 1 1 Try.underlying53 (unhide I80).1 (unhide I80).2.1 (unhide I80).2.2.1 (unhide I80).2.2.2 rfl (by decide) _ q _ rfl ((unhide HO).alloc _) ⟨wr.heap.size, 0, none⟩ 1 1 [.int .u8 (z : Nat)] rfl rfl (World.news_of_block (alloc_block _ _)) one_int (by decide) ?c31 ?c41 ?c51 (wr.heap.size + 1) (by simp) ?_)
          case c31 => unfold maxLen; omega
          case c41 => omega
          case c51 => have := (unhide HR).bel.size; simp; omega
          intro g1' cc w2 hown hgrow hat hlt2
          have HN := hide ((unhide HRq).step (unhide HTT) (by rw [unhide HZ, unhide HQ]; exact hown) hgrow)
          clear hown hgrow hat hlt2
          go_wp2
          exact ⟨⟨k, by omega, rfl, unhide HN⟩, by show ((k:Int) - 1 + 1).toNat < ((k:Int) + 1).toNat; omega⟩
        · have hq0' : (0:Int) < (q:Int) := by omega
          subst hz0
          go_wp2_with (at_builtin; refine wpList_append_lies _ rfl _ _ 53 rfl w.heap.size 5 i80 (.int .u8 0) 1 1 Try.underlying53 (unhide I80).1 (unhide I80).2.1 (unhide I80).2.2.1 (unhide I80).2.2.2 rfl (by decide) _ q _ rfl ((unhide HO).alloc _) ⟨wr.heap.size, 0, none⟩ 1 1 [.int .u8 0] rfl rfl (World.news_of_block (alloc_block _ _)) one_int (by decide) ?c31 ?c41 ?c51 (wr.heap.size + 1) (by simp) ?_)
          case c31 => unfold maxLen; omega
          case c41 => omega
          case c51 => have := (unhide HR).bel.size; simp; omega
          intro g1' cc w2 hown hgrow hat hlt2
          have HN := hide ((unhide HRq).step (unhide HTT) (by rw [unhide HZ, unhide HQ]; exact hown) hgrow)
          clear hown hgrow hat hlt2
          go_wp2
          exact ⟨⟨k, by omega, rfl, unhide HN⟩, by show ((k:Int) - 1 + 1).toNat < ((k:Int) + 1).toNat; omega⟩
      · have hz0 : z = 0 := by rw [← unhide HZ]; exact byte_high ox (by omega)
        have hlen : q = 0 := by omega
        have HN := hide ((unhide HRq).skip (by omega))
        clear HRq
        rw [hq]
        clear HO hq
        subst hz0
        subst hlen
        go_wp2_with fail
        exact ⟨⟨k, by omega, rfl, unhide HN⟩, by show ((k:Int) - 1 + 1).toNat < ((k:Int) + 1).toNat; omega⟩
end Go.Proofs.Ytpnhmaenmmelnaa
