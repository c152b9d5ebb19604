/-
  natural.multiplyPieces: the walk.
-/
import Derived.Test.YtlecjjcpidjmhaaKar
namespace Go.Proofs.Ytlecjjcpidjmhaa
open Go.RowKit Go.Deep
set_option linter.unusedVariables false

theorem Sl.part {w : World} {b off n c : Nat} {xs : List Nat} (h : Sl w (some ⟨b, off, none⟩) n c xs) (k p c' : Nat) (hp : k + p ≤ n) (hc : p ≤ c') (hm : c' ≤ maxLen) : Sl w (some ⟨b, off + k, none⟩) p c' ((xs.drop k).take p) := by
  have hl := h.len
  refine ⟨by simp; omega, hc, hm, ?_⟩
  rcases h.cells with e | ⟨b', o', e, hh⟩
  · left; subst e; simp
  · right
    injection e with e
    injection e with e1 e2
    subst e1 e2
    refine ⟨_, _, rfl, ?_⟩
    intro i hi
    have hi' : i < p := by simp at hi; omega
    have := hh (k + i) (by omega)
    rw [← Nat.add_assoc] at this
    rw [this]
    simp [List.getD, hi']

/-- What a piece's product needs. -/
theorem piece_mul {N n1 n2 p k c2 b1 o1 : Nat} {a2 : Option Addr} {xs ys : List Nat} (IH : MI N) (hN : p + n2 ≤ N) (hb : p + n2 ≤ 70368744177000) (ox : Ok xs) (oy : Ok ys) (hp : k + p ≤ n1) (w : World) {c1 : Nat} (h1 : Sl w (some ⟨b1, o1, none⟩) n1 c1 xs) (h2 : Sl w a2 n2 c2 ys) :
    Calls Try.prog 61 #[.slice (some ⟨b1, o1 + k, none⟩) p p, .slice a2 n2 c2] w fun e w' => NewRep w w' (val ((xs.drop k).take p) * val ys) e :=
  multiply_of _ a2 p p n2 c2 _ ys w (h1.part k p p hp (Nat.le_refl _) (by unfold maxLen; omega)) h2 ((ox.drop k).take p) oy hb (fun w bz oz nz cz h => IH w bz oz nz cz _ p p _ a2 n2 c2 ys hN h)

theorem Sl.upd {w w' : World} {b off n c bz lo hi : Nat} {xs : List Nat} (h : Sl w (some ⟨b, off, none⟩) n c xs) (u : Upd bz lo hi w w') (hd : b ≠ bz ∨ off + xs.length ≤ lo ∨ hi ≤ off) : Sl w' (some ⟨b, off, none⟩) n c xs := by
  refine ⟨h.len, h.le, h.cap, ?_⟩
  rcases h.cells with e | ⟨b', o', e, hh⟩
  · exact .inl e
  · right
    injection e with e
    injection e with e1 e2
    subst e1 e2
    exact ⟨_, _, rfl, u.cells hh hd⟩

theorem piece_add {wr w w5 : World} {bz oz nz cz n1 n2 m : Nat} {a' : Option Addr} {xs ys zs : List Nat} {k p k' : Nat} {f : Nat → Nat} (h : PieceR wr w bz oz nz xs ys k f) (hl1 : xs.length = n1) (hl2 : ys.length = n2) (hnz : n1 + n2 = nz) (hbig : nz ≤ 1000000000) (ox : Ok xs) (oy : Ok ys) (hp : k + p ≤ n1) (hn2 : 0 < n2)
    (hk' : xs.take k' = xs.take (k + p)) (b5 : Below wr.heap.size wr.drew w5) (hs : Sl w5 a' m m zs) (hr : Rep (val ((xs.drop k).take p) * val ys) zs) (ha : NewAt wr.heap.size a') :
    Calls Try.prog 72 #[.slice (some ⟨bz, oz + k, none⟩) (nz - k) (cz - k), .slice a' m m] w5 fun e w6 => ∃ c : Nat, e = .returned (.int .u32 (c : Nat)) ∧ ∃ g, PieceR w6 w bz oz nz xs ys k' g := by
  have b5' : Below wr.heap.size wr w5 := (Below.drew (Below.refl _ _)).trans b5
  have hbz : bz < wr.heap.size := World.block_lt_of_cell? _ _ (h.fn 0 (by omega)).1
  have hlen : m ≤ nz - k := by
    rw [← hs.len]
    refine Nat.le_trans (rep_len_le (j := p + n2) hr ?_) (by omega)
    have a1 := take_lt (ox.drop k) p (by simp; omega)
    have a2 := val_lt oy
    rw [Nat.pow_add, ← hl2]
    exact Nat.mul_lt_mul_of_lt_of_le a1 (by omega) (pow_pos _)
  refine (addTo_any bz (oz + k) (nz - k) (cz - k) m m a' (fun i => f (k + i)) zs w5 hs (fun x hx _ => by have := ha x hx; omega) hlen (by unfold maxLen; omega) hr.ok (fun i hi => h.ok _ (by omega)) ((h.fn.below b5').part k (nz - k) (by omega))).mono ?_
  rintro e w6 ⟨f', c, rfl, hc, hF, hok, hval, hupd⟩
  rw [hr.val] at hval
  exact ⟨c, rfl, h.step hl1 hl2 hnz ox oy hp hk' hbz b5' hF hok hval hupd⟩

set_option maxHeartbeats 4000000 in
theorem pieces_some (bz oz nz cz b1 o1 n1 c1 b2 o2 n2 c2 : Nat) (xs ys : List Nat) (w : World) (h : MulPre w bz oz nz cz (some ⟨b1, o1, none⟩) n1 c1 xs (some ⟨b2, o2, none⟩) n2 c2 ys) (h48 : 48 ≤ n2) (hhalf : 2 * n2 ≤ n1 + 1) (hbig : nz ≤ 1000000000) (N : Nat) (hN : n1 + n2 ≤ N + 1) (IH : MI N) :
    Calls Try.prog 81 #[.slice (some ⟨bz, oz, none⟩) nz cz, .slice (some ⟨b1, o1, none⟩) n1 c1, .slice (some ⟨b2, o2, none⟩) n2 c2] w fun e w' => MulPost w bz oz nz (val xs * val ys) e w' := by
  have HP := hide h
  have HI := hide IH
  have HX := hide (show xs ≠ [] from by intro e; have := h.h1.len; rw [e] at this; simp at this; omega)
  have HY := hide (show ys ≠ [] from by intro e; have := h.h2.len; rw [e] at this; simp at this; omega)
  have hcz := h.hcz
  have hc1 := h.h1.le
  have hnz1 : n1 + n2 ≤ nz := by have := h.hnz; omega
  have hnz2 : nz ≤ n1 + n2 := by have := h.hnz; omega
  have hR0 : PieceR w w bz oz nz xs ys 0 (fun _ => 0) := ⟨h.hz, fun _ _ => by decide, by simp [val, valF_zero], Upd.refl _ _ _ _⟩
  clear h IH
  go_enter Try.func81, Try.ntmps81
  go_wp2
  go_loopw [6] (fun i wr => ∃ k : Nat, ∃ f : Nat → Nat, k ≤ n1 + n2 ∧ i = .int .i64 k ∧ PieceR wr w bz oz nz xs ys k f) (fun i _ => n1 + n2 - (intOf i).toNat)
  case atStart => exact ⟨0, _, Nat.zero_le _, rfl, hR0⟩
  case round =>
    clear hR0
    obtain ⟨k, f, hk, rfl, hR⟩ := hrel
    by_cases hlt : k < n1
    · have hlt' : (k:Int) < (n1:Int) := by omega
      have hz1 : (k:Int) ≤ (nz:Int) := by omega
      by_cases hto : k + n2 ≤ n1
      · have hto' : (k:Int) + (n2:Int) ≤ (n1:Int) := by omega
        have hto2 : (k:Int) + (n2:Int) ≤ (c1:Int) := by omega
        have hpl : k + n2 - k = n2 := by omega
        have KM := hide (fun (w' : World) (hb : Below wr.heap.size wr w') => piece_mul (p := n2) (k := k) (unhide HI) (by omega) (by omega) (unhide HP).ox (unhide HP).oy (show k + (n2) ≤ n1 by omega) w' (((unhide HP).h1.upd hR.upd ((unhide HP).s1 _ rfl (unhide HX))).below hb) (((unhide HP).h2.upd hR.upd ((unhide HP).s2 _ rfl (unhide HY))).below hb))
        have KA := hide (fun w5 a' m zs => piece_add (cz := cz) (w5 := w5) (a' := a') (m := m) (zs := zs) (p := n2) (k' := k + n2) hR (unhide HP).h1.len (unhide HP).h2.len (unhide HP).hnz hbig (unhide HP).ox (unhide HP).oy (show k + (n2) ≤ n1 by omega) (by omega) rfl)
        clear hR
        go_wp2_with fail
        go_region_with (first | (go_at_call 61; refine (unhide KM _ ?_).mono ?_; exact (Below.refl _ _).drew; rintro e w5 ⟨a', m, zs, rfl, hs, hr, ha, hb5⟩; have KB := hide (unhide KA w5 a' m zs hb5 hs hr ha); clear hs hr ha hb5) | (go_at_call 72; refine (unhide KB).mono ?_; rintro e w6 ⟨cc, rfl, g, hR2⟩; have HR2 := hide hR2; clear hR2))
        all_goals
          go_wp2
          exact ⟨⟨k + n2, _, by omega, by go_num, unhide HR2⟩, by simp [intOf]; omega⟩
      · have hto' : ¬ (k:Int) + (n2:Int) ≤ (n1:Int) := by omega
        have hto2 : (n1:Int) ≤ (c1:Int) := by omega
        have hto3 : (n1:Int) ≤ (k:Int) + (n2:Int) := by omega
        have KM := hide (fun (w' : World) (hb : Below wr.heap.size wr w') => piece_mul (p := n1 - k) (k := k) (unhide HI) (by omega) (by omega) (unhide HP).ox (unhide HP).oy (show k + (n1 - k) ≤ n1 by omega) w' (((unhide HP).h1.upd hR.upd ((unhide HP).s1 _ rfl (unhide HX))).below hb) (((unhide HP).h2.upd hR.upd ((unhide HP).s2 _ rfl (unhide HY))).below hb))
        have KA := hide (fun w5 a' m zs => piece_add (cz := cz) (w5 := w5) (a' := a') (m := m) (zs := zs) (p := n1 - k) (k' := k + n2) hR (unhide HP).h1.len (unhide HP).h2.len (unhide HP).hnz hbig (unhide HP).ox (unhide HP).oy (show k + (n1 - k) ≤ n1 by omega) (by omega) (by rw [List.take_of_length_le (by rw [(unhide HP).h1.len]; omega), List.take_of_length_le (by rw [(unhide HP).h1.len]; omega)]))
        clear hR
        go_wp2_with fail
        go_region_with (first | (go_at_call 61; refine (unhide KM _ ?_).mono ?_; exact (Below.refl _ _).drew; rintro e w5 ⟨a', m, zs, rfl, hs, hr, ha, hb5⟩; have KB := hide (unhide KA w5 a' m zs hb5 hs hr ha); clear hs hr ha hb5) | (go_at_call 72; refine (unhide KB).mono ?_; rintro e w6 ⟨cc, rfl, g, hR2⟩; have HR2 := hide hR2; clear hR2))
        all_goals
          go_wp2
          exact ⟨⟨k + n2, _, by omega, by go_num, unhide HR2⟩, by simp [intOf]; omega⟩
    · have hlt' : ¬ (k:Int) < (n1:Int) := by omega
      have hv : valF f nz = val xs * val ys := by
        have := hR.vl
        rw [List.take_of_length_le (by rw [(unhide HP).h1.len]; omega)] at this
        exact this
      have HR := hide (And.intro hR hv)
      clear hR hv
      go_wp2
      go_end0
      exact ⟨rfl, f, (unhide HR).1.fn, (unhide HR).1.ok, (unhide HR).2, (unhide HR).1.upd⟩
end Go.Proofs.Ytlecjjcpidjmhaa
