/-
  slopelaw1.may: its contract.
-/
import Derived.Test.YtpnhmaenmmelnaaRing
import Derived.Test.YtpnhmaenmmelnaaOpen
namespace Go.Proofs.Ytpnhmaenmmelnaa
open Go.RowKit Go.Deep
set_option linter.unusedVariables false

def nilPc : Pc := ⟨none, 0, 0, []⟩
def mayP (ps : List Pc) : Bool := ps.all (fun p => MayL p.xs)

set_option maxHeartbeats 1000000 in
/-- slopelaw1.may. -/
theorem mays_any (b n : Nat) (ps : List Pc) (w : World) (hl : ps.length = n) (hn : n ≤ 1000) (hc : ∀ i, i < n → w.cell? ⟨b, i, none⟩ = some (.slice (ps.getD i nilPc).a (ps.getD i nilPc).n (ps.getD i nilPc).c)) (hs : ∀ p ∈ ps, Sl w p.a p.n p.c p.xs) :
    Calls Try.prog 31 #[.slice (some ⟨b, 0, none⟩) n n] w fun e w' => e = .returned (.bool (mayP ps)) ∧ w' = w := by
  have KM : ∀ i, i < n → Calls Try.prog 18 #[.slice (ps.getD i nilPc).a (ps.getD i nilPc).n (ps.getD i nilPc).c] w fun e w' => e = .returned (.bool (MayL (ps.getD i nilPc).xs)) ∧ w' = w := by
    intro i hi
    have hm : ps.getD i nilPc ∈ ps := by
      have : ps.getD i nilPc = ps[i]'(by omega) := by simp [List.getD, show i < ps.length from by omega]
      rw [this]; exact List.getElem_mem _
    exact rmay_any _ _ _ _ w (hs _ hm)
  have KM' := hide KM
  have HL := hide hl
  have HC := hide hc
  clear KM hs hl hc
  go_enter Try.func31, Try.ntmps31
  go_wp2
  go_loop [3] (fun i => ∃ k : Nat, i = .int .i64 k ∧ k ≤ n ∧ mayP (ps.take k) = true) (fun i => n - (intOf i).toNat)
  case atStart => exact ⟨0, rfl, Nat.zero_le _, rfl⟩
  case round =>
    obtain ⟨k, rfl, hk, hm⟩ := hrel
    have HM := hide hm
    clear hm
    by_cases hlt : k < n
    · have hlt' : (k:Int) < (n:Int) := by omega
      have g1 := unhide HC k hlt
      have K := unhide KM' k hlt
      have e : ps.take (k + 1) = ps.take k ++ [ps.getD k nilPc] := by
        rw [List.take_add_one]
        simp [List.getD, show k < ps.length from by rw [unhide HL]; exact hlt]
      have e2 : mayP (ps.take (k + 1)) = MayL (ps.getD k nilPc).xs := by
        have := unhide HM
        unfold mayP at *
        rw [e, List.all_append, this]
        simp
      have e3 : MayL (ps.getD k nilPc).xs = false → mayP ps = false := by
        intro hf
        unfold mayP
        rw [List.all_eq_false]
        exact ⟨ps.getD k nilPc, by
          have : ps.getD k nilPc = ps[k]'(by rw [unhide HL]; exact hlt) := by simp [List.getD, show k < ps.length from by rw [unhide HL]; exact hlt]
          rw [this]; exact List.getElem_mem _, by rw [hf]; decide⟩
      have E2 := hide e2
      have E3 := hide e3
      generalize ps.getD k nilPc = p at *
      obtain ⟨pa, pn, pc, px⟩ := p
      simp only at g1 K
      have K' := hide K
      clear e e2 e3 K
      cases hmay : MayL px
      · have HY := hide hmay
        rw [hmay] at K'
        clear hmay
        go_wp2_with fail
        refine (unhide K').mono ?_
        rintro e w' ⟨rfl, hw⟩
        obtain rfl := hw.symm
        go_wp2
        go_ret
        rw [unhide E3 (unhide HY)]
        exact ⟨rfl, rfl⟩
      · have HY := hide hmay
        rw [hmay] at K'
        clear hmay
        go_wp2_with fail
        refine (unhide K').mono ?_
        rintro e w' ⟨rfl, hw⟩
        obtain rfl := hw.symm
        go_wp2
        exact ⟨⟨k + 1, by go_num, by omega, (unhide E2).trans (unhide HY)⟩, by simp [intOf]; omega⟩
    · have hlt' : ¬ (k:Int) < (n:Int) := by omega
      have hall : mayP ps = true := by
        have := unhide HM
        rwa [List.take_of_length_le (by rw [unhide HL]; omega)] at this
      have HA := hide hall
      clear hall
      go_wp2
      go_ret
      rw [unhide HA]
      exact ⟨rfl, rfl⟩

theorem PSt.drewN {w w0 : World} {L : List Pc} (h : PSt w w0 L) (k : Nat) : PSt (w.drewN k) w0 L := h.keep (bel_drewN (Below.refl _ _) k)
theorem PSt.quiet {w w0 : World} {L : List Pc} (h : PSt w w0 L) {f : FuncId} {args : Array Value} {v : Value} (k : Calls Try.prog f args w fun e w' => e = .returned v ∧ ∃ k, w' = w.drewN k) :
    Calls Try.prog f args w fun e w' => e = .returned v ∧ PSt w' w0 L :=
  k.mono fun _ _ ⟨he, k, hk⟩ => ⟨he, hk ▸ h.drewN k⟩
theorem RSt.quiet {w w0 : World} {K : Nat} {bad wrong : Bool} {L : List Pc} (h : RSt w w0 K bad wrong L) {f : FuncId} {args : Array Value} {v : Value} (k : Calls Try.prog f args w fun e w' => e = .returned v ∧ ∃ k, w' = w.drewN k) :
    Calls Try.prog f args w fun e w' => e = .returned v ∧ RSt w' w0 K bad wrong L :=
  k.mono fun _ _ ⟨he, k, hk⟩ => ⟨he, hk ▸ h.drewN k⟩
theorem RSt.same {w w0 : World} {K : Nat} {bad wrong : Bool} {L : List Pc} (h : RSt w w0 K bad wrong L) (p q : Pc) (hp : p ∈ L) (hq : q ∈ L) (b : Bool) (he : decide (p.xs = q.xs) = b) :
    Calls Try.prog 14 #[.slice p.a p.n p.c, .slice q.a q.n q.c] w fun e w' => e = .returned (.bool b) ∧ RSt w' w0 K bad wrong L := by
  have := h.quiet (same_any p.a q.a p.n p.c q.n q.c p.xs q.xs w (h.sl p hp) (h.sl q hq))
  rwa [he] at this
theorem PSt.same {w w0 : World} {L : List Pc} (h : PSt w w0 L) (p q : Pc) (hp : p ∈ L) (hq : q ∈ L) (b : Bool) (he : decide (p.xs = q.xs) = b) :
    Calls Try.prog 14 #[.slice p.a p.n p.c, .slice q.a q.n q.c] w fun e w' => e = .returned (.bool b) ∧ PSt w' w0 L := by
  have := h.quiet (same_any p.a q.a p.n p.c q.n q.c p.xs q.xs w (h.all p hp) (h.all q hq))
  rwa [he] at this

/-- may of three, in a row of their own. -/
theorem PSt.may3 {w w0 : World} {L : List Pc} (h : PSt w w0 L) (p q r : Pc) (hp : p ∈ L) (hq : q ∈ L) (hr : r ∈ L) (e : TypeId) :
    Calls Try.prog 31 #[.slice (some ⟨w.heap.size, 0, none⟩) 3 3] (w.alloc (.cells #[.slice p.a p.n p.c, .slice q.a q.n q.c, .slice r.a r.n r.c] e)) fun e w' => e = .returned (.bool (MayL p.xs && (MayL q.xs && MayL r.xs))) ∧ PSt w' w0 L := by
  have k := (Below.refl w.heap.size w).alloc (Nat.le_refl _) (.cells #[.slice p.a p.n p.c, .slice q.a q.n q.c, .slice r.a r.n r.c] e)
  have h' := h.keep k
  have K := mays_any w.heap.size 3 [p, q, r] (w.alloc (.cells #[.slice p.a p.n p.c, .slice q.a q.n q.c, .slice r.a r.n r.c] e)) rfl (by decide) (fun i hi => by
      match i, hi with
      | 0, _ => simp
      | 1, _ => simp
      | 2, _ => simp) (fun x hx => by
      simp at hx
      rcases hx with rfl | rfl | rfl
      · exact h'.all _ hp
      · exact h'.all _ hq
      · exact h'.all _ hr)
  refine K.mono ?_
  rintro e w' ⟨rfl, rfl⟩
  exact ⟨by simp [mayP], h'⟩
end Go.Proofs.Ytpnhmaenmmelnaa
