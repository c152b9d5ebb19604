/-
  ORDERS: order.places, isOrder, Check; colour.isOrder: contracts.
-/
import Derived.Test.YtdcdgojcboinaaaCh1
namespace Go.Proofs.Ytdcdgojcboinaaa
open Go.RowKit Go.Deep
set_option linter.unusedVariables false

/-- The first k of a list are unlike numbers below n. -/
structure OrdTo (xs : List Int) (n k : Nat) : Prop where
  rng : ∀ j, j < k → 0 ≤ xs.getD j 0 ∧ xs.getD j 0 < (n : Int)
  one : ∀ i j, i < j → j < k → xs.getD i 0 ≠ xs.getD j 0
/-- A list is an order of n things. -/
def IsOrd (xs : List Int) (n : Nat) : Prop := xs.length = n ∧ OrdTo xs n n
/-- Where a thing stands among the first k, -1 if nowhere. -/
def posI (xs : List Int) : Nat → Nat → Int
  | 0, _ => -1
  | k + 1, v => if xs.getD k 0 = (v : Int) then (k : Int) else posI xs k v
theorem posI_neg {xs : List Int} {v : Nat} : ∀ k, posI xs k v = -1 ↔ ∀ j, j < k → xs.getD j 0 ≠ (v : Int)
  | 0 => by simp [posI]
  | k + 1 => by
    simp only [posI]
    split
    · rename_i h
      constructor
      · intro e; omega
      · intro e; exact absurd h (e k (by omega))
    · rename_i h
      rw [posI_neg k]
      constructor
      · intro e j hj
        by_cases c : j = k
        · subst c; exact h
        · exact e j (by omega)
      · intro e j hj
        exact e j (by omega)
theorem OrdTo.next {xs : List Int} {n k v : Nat} (h : OrdTo xs n k) (hv : xs.getD k 0 = (v : Int)) (hn : v < n) (hp : posI xs k v = -1) : OrdTo xs n (k + 1) := by
  refine ⟨fun j hj => ?_, fun i j hij hj => ?_⟩
  · by_cases e : j = k
    · subst e; rw [hv]; omega
    · exact h.rng j (by omega)
  · by_cases e : j = k
    · subst e
      rw [hv]
      exact (posI_neg j).1 hp i hij
    · exact h.one i j hij (by omega)
theorem OrdTo.no {xs : List Int} {n k v : Nat} (hk : k < n) (hv : xs.getD k 0 = (v : Int)) (hp : posI xs k v ≠ -1) : ¬ OrdTo xs n n := by
  intro h
  refine hp ((posI_neg k).2 (fun j hj => ?_))
  rw [← hv]
  exact h.one j k hj hk
theorem RoV.rep {W : World} {g n : Nat} {y : Int} (h : W.heap[g]? = some (.cells (rpL y n n).toArray 3 (0, 0))) : RoV W g n (fun _ => .int .i64 y) := fun i hi => ⟨(cell_of_block h i).trans (by simp [rpL, hi]), by simp [World.frozen?, h]⟩
/-- What places answers. -/
def PlcP (w w' : World) (e : Ending) (xs : List Int) (n : Nat) (ok : Bool) : Prop := Below w.heap.size w w' ∧ (ok = false → e = .returned (.tuple #[.slice none 0 0, .bool false])) ∧ (ok = true → ∃ g, w.heap.size ≤ g ∧ e = .returned (.tuple #[.slice (some ⟨g, 0, none⟩) n n, .bool true]) ∧ RoV w' g n (fun v => .int .i64 (posI xs n v)))
set_option maxRecDepth 100000 in
set_option maxHeartbeats 16000000 in
/-- order.places. -/
theorem oplaces_any (a : Option Addr) (m c : Nat) (xs : List Int) (n : Nat) (w : World) (h : SlI w a m c xs) (hm : m ≤ 17592186044416) (hn : n ≤ 128) (ok : Bool) (hok : TruQ ok (IsOrd xs n)) :
    Calls Try.prog 21 #[.slice a m c, .int .i64 (n : Int)] w fun e w' => PlcP w w' e xs n ok := by
  have HS := hide h
  have HOK := hide hok
  have hml := h.len
  by_cases hne : m = n
  · subst hne
    have KR := hide (fun (W : World) (ad : Addr) (hx : W.cell? ad = some (.int .i64 (-1))) => srepeat_any ad 1 (-1) m W hn hx)
    clear h hok hml
    go_enter Try.func21, Try.ntmps21
    go_wp2_with fail
    have h0 : (w.alloc (.cells #[.int .i64 (-1)] 3)).cell? ⟨w.heap.size, 0, none⟩ = some (.int .i64 (-1)) := by simp
    refine (unhide KR _ _ h0).mono ?_
    rintro _ w3 ⟨g, hgn, rfl, hgb, b3⟩
    have ba : Below w.heap.size w (w.alloc (.cells #[.int .i64 (-1)] 3)) := (Below.refl _ _).alloc (Nat.le_refl _) _
    have bw := ba.trans (b3.mono ba.size)
    have HB := hide bw
    have HGN := hide (show w.heap.size ≤ g by simp at hgn; omega)
    have HR0 := hide (RoV.rep hgb)
    have HS3 := hide ((unhide HS).below bw)
    have hgl : g < w3.heap.size := (Array.getElem?_eq_some_iff.1 hgb).1
    have HLW := hide (show xs ≠ [] → ∀ z, a = some z → z.block ≠ g from fun hne z hz e => by have := (unhide HS).block_lt hne z hz; have := unhide HGN; omega)
    clear KR h0 hgn hgb b3 ba bw
    go_wp2_with fail
    go_loopw [18, 7] (fun kv _ wr => ∃ k : Nat, k ≤ m ∧ kv = .int .i64 (k : Int) ∧ Hid (RoV wr g m (fun v => .int .i64 (posI xs k v))) ∧ Hid (OrdTo xs m k) ∧ Hid (Chg (fun j => j = g) w3 wr)) (fun kv _ _ => m - (intOf kv).toNat)
    case atStart => exact ⟨0, Nat.zero_le _, rfl, HR0, hide ⟨fun j hj => by omega, fun i j _ hj => by omega⟩, hide (Chg.refl _ _)⟩
    case round =>
      obtain ⟨k, hk, rfl, HR, HO, HC⟩ := hrel
      by_cases hlt : k < m
      · have hlt' : (k : Int) < (m : Int) := by omega
        have hsl := (unhide HS3).chg (unhide HC) (fun z hz hne => unhide HLW hne z hz)
        obtain ⟨b, off, rfl, hc⟩ := hsl.at (by omega)
        have sk := hc k hlt
        obtain ⟨x, hx⟩ : ∃ x, xs.getD k 0 = x := ⟨_, rfl⟩
        rw [hx] at sk
        have HX := hide hx
        clear hc hsl hx
        by_cases hx0 : x < 0
        · have HNO := hide (show ¬ OrdTo xs m m from fun h => by have := (h.rng k hlt).1; rw [unhide HX] at this; omega)
          have hokf : ok = false := by
            cases hk2 : ok
            · rfl
            · exact absurd (Iff.mp (unhide HOK) hk2).2 (unhide HNO)
          subst hokf
          go_wp2_with fail
          refine bodyPost_ret (by simp [results, Try.results21, go_sem]; try rfl) rfl ?_
          exact ⟨(unhide HB).trans ((unhide HC).below (unhide HB).size (fun j hj e => by have := unhide HGN; omega)), fun _ => rfl, fun e => absurd e (by decide)⟩
        · by_cases hxm : (m : Int) ≤ x
          · have HNO := hide (show ¬ OrdTo xs m m from fun h => by have := (h.rng k hlt).2; rw [unhide HX] at this; omega)
            have hokf : ok = false := by
              cases hk2 : ok
              · rfl
              · exact absurd (Iff.mp (unhide HOK) hk2).2 (unhide HNO)
            subst hokf
            go_wp2_with fail
            refine bodyPost_ret (by simp [results, Try.results21, go_sem]; try rfl) rfl ?_
            exact ⟨(unhide HB).trans ((unhide HC).below (unhide HB).size (fun j hj e => by have := unhide HGN; omega)), fun _ => rfl, fun e => absurd e (by decide)⟩
          · obtain ⟨v, hv⟩ : ∃ v : Nat, x = (v : Int) := ⟨x.toNat, by omega⟩
            subst hv
            have hvm : v < m := by omega
            have hvm' : (v : Int) < (m : Int) := by omega
            have hc1 := (unhide HR v hvm).1
            have hc2 := (unhide HR v hvm).2
            obtain ⟨p, hp⟩ : ∃ p, posI xs k v = p := ⟨_, rfl⟩
            simp only [hp] at hc1
            have HPP := hide hp
            clear hp hx0 hxm
            by_cases hq : p = -1
            · have hq1 : (p != -1) = false := by simp [hq]
              have HN := hide (OrdTo.next (unhide HO) (unhide HX) hvm ((unhide HPP).trans hq))
              have HN2 := hide (show RoV (wr.setCell ⟨g, v, none⟩ (.int .i64 (k : Int))) g m (fun u => .int .i64 (posI xs (k + 1) u)) from ((unhide HR).put v (.int .i64 (k : Int)) hvm).congr (fun u hu => by
                simp only [posI, unhide HX]
                by_cases e : u = v
                · subst e; simp
                · rw [if_neg e, if_neg (by omega)]))
              have HN3 := hide (show Chg (fun j => j = g) w3 (wr.setCell ⟨g, v, none⟩ (.int .i64 (k : Int))) from (unhide HC).trans (Chg.of_set _ _ _ _ rfl))
              clear hq
              go_wp2_with fail
              exact ⟨⟨k + 1, by omega, by (first | rfl | go_num), HN2, HN, HN3⟩, by simp [intOf]; omega⟩
            · have hq1 : (p != -1) = true := by simp [hq]
              have HNO := hide (OrdTo.no (n := m) hlt (unhide HX) (fun e => hq ((unhide HPP).symm.trans e)))
              clear hq
              have hokf : ok = false := by
                cases hk2 : ok
                · rfl
                · exact absurd (Iff.mp (unhide HOK) hk2).2 (unhide HNO)
              subst hokf
              go_wp2_with fail
              refine bodyPost_ret (by simp [results, Try.results21, go_sem]; try rfl) rfl ?_
              exact ⟨(unhide HB).trans ((unhide HC).below (unhide HB).size (fun j hj e => by have := unhide HGN; omega)), fun _ => rfl, fun e => absurd e (by decide)⟩
      · obtain rfl : k = m := by omega
        have hlt' : ¬ (k : Int) < (k : Int) := by omega
        have hokt : ok = true := Iff.mpr (unhide HOK) ⟨(unhide HS).len, unhide HO⟩
        subst hokt
        go_wp2_with fail
        refine bodyPost_ret (by simp [results, Try.results21, go_sem]; try rfl) rfl ?_
        exact ⟨(unhide HB).trans ((unhide HC).below (unhide HB).size (fun j hj e => by have := unhide HGN; omega)), fun e => absurd e (by decide), fun _ => ⟨g, unhide HGN, rfl, unhide HR⟩⟩
  · have hne1 : ((m : Int) != (n : Int)) = true := by simp; omega
    have hne2 : ((m : Int) == (n : Int)) = false := by simp; omega
    have hokf : ok = false := by
      cases hk : ok
      · rfl
      · have := (Iff.mp hok hk).1
        omega
    subst hokf
    clear h hok hml hne
    go_enter Try.func21, Try.ntmps21
    go_wp2_with fail
    refine bodyPost_ret (by simp [results, Try.results21, go_sem]; try rfl) rfl ?_
    exact ⟨Below.refl _ _, fun _ => rfl, fun e => absurd e (by decide)⟩
theorem PlcP.bool {w w' : World} {e : Ending} {xs : List Int} {n : Nat} {ok : Bool} (h : PlcP w w' e xs n ok) : ∃ a m c, e = .returned (.tuple #[.slice a m c, .bool ok]) := by
  cases ok
  · exact ⟨_, _, _, h.2.1 rfl⟩
  · obtain ⟨g, _, he, _⟩ := h.2.2 rfl
    exact ⟨_, _, _, he⟩
set_option maxRecDepth 100000 in
set_option maxHeartbeats 16000000 in
/-- order.isOrder. -/
theorem oisOrder_any (a : Option Addr) (m c : Nat) (xs : List Int) (n : Nat) (w : World) (h : SlI w a m c xs) (hm : m ≤ 17592186044416) (hn : n ≤ 128) (ok : Bool) (hok : TruQ ok (IsOrd xs n)) :
    Calls Try.prog 29 #[.slice a m c, .int .i64 (n : Int)] w fun e w' => e = .returned (.bool ok) ∧ Below w.heap.size w w' := by
  have KP := hide (oplaces_any a m c xs n w h hm hn ok hok)
  clear h hok
  go_enter Try.func29, Try.ntmps29
  go_wp2_with fail
  refine (unhide KP).mono ?_
  intro e w2 hq
  obtain ⟨b, l, d, rfl⟩ := hq.bool
  have HB := hide hq.1
  clear hq KP
  go_wp2_with fail
  try go_ret
  exact ⟨rfl, unhide HB⟩
end Go.Proofs.Ytdcdgojcboinaaa
