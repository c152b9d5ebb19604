/- Si8 -/
import Derived.Test.YtbbicappjicblaaGreatDoorTa0
import Derived.Test.YtbbicappjicblaaGreatDoorRv5
import Derived.Test.YtbbicappjicblaaGreatDoorTd0
import Derived.Test.YtbbicappjicblaaGreatDoorTh1
import Derived.Test.YtbbicappjicblaaGreatDoorTe4
import Derived.Test.YtbbicappjicblaaGreatDoorQGd
namespace Go.Proofs.YtbbicappjicblaaGreatDoor
open Go.RowKit Go.Deep
set_option linter.unusedVariables false
def givO : Obj := .cells #[.slice none 0 0, .slice none 0 0, .slice none 0 0, .slice none 0 0, .slice none 0 0, .slice none 0 0, .slice none 0 0, .slice none 0 0, .slice none 0 0, .slice none 0 0, .slice none 0 0, .slice none 0 0, .slice none 0 0, .slice none 0 0, .slice none 0 0, .slice none 0 0, .slice none 0 0, .slice none 0 0, .slice none 0 0, .slice none 0 0] 37
theorem nil20 (i : Nat) (h : i < 20) : (#[.slice none 0 0, .slice none 0 0, .slice none 0 0, .slice none 0 0, .slice none 0 0, .slice none 0 0, .slice none 0 0, .slice none 0 0, .slice none 0 0, .slice none 0 0, .slice none 0 0, .slice none 0 0, .slice none 0 0, .slice none 0 0, .slice none 0 0, .slice none 0 0, .slice none 0 0, .slice none 0 0, .slice none 0 0, .slice none 0 0] : Array Value)[i]? = some (.slice none 0 0) := by
 have : (#[.slice none 0 0, .slice none 0 0, .slice none 0 0, .slice none 0 0, .slice none 0 0, .slice none 0 0, .slice none 0 0, .slice none 0 0, .slice none 0 0, .slice none 0 0, .slice none 0 0, .slice none 0 0, .slice none 0 0, .slice none 0 0, .slice none 0 0, .slice none 0 0, .slice none 0 0, .slice none 0 0, .slice none 0 0, .slice none 0 0] : Array Value) = Array.replicate 20 (.slice none 0 0) := rfl
 rw [this, Array.getElem?_replicate, if_pos h]
theorem GivI.made (w : World) : GivI (w.alloc givO) w.heap.size (.slice none 0 0) (.slice none 0 0) [] (fun _ => .slice none 0 0) := by
 refine ⟨⟨_, alloc_block w _, rfl, rfl, rfl, fun i _ h20 => nil20 i h20⟩, ⟨rfl, .inl ⟨rfl, rfl⟩⟩, ⟨rfl, .inl ⟨rfl, rfl⟩⟩, fun k e => by simp [Value.ownBlock] at e, fun e he => by cases he⟩
set_option maxRecDepth 100000 in
set_option maxHeartbeats 8000000 in
theorem sameBools_cap (g1 g2 n c1 c2 : Nat) (f : Nat → Bool) (w : World) (h1 : RoV w g1 n (fun v => .bool (f v))) (h2 : RoV w g2 n (fun v => .bool (f v))) (hn : n ≤ 2048) :
  Calls Tryz.prog 18 #[.slice (some ⟨g1, 0, none⟩) n c1, .slice (some ⟨g2, 0, none⟩) n c2] w fun e w' => e = .returned (.bool true) ∧ Below w.heap.size w w' := by
 have tn : ((n:Int) != (n:Int)) = false := by simp
 have H1 := hide h1
 have H2 := hide h2
 clear h1 h2
 go_enter Tryz.func18, Tryz.ntmps18
 go_wp2_with fail
 go_loopw [5] (fun iv wr => ∃ q : Nat, q ≤ n ∧ iv = .int .i64 (q : Nat) ∧ Hid (Dr w wr)) (fun iv _ => n - (intOf iv).toNat)
 case atStart => exact ⟨0, Nat.zero_le _, rfl, Dr.refl _⟩
 case round =>
  obtain ⟨q, hq, rfl, HW⟩ := hrel
  by_cases hlt : q < n
  ·have hlt' : (q:Int) < (n:Int) := by omega
   have z1 : wr.cell? ⟨g1, q, none⟩ = some (.bool (f q)) := (((unhide H1).below (unhide HW).below) q hlt).1
   have z2 : wr.cell? ⟨g2, q, none⟩ = some (.bool (f q)) := (((unhide H2).below (unhide HW).below) q hlt).1
   generalize f q = x at *
   have tx : (x != x) = false := by simp
   go_wp2_with fail
   go_quiet (fail)
   go_wp2_with fail
   exact ⟨⟨q + 1, by omega, by (first | rfl | go_num), hide ((unhide HW).n _)⟩, by simp [intOf]; omega⟩
  ·have hq2 : q = n := by omega
   subst hq2
   have hlt' : ¬ (q:Int) < (q:Int) := by omega
   go_wp2_with fail
   go_ret
   exact ⟨rfl, (unhide HW).below⟩
theorem sameBools_nil (w : World) : Calls Tryz.prog 18 #[.slice none 0 0, .slice none 0 0] w fun e w' => e = .returned (.bool true) ∧ Below w.heap.size w w' := by
 go_enter Tryz.func18, Tryz.ntmps18
 go_wp2_with fail
 go_loopw [5] (fun iv wr => iv = .int .i64 0 ∧ wr = w) (fun iv _ => (intOf iv).toNat)
 case atStart => exact ⟨rfl, rfl⟩
 case round =>
  obtain ⟨rfl, hw⟩ := hrel
  obtain rfl := hw
  go_wp2_with fail
  go_ret
  exact ⟨rfl, Below.refl _ _⟩
theorem GvT.made (w : World) : GvT (w.alloc givO) w.heap.size (fun _ => .slice none 0 0) (fun _ => False) [] [] [] := by
 refine ⟨⟨⟨_, alloc_block w _, rfl, fun i hi => nil20 i hi⟩, fun i hi => ?_, (fun i j _ _ _ k e => by simp [Value.ownBlock] at e), (fun k e => e.elim), rfl⟩, (fun x hx => by cases hx), (fun x hx => by cases hx), (fun x hx => by cases hx)⟩
 have e : rowT [] [] [] i = [] := by unfold rowT; split <;> rfl
 rw [e]
 exact ⟨rfl, .inl ⟨rfl, rfl⟩⟩
theorem SlO.front {w : World} {a : Option Addr} {N n c : Nat} {os : List On} (h : SlO w a N c os) (hn : n ≤ N) : SlO w a n c (os.take n) := by
 refine ⟨by have := h.len; simp; omega, Nat.le_trans hn h.le, ?_, fun o ho => h.each o (List.mem_of_mem_take ho)⟩
 rcases h.cells with h0 | ⟨b, off, e, hc⟩
 ·exact .inl (by rw [h0]; simp)
 ·exact .inr ⟨b, off, e, fun i o hi => hc i o (by
   rw [List.getElem?_take] at hi
   split at hi
   ·exact hi
   ·cases hi)⟩
theorem con_get {os qs : List On} (h : os.map conO = qs.map conO) (k : Nat) : (os[k]? = none ∧ qs[k]? = none) ∨ ∃ o q, os[k]? = some o ∧ qs[k]? = some q ∧ conO o = conO q := by
 have h1 : (os.map conO)[k]? = (qs.map conO)[k]? := by rw [h]
 rw [List.getElem?_map, List.getElem?_map] at h1
 cases ho : os[k]? with
 | none =>
  rw [ho] at h1
  cases hq : qs[k]? with
  | none => exact .inl ⟨rfl, rfl⟩
  | some q => rw [hq] at h1; cases h1
 | some o =>
  rw [ho] at h1
  cases hq : qs[k]? with
  | none => rw [hq] at h1; cases h1
  | some q => rw [hq] at h1; exact .inr ⟨o, q, rfl, rfl, Option.some.inj h1⟩
theorem hgO_con {o q : On} (h : conO o = conO q) (f : Nat → Nat → Bool) (j : Nat) : hgO f o j = hgO f q j := by
 obtain ⟨⟨e1, e2, e3, e4⟩, _⟩ := conO_eq h
 unfold hgO
 rw [(opF_con h 0 0).2, e1, e2]
theorem hgF_con {os qs : List On} (h : os.map conO = qs.map conO) : ∀ k, hgF os k = hgF qs k
 | 0 => rfl
 | k + 1 => by
  have ih := hgF_con h k
  funext v j
  rcases con_get h k with ⟨ho, hq⟩ | ⟨o, q, ho, hq, hc⟩
  ·show (if v = k then (match os[k]? with | some o => hgO (hgF os k) o j | none => false) else hgF os k v j) = (if v = k then (match qs[k]? with | some o => hgO (hgF qs k) o j | none => false) else hgF qs k v j)
   rw [ho, hq, ih]
  ·rw [hgF_next ho, hgF_next hq, ih, hgO_con hc]
theorem mvF_con {os qs : List On} (h : os.map conO = qs.map conO) (inp k : Nat) : mvF inp os k = mvF inp qs k := by
 funext v
 unfold mvF
 rw [hgF_con h]
theorem dgO_con {o q : On} (h : conO o = conO q) (d : Nat → Int) (mv : Nat → Bool) : dgO d mv o = dgO d mv q := by
 obtain ⟨⟨e1, e2, e3, e4⟩, _⟩ := conO_eq h
 unfold dgO
 rw [(opF_con h 0 0).2, e1, e2, e3, e4]
theorem dgF_con {os qs : List On} (h : os.map conO = qs.map conO) (inp : Nat) : ∀ k, dgF inp os k = dgF inp qs k
 | 0 => rfl
 | k + 1 => by
  have ih := dgF_con h inp k
  funext v
  rcases con_get h k with ⟨ho, hq⟩ | ⟨o, q, ho, hq, hc⟩
  ·show (if v = k then (match os[k]? with | some o => dgO (dgF inp os k) (mvF inp os k) o | none => 0) else dgF inp os k v) = (if v = k then (match qs[k]? with | some o => dgO (dgF inp qs k) (mvF inp qs k) o | none => 0) else dgF inp qs k v)
   rw [ho, hq, ih]
  ·rw [dgF_next ho, dgF_next hq, ih, mvF_con h, dgO_con hc]
theorem jnO_con {o q : On} (h : conO o = conO q) (mv : Nat → Bool) : jnO mv o = jnO mv q := by
 obtain ⟨⟨e1, e2, e3, e4⟩, _⟩ := conO_eq h
 unfold jnO
 rw [e1, e2, e3, e4]
theorem btF_con {os qs : List On} (h : os.map conO = qs.map conO) (inp : Nat) : ∀ k, btF inp os k = btF inp qs k
 | 0 => rfl
 | k + 1 => by
  have ih := btF_con h inp k
  funext v
  rcases con_get h k with ⟨ho, hq⟩ | ⟨o, q, ho, hq, hc⟩
  ·show (if v = k then (match os[k]? with | some o => jnO (mvF inp os k) o || (opsL o).any (fun a => btF inp os k a.toNat) | none => false) else btF inp os k v) = (if v = k then (match qs[k]? with | some o => jnO (mvF inp qs k) o || (opsL o).any (fun a => btF inp qs k a.toNat) | none => false) else btF inp qs k v)
   rw [ho, hq, ih]
  ·rw [btF_next ho, btF_next hq, ih, mvF_con h, jnO_con hc, (opF_con hc 0 0).2]
def bqO (mv : Nat → Bool) (o : On) (p k : Nat) : Bool := (List.range k).any (fun q => bnO o p q && mv ((opsL o).getD p 0).toNat && mv ((opsL o).getD q 0).toNat)
def bpO (mv : Nat → Bool) (o : On) (k : Nat) : Bool := (List.range k).any (fun p => bqO mv o p (opsL o).length)
theorem bqO_next (mv : Nat → Bool) (o : On) (p k : Nat) : bqO mv o p (k + 1) = (bqO mv o p k || (bnO o p k && mv ((opsL o).getD p 0).toNat && mv ((opsL o).getD k 0).toNat)) := by
 unfold bqO
 rw [List.range_succ, List.any_append]
 simp
theorem bpO_next (mv : Nat → Bool) (o : On) (k : Nat) : bpO mv o (k + 1) = (bpO mv o k || bqO mv o k (opsL o).length) := by
 unfold bpO
 rw [List.range_succ, List.any_append]
 simp
theorem bp_jn (mv : Nat → Bool) (o : On) : bpO mv o (opsL o).length = jnO mv o := by
 unfold bpO bqO jnO
 by_cases k5 : o.k = 5
 ·rw [if_pos k5, show opsL o = [o.a, o.b] from by unfold opsL twoK; rw [if_pos (by simp; omega)]]
  simp [List.range_succ, bnO, k5, Bool.and_comm]
 rw [if_neg k5]
 by_cases k6 : o.k = 6
 ·rw [if_pos k6, show opsL o = [o.a, o.b] from by unfold opsL twoK; rw [if_pos (by simp; omega)]]
  simp [List.range_succ, bnO, k6]
  cases mv o.a.toNat <;> cases mv o.b.toNat <;> rfl
 rw [if_neg k6]
 by_cases k8 : o.k = 8
 ·rw [show opsL o = [o.a] from by unfold opsL twoK oneK; rw [if_neg (by simp; omega), if_pos (by simp; omega)]]
  by_cases n0 : o.n = 0
  ·rw [if_neg (fun h => h.2.1 n0)]
   simp [List.range_succ, bnO, k8, n0]
  by_cases n1 : o.n = 1
  ·rw [if_neg (fun h => h.2.2 n1)]
   simp [List.range_succ, bnO, k8, n1]
  rw [if_pos ⟨k8, n0, n1⟩]
  simp [List.range_succ, bnO, k8, n0, n1]
 ·rw [if_neg (fun h => k8 h.1)]
  simp [bnO, k5, k6, k8]
def stF (mv : Nat → Bool) (on : Nat → Bool) (os : List On) (k : Nat) : Bool := (List.range k).any (fun v => on v && (match os[v]? with | some o => jnO mv o | none => false))
theorem stF_next {mv on : Nat → Bool} {os : List On} {k : Nat} {o : On} (h : os[k]? = some o) : stF mv on os (k + 1) = (stF mv on os k || (on k && jnO mv o)) := by
 unfold stF
 rw [List.range_succ, List.any_append]
 simp [h]
theorem stF_bt {inp : Nat} {os : List On} {zs : List Int} (hk : TpOk (inp : Int) os zs) {y : Nat} (hy : y < os.length) : stF (mvF inp os os.length) (mkB (lvL os [(y : Int)] os.length)) os os.length = btF inp os os.length y := by
 have hb := bt_live hk hy
 cases h : btF inp os os.length y with
 | false =>
  unfold stF
  rw [List.any_eq_false]
  intro v hv
  cases ho : os[v]? with
  | none => simp
  | some o =>
   have := hb.1 h v o ho
   cases hm : mkB (lvL os [(y : Int)] os.length) v with
   | false => simp
   | true => simp [this hm]
 | true =>
  cases hs : stF (mvF inp os os.length) (mkB (lvL os [(y : Int)] os.length)) os os.length with
  | true => rfl
  | false =>
   exfalso
   have := hb.2 (fun v o ho hm => by
    unfold stF at hs
    have h2 := List.any_eq_false.1 hs v (by simpa using (List.getElem?_eq_some_iff.1 ho).1)
    rw [hm, ho] at h2
    simpa using h2)
   rw [h] at this
   cases this
theorem TpOk.one {inp : Int} {os : List On} {ys : List Int} (hk : TpOk inp os ys) {y : Int} (hy : y ∈ ys) : TpOk inp os [y] :=
 ⟨hk.li, hk.lo, by simp, hk.op, fun z hz => by simp at hz; rw [hz]; exact hk.out y hy⟩
set_option maxRecDepth 100000 in
set_option maxHeartbeats 8000000 in
theorem roperands_1 (a b n : Int) (p : Nq) (w : World) :
  Calls Tryz.prog 62 #[opV ⟨1, a, b, n, p⟩] w (OpsA w (opsL ⟨1, a, b, n, p⟩)) := by
 obtain ⟨wo, hwo⟩ : ∃ x, w.alloc (.cells #[.int .i64 1, .int .i64 a, .int .i64 b, .int .i64 n, .bool p.g, .slice p.a p.n p.c, .slice p.b p.m p.d] 73) = x := ⟨_, rfl⟩
 have br : BoxP wo w.heap.size [.int .i64 1, .int .i64 a, .int .i64 b, .int .i64 n, .bool p.g, .slice p.a p.n p.c, .slice p.b p.m p.d] := by rw [← hwo]; exact BoxP.made _ _ _
 have hbo : Below w.heap.size w wo := by rw [← hwo]; exact (Below.refl _ _).alloc (Nat.le_refl _) _
 have HB := hide hbo
 have f0 := (br.all 0 _ rfl).1
 have f1 := (br.all 1 _ rfl).1
 have f2 := (br.all 2 _ rfl).1
 unfold opV
 clear br hbo
 go_enter Tryz.func62, Tryz.ntmps62
 go_wp2_with fail
 go_ret
 exact ⟨none, 0, 0, rfl, SlI.nil _, (fun y e => by cases e), unhide HB⟩
set_option maxRecDepth 100000 in
set_option maxHeartbeats 8000000 in
theorem roperands_2 (a b n : Int) (p : Nq) (w : World) :
  Calls Tryz.prog 62 #[opV ⟨2, a, b, n, p⟩] w (OpsA w (opsL ⟨2, a, b, n, p⟩)) := by
 obtain ⟨wo, hwo⟩ : ∃ x, w.alloc (.cells #[.int .i64 2, .int .i64 a, .int .i64 b, .int .i64 n, .bool p.g, .slice p.a p.n p.c, .slice p.b p.m p.d] 73) = x := ⟨_, rfl⟩
 have br : BoxP wo w.heap.size [.int .i64 2, .int .i64 a, .int .i64 b, .int .i64 n, .bool p.g, .slice p.a p.n p.c, .slice p.b p.m p.d] := by rw [← hwo]; exact BoxP.made _ _ _
 have hbo : Below w.heap.size w wo := by rw [← hwo]; exact (Below.refl _ _).alloc (Nat.le_refl _) _
 have HB := hide hbo
 have f0 := (br.all 0 _ rfl).1
 have f1 := (br.all 1 _ rfl).1
 have f2 := (br.all 2 _ rfl).1
 unfold opV
 clear br hbo
 go_enter Tryz.func62, Tryz.ntmps62
 go_wp2_with fail
 go_ret
 exact ⟨none, 0, 0, rfl, SlI.nil _, (fun y e => by cases e), unhide HB⟩
set_option maxRecDepth 100000 in
set_option maxHeartbeats 8000000 in
theorem roperands_3 (a b n : Int) (p : Nq) (w : World) :
  Calls Tryz.prog 62 #[opV ⟨3, a, b, n, p⟩] w (OpsA w (opsL ⟨3, a, b, n, p⟩)) := by
 obtain ⟨wo, hwo⟩ : ∃ x, w.alloc (.cells #[.int .i64 3, .int .i64 a, .int .i64 b, .int .i64 n, .bool p.g, .slice p.a p.n p.c, .slice p.b p.m p.d] 73) = x := ⟨_, rfl⟩
 have br : BoxP wo w.heap.size [.int .i64 3, .int .i64 a, .int .i64 b, .int .i64 n, .bool p.g, .slice p.a p.n p.c, .slice p.b p.m p.d] := by rw [← hwo]; exact BoxP.made _ _ _
 have hbo : Below w.heap.size w wo := by rw [← hwo]; exact (Below.refl _ _).alloc (Nat.le_refl _) _
 have HB := hide hbo
 have f0 := (br.all 0 _ rfl).1
 have f1 := (br.all 1 _ rfl).1
 have f2 := (br.all 2 _ rfl).1
 unfold opV
 clear br hbo
 go_enter Tryz.func62, Tryz.ntmps62
 go_wp2_with fail
 go_ret
 exact ⟨_, _, _, rfl, sli_made _ [a, b] _ (by simp), (fun y e => by cases e; exact (unhide HB).size), (unhide HB).alloc (unhide HB).size _⟩
set_option maxRecDepth 100000 in
set_option maxHeartbeats 8000000 in
theorem roperands_4 (a b n : Int) (p : Nq) (w : World) :
  Calls Tryz.prog 62 #[opV ⟨4, a, b, n, p⟩] w (OpsA w (opsL ⟨4, a, b, n, p⟩)) := by
 obtain ⟨wo, hwo⟩ : ∃ x, w.alloc (.cells #[.int .i64 4, .int .i64 a, .int .i64 b, .int .i64 n, .bool p.g, .slice p.a p.n p.c, .slice p.b p.m p.d] 73) = x := ⟨_, rfl⟩
 have br : BoxP wo w.heap.size [.int .i64 4, .int .i64 a, .int .i64 b, .int .i64 n, .bool p.g, .slice p.a p.n p.c, .slice p.b p.m p.d] := by rw [← hwo]; exact BoxP.made _ _ _
 have hbo : Below w.heap.size w wo := by rw [← hwo]; exact (Below.refl _ _).alloc (Nat.le_refl _) _
 have HB := hide hbo
 have f0 := (br.all 0 _ rfl).1
 have f1 := (br.all 1 _ rfl).1
 have f2 := (br.all 2 _ rfl).1
 unfold opV
 clear br hbo
 go_enter Tryz.func62, Tryz.ntmps62
 go_wp2_with fail
 go_ret
 exact ⟨_, _, _, rfl, sli_made _ [a, b] _ (by simp), (fun y e => by cases e; exact (unhide HB).size), (unhide HB).alloc (unhide HB).size _⟩
set_option maxRecDepth 100000 in
set_option maxHeartbeats 8000000 in
theorem roperands_5 (a b n : Int) (p : Nq) (w : World) :
  Calls Tryz.prog 62 #[opV ⟨5, a, b, n, p⟩] w (OpsA w (opsL ⟨5, a, b, n, p⟩)) := by
 obtain ⟨wo, hwo⟩ : ∃ x, w.alloc (.cells #[.int .i64 5, .int .i64 a, .int .i64 b, .int .i64 n, .bool p.g, .slice p.a p.n p.c, .slice p.b p.m p.d] 73) = x := ⟨_, rfl⟩
 have br : BoxP wo w.heap.size [.int .i64 5, .int .i64 a, .int .i64 b, .int .i64 n, .bool p.g, .slice p.a p.n p.c, .slice p.b p.m p.d] := by rw [← hwo]; exact BoxP.made _ _ _
 have hbo : Below w.heap.size w wo := by rw [← hwo]; exact (Below.refl _ _).alloc (Nat.le_refl _) _
 have HB := hide hbo
 have f0 := (br.all 0 _ rfl).1
 have f1 := (br.all 1 _ rfl).1
 have f2 := (br.all 2 _ rfl).1
 unfold opV
 clear br hbo
 go_enter Tryz.func62, Tryz.ntmps62
 go_wp2_with fail
 go_ret
 exact ⟨_, _, _, rfl, sli_made _ [a, b] _ (by simp), (fun y e => by cases e; exact (unhide HB).size), (unhide HB).alloc (unhide HB).size _⟩
set_option maxRecDepth 100000 in
set_option maxHeartbeats 8000000 in
theorem roperands_6 (a b n : Int) (p : Nq) (w : World) :
  Calls Tryz.prog 62 #[opV ⟨6, a, b, n, p⟩] w (OpsA w (opsL ⟨6, a, b, n, p⟩)) := by
 obtain ⟨wo, hwo⟩ : ∃ x, w.alloc (.cells #[.int .i64 6, .int .i64 a, .int .i64 b, .int .i64 n, .bool p.g, .slice p.a p.n p.c, .slice p.b p.m p.d] 73) = x := ⟨_, rfl⟩
 have br : BoxP wo w.heap.size [.int .i64 6, .int .i64 a, .int .i64 b, .int .i64 n, .bool p.g, .slice p.a p.n p.c, .slice p.b p.m p.d] := by rw [← hwo]; exact BoxP.made _ _ _
 have hbo : Below w.heap.size w wo := by rw [← hwo]; exact (Below.refl _ _).alloc (Nat.le_refl _) _
 have HB := hide hbo
 have f0 := (br.all 0 _ rfl).1
 have f1 := (br.all 1 _ rfl).1
 have f2 := (br.all 2 _ rfl).1
 unfold opV
 clear br hbo
 go_enter Tryz.func62, Tryz.ntmps62
 go_wp2_with fail
 go_ret
 exact ⟨_, _, _, rfl, sli_made _ [a, b] _ (by simp), (fun y e => by cases e; exact (unhide HB).size), (unhide HB).alloc (unhide HB).size _⟩
set_option maxRecDepth 100000 in
set_option maxHeartbeats 8000000 in
theorem roperands_7 (a b n : Int) (p : Nq) (w : World) :
  Calls Tryz.prog 62 #[opV ⟨7, a, b, n, p⟩] w (OpsA w (opsL ⟨7, a, b, n, p⟩)) := by
 obtain ⟨wo, hwo⟩ : ∃ x, w.alloc (.cells #[.int .i64 7, .int .i64 a, .int .i64 b, .int .i64 n, .bool p.g, .slice p.a p.n p.c, .slice p.b p.m p.d] 73) = x := ⟨_, rfl⟩
 have br : BoxP wo w.heap.size [.int .i64 7, .int .i64 a, .int .i64 b, .int .i64 n, .bool p.g, .slice p.a p.n p.c, .slice p.b p.m p.d] := by rw [← hwo]; exact BoxP.made _ _ _
 have hbo : Below w.heap.size w wo := by rw [← hwo]; exact (Below.refl _ _).alloc (Nat.le_refl _) _
 have HB := hide hbo
 have f0 := (br.all 0 _ rfl).1
 have f1 := (br.all 1 _ rfl).1
 have f2 := (br.all 2 _ rfl).1
 unfold opV
 clear br hbo
 go_enter Tryz.func62, Tryz.ntmps62
 go_wp2_with fail
 go_ret
 exact ⟨_, _, _, rfl, sli_made _ [a] _ (by simp), (fun y e => by cases e; exact (unhide HB).size), (unhide HB).alloc (unhide HB).size _⟩
set_option maxRecDepth 100000 in
set_option maxHeartbeats 8000000 in
theorem roperands_8 (a b n : Int) (p : Nq) (w : World) :
  Calls Tryz.prog 62 #[opV ⟨8, a, b, n, p⟩] w (OpsA w (opsL ⟨8, a, b, n, p⟩)) := by
 obtain ⟨wo, hwo⟩ : ∃ x, w.alloc (.cells #[.int .i64 8, .int .i64 a, .int .i64 b, .int .i64 n, .bool p.g, .slice p.a p.n p.c, .slice p.b p.m p.d] 73) = x := ⟨_, rfl⟩
 have br : BoxP wo w.heap.size [.int .i64 8, .int .i64 a, .int .i64 b, .int .i64 n, .bool p.g, .slice p.a p.n p.c, .slice p.b p.m p.d] := by rw [← hwo]; exact BoxP.made _ _ _
 have hbo : Below w.heap.size w wo := by rw [← hwo]; exact (Below.refl _ _).alloc (Nat.le_refl _) _
 have HB := hide hbo
 have f0 := (br.all 0 _ rfl).1
 have f1 := (br.all 1 _ rfl).1
 have f2 := (br.all 2 _ rfl).1
 unfold opV
 clear br hbo
 go_enter Tryz.func62, Tryz.ntmps62
 go_wp2_with fail
 go_ret
 exact ⟨_, _, _, rfl, sli_made _ [a] _ (by simp), (fun y e => by cases e; exact (unhide HB).size), (unhide HB).alloc (unhide HB).size _⟩
theorem roperands_any (o : On) (h1 : 1 ≤ o.k) (h8 : o.k ≤ 8) (w : World) : Calls Tryz.prog 62 #[opV o] w (OpsA w (opsL o)) := by
 obtain ⟨k, a, b, n, p⟩ := o
 simp only at h1 h8
 obtain ⟨j, rfl⟩ : ∃ j : Nat, k = (j : Int) := ⟨k.toNat, by omega⟩
 match j, (show 1 ≤ j by omega), (show j ≤ 8 by omega) with
 | 1, _, _ => exact roperands_1 a b n p w
 | 2, _, _ => exact roperands_2 a b n p w
 | 3, _, _ => exact roperands_3 a b n p w
 | 4, _, _ => exact roperands_4 a b n p w
 | 5, _, _ => exact roperands_5 a b n p w
 | 6, _, _ => exact roperands_6 a b n p w
 | 7, _, _ => exact roperands_7 a b n p w
 | 8, _, _ => exact roperands_8 a b n p w
def wkV (s : Int) (sa : Option Addr) (sn sc : Nat) (i : Int) (a : Option Addr) (n c : Nat) (b : Option Addr) (m d : Nat) (la : Option Addr) (ln lc : Nat) : Value :=
 .agg #[.int .i64 s, .slice sa sn sc, .int .i64 i, .slice a n c, .slice b m d, .slice la ln lc]
structure WkT (I k : Nat) (T : List Bs.SetC) (f : Nat → Nat → Bool) : Prop where
 len : T.length = k
 get : ∀ v, v < k → (T.getD v .nul).s = (I : Int) ∧ Bs.Good I (T.getD v .nul).xs (f v)
theorem WkT.mem {I k : Nat} {T : List Bs.SetC} {f : Nat → Nat → Bool} (h : WkT I k T f) {v : Nat} (hv : v < k) : T.getD v .nul ∈ T := by
 have hl : v < T.length := by rw [h.len]; exact hv
 rw [show T.getD v .nul = T[v] from by simp [List.getD, hl]]
 exact List.getElem_mem hl
set_option maxRecDepth 100000 in
set_option maxHeartbeats 8000000 in
theorem rmoves_any (I : Nat) (sa : Option Addr) (k sc : Nat) (T : List Bs.SetC) (f : Nat → Nat → Bool) (i : Int) (ta : Option Addr) (tn tc : Nat) (tb : Option Addr) (tm td : Nat) (la : Option Addr) (ln lc v : Nat) (w : World) (hT : WkT I k T f) (hs : Bs.SlS w sa k sc T) (hv : v < k) :
  Calls Tryz.prog 85 #[wkV (I : Int) sa k sc i ta tn tc tb tm td la ln lc, .int .i64 (v : Int)] w fun e w' => e = .returned (.bool (mvP I (f v))) ∧ Below w.heap.size w w' := by
 obtain ⟨wa, hwa⟩ : ∃ x, w.alloc (.cells #[.int .i64 (I : Int), .slice sa k sc, .int .i64 i, .slice ta tn tc, .slice tb tm td, .slice la ln lc] 63) = x := ⟨_, rfl⟩
 have bx : BoxP wa w.heap.size [.int .i64 (I : Int), .slice sa k sc, .int .i64 i, .slice ta tn tc, .slice tb tm td, .slice la ln lc] := by rw [← hwa]; exact BoxP.made _ _ _
 have hba : Below w.heap.size w wa := by rw [← hwa]; exact (Below.refl _ _).alloc (Nat.le_refl _) _
 have g1 := (bx.all 1 _ rfl).1
 have hE : decide (0 < Bs.countR (T.getD v .nul).s (T.getD v .nul).xs) = mvP I (f v) := by
  obtain ⟨e1, e2⟩ := hT.get v hv
  rw [e1, Bs.count_good e2, Bs.cnt_pos]
  rfl
 have hin := hs.get v hv
 have K := Bs.Count_any (T.getD v .nul).s (T.getD v .nul).a (T.getD v .nul).n (T.getD v .nul).c (T.getD v .nul).xs wa (hin.1.below hba) hin.2
 obtain ⟨B, off, rfl, hc⟩ := (hs.below hba).at (by omega)
 obtain ⟨c0, c1⟩ := hc v hv
 have hvk : (v : Int) < (k : Int) := by omega
 generalize (T.getD v .nul).s = q0 at *
 generalize (T.getD v .nul).a = q1 at *
 generalize (T.getD v .nul).n = q2 at *
 generalize (T.getD v .nul).c = q3 at *
 generalize (T.getD v .nul).xs = q4 at *
 obtain ⟨R, hR⟩ : ∃ R, mvP I (f v) = R := ⟨_, rfl⟩
 obtain ⟨C, hC⟩ : ∃ C, Bs.countR q0 q4 = C := ⟨_, rfl⟩
 rw [hR] at hE ⊢
 rw [hC] at hE K
 have HC := hide K
 have HB := hide hba
 have HE := hide hE
 unfold Bs.setV at HC
 unfold wkV
 clear bx hba K hs hT hin hc hC hR hE
 go_enter Tryz.func85, Tryz.ntmps85
 go_wp2_with fail
 refine (unhide HC).mono ?_
 rintro _ w1 ⟨rfl, b1⟩
 have HB1 := hide ((unhide HB).trans (b1.mono (unhide HB).size))
 clear b1 HC hwa
 go_wp2_with fail
 try go_ret
 exact ⟨by rw [← unhide HE]; (first | rfl | simp), unhide HB1⟩
end Go.Proofs.YtbbicappjicblaaGreatDoor
