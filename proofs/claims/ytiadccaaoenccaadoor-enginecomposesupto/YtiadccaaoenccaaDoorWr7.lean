/- Wr2 -/
import Derived.Test.YtiadccaaoenccaaDoorWr1
import Derived.Test.YtiadccaaoenccaaDoorRd1
import Derived.Test.YtiadccaaoenccaaDoorNMul
import Derived.Test.YtiadccaaoenccaaDoorRa2
namespace Go.Proofs.YtiadccaaoenccaaDoor
open Go.RowKit Go.Deep
set_option linter.unusedVariables false
section
variable {P : Program} {w : World}
theorem wpList_append_nilR {ops : Array Oper} {rest : List Oper} {o : Oper} {a : Act} {Q : Exit → Act → World → Prop} (hgd : o.guard = none) (s x : Operand) (t : TypeId)
    (ho : o.op = .call { callee := .builtin .append, args := #[s, x], argTypes := #[t, t] })
    (base : Nat) (e : TypeId) (i : TypeInfo) (z : Value) (bytes : Nat) (ht : P.underlying t = some (.slice e)) (hi : P.info? e = some i) (hz : i.zero = some z)
    (hsize : i.size = 1) (hby : i.bytes = bytes) (hzs : z.cells.size = 1)
    (hs : a.eval s = .slice none 0 0)
    (ao : Option Addr) (m c : Nat) (news : List Value) (hx : a.eval x = .slice ao m c) (hl : news.length = m) (hnone : ao = none → m = 0 ∧ c = 0)
    (hnews : ∀ ad, ao = some ad → ∀ j u, news[j]? = some u → w.cell? (ad.add j) = some u) (h1 : ∀ u ∈ news, u.oneCell' = true)
    (h63 : m ≤ maxLen) (hbytes : m * bytes ≤ 140737488355328) (hbase : base ≤ w.heap.size)
    (h : ∀ v w', w'.ownsRow base e 1 v m news → w.grownBy w' none → wpList P ops Q rest (a.put o.dst v) w') : wpList P ops Q (o :: rest) a w := by
  cases ao with
  | none =>
    obtain ⟨rfl, rfl⟩ := hnone rfl
    have hn : news = [] := List.eq_nil_of_length_eq_zero hl
    subst hn
    refine wpList_plain hgd fun K hK => ?_
    have hrun := run_append_owned_none (P := P) (w := w) base t o.type e i 1 ht hi (.slice none 0 0) 0 [] (World.ownsRow_nil _ _ _ _)
    unfold Oper.wp
    simp [execOp, ho, resolve, invoke, builtin, hs, hx, hrun, Result.andThen]
    exact hK _ _ (h _ w (World.ownsRow_nil _ _ _ _) (World.grownBy.refl _ _))
  | some ad =>
    refine wpList_append_own w hgd s x t ho base e i z 1 bytes ht hi hz hsize hby hzs (by decide) _ 0 [] hs (World.ownsRow_nil _ _ _ _) ad m c news hx (by simpa using hl) (hnews ad rfl) h1 (by simpa using h63) (by simpa using hbytes) hbase ?_
    intro v' w' k1 k2 _
    simp only [Nat.zero_add, List.nil_append] at k1
    exact h v' w' k1 k2
end

theorem Sl.news {w : World} {a : Option Addr} {n c : Nat} {xs : List Nat} (h : Sl w a n c xs) : ∀ ad, a = some ad → ∀ j u, (vals xs)[j]? = some u → w.cell? (ad.add j) = some u := by
  intro ad had j u hu
  have hj : j < xs.length := by
    have := (List.getElem?_eq_some_iff.1 hu).1
    simpa [vals] using this
  have hne : xs ≠ [] := by intro e; rw [e] at hj; simp at hj
  obtain ⟨b, off, e, hc⟩ := h.cells.resolve_left hne
  rw [e] at had
  cases had
  have e2 : (⟨b, off, none⟩ : Addr).add j = ⟨b, off + j, none⟩ := by unfold Addr.add; split <;> simp_all
  rw [e2, hc j hj, ← hu]
  simp [vals, List.getD, hj]

set_option maxHeartbeats 2000000 in
theorem wcopied_any (a : Option Addr) (n c : Nat) (xs : List Nat) (w : World) (h : Sl w a n c xs) (hnil : a = none → c = 0) (hn : n ≤ 1000000000) :
    Calls Tryd.prog 59 #[.slice a n c] w fun e w' => ∃ a' c', e = .returned (.slice a' n c') ∧ Ow w' w.heap.size a' n c' xs ∧ Below w.heap.size w w' := by
  obtain ⟨i80, hi80, hz80, hs80, hb80⟩ := info_parts Tryd.info_u32
  have I80 := hide (And.intro hi80 (And.intro hz80 (And.intro hs80 hb80)))
  have HS := hide h
  have HNil := hide (show a = none → n = 0 ∧ c = 0 from fun e => ⟨by have := hnil e; have := h.le; omega, hnil e⟩)
  clear hi80 hz80 hs80 hb80 h hnil
  go_enter Tryd.func59, Tryd.ntmps59
  go_wp2_with (at_builtin; refine wpList_append_nilR rfl _ _ 49 rfl w.heap.size 74 i80 (.int .u32 0) 4 Tryd.underlying49 (unhide I80).1 (unhide I80).2.1 (unhide I80).2.2.1 (unhide I80).2.2.2 rfl rfl a n c (vals xs) rfl ?hl (unhide HNil) ?hnews ?hone ?h63 ?hby (Nat.le_refl _) ?_)
  case hl => simp [vals, (unhide HS).len]
  case hnews => exact (unhide HS).news
  case hone => exact vals_one
  case h63 => unfold maxLen; omega
  case hby => omega
  intro v1 w1 hown hg
  have HB1 := hide (show Below w.heap.size w w1 from Below.grown (Below.refl _ _) hg (Nat.le_refl _) (fun k hk => by cases hk))
  obtain ⟨a', c', e, _, _⟩ := own_sl hown
  subst e
  have HO := hide (show Ow w1 w.heap.size a' n c' xs from hown)
  clear hown hg
  go_wp2_with fail
  go_ret
  exact ⟨a', c', rfl, unhide HO, unhide HB1⟩

theorem wsign_any (n : Int) (w : World) (hl : -9223372036854775808 ≤ n) (hh : n ≤ 9223372036854775807) :
    Calls Tryd.prog 71 #[.int .i64 n] w fun e w' => e = .returned (.int .i64 n.sign) ∧ w' = w := by
  rcases Int.lt_trichotomy n 0 with h | h | h
  · rw [Int.sign_eq_neg_one_of_neg h]
    go_enter Tryd.func71, Tryd.ntmps71
    go_wp2
    go_ret
    exact ⟨rfl, rfl⟩
  · subst h
    go_enter Tryd.func71, Tryd.ntmps71
    go_wp2
    go_ret
    exact ⟨rfl, rfl⟩
  · rw [Int.sign_eq_one_of_pos h]
    have h2 : ¬ n < 0 := by omega
    go_enter Tryd.func71, Tryd.ntmps71
    go_wp2
    go_ret
    exact ⟨rfl, rfl⟩

set_option maxHeartbeats 1600000 in
theorem wcmp_some (b1 o1 b2 o2 : Nat) (n c1 c2 : Nat) (xs ys : List Nat) (w : World) (hn : n ≤ maxLen) (hx : xs.length = n) (hy : ys.length = n) (ox : Ok xs) (oy : Ok ys)
   (h1 : Cells w b1 o1 xs) (h2 : Cells w b2 o2 ys) :
    Calls Tryd.prog 65 #[.slice (some ⟨b1, o1, none⟩) n c1, .slice (some ⟨b2, o2, none⟩) n c2] w fun e w' => e = .returned (.int .i64 (cmpN (val xs) (val ys))) ∧ ∃ k, w' = w.drewN k := by
  unfold maxLen at hn
  have hne : ((n:Int) != (n:Int)) = false := by simp
  go_enter Tryd.func65, Tryd.ntmps65
  go_wp2
  go_loopw [5] (fun i wr => ∃ k : Nat, k ≤ n ∧ i = .int .i64 ((k : Int) - 1) ∧ (∀ j, k ≤ j → xs.getD j 0 = ys.getD j 0) ∧ ∃ d, wr = w.drewN d) (fun i _ => (intOf i + 1).toNat)
  case atStart => exact ⟨n, Nat.le_refl _, rfl, fun j hj => by rw [getD_ge (by omega), getD_ge (by omega)], 0, rfl⟩
  case round =>
    obtain ⟨k, hk, rfl, ht, d, rfl⟩ := hrel
    by_cases hlt : 0 < k
    · have hlt' : (0:Int) ≤ (k:Int) - 1 := by omega
      have hlt2 : (k:Int) - 1 < (n:Int) := by omega
      have hk1 : ((k:Int) - 1).toNat = k - 1 := by omega
      have g1 := h1 (k - 1) (by omega)
      have g2 := h2 (k - 1) (by omega)
      by_cases he : xs.getD (k - 1) 0 = ys.getD (k - 1) 0
      · have HT : ∀ j, k - 1 ≤ j → xs.getD j 0 = ys.getD j 0 := fun j hj => by
          by_cases e : j = k - 1
          · rw [e]; exact he
          · exact ht j (by omega)
        have HT' := hide HT
        have hb : ¬ ((xs.getD (k - 1) 0 : Nat) : Int) < ((ys.getD (k - 1) 0 : Nat) : Int) := by omega
        have hb' : ¬ ((ys.getD (k - 1) 0 : Nat) : Int) < ((xs.getD (k - 1) 0 : Nat) : Int) := by omega
        generalize ((xs.getD (k - 1) 0 : Nat) : Int) = u at g1 hb hb'
        generalize ((ys.getD (k - 1) 0 : Nat) : Int) = v at g2 hb hb'
        clear he h1 h2 HT ht
        go_wp2_with fail
        go_quiet (fail)
        go_wp2_with fail
        go_quiet (fail)
        go_wp2
        exact ⟨⟨k - 1, by omega, by congr 1; omega, unhide HT', _, rfl⟩, by simp [intOf]; omega⟩
      · have hr : ((xs.getD (k - 1) 0 : Nat) : Int) < ((ys.getD (k - 1) 0 : Nat) : Int) ∧ cmpN (val xs) (val ys) = -1 ∨ ((ys.getD (k - 1) 0 : Nat) : Int) < ((xs.getD (k - 1) 0 : Nat) : Int) ∧ cmpN (val xs) (val ys) = 1 := by
          by_cases hh : xs.getD (k - 1) 0 < ys.getD (k - 1) 0
          · exact .inl ⟨by omega, cmpN_lt (val_lt_of (i := k - 1) (hx.trans hy.symm) ox oy (by omega) (fun j hj => ht j (by omega)) hh)⟩
          · exact .inr ⟨by omega, cmpN_gt (val_lt_of (i := k - 1) (hy.trans hx.symm) oy ox (by omega) (fun j hj => (ht j (by omega)).symm) (by omega))⟩
        generalize ((xs.getD (k - 1) 0 : Nat) : Int) = u at g1 hr
        generalize ((ys.getD (k - 1) 0 : Nat) : Int) = v at g2 hr
        clear he h1 h2 ht
        rcases hr with ⟨hr, hc⟩ | ⟨hr, hc⟩
        · have HC := hide hc
          clear hc
          go_wp2_with fail
          go_quiet (fail)
          go_wp2
          go_ret
          exact ⟨by rw [unhide HC]; rfl, _, drewN_add _ _ _⟩
        · have HC := hide hc
          have hr' : ¬ u < v := by omega
          clear hc
          go_wp2_with fail
          go_quiet (fail)
          go_wp2_with fail
          go_quiet (fail)
          go_wp2
          go_ret
          exact ⟨by rw [unhide HC]; rfl, _, drewN_add3 _ _ _ _⟩
    · have hk0 : ¬ (0:Int) ≤ (k:Int) - 1 := by omega
      have : xs = ys := ext_getD (hx.trans hy.symm) (fun i _ => ht i (by omega))
      have HE := hide this
      clear this h1 h2 ht
      go_wp2
      go_ret
      exact ⟨by rw [cmpN_eq (by rw [unhide HE])]; rfl, _, rfl⟩

set_option maxHeartbeats 400000 in
theorem wcmp_len (a1 a2 : Option Addr) (n1 n2 c1 c2 : Nat) (w : World) (hn : ((n1:Int) != (n2:Int)) = true) (h1 : n1 ≤ 1000000000) (h2 : n2 ≤ 1000000000) (r : Int) (hr : ((n1:Int) - n2).sign = r) :
    Calls Tryd.prog 65 #[.slice a1 n1 c1, .slice a2 n2 c2] w fun e w' => e = .returned (.int .i64 r) ∧ w' = w := by
  have K := wsign_any ((n1:Int) - n2) w (by omega) (by omega)
  rw [hr] at K
  have HK := hide K
  clear K hr
  go_enter Tryd.func65, Tryd.ntmps65
  go_wp2_with fail
  refine (unhide HK).mono ?_
  rintro e w' ⟨rfl, hw⟩
  obtain rfl := hw.symm
  go_wp2_with fail
  go_ret
  exact ⟨rfl, rfl⟩

set_option maxHeartbeats 400000 in
theorem wcmp_nil (a1 a2 : Option Addr) (c1 c2 : Nat) (w : World) :
    Calls Tryd.prog 65 #[.slice a1 0 c1, .slice a2 0 c2] w fun e w' => e = .returned (.int .i64 0) ∧ w' = w := by
  go_enter Tryd.func65, Tryd.ntmps65
  go_wp2
  go_loop [5] (fun i => i = .int .i64 (-1)) (fun i => (intOf i).toNat)
  case atStart => rfl
  case round =>
    subst hrel
    go_wp2
    go_ret
    exact ⟨rfl, rfl⟩

theorem wcmp_any (a1 a2 : Option Addr) (n1 c1 n2 c2 : Nat) (xs ys : List Nat) (w : World) (h1 : Sl w a1 n1 c1 xs) (h2 : Sl w a2 n2 c2 ys) (ox : Ok xs) (oy : Ok ys) (nx : Norm xs) (ny : Norm ys) (hn1 : n1 ≤ 1000000000) (hn2 : n2 ≤ 1000000000) :
    Calls Tryd.prog 65 #[.slice a1 n1 c1, .slice a2 n2 c2] w fun e w' => e = .returned (.int .i64 (cmpN (val xs) (val ys))) ∧ ∃ k, w' = w.drewN k := by
  have l1 := h1.len
  have l2 := h2.len
  by_cases e : n1 = n2
  · subst e
    by_cases z : n1 = 0
    · subst z
      have e1 : xs = [] := List.eq_nil_of_length_eq_zero l1
      have e2 : ys = [] := List.eq_nil_of_length_eq_zero l2
      subst e1 e2
      refine (wcmp_nil a1 a2 c1 c2 w).mono ?_
      rintro e w' ⟨rfl, rfl⟩
      exact ⟨rfl, 0, rfl⟩
    · rcases h1.cells with e1 | ⟨b1, o1, rfl, k1⟩
      · subst e1; simp at l1; omega
      · rcases h2.cells with e2 | ⟨b2, o2, rfl, k2⟩
        · subst e2; simp at l2; omega
        · exact wcmp_some b1 o1 b2 o2 n1 c1 c2 xs ys w (Nat.le_trans h1.le h1.cap) l1 l2 ox oy k1 k2
  · refine (wcmp_len a1 a2 n1 n2 c1 c2 w (by rw [bne_iff_ne]; omega) hn1 hn2 (cmpN (val xs) (val ys)) ?_).mono ?_
    · rw [← cmp_len ox oy nx ny (by omega), l1, l2]
      by_cases h : (n1:Int) < (n2:Int)
      · rw [if_pos h, Int.sign_eq_neg_one_of_neg (by omega)]
      · rw [if_neg h, Int.sign_eq_one_of_pos (by omega)]
    · rintro e w' ⟨rfl, rfl⟩
      exact ⟨rfl, 0, rfl⟩
def NewL (w w' : World) (v : Nat) (e : Ending) : Prop := ∃ a m c, e = .returned (.slice a m c) ∧ Sl w' a m c (limbs v) ∧ NewAt w.heap.size a ∧ (a = none → c = 0) ∧ Below w.heap.size w w'
theorem Ow.nilc {w : World} {B n c : Nat} {a : Option Addr} {xs : List Nat} (h : Ow w B a n c xs) : a = none → c = 0 := by
  intro e
  rcases h.shape with ⟨_, _, h3⟩ | ⟨g, e2⟩
  · exact h3
  · rw [e] at e2; cases e2
theorem wnorm_sl (a : Option Addr) (n c : Nat) (xs : List Nat) (w : World) (h : Sl w a n c xs) (hnil : a = none → c = 0) (ok : Ok xs) :
    Calls Tryd.prog 70 #[.slice a n c] w fun e w' => ∃ m, e = .returned (.slice a m c) ∧ m ≤ n ∧ Sl w a m c (limbs (val xs)) ∧ w' = w := by
  cases a with
  | none =>
    have hc := hnil rfl
    have hl := h.le
    have hn : n = 0 := by omega
    subst hn hc
    have hx : xs = [] := List.eq_nil_of_length_eq_zero h.len
    subst hx
    refine (wnorm_nil w).mono ?_
    rintro e w' ⟨rfl, rfl⟩
    exact ⟨0, rfl, Nat.le_refl _, sl_nil _, rfl⟩
  | some x =>
    by_cases hx : xs = []
    · subst hx
      have hn : n = 0 := by rw [← h.len]; rfl
      subst hn
      obtain ⟨b, off, spot⟩ := x
      cases spot with
      | none =>
        refine (wnorm_some b off 0 c [] w rfl h.le h.cap (fun i hi => by simp at hi)).mono ?_
        rintro e w' ⟨m, ht, rfl, rfl⟩
        have hm : m = 0 := by have := ht.le; simpa using this
        subst hm
        exact ⟨0, rfl, Nat.le_refl _, ⟨rfl, h.le, h.cap, .inl rfl⟩, rfl⟩
      | some p =>
        have hle := h.le
        have hcm := h.cap
        unfold maxLen at hcm
        go_enter Tryd.func70, Tryd.ntmps70
        go_wp2
        go_loop [3] (fun i => i = .int .i64 0) (fun i => (intOf i).toNat)
        case atStart => rfl
        case round =>
          subst hrel
          go_wp2
          go_ret
          exact ⟨0, rfl, by omega, ⟨rfl, h.le, h.cap, .inl rfl⟩, rfl⟩
    · obtain ⟨b, off, e, hc⟩ := h.cells.resolve_left hx
      cases e
      refine (wnorm_some b off n c xs w h.len h.le h.cap hc).mono ?_
      rintro e w' ⟨m, ht, rfl, rfl⟩
      have hm : m ≤ n := by have := ht.le; rw [h.len] at this; exact this
      refine ⟨m, rfl, hm, ?_, rfl⟩
      rw [← ht.limbs ok]
      refine ⟨by simp [h.len]; omega, Nat.le_trans hm h.le, h.cap, .inr ⟨b, off, rfl, ?_⟩⟩
      intro i hi
      have hi2 : i < m := by simp at hi; omega
      rw [hc i (by rw [h.len]; omega)]
      simp [List.getD, hi2]

structure TakR (wr w : World) (B g n cp : Nat) (xs : List Nat) (s t : Nat) (k c : Nat) (zs : List Nat) : Prop where
  len : zs.length = k
  ok : Ok zs
  cle : c ≤ 1
  own : Ow wr B (some ⟨g, 0, none⟩) n cp (zs ++ xs.drop k)
  val : val zs + t = s + 4294967296 ^ k * c
  chg : Chg (fun j => AtB (some ⟨g, 0, none⟩) j) w wr

theorem set_mid {zs xs : List Nat} {k n : Nat} (hz : zs.length = k) (hx : xs.length = n) (hk : k < n) (v : Nat) : (zs ++ xs.drop k).set k v = (zs ++ [v]) ++ xs.drop (k + 1) := by
  rw [drop_cons (by omega), List.set_append_right k v (by omega), hz, Nat.sub_self]
  simp
theorem get_mid {zs xs : List Nat} {k n : Nat} (hz : zs.length = k) (hx : xs.length = n) (hk : k < n) : (zs ++ xs.drop k).getD k 0 = xs.getD k 0 := by
  rw [drop_cons (by omega)]
  simp [List.getD, hz]

theorem TakR.step {wr w : World} {B g n cp : Nat} {xs : List Nat} {s t k c : Nat} {zs : List Nat} (h : TakR wr w B g n cp xs s t k c zs) (hl : xs.length = n) (hk : k < n) (x y : Nat) (hx : x < 4294967296) (hy : y < 4294967296) :
    TakR (wr.setCell ⟨g, k, none⟩ (.int .u32 (lim x y c : Nat))) w B g n cp xs (s + 4294967296 ^ k * x) (t + 4294967296 ^ k * y) (k + 1) (bor x (y + c)) (zs ++ [lim x y c]) := by
  refine ⟨by simp [h.len], ?_, bor_le _ _, ?_, ?_, h.chg.trans (.of_set _ _ _ _ atB_some)⟩
  · intro z hz
    rcases List.mem_append.1 hz with hz | hz
    · exact h.ok z hz
    · simp at hz; subst hz; exact lim_lt _ _ _
  · have := h.own.set k (lim x y c)
    rw [set_mid h.len hl hk] at this
    exact this
  · rw [val_append, h.len]
    simp only [Go.Proofs.YtiadccaaoenccaaDoor.val, Nat.mul_zero, Nat.add_zero]
    rw [Nat.pow_succ]
    exact minus_arith h.val (lim_eq x y c hx hy h.cle)

theorem TakR.fin {wr w : World} {B g n cp : Nat} {xs ys : List Nat} {k c : Nat} {zs : List Nat} (h : TakR wr w B g n cp xs (valF (fun i => xs.getD i 0) k) (valF (fun i => ys.getD i 0) k) k c zs) (hl : xs.length = n) (hk : k = n) (h2 : ys.length ≤ n) (hle : Go.Proofs.YtiadccaaoenccaaDoor.val ys ≤ Go.Proofs.YtiadccaaoenccaaDoor.val xs) :
    Ow wr B (some ⟨g, 0, none⟩) n cp zs ∧ Go.Proofs.YtiadccaaoenccaaDoor.val zs = Go.Proofs.YtiadccaaoenccaaDoor.val xs - Go.Proofs.YtiadccaaoenccaaDoor.val ys := by
  subst hk
  have ho := h.own
  rw [List.drop_eq_nil_of_le (by omega), List.append_nil] at ho
  refine ⟨ho, ?_⟩
  have hv := h.val
  rw [valF_ge ys k h2, valF_ge xs k (by omega)] at hv
  have hb := val_lt h.ok
  rw [h.len] at hb
  have hc := h.cle
  have hc0 : c = 0 := by
    rcases Nat.lt_or_ge c 1 with h0 | h0
    · omega
    · have : c = 1 := by omega
      subst this
      rw [Nat.mul_one] at hv
      omega
  subst hc0
  rw [Nat.mul_zero] at hv
  omega

set_option maxRecDepth 100000 in
set_option maxHeartbeats 4000000 in
theorem wtake_some (g B n cp : Nat) (a2 : Option Addr) (n2 c2 : Nat) (xs ys : List Nat) (w : World) (h1 : Ow w B (some ⟨g, 0, none⟩) n cp xs) (h2 : Sl w a2 n2 c2 ys) (ox : Ok xs) (oy : Ok ys) (hb1 : n ≤ 1000000000) (hb2 : n2 ≤ n) (hge : val ys ≤ val xs) (hne : ∀ x, a2 = some x → ys ≠ [] → x.block ≠ g) :
    Calls Tryd.prog 66 #[.slice (some ⟨g, 0, none⟩) n cp, .slice a2 n2 c2] w fun e w' => ∃ m, e = .returned (.slice (some ⟨g, 0, none⟩) m cp) ∧ m ≤ n ∧ Ow w' B (some ⟨g, 0, none⟩) m cp (limbs (val xs - val ys)) ∧ Chg (fun j => AtB (some ⟨g, 0, none⟩) j) w w' := by
  have hl1 := hide h1.len
  have hl2 := hide h2.len
  have HY := hide h2
  have HNE := hide hne
  have HGE := hide hge
  have H0 := hide (show TakR w w B g n cp xs (valF (fun i => xs.getD i 0) 0) (valF (fun i => ys.getD i 0) 0) 0 0 [] from ⟨rfl, Ok.nil, Nat.zero_le _, by simpa using h1, by simp [valF, val], Chg.refl _ _⟩)
  clear h1 h2 hne hge
  go_enter Tryd.func66, Tryd.ntmps66
  go_wp2
  go_loopw [5, 6] (fun cv i wr => ∃ k c : Nat, ∃ zs : List Nat, k ≤ n ∧ i = .int .i64 k ∧ cv = .int .i64 (-(c : Int)) ∧ TakR wr w B g n cp xs (valF (fun i => xs.getD i 0) k) (valF (fun i => ys.getD i 0) k) k c zs) (fun _ i _ => n - (intOf i).toNat)
  case atStart => exact ⟨0, 0, [], Nat.zero_le _, rfl, rfl, unhide H0⟩
  case round =>
    clear H0
    obtain ⟨k, c, zs, hk, rfl, rfl, hR⟩ := hrel
    by_cases hlt : k < n
    · have tA : (k:Int) < (n:Int) := by omega
      have bx := ox.getD k
      have bY := oy.getD k
      have hc1 := hR.cle
      have g1 := hR.own.cell (i := k) hlt
      rw [get_mid hR.len (unhide hl1) hlt] at g1
      have g2 := hR.own.froz (i := k)
      have HS := hide (show TakR _ w B g n cp xs (valF (fun i => xs.getD i 0) (k + 1)) (valF (fun i => ys.getD i 0) (k + 1)) (k + 1) _ _ from hR.step (unhide hl1) hlt (xs.getD k 0) (ys.getD k 0) bx bY)
      by_cases hB : k < n2
      · have tB : (k:Int) < (n2:Int) := by omega
        have hne : ys ≠ [] := by intro e; have := unhide hl2; rw [e] at this; simp at this; omega
        obtain ⟨b2, o2, e2, hc⟩ := (unhide HY).cells.resolve_left hne
        have hb2g := unhide HNE _ e2 hne
        subst e2
        have g3 := (hc.chg hR.chg (fun h => hb2g (atB_is h))) k (by rw [unhide hl2]; exact hB)
        have e1 : (-(c : Int) + (xs.getD k 0 : Nat) - (ys.getD k 0 : Nat)) % 4294967296 = ((lim (xs.getD k 0) (ys.getD k 0) c : Nat) : Int) := by unfold lim; omega
        have e2 : (-(c : Int) + (xs.getD k 0 : Nat) - (ys.getD k 0 : Nat)) / 4294967296 = -((bor (xs.getD k 0) (ys.getD k 0 + c) : Nat) : Int) := by unfold bor; split <;> omega
        clear hR hne hc hb2g HY HNE
        generalize xs.getD k 0 = x at *
        generalize ys.getD k 0 = y at *
        go_wp2
        exact ⟨⟨k + 1, _, _, by omega, by go_num, rfl, unhide HS⟩, by simp [intOf]; omega⟩
      · have tB : ¬ (k:Int) < (n2:Int) := by omega
        have zy : ys.getD k 0 = 0 := getD_ge (by rw [unhide hl2]; omega)
        have e1 : (-(c : Int) + (xs.getD k 0 : Nat)) % 4294967296 = ((lim (xs.getD k 0) (ys.getD k 0) c : Nat) : Int) := by unfold lim; omega
        have e2 : (-(c : Int) + (xs.getD k 0 : Nat)) / 4294967296 = -((bor (xs.getD k 0) (ys.getD k 0 + c) : Nat) : Int) := by unfold bor; split <;> omega
        clear hR zy HY HNE
        generalize xs.getD k 0 = x at *
        generalize ys.getD k 0 = y at *
        go_wp2
        exact ⟨⟨k + 1, _, _, by omega, by go_num, rfl, unhide HS⟩, by simp [intOf]; omega⟩
    · have tA : ¬ (k:Int) < (n:Int) := by omega
      obtain ⟨hO, hv⟩ := hR.fin (unhide hl1) (by omega) (by rw [unhide hl2]; exact hb2) (unhide HGE)
      have K := wnorm_any (some ⟨g, 0, none⟩) n cp B zs wr hO hR.ok
      rw [hv] at K
      have HK := hide K
      have HC := hide hR.chg
      clear K hR hO hv
      go_wp2_with fail
      refine (unhide HK).mono ?_
      rintro e w' ⟨m, rfl, hm, hO, hw⟩
      obtain rfl := hw.symm
      have HO := hide hO
      clear hO hw HK
      go_wp2_with fail
      go_ret
      exact ⟨m, rfl, hm, unhide HO, unhide HC⟩

set_option maxHeartbeats 400000 in
theorem wtake_nil (w : World) (a2 : Option Addr) (n2 c2 : Nat) : Calls Tryd.prog 66 #[.slice none 0 0, .slice a2 n2 c2] w fun e w' => e = .returned (.slice none 0 0) ∧ w' = w := by
  have HK := hide (wnorm_nil w)
  go_enter Tryd.func66, Tryd.ntmps66
  go_wp2
  go_loop [5, 6] (fun c i => c = .int .i64 0 ∧ i = .int .i64 0) (fun _ i => (intOf i).toNat)
  case atStart => exact ⟨rfl, rfl⟩
  case round =>
    obtain ⟨rfl, rfl⟩ := hrel
    go_wp2_with fail
    refine (unhide HK).mono ?_
    rintro e w' ⟨rfl, hw⟩
    obtain rfl := hw.symm
    go_wp2_with fail
    go_ret
    exact ⟨rfl, rfl⟩

theorem wtake_any (a : Option Addr) (B n cp : Nat) (a2 : Option Addr) (n2 c2 : Nat) (xs ys : List Nat) (w : World) (h1 : Ow w B a n cp xs) (h2 : Sl w a2 n2 c2 ys) (ox : Ok xs) (oy : Ok ys) (hb1 : n ≤ 1000000000) (hb2 : n2 ≤ n) (hge : val ys ≤ val xs) (hne : ∀ x, a2 = some x → ys ≠ [] → ¬ AtB a x.block) :
    Calls Tryd.prog 66 #[.slice a n cp, .slice a2 n2 c2] w fun e w' => ∃ m, e = .returned (.slice a m cp) ∧ m ≤ n ∧ Ow w' B a m cp (limbs (val xs - val ys)) ∧ Chg (fun j => AtB a j) w w' := by
  rcases h1.shape with ⟨rfl, rfl, rfl⟩ | ⟨g, rfl⟩
  · have hx : xs = [] := List.eq_nil_of_length_eq_zero h1.len
    subst hx
    refine (wtake_nil w a2 n2 c2).mono ?_
    rintro e w' ⟨rfl, rfl⟩
    refine ⟨0, rfl, Nat.le_refl _, ?_, Chg.refl _ _⟩
    have : val [] - val ys = 0 := by simp [val]
    rw [this]
    exact Ow.nil _ _
  · exact wtake_some g B n cp a2 n2 c2 xs ys w h1 h2 ox oy hb1 hb2 hge (fun x hx hy h => hne x hx hy (by rw [h]; exact atB_some))
set_option maxHeartbeats 1000000 in
theorem weuclid_any (x y : Nat) (w : World) (hx : x < 18446744073709551616) (hy : y < 18446744073709551616) :
    Calls Tryd.prog 63 #[.int .u64 (x : Nat), .int .u64 (y : Nat)] w fun e w' => e = .returned (.int .u64 (Nat.gcd x y : Nat)) ∧ w' = w := by
  go_enter Tryd.func63, Tryd.ntmps63
  go_wp2
  go_loop [0, 1] (fun xv yv => ∃ u v : Nat, u < 18446744073709551616 ∧ v < 18446744073709551616 ∧ xv = .int .u64 (u : Nat) ∧ yv = .int .u64 (v : Nat) ∧ Nat.gcd u v = Nat.gcd x y) (fun _ yv => (intOf yv).toNat)
  case atStart => exact ⟨x, y, hx, hy, rfl, rfl, rfl⟩
  case round =>
    obtain ⟨u, v, hu, hv, rfl, rfl, hg⟩ := hrel
    by_cases h0 : v = 0
    · have HG := hide (show u = Nat.gcd x y by rw [← hg, h0, Nat.gcd_zero_right])
      have t1 : ¬ (0:Int) < (v:Int) := by omega
      clear hg h0
      go_wp2
      go_ret
      exact ⟨by rw [← unhide HG]; rfl, rfl⟩
    · have t1 : (0:Int) < (v:Int) := by omega
      have t2 : ((v:Int) == 0) = false := by simp; omega
      have t3 : ¬ (v:Int) = 0 := by omega
      have hlt : u % v < v := Nat.mod_lt _ (by omega)
      have HG := hide (show Nat.gcd v (u % v) = Nat.gcd x y by rw [← hg, Nat.gcd_comm v, ← Nat.gcd_rec, Nat.gcd_comm])
      have e1 : (u : Int).tmod (v : Int) = ((u % v : Nat) : Int) := by rw [Int.tmod_eq_emod_of_nonneg (by omega)]; exact (Int.natCast_emod _ _).symm
      have e2 : (u : Int) % (v : Int) = ((u % v : Nat) : Int) := (Int.natCast_emod _ _).symm
      generalize u % v = r at *
      clear hg h0
      go_wp2
      exact ⟨⟨v, r, hv, by omega, rfl, rfl, unhide HG⟩, by simp [intOf]; omega⟩

theorem drop_small {xs : List Nat} (ox : Ok xs) {k : Nat} (hk : 1 ≤ k) (hn : xs.length ≤ 2) : val (xs.drop k) < 4294967296 := by
  have := val_lt (ox.drop k)
  have hl : (xs.drop k).length ≤ 1 := by simp; omega
  have h2 : 4294967296 ^ (xs.drop k).length ≤ 4294967296 ^ 1 := Nat.pow_le_pow_right (by decide) hl
  omega

set_option maxHeartbeats 1000000 in
theorem wsmall_any (a : Option Addr) (n c : Nat) (xs : List Nat) (w : World) (h : Sl w a n c xs) (ox : Ok xs) (hn : n ≤ 2) :
    Calls Tryd.prog 64 #[.slice a n c] w fun e w' => e = .returned (.int .u64 (val xs : Nat)) ∧ w' = w := by
  have HL := hide h.len
  have HS := hide h
  clear h
  go_enter Tryd.func64, Tryd.ntmps64
  go_wp2
  go_loop [3, 4] (fun xv i => ∃ k : Nat, k ≤ n ∧ i = .int .i64 ((k : Int) - 1) ∧ xv = .int .u64 (val (xs.drop k) : Nat)) (fun _ i => (intOf i + 1).toNat)
  case atStart => exact ⟨n, Nat.le_refl _, rfl, by rw [List.drop_eq_nil_of_le (by rw [unhide HL]; exact Nat.le_refl _)]; rfl⟩
  case round =>
    obtain ⟨k, hk, rfl, rfl⟩ := hrel
    rcases k with _ | k
    · have t1 : ¬ (0:Int) ≤ ((0:Nat):Int) - 1 := by omega
      go_wp2
      go_ret
      exact ⟨rfl, rfl⟩
    · have t0 : ((k + 1 : Nat) : Int) - 1 = (k : Int) := by omega
      rw [t0]
      have t1 : (k:Int) < (n:Int) := by omega
      have hne : xs ≠ [] := by intro e; have := unhide HL; rw [e] at this; simp at this; omega
      obtain ⟨b, off, rfl, hc⟩ := (unhide HS).cells.resolve_left hne
      have g1 := hc k (by rw [unhide HL]; omega)
      have b1 := drop_small ox (k := k + 1) (by omega) (by rw [unhide HL]; exact hn)
      have b2 := ox.getD k
      have e1 := or_halves (val (xs.drop (k + 1))) (xs.getD k 0) b1 b2
      rw [← val_drop_step] at e1
      have HV := hide (show val (xs.drop k) = xs.getD k 0 + 4294967296 * val (xs.drop (k + 1)) from val_drop_step _ _)
      have b3 : val (xs.drop k) < 18446744073709551616 := by rw [unhide HV]; omega
      generalize val (xs.drop (k + 1)) = u at *
      generalize xs.getD k 0 = x at *
      obtain ⟨z, hz⟩ : ∃ z, val (xs.drop k) = z := ⟨_, rfl⟩
      rw [hz] at e1 b3
      have HZ := hide hz
      clear hz hc hne HS HV
      go_wp2
      exact ⟨⟨k, by omega, rfl, by rw [unhide HZ]⟩, by simp [intOf]⟩

set_option maxHeartbeats 400000 in
theorem wlimbs_any (v : Nat) (w : World) (hv : v < 18446744073709551616) :
    Calls Tryd.prog 62 #[.int .u64 (v : Nat)] w fun e w' => NewL w w' v e := by
  have K := wnorm_sl _ 2 2 _ _ (two_sl w (v % 4294967296) (v / 4294967296) 74) (by intro e; cases e) (two_ok v hv)
  rw [two_val] at K
  have HK := hide K
  clear K
  go_enter Tryd.func62, Tryd.ntmps62
  go_wp2_with fail
  refine (unhide HK).mono ?_
  rintro e w' ⟨m, rfl, hm, hO, hw⟩
  obtain rfl := hw.symm
  have HO := hide hO
  clear hO HK
  have HB := hide ((Below.refl w.heap.size w).alloc (Nat.le_refl _) (.cells #[.int .u32 (v % 4294967296 : Nat), .int .u32 (v / 4294967296 : Nat)] 74))
  go_wp2_with fail
  go_ret
  exact ⟨_, _, _, rfl, unhide HO, fun x hx => by cases hx; exact Nat.le_refl _, (by intro e; cases e), unhide HB⟩
structure DbR (wr w : World) (B g n cp : Nat) (xs : List Nat) (s bit : Nat) (k c : Nat) (zs : List Nat) : Prop where
  len : zs.length = k
  ok : Ok zs
  cle : c ≤ 1
  own : Ow wr B (some ⟨g, 0, none⟩) n cp (zs ++ xs.drop k)
  val : val zs + 4294967296 ^ k * c = 2 * s + bit
  chg : Chg (fun j => AtB (some ⟨g, 0, none⟩) j) w wr

theorem DbR.step {wr w : World} {B g n cp : Nat} {xs : List Nat} {s bit k c : Nat} {zs : List Nat} (h : DbR wr w B g n cp xs s bit k c zs) (hl : xs.length = n) (hk : k < n) (x : Nat) (hx : x < 4294967296) :
    DbR (wr.setCell ⟨g, k, none⟩ (.int .u32 (tw x c : Nat))) w B g n cp xs (s + 4294967296 ^ k * x) bit (k + 1) (x / 2147483648) (zs ++ [tw x c]) := by
  refine ⟨by simp [h.len], ?_, by omega, ?_, ?_, h.chg.trans (.of_set _ _ _ _ atB_some)⟩
  · intro z hz
    rcases List.mem_append.1 hz with hz | hz
    · exact h.ok z hz
    · simp at hz; subst hz; exact tw_lt h.cle
  · have := h.own.set k (tw x c)
    rw [set_mid h.len hl hk] at this
    exact this
  · rw [val_append, h.len]
    simp only [Go.Proofs.YtiadccaaoenccaaDoor.val, Nat.mul_zero, Nat.add_zero]
    rw [Nat.pow_succ]
    refine tw_arith h.val ?_
    unfold tw
    omega
end Go.Proofs.YtiadccaaoenccaaDoor
