/-
  WHAT A LAW CARRIES FROM CALL TO CALL: the book of what was handed in, and every list so far.
-/
import Derived.Test.YtlecjjcpidjmhaaGiv3
import Derived.Test.YtlecjjcpidjmhaaRAdd
namespace Go.Proofs.Ytlecjjcpidjmhaa
open Go.RowKit Go.Deep
set_option linter.unusedVariables false

/-- A list and where it lies. -/
structure Pc where
  a : Option Addr
  n : Nat
  c : Nat
  xs : List Nat

def Pc.v (p : Pc) : Value := .slice p.a p.n p.c

structure Kp (w : World) (B : Nat) (v0 v1 : Value) (p : Pc) : Prop where
  sl : Sl w p.a p.n p.c p.xs
  safe : ∀ x, p.a = some x → p.xs ≠ [] → ¬ Own B v0 v1 x.block

structure LawSt (w : World) (B : Nat) (v0 v1 : Value) (es : List Ent) (w0 : World) (L : List Pc) : Prop where
  giv : Giv w B v0 v1 es
  bel : Below w0.heap.size w0 w
  base : w0.heap.size ≤ B
  all : ∀ p ∈ L, Kp w B v0 v1 p

theorem Giv.own_lt {w : World} {B : Nat} {v0 v1 : Value} {es : List Ent} (h : Giv w B v0 v1 es) {k : Nat} (hk : Own B v0 v1 k) : k < w.heap.size := by
  rcases hk with rfl | hk | hk
  · exact h.cell0.2.2.2.2
  · exact (own_ge h.own0 k hk).2
  · exact (own_ge h.own1 k hk).2

theorem Giv.own_ge {w : World} {B : Nat} {v0 v1 : Value} {es : List Ent} (h : Giv w B v0 v1 es) {k : Nat} (hk : Own B v0 v1 k) : B ≤ k := by
  rcases hk with rfl | hk | hk
  · exact Nat.le_refl _
  · have := (Go.Proofs.Ytlecjjcpidjmhaa.own_ge h.own0 k hk).1; omega
  · have := (Go.Proofs.Ytlecjjcpidjmhaa.own_ge h.own1 k hk).1; omega

theorem Kp.below {w w' : World} {B : Nat} {v0 v1 : Value} {p : Pc} (h : Kp w B v0 v1 p) (k : Below w.heap.size w w') : Kp w' B v0 v1 p := ⟨h.sl.below k, h.safe⟩

/-- A call that writes nothing that was there, and answers a list in new memory. -/
theorem LawSt.res {w w' : World} {B : Nat} {v0 v1 : Value} {es : List Ent} {w0 : World} {L : List Pc} (h : LawSt w B v0 v1 es w0 L) (k : Below w.heap.size w w') {a : Option Addr} {m c : Nat} {ys : List Nat} (hs : Sl w' a m c ys) (hn : NewAt w.heap.size a) :
    LawSt w' B v0 v1 es w0 (⟨a, m, c, ys⟩ :: L) := by
  refine ⟨h.giv.below k, h.bel.trans (k.mono h.bel.size), h.base, ?_⟩
  intro p hp
  rcases List.mem_cons.1 hp with rfl | hp
  · refine ⟨hs, ?_⟩
    intro x hx _ ho
    have := h.giv.own_lt ho
    have := hn x hx
    omega
  · exact (h.all p hp).below k

theorem LawSt.keep {w w' : World} {B : Nat} {v0 v1 : Value} {es : List Ent} {w0 : World} {L : List Pc} (h : LawSt w B v0 v1 es w0 L) (k : Below w.heap.size w w') : LawSt w' B v0 v1 es w0 L :=
  ⟨h.giv.below k, h.bel.trans (k.mono h.bel.size), h.base, fun p hp => (h.all p hp).below k⟩

theorem LawSt.drewN {w : World} {B : Nat} {v0 v1 : Value} {es : List Ent} {w0 : World} {L : List Pc} (h : LawSt w B v0 v1 es w0 L) (k : Nat) : LawSt (w.drewN k) B v0 v1 es w0 L :=
  h.keep (bel_drewN (Below.refl _ _) k)

theorem LawSt.res2 {w w' : World} {B : Nat} {v0 v1 : Value} {es : List Ent} {w0 : World} {L : List Pc} (h : LawSt w B v0 v1 es w0 L) {r : List Nat × Int} {e : Ending} (hr : Res2 w w' r e) :
    ∃ a m c, e = .returned (.tuple #[.slice a m c, .int .i64 r.2]) ∧ LawSt w' B v0 v1 es w0 (⟨a, m, c, r.1⟩ :: L) := by
  obtain ⟨a, m, c, rfl, hs, hn, hb⟩ := hr
  exact ⟨a, m, c, rfl, h.res hb hs hn⟩

theorem LawSt.res3 {w w' : World} {B : Nat} {v0 v1 : Value} {es : List Ent} {w0 : World} {L : List Pc} (h : LawSt w B v0 v1 es w0 L) {r : List Nat × Bool × Int} {e : Ending} (hr : Res3 w w' r e) :
    ∃ a m c, e = .returned (.tuple #[.slice a m c, .bool r.2.1, .int .i64 r.2.2]) ∧ LawSt w' B v0 v1 es w0 (⟨a, m, c, r.1⟩ :: L) := by
  obtain ⟨a, m, c, rfl, hs, hn, hb⟩ := hr
  exact ⟨a, m, c, rfl, h.res hb hs hn⟩

theorem Sl.pre {w : World} {b c n : Nat} {xs ys : List Nat} (h : Sl w (some ⟨b, 0, none⟩) (xs.length + 3) c (xs ++ ys)) (hn : xs.length = n) (hl : ys.length = 3) : Sl w (some ⟨b, 0, none⟩) n c xs := by
  have h1 := h.le
  refine ⟨hn, by omega, h.cap, ?_⟩
  rcases h.cells with e | ⟨b', off', e, k⟩
  · left
    cases xs with
    | nil => rfl
    | cons => simp at e
  · right
    refine ⟨b', off', e, ?_⟩
    intro i hi
    have := k i (by simp; omega)
    rw [this]
    simp [List.getD, List.getElem?_append_left hi]

/-- Given.Nat. -/
theorem LawSt.nat {w : World} {B : Nat} {v0 v1 : Value} {es : List Ent} {w0 : World} {L : List Pc} (h : LawSt w B v0 v1 es w0 L) (p : Pc) (hp : p ∈ L) (hn : p.n ≤ 35184372088000) (he : es.length ≤ 1000000000000) :
    Calls Try.prog 12 #[.pointer (some ⟨B, 0, none⟩), .slice p.a p.n p.c] w fun e w' => ∃ v0' v1' E, e = .returned (.slice (some ⟨Ent.b E, 0, none⟩) p.n E.c) ∧ LawSt w' B v0' v1' (es ++ [E]) w0 (⟨some ⟨E.b, 0, none⟩, p.n, E.c, p.xs⟩ :: L) := by
  refine (gnat_any B v0 v1 es p.a p.n p.c p.xs w h.giv (h.all p hp).sl hn he).mono ?_
  rintro e w' ⟨v0', v1', E, rfl, hxs, hge, hg, hc, hsafe⟩
  refine ⟨v0', v1', E, rfl, hg, ?_, h.base, ?_⟩
  · refine h.bel.trans (hc.below h.bel.size ?_)
    intro k hk ho
    have := h.giv.own_ge ho
    have := h.base
    omega
  · intro q hq
    rcases List.mem_cons.1 hq with rfl | hq
    · have E1 := hg.ents E (by simp)
      have := E1.sl.pre (n := p.n) (by rw [hxs]; exact (h.all p hp).sl.len) (by rfl)
      rw [hxs] at this
      exact ⟨this, fun x hx _ => by cases hx; exact E1.s⟩
    · have K := h.all q hq
      refine ⟨K.sl.chg hc K.safe, ?_⟩
      intro x hx hne
      exact hsafe _ (K.sl.block_lt hne x hx) (K.safe x hx hne)

theorem LawSt.sl {w : World} {B : Nat} {v0 v1 : Value} {es : List Ent} {w0 : World} {L : List Pc} (h : LawSt w B v0 v1 es w0 L) (p : Pc) (hp : p ∈ L) : Sl w p.a p.n p.c p.xs := (h.all p hp).sl

/-- A book just begun. -/
theorem LawSt.begin {w : World} {L : List Pc} (o : Obj) (ho : o = .cells #[.slice none 0 0, .slice none 0 0, .slice none 0 0, .slice none 0 0, .slice none 0 0, .slice none 0 0, .slice none 0 0, .slice none 0 0, .slice none 0 0, .slice none 0 0, .slice none 0 0, .slice none 0 0, .slice none 0 0, .slice none 0 0, .slice none 0 0, .slice none 0 0, .slice none 0 0, .slice none 0 0, .slice none 0 0, .slice none 0 0] 43)
    (h : ∀ p ∈ L, Sl w p.a p.n p.c p.xs) : LawSt (w.alloc o) w.heap.size (.slice none 0 0) (.slice none 0 0) [] w L := by
  have bel : Below w.heap.size w (w.alloc o) := (Below.refl _ _).alloc (Nat.le_refl _) o
  subst ho
  refine ⟨⟨⟨_, alloc_block _ _, rfl, rfl, rfl, ?_⟩, World.ownsRow_nil _ _ _ _, World.ownsRow_nil _ _ _ _, (fun k hk => by cases hk), (fun e he => by cases he)⟩, bel, Nat.le_refl _, ?_⟩
  · intro i h2 h20
    match i, h20 with
    | 0, _ | 1, _ | 2, _ | 3, _ | 4, _ | 5, _ | 6, _ | 7, _ | 8, _ | 9, _ | 10, _ | 11, _ | 12, _ | 13, _ | 14, _ | 15, _ | 16, _ | 17, _ | 18, _ | 19, _ => rfl
    | n + 20, h => exact absurd h (by omega)
  · intro p hp
    have := h p hp
    refine ⟨this.below bel, ?_⟩
    rintro x hx hne (h | h | h)
    · have := this.block_lt hne x hx; omega
    · cases h
    · cases h

set_option maxHeartbeats 400000 in
/-- slopelaw1.num. -/
theorem num_any (x : Int) (w : World) : Calls Try.prog 9 #[.int .i64 x] w fun e w' => e = .returned (.int .i64 x) ∧ w' = w := by
  go_enter Try.func9, Try.ntmps9
  go_wp2
  go_ret
  exact ⟨rfl, rfl⟩

/-- slopelaw1.same, of two lists that are the same. -/
theorem LawSt.same {w : World} {B : Nat} {v0 v1 : Value} {es : List Ent} {w0 : World} {L : List Pc} (h : LawSt w B v0 v1 es w0 L) (p q : Pc) (hp : p ∈ L) (hq : q ∈ L) (he : p.xs = q.xs) :
    Calls Try.prog 10 #[.slice p.a p.n p.c, .slice q.a q.n q.c] w fun e w' => e = .returned (.bool true) ∧ LawSt w' B v0 v1 es w0 L := by
  refine (same_any p.a q.a p.n p.c q.n q.c p.xs q.xs w (h.sl p hp) (h.sl q hq)).mono ?_
  rintro e w' ⟨rfl, k, rfl⟩
  exact ⟨by simp [he], h.drewN k⟩

/-- A call that only reads. -/
theorem LawSt.quiet {w : World} {B : Nat} {v0 v1 : Value} {es : List Ent} {w0 : World} {L : List Pc} (h : LawSt w B v0 v1 es w0 L) {f : FuncId} {args : Array Value} {v : Value} (k : Calls Try.prog f args w fun e w' => e = .returned v ∧ ∃ k, w' = w.drewN k) :
    Calls Try.prog f args w fun e w' => e = .returned v ∧ LawSt w' B v0 v1 es w0 L :=
  k.mono fun _ _ ⟨he, k, hk⟩ => ⟨he, hk ▸ h.drewN k⟩

/-- Given.Intact. -/
theorem LawSt.intact {w : World} {B : Nat} {v0 v1 : Value} {es : List Ent} {w0 : World} {L : List Pc} (h : LawSt w B v0 v1 es w0 L) :
    Calls Try.prog 14 #[.pointer (some ⟨B, 0, none⟩)] w fun e w' => e = .returned (.bool true) ∧ LawSt w' B v0 v1 es w0 L := by
  refine (intact_any w B v0 v1 es h.giv).mono ?_
  rintro e w' ⟨rfl, k, rfl⟩
  exact ⟨rfl, h.drewN k⟩
end Go.Proofs.Ytlecjjcpidjmhaa
