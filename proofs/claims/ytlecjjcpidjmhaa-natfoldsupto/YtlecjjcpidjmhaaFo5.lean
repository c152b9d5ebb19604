/-
  slopelaw1.many: contract.
-/
import Derived.Test.YtlecjjcpidjmhaaFo4
namespace Go.Proofs.Ytlecjjcpidjmhaa
open Go.RowKit Go.Deep
set_option linter.unusedVariables false

/-- What a call leaves that writes into the book alone. -/
structure Fr (w w' : World) (B : Nat) (v0 v1 v0' v1' : Value) : Prop where
  chg : Chg (Own B v0 v1) w w'
  safe : ∀ k, k < w.heap.size → ¬ Own B v0 v1 k → ¬ Own B v0' v1' k

theorem Fr.refl (w : World) (B : Nat) (v0 v1 : Value) : Fr w w B v0 v1 v0 v1 := ⟨Chg.refl _ _, fun _ _ h => h⟩
theorem Fr.trans {w w' w'' : World} {B : Nat} {v0 v1 x0 x1 y0 y1 : Value} (h : Fr w w' B v0 v1 x0 x1) (k : Fr w' w'' B x0 x1 y0 y1) : Fr w w'' B v0 v1 y0 y1 := by
  refine ⟨⟨k.chg.os.trans h.chg.os, k.chg.tape.trans h.chg.tape, k.chg.output.trans h.chg.output, Nat.le_trans h.chg.size k.chg.size, fun i hi hn => ?_⟩, fun i hi hn => k.safe i (Nat.lt_of_lt_of_le hi h.chg.size) (h.safe i hi hn)⟩
  rw [k.chg.block i (Nat.lt_of_lt_of_le hi h.chg.size) (h.safe i hi hn), h.chg.block i hi hn]

/-- Given.Nat of a list that lay there ahead of all. -/
theorem LawSt.nat2 {w : World} {B : Nat} {v0 v1 : Value} {es : List Ent} {w0 : World} {L : List Pc} (h : LawSt w B v0 v1 es w0 L) (a : Option Addr) (n c : Nat) (xs : List Nat) (hs : Sl w a n c xs) (hn : n ≤ 35184372088000) (he : es.length ≤ 1000000000000) :
    Calls Try.prog 12 #[.pointer (some ⟨B, 0, none⟩), .slice a n c] w fun e w' => ∃ v0' v1' E, e = .returned (.slice (some ⟨Ent.b E, 0, none⟩) n E.c) ∧ LawSt w' B v0' v1' (es ++ [E]) w0 (⟨some ⟨E.b, 0, none⟩, n, E.c, xs⟩ :: L) ∧ Fr w w' B v0 v1 v0' v1' := by
  refine (gnat_any B v0 v1 es a n c xs w h.giv hs hn he).mono ?_
  rintro e w' ⟨v0', v1', E, rfl, hxs, hge, hg, hc, hsafe⟩
  refine ⟨v0', v1', E, rfl, ⟨hg, ?_, h.base, ?_⟩, ⟨hc, hsafe⟩⟩
  · refine h.bel.trans (hc.below h.bel.size ?_)
    intro k hk ho
    have := h.giv.own_ge ho
    have := h.base
    omega
  · intro q hq
    rcases List.mem_cons.1 hq with rfl | hq
    · have E1 := hg.ents E (by simp)
      have := E1.sl.pre (n := n) (by rw [hxs]; exact hs.len) (by rfl)
      rw [hxs] at this
      exact ⟨this, fun x hx _ => by cases hx; exact E1.s⟩
    · have K := h.all q hq
      refine ⟨K.sl.chg hc K.safe, ?_⟩
      intro x hx hne
      exact hsafe _ (K.sl.block_lt hne x hx) (K.safe x hx hne)

/-- A piece that is in the way of no row. -/
def Easy (w0 : World) (p : Pc) : Prop := p.xs ≠ [] → ∀ x, p.a = some x → x.block < w0.heap.size ∨ x = ⟨x.block, 0, none⟩

/-- A row of lists beside the book. -/
structure Row (w : World) (base B : Nat) (v0 v1 : Value) (v : Value) (qs : List Pc) (L : List Pc) : Prop where
  own : w.ownsRow base 23 1 v qs.length (qs.map Pc.v)
  safe : ∀ k, v.ownBlock = some k → ¬ Own B v0 v1 k
  mem : ∀ q ∈ qs, q ∈ L
  pos : ∀ k, v.ownBlock = some k → qs ≠ []

theorem Row.fr {w w' : World} {base B : Nat} {v0 v1 v0' v1' v : Value} {qs L L' : List Pc} (h : Row w base B v0 v1 v qs L) (f : Fr w w' B v0 v1 v0' v1') (hL : ∀ q ∈ L, q ∈ L') : Row w' base B v0' v1' v qs L' :=
  ⟨ownsRow_chg h.own f.chg (fun k hk => h.safe k hk), fun k hk => f.safe k (own_ge h.own k hk).2 (h.safe k hk), fun q hq => hL q (h.mem q hq), h.pos⟩

/-- The row's first cell is a list. -/
theorem Row.first {w : World} {base B : Nat} {v0 v1 v : Value} {qs L : List Pc} (h : Row w base B v0 v1 v qs L) {g : Nat} (hg : v.ownBlock = some g) : ∃ q : Pc, w.cell? ⟨g, 0, none⟩ = some (.slice q.a q.n q.c) := by
  have hne := h.pos g hg
  have hl : 0 < qs.length := List.length_pos_iff.2 hne
  rcases h.own.2 with ⟨e, h0⟩ | ⟨g', cap, cur, e, _⟩
  · rw [e] at hg; cases hg
  · have ho := h.own
    rw [e] at ho hg
    have hgg : g' = g := by simpa [Value.ownBlock] using hg
    subst hgg
    have hc := ho.cellAt 0 (by omega)
    rw [List.getElem?_map, List.getElem?_eq_getElem hl] at hc
    exact ⟨qs[0], hc⟩

theorem LawSt.rowed {w w1 : World} {B base : Nat} {v0 v1 v : Value} {es : List Ent} {w0 : World} {L qs : List Pc} {o : Obj} (h : LawSt w B v0 v1 es w0 L) (r : Row w base B v0 v1 v qs L) (hb : w0.heap.size ≤ base) (hE : ∀ p ∈ L, Easy w0 p) (hg : (w.alloc o).grownBy w1 v.ownBlock) :
    LawSt w1 B v0 v1 es w0 L ∧ Chg (fun j => v.ownBlock = some j) w w1 := by
  have c1 : Chg (fun j => v.ownBlock = some j) w w1 := (Chg.of_alloc w o).trans (Chg.of_grown hg (fun j hj => hj))
  have hno : ∀ b, (∃ x : Nat, w.cell? ⟨b, 0, none⟩ = some (.int .u32 (x : Nat))) → ¬ v.ownBlock = some b := by
    rintro b ⟨x, hx⟩ e
    obtain ⟨q, hq⟩ := r.first e
    rw [hq] at hx
    cases hx
  refine ⟨⟨h.giv.chg c1 (fun e => r.safe _ e (.inl rfl)) (fun k hk e => r.safe _ e (.inr (.inl hk))) (fun k hk e => r.safe _ e (.inr (.inr hk))) (fun e he => ?_), h.bel.trans (c1.below h.bel.size (fun k hk e => ?_)), h.base, fun p hp => ?_⟩, c1⟩
  · have E := h.giv.ents e he
    have hne : e.xs ++ marks ≠ [] := by simp [marks]
    refine ⟨hno _ ?_, hno _ ?_⟩
    · obtain ⟨b', o', e1, hc⟩ := E.sl.cells.resolve_left hne
      cases e1
      exact ⟨_, hc 0 (List.length_pos_iff.2 hne)⟩
    · obtain ⟨b', o', e1, hc⟩ := E.sl0.cells.resolve_left hne
      cases e1
      exact ⟨_, hc 0 (List.length_pos_iff.2 hne)⟩
  · have := (own_ge r.own k e).1
    omega
  · have K := h.all p hp
    refine ⟨K.sl.chg c1 (fun x hx hne e => ?_), K.safe⟩
    obtain ⟨b', o', e1, hc⟩ := K.sl.cells.resolve_left hne
    rw [e1] at hx
    cases hx
    rcases hE p hp hne _ e1 with hlt | hz
    · have := (own_ge r.own _ e).1
      simp only at this hlt
      omega
    · have ho : o' = 0 := congrArg Addr.off hz
      subst ho
      exact hno _ ⟨_, hc 0 (List.length_pos_iff.2 hne)⟩ e

theorem Fr.app {ws w w1 : World} {B : Nat} {x0 x1 v0 v1 : Value} {S : Nat → Prop} (h : Fr ws w B x0 x1 v0 v1) (c : Chg S w w1) (hS : ∀ j, S j → ws.heap.size ≤ j) : Fr ws w1 B x0 x1 v0 v1 := by
  refine ⟨⟨c.os.trans h.chg.os, c.tape.trans h.chg.tape, c.output.trans h.chg.output, Nat.le_trans h.chg.size c.size, fun i hi hn => ?_⟩, h.safe⟩
  rw [c.block i (Nat.lt_of_lt_of_le hi h.chg.size) (fun e => by have := hS i e; omega), h.chg.block i hi hn]

theorem Row.pushed {w w1 : World} {B base : Nat} {v0 v1 v : Value} {es : List Ent} {w0 : World} {L qs : List Pc} {g cap k : Nat} {q : Pc} (h : LawSt w B v0 v1 es w0 L) (r : Row w base B v0 v1 v qs L) (hk : qs.length = k) (hq : q ∈ L)
    (hown : w1.ownsRow base 23 1 (.slice (some ⟨g, 0, none⟩) (k + 1) cap) (k + 1) (qs.map Pc.v ++ [q.v])) (hat : v.ownBlock = some g ∨ g = w.heap.size + 1) : Row w1 base B v0 v1 (.slice (some ⟨g, 0, none⟩) (k + 1) cap) (qs ++ [q]) L := by
  refine ⟨?_, fun j hj => ?_, fun p hp => ?_, fun j hj => by simp⟩
  · rw [List.map_append, List.length_append, hk]
    exact hown
  · have e : g = j := by simpa [Value.ownBlock] using hj
    subst e
    rcases hat with e | e
    · exact r.safe _ e
    · intro ho
      have := h.giv.own_lt ho
      omega
  · rcases List.mem_append.1 hp with e | e
    · exact r.mem p e
    · simp at e; rw [e]; exact hq

theorem Try.info_nat : (Try.prog.info? 23).map (fun i => (i.zero, i.size, i.bytes)) = some (some (.slice none 0 0), 1, 24) := by kernel_rfl

/-- What many leaves behind k lists. -/
structure MnR (wr ws w0 : World) (B : Nat) (x0 x1 v0 v1 : Value) (es : List Ent) (L L' : List Pc) (ps : List Pc) (k : Nat) (v : Value) (qs : List Pc) : Prop where
  law : LawSt wr B v0 v1 es w0 L'
  row : Row wr ws.heap.size B v0 v1 v qs L'
  fr : Fr ws wr B x0 x1 v0 v1
  easy : ∀ p ∈ L', Easy w0 p
  sub : ∀ p ∈ L, p ∈ L'
  len : qs.length = k
  same : qs.map Pc.xs = (ps.take k).map Pc.xs

theorem own_lenF {w : World} {base k : Nat} {e : TypeId} {v : Value} {ws : List Value} (h : w.ownsRow base e 1 v k ws) : ∃ a c, v = .slice a k c := by
  rcases h.2 with ⟨e, h0⟩ | ⟨g, cap, cur, e, hb, h5, h6, h7, h8, h9⟩
  · subst e h0
    exact ⟨none, 0, rfl⟩
  · subst e
    exact ⟨_, _, rfl⟩

def MnPost (ws w0 : World) (B : Nat) (x0 x1 : Value) (es0 : List Ent) (L ps : List Pc) (n : Nat) (e : Ending) (w' : World) : Prop :=
  ∃ v v0 v1 es L' qs, e = .returned v ∧ es.length = es0.length + n ∧ MnR w' ws w0 B x0 x1 v0 v1 es L L' ps n v qs

set_option maxHeartbeats 8000000 in
/-- slopelaw1.many. -/
theorem many_any (B : Nat) (x0 x1 : Value) (es0 : List Ent) (w0 ws : World) (L : List Pc) (a : Option Addr) (n c : Nat) (ps : List Pc) (h : LawSt ws B x0 x1 es0 w0 L) (hl : SlL w0 a n c ps) (hE : ∀ p ∈ L, Easy w0 p) (hn : n ≤ 1000000000) (hes : es0.length ≤ 1000000000) (hp : ∀ p ∈ ps, p.n ≤ 35184372088000) :
    Calls Try.prog 21 #[.pointer (some ⟨B, 0, none⟩), .slice a n c] ws fun e w' => MnPost ws w0 B x0 x1 es0 L ps n e w' := by
  have H := hide hl
  have HL := hide hl.len
  have HP := hide hp
  have H0 := hide (show MnR ws ws w0 B x0 x1 x0 x1 es0 L L ps 0 (.slice none 0 0) [] from ⟨h, ⟨World.ownsRow_nil _ _ _ _, (fun k hk => by cases hk), (fun q hq => by cases hq), (fun k hk => by cases hk)⟩, Fr.refl _ _ _ _, hE, fun p hp => hp, rfl, by simp⟩)
  obtain ⟨i24, hi24, hz24, hs24, hb24⟩ := info_parts Try.info_nat
  have I24 := hide (And.intro hi24 (And.intro hz24 (And.intro hs24 hb24)))
  have hbs : w0.heap.size ≤ ws.heap.size := h.bel.size
  clear h hl hE hp hi24 hz24 hs24 hb24
  go_enter Try.func21, Try.ntmps21
  go_wp2_with fail
  go_loopw [5, 6] (fun ov iv wr => ∃ (k : Nat) (v0 v1 : Value) (es : List Ent) (L' qs : List Pc), k ≤ n ∧ iv = .int .i64 (k : Nat) ∧ es.length = es0.length + k ∧ MnR wr ws w0 B x0 x1 v0 v1 es L L' ps k ov qs) (fun _ iv _ => n - (intOf iv).toNat)
  case atStart => exact ⟨0, x0, x1, es0, L, [], Nat.zero_le _, rfl, rfl, unhide H0⟩
  case round =>
    clear H0
    obtain ⟨k, v0, v1, es, L', qs, hk, rfl, hel, hR⟩ := hrel
    by_cases hkn : k < n
    · have hkn' : (k:Int) < (n:Int) := by omega
      have hlw := (unhide H).below hR.law.bel
      obtain ⟨b, off, p, rfl, hp, hc, hs, ok⟩ := hlw.at' hkn
      have hpn := unhide HP p (List.mem_of_getElem? hp)
      have KN := hide (hR.law.nat2 p.a p.n p.c p.xs hs hpn (by omega))
      have hlq := hR.len
      obtain ⟨av, cv, rfl⟩ := own_lenF hR.row.own
      rw [hlq]
      have HR := hide hR
      have HPk := hide hp
      clear hR hlw hp hs ok hpn
      go_wp2_with fail
      refine (unhide KN).mono ?_
      rintro _ w2 ⟨y0, y1, E, rfl, h2, f2⟩
      have r2 := (unhide HR).row.fr f2 (L' := ⟨some ⟨E.b, 0, none⟩, p.n, E.c, p.xs⟩ :: L') (fun q hq => List.mem_cons_of_mem _ hq)
      rw [hlq] at r2
      have hz2 := h2.bel.size
      have hws : ws.heap.size ≤ w2.heap.size := Nat.le_trans (unhide HR).fr.chg.size f2.chg.size
      have O2 := hide r2.own
      have X2 := hide (And.intro h2 (And.intro r2 f2))
      clear h2 r2 f2 KN
      rw [hlq] at O2
      go_wp2_with (at_builtin; refine wpList_append_lies _ rfl _ _ 60 rfl ws.heap.size 23 i24 (.slice none 0 0) 1 24 Try.underlying60 (unhide I24).1 (unhide I24).2.1 (unhide I24).2.2.1 (unhide I24).2.2.2 rfl (by decide) _ k _ rfl ((unhide O2).alloc _) ⟨w2.heap.size, 0, none⟩ 1 1 [.slice (some ⟨E.b, 0, none⟩) p.n E.c] rfl rfl (World.news_of_block (alloc_block _ _)) one_slice (by decide) ?c31 ?c41 ?c51 (w2.heap.size + 1) (by simp) ?_)
      case c31 => unfold maxLen; omega
      case c41 => omega
      case c51 => simp; omega
      intro g1' cc' w3 hown hgrow hat hlt2
      have hX := unhide X2
      have hEs : ∀ q ∈ ((⟨some ⟨E.b, 0, none⟩, p.n, E.c, p.xs⟩ : Pc) :: L'), Easy w0 q := by
        intro q hq
        rcases List.mem_cons.1 hq with rfl | hq
        · intro _ x hx; cases hx; exact .inr rfl
        · exact (unhide HR).easy q hq
      have L3 := hX.1.rowed hX.2.1 hbs hEs hgrow
      have R3 := Row.pushed (w1 := w3) hX.1 hX.2.1 hlq (List.mem_cons_self) hown hat
      have R3' : Row w3 ws.heap.size B y0 y1 (.slice (some ⟨g1', 0, none⟩) (k + 1) cc') (qs ++ [⟨some ⟨E.b, 0, none⟩, p.n, E.c, p.xs⟩]) (⟨some ⟨E.b, 0, none⟩, p.n, E.c, p.xs⟩ :: L') := R3
      have F3 : Fr ws w3 B x0 x1 y0 y1 := ((unhide HR).fr.trans hX.2.2).app L3.2 (fun j hj => (own_ge hX.2.1.own j hj).1)
      have hsame : (qs ++ [(⟨some ⟨E.b, 0, none⟩, p.n, E.c, p.xs⟩ : Pc)]).map Pc.xs = (ps.take (k + 1)).map Pc.xs := by
        obtain ⟨hi, e⟩ := List.getElem?_eq_some_iff.1 (unhide HPk)
        rw [List.take_succ_eq_append_getElem hi, List.map_append, List.map_append, (unhide HR).same, e]
        rfl
      have HN := hide (show MnR w3 ws w0 B x0 x1 y0 y1 (es ++ [E]) L (⟨some ⟨E.b, 0, none⟩, p.n, E.c, p.xs⟩ :: L') ps (k + 1) (.slice (some ⟨g1', 0, none⟩) (k + 1) cc') (qs ++ [⟨some ⟨E.b, 0, none⟩, p.n, E.c, p.xs⟩]) from
        ⟨L3.1, R3', F3, hEs, fun q hq => List.mem_cons_of_mem _ ((unhide HR).sub q hq), by simp [hlq], hsame⟩)
      clear hown hgrow hat hlt2 hX hEs L3 R3 R3' F3 hsame X2 O2 HR
      go_wp2_with fail
      exact ⟨⟨k + 1, y0, y1, es ++ [E], _, _, by omega, by go_num, by simp [hel]; omega, unhide HN⟩, by simp [intOf]; omega⟩
    · obtain rfl : k = n := by omega
      have hkn' : ¬ (k:Int) < (k:Int) := by omega
      have HR := hide hR
      clear hR
      go_wp2_with fail
      go_ret
      exact ⟨_, v0, v1, es, L', qs, rfl, hel, unhide HR⟩
end Go.Proofs.Ytlecjjcpidjmhaa
