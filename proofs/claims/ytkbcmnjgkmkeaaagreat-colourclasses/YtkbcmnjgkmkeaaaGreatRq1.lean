/- Rq1 -/
import Derived.Test.YtkbcmnjgkmkeaaaGreatBase
import Derived.OrdersHeld
namespace Go.Proofs.YtkbcmnjgkmkeaaaGreat
open Go.RowKit Go.Deep
set_option linter.unusedVariables false
section
variable {P:Program} {ops:Array Oper} {Q:Exit → Act → World → Prop} {md:Region.Mode} {S:World → Prop} {L:Nat}

def anyTill (P:Program) (md:Region.Mode) (ops:Array Oper) (Q:Exit → Act → World → Prop) (S:World → Prop) (L:Nat):Nat → Array Bool → Act → World → Prop
 | 0,l,a,w => Region.ready md ops l = [] ∧ Q .normal a w
 | n + 1,l,a,w => (Region.ready md ops l = [] → Q .normal a w) ∧
   ∀ i ∈ Region.ready md ops l,wpOp P ops Q i (fun a' w' => (i ≠ L → S w') ∧ anyTill P md ops Q S L n (l.setIfInBounds i true) a' w') a w

theorem anyTill_any:∀ (n:Nat) (l:Array Bool) (a:Act) (w:World),anyTill P md ops Q S L n l a w → wpAny P md ops Q n l a w
 | 0,_,_,_,h => h
 | n + 1,_,_,_,h => ⟨h.1,fun i hi => wpOp_mono (fun a' w' k => anyTill_any n _ a' w' k.2) (h.2 i hi)⟩

theorem anyTill_region (S:World → Prop) (L:Nat) {id:Nat} {a:Act} {w:World} (hm:P.follows .mixedOrders = true)
  (h:anyTill P .any ops Q S L ops.size (Array.replicate ops.size false) a w.drew):(Code.region id ops true).wp P Q a w :=
 wp_region_any hm (anyTill_any _ _ _ _ h)

theorem anyTill_first {i:Nat} {oi oL:Oper} {v:Value} (hi:ops[i]? = some oi) (hn:Region.noSelect ops = true)
  (hL:ops[L]? = some oL) (hw:∃ e ∈ oL.after,Region.binds md e = true ∧ e.on = i)
  (hQ:∀ c a w,Q (.panic c) (a.put oi.dst v) w → Q (.panic c) a w) :
  ∀ (n:Nat) (l:Array Bool) (a:Act) (w:World),
   (∀ j oj,ops[j]? = some oj → j ≠ i → l.getD j true = false → (∀ e ∈ oj.after,Region.binds md e = true → e.on ≠ i) → oi.apart ops oj = true) →
   i ∈ Region.ready md ops l → YieldsIf P ops S oi v a → S w →
   anyTill P md ops Q S L n (l.setIfInBounds i true) (a.put oi.dst v) w → anyTill P md ops Q S L (n + 1) l a w:=by
 intro n
 induction n with
 | zero =>
  intro l a w _ hr hy hS H
  refine ⟨fun h => absurd hr (by rw [h]; simp),fun j hj => ?_⟩
  by_cases hji:j = i
  ·subst hji; exact hy.wpOp hi hS ⟨fun _ => hS,H⟩
  ·exact absurd (ready_mono hj hji) (by rw [H.1]; simp)
 | succ n ih =>
  intro l a w hf hr hy hS H
  refine ⟨fun h => absurd hr (by rw [h]; simp),fun j hj => ?_⟩
  by_cases hji:j = i
  ·subst hji; exact hy.wpOp hi hS ⟨fun _ => hS,H⟩
  ·obtain ⟨hju,oj,hoj,hall⟩:=mem_ready.1 hj
   have hno:∀ e ∈ oj.after,Region.binds md e = true → e.on ≠ i:=fun e he hb heq => by
    have k1:=hall e he hb
    have k0:=(mem_ready.1 hr).1
    rw [heq] at k1
    rcases Nat.lt_or_ge i l.size with h' | h'
    ·simp [h'] at k0 k1; rw [k0] at k1; cases k1
    ·simp [Array.getElem?_eq_none h'] at k1
   have hjL:j ≠ L:=fun e => by
    obtain ⟨e1,h1,h2,h3⟩:=hw
    rw [e,hL] at hoj
    cases hoj
    exact hno e1 h1 h2 h3
   have k2:=wpOp_putIf hoj (hf j oj hoj hji hju hno) (fun cs b => Region.noSelect_spec hn i oi cs b hi) (fun cs b => Region.noSelect_spec hn j oj cs b hoj) hQ hy (H.2 j (ready_mono hj hji))
   refine wpOp_mono (fun a' w' k3 => ⟨fun _ => k3.2.1 hjL,ih (l.setIfInBounds j true) a' w' (fun k ok hk hki hun hno' => hf k ok hk hki ?_ hno') (ready_mono hr (Ne.symm hji)) k3.1 (k3.2.1 hjL) ?_⟩) k2
   ·by_cases hjk:j = k
    ·subst hjk; exact hju
    ·rw [getD_set_ne true hjk] at hun; exact hun
   ·rw [Array.setIfInBounds_comm _ _ hji]; exact k3.2.2

theorem anyTill_take {i:Nat} {oi oL:Oper} {v:Value} {n:Nat} {l:Array Bool} {a:Act} {w:World} (hi:ops[i]? = some oi) (hL:ops[L]? = some oL)
  (hn:Region.noSelect ops = true) (hf:Region.free md ops l i = true) (hr:(Region.ready md ops l).contains i = true) (hw:(oL.after.any fun e => Region.binds md e && e.on == i) = true)
  (hQ:∀ c a w,Q (.panic c) (a.put oi.dst v) w → Q (.panic c) a w) (hy:YieldsIf P ops S oi v a) (hS:S w)
  (h:anyTill P md ops Q S L n (l.setIfInBounds i true) (a.put oi.dst v) w):anyTill P md ops Q S L (n + 1) l a w:=by
 obtain ⟨e,h1,h2⟩:=Array.any_eq_true'.1 hw
 simp only [Bool.and_eq_true,beq_iff_eq] at h2
 exact anyTill_first hi hn hL ⟨e,h1,h2⟩ hQ n l a w (Region.free_spec hi hf) (by simpa using hr) hy hS h
theorem anyTill_one {i:Nat} {o:Oper} {n:Nat} {l:Array Bool} {a:Act} {w:World} (hr:Region.ready md ops l = [i]) (ho:ops[i]? = some o) (hg:Region.wanted o (yielded ops a.tmps) = true)
  (h:∀ K:Act → World → Prop,(∀ a' w',(i ≠ L → S w') → anyTill P md ops Q S L n (l.setIfInBounds i true) a' w' → K a' w') → o.wp P a w K Q):anyTill P md ops Q S L (n + 1) l a w:=by
 refine ⟨fun e => absurd (hr.symm.trans e) (by simp),fun j hj => ?_⟩
 rw [hr] at hj
 obtain rfl:j = i:=by simpa using hj
 unfold wpOp
 simp only [ho,hg,if_true]
 exact .inl (h _ fun a' w' h1 h2 => ⟨h1,h2⟩)
theorem anyTill_done {n:Nat} {l:Array Bool} {a:Act} {w:World} (hr:Region.ready md ops l = []) (h:Q .normal a w):anyTill P md ops Q S L n l a w:=by
 cases n with
 | zero => exact ⟨hr,h⟩
 | succ n => exact ⟨fun _ => h,fun i hi => absurd hi (by rw [hr]; simp)⟩
end
end Go.Proofs.YtkbcmnjgkmkeaaaGreat
