/- Rq2 -/
import Derived.Test.YtoghiadalnngjaaRq1
import Derived.OrdersIn
import Derived.OwnWalkIn
import Derived.RangeFuncCalls
namespace Go.Proofs.Ytoghiadalnngjaa
open Go.RowKit Go.Deep
set_option linter.unusedVariables false
section
variable {P:Program} {ops:Array Oper} {Q:Exit → Act → World → Prop} {md:Region.Mode} {n l:Nat}
theorem rowsIn_wide {row:String} {args:Array Value} {w:World} {R:Value → World → Prop} (h:Rows P row args w R):RowsIn (Fence.wide.inRound l) n P row args w R :=
 fun c cs _ => let ⟨v,w',r,s⟩:=h c cs; ⟨v,w',r,stepsIn_wide.2 s⟩
theorem upon_in {o:Oper} {a:Act} {K:Act → World → Prop} {r:Result Next} (h:o.upon P a K Q r):o.uponIn (Fence.wide.inRound l) n P a K Q r:=by
 cases r with
 | ok x w' =>
  cases x <;> simp only [Oper.upon,Oper.uponIn] at h ⊢ <;>
   first
    | exact h
    | exact ⟨fun e => absurd (show false = true from e) (by decide),CallsIn.inRound l (callsIn_wide.2 h)⟩
    | exact ⟨fun e => absurd (show false = true from e) (by decide),rowsIn_wide h⟩
    | exact h.elim
 | halt x w' => cases x <;> simp only [Oper.upon,Oper.uponIn] at h ⊢ <;> exact h
theorem wp_in {o:Oper} {a:Act} {w:World} {K:Act → World → Prop} (hd:∀ c,o.op ≠ .defer c) (h:o.wp P a w K Q):o.wpIn (Fence.wide.inRound l) n P a w K Q:=by
 refine ⟨fun f _ => trivial,?_⟩
 rw [Oper.semAt_plain _ _ _ hd]
 exact upon_in h
theorem wpOp_in {i:Nat} {a:Act} {w:World} {K:Act → World → Prop} (hQ:¬ LetsOut Q) (hd:∀ (i:Nat) (o:Oper),ops[i]? = some o → ∀ c,o.op ≠ .defer c) (h:wpOp P ops Q i K a w):wpOpIn (Fence.wide.inRound l) n P ops Q i K a w:=by
 unfold wpOp at h
 unfold wpOpIn
 cases ho:ops[i]? with
 | none => simp only [ho] at h; exact h
 | some o =>
  simp only [ho] at h ⊢
  split
  ·rename_i hw
   simp only [hw,if_true] at h
   rcases h with h | ⟨_,h⟩
   ·exact wp_in (hd i o ho) h
   ·exact absurd h hQ
  ·rename_i hw
   simp only [hw] at h
   exact ⟨fun f _ => trivial,h⟩
theorem wpAny_in (hQ:¬ LetsOut Q) (hd:∀ (i:Nat) (o:Oper),ops[i]? = some o → ∀ c,o.op ≠ .defer c):∀ (fuel:Nat) (listed:Array Bool) (a:Act) (w:World),wpAny P md ops Q fuel listed a w → wpAnyIn (Fence.wide.inRound l) n P md ops Q fuel listed a w
 | 0,_,_,_,h => h
 | fuel + 1,_,_,_,h => ⟨h.1,fun i hi => wpOp_in hQ hd (wpOp_mono (fun a' w' k => wpAny_in hQ hd fuel _ a' w' k) (h.2 i hi))⟩
theorem till_in (S:World → Prop) (L:Nat) {id:Nat} {a:Act} {w:World} (hm:P.follows .mixedOrders = true) (hQ:¬ LetsOut Q) (hd:(ops.all fun o => match o.op with | .defer _ => false | _ => true) = true)
  (h:anyTill P .any ops Q S L ops.size (Array.replicate ops.size false) a w.drew):(Code.region id ops true).wpIn (Fence.wide.inRound l) n P Q a w :=
 wpIn_region_any hm (wpAny_in hQ (fun i o ho c e => by
  have:=Array.all_eq_true'.1 hd o (Array.mem_of_getElem? ho)
  rw [e] at this
  cases this) _ _ _ _ (anyTill_any _ _ _ _ h))
theorem anyTill_all {S:World → Prop} {L:Nat} {rs:List Nat} {k:Nat} {ls:Array Bool} {a:Act} {w:World} (hr:Region.ready md ops ls = rs) (hne:rs ≠ []) (h:∀ i ∈ rs,wpOp P ops Q i (fun a' w' => (i ≠ L → S w') ∧ anyTill P md ops Q S L k (ls.setIfInBounds i true) a' w') a w):anyTill P md ops Q S L (k + 1) ls a w :=
 ⟨fun e => absurd (hr.symm.trans e) hne,fun i hi => h i (by rw [← hr]; exact hi)⟩
theorem anyTill_each {S:World → Prop} {L:Nat} {rs:List Nat} {k:Nat} {ls:Array Bool} {a:Act} {w:World} (hr:Region.ready md ops ls = rs) (hne:rs ≠ []) (h:∀ i ∈ rs,∀ K:Act → World → Prop,(∀ a' w',(i ≠ L → S w') → anyTill P md ops Q S L k (ls.setIfInBounds i true) a' w' → K a' w') → wpOp P ops Q i K a w):anyTill P md ops Q S L (k + 1) ls a w :=
 anyTill_all hr hne (fun i hi => h i hi _ (fun a' w' h1 h2 => ⟨h1,h2⟩))
theorem wpOp_wp {i:Nat} {o:Oper} {a:Act} {w:World} {K:Act → World → Prop} (ho:ops[i]? = some o) (hg:Region.wanted o (yielded ops a.tmps) = true) (h:o.wp P a w K Q):wpOp P ops Q i K a w:=by
 unfold wpOp
 simp only [ho,hg,if_true]
 exact .inl h
end
end Go.Proofs.Ytoghiadalnngjaa
