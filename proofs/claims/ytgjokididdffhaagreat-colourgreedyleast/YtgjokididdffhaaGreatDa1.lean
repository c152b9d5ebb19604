/- Rq1 -/
import Derived.Test.YtgjokididdffhaaGreatSa1
import Derived.OrdersHeld
import Derived.OrdersIn
import Derived.OwnWalkIn
import Derived.RangeFuncCalls
import Derived.Test.YtgjokididdffhaaGreatSp5
namespace Go.Proofs.YtgjokididdffhaaGreat
open Go.RowKit Go.Deep
set_option linter.unusedVariables false
section
variable {P:Program} {ops:Array Oper} {Q:Exit → Act → World → Prop} {md:Region.Mode} {S:World → Prop} {L:Nat}

def anyTill (P:Program) (md:Region.Mode) (ops:Array Oper) (Q:Exit → Act → World → Prop) (S:World → Prop) (L:Nat):Nat → Array Bool → Act → World → Prop
 | 0,l,a,w => Region.ready md ops l = [] ∧ Q .normal a w
 | n + 1,l,a,w => (Region.ready md ops l = [] → Q .normal a w) ∧
   ∀ i ∈ Region.ready md ops l,wpOp P ops Q i (fun a' w' => (i ≠ L → S w') ∧ anyTill P md ops Q S L n (l.setIfInBounds i true) a' w') a w

theorem anyTill_any:∀ (n:Nat) (l:Array Bool) (a:Act) (w:World),anyTill P md ops Q S L n l a w → wpAny P md ops Q n l a w
 | 0,_,_,_,h => h
 | n + 1,_,_,_,h => ⟨h.1,fun i hi => wpOp_mono (fun a' w' k => anyTill_any n _ a' w' k.2) (h.2 i hi)⟩

theorem anyTill_region (S:World → Prop) (L:Nat) {id:Nat} {a:Act} {w:World} (hm:P.follows .mixedOrders = true)
  (h:anyTill P .any ops Q S L ops.size (Array.replicate ops.size false) a w.drew):(Code.region id ops true).wp P Q a w :=
 wp_region_any hm (anyTill_any _ _ _ _ h)

theorem anyTill_first {i:Nat} {oi oL:Oper} {v:Value} (hi:ops[i]? = some oi) (hn:Region.noSelect ops = true)
  (hL:ops[L]? = some oL) (hw:∃ e ∈ oL.after,Region.binds md e = true ∧ e.on = i)
  (hQ:∀ c a w,Q (.panic c) (a.put oi.dst v) w → Q (.panic c) a w) :
  ∀ (n:Nat) (l:Array Bool) (a:Act) (w:World),
   (∀ j oj,ops[j]? = some oj → j ≠ i → l.getD j true = false → (∀ e ∈ oj.after,Region.binds md e = true → e.on ≠ i) → oi.apart ops oj = true) →
   i ∈ Region.ready md ops l → YieldsIf P ops S oi v a → S w →
   anyTill P md ops Q S L n (l.setIfInBounds i true) (a.put oi.dst v) w → anyTill P md ops Q S L (n + 1) l a w:=by
 intro n
 induction n with
 | zero =>
  intro l a w _ hr hy hS H
  refine ⟨fun h => absurd hr (by rw [h]; simp),fun j hj => ?_⟩
  by_cases hji:j = i
  ·subst hji; exact hy.wpOp hi hS ⟨fun _ => hS,H⟩
  ·exact absurd (ready_mono hj hji) (by rw [H.1]; simp)
 | succ n ih =>
  intro l a w hf hr hy hS H
  refine ⟨fun h => absurd hr (by rw [h]; simp),fun j hj => ?_⟩
  by_cases hji:j = i
  ·subst hji; exact hy.wpOp hi hS ⟨fun _ => hS,H⟩
  ·obtain ⟨hju,oj,hoj,hall⟩:=mem_ready.1 hj
   have hno:∀ e ∈ oj.after,Region.binds md e = true → e.on ≠ i:=fun e he hb heq => by
    have k1:=hall e he hb
    have k0:=(mem_ready.1 hr).1
    rw [heq] at k1
    rcases Nat.lt_or_ge i l.size with h' | h'
    ·simp [h'] at k0 k1; rw [k0] at k1; cases k1
    ·simp [Array.getElem?_eq_none h'] at k1
   have hjL:j ≠ L:=fun e => by
    obtain ⟨e1,h1,h2,h3⟩:=hw
    rw [e,hL] at hoj
    cases hoj
    exact hno e1 h1 h2 h3
   have k2:=wpOp_putIf hoj (hf j oj hoj hji hju hno) (fun cs b => Region.noSelect_spec hn i oi cs b hi) (fun cs b => Region.noSelect_spec hn j oj cs b hoj) hQ hy (H.2 j (ready_mono hj hji))
   refine wpOp_mono (fun a' w' k3 => ⟨fun _ => k3.2.1 hjL,ih (l.setIfInBounds j true) a' w' (fun k ok hk hki hun hno' => hf k ok hk hki ?_ hno') (ready_mono hr (Ne.symm hji)) k3.1 (k3.2.1 hjL) ?_⟩) k2
   ·by_cases hjk:j = k
    ·subst hjk; exact hju
    ·rw [getD_set_ne true hjk] at hun; exact hun
   ·rw [Array.setIfInBounds_comm _ _ hji]; exact k3.2.2

theorem anyTill_take {i:Nat} {oi oL:Oper} {v:Value} {n:Nat} {l:Array Bool} {a:Act} {w:World} (hi:ops[i]? = some oi) (hL:ops[L]? = some oL)
  (hn:Region.noSelect ops = true) (hf:Region.free md ops l i = true) (hr:(Region.ready md ops l).contains i = true) (hw:(oL.after.any fun e => Region.binds md e && e.on == i) = true)
  (hQ:∀ c a w,Q (.panic c) (a.put oi.dst v) w → Q (.panic c) a w) (hy:YieldsIf P ops S oi v a) (hS:S w)
  (h:anyTill P md ops Q S L n (l.setIfInBounds i true) (a.put oi.dst v) w):anyTill P md ops Q S L (n + 1) l a w:=by
 obtain ⟨e,h1,h2⟩:=Array.any_eq_true'.1 hw
 simp only [Bool.and_eq_true,beq_iff_eq] at h2
 exact anyTill_first hi hn hL ⟨e,h1,h2⟩ hQ n l a w (Region.free_spec hi hf) (by simpa using hr) hy hS h
theorem anyTill_one {i:Nat} {o:Oper} {n:Nat} {l:Array Bool} {a:Act} {w:World} (hr:Region.ready md ops l = [i]) (ho:ops[i]? = some o) (hg:Region.wanted o (yielded ops a.tmps) = true)
  (h:∀ K:Act → World → Prop,(∀ a' w',(i ≠ L → S w') → anyTill P md ops Q S L n (l.setIfInBounds i true) a' w' → K a' w') → o.wp P a w K Q):anyTill P md ops Q S L (n + 1) l a w:=by
 refine ⟨fun e => absurd (hr.symm.trans e) (by simp),fun j hj => ?_⟩
 rw [hr] at hj
 obtain rfl:j = i:=by simpa using hj
 unfold wpOp
 simp only [ho,hg,if_true]
 exact .inl (h _ fun a' w' h1 h2 => ⟨h1,h2⟩)
theorem anyTill_done {n:Nat} {l:Array Bool} {a:Act} {w:World} (hr:Region.ready md ops l = []) (h:Q .normal a w):anyTill P md ops Q S L n l a w:=by
 cases n with
 | zero => exact ⟨hr,h⟩
 | succ n => exact ⟨fun _ => h,fun i hi => absurd hi (by rw [hr]; simp)⟩
end
section
variable {P:Program} {ops:Array Oper} {Q:Exit → Act → World → Prop} {md:Region.Mode} {n l:Nat}
end
noncomputable def grR (P:Nat → Nat → Prop) (u:Nat):Nat → List Int
 | 0 => []
 | k + 1 => grR P u k ++ (if tb (P u k) = true then [(k:Int)] else [])
noncomputable def grC (P:Nat → Nat → Prop) (n:Nat):Nat → List Int
 | 0 => []
 | k + 1 => grC P n k ++ grR P k n
noncomputable def grS (P:Nat → Nat → Prop) (n:Nat):Nat → List Int
 | 0 => [0]
 | k + 1 => grS P n k ++ [((grC P n (k + 1)).length:Int)]
theorem grR_len (P:Nat → Nat → Prop) (u:Nat):∀ k,(grR P u k).length ≤ k
 | 0 => Nat.le_refl _
 | k + 1 => by
  have:=grR_len P u k
  simp only [grR,List.length_append]
  split <;> simp <;> omega
theorem grC_len (P:Nat → Nat → Prop) (n:Nat):∀ k,(grC P n k).length ≤ k * n
 | 0 => Nat.zero_le _
 | k + 1 => by
  have h1:=grC_len P n k
  have h2:=grR_len P k n
  simp only [grC,List.length_append]
  rw [Nat.add_mul,Nat.one_mul]
  omega
theorem grS_len (P:Nat → Nat → Prop) (n:Nat):∀ k,(grS P n k).length = k + 1
 | 0 => rfl
 | k + 1 => by simp only [grS,List.length_append,List.length_singleton]; rw [grS_len P n k]
theorem grR_congr {P Q:Nat → Nat → Prop} {u n:Nat} (h:∀ v,v < n → (P u v ↔ Q u v)):∀ k,k ≤ n → grR P u k = grR Q u k
 | 0,_ => rfl
 | k + 1,hk => by simp only [grR]; rw [grR_congr h k (by omega),tb_congr (h k (by omega))]
structure PbI (w1 W:World) (B X:Nat) (n:Int) (vS vC:Value) (S C:List Int):Prop where
 box:W.heap[X]? = some (.cells #[.int .i64 n,.int .i64 n,vS,vC] 25 (0,0))
 ownS:W.ownsRow B 3 1 vS S.length (valsI S)
 ownC:W.ownsRow B 3 1 vC C.length (valsI C)
 apart:∀ g,vS.ownBlock = some g → vC.ownBlock ≠ some g
 bel:Below B w1 W
 le:B ≤ W.heap.size
 lx:B ≤ X
theorem own_neB {w:World} {B:Nat} {e:TypeId} {v:Value} {n:Nat} {xs:List Value} (h:w.ownsRow B e 1 v n xs) {k:Nat} {cs:Array Value} {e2:TypeId} (hk:w.heap[k]? = some (.cells cs e2 (0,0))) (hne:e ≠ e2):v.ownBlock ≠ some k:=by
 intro he
 rcases h.2 with ⟨h1,_⟩ | ⟨g,cap,cur,h1,h2,h3,_⟩
 ·rw [h1] at he; simp [Value.ownBlock] at he
 ·rw [h1] at he
  have:g = k:=by simpa [Value.ownBlock] using he
  subst this
  rw [h3] at hk
  cases hk
  exact hne rfl
theorem PbI.below {w1 W Wn:World} {B X:Nat} {n:Int} {vS vC:Value} {S C:List Int} (h:PbI w1 W B X n vS vC S C) (k:Below W.heap.size W Wn):PbI w1 Wn B X n vS vC S C :=
 ⟨(k.block _ (Array.getElem?_eq_some_iff.1 h.box).1).trans h.box,ownsRow_chg (S:=fun _ => False) h.ownS (.of_below k) (fun _ _ => id),ownsRow_chg (S:=fun _ => False) h.ownC (.of_below k) (fun _ _ => id),h.apart,h.bel.trans (k.mono h.le),Nat.le_trans h.le k.size,h.lx⟩
theorem PbI.appC {w1 W W3:World} {B X:Nat} {n:Int} {vS vC:Value} {S C:List Int} {x:Int} {g cap:Nat} (h:PbI w1 W B X n vS vC S C) (hown:W3.ownsRow B 3 1 (.slice (some ⟨g,0,none⟩) (C.length + 1) cap) (C.length + 1) (valsI C ++ [.int .i64 x])) (hg:W.grownBy W3 vC.ownBlock) (hat:vC.ownBlock = some g ∨ g = W.heap.size) :
  PbI w1 (W3.setCell ⟨X,3,none⟩ (.slice (some ⟨g,0,none⟩) (C.length + 1) cap)) B X n vS (.slice (some ⟨g,0,none⟩) (C.length + 1) cap) S (C ++ [x]):=by
 have hX:=(Array.getElem?_eq_some_iff.1 h.box).1
 have nC:=own_neB h.ownC h.box (by decide)
 have nS:=own_neB h.ownS h.box (by decide)
 have hb3:W3.heap[X]? = some (.cells #[.int .i64 n,.int .i64 n,vS,vC] 25 (0,0)):=(hg.block X hX (fun e => nC e.symm)).trans h.box
 have hB:Below B W W3:=(Below.refl B W).grown hg h.le (fun j hj => (own_ge h.ownC j hj).1)
 have hc:Chg (fun j => j = X) W3 (W3.setCell ⟨X,3,none⟩ (.slice (some ⟨g,0,none⟩) (C.length + 1) cap)):=Chg.of_set _ _ _ _ rfl
 have hgX:g ≠ X:=by
  intro e
  rcases hown.2 with ⟨h1,_⟩ | ⟨g',cap',cur,h1,h2,h3,_⟩
  ·cases h1
  ·cases h1
   rw [e,hb3] at h3
   cases h3
 refine ⟨by simp [World.setCell,Array.getElem?_modify,hb3],ownsRow_chg (h.ownS.kept hg ?_) hc (fun j hj e => nS (by rw [← e]; exact hj)),ownsRow_chg (by simpa [valsI] using hown) hc (fun j hj e => ?_),fun j hj hu => ?_,h.bel.trans (hB.trans (hc.below (Nat.le_trans h.le hB.size) (fun j hj e => by have:=h.lx; omega))),Nat.le_trans h.le (Nat.le_trans hB.size hc.size),h.lx⟩
 ·cases hv:vS.ownBlock with
  | none => exact .inl rfl
  | some j => right; intro e; exact h.apart j hv e.symm
 ·have:g = j:=by simpa [Value.ownBlock] using hj
  exact hgX (this.trans e)
 ·have hu':g = j:=by simpa [Value.ownBlock] using hu
  subst hu'
  rcases hat with e | e
  ·exact h.apart _ hj e
  ·have:=(own_ge h.ownS _ hj).2; omega
theorem PbI.appS {w1 W W3:World} {B X:Nat} {n:Int} {vS vC:Value} {S C:List Int} {x:Int} {g cap:Nat} (h:PbI w1 W B X n vS vC S C) (hown:W3.ownsRow B 3 1 (.slice (some ⟨g,0,none⟩) (S.length + 1) cap) (S.length + 1) (valsI S ++ [.int .i64 x])) (hg:W.grownBy W3 vS.ownBlock) (hat:vS.ownBlock = some g ∨ g = W.heap.size) :
  PbI w1 (W3.setCell ⟨X,2,none⟩ (.slice (some ⟨g,0,none⟩) (S.length + 1) cap)) B X n (.slice (some ⟨g,0,none⟩) (S.length + 1) cap) vC (S ++ [x]) C:=by
 have hX:=(Array.getElem?_eq_some_iff.1 h.box).1
 have nC:=own_neB h.ownC h.box (by decide)
 have nS:=own_neB h.ownS h.box (by decide)
 have hb3:W3.heap[X]? = some (.cells #[.int .i64 n,.int .i64 n,vS,vC] 25 (0,0)):=(hg.block X hX (fun e => nS e.symm)).trans h.box
 have hB:Below B W W3:=(Below.refl B W).grown hg h.le (fun j hj => (own_ge h.ownS j hj).1)
 have hc:Chg (fun j => j = X) W3 (W3.setCell ⟨X,2,none⟩ (.slice (some ⟨g,0,none⟩) (S.length + 1) cap)):=Chg.of_set _ _ _ _ rfl
 have hgX:g ≠ X:=by
  intro e
  rcases hown.2 with ⟨h1,_⟩ | ⟨g',cap',cur,h1,h2,h3,_⟩
  ·cases h1
  ·cases h1
   rw [e,hb3] at h3
   cases h3
 refine ⟨by simp [World.setCell,Array.getElem?_modify,hb3],ownsRow_chg (by simpa [valsI] using hown) hc (fun j hj e => ?_),ownsRow_chg (h.ownC.kept hg ?_) hc (fun j hj e => nC (by rw [← e]; exact hj)),fun j hj hu => ?_,h.bel.trans (hB.trans (hc.below (Nat.le_trans h.le hB.size) (fun j hj e => by have:=h.lx; omega))),Nat.le_trans h.le (Nat.le_trans hB.size hc.size),h.lx⟩
 ·have:g = j:=by simpa [Value.ownBlock] using hj
  exact hgX (this.trans e)
 ·cases hv:vC.ownBlock with
  | none => exact .inl rfl
  | some j => right; intro e; exact h.apart j e.symm hv
 ·have hj':g = j:=by simpa [Value.ownBlock] using hj
  subst hj'
  rcases hat with e | e
  ·exact h.apart _ e hu
  ·have:=(own_ge h.ownC _ hu).2; omega
def grV (n:Nat) (b m:Nat):Value:=.agg #[.int .i64 (n:Int),.slice (some ⟨b,0,none⟩) m m]
set_option maxRecDepth 100000 in
set_option maxHeartbeats 16000000 in
theorem wmeet_any (n b m u v:Nat) (Q:Nat → Bool) (w:World) (hn:n ≤ 128) (hu:u < 128) (hv:v < 128) (hm:u * n + v < m) (hm2:m ≤ 16384) (hR:RoV w b m (fun i => .bool (Q i))) :
  Calls Tryz.prog 59 #[grV n b m,.int .i64 (u:Int),.int .i64 (v:Int)] w fun e w' => e = .returned (.bool (Q (u * n + v))) ∧ Below w.heap.size w w':=by
 obtain ⟨wb,hwb⟩:∃ x,w.alloc (.cells #[.int .i64 (n:Int),.slice (some ⟨b,0,none⟩) m m] 45) = x:=⟨_,rfl⟩
 have bb:Below w.heap.size w wb:=by rw [← hwb]; exact bAl
 have hT:=BoxP.made w #[.int .i64 (n:Int),.slice (some ⟨b,0,none⟩) m m] 45
 rw [hwb] at hT
 have q0:=(hT.all 0 _ rfl).1
 have q1:=(hT.all 1 _ rfl).1
 obtain ⟨y,hy⟩:∃ y,u * n = y:=⟨_,rfl⟩
 obtain ⟨x,hx⟩:∃ x,y + v = x:=⟨_,rfl⟩
 have hm1:(u:Int) * (n:Int) = (y:Int):=by rw [← hy]; simp
 have hx1:(y:Int) + (v:Int) = (x:Int):=by omega
 rw [hy,hx] at hm ⊢
 have hxn:(x:Int) < (m:Int):=by omega
 have hcell:=((hR.below bb) x hm).1
 obtain ⟨z,hz⟩:∃ z,Q x = z:=⟨_,rfl⟩
 rw [hz] at hcell ⊢
 have HB:=Hj bb
 clear bb hT hR hy hx hz
 unfold grV
 go_enter Tryz.func59,Tryz.ntmps59
 go_wp2_with fail
 go_ret
 exact ⟨rfl,Uh HB⟩
def GpP (w w':World) (e:Ending) (n:Nat) (S C:List Int):Prop:=∃ a1 c1 a2 c2,e = .returned (.agg #[.int .i64 (n:Int),.int .i64 (n:Int),.slice a1 S.length c1,.slice a2 C.length c2]) ∧ SlI w' a1 S.length c1 S ∧ SlI w' a2 C.length c2 C ∧ Below w.heap.size w w' ∧ (∀ z,a1 = some z → w.heap.size ≤ z.block) ∧ (∀ z,a2 = some z → w.heap.size ≤ z.block)
structure PbJ (w1 W:World) (B X:Nat) (r n:Int) (vS vC:Value) (S C:List Int):Prop where
 box:W.heap[X]? = some (.cells #[.int .i64 r,.int .i64 n,vS,vC] 25 (0,0))
 ownS:W.ownsRow B 3 1 vS S.length (valsI S)
 ownC:W.ownsRow B 3 1 vC C.length (valsI C)
 apart:∀ g,vS.ownBlock = some g → vC.ownBlock ≠ some g
 bel:Below B w1 W
 le:B ≤ W.heap.size
 lx:B ≤ X
theorem PbJ.below {w1 W Wn:World} {B X:Nat} {r n:Int} {vS vC:Value} {S C:List Int} (h:PbJ w1 W B X r n vS vC S C) (k:Below W.heap.size W Wn):PbJ w1 Wn B X r n vS vC S C :=
 ⟨(k.block _ (Array.getElem?_eq_some_iff.1 h.box).1).trans h.box,ownsRow_chg (S:=fun _ => False) h.ownS (.of_below k) (fun _ _ => id),ownsRow_chg (S:=fun _ => False) h.ownC (.of_below k) (fun _ _ => id),h.apart,h.bel.trans (k.mono h.le),Nat.le_trans h.le k.size,h.lx⟩
theorem PbJ.appC {w1 W W3:World} {B X:Nat} {r n:Int} {vS vC:Value} {S C:List Int} {x:Int} {g cap:Nat} (h:PbJ w1 W B X r n vS vC S C) (hown:W3.ownsRow B 3 1 (.slice (some ⟨g,0,none⟩) (C.length + 1) cap) (C.length + 1) (valsI C ++ [.int .i64 x])) (hg:W.grownBy W3 vC.ownBlock) (hat:vC.ownBlock = some g ∨ g = W.heap.size) :
  PbJ w1 (W3.setCell ⟨X,3,none⟩ (.slice (some ⟨g,0,none⟩) (C.length + 1) cap)) B X r n vS (.slice (some ⟨g,0,none⟩) (C.length + 1) cap) S (C ++ [x]):=by
 have hX:=(Array.getElem?_eq_some_iff.1 h.box).1
 have nC:=own_neB h.ownC h.box (by decide)
 have nS:=own_neB h.ownS h.box (by decide)
 have hb3:W3.heap[X]? = some (.cells #[.int .i64 r,.int .i64 n,vS,vC] 25 (0,0)):=(hg.block X hX (fun e => nC e.symm)).trans h.box
 have hB:Below B W W3:=(Below.refl B W).grown hg h.le (fun j hj => (own_ge h.ownC j hj).1)
 have hc:Chg (fun j => j = X) W3 (W3.setCell ⟨X,3,none⟩ (.slice (some ⟨g,0,none⟩) (C.length + 1) cap)):=Chg.of_set _ _ _ _ rfl
 have hgX:g ≠ X:=by
  intro e
  rcases hown.2 with ⟨h1,_⟩ | ⟨g',cap',cur,h1,h2,h3,_⟩
  ·cases h1
  ·cases h1
   rw [e,hb3] at h3
   cases h3
 refine ⟨by simp [World.setCell,Array.getElem?_modify,hb3],ownsRow_chg (h.ownS.kept hg ?_) hc (fun j hj e => nS (by rw [← e]; exact hj)),ownsRow_chg (by simpa [valsI] using hown) hc (fun j hj e => ?_),fun j hj hu => ?_,h.bel.trans (hB.trans (hc.below (Nat.le_trans h.le hB.size) (fun j hj e => by have:=h.lx; omega))),Nat.le_trans h.le (Nat.le_trans hB.size hc.size),h.lx⟩
 ·cases hv:vS.ownBlock with
  | none => exact .inl rfl
  | some j => right; intro e; exact h.apart j hv e.symm
 ·have:g = j:=by simpa [Value.ownBlock] using hj
  exact hgX (this.trans e)
 ·have hu':g = j:=by simpa [Value.ownBlock] using hu
  subst hu'
  rcases hat with e | e
  ·exact h.apart _ hj e
  ·have:=(own_ge h.ownS _ hj).2; omega
theorem PbJ.appS {w1 W W3:World} {B X:Nat} {r n:Int} {vS vC:Value} {S C:List Int} {x:Int} {g cap:Nat} (h:PbJ w1 W B X r n vS vC S C) (hown:W3.ownsRow B 3 1 (.slice (some ⟨g,0,none⟩) (S.length + 1) cap) (S.length + 1) (valsI S ++ [.int .i64 x])) (hg:W.grownBy W3 vS.ownBlock) (hat:vS.ownBlock = some g ∨ g = W.heap.size) :
  PbJ w1 (W3.setCell ⟨X,2,none⟩ (.slice (some ⟨g,0,none⟩) (S.length + 1) cap)) B X r n (.slice (some ⟨g,0,none⟩) (S.length + 1) cap) vC (S ++ [x]) C:=by
 have hX:=(Array.getElem?_eq_some_iff.1 h.box).1
 have nC:=own_neB h.ownC h.box (by decide)
 have nS:=own_neB h.ownS h.box (by decide)
 have hb3:W3.heap[X]? = some (.cells #[.int .i64 r,.int .i64 n,vS,vC] 25 (0,0)):=(hg.block X hX (fun e => nS e.symm)).trans h.box
 have hB:Below B W W3:=(Below.refl B W).grown hg h.le (fun j hj => (own_ge h.ownS j hj).1)
 have hc:Chg (fun j => j = X) W3 (W3.setCell ⟨X,2,none⟩ (.slice (some ⟨g,0,none⟩) (S.length + 1) cap)):=Chg.of_set _ _ _ _ rfl
 have hgX:g ≠ X:=by
  intro e
  rcases hown.2 with ⟨h1,_⟩ | ⟨g',cap',cur,h1,h2,h3,_⟩
  ·cases h1
  ·cases h1
   rw [e,hb3] at h3
   cases h3
 refine ⟨by simp [World.setCell,Array.getElem?_modify,hb3],ownsRow_chg (by simpa [valsI] using hown) hc (fun j hj e => ?_),ownsRow_chg (h.ownC.kept hg ?_) hc (fun j hj e => nC (by rw [← e]; exact hj)),fun j hj hu => ?_,h.bel.trans (hB.trans (hc.below (Nat.le_trans h.le hB.size) (fun j hj e => by have:=h.lx; omega))),Nat.le_trans h.le (Nat.le_trans hB.size hc.size),h.lx⟩
 ·have:g = j:=by simpa [Value.ownBlock] using hj
  exact hgX (this.trans e)
 ·cases hv:vC.ownBlock with
  | none => exact .inl rfl
  | some j => right; intro e; exact h.apart j e.symm hv
 ·have hj':g = j:=by simpa [Value.ownBlock] using hj
  subst hj'
  rcases hat with e | e
  ·exact h.apart _ e hu
  ·have:=(own_ge h.ownC _ hu).2; omega
def GpQ (w w':World) (e:Ending) (R N:Nat) (S C:List Int):Prop:=∃ a1 c1 a2 c2,e = .returned (.agg #[.int .i64 (R:Int),.int .i64 (N:Int),.slice a1 S.length c1,.slice a2 C.length c2]) ∧ SlI w' a1 S.length c1 S ∧ SlI w' a2 C.length c2 C ∧ Below w.heap.size w w' ∧ (∀ z,a1 = some z → w.heap.size ≤ z.block) ∧ (∀ z,a2 = some z → w.heap.size ≤ z.block)
set_option maxRecDepth 100000 in
set_option maxHeartbeats 16000000 in
theorem wshut9_any (R N b m:Nat) (Q:Nat → Bool) (P:Nat → Nat → Prop) (w:World) (hr8:R ≤ 128) (hn:N ≤ 128) (hm:R * N = m) (hR:RoV w b m (fun i => .bool (Q i))) (hP:∀ u v,u < R → v < N → (Q (u * N + v) = true ↔ P u v)) :
  Calls Tryz.prog 79 #[gridV R N b m] w fun e w' => GpQ w w' e R N (grS P N R) (grC P N R):=by
 obtain ⟨wb,hwb⟩:∃ x,w.alloc (.cells #[.int .i64 (R:Int),.int .i64 (N:Int),.slice (some ⟨b,0,none⟩) m m] 131) = x:=⟨_,rfl⟩
 have bb:Below w.heap.size w wb:=by rw [← hwb]; exact bAl
 have hT:=BoxP.made w #[.int .i64 (R:Int),.int .i64 (N:Int),.slice (some ⟨b,0,none⟩) m m] 131
 rw [hwb] at hT
 have hO0:=BoxP.made wb #[.int .i64 0,.int .i64 0,.slice none 0 0,.slice none 0 0] 25
 obtain ⟨wo,hwo⟩:∃ x,wb.alloc (.cells #[.int .i64 0,.int .i64 0,.slice none 0 0,.slice none 0 0] 25) = x:=⟨_,rfl⟩
 have bo:Below wb.heap.size wb wo:=by rw [← hwo]; exact bAl
 rw [hwo] at hO0
 have hT1:=hT.below bo
 have q0:=(hT1.all 0 _ rfl).1
 have q1:=(hT1.all 1 _ rfl).1
 have q2:=(hT1.all 2 _ rfl).1
 obtain ⟨i64,hi,hz,hs,hb⟩:=info_parts Tryz.info_i64
 have HI:=Hj (And.intro hi (And.intro hz (And.intro hs hb)))
 have hone:∀ y:Int,∀ z ∈ [Value.int .i64 y],z.oneCell' = true:=by intro y z hz; simp at hz; subst hz; rfl
 have bbo:=bb.trans (bo.mono bb.size)
 have hlt1:w.heap.size < wo.heap.size:=hT1.lt
 have hlt2:wb.heap.size < wo.heap.size:=hO0.lt
 have HX:=Hj (And.intro hT1 (And.intro hO0 (hR.below bbo)))
 have HB:=Hj bbo
 have HWB:=Hj bb.size
 have HPP:=Hj hP
 have hm2:m ≤ 16384:=by rw [← hm]; exact Nat.mul_le_mul hr8 hn
 have HMM:=Hj hm
 have hR0:0 < m → b < wo.heap.size:=fun h0 => World.block_lt_of_cell? _ _ ((hR.below bbo) 0 h0).1
 have HR0:=Hj hR0
 have HP0:=Hj (show PbJ wo ((wo.alloc (.cells #[.int .i64 0] 3)).alloc (.cells #[.int .i64 (R:Int),.int .i64 (N:Int),.slice (some ⟨wo.heap.size,0,none⟩) 1 1,.slice none 0 0] 25)) wo.heap.size (wo.heap.size + 1) (R:Int) (N:Int) (.slice (some ⟨wo.heap.size,0,none⟩) 1 1) (.slice none 0 0) [0] [] from by
  have e:(wo.alloc (.cells #[.int .i64 0] 3)).heap.size = wo.heap.size + 1:=by simp
  refine ⟨?_,⟨rfl,.inr ⟨wo.heap.size,1,#[.int .i64 0],rfl,Nat.le_refl _,?_,Nat.le_refl _,by decide,rfl,rfl⟩⟩,World.ownsRow_nil _ _ _ _,fun g hg hu => (by simp [Value.ownBlock] at hu),(bAl).alloc (by simp) _,by simp; omega,by omega⟩
  ·have:=alloc_block (wo.alloc (.cells #[.int .i64 0] 3)) (.cells #[.int .i64 (R:Int),.int .i64 (N:Int),.slice (some ⟨wo.heap.size,0,none⟩) 1 1,.slice none 0 0] 25)
   rw [e] at this
   exact this
  ·exact (((Below.refl (wo.alloc (.cells #[.int .i64 0] 3)).heap.size _).alloc (Nat.le_refl _) _).block _ (by simp)).trans (alloc_block _ _))
 clear hi hz hs hb bb bo bbo hT hT1 hO0 hR hP hm hR0
 unfold gridV
 go_enter Tryz.func79,Tryz.ntmps79
 go_wp2_with fail
 generalize (wo.alloc (Obj.cells #[Value.int IntKind.i64 0] 3)).alloc (Obj.cells #[Value.int IntKind.i64 (R:Int),Value.int IntKind.i64 (N:Int),Value.slice (some ⟨wo.heap.size,0,none⟩) 1 1,Value.slice none 0 0] 25) = w0 at *
 obtain ⟨X,hX⟩:∃ X,wo.heap.size + 1 = X:=⟨_,rfl⟩
 rw [hX] at HP0 ⊢
 have HXX:=Hj hX
 clear hX q0 q1 q2
 have HBX:=Hj (show ∀ W,Below wo.heap.size wo W → BoxP W w.heap.size [.int .i64 (R:Int),.int .i64 (N:Int),.slice (some ⟨b,0,none⟩) m m] ∧ BoxP W wb.heap.size [.int .i64 0,.int .i64 0,.slice none 0 0,.slice none 0 0] ∧ RoV W b m (fun i => .bool (Q i)) from fun W k => ⟨(Uh HX).1.below k,(Uh HX).2.1.below k,(Uh HX).2.2.below k⟩)
 go_loopw [4] (fun kv wr => ∃ k:Nat,k ≤ R ∧ kv = .int .i64 (k:Int) ∧ Hid (∃ vS vC,PbJ wo wr wo.heap.size X (R:Int) (N:Int) vS vC (grS P N k) (grC P N k))) (fun kv _ => R - (intOf kv).toNat)
 case atStart => exact ⟨0,Nat.zero_le _,rfl,Hj ⟨_,_,Uh HP0⟩⟩
 case round =>
  obtain ⟨k,hk,rfl,HK⟩:=hrel
  by_cases hlt:k < R
  ·have hlt':(k:Int) < (R:Int):=by omega
   obtain ⟨vS,vC,hPb⟩:=Uh HK
   have hbx:=Uh HBX wr hPb.bel
   have q0:=(hbx.1.all 0 _ rfl).1
   have q1:=(hbx.1.all 1 _ rfl).1
   have HK0:=Hj (show ∃ vS vC,PbJ wo wr wo.heap.size X (R:Int) (N:Int) vS vC (grS P N k) (grC P N k ++ grR P k 0) from ⟨vS,vC,by rw [show grR P k 0 = [] from rfl,List.append_nil]; exact hPb⟩)
   clear hPb hbx HK
   go_wp2_with fail
   go_loopw [5] (fun iv wq => ∃ v:Nat,v ≤ N ∧ iv = .int .i64 (v:Int) ∧ Hid (∃ vS vC,PbJ wo wq wo.heap.size X (R:Int) (N:Int) vS vC (grS P N k) (grC P N k ++ grR P k v))) (fun iv _ => N - (intOf iv).toNat)
   case atStart => exact ⟨0,Nat.zero_le _,rfl,HK0⟩
   case round =>
    clear q0 q1
    obtain ⟨v,hv,rfl,HV⟩:=hrel
    obtain ⟨vS,vC,hPb⟩:=Uh HV
    have hbx:=Uh HBX wr hPb.bel
    have q0:=(hbx.1.all 0 _ rfl).1
    have q1:=(hbx.1.all 1 _ rfl).1
    have q2:=(hbx.1.all 2 _ rfl).1
    have hCl:(grC P N k ++ grR P k v).length ≤ 16384:=by
     have h1:=grC_len P N k
     have h2:=grR_len P k v
     have h3:(k + 1) * N ≤ R * N:=Nat.mul_le_mul_right _ hlt
     rw [Uh HMM,Nat.add_mul,Nat.one_mul] at h3
     rw [List.length_append]
     omega
    by_cases hin:v < N
    ·have hin':(v:Int) < (N:Int):=by omega
     have hkm:k * N + v < m:=by
      have h3:(k + 1) * N ≤ R * N:=Nat.mul_le_mul_right _ hlt
      rw [Uh HMM,Nat.add_mul,Nat.one_mul] at h3
      omega
     have KM:=Hj (wat_any R N b m k v Q wr hn (by omega) (by omega) hkm hm2 hbx.2.2)
     unfold gridV at KM
     have hQ:=Uh HPP k v hlt hin
     obtain ⟨bq,hbq⟩:∃ bq,Q (k * N + v) = bq:=⟨_,rfl⟩
     rw [hbq] at KM hQ
     have HR:=Hj (show grR P k (v + 1) = grR P k v ++ (if bq = true then [(v:Int)] else []) from by
      simp only [grR]
      have:tb (P k v) = bq:=by
       cases bq
       ·exact tb_no (fun z => by have:=hQ.2 z; cases this)
       ·exact tb_yes (hQ.1 rfl)
      rw [this])
     have HPb:=Hj hPb
     clear hPb hbx hkm hQ hbq
     cases bq
     ·go_wp2_with fail
      refine (Uh KM).mono ?_
      rintro _ w3 ⟨rfl,b3⟩
      have HP3:=Hj (show ∃ vS vC,PbJ wo w3 wo.heap.size X (R:Int) (N:Int) vS vC (grS P N k) (grC P N k ++ grR P k (v + 1)) from ⟨vS,vC,by rw [Uh HR,if_neg (by decide),List.append_nil]; exact (Uh HPb).below b3⟩)
      clear b3 KM
      go_wp2_with fail
      exact ⟨⟨v + 1,by omega,by (first | rfl | go_num),HP3⟩,by simp [intOf]; omega⟩
     ·go_wp2_with fail
      refine (Uh KM).mono ?_
      rintro _ w3 ⟨rfl,b3⟩
      have HP3:=Hj ((Uh HPb).below b3)
      have HR2:=Hj (show grR P k (v + 1) = grR P k v ++ [(v:Int)] from by have:=Uh HR; simpa using this)
      have x3:=(cell_of_block (Uh HP3).box 3).trans (show _ = some vC from rfl)
      have hle:=(Uh HP3).le
      clear b3 KM q0 q1 q2
      obtain ⟨C,hC⟩:∃ C,grC P N k ++ grR P k v = C:=⟨_,rfl⟩
      rw [hC] at HP3 hCl
      have HC:=Hj hC
      have hmx:C.length + 1 ≤ maxLen:=by unfold maxLen; omega
      have hby:(C.length + 1) * 8 ≤ 140737488355328:=by omega
      clear hC
      go_wp2_with (at_builtin; refine wpList_append_lies _ rfl _ _ 23 rfl wo.heap.size 3 i64 (.int .i64 0) 1 8 Tryz.underlying23 (Uh HI).1 (Uh HI).2.1 (Uh HI).2.2.1 (Uh HI).2.2.2 rfl (by decide) vC C.length (valsI C) rfl ((Uh HP3).ownC.alloc _) ⟨w3.heap.size,0,none⟩ 1 1 [.int .i64 (v:Int)] rfl rfl (World.news_of_block (alloc_block _ _)) (hone _) (by decide) hmx hby (by simp; omega) (w3.heap.size + 1) (by simp) ?_)
      intro g cap w4 hown hg hat hlt4
      have hXl:=(Array.getElem?_eq_some_iff.1 (Uh HP3).box).1
      have hb4:w4.heap[X]? = some (.cells #[.int .i64 (R:Int),.int .i64 (N:Int),vS,vC] 25 (0,0)):=(hg.block X (by simp; omega) (fun e => own_neB (Uh HP3).ownC (Uh HP3).box (by decide) e.symm)).trans (((bAl).block X hXl).trans (Uh HP3).box)
      have y3:=(cell_of_block hb4 3).trans (show _ = some vC from rfl)
      have z3:w4.frozen? ⟨X,3,none⟩ = false:=by simp [World.frozen?,hb4]
      have HP4:=Hj (((Uh HP3).below (bAl)).appC hown hg (by rcases hat with e | e; exact .inl e; exact .inr (by simpa using e)))
      clear hown hg hat hlt4 hb4 x3 hXl
      go_wp2_with fail
      refine ⟨⟨v + 1,by omega,by (first | rfl | go_num),Hj ⟨vS,.slice (some ⟨g,0,none⟩) (C.length + 1) cap,?_⟩⟩,by simp [intOf]; omega⟩
      rw [Uh HR2,← List.append_assoc,Uh HC]
      exact Uh HP4
    ·obtain rfl:v = N:=by omega
     have hin':¬ (v:Int) < (v:Int):=by omega
     have HPb:=Hj hPb
     have x2:=(cell_of_block hPb.box 2).trans (show _ = some vS from rfl)
     have x3:=(cell_of_block hPb.box 3).trans (show _ = some vC from rfl)
     have hle:=hPb.le
     obtain ⟨aC,cC,hvC,_⟩:=own_slI hPb.ownC
     have hSl:(grS P v k).length ≤ 16384:=by rw [grS_len]; omega
     have HE:=Hj (show grC P v (k + 1) = grC P v k ++ grR P k v from rfl)
     obtain ⟨C,hC⟩:∃ C,grC P v k ++ grR P k v = C:=⟨_,rfl⟩
     obtain ⟨S,hS⟩:∃ S,grS P v k = S:=⟨_,rfl⟩
     rw [hC] at HPb hvC hCl HE
     rw [hS] at HPb hSl
     have HS:=Hj hS
     have hmx:S.length + 1 ≤ maxLen:=by unfold maxLen; omega
     have hby:(S.length + 1) * 8 ≤ 140737488355328:=by omega
     subst hvC
     clear hPb hbx hC hS
     go_wp2_with (at_builtin; refine wpList_append_lies _ rfl _ _ 23 rfl wo.heap.size 3 i64 (.int .i64 0) 1 8 Tryz.underlying23 (Uh HI).1 (Uh HI).2.1 (Uh HI).2.2.1 (Uh HI).2.2.2 rfl (by decide) vS S.length (valsI S) rfl ((Uh HPb).ownS.alloc _) ⟨wr.heap.size,0,none⟩ 1 1 [.int .i64 (C.length:Int)] rfl rfl (World.news_of_block (alloc_block _ _)) (hone _) (by decide) hmx hby (by simp; omega) (wr.heap.size + 1) (by simp) ?_)
     intro g cap w4 hown hg hat hlt4
     have hXl:=(Array.getElem?_eq_some_iff.1 (Uh HPb).box).1
     have hb4:w4.heap[X]? = some (.cells #[.int .i64 (R:Int),.int .i64 (v:Int),vS,.slice aC C.length cC] 25 (0,0)):=(hg.block X (by simp; omega) (fun e => own_neB (Uh HPb).ownS (Uh HPb).box (by decide) e.symm)).trans (((bAl).block X hXl).trans (Uh HPb).box)
     have y2:=(cell_of_block hb4 2).trans (show _ = some vS from rfl)
     have z2:w4.frozen? ⟨X,2,none⟩ = false:=by simp [World.frozen?,hb4]
     have HP4:=Hj (((Uh HPb).below (bAl)).appS hown hg (by rcases hat with e | e; exact .inl e; exact .inr (by simpa using e)))
     clear hown hg hat hlt4 hb4 x2 x3 hXl
     go_wp2_with fail
     refine ⟨⟨k + 1,by omega,by (first | rfl | go_num),Hj ⟨.slice (some ⟨g,0,none⟩) (S.length + 1) cap,.slice aC C.length cC,?_⟩⟩,by simp [intOf]; omega⟩
     rw [show grS P v (k + 1) = grS P v k ++ [((grC P v (k + 1)).length:Int)] from rfl,Uh HE,Uh HS]
     exact Uh HP4
  ·obtain rfl:k = R:=by omega
   have hlt':¬ (k:Int) < (k:Int):=by omega
   obtain ⟨vS,vC,hPb⟩:=Uh HK
   have hbx:=Uh HBX wr hPb.bel
   have q0:=(hbx.1.all 0 _ rfl).1
   have q1:=(hbx.1.all 1 _ rfl).1
   obtain ⟨aS,cS,hvS,sS⟩:=own_slI hPb.ownS
   obtain ⟨aC,cC,hvC,sC⟩:=own_slI hPb.ownC
   subst hvS hvC
   have x0:=(cell_of_block hPb.box 0).trans (show _ = some (Value.int .i64 (k:Int)) from rfl)
   have x1:=(cell_of_block hPb.box 1).trans (show _ = some (Value.int .i64 (N:Int)) from rfl)
   have x2:=(cell_of_block hPb.box 2).trans (show _ = some (Value.slice aS (grS P N k).length cS) from rfl)
   have x3:=(cell_of_block hPb.box 3).trans (show _ = some (Value.slice aC (grC P N k).length cC) from rfl)
   have y0:=(hbx.2.1.all 0 _ rfl).1
   have y1:=(hbx.2.1.all 1 _ rfl).1
   have y2:=(hbx.2.1.all 2 _ rfl).1
   have y3:=(hbx.2.1.all 3 _ rfl).1
   have f0:=(hbx.2.1.all 0 _ rfl).2
   have f1:=(hbx.2.1.all 1 _ rfl).2
   have f2:=(hbx.2.1.all 2 _ rfl).2
   have f3:=(hbx.2.1.all 3 _ rfl).2
   have HO:=Hj hbx.2.1
   have HPb:=Hj hPb
   have HSS:=Hj (And.intro sS sC)
   clear hPb hbx HK sS sC
   go_wp2_with fail
   have hf:=((((Uh HO).put 0 (.int .i64 (k:Int))).put 1 (.int .i64 (N:Int))).put 2 (.slice aS (grS P N k).length cS)).put 3 (.slice aC (grC P N k).length cC)
   have t0:=(hf.all 0 _ rfl).1
   have t1:=(hf.all 1 _ rfl).1
   have t2:=(hf.all 2 _ rfl).1
   have t3:=(hf.all 3 _ rfl).1
   have c4:Chg (fun j => j = wb.heap.size) wr ((((wr.setCell ⟨wb.heap.size,0,none⟩ (.int .i64 (k:Int))).setCell ⟨wb.heap.size,1,none⟩ (.int .i64 (N:Int))).setCell ⟨wb.heap.size,2,none⟩ (.slice aS (grS P N k).length cS)).setCell ⟨wb.heap.size,3,none⟩ (.slice aC (grC P N k).length cC)):=(((Chg.of_set (S:=fun j => j = wb.heap.size) _ _ _ _ rfl).trans (Chg.of_set (S:=fun j => j = wb.heap.size) _ _ _ _ rfl)).trans (Chg.of_set (S:=fun j => j = wb.heap.size) _ _ _ _ rfl)).trans (Chg.of_set (S:=fun j => j = wb.heap.size) _ _ _ _ rfl)
   generalize (((wr.setCell ⟨wb.heap.size,0,none⟩ (.int .i64 (k:Int))).setCell ⟨wb.heap.size,1,none⟩ (.int .i64 (N:Int))).setCell ⟨wb.heap.size,2,none⟩ (.slice aS (grS P N k).length cS)).setCell ⟨wb.heap.size,3,none⟩ (.slice aC (grC P N k).length cC) = wf at *
   refine bodyPost_ret (by simp [results,Tryz.results79,go_sem,t0,t1,t2,t3]; try rfl) rfl ?_
   have hS9:=(Uh HPb).ownS
   have hC9:=(Uh HPb).ownC
   refine ⟨aS,cS,aC,cC,rfl,(Uh HSS).1.chg c4 (fun z hz _ e => ?_),(Uh HSS).2.chg c4 (fun z hz _ e => ?_),?_,fun z hz => ?_,fun z hz => ?_⟩
   ·have:=(own_ge hS9 z.block (by rw [hz]; rfl)).1; omega
   ·have:=(own_ge hC9 z.block (by rw [hz]; rfl)).1; omega
   ·exact ((Uh HB).trans ((Uh HPb).bel.mono (Uh HB).size)).trans (c4.below (Nat.le_trans (Uh HB).size (Uh HPb).bel.size) (fun j hj e => by have:=Uh HWB; omega))
   ·have:=(own_ge hS9 z.block (by rw [hz]; rfl)).1; have:=Uh HWB; omega
   ·have:=(own_ge hC9 z.block (by rw [hz]; rfl)).1; have:=Uh HWB; omega
end Go.Proofs.YtgjokididdffhaaGreat
