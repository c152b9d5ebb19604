/- Wi6 -/
import Derived.Test.YtcajmdfcanopnaaDoorWi5
import Derived.Deep.LoopGhost
import Derived.Test.YtcajmdfcanopnaaDoorBase
import Derived.Deep.RegionHeld3
import Derived.Test.YtcajmdfcanopnaaDoorRd1
import Derived.Test.YtcajmdfcanopnaaDoorRd3
import Derived.Test.YtcajmdfcanopnaaDoorNMul
import Derived.Laws.BytesArg
namespace Go.Proofs.YtcajmdfcanopnaaDoor
open Go.RowKit Go.Deep
set_option linter.unusedVariables false



theorem RowD.put {w wr:World} {g cap i:Nat} {acc:List Pc} {p:Pc} (h:RowD w wr g cap acc) (hi:i < acc.length) (hp:Dig wr g p):RowD w (wr.setCell ⟨g,i,none⟩ (slV p)) g cap (acc.set i p):=by
 have hc:Chg (fun k => k = g) wr (wr.setCell ⟨g,i,none⟩ (slV p)):=Chg.of_set (S:=fun k => k = g) _ _ _ _ rfl
 have dk:∀ q,Dig wr g q → Dig (wr.setCell ⟨g,i,none⟩ (slV p)) g q:=fun q hq => ⟨hq.sl.chg hc (fun x hx hn => hq.off hn x hx),hq.ok,hq.norm,hq.len,hq.off⟩
 refine ⟨?_,fun q hq => ?_,h.bel.setCell (p:=⟨g,i,none⟩) h.ge _,by simpa using h.lt,h.ge⟩
 ·rcases h.own with ⟨e0,⟨e,_⟩ | ⟨g',cap',cur,e,q1,q2,q3,q4,q5,q6⟩⟩
  ·cases e
  ·simp only [Value.slice.injEq,Option.some.injEq,Addr.mk.injEq,and_true,true_and] at e
   obtain ⟨rfl,rfl⟩:=e
   refine ⟨by simp,.inr ⟨g,cap,cur.setIfInBounds i (slV p),by simp,q1,?_,by simpa using q3,q4,by simpa using q5,?_⟩⟩
   ·exact heap_setCell_same _ _ _ _ _ _ q2
   ·rw [List.length_set,Array.toList_setIfInBounds,List.take_set,q6]
    simp
 ·rcases List.mem_or_eq_of_mem_set hq with c | c
  ·exact dk q (h.each q c)
  ·rw [c]; exact dk p hp
theorem RowD.at {w wr:World} {g cap i:Nat} {acc:List Pc} (h:RowD w wr g cap acc) (hi:i < acc.length):(∃ v,wr.cell? ⟨g,i,none⟩ = some v) ∧ wr.frozen? ⟨g,i,none⟩ = false:=by
 rcases h.own with ⟨e0,⟨e,_⟩ | ⟨g',cap',cur,e,q1,q2,q3,q4,q5,q6⟩⟩
 ·cases e
 ·simp only [Value.slice.injEq,Option.some.injEq,Addr.mk.injEq,and_true,true_and] at e
  obtain ⟨rfl,rfl⟩:=e
  have hc:i < cur.size:=by omega
  exact ⟨⟨cur[i],by simp [World.cell?,q2,hc]⟩,by simp [World.frozen?,q2]⟩





structure Ext (w0:World) where
 w:World
 bel:Below w0.heap.size w0 w
theorem Ext.ne (w:World):Nonempty (Ext w):=⟨⟨w,Below.refl _ _⟩⟩
section
variable {P:Program}
theorem wp_region_ext {id:Nat} {Q:Exit → Act → World → Prop} {a:Act} {w:World} {l:List Oper} (hm:P.follows .mixedOrders = true) (hB:Region.lexB .any l.toArray = true)
  (h:wpQuiet P l.toArray (fun w' => ∃ x:Ext w,w' = x.w) (fun a' => ∀ w',(∃ x:Ext w,w' = x.w) → Q .normal a' w') l a):(Code.region id l.toArray true).wp P Q a w :=
 wp_region_quiet (C:=fun w' => ∃ x:Ext w,w' = x.w) hm hB ⟨⟨w.drew,(Below.refl _ _).drew⟩,rfl⟩ (by simpa using h)
end
theorem Ext.call {P:Program} {f:FuncId} {args:Array Value} {w:World} {x:Ext w} {v:Value} {R:Ending → World → Prop} (h:Calls P f args x.w R) (hR:∀ e w',R e w' → e = .returned v ∧ Below x.w.heap.size x.w w') :
  Calls P f args x.w fun e w'' => e = .returned v ∧ ∃ y:Ext w,w'' = y.w :=
 h.mono fun e w' hr => ⟨(hR e w' hr).1,⟨⟨w',x.bel.trans ((hR e w' hr).2.mono x.bel.size)⟩,rfl⟩⟩
theorem Ext.cell {w:World} (x:Ext w) {p:Addr} {v:Value} (h:w.cell? p = some v):x.w.cell? p = some v:=(x.bel.cell (p:=p) (World.block_lt_of_cell? _ _ h)).trans h

theorem MayR.parts {g:Bool} {x y:List Nat} (h:MayR g x y = true):MayL x = true ∧ MayL y = true ∧ y ≠ [] ∧ (g = true → x ≠ []) ∧ Nat.gcd (val x) (val y) = 1:=by
 unfold MayR at h
 simp only [Bool.and_eq_true,Bool.not_eq_true',decide_eq_false_iff_not,decide_eq_true_eq] at h
 obtain ⟨⟨⟨⟨h1,h2⟩,h3⟩,h4⟩,h5⟩:=h
 refine ⟨h1,h2,h3,fun hg hx => ?_,h5⟩
 rw [hg,hx] at h4
 simp at h4











def FnB (w:World) (b off n:Nat) (f:Nat → Nat):Prop :=
 ∀ i,i < n → w.cell? ⟨b,off + i,none⟩ = some (.int .u8 (f i:Nat)) ∧ w.frozen? ⟨b,off + i,none⟩ = false
theorem FnB.set {w:World} {b off n:Nat} {f:Nat → Nat} (h:FnB w b off n f) (k v:Nat) (hk:k < n) :
  FnB (w.setCell ⟨b,off + k,none⟩ (.int .u8 (v:Nat))) b off n (fun i => if i = k then v else f i):=by
 intro i hi
 refine ⟨?_,by rw [World.frozen?_setCell]; exact (h i hi).2⟩
 by_cases e:i = k
 ·subst e
  rw [World.cell?_setCell_same _ _ _ (h i hi).1]
  simp
 ·rw [World.cell?_setCell_other _ _ _ _ (by intro h; injection h with h1 h2; omega)]
  simp [e,(h i hi).1]
theorem FnB.congr {w:World} {b off n:Nat} {f g:Nat → Nat} (h:FnB w b off n f) (he:∀ i,i < n → f i = g i):FnB w b off n g:=fun i hi => by
 have:=h i hi
 rwa [he i hi] at this
theorem FnB.made (w:World) (n:Nat) (e:TypeId):FnB (w.alloc (.cells (madeCells #[.int .u8 0] n) e)) w.heap.size 0 n (fun _ => 0):=by
 intro i hi
 refine ⟨?_,by simp⟩
 simp [madeCells,hi,Nat.mod_one]

def byteN (v i:Nat):Nat:=v / 256 ^ i % 256
def bytesN (xs:List Nat):Nat:=(bitsN xs + 7) / 8
def valsB (xs:List Nat):List Value:=xs.map (fun x => .int .u8 (x:Nat))
def outB (xs:List Nat) (k:Nat):List Nat:=lst (fun p => byteN (val xs) (bytesN xs - 1 - p)) (bytesN xs - k)

structure ByR (wr w:World) (xs:List Nat) (v:Value) (k:Nat):Prop where
 own:wr.ownsRow w.heap.size 5 1 v (bytesN xs - k) (valsB (outB xs k))
 bel:Below w.heap.size w wr

theorem ByR.step {wr w w1:World} {xs:List Nat} {v v':Value} {k:Nat} {o:Obj} (h:ByR wr w xs v (k + 1)) (hk:k < bytesN xs)
  (hown:w1.ownsRow w.heap.size 5 1 v' (bytesN xs - (k + 1) + 1) (valsB (outB xs (k + 1)) ++ [.int .u8 (byteN (val xs) k:Nat)])) (hg:(wr.alloc o).grownBy w1 v.ownBlock):ByR w1 w xs v' k:=by
 have hs:=h.bel.size
 refine ⟨?_,Below.grown (h.bel.alloc (by omega) o) hg (by simp; omega) (fun k hk => (own_ge h.own k hk).1)⟩
 have e1:bytesN xs - (k + 1) + 1 = bytesN xs - k:=by omega
 have e:valsB (outB xs (k + 1)) ++ [.int .u8 (byteN (val xs) k:Nat)] = valsB (outB xs k):=by
  unfold outB valsB
  rw [← e1]
  simp only [lst,List.range_succ,List.map_append,List.map_cons,List.map_nil]
  rw [show bytesN xs - 1 - (bytesN xs - (k + 1)) = k from by omega]
 rw [e,e1] at hown
 exact hown
structure SlB (w:World) (a:Option Addr) (n c:Nat) (bs:List Nat):Prop where
 len:bs.length = n
 le:n ≤ c
 ok:∀ x ∈ bs,x < 256
 cells:bs = [] ∨ ∃ b off,a = some ⟨b,off,none⟩ ∧ ∀ i,i < bs.length → w.cell? ⟨b,off + i,none⟩ = some (.int .u8 (bs.getD i 0:Nat))
theorem SlB.below {w w':World} {a:Option Addr} {n c:Nat} {bs:List Nat} (h:SlB w a n c bs) (k:Below w.heap.size w w'):SlB w' a n c bs:=by
 refine ⟨h.len,h.le,h.ok,?_⟩
 rcases h.cells with e | ⟨b,off,e,hc⟩
 ·exact .inl e
 ·refine .inr ⟨b,off,e,fun i hi => ?_⟩
  have h1:=hc i hi
  rw [k.cell (World.block_lt_of_cell? _ _ h1)]
  exact h1

def lowB (bs:List Nat):Nat → Nat
 | 0 => 0
 | k + 1 => lowB bs k + bs.getD (bs.length - 1 - k) 0 * 256 ^ k
theorem lowB_lt {bs:List Nat} (ok:∀ x ∈ bs,x < 256):∀ (k:Nat),lowB bs k < 256 ^ k
 | 0 => by simp [lowB]
 | k + 1 => by
  have h1:=lowB_lt ok k
  simp only [lowB]
  have h2:bs.getD (bs.length - 1 - k) 0 < 256:=by
   by_cases hl:bs.length - 1 - k < bs.length
   ·rw [show bs.getD (bs.length - 1 - k) 0 = bs[bs.length - 1 - k] from by simp [List.getD,hl]]
    exact ok _ (List.getElem_mem _)
   ·rw [getD_ge (by omega)]; decide
  have h3:bs.getD (bs.length - 1 - k) 0 * 256 ^ k ≤ 255 * 256 ^ k:=Nat.mul_le_mul_right _ (by omega)
  rw [Nat.pow_succ]
  generalize 256 ^ k = P at *
  omega

theorem valF_putB {f:Nat → Nat} {l d:Nat}:∀ {n:Nat},l < n → valF (fun i => if i = l then f l + d else f i) n = valF f n + 4294967296 ^ l * d
 | 0,h => by omega
 | n + 1,h => by
  simp only [valF]
  by_cases e:n = l
  ·subst e
   rw [valF_congr (g:=f) (fun i hi => by rw [if_neg (by omega)])]
   simp only [if_true,Nat.mul_add]
   omega
  ·rw [valF_putB (n:=n) (by omega),if_neg e]
   omega

theorem byte_put {f:Nat → Nat} {M i l s c:Nat} (ok:∀ j,j < M → f j < 4294967296) (hl:i / 4 = l) (hs:i % 4 = s) (hM:l < M) (hv:valF f M < 256 ^ i) (hc:c < 256) :
  bits .or .u32 (f l:Int) ((c * 2 ^ (8 * s):Nat):Int) = ((f l + c * 2 ^ (8 * s):Nat):Int) ∧ f l + c * 2 ^ (8 * s) < 4294967296 ∧ c * 2 ^ (8 * s) < 4294967296 ∧ 4294967296 ^ l * (c * 2 ^ (8 * s)) = c * 256 ^ i:=by
 have p1:(256:Nat) ^ i = 4294967296 ^ l * 2 ^ (8 * s):=by
  rw [show i = 4 * l + s from by omega,show (256:Nat) = 2 ^ 8 from rfl,← Nat.pow_mul,pow_limb,← Nat.pow_add]
  congr 1
  omega
 have hd:f l < 2 ^ (8 * s):=by
  rw [valF_digit ok hM]
  refine Nat.lt_of_le_of_lt (Nat.mod_le _ _) ?_
  rw [Nat.div_lt_iff_lt_mul (pow_pos l),Nat.mul_comm,← p1]
  exact hv
 have hp:2 ^ (8 * s) * 256 ≤ 4294967296:=by
  rw [show (256:Nat) = 2 ^ 8 from rfl,← Nat.pow_add]
  exact Nat.le_trans (Nat.pow_le_pow_right (by decide) (show 8 * s + 8 ≤ 32 by omega)) (by decide)
 have hcm:c * 2 ^ (8 * s) + 2 ^ (8 * s) ≤ 2 ^ (8 * s) * 256:=by
  rw [← Nat.succ_mul,Nat.mul_comm]
  exact Nat.mul_le_mul_left _ hc
 have hP:=Nat.two_pow_pos (8 * s)
 have ho:c * 2 ^ (8 * s) ||| f l = c * 2 ^ (8 * s) + f l:=by
  have:=Nat.shiftLeft_add_eq_or_of_lt hd c
  rw [Nat.shiftLeft_eq] at this
  exact this.symm
 have h1:c * 2 ^ (8 * s) < 4294967296:=by omega
 have h2:f l < 4294967296:=ok l hM
 refine ⟨?_,by omega,h1,?_⟩
 ·rw [u32_or_nat _ _ h2 h1,Nat.or_comm,ho,Nat.add_comm]
 ·rw [p1,← Nat.mul_assoc,Nat.mul_comm _ c,Nat.mul_assoc]
structure FbR (wr w:World) (M:Nat) (r:List Nat) (i:Nat) (f:Nat → Nat):Prop where
 fn:Fn wr w.heap.size 0 M f
 ok:∀ j,j < M → f j < 4294967296
 val:valF f M = lowB r i
 bel:Below w.heap.size w wr

theorem FbR.drewN {wr w:World} {M:Nat} {r:List Nat} {i:Nat} {f:Nat → Nat} (h:FbR wr w M r i f) (j:Nat):FbR (wr.drewN j) w M r i f:=⟨h.fn,h.ok,h.val,bel_drewN h.bel j⟩
theorem FbR.step {wr w:World} {M:Nat} {r:List Nat} {i l s c:Nat} {f:Nat → Nat} (h:FbR wr w M r i f) (okr:∀ x ∈ r,x < 256) (hl:i / 4 = l) (hs:i % 4 = s) (hM:l < M) (hc:r.getD (r.length - 1 - i) 0 = c) (hc2:c < 256) :
  FbR (wr.setCell ⟨w.heap.size,l,none⟩ (.int .u32 (f l + c * 2 ^ (8 * s):Nat))) w M r (i + 1) (fun j => if j = l then f l + c * 2 ^ (8 * s) else f j):=by
 have hp:=byte_put h.ok hl hs hM (by rw [h.val]; exact lowB_lt okr i) hc2
 have hS:=h.fn.set l (f l + c * 2 ^ (8 * s)) hM
 rw [Nat.zero_add] at hS
 refine ⟨hS,?_,?_,h.bel.trans (((Upd.refl w.heap.size 0 M wr).set l (.int .u32 (f l + c * 2 ^ (8 * s):Nat)) (by omega) hM).below (Nat.le_refl _) h.bel.size)⟩
 ·intro j hj
  by_cases e:j = l
  ·simp only [e,if_true]; exact hp.2.1
  ·simp only [e,if_false]; exact h.ok j hj
 ·rw [valF_putB hM,h.val,hp.2.2.2]
  simp only [lowB]
  rw [hc]



end Go.Proofs.YtcajmdfcanopnaaDoor
