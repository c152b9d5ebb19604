/- Pr9 -/
import Derived.Test.YtcajmdfcanopnaaDoorPr8
import Derived.Test.YtcajmdfcanopnaaDoorPr5
import Derived.Test.YtcajmdfcanopnaaDoorBy7
import Derived.Test.YtcajmdfcanopnaaDoorWi5
import Derived.ProofKit
import Derived.OpenShut
import Derived.ShutString
import Derived.ChangeOld
import Derived.SizedLaws
import Derived.Deep.Strs
import Derived.ChangeArms
import Derived.Test.YtcajmdfcanopnaaDoorNMul
import Derived.Test.YtcajmdfcanopnaaDoorCmp
import Derived.Test.YtcajmdfcanopnaaDoorGiv
namespace Go.Proofs.YtcajmdfcanopnaaDoor
open Go.RowKit Go.Deep
set_option linter.unusedVariables false


end Go.Proofs.YtcajmdfcanopnaaDoor
namespace Go.Proofs.YtcajmdfcanopnaaDoor
open Go.ChangeShapes Go.WideShapes Go.ChangeAt Go.RowKit Go.Deep
set_option linter.unusedVariables false
structure Fct where
 p:World → Prop
 st:∀ {w w':World},Below w.heap.size w w' → p w → p w'
structure Fcts (w0 w:World) (L:List Fct):Prop where
 bel:Below w0.heap.size w0 w
 all:∀ f ∈ L,f.p w
theorem Fcts.step {w0 w w':World} {L:List Fct} (h:Fcts w0 w L) (k:Below w.heap.size w w'):Fcts w0 w' L :=
 ⟨h.bel.trans (k.mono h.bel.size),fun f hf => f.st k (h.all f hf)⟩
theorem Fcts.add {w0 w:World} {L:List Fct} (h:Fcts w0 w L) (f:Fct) (hf:f.p w):Fcts w0 w (f :: L) :=
 ⟨h.bel,fun g hg => by rcases List.mem_cons.1 hg with rfl | hg; exact hf; exact h.all g hg⟩
structure Nm (w:World) (a:Option Addr) (n c:Nat) (x:List Nat) (b:Option Addr) (m d:Nat) (y:List Nat):Prop where
 num:Sl w a n c x
 den:Sl w b m d y
structure Tri (w:World) (R:Nat) (v0 v1 v2:Value):Prop where
 c0:w.cell? ⟨R,0,none⟩ = some v0
 c1:w.cell? ⟨R,1,none⟩ = some v1
 c2:w.cell? ⟨R,2,none⟩ = some v2
 f0:w.frozen? ⟨R,0,none⟩ = false
 f1:w.frozen? ⟨R,1,none⟩ = false
 f2:w.frozen? ⟨R,2,none⟩ = false
 lt:R < w.heap.size
theorem Tri.keep {w w':World} {R:Nat} {v0 v1 v2:Value} (h:Tri w R v0 v1 v2) (k:Below w.heap.size w w'):Tri w' R v0 v1 v2:=by
 have hc:∀ i,w'.cell? ⟨R,i,none⟩ = w.cell? ⟨R,i,none⟩:=fun i => by unfold World.cell?; simp only; rw [k.block _ h.lt]
 have hf:∀ i,w'.frozen? ⟨R,i,none⟩ = w.frozen? ⟨R,i,none⟩:=fun i => by unfold World.frozen?; simp only; rw [k.block _ h.lt]
 exact ⟨(hc 0).trans h.c0,(hc 1).trans h.c1,(hc 2).trans h.c2,(hf 0).trans h.f0,(hf 1).trans h.f1,(hf 2).trans h.f2,Nat.lt_of_lt_of_le h.lt k.size⟩
theorem Tri.made (w:World) (v0 v1 v2:Value) (e:TypeId):Tri (w.alloc (.cells #[v0,v1,v2] e)) w.heap.size v0 v1 v2:=by
 refine ⟨?_,?_,?_,?_,?_,?_,?_⟩ <;> simp
def fN (a:Option Addr) (n c:Nat) (x:List Nat) (b:Option Addr) (m d:Nat) (y:List Nat):Fct:=⟨fun w => Nm w a n c x b m d y,fun k h => ⟨h.num.below k,h.den.below k⟩⟩
def fR (R:Nat) (v0 v1 v2:Value):Fct:=⟨fun w => Tri w R v0 v1 v2,fun k h => h.keep k⟩
theorem Fcts.n {w0 w:World} {L:List Fct} (h:Fcts w0 w L) (a:Option Addr) (n c:Nat) (x:List Nat) (b:Option Addr) (m d:Nat) (y:List Nat) (hm:fN a n c x b m d y ∈ L):Nm w a n c x b m d y:=h.all _ hm
theorem Fcts.r {w0 w:World} {L:List Fct} (h:Fcts w0 w L) (R:Nat) (v0 v1 v2:Value) (hm:fR R v0 v1 v2 ∈ L):Tri w R v0 v1 v2:=h.all _ hm
theorem law_own:ownKnob Tryd.prog.godebug = none:=by kernel_rfl
theorem law_laid:laidOutB Tryd.prog = true:=by kernel_rfl
theorem law_bytesL:Tryd.prog.bytesOf 68 = 4:=by kernel_rfl
theorem law_cellsL:Tryd.prog.cellsOf 68 = 1:=by kernel_rfl
theorem law_cellsB:Tryd.prog.cellsOf 4 = 1:=by kernel_rfl
theorem law_cellsN:Tryd.prog.cellsOf 62 = 1:=by kernel_rfl
theorem law_cellsR:Tryd.prog.cellsOf 64 = 3:=by kernel_rfl

theorem trod_limbsZ {H:Type} {enc:TypeId × Value → H} {W:World} {fuel:Nat} {cs:List Value} {x:DataW H × List MemPlace}
  (h:DataW.trod enc Tryd.prog W 0 (fun _ => true) true fuel 62 cs = some x) (hz:∀ k ∈ x.1.weights Tryd.prog 62,k ≤ reachBytes) :
  ∃ a n c xs,cs = [.slice a n c] ∧ Sl W a n c xs ∧ Ok xs ∧ n ≤ 35184372088000 ∧ (a = none → c = 0):=by
 rcases open_ints Tryd.underlying62 Tryd.underlying68 law_cellsL h with ⟨rfl,_⟩ | ⟨y,n,c,zs,rfl,_,hl,hm,hzl,rfl,hcell,hwz⟩
 ·exact ⟨none,0,0,[],rfl,sl_nil _,Ok.nil,Nat.zero_le _,fun _ => rfl⟩
 ·have hzl':zs.length = c:=by simpa using hzl
  have hb:=hz (((lits (H:=H) .u32 (zs.take n)).length + (lits (H:=H) .u32 (zs.drop n)).length) * Tryd.prog.bytesOf 68) (by simp [DataW.weights,Tryd.underlying62])
  have hlen:(lits (H:=H) .u32 (zs.take n)).length + (lits (H:=H) .u32 (zs.drop n)).length = c:=by
   simp [lits]; omega
  rw [hlen,law_bytesL] at hb
  unfold reachBytes at hb
  refine ⟨some y,n,c,(zs.take n).map Int.toNat,rfl,⟨by simp; omega,hl,hm,?_⟩,fun z hzz => ?_,by omega,fun h => by cases h⟩
  ·by_cases h0:n = 0
   ·left; subst h0; simp
   ·right
    obtain ⟨b,off,spot⟩:=y
    have c0:=hcell 0 (by omega)
    have hspot:spot = none:=by simpa [Addr.add] using World.cell?_spot c0
    subst hspot
    refine ⟨b,off,rfl,?_⟩
    intro i hi
    have hi':i < n:=by simp at hi; omega
    have e:(⟨b,off,none⟩:Addr).add i = ⟨b,off + i,none⟩:=by unfold Addr.add; split <;> simp_all
    have hzi:=hcell i (by omega)
    rw [e] at hzi
    rw [hzi]
    have hmem:zs.getD i 0 ∈ zs:=by
     have:zs.getD i 0 = zs[i]'(by omega):=by simp [List.getD,show i < zs.length from by omega]
     rw [this]; exact List.getElem_mem _
    have r:=bounds_u32 (hwz _ hmem)
    have e2:((zs.take n).map Int.toNat).getD i 0 = (zs.getD i 0).toNat:=by
     simp [List.getD,hi',show i < zs.length from by omega]
    rw [e2]
    congr 2
    omega
  ·obtain ⟨u,hu,rfl⟩:=List.mem_map.1 hzz
   have:=bounds_u32 (hwz u (List.mem_of_mem_take hu))
   omega

theorem EntOk.ne {w:World} {B:Nat} {v0 v1:Value} {e:Ent} (h:EntOk w B v0 v1 e) {R:Nat} {b:Bool} (hR:w.cell? ⟨R,0,none⟩ = some (.bool b)):e.b ≠ R ∧ e.b0 ≠ R:=by
 have key:∀ (g n c:Nat) (xs:List Nat),Sl w (some ⟨g,0,none⟩) n c xs → xs ≠ [] → g ≠ R:=by
  intro g n c xs hs hne hg
  obtain ⟨b',off',e',hc⟩:=hs.cells.resolve_left hne
  cases e'
  have:=hc 0 (List.length_pos_iff.2 hne)
  rw [Nat.zero_add,hg,hR] at this
  cases this
 exact ⟨key _ _ _ _ h.sl (by simp [marks]),key _ _ _ _ h.sl0 (by simp [marks])⟩

theorem LawSt.setR {w w':World} {B:Nat} {v0 v1:Value} {es:List Ent} {w0:World} {L:List Pc} (h:LawSt w B v0 v1 es w0 L) {R:Nat} {b:Bool} (hR:w.cell? ⟨R,0,none⟩ = some (.bool b)) (hc:Chg (fun j => j = R) w w') (hw:w0.heap.size ≤ R) (hO:¬ Own B v0 v1 R) (hL:∀ p ∈ L,∀ x,p.a = some x → p.xs ≠ [] → x.block ≠ R) :
  LawSt w' B v0 v1 es w0 L:=by
 refine ⟨h.giv.chg hc (fun e => hO (by rw [← e]; exact .inl rfl)) (fun k hk e => hO (by rw [← e]; exact .inr (.inl hk))) (fun k hk e => hO (by rw [← e]; exact .inr (.inr hk))) (fun e he => (h.giv.ents e he).ne hR),h.bel.trans (hc.below h.bel.size (fun k hk => by omega)),h.base,?_⟩
 intro p hp
 have K:=h.all p hp
 exact ⟨K.sl.chg hc (fun x hx hne => hL p hp x hx hne),K.safe⟩
end Go.Proofs.YtcajmdfcanopnaaDoor
namespace Go.Proofs.YtcajmdfcanopnaaDoor
open Go.RowKit Go.Deep
set_option linter.unusedVariables false
def Ow (w:World) (B:Nat) (a:Option Addr) (n c:Nat) (xs:List Nat):Prop:=w.ownsRow B 68 1 (.slice a n c) n (vals xs)
def AtB (a:Option Addr) (k:Nat):Prop:=∃ x,a = some x ∧ x.block = k
theorem atB_some {g o:Nat}:AtB (some ⟨g,o,none⟩) g:=⟨_,rfl,rfl⟩
theorem atB_is {g o k:Nat} (h:AtB (some ⟨g,o,none⟩) k):k = g:=by obtain ⟨x,e,rfl⟩:=h; cases e; rfl
theorem atB_none {k:Nat} (h:AtB none k):False:=by obtain ⟨x,e,_⟩:=h; cases e
theorem atB_own {a:Option Addr} {n c k:Nat}:(Value.slice a n c).ownBlock = some k ↔ AtB a k:=by
 cases a with
 | none => exact ⟨fun h => (by cases h),fun h => (atB_none h).elim⟩
 | some x => exact ⟨fun h => ⟨x,rfl,by simpa [Value.ownBlock] using h⟩,fun ⟨y,e,h⟩ => (by cases e; simp [Value.ownBlock,h])⟩

theorem Ow.nil (w:World) (B:Nat):Ow w B none 0 0 []:=World.ownsRow_nil _ _ _ _
theorem Ow.len {w:World} {B n c:Nat} {a:Option Addr} {xs:List Nat} (h:Ow w B a n c xs):xs.length = n:=by have:=h.1; simpa [vals] using this
theorem Ow.sl {w:World} {B n c:Nat} {a:Option Addr} {xs:List Nat} (h:Ow w B a n c xs):Sl w a n c xs:=by
 obtain ⟨a',c',e,k,_⟩:=own_sl h
 cases e; exact k
theorem Ow.new {w:World} {B n c:Nat} {a:Option Addr} {xs:List Nat} (h:Ow w B a n c xs):NewAt B a:=by
 obtain ⟨a',c',e,_,k⟩:=own_sl h
 cases e; exact k
theorem Ow.lt {w:World} {B n c k:Nat} {a:Option Addr} {xs:List Nat} (h:Ow w B a n c xs) (hk:AtB a k):B ≤ k ∧ k < w.heap.size:=own_ge h k (atB_own.2 hk)
theorem Ow.mono {w:World} {B B' n c:Nat} {a:Option Addr} {xs:List Nat} (h:Ow w B a n c xs) (hb:B' ≤ B):Ow w B' a n c xs :=
 ⟨h.1,h.2.imp id (fun ⟨g,cap,cur,e,h1,h2⟩ => ⟨g,cap,cur,e,Nat.le_trans hb h1,h2⟩)⟩
theorem Ow.chg {S:Nat → Prop} {w w':World} {B n c:Nat} {a:Option Addr} {xs:List Nat} (h:Ow w B a n c xs) (k:Chg S w w') (hs:∀ k,AtB a k → ¬ S k):Ow w' B a n c xs :=
 ownsRow_chg h k (fun k hk => hs k (atB_own.1 hk))
theorem Ow.below {w w':World} {B n c:Nat} {a:Option Addr} {xs:List Nat} (h:Ow w B a n c xs) (k:Below w.heap.size w w'):Ow w' B a n c xs :=
 h.chg (S:=fun _ => False) (.of_below k) (fun _ _ => id)
theorem Ow.form {w:World} {B n c:Nat} {a:Option Addr} {xs:List Nat} (h:Ow w B a n c xs) (hn:0 < n):∃ g,a = some ⟨g,0,none⟩ ∧ B ≤ g ∧ g < w.heap.size:=by
 obtain ⟨g,cap,e,h1,h2⟩:=World.ownsRow.form h hn
 cases e
 exact ⟨g,rfl,h1,h2⟩
theorem Ow.shape {w:World} {B n c:Nat} {a:Option Addr} {xs:List Nat} (h:Ow w B a n c xs):(a = none ∧ n = 0 ∧ c = 0) ∨ ∃ g,a = some ⟨g,0,none⟩:=by
 rcases h.2 with ⟨e,h0⟩ | ⟨g,cap,cur,e,_⟩
 ·cases e; exact .inl ⟨rfl,rfl,rfl⟩
 ·cases e; exact .inr ⟨g,rfl⟩
theorem Ow.cell {w:World} {B g n c i:Nat} {xs:List Nat} (h:Ow w B (some ⟨g,0,none⟩) n c xs) (hi:i < n):w.cell? ⟨g,i,none⟩ = some (.int .u32 (xs.getD i 0:Nat)):=by
 have:=World.ownsRow.cellAt h i (by omega)
 rw [this,vals_get (by rw [h.len]; exact hi)]
theorem Ow.froz {w:World} {B g n c i:Nat} {xs:List Nat} (h:Ow w B (some ⟨g,0,none⟩) n c xs):w.frozen? ⟨g,i,none⟩ = false:=World.ownsRow.frozenAt h i
theorem Ow.set {w:World} {B g n c:Nat} {xs:List Nat} (h:Ow w B (some ⟨g,0,none⟩) n c xs) (j x:Nat):Ow (w.setCell ⟨g,j,none⟩ (.int .u32 (x:Nat))) B (some ⟨g,0,none⟩) n c (xs.set j x):=by
 have:=(World.ownsRow.stored h j (.int .u32 (x:Nat))).1
 have e:(vals xs).set j (.int .u32 (x:Nat)) = vals (xs.set j x):=by simp [vals,List.map_set]
 rw [e] at this
 exact this
theorem Ow.take {w:World} {B n c m:Nat} {a:Option Addr} {xs:List Nat} (h:Ow w B a n c xs) (hm:m ≤ n):Ow w B a m c (xs.take m):=by
 have hl:=h.len
 refine ⟨by simp [vals,hl]; omega,?_⟩
 rcases h.2 with ⟨e,h0⟩ | ⟨g,cap,cur,e,h1,h2,h3,h4,h5,h6⟩
 ·cases e; left; exact ⟨by congr; omega,by omega⟩
 ·cases e
  right
  refine ⟨g,c,cur,rfl,h1,h2,by omega,h4,h5,?_⟩
  have e2:vals (xs.take m) = (vals xs).take m:=by simp [vals]
  rw [e2,← h6,List.take_take]
  congr 1; omega
theorem Ow.made (w:World) (n:Nat) (hn:n ≤ 70368744177600):Ow (w.alloc (.cells (madeCells #[.int .u32 0] n) 68)) w.heap.size (some ⟨w.heap.size,0,none⟩) n n (List.replicate n 0):=by
 have:=World.ownsRow_lit (base:=w.heap.size) (e:=68) (size:=1) w (madeCells #[.int .u32 0] n) n (Nat.le_refl _) (by unfold maxLen; omega) (by simp [madeCells])
 rw [toList_madeCells_one] at this
 have e:vals (List.replicate n 0) = List.replicate n (.int .u32 0):=by simp [vals]
 unfold Ow
 rw [e]
 exact this

theorem TrimAt.limbs {xs:List Nat} {m:Nat} (h:TrimAt xs m) (ok:Ok xs):xs.take m = limbs (val xs):=(h.rep ok).eq
theorem limbs_ok (v:Nat):Ok (limbs v):=(limbs_rep v).ok
theorem limbs_norm (v:Nat):Norm (limbs v):=(limbs_rep v).norm
theorem limbs_v (v:Nat):val (limbs v) = v:=(limbs_rep v).val
theorem limbs_len {v j:Nat} (hv:v < 4294967296 ^ j):(limbs v).length ≤ j:=by
 rcases Nat.lt_or_ge j (limbs v).length with k | k
 ·exfalso
  have hz:limbs v ≠ []:=by intro e; rw [e] at k; simp at k
  have h1:=val_ge_of_norm (limbs_norm v) hz
  rw [limbs_v] at h1
  have h2:4294967296 ^ j ≤ 4294967296 ^ ((limbs v).length - 1):=Nat.pow_le_pow_right (by decide) (by omega)
  omega
 ·exact k
theorem limbs_lt (v:Nat):v < 4294967296 ^ (limbs v).length:=by have:=val_lt (limbs_ok v); rwa [limbs_v] at this
theorem limbs_eq_nil {v:Nat}:limbs v = [] ↔ v = 0:=by
 constructor
 ·intro h; have:=limbs_v v; rw [h] at this; exact this.symm
 ·rintro rfl; rfl

set_option maxHeartbeats 400000 in
theorem wnorm_some (b off n c:Nat) (xs:List Nat) (w:World) (hn:xs.length = n) (hnc:n ≤ c) (hcm:c ≤ maxLen) (hc:Cells w b off xs) :
  Calls Tryd.prog 65 #[.slice (some ⟨b,off,none⟩) n c] w fun e w' => ∃ m,TrimAt xs m ∧ e = .returned (.slice (some ⟨b,off,none⟩) m c) ∧ w' = w:=by
 unfold maxLen at hcm
 go_enter Tryd.func65,Tryd.ntmps65
 go_wp2
 go_loop [3] (fun i => ∃ k:Nat,k ≤ n ∧ i = .int .i64 k ∧ ∀ j,k ≤ j → xs.getD j 0 = 0) (fun i => (intOf i).toNat)
 case atStart => exact ⟨n,Nat.le_refl _,rfl,fun j hj => getD_ge (by omega)⟩
 case round =>
  obtain ⟨k,hk,rfl,hz⟩:=hrel
  by_cases h0:k = 0
  ·subst h0
   go_wp2
   go_ret
   exact ⟨0,⟨by omega,.inl rfl,hz⟩,rfl,rfl⟩
  ·have hpos:(0:Int) < (k:Int):=by omega
   have hk1:((k:Int) - 1).toNat = k - 1:=by omega
   have hcell:=hc (k - 1) (by omega)
   by_cases hx:xs.getD (k - 1) 0 = 0
   ·rw [hx] at hcell
    have Hx:Hid (xs.getD (k - 1) 0 = 0):=hx
    clear hx
    go_wp2
    go_round
    case rel => exact ⟨k - 1,by omega,by congr 1; omega,fun j hj => by
     by_cases e:j = k - 1
     ·rw [e]; exact Hx.out
     ·exact hz j (by omega)⟩
    case measure => simp [intOf]; omega
   ·have Hx:Hid (xs.getD (k - 1) 0 ≠ 0):=hx
    have hx':(((xs.getD (k - 1) 0:Nat):Int) == 0) = false:=by simp at hx ⊢; exact hx
    clear hx
    generalize hg:(((xs.getD (k - 1) 0:Nat):Int)) = g at hcell hx'
    clear hg
    go_wp2
    go_ret
    exact ⟨k,⟨by omega,.inr Hx.out,hz⟩,rfl,rfl⟩

theorem wnorm_nil (w:World) :
  Calls Tryd.prog 65 #[.slice none 0 0] w fun e w' => e = .returned (.slice none 0 0) ∧ w' = w:=by
 go_enter Tryd.func65,Tryd.ntmps65
 go_wp2
 go_loop [3] (fun i => i = .int .i64 0) (fun i => (intOf i).toNat)
 case atStart => rfl
 case round =>
  subst hrel
  go_wp2
  go_ret
  exact ⟨rfl,rfl⟩

theorem wnorm_any (a:Option Addr) (n c B:Nat) (xs:List Nat) (w:World) (h:Ow w B a n c xs) (ok:Ok xs) :
  Calls Tryd.prog 65 #[.slice a n c] w fun e w' => ∃ m,e = .returned (.slice a m c) ∧ m ≤ n ∧ Ow w B a m c (limbs (val xs)) ∧ w' = w:=by
 rcases h.shape with ⟨rfl,rfl,rfl⟩ | ⟨g,rfl⟩
 ·refine (wnorm_nil w).mono ?_
  rintro e w' ⟨rfl,rfl⟩
  have:xs = []:=List.eq_nil_of_length_eq_zero h.len
  subst this
  exact ⟨0,rfl,Nat.le_refl _,Ow.nil _ _,rfl⟩
 ·have hs:=h.sl
  refine (wnorm_some g 0 n c xs w hs.len hs.le hs.cap ?_).mono ?_
  ·intro i hi
   have:=h.cell (i:=i) (by rw [← h.len]; exact hi)
   simpa using this
  ·rintro e w' ⟨m,ht,rfl,rfl⟩
   have hm:m ≤ n:=by have:=ht.le; rw [h.len] at this; exact this
   refine ⟨m,rfl,hm,?_,rfl⟩
   have:=h.take hm
   rw [ht.limbs ok] at this
   exact this
end Go.Proofs.YtcajmdfcanopnaaDoor
