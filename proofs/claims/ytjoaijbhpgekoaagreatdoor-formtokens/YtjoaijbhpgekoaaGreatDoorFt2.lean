/- Rp1 -/
import Derived.Test.YtjoaijbhpgekoaaGreatDoorBase
namespace Go.Proofs.YtjoaijbhpgekoaaGreatDoor
open Go.RowKit Go.Deep
set_option linter.unusedVariables false
def kdN (c:Nat):Nat:=if 48 ≤ c ∧ c ≤ 57 then 1 else if c = 45 then 2 else if c = 43 then 3 else if c = 47 then 4 else if c = 46 then 5 else if c = 101 ∨ c = 69 then 6 else 0
def byA (s:ByteArray) (i:Nat):Nat:=(s.get! i).toNat
def kdA (s:ByteArray) (i:Nat):Nat:=if i = s.size then 7 else kdN (byA s i)
theorem kdN_lt (c:Nat):kdN c < 7:=by unfold kdN; repeat (first | (split) | omega)
theorem kdA_lt (s:ByteArray) (i:Nat):kdA s i < 8:=by
 unfold kdA
 split
 ·omega
 ·have:=kdN_lt (byA s i); omega
def bhL:List Nat:=[0,0,0,0,0,0,0,0,0,3,2,0,0,0,0,0,0,3,0,0,0,0,0,0,0,3,0,0,4,6,8,11,0,5,0,0,0,0,0,0,0,5,0,0,0,0,0,11,0,7,0,0,0,0,0,0,0,7,0,0,0,0,8,11,0,10,9,9,0,0,0,0,0,10,0,0,0,0,0,0,0,10,0,0,0,0,0,11,0,0,0,0,0,0,0,0]
def nxS (st k:Nat):Nat:=bhL.getD (st * 8 + k) 0
theorem nxS_lt {st k:Nat} (h:st < 12) (hk:k < 8):nxS st k < 12:=by
 have:∀ a:Fin 12,∀ b:Fin 8,nxS a.1 b.1 < 12:=by decide
 exact this ⟨st,h⟩ ⟨k,hk⟩
def stS (s:ByteArray):Nat → Nat
 | 0 => 1
 | i + 1 => nxS (stS s i) (kdA s i)
theorem stS_lt (s:ByteArray):∀ i,stS s i < 12
 | 0 => (by decide:(1:Nat) < 12)
 | i + 1 => nxS_lt (stS_lt s i) (kdA_lt s i)
def lastS (s:ByteArray) (v:Nat):Nat → Nat
 | 0 => 0
 | i + 1 => if stS s (i + 1) = v then i else lastS s v i
def hasS (s:ByteArray) (v:Nat):Nat → Bool
 | 0 => false
 | i + 1 => if stS s (i + 1) = v then true else hasS s v i
theorem lastS_le (s:ByteArray) (v:Nat):∀ i,lastS s v i ≤ i
 | 0 => Nat.le_refl _
 | i + 1 => by
  unfold lastS
  split
  ·omega
  ·have:=lastS_le s v i; omega
def fineS (s:ByteArray) (i:Nat):Prop:=∀ j,j < i → stS s (j + 1) ≠ 0
theorem fineS.next {s:ByteArray} {i:Nat} (h:fineS s i) (k:stS s (i + 1) ≠ 0):fineS s (i + 1):=fun j hj => by
 rcases Nat.lt_or_eq_of_le (Nat.le_of_lt_succ hj) with e | e
 ·exact h j e
 ·rw [e]; exact k
def ltrN (c:Nat):Bool:=decide (97 ≤ c ∧ c ≤ 122 ∨ 65 ≤ c ∧ c ≤ 90 ∨ c = 95)
def dgtN (c:Nat):Bool:=decide (48 ≤ c ∧ c ≤ 57)
def wrdN (c:Nat):Bool:=ltrN c || dgtN c
def lineN (c:Nat):Bool:=decide (c ≠ 10)
structure RunP (p:Nat → Bool) (s:ByteArray) (i j:Nat):Prop where
 le:i ≤ j
 top:j ≤ s.size
 all:∀ q,i ≤ q → q < j → p (byA s q) = true
 stop:j < s.size → p (byA s j) = false
def enF (p:Nat → Bool) (s:ByteArray):Nat → Nat → Nat
 | 0,i => i
 | f + 1,i => if p (byA s i) then enF p s f (i + 1) else i
def enR (p:Nat → Bool) (s:ByteArray) (i:Nat):Nat:=enF p s (s.size - i) i
theorem enF_run (p:Nat → Bool) (s:ByteArray):∀ f i,i + f = s.size → RunP p s i (enF p s f i)
 | 0,i,h => ⟨Nat.le_refl _,by show i ≤ _; omega,fun q h1 h2 => by have:q < i:=h2; omega,fun k => by have:i < s.size:=k; omega⟩
 | f + 1,i,h => by
  unfold enF
  split
  ·rename_i hp
   have r:=enF_run p s f (i + 1) (by omega)
   refine ⟨by have:=r.le; omega,r.top,fun q h1 h2 => ?_,r.stop⟩
   rcases Nat.lt_or_eq_of_le h1 with e | e
   ·exact r.all q e h2
   ·rw [← e]; exact hp
  ·rename_i hp
   exact ⟨Nat.le_refl _,by omega,fun q h1 h2 => by omega,fun _ => by simpa using hp⟩
theorem enR_run (p:Nat → Bool) (s:ByteArray) {i:Nat} (h:i ≤ s.size):RunP p s i (enR p s i):=enF_run p s (s.size - i) i (by omega)
theorem RunP.uniq {p:Nat → Bool} {s:ByteArray} {i j k:Nat} (h:RunP p s i j) (r:RunP p s i k):j = k:=by
 have h1:=h.le
 have r1:=r.le
 rcases Nat.lt_trichotomy j k with e | e | e
 ·have a:=r.all j h1 e
  rw [h.stop (by have:=r.top; omega)] at a
  cases a
 ·exact e
 ·have a:=h.all k r1 e
  rw [r.stop (by have:=h.top; omega)] at a
  cases a
theorem RunP.is {p:Nat → Bool} {s:ByteArray} {i j:Nat} (h:RunP p s i j):enR p s i = j:=(enR_run p s (by have:=h.le; have:=h.top; omega)).uniq h
def pwS (s:ByteArray) (i:Nat):Nat → Nat
 | 0 => 0
 | k + 1 => 10 * pwS s i k + (byA s (i + k) - 48)
def fitD (s:ByteArray) (i j:Nat):Bool:=decide (i < j) && decide ((limbs (pwS s i (j - i))).length ≤ 2048)
def plE (s:ByteArray) (i:Nat):Nat :=
 let n:=enR dgtN s i
 let e:=if n < s.size ∧ byA s n = 46 then (if enR dgtN s (n + 1) = n + 1 then 0 else enR dgtN s (n + 1)) else n
 if 1000 < e - i then 0 else e
def brS (s:ByteArray) (i:Nat):Nat:=if i + 1 < s.size ∧ byA s (i + 1) = 45 then i + 2 else i + 1
def brE (s : ByteArray) (i : Nat) : Nat :=
  let j := brS s i
  let a := enR dgtN s j
  if a < s.size ∧ byA s a = 47 then
    (let k := enR dgtN s (a + 1)
     if k < s.size ∧ byA s k = 93 ∧ fitD s j a = true ∧ fitD s (a + 1) k = true ∧ pwS s (a + 1) (k - (a + 1)) ≠ 0 then k + 1 else 0)
  else if a < s.size ∧ byA s a = 93 ∧ fitD s j a = true then a + 1 else 0
def nuE (s:ByteArray) (i:Nat):Nat:=if byA s i = 91 then brE s i else plE s i
def markN (c:Nat):Bool:=c == 44 || c == 61 || c == 43 || c == 45 || c == 42 || c == 47 || c == 94 || c == 40 || c == 41
def tokE (s:ByteArray) (i:Nat):Nat × Nat :=
 if ltrN (byA s i) then (if 31 < enR wrdN s i - i then (87,0) else (0,enR wrdN s i))
 else if dgtN (byA s i) ∨ byA s i = 91 then
  (if nuE s i = 0 ∨ (nuE s i < s.size ∧ (ltrN (byA s (nuE s i)) = true ∨ byA s (nuE s i) = 46)) then (81,0) else (0,nuE s i))
 else if markN (byA s i) then (0,i + 1) else (80,0)
structure TkS where
 i:Nat
 b:Bool
 l:List ByteArray
def nlB:ByteArray:=⟨#[10]⟩
def tkAdd (s:ByteArray) (st:TkS) (t:ByteArray) (j:Nat) (b:Bool):Nat × TkS:=if st.l.length = 16384 then (85,st) else (0,⟨j,b,st.l ++ [t]⟩)
def stp (s:ByteArray) (st:TkS):Nat × TkS :=
 if byA s st.i = 10 then (if st.b then tkAdd s st nlB (st.i + 1) false else (0,⟨st.i + 1,false,st.l⟩))
 else if byA s st.i = 35 then (0,⟨enR lineN s st.i,st.b,st.l⟩)
 else if byA s st.i = 32 ∨ byA s st.i = 9 ∨ byA s st.i = 13 then (0,⟨st.i + 1,st.b,st.l⟩)
 else if (tokE s st.i).1 ≠ 0 then ((tokE s st.i).1,st)
 else tkAdd s st (s.extract st.i (tokE s st.i).2) (tokE s st.i).2 true
def finT (s:ByteArray) (st:TkS):List ByteArray × Nat × Nat:=if st.b then (if st.l.length = 16384 then ([],s.size,85) else (st.l ++ [nlB],0,0)) else (st.l,0,0)
def runT (s:ByteArray):Nat → TkS → List ByteArray × Nat × Nat
 | 0,st => finT s st
 | f + 1,st => if st.i < s.size then (if (stp s st).1 ≠ 0 then ([],st.i,(stp s st).1) else runT s f (stp s st).2) else finT s st
def TksF (s:ByteArray):List ByteArray × Nat × Nat:=if 65536 < s.size then ([],65536,4) else runT s s.size ⟨0,false,[]⟩
theorem nuE_gt {s:ByteArray} {i:Nat} (hi:i < s.size) (h:nuE s i ≠ 0) (hd:dgtN (byA s i) = true ∨ byA s i = 91):i < nuE s i ∧ nuE s i ≤ s.size:=by
 unfold nuE at h ⊢
 split at h
 ·rename_i h91
  rw [if_pos h91]
  have hj:i < brS s i ∧ brS s i ≤ s.size:=by unfold brS; split <;> omega
  have ha:=enR_run dgtN s hj.2
  have ha1:=ha.le
  have ha2:=ha.top
  unfold brE at h ⊢
  dsimp only at h ⊢
  split
  ·rename_i c
   rw [if_pos c] at h
   have hk:=enR_run dgtN s (i:=enR dgtN s (brS s i) + 1) (by omega)
   have hk1:=hk.le
   split
   ·omega
   ·rename_i c2
    rw [if_neg c2] at h
    exact absurd rfl h
  ·rename_i c
   rw [if_neg c] at h
   split
   ·omega
   ·rename_i c2
    rw [if_neg c2] at h
    exact absurd rfl h
 ·rename_i h91
  rw [if_neg h91]
  have hd':dgtN (byA s i) = true:=hd.resolve_right h91
  have hn:=enR_run dgtN s (i:=i) (by omega)
  have hn1:i < enR dgtN s i:=by
   rcases Nat.lt_or_eq_of_le hn.le with e | e
   ·exact e
   ·have:=hn.stop (by omega)
    rw [← e,hd'] at this
    cases this
  have hn2:=hn.top
  unfold plE at h ⊢
  dsimp only at h ⊢
  by_cases c:enR dgtN s i < s.size ∧ byA s (enR dgtN s i) = 46
  ·rw [if_pos c] at h ⊢
   have hk:=enR_run dgtN s (i:=enR dgtN s i + 1) (by omega)
   have hk1:=hk.le
   have hk2:=hk.top
   by_cases c4:enR dgtN s (enR dgtN s i + 1) = enR dgtN s i + 1
   ·rw [if_pos c4] at h
    split at h <;> exact absurd rfl h
   ·rw [if_neg c4] at h ⊢
    split at h
    ·exact absurd rfl h
    ·rename_i c3
     rw [if_neg c3]
     omega
  ·rw [if_neg c] at h ⊢
   split at h
   ·exact absurd rfl h
   ·rename_i c3
    rw [if_neg c3]
    omega
theorem tok_gt {s:ByteArray} {i:Nat} (hi:i < s.size) (h:(tokE s i).1 = 0):i < (tokE s i).2 ∧ (tokE s i).2 ≤ s.size:=by
 unfold tokE at h ⊢
 by_cases c1:ltrN (byA s i) = true
 ·rw [if_pos c1] at h ⊢
  have hn:=enR_run wrdN s (i:=i) (by omega)
  have hn2:=hn.top
  have hn1:i < enR wrdN s i:=by
   rcases Nat.lt_or_eq_of_le hn.le with e | e
   ·exact e
   ·have:=hn.stop (by omega)
    rw [← e] at this
    unfold wrdN at this
    rw [c1] at this
    cases this
  split at h
  ·cases h
  ·rename_i c
   rw [if_neg c]
   exact ⟨hn1,hn2⟩
 ·rw [if_neg c1] at h ⊢
  split at h
  ·rename_i c2
   rw [if_pos c2]
   split at h
   ·cases h
   ·rename_i c3
    rw [if_neg c3]
    exact nuE_gt hi (fun e => c3 (.inl e)) c2
  ·rename_i c2
   rw [if_neg c2]
   split at h
   ·rename_i c3
    rw [if_pos c3]
    exact ⟨by show i < i + 1; omega,by show i + 1 ≤ _; omega⟩
   ·cases h
theorem stp_gt {s:ByteArray} {st:TkS} (hi:st.i < s.size) (h:(stp s st).1 = 0):st.i < (stp s st).2.i ∧ (stp s st).2.i ≤ s.size:=by
 unfold stp at h ⊢
 by_cases c1:byA s st.i = 10
 ·rw [if_pos c1] at h ⊢
  split
  ·rename_i c2
   rw [if_pos c2] at h
   unfold tkAdd at h ⊢
   split
   ·rename_i c3
    rw [if_pos c3] at h
    cases h
   ·exact ⟨by show st.i < st.i + 1; omega,by show st.i + 1 ≤ _; omega⟩
  ·exact ⟨by show st.i < st.i + 1; omega,by show st.i + 1 ≤ _; omega⟩
 ·rw [if_neg c1] at h ⊢
  by_cases c2:byA s st.i = 35
  ·rw [if_pos c2] at h ⊢
   have hn:=enR_run lineN s (i:=st.i) (by omega)
   refine ⟨?_,hn.top⟩
   show st.i < enR lineN s st.i
   rcases Nat.lt_or_eq_of_le hn.le with e | e
   ·exact e
   ·have:=hn.stop (by omega)
    rw [← e,c2] at this
    cases this
  ·rw [if_neg c2] at h ⊢
   by_cases c3:byA s st.i = 32 ∨ byA s st.i = 9 ∨ byA s st.i = 13
   ·rw [if_pos c3]
    exact ⟨by show st.i < st.i + 1; omega,by show st.i + 1 ≤ _; omega⟩
   ·rw [if_neg c3] at h ⊢
    by_cases c4:(tokE s st.i).1 ≠ 0
    ·rw [if_pos c4] at h
     exact absurd h c4
    ·rw [if_neg c4] at h ⊢
     have hg:=tok_gt hi (by omega)
     unfold tkAdd at h ⊢
     split
     ·rename_i c5
      rw [if_pos c5] at h
      cases h
     ·exact hg
theorem runT_more {s:ByteArray}:∀ (f:Nat) (st:TkS),st.i ≤ s.size → s.size - st.i ≤ f → runT s (s.size - st.i) st = runT s f st
 | 0,st,h1,h2 => by rw [show s.size - st.i = 0 by omega]
 | f + 1,st,h1,h2 => by
  by_cases c:st.i < s.size
  ·obtain ⟨d,hd⟩:∃ d,s.size - st.i = d + 1:=⟨s.size - st.i - 1,by omega⟩
   rw [hd]
   unfold runT
   rw [if_pos c,if_pos c]
   by_cases c2:(stp s st).1 ≠ 0
   ·rw [if_pos c2,if_pos c2]
   ·rw [if_neg c2,if_neg c2]
    have hg:=stp_gt c (by omega)
    rw [← runT_more f _ hg.2 (by omega),← runT_more d _ hg.2 (by omega)]
  ·have e:s.size - st.i = 0:=by omega
   rw [e]
   unfold runT
   rw [if_neg c]
def resT (s:ByteArray) (st:TkS):List ByteArray × Nat × Nat:=runT s (s.size - st.i) st
theorem resT_end {s:ByteArray} {st:TkS} (h:st.i = s.size):resT s st = finT s st:=by
 unfold resT
 rw [show s.size - st.i = 0 by omega]
 rfl
theorem resT_bad {s:ByteArray} {st:TkS} (h:st.i < s.size) (k:(stp s st).1 ≠ 0):resT s st = ([],st.i,(stp s st).1):=by
 unfold resT
 obtain ⟨d,hd⟩:∃ d,s.size - st.i = d + 1:=⟨s.size - st.i - 1,by omega⟩
 rw [hd]
 unfold runT
 rw [if_pos h,if_pos k]
theorem resT_go {s:ByteArray} {st:TkS} (h:st.i < s.size) (k:(stp s st).1 = 0):resT s st = resT s (stp s st).2:=by
 have hg:=stp_gt h k
 unfold resT
 obtain ⟨d,hd⟩:∃ d,s.size - st.i = d + 1:=⟨s.size - st.i - 1,by omega⟩
 rw [hd,runT_more d _ hg.2 (by omega)]
 conv => lhs; unfold runT
 rw [if_pos h,if_neg (by omega)]
theorem tksF_is {s:ByteArray} (h:s.size ≤ 65536):TksF s = resT s ⟨0,false,[]⟩:=by
 unfold TksF resT
 rw [if_neg (by omega)]
 rfl
theorem byA_get (s:ByteArray) (i:Nat) (h:i < s.size):((s[i]'h).toNat:Int) = (byA s i:Int):=by
 unfold byA
 have:s.get! i = s[i]'h:=by
  show s.data[i]! = s.data[i]
  exact getElem!_pos s.data i h
 rw [this]
theorem byte_cases (c:Nat):c = 48 ∨ c = 49 ∨ c = 50 ∨ c = 51 ∨ c = 52 ∨ c = 53 ∨ c = 54 ∨ c = 55 ∨ c = 56 ∨ c = 57 ∨ c = 45 ∨ c = 43 ∨ c = 47 ∨ c = 46 ∨ c = 101 ∨ c = 69 ∨ (c ≠ 48 ∧ c ≠ 49 ∧ c ≠ 50 ∧ c ≠ 51 ∧ c ≠ 52 ∧ c ≠ 53 ∧ c ≠ 54 ∧ c ≠ 55 ∧ c ≠ 56 ∧ c ≠ 57 ∧ c ≠ 45 ∧ c ≠ 43 ∧ c ≠ 47 ∧ c ≠ 46 ∧ c ≠ 101 ∧ c ≠ 69):=by
 by_cases h48:c = 48
 ·exact .inl h48
 by_cases h49:c = 49
 ·exact .inr (.inl h49)
 by_cases h50:c = 50
 ·exact .inr (.inr (.inl h50))
 by_cases h51:c = 51
 ·exact .inr (.inr (.inr (.inl h51)))
 by_cases h52:c = 52
 ·exact .inr (.inr (.inr (.inr (.inl h52))))
 by_cases h53:c = 53
 ·exact .inr (.inr (.inr (.inr (.inr (.inl h53)))))
 by_cases h54:c = 54
 ·exact .inr (.inr (.inr (.inr (.inr (.inr (.inl h54))))))
 by_cases h55:c = 55
 ·exact .inr (.inr (.inr (.inr (.inr (.inr (.inr (.inl h55)))))))
 by_cases h56:c = 56
 ·exact .inr (.inr (.inr (.inr (.inr (.inr (.inr (.inr (.inl h56))))))))
 by_cases h57:c = 57
 ·exact .inr (.inr (.inr (.inr (.inr (.inr (.inr (.inr (.inr (.inl h57)))))))))
 by_cases h45:c = 45
 ·exact .inr (.inr (.inr (.inr (.inr (.inr (.inr (.inr (.inr (.inr (.inl h45))))))))))
 by_cases h43:c = 43
 ·exact .inr (.inr (.inr (.inr (.inr (.inr (.inr (.inr (.inr (.inr (.inr (.inl h43)))))))))))
 by_cases h47:c = 47
 ·exact .inr (.inr (.inr (.inr (.inr (.inr (.inr (.inr (.inr (.inr (.inr (.inr (.inl h47))))))))))))
 by_cases h46:c = 46
 ·exact .inr (.inr (.inr (.inr (.inr (.inr (.inr (.inr (.inr (.inr (.inr (.inr (.inr (.inl h46)))))))))))))
 by_cases h101:c = 101
 ·exact .inr (.inr (.inr (.inr (.inr (.inr (.inr (.inr (.inr (.inr (.inr (.inr (.inr (.inr (.inl h101))))))))))))))
 by_cases h69:c = 69
 ·exact .inr (.inr (.inr (.inr (.inr (.inr (.inr (.inr (.inr (.inr (.inr (.inr (.inr (.inr (.inr (.inl h69)))))))))))))))
 exact .inr (.inr (.inr (.inr (.inr (.inr (.inr (.inr (.inr (.inr (.inr (.inr (.inr (.inr (.inr (.inr (⟨h48,h49,h50,h51,h52,h53,h54,h55,h56,h57,h45,h43,h47,h46,h101,h69⟩))))))))))))))))
set_option maxHeartbeats 4000000 in
theorem kindAt_any (s:ByteArray) (i:Nat) (w:World) (hs:s.size ≤ 65536) (hi:i ≤ s.size) :
  Calls Tryz.prog 54 #[.string s,.int .i64 (i:Nat)] w fun e w' => e = .returned (.int .i64 (kdA s i:Nat)) ∧ w' = w:=by
 by_cases e:i = s.size
 ·have hk:kdA s i = 7:=by unfold kdA; rw [if_pos e]
  rw [hk]
  have t0:((i:Int) == (s.size:Int)) = true:=by simp [e]
  clear hk e
  go_enter Tryz.func54,Tryz.ntmps54
  go_wp2_with fail
  go_ret
  exact ⟨rfl,rfl⟩
 ·have hlt:i < s.size:=by omega
  have hlt':(i:Int) < (s.size:Int):=by omega
  have t0:((i:Int) == (s.size:Int)) = false:=by simp; omega
  have hk:kdA s i = kdN (byA s i):=by unfold kdA; rw [if_neg e]
  rw [hk]
  have hg:=byA_get s i hlt
  clear hk e
  generalize byA s i = c at *
  rcases byte_cases c with rfl | rfl | rfl | rfl | rfl | rfl | rfl | rfl | rfl | rfl | rfl | rfl | rfl | rfl | rfl | rfl | hn
  ·have hv:((s[i]'hlt).toNat:Int) = 48:=hg
   clear hg
   go_enter Tryz.func54,Tryz.ntmps54
   go_wp2_with fail
   go_ret
   exact ⟨rfl,rfl⟩
  ·have hv:((s[i]'hlt).toNat:Int) = 49:=hg
   clear hg
   go_enter Tryz.func54,Tryz.ntmps54
   go_wp2_with fail
   go_ret
   exact ⟨rfl,rfl⟩
  ·have hv:((s[i]'hlt).toNat:Int) = 50:=hg
   clear hg
   go_enter Tryz.func54,Tryz.ntmps54
   go_wp2_with fail
   go_ret
   exact ⟨rfl,rfl⟩
  ·have hv:((s[i]'hlt).toNat:Int) = 51:=hg
   clear hg
   go_enter Tryz.func54,Tryz.ntmps54
   go_wp2_with fail
   go_ret
   exact ⟨rfl,rfl⟩
  ·have hv:((s[i]'hlt).toNat:Int) = 52:=hg
   clear hg
   go_enter Tryz.func54,Tryz.ntmps54
   go_wp2_with fail
   go_ret
   exact ⟨rfl,rfl⟩
  ·have hv:((s[i]'hlt).toNat:Int) = 53:=hg
   clear hg
   go_enter Tryz.func54,Tryz.ntmps54
   go_wp2_with fail
   go_ret
   exact ⟨rfl,rfl⟩
  ·have hv:((s[i]'hlt).toNat:Int) = 54:=hg
   clear hg
   go_enter Tryz.func54,Tryz.ntmps54
   go_wp2_with fail
   go_ret
   exact ⟨rfl,rfl⟩
  ·have hv:((s[i]'hlt).toNat:Int) = 55:=hg
   clear hg
   go_enter Tryz.func54,Tryz.ntmps54
   go_wp2_with fail
   go_ret
   exact ⟨rfl,rfl⟩
  ·have hv:((s[i]'hlt).toNat:Int) = 56:=hg
   clear hg
   go_enter Tryz.func54,Tryz.ntmps54
   go_wp2_with fail
   go_ret
   exact ⟨rfl,rfl⟩
  ·have hv:((s[i]'hlt).toNat:Int) = 57:=hg
   clear hg
   go_enter Tryz.func54,Tryz.ntmps54
   go_wp2_with fail
   go_ret
   exact ⟨rfl,rfl⟩
  ·have hv:((s[i]'hlt).toNat:Int) = 45:=hg
   clear hg
   go_enter Tryz.func54,Tryz.ntmps54
   go_wp2_with fail
   go_ret
   exact ⟨rfl,rfl⟩
  ·have hv:((s[i]'hlt).toNat:Int) = 43:=hg
   clear hg
   go_enter Tryz.func54,Tryz.ntmps54
   go_wp2_with fail
   go_ret
   exact ⟨rfl,rfl⟩
  ·have hv:((s[i]'hlt).toNat:Int) = 47:=hg
   clear hg
   go_enter Tryz.func54,Tryz.ntmps54
   go_wp2_with fail
   go_ret
   exact ⟨rfl,rfl⟩
  ·have hv:((s[i]'hlt).toNat:Int) = 46:=hg
   clear hg
   go_enter Tryz.func54,Tryz.ntmps54
   go_wp2_with fail
   go_ret
   exact ⟨rfl,rfl⟩
  ·have hv:((s[i]'hlt).toNat:Int) = 101:=hg
   clear hg
   go_enter Tryz.func54,Tryz.ntmps54
   go_wp2_with fail
   go_ret
   exact ⟨rfl,rfl⟩
  ·have hv:((s[i]'hlt).toNat:Int) = 69:=hg
   clear hg
   go_enter Tryz.func54,Tryz.ntmps54
   go_wp2_with fail
   go_ret
   exact ⟨rfl,rfl⟩
  ·obtain ⟨n48,n49,n50,n51,n52,n53,n54,n55,n56,n57,n45,n43,n47,n46,n101,n69⟩:=hn
   have t48:((c:Int) == 48) = false:=by simp; omega
   have t49:((c:Int) == 49) = false:=by simp; omega
   have t50:((c:Int) == 50) = false:=by simp; omega
   have t51:((c:Int) == 51) = false:=by simp; omega
   have t52:((c:Int) == 52) = false:=by simp; omega
   have t53:((c:Int) == 53) = false:=by simp; omega
   have t54:((c:Int) == 54) = false:=by simp; omega
   have t55:((c:Int) == 55) = false:=by simp; omega
   have t56:((c:Int) == 56) = false:=by simp; omega
   have t57:((c:Int) == 57) = false:=by simp; omega
   have t45:((c:Int) == 45) = false:=by simp; omega
   have t43:((c:Int) == 43) = false:=by simp; omega
   have t47:((c:Int) == 47) = false:=by simp; omega
   have t46:((c:Int) == 46) = false:=by simp; omega
   have t101:((c:Int) == 101) = false:=by simp; omega
   have t69:((c:Int) == 69) = false:=by simp; omega
   have hk0:kdN c = 0:=by unfold kdN; rw [if_neg (by omega),if_neg n45,if_neg n43,if_neg n47,if_neg n46,if_neg (by omega)]
   rw [hk0]
   clear n48 n49 n50 n51 n52 n53 n54 n55 n56 n57 n45 n43 n47 n46 n101 n69 hk0
   go_enter Tryz.func54,Tryz.ntmps54
   go_wp2_with fail
   go_ret
   exact ⟨rfl,rfl⟩
set_option maxHeartbeats 4000000 in
theorem fdigit_any (c:Nat) (w:World):Calls Tryz.prog 18 #[.int .u8 (c:Nat)] w fun e w' => e = .returned (.bool (dgtN c)) ∧ w' = w:=by
 have hD:∀ b,decide (48 ≤ c ∧ c ≤ 57) = b → dgtN c = b:=fun b h => h
 by_cases a1:(48:Int) ≤ (c:Int) <;> by_cases a2:(c:Int) ≤ (57:Int)
 all_goals
  have HD:=Hj hD
  clear hD
  go_enter Tryz.func18,Tryz.ntmps18
  go_wp2_with fail
  go_ret
  refine ⟨?_,rfl⟩
  rw [Uh HD _ rfl]
  congr 2
  simp
  try omega
set_option maxHeartbeats 4000000 in
theorem fletter_any (c : Nat) (w : World) : Calls Tryz.prog 20 #[.int .u8 (c : Nat)] w fun e w' => e = .returned (.bool (ltrN c)) ∧ w' = w := by
  have hD : ∀ b, decide (97 ≤ c ∧ c ≤ 122 ∨ 65 ≤ c ∧ c ≤ 90 ∨ c = 95) = b → ltrN c = b := fun b h => h
  by_cases a1 : (97:Int) ≤ (c:Int) <;> by_cases a2 : (c:Int) ≤ (122:Int) <;> by_cases a3 : (65:Int) ≤ (c:Int) <;> by_cases a4 : (c:Int) ≤ (90:Int) <;> by_cases a5 : ((c:Int) == 95) = true
  all_goals
    first
    | (exfalso; simp at a5; omega)
    | (have a6 : c = 95 ∨ c ≠ 95 := by omega
       have HD := hide hD
       have HA := hide (And.intro a1 (And.intro a2 (And.intro a3 (And.intro a4 a5))))
       clear hD a6
       go_enter Tryz.func20, Tryz.ntmps20
       go_wp2_with fail
       go_ret
       refine ⟨?_, rfl⟩
       rw [unhide HD _ rfl]
       obtain ⟨b1, b2, b3, b4, b5⟩ := unhide HA
       congr 2
       simp at b5
       simp
       omega)
set_option maxHeartbeats 4000000 in
theorem w4digit_any (c:Nat) (w:World):Calls Tryz.prog 24 #[.int .u8 (c:Nat)] w fun e w' => e = .returned (.bool (dgtN c)) ∧ w' = w:=by
 have hD:∀ b,decide (48 ≤ c ∧ c ≤ 57) = b → dgtN c = b:=fun b h => h
 by_cases a1:(48:Int) ≤ (c:Int) <;> by_cases a2:(c:Int) ≤ (57:Int)
 all_goals
  have HD:=Hj hD
  clear hD
  go_enter Tryz.func24,Tryz.ntmps24
  go_wp2_with fail
  go_ret
  refine ⟨?_,rfl⟩
  rw [Uh HD _ rfl]
  congr 2
  simp
  try omega
set_option maxHeartbeats 4000000 in
theorem w4letter_any (c : Nat) (w : World) : Calls Tryz.prog 23 #[.int .u8 (c : Nat)] w fun e w' => e = .returned (.bool (ltrN c)) ∧ w' = w := by
  have hD : ∀ b, decide (97 ≤ c ∧ c ≤ 122 ∨ 65 ≤ c ∧ c ≤ 90 ∨ c = 95) = b → ltrN c = b := fun b h => h
  by_cases a1 : (97:Int) ≤ (c:Int) <;> by_cases a2 : (c:Int) ≤ (122:Int) <;> by_cases a3 : (65:Int) ≤ (c:Int) <;> by_cases a4 : (c:Int) ≤ (90:Int) <;> by_cases a5 : ((c:Int) == 95) = true
  all_goals
    first
    | (exfalso; simp at a5; omega)
    | (have a6 : c = 95 ∨ c ≠ 95 := by omega
       have HD := hide hD
       have HA := hide (And.intro a1 (And.intro a2 (And.intro a3 (And.intro a4 a5))))
       clear hD a6
       go_enter Tryz.func23, Tryz.ntmps23
       go_wp2_with fail
       go_ret
       refine ⟨?_, rfl⟩
       rw [unhide HD _ rfl]
       obtain ⟨b1, b2, b3, b4, b5⟩ := unhide HA
       congr 2
       simp at b5
       simp
       omega)
set_option maxRecDepth 20000 in
set_option maxHeartbeats 4000000 in
theorem fdsize_any (s:ByteArray) (w:World) (hs:s.size ≤ 65536):Calls Tryz.prog 30 #[.string s] w fun e w' => e = .returned (.int .i64 (enR dgtN s 0:Nat)) ∧ w' = w:=by
 have hr:=enR_run dgtN s (i:=0) (by omega)
 generalize enR dgtN s 0 = j at *
 have HR:=Hj hr
 have hj:=hr.top
 have hl:=hr.le
 clear hr
 go_enter Tryz.func30,Tryz.ntmps30
 go_wp2_with fail
 go_loopw [3] (fun iv wr => ∃ q:Nat,q ≤ j ∧ iv = .int .i64 (q:Nat) ∧ Hid (wr = w)) (fun iv _ => s.size - (intOf iv).toNat)
 case atStart => exact ⟨0,Nat.zero_le _,rfl,rfl⟩
 case round =>
  obtain ⟨q,h1,rfl,HW⟩:=hrel
  obtain rfl:=(Uh HW).symm
  clear HW
  by_cases hlt:q < s.size
  ·have hlt':(q:Int) < (s.size:Int):=by omega
   have e:=byA_get s q hlt
   have e2:(s[q]'hlt).toNat = byA s q:=by omega
   have KD:=fdigit_any (s[q]'hlt).toNat w
   clear e
   by_cases hq:q < j
   ·have hv:=(Uh HR).all q (by omega) (by omega)
    rw [← e2] at hv
    rw [hv] at KD
    have HD:=Hj KD
    clear KD hv e2
    go_wp2_with fail
    refine (Uh HD).mono ?_
    rintro _ _ ⟨rfl,hw⟩
    obtain rfl:=hw.symm
    clear hw
    go_wp2_with fail
    exact ⟨⟨q + 1,by omega,by (first | rfl | go_num),Hj trivial⟩,by simp [intOf]; omega⟩
   ·have hq2:q = j:=by omega
    subst hq2
    have hv:=(Uh HR).stop hlt
    rw [← e2] at hv
    rw [hv] at KD
    have HD:=Hj KD
    clear KD hv e2
    go_wp2_with fail
    refine (Uh HD).mono ?_
    rintro _ _ ⟨rfl,hw⟩
    obtain rfl:=hw.symm
    clear hw
    go_wp2_with fail
    go_ret
    exact ⟨rfl,rfl⟩
  ·have hq2:q = j:=by omega
   subst hq2
   have hlt':¬ (q:Int) < (s.size:Int):=by omega
   go_wp2_with fail
   go_ret
   exact ⟨rfl,rfl⟩
set_option maxRecDepth 20000 in
set_option maxHeartbeats 4000000 in
theorem fwsize_any (s:ByteArray) (w:World) (hs:s.size ≤ 65536):Calls Tryz.prog 22 #[.string s] w fun e w' => e = .returned (.int .i64 (enR wrdN s 0:Nat)) ∧ w' = w:=by
 have hr:=enR_run wrdN s (i:=0) (by omega)
 generalize enR wrdN s 0 = j at *
 have HR:=Hj hr
 have hj:=hr.top
 have hl:=hr.le
 clear hr
 go_enter Tryz.func22,Tryz.ntmps22
 go_wp2_with fail
 go_loopw [3] (fun iv wr => ∃ q:Nat,q ≤ j ∧ iv = .int .i64 (q:Nat) ∧ Hid (wr = w)) (fun iv _ => s.size - (intOf iv).toNat)
 case atStart => exact ⟨0,Nat.zero_le _,rfl,rfl⟩
 case round =>
  obtain ⟨q,h1,rfl,HW⟩:=hrel
  obtain rfl:=(Uh HW).symm
  clear HW
  by_cases hlt:q < s.size
  ·have hlt':(q:Int) < (s.size:Int):=by omega
   have e:=byA_get s q hlt
   have e2:(s[q]'hlt).toNat = byA s q:=by omega
   have KL:=fletter_any (s[q]'hlt).toNat w
   have KD:=fdigit_any (s[q]'hlt).toNat w
   clear e
   by_cases hq:q < j
   ·have hv:=(Uh HR).all q (by omega) (by omega)
    rw [← e2] at hv
    unfold wrdN at hv
    have HD:=Hj KD
    clear KD
    by_cases hL:ltrN (s[q]'hlt).toNat = true
    ·rw [hL] at KL
     have HL:=Hj KL
     clear KL hv e2
     go_wp2_with fail
     refine (Uh HL).mono ?_
     rintro _ _ ⟨rfl,hw⟩
     obtain rfl:=hw.symm
     clear hw
     go_wp2_with fail
     exact ⟨⟨q + 1,by omega,by (first | rfl | go_num),Hj trivial⟩,by simp [intOf]; omega⟩
    ·have hL2:ltrN (s[q]'hlt).toNat = false:=by simpa using hL
     rw [hL2,Bool.false_or] at hv
     rw [hL2] at KL
     have KD2:=Uh HD
     rw [hv] at KD2
     have HD2:=Hj KD2
     have HL:=Hj KL
     clear KL hv KD2 HD hL hL2 e2
     go_wp2_with fail
     refine (Uh HL).mono ?_
     rintro _ _ ⟨rfl,hw⟩
     obtain rfl:=hw.symm
     clear hw
     go_wp2_with fail
     refine (Uh HD2).mono ?_
     rintro _ _ ⟨rfl,hw⟩
     obtain rfl:=hw.symm
     clear hw
     go_wp2_with fail
     exact ⟨⟨q + 1,by omega,by (first | rfl | go_num),Hj trivial⟩,by simp [intOf]; omega⟩
   ·have hq2:q = j:=by omega
    subst hq2
    have hv:=(Uh HR).stop hlt
    rw [← e2] at hv
    unfold wrdN at hv
    rw [Bool.or_eq_false_iff] at hv
    rw [hv.1] at KL
    rw [hv.2] at KD
    have HL:=Hj KL
    have HD:=Hj KD
    clear KL KD hv e2
    go_wp2_with fail
    refine (Uh HL).mono ?_
    rintro _ _ ⟨rfl,hw⟩
    obtain rfl:=hw.symm
    clear hw
    go_wp2_with fail
    refine (Uh HD).mono ?_
    rintro _ _ ⟨rfl,hw⟩
    obtain rfl:=hw.symm
    clear hw
    go_wp2_with fail
    go_ret
    exact ⟨rfl,rfl⟩
  ·have hq2:q = j:=by omega
   subst hq2
   have hlt':¬ (q:Int) < (s.size:Int):=by omega
   go_wp2_with fail
   go_ret
   exact ⟨rfl,rfl⟩
set_option maxRecDepth 20000 in
set_option maxHeartbeats 4000000 in
theorem w4dfrom_any (s:ByteArray) (a:Nat) (w:World) (hs:s.size ≤ 65536) (ha:a ≤ s.size):Calls Tryz.prog 32 #[.string s,.int .i64 (a:Nat)] w fun e w' => e = .returned (.int .i64 (enR dgtN s a - a:Nat)) ∧ w' = w:=by
 have hr:=enR_run dgtN s (i:=a) (by omega)
 generalize enR dgtN s a = j at *
 have HR:=Hj hr
 have hj:=hr.top
 have hl:=hr.le
 obtain ⟨d,hd⟩:∃ d,j = a + d:=⟨j - a,by omega⟩
 subst hd
 rw [show a + d - a = d by omega]
 clear hr
 go_enter Tryz.func32,Tryz.ntmps32
 go_wp2_with fail
 go_loopw [5] (fun iv wr => ∃ q:Nat,q ≤ d ∧ iv = .int .i64 (q:Nat) ∧ Hid (wr = w)) (fun iv _ => s.size - (intOf iv).toNat)
 case atStart => exact ⟨0,Nat.zero_le _,rfl,rfl⟩
 case round =>
  obtain ⟨q,h1,rfl,HW⟩:=hrel
  obtain rfl:=(Uh HW).symm
  clear HW
  by_cases hlt:(a + q) < s.size
  ·have hlt':(a:Int) + (q:Int) < (s.size:Int):=by omega
   have e:=byA_get s (a + q) hlt
   have e2:(s[(a + q)]'hlt).toNat = byA s (a + q):=by omega
   have KD:=w4digit_any (s[(a + q)]'hlt).toNat w
   clear e
   by_cases hq:q < d
   ·have hv:=(Uh HR).all (a + q) (by omega) (by omega)
    rw [← e2] at hv
    rw [hv] at KD
    have HD:=Hj KD
    clear KD hv e2
    go_wp2_with fail
    refine (Uh HD).mono ?_
    rintro _ _ ⟨rfl,hw⟩
    obtain rfl:=hw.symm
    clear hw
    go_wp2_with fail
    exact ⟨⟨q + 1,by omega,by (first | rfl | go_num),Hj trivial⟩,by simp [intOf]; omega⟩
   ·have hq2:q = d:=by omega
    subst hq2
    have hv:=(Uh HR).stop hlt
    rw [← e2] at hv
    rw [hv] at KD
    have HD:=Hj KD
    clear KD hv e2
    go_wp2_with fail
    refine (Uh HD).mono ?_
    rintro _ _ ⟨rfl,hw⟩
    obtain rfl:=hw.symm
    clear hw
    go_wp2_with fail
    go_ret
    exact ⟨rfl,rfl⟩
  ·have hq2:q = d:=by omega
   subst hq2
   have hlt':¬ (a:Int) + (q:Int) < (s.size:Int):=by omega
   go_wp2_with fail
   go_ret
   exact ⟨rfl,rfl⟩
end Go.Proofs.YtjoaijbhpgekoaaGreatDoor
