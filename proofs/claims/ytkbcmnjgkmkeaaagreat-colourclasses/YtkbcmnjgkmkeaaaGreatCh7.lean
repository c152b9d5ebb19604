/- Ch7 -/
import Derived.Test.YtkbcmnjgkmkeaaaGreatCh6
namespace Go.Proofs.YtkbcmnjgkmkeaaaGreat
open Go.RowKit Go.Deep
set_option linter.unusedVariables false
def TwP (cs:Nat → Int) (l:List Int) (u:Nat):Prop:=∃ x ∈ l,x ≠ (u:Int) ∧ cs x.toNat = cs u
set_option maxRecDepth 100000 in
set_option maxHeartbeats 16000000 in
theorem ctwin1_any (X R g x u:Nat) (cs:Nat → Int) (ub pb:Nat) (w:World) (h13:w.cell? ⟨X,13,none⟩ = some (.slice (some ⟨g,0,none⟩) R R)) (hcol:RoV w g R (fun i => .int .i64 (cs i))) (hx:x < R) (hu:u < R) (hR:R ≤ 128) (a0:w.cell? ⟨pb,0,none⟩ = some (.pointer (some ⟨X,0,none⟩))) (u0:w.cell? ⟨ub,0,none⟩ = some (.int .i64 (u:Int))) (ok:Bool) (hok:TruQ ok (x ≠ u ∧ cs x = cs u)) :
  Calls Tryz.prog 96 #[.int .i64 (x:Int),.pointer (some ⟨ub,0,none⟩),.pointer (some ⟨pb,0,none⟩)] w fun e w' => e = .returned (.bool ok) ∧ Below w.heap.size w w':=by
 have cx:=(hcol x hx).1
 have cu:=(hcol u hu).1
 have hx':(x:Int) < (R:Int):=by omega
 have hu':(u:Int) < (R:Int):=by omega
 obtain ⟨y,hy⟩:∃ y,cs x = y:=⟨_,rfl⟩
 obtain ⟨z,hz⟩:∃ z,cs u = z:=⟨_,rfl⟩
 simp only [hy] at cx
 simp only [hz] at cu
 rw [hy,hz] at hok
 have HOK:=Hj hok
 clear hcol hok hy hz
 by_cases hxu:x = u
 ·have e1:((x:Int) != (u:Int)) = false:=by simp [hxu]
  have hk:ok = false:=by
   cases hk2:ok
   ·rfl
   ·exact absurd hxu (Iff.mp (Uh HOK) hk2).1
  subst hk
  clear hxu
  go_enter Tryz.func96,Tryz.ntmps96
  go_wp2_with fail
  try go_quiet (fail)
  all_goals (try go_wp2_with fail)
  all_goals (try go_ret)
  all_goals exact ⟨rfl,by first | exact Below.refl _ _ | exact bel_drewN (Below.refl _ _) _⟩
 ·have e1:((x:Int) != (u:Int)) = true:=by simp; omega
  have hk:ok = (y == z):=by
   by_cases e:y = z
   ·rw [Iff.mpr (Uh HOK) ⟨hxu,e⟩]; simp [e]
   ·cases hk2:ok
    ·simp [e]
    ·exact absurd (Iff.mp (Uh HOK) hk2).2 e
  subst hk
  clear hxu HOK
  go_enter Tryz.func96,Tryz.ntmps96
  go_wp2_with fail
  try go_quiet (fail)
  all_goals (try go_wp2_with fail)
  all_goals (try go_ret)
  all_goals exact ⟨rfl,by first | exact Below.refl _ _ | exact bel_drewN (Below.refl _ _) _⟩
set_option maxRecDepth 20000 in
set_option maxHeartbeats 8000000 in
theorem cindexF_any (a:Option Addr) (n c:Nat) (xs:List Int) (T:Nat → Bool) (ub pb:Nat) (w:World) (h:SlI w a n c xs) (hn:n ≤ 17592186044416) (hf:∀ (W:World) (k:Nat),Below w.heap.size w W → k < n → Calls Tryz.prog 96 #[.int .i64 (xs.getD k 0),.pointer (some ⟨ub,0,none⟩),.pointer (some ⟨pb,0,none⟩)] W fun e w' => e = .returned (.bool (T k)) ∧ Below W.heap.size W w') :
  Calls Tryz.prog 74 #[.slice a n c,.func (.func 96) #[] #[.pointer (some ⟨ub,0,none⟩),.pointer (some ⟨pb,0,none⟩)]] w fun e w' => ∃ z:Int,e = .returned (.int .i64 z) ∧ (0 ≤ z ↔ ∃ k,k < n ∧ T k = true) ∧ Below w.heap.size w w':=by
 have HS:=Hj h
 have HF:=Hj hf
 clear h hf
 go_enter Tryz.func74,Tryz.ntmps74
 go_wp2_with fail
 go_loopw [8,5] (fun iv _ wr => ∃ i:Nat,i ≤ n ∧ iv = .int .i64 (i:Int) ∧ Hid (∀ k,k < i → T k = false) ∧ Hid (Below w.heap.size w wr)) (fun iv _ _ => n - (intOf iv).toNat)
 case atStart => exact ⟨0,Nat.zero_le _,rfl,Hj (fun k hk => by omega),Hj (Below.refl _ _)⟩
 case round =>
  obtain ⟨i,hi,rfl,HA,HW⟩:=hrel
  by_cases hlt:i < n
  ·have hlt':(i:Int) < (n:Int):=by omega
   obtain ⟨b,off,rfl,hc⟩:=((Uh HS).below (Uh HW)).at (by omega)
   have hx:=hc i hlt
   have K:=Uh HF wr i (Uh HW) hlt
   obtain ⟨x,hxx⟩:∃ x,xs.getD i 0 = x:=⟨_,rfl⟩
   rw [hxx] at hx K
   obtain ⟨t,ht⟩:∃ t,T i = t:=⟨_,rfl⟩
   rw [ht] at K
   have HK:=Hj K
   have HT:=Hj ht
   clear hc hxx K ht
   go_wp2_with fail
   refine (Uh HK).mono ?_
   rintro _ w2 ⟨rfl,b2⟩
   have HW2:=Hj ((Uh HW).trans (b2.mono (Uh HW).size))
   clear b2 HK hx
   cases t
   ·go_wp2_with fail
    refine ⟨⟨i + 1,by omega,by (first | rfl | go_num),Hj (fun k hk => ?_),HW2⟩,by simp [intOf]; omega⟩
    by_cases e:k = i
    ·rw [e]; exact Uh HT
    ·exact Uh HA k (by omega)
   ·go_wp2_with fail
    try go_ret
    exact ⟨_,rfl,⟨fun _ => ⟨i,hlt,Uh HT⟩,fun _ => by omega⟩,Uh HW2⟩
  ·obtain rfl:i = n:=by omega
   have hlt':¬ (i:Int) < (i:Int):=by omega
   go_wp2_with fail
   try go_ret
   exact ⟨_,rfl,⟨fun h => by omega,fun ⟨k,hk,e⟩ => by rw [Uh HA k hk] at e; cases e⟩,Uh HW⟩
set_option maxRecDepth 20000 in
set_option maxHeartbeats 8000000 in
theorem ccontF_any (a:Option Addr) (n c:Nat) (xs:List Int) (T:Nat → Bool) (ub pb:Nat) (w:World) (h:SlI w a n c xs) (hn:n ≤ 17592186044416) (hf:∀ (W:World) (k:Nat),Below w.heap.size w W → k < n → Calls Tryz.prog 96 #[.int .i64 (xs.getD k 0),.pointer (some ⟨ub,0,none⟩),.pointer (some ⟨pb,0,none⟩)] W fun e w' => e = .returned (.bool (T k)) ∧ Below W.heap.size W w') (ok:Bool) (hok:TruQ ok (∃ k,k < n ∧ T k = true)) :
  Calls Tryz.prog 95 #[.slice a n c,.func (.func 96) #[] #[.pointer (some ⟨ub,0,none⟩),.pointer (some ⟨pb,0,none⟩)]] w fun e w' => e = .returned (.bool ok) ∧ Below w.heap.size w w':=by
 have KI:=Hj (cindexF_any a n c xs T ub pb w h hn hf)
 have HOK:=Hj hok
 clear h hok hf
 go_enter Tryz.func95,Tryz.ntmps95
 go_wp2_with fail
 refine (Uh KI).mono ?_
 rintro _ w2 ⟨z,rfl,hz,b2⟩
 have hd:decide (0 ≤ z) = ok:=by
  cases hk:ok
  ·exact decide_eq_false (fun h => by have:=Iff.mpr (Uh HOK) (hz.1 h); rw [hk] at this; cases this)
  ·exact decide_eq_true (hz.2 (Iff.mp (Uh HOK) hk))
 have HB:=Hj b2
 clear KI hz b2 HOK
 go_wp2_with fail
 try go_ret
 exact ⟨by simp_all,Uh HB⟩
end Go.Proofs.YtkbcmnjgkmkeaaaGreat
