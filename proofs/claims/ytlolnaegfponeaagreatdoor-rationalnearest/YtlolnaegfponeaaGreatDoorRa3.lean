/- Ra1 -/
import Derived.Test.YtlolnaegfponeaaGreatDoorGi
import Derived.Test.YtlolnaegfponeaaGreatDoorCmp
import Derived.Test.YtlolnaegfponeaaGreatDoorUpd
import Derived.Lib.LazyBuf
namespace Go.Proofs.YtlolnaegfponeaaGreatDoor
open Go.RowKit Go.Deep
set_option linter.unusedVariables false
set_option maxHeartbeats 4000000 in
theorem isOne_any (a:Option Addr) (n c:Nat) (xs:List Nat) (w:World) (h:Sl w a n c xs) (ok:Ok xs) :
  Calls Tryz.prog 29 #[.slice a n c] w fun e w' => e = .returned (.bool (decide (xs = [1]))) ∧ w' = w:=by
 have hl:=h.len
 by_cases h1:n = 1
 ·subst h1
  obtain ⟨x,rfl⟩:∃ x,xs = [x]:=by
   match xs,hl with
   | [x],_ => exact ⟨x,rfl⟩
  obtain ⟨b,off,rfl,hc⟩:=h.cells.resolve_left (by simp)
  have c0:=hc 0 (by simp)
  have hx:=ok.head
  simp only [List.getD,List.getElem?_cons_zero,Option.getD_some] at c0
  rw [Nat.add_zero] at c0
  clear hc h
  by_cases hx1:x = 1
  ·subst hx1
   go_enter Tryz.func29,Tryz.ntmps29
   go_wp2_with fail
   go_ret
   exact ⟨by simp,rfl⟩
  ·have t1:((x:Int) == 1) = false:=by simp; omega
   have t2:¬ (x:Int) = 1:=by omega
   go_enter Tryz.func29,Tryz.ntmps29
   go_wp2_with fail
   go_ret
   exact ⟨by simp [hx1],rfl⟩
 ·have t1:((n:Int) == 1) = false:=by simp; omega
  have t2:¬ (n:Int) = 1:=by omega
  have hne:¬ xs = [1]:=by intro e; rw [e] at hl; simp at hl; omega
  have HN:=Hd hne
  clear h hne
  go_enter Tryz.func29,Tryz.ntmps29
  go_wp2_with fail
  go_ret
  exact ⟨by simp [Uh HN],rfl⟩

set_option maxHeartbeats 4000000 in
theorem ratOne_any (w:World) :
  Calls Tryz.prog 38 #[] w fun e w' => ∃ a m,e = .returned (.slice a m m) ∧ Sl w' a m m [1] ∧ NewAt w.heap.size a ∧ Below w.heap.size w w':=by
 have K:=Hd (from_any 1 w (by decide))
 go_enter Tryz.func38,Tryz.ntmps38
 go_wp2_with fail
 refine (Uh K).mono ?_
 rintro _ w1 ⟨a1,m1,y1,rfl,s1,r1,n1,b1⟩
 have e1:y1 = [1]:=r1.unique ⟨Ok.cons (by decide) Ok.nil,.inr (by decide),by simp [val]⟩
 subst e1
 have H:=Hd (And.intro s1 (And.intro n1 b1))
 clear s1 r1 n1 b1 K
 go_wp2_with fail
 go_ret
 exact ⟨a1,m1,rfl,(Uh H).1,(Uh H).2.1,(Uh H).2.2⟩

theorem sure_any (v:Value) (e:Int) (w:World):Calls Tryz.prog 39 #[v,.int .i64 e] w fun x w' => x = .returned v ∧ w' = w:=by
 go_enter Tryz.func39,Tryz.ntmps39
 go_wp2
 go_ret
 exact ⟨rfl,rfl⟩

def NewN (w w':World) (v:Nat) (e:Ending):Prop:=∃ a m c,e = .returned (.slice a m c) ∧ Sl w' a m c (limbs v) ∧ NewAt w.heap.size a ∧ Below w.heap.size w w'

theorem limbs_1:limbs 1 = [1]:=by decide

set_option maxHeartbeats 4000000 in
theorem ratDivisor_any (a1 a2:Option Addr) (n1 c1 n2 c2:Nat) (xs ys:List Nat) (w:World) (h1:Sl w a1 n1 c1 xs) (h2:Sl w a2 n2 c2 ys) (ox:Ok xs) (oy:Ok ys) (m1:MayL xs = true) (m2:MayL ys = true) (hT:Tab64 w) :
  Calls Tryz.prog 30 #[.slice a1 n1 c1,.slice a2 n2 c2] w fun e w' => NewN w w' (Nat.gcd (val xs) (val ys)) e:=by
 have K1:=isOne_any a1 n1 c1 xs w h1 ox
 have K2:=isOne_any a2 n2 c2 ys w h2 oy
 have KG:=ngcd_any a1 a2 n1 c1 n2 c2 xs ys w h1 h2 ox oy hT
 rw [show gcdL xs ys = (limbs (Nat.gcd (val xs) (val ys)),0) from by simp [gcdL,m1,m2]] at KG
 have KO:=Hd (ratOne_any w)
 have KG':=Hd KG
 clear KG h1 h2 ox oy m1 m2 hT
 by_cases e1:xs = [1]
 ·rw [decide_eq_true e1] at K1
  have HV:=Hd (show Nat.gcd (val xs) (val ys) = 1 from by rw [e1]; simp [val])
  have K1':=Hd K1
  clear K1 K2 e1 KG'
  go_enter Tryz.func30,Tryz.ntmps30
  go_wp2_with fail
  refine (Uh K1').mono ?_
  rintro _ _ ⟨rfl,hw⟩
  obtain rfl:=hw.symm
  clear hw
  go_wp2_with fail
  refine (Uh KO).mono ?_
  rintro _ w1 ⟨a3,m3,rfl,s3,n3,b3⟩
  have H:=Hd (And.intro s3 (And.intro n3 b3))
  clear s3 n3 b3
  go_wp2_with fail
  go_ret
  rw [Uh HV]
  exact ⟨a3,m3,m3,rfl,by rw [limbs_1]; exact (Uh H).1,(Uh H).2.1,(Uh H).2.2⟩
 ·rw [decide_eq_false e1] at K1
  by_cases e2:ys = [1]
  ·rw [decide_eq_true e2] at K2
   have HV:=Hd (show Nat.gcd (val xs) (val ys) = 1 from by rw [e2]; simp [val])
   have K1':=Hd K1
   have K2':=Hd K2
   clear K1 K2 e1 e2 KG'
   go_enter Tryz.func30,Tryz.ntmps30
   go_wp2_with fail
   refine (Uh K1').mono ?_
   rintro _ _ ⟨rfl,hw⟩
   obtain rfl:=hw.symm
   clear hw
   go_wp2_with fail
   refine (Uh K2').mono ?_
   rintro _ _ ⟨rfl,hw⟩
   obtain rfl:=hw.symm
   clear hw
   go_wp2_with fail
   refine (Uh KO).mono ?_
   rintro _ w1 ⟨a3,m3,rfl,s3,n3,b3⟩
   have H:=Hd (And.intro s3 (And.intro n3 b3))
   clear s3 n3 b3
   go_wp2_with fail
   go_ret
   rw [Uh HV]
   exact ⟨a3,m3,m3,rfl,by rw [limbs_1]; exact (Uh H).1,(Uh H).2.1,(Uh H).2.2⟩
  ·rw [decide_eq_false e2] at K2
   have K1':=Hd K1
   have K2':=Hd K2
   clear K1 K2 e1 e2 KO
   generalize Nat.gcd (val xs) (val ys) = G at *
   go_enter Tryz.func30,Tryz.ntmps30
   go_wp2_with fail
   refine (Uh K1').mono ?_
   rintro _ _ ⟨rfl,hw⟩
   obtain rfl:=hw.symm
   clear hw
   go_wp2_with fail
   refine (Uh K2').mono ?_
   rintro _ _ ⟨rfl,hw⟩
   obtain rfl:=hw.symm
   clear hw
   go_wp2_with fail
   refine (Uh KG').mono ?_
   rintro _ w1 ⟨a3,m3,c3,rfl,s3,n3,b3⟩
   have H:=Hd (And.intro s3 (And.intro n3 b3))
   clear s3 n3 b3
   go_wp2_with fail
   refine (sure_any _ _ _).mono ?_
   rintro _ _ ⟨rfl,hw⟩
   obtain rfl:=hw.symm
   clear hw
   go_wp2_with fail
   go_ret
   exact ⟨a3,m3,c3,rfl,(Uh H).1,(Uh H).2.1,(Uh H).2.2⟩

def OldN (w w':World) (a:Option Addr) (n c:Nat) (v:Nat) (e:Ending):Prop:=∃ a' m c',e = .returned (.slice a' m c') ∧ Sl w' a' m c' (limbs v) ∧ (NewAt w.heap.size a' ∨ (a' = a ∧ m = n ∧ c' = c)) ∧ Below w.heap.size w w'

set_option maxHeartbeats 4000000 in
theorem ratQuotient_any (a1 a2:Option Addr) (n1 c1 n2 c2:Nat) (xs ys:List Nat) (w:World) (h1:Sl w a1 n1 c1 xs) (h2:Sl w a2 n2 c2 ys) (ox:Ok xs) (oy:Ok ys) (m1:MayL xs = true) (m2:MayL ys = true) (hy:ys ≠ []) :
  Calls Tryz.prog 86 #[.slice a1 n1 c1,.slice a2 n2 c2] w fun e w' => OldN w w' a1 n1 c1 (val xs / val ys) e:=by
 have K2:=isOne_any a2 n2 c2 ys w h2 oy
 have KD:=ndivmod_any a1 a2 n1 c1 n2 c2 xs ys w h1 h2 ox oy
 rw [show divL xs ys = (limbs (val xs / val ys),limbs (val xs % val ys),0) from by simp [divL,m1,m2,hy]] at KD
 have KD':=Hd KD
 clear KD
 by_cases e2:ys = [1]
 ·rw [decide_eq_true e2] at K2
  have HV:=Hd (show limbs (val xs / val ys) = xs from by rw [e2]; simp [val]; exact limbs_val ox (MayL.norm m1))
  have K2':=Hd K2
  have H1:=Hd h1
  clear K2 e2 KD' h1 h2
  go_enter Tryz.func86,Tryz.ntmps86
  go_wp2_with fail
  refine (Uh K2').mono ?_
  rintro _ _ ⟨rfl,hw⟩
  obtain rfl:=hw.symm
  clear hw
  go_wp2_with fail
  go_ret
  exact ⟨a1,n1,c1,rfl,by rw [Uh HV]; exact Uh H1,.inr ⟨rfl,rfl,rfl⟩,Below.refl _ _⟩
 ·rw [decide_eq_false e2] at K2
  have K2':=Hd K2
  clear K2 e2 h1 h2
  generalize val xs / val ys = Q at *
  generalize val xs % val ys = R at *
  go_enter Tryz.func86,Tryz.ntmps86
  go_wp2_with fail
  refine (Uh K2').mono ?_
  rintro _ _ ⟨rfl,hw⟩
  obtain rfl:=hw.symm
  clear hw
  go_wp2_with fail
  refine (Uh KD').mono ?_
  rintro _ w1 ⟨aq,mq,cq,ar,mr,cr,rfl,s1,q1,s2,q2,_,hB⟩
  have H:=Hd (And.intro s1 (And.intro q1 hB))
  clear s1 q1 s2 q2 hB
  go_wp2_with fail
  go_ret
  exact ⟨aq,mq,cq,rfl,(Uh H).1,.inl (Uh H).2.1,(Uh H).2.2⟩
def ratV (neg:Bool) (a1:Option Addr) (n1 c1:Nat) (a2:Option Addr) (n2 c2:Nat):Value:=.agg #[.bool neg,.slice a1 n1 c1,.slice a2 n2 c2]

def MayR (neg:Bool) (xs ys:List Nat):Bool:=MayL xs && MayL ys && !decide (ys = []) && !(neg && decide (xs = [])) && decide (Nat.gcd (val xs) (val ys) = 1)

def ratBox (w:World) (neg:Bool) (a1:Option Addr) (n1 c1:Nat) (a2:Option Addr) (n2 c2:Nat):World:=w.alloc (.cells #[.bool neg,.slice a1 n1 c1,.slice a2 n2 c2] 25)

theorem one_is {v:Nat}:(limbs v = [1]) = (v = 1):=by
 apply propext
 constructor
 ·intro h
  have:=(limbs_rep v).val
  rw [h] at this
  simp [val] at this
  exact this.symm
 ·intro h
  rw [h,limbs_1]

set_option maxHeartbeats 8000000 in
theorem ratMay_any (neg:Bool) (a1 a2:Option Addr) (n1 c1 n2 c2:Nat) (xs ys:List Nat) (w:World) (h1:Sl w a1 n1 c1 xs) (h2:Sl w a2 n2 c2 ys) (ox:Ok xs) (oy:Ok ys) (hT:Tab64 w) :
  Calls Tryz.prog 7 #[ratV neg a1 n1 c1 a2 n2 c2] w fun e w' => e = .returned (.bool (MayR neg xs ys)) ∧ Below w.heap.size w w':=by
 have bel:Below w.heap.size w (ratBox w neg a1 n1 c1 a2 n2 c2):=bAl
 have d0:(ratBox w neg a1 n1 c1 a2 n2 c2).cell? ⟨w.heap.size,0,none⟩ = some (.bool neg):=by simp [ratBox]
 have d1:(ratBox w neg a1 n1 c1 a2 n2 c2).cell? ⟨w.heap.size,1,none⟩ = some (.slice a1 n1 c1):=by simp [ratBox]
 have d2:(ratBox w neg a1 n1 c1 a2 n2 c2).cell? ⟨w.heap.size,2,none⟩ = some (.slice a2 n2 c2):=by simp [ratBox]
 obtain ⟨wa,hwa⟩:∃ wa,ratBox w neg a1 n1 c1 a2 n2 c2 = wa:=⟨_,rfl⟩
 rw [hwa] at bel d0 d1 d2
 unfold ratBox at hwa
 have K1:=may_any a1 n1 c1 xs wa (h1.below bel)
 have K2:=may_any a2 n2 c2 ys wa (h2.below bel)
 have hl1:=h1.len
 have hl2:=h2.len
 have HB:=Hd bel
 cases m1:MayL xs
 ·rw [m1] at K1
  have K1':=Hd K1
  have HR:=Hd (show MayR neg xs ys = false from by simp [MayR,m1])
  clear K1 K2 h1 h2 hT m1 bel
  unfold ratV
  go_enter Tryz.func7,Tryz.ntmps7
  go_wp2_with fail
  refine (Uh K1').mono ?_
  rintro _ _ ⟨rfl,hw⟩
  obtain rfl:=hw.symm
  clear hw
  go_wp2_with fail
  go_ret
  rw [Uh HR]
  exact ⟨rfl,Uh HB⟩
 ·rw [m1] at K1
  cases m2:MayL ys
  ·rw [m2] at K2
   have K1':=Hd K1
   have K2':=Hd K2
   have HR:=Hd (show MayR neg xs ys = false from by simp [MayR,m2])
   clear K1 K2 h1 h2 hT m1 m2 bel
   unfold ratV
   go_enter Tryz.func7,Tryz.ntmps7
   go_wp2_with fail
   refine (Uh K1').mono ?_
   rintro _ _ ⟨rfl,hw⟩
   obtain rfl:=hw.symm
   clear hw
   go_wp2_with fail
   refine (Uh K2').mono ?_
   rintro _ _ ⟨rfl,hw⟩
   obtain rfl:=hw.symm
   clear hw
   go_wp2_with fail
   go_ret
   rw [Uh HR]
   exact ⟨rfl,Uh HB⟩
  ·rw [m2] at K2
   have K1':=Hd K1
   have K2':=Hd K2
   by_cases hy:ys = []
   ·have HR:=Hd (show MayR neg xs ys = false from by simp [MayR,hy])
    have hn2:n2 = 0:=by rw [← hl2,hy]; rfl
    subst hn2
    clear K1 K2 h1 h2 hT m1 m2 bel
    unfold ratV
    go_enter Tryz.func7,Tryz.ntmps7
    go_wp2_with fail
    refine (Uh K1').mono ?_
    rintro _ _ ⟨rfl,hw⟩
    obtain rfl:=hw.symm
    clear hw
    go_wp2_with fail
    refine (Uh K2').mono ?_
    rintro _ _ ⟨rfl,hw⟩
    obtain rfl:=hw.symm
    clear hw
    go_wp2_with fail
    go_ret
    rw [Uh HR]
    exact ⟨rfl,Uh HB⟩
   ·have hn2:0 < n2:=by rw [← hl2]; exact List.length_pos_iff.2 hy
    have t1:((n2:Int) == 0) = false:=by simp; omega
    have t2:¬ (n2:Int) = 0:=by omega
    by_cases hz:neg = true ∧ xs = []
    ·obtain ⟨rfl,hx⟩:=hz
     have hn1:n1 = 0:=by rw [← hl1,hx]; rfl
     subst hn1
     have HR:=Hd (show MayR true xs ys = false from by simp [MayR,hx])
     clear K1 K2 h1 h2 hT m1 m2 bel
     unfold ratV
     go_enter Tryz.func7,Tryz.ntmps7
     go_wp2_with fail
     refine (Uh K1').mono ?_
     rintro _ _ ⟨rfl,hw⟩
     obtain rfl:=hw.symm
     clear hw
     go_wp2_with fail
     refine (Uh K2').mono ?_
     rintro _ _ ⟨rfl,hw⟩
     obtain rfl:=hw.symm
     clear hw
     go_wp2_with fail
     go_ret
     rw [Uh HR]
     exact ⟨rfl,Uh HB⟩
    ·have hz2:neg = false ∨ ¬ xs = []:=by
      cases neg
      ·exact .inl rfl
      ·right; intro e; exact hz ⟨rfl,e⟩
     obtain ⟨G,hG⟩:∃ G,Nat.gcd (val xs) (val ys) = G:=⟨_,rfl⟩
     have HR:=Hd (show MayR neg xs ys = decide (G = 1) from by
      subst hG
      rcases hz2 with e | e
      ·simp [MayR,m1,m2,hy,e]
      ·simp [MayR,m1,m2,hy,e])
     have KD0:=ratDivisor_any a1 a2 n1 c1 n2 c2 xs ys wa (h1.below bel) (h2.below bel) ox oy m1 m2 (hT.below bel)
     rw [hG] at KD0
     have KD:=Hd KD0
     clear KD0 hG
     have hz3:neg = false ∨ (neg = true ∧ 0 < n1):=by
      cases neg
      ·exact .inl rfl
      ·right
       refine ⟨rfl,?_⟩
       rw [← hl1]
       exact List.length_pos_iff.2 (hz2.resolve_left (by simp))
     clear K1 K2 h1 h2 hT m1 m2 bel hz hz2
     unfold ratV
     rcases hz3 with rfl | ⟨rfl,hn1⟩
     ·go_enter Tryz.func7,Tryz.ntmps7
      go_wp2_with fail
      refine (Uh K1').mono ?_
      rintro _ _ ⟨rfl,hw⟩
      obtain rfl:=hw.symm
      clear hw
      go_wp2_with fail
      refine (Uh K2').mono ?_
      rintro _ _ ⟨rfl,hw⟩
      obtain rfl:=hw.symm
      clear hw
      go_wp2_with fail
      refine (Uh KD).mono ?_
      rintro _ w1 ⟨a3,m3,c3,rfl,s3,n3,b3⟩
      have KI:=isOne_any a3 m3 c3 (limbs G) w1 s3 (limbs_rep G).ok
      simp only [one_is] at KI
      have KI':=Hd KI
      have HB1:=Hd ((Uh HB).trans (b3.mono (Uh HB).size))
      clear KI s3 n3 b3
      go_wp2_with fail
      refine (Uh KI').mono ?_
      rintro _ _ ⟨rfl,hw⟩
      obtain rfl:=hw.symm
      clear hw
      go_wp2_with fail
      go_ret
      rw [Uh HR]
      exact ⟨rfl,Uh HB1⟩
     ·have t3:((n1:Int) == 0) = false:=by simp; omega
      have t4:¬ (n1:Int) = 0:=by omega
      go_enter Tryz.func7,Tryz.ntmps7
      go_wp2_with fail
      refine (Uh K1').mono ?_
      rintro _ _ ⟨rfl,hw⟩
      obtain rfl:=hw.symm
      clear hw
      go_wp2_with fail
      refine (Uh K2').mono ?_
      rintro _ _ ⟨rfl,hw⟩
      obtain rfl:=hw.symm
      clear hw
      go_wp2_with fail
      refine (Uh KD).mono ?_
      rintro _ w1 ⟨a3,m3,c3,rfl,s3,n3,b3⟩
      have KI:=isOne_any a3 m3 c3 (limbs G) w1 s3 (limbs_rep G).ok
      simp only [one_is] at KI
      have KI':=Hd KI
      have HB1:=Hd ((Uh HB).trans (b3.mono (Uh HB).size))
      clear KI s3 n3 b3
      go_wp2_with fail
      refine (Uh KI').mono ?_
      rintro _ _ ⟨rfl,hw⟩
      obtain rfl:=hw.symm
      clear hw
      go_wp2_with fail
      go_ret
      rw [Uh HR]
      exact ⟨rfl,Uh HB1⟩
section
variable {P:Program} {w:World}
theorem wpList_append_firstR {ops:Array Oper} {rest:List Oper} {o:Oper} {a:Act} {Q:Exit → Act → World → Prop} (hgd:o.guard = none) (s x:Operand) (t:TypeId)
  (ho:o.op = .call { callee:=.builtin .append,args:=#[s,x],argTypes:=#[t,t] })
  (base:Nat) (e:TypeId) (i:TypeInfo) (z:Value) (bytes:Nat) (ht:P.underlying t = some (.slice e)) (hi:P.info? e = some i) (hz:i.zero = some z)
  (hsize:i.size = 1) (hby:i.bytes = bytes) (hzs:z.cells.size = 1) (g0:Nat)
  (hs:a.eval s = .slice (some ⟨g0,0,none⟩) 0 0) (hown:w.ownsRow base e 1 (.slice (some ⟨g0,0,none⟩) 0 0) 0 [])
  (ao:Option Addr) (m c:Nat) (news:List Value) (hx:a.eval x = .slice ao m c) (hl:news.length = m) (hnone:ao = none → m = 0 ∧ c = 0)
  (hnews:∀ ad,ao = some ad → ∀ j u,news[j]? = some u → w.cell? (ad.add j) = some u) (h1:∀ u ∈ news,u.oneCell' = true)
  (h63:m ≤ maxLen) (hbytes:m * bytes ≤ 140737488355328) (hbase:base ≤ w.heap.size)
  (h:∀ g cap w',w'.ownsRow base e 1 (.slice (some ⟨g,0,none⟩) m cap) m news → w.grownBy w' (some g0) → wpList P ops Q rest (a.put o.dst (.slice (some ⟨g,0,none⟩) m cap)) w'):wpList P ops Q (o :: rest) a w:=by
 by_cases hm:m = 0
 ·refine wpList_append_fits_any w hgd s x t ho base e i 1 ht hi hsize g0 0 0 [] hs hown ao m c news hx (by simpa using hl) hnone hnews h1 (by omega) ?_
  intro w' k1 k2
  simp only [Nat.zero_add,List.nil_append] at k1 ⊢
  exact h g0 0 w' k1 k2
 ·cases ao with
  | none => exact absurd (hnone rfl).1 hm
  | some ad =>
   refine wpList_append_lies w hgd s x t ho base e i z 1 bytes ht hi hz hsize hby hzs (by decide) _ 0 [] hs hown ad m c news hx (by simpa using hl) (hnews ad rfl) h1 (by omega) (by simpa using h63) (by simpa using hbytes) hbase _ rfl ?_
   intro g cap w' k1 k2 _ _
   simp only [Nat.zero_add,List.nil_append] at k1 ⊢
   exact h g cap w' k1 k2
end

theorem valsR_one (xs:List Nat):∀ u ∈ vals xs,u.oneCell' = true:=by
 intro u hu
 simp [vals] at hu
 obtain ⟨x,_,rfl⟩:=hu
 rfl

def NewS (w w':World) (xs:List Nat) (e:Ending):Prop:=∃ a m c,e = .returned (.slice a m c) ∧ Sl w' a m c xs ∧ NewAt w.heap.size a ∧ Below w.heap.size w w'

set_option maxHeartbeats 4000000 in
theorem sclone_any (a:Option Addr) (n c:Nat) (xs:List Nat) (w:World) (h:Sl w a n c xs) (hn:n ≤ 1000000) :
  Calls Tryz.prog 85 #[.slice a n c] w fun e w' => NewS w w' xs e:=by
 have hl:=h.len
 cases a with
 | none =>
  have hx:xs = []:=by
   rcases h.cells with e | ⟨b,off,e,_⟩
   ·exact e
   ·cases e
  subst hx
  simp at hl
  subst hl
  clear h
  have hq:=fun w => (show (binOp .eql 23 (.slice none 0 c) (.slice none 0 0)).run Tryz.prog w = .ok (.bool (none:Option Addr).isNone) w from by apply Lib.run_eql_slice_nil; exact Tryz.underlying23)
  simp only [Option.isNone_none] at hq
  go_enter Tryz.func85,Tryz.ntmps85
  go_wp2_with fail
  go_ret
  exact ⟨none,0,0,rfl,sl_nil _,newAt_nil _,Below.refl _ _⟩
 | some x =>
  obtain ⟨i80,hi80,hz80,hs80,hb80⟩:=info_parts Tryz.info_u32
  have I80:=Hd (And.intro hi80 (And.intro hz80 (And.intro hs80 hb80)))
  have H:=Hd h
  clear hi80 hz80 hs80 hb80 h
  have hq:=fun w => (show (binOp .eql 23 (.slice (some x) n c) (.slice none 0 0)).run Tryz.prog w = .ok (.bool (some x).isNone) w from by apply Lib.run_eql_slice_nil; exact Tryz.underlying23)
  simp only [Option.isNone_some] at hq
  go_enter Tryz.func85,Tryz.ntmps85
  go_wp2_with (at_builtin; refine wpList_append_firstR rfl _ _ 23 rfl w.heap.size 43 i80 (.int .u32 0) 4 Tryz.underlying23 (Uh I80).1 (Uh I80).2.1 (Uh I80).2.2.1 (Uh I80).2.2.2 rfl w.heap.size rfl ⟨rfl,.inr ⟨w.heap.size,0,#[],rfl,Nat.le_refl _,alloc_block _ _,Nat.le_refl _,Nat.zero_le _,rfl,rfl⟩⟩ (some x) n c (vals xs) rfl (by simp [vals,hl]) (by intro e; cases e) ?hnews (valsR_one xs) (by unfold maxLen; omega) (by omega) (by simp) ?_)
  case hnews =>
   intro ad had j u hu
   have hj:j < xs.length:=by
    have:=(List.getElem?_eq_some_iff.1 hu).1
    simpa [vals] using this
   have hne:xs ≠ []:=by intro e; rw [e] at hj; simp at hj
   obtain ⟨b,off,e,hc⟩:=(Uh H).cells.resolve_left hne
   rw [e] at had
   cases had
   have h1:=hc j hj
   have e2:(⟨b,off,none⟩:Addr).add j = ⟨b,off + j,none⟩:=by unfold Addr.add; split <;> simp_all
   rw [e2,World.cell?_alloc_lt _ _ _ (World.block_lt_of_cell? _ _ h1),h1,← hu]
   simp [vals,List.getD,hj]
  intro g cap w2 hown hgrow
  obtain ⟨a2,c2,e2,s2,n2⟩:=own_sl hown
  cases e2
  have HB:=Hd (show Below w.heap.size w w2 from Below.grown (bAl) hgrow (by simp) (fun k hk => by cases hk; exact Nat.le_refl _))
  have HS:=Hd (And.intro s2 n2)
  clear hown hgrow s2 n2
  go_wp2_with fail
  go_ret
  exact ⟨_,n,cap,rfl,(Uh HS).1,(Uh HS).2,Uh HB⟩

set_option maxHeartbeats 4000000 in
theorem signed_any (neg:Bool) (a1 a2:Option Addr) (n1 c1 n2 c2:Nat) (w:World) :
  Calls Tryz.prog 84 #[.bool neg,.slice a1 n1 c1,.slice a2 n2 c2] w fun e w' => e = .returned (ratV (neg && decide (0 < n1)) a1 n1 c1 a2 n2 c2) ∧ Below w.heap.size w w':=by
 have bel:∀ g,Below w.heap.size w (w.alloc (.cells #[.bool g,.slice a1 n1 c1,.slice a2 n2 c2] 25)):=fun g => bAl
 have HB:=Hd bel
 clear bel
 cases neg
 ·go_enter Tryz.func84,Tryz.ntmps84
  go_wp2_with fail
  refine bodyPost_ret (by simp [results,Tryz.results84,go_sem]; try rfl) rfl ?_
  exact ⟨rfl,Uh HB false⟩
 ·by_cases h0:0 < n1
  ·have h0':(0:Int) < (n1:Int):=by omega
   go_enter Tryz.func84,Tryz.ntmps84
   go_wp2_with fail
   refine bodyPost_ret (by simp [results,Tryz.results84,go_sem]; try rfl) rfl ?_
   exact ⟨by simp [ratV,h0],Uh HB true⟩
  ·have h0':n1 = 0:=by omega
   subst h0'
   go_enter Tryz.func84,Tryz.ntmps84
   go_wp2_with fail
   refine bodyPost_ret (by simp [results,Tryz.results84,go_sem]; try rfl) rfl ?_
   exact ⟨by simp [ratV],Uh HB false⟩

set_option maxHeartbeats 4000000 in
theorem isZero_any (neg:Bool) (a1 a2:Option Addr) (n1 c1 n2 c2:Nat) (w:World) :
  Calls Tryz.prog 78 #[ratV neg a1 n1 c1 a2 n2 c2] w fun e w' => e = .returned (.bool (decide (n1 = 0))) ∧ Below w.heap.size w w':=by
 have bel:Below w.heap.size w (w.alloc (.cells #[.bool neg,.slice a1 n1 c1,.slice a2 n2 c2] 25)):=bAl
 have HB:=Hd bel
 clear bel
 unfold ratV
 by_cases h0:n1 = 0
 ·subst h0
  go_enter Tryz.func78,Tryz.ntmps78
  go_wp2_with fail
  go_ret
  exact ⟨by simp,Uh HB⟩
 ·have t1:((n1:Int) == 0) = false:=by simp; omega
  have t2:¬ (n1:Int) = 0:=by omega
  go_enter Tryz.func78,Tryz.ntmps78
  go_wp2_with fail
  go_ret
  exact ⟨by simp [h0],Uh HB⟩
end Go.Proofs.YtlolnaegfponeaaGreatDoor
