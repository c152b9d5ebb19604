/- Ra1 -/
import Derived.Test.YtjoaijbhpgekoaaGreatDoorPa2
import Derived.Test.YtjoaijbhpgekoaaGreatDoorShl
import Derived.Test.YtjoaijbhpgekoaaGreatDoorCopy
import Derived.Lib.LazyBuf
import Derived.Test.YtjoaijbhpgekoaaGreatDoorWrb
import Derived.Test.YtjoaijbhpgekoaaGreatDoorFt2
import Derived.Test.YtjoaijbhpgekoaaGreatDoorRd3
namespace Go.Proofs.YtjoaijbhpgekoaaGreatDoor
open Go.RowKit Go.Deep
set_option linter.unusedVariables false
set_option maxHeartbeats 4000000 in
theorem isOne_any (a:Option Addr) (n c:Nat) (xs:List Nat) (w:World) (h:Sl w a n c xs) (ok:Ok xs) :
  Calls Tryz.prog 87 #[.slice a n c] w fun e w' => e = .returned (.bool (decide (xs = [1]))) ∧ w' = w:=by
 have hl:=h.len
 by_cases h1:n = 1
 ·subst h1
  obtain ⟨x,rfl⟩:∃ x,xs = [x]:=by
   match xs,hl with
   | [x],_ => exact ⟨x,rfl⟩
  obtain ⟨b,off,rfl,hc⟩:=h.cells.resolve_left (by simp)
  have c0:=hc 0 (by simp)
  have hx:=ok.head
  simp only [List.getD,List.getElem?_cons_zero,Option.getD_some] at c0
  rw [Nat.add_zero] at c0
  clear hc h
  by_cases hx1:x = 1
  ·subst hx1
   go_enter Tryz.func87,Tryz.ntmps87
   go_wp2_with fail
   go_ret
   exact ⟨by simp,rfl⟩
  ·have t1:((x:Int) == 1) = false:=by simp; omega
   have t2:¬ (x:Int) = 1:=by omega
   go_enter Tryz.func87,Tryz.ntmps87
   go_wp2_with fail
   go_ret
   exact ⟨by simp [hx1],rfl⟩
 ·have t1:((n:Int) == 1) = false:=by simp; omega
  have t2:¬ (n:Int) = 1:=by omega
  have hne:¬ xs = [1]:=by intro e; rw [e] at hl; simp at hl; omega
  have HN:=Hj hne
  clear h hne
  go_enter Tryz.func87,Tryz.ntmps87
  go_wp2_with fail
  go_ret
  exact ⟨by simp [Uh HN],rfl⟩

set_option maxHeartbeats 4000000 in
theorem ratOne_any (w:World) :
  Calls Tryz.prog 61 #[] w fun e w' => ∃ a m,e = .returned (.slice a m m) ∧ Sl w' a m m [1] ∧ NewAt w.heap.size a ∧ Below w.heap.size w w':=by
 have K:=Hj (from_any 1 w (by decide))
 go_enter Tryz.func61,Tryz.ntmps61
 go_wp2_with fail
 refine (Uh K).mono ?_
 rintro _ w1 ⟨a1,m1,y1,rfl,s1,r1,n1,b1⟩
 have e1:y1 = [1]:=r1.unique ⟨Ok.cons (by decide) Ok.nil,.inr (by decide),by simp [val]⟩
 subst e1
 have H:=Hj (And.intro s1 (And.intro n1 b1))
 clear s1 r1 n1 b1 K
 go_wp2_with fail
 go_ret
 exact ⟨a1,m1,rfl,(Uh H).1,(Uh H).2.1,(Uh H).2.2⟩

theorem sure_any (v:Value) (e:Int) (w:World):Calls Tryz.prog 60 #[v,.int .i64 e] w fun x w' => x = .returned v ∧ w' = w:=by
 go_enter Tryz.func60,Tryz.ntmps60
 go_wp2
 go_ret
 exact ⟨rfl,rfl⟩

def NewN (w w':World) (v:Nat) (e:Ending):Prop:=∃ a m c,e = .returned (.slice a m c) ∧ Sl w' a m c (limbs v) ∧ NewAt w.heap.size a ∧ Below w.heap.size w w'

theorem limbs_1:limbs 1 = [1]:=by decide

set_option maxHeartbeats 4000000 in
theorem ratDivisor_any (a1 a2:Option Addr) (n1 c1 n2 c2:Nat) (xs ys:List Nat) (w:World) (h1:Sl w a1 n1 c1 xs) (h2:Sl w a2 n2 c2 ys) (ox:Ok xs) (oy:Ok ys) (m1:MayL xs = true) (m2:MayL ys = true) (hT:Tab64 w) :
  Calls Tryz.prog 62 #[.slice a1 n1 c1,.slice a2 n2 c2] w fun e w' => NewN w w' (Nat.gcd (val xs) (val ys)) e:=by
 have K1:=isOne_any a1 n1 c1 xs w h1 ox
 have K2:=isOne_any a2 n2 c2 ys w h2 oy
 have KG:=ngcd_any a1 a2 n1 c1 n2 c2 xs ys w h1 h2 ox oy hT
 rw [show gcdL xs ys = (limbs (Nat.gcd (val xs) (val ys)),0) from by simp [gcdL,m1,m2]] at KG
 have KO:=Hj (ratOne_any w)
 have KG':=Hj KG
 clear KG h1 h2 ox oy m1 m2 hT
 by_cases e1:xs = [1]
 ·rw [decide_eq_true e1] at K1
  have HV:=Hj (show Nat.gcd (val xs) (val ys) = 1 from by rw [e1]; simp [val])
  have K1':=Hj K1
  clear K1 K2 e1 KG'
  go_enter Tryz.func62,Tryz.ntmps62
  go_wp2_with fail
  refine (Uh K1').mono ?_
  rintro _ _ ⟨rfl,hw⟩
  obtain rfl:=hw.symm
  clear hw
  go_wp2_with fail
  refine (Uh KO).mono ?_
  rintro _ w1 ⟨a3,m3,rfl,s3,n3,b3⟩
  have H:=Hj (And.intro s3 (And.intro n3 b3))
  clear s3 n3 b3
  go_wp2_with fail
  go_ret
  rw [Uh HV]
  exact ⟨a3,m3,m3,rfl,by rw [limbs_1]; exact (Uh H).1,(Uh H).2.1,(Uh H).2.2⟩
 ·rw [decide_eq_false e1] at K1
  by_cases e2:ys = [1]
  ·rw [decide_eq_true e2] at K2
   have HV:=Hj (show Nat.gcd (val xs) (val ys) = 1 from by rw [e2]; simp [val])
   have K1':=Hj K1
   have K2':=Hj K2
   clear K1 K2 e1 e2 KG'
   go_enter Tryz.func62,Tryz.ntmps62
   go_wp2_with fail
   refine (Uh K1').mono ?_
   rintro _ _ ⟨rfl,hw⟩
   obtain rfl:=hw.symm
   clear hw
   go_wp2_with fail
   refine (Uh K2').mono ?_
   rintro _ _ ⟨rfl,hw⟩
   obtain rfl:=hw.symm
   clear hw
   go_wp2_with fail
   refine (Uh KO).mono ?_
   rintro _ w1 ⟨a3,m3,rfl,s3,n3,b3⟩
   have H:=Hj (And.intro s3 (And.intro n3 b3))
   clear s3 n3 b3
   go_wp2_with fail
   go_ret
   rw [Uh HV]
   exact ⟨a3,m3,m3,rfl,by rw [limbs_1]; exact (Uh H).1,(Uh H).2.1,(Uh H).2.2⟩
  ·rw [decide_eq_false e2] at K2
   have K1':=Hj K1
   have K2':=Hj K2
   clear K1 K2 e1 e2 KO
   generalize Nat.gcd (val xs) (val ys) = G at *
   go_enter Tryz.func62,Tryz.ntmps62
   go_wp2_with fail
   refine (Uh K1').mono ?_
   rintro _ _ ⟨rfl,hw⟩
   obtain rfl:=hw.symm
   clear hw
   go_wp2_with fail
   refine (Uh K2').mono ?_
   rintro _ _ ⟨rfl,hw⟩
   obtain rfl:=hw.symm
   clear hw
   go_wp2_with fail
   refine (Uh KG').mono ?_
   rintro _ w1 ⟨a3,m3,c3,rfl,s3,n3,b3⟩
   have H:=Hj (And.intro s3 (And.intro n3 b3))
   clear s3 n3 b3
   go_wp2_with fail
   refine (sure_any _ _ _).mono ?_
   rintro _ _ ⟨rfl,hw⟩
   obtain rfl:=hw.symm
   clear hw
   go_wp2_with fail
   go_ret
   exact ⟨a3,m3,c3,rfl,(Uh H).1,(Uh H).2.1,(Uh H).2.2⟩

def OldN (w w':World) (a:Option Addr) (n c:Nat) (v:Nat) (e:Ending):Prop:=∃ a' m c',e = .returned (.slice a' m c') ∧ Sl w' a' m c' (limbs v) ∧ (NewAt w.heap.size a' ∨ (a' = a ∧ m = n ∧ c' = c)) ∧ Below w.heap.size w w'

set_option maxHeartbeats 4000000 in
theorem ratQuotient_any (a1 a2:Option Addr) (n1 c1 n2 c2:Nat) (xs ys:List Nat) (w:World) (h1:Sl w a1 n1 c1 xs) (h2:Sl w a2 n2 c2 ys) (ox:Ok xs) (oy:Ok ys) (m1:MayL xs = true) (m2:MayL ys = true) (hy:ys ≠ []) :
  Calls Tryz.prog 65 #[.slice a1 n1 c1,.slice a2 n2 c2] w fun e w' => OldN w w' a1 n1 c1 (val xs / val ys) e:=by
 have K2:=isOne_any a2 n2 c2 ys w h2 oy
 have KD:=ndivmod_any a1 a2 n1 c1 n2 c2 xs ys w h1 h2 ox oy
 rw [show divL xs ys = (limbs (val xs / val ys),limbs (val xs % val ys),0) from by simp [divL,m1,m2,hy]] at KD
 have KD':=Hj KD
 clear KD
 by_cases e2:ys = [1]
 ·rw [decide_eq_true e2] at K2
  have HV:=Hj (show limbs (val xs / val ys) = xs from by rw [e2]; simp [val]; exact limbs_val ox (MayL.norm m1))
  have K2':=Hj K2
  have H1:=Hj h1
  clear K2 e2 KD' h1 h2
  go_enter Tryz.func65,Tryz.ntmps65
  go_wp2_with fail
  refine (Uh K2').mono ?_
  rintro _ _ ⟨rfl,hw⟩
  obtain rfl:=hw.symm
  clear hw
  go_wp2_with fail
  go_ret
  exact ⟨a1,n1,c1,rfl,by rw [Uh HV]; exact Uh H1,.inr ⟨rfl,rfl,rfl⟩,Below.refl _ _⟩
 ·rw [decide_eq_false e2] at K2
  have K2':=Hj K2
  clear K2 e2 h1 h2
  generalize val xs / val ys = Q at *
  generalize val xs % val ys = R at *
  go_enter Tryz.func65,Tryz.ntmps65
  go_wp2_with fail
  refine (Uh K2').mono ?_
  rintro _ _ ⟨rfl,hw⟩
  obtain rfl:=hw.symm
  clear hw
  go_wp2_with fail
  refine (Uh KD').mono ?_
  rintro _ w1 ⟨aq,mq,cq,ar,mr,cr,rfl,s1,q1,s2,q2,_,hB⟩
  have H:=Hj (And.intro s1 (And.intro q1 hB))
  clear s1 q1 s2 q2 hB
  go_wp2_with fail
  go_ret
  exact ⟨aq,mq,cq,rfl,(Uh H).1,.inl (Uh H).2.1,(Uh H).2.2⟩
def ratV (neg:Bool) (a1:Option Addr) (n1 c1:Nat) (a2:Option Addr) (n2 c2:Nat):Value:=.agg #[.bool neg,.slice a1 n1 c1,.slice a2 n2 c2]

def MayR (neg:Bool) (xs ys:List Nat):Bool:=MayL xs && MayL ys && !decide (ys = []) && !(neg && decide (xs = [])) && decide (Nat.gcd (val xs) (val ys) = 1)

def ratBox (w:World) (neg:Bool) (a1:Option Addr) (n1 c1:Nat) (a2:Option Addr) (n2 c2:Nat):World:=w.alloc (.cells #[.bool neg,.slice a1 n1 c1,.slice a2 n2 c2] 39)
section
variable {P:Program} {w:World}
theorem wpList_append_firstR {ops:Array Oper} {rest:List Oper} {o:Oper} {a:Act} {Q:Exit → Act → World → Prop} (hgd:o.guard = none) (s x:Operand) (t:TypeId)
  (ho:o.op = .call { callee:=.builtin .append,args:=#[s,x],argTypes:=#[t,t] })
  (base:Nat) (e:TypeId) (i:TypeInfo) (z:Value) (bytes:Nat) (ht:P.underlying t = some (.slice e)) (hi:P.info? e = some i) (hz:i.zero = some z)
  (hsize:i.size = 1) (hby:i.bytes = bytes) (hzs:z.cells.size = 1) (g0:Nat)
  (hs:a.eval s = .slice (some ⟨g0,0,none⟩) 0 0) (hown:w.ownsRow base e 1 (.slice (some ⟨g0,0,none⟩) 0 0) 0 [])
  (ao:Option Addr) (m c:Nat) (news:List Value) (hx:a.eval x = .slice ao m c) (hl:news.length = m) (hnone:ao = none → m = 0 ∧ c = 0)
  (hnews:∀ ad,ao = some ad → ∀ j u,news[j]? = some u → w.cell? (ad.add j) = some u) (h1:∀ u ∈ news,u.oneCell' = true)
  (h63:m ≤ maxLen) (hbytes:m * bytes ≤ 140737488355328) (hbase:base ≤ w.heap.size)
  (h:∀ g cap w',w'.ownsRow base e 1 (.slice (some ⟨g,0,none⟩) m cap) m news → w.grownBy w' (some g0) → wpList P ops Q rest (a.put o.dst (.slice (some ⟨g,0,none⟩) m cap)) w'):wpList P ops Q (o :: rest) a w:=by
 by_cases hm:m = 0
 ·refine wpList_append_fits_any w hgd s x t ho base e i 1 ht hi hsize g0 0 0 [] hs hown ao m c news hx (by simpa using hl) hnone hnews h1 (by omega) ?_
  intro w' k1 k2
  simp only [Nat.zero_add,List.nil_append] at k1 ⊢
  exact h g0 0 w' k1 k2
 ·cases ao with
  | none => exact absurd (hnone rfl).1 hm
  | some ad =>
   refine wpList_append_lies w hgd s x t ho base e i z 1 bytes ht hi hz hsize hby hzs (by decide) _ 0 [] hs hown ad m c news hx (by simpa using hl) (hnews ad rfl) h1 (by omega) (by simpa using h63) (by simpa using hbytes) hbase _ rfl ?_
   intro g cap w' k1 k2 _ _
   simp only [Nat.zero_add,List.nil_append] at k1 ⊢
   exact h g cap w' k1 k2
end

theorem valsR_one (xs:List Nat):∀ u ∈ vals xs,u.oneCell' = true:=by
 intro u hu
 simp [vals] at hu
 obtain ⟨x,_,rfl⟩:=hu
 rfl

def NewS (w w':World) (xs:List Nat) (e:Ending):Prop:=∃ a m c,e = .returned (.slice a m c) ∧ Sl w' a m c xs ∧ NewAt w.heap.size a ∧ Below w.heap.size w w'

set_option maxHeartbeats 4000000 in
theorem sclone_any (a:Option Addr) (n c:Nat) (xs:List Nat) (w:World) (h:Sl w a n c xs) (hn:n ≤ 1000000) :
  Calls Tryz.prog 64 #[.slice a n c] w fun e w' => NewS w w' xs e:=by
 have hl:=h.len
 cases a with
 | none =>
  have hx:xs = []:=by
   rcases h.cells with e | ⟨b,off,e,_⟩
   ·exact e
   ·cases e
  subst hx
  simp at hl
  subst hl
  clear h
  have hq:=fun w => (show (binOp .eql 37 (.slice none 0 c) (.slice none 0 0)).run Tryz.prog w = .ok (.bool (none:Option Addr).isNone) w from by apply Lib.run_eql_slice_nil; exact Tryz.underlying37)
  simp only [Option.isNone_none] at hq
  go_enter Tryz.func64,Tryz.ntmps64
  go_wp2_with fail
  go_ret
  exact ⟨none,0,0,rfl,sl_nil _,newAt_nil _,Below.refl _ _⟩
 | some x =>
  obtain ⟨i80,hi80,hz80,hs80,hb80⟩:=info_parts Tryz.info_u32
  have I80:=Hj (And.intro hi80 (And.intro hz80 (And.intro hs80 hb80)))
  have H:=Hj h
  clear hi80 hz80 hs80 hb80 h
  have hq:=fun w => (show (binOp .eql 37 (.slice (some x) n c) (.slice none 0 0)).run Tryz.prog w = .ok (.bool (some x).isNone) w from by apply Lib.run_eql_slice_nil; exact Tryz.underlying37)
  simp only [Option.isNone_some] at hq
  go_enter Tryz.func64,Tryz.ntmps64
  go_wp2_with (at_builtin; refine wpList_append_firstR rfl _ _ 37 rfl w.heap.size 94 i80 (.int .u32 0) 4 Tryz.underlying37 (Uh I80).1 (Uh I80).2.1 (Uh I80).2.2.1 (Uh I80).2.2.2 rfl w.heap.size rfl ⟨rfl,.inr ⟨w.heap.size,0,#[],rfl,Nat.le_refl _,alloc_block _ _,Nat.le_refl _,Nat.zero_le _,rfl,rfl⟩⟩ (some x) n c (vals xs) rfl (by simp [vals,hl]) (by intro e; cases e) ?hnews (valsR_one xs) (by unfold maxLen; omega) (by omega) (by simp) ?_)
  case hnews =>
   intro ad had j u hu
   have hj:j < xs.length:=by
    have:=(List.getElem?_eq_some_iff.1 hu).1
    simpa [vals] using this
   have hne:xs ≠ []:=by intro e; rw [e] at hj; simp at hj
   obtain ⟨b,off,e,hc⟩:=(Uh H).cells.resolve_left hne
   rw [e] at had
   cases had
   have h1:=hc j hj
   have e2:(⟨b,off,none⟩:Addr).add j = ⟨b,off + j,none⟩:=by unfold Addr.add; split <;> simp_all
   rw [e2,World.cell?_alloc_lt _ _ _ (World.block_lt_of_cell? _ _ h1),h1,← hu]
   simp [vals,List.getD,hj]
  intro g cap w2 hown hgrow
  obtain ⟨a2,c2,e2,s2,n2⟩:=own_sl hown
  cases e2
  have HB:=Hj (show Below w.heap.size w w2 from Below.grown (bAl) hgrow (by simp) (fun k hk => by cases hk; exact Nat.le_refl _))
  have HS:=Hj (And.intro s2 n2)
  clear hown hgrow s2 n2
  go_wp2_with fail
  go_ret
  exact ⟨_,n,cap,rfl,(Uh HS).1,(Uh HS).2,Uh HB⟩

set_option maxHeartbeats 4000000 in
theorem signed_any (neg:Bool) (a1 a2:Option Addr) (n1 c1 n2 c2:Nat) (w:World) :
  Calls Tryz.prog 63 #[.bool neg,.slice a1 n1 c1,.slice a2 n2 c2] w fun e w' => e = .returned (ratV (neg && decide (0 < n1)) a1 n1 c1 a2 n2 c2) ∧ Below w.heap.size w w':=by
 have bel:∀ g,Below w.heap.size w (w.alloc (.cells #[.bool g,.slice a1 n1 c1,.slice a2 n2 c2] 39)):=fun g => bAl
 have HB:=Hj bel
 clear bel
 cases neg
 ·go_enter Tryz.func63,Tryz.ntmps63
  go_wp2_with fail
  refine bodyPost_ret (by simp [results,Tryz.results63,go_sem]; try rfl) rfl ?_
  exact ⟨rfl,Uh HB false⟩
 ·by_cases h0:0 < n1
  ·have h0':(0:Int) < (n1:Int):=by omega
   go_enter Tryz.func63,Tryz.ntmps63
   go_wp2_with fail
   refine bodyPost_ret (by simp [results,Tryz.results63,go_sem]; try rfl) rfl ?_
   exact ⟨by simp [ratV,h0],Uh HB true⟩
  ·have h0':n1 = 0:=by omega
   subst h0'
   go_enter Tryz.func63,Tryz.ntmps63
   go_wp2_with fail
   refine bodyPost_ret (by simp [results,Tryz.results63,go_sem]; try rfl) rfl ?_
   exact ⟨by simp [ratV],Uh HB false⟩
def NewR (w w':World) (neg:Bool) (xs ys:List Nat) (v:Value):Prop :=
 ∃ a1 m1 c1 a2 m2 c2,v = ratV neg a1 m1 c1 a2 m2 c2 ∧ Sl w' a1 m1 c1 xs ∧ Sl w' a2 m2 c2 ys ∧ NewAt w.heap.size a1 ∧ NewAt w.heap.size a2 ∧ Below w.heap.size w w'

structure Box (w wa:World) (neg:Bool) (a1:Option Addr) (n1 c1:Nat) (a2:Option Addr) (n2 c2:Nat):Prop where
 bel:Below w.heap.size w wa
 lt:w.heap.size < wa.heap.size
 d0:wa.cell? ⟨w.heap.size,0,none⟩ = some (.bool neg)
 d1:wa.cell? ⟨w.heap.size,1,none⟩ = some (.slice a1 n1 c1)
 d2:wa.cell? ⟨w.heap.size,2,none⟩ = some (.slice a2 n2 c2)

theorem Box.made (w:World) (neg:Bool) (a1:Option Addr) (n1 c1:Nat) (a2:Option Addr) (n2 c2:Nat):Box w (ratBox w neg a1 n1 c1 a2 n2 c2) neg a1 n1 c1 a2 n2 c2 :=
 ⟨bAl,by simp [ratBox],by simp [ratBox],by simp [ratBox],by simp [ratBox]⟩
theorem Box.keep {w wa wb:World} {neg:Bool} {a1:Option Addr} {n1 c1:Nat} {a2:Option Addr} {n2 c2:Nat} (h:Box w wa neg a1 n1 c1 a2 n2 c2) (k:Below wa.heap.size wa wb):Box w wb neg a1 n1 c1 a2 n2 c2:=by
 have hc:∀ i,wb.cell? ⟨w.heap.size,i,none⟩ = wa.cell? ⟨w.heap.size,i,none⟩:=fun i => by unfold World.cell?; simp only; rw [k.block _ h.lt]
 exact ⟨h.bel.trans (k.mono h.bel.size),Nat.lt_of_lt_of_le h.lt k.size,(hc 0).trans h.d0,(hc 1).trans h.d1,(hc 2).trans h.d2⟩

theorem three_set (w1:World) (R:Nat) (v0 v1 v2:Value) (h:∀ i,i < 3 → ∃ v,w1.cell? ⟨R,i,none⟩ = some v) :
  (((w1.setCell ⟨R,0,none⟩ v0).setCell ⟨R,1,none⟩ v1).setCell ⟨R,2,none⟩ v2).cell? ⟨R,0,none⟩ = some v0 ∧
  (((w1.setCell ⟨R,0,none⟩ v0).setCell ⟨R,1,none⟩ v1).setCell ⟨R,2,none⟩ v2).cell? ⟨R,1,none⟩ = some v1 ∧
  (((w1.setCell ⟨R,0,none⟩ v0).setCell ⟨R,1,none⟩ v1).setCell ⟨R,2,none⟩ v2).cell? ⟨R,2,none⟩ = some v2 ∧
  Chg (fun j => j = R) w1 (((w1.setCell ⟨R,0,none⟩ v0).setCell ⟨R,1,none⟩ v1).setCell ⟨R,2,none⟩ v2):=by
 obtain ⟨x0,h0⟩:=h 0 (by decide)
 obtain ⟨x1,h1⟩:=h 1 (by decide)
 obtain ⟨x2,h2⟩:=h 2 (by decide)
 have s0:(w1.setCell ⟨R,0,none⟩ v0).cell? ⟨R,0,none⟩ = some v0:=World.cell?_setCell_same _ _ _ h0
 have s1:(w1.setCell ⟨R,0,none⟩ v0).cell? ⟨R,1,none⟩ = some x1:=by rw [World.cell?_setCell_other _ _ _ _ (by simp)]; exact h1
 have s2:(w1.setCell ⟨R,0,none⟩ v0).cell? ⟨R,2,none⟩ = some x2:=by rw [World.cell?_setCell_other _ _ _ _ (by simp)]; exact h2
 have t1:((w1.setCell ⟨R,0,none⟩ v0).setCell ⟨R,1,none⟩ v1).cell? ⟨R,1,none⟩ = some v1:=World.cell?_setCell_same _ _ _ s1
 have t2:((w1.setCell ⟨R,0,none⟩ v0).setCell ⟨R,1,none⟩ v1).cell? ⟨R,2,none⟩ = some x2:=by rw [World.cell?_setCell_other _ _ _ _ (by simp)]; exact s2
 refine ⟨?_,?_,World.cell?_setCell_same _ _ _ t2,((Chg.of_set (S:=fun j => j = R) _ _ _ _ rfl).trans (Chg.of_set (S:=fun j => j = R) _ _ _ _ rfl)).trans (Chg.of_set (S:=fun j => j = R) _ _ _ _ rfl)⟩
 ·rw [World.cell?_setCell_other _ _ _ _ (by simp),World.cell?_setCell_other _ _ _ _ (by simp)]; exact s0
 ·rw [World.cell?_setCell_other _ _ _ _ (by simp)]; exact t1

structure Out (w:World) (R:Nat):Prop where
 cells:∀ i,i < 3 → ∃ v,w.cell? ⟨R,i,none⟩ = some v
 fz:∀ i,i < 3 → w.frozen? ⟨R,i,none⟩ = false
 lt:R < w.heap.size
theorem Out.made (w:World):Out (w.alloc (.cells #[.bool false,.slice none 0 0,.slice none 0 0] 39)) w.heap.size:=by
 refine ⟨fun i hi => ?_,fun i hi => ?_,by simp⟩
 ·match i,hi with
  | 0,_ => exact ⟨.bool false,by simp⟩
  | 1,_ => exact ⟨.slice none 0 0,by simp⟩
  | 2,_ => exact ⟨.slice none 0 0,by simp⟩
 ·match i,hi with
  | 0,_ => simp
  | 1,_ => simp
  | 2,_ => simp
theorem Out.keep {w w':World} {R:Nat} (h:Out w R) (k:Below w.heap.size w w'):Out w' R:=by
 refine ⟨fun i hi => ?_,fun i hi => ?_,Nat.lt_of_lt_of_le h.lt k.size⟩
 ·obtain ⟨v,hv⟩:=h.cells i hi
  exact ⟨v,by rw [← hv]; unfold World.cell?; simp only; rw [k.block _ h.lt]⟩
 ·rw [← h.fz i hi]; unfold World.frozen?; simp only; rw [k.block _ h.lt]

theorem ratV_congr {g h:Bool} {a1:Option Addr} {n1 c1:Nat} {a2:Option Addr} {n2 c2:Nat} (e:g = h):ratV g a1 n1 c1 a2 n2 c2 = ratV h a1 n1 c1 a2 n2 c2:=by rw [e]



def RatA (w w':World) (e:Ending):Prop:=∃ g aN mN cN aD mD cD,e = .returned (.agg #[.bool g,.slice aN mN cN,.slice aD mD cD]) ∧ Below w.heap.size w w'
theorem gcdL_ok (xs ys:List Nat):Ok (gcdL xs ys).1:=by
 unfold gcdL
 split
 ·exact limbs_ok _
 ·exact Ok.nil
set_option maxRecDepth 100000 in
set_option maxHeartbeats 16000000 in
theorem wlowest4_any (neg:Bool) (a1 a2:Option Addr) (n1 c1 n2 c2:Nat) (xs ys:List Nat) (w:World) (h1:Sl w a1 n1 c1 xs) (h2:Sl w a2 n2 c2 ys) (ox:Ok xs) (oy:Ok ys) :
  Calls Tryz.prog 34 #[.bool neg,.slice a1 n1 c1,.slice a2 n2 c2] w fun e w' => RatA w w' e:=by
 obtain ⟨wb,hwb⟩:∃ wb,w.alloc (.cells #[.bool false,.slice none 0 0,.slice none 0 0] 39) = wb:=⟨_,rfl⟩
 have hbb:Below w.heap.size w wb:=by rw [← hwb]; exact bAl
 have hO:Out wb w.heap.size:=by rw [← hwb]; exact Out.made w
 have hz:wb.heap.size = w.heap.size + 1:=by rw [← hwb]; simp
 have h1b:=h1.below hbb
 have h2b:=h2.below hbb
 have K1:=Hj (rgcd_any a1 a2 n1 c1 n2 c2 xs ys wb h1b h2b ox oy)
 have HS:=Hj (And.intro h1b h2b)
 have HO:=Hj hO
 have HB:=Hj hbb
 clear h1 h2 h1b h2b hO hbb hz
 go_enter Tryz.func34,Tryz.ntmps34
 go_wp2_with fail
 refine (Uh K1).mono ?_
 rintro _ w1 ⟨aG,mG,cG,rfl,sG,nG,bG⟩
 have K2:=Hj (rdivmod_any a1 aG n1 c1 mG cG xs _ w1 ((Uh HS).1.below bG) sG ox (gcdL_ok xs ys))
 have HS1:=Hj (And.intro ((Uh HS).2.below bG) sG)
 have HO1:=Hj ((Uh HO).keep bG)
 have HB1:=Hj ((Uh HB).trans (bG.mono (Uh HB).size))
 generalize (gcdL xs ys).2 = eG at *
 clear sG nG bG HS HO HB K1
 go_wp2_with fail
 refine (Uh K2).mono ?_
 rintro _ w2 ⟨aq,mq,cq,ar,mr,cr,rfl,sq,nq,sr,nr,bq⟩
 have K3:=Hj (rdivmod_any a2 aG n2 c2 mG cG ys _ w2 ((Uh HS1).1.below bq) ((Uh HS1).2.below bq) oy (gcdL_ok xs ys))
 have HO2:=Hj ((Uh HO1).keep bq)
 have HB2:=Hj ((Uh HB1).trans (bq.mono (Uh HB1).size))
 generalize (divL xs (gcdL xs ys).1).2.2 = e2 at *
 clear sq nq sr nr bq HS1 HO1 HB1 K2
 go_wp2_with fail
 refine (Uh K3).mono ?_
 rintro _ w3 ⟨aD,mD,cD,au,mt,ct,rfl,sD,nD,st,nt,b3⟩
 have HO3:=Hj ((Uh HO2).keep b3)
 have HB3:=Hj ((Uh HB2).trans (b3.mono (Uh HB2).size))
 generalize (divL ys (gcdL xs ys).1).2.2 = e3 at *
 clear sD nD st nt b3 HO2 HB2 K3
 cases neg
 ·have hO3:=Uh HO3
  obtain ⟨x0,q0⟩:=hO3.cells 0 (by decide)
  obtain ⟨x1,q1⟩:=hO3.cells 1 (by decide)
  obtain ⟨x2,q2⟩:=hO3.cells 2 (by decide)
  have r0:=hO3.fz 0 (by decide)
  have r1:=hO3.fz 1 (by decide)
  have r2:=hO3.fz 2 (by decide)
  have H4:=Hj (three_set w3 w.heap.size (.bool false) (.slice aq mq cq) (.slice aD mD cD) hO3.cells)
  clear hO3
  go_wp2_with fail
  obtain ⟨p0,p1,p2,c4⟩:=Uh H4
  generalize ((w3.setCell ⟨w.heap.size,0,none⟩ (.bool false)).setCell ⟨w.heap.size,1,none⟩ (.slice aq mq cq)).setCell ⟨w.heap.size,2,none⟩ (.slice aD mD cD) = wf at *
  refine bodyPost_ret (by simp [results,Tryz.results34,go_sem,p0,p1,p2]; try rfl) rfl ?_
  exact ⟨_,_,_,_,_,_,_,rfl,(Uh HB3).trans (c4.below (Uh HB3).size (fun k hk => by omega))⟩
 ·rcases Nat.eq_zero_or_pos mq with e | e
  ·subst e
   have hO3:=Uh HO3
   obtain ⟨x0,q0⟩:=hO3.cells 0 (by decide)
   obtain ⟨x1,q1⟩:=hO3.cells 1 (by decide)
   obtain ⟨x2,q2⟩:=hO3.cells 2 (by decide)
   have r0:=hO3.fz 0 (by decide)
   have r1:=hO3.fz 1 (by decide)
   have r2:=hO3.fz 2 (by decide)
   have H4:=Hj (three_set w3 w.heap.size (.bool false) (.slice aq 0 cq) (.slice aD mD cD) hO3.cells)
   clear hO3
   go_wp2_with fail
   obtain ⟨p0,p1,p2,c4⟩:=Uh H4
   generalize ((w3.setCell ⟨w.heap.size,0,none⟩ (.bool false)).setCell ⟨w.heap.size,1,none⟩ (.slice aq 0 cq)).setCell ⟨w.heap.size,2,none⟩ (.slice aD mD cD) = wf at *
   refine bodyPost_ret (by simp [results,Tryz.results34,go_sem,p0,p1,p2]; try rfl) rfl ?_
   exact ⟨_,_,_,_,_,_,_,rfl,(Uh HB3).trans (c4.below (Uh HB3).size (fun k hk => by omega))⟩
  ·have e':decide (0 < mq) = true:=decide_eq_true e
   have e'':(0:Int) < (mq:Int):=by omega
   clear e
   have hO3:=Uh HO3
   obtain ⟨x0,q0⟩:=hO3.cells 0 (by decide)
   obtain ⟨x1,q1⟩:=hO3.cells 1 (by decide)
   obtain ⟨x2,q2⟩:=hO3.cells 2 (by decide)
   have r0:=hO3.fz 0 (by decide)
   have r1:=hO3.fz 1 (by decide)
   have r2:=hO3.fz 2 (by decide)
   have H4:=Hj (three_set w3 w.heap.size (.bool true) (.slice aq mq cq) (.slice aD mD cD) hO3.cells)
   clear hO3
   go_wp2_with fail
   obtain ⟨p0,p1,p2,c4⟩:=Uh H4
   generalize ((w3.setCell ⟨w.heap.size,0,none⟩ (.bool true)).setCell ⟨w.heap.size,1,none⟩ (.slice aq mq cq)).setCell ⟨w.heap.size,2,none⟩ (.slice aD mD cD) = wf at *
   refine bodyPost_ret (by simp [results,Tryz.results34,go_sem,p0,p1,p2]; try rfl) rfl ?_
   exact ⟨_,_,_,_,_,_,_,rfl,(Uh HB3).trans (c4.below (Uh HB3).size (fun k hk => by omega))⟩
end Go.Proofs.YtjoaijbhpgekoaaGreatDoor
