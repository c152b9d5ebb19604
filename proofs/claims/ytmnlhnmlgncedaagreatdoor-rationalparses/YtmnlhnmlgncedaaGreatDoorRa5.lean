/- Ra2 -/
import Derived.Test.YtmnlhnmlgncedaaGreatDoorRp5
import Derived.Test.YtmnlhnmlgncedaaGreatDoorUpd
import Derived.Lib.LazyBuf
namespace Go.Proofs.YtmnlhnmlgncedaaGreatDoor
open Go.RowKit Go.Deep
set_option linter.unusedVariables false
def ratV (neg:Bool) (a1:Option Addr) (n1 c1:Nat) (a2:Option Addr) (n2 c2:Nat):Value:=.agg #[.bool neg,.slice a1 n1 c1,.slice a2 n2 c2]

def MayR (neg:Bool) (xs ys:List Nat):Bool:=MayL xs && MayL ys && !decide (ys = []) && !(neg && decide (xs = [])) && decide (Nat.gcd (val xs) (val ys) = 1)

def ratBox (w:World) (neg:Bool) (a1:Option Addr) (n1 c1:Nat) (a2:Option Addr) (n2 c2:Nat):World:=w.alloc (.cells #[.bool neg,.slice a1 n1 c1,.slice a2 n2 c2] 25)

theorem one_is {v:Nat}:(limbs v = [1]) = (v = 1):=by
 apply propext
 constructor
 ·intro h
  have:=(limbs_rep v).val
  rw [h] at this
  simp [val] at this
  exact this.symm
 ·intro h
  rw [h,limbs_1]

set_option maxHeartbeats 8000000 in
theorem ratMay_any (neg:Bool) (a1 a2:Option Addr) (n1 c1 n2 c2:Nat) (xs ys:List Nat) (w:World) (h1:Sl w a1 n1 c1 xs) (h2:Sl w a2 n2 c2 ys) (ox:Ok xs) (oy:Ok ys) (hT:Tab64 w) :
  Calls Tryz.prog 6 #[ratV neg a1 n1 c1 a2 n2 c2] w fun e w' => e = .returned (.bool (MayR neg xs ys)) ∧ Below w.heap.size w w':=by
 have bel:Below w.heap.size w (ratBox w neg a1 n1 c1 a2 n2 c2):=bAl
 have d0:(ratBox w neg a1 n1 c1 a2 n2 c2).cell? ⟨w.heap.size,0,none⟩ = some (.bool neg):=by simp [ratBox]
 have d1:(ratBox w neg a1 n1 c1 a2 n2 c2).cell? ⟨w.heap.size,1,none⟩ = some (.slice a1 n1 c1):=by simp [ratBox]
 have d2:(ratBox w neg a1 n1 c1 a2 n2 c2).cell? ⟨w.heap.size,2,none⟩ = some (.slice a2 n2 c2):=by simp [ratBox]
 obtain ⟨wa,hwa⟩:∃ wa,ratBox w neg a1 n1 c1 a2 n2 c2 = wa:=⟨_,rfl⟩
 rw [hwa] at bel d0 d1 d2
 unfold ratBox at hwa
 have K1:=may_any a1 n1 c1 xs wa (h1.below bel)
 have K2:=may_any a2 n2 c2 ys wa (h2.below bel)
 have hl1:=h1.len
 have hl2:=h2.len
 have HB:=Hj bel
 cases m1:MayL xs
 ·rw [m1] at K1
  have K1':=Hj K1
  have HR:=Hj (show MayR neg xs ys = false from by simp [MayR,m1])
  clear K1 K2 h1 h2 hT m1 bel
  unfold ratV
  go_enter Tryz.func6,Tryz.ntmps6
  go_wp2_with fail
  refine (Uh K1').mono ?_
  rintro _ _ ⟨rfl,hw⟩
  obtain rfl:=hw.symm
  clear hw
  go_wp2_with fail
  go_ret
  rw [Uh HR]
  exact ⟨rfl,Uh HB⟩
 ·rw [m1] at K1
  cases m2:MayL ys
  ·rw [m2] at K2
   have K1':=Hj K1
   have K2':=Hj K2
   have HR:=Hj (show MayR neg xs ys = false from by simp [MayR,m2])
   clear K1 K2 h1 h2 hT m1 m2 bel
   unfold ratV
   go_enter Tryz.func6,Tryz.ntmps6
   go_wp2_with fail
   refine (Uh K1').mono ?_
   rintro _ _ ⟨rfl,hw⟩
   obtain rfl:=hw.symm
   clear hw
   go_wp2_with fail
   refine (Uh K2').mono ?_
   rintro _ _ ⟨rfl,hw⟩
   obtain rfl:=hw.symm
   clear hw
   go_wp2_with fail
   go_ret
   rw [Uh HR]
   exact ⟨rfl,Uh HB⟩
  ·rw [m2] at K2
   have K1':=Hj K1
   have K2':=Hj K2
   by_cases hy:ys = []
   ·have HR:=Hj (show MayR neg xs ys = false from by simp [MayR,hy])
    have hn2:n2 = 0:=by rw [← hl2,hy]; rfl
    subst hn2
    clear K1 K2 h1 h2 hT m1 m2 bel
    unfold ratV
    go_enter Tryz.func6,Tryz.ntmps6
    go_wp2_with fail
    refine (Uh K1').mono ?_
    rintro _ _ ⟨rfl,hw⟩
    obtain rfl:=hw.symm
    clear hw
    go_wp2_with fail
    refine (Uh K2').mono ?_
    rintro _ _ ⟨rfl,hw⟩
    obtain rfl:=hw.symm
    clear hw
    go_wp2_with fail
    go_ret
    rw [Uh HR]
    exact ⟨rfl,Uh HB⟩
   ·have hn2:0 < n2:=by rw [← hl2]; exact List.length_pos_iff.2 hy
    have t1:((n2:Int) == 0) = false:=by simp; omega
    have t2:¬ (n2:Int) = 0:=by omega
    by_cases hz:neg = true ∧ xs = []
    ·obtain ⟨rfl,hx⟩:=hz
     have hn1:n1 = 0:=by rw [← hl1,hx]; rfl
     subst hn1
     have HR:=Hj (show MayR true xs ys = false from by simp [MayR,hx])
     clear K1 K2 h1 h2 hT m1 m2 bel
     unfold ratV
     go_enter Tryz.func6,Tryz.ntmps6
     go_wp2_with fail
     refine (Uh K1').mono ?_
     rintro _ _ ⟨rfl,hw⟩
     obtain rfl:=hw.symm
     clear hw
     go_wp2_with fail
     refine (Uh K2').mono ?_
     rintro _ _ ⟨rfl,hw⟩
     obtain rfl:=hw.symm
     clear hw
     go_wp2_with fail
     go_ret
     rw [Uh HR]
     exact ⟨rfl,Uh HB⟩
    ·have hz2:neg = false ∨ ¬ xs = []:=by
      cases neg
      ·exact .inl rfl
      ·right; intro e; exact hz ⟨rfl,e⟩
     obtain ⟨G,hG⟩:∃ G,Nat.gcd (val xs) (val ys) = G:=⟨_,rfl⟩
     have HR:=Hj (show MayR neg xs ys = decide (G = 1) from by
      subst hG
      rcases hz2 with e | e
      ·simp [MayR,m1,m2,hy,e]
      ·simp [MayR,m1,m2,hy,e])
     have KD0:=ratDivisor_any a1 a2 n1 c1 n2 c2 xs ys wa (h1.below bel) (h2.below bel) ox oy m1 m2 (hT.below bel)
     rw [hG] at KD0
     have KD:=Hj KD0
     clear KD0 hG
     have hz3:neg = false ∨ (neg = true ∧ 0 < n1):=by
      cases neg
      ·exact .inl rfl
      ·right
       refine ⟨rfl,?_⟩
       rw [← hl1]
       exact List.length_pos_iff.2 (hz2.resolve_left (by simp))
     clear K1 K2 h1 h2 hT m1 m2 bel hz hz2
     unfold ratV
     rcases hz3 with rfl | ⟨rfl,hn1⟩
     ·go_enter Tryz.func6,Tryz.ntmps6
      go_wp2_with fail
      refine (Uh K1').mono ?_
      rintro _ _ ⟨rfl,hw⟩
      obtain rfl:=hw.symm
      clear hw
      go_wp2_with fail
      refine (Uh K2').mono ?_
      rintro _ _ ⟨rfl,hw⟩
      obtain rfl:=hw.symm
      clear hw
      go_wp2_with fail
      refine (Uh KD).mono ?_
      rintro _ w1 ⟨a3,m3,c3,rfl,s3,n3,b3⟩
      have KI:=isOne_any a3 m3 c3 (limbs G) w1 s3 (limbs_rep G).ok
      simp only [one_is] at KI
      have KI':=Hj KI
      have HB1:=Hj ((Uh HB).trans (b3.mono (Uh HB).size))
      clear KI s3 n3 b3
      go_wp2_with fail
      refine (Uh KI').mono ?_
      rintro _ _ ⟨rfl,hw⟩
      obtain rfl:=hw.symm
      clear hw
      go_wp2_with fail
      go_ret
      rw [Uh HR]
      exact ⟨rfl,Uh HB1⟩
     ·have t3:((n1:Int) == 0) = false:=by simp; omega
      have t4:¬ (n1:Int) = 0:=by omega
      go_enter Tryz.func6,Tryz.ntmps6
      go_wp2_with fail
      refine (Uh K1').mono ?_
      rintro _ _ ⟨rfl,hw⟩
      obtain rfl:=hw.symm
      clear hw
      go_wp2_with fail
      refine (Uh K2').mono ?_
      rintro _ _ ⟨rfl,hw⟩
      obtain rfl:=hw.symm
      clear hw
      go_wp2_with fail
      refine (Uh KD).mono ?_
      rintro _ w1 ⟨a3,m3,c3,rfl,s3,n3,b3⟩
      have KI:=isOne_any a3 m3 c3 (limbs G) w1 s3 (limbs_rep G).ok
      simp only [one_is] at KI
      have KI':=Hj KI
      have HB1:=Hj ((Uh HB).trans (b3.mono (Uh HB).size))
      clear KI s3 n3 b3
      go_wp2_with fail
      refine (Uh KI').mono ?_
      rintro _ _ ⟨rfl,hw⟩
      obtain rfl:=hw.symm
      clear hw
      go_wp2_with fail
      go_ret
      rw [Uh HR]
      exact ⟨rfl,Uh HB1⟩
section
variable {P:Program} {w:World}
theorem wpList_append_firstR {ops:Array Oper} {rest:List Oper} {o:Oper} {a:Act} {Q:Exit → Act → World → Prop} (hgd:o.guard = none) (s x:Operand) (t:TypeId)
  (ho:o.op = .call { callee:=.builtin .append,args:=#[s,x],argTypes:=#[t,t] })
  (base:Nat) (e:TypeId) (i:TypeInfo) (z:Value) (bytes:Nat) (ht:P.underlying t = some (.slice e)) (hi:P.info? e = some i) (hz:i.zero = some z)
  (hsize:i.size = 1) (hby:i.bytes = bytes) (hzs:z.cells.size = 1) (g0:Nat)
  (hs:a.eval s = .slice (some ⟨g0,0,none⟩) 0 0) (hown:w.ownsRow base e 1 (.slice (some ⟨g0,0,none⟩) 0 0) 0 [])
  (ao:Option Addr) (m c:Nat) (news:List Value) (hx:a.eval x = .slice ao m c) (hl:news.length = m) (hnone:ao = none → m = 0 ∧ c = 0)
  (hnews:∀ ad,ao = some ad → ∀ j u,news[j]? = some u → w.cell? (ad.add j) = some u) (h1:∀ u ∈ news,u.oneCell' = true)
  (h63:m ≤ maxLen) (hbytes:m * bytes ≤ 140737488355328) (hbase:base ≤ w.heap.size)
  (h:∀ g cap w',w'.ownsRow base e 1 (.slice (some ⟨g,0,none⟩) m cap) m news → w.grownBy w' (some g0) → wpList P ops Q rest (a.put o.dst (.slice (some ⟨g,0,none⟩) m cap)) w'):wpList P ops Q (o :: rest) a w:=by
 by_cases hm:m = 0
 ·refine wpList_append_fits_any w hgd s x t ho base e i 1 ht hi hsize g0 0 0 [] hs hown ao m c news hx (by simpa using hl) hnone hnews h1 (by omega) ?_
  intro w' k1 k2
  simp only [Nat.zero_add,List.nil_append] at k1 ⊢
  exact h g0 0 w' k1 k2
 ·cases ao with
  | none => exact absurd (hnone rfl).1 hm
  | some ad =>
   refine wpList_append_lies w hgd s x t ho base e i z 1 bytes ht hi hz hsize hby hzs (by decide) _ 0 [] hs hown ad m c news hx (by simpa using hl) (hnews ad rfl) h1 (by omega) (by simpa using h63) (by simpa using hbytes) hbase _ rfl ?_
   intro g cap w' k1 k2 _ _
   simp only [Nat.zero_add,List.nil_append] at k1 ⊢
   exact h g cap w' k1 k2
end

theorem valsR_one (xs:List Nat):∀ u ∈ vals xs,u.oneCell' = true:=by
 intro u hu
 simp [vals] at hu
 obtain ⟨x,_,rfl⟩:=hu
 rfl

def NewS (w w':World) (xs:List Nat) (e:Ending):Prop:=∃ a m c,e = .returned (.slice a m c) ∧ Sl w' a m c xs ∧ NewAt w.heap.size a ∧ Below w.heap.size w w'

set_option maxHeartbeats 4000000 in
theorem sclone_any (a:Option Addr) (n c:Nat) (xs:List Nat) (w:World) (h:Sl w a n c xs) (hn:n ≤ 1000000) :
  Calls Tryz.prog 79 #[.slice a n c] w fun e w' => NewS w w' xs e:=by
 have hl:=h.len
 cases a with
 | none =>
  have hx:xs = []:=by
   rcases h.cells with e | ⟨b,off,e,_⟩
   ·exact e
   ·cases e
  subst hx
  simp at hl
  subst hl
  clear h
  have hq:=fun w => (show (binOp .eql 23 (.slice none 0 c) (.slice none 0 0)).run Tryz.prog w = .ok (.bool (none:Option Addr).isNone) w from by apply Lib.run_eql_slice_nil; exact Tryz.underlying23)
  simp only [Option.isNone_none] at hq
  go_enter Tryz.func79,Tryz.ntmps79
  go_wp2_with fail
  go_ret
  exact ⟨none,0,0,rfl,sl_nil _,newAt_nil _,Below.refl _ _⟩
 | some x =>
  obtain ⟨i80,hi80,hz80,hs80,hb80⟩:=info_parts Tryz.info_u32
  have I80:=Hj (And.intro hi80 (And.intro hz80 (And.intro hs80 hb80)))
  have H:=Hj h
  clear hi80 hz80 hs80 hb80 h
  have hq:=fun w => (show (binOp .eql 23 (.slice (some x) n c) (.slice none 0 0)).run Tryz.prog w = .ok (.bool (some x).isNone) w from by apply Lib.run_eql_slice_nil; exact Tryz.underlying23)
  simp only [Option.isNone_some] at hq
  go_enter Tryz.func79,Tryz.ntmps79
  go_wp2_with (at_builtin; refine wpList_append_firstR rfl _ _ 23 rfl w.heap.size 84 i80 (.int .u32 0) 4 Tryz.underlying23 (Uh I80).1 (Uh I80).2.1 (Uh I80).2.2.1 (Uh I80).2.2.2 rfl w.heap.size rfl ⟨rfl,.inr ⟨w.heap.size,0,#[],rfl,Nat.le_refl _,alloc_block _ _,Nat.le_refl _,Nat.zero_le _,rfl,rfl⟩⟩ (some x) n c (vals xs) rfl (by simp [vals,hl]) (by intro e; cases e) ?hnews (valsR_one xs) (by unfold maxLen; omega) (by omega) (by simp) ?_)
  case hnews =>
   intro ad had j u hu
   have hj:j < xs.length:=by
    have:=(List.getElem?_eq_some_iff.1 hu).1
    simpa [vals] using this
   have hne:xs ≠ []:=by intro e; rw [e] at hj; simp at hj
   obtain ⟨b,off,e,hc⟩:=(Uh H).cells.resolve_left hne
   rw [e] at had
   cases had
   have h1:=hc j hj
   have e2:(⟨b,off,none⟩:Addr).add j = ⟨b,off + j,none⟩:=by unfold Addr.add; split <;> simp_all
   rw [e2,World.cell?_alloc_lt _ _ _ (World.block_lt_of_cell? _ _ h1),h1,← hu]
   simp [vals,List.getD,hj]
  intro g cap w2 hown hgrow
  obtain ⟨a2,c2,e2,s2,n2⟩:=own_sl hown
  cases e2
  have HB:=Hj (show Below w.heap.size w w2 from Below.grown (bAl) hgrow (by simp) (fun k hk => by cases hk; exact Nat.le_refl _))
  have HS:=Hj (And.intro s2 n2)
  clear hown hgrow s2 n2
  go_wp2_with fail
  go_ret
  exact ⟨_,n,cap,rfl,(Uh HS).1,(Uh HS).2,Uh HB⟩

set_option maxHeartbeats 4000000 in
theorem signed_any (neg:Bool) (a1 a2:Option Addr) (n1 c1 n2 c2:Nat) (w:World) :
  Calls Tryz.prog 78 #[.bool neg,.slice a1 n1 c1,.slice a2 n2 c2] w fun e w' => e = .returned (ratV (neg && decide (0 < n1)) a1 n1 c1 a2 n2 c2) ∧ Below w.heap.size w w':=by
 have bel:∀ g,Below w.heap.size w (w.alloc (.cells #[.bool g,.slice a1 n1 c1,.slice a2 n2 c2] 25)):=fun g => bAl
 have HB:=Hj bel
 clear bel
 cases neg
 ·go_enter Tryz.func78,Tryz.ntmps78
  go_wp2_with fail
  refine bodyPost_ret (by simp [results,Tryz.results78,go_sem]; try rfl) rfl ?_
  exact ⟨rfl,Uh HB false⟩
 ·by_cases h0:0 < n1
  ·have h0':(0:Int) < (n1:Int):=by omega
   go_enter Tryz.func78,Tryz.ntmps78
   go_wp2_with fail
   refine bodyPost_ret (by simp [results,Tryz.results78,go_sem]; try rfl) rfl ?_
   exact ⟨by simp [ratV,h0],Uh HB true⟩
  ·have h0':n1 = 0:=by omega
   subst h0'
   go_enter Tryz.func78,Tryz.ntmps78
   go_wp2_with fail
   refine bodyPost_ret (by simp [results,Tryz.results78,go_sem]; try rfl) rfl ?_
   exact ⟨by simp [ratV],Uh HB false⟩

set_option maxHeartbeats 4000000 in
theorem isZero_any (neg:Bool) (a1 a2:Option Addr) (n1 c1 n2 c2:Nat) (w:World) :
  Calls Tryz.prog 50 #[ratV neg a1 n1 c1 a2 n2 c2] w fun e w' => e = .returned (.bool (decide (n1 = 0))) ∧ Below w.heap.size w w':=by
 have bel:Below w.heap.size w (w.alloc (.cells #[.bool neg,.slice a1 n1 c1,.slice a2 n2 c2] 25)):=bAl
 have HB:=Hj bel
 clear bel
 unfold ratV
 by_cases h0:n1 = 0
 ·subst h0
  go_enter Tryz.func50,Tryz.ntmps50
  go_wp2_with fail
  go_ret
  exact ⟨by simp,Uh HB⟩
 ·have t1:((n1:Int) == 0) = false:=by simp; omega
  have t2:¬ (n1:Int) = 0:=by omega
  go_enter Tryz.func50,Tryz.ntmps50
  go_wp2_with fail
  go_ret
  exact ⟨by simp [h0],Uh HB⟩
def NewR (w w':World) (neg:Bool) (xs ys:List Nat) (v:Value):Prop :=
 ∃ a1 m1 c1 a2 m2 c2,v = ratV neg a1 m1 c1 a2 m2 c2 ∧ Sl w' a1 m1 c1 xs ∧ Sl w' a2 m2 c2 ys ∧ NewAt w.heap.size a1 ∧ NewAt w.heap.size a2 ∧ Below w.heap.size w w'

structure Box (w wa:World) (neg:Bool) (a1:Option Addr) (n1 c1:Nat) (a2:Option Addr) (n2 c2:Nat):Prop where
 bel:Below w.heap.size w wa
 lt:w.heap.size < wa.heap.size
 d0:wa.cell? ⟨w.heap.size,0,none⟩ = some (.bool neg)
 d1:wa.cell? ⟨w.heap.size,1,none⟩ = some (.slice a1 n1 c1)
 d2:wa.cell? ⟨w.heap.size,2,none⟩ = some (.slice a2 n2 c2)

theorem Box.made (w:World) (neg:Bool) (a1:Option Addr) (n1 c1:Nat) (a2:Option Addr) (n2 c2:Nat):Box w (ratBox w neg a1 n1 c1 a2 n2 c2) neg a1 n1 c1 a2 n2 c2 :=
 ⟨bAl,by simp [ratBox],by simp [ratBox],by simp [ratBox],by simp [ratBox]⟩
theorem Box.keep {w wa wb:World} {neg:Bool} {a1:Option Addr} {n1 c1:Nat} {a2:Option Addr} {n2 c2:Nat} (h:Box w wa neg a1 n1 c1 a2 n2 c2) (k:Below wa.heap.size wa wb):Box w wb neg a1 n1 c1 a2 n2 c2:=by
 have hc:∀ i,wb.cell? ⟨w.heap.size,i,none⟩ = wa.cell? ⟨w.heap.size,i,none⟩:=fun i => by unfold World.cell?; simp only; rw [k.block _ h.lt]
 exact ⟨h.bel.trans (k.mono h.bel.size),Nat.lt_of_lt_of_le h.lt k.size,(hc 0).trans h.d0,(hc 1).trans h.d1,(hc 2).trans h.d2⟩

theorem three_set (w1:World) (R:Nat) (v0 v1 v2:Value) (h:∀ i,i < 3 → ∃ v,w1.cell? ⟨R,i,none⟩ = some v) :
  (((w1.setCell ⟨R,0,none⟩ v0).setCell ⟨R,1,none⟩ v1).setCell ⟨R,2,none⟩ v2).cell? ⟨R,0,none⟩ = some v0 ∧
  (((w1.setCell ⟨R,0,none⟩ v0).setCell ⟨R,1,none⟩ v1).setCell ⟨R,2,none⟩ v2).cell? ⟨R,1,none⟩ = some v1 ∧
  (((w1.setCell ⟨R,0,none⟩ v0).setCell ⟨R,1,none⟩ v1).setCell ⟨R,2,none⟩ v2).cell? ⟨R,2,none⟩ = some v2 ∧
  Chg (fun j => j = R) w1 (((w1.setCell ⟨R,0,none⟩ v0).setCell ⟨R,1,none⟩ v1).setCell ⟨R,2,none⟩ v2):=by
 obtain ⟨x0,h0⟩:=h 0 (by decide)
 obtain ⟨x1,h1⟩:=h 1 (by decide)
 obtain ⟨x2,h2⟩:=h 2 (by decide)
 have s0:(w1.setCell ⟨R,0,none⟩ v0).cell? ⟨R,0,none⟩ = some v0:=World.cell?_setCell_same _ _ _ h0
 have s1:(w1.setCell ⟨R,0,none⟩ v0).cell? ⟨R,1,none⟩ = some x1:=by rw [World.cell?_setCell_other _ _ _ _ (by simp)]; exact h1
 have s2:(w1.setCell ⟨R,0,none⟩ v0).cell? ⟨R,2,none⟩ = some x2:=by rw [World.cell?_setCell_other _ _ _ _ (by simp)]; exact h2
 have t1:((w1.setCell ⟨R,0,none⟩ v0).setCell ⟨R,1,none⟩ v1).cell? ⟨R,1,none⟩ = some v1:=World.cell?_setCell_same _ _ _ s1
 have t2:((w1.setCell ⟨R,0,none⟩ v0).setCell ⟨R,1,none⟩ v1).cell? ⟨R,2,none⟩ = some x2:=by rw [World.cell?_setCell_other _ _ _ _ (by simp)]; exact s2
 refine ⟨?_,?_,World.cell?_setCell_same _ _ _ t2,((Chg.of_set (S:=fun j => j = R) _ _ _ _ rfl).trans (Chg.of_set (S:=fun j => j = R) _ _ _ _ rfl)).trans (Chg.of_set (S:=fun j => j = R) _ _ _ _ rfl)⟩
 ·rw [World.cell?_setCell_other _ _ _ _ (by simp),World.cell?_setCell_other _ _ _ _ (by simp)]; exact s0
 ·rw [World.cell?_setCell_other _ _ _ _ (by simp)]; exact t1

structure Out (w:World) (R:Nat):Prop where
 cells:∀ i,i < 3 → ∃ v,w.cell? ⟨R,i,none⟩ = some v
 fz:∀ i,i < 3 → w.frozen? ⟨R,i,none⟩ = false
 lt:R < w.heap.size
theorem Out.made (w:World):Out (w.alloc (.cells #[.bool false,.slice none 0 0,.slice none 0 0] 25)) w.heap.size:=by
 refine ⟨fun i hi => ?_,fun i hi => ?_,by simp⟩
 ·match i,hi with
  | 0,_ => exact ⟨.bool false,by simp⟩
  | 1,_ => exact ⟨.slice none 0 0,by simp⟩
  | 2,_ => exact ⟨.slice none 0 0,by simp⟩
 ·match i,hi with
  | 0,_ => simp
  | 1,_ => simp
  | 2,_ => simp
theorem Out.keep {w w':World} {R:Nat} (h:Out w R) (k:Below w.heap.size w w'):Out w' R:=by
 refine ⟨fun i hi => ?_,fun i hi => ?_,Nat.lt_of_lt_of_le h.lt k.size⟩
 ·obtain ⟨v,hv⟩:=h.cells i hi
  exact ⟨v,by rw [← hv]; unfold World.cell?; simp only; rw [k.block _ h.lt]⟩
 ·rw [← h.fz i hi]; unfold World.frozen?; simp only; rw [k.block _ h.lt]

theorem ratV_congr {g h:Bool} {a1:Option Addr} {n1 c1:Nat} {a2:Option Addr} {n2 c2:Nat} (e:g = h):ratV g a1 n1 c1 a2 n2 c2 = ratV h a1 n1 c1 a2 n2 c2:=by rw [e]
def ResR (w w':World) (neg:Bool) (xs ys:List Nat) (er:Int) (e:Ending):Prop:=∃ v,e = .returned (.tuple #[v,.int .i64 er]) ∧ NewR w w' neg xs ys v

def signR (neg:Bool) (xs:List Nat):Int:=if neg then -1 else if xs = [] then 0 else 1

set_option maxHeartbeats 4000000 in
theorem rsign_any (neg:Bool) (a1 a2:Option Addr) (n1 c1 n2 c2:Nat) (xs:List Nat) (w:World) (hl:xs.length = n1) :
  Calls Tryz.prog 84 #[ratV neg a1 n1 c1 a2 n2 c2] w fun e w' => e = .returned (.int .i64 (signR neg xs)) ∧ Below w.heap.size w w':=by
 have bx:=Box.made w neg a1 n1 c1 a2 n2 c2
 obtain ⟨wa,hwa⟩:∃ wa,ratBox w neg a1 n1 c1 a2 n2 c2 = wa:=⟨_,rfl⟩
 rw [hwa] at bx
 unfold ratBox at hwa
 have d0:=bx.d0
 have d1:=bx.d1
 have d2:=bx.d2
 have HX:=Hj bx
 clear bx
 cases neg
 ·have KZ:=isZero_any false a1 a2 n1 c1 n2 c2 wa
  unfold ratV at KZ ⊢
  by_cases h0:n1 = 0
  ·rw [decide_eq_true h0] at KZ
   subst h0
   have KZ':=Hj KZ
   have hx:xs = []:=List.eq_nil_of_length_eq_zero (by omega)
   have HS:=Hj (show signR false xs = 0 from by simp [signR,hx])
   clear KZ hx
   go_enter Tryz.func84,Tryz.ntmps84
   go_wp2_with fail
   refine (Uh KZ').mono ?_
   rintro _ w1 ⟨rfl,b1⟩
   have HB:=Hj ((Uh HX).bel.trans (b1.mono (Uh HX).bel.size))
   clear b1 KZ'
   go_wp2_with fail
   go_ret
   rw [Uh HS]
   exact ⟨rfl,Uh HB⟩
  ·rw [decide_eq_false h0] at KZ
   have KZ':=Hj KZ
   have hx:¬ xs = []:=by intro e; rw [e] at hl; simp at hl; omega
   have HS:=Hj (show signR false xs = 1 from by simp [signR,hx])
   clear KZ hx
   go_enter Tryz.func84,Tryz.ntmps84
   go_wp2_with fail
   refine (Uh KZ').mono ?_
   rintro _ w1 ⟨rfl,b1⟩
   have HB:=Hj ((Uh HX).bel.trans (b1.mono (Uh HX).bel.size))
   clear b1 KZ'
   go_wp2_with fail
   go_ret
   rw [Uh HS]
   exact ⟨rfl,Uh HB⟩
 ·have HS:=Hj (show signR true xs = -1 from by simp [signR])
  unfold ratV
  go_enter Tryz.func84,Tryz.ntmps84
  go_wp2_with fail
  go_ret
  rw [Uh HS]
  exact ⟨rfl,(Uh HX).bel⟩
end Go.Proofs.YtmnlhnmlgncedaaGreatDoor
