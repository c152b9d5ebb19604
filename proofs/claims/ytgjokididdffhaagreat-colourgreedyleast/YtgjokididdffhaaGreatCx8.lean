/- Cx8 -/
import Derived.Test.YtgjokididdffhaaGreatCx7
namespace Go.Proofs.YtgjokididdffhaaGreat
open Go.RowKit Go.Deep
set_option linter.unusedVariables false
def CqP (ad:Nat → Nat → Prop) (cs:Nat → Int) (Fo:Int → Int → Prop) (u v:Nat) (c d:Int):Prop:=∃ u' v',(u' < u ∨ (u' = u ∧ v' < v)) ∧ ad u' v' ∧ cs u' = c ∧ cs v' = d ∧ c ≤ d ∧ ¬ Fo c d
def BsI (P:Int → Int → Prop):Option (Int × Int) → Prop
 | none => ∀ c d,¬ P c d
 | some (c,d) => P c d ∧ ∀ c' d',P c' d' → (c < c' ∨ (c = c' ∧ d ≤ d'))
def ciL:Option (Int × Int) → List Int
 | none => []
 | some (c,d) => [c,d]
theorem BsI.congr {P P':Int → Int → Prop} {o:Option (Int × Int)} (h:BsI P o) (e:∀ c d,P' c d ↔ P c d):BsI P' o:=by
 have:P' = P:=by funext c d; exact propext (e c d)
 rw [this]; exact h
theorem BsI.one {P:Int → Int → Prop} {o q:Option (Int × Int)} (h:BsI P o) (g:BsI P q):o = q:=by
 cases o with
 | none =>
  cases q with
  | none => rfl
  | some q => exact absurd g.1 (h _ _)
 | some o =>
  cases q with
  | none => exact absurd h.1 (g _ _)
  | some q =>
   obtain ⟨a,b⟩:=o
   obtain ⟨c,d⟩:=q
   have h1:=h.2 c d g.1
   have h2:=g.2 a b h.1
   have:a = c ∧ b = d:=by omega
   rw [this.1,this.2]
section
variable {ad:Nat → Nat → Prop} {cs:Nat → Int} {Fo:Int → Int → Prop} {u v:Nat}
theorem CqP.next (c d:Int):CqP ad cs Fo u (v + 1) c d ↔ (CqP ad cs Fo u v c d ∨ (ad u v ∧ cs u = c ∧ cs v = d ∧ c ≤ d ∧ ¬ Fo c d)):=by
 constructor
 ·rintro ⟨u',v',h,k⟩
  by_cases e:u' = u ∧ v' = v
  ·obtain ⟨rfl,rfl⟩:=e; exact .inr k
  ·exact .inl ⟨u',v',by omega,k⟩
 ·rintro (⟨u',v',h,k⟩ | k)
  ·exact ⟨u',v',by omega,k⟩
  ·exact ⟨u,v,by omega,k⟩
theorem CqP.row {N:Nat} (had:∀ u v,ad u v → u < N ∧ v < N) (c d:Int):CqP ad cs Fo (u + 1) 0 c d ↔ CqP ad cs Fo u N c d:=by
 constructor
 ·rintro ⟨u',v',h,k⟩
  have:=(had u' v' k.1).2
  exact ⟨u',v',by omega,k⟩
 ·rintro ⟨u',v',h,k⟩
  exact ⟨u',v',by omega,k⟩
theorem BsI.skip {o:Option (Int × Int)} (h:BsI (CqP ad cs Fo u v) o) (k:ad u v → cs u ≤ cs v → Fo (cs u) (cs v)):BsI (CqP ad cs Fo u (v + 1)) o:=h.congr (fun c d => by
 rw [CqP.next]
 refine ⟨fun q => q.elim id (fun q => ?_),.inl⟩
 obtain ⟨h1,rfl,rfl,h4,h5⟩:=q
 exact absurd (k h1 h4) h5)
theorem BsI.keep {a b:Int} (h:BsI (CqP ad cs Fo u v) (some (a,b))) (k:¬ (cs u < a ∨ (cs u = a ∧ cs v < b))):BsI (CqP ad cs Fo u (v + 1)) (some (a,b)):=by
 refine ⟨(CqP.next a b).2 (.inl h.1),fun c d q => ?_⟩
 rcases (CqP.next c d).1 q with q | ⟨_,rfl,rfl,_,_⟩
 ·exact h.2 c d q
 ·omega
theorem BsI.take {o:Option (Int × Int)} (h:BsI (CqP ad cs Fo u v) o) (h1:ad u v) (h2:cs u ≤ cs v) (h3:¬ Fo (cs u) (cs v)) (k:∀ a b,o = some (a,b) → (cs u < a ∨ (cs u = a ∧ cs v < b))):BsI (CqP ad cs Fo u (v + 1)) (some (cs u,cs v)):=by
 refine ⟨(CqP.next _ _).2 (.inr ⟨h1,rfl,rfl,h2,h3⟩),fun c d q => ?_⟩
 rcases (CqP.next c d).1 q with q | ⟨_,rfl,rfl,_,_⟩
 ·cases o with
  | none => exact absurd q (h c d)
  | some p =>
   obtain ⟨a,b⟩:=p
   have:=h.2 c d q
   have:=k a b rfl
   omega
 ·omega
end
set_option maxRecDepth 100000 in
set_option maxHeartbeats 16000000 in
theorem wcircle_any (N gb m:Nat) (Q:Nat → Bool) (ad:Nat → Nat → Prop) (hQ:∀ u v,u < N → v < N → (Q (u * N + v) = true ↔ ad u v)) (had:∀ u v,ad u v → u < N ∧ v < N) (ac:Option Addr) (cc:Nat) (xs:List Int) (w:World) (hN:N ≤ 128) (hmm:N * N = m) (hR:RoV w gb m (fun i => .bool (Q i))) (h3:SlI w ac N cc xs) (q:Option (Int × Int)) (hq:BsI (CqP ad (fun i => xs.getD i 0) (fun c d => FoP (adQ Q N) (fun u => u < N ∧ twB (fun i => xs.getD i 0) c d u = true)) N 0) q) :
  Calls Tryz.prog 62 #[grV N gb m,.slice ac N cc] w fun e w' => OwA (ciL q) w w' e:=by
 obtain ⟨wb,hwb⟩:∃ x,w.alloc (.cells #[.int .i64 (N:Int),.slice (some ⟨gb,0,none⟩) m m] 45) = x:=⟨_,rfl⟩
 have bb:Below w.heap.size w wb:=by rw [← hwb]; exact bAl
 have hT:=BoxP.made w #[.int .i64 (N:Int),.slice (some ⟨gb,0,none⟩) m m] 45
 rw [hwb] at hT
 have hm2:m ≤ 16384:=by rw [← hmm]; exact Nat.mul_le_mul hN hN
 have p0:=(hT.all 0 _ rfl).1
 obtain ⟨cs,hcs⟩:∃ cs,(fun i => xs.getD i 0) = cs:=⟨_,rfl⟩
 rw [hcs] at hq
 obtain ⟨Fo,hFo⟩:∃ Fo,(fun c d => FoP (adQ Q N) (fun u => u < N ∧ twB cs c d u = true)) = Fo:=⟨_,rfl⟩
 rw [hFo] at hq
 have HA:=Hj (show ∀ W,Below wb.heap.size wb W → BoxP W w.heap.size [.int .i64 (N:Int),.slice (some ⟨gb,0,none⟩) m m] ∧ SlI W ac N cc xs ∧ Below w.heap.size w W from fun W b => ⟨hT.below b,(h3.below bb).below b,bb.trans (b.mono bb.size)⟩)
 have HM:=Hj (show ∀ W,Below wb.heap.size wb W → ∀ u z t,u < N → z < N → Q (u * N + z) = t → Calls Tryz.prog 59 #[.agg #[.int .i64 (N:Int),.slice (some ⟨gb,0,none⟩) m m],.int .i64 (u:Int),.int .i64 (z:Int)] W fun e w' => e = .returned (.bool t) ∧ Below W.heap.size W w' from fun W b u z t hu hz ht => by
  subst ht
  exact wmeet_any N gb m u z Q W hN (by omega) (by omega) (by rw [← hmm]; have:=Nat.mul_le_mul_right N (show u + 1 ≤ N by omega); rw [Nat.add_mul,Nat.one_mul] at this; omega) hm2 ((hR.below bb).below b))
 have HF:=Hj (show ∀ W,Below wb.heap.size wb W → ∀ c d t,TruQ t (Fo c d) → Calls Tryz.prog 91 #[.agg #[.int .i64 (N:Int),.slice (some ⟨gb,0,none⟩) m m],.slice ac N cc,.int .i64 c,.int .i64 d] W fun e w' => e = .returned (.bool t) ∧ Below W.heap.size W w' from fun W b c d t ht => wforestL_any N gb m Q ac cc xs cs hcs c d W hN hmm ((hR.below bb).below b) ((h3.below bb).below b) t (by rw [← hFo] at ht; exact ht))
 have HQ:=Hj hQ
 have HD:=Hj had
 have HO:=Hj hq
 have HCS:=Hj hcs
 have hwsz:=bb.size
 have hwlt:=hT.lt
 clear hT bb hR h3 hq hmm hQ had hFo hcs
 unfold grV
 go_enter Tryz.func62,Tryz.ntmps62
 go_wp2_with fail
 clear p0
 go_loopw [6,5] (fun uv bv wr => ∃ (u:Nat) (o:Option (Int × Int)),u ≤ N ∧ uv = .int .i64 (u:Int) ∧ Hid (BsI (CqP ad cs Fo u 0) o) ∧ Hid (wr.ownsRow wb.heap.size 3 1 bv (ciL o).length (valsI (ciL o))) ∧ Hid (Below wb.heap.size wb wr)) (fun uv _ _ => N - (intOf uv).toNat)
 case atStart => exact ⟨0,none,Nat.zero_le _,rfl,Hj (fun c d ⟨u',v',h,_⟩ => by omega),Hj (World.ownsRow_nil _ _ _ _),Hj (Below.refl _ _)⟩
 case round =>
  obtain ⟨u,o,hu,rfl,HB,HO1,HW⟩:=hrel
  have hx:=Uh HA wr (Uh HW)
  have p0:=(hx.1.all 0 _ rfl).1
  by_cases hul:u < N
  ·have hul':(u:Int) < (N:Int):=by omega
   clear hx
   go_wp2_with fail
   clear p0
   go_loopw [7,5] (fun vv bv wq => ∃ (v:Nat) (o:Option (Int × Int)),v ≤ N ∧ vv = .int .i64 (v:Int) ∧ Hid (BsI (CqP ad cs Fo u v) o) ∧ Hid (wq.ownsRow wb.heap.size 3 1 bv (ciL o).length (valsI (ciL o))) ∧ Hid (Below wb.heap.size wb wq)) (fun vv _ _ => N - (intOf vv).toNat)
   case atStart => exact ⟨0,o,Nat.zero_le _,rfl,HB,HO1,HW⟩
   case round =>
    obtain ⟨v,o,hv,rfl,HB,HO1,HW⟩:=hrel
    have hx:=Uh HA wr (Uh HW)
    have p0:=(hx.1.all 0 _ rfl).1
    have p1:=(hx.1.all 1 _ rfl).1
    by_cases hvl:v < N
    ·have hvl':(v:Int) < (N:Int):=by omega
     obtain ⟨bc,oc,ea,hcx⟩:=hx.2.1.at (by omega)
     subst ea
     have s0:wr.cell? ⟨bc,oc + u,none⟩ = some (.int .i64 (cs u)):=by rw [← Uh HCS]; exact hcx u hul
     have s1:wr.cell? ⟨bc,oc + v,none⟩ = some (.int .i64 (cs v)):=by rw [← Uh HCS]; exact hcx v hvl
     obtain ⟨y0,hy0⟩:∃ y,cs u = y:=⟨_,rfl⟩
     obtain ⟨y1,hy1⟩:∃ y,cs v = y:=⟨_,rfl⟩
     rw [hy0] at s0
     rw [hy1] at s1
     obtain ⟨q1,hq1⟩:∃ t,Q (u * N + v) = t:=⟨_,rfl⟩
     have KM:=Hj (Uh HM wr (Uh HW) u v q1 hul hvl hq1)
     have HQ1:=Hj (show TruQ q1 (ad u v) from by rw [← hq1]; exact Uh HQ u v hul hvl)
     have HY:=Hj (And.intro hy0 hy1)
     clear hq1 hy0 hy1 hx hcx
     cases q1
     ·have HN:=Hj ((Uh HB).skip (fun k => by have:=(Uh HQ1).2 k; cases this))
      go_wp2_with fail
      refine (Uh KM).mono ?_
      rintro _ w5 ⟨rfl,b5⟩
      have HW5:=Hj ((Uh HW).trans (b5.mono (Uh HW).size))
      have HO5:=Hj (ownsRow_chg (S:=fun _ => False) (Uh HO1) (Chg.of_below b5) (fun _ _ x => x))
      clear KM p0 p1
      have hx5:=Uh HA w5 (Uh HW5)
      have p0:=(hx5.1.all 0 _ rfl).1
      have p1:=(hx5.1.all 1 _ rfl).1
      clear b5 hx5
      clear s0 s1
      go_wp2_with fail
      exact ⟨⟨v + 1,o,by omega,by (first | rfl | go_num),HN,HO5,HW5⟩,by simp [intOf]; omega⟩
     ·by_cases hle:y0 ≤ y1
      ·have hle':decide (y1 < y0) = false:=by simp; omega
       obtain ⟨fo,hfo⟩:=truth (Fo y0 y1)
       have HFO:=Hj (show TruQ fo (Fo y0 y1) from hfo)
       have KF:=Hj (fun W (k:Below wb.heap.size wb W) => Uh HF W k y0 y1 fo hfo)
       clear hfo
       cases o with
       | none =>
        obtain ⟨ap,cp,rfl,hsl⟩:=own_slI (n:=0) (xs:=[]) (Uh HO1)
        clear hsl
        go_wp2_with fail
        refine (Uh KM).mono ?_
        rintro _ w5 ⟨rfl,b5⟩
        have HW5:=Hj ((Uh HW).trans (b5.mono (Uh HW).size))
        have HO5:=Hj (ownsRow_chg (S:=fun _ => False) (Uh HO1) (Chg.of_below b5) (fun _ _ x => x))
        clear KM p0 p1
        have hx5:=Uh HA w5 (Uh HW5)
        have p0:=(hx5.1.all 0 _ rfl).1
        have p1:=(hx5.1.all 1 _ rfl).1
        clear b5 hx5
        clear s0 s1
        go_wp2_with fail
        refine (Uh KF w5 (Uh HW5)).mono ?_
        rintro _ w6 ⟨rfl,b6⟩
        have HW6:=Hj ((Uh HW5).trans (b6.mono (Uh HW5).size))
        have HO6:=Hj (ownsRow_chg (S:=fun _ => False) (Uh HO5) (Chg.of_below b6) (fun _ _ x => x))
        clear KF b6 p0 p1
        cases fo
        ·have HN:=Hj (by have h9:=(Uh HB).take ((Uh HQ1).1 (by first | rfl | trivial)) (by rw [(Uh HY).1,(Uh HY).2]; exact hle) (by rw [(Uh HY).1,(Uh HY).2]; intro h; have:=(Uh HFO).2 h; cases this) (fun a b e => by cases e); rw [(Uh HY).1,(Uh HY).2] at h9; exact h9)
         go_wp2_with fail
         exact ⟨⟨v + 1,some (y0,y1),by omega,by (first | rfl | go_num),HN,Hj (own_pair _ _ _ (Uh HW6).size),Hj ((Uh HW6).alloc (Uh HW6).size _)⟩,by simp [intOf]; omega⟩
        ·have HN:=Hj ((Uh HB).skip (fun _ _ => by rw [(Uh HY).1,(Uh HY).2]; exact (Uh HFO).1 rfl))
         go_wp2_with fail
         exact ⟨⟨v + 1,none,by omega,by (first | rfl | go_num),HN,HO6,HW6⟩,by simp [intOf]; omega⟩
       | some o =>
        obtain ⟨a,b⟩:=o
        obtain ⟨ap,cp,rfl,hsl⟩:=own_slI (n:=2) (xs:=[a,b]) (Uh HO1)
        obtain ⟨pb,ob,rfl,hcb⟩:=hsl.at (by decide)
        have t0:wr.cell? ⟨pb,ob,none⟩ = some (.int .i64 a):=hcb 0 (by decide)
        have t1:wr.cell? ⟨pb,ob + 1,none⟩ = some (.int .i64 b):=hcb 1 (by decide)
        have HT01:=Hj (And.intro t0 t1)
        clear hsl hcb
        by_cases hlt:y0 < a
        ·have hlt1:decide (y0 < a) = true:=by simp [hlt]
         have HLT:=Hj (show y0 < a ∨ (y0 = a ∧ y1 < b) from .inl hlt)
         clear hlt
         go_wp2_with fail
         refine (Uh KM).mono ?_
         rintro _ w5 ⟨rfl,b5⟩
         have HW5:=Hj ((Uh HW).trans (b5.mono (Uh HW).size))
         have HO5:=Hj (ownsRow_chg (S:=fun _ => False) (Uh HO1) (Chg.of_below b5) (fun _ _ x => x))
         clear KM p0 p1
         have t0':=(b5.cell (p:=⟨pb,ob,none⟩) (World.block_lt_of_cell? _ _ t0)).trans t0
         have t1':=(b5.cell (p:=⟨pb,ob + 1,none⟩) (World.block_lt_of_cell? _ _ t1)).trans t1
         clear t0 t1
         have hx5:=Uh HA w5 (Uh HW5)
         have p0:=(hx5.1.all 0 _ rfl).1
         have p1:=(hx5.1.all 1 _ rfl).1
         clear b5 hx5
         clear s0 s1
         go_wp2_with fail
         refine (Uh KF w5 (Uh HW5)).mono ?_
         rintro _ w6 ⟨rfl,b6⟩
         have HW6:=Hj ((Uh HW5).trans (b6.mono (Uh HW5).size))
         have HO6:=Hj (ownsRow_chg (S:=fun _ => False) (Uh HO5) (Chg.of_below b6) (fun _ _ x => x))
         clear KF b6 p0 p1 t0' t1'
         cases fo
         ·have HN:=Hj (by have h9:=(Uh HB).take ((Uh HQ1).1 (by first | rfl | trivial)) (by rw [(Uh HY).1,(Uh HY).2]; exact hle) (by rw [(Uh HY).1,(Uh HY).2]; intro h; have:=(Uh HFO).2 h; cases this) (fun a9 b9 e => by cases e; rw [(Uh HY).1,(Uh HY).2]; exact Uh HLT); rw [(Uh HY).1,(Uh HY).2] at h9; exact h9)
          go_wp2_with fail
          exact ⟨⟨v + 1,some (y0,y1),by omega,by (first | rfl | go_num),HN,Hj (own_pair _ _ _ (Uh HW6).size),Hj ((Uh HW6).alloc (Uh HW6).size _)⟩,by simp [intOf]; omega⟩
         ·have HN:=Hj ((Uh HB).skip (fun _ _ => by rw [(Uh HY).1,(Uh HY).2]; exact (Uh HFO).1 rfl))
          go_wp2_with fail
          exact ⟨⟨v + 1,some (a,b),by omega,by (first | rfl | go_num),HN,HO6,HW6⟩,by simp [intOf]; omega⟩
        ·have hlt1:decide (y0 < a) = false:=by simp; omega
         by_cases heq:y0 = a
         ·have heq1:(y0 == a) = true:=by simp [heq]
          by_cases hbl2:y1 < b
          ·have hbl3:decide (y1 < b) = true:=by simp [hbl2]
           have HLT:=Hj (show y0 < a ∨ (y0 = a ∧ y1 < b) from .inr ⟨heq,hbl2⟩)
           clear hlt heq hbl2
           go_wp2_with fail
           refine (Uh KM).mono ?_
           rintro _ w5 ⟨rfl,b5⟩
           have HW5:=Hj ((Uh HW).trans (b5.mono (Uh HW).size))
           have HO5:=Hj (ownsRow_chg (S:=fun _ => False) (Uh HO1) (Chg.of_below b5) (fun _ _ x => x))
           clear KM p0 p1
           have t0':=(b5.cell (p:=⟨pb,ob,none⟩) (World.block_lt_of_cell? _ _ t0)).trans t0
           have t1':=(b5.cell (p:=⟨pb,ob + 1,none⟩) (World.block_lt_of_cell? _ _ t1)).trans t1
           clear t0 t1
           have hx5:=Uh HA w5 (Uh HW5)
           have p0:=(hx5.1.all 0 _ rfl).1
           have p1:=(hx5.1.all 1 _ rfl).1
           clear b5 hx5
           clear s0 s1
           go_wp2_with fail
           refine (Uh KF w5 (Uh HW5)).mono ?_
           rintro _ w6 ⟨rfl,b6⟩
           have HW6:=Hj ((Uh HW5).trans (b6.mono (Uh HW5).size))
           have HO6:=Hj (ownsRow_chg (S:=fun _ => False) (Uh HO5) (Chg.of_below b6) (fun _ _ x => x))
           clear KF b6 p0 p1 t0' t1'
           cases fo
           ·have HN:=Hj (by have h9:=(Uh HB).take ((Uh HQ1).1 (by first | rfl | trivial)) (by rw [(Uh HY).1,(Uh HY).2]; exact hle) (by rw [(Uh HY).1,(Uh HY).2]; intro h; have:=(Uh HFO).2 h; cases this) (fun a9 b9 e => by cases e; rw [(Uh HY).1,(Uh HY).2]; exact Uh HLT); rw [(Uh HY).1,(Uh HY).2] at h9; exact h9)
            go_wp2_with fail
            exact ⟨⟨v + 1,some (y0,y1),by omega,by (first | rfl | go_num),HN,Hj (own_pair _ _ _ (Uh HW6).size),Hj ((Uh HW6).alloc (Uh HW6).size _)⟩,by simp [intOf]; omega⟩
           ·have HN:=Hj ((Uh HB).skip (fun _ _ => by rw [(Uh HY).1,(Uh HY).2]; exact (Uh HFO).1 rfl))
            go_wp2_with fail
            exact ⟨⟨v + 1,some (a,b),by omega,by (first | rfl | go_num),HN,HO6,HW6⟩,by simp [intOf]; omega⟩
          ·have hbl3:decide (y1 < b) = false:=by simp; omega
           have HN:=Hj ((Uh HB).keep (by rw [(Uh HY).1,(Uh HY).2]; omega))
           clear hlt heq hbl2
           go_wp2_with fail
           refine (Uh KM).mono ?_
           rintro _ w5 ⟨rfl,b5⟩
           have HW5:=Hj ((Uh HW).trans (b5.mono (Uh HW).size))
           have HO5:=Hj (ownsRow_chg (S:=fun _ => False) (Uh HO1) (Chg.of_below b5) (fun _ _ x => x))
           clear KM p0 p1
           have t0':=(b5.cell (p:=⟨pb,ob,none⟩) (World.block_lt_of_cell? _ _ t0)).trans t0
           have t1':=(b5.cell (p:=⟨pb,ob + 1,none⟩) (World.block_lt_of_cell? _ _ t1)).trans t1
           clear t0 t1
           have hx5:=Uh HA w5 (Uh HW5)
           have p0:=(hx5.1.all 0 _ rfl).1
           have p1:=(hx5.1.all 1 _ rfl).1
           clear b5 hx5
           clear s0 s1
           go_wp2_with fail
           exact ⟨⟨v + 1,some (a,b),by omega,by (first | rfl | go_num),HN,HO5,HW5⟩,by simp [intOf]; omega⟩
         ·have heq1:(y0 == a) = false:=by simp [heq]
          have HN:=Hj ((Uh HB).keep (by rw [(Uh HY).1,(Uh HY).2]; omega))
          clear hlt heq
          go_wp2_with fail
          refine (Uh KM).mono ?_
          rintro _ w5 ⟨rfl,b5⟩
          have HW5:=Hj ((Uh HW).trans (b5.mono (Uh HW).size))
          have HO5:=Hj (ownsRow_chg (S:=fun _ => False) (Uh HO1) (Chg.of_below b5) (fun _ _ x => x))
          clear KM p0 p1
          have t0':=(b5.cell (p:=⟨pb,ob,none⟩) (World.block_lt_of_cell? _ _ t0)).trans t0
          have t1':=(b5.cell (p:=⟨pb,ob + 1,none⟩) (World.block_lt_of_cell? _ _ t1)).trans t1
          clear t0 t1
          have hx5:=Uh HA w5 (Uh HW5)
          have p0:=(hx5.1.all 0 _ rfl).1
          have p1:=(hx5.1.all 1 _ rfl).1
          clear b5 hx5
          clear s0 s1
          go_wp2_with fail
          exact ⟨⟨v + 1,some (a,b),by omega,by (first | rfl | go_num),HN,HO5,HW5⟩,by simp [intOf]; omega⟩
      ·have hle':decide (y1 < y0) = true:=by simp; omega
       have HN:=Hj ((Uh HB).skip (fun _ k => by rw [(Uh HY).1,(Uh HY).2] at k; exact absurd k hle))
       go_wp2_with fail
       refine (Uh KM).mono ?_
       rintro _ w5 ⟨rfl,b5⟩
       have HW5:=Hj ((Uh HW).trans (b5.mono (Uh HW).size))
       have HO5:=Hj (ownsRow_chg (S:=fun _ => False) (Uh HO1) (Chg.of_below b5) (fun _ _ x => x))
       clear KM p0 p1
       have hx5:=Uh HA w5 (Uh HW5)
       have p0:=(hx5.1.all 0 _ rfl).1
       have p1:=(hx5.1.all 1 _ rfl).1
       clear b5 hx5
       clear s0 s1
       go_wp2_with fail
       exact ⟨⟨v + 1,o,by omega,by (first | rfl | go_num),HN,HO5,HW5⟩,by simp [intOf]; omega⟩
    ·obtain rfl:v = N:=by omega
     have hvl':¬ (v:Int) < (v:Int):=by omega
     have HN:=Hj ((Uh HB).congr (fun c d => CqP.row (Uh HD) c d))
     clear hx
     go_wp2_with fail
     exact ⟨⟨u + 1,o,by omega,by (first | rfl | go_num),HN,HO1,HW⟩,by simp [intOf]; omega⟩
  ·obtain rfl:u = N:=by omega
   have hul':¬ (u:Int) < (u:Int):=by omega
   have hres:=BsI.one (Uh HO) (Uh HB)
   subst hres
   have HF9:=Hj hx.2.2
   have HO9:=Hj (own_mono5 (Uh HO1) hwsz)
   clear hx
   go_wp2_with fail
   try go_ret
   exact ⟨_,rfl,Uh HO9,Uh HF9⟩
end Go.Proofs.YtgjokididdffhaaGreat
