/- Cx5 -/
import Derived.Test.YtgjokididdffhaaGreatCx4
import Derived.Test.YtgjokididdffhaaGreatCh8
namespace Go.Proofs.YtgjokididdffhaaGreat
open Go.RowKit Go.Deep
set_option linter.unusedVariables false
def Pa4 (ad:Nat → Nat → Prop) (cs:Nat → Int) (a b c d:Nat):Prop:=ad a b ∧ ad b c ∧ c ≠ a ∧ cs c = cs a ∧ ad c d ∧ Lk1 cs a b d
def Lx4 (a' b' c' d' a b c d:Nat):Prop:=a' < a ∨ (a' = a ∧ (b' < b ∨ (b' = b ∧ (c' < c ∨ (c' = c ∧ d' < d)))))
def PaO (ad:Nat → Nat → Prop) (cs:Nat → Int):Option (Nat × Nat × Nat × Nat) → Prop
 | none => ∀ a b c d,¬ Pa4 ad cs a b c d
 | some (a,b,c,d) => Pa4 ad cs a b c d ∧ ∀ a' b' c' d',Lx4 a' b' c' d' a b c d → ¬ Pa4 ad cs a' b' c' d'
def paL:Option (Nat × Nat × Nat × Nat) → List Int
 | none => []
 | some (a,b,c,d) => [(a:Int),(b:Int),(c:Int),(d:Int)]
def stL:Option (Nat × Nat) → Option (Nat × Nat × Nat × Nat) → List Int
 | none,q => paL q
 | some p,_ => prL (some p)
theorem PaO.ex (ad:Nat → Nat → Prop) (cs:Nat → Int):∃ o,PaO ad cs o:=by
 rcases least_two (fun a b => ∃ c d,Pa4 ad cs a b c d) with h | ⟨a,b,h1,h2⟩
 ·exact ⟨none,fun a b c d k => h a b ⟨c,d,k⟩⟩
 ·rcases least_two (fun c d => Pa4 ad cs a b c d) with h | ⟨c,d,h3,h4⟩
  ·obtain ⟨c,d,k⟩:=h1
   exact absurd k (h c d)
  ·refine ⟨some (a,b,c,d),h3,fun a' b' c' d' hl k => ?_⟩
   rcases hl with hl | ⟨rfl,hl | ⟨rfl,hl⟩⟩
   ·exact h2 a' b' (.inl hl) ⟨c',d',k⟩
   ·exact h2 a' b' (.inr ⟨rfl,hl⟩) ⟨c',d',k⟩
   ·exact h4 c' d' hl k
theorem PaO.at {ad:Nat → Nat → Prop} {cs:Nat → Int} {o:Option (Nat × Nat × Nat × Nat)} (h:PaO ad cs o) {a b c d:Nat} (h1:Pa4 ad cs a b c d) (h2:∀ a' b' c' d',Lx4 a' b' c' d' a b c d → ¬ Pa4 ad cs a' b' c' d'):o = some (a,b,c,d):=by
 cases o with
 | none => exact absurd h1 (h a b c d)
 | some p =>
  obtain ⟨a',b',c',d'⟩:=p
  have e1:¬ Lx4 a' b' c' d' a b c d:=fun k => h2 a' b' c' d' k h.1
  have e2:¬ Lx4 a b c d a' b' c' d':=fun k => h.2 a b c d k h1
  unfold Lx4 at e1 e2
  have:a' = a ∧ b' = b ∧ c' = c ∧ d' = d:=by omega
  rw [this.1,this.2.1,this.2.2.1,this.2.2.2]
theorem PaO.no {ad:Nat → Nat → Prop} {cs:Nat → Int} {o:Option (Nat × Nat × Nat × Nat)} (h:PaO ad cs o) (k:∀ a b c d,¬ Pa4 ad cs a b c d):o = none:=by
 cases o with
 | none => rfl
 | some p => exact absurd h.1 (k _ _ _ _)
def NPc (ad:Nat → Nat → Prop) (cs:Nat → Int) (S C:List Int) (a b i:Nat):Prop:=∀ c d j:Nat,j < i → (rowL S C b).getD j 0 = (c:Int) → ¬ Pa4 ad cs a b c d
theorem NPc.next {ad:Nat → Nat → Prop} {cs:Nat → Int} {S C:List Int} {a b i c:Nat} (h:NPc ad cs S C a b i) (hc:(rowL S C b).getD i 0 = (c:Int)) (k:∀ d,¬ Pa4 ad cs a b c d):NPc ad cs S C a b (i + 1):=fun c' d j hj e => by
 by_cases ej:j = i
 ·subst ej
  have:c' = c:=by omega
  subst this
  exact k d
 ·exact h c' d j (by omega) e
theorem crow_fix (R:Nat) (width:Int) (a1 a2:Option Addr) (n1 c1 n2 c2:Nat) (st cols:List Int) (r:Nat) (w0:World) (h0:SlI w0 a2 n2 c2 cols) (hb1:n1 ≤ 17592186044000) (hb2:n2 ≤ 17592186044000) (hm:MayP (R:Int) width st cols) (hr:r < R):∃ a c,(∀ w,SlI w a1 n1 c1 st → SlI w a2 n2 c2 cols → Calls Tryz.prog 115 #[patV (R:Int) width a1 n1 c1 a2 n2 c2,.int .i64 (r:Int)] w fun e w' => e = .returned (.slice a (rowL st cols r).length c) ∧ Below w.heap.size w w') ∧ ∀ w,SlI w a2 n2 c2 cols → SlI w a (rowL st cols r).length c (rowL st cols r):=by
 obtain ⟨X,Y,hR⟩:=hm.rowAt (k:=r) (by omega)
 have hl:rowL st cols r = (cols.drop X).take (Y - X):=by
  unfold rowL
  rw [hR.hX,hR.hY]
  simp
 have hlen:(rowL st cols r).length = Y - X:=by
  rw [hl,List.length_take,List.length_drop]
  have:=hR.lt
  omega
 refine ⟨_,_,fun w h1 h2 => (crow_any R width a1 a2 n1 c1 n2 c2 st cols r X Y w h1 h2 (by omega) (by omega) hm hr hR).mono (fun e w' ⟨he,b⟩ => ⟨by rw [he]; unfold subV; rw [hlen],b⟩),fun w h2 => ?_⟩
 have hsub:=h2.sub hR.le (by rw [← h2.len]; exact hR.lt)
 rw [hlen,hl]
 exact hsub
theorem own_four {base:Nat} (w:World) (a b c d:Int) (hb:base ≤ w.heap.size):(w.alloc (.cells #[.int .i64 a,.int .i64 b,.int .i64 c,.int .i64 d] 3)).ownsRow base 3 1 (.slice (some ⟨w.heap.size,0,none⟩) 4 4) 4 (valsI [a,b,c,d]) :=
 ⟨by simp [valsI],.inr ⟨w.heap.size,4,_,rfl,hb,heap_alloc_new w _,Nat.le_refl _,by decide,by simp,by simp [valsI]⟩⟩
theorem own_mono5 {w:World} {base base':Nat} {e:TypeId} {s:Nat} {v:Value} {n:Nat} {xs:List Value} (h:w.ownsRow base e s v n xs) (hb:base' ≤ base):w.ownsRow base' e s v n xs:=⟨h.1,h.2.imp id (fun ⟨g,cap,cur,q,hg,r⟩ => ⟨g,cap,cur,q,Nat.le_trans hb hg,r⟩)⟩
set_option maxRecDepth 100000 in
set_option maxHeartbeats 16000000 in
theorem cstarF_any (f0 f1 f2 f3:Value) (wd:Bool) (R width:Int) (a1:Option Addr) (n1 c1:Nat) (a2:Option Addr) (n2 c2 m:Nat) (b1:Option Addr) (m1 d1:Nat) (b2:Option Addr) (m2 d2:Nat) (S C:List Int) (ac:Option Addr) (cc:Nat) (xs:List Int) (w:World) (h1:SlI w b1 m1 d1 S) (h2:SlI w b2 m2 d2 C) (h3:SlI w ac m cc xs) (hb1:m1 ≤ 17592186044000) (hb2:m2 ≤ 17592186044000) (hm:MayP (m:Int) (m:Int) S C) (o:Option (Nat × Nat)) (ho:PrO (adG S C m) (fun i => xs.getD i 0) o) (q:Option (Nat × Nat × Nat × Nat)) (hq:PaO (adG S C m) (fun i => xs.getD i 0) q) :
  Calls Tryz.prog 101 #[taV f0 f1 f2 f3 wd R width a1 n1 c1 a2 n2 c2 m b1 m1 d1 b2 m2 d2,.slice ac m cc] w fun e w' => OwA (stL o q) w w' e:=by
 have hm8:m ≤ 128:=by have:=hm.head.fit; omega
 have hT0:=BoxP.made w #[f0,f1,f2,f3,.bool wd,.int .i64 R,.int .i64 width,.slice a1 n1 c1,.slice a2 n2 c2,.int .i64 (m:Int),.int .i64 (m:Int),.slice b1 m1 d1,.slice b2 m2 d2] 80
 obtain ⟨w0,hw0⟩:∃ x,w.alloc (.cells #[f0,f1,f2,f3,.bool wd,.int .i64 R,.int .i64 width,.slice a1 n1 c1,.slice a2 n2 c2,.int .i64 (m:Int),.int .i64 (m:Int),.slice b1 m1 d1,.slice b2 m2 d2] 80) = x:=⟨_,rfl⟩
 have bb0:Below w.heap.size w w0:=by rw [← hw0]; exact bAl
 rw [hw0] at hT0
 obtain ⟨wb,hwb⟩:∃ x,w0.alloc (.cells #[.slice ac m cc] 23) = x:=⟨_,rfl⟩
 have bb1:Below w0.heap.size w0 wb:=by rw [← hwb]; exact bAl
 have hC0:=BoxP.made w0 #[.slice ac m cc] 23
 rw [hwb] at hC0
 have hT:=hT0.below bb1
 have bb:=bb0.trans (bb1.mono bb0.size)
 obtain ⟨CB,hCB⟩:∃ CB,w0.heap.size = CB:=⟨_,rfl⟩
 rw [hCB] at hC0
 have HN:=Hj (show ∀ W,Below wb.heap.size wb W → BoxP W w.heap.size [f0,f1,f2,f3,.bool wd,.int .i64 R,.int .i64 width,.slice a1 n1 c1,.slice a2 n2 c2,.int .i64 (m:Int),.int .i64 (m:Int),.slice b1 m1 d1,.slice b2 m2 d2] ∧ BoxP W CB [.slice ac m cc] ∧ SlI W b1 m1 d1 S ∧ SlI W b2 m2 d2 C ∧ SlI W ac m cc xs ∧ Below w.heap.size w W from fun W b => ⟨hT.below b,hC0.below b,(h1.below bb).below b,(h2.below bb).below b,(h3.below bb).below b,bb.trans (b.mono bb.size)⟩)
 have KP:=Hj (fun W (b:Below wb.heap.size wb W) => cpair_any f0 f1 f2 f3 wd R width a1 n1 c1 a2 n2 c2 m b1 m1 d1 b2 m2 d2 S C ac cc xs W ((h1.below bb).below b) ((h2.below bb).below b) ((h3.below bb).below b) hb1 hb2 hm o ho)
 unfold taV at KP
 have HM:=Hj hm
 have HO:=Hj ho
 have HQ:=Hj hq
 have p0:=(hT.all 0 _ rfl).1
 have p1:=(hT.all 1 _ rfl).1
 have p2:=(hT.all 2 _ rfl).1
 have p3:=(hT.all 3 _ rfl).1
 have p4:=(hT.all 4 _ rfl).1
 have p5:=(hT.all 5 _ rfl).1
 have p6:=(hT.all 6 _ rfl).1
 have p7:=(hT.all 7 _ rfl).1
 have p8:=(hT.all 8 _ rfl).1
 have p9:=(hT.all 9 _ rfl).1
 have p10:=(hT.all 10 _ rfl).1
 have p11:=(hT.all 11 _ rfl).1
 have p12:=(hT.all 12 _ rfl).1
 have pc:=(hC0.all 0 _ rfl).1
 clear hT hT0 hC0 bb bb0 bb1 h1 h2 h3 hm ho hq
 unfold taV
 go_enter Tryz.func101,Tryz.ntmps101
 go_wp2_with fail
 refine (Uh KP wb (Below.refl _ _)).mono ?_
 rintro _ w2 ⟨vp,rfl,hO2,b2x⟩
 have HW0:=Hj b2x
 have hwsz:=(Uh HN wb (Below.refl _ _)).2.2.2.2.2.size
 clear KP b2x
 clear p0 p1 p2 p3 p4 p5 p6 p7 p8 p9 p10 p11 p12 pc
 cases o with
 | some p =>
  obtain ⟨u,v⟩:=p
  have hO3:=own_mono5 (n:=2) (xs:=valsI [(u:Int),(v:Int)]) hO2 hwsz
  obtain ⟨ap,cp,rfl,hsl⟩:=own_slI (n:=2) (xs:=[(u:Int),(v:Int)]) hO2
  have HO3:=Hj hO3
  have HF:=Hj (Uh HN w2 (Uh HW0)).2.2.2.2.2
  clear hO2 hO3 hsl
  go_wp2_with fail
  try go_ret
  exact ⟨_,rfl,Uh HO3,Uh HF⟩
 | none =>
  obtain ⟨ap,cp,rfl,hsl⟩:=own_slI (n:=0) (xs:=[]) hO2
  have hx:=Uh HN w2 (Uh HW0)
  have p9:=(hx.1.all 9 _ rfl).1
  clear hO2 hsl hx
  go_wp2_with fail
  clear p9
  go_loopw [22] (fun av wr => ∃ a:Nat,a ≤ m ∧ av = .int .i64 (a:Int) ∧ Hid (NPr (fun a b => ∃ c d,Pa4 (adG S C m) (fun i => xs.getD i 0) a b c d) S C a 0) ∧ Hid (Below wb.heap.size wb wr)) (fun av _ => m - (intOf av).toNat)
  case atStart => exact ⟨0,Nat.zero_le _,rfl,Hj (NPr.first _ _ _),HW0⟩
  case round =>
   obtain ⟨a,ha,rfl,HP,HW⟩:=hrel
   have hx:=Uh HN wr (Uh HW)
   by_cases hal:a < m
   ·have hal':(a:Int) < (m:Int):=by omega
    obtain ⟨wA,hwA⟩:∃ x,wr.alloc (.cells #[.int .i64 (a:Int)] 3) = x:=⟨_,rfl⟩
    have bA:Below wr.heap.size wr wA:=by rw [← hwA]; exact bAl
    have hA:=BoxP.made wr #[.int .i64 (a:Int)] 3
    rw [hwA] at hA
    obtain ⟨AB,hAB⟩:∃ AB,wr.heap.size = AB:=⟨_,rfl⟩
    rw [hAB] at hA
    have HWA:=Hj ((Uh HW).trans (bA.mono (Uh HW).size))
    have hxA:=Uh HN wA (Uh HWA)
    have p9:=(hxA.1.all 9 _ rfl).1
    have p10:=(hxA.1.all 10 _ rfl).1
    have p11:=(hxA.1.all 11 _ rfl).1
    have p12:=(hxA.1.all 12 _ rfl).1
    have a0:=(hA.all 0 _ rfl).1
    have HA:=Hj hA
    have KR:=Hj (crow_list m (m:Int) b1 b2 m1 d1 m2 d2 S C a wA hxA.2.2.1 hxA.2.2.2.1 hb1 hb2 (Uh HM) hal)
    unfold patV at KR
    have HNA:=Hj (show ∀ W,Below wA.heap.size wA W → Below wb.heap.size wb W ∧ BoxP W AB [.int .i64 (a:Int)] from fun W b => ⟨(Uh HWA).trans (b.mono (Uh HWA).size),(Uh HA).below b⟩)
    clear hx hxA bA hA
    go_wp2_with fail
    refine (Uh KR).mono ?_
    rintro _ w4 ⟨aN,cN,rfl,hsN,hlN,hbN,b4⟩
    have HW4:=Hj b4
    have HSN:=Hj hsN
    have hm128:(rowL S C a).length ≤ 128:=Nat.le_trans (row_lenF (Uh HM) hal) hm8
    obtain ⟨z,hz⟩:∃ z,(rowL S C a).length = z:=⟨_,rfl⟩
    have HZ:=Hj hz
    rw [hz] at HSN hm128 ⊢
    clear KR hsN hlN hbN b4 p9 p10 p11 p12 a0 hz
    go_wp2_with fail
    go_loopw [30] (fun iv wq => ∃ i:Nat,i ≤ z ∧ iv = .int .i64 (i:Int) ∧ Hid (NPr (fun a b => ∃ c d,Pa4 (adG S C m) (fun i => xs.getD i 0) a b c d) S C a i) ∧ Hid (Below w4.heap.size w4 wq)) (fun iv _ => z - (intOf iv).toNat)
    case atStart => exact ⟨0,Nat.zero_le _,rfl,HP,Hj (Below.refl _ _)⟩
    case round =>
     obtain ⟨i,hi,rfl,HP2,HW5⟩:=hrel
     by_cases hin:i < z
     ·have hin':(i:Int) < (z:Int):=by omega
      have HW6:=Hj ((Uh HW4).trans ((Uh HW5).mono (Uh HW4).size))
      obtain ⟨b,hb,hbm⟩:=row_atF (Uh HM) hal (by rw [Uh HZ]; exact hin:i < (rowL S C a).length)
      obtain ⟨bN,oN,e1,hc⟩:=((Uh HSN).below (Uh HW5)).at (by omega)
      subst e1
      have sk:=hc i hin
      rw [hb] at sk
      have HBb:=Hj hb
      obtain ⟨wB,hwB⟩:∃ x,wr.alloc (.cells #[.int .i64 (b:Int)] 3) = x:=⟨_,rfl⟩
      have bB:Below wr.heap.size wr wB:=by rw [← hwB]; exact bAl
      have hB:=BoxP.made wr #[.int .i64 (b:Int)] 3
      rw [hwB] at hB
      obtain ⟨BB,hBB⟩:∃ BB,wr.heap.size = BB:=⟨_,rfl⟩
      rw [hBB] at hB
      have HWB:=Hj ((Uh HW6).trans (bB.mono (Uh HW6).size))
      have hxA:=Uh HN wB (Uh HNA wB (Uh HWB)).1
      have p9:=(hxA.1.all 9 _ rfl).1
      have p10:=(hxA.1.all 10 _ rfl).1
      have p11:=(hxA.1.all 11 _ rfl).1
      have p12:=(hxA.1.all 12 _ rfl).1
      have b0:=(hB.all 0 _ rfl).1
      have KR:=Hj (crow_list m (m:Int) b1 b2 m1 d1 m2 d2 S C b wB hxA.2.2.1 hxA.2.2.2.1 hb1 hb2 (Uh HM) hbm)
      unfold patV at KR
      have HNB:=Hj (show ∀ W,Below wB.heap.size wB W → Below wb.heap.size wb W ∧ BoxP W AB [.int .i64 (a:Int)] ∧ BoxP W BB [.int .i64 (b:Int)] from fun W k => by
       have h9:=Uh HNA W ((Uh HWB).trans (k.mono (Uh HWB).size))
       exact ⟨h9.1,h9.2,hB.below k⟩)
      have HWq:=Hj ((Uh HW5).trans (bB.mono (Uh HW5).size))
      clear hxA bB hB hc hb
      go_wp2_with fail
      refine (Uh KR).mono ?_
      rintro _ w6 ⟨aM,cM,rfl,hsM,hlM,hbM,b6⟩
      have HW7:=Hj b6
      have HSM:=Hj hsM
      have hm129:(rowL S C b).length ≤ 128:=Nat.le_trans (row_lenF (Uh HM) hbm) hm8
      obtain ⟨y,hy⟩:∃ y,(rowL S C b).length = y:=⟨_,rfl⟩
      have HY:=Hj hy
      rw [hy] at HSM hm129 ⊢
      clear KR hsM hlM hbM b6 p9 p10 p11 p12 b0 hy sk
      go_wp2_with fail
      go_loopw [39] (fun jv wq => ∃ j:Nat,j ≤ y ∧ jv = .int .i64 (j:Int) ∧ Hid (NPc (adG S C m) (fun i => xs.getD i 0) S C a b j) ∧ Hid (Below w6.heap.size w6 wq)) (fun jv _ => y - (intOf jv).toNat)
      case atStart => exact ⟨0,Nat.zero_le _,rfl,Hj (fun c d j hj => absurd hj (Nat.not_lt_zero _)),Hj (Below.refl _ _)⟩
      case round =>
       obtain ⟨j,hj,rfl,HP3,HW8⟩:=hrel
       by_cases hjn:j < y
       ·have hjn':(j:Int) < (y:Int):=by omega
        have HW9:=Hj ((Uh HW7).trans ((Uh HW8).mono (Uh HW7).size))
        obtain ⟨c,hc,hcm⟩:=row_atF (Uh HM) hbm (by rw [Uh HY]; exact hjn:j < (rowL S C b).length)
        obtain ⟨bM,oM,e1,hcc⟩:=((Uh HSM).below (Uh HW8)).at (by omega)
        subst e1
        have sk:=hcc j hjn
        rw [hc] at sk
        have HBc:=Hj hc
        have h9:=Uh HNB wr (Uh HW9)
        have hx:=Uh HN wr h9.1
        have a0:=(h9.2.1.all 0 _ rfl).1
        have b0:=(h9.2.2.all 0 _ rfl).1
        have c0:=(hx.2.1.all 0 _ rfl).1
        obtain ⟨bc,oc,e2,hcx⟩:=hx.2.2.2.2.1.at (by omega)
        subst e2
        have s0:=hcx c hcm
        have s1:=hcx a hal
        have hcm':(c:Int) < (m:Int):=by omega
        obtain ⟨y0,hy0⟩:∃ y,xs.getD c 0 = y:=⟨_,rfl⟩
        obtain ⟨y1,hy1⟩:∃ y,xs.getD a 0 = y:=⟨_,rfl⟩
        rw [hy0] at s0
        rw [hy1] at s1
        have HYY:=Hj (And.intro hy0 hy1)
        have F0:=fun x':Ext wr => x'.cell s0
        have F1:=fun x':Ext wr => x'.cell s1
        have F2:=fun x':Ext wr => x'.cell a0
        have F3:=fun x':Ext wr => x'.cell c0
        have hNE:=Ext.ne wr
        clear hc hcc hcx hy0 hy1 h9 hx
        by_cases hca:c = a
        ·have hca':((c:Int) == (a:Int)) = true:=by simp; omega
         have HN3:=Hj ((Uh HP3).next (Uh HBc) (fun d k => k.2.2.1 hca))
         clear hca
         go_wp2_with fail
         refine wp_region_ext (by kernel_rfl) (by kernel_rfl) ?_
         repeat (go_big_quiet_step (fail))
         refine wpQuiet_nil ?_
         rintro _ ⟨xE,rfl⟩
         have HX:=Hj (show Below w6.heap.size w6 xE.w from (Uh HW8).trans (xE.bel.mono (Uh HW8).size))
         clear F0 F1 F2 F3 hNE s0 s1 sk a0 b0 c0
         go_wp2_with fail
         exact ⟨⟨j + 1,by omega,by (first | rfl | go_num),HN3,HX⟩,by simp [intOf]; omega⟩
        ·have hca':((c:Int) == (a:Int)) = false:=by simp; omega
         by_cases hyy:y0 = y1
         ·have hyy':(y0 != y1) = false:=by simp [hyy]
          have HCA:=Hj (And.intro hca hyy)
          clear hyy hca
          go_wp2_with fail
          refine wp_region_ext (by kernel_rfl) (by kernel_rfl) ?_
          repeat (go_big_quiet_step (fail))
          refine wpQuiet_nil ?_
          rintro _ ⟨xE,rfl⟩
          have HX:=Hj (show Below w6.heap.size w6 xE.w from (Uh HW8).trans (xE.bel.mono (Uh HW8).size))
          clear F0 F1 F2 F3 hNE s0 s1 sk a0 b0 c0
          have HX9:=Hj ((Uh HW7).trans ((Uh HX).mono (Uh HW7).size))
          have h9:=Uh HNB xE.w (Uh HX9)
          have hx:=Uh HN xE.w h9.1
          have a0:=(h9.2.1.all 0 _ rfl).1
          have b0:=(h9.2.2.all 0 _ rfl).1
          have c0:=(hx.2.1.all 0 _ rfl).1
          have p9:=(hx.1.all 9 _ rfl).1
          have p10:=(hx.1.all 10 _ rfl).1
          have p11:=(hx.1.all 11 _ rfl).1
          have p12:=(hx.1.all 12 _ rfl).1
          clear h9 hx
          go_wp2_with fail
          have h9:=Uh HNB xE.w (Uh HX9)
          have hx:=Uh HN xE.w h9.1
          have KR:=Hj (crow_list m (m:Int) b1 b2 m1 d1 m2 d2 S C c xE.w hx.2.2.1 hx.2.2.2.1 hb1 hb2 (Uh HM) hcm)
          unfold patV at KR
          clear h9 hx
          refine (Uh KR).mono ?_
          rintro _ wC ⟨aL,cL,rfl,hsL,hlL,hbL,bC⟩
          have hm130:(rowL S C c).length ≤ 128:=Nat.le_trans (row_lenF (Uh HM) hcm) hm8
          have HWC:=Hj ((Uh HX9).trans (bC.mono (Uh HX9).size))
          have HRT:=Hj (fun (k:Nat) (hk:k < (rowL S C c).length) => row_atF (Uh HM) hcm hk)
          have hex:∃ zz:Int,(∃ i:Nat,zz = (i:Int) ∧ i < (rowL S C c).length ∧ Lk1 (fun i => xs.getD i 0) a b ((rowL S C c).getD i 0).toNat ∧ ∀ j,j < i → ¬ Lk1 (fun i => xs.getD i 0) a b ((rowL S C c).getD j 0).toNat) ∨ (zz = -1 ∧ ∀ j,j < (rowL S C c).length → ¬ Lk1 (fun i => xs.getD i 0) a b ((rowL S C c).getD j 0).toNat):=by
           by_cases hh:∃ k,k < (rowL S C c).length ∧ Lk1 (fun i => xs.getD i 0) a b ((rowL S C c).getD k 0).toNat
           ·obtain ⟨k,hk,hl⟩:=hh
            obtain ⟨i,h1,h2,h3⟩:=least_ex (B:=fun k => ¬ Lk1 (fun i => xs.getD i 0) a b ((rowL S C c).getD k 0).toNat) (k:=k) (fun h => h hl)
            exact ⟨(i:Int),.inl ⟨i,rfl,by omega,Classical.byContradiction h2,h3⟩⟩
           ·exact ⟨-1,.inr ⟨rfl,fun j hj hl => hh ⟨j,hj,hl⟩⟩⟩
          obtain ⟨zz,hzz⟩:=hex
          have KI:=Hj (cindexS_any aL (rowL S C c).length cL (rowL S C c) (fun k => Lk1 (fun i => xs.getD i 0) a b ((rowL S C c).getD k 0).toNat) AB BB CB wC hsL hm130 (fun W k ok bW hk hok => by
           obtain ⟨d,e1,e2⟩:=Uh HRT k hk
           have h9:=Uh HNB W ((Uh HWC).trans (bW.mono (Uh HWC).size))
           have hx:=Uh HN W h9.1
           rw [e1] at hok ⊢
           simp only [Int.toNat_natCast] at hok
           exact cstar1_any m a b d _ cc xs AB BB CB W hx.2.2.2.2.1 hm8 hal hbm e2 (h9.2.1.all 0 _ rfl).1 (h9.2.2.all 0 _ rfl).1 (hx.2.1.all 0 _ rfl).1 ok hok) zz hzz)
          have HZZ:=Hj hzz
          have HSL:=Hj hsL
          obtain ⟨x3,hx3⟩:∃ x3,(rowL S C c).length = x3:=⟨_,rfl⟩
          have HX3:=Hj hx3
          rw [hx3] at KI HSL hm130 ⊢
          have HBC:=Hj bC
          clear KR hsL hlL hbL bC hzz hx3
          clear a0 b0 c0 p9 p10 p11 p12
          go_wp2_with fail
          refine (Uh KI).mono ?_
          rintro _ wD ⟨rfl,bD⟩
          have HWD:=Hj ((Uh HWC).trans (bD.mono (Uh HWC).size))
          have HXD:=Hj ((Uh HX).trans (((Uh HBC).trans (bD.mono (Uh HBC).size)).mono (Uh HX).size))
          clear KI bD
          rcases Uh HZZ with ⟨id,rfl,hid1,hid2,hid3⟩ | ⟨rfl,hno⟩
          ·have hge:(0:Int) ≤ (id:Int):=by omega
           obtain ⟨d,hd1,hd2⟩:=Uh HRT id hid1
           have HD:=Hj (And.intro hid2 (And.intro hid3 hd1))
           have h9:=Uh HNB wD (Uh HWD)
           have hx:=Uh HN wD h9.1
           have a0:=(h9.2.1.all 0 _ rfl).1
           have b0:=(h9.2.2.all 0 _ rfl).1
           have p9:=(hx.1.all 9 _ rfl).1
           have p10:=(hx.1.all 10 _ rfl).1
           have p11:=(hx.1.all 11 _ rfl).1
           have p12:=(hx.1.all 12 _ rfl).1
           have hidx:id < x3:=by rw [← Uh HX3]; exact hid1
           clear hid1 hid2 hid3 hd1 h9 hx HZZ
           obtain ⟨aE,cE,KF,KS⟩:=crow_fix m (m:Int) b1 b2 m1 d1 m2 d2 S C c wD (Uh HN wD (Uh HNB wD (Uh HWD)).1).2.2.2.1 hb1 hb2 (Uh HM) hcm
           have hsE:=KS wD (Uh HN wD (Uh HNB wD (Uh HWD)).1).2.2.2.1
           rw [Uh HX3] at hsE
           obtain ⟨gE,oE,eE,hcE⟩:=hsE.at (by omega)
           subst eE
           have kE:=hcE id hidx
           rw [(Uh HD).2.2] at kE
           have hgE:gE < wD.heap.size:=World.block_lt_of_cell? _ _ kE
           have KR2:=Hj (fun W (k:Below wD.heap.size wD W) => KF W ((Uh HN wD (Uh HNB wD (Uh HWD)).1).2.2.1.below k) ((Uh HN wD (Uh HNB wD (Uh HWD)).1).2.2.2.1.below k))
           rw [Uh HX3] at KR2
           unfold patV at KR2
           have HRES:=Hj (show q = some (a,b,c,d) from PaO.at (Uh HQ) ⟨(ad_row (Uh HM) hal).2 (mem_getD.2 ⟨i,by rw [Uh HZ]; exact hin,Uh HBb⟩),(ad_row (Uh HM) hbm).2 (mem_getD.2 ⟨j,by rw [Uh HY]; exact hjn,Uh HBc⟩),(Uh HCA).1,(by show xs.getD c 0 = xs.getD a 0; rw [(Uh HYY).1,(Uh HYY).2]; exact (Uh HCA).2),(ad_row (Uh HM) hcm).2 (mem_getD.2 ⟨id,by rw [Uh HX3]; exact hidx,(Uh HD).2.2⟩),(by have h9:=(Uh HD).1; rw [(Uh HD).2.2,Int.toNat_natCast] at h9; exact h9)⟩ (fun a' b' c' d' hl k => by
            rcases hl with hl | ⟨rfl,hl | ⟨rfl,hl | ⟨rfl,hl⟩⟩⟩
            ·exact (NPr.hit (Uh HM) hal (fun v ⟨c,d,h⟩ => h.1) (Uh HP2) (by rw [Uh HZ]; exact hin) (Uh HBb)) a' b' (.inl hl) ⟨c',d',k⟩
            ·exact (NPr.hit (Uh HM) hal (fun v ⟨c,d,h⟩ => h.1) (Uh HP2) (by rw [Uh HZ]; exact hin) (Uh HBb)) a' b' (.inr ⟨rfl,hl⟩) ⟨c',d',k⟩
            ·obtain ⟨j',hj',e⟩:=mem_getD.1 ((ad_row (Uh HM) hbm).1 k.2.1)
             refine Uh HP3 c' d' j' ?_ e k
             apply Classical.byContradiction
             intro hn
             have hjj:j < (rowL S C b').length:=by rw [Uh HY]; exact hjn
             by_cases ej:j' = j
             ·subst ej; have:=Uh HBc; omega
             ·have:=rowL_up (Uh HM) hbm j j' (by omega) hj'; have:=Uh HBc; omega
            ·obtain ⟨j',hj',e⟩:=mem_getD.1 ((ad_row (Uh HM) hcm).1 k.2.2.2.2.1)
             refine (Uh HD).2.1 j' ?_ (by rw [e,Int.toNat_natCast]; exact k.2.2.2.2.2)
             apply Classical.byContradiction
             intro hn
             have hjj:id < (rowL S C c').length:=by rw [Uh HX3]; exact hidx
             by_cases ej:j' = id
             ·subst ej; have:=(Uh HD).2.2; omega
             ·have:=rowL_up (Uh HM) hcm id j' (by omega) hj'; have:=(Uh HD).2.2; omega))
           clear KF KS hsE hcE
           go_wp2_with fail
           go_region_held3 (fun w' => w'.cell? ⟨AB,0,none⟩ = some (.int .i64 (a:Int)) ∧ w'.cell? ⟨BB,0,none⟩ = some (.int .i64 (b:Int)) ∧ w'.cell? ⟨w.heap.size,9,none⟩ = some (.int .i64 (m:Int)) ∧ w'.cell? ⟨w.heap.size,10,none⟩ = some (.int .i64 (m:Int)) ∧ w'.cell? ⟨w.heap.size,11,none⟩ = some (.slice b1 m1 d1) ∧ w'.cell? ⟨w.heap.size,12,none⟩ = some (.slice b2 m2 d2) ∧ w'.cell? ⟨gE,oE + id,none⟩ = some (.int .i64 (d:Int))) (first | (exact ⟨k0,k1,k2,k3,k4,k5,k6⟩) | go_keep)
            ((go_at_call 115; refine (Uh KR2 _ (by first | exact (Below.refl _ _).drew | exact Below.refl _ _)).mono ?_; rintro _ wE ⟨rfl,bE⟩; have bE':Below wD.heap.size wD wE:=(by first | exact (Below.refl _ _).drew.trans bE | exact bE); have h9:=Uh HNB wE ((Uh HWD).trans (bE'.mono (Uh HWD).size)); have hx9:=Uh HN wE h9.1; have k0:=(h9.2.1.all 0 _ rfl).1; have k1:=(h9.2.2.all 0 _ rfl).1; have k2:=(hx9.1.all 9 _ rfl).1; have k3:=(hx9.1.all 10 _ rfl).1; have k4:=(hx9.1.all 11 _ rfl).1; have k5:=(hx9.1.all 12 _ rfl).1; have k6:=(bE'.cell (p:=⟨gE,oE + id,none⟩) hgE).trans kE; have HFE:=Hj hx9.2.2.2.2.2; clear h9 hx9 bE bE'))
           have hq:=Uh HRES
           subst hq
           clear k0 k1 k2 k3 k4 k5 k6
           go_wp2_with fail
           try go_ret
           exact ⟨_,rfl,own_four _ _ _ _ _ (Uh HFE).size,(Uh HFE).alloc (Uh HFE).size _⟩
          ·have HN3:=Hj ((Uh HP3).next (Uh HBc) (fun d k => by
            obtain ⟨j',hj',e⟩:=mem_getD.1 ((ad_row (Uh HM) hcm).1 k.2.2.2.2.1)
            refine hno j' hj' ?_
            rw [e,Int.toNat_natCast]
            exact k.2.2.2.2.2))
           clear hno HZZ
           go_wp2_with fail
           exact ⟨⟨j + 1,by omega,by (first | rfl | go_num),HN3,HXD⟩,by simp [intOf]; omega⟩
         ·have hyy':(y0 != y1) = true:=by simp [hyy]
          have HN3:=Hj ((Uh HP3).next (Uh HBc) (fun d k => hyy (by have h9:xs.getD c 0 = xs.getD a 0:=k.2.2.2.1; rw [(Uh HYY).1,(Uh HYY).2] at h9; exact h9)))
          clear hyy hca
          go_wp2_with fail
          refine wp_region_ext (by kernel_rfl) (by kernel_rfl) ?_
          repeat (go_big_quiet_step (fail))
          refine wpQuiet_nil ?_
          rintro _ ⟨xE,rfl⟩
          have HX:=Hj (show Below w6.heap.size w6 xE.w from (Uh HW8).trans (xE.bel.mono (Uh HW8).size))
          clear F0 F1 F2 F3 hNE s0 s1 sk a0 b0 c0
          go_wp2_with fail
          exact ⟨⟨j + 1,by omega,by (first | rfl | go_num),HN3,HX⟩,by simp [intOf]; omega⟩
       ·obtain rfl:j = y:=by omega
        have hjn':¬ (j:Int) < (j:Int):=by omega
        have HP4:=Hj ((Uh HP2).next (Uh HBb) (fun ⟨c,d,k⟩ => by
         obtain ⟨j',hj',e⟩:=mem_getD.1 ((ad_row (Uh HM) hbm).1 k.2.1)
         exact Uh HP3 c d j' (by rw [← Uh HY]; exact hj') e k))
        have HWz:=Hj ((Uh HWq).trans (((Uh HW7).trans ((Uh HW8).mono (Uh HW7).size)).mono (Uh HWq).size))
        go_wp2_with fail
        exact ⟨⟨i + 1,by omega,by (first | rfl | go_num),HP4,HWz⟩,by simp [intOf]; omega⟩
     ·obtain rfl:i = z:=by omega
      have hin':¬ (i:Int) < (i:Int):=by omega
      have HP3:=Hj (NPr.row (P:=fun a b => ∃ c d,Pa4 (adG S C m) (fun i => xs.getD i 0) a b c d) (Uh HM) hal (fun v ⟨c,d,h⟩ => h.1) (by rw [Uh HZ]; exact Uh HP2))
      have HW6:=Hj (Uh HNA wr ((Uh HW4).trans ((Uh HW5).mono (Uh HW4).size))).1
      go_wp2_with fail
      exact ⟨⟨a + 1,by omega,by (first | rfl | go_num),HP3,HW6⟩,by simp [intOf]; omega⟩
   ·obtain rfl:a = m:=by omega
    have hal':¬ (a:Int) < (a:Int):=by omega
    have hq:=PaO.no (Uh HQ) (fun u v c d h => NPr.all (P:=fun a' b' => ∃ c d,Pa4 (adG S C a) (fun i => xs.getD i 0) a' b' c d) (m:=a) (fun a' b' ⟨c,d,h⟩ => h.1.1) (Uh HP) u v ⟨c,d,h⟩)
    subst hq
    have HF:=Hj hx.2.2.2.2.2
    clear hx
    go_wp2_with fail
    try go_ret
    exact ⟨_,rfl,World.ownsRow_nil _ _ _ _,Uh HF⟩
theorem rowL_up2 {st cols:List Int} {R v:Nat} (hm:MayP (R:Int) (R:Int) st cols) (hv:v < R):∀ i j,i < j → j < (rowL st cols v).length → (rowL st cols v).getD i 0 < (rowL st cols v).getD j 0:=by
 obtain ⟨X,Y,hR⟩:=hm.rowAt (k:=v) (by omega)
 have e:rowL st cols v = (cols.drop X).take (Y - X):=by unfold rowL; rw [hR.hX,hR.hY]; simp
 have hg:∀ i,i < (rowL st cols v).length → (rowL st cols v).getD i 0 = cols.getD (X + i) 0 ∧ X + i < Y:=by
  intro i hi
  have hi2:i < (rowL st cols v).length:=hi
  rw [e,List.length_take,List.length_drop] at hi2
  refine ⟨?_,by omega⟩
  simp only [List.getD,e]
  rw [List.getElem?_take_of_lt (by omega),List.getElem?_drop]
 have hup:∀ k i,X + i + k + 1 < Y → cols.getD (X + i) 0 < cols.getD (X + i + k + 1) 0:=by
  intro k
  induction k with
  | zero => intro i hi; exact hR.row.up (X + i + 0 + 1) (by omega) hi
  | succ k ih =>
   intro i hi
   have h1:=ih i (by omega)
   have h2:=hR.row.up (X + i + (k + 1) + 1) (by omega) hi
   have e:X + i + (k + 1) + 1 - 1 = X + i + k + 1:=by omega
   rw [e] at h2
   omega
 intro i j hij hj
 rw [(hg i (by omega)).1,(hg j hj).1]
 have:=hup (j - i - 1) i (by have:=(hg j hj).2; omega)
 have e:X + i + (j - i - 1) + 1 = X + j:=by omega
 rw [e] at this
 omega
section
variable {ad0 ad1:Nat → Nat → Prop}
theorem FoP.less {T:Nat → Prop} (h:FoP ad1 T) (sub:∀ a b,T a → T b → ad0 a b → ad1 a b):FoP ad0 T:=fun S hS hc => h S hS (fun v hv => by
 obtain ⟨p,q,h1,h2,h3,h4,h5⟩:=hc v hv
 exact ⟨p,q,h1,h2,h3,sub p v (hS p h2) (hS v hv) h4,sub q v (hS q h3) (hS v hv) h5⟩)
theorem edge_apart (sy0:∀ a b,ad0 a b → ad0 b a) (sy1:∀ a b,ad1 a b → ad1 b a) (ir1:∀ a,¬ ad1 a a) (sub:∀ a b,ad0 a b → ad1 a b):∀ (n:Nat) (S:Nat → Prop),(∃ l:List Nat,l.length ≤ n ∧ ∀ x,S x → x ∈ l) → FoP ad1 S → ∀ u v,u ≠ v → ad1 u v → ¬ ad0 u v → WyP ad0 S u v → False
 | 0,S,⟨l,hl,hm⟩,_,u,v,_,_,_,w => by
  have:=hm u w.first
  have:l = []:=List.eq_nil_of_length_eq_zero (by omega)
  subst this
  simp_all
 | n + 1,S,⟨l,hl,hm⟩,hF,u,v,huv,e1,e0,w => by
  obtain ⟨z,hz,lf⟩:=hF.leaf w.first
  by_cases hzu:z = u
  ·subst hzu
   have w2:=w.turn sy0
   have hv:=w.last
   cases w2 with
   | here h => exact huv rfl
   | go b _ w3 h e =>
    have:b = v:=lf b v w3.last hv (sub _ _ e) (sy1 _ _ e1)
    subst this
    exact e0 (sy0 _ _ e)
  ·by_cases hzv:z = v
   ·subst hzv
    have hu:=w.first
    cases w with
    | here h => exact huv rfl
    | go b _ w3 h e =>
     have:b = u:=lf b u w3.last hu (sub _ _ e) e1
     subst this
     exact e0 e
   ·have lf0:LfP ad0 S z:=fun p q hp hq h1 h2 => lf p q hp hq (sub _ _ h1) (sub _ _ h2)
    have w2:=(way_round (ad:=ad0) (T:=S) (S:=S) (fun a h => ir1 a (sub _ _ h)) sy0 (fun v h => h) lf0 w (fun e => hzu e.symm)).1 (fun e => hzv e.symm)
    exact edge_apart sy0 sy1 ir1 sub n (fun x => S x ∧ x ≠ z) ⟨l.erase z,by rw [List.length_erase_of_mem (hm z hz)]; omega,fun x hx => (List.mem_erase_of_ne hx.2).2 (hm x hx.1)⟩ (hF.sub (fun x h => h.1)) u v huv e1 e0 w2
theorem edge_add (sy0:∀ a b,ad0 a b → ad0 b a) (ir0:∀ a,¬ ad0 a a) {u v:Nat} (huv:u ≠ v) (h1:∀ a b,ad1 a b → ad0 a b ∨ (a = u ∧ b = v) ∨ (a = v ∧ b = u)) {T:Nat → Prop} (fin:∃ l:List Nat,∀ x,T x → x ∈ l) (hF:FoP ad0 T) (hw:¬ WyP ad0 T u v):FoP ad1 T:=by
 intro S hS hc x hx
 by_cases hb:S u ∧ S v
 ·obtain ⟨hu,hv⟩:=hb
  obtain ⟨p,q,hpq,hp,hq,ep,eq⟩:=hc u hu
  have key:∀ t,t ≠ v → ad1 t u → ad0 u t:=fun t ht e => by
   rcases h1 t u e with e | ⟨_,e⟩ | ⟨e,_⟩
   ·exact sy0 _ _ e
   ·exact absurd e huv
   ·exact absurd e ht
  have nb:∃ t,S t ∧ ad0 u t:=by
   by_cases c:p = v
   ·exact ⟨q,hq,key q (fun e => hpq (by rw [c,e])) eq⟩
   ·exact ⟨p,hp,key p c ep⟩
  obtain ⟨t,ht,et⟩:=nb
  obtain ⟨l,hl⟩:=fin
  obtain ⟨y,hy1,hy2,hy3⟩:=forest_leaf ir0 sy0 l.length S ⟨l,Nat.le_refl _,fun x hx => hl x (hS x hx)⟩ (hF.sub hS) u t hu ht et
  by_cases hyv:y = v
  ·subst hyv
   exact hw (hy2.more hS)
  ·obtain ⟨p,q,hpq,hp,hq,ep,eq⟩:=hc y hy2.last
   have k2:∀ t,ad1 t y → ad0 t y:=fun t e => by
    rcases h1 t y e with e | ⟨_,e⟩ | ⟨_,e⟩
    ·exact e
    ·exact absurd e hyv
    ·exact absurd e hy1
   exact hpq (hy3 p q hp hq (k2 p ep) (k2 q eq))
 ·refine hF S hS (fun w hw' => ?_) x hx
  obtain ⟨p,q,hpq,hp,hq,ep,eq⟩:=hc w hw'
  have k2:∀ t,S t → ad1 t w → ad0 t w:=fun t ht e => by
   rcases h1 t w e with e | ⟨e1,e2⟩ | ⟨e1,e2⟩
   ·exact e
   ·exact absurd ⟨e1 ▸ ht,e2 ▸ hw'⟩ hb
   ·exact absurd ⟨e2 ▸ hw',e1 ▸ ht⟩ hb
  exact ⟨p,q,hpq,hp,hq,k2 p hp ep,k2 q hq eq⟩
end
section
variable {ad:Nat → Nat → Prop} {cs:Nat → Int} {R:Nat}
theorem UfE.ends (sy:∀ u v,ad u v → ad v u) {ro:Nat → Nat} {ed:Nat → Nat → Prop} (h:UfE ad cs R ro ed) (hed:∀ u v,ad u v → 0 ≤ cs u → 0 ≤ cs v → ed u v ∨ ed v u) (hpr:∀ u v,ad u v → 0 ≤ cs u → cs u ≠ cs v) (hR:R ≤ 128) {u v a b:Nat} (hu:u < R) (hv:v < R) (ea:cs v = (a:Int)) (eb:cs u = (b:Int)) (ha:a < R) (hb:b < R) (hab:a ≠ b) :
  ro (elN u a) = ro (elN v b) ↔ WyP ad (TwC cs R (b:Int) (a:Int)) u v:=by
 constructor
 ·intro e
  have k1:=h.link (elN u a) (elN_D hR hu ha)
  rw [e] at k1
  have k2:=k1.trans ((h.link (elN v b) (elN_D hR hv hb)).turn sy)
  rcases k2 with k2 | ⟨w,k2⟩
  ·exfalso
   have e1:u = v ∧ a = b:=by unfold elN at k2; omega
   exact hab e1.2
  ·rw [elN_div (by omega),elN_mod (by omega),elN_div (by omega)] at w
   rw [eb] at w
   exact w
 ·intro w
  have key:∀ z,WyP ad (TwC cs R (b:Int) (a:Int)) u z → (cs z = (b:Int) → ro (elN u a) = ro (elN z a)) ∧ (cs z = (a:Int) → ro (elN u a) = ro (elN z b)):=by
   intro z w
   induction w with
   | here h => exact ⟨fun _ => rfl,fun e => by rw [eb] at e; omega⟩
   | go x d w hd e ih =>
    have hx:=w.last
    have hxd:=hpr x d e (by rcases hx.2 with q | q <;> omega)
    have hedge:∀ a' b':Nat,cs d = (a':Int) → cs x = (b':Int) → ro (elN x a') = ro (elN d b'):=fun a' b' q1 q2 => by
     rcases hed x d e (by omega) (by omega) with q | q
     ·exact h.edge x d a' b' q q1 q2
     ·exact (h.edge d x b' a' q q2 q1).symm
    refine ⟨fun q => ?_,fun q => ?_⟩
    ·have hx':cs x = (a:Int):=hx.2.elim (fun y => absurd (y.trans q.symm) hxd) id
     rw [ih.2 hx',hedge b a q hx']
    ·have hx':cs x = (b:Int):=hx.2.elim id (fun y => absurd (y.trans q.symm) hxd)
     rw [ih.1 hx',hedge a b q hx']
  exact (key v w).2 ea
theorem WyP.adm {ad':Nat → Nat → Prop} {T:Nat → Prop} {a b:Nat} (k:∀ u v,ad u v → ad' u v) (w:WyP ad T a b):WyP ad' T a b:=by induction w with
 | here h => exact .here h
 | go b c w h e ih => exact .go b c ih h (k b c e)
theorem LkP.more {ad':Nat → Nat → Prop} (k:∀ u v,ad u v → ad' u v) {x y:Nat} (h:LkP ad cs R x y):LkP ad' cs R x y:=h.imp id (fun ⟨w,h⟩ => ⟨w.adm k,h⟩)
end
def EdS (st cols:List Int) (R u i:Nat) (p q:Nat):Prop:=EdN st cols R u i p q ∨ EdN st cols R u i q p
theorem EdS.sy {st cols:List Int} {R u i:Nat}:∀ p q,EdS st cols R u i p q → EdS st cols R u i q p:=fun p q h => h.symm
theorem EdS.ad {st cols:List Int} {R u i:Nat} (hg:GraP st cols R R) {p q:Nat} (h:EdS st cols R u i p q):adG st cols R p q:=h.elim (fun h => h.1) (fun h => adG.sy hg _ _ h.1)
structure ClE (st cols:List Int) (R:Nat) (cs:Nat → Int) (u i:Nat) (cl:List (Nat × Nat)):Prop where
 edge:∀ p ∈ cl,adG st cols R p.1 p.2 ∧ 0 ≤ cs p.1 ∧ 0 ≤ cs p.2 ∧ ¬ FoP (EdS st cols R u i) (TwC cs R (cs p.1) (cs p.2))
 all:∀ c d:Int,0 ≤ c → 0 ≤ d → c ≠ d → ¬ FoP (EdS st cols R u i) (TwC cs R c d) → ∃ p ∈ cl,(cs p.1 = c ∧ cs p.2 = d) ∨ (cs p.1 = d ∧ cs p.2 = c)
section
variable {st cols:List Int} {R:Nat} {cs:Nat → Int} {u i:Nat} {cl:List (Nat × Nat)}
theorem EdN.next {p q:Nat}:EdN st cols R u (i + 1) p q ↔ (EdN st cols R u i p q ∨ (adG st cols R p q ∧ p ≤ q ∧ p = u ∧ (rowL st cols u).getD i 0 = (q:Int))):=by
 unfold EdN
 constructor
 ·rintro ⟨h1,h2,h3 | ⟨h3,j,hj,h4⟩⟩
  ·exact .inl ⟨h1,h2,.inl h3⟩
  ·by_cases e:j = i
   ·subst e; exact .inr ⟨h1,h2,h3,h4⟩
   ·exact .inl ⟨h1,h2,.inr ⟨h3,j,by omega,h4⟩⟩
 ·rintro (⟨h1,h2,h3 | ⟨h3,j,hj,h4⟩⟩ | ⟨h1,h2,h3,h4⟩)
  ·exact ⟨h1,h2,.inl h3⟩
  ·exact ⟨h1,h2,.inr ⟨h3,j,by omega,h4⟩⟩
  ·exact ⟨h1,h2,.inr ⟨h3,i,by omega,h4⟩⟩
theorem ClE.congr {u' i':Nat} (h:ClE st cols R cs u i cl) (k:∀ p q,0 ≤ cs p → 0 ≤ cs q → (EdS st cols R u' i' p q ↔ EdS st cols R u i p q)):ClE st cols R cs u' i' cl:=by
 have conv:∀ c d:Int,0 ≤ c → 0 ≤ d → (FoP (EdS st cols R u' i') (TwC cs R c d) ↔ FoP (EdS st cols R u i) (TwC cs R c d)):=fun c d hc hd => by
  have t:∀ x,TwC cs R c d x → 0 ≤ cs x:=fun x hx => by rcases hx.2 with e | e <;> omega
  exact ⟨fun f => f.ad_congr (fun a b ha hb => k a b (t a ha) (t b hb)),fun f => f.ad_congr (fun a b ha hb => (k a b (t a ha) (t b hb)).symm)⟩
 exact ⟨fun p hp => ⟨(h.edge p hp).1,(h.edge p hp).2.1,(h.edge p hp).2.2.1,fun f => (h.edge p hp).2.2.2 ((conv _ _ (h.edge p hp).2.1 (h.edge p hp).2.2.1).1 f)⟩,fun c d hc hd hcd f => h.all c d hc hd hcd (fun g => f ((conv c d hc hd).2 g))⟩
theorem ClE.step (hm:MayP (R:Int) (R:Int) st cols) (hg:GraP st cols R R) (hpr:∀ p q,adG st cols R p q → 0 ≤ cs p → cs p ≠ cs q) (hR:R ≤ 128) {ro:Nat → Nat} (hU:UfE (EdS st cols R u i) cs R ro (EdN st cols R u i)) (h:ClE st cols R cs u i cl) {v a b:Nat} (hu:u < R) (hv:v < R) (huv:u < v) (had:adG st cols R u v) (hi:i < (rowL st cols u).length) (hv2:(rowL st cols u).getD i 0 = (v:Int)) (ea:cs v = (a:Int)) (eb:cs u = (b:Int)) (ha:a < R) (hb:b < R) :
  (ro (elN u a) = ro (elN v b) → ClE st cols R cs u (i + 1) (cl ++ [(u,v)])) ∧ (ro (elN u a) ≠ ro (elN v b) → ClE st cols R cs u (i + 1) cl):=by
 have hab:a ≠ b:=fun e => hpr u v had (by omega) (by rw [ea,eb,e])
 have hends:=hU.ends (EdS.sy) (fun p q h _ _ => h) (fun p q h h0 => hpr p q (h.ad hg) h0) hR hu hv ea eb ha hb hab
 have hnew:¬ EdS st cols R u i u v:=by
  rintro (⟨_,_,h3 | ⟨_,j,hj,h4⟩⟩ | ⟨_,h2,_⟩)
  ·omega
  ·have hnd:=rowL_up2 hm hu j i hj hi
   omega
  ·omega
 have hsub:∀ p q,EdS st cols R u i p q → EdS st cols R u (i + 1) p q:=fun p q k => k.imp (fun k => EdN.next.2 (.inl k)) (fun k => EdN.next.2 (.inl k))
 have hone:∀ p q,EdS st cols R u (i + 1) p q → EdS st cols R u i p q ∨ (p = u ∧ q = v) ∨ (p = v ∧ q = u):=fun p q k => by
  rcases k with k | k
  ·rcases EdN.next.1 k with k | ⟨_,_,k1,k2⟩
   ·exact .inl (.inl k)
   ·exact .inr (.inl ⟨k1,by omega⟩)
  ·rcases EdN.next.1 k with k | ⟨_,_,k1,k2⟩
   ·exact .inl (.inr k)
   ·exact .inr (.inr ⟨by omega,k1⟩)
 have hin:EdS st cols R u (i + 1) u v:=.inl (EdN.next.2 (.inr ⟨had,by omega,rfl,hv2⟩))
 have irr:∀ j p,¬ EdS st cols R u j p p:=fun j p k => adG.ir hg p (k.ad hg)
 have fin:∀ c d:Int,∃ l:List Nat,∀ x,TwC cs R c d x → x ∈ l:=fun c d => ⟨List.range R,fun x hx => List.mem_range.2 hx.1⟩
 have other:∀ c d:Int,¬ ((c = (b:Int) ∧ d = (a:Int)) ∨ (c = (a:Int) ∧ d = (b:Int))) → c ≠ d → (FoP (EdS st cols R u i) (TwC cs R c d) → FoP (EdS st cols R u (i + 1)) (TwC cs R c d)):=fun c d hn hcd f => f.less (fun p q hp hq k => by
  rcases hone p q k with k | ⟨rfl,rfl⟩ | ⟨rfl,rfl⟩
  ·exact k
  ·exfalso
   have h1:=hp.2
   have h2:=hq.2
   rw [eb] at h1
   rw [ea] at h2
   omega
  ·exfalso
   have h1:=hp.2
   have h2:=hq.2
   rw [ea] at h1
   rw [eb] at h2
   omega)
 have down:∀ c d:Int,FoP (EdS st cols R u (i + 1)) (TwC cs R c d) → FoP (EdS st cols R u i) (TwC cs R c d):=fun c d f => f.less (fun p q _ _ k => hsub p q k)
 have old:∀ p ∈ cl,adG st cols R p.1 p.2 ∧ 0 ≤ cs p.1 ∧ 0 ≤ cs p.2 ∧ ¬ FoP (EdS st cols R u (i + 1)) (TwC cs R (cs p.1) (cs p.2)):=fun p hp => ⟨(h.edge p hp).1,(h.edge p hp).2.1,(h.edge p hp).2.2.1,fun f => (h.edge p hp).2.2.2 (down _ _ f)⟩
 have swap:∀ c d:Int,FoP (EdS st cols R u (i + 1)) (TwC cs R c d) → FoP (EdS st cols R u (i + 1)) (TwC cs R d c):=fun c d f => (FoP.iff (fun x => ⟨fun k => k.swap,fun k => k.swap⟩)).1 f
 refine ⟨fun hro => ⟨fun p hp => ?_,fun c d hc hd hcd f => ?_⟩,fun hro => ⟨old,fun c d hc hd hcd f => ?_⟩⟩
 ·rcases List.mem_append.1 hp with hp | hp
  ·exact old p hp
  ·have:p = (u,v):=by simpa using hp
   subst this
   refine ⟨had,by show 0 ≤ cs u; omega,by show 0 ≤ cs v; omega,fun f => ?_⟩
   have f':FoP (EdS st cols R u (i + 1)) (TwC cs R (b:Int) (a:Int)):=by
    have:FoP (EdS st cols R u (i + 1)) (TwC cs R (cs u) (cs v)):=f
    rw [eb,ea] at this
    exact this
   obtain ⟨l,hl⟩:=fin (b:Int) (a:Int)
   exact edge_apart (fun p q k => EdS.sy p q k) (fun p q k => EdS.sy p q k) (irr (i + 1)) hsub l.length _ ⟨l,Nat.le_refl _,hl⟩ f' u v (by omega) hin hnew (hends.1 hro)
 ·by_cases hn:(c = (b:Int) ∧ d = (a:Int)) ∨ (c = (a:Int) ∧ d = (b:Int))
  ·exact ⟨(u,v),List.mem_append.2 (.inr (by simp)),by
    show (cs u = c ∧ cs v = d) ∨ (cs u = d ∧ cs v = c)
    rw [ea,eb]
    omega⟩
  ·obtain ⟨p,hp,e⟩:=h.all c d hc hd hcd (fun g => f (other c d hn hcd g))
   exact ⟨p,List.mem_append.2 (.inl hp),e⟩
 ·by_cases hn:(c = (b:Int) ∧ d = (a:Int)) ∨ (c = (a:Int) ∧ d = (b:Int))
  ·have hnf:¬ FoP (EdS st cols R u i) (TwC cs R (b:Int) (a:Int)):=fun g => by
    have g':=edge_add (fun p q k => EdS.sy p q k) (irr i) (show u ≠ v by omega) hone (fin (b:Int) (a:Int)) g (fun w => hro (hends.2 w))
    rcases hn with ⟨rfl,rfl⟩ | ⟨rfl,rfl⟩
    ·exact f g'
    ·exact f (swap _ _ g')
   obtain ⟨p,hp,e⟩:=h.all (b:Int) (a:Int) (by omega) (by omega) (by omega) hnf
   exact ⟨p,hp,by omega⟩
  ·exact h.all c d hc hd hcd (fun g => f (other c d hn hcd g))
end
end Go.Proofs.YtgjokididdffhaaGreat
