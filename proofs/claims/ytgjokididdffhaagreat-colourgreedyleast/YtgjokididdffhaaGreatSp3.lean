/- Sa4 -/
import Derived.Test.YtgjokididdffhaaGreatSp2
import Derived.Test.YtgjokididdffhaaGreatSa1
import Derived.Deep.RegionHeld3
namespace Go.Proofs.YtgjokididdffhaaGreat
open Go.RowKit Go.Deep
set_option linter.unusedVariables false
theorem BIq.qi {P:Prop} {ok:Bool} {w w':World} {e:Ending} (h:BIq P w w' e) (ho:ok = true ↔ P):QI ok w w' e:=by
 obtain ⟨⟨b,rfl,hb⟩,rfl⟩:=h
 refine ⟨?_,Dr.refl _⟩
 have:b = ok:=by have h4:=hb.trans ho.symm; cases b <;> cases ok <;> simp_all
 rw [this]
structure SeenP (width:Int) (st cols:List Int) (k:Nat):Prop where
 up:∀ r,r < k → st.getD r 0 ≤ st.getD (r + 1) 0
 row:∀ r,r < k → RowP width cols (st.getD r 0).toNat (st.getD (r + 1) 0).toNat
 rng:0 ≤ st.getD k 0 ∧ st.getD k 0 ≤ (cols.length:Int)
set_option maxRecDepth 100000 in
set_option maxHeartbeats 16000000 in
theorem wsmay_any (rows width:Int) (a1 a2:Option Addr) (n1 c1 n2 c2:Nat) (st cols:List Int) (w:World) (h1:SlI w a1 n1 c1 st) (h2:SlI w a2 n2 c2 cols) (hb1:n1 ≤ 17592186044416) (hb2:n2 ≤ 17592186044416) :
  Calls Tryz.prog 44 #[patV rows width a1 n1 c1 a2 n2 c2] w fun e w' => BIs (MayP rows width st cols) w w' e:=by
 obtain ⟨wb,hwb⟩:∃ x,w.alloc (.cells #[.int .i64 rows,.int .i64 width,.slice a1 n1 c1,.slice a2 n2 c2] 25) = x:=⟨_,rfl⟩
 have bb:Below w.heap.size w wb:=by rw [← hwb]; exact bAl
 have hB:∀ q u,[Value.int .i64 rows,.int .i64 width,.slice a1 n1 c1,.slice a2 n2 c2][q]? = some u → wb.cell? ⟨w.heap.size,q,none⟩ = some u:=by
  intro q u hq
  rw [← hwb]
  have hq':#[Value.int .i64 rows,.int .i64 width,.slice a1 n1 c1,.slice a2 n2 c2][q]? = some u:=by simpa using hq
  simp [hq']
 have p0:=hB 0 _ rfl
 have p1:=hB 1 _ rfl
 have p2:=hB 2 _ rfl
 have p3:=hB 3 _ rfl
 have HF:=Hj (sized_any rows width wb)
 have HS:=Hj (And.intro (h1.below bb) (And.intro (h2.below bb) bb))
 clear hB bb h1 h2
 unfold patV
 obtain ⟨okF,hokF⟩:=truth (0 ≤ rows ∧ rows ≤ 128 ∧ 0 ≤ width ∧ width ≤ 128)
 have KF:=Hj (fun (W:World) => (sized_any rows width W).mono fun e w' h => h.qi hokF)
 clear HF
 cases okF
 ·have HN:=Hj (show ¬ MayP rows width st cols from fun z => absurd (hokF.2 z.head.fit) (by decide))
  clear hokF
  go_enter Tryz.func44,Tryz.ntmps44
  go_wp2_with fail
  go_quiet ((go_at_call 75; exact Calls.quiet_of (Uh KF _)))
  go_wp2_with fail
  go_ret
  exact BIs.no (Uh HN) (bel_drewN (Uh HS).2.2 _)
 ·have hfit:=hokF.1 rfl
  clear hokF
  obtain ⟨R,rfl⟩:∃ R:Nat,rows = (R:Int):=⟨rows.toNat,by omega⟩
  have hR:R ≤ 128:=by omega
  by_cases hlen:n1 = R + 1
  ·subst hlen
   have tl:(((R + 1:Nat):Int) != (R:Int) + 1) = false:=by simp
   have HFI:=Hj hfit
   obtain ⟨b1,o1,rfl,hc1⟩:=(Uh HS).1.at (by omega)
   have s0:=hc1 0 (by omega)
   have sR:=hc1 R (by omega)
   rw [Nat.add_zero] at s0
   have HC1:=Hj hc1
   obtain ⟨x0,hx0⟩:∃ x,st.getD 0 0 = x:=⟨_,rfl⟩
   obtain ⟨xR,hxR⟩:∃ x,st.getD R 0 = x:=⟨_,rfl⟩
   rw [hx0] at s0
   rw [hxR] at sR
   have HX:=Hj (And.intro hx0 hxR)
   clear hc1 hfit hx0 hxR
   by_cases hz:x0 = 0
   ·have t0:((x0:Int) != 0) = false:=by simp; omega
    by_cases hr:xR = (n2:Int)
    ·have t1:((xR:Int) != (n2:Int)) = false:=by simp; omega
     have HZR:=Hj (And.intro hz hr)
     clear hz hr
     have HHD:=Hj (show HeadP (R:Int) width st cols from ⟨Uh HFI,by have:=(Uh HS).1.len; omega,by rw [(Uh HX).1]; exact (Uh HZR).1,by rw [show ((R:Int)).toNat = R by omega,(Uh HX).2,(Uh HZR).2,(Uh HS).2.1.len]⟩)
     go_enter Tryz.func44,Tryz.ntmps44
     go_wp2_with fail
     go_quiet ((go_at_call 75; exact Calls.quiet_of (Uh KF _)))
     go_wp2_with fail
     go_loopw [3,4] (fun rv _ wr => ∃ k:Nat,k ≤ R ∧ rv = .int .i64 (k:Nat) ∧ Hid (SeenP width st cols k) ∧ Hid (Dr wb wr)) (fun rv _ _ => R - (intOf rv).toNat)
     case atStart => exact ⟨0,Nat.zero_le _,rfl,⟨fun r hr => absurd hr (Nat.not_lt_zero _),fun r hr => absurd hr (Nat.not_lt_zero _),by rw [(Uh HX).1,(Uh HZR).1]; omega⟩,⟨_,rfl⟩⟩
     case round =>
      obtain ⟨k,hk,rfl,HK,HW⟩:=hrel
      have HP:=Hj (And.intro p0 (And.intro p1 (And.intro p2 p3)))
      have dwr:=Uh HW
      have q0:=dwr.cell p0
      have q1:=dwr.cell p1
      have q2:=dwr.cell p2
      have q3:=dwr.cell p3
      by_cases hlt:k < R
      ·have hlt':(k:Int) < (R:Int):=by omega
       have sk:=dwr.cell (Uh HC1 k (by omega))
       have sk1:=dwr.cell (Uh HC1 (k + 1) (by omega))
       have hrg:=(Uh HK).rng
       have hcl:=(Uh HS).2.1.len
       have hln:=(Uh HS).1.len
       obtain ⟨X,hX⟩:∃ X:Nat,st.getD k 0 = (X:Int):=⟨(st.getD k 0).toNat,by omega⟩
       obtain ⟨y,hy⟩:∃ y,st.getD (k + 1) 0 = y:=⟨_,rfl⟩
       rw [hX] at sk hrg
       rw [hy] at sk1
       have hXn:X ≤ n2:=by omega
       have HXY:=Hj (And.intro hX hy)
       have tk1:(k:Int) + 1 < (R:Int) + 1:=by omega
       have HLN:=Hj (And.intro hln hcl)
       clear dwr hrg hX hy p0 p1 p2 p3 hcl hln
       by_cases hy1:y < (X:Int)
       ·have HN:=Hj (show ¬ MayP (R:Int) width st cols from fun z => by have:=z.sort k (Nat.zero_le _) (by rw [(Uh HLN).1]; omega); rw [(Uh HXY).1,(Uh HXY).2] at this; omega)
        go_wp2_with fail
        go_quiet (fail)
        go_wp2_with fail
        go_ret
        exact BIs.no (Uh HN) ((Uh HS).2.2.trans ((((Uh HW).n _).below).mono (Uh HS).2.2.size))
       ·by_cases hy2:(n2:Int) < y
        ·have hy1':decide (y < (X:Int)) = false:=decide_eq_false hy1
         have hy2':decide ((n2:Int) < y) = true:=decide_eq_true hy2
         have HN:=Hj (show ¬ MayP (R:Int) width st cols from fun z => by have:=(z.head.rng z.sort (i:=k + 1) (by rw [(Uh HLN).1]; omega)).2; rw [(Uh HXY).2,(Uh HLN).2] at this; omega)
         go_wp2_with fail
         go_quiet (fail)
         go_wp2_with fail
         go_ret
         exact BIs.no (Uh HN) ((Uh HS).2.2.trans ((((Uh HW).n _).below).mono (Uh HS).2.2.size))
        ·have hy1':decide (y < (X:Int)) = false:=decide_eq_false hy1
         have hy2':decide ((n2:Int) < y) = false:=decide_eq_false hy2
         have HYY:=Hj (And.intro hy1 hy2)
         clear hy1 hy2
         go_wp2_with fail
         go_quiet (fail)
         obtain ⟨hy1,hy2⟩:=Uh HYY
         obtain ⟨Y,rfl⟩:∃ Y:Nat,y = (Y:Int):=⟨y.toNat,by omega⟩
         have hXY:X ≤ Y:=by omega
         have hYn:Y ≤ n2:=by omega
         clear hy1 hy2 hy1' hy2'
         go_wp2_with fail
         go_loopw [4] (fun iv wi => ∃ i:Nat,X ≤ i ∧ i ≤ Y ∧ iv = .int .i64 (i:Nat) ∧ Hid (RowP width cols X i) ∧ Hid (Dr wb wi)) (fun iv _ => Y - (intOf iv).toNat)
         case atStart => exact ⟨X,Nat.le_refl _,hXY,rfl,⟨fun i h1 h2 => by omega,fun i h1 h2 => by omega⟩,(Uh HW).n _⟩
         case round =>
          rename_i wi
          obtain ⟨i,hi1,hi2,rfl,HR,HV⟩:=hrel
          have dwi:=Uh HV
          obtain ⟨p0,p1,p2,p3⟩:=Uh HP
          have r0:=dwi.cell p0
          have r1:=dwi.cell p1
          have r2:=dwi.cell p2
          have r3:=dwi.cell p3
          have uk:=dwi.cell (Uh HC1 k (by omega))
          have uk1:=dwi.cell (Uh HC1 (k + 1) (by omega))
          rw [(Uh HXY).1] at uk
          rw [(Uh HXY).2] at uk1
          clear p0 p1 p2 p3 q0 q1 q2 q3 sk sk1
          by_cases hlt2:i < Y
          ·have hlt3:(i:Int) < (Y:Int):=by omega
           have tin:(i:Int) < (n2:Int):=by omega
           obtain ⟨b2,o2,rfl,hc2⟩:=(Uh HS).2.1.at (by omega)
           have ci:=dwi.cell (hc2 i (by omega))
           obtain ⟨x,hx⟩:∃ x,cols.getD i 0 = x:=⟨_,rfl⟩
           rw [hx] at ci
           have HXI:=Hj hx
           have HC2:=Hj hc2
           have HRW:=Hj (show MayP (R:Int) width st cols → RowP width cols X Y from fun z => by have:=z.row k (by rw [(Uh HLN).1]; omega); rw [(Uh HXY).1,(Uh HXY).2] at this; exact this)
           clear hx hc2
           by_cases h0:x < 0
           ·have d1:decide (x < 0) = true:=decide_eq_true h0
            have HN:=Hj (show ¬ MayP (R:Int) width st cols from fun z => by have:=((Uh HRW z).rng i hi1 hlt2).1; rw [Uh HXI] at this; omega)
            clear h0 dwi
            go_wp2_with fail
            go_quiet (fail)
            go_wp2_with fail
            go_ret
            exact BIs.no (Uh HN) ((Uh HS).2.2.trans ((((Uh HV).n _).below).mono (Uh HS).2.2.size))
           ·have d1:decide (x < 0) = false:=decide_eq_false h0
            by_cases h1:width ≤ x
            ·have d2:decide (width ≤ x) = true:=decide_eq_true h1
             have HN:=Hj (show ¬ MayP (R:Int) width st cols from fun z => by have:=((Uh HRW z).rng i hi1 hlt2).2; rw [Uh HXI] at this; omega)
             clear h0 h1 dwi
             go_wp2_with fail
             go_quiet (fail)
             go_wp2_with fail
             go_ret
             exact BIs.no (Uh HN) ((Uh HS).2.2.trans ((((Uh HV).n _).below).mono (Uh HS).2.2.size))
            ·have d2:decide (width ≤ x) = false:=decide_eq_false h1
             by_cases he:i = X
             ·subst he
              have HNX:=Hj (show RowP width cols i (i + 1) from ⟨fun r g1 g2 => by obtain rfl:r = i:=(by omega); rw [Uh HXI]; omega,fun r g1 g2 => by omega⟩)
              clear h0 h1 dwi
              go_wp2_with fail
              go_quiet (fail)
              go_wp2_with fail
              exact ⟨⟨i + 1,by omega,by omega,by (first | rfl | go_num),HNX,Hj ((Uh HV).n _)⟩,by simp [intOf]; omega⟩
             ·obtain ⟨j,hj⟩:∃ j,i = j + 1:=⟨i - 1,by omega⟩
              have cj:=dwi.cell (Uh HC2 j (by omega))
              obtain ⟨z,hz⟩:∃ z,cols.getD j 0 = z:=⟨_,rfl⟩
              rw [hz] at cj
              have HZJ:=Hj (And.intro hz hj)
              have hXi:X < i:=by omega
              have d3:decide (X < i) = true:=decide_eq_true hXi
              have d3':decide ((X:Int) < (i:Int)) = true:=decide_eq_true (by omega)
              have hw1:IntKind.i64.wrap ((i:Int) - 1) = (j:Int):=by rw [wrapJ _ (by omega) (by omega)]; omega
              have hij:(i:Int) - 1 = (j:Int):=by omega
              have tj:(j:Int) < (n2:Int):=by omega
              clear hz hj he dwi
              by_cases h2:x ≤ z
              ·have d4:decide (x ≤ z) = true:=decide_eq_true h2
               have HN:=Hj (show ¬ MayP (R:Int) width st cols from fun y => by have:=(Uh HRW y).up i hXi hlt2; rw [Uh HXI,show i - 1 = j by have:=(Uh HZJ).2; omega,(Uh HZJ).1] at this; omega)
               clear h0 h1 h2
               go_wp2_with fail
               go_quiet (fail)
               go_wp2_with fail
               go_ret
               exact BIs.no (Uh HN) ((Uh HS).2.2.trans ((((Uh HV).n _).below).mono (Uh HS).2.2.size))
              ·have d4:decide (x ≤ z) = false:=decide_eq_false h2
               have HNX:=Hj (show RowP width cols X (i + 1) from ⟨fun r g1 g2 => by
                 by_cases e:r = i
                 ·subst e; rw [Uh HXI]; omega
                 ·exact (Uh HR).rng r g1 (by omega),fun r g1 g2 => by
                 by_cases e:r = i
                 ·subst e; rw [Uh HXI,show r - 1 = j by have:=(Uh HZJ).2; omega,(Uh HZJ).1]; omega
                 ·exact (Uh HR).up r g1 (by omega)⟩)
               clear h0 h1 h2
               go_wp2_with fail
               go_quiet (fail)
               go_wp2_with fail
               exact ⟨⟨i + 1,by omega,by omega,by (first | rfl | go_num),HNX,Hj ((Uh HV).n _)⟩,by simp [intOf]; omega⟩
          ·have hiY:i = Y:=by omega
           subst hiY
           have hlt3:¬ (i:Int) < (i:Int):=by omega
           have HSN:=Hj (show SeenP width st cols (k + 1) from ⟨fun r hr => by
             by_cases e:r = k
             ·subst e; rw [(Uh HXY).1,(Uh HXY).2]; omega
             ·exact (Uh HK).up r (by omega),fun r hr => by
             by_cases e:r = k
             ·subst e; rw [(Uh HXY).1,(Uh HXY).2]; exact Uh HR
             ·exact (Uh HK).row r (by omega),by rw [(Uh HXY).2,(Uh HLN).2]; omega⟩)
           clear dwi
           go_wp2_with fail
           exact ⟨⟨k + 1,by omega,by (first | rfl | go_num),HSN,HV⟩,by simp [intOf]; omega⟩
      ·have hkR:k = R:=by omega
       subst hkR
       have hlt':¬ (k:Int) < (k:Int):=by omega
       clear dwr
       go_wp2_with fail
       go_ret
       have hK:=Uh HK
       have hln:=(Uh HS).1.len
       exact BIs.yes ⟨Uh HHD,fun i _ hi => hK.up i (by omega),fun r hr => hK.row r (by omega)⟩ ((Uh HS).2.2.trans (((Uh HW).below).mono (Uh HS).2.2.size))
    ·have t1:((xR:Int) != (n2:Int)) = true:=by simp; omega
     have HN:=Hj (show ¬ MayP (R:Int) width st cols from fun z => by have h8:=z.head.last; have h9:=(Uh HX).2; have h7:=(Uh HS).2.1.len; rw [show ((R:Int)).toNat = R by omega,h9,h7] at h8; exact hr h8)
     clear hr hz
     go_enter Tryz.func44,Tryz.ntmps44
     go_wp2_with fail
     go_quiet ((go_at_call 75; exact Calls.quiet_of (Uh KF _)))
     go_wp2_with fail
     go_ret
     exact BIs.no (Uh HN) (bel_drewN (Uh HS).2.2 _)
   ·have t0:((x0:Int) != 0) = true:=by simp; omega
    have HN:=Hj (show ¬ MayP (R:Int) width st cols from fun z => by have h8:=z.head.first; have h9:=(Uh HX).1; rw [h9] at h8; exact hz h8)
    clear hz
    go_enter Tryz.func44,Tryz.ntmps44
    go_wp2_with fail
    go_quiet ((go_at_call 75; exact Calls.quiet_of (Uh KF _)))
    go_wp2_with fail
    go_ret
    exact BIs.no (Uh HN) (bel_drewN (Uh HS).2.2 _)
  ·have tl:((n1:Int) != (R:Int) + 1) = true:=by simp; omega
   have HN:=Hj (show ¬ MayP (R:Int) width st cols from fun z => by have h8:=z.head.len; have h9:=(Uh HS).1.len; exact hlen (by omega))
   clear hlen hfit
   go_enter Tryz.func44,Tryz.ntmps44
   go_wp2_with fail
   go_quiet ((go_at_call 75; exact Calls.quiet_of (Uh KF _)))
   go_wp2_with fail
   go_ret
   exact BIs.no (Uh HN) (bel_drewN (Uh HS).2.2 _)

set_option maxRecDepth 100000 in
set_option maxHeartbeats 8000000 in
theorem sameInts_eq (a1 a2:Option Addr) (n c1 c2:Nat) (xs:List Int) (w:World) (h1:SlI w a1 n c1 xs) (h2:SlI w a2 n c2 xs) (hn:n ≤ 140737488355328) :
  Calls Tryz.prog 32 #[.slice a1 n c1,.slice a2 n c2] w fun e w' => e = .returned (.bool true) ∧ ∃ m,w' = w.drewN m:=by
 have tn:((n:Int) != (n:Int)) = false:=by simp
 have H1:=Hj h1
 have H2:=Hj h2
 clear h1 h2
 go_enter Tryz.func32,Tryz.ntmps32
 go_wp2_with fail
 go_loopw [5] (fun iv wr => ∃ q:Nat,q ≤ n ∧ iv = .int .i64 (q:Nat) ∧ Hid (Dr w wr)) (fun iv _ => n - (intOf iv).toNat)
 case atStart => exact ⟨0,Nat.zero_le _,rfl,Dr.refl _⟩
 case round =>
  obtain ⟨q,hq,rfl,HW⟩:=hrel
  by_cases hlt:q < n
  ·have hlt':(q:Int) < (n:Int):=by omega
   obtain ⟨g1,o1,rfl,k1⟩:=((Uh H1).below (Uh HW).below).at (by omega)
   obtain ⟨g2,o2,rfl,k2⟩:=((Uh H2).below (Uh HW).below).at (by omega)
   have z1:=k1 q hlt
   have z2:=k2 q hlt
   generalize xs.getD q 0 = x at *
   have tx:((x:Int) != x) = false:=by simp
   clear k1 k2
   go_wp2_with fail
   go_quiet (fail)
   go_wp2_with fail
   exact ⟨⟨q + 1,by omega,by (first | rfl | go_num),Hj ((Uh HW).n _)⟩,by simp [intOf]; omega⟩
  ·have hq2:q = n:=by omega
   subst hq2
   have hlt':¬ (q:Int) < (q:Int):=by omega
   go_wp2_with fail
   go_ret
   exact ⟨rfl,Uh HW⟩
structure BoxP (w:World) (X:Nat) (vs:List Value):Prop where
 all:∀ q u,vs[q]? = some u → w.cell? ⟨X,q,none⟩ = some u ∧ w.frozen? ⟨X,q,none⟩ = false
 lt:X < w.heap.size
theorem Chg.frzP {S:Nat → Prop} {w w':World} (h:Chg S w w') {b i:Nat} (hb:b < w.heap.size) (hs:¬ S b):w'.frozen? ⟨b,i,none⟩ = w.frozen? ⟨b,i,none⟩:=by
 unfold World.frozen?
 rw [h.block b hb hs]
theorem BoxP.chg {S:Nat → Prop} {w w':World} {X:Nat} {vs:List Value} (h:BoxP w X vs) (k:Chg S w w') (hs:¬ S X):BoxP w' X vs :=
 ⟨fun q u hq => ⟨k.cell hs (h.all q u hq).1,by rw [k.frzP h.lt hs]; exact (h.all q u hq).2⟩,Nat.lt_of_lt_of_le h.lt k.size⟩
theorem BoxP.below {w w':World} {X:Nat} {vs:List Value} (h:BoxP w X vs) (k:Below w.heap.size w w'):BoxP w' X vs:=h.chg (S:=fun _ => False) (Chg.of_below k) (fun x => x)
theorem BoxP.put {w:World} {X:Nat} {vs:List Value} (h:BoxP w X vs) (q:Nat) (u:Value):BoxP (w.setCell ⟨X,q,none⟩ u) X (vs.set q u):=by
 refine ⟨fun p x hp => ?_,by simpa using h.lt⟩
 rw [World.frozen?_setCell]
 rw [List.getElem?_set] at hp
 by_cases e:q = p
 ·subst e
  rw [if_pos rfl] at hp
  split at hp
  ·rename_i hl
   obtain ⟨y,hy⟩:∃ y,vs[q]? = some y:=⟨_,List.getElem?_eq_getElem hl⟩
   have h1:=h.all q y hy
   obtain rfl:=Option.some.inj hp
   exact ⟨World.cell?_setCell_same _ _ _ h1.1,h1.2⟩
  ·cases hp
 ·rw [if_neg e] at hp
  have h1:=h.all p x hp
  exact ⟨by rw [World.cell?_setCell_other _ _ _ _ (by intro c; simp at c; try omega)]; exact h1.1,h1.2⟩
theorem BoxP.other {w:World} {X:Nat} {vs:List Value} (h:BoxP w X vs) {Y:Nat} (q:Nat) (u:Value) (hn:X ≠ Y):BoxP (w.setCell ⟨Y,q,none⟩ u) X vs :=
 h.chg (S:=fun j => j = Y) (Chg.of_set _ _ _ _ rfl) hn
theorem BoxP.made (w:World) (vs:Array Value) (e:TypeId):BoxP (w.alloc (.cells vs e)) w.heap.size vs.toList:=by
 refine ⟨fun q u hq => ?_,by simp⟩
 have hq':vs[q]? = some u:=by simpa using hq
 exact ⟨by simp [hq'],by simp⟩
theorem GivI.own_lt {w:World} {B:Nat} {v0 v1:Value} {es:List EntI} {rs:Nat → Value} (h:GivI w B v0 v1 es rs) {k:Nat} (hk:Own B v0 v1 k):k < w.heap.size:=by
 rcases hk with rfl | hk | hk
 ·exact h.cell0.2.2.2.2
 ·exact (Go.Proofs.YtgjokididdffhaaGreat.own_ge h.own0 k hk).2
 ·exact (Go.Proofs.YtgjokididdffhaaGreat.own_ge h.own1 k hk).2
theorem GivI.own_ge {w:World} {B:Nat} {v0 v1:Value} {es:List EntI} {rs:Nat → Value} (h:GivI w B v0 v1 es rs) {k:Nat} (hk:Own B v0 v1 k):B ≤ k:=by
 rcases hk with rfl | hk | hk
 ·exact Nat.le_refl _
 ·have:=(Go.Proofs.YtgjokididdffhaaGreat.own_ge h.own0 k hk).1; omega
 ·have:=(Go.Proofs.YtgjokididdffhaaGreat.own_ge h.own1 k hk).1; omega
theorem EntOkI.ne {w:World} {B:Nat} {v0 v1:Value} {e:EntI} (h:EntOkI w B v0 v1 e) {R:Nat} {a:Option Addr} {n c:Nat} (hR:w.cell? ⟨R,2,none⟩ = some (.slice a n c)):¬ e.b = R ∧ ¬ e.b0 = R:=by
 have k:∀ {b c':Nat},SlI w (some ⟨b,0,none⟩) (e.xs.length + 3) c' (e.xs ++ marksI) → ¬ b = R:=by
  intro b c' hs hb
  obtain ⟨b2,o2,e2,hc⟩:=hs.at (by omega)
  injection e2 with e3
  injection e3 with e4 e5 e6
  subst e4 e5 hb
  have:=hc 2 (by omega)
  rw [Nat.zero_add,hR] at this
  cases this
 exact ⟨k h.sl,k h.sl0⟩
theorem SlI.front {w:World} {a:Option Addr} {c:Nat} {xs ys:List Int} (h:SlI w a (xs.length + 3) c (xs ++ ys)) {n:Nat} {x:List Int} (hx:xs = x) (hn:x.length = n):SlI w a n c x:=by
 subst hx
 refine ⟨hn,by have:=h.le; omega,h.cap,?_⟩
 rcases h.cells with e | ⟨b,off,e,k⟩
 ·left
  exact (List.append_eq_nil_iff.1 e).1
 ·right
  refine ⟨b,off,e,fun i hi => ?_⟩
  have:=k i (by simp; omega)
  rw [this]
  congr 2
  simp [List.getD,List.getElem?_append_left hi]
def TruQ (b:Bool) (P:Prop):Prop:=b = true ↔ P
theorem BIs.known {P:Prop} {w w':World} {e:Ending} {b:Bool} (hb:TruQ b P) (h:BIs P w w' e):e = .returned (.bool b) ∧ Below w.heap.size w w':=by
 obtain ⟨⟨b',rfl,hb'⟩,k⟩:=h
 have:b' = b:=by
  have:=hb'.trans (Iff.symm hb)
  cases b <;> cases b' <;> simp_all
 rw [this]
 exact ⟨rfl,k⟩
theorem GivI.sli {w:World} {B:Nat} {v0 v1:Value} {is:List EntI} {rs:Nat → Value} (h:GivI w B v0 v1 is rs) {E:EntI} (hE:E ∈ is) {x:List Int} {n:Nat} (hx:E.xs = x) (hn:x.length = n):SlI w (some ⟨E.b,0,none⟩) n E.c x:=(h.ents E hE).sl.front hx hn
def RoV (w:World) (b n:Nat) (f:Nat → Value):Prop:=∀ i,i < n → w.cell? ⟨b,i,none⟩ = some (f i) ∧ w.frozen? ⟨b,i,none⟩ = false
theorem RoV.made (w:World) (n:Nat) (e:TypeId) (z:Value):RoV (w.alloc (.cells (madeCells #[z] n) e)) w.heap.size n (fun _ => z):=by
 intro i hi
 refine ⟨?_,by simp⟩
 simp [madeCells,hi,Nat.mod_one]
theorem RoV.chg {S:Nat → Prop} {w w':World} {b n:Nat} {f:Nat → Value} (h:RoV w b n f) (k:Chg S w w') (hs:¬ S b):RoV w' b n f:=fun i hi => ⟨k.cell hs (h i hi).1,by rw [k.frzP (World.block_lt_of_cell? _ _ (h i hi).1) hs]; exact (h i hi).2⟩
theorem RoV.below {w w':World} {b n:Nat} {f:Nat → Value} (h:RoV w b n f) (k:Below w.heap.size w w'):RoV w' b n f:=h.chg (S:=fun _ => False) (Chg.of_below k) (fun x => x)
theorem RoV.put {w:World} {b n:Nat} {f:Nat → Value} (h:RoV w b n f) (k:Nat) (v:Value) (hk:k < n):RoV (w.setCell ⟨b,k,none⟩ v) b n (fun i => if i = k then v else f i):=by
 intro i hi
 rw [World.frozen?_setCell]
 refine ⟨?_,(h i hi).2⟩
 by_cases e:i = k
 ·subst e
  simp only [if_true]
  exact World.cell?_setCell_same _ _ _ (h i hi).1
 ·simp only [e,if_false]
  rw [World.cell?_setCell_other _ _ _ _ (by intro c; simp at c; first | done | omega)]
  exact (h i hi).1
theorem RoV.congr {w:World} {b n:Nat} {f g:Nat → Value} (h:RoV w b n f) (e:∀ i,i < n → f i = g i):RoV w b n g:=fun i hi => by rw [← e i hi]; exact h i hi
noncomputable def tb (P:Prop):Bool:=@decide P (Classical.propDecidable P)
theorem tb_iff {P:Prop}:tb P = true ↔ P:=by unfold tb; exact @decide_eq_true_iff P (Classical.propDecidable P)
theorem tb_yes {P:Prop} (h:P):tb P = true:=tb_iff.2 h
theorem tb_no {P:Prop} (h:¬ P):tb P = false:=by cases hk:tb P; rfl; exact absurd (tb_iff.1 hk) h
theorem tb_congr {P Q:Prop} (h:P ↔ Q):tb P = tb Q:=by by_cases p:P; rw [tb_yes p,tb_yes (h.1 p)]; rw [tb_no p,tb_no (fun q => p (h.2 q))]
theorem Tryz.info_boolP:(Tryz.prog.info? 4).map (fun i => (i.zero,i.size,i.bytes)) = some (some (.bool false),1,1):=by kernel_rfl
theorem make_boolsP (n:Nat) (hn:n ≤ 35184372088000) (w:World):(Instr.makeSlice 32 (.int .i64 (n:Int)) (.int .i64 (n:Int))).run Tryz.prog w = .ok (.slice (some ⟨w.heap.size,0,none⟩) n n) (w.alloc (.cells (madeCells #[.bool false] n) 4)) :=
 run_make_row' (P:=Tryz.prog) 32 4 (.bool false) 1 Tryz.underlying32 Tryz.info_boolP rfl .i64 .i64 n (by omega) (by omega) w
def gridV (rows width:Nat) (b n:Nat):Value:=.agg #[.int .i64 (rows:Int),.int .i64 (width:Int),.slice (some ⟨b,0,none⟩) n n]
set_option maxRecDepth 100000 in
set_option maxHeartbeats 16000000 in
theorem wempty_any (rows width:Nat) (w:World) (hr:rows ≤ 128) (hw:width ≤ 128) :
  Calls Tryz.prog 78 #[.int .i64 (rows:Int),.int .i64 (width:Int)] w fun e w' => ∃ b,e = .returned (gridV rows width b (rows * width)) ∧ w.heap.size ≤ b ∧ b < w'.heap.size ∧ RoV w' b (rows * width) (fun _ => .bool false) ∧ Below w.heap.size w w':=by
 obtain ⟨m,hm⟩:∃ m,rows * width = m:=⟨_,rfl⟩
 have hm1:(rows:Int) * (width:Int) = (m:Int):=by rw [← hm]; simp
 have hm2:m ≤ 16384:=by rw [← hm]; exact Nat.mul_le_mul hr hw
 have hmk:=make_boolsP m (by omega)
 rw [hm]
 have HM:=Hj hm
 clear hm
 have hT0:=BoxP.made w #[.int .i64 0,.int .i64 0,.slice none 0 0] 131
 obtain ⟨wo,hwo⟩:∃ x,w.alloc (.cells #[.int .i64 0,.int .i64 0,.slice none 0 0] 131) = x:=⟨_,rfl⟩
 have hbo:Below w.heap.size w wo:=by rw [← hwo]; exact bAl
 rw [hwo] at hT0
 have hR:=RoV.made wo m 4 (.bool false)
 obtain ⟨wm,hwm⟩:∃ x,wo.alloc (.cells (madeCells #[.bool false] m) 4) = x:=⟨_,rfl⟩
 have hbm:Below wo.heap.size wo wm:=by rw [← hwm]; exact bAl
 rw [hwm] at hR
 have hT:=hT0.below hbm
 have q0:=(hT.all 0 _ rfl).1
 have q1:=(hT.all 1 _ rfl).1
 have q2:=(hT.all 2 _ rfl).1
 have r0:=(hT.all 0 _ rfl).2
 have r1:=(hT.all 1 _ rfl).2
 have r2:=(hT.all 2 _ rfl).2
 have hmk2:=hmk wo
 rw [hwm] at hmk2
 have HT:=Hj hT
 have HR:=Hj hR
 have HB:=Hj (hbo.trans (hbm.mono hbo.size))
 have HLT:=Hj (show w.heap.size < wo.heap.size ∧ wo.heap.size < wm.heap.size from ⟨hT0.lt,by rw [← hwm]; simp⟩)
 clear hT hT0 hR hbo hbm hmk
 go_enter Tryz.func78,Tryz.ntmps78
 go_wp2_with fail
 have hf:=(((Uh HT).put 0 (.int .i64 (rows:Int))).put 1 (.int .i64 (width:Int))).put 2 (.slice (some ⟨wo.heap.size,0,none⟩) m m)
 have t0:=(hf.all 0 _ rfl).1
 have t1:=(hf.all 1 _ rfl).1
 have t2:=(hf.all 2 _ rfl).1
 have c3:Chg (fun j => j = w.heap.size) wm (((wm.setCell ⟨w.heap.size,0,none⟩ (.int .i64 (rows:Int))).setCell ⟨w.heap.size,1,none⟩ (.int .i64 (width:Int))).setCell ⟨w.heap.size,2,none⟩ (.slice (some ⟨wo.heap.size,0,none⟩) m m)):=((Chg.of_set (S:=fun j => j = w.heap.size) _ _ _ _ rfl).trans (Chg.of_set (S:=fun j => j = w.heap.size) _ _ _ _ rfl)).trans (Chg.of_set (S:=fun j => j = w.heap.size) _ _ _ _ rfl)
 generalize ((wm.setCell ⟨w.heap.size,0,none⟩ (.int .i64 (rows:Int))).setCell ⟨w.heap.size,1,none⟩ (.int .i64 (width:Int))).setCell ⟨w.heap.size,2,none⟩ (.slice (some ⟨wo.heap.size,0,none⟩) m m) = wf at *
 refine bodyPost_ret (by simp [results,Tryz.results78,go_sem,t0,t1,t2]; try rfl) rfl ?_
 exact ⟨wo.heap.size,rfl,Nat.le_of_lt (Uh HLT).1,Nat.lt_of_lt_of_le (Uh HLT).2 c3.size,(Uh HR).chg c3 (fun e => by have:=Uh HLT; omega),(Uh HB).trans (c3.below (Uh HB).size (fun k hk e => by omega))⟩
set_option maxRecDepth 100000 in
set_option maxHeartbeats 16000000 in
theorem wat_any (rows width b n r c:Nat) (P:Nat → Bool) (w:World) (hw:width ≤ 128) (hr:r < 128) (hc:c < 128) (hn:r * width + c < n) (hn2:n ≤ 16384) (hR:RoV w b n (fun i => .bool (P i))) :
  Calls Tryz.prog 77 #[gridV rows width b n,.int .i64 (r:Int),.int .i64 (c:Int)] w fun e w' => e = .returned (.bool (P (r * width + c))) ∧ Below w.heap.size w w':=by
 obtain ⟨wb,hwb⟩:∃ x,w.alloc (.cells #[.int .i64 (rows:Int),.int .i64 (width:Int),.slice (some ⟨b,0,none⟩) n n] 131) = x:=⟨_,rfl⟩
 have bb:Below w.heap.size w wb:=by rw [← hwb]; exact bAl
 have hT:=BoxP.made w #[.int .i64 (rows:Int),.int .i64 (width:Int),.slice (some ⟨b,0,none⟩) n n] 131
 rw [hwb] at hT
 have q0:=(hT.all 0 _ rfl).1
 have q1:=(hT.all 1 _ rfl).1
 have q2:=(hT.all 2 _ rfl).1
 obtain ⟨m,hm⟩:∃ m,r * width = m:=⟨_,rfl⟩
 obtain ⟨x,hx⟩:∃ x,m + c = x:=⟨_,rfl⟩
 have hm1:(r:Int) * (width:Int) = (m:Int):=by rw [← hm]; simp
 have hx1:(m:Int) + (c:Int) = (x:Int):=by omega
 rw [hm,hx] at hn ⊢
 have hxn:(x:Int) < (n:Int):=by omega
 have hcell:=((hR.below bb) x hn).1
 have hm2:m ≤ 16384:=by rw [← hm]; exact Nat.le_trans (Nat.mul_le_mul (Nat.le_of_lt hr) hw) (by omega)
 obtain ⟨v,hv⟩:∃ v,P x = v:=⟨_,rfl⟩
 rw [hv] at hcell ⊢
 have HB:=Hj bb
 clear bb hT hR hm hx hv
 unfold gridV
 go_enter Tryz.func77,Tryz.ntmps77
 go_wp2_with fail
 go_ret
 exact ⟨rfl,Uh HB⟩
end Go.Proofs.YtgjokididdffhaaGreat
