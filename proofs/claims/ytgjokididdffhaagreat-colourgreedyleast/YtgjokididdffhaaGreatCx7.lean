/- Cx6 -/
import Derived.Test.YtgjokididdffhaaGreatCxd
import Derived.Test.YtgjokididdffhaaGreatDa1
import Derived.Test.YtgjokididdffhaaGreatCj1
import Derived.Test.YtgjokididdffhaaGreatSp3
namespace Go.Proofs.YtgjokididdffhaaGreat
open Go.RowKit Go.Deep
set_option linter.unusedVariables false
def NQ4 (ad:Nat → Nat → Prop) (cs:Nat → Int) (a b c d:Nat):Prop:=∀ a' b' c' d',Lx4 a' b' c' d' a b c d → ¬ Pa4 ad cs a' b' c' d'
section
variable {ad:Nat → Nat → Prop} {cs:Nat → Int} {a b c d:Nat}
theorem NQ4.first:NQ4 ad cs 0 0 0 0:=fun a' b' c' d' h => by unfold Lx4 at h; omega
theorem NQ4.skip (h:NQ4 ad cs a b c 0):NQ4 ad cs a b c (a + 1):=fun a' b' c' d' hl k => by
 by_cases e:a' = a ∧ b' = b ∧ c' = c
 ·obtain ⟨rfl,rfl,rfl⟩:=e
  have:=k.2.2.2.2.2.1
  unfold Lx4 at hl
  omega
 ·exact h a' b' c' d' (by unfold Lx4 at hl ⊢; omega) k
theorem NQ4.nextD (h:NQ4 ad cs a b c d) (k:¬ Pa4 ad cs a b c d):NQ4 ad cs a b c (d + 1):=fun a' b' c' d' hl => by
 by_cases e:a' = a ∧ b' = b ∧ c' = c ∧ d' = d
 ·obtain ⟨rfl,rfl,rfl,rfl⟩:=e; exact k
 ·exact h a' b' c' d' (by unfold Lx4 at hl ⊢; omega)
theorem NQ4.nextC (h:NQ4 ad cs a b c d) (k:∀ d',d ≤ d' → ¬ Pa4 ad cs a b c d'):NQ4 ad cs a b (c + 1) 0:=fun a' b' c' d' hl => by
 by_cases e:a' = a ∧ b' = b ∧ c' = c ∧ d ≤ d'
 ·obtain ⟨rfl,rfl,rfl,e⟩:=e; exact k d' e
 ·exact h a' b' c' d' (by unfold Lx4 at hl ⊢; omega)
theorem NQ4.nextB (h:NQ4 ad cs a b c 0) (k:∀ c' d',c ≤ c' → ¬ Pa4 ad cs a b c' d'):NQ4 ad cs a (b + 1) 0 0:=fun a' b' c' d' hl => by
 by_cases e:a' = a ∧ b' = b ∧ c ≤ c'
 ·obtain ⟨rfl,rfl,e⟩:=e; exact k c' d' e
 ·exact h a' b' c' d' (by unfold Lx4 at hl ⊢; omega)
theorem NQ4.nextA (h:NQ4 ad cs a b 0 0) (k:∀ b' c' d',b ≤ b' → ¬ Pa4 ad cs a b' c' d'):NQ4 ad cs (a + 1) 0 0 0:=fun a' b' c' d' hl => by
 by_cases e:a' = a ∧ b ≤ b'
 ·obtain ⟨rfl,e⟩:=e; exact k b' c' d' e
 ·exact h a' b' c' d' (by unfold Lx4 at hl ⊢; omega)
end
set_option maxRecDepth 100000 in
set_option maxHeartbeats 16000000 in
theorem wpath_any (N gb m:Nat) (Q:Nat → Bool) (ad:Nat → Nat → Prop) (hQ:∀ u v,u < N → v < N → (Q (u * N + v) = true ↔ ad u v)) (had:∀ u v,ad u v → u < N ∧ v < N) (ac:Option Addr) (cc:Nat) (xs:List Int) (w:World) (hN:N ≤ 128) (hmm:N * N = m) (hR:RoV w gb m (fun i => .bool (Q i))) (h3:SlI w ac N cc xs) (q:Option (Nat × Nat × Nat × Nat)) (hq:PaO ad (fun i => xs.getD i 0) q) :
  Calls Tryz.prog 61 #[grV N gb m,.slice ac N cc] w fun e w' => OwA (paL q) w w' e:=by
 obtain ⟨wb,hwb⟩:∃ x,w.alloc (.cells #[.int .i64 (N:Int),.slice (some ⟨gb,0,none⟩) m m] 45) = x:=⟨_,rfl⟩
 have bb:Below w.heap.size w wb:=by rw [← hwb]; exact bAl
 have hT:=BoxP.made w #[.int .i64 (N:Int),.slice (some ⟨gb,0,none⟩) m m] 45
 rw [hwb] at hT
 have hm2:m ≤ 16384:=by rw [← hmm]; exact Nat.mul_le_mul hN hN
 have p0:=(hT.all 0 _ rfl).1
 have HA:=Hj (show ∀ W,Below wb.heap.size wb W → BoxP W w.heap.size [.int .i64 (N:Int),.slice (some ⟨gb,0,none⟩) m m] ∧ SlI W ac N cc xs ∧ Below w.heap.size w W from fun W b => ⟨hT.below b,(h3.below bb).below b,bb.trans (b.mono bb.size)⟩)
 have HM:=Hj (show ∀ W,Below wb.heap.size wb W → ∀ u z t,u < N → z < N → Q (u * N + z) = t → Calls Tryz.prog 59 #[.agg #[.int .i64 (N:Int),.slice (some ⟨gb,0,none⟩) m m],.int .i64 (u:Int),.int .i64 (z:Int)] W fun e w' => e = .returned (.bool t) ∧ Below W.heap.size W w' from fun W b u z t hu hz ht => by
  subst ht
  exact wmeet_any N gb m u z Q W hN (by omega) (by omega) (by rw [← hmm]; have:=Nat.mul_le_mul_right N (show u + 1 ≤ N by omega); rw [Nat.add_mul,Nat.one_mul] at this; omega) hm2 ((hR.below bb).below b))
 have HQ:=Hj hQ
 have HD:=Hj had
 have HO:=Hj hq
 clear hT bb hR h3 hq hmm hQ had
 unfold grV
 go_enter Tryz.func61,Tryz.ntmps61
 go_wp2_with fail
 clear p0
 go_loopw [5] (fun av wr => ∃ a:Nat,a ≤ N ∧ av = .int .i64 (a:Int) ∧ Hid (NQ4 ad (fun i => xs.getD i 0) a 0 0 0) ∧ Hid (Below wb.heap.size wb wr)) (fun av _ => N - (intOf av).toNat)
 case atStart => exact ⟨0,Nat.zero_le _,rfl,Hj NQ4.first,Hj (Below.refl _ _)⟩
 case round =>
  obtain ⟨a,ha,rfl,HS,HW⟩:=hrel
  have hx:=Uh HA wr (Uh HW)
  have p0:=(hx.1.all 0 _ rfl).1
  by_cases hal:a < N
  ·have hal':(a:Int) < (N:Int):=by omega
   clear hx
   go_wp2_with fail
   clear p0
   go_loopw [6] (fun bv wq => ∃ b:Nat,b ≤ N ∧ bv = .int .i64 (b:Int) ∧ Hid (NQ4 ad (fun i => xs.getD i 0) a b 0 0) ∧ Hid (Below wb.heap.size wb wq)) (fun bv _ => N - (intOf bv).toNat)
   case atStart => exact ⟨0,Nat.zero_le _,rfl,HS,HW⟩
   case round =>
    obtain ⟨b,hb,rfl,HS2,HW2⟩:=hrel
    have hx:=Uh HA wr (Uh HW2)
    have p0:=(hx.1.all 0 _ rfl).1
    by_cases hbl:b < N
    ·have hbl':(b:Int) < (N:Int):=by omega
     clear hx
     go_wp2_with fail
     clear p0
     go_loopw [7] (fun cv wq => ∃ c:Nat,c ≤ N ∧ cv = .int .i64 (c:Int) ∧ Hid (NQ4 ad (fun i => xs.getD i 0) a b c 0) ∧ Hid (Below wb.heap.size wb wq)) (fun cv _ => N - (intOf cv).toNat)
     case atStart => exact ⟨0,Nat.zero_le _,rfl,HS2,HW2⟩
     case round =>
      obtain ⟨c,hc,rfl,HS3,HW3⟩:=hrel
      have hx:=Uh HA wr (Uh HW3)
      have p0:=(hx.1.all 0 _ rfl).1
      have p1:=(hx.1.all 1 _ rfl).1
      obtain ⟨q1,hq1⟩:∃ t,Q (a * N + b) = t:=⟨_,rfl⟩
      have KM:=Hj (Uh HM wr (Uh HW3) a b q1 hal hbl hq1)
      have HQ1:=Hj (show q1 = true ↔ ad a b from by rw [← hq1]; exact Uh HQ a b hal hbl)
      clear hx hq1
      cases q1
      ·have HN:=Hj ((Uh HS3).nextB (fun c' d' _ k => by have:=(Uh HQ1).2 k.1; cases this))
       go_wp2_with fail
       refine (Uh KM).mono ?_
       rintro _ w5 ⟨rfl,b5⟩
       have HW5:=Hj ((Uh HW3).trans (b5.mono (Uh HW3).size))
       clear KM b5 p0 p1
       go_wp2_with fail
       exact ⟨⟨b + 1,by omega,by (first | rfl | go_num),HN,HW5⟩,by simp [intOf]; omega⟩
      ·go_wp2_with fail
       refine (Uh KM).mono ?_
       rintro _ w5 ⟨rfl,b5⟩
       have HW5:=Hj ((Uh HW3).trans (b5.mono (Uh HW3).size))
       clear KM b5 p0 p1
       have hx:=Uh HA w5 (Uh HW5)
       have p0:=(hx.1.all 0 _ rfl).1
       have p1:=(hx.1.all 1 _ rfl).1
       by_cases hcl:c < N
       ·have hcl':(c:Int) < (N:Int):=by omega
        obtain ⟨bc,oc,ea,hcx⟩:=hx.2.1.at (by omega)
        subst ea
        have s0:=hcx c hcl
        have s1:=hcx a hal
        obtain ⟨y0,hy0⟩:∃ y,xs.getD c 0 = y:=⟨_,rfl⟩
        obtain ⟨y1,hy1⟩:∃ y,xs.getD a 0 = y:=⟨_,rfl⟩
        rw [hy0] at s0
        rw [hy1] at s1
        obtain ⟨q2,hq2⟩:∃ t,Q (b * N + c) = t:=⟨_,rfl⟩
        have F0:=fun x':Ext w5 => x'.cell s0
        have F1:=fun x':Ext w5 => x'.cell s1
        have F2:=fun x':Ext w5 => x'.cell p0
        have F3:=fun x':Ext w5 => x'.cell p1
        have hNE:=Ext.ne w5
        have HK2:=Hj (show ∀ x':Ext w5,Calls Tryz.prog 59 #[.agg #[.int .i64 (N:Int),.slice (some ⟨gb,0,none⟩) m m],.int .i64 (b:Int),.int .i64 (c:Int)] x'.w fun e w' => e = .returned (.bool q2) ∧ Below x'.w.heap.size x'.w w' from fun x' => Uh HM x'.w ((Uh HW5).trans (x'.bel.mono (Uh HW5).size)) b c q2 hbl hcl hq2)
        have HQ2:=Hj (show q2 = true ↔ ad b c from by rw [← hq2]; exact Uh HQ b c hbl hcl)
        have HY:=Hj (And.intro hy0 hy1)
        clear hq2 hy0 hy1 hx hcx
        cases q2
        ·have HN2:=Hj ((Uh HS3).nextC (fun d' _ k => by have:=(Uh HQ2).2 k.2.1; cases this))
         go_wp2_with fail
         refine wp_region_ext (by kernel_rfl) (by kernel_rfl) ?_
         repeat (go_big_quiet_step ((go_at_call 59; rename_i x'; first
          | (with_reducible exact Ext.call (Uh HK2 x') (fun e w' h => h)))))
         refine wpQuiet_nil ?_
         clear s0 s1 p0 p1
         rintro _ ⟨xE,rfl⟩
         have HX1:=Hj (show Below wb.heap.size wb xE.w from (Uh HW5).trans (xE.bel.mono (Uh HW5).size))
         clear F0 F1 F2 F3 hNE HK2
         go_wp2_with fail
         exact ⟨⟨c + 1,by omega,by (first | rfl | go_num),HN2,HX1⟩,by simp [intOf]; omega⟩
        ·by_cases hca:c = a
         ·have hca':((c:Int) == (a:Int)) = true:=by simp; omega
          have HN2:=Hj ((Uh HS3).nextC (fun d' _ k => k.2.2.1 hca))
          clear hca
          go_wp2_with fail
          refine wp_region_ext (by kernel_rfl) (by kernel_rfl) ?_
          repeat (go_big_quiet_step ((go_at_call 59; rename_i x'; first
           | (with_reducible exact Ext.call (Uh HK2 x') (fun e w' h => h)))))
          refine wpQuiet_nil ?_
          clear s0 s1 p0 p1
          rintro _ ⟨xE,rfl⟩
          have HX1:=Hj (show Below wb.heap.size wb xE.w from (Uh HW5).trans (xE.bel.mono (Uh HW5).size))
          clear F0 F1 F2 F3 hNE HK2
          go_wp2_with fail
          exact ⟨⟨c + 1,by omega,by (first | rfl | go_num),HN2,HX1⟩,by simp [intOf]; omega⟩
         ·have hca':((c:Int) == (a:Int)) = false:=by simp; omega
          by_cases hyy:y0 = y1
          ·have hyy':(y0 != y1) = false:=by simp [hyy]
           have HYY:=Hj hyy
           have HCA:=Hj hca
           have hw1:IntKind.i64.wrap ((a:Int) + 1) = (a:Int) + 1:=by rw [IntKind.wrap_i64]; omega
           clear hyy hca
           go_wp2_with fail
           refine wp_region_ext (by kernel_rfl) (by kernel_rfl) ?_
           repeat (go_big_quiet_step ((go_at_call 59; rename_i x'; first
            | (with_reducible exact Ext.call (Uh HK2 x') (fun e w' h => h)))))
           refine wpQuiet_nil ?_
           clear s0 s1 p0 p1
           rintro _ ⟨xE,rfl⟩
           have HX1:=Hj (show Below wb.heap.size wb xE.w from (Uh HW5).trans (xE.bel.mono (Uh HW5).size))
           clear F0 F1 F2 F3 hNE HK2
           go_wp2_with fail
           go_loopw [8] (fun dv wz => ∃ d:Nat,a + 1 ≤ d ∧ d ≤ N ∧ dv = .int .i64 (d:Int) ∧ Hid (NQ4 ad (fun i => xs.getD i 0) a b c d) ∧ Hid (Below wb.heap.size wb wz)) (fun dv _ => N - (intOf dv).toNat)
           case atStart => exact ⟨a + 1,Nat.le_refl _,by omega,by (first | rfl | go_num),Hj ((Uh HS3).skip),HX1⟩
           case round =>
            obtain ⟨d,had1,hd,rfl,HS4,HW6⟩:=hrel
            have hx:=Uh HA wr (Uh HW6)
            have p0:=(hx.1.all 0 _ rfl).1
            have p1:=(hx.1.all 1 _ rfl).1
            by_cases hdl:d < N
            ·have hdl':(d:Int) < (N:Int):=by omega
             obtain ⟨bc',oc',ea,hcx⟩:=hx.2.1.at (by omega)
             cases ea
             have s0:=hcx d hdl
             have s1:=hcx b hbl
             obtain ⟨y3,hy3⟩:∃ y,xs.getD d 0 = y:=⟨_,rfl⟩
             obtain ⟨y4,hy4⟩:∃ y,xs.getD b 0 = y:=⟨_,rfl⟩
             rw [hy3] at s0
             rw [hy4] at s1
             obtain ⟨q3,hq3⟩:∃ t,Q (c * N + d) = t:=⟨_,rfl⟩
             have F0:=fun x':Ext wr => x'.cell s0
             have F1:=fun x':Ext wr => x'.cell s1
             have F2:=fun x':Ext wr => x'.cell p0
             have F3:=fun x':Ext wr => x'.cell p1
             have hNE:=Ext.ne wr
             have HK3:=Hj (show ∀ x':Ext wr,Calls Tryz.prog 59 #[.agg #[.int .i64 (N:Int),.slice (some ⟨gb,0,none⟩) m m],.int .i64 (c:Int),.int .i64 (d:Int)] x'.w fun e w' => e = .returned (.bool q3) ∧ Below x'.w.heap.size x'.w w' from fun x' => Uh HM x'.w ((Uh HW6).trans (x'.bel.mono (Uh HW6).size)) c d q3 hcl hdl hq3)
             have HQ3:=Hj (show q3 = true ↔ ad c d from by rw [← hq3]; exact Uh HQ c d hcl hdl)
             have HY3:=Hj (And.intro hy3 hy4)
             clear hq3 hy3 hy4 hx hcx
             cases q3
             ·have HN4:=Hj ((Uh HS4).nextD (fun k => by have:=(Uh HQ3).2 k.2.2.2.2.1; cases this))
              go_wp2_with fail
              refine wp_region_ext (by kernel_rfl) (by kernel_rfl) ?_
              repeat (go_big_quiet_step ((go_at_call 59; rename_i x'; first
               | (with_reducible exact Ext.call (Uh HK3 x') (fun e w' h => h)))))
              refine wpQuiet_nil ?_
              clear s0 s1 p0 p1
              rintro _ ⟨xE,rfl⟩
              have HX2:=Hj (show Below wb.heap.size wb xE.w from (Uh HW6).trans (xE.bel.mono (Uh HW6).size))
              clear F0 F1 F2 F3 hNE HK3
              go_wp2_with fail
              exact ⟨⟨d + 1,by omega,by omega,by (first | rfl | go_num),HN4,HX2⟩,by simp [intOf]; omega⟩
             ·by_cases hdb:d = b
              ·have hdb':((d:Int) != (b:Int)) = false:=by simp; omega
               have HN4:=Hj ((Uh HS4).nextD (fun k => k.2.2.2.2.2.2.1 hdb))
               clear hdb
               go_wp2_with fail
               refine wp_region_ext (by kernel_rfl) (by kernel_rfl) ?_
               repeat (go_big_quiet_step ((go_at_call 59; rename_i x'; first
                | (with_reducible exact Ext.call (Uh HK3 x') (fun e w' h => h)))))
               refine wpQuiet_nil ?_
               clear s0 s1 p0 p1
               rintro _ ⟨xE,rfl⟩
               have HX2:=Hj (show Below wb.heap.size wb xE.w from (Uh HW6).trans (xE.bel.mono (Uh HW6).size))
               clear F0 F1 F2 F3 hNE HK3
               go_wp2_with fail
               exact ⟨⟨d + 1,by omega,by omega,by (first | rfl | go_num),HN4,HX2⟩,by simp [intOf]; omega⟩
              ·have hdb':((d:Int) != (b:Int)) = true:=by simp; omega
               by_cases hy34:y3 = y4
               ·have hy34':(y3 == y4) = true:=by simp [hy34]
                have hres:q = some (a,b,c,d):=PaO.at (Uh HO) ⟨(Uh HQ1).1 (by first | rfl | trivial),(Uh HQ2).1 (by first | rfl | trivial),Uh HCA,(by show xs.getD c 0 = xs.getD a 0; rw [(Uh HY).1,(Uh HY).2]; exact Uh HYY),(Uh HQ3).1 (by first | rfl | trivial),by omega,hdb,(by show xs.getD d 0 = xs.getD b 0; rw [(Uh HY3).1,(Uh HY3).2]; exact hy34)⟩ (Uh HS4)
                subst hres
                clear hdb hy34
                go_wp2_with fail
                refine wp_region_ext (by kernel_rfl) (by kernel_rfl) ?_
                repeat (go_big_quiet_step ((go_at_call 59; rename_i x'; first
                 | (with_reducible exact Ext.call (Uh HK3 x') (fun e w' h => h)))))
                refine wpQuiet_nil ?_
                clear s0 s1 p0 p1
                rintro _ ⟨xE,rfl⟩
                have HX2:=Hj (show Below wb.heap.size wb xE.w from (Uh HW6).trans (xE.bel.mono (Uh HW6).size))
                have HF:=Hj ((Uh HA xE.w (Uh HX2)).2.2)
                clear F0 F1 F2 F3 hNE HK3
                go_wp2_with fail
                try go_ret
                exact ⟨_,rfl,own_four _ _ _ _ _ (Uh HF).size,(Uh HF).alloc (Uh HF).size _⟩
               ·have hy34':(y3 == y4) = false:=by simp [hy34]
                have HN4:=Hj ((Uh HS4).nextD (fun k => by have h9:xs.getD d 0 = xs.getD b 0:=k.2.2.2.2.2.2.2; rw [(Uh HY3).1,(Uh HY3).2] at h9; exact hy34 h9))
                clear hdb hy34
                go_wp2_with fail
                refine wp_region_ext (by kernel_rfl) (by kernel_rfl) ?_
                repeat (go_big_quiet_step ((go_at_call 59; rename_i x'; first
                 | (with_reducible exact Ext.call (Uh HK3 x') (fun e w' h => h)))))
                refine wpQuiet_nil ?_
                clear s0 s1 p0 p1
                rintro _ ⟨xE,rfl⟩
                have HX2:=Hj (show Below wb.heap.size wb xE.w from (Uh HW6).trans (xE.bel.mono (Uh HW6).size))
                clear F0 F1 F2 F3 hNE HK3
                go_wp2_with fail
                exact ⟨⟨d + 1,by omega,by omega,by (first | rfl | go_num),HN4,HX2⟩,by simp [intOf]; omega⟩
            ·obtain rfl:d = N:=by omega
             have hdl':¬ (d:Int) < (d:Int):=by omega
             have HN5:=Hj ((Uh HS4).nextC (fun d' h1 k => by have:=(Uh HD c d' k.2.2.2.2.1).2; omega))
             clear hx
             go_wp2_with fail
             exact ⟨⟨c + 1,by omega,by (first | rfl | go_num),HN5,HW6⟩,by simp [intOf]; omega⟩
          ·have hyy':(y0 != y1) = true:=by simp [hyy]
           have HN2:=Hj ((Uh HS3).nextC (fun d' _ k => by have h9:xs.getD c 0 = xs.getD a 0:=k.2.2.2.1; rw [(Uh HY).1,(Uh HY).2] at h9; exact hyy h9))
           clear hyy hca
           go_wp2_with fail
           refine wp_region_ext (by kernel_rfl) (by kernel_rfl) ?_
           repeat (go_big_quiet_step ((go_at_call 59; rename_i x'; first
            | (with_reducible exact Ext.call (Uh HK2 x') (fun e w' h => h)))))
           refine wpQuiet_nil ?_
           clear s0 s1 p0 p1
           rintro _ ⟨xE,rfl⟩
           have HX1:=Hj (show Below wb.heap.size wb xE.w from (Uh HW5).trans (xE.bel.mono (Uh HW5).size))
           clear F0 F1 F2 F3 hNE HK2
           go_wp2_with fail
           exact ⟨⟨c + 1,by omega,by (first | rfl | go_num),HN2,HX1⟩,by simp [intOf]; omega⟩
       ·obtain rfl:c = N:=by omega
        have hcl':¬ (c:Int) < (c:Int):=by omega
        have HN5:=Hj ((Uh HS3).nextB (fun c' d' h1 k => by have:=(Uh HD b c' k.2.1).2; omega))
        clear hx
        go_wp2_with fail
        exact ⟨⟨b + 1,by omega,by (first | rfl | go_num),HN5,HW5⟩,by simp [intOf]; omega⟩
    ·obtain rfl:b = N:=by omega
     have hbl':¬ (b:Int) < (b:Int):=by omega
     have HN5:=Hj ((Uh HS2).nextA (fun b' c' d' h1 k => by have:=(Uh HD a b' k.1).2; omega))
     clear hx
     go_wp2_with fail
     exact ⟨⟨a + 1,by omega,by (first | rfl | go_num),HN5,HW2⟩,by simp [intOf]; omega⟩
  ·obtain rfl:a = N:=by omega
   have hal':¬ (a:Int) < (a:Int):=by omega
   have hres:=PaO.no (Uh HO) (fun a' b' c' d' k => Uh HS a' b' c' d' (.inl (Uh HD a' b' k.1).1) k)
   subst hres
   have HF:=Hj hx.2.2
   clear hx
   go_wp2_with fail
   try go_ret
   exact ⟨_,rfl,World.ownsRow_nil _ _ _ _,Uh HF⟩
set_option maxRecDepth 100000 in
set_option maxHeartbeats 16000000 in
theorem wforestL_any (N b m:Nat) (Q:Nat → Bool) (ac:Option Addr) (cc:Nat) (xs:List Int) (cs:Nat → Int) (hcs:(fun i => xs.getD i 0) = cs) (c d:Int) (w:World) (hN:N ≤ 128) (hm:N * N = m) (hQ:RoV w b m (fun i => .bool (Q i))) (hc:SlI w ac N cc xs) (ok:Bool) (hok:TruQ ok (FoP (adQ Q N) (fun u => u < N ∧ twB cs c d u = true))) :
  Calls Tryz.prog 91 #[grV N b m,.slice ac N cc,.int .i64 c,.int .i64 d] w fun e w' => e = .returned (.bool ok) ∧ Below w.heap.size w w':=by
 obtain ⟨wb,hwb⟩:∃ x,w.alloc (.cells #[.int .i64 (N:Int),.slice (some ⟨b,0,none⟩) m m] 45) = x:=⟨_,rfl⟩
 have bb:Below w.heap.size w wb:=by rw [← hwb]; exact bAl
 have hT:=BoxP.made w #[.int .i64 (N:Int),.slice (some ⟨b,0,none⟩) m m] 45
 rw [hwb] at hT
 have p0:=(hT.all 0 _ rfl).1
 have hmk:=make_boolsP N (by omega) wb
 have hRo:=RoV.made wb N 4 (.bool false)
 obtain ⟨wm,hwm⟩:∃ x,wb.alloc (.cells (madeCells #[.bool false] N) 4) = x:=⟨_,rfl⟩
 have bm:Below wb.heap.size wb wm:=by rw [← hwm]; exact bAl
 rw [hwm] at hmk hRo
 obtain ⟨g,hg⟩:∃ g,wb.heap.size = g:=⟨_,rfl⟩
 rw [hg] at hmk hRo
 have hgw:w.heap.size < g:=by rw [← hg,← hwb]; simp
 have hm2:m ≤ 16384:=by rw [← hm]; exact Nat.mul_le_mul hN hN
 have hwmB:=bb.trans (bm.mono bb.size)
 have HNx:=Hj (show ∀ W,Chg (fun j => j = g) wm W → BoxP W w.heap.size [.int .i64 (N:Int),.slice (some ⟨b,0,none⟩) m m] ∧ (0 < m → RoV W b m (fun i => .bool (Q i))) ∧ SlI W ac N cc xs ∧ Below w.heap.size w W from fun W k =>
  ⟨((hT.below bm).chg k (show ¬ w.heap.size = g by omega)),fun h0 => (hQ.below hwmB).chg k (show ¬ b = g from fun e => by have:=World.block_lt_of_cell? _ _ (hQ 0 h0).1; have h9:b < w.heap.size:=this; omega),(hc.below hwmB).chg k (fun z hz hne e => by have:=hc.block_lt hne z hz; have e9:z.block = g:=e; omega),hwmB.trans (k.below hwmB.size (fun j hj e => by have e':j = g:=e; omega))⟩)
 have HRo:=Hj hRo
 have HOK:=Hj hok
 have HCS:=Hj hcs
 have HMM:=Hj hm
 clear hT bb bm hQ hc hok hRo hwm hg hwmB hm
 unfold grV
 go_enter Tryz.func91,Tryz.ntmps91
 go_wp2_with fail
 clear hmk p0
 go_loopw [11,10] (fun vv nv wr => ∃ v:Nat,v ≤ N ∧ vv = .int .i64 (v:Int) ∧ nv = .int .i64 (nuB (twB cs c d) v:Int) ∧ Hid (RoV wr g N (fun u => .bool (decide (u < v) && twB cs c d u))) ∧ Hid (Chg (fun j => j = g) wm wr)) (fun vv _ _ => N - (intOf vv).toNat)
 case atStart => exact ⟨0,Nat.zero_le _,rfl,rfl,Hj ((Uh HRo).congr (fun u hu => by simp)),Hj (Chg.refl _ _)⟩
 case round =>
  obtain ⟨v,hv,rfl,rfl,HR,HC⟩:=hrel
  have hbx:=Uh HNx wr (Uh HC)
  have p0:=(hbx.1.all 0 _ rfl).1
  by_cases hlt:v < N
  ·have hlt':(v:Int) < (N:Int):=by omega
   obtain ⟨bc,oc,ea,hcx⟩:=hbx.2.2.1.at (by omega)
   subst ea
   have s0:wr.cell? ⟨bc,oc + v,none⟩ = some (.int .i64 (cs v)):=by rw [← Uh HCS]; exact hcx v hlt
   have q0:=(Uh HR v hlt).1
   have q1:=(Uh HR v hlt).2
   obtain ⟨z,hz⟩:∃ z,nuB (twB cs c d) v = z:=⟨_,rfl⟩
   have hzl:z ≤ v:=by rw [← hz]; exact nuB_le _ _
   have hw1:IntKind.i64.wrap ((z:Int) + 1) = (z:Int) + 1:=by rw [IntKind.wrap_i64]; omega
   have hput:∀ t,twB cs c d v = t → RoV (wr.setCell ⟨g,v,none⟩ (.bool t)) g N (fun u => .bool (decide (u < v + 1) && twB cs c d u)):=fun t ht => ((Uh HR).put v _ hlt).congr (fun u hu => by
    by_cases e:u = v
    ·rw [if_pos e,e,ht]; simp
    ·rw [if_neg e]
     have:(u < v) ↔ (u < v + 1):=by omega
     simp [this])
   have hst:nuB (twB cs c d) (v + 1) = z + (if twB cs c d v = true then 1 else 0):=by simp only [nuB]; rw [hz]
   have HC2:=Hj (fun t => (Uh HC).trans (Chg.of_set (S:=fun j => j = g) wr g v (.bool t) rfl))
   obtain ⟨y,hy⟩:∃ y,cs v = y:=⟨_,rfl⟩
   simp only [hy] at s0
   have htw:twB cs c d v = ((y == c) || (y == d)):=by unfold twB; rw [hy]
   have HP:=Hj hput
   have HST:=Hj hst
   have HTW:=Hj htw
   rw [hz]
   clear hbx hput hst htw hy hz hcx
   by_cases e1:y = c
   ·have d1:(y == c) = true:=by simp [e1]
    have ht:twB cs c d v = true:=by rw [Uh HTW,d1]; rfl
    have HP1:=Hj (Uh HP true ht)
    have HZ:=Hj (show nuB (twB cs c d) (v + 1) = z + 1 by rw [Uh HST,if_pos ht])
    have HC3:=Hj (Uh HC2 true)
    clear ht e1
    go_wp2_with fail
    exact ⟨⟨v + 1,by omega,by (first | rfl | go_num),by rw [Uh HZ]; simp,HP1,HC3⟩,by simp [intOf]; omega⟩
   ·have d1:(y == c) = false:=by simp [e1]
    by_cases e2:y = d
    ·have d2:(y == d) = true:=by simp [e2]
     have ht:twB cs c d v = true:=by rw [Uh HTW,d2]; simp
     have HP1:=Hj (Uh HP true ht)
     have HZ:=Hj (show nuB (twB cs c d) (v + 1) = z + 1 by rw [Uh HST,if_pos ht])
     have HC3:=Hj (Uh HC2 true)
     clear ht e1 e2
     go_wp2_with fail
     exact ⟨⟨v + 1,by omega,by (first | rfl | go_num),by rw [Uh HZ]; simp,HP1,HC3⟩,by simp [intOf]; omega⟩
    ·have d2:(y == d) = false:=by simp [e2]
     have ht:twB cs c d v = false:=by rw [Uh HTW,d1,d2]; rfl
     have HP1:=Hj (Uh HP false ht)
     have HZ:=Hj (show nuB (twB cs c d) (v + 1) = z by rw [Uh HST,ht]; simp)
     have HC3:=Hj (Uh HC2 false)
     clear ht e1 e2
     go_wp2_with fail
     exact ⟨⟨v + 1,by omega,by (first | rfl | go_num),by rw [Uh HZ],HP1,HC3⟩,by simp [intOf]; omega⟩
  ·obtain rfl:v = N:=by omega
   have hlt':¬ (v:Int) < (v:Int):=by omega
   have HR0:=Hj (show RoV wr g v (fun u => .bool (twB cs c d u)) from (Uh HR).congr (fun u hu => by simp [hu]))
   obtain ⟨T0,hT0⟩:∃ T0,twB cs c d = T0:=⟨_,rfl⟩
   rw [hT0] at HR0 HOK ⊢
   clear hbx hT0 HR
   go_wp2_with fail
   clear p0
   go_loopw [12,10] (fun av nv wr => ∃ (ag:Bool) (lf:Nat → Bool),av = .bool ag ∧ nv = .int .i64 (nuB lf v:Int) ∧ Hid (RoV wr g v (fun u => .bool (lf u))) ∧ Hid (PaQ Q v T0 lf 0 false lf) ∧ Hid (ag = false → PaQ Q v T0 lf v false lf) ∧ Hid (Chg (fun j => j = g) wm wr)) (fun av nv _ => 2 * (intOf nv).toNat + (match av with | .bool true => 1 | _ => 0))
   case atStart => exact ⟨true,T0,rfl,rfl,HR0,Hj ⟨fun u _ h => h,fun T hT _ u hu => (hT u hu).2,fun _ => ⟨fun u _ => rfl,fun u hu => absurd hu (Nat.not_lt_zero u)⟩,fun e => (by cases e)⟩,Hj (fun e => (by cases e)),HC⟩
   case round =>
    obtain ⟨ag0,lf0,rfl,rfl,HR1,HP0,HN0,HC1⟩:=hrel
    obtain ⟨n0,hn0⟩:∃ n0,nuB lf0 v = n0:=⟨_,rfl⟩
    rw [hn0]
    have HN9:=Hj hn0
    clear hn0
    cases ag0
    ·have hiff:=(Uh HN0 (by first | rfl | trivial)).done
     rw [Uh HN9] at hiff
     have hd:((n0:Int) == 0) = ok:=by
      have h2:ok = true ↔ n0 = 0:=(Iff.trans (Uh HOK) hiff.symm)
      cases ok
      ·simp; intro e; have:=h2.2 (by omega); cases this
      ·have:=h2.1 rfl; simp [this]
     have HB9:=Hj (Uh HNx wr (Uh HC1)).2.2.2
     clear hiff
     go_wp2_with fail
     try go_ret
     exact ⟨by simp_all,Uh HB9⟩
    ·go_wp2_with fail
     go_loopw [13,12,10] (fun xv av nv wq => ∃ (x:Nat) (ag:Bool) (lf:Nat → Bool),x ≤ v ∧ xv = .int .i64 (x:Int) ∧ av = .bool ag ∧ nv = .int .i64 (nuB lf v:Int) ∧ Hid (RoV wq g v (fun u => .bool (lf u))) ∧ Hid (PaQ Q v T0 lf0 x ag lf) ∧ Hid (Chg (fun j => j = g) wm wq)) (fun xv _ _ _ => v - (intOf xv).toNat)
     case atStart => exact ⟨0,false,lf0,Nat.zero_le _,rfl,rfl,by rw [Uh HN9],HR1,HP0,HC1⟩
     case round =>
      obtain ⟨x,ag,lf,hx,rfl,rfl,rfl,HR2,HP2,HC2⟩:=hrel
      obtain ⟨w5,hw5⟩:∃ y,y = wr:=⟨_,rfl⟩
      subst hw5
      have hbx:=Uh HNx w5 (Uh HC2)
      have p0:=(hbx.1.all 0 _ rfl).1
      obtain ⟨z,hz⟩:∃ z,nuB lf v = z:=⟨_,rfl⟩
      rw [hz]
      have HZ:=Hj hz
      clear hz
      by_cases hlt2:x < v
      ·have hlt2':(x:Int) < (v:Int):=by omega
       obtain ⟨t,ht⟩:∃ t,lf x = t:=⟨_,rfl⟩
       have m0:=(Uh HR2 x hlt2).1
       have m1:=(Uh HR2 x hlt2).2
       simp only [ht] at m0
       have HTx:=Hj ht
       clear ht hbx
       cases t
       ·have HPk:=Hj ((Uh HP2).keep (fun e => by rw [Uh HTx] at e; cases e))
        go_wp2_with fail
        go_loopw [15,14] (fun uv kv wr => uv = .int .i64 0 ∧ kv = .int .i64 0 ∧ Hid (wr = w5)) (fun _ _ _ => 0)
        case atStart => exact ⟨rfl,rfl,Hj rfl⟩
        case round =>
         obtain ⟨rfl,rfl,HW⟩:=hrel
         have hwr:=Uh HW
         subst hwr
         go_wp2_with fail
         exact ⟨⟨x + 1,ag,lf,by omega,by (first | rfl | go_num),rfl,by rw [Uh HZ],HR2,HPk,HC2⟩,by simp [intOf]; omega⟩
       ·go_wp2_with fail
        clear p0 m0 m1
        go_loopw [15,14] (fun uv kv wr => ∃ i:Nat,i ≤ v ∧ uv = .int .i64 (i:Int) ∧ kv = .int .i64 (nuB (fun y => lf y && Q (y * v + x)) i:Int) ∧ Hid (Below w5.heap.size w5 wr)) (fun uv _ _ => v - (intOf uv).toNat)
        case atStart => exact ⟨0,Nat.zero_le _,rfl,rfl,Hj (Below.refl _ _)⟩
        case round =>
         obtain ⟨i,hi,rfl,rfl,HW⟩:=hrel
         have HC3:=Hj ((Uh HC2).trans (Chg.of_below (Uh HW)))
         have hbx:=Uh HNx wr (Uh HC3)
         have p0:=(hbx.1.all 0 _ rfl).1
         have p1:=(hbx.1.all 1 _ rfl).1
         have HR3:=Hj ((Uh HR2).below (Uh HW))
         have m0:=(Uh HR3 x hlt2).1
         have m1:=(Uh HR3 x hlt2).2
         simp only [Uh HTx] at m0
         obtain ⟨k,hk⟩:∃ k,nuB (fun y => lf y && Q (y * v + x)) i = k:=⟨_,rfl⟩
         have hkl:k ≤ i:=by rw [← hk]; exact nuB_le _ _
         have hw1:IntKind.i64.wrap ((k:Int) + 1) = (k:Int) + 1:=by rw [IntKind.wrap_i64]; omega
         have hst:nuB (fun y => lf y && Q (y * v + x)) (i + 1) = k + (if (lf i && Q (i * v + x)) = true then 1 else 0):=by simp only [nuB]; rw [hk]
         rw [hk]
         have HK:=Hj hk
         have HST:=Hj hst
         clear hk hst
         by_cases hin:i < v
         ·have hin':(i:Int) < (v:Int):=by omega
          have s0:=(Uh HR3 i hin).1
          obtain ⟨t,ht⟩:∃ t,lf i = t:=⟨_,rfl⟩
          simp only [ht] at s0
          have HTi:=Hj ht
          have hm0:i * v + x < m:=by
           have h3:(i + 1) * v ≤ v * v:=Nat.mul_le_mul_right _ hin
           rw [Uh HMM,Nat.add_mul,Nat.one_mul] at h3
           omega
          have KM:=Hj (wmeet_any v b m i x Q wr hN (by omega) (by omega) hm0 hm2 (hbx.2.1 (by omega)))
          unfold grV at KM
          obtain ⟨q,hq⟩:∃ q,Q (i * v + x) = q:=⟨_,rfl⟩
          rw [hq] at KM
          have HQi:=Hj hq
          clear ht hq hbx hm0
          cases t
          ·have HZ2:=Hj (show nuB (fun y => lf y && Q (y * v + x)) (i + 1) = k by rw [Uh HST,Uh HTi]; simp)
           go_wp2_with fail
           exact ⟨⟨i + 1,by omega,by (first | rfl | go_num),by rw [Uh HZ2],HW⟩,by simp [intOf]; omega⟩
          ·cases q
           ·have HZ2:=Hj (show nuB (fun y => lf y && Q (y * v + x)) (i + 1) = k by rw [Uh HST,Uh HTi,Uh HQi]; simp)
            go_wp2_with fail
            refine (Uh KM).mono ?_
            rintro _ w6 ⟨rfl,b6⟩
            have HW6:=Hj ((Uh HW).trans (b6.mono (Uh HW).size))
            clear KM b6 p0 p1 m0 m1 s0
            go_wp2_with fail
            exact ⟨⟨i + 1,by omega,by (first | rfl | go_num),by rw [Uh HZ2],HW6⟩,by simp [intOf]; omega⟩
           ·have HZ2:=Hj (show nuB (fun y => lf y && Q (y * v + x)) (i + 1) = k + 1 by rw [Uh HST,Uh HTi,Uh HQi]; simp)
            go_wp2_with fail
            refine (Uh KM).mono ?_
            rintro _ w6 ⟨rfl,b6⟩
            have HW6:=Hj ((Uh HW).trans (b6.mono (Uh HW).size))
            clear KM b6 p0 p1 m0 m1 s0
            go_wp2_with fail
            exact ⟨⟨i + 1,by omega,by (first | rfl | go_num),by rw [Uh HZ2]; simp,HW6⟩,by simp [intOf]; omega⟩
         ·obtain rfl:i = v:=by omega
          have hin':¬ (i:Int) < (i:Int):=by omega
          clear hbx
          by_cases hd:k < 2
          ·have hd':(k:Int) < 2:=by omega
           have HPd:=Hj ((Uh HP2).drop hlt2 (Uh HTx) (by rw [Uh HK]; exact hd))
           have hz1:=nuB_drop (Uh HTx) i hlt2
           rw [Uh HZ] at hz1
           have hzl:z ≤ i:=by have:=nuB_le lf i; rw [Uh HZ] at this; exact this
           have hw2:IntKind.i64.wrap ((z:Int) - 1) = (z:Int) - 1:=by rw [IntKind.wrap_i64]; omega
           have HZ1:=Hj hz1
           have HR5:=Hj (show RoV (wr.setCell ⟨g,x,none⟩ (.bool false)) g i (fun u => .bool (if u = x then false else lf u)) from ((Uh HR3).put x _ hlt2).congr (fun u hu => by by_cases e:u = x <;> simp [e]))
           have HC5:=Hj ((Uh HC3).trans (Chg.of_set (S:=fun j => j = g) wr g x (.bool false) rfl))
           clear hd hz1
           go_wp2_with fail
           exact ⟨⟨x + 1,true,_,by omega,by (first | rfl | go_num),rfl,by have:=Uh HZ1; congr 1; omega,HR5,HPd,HC5⟩,by simp [intOf]; omega⟩
          ·have hd':¬ (k:Int) < 2:=by omega
           have HPk:=Hj ((Uh HP2).keep (fun _ => by rw [Uh HK]; omega))
           clear hd
           go_wp2_with fail
           exact ⟨⟨x + 1,ag,lf,by omega,by (first | rfl | go_num),rfl,by rw [Uh HZ],HR3,HPk,HC3⟩,by simp [intOf]; omega⟩
      ·obtain rfl:x = v:=by omega
       have hlt2':¬ (x:Int) < (x:Int):=by omega
       have HPn:=Hj (show PaQ Q x T0 lf 0 false lf from ⟨(Uh HP2).sub,(Uh HP2).mx,fun _ => ⟨fun u _ => rfl,fun u hu => absurd hu (Nat.not_lt_zero u)⟩,fun e => (by cases e)⟩)
       have HPf:=Hj (show ag = false → PaQ Q x T0 lf x false lf from fun e => ⟨(Uh HP2).sub,(Uh HP2).mx,fun _ => ⟨fun u _ => rfl,((Uh HP2).no e).2⟩,fun e => (by cases e)⟩)
       have HLE:=Hj (And.intro (Uh HP2).le (Uh HP2).yes)
       clear hbx
       go_wp2_with fail
       refine ⟨⟨ag,lf,rfl,by rw [Uh HZ],HR2,HPn,HPf,HC2⟩,?_⟩
       obtain ⟨l1,l2⟩:=Uh HLE
       rw [Uh HZ,Uh HN9] at l1 l2
       cases ag
       ·simp [intOf]; omega
       ·have:=l2 (by first | rfl | trivial)
        simp [intOf]; omega
end Go.Proofs.YtgjokididdffhaaGreat
