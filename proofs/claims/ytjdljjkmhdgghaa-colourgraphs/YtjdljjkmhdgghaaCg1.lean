/- Cg1 -/
import Derived.Test.YtjdljjkmhdgghaaCg0
namespace Go.Proofs.Ytjdljjkmhdgghaa
open Go.RowKit Go.Deep
set_option linter.unusedVariables false
def grV (n:Nat) (b m:Nat):Value:=.agg #[.int .i64 (n:Int),.slice (some ⟨b,0,none⟩) m m]
set_option maxRecDepth 100000 in
set_option maxHeartbeats 16000000 in
theorem wmeet_any (n b m u v:Nat) (Q:Nat → Bool) (w:World) (hn:n ≤ 128) (hu:u < 128) (hv:v < 128) (hm:u * n + v < m) (hm2:m ≤ 16384) (hR:RoV w b m (fun i => .bool (Q i))) :
  Calls Try.prog 24 #[grV n b m,.int .i64 (u:Int),.int .i64 (v:Int)] w fun e w' => e = .returned (.bool (Q (u * n + v))) ∧ Below w.heap.size w w':=by
 obtain ⟨wb,hwb⟩:∃ x,w.alloc (.cells #[.int .i64 (n:Int),.slice (some ⟨b,0,none⟩) m m] 55) = x:=⟨_,rfl⟩
 have bb:Below w.heap.size w wb:=by rw [← hwb]; exact bAl
 have hT:=BoxP.made w #[.int .i64 (n:Int),.slice (some ⟨b,0,none⟩) m m] 55
 rw [hwb] at hT
 have q0:=(hT.all 0 _ rfl).1
 have q1:=(hT.all 1 _ rfl).1
 obtain ⟨y,hy⟩:∃ y,u * n = y:=⟨_,rfl⟩
 obtain ⟨x,hx⟩:∃ x,y + v = x:=⟨_,rfl⟩
 have hm1:(u:Int) * (n:Int) = (y:Int):=by rw [← hy]; simp
 have hx1:(y:Int) + (v:Int) = (x:Int):=by omega
 rw [hy,hx] at hm ⊢
 have hxn:(x:Int) < (m:Int):=by omega
 have hcell:=((hR.below bb) x hm).1
 obtain ⟨z,hz⟩:∃ z,Q x = z:=⟨_,rfl⟩
 rw [hz] at hcell ⊢
 have HB:=Hj bb
 clear bb hT hR hy hx hz
 unfold grV
 go_enter Try.func24,Try.ntmps24
 go_wp2_with fail
 go_ret
 exact ⟨rfl,Uh HB⟩
def GpP (w w':World) (e:Ending) (n:Nat) (S C:List Int):Prop:=∃ a1 c1 a2 c2,e = .returned (.agg #[.int .i64 (n:Int),.int .i64 (n:Int),.slice a1 S.length c1,.slice a2 C.length c2]) ∧ SlI w' a1 S.length c1 S ∧ SlI w' a2 C.length c2 C ∧ Below w.heap.size w w' ∧ (∀ z,a1 = some z → w.heap.size ≤ z.block) ∧ (∀ z,a2 = some z → w.heap.size ≤ z.block)
set_option maxRecDepth 100000 in
set_option maxHeartbeats 16000000 in
theorem wshut_any (n b m:Nat) (Q:Nat → Bool) (P:Nat → Nat → Prop) (w:World) (hn:n ≤ 128) (hm:n * n = m) (hR:RoV w b m (fun i => .bool (Q i))) (hP:∀ u v,u < n → v < n → (Q (u * n + v) = true ↔ P u v)) :
  Calls Try.prog 18 #[grV n b m] w fun e w' => GpP w w' e n (grS P n n) (grC P n n):=by
 obtain ⟨wb,hwb⟩:∃ x,w.alloc (.cells #[.int .i64 (n:Int),.slice (some ⟨b,0,none⟩) m m] 55) = x:=⟨_,rfl⟩
 have bb:Below w.heap.size w wb:=by rw [← hwb]; exact bAl
 have hT:=BoxP.made w #[.int .i64 (n:Int),.slice (some ⟨b,0,none⟩) m m] 55
 rw [hwb] at hT
 have hO0:=BoxP.made wb #[.int .i64 0,.int .i64 0,.slice none 0 0,.slice none 0 0] 24
 obtain ⟨wo,hwo⟩:∃ x,wb.alloc (.cells #[.int .i64 0,.int .i64 0,.slice none 0 0,.slice none 0 0] 24) = x:=⟨_,rfl⟩
 have bo:Below wb.heap.size wb wo:=by rw [← hwo]; exact bAl
 rw [hwo] at hO0
 have hT1:=hT.below bo
 have q0:=(hT1.all 0 _ rfl).1
 have q1:=(hT1.all 1 _ rfl).1
 obtain ⟨i64,hi,hz,hs,hb⟩:=info_parts Try.info_i64
 have HI:=Hj (And.intro hi (And.intro hz (And.intro hs hb)))
 have hone:∀ y:Int,∀ z ∈ [Value.int .i64 y],z.oneCell' = true:=by intro y z hz; simp at hz; subst hz; rfl
 have bbo:=bb.trans (bo.mono bb.size)
 have hlt1:w.heap.size < wo.heap.size:=hT1.lt
 have hlt2:wb.heap.size < wo.heap.size:=hO0.lt
 have HX:=Hj (And.intro hT1 (And.intro hO0 (hR.below bbo)))
 have HB:=Hj bbo
 have HWB:=Hj bb.size
 have HPP:=Hj hP
 have hm2:m ≤ 16384:=by rw [← hm]; exact Nat.mul_le_mul hn hn
 have HMM:=Hj hm
 have hR0:0 < m → b < wo.heap.size:=fun h0 => World.block_lt_of_cell? _ _ ((hR.below bbo) 0 h0).1
 have HR0:=Hj hR0
 have HP0:=Hj (show PbI wo ((wo.alloc (.cells #[.int .i64 0] 3)).alloc (.cells #[.int .i64 (n:Int),.int .i64 (n:Int),.slice (some ⟨wo.heap.size,0,none⟩) 1 1,.slice none 0 0] 24)) wo.heap.size (wo.heap.size + 1) (n:Int) (.slice (some ⟨wo.heap.size,0,none⟩) 1 1) (.slice none 0 0) [0] [] from by
  have e:(wo.alloc (.cells #[.int .i64 0] 3)).heap.size = wo.heap.size + 1:=by simp
  refine ⟨?_,⟨rfl,.inr ⟨wo.heap.size,1,#[.int .i64 0],rfl,Nat.le_refl _,?_,Nat.le_refl _,by decide,rfl,rfl⟩⟩,World.ownsRow_nil _ _ _ _,fun g hg hu => (by simp [Value.ownBlock] at hu),(bAl).alloc (by simp) _,by simp; omega,by omega⟩
  ·have:=alloc_block (wo.alloc (.cells #[.int .i64 0] 3)) (.cells #[.int .i64 (n:Int),.int .i64 (n:Int),.slice (some ⟨wo.heap.size,0,none⟩) 1 1,.slice none 0 0] 24)
   rw [e] at this
   exact this
  ·exact (((Below.refl (wo.alloc (.cells #[.int .i64 0] 3)).heap.size _).alloc (Nat.le_refl _) _).block _ (by simp)).trans (alloc_block _ _))
 clear hi hz hs hb bb bo bbo hT hT1 hO0 hR hP hm hR0
 unfold grV
 go_enter Try.func18,Try.ntmps18
 go_wp2_with fail
 generalize (wo.alloc (Obj.cells #[Value.int IntKind.i64 0] 3)).alloc (Obj.cells #[Value.int IntKind.i64 (n:Int),Value.int IntKind.i64 (n:Int),Value.slice (some ⟨wo.heap.size,0,none⟩) 1 1,Value.slice none 0 0] 24) = w0 at *
 obtain ⟨X,hX⟩:∃ X,wo.heap.size + 1 = X:=⟨_,rfl⟩
 rw [hX] at HP0 ⊢
 have HXX:=Hj hX
 clear hX q0 q1
 have HBX:=Hj (show ∀ W,Below wo.heap.size wo W → BoxP W w.heap.size [.int .i64 (n:Int),.slice (some ⟨b,0,none⟩) m m] ∧ BoxP W wb.heap.size [.int .i64 0,.int .i64 0,.slice none 0 0,.slice none 0 0] ∧ RoV W b m (fun i => .bool (Q i)) from fun W k => ⟨(Uh HX).1.below k,(Uh HX).2.1.below k,(Uh HX).2.2.below k⟩)
 go_loopw [4] (fun kv wr => ∃ k:Nat,k ≤ n ∧ kv = .int .i64 (k:Int) ∧ Hid (∃ vS vC,PbI wo wr wo.heap.size X (n:Int) vS vC (grS P n k) (grC P n k))) (fun kv _ => n - (intOf kv).toNat)
 case atStart => exact ⟨0,Nat.zero_le _,rfl,Hj ⟨_,_,Uh HP0⟩⟩
 case round =>
  obtain ⟨k,hk,rfl,HK⟩:=hrel
  by_cases hlt:k < n
  ·have hlt':(k:Int) < (n:Int):=by omega
   obtain ⟨vS,vC,hPb⟩:=Uh HK
   have hbx:=Uh HBX wr hPb.bel
   have q0:=(hbx.1.all 0 _ rfl).1
   have HK0:=Hj (show ∃ vS vC,PbI wo wr wo.heap.size X (n:Int) vS vC (grS P n k) (grC P n k ++ grR P k 0) from ⟨vS,vC,by rw [show grR P k 0 = [] from rfl,List.append_nil]; exact hPb⟩)
   clear hPb hbx HK
   go_wp2_with fail
   go_loopw [5] (fun iv wq => ∃ v:Nat,v ≤ n ∧ iv = .int .i64 (v:Int) ∧ Hid (∃ vS vC,PbI wo wq wo.heap.size X (n:Int) vS vC (grS P n k) (grC P n k ++ grR P k v))) (fun iv _ => n - (intOf iv).toNat)
   case atStart => exact ⟨0,Nat.zero_le _,rfl,HK0⟩
   case round =>
    clear q0
    obtain ⟨v,hv,rfl,HV⟩:=hrel
    obtain ⟨vS,vC,hPb⟩:=Uh HV
    have hbx:=Uh HBX wr hPb.bel
    have q0:=(hbx.1.all 0 _ rfl).1
    have q1:=(hbx.1.all 1 _ rfl).1
    have hCl:(grC P n k ++ grR P k v).length ≤ 16384:=by
     have h1:=grC_len P n k
     have h2:=grR_len P k v
     have h3:(k + 1) * n ≤ n * n:=Nat.mul_le_mul_right _ hlt
     rw [Uh HMM,Nat.add_mul,Nat.one_mul] at h3
     rw [List.length_append]
     omega
    by_cases hin:v < n
    ·have hin':(v:Int) < (n:Int):=by omega
     have hkm:k * n + v < m:=by
      have h3:(k + 1) * n ≤ n * n:=Nat.mul_le_mul_right _ hlt
      rw [Uh HMM,Nat.add_mul,Nat.one_mul] at h3
      omega
     have KM:=Hj (wmeet_any n b m k v Q wr hn (by omega) (by omega) hkm hm2 hbx.2.2)
     unfold grV at KM
     have hQ:=Uh HPP k v hlt hin
     obtain ⟨bq,hbq⟩:∃ bq,Q (k * n + v) = bq:=⟨_,rfl⟩
     rw [hbq] at KM hQ
     have HR:=Hj (show grR P k (v + 1) = grR P k v ++ (if bq = true then [(v:Int)] else []) from by
      simp only [grR]
      have:tb (P k v) = bq:=by
       cases bq
       ·exact tb_no (fun z => by have:=hQ.2 z; cases this)
       ·exact tb_yes (hQ.1 rfl)
      rw [this])
     have HPb:=Hj hPb
     clear hPb hbx hkm hQ hbq
     cases bq
     ·go_wp2_with fail
      refine (Uh KM).mono ?_
      rintro _ w3 ⟨rfl,b3⟩
      have HP3:=Hj (show ∃ vS vC,PbI wo w3 wo.heap.size X (n:Int) vS vC (grS P n k) (grC P n k ++ grR P k (v + 1)) from ⟨vS,vC,by rw [Uh HR,if_neg (by decide),List.append_nil]; exact (Uh HPb).below b3⟩)
      clear b3 KM
      go_wp2_with fail
      exact ⟨⟨v + 1,by omega,by (first | rfl | go_num),HP3⟩,by simp [intOf]; omega⟩
     ·go_wp2_with fail
      refine (Uh KM).mono ?_
      rintro _ w3 ⟨rfl,b3⟩
      have HP3:=Hj ((Uh HPb).below b3)
      have HR2:=Hj (show grR P k (v + 1) = grR P k v ++ [(v:Int)] from by have:=Uh HR; simpa using this)
      have x3:=(cell_of_block (Uh HP3).box 3).trans (show _ = some vC from rfl)
      have hle:=(Uh HP3).le
      clear b3 KM q0 q1
      obtain ⟨C,hC⟩:∃ C,grC P n k ++ grR P k v = C:=⟨_,rfl⟩
      rw [hC] at HP3 hCl
      have HC:=Hj hC
      have hmx:C.length + 1 ≤ maxLen:=by unfold maxLen; omega
      have hby:(C.length + 1) * 8 ≤ 140737488355328:=by omega
      clear hC
      go_wp2_with (at_builtin; refine wpList_append_lies _ rfl _ _ 22 rfl wo.heap.size 3 i64 (.int .i64 0) 1 8 Try.underlying22 (Uh HI).1 (Uh HI).2.1 (Uh HI).2.2.1 (Uh HI).2.2.2 rfl (by decide) vC C.length (valsI C) rfl ((Uh HP3).ownC.alloc _) ⟨w3.heap.size,0,none⟩ 1 1 [.int .i64 (v:Int)] rfl rfl (World.news_of_block (alloc_block _ _)) (hone _) (by decide) hmx hby (by simp; omega) (w3.heap.size + 1) (by simp) ?_)
      intro g cap w4 hown hg hat hlt4
      have hXl:=(Array.getElem?_eq_some_iff.1 (Uh HP3).box).1
      have hb4:w4.heap[X]? = some (.cells #[.int .i64 (n:Int),.int .i64 (n:Int),vS,vC] 24 (0,0)):=(hg.block X (by simp; omega) (fun e => own_neB (Uh HP3).ownC (Uh HP3).box (by decide) e.symm)).trans (((bAl).block X hXl).trans (Uh HP3).box)
      have y3:=(cell_of_block hb4 3).trans (show _ = some vC from rfl)
      have z3:w4.frozen? ⟨X,3,none⟩ = false:=by simp [World.frozen?,hb4]
      have HP4:=Hj (((Uh HP3).below (bAl)).appC hown hg (by rcases hat with e | e; exact .inl e; exact .inr (by simpa using e)))
      clear hown hg hat hlt4 hb4 x3 hXl
      go_wp2_with fail
      refine ⟨⟨v + 1,by omega,by (first | rfl | go_num),Hj ⟨vS,.slice (some ⟨g,0,none⟩) (C.length + 1) cap,?_⟩⟩,by simp [intOf]; omega⟩
      rw [Uh HR2,← List.append_assoc,Uh HC]
      exact Uh HP4
    ·obtain rfl:v = n:=by omega
     have hin':¬ (v:Int) < (v:Int):=by omega
     have HPb:=Hj hPb
     have x2:=(cell_of_block hPb.box 2).trans (show _ = some vS from rfl)
     have x3:=(cell_of_block hPb.box 3).trans (show _ = some vC from rfl)
     have hle:=hPb.le
     obtain ⟨aC,cC,hvC,_⟩:=own_slI hPb.ownC
     have hSl:(grS P v k).length ≤ 16384:=by rw [grS_len]; omega
     have HE:=Hj (show grC P v (k + 1) = grC P v k ++ grR P k v from rfl)
     obtain ⟨C,hC⟩:∃ C,grC P v k ++ grR P k v = C:=⟨_,rfl⟩
     obtain ⟨S,hS⟩:∃ S,grS P v k = S:=⟨_,rfl⟩
     rw [hC] at HPb hvC hCl HE
     rw [hS] at HPb hSl
     have HS:=Hj hS
     have hmx:S.length + 1 ≤ maxLen:=by unfold maxLen; omega
     have hby:(S.length + 1) * 8 ≤ 140737488355328:=by omega
     subst hvC
     clear hPb hbx hC hS
     go_wp2_with (at_builtin; refine wpList_append_lies _ rfl _ _ 22 rfl wo.heap.size 3 i64 (.int .i64 0) 1 8 Try.underlying22 (Uh HI).1 (Uh HI).2.1 (Uh HI).2.2.1 (Uh HI).2.2.2 rfl (by decide) vS S.length (valsI S) rfl ((Uh HPb).ownS.alloc _) ⟨wr.heap.size,0,none⟩ 1 1 [.int .i64 (C.length:Int)] rfl rfl (World.news_of_block (alloc_block _ _)) (hone _) (by decide) hmx hby (by simp; omega) (wr.heap.size + 1) (by simp) ?_)
     intro g cap w4 hown hg hat hlt4
     have hXl:=(Array.getElem?_eq_some_iff.1 (Uh HPb).box).1
     have hb4:w4.heap[X]? = some (.cells #[.int .i64 (v:Int),.int .i64 (v:Int),vS,.slice aC C.length cC] 24 (0,0)):=(hg.block X (by simp; omega) (fun e => own_neB (Uh HPb).ownS (Uh HPb).box (by decide) e.symm)).trans (((bAl).block X hXl).trans (Uh HPb).box)
     have y2:=(cell_of_block hb4 2).trans (show _ = some vS from rfl)
     have z2:w4.frozen? ⟨X,2,none⟩ = false:=by simp [World.frozen?,hb4]
     have HP4:=Hj (((Uh HPb).below (bAl)).appS hown hg (by rcases hat with e | e; exact .inl e; exact .inr (by simpa using e)))
     clear hown hg hat hlt4 hb4 x2 x3 hXl
     go_wp2_with fail
     refine ⟨⟨k + 1,by omega,by (first | rfl | go_num),Hj ⟨.slice (some ⟨g,0,none⟩) (S.length + 1) cap,.slice aC C.length cC,?_⟩⟩,by simp [intOf]; omega⟩
     rw [show grS P v (k + 1) = grS P v k ++ [((grC P v (k + 1)).length:Int)] from rfl,Uh HE,Uh HS]
     exact Uh HP4
  ·obtain rfl:k = n:=by omega
   have hlt':¬ (k:Int) < (k:Int):=by omega
   obtain ⟨vS,vC,hPb⟩:=Uh HK
   have hbx:=Uh HBX wr hPb.bel
   have q0:=(hbx.1.all 0 _ rfl).1
   obtain ⟨aS,cS,hvS,sS⟩:=own_slI hPb.ownS
   obtain ⟨aC,cC,hvC,sC⟩:=own_slI hPb.ownC
   subst hvS hvC
   have x0:=(cell_of_block hPb.box 0).trans (show _ = some (Value.int .i64 (k:Int)) from rfl)
   have x1:=(cell_of_block hPb.box 1).trans (show _ = some (Value.int .i64 (k:Int)) from rfl)
   have x2:=(cell_of_block hPb.box 2).trans (show _ = some (Value.slice aS (grS P k k).length cS) from rfl)
   have x3:=(cell_of_block hPb.box 3).trans (show _ = some (Value.slice aC (grC P k k).length cC) from rfl)
   have y0:=(hbx.2.1.all 0 _ rfl).1
   have y1:=(hbx.2.1.all 1 _ rfl).1
   have y2:=(hbx.2.1.all 2 _ rfl).1
   have y3:=(hbx.2.1.all 3 _ rfl).1
   have f0:=(hbx.2.1.all 0 _ rfl).2
   have f1:=(hbx.2.1.all 1 _ rfl).2
   have f2:=(hbx.2.1.all 2 _ rfl).2
   have f3:=(hbx.2.1.all 3 _ rfl).2
   have HO:=Hj hbx.2.1
   have HPb:=Hj hPb
   have HSS:=Hj (And.intro sS sC)
   clear hPb hbx HK sS sC
   go_wp2_with fail
   have hf:=((((Uh HO).put 0 (.int .i64 (k:Int))).put 1 (.int .i64 (k:Int))).put 2 (.slice aS (grS P k k).length cS)).put 3 (.slice aC (grC P k k).length cC)
   have t0:=(hf.all 0 _ rfl).1
   have t1:=(hf.all 1 _ rfl).1
   have t2:=(hf.all 2 _ rfl).1
   have t3:=(hf.all 3 _ rfl).1
   have c4:Chg (fun j => j = wb.heap.size) wr ((((wr.setCell ⟨wb.heap.size,0,none⟩ (.int .i64 (k:Int))).setCell ⟨wb.heap.size,1,none⟩ (.int .i64 (k:Int))).setCell ⟨wb.heap.size,2,none⟩ (.slice aS (grS P k k).length cS)).setCell ⟨wb.heap.size,3,none⟩ (.slice aC (grC P k k).length cC)):=(((Chg.of_set (S:=fun j => j = wb.heap.size) _ _ _ _ rfl).trans (Chg.of_set (S:=fun j => j = wb.heap.size) _ _ _ _ rfl)).trans (Chg.of_set (S:=fun j => j = wb.heap.size) _ _ _ _ rfl)).trans (Chg.of_set (S:=fun j => j = wb.heap.size) _ _ _ _ rfl)
   generalize (((wr.setCell ⟨wb.heap.size,0,none⟩ (.int .i64 (k:Int))).setCell ⟨wb.heap.size,1,none⟩ (.int .i64 (k:Int))).setCell ⟨wb.heap.size,2,none⟩ (.slice aS (grS P k k).length cS)).setCell ⟨wb.heap.size,3,none⟩ (.slice aC (grC P k k).length cC) = wf at *
   refine bodyPost_ret (by simp [results,Try.results18,go_sem,t0,t1,t2,t3]; try rfl) rfl ?_
   have hS9:=(Uh HPb).ownS
   have hC9:=(Uh HPb).ownC
   refine ⟨aS,cS,aC,cC,rfl,(Uh HSS).1.chg c4 (fun z hz _ e => ?_),(Uh HSS).2.chg c4 (fun z hz _ e => ?_),?_,fun z hz => ?_,fun z hz => ?_⟩
   ·have:=(own_ge hS9 z.block (by rw [hz]; rfl)).1; omega
   ·have:=(own_ge hC9 z.block (by rw [hz]; rfl)).1; omega
   ·exact ((Uh HB).trans ((Uh HPb).bel.mono (Uh HB).size)).trans (c4.below (Nat.le_trans (Uh HB).size (Uh HPb).bel.size) (fun j hj e => by have:=Uh HWB; omega))
   ·have:=(own_ge hS9 z.block (by rw [hz]; rfl)).1; have:=Uh HWB; omega
   ·have:=(own_ge hC9 z.block (by rw [hz]; rfl)).1; have:=Uh HWB; omega
end Go.Proofs.Ytjdljjkmhdgghaa
