/- Ci4 -/
import Derived.Test.YtgjokididdffhaaGreatCu5
import Derived.Test.YtgjokididdffhaaGreatCh2
import Derived.Test.YtgjokididdffhaaGreatRq0
import Derived.Test.YtgjokididdffhaaGreatCg8
import Derived.Laws.EntriesVeiled
namespace Go.Proofs.YtgjokididdffhaaGreat
open Go.RowKit Go.Deep
set_option linter.unusedVariables false
theorem posI_at {xs:List Int} {n j:Nat} (h:OrdTo xs n n) (hj:j < n):∀ k,j < k → k ≤ n → posI xs k (xs.getD j 0).toNat = (j:Int)
 | 0,hk,_ => absurd hk (Nat.not_lt_zero _)
 | k + 1,hk,hn => by
  have hr:=h.rng j hj
  have e:(((xs.getD j 0).toNat:Nat):Int) = xs.getD j 0:=by omega
  simp only [posI]
  rw [e]
  by_cases c:k = j
  ·subst c; rw [if_pos rfl]
  ·rw [if_neg (fun q => h.one j k (by omega) (by omega) q.symm)]
   exact posI_at h hj k (by omega) (by omega)
theorem inj_surj:∀ (n:Nat) (f:Nat → Nat),(∀ i,i < n → f i < n) → (∀ i j,i < n → j < n → f i = f j → i = j) → ∀ v,v < n → ∃ i,i < n ∧ f i = v
 | 0,_,_,_,v,hv => absurd hv (Nat.not_lt_zero _)
 | n + 1,f,hf,hi,v,hv => by
  have hlt:∀ i,i < n → f i = n → f n < n:=fun i hin e => by
   have:=hf n (by omega)
   rcases Nat.lt_or_ge (f n) n with c | c
   ·exact c
   ·have:=hi i n (by omega) (by omega) (by omega); omega
  have ih:=inj_surj n (fun i => if f i = n then f n else f i) (fun i hin => by
   show (if f i = n then f n else f i) < n
   by_cases e:f i = n
   ·rw [if_pos e]; exact hlt i hin e
   ·rw [if_neg e]; have:=hf i (by omega); omega) (fun i j hin hjn e => by
   have e':(if f i = n then f n else f i) = (if f j = n then f n else f j):=e
   by_cases e1:f i = n
   ·by_cases e2:f j = n
    ·exact hi i j (by omega) (by omega) (by omega)
    ·rw [if_pos e1,if_neg e2] at e'
     have:=hi n j (by omega) (by omega) e'
     omega
   ·by_cases e2:f j = n
    ·rw [if_neg e1,if_pos e2] at e'
     have:=hi i n (by omega) (by omega) e'
     omega
    ·rw [if_neg e1,if_neg e2] at e'
     exact hi i j (by omega) (by omega) e')
  by_cases ca:v = f n
  ·exact ⟨n,by omega,ca.symm⟩
  ·by_cases cn:v = n
   ·have han:f n < n:=by have:=hf n (by omega); omega
    obtain ⟨i,hin,e⟩:=ih (f n) han
    have e':(if f i = n then f n else f i) = f n:=e
    by_cases e1:f i = n
    ·exact ⟨i,by omega,by omega⟩
    ·rw [if_neg e1] at e'
     have:=hi i n (by omega) (by omega) e'
     omega
   ·obtain ⟨i,hin,e⟩:=ih v (by omega)
    have e':(if f i = n then f n else f i) = v:=e
    by_cases e1:f i = n
    ·rw [if_pos e1] at e'; exact absurd e'.symm ca
    ·rw [if_neg e1] at e'; exact ⟨i,by omega,e'⟩
theorem OrdTo.place {xs:List Int} {n v:Nat} (h:OrdTo xs n n) (hv:v < n):∃ j,j < n ∧ xs.getD j 0 = (v:Int) ∧ posI xs n v = (j:Int):=by
 obtain ⟨j,hj,e⟩:=inj_surj n (fun i => (xs.getD i 0).toNat) (fun i hi => by have:=h.rng i hi; show (xs.getD i 0).toNat < n; omega) (fun i j hi hj e => by
  have e':(xs.getD i 0).toNat = (xs.getD j 0).toNat:=e
  have:=h.rng i hi
  have:=h.rng j hj
  rcases Nat.lt_trichotomy i j with c | c | c
  ·exact absurd (show xs.getD i 0 = xs.getD j 0 by omega) (h.one i j c hj)
  ·exact c
  ·exact absurd (show xs.getD j 0 = xs.getD i 0 by omega) (h.one j i c hi)) v hv
 have e':(xs.getD j 0).toNat = v:=e
 have:=h.rng j hj
 exact ⟨j,hj,by omega,by rw [← e']; exact posI_at h hj n hj (Nat.le_refl _)⟩
noncomputable def cnP (P:Nat → Prop) (k:Nat):Nat:=(grR (fun _ j => P j) 0 k).length
theorem cnP_next (P:Nat → Prop) (k:Nat):cnP P (k + 1) = cnP P k + (if tb (P k) = true then 1 else 0):=by
 unfold cnP
 simp only [grR,List.length_append]
 split <;> simp
theorem cnP_le (P:Nat → Prop) (k:Nat):cnP P k ≤ k:=grR_len _ _ _
theorem cnP_congr {P Q:Nat → Prop}:∀ {k:Nat},(∀ j,j < k → (P j ↔ Q j)) → cnP P k = cnP Q k
 | 0,_ => rfl
 | k + 1,h => by
  rw [cnP_next,cnP_next,cnP_congr (fun j hj => h j (by omega))]
  by_cases c:P k
  ·rw [tb_yes c,tb_yes ((h k (by omega)).1 c)]
  ·rw [tb_no c,tb_no (fun q => c ((h k (by omega)).2 q))]
theorem cnP_add {P Q:Nat → Prop} {j0:Nat}:∀ {k:Nat},j0 < k → ¬ P j0 → (∀ j,j < k → (Q j ↔ (P j ∨ j = j0))) → cnP Q k = cnP P k + 1
 | 0,h,_,_ => absurd h (Nat.not_lt_zero _)
 | k + 1,h,hp,hq => by
  rw [cnP_next,cnP_next]
  by_cases c:k = j0
  ·subst c
   rw [tb_yes ((hq k (by omega)).2 (.inr rfl)),tb_no hp,cnP_congr (P:=Q) (Q:=P) (fun j hj => ⟨fun q => ((hq j (by omega)).1 q).resolve_right (by omega),fun p => (hq j (by omega)).2 (.inl p)⟩)]
   simp
  ·rw [cnP_add (k:=k) (by omega) hp (fun j hj => hq j (by omega))]
   have e:P k ↔ Q k:=⟨fun p => (hq k (by omega)).2 (.inl p),fun q => ((hq k (by omega)).1 q).resolve_right c⟩
   by_cases d:P k
   ·rw [tb_yes d,tb_yes (e.1 d)]; simp
   ·rw [tb_no d,tb_no (fun q => d (e.2 q))]; simp
structure CaI (W:World) (g h X o pp pv pm pc m cnt:Nat) (xs:List Int) (v:Nat) (ls:Nat → Int) (count:Nat):Prop where
 bp:BoxP W pp [.slice (some ⟨g,0,none⟩) m m]
 bv:BoxP W pv [.int .i64 (v:Int)]
 bm:BoxP W pm [.pointer (some ⟨X,o,none⟩)]
 bc:BoxP W pc [.int .i64 (count:Int)]
 k0:W.cell? ⟨X,o,none⟩ = some (.int .i64 (cnt:Int)) ∧ W.frozen? ⟨X,o,none⟩ = false
 k1:W.cell? ⟨X,o + 1,none⟩ = some (.slice (some ⟨h,0,none⟩) m m)
 pl:RoV W g m (fun i => .int .i64 (posI xs m i))
 last:RoV W h m (fun i => .int .i64 (ls i))
 nh:h ≠ g ∧ h ≠ X ∧ h ≠ pp ∧ h ≠ pv ∧ h ≠ pm ∧ h ≠ pc
 nc:pc ≠ g ∧ pc ≠ X ∧ pc ≠ pp ∧ pc ≠ pv ∧ pc ≠ pm
theorem CaI.below {W W':World} {g h X o pp pv pm pc m cnt:Nat} {xs:List Int} {v:Nat} {ls:Nat → Int} {count:Nat} (k:CaI W g h X o pp pv pm pc m cnt xs v ls count) (b:Below W.heap.size W W'):CaI W' g h X o pp pv pm pc m cnt xs v ls count :=
 have c:Chg (fun _ => False) W W':=Chg.of_below b
 ⟨k.bp.below b,k.bv.below b,k.bm.below b,k.bc.below b,⟨c.cell (fun x => x) k.k0.1,by rw [c.frzP (World.block_lt_of_cell? _ _ k.k0.1) (fun x => x)]; exact k.k0.2⟩,c.cell (fun x => x) k.k1,k.pl.below b,k.last.below b,k.nh,k.nc⟩
theorem CaI.mark {W W':World} {g h X o pp pv pm pc m cnt:Nat} {xs:List Int} {v:Nat} {ls ls':Nat → Int} {count:Nat} (k:CaI W g h X o pp pv pm pc m cnt xs v ls count) (c:Chg (fun j => j = h) W W') (hl:RoV W' h m (fun i => .int .i64 (ls' i))):CaI W' g h X o pp pv pm pc m cnt xs v ls' count:=by
 obtain ⟨n1,n2,n3,n4,n5,n6⟩:=k.nh
 exact ⟨k.bp.chg c (fun e => n3 e.symm),k.bv.chg c (fun e => n4 e.symm),k.bm.chg c (fun e => n5 e.symm),k.bc.chg c (fun e => n6 e.symm),⟨c.cell (fun e => n2 e.symm) k.k0.1,by rw [c.frzP (World.block_lt_of_cell? _ _ k.k0.1) (fun e => n2 e.symm)]; exact k.k0.2⟩,c.cell (fun e => n2 e.symm) k.k1,k.pl.chg c (fun e => n1 e.symm),hl,k.nh,k.nc⟩
theorem CaI.more {W:World} {g h X o pp pv pm pc m cnt:Nat} {xs:List Int} {v:Nat} {ls:Nat → Int} {count:Nat} (k:CaI W g h X o pp pv pm pc m cnt xs v ls count) (n:Nat):CaI (W.setCell ⟨pc,0,none⟩ (.int .i64 (n:Int))) g h X o pp pv pm pc m cnt xs v ls n:=by
 obtain ⟨n1,n2,n3,n4,n5⟩:=k.nc
 have c:Chg (fun j => j = pc) W (W.setCell ⟨pc,0,none⟩ (.int .i64 (n:Int))):=Chg.of_set _ _ _ _ rfl
 exact ⟨k.bp.chg c (fun e => n3 e.symm),k.bv.chg c (fun e => n4 e.symm),k.bm.chg c (fun e => n5 e.symm),k.bc.put 0 _,⟨c.cell (fun e => n2 e.symm) k.k0.1,by rw [c.frzP (World.block_lt_of_cell? _ _ k.k0.1) (fun e => n2 e.symm)]; exact k.k0.2⟩,c.cell (fun e => n2 e.symm) k.k1,k.pl.chg c (fun e => n1 e.symm),k.last.chg c (fun e => k.nh.2.2.2.2.2 e),k.nh,k.nc⟩
structure CaM (xs:List Int) (m v cnt:Nat) (M:Nat → Prop) (ls:Nat → Int) (count:Nat):Prop where
 iff:∀ k,k < m → (ls k = (cnt:Int) ↔ (M k ∧ posI xs m k < posI xs m v))
 cn:count = cnP (fun j => M (xs.getD j 0).toNat) (posI xs m v).toNat
 le:∀ k,k < m → ls k ≤ (cnt:Int)
theorem CaM.same {xs:List Int} {m v cnt:Nat} {M N:Nat → Prop} {ls:Nat → Int} {count:Nat} (h:CaM xs m v cnt M ls count) (ho:OrdTo xs m m) (hv:v < m) (e:∀ k,k < m → posI xs m k < posI xs m v → (M k ↔ N k)):CaM xs m v cnt N ls count:=by
 refine ⟨fun k hk => (h.iff k hk).trans ⟨fun q => ⟨(e k hk q.2).1 q.1,q.2⟩,fun q => ⟨(e k hk q.2).2 q.1,q.2⟩⟩,h.cn.trans (cnP_congr (fun j hj => ?_)),h.le⟩
 obtain ⟨jv,hjv,_,ev⟩:=ho.place hv
 rw [ev] at hj
 have hr:=ho.rng j (by omega)
 exact e _ (by omega) (by rw [posI_at ho (by omega) m (by omega) (Nat.le_refl _),ev]; omega)
theorem CaM.add {xs : List Int} {m v cnt u : Nat} {M : Nat → Prop} {ls : Nat → Int} {count : Nat} (h : CaM xs m v cnt M ls count) (ho : OrdTo xs m m) (hv : v < m) (hu : u < m) (hp : posI xs m u < posI xs m v) (hn : ls u ≠ (cnt : Int)) : CaM xs m v cnt (fun k => M k ∨ k = u) (fun i => if i = u then (cnt : Int) else ls i) (count + 1) := by
  obtain ⟨jv, hjv, _, ev⟩ := ho.place hv
  obtain ⟨ju, hju, eu, pu⟩ := ho.place hu
  refine ⟨fun k hk => ?_, ?_, fun k hk => ?_⟩
  · by_cases c : k = u
    · subst c; simp; exact hp
    · show (if k = u then (cnt : Int) else ls k) = _ ↔ _
      rw [if_neg c, h.iff k hk]
      exact ⟨fun q => ⟨.inl q.1, q.2⟩, fun q => ⟨q.1.resolve_right c, q.2⟩⟩
  · rw [h.cn]
    refine (cnP_add (j0 := ju) (by rw [ev]; omega) (fun q => hn ((h.iff u hu).2 ⟨by have e2 : (xs.getD ju 0).toNat = u := by omega
                                                                                    rw [e2] at q; exact q, hp⟩)) (fun j hj => ?_)).symm
    rw [ev] at hj
    constructor
    · rintro (q | q)
      · exact .inl q
      · right
        have := posI_at ho (j := j) (by omega) m (by omega) (Nat.le_refl _)
        rw [q, pu] at this
        omega
    · rintro (q | q)
      · exact .inl q
      · right; subst q; omega
  · show (if k = u then (cnt : Int) else ls k) ≤ _
    have := h.le k hk
    split <;> omega
set_option maxRecDepth 100000 in
set_option maxHeartbeats 16000000 in
theorem cnote_any (g h X o pp pv pm pc m cnt:Nat) (xs:List Int) (v u:Nat) (M:Nat → Prop) (ls:Nat → Int) (count:Nat) (w:World) (hI:CaI w g h X o pp pv pm pc m cnt xs v ls count) (hM:CaM xs m v cnt M ls count) (ho:OrdTo xs m m) (hv:v < m) (hu:u < m) (hm:m ≤ 128) :
    Calls Tryz.prog 113 #[.int .i64 (u:Int),.pointer (some ⟨pp,0,none⟩),.pointer (some ⟨pv,0,none⟩),.pointer (some ⟨pm,0,none⟩),.pointer (some ⟨pc,0,none⟩)] w fun e w' => (∃ z,e = .returned z) ∧ ∃ ls' count',CaI w' g h X o pp pv pm pc m cnt xs v ls' count' ∧ CaM xs m v cnt (fun k => M k ∨ k = u) ls' count' ∧ Chg (fun j => j = h ∨ j = pc) w w':=by
  have huR:(u:Int) < (m:Int):=by omega
  have hvR:(v:Int) < (m:Int):=by omega
  have hcl:count ≤ 128:=by
    rw [hM.cn]
    obtain ⟨jv,hjv,_,ev⟩:=ho.place hv
    have:=cnP_le (fun j => M (xs.getD j 0).toNat) (posI xs m v).toNat
    rw [ev] at this ⊢
    omega
  have p0:=(hI.bp.all 0 _ rfl).1
  have v0:=(hI.bv.all 0 _ rfl).1
  have m0:=(hI.bm.all 0 _ rfl).1
  have c0:=(hI.bc.all 0 _ rfl).1
  have d0:=(hI.bc.all 0 _ rfl).2
  have su:=(hI.pl u hu).1
  have sv:=(hI.pl v hv).1
  have HI:=Hj hI
  have HM:=Hj hM
  have HO:=Hj ho
  obtain ⟨pu,hpu⟩:∃ pu,posI xs m u = pu:=⟨_,rfl⟩
  obtain ⟨qv,hqv⟩:∃ qv,posI xs m v = qv:=⟨_,rfl⟩
  simp only [hpu] at su
  simp only [hqv] at sv
  have HPU:=Hj hpu
  have HQV:=Hj hqv
  by_cases hp:pu < qv
  · have HKH:=Hj (show ∀ x':Ext w,Calls Tryz.prog 107 #[.pointer (some ⟨X,o,none⟩),.int .i64 (u:Int)] x'.w fun e w' => e = .returned (.bool (ls u == (cnt:Int))) ∧ Below x'.w.heap.size x'.w w' from fun x' => chas_any X o h m (cnt:Int) u (ls u) x'.w (x'.cell hI.k0.1) (x'.cell hI.k1) hu hm (x'.cell (hI.last u hu).1))
    obtain ⟨hs,hhs⟩:∃ hs,(ls u == (cnt:Int)) = hs:=⟨_,rfl⟩
    rw [hhs] at HKH
    have HHS:=Hj hhs
    have Fp0:=fun x':Ext w => x'.cell p0
    have Fv0:=fun x':Ext w => x'.cell v0
    have Fm0:=fun x':Ext w => x'.cell m0
    have Fsu:=fun x':Ext w => x'.cell su
    have Fsv:=fun x':Ext w => x'.cell sv
    have hNE:=Ext.ne w
    clear hI hM ho hpu hqv hhs p0 v0 m0 su sv c0 d0
    cases hs
    · go_enter Tryz.func113,Tryz.ntmps113
      go_wp2_with fail
      refine wp_region_ext (by kernel_rfl) (by kernel_rfl) ?_
      repeat (go_big_quiet_step ((go_at_call 107; rename_i x'; exact Ext.call (Uh HKH x') (fun e w' h => h))))
      refine wpQuiet_nil ?_
      rintro _ ⟨xE,rfl⟩
      have HBE:=Hj ((Uh HI).below xE.bel)
      have KS:=Hj (cset_any X o h m (cnt:Int) u (.int .i64 (ls u)) xE.w (Uh HBE).k0.1 (Uh HBE).k1 hu hm ((Uh HBE).last u hu).1 ((Uh HBE).last u hu).2)
      have m0:=Fm0 xE
      have HXB:=Hj xE.bel
      clear HKH Fp0 Fv0 Fm0 Fsu Fsv hNE
      go_wp2_with fail
      refine (Uh KS).mono ?_
      rintro _ w4 ⟨⟨zz,rfl⟩,c4,r4⟩
      have hI4:=(Uh HBE).mark (ls':=fun i => if i = u then (cnt:Int) else ls i) c4 ((r4 _ (Uh HBE).last).congr (fun i hi => by by_cases e:i = u <;> simp [e]))
      have c0:=(hI4.bc.all 0 _ rfl).1
      have d0:=(hI4.bc.all 0 _ rfl).2
      have HI4:=Hj hI4
      have HC4:=Hj ((Chg.of_below (S:=fun j => j = h ∨ j = pc) (Uh HXB)).trans (c4.mono (fun j _ e => .inl e)))
      have hw:IntKind.i64.wrap ((count:Int) + 1) = (count:Int) + 1:=by rw [wrap_i64n]; omega
      have HMN:=Hj ((Uh HM).add (Uh HO) hv hu (by rw [Uh HPU,Uh HQV]; exact hp) (by have:=Uh HHS; simpa using this))
      clear KS c4 r4 hI4 m0
      go_wp2_with fail
      try go_end0
      have hfin:=(Uh HI4).more (count + 1)
      have hcast:((count + 1:Nat):Int) = (count:Int) + 1:=by omega
      rw [hcast] at hfin
      exact ⟨⟨_,rfl⟩,_,_,hfin,Uh HMN,(Uh HC4).trans (Chg.of_set _ _ _ _ (.inr rfl))⟩
    · go_enter Tryz.func113,Tryz.ntmps113
      go_wp2_with fail
      refine wp_region_ext (by kernel_rfl) (by kernel_rfl) ?_
      repeat (go_big_quiet_step ((go_at_call 107; rename_i x'; exact Ext.call (Uh HKH x') (fun e w' h => h))))
      refine wpQuiet_nil ?_
      rintro _ ⟨xE,rfl⟩
      have HBE:=Hj ((Uh HI).below xE.bel)
      have HXB:=Hj xE.bel
      clear HKH Fp0 Fv0 Fm0 Fsu Fsv hNE
      go_wp2_with fail
      try go_end0
      have hMu:M u:=((Uh HM).iff u hu).1 (by have:=Uh HHS; simpa using this) |>.1
      exact ⟨⟨_,rfl⟩,ls,count,Uh HBE,(Uh HM).same (Uh HO) hv (fun k _ _ => ⟨.inl,fun q => q.elim id (fun e => by rw [e]; exact hMu)⟩),Chg.of_below (Uh HXB)⟩
  · have HKH:=Hj (show ∀ x':Ext w,Calls Tryz.prog 107 #[.pointer (some ⟨X,o,none⟩),.int .i64 (u:Int)] x'.w fun e w' => e = .returned (.bool (ls u == (cnt:Int))) ∧ Below x'.w.heap.size x'.w w' from fun x' => chas_any X o h m (cnt:Int) u (ls u) x'.w (x'.cell hI.k0.1) (x'.cell hI.k1) hu hm (x'.cell (hI.last u hu).1))
    have Fp0:=fun x':Ext w => x'.cell p0
    have Fv0:=fun x':Ext w => x'.cell v0
    have Fm0:=fun x':Ext w => x'.cell m0
    have Fsu:=fun x':Ext w => x'.cell su
    have Fsv:=fun x':Ext w => x'.cell sv
    have hNE:=Ext.ne w
    clear hI hM ho hpu hqv p0 v0 m0 su sv c0 d0
    have hd:decide (pu < qv) = false:=decide_eq_false hp
    first
    | skip
      go_enter Tryz.func113,Tryz.ntmps113
      go_wp2_with fail
      refine wp_region_ext (by kernel_rfl) (by kernel_rfl) ?_
      repeat (go_big_quiet_step ((go_at_call 107; rename_i x'; exact Ext.call (Uh HKH x') (fun e w' h => h))))
      refine wpQuiet_nil ?_
      rintro _ ⟨xE,rfl⟩
      have HBE:=Hj ((Uh HI).below xE.bel)
      have HXB:=Hj xE.bel
      clear HKH Fp0 Fv0 Fm0 Fsu Fsv hNE
      go_wp2_with fail
      try go_end0
      exact ⟨⟨_,rfl⟩,ls,count,Uh HBE,(Uh HM).same (Uh HO) hv (fun k _ hkv => ⟨.inl,fun q => q.elim id (fun e => by rw [e,Uh HPU,Uh HQV] at hkv; exact absurd hkv (by omega))⟩),Chg.of_below (Uh HXB)⟩
set_option maxRecDepth 100000 in
set_option maxHeartbeats 16000000 in
theorem crules_star (w:World) :
  Calls Tryz.prog 63 #[.int .i64 4] w fun e w' => e = .returned (.tuple #[.agg #[(.func (.func 49) #[] #[]),(.func (.func 101) #[] #[]),(.func (.func 102) #[] #[]),(.func (.func 94) #[] #[]),(.bool true)],.bool true]) ∧ Below w.heap.size w w':=by
 have hO:=BoxP.made w #[Value.nilFunc,Value.nilFunc,Value.nilFunc,Value.nilFunc,.bool false] 78
 obtain ⟨wo,hwo⟩:∃ x,w.alloc (.cells #[Value.nilFunc,Value.nilFunc,Value.nilFunc,Value.nilFunc,.bool false] 78) = x:=⟨_,rfl⟩
 have bo:Below w.heap.size w wo:=by rw [← hwo]; exact bAl
 rw [hwo] at hO
 have o0:=(hO.all 0 _ rfl).1
 have r0:=(hO.all 0 _ rfl).2
 have o1:=(hO.all 1 _ rfl).1
 have r1:=(hO.all 1 _ rfl).2
 have o2:=(hO.all 2 _ rfl).1
 have r2:=(hO.all 2 _ rfl).2
 have o3:=(hO.all 3 _ rfl).1
 have r3:=(hO.all 3 _ rfl).2
 have o4:=(hO.all 4 _ rfl).1
 have r4:=(hO.all 4 _ rfl).2
 have HO:=Hj hO
 have HB:=Hj bo
 clear hO bo
 go_enter Tryz.func63,Tryz.ntmps63
 go_wp2_with fail
 have hf:=((((((Uh HO).put 0 (.func (.func 49) #[] #[])).put 1 (.func (.func 101) #[] #[])).put 2 (.func (.func 102) #[] #[])).put 3 (.func (.func 94) #[] #[])).put 4 (.bool true))
 have t0:=(hf.all 0 _ rfl).1
 have t1:=(hf.all 1 _ rfl).1
 have t2:=(hf.all 2 _ rfl).1
 have t3:=(hf.all 3 _ rfl).1
 have t4:=(hf.all 4 _ rfl).1
 have cc:Chg (fun j => j = w.heap.size) wo (((((wo.setCell ⟨w.heap.size,0,none⟩ (.func (.func 49) #[] #[])).setCell ⟨w.heap.size,1,none⟩ (.func (.func 101) #[] #[])).setCell ⟨w.heap.size,2,none⟩ (.func (.func 102) #[] #[])).setCell ⟨w.heap.size,3,none⟩ (.func (.func 94) #[] #[])).setCell ⟨w.heap.size,4,none⟩ (.bool true)):=(((((Chg.of_set (S:=fun j => j = w.heap.size) _ _ _ _ rfl).trans (Chg.of_set (S:=fun j => j = w.heap.size) _ _ _ _ rfl)).trans (Chg.of_set (S:=fun j => j = w.heap.size) _ _ _ _ rfl)).trans (Chg.of_set (S:=fun j => j = w.heap.size) _ _ _ _ rfl)).trans (Chg.of_set (S:=fun j => j = w.heap.size) _ _ _ _ rfl))
 generalize (((((wo.setCell ⟨w.heap.size,0,none⟩ (.func (.func 49) #[] #[])).setCell ⟨w.heap.size,1,none⟩ (.func (.func 101) #[] #[])).setCell ⟨w.heap.size,2,none⟩ (.func (.func 102) #[] #[])).setCell ⟨w.heap.size,3,none⟩ (.func (.func 94) #[] #[])).setCell ⟨w.heap.size,4,none⟩ (.bool true)) = wf at *
 refine bodyPost_ret (by simp [results,Tryz.results63,go_sem,t0,t1,t2,t3,t4]; try rfl) rfl ?_
 exact ⟨rfl,(Uh HB).trans (cc.below (Uh HB).size (fun j hj e => by omega))⟩
set_option maxRecDepth 100000 in
set_option maxHeartbeats 16000000 in
theorem crules_none (w:World) :
  Calls Tryz.prog 63 #[.int .i64 0] w fun e w' => e = .returned (.tuple #[.agg #[Value.nilFunc,Value.nilFunc,Value.nilFunc,Value.nilFunc,(.bool false)],.bool false]) ∧ Below w.heap.size w w':=by
 have hO:=BoxP.made w #[Value.nilFunc,Value.nilFunc,Value.nilFunc,Value.nilFunc,.bool false] 78
 obtain ⟨wo,hwo⟩:∃ x,w.alloc (.cells #[Value.nilFunc,Value.nilFunc,Value.nilFunc,Value.nilFunc,.bool false] 78) = x:=⟨_,rfl⟩
 have bo:Below w.heap.size w wo:=by rw [← hwo]; exact bAl
 rw [hwo] at hO
 have o0:=(hO.all 0 _ rfl).1
 have r0:=(hO.all 0 _ rfl).2
 have o1:=(hO.all 1 _ rfl).1
 have r1:=(hO.all 1 _ rfl).2
 have o2:=(hO.all 2 _ rfl).1
 have r2:=(hO.all 2 _ rfl).2
 have o3:=(hO.all 3 _ rfl).1
 have r3:=(hO.all 3 _ rfl).2
 have o4:=(hO.all 4 _ rfl).1
 have r4:=(hO.all 4 _ rfl).2
 have HO:=Hj hO
 have HB:=Hj bo
 clear hO bo
 go_enter Tryz.func63,Tryz.ntmps63
 go_wp2_with fail
 have hf:=((((((Uh HO).put 0 Value.nilFunc).put 1 Value.nilFunc).put 2 Value.nilFunc).put 3 Value.nilFunc).put 4 (.bool false))
 have t0:=(hf.all 0 _ rfl).1
 have t1:=(hf.all 1 _ rfl).1
 have t2:=(hf.all 2 _ rfl).1
 have t3:=(hf.all 3 _ rfl).1
 have t4:=(hf.all 4 _ rfl).1
 have cc:Chg (fun j => j = w.heap.size) wo (((((wo.setCell ⟨w.heap.size,0,none⟩ Value.nilFunc).setCell ⟨w.heap.size,1,none⟩ Value.nilFunc).setCell ⟨w.heap.size,2,none⟩ Value.nilFunc).setCell ⟨w.heap.size,3,none⟩ Value.nilFunc).setCell ⟨w.heap.size,4,none⟩ (.bool false)):=(((((Chg.of_set (S:=fun j => j = w.heap.size) _ _ _ _ rfl).trans (Chg.of_set (S:=fun j => j = w.heap.size) _ _ _ _ rfl)).trans (Chg.of_set (S:=fun j => j = w.heap.size) _ _ _ _ rfl)).trans (Chg.of_set (S:=fun j => j = w.heap.size) _ _ _ _ rfl)).trans (Chg.of_set (S:=fun j => j = w.heap.size) _ _ _ _ rfl))
 generalize (((((wo.setCell ⟨w.heap.size,0,none⟩ Value.nilFunc).setCell ⟨w.heap.size,1,none⟩ Value.nilFunc).setCell ⟨w.heap.size,2,none⟩ Value.nilFunc).setCell ⟨w.heap.size,3,none⟩ Value.nilFunc).setCell ⟨w.heap.size,4,none⟩ (.bool false)) = wf at *
 refine bodyPost_ret (by simp [results,Tryz.results63,go_sem,t0,t1,t2,t3,t4]; try rfl) rfl ?_
 exact ⟨rfl,(Uh HB).trans (cc.below (Uh HB).size (fun j hj e => by omega))⟩
set_option maxRecDepth 100000 in
set_option maxHeartbeats 16000000 in
theorem crules_proper (w:World) :
  Calls Tryz.prog 63 #[.int .i64 1] w fun e w' => e = .returned (.tuple #[.agg #[(.func (.func 49) #[] #[]),(.func (.func 92) #[] #[]),(.func (.func 93) #[] #[]),(.func (.func 94) #[] #[]),(.bool false)],.bool true]) ∧ Below w.heap.size w w':=by
 have hO:=BoxP.made w #[Value.nilFunc,Value.nilFunc,Value.nilFunc,Value.nilFunc,.bool false] 78
 obtain ⟨wo,hwo⟩:∃ x,w.alloc (.cells #[Value.nilFunc,Value.nilFunc,Value.nilFunc,Value.nilFunc,.bool false] 78) = x:=⟨_,rfl⟩
 have bo:Below w.heap.size w wo:=by rw [← hwo]; exact bAl
 rw [hwo] at hO
 have o0:=(hO.all 0 _ rfl).1
 have r0:=(hO.all 0 _ rfl).2
 have o1:=(hO.all 1 _ rfl).1
 have r1:=(hO.all 1 _ rfl).2
 have o2:=(hO.all 2 _ rfl).1
 have r2:=(hO.all 2 _ rfl).2
 have o3:=(hO.all 3 _ rfl).1
 have r3:=(hO.all 3 _ rfl).2
 have o4:=(hO.all 4 _ rfl).1
 have r4:=(hO.all 4 _ rfl).2
 have HO:=Hj hO
 have HB:=Hj bo
 clear hO bo
 go_enter Tryz.func63,Tryz.ntmps63
 go_wp2_with fail
 have hf:=((((((Uh HO).put 0 (.func (.func 49) #[] #[])).put 1 (.func (.func 92) #[] #[])).put 2 (.func (.func 93) #[] #[])).put 3 (.func (.func 94) #[] #[])).put 4 (.bool false))
 have t0:=(hf.all 0 _ rfl).1
 have t1:=(hf.all 1 _ rfl).1
 have t2:=(hf.all 2 _ rfl).1
 have t3:=(hf.all 3 _ rfl).1
 have t4:=(hf.all 4 _ rfl).1
 have cc:Chg (fun j => j = w.heap.size) wo (((((wo.setCell ⟨w.heap.size,0,none⟩ (.func (.func 49) #[] #[])).setCell ⟨w.heap.size,1,none⟩ (.func (.func 92) #[] #[])).setCell ⟨w.heap.size,2,none⟩ (.func (.func 93) #[] #[])).setCell ⟨w.heap.size,3,none⟩ (.func (.func 94) #[] #[])).setCell ⟨w.heap.size,4,none⟩ (.bool false)):=(((((Chg.of_set (S:=fun j => j = w.heap.size) _ _ _ _ rfl).trans (Chg.of_set (S:=fun j => j = w.heap.size) _ _ _ _ rfl)).trans (Chg.of_set (S:=fun j => j = w.heap.size) _ _ _ _ rfl)).trans (Chg.of_set (S:=fun j => j = w.heap.size) _ _ _ _ rfl)).trans (Chg.of_set (S:=fun j => j = w.heap.size) _ _ _ _ rfl))
 generalize (((((wo.setCell ⟨w.heap.size,0,none⟩ (.func (.func 49) #[] #[])).setCell ⟨w.heap.size,1,none⟩ (.func (.func 92) #[] #[])).setCell ⟨w.heap.size,2,none⟩ (.func (.func 93) #[] #[])).setCell ⟨w.heap.size,3,none⟩ (.func (.func 94) #[] #[])).setCell ⟨w.heap.size,4,none⟩ (.bool false)) = wf at *
 refine bodyPost_ret (by simp [results,Tryz.results63,go_sem,t0,t1,t2,t3,t4]; try rfl) rfl ?_
 exact ⟨rfl,(Uh HB).trans (cc.below (Uh HB).size (fun j hj e => by omega))⟩
set_option maxRecDepth 100000 in
set_option maxHeartbeats 16000000 in
theorem crules_cols (w:World) :
  Calls Tryz.prog 63 #[.int .i64 2] w fun e w' => e = .returned (.tuple #[.agg #[(.func (.func 95) #[] #[]),(.func (.func 96) #[] #[]),(.func (.func 93) #[] #[]),(.func (.func 97) #[] #[]),(.bool false)],.bool true]) ∧ Below w.heap.size w w':=by
 have hO:=BoxP.made w #[Value.nilFunc,Value.nilFunc,Value.nilFunc,Value.nilFunc,.bool false] 78
 obtain ⟨wo,hwo⟩:∃ x,w.alloc (.cells #[Value.nilFunc,Value.nilFunc,Value.nilFunc,Value.nilFunc,.bool false] 78) = x:=⟨_,rfl⟩
 have bo:Below w.heap.size w wo:=by rw [← hwo]; exact bAl
 rw [hwo] at hO
 have o0:=(hO.all 0 _ rfl).1
 have r0:=(hO.all 0 _ rfl).2
 have o1:=(hO.all 1 _ rfl).1
 have r1:=(hO.all 1 _ rfl).2
 have o2:=(hO.all 2 _ rfl).1
 have r2:=(hO.all 2 _ rfl).2
 have o3:=(hO.all 3 _ rfl).1
 have r3:=(hO.all 3 _ rfl).2
 have o4:=(hO.all 4 _ rfl).1
 have r4:=(hO.all 4 _ rfl).2
 have HO:=Hj hO
 have HB:=Hj bo
 clear hO bo
 go_enter Tryz.func63,Tryz.ntmps63
 go_wp2_with fail
 have hf:=((((((Uh HO).put 0 (.func (.func 95) #[] #[])).put 1 (.func (.func 96) #[] #[])).put 2 (.func (.func 93) #[] #[])).put 3 (.func (.func 97) #[] #[])).put 4 (.bool false))
 have t0:=(hf.all 0 _ rfl).1
 have t1:=(hf.all 1 _ rfl).1
 have t2:=(hf.all 2 _ rfl).1
 have t3:=(hf.all 3 _ rfl).1
 have t4:=(hf.all 4 _ rfl).1
 have cc:Chg (fun j => j = w.heap.size) wo (((((wo.setCell ⟨w.heap.size,0,none⟩ (.func (.func 95) #[] #[])).setCell ⟨w.heap.size,1,none⟩ (.func (.func 96) #[] #[])).setCell ⟨w.heap.size,2,none⟩ (.func (.func 93) #[] #[])).setCell ⟨w.heap.size,3,none⟩ (.func (.func 97) #[] #[])).setCell ⟨w.heap.size,4,none⟩ (.bool false)):=(((((Chg.of_set (S:=fun j => j = w.heap.size) _ _ _ _ rfl).trans (Chg.of_set (S:=fun j => j = w.heap.size) _ _ _ _ rfl)).trans (Chg.of_set (S:=fun j => j = w.heap.size) _ _ _ _ rfl)).trans (Chg.of_set (S:=fun j => j = w.heap.size) _ _ _ _ rfl)).trans (Chg.of_set (S:=fun j => j = w.heap.size) _ _ _ _ rfl))
 generalize (((((wo.setCell ⟨w.heap.size,0,none⟩ (.func (.func 95) #[] #[])).setCell ⟨w.heap.size,1,none⟩ (.func (.func 96) #[] #[])).setCell ⟨w.heap.size,2,none⟩ (.func (.func 93) #[] #[])).setCell ⟨w.heap.size,3,none⟩ (.func (.func 97) #[] #[])).setCell ⟨w.heap.size,4,none⟩ (.bool false)) = wf at *
 refine bodyPost_ret (by simp [results,Tryz.results63,go_sem,t0,t1,t2,t3,t4]; try rfl) rfl ?_
 exact ⟨rfl,(Uh HB).trans (cc.below (Uh HB).size (fun j hj e => by omega))⟩
set_option maxRecDepth 100000 in
set_option maxHeartbeats 16000000 in
theorem crules_rows (w:World) :
  Calls Tryz.prog 63 #[.int .i64 3] w fun e w' => e = .returned (.tuple #[.agg #[(.func (.func 98) #[] #[]),(.func (.func 99) #[] #[]),(.func (.func 93) #[] #[]),(.func (.func 100) #[] #[]),(.bool false)],.bool true]) ∧ Below w.heap.size w w':=by
 have hO:=BoxP.made w #[Value.nilFunc,Value.nilFunc,Value.nilFunc,Value.nilFunc,.bool false] 78
 obtain ⟨wo,hwo⟩:∃ x,w.alloc (.cells #[Value.nilFunc,Value.nilFunc,Value.nilFunc,Value.nilFunc,.bool false] 78) = x:=⟨_,rfl⟩
 have bo:Below w.heap.size w wo:=by rw [← hwo]; exact bAl
 rw [hwo] at hO
 have o0:=(hO.all 0 _ rfl).1
 have r0:=(hO.all 0 _ rfl).2
 have o1:=(hO.all 1 _ rfl).1
 have r1:=(hO.all 1 _ rfl).2
 have o2:=(hO.all 2 _ rfl).1
 have r2:=(hO.all 2 _ rfl).2
 have o3:=(hO.all 3 _ rfl).1
 have r3:=(hO.all 3 _ rfl).2
 have o4:=(hO.all 4 _ rfl).1
 have r4:=(hO.all 4 _ rfl).2
 have HO:=Hj hO
 have HB:=Hj bo
 clear hO bo
 go_enter Tryz.func63,Tryz.ntmps63
 go_wp2_with fail
 have hf:=((((((Uh HO).put 0 (.func (.func 98) #[] #[])).put 1 (.func (.func 99) #[] #[])).put 2 (.func (.func 93) #[] #[])).put 3 (.func (.func 100) #[] #[])).put 4 (.bool false))
 have t0:=(hf.all 0 _ rfl).1
 have t1:=(hf.all 1 _ rfl).1
 have t2:=(hf.all 2 _ rfl).1
 have t3:=(hf.all 3 _ rfl).1
 have t4:=(hf.all 4 _ rfl).1
 have cc:Chg (fun j => j = w.heap.size) wo (((((wo.setCell ⟨w.heap.size,0,none⟩ (.func (.func 98) #[] #[])).setCell ⟨w.heap.size,1,none⟩ (.func (.func 99) #[] #[])).setCell ⟨w.heap.size,2,none⟩ (.func (.func 93) #[] #[])).setCell ⟨w.heap.size,3,none⟩ (.func (.func 100) #[] #[])).setCell ⟨w.heap.size,4,none⟩ (.bool false)):=(((((Chg.of_set (S:=fun j => j = w.heap.size) _ _ _ _ rfl).trans (Chg.of_set (S:=fun j => j = w.heap.size) _ _ _ _ rfl)).trans (Chg.of_set (S:=fun j => j = w.heap.size) _ _ _ _ rfl)).trans (Chg.of_set (S:=fun j => j = w.heap.size) _ _ _ _ rfl)).trans (Chg.of_set (S:=fun j => j = w.heap.size) _ _ _ _ rfl))
 generalize (((((wo.setCell ⟨w.heap.size,0,none⟩ (.func (.func 98) #[] #[])).setCell ⟨w.heap.size,1,none⟩ (.func (.func 99) #[] #[])).setCell ⟨w.heap.size,2,none⟩ (.func (.func 93) #[] #[])).setCell ⟨w.heap.size,3,none⟩ (.func (.func 100) #[] #[])).setCell ⟨w.heap.size,4,none⟩ (.bool false)) = wf at *
 refine bodyPost_ret (by simp [results,Tryz.results63,go_sem,t0,t1,t2,t3,t4]; try rfl) rfl ?_
 exact ⟨rfl,(Uh HB).trans (cc.below (Uh HB).size (fun j hj e => by omega))⟩
set_option maxRecDepth 100000 in
set_option maxHeartbeats 16000000 in
theorem crules_acyc (w:World) :
  Calls Tryz.prog 63 #[.int .i64 5] w fun e w' => e = .returned (.tuple #[.agg #[(.func (.func 49) #[] #[]),(.func (.func 103) #[] #[]),(.func (.func 104) #[] #[]),(.func (.func 94) #[] #[]),(.bool true)],.bool true]) ∧ Below w.heap.size w w':=by
 have hO:=BoxP.made w #[Value.nilFunc,Value.nilFunc,Value.nilFunc,Value.nilFunc,.bool false] 78
 obtain ⟨wo,hwo⟩:∃ x,w.alloc (.cells #[Value.nilFunc,Value.nilFunc,Value.nilFunc,Value.nilFunc,.bool false] 78) = x:=⟨_,rfl⟩
 have bo:Below w.heap.size w wo:=by rw [← hwo]; exact bAl
 rw [hwo] at hO
 have o0:=(hO.all 0 _ rfl).1
 have r0:=(hO.all 0 _ rfl).2
 have o1:=(hO.all 1 _ rfl).1
 have r1:=(hO.all 1 _ rfl).2
 have o2:=(hO.all 2 _ rfl).1
 have r2:=(hO.all 2 _ rfl).2
 have o3:=(hO.all 3 _ rfl).1
 have r3:=(hO.all 3 _ rfl).2
 have o4:=(hO.all 4 _ rfl).1
 have r4:=(hO.all 4 _ rfl).2
 have HO:=Hj hO
 have HB:=Hj bo
 clear hO bo
 go_enter Tryz.func63,Tryz.ntmps63
 go_wp2_with fail
 have hf:=((((((Uh HO).put 0 (.func (.func 49) #[] #[])).put 1 (.func (.func 103) #[] #[])).put 2 (.func (.func 104) #[] #[])).put 3 (.func (.func 94) #[] #[])).put 4 (.bool true))
 have t0:=(hf.all 0 _ rfl).1
 have t1:=(hf.all 1 _ rfl).1
 have t2:=(hf.all 2 _ rfl).1
 have t3:=(hf.all 3 _ rfl).1
 have t4:=(hf.all 4 _ rfl).1
 have cc:Chg (fun j => j = w.heap.size) wo (((((wo.setCell ⟨w.heap.size,0,none⟩ (.func (.func 49) #[] #[])).setCell ⟨w.heap.size,1,none⟩ (.func (.func 103) #[] #[])).setCell ⟨w.heap.size,2,none⟩ (.func (.func 104) #[] #[])).setCell ⟨w.heap.size,3,none⟩ (.func (.func 94) #[] #[])).setCell ⟨w.heap.size,4,none⟩ (.bool true)):=(((((Chg.of_set (S:=fun j => j = w.heap.size) _ _ _ _ rfl).trans (Chg.of_set (S:=fun j => j = w.heap.size) _ _ _ _ rfl)).trans (Chg.of_set (S:=fun j => j = w.heap.size) _ _ _ _ rfl)).trans (Chg.of_set (S:=fun j => j = w.heap.size) _ _ _ _ rfl)).trans (Chg.of_set (S:=fun j => j = w.heap.size) _ _ _ _ rfl))
 generalize (((((wo.setCell ⟨w.heap.size,0,none⟩ (.func (.func 49) #[] #[])).setCell ⟨w.heap.size,1,none⟩ (.func (.func 103) #[] #[])).setCell ⟨w.heap.size,2,none⟩ (.func (.func 104) #[] #[])).setCell ⟨w.heap.size,3,none⟩ (.func (.func 94) #[] #[])).setCell ⟨w.heap.size,4,none⟩ (.bool true)) = wf at *
 refine bodyPost_ret (by simp [results,Tryz.results63,go_sem,t0,t1,t2,t3,t4]; try rfl) rfl ?_
 exact ⟨rfl,(Uh HB).trans (cc.below (Uh HB).size (fun j hj e => by omega))⟩
set_option maxRecDepth 100000 in
set_option maxHeartbeats 16000000 in
theorem crules_off (x:Int) (hx1:(x == 1) = false) (hx2:(x == 2) = false) (hx3:(x == 3) = false) (hx4:(x == 4) = false) (hx5:(x == 5) = false) (w:World) :
  Calls Tryz.prog 63 #[.int .i64 x] w fun e w' => e = .returned (.tuple #[.agg #[Value.nilFunc,Value.nilFunc,Value.nilFunc,Value.nilFunc,(.bool false)],.bool false]) ∧ Below w.heap.size w w':=by
 have hO:=BoxP.made w #[Value.nilFunc,Value.nilFunc,Value.nilFunc,Value.nilFunc,.bool false] 78
 obtain ⟨wo,hwo⟩:∃ x,w.alloc (.cells #[Value.nilFunc,Value.nilFunc,Value.nilFunc,Value.nilFunc,.bool false] 78) = x:=⟨_,rfl⟩
 have bo:Below w.heap.size w wo:=by rw [← hwo]; exact bAl
 rw [hwo] at hO
 have o0:=(hO.all 0 _ rfl).1
 have r0:=(hO.all 0 _ rfl).2
 have o1:=(hO.all 1 _ rfl).1
 have r1:=(hO.all 1 _ rfl).2
 have o2:=(hO.all 2 _ rfl).1
 have r2:=(hO.all 2 _ rfl).2
 have o3:=(hO.all 3 _ rfl).1
 have r3:=(hO.all 3 _ rfl).2
 have o4:=(hO.all 4 _ rfl).1
 have r4:=(hO.all 4 _ rfl).2
 have HO:=Hj hO
 have HB:=Hj bo
 clear hO bo
 go_enter Tryz.func63,Tryz.ntmps63
 go_wp2_with fail
 have hf:=((((((Uh HO).put 0 Value.nilFunc).put 1 Value.nilFunc).put 2 Value.nilFunc).put 3 Value.nilFunc).put 4 (.bool false))
 have t0:=(hf.all 0 _ rfl).1
 have t1:=(hf.all 1 _ rfl).1
 have t2:=(hf.all 2 _ rfl).1
 have t3:=(hf.all 3 _ rfl).1
 have t4:=(hf.all 4 _ rfl).1
 have cc:Chg (fun j => j = w.heap.size) wo (((((wo.setCell ⟨w.heap.size,0,none⟩ Value.nilFunc).setCell ⟨w.heap.size,1,none⟩ Value.nilFunc).setCell ⟨w.heap.size,2,none⟩ Value.nilFunc).setCell ⟨w.heap.size,3,none⟩ Value.nilFunc).setCell ⟨w.heap.size,4,none⟩ (.bool false)):=(((((Chg.of_set (S:=fun j => j = w.heap.size) _ _ _ _ rfl).trans (Chg.of_set (S:=fun j => j = w.heap.size) _ _ _ _ rfl)).trans (Chg.of_set (S:=fun j => j = w.heap.size) _ _ _ _ rfl)).trans (Chg.of_set (S:=fun j => j = w.heap.size) _ _ _ _ rfl)).trans (Chg.of_set (S:=fun j => j = w.heap.size) _ _ _ _ rfl))
 generalize (((((wo.setCell ⟨w.heap.size,0,none⟩ Value.nilFunc).setCell ⟨w.heap.size,1,none⟩ Value.nilFunc).setCell ⟨w.heap.size,2,none⟩ Value.nilFunc).setCell ⟨w.heap.size,3,none⟩ Value.nilFunc).setCell ⟨w.heap.size,4,none⟩ (.bool false)) = wf at *
 refine bodyPost_ret (by simp [results,Tryz.results63,go_sem,t0,t1,t2,t3,t4]; try rfl) rfl ?_
 exact ⟨rfl,(Uh HB).trans (cc.below (Uh HB).size (fun j hj e => by omega))⟩
end Go.Proofs.YtgjokididdffhaaGreat
