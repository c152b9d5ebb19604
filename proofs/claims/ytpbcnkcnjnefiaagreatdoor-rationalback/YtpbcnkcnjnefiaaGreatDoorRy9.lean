/- Ry8 -/
import Derived.Test.YtpbcnkcnjnefiaaGreatDoorRy7
import Derived.Test.YtpbcnkcnjnefiaaGreatDoorRp6
import Derived.Test.YtpbcnkcnjnefiaaGreatDoorRl2
import Derived.Test.YtpbcnkcnjnefiaaGreatDoorRz2
import Derived.Test.YtpbcnkcnjnefiaaGreatDoorRs1
import Derived.Test.YtpbcnkcnjnefiaaGreatDoorWi2
import Derived.Test.YtpbcnkcnjnefiaaGreatDoorRa6
import Derived.Test.YtpbcnkcnjnefiaaGreatDoorPw1
import Derived.Test.YtpbcnkcnjnefiaaGreatDoorRq0
namespace Go.Proofs.YtpbcnkcnjnefiaaGreatDoor
open Go.RowKit Go.Deep
set_option linter.unusedVariables false
def okT (j:Nat) (p:Nq):Bool:=decide (p.y = [1]) && (decide (j = 0) || (!p.g && !decide (p.x = [])))
theorem tmQ_long {ps:List Nq} (h:1024 < ps.length):tmQ ps = false:=by
 cases ps with
 | nil => simp at h
 | cons p r => unfold tmQ; simp at h; simp; intro k; omega
theorem tmQ_false {ps:List Nq} {i:Nat} {p:Nq} (hp:ps[i]? = some p) (h:okT i p = false):tmQ ps = false:=by
 cases ps with
 | nil => simp at hp
 | cons q r =>
  cases hb:tmQ (q :: r)
  ·rfl
  ·exfalso
   obtain ⟨h1,h2,h3⟩:=tmQ_get hb
   cases i with
   | zero =>
    simp at hp
    subst hp
    unfold okT at h
    rw [h2] at h
    simp at h
   | succ i =>
    have hm:p ∈ r:=List.mem_of_getElem? (by simpa using hp)
    have:=h3 p hm
    unfold okT at h
    unfold tmP at this
    simp only [Bool.and_eq_true,decide_eq_true_eq,Bool.not_eq_true',decide_eq_false_iff_not] at this
    rw [this.1.1,this.1.2] at h
    simp [this.2] at h
theorem tmQ_true {ps:List Nq} {n:Nat} (hl:ps.length = n) (h0:0 < n) (h1:n ≤ 1024) (h:∀ j p,j < n → ps[j]? = some p → okT j p = true):tmQ ps = true:=by
 cases ps with
 | nil => simp at hl; omega
 | cons q r =>
  unfold tmQ
  simp only [Bool.and_eq_true,decide_eq_true_eq]
  refine ⟨⟨by simp at hl; omega,?_⟩,?_⟩
  ·have:=h 0 q h0 rfl
   unfold okT at this
   simp at this
   exact this
  ·rw [List.all_eq_true]
   intro p hp
   obtain ⟨i,hi,e⟩:=List.getElem_of_mem hp
   have:=h (i + 1) p (by simp at hl; omega) (by simp [List.getElem?_eq_getElem hi,e])
   unfold okT at this
   unfold tmP
   simpa [Bool.and_assoc] using this
theorem tm_tail {p:Nq} {r:List Nq} {i:Nat} {q:Nq} (hq:(p :: r)[i + 1]? = some q):tmV ((p :: r).drop (i + 1)) = val q.x :: tmV ((p :: r).drop (i + 2)) ∧ q ∈ r:=by
 refine ⟨?_,List.mem_of_getElem? (by simpa using hq)⟩
 obtain ⟨hi,rfl⟩:=List.getElem?_eq_some_iff.1 hq
 unfold tmV
 rw [List.drop_eq_getElem_cons hi]
 rfl
theorem SmX.put {w wr wk:World} {Ro Rx:Nat} {z:Nq} {gy:Bool} {ay by_:Option Addr} {ny cy my dy:Nat} {xy yy:List Nat} (h:SmX w wr Ro Rx z) (hb:Below wr.heap.size wr wk) (hx:Sl wk ay ny cy xy) (hy:Sl wk by_ my dy yy) (nx:NewAt wr.heap.size ay) (nn:NewAt wr.heap.size by_) :
  Tri (((wk.setCell ⟨Rx,0,none⟩ (.bool gy)).setCell ⟨Rx,1,none⟩ (.slice ay ny cy)).setCell ⟨Rx,2,none⟩ (.slice by_ my dy)) Rx (.bool gy) (.slice ay ny cy) (.slice by_ my dy) ∧
  Out (((wk.setCell ⟨Rx,0,none⟩ (.bool gy)).setCell ⟨Rx,1,none⟩ (.slice ay ny cy)).setCell ⟨Rx,2,none⟩ (.slice by_ my dy)) Ro ∧
  Sl (((wk.setCell ⟨Rx,0,none⟩ (.bool gy)).setCell ⟨Rx,1,none⟩ (.slice ay ny cy)).setCell ⟨Rx,2,none⟩ (.slice by_ my dy)) ay ny cy xy ∧
  Sl (((wk.setCell ⟨Rx,0,none⟩ (.bool gy)).setCell ⟨Rx,1,none⟩ (.slice ay ny cy)).setCell ⟨Rx,2,none⟩ (.slice by_ my dy)) by_ my dy yy ∧
  Below w.heap.size w (((wk.setCell ⟨Rx,0,none⟩ (.bool gy)).setCell ⟨Rx,1,none⟩ (.slice ay ny cy)).setCell ⟨Rx,2,none⟩ (.slice by_ my dy)) ∧ NewAt (Ro + 1) ay ∧ NewAt (Ro + 1) by_:=by
 have hO:=(h.tx.keep hb).out
 have c4:=(three_set wk Rx (.bool gy) (.slice ay ny cy) (.slice by_ my dy) hO.cells).2.2.2
 have hlt:=h.tx.lt
 have hr:=h.rx
 have hB:=h.bel.trans (hb.mono h.bel.size)
 exact ⟨tri_setQ hO _ _ _,(h.out.keep hb).chgQ c4 (fun e => by omega),hx.chg c4 (fun p hp _ e => by have:=nx p hp; omega),hy.chg c4 (fun p hp _ e => by have:=nn p hp; omega),hB.trans (c4.below hB.size (fun k hk e => by have:=h.ro; omega)),fun p hp => by have:=nx p hp; omega,fun p hp => by have:=nn p hp; omega⟩
theorem con_cons {p q:Nq} {l k:List Nq} (h:(p :: l).map conQ = (q :: k).map conQ):p.g = q.g ∧ p.x = q.x ∧ p.y = q.y ∧ l.map conQ = k.map conQ:=by
 simp only [List.map_cons] at h
 injection h with h1 h2
 unfold conQ at h1
 injection h1 with e1 e2
 injection e2 with e2 e3
 exact ⟨e1,e2,e3,h2⟩
theorem mayQ_con {ps qs:List Nq} (h:ps.map conQ = qs.map conQ):mayQ ps = mayQ qs:=by
 induction ps generalizing qs with
 | nil => cases qs with
  | nil => rfl
  | cons q k => simp at h
 | cons p l ih => cases qs with
  | nil => simp at h
  | cons q k =>
   obtain ⟨e1,e2,e3,e4⟩:=con_cons h
   have:=ih e4
   unfold mayQ at this ⊢
   simp only [List.all_cons,e1,e2,e3,this]
theorem tmV_con {ps qs:List Nq} (h:ps.map conQ = qs.map conQ):tmV ps = tmV qs:=by
 have h2:=congrArg (List.map (fun z:Bool × List Nat × List Nat => val z.2.1)) h
 simp only [List.map_map] at h2
 exact h2
theorem all_con {ps qs:List Nq} (h:ps.map conQ = qs.map conQ):ps.all tmP = qs.all tmP:=by
 induction ps generalizing qs with
 | nil => cases qs with
  | nil => rfl
  | cons q k => simp at h
 | cons p l ih => cases qs with
  | nil => simp at h
  | cons q k =>
   obtain ⟨e1,e2,e3,e4⟩:=con_cons h
   simp only [List.all_cons,ih e4]
   congr 1
   unfold tmP
   rw [e1,e2,e3]
theorem ftF_con {ps qs:List Nq} (h:ps.map conQ = qs.map conQ):FtF ps = FtF qs:=by
 have hm:=mayQ_con h
 cases ps with
 | nil => cases qs with
  | nil => rfl
  | cons q k => simp at h
 | cons p l => cases qs with
  | nil => simp at h
  | cons q k =>
   obtain ⟨e1,e2,e3,e4⟩:=con_cons h
   have hl:l.length = k.length:=by simpa using congrArg List.length e4
   have ht:tmQ (p :: l) = tmQ (q :: k):=by
    show (decide (l.length ≤ 1023) && decide (p.y = [1]) && l.all tmP) = (decide (k.length ≤ 1023) && decide (q.y = [1]) && k.all tmP)
    rw [hl,e3,all_con e4]
   have hv:=tmV_con e4
   unfold FtF
   rw [hm,ht]
   simp only [hv,e1,e2,e3]
theorem cf_back:∀ (f d l:Nat),Nat.gcd d l = 1 → (cfT f d l).2 = true → ftV (cfT f d l).1 = (d,l)
 | 0,d,l,hg,hw => by
  have h0:l = 0:=by simpa [cfT] using hw
  subst h0
  rw [Nat.gcd_zero_right] at hg
  subst hg
  rfl
 | f + 1,d,l,hg,hw => by
  by_cases h0:l = 0
  ·subst h0
   rw [Nat.gcd_zero_right] at hg
   subst hg
   rw [cfT_end]
   rfl
  ·rw [cfT_step f d h0] at hw ⊢
   have hg2:Nat.gcd l (d % l) = 1:=by rw [Nat.gcd_comm,← Nat.gcd_rec,Nat.gcd_comm]; exact hg
   have ih:=cf_back f l (d % l) hg2 hw
   show ((d / l) * (ftV (cfT f l (d % l)).1).1 + (ftV (cfT f l (d % l)).1).2,(ftV (cfT f l (d % l)).1).1) = (d,l)
   rw [ih]
   show (d / l * l + d % l,l) = (d,l)
   rw [Nat.mul_comm,Nat.div_add_mod]
theorem cf_pos:∀ (f d l:Nat),l < d → ∀ t ∈ (cfT f d l).1,0 < t ∧ t ≤ d
 | 0,d,l,h,t,ht => by simp [cfT] at ht
 | f + 1,d,l,h,t,ht => by
  by_cases h0:l = 0
  ·subst h0
   rw [cfT_end] at ht
   cases ht
  ·rw [cfT_step f d h0] at ht
   rcases List.mem_cons.1 ht with rfl | ht
   ·exact ⟨Nat.div_pos (Nat.le_of_lt h) (by omega),Nat.div_le_self _ _⟩
   ·have:=cf_pos f l (d % l) (Nat.mod_lt _ (by omega)) t ht
    omega
theorem cf_len:∀ (f d l:Nat),(cfT f d l).1.length ≤ f
 | 0,d,l => by simp [cfT]
 | f + 1,d,l => by
  by_cases h0:l = 0
  ·subst h0; rw [cfT_end]; simp
  ·rw [cfT_step f d h0]
   have:=cf_len f l (d % l)
   simp
   omega
theorem cf_fit:∀ (f d l:Nat),Nat.gcd d l = 1 → (cfT f d l).2 = true → l < d → bigN d = false → ftB (cfT f d l).1 = false
 | 0,d,l,hg,hw,hl,hb => by simp [cfT,ftB]
 | f + 1,d,l,hg,hw,hl,hb => by
  by_cases h0:l = 0
  ·subst h0; rw [cfT_end]; rfl
  ·have hv:=cf_back (f + 1) d l hg hw
   rw [cfT_step f d h0] at hw hv ⊢
   have hg2:Nat.gcd l (d % l) = 1:=by rw [Nat.gcd_comm,← Nat.gcd_rec,Nat.gcd_comm]; exact hg
   have ih:=cf_fit f l (d % l) hg2 hw (Nat.mod_lt _ (by omega)) (bigN_le (Nat.le_of_lt hl) hb)
   unfold ftB
   rw [ih,hv]
   simpa using hb
def mkN (t:Bool × List Nat × List Nat):Nq:=⟨t.1,none,0,0,t.2.1,none,0,0,t.2.2⟩
theorem con_mkN (l:List (Bool × List Nat × List Nat)):(l.map mkN).map conQ = l:=by
 induction l with
 | nil => rfl
 | cons t l ih =>
  rw [List.map_cons,List.map_cons,ih]
  rfl
theorem tmV_mkN (l:List Nat):tmV ((l.map whN).map mkN) = l:=by
 induction l with
 | nil => rfl
 | cons t l ih =>
  unfold tmV at ih ⊢
  simp only [List.map_cons,List.map_map] at ih ⊢
  congr 1
  ·show val (limbs t) = t
   exact lv t
theorem wh_may {t:Nat} (h:bigN t = false):MayR false (limbs t) [1] = true:=by
 have:=may_whole (g:=false) h
 rwa [Bool.false_and] at this
theorem terms_back {g:Bool} {x y:List Nat} {most:Int} {ps:List Nq} {e:Int} (ox:Ok x) (oy:Ok y) (h:MayR g x y = true) (ht:TmR g x y most (ps.map conQ) true e):FtF ps = ((g,x,y),0):=by
 obtain ⟨l,hl⟩:∃ l,ps.map conQ = l:=⟨_,rfl⟩
 rw [hl] at ht
 have hq:FtF ps = FtF (l.map mkN):=ftF_con (by rw [con_mkN,hl])
 rw [hq]
 clear hq hl ps
 have hY:=mayR_pos h
 obtain ⟨kx,ky,ey,_,cp⟩:=MayR.parts h
 have bX:=big_of_may ox kx
 have bY:=big_of_may oy ky
 have cL:Nat.gcd (val y) (flL g (val x) (val y)) = 1:=by rw [Nat.gcd_comm]; exact flL_cop (g:=g) hY (Nat.dvd_refl _) cp
 have hlt:=flL_lt (g:=g) (X:=val x) hY
 have hq:=flQ_les (g:=g) (X:=val x) hY
 generalize hw:true = b at ht
 cases ht with
 | bad h1 => cases hw
 | arg h1 h2 => cases hw
 | ok f h1 hp hf =>
  have hw2:=hw.symm
  have hv:=cf_back f (val y) (flL g (val x) (val y)) cL hw2
  have hpos:=cf_pos f (val y) (flL g (val x) (val y)) hlt
  have hlen:=cf_len f (val y) (flL g (val x) (val y))
  have hfit:=cf_fit f (val y) (flL g (val x) (val y)) cL hw2 hlt bY
  generalize (cfT f (val y) (flL g (val x) (val y))).1 = ts at *
  rw [List.map_cons]
  have hm:mayQ (mkN (g && decide (flQ g (val x) (val y) ≠ 0),limbs (flQ g (val x) (val y)),[1]) :: (ts.map whN).map mkN) = true:=by
   unfold mayQ
   rw [List.all_eq_true]
   intro p hp
   rcases List.mem_cons.1 hp with rfl | hp
   ·exact may_whole (bigN_le hq bX)
   ·obtain ⟨t1,ht1,rfl⟩:=List.mem_map.1 hp
    obtain ⟨t,ht,rfl⟩:=List.mem_map.1 ht1
    exact wh_may (bigN_le (hpos t ht).2 bY)
  have hk:tmQ (mkN (g && decide (flQ g (val x) (val y) ≠ 0),limbs (flQ g (val x) (val y)),[1]) :: (ts.map whN).map mkN) = true:=by
   unfold tmQ
   simp only [Bool.and_eq_true,decide_eq_true_eq,List.all_eq_true,List.length_map]
   refine ⟨⟨by omega,rfl⟩,fun p hp => ?_⟩
   obtain ⟨t1,ht1,rfl⟩:=List.mem_map.1 hp
   obtain ⟨t,ht,rfl⟩:=List.mem_map.1 ht1
   have hne:limbs t ≠ []:=by rw [Ne,limbs_eq_nil]; have:=(hpos t ht).1; omega
   unfold tmP mkN whN
   simp [hne]
  rw [ftF_ok hm hk (by rw [tmV_mkN]; exact hfit),tmV_mkN,hv]
  show AddF (g && decide (flQ g (val x) (val y) ≠ 0)) (limbs (flQ g (val x) (val y))) [1] false (limbs (flL g (val x) (val y))) (limbs (val y)) = ((g,x,y),0)
  have hid:=flL_val (g1:=g) (g2:=false) (X:=val x) hY
  rw [show (g != false) = g by cases g <;> rfl] at hid
  have eyl:limbs (val y) = y:=limbs_val oy (MayL.norm ky)
  have exl:limbs (val x) = x:=limbs_val ox (MayL.norm kx)
  have mq:=may_whole (g:=g) (bigN_le hq bX)
  by_cases h0:flL g (val x) (val y) = 0
  ·have hy1:val y = 1:=by rw [h0,Nat.gcd_zero_right] at cL; exact cL
   have hyl:y = [1]:=by rw [← eyl,hy1,limbs_1]
   have hqx:flQ g (val x) (val y) = val x:=by
    unfold flQ
    rw [hy1,Nat.mod_one,Nat.div_one]
    simp
   rw [h0,limbs_zero,hqx,hy1,limbs_1,exl]
   rw [hqx] at mq
   rw [exl] at mq
   rw [addF_zero ox mq,hyl]
   have hgg:(g && decide (val x ≠ 0)) = g:=by
    cases g
    ·rfl
    ·have hx0:x ≠ []:=by
      intro e
      rw [e] at h
      unfold MayR at h
      simp at h
     have:val x ≠ 0:=fun e => hx0 ((val_zero_iff kx).1 e)
     simp [this]
   rw [hgg]
  ·have hLn:limbs (flL g (val x) (val y)) ≠ []:=by rw [Ne,limbs_eq_nil]; exact h0
   have bL:bigN (flL g (val x) (val y)) = false:=bigN_le (Nat.le_of_lt hlt) bY
   have mt:MayR true (limbs (flL g (val x) (val y))) (limbs (val y)) = true:=by
    have:=mayR_mk (g:=true) bL bY hY (by rw [Nat.gcd_comm]; exact cL)
    simpa [h0] using this
   have mf:MayR false (limbs (flL g (val x) (val y))) (limbs (val y)) = true:=by
    have:=mayR_mk (g:=false) bL bY hY (by rw [Nat.gcd_comm]; exact cL)
    simpa using this
   have hAS:AddF (g && decide (flQ g (val x) (val y) ≠ 0)) (limbs (flQ g (val x) (val y))) [1] false (limbs (flL g (val x) (val y))) (limbs (val y)) = SubF (g && decide (flQ g (val x) (val y) ≠ 0)) (limbs (flQ g (val x) (val y))) [1] true (limbs (flL g (val x) (val y))) (limbs (val y)):=by
    unfold AddF SubF
    rw [mt,mf]
    rfl
   rw [hAS]
   refine subF_back ox oy h mt ⟨mq,?_,?_⟩
   ·rw [lv]; have:(0:Int) < (val y:Int):=by omega
    exact Int.mul_pos this this
   ·rw [lv,lv,lv,val_1,nI_and]
    have e2:nI (!g) (flQ g (val x) (val y) * val y) = - (nI g (flQ g (val x) (val y)) * (val y:Int)):=by
     rw [← nI_mul]
     cases g <;> simp [nI]
    rw [e2] at hid
    simp only [nI,if_true,Bool.false_eq_true,if_false] at hid ⊢
    generalize (if g = true then -(val x:Int) else (val x:Int)) = A at *
    generalize (if g = true then -(flQ g (val x) (val y):Int) else (flQ g (val x) (val y):Int)) = Qv at *
    generalize (flL g (val x) (val y):Int) = Lv at *
    generalize (val y:Int) = Yv at *
    have e3:Qv * Yv = A - Lv:=by omega
    rw [← Int.mul_assoc,e3]
    grind
structure FtX (w wr:World) (Rz Ro:Nat) (ps:List Nq) (i:Nat) (z:Nq):Prop where
 fd:FdX w wr Rz Ro w.heap.size z
 g:z.g = false
 x:z.x = limbs (ftV (tmV (ps.drop i))).2
 y:z.y = limbs (ftV (tmV (ps.drop i))).1
 b:ftB (tmV (ps.drop i)) = false

theorem ft_pos {p0:Nq} {r:List Nq} (hm:mayQ (p0 :: r) = true) (ht:tmQ (p0 :: r) = true) (ho:∀ p ∈ p0 :: r,Ok p.x) (i:Nat):∀ t ∈ tmV ((p0 :: r).drop (i + 1)),0 < t:=by
 intro t h
 unfold tmV at h
 obtain ⟨q,hq,rfl⟩:=List.mem_map.1 h
 have hq1:q ∈ r:=List.mem_of_mem_drop (by simpa using hq)
 have hq2:q ∈ p0 :: r:=List.mem_cons_of_mem _ hq1
 have hmq:MayR q.g q.x q.y = true:=by
  unfold mayQ at hm
  exact List.all_eq_true.1 hm q hq2
 exact (tm_pos (ho q hq2) hmq ((tmQ_get ht).2.2 q hq1)).1
theorem ft_step {p0:Nq} {r:List Nq} (hm:mayQ (p0 :: r) = true) (ht:tmQ (p0 :: r) = true) (ho:∀ p ∈ p0 :: r,Ok p.x) {i:Nat} {q:Nq} (hq:(p0 :: r)[i + 1]? = some q) (hb:ftB (tmV ((p0 :: r).drop (i + 2))) = false) :
  AddF q.g q.x q.y false (limbs (ftV (tmV ((p0 :: r).drop (i + 2)))).2) (limbs (ftV (tmV ((p0 :: r).drop (i + 2)))).1) = if bigN (ftV (tmV ((p0 :: r).drop (i + 1)))).1 then ((false,[],[]),2) else ((false,limbs (ftV (tmV ((p0 :: r).drop (i + 1)))).1,limbs (ftV (tmV ((p0 :: r).drop (i + 1)))).2),0):=by
 obtain ⟨e1,e2⟩:=tm_tail hq
 have hq2:q ∈ p0 :: r:=List.mem_cons_of_mem _ e2
 have hmq:MayR q.g q.x q.y = true:=by
  unfold mayQ at hm
  exact List.all_eq_true.1 hm q hq2
 obtain ⟨t1,t2,t3⟩:=tm_pos (ho q hq2) hmq ((tmQ_get ht).2.2 q e2)
 obtain ⟨u1,u2,_⟩:=tmP_parts ((tmQ_get ht).2.2 q e2)
 have:=addF_term hb (ft_pos hm ht ho (i + 1)) t1 t3
 rw [t2] at this
 rw [u1,u2,this,e1]
theorem ft_big {p0:Nq} {r:List Nq} {i:Nat} (hb:bigN (ftV (tmV ((p0 :: r).drop (i + 1)))).1 = true) (hne:tmV ((p0 :: r).drop (i + 1)) ≠ []):ftB (tmV r) = true:=by
 have h1:ftB (tmV ((p0 :: r).drop (i + 1))) = true:=by
  cases h:tmV ((p0 :: r).drop (i + 1)) with
  | nil => exact absurd h hne
  | cons t s => rw [h] at hb; show (ftB s || _) = true; rw [hb]; simp
 have e:tmV r = tmV (r.take i) ++ tmV (r.drop i):=by unfold tmV; rw [← List.map_append,List.take_append_drop]
 rw [e]
 exact ftB_app _ _ (by simpa using h1)
theorem ft_next {l:List Nat} {t:Nat} (h1:ftB l = false) (h2:bigN (ftV (t :: l)).1 = false):ftB (t :: l) = false:=by
 show (ftB l || _) = false
 rw [h1,h2]; rfl
theorem signR_lt {g:Bool} {x:List Nat}:decide (signR g x < 1) = (g || decide (x = [])):=by
 unfold signR
 cases g <;> by_cases h:x = [] <;> simp [h]

set_option maxRecDepth 100000 in
set_option maxHeartbeats 8000000 in
theorem rareTerms_any (a:Option Addr) (n c:Nat) (ps:List Nq) (w:World) (h:SlQ w a n c ps) :
  Calls Tryz.prog 41 #[.slice a n c] w fun e w' => e = .returned (.bool (tmQ ps)) ∧ Below w.heap.size w w':=by
 have H:=Hd h
 have HL:=Hd h.len
 by_cases h0:n = 0
 ·subst h0
  have HF:=Hd (show tmQ ps = false by rw [List.eq_nil_of_length_eq_zero h.len]; rfl)
  clear h
  go_enter Tryz.func41,Tryz.ntmps41
  go_wp2_with fail
  go_ret
  rw [Uh HF]
  exact ⟨rfl,Below.refl _ _⟩
 ·by_cases h1:1024 < n
  ·have HF:=Hd (tmQ_long (ps:=ps) (by rw [h.len]; exact h1))
   have t0:((n:Int) == 0) = false:=by simp; omega
   have t1:decide ((1024:Int) < (n:Int)) = true:=by simp; omega
   have t2:(1024:Int) < (n:Int):=by omega
   clear h
   go_enter Tryz.func41,Tryz.ntmps41
   go_wp2_with fail
   go_ret
   rw [Uh HF]
   exact ⟨rfl,Below.refl _ _⟩
  ·have t0:((n:Int) == 0) = false:=by simp; omega
   have t2:¬ (1024:Int) < (n:Int):=by omega
   have t1:decide ((1024:Int) < (n:Int)) = false:=decide_eq_false t2
   have hn1:n ≤ 1024:=by omega
   clear h
   go_enter Tryz.func41,Tryz.ntmps41
   go_wp2_with fail
   go_loopw [14,3] (fun iv _ wr => ∃ i:Nat,i ≤ n ∧ iv = .int .i64 (i:Nat) ∧ Hid (Below w.heap.size w wr) ∧ Hid (∀ j p,j < i → ps[j]? = some p → okT j p = true)) (fun iv _ _ => n - (intOf iv).toNat)
   case atStart => exact ⟨0,Nat.zero_le _,rfl,Below.refl _ _,fun j p hj => by omega⟩
   case round =>
    obtain ⟨i,hi,rfl,HB,HA⟩:=hrel
    by_cases hlt:i < n
    ·have hlt':(i:Int) < (n:Int):=by omega
     obtain ⟨b,off,p,rfl,hp,⟨c0,c1,c2⟩,⟨hs1,hs2⟩,o1,o2⟩:=((Uh H).below (Uh HB)).at' hlt
     have KO:=isOne_any p.b p.m p.d p.y wr hs2 o2
     have KS:=rsign_any p.g p.a p.b p.n p.c p.m p.d p.x wr hs1.len
     unfold ratV at KS
     have HP:=Hd hp
     have HKS:=Hd KS
     clear KS hs1 hs2 o1 o2 hp
     by_cases hy:p.y = [1]
     ·rw [decide_eq_true hy] at KO
      have HKO:=Hd KO
      have HY:=Hd hy
      clear KO hy
      by_cases hi0:i = 0
      ·have ti:¬ (0:Int) < (i:Int):=by omega
       have HA2:=Hd (show ∀ j q,j < i + 1 → ps[j]? = some q → okT j q = true from fun j q hj hq => by
        have hj0:j = i:=by omega
        subst hj0
        rw [Uh HP] at hq
        cases hq
        unfold okT
        rw [Uh HY]
        simp [hi0])
       clear HA HP hi0
       go_wp2_with fail
       refine (Uh HKO).mono ?_
       rintro _ _ ⟨rfl,hw⟩
       obtain rfl:=hw.symm
       clear hw
       go_wp2_with fail
       exact ⟨⟨i + 1,by omega,by go_num,Uh HB,Uh HA2⟩,by simp [intOf]; omega⟩
      ·have ti:(0:Int) < (i:Int):=by omega
       obtain ⟨SV,hSV⟩:∃ s,signR p.g p.x = s:=⟨_,rfl⟩
       have hsl:=signR_lt (g:=p.g) (x:=p.x)
       rw [hSV] at hsl HKS
       have HSL:=Hd hsl
       clear hsl hSV
       by_cases hs:SV < 1
       ·have ts:decide (SV < 1) = true:=decide_eq_true hs
        have HF:=Hd (tmQ_false (Uh HP) (show okT i p = false by
         unfold okT
         rw [Uh HY]
         have:=Uh HSL
         rw [ts] at this
         cases hg:p.g
         ·rw [hg] at this
          simp at this
          simp [hi0,← this]
         ·simp [hi0]))
        clear HA HP HSL hi0
        go_wp2_with fail
        refine (Uh HKO).mono ?_
        rintro _ _ ⟨rfl,hw⟩
        obtain rfl:=hw.symm
        clear hw
        go_wp2_with fail
        refine (Uh HKS).mono ?_
        rintro _ w2 ⟨rfl,b2⟩
        have HB2:=Hd ((Uh HB).trans (b2.mono (Uh HB).size))
        clear b2
        go_wp2_with fail
        go_ret
        rw [Uh HF]
        exact ⟨rfl,Uh HB2⟩
       ·have ts:decide (SV < 1) = false:=decide_eq_false hs
        have HA2:=Hd (show ∀ j q,j < i + 1 → ps[j]? = some q → okT j q = true from fun j q hj hq => by
         by_cases e:j = i
         ·subst e
          rw [Uh HP] at hq
          cases hq
          unfold okT
          rw [Uh HY]
          have:=Uh HSL
          rw [ts] at this
          simp at this
          simp [this.1,this.2]
         ·exact Uh HA j q (by omega) hq)
        clear HA HP HSL hi0
        go_wp2_with fail
        refine (Uh HKO).mono ?_
        rintro _ _ ⟨rfl,hw⟩
        obtain rfl:=hw.symm
        clear hw
        go_wp2_with fail
        refine (Uh HKS).mono ?_
        rintro _ w2 ⟨rfl,b2⟩
        have HB2:=Hd ((Uh HB).trans (b2.mono (Uh HB).size))
        clear b2
        go_wp2_with fail
        exact ⟨⟨i + 1,by omega,by go_num,Uh HB2,Uh HA2⟩,by simp [intOf]; omega⟩
     ·rw [decide_eq_false hy] at KO
      have HKO:=Hd KO
      have HF:=Hd (tmQ_false (Uh HP) (show okT i p = false by unfold okT; simp [hy]))
      clear KO HA HP hy
      go_wp2_with fail
      refine (Uh HKO).mono ?_
      rintro _ _ ⟨rfl,hw⟩
      obtain rfl:=hw.symm
      clear hw
      go_wp2_with fail
      go_ret
      rw [Uh HF]
      exact ⟨rfl,Uh HB⟩
    ·obtain rfl:i = n:=by omega
     have hlt':¬ (i:Int) < (i:Int):=by omega
     have HF:=Hd (tmQ_true (Uh HL) (by omega) hn1 (Uh HA))
     go_wp2_with fail
     go_ret
     rw [Uh HF]
     exact ⟨rfl,Uh HB⟩
end Go.Proofs.YtpbcnkcnjnefiaaGreatDoor
