/- Sa5 -/
import Derived.Test.YtcajmdfcanopnaaDoorSa0
import Derived.Test.YtcajmdfcanopnaaDoorSa4
namespace Go.Proofs.YtcajmdfcanopnaaDoor
open Go.RowKit Go.Deep
set_option linter.unusedVariables false
set_option maxRecDepth 100000 in
set_option maxHeartbeats 8000000 in
theorem sqMay_any (a:Option Addr) (n c:Nat) (ps:List Nq) (w:World) (h:SlQ w a n c ps) (hn:n ≤ 140737488355328) (hT:Tab64 w) :
  Calls Tryd.prog 16 #[.slice a n c] w fun e w' => e = .returned (.bool (mayQ ps)) ∧ Below w.heap.size w w':=by
 have H:=Hj h
 have HL:=Hj h.len
 have HT:=Hj hT
 clear h hT
 go_enter Tryd.func16,Tryd.ntmps16
 go_wp2_with fail
 go_loopw [7,4] (fun iv _ wr => ∃ i:Nat,i ≤ n ∧ iv = .int .i64 (i:Nat) ∧ Below w.heap.size w wr ∧ Hid (∀ j p,j < i → ps[j]? = some p → MayR p.g p.x p.y = true)) (fun iv _ _ => n - (intOf iv).toNat)
 case atStart => exact ⟨0,Nat.zero_le _,rfl,Below.refl _ _,fun j p hj => by omega⟩
 case round =>
  obtain ⟨i,hi,rfl,hbel,HA⟩:=hrel
  by_cases hlt:i < n
  ·have hlt':(i:Int) < (n:Int):=by omega
   obtain ⟨b,off,p,rfl,hp,⟨c0,c1,c2⟩,⟨hs1,hs2⟩,o1,o2⟩:=((Uh H).below hbel).at' hlt
   have ba:Below wr.heap.size wr (wr.alloc (.cells #[.bool p.g,.slice p.a p.n p.c,.slice p.b p.m p.d] 64)):=bAl
   have KM:=ratMay_any p.g p.a p.b p.n p.c p.m p.d p.x p.y (wr.alloc (.cells #[.bool p.g,.slice p.a p.n p.c,.slice p.b p.m p.d] 64)) (hs1.below ba) (hs2.below ba) o1 o2 ((Uh HT).below (hbel.trans (ba.mono hbel.size)))
   unfold ratV at KM
   have HP:=Hj hp
   have HB:=Hj (hbel.trans (ba.mono hbel.size))
   clear hp hbel hs1 hs2 o1 o2 ba
   cases hm:MayR p.g p.x p.y
   ·rw [hm] at KM
    have KM':=Hj KM
    have HF:=Hj (mayQ_false (Uh HP) hm)
    clear KM hm HA HP
    go_wp2_with fail
    refine (Uh KM').mono ?_
    rintro _ wk ⟨rfl,hw⟩
    have HW:=Hj ((Uh HB).trans (hw.mono (Uh HB).size))
    clear hw
    go_wp2_with fail
    go_ret
    rw [Uh HF]
    exact ⟨rfl,Uh HW⟩
   ·rw [hm] at KM
    have KM':=Hj KM
    have HA2:=Hj (show ∀ j q,j < i + 1 → ps[j]? = some q → MayR q.g q.x q.y = true from fun j q hj hq => by
     by_cases e:j = i
     ·subst e
      rw [Uh HP] at hq
      cases hq
      exact hm
     ·exact Uh HA j q (by omega) hq)
    clear KM hm HA HP
    go_wp2_with fail
    refine (Uh KM').mono ?_
    rintro _ wk ⟨rfl,hw⟩
    have HW:=Hj ((Uh HB).trans (hw.mono (Uh HB).size))
    clear hw
    go_wp2_with fail
    exact ⟨⟨i + 1,by omega,by go_num,Uh HW,Uh HA2⟩,by simp [intOf]; omega⟩
  ·obtain rfl:i = n:=by omega
   have hlt':¬ (i:Int) < (i:Int):=by omega
   have HF:=Hj (mayQ_true (Uh HL) (Uh HA))
   have HB:=Hj hbel
   clear HA hbel
   go_wp2_with fail
   go_ret
   rw [Uh HF]
   exact ⟨rfl,Uh HB⟩

set_option maxRecDepth 100000 in
set_option maxHeartbeats 8000000 in
theorem wqMay_any (a:Option Addr) (n c:Nat) (ps:List Nq) (w:World) (h:SlQ w a n c ps) (hn:n ≤ 140737488355328) :
  Calls Tryd.prog 18 #[.slice a n c] w fun e w' => e = .returned (.bool (mayQ ps)) ∧ Below w.heap.size w w':=by
 have H:=Hj h
 have HL:=Hj h.len
 clear h
 go_enter Tryd.func18,Tryd.ntmps18
 go_wp2_with fail
 go_loopw [3] (fun iv wr => ∃ i:Nat,i ≤ n ∧ iv = .int .i64 (i:Nat) ∧ Below w.heap.size w wr ∧ Hid (∀ j p,j < i → ps[j]? = some p → MayR p.g p.x p.y = true)) (fun iv _ => n - (intOf iv).toNat)
 case atStart => exact ⟨0,Nat.zero_le _,rfl,Below.refl _ _,fun j p hj => by omega⟩
 case round =>
  obtain ⟨i,hi,rfl,hbel,HA⟩:=hrel
  by_cases hlt:i < n
  ·have hlt':(i:Int) < (n:Int):=by omega
   obtain ⟨b,off,p,rfl,hp,⟨c0,c1,c2⟩,⟨hs1,hs2⟩,o1,o2⟩:=((Uh H).below hbel).at' hlt
   have KM:=wmay_any p.g p.a p.b p.n p.c p.m p.d p.x p.y wr hs1 hs2 o1 o2
   unfold ratV at KM
   have HP:=Hj hp
   have HB:=Hj hbel
   clear hp hbel hs1 hs2 o1 o2
   cases hm:MayR p.g p.x p.y
   ·rw [hm] at KM
    have KM':=Hj KM
    have HF:=Hj (mayQ_false (Uh HP) hm)
    clear KM hm HA HP
    go_wp2_with fail
    refine (Uh KM').mono ?_
    rintro _ wk ⟨rfl,hw⟩
    have HW:=Hj ((Uh HB).trans (hw.mono (Uh HB).size))
    clear hw
    go_wp2_with fail
    go_ret
    rw [Uh HF]
    exact ⟨rfl,Uh HW⟩
   ·rw [hm] at KM
    have KM':=Hj KM
    have HA2:=Hj (show ∀ j q,j < i + 1 → ps[j]? = some q → MayR q.g q.x q.y = true from fun j q hj hq => by
     by_cases e:j = i
     ·subst e
      rw [Uh HP] at hq
      cases hq
      exact hm
     ·exact Uh HA j q (by omega) hq)
    clear KM hm HA HP
    go_wp2_with fail
    refine (Uh KM').mono ?_
    rintro _ wk ⟨rfl,hw⟩
    have HW:=Hj ((Uh HB).trans (hw.mono (Uh HB).size))
    clear hw
    go_wp2_with fail
    exact ⟨⟨i + 1,by omega,by go_num,Uh HW,Uh HA2⟩,by simp [intOf]; omega⟩
  ·obtain rfl:i = n:=by omega
   have hlt':¬ (i:Int) < (i:Int):=by omega
   have HF:=Hj (mayQ_true (Uh HL) (Uh HA))
   have HB:=Hj hbel
   clear HA hbel
   go_wp2_with fail
   go_ret
   rw [Uh HF]
   exact ⟨rfl,Uh HB⟩
def matV (rows width:Int) (a1:Option Addr) (n1 c1:Nat) (a2:Option Addr) (n2 c2:Nat) (a3:Option Addr) (n3 c3:Nat):Value:=.agg #[.int .i64 rows,.int .i64 width,.slice a1 n1 c1,.slice a2 n2 c2,.slice a3 n3 c3]
structure MayM (rows width:Int) (st cols:List Int) (qs:List Nq):Prop where
 pat:MayP rows width st cols
 len:qs.length = cols.length
 nums:mayQ qs = true
set_option maxRecDepth 100000 in
set_option maxHeartbeats 16000000 in
theorem smatMay_any (rows width:Int) (a1 a2 a3:Option Addr) (n1 c1 n2 c2 n3 c3:Nat) (st cols:List Int) (qs:List Nq) (w:World) (h1:SlI w a1 n1 c1 st) (h2:SlI w a2 n2 c2 cols) (h3:SlQ w a3 n3 c3 qs) (hb1:n1 ≤ 17592186044416) (hb2:n2 ≤ 17592186044416) (hb3:n3 ≤ 140737488355328) (hT:Tab64 w) :
  Calls Tryd.prog 7 #[matV rows width a1 n1 c1 a2 n2 c2 a3 n3 c3] w fun e w' => BIs (MayM rows width st cols qs) w w' e:=by
 obtain ⟨wb,hwb⟩:∃ x,w.alloc (.cells #[.int .i64 rows,.int .i64 width,.slice a1 n1 c1,.slice a2 n2 c2,.slice a3 n3 c3] 27) = x:=⟨_,rfl⟩
 have bb:Below w.heap.size w wb:=by rw [← hwb]; exact bAl
 have hB:∀ q u,[Value.int .i64 rows,.int .i64 width,.slice a1 n1 c1,.slice a2 n2 c2,.slice a3 n3 c3][q]? = some u → wb.cell? ⟨w.heap.size,q,none⟩ = some u:=by
  intro q u hq
  rw [← hwb]
  have hq':#[Value.int .i64 rows,.int .i64 width,.slice a1 n1 c1,.slice a2 n2 c2,.slice a3 n3 c3][q]? = some u:=by simpa using hq
  simp [hq']
 have p0:=hB 0 _ rfl
 have p1:=hB 1 _ rfl
 have p2:=hB 2 _ rfl
 have p3:=hB 3 _ rfl
 have p4:=hB 4 _ rfl
 have KM:=Hj (smay_any rows width a1 a2 n1 c1 n2 c2 st cols wb (h1.below bb) (h2.below bb) hb1 hb2)
 have HS:=Hj (And.intro h3 (And.intro bb (And.intro h2.len h3.len)))
 have HT:=Hj hT
 have HP:=Hj (fun (W:World) (k:Below wb.heap.size wb W) => And.intro ((Chg.of_below k).cell (S:=fun _ => False) (fun x => x) p3) ((Chg.of_below k).cell (S:=fun _ => False) (fun x => x) p4))
 clear hB bb h1 h2 h3 hT
 unfold matV
 unfold patV at KM
 go_enter Tryd.func7,Tryd.ntmps7
 go_wp2_with fail
 refine (Uh KM).mono ?_
 rintro _ w2 ⟨⟨b,rfl,hb⟩,b2⟩
 obtain ⟨q3,q4⟩:=Uh HP w2 b2
 have HB:=Hj ((Uh HS).2.1.trans (b2.mono (Uh HS).2.1.size))
 clear b2 HP KM p0 p1 p2 p3 p4
 cases b
 ·have HN:=Hj (show ¬ MayM rows width st cols qs from fun z => absurd (hb.2 z.pat) (by decide))
  clear hb
  go_wp2_with fail
  go_ret
  exact BIs.no (Uh HN) (Uh HB)
 ·have HY:=Hj (hb.1 rfl)
  clear hb
  by_cases hl:n3 = n2
  ·subst hl
   have tl:((n3:Int) == (n3:Int)) = true:=by simp
   have KQ:=sqMay_any a3 n3 c3 qs w2 ((Uh HS).1.below (Uh HB)) hb3 ((Uh HT).below (Uh HB))
   obtain ⟨m,hm⟩:∃ m,mayQ qs = m:=⟨_,rfl⟩
   rw [hm] at KQ
   have HM:=Hj hm
   have HQ:=Hj KQ
   clear KQ hm
   go_wp2_with fail
   refine (Uh HQ).mono ?_
   rintro _ w3 ⟨rfl,b3⟩
   have HB3:=Hj ((Uh HB).trans (b3.mono (Uh HB).size))
   clear b3 HQ
   go_wp2_with fail
   go_ret
   have hmm:=Uh HM
   have hll:qs.length = cols.length:=by rw [(Uh HS).2.2.1,(Uh HS).2.2.2]
   cases m
   ·exact BIs.no (fun z => by rw [z.nums] at hmm; cases hmm) (Uh HB3)
   ·exact BIs.yes ⟨Uh HY,hll,hmm⟩ (Uh HB3)
  ·have tl:((n3:Int) == (n2:Int)) = false:=by simp; omega
   have HN:=Hj (show ¬ MayM rows width st cols qs from fun z => hl (by have:=z.len; rw [(Uh HS).2.2.1,(Uh HS).2.2.2] at this; exact this))
   clear hl
   go_wp2_with fail
   try (go_quiet (fail))
   all_goals (try go_wp2_with fail)
   go_ret
   exact BIs.no (Uh HN) (by first | exact Uh HB | exact bel_drewN (Uh HB) _ | exact (Uh HB).drew)
set_option maxRecDepth 100000 in
set_option maxHeartbeats 16000000 in
theorem wsmatMay_any (rows width:Int) (a1 a2 a3:Option Addr) (n1 c1 n2 c2 n3 c3:Nat) (st cols:List Int) (qs:List Nq) (w:World) (h1:SlI w a1 n1 c1 st) (h2:SlI w a2 n2 c2 cols) (h3:SlQ w a3 n3 c3 qs) (hb1:n1 ≤ 17592186044416) (hb2:n2 ≤ 17592186044416) (hb3:n3 ≤ 140737488355328)  :
  Calls Tryd.prog 9 #[matV rows width a1 n1 c1 a2 n2 c2 a3 n3 c3] w fun e w' => BIs (MayM rows width st cols qs) w w' e:=by
 obtain ⟨wb,hwb⟩:∃ x,w.alloc (.cells #[.int .i64 rows,.int .i64 width,.slice a1 n1 c1,.slice a2 n2 c2,.slice a3 n3 c3] 27) = x:=⟨_,rfl⟩
 have bb:Below w.heap.size w wb:=by rw [← hwb]; exact bAl
 have hB:∀ q u,[Value.int .i64 rows,.int .i64 width,.slice a1 n1 c1,.slice a2 n2 c2,.slice a3 n3 c3][q]? = some u → wb.cell? ⟨w.heap.size,q,none⟩ = some u:=by
  intro q u hq
  rw [← hwb]
  have hq':#[Value.int .i64 rows,.int .i64 width,.slice a1 n1 c1,.slice a2 n2 c2,.slice a3 n3 c3][q]? = some u:=by simpa using hq
  simp [hq']
 have p0:=hB 0 _ rfl
 have p1:=hB 1 _ rfl
 have p2:=hB 2 _ rfl
 have p3:=hB 3 _ rfl
 have p4:=hB 4 _ rfl
 have KM:=Hj (wsmay_any rows width a1 a2 n1 c1 n2 c2 st cols wb (h1.below bb) (h2.below bb) hb1 hb2)
 have HS:=Hj (And.intro h3 (And.intro bb (And.intro h2.len h3.len)))
 have HP:=Hj (fun (W:World) (k:Below wb.heap.size wb W) => And.intro ((Chg.of_below k).cell (S:=fun _ => False) (fun x => x) p3) ((Chg.of_below k).cell (S:=fun _ => False) (fun x => x) p4))
 clear hB bb h1 h2 h3 
 unfold matV
 unfold patV at KM
 go_enter Tryd.func9,Tryd.ntmps9
 go_wp2_with fail
 refine (Uh KM).mono ?_
 rintro _ w2 ⟨⟨b,rfl,hb⟩,b2⟩
 obtain ⟨q3,q4⟩:=Uh HP w2 b2
 have HB:=Hj ((Uh HS).2.1.trans (b2.mono (Uh HS).2.1.size))
 clear b2 HP KM p0 p1 p2 p3 p4
 cases b
 ·have HN:=Hj (show ¬ MayM rows width st cols qs from fun z => absurd (hb.2 z.pat) (by decide))
  clear hb
  go_wp2_with fail
  go_ret
  exact BIs.no (Uh HN) (Uh HB)
 ·have HY:=Hj (hb.1 rfl)
  clear hb
  by_cases hl:n3 = n2
  ·subst hl
   have tl:((n3:Int) == (n3:Int)) = true:=by simp
   have KQ:=wqMay_any a3 n3 c3 qs w2 ((Uh HS).1.below (Uh HB)) hb3
   obtain ⟨m,hm⟩:∃ m,mayQ qs = m:=⟨_,rfl⟩
   rw [hm] at KQ
   have HM:=Hj hm
   have HQ:=Hj KQ
   clear KQ hm
   go_wp2_with fail
   refine (Uh HQ).mono ?_
   rintro _ w3 ⟨rfl,b3⟩
   have HB3:=Hj ((Uh HB).trans (b3.mono (Uh HB).size))
   clear b3 HQ
   go_wp2_with fail
   go_ret
   have hmm:=Uh HM
   have hll:qs.length = cols.length:=by rw [(Uh HS).2.2.1,(Uh HS).2.2.2]
   cases m
   ·exact BIs.no (fun z => by rw [z.nums] at hmm; cases hmm) (Uh HB3)
   ·exact BIs.yes ⟨Uh HY,hll,hmm⟩ (Uh HB3)
  ·have tl:((n3:Int) == (n2:Int)) = false:=by simp; omega
   have HN:=Hj (show ¬ MayM rows width st cols qs from fun z => hl (by have:=z.len; rw [(Uh HS).2.2.1,(Uh HS).2.2.2] at this; exact this))
   clear hl
   go_wp2_with fail
   try (go_quiet (fail))
   all_goals (try go_wp2_with fail)
   go_ret
   exact BIs.no (Uh HN) (by first | exact Uh HB | exact bel_drewN (Uh HB) _ | exact (Uh HB).drew)
end Go.Proofs.YtcajmdfcanopnaaDoor
