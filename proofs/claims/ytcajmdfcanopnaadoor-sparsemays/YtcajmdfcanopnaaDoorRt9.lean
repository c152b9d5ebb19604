/- Rv5 -/
import Derived.Test.YtcajmdfcanopnaaDoorRv3
import Derived.Test.YtcajmdfcanopnaaDoorRt4
namespace Go.Proofs.YtcajmdfcanopnaaDoor
open Go.RowKit Go.Deep
set_option linter.unusedVariables false
theorem mark1_any (w:World):Calls Tryd.prog 44 #[.int .i64 1,.int .i64 1] w fun e w' => e = .returned (.int .i64 200014) ∧ w' = w:=by
 go_enter Tryd.func44,Tryd.ntmps44
 go_wp2
 go_ret
 exact ⟨rfl,rfl⟩
theorem mark2_any (w:World):Calls Tryd.prog 44 #[.int .i64 2,.int .i64 2] w fun e w' => e = .returned (.int .i64 300024) ∧ w' = w:=by
 go_enter Tryd.func44,Tryd.ntmps44
 go_wp2
 go_ret
 exact ⟨rfl,rfl⟩
theorem mark3_any (w:World):Calls Tryd.prog 44 #[.int .i64 3,.int .i64 3] w fun e w' => e = .returned (.int .i64 400034) ∧ w' = w:=by
 go_enter Tryd.func44,Tryd.ntmps44
 go_wp2
 go_ret
 exact ⟨rfl,rfl⟩
theorem rat_made (w:World) (x:Nat) (xi:Int) (hx:xi = (x:Int)) (o:Obj):NewR w ((w.alloc o).alloc (.cells #[.int .u32 xi] 68)) false [x] [] (ratV false (some ⟨w.heap.size + 1,0,none⟩) 1 1 none 0 0):=by
 have hblk:((w.alloc o).alloc (.cells #[.int .u32 xi] 68)).heap[w.heap.size + 1]? = some (.cells #[.int .u32 xi] 68):=by
  have:=alloc_block (w.alloc o) (.cells #[.int .u32 xi] 68)
  simpa using this
 refine ⟨_,_,_,_,_,_,rfl,⟨rfl,Nat.le_refl _,by unfold maxLen; omega,.inr ⟨_,_,rfl,cells_of_block hblk ?_⟩⟩,sl_nil _,?_,?_,?_⟩
 ·intro i hi
  have:i = 0:=by simp at hi; omega
  subst this
  simp [hx]
 ·intro z hz
  cases hz
  show w.heap.size ≤ w.heap.size + 1
  omega
 ·intro z hz
  cases hz
 ·exact (bAl).alloc (by simp) _
set_option maxRecDepth 100000 in
set_option maxHeartbeats 8000000 in
theorem rat1_any (w:World):Calls Tryd.prog 31 #[.int .i64 1,.int .i64 1] w fun e w' => ∃ v,e = .returned v ∧ NewR w w' false [200014] [] v:=by
 have K:=Hj mark1_any
 go_enter Tryd.func31,Tryd.ntmps31
 go_wp2_with fail
 refine (Uh K _).mono ?_
 rintro _ w1 ⟨rfl,rfl⟩
 go_wp2_with fail
 refine bodyPost_ret (by simp [results,Tryd.results31,go_sem]; try rfl) rfl ?_
 exact ⟨_,rfl,rat_made w 200014 200014 rfl _⟩
set_option maxRecDepth 100000 in
set_option maxHeartbeats 8000000 in
theorem rat2_any (w:World):Calls Tryd.prog 31 #[.int .i64 2,.int .i64 2] w fun e w' => ∃ v,e = .returned v ∧ NewR w w' false [300024] [] v:=by
 have K:=Hj mark2_any
 go_enter Tryd.func31,Tryd.ntmps31
 go_wp2_with fail
 refine (Uh K _).mono ?_
 rintro _ w1 ⟨rfl,rfl⟩
 go_wp2_with fail
 refine bodyPost_ret (by simp [results,Tryd.results31,go_sem]; try rfl) rfl ?_
 exact ⟨_,rfl,rat_made w 300024 300024 rfl _⟩
set_option maxRecDepth 100000 in
set_option maxHeartbeats 8000000 in
theorem rat3_any (w:World):Calls Tryd.prog 31 #[.int .i64 3,.int .i64 3] w fun e w' => ∃ v,e = .returned v ∧ NewR w w' false [400034] [] v:=by
 have K:=Hj mark3_any
 go_enter Tryd.func31,Tryd.ntmps31
 go_wp2_with fail
 refine (Uh K _).mono ?_
 rintro _ w1 ⟨rfl,rfl⟩
 go_wp2_with fail
 refine bodyPost_ret (by simp [results,Tryd.results31,go_sem]; try rfl) rfl ?_
 exact ⟨_,rfl,rat_made w 400034 400034 rfl _⟩
theorem Tryd.info_rat:(Tryd.prog.info? 64).map (fun i => (i.zero,i.size,i.bytes)) = some (some (.agg #[.bool false,.slice none 0 0,.slice none 0 0]),3,56):=by kernel_rfl
theorem make_rats (n:Nat) (hn:n ≤ 2513169434900) (w:World):(Instr.makeSlice 25 (.int .i64 (n:Int)) (.int .i64 ((n:Int) + 3))).run Tryd.prog w = .ok (.slice (some ⟨w.heap.size,0,none⟩) n (n + 3)) (w.alloc (.cells (madeCells #[.bool false,.slice none 0 0,.slice none 0 0] ((n + 3) * 3)) 64)):=by
 obtain ⟨i,hi,hzz⟩:=Option.map_eq_some_iff.1 Tryd.info_rat
 simp only [Prod.mk.injEq] at hzz
 obtain ⟨hz,hs,hb⟩:=hzz
 have hr:=run_make (P:=Tryd.prog) w 25 64 i _ Tryd.underlying25 hi hz .i64 .i64 n ((n:Int) + 3) (by omega) (by omega) (by rw [hb]; omega) (by omega)
 rw [hs,show ((n:Int) + 3).toNat = n + 3 from by omega,show ((n:Int)).toNat = n from by omega] at hr
 exact hr
theorem made_first (n:Nat):∃ b,(madeCells #[.bool false,.slice none 0 0,.slice none 0 0] ((n + 3) * 3))[0]? = some (.bool b):=⟨false,by simp [madeCells]⟩
theorem FilQ.made (w:World) (n:Nat):FilQ (w.alloc (.cells (madeCells #[.bool false,.slice none 0 0,.slice none 0 0] ((n + 3) * 3)) 64)) w.heap.size (n + 3) [] :=
 FilQ.begin w (n + 3) _ (size_madeCells _ _) (made_first n)

structure CpQ (w wr:World) (n k:Nat) (ps qs:List Nq):Prop where
 fil:FilQ wr w.heap.size (n + 3) qs
 len:qs.length = k
 con:qs.map conQ = (ps.take k).map conQ
 far:FarQ (fun j => j ≤ w.heap.size) qs
 bel:Below w.heap.size w wr
theorem CpQ.next {w wr wk:World} {n k:Nat} {ps qs:List Nq} (h:CpQ w wr n k ps qs) (hk:k < n) {p:Nq} (hp:ps[k]? = some p) (ho:Ok p.x ∧ Ok p.y) {a1 a2:Option Addr} {m1 c1 m2 c2:Nat}
  (hN:Sl wk a1 m1 c1 p.x ∧ Sl wk a2 m2 c2 p.y ∧ NewAt wr.heap.size a1 ∧ NewAt wr.heap.size a2 ∧ Below wr.heap.size wr wk) :
  CpQ w (((wk.setCell ⟨w.heap.size,k * 3,none⟩ (.bool p.g)).setCell ⟨w.heap.size,k * 3 + 1,none⟩ (.slice a1 m1 c1)).setCell ⟨w.heap.size,k * 3 + 2,none⟩ (.slice a2 m2 c2)) n (k + 1) ps (qs ++ [⟨p.g,a1,m1,c1,p.x,a2,m2,c2,p.y⟩]):=by
 obtain ⟨s1,s2,n1,n2,b⟩:=hN
 have hlt:=h.fil.lt
 have hlen:=h.len
 have hfar:FarQ (fun j => j ≤ w.heap.size) (qs ++ [⟨p.g,a1,m1,c1,p.x,a2,m2,c2,p.y⟩]):=by
  intro q hq
  rcases List.mem_append.1 hq with e | e
  ·exact h.far q e
  ·obtain rfl:=List.mem_singleton.1 e
   exact ⟨fun z hz _ hl => by have:=n1 z hz; omega,fun z hz _ hl => by have:=n2 z hz; omega⟩
 obtain ⟨f1,f2⟩:=(h.fil.below b).next (by omega) ⟨p.g,a1,m1,c1,p.x,a2,m2,c2,p.y⟩ ⟨⟨s1,s2⟩,ho⟩ (fun q hq => ⟨fun z hz hne e => (hfar q hq).1 z hz hne (Nat.le_of_eq e),fun z hz hne e => (hfar q hq).2 z hz hne (Nat.le_of_eq e)⟩) h.len
 have hb:=h.bel.trans (b.mono h.bel.size)
 refine ⟨f1,by simp [h.len],?_,hfar,hb.trans (f2.below hb.size (fun j hj e => by omega))⟩
 rw [List.map_append,h.con,List.take_add_one,hp]
 simp [conQ]

set_option maxRecDepth 100000 in
set_option maxHeartbeats 8000000 in
theorem copyRats_any (a:Option Addr) (n c:Nat) (ps:List Nq) (w:World) (h:SlQ w a n c ps) (hn:n ≤ 2513169434900) (hz:∀ p ∈ ps,p.n ≤ 35184372088000 ∧ p.m ≤ 35184372088000) :
  Calls Tryd.prog 32 #[.slice a n c] w fun e w' => e = .returned (.slice (some ⟨w.heap.size,0,none⟩) n (n + 3)) ∧ ∃ qs,CpQ w w' n n ps qs:=by
 have hmk:=make_rats n hn
 have H:=Hj h
 have HZ:=Hj hz
 clear h hz
 go_enter Tryd.func32,Tryd.ntmps32
 go_wp2_with fail
 go_loopw [4] (fun i wr => ∃ k:Nat,k ≤ n ∧ i = .int .i64 k ∧ ∃ qs,Hid (CpQ w wr n k ps qs)) (fun i _ => n - (intOf i).toNat)
 case atStart => exact ⟨0,Nat.zero_le _,rfl,[],⟨FilQ.made w n,rfl,by simp,(fun q hq => by cases hq),bAl⟩⟩
 case round =>
  obtain ⟨k,hk,rfl,qs,HC⟩:=hrel
  by_cases hlt:k < n
  ·have hlt':(k:Int) < (n:Int):=by omega
   obtain ⟨b,off,p,rfl,hp,⟨c0,c1,c2⟩,⟨hs1,hs2⟩,o1,o2⟩:=((Uh H).below (Uh HC).bel).at' hlt
   have KC:=copyRat_any p.g p.a p.b p.n p.c p.m p.d p.x p.y wr hs1 hs2 (Uh HZ p (List.mem_of_getElem? hp)).1 (Uh HZ p (List.mem_of_getElem? hp)).2
   unfold ratV at KC
   have KC':=Hj KC
   have HN:=Hj (fun (wk:World) (a1 a2:Option Addr) (m1 c1 m2 c2:Nat) (hN:Sl wk a1 m1 c1 p.x ∧ Sl wk a2 m2 c2 p.y ∧ NewAt wr.heap.size a1 ∧ NewAt wr.heap.size a2 ∧ Below wr.heap.size wr wk) => (Uh HC).next hlt hp ⟨o1,o2⟩ hN)
   have HCell:=Hj (fun (wk:World) (hb:Below wr.heap.size wr wk) (j:Nat) (hj:j < (n + 3) * 3) => ((Uh HC).fil.below hb).cellsAt hj)
   clear KC hs1 hs2 o1 o2 hp
   go_wp2_with fail
   refine (Uh KC').mono ?_
   rintro _ wk ⟨v,rfl,a1,m1,d1,a2,m2,d2,rfl,s1,s2,n1,n2,b1⟩
   unfold ratV
   have hk0:=Uh HCell wk b1 (k * 3) (by omega)
   have hk1:=Uh HCell wk b1 (k * 3 + 1) (by omega)
   have hk2:=Uh HCell wk b1 (k * 3 + 2) (by omega)
   obtain ⟨⟨x0,q0⟩,r0⟩:=hk0
   obtain ⟨⟨x1,q1⟩,r1⟩:=hk1
   obtain ⟨⟨x2,q2⟩,r2⟩:=hk2
   have HF:=Hj (Uh HN wk a1 a2 m1 d1 m2 d2 ⟨s1,s2,n1,n2,b1⟩)
   clear s1 s2 n1 n2 b1 HCell HN KC' c0 c1 c2
   go_wp2_with fail
   exact ⟨⟨k + 1,by omega,by go_num,_,Uh HF⟩,by simp [intOf]; omega⟩
  ·obtain rfl:k = n:=by omega
   have hlt':¬ (k:Int) < (k:Int):=by omega
   go_wp2_with fail
   go_ret
   exact ⟨rfl,qs,Uh HC⟩
structure RtQ (w wr:World) (B:Nat) (v0 v1 v0' v1':Value) (es fs:List Ent) (rs:Nat → Value) (A N k:Nat) (ps qs:List Nq):Prop where
 giv:GivR wr B v0' v1' (es ++ fs) rs
 new:∀ e ∈ fs,w.heap.size ≤ e.b ∧ w.heap.size ≤ e.b0
 cnt:fs.length = 2 * k
 chg:Chg (Own B v0 v1) w wr
 safe:∀ j,j < w.heap.size → ¬ Own B v0 v1 j → ¬ Own B v0' v1' j
 fil:FilQ wr A N qs
 len:qs.length = k
 con:qs.map conQ = (ps.take k).map conQ
 far:FarQ (Own B v0' v1') qs
 farA:FarQ (fun j => j = A) qs
 farW:FarQ (fun j => j < w.heap.size) qs
 nA:¬ Own B v0' v1' A
 sz:∀ p ∈ qs,p.n ≤ 35184372088000 ∧ p.m ≤ 35184372088000

theorem RtQ.next {w wr wk:World} {B:Nat} {v0 v1 v0' v1' v2 v3:Value} {es fs:List Ent} {rs:Nat → Value} {A N k:Nat} {ps qs:List Nq} (h:RtQ w wr B v0 v1 v0' v1' es fs rs A N k ps qs) (hA:w.heap.size ≤ A) (hk:k < N) {p:Nq} (hp:ps[k]? = some p) (ho:Ok p.x ∧ Ok p.y) (hl:p.x.length = p.n ∧ p.y.length = p.m) (hsz:p.n ≤ 35184372088000 ∧ p.m ≤ 35184372088000) {E1 E2:Ent}
  (hP:GrPost wr wk B v0' v1' v2 v3 (es ++ fs) rs p.x p.y E1 E2) :
  RtQ w (((wk.setCell ⟨A,k * 3,none⟩ (.bool p.g)).setCell ⟨A,k * 3 + 1,none⟩ (.slice (some ⟨E1.b,0,none⟩) p.n E1.c)).setCell ⟨A,k * 3 + 2,none⟩ (.slice (some ⟨E2.b,0,none⟩) p.m E2.c)) B v0 v1 v2 v3 es (fs ++ [E1] ++ [E2]) rs A N (k + 1) ps (qs ++ [⟨p.g,some ⟨E1.b,0,none⟩,p.n,E1.c,p.x,some ⟨E2.b,0,none⟩,p.m,E2.c,p.y⟩]):=by
 have G:=hP.giv
 have e1:=G.ents E1 (by simp)
 have e2:=G.ents E2 (by simp)
 have hlt:=h.fil.lt
 have fk:=h.fil.chg hP.chg h.nA h.far
 obtain ⟨b,hR⟩:=fk.first
 have s1:Sl wk (some ⟨E1.b,0,none⟩) p.n E1.c p.x:=by
  have:=e1.sl.pre (n:=p.n) (by rw [hP.x1]; exact hl.1) (by rfl)
  rw [hP.x1] at this
  exact this
 have s2:Sl wk (some ⟨E2.b,0,none⟩) p.m E2.c p.y:=by
  have:=e2.sl.pre (n:=p.m) (by rw [hP.x2]; exact hl.2) (by rfl)
  rw [hP.x2] at this
  exact this
 have nA2:=hP.safe A hlt h.nA
 have hz:=h.chg.size
 have hz2:=hP.n1
 have hz3:=hP.n2
 have farA:FarQ (fun j => j = A) (qs ++ [⟨p.g,some ⟨E1.b,0,none⟩,p.n,E1.c,p.x,some ⟨E2.b,0,none⟩,p.m,E2.c,p.y⟩]):=by
  intro q hq
  rcases List.mem_append.1 hq with e | e
  ·exact h.farA q e
  ·obtain rfl:=List.mem_singleton.1 e
   exact ⟨fun z hz _ => by cases hz; exact (e1.ne hR).1,fun z hz _ => by cases hz; exact (e2.ne hR).1⟩
 obtain ⟨f1,f2⟩:=fk.next (by have:=h.len; omega) ⟨p.g,some ⟨E1.b,0,none⟩,p.n,E1.c,p.x,some ⟨E2.b,0,none⟩,p.m,E2.c,p.y⟩ ⟨⟨s1,s2⟩,ho⟩ farA h.len
 refine ⟨?_,?_,?_,(h.chg.then' hP.chg h.safe).then' f2 (fun j hj _ e => by omega),fun j hj hn => hP.safe j (by omega) (h.safe j hj hn),f1,by simp [h.len],?_,?_,farA,?_,nA2,?_⟩
 ·have:=G.setR hR f2 nA2
  simpa [List.append_assoc] using this
 ·intro e he
  rcases List.mem_append.1 he with he | he
  ·rcases List.mem_append.1 he with he | he
   ·exact h.new e he
   ·obtain rfl:=List.mem_singleton.1 he
    exact ⟨by omega,by omega⟩
  ·obtain rfl:=List.mem_singleton.1 he
   exact ⟨by omega,by omega⟩
 ·have:=h.cnt
  simp
  omega
 ·rw [List.map_append,h.con,List.take_add_one,hp]
  simp [conQ]
 ·intro q hq
  rcases List.mem_append.1 hq with e | e
  ·exact (h.far.mono h.fil hP.safe) q e
  ·obtain rfl:=List.mem_singleton.1 e
   exact ⟨fun z hz _ => by cases hz; exact e1.s,fun z hz _ => by cases hz; exact e2.s⟩
 ·intro q hq
  rcases List.mem_append.1 hq with e | e
  ·exact h.farW q e
  ·obtain rfl:=List.mem_singleton.1 e
   exact ⟨fun z hz _ => by cases hz; show ¬ E1.b < w.heap.size; omega,fun z hz _ => by cases hz; show ¬ E2.b < w.heap.size; omega⟩
 ·intro q hq
  rcases List.mem_append.1 hq with e | e
  ·exact h.sz q e
  ·obtain rfl:=List.mem_singleton.1 e
   exact hsz

theorem RtQ.begin {w:World} {B:Nat} {v0 v1:Value} {es:List Ent} {rs:Nat → Value} (h:GivR w B v0 v1 es rs) (n:Nat) (ps:List Nq):RtQ w (w.alloc (.cells (madeCells #[.bool false,.slice none 0 0,.slice none 0 0] ((n + 3) * 3)) 64)) B v0 v1 v0 v1 es [] rs w.heap.size (n + 3) 0 ps []:=by
 refine ⟨?_,(fun e he => by cases he),rfl,Chg.of_alloc _ _,(fun j _ h => h),FilQ.made w n,rfl,(by simp),(fun q hq => by cases hq),(fun q hq => by cases hq),(fun q hq => by cases hq),(fun ho => by have:=h.own_lt ho; omega),(fun q hq => by cases hq)⟩
 have:=h.below ((Below.refl _ _).alloc (Nat.le_refl _) (.cells (madeCells #[.bool false,.slice none 0 0,.slice none 0 0] ((n + 3) * 3)) 64))
 simpa using this

structure RtE (rt:Nat → Value) (w w4:World) (B:Nat) (v0' v1' u0 u1:Value) (es':List Ent) (qs:List Qn) (w0:World) (A N n:Nat) (ps rs:List Nq):Prop where
 law:LawQ rt w4 B v0' v1' u0 u1 es' qs w0
 fil:FilQ w4 A N rs
 len:rs.length = n + 3
 le:n + 3 ≤ N
 con:(rs.take n).map conQ = ps.map conQ
 nA:¬ Own4 B v0' v1' u0 u1 A
 far:FarQ (Own4 B v0' v1' u0 u1) rs
 sz:∀ p ∈ rs,p.n ≤ 35184372088000 ∧ p.m ≤ 35184372088000

theorem RtQ.marks {rt:Nat → Value} {w wr w3 w4 w0:World} {B:Nat} {v0 v1 v0' v1' u0 u1:Value} {es fs:List Ent} {qs:List Qn} {n:Nat} {ps qq:List Nq} {o:Obj} (hL:LawQ rt w B v0 v1 u0 u1 es qs w0) (h:RtQ w wr B v0 v1 v0' v1' es fs (rsQ rt u0 u1) w.heap.size (n + 3) n ps qq) (hps:ps.length = n)
  (hb:Below wr.heap.size wr w3) (ms:List Nq) (hml:ms.length = 3) (hms:∀ p ∈ ms,((Sl w3 p.a p.n p.c p.x ∧ Sl w3 p.b p.m p.d p.y) ∧ Ok p.x ∧ Ok p.y) ∧ (NewAt wr.heap.size p.a ∧ NewAt wr.heap.size p.b) ∧ p.n ≤ 35184372088000 ∧ p.m ≤ 35184372088000)
  (hown:w4.ownsRow w.heap.size 64 3 (.slice (some ⟨w.heap.size,0,none⟩) (n + 3) (n + 3)) (n + 3) (celQ qq ++ celQ ms)) (hgrow:(w3.alloc o).grownBy w4 (some w.heap.size)) :
  RtE rt w w4 B v0' v1' u0 u1 (es ++ fs) qs w0 w.heap.size (n + 3) n ps (qq ++ ms):=by
 have L1:=hL.grow h.giv h.chg h.safe h.new
 have hlt:=h.fil.lt
 have b3:Below wr.heap.size wr (w3.alloc o):=hb.alloc hb.size o
 have f3:=h.fil.below b3
 have L3:=L1.below b3
 have k4:Chg (fun j => j = w.heap.size) (w3.alloc o) w4:=.of_grown hgrow (fun k hk => (Option.some.inj hk).symm)
 have farA:FarQ (fun j => j = w.heap.size) (qq ++ ms):=by
  intro q hq
  rcases List.mem_append.1 hq with e | e
  ·exact h.farA q e
  ·exact ⟨fun z hz _ e2 => by have:=(hms q e).2.1.1 z hz; omega,fun z hz _ e2 => by have:=(hms q e).2.1.2 z hz; omega⟩
 have each:∀ p ∈ qq ++ ms,(Sl w4 p.a p.n p.c p.x ∧ Sl w4 p.b p.m p.d p.y) ∧ Ok p.x ∧ Ok p.y:=by
  intro p hp
  have base:(Sl (w3.alloc o) p.a p.n p.c p.x ∧ Sl (w3.alloc o) p.b p.m p.d p.y) ∧ Ok p.x ∧ Ok p.y:=by
   rcases List.mem_append.1 hp with e | e
   ·exact f3.each p e
   ·have m:=(hms p e).1
    have al:Below w3.heap.size w3 (w3.alloc o):=(Below.refl _ _).alloc (Nat.le_refl _) o
    exact ⟨⟨m.1.1.below al,m.1.2.below al⟩,m.2⟩
  exact ⟨⟨base.1.1.chg k4 (farA p hp).1,base.1.2.chg k4 (farA p hp).2⟩,base.2⟩
 have o8:=own_ge hL.own8
 have o9:=own_ge hL.own9
 have nA4:¬ Own4 B v0' v1' u0 u1 w.heap.size:=by
  rintro (e | e | e)
  ·exact h.nA e
  ·have:=(o8 _ e).2; omega
  ·have:=(o9 _ e).2; omega
 refine ⟨?_,FilQ.of_own (by rw [celQ_app]; exact hown) (by intro e; have:=congrArg List.length e; simp [hml] at this) each,by simp [h.len,hml],Nat.le_refl _,?_,nA4,?_,?_⟩
 ·refine L3.setA f3 k4 (by have:=hL.base; have:=hL.sizeB; omega) nA4 ?_
  intro q hq
  have Q:=hL.qents q hq
  have ne:∀ {j:Nat},j < w.heap.size → j ≠ w.heap.size:=fun hj => by omega
  refine ⟨⟨ne Q.f.lt,ne Q.f0.lt⟩,fun p hp => ⟨fun z hz hne => ne ((Q.f.each p hp).1.1.block_lt hne z hz),fun z hz hne => ne ((Q.f.each p hp).1.2.block_lt hne z hz)⟩,fun p hp => ⟨fun z hz hne => ne ((Q.f0.each p hp).1.1.block_lt hne z hz),fun z hz hne => ne ((Q.f0.each p hp).1.2.block_lt hne z hz)⟩⟩
 ·rw [List.take_append_of_le_length (by have:=h.len; omega),List.take_of_length_le (by have:=h.len; omega),h.con,List.take_of_length_le (by omega)]
 ·intro q hq
  rcases List.mem_append.1 hq with e | e
  ·have hf:=h.far q e
   have hw:=h.farW q e
   refine ⟨fun z hz hne => ?_,fun z hz hne => ?_⟩
   ·rintro (e1 | e1 | e1)
    ·exact hf.1 z hz hne e1
    ·exact hw.1 z hz hne (o8 _ e1).2
    ·exact hw.1 z hz hne (o9 _ e1).2
   ·rintro (e1 | e1 | e1)
    ·exact hf.2 z hz hne e1
    ·exact hw.2 z hz hne (o8 _ e1).2
    ·exact hw.2 z hz hne (o9 _ e1).2
  ·refine ⟨fun z hz hne e1 => ?_,fun z hz hne e1 => ?_⟩
   ·have:=L1.own_lt e1
    have:=(hms q e).2.1.1 z hz
    omega
   ·have:=L1.own_lt e1
    have:=(hms q e).2.1.2 z hz
    omega
 ·intro q hq
  rcases List.mem_append.1 hq with e | e
  ·exact h.sz q e
  ·exact (hms q e).2.2
theorem after_copyQ {W w5:World} {B n:Nat} {v1:Value} {xs:List Value} (q7:B < W.heap.size) (q5:W.cell? ⟨B,9,none⟩ = some v1) (q6:W.frozen? ⟨B,9,none⟩ = false) (ho:W.ownsRow (B + 1) 25 1 v1 n xs)
  (hb:Below W.heap.size W.drew w5):w5.ownsRow (B + 1) 25 1 v1 n xs ∧ w5.cell? ⟨B,9,none⟩ = some v1 ∧ w5.frozen? ⟨B,9,none⟩ = false ∧ B < w5.heap.size:=by
 have hb':Below W.heap.size W w5:=(Below.drew (Below.refl _ _)).trans hb
 exact ⟨ownsRow_chg ho (.of_below (S:=fun _ => False) hb') (fun _ _ => id),(hb'.cell q7).trans q5,(hb'.frozen q7).trans q6,Nat.lt_of_lt_of_le q7 hb'.size⟩
theorem after_appendQ {w5 w6:World} {B n:Nat} {v1:Value} {xs:List Value} {o:Obj} (q7:B < w5.heap.size) (q5:w5.cell? ⟨B,9,none⟩ = some v1) (q6:w5.frozen? ⟨B,9,none⟩ = false) (ho:w5.ownsRow (B + 1) 25 1 v1 n xs)
  (hg:(w5.alloc o).grownBy w6 v1.ownBlock):w6.cell? ⟨B,9,none⟩ = some v1 ∧ w6.frozen? ⟨B,9,none⟩ = false:=by
 have n0:some B ≠ v1.ownBlock:=fun e => by have:=(own_ge ho B e.symm).1; omega
 have r1:=grown_frozen hg (b:=B) (i:=9) (by simp; omega) n0
 exact ⟨by rw [r1.1,World.cell?_alloc_lt _ _ _ (by exact q7)]; exact q5,by rw [r1.2,World.frozen?_alloc_old _ _ _ (by simp; omega)]; exact q6⟩
theorem RtE.mid {rt:Nat → Value} {w w4 w5 W w0:World} {B:Nat} {v0' v1' u0 u1:Value} {es':List Ent} {qs:List Qn} {A N n g2 c2:Nat} {ps rs:List Nq} {o:Obj} (h:RtE rt w w4 B v0' v1' u0 u1 es' qs w0 A N n ps rs) (hg:(w4.alloc o).grownBy w5 u0.ownBlock)
  (HW:w5.setCell ⟨B,8,none⟩ (.slice (some ⟨g2,0,none⟩) (qs.length + 1) c2) = W) :
  (SlQ W (some ⟨A,0,none⟩) (n + 3) N rs ∧ W.ownsRow (B + 1) 25 1 u1 qs.length (qs.map Qn.v0)) ∧ W.cell? ⟨B,9,none⟩ = some u1 ∧ W.frozen? ⟨B,9,none⟩ = false ∧ B < W.heap.size:=by
 have o8:=own_ge h.law.own8
 have o9:=own_ge h.law.own9
 have kA:Chg (fun k => k = B ∨ u0.ownBlock = some k) w4 W:=by
  rw [← HW]
  exact ((Chg.of_alloc w4 o).trans (.of_grown hg (fun k hk => .inr hk))).trans (.of_set w5 B 8 _ (.inl rfl))
 have hn:∀ k,k < w4.heap.size → ¬ Own4 B v0' v1' u0 u1 k → ¬ (k = B ∨ u0.ownBlock = some k):=by
  rintro k _ hk (e | e)
  ·exact hk (.inl (.inl e))
  ·exact hk (.inr (.inl e))
 obtain ⟨⟨p8,p9⟩,f8,f9,hB⟩:=h.law.cells
 have nB:some B ≠ u0.ownBlock:=fun e => by have:=(o8 B e.symm).1; omega
 have r1:=grown_frozen hg (b:=B) (i:=9) (by simp; omega) nB
 have c5:w5.cell? ⟨B,9,none⟩ = some u1:=by rw [r1.1,World.cell?_alloc_lt _ _ _ (by exact hB)]; exact p9
 have g5:w5.frozen? ⟨B,9,none⟩ = false:=by rw [r1.2,World.frozen?_alloc_old _ _ _ (by simp; omega)]; exact f9
 refine ⟨⟨(h.fil.chg kA (hn _ h.fil.lt h.nA) (h.far.mono h.fil hn)).sl h.len h.le,ownsRow_chg h.law.own9 kA ?_⟩,?_,?_,Nat.lt_of_lt_of_le hB kA.size⟩
 ·rintro k hk (e | e)
  ·have:=(o9 k hk).1; omega
  ·exact (h.law.ap8 k e).2 hk
 ·rw [← HW,World.cell?_setCell_other _ _ _ _ (by simp)]; exact c5
 ·rw [← HW,World.frozen?_setCell]; exact g5
end Go.Proofs.YtcajmdfcanopnaaDoor
