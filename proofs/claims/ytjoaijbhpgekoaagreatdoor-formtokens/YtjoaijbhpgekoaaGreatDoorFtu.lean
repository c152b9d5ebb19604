/- Ftk -/
import Derived.Test.YtjoaijbhpgekoaaGreatDoorFtj
import Derived.Test.YtjoaijbhpgekoaaGreatDoorCopy
import Derived.Test.YtjoaijbhpgekoaaGreatDoorFti
namespace Go.Proofs.YtjoaijbhpgekoaaGreatDoor
open Go.RowKit Go.Deep
set_option linter.unusedVariables false
theorem res_nil {s:ByteArray}:∀ (f:Nat) (st:TkS),(runT s f st).2.2 ≠ 0 → (runT s f st).1 = []
 | 0,st,h => by
  unfold runT finT at h ⊢
  split at h
  ·rename_i c
   rw [if_pos c]
   split at h
   ·rename_i c2
    rw [if_pos c2]
   ·exact absurd rfl h
  ·exact absurd rfl h
 | f + 1,st,h => by
  unfold runT at h ⊢
  split at h
  ·rename_i c
   rw [if_pos c]
   split at h
   ·rename_i c2
    rw [if_pos c2]
   ·rename_i c2
    rw [if_neg c2]
    exact res_nil f _ h
  ·rename_i c
   rw [if_neg c]
   have:=res_nil 0 st h
   exact this
set_option maxRecDepth 100000 in
set_option maxHeartbeats 32000000 in
theorem ftok_bad (s:ByteArray) (w:World) (hT:Tab64 w) (hTB:TabBh w) (p er:Nat) (hp:(TksF s).2 = (p,er)) (he:er ≠ 0) :
  Calls Tryz.prog 4 #[.string s] w fun e w' => e = .returned (.tuple #[.slice none 0 0,.int .i64 (p:Nat),.int .i64 (er:Nat)]) ∧ Below w.heap.size w w':=by
 have K:=fsplit_all s w hT hTB
 have te:((er:Int) != 0) = true:=by simp; omega
 have te':¬ (er:Int) = 0:=by omega
 have HK:=Hj K
 have HP:=Hj hp
 clear K hp
 go_enter Tryz.func4,Tryz.ntmps4
 go_wp2_with fail
 refine (Uh HK).mono ?_
 rintro _ w2 ⟨sl,cs,base,rfl,hR,b2⟩
 rw [Uh HP]
 obtain ⟨av,cv,rfl⟩:=hR.form
 unfold fltV
 dsimp only
 obtain ⟨w3,hw3⟩:∃ x,w2.alloc (.cells #[.int .i64 (p:Int),.int .i64 (er:Int)] 33) = x:=⟨_,rfl⟩
 have bF:BoxL w3 w2.heap.size [.int .i64 (p:Int),.int .i64 (er:Int)]:=by have:=BoxL.made w2 #[.int .i64 (p:Int),.int .i64 (er:Int)] 33; rw [hw3] at this; exact this
 have b3:Below w2.heap.size w2 w3:=by rw [← hw3]; exact bAl
 have HB:=Hj (b2.trans (b3.mono b2.size))
 have f0:=(bF.all 0 _ rfl).1
 have f1:=(bF.all 1 _ rfl).1
 clear hR b2 b3 bF HK
 go_wp2_with fail
 go_region
 go_wp2_with fail
 go_ret3
 exact ⟨rfl,(Uh HB).drew⟩
theorem Tryz.info_string:(Tryz.prog.info? 9).map (fun i => (i.zero,i.size,i.bytes)) = some (some (.string ⟨#[]⟩),1,16):=by kernel_rfl
theorem make_str (n:Nat) (hn:n ≤ 100000) (w:World):(Instr.makeSlice 22 (.int .i64 (n:Int)) (.int .i64 (n:Int))).run Tryz.prog w = .ok (.slice (some ⟨w.heap.size,0,none⟩) n n) (w.alloc (.cells (madeCells #[.string ⟨#[]⟩] n) 9)) :=
 run_make_row' (P:=Tryz.prog) 22 9 (.string ⟨#[]⟩) 16 Tryz.underlying22 Tryz.info_string rfl .i64 .i64 n (by omega) (by omega) w
theorem made_str (w:World) (n:Nat):BoxL (w.alloc (.cells (madeCells #[.string ⟨#[]⟩] n) 9)) w.heap.size (List.replicate n (.string ⟨#[]⟩)):=by
 refine ⟨fun q u hq => ?_,by simp⟩
 rw [List.getElem?_replicate] at hq
 split at hq
 ·rename_i hlt
  obtain rfl:=Option.some.inj hq
  exact ⟨by simp [madeCells,hlt,Nat.mod_one],by simp⟩
 ·cases hq
theorem RoT.cells {w:World} {base:Nat} {ty:TypeId} {v:Value} {l:List ByteArray} {cs:List Value} (h:RoT w base ty v l cs) {q:Nat} (hq:q < l.length):∃ g c,v = .slice (some ⟨g,0,none⟩) l.length c ∧ l.length ≤ c ∧ ∀ k u,k < 6 → cs[6 * q + k]? = some u → w.cell? ⟨g,q * 6 + k,none⟩ = some u:=by
 rcases h.own.2 with ⟨e,h0⟩ | ⟨g,cap,cur,e,hb,h5,h6,h7,h8,h9⟩
 ·omega
 ·refine ⟨g,cap,e,h6,fun k u hk hu => ?_⟩
  rw [← h9,List.getElem?_take,if_pos (by omega),Array.getElem?_toList,show 6 * q + k = q * 6 + k by omega] at hu
  rw [World.cell?_of_block (w:=w) rfl] <;> simp [World.cell?,h5,hu]
theorem vs_at {l:List ByteArray} {q:Nat} (h:q < l.length) (z:Value):((l.take q).map Value.string ++ List.replicate (l.length - q) z)[q]? = some z:=by
 have hl:((l.take q).map Value.string).length = q:=by simp; omega
 rw [List.getElem?_append_right (by omega),hl,Nat.sub_self,List.getElem?_replicate,if_pos (by omega)]
theorem vs_next {l:List ByteArray} {q:Nat} (h:q < l.length) (z:Value):((l.take q).map Value.string ++ List.replicate (l.length - q) z).set q (.string (l.getD q ⟨#[]⟩)) = (l.take (q + 1)).map Value.string ++ List.replicate (l.length - (q + 1)) z:=by
 have hl:((l.take q).map Value.string).length = q:=by simp; omega
 have e:l[q]? = some (l[q]'h):=List.getElem?_eq_getElem h
 have e2:l.take (q + 1) = l.take q ++ [l[q]'h]:=by rw [List.take_add_one,e]; rfl
 have e3:l.getD q ⟨#[]⟩ = l[q]'h:=by simp [List.getD,e]
 rw [List.set_append_right _ _ (by omega),hl,Nat.sub_self,show l.length - q = (l.length - (q + 1)) + 1 by omega,List.replicate_succ,List.set_cons_zero,e2,e3,List.map_append,List.append_assoc]
 rfl
structure TkF (w wr:World) (base:Nat) (v:Value) (l:List ByteArray) (cs:List Value) (L q:Nat):Prop where
 row:RoT wr base 41 v l cs
 out:BoxL wr L ((l.take q).map .string ++ List.replicate (l.length - q) (.string ⟨#[]⟩))
 bel:Below w.heap.size w wr
set_option maxRecDepth 100000 in
set_option maxHeartbeats 32000000 in
theorem ftok_ok (s:ByteArray) (w:World) (hT:Tab64 w) (hTB:TabBh w) (l:List ByteArray) (hp:TksF s = (l,0,0)) (hl:l.length ≤ 16385) (hsz:∀ q,q < l.length → (l.getD q ⟨#[]⟩).size ≤ 65536) :
  Calls Tryz.prog 4 #[.string s] w fun e w' => ∃ L,e = .returned (.tuple #[.slice (some ⟨L,0,none⟩) l.length l.length,.int .i64 0,.int .i64 0]) ∧ BoxL w' L (l.map .string) ∧ Below w.heap.size w w':=by
 have K:=fsplit_all s w hT hTB
 rw [hp] at K
 have HK:=Hj K
 have hmk:=make_str l.length (by omega)
 clear K hp
 go_enter Tryz.func4,Tryz.ntmps4
 go_wp2_with fail
 refine (Uh HK).mono ?_
 rintro _ w2 ⟨sl,cs,base,rfl,hR,b2⟩
 unfold fltV
 dsimp only
 obtain ⟨av,cv,rfl⟩:=hR.form
 have HR:=Hj (And.intro hR b2)
 clear hR b2 HK
 go_wp2_with fail
 have I0:=Hj (show TkF w ((w2.alloc (.cells #[.int .i64 0,.int .i64 0] 33)).alloc (.cells (madeCells #[.string ⟨#[]⟩] l.length) 9)) base (.slice av l.length cv) l cs (w2.heap.size + 1) 0 from by
  obtain ⟨hR,b2⟩:=Uh HR
  have k1:Below w2.heap.size w2 (w2.alloc (.cells #[.int .i64 0,.int .i64 0] 33)):=bAl
  have k2:Below (w2.alloc (.cells #[.int .i64 0,.int .i64 0] 33)).heap.size (w2.alloc (.cells #[.int .i64 0,.int .i64 0] 33)) ((w2.alloc (.cells #[.int .i64 0,.int .i64 0] 33)).alloc (.cells (madeCells #[.string ⟨#[]⟩] l.length) 9)):=bAl
  have k3:=k1.trans (k2.mono k1.size)
  refine ⟨hR.chg (S:=fun _ => False) (Chg.of_below k3) (fun _ _ => id),?_,b2.trans (k3.mono b2.size)⟩
  have:=made_str (w2.alloc (.cells #[.int .i64 0,.int .i64 0] 33)) l.length
  simpa using this)
 have HO:=Hj (fun j (hj:(Value.slice av l.length cv).ownBlock = some j) => ((Uh HR).1.ge hj).2)
 have hB2:=(Uh HR).2.size
 have HB2:=Hj hB2
 clear hB2
 go_loopw [27] (fun iv wr => ∃ q:Nat,q ≤ l.length ∧ iv = .int .i64 (q:Nat) ∧ TkF w wr base (.slice av l.length cv) l cs (w2.heap.size + 1) q) (fun iv _ => l.length - (intOf iv).toNat)
 case atStart => exact ⟨0,Nat.zero_le _,rfl,Uh I0⟩
 case round =>
  obtain ⟨q,hq,rfl,hI⟩:=hrel
  by_cases hlt:q < l.length
  ·have hlt':(q:Int) < (l.length:Int):=by omega
   obtain ⟨g,c,ev,hc,hcell⟩:=hI.row.cells hlt
   have hcs:=hI.row.len
   obtain ⟨kd,a0,x3,x4,n4,c4,x5,n5,c5,y0,y2,y3,y4,y5⟩:=hI.row.shp q hlt
   have z0:=hcell 0 _ (by omega) y0
   rw [Nat.add_zero] at z0
   have z1:=hcell 1 _ (by omega) (hI.row.txt q hlt)
   have z2:=hcell 2 _ (by omega) y2
   have z3:=hcell 3 _ (by omega) y3
   have z4:=hcell 4 _ (by omega) y4
   have z5:=hcell 5 _ (by omega) y5
   obtain ⟨T,hT'⟩:∃ T,l.getD q ⟨#[]⟩ = T:=⟨_,rfl⟩
   rw [hT'] at z1
   injection ev with ea eb ec
   subst ea ec
   have hTs:T.size ≤ 65536:=by rw [← hT']; exact hsz q hlt
   have HI:=Hj hI
   have HT':=Hj hT'
   have HC:=Hj (fun (W:World) => fclone_any T W hTs)
   clear hI hcell y0 y2 y3 y4 y5 hcs eb I0 hT' hTs
   go_wp2_with fail
   refine (Uh HC _).mono ?_
   rintro _ w5 ⟨rfl,b5⟩
   have hI:=Uh HI
   have k0:Below wr.heap.size wr (wr.alloc (.cells #[.int .i64 kd,.string T,.int .i64 a0,.bool x3,.slice x4 n4 c4,.slice x5 n5 c5] 41)):=bAl
   have k5:Below wr.heap.size wr w5:=k0.trans (b5.mono k0.size)
   have o5:=hI.out.below k5
   have s0:=(o5.all q _ (vs_at hlt _)).1
   have s0f:=(o5.all q _ (vs_at hlt _)).2
   have hB2:=Uh HB2
   have n1:Below w.heap.size w (w5.setCell ⟨w2.heap.size + 1,q,none⟩ (.string T)):=bel_put (hI.bel.trans (k5.mono hI.bel.size)) (by omega) (Nat.le_refl _) q _
   have cW:Chg (fun j => j = w2.heap.size + 1) wr (w5.setCell ⟨w2.heap.size + 1,q,none⟩ (.string T)):=(Chg.of_below k5).trans (Chg.of_set (S:=fun j => j = w2.heap.size + 1) _ _ _ _ rfl)
   have n2:=hI.row.chg cW (fun j hj e => by have:=Uh HO j hj; omega)
   have n3:=o5.put q (.string T)
   rw [← Uh HT',vs_next hlt,Uh HT'] at n3
   have HN:=Hj (show TkF w (w5.setCell ⟨w2.heap.size + 1,q,none⟩ (.string T)) base _ l cs (w2.heap.size + 1) (q + 1) from ⟨n2,n3,n1⟩)
   clear hI k0 k5 o5 n1 cW n2 n3 b5 HI HC hB2 z0 z1 z2 z3 z4 z5
   go_wp2_with fail
   exact ⟨⟨q + 1,by omega,by (first | rfl | go_num),Uh HN⟩,by simp [intOf]; omega⟩
  ·have hq2:q = l.length:=by omega
   subst hq2
   have hlt':¬ (l.length:Int) < (l.length:Int):=by omega
   have HI:=Hj hI
   clear hI I0
   go_wp2_with fail
   go_ret3
   have hI:=Uh HI
   have o:=hI.out
   rw [List.take_length,Nat.sub_self,List.replicate_zero,List.append_nil] at o
   exact ⟨_,rfl,o,hI.bel⟩
def CuA (w w':World) (R:List ByteArray × Nat × Nat) (e:Ending):Prop:=∃ v cs,e = .returned (.tuple #[v,.int .i64 (R.2.1:Int),.int .i64 (R.2.2:Int)]) ∧ RoT w' w.heap.size 47 v R.1 cs ∧ Below w.heap.size w w'
structure CuI (s:ByteArray) (R:List ByteArray × Nat × Nat) (w wr:World) (v:Value) (q:Nat) (b:Bool) (l:List ByteArray) (cs:List Value):Prop where
 row:RoT wr w.heap.size 47 v l cs
 len:l.length ≤ 16384
 bel:Below w.heap.size w wr
 res:(q ≤ s.size ∧ resT s ⟨q,b,l⟩ = R) ∨ (q = s.size + 1 ∧ R = (l,0,0))
theorem CuI.go {s:ByteArray} {R:List ByteArray × Nat × Nat} {w wr wr':World} {v v':Value} {q:Nat} {b:Bool} {l:List ByteArray} {cs cs':List Value} (h:CuI s R w wr v q b l cs) (hq:q < s.size) {q':Nat} {b':Bool} {l':List ByteArray} (hs:stp s ⟨q,b,l⟩ = (0,⟨q',b',l'⟩)) (hr:RoT wr' w.heap.size 47 v' l' cs') (hl:l'.length ≤ 16384) (hb:Below w.heap.size w wr'):CuI s R w wr' v' q' b' l' cs':=by
 have e1:(stp s ⟨q,b,l⟩).1 = 0:=by rw [hs]
 have g:=stp_gt (st:=⟨q,b,l⟩) hq e1
 have e2:=resT_go (st:=⟨q,b,l⟩) hq e1
 rw [hs] at g e2
 refine ⟨hr,hl,hb,.inl ⟨g.2,?_⟩⟩
 rcases h.res with ⟨_,e⟩ | ⟨e,_⟩
 ·rw [← e,e2]
 ·omega
theorem CuI.end_ {s:ByteArray} {R:List ByteArray × Nat × Nat} {w wr wr':World} {v v':Value} {b:Bool} {l:List ByteArray} {cs cs':List Value} (h:CuI s R w wr v s.size b l cs) {l':List ByteArray} (hf:finT s ⟨s.size,b,l⟩ = (l',0,0)) (hr:RoT wr' w.heap.size 47 v' l' cs') (hl:l'.length ≤ 16384) (hb:Below w.heap.size w wr') (b':Bool):CuI s R w wr' v' (s.size + 1) b' l' cs':=by
 refine ⟨hr,hl,hb,.inr ⟨rfl,?_⟩⟩
 rcases h.res with ⟨_,e⟩ | ⟨e,_⟩
 ·rw [← e,resT_end rfl,hf]
 ·omega
theorem CuI.bad {s:ByteArray} {R:List ByteArray × Nat × Nat} {w wr:World} {v:Value} {q:Nat} {b:Bool} {l:List ByteArray} {cs:List Value} (h:CuI s R w wr v q b l cs) (hq:q < s.size) {er:Nat} {st:TkS} (hs:stp s ⟨q,b,l⟩ = (er,st)) (he:er ≠ 0):R = ([],q,er):=by
 have e1:(stp s ⟨q,b,l⟩).1 = er:=by rw [hs]
 rcases h.res with ⟨_,e⟩ | ⟨e,_⟩
 ·rw [← e,resT_bad (st:=⟨q,b,l⟩) hq (by rw [e1]; exact he),e1]
 ·omega
theorem CuI.endbad {s:ByteArray} {R:List ByteArray × Nat × Nat} {w wr:World} {v:Value} {l:List ByteArray} {cs:List Value} {q:Nat} (h:CuI s R w wr v q true l cs) (hq:q = s.size) (hl:l.length = 16384):R = ([],q,85):=by
 subst hq
 rcases h.res with ⟨_,e⟩ | ⟨e,_⟩
 ·rw [← e,resT_end rfl]
  unfold finT
  rw [if_pos rfl,if_pos hl]
 ·omega
theorem RoT.cell6 {w:World} {base:Nat} {ty:TypeId} {g n c:Nat} {l:List ByteArray} {cs:List Value} (h:RoT w base ty (.slice (some ⟨g,0,none⟩) n c) l cs) {q:Nat} (hq:q < l.length) {k:Nat} {u:Value} (hk:k < 6) (hu:cs[6 * q + k]? = some u):w.cell? ⟨g,q * 6 + k,none⟩ = some u:=by
 obtain ⟨g',c',e,_,hc⟩:=h.cells hq
 injection e with e1 e2 e3
 injection e1 with e4
 injection e4 with e5 e6 e7
 subst e5
 exact hc k u hk hu
theorem CuA.of_bad {w w':World} {R:List ByteArray × Nat × Nat} {p er:Nat} (h:R = ([],p,er)) (b:Below w.heap.size w w'):CuA w w' R (.returned (.tuple #[.slice none 0 0,.int .i64 (p:Int),.int .i64 (er:Int)])):=by
 subst h
 exact ⟨_,_,rfl,RoT.nil _ _ _,b⟩
theorem len1 (l:List ByteArray) (t:ByteArray):(l ++ [t]).length = l.length + 1:=by simp
structure CuP (w w5:World) (l:List ByteArray) (cs:List Value) (g c:Nat) (kd:Int) (T:ByteArray) (q:Nat) (x3:Bool) (x4:Option Addr) (n4 c4:Nat) (x5:Option Addr) (n5 c5:Nat):Prop where
 row:RoT w5 w.heap.size 47 (.slice (some ⟨g,0,none⟩) (l.length + 1) c) (l ++ [T]) (cs ++ [.int .i64 kd,.string T,.int .i64 (q:Int),.bool x3,.slice x4 n4 c4,.slice x5 n5 c5])
 bel:Below w.heap.size w w5
 last:l.length = 16384 → w5.cell? ⟨g,98306,none⟩ = some (.int .i64 (q:Int))
theorem CuP.of {w w3 w5:World} {l:List ByteArray} {cs:List Value} {a:Option Addr} {c g c3:Nat} {kd:Int} {T:ByteArray} {q:Nat} {x3:Bool} {x4 x5:Option Addr} {n4 c4 n5 c5:Nat} (hr:RoT w3 w.heap.size 47 (.slice a l.length c) l cs) (b3:Below w.heap.size w w3) (o:Obj) (hown:w5.ownsRow w.heap.size 47 6 (.slice (some ⟨g,0,none⟩) (l.length + 1) c3) (l.length + 1) (cs ++ [.int .i64 kd,.string T,.int .i64 (q:Int),.bool x3,.slice x4 n4 c4,.slice x5 n5 c5])) (hgrow:(w3.alloc o).grownBy w5 (Value.slice a l.length c).ownBlock):CuP w w5 l cs g c3 kd T q x3 x4 n4 c4 x5 n5 c5:=by
 have rT:=hr.app hown
 refine ⟨rT,?_,fun hl => ?_⟩
 ·have L5:Chg (fun j => (Value.slice a l.length c).ownBlock = some j) w3 w5:=(Chg.of_alloc _ _).trans (Chg.of_grown hgrow (fun k hk => hk))
  exact b3.trans (L5.below b3.size (fun k hk e => by have:=(hr.ge e).1; omega))
 ·have:=rT.cell6 (q:=16384) (k:=2) (u:=.int .i64 (q:Int)) (by rw [len1]; omega) (by decide) (by
   have h6:=hr.len
   rw [List.getElem?_append_right (by omega),h6,hl]
   rfl)
  exact this
set_option maxRecDepth 100000 in
set_option maxHeartbeats 64000000 in
theorem cut_any (s:ByteArray) (w:World) (hs:s.size ≤ 65536) :
  Calls Tryz.prog 10 #[.string s] w fun e w' => CuA w w' (TksF s) e:=by
 obtain ⟨R,hR⟩:∃ R,TksF s = R:=⟨_,rfl⟩
 have I0:=Hj (show CuI s R w w (.slice none 0 0) 0 false [] [] from ⟨RoT.nil _ _ _,by simp,Below.refl _ _,.inl ⟨Nat.zero_le _,by rw [← hR,tksF_is hs]⟩⟩)
 rw [hR]
 clear hR
 have hs':¬ (65536:Int) < (s.size:Int):=by omega
 obtain ⟨i41,hi41,hz41,hs41,hb41⟩:=info_parts Tryz.info_tok4
 have I41:=Hj (And.intro hi41 (And.intro hz41 (And.intro hs41 hb41)))
 clear hi41 hz41 hs41 hb41
 have HONE:=Hj (fun (q:Nat) (h:q < s.size) (W:World) => one_any s q W hs h)
 go_enter Tryz.func10,Tryz.ntmps10
 go_wp2_with fail
 go_loopw [5,6,7] (fun lv bv iv wr => ∃ (q:Nat) (b:Bool) (l:List ByteArray) (cs:List Value) (a:Option Addr) (c:Nat),lv = .slice a l.length c ∧ bv = .bool b ∧ iv = .int .i64 (q:Nat) ∧ q ≤ s.size + 1 ∧ CuI s R w wr (.slice a l.length c) q b l cs) (fun _ _ iv _ => s.size + 1 - (intOf iv).toNat)
 case atStart => exact ⟨0,false,[],[],none,0,rfl,rfl,rfl,Nat.zero_le _,Uh I0⟩
 case round =>
  obtain ⟨q,b,l,cs,a,c,rfl,rfl,rfl,hq,hI⟩:=hrel
  have hlen:=hI.len
  have HI:=Hj hI
  clear hI I0
  by_cases hlt:q ≤ s.size
  ·have hlt':(q:Int) ≤ (s.size:Int):=by omega
   by_cases hend:q = s.size
   ·have tend:((q:Int) == (s.size:Int)) = true:=by simp; omega
    cases b
    ·-- nothing stands on the line
     have tl:¬ (16384:Int) < (l.length:Int):=by omega
     have HE:=Hj hend
     clear hend
     go_wp2_with fail
     refine ⟨⟨q + 1,false,l,cs,a,c,rfl,rfl,by (first | rfl | go_num),by omega,?_⟩,by simp [intOf]; omega⟩
     have hz:=Uh HE
     subst hz
     exact (Uh HI).end_ (by unfold finT; rfl) (Uh HI).row hlen (Uh HI).bel false
    ·-- a line ends
     have HE:=Hj hend
     clear hend
     by_cases hfull:l.length = 16384
     ·have tl:(16384:Int) < (l.length:Int) + 1:=by omega
      go_wp2_with (at_builtin; refine wpList_append_lies _ rfl _ _ 43 rfl w.heap.size 47 i41 _ 6 88 Tryz.underlying43 (Uh I41).1 (Uh I41).2.1 (Uh I41).2.2.1 (Uh I41).2.2.2 rfl (by decide) (.slice a l.length c) l.length cs rfl (((Uh HI).row).own.alloc _) ⟨wr.heap.size,0,none⟩ 1 1 [.int .i64 5,.string ⟨#[10]⟩,.int .i64 (q:Int),.bool false,.slice none 0 0,.slice none 0 0] rfl rfl (World.news_of_block (alloc_block _ _)) (tok_cells _ _ _ _ _ _ rfl rfl rfl rfl rfl rfl) (by decide) (by unfold maxLen; omega) (by omega) (by have:=((Uh HI).bel).size; (first | (simp; omega) | simp | omega)) (wr.heap.size + 1) (by simp) ?_; intro g3 c3 w5 hown5 hgrow5 hat5 hlt5; have P5:=Hj (CuP.of ((Uh HI).row) ((Uh HI).bel) _ hown5 hgrow5); have c85:=(Uh P5).last hfull; clear hown5 hgrow5 hat5 hlt5)
      have hRR:=(Uh HI).endbad (Uh HE) hfull
      go_region
      all_goals go_wp2_with fail
      all_goals go_ret3
      all_goals exact CuA.of_bad hRR (Uh P5).bel.drew
     ·have tl:¬ (16384:Int) < (l.length:Int) + 1:=by omega
      go_wp2_with (at_builtin; refine wpList_append_lies _ rfl _ _ 43 rfl w.heap.size 47 i41 _ 6 88 Tryz.underlying43 (Uh I41).1 (Uh I41).2.1 (Uh I41).2.2.1 (Uh I41).2.2.2 rfl (by decide) (.slice a l.length c) l.length cs rfl (((Uh HI).row).own.alloc _) ⟨wr.heap.size,0,none⟩ 1 1 [.int .i64 5,.string ⟨#[10]⟩,.int .i64 (q:Int),.bool false,.slice none 0 0,.slice none 0 0] rfl rfl (World.news_of_block (alloc_block _ _)) (tok_cells _ _ _ _ _ _ rfl rfl rfl rfl rfl rfl) (by decide) (by unfold maxLen; omega) (by omega) (by have:=((Uh HI).bel).size; (first | (simp; omega) | simp | omega)) (wr.heap.size + 1) (by simp) ?_; intro g3 c3 w5 hown5 hgrow5 hat5 hlt5; have P5:=Hj (CuP.of ((Uh HI).row) ((Uh HI).bel) _ hown5 hgrow5); clear hown5 hgrow5 hat5 hlt5)
      refine ⟨⟨q + 1,false,l ++ [nlB],cs ++ [.int .i64 5,.string nlB,.int .i64 (q:Int),.bool false,.slice none 0 0,.slice none 0 0],some ⟨g3,0,none⟩,c3,by rw [len1],rfl,by (first | rfl | go_num),by omega,?_⟩,by simp [intOf]; omega⟩
      rw [len1]
      exact by have hz:=Uh HE; subst hz; exact ((Uh HI).end_ (by unfold finT; rw [if_pos rfl,if_neg hfull]; rfl) (Uh P5).row (by rw [len1]; omega) (Uh P5).bel false)
   ·have tend:((q:Int) == (s.size:Int)) = false:=by simp; omega
    have hq2:q < s.size:=by omega
    have tq:(q:Int) < (s.size:Int):=by omega
    have e1:=byA_get s q hq2
    clear hend hlt
    by_cases h10:byA s q = 10
    ·have t10:(((s[q]'hq2).toNat:Int) == 10) = true:=by simp; omega
     cases b
     ·have tl:¬ (16384:Int) < (l.length:Int):=by omega
      go_wp2_with fail
      refine ⟨⟨q + 1,false,l,cs,a,c,rfl,rfl,by (first | rfl | go_num),by omega,?_⟩,by simp [intOf]; omega⟩
      exact (Uh HI).go hq2 (by unfold stp; rw [if_pos h10]; rfl) (Uh HI).row hlen (Uh HI).bel
     ·by_cases hfull:l.length = 16384
      ·have tl:(16384:Int) < (l.length:Int) + 1:=by omega
       go_wp2_with (at_builtin; refine wpList_append_lies _ rfl _ _ 43 rfl w.heap.size 47 i41 _ 6 88 Tryz.underlying43 (Uh I41).1 (Uh I41).2.1 (Uh I41).2.2.1 (Uh I41).2.2.2 rfl (by decide) (.slice a l.length c) l.length cs rfl (((Uh HI).row).own.alloc _) ⟨wr.heap.size,0,none⟩ 1 1 [.int .i64 5,.string ⟨#[10]⟩,.int .i64 (q:Int),.bool false,.slice none 0 0,.slice none 0 0] rfl rfl (World.news_of_block (alloc_block _ _)) (tok_cells _ _ _ _ _ _ rfl rfl rfl rfl rfl rfl) (by decide) (by unfold maxLen; omega) (by omega) (by have:=((Uh HI).bel).size; (first | (simp; omega) | simp | omega)) (wr.heap.size + 1) (by simp) ?_; intro g3 c3 w5 hown5 hgrow5 hat5 hlt5; have P5:=Hj (CuP.of ((Uh HI).row) ((Uh HI).bel) _ hown5 hgrow5); have c85:=(Uh P5).last hfull; clear hown5 hgrow5 hat5 hlt5)
       have hRR:=(Uh HI).bad hq2 (er:=85) (st:=⟨q,true,l⟩) (by unfold stp tkAdd; rw [if_pos h10,if_pos rfl,if_pos hfull]) (by decide)
       go_region
       all_goals go_wp2_with fail
       all_goals go_ret3
       all_goals exact CuA.of_bad hRR (Uh P5).bel.drew
      ·have tl:¬ (16384:Int) < (l.length:Int) + 1:=by omega
       go_wp2_with (at_builtin; refine wpList_append_lies _ rfl _ _ 43 rfl w.heap.size 47 i41 _ 6 88 Tryz.underlying43 (Uh I41).1 (Uh I41).2.1 (Uh I41).2.2.1 (Uh I41).2.2.2 rfl (by decide) (.slice a l.length c) l.length cs rfl (((Uh HI).row).own.alloc _) ⟨wr.heap.size,0,none⟩ 1 1 [.int .i64 5,.string ⟨#[10]⟩,.int .i64 (q:Int),.bool false,.slice none 0 0,.slice none 0 0] rfl rfl (World.news_of_block (alloc_block _ _)) (tok_cells _ _ _ _ _ _ rfl rfl rfl rfl rfl rfl) (by decide) (by unfold maxLen; omega) (by omega) (by have:=((Uh HI).bel).size; (first | (simp; omega) | simp | omega)) (wr.heap.size + 1) (by simp) ?_; intro g3 c3 w5 hown5 hgrow5 hat5 hlt5; have P5:=Hj (CuP.of ((Uh HI).row) ((Uh HI).bel) _ hown5 hgrow5); clear hown5 hgrow5 hat5 hlt5)
       refine ⟨⟨q + 1,false,l ++ [nlB],cs ++ [.int .i64 5,.string nlB,.int .i64 (q:Int),.bool false,.slice none 0 0,.slice none 0 0],some ⟨g3,0,none⟩,c3,by rw [len1],rfl,by (first | rfl | go_num),by omega,?_⟩,by simp [intOf]; omega⟩
       rw [len1]
       exact (Uh HI).go hq2 (by unfold stp tkAdd; rw [if_pos h10,if_pos rfl,if_neg hfull]) (Uh P5).row (by rw [len1]; omega) (Uh P5).bel
    ·have t10:(((s[q]'hq2).toNat:Int) == 10) = false:=by simp; omega
     by_cases h35:byA s q = 35
     ·have t35:(((s[q]'hq2).toNat:Int) == 35) = true:=by simp; omega
      have tl:¬ (16384:Int) < (l.length:Int):=by omega
      have hr:=enR_run lineN s (i:=q) (by omega)
      obtain ⟨E,hE⟩:∃ E,enR lineN s q = E:=⟨_,rfl⟩
      rw [hE] at hr
      have hE1:=hr.le
      have hE2:=hr.top
      have HR:=Hj hr
      have HEE:=Hj hE
      have hqE:q < E:=by
       rcases Nat.lt_or_eq_of_le hE1 with e | e
       ·exact e
       ·have:=hr.stop (by omega)
        rw [← e,h35] at this
        cases this
      clear hr hE
      go_wp2_with fail
      go_loopw [7] (fun iv wr' => ∃ p:Nat,p ≤ E ∧ q ≤ p ∧ iv = .int .i64 (p:Nat) ∧ Hid (wr' = wr)) (fun iv _ => s.size - (intOf iv).toNat)
      case atStart => exact ⟨q,hE1,Nat.le_refl _,rfl,rfl⟩
      case round =>
       obtain ⟨p,hp,hqp,rfl,HW⟩:=hrel
       obtain rfl:=(Uh HW).symm
       clear HW
       by_cases hpE:p < E
       ·have hp2:p < s.size:=by omega
        have tp:(p:Int) < (s.size:Int):=by omega
        have g1:=byA_get s p hp2
        have g2:=(Uh HR).all p hqp hpE
        unfold lineN at g2
        have g3:byA s p ≠ 10:=by simpa using g2
        have tp10:(((s[p]'hp2).toNat:Int) != 10) = true:=by simp; omega
        clear g1 g2 g3
        go_wp2_with fail
        exact ⟨⟨p + 1,by omega,by omega,by (first | rfl | go_num),Hj trivial⟩,by simp [intOf]; omega⟩
       ·have hpE2:p = E:=by omega
        subst hpE2
        have HG:=Hj ((Uh HI).go hq2 (q':=p) (b':=b) (l':=l) (by unfold stp; rw [if_neg h10,if_pos h35]; show (0,_) = _; rw [Uh HEE]) (Uh HI).row hlen (Uh HI).bel)
        by_cases hp2:p < s.size
        ·have tp:(p:Int) < (s.size:Int):=by omega
         have g1:=byA_get s p hp2
         have g2:=(Uh HR).stop hp2
         unfold lineN at g2
         have g3:byA s p = 10:=by simpa using g2
         have tp10:(((s[p]'hp2).toNat:Int) != 10) = false:=by simp; omega
         clear g1 g2 g3
         go_wp2_with fail
         exact ⟨⟨p,b,l,cs,a,c,rfl,rfl,by (first | rfl | go_num),by omega,Uh HG⟩,by simp [intOf]; omega⟩
        ·have tp:¬ (p:Int) < (s.size:Int):=by omega
         go_wp2_with fail
         exact ⟨⟨p,b,l,cs,a,c,rfl,rfl,by (first | rfl | go_num),by omega,Uh HG⟩,by simp [intOf]; omega⟩
     ·have t35:(((s[q]'hq2).toNat:Int) == 35) = false:=by simp; omega
      by_cases h32:byA s q = 32
      ·have t32:(((s[q]'hq2).toNat:Int) == 32) = true:=by simp; omega
       have hbl:byA s q = 32 ∨ byA s q = 9 ∨ byA s q = 13:=.inl h32
       have tl:¬ (16384:Int) < (l.length:Int):=by omega
       go_wp2_with fail
       refine ⟨⟨q + 1,b,l,cs,a,c,rfl,rfl,by (first | rfl | go_num),by omega,?_⟩,by simp [intOf]; omega⟩
       exact (Uh HI).go hq2 (by unfold stp; rw [if_neg h10,if_neg h35,if_pos hbl]) (Uh HI).row hlen (Uh HI).bel
      ·have t32:(((s[q]'hq2).toNat:Int) == 32) = false:=by simp; omega
       by_cases h9:byA s q = 9
       ·have t9:(((s[q]'hq2).toNat:Int) == 9) = true:=by simp; omega
        have hbl:byA s q = 32 ∨ byA s q = 9 ∨ byA s q = 13:=.inr (.inl h9)
        have tl:¬ (16384:Int) < (l.length:Int):=by omega
        go_wp2_with fail
        refine ⟨⟨q + 1,b,l,cs,a,c,rfl,rfl,by (first | rfl | go_num),by omega,?_⟩,by simp [intOf]; omega⟩
        exact (Uh HI).go hq2 (by unfold stp; rw [if_neg h10,if_neg h35,if_pos hbl]) (Uh HI).row hlen (Uh HI).bel
       ·have t9:(((s[q]'hq2).toNat:Int) == 9) = false:=by simp; omega
        by_cases h13:byA s q = 13
        ·have t13:(((s[q]'hq2).toNat:Int) == 13) = true:=by simp; omega
         have hbl:byA s q = 32 ∨ byA s q = 9 ∨ byA s q = 13:=.inr (.inr h13)
         have tl:¬ (16384:Int) < (l.length:Int):=by omega
         go_wp2_with fail
         refine ⟨⟨q + 1,b,l,cs,a,c,rfl,rfl,by (first | rfl | go_num),by omega,?_⟩,by simp [intOf]; omega⟩
         exact (Uh HI).go hq2 (by unfold stp; rw [if_neg h10,if_neg h35,if_pos hbl]) (Uh HI).row hlen (Uh HI).bel
        ·have t13:(((s[q]'hq2).toNat:Int) == 13) = false:=by simp; omega
         have hbl:¬ (byA s q = 32 ∨ byA s q = 9 ∨ byA s q = 13):=by omega
         clear e1
         obtain ⟨ER,hER⟩:∃ r,(tokE s q).1 = r:=⟨_,rfl⟩
         have KO:=Uh HONE q hq2 wr
         rw [hER] at KO
         have HK:=Hj KO
         have HER:=Hj hER
         clear KO hER
         by_cases hz:ER = 0
         ·subst hz
          have hg:=tok_gt hq2 (Uh HER)
          obtain ⟨J,hJ⟩:∃ J,(tokE s q).2 = J:=⟨_,rfl⟩
          rw [hJ] at HK hg
          have HJ:=Hj hJ
          clear hJ
          have tl0:True:=trivial
          go_wp2_with fail
          refine (Uh HK).mono ?_
          rintro _ w2 ⟨kd,T,a0,gg,x4,n4,c4,x5,n5,c5,rfl,hT,b2⟩
          obtain ⟨hT1,rfl⟩:=hT rfl
          have hTs:T.size = J - q:=by rw [hT1,ByteArray.size_extract]; omega
          have HT:=Hj hT1
          clear hT hT1 HK
          try dsimp only
          repeat ((fail_if_success (with_reducible (show Code.wp _ _ _ _ (World.alloc w2 _)))); (first | go_values | go_skip | go_guarded | go_step | go_upon | go_back))
          have b3:Below w2.heap.size w2 (w2.alloc (.cells #[.int .i64 kd,.string T,.int .i64 (q:Int),.bool gg,.slice x4 n4 c4,.slice x5 n5 c5] 47)):=bAl
          have bV:=BoxL.made w2 #[.int .i64 kd,.string T,.int .i64 (q:Int),.bool gg,.slice x4 n4 c4,.slice x5 n5 c5] 47
          have bw:=b2.trans (b3.mono b2.size)
          have r3:=(Uh HI).row.chg (S:=fun _ => False) (Chg.of_below bw) (fun _ _ => id)
          have w3b:=(Uh HI).bel.trans (bw.mono (Uh HI).bel.size)
          have hw2s:=b2.size
          generalize w2.alloc (.cells #[.int .i64 kd,.string T,.int .i64 (q:Int),.bool gg,.slice x4 n4 c4,.slice x5 n5 c5] 47) = w3 at *
          have v0:=(bV.all 0 _ rfl).1
          have v1:=(bV.all 1 _ rfl).1
          have v2:=(bV.all 2 _ rfl).1
          have v3:=(bV.all 3 _ rfl).1
          have v4:=(bV.all 4 _ rfl).1
          have v5:=(bV.all 5 _ rfl).1
          have HV:=Hj (And.intro bV (And.intro r3 (And.intro w3b hw2s)))
          clear b3 bV bw r3 w3b b2 hw2s
          by_cases hfull:l.length = 16384
          ·have tl:(16384:Int) < (l.length:Int) + 1:=by omega
           go_wp2_with (at_builtin; refine wpList_append_lies _ rfl _ _ 43 rfl w.heap.size 47 i41 _ 6 88 Tryz.underlying43 (Uh I41).1 (Uh I41).2.1 (Uh I41).2.2.1 (Uh I41).2.2.2 rfl (by decide) (.slice a l.length c) l.length cs rfl (((Uh HV).2.1).own.alloc _) ⟨w3.heap.size,0,none⟩ 1 1 [.int .i64 kd,.string T,.int .i64 (q:Int),.bool gg,.slice x4 n4 c4,.slice x5 n5 c5] rfl rfl (World.news_of_block (alloc_block _ _)) (tok_cells _ _ _ _ _ _ rfl rfl rfl rfl rfl rfl) (by decide) (by unfold maxLen; omega) (by omega) (by have:=((Uh HV).2.2.1).size; (first | (simp; omega) | simp | omega)) (w3.heap.size + 1) (by simp) ?_; intro g3 c3 w5 hown5 hgrow5 hat5 hlt5; have P5:=Hj (CuP.of ((Uh HV).2.1) ((Uh HV).2.2.1) _ hown5 hgrow5); have u1:w5.cell? ⟨w2.heap.size,1,none⟩ = some (.string T):=(((Uh HV).1.chg ((Chg.of_alloc _ _).trans (Chg.of_grown hgrow5 (fun k hk => hk))) (fun e => by have h1:=((Uh HI).row.ge e).2; have h2:=(Uh HV).2.2.2; omega)).all 1 _ rfl).1; have c85:=(Uh P5).last hfull; clear hown5 hgrow5 hat5 hlt5)
           have hRR:=(Uh HI).bad hq2 (er:=85) (st:=⟨q,b,l⟩) (by unfold stp tkAdd; rw [if_neg h10,if_neg h35,if_neg hbl,if_neg (show ¬ (tokE s q).1 ≠ 0 from fun z => z (Uh HER)),if_pos hfull]) (by decide)
           go_region
           all_goals go_wp2_with fail
           all_goals go_ret3
           all_goals exact CuA.of_bad hRR (Uh P5).bel.drew
          ·have tl:¬ (16384:Int) < (l.length:Int) + 1:=by omega
           have hTI:(q:Int) + (T.size:Int) = ((J:Nat):Int):=by omega
           have tTI:(q:Int) + (T.size:Int) ≤ (s.size:Int):=by omega
           go_wp2_with (at_builtin; refine wpList_append_lies _ rfl _ _ 43 rfl w.heap.size 47 i41 _ 6 88 Tryz.underlying43 (Uh I41).1 (Uh I41).2.1 (Uh I41).2.2.1 (Uh I41).2.2.2 rfl (by decide) (.slice a l.length c) l.length cs rfl (((Uh HV).2.1).own.alloc _) ⟨w3.heap.size,0,none⟩ 1 1 [.int .i64 kd,.string T,.int .i64 (q:Int),.bool gg,.slice x4 n4 c4,.slice x5 n5 c5] rfl rfl (World.news_of_block (alloc_block _ _)) (tok_cells _ _ _ _ _ _ rfl rfl rfl rfl rfl rfl) (by decide) (by unfold maxLen; omega) (by omega) (by have:=((Uh HV).2.2.1).size; (first | (simp; omega) | simp | omega)) (w3.heap.size + 1) (by simp) ?_; intro g3 c3 w5 hown5 hgrow5 hat5 hlt5; have P5:=Hj (CuP.of ((Uh HV).2.1) ((Uh HV).2.2.1) _ hown5 hgrow5); have u1:w5.cell? ⟨w2.heap.size,1,none⟩ = some (.string T):=(((Uh HV).1.chg ((Chg.of_alloc _ _).trans (Chg.of_grown hgrow5 (fun k hk => hk))) (fun e => by have h1:=((Uh HI).row.ge e).2; have h2:=(Uh HV).2.2.2; omega)).all 1 _ rfl).1; clear hown5 hgrow5 hat5 hlt5)
           refine ⟨⟨J,true,l ++ [T],cs ++ [.int .i64 kd,.string T,.int .i64 (q:Int),.bool gg,.slice x4 n4 c4,.slice x5 n5 c5],some ⟨g3,0,none⟩,c3,by rw [len1],rfl,by (first | rfl | (rw [hTI]) | go_num),by omega,?_⟩,by simp [intOf]; omega⟩
           rw [len1]
           refine (Uh HI).go hq2 ?_ (Uh P5).row (by rw [len1]; omega) (Uh P5).bel
           unfold stp tkAdd
           rw [if_neg h10,if_neg h35,if_neg hbl,if_neg (show ¬ (tokE s q).1 ≠ 0 from fun z => z (Uh HER)),if_neg hfull,Uh HJ,← Uh HT]
         ·have te:((ER:Int) != 0) = true:=by simp; omega
          have te':¬ (ER:Int) = 0:=by omega
          have hRR:=(Uh HI).bad hq2 (er:=ER) (st:=⟨q,b,l⟩) (by unfold stp; rw [if_neg h10,if_neg h35,if_neg hbl,if_pos (show (tokE s q).1 ≠ 0 from fun z => hz ((Uh HER).symm.trans z)),Uh HER]) hz
          have HRR:=Hj hRR
          clear hRR hz
          go_wp2_with fail
          refine (Uh HK).mono ?_
          rintro _ w2 ⟨kd,T,a0,gg,x4,n4,c4,x5,n5,c5,rfl,hT,b2⟩
          have HB2:=Hj ((Uh HI).bel.trans (b2.mono (Uh HI).bel.size))
          clear hT b2 HK
          go_wp2_with fail
          go_ret3
          exact CuA.of_bad (Uh HRR) ((Uh HB2).alloc (Uh HB2).size _)
  ·have hlt':¬ (q:Int) ≤ (s.size:Int):=by omega
   have hq1:q = s.size + 1:=by omega
   have HE:=Hj hq1
   clear hq1 hlt
   go_wp2_with fail
   go_ret3
   have hI:=Uh HI
   rcases hI.res with ⟨e,_⟩ | ⟨_,e⟩
   ·have:=Uh HE; omega
   ·rw [e]
    exact ⟨_,_,rfl,hI.row,hI.bel⟩
end Go.Proofs.YtjoaijbhpgekoaaGreatDoor
