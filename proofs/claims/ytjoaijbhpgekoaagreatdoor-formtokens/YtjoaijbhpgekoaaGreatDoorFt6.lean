/- Ft5 -/
import Derived.Test.YtjoaijbhpgekoaaGreatDoorFt4
import Derived.Test.YtjoaijbhpgekoaaGreatDoorGiv2
import Derived.Deep.RegionLaw
namespace Go.Proofs.YtjoaijbhpgekoaaGreatDoor
open Go.RowKit Go.Deep
set_option linter.unusedVariables false
structure BoxL (w:World) (X:Nat) (vs:List Value):Prop where
 all:∀ q u,vs[q]? = some u → w.cell? ⟨X,q,none⟩ = some u ∧ w.frozen? ⟨X,q,none⟩ = false
 lt:X < w.heap.size
theorem Chg.frz {S:Nat → Prop} {w w':World} (h:Chg S w w') {b i:Nat} (hb:b < w.heap.size) (hs:¬ S b):w'.frozen? ⟨b,i,none⟩ = w.frozen? ⟨b,i,none⟩:=by
 unfold World.frozen?
 rw [h.block b hb hs]
theorem BoxL.chg {S:Nat → Prop} {w w':World} {X:Nat} {vs:List Value} (h:BoxL w X vs) (k:Chg S w w') (hs:¬ S X):BoxL w' X vs :=
 ⟨fun q u hq => ⟨k.cell hs (h.all q u hq).1,by rw [k.frz h.lt hs]; exact (h.all q u hq).2⟩,Nat.lt_of_lt_of_le h.lt k.size⟩
theorem BoxL.below {w w':World} {X:Nat} {vs:List Value} (h:BoxL w X vs) (k:Below w.heap.size w w'):BoxL w' X vs:=h.chg (S:=fun _ => False) (Chg.of_below k) (fun x => x)
theorem BoxL.put {w:World} {X:Nat} {vs:List Value} (h:BoxL w X vs) (q:Nat) (u:Value):BoxL (w.setCell ⟨X,q,none⟩ u) X (vs.set q u):=by
 refine ⟨fun p x hp => ?_,by simpa using h.lt⟩
 rw [World.frozen?_setCell]
 rw [List.getElem?_set] at hp
 by_cases e:q = p
 ·subst e
  rw [if_pos rfl] at hp
  split at hp
  ·rename_i hl
   obtain ⟨y,hy⟩:∃ y,vs[q]? = some y:=⟨_,List.getElem?_eq_getElem hl⟩
   have h1:=h.all q y hy
   obtain rfl:=Option.some.inj hp
   exact ⟨World.cell?_setCell_same _ _ _ h1.1,h1.2⟩
  ·cases hp
 ·rw [if_neg e] at hp
  have h1:=h.all p x hp
  exact ⟨by rw [World.cell?_setCell_other _ _ _ _ (by intro c; simp at c; try omega)]; exact h1.1,h1.2⟩
theorem BoxL.other {w:World} {X:Nat} {vs:List Value} (h:BoxL w X vs) {Y:Nat} (q:Nat) (u:Value) (hn:X ≠ Y):BoxL (w.setCell ⟨Y,q,none⟩ u) X vs :=
 h.chg (S:=fun j => j = Y) (Chg.of_set _ _ _ _ rfl) hn
theorem BoxL.made (w:World) (vs:Array Value) (e:TypeId):BoxL (w.alloc (.cells vs e)) w.heap.size vs.toList:=by
 refine ⟨fun q u hq => ?_,by simp⟩
 have hq':vs[q]? = some u:=by simpa using hq
 exact ⟨by simp [hq'],by simp⟩
structure RoT (w:World) (base:Nat) (ty:TypeId) (v:Value) (l:List ByteArray) (cs:List Value):Prop where
 own:w.ownsRow base ty 6 v l.length cs
 txt:∀ q,q < l.length → cs[6 * q + 1]? = some (.string (l.getD q ⟨#[]⟩))
 shp:∀ q,q < l.length → ∃ kd a0 x3 x4 n4 c4 x5 n5 c5,cs[6 * q]? = some (.int .i64 kd) ∧ cs[6 * q + 2]? = some (.int .i64 a0) ∧ cs[6 * q + 3]? = some (.bool x3) ∧ cs[6 * q + 4]? = some (.slice x4 n4 c4) ∧ cs[6 * q + 5]? = some (.slice x5 n5 c5)
theorem RoT.chg {S:Nat → Prop} {w w':World} {base:Nat} {ty:TypeId} {v:Value} {l:List ByteArray} {cs:List Value} (h:RoT w base ty v l cs) (k:Chg S w w') (hs:∀ j,v.ownBlock = some j → ¬ S j):RoT w' base ty v l cs:=⟨ownsRow_chg h.own k hs,h.txt,h.shp⟩
theorem RoT.len {w:World} {base:Nat} {ty:TypeId} {v:Value} {l:List ByteArray} {cs:List Value} (h:RoT w base ty v l cs):cs.length = 6 * l.length:=by have:=h.own.1; omega
theorem RoT.app {w:World} {base:Nat} {ty:TypeId} {v v':Value} {l:List ByteArray} {cs:List Value} {w':World} {kd a0:Int} {x3:Bool} {x4 x5:Option Addr} {n4 c4 n5 c5:Nat} {t:ByteArray} (h:RoT w base ty v l cs) (k:w'.ownsRow base ty 6 v' (l.length + 1) (cs ++ [.int .i64 kd,.string t,.int .i64 a0,.bool x3,.slice x4 n4 c4,.slice x5 n5 c5])):RoT w' base ty v' (l ++ [t]) (cs ++ [.int .i64 kd,.string t,.int .i64 a0,.bool x3,.slice x4 n4 c4,.slice x5 n5 c5]):=by
 have hl:=h.len
 refine ⟨by simpa using k,fun q hq => ?_,fun q hq => ?_⟩
 ·simp at hq
  by_cases c:q < l.length
  ·rw [List.getElem?_append_left (by omega),h.txt q c]
   simp [List.getD,List.getElem?_append_left c]
  ·obtain rfl:q = l.length:=by omega
   rw [List.getElem?_append_right (by omega),hl]
   simp [List.getD]
 ·simp at hq
  by_cases c:q < l.length
  ·obtain ⟨kd,a0,x3,x4,n4,c4,x5,n5,c5,e0,e2,e3,e4,e5⟩:=h.shp q c
   refine ⟨kd,a0,x3,x4,n4,c4,x5,n5,c5,?_,?_,?_,?_,?_⟩ <;> (rw [List.getElem?_append_left (by omega)]; assumption)
  ·obtain rfl:q = l.length:=by omega
   refine ⟨kd,a0,x3,x4,n4,c4,x5,n5,c5,?_,?_,?_,?_,?_⟩ <;> (rw [List.getElem?_append_right (by omega),hl]; simp)
theorem RoT.nil (w:World) (base:Nat) (ty:TypeId):RoT w base ty (.slice none 0 0) [] []:=⟨⟨rfl,.inl ⟨rfl,rfl⟩⟩,(fun q hq => by simp at hq),(fun q hq => by simp at hq)⟩
theorem RoT.ge {w:World} {base:Nat} {ty:TypeId} {v:Value} {l:List ByteArray} {cs:List Value} (h:RoT w base ty v l cs) {j:Nat} (hj:v.ownBlock = some j):base ≤ j ∧ j < w.heap.size:=own_ge h.own j hj
theorem RoT.form {w:World} {base:Nat} {ty:TypeId} {v:Value} {l:List ByteArray} {cs:List Value} (h:RoT w base ty v l cs):∃ a c,v = .slice a l.length c:=by
 rcases h.own.2 with ⟨e,h0⟩ | ⟨g,cap,cur,e,_⟩
 ·exact ⟨none,0,by rw [e,h0]⟩
 ·exact ⟨_,cap,e⟩
structure ScS (w:World) (B:Nat) (ty:TypeId) (s:ByteArray) (st:TkS) (v:Value) (cs:List Value):Prop where
 box:BoxL w B [.string s,.int .i64 (st.i:Int),.bool st.b,v]
 row:RoT w (B + 1) ty v st.l cs
structure ScC (w w':World) (B:Nat) (v v':Value):Prop where
 chg:Chg (fun j => j = B ∨ v.ownBlock = some j) w w'
 new:∀ j,v'.ownBlock = some j → v.ownBlock = some j ∨ w.heap.size ≤ j
theorem Chg.thens {S T:Nat → Prop} {a b c:World} (h:Chg S a b) (k:Chg T b c) (hs:∀ k,k < a.heap.size → T k → S k):Chg S a c :=
 ⟨k.os.trans h.os,k.tape.trans h.tape,k.output.trans h.output,Nat.le_trans h.size k.size,fun j hj hn => (k.block j (Nat.lt_of_lt_of_le hj h.size) (fun c => hn (hs j hj c))).trans (h.block j hj hn)⟩
theorem ScC.refl (w:World) (B:Nat) (v:Value):ScC w w B v v:=⟨Chg.refl _ _,fun j h => .inl h⟩
theorem ScC.trans {w w' w'':World} {B:Nat} {v v' v'':Value} (h:ScC w w' B v v') (k:ScC w' w'' B v' v''):ScC w w'' B v v'':=by
 refine ⟨h.chg.thens k.chg fun j hj c => ?_,fun j hj => ?_⟩
 ·rcases c with c | c
  ·exact .inl c
  ·rcases h.new j c with d | d
   ·exact .inr d
   ·omega
 ·rcases k.new j hj with c | c
  ·exact h.new j c
  ·exact .inr (Nat.le_trans h.chg.size c)
theorem ScC.ofBelow {w w':World} {B:Nat} {v:Value} (h:Below w.heap.size w w'):ScC w w' B v v:=⟨Chg.of_below h,fun j c => .inl c⟩
theorem ScS.below {w w':World} {B:Nat} {ty:TypeId} {s:ByteArray} {st:TkS} {v:Value} {cs:List Value} (h:ScS w B ty s st v cs) (k:Below w.heap.size w w'):ScS w' B ty s st v cs:=⟨h.box.below k,h.row.chg (S:=fun _ => False) (Chg.of_below k) (fun _ _ => id)⟩
theorem BoxL.keep {w w':World} {B X:Nat} {v v':Value} {vs:List Value} (h:BoxL w X vs) (k:ScC w w' B v v') (h1:X ≠ B) (h2:v.ownBlock ≠ some X):BoxL w' X vs:=h.chg k.chg (fun c => by rcases c with c | c; exact h1 c; exact h2 c)
theorem Tryz.info_tok:(Tryz.prog.info? 41).map (fun i => (i.zero,i.size,i.bytes)) = some (some (.agg #[.int .i64 0,.string ⟨#[]⟩,.int .i64 0,.bool false,.slice none 0 0,.slice none 0 0]),6,88):=by kernel_rfl
theorem Tryz.info_tok4:(Tryz.prog.info? 47).map (fun i => (i.zero,i.size,i.bytes)) = some (some (.agg #[.int .i64 0,.string ⟨#[]⟩,.int .i64 0,.bool false,.slice none 0 0,.slice none 0 0]),6,88):=by kernel_rfl
def fltV (a e:Int):Value:=.agg #[.int .i64 a,.int .i64 e]
theorem bel_put {n:Nat} {w w':World} (h:Below n w w') {b:Nat} (hb:n ≤ b) (hn:n ≤ w.heap.size) (i:Nat) (u:Value):Below n w (w'.setCell ⟨b,i,none⟩ u):=h.trans ((Chg.of_set (S:=fun j => j = b) w' b i u rfl).below (Nat.le_trans hn h.size) (fun k hk e => by omega))
theorem tok_cells (x0 x1 x2 x3 x4 x5:Value) (h0:x0.oneCell' = true) (h1:x1.oneCell' = true) (h2:x2.oneCell' = true) (h3:x3.oneCell' = true) (h4:x4.oneCell' = true) (h5:x5.oneCell' = true):∀ u ∈ [x0,x1,x2,x3,x4,x5],u.oneCell' = true:=by
 intro u hu
 simp at hu
 rcases hu with rfl | rfl | rfl | rfl | rfl | rfl <;> assumption
set_option maxRecDepth 100000 in
set_option maxHeartbeats 32000000 in
theorem take_full (B:Nat) (s:ByteArray) (st:TkS) (v:Value) (cs:List Value) (kd:Int) (t:ByteArray) (a0:Int) (x3:Bool) (x4 x5:Option Addr) (n4 c4 n5 c5:Nat) (w:World) (hS:ScS w B 41 s st v cs) (hl:st.l.length = 16384) :
  Calls Tryz.prog 15 #[.pointer (some ⟨B,0,none⟩),.agg #[.int .i64 kd,.string t,.int .i64 a0,.bool x3,.slice x4 n4 c4,.slice x5 n5 c5]] w fun e w' => e = .returned (fltV (st.i:Int) 85) ∧ Below w.heap.size w w':=by
 obtain ⟨wa,hwa⟩:∃ x,w.alloc (.cells #[.int .i64 kd,.string t,.int .i64 a0,.bool x3,.slice x4 n4 c4,.slice x5 n5 c5] 41) = x:=⟨_,rfl⟩
 obtain ⟨wo,hwo⟩:∃ x,wa.alloc (.cells #[.int .i64 0,.int .i64 0] 33) = x:=⟨_,rfl⟩
 have ba:Below w.heap.size w wa:=by rw [← hwa]; exact bAl
 have bo:Below wa.heap.size wa wo:=by rw [← hwo]; exact bAl
 have bT:BoxL wo w.heap.size [.int .i64 kd,.string t,.int .i64 a0,.bool x3,.slice x4 n4 c4,.slice x5 n5 c5]:=by have:=BoxL.made w #[.int .i64 kd,.string t,.int .i64 a0,.bool x3,.slice x4 n4 c4,.slice x5 n5 c5] 41; rw [hwa] at this; exact this.below bo
 have bO:BoxL wo wa.heap.size [.int .i64 0,.int .i64 0]:=by have:=BoxL.made wa #[.int .i64 0,.int .i64 0] 33; rw [hwo] at this; exact this
 have bao:Below w.heap.size w wo:=ba.trans (bo.mono ba.size)
 have sz:wa.heap.size = w.heap.size + 1:=by rw [← hwa]; simp
 have sS:=hS.below bao
 have hBl:=hS.box.lt
 obtain ⟨av,cv,rfl⟩:=hS.row.form
 have c1:=(sS.box.all 1 _ rfl).1
 have c3:=(sS.box.all 3 _ rfl).1
 have o0:=(bO.all 0 _ rfl).1
 have o0f:=(bO.all 0 _ rfl).2
 have o1:=(bO.all 1 _ rfl).1
 have o1f:=(bO.all 1 _ rfl).2
 have tk:((st.l.length:Int) == 16384) = true:=by simp; omega
 have HB:=Hj (And.intro bO bao)
 unfold fltV
 have HSZ:=Hj sz
 clear bT bO bao sS hS ba bo sz
 go_enter Tryz.func15,Tryz.ntmps15
 go_wp2_with fail
 have hf:=((Uh HB).1.put 0 (.int .i64 (st.i:Int))).put 1 (.int .i64 85)
 have f0:=(hf.all 0 _ rfl).1
 have f1:=(hf.all 1 _ rfl).1
 have hb:Below w.heap.size w ((wo.setCell ⟨wa.heap.size,0,none⟩ (.int .i64 (st.i:Int))).setCell ⟨wa.heap.size,1,none⟩ (.int .i64 85)):=bel_put (bel_put (Uh HB).2 (by have:=Uh HSZ; omega) (Nat.le_refl _) 0 _) (by have:=Uh HSZ; omega) (Nat.le_refl _) 1 _
 generalize (wo.setCell ⟨wa.heap.size,0,none⟩ (.int .i64 (st.i:Int))).setCell ⟨wa.heap.size,1,none⟩ (.int .i64 85) = wf at *
 refine bodyPost_ret (by simp [results,Tryz.results15,go_sem,f0,f1]; try rfl) rfl ?_
 exact ⟨rfl,hb⟩
set_option maxRecDepth 100000 in
set_option maxHeartbeats 32000000 in
theorem take_add (B:Nat) (s:ByteArray) (st:TkS) (v:Value) (cs:List Value) (kd:Int) (t:ByteArray) (a0:Int) (x3:Bool) (x4 x5:Option Addr) (n4 c4 n5 c5:Nat) (w:World) (hS:ScS w B 41 s st v cs) (hl:st.l.length < 16384) (hk:kd ≠ 5) (hi:st.i + t.size ≤ 65536) :
  Calls Tryz.prog 15 #[.pointer (some ⟨B,0,none⟩),.agg #[.int .i64 kd,.string t,.int .i64 a0,.bool x3,.slice x4 n4 c4,.slice x5 n5 c5]] w fun e w' => e = .returned (fltV 0 0) ∧ ∃ v' cs',ScS w' B 41 s ⟨st.i + t.size,true,st.l ++ [t]⟩ v' cs' ∧ ScC w w' B v v':=by
 obtain ⟨wa,hwa⟩:∃ x,w.alloc (.cells #[.int .i64 kd,.string t,.int .i64 a0,.bool x3,.slice x4 n4 c4,.slice x5 n5 c5] 41) = x:=⟨_,rfl⟩
 obtain ⟨wo,hwo⟩:∃ x,wa.alloc (.cells #[.int .i64 0,.int .i64 0] 33) = x:=⟨_,rfl⟩
 have ba:Below w.heap.size w wa:=by rw [← hwa]; exact bAl
 have bo:Below wa.heap.size wa wo:=by rw [← hwo]; exact bAl
 have bT:BoxL wo w.heap.size [.int .i64 kd,.string t,.int .i64 a0,.bool x3,.slice x4 n4 c4,.slice x5 n5 c5]:=by have:=BoxL.made w #[.int .i64 kd,.string t,.int .i64 a0,.bool x3,.slice x4 n4 c4,.slice x5 n5 c5] 41; rw [hwa] at this; exact this.below bo
 have bO:BoxL wo wa.heap.size [.int .i64 0,.int .i64 0]:=by have:=BoxL.made wa #[.int .i64 0,.int .i64 0] 33; rw [hwo] at this; exact this
 have bao:Below w.heap.size w wo:=ba.trans (bo.mono ba.size)
 have sz:wa.heap.size = w.heap.size + 1:=by rw [← hwa]; simp
 have sS:=hS.below bao
 have hBl:=hS.box.lt
 obtain ⟨av,cv,rfl⟩:=hS.row.form
 have c1:=(sS.box.all 1 _ rfl).1
 have c1f:=(sS.box.all 1 _ rfl).2
 have c3:=(sS.box.all 3 _ rfl).1
 have c3f:=(sS.box.all 3 _ rfl).2
 have p0:=(bT.all 0 _ rfl).1
 have p1:=(bT.all 1 _ rfl).1
 have p2:=(bT.all 2 _ rfl).1
 have p2f:=(bT.all 2 _ rfl).2
 have p3:=(bT.all 3 _ rfl).1
 have p4:=(bT.all 4 _ rfl).1
 have p5:=(bT.all 5 _ rfl).1
 have tk:((st.l.length:Int) == 16384) = false:=by simp; omega
 have nT:w.heap.size ≠ B:=by omega
 obtain ⟨i41,hi41,hz41,hs41,hb41⟩:=info_parts Tryz.info_tok
 have I41:=Hj (And.intro hi41 (And.intro hz41 (And.intro hs41 hb41)))
 -- the token's place is written
 obtain ⟨w2,hw2⟩:∃ x,wo.setCell ⟨w.heap.size,2,none⟩ (.int .i64 (st.i:Int)) = x:=⟨_,rfl⟩
 have k2:Chg (fun j => j = w.heap.size) wo w2:=by rw [← hw2]; exact Chg.of_set _ _ _ _ rfl
 have bT2:BoxL w2 w.heap.size [.int .i64 kd,.string t,.int .i64 (st.i:Int),.bool x3,.slice x4 n4 c4,.slice x5 n5 c5]:=by rw [← hw2]; exact bT.put 2 _
 have bO2:BoxL w2 wa.heap.size [.int .i64 0,.int .i64 0]:=bO.chg k2 (by omega)
 have sB2:=sS.box.chg k2 (by omega)
 have sR2:=sS.row.chg k2 (fun j hj e => by have:=(hS.row.ge hj).2; omega)
 have q0:=(bT2.all 0 _ rfl).1
 have q1:=(bT2.all 1 _ rfl).1
 have q2:=(bT2.all 2 _ rfl).1
 have q3:=(bT2.all 3 _ rfl).1
 have q4:=(bT2.all 4 _ rfl).1
 have q5:=(bT2.all 5 _ rfl).1
 have d1:=(sB2.all 1 _ rfl).1
 have d1f:=(sB2.all 1 _ rfl).2
 have d2:=(sB2.all 2 _ rfl).1
 have d2f:=(sB2.all 2 _ rfl).2
 have d3:=(sB2.all 3 _ rfl).1
 have d3f:=(sB2.all 3 _ rfl).2
 have HOw:=Hj (fun (o:Obj) => (sR2.chg (S:=fun _ => False) (Chg.of_drew _) (fun _ _ => id)).own.alloc o)
 have HX:=Hj (And.intro bT2 (And.intro bO2 (And.intro sB2 sR2)))
 have HY:=Hj (And.intro bao (And.intro k2 (And.intro hS bO)))
 have h2s:wo.heap.size ≤ w2.heap.size:=k2.size
 have hos:wo.heap.size = w.heap.size + 2:=by rw [← hwo]; simp; omega
 have h2e:w2.heap.size = w.heap.size + 2:=by rw [← hw2]; simp; omega
 have HSZ:=Hj (And.intro sz (And.intro hos h2e))
 have hB2:B < w2.heap.size:=by omega
 have hT2:w.heap.size < w2.heap.size:=by omega
 clear bT bO bao sS hS ba bo bT2 bO2 sB2 sR2 k2 hi41 hz41 hs41 hb41 h2s sz hos h2e
 go_enter Tryz.func15,Tryz.ntmps15
 go_wp2_with fail
 go_region_law (refine step_append_lies _ rfl _ _ 31 rfl (B + 1) 41 i41 _ 6 88 Tryz.underlying31 (Uh I41).1 (Uh I41).2.1 (Uh I41).2.2.1 (Uh I41).2.2.2 rfl (by decide) (.slice av st.l.length cv) st.l.length cs rfl (Uh HOw _) ⟨w2.heap.size,0,none⟩ 1 1 [.int .i64 kd,.string t,.int .i64 (st.i:Int),.bool x3,.slice x4 n4 c4,.slice x5 n5 c5] rfl rfl (World.news_of_block (alloc_block _ _)) (tok_cells _ _ _ _ _ _ rfl rfl rfl rfl rfl rfl) (by decide) (by unfold maxLen; omega) (by omega) (by have h:=Uh HSZ; first | (simp; omega) | simp | omega) (w2.heap.size + 1) (by simp) ?_; intro g3 c3' w5 hown5 hgrow5 hat5 hlt5; have L5:Chg (fun j => (Value.slice av st.l.length cv).ownBlock = some j) w2 w5:=((Chg.of_drew _).trans (Chg.of_alloc _ _)).trans (Chg.of_grown hgrow5 (fun k hk => hk)); have nB:¬ (Value.slice av st.l.length cv).ownBlock = some B:=(fun e => by have:=((Uh HX).2.2.2.ge e).1; omega); have sB5:=(Uh HX).2.2.1.chg L5 nB; have e1:=(sB5.all 1 _ rfl).1; have e1f:=(sB5.all 1 _ rfl).2; have e2:=(sB5.all 2 _ rfl).1; have e2f:=(sB5.all 2 _ rfl).2; have e3:=(sB5.all 3 _ rfl).1; have e3f:=(sB5.all 3 _ rfl).2; have F5:=Hj (And.intro hown5 (And.intro hat5 (And.intro L5 sB5))); clear hown5 hgrow5 hat5 hlt5 L5 nB sB5)
 all_goals
  have hg3:0 ≤ g3:=Nat.zero_le _
  obtain ⟨hown5,hat5,L5,sB5⟩:=Uh F5
  obtain ⟨bT2,bO2,sB2,sR2⟩:=Uh HX
  obtain ⟨bao,k2,hS,bO⟩:=Uh HY
  obtain ⟨sz,hos,h2e⟩:=Uh HSZ
  have nT5:¬ (Value.slice av st.l.length cv).ownBlock = some w.heap.size:=fun e => by have:=(hS.row.ge e).2; omega
  have nO5:¬ (Value.slice av st.l.length cv).ownBlock = some wa.heap.size:=fun e => by have:=(hS.row.ge e).2; omega
  have bT6:=(bT2.chg L5 nT5).other 3 (.slice (some ⟨g3,0,none⟩) (st.l.length + 1) c3') nT
  have bO6:=(bO2.chg L5 nO5).other 3 (.slice (some ⟨g3,0,none⟩) (st.l.length + 1) c3') (show wa.heap.size ≠ B by omega)
  have sB6:=sB5.put 3 (.slice (some ⟨g3,0,none⟩) (st.l.length + 1) c3')
  have rT:RoT w5 (B + 1) 41 (.slice (some ⟨g3,0,none⟩) (st.l.length + 1) c3') (st.l ++ [t]) (cs ++ [.int .i64 kd,.string t,.int .i64 (st.i:Int),.bool x3,.slice x4 n4 c4,.slice x5 n5 c5]):=sR2.app hown5
  have nw:∀ j,((.slice (some ⟨g3,0,none⟩) (st.l.length + 1) c3'):Value).ownBlock = some j → (Value.slice av st.l.length cv).ownBlock = some j ∨ w.heap.size ≤ j:=fun j hj => by
   simp [Value.ownBlock] at hj
   subst hj
   rcases hat5 with c | c
   ·exact .inl c
   ·exact .inr (by omega)
  have C5:Chg (fun j => j = B ∨ (Value.slice av st.l.length cv).ownBlock = some j) w w5:=by
   refine ((Chg.of_below bao).thens k2 (fun k hk e => by omega)).thens L5 (fun k hk e => .inr e)
  have gB:g3 ≠ B:=fun e => by
   rcases hat5 with c | c
   ·have:=(sR2.ge c).1; omega
   ·omega
  have gO:g3 ≠ wa.heap.size:=fun e => by
   rcases hat5 with c | c
   ·have:=(hS.row.ge c).2; omega
   ·omega
  have HF:=Hj (And.intro rT (And.intro nw (And.intro C5 (And.intro bT6 (And.intro bO6 (And.intro sB6 (And.intro gB gO)))))))
  have r0:=(bT6.all 0 _ rfl).1
  have r1:=(bT6.all 1 _ rfl).1
  have m1:=(sB6.all 1 _ rfl).1
  have m1f:=(sB6.all 1 _ rfl).2
  have m2:=(sB6.all 2 _ rfl).1
  have m2f:=(sB6.all 2 _ rfl).2
  clear hown5 hat5 L5 sB5 bT2 bO2 sB2 sR2 bao k2 hS bO nT5 nO5 bT6 rT nw C5 gB gO e1 e1f e2 e2f e3 e3f hg3 sz hos h2e q0 q1 q2 q3 q4 q5 d1 d1f d2 d2f d3 d3f p0 p1 p2 p2f p3 p4 p5 c1 c1f c3 c3f
  obtain ⟨w6,hw6⟩:∃ x,w5.setCell ⟨B,3,none⟩ (.slice (some ⟨g3,0,none⟩) (st.l.length + 1) c3') = x:=⟨_,rfl⟩
  rw [hw6] at r0 r1 m1 m1f m2 m2f bO6 sB6 HF
  have tkd:(kd != 5) = true:=by simp; exact hk
  have tkd':¬ kd = 5:=hk
  have bO8:=(bO6.other 1 (.int .i64 (((st.i + t.size:Nat)):Int)) (show wa.heap.size ≠ B by have:=Uh HSZ; omega)).other 2 (.bool true) (show wa.heap.size ≠ B by have:=Uh HSZ; omega)
  have sB7:=sB6.put 1 (.int .i64 ((st.i + t.size:Nat):Int))
  have m3:=(sB7.all 2 _ rfl).1
  have m3f:=(sB7.all 2 _ rfl).2
  have hsum:(st.i:Int) + (t.size:Int) = ((st.i + t.size:Nat):Int):=by omega
  have o0:=(bO8.all 0 _ rfl).1
  have o0f:=(bO8.all 0 _ rfl).2
  have o1:=(bO8.all 1 _ rfl).1
  have o1f:=(bO8.all 1 _ rfl).2
  obtain ⟨n8,hn8⟩:∃ n:Nat,st.i + t.size = n:=⟨_,rfl⟩
  rw [hn8] at hsum m3 m3f o0 o0f o1 o1f
  have HN:=Hj hn8
  clear bO8 sB7 bO6 sB6 hn8
  go_wp2_with fail
  go_region
  go_wp2_with fail
  obtain ⟨rT,nw,C5,bT6,bO6,sB6,gB,nG⟩:=Uh HF
  obtain ⟨sz,hos,h2e⟩:=Uh HSZ
  have nOB:wa.heap.size ≠ B:=by omega
  have nBO:B ≠ wa.heap.size:=by omega
  obtain hn8:=Uh HN
  obtain ⟨SS,hSS⟩:∃ S:Nat → Prop,S = (fun j => j = B ∨ j = wa.heap.size):=⟨_,rfl⟩
  have hS1:∀ j,j = B → SS j:=fun j e => by rw [hSS]; exact .inl e
  have hS2:∀ j,j = wa.heap.size → SS j:=fun j e => by rw [hSS]; exact .inr e
  have hS3:∀ j,SS j → j = B ∨ j = wa.heap.size:=fun j e => by rw [hSS] at e; exact e
  have fB:=((((sB6.put 1 (.int .i64 (n8:Int))).put 2 (.bool true)).other (Y:=wa.heap.size) 0 (.int .i64 0) nBO).other (Y:=wa.heap.size) 1 (.int .i64 0) nBO).chg (S:=fun _ => False) (Chg.of_drew _) (fun x => x)
  have fO:=((((bO6.other (Y:=B) 1 (.int .i64 (n8:Int)) nOB).other (Y:=B) 2 (.bool true) nOB).put 0 (.int .i64 0)).put 1 (.int .i64 0)).chg (S:=fun _ => False) (Chg.of_drew _) (fun x => x)
  have CC:Chg SS w5 ((((w6.setCell ⟨B,1,none⟩ (.int .i64 (n8:Int))).setCell ⟨B,2,none⟩ (.bool true)).setCell ⟨wa.heap.size,0,none⟩ (.int .i64 0)).setCell ⟨wa.heap.size,1,none⟩ (.int .i64 0)).drew:=by
   have k0:Chg SS w5 w6:=by rw [← hw6]; exact Chg.of_set _ _ _ _ (hS1 _ rfl)
   exact ((((((k0.trans (Chg.of_set (S:=SS) w6 B 1 (.int .i64 (n8:Int)) (hS1 _ rfl))).trans (Chg.of_set (S:=SS) (w6.setCell ⟨B,1,none⟩ (.int .i64 (n8:Int))) B 2 (.bool true) (hS1 _ rfl))).trans (Chg.of_set (S:=SS) ((w6.setCell ⟨B,1,none⟩ (.int .i64 (n8:Int))).setCell ⟨B,2,none⟩ (.bool true)) wa.heap.size 0 (.int .i64 0) (hS2 _ rfl))).trans (Chg.of_set (S:=SS) (((w6.setCell ⟨B,1,none⟩ (.int .i64 (n8:Int))).setCell ⟨B,2,none⟩ (.bool true)).setCell ⟨wa.heap.size,0,none⟩ (.int .i64 0)) wa.heap.size 1 (.int .i64 0) (hS2 _ rfl)))).trans (Chg.of_drew _))
  have fR:=rT.chg CC (fun j hj e => by
   simp [Value.ownBlock] at hj
   subst hj
   rcases hS3 _ e with d | d
   ·exact gB d
   ·exact nG d)
  have fC:=C5.thens CC (fun k hk e => by
   rcases hS3 _ e with d | d
   ·exact .inl d
   ·omega)
  have f0:=(fO.all 0 _ rfl).1
  have f1:=(fO.all 1 _ rfl).1
  generalize ((((w6.setCell ⟨B,1,none⟩ (.int .i64 (n8:Int))).setCell ⟨B,2,none⟩ (.bool true)).setCell ⟨wa.heap.size,0,none⟩ (.int .i64 0)).setCell ⟨wa.heap.size,1,none⟩ (.int .i64 0)).drew = wf at *
  refine bodyPost_ret (by simp [results,Tryz.results15,go_sem,f0,f1]; try rfl) rfl ?_
  rw [hn8]
  exact ⟨rfl,_,_,⟨fB,fR⟩,⟨fC,nw⟩⟩
set_option maxRecDepth 100000 in
set_option maxHeartbeats 32000000 in
theorem take_end (B:Nat) (s:ByteArray) (st:TkS) (v:Value) (cs:List Value) (t:ByteArray) (a0:Int) (x3:Bool) (x4 x5:Option Addr) (n4 c4 n5 c5:Nat) (w:World) (hS:ScS w B 41 s st v cs) (hl:st.l.length < 16384) :
  Calls Tryz.prog 15 #[.pointer (some ⟨B,0,none⟩),.agg #[.int .i64 5,.string t,.int .i64 a0,.bool x3,.slice x4 n4 c4,.slice x5 n5 c5]] w fun e w' => e = .returned (fltV 0 0) ∧ ∃ v' cs',ScS w' B 41 s ⟨st.i,st.b,st.l ++ [t]⟩ v' cs' ∧ ScC w w' B v v':=by
 obtain ⟨wa,hwa⟩:∃ x,w.alloc (.cells #[.int .i64 5,.string t,.int .i64 a0,.bool x3,.slice x4 n4 c4,.slice x5 n5 c5] 41) = x:=⟨_,rfl⟩
 obtain ⟨wo,hwo⟩:∃ x,wa.alloc (.cells #[.int .i64 0,.int .i64 0] 33) = x:=⟨_,rfl⟩
 have ba:Below w.heap.size w wa:=by rw [← hwa]; exact bAl
 have bo:Below wa.heap.size wa wo:=by rw [← hwo]; exact bAl
 have bT:BoxL wo w.heap.size [.int .i64 5,.string t,.int .i64 a0,.bool x3,.slice x4 n4 c4,.slice x5 n5 c5]:=by have:=BoxL.made w #[.int .i64 5,.string t,.int .i64 a0,.bool x3,.slice x4 n4 c4,.slice x5 n5 c5] 41; rw [hwa] at this; exact this.below bo
 have bO:BoxL wo wa.heap.size [.int .i64 0,.int .i64 0]:=by have:=BoxL.made wa #[.int .i64 0,.int .i64 0] 33; rw [hwo] at this; exact this
 have bao:Below w.heap.size w wo:=ba.trans (bo.mono ba.size)
 have sz:wa.heap.size = w.heap.size + 1:=by rw [← hwa]; simp
 have sS:=hS.below bao
 have hBl:=hS.box.lt
 obtain ⟨av,cv,rfl⟩:=hS.row.form
 have c1:=(sS.box.all 1 _ rfl).1
 have c1f:=(sS.box.all 1 _ rfl).2
 have c3:=(sS.box.all 3 _ rfl).1
 have c3f:=(sS.box.all 3 _ rfl).2
 have p0:=(bT.all 0 _ rfl).1
 have p1:=(bT.all 1 _ rfl).1
 have p2:=(bT.all 2 _ rfl).1
 have p2f:=(bT.all 2 _ rfl).2
 have p3:=(bT.all 3 _ rfl).1
 have p4:=(bT.all 4 _ rfl).1
 have p5:=(bT.all 5 _ rfl).1
 have tk:((st.l.length:Int) == 16384) = false:=by simp; omega
 have nT:w.heap.size ≠ B:=by omega
 obtain ⟨i41,hi41,hz41,hs41,hb41⟩:=info_parts Tryz.info_tok
 have I41:=Hj (And.intro hi41 (And.intro hz41 (And.intro hs41 hb41)))
 -- the token's place is written
 obtain ⟨w2,hw2⟩:∃ x,wo.setCell ⟨w.heap.size,2,none⟩ (.int .i64 (st.i:Int)) = x:=⟨_,rfl⟩
 have k2:Chg (fun j => j = w.heap.size) wo w2:=by rw [← hw2]; exact Chg.of_set _ _ _ _ rfl
 have bT2:BoxL w2 w.heap.size [.int .i64 5,.string t,.int .i64 (st.i:Int),.bool x3,.slice x4 n4 c4,.slice x5 n5 c5]:=by rw [← hw2]; exact bT.put 2 _
 have bO2:BoxL w2 wa.heap.size [.int .i64 0,.int .i64 0]:=bO.chg k2 (by omega)
 have sB2:=sS.box.chg k2 (by omega)
 have sR2:=sS.row.chg k2 (fun j hj e => by have:=(hS.row.ge hj).2; omega)
 have q0:=(bT2.all 0 _ rfl).1
 have q1:=(bT2.all 1 _ rfl).1
 have q2:=(bT2.all 2 _ rfl).1
 have q3:=(bT2.all 3 _ rfl).1
 have q4:=(bT2.all 4 _ rfl).1
 have q5:=(bT2.all 5 _ rfl).1
 have d1:=(sB2.all 1 _ rfl).1
 have d1f:=(sB2.all 1 _ rfl).2
 have d2:=(sB2.all 2 _ rfl).1
 have d2f:=(sB2.all 2 _ rfl).2
 have d3:=(sB2.all 3 _ rfl).1
 have d3f:=(sB2.all 3 _ rfl).2
 have HOw:=Hj (fun (o:Obj) => (sR2.chg (S:=fun _ => False) (Chg.of_drew _) (fun _ _ => id)).own.alloc o)
 have HX:=Hj (And.intro bT2 (And.intro bO2 (And.intro sB2 sR2)))
 have HY:=Hj (And.intro bao (And.intro k2 (And.intro hS bO)))
 have h2s:wo.heap.size ≤ w2.heap.size:=k2.size
 have hos:wo.heap.size = w.heap.size + 2:=by rw [← hwo]; simp; omega
 have h2e:w2.heap.size = w.heap.size + 2:=by rw [← hw2]; simp; omega
 have HSZ:=Hj (And.intro sz (And.intro hos h2e))
 have hB2:B < w2.heap.size:=by omega
 have hT2:w.heap.size < w2.heap.size:=by omega
 clear bT bO bao sS hS ba bo bT2 bO2 sB2 sR2 k2 hi41 hz41 hs41 hb41 h2s sz hos h2e
 go_enter Tryz.func15,Tryz.ntmps15
 go_wp2_with fail
 go_region_law (refine step_append_lies _ rfl _ _ 31 rfl (B + 1) 41 i41 _ 6 88 Tryz.underlying31 (Uh I41).1 (Uh I41).2.1 (Uh I41).2.2.1 (Uh I41).2.2.2 rfl (by decide) (.slice av st.l.length cv) st.l.length cs rfl (Uh HOw _) ⟨w2.heap.size,0,none⟩ 1 1 [.int .i64 5,.string t,.int .i64 (st.i:Int),.bool x3,.slice x4 n4 c4,.slice x5 n5 c5] rfl rfl (World.news_of_block (alloc_block _ _)) (tok_cells _ _ _ _ _ _ rfl rfl rfl rfl rfl rfl) (by decide) (by unfold maxLen; omega) (by omega) (by have h:=Uh HSZ; first | (simp; omega) | simp | omega) (w2.heap.size + 1) (by simp) ?_; intro g3 c3' w5 hown5 hgrow5 hat5 hlt5; have L5:Chg (fun j => (Value.slice av st.l.length cv).ownBlock = some j) w2 w5:=((Chg.of_drew _).trans (Chg.of_alloc _ _)).trans (Chg.of_grown hgrow5 (fun k hk => hk)); have nB:¬ (Value.slice av st.l.length cv).ownBlock = some B:=(fun e => by have:=((Uh HX).2.2.2.ge e).1; omega); have sB5:=(Uh HX).2.2.1.chg L5 nB; have e1:=(sB5.all 1 _ rfl).1; have e1f:=(sB5.all 1 _ rfl).2; have e2:=(sB5.all 2 _ rfl).1; have e2f:=(sB5.all 2 _ rfl).2; have e3:=(sB5.all 3 _ rfl).1; have e3f:=(sB5.all 3 _ rfl).2; have F5:=Hj (And.intro hown5 (And.intro hat5 (And.intro L5 sB5))); clear hown5 hgrow5 hat5 hlt5 L5 nB sB5)
 all_goals
  have hg3:0 ≤ g3:=Nat.zero_le _
  obtain ⟨hown5,hat5,L5,sB5⟩:=Uh F5
  obtain ⟨bT2,bO2,sB2,sR2⟩:=Uh HX
  obtain ⟨bao,k2,hS,bO⟩:=Uh HY
  obtain ⟨sz,hos,h2e⟩:=Uh HSZ
  have nT5:¬ (Value.slice av st.l.length cv).ownBlock = some w.heap.size:=fun e => by have:=(hS.row.ge e).2; omega
  have nO5:¬ (Value.slice av st.l.length cv).ownBlock = some wa.heap.size:=fun e => by have:=(hS.row.ge e).2; omega
  have bT6:=(bT2.chg L5 nT5).other 3 (.slice (some ⟨g3,0,none⟩) (st.l.length + 1) c3') nT
  have bO6:=(bO2.chg L5 nO5).other 3 (.slice (some ⟨g3,0,none⟩) (st.l.length + 1) c3') (show wa.heap.size ≠ B by omega)
  have sB6:=sB5.put 3 (.slice (some ⟨g3,0,none⟩) (st.l.length + 1) c3')
  have rT:RoT w5 (B + 1) 41 (.slice (some ⟨g3,0,none⟩) (st.l.length + 1) c3') (st.l ++ [t]) (cs ++ [.int .i64 5,.string t,.int .i64 (st.i:Int),.bool x3,.slice x4 n4 c4,.slice x5 n5 c5]):=sR2.app hown5
  have nw:∀ j,((.slice (some ⟨g3,0,none⟩) (st.l.length + 1) c3'):Value).ownBlock = some j → (Value.slice av st.l.length cv).ownBlock = some j ∨ w.heap.size ≤ j:=fun j hj => by
   simp [Value.ownBlock] at hj
   subst hj
   rcases hat5 with c | c
   ·exact .inl c
   ·exact .inr (by omega)
  have C5:Chg (fun j => j = B ∨ (Value.slice av st.l.length cv).ownBlock = some j) w w5:=by
   refine ((Chg.of_below bao).thens k2 (fun k hk e => by omega)).thens L5 (fun k hk e => .inr e)
  have gB:g3 ≠ B:=fun e => by
   rcases hat5 with c | c
   ·have:=(sR2.ge c).1; omega
   ·omega
  have gO:g3 ≠ wa.heap.size:=fun e => by
   rcases hat5 with c | c
   ·have:=(hS.row.ge c).2; omega
   ·omega
  have HF:=Hj (And.intro rT (And.intro nw (And.intro C5 (And.intro bT6 (And.intro bO6 (And.intro sB6 (And.intro gB gO)))))))
  have r0:=(bT6.all 0 _ rfl).1
  have r1:=(bT6.all 1 _ rfl).1
  have m1:=(sB6.all 1 _ rfl).1
  have m1f:=(sB6.all 1 _ rfl).2
  have m2:=(sB6.all 2 _ rfl).1
  have m2f:=(sB6.all 2 _ rfl).2
  clear hown5 hat5 L5 sB5 bT2 bO2 sB2 sR2 bao k2 hS bO nT5 nO5 bT6 rT nw C5 gB gO e1 e1f e2 e2f e3 e3f hg3 sz hos h2e q0 q1 q2 q3 q4 q5 d1 d1f d2 d2f d3 d3f p0 p1 p2 p2f p3 p4 p5 c1 c1f c3 c3f
  obtain ⟨w6,hw6⟩:∃ x,w5.setCell ⟨B,3,none⟩ (.slice (some ⟨g3,0,none⟩) (st.l.length + 1) c3') = x:=⟨_,rfl⟩
  rw [hw6] at r0 r1 m1 m1f m2 m2f bO6 sB6 HF
  have o0:=(bO6.all 0 _ rfl).1
  have o0f:=(bO6.all 0 _ rfl).2
  have o1:=(bO6.all 1 _ rfl).1
  have o1f:=(bO6.all 1 _ rfl).2
  clear bO6 sB6
  go_wp2_with fail
  obtain ⟨rT,nw,C5,bT6,bO6,sB6,gB,nG⟩:=Uh HF
  obtain ⟨sz,hos,h2e⟩:=Uh HSZ
  have nOB:wa.heap.size ≠ B:=by omega
  have nBO:B ≠ wa.heap.size:=by omega
  obtain ⟨SS,hSS⟩:∃ S:Nat → Prop,S = (fun j => j = B ∨ j = wa.heap.size):=⟨_,rfl⟩
  have hS1:∀ j,j = B → SS j:=fun j e => by rw [hSS]; exact .inl e
  have hS2:∀ j,j = wa.heap.size → SS j:=fun j e => by rw [hSS]; exact .inr e
  have hS3:∀ j,SS j → j = B ∨ j = wa.heap.size:=fun j e => by rw [hSS] at e; exact e
  have fB:=((sB6.other (Y:=wa.heap.size) 0 (.int .i64 0) nBO).other (Y:=wa.heap.size) 1 (.int .i64 0) nBO)
  have fO:=((bO6.put 0 (.int .i64 0)).put 1 (.int .i64 0))
  have CC:Chg SS w5 ((w6.setCell ⟨wa.heap.size,0,none⟩ (.int .i64 0)).setCell ⟨wa.heap.size,1,none⟩ (.int .i64 0)):=by
   have k0:Chg SS w5 w6:=by rw [← hw6]; exact Chg.of_set _ _ _ _ (hS1 _ rfl)
   exact ((((k0.trans (Chg.of_set (S:=SS) w6 wa.heap.size 0 (.int .i64 0) (hS2 _ rfl))).trans (Chg.of_set (S:=SS) (w6.setCell ⟨wa.heap.size,0,none⟩ (.int .i64 0)) wa.heap.size 1 (.int .i64 0) (hS2 _ rfl)))))
  have fR:=rT.chg CC (fun j hj e => by
   simp [Value.ownBlock] at hj
   subst hj
   rcases hS3 _ e with d | d
   ·exact gB d
   ·exact nG d)
  have fC:=C5.thens CC (fun k hk e => by
   rcases hS3 _ e with d | d
   ·exact .inl d
   ·omega)
  have f0:=(fO.all 0 _ rfl).1
  have f1:=(fO.all 1 _ rfl).1
  generalize ((w6.setCell ⟨wa.heap.size,0,none⟩ (.int .i64 0)).setCell ⟨wa.heap.size,1,none⟩ (.int .i64 0)) = wf at *
  refine bodyPost_ret (by simp [results,Tryz.results15,go_sem,f0,f1]; try rfl) rfl ?_
  exact ⟨rfl,_,_,⟨fB,fR⟩,⟨fC,nw⟩⟩
end Go.Proofs.YtjoaijbhpgekoaaGreatDoor
