/- Sp6 -/
import Derived.Test.YtgjokididdffhaaGreatSp5
import Derived.Test.YtgjokididdffhaaGreatDa1
namespace Go.Proofs.YtgjokididdffhaaGreat
open Go.RowKit Go.Deep
set_option linter.unusedVariables false
theorem Tryz.info_cellN:(Tryz.prog.info? 217).map (fun i => (i.zero,i.size,i.bytes)) = some (some (.agg #[.int .i64 0]),1,8):=by kernel_rfl
theorem Tryz.info_linesN:(Tryz.prog.info? 215).map (fun i => (i.zero,i.size,i.bytes)) = some (some (.slice none 0 0),1,24):=by kernel_rfl
theorem make_linesN (n:Nat) (hn:n ≤ 1000000) (w:World):(Instr.makeSlice 176 (.int .i64 (n:Int)) (.int .i64 (n:Int))).run Tryz.prog w = .ok (.slice (some ⟨w.heap.size,0,none⟩) n n) (w.alloc (.cells (madeCells #[.slice none 0 0] n) 215)) :=
 run_make_row' (P:=Tryz.prog) 176 215 (.slice none 0 0) 24 Tryz.underlying176 Tryz.info_linesN rfl .i64 .i64 n (by omega) (by omega) w
structure LnG (W:World) (t L R:Nat) (f:Nat → Value) (xs:Nat → List Int):Prop where
 row:W.rowIs L 215 R f
 own:∀ r,r < R → W.ownsRow t 217 1 (f r) (xs r).length (valsI (xs r))
 apart:∀ r s,r < R → s < R → r ≠ s → ∀ g,(f r).ownBlock = some g → (f s).ownBlock ≠ some g
theorem LnG.congr {W:World} {t L R:Nat} {f:Nat → Value} {xs ys:Nat → List Int} (h:LnG W t L R f xs) (e:∀ r,r < R → xs r = ys r):LnG W t L R f ys:=⟨h.row,fun r hr => by rw [← e r hr]; exact h.own r hr,h.apart⟩
theorem LnG.chg {S:Nat → Prop} {W W':World} {t L R:Nat} {f:Nat → Value} {xs:Nat → List Int} (h:LnG W t L R f xs) (k:Chg S W W') (hL:¬ S L) (hs:∀ j,t ≤ j → j < W.heap.size → ¬ S j):LnG W' t L R f xs :=
 ⟨h.row.of_block (k.block L h.row.lt hL),fun r hr => ownsRow_chg (h.own r hr) k (fun j hj => hs j (own_ge (h.own r hr) j hj).1 (own_ge (h.own r hr) j hj).2),h.apart⟩
theorem LnG.below {W W':World} {t L R:Nat} {f:Nat → Value} {xs:Nat → List Int} (h:LnG W t L R f xs) (k:Below W.heap.size W W'):LnG W' t L R f xs:=h.chg (S:=fun _ => False) (Chg.of_below k) (fun x => x) (fun _ _ _ x => x)
theorem LnG.app {W W3:World} {t L R k:Nat} {f:Nat → Value} {xs:Nat → List Int} {x:Int} {g cap:Nat} (h:LnG W t L R f xs) (hk:k < R) (hL:L < t) (ht:t ≤ W.heap.size) (o:Obj) (hown:W3.ownsRow t 217 1 (.slice (some ⟨g,0,none⟩) ((xs k).length + 1) cap) ((xs k).length + 1) (valsI (xs k) ++ [.int .i64 x])) (hg:(W.alloc o).grownBy W3 (f k).ownBlock) (hat:(f k).ownBlock = some g ∨ g = W.heap.size + 1) :
  LnG (W3.setCell ⟨L,k,none⟩ (.slice (some ⟨g,0,none⟩) ((xs k).length + 1) cap)) t L R (fun r => if r = k then .slice (some ⟨g,0,none⟩) ((xs k).length + 1) cap else f r) (fun r => if r = k then xs k ++ [x] else xs r) ∧ Chg (fun j => j = L ∨ t ≤ j) W (W3.setCell ⟨L,k,none⟩ (.slice (some ⟨g,0,none⟩) ((xs k).length + 1) cap)):=by
 have hB:Below t W W3:=Below.grown ((Below.refl t W).alloc ht o) hg (by simp; omega) (fun j hj => (own_ge (h.own k hk) j hj).1)
 have hc:Chg (fun j => j = L) W3 (W3.setCell ⟨L,k,none⟩ (.slice (some ⟨g,0,none⟩) ((xs k).length + 1) cap)):=Chg.of_set _ _ _ _ rfl
 have hgL:some L ≠ (f k).ownBlock:=fun e => by have:=(own_ge (h.own k hk) L e.symm).1; omega
 have hgt:t ≤ g:=by
  rcases hat with e | e
  ·exact (own_ge (h.own k hk) g e).1
  ·omega
 refine ⟨⟨((h.row.alloc o).of_block (hg.block L (by simp; omega) hgL)).set k _,fun r hr => ?_,fun r s hr hs hne j hj hj2 => ?_⟩,⟨hc.os.trans hB.os,hc.tape.trans hB.tape,hc.output.trans hB.output,Nat.le_trans hB.size hc.size,fun j hj hS => ?_⟩⟩
 ·by_cases e:r = k
  ·subst e
   simp only [if_true]
   refine ownsRow_chg (by simpa [valsI] using hown) hc (fun j hj => ?_)
   have:g = j:=by simpa [Value.ownBlock] using hj
   omega
  ·simp only [e,if_false]
   have h1:=((h.own r hr).alloc o).kept hg (by
    cases hu:(f r).ownBlock with
    | none => exact .inl rfl
    | some j =>
     right
     intro e2
     exact h.apart r k hr hk e j hu e2.symm)
   exact ownsRow_chg h1 hc (fun j hj => by have:=(own_ge (h.own r hr) j hj).1; omega)
 ·by_cases e1:r = k
  ·have e2:s ≠ k:=fun e => hne (e1.trans e.symm)
   simp only [e1,if_true] at hj
   simp only [e2,if_false] at hj2
   have hj':g = j:=by simpa [Value.ownBlock] using hj
   subst hj'
   rcases hat with e | e
   ·exact h.apart k s hk hs (fun z => e2 z.symm) _ e hj2
   ·have:=(own_ge (h.own s hs) _ hj2).2; omega
  ·simp only [e1,if_false] at hj
   by_cases e2:s = k
   ·simp only [e2,if_true] at hj2
    have hj':g = j:=by simpa [Value.ownBlock] using hj2
    subst hj'
    rcases hat with e | e
    ·exact h.apart r k hr hk e1 _ hj e
    ·have:=(own_ge (h.own r hr) _ hj).2; omega
   ·simp only [e2,if_false] at hj2
    exact h.apart r s hr hs hne j hj hj2
 ·rw [hc.block j (Nat.lt_of_lt_of_le hj hB.size) (fun e => hS (.inl e)),hB.block j (by rcases Nat.lt_or_ge j t with c | c; exact c; exact absurd (.inr c) hS)]
def rowC (st cols:List Int) (r:Nat):List Int:=(cols.drop (st.getD r 0).toNat).take ((st.getD (r + 1) 0).toNat - (st.getD r 0).toNat)
def rdX (st cols:List Int) (k i:Nat) (r:Nat):List Int:=if r < k then rowC st cols r else if r = k then (cols.drop (st.getD k 0).toNat).take (i - (st.getD k 0).toNat) else []
theorem rdX_start {st cols:List Int} {k X:Nat} (hX:st.getD k 0 = (X:Int)) (r:Nat):rdX st cols k X r = if r < k then rowC st cols r else []:=by
 unfold rdX
 rw [hX]
 split
 ·rfl
 ·split
  ·simp
  ·rfl
theorem rdX_end {st cols:List Int} {k Y:Nat} (hY:st.getD (k + 1) 0 = (Y:Int)) (r:Nat):rdX st cols k Y r = if r < k + 1 then rowC st cols r else []:=by
 unfold rdX
 by_cases h1:r < k
 ·rw [if_pos h1,if_pos (by omega)]
 ·by_cases h2:r = k
  ·subst h2
   rw [if_neg (by omega),if_pos rfl,if_pos (by omega)]
   unfold rowC
   rw [hY]
   rfl
  ·rw [if_neg h1,if_neg h2,if_neg (by omega)]
theorem rdX_step {st cols:List Int} {k X i:Nat} {x:Int} (hX:st.getD k 0 = (X:Int)) (h1:X ≤ i) (h2:i < cols.length) (hx:cols.getD i 0 = x) (r:Nat):rdX st cols k (i + 1) r = if r = k then rdX st cols k i k ++ [x] else rdX st cols k i r:=by
 unfold rdX
 rw [hX]
 by_cases e:r = k
 ·subst e
  simp only [Nat.lt_irrefl,if_false,if_true]
  show (cols.drop X).take (i + 1 - X) = (cols.drop X).take (i - X) ++ [x]
  rw [show i + 1 - X = (i - X) + 1 by omega,List.take_add_one]
  congr 1
  subst hx
  rw [List.getElem?_drop,show X + (i - X) = i by omega]
  simp [h2,List.getD]
 ·simp only [e,if_false]
structure RdB (s:Nat) (wo W:World) (G L R:Nat) (width:Int):Prop where
 box:BoxP W G [.int .i64 width,.slice (some ⟨L,0,none⟩) R R]
 blk:W.rowIs L 215 R (fun _ => .slice none 0 0)
 ne:G ≠ L
 g0:s ≤ G
 l0:s ≤ L
 lt:L < W.heap.size
 bel:Below s wo W
theorem made_get (R r:Nat) (h:r < R):(madeCells #[Value.slice none 0 0] R)[r]? = some (.slice none 0 0):=by simp [madeCells,h,Nat.mod_one]
theorem BoxP.drew {w:World} {X:Nat} {vs:List Value} (h:BoxP w X vs):BoxP w.drew X vs:=h.below (Below.refl _ _).drew
theorem rdA (wo:World) (R:Nat) (width:Int) (s:Nat) (hs:s = wo.heap.size):RdB s wo ((wo.alloc (.cells (madeCells #[.slice none 0 0] R) 215)).alloc (.cells #[.int .i64 width,.slice (some ⟨wo.heap.size,0,none⟩) R R] 178)).drew (wo.heap.size + 1) wo.heap.size R width:=by
 subst hs
 have e:(wo.alloc (.cells (madeCells #[.slice none 0 0] R) 215)).heap.size = wo.heap.size + 1:=by simp
 refine ⟨?_,⟨_,?_,size_madeCells _ _,made_get R⟩,by omega,by omega,Nat.le_refl _,by simp; omega,((bAl).alloc (by simp) _).drew⟩
 ·have:=(BoxP.made (wo.alloc (.cells (madeCells #[.slice none 0 0] R) 215)) #[.int .i64 width,.slice (some ⟨wo.heap.size,0,none⟩) R R] 178).drew
  rw [e] at this
  exact this
 ·exact (((Below.refl (wo.alloc (.cells (madeCells #[.slice none 0 0] R) 215)).heap.size _).alloc (Nat.le_refl _) _).drew.block _ (by simp)).trans (alloc_block _ _)
theorem rdC (wo:World) (R:Nat) (width:Int) (s:Nat) (hs:s = wo.heap.size):RdB s wo ((wo.alloc (.cells #[.int .i64 width,.slice (some ⟨wo.heap.size + 1,0,none⟩) R R] 178)).alloc (.cells (madeCells #[.slice none 0 0] R) 215)).drew wo.heap.size (wo.heap.size + 1) R width:=by
 subst hs
 have e:(wo.alloc (.cells #[.int .i64 width,.slice (some ⟨wo.heap.size + 1,0,none⟩) R R] 178)).heap.size = wo.heap.size + 1:=by simp
 refine ⟨?_,⟨_,?_,size_madeCells _ _,made_get R⟩,by omega,Nat.le_refl _,by omega,by simp,((bAl).alloc (by simp) _).drew⟩
 ·exact ((BoxP.made wo #[.int .i64 width,.slice (some ⟨wo.heap.size + 1,0,none⟩) R R] 178).below (bAl)).drew
 ·have:=alloc_block (wo.alloc (.cells #[.int .i64 width,.slice (some ⟨wo.heap.size + 1,0,none⟩) R R] 178)) (.cells (madeCells #[.slice none 0 0] R) 215)
  rw [e] at this
  exact this
def RdP (R:Nat) (width:Int) (st cols:List Int) (w w':World) (e:Ending):Prop:=∃ t L f,(w.heap.size ≤ L ∧ L < t) ∧ e = .returned (.agg #[.int .i64 width,.slice (some ⟨L,0,none⟩) R R]) ∧ LnG w' t L R f (rowC st cols) ∧ Below w.heap.size w w'
set_option maxRecDepth 100000 in
set_option maxHeartbeats 16000000 in
theorem sread_any (R:Nat) (width:Int) (a1 a2:Option Addr) (n1 c1 n2 c2:Nat) (st cols:List Int) (vb:Nat) (w:World) (h1:SlI w a1 n1 c1 st) (h2:SlI w a2 n2 c2 cols) (hb1:n1 ≤ 17592186044000) (hb2:n2 ≤ 17592186044000) (hm:MayP (R:Int) width st cols) :
  Calls Tryz.prog 138 #[patV (R:Int) width a1 n1 c1 a2 n2 c2,.slice (some ⟨vb,0,none⟩) n2 n2] w fun e w' => RdP R width st cols w w' e:=by
 obtain ⟨wb,hwb⟩:∃ x,w.alloc (.cells #[.int .i64 (R:Int),.int .i64 width,.slice a1 n1 c1,.slice a2 n2 c2] 25) = x:=⟨_,rfl⟩
 have bb:Below w.heap.size w wb:=by rw [← hwb]; exact bAl
 have hT:=BoxP.made w #[.int .i64 (R:Int),.int .i64 width,.slice a1 n1 c1,.slice a2 n2 c2] 25
 rw [hwb] at hT
 have hO0:=BoxP.made wb #[.int .i64 0,.slice none 0 0] 178
 obtain ⟨wo,hwo⟩:∃ x,wb.alloc (.cells #[.int .i64 0,.slice none 0 0] 178) = x:=⟨_,rfl⟩
 have bo:Below wb.heap.size wb wo:=by rw [← hwo]; exact bAl
 rw [hwo] at hO0
 have hT1:=hT.below bo
 have p0:=(hT1.all 0 _ rfl).1
 have p1:=(hT1.all 1 _ rfl).1
 have p2:=(hT1.all 2 _ rfl).1
 have p3:=(hT1.all 3 _ rfl).1
 have hfit:=hm.head.fit
 have hmk:=fun w => make_linesN R (by omega) w
 have hlt1:w.heap.size < wo.heap.size:=hT1.lt
 have hlt2:wb.heap.size < wo.heap.size:=hO0.lt
 have hne1:w.heap.size ≠ wo.heap.size:=by omega
 have p0x:∀ o:Obj,(wo.alloc o).cell? ⟨w.heap.size,0,none⟩ = some (.int .i64 (R:Int)):=fun o => by rw [World.cell?_alloc_lt _ _ _ hlt1]; exact p0
 have p1x:∀ o:Obj,(wo.alloc o).cell? ⟨w.heap.size,1,none⟩ = some (.int .i64 width):=fun o => by rw [World.cell?_alloc_lt _ _ _ hlt1]; exact p1
 obtain ⟨s,hs0⟩:∃ s,s = wo.heap.size:=⟨_,rfl⟩
 have HS0:=Hj hs0
 have bbo:=bb.trans (bo.mono bb.size)
 have HLW:=Hj (And.intro (fun hne => (h1.below bbo).block_lt hne) (fun hne => (h2.below bbo).block_lt hne))
 have HP:=Hj (And.intro hT1 hO0)
 have HS:=Hj (And.intro (h1.below bbo) (h2.below bbo))
 have HM:=Hj hm
 have HB:=Hj bbo
 have HLN:=Hj (And.intro h1.len (And.intro h2.len hm.head.len))
 obtain ⟨ic,hi,hz,hs,hb⟩:=info_parts Tryz.info_cellN
 have HI:=Hj (And.intro hi (And.intro hz (And.intro hs hb)))
 clear hi hz hs hb
 have HWB:=Hj (And.intro hlt1 (And.intro hlt2 bb.size))
 clear hs0 bb bo bbo h1 h2 hm hT hT1 hO0
 clear hfit
 unfold patV
 go_enter Tryz.func138,Tryz.ntmps138
 go_wp2_with fail
 go_region
 have HD0:=rdA wo R width s (Uh HS0)
 generalize ((wo.alloc (.cells (madeCells #[.slice none 0 0] R) 215)).alloc (.cells #[.int .i64 width,.slice (some ⟨wo.heap.size,0,none⟩) R R] 178)).drew = W at HD0 ⊢
 generalize wo.heap.size + 1 = G at HD0 ⊢
 generalize wo.heap.size = L at HD0 ⊢
 have HD:=Hj HD0
 clear HD0
 rotate_left
 have HD0:=rdC wo R width s (Uh HS0)
 generalize ((wo.alloc (.cells #[.int .i64 width,.slice (some ⟨wo.heap.size + 1,0,none⟩) R R] 178)).alloc (.cells (madeCells #[.slice none 0 0] R) 215)).drew = W at HD0 ⊢
 generalize wo.heap.size + 1 = L at HD0 ⊢
 generalize wo.heap.size = G at HD0 ⊢
 have HD:=Hj HD0
 clear HD0
 rotate_left
 all_goals
  obtain ⟨t,htW⟩:∃ t,W.heap.size = t:=⟨_,rfl⟩
  have HTW:=Hj htW
  have HBX:=Hj (show ∀ W',Chg (fun j => j = L ∨ t ≤ j) W W' → (BoxP W' w.heap.size [.int .i64 (R:Int),.int .i64 width,.slice a1 n1 c1,.slice a2 n2 c2] ∧ BoxP W' wb.heap.size [.int .i64 0,.slice none 0 0] ∧ BoxP W' G [.int .i64 width,.slice (some ⟨L,0,none⟩) R R]) ∧ SlI W' a1 n1 c1 st ∧ SlI W' a2 n2 c2 cols from fun W' c => by
   have d:=Uh HD
   have hs:=Uh HS0
   have hl:=Uh HLW
   have l1:=(Uh HP).1.lt
   have l2:=(Uh HP).2.lt
   have hbw:Below wo.heap.size wo W:=hs ▸ d.bel
   have hgl:=d.box.lt
   have hws:=hbw.size
   have n1':¬ (w.heap.size = L ∨ t ≤ w.heap.size):=by have:=d.l0; omega
   have n2':¬ (wb.heap.size = L ∨ t ≤ wb.heap.size):=by have:=d.l0; omega
   have n3':¬ (G = L ∨ t ≤ G):=by have:=d.ne; omega
   exact ⟨⟨((Uh HP).1.below hbw).chg c n1',((Uh HP).2.below hbw).chg c n2',d.box.chg c n3'⟩,((Uh HS).1.below hbw).chg c (fun z hz hne e => by have:=hl.1 hne z hz; have:=d.l0; omega),((Uh HS).2.below hbw).chg c (fun z hz hne e => by have:=hl.2 hne z hz; have:=d.l0; omega)⟩)
  have HLt:=Hj (show L < t from by rw [← htW]; exact (Uh HD).lt)
  have hb0:=Uh HBX W (Chg.refl _ _)
  have g1:=(hb0.1.2.2.all 1 _ rfl).1
  clear htW hb0
  go_wp2_with fail
  go_loopw [17,6] (fun kv _ wr => ∃ k:Nat,k ≤ R ∧ kv = .int .i64 (k:Int) ∧ Hid (∃ f,LnG wr t L R f (fun r => if r < k then rowC st cols r else []) ∧ Chg (fun j => j = L ∨ t ≤ j) W wr)) (fun kv _ _ => R - (intOf kv).toNat)
  case atStart => exact ⟨0,Nat.zero_le _,rfl,Hj ⟨fun _ => .slice none 0 0,⟨(Uh HD).blk,fun r hr => World.ownsRow_nil _ _ _ _,fun r s _ _ _ g hg => (by simp [Value.ownBlock] at hg)⟩,Chg.refl _ _⟩⟩
  case round =>
   obtain ⟨k,hk,rfl,HX⟩:=hrel
   clear g1
   by_cases hlt:k < R
   ·have hlt':(k:Int) < (R:Int):=by omega
    obtain ⟨X,Y,hRow⟩:=(Uh HM).rowAt (k:=k) (by omega)
    have hbx:=Uh HBX wr (Uh HX).choose_spec.2
    have p2:=(hbx.1.1.all 2 _ rfl).1
    have hln:=Uh HLN
    obtain ⟨b1,o1,rfl,hc1⟩:=hbx.2.1.at (by omega)
    have sk:=hc1 k (by omega)
    rw [hRow.hX] at sk
    have tk1:(k:Int) < (n1:Int):=by omega
    have tk2:(k:Int) + 1 < (n1:Int):=by omega
    have hrl:=hRow.le
    have hrt:=hRow.lt
    have HRow:=Hj hRow
    have HX0:=Hj (show ∃ f,LnG wr t L R f (rdX st cols k X) ∧ Chg (fun j => j = L ∨ t ≤ j) W wr from by
     obtain ⟨f,h,c⟩:=Uh HX
     exact ⟨f,h.congr (fun r hr => (rdX_start hRow.hX r).symm),c⟩)
    clear hc1 hln hRow hbx HX
    go_wp2_with fail
    go_loopw [7] (fun iv wq => ∃ i:Nat,X ≤ i ∧ i ≤ Y ∧ iv = .int .i64 (i:Int) ∧ Hid (∃ f,LnG wq t L R f (rdX st cols k i) ∧ Chg (fun j => j = L ∨ t ≤ j) W wq)) (fun iv _ => Y - (intOf iv).toNat)
    case atStart => exact ⟨X,Nat.le_refl _,hrl,rfl,HX0⟩
    case round =>
     clear p2 sk
     obtain ⟨i,hi1,hi2,rfl,HQ⟩:=hrel
     obtain ⟨f,hL,hC⟩:=Uh HQ
     have hbx:=Uh HBX wr hC
     have p2:=(hbx.1.1.all 2 _ rfl).1
     have p3:=(hbx.1.1.all 3 _ rfl).1
     have g1:=(hbx.1.2.2.all 1 _ rfl).1
     obtain ⟨b1',o1',e1,hc1⟩:=hbx.2.1.at (by omega)
     cases e1
     have sk1:=hc1 (k + 1) (by have:=Uh HLN; omega)
     rw [(Uh HRow).hY] at sk1
     by_cases hin:i < Y
     ·have hin':(i:Int) < (Y:Int):=by omega
      have h22:=(Uh HLN).2.1
      obtain ⟨b2,o2,rfl,hc2⟩:=hbx.2.2.at (by omega)
      have sc:=hc2 i (by omega)
      obtain ⟨x,hx⟩:∃ x,cols.getD i 0 = x:=⟨_,rfl⟩
      rw [hx] at sc
      have hin2:(i:Int) < (n2:Int):=by omega
      have lk:=hL.row.cell hlt
      have lf:=hL.row.frozen k
      obtain ⟨v,hv⟩:∃ v,f k = v:=⟨_,rfl⟩
      rw [hv] at lk
      have HL:=Hj hL
      have HC:=Hj hC
      have HV:=Hj hv
      have HXX:=Hj hx
      obtain ⟨ys,hys⟩:∃ ys,rdX st cols k i k = ys:=⟨_,rfl⟩
      have hyl:ys.length ≤ 17592186044000:=by
       rw [← hys]
       unfold rdX
       rw [if_neg (by omega),if_pos rfl,List.length_take]
       omega
      have how:=hL.own k hlt
      rw [hv,hys] at how
      have HOW:=Hj how
      have HYS:=Hj hys
      have htw:t ≤ wr.heap.size:=by have:=hC.size; rw [Uh HTW] at this; exact this
      have hLt:=Uh HLt
      have hLw:L < wr.heap.size:=by omega
      have hGt:G < t:=by have:=(Uh HD).box.lt; rw [Uh HTW] at this; exact this
      have hGw:G < wr.heap.size:=by omega
      have hPt:w.heap.size < t:=by have:=(Uh HWB).1; have:=(Uh HD).l0; have:=Uh HS0; omega
      have hPw:w.heap.size < wr.heap.size:=by omega
      have hBt0:b2 < wo.heap.size:=(Uh HLW).2 (fun e => by rw [e] at h22; simp at h22; omega) _ rfl
      have hBt:b2 < t:=by have:=Uh HS0; have:=(Uh HD).l0; omega
      have hBw:b2 < wr.heap.size:=by omega
      have hvP:some w.heap.size ≠ v.ownBlock:=fun e => by have:=(own_ge how _ e.symm).1; omega
      have hvB:some b2 ≠ v.ownBlock:=fun e => by have:=(own_ge how _ e.symm).1; omega
      have hvG:some G ≠ v.ownBlock:=fun e => by have:=(own_ge how G e.symm).1; omega
      have hvL:some L ≠ v.ownBlock:=fun e => by have:=(own_ge how L e.symm).1; omega
      have hmx:ys.length + 1 ≤ maxLen:=by unfold maxLen; omega
      have hby:(ys.length + 1) * 8 ≤ 140737488355328:=by omega
      have hzf:Array.foldl (fun (cs:Array Value) (x:Value × Nat) => cs.setIfInBounds x.snd x.fst) #[Value.int .i64 0] (#[]:Array Value).zipIdx 0 0 = #[Value.int .i64 0]:=rfl
      have hone:∀ u ∈ [Value.int .i64 x],u.oneCell' = true:=by intro u hu; simp at hu; subst hu; rfl
      clear hc1 hc2 hbx hx h22 hL hC HQ hv hys how
      go_wp2_with fail
      have hHeld:(fun w' => w'.cell? ⟨G,1,none⟩ = some (.slice (some ⟨L,0,none⟩) R R) ∧ w'.cell? ⟨L,k,none⟩ = some v ∧ w'.cell? ⟨w.heap.size,3,none⟩ = some (.slice (some ⟨b2,o2,none⟩) n2 c2) ∧ w'.cell? ⟨b2,o2 + i,none⟩ = some (.int .i64 x)) wr.drew:=⟨g1,lk,p3,sc⟩
      refine anyTill_region (fun w' => w'.cell? ⟨G,1,none⟩ = some (.slice (some ⟨L,0,none⟩) R R) ∧ w'.cell? ⟨L,k,none⟩ = some v ∧ w'.cell? ⟨w.heap.size,3,none⟩ = some (.slice (some ⟨b2,o2,none⟩) n2 c2) ∧ w'.cell? ⟨b2,o2 + i,none⟩ = some (.int .i64 x)) 21 (by kernel_rfl) ?_
      refine anyTill_take (i:=0) (v:=?_) rfl rfl (by kernel_rfl) (by kernel_rfl) (by kernel_rfl) (by kernel_rfl) (fun _ _ _ h => h) (Or.inl ⟨by rfl,?_⟩) (by assumption) ?_
      rotate_left 1
      ·intro W hSw
       try dsimp only at hSw
       go_simp
       try with_reducible rfl
      refine anyTill_take (i:=1) (v:=?_) rfl rfl (by kernel_rfl) (by kernel_rfl) (by kernel_rfl) (by kernel_rfl) (fun _ _ _ h => h) (Or.inl ⟨by rfl,?_⟩) (by assumption) ?_
      rotate_left 1
      ·intro W hSw
       try dsimp only at hSw
       go_simp
       try with_reducible rfl
      refine anyTill_take (i:=2) (v:=?_) rfl rfl (by kernel_rfl) (by kernel_rfl) (by kernel_rfl) (by kernel_rfl) (fun _ _ _ h => h) (Or.inl ⟨by rfl,?_⟩) (by assumption) ?_
      rotate_left 1
      ·intro W hSw
       try dsimp only at hSw
       go_simp
       try with_reducible rfl
      refine anyTill_take (i:=3) (v:=?_) rfl rfl (by kernel_rfl) (by kernel_rfl) (by kernel_rfl) (by kernel_rfl) (fun _ _ _ h => h) (Or.inl ⟨by rfl,?_⟩) (by assumption) ?_
      rotate_left 1
      ·intro W hSw
       try dsimp only at hSw
       go_simp
       try with_reducible rfl
      refine anyTill_take (i:=4) (v:=?_) rfl rfl (by kernel_rfl) (by kernel_rfl) (by kernel_rfl) (by kernel_rfl) (fun _ _ _ h => h) (Or.inl ⟨by rfl,?_⟩) (by assumption) ?_
      rotate_left 1
      ·intro W hSw
       try dsimp only at hSw
       go_simp
       try with_reducible rfl
      refine anyTill_take (i:=5) (v:=?_) rfl rfl (by kernel_rfl) (by kernel_rfl) (by kernel_rfl) (by kernel_rfl) (fun _ _ _ h => h) (Or.inl ⟨by rfl,?_⟩) (by assumption) ?_
      rotate_left 1
      ·intro W hSw
       try dsimp only at hSw
       go_simp
       try with_reducible rfl
      refine anyTill_take (i:=6) (v:=?_) rfl rfl (by kernel_rfl) (by kernel_rfl) (by kernel_rfl) (by kernel_rfl) (fun _ _ _ h => h) (Or.inl ⟨by rfl,?_⟩) (by assumption) ?_
      rotate_left 1
      ·intro W hSw
       try dsimp only at hSw
       go_simp
       try with_reducible rfl
      refine anyTill_take (i:=7) (v:=?_) rfl rfl (by kernel_rfl) (by kernel_rfl) (by kernel_rfl) (by kernel_rfl) (fun _ _ _ h => h) (Or.inl ⟨by rfl,?_⟩) (by assumption) ?_
      rotate_left 1
      ·intro W hSw
       try dsimp only at hSw
       go_simp
       try with_reducible rfl
      refine anyTill_take (i:=8) (v:=?_) rfl rfl (by kernel_rfl) (by kernel_rfl) (by kernel_rfl) (by kernel_rfl) (fun _ _ _ h => h) (Or.inl ⟨by rfl,?_⟩) (by assumption) ?_
      rotate_left 1
      ·intro W hSw
       try dsimp only at hSw
       go_simp
       try with_reducible rfl
      refine anyTill_take (i:=9) (v:=?_) rfl rfl (by kernel_rfl) (by kernel_rfl) (by kernel_rfl) (by kernel_rfl) (fun _ _ _ h => h) (Or.inl ⟨by rfl,?_⟩) (by assumption) ?_
      rotate_left 1
      ·intro W hSw
       try dsimp only at hSw
       go_simp
       try with_reducible rfl
      refine anyTill_take (i:=10) (v:=?_) rfl rfl (by kernel_rfl) (by kernel_rfl) (by kernel_rfl) (by kernel_rfl) (fun _ _ _ h => h) (Or.inl ⟨by rfl,?_⟩) (by assumption) ?_
      rotate_left 1
      ·intro W hSw
       try dsimp only at hSw
       go_simp
       try with_reducible rfl
      refine anyTill_take (i:=11) (v:=?_) rfl rfl (by kernel_rfl) (by kernel_rfl) (by kernel_rfl) (by kernel_rfl) (fun _ _ _ h => h) (Or.inl ⟨by rfl,?_⟩) (by assumption) ?_
      rotate_left 1
      ·intro W hSw
       try dsimp only at hSw
       go_simp
       try with_reducible rfl
      refine anyTill_take (i:=12) (v:=?_) rfl rfl (by kernel_rfl) (by kernel_rfl) (by kernel_rfl) (by kernel_rfl) (fun _ _ _ h => h) (Or.inl ⟨by rfl,?_⟩) (by assumption) ?_
      rotate_left 1
      ·intro W hSw
       try dsimp only at hSw
       go_simp
       try with_reducible rfl
      refine anyTill_take (i:=13) (v:=?_) rfl rfl (by kernel_rfl) (by kernel_rfl) (by kernel_rfl) (by kernel_rfl) (fun _ _ _ h => h) (Or.inl ⟨by rfl,?_⟩) (by assumption) ?_
      rotate_left 1
      ·intro W hSw
       try dsimp only at hSw
       go_simp
       try with_reducible rfl
      refine anyTill_take (i:=14) (v:=?_) rfl rfl (by kernel_rfl) (by kernel_rfl) (by kernel_rfl) (by kernel_rfl) (fun _ _ _ h => h) (Or.inl ⟨by rfl,?_⟩) (by assumption) ?_
      rotate_left 1
      ·intro W hSw
       try dsimp only at hSw
       go_simp
       try with_reducible rfl
      refine anyTill_take (i:=15) (v:=?_) rfl rfl (by kernel_rfl) (by kernel_rfl) (by kernel_rfl) (by kernel_rfl) (fun _ _ _ h => h) (Or.inl ⟨by rfl,?_⟩) (by assumption) ?_
      rotate_left 1
      ·intro W hSw
       try dsimp only at hSw
       go_simp
       try with_reducible rfl
      refine anyTill_take (i:=16) (v:=?_) rfl rfl (by kernel_rfl) (by kernel_rfl) (by kernel_rfl) (by kernel_rfl) (fun _ _ _ h => h) (Or.inl ⟨by rfl,?_⟩) (by assumption) ?_
      rotate_left 1
      ·intro W hSw
       try dsimp only at hSw
       go_simp
       try with_reducible rfl
      refine anyTill_take (i:=17) (v:=?_) rfl rfl (by kernel_rfl) (by kernel_rfl) (by kernel_rfl) (by kernel_rfl) (fun _ _ _ h => h) (Or.inl ⟨by rfl,?_⟩) (by assumption) ?_
      rotate_left 1
      ·intro W hSw
       try dsimp only at hSw
       go_simp
       try with_reducible rfl
      clear hHeld
      refine anyTill_one (i:=18) (by kernel_rfl) rfl (by rfl) (fun K hK => ?_)
      go_simp
      have hHeld:(fun w' => w'.cell? ⟨G,1,none⟩ = some (.slice (some ⟨L,0,none⟩) R R) ∧ w'.cell? ⟨L,k,none⟩ = some v ∧ w'.cell? ⟨w.heap.size,3,none⟩ = some (.slice (some ⟨b2,o2,none⟩) n2 c2) ∧ w'.cell? ⟨b2,o2 + i,none⟩ = some (.int .i64 x)) (wr.alloc (Obj.cells #[Value.int IntKind.i64 x] 217)).drew:=⟨(World.cell?_alloc_lt _ _ _ hGw).trans g1,(World.cell?_alloc_lt _ _ _ hLw).trans lk,(World.cell?_alloc_lt _ _ _ hPw).trans p3,(World.cell?_alloc_lt _ _ _ hBw).trans sc⟩
      refine hK _ _ (fun _ => hHeld) ?_
      clear hK K hHeld
      refine anyTill_one (i:=19) (by kernel_rfl) rfl (by rfl) (fun K hK => ?_)
      refine wp_append_lies _ _ _ 215 rfl t 217 ic (.agg #[.int .i64 0]) 1 8 Tryz.underlying215 (Uh HI).1 (Uh HI).2.1 (Uh HI).2.2.1 (Uh HI).2.2.2 rfl (by decide) v ys.length (valsI ys) rfl ((Uh HOW).alloc _) ⟨wr.heap.size,0,none⟩ 1 1 [.int .i64 x] rfl rfl (World.news_of_block (alloc_block _ _)) hone (by decide) hmx hby (by simp <;> omega) (wr.heap.size + 1) (by simp) ?_
      intro g cap w6 hown6 hgrow6 hat6 hlt6
      have F6:=Hj (And.intro hown6 (And.intro hgrow6 hat6))
      have lk6:w6.cell? ⟨L,k,none⟩ = some v:=(hgrow6.cell_far ⟨L,k,none⟩ (by simp; omega) hvL).trans ((World.cell?_alloc_lt _ _ _ hLw).trans lk)
      have lf6:w6.frozen? ⟨L,k,none⟩ = false:=(hgrow6.frozen_far ⟨L,k,none⟩ (by simp; omega) hvL).trans ((World.frozen?_alloc_old _ _ _ (Nat.ne_of_lt hLw)).trans lf)
      have g6:w6.cell? ⟨G,1,none⟩ = some (.slice (some ⟨L,0,none⟩) R R):=(hgrow6.cell_far ⟨G,1,none⟩ (by simp; omega) hvG).trans ((World.cell?_alloc_lt _ _ _ hGw).trans g1)
      have q6:w6.cell? ⟨w.heap.size,3,none⟩ = some (.slice (some ⟨b2,o2,none⟩) n2 c2):=(hgrow6.cell_far ⟨w.heap.size,3,none⟩ (by simp; omega) hvP).trans ((World.cell?_alloc_lt _ _ _ hPw).trans p3)
      have s6:w6.cell? ⟨b2,o2 + i,none⟩ = some (.int .i64 x):=(hgrow6.cell_far ⟨b2,o2 + i,none⟩ (by simp; omega) hvB).trans ((World.cell?_alloc_lt _ _ _ hBw).trans sc)
      clear hown6 hgrow6 hat6 hlt6
      refine hK _ _ (fun _ => ⟨g6,lk6,q6,s6⟩) ?_
      clear hK K
      refine anyTill_one (i:=20) (by kernel_rfl) rfl (by rfl) (fun K hK => ?_)
      go_simp
      refine hK _ _ (fun _ => ⟨g6,lk6,q6,s6⟩) ?_
      clear hK K
      refine anyTill_one (i:=21) (by kernel_rfl) rfl (by rfl) (fun K hK => ?_)
      go_simp
      refine hK _ _ (fun h => absurd rfl h) ?_
      clear hK K
      refine anyTill_done (by kernel_rfl) ?_
      have HN:=Hj (LnG.app (x:=x) (Uh HL) hlt hLt htw (Obj.cells #[Value.int IntKind.i64 x] 217) (by rw [Uh HYS]; exact (Uh F6).1) (by rw [Uh HV]; exact (show (wr.alloc _).grownBy w6 _ from ⟨(Uh F6).2.1.os,(Uh F6).2.1.tape,(Uh F6).2.1.output,(Uh F6).2.1.size,(Uh F6).2.1.block⟩)) (by rw [Uh HV]; exact (Uh F6).2.2))
      rw [Uh HYS] at HN
      clear F6 g6 lk6 lf6 q6 s6
      go_wp2_with fail
      refine ⟨⟨i + 1,by omega,by omega,by (first | rfl | go_num),Hj ⟨_,(Uh HN).1.congr (fun r hr => ?_),(Uh HC).trans (Uh HN).2⟩⟩,by simp [intOf]; omega⟩
      rw [rdX_step (Uh HRow).hX hi1 (by omega) (Uh HXX) r,Uh HYS]
     ·obtain rfl:i = Y:=by omega
      have hin':¬ (i:Int) < (i:Int):=by omega
      have HL:=Hj (show ∃ f,LnG wr t L R f (fun r => if r < k + 1 then rowC st cols r else []) ∧ Chg (fun j => j = L ∨ t ≤ j) W wr from ⟨f,hL.congr (fun r hr => rdX_end (Uh HRow).hY r),hC⟩)
      clear hc1 hbx hL hC HQ
      go_wp2_with fail
      exact ⟨⟨k + 1,by omega,by (first | rfl | go_num),HL⟩,by simp [intOf]; omega⟩
   ·obtain rfl:k = R:=by omega
    have hlt':¬ (k:Int) < (k:Int):=by omega
    obtain ⟨f,hL,hC⟩:=Uh HX
    have hbx:=Uh HBX wr hC
    have g0:=(hbx.1.2.2.all 0 _ rfl).1
    have g1:=(hbx.1.2.2.all 1 _ rfl).1
    have q0:=(hbx.1.2.1.all 0 _ rfl).1
    have q1:=(hbx.1.2.1.all 1 _ rfl).1
    have r0:=(hbx.1.2.1.all 0 _ rfl).2
    have r1:=(hbx.1.2.1.all 1 _ rfl).2
    have HO:=Hj hbx.1.2.1
    have HL:=Hj hL
    have HC:=Hj hC
    clear hL hC hbx HX
    go_wp2_with fail
    have hf:=((Uh HO).put 0 (.int .i64 width)).put 1 (.slice (some ⟨L,0,none⟩) k k)
    have t0:=(hf.all 0 _ rfl).1
    have t1:=(hf.all 1 _ rfl).1
    have c2:Chg (fun j => j = wb.heap.size) wr ((wr.setCell ⟨wb.heap.size,0,none⟩ (.int .i64 width)).setCell ⟨wb.heap.size,1,none⟩ (.slice (some ⟨L,0,none⟩) k k)):=(Chg.of_set (S:=fun j => j = wb.heap.size) _ _ _ _ rfl).trans (Chg.of_set (S:=fun j => j = wb.heap.size) _ _ _ _ rfl)
    generalize (wr.setCell ⟨wb.heap.size,0,none⟩ (.int .i64 width)).setCell ⟨wb.heap.size,1,none⟩ (.slice (some ⟨L,0,none⟩) k k) = wf at *
    refine bodyPost_ret (by simp [results,Tryz.results138,go_sem,t0,t1]; try rfl) rfl ?_
    have hl2:=(Uh HWB).2.1
    have hl3:=(Uh HD).l0
    have hs0:=Uh HS0
    have hLt:=Uh HLt
    have hbs:=(Uh HB).size
    have hW:Below w.heap.size w W:=(Uh HB).trans ((hs0 ▸ (Uh HD).bel:Below wo.heap.size wo W).mono hbs)
    refine ⟨t,L,f,⟨by omega,hLt⟩,rfl,((Uh HL).congr (fun r hr => by rw [if_pos hr])).chg c2 (fun e => by omega) (fun j h1 h2 e => by omega),?_⟩
    exact hW.trans (((Uh HC).below hW.size (fun j hj e => by omega)).trans (c2.below (Nat.le_trans hW.size (Uh HC).size) (fun j hj e => by have:=(Uh HWB).2.2; omega)))
theorem Tryz.info_noneN:(Tryz.prog.info? 182).map (fun i => (i.zero,i.size,i.bytes)) = some (some (.agg #[]),0,0):=by kernel_rfl
theorem make_none (n:Nat) (hn:n ≤ 17592186044000) (w:World):(Instr.makeSlice 213 (.int .i64 (n:Int)) (.int .i64 (n:Int))).run Tryz.prog w = .ok (.slice (some ⟨w.heap.size,0,none⟩) n n) (w.alloc (.cells (madeCells #[] 0) 182)):=by
 obtain ⟨i,hi,hz,hs,hb⟩:=info_parts Tryz.info_noneN
 have hr:=run_make (P:=Tryz.prog) w 213 182 i (.agg #[]) Tryz.underlying213 hi hz .i64 .i64 n n (by omega) (Int.le_refl _) (by rw [hb]; simp) (by omega)
 simp only [Int.toNat_natCast,hs,Nat.mul_zero] at hr
 exact hr
set_option maxRecDepth 100000 in
set_option maxHeartbeats 16000000 in
theorem sgridOf_any (R:Nat) (width:Int) (a1 a2:Option Addr) (n1 c1 n2 c2:Nat) (st cols:List Int) (w:World) (h1:SlI w a1 n1 c1 st) (h2:SlI w a2 n2 c2 cols) (hb1:n1 ≤ 17592186044000) (hb2:n2 ≤ 17592186044000) (hm:MayP (R:Int) width st cols) :
  Calls Tryz.prog 117 #[patV (R:Int) width a1 n1 c1 a2 n2 c2] w fun e w' => RdP R width st cols w w' e:=by
 obtain ⟨wb,hwb⟩:∃ x,w.alloc (.cells #[.int .i64 (R:Int),.int .i64 width,.slice a1 n1 c1,.slice a2 n2 c2] 25) = x:=⟨_,rfl⟩
 have bb:Below w.heap.size w wb:=by rw [← hwb]; exact bAl
 have hT:=BoxP.made w #[.int .i64 (R:Int),.int .i64 width,.slice a1 n1 c1,.slice a2 n2 c2] 25
 rw [hwb] at hT
 have hO0:=BoxP.made wb #[.int .i64 0,.slice none 0 0] 178
 obtain ⟨wo,hwo⟩:∃ x,wb.alloc (.cells #[.int .i64 0,.slice none 0 0] 178) = x:=⟨_,rfl⟩
 have bo:Below wb.heap.size wb wo:=by rw [← hwo]; exact bAl
 rw [hwo] at hO0
 have hT1:=hT.below bo
 have p0:=(hT1.all 0 _ rfl).1
 have p1:=(hT1.all 1 _ rfl).1
 have p2:=(hT1.all 2 _ rfl).1
 have p3:=(hT1.all 3 _ rfl).1
 have hmk:=fun w => make_none n2 hb2 w
 have bbo:=bb.trans (bo.mono bb.size)
 have HB:=Hj bbo
 have HO:=Hj hO0
 have HWB:=Hj bb.size
 have hlt1:w.heap.size < wo.heap.size:=hT1.lt
 have hne1:w.heap.size ≠ wb.heap.size:=by have:=hT.lt; omega
 have hne2:wb.heap.size ≠ w.heap.size:=fun e => hne1 e.symm
 have KR:=Hj (fun (vb:Nat) (W:World) (k:Below wo.heap.size wo W) => sread_any R width a1 a2 n1 c1 n2 c2 st cols vb W ((h1.below bbo).below k) ((h2.below bbo).below k) hb1 hb2 hm)
 clear hT hT1 hO0 bb bo bbo h1 h2 hm
 unfold patV
 unfold patV at KR
 go_enter Tryz.func117,Tryz.ntmps117
 go_wp2_with fail
 go_region_held3 (fun w' => w'.cell? ⟨w.heap.size,0,none⟩ = some (.int .i64 (R:Int)) ∧ w'.cell? ⟨w.heap.size,1,none⟩ = some (.int .i64 width) ∧ w'.cell? ⟨w.heap.size,2,none⟩ = some (.slice a1 n1 c1) ∧ w'.cell? ⟨w.heap.size,3,none⟩ = some (.slice a2 n2 c2)) (first | go_keep | (exact ⟨k0,k1,k2,k3⟩))
  (first
   | (go_at_call 138; refine (Uh KR _ _ (by first | exact ((bAl).drew) | exact ((Below.refl _ _).drew.alloc (by simp) _))).mono ?_; rintro _ wk ⟨t,L,f,hLL,rfl,hL,bk⟩; have bk':Below wo.heap.size wo wk:=((bAl).drew).trans (bk.mono (by simp)); have k0:=(bk'.cell (p:=⟨w.heap.size,0,none⟩) hlt1).trans p0; have k1:=(bk'.cell (p:=⟨w.heap.size,1,none⟩) hlt1).trans p1; have k2:=(bk'.cell (p:=⟨w.heap.size,2,none⟩) hlt1).trans p2; have k3:=(bk'.cell (p:=⟨w.heap.size,3,none⟩) hlt1).trans p3; have hO:=(Uh HO).below bk'; have q0:=(hO.all 0 _ rfl).1; have q1:=(hO.all 1 _ rfl).1; have r0:=(hO.all 0 _ rfl).2; have r1:=(hO.all 1 _ rfl).2; have HOk:=Hj hO; have HL:=Hj (And.intro hL (show wo.heap.size ≤ L ∧ L < t from ⟨Nat.le_trans (by simp) hLL.1,hLL.2⟩)); have HBK:=Hj bk'; clear bk bk' hL hO hLL))
 clear k0 k1 k2 k3 q0 q1 r0 r1
 try go_wp2_with fail
 have hf:=((Uh HOk).put 0 (.int .i64 width)).put 1 (.slice (some ⟨L,0,none⟩) R R)
 have t0:=(hf.all 0 _ rfl).1
 have t1:=(hf.all 1 _ rfl).1
 have cc:Chg (fun j => j = wb.heap.size) wk ((wk.setCell ⟨wb.heap.size,0,none⟩ (.int .i64 width)).setCell ⟨wb.heap.size,1,none⟩ (.slice (some ⟨L,0,none⟩) R R)):=(Chg.of_set (S:=fun j => j = wb.heap.size) _ _ _ _ rfl).trans (Chg.of_set (S:=fun j => j = wb.heap.size) _ _ _ _ rfl)
 generalize (wk.setCell ⟨wb.heap.size,0,none⟩ (.int .i64 width)).setCell ⟨wb.heap.size,1,none⟩ (.slice (some ⟨L,0,none⟩) R R) = wf at *
 refine bodyPost_ret (by simp [results,Tryz.results117,go_sem,t0,t1]; try rfl) rfl ?_
 have hlt:=(Uh HO).lt
 refine ⟨t,L,f,⟨by have:=(Uh HL).2; have:=Uh HWB; omega,(Uh HL).2.2⟩,rfl,(Uh HL).1.chg cc (fun e => by have:=(Uh HL).2; omega) (fun j h1 h2 e => by have:=(Uh HL).2; omega),?_⟩
 exact ((Uh HB).trans ((Uh HBK).mono (Uh HB).size)).trans (cc.below (Nat.le_trans (Uh HB).size (Uh HBK).size) (fun j hj e => by have:=Uh HWB; omega))
end Go.Proofs.YtgjokididdffhaaGreat
