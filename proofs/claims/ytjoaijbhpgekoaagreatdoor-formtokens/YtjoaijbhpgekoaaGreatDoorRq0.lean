/- Ftd -/
import Derived.Test.YtjoaijbhpgekoaaGreatDoorFt8a
import Derived.Test.YtjoaijbhpgekoaaGreatDoorFta
import Derived.Test.YtjoaijbhpgekoaaGreatDoorFtb
import Derived.Test.YtjoaijbhpgekoaaGreatDoorRp4
import Derived.Test.YtjoaijbhpgekoaaGreatDoorPa6
import Derived.Test.YtjoaijbhpgekoaaGreatDoorFt2
import Derived.Test.YtjoaijbhpgekoaaGreatDoorBase
namespace Go.Proofs.YtjoaijbhpgekoaaGreatDoor
open Go.RowKit Go.Deep
set_option linter.unusedVariables false
def StepK (s:ByteArray) (w0:World):Prop:=∀ (w:World) (B:Nat) (st:TkS) (v:Value) (cs:List Value),ScS w B 41 s st v cs → st.i < s.size → st.l.length ≤ 16384 → Below w0.heap.size w0 w →
 ((stp s st).1 ≠ 0 → Calls Tryz.prog 11 #[.pointer (some ⟨B,0,none⟩)] w fun e w' => e = .returned (fltV (st.i:Int) ((stp s st).1:Nat)) ∧ ScC w w' B v v) ∧
 ((stp s st).1 = 0 → Calls Tryz.prog 11 #[.pointer (some ⟨B,0,none⟩)] w fun e w' => e = .returned (fltV 0 0) ∧ ∃ v' cs',ScS w' B 41 s (stp s st).2 v' cs' ∧ ScC w w' B v v')
def SpPost (w w':World) (r:List ByteArray × Nat × Nat) (e:Ending):Prop:=∃ sl cs base,e = .returned (.tuple #[sl,fltV (r.2.1:Nat) (r.2.2:Nat)]) ∧ RoT w' base 41 sl r.1 cs ∧ Below w.heap.size w w'
theorem tkadd_len {s:ByteArray} {st:TkS} {t:ByteArray} {j:Nat} {b:Bool} (h:st.l.length ≤ 16384):(tkAdd s st t j b).2.l.length ≤ 16384:=by
 unfold tkAdd
 split
 ·exact h
 ·rename_i c
  show (st.l ++ [t]).length ≤ 16384
  simp
  omega
theorem stp_len {s:ByteArray} {st:TkS} (h:st.l.length ≤ 16384):(stp s st).2.l.length ≤ 16384:=by
 unfold stp
 repeat (first | exact h | exact tkadd_len h | split)
def rdS (w:World) (B:Nat):Nat:=match w.cell? ⟨B,1,none⟩ with | some (.int _ z) => z.toNat | _ => 0
structure SpI (w wr:World) (s:ByteArray) (B:Nat) (st:TkS) (v:Value) (cs:List Value):Prop where
 sc:ScS wr B 41 s st v cs
 out:BoxL wr w.heap.size [.int .i64 0,.int .i64 0]
 bel:Below w.heap.size w wr
 own:∀ j,v.ownBlock = some j → w.heap.size < j
theorem SpI.rd {w wr:World} {s:ByteArray} {B:Nat} {st:TkS} {v:Value} {cs:List Value} (h:SpI w wr s B st v cs):rdS wr B = st.i:=by
 unfold rdS
 rw [(h.sc.box.all 1 _ rfl).1]
 simp
theorem SpI.step {w wr w':World} {s:ByteArray} {B:Nat} {st st':TkS} {v v':Value} {cs cs':List Value} (h:SpI w wr s B st v cs) (hB:w.heap.size < B) (k:ScC wr w' B v v') (hS:ScS w' B 41 s st' v' cs'):SpI w w' s B st' v' cs':=by
 refine ⟨hS,h.out.keep k (by omega) (fun e => by have:=h.own _ e; omega),h.bel.trans (k.chg.below h.bel.size (fun j hj e => ?_)),fun j hj => ?_⟩
 ·rcases e with d | d
  ·omega
  ·have:=h.own j d; omega
 ·rcases k.new j hj with d | d
  ·exact h.own j d
  ·have:=h.out.lt; omega
theorem SpI.below {w wr w':World} {s:ByteArray} {B:Nat} {st:TkS} {v:Value} {cs:List Value} (h:SpI w wr s B st v cs) (k:Below wr.heap.size wr w'):SpI w w' s B st v cs:=⟨h.sc.below k,h.out.below k,h.bel.trans (k.mono h.bel.size),h.own⟩
set_option maxRecDepth 100000 in
set_option maxHeartbeats 32000000 in
theorem split_long (s:ByteArray) (w:World) (hs:65536 < s.size) :
  Calls Tryz.prog 8 #[.string s] w fun e w' => SpPost w w' ([],65536,4) e:=by
 obtain ⟨wo,hwo⟩:∃ x,w.alloc (.cells #[.int .i64 0,.int .i64 0] 33) = x:=⟨_,rfl⟩
 have bo:Below w.heap.size w wo:=by rw [← hwo]; exact bAl
 have bO:BoxL wo w.heap.size [.int .i64 0,.int .i64 0]:=by have:=BoxL.made w #[.int .i64 0,.int .i64 0] 33; rw [hwo] at this; exact this
 have o0:=(bO.all 0 _ rfl).1
 have o0f:=(bO.all 0 _ rfl).2
 have o1:=(bO.all 1 _ rfl).1
 have o1f:=(bO.all 1 _ rfl).2
 have hs':(65536:Int) < (s.size:Int):=by omega
 have HB:=Hj (And.intro bO bo)
 clear bO bo
 go_enter Tryz.func8,Tryz.ntmps8
 go_wp2_with fail
 have hf:=((Uh HB).1.put 0 (.int .i64 65536)).put 1 (.int .i64 4)
 have f0:=(hf.all 0 _ rfl).1
 have f1:=(hf.all 1 _ rfl).1
 have hb:Below w.heap.size w ((wo.setCell ⟨w.heap.size,0,none⟩ (.int .i64 65536)).setCell ⟨w.heap.size,1,none⟩ (.int .i64 4)):=bel_put (bel_put (Uh HB).2 (by omega) (Nat.le_refl _) 0 _) (by omega) (Nat.le_refl _) 1 _
 generalize ((wo.setCell ⟨w.heap.size,0,none⟩ (.int .i64 65536)).setCell ⟨w.heap.size,1,none⟩ (.int .i64 4)) = wf at *
 refine bodyPost_ret (by simp [results,Tryz.results8,go_sem,f0,f1]; try rfl) rfl ?_
 exact ⟨_,_,0,rfl,RoT.nil _ _ _,hb⟩
set_option maxRecDepth 100000 in
set_option maxHeartbeats 32000000 in
theorem split_any (s:ByteArray) (w:World) (hs:s.size ≤ 65536) (hK:StepK s w) :
  Calls Tryz.prog 8 #[.string s] w fun e w' => SpPost w w' (resT s ⟨0,false,[]⟩) e:=by
 obtain ⟨wo,hwo⟩:∃ x,w.alloc (.cells #[.int .i64 0,.int .i64 0] 33) = x:=⟨_,rfl⟩
 have bo:Below w.heap.size w wo:=by rw [← hwo]; exact bAl
 have bO:BoxL wo w.heap.size [.int .i64 0,.int .i64 0]:=by have:=BoxL.made w #[.int .i64 0,.int .i64 0] 33; rw [hwo] at this; exact this
 have hs':¬ (65536:Int) < (s.size:Int):=by omega
 obtain ⟨ws,hws⟩:∃ x,wo.alloc (.cells #[.string s,.int .i64 0,.bool false,.slice none 0 0] 49) = x:=⟨_,rfl⟩
 have bs:Below wo.heap.size wo ws:=by rw [← hws]; exact bAl
 have bS:BoxL ws wo.heap.size [.string s,.int .i64 0,.bool false,.slice none 0 0]:=by have:=BoxL.made wo #[.string s,.int .i64 0,.bool false,.slice none 0 0] 49; rw [hws] at this; exact this
 have hzo:wo.heap.size = w.heap.size + 1:=by rw [← hwo]; simp
 have I0:=Hj (show SpI w ws s wo.heap.size ⟨0,false,[]⟩ (.slice none 0 0) [] from ⟨⟨bS,RoT.nil _ _ _⟩,bO.below bs,bo.trans (bs.mono bo.size),fun j hj => by cases hj⟩)
 obtain ⟨B,hB⟩:∃ B,wo.heap.size = B:=⟨_,rfl⟩
 have HK:=Hj hK
 have HZ:=Hj (And.intro hzo hB)
 generalize hX:resT s ⟨0,false,[]⟩ = X at *
 have HX:=Hj hX
 have HWS:=Hj hws
 clear bO bo bs bS hzo hB hK hX hws
 go_enter Tryz.func8,Tryz.ntmps8
 go_wp2_with fail
 go_loopw [13] (fun _ wr => ∃ st v cs,SpI w wr s wo.heap.size st v cs ∧ st.i ≤ s.size ∧ resT s st = X ∧ st.l.length ≤ 16384) (fun _ wr => s.size - rdS wr wo.heap.size)
 case atStart => exact ⟨_,_,_,by rw [Uh HWS]; exact Uh I0,Nat.zero_le _,Uh HX,Nat.zero_le _⟩
 case round =>
  obtain ⟨st,v,cs,hI,hle,hXs,hll⟩:=hrel
  have hz:=(Uh HZ).1
  have hBw:w.heap.size < wo.heap.size:=by omega
  have g1:=(hI.sc.box.all 1 _ rfl).1
  have rd:=hI.rd
  clear I0 hz
  by_cases hlt:st.i < s.size
  ·have hlt':(st.i:Int) < (s.size:Int):=by omega
   have K:=Uh HK wr wo.heap.size st v cs hI.sc hlt hll hI.bel
   by_cases hb:(stp s st).1 = 0
   ·have K2:=K.2 hb
    have hgo:=resT_go hlt hb
    have hgt:=stp_gt hlt hb
    unfold fltV at K2
    have HK2:=Hj K2
    have HI:=Hj (And.intro hI (And.intro rd (And.intro hgo (And.intro hgt hXs))))
    clear K K2 hI rd hgo hgt hXs hb
    go_wp2_with fail
    refine (Uh HK2).mono ?_
    rintro _ w2 ⟨rfl,v2,cs2,s2,k2⟩
    obtain ⟨hI,rd,hgo,hgt,hXs⟩:=Uh HI
    have hI2:=hI.step hBw k2 s2
    have hI3:=hI2.below ((Below.refl _ _).alloc (Nat.le_refl _) (.cells #[.int .i64 0,.int .i64 0] 33))
    have HI3:=Hj (And.intro hI3 (And.intro rd (And.intro hgo (And.intro hgt hXs))))
    clear hI rd hgo hgt hXs hI2 hI3 s2 k2 HK2 HI g1
    go_wp2_with fail
    obtain ⟨hI3,rd,hgo,hgt,hXs⟩:=Uh HI3
    exact ⟨⟨_,_,_,hI3,hgt.2,by rw [← hgo]; exact hXs,stp_len hll⟩,by rw [hI3.rd,rd]; omega⟩
   ·have K2:=K.1 hb
    have hbd:=resT_bad hlt hb
    unfold fltV at K2
    obtain ⟨er,her⟩:∃ er,(stp s st).1 = er:=⟨_,rfl⟩
    rw [her] at K2 hbd hb
    have te:((er:Int) != 0) = true:=by simp; omega
    have te':¬ (er:Int) = 0:=by omega
    have HK2:=Hj K2
    have HI:=Hj (And.intro hI (And.intro hbd hXs))
    clear K K2 hI rd hbd hXs hb her
    go_wp2_with fail
    refine (Uh HK2).mono ?_
    rintro _ w2 ⟨rfl,k2⟩
    obtain ⟨hI,hbd,hXs⟩:=Uh HI
    have bY:=hI.out.keep k2 (by omega) (fun e => by have:=hI.own _ e; omega)
    have hO2:=bY.lt
    have cY:Below w.heap.size w w2:=hI.bel.trans (k2.chg.below hI.bel.size (fun j hj e => by rcases e with d | d; omega; have:=hI.own j d; omega))
    have z0:=(bY.all 0 _ rfl).1
    have z0f:=(bY.all 0 _ rfl).2
    have z1:=(bY.all 1 _ rfl).1
    have z1f:=(bY.all 1 _ rfl).2
    have HF:=Hj (And.intro bY (And.intro cY (And.intro hbd hXs)))
    clear hI hbd hXs bY cY k2 HK2 HI g1
    go_wp2_with fail
    go_region
    go_wp2_with fail
    obtain ⟨bY,cY,hbd,hXs⟩:=Uh HF
    have hf:=(((bY.put 0 (.int .i64 (st.i:Int))).put 1 (.int .i64 (er:Int))).below ((Below.refl _ _).alloc (Nat.le_refl _) (.cells #[.int .i64 (st.i:Int),.int .i64 (er:Int)] 33))).below ((Below.refl _ _).drew)
    have f0:=(hf.all 0 _ rfl).1
    have f1:=(hf.all 1 _ rfl).1
    have hbb:Below w.heap.size w ((((w2.setCell ⟨w.heap.size,0,none⟩ (.int .i64 (st.i:Int))).setCell ⟨w.heap.size,1,none⟩ (.int .i64 (er:Int))).alloc (.cells #[.int .i64 (st.i:Int),.int .i64 (er:Int)] 33)).drew):=((bel_put (bel_put cY (by omega) (Nat.le_refl _) 0 _) (by omega) (Nat.le_refl _) 1 _).alloc (by have:=cY.size; simp; omega) _).drew
    generalize ((((w2.setCell ⟨w.heap.size,0,none⟩ (.int .i64 (st.i:Int))).setCell ⟨w.heap.size,1,none⟩ (.int .i64 (er:Int))).alloc (.cells #[.int .i64 (st.i:Int),.int .i64 (er:Int)] 33)).drew) = wf at *
    refine bodyPost_ret (by simp [results,Tryz.results8,go_sem,f0,f1]; try rfl) rfl ?_
    rw [← hXs,hbd]
    exact ⟨_,_,0,rfl,RoT.nil _ _ _,hbb⟩
  ·have hq:st.i = s.size:=by omega
   have hlt':¬ (st.i:Int) < (s.size:Int):=by omega
   have hen:=resT_end hq
   cases hb:st.b
   ·have K2:=end_no wo.heap.size s st v cs wr hI.sc hb
    unfold fltV at K2
    have HK2:=Hj K2
    have HI:=Hj (And.intro hI (And.intro hen (And.intro hXs hb)))
    clear K2 hI rd hen hXs hb
    go_wp2_with fail
    refine (Uh HK2).mono ?_
    rintro _ w2 ⟨rfl,b2⟩
    obtain ⟨hI,hen,hXs,hb⟩:=Uh HI
    have s2:=hI.sc.below b2
    have k2:ScC wr w2 wo.heap.size v v:=ScC.ofBelow b2
    have hI2:=hI.step hBw k2 s2
    have bY:=hI2.out
    have hB2:wo.heap.size < w2.heap.size:=hI2.sc.box.lt
    have hO2:w.heap.size < w2.heap.size:=bY.lt
    have y3:=(hI2.sc.box.all 3 _ rfl).1
    have z0:=(bY.all 0 _ rfl).1
    have z0f:=(bY.all 0 _ rfl).2
    have z1:=(bY.all 1 _ rfl).1
    have z1f:=(bY.all 1 _ rfl).2
    have HF:=Hj (And.intro hI2 (And.intro hen (And.intro hXs hb)))
    clear hI hen hXs hb hI2 bY s2 k2 HK2 HI g1
    go_wp2_with fail
    obtain ⟨hI2,hen,hXs,hb⟩:=Uh HF
    have hf:=((hI2.out.put 0 (.int .i64 0)).put 1 (.int .i64 0)).below ((Below.refl _ _).alloc (Nat.le_refl _) (.cells #[.int .i64 0,.int .i64 0] 33))
    have f0:=(hf.all 0 _ rfl).1
    have f1:=(hf.all 1 _ rfl).1
    have cY:=hI2.bel
    have hbb:Below w.heap.size w (((w2.setCell ⟨w.heap.size,0,none⟩ (.int .i64 0)).setCell ⟨w.heap.size,1,none⟩ (.int .i64 0)).alloc (.cells #[.int .i64 0,.int .i64 0] 33)):=(bel_put (bel_put cY (by omega) (Nat.le_refl _) 0 _) (by omega) (Nat.le_refl _) 1 _).alloc (by have:=cY.size; simp; omega) _
    have cW:Chg (fun j => j = w.heap.size) w2 (((w2.setCell ⟨w.heap.size,0,none⟩ (.int .i64 0)).setCell ⟨w.heap.size,1,none⟩ (.int .i64 0)).alloc (.cells #[.int .i64 0,.int .i64 0] 33)):=((Chg.of_set (S:=fun j => j = w.heap.size) _ _ _ _ rfl).trans (Chg.of_set (S:=fun j => j = w.heap.size) _ _ _ _ rfl)).trans (Chg.of_alloc _ _)
    have fR:=hI2.sc.row.chg cW (fun j hj e => by have:=hI2.own j hj; omega)
    generalize (((w2.setCell ⟨w.heap.size,0,none⟩ (.int .i64 0)).setCell ⟨w.heap.size,1,none⟩ (.int .i64 0)).alloc (.cells #[.int .i64 0,.int .i64 0] 33)) = wf at *
    refine bodyPost_ret (by simp [results,Tryz.results8,go_sem,f0,f1]; try rfl) rfl ?_
    rw [← hXs,hen]
    unfold finT
    rw [hb,if_neg (by decide)]
    exact ⟨_,_,_,rfl,fR,hbb⟩
   ·by_cases hl:st.l.length = 16384
    ·have K2:=end_full wo.heap.size s st v cs wr hI.sc hb hl
     unfold fltV at K2
     have HK2:=Hj K2
     have HI:=Hj (And.intro hI (And.intro hen (And.intro hXs (And.intro hb (And.intro hl hq)))))
     clear K2 hI rd hen hXs hb hl hq
     go_wp2_with fail
     refine (Uh HK2).mono ?_
     rintro _ w2 ⟨rfl,k2,sb2⟩
     obtain ⟨hI,hen,hXs,hb,hl,hq⟩:=Uh HI
     have bY:=hI.out.keep k2 (by omega) (fun e => by have:=hI.own _ e; omega)
     have hO2:=bY.lt
     have cY:Below w.heap.size w w2:=hI.bel.trans (k2.chg.below hI.bel.size (fun j hj e => by rcases e with d | d; omega; have:=hI.own j d; omega))
     have z0:=(bY.all 0 _ rfl).1
     have z0f:=(bY.all 0 _ rfl).2
     have z1:=(bY.all 1 _ rfl).1
     have z1f:=(bY.all 1 _ rfl).2
     have HF:=Hj (And.intro bY (And.intro cY (And.intro hen (And.intro hXs (And.intro hb (And.intro hl hq))))))
     clear hI hen hXs hb hl hq bY cY k2 sb2 HK2 HI g1
     go_wp2_with fail
     go_region
     go_wp2_with fail
     obtain ⟨bY,cY,hen,hXs,hb,hl,hq⟩:=Uh HF
     have hf:=(((bY.put 0 (.int .i64 (st.i:Int))).put 1 (.int .i64 85)).below ((Below.refl _ _).alloc (Nat.le_refl _) (.cells #[.int .i64 (st.i:Int),.int .i64 85] 33))).below ((Below.refl _ _).drew)
     have f0:=(hf.all 0 _ rfl).1
     have f1:=(hf.all 1 _ rfl).1
     have hbb:Below w.heap.size w ((((w2.setCell ⟨w.heap.size,0,none⟩ (.int .i64 (st.i:Int))).setCell ⟨w.heap.size,1,none⟩ (.int .i64 85)).alloc (.cells #[.int .i64 (st.i:Int),.int .i64 85] 33)).drew):=((bel_put (bel_put cY (by omega) (Nat.le_refl _) 0 _) (by omega) (Nat.le_refl _) 1 _).alloc (by have:=cY.size; simp; omega) _).drew
     generalize ((((w2.setCell ⟨w.heap.size,0,none⟩ (.int .i64 (st.i:Int))).setCell ⟨w.heap.size,1,none⟩ (.int .i64 85)).alloc (.cells #[.int .i64 (st.i:Int),.int .i64 85] 33)).drew) = wf at *
     refine bodyPost_ret (by simp [results,Tryz.results8,go_sem,f0,f1]; try rfl) rfl ?_
     rw [← hXs,hen]
     unfold finT
     rw [if_pos hb,if_pos hl,← hq]
     exact ⟨_,_,0,rfl,RoT.nil _ _ _,hbb⟩
    ·have hl2:st.l.length < 16384 ∨ 16384 < st.l.length:=by omega
     have K2:=end_yes wo.heap.size s st v cs wr hI.sc hb (by omega)
     unfold fltV at K2
     have HK2:=Hj K2
     have HI:=Hj (And.intro hI (And.intro hen (And.intro hXs (And.intro hb hl))))
     clear K2 hI rd hen hXs hb hl
     go_wp2_with fail
     refine (Uh HK2).mono ?_
     rintro _ w2 ⟨rfl,v2,cs2,s2,k2⟩
     obtain ⟨hI,hen,hXs,hb,hl⟩:=Uh HI
     skip
     have hI2:=hI.step hBw k2 s2
     have bY:=hI2.out
     have hB2:wo.heap.size < w2.heap.size:=hI2.sc.box.lt
     have hO2:w.heap.size < w2.heap.size:=bY.lt
     have y3:=(hI2.sc.box.all 3 _ rfl).1
     have z0:=(bY.all 0 _ rfl).1
     have z0f:=(bY.all 0 _ rfl).2
     have z1:=(bY.all 1 _ rfl).1
     have z1f:=(bY.all 1 _ rfl).2
     have HF:=Hj (And.intro hI2 (And.intro hen (And.intro hXs (And.intro hb hl))))
     clear hI hen hXs hb hl hI2 bY s2 k2 HK2 HI g1
     go_wp2_with fail
     obtain ⟨hI2,hen,hXs,hb,hl⟩:=Uh HF
     have hf:=((hI2.out.put 0 (.int .i64 0)).put 1 (.int .i64 0)).below ((Below.refl _ _).alloc (Nat.le_refl _) (.cells #[.int .i64 0,.int .i64 0] 33))
     have f0:=(hf.all 0 _ rfl).1
     have f1:=(hf.all 1 _ rfl).1
     have cY:=hI2.bel
     have hbb:Below w.heap.size w (((w2.setCell ⟨w.heap.size,0,none⟩ (.int .i64 0)).setCell ⟨w.heap.size,1,none⟩ (.int .i64 0)).alloc (.cells #[.int .i64 0,.int .i64 0] 33)):=(bel_put (bel_put cY (by omega) (Nat.le_refl _) 0 _) (by omega) (Nat.le_refl _) 1 _).alloc (by have:=cY.size; simp; omega) _
     have cW:Chg (fun j => j = w.heap.size) w2 (((w2.setCell ⟨w.heap.size,0,none⟩ (.int .i64 0)).setCell ⟨w.heap.size,1,none⟩ (.int .i64 0)).alloc (.cells #[.int .i64 0,.int .i64 0] 33)):=((Chg.of_set (S:=fun j => j = w.heap.size) _ _ _ _ rfl).trans (Chg.of_set (S:=fun j => j = w.heap.size) _ _ _ _ rfl)).trans (Chg.of_alloc _ _)
     have fR:=hI2.sc.row.chg cW (fun j hj e => by have:=hI2.own j hj; omega)
     generalize (((w2.setCell ⟨w.heap.size,0,none⟩ (.int .i64 0)).setCell ⟨w.heap.size,1,none⟩ (.int .i64 0)).alloc (.cells #[.int .i64 0,.int .i64 0] 33)) = wf at *
     refine bodyPost_ret (by simp [results,Tryz.results8,go_sem,f0,f1]; try rfl) rfl ?_
     rw [← hXs,hen]
     unfold finT
     rw [if_pos hb,if_neg hl]
     exact ⟨_,_,_,rfl,fR,hbb⟩
def nzE (s:ByteArray) (i:Nat):Nat:=if byA s i = 91 then bzE (s.extract i s.size) else plE (s.extract i s.size) 0
def NumK (s:ByteArray) (w0:World):Prop:=∀ (w:World) (B:Nat) (st:TkS) (v:Value) (cs:List Value),ScS w B 41 s st v cs → st.i < s.size → (dgtN (byA s st.i) = true ∨ byA s st.i = 91) → Below w0.heap.size w0 w →
 ((tokE s st.i).1 ≠ 0 → Calls Tryz.prog 16 #[.pointer (some ⟨B,0,none⟩),.int .i64 (nzE s st.i:Nat)] w fun e w' => e = .returned (fltV (st.i:Int) ((tokE s st.i).1:Nat)) ∧ Below w.heap.size w w') ∧
 ((tokE s st.i).1 = 0 → st.l.length = 16384 → Calls Tryz.prog 16 #[.pointer (some ⟨B,0,none⟩),.int .i64 (nzE s st.i:Nat)] w fun e w' => e = .returned (fltV (st.i:Int) 85) ∧ Below w.heap.size w w') ∧
 ((tokE s st.i).1 = 0 → st.l.length < 16384 → Calls Tryz.prog 16 #[.pointer (some ⟨B,0,none⟩),.int .i64 (nzE s st.i:Nat)] w fun e w' => e = .returned (fltV 0 0) ∧ ∃ v' cs',ScS w' B 41 s ⟨(tokE s st.i).2,true,st.l ++ [s.extract st.i (tokE s st.i).2]⟩ v' cs' ∧ ScC w w' B v v')
theorem bad_of {w:World} {B:Nat} {v:Value} {f:FuncId} {args:Array Value} {a er:Int} (h:Calls Tryz.prog f args w fun e w' => e = .returned (fltV a er) ∧ Below w.heap.size w w'):Calls Tryz.prog f args w fun e w' => e = .returned (fltV a er) ∧ ScC w w' B v v :=
 h.mono fun e w' ⟨h1,h2⟩ => ⟨h1,ScC.ofBelow h2⟩
theorem tkadd_bad {s:ByteArray} {st:TkS} {t:ByteArray} {j:Nat} {b:Bool} (h:(tkAdd s st t j b).1 ≠ 0):st.l.length = 16384 ∧ (tkAdd s st t j b).1 = 85:=by
 unfold tkAdd at h ⊢
 split
 ·exact ⟨by assumption,rfl⟩
 ·rename_i c
  rw [if_neg c] at h
  exact absurd rfl h
theorem tkadd_good {s:ByteArray} {st:TkS} {t:ByteArray} {j:Nat} {b:Bool} (h:(tkAdd s st t j b).1 = 0) (hl:st.l.length ≤ 16384):st.l.length < 16384 ∧ (tkAdd s st t j b).2 = ⟨j,b,st.l ++ [t]⟩:=by
 unfold tkAdd at h ⊢
 split
 ·rename_i c
  rw [if_pos c] at h
  cases h
 ·rename_i c
  exact ⟨by omega,rfl⟩
theorem stepK_of {s:ByteArray} {w0:World} (hs:s.size ≤ 65536) (hN:NumK s w0):StepK s w0:=by
 intro w B st v cs hS hi hl hb
 have hRz:(s.extract st.i s.size).size = s.size - st.i:=by rw [ByteArray.size_extract]; omega
 by_cases c1:byA s st.i = 10
 ·have e:stp s st = (if st.b then tkAdd s st nlB (st.i + 1) false else (0,⟨st.i + 1,false,st.l⟩)):=by unfold stp; rw [if_pos c1]
  cases hbb:st.b
  ·rw [hbb,if_neg (by decide)] at e
   rw [e]
   refine ⟨fun h => absurd rfl h,fun _ => ?_⟩
   have K:=step_nl_good B s st v cs w hS hi hs c1 st (by omega) (fun W hW hSW => (end_no B s st v cs W hSW hbb).mono (fun e w' ⟨h1,h2⟩ => ⟨h1,v,cs,hSW.below h2,ScC.ofBelow h2⟩))
   rw [hbb] at K
   exact K
  ·rw [hbb,if_pos rfl] at e
   rw [e]
   constructor
   ·intro h
    obtain ⟨h1,h2⟩:=tkadd_bad h
    rw [h2]
    exact step_nl_bad B s st v cs w hS hi hs c1 (st.i:Int) 85 (by decide) (fun W hW hSW => end_full B s st v cs W hSW hbb h1)
   ·intro h
    obtain ⟨h1,h2⟩:=tkadd_good h hl
    rw [h2]
    exact step_nl_good B s st v cs w hS hi hs c1 ⟨st.i,false,st.l ++ [nlB]⟩ (show st.i ≤ 65536 by omega) (fun W hW hSW => end_yes B s st v cs W hSW hbb h1)
 by_cases c2:byA s st.i = 35
 ·have e:stp s st = (0,⟨enR lineN s st.i,st.b,st.l⟩):=by unfold stp; rw [if_neg c1,if_pos c2]
  rw [e]
  exact ⟨fun h => absurd rfl h,fun _ => (step_hash B s st v cs w hS hi hs c2).mono (fun e w' ⟨h1,h2,h3⟩ => ⟨h1,v,cs,h2,h3⟩)⟩
 by_cases c3:byA s st.i = 32 ∨ byA s st.i = 9 ∨ byA s st.i = 13
 ·have e:stp s st = (0,⟨st.i + 1,st.b,st.l⟩):=by unfold stp; rw [if_neg c1,if_neg c2,if_pos c3]
  rw [e]
  exact ⟨fun h => absurd rfl h,fun _ => (step_blank B s st v cs w hS hi hs c3).mono (fun e w' ⟨h1,h2,h3⟩ => ⟨h1,v,cs,h2,h3⟩)⟩
 have e:stp s st = if (tokE s st.i).1 ≠ 0 then ((tokE s st.i).1,st) else tkAdd s st (s.extract st.i (tokE s st.i).2) (tokE s st.i).2 true:=by unfold stp; rw [if_neg c1,if_neg c2,if_neg c3]
 by_cases c4:ltrN (byA s st.i) = true
 ·have he:=ext_run (p:=wrdN) (s:=s) (a:=st.i) (by omega)
  obtain ⟨n,hn⟩:∃ n,enR wrdN (s.extract st.i s.size) 0 = n:=⟨_,rfl⟩
  have htop:=(enR_run wrdN s (i:=st.i) (by omega)).top
  rw [hn] at he
  have et:tokE s st.i = if 31 < n then (87,0) else (0,st.i + n):=by unfold tokE; rw [if_pos c4,he,show st.i + n - st.i = n by omega]
  by_cases hn31:31 < n
  ·rw [if_pos hn31] at et
   rw [et,if_pos (by decide)] at e
   rw [e]
   exact ⟨fun _ => bad_of (step_letter_bad B s st v cs w hS hi hs c4 (st.i:Int) 87 (fun W hW hSW => by rw [hn]; exact word_big B s st v cs n W hSW hn31)),fun h => by cases h⟩
  ·rw [if_neg hn31] at et
   rw [et,if_neg (fun h => h rfl)] at e
   rw [e]
   constructor
   ·intro h
    obtain ⟨h1,h2⟩:=tkadd_bad h
    rw [h2]
    exact bad_of (step_letter_bad B s st v cs w hS hi hs c4 (st.i:Int) 85 (fun W hW hSW => by rw [hn]; exact word_full B s st v cs n W hSW (by omega) (by omega) hs h1))
   ·intro h
    obtain ⟨h1,h2⟩:=tkadd_good h hl
    rw [h2]
    exact step_letter_good B s st v cs w hS hi hs c4 _ (fun W hW hSW => by rw [hn]; exact word_add B s st v cs n W hSW (by omega) (by omega) hs h1)
 by_cases c5:dgtN (byA s st.i) = true ∨ byA s st.i = 91
 ·have hz:byA s st.i = 91 ∨ byA s st.i ≠ 91:=by omega
  by_cases ht:(tokE s st.i).1 = 0
  ·rw [if_neg (by omega)] at e
   rw [e]
   constructor
   ·intro h
    obtain ⟨h1,h2⟩:=tkadd_bad h
    rw [h2]
    refine bad_of ?_
    rcases hz with h91 | h91
    ·refine step_brack_bad B s st v cs w hS hi hs h91 (st.i:Int) 85 (fun W hW hSW => ?_)
     have K:=(hN W B st v cs hSW hi c5 (hb.trans (hW.mono hb.size))).2.1 ht h1
     unfold nzE at K
     rw [if_pos h91] at K
     exact K
    ·refine step_digit_bad B s st v cs w hS hi hs (c5.resolve_right h91) (st.i:Int) 85 (fun W hW hSW => ?_)
     have K:=(hN W B st v cs hSW hi c5 (hb.trans (hW.mono hb.size))).2.1 ht h1
     unfold nzE at K
     rw [if_neg h91] at K
     exact K
   ·intro h
    obtain ⟨h1,h2⟩:=tkadd_good h hl
    rw [h2]
    rcases hz with h91 | h91
    ·refine step_brack_good B s st v cs w hS hi hs h91 _ (fun W hW hSW => ?_)
     have K:=(hN W B st v cs hSW hi c5 (hb.trans (hW.mono hb.size))).2.2 ht h1
     unfold nzE at K
     rw [if_pos h91] at K
     exact K
    ·refine step_digit_good B s st v cs w hS hi hs (c5.resolve_right h91) _ (fun W hW hSW => ?_)
     have K:=(hN W B st v cs hSW hi c5 (hb.trans (hW.mono hb.size))).2.2 ht h1
     unfold nzE at K
     rw [if_neg h91] at K
     exact K
  ·rw [if_pos ht] at e
   rw [e]
   refine ⟨fun _ => bad_of ?_,fun h => absurd h ht⟩
   rcases hz with h91 | h91
   ·refine step_brack_bad B s st v cs w hS hi hs h91 (st.i:Int) _ (fun W hW hSW => ?_)
    have K:=(hN W B st v cs hSW hi c5 (hb.trans (hW.mono hb.size))).1 ht
    unfold nzE at K
    rw [if_pos h91] at K
    exact K
   ·refine step_digit_bad B s st v cs w hS hi hs (c5.resolve_right h91) (st.i:Int) _ (fun W hW hSW => ?_)
    have K:=(hN W B st v cs hSW hi c5 (hb.trans (hW.mono hb.size))).1 ht
    unfold nzE at K
    rw [if_neg h91] at K
    exact K
 by_cases c6:markN (byA s st.i) = true
 ·have et:tokE s st.i = (0,st.i + 1):=by unfold tokE; rw [if_neg c4,if_neg c5,if_pos c6]
  have hm:byA s st.i = 44 ∨ byA s st.i = 61 ∨ byA s st.i = 43 ∨ byA s st.i = 45 ∨ byA s st.i = 42 ∨ byA s st.i = 47 ∨ byA s st.i = 94 ∨ byA s st.i = 40 ∨ byA s st.i = 41:=by
   unfold markN at c6
   simp at c6
   omega
  have ex:(s.extract st.i s.size).extract 0 1 = s.extract st.i (st.i + 1):=by
   rw [ByteArray.extract_extract]
   congr 1 <;> omega
  have hT:(s.extract st.i (st.i + 1)).size = 1:=by rw [ByteArray.size_extract]; omega
  rw [et,if_neg (fun h => h rfl)] at e
  rw [e]
  constructor
  ·intro h
   obtain ⟨h1,h2⟩:=tkadd_bad h
   rw [h2]
   exact bad_of (step_mark_bad B s st v cs w hS hi hs hm (st.i:Int) 85 (fun W hW hSW => by rw [ex]; exact take_full B s st v cs 4 _ 0 false none none 0 0 0 0 W hSW h1))
  ·intro h
   obtain ⟨h1,h2⟩:=tkadd_good h hl
   rw [h2]
   refine step_mark_good B s st v cs w hS hi hs hm _ (fun W hW hSW => ?_)
   rw [ex]
   have K:=take_add B s st v cs 4 (s.extract st.i (st.i + 1)) 0 false none none 0 0 0 0 W hSW h1 (by decide) (by rw [hT]; omega)
   rw [hT] at K
   exact K
 ·have et:tokE s st.i = (80,0):=by unfold tokE; rw [if_neg c4,if_neg c5,if_neg c6]
  rw [et,if_pos (by decide)] at e
  rw [e]
  refine ⟨fun _ => bad_of (step_byte B s st v cs w hS hi hs (fun k hk => ?_) (by simpa using fun h => c5 (.inl h)) (by simpa using c4)),fun h => by cases h⟩
  have hm:¬ (byA s st.i = 44 ∨ byA s st.i = 61 ∨ byA s st.i = 43 ∨ byA s st.i = 45 ∨ byA s st.i = 42 ∨ byA s st.i = 47 ∨ byA s st.i = 94 ∨ byA s st.i = 40 ∨ byA s st.i = 41):=by
   intro h
   apply c6
   unfold markN
   rcases h with h | h | h | h | h | h | h | h | h <;> rw [h] <;> rfl
  have h91:¬ byA s st.i = 91:=fun h => c5 (.inr h)
  simp at hk
  omega

theorem lastS_none {s:ByteArray} {v:Nat}:∀ {N:Nat},(∀ j,j < N → stS s (j + 1) ≠ v) → lastS s v N = 0
 | 0,_ => rfl
 | N + 1,h => by
  unfold lastS
  rw [if_neg (h N (Nat.lt_succ_self N))]
  exact lastS_none fun j hj => h j (by omega)
theorem lastS_at {s:ByteArray} {v p:Nat}:∀ {N:Nat},p < N → stS s (p + 1) = v → (∀ j,p < j → j < N → stS s (j + 1) ≠ v) → lastS s v N = p
 | 0,h,_,_ => by omega
 | N + 1,h,hp,hn => by
  unfold lastS
  by_cases e:p = N
  ·subst e
   rw [if_pos hp]
  ·rw [if_neg (hn N (by omega) (by omega))]
   exact lastS_at (by omega) hp fun j h1 h2 => hn j h1 (by omega)
theorem hasS_none {s:ByteArray} {v:Nat}:∀ {N:Nat},(∀ j,j < N → stS s (j + 1) ≠ v) → hasS s v N = false
 | 0,_ => rfl
 | N + 1,h => by
  unfold hasS
  rw [if_neg (h N (Nat.lt_succ_self N))]
  exact hasS_none fun j hj => h j (by omega)
theorem hasS_some {s:ByteArray} {v p:Nat}:∀ {N:Nat},p < N → stS s (p + 1) = v → hasS s v N = true
 | 0,h,_ => by omega
 | N + 1,h,hp => by
  unfold hasS
  by_cases e:stS s (N + 1) = v
  ·rw [if_pos e]
  ·rw [if_neg e]
   refine hasS_some (p:=p) ?_ hp
   rcases Nat.lt_or_eq_of_le (Nat.le_of_lt_succ h) with k | k
   ·exact k
   ·rw [k] at hp; exact absurd hp e
theorem st_run {s:ByteArray} {i b:Nat} (h1:nxS (stS s i) 1 = b) (h2:nxS b 1 = b):∀ {k:Nat},(∀ j,j < k → kdA s (i + j) = 1) → ∀ j,j < k → stS s (i + j + 1) = b
 | k,hk,0,h => by
  show nxS (stS s (i + 0)) (kdA s (i + 0)) = b
  rw [hk 0 h]
  exact h1
 | k,hk,j + 1,h => by
  have ih:=st_run h1 h2 hk j (by omega)
  show nxS (stS s (i + (j + 1))) (kdA s (i + (j + 1))) = b
  rw [hk (j + 1) h,show i + (j + 1) = i + j + 1 by omega,ih]
  exact h2
structure RunK (s:ByteArray) (i j:Nat):Prop where
 le:i ≤ j
 top:j ≤ s.size
 all:∀ q,i ≤ q → q < j → kdA s q = 1
 stop:kdA s j ≠ 1
theorem kdA_top (s:ByteArray):kdA s s.size = 7:=by unfold kdA; rw [if_pos rfl]
theorem RunK.uniq {s:ByteArray} {i j k:Nat} (h:RunK s i j) (r:RunK s i k):j = k:=by
 rcases Nat.lt_trichotomy j k with e | e | e
 ·exact absurd (r.all j h.le e) h.stop
 ·exact e
 ·exact absurd (h.all k r.le e) r.stop
theorem RunK.st {s:ByteArray} {i j b:Nat} (h:RunK s i j) (h1:nxS (stS s i) 1 = b) (h2:nxS b 1 = b):∀ q,i ≤ q → q < j → stS s (q + 1) = b:=fun q hq hj => by
 have:=st_run (s:=s) (i:=i) (b:=b) (k:=j - i) h1 h2 (fun t ht => h.all (i + t) (by omega) (by omega)) (q - i) (by omega)
 rwa [show i + (q - i) = q by omega] at this
theorem RunK.last {s:ByteArray} {i j b:Nat} (h:RunK s i j) (hl:i < j) (h1:nxS (stS s i) 1 = b) (h2:nxS b 1 = b):stS s j = b:=by
 have:=h.st h1 h2 (j - 1) (by omega) (by omega)
 rwa [show j - 1 + 1 = j by omega] at this
theorem st_next (s:ByteArray) (i:Nat):stS s (i + 1) = nxS (stS s i) (kdA s i):=rfl
structure Hd (s:ByteArray) (g:Bool) (i:Nat):Prop where
 yes:g = true → i = 1 ∧ kdA s 0 = 2
 no:g = false → i = 0 ∧ kdA s 0 ≠ 2
theorem Hd.st {s : ByteArray} {g : Bool} {i : Nat} (h : Hd s g i) : (∀ q, q < i → stS s (q + 1) = 2) ∧ nxS (stS s i) 1 = 3 ∧ i ≤ s.size ∧ (kdA s i ≠ 1 → stS s (i + 1) = 0) ∧ (g = true → stS s 1 = 2) ∧ (g = false → i = 0) := by
  cases g
  · obtain ⟨rfl, h0⟩ := h.no rfl
    refine ⟨fun q hq => by omega, rfl, Nat.zero_le _, fun hk => ?_, (fun e => by cases e), fun _ => rfl⟩
    have : ∀ b : Fin 8, b.1 ≠ 1 → b.1 ≠ 2 → nxS 1 b.1 = 0 := by decide
    exact this ⟨kdA s 0, kdA_lt s 0⟩ hk h0
  · obtain ⟨rfl, h0⟩ := h.yes rfl
    have h1 : stS s 1 = 2 := by
      show nxS 1 (kdA s 0) = 2
      rw [h0]; rfl
    refine ⟨fun q hq => by obtain rfl : q = 0 := by omega
                           exact h1, by rw [h1]; rfl, ?_, fun hk => ?_, fun _ => h1, fun e => by cases e⟩
    · rcases Nat.eq_zero_or_pos s.size with e | e
      · have := kdA_top s
        rw [e] at this
        omega
      · exact e
    · rw [st_next, h1]
      have : ∀ b : Fin 8, b.1 ≠ 1 → nxS 2 b.1 = 0 := by decide
      exact this ⟨kdA s 1, kdA_lt s 1⟩ hk
structure TkOk (s:ByteArray) (g:Bool) (SL PT LT:Nat):Prop where
 fine:∀ q,q ≤ s.size → stS s (q + 1) ≠ 0
 sign:hasS s 2 (s.size + 1) = g
 slash:lastS s 4 (s.size + 1) = SL
 point:lastS s 6 (s.size + 1) = PT
 letter:lastS s 8 (s.size + 1) = LT
theorem sign_is {s:ByteArray} {g:Bool} {i:Nat} (h:Hd s g i) (hn:∀ q,i ≤ q → q ≤ s.size → stS s (q + 1) ≠ 2):hasS s 2 (s.size + 1) = g:=by
 obtain ⟨a1,a2,a3,a4,a5,a6⟩:=h.st
 cases g
 ·obtain rfl:=a6 rfl
  exact hasS_none fun j hj => hn j (Nat.zero_le _) (by omega)
 ·exact hasS_some (p:=0) (by omega) (a5 rfl)
section
variable {s:ByteArray} {g:Bool} {i j k m:Nat}
theorem st_slash (h:Hd s g i) (r:RunK s i j) (hl:i < j) (hk:kdA s j = 4):stS s (j + 1) = 4:=by
 rw [st_next,r.last hl h.st.2.1 rfl,hk]; rfl
theorem st_point (h:Hd s g i) (r:RunK s i j) (hl:i < j) (hk:kdA s j = 5):stS s (j + 1) = 6:=by
 rw [st_next,r.last hl h.st.2.1 rfl,hk]; rfl
theorem ok_slash (h:Hd s g i) (r:RunK s i j) (hl:i < j) (hk:kdA s j = 4) (r2:RunK s (j + 1) k) (hl2:j + 1 < k) (he:k = s.size):TkOk s g j 0 0:=by
 obtain ⟨a1,a2,a3,a4,a5,a6⟩:=h.st
 have b1:=r.st a2 rfl
 have c0:=st_slash h r hl hk
 have c1:=r2.st (b:=5) (by rw [c0]; rfl) rfl
 have c2:stS s (k + 1) = 11:=by rw [st_next,r2.last hl2 (b:=5) (by rw [c0]; rfl) rfl,he,kdA_top]; rfl
 have all:∀ q,q ≤ s.size → stS s (q + 1) = 2 ∧ q < i ∨ stS s (q + 1) = 3 ∨ stS s (q + 1) = 4 ∧ q = j ∨ stS s (q + 1) = 5 ∨ stS s (q + 1) = 11:=fun q hq => by
  rcases Nat.lt_or_ge q i with e | e
  ·exact .inl ⟨a1 q e,e⟩
  ·rcases Nat.lt_trichotomy q j with e2 | e2 | e2
   ·exact .inr (.inl (b1 q e e2))
   ·exact .inr (.inr (.inl ⟨by rw [e2]; exact c0,e2⟩))
   ·rcases Nat.lt_or_ge q k with e3 | e3
    ·exact .inr (.inr (.inr (.inl (c1 q e2 e3))))
    ·obtain rfl:q = k:=by omega
     exact .inr (.inr (.inr (.inr c2)))
 exact ⟨fun q hq => by have:=all q hq; omega,sign_is h fun q h1 h2 => by (have:=all q h2); omega,lastS_at (by omega) c0 fun q h1 h2 => by (have:=all q (by omega)); omega,lastS_none fun q hq => by (have:=all q (by omega)); omega,lastS_none fun q hq => by (have:=all q (by omega)); omega⟩
end
structure Mn (s:ByteArray) (g:Bool) (i PT e:Nat):Prop where
 hd:Hd s g i
 ends:stS s e = 3 ∧ PT = 0 ∨ stS s e = 7 ∧ 0 < PT
 top:e ≤ s.size
 stop:kdA s e ≠ 1
 all:∀ q,q < e → stS s (q + 1) = 2 ∧ q < i ∨ stS s (q + 1) = 3 ∨ stS s (q + 1) = 6 ∧ q = PT ∧ 0 < PT ∨ stS s (q + 1) = 7
 pt:0 < PT → PT < e ∧ stS s (PT + 1) = 6
 ie:i < e
structure Sg (s:ByteArray) (a b:Nat):Prop where
 or:(kdA s a = 2 ∨ kdA s a = 3) ∧ b = a + 1 ∨ (kdA s a ≠ 2 ∧ kdA s a ≠ 3) ∧ b = a
section
variable {s:ByteArray} {g:Bool} {i j k e b m PT:Nat}
theorem mn_whole (h:Hd s g i) (r:RunK s i j) (hl:i < j):Mn s g i 0 j:=by
 obtain ⟨a1,a2,a3,a4,a5,a6⟩:=h.st
 have b1:=r.st a2 rfl
 refine ⟨h,.inl ⟨r.last hl a2 rfl,rfl⟩,r.top,r.stop,fun q hq => ?_,(fun h0 => by omega),hl⟩
 rcases Nat.lt_or_ge q i with e | e
 ·exact .inl ⟨a1 q e,e⟩
 ·exact .inr (.inl (b1 q e hq))
theorem mn_point (h:Hd s g i) (r:RunK s i j) (hl:i < j) (hk:kdA s j = 5) (r2:RunK s (j + 1) k) (hl2:j + 1 < k):Mn s g i j k:=by
 obtain ⟨a1,a2,a3,a4,a5,a6⟩:=h.st
 have b1:=r.st a2 rfl
 have c0:=st_point h r hl hk
 have c1:=r2.st (b:=7) (by rw [c0]; rfl) rfl
 refine ⟨h,.inr ⟨r2.last hl2 (by rw [c0]; rfl) rfl,by omega⟩,r2.top,r2.stop,fun q hq => ?_,fun _ => ⟨by omega,c0⟩,by omega⟩
 rcases Nat.lt_or_ge q i with e | e
 ·exact .inl ⟨a1 q e,e⟩
 ·rcases Nat.lt_trichotomy q j with e2 | e2 | e2
  ·exact .inr (.inl (b1 q e e2))
  ·exact .inr (.inr (.inl ⟨by rw [e2]; exact c0,e2,by omega⟩))
  ·exact .inr (.inr (.inr (c1 q e2 hq)))
theorem ok_end (h:Mn s g i PT e) (he:e = s.size):TkOk s g 0 PT 0:=by
 have hl:stS s (e + 1) = 11:=by
  rw [st_next]
  rcases h.ends with ⟨a,_⟩ | ⟨a,_⟩
  ·rw [a,he,kdA_top]; rfl
  ·rw [a,he,kdA_top]; rfl
 have all:∀ q,q ≤ s.size → stS s (q + 1) = 2 ∧ q < i ∨ stS s (q + 1) = 3 ∨ stS s (q + 1) = 6 ∧ q = PT ∧ 0 < PT ∨ stS s (q + 1) = 7 ∨ stS s (q + 1) = 11:=fun q hq => by
  rcases Nat.lt_or_ge q e with a | a
  ·have:=h.all q a; omega
  ·obtain rfl:q = e:=by omega
   omega
 refine ⟨fun q hq => by have:=all q hq; omega,sign_is h.hd fun q h1 h2 => by (have:=all q h2); omega,lastS_none fun q hq => by (have:=all q (by omega)); omega,?_,lastS_none fun q hq => by (have:=all q (by omega)); omega⟩
 rcases Nat.eq_zero_or_pos PT with z | z
 ·rw [lastS_none fun q hq => by (have:=all q (by omega)); omega,z]
 ·obtain ⟨p1,p2⟩:=h.pt z
  exact lastS_at (by omega) p2 fun q h1 h2 => by (have:=all q (by omega)); omega
theorem Sg.le (h:Sg s e b) (he:e ≤ s.size):b ≤ s.size:=by
 rcases h.or with ⟨a,rfl⟩ | ⟨a,rfl⟩
 ·rcases Nat.lt_or_eq_of_le he with c | c
  ·exact c
  ·rw [c,kdA_top] at a; omega
 ·exact he
end
structure Ext (w0:World) where
 w:World
 bel:Below w0.heap.size w0 w
theorem Ext.ne (w:World):Nonempty (Ext w):=⟨⟨w,Below.refl _ _⟩⟩
section
variable {P:Program}
theorem wp_region_ext {id:Nat} {Q:Exit → Act → World → Prop} {a:Act} {w:World} {l:List Oper} (hm:P.follows .mixedOrders = true) (hB:Region.lexB .any l.toArray = true)
  (h:wpQuiet P l.toArray (fun w' => ∃ x:Ext w,w' = x.w) (fun a' => ∀ w',(∃ x:Ext w,w' = x.w) → Q .normal a' w') l a):(Code.region id l.toArray true).wp P Q a w :=
 wp_region_quiet (C:=fun w' => ∃ x:Ext w,w' = x.w) hm hB ⟨⟨w.drew,(Below.refl _ _).drew⟩,rfl⟩ (by simpa using h)
end
theorem Ext.call {P:Program} {f:FuncId} {args:Array Value} {w:World} {x:Ext w} {v:Value} {R:Ending → World → Prop} (h:Calls P f args x.w R) (hR:∀ e w',R e w' → e = .returned v ∧ Below x.w.heap.size x.w w') :
  Calls P f args x.w fun e w'' => e = .returned v ∧ ∃ y:Ext w,w'' = y.w :=
 h.mono fun e w' hr => ⟨(hR e w' hr).1,⟨⟨w',x.bel.trans ((hR e w' hr).2.mono x.bel.size)⟩,rfl⟩⟩
theorem Ext.cell {w:World} (x:Ext w) {p:Addr} {v:Value} (h:w.cell? p = some v):x.w.cell? p = some v:=(x.bel.cell (p:=p) (World.block_lt_of_cell? _ _ h)).trans h
end Go.Proofs.YtjoaijbhpgekoaaGreatDoor
