/- Sp5 -/
import Derived.Test.YtoghiadalnngjaaSp4
namespace Go.Proofs.Ytoghiadalnngjaa
open Go.RowKit Go.Deep
set_option linter.unusedVariables false
def plR (st:List Int):Nat → List Int
 | 0 => []
 | k + 1 => plR st k ++ List.replicate ((st.getD (k + 1) 0).toNat - (st.getD k 0).toNat) (k:Int)
structure PlI (w1 W:World) (base:Nat) (v u:Value) (rs cs:List Int):Prop where
 own1:W.ownsRow base 3 1 v rs.length (valsI rs)
 own2:W.ownsRow base 3 1 u cs.length (valsI cs)
 apart:∀ g,v.ownBlock = some g → u.ownBlock ≠ some g
 bel:Below base w1 W
 le:base ≤ W.heap.size
theorem PlI.swap {w1 W:World} {base:Nat} {v u:Value} {rs cs:List Int} (h:PlI w1 W base v u rs cs):PlI w1 W base u v cs rs:=⟨h.own2,h.own1,fun g hu hv => h.apart g hv hu,h.bel,h.le⟩
theorem PlI.app {w1 W W3:World} {base:Nat} {v u:Value} {rs cs:List Int} {x:Int} {g cap:Nat} (h:PlI w1 W base v u rs cs) (o:Obj) (hown:W3.ownsRow base 3 1 (.slice (some ⟨g,0,none⟩) (rs.length + 1) cap) (rs.length + 1) (valsI rs ++ [.int .i64 x])) (hg:(W.alloc o).grownBy W3 v.ownBlock) (hat:v.ownBlock = some g ∨ g = W.heap.size + 1):PlI w1 W3 base (.slice (some ⟨g,0,none⟩) (rs.length + 1) cap) u (rs ++ [x]) cs:=by
 have hB:Below base W W3:=Below.grown ((Below.refl base W).alloc h.le o) hg (by simp; have:=h.le; omega) (fun j hj => (own_ge h.own1 j hj).1)
 refine ⟨by simpa [valsI] using hown,(h.own2.alloc o).kept hg ?_,?_,h.bel.trans hB,Nat.le_trans h.le hB.size⟩
 ·cases hu:u.ownBlock with
  | none => exact .inl rfl
  | some j =>
   right
   intro e
   exact h.apart j e.symm hu
 ·intro j hj hu
  have hj':g = j:=by simpa [Value.ownBlock] using hj
  subst hj'
  rcases hat with e | e
  ·exact h.apart _ e hu
  ·have:=(own_ge h.own2 _ hu).2
   omega
theorem own_slI {w:World} {base n:Nat} {v:Value} {xs:List Int} (h:w.ownsRow base 3 1 v n (valsI xs)):∃ a c,v = .slice a n c ∧ SlI w a n c xs:=by
 have hl:xs.length = n:=by have:=h.1; simpa [valsI] using this
 rcases h.2 with ⟨rfl,rfl⟩ | ⟨b,cap,cur,rfl,h4,h5,h6,h7,h8,h9⟩
 ·have:xs = []:=List.eq_nil_of_length_eq_zero hl
  subst this
  exact ⟨none,0,rfl,SlI.nil _⟩
 ·refine ⟨_,_,rfl,⟨hl,h6,h7,.inr ⟨b,0,rfl,fun i hi => ?_⟩⟩⟩
  rw [Nat.zero_add,cell_of_block h5]
  have:(cur.toList.take (n * 1))[i]? = (valsI xs)[i]?:=by rw [h9]
  rw [List.getElem?_take_of_lt (by omega)] at this
  rw [← Array.getElem?_toList,this]
  simp [valsI,List.getD,hi]
structure PlP (w w':World) (e:Ending) (rs cs:List Int):Prop where
 out:∃ a1 c1 a2 c2,e = .returned (.tuple #[.slice a1 rs.length c1,.slice a2 cs.length c2,.int .i64 0]) ∧ SlI w' a1 rs.length c1 rs ∧ SlI w' a2 cs.length c2 cs
 bel:Below w.heap.size w w'
theorem PlI.res {w w1 W:World} {base:Nat} {v u:Value} {rs cs:List Int} (h:PlI w1 W base v u rs cs) (hb:Below w.heap.size w w1) (hB:w.heap.size ≤ base):PlP w W (.returned (.tuple #[v,u,.int .i64 0])) rs cs:=by
 obtain ⟨a1,c1,rfl,s1⟩:=own_slI h.own1
 obtain ⟨a2,c2,rfl,s2⟩:=own_slI h.own2
 exact ⟨⟨a1,c1,a2,c2,rfl,s1,s2⟩,hb.trans (h.bel.mono hB)⟩
theorem plR_row {st cols:List Int} {width:Int} {k X Y:Nat} (h:RowAt st cols width k X Y):plR st (k + 1) = plR st k ++ List.replicate (Y - X) (k:Int):=by
 simp only [plR]
 rw [h.hX,h.hY]
 rfl
theorem rep_snoc (n:Nat) (x:Int):List.replicate (n + 1) x = List.replicate n x ++ [x]:=List.replicate_succ'
theorem take_snoc {cols:List Int} {i:Nat} {x:Int} (hi:i < cols.length) (hx:cols.getD i 0 = x):cols.take (i + 1) = cols.take i ++ [x]:=by
 rw [List.take_add_one]
 congr 1
 subst hx
 simp [hi,List.getD]
theorem plR_len {R:Nat} {width:Int} {st cols:List Int} (hm:MayP (R:Int) width st cols):∀ k,k ≤ R → ((plR st k).length:Int) = st.getD k 0
 | 0,_ => by rw [hm.head.first]; rfl
 | k + 1,hk => by
  obtain ⟨X,Y,h⟩:=hm.rowAt (k:=k) (by omega)
  rw [plR_row h,List.length_append,List.length_replicate,h.hY]
  have:=plR_len hm k (by omega)
  rw [h.hX] at this
  have:=h.le
  omega
set_option maxRecDepth 100000 in
set_option maxHeartbeats 16000000 in
theorem wplaces_yes (R:Nat) (width:Int) (a1 a2:Option Addr) (n1 c1 n2 c2:Nat) (st cols:List Int) (w:World) (h1:SlI w a1 n1 c1 st) (h2:SlI w a2 n2 c2 cols) (hb1:n1 ≤ 17592186044000) (hb2:n2 ≤ 17592186044000) (hm:MayP (R:Int) width st cols) :
  Calls Try.prog 8 #[patV (R:Int) width a1 n1 c1 a2 n2 c2] w fun e w' => PlP w w' e (plR st R) cols:=by
 obtain ⟨wb,hwb⟩:∃ x,w.alloc (.cells #[.int .i64 (R:Int),.int .i64 width,.slice a1 n1 c1,.slice a2 n2 c2] 24) = x:=⟨_,rfl⟩
 have bb:Below w.heap.size w wb:=by rw [← hwb]; exact bAl
 have hT:=BoxP.made w #[.int .i64 (R:Int),.int .i64 width,.slice a1 n1 c1,.slice a2 n2 c2] 24
 rw [hwb] at hT
 have p0:=(hT.all 0 _ rfl).1
 have p1:=(hT.all 1 _ rfl).1
 have p2:=(hT.all 2 _ rfl).1
 have p3:=(hT.all 3 _ rfl).1
 have KM:=Hj (wsmay_any (R:Int) width a1 a2 n1 c1 n2 c2 st cols wb (h1.below bb) (h2.below bb) (by omega) (by omega))
 have HP:=Hj hT
 have HS:=Hj (And.intro h1 h2)
 have HB:=Hj bb
 have HM:=Hj hm
 have HTR:=Hj (show TruQ true (MayP (R:Int) width st cols) from ⟨fun _ => hm,fun _ => rfl⟩)
 have HLN:=Hj (And.intro h1.len (And.intro h2.len hm.head.len))
 obtain ⟨i64,hi,hz,hs,hb⟩:=info_parts Try.info_i64
 have HI:=Hj (And.intro hi (And.intro hz (And.intro hs hb)))
 clear hT bb h1 h2 hm hi hz hs hb
 unfold patV
 unfold patV at KM
 go_enter Try.func8,Try.ntmps8
 go_wp2_with fail
 refine (Uh KM).mono ?_
 intro e w1 hq
 obtain ⟨rfl,b1⟩:=hq.known (Uh HTR)
 have HP1:=Hj ((Uh HP).below b1)
 have HB1:=Hj ((Uh HB).trans (b1.mono (Uh HB).size))
 obtain ⟨base,hbase⟩:∃ x,w1.heap.size = x:=⟨_,rfl⟩
 have HBs:=Hj (And.intro hbase ((Uh HP).below b1).lt)
 have HS1:=Hj (And.intro ((Uh HS).1.below (Uh HB1)) ((Uh HS).2.below (Uh HB1)))
 have HBX:=Hj (show ∀ W,Below base w1 W → BoxP W w.heap.size [.int .i64 (R:Int),.int .i64 width,.slice a1 n1 c1,.slice a2 n2 c2] ∧ SlI W a1 n1 c1 st ∧ SlI W a2 n2 c2 cols from fun W k => by
  rw [← hbase] at k
  exact ⟨((Uh HP).below b1).below k,(Uh HS1).1.below k,(Uh HS1).2.below k⟩)
 clear b1 hq KM HTR hbase p0 p1 p2 p3
 go_wp2_with fail
 go_loopw [7,5,6] (fun kv v u wr => ∃ k:Nat,k ≤ R ∧ kv = .int .i64 (k:Int) ∧ Hid (∃ X:Nat,st.getD k 0 = (X:Int) ∧ PlI w1 wr base v u (plR st k) (cols.take X))) (fun kv _ _ _ => R - (intOf kv).toNat)
 case atStart => exact ⟨0,Nat.zero_le _,rfl,Hj ⟨0,by rw [(Uh HM).head.first]; rfl,⟨World.ownsRow_nil _ _ _ _,World.ownsRow_nil _ _ _ _,fun g hg => (by simp [Value.ownBlock] at hg),Below.refl _ _,Nat.le_of_eq (Uh HBs).1.symm⟩⟩⟩
 case round =>
  obtain ⟨k,hk,rfl,HX⟩:=hrel
  obtain ⟨X,hX,hP⟩:=Uh HX
  have hbx:=Uh HBX wr hP.bel
  have p0:=(hbx.1.all 0 _ rfl).1
  have p2:=(hbx.1.all 2 _ rfl).1
  by_cases hlt:k < R
  ·have hlt':(k:Int) < (R:Int):=by omega
   obtain ⟨X',Y,hRow⟩:=(Uh HM).rowAt (k:=k) (by omega)
   obtain rfl:X' = X:=by have h8:=hRow.hX; rw [hX] at h8; omega
   have hln:=Uh HLN
   obtain ⟨b1,o1,rfl,hc1⟩:=hbx.2.1.at (by omega)
   have sk:=hc1 k (by omega)
   rw [hRow.hX] at sk
   have tk1:(k:Int) < (n1:Int):=by omega
   have tk2:(k:Int) + 1 < (n1:Int):=by omega
   have hrl:=hRow.le
   have hrt:=hRow.lt
   have HRow:=Hj hRow
   have HPL:=Hj hP
   clear hc1 hln hRow hP hbx hX
   go_wp2_with fail
   go_loopw [8,5,6] (fun iv v u wq => ∃ i:Nat,X' ≤ i ∧ i ≤ Y ∧ iv = .int .i64 (i:Int) ∧ Hid (PlI w1 wq base v u (plR st k ++ List.replicate (i - X') (k:Int)) (cols.take i))) (fun iv _ _ _ => Y - (intOf iv).toNat)
   case atStart => exact ⟨X',Nat.le_refl _,hrl,rfl,Hj (by rw [Nat.sub_self,List.replicate_zero,List.append_nil]; exact Uh HPL)⟩
   case round =>
    clear p0 p2 sk
    obtain ⟨i,hi1,hi2,rfl,HQ⟩:=hrel
    have hbx:=Uh HBX wr (Uh HQ).bel
    have p2:=(hbx.1.all 2 _ rfl).1
    have p3:=(hbx.1.all 3 _ rfl).1
    obtain ⟨b1',o1',e1,hc1⟩:=hbx.2.1.at (by omega)
    cases e1
    have sk1:=hc1 (k + 1) (by have:=Uh HLN; omega)
    rw [(Uh HRow).hY] at sk1
    by_cases hin:i < Y
    ·have hin':(i:Int) < (Y:Int):=by omega
     have h22:=(Uh HLN).2.1
     obtain ⟨b2,o2,rfl,hc2⟩:=hbx.2.2.at (by omega)
     have sc:=hc2 i (by omega)
     obtain ⟨x,hx⟩:∃ x,cols.getD i 0 = x:=⟨_,rfl⟩
     rw [hx] at sc
     have hin2:(i:Int) < (n2:Int):=by omega
     have HE:=Hj (And.intro (show plR st k ++ List.replicate (i + 1 - X') (k:Int) = (plR st k ++ List.replicate (i - X') (k:Int)) ++ [(k:Int)] by rw [show i + 1 - X' = (i - X') + 1 by omega,rep_snoc,List.append_assoc]) (take_snoc (cols:=cols) (i:=i) (by omega) hx))
     have hlr:(plR st k ++ List.replicate (i - X') (k:Int)).length = i:=by
      have h8:=plR_len (Uh HM) k (by omega)
      rw [(Uh HRow).hX] at h8
      rw [List.length_append,List.length_replicate]
      omega
     have hlc:(cols.take i).length = i:=by rw [List.length_take]; omega
     generalize plR st k ++ List.replicate (i - X') (k:Int) = rs at *
     generalize cols.take i = cs at *
     have HLL:=Hj (And.intro hlr hlc)
     have HXX:=Hj hx
     have hle:=(Uh HQ).le
     have hrs1:rs.length ≤ 17592186044000:=by omega
     have hcs1:cs.length ≤ 17592186044000:=by omega
     clear hc1 hc2 hbx hx h22 hlr hlc
     go_wp2_with (at_builtin; refine wpList_append_lies _ rfl _ _ 22 rfl base 3 i64 (.int .i64 0) 1 8 Try.underlying22 (Uh HI).1 (Uh HI).2.1 (Uh HI).2.2.1 (Uh HI).2.2.2 rfl (by decide) _ rs.length (valsI rs) rfl ((Uh HQ).own1.alloc _) ⟨wr.heap.size,0,none⟩ 1 1 [.int .i64 (k:Int)] rfl rfl (World.news_of_block (alloc_block _ _)) ?c21 (by decide) ?c31 ?c41 ?c51 (wr.heap.size + 1) (by simp) ?_)
     case c21 => intro z hz; simp at hz; rcases hz with rfl; rfl
     case c31 => unfold maxLen; omega
     case c41 => omega
     case c51 => simp; omega
     intro g1 cap1 w3 hown hg hat hlt4
     have HQ3:=Hj ((Uh HQ).app _ hown hg hat)
     have hbx3:=Uh HBX w3 (Uh HQ3).bel
     have q2:=(hbx3.1.all 2 _ rfl).1
     have q3:=(hbx3.1.all 3 _ rfl).1
     obtain ⟨b2',o2',e2,hc2⟩:=hbx3.2.2.at (by omega)
     cases e2
     have sc3:=hc2 i (by have:=(Uh HLN).2.1; omega)
     rw [Uh HXX] at sc3
     have hle3:=(Uh HQ3).le
     clear hown hg hat hlt4 hc2 hbx3 p2 p3 sk1
     go_wp2_with (at_builtin; refine wpList_append_lies _ rfl _ _ 22 rfl base 3 i64 (.int .i64 0) 1 8 Try.underlying22 (Uh HI).1 (Uh HI).2.1 (Uh HI).2.2.1 (Uh HI).2.2.2 rfl (by decide) _ cs.length (valsI cs) rfl ((Uh HQ3).own2.alloc _) ⟨w3.heap.size,0,none⟩ 1 1 [.int .i64 x] rfl rfl (World.news_of_block (alloc_block _ _)) ?c21 (by decide) ?c31 ?c41 ?c51 (w3.heap.size + 1) (by simp) ?_)
     case c21 => intro z hz; simp at hz; rcases hz with rfl; rfl
     case c31 => unfold maxLen; omega
     case c41 => omega
     case c51 => simp; omega
     intro g2 cap2 w4 hown hg hat hlt4
     have HQ4:=Hj ((Uh HQ3).swap.app _ hown hg hat).swap
     clear hown hg hat hlt4 q2 q3
     go_wp2_with fail
     refine ⟨⟨i + 1,by omega,by omega,by (first | rfl | go_num),Hj ?_⟩,by simp [intOf]; omega⟩
     rw [(Uh HE).1,(Uh HE).2]
     exact Uh HQ4
    ·obtain rfl:i = Y:=by omega
     have hin':¬ (i:Int) < (i:Int):=by omega
     clear hbx hc1
     go_wp2_with fail
     refine ⟨⟨k + 1,by omega,by (first | rfl | go_num),Hj ⟨i,(Uh HRow).hY,?_⟩⟩,by simp [intOf]; omega⟩
     rw [plR_row (Uh HRow)]
     exact Uh HQ
  ·obtain rfl:k = R:=by omega
   have hlt':¬ (k:Int) < (k:Int):=by omega
   have hlast:X = cols.length:=by
    have h8:=(Uh HM).head.last
    rw [show ((k:Int)).toNat = k by omega,hX] at h8
    omega
   rw [hlast,List.take_length] at hP
   have HPL:=Hj hP
   clear hP hbx hX hlast
   go_wp2_with fail
   refine bodyPost_ret (by simp [results,Try.results8,go_sem]; try rfl) rfl ?_
   exact (Uh HPL).res (Uh HB1) (by have:=Uh HBs; omega)
set_option maxRecDepth 100000 in
set_option maxHeartbeats 16000000 in
theorem wplaces_no (rows width:Int) (a1 a2:Option Addr) (n1 c1 n2 c2:Nat) (st cols:List Int) (w:World) (h1:SlI w a1 n1 c1 st) (h2:SlI w a2 n2 c2 cols) (hb1:n1 ≤ 17592186044000) (hb2:n2 ≤ 17592186044000) (hm:¬ MayP rows width st cols) :
  Calls Try.prog 8 #[patV rows width a1 n1 c1 a2 n2 c2] w fun e w' => e = .returned (.tuple #[.slice none 0 0,.slice none 0 0,.int .i64 180]) ∧ Below w.heap.size w w':=by
 obtain ⟨wb,hwb⟩:∃ x,w.alloc (.cells #[.int .i64 rows,.int .i64 width,.slice a1 n1 c1,.slice a2 n2 c2] 24) = x:=⟨_,rfl⟩
 have bb:Below w.heap.size w wb:=by rw [← hwb]; exact bAl
 have hT:=BoxP.made w #[.int .i64 rows,.int .i64 width,.slice a1 n1 c1,.slice a2 n2 c2] 24
 rw [hwb] at hT
 have p0:=(hT.all 0 _ rfl).1
 have p1:=(hT.all 1 _ rfl).1
 have p2:=(hT.all 2 _ rfl).1
 have p3:=(hT.all 3 _ rfl).1
 have KM:=Hj (wsmay_any rows width a1 a2 n1 c1 n2 c2 st cols wb (h1.below bb) (h2.below bb) (by omega) (by omega))
 have HB:=Hj bb
 have HTR:=Hj (show TruQ false (MayP rows width st cols) from ⟨fun e => (by cases e),fun z => absurd z hm⟩)
 clear hT bb h1 h2 hm
 unfold patV
 unfold patV at KM
 go_enter Try.func8,Try.ntmps8
 go_wp2_with fail
 refine (Uh KM).mono ?_
 intro e w1 hq
 obtain ⟨rfl,b1⟩:=hq.known (Uh HTR)
 have HB1:=Hj ((Uh HB).trans (b1.mono (Uh HB).size))
 clear b1 hq KM HTR p0 p1 p2 p3
 go_wp2_with fail
 refine bodyPost_ret (by simp [results,Try.results8,go_sem]; try rfl) rfl ?_
 exact ⟨rfl,Uh HB1⟩
end Go.Proofs.Ytoghiadalnngjaa
