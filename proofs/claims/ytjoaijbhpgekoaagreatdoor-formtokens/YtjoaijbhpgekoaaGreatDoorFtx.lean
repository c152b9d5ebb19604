/- Ftv -/
import Derived.Test.YtjoaijbhpgekoaaGreatDoorFtu
namespace Go.Proofs.YtjoaijbhpgekoaaGreatDoor
open Go.RowKit Go.Deep
set_option linter.unusedVariables false
set_option maxRecDepth 100000 in
set_option maxHeartbeats 16000000 in
theorem cut_all (s:ByteArray) (w:World):Calls Tryz.prog 10 #[.string s] w fun e w' => CuA w w' (TksF s) e:=by
 by_cases hs:s.size ≤ 65536
 ·exact cut_any s w hs
 ·have hs':(65536:Int) < (s.size:Int):=by omega
  have hR:TksF s = ([],65536,4):=by unfold TksF; rw [if_pos (by omega)]
  obtain ⟨R,hRR⟩:∃ R,TksF s = R:=⟨_,rfl⟩
  rw [hRR] at hR ⊢
  have HR:=Hj hR
  clear hR hRR
  go_enter Tryz.func10,Tryz.ntmps10
  go_wp2_with fail
  go_ret3
  exact CuA.of_bad (Uh HR) (Below.refl _ _)
def TxS (w:World) (a:Option Addr) (l:List ByteArray):Prop:=l = [] ∨ ∃ g,a = some ⟨g,0,none⟩ ∧ ∀ q,q < l.length → w.cell? ⟨g,q,none⟩ = some (.string (l.getD q ⟨#[]⟩))
theorem TxS.below {w w':World} {a:Option Addr} {l:List ByteArray} (h:TxS w a l) (k:Below w.heap.size w w'):TxS w' a l:=by
 rcases h with h | ⟨g,e,h⟩
 ·exact .inl h
 ·exact .inr ⟨g,e,fun q hq => (Chg.of_below k).cell (S:=fun _ => False) (fun x => x) (h q hq)⟩
structure TkO (w2 wr:World) (a:Option Addr) (c:Nat) (l:List ByteArray) (q:Nat):Prop where
 own:wr.ownsRow w2.heap.size 9 1 (.slice a q c) q ((l.take q).map .string)
 bel:Below w2.heap.size w2 wr
theorem str_row {w:World} {base:Nat} {ty:TypeId} {a:Option Addr} {c:Nat} {l:List ByteArray} (h:w.ownsRow base ty 1 (.slice a l.length c) l.length (l.map .string)):TxS w a l:=by
 rcases h.2 with ⟨e,h0⟩ | ⟨g,cap,cur,e,hb,h5,h6,h7,h8,h9⟩
 ·exact .inl (List.length_eq_zero_iff.1 h0)
 ·injection e with e1 e2 e3
  refine .inr ⟨g,e1,fun q hq => ?_⟩
  have hu:(l.map Value.string)[q]? = some (.string (l.getD q ⟨#[]⟩)):=by simp [List.getD,List.getElem?_eq_getElem hq]
  rw [← h9,List.getElem?_take,if_pos (by omega),Array.getElem?_toList] at hu
  rw [World.cell?_of_block (w:=w) rfl] <;> simp [World.cell?,h5,hu]
theorem take_str {l:List ByteArray} {q:Nat} (h:q < l.length):(l.take (q + 1)).map Value.string = (l.take q).map Value.string ++ [.string (l.getD q ⟨#[]⟩)]:=by
 have e:l[q]? = some (l[q]'h):=List.getElem?_eq_getElem h
 rw [List.take_add_one,e,List.map_append]
 simp [List.getD,e]
def TkA (w w':World) (R:List ByteArray × Nat × Nat) (e:Ending):Prop:=∃ a c,e = .returned (.tuple #[.slice a R.1.length c,.int .i64 (R.2.1:Int),.int .i64 (R.2.2:Int)]) ∧ TxS w' a R.1 ∧ Below w.heap.size w w'
set_option maxRecDepth 100000 in
set_option maxHeartbeats 16000000 in
theorem wtok_bad (s:ByteArray) (w:World) (l:List ByteArray) (p er:Nat) (hR:TksF s = (l,p,er)) (he:er ≠ 0) (hl:l = []):Calls Tryz.prog 5 #[.string s] w fun e w' => TkA w w' (TksF s) e:=by
 have K:=cut_all s w
 rw [hR] at K ⊢
 subst hl
 have HK:=Hj K
 have te:((er:Int) != 0) = true:=by simp; omega
 have te':¬ (er:Int) = 0:=by omega
 clear K hR
 go_enter Tryz.func5,Tryz.ntmps5
 go_wp2_with fail
 refine (Uh HK).mono ?_
 rintro _ w2 ⟨v,cs,rfl,hr,b2⟩
 have HB:=Hj b2
 clear hr b2 HK
 go_wp2_with fail
 go_ret3
 exact ⟨_,_,rfl,.inl rfl,Uh HB⟩
set_option maxRecDepth 100000 in
set_option maxHeartbeats 16000000 in
theorem wtok_ok (s:ByteArray) (w:World) (l:List ByteArray) (p:Nat) (hR:TksF s = (l,p,0)) (hp:p = 0) (hl:l.length ≤ 16385):Calls Tryz.prog 5 #[.string s] w fun e w' => TkA w w' (TksF s) e:=by
 have K:=cut_all s w
 rw [hR] at K ⊢
 subst hp
 have HK:=Hj K
 obtain ⟨i9,hi9,hz9,hs9,hb9⟩:=info_parts Tryz.info_string
 have I9:=Hj (And.intro hi9 (And.intro hz9 (And.intro hs9 hb9)))
 clear K hR hi9 hz9 hs9 hb9
 go_enter Tryz.func5,Tryz.ntmps5
 go_wp2_with fail
 refine (Uh HK).mono ?_
 rintro _ w2 ⟨v,cs,rfl,hr,b2⟩
 obtain ⟨av,cv,rfl⟩:=hr.form
 have HB:=Hj (And.intro hr b2)
 clear hr b2 HK
 dsimp only
 go_wp2_with fail
 go_loopw [8,9] (fun ov iv wr => ∃ (q:Nat) (a:Option Addr) (c:Nat),q ≤ l.length ∧ ov = .slice a q c ∧ iv = .int .i64 (q:Nat) ∧ TkO w2 wr a c l q) (fun _ iv _ => l.length - (intOf iv).toNat)
 case atStart => exact ⟨0,none,0,Nat.zero_le _,rfl,rfl,⟨⟨by simp,.inl ⟨rfl,rfl⟩⟩,Below.refl _ _⟩⟩
 case round =>
  obtain ⟨q,a,c,hq,rfl,rfl,hI⟩:=hrel
  by_cases hlt:q < l.length
  ·have hlt':(q:Int) < (l.length:Int):=by omega
   obtain ⟨hr,b2⟩:=Uh HB
   have hrr:=hr.chg (S:=fun _ => False) (Chg.of_below hI.bel) (fun _ _ => id)
   obtain ⟨g,cg,ev,hcg,hcell⟩:=hrr.cells hlt
   injection ev with ea eb ec
   subst ea ec
   have z1:=hcell 1 _ (by omega) (hrr.txt q hlt)
   obtain ⟨T,hT'⟩:∃ T,l.getD q ⟨#[]⟩ = T:=⟨_,rfl⟩
   rw [hT'] at z1
   have HI:=Hj hI
   have HT:=Hj hT'
   clear hI hr b2 hrr hcell eb hT'
   go_wp2_with (at_builtin; refine wpList_append_lies _ rfl _ _ 22 rfl w2.heap.size 9 i9 _ 1 16 Tryz.underlying22 (Uh I9).1 (Uh I9).2.1 (Uh I9).2.2.1 (Uh I9).2.2.2 rfl (by decide) (.slice a q c) q ((l.take q).map .string) rfl ((Uh HI).own.alloc _) ⟨wr.heap.size,0,none⟩ 1 1 [.string T] rfl rfl (World.news_of_block (alloc_block _ _)) (by intro u hu; simp at hu; subst hu; rfl) (by decide) (by unfold maxLen; omega) (by omega) (by have:=(Uh HI).bel.size; (first | (simp; omega) | simp | omega)) (wr.heap.size + 1) (by simp) ?_; intro g3 c3 w5 hown5 hgrow5 hat5 hlt5; have P5:=Hj (And.intro hown5 hgrow5); clear hown5 hgrow5 hat5 hlt5)
   obtain ⟨hown5,hgrow5⟩:=Uh P5
   have L5:Chg (fun j => (Value.slice a q c).ownBlock = some j) wr w5:=(Chg.of_alloc _ _).trans (Chg.of_grown hgrow5 (fun k hk => hk))
   refine ⟨⟨q + 1,some ⟨g3,0,none⟩,c3,by omega,rfl,by (first | rfl | go_num),⟨?_,?_⟩⟩,by simp [intOf]; omega⟩
   ·rw [take_str hlt,Uh HT]
    exact hown5
   ·exact (Uh HI).bel.trans (L5.below (Uh HI).bel.size (fun k hk e => by have:=own_ge (Uh HI).own k e; omega))
  ·have hq2:q = l.length:=by omega
   subst hq2
   have hlt':¬ (l.length:Int) < (l.length:Int):=by omega
   have HI:=Hj hI
   clear hI
   go_wp2_with fail
   go_ret3
   have hI:=Uh HI
   have ho:=hI.own
   rw [List.take_length] at ho
   exact ⟨_,_,rfl,str_row ho,(Uh HB).2.trans (hI.bel.mono (Uh HB).2.size)⟩
theorem stp_l {s:ByteArray} (hs:s.size ≤ 65536) {st:TkS} (h:(stp s st).1 = 0):(stp s st).2.l = st.l ∨ (st.l.length ≠ 16384 ∧ ∃ T:ByteArray,T.size ≤ 65536 ∧ (stp s st).2.l = st.l ++ [T]):=by
 have ha:∀ (T:ByteArray) j b,T.size ≤ 65536 → (tkAdd s st T j b).1 = 0 → (tkAdd s st T j b).2.l = st.l ∨ (st.l.length ≠ 16384 ∧ ∃ U:ByteArray,U.size ≤ 65536 ∧ (tkAdd s st T j b).2.l = st.l ++ [U]):=by
  intro T j b hT h
  unfold tkAdd at h ⊢
  by_cases c:st.l.length = 16384
  ·rw [if_pos c] at h
   cases h
  ·rw [if_neg c]
   exact .inr ⟨c,T,hT,by rfl⟩
 unfold stp at h ⊢
 by_cases c1:byA s st.i = 10
 ·rw [if_pos c1] at h ⊢
  by_cases c2:st.b = true
  ·rw [if_pos c2] at h ⊢
   exact ha _ _ _ (by decide) h
  ·rw [if_neg c2]
   exact .inl rfl
 ·rw [if_neg c1] at h ⊢
  by_cases c2:byA s st.i = 35
  ·rw [if_pos c2]
   exact .inl rfl
  ·rw [if_neg c2] at h ⊢
   by_cases c3:byA s st.i = 32 ∨ byA s st.i = 9 ∨ byA s st.i = 13
   ·rw [if_pos c3]
    exact .inl rfl
   ·rw [if_neg c3] at h ⊢
    by_cases c4:(tokE s st.i).1 ≠ 0
    ·rw [if_pos c4] at h
     exact absurd h c4
    ·rw [if_neg c4] at h ⊢
     exact ha _ _ _ (by rw [ByteArray.size_extract]; omega) h
theorem run_few {s:ByteArray} (hs:s.size ≤ 65536):∀ (f:Nat) (st:TkS),st.i ≤ s.size → st.l.length ≤ 16384 → (∀ T ∈ st.l,T.size ≤ 65536) → (runT s f st).1.length ≤ 16385 ∧ ∀ T ∈ (runT s f st).1,T.size ≤ 65536
 | 0,st,h1,h2,h3 => by
  unfold runT finT
  split
  ·split
   ·exact ⟨by simp,fun T hT => by cases hT⟩
   ·refine ⟨by show (st.l ++ [nlB]).length ≤ _; rw [len1]; omega,fun T hT => ?_⟩
    rcases List.mem_append.1 hT with c | c
    ·exact h3 T c
    ·rw [List.mem_singleton] at c; rw [c]; decide
  ·exact ⟨by show st.l.length ≤ _; omega,h3⟩
 | f + 1,st,h1,h2,h3 => by
  have H0:=run_few hs 0 st h1 h2 h3
  unfold runT
  split
  ·rename_i hi
   split
   ·exact ⟨by simp,fun T hT => by cases hT⟩
   ·rename_i hz
    have e0:(stp s st).1 = 0:=by omega
    have g:=stp_gt hi e0
    rcases stp_l hs e0 with e | ⟨hn,U,hU,e⟩
    ·exact run_few hs f _ g.2 (by rw [e]; exact h2) (by rw [e]; exact h3)
    ·refine run_few hs f _ g.2 (by rw [e,len1]; omega) (by
      rw [e]
      intro T hT
      rcases List.mem_append.1 hT with c | c
      ·exact h3 T c
      ·rw [List.mem_singleton] at c; rw [c]; exact hU)
  ·exact H0
theorem tks_few {s:ByteArray} {l:List ByteArray} {p er:Nat} (h:TksF s = (l,p,er)):l.length ≤ 16385 ∧ ∀ T ∈ l,T.size ≤ 65536:=by
 unfold TksF at h
 split at h
 ·injection h with h1 h2
  rw [← h1]
  exact ⟨by simp,fun T hT => by cases hT⟩
 ·have:=run_few (s:=s) (by omega) s.size ⟨0,false,[]⟩ (Nat.zero_le _) (by show ([]:List ByteArray).length ≤ _; simp) (fun T hT => by cases hT)
  rw [h] at this
  exact this
theorem run_place {s:ByteArray}:∀ (f:Nat) (st:TkS),(runT s f st).2.2 = 0 → (runT s f st).2.1 = 0
 | 0,st,h => by
  unfold runT finT at h ⊢
  split at h
  ·rename_i c
   rw [if_pos c]
   split at h
   ·cases h
   ·rename_i c2
    rw [if_neg c2]
  ·rename_i c
   rw [if_neg c]
 | f + 1,st,h => by
  unfold runT at h ⊢
  split at h
  ·rename_i c
   rw [if_pos c]
   split at h
   ·rename_i c2
    exact absurd h c2
   ·rename_i c2
    rw [if_neg c2]
    exact run_place f _ h
  ·rename_i c
   rw [if_neg c]
   exact run_place 0 st h
theorem tks_place {s:ByteArray} {l:List ByteArray} {p:Nat} (h:TksF s = (l,p,0)):p = 0:=by
 unfold TksF at h
 split at h
 ·injection h with h1 h2
  injection h2 with h2 h3
  cases h3
 ·have:=run_place (s:=s) s.size ⟨0,false,[]⟩
  rw [h] at this
  exact this rfl
theorem tks_nil {s:ByteArray} {l:List ByteArray} {p er:Nat} (h:TksF s = (l,p,er)) (he:er ≠ 0):l = []:=by
 unfold TksF at h
 split at h
 ·injection h with h1 h2
  exact h1.symm
 ·have:=res_nil (s:=s) s.size ⟨0,false,[]⟩
  rw [h] at this
  exact this he
theorem wtok_any (s:ByteArray) (w:World):Calls Tryz.prog 5 #[.string s] w fun e w' => TkA w w' (TksF s) e:=by
 obtain ⟨l,p,er,hR⟩:∃ l p er,TksF s = (l,p,er):=⟨_,_,_,rfl⟩
 by_cases he:er = 0
 ·subst he
  exact wtok_ok s w l p hR (tks_place hR) (tks_few hR).1
 ·exact wtok_bad s w l p er hR he (tks_nil hR he)
theorem ftok_any (s:ByteArray) (w:World) (hT:Tab64 w) (hB:TabBh w):Calls Tryz.prog 4 #[.string s] w fun e w' => TkA w w' (TksF s) e:=by
 obtain ⟨l,p,er,hR⟩:∃ l p er,TksF s = (l,p,er):=⟨_,_,_,rfl⟩
 by_cases he:er = 0
 ·subst he
  obtain rfl:=tks_place hR
  have hf:=tks_few hR
  have K:=ftok_ok s w hT hB l hR hf.1 (fun q hq => hf.2 _ (by rw [List.getD_eq_getElem?_getD,List.getElem?_eq_getElem hq]; exact List.getElem_mem hq))
  rw [hR]
  refine K.mono ?_
  rintro _ w' ⟨L,rfl,hb,b⟩
  refine ⟨_,_,rfl,.inr ⟨L,rfl,fun q hq => ?_⟩,b⟩
  exact (hb.all q _ (by simp [List.getD,List.getElem?_eq_getElem hq])).1
 ·have K:=ftok_bad s w hT hB p er (by rw [hR]) he
  rw [hR,tks_nil hR he]
  refine K.mono ?_
  rintro _ w' ⟨rfl,b⟩
  exact ⟨_,_,rfl,.inl rfl,b⟩
set_option maxRecDepth 100000 in
set_option maxHeartbeats 16000000 in
theorem sameTexts_any (a1 a2:Option Addr) (c1 c2:Nat) (l:List ByteArray) (w:World) (h1:TxS w a1 l) (h2:TxS w a2 l) (hl:l.length ≤ 16385) :
  Calls Tryz.prog 7 #[.slice a1 l.length c1,.slice a2 l.length c2] w fun e w' => e = .returned (.bool true) ∧ Below w.heap.size w w':=by
 have tn:((l.length:Int) != (l.length:Int)) = false:=by simp
 have tn':((l.length:Int) == (l.length:Int)) = true:=by simp
 have H1:=Hj h1
 have H2:=Hj h2
 clear h1 h2
 go_enter Tryz.func7,Tryz.ntmps7
 go_wp2_with fail
 go_loopw [5] (fun iv wr => ∃ q:Nat,q ≤ l.length ∧ iv = .int .i64 (q:Nat) ∧ Hid (Below w.heap.size w wr)) (fun iv _ => l.length - (intOf iv).toNat)
 case atStart => exact ⟨0,Nat.zero_le _,rfl,Below.refl _ _⟩
 case round =>
  obtain ⟨q,hq,rfl,HW⟩:=hrel
  by_cases hlt:q < l.length
  ·have hlt':(q:Int) < (l.length:Int):=by omega
   obtain ⟨g1,e1,k1⟩:=((Uh H1).below (Uh HW)).resolve_left (fun e => by rw [e] at hlt; simp at hlt)
   obtain ⟨g2,e2,k2⟩:=((Uh H2).below (Uh HW)).resolve_left (fun e => by rw [e] at hlt; simp at hlt)
   subst e1 e2
   have z1:=k1 q hlt
   have z2:=k2 q hlt
   generalize l.getD q ⟨#[]⟩ = T at *
   clear k1 k2
   go_wp2_with fail
   go_region
   all_goals go_wp2_with fail
   all_goals exact ⟨⟨q + 1,by omega,by (first | rfl | go_num),Hj (Uh HW).drew⟩,by simp [intOf]; omega⟩
  ·have hq2:q = l.length:=by omega
   subst hq2
   have hlt':¬ (l.length:Int) < (l.length:Int):=by omega
   go_wp2_with fail
   go_ret
   exact ⟨rfl,Uh HW⟩
theorem num4_any (e:Int) (w:World):Calls Tryz.prog 6 #[.int .i64 e] w fun r w' => r = .returned (.int .i64 e) ∧ w' = w:=by
 go_enter Tryz.func6,Tryz.ntmps6
 go_wp2_with fail
 go_ret
 exact ⟨rfl,rfl⟩
set_option maxRecDepth 100000 in
set_option maxHeartbeats 16000000 in
theorem formTokens_walk (t_s:ByteArray) (w:World) (hT:Tab64 w) (hTB:TabBh w) :
  Calls Tryz.prog 3 #[.string t_s] w fun e w' => e = .returned (.bool true) ∧ Below w.heap.size w w':=by
 obtain ⟨l,p,er,hR⟩:∃ l p er,TksF t_s = (l,p,er):=⟨_,_,_,rfl⟩
 have K1:=ftok_any t_s w hT hTB
 have K2:=fun (W:World) => wtok_any t_s W
 rw [hR] at K1 K2
 have hf:=(tks_few hR).1
 have HK1:=Hj K1
 have HK2:=Hj K2
 have HN:=Hj (fun (W:World) => num4_any (er:Int) W)
 have te:((er:Int) == (er:Int)) = true:=by simp
 have tp:((p:Int) == (p:Int)) = true:=by simp
 clear K1 K2 hR hT hTB
 go_enter Tryz.func3,Tryz.ntmps3
 go_wp2_with fail
 refine (Uh HK1).mono ?_
 rintro _ w1 ⟨a1,c1,rfl,s1,b1⟩
 have HS1:=Hj (And.intro s1 b1)
 clear s1 b1 HK1
 dsimp only
 go_wp2_with fail
 refine (Uh HK2 _).mono ?_
 rintro _ w2 ⟨a2,c2,rfl,s2,b2⟩
 have HS2:=Hj (And.intro ((Uh HS1).1.below b2) (And.intro s2 ((Uh HS1).2.trans (b2.mono (Uh HS1).2.size))))
 clear s2 b2 HK2 HS1
 dsimp only
 go_wp2_with fail
 refine (Uh HN _).mono ?_
 rintro _ _ ⟨rfl,hw⟩
 obtain rfl:=hw.symm
 clear hw HN
 go_wp2_with fail
 refine (sameTexts_any a1 a2 c1 c2 l w2 (Uh HS2).1 (Uh HS2).2.1 hf).mono ?_
 rintro _ w3 ⟨rfl,b3⟩
 have HB3:=Hj ((Uh HS2).2.2.trans (b3.mono (Uh HS2).2.2.size))
 clear b3 HS2
 go_wp2_with fail
 go_ret
 exact ⟨rfl,Uh HB3⟩
end Go.Proofs.YtjoaijbhpgekoaaGreatDoor
