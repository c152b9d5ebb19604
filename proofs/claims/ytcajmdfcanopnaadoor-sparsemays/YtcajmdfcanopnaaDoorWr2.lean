/- Wr2 -/
import Derived.Test.YtcajmdfcanopnaaDoorWr1
import Derived.Test.YtcajmdfcanopnaaDoorRd1
namespace Go.Proofs.YtcajmdfcanopnaaDoor
open Go.RowKit Go.Deep
set_option linter.unusedVariables false
section
variable {P:Program} {w:World}
theorem wpList_append_nilR {ops:Array Oper} {rest:List Oper} {o:Oper} {a:Act} {Q:Exit → Act → World → Prop} (hgd:o.guard = none) (s x:Operand) (t:TypeId)
  (ho:o.op = .call { callee:=.builtin .append,args:=#[s,x],argTypes:=#[t,t] })
  (base:Nat) (e:TypeId) (i:TypeInfo) (z:Value) (bytes:Nat) (ht:P.underlying t = some (.slice e)) (hi:P.info? e = some i) (hz:i.zero = some z)
  (hsize:i.size = 1) (hby:i.bytes = bytes) (hzs:z.cells.size = 1)
  (hs:a.eval s = .slice none 0 0)
  (ao:Option Addr) (m c:Nat) (news:List Value) (hx:a.eval x = .slice ao m c) (hl:news.length = m) (hnone:ao = none → m = 0 ∧ c = 0)
  (hnews:∀ ad,ao = some ad → ∀ j u,news[j]? = some u → w.cell? (ad.add j) = some u) (h1:∀ u ∈ news,u.oneCell' = true)
  (h63:m ≤ maxLen) (hbytes:m * bytes ≤ 140737488355328) (hbase:base ≤ w.heap.size)
  (h:∀ v w',w'.ownsRow base e 1 v m news → w.grownBy w' none → wpList P ops Q rest (a.put o.dst v) w'):wpList P ops Q (o :: rest) a w:=by
 cases ao with
 | none =>
  obtain ⟨rfl,rfl⟩:=hnone rfl
  have hn:news = []:=List.eq_nil_of_length_eq_zero hl
  subst hn
  refine wpList_plain hgd fun K hK => ?_
  have hrun:=run_append_owned_none (P:=P) (w:=w) base t o.type e i 1 ht hi (.slice none 0 0) 0 [] (World.ownsRow_nil _ _ _ _)
  unfold Oper.wp
  simp [execOp,ho,resolve,invoke,builtin,hs,hx,hrun,Result.andThen]
  exact hK _ _ (h _ w (World.ownsRow_nil _ _ _ _) (World.grownBy.refl _ _))
 | some ad =>
  refine wpList_append_own w hgd s x t ho base e i z 1 bytes ht hi hz hsize hby hzs (by decide) _ 0 [] hs (World.ownsRow_nil _ _ _ _) ad m c news hx (by simpa using hl) (hnews ad rfl) h1 (by simpa using h63) (by simpa using hbytes) hbase ?_
  intro v' w' k1 k2 _
  simp only [Nat.zero_add,List.nil_append] at k1
  exact h v' w' k1 k2
end

theorem Sl.news {w:World} {a:Option Addr} {n c:Nat} {xs:List Nat} (h:Sl w a n c xs):∀ ad,a = some ad → ∀ j u,(vals xs)[j]? = some u → w.cell? (ad.add j) = some u:=by
 intro ad had j u hu
 have hj:j < xs.length:=by
  have:=(List.getElem?_eq_some_iff.1 hu).1
  simpa [vals] using this
 have hne:xs ≠ []:=by intro e; rw [e] at hj; simp at hj
 obtain ⟨b,off,e,hc⟩:=h.cells.resolve_left hne
 rw [e] at had
 cases had
 have e2:(⟨b,off,none⟩:Addr).add j = ⟨b,off + j,none⟩:=by unfold Addr.add; split <;> simp_all
 rw [e2,hc j hj,← hu]
 simp [vals,List.getD,hj]

set_option maxHeartbeats 2000000 in
theorem wcopied_any (a:Option Addr) (n c:Nat) (xs:List Nat) (w:World) (h:Sl w a n c xs) (hnil:a = none → c = 0) (hn:n ≤ 1000000000) :
  Calls Tryd.prog 54 #[.slice a n c] w fun e w' => ∃ a' c',e = .returned (.slice a' n c') ∧ Ow w' w.heap.size a' n c' xs ∧ Below w.heap.size w w':=by
 obtain ⟨i80,hi80,hz80,hs80,hb80⟩:=info_parts Tryd.info_u32
 have I80:=Hj (And.intro hi80 (And.intro hz80 (And.intro hs80 hb80)))
 have HS:=Hj h
 have HNil:=Hj (show a = none → n = 0 ∧ c = 0 from fun e => ⟨by have:=hnil e; have:=h.le; omega,hnil e⟩)
 clear hi80 hz80 hs80 hb80 h hnil
 go_enter Tryd.func54,Tryd.ntmps54
 go_wp2_with (at_builtin; refine wpList_append_nilR rfl _ _ 54 rfl w.heap.size 68 i80 (.int .u32 0) 4 Tryd.underlying54 (Uh I80).1 (Uh I80).2.1 (Uh I80).2.2.1 (Uh I80).2.2.2 rfl rfl a n c (vals xs) rfl ?hl (Uh HNil) ?hnews ?hone ?h63 ?hby (Nat.le_refl _) ?_)
 case hl => simp [vals,(Uh HS).len]
 case hnews => exact (Uh HS).news
 case hone => exact vals_one
 case h63 => unfold maxLen; omega
 case hby => omega
 intro v1 w1 hown hg
 have HB1:=Hj (show Below w.heap.size w w1 from Below.grown (Below.refl _ _) hg (Nat.le_refl _) (fun k hk => by cases hk))
 obtain ⟨a',c',e,_,_⟩:=own_sl hown
 subst e
 have HO:=Hj (show Ow w1 w.heap.size a' n c' xs from hown)
 clear hown hg
 go_wp2_with fail
 go_ret
 exact ⟨a',c',rfl,Uh HO,Uh HB1⟩

theorem wsign_any (n:Int) (w:World) (hl:-9223372036854775808 ≤ n) (hh:n ≤ 9223372036854775807) :
  Calls Tryd.prog 66 #[.int .i64 n] w fun e w' => e = .returned (.int .i64 n.sign) ∧ w' = w:=by
 rcases Int.lt_trichotomy n 0 with h | h | h
 ·rw [Int.sign_eq_neg_one_of_neg h]
  go_enter Tryd.func66,Tryd.ntmps66
  go_wp2
  go_ret
  exact ⟨rfl,rfl⟩
 ·subst h
  go_enter Tryd.func66,Tryd.ntmps66
  go_wp2
  go_ret
  exact ⟨rfl,rfl⟩
 ·rw [Int.sign_eq_one_of_pos h]
  have h2:¬ n < 0:=by omega
  go_enter Tryd.func66,Tryd.ntmps66
  go_wp2
  go_ret
  exact ⟨rfl,rfl⟩

set_option maxHeartbeats 1600000 in
theorem wcmp_some (b1 o1 b2 o2 : Nat) (n c1 c2 : Nat) (xs ys : List Nat) (w : World) (hn : n ≤ maxLen) (hx : xs.length = n) (hy : ys.length = n) (ox : Ok xs) (oy : Ok ys)
   (h1 : Cells w b1 o1 xs) (h2 : Cells w b2 o2 ys) :
    Calls Tryd.prog 60 #[.slice (some ⟨b1, o1, none⟩) n c1, .slice (some ⟨b2, o2, none⟩) n c2] w fun e w' => e = .returned (.int .i64 (cmpN (val xs) (val ys))) ∧ ∃ k, w' = w.drewN k := by
  unfold maxLen at hn
  have hne : ((n:Int) != (n:Int)) = false := by simp
  go_enter Tryd.func60, Tryd.ntmps60
  go_wp2
  go_loopw [5] (fun i wr => ∃ k : Nat, k ≤ n ∧ i = .int .i64 ((k : Int) - 1) ∧ (∀ j, k ≤ j → xs.getD j 0 = ys.getD j 0) ∧ ∃ d, wr = w.drewN d) (fun i _ => (intOf i + 1).toNat)
  case atStart => exact ⟨n, Nat.le_refl _, rfl, fun j hj => by rw [getD_ge (by omega), getD_ge (by omega)], 0, rfl⟩
  case round =>
    obtain ⟨k, hk, rfl, ht, d, rfl⟩ := hrel
    by_cases hlt : 0 < k
    · have hlt' : (0:Int) ≤ (k:Int) - 1 := by omega
      have hlt2 : (k:Int) - 1 < (n:Int) := by omega
      have hk1 : ((k:Int) - 1).toNat = k - 1 := by omega
      have g1 := h1 (k - 1) (by omega)
      have g2 := h2 (k - 1) (by omega)
      by_cases he : xs.getD (k - 1) 0 = ys.getD (k - 1) 0
      · have HT : ∀ j, k - 1 ≤ j → xs.getD j 0 = ys.getD j 0 := fun j hj => by
          by_cases e : j = k - 1
          · rw [e]; exact he
          · exact ht j (by omega)
        have HT' := hide HT
        have hb : ¬ ((xs.getD (k - 1) 0 : Nat) : Int) < ((ys.getD (k - 1) 0 : Nat) : Int) := by omega
        have hb' : ¬ ((ys.getD (k - 1) 0 : Nat) : Int) < ((xs.getD (k - 1) 0 : Nat) : Int) := by omega
        generalize ((xs.getD (k - 1) 0 : Nat) : Int) = u at g1 hb hb'
        generalize ((ys.getD (k - 1) 0 : Nat) : Int) = v at g2 hb hb'
        clear he h1 h2 HT ht
        go_wp2_with fail
        go_quiet (fail)
        go_wp2_with fail
        go_quiet (fail)
        go_wp2
        exact ⟨⟨k - 1, by omega, by congr 1; omega, unhide HT', _, rfl⟩, by simp [intOf]; omega⟩
      · have hr : ((xs.getD (k - 1) 0 : Nat) : Int) < ((ys.getD (k - 1) 0 : Nat) : Int) ∧ cmpN (val xs) (val ys) = -1 ∨ ((ys.getD (k - 1) 0 : Nat) : Int) < ((xs.getD (k - 1) 0 : Nat) : Int) ∧ cmpN (val xs) (val ys) = 1 := by
          by_cases hh : xs.getD (k - 1) 0 < ys.getD (k - 1) 0
          · exact .inl ⟨by omega, cmpN_lt (val_lt_of (i := k - 1) (hx.trans hy.symm) ox oy (by omega) (fun j hj => ht j (by omega)) hh)⟩
          · exact .inr ⟨by omega, cmpN_gt (val_lt_of (i := k - 1) (hy.trans hx.symm) oy ox (by omega) (fun j hj => (ht j (by omega)).symm) (by omega))⟩
        generalize ((xs.getD (k - 1) 0 : Nat) : Int) = u at g1 hr
        generalize ((ys.getD (k - 1) 0 : Nat) : Int) = v at g2 hr
        clear he h1 h2 ht
        rcases hr with ⟨hr, hc⟩ | ⟨hr, hc⟩
        · have HC := hide hc
          clear hc
          go_wp2_with fail
          go_quiet (fail)
          go_wp2
          go_ret
          exact ⟨by rw [unhide HC]; rfl, _, drewN_add _ _ _⟩
        · have HC := hide hc
          have hr' : ¬ u < v := by omega
          clear hc
          go_wp2_with fail
          go_quiet (fail)
          go_wp2_with fail
          go_quiet (fail)
          go_wp2
          go_ret
          exact ⟨by rw [unhide HC]; rfl, _, drewN_add3 _ _ _ _⟩
    · have hk0 : ¬ (0:Int) ≤ (k:Int) - 1 := by omega
      have : xs = ys := ext_getD (hx.trans hy.symm) (fun i _ => ht i (by omega))
      have HE := hide this
      clear this h1 h2 ht
      go_wp2
      go_ret
      exact ⟨by rw [cmpN_eq (by rw [unhide HE])]; rfl, _, rfl⟩

set_option maxHeartbeats 400000 in
theorem wcmp_len (a1 a2:Option Addr) (n1 n2 c1 c2:Nat) (w:World) (hn:((n1:Int) != (n2:Int)) = true) (h1:n1 ≤ 1000000000) (h2:n2 ≤ 1000000000) (r:Int) (hr:((n1:Int) - n2).sign = r) :
  Calls Tryd.prog 60 #[.slice a1 n1 c1,.slice a2 n2 c2] w fun e w' => e = .returned (.int .i64 r) ∧ w' = w:=by
 have K:=wsign_any ((n1:Int) - n2) w (by omega) (by omega)
 rw [hr] at K
 have HK:=Hj K
 clear K hr
 go_enter Tryd.func60,Tryd.ntmps60
 go_wp2_with fail
 refine (Uh HK).mono ?_
 rintro e w' ⟨rfl,hw⟩
 obtain rfl:=hw.symm
 go_wp2_with fail
 go_ret
 exact ⟨rfl,rfl⟩

set_option maxHeartbeats 400000 in
theorem wcmp_nil (a1 a2:Option Addr) (c1 c2:Nat) (w:World) :
  Calls Tryd.prog 60 #[.slice a1 0 c1,.slice a2 0 c2] w fun e w' => e = .returned (.int .i64 0) ∧ w' = w:=by
 go_enter Tryd.func60,Tryd.ntmps60
 go_wp2
 go_loop [5] (fun i => i = .int .i64 (-1)) (fun i => (intOf i).toNat)
 case atStart => rfl
 case round =>
  subst hrel
  go_wp2
  go_ret
  exact ⟨rfl,rfl⟩

theorem wcmp_any (a1 a2:Option Addr) (n1 c1 n2 c2:Nat) (xs ys:List Nat) (w:World) (h1:Sl w a1 n1 c1 xs) (h2:Sl w a2 n2 c2 ys) (ox:Ok xs) (oy:Ok ys) (nx:Norm xs) (ny:Norm ys) (hn1:n1 ≤ 1000000000) (hn2:n2 ≤ 1000000000) :
  Calls Tryd.prog 60 #[.slice a1 n1 c1,.slice a2 n2 c2] w fun e w' => e = .returned (.int .i64 (cmpN (val xs) (val ys))) ∧ ∃ k,w' = w.drewN k:=by
 have l1:=h1.len
 have l2:=h2.len
 by_cases e:n1 = n2
 ·subst e
  by_cases z:n1 = 0
  ·subst z
   have e1:xs = []:=List.eq_nil_of_length_eq_zero l1
   have e2:ys = []:=List.eq_nil_of_length_eq_zero l2
   subst e1 e2
   refine (wcmp_nil a1 a2 c1 c2 w).mono ?_
   rintro e w' ⟨rfl,rfl⟩
   exact ⟨rfl,0,rfl⟩
  ·rcases h1.cells with e1 | ⟨b1,o1,rfl,k1⟩
   ·subst e1; simp at l1; omega
   ·rcases h2.cells with e2 | ⟨b2,o2,rfl,k2⟩
    ·subst e2; simp at l2; omega
    ·exact wcmp_some b1 o1 b2 o2 n1 c1 c2 xs ys w (Nat.le_trans h1.le h1.cap) l1 l2 ox oy k1 k2
 ·refine (wcmp_len a1 a2 n1 n2 c1 c2 w (by rw [bne_iff_ne]; omega) hn1 hn2 (cmpN (val xs) (val ys)) ?_).mono ?_
  ·rw [← cmp_len ox oy nx ny (by omega),l1,l2]
   by_cases h:(n1:Int) < (n2:Int)
   ·rw [if_pos h,Int.sign_eq_neg_one_of_neg (by omega)]
   ·rw [if_neg h,Int.sign_eq_one_of_pos (by omega)]
  ·rintro e w' ⟨rfl,rfl⟩
   exact ⟨rfl,0,rfl⟩
end Go.Proofs.YtcajmdfcanopnaaDoor
