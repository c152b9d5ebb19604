/- RAdd -/
import Derived.Test.YtjoaijbhpgekoaaGreatDoorShN
namespace Go.Proofs.YtjoaijbhpgekoaaGreatDoor
open Go.RowKit Go.Deep
set_option linter.unusedVariables false
set_option maxHeartbeats 400000 in
theorem rat_out (a:Option Addr) (len cap:Nat) (i:Int) (w:World) (h:¬ i < (len:Int)) :
  Calls Tryz.prog 70 #[.slice a len cap,.int .i64 i] w fun e w' => e = .returned (.int .u64 0) ∧ w' = w:=by
 go_enter Tryz.func70,Tryz.ntmps70
 go_wp2
 go_ret
 exact ⟨rfl,rfl⟩
set_option maxHeartbeats 400000 in
theorem rat_in (b off:Nat) (len cap:Nat) (i:Nat) (x:Nat) (w:World) (h:i < len) (hx:x < 4294967296) (hc:w.cell? ⟨b,off + i,none⟩ = some (.int .u32 (x:Nat))) :
  Calls Tryz.prog 70 #[.slice (some ⟨b,off,none⟩) len cap,.int .i64 i] w fun e w' => e = .returned (.int .u64 (x:Nat)) ∧ w' = w:=by
 go_enter Tryz.func70,Tryz.ntmps70
 go_wp2
 go_ret
 exact ⟨rfl,rfl⟩
theorem rat_any (a:Option Addr) (n c:Nat) (xs:List Nat) (i:Nat) (w:World) (h:Sl w a n c xs) (ok:Ok xs) :
  Calls Tryz.prog 70 #[.slice a n c,.int .i64 (i:Nat)] w fun e w' => e = .returned (.int .u64 (xs.getD i 0:Nat)) ∧ w' = w:=by
 by_cases hlt:i < n
 ·rcases h.cells with h0 | ⟨b,off,rfl,hc⟩
  ·have:=h.len; rw [h0] at this; simp at this; omega
  ·exact rat_in b off n c i _ w hlt (ok.getD i) (hc i (by rw [h.len]; exact hlt))
 ·have hz:xs.getD i 0 = 0:=getD_ge (by rw [h.len]; omega)
  rw [hz]
  exact rat_out a n c i w (by omega)

theorem valF_ge (xs:List Nat) (n:Nat) (h:xs.length ≤ n):valF (fun i => xs.getD i 0) n = val xs:=by
 rw [← valF_pad xs n h]
 apply valF_congr
 intro i hi
 by_cases e:i < xs.length
 ·simp [e]
 ·rw [if_neg e]; exact getD_ge (by omega)

theorem one_int {k:IntKind} {x:Int}:∀ u ∈ [Value.int k x],u.oneCell' = true:=by
 intro u hu; simp at hu; subst hu; rfl

structure PlusR (wr w:World) (s t:Nat) (v:Value) (k c:Nat) (zs:List Nat):Prop where
 len:zs.length = k
 ok:Ok zs
 cle:c ≤ 1
 own:wr.ownsRow w.heap.size 94 1 v k (vals zs)
 val:val zs + 4294967296 ^ k * c = s + t
 bel:Below w.heap.size w wr

theorem PlusR.step {wr w w1:World} {s t:Nat} {v v':Value} {k c:Nat} {zs:List Nat} {o:Obj} (h:PlusR wr w s t v k c zs) (x y:Nat) (hx:x < 4294967296) (hy:y < 4294967296)
  (hown:w1.ownsRow w.heap.size 94 1 v' (k + 1) (vals zs ++ [.int .u32 (adl x y c:Nat)])) (hg:(wr.alloc o).grownBy w1 v.ownBlock) :
  PlusR w1 w (s + 4294967296 ^ k * x) (t + 4294967296 ^ k * y) v' (k + 1) (adc x y c) (zs ++ [adl x y c]):=by
 have hs:=h.bel.size
 refine ⟨by simp [h.len],?_,adc_le x y c hx hy h.cle,by simpa [vals] using hown,?_,?_⟩
 ·intro z hz
  rcases List.mem_append.1 hz with hz | hz
  ·exact h.ok z hz
  ·simp at hz; subst hz; exact adl_lt _ _ _
 ·rw [val_append,h.len]
  simp only [Go.Proofs.YtjoaijbhpgekoaaGreatDoor.val,Nat.mul_zero,Nat.add_zero]
  have e:=ad_eq x y c
  rw [Nat.pow_succ]
  have:4294967296 ^ k * adl x y c + 4294967296 ^ k * 4294967296 * adc x y c = 4294967296 ^ k * x + 4294967296 ^ k * y + 4294967296 ^ k * c:=by
   rw [Nat.mul_assoc,← Nat.mul_add,e,Nat.mul_add,Nat.mul_add]
  have:=h.val
  omega
 ·exact Below.grown (h.bel.alloc (by omega) o) hg (by simp; omega) (fun k hk => (own_ge h.own k hk).1)

theorem plus_end {wr w w1:World} {s t:Nat} {v:Value} {k c g1 cc:Nat} {zs:List Nat} {o:Obj} (h:PlusR wr w s t v k c zs)
  (hown:w1.ownsRow w.heap.size 94 1 (.slice (some ⟨g1,0,none⟩) (k + 1) cc) (k + 1) (vals zs ++ [.int .u32 (c:Nat)])) (hg:(wr.alloc o).grownBy w1 v.ownBlock) :
  Sl w1 (some ⟨g1,0,none⟩) (k + 1) cc (zs ++ [c]) ∧ Ok (zs ++ [c]) ∧ Go.Proofs.YtjoaijbhpgekoaaGreatDoor.val (zs ++ [c]) = s + t ∧ NewAt w.heap.size (some ⟨g1,0,none⟩) ∧ Below w.heap.size w w1:=by
 have hs:=h.bel.size
 have e:vals zs ++ [.int .u32 (c:Nat)] = vals (zs ++ [c]):=by simp [vals]
 refine ⟨?_,?_,?_,?_,?_⟩
 ·rw [e] at hown; exact sl_of_own hown
 ·intro z hz
  rcases List.mem_append.1 hz with hz | hz
  ·exact h.ok z hz
  ·simp at hz; subst hz; have:=h.cle; omega
 ·rw [val_append,h.len]
  simp only [Go.Proofs.YtjoaijbhpgekoaaGreatDoor.val,Nat.mul_zero,Nat.add_zero]
  exact h.val
 ·intro x hx
  cases hx
  exact (own_ge hown g1 rfl).1
 ·exact Below.grown (h.bel.alloc (by omega) o) hg (by simp; omega) (fun k hk => (own_ge h.own k hk).1)

set_option maxHeartbeats 2000000 in
theorem rplus_any (a1 a2:Option Addr) (n1 c1 n2 c2:Nat) (xs ys:List Nat) (w:World) (h1:Sl w a1 n1 c1 xs) (h2:Sl w a2 n2 c2 ys) (ox:Ok xs) (oy:Ok ys) (hb1:n1 ≤ 10000000000000) (hb2:n2 ≤ 10000000000000) :
  Calls Tryz.prog 50 #[.slice a1 n1 c1,.slice a2 n2 c2] w fun e w' => ∃ a' m c' zs,e = .returned (.slice a' m c') ∧ m ≤ 20000000000000 ∧ Sl w' a' m c' zs ∧ Ok zs ∧ val zs = val xs + val ys ∧ NewAt w.heap.size a' ∧ Below w.heap.size w w':=by
 have hl1:=Hj h1.len
 have hl2:=Hj h2.len
 obtain ⟨i80,hi80,hz80,hs80,hb80⟩:=info_parts Tryz.info_u32
 have I80:=Hj (And.intro hi80 (And.intro hz80 (And.intro hs80 hb80)))
 clear hi80 hz80 hs80 hb80
 go_enter Tryz.func50,Tryz.ntmps50
 go_wp2
 go_loopw [5,6,7] (fun v cv i wr => ∃ k c:Nat,∃ zs:List Nat,(k ≤ n1 ∨ k ≤ n2) ∧ i = .int .i64 k ∧ cv = .int .u64 (c:Nat) ∧ PlusR wr w (valF (fun i => xs.getD i 0) k) (valF (fun i => ys.getD i 0) k) v k c zs) (fun _ _ i _ => n1 + n2 - (intOf i).toNat)
 case atStart => exact ⟨0,0,[],.inl (Nat.zero_le _),rfl,rfl,⟨rfl,Ok.nil,Nat.zero_le _,World.ownsRow_nil _ _ _ _,rfl,Below.refl _ _⟩⟩
 case round =>
  obtain ⟨k,c,zs,hk,rfl,rfl,hR⟩:=hrel
  by_cases hlt:k < n1 ∨ k < n2
  ·have ht:((k:Int) < (n1:Int)) ∨ ((k:Int) < (n2:Int)):=by omega
   have bx:=ox.getD k
   have bY:=oy.getD k
   have KX:=Hj (rat_any a1 n1 c1 xs k wr (h1.below hR.bel) ox)
   have KY:=Hj (rat_any a2 n2 c2 ys k wr (h2.below hR.bel) oy)
   have HS:=Hj (fun w1 v' o hown hg => (show PlusR w1 w (valF (fun i => xs.getD i 0) (k + 1)) (valF (fun i => ys.getD i 0) (k + 1)) v' (k + 1) _ _ from PlusR.step (o:=o) hR (xs.getD k 0) (ys.getD k 0) bx bY hown hg))
   have e1:=adl_int (xs.getD k 0) (ys.getD k 0) c
   have e2:=adc_int (xs.getD k 0) (ys.getD k 0) c
   have hc1:=hR.cle
   have HR:=Hj hR
   generalize xs.getD k 0 = x at *
   generalize ys.getD k 0 = y at *
   clear hR
   by_cases hA:(k:Int) < (n1:Int)
   all_goals
    have hB:(k:Int) < (n1:Int) ∨ (k:Int) < (n2:Int):=by omega
    go_wp2_with fail
    refine (Uh KX).mono ?_
    rintro e w' ⟨rfl,hw⟩
    obtain rfl:=hw.symm
    go_wp2_with fail
    refine (Uh KY).mono ?_
    rintro e w' ⟨rfl,hw⟩
    obtain rfl:=hw.symm
    go_wp2_with (at_builtin; refine wpList_append_lies _ rfl _ _ 36 rfl w.heap.size 94 i80 (.int .u32 0) 1 4 Tryz.underlying36 (Uh I80).1 (Uh I80).2.1 (Uh I80).2.2.1 (Uh I80).2.2.2 rfl (by decide) _ k (vals zs) rfl ?own1 ⟨wr.heap.size,0,none⟩ 1 1 [.int .u32 (adl x y c:Nat)] rfl rfl ?news1 ?one1 (by decide) ?c31 ?c41 ?c51 (wr.heap.size + 1) ?c61 ?_)
    case own1 => exact (Uh HR).own.alloc _
    case news1 => exact World.news_of_block (alloc_block _ _)
    case one1 => intro u hu; simp at hu; subst hu; rfl
    case c31 => unfold maxLen; omega
    case c41 => omega
    case c51 => have:=(Uh HR).bel.size; simp; omega
    case c61 => simp
    intro g1 cc w2 hown hgrow hat hlt2
    have HN:=Hj (Uh HS w2 _ _ hown hgrow)
    clear hown hgrow hat hlt2 HS HR KX KY
    go_wp2
    exact ⟨⟨k + 1,_,_,by omega,by go_num,rfl,Uh HN⟩,by simp [intOf]; omega⟩
  ·have hA:¬ (k:Int) < (n1:Int):=by omega
   have hB:¬ (k:Int) < (n2:Int):=by omega
   have hc1:=hR.cle
   have e1:valF (fun i => xs.getD i 0) k = val xs:=valF_ge xs k (by rw [Uh hl1]; omega)
   have e2:valF (fun i => ys.getD i 0) k = val ys:=valF_ge ys k (by rw [Uh hl2]; omega)
   rw [e1,e2] at hR
   have HR:=Hj hR
   clear hR e1 e2
   go_wp2_with (at_builtin; refine wpList_append_lies _ rfl _ _ 36 rfl w.heap.size 94 i80 (.int .u32 0) 1 4 Tryz.underlying36 (Uh I80).1 (Uh I80).2.1 (Uh I80).2.2.1 (Uh I80).2.2.2 rfl (by decide) _ k (vals zs) rfl ?own1 ⟨wr.heap.size,0,none⟩ 1 1 [.int .u32 (c:Nat)] rfl rfl (World.news_of_block (alloc_block _ _)) one_int (by decide) ?c31 ?c41 ?c51 (wr.heap.size + 1) (by simp) ?_)
   case own1 => exact (Uh HR).own.alloc _
   case c31 => unfold maxLen; omega
   case c41 => omega
   case c51 => have:=(Uh HR).bel.size; simp; omega
   intro g1 cc w2 hown hgrow hat hlt2
   have HN:=Hj (plus_end (Uh HR) hown hgrow)
   clear hown hgrow hat hlt2
   go_wp2
   go_ret
   refine ⟨_,_,_,zs ++ [c],rfl,by omega,(Uh HN).1,(Uh HN).2.1,(Uh HN).2.2.1,(Uh HN).2.2.2.1,(Uh HN).2.2.2.2⟩

theorem own_sl {w:World} {base k:Nat} {v:Value} {zs:List Nat} (h:w.ownsRow base 94 1 v k (vals zs)):∃ a c,v = .slice a k c ∧ Sl w a k c zs ∧ NewAt base a:=by
 have hl:zs.length = k:=by simpa [vals] using h.1
 rcases h.2 with ⟨e,h0⟩ | ⟨g,cap,cur,e,hb,h5,h6,h7,h8,h9⟩
 ·subst e h0
  have:zs = []:=List.eq_nil_of_length_eq_zero hl
  subst this
  exact ⟨none,0,rfl,⟨rfl,Nat.le_refl _,Nat.zero_le _,.inl rfl⟩,fun x hx => by cases hx⟩
 ·subst e
  exact ⟨_,_,rfl,sl_of_own h,fun x hx => by cases hx; exact hb⟩

theorem lim_int (x y c:Nat) (hx:x < 4294967296) (hy:y < 4294967296) (hc:c ≤ 1):(4294967296 + (x:Int) - y - c) % 4294967296 = ((lim x y c:Nat):Int):=by unfold lim; omega
theorem bor_int (x y c:Nat) (hx:x < 4294967296) (hy:y < 4294967296) (hc:c ≤ 1):1 - (4294967296 + (x:Int) - y - c) / 4294967296 = ((bor x (y + c):Nat):Int):=by
 unfold bor; split <;> omega

set_option maxHeartbeats 800000 in
theorem rfit_any (a:Option Addr) (m c:Nat) (zs:List Nat) (w:World) (h:Sl w a m c zs) (ok:Ok zs) (hb:m ≤ 70368744177664) :
  Calls Tryz.prog 93 #[.slice a m c] w fun e w' => Res2 w w' (fitL (val zs)) e:=by
 have K:=Hj (rtrim_any a m c zs w h ok hb)
 go_enter Tryz.func93,Tryz.ntmps93
 go_wp2_with fail
 refine (Uh K).mono ?_
 rintro e w1 ⟨a',n,ys,rfl,hs,hr,ha,hbel⟩
 have e1:=hr.eq
 have hl:=hs.len
 by_cases hbig:2048 < n
 ·have hf:=Hj (fitL_big (v:=val zs) (by rw [← e1,hl]; exact hbig))
  have hb':(2048:Int) < (n:Int):=by omega
  have HB:=Hj hbel
  clear K e1 hl hs hr ha hbel
  go_wp2
  go_ret2
  rw [Uh hf]
  exact ⟨none,0,0,rfl,sl_nil _,newAt_nil _,Uh HB⟩
 ·have hf:=Hj (fitL_ok (v:=val zs) (by rw [← e1,hl]; exact hbig))
  have hb':¬ (2048:Int) < (n:Int):=by omega
  rw [← e1] at hf
  have HB:=Hj (And.intro hbel (And.intro hs ha))
  clear K e1 hl hs hr ha hbel
  go_wp2
  go_ret2
  rw [Uh hf]
  exact ⟨a',n,n,rfl,(Uh HB).2.1,(Uh HB).2.2,(Uh HB).1⟩
theorem make_nl (n l:Nat) (h:n + l + 1 ≤ 70368744177600) (w:World):(Instr.makeSlice 36 (.int .i64 ((n:Int) + (l:Int) + 1)) (.int .i64 ((n:Int) + (l:Int) + 1))).run Tryz.prog w = .ok (.slice (some ⟨w.heap.size,0,none⟩) (n + l + 1) (n + l + 1)) (w.alloc (.cells (madeCells #[.int .u32 0] (n + l + 1)) 94)):=by
 have:=make_len (n + l + 1) h w
 rw [show ((n + l + 1:Nat):Int) = (n:Int) + (l:Int) + 1 from by omega] at this
 exact this

set_option maxHeartbeats 2000000 in
theorem shl_some (b off n c:Nat) (xs:List Nat) (w:World) (k l s:Nat) (hl:xs.length = n) (hc:Cells w b off xs) (ox:Ok xs) (hkl:(k:Int) / 32 = (l:Int)) (hks:(k:Int) % 32 = (s:Int)) (hs32:s < 32) (hk0:k ≤ 65536) (hl0:l ≤ 2048) (hn:0 < n) (hn2:n ≤ 2048) :
  Calls Tryz.prog 130 #[.slice (some ⟨b,off,none⟩) n c,.int .i64 (k:Nat)] w fun e w' => NewRep w w' (val xs * 2 ^ k) e:=by
 have hmk:=fun w => make_nl n l (by omega) w
 have hne:((n:Int) == 0) = false:=by simp; omega
 have HL:=Hj hl
 have HT:=Hj (sh_total (v:=val xs) (k:=k) (l:=l) (s:=s) (by omega) (by omega))
 clear hl
 go_enter Tryz.func130,Tryz.ntmps130
 go_wp2_with fail
 rw [hks]
 clear hkl hks hk0
 go_loopw [25] (fun i wr => ∃ j:Nat,∃ g:Nat → Nat,j ≤ n ∧ i = .int .i64 j ∧ ShR wr w (n + l + 1) l s xs j g) (fun i _ => n - (intOf i).toNat)
 case atStart => exact ⟨0,_,Nat.zero_le _,rfl,ShR.begin w (n + l + 1) l s xs hs32⟩
 case round =>
  obtain ⟨j,g,hj,rfl,hR⟩:=hrel
  by_cases hlt:j < n
  ·have hlt':(j:Int) < (n:Int):=by omega
   have hb1:(l:Int) + (j:Int) < (n:Int) + (l:Int) + 1:=by omega
   have hb2:(l:Int) + (j:Int) + 1 < (n:Int) + (l:Int) + 1:=by omega
   have g0:=hc j (by rw [Uh HL]; exact hlt)
   have g1:wr.cell? ⟨b,off + j,none⟩ = _:=(ck hR.bel g0)
   have g2:=hR.fn (l + j) (by omega)
   have g3:=hR.fn (l + j + 1) (by omega)
   simp only [Nat.zero_add] at g2 g3
   have c1:=g2.1
   have c2:=g2.2
   have c3:=g3.1
   have c4:=g3.2
   have bx:=ox.getD j
   have e0:=sv_int (x:=xs.getD j 0) (s:=s) bx hs32
   have e1:=slo_int (xs.getD j 0) s
   have e2:=shi_int (xs.getD j 0) s
   have e3:=or_int (x:=xs.getD j 0) hs32 hR.top
   have b1:=sv_lt (x:=xs.getD j 0) bx hs32
   have b2:shi (xs.getD j 0) s < 4294967296:=by have:=shi_lt (x:=xs.getD j 0) bx hs32; have:=(pow_s hs32).2; omega
   have HS:=Hj (hR.step hs32 (by omega) ox)
   generalize xs.getD j 0 = x at *
   generalize g (l + j) = o at *
   generalize g (l + j + 1) = o2 at *
   clear hR g0 g2 g3
   go_wp2
   exact ⟨⟨j + 1,_,by omega,by go_num,Uh HS⟩,by simp [intOf]; omega⟩
  ·have hjn:j = n:=by omega
   subst hjn
   have hv:valF g (j + l + 1) = val xs * 2 ^ k:=by
    have:=hR.val
    rw [← Uh HL,valF_list,Uh HT,Uh HL,Nat.add_comm l j] at this
    exact this
   have KT:=trim_any _ (j + l + 1) (j + l + 1) _ wr (hR.fn.sl (Nat.le_refl _) (by unfold maxLen; omega)) (lst_ok hR.ok)
   rw [lst_val,hv] at KT
   have KT':=Hj KT
   have HB:=Hj hR.bel
   clear hR KT hv
   go_wp2_with fail
   refine (Uh KT').mono ?_
   rintro e w3 ⟨a',m,zs,rfl,hs,hr,ha,rfl⟩
   go_wp2
   go_ret
   refine ⟨a',m,zs,rfl,hs,hr,?_,Uh HB⟩
   intro x hx
   rcases ha with rfl | rfl
   ·cases hx; exact Nat.le_refl _
   ·cases hx

set_option maxHeartbeats 400000 in
theorem shl_nil (a:Option Addr) (c:Nat) (k:Int) (w:World) :
  Calls Tryz.prog 130 #[.slice a 0 c,.int .i64 k] w fun e w' => e = .returned (.slice none 0 0) ∧ w' = w:=by
 go_enter Tryz.func130,Tryz.ntmps130
 go_wp2
 go_ret
 exact ⟨rfl,rfl⟩

theorem shl_any (a:Option Addr) (n c:Nat) (xs:List Nat) (w:World) (k:Nat) (h:Sl w a n c xs) (ox:Ok xs) (hn:n ≤ 2048) (hk:k ≤ 65536) :
  Calls Tryz.prog 130 #[.slice a n c,.int .i64 (k:Nat)] w fun e w' => NewRep w w' (val xs * 2 ^ k) e:=by
 by_cases h0:xs = []
 ·have hl:=h.len
  subst h0
  simp at hl
  subst hl
  refine (shl_nil a c k w).mono ?_
  rintro e w' ⟨rfl,rfl⟩
  exact ⟨none,0,[],rfl,sl_nil _,⟨Ok.nil,.inl rfl,by simp [val]⟩,newAt_nil _,Below.refl _ _⟩
 ·have hp:0 < xs.length:=List.length_pos_iff.2 h0
  rcases h.cells with e | ⟨b,off,rfl,hc⟩
  ·exact absurd e h0
  ·exact shl_some b off n c xs w k (k / 32) (k % 32) h.len hc ox (by omega) (by omega) (by omega) hk (by omega) (by have:=h.len; omega) hn

def shrL (xs:List Nat) (k:Int):List Nat × Int:=if MayL xs then (if 0 ≤ k ∧ k ≤ 65536 then (limbs (val xs / 2 ^ k.toNat),0) else ([],1)) else ([],20)
end Go.Proofs.YtjoaijbhpgekoaaGreatDoor
