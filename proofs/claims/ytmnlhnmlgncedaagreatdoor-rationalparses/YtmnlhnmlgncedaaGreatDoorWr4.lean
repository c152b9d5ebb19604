/- Wr3 -/
import Derived.Test.YtmnlhnmlgncedaaGreatDoorWr2
import Derived.Test.YtmnlhnmlgncedaaGreatDoorShl
namespace Go.Proofs.YtmnlhnmlgncedaaGreatDoor
open Go.RowKit Go.Deep
set_option linter.unusedVariables false
def NewL (w w':World) (v:Nat) (e:Ending):Prop:=∃ a m c,e = .returned (.slice a m c) ∧ Sl w' a m c (limbs v) ∧ NewAt w.heap.size a ∧ (a = none → c = 0) ∧ Below w.heap.size w w'
theorem Ow.nilc {w:World} {B n c:Nat} {a:Option Addr} {xs:List Nat} (h:Ow w B a n c xs):a = none → c = 0:=by
 intro e
 rcases h.shape with ⟨_,_,h3⟩ | ⟨g,e2⟩
 ·exact h3
 ·rw [e] at e2; cases e2

set_option maxRecDepth 100000 in
set_option maxHeartbeats 4000000 in
theorem waddw_any (a1 a2:Option Addr) (n1 c1 n2 c2:Nat) (xs ys:List Nat) (w:World) (h1:Sl w a1 n1 c1 xs) (h2:Sl w a2 n2 c2 ys) (ox:Ok xs) (oy:Ok ys) (hb1:n1 ≤ 1000000000) (hb2:n2 ≤ 1000000000) :
  Calls Tryz.prog 156 #[.slice a1 n1 c1,.slice a2 n2 c2] w fun e w' => NewL w w' (val xs + val ys) e:=by
 have hl1:=Hj h1.len
 have hl2:=Hj h2.len
 have Hx:=Hj h1
 have Hy:=Hj h2
 have HL1:=hl1
 have HL2:=hl2
 obtain ⟨i80,hi80,hz80,hs80,hb80⟩:=info_parts Tryz.info_u32
 have I80:=Hj (And.intro hi80 (And.intro hz80 (And.intro hs80 hb80)))
 clear hi80 hz80 hs80 hb80 h1 h2
 go_enter Tryz.func156,Tryz.ntmps156
 go_wp2
 go_loopw [5,6,7] (fun v cv i wr => ∃ k c:Nat,∃ zs:List Nat,(k ≤ n1 ∨ k ≤ n2 ∨ c = 0) ∧ i = .int .i64 k ∧ cv = .int .u64 (c:Nat) ∧ PlusR wr w (valF (fun i => xs.getD i 0) k) (valF (fun i => ys.getD i 0) k) v k c zs) (fun _ _ i _ => n1 + n2 + 1 - (intOf i).toNat)
 case atStart => exact ⟨0,0,[],.inl (Nat.zero_le _),rfl,rfl,⟨rfl,Ok.nil,Nat.zero_le _,World.ownsRow_nil _ _ _ _,rfl,Below.refl _ _⟩⟩
 case round =>
  obtain ⟨k,c,zs,hk,rfl,rfl,hR⟩:=hrel
  by_cases hA:k < n1
  ·by_cases hB:k < n2
   ·have tA:(k:Int) < (n1:Int):=by omega
    have tB:(k:Int) < (n2:Int):=by omega
    have tAB:(k:Int) < (n1:Int) ∨ (k:Int) < (n2:Int):=by omega
    have tABC:((k:Int) < (n1:Int) ∨ (k:Int) < (n2:Int)) ∨ (0:Int) < (c:Int):=by omega
    obtain ⟨bkx,ofx,ex,hcx⟩:=(Uh Hx).cells.resolve_left (by intro e; have:=Uh hl1; rw [e] at this; simp at this; omega)
    have gx:=((Uh Hx).below hR.bel).cells.resolve_left (by intro e; have:=Uh hl1; rw [e] at this; simp at this; omega)
    rw [ex] at gx
    obtain ⟨bkx',ofx',ex',gx⟩:=gx
    cases ex'
    have gx:=gx k (by rw [Uh hl1]; omega)
    obtain ⟨bky,ofy,ey,hcy⟩:=(Uh Hy).cells.resolve_left (by intro e; have:=Uh hl2; rw [e] at this; simp at this; omega)
    have gy:=((Uh Hy).below hR.bel).cells.resolve_left (by intro e; have:=Uh hl2; rw [e] at this; simp at this; omega)
    rw [ey] at gy
    obtain ⟨bky',ofy',ey',gy⟩:=gy
    cases ey'
    have gy:=gy k (by rw [Uh hl2]; omega)
    have bx:=ox.getD k
    have bY:=oy.getD k
    have HS:=Hj (fun w1 v' o hown hg => (show PlusR w1 w (valF (fun i => xs.getD i 0) (k + 1)) (valF (fun i => ys.getD i 0) (k + 1)) v' (k + 1) _ _ from PlusR.step (o:=o) hR (xs.getD k 0) (ys.getD k 0) bx bY hown hg))
    have hc1:=hR.cle
    have HR:=Hj hR
    have e1:((c:Int) + (xs.getD k 0:Nat) + (ys.getD k 0:Nat)) % 4294967296 = ((adl (xs.getD k 0) (ys.getD k 0) c:Nat):Int):=by unfold adl; omega
    have e2:((c:Int) + (xs.getD k 0:Nat) + (ys.getD k 0:Nat)) / 4294967296 = ((adc (xs.getD k 0) (ys.getD k 0) c:Nat):Int):=by unfold adc; omega
    have eN:adc 0 0 c = 0:=by unfold adc; omega
    subst ex
    subst ey
    have HKK:=Hj hk
    clear hR eN HL1 HL2 hk hA hB
    generalize xs.getD k 0 = x at *
    generalize ys.getD k 0 = y at *
    go_wp2_with (at_builtin; refine wpList_append_lies _ rfl _ _ 22 rfl w.heap.size 84 i80 (.int .u32 0) 1 4 Tryz.underlying22 (Uh I80).1 (Uh I80).2.1 (Uh I80).2.2.1 (Uh I80).2.2.2 rfl (by decide) _ k (vals zs) rfl ?own1q11 ⟨wr.heap.size,0,none⟩ 1 1 [.int .u32 (adl x y c:Nat)] rfl rfl (World.news_of_block (alloc_block _ _)) one_int (by decide) ?c31q11 ?c41q11 ?c51q11 (wr.heap.size + 1) (by simp) ?_)
    case own1q11 => exact (Uh HR).own.alloc _
    case c31q11 => unfold maxLen; omega
    case c41q11 => omega
    case c51q11 => have:=(Uh HR).bel.size; simp; omega
    intro g1 cc w2 hown hgrow hat hlt2
    have HN:=Hj (Uh HS w2 _ _ hown hgrow)
    clear hown hgrow hat hlt2 HS HR
    go_wp2
    exact ⟨⟨k + 1,_,_,by have:=Uh HKK; omega,by go_num,rfl,Uh HN⟩,by have:=Uh HKK; simp [intOf]; omega⟩
   ·have tA:(k:Int) < (n1:Int):=by omega
    have tB:¬ (k:Int) < (n2:Int):=by omega
    have tAB:(k:Int) < (n1:Int) ∨ (k:Int) < (n2:Int):=by omega
    have tABC:((k:Int) < (n1:Int) ∨ (k:Int) < (n2:Int)) ∨ (0:Int) < (c:Int):=by omega
    obtain ⟨bkx,ofx,ex,hcx⟩:=(Uh Hx).cells.resolve_left (by intro e; have:=Uh hl1; rw [e] at this; simp at this; omega)
    have gx:=((Uh Hx).below hR.bel).cells.resolve_left (by intro e; have:=Uh hl1; rw [e] at this; simp at this; omega)
    rw [ex] at gx
    obtain ⟨bkx',ofx',ex',gx⟩:=gx
    cases ex'
    have gx:=gx k (by rw [Uh hl1]; omega)
    have zy:ys.getD k 0 = 0:=getD_ge (by rw [Uh hl2]; omega)
    have bx:=ox.getD k
    have bY:=oy.getD k
    have HS:=Hj (fun w1 v' o hown hg => (show PlusR w1 w (valF (fun i => xs.getD i 0) (k + 1)) (valF (fun i => ys.getD i 0) (k + 1)) v' (k + 1) _ _ from PlusR.step (o:=o) hR (xs.getD k 0) (ys.getD k 0) bx bY hown hg))
    have hc1:=hR.cle
    have HR:=Hj hR
    have e1:((c:Int) + (xs.getD k 0:Nat)) % 4294967296 = ((adl (xs.getD k 0) (ys.getD k 0) c:Nat):Int):=by unfold adl; omega
    have e2:((c:Int) + (xs.getD k 0:Nat)) / 4294967296 = ((adc (xs.getD k 0) (ys.getD k 0) c:Nat):Int):=by unfold adc; omega
    have eN:adc 0 0 c = 0:=by unfold adc; omega
    subst ex
    clear zy
    have HKK:=Hj hk
    clear hR eN HL1 HL2 hk hA hB
    generalize xs.getD k 0 = x at *
    generalize ys.getD k 0 = y at *
    go_wp2_with (at_builtin; refine wpList_append_lies _ rfl _ _ 22 rfl w.heap.size 84 i80 (.int .u32 0) 1 4 Tryz.underlying22 (Uh I80).1 (Uh I80).2.1 (Uh I80).2.2.1 (Uh I80).2.2.2 rfl (by decide) _ k (vals zs) rfl ?own1q10 ⟨wr.heap.size,0,none⟩ 1 1 [.int .u32 (adl x y c:Nat)] rfl rfl (World.news_of_block (alloc_block _ _)) one_int (by decide) ?c31q10 ?c41q10 ?c51q10 (wr.heap.size + 1) (by simp) ?_)
    case own1q10 => exact (Uh HR).own.alloc _
    case c31q10 => unfold maxLen; omega
    case c41q10 => omega
    case c51q10 => have:=(Uh HR).bel.size; simp; omega
    intro g1 cc w2 hown hgrow hat hlt2
    have HN:=Hj (Uh HS w2 _ _ hown hgrow)
    clear hown hgrow hat hlt2 HS HR
    go_wp2
    exact ⟨⟨k + 1,_,_,by have:=Uh HKK; omega,by go_num,rfl,Uh HN⟩,by have:=Uh HKK; simp [intOf]; omega⟩
  ·by_cases hB:k < n2
   ·have tA:¬ (k:Int) < (n1:Int):=by omega
    have tB:(k:Int) < (n2:Int):=by omega
    have tAB:(k:Int) < (n1:Int) ∨ (k:Int) < (n2:Int):=by omega
    have tABC:((k:Int) < (n1:Int) ∨ (k:Int) < (n2:Int)) ∨ (0:Int) < (c:Int):=by omega
    have zx:xs.getD k 0 = 0:=getD_ge (by rw [Uh hl1]; omega)
    obtain ⟨bky,ofy,ey,hcy⟩:=(Uh Hy).cells.resolve_left (by intro e; have:=Uh hl2; rw [e] at this; simp at this; omega)
    have gy:=((Uh Hy).below hR.bel).cells.resolve_left (by intro e; have:=Uh hl2; rw [e] at this; simp at this; omega)
    rw [ey] at gy
    obtain ⟨bky',ofy',ey',gy⟩:=gy
    cases ey'
    have gy:=gy k (by rw [Uh hl2]; omega)
    have bx:=ox.getD k
    have bY:=oy.getD k
    have HS:=Hj (fun w1 v' o hown hg => (show PlusR w1 w (valF (fun i => xs.getD i 0) (k + 1)) (valF (fun i => ys.getD i 0) (k + 1)) v' (k + 1) _ _ from PlusR.step (o:=o) hR (xs.getD k 0) (ys.getD k 0) bx bY hown hg))
    have hc1:=hR.cle
    have HR:=Hj hR
    have e1:((c:Int) + (ys.getD k 0:Nat)) % 4294967296 = ((adl (xs.getD k 0) (ys.getD k 0) c:Nat):Int):=by unfold adl; omega
    have e2:((c:Int) + (ys.getD k 0:Nat)) / 4294967296 = ((adc (xs.getD k 0) (ys.getD k 0) c:Nat):Int):=by unfold adc; omega
    have eN:adc 0 0 c = 0:=by unfold adc; omega
    clear zx
    subst ey
    have HKK:=Hj hk
    clear hR eN HL1 HL2 hk hA hB
    generalize xs.getD k 0 = x at *
    generalize ys.getD k 0 = y at *
    go_wp2_with (at_builtin; refine wpList_append_lies _ rfl _ _ 22 rfl w.heap.size 84 i80 (.int .u32 0) 1 4 Tryz.underlying22 (Uh I80).1 (Uh I80).2.1 (Uh I80).2.2.1 (Uh I80).2.2.2 rfl (by decide) _ k (vals zs) rfl ?own1q01 ⟨wr.heap.size,0,none⟩ 1 1 [.int .u32 (adl x y c:Nat)] rfl rfl (World.news_of_block (alloc_block _ _)) one_int (by decide) ?c31q01 ?c41q01 ?c51q01 (wr.heap.size + 1) (by simp) ?_)
    case own1q01 => exact (Uh HR).own.alloc _
    case c31q01 => unfold maxLen; omega
    case c41q01 => omega
    case c51q01 => have:=(Uh HR).bel.size; simp; omega
    intro g1 cc w2 hown hgrow hat hlt2
    have HN:=Hj (Uh HS w2 _ _ hown hgrow)
    clear hown hgrow hat hlt2 HS HR
    go_wp2
    exact ⟨⟨k + 1,_,_,by have:=Uh HKK; omega,by go_num,rfl,Uh HN⟩,by have:=Uh HKK; simp [intOf]; omega⟩
   ·by_cases hC:0 < c
    ·have tA:¬ (k:Int) < (n1:Int):=by omega
     have tB:¬ (k:Int) < (n2:Int):=by omega
     have tAB:¬ ((k:Int) < (n1:Int) ∨ (k:Int) < (n2:Int)):=by omega
     have tABC:((k:Int) < (n1:Int) ∨ (k:Int) < (n2:Int)) ∨ (0:Int) < (c:Int):=by omega
     have zx:xs.getD k 0 = 0:=getD_ge (by rw [Uh hl1]; omega)
     have zy:ys.getD k 0 = 0:=getD_ge (by rw [Uh hl2]; omega)
     have bx:=ox.getD k
     have bY:=oy.getD k
     have HS:=Hj (fun w1 v' o hown hg => (show PlusR w1 w (valF (fun i => xs.getD i 0) (k + 1)) (valF (fun i => ys.getD i 0) (k + 1)) v' (k + 1) _ _ from PlusR.step (o:=o) hR (xs.getD k 0) (ys.getD k 0) bx bY hown hg))
     have hc1:=hR.cle
     have HR:=Hj hR
     have e1:(c:Int) % 4294967296 = ((adl (xs.getD k 0) (ys.getD k 0) c:Nat):Int):=by unfold adl; omega
     have e2:(c:Int) / 4294967296 = ((adc (xs.getD k 0) (ys.getD k 0) c:Nat):Int):=by unfold adc; omega
     have eN:adc 0 0 c = 0:=by unfold adc; omega
     have hc2:(0:Int) < (c:Int):=by omega
     have hkb:k ≤ n1 ∨ k ≤ n2:=by omega
     have hkb2:k ≤ 1000000000:=by omega
     have hc3:(c:Int) / 4294967296 = 0:=by omega
     have eZ:adc (xs.getD k 0) (ys.getD k 0) c = 0:=by rw [zx,zy]; exact eN
     have EZ:=Hj eZ
     have eA:adl (xs.getD k 0) (ys.getD k 0) c = c:=by rw [zx,zy]; unfold adl; omega
     have EA:=Hj eA
     clear eZ eA e1 e2
     clear zx
     clear zy
     have HKK:=Hj hk
     clear hR eN HL1 HL2 hk hA hB hC
     generalize xs.getD k 0 = x at *
     generalize ys.getD k 0 = y at *
     go_wp2_with (at_builtin; refine wpList_append_lies _ rfl _ _ 22 rfl w.heap.size 84 i80 (.int .u32 0) 1 4 Tryz.underlying22 (Uh I80).1 (Uh I80).2.1 (Uh I80).2.2.1 (Uh I80).2.2.2 rfl (by decide) _ k (vals zs) rfl ?own1q00 ⟨wr.heap.size,0,none⟩ 1 1 [.int .u32 (c:Nat)] rfl rfl (World.news_of_block (alloc_block _ _)) one_int (by decide) ?c31q00 ?c41q00 ?c51q00 (wr.heap.size + 1) (by simp) ?_)
     case own1q00 => exact (Uh HR).own.alloc _
     case c31q00 => unfold maxLen; omega
     case c41q00 => omega
     case c51q00 => have:=(Uh HR).bel.size; simp; omega
     intro g1 cc w2 hown hgrow hat hlt2
     rw [← Uh EA] at hown
     have HN:=Hj (Uh HS w2 _ _ hown hgrow)
     clear hown hgrow hat hlt2 HS HR
     go_wp2
     have hN:=Uh HN
     rw [Uh EZ] at hN
     exact ⟨⟨k + 1,0,_,.inr (.inr rfl),by go_num,by first | rfl | (congr 1; omega),hN⟩,by have:=Uh HKK; simp [intOf]; omega⟩
    ·have tA:¬ (k:Int) < (n1:Int):=by omega
     have tB:¬ (k:Int) < (n2:Int):=by omega
     have tAB:¬ ((k:Int) < (n1:Int) ∨ (k:Int) < (n2:Int)):=by omega
     have hc0:c = 0:=by omega
     subst hc0
     have e1:valF (fun i => xs.getD i 0) k = val xs:=valF_ge xs k (by rw [Uh hl1]; omega)
     have e2:valF (fun i => ys.getD i 0) k = val ys:=valF_ge ys k (by rw [Uh hl2]; omega)
     rw [e1,e2] at hR
     have hv:=hR.val
     rw [Nat.mul_zero,Nat.add_zero] at hv
     obtain ⟨a',c',e,_,_⟩:=own_sl hR.own
     subst e
     have K:=wnorm_any a' k c' w.heap.size zs wr hR.own hR.ok
     rw [hv] at K
     have HK:=Hj K
     have HB:=Hj hR.bel
     clear K hR hv e1 e2
     go_wp2_with fail
     refine (Uh HK).mono ?_
     rintro e w' ⟨m,rfl,hm,hO,hw⟩
     obtain rfl:=hw.symm
     have HO:=Hj hO
     clear hO hw HK
     go_wp2_with fail
     go_ret
     exact ⟨_,_,_,rfl,(Uh HO).sl,(Uh HO).new,(Uh HO).nilc,Uh HB⟩
theorem wnorm_sl (a:Option Addr) (n c:Nat) (xs:List Nat) (w:World) (h:Sl w a n c xs) (hnil:a = none → c = 0) (ok:Ok xs) :
  Calls Tryz.prog 155 #[.slice a n c] w fun e w' => ∃ m,e = .returned (.slice a m c) ∧ m ≤ n ∧ Sl w a m c (limbs (val xs)) ∧ w' = w:=by
 cases a with
 | none =>
  have hc:=hnil rfl
  have hl:=h.le
  have hn:n = 0:=by omega
  subst hn hc
  have hx:xs = []:=List.eq_nil_of_length_eq_zero h.len
  subst hx
  refine (wnorm_nil w).mono ?_
  rintro e w' ⟨rfl,rfl⟩
  exact ⟨0,rfl,Nat.le_refl _,sl_nil _,rfl⟩
 | some x =>
  by_cases hx:xs = []
  ·subst hx
   have hn:n = 0:=by rw [← h.len]; rfl
   subst hn
   obtain ⟨b,off,spot⟩:=x
   cases spot with
   | none =>
    refine (wnorm_some b off 0 c [] w rfl h.le h.cap (fun i hi => by simp at hi)).mono ?_
    rintro e w' ⟨m,ht,rfl,rfl⟩
    have hm:m = 0:=by have:=ht.le; simpa using this
    subst hm
    exact ⟨0,rfl,Nat.le_refl _,⟨rfl,h.le,h.cap,.inl rfl⟩,rfl⟩
   | some p =>
    have hle:=h.le
    have hcm:=h.cap
    unfold maxLen at hcm
    go_enter Tryz.func155,Tryz.ntmps155
    go_wp2
    go_loop [3] (fun i => i = .int .i64 0) (fun i => (intOf i).toNat)
    case atStart => rfl
    case round =>
     subst hrel
     go_wp2
     go_ret
     exact ⟨0,rfl,by omega,⟨rfl,h.le,h.cap,.inl rfl⟩,rfl⟩
  ·obtain ⟨b,off,e,hc⟩:=h.cells.resolve_left hx
   cases e
   refine (wnorm_some b off n c xs w h.len h.le h.cap hc).mono ?_
   rintro e w' ⟨m,ht,rfl,rfl⟩
   have hm:m ≤ n:=by have:=ht.le; rw [h.len] at this; exact this
   refine ⟨m,rfl,hm,?_,rfl⟩
   rw [← ht.limbs ok]
   refine ⟨by simp [h.len]; omega,Nat.le_trans hm h.le,h.cap,.inr ⟨b,off,rfl,?_⟩⟩
   intro i hi
   have hi2:i < m:=by simp at hi; omega
   rw [hc i (by rw [h.len]; omega)]
   simp [List.getD,hi2]

structure TakR (wr w:World) (B g n cp:Nat) (xs:List Nat) (s t:Nat) (k c:Nat) (zs:List Nat):Prop where
 len:zs.length = k
 ok:Ok zs
 cle:c ≤ 1
 own:Ow wr B (some ⟨g,0,none⟩) n cp (zs ++ xs.drop k)
 val:val zs + t = s + 4294967296 ^ k * c
 chg:Chg (fun j => AtB (some ⟨g,0,none⟩) j) w wr

theorem set_mid {zs xs:List Nat} {k n:Nat} (hz:zs.length = k) (hx:xs.length = n) (hk:k < n) (v:Nat):(zs ++ xs.drop k).set k v = (zs ++ [v]) ++ xs.drop (k + 1):=by
 rw [drop_cons (by omega),List.set_append_right k v (by omega),hz,Nat.sub_self]
 simp
theorem get_mid {zs xs:List Nat} {k n:Nat} (hz:zs.length = k) (hx:xs.length = n) (hk:k < n):(zs ++ xs.drop k).getD k 0 = xs.getD k 0:=by
 rw [drop_cons (by omega)]
 simp [List.getD,hz]

theorem TakR.step {wr w:World} {B g n cp:Nat} {xs:List Nat} {s t k c:Nat} {zs:List Nat} (h:TakR wr w B g n cp xs s t k c zs) (hl:xs.length = n) (hk:k < n) (x y:Nat) (hx:x < 4294967296) (hy:y < 4294967296) :
  TakR (wr.setCell ⟨g,k,none⟩ (.int .u32 (lim x y c:Nat))) w B g n cp xs (s + 4294967296 ^ k * x) (t + 4294967296 ^ k * y) (k + 1) (bor x (y + c)) (zs ++ [lim x y c]):=by
 refine ⟨by simp [h.len],?_,bor_le _ _,?_,?_,h.chg.trans (.of_set _ _ _ _ atB_some)⟩
 ·intro z hz
  rcases List.mem_append.1 hz with hz | hz
  ·exact h.ok z hz
  ·simp at hz; subst hz; exact lim_lt _ _ _
 ·have:=h.own.set k (lim x y c)
  rw [set_mid h.len hl hk] at this
  exact this
 ·rw [val_append,h.len]
  simp only [Go.Proofs.YtmnlhnmlgncedaaGreatDoor.val,Nat.mul_zero,Nat.add_zero]
  rw [Nat.pow_succ]
  exact minus_arith h.val (lim_eq x y c hx hy h.cle)

theorem TakR.fin {wr w:World} {B g n cp:Nat} {xs ys:List Nat} {k c:Nat} {zs:List Nat} (h:TakR wr w B g n cp xs (valF (fun i => xs.getD i 0) k) (valF (fun i => ys.getD i 0) k) k c zs) (hl:xs.length = n) (hk:k = n) (h2:ys.length ≤ n) (hle:Go.Proofs.YtmnlhnmlgncedaaGreatDoor.val ys ≤ Go.Proofs.YtmnlhnmlgncedaaGreatDoor.val xs) :
  Ow wr B (some ⟨g,0,none⟩) n cp zs ∧ Go.Proofs.YtmnlhnmlgncedaaGreatDoor.val zs = Go.Proofs.YtmnlhnmlgncedaaGreatDoor.val xs - Go.Proofs.YtmnlhnmlgncedaaGreatDoor.val ys:=by
 subst hk
 have ho:=h.own
 rw [List.drop_eq_nil_of_le (by omega),List.append_nil] at ho
 refine ⟨ho,?_⟩
 have hv:=h.val
 rw [valF_ge ys k h2,valF_ge xs k (by omega)] at hv
 have hb:=val_lt h.ok
 rw [h.len] at hb
 have hc:=h.cle
 have hc0:c = 0:=by
  rcases Nat.lt_or_ge c 1 with h0 | h0
  ·omega
  ·have:c = 1:=by omega
   subst this
   rw [Nat.mul_one] at hv
   omega
 subst hc0
 rw [Nat.mul_zero] at hv
 omega

set_option maxRecDepth 100000 in
set_option maxHeartbeats 4000000 in
theorem wtake_some (g B n cp:Nat) (a2:Option Addr) (n2 c2:Nat) (xs ys:List Nat) (w:World) (h1:Ow w B (some ⟨g,0,none⟩) n cp xs) (h2:Sl w a2 n2 c2 ys) (ox:Ok xs) (oy:Ok ys) (hb1:n ≤ 1000000000) (hb2:n2 ≤ n) (hge:val ys ≤ val xs) (hne:∀ x,a2 = some x → ys ≠ [] → x.block ≠ g) :
  Calls Tryz.prog 191 #[.slice (some ⟨g,0,none⟩) n cp,.slice a2 n2 c2] w fun e w' => ∃ m,e = .returned (.slice (some ⟨g,0,none⟩) m cp) ∧ m ≤ n ∧ Ow w' B (some ⟨g,0,none⟩) m cp (limbs (val xs - val ys)) ∧ Chg (fun j => AtB (some ⟨g,0,none⟩) j) w w':=by
 have hl1:=Hj h1.len
 have hl2:=Hj h2.len
 have HY:=Hj h2
 have HNE:=Hj hne
 have HGE:=Hj hge
 have H0:=Hj (show TakR w w B g n cp xs (valF (fun i => xs.getD i 0) 0) (valF (fun i => ys.getD i 0) 0) 0 0 [] from ⟨rfl,Ok.nil,Nat.zero_le _,by simpa using h1,by simp [valF,val],Chg.refl _ _⟩)
 clear h1 h2 hne hge
 go_enter Tryz.func191,Tryz.ntmps191
 go_wp2
 go_loopw [5,6] (fun cv i wr => ∃ k c:Nat,∃ zs:List Nat,k ≤ n ∧ i = .int .i64 k ∧ cv = .int .i64 (-(c:Int)) ∧ TakR wr w B g n cp xs (valF (fun i => xs.getD i 0) k) (valF (fun i => ys.getD i 0) k) k c zs) (fun _ i _ => n - (intOf i).toNat)
 case atStart => exact ⟨0,0,[],Nat.zero_le _,rfl,rfl,Uh H0⟩
 case round =>
  clear H0
  obtain ⟨k,c,zs,hk,rfl,rfl,hR⟩:=hrel
  by_cases hlt:k < n
  ·have tA:(k:Int) < (n:Int):=by omega
   have bx:=ox.getD k
   have bY:=oy.getD k
   have hc1:=hR.cle
   have g1:=hR.own.cell (i:=k) hlt
   rw [get_mid hR.len (Uh hl1) hlt] at g1
   have g2:=hR.own.froz (i:=k)
   have HS:=Hj (show TakR _ w B g n cp xs (valF (fun i => xs.getD i 0) (k + 1)) (valF (fun i => ys.getD i 0) (k + 1)) (k + 1) _ _ from hR.step (Uh hl1) hlt (xs.getD k 0) (ys.getD k 0) bx bY)
   by_cases hB:k < n2
   ·have tB:(k:Int) < (n2:Int):=by omega
    have hne:ys ≠ []:=by intro e; have:=Uh hl2; rw [e] at this; simp at this; omega
    obtain ⟨b2,o2,e2,hc⟩:=(Uh HY).cells.resolve_left hne
    have hb2g:=Uh HNE _ e2 hne
    subst e2
    have g3:=(hc.chg hR.chg (fun h => hb2g (atB_is h))) k (by rw [Uh hl2]; exact hB)
    have e1:(-(c:Int) + (xs.getD k 0:Nat) - (ys.getD k 0:Nat)) % 4294967296 = ((lim (xs.getD k 0) (ys.getD k 0) c:Nat):Int):=by unfold lim; omega
    have e2:(-(c:Int) + (xs.getD k 0:Nat) - (ys.getD k 0:Nat)) / 4294967296 = -((bor (xs.getD k 0) (ys.getD k 0 + c):Nat):Int):=by unfold bor; split <;> omega
    clear hR hne hc hb2g HY HNE
    generalize xs.getD k 0 = x at *
    generalize ys.getD k 0 = y at *
    go_wp2
    exact ⟨⟨k + 1,_,_,by omega,by go_num,rfl,Uh HS⟩,by simp [intOf]; omega⟩
   ·have tB:¬ (k:Int) < (n2:Int):=by omega
    have zy:ys.getD k 0 = 0:=getD_ge (by rw [Uh hl2]; omega)
    have e1:(-(c:Int) + (xs.getD k 0:Nat)) % 4294967296 = ((lim (xs.getD k 0) (ys.getD k 0) c:Nat):Int):=by unfold lim; omega
    have e2:(-(c:Int) + (xs.getD k 0:Nat)) / 4294967296 = -((bor (xs.getD k 0) (ys.getD k 0 + c):Nat):Int):=by unfold bor; split <;> omega
    clear hR zy HY HNE
    generalize xs.getD k 0 = x at *
    generalize ys.getD k 0 = y at *
    go_wp2
    exact ⟨⟨k + 1,_,_,by omega,by go_num,rfl,Uh HS⟩,by simp [intOf]; omega⟩
  ·have tA:¬ (k:Int) < (n:Int):=by omega
   obtain ⟨hO,hv⟩:=hR.fin (Uh hl1) (by omega) (by rw [Uh hl2]; exact hb2) (Uh HGE)
   have K:=wnorm_any (some ⟨g,0,none⟩) n cp B zs wr hO hR.ok
   rw [hv] at K
   have HK:=Hj K
   have HC:=Hj hR.chg
   clear K hR hO hv
   go_wp2_with fail
   refine (Uh HK).mono ?_
   rintro e w' ⟨m,rfl,hm,hO,hw⟩
   obtain rfl:=hw.symm
   have HO:=Hj hO
   clear hO hw HK
   go_wp2_with fail
   go_ret
   exact ⟨m,rfl,hm,Uh HO,Uh HC⟩

set_option maxHeartbeats 400000 in
theorem wtake_nil (w:World) (a2:Option Addr) (n2 c2:Nat):Calls Tryz.prog 191 #[.slice none 0 0,.slice a2 n2 c2] w fun e w' => e = .returned (.slice none 0 0) ∧ w' = w:=by
 have HK:=Hj (wnorm_nil w)
 go_enter Tryz.func191,Tryz.ntmps191
 go_wp2
 go_loop [5,6] (fun c i => c = .int .i64 0 ∧ i = .int .i64 0) (fun _ i => (intOf i).toNat)
 case atStart => exact ⟨rfl,rfl⟩
 case round =>
  obtain ⟨rfl,rfl⟩:=hrel
  go_wp2_with fail
  refine (Uh HK).mono ?_
  rintro e w' ⟨rfl,hw⟩
  obtain rfl:=hw.symm
  go_wp2_with fail
  go_ret
  exact ⟨rfl,rfl⟩

theorem wtake_any (a:Option Addr) (B n cp:Nat) (a2:Option Addr) (n2 c2:Nat) (xs ys:List Nat) (w:World) (h1:Ow w B a n cp xs) (h2:Sl w a2 n2 c2 ys) (ox:Ok xs) (oy:Ok ys) (hb1:n ≤ 1000000000) (hb2:n2 ≤ n) (hge:val ys ≤ val xs) (hne:∀ x,a2 = some x → ys ≠ [] → ¬ AtB a x.block) :
  Calls Tryz.prog 191 #[.slice a n cp,.slice a2 n2 c2] w fun e w' => ∃ m,e = .returned (.slice a m cp) ∧ m ≤ n ∧ Ow w' B a m cp (limbs (val xs - val ys)) ∧ Chg (fun j => AtB a j) w w':=by
 rcases h1.shape with ⟨rfl,rfl,rfl⟩ | ⟨g,rfl⟩
 ·have hx:xs = []:=List.eq_nil_of_length_eq_zero h1.len
  subst hx
  refine (wtake_nil w a2 n2 c2).mono ?_
  rintro e w' ⟨rfl,rfl⟩
  refine ⟨0,rfl,Nat.le_refl _,?_,Chg.refl _ _⟩
  have:val [] - val ys = 0:=by simp [val]
  rw [this]
  exact Ow.nil _ _
 ·exact wtake_some g B n cp a2 n2 c2 xs ys w h1 h2 ox oy hb1 hb2 hge (fun x hx hy h => hne x hx hy (by rw [h]; exact atB_some))
end Go.Proofs.YtmnlhnmlgncedaaGreatDoor
