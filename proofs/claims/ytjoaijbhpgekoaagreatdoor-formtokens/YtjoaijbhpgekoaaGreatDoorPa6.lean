/- Pa6 -/
import Derived.Test.YtjoaijbhpgekoaaGreatDoorPa2
namespace Go.Proofs.YtjoaijbhpgekoaaGreatDoor
open Go.RowKit Go.Deep
set_option linter.unusedVariables false
def dig (s:ByteArray) (i:Nat):Nat:=digitN (s.get! i).toNat

theorem dig_of {s:ByteArray} {i:Nat} (h:i < s.size):digitN (s[i]'h).toNat = dig s i:=by
 unfold dig
 have e:s.get! i = s[i]'h:=by
  cases s with
  | mk d =>
   have h':i < d.size:=h
   show d[i]! = d[i]
   simp [h']
 rw [e]
theorem dig_le (s:ByteArray) (i:Nat):dig s i ≤ 36:=digitN_le _

structure AtDigit (s:ByteArray) (b i:Nat):Prop where
 le:i ≤ s.size
 all:∀ j,j < i → dig s j < b
 stop:i = s.size ∨ b ≤ dig s i

def AdPost (s:ByteArray) (b:Nat) (w:World) (e:Ending) (w':World):Prop :=
 ∃ i,AtDigit s b i ∧ w' = w ∧ ((i < s.size ∧ e = .returned (.tuple #[.int .i64 (i:Nat),.bool false])) ∨ (i = s.size ∧ e = .returned (.tuple #[.int .i64 0,.bool (decide (0 < s.size))])))

set_option maxHeartbeats 4000000 in
theorem allDigits_any (s:ByteArray) (b:Nat) (hs:s.size ≤ 1000000000000) (hb2:b ≤ 36) (w:World) :
  Calls Tryz.prog 79 #[.string s,.int .i64 (b:Nat)] w fun e w' => AdPost s b w e w':=by
 have HS:=hs
 go_enter Tryz.func79,Tryz.ntmps79
 go_wp2_with fail
 generalize hn:s.size = n at *
 go_loop [9] (fun iv => ∃ i:Nat,i ≤ n ∧ iv = .int .i64 (i:Nat) ∧ Hid (∀ j,j < i → dig s j < b)) (fun iv => n - (intOf iv).toNat)
 case atStart => exact ⟨0,Nat.zero_le _,rfl,fun j hj => by omega⟩
 case round =>
  obtain ⟨i,hi,rfl,HA⟩:=hrel
  by_cases hlt:i < n
  ·have hlt':(i:Int) < (n:Int):=by omega
   go_wp2_with fail
   refine (ndigit_any _ (by have:=(s[i]'(by omega)).toNat_lt; omega) _).mono ?_
   rintro e w' ⟨rfl,hw⟩
   obtain rfl:=hw.symm
   clear hw
   rw [dig_of (by omega)]
   by_cases hd:dig s i < b
   ·have HA2:=Hj (show ∀ j,j < i + 1 → dig s j < b from fun j hj => by
     by_cases e:j = i
     ·rw [e]; exact hd
     ·exact Uh HA j (by omega))
    have hd':¬ (b:Int) ≤ (dig s i:Int):=by omega
    generalize dig s i = D at hd hd' ⊢
    clear HA
    go_wp2_with fail
    exact ⟨⟨i + 1,by omega,by go_num,Uh HA2⟩,by simp [intOf]; omega⟩
   ·have hd':(b:Int) ≤ (dig s i:Int):=by omega
    have HD:=Hj hd
    generalize hg:dig s i = D at hd hd' ⊢
    clear hg
    go_wp2_with fail
    go_ret2
    exact ⟨i,⟨by omega,Uh HA,.inr (by have:=Uh HD; omega)⟩,rfl,.inl ⟨by omega,rfl⟩⟩
  ·have hin:i = n:=by omega
   subst hin
   have hlt':¬ (i:Int) < (i:Int):=by omega
   by_cases h0:0 < i
   ·have h0':(0:Int) < (i:Int):=by omega
    go_wp2_with fail
    go_ret2
    exact ⟨i,⟨by omega,Uh HA,.inl hn.symm⟩,rfl,.inr ⟨hn.symm,by rw [hn]; simp [h0]⟩⟩
   ·have h0':i = 0:=by omega
    subst h0'
    go_wp2_with fail
    go_ret2
    exact ⟨0,⟨by omega,Uh HA,.inl hn.symm⟩,rfl,.inr ⟨hn.symm,by rw [hn]; simp⟩⟩
open Go.RowKit Go.Deep
set_option linter.unusedVariables false

structure ApR (wr w:World) (base g cap n:Nat) (f:Nat → Nat):Prop where
 blk:∃ cur,wr.heap[g]? = some (.cells cur 94) ∧ cur.size = cap ∧ ∀ i,i < n → cur[i]? = some (.int .u32 (f i:Nat))
 bel:Below base w wr
 ge:base ≤ g
 nc:n ≤ cap
 cm:cap ≤ maxLen

theorem ApR.own {wr w:World} {base g cap n:Nat} {f:Nat → Nat} (h:ApR wr w base g cap n f):wr.ownsRow base 94 1 (.slice (some ⟨g,0,none⟩) n cap) n (vals (lst f n)):=by
 obtain ⟨cur,h1,h2,h3⟩:=h.blk
 refine ⟨by simp [vals,lst_len],.inr ⟨g,cap,cur,rfl,h.ge,h1,h.nc,h.cm,by rw [h2,Nat.mul_one],?_⟩⟩
 refine List.ext_getElem? fun i => ?_
 rw [Nat.mul_one]
 by_cases hi:i < n
 ·rw [vals_get (by rw [lst_len]; exact hi),lst_getD _ _ _ hi]
  simp only [List.getElem?_take,hi,if_true,Array.getElem?_toList]
  exact h3 i hi
 ·rw [List.getElem?_eq_none (by simp; omega),List.getElem?_eq_none (by simp [vals,lst_len]; omega)]
theorem ApR.set {wr w:World} {base g cap n:Nat} {f:Nat → Nat} (h:ApR wr w base g cap n f) (k v:Nat) (hk:k < n):ApR (wr.setCell ⟨g,k,none⟩ (.int .u32 (v:Nat))) w base g cap n (fun i => if i = k then v else f i):=by
 obtain ⟨cur,h1,h2,h3⟩:=h.blk
 refine ⟨⟨_,set_block h1 k _,by simp [h2],fun i hi => ?_⟩,h.bel.setCell (p:=⟨g,k,none⟩) h.ge _,h.ge,h.nc,h.cm⟩
 have:=h.nc
 by_cases e:i = k
 ·subst e; simp [show i < cur.size from by omega]
 ·rw [Array.getElem?_setIfInBounds_ne (by omega),h3 i hi,if_neg e]
theorem ApR.cell {wr w:World} {base g cap n:Nat} {f:Nat → Nat} (h:ApR wr w base g cap n f) {k:Nat} (hk:k < n):wr.cell? ⟨g,k,none⟩ = some (.int .u32 (f k:Nat)) ∧ wr.frozen? ⟨g,k,none⟩ = false:=by
 obtain ⟨cur,h1,h2,h3⟩:=h.blk
 exact ⟨by rw [cell_of_block h1]; exact h3 k hk,frozen_of_block h1 k⟩
theorem ApR.of {w:World} {base g cap n:Nat} {xs:List Nat} (h:w.ownsRow base 94 1 (.slice (some ⟨g,0,none⟩) n cap) n (vals xs)):xs.length = n ∧ ApR w w base g cap n (fun i => xs.getD i 0):=by
 have h0:=h.1
 simp [vals] at h0
 rcases h.2 with ⟨e,_⟩ | ⟨g',cap',cur,e,h2,h3,h4,h5,h6,h7⟩
 ·cases e
 ·cases e
  rw [Nat.mul_one] at h6 h7
  exact ⟨h0,⟨cur,h3,h6,fun i hi => take_vals h0 h7 i (by omega)⟩,Below.refl _ _,h2,h4,h5⟩

theorem ap_step {F F' P c x wt d t B:Nat} (h:F + P * c = F' * wt + d) (ht:t = c + x * wt) (hB:0 < B):F + P * (t % B) + P * B * (t / B) = (F' + P * x) * wt + d:=by
 have e:P * (t % B) + P * B * (t / B) = P * t:=by
  rw [Nat.mul_assoc,← Nat.mul_add,Nat.mod_add_div]
 rw [Nat.add_assoc,e,ht,Nat.mul_add,← Nat.add_assoc,h,Nat.add_mul,Nat.mul_assoc]
 omega

structure ApI (wr w:World) (base g cap n:Nat) (xs:List Nat) (wt d i c:Nat) (f:Nat → Nat):Prop where
 row:ApR wr w base g cap n f
 ok:∀ j,j < n → f j < 4294967296
 old:∀ j,i ≤ j → f j = xs.getD j 0
 eqn:valF f i + 4294967296 ^ i * c = valF (fun j => xs.getD j 0) i * wt + d
 lt:c < 4294967296

def ApPost (base:Nat) (w:World) (xs:List Nat) (wt d:Nat) (e:Ending) (w':World):Prop :=
 ∃ v n ys,e = .returned v ∧ w'.ownsRow base 94 1 v n (vals ys) ∧ Ok ys ∧ (Norm xs → 0 < wt → Norm ys) ∧ val ys = val xs * wt + d ∧ n ≤ xs.length + 1 ∧ Below base w w'

theorem ApI.step {wr w:World} {base g cap n:Nat} {xs:List Nat} {wt d i c t:Nat} {f:Nat → Nat} (h:ApI wr w base g cap n xs wt d i c f) (hi:i < n) (ht:t = c + xs.getD i 0 * wt) (hw:wt < 4294967296) (ok:Ok xs) :
  ApI (wr.setCell ⟨g,i,none⟩ (.int .u32 (t % 4294967296:Nat))) w base g cap n xs wt d (i + 1) (t / 4294967296) (fun j => if j = i then t % 4294967296 else f j):=by
 have hb:=ok.getD i
 have hx:xs.getD i 0 * wt ≤ 4294967295 * 4294967295:=Nat.mul_le_mul (by omega) (by omega)
 have hl:=h.lt
 refine ⟨h.row.set i _ hi,?_,?_,?_,?_⟩
 ·intro j hj
  by_cases e:j = i
  ·simp only [e,if_true]; exact Nat.mod_lt _ (by decide)
  ·simp only [e,if_false]; exact h.ok j hj
 ·intro j hj
  rw [if_neg (by omega)]
  exact h.old j (by omega)
 ·simp only [valF,if_true]
  rw [valF_congr (g:=f) (fun j hj => by rw [if_neg (by omega)]),Nat.pow_succ]
  exact ap_step h.eqn ht (by decide)
 ·exact (Nat.div_lt_iff_lt_mul (by decide)).2 (by omega)

theorem norm_of_ge {ys:List Nat} (ok:Ok ys) (h:ys = [] ∨ 4294967296 ^ (ys.length - 1) ≤ val ys):Norm ys:=by
 rcases h with h | h
 ·exact .inl h
 ·by_cases hy:ys = []
  ·exact .inl hy
  ·right
   intro h0
   have hp:0 < ys.length:=List.length_pos_iff.2 hy
   have e:=val_split ys (ys.length - 1) (by omega)
   rw [drop_cons (by omega),h0] at e
   have h2:(ys.drop (ys.length - 1 + 1)) = []:=List.drop_eq_nil_of_le (by omega)
   rw [h2] at e
   simp [val] at e
   have h3:=val_lt (xs:=ys.take (ys.length - 1)) (fun x hx => ok x (List.mem_of_mem_take hx))
   rw [List.length_take,Nat.min_eq_left (by omega)] at h3
   omega

theorem ApI.ends {wr w:World} {base g cap n:Nat} {xs:List Nat} {wt d c:Nat} {f:Nat → Nat} (h:ApI wr w base g cap n xs wt d n c f) (hl:xs.length = n):val (lst f n) + 4294967296 ^ n * c = val xs * wt + d:=by
 have:=h.eqn
 rw [← lst_val,← hl,valF_list,hl] at this
 exact this

theorem ApI.done {wr w:World} {base g cap n:Nat} {xs:List Nat} {wt d:Nat} {f:Nat → Nat} (h:ApI wr w base g cap n xs wt d n 0 f) (hl:xs.length = n):ApPost base w xs wt d (.returned (.slice (some ⟨g,0,none⟩) n cap)) wr:=by
 have hv:=h.ends hl
 rw [Nat.mul_zero,Nat.add_zero] at hv
 have ok:=lst_ok h.ok
 refine ⟨_,n,lst f n,rfl,h.row.own,ok,fun hN hw => norm_of_ge ok ?_,hv,by omega,h.row.bel⟩
 by_cases h0:n = 0
 ·left
  subst h0
  rfl
 ·right
  rw [hv,lst_len]
  have h1:=val_ge_of_norm hN (by intro e; rw [e] at hl; simp at hl; omega)
  rw [hl] at h1
  have h2:val xs * 1 ≤ val xs * wt:=Nat.mul_le_mul_left _ hw
  omega

theorem app_done {w1 w2 w:World} {base n wt d c:Nat} {v:Value} {xs ys:List Nat} (hv:val ys + 4294967296 ^ n * c = val xs * wt + d) (hy:ys.length = n) (hl:xs.length = n) (ok:Ok ys) (hc:c < 4294967296) (hc0:0 < c)
  (hown:w2.ownsRow base 94 1 v (n + 1) (vals ys ++ [.int .u32 (c:Nat)])) (hb:Below base w w2):ApPost base w xs wt d (.returned v) w2:=by
 refine ⟨v,n + 1,ys ++ [c],rfl,by simpa [vals] using hown,?_,fun _ _ => ?_,?_,by omega,hb⟩
 ·intro x hx
  simp at hx
  rcases hx with hx | rfl
  ·exact ok x hx
  ·exact hc
 ·right
  simp [List.getD]
  omega
 ·rw [val_append,hy]
  simp only [val,Nat.mul_zero,Nat.add_zero]
  exact hv

set_option maxHeartbeats 4000000 in
theorem appendLimb_some (base g n cap:Nat) (xs:List Nat) (wt d:Nat) (w:World) (ho:w.ownsRow base 94 1 (.slice (some ⟨g,0,none⟩) n cap) n (vals xs)) (hbase:base ≤ w.heap.size) (ok:Ok xs) (hn:n ≤ 4096) (hw:wt < 4294967296) (hd:d < 4294967296) :
  Calls Tryz.prog 96 #[.slice (some ⟨g,0,none⟩) n cap,.int .u32 (wt:Nat),.int .u32 (d:Nat)] w fun e w' => ApPost base w xs wt d e w':=by
 obtain ⟨hl,hA⟩:=ApR.of ho
 have HI0:=Hj (show ApI w w base g cap n xs wt d 0 d (fun i => xs.getD i 0) from ⟨hA,fun j _ => ok.getD j,fun _ _ => rfl,by simp [valF],hd⟩)
 have hnc:=hA.nc
 obtain ⟨i32,hi32,hz32,hs32,hb32⟩:=info_parts Tryz.info_u32
 have I32:=Hj (And.intro hi32 (And.intro hz32 (And.intro hs32 hb32)))
 have HL:=Hj hl
 clear hi32 hz32 hs32 hb32 hA ho hl
 go_enter Tryz.func96,Tryz.ntmps96
 go_wp2_with fail
 go_loopw [7,13] (fun cv iv wr => ∃ (i c:Nat) (f:Nat → Nat),i ≤ n ∧ iv = .int .i64 (i:Nat) ∧ cv = .int .u64 (c:Nat) ∧ ApI wr w base g cap n xs wt d i c f) (fun _ iv _ => n - (intOf iv).toNat)
 case atStart => exact ⟨0,d,_,Nat.zero_le _,rfl,rfl,Uh HI0⟩
 case round =>
  clear HI0
  obtain ⟨i,c,f,hi,rfl,rfl,hR⟩:=hrel
  by_cases hlt:i < n
  ·have hlt':(i:Int) < (n:Int):=by omega
   have c1:=(hR.row.cell hlt).1
   have c2:=(hR.row.cell hlt).2
   rw [hR.old i (Nat.le_refl _)] at c1
   obtain ⟨t,ht⟩:∃ t,t = c + xs.getD i 0 * wt:=⟨_,rfl⟩
   have HS:=Hj (hR.step hlt ht hw ok)
   have hx:=ok.getD i
   have hm:xs.getD i 0 * wt ≤ 4294967295 * 4294967295:=Nat.mul_le_mul (by omega) (by omega)
   have hc:=hR.lt
   generalize xs.getD i 0 = x at *
   obtain ⟨y,hy⟩:∃ y,x * wt = y:=⟨_,rfl⟩
   have e1:(x:Int) * (wt:Int) = (y:Int):=by rw [← hy,Int.natCast_mul]
   rw [hy] at ht hm
   have e2:(c:Int) + (y:Int) = (t:Int):=by omega
   have ht64:t < 18446744073709551616:=by omega
   have e3:IntKind.u32.wrap (t:Int) = ((t % 4294967296:Nat):Int):=by rw [IntKind.wrap_u32]; omega
   have e4:(t:Int) / 4294967296 = ((t / 4294967296:Nat):Int):=by omega
   generalize t % 4294967296 = tl at *
   generalize t / 4294967296 = th at *
   clear hR hy ht
   go_wp2_with fail
   exact ⟨⟨i + 1,th,_,by omega,by go_num,rfl,Uh HS⟩,by simp [intOf]; omega⟩
  ·have hin:i = n:=by omega
   subst hin
   have hlt':¬ (i:Int) < (i:Int):=by omega
   have hc:=hR.lt
   by_cases hc0:c = 0
   ·subst hc0
    have HD:=Hj (hR.done (Uh HL))
    clear hR
    go_wp2_with fail
    go_ret
    exact Uh HD
   ·have HR:=Hj hR
    have HV:=Hj (hR.ends (Uh HL))
    have HO:=Hj hR.row.own
    have HB:=Hj hR.row.bel
    have hsz:=hR.row.bel.size
    have hc1:((c:Int) == 0) = false:=by simp; omega
    have hc2:¬ (c:Int) = 0:=by omega
    have HL2:=Hj (lst_ok hR.ok)
    clear hR
    go_wp2_with (at_builtin; refine wpList_append_lies _ rfl _ _ 36 rfl base 94 i32 (.int .u32 0) 1 4 Tryz.underlying36 (Uh I32).1 (Uh I32).2.1 (Uh I32).2.2.1 (Uh I32).2.2.2 rfl (by decide) _ i _ rfl ((Uh HO).alloc _) ⟨wr.heap.size,0,none⟩ 1 1 [.int .u32 (c:Nat)] rfl rfl (World.news_of_block (alloc_block _ _)) one_int (by decide) ?c31 ?c41 ?c51 (wr.heap.size + 1) (by simp) ?_)
    case c31 => unfold maxLen; omega
    case c41 => omega
    case c51 => omega
    intro g1' cc w2 hown hgrow hat hlt2
    have HN:=Hj (app_done (w1:=wr) (Uh HV) (lst_len _ _) (Uh HL) (Uh HL2) hc (by omega) hown (Below.grown ((Uh HB).alloc (by omega) _) hgrow (by simp; omega) (fun k hk => (own_ge (Uh HO) k hk).1)))
    clear hown hgrow hat hlt2
    go_wp2
    go_ret
    exact Uh HN

set_option maxHeartbeats 4000000 in
theorem appendLimb_nil (base:Nat) (wt d:Nat) (w:World) (hbase:base ≤ w.heap.size) (hw:wt < 4294967296) (hd:d < 4294967296) :
  Calls Tryz.prog 96 #[.slice none 0 0,.int .u32 (wt:Nat),.int .u32 (d:Nat)] w fun e w' => ApPost base w [] wt d e w':=by
 obtain ⟨i32,hi32,hz32,hs32,hb32⟩:=info_parts Tryz.info_u32
 have I32:=Hj (And.intro hi32 (And.intro hz32 (And.intro hs32 hb32)))
 clear hi32 hz32 hs32 hb32
 go_enter Tryz.func96,Tryz.ntmps96
 go_wp2_with fail
 go_loopw [7,13] (fun cv iv wr => iv = .int .i64 0 ∧ cv = .int .u64 (d:Nat) ∧ wr = w) (fun _ iv _ => 0)
 case atStart => exact ⟨rfl,rfl,rfl⟩
 case round =>
  obtain ⟨rfl,rfl,rfl⟩:=hrel
  by_cases hc0:d = 0
  ·subst hc0
   go_wp2_with fail
   go_ret
   exact ⟨_,0,[],rfl,World.ownsRow_nil _ _ _ _,Ok.nil,fun h _ => h,by simp [val],by simp,Below.refl _ _⟩
  ·have hc1:((d:Int) == 0) = false:=by simp; omega
   have hc2:¬ (d:Int) = 0:=by omega
   have HO:=Hj (show wr.ownsRow base 94 1 (.slice none 0 0) 0 (vals []) from World.ownsRow_nil _ _ _ _)
   go_wp2_with (at_builtin; refine wpList_append_lies _ rfl _ _ 36 rfl base 94 i32 (.int .u32 0) 1 4 Tryz.underlying36 (Uh I32).1 (Uh I32).2.1 (Uh I32).2.2.1 (Uh I32).2.2.2 rfl (by decide) _ 0 _ rfl ((Uh HO).alloc _) ⟨wr.heap.size,0,none⟩ 1 1 [.int .u32 (d:Nat)] rfl rfl (World.news_of_block (alloc_block _ _)) one_int (by decide) ?c31 ?c41 ?c51 (wr.heap.size + 1) (by simp) ?_)
   case c31 => unfold maxLen; omega
   case c41 => omega
   case c51 => simp; omega
   intro g1' cc w2 hown hgrow hat hlt2
   have HN:=Hj (app_done (w1:=wr) (n:=0) (ys:=[]) (xs:=[]) (wt:=wt) (d:=d) (by simp [val]) rfl rfl Ok.nil hd (by omega) hown (Below.grown ((Below.refl base wr).alloc hbase _) hgrow (by simp; omega) (fun k hk => (own_ge (Uh HO) k hk).1)))
   clear hown hgrow hat hlt2
   go_wp2
   go_ret
   exact Uh HN

theorem appendLimb_any (base:Nat) (v:Value) (n:Nat) (xs:List Nat) (wt d:Nat) (w:World) (ho:w.ownsRow base 94 1 v n (vals xs)) (hbase:base ≤ w.heap.size) (ok:Ok xs) (hn:n ≤ 4096) (hw:wt < 4294967296) (hd:d < 4294967296) :
  Calls Tryz.prog 96 #[v,.int .u32 (wt:Nat),.int .u32 (d:Nat)] w fun e w' => ApPost base w xs wt d e w':=by
 have h1:=ho.1
 simp [vals] at h1
 rcases ho.2 with ⟨rfl,rfl⟩ | ⟨g,cap,cur,rfl,_⟩
 ·obtain rfl:=List.eq_nil_of_length_eq_zero h1
  exact appendLimb_nil base wt d w hbase hw hd
 ·exact appendLimb_some base g n cap xs wt d w ho hbase ok hn hw hd
open Go.RowKit Go.Deep
set_option linter.unusedVariables false

def numS (s:ByteArray) (b p:Nat):Nat → Nat
 | 0 => 0
 | k + 1 => numS s b p k * b + dig s (p + k)
def numP (s:ByteArray) (b p:Nat):Nat:=numS s b 0 p

theorem numS_lt {s:ByteArray} {b p:Nat} (hb:0 < b):∀ {k:Nat},(∀ j,p ≤ j → j < p + k → dig s j < b) → numS s b p k < b ^ k
 | 0,_ => by simp [numS]
 | k + 1,h => by
  have h1:=numS_lt hb (k:=k) (fun j hj hk => h j hj (by omega))
  have h2:=h (p + k) (by omega) (by omega)
  simp only [numS,Nat.pow_succ]
  have h3:numS s b p k * b + b ≤ b ^ k * b:=by
   rw [← Nat.succ_mul]
   exact Nat.mul_le_mul_right _ h1
  omega
theorem numP_add (s:ByteArray) (b p:Nat):∀ k,numP s b (p + k) = numP s b p * b ^ k + numS s b p k
 | 0 => by simp [numS]
 | k + 1 => by
  have h:=numP_add s b p k
  unfold numP at h ⊢
  rw [← Nat.add_assoc]
  simp only [numS]
  rw [h,Nat.pow_succ,Nat.add_mul,Nat.mul_assoc,Nat.zero_add]
  omega
theorem numP_mono (s:ByteArray) {b:Nat} (hb:0 < b) (p k:Nat):numP s b p ≤ numP s b (p + k):=by
 rw [numP_add]
 have:=Nat.mul_le_mul_left (numP s b p) (Nat.pow_pos hb (n:=k))
 omega

theorem rep_len_le5 {v j:Nat} {zs:List Nat} (h:Rep v zs) (hv:v < 4294967296 ^ j):zs.length ≤ j:=by
 rcases Nat.lt_or_ge j zs.length with hlt | hge
 ·exfalso
  have h1:=val_ge_of_norm h.norm (by intro e; subst e; simp at hlt)
  rw [h.val] at h1
  have h2:4294967296 ^ j ≤ 4294967296 ^ (zs.length - 1):=pow_mono (by omega)
  omega
 ·exact hge
theorem limbs_len_mono5 {v u:Nat} (h:v ≤ u):(limbs v).length ≤ (limbs u).length:=by
 have h1:=val_lt (limbs_rep u).ok
 rw [(limbs_rep u).val] at h1
 exact rep_len_le5 (limbs_rep v) (by omega)

structure Left (s:ByteArray) (p:Nat) (cur:ByteArray):Prop where
 le:p ≤ s.size
 size:cur.size = s.size - p
 dig:∀ i,i < s.size - p → dig cur i = dig s (p + i)

theorem Left.cut {s cur:ByteArray} {p k:Nat} (h:Left s p cur) (hk:k ≤ s.size - p):Left s (p + k) (cur.extract k (s.size - p)):=by
 have h1:=h.size
 have h2:=h.le
 have e:(cur.extract k (s.size - p)).size = s.size - (p + k):=by
  rw [ByteArray.size_extract]
  omega
 refine ⟨by omega,e,fun i hi => ?_⟩
 rw [Nat.add_assoc,← h.dig (k + i) (by omega),← dig_of (by omega),← dig_of (by omega)]
 congr 2
 rw [ByteArray.getElem_extract]

structure RdR (s:ByteArray) (b cnt:Nat) (w wr:World) (v:Value) (p:Nat) (cur:ByteArray) (n:Nat) (zs:List Nat):Prop where
 left:Left s p cur
 own:wr.ownsRow w.heap.size 94 1 v n (vals zs)
 rep:Rep (numP s b p) zs
 le:n ≤ 2048
 bel:Below w.heap.size w wr
 step:p = 0 ∨ (s.size - p) % cnt = 0
theorem piece {r cnt size:Nat} (h:size = (r - 1) % cnt + 1) (hr:0 < r) (hc:0 < cnt):size ≤ r ∧ size ≤ cnt ∧ (r - size) % cnt = 0 ∧ (r % cnt = 0 → size = cnt):=by
 have h1:=Nat.mod_lt (r - 1) hc
 have h2:=Nat.mod_le (r - 1) cnt
 have h3:=Nat.mod_add_div (r - 1) cnt
 refine ⟨by omega,by omega,?_,?_⟩
 ·have e:r - size = cnt * ((r - 1) / cnt):=by omega
  rw [e,Nat.mul_mod_right]
 ·intro h0
  have h4:=Nat.mod_add_div r cnt
  rw [h0,Nat.zero_add] at h4
  generalize r / cnt = q at *
  have hq:0 < q:=by
   rcases Nat.eq_zero_or_pos q with e | e
   ·rw [e] at h4; omega
   ·exact e
  have e:r - 1 = (cnt - 1) + cnt * (q - 1):=by
   rw [Nat.mul_sub,Nat.mul_one]
   have:cnt * 1 ≤ cnt * q:=Nat.mul_le_mul_left _ hq
   omega
  rw [e,Nat.add_mul_mod_self_left,Nat.mod_eq_of_lt (by omega)] at h
  omega

set_option maxHeartbeats 8000000 in
theorem read_any (s:ByteArray) (b:Nat) (hs:s.size ≤ 1000000000000) (hb:2 ≤ b) (hb2:b ≤ 36) (hall:∀ j,j < s.size → dig s j < b) (w:World) :
  Calls Tryz.prog 80 #[.string s,.int .i64 (b:Nat)] w fun e w' => Res2 w w' (fitL (numP s b s.size)) e:=by
 have HA:=Hj hall
 clear hall
 go_enter Tryz.func80,Tryz.ntmps80
 go_wp2_with fail
 refine (chunk_any b hb hb2 _).mono ?_
 rintro e w' ⟨cnt,hch,rfl,hw⟩
 obtain rfl:=hw.symm
 have h1:=hch.pos
 have h2:=hch.le
 have h3:=hch.lt
 have HC:=Hj hch
 clear hch
 obtain ⟨wt,hwt⟩:∃ wt,b ^ cnt = wt:=⟨_,rfl⟩
 have HWT:=Hj hwt
 rw [hwt] at h3 ⊢
 clear hwt
 go_wp2_with fail
 generalize hN:s.size = N at *
 have HN:=Hj hN
 clear hN
 go_loopw [0,6] (fun sv v wr => ∃ (p:Nat) (cur:ByteArray) (n:Nat) (zs:List Nat),sv = .string cur ∧ RdR s b cnt w wr v p cur n zs) (fun sv _ _ => match sv with | .string c => c.size | _ => 0)
 case atStart =>
  refine ⟨0,s,0,[],rfl,⟨Nat.zero_le _,rfl,fun i _ => by simp⟩,World.ownsRow_nil _ _ _ _,⟨Ok.nil,.inl rfl,rfl⟩,Nat.zero_le _,Below.refl _ _,.inl rfl⟩
 case round =>
  obtain ⟨p,cur,n,zs,rfl,hR⟩:=hrel
  have hp:=hR.left.le
  rw [Uh HN] at hp
  obtain ⟨r,hr⟩:∃ r,N - p = r:=⟨_,rfl⟩
  have hcs:cur.size = r:=by rw [hR.left.size,Uh HN,hr]
  by_cases hr0:r = 0
  ·have HV:=hR.rep
   have hpN:p = N:=by omega
   have hfit:fitL (numP s b N) = (zs,0):=by
    have e:=(limbs_rep (numP s b N)).unique (by rw [← hpN]; exact HV)
    have hl:=hR.own.1
    have:=hR.le
    rw [fitL_ok (by rw [e]; simp [vals] at hl; omega),e]
   obtain ⟨a,c,rfl,hs⟩:=own_sl hR.own
   have HS:=Hj (And.intro hs (And.intro hfit hR.bel))
   subst hr0
   clear hR hfit hs HV
   go_wp2_with fail
   go_ret2
   rw [Uh HN,(Uh HS).2.1]
   exact ⟨a,n,c,rfl,(Uh HS).1.1,(Uh HS).1.2,(Uh HS).2.2⟩
  ·obtain ⟨size,hsz⟩:∃ size,size = (r - 1) % cnt + 1:=⟨_,rfl⟩
   have hpc:=piece hsz (by omega) (by omega)
   have m1:((r:Int) - 1).tmod (cnt:Int) + 1 = (size:Int):=by
    rw [show (r:Int) - 1 = ((r - 1:Nat):Int) from by omega,hsz]
    rw [show ((r - 1:Nat):Int).tmod (cnt:Int) = (((r - 1) % cnt:Nat):Int) from by rw [Int.tmod_eq_emod_of_nonneg (by omega)]; rfl]
    omega
   have m2:((r:Int) - 1) % (cnt:Int) + 1 = (size:Int):=by
    rw [show (r:Int) - 1 = ((r - 1:Nat):Int) from by omega,hsz]
    rw [show ((r - 1:Nat):Int) % (cnt:Int) = (((r - 1) % cnt:Nat):Int) from rfl]
    omega
   have HR:=Hj hR
   have HCS:=Hj hcs
   have HP:=Hj hpc
   have hr1:(0:Int) < (r:Int):=by omega
   have hr2:0 < r:=by omega
   have hr3:decide (0 < r) = true:=by simp [hr2]
   have hsz1:=hpc.1
   have hsz2:=hpc.2.1
   clear hR hsz hpc
   go_wp2_with fail
   have HB:Hid (∀ k,k ≤ size → numS s b p k < b ^ k):=fun k hk => numS_lt (by omega) (fun j hj hjk => Uh HA j (by omega))
   go_loop [10,27] (fun vv iv => ∃ k:Nat,k ≤ size ∧ iv = .int .i64 (k:Nat) ∧ vv = .int .u32 (numS s b p k:Nat)) (fun _ iv => size - (intOf iv).toNat)
   case atStart => exact ⟨0,Nat.zero_le _,rfl,rfl⟩
   case round =>
    obtain ⟨k,hk,rfl,rfl⟩:=hrel
    by_cases hks:k < size
    ·have hks':(k:Int) < (size:Int):=by omega
     have hkc:(k:Int) < (cur.size:Int):=by omega
     have hv1:=Uh HB (k + 1) (by omega)
     have hcl:b ^ (k + 1) ≤ b ^ cnt:=Nat.pow_le_pow_right (by omega) (by omega)
     rw [Uh HWT] at hcl
     have hnx:numS s b p (k + 1) = numS s b p k * b + dig s (p + k):=rfl
     have hdg:dig cur k = dig s (p + k):=(Uh HR).left.dig k (by rw [Uh HN]; omega)
     have hds:=dig_le s (p + k)
     have HX:=Hj hnx
     generalize numS s b p k = V at *
     generalize hV':numS s b p (k + 1) = V' at *
     have HV':=hV'
     clear hV'
     obtain ⟨y,hy⟩:∃ y,V * b = y:=⟨_,rfl⟩
     have e1:(V:Int) * (b:Int) = (y:Int):=by rw [← hy,Int.natCast_mul]
     rw [hy] at hnx
     have hy32:y < 4294967296:=by omega
     have hV32:V' < 4294967296:=by omega
     go_wp2_with fail
     refine (ndigit_any _ (by have:=(cur[k]'(by omega)).toNat_lt; omega) _).mono ?_
     rintro _ _ ⟨rfl,hw⟩
     obtain rfl:=hw.symm
     rw [dig_of (by omega),hdg]
     generalize dig s (p + k) = D at *
     have e2:(y:Int) + (D:Int) = (V':Int):=by omega
     clear hnx hdg
     go_wp2_with fail
     exact ⟨⟨k + 1,by omega,by go_num,by rw [HV']⟩,by simp [intOf]; omega⟩
    ·obtain rfl:k = size:=by omega
     go_wp2_with fail
     have hd1:=Uh HB k (Nat.le_refl _)
     have hd2:b ^ k ≤ b ^ cnt:=Nat.pow_le_pow_right (by omega) (by omega)
     rw [Uh HWT] at hd2
     refine (appendLimb_any w.heap.size u6 n zs wt (numS s b p k) wr (Uh HR).own (Uh HR).bel.size (Uh HR).rep.ok (by have:=(Uh HR).le; omega) h3 (by omega)).mono ?_
     rintro _ wq ⟨v',n',ys,rfl,hown,hok,hnm,hval,hle,hbel⟩
     have hR:=Uh HR
     have hP:=Uh HP
     have hrep:Rep (numP s b (p + k)) ys:=by
      refine ⟨hok,hnm hR.rep.norm (by rw [← Uh HWT]; exact Nat.pow_pos (by omega)),?_⟩
      rw [hval,hR.rep.val,numP_add]
      rcases hR.step with h0 | h0
      ·subst h0
       have:numP s b 0 = 0:=rfl
       rw [this,Nat.zero_mul,Nat.zero_mul]
      ·rw [Uh HN,hr] at h0
       rw [← Uh HWT,hP.2.2.2 h0]
     have hlen:=hown.1
     simp [vals] at hlen
     have hb2w:Below w.heap.size w wq:=hR.bel.trans hbel
     obtain ⟨a',c',rfl,hsl⟩:=own_sl hown
     have hlz:=hR.own.1
     simp [vals] at hlz
     have hle0:=hR.le
     have HQ:=Hj (And.intro hown (And.intro hrep (And.intro hb2w hlen)))
     clear hown hrep hb2w hok hnm hval hbel hR hP hd1 hd2 hlen hlz
     by_cases hbig:2048 < n'
     ·have hbig':(2048:Int) < (n':Int):=by omega
      have hfit:fitL (numP s b N) = ([],2):=by
       refine fitL_big ?_
       have hh:=Uh HQ
       have h5:=limbs_len_mono5 (numP_mono s (b:=b) (by omega) (p + k) (N - (p + k)))
       rw [show p + k + (N - (p + k)) = N from by omega,← hh.2.1.eq] at h5
       omega
      have HF:=Hj hfit
      clear hfit hsl
      go_wp2_with fail
      go_ret2
      rw [Uh HN,Uh HF]
      exact ⟨none,0,0,rfl,sl_nil _,newAt_nil _,(Uh HQ).2.2.1⟩
     ·have hbig':¬ (2048:Int) < (n':Int):=by omega
      clear hsl
      go_wp2_with fail
      have hR:=Uh HR
      have hP:=Uh HP
      have hQ:=Uh HQ
      have hcut:=hR.left.cut (k:=k) (by rw [Uh HN,hr]; exact hsz1)
      rw [Uh HN,hr] at hcut
      have hk1:=hcut.size
      rw [Uh HN] at hk1
      have hkp:0 < k:=by
       rcases Nat.eq_zero_or_pos k with e | e
       ·subst e
        have:=hP.2.2.1
        have hn0:(0:Int) ≤ ((r:Int) - 1) % (cnt:Int):=Int.emod_nonneg _ (by omega)
        omega
       ·exact e
      refine ⟨⟨p + k,_,n',ys,rfl,hcut,hQ.1,hQ.2.1,by omega,hQ.2.2.1,.inr ?_⟩,?_⟩
      ·rw [Uh HN,show N - (p + k) = r - k from by omega]
       exact hP.2.2.1
      ·show (cur.extract k r).size < cur.size
       rw [hk1,Uh HCS]
       omega
open Go.RowKit Go.Deep
set_option linter.unusedVariables false

inductive PaIs (s:ByteArray) (b:Int):List Nat → Int → Int → Prop where
 | long (h:65536 < s.size):PaIs s b [] 65536 4
 | base (h:s.size ≤ 65536) (hb:¬ (2 ≤ b ∧ b ≤ 36)):PaIs s b [] 0 22
 | none (h:s.size = 0) (hb:2 ≤ b ∧ b ≤ 36):PaIs s b [] 0 5
 | digit (i:Nat) (h:s.size ≤ 65536) (hb:2 ≤ b ∧ b ≤ 36) (hi:AtDigit s b.toNat i) (hl:i < s.size):PaIs s b [] (i:Nat) 5
 | read (zs:List Nat) (e:Int) (h:s.size ≤ 65536) (h0:0 < s.size) (hb:2 ≤ b ∧ b ≤ 36) (hi:∀ j,j < s.size → dig s j < b.toNat) (hr:fitL (numP s b.toNat s.size) = (zs,e)):PaIs s b zs 0 e

theorem AtDigit.uniq {s:ByteArray} {b i j:Nat} (h:AtDigit s b i) (g:AtDigit s b j):i = j:=by
 rcases Nat.lt_trichotomy i j with k | k | k
 ·have h1:=g.all i k
  have h2:=g.le
  rcases h.stop with e | e <;> omega
 ·exact k
 ·have h1:=h.all j k
  have h2:=h.le
  rcases g.stop with e | e <;> omega

theorem PaIs.uniq {s:ByteArray} {b:Int} {x y:List Nat} {p q e f:Int} (h:PaIs s b x p e) (g:PaIs s b y q f):x = y ∧ p = q ∧ e = f:=by
 cases h with
 | long h =>
  cases g with
  | long g => exact ⟨rfl,rfl,rfl⟩
  | base g gb => omega
  | none g gb => omega
  | digit j g gb gi gl => omega
  | read zs e g g0 gb gi gr => omega
 | base h hb =>
  cases g with
  | long g => omega
  | base g gb => exact ⟨rfl,rfl,rfl⟩
  | none g gb => exact absurd gb hb
  | digit j g gb gi gl => exact absurd gb hb
  | read zs e g g0 gb gi gr => exact absurd gb hb
 | none h hb =>
  cases g with
  | long g => omega
  | base g gb => exact absurd hb gb
  | none g gb => exact ⟨rfl,rfl,rfl⟩
  | digit j g gb gi gl => omega
  | read zs e g g0 gb gi gr => omega
 | digit i h hb hi hl =>
  cases g with
  | long g => omega
  | base g gb => exact absurd hb gb
  | none g gb => omega
  | digit j g gb gi gl => rw [hi.uniq gi]; exact ⟨rfl,rfl,rfl⟩
  | read zs e g g0 gb gi gr =>
   have h1:=gi i hl
   rcases hi.stop with k | k <;> omega
 | read zs e h h0 hb hi hr =>
  cases g with
  | long g => omega
  | base g gb => exact absurd hb gb
  | none g gb => omega
  | digit j g gb gi gl =>
   have h1:=hi j gl
   rcases gi.stop with k | k <;> omega
  | read zs e g g0 gb gi gr =>
   rw [hr] at gr
   injection gr with g1 g2
   exact ⟨g1,rfl,g2⟩

def PaPost (s:ByteArray) (b:Int) (w:World) (e:Ending) (w':World):Prop :=
 ∃ a n c zs p er,e = .returned (.tuple #[.slice a n c,.int .i64 p,.int .i64 er]) ∧ Sl w' a n c zs ∧ Below w.heap.size w w' ∧ PaIs s b zs p er

set_option maxHeartbeats 4000000 in
theorem nparse_any (s:ByteArray) (b:Int) (w:World) :
  Calls Tryz.prog 57 #[.string s,.int .i64 b] w fun e w' => PaPost s b w e w':=by
 by_cases hl:65536 < s.size
 ·have HL:=Hj hl
  have hl':(65536:Int) < (s.size:Int):=by omega
  go_enter Tryz.func57,Tryz.ntmps57
  go_wp2_with fail
  go_ret3
  exact ⟨none,0,0,[],_,_,rfl,sl_nil _,Below.refl _ _,.long (by exact Uh HL)⟩
 ·have HL:=Hj hl
  have KB:=Hj (isBase_any b w)
  by_cases hb:2 ≤ b ∧ b ≤ 36
  ·obtain ⟨k,rfl⟩:∃ k:Nat,b = (k:Int):=⟨b.toNat,by omega⟩
   have k1:2 ≤ k:=by omega
   have k2:k ≤ 36:=by omega
   have hs:s.size ≤ 1000000000000:=by omega
   have KA:=Hj (allDigits_any s k hs k2 w)
   have HB:=Hj hb
   clear hb
   have hb':(decide (2 ≤ (k:Int) ∧ (k:Int) ≤ 36)) = true:=by simp; omega
   rw [hb'] at KB
   clear hb'
   have hl':¬ (65536:Int) < (s.size:Int):=by omega
   go_enter Tryz.func57,Tryz.ntmps57
   go_wp2_with fail
   refine (Uh KB).mono ?_
   rintro _ _ ⟨rfl,hw⟩
   obtain rfl:=hw.symm
   clear hw
   go_wp2_with fail
   refine (Uh KA).mono ?_
   rintro _ _ ⟨i,hi,hw,⟨hlt,rfl⟩ | ⟨heq,rfl⟩⟩
   ·obtain rfl:=hw.symm
    have HI:=Hj hi
    have HLT:=Hj hlt
    clear hw hi hlt
    go_wp2_with fail
    go_ret3
    exact ⟨none,0,0,[],_,_,rfl,sl_nil _,Below.refl _ _,.digit i (by have:=Uh HL; omega) (Uh HB) (by simpa using Uh HI) (Uh HLT)⟩
   ·obtain rfl:=hw.symm
    have hall:∀ j,j < s.size → dig s j < k:=fun j hj => hi.all j (by omega)
    have HALL:=Hj hall
    clear hw hi heq hall
    by_cases h0:0 < s.size
    ·rw [show decide (0 < s.size) = true from by simp [h0]]
     go_wp2_with fail
     refine (read_any s k (by exact hs) k1 k2 (Uh HALL) w).mono ?_
     rintro _ wq ⟨a,m,c,rfl,hsl,hnew,hbel⟩
     generalize hF:fitL (numP s k s.size) = F at *
     obtain ⟨zs,er⟩:=F
     have HQ:=Hj (And.intro hsl (And.intro hbel hF))
     clear hsl hnew hbel hF
     go_wp2_with fail
     go_ret3
     have hQ:=Uh HQ
     exact ⟨a,m,c,zs,_,_,rfl,hQ.1,hQ.2.1,.read zs er (by have:=Uh HL; omega) (by exact h0) (Uh HB) (Uh HALL) hQ.2.2⟩
    ·rw [show decide (0 < s.size) = false from by simp [h0]]
     go_wp2_with fail
     go_ret3
     exact ⟨none,0,0,[],_,_,rfl,sl_nil _,Below.refl _ _,.none (by omega) (Uh HB)⟩
  ·have hb':(decide (2 ≤ b ∧ b ≤ 36)) = false:=by simp; omega
   rw [hb'] at KB
   have HB:=Hj hb
   clear hb' hb
   have hl':¬ (65536:Int) < (s.size:Int):=by omega
   go_enter Tryz.func57,Tryz.ntmps57
   go_wp2_with fail
   refine (Uh KB).mono ?_
   rintro _ _ ⟨rfl,hw⟩
   obtain rfl:=hw.symm
   clear hw
   go_wp2_with fail
   go_ret3
   exact ⟨none,0,0,[],_,_,rfl,sl_nil _,Below.refl _ _,.base (by have:=Uh HL; omega) (Uh HB)⟩
end Go.Proofs.YtjoaijbhpgekoaaGreatDoor
