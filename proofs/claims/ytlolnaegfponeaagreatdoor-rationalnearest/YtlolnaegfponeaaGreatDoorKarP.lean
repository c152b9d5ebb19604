/- Kar -/
import Derived.Test.YtlolnaegfponeaaGreatDoorNMul
namespace Go.Proofs.YtlolnaegfponeaaGreatDoor
open Go.RowKit Go.Deep
set_option linter.unusedVariables false
def MI (N:Nat):Prop:=∀ (w:World) (bz oz nz cz:Nat) (a1:Option Addr) (n1 c1:Nat) (xs:List Nat) (a2:Option Addr) (n2 c2:Nat) (ys:List Nat),n1 + n2 ≤ N → MulPre w bz oz nz cz a1 n1 c1 xs a2 n2 c2 ys →
 Calls Tryz.prog 194 #[.slice (some ⟨bz,oz,none⟩) nz cz,.slice a1 n1 c1,.slice a2 n2 c2] w fun e w' => MulPost w bz oz nz (val xs * val ys) e w'

theorem Fn.below {w w':World} {b off n:Nat} {f:Nat → Nat} (h:Fn w b off n f) (k:Below w.heap.size w w'):Fn w' b off n f:=by
 intro i hi
 have:=h i hi
 have hlt:=World.block_lt_of_cell? _ _ this.1
 exact ⟨(k.cell hlt).trans this.1,(k.frozen hlt).trans this.2⟩

theorem Fn.part {w:World} {b off n:Nat} {f:Nat → Nat} (h:Fn w b off n f) (k m:Nat) (hm:k + m ≤ n):Fn w b (off + k) m (fun i => f (k + i)):=by
 intro i hi
 have:=h (k + i) (by omega)
 rw [← Nat.add_assoc] at this
 exact this

theorem Fn.join {w:World} {b off k m:Nat} {f g:Nat → Nat} (h1:Fn w b off k f) (h2:Fn w b (off + k) m g):Fn w b off (k + m) (fun i => if i < k then f i else g (i - k)):=by
 intro i hi
 by_cases e:i < k
 ·simp only [e,if_true]; exact h1 i e
 ·simp only [e,if_false]
  have:=h2 (i - k) (by omega)
  rw [show off + k + (i - k) = off + i from by omega] at this
  exact this

theorem valF_join (f g:Nat → Nat) (k m:Nat):valF (fun i => if i < k then f i else g (i - k)) (k + m) = valF f k + 4294967296 ^ k * valF g m:=by
 rw [valF_add,valF_congr (g:=f) (fun i hi => by simp [hi]),valF_congr (f:=fun j => if k + j < k then f (k + j) else g (k + j - k)) (g:=g) (fun i hi => by rw [if_neg (by omega),Nat.add_sub_cancel_left])]

theorem rep_len_le {v j:Nat} {zs:List Nat} (h:Rep v zs) (hv:v < 4294967296 ^ j):zs.length ≤ j:=by
 rcases Nat.lt_or_ge j zs.length with hlt | hge
 ·exfalso
  have h1:=val_ge_of_norm h.norm (by intro e; subst e; simp at hlt)
  rw [h.val] at h1
  have h2:4294967296 ^ j ≤ 4294967296 ^ (zs.length - 1):=pow_mono (by omega)
  omega
 ·exact hge

theorem carry_zero {x y P c:Nat} (h:x + P * c = y) (hy:y < P):c = 0 ∧ x = y:=by
 rcases Nat.eq_zero_or_pos c with h0 | h0
 ·subst h0; simp at h; exact ⟨rfl,h⟩
 ·exfalso
  have:P * 1 ≤ P * c:=Nat.mul_le_mul_left _ h0
  omega

structure PieceR (wr w:World) (bz oz nz:Nat) (xs ys:List Nat) (k:Nat) (f:Nat → Nat):Prop where
 fn:Fn wr bz oz nz f
 ok:∀ i,i < nz → f i < 4294967296
 vl:valF f nz = val (xs.take k) * val ys
 upd:Upd bz oz (oz + nz) w wr

theorem take_lt {xs:List Nat} (ox:Ok xs) (t:Nat) (h:t ≤ xs.length):val (xs.take t) < 4294967296 ^ t:=by
 have:=val_lt (ox.take t)
 rwa [List.length_take,Nat.min_eq_left h] at this

theorem take_split (xs:List Nat) (k p:Nat) (h:k + p ≤ xs.length):val (xs.take (k + p)) = val (xs.take k) + 4294967296 ^ k * val ((xs.drop k).take p):=by
 rw [List.take_add,val_append,List.length_take,Nat.min_eq_left (by omega)]

theorem PieceR.step {wr w w5 w6:World} {bz oz nz n1 n2:Nat} {xs ys:List Nat} {k p k' c:Nat} {f f':Nat → Nat} (h:PieceR wr w bz oz nz xs ys k f) (hl1:xs.length = n1) (hl2:ys.length = n2) (hnz:n1 + n2 = nz) (ox:Ok xs) (oy:Ok ys) (hp:k + p ≤ n1)
  (hk':xs.take k' = xs.take (k + p)) (bz5:bz < wr.heap.size) (b5:Below wr.heap.size wr w5) (hF:Fn w6 bz (oz + k) (nz - k) f') (hok:∀ i,i < nz - k → f' i < 4294967296)
  (hval:valF f' (nz - k) + 4294967296 ^ (nz - k) * c = valF (fun i => f (k + i)) (nz - k) + val ((xs.drop k).take p) * val ys) (hupd:Upd bz (oz + k) (oz + k + (nz - k)) w5 w6) :
  ∃ g,PieceR w6 w bz oz nz xs ys k' g:=by
 have hkn:k + (nz - k) = nz:=by omega
 have u1:Upd bz oz (oz + nz) wr w5:=.of_below bz5 b5
 have u2:Upd bz oz (oz + nz) w5 w6:=hupd.mono (by omega) (by omega)
 have fl:Fn w6 bz oz k f:=by
  have:=((h.fn.below b5).part 0 k (by omega))
  simp only [Nat.zero_add,Nat.add_zero] at this
  exact hupd.fn this (.inr (.inl (by omega)))
 have hj:=Fn.join fl hF
 rw [hkn] at hj
 refine ⟨_,hj,?_,?_,(h.upd.trans u1).trans u2⟩
 ·intro i hi
  by_cases e:i < k
  ·simp only [e,if_true]; exact h.ok i hi
  ·simp only [e,if_false]; exact hok _ (by omega)
 ·have e1:=valF_join f f' k (nz - k)
  rw [hkn] at e1
  rw [e1,hk',take_split xs k p (by omega)]
  have e2:=valF_add f k (nz - k)
  rw [hkn,h.vl] at e2
  have e3:valF f k + 4294967296 ^ k * valF f' (nz - k) + 4294967296 ^ nz * c = (val (xs.take k) + 4294967296 ^ k * val ((xs.drop k).take p)) * val ys:=by
   have e4:4294967296 ^ nz * c = 4294967296 ^ k * (4294967296 ^ (nz - k) * c):=by rw [← Nat.mul_assoc,← Nat.pow_add,hkn]
   rw [e4,Nat.add_assoc,← Nat.mul_add,hval,Nat.mul_add,← Nat.add_assoc,← e2,Nat.add_mul,Nat.mul_assoc]
  have hlt:(val (xs.take k) + 4294967296 ^ k * val ((xs.drop k).take p)) * val ys < 4294967296 ^ nz:=by
   rw [← take_split xs k p (by omega)]
   have a1:=take_lt ox (k + p) (by omega)
   have a2:=val_lt oy
   have a3:4294967296 ^ (k + p) ≤ 4294967296 ^ n1:=pow_mono hp
   rw [← hnz,Nat.pow_add,← hl2]
   exact Nat.mul_lt_mul_of_lt_of_le (by omega) (by omega) (pow_pos _)
  exact (carry_zero e3 hlt).2
theorem Sl.part {w:World} {b off n c:Nat} {xs:List Nat} (h:Sl w (some ⟨b,off,none⟩) n c xs) (k p c':Nat) (hp:k + p ≤ n) (hc:p ≤ c') (hm:c' ≤ maxLen):Sl w (some ⟨b,off + k,none⟩) p c' ((xs.drop k).take p):=by
 have hl:=h.len
 refine ⟨by simp; omega,hc,hm,?_⟩
 rcases h.cells with e | ⟨b',o',e,hh⟩
 ·left; subst e; simp
 ·right
  injection e with e
  injection e with e1 e2
  subst e1 e2
  refine ⟨_,_,rfl,?_⟩
  intro i hi
  have hi':i < p:=by simp at hi; omega
  have:=hh (k + i) (by omega)
  rw [← Nat.add_assoc] at this
  rw [this]
  simp [List.getD,hi']

theorem piece_mul {N n1 n2 p k c2 b1 o1:Nat} {a2:Option Addr} {xs ys:List Nat} (IH:MI N) (hN:p + n2 ≤ N) (hb:p + n2 ≤ 70368744177000) (ox:Ok xs) (oy:Ok ys) (hp:k + p ≤ n1) (w:World) {c1:Nat} (h1:Sl w (some ⟨b1,o1,none⟩) n1 c1 xs) (h2:Sl w a2 n2 c2 ys) :
  Calls Tryz.prog 154 #[.slice (some ⟨b1,o1 + k,none⟩) p p,.slice a2 n2 c2] w fun e w' => NewRep w w' (val ((xs.drop k).take p) * val ys) e :=
 multiply_of _ a2 p p n2 c2 _ ys w (h1.part k p p hp (Nat.le_refl _) (by unfold maxLen; omega)) h2 ((ox.drop k).take p) oy hb (fun w bz oz nz cz h => IH w bz oz nz cz _ p p _ a2 n2 c2 ys hN h)

theorem Sl.upd {w w':World} {b off n c bz lo hi:Nat} {xs:List Nat} (h:Sl w (some ⟨b,off,none⟩) n c xs) (u:Upd bz lo hi w w') (hd:b ≠ bz ∨ off + xs.length ≤ lo ∨ hi ≤ off):Sl w' (some ⟨b,off,none⟩) n c xs:=by
 refine ⟨h.len,h.le,h.cap,?_⟩
 rcases h.cells with e | ⟨b',o',e,hh⟩
 ·exact .inl e
 ·right
  injection e with e
  injection e with e1 e2
  subst e1 e2
  exact ⟨_,_,rfl,u.cells hh hd⟩

theorem piece_add {wr w w5:World} {bz oz nz cz n1 n2 m:Nat} {a':Option Addr} {xs ys zs:List Nat} {k p k':Nat} {f:Nat → Nat} (h:PieceR wr w bz oz nz xs ys k f) (hl1:xs.length = n1) (hl2:ys.length = n2) (hnz:n1 + n2 = nz) (hbig:nz ≤ 1000000000) (ox:Ok xs) (oy:Ok ys) (hp:k + p ≤ n1) (hn2:0 < n2)
  (hk':xs.take k' = xs.take (k + p)) (b5:Below wr.heap.size wr.drew w5) (hs:Sl w5 a' m m zs) (hr:Rep (val ((xs.drop k).take p) * val ys) zs) (ha:NewAt wr.heap.size a') :
  Calls Tryz.prog 193 #[.slice (some ⟨bz,oz + k,none⟩) (nz - k) (cz - k),.slice a' m m] w5 fun e w6 => ∃ c:Nat,e = .returned (.int .u32 (c:Nat)) ∧ ∃ g,PieceR w6 w bz oz nz xs ys k' g:=by
 have b5':Below wr.heap.size wr w5:=(Below.drew (Below.refl _ _)).trans b5
 have hbz:bz < wr.heap.size:=World.block_lt_of_cell? _ _ (h.fn 0 (by omega)).1
 have hlen:m ≤ nz - k:=by
  rw [← hs.len]
  refine Nat.le_trans (rep_len_le (j:=p + n2) hr ?_) (by omega)
  have a1:=take_lt (ox.drop k) p (by simp; omega)
  have a2:=val_lt oy
  rw [Nat.pow_add,← hl2]
  exact Nat.mul_lt_mul_of_lt_of_le a1 (by omega) (pow_pos _)
 refine (addTo_any bz (oz + k) (nz - k) (cz - k) m m a' (fun i => f (k + i)) zs w5 hs (fun x hx _ => by have:=ha x hx; omega) hlen (by unfold maxLen; omega) hr.ok (fun i hi => h.ok _ (by omega)) ((h.fn.below b5').part k (nz - k) (by omega))).mono ?_
 rintro e w6 ⟨f',c,rfl,hc,hF,hok,hval,hupd⟩
 rw [hr.val] at hval
 exact ⟨c,rfl,h.step hl1 hl2 hnz ox oy hp hk' hbz b5' hF hok hval hupd⟩

set_option maxHeartbeats 4000000 in
theorem pieces_some (bz oz nz cz b1 o1 n1 c1 b2 o2 n2 c2:Nat) (xs ys:List Nat) (w:World) (h:MulPre w bz oz nz cz (some ⟨b1,o1,none⟩) n1 c1 xs (some ⟨b2,o2,none⟩) n2 c2 ys) (h48:48 ≤ n2) (hhalf:2 * n2 ≤ n1 + 1) (hbig:nz ≤ 1000000000) (N:Nat) (hN:n1 + n2 ≤ N + 1) (IH:MI N) :
  Calls Tryz.prog 208 #[.slice (some ⟨bz,oz,none⟩) nz cz,.slice (some ⟨b1,o1,none⟩) n1 c1,.slice (some ⟨b2,o2,none⟩) n2 c2] w fun e w' => MulPost w bz oz nz (val xs * val ys) e w':=by
 have HP:=Hd h
 have HI:=Hd IH
 have HX:=Hd (show xs ≠ [] from by intro e; have:=h.h1.len; rw [e] at this; simp at this; omega)
 have HY:=Hd (show ys ≠ [] from by intro e; have:=h.h2.len; rw [e] at this; simp at this; omega)
 have hcz:=h.hcz
 have hc1:=h.h1.le
 have hnz1:n1 + n2 ≤ nz:=by have:=h.hnz; omega
 have hnz2:nz ≤ n1 + n2:=by have:=h.hnz; omega
 have hR0:PieceR w w bz oz nz xs ys 0 (fun _ => 0):=⟨h.hz,fun _ _ => by decide,by simp [val,valF_zero],Upd.refl _ _ _ _⟩
 clear h IH
 go_enter Tryz.func208,Tryz.ntmps208
 go_wp2
 go_loopw [6] (fun i wr => ∃ k:Nat,∃ f:Nat → Nat,k ≤ n1 + n2 ∧ i = .int .i64 k ∧ PieceR wr w bz oz nz xs ys k f) (fun i _ => n1 + n2 - (intOf i).toNat)
 case atStart => exact ⟨0,_,Nat.zero_le _,rfl,hR0⟩
 case round =>
  clear hR0
  obtain ⟨k,f,hk,rfl,hR⟩:=hrel
  by_cases hlt:k < n1
  ·have hlt':(k:Int) < (n1:Int):=by omega
   have hz1:(k:Int) ≤ (nz:Int):=by omega
   by_cases hto:k + n2 ≤ n1
   ·have hto':(k:Int) + (n2:Int) ≤ (n1:Int):=by omega
    have hto2:(k:Int) + (n2:Int) ≤ (c1:Int):=by omega
    have hpl:k + n2 - k = n2:=by omega
    have KM:=Hd (fun (w':World) (hb:Below wr.heap.size wr w') => piece_mul (p:=n2) (k:=k) (Uh HI) (by omega) (by omega) (Uh HP).ox (Uh HP).oy (show k + (n2) ≤ n1 by omega) w' (((Uh HP).h1.upd hR.upd ((Uh HP).s1 _ rfl (Uh HX))).below hb) (((Uh HP).h2.upd hR.upd ((Uh HP).s2 _ rfl (Uh HY))).below hb))
    have KA:=Hd (fun w5 a' m zs => piece_add (cz:=cz) (w5:=w5) (a':=a') (m:=m) (zs:=zs) (p:=n2) (k':=k + n2) hR (Uh HP).h1.len (Uh HP).h2.len (Uh HP).hnz hbig (Uh HP).ox (Uh HP).oy (show k + (n2) ≤ n1 by omega) (by omega) rfl)
    clear hR
    go_wp2_with fail
    go_region_with (first | (go_at_call 154; refine (Uh KM _ ?_).mono ?_; exact (Below.refl _ _).drew; rintro e w5 ⟨a',m,zs,rfl,hs,hr,ha,hb5⟩; have KB:=Hd (Uh KA w5 a' m zs hb5 hs hr ha); clear hs hr ha hb5) | (go_at_call 193; refine (Uh KB).mono ?_; rintro e w6 ⟨cc,rfl,g,hR2⟩; have HR2:=Hd hR2; clear hR2))
    all_goals
     go_wp2
     exact ⟨⟨k + n2,_,by omega,by go_num,Uh HR2⟩,by simp [intOf]; omega⟩
   ·have hto':¬ (k:Int) + (n2:Int) ≤ (n1:Int):=by omega
    have hto2:(n1:Int) ≤ (c1:Int):=by omega
    have hto3:(n1:Int) ≤ (k:Int) + (n2:Int):=by omega
    have KM:=Hd (fun (w':World) (hb:Below wr.heap.size wr w') => piece_mul (p:=n1 - k) (k:=k) (Uh HI) (by omega) (by omega) (Uh HP).ox (Uh HP).oy (show k + (n1 - k) ≤ n1 by omega) w' (((Uh HP).h1.upd hR.upd ((Uh HP).s1 _ rfl (Uh HX))).below hb) (((Uh HP).h2.upd hR.upd ((Uh HP).s2 _ rfl (Uh HY))).below hb))
    have KA:=Hd (fun w5 a' m zs => piece_add (cz:=cz) (w5:=w5) (a':=a') (m:=m) (zs:=zs) (p:=n1 - k) (k':=k + n2) hR (Uh HP).h1.len (Uh HP).h2.len (Uh HP).hnz hbig (Uh HP).ox (Uh HP).oy (show k + (n1 - k) ≤ n1 by omega) (by omega) (by rw [List.take_of_length_le (by rw [(Uh HP).h1.len]; omega),List.take_of_length_le (by rw [(Uh HP).h1.len]; omega)]))
    clear hR
    go_wp2_with fail
    go_region_with (first | (go_at_call 154; refine (Uh KM _ ?_).mono ?_; exact (Below.refl _ _).drew; rintro e w5 ⟨a',m,zs,rfl,hs,hr,ha,hb5⟩; have KB:=Hd (Uh KA w5 a' m zs hb5 hs hr ha); clear hs hr ha hb5) | (go_at_call 193; refine (Uh KB).mono ?_; rintro e w6 ⟨cc,rfl,g,hR2⟩; have HR2:=Hd hR2; clear hR2))
    all_goals
     go_wp2
     exact ⟨⟨k + n2,_,by omega,by go_num,Uh HR2⟩,by simp [intOf]; omega⟩
  ·have hlt':¬ (k:Int) < (n1:Int):=by omega
   have hv:valF f nz = val xs * val ys:=by
    have:=hR.vl
    rw [List.take_of_length_le (by rw [(Uh HP).h1.len]; omega)] at this
    exact this
   have HR:=Hd (And.intro hR hv)
   clear hR hv
   go_wp2
   go_end0
   exact ⟨rfl,f,(Uh HR).1.fn,(Uh HR).1.ok,(Uh HR).2,(Uh HR).1.upd⟩
end Go.Proofs.YtlolnaegfponeaaGreatDoor
