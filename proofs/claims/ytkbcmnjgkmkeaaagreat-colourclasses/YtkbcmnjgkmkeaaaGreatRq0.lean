/- Ch8 -/
import Derived.Test.YtkbcmnjgkmkeaaaGreatCh7
import Derived.Test.YtkbcmnjgkmkeaaaGreatBase
namespace Go.Proofs.YtkbcmnjgkmkeaaaGreat
open Go.RowKit Go.Deep
set_option linter.unusedVariables false
set_option maxRecDepth 100000 in
set_option maxHeartbeats 16000000 in
theorem chasTwin_any (X R:Nat) (vs:List Value) (b1:Option Addr) (m1 d1:Nat) (b2:Option Addr) (m2 d2:Nat) (g h cnt:Nat) (cs ls:Nat → Int) (st cols:List Int) (v u:Nat) (w:World) (hB:BrI w X R vs b1 m1 d1 b2 m2 d2 g h cnt cs ls st cols) (hm:MayP (R:Int) (R:Int) st cols) (hv:v < R) (hu:u < R) (hb1:m1 ≤ 17592186044000) (hb2:m2 ≤ 17592186044000) (ok:Bool) (hok:TruQ ok (TwP cs (rowL st cols v) u)) :
  Calls Tryz.prog 76 #[.pointer (some ⟨X,0,none⟩),.int .i64 (v:Int),.int .i64 (u:Int)] w fun e w' => e = .returned (.bool ok) ∧ Below w.heap.size w w':=by
 obtain ⟨wa,hwa⟩:∃ x,w.alloc (.cells #[.pointer (some ⟨X,0,none⟩)] 96) = x:=⟨_,rfl⟩
 have ba:Below w.heap.size w wa:=by rw [← hwa]; exact bAl
 have hA:=BoxP.made w #[.pointer (some ⟨X,0,none⟩)] 96
 rw [hwa] at hA
 obtain ⟨wb,hwb⟩:∃ x,wa.alloc (.cells #[.int .i64 (u:Int)] 3) = x:=⟨_,rfl⟩
 have bb:Below wa.heap.size wa wb:=by rw [← hwb]; exact bAl
 have hU:=BoxP.made wa #[.int .i64 (u:Int)] 3
 rw [hwb] at hU
 have bw:=ba.trans (bb.mono ba.size)
 have hBw:=hB.below bw
 have hAw:=hA.below bb
 have a0:=(hAw.all 0 _ rfl).1
 have u0:=(hU.all 0 _ rfl).1
 have q9:=(hBw.box.all 9 _ hBw.v9).1
 have q10:=(hBw.box.all 10 _ hBw.v10).1
 have q11:=(hBw.box.all 11 _ hBw.v11).1
 have q12:=(hBw.box.all 12 _ hBw.v12).1
 obtain ⟨Xr,Yr,hRow⟩:=hm.rowAt (k:=v) (by omega)
 have KR:=Hj (crow_any R (R:Int) b1 b2 m1 d1 m2 d2 st cols v Xr Yr wb hBw.s1 hBw.s2 (by omega) (by omega) hm hv hRow)
 unfold patV subV at KR
 have hln:=hBw.s2.len
 have hsub:=hBw.s2.sub hRow.le (by rw [← hln]; exact hRow.lt)
 have eL:rowL st cols v = (cols.drop Xr).take (Yr - Xr):=by unfold rowL; rw [hRow.hX,hRow.hY]; simp
 have hrow:=(RowP.sub hRow.le).2 hRow.row
 rw [← eL] at hsub hrow
 obtain ⟨A,hA'⟩:∃ A,(if d2 = Xr then b2 else Option.map (fun x => x.add Xr) b2) = A:=⟨_,rfl⟩
 obtain ⟨q,hq⟩:∃ q,Yr - Xr = q:=⟨_,rfl⟩
 obtain ⟨d,hd⟩:∃ d,d2 - Xr = d:=⟨_,rfl⟩
 rw [hA',hq,hd] at KR hsub
 rw [hq] at hrow
 have hq8:q ≤ 17592186044000:=by have:=hRow.lt; omega
 have hR8:R ≤ 128:=by have:=hm.head.fit; omega
 obtain ⟨xs,hxs⟩:∃ xs,rowL st cols v = xs:=⟨_,rfl⟩
 rw [hxs] at hsub hrow hok
 have HROW:=Hj hrow
 have HSB:=Hj hsub
 have HOK:=Hj hok
 have HBw:=Hj hBw
 have HAU:=Hj (And.intro hAw hU)
 have HBel:=Hj bw
 clear hA hU hAw hBw ba bb bw hB hsub hrow hok eL hln hA' hq hd hxs
 go_enter Tryz.func76,Tryz.ntmps76
 go_wp2_with fail
 refine (Uh KR).mono ?_
 rintro _ w2 ⟨rfl,b2'⟩
 have hBr2:=(Uh HBw).below b2'
 have hs2:=(Uh HSB).below b2'
 have hau:=And.intro ((Uh HAU).1.below b2') ((Uh HAU).2.below b2')
 have KF:=Hj (ccontF_any A q d xs (fun k => tb ((xs.getD k 0).toNat ≠ u ∧ cs (xs.getD k 0).toNat = cs u)) wa.heap.size w.heap.size w2 hs2 (by omega) (fun W k bW hk => by
  have hg:=(Uh HROW).rng k (Nat.zero_le _) hk
  obtain ⟨x,hx⟩:∃ x:Nat,xs.getD k 0 = (x:Int):=⟨(xs.getD k 0).toNat,by omega⟩
  have hbW:=hBr2.below bW
  try dsimp only
  rw [hx,show ((x:Int)).toNat = x by omega]
  exact ctwin1_any X R g x u cs wa.heap.size w.heap.size W (hbW.box.all 13 _ hbW.v13).1 hbW.col (by rw [hx] at hg; omega) hu hR8 ((hau.1.below bW).all 0 _ rfl).1 ((hau.2.below bW).all 0 _ rfl).1 _ tb_iff) ok ((show ok = true ↔ _ from Uh HOK).trans (by
   constructor
   ·rintro ⟨x,hx,h1,h2⟩
    obtain ⟨p,hp,he⟩:=mem_getD.1 hx
    rw [hs2.len] at hp
    have hg:=(Uh HROW).rng p (Nat.zero_le _) hp
    refine ⟨p,hp,tb_yes ⟨?_,?_⟩⟩
    ·rw [he] at hg ⊢; omega
    ·rw [he]; exact h2
   ·rintro ⟨k,hk,ht⟩
    have ht2:=tb_iff.1 ht
    have hg:=(Uh HROW).rng k (Nat.zero_le _) hk
    refine ⟨xs.getD k 0,mem_getD.2 ⟨k,by rw [hs2.len]; exact hk,rfl⟩,?_,ht2.2⟩
    have:=ht2.1
    omega)))
 have HB2:=Hj b2'
 clear KR hBr2 hs2 hau b2' a0 u0 q9 q10 q11 q12 hm hRow
 go_wp2_with fail
 refine (Uh KF).mono ?_
 rintro _ w3 ⟨rfl,b3⟩
 have HB3:=Hj b3
 clear KF b3
 go_wp2_with fail
 try go_ret
 have t1:=(Uh HBel).trans ((Uh HB2).mono (Uh HBel).size)
 exact ⟨rfl,t1.trans ((Uh HB3).mono t1.size)⟩
structure Ext (w0:World) where
 w:World
 bel:Below w0.heap.size w0 w
theorem Ext.ne (w:World):Nonempty (Ext w):=⟨⟨w,Below.refl _ _⟩⟩
section
variable {P:Program}
theorem wp_region_ext {id:Nat} {Q:Exit → Act → World → Prop} {a:Act} {w:World} {l:List Oper} (hm:P.follows .mixedOrders = true) (hB:Region.lexB .any l.toArray = true)
  (h:wpQuiet P l.toArray (fun w' => ∃ x:Ext w,w' = x.w) (fun a' => ∀ w',(∃ x:Ext w,w' = x.w) → Q .normal a' w') l a):(Code.region id l.toArray true).wp P Q a w :=
 wp_region_quiet (C:=fun w' => ∃ x:Ext w,w' = x.w) hm hB ⟨⟨w.drew,(Below.refl _ _).drew⟩,rfl⟩ (by simpa using h)
end
theorem Ext.call {P:Program} {f:FuncId} {args:Array Value} {w:World} {x:Ext w} {v:Value} {R:Ending → World → Prop} (h:Calls P f args x.w R) (hR:∀ e w',R e w' → e = .returned v ∧ Below x.w.heap.size x.w w') :
  Calls P f args x.w fun e w'' => e = .returned v ∧ ∃ y:Ext w,w'' = y.w :=
 h.mono fun e w' hr => ⟨(hR e w' hr).1,⟨⟨w',x.bel.trans ((hR e w' hr).2.mono x.bel.size)⟩,rfl⟩⟩
theorem Ext.cell {w:World} (x:Ext w) {p:Addr} {v:Value} (h:w.cell? p = some v):x.w.cell? p = some v:=(x.bel.cell (p:=p) (World.block_lt_of_cell? _ _ h)).trans h
end Go.Proofs.YtkbcmnjgkmkeaaaGreat
