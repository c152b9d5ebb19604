/- Wrs -/
import Derived.Test.YthmcfpeobkgihaaGreatDoorRq1
namespace Go.Proofs.YthmcfpeobkgihaaGreatDoor
open Go.RowKit Go.Deep
set_option linter.unusedVariables false
set_option maxRecDepth 100000 in
set_option maxHeartbeats 16000000 in
theorem wpow_bad (g1:Bool) (a1 b1:Option Addr) (n1 c1 m1 d1:Nat) (x1 y1:List Nat) (w:World) (hx1:Sl w a1 n1 c1 x1) (hy1:Sl w b1 m1 d1 y1) (ox1:Ok x1) (oy1:Ok y1) (k:Int) (hm:MayR g1 x1 y1 = false) :
  Calls Tryz.prog 18 #[ratV g1 a1 n1 c1 b1 m1 d1,.int .i64 k] w fun e w' => ResR w w' false [] [] 40 e:=by
 have bx:=Box.made w g1 a1 n1 c1 b1 m1 d1
 obtain ⟨wa,hwa⟩:∃ wa,ratBox w g1 a1 n1 c1 b1 m1 d1 = wa:=⟨_,rfl⟩
 rw [hwa] at bx
 unfold ratBox at hwa
 have hba:=bx.bel
 obtain ⟨wo,hwo⟩:∃ x,wa.alloc (.cells #[.bool false,.slice none 0 0,.slice none 0 0] 25) = x:=⟨_,rfl⟩
 have hbo:Below wa.heap.size wa wo:=by rw [← hwo]; exact bAl
 have hO:Out wo wa.heap.size:=by rw [← hwo]; exact Out.made wa
 have bx2:=bx.keep hbo
 have hB:=hba.trans (hbo.mono hba.size)
 have hRw:w.heap.size ≤ wa.heap.size:=hba.size
 have hne1:w.heap.size ≠ wa.heap.size:=by have:=bx.lt; omega
 have hne3:wa.heap.size ≠ w.heap.size:=by have:=bx.lt; omega
 have p0:=bx2.d0
 have p1:=bx2.d1
 have p2:=bx2.d2
 have HRw:=Hd hRw
 have HO:=Hd hO
 have HBo:=Hd hB
 have K1:=wmay_any g1 a1 b1 n1 c1 m1 d1 x1 y1 wo (hx1.below hB) (hy1.below hB) ox1 oy1
 rw [hm] at K1
 have HK1:=Hd K1
 clear K1 hx1 hy1 bx bx2 hba hbo hB hO hm
 unfold ratV at HK1 ⊢
 go_enter Tryz.func18,Tryz.ntmps18
 go_wp2_with fail
 refine (Uh HK1).mono ?_
 rintro _ w3 ⟨rfl,b3⟩
 have HO3:=Hd ((Uh HO).keep b3)
 have HB3:=Hd ((Uh HBo).trans (b3.mono (Uh HBo).size))
 have f0:=(ck b3 p0)
 have f1:=(ck b3 p1)
 have f2:=(ck b3 p2)
 clear b3 HK1 HO HBo p0 p1 p2
 have hO3:=Uh HO3
 obtain ⟨x0,q0⟩:=hO3.cells 0 (by decide)
 obtain ⟨x1',q1⟩:=hO3.cells 1 (by decide)
 obtain ⟨x2',q2⟩:=hO3.cells 2 (by decide)
 have r0:=hO3.fz 0 (by decide)
 have r1:=hO3.fz 1 (by decide)
 have r2:=hO3.fz 2 (by decide)
 have H4:=Hd (three_set w3 wa.heap.size (.bool false) (.slice none 0 0) (.slice none 0 0) hO3.cells)
 clear hO3
 go_wp2_with fail
 obtain ⟨y0,y1',y2',c4⟩:=Uh H4
 generalize ((w3.setCell ⟨wa.heap.size,0,none⟩ (.bool false)).setCell ⟨wa.heap.size,1,none⟩ (.slice none 0 0)).setCell ⟨wa.heap.size,2,none⟩ (.slice none 0 0) = wf at *
 refine bodyPost_ret (by simp [results,Tryz.results18,go_sem,y0,y1',y2']; try rfl) rfl ?_
 exact ⟨_,rfl,newR_of (Uh HRw) (Uh HO3).lt (Uh HB3) (sl_nil _) (newAt_nil _) (sl_nil _) (newAt_nil _) c4 false⟩

set_option maxRecDepth 100000 in
set_option maxHeartbeats 16000000 in
theorem wpow_low (g1:Bool) (a1 b1:Option Addr) (n1 c1 m1 d1:Nat) (x1 y1:List Nat) (w:World) (hx1:Sl w a1 n1 c1 x1) (hy1:Sl w b1 m1 d1 y1) (ox1:Ok x1) (oy1:Ok y1) (k:Int) (hm:MayR g1 x1 y1 = true) (hk:k < -1024) :
  Calls Tryz.prog 18 #[ratV g1 a1 n1 c1 b1 m1 d1,.int .i64 k] w fun e w' => ResR w w' false [] [] 1 e:=by
 have bx:=Box.made w g1 a1 n1 c1 b1 m1 d1
 obtain ⟨wa,hwa⟩:∃ wa,ratBox w g1 a1 n1 c1 b1 m1 d1 = wa:=⟨_,rfl⟩
 rw [hwa] at bx
 unfold ratBox at hwa
 have hba:=bx.bel
 obtain ⟨wo,hwo⟩:∃ x,wa.alloc (.cells #[.bool false,.slice none 0 0,.slice none 0 0] 25) = x:=⟨_,rfl⟩
 have hbo:Below wa.heap.size wa wo:=by rw [← hwo]; exact bAl
 have hO:Out wo wa.heap.size:=by rw [← hwo]; exact Out.made wa
 have bx2:=bx.keep hbo
 have hB:=hba.trans (hbo.mono hba.size)
 have hRw:w.heap.size ≤ wa.heap.size:=hba.size
 have hne1:w.heap.size ≠ wa.heap.size:=by have:=bx.lt; omega
 have hne3:wa.heap.size ≠ w.heap.size:=by have:=bx.lt; omega
 have p0:=bx2.d0
 have p1:=bx2.d1
 have p2:=bx2.d2
 have HRw:=Hd hRw
 have HO:=Hd hO
 have HBo:=Hd hB
 have K1:=wmay_any g1 a1 b1 n1 c1 m1 d1 x1 y1 wo (hx1.below hB) (hy1.below hB) ox1 oy1
 rw [hm] at K1
 have HK1:=Hd K1
 clear K1 hx1 hy1 bx bx2 hba hbo hB hO hm
 unfold ratV at HK1 ⊢
 go_enter Tryz.func18,Tryz.ntmps18
 go_wp2_with fail
 refine (Uh HK1).mono ?_
 rintro _ w3 ⟨rfl,b3⟩
 have HO3:=Hd ((Uh HO).keep b3)
 have HB3:=Hd ((Uh HBo).trans (b3.mono (Uh HBo).size))
 have f0:=(ck b3 p0)
 have f1:=(ck b3 p1)
 have f2:=(ck b3 p2)
 clear b3 HK1 HO HBo p0 p1 p2
 have hO3:=Uh HO3
 obtain ⟨x0,q0⟩:=hO3.cells 0 (by decide)
 obtain ⟨x1',q1⟩:=hO3.cells 1 (by decide)
 obtain ⟨x2',q2⟩:=hO3.cells 2 (by decide)
 have r0:=hO3.fz 0 (by decide)
 have r1:=hO3.fz 1 (by decide)
 have r2:=hO3.fz 2 (by decide)
 have H4:=Hd (three_set w3 wa.heap.size (.bool false) (.slice none 0 0) (.slice none 0 0) hO3.cells)
 clear hO3
 go_wp2_with fail
 obtain ⟨y0,y1',y2',c4⟩:=Uh H4
 generalize ((w3.setCell ⟨wa.heap.size,0,none⟩ (.bool false)).setCell ⟨wa.heap.size,1,none⟩ (.slice none 0 0)).setCell ⟨wa.heap.size,2,none⟩ (.slice none 0 0) = wf at *
 refine bodyPost_ret (by simp [results,Tryz.results18,go_sem,y0,y1',y2']; try rfl) rfl ?_
 exact ⟨_,rfl,newR_of (Uh HRw) (Uh HO3).lt (Uh HB3) (sl_nil _) (newAt_nil _) (sl_nil _) (newAt_nil _) c4 false⟩

set_option maxRecDepth 100000 in
set_option maxHeartbeats 16000000 in
theorem wpow_high (g1:Bool) (a1 b1:Option Addr) (n1 c1 m1 d1:Nat) (x1 y1:List Nat) (w:World) (hx1:Sl w a1 n1 c1 x1) (hy1:Sl w b1 m1 d1 y1) (ox1:Ok x1) (oy1:Ok y1) (k:Int) (hm:MayR g1 x1 y1 = true) (hk2:¬ k < -1024) (hk:1024 < k) :
  Calls Tryz.prog 18 #[ratV g1 a1 n1 c1 b1 m1 d1,.int .i64 k] w fun e w' => ResR w w' false [] [] 1 e:=by
 have bx:=Box.made w g1 a1 n1 c1 b1 m1 d1
 obtain ⟨wa,hwa⟩:∃ wa,ratBox w g1 a1 n1 c1 b1 m1 d1 = wa:=⟨_,rfl⟩
 rw [hwa] at bx
 unfold ratBox at hwa
 have hba:=bx.bel
 obtain ⟨wo,hwo⟩:∃ x,wa.alloc (.cells #[.bool false,.slice none 0 0,.slice none 0 0] 25) = x:=⟨_,rfl⟩
 have hbo:Below wa.heap.size wa wo:=by rw [← hwo]; exact bAl
 have hO:Out wo wa.heap.size:=by rw [← hwo]; exact Out.made wa
 have bx2:=bx.keep hbo
 have hB:=hba.trans (hbo.mono hba.size)
 have hRw:w.heap.size ≤ wa.heap.size:=hba.size
 have hne1:w.heap.size ≠ wa.heap.size:=by have:=bx.lt; omega
 have hne3:wa.heap.size ≠ w.heap.size:=by have:=bx.lt; omega
 have p0:=bx2.d0
 have p1:=bx2.d1
 have p2:=bx2.d2
 have HRw:=Hd hRw
 have HO:=Hd hO
 have HBo:=Hd hB
 have K1:=wmay_any g1 a1 b1 n1 c1 m1 d1 x1 y1 wo (hx1.below hB) (hy1.below hB) ox1 oy1
 rw [hm] at K1
 have HK1:=Hd K1
 clear K1 hx1 hy1 bx bx2 hba hbo hB hO hm
 unfold ratV at HK1 ⊢
 go_enter Tryz.func18,Tryz.ntmps18
 go_wp2_with fail
 refine (Uh HK1).mono ?_
 rintro _ w3 ⟨rfl,b3⟩
 have HO3:=Hd ((Uh HO).keep b3)
 have HB3:=Hd ((Uh HBo).trans (b3.mono (Uh HBo).size))
 have f0:=(ck b3 p0)
 have f1:=(ck b3 p1)
 have f2:=(ck b3 p2)
 clear b3 HK1 HO HBo p0 p1 p2
 have hO3:=Uh HO3
 obtain ⟨x0,q0⟩:=hO3.cells 0 (by decide)
 obtain ⟨x1',q1⟩:=hO3.cells 1 (by decide)
 obtain ⟨x2',q2⟩:=hO3.cells 2 (by decide)
 have r0:=hO3.fz 0 (by decide)
 have r1:=hO3.fz 1 (by decide)
 have r2:=hO3.fz 2 (by decide)
 have H4:=Hd (three_set w3 wa.heap.size (.bool false) (.slice none 0 0) (.slice none 0 0) hO3.cells)
 clear hO3
 go_wp2_with fail
 obtain ⟨y0,y1',y2',c4⟩:=Uh H4
 generalize ((w3.setCell ⟨wa.heap.size,0,none⟩ (.bool false)).setCell ⟨wa.heap.size,1,none⟩ (.slice none 0 0)).setCell ⟨wa.heap.size,2,none⟩ (.slice none 0 0) = wf at *
 refine bodyPost_ret (by simp [results,Tryz.results18,go_sem,y0,y1',y2']; try rfl) rfl ?_
 exact ⟨_,rfl,newR_of (Uh HRw) (Uh HO3).lt (Uh HB3) (sl_nil _) (newAt_nil _) (sl_nil _) (newAt_nil _) c4 false⟩

set_option maxRecDepth 100000 in
set_option maxHeartbeats 16000000 in
theorem wpow_zero (g1:Bool) (a1 b1:Option Addr) (n1 c1 m1 d1:Nat) (x1 y1:List Nat) (w:World) (hx1:Sl w a1 n1 c1 x1) (hy1:Sl w b1 m1 d1 y1) (ox1:Ok x1) (oy1:Ok y1) (k:Int) (hm:MayR g1 x1 y1 = true) (hk1:¬ k < -1024) (hk2:¬ 1024 < k) (hk3:k < 0) (hz:n1 = 0) :
  Calls Tryz.prog 18 #[ratV g1 a1 n1 c1 b1 m1 d1,.int .i64 k] w fun e w' => ResR w w' false [] [] 3 e:=by
 have bx:=Box.made w g1 a1 n1 c1 b1 m1 d1
 obtain ⟨wa,hwa⟩:∃ wa,ratBox w g1 a1 n1 c1 b1 m1 d1 = wa:=⟨_,rfl⟩
 rw [hwa] at bx
 unfold ratBox at hwa
 have hba:=bx.bel
 obtain ⟨wo,hwo⟩:∃ x,wa.alloc (.cells #[.bool false,.slice none 0 0,.slice none 0 0] 25) = x:=⟨_,rfl⟩
 have hbo:Below wa.heap.size wa wo:=by rw [← hwo]; exact bAl
 have hO:Out wo wa.heap.size:=by rw [← hwo]; exact Out.made wa
 have bx2:=bx.keep hbo
 have hB:=hba.trans (hbo.mono hba.size)
 have hRw:w.heap.size ≤ wa.heap.size:=hba.size
 have hne1:w.heap.size ≠ wa.heap.size:=by have:=bx.lt; omega
 have hne3:wa.heap.size ≠ w.heap.size:=by have:=bx.lt; omega
 have p0:=bx2.d0
 have p1:=bx2.d1
 have p2:=bx2.d2
 have HRw:=Hd hRw
 have HO:=Hd hO
 have HBo:=Hd hB
 have K1:=wmay_any g1 a1 b1 n1 c1 m1 d1 x1 y1 wo (hx1.below hB) (hy1.below hB) ox1 oy1
 rw [hm] at K1
 have HK1:=Hd K1
 subst hz
 clear K1 hx1 hy1 bx bx2 hba hbo hB hO hm
 unfold ratV at HK1 ⊢
 go_enter Tryz.func18,Tryz.ntmps18
 go_wp2_with fail
 refine (Uh HK1).mono ?_
 rintro _ w3 ⟨rfl,b3⟩
 have HO3:=Hd ((Uh HO).keep b3)
 have HB3:=Hd ((Uh HBo).trans (b3.mono (Uh HBo).size))
 have f0:=(ck b3 p0)
 have f1:=(ck b3 p1)
 have f2:=(ck b3 p2)
 clear b3 HK1 HO HBo p0 p1 p2
 have hO3:=Uh HO3
 obtain ⟨x0,q0⟩:=hO3.cells 0 (by decide)
 obtain ⟨x1',q1⟩:=hO3.cells 1 (by decide)
 obtain ⟨x2',q2⟩:=hO3.cells 2 (by decide)
 have r0:=hO3.fz 0 (by decide)
 have r1:=hO3.fz 1 (by decide)
 have r2:=hO3.fz 2 (by decide)
 have H4:=Hd (three_set w3 wa.heap.size (.bool false) (.slice none 0 0) (.slice none 0 0) hO3.cells)
 clear hO3
 go_wp2_with fail
 obtain ⟨y0,y1',y2',c4⟩:=Uh H4
 generalize ((w3.setCell ⟨wa.heap.size,0,none⟩ (.bool false)).setCell ⟨wa.heap.size,1,none⟩ (.slice none 0 0)).setCell ⟨wa.heap.size,2,none⟩ (.slice none 0 0) = wf at *
 refine bodyPost_ret (by simp [results,Tryz.results18,go_sem,y0,y1',y2']; try rfl) rfl ?_
 exact ⟨_,rfl,newR_of (Uh HRw) (Uh HO3).lt (Uh HB3) (sl_nil _) (newAt_nil _) (sl_nil _) (newAt_nil _) c4 false⟩
end Go.Proofs.YthmcfpeobkgihaaGreatDoor
