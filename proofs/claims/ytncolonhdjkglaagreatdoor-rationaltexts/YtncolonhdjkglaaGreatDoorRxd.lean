/- Rxd -/
import Derived.Test.YtncolonhdjkglaaGreatDoorRxb
import Derived.Test.YtncolonhdjkglaaGreatDoorRxc
namespace Go.Proofs.YtncolonhdjkglaaGreatDoor
open Go.RowKit Go.Deep
set_option linter.unusedVariables false
set_option maxRecDepth 100000 in
set_option maxHeartbeats 8000000 in
theorem wdec_bad (g:Bool) (a b:Option Addr) (n c m d:Nat) (x y:List Nat) (pl:Int) (w:World) (hx:Sl w a n c x) (hy:Sl w b m d y) (ox:Ok x) (oy:Ok y) (hm:MayR g x y = false) :
  Calls Tryz.prog 11 #[ratV g a n c b m d,.int .i64 pl] w fun e w' => DcPost g x y pl w e w':=by
 have bx:=Box.made w g a n c b m d
 obtain ⟨wa,hwa⟩:∃ wa,ratBox w g a n c b m d = wa:=⟨_,rfl⟩
 rw [hwa] at bx
 have hba:Below w.heap.size w wa:=by rw [← hwa]; exact bAl
 unfold ratBox at hwa
 have p0:=bx.d0
 have p1:=bx.d1
 have p2:=bx.d2
 have KM:=wmay_any g a b n c m d x y wa (hx.below hba) (hy.below hba) ox oy
 rw [hm] at KM
 unfold ratV at KM ⊢
 have HKM:=Hd KM
 have HBa:=Hd hba
 have HR:=Hd (show DcR g x y pl _ _ from DcR.bad hm)
 clear KM hx hy bx hba hm
 go_enter Tryz.func11,Tryz.ntmps11
 go_wp2_with fail
 refine (Uh HKM).mono ?_
 rintro _ wb ⟨rfl,hbb⟩
 have HB:=Hd ((Uh HBa).trans (hbb.mono (Uh HBa).size))
 clear hbb HKM
 go_wp2_with fail
 go_ret2
 exact ⟨_,_,rfl,Uh HR,Uh HB⟩
set_option maxRecDepth 100000 in
set_option maxHeartbeats 8000000 in
theorem wdec_neg (g:Bool) (a b:Option Addr) (n c m d:Nat) (x y:List Nat) (pl:Int) (w:World) (hx:Sl w a n c x) (hy:Sl w b m d y) (ox:Ok x) (oy:Ok y) (hm:MayR g x y = true) (hp:pl < 0) :
  Calls Tryz.prog 11 #[ratV g a n c b m d,.int .i64 pl] w fun e w' => DcPost g x y pl w e w':=by
 have bx:=Box.made w g a n c b m d
 obtain ⟨wa,hwa⟩:∃ wa,ratBox w g a n c b m d = wa:=⟨_,rfl⟩
 rw [hwa] at bx
 have hba:Below w.heap.size w wa:=by rw [← hwa]; exact bAl
 unfold ratBox at hwa
 have p0:=bx.d0
 have p1:=bx.d1
 have p2:=bx.d2
 have KM:=wmay_any g a b n c m d x y wa (hx.below hba) (hy.below hba) ox oy
 rw [hm] at KM
 unfold ratV at KM ⊢
 have HKM:=Hd KM
 have HBa:=Hd hba
 have HR:=Hd (show DcR g x y pl _ _ from DcR.arg hm (.inl hp))
 have t1:decide (pl < 0) = true:=decide_eq_true hp
 clear KM hx hy bx hba hm
 go_enter Tryz.func11,Tryz.ntmps11
 go_wp2_with fail
 refine (Uh HKM).mono ?_
 rintro _ wb ⟨rfl,hbb⟩
 have HB:=Hd ((Uh HBa).trans (hbb.mono (Uh HBa).size))
 clear hbb HKM
 go_wp2_with fail
 go_ret2
 exact ⟨_,_,rfl,Uh HR,Uh HB⟩
set_option maxRecDepth 100000 in
set_option maxHeartbeats 8000000 in
theorem wdec_big (g:Bool) (a b:Option Addr) (n c m d:Nat) (x y:List Nat) (pl:Int) (w:World) (hx:Sl w a n c x) (hy:Sl w b m d y) (ox:Ok x) (oy:Ok y) (hm:MayR g x y = true) (hp:1000 < pl) :
  Calls Tryz.prog 11 #[ratV g a n c b m d,.int .i64 pl] w fun e w' => DcPost g x y pl w e w':=by
 have bx:=Box.made w g a n c b m d
 obtain ⟨wa,hwa⟩:∃ wa,ratBox w g a n c b m d = wa:=⟨_,rfl⟩
 rw [hwa] at bx
 have hba:Below w.heap.size w wa:=by rw [← hwa]; exact bAl
 unfold ratBox at hwa
 have p0:=bx.d0
 have p1:=bx.d1
 have p2:=bx.d2
 have KM:=wmay_any g a b n c m d x y wa (hx.below hba) (hy.below hba) ox oy
 rw [hm] at KM
 unfold ratV at KM ⊢
 have HKM:=Hd KM
 have HBa:=Hd hba
 have HR:=Hd (show DcR g x y pl _ _ from DcR.arg hm (.inr hp))
 have t1:¬ pl < 0:=by omega
 have t2:decide (pl < 0) = false:=decide_eq_false t1
 have t3:decide (1000 < pl) = true:=decide_eq_true hp
 clear KM hx hy bx hba hm
 go_enter Tryz.func11,Tryz.ntmps11
 go_wp2_with fail
 refine (Uh HKM).mono ?_
 rintro _ wb ⟨rfl,hbb⟩
 have HB:=Hd ((Uh HBa).trans (hbb.mono (Uh HBa).size))
 clear hbb HKM
 go_wp2_with fail
 go_ret2
 exact ⟨_,_,rfl,Uh HR,Uh HB⟩
theorem wdec_any (g:Bool) (a b:Option Addr) (n c m d:Nat) (x y:List Nat) (pl:Int) (w:World) (hx:Sl w a n c x) (hy:Sl w b m d y) (ox:Ok x) (oy:Ok y) (nx:a = none → c = 0) :
  Calls Tryz.prog 11 #[ratV g a n c b m d,.int .i64 pl] w fun e w' => DcPost g x y pl w e w':=by
 cases hm:MayR g x y
 ·exact wdec_bad g a b n c m d x y pl w hx hy ox oy hm
 ·by_cases h1:pl < 0
  ·exact wdec_neg g a b n c m d x y pl w hx hy ox oy hm h1
  ·by_cases h2:1000 < pl
   ·exact wdec_big g a b n c m d x y pl w hx hy ox oy hm h2
   ·obtain ⟨k,rfl⟩:∃ k:Nat,pl = (k:Int):=⟨pl.toNat,by omega⟩
    have hk:k ≤ 1000:=by omega
    by_cases hz:k = 0
    ·cases g
     ·exact wdec_zF a b n c m d x y k w hx hy ox oy nx hm hk hz
     ·by_cases h0:rdQ (val x * 10 ^ k) (val y) = 0
      ·exact wdec_zZ a b n c m d x y k w hx hy ox oy nx hm hk hz h0
      ·exact wdec_zP a b n c m d x y k w hx hy ox oy nx hm hk hz h0
    ·cases g
     ·exact wdec_nF a b n c m d x y k w hx hy ox oy nx hm hk hz
     ·by_cases h0:rdQ (val x * 10 ^ k) (val y) = 0
      ·exact wdec_nZ a b n c m d x y k w hx hy ox oy nx hm hk hz h0
      ·exact wdec_nP a b n c m d x y k w hx hy ox oy nx hm hk hz h0
set_option maxRecDepth 100000 in
set_option maxHeartbeats 8000000 in
theorem rdec_bad (g:Bool) (a b:Option Addr) (n c m d:Nat) (x y:List Nat) (pl:Int) (w:World) (hx:Sl w a n c x) (hy:Sl w b m d y) (ox:Ok x) (oy:Ok y) (hT:Tab64 w) (hm:MayR g x y = false) :
  Calls Tryz.prog 10 #[ratV g a n c b m d,.int .i64 pl] w fun e w' => DcPost g x y pl w e w':=by
 have bx:=Box.made w g a n c b m d
 obtain ⟨wa,hwa⟩:∃ wa,ratBox w g a n c b m d = wa:=⟨_,rfl⟩
 rw [hwa] at bx
 have hba:Below w.heap.size w wa:=by rw [← hwa]; exact bAl
 unfold ratBox at hwa
 have p0:=bx.d0
 have p1:=bx.d1
 have p2:=bx.d2
 have KM:=ratMay_any g a b n c m d x y wa (hx.below hba) (hy.below hba) ox oy (hT.below hba)
 rw [hm] at KM
 unfold ratV at KM ⊢
 have HKM:=Hd KM
 have HBa:=Hd hba
 have HR:=Hd (show DcR g x y pl _ _ from DcR.bad hm)
 clear KM hx hy bx hba hm hT
 go_enter Tryz.func10,Tryz.ntmps10
 go_wp2_with fail
 refine (Uh HKM).mono ?_
 rintro _ wb ⟨rfl,hbb⟩
 have HB:=Hd ((Uh HBa).trans (hbb.mono (Uh HBa).size))
 clear hbb HKM
 go_wp2_with fail
 go_ret2
 exact ⟨_,_,rfl,Uh HR,Uh HB⟩
set_option maxRecDepth 100000 in
set_option maxHeartbeats 8000000 in
theorem rdec_neg (g:Bool) (a b:Option Addr) (n c m d:Nat) (x y:List Nat) (pl:Int) (w:World) (hx:Sl w a n c x) (hy:Sl w b m d y) (ox:Ok x) (oy:Ok y) (hT:Tab64 w) (hm:MayR g x y = true) (hp:pl < 0) :
  Calls Tryz.prog 10 #[ratV g a n c b m d,.int .i64 pl] w fun e w' => DcPost g x y pl w e w':=by
 have bx:=Box.made w g a n c b m d
 obtain ⟨wa,hwa⟩:∃ wa,ratBox w g a n c b m d = wa:=⟨_,rfl⟩
 rw [hwa] at bx
 have hba:Below w.heap.size w wa:=by rw [← hwa]; exact bAl
 unfold ratBox at hwa
 have p0:=bx.d0
 have p1:=bx.d1
 have p2:=bx.d2
 have KM:=ratMay_any g a b n c m d x y wa (hx.below hba) (hy.below hba) ox oy (hT.below hba)
 rw [hm] at KM
 unfold ratV at KM ⊢
 have HKM:=Hd KM
 have HBa:=Hd hba
 have HR:=Hd (show DcR g x y pl _ _ from DcR.arg hm (.inl hp))
 have t1:decide (pl < 0) = true:=decide_eq_true hp
 clear KM hx hy bx hba hm hT
 go_enter Tryz.func10,Tryz.ntmps10
 go_wp2_with fail
 refine (Uh HKM).mono ?_
 rintro _ wb ⟨rfl,hbb⟩
 have HB:=Hd ((Uh HBa).trans (hbb.mono (Uh HBa).size))
 clear hbb HKM
 go_wp2_with fail
 go_ret2
 exact ⟨_,_,rfl,Uh HR,Uh HB⟩
set_option maxRecDepth 100000 in
set_option maxHeartbeats 8000000 in
theorem rdec_big (g:Bool) (a b:Option Addr) (n c m d:Nat) (x y:List Nat) (pl:Int) (w:World) (hx:Sl w a n c x) (hy:Sl w b m d y) (ox:Ok x) (oy:Ok y) (hT:Tab64 w) (hm:MayR g x y = true) (hp:1000 < pl) :
  Calls Tryz.prog 10 #[ratV g a n c b m d,.int .i64 pl] w fun e w' => DcPost g x y pl w e w':=by
 have bx:=Box.made w g a n c b m d
 obtain ⟨wa,hwa⟩:∃ wa,ratBox w g a n c b m d = wa:=⟨_,rfl⟩
 rw [hwa] at bx
 have hba:Below w.heap.size w wa:=by rw [← hwa]; exact bAl
 unfold ratBox at hwa
 have p0:=bx.d0
 have p1:=bx.d1
 have p2:=bx.d2
 have KM:=ratMay_any g a b n c m d x y wa (hx.below hba) (hy.below hba) ox oy (hT.below hba)
 rw [hm] at KM
 unfold ratV at KM ⊢
 have HKM:=Hd KM
 have HBa:=Hd hba
 have HR:=Hd (show DcR g x y pl _ _ from DcR.arg hm (.inr hp))
 have t1:¬ pl < 0:=by omega
 have t2:decide (pl < 0) = false:=decide_eq_false t1
 have t3:decide (1000 < pl) = true:=decide_eq_true hp
 clear KM hx hy bx hba hm hT
 go_enter Tryz.func10,Tryz.ntmps10
 go_wp2_with fail
 refine (Uh HKM).mono ?_
 rintro _ wb ⟨rfl,hbb⟩
 have HB:=Hd ((Uh HBa).trans (hbb.mono (Uh HBa).size))
 clear hbb HKM
 go_wp2_with fail
 go_ret2
 exact ⟨_,_,rfl,Uh HR,Uh HB⟩
theorem rdec_any (g:Bool) (a b:Option Addr) (n c m d:Nat) (x y:List Nat) (pl:Int) (w:World) (hx:Sl w a n c x) (hy:Sl w b m d y) (ox:Ok x) (oy:Ok y) (hT:Tab64 w) (hR:Rep0) :
  Calls Tryz.prog 10 #[ratV g a n c b m d,.int .i64 pl] w fun e w' => DcPost g x y pl w e w':=by
 cases hm:MayR g x y
 ·exact rdec_bad g a b n c m d x y pl w hx hy ox oy hT hm
 ·by_cases h1:pl < 0
  ·exact rdec_neg g a b n c m d x y pl w hx hy ox oy hT hm h1
  ·by_cases h2:1000 < pl
   ·exact rdec_big g a b n c m d x y pl w hx hy ox oy hT hm h2
   ·obtain ⟨k,rfl⟩:∃ k:Nat,pl = (k:Int):=⟨pl.toNat,by omega⟩
    have hk:k ≤ 1000:=by omega
    by_cases hz:k = 0
    ·cases g
     ·exact rdec_zF a b n c m d x y k w hx hy ox oy hm hk hz hT
     ·by_cases h0:rdQ (val x * 10 ^ k) (val y) = 0
      ·exact rdec_zZ a b n c m d x y k w hx hy ox oy hm hk hz hT h0
      ·exact rdec_zP a b n c m d x y k w hx hy ox oy hm hk hz hT h0
    ·cases g
     ·exact rdec_nF a b n c m d x y k w hx hy ox oy hm hk hz hT hR
     ·by_cases h0:rdQ (val x * 10 ^ k) (val y) = 0
      ·exact rdec_nZ a b n c m d x y k w hx hy ox oy hm hk hz hT h0 hR
      ·exact rdec_nP a b n c m d x y k w hx hy ox oy hm hk hz hT h0 hR
end Go.Proofs.YtncolonhdjkglaaGreatDoor
