/- Cg4 -/
import Derived.Test.YtjdljjkmhdgghaaCg3
namespace Go.Proofs.Ytjdljjkmhdgghaa
open Go.RowKit Go.Deep
set_option linter.unusedVariables false
def subV (a:Option Addr) (c X Y:Nat):Value:=.slice (if c = X then a else Option.map (fun x => x.add X) a) (Y - X) (c - X)
set_option maxRecDepth 100000 in
set_option maxHeartbeats 16000000 in
theorem crow_any (R:Nat) (width:Int) (a1 a2:Option Addr) (n1 c1 n2 c2:Nat) (st cols:List Int) (r X Y:Nat) (w:World) (h1:SlI w a1 n1 c1 st) (h2:SlI w a2 n2 c2 cols) (hb1:n1 ≤ 17592186044416) (hb2:n2 ≤ 17592186044416) (hm:MayP (R:Int) width st cols) (hr:r < R) (hR:RowAt st cols width r X Y) :
  Calls Try.prog 37 #[patV (R:Int) width a1 n1 c1 a2 n2 c2,.int .i64 (r:Int)] w fun e w' => e = .returned (subV a2 c2 X Y) ∧ Below w.heap.size w w':=by
 obtain ⟨wb,hwb⟩:∃ x,w.alloc (.cells #[.int .i64 (R:Int),.int .i64 width,.slice a1 n1 c1,.slice a2 n2 c2] 24) = x:=⟨_,rfl⟩
 have bb:Below w.heap.size w wb:=by rw [← hwb]; exact bAl
 have hT:=BoxP.made w #[.int .i64 (R:Int),.int .i64 width,.slice a1 n1 c1,.slice a2 n2 c2] 24
 rw [hwb] at hT
 have p0:=(hT.all 0 _ rfl).1
 have p1:=(hT.all 1 _ rfl).1
 have p2:=(hT.all 2 _ rfl).1
 have p3:=(hT.all 3 _ rfl).1
 have hln:=h1.len
 have hlc:=h2.len
 have hl2:=hm.head.len
 have hnc:=h2.le
 have hfit:=hm.head.fit
 obtain ⟨b1,o1,rfl,hc1⟩:=(h1.below bb).at (by omega)
 have sk:=hc1 r (by omega)
 have sk1:=hc1 (r + 1) (by omega)
 rw [hR.hX] at sk
 rw [hR.hY] at sk1
 have hXY:=hR.le
 have hYn:=hR.lt
 have hn1:n1 = R + 1:=by omega
 subst hn1
 have tr:(r:Int) < (R:Int) + 1:=by omega
 have tr1:(r:Int) + 1 < (R:Int) + 1:=by omega
 have tXY:(X:Int) ≤ (Y:Int):=by omega
 have tYc:(Y:Int) ≤ (c2:Int):=by omega
 have hr8:r < 128:=by omega
 have HB:=Hj bb
 clear hT bb hc1 hm hR h1 h2 hln hlc hl2 hfit
 unfold patV
 go_enter Try.func37,Try.ntmps37
 go_wp2_with fail
 try go_quiet (fail)
 all_goals (try go_wp2_with fail)
 all_goals (try go_ret)
 all_goals exact ⟨by simp_all [subV],by first | exact Uh HB | exact bel_drewN (Uh HB) _⟩
end Go.Proofs.Ytjdljjkmhdgghaa
