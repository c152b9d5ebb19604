/- KarH -/
import Derived.Test.YtcajmdfcanopnaaDoorKarS
import Derived.Test.YtcajmdfcanopnaaDoorNMul
import Derived.Test.YtcajmdfcanopnaaDoorCmp
namespace Go.Proofs.YtcajmdfcanopnaaDoor
open Go.RowKit Go.Deep
set_option linter.unusedVariables false

theorem MulPre.some {w:World} {bz oz nz cz:Nat} {a1:Option Addr} {n1 c1:Nat} {xs:List Nat} {a2:Option Addr} {n2 c2:Nat} {ys:List Nat} (h:MulPre w bz oz nz cz a1 n1 c1 xs a2 n2 c2 ys) (h1:0 < n1) (h2:0 < n2):∃ b1 o1 b2 o2,a1 = some ⟨b1,o1,none⟩ ∧ a2 = some ⟨b2,o2,none⟩:=by
 have l1:=h.h1.len
 have l2:=h.h2.len
 rcases h.h1.cells with e | ⟨b1,o1,e1,_⟩
 ·subst e; simp at l1; omega
 ·rcases h.h2.cells with e | ⟨b2,o2,e2,_⟩
  ·subst e; simp at l2; omega
  ·exact ⟨b1,o1,b2,o2,e1,e2⟩

structure SlL (w:World) (a:Option Addr) (n c:Nat) (ps:List Pc):Prop where
 len:ps.length = n
 le:n ≤ c
 cells:ps = [] ∨ ∃ b off,a = some ⟨b,off,none⟩ ∧ ∀ i p,ps[i]? = some p → w.cell? ⟨b,off + i,none⟩ = some (.slice p.a p.n p.c)
 each:∀ p ∈ ps,Sl w p.a p.n p.c p.xs ∧ Ok p.xs

theorem SlL.below {w w':World} {a:Option Addr} {n c:Nat} {ps:List Pc} (h:SlL w a n c ps) (k:Below w.heap.size w w'):SlL w' a n c ps:=by
 refine ⟨h.len,h.le,?_,fun p hp => ⟨(h.each p hp).1.below k,(h.each p hp).2⟩⟩
 rcases h.cells with e | ⟨b,off,e,hc⟩
 ·exact .inl e
 ·refine .inr ⟨b,off,e,fun i p hp => ?_⟩
  have h1:=hc i p hp
  have hb:=World.block_lt_of_cell? _ _ h1
  have:w'.cell? ⟨b,off + i,none⟩ = w.cell? ⟨b,off + i,none⟩:=by unfold World.cell?; simp only; rw [k.block b hb]
  rw [this]; exact h1

theorem SlL.at' {w:World} {a:Option Addr} {n c:Nat} {ps:List Pc} (h:SlL w a n c ps) {i:Nat} (hi:i < n) :
  ∃ b off p,a = some ⟨b,off,none⟩ ∧ ps[i]? = some p ∧ w.cell? ⟨b,off + i,none⟩ = some (.slice p.a p.n p.c) ∧ Sl w p.a p.n p.c p.xs ∧ Ok p.xs:=by
 have hl:=h.len
 have hi':i < ps.length:=by omega
 have hp:ps[i]? = some ps[i]:=List.getElem?_eq_getElem hi'
 rcases h.cells with e | ⟨b,off,e,hc⟩
 ·rw [e] at hl; simp at hl; omega
 ·exact ⟨b,off,ps[i],e,hp,hc i _ hp,h.each _ (List.getElem_mem hi')⟩



def sv (x s:Nat):Nat:=x * 2 ^ s
def slo (x s:Nat):Nat:=x * 2 ^ s % 4294967296
def shi (x s:Nat):Nat:=x * 2 ^ s / 4294967296

theorem pow_s {s:Nat} (h:s < 32):1 ≤ 2 ^ s ∧ 2 ^ s ≤ 2147483648:=by
 refine ⟨Nat.pow_pos (by decide),?_⟩
 have:2 ^ s ≤ 2 ^ 31:=Nat.pow_le_pow_right (by decide) (by omega)
 simpa using this

theorem pow_split {s:Nat} (h:s < 32):2 ^ s * 2 ^ (32 - s) = 4294967296:=by
 rw [← Nat.pow_add,show s + (32 - s) = 32 from by omega]

theorem sv_lt {x s:Nat} (hx:x < 4294967296) (h:s < 32):sv x s < 9223372036854775808:=by
 obtain ⟨h1,h2⟩:=pow_s h
 have:x * 2 ^ s ≤ 4294967295 * 2147483648:=Nat.mul_le_mul (by omega) h2
 unfold sv
 omega

theorem sv_int {x s:Nat} (hx:x < 4294967296) (h:s < 32):IntKind.u64.wrap ((x:Int) * 2 ^ s) = ((sv x s:Nat):Int):=by
 have hb:=sv_lt hx h
 have e:(x:Int) * 2 ^ s = ((sv x s:Nat):Int):=by unfold sv; rw [Int.natCast_mul,Int.natCast_pow]; rfl
 rw [e,IntKind.wrap_u64]
 omega

theorem slo_int (x s:Nat):((sv x s:Nat):Int) % 4294967296 = ((slo x s:Nat):Int):=by unfold slo sv; omega
theorem shi_int (x s:Nat):((sv x s:Nat):Int) / 4294967296 = ((shi x s:Nat):Int):=by unfold shi sv; omega
theorem sh_eq (x s:Nat):slo x s + 4294967296 * shi x s = x * 2 ^ s:=by unfold slo shi; exact Nat.mod_add_div _ _
theorem slo_lt (x s:Nat):slo x s < 4294967296:=by unfold slo; exact Nat.mod_lt _ (by decide)
theorem shi_lt {x s:Nat} (hx:x < 4294967296) (h:s < 32):shi x s < 2 ^ s:=by
 unfold shi
 obtain ⟨h1,h2⟩:=pow_s h
 rw [Nat.div_lt_iff_lt_mul (by decide),Nat.mul_comm]
 exact Nat.mul_lt_mul_of_pos_left hx (by omega)

theorem slo_mul {x s:Nat} (h:s < 32):slo x s = 2 ^ s * (x % 2 ^ (32 - s)):=by
 unfold slo
 rw [← pow_split h,Nat.mul_comm x,Nat.mul_mod_mul_left]

theorem or_slo {o x s:Nat} (h:s < 32) (ho:o < 2 ^ s):o ||| slo x s = o + slo x s:=by
 rw [slo_mul h]
 have:=Nat.shiftLeft_add_eq_or_of_lt (i:=s) (b:=o) ho (x % 2 ^ (32 - s))
 rw [Nat.shiftLeft_eq,Nat.mul_comm] at this
 rw [Nat.or_comm,← this,Nat.add_comm]

theorem or_slo_lt {o x s:Nat} (h:s < 32) (ho:o < 2 ^ s):o + slo x s < 4294967296:=by
 rw [← or_slo h ho]
 have:(o ||| slo x s) < 2 ^ 32:=Nat.or_lt_two_pow (by have:=(pow_s h).2; omega) (slo_lt x s)
 exact this

def orv (o x s:Nat):Nat:=o + slo x s
theorem or_int {o x s:Nat} (h:s < 32) (ho:o < 2 ^ s):bits .or .u32 (o:Int) ((slo x s:Nat):Int) = ((orv o x s:Nat):Int):=by
 rw [u32_or_nat _ _ (by have:=(pow_s h).2; omega) (slo_lt x s),or_slo h ho]
 rfl

structure ShR (wr w:World) (m l s:Nat) (xs:List Nat) (i:Nat) (g:Nat → Nat):Prop where
 fn:Fn wr w.heap.size 0 m g
 ok:∀ k,k < m → g k < 4294967296
 top:g (l + i) < 2 ^ s
 zero:∀ k,l + i < k → g k = 0
 val:valF g (l + i + 1) = valF (fun k => xs.getD k 0) i * 2 ^ s * 4294967296 ^ l
 bel:Below w.heap.size w wr

theorem ShR.step {wr w:World} {m l s:Nat} {xs:List Nat} {i:Nat} {g:Nat → Nat} (h:ShR wr w m l s xs i g) (hs:s < 32) (hm:l + i + 1 < m) (ox:Ok xs) :
  ShR ((wr.setCell ⟨w.heap.size,l + i,none⟩ (.int .u32 (orv (g (l + i)) (xs.getD i 0) s:Nat))).setCell ⟨w.heap.size,l + i + 1,none⟩ (.int .u32 (shi (xs.getD i 0) s:Nat))) w m l s xs (i + 1)
   (fun k => if k = l + i + 1 then shi (xs.getD i 0) s else if k = l + i then orv (g (l + i)) (xs.getD i 0) s else g k):=by
 have f1:=h.fn.set (l + i) (orv (g (l + i)) (xs.getD i 0) s) (by omega)
 have f2:=f1.set (l + i + 1) (shi (xs.getD i 0) s) hm
 simp only [Nat.zero_add] at f2
 have hh:=shi_lt (ox.getD i) hs
 have hp:=pow_s hs
 refine ⟨f2,?_,?_,?_,?_,(h.bel.setCell (Nat.le_refl _) _).setCell (Nat.le_refl _) _⟩
 ·intro k hk
  by_cases e:k = l + i + 1
  ·simp only [e,if_true]; omega
  ·by_cases e2:k = l + i
   ·simp only [e2,show ¬ l + i = l + i + 1 from by omega,if_true,if_false]; exact or_slo_lt hs h.top
   ·simp only [e,e2,if_false]; exact h.ok k hk
 ·simp only [show l + (i + 1) = l + i + 1 from by omega,if_true]; exact hh
 ·intro k hk
  simp only [show ¬ k = l + i + 1 from by omega,show ¬ k = l + i from by omega,if_false]
  exact h.zero k (by omega)
 ·have e1:l + (i + 1) + 1 = l + i + 1 + 1:=by omega
  rw [e1]
  simp only [valF]
  simp only [if_true,show ¬ l + i = l + i + 1 from by omega,if_false]
  rw [valF_congr (g:=g) (fun k hk => by rw [if_neg (by omega),if_neg (by omega)])]
  have hv:=h.val
  simp only [valF] at hv
  have e:=sh_eq (xs.getD i 0) s
  have e2:orv (g (l + i)) (xs.getD i 0) s = g (l + i) + slo (xs.getD i 0) s:=rfl
  rw [e2,Nat.mul_add,Nat.pow_succ,Nat.add_mul,Nat.add_mul,← hv]
  have e3:4294967296 ^ (l + i) * slo (xs.getD i 0) s + 4294967296 ^ (l + i) * 4294967296 * shi (xs.getD i 0) s = 4294967296 ^ i * xs.getD i 0 * 2 ^ s * 4294967296 ^ l:=by
   rw [Nat.mul_assoc,← Nat.mul_add,e,Nat.pow_add]
   rw [Nat.mul_comm (4294967296 ^ l),Nat.mul_assoc,Nat.mul_comm (4294967296 ^ l),← Nat.mul_assoc,← Nat.mul_assoc]
  generalize 4294967296 ^ (l + i) * slo (xs.getD i 0) s = t1 at *
  generalize 4294967296 ^ (l + i) * 4294967296 * shi (xs.getD i 0) s = t2 at *
  generalize 4294967296 ^ i * xs.getD i 0 * 2 ^ s * 4294967296 ^ l = t3 at *
  generalize 4294967296 ^ (l + i) * g (l + i) = t4 at *
  omega

theorem ShR.begin (w:World) (m l s:Nat) (xs:List Nat) (hs:s < 32):ShR (w.alloc (.cells (madeCells #[.int .u32 0] m) 68)) w m l s xs 0 (fun _ => 0) :=
 ⟨Fn.made w m _,fun _ _ => by decide,(pow_s hs).1,fun _ _ => rfl,by rw [valF_zero]; simp [valF],bAl⟩

theorem sh_total {v k l s:Nat} (hl:k / 32 = l) (hs:k % 32 = s):v * 2 ^ s * 4294967296 ^ l = v * 2 ^ k:=by
 have e:k = s + 32 * l:=by omega
 have p:(4294967296:Nat) ^ l = 2 ^ (32 * l):=by rw [Nat.pow_mul]
 rw [e,Nat.pow_add,p,Nat.mul_assoc]
theorem make_nl (n l:Nat) (h:n + l + 1 ≤ 70368744177600) (w:World):(Instr.makeSlice 54 (.int .i64 ((n:Int) + (l:Int) + 1)) (.int .i64 ((n:Int) + (l:Int) + 1))).run Tryd.prog w = .ok (.slice (some ⟨w.heap.size,0,none⟩) (n + l + 1) (n + l + 1)) (w.alloc (.cells (madeCells #[.int .u32 0] (n + l + 1)) 68)):=by
 have:=make_len (n + l + 1) h w
 rw [show ((n + l + 1:Nat):Int) = (n:Int) + (l:Int) + 1 from by omega] at this
 exact this

set_option maxHeartbeats 2000000 in
theorem shl_some (b off n c:Nat) (xs:List Nat) (w:World) (k l s:Nat) (hl:xs.length = n) (hc:Cells w b off xs) (ox:Ok xs) (hkl:(k:Int) / 32 = (l:Int)) (hks:(k:Int) % 32 = (s:Int)) (hs32:s < 32) (hk0:k ≤ 65536) (hl0:l ≤ 2048) (hn:0 < n) (hn2:n ≤ 2048) :
  Calls Tryd.prog 86 #[.slice (some ⟨b,off,none⟩) n c,.int .i64 (k:Nat)] w fun e w' => NewRep w w' (val xs * 2 ^ k) e:=by
 have hmk:=fun w => make_nl n l (by omega) w
 have hne:((n:Int) == 0) = false:=by simp; omega
 have HL:=Hj hl
 have HT:=Hj (sh_total (v:=val xs) (k:=k) (l:=l) (s:=s) (by omega) (by omega))
 clear hl
 go_enter Tryd.func86,Tryd.ntmps86
 go_wp2_with fail
 rw [hks]
 clear hkl hks hk0
 go_loopw [25] (fun i wr => ∃ j:Nat,∃ g:Nat → Nat,j ≤ n ∧ i = .int .i64 j ∧ ShR wr w (n + l + 1) l s xs j g) (fun i _ => n - (intOf i).toNat)
 case atStart => exact ⟨0,_,Nat.zero_le _,rfl,ShR.begin w (n + l + 1) l s xs hs32⟩
 case round =>
  obtain ⟨j,g,hj,rfl,hR⟩:=hrel
  by_cases hlt:j < n
  ·have hlt':(j:Int) < (n:Int):=by omega
   have hb1:(l:Int) + (j:Int) < (n:Int) + (l:Int) + 1:=by omega
   have hb2:(l:Int) + (j:Int) + 1 < (n:Int) + (l:Int) + 1:=by omega
   have g0:=hc j (by rw [Uh HL]; exact hlt)
   have g1:wr.cell? ⟨b,off + j,none⟩ = _:=(ck hR.bel g0)
   have g2:=hR.fn (l + j) (by omega)
   have g3:=hR.fn (l + j + 1) (by omega)
   simp only [Nat.zero_add] at g2 g3
   have c1:=g2.1
   have c2:=g2.2
   have c3:=g3.1
   have c4:=g3.2
   have bx:=ox.getD j
   have e0:=sv_int (x:=xs.getD j 0) (s:=s) bx hs32
   have e1:=slo_int (xs.getD j 0) s
   have e2:=shi_int (xs.getD j 0) s
   have e3:=or_int (x:=xs.getD j 0) hs32 hR.top
   have b1:=sv_lt (x:=xs.getD j 0) bx hs32
   have b2:shi (xs.getD j 0) s < 4294967296:=by have:=shi_lt (x:=xs.getD j 0) bx hs32; have:=(pow_s hs32).2; omega
   have HS:=Hj (hR.step hs32 (by omega) ox)
   generalize xs.getD j 0 = x at *
   generalize g (l + j) = o at *
   generalize g (l + j + 1) = o2 at *
   clear hR g0 g2 g3
   go_wp2
   exact ⟨⟨j + 1,_,by omega,by go_num,Uh HS⟩,by simp [intOf]; omega⟩
  ·have hjn:j = n:=by omega
   subst hjn
   have hv:valF g (j + l + 1) = val xs * 2 ^ k:=by
    have:=hR.val
    rw [← Uh HL,valF_list,Uh HT,Uh HL,Nat.add_comm l j] at this
    exact this
   have KT:=trim_any _ (j + l + 1) (j + l + 1) _ wr (hR.fn.sl (Nat.le_refl _) (by unfold maxLen; omega)) (lst_ok hR.ok)
   rw [lst_val,hv] at KT
   have KT':=Hj KT
   have HB:=Hj hR.bel
   clear hR KT hv
   go_wp2_with fail
   refine (Uh KT').mono ?_
   rintro e w3 ⟨a',m,zs,rfl,hs,hr,ha,rfl⟩
   go_wp2
   go_ret
   refine ⟨a',m,zs,rfl,hs,hr,?_,Uh HB⟩
   intro x hx
   rcases ha with rfl | rfl
   ·cases hx; exact Nat.le_refl _
   ·cases hx

set_option maxHeartbeats 400000 in
theorem shl_nil (a:Option Addr) (c:Nat) (k:Int) (w:World) :
  Calls Tryd.prog 86 #[.slice a 0 c,.int .i64 k] w fun e w' => e = .returned (.slice none 0 0) ∧ w' = w:=by
 go_enter Tryd.func86,Tryd.ntmps86
 go_wp2
 go_ret
 exact ⟨rfl,rfl⟩

theorem shl_any (a:Option Addr) (n c:Nat) (xs:List Nat) (w:World) (k:Nat) (h:Sl w a n c xs) (ox:Ok xs) (hn:n ≤ 2048) (hk:k ≤ 65536) :
  Calls Tryd.prog 86 #[.slice a n c,.int .i64 (k:Nat)] w fun e w' => NewRep w w' (val xs * 2 ^ k) e:=by
 by_cases h0:xs = []
 ·have hl:=h.len
  subst h0
  simp at hl
  subst hl
  refine (shl_nil a c k w).mono ?_
  rintro e w' ⟨rfl,rfl⟩
  exact ⟨none,0,[],rfl,sl_nil _,⟨Ok.nil,.inl rfl,by simp [val]⟩,newAt_nil _,Below.refl _ _⟩
 ·have hp:0 < xs.length:=List.length_pos_iff.2 h0
  rcases h.cells with e | ⟨b,off,rfl,hc⟩
  ·exact absurd e h0
  ·exact shl_some b off n c xs w k (k / 32) (k % 32) h.len hc ox (by omega) (by omega) (by omega) hk (by omega) (by have:=h.len; omega) hn
end Go.Proofs.YtcajmdfcanopnaaDoor
