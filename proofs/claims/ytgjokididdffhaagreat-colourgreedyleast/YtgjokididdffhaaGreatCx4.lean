/- Cw4 -/
import Derived.Test.YtgjokididdffhaaGreatCk3
import Derived.Test.YtgjokididdffhaaGreatCh8
namespace Go.Proofs.YtgjokididdffhaaGreat
open Go.RowKit Go.Deep
set_option linter.unusedVariables false
structure KdY (k:Int) (R width n1 n2:Nat) (st cols:List Int) (m:Nat) (S C:List Int) (Q:Nat → Bool) (G G1 G2 G3:Nat) (wd:Bool):Prop where
 may:MayP (m:Int) (m:Int) S C
 gra:GraP S C m m
 m8:m ≤ 128
 sl:S.length ≤ 17592186044000
 cl:C.length ≤ 17592186044000
 hQ:∀ u v,u < m → v < m → (Q (u * m + v) = true ↔ adG S C m u v)
 task:∀ (a1 a2:Option Addr) (c1 c2:Nat) W,SlI W a1 n1 c1 st → SlI W a2 n2 c2 cols → Calls Tryz.prog 34 #[.int .i64 k,patV (R:Int) (width:Int) a1 n1 c1 a2 n2 c2] W fun e w' => TkP W w' e G G1 G2 G3 wd R width a1 n1 c1 a2 n2 c2 m S C
 thg:∀ (a1 a2:Option Addr) (c1 c2:Nat) W,SlI W a1 n1 c1 st → SlI W a2 n2 c2 cols → Calls Tryz.prog 21 #[.int .i64 k,patV (R:Int) (width:Int) a1 n1 c1 a2 n2 c2] W fun e w' => TgQ W w' e m (m * m) Q
structure KdN (k rows width:Int) (n1 n2:Nat) (st cols:List Int) (er:Int):Prop where
 ne:(er != 0) = true
 task:∀ (a1 a2:Option Addr) (c1 c2:Nat) W,SlI W a1 n1 c1 st → SlI W a2 n2 c2 cols → Calls Tryz.prog 34 #[.int .i64 k,patV rows width a1 n1 c1 a2 n2 c2] W fun e w' => TkN W w' e er
 thg:∀ (a1 a2:Option Addr) (c1 c2:Nat) W,SlI W a1 n1 c1 st → SlI W a2 n2 c2 cols → Calls Tryz.prog 21 #[.int .i64 k,patV rows width a1 n1 c1 a2 n2 c2] W fun e w' => e = .returned (.tuple #[.agg #[.int .i64 0,.slice none 0 0],.int .i64 er]) ∧ Below W.heap.size W w'
theorem gra_gr {P:Nat → Nat → Prop} {n:Nat} (hn:n ≤ 128) (sy:∀ u v,P u v → P v u) (ir:∀ u,¬ P u u):GraP (grS P n n) (grC P n n) n n ∧ ∀ u v,u < n → v < n → (adG (grS P n n) (grC P n n) n u v ↔ P u v):=by
 have key:∀ u v,u < n → v < n → (InC (grS P n n) (grC P n n) v u ↔ P u v):=fun u v hu hv => (rowL_mem (may_gr hn) hu).symm.trans (mem_gr hu hv)
 refine ⟨⟨rfl,fun u v hu hv h => (key u v hu hv).2 (sy _ _ ((key v u hv hu).1 h)),fun ⟨u,hu,h⟩ => ir u ((key u u hu hu).1 h)⟩,fun u v hu hv => ⟨fun h => (key u v hu hv).1 h.2.2,fun h => ⟨hu,hv,(key u v hu hv).2 h⟩⟩⟩
theorem kd_proper (R width:Nat) (n1 n2:Nat) (st cols:List Int) (hl1:st.length = n1) (hl2:cols.length = n2) (hb1:n1 ≤ 17592186044000) (hb2:n2 ≤ 17592186044000) (hm:MayP (R:Int) (width:Int) st cols):(∃ Q,KdY 1 R width n1 n2 st cols R st cols Q 49 92 93 94 false) ∨ (∃ er,KdN 1 (R:Int) (width:Int) n1 n2 st cols er):=by
 by_cases hg:GraP st cols R width
 ·have hRw:=hg.1
  subst hRw
  have hR8:R ≤ 128:=by have:=hm.head.fit; omega
  have hP:∀ (a1 a2:Option Addr) (c1 c2:Nat) W,SlI W a1 n1 c1 st → SlI W a2 n2 c2 cols → Calls Tryz.prog 34 #[.int .i64 1,patV (R:Int) (R:Int) a1 n1 c1 a2 n2 c2] W fun e w' => TkP W w' e 49 92 93 94 false R R a1 n1 c1 a2 n2 c2 R st cols:=fun a1 a2 c1 c2 W h1 h2 =>
   ctask_ok_self 1 92 93 94 false R R R st cols a1 a2 n1 c1 n2 c2 st cols W h1 h2 hb1 hb2 hm (fun W' => crules_proper W') (fun W' g1 g2 => (citself_yes R R a1 a2 n1 c1 n2 c2 st cols W' g1 g2 hb1 hb2 hm hg).mono (fun e w' ⟨he,hb⟩ => by
    subst hl1 hl2
    exact ⟨a1,c1,a2,c2,he,g1.below hb,g2.below hb,hb,fun t ht hne => .inl (h1.block_lt hne t ht),fun t ht hne => .inl (h2.block_lt hne t ht)⟩))
  have hT:∀ (a1 a2:Option Addr) (c1 c2:Nat) W,SlI W a1 n1 c1 st → SlI W a2 n2 c2 cols → Calls Tryz.prog 21 #[.int .i64 1,patV (R:Int) (R:Int) a1 n1 c1 a2 n2 c2] W fun e w' => TgQ W w' e R (R * R) (fun x => tb (Vis R R st cols cols.length x)):=fun a1 a2 c1 c2 W h1 h2 =>
   (wthings_yes R a1 a2 n1 c1 n2 c2 st cols W h1 h2 (by omega) (by omega) hm hg).mono (fun e w' h => tgQ_of h)
  exact .inl ⟨fun x => tb (Vis R R st cols cols.length x),hm,hg,hR8,by omega,by omega,fun u v hu hv => Iff.trans (vis_in hm hu hv) ⟨fun h => ⟨hu,hv,h⟩,fun h => h.2.2⟩,hP,hT⟩
 ·refine .inr ⟨220,by decide,(fun a1 a2 c1 c2 W h1 h2 => ctask_err_self 1 92 93 94 false R width 220 (by decide) a1 a2 n1 c1 n2 c2 st cols W h1 h2 hb1 hb2 hm (fun W' => crules_proper W') (fun W' g1 g2 => ?_)),(fun a1 a2 c1 c2 W h1 h2 => wthings_bad R width a1 a2 n1 c1 n2 c2 st cols W h1 h2 (by omega) (by omega) hm hg)⟩
  by_cases hs:R = width ∧ SyP st cols R
  ·obtain ⟨rfl,hsy⟩:=hs
   exact citself_diag R a1 a2 n1 c1 n2 c2 st cols W' g1 g2 hb1 hb2 hm hsy (Classical.byContradiction (fun hd => hg ⟨rfl,hsy,hd⟩))
  ·exact citself_asym R width a1 a2 n1 c1 n2 c2 st cols W' g1 g2 hb1 hb2 hm hs
theorem kd_star (R width:Nat) (n1 n2:Nat) (st cols:List Int) (hl1:st.length = n1) (hl2:cols.length = n2) (hb1:n1 ≤ 17592186044000) (hb2:n2 ≤ 17592186044000) (hm:MayP (R:Int) (width:Int) st cols):(∃ Q,KdY 4 R width n1 n2 st cols R st cols Q 49 101 102 94 true) ∨ (∃ er,KdN 4 (R:Int) (width:Int) n1 n2 st cols er):=by
 by_cases hg:GraP st cols R width
 ·have hRw:=hg.1
  subst hRw
  have hR8:R ≤ 128:=by have:=hm.head.fit; omega
  have hP:∀ (a1 a2:Option Addr) (c1 c2:Nat) W,SlI W a1 n1 c1 st → SlI W a2 n2 c2 cols → Calls Tryz.prog 34 #[.int .i64 4,patV (R:Int) (R:Int) a1 n1 c1 a2 n2 c2] W fun e w' => TkP W w' e 49 101 102 94 true R R a1 n1 c1 a2 n2 c2 R st cols:=fun a1 a2 c1 c2 W h1 h2 =>
   ctask_ok_self 4 101 102 94 true R R R st cols a1 a2 n1 c1 n2 c2 st cols W h1 h2 hb1 hb2 hm (fun W' => crules_star W') (fun W' g1 g2 => (citself_yes R R a1 a2 n1 c1 n2 c2 st cols W' g1 g2 hb1 hb2 hm hg).mono (fun e w' ⟨he,hb⟩ => by
    subst hl1 hl2
    exact ⟨a1,c1,a2,c2,he,g1.below hb,g2.below hb,hb,fun t ht hne => .inl (h1.block_lt hne t ht),fun t ht hne => .inl (h2.block_lt hne t ht)⟩))
  have hT:∀ (a1 a2:Option Addr) (c1 c2:Nat) W,SlI W a1 n1 c1 st → SlI W a2 n2 c2 cols → Calls Tryz.prog 21 #[.int .i64 4,patV (R:Int) (R:Int) a1 n1 c1 a2 n2 c2] W fun e w' => TgQ W w' e R (R * R) (fun x => tb (Vis R R st cols cols.length x)):=fun a1 a2 c1 c2 W h1 h2 =>
   (wthings_yes4 R a1 a2 n1 c1 n2 c2 st cols W h1 h2 (by omega) (by omega) hm hg).mono (fun e w' h => tgQ_of h)
  exact .inl ⟨fun x => tb (Vis R R st cols cols.length x),hm,hg,hR8,by omega,by omega,fun u v hu hv => Iff.trans (vis_in hm hu hv) ⟨fun h => ⟨hu,hv,h⟩,fun h => h.2.2⟩,hP,hT⟩
 ·refine .inr ⟨220,by decide,(fun a1 a2 c1 c2 W h1 h2 => ctask_err_self 4 101 102 94 true R width 220 (by decide) a1 a2 n1 c1 n2 c2 st cols W h1 h2 hb1 hb2 hm (fun W' => crules_star W') (fun W' g1 g2 => ?_)),(fun a1 a2 c1 c2 W h1 h2 => wthings_bad4 R width a1 a2 n1 c1 n2 c2 st cols W h1 h2 (by omega) (by omega) hm hg)⟩
  by_cases hs:R = width ∧ SyP st cols R
  ·obtain ⟨rfl,hsy⟩:=hs
   exact citself_diag R a1 a2 n1 c1 n2 c2 st cols W' g1 g2 hb1 hb2 hm hsy (Classical.byContradiction (fun hd => hg ⟨rfl,hsy,hd⟩))
  ·exact citself_asym R width a1 a2 n1 c1 n2 c2 st cols W' g1 g2 hb1 hb2 hm hs
theorem kd_acyc (R width:Nat) (n1 n2:Nat) (st cols:List Int) (hl1:st.length = n1) (hl2:cols.length = n2) (hb1:n1 ≤ 17592186044000) (hb2:n2 ≤ 17592186044000) (hm:MayP (R:Int) (width:Int) st cols):(∃ Q,KdY 5 R width n1 n2 st cols R st cols Q 49 103 104 94 true) ∨ (∃ er,KdN 5 (R:Int) (width:Int) n1 n2 st cols er):=by
 by_cases hg:GraP st cols R width
 ·have hRw:=hg.1
  subst hRw
  have hR8:R ≤ 128:=by have:=hm.head.fit; omega
  have hP:∀ (a1 a2:Option Addr) (c1 c2:Nat) W,SlI W a1 n1 c1 st → SlI W a2 n2 c2 cols → Calls Tryz.prog 34 #[.int .i64 5,patV (R:Int) (R:Int) a1 n1 c1 a2 n2 c2] W fun e w' => TkP W w' e 49 103 104 94 true R R a1 n1 c1 a2 n2 c2 R st cols:=fun a1 a2 c1 c2 W h1 h2 =>
   ctask_ok_self 5 103 104 94 true R R R st cols a1 a2 n1 c1 n2 c2 st cols W h1 h2 hb1 hb2 hm (fun W' => crules_acyc W') (fun W' g1 g2 => (citself_yes R R a1 a2 n1 c1 n2 c2 st cols W' g1 g2 hb1 hb2 hm hg).mono (fun e w' ⟨he,hb⟩ => by
    subst hl1 hl2
    exact ⟨a1,c1,a2,c2,he,g1.below hb,g2.below hb,hb,fun t ht hne => .inl (h1.block_lt hne t ht),fun t ht hne => .inl (h2.block_lt hne t ht)⟩))
  have hT:∀ (a1 a2:Option Addr) (c1 c2:Nat) W,SlI W a1 n1 c1 st → SlI W a2 n2 c2 cols → Calls Tryz.prog 21 #[.int .i64 5,patV (R:Int) (R:Int) a1 n1 c1 a2 n2 c2] W fun e w' => TgQ W w' e R (R * R) (fun x => tb (Vis R R st cols cols.length x)):=fun a1 a2 c1 c2 W h1 h2 =>
   (wthings_yes5 R a1 a2 n1 c1 n2 c2 st cols W h1 h2 (by omega) (by omega) hm hg).mono (fun e w' h => tgQ_of h)
  exact .inl ⟨fun x => tb (Vis R R st cols cols.length x),hm,hg,hR8,by omega,by omega,fun u v hu hv => Iff.trans (vis_in hm hu hv) ⟨fun h => ⟨hu,hv,h⟩,fun h => h.2.2⟩,hP,hT⟩
 ·refine .inr ⟨220,by decide,(fun a1 a2 c1 c2 W h1 h2 => ctask_err_self 5 103 104 94 true R width 220 (by decide) a1 a2 n1 c1 n2 c2 st cols W h1 h2 hb1 hb2 hm (fun W' => crules_acyc W') (fun W' g1 g2 => ?_)),(fun a1 a2 c1 c2 W h1 h2 => wthings_bad5 R width a1 a2 n1 c1 n2 c2 st cols W h1 h2 (by omega) (by omega) hm hg)⟩
  by_cases hs:R = width ∧ SyP st cols R
  ·obtain ⟨rfl,hsy⟩:=hs
   exact citself_diag R a1 a2 n1 c1 n2 c2 st cols W' g1 g2 hb1 hb2 hm hsy (Classical.byContradiction (fun hd => hg ⟨rfl,hsy,hd⟩))
  ·exact citself_asym R width a1 a2 n1 c1 n2 c2 st cols W' g1 g2 hb1 hb2 hm hs
theorem kd_cols (R width:Nat) (n1 n2:Nat) (st cols:List Int) (hl1:st.length = n1) (hl2:cols.length = n2) (hb1:n1 ≤ 17592186044000) (hb2:n2 ≤ 17592186044000) (hm:MayP (R:Int) (width:Int) st cols):∃ Q,KdY 2 R width n1 n2 st cols width (grS (CoP st cols R) width width) (grC (CoP st cols R) width width) Q 95 96 93 97 false:=by
 have hR8:R ≤ 128 ∧ width ≤ 128:=by have:=hm.head.fit; omega
 have hlc:=grC_len (CoP st cols R) width width
 have hlc2:width * width ≤ 128 * 128:=Nat.mul_le_mul (by omega) (by omega)
 have hP:∀ (a1 a2:Option Addr) (c1 c2:Nat) W,SlI W a1 n1 c1 st → SlI W a2 n2 c2 cols → Calls Tryz.prog 34 #[.int .i64 2,patV (R:Int) (width:Int) a1 n1 c1 a2 n2 c2] W fun e w' => TkP W w' e 95 96 93 97 false R width a1 n1 c1 a2 n2 c2 width (grS (CoP st cols R) width width) (grC (CoP st cols R) width width):=fun a1 a2 c1 c2 W h1 h2 =>
  ctask_ok_cols 2 96 93 97 false R width width _ _ a1 a2 n1 c1 n2 c2 st cols W h1 h2 hb1 hb2 hm (fun W' => crules_cols W') (fun W' g1 g2 => (ccolumns_yes R width a1 a2 n1 c1 n2 c2 st cols W' g1 g2 (by omega) (by omega) hm).mono (fun e w' ⟨x,d,y,z,he,s1,s2,hb,e1,e2⟩ => ⟨x,d,y,z,he,s1,s2,hb,fun t ht _ => .inr (e1 t ht),fun t ht _ => .inr (e2 t ht)⟩))
 have hT:∀ (a1 a2:Option Addr) (c1 c2:Nat) W,SlI W a1 n1 c1 st → SlI W a2 n2 c2 cols → Calls Tryz.prog 21 #[.int .i64 2,patV (R:Int) (width:Int) a1 n1 c1 a2 n2 c2] W fun e w' => TgQ W w' e width (width * width) (fun x => tb (LnQ (fun j u v => InC st cols u j ∧ InC st cols v j) width R width 0 0 x)):=fun a1 a2 c1 c2 W h1 h2 =>
  wthings_cols R width a1 a2 n1 c1 n2 c2 st cols W h1 h2 (by omega) (by omega) hm
 obtain ⟨g1,g2⟩:=gra_gr (P:=CoP st cols R) (n:=width) (by omega) (fun u v h => ⟨fun e => h.1 e.symm,by obtain ⟨_,j,hj,h1,h2⟩:=h; exact ⟨j,hj,h2,h1⟩⟩) (fun u h => h.1 rfl)
 exact ⟨_,may_gr (by omega),g1,by omega,by rw [grS_len]; omega,by omega,fun u v hu hv => Iff.trans (tb_iff.trans (LnQ.last hu hv)) (g2 u v hu hv).symm,hP,hT⟩
theorem kd_rows (R width:Nat) (n1 n2:Nat) (st cols:List Int) (hl1:st.length = n1) (hl2:cols.length = n2) (hb1:n1 ≤ 17592186044000) (hb2:n2 ≤ 17592186044000) (hm:MayP (R:Int) (width:Int) st cols):∃ Q,KdY 3 R width n1 n2 st cols R (grS (RwP st cols width) R R) (grC (RwP st cols width) R R) Q 98 99 93 100 false:=by
 have hR8:R ≤ 128 ∧ width ≤ 128:=by have:=hm.head.fit; omega
 have hlc:=grC_len (RwP st cols width) R R
 have hlc2:R * R ≤ 128 * 128:=Nat.mul_le_mul (by omega) (by omega)
 have hP:∀ (a1 a2:Option Addr) (c1 c2:Nat) W,SlI W a1 n1 c1 st → SlI W a2 n2 c2 cols → Calls Tryz.prog 34 #[.int .i64 3,patV (R:Int) (width:Int) a1 n1 c1 a2 n2 c2] W fun e w' => TkP W w' e 98 99 93 100 false R width a1 n1 c1 a2 n2 c2 R (grS (RwP st cols width) R R) (grC (RwP st cols width) R R):=fun a1 a2 c1 c2 W h1 h2 =>
  ctask_ok_rows 3 99 93 100 false R width R _ _ a1 a2 n1 c1 n2 c2 st cols W h1 h2 hb1 hb2 hm (fun W' => crules_rows W') (fun W' g1 g2 => (crowsf_yes R width a1 a2 n1 c1 n2 c2 st cols W' g1 g2 (by omega) (by omega) hm).mono (fun e w' ⟨x,d,y,z,he,s1,s2,hb,e1,e2⟩ => ⟨x,d,y,z,he,s1,s2,hb,fun t ht _ => .inr (e1 t ht),fun t ht _ => .inr (e2 t ht)⟩))
 have hT:∀ (a1 a2:Option Addr) (c1 c2:Nat) W,SlI W a1 n1 c1 st → SlI W a2 n2 c2 cols → Calls Tryz.prog 21 #[.int .i64 3,patV (R:Int) (width:Int) a1 n1 c1 a2 n2 c2] W fun e w' => TgQ W w' e R (R * R) (fun x => tb (LnQ (fun j u v => InC st cols j u ∧ InC st cols j v) R width R 0 0 x)):=fun a1 a2 c1 c2 W h1 h2 =>
  wthings_rows R width a1 a2 n1 c1 n2 c2 st cols W h1 h2 (by omega) (by omega) hm
 obtain ⟨g1,g2⟩:=gra_gr (P:=RwP st cols width) (n:=R) (by omega) (fun u v h => ⟨fun e => h.1 e.symm,by obtain ⟨_,j,hj,h1,h2⟩:=h; exact ⟨j,hj,h2,h1⟩⟩) (fun u h => h.1 rfl)
 exact ⟨_,may_gr (by omega),g1,by omega,by rw [grS_len]; omega,by omega,fun u v hu hv => Iff.trans (tb_iff.trans (LnQ.last hu hv)) (g2 u v hu hv).symm,hP,hT⟩
theorem kd_all (k rows width:Int) (n1 n2:Nat) (st cols:List Int) (hl1:st.length = n1) (hl2:cols.length = n2) (hb1:n1 ≤ 17592186044000) (hb2:n2 ≤ 17592186044000) :
  (∃ er,KdN k rows width n1 n2 st cols er) ∨ (∃ R W:Nat,rows = (R:Int) ∧ width = (W:Int) ∧ MayP (R:Int) (W:Int) st cols ∧ (
   (k = 1 ∧ ∃ Q,KdY k R W n1 n2 st cols R st cols Q 49 92 93 94 false) ∨
   (k = 4 ∧ ∃ Q,KdY k R W n1 n2 st cols R st cols Q 49 101 102 94 true) ∨
   (k = 5 ∧ ∃ Q,KdY k R W n1 n2 st cols R st cols Q 49 103 104 94 true) ∨
   (k = 2 ∧ ∃ Q,KdY k R W n1 n2 st cols W (grS (CoP st cols R) W W) (grC (CoP st cols R) W W) Q 95 96 93 97 false) ∨
   (k = 3 ∧ ∃ Q,KdY k R W n1 n2 st cols R (grS (RwP st cols W) R R) (grC (RwP st cols W) R R) Q 98 99 93 100 false))):=by
 by_cases hm:MayP rows width st cols
 ·obtain ⟨R,rfl⟩:∃ R:Nat,rows = (R:Int):=⟨rows.toNat,by have:=hm.head.fit; omega⟩
  obtain ⟨W,rfl⟩:∃ W:Nat,width = (W:Int):=⟨width.toNat,by have:=hm.head.fit; omega⟩
  by_cases k1:k = 1
  ·subst k1
   exact (kd_proper R W n1 n2 st cols hl1 hl2 hb1 hb2 hm).elim (fun h => .inr ⟨R,W,rfl,rfl,hm,.inl ⟨rfl,h⟩⟩) .inl
  by_cases k2:k = 2
  ·subst k2
   exact .inr ⟨R,W,rfl,rfl,hm,.inr (.inr (.inr (.inl ⟨rfl,kd_cols R W n1 n2 st cols hl1 hl2 hb1 hb2 hm⟩)))⟩
  by_cases k3:k = 3
  ·subst k3
   exact .inr ⟨R,W,rfl,rfl,hm,.inr (.inr (.inr (.inr ⟨rfl,kd_rows R W n1 n2 st cols hl1 hl2 hb1 hb2 hm⟩)))⟩
  by_cases k4:k = 4
  ·subst k4
   exact (kd_star R W n1 n2 st cols hl1 hl2 hb1 hb2 hm).elim (fun h => .inr ⟨R,W,rfl,rfl,hm,.inr (.inl ⟨rfl,h⟩)⟩) .inl
  by_cases k5:k = 5
  ·subst k5
   exact (kd_acyc R W n1 n2 st cols hl1 hl2 hb1 hb2 hm).elim (fun h => .inr ⟨R,W,rfl,rfl,hm,.inr (.inr (.inl ⟨rfl,h⟩))⟩) .inl
  have f1:(k == 1) = false:=by simp [k1]
  have f2:(k == 2) = false:=by simp [k2]
  have f3:(k == 3) = false:=by simp [k3]
  have f4:(k == 4) = false:=by simp [k4]
  have f5:(k == 5) = false:=by simp [k5]
  exact .inl ⟨242,by decide,(fun a1 a2 c1 c2 W' h1 h2 => ctask_off k R W a1 a2 n1 c1 n2 c2 st cols W' h1 h2 hb1 hb2 hm (fun W'' => crules_off k f1 f2 f3 f4 f5 W'')),(fun a1 a2 c1 c2 W' h1 h2 => wthings_off k f1 f2 f3 f4 f5 R W a1 a2 n1 c1 n2 c2 st cols W' h1 h2 (by omega) (by omega) hm)⟩
 ·exact .inl ⟨180,by decide,(fun a1 a2 c1 c2 W' h1 h2 => ctask_pat k rows width a1 a2 n1 c1 n2 c2 st cols W' h1 h2 hb1 hb2 hm),(fun a1 a2 c1 c2 W' h1 h2 => wthings_no k rows width a1 a2 n1 c1 n2 c2 st cols W' h1 h2 (by omega) (by omega) hm)⟩
theorem PnX.ex {RT:(Nat → Int) → Nat → Prop} {xs:List Int} {m:Nat} {P:Nat → (Nat → Int) → Prop} (h:PnX RT xs m P) (ho:OrdTo xs m m):∀ k,k ≤ m → ∃ cs z,P k cs ∧ NmI cs m z
 | 0,_ => ⟨_,0,h.zero,NmI.none⟩
 | k + 1,hk => by
  obtain ⟨cs,z,h1,h2⟩:=PnX.ex h ho k (by omega)
  obtain ⟨y,_,_,_,h3⟩:=h.next k cs (by omega) h1
  exact ⟨_,_,h3,h2.upd (by have:=ho.rng k (by omega); omega) (h.fresh k cs (by omega) h1)⟩
theorem NumC.one {cs:List Int} {z y:Int} (h:NumC cs z) (g:NumC cs y):z = y:=by
 have:=MaxTo.one h g
 omega
section
variable {k:Int} {R width n1 n2 n m:Nat} {st cols xs S C:List Int} {Q:Nat → Bool} {G G1 G3:Nat} {wd:Bool}
end
def Pr1 (ad:Nat → Nat → Prop) (cs:Nat → Int) (u v:Nat):Prop:=ad u v ∧ u < v ∧ cs u = cs v
def PrO (ad:Nat → Nat → Prop) (cs:Nat → Int):Option (Nat × Nat) → Prop
 | none => ∀ u v,¬ Pr1 ad cs u v
 | some (u,v) => Pr1 ad cs u v ∧ ∀ u' v',(u' < u ∨ (u' = u ∧ v' < v)) → ¬ Pr1 ad cs u' v'
def prL:Option (Nat × Nat) → List Int
 | none => []
 | some (u,v) => [(u:Int),(v:Int)]
theorem least_two (P:Nat → Nat → Prop):(∀ u v,¬ P u v) ∨ ∃ u v,P u v ∧ ∀ u' v',(u' < u ∨ (u' = u ∧ v' < v)) → ¬ P u' v':=by
 by_cases h:∀ u v,¬ P u v
 ·exact .inl h
 ·right
  have h1:∃ u,∃ v,P u v:=by
   apply Classical.byContradiction
   intro hn
   exact h (fun u v hp => hn ⟨u,v,hp⟩)
  obtain ⟨k,hk⟩:=h1
  obtain ⟨u,_,hu,hlu⟩:=least_ex (B:=fun u => ¬ ∃ v,P u v) (k:=k) (fun hb => hb hk)
  have hu':∃ v,P u v:=Classical.byContradiction hu
  obtain ⟨k2,hk2⟩:=hu'
  obtain ⟨v,_,hv,hlv⟩:=least_ex (B:=fun v => ¬ P u v) (k:=k2) (fun hb => hb hk2)
  refine ⟨u,v,Classical.byContradiction hv,fun u' v' hc hp => ?_⟩
  rcases hc with hc | ⟨rfl,hc⟩
  ·exact hlu u' hc ⟨v',hp⟩
  ·exact hlv v' hc hp
theorem PrO.ex (ad:Nat → Nat → Prop) (cs:Nat → Int):∃ o,PrO ad cs o:=by
 rcases least_two (Pr1 ad cs) with h | ⟨u,v,h1,h2⟩
 ·exact ⟨none,h⟩
 ·exact ⟨some (u,v),h1,h2⟩
theorem PrO.at {ad:Nat → Nat → Prop} {cs:Nat → Int} {o:Option (Nat × Nat)} (h:PrO ad cs o) {u v:Nat} (h1:Pr1 ad cs u v) (h2:∀ u' v',(u' < u ∨ (u' = u ∧ v' < v)) → ¬ Pr1 ad cs u' v'):o = some (u,v):=by
 cases o with
 | none => exact absurd h1 (h u v)
 | some p =>
  obtain ⟨a,b⟩:=p
  have e1:¬ (a < u ∨ (a = u ∧ b < v)):=fun c => h2 a b c h.1
  have e2:¬ (u < a ∨ (u = a ∧ v < b)):=fun c => h.2 u v c h1
  have:a = u ∧ b = v:=by omega
  rw [this.1,this.2]
theorem PrO.no {ad:Nat → Nat → Prop} {cs:Nat → Int} {o:Option (Nat × Nat)} (h:PrO ad cs o) (k:∀ u v,¬ Pr1 ad cs u v):o = none:=by
 cases o with
 | none => rfl
 | some p => exact absurd h.1 (k _ _)
theorem rowL_up {st cols:List Int} {R v:Nat} (hm:MayP (R:Int) (R:Int) st cols) (hv:v < R):∀ i j,i < j → j < (rowL st cols v).length → (rowL st cols v).getD i 0 < (rowL st cols v).getD j 0:=by
 obtain ⟨X,Y,hR⟩:=hm.rowAt (k:=v) (by omega)
 have e:rowL st cols v = (cols.drop X).take (Y - X):=by unfold rowL; rw [hR.hX,hR.hY]; simp
 have hg:∀ i,i < (rowL st cols v).length → (rowL st cols v).getD i 0 = cols.getD (X + i) 0 ∧ X + i < Y:=by
  intro i hi
  have hi2:i < (rowL st cols v).length:=hi
  rw [e,List.length_take,List.length_drop] at hi2
  refine ⟨?_,by omega⟩
  simp only [List.getD,e]
  rw [List.getElem?_take_of_lt (by omega),List.getElem?_drop]
 have hup:∀ k i,X + i + k + 1 < Y → cols.getD (X + i) 0 < cols.getD (X + i + k + 1) 0:=by
  intro k
  induction k with
  | zero => intro i hi; exact hR.row.up (X + i + 0 + 1) (by omega) hi
  | succ k ih =>
   intro i hi
   have h1:=ih i (by omega)
   have h2:=hR.row.up (X + i + (k + 1) + 1) (by omega) hi
   have e:X + i + (k + 1) + 1 - 1 = X + i + k + 1:=by omega
   rw [e] at h2
   omega
 intro i j hij hj
 rw [(hg i (by omega)).1,(hg j hj).1]
 have:=hup (j - i - 1) i (by have:=(hg j hj).2; omega)
 have e:X + i + (j - i - 1) + 1 = X + j:=by omega
 rw [e] at this
 omega
def NPr (P:Nat → Nat → Prop) (S C:List Int) (u i:Nat):Prop:=∀ u' v':Nat,(u' < u ∨ (u' = u ∧ ∃ j,j < i ∧ (rowL S C u).getD j 0 = (v':Int))) → ¬ P u' v'
theorem NPr.first (P:Nat → Nat → Prop) (S C:List Int):NPr P S C 0 0:=fun u' v' h => by
 rcases h with h | ⟨_,j,hj,_⟩
 ·omega
 ·omega
theorem NPr.next {P:Nat → Nat → Prop} {S C:List Int} {u i v:Nat} (h:NPr P S C u i) (hv:(rowL S C u).getD i 0 = (v:Int)) (k:¬ P u v):NPr P S C u (i + 1):=fun u' v' hc => by
 rcases hc with hc | ⟨rfl,j,hj,hc⟩
 ·exact h u' v' (.inl hc)
 ·by_cases e:j = i
  ·subst e
   have:v' = v:=by omega
   subst this
   exact k
  ·exact h u' v' (.inr ⟨rfl,j,by omega,hc⟩)
theorem NPr.row {P:Nat → Nat → Prop} {S C:List Int} {m u:Nat} (hm:MayP (m:Int) (m:Int) S C) (hu:u < m) (had:∀ v,P u v → adG S C m u v) (h:NPr P S C u (rowL S C u).length):NPr P S C (u + 1) 0:=fun u' v' hc hp => by
 rcases hc with hc | ⟨_,j,hj,_⟩
 ·by_cases e:u' = u
  ·subst e
   obtain ⟨j,hj,e⟩:=mem_getD.1 ((ad_row hm hu).1 (had v' hp))
   exact h u' v' (.inr ⟨rfl,j,hj,e⟩) hp
  ·exact h u' v' (.inl (by omega)) hp
 ·omega
theorem NPr.all {P:Nat → Nat → Prop} {S C:List Int} {m:Nat} (hlt:∀ u v,P u v → u < m) (h:NPr P S C m 0):∀ u v,¬ P u v:=fun u v hp => h u v (.inl (hlt u v hp)) hp
theorem NPr.hit {P:Nat → Nat → Prop} {S C:List Int} {m u i v:Nat} (hm:MayP (m:Int) (m:Int) S C) (hu:u < m) (had:∀ v,P u v → adG S C m u v) (h:NPr P S C u i) (hi:i < (rowL S C u).length) (hv:(rowL S C u).getD i 0 = (v:Int)):∀ u' v',(u' < u ∨ (u' = u ∧ v' < v)) → ¬ P u' v':=fun u' v' hc hp => by
 rcases hc with hc | ⟨rfl,hc⟩
 ·exact h u' v' (.inl hc) hp
 ·obtain ⟨j,hj,e⟩:=mem_getD.1 ((ad_row hm hu).1 (had v' hp))
  refine h u' v' (.inr ⟨rfl,j,?_,e⟩) hp
  apply Classical.byContradiction
  intro hn
  by_cases ej:j = i
  ·subst ej; omega
  ·have:=rowL_up hm hu i j (by omega) hj
   omega
def taV (f0 f1 f2 f3:Value) (wd:Bool) (R width:Int) (a1:Option Addr) (n1 c1:Nat) (a2:Option Addr) (n2 c2 m:Nat) (b1:Option Addr) (m1 d1:Nat) (b2:Option Addr) (m2 d2:Nat):Value:=.agg #[f0,f1,f2,f3,.bool wd,.int .i64 R,.int .i64 width,.slice a1 n1 c1,.slice a2 n2 c2,.int .i64 (m:Int),.int .i64 (m:Int),.slice b1 m1 d1,.slice b2 m2 d2]
def OwA (L:List Int) (w w':World) (e:Ending):Prop:=∃ v,e = .returned v ∧ w'.ownsRow w.heap.size 3 1 v L.length (valsI L) ∧ Below w.heap.size w w'
theorem own_pair {base:Nat} (w:World) (a b:Int) (hb:base ≤ w.heap.size):(w.alloc (.cells #[.int .i64 a,.int .i64 b] 3)).ownsRow base 3 1 (.slice (some ⟨w.heap.size,0,none⟩) 2 2) 2 (valsI [a,b]) :=
 ⟨by simp [valsI],.inr ⟨w.heap.size,2,_,rfl,hb,heap_alloc_new w _,Nat.le_refl _,by decide,by simp,by simp [valsI]⟩⟩
set_option maxRecDepth 100000 in
set_option maxHeartbeats 16000000 in
theorem cpair_any (f0 f1 f2 f3:Value) (wd:Bool) (R width:Int) (a1:Option Addr) (n1 c1:Nat) (a2:Option Addr) (n2 c2 m:Nat) (b1:Option Addr) (m1 d1:Nat) (b2:Option Addr) (m2 d2:Nat) (S C:List Int) (ac:Option Addr) (cc:Nat) (xs:List Int) (w:World) (h1:SlI w b1 m1 d1 S) (h2:SlI w b2 m2 d2 C) (h3:SlI w ac m cc xs) (hb1:m1 ≤ 17592186044000) (hb2:m2 ≤ 17592186044000) (hm:MayP (m:Int) (m:Int) S C) (o:Option (Nat × Nat)) (ho:PrO (adG S C m) (fun i => xs.getD i 0) o) :
  Calls Tryz.prog 92 #[taV f0 f1 f2 f3 wd R width a1 n1 c1 a2 n2 c2 m b1 m1 d1 b2 m2 d2,.slice ac m cc] w fun e w' => OwA (prL o) w w' e:=by
 have hm8:m ≤ 128:=by have:=hm.head.fit; omega
 obtain ⟨wb,hwb⟩:∃ x,w.alloc (.cells #[f0,f1,f2,f3,.bool wd,.int .i64 R,.int .i64 width,.slice a1 n1 c1,.slice a2 n2 c2,.int .i64 (m:Int),.int .i64 (m:Int),.slice b1 m1 d1,.slice b2 m2 d2] 80) = x:=⟨_,rfl⟩
 have bb:Below w.heap.size w wb:=by rw [← hwb]; exact bAl
 have hT:=BoxP.made w #[f0,f1,f2,f3,.bool wd,.int .i64 R,.int .i64 width,.slice a1 n1 c1,.slice a2 n2 c2,.int .i64 (m:Int),.int .i64 (m:Int),.slice b1 m1 d1,.slice b2 m2 d2] 80
 rw [hwb] at hT
 have p9:=(hT.all 9 _ rfl).1
 have HN:=Hj (show ∀ W,Below wb.heap.size wb W → BoxP W w.heap.size [f0,f1,f2,f3,.bool wd,.int .i64 R,.int .i64 width,.slice a1 n1 c1,.slice a2 n2 c2,.int .i64 (m:Int),.int .i64 (m:Int),.slice b1 m1 d1,.slice b2 m2 d2] ∧ SlI W b1 m1 d1 S ∧ SlI W b2 m2 d2 C ∧ SlI W ac m cc xs ∧ Below w.heap.size w W from fun W b => ⟨hT.below b,(h1.below bb).below b,(h2.below bb).below b,(h3.below bb).below b,bb.trans (b.mono bb.size)⟩)
 have HM:=Hj hm
 have HO:=Hj ho
 clear hT bb h1 h2 h3 hm ho
 unfold taV
 go_enter Tryz.func92,Tryz.ntmps92
 go_wp2_with fail
 clear p9
 go_loopw [11] (fun uv wr => ∃ u:Nat,u ≤ m ∧ uv = .int .i64 (u:Int) ∧ Hid (NPr (Pr1 (adG S C m) (fun i => xs.getD i 0)) S C u 0) ∧ Hid (Below wb.heap.size wb wr)) (fun uv _ => m - (intOf uv).toNat)
 case atStart => exact ⟨0,Nat.zero_le _,rfl,Hj (NPr.first _ _ _),Hj (Below.refl _ _)⟩
 case round =>
  obtain ⟨u,hu,rfl,HP,HW⟩:=hrel
  have hx:=Uh HN wr (Uh HW)
  by_cases hlt:u < m
  ·have hlt':(u:Int) < (m:Int):=by omega
   have p9:=(hx.1.all 9 _ rfl).1
   have p10:=(hx.1.all 10 _ rfl).1
   have p11:=(hx.1.all 11 _ rfl).1
   have p12:=(hx.1.all 12 _ rfl).1
   have KR:=Hj (crow_list m (m:Int) b1 b2 m1 d1 m2 d2 S C u wr hx.2.1 hx.2.2.1 hb1 hb2 (Uh HM) hlt)
   unfold patV at KR
   clear hx
   go_wp2_with fail
   refine (Uh KR).mono ?_
   rintro _ w4 ⟨aN,cN,rfl,hsN,hlN,hbN,b4⟩
   have HW4:=Hj ((Uh HW).trans (b4.mono (Uh HW).size))
   have HSN:=Hj hsN
   have hm128:(rowL S C u).length ≤ 128:=Nat.le_trans (row_lenF (Uh HM) hlt) hm8
   obtain ⟨z,hz⟩:∃ z,(rowL S C u).length = z:=⟨_,rfl⟩
   have HZ:=Hj hz
   rw [hz] at HSN hm128 ⊢
   clear KR hsN hlN hbN b4 p9 p10 p11 p12 hz
   go_wp2_with fail
   go_loopw [19] (fun iv wq => ∃ i:Nat,i ≤ z ∧ iv = .int .i64 (i:Int) ∧ Hid (NPr (Pr1 (adG S C m) (fun i => xs.getD i 0)) S C u i) ∧ Hid (Below w4.heap.size w4 wq)) (fun iv _ => z - (intOf iv).toNat)
   case atStart => exact ⟨0,Nat.zero_le _,rfl,HP,Hj (Below.refl _ _)⟩
   case round =>
    obtain ⟨i,hi,rfl,HP2,HW5⟩:=hrel
    by_cases hin:i < z
    ·have hin':(i:Int) < (z:Int):=by omega
     have HW6:=Hj ((Uh HW4).trans ((Uh HW5).mono (Uh HW4).size))
     have hx:=Uh HN wr (Uh HW6)
     obtain ⟨v,hv,hvm⟩:=row_atF (Uh HM) hlt (by rw [Uh HZ]; exact hin:i < (rowL S C u).length)
     obtain ⟨bN,oN,e1,hc⟩:=((Uh HSN).below (Uh HW5)).at (by omega)
     subst e1
     have sk:=hc i hin
     rw [hv] at sk
     obtain ⟨bc,oc,e2,hcc⟩:=hx.2.2.2.1.at (by omega)
     subst e2
     have s0:=hcc u hlt
     have s1:=hcc v hvm
     have hvm':(v:Int) < (m:Int):=by omega
     obtain ⟨y0,hy0⟩:∃ y,xs.getD u 0 = y:=⟨_,rfl⟩
     obtain ⟨y1,hy1⟩:∃ y,xs.getD v 0 = y:=⟨_,rfl⟩
     rw [hy0] at s0
     rw [hy1] at s1
     have HV:=Hj hv
     have HY:=Hj (And.intro hy0 hy1)
     have F0:=fun x':Ext wr => x'.cell s0
     have F1:=fun x':Ext wr => x'.cell s1
     have hNE:=Ext.ne wr
     clear hc hcc hx hv hy0 hy1
     by_cases huv:u < v
     ·have huv':(u:Int) < (v:Int):=by omega
      by_cases hyy:y0 = y1
      ·have hyy':(y0 == y1) = true:=by simp [hyy]
       have ho:=PrO.at (Uh HO) (u:=u) (v:=v) ⟨(ad_row (Uh HM) hlt).2 (mem_getD.2 ⟨i,by rw [Uh HZ]; exact hin,Uh HV⟩),huv,(by show xs.getD u 0 = xs.getD v 0; rw [(Uh HY).1,(Uh HY).2]; exact hyy)⟩ ((Uh HP2).hit (Uh HM) hlt (fun v h => h.1) (by rw [Uh HZ]; exact hin) (Uh HV))
       subst ho
       clear hyy
       go_wp2_with fail
       refine wp_region_ext (by kernel_rfl) (by kernel_rfl) ?_
       repeat (go_big_quiet_step (fail))
       refine wpQuiet_nil ?_
       rintro _ ⟨xE,rfl⟩
       have HX:=Hj (show Below w4.heap.size w4 xE.w from (Uh HW5).trans (xE.bel.mono (Uh HW5).size))
       clear F0 F1 hNE s0 s1 sk
       have HXW:=Hj ((Uh HW4).trans ((Uh HX).mono (Uh HW4).size))
       have HF:=Hj (Uh HN xE.w (Uh HXW)).2.2.2.2
       go_wp2_with fail
       try go_ret
       exact ⟨_,rfl,own_pair _ _ _ (Uh HF).size,(Uh HF).alloc (Uh HF).size _⟩
      ·have hyy':(y0 == y1) = false:=by simp [hyy]
       have HP3:=Hj ((Uh HP2).next (Uh HV) (fun k => hyy (by have h9:xs.getD u 0 = xs.getD v 0:=k.2.2; rw [(Uh HY).1,(Uh HY).2] at h9; exact h9)))
       clear hyy
       go_wp2_with fail
       refine wp_region_ext (by kernel_rfl) (by kernel_rfl) ?_
       repeat (go_big_quiet_step (fail))
       refine wpQuiet_nil ?_
       rintro _ ⟨xE,rfl⟩
       have HX:=Hj (show Below w4.heap.size w4 xE.w from (Uh HW5).trans (xE.bel.mono (Uh HW5).size))
       clear F0 F1 hNE s0 s1 sk
       go_wp2_with fail
       exact ⟨⟨i + 1,by omega,by (first | rfl | go_num),HP3,HX⟩,by simp [intOf]; omega⟩
     ·have huv':¬ (u:Int) < (v:Int):=by omega
      have HP3:=Hj ((Uh HP2).next (Uh HV) (fun k => huv k.2.1))
      go_wp2_with fail
      refine wp_region_ext (by kernel_rfl) (by kernel_rfl) ?_
      repeat (go_big_quiet_step (fail))
      refine wpQuiet_nil ?_
      rintro _ ⟨xE,rfl⟩
      have HX:=Hj (show Below w4.heap.size w4 xE.w from (Uh HW5).trans (xE.bel.mono (Uh HW5).size))
      clear F0 F1 hNE s0 s1 sk
      go_wp2_with fail
      exact ⟨⟨i + 1,by omega,by (first | rfl | go_num),HP3,HX⟩,by simp [intOf]; omega⟩
    ·obtain rfl:i = z:=by omega
     have hin':¬ (i:Int) < (i:Int):=by omega
     have HP3:=Hj (NPr.row (P:=Pr1 (adG S C m) (fun i => xs.getD i 0)) (Uh HM) hlt (fun v h => h.1) (by rw [Uh HZ]; exact Uh HP2))
     have HW6:=Hj ((Uh HW4).trans ((Uh HW5).mono (Uh HW4).size))
     go_wp2_with fail
     exact ⟨⟨u + 1,by omega,by (first | rfl | go_num),HP3,HW6⟩,by simp [intOf]; omega⟩
  ·obtain rfl:u = m:=by omega
   have hlt':¬ (u:Int) < (u:Int):=by omega
   have ho:=PrO.no (Uh HO) (NPr.all (P:=Pr1 (adG S C u) (fun i => xs.getD i 0)) (m:=u) (fun a b h => h.1.1) (Uh HP))
   subst ho
   have HF:=Hj hx.2.2.2.2
   clear hx
   go_wp2_with fail
   try go_ret
   exact ⟨_,rfl,World.ownsRow_nil _ _ _ _,Uh HF⟩
def Lk1 (cs:Nat → Int) (a b d:Nat):Prop:=a < d ∧ d ≠ b ∧ cs d = cs b
set_option maxRecDepth 100000 in
set_option maxHeartbeats 16000000 in
theorem cstar1_any (m a b d:Nat) (ac:Option Addr) (cc:Nat) (xs:List Int) (ab bb cb:Nat) (w:World) (h:SlI w ac m cc xs) (hm:m ≤ 128) (ha:a < m) (hb:b < m) (hd:d < m) (a0:w.cell? ⟨ab,0,none⟩ = some (.int .i64 (a:Int))) (b0:w.cell? ⟨bb,0,none⟩ = some (.int .i64 (b:Int))) (c0:w.cell? ⟨cb,0,none⟩ = some (.slice ac m cc)) (ok:Bool) (hok:TruQ ok (Lk1 (fun i => xs.getD i 0) a b d)) :
  Calls Tryz.prog 128 #[.int .i64 (d:Int),.pointer (some ⟨ab,0,none⟩),.pointer (some ⟨bb,0,none⟩),.pointer (some ⟨cb,0,none⟩)] w fun e w' => e = .returned (.bool ok) ∧ Below w.heap.size w w':=by
 obtain ⟨bc,oc,rfl,hc⟩:=h.at (by omega)
 have s0:=hc d hd
 have s1:=hc b hb
 obtain ⟨y0,hy0⟩:∃ y,xs.getD d 0 = y:=⟨_,rfl⟩
 obtain ⟨y1,hy1⟩:∃ y,xs.getD b 0 = y:=⟨_,rfl⟩
 have hdm':(d:Int) < (m:Int):=by omega
 have hbm':(b:Int) < (m:Int):=by omega
 have hok':ok = true ↔ (a < d ∧ d ≠ b ∧ y0 = y1):=by
  have h9:ok = true ↔ (a < d ∧ d ≠ b ∧ xs.getD d 0 = xs.getD b 0):=hok
  rw [hy0,hy1] at h9
  exact h9
 rw [hy0] at s0
 rw [hy1] at s1
 have HOK:=Hj hok'
 clear h hc hok hok' hy0 hy1
 have F0:=fun x':Ext w => x'.cell s0
 have F1:=fun x':Ext w => x'.cell s1
 have F2:=fun x':Ext w => x'.cell a0
 have F3:=fun x':Ext w => x'.cell b0
 have F4:=fun x':Ext w => x'.cell c0
 have hNE:=Ext.ne w
 by_cases had:a < d
 ·have had':decide (a < d) = true:=by simp; omega
  by_cases hdb:d = b
  ·have hdb':((d:Int) != (b:Int)) = false:=by simp; omega
   have hk:ok = false:=by rw [Bool.eq_false_iff]; intro e; exact ((Uh HOK).1 e).2.1 hdb
   subst hk
   clear hdb had
   go_enter Tryz.func128,Tryz.ntmps128
   go_wp2_with fail
   refine wp_region_ext (by kernel_rfl) (by kernel_rfl) ?_
   repeat (go_big_quiet_step (fail))
   refine wpQuiet_nil ?_
   rintro _ ⟨xE,rfl⟩
   have HX:=Hj xE.bel
   clear F0 F1 F2 F3 F4 hNE
   go_wp2_with fail
   try go_ret
   exact ⟨rfl,Uh HX⟩
  ·have hdb':((d:Int) != (b:Int)) = true:=by simp; omega
   by_cases hyy:y0 = y1
   ·have hyy':(y0 == y1) = true:=by simp [hyy]
    have hk:ok = true:=(Uh HOK).2 ⟨had,hdb,hyy⟩
    subst hk
    clear hdb had hyy
    go_enter Tryz.func128,Tryz.ntmps128
    go_wp2_with fail
    refine wp_region_ext (by kernel_rfl) (by kernel_rfl) ?_
    repeat (go_big_quiet_step (fail))
    refine wpQuiet_nil ?_
    rintro _ ⟨xE,rfl⟩
    have HX:=Hj xE.bel
    clear F0 F1 F2 F3 F4 hNE
    go_wp2_with fail
    try go_ret
    exact ⟨rfl,Uh HX⟩
   ·have hyy':(y0 == y1) = false:=by simp [hyy]
    have hk:ok = false:=by rw [Bool.eq_false_iff]; intro e; exact hyy ((Uh HOK).1 e).2.2
    subst hk
    clear hdb had hyy
    go_enter Tryz.func128,Tryz.ntmps128
    go_wp2_with fail
    refine wp_region_ext (by kernel_rfl) (by kernel_rfl) ?_
    repeat (go_big_quiet_step (fail))
    refine wpQuiet_nil ?_
    rintro _ ⟨xE,rfl⟩
    have HX:=Hj xE.bel
    clear F0 F1 F2 F3 F4 hNE
    go_wp2_with fail
    try go_ret
    exact ⟨rfl,Uh HX⟩
 ·have had':decide (a < d) = false:=by simp; omega
  have hk:ok = false:=by rw [Bool.eq_false_iff]; intro e; exact had ((Uh HOK).1 e).1
  subst hk
  clear had
  go_enter Tryz.func128,Tryz.ntmps128
  go_wp2_with fail
  refine wp_region_ext (by kernel_rfl) (by kernel_rfl) ?_
  repeat (go_big_quiet_step (fail))
  refine wpQuiet_nil ?_
  rintro _ ⟨xE,rfl⟩
  have HX:=Hj xE.bel
  clear F0 F1 F2 F3 F4 hNE
  go_wp2_with fail
  try go_ret
  exact ⟨rfl,Uh HX⟩
set_option maxRecDepth 20000 in
set_option maxHeartbeats 8000000 in
theorem cindexS_any (a:Option Addr) (n c:Nat) (xs:List Int) (T:Nat → Prop) (ab bb cb:Nat) (w:World) (h:SlI w a n c xs) (hn:n ≤ 128) (hf:∀ (W:World) (k:Nat) (ok:Bool),Below w.heap.size w W → k < n → TruQ ok (T k) → Calls Tryz.prog 128 #[.int .i64 (xs.getD k 0),.pointer (some ⟨ab,0,none⟩),.pointer (some ⟨bb,0,none⟩),.pointer (some ⟨cb,0,none⟩)] W fun e w' => e = .returned (.bool ok) ∧ Below W.heap.size W w') (z:Int) (hz:(∃ i:Nat,z = (i:Int) ∧ i < n ∧ T i ∧ ∀ j,j < i → ¬ T j) ∨ (z = -1 ∧ ∀ j,j < n → ¬ T j)) :
  Calls Tryz.prog 127 #[.slice a n c,.func (.func 128) #[] #[.pointer (some ⟨ab,0,none⟩),.pointer (some ⟨bb,0,none⟩),.pointer (some ⟨cb,0,none⟩)]] w fun e w' => e = .returned (.int .i64 z) ∧ Below w.heap.size w w':=by
 have HS:=Hj h
 have HF:=Hj hf
 have HZ:=Hj hz
 clear h hf hz
 go_enter Tryz.func127,Tryz.ntmps127
 go_wp2_with fail
 go_loopw [8,5] (fun iv _ wr => ∃ i:Nat,i ≤ n ∧ iv = .int .i64 (i:Int) ∧ Hid (∀ k,k < i → ¬ T k) ∧ Hid (Below w.heap.size w wr)) (fun iv _ _ => n - (intOf iv).toNat)
 case atStart => exact ⟨0,Nat.zero_le _,rfl,Hj (fun k hk => by omega),Hj (Below.refl _ _)⟩
 case round =>
  obtain ⟨i,hi,rfl,HA,HW⟩:=hrel
  by_cases hlt:i < n
  ·have hlt':(i:Int) < (n:Int):=by omega
   obtain ⟨b,off,rfl,hc⟩:=((Uh HS).below (Uh HW)).at (by omega)
   have hx:=hc i hlt
   obtain ⟨t,ht⟩:=truth (T i)
   have K:=Uh HF wr i t (Uh HW) hlt ht
   obtain ⟨x,hxx⟩:∃ x,xs.getD i 0 = x:=⟨_,rfl⟩
   rw [hxx] at hx K
   have HK:=Hj K
   have HT:=Hj (show TruQ t (T i) from ht)
   clear hc hxx K ht
   go_wp2_with fail
   refine (Uh HK).mono ?_
   rintro _ w2 ⟨rfl,b2⟩
   have HW2:=Hj ((Uh HW).trans (b2.mono (Uh HW).size))
   clear b2 HK hx
   cases t
   ·go_wp2_with fail
    refine ⟨⟨i + 1,by omega,by (first | rfl | go_num),Hj (fun k hk => ?_),HW2⟩,by simp [intOf]; omega⟩
    by_cases e:k = i
    ·rw [e]; intro h; have:=(Uh HT).2 h; cases this
    ·exact Uh HA k (by omega)
   ·have hzi:z = (i:Int):=by
     have hti:=(Uh HT).1 rfl
     rcases Uh HZ with ⟨i',e,h1,h2,h3⟩ | ⟨_,h1⟩
     ·have e1:¬ i < i':=fun c => h3 i c hti
      have e2:¬ i' < i:=fun c => Uh HA i' c h2
      omega
     ·exact absurd hti (h1 i hlt)
    subst hzi
    go_wp2_with fail
    try go_ret
    exact ⟨rfl,Uh HW2⟩
  ·obtain rfl:i = n:=by omega
   have hlt':¬ (i:Int) < (i:Int):=by omega
   have hzi:z = -1:=by
    rcases Uh HZ with ⟨i',e,h1,h2,h3⟩ | ⟨e,_⟩
    ·exact absurd h2 (Uh HA i' h1)
    ·exact e
   subst hzi
   go_wp2_with fail
   try go_ret
   exact ⟨rfl,Uh HW⟩
end Go.Proofs.YtgjokididdffhaaGreat
