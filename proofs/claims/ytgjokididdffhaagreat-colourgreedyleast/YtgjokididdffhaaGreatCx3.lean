/- Cx3 -/
import Derived.Test.YtgjokididdffhaaGreatCx2
import Derived.Test.YtgjokididdffhaaGreatCga
namespace Go.Proofs.YtgjokididdffhaaGreat
open Go.RowKit Go.Deep
set_option linter.unusedVariables false
theorem own_mono {w:World} {base base':Nat} {e:TypeId} {s:Nat} {v:Value} {n:Nat} {xs:List Value} (h:w.ownsRow base e s v n xs) (hb:base' ≤ base):w.ownsRow base' e s v n xs:=⟨h.1,h.2.imp id (fun ⟨g,cap,cur,q,hg,r⟩ => ⟨g,cap,cur,q,Nat.le_trans hb hg,r⟩)⟩
def lnL (k:Nat):Option (Nat × Nat) → List Int
 | none => []
 | some (u,v) => [(u:Int),(v:Int),(k:Int)]
set_option maxRecDepth 100000 in
set_option maxHeartbeats 16000000 in
theorem ccolF_any (f0 f1 f2 f3:Value) (wd:Bool) (R width:Nat) (a1:Option Addr) (n1 c1:Nat) (a2:Option Addr) (n2 c2 m:Nat) (b1:Option Addr) (m1 d1:Nat) (b2:Option Addr) (m2 d2:Nat) (st cols S C:List Int) (ac:Option Addr) (cc:Nat) (xs:List Int) (w:World) (g1:SlI w a1 n1 c1 st) (g2:SlI w a2 n2 c2 cols) (gb1:n1 ≤ 17592186044000) (gb2:n2 ≤ 17592186044000) (gm:MayP (R:Int) (width:Int) st cols) (h1:SlI w b1 m1 d1 S) (h2:SlI w b2 m2 d2 C) (h3:SlI w ac m cc xs) (hb1:m1 ≤ 17592186044000) (hb2:m2 ≤ 17592186044000) (hm:MayP (m:Int) (m:Int) S C) (o:Option (Nat × Nat)) (ho:PrO (adG S C m) (fun i => xs.getD i 0) o) (k:Nat) (hk:∀ u v,o = some (u,v) → k < R ∧ InL ((rowL st cols) k) (u:Int) (v:Int) ∧ ∀ j,j < k → ¬ InL ((rowL st cols) j) (u:Int) (v:Int)) :
  Calls Tryz.prog 96 #[taV f0 f1 f2 f3 wd R width a1 n1 c1 a2 n2 c2 m b1 m1 d1 b2 m2 d2,.slice ac m cc] w fun e w' => OwA (lnL k o) w w' e:=by
 have hR8:R ≤ 128 ∧ width ≤ 128:=by have:=gm.head.fit; omega
 obtain ⟨wb,hwb⟩:∃ x,w.alloc (.cells #[f0,f1,f2,f3,.bool wd,.int .i64 (R:Int),.int .i64 (width:Int),.slice a1 n1 c1,.slice a2 n2 c2,.int .i64 (m:Int),.int .i64 (m:Int),.slice b1 m1 d1,.slice b2 m2 d2] 80) = x:=⟨_,rfl⟩
 have bb:Below w.heap.size w wb:=by rw [← hwb]; exact bAl
 have hT:=BoxP.made w #[f0,f1,f2,f3,.bool wd,.int .i64 (R:Int),.int .i64 (width:Int),.slice a1 n1 c1,.slice a2 n2 c2,.int .i64 (m:Int),.int .i64 (m:Int),.slice b1 m1 d1,.slice b2 m2 d2] 80
 rw [hwb] at hT
 have HN:=Hj (show ∀ W,Below wb.heap.size wb W → BoxP W w.heap.size [f0,f1,f2,f3,.bool wd,.int .i64 (R:Int),.int .i64 (width:Int),.slice a1 n1 c1,.slice a2 n2 c2,.int .i64 (m:Int),.int .i64 (m:Int),.slice b1 m1 d1,.slice b2 m2 d2] ∧ SlI W a1 n1 c1 st ∧ SlI W a2 n2 c2 cols ∧ Below w.heap.size w W from fun W b => ⟨hT.below b,(g1.below bb).below b,(g2.below bb).below b,bb.trans (b.mono bb.size)⟩)
 have KP:=Hj (fun W (b:Below wb.heap.size wb W) => cpair_any f0 f1 f2 f3 wd (R:Int) (width:Int) a1 n1 c1 a2 n2 c2 m b1 m1 d1 b2 m2 d2 S C ac cc xs W ((h1.below bb).below b) ((h2.below bb).below b) ((h3.below bb).below b) hb1 hb2 hm o ho)
 have KR:=Hj (fun W (b:Below wb.heap.size wb W) => crows_any R (width:Int) a1 a2 n1 c1 n2 c2 st cols W ((g1.below bb).below b) ((g2.below bb).below b) (by omega) (by omega) gm)
 unfold taV at KP
 unfold patV at KR
 have HM:=Hj gm
 have HK:=Hj hk
 have p0:=(hT.all 0 _ rfl).1
 have p1:=(hT.all 1 _ rfl).1
 have p2:=(hT.all 2 _ rfl).1
 have p3:=(hT.all 3 _ rfl).1
 have p4:=(hT.all 4 _ rfl).1
 have p5:=(hT.all 5 _ rfl).1
 have p6:=(hT.all 6 _ rfl).1
 have p7:=(hT.all 7 _ rfl).1
 have p8:=(hT.all 8 _ rfl).1
 have p9:=(hT.all 9 _ rfl).1
 have p10:=(hT.all 10 _ rfl).1
 have p11:=(hT.all 11 _ rfl).1
 have p12:=(hT.all 12 _ rfl).1
 have hwsz:=bb.size
 clear hT bb g1 g2 gm h1 h2 h3 hm ho hk
 cases o with
 | none =>
  have HQ:=Hj (show ∀ W,Below wb.heap.size wb W → Calls Tryz.prog 92 #[.agg #[f0,f1,f2,f3,.bool wd,.int .i64 (R:Int),.int .i64 (width:Int),.slice a1 n1 c1,.slice a2 n2 c2,.int .i64 (m:Int),.int .i64 (m:Int),.slice b1 m1 d1,.slice b2 m2 d2],.slice ac m cc] W fun e w' => ∃ ap cp,e = .returned (.slice ap 0 cp) ∧ w'.ownsRow w.heap.size 3 1 (.slice ap 0 cp) 0 (valsI []) ∧ (∀ z,ap = some z → wb.heap.size ≤ z.block) ∧ Below wb.heap.size wb w' from fun W b => (Uh KP W b).mono (fun e w' ⟨vp,he,hO,bl⟩ => by
   obtain ⟨ap,cp,hv,hsl⟩:=own_slI (n:=0) (xs:=[]) hO
   subst hv
   exact ⟨ap,cp,he,own_mono (n:=0) (xs:=valsI []) hO (Nat.le_trans hwsz b.size),fun z hz => Nat.le_trans b.size (own_ge (n:=0) (xs:=valsI []) hO z.block (by rw [hz]; rfl)).1,b.trans (bl.mono b.size)⟩))
  clear KP
  unfold taV
  go_enter Tryz.func96,Tryz.ntmps96
  go_wp2_with fail
  go_region_held3 (fun w' => w'.cell? ⟨w.heap.size,0,none⟩ = some (f0) ∧ w'.cell? ⟨w.heap.size,1,none⟩ = some (f1) ∧ w'.cell? ⟨w.heap.size,2,none⟩ = some (f2) ∧ w'.cell? ⟨w.heap.size,3,none⟩ = some (f3) ∧ w'.cell? ⟨w.heap.size,4,none⟩ = some (.bool wd) ∧ w'.cell? ⟨w.heap.size,5,none⟩ = some (.int .i64 (R:Int)) ∧ w'.cell? ⟨w.heap.size,6,none⟩ = some (.int .i64 (width:Int)) ∧ w'.cell? ⟨w.heap.size,7,none⟩ = some (.slice a1 n1 c1) ∧ w'.cell? ⟨w.heap.size,8,none⟩ = some (.slice a2 n2 c2) ∧ w'.cell? ⟨w.heap.size,9,none⟩ = some (.int .i64 (m:Int)) ∧ w'.cell? ⟨w.heap.size,10,none⟩ = some (.int .i64 (m:Int)) ∧ w'.cell? ⟨w.heap.size,11,none⟩ = some (.slice b1 m1 d1) ∧ w'.cell? ⟨w.heap.size,12,none⟩ = some (.slice b2 m2 d2)) (first | (exact ⟨k0,k1,k2,k3,k4,k5,k6,k7,k8,k9,k10,k11,k12⟩) | go_keep)
   (first
    | (go_at_call 92; refine (Uh HQ _ (by first | exact (Below.refl _ _).drew | exact Below.refl _ _)).mono ?_; rintro _ wl ⟨ap,cp,rfl,hO,hap,bl⟩; have hbx:=(Uh HN wl bl).1; have k0:=(hbx.all 0 _ rfl).1; have k1:=(hbx.all 1 _ rfl).1; have k2:=(hbx.all 2 _ rfl).1; have k3:=(hbx.all 3 _ rfl).1; have k4:=(hbx.all 4 _ rfl).1; have k5:=(hbx.all 5 _ rfl).1; have k6:=(hbx.all 6 _ rfl).1; have k7:=(hbx.all 7 _ rfl).1; have k8:=(hbx.all 8 _ rfl).1; have k9:=(hbx.all 9 _ rfl).1; have k10:=(hbx.all 10 _ rfl).1; have k11:=(hbx.all 11 _ rfl).1; have k12:=(hbx.all 12 _ rfl).1; have HOl:=Hj hO; have HAP:=Hj hap; have HBl:=Hj bl; clear hO bl hbx hap)
    | (go_at_call 82; refine (Uh KR _ (Uh HBl)).mono ?_; rintro _ wk ⟨L,hLs,rfl,hL,bk⟩; have bk':Below wb.heap.size wb wk:=(Uh HBl).trans (bk.mono (Uh HBl).size); have hls:LsI wk L R (rowL st cols):=hL.lsI (Uh HN wk bk').2.2.1 (by omega) (Uh HM); have hbx:=(Uh HN wk bk').1; clear k0 k1 k2 k3 k4 k5 k6 k7 k8 k9 k10 k11 k12; have k0:=(hbx.all 0 _ rfl).1; have k1:=(hbx.all 1 _ rfl).1; have k2:=(hbx.all 2 _ rfl).1; have k3:=(hbx.all 3 _ rfl).1; have k4:=(hbx.all 4 _ rfl).1; have k5:=(hbx.all 5 _ rfl).1; have k6:=(hbx.all 6 _ rfl).1; have k7:=(hbx.all 7 _ rfl).1; have k8:=(hbx.all 8 _ rfl).1; have k9:=(hbx.all 9 _ rfl).1; have k10:=(hbx.all 10 _ rfl).1; have k11:=(hbx.all 11 _ rfl).1; have k12:=(hbx.all 12 _ rfl).1; have HOk:=Hj (ownsRow_chg (S:=fun _ => False) (Uh HOl) (Chg.of_below bk) (fun _ _ x => x)); have HBk:=Hj bk'; have HLs:=Hj hls; clear bk bk' hbx hls)
    | (go_at_call 124; refine (cwith_nil ap cp _ wk).mono ?_; rintro _ w9 ⟨rfl,b9⟩; have hb9:=(Uh HN w9 ((Uh HBk).trans (b9.mono (Uh HBk).size))); have HF:=Hj hb9.2.2.2; have hbx:=hb9.1; clear k0 k1 k2 k3 k4 k5 k6 k7 k8 k9 k10 k11 k12; have k0:=(hbx.all 0 _ rfl).1; have k1:=(hbx.all 1 _ rfl).1; have k2:=(hbx.all 2 _ rfl).1; have k3:=(hbx.all 3 _ rfl).1; have k4:=(hbx.all 4 _ rfl).1; have k5:=(hbx.all 5 _ rfl).1; have k6:=(hbx.all 6 _ rfl).1; have k7:=(hbx.all 7 _ rfl).1; have k8:=(hbx.all 8 _ rfl).1; have k9:=(hbx.all 9 _ rfl).1; have k10:=(hbx.all 10 _ rfl).1; have k11:=(hbx.all 11 _ rfl).1; have k12:=(hbx.all 12 _ rfl).1; clear b9 hbx hb9))
  clear k0 k1 k2 k3 k4 k5 k6 k7 k8 k9 k10 k11 k12
  go_wp2_with fail
  try go_ret
  exact ⟨_,rfl,World.ownsRow_nil _ _ _ _,Uh HF⟩
 | some q =>
  obtain ⟨u,v⟩:=q
  have HQ:=Hj (show ∀ W,Below wb.heap.size wb W → Calls Tryz.prog 92 #[.agg #[f0,f1,f2,f3,.bool wd,.int .i64 (R:Int),.int .i64 (width:Int),.slice a1 n1 c1,.slice a2 n2 c2,.int .i64 (m:Int),.int .i64 (m:Int),.slice b1 m1 d1,.slice b2 m2 d2],.slice ac m cc] W fun e w' => ∃ ap cp,e = .returned (.slice ap 2 cp) ∧ w'.ownsRow w.heap.size 3 1 (.slice ap 2 cp) 2 (valsI [(u:Int),(v:Int)]) ∧ (∀ z,ap = some z → wb.heap.size ≤ z.block) ∧ Below wb.heap.size wb w' from fun W b => (Uh KP W b).mono (fun e w' ⟨vp,he,hO,bl⟩ => by
   obtain ⟨ap,cp,hv,hsl⟩:=own_slI (n:=2) (xs:=[(u:Int),(v:Int)]) hO
   subst hv
   exact ⟨ap,cp,he,own_mono (n:=2) (xs:=valsI [(u:Int),(v:Int)]) hO (Nat.le_trans hwsz b.size),fun z hz => Nat.le_trans b.size (own_ge (n:=2) (xs:=valsI [(u:Int),(v:Int)]) hO z.block (by rw [hz]; rfl)).1,b.trans (bl.mono b.size)⟩))
  clear KP
  unfold taV
  go_enter Tryz.func96,Tryz.ntmps96
  go_wp2_with fail
  go_region_held3 (fun w' => w'.cell? ⟨w.heap.size,0,none⟩ = some (f0) ∧ w'.cell? ⟨w.heap.size,1,none⟩ = some (f1) ∧ w'.cell? ⟨w.heap.size,2,none⟩ = some (f2) ∧ w'.cell? ⟨w.heap.size,3,none⟩ = some (f3) ∧ w'.cell? ⟨w.heap.size,4,none⟩ = some (.bool wd) ∧ w'.cell? ⟨w.heap.size,5,none⟩ = some (.int .i64 (R:Int)) ∧ w'.cell? ⟨w.heap.size,6,none⟩ = some (.int .i64 (width:Int)) ∧ w'.cell? ⟨w.heap.size,7,none⟩ = some (.slice a1 n1 c1) ∧ w'.cell? ⟨w.heap.size,8,none⟩ = some (.slice a2 n2 c2) ∧ w'.cell? ⟨w.heap.size,9,none⟩ = some (.int .i64 (m:Int)) ∧ w'.cell? ⟨w.heap.size,10,none⟩ = some (.int .i64 (m:Int)) ∧ w'.cell? ⟨w.heap.size,11,none⟩ = some (.slice b1 m1 d1) ∧ w'.cell? ⟨w.heap.size,12,none⟩ = some (.slice b2 m2 d2)) (first | (exact ⟨k0,k1,k2,k3,k4,k5,k6,k7,k8,k9,k10,k11,k12⟩) | go_keep)
   (first
    | (go_at_call 92; refine (Uh HQ _ (by first | exact (Below.refl _ _).drew | exact Below.refl _ _)).mono ?_; rintro _ wl ⟨ap,cp,rfl,hO,hap,bl⟩; have hbx:=(Uh HN wl bl).1; have k0:=(hbx.all 0 _ rfl).1; have k1:=(hbx.all 1 _ rfl).1; have k2:=(hbx.all 2 _ rfl).1; have k3:=(hbx.all 3 _ rfl).1; have k4:=(hbx.all 4 _ rfl).1; have k5:=(hbx.all 5 _ rfl).1; have k6:=(hbx.all 6 _ rfl).1; have k7:=(hbx.all 7 _ rfl).1; have k8:=(hbx.all 8 _ rfl).1; have k9:=(hbx.all 9 _ rfl).1; have k10:=(hbx.all 10 _ rfl).1; have k11:=(hbx.all 11 _ rfl).1; have k12:=(hbx.all 12 _ rfl).1; have HOl:=Hj hO; have HAP:=Hj hap; have HBl:=Hj bl; clear hO bl hbx hap)
    | (go_at_call 82; refine (Uh KR _ (Uh HBl)).mono ?_; rintro _ wk ⟨L,hLs,rfl,hL,bk⟩; have bk':Below wb.heap.size wb wk:=(Uh HBl).trans (bk.mono (Uh HBl).size); have hls:LsI wk L R (rowL st cols):=hL.lsI (Uh HN wk bk').2.2.1 (by omega) (Uh HM); have hbx:=(Uh HN wk bk').1; clear k0 k1 k2 k3 k4 k5 k6 k7 k8 k9 k10 k11 k12; have k0:=(hbx.all 0 _ rfl).1; have k1:=(hbx.all 1 _ rfl).1; have k2:=(hbx.all 2 _ rfl).1; have k3:=(hbx.all 3 _ rfl).1; have k4:=(hbx.all 4 _ rfl).1; have k5:=(hbx.all 5 _ rfl).1; have k6:=(hbx.all 6 _ rfl).1; have k7:=(hbx.all 7 _ rfl).1; have k8:=(hbx.all 8 _ rfl).1; have k9:=(hbx.all 9 _ rfl).1; have k10:=(hbx.all 10 _ rfl).1; have k11:=(hbx.all 11 _ rfl).1; have k12:=(hbx.all 12 _ rfl).1; have HOk:=Hj (ownsRow_chg (S:=fun _ => False) (Uh HOl) (Chg.of_below bk) (fun _ _ x => x)); have HBk:=Hj bk'; have HLs:=Hj hls; clear bk bk' hbx hls)
    | (go_at_call 124; refine (cwith_two w.heap.size (.slice ap 2 cp) L R k (rowL st cols) (u:Int) (v:Int) wk (Uh HOk) (Uh HN wk (Uh HBk)).2.2.2.size (Uh HLs) (by omega) (Uh HK u v rfl).1 (Uh HK u v rfl).2.1 (Uh HK u v rfl).2.2).mono ?_; rintro _ w9 ⟨v9,rfl,hO9,c9⟩; have HO9:=Hj hO9; have hap:∀ j,(Value.slice ap 2 cp).ownBlock = some j → wb.heap.size ≤ j:=(by intro j hj; cases ap with | none => cases hj | some z => (cases hj; exact Uh HAP z rfl)); have HF:=Hj (((Uh HN wk (Uh HBk)).2.2.2).trans (c9.below (Uh HN wk (Uh HBk)).2.2.2.size (fun j hj e => by have:=hap j e; omega))); have hbx:=(Uh HN wk (Uh HBk)).1.chg c9 (fun e => by have:=hap _ e; have:=(Uh HN wb (Below.refl _ _)).1.lt; omega); clear k0 k1 k2 k3 k4 k5 k6 k7 k8 k9 k10 k11 k12; have k0:=(hbx.all 0 _ rfl).1; have k1:=(hbx.all 1 _ rfl).1; have k2:=(hbx.all 2 _ rfl).1; have k3:=(hbx.all 3 _ rfl).1; have k4:=(hbx.all 4 _ rfl).1; have k5:=(hbx.all 5 _ rfl).1; have k6:=(hbx.all 6 _ rfl).1; have k7:=(hbx.all 7 _ rfl).1; have k8:=(hbx.all 8 _ rfl).1; have k9:=(hbx.all 9 _ rfl).1; have k10:=(hbx.all 10 _ rfl).1; have k11:=(hbx.all 11 _ rfl).1; have k12:=(hbx.all 12 _ rfl).1; clear hO9 c9 hap hbx))
  clear k0 k1 k2 k3 k4 k5 k6 k7 k8 k9 k10 k11 k12
  go_wp2_with fail
  try go_ret
  exact ⟨_,rfl,Uh HO9,Uh HF⟩
set_option maxRecDepth 100000 in
set_option maxHeartbeats 16000000 in
theorem crowF_any (f0 f1 f2 f3:Value) (wd:Bool) (R width:Nat) (a1:Option Addr) (n1 c1:Nat) (a2:Option Addr) (n2 c2 m:Nat) (b1:Option Addr) (m1 d1:Nat) (b2:Option Addr) (m2 d2:Nat) (st cols S C:List Int) (ac:Option Addr) (cc:Nat) (xs:List Int) (w:World) (g1:SlI w a1 n1 c1 st) (g2:SlI w a2 n2 c2 cols) (gb1:n1 ≤ 17592186044000) (gb2:n2 ≤ 17592186044000) (gm:MayP (R:Int) (width:Int) st cols) (h1:SlI w b1 m1 d1 S) (h2:SlI w b2 m2 d2 C) (h3:SlI w ac m cc xs) (hb1:m1 ≤ 17592186044000) (hb2:m2 ≤ 17592186044000) (hm:MayP (m:Int) (m:Int) S C) (o:Option (Nat × Nat)) (ho:PrO (adG S C m) (fun i => xs.getD i 0) o) (k:Nat) (hk:∀ u v,o = some (u,v) → k < width ∧ InL ((fun c => grR (InC st cols) c R) k) (u:Int) (v:Int) ∧ ∀ j,j < k → ¬ InL ((fun c => grR (InC st cols) c R) j) (u:Int) (v:Int)) :
  Calls Tryz.prog 99 #[taV f0 f1 f2 f3 wd R width a1 n1 c1 a2 n2 c2 m b1 m1 d1 b2 m2 d2,.slice ac m cc] w fun e w' => OwA (lnL k o) w w' e:=by
 have hR8:R ≤ 128 ∧ width ≤ 128:=by have:=gm.head.fit; omega
 obtain ⟨wb,hwb⟩:∃ x,w.alloc (.cells #[f0,f1,f2,f3,.bool wd,.int .i64 (R:Int),.int .i64 (width:Int),.slice a1 n1 c1,.slice a2 n2 c2,.int .i64 (m:Int),.int .i64 (m:Int),.slice b1 m1 d1,.slice b2 m2 d2] 80) = x:=⟨_,rfl⟩
 have bb:Below w.heap.size w wb:=by rw [← hwb]; exact bAl
 have hT:=BoxP.made w #[f0,f1,f2,f3,.bool wd,.int .i64 (R:Int),.int .i64 (width:Int),.slice a1 n1 c1,.slice a2 n2 c2,.int .i64 (m:Int),.int .i64 (m:Int),.slice b1 m1 d1,.slice b2 m2 d2] 80
 rw [hwb] at hT
 have HN:=Hj (show ∀ W,Below wb.heap.size wb W → BoxP W w.heap.size [f0,f1,f2,f3,.bool wd,.int .i64 (R:Int),.int .i64 (width:Int),.slice a1 n1 c1,.slice a2 n2 c2,.int .i64 (m:Int),.int .i64 (m:Int),.slice b1 m1 d1,.slice b2 m2 d2] ∧ SlI W a1 n1 c1 st ∧ SlI W a2 n2 c2 cols ∧ Below w.heap.size w W from fun W b => ⟨hT.below b,(g1.below bb).below b,(g2.below bb).below b,bb.trans (b.mono bb.size)⟩)
 have KP:=Hj (fun W (b:Below wb.heap.size wb W) => cpair_any f0 f1 f2 f3 wd (R:Int) (width:Int) a1 n1 c1 a2 n2 c2 m b1 m1 d1 b2 m2 d2 S C ac cc xs W ((h1.below bb).below b) ((h2.below bb).below b) ((h3.below bb).below b) hb1 hb2 hm o ho)
 have KR:=Hj (fun W (b:Below wb.heap.size wb W) => ccols_any R width a1 a2 n1 c1 n2 c2 st cols W ((g1.below bb).below b) ((g2.below bb).below b) (by omega) (by omega) gm)
 unfold taV at KP
 unfold patV at KR
 have HM:=Hj gm
 have HK:=Hj hk
 have p0:=(hT.all 0 _ rfl).1
 have p1:=(hT.all 1 _ rfl).1
 have p2:=(hT.all 2 _ rfl).1
 have p3:=(hT.all 3 _ rfl).1
 have p4:=(hT.all 4 _ rfl).1
 have p5:=(hT.all 5 _ rfl).1
 have p6:=(hT.all 6 _ rfl).1
 have p7:=(hT.all 7 _ rfl).1
 have p8:=(hT.all 8 _ rfl).1
 have p9:=(hT.all 9 _ rfl).1
 have p10:=(hT.all 10 _ rfl).1
 have p11:=(hT.all 11 _ rfl).1
 have p12:=(hT.all 12 _ rfl).1
 have hwsz:=bb.size
 clear hT bb g1 g2 gm h1 h2 h3 hm ho hk
 cases o with
 | none =>
  have HQ:=Hj (show ∀ W,Below wb.heap.size wb W → Calls Tryz.prog 92 #[.agg #[f0,f1,f2,f3,.bool wd,.int .i64 (R:Int),.int .i64 (width:Int),.slice a1 n1 c1,.slice a2 n2 c2,.int .i64 (m:Int),.int .i64 (m:Int),.slice b1 m1 d1,.slice b2 m2 d2],.slice ac m cc] W fun e w' => ∃ ap cp,e = .returned (.slice ap 0 cp) ∧ w'.ownsRow w.heap.size 3 1 (.slice ap 0 cp) 0 (valsI []) ∧ (∀ z,ap = some z → wb.heap.size ≤ z.block) ∧ Below wb.heap.size wb w' from fun W b => (Uh KP W b).mono (fun e w' ⟨vp,he,hO,bl⟩ => by
   obtain ⟨ap,cp,hv,hsl⟩:=own_slI (n:=0) (xs:=[]) hO
   subst hv
   exact ⟨ap,cp,he,own_mono (n:=0) (xs:=valsI []) hO (Nat.le_trans hwsz b.size),fun z hz => Nat.le_trans b.size (own_ge (n:=0) (xs:=valsI []) hO z.block (by rw [hz]; rfl)).1,b.trans (bl.mono b.size)⟩))
  clear KP
  unfold taV
  go_enter Tryz.func99,Tryz.ntmps99
  go_wp2_with fail
  go_region_held3 (fun w' => w'.cell? ⟨w.heap.size,0,none⟩ = some (f0) ∧ w'.cell? ⟨w.heap.size,1,none⟩ = some (f1) ∧ w'.cell? ⟨w.heap.size,2,none⟩ = some (f2) ∧ w'.cell? ⟨w.heap.size,3,none⟩ = some (f3) ∧ w'.cell? ⟨w.heap.size,4,none⟩ = some (.bool wd) ∧ w'.cell? ⟨w.heap.size,5,none⟩ = some (.int .i64 (R:Int)) ∧ w'.cell? ⟨w.heap.size,6,none⟩ = some (.int .i64 (width:Int)) ∧ w'.cell? ⟨w.heap.size,7,none⟩ = some (.slice a1 n1 c1) ∧ w'.cell? ⟨w.heap.size,8,none⟩ = some (.slice a2 n2 c2) ∧ w'.cell? ⟨w.heap.size,9,none⟩ = some (.int .i64 (m:Int)) ∧ w'.cell? ⟨w.heap.size,10,none⟩ = some (.int .i64 (m:Int)) ∧ w'.cell? ⟨w.heap.size,11,none⟩ = some (.slice b1 m1 d1) ∧ w'.cell? ⟨w.heap.size,12,none⟩ = some (.slice b2 m2 d2)) (first | (exact ⟨k0,k1,k2,k3,k4,k5,k6,k7,k8,k9,k10,k11,k12⟩) | go_keep)
   (first
    | (go_at_call 92; refine (Uh HQ _ (by first | exact (Below.refl _ _).drew | exact Below.refl _ _)).mono ?_; rintro _ wl ⟨ap,cp,rfl,hO,hap,bl⟩; have hbx:=(Uh HN wl bl).1; have k0:=(hbx.all 0 _ rfl).1; have k1:=(hbx.all 1 _ rfl).1; have k2:=(hbx.all 2 _ rfl).1; have k3:=(hbx.all 3 _ rfl).1; have k4:=(hbx.all 4 _ rfl).1; have k5:=(hbx.all 5 _ rfl).1; have k6:=(hbx.all 6 _ rfl).1; have k7:=(hbx.all 7 _ rfl).1; have k8:=(hbx.all 8 _ rfl).1; have k9:=(hbx.all 9 _ rfl).1; have k10:=(hbx.all 10 _ rfl).1; have k11:=(hbx.all 11 _ rfl).1; have k12:=(hbx.all 12 _ rfl).1; have HOl:=Hj hO; have HAP:=Hj hap; have HBl:=Hj bl; clear hO bl hbx hap)
    | (go_at_call 126; refine (Uh KR _ (Uh HBl)).mono ?_; rintro _ wk ⟨tq,L,fq,hLt,rfl,hL,bk⟩; have bk':Below wb.heap.size wb wk:=(Uh HBl).trans (bk.mono (Uh HBl).size); have hls:LsI wk L width (fun c => grR (InC st cols) c R):=hL.lsI (fun r _ => Nat.le_trans (grR_len _ _ _) (by omega)); have hbx:=(Uh HN wk bk').1; clear k0 k1 k2 k3 k4 k5 k6 k7 k8 k9 k10 k11 k12; have k0:=(hbx.all 0 _ rfl).1; have k1:=(hbx.all 1 _ rfl).1; have k2:=(hbx.all 2 _ rfl).1; have k3:=(hbx.all 3 _ rfl).1; have k4:=(hbx.all 4 _ rfl).1; have k5:=(hbx.all 5 _ rfl).1; have k6:=(hbx.all 6 _ rfl).1; have k7:=(hbx.all 7 _ rfl).1; have k8:=(hbx.all 8 _ rfl).1; have k9:=(hbx.all 9 _ rfl).1; have k10:=(hbx.all 10 _ rfl).1; have k11:=(hbx.all 11 _ rfl).1; have k12:=(hbx.all 12 _ rfl).1; have HOk:=Hj (ownsRow_chg (S:=fun _ => False) (Uh HOl) (Chg.of_below bk) (fun _ _ x => x)); have HBk:=Hj bk'; have HLs:=Hj hls; clear bk bk' hbx hls)
    | (go_at_call 124; refine (cwith_nil ap cp _ wk).mono ?_; rintro _ w9 ⟨rfl,b9⟩; have hb9:=(Uh HN w9 ((Uh HBk).trans (b9.mono (Uh HBk).size))); have HF:=Hj hb9.2.2.2; have hbx:=hb9.1; clear k0 k1 k2 k3 k4 k5 k6 k7 k8 k9 k10 k11 k12; have k0:=(hbx.all 0 _ rfl).1; have k1:=(hbx.all 1 _ rfl).1; have k2:=(hbx.all 2 _ rfl).1; have k3:=(hbx.all 3 _ rfl).1; have k4:=(hbx.all 4 _ rfl).1; have k5:=(hbx.all 5 _ rfl).1; have k6:=(hbx.all 6 _ rfl).1; have k7:=(hbx.all 7 _ rfl).1; have k8:=(hbx.all 8 _ rfl).1; have k9:=(hbx.all 9 _ rfl).1; have k10:=(hbx.all 10 _ rfl).1; have k11:=(hbx.all 11 _ rfl).1; have k12:=(hbx.all 12 _ rfl).1; clear b9 hbx hb9))
  clear k0 k1 k2 k3 k4 k5 k6 k7 k8 k9 k10 k11 k12
  go_wp2_with fail
  try go_ret
  exact ⟨_,rfl,World.ownsRow_nil _ _ _ _,Uh HF⟩
 | some q =>
  obtain ⟨u,v⟩:=q
  have HQ:=Hj (show ∀ W,Below wb.heap.size wb W → Calls Tryz.prog 92 #[.agg #[f0,f1,f2,f3,.bool wd,.int .i64 (R:Int),.int .i64 (width:Int),.slice a1 n1 c1,.slice a2 n2 c2,.int .i64 (m:Int),.int .i64 (m:Int),.slice b1 m1 d1,.slice b2 m2 d2],.slice ac m cc] W fun e w' => ∃ ap cp,e = .returned (.slice ap 2 cp) ∧ w'.ownsRow w.heap.size 3 1 (.slice ap 2 cp) 2 (valsI [(u:Int),(v:Int)]) ∧ (∀ z,ap = some z → wb.heap.size ≤ z.block) ∧ Below wb.heap.size wb w' from fun W b => (Uh KP W b).mono (fun e w' ⟨vp,he,hO,bl⟩ => by
   obtain ⟨ap,cp,hv,hsl⟩:=own_slI (n:=2) (xs:=[(u:Int),(v:Int)]) hO
   subst hv
   exact ⟨ap,cp,he,own_mono (n:=2) (xs:=valsI [(u:Int),(v:Int)]) hO (Nat.le_trans hwsz b.size),fun z hz => Nat.le_trans b.size (own_ge (n:=2) (xs:=valsI [(u:Int),(v:Int)]) hO z.block (by rw [hz]; rfl)).1,b.trans (bl.mono b.size)⟩))
  clear KP
  unfold taV
  go_enter Tryz.func99,Tryz.ntmps99
  go_wp2_with fail
  go_region_held3 (fun w' => w'.cell? ⟨w.heap.size,0,none⟩ = some (f0) ∧ w'.cell? ⟨w.heap.size,1,none⟩ = some (f1) ∧ w'.cell? ⟨w.heap.size,2,none⟩ = some (f2) ∧ w'.cell? ⟨w.heap.size,3,none⟩ = some (f3) ∧ w'.cell? ⟨w.heap.size,4,none⟩ = some (.bool wd) ∧ w'.cell? ⟨w.heap.size,5,none⟩ = some (.int .i64 (R:Int)) ∧ w'.cell? ⟨w.heap.size,6,none⟩ = some (.int .i64 (width:Int)) ∧ w'.cell? ⟨w.heap.size,7,none⟩ = some (.slice a1 n1 c1) ∧ w'.cell? ⟨w.heap.size,8,none⟩ = some (.slice a2 n2 c2) ∧ w'.cell? ⟨w.heap.size,9,none⟩ = some (.int .i64 (m:Int)) ∧ w'.cell? ⟨w.heap.size,10,none⟩ = some (.int .i64 (m:Int)) ∧ w'.cell? ⟨w.heap.size,11,none⟩ = some (.slice b1 m1 d1) ∧ w'.cell? ⟨w.heap.size,12,none⟩ = some (.slice b2 m2 d2)) (first | (exact ⟨k0,k1,k2,k3,k4,k5,k6,k7,k8,k9,k10,k11,k12⟩) | go_keep)
   (first
    | (go_at_call 92; refine (Uh HQ _ (by first | exact (Below.refl _ _).drew | exact Below.refl _ _)).mono ?_; rintro _ wl ⟨ap,cp,rfl,hO,hap,bl⟩; have hbx:=(Uh HN wl bl).1; have k0:=(hbx.all 0 _ rfl).1; have k1:=(hbx.all 1 _ rfl).1; have k2:=(hbx.all 2 _ rfl).1; have k3:=(hbx.all 3 _ rfl).1; have k4:=(hbx.all 4 _ rfl).1; have k5:=(hbx.all 5 _ rfl).1; have k6:=(hbx.all 6 _ rfl).1; have k7:=(hbx.all 7 _ rfl).1; have k8:=(hbx.all 8 _ rfl).1; have k9:=(hbx.all 9 _ rfl).1; have k10:=(hbx.all 10 _ rfl).1; have k11:=(hbx.all 11 _ rfl).1; have k12:=(hbx.all 12 _ rfl).1; have HOl:=Hj hO; have HAP:=Hj hap; have HBl:=Hj bl; clear hO bl hbx hap)
    | (go_at_call 126; refine (Uh KR _ (Uh HBl)).mono ?_; rintro _ wk ⟨tq,L,fq,hLt,rfl,hL,bk⟩; have bk':Below wb.heap.size wb wk:=(Uh HBl).trans (bk.mono (Uh HBl).size); have hls:LsI wk L width (fun c => grR (InC st cols) c R):=hL.lsI (fun r _ => Nat.le_trans (grR_len _ _ _) (by omega)); have hbx:=(Uh HN wk bk').1; clear k0 k1 k2 k3 k4 k5 k6 k7 k8 k9 k10 k11 k12; have k0:=(hbx.all 0 _ rfl).1; have k1:=(hbx.all 1 _ rfl).1; have k2:=(hbx.all 2 _ rfl).1; have k3:=(hbx.all 3 _ rfl).1; have k4:=(hbx.all 4 _ rfl).1; have k5:=(hbx.all 5 _ rfl).1; have k6:=(hbx.all 6 _ rfl).1; have k7:=(hbx.all 7 _ rfl).1; have k8:=(hbx.all 8 _ rfl).1; have k9:=(hbx.all 9 _ rfl).1; have k10:=(hbx.all 10 _ rfl).1; have k11:=(hbx.all 11 _ rfl).1; have k12:=(hbx.all 12 _ rfl).1; have HOk:=Hj (ownsRow_chg (S:=fun _ => False) (Uh HOl) (Chg.of_below bk) (fun _ _ x => x)); have HBk:=Hj bk'; have HLs:=Hj hls; clear bk bk' hbx hls)
    | (go_at_call 124; refine (cwith_two w.heap.size (.slice ap 2 cp) L width k (fun c => grR (InC st cols) c R) (u:Int) (v:Int) wk (Uh HOk) (Uh HN wk (Uh HBk)).2.2.2.size (Uh HLs) (by omega) (Uh HK u v rfl).1 (Uh HK u v rfl).2.1 (Uh HK u v rfl).2.2).mono ?_; rintro _ w9 ⟨v9,rfl,hO9,c9⟩; have HO9:=Hj hO9; have hap:∀ j,(Value.slice ap 2 cp).ownBlock = some j → wb.heap.size ≤ j:=(by intro j hj; cases ap with | none => cases hj | some z => (cases hj; exact Uh HAP z rfl)); have HF:=Hj (((Uh HN wk (Uh HBk)).2.2.2).trans (c9.below (Uh HN wk (Uh HBk)).2.2.2.size (fun j hj e => by have:=hap j e; omega))); have hbx:=(Uh HN wk (Uh HBk)).1.chg c9 (fun e => by have:=hap _ e; have:=(Uh HN wb (Below.refl _ _)).1.lt; omega); clear k0 k1 k2 k3 k4 k5 k6 k7 k8 k9 k10 k11 k12; have k0:=(hbx.all 0 _ rfl).1; have k1:=(hbx.all 1 _ rfl).1; have k2:=(hbx.all 2 _ rfl).1; have k3:=(hbx.all 3 _ rfl).1; have k4:=(hbx.all 4 _ rfl).1; have k5:=(hbx.all 5 _ rfl).1; have k6:=(hbx.all 6 _ rfl).1; have k7:=(hbx.all 7 _ rfl).1; have k8:=(hbx.all 8 _ rfl).1; have k9:=(hbx.all 9 _ rfl).1; have k10:=(hbx.all 10 _ rfl).1; have k11:=(hbx.all 11 _ rfl).1; have k12:=(hbx.all 12 _ rfl).1; clear hO9 c9 hap hbx))
  clear k0 k1 k2 k3 k4 k5 k6 k7 k8 k9 k10 k11 k12
  go_wp2_with fail
  try go_ret
  exact ⟨_,rfl,Uh HO9,Uh HF⟩
end Go.Proofs.YtgjokididdffhaaGreat
