/- Pr7 -/
import Derived.Test.YtlolnaegfponeaaGreatDoorPr5
import Derived.Test.YtlolnaegfponeaaGreatDoorDv7
namespace Go.Proofs.YtlolnaegfponeaaGreatDoor
open Go.RowKit Go.Deep
set_option linter.unusedVariables false
structure Pows (w:World) (T pb po K wt:Nat):Prop where
 ne:pb ≠ T
 at':∀ i,i < K → ∃ a m,w.cell? ⟨pb,po + i,none⟩ = some (.slice a m m) ∧ Sl w a m m (limbs (wt ^ 2 ^ i)) ∧ m ≤ 2048 ∧ ∀ x,a = some x → x.block ≠ T

theorem Pows.upd {w w':World} {T pb po K wt lo up:Nat} (h:Pows w T pb po K wt) (u:Upd T lo up w w'):Pows w' T pb po K wt:=by
 refine ⟨h.ne,fun i hi => ?_⟩
 obtain ⟨a,m,h1,h2,h3,h4⟩:=h.at' i hi
 refine ⟨a,m,?_,h2.chg u.chg (fun x hx _ => h4 x hx),h3,h4⟩
 have hb:=World.block_lt_of_cell? _ _ h1
 have:w'.cell? ⟨pb,po + i,none⟩ = w.cell? ⟨pb,po + i,none⟩:=by unfold World.cell?; simp only; rw [u.block pb hb h.ne]
 rw [this]; exact h1
theorem Pows.bel {w w':World} {T pb po K wt:Nat} (h:Pows w T pb po K wt) (k:Below w.heap.size w w'):Pows w' T pb po K wt:=by
 refine ⟨h.ne,fun i hi => ?_⟩
 obtain ⟨a,m,h1,h2,h3,h4⟩:=h.at' i hi
 refine ⟨a,m,?_,h2.below k,h3,h4⟩
 have hb:=World.block_lt_of_cell? _ _ h1
 have:w'.cell? ⟨pb,po + i,none⟩ = w.cell? ⟨pb,po + i,none⟩:=by unfold World.cell?; simp only; rw [k.block pb hb]
 rw [this]; exact h1

def WrPost (w:World) (T o L N b:Nat) (e:Ending) (w':World):Prop :=
 e = .returned (.tuple #[]) ∧ FnB w' T o L (fun p => chrN (dgt N b (L - 1 - p))) ∧ Upd T o (o + L) w w'

theorem FnB.left {w:World} {T o L h:Nat} {f:Nat → Nat} (g:FnB w T o L f) (hh:h ≤ L):FnB w T o h f:=fun i hi => g i (by omega)
theorem FnB.right {w:World} {T o L h:Nat} {f:Nat → Nat} (g:FnB w T o L f) (hh:h ≤ L):FnB w T (o + h) (L - h) (fun i => f (h + i)):=fun i hi => by
 have:=g (h + i) (by omega)
 rwa [← Nat.add_assoc] at this

theorem halves {w3 w4:World} {T o h N P b:Nat} (hb:0 < b) (hP:P = b ^ h) (f3:FnB w3 T o h (fun p => chrN (dgt (N / P) b (h - 1 - p)))) (f4:FnB w4 T (o + h) h (fun p => chrN (dgt (N % P) b (h - 1 - p)))) (u4:Upd T (o + h) (o + h + h) w3 w4) :
  FnB w4 T o (2 * h) (fun p => chrN (dgt N b (2 * h - 1 - p))):=by
 intro i hi
 by_cases hl:i < h
 ·have:=(f3.upd u4 (.inr (.inl (Nat.le_refl _)))) i hl
  simp only at this ⊢
  rw [hP,dgt_div,show h + (h - 1 - i) = 2 * h - 1 - i from by omega] at this
  exact this
 ·have:=f4 (i - h) (by omega)
  simp only at this ⊢
  rw [hP,dgt_mod N b hb (by omega),show h - 1 - (i - h) = 2 * h - 1 - i from by omega,show o + h + (i - h) = o + i from by omega] at this
  exact this

theorem clone_size (a:Option Addr) (n c:Nat) (xs:List Nat) (w:World) (h:Sl w a n c xs) (hb:n ≤ 70368744177600) :
  Calls Tryz.prog 176 #[.slice a n c] w fun e w' => e = .returned (.slice (some ⟨w.heap.size,0,none⟩) n n) ∧ Fn w' w.heap.size 0 n (fun i => xs.getD i 0) ∧ Below w.heap.size w w' ∧ w.heap.size < w'.heap.size:=by
 have hmk:=make_len n hb
 have HF:=Hd (Fn.made w n 43)
 have HS:=Hd (h.below ((Below.refl w.heap.size w).alloc (Nat.le_refl _) (.cells (madeCells #[.int .u32 0] n) 43)))
 have HL:=Hd h.len
 go_enter Tryz.func176,Tryz.ntmps176
 go_wp2_with (refine wpList_copy_row rfl _ _ rfl w.heap.size 0 n n a n c rfl rfl _ (Uh HF) xs (Uh HS) (Nat.le_refl _) ?_)
 go_ret
 have hu:=Upd.setCells w.heap.size 0 n (vals xs) 0 (w.alloc (.cells (madeCells #[.int .u32 0] n) 43)) (Nat.le_refl _) (by simp [vals,Uh HL])
 refine ⟨rfl,?_,?_,?_⟩
 ·refine ((Uh HF).copied xs (by rw [Uh HL]; exact Nat.le_refl _)).congr ?_
  intro i hi
  simp [Uh HL,hi]
 ·refine ((Below.refl w.heap.size w).alloc (Nat.le_refl _) (.cells (madeCells #[.int .u32 0] n) 43)).trans ?_
  exact hu.below (Nat.le_refl _) (by simp)
 ·have:=hu.size
  simp at this
  omega

set_option maxHeartbeats 8000000 in
theorem write_short (lv T o L cT : Nat) (a : Option Addr) (m c N b cnt wt : Nat) (pv : Value) (t0 : Nat → Nat) (w : World) (hL : L = cnt * 2 ^ lv) (hL2 : L ≤ 1000000000) (hb : 2 ≤ b) (hb2 : b ≤ 36) (hch : Chunk b cnt) (hwt : b ^ cnt = wt)
    (hm : m ≤ 24) (hs : Sl w a m c (limbs N)) (hf : FnB w T o L t0) :
    Calls Tryz.prog 184 #[writerV b cnt wt pv, .slice (some ⟨T, o, none⟩) L cT, .slice a m c, .int .i64 (lv : Nat)] w fun e w' => WrPost w T o L N b e w' := by
  have hc1 := hch.pos
  have hLp : 0 < L := by rw [hL]; exact Nat.mul_pos hc1 (Nat.pow_pos (by decide))
  have hT : T < w.heap.size := World.block_lt_of_cell? _ _ (hf 0 hLp).1
  have bel := (Below.refl w.heap.size w).alloc (Nat.le_refl _) (.cells #[.int .i64 (b : Nat), .int .i64 (cnt : Nat), .int .u32 (wt : Nat), pv] 222)
  have St := St4.made w b cnt wt pv 222
  obtain ⟨wa, hwa⟩ : ∃ wa, w.alloc (.cells #[.int .i64 (b : Nat), .int .i64 (cnt : Nat), .int .u32 (wt : Nat), pv] 222) = wa := ⟨_, rfl⟩
  rw [hwa] at bel St
  have bel := bel.drew
  have St : St4 wa.drew w.heap.size b cnt wt pv := St.keep (fun i => rfl)
  have KC := hide (clone_size a m c (limbs N) wa.drew (hs.below bel) (by omega))
  have HW := hide (fun (w1 : World) (bn : Nat) (h1 : w.heap.size ≤ bn) (h2 : bn < w1.heap.size) (hB : Below w.heap.size w w1) (hN : NumW w1 (some ⟨bn, 0, none⟩) m bn 0 N) => writeShort_any w w1 T o L cT bn 0 (some ⟨bn, 0, none⟩) m b cnt wt (2 ^ lv) N pv t0 hL hL2 hb hb2 hch hwt hT h1 h2 (by omega) (hf.bel hB) hN (Upd.of_below hT hB))
  have HL := hide hs.len
  have HB := hide bel
  have HSt := hide St
  have d0 := St.c0
  have d1 := St.c1
  have d2 := St.c2
  have d3 := St.c3
  have hm' : (m:Int) ≤ 24 := by omega
  have hwS : w.heap.size < wa.drew.heap.size := St.lt
  clear hs hf hch hwt hL bel St
  unfold writerV at HW ⊢
  go_enter Tryz.func184, Tryz.ntmps184
  go_wp2_with fail
  go_region_with (first
    | (go_at_call 176
       refine (unhide KC).mono ?_
       clear KC
       rintro _ w1 ⟨rfl, f1, b1, z1⟩
       have hSt1 : St4 w1 w.heap.size b cnt wt pv := (unhide HSt).keep (fun i => by unfold World.cell?; simp only; rw [b1.block _ hwS])
       have k0 := hSt1.c0
       have k1 := hSt1.c1
       have k2 := hSt1.c2
       have k3 := hSt1.c3
       have hN1 : NumW w1 (some ⟨wa.drew.heap.size, 0, none⟩) m wa.drew.heap.size 0 N := .inr ⟨_, rfl, f1, fun i _ => (limbs_rep N).ok.getD i, by rw [valF_ge _ _ (by rw [unhide HL]; exact Nat.le_refl _), (limbs_rep N).val]⟩
       have hB1 : Below w.heap.size w w1 := (unhide HB).trans (b1.mono (unhide HB).size)
       have KW := hide (unhide HW w1 wa.drew.heap.size (unhide HB).size z1 hB1 hN1)
       clear f1 b1 hN1 hB1 HW hSt1 z1)
    | (go_at_call 205
       refine (unhide KW).mono ?_
       clear KW
       rintro _ w2 ⟨rfl, f2, u2⟩
       have H2 := hide (And.intro f2 u2)
       clear f2 u2))
  all_goals
    go_wp2
    go_end0
    refine ⟨rfl, (unhide H2).1.congr (fun p hp => by unfold txf; rw [if_pos (by omega)]), (unhide H2).2⟩
open Go.RowKit Go.Deep
set_option linter.unusedVariables false

structure WrPre (w:World) (lv T o L cT:Nat) (a:Option Addr) (m c N b cnt wt pb po K:Nat) (t0:Nat → Nat):Prop where
 hL:L = cnt * 2 ^ lv
 hc:L ≤ cT
 hs:Sl w a m c (limbs N)
 ne:∀ x,a = some x → limbs N ≠ [] → x.block ≠ T
 hm:m ≤ 2048
 hN:N < wt ^ 2 ^ lv
 hK:lv ≤ K
 ps:Pows w T pb po K wt
 fb:FnB w T o L t0

set_option maxHeartbeats 16000000 in
theorem write_long (l T o L cT:Nat) (a:Option Addr) (m c N b cnt wt pb po K cp:Nat) (t0:Nat → Nat) (w:World) (hb:2 ≤ b) (hb2:b ≤ 36) (hch:Chunk b cnt) (hwt:b ^ cnt = wt) (hL2:L ≤ 1000000000) (hK2:K ≤ 1000) (hcT:cT ≤ 1000000000) (hm:¬ m ≤ 24)
  (h:WrPre w (l + 1) T o L cT a m c N b cnt wt pb po K t0)
  (ih:∀ (o L cT:Nat) (a:Option Addr) (m c N:Nat) (t0:Nat → Nat) (w:World),L ≤ 1000000000 → cT ≤ 1000000000 → WrPre w l T o L cT a m c N b cnt wt pb po K t0 →
   Calls Tryz.prog 184 #[writerV b cnt wt (.slice (some ⟨pb,po,none⟩) K cp),.slice (some ⟨T,o,none⟩) L cT,.slice a m c,.int .i64 (l:Nat)] w fun e w' => WrPost w T o L N b e w') :
  Calls Tryz.prog 184 #[writerV b cnt wt (.slice (some ⟨pb,po,none⟩) K cp),.slice (some ⟨T,o,none⟩) L cT,.slice a m c,.int .i64 ((l + 1:Nat):Int)] w fun e w' => WrPost w T o L N b e w':=by
 obtain ⟨H,hH⟩:∃ H,cnt * 2 ^ l = H:=⟨_,rfl⟩
 have hL:L = 2 * H:=by rw [h.hL,Nat.pow_succ,← hH,Nat.mul_comm (2 ^ l) 2,Nat.mul_left_comm]
 have hH1:0 < H:=by rw [← hH]; exact Nat.mul_pos hch.pos (Nat.pow_pos (by decide))
 have hT:T < w.heap.size:=World.block_lt_of_cell? _ _ (h.fb 0 (by omega)).1
 obtain ⟨P,hP⟩:∃ P,wt ^ 2 ^ l = P:=⟨_,rfl⟩
 have hPb:P = b ^ H:=by rw [← hP,← hwt,← hH,Nat.pow_mul]
 have hP0:0 < P:=by rw [hPb]; exact Nat.pow_pos (by omega)
 have hNP:N < P * P:=by
  have:=h.hN
  rw [Nat.pow_succ,Nat.mul_comm (2 ^ l) 2,Nat.two_mul,Nat.pow_add,hP] at this
  exact this
 have hNq:N / P < P:=(Nat.div_lt_iff_lt_mul hP0).2 hNP
 have hNr:N % P < P:=Nat.mod_lt _ hP0
 have hlK:=h.hK
 obtain ⟨ai,mi,p1,p2,p3,p4⟩:=h.ps.at' l (by omega)
 rw [hP] at p2
 have bel:=(Below.refl w.heap.size w).alloc (Nat.le_refl _) (.cells #[.int .i64 (b:Nat),.int .i64 (cnt:Nat),.int .u32 (wt:Nat),.slice (some ⟨pb,po,none⟩) K cp] 222)
 have St:=St4.made w b cnt wt (.slice (some ⟨pb,po,none⟩) K cp) 222
 obtain ⟨wa,hwa⟩:∃ wa,w.alloc (.cells #[.int .i64 (b:Nat),.int .i64 (cnt:Nat),.int .u32 (wt:Nat),.slice (some ⟨pb,po,none⟩) K cp] 222) = wa:=⟨_,rfl⟩
 rw [hwa] at bel St
 have hpb:=World.block_lt_of_cell? _ _ p1
 have p1a:wa.cell? ⟨pb,po + l,none⟩ = some (.slice ai mi mi):=by rw [← p1]; unfold World.cell?; simp only; rw [bel.block pb hpb]
 have d0:=St.c0
 have d1:=St.c1
 have d2:=St.c2
 have d3:=St.c3
 have hm':¬ (m:Int) ≤ 24:=by omega
 have hl1:((l + 1:Nat):Int) - 1 = (l:Int):=by omega
 have hl2:(l:Int) < (K:Int):=by omega
 have hh1:(L:Int).tdiv 2 = (H:Int):=by rw [Int.tdiv_eq_ediv_of_nonneg (by omega)]; omega
 have hh2:(L:Int) / 2 = (H:Int):=by omega
 have hLH:(H:Int) ≤ (L:Int):=by omega
 have HSt:=Hd St
 have HB:=Hd bel
 have H0:=Hd h
 have HI:=Hd ih
 have HPs:=Hd p2
 have HHe:=Hd hH.symm
 clear h ih p1 p2 bel St hch hwt hH
 unfold writerV at HI ⊢
 go_enter Tryz.func184,Tryz.ntmps184
 go_wp2_with fail
 have hPne:limbs P ≠ []:=by
  intro e
  have:=(limbs_rep P).val
  rw [e] at this
  simp [val] at this
  omega
 have KD:=divide_any a ai m c mi mi (limbs N) (limbs P) wa ((Uh H0).hs.below (Uh HB)) ((Uh HPs).below (Uh HB)) (limbs_rep N).ok (limbs_rep P).ok (limbs_rep N).norm (limbs_rep P).norm (Uh H0).hm hPne
 rw [(limbs_rep N).val,(limbs_rep P).val] at KD
 refine KD.mono ?_
 clear KD
 rintro _ w1 ⟨aq,mq,zq,ar,mr,zr,rfl,s1,r1,q1,s2,r2,q2,hne,hB⟩
 rw [r1.eq] at s1
 rw [r2.eq] at s2
 have hsz:=(Uh HB).size
 have hwS:w.heap.size < wa.heap.size:=(Uh HSt).lt
 have hb1:Below w.heap.size w w1.drew:=((Uh HB).trans (hB.mono hsz)).drew
 have hNm:N < 4294967296 ^ m:=by
  have h1:=val_lt (limbs_rep N).ok
  rw [(limbs_rep N).val,(Uh H0).hs.len] at h1
  exact h1
 have hmq:mq ≤ 2048:=by
  have h1:=rep_len_leS (limbs_rep (N / P)) (j:=m) (Nat.lt_of_le_of_lt (Nat.div_le_self _ _) hNm)
  have h2:=s1.len
  have:=(Uh H0).hm
  omega
 have hmr:mr ≤ 2048:=by
  have h1:=rep_len_leS (limbs_rep (N % P)) (j:=m) (Nat.lt_of_le_of_lt (Nat.mod_le _ _) hNm)
  have h2:=s2.len
  have:=(Uh H0).hm
  omega
 have neq:∀ x,aq = some x → x.block ≠ T:=fun x hx => by have:=q1 x hx; omega
 have ner:∀ x,ar = some x → x.block ≠ T:=fun x hx => by have:=q2 x hx; omega
 have St1:St4 w1.drew w.heap.size b cnt wt (.slice (some ⟨pb,po,none⟩) K cp):=(Uh HSt).keep (fun i => by show w1.cell? _ = _; unfold World.cell?; simp only; rw [hB.block _ hwS])
 have ps1:=(Uh H0).ps.bel hb1
 have fb1:=(Uh H0).fb.bel hb1
 have K1:=Hd (Uh HI o H H aq mq mq (N / P) t0 w1.drew (by omega) (by omega) ⟨Uh HHe,Nat.le_refl _,s1.below (Below.refl _ _).drew,fun x hx _ => neq x hx,hmq,by rw [hP]; exact hNq,by omega,ps1,fb1.left (by omega)⟩)
 have HX:=Hd (And.intro (s2.below (Below.refl _ _).drew) (And.intro St1 (And.intro ps1 (And.intro fb1 (And.intro hb1 ner)))))
 have e0:=St1.c0
 have e1:=St1.c1
 have e2:=St1.c2
 have e3:=St1.c3
 have hST:w.heap.size ≠ T:=by omega
 have hcc:=(Uh H0).hc
 have v1:(H:Int) ≤ (cT:Int):=by omega
 have v2:(H:Int) ≤ 2 * (H:Int):=by omega
 have v3:H ≤ cT:=by omega
 have v4:H ≤ 2 * H:=by omega
 have v5:2 * (H:Int) - (H:Int) = (H:Int):=by omega
 have v6:2 * H - H = H:=by omega
 obtain ⟨C,hC⟩:∃ C,cT - H = C:=⟨_,rfl⟩
 have v7:(cT:Int) - (H:Int) = (C:Int):=by omega
 have HC:=Hd hC
 have v8:¬ cT = H:=by omega
 have wl:IntKind.i64.wrap (l:Int) = (l:Int):=by rw [IntKind.wrap_i64]; omega
 have wl2:IntKind.i64.wrap ((l:Int) + 1 - 1) = (l:Int):=by rw [IntKind.wrap_i64]; omega
 have HNum:=Hd (And.intro hPb (And.intro hNr hP))
 clear hP hPb hP0 hNP hNq hNr hh1 hh2 hLH hwa hsz hNm p3 p4 hC hlK
 clear s1 s2 r1 r2 q1 q2 hne hB St1 ps1 fb1 hb1 neq ner HSt HPs hPne d0 d1 d2 d3 p1a
 go_wp2_with fail
 go_region_with (go_at_call 184; refine (Uh K1).mono ?_; clear K1; rintro _ w2 ⟨rfl,f2,u2⟩; have H2:=Hd (And.intro f2 u2); clear f2 u2)
 all_goals
  obtain ⟨f2,u2⟩:=Uh H2
  obtain ⟨s2,St1,ps1,fb1,hb1,ner⟩:=Uh HX
  have St2:St4 w2.drew w.heap.size b cnt wt (.slice (some ⟨pb,po,none⟩) K cp):=(St1.upd u2 hST).keep (fun i => rfl)
  have fr:FnB w2.drew T (o + H) H (fun i => t0 (H + i)):=by
   have h1:FnB w1.drew T (o + H) (L - H) (fun i => t0 (H + i)):=fb1.right (by omega)
   rw [show L - H = H from by omega] at h1
   exact (h1.upd u2 (.inr (.inr (Nat.le_refl _)))).bel (Below.refl _ _).drew
  have K2:=Hd (Uh HI (o + H) H (cT - H) ar mr mr (N % P) (fun i => t0 (H + i)) w2.drew (by omega) (by omega) ⟨Uh HHe,by omega,(s2.chg u2.chg (fun x hx _ => ner x hx)).below (Below.refl _ _).drew,fun x hx _ => ner x hx,hmr,by rw [(Uh HNum).2.2]; exact (Uh HNum).2.1,by omega,(ps1.upd u2).bel (Below.refl _ _).drew,fr⟩)
  have g0:=St2.c0
  have g1:=St2.c1
  have g2:=St2.c2
  have g3:=St2.c3
  clear f2 u2 s2 St1 ps1 fb1 hb1 ner St2 fr e0 e1 e2 e3
  go_wp2_with fail
  go_region_with (go_at_call 184; refine (Uh K2).mono ?_; clear K2; rintro _ w3 ⟨rfl,f3,u3⟩; have H3:=Hd (And.intro f3 u3); clear f3 u3)
  all_goals
   go_wp2
   go_end0
   obtain ⟨f2,u2⟩:=Uh H2
   obtain ⟨f3,u3⟩:=Uh H3
   obtain ⟨s2,St1,ps1,fb1,hb1,ner⟩:=Uh HX
   refine ⟨rfl,?_,?_⟩
   ·have:=halves (N:=N) (P:=P) (by omega) (Uh HNum).1 f2 f3 (by
     have h1:Upd T (o + H) (o + H + H) w2 w2.drew:=(Upd.refl _ _ _ _).drew
     exact h1.trans u3)
    rw [hL]
    exact this
   ·rw [hL]
    have h1:Upd T o (o + 2 * H) w w1.drew:=Upd.of_below hT hb1
    have h2:Upd T o (o + 2 * H) w1.drew w2:=u2.mono (Nat.le_refl _) (by omega)
    have h3:Upd T o (o + 2 * H) w2 w2.drew:=(Upd.refl _ _ _ _).drew
    have h4:Upd T o (o + 2 * H) w2.drew w3:=u3.mono (by omega) (by omega)
    exact ((h1.trans h2).trans h3).trans h4

theorem long_level {N n lv wt:Nat} (hw:wt < 4294967296) (h:N < wt ^ 2 ^ lv) (hn:¬ (limbs N).length ≤ 24):0 < lv:=by
 rcases Nat.eq_zero_or_pos lv with e | e
 ·exfalso
  subst e
  simp at h
  have:=rep_len_leS (limbs_rep N) (j:=1) (by omega)
  omega
 ·exact e

theorem write_any (T b cnt wt pb po K cp:Nat) (pv:Value) (hpv:K = 0 ∨ pv = .slice (some ⟨pb,po,none⟩) K cp) (hb:2 ≤ b) (hb2:b ≤ 36) (hch:Chunk b cnt) (hwt:b ^ cnt = wt) (hK2:K ≤ 1000) :
  ∀ (lv o L cT:Nat) (a:Option Addr) (m c N:Nat) (t0:Nat → Nat) (w:World),L ≤ 1000000000 → cT ≤ 1000000000 → WrPre w lv T o L cT a m c N b cnt wt pb po K t0 →
   Calls Tryz.prog 184 #[writerV b cnt wt pv,.slice (some ⟨T,o,none⟩) L cT,.slice a m c,.int .i64 (lv:Nat)] w fun e w' => WrPost w T o L N b e w'
 | 0,o,L,cT,a,m,c,N,t0,w,hL2,hc2,h => by
  by_cases hm:m ≤ 24
  ·exact write_short 0 T o L cT a m c N b cnt wt pv t0 w h.hL hL2 hb hb2 hch hwt hm h.hs h.fb
  ·have:=long_level (n:=0) (by have:=hch.lt; omega) h.hN (by rw [h.hs.len]; exact hm)
   omega
 | l + 1,o,L,cT,a,m,c,N,t0,w,hL2,hc2,h => by
  by_cases hm:m ≤ 24
  ·exact write_short (l + 1) T o L cT a m c N b cnt wt pv t0 w h.hL hL2 hb hb2 hch hwt hm h.hs h.fb
  ·have hK:=h.hK
   have e:=hpv.resolve_left (by omega)
   subst e
   exact write_long l T o L cT a m c N b cnt wt pb po K cp t0 w hb hb2 hch hwt hL2 hK2 hc2 hm h (write_any T b cnt wt pb po K cp _ (.inr rfl) hb hb2 hch hwt hK2 l)
end Go.Proofs.YtlolnaegfponeaaGreatDoor
