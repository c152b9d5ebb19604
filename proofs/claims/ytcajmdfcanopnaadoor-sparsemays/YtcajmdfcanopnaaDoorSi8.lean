/- Si5 -/
import Derived.Test.YtcajmdfcanopnaaDoorSi4
import Derived.Test.YtcajmdfcanopnaaDoorRta
import Derived.Test.YtcajmdfcanopnaaDoorSa6
import Derived.Deep.RegionHeld3
namespace Go.Proofs.YtcajmdfcanopnaaDoor
open Go.RowKit Go.Deep
set_option linter.unusedVariables false
def rtI (j0 j1:Value) (i:Nat):Value:=if i = 4 then j0 else if i = 5 then j1 else .slice none 0 0
theorem rtI_other {j0 j1:Value} {i:Nat} (h4:i ≠ 4) (h5:i ≠ 5):rtI j0 j1 i = .slice none 0 0:=by unfold rtI; rw [if_neg h4,if_neg h5]
structure LawM (w:World) (B:Nat) (j0 j1 v0 v1 u0 u1:Value) (is:List EntI) (es:List Ent) (qs:List Qn) (w0:World):Prop where
 law:LawQ (rtI j0 j1) w B v0 v1 u0 u1 es qs w0
 own4:w.ownsRow (B + 1) 22 1 j0 is.length (is.map EntI.v)
 own5:w.ownsRow (B + 1) 22 1 j1 is.length (is.map EntI.v0)
 ints:∀ e ∈ is,SlI w (some ⟨EntI.b e,0,none⟩) (e.xs.length + 3) e.c (e.xs ++ marksI) ∧ SlI w (some ⟨e.b0,0,none⟩) (e.xs.length + 3) e.c0 (e.xs ++ marksI) ∧ e.xs.length ≤ 17592186044000
theorem GivI.lawM {w:World} {B:Nat} {j0 j1:Value} {is:List EntI} {w0:World} (h:GivI w B j0 j1 is (fun _ => .slice none 0 0)) (hb:Below w0.heap.size w0 w) (hB:w0.heap.size ≤ B) (hl:∀ e ∈ is,e.xs.length ≤ 17592186044000):LawM w B j0 j1 (.slice none 0 0) (.slice none 0 0) (.slice none 0 0) (.slice none 0 0) is [] [] w0:=by
 obtain ⟨cur,hc,hsz,h4,h5,hr⟩:=h.blk
 have nb:∀ k,(Value.slice none 0 0).ownBlock ≠ some k:=fun k e => by simp [Value.ownBlock] at e
 refine ⟨⟨⟨⟨cur,hc,hsz,hr 0 (by omega) (by omega),hr 1 (by omega) (by omega),fun i h2 h20 => ?_⟩,⟨rfl,.inl ⟨rfl,rfl⟩⟩,⟨rfl,.inl ⟨rfl,rfl⟩⟩,fun k e => absurd e (nb k),fun e he => by cases he⟩,hb,hB,⟨rfl,.inl ⟨rfl,rfl⟩⟩,⟨rfl,.inl ⟨rfl,rfl⟩⟩,fun k e => absurd e (nb k),fun k e => absurd e (nb k),fun e he => (by cases he),fun q hq => (by cases hq)⟩,h.own0,h.own1,fun e he => ⟨(h.ents e he).sl,(h.ents e he).sl0,hl e he⟩⟩
 unfold rsQ rtI
 by_cases e8:i = 8
 ·subst e8; rw [if_pos rfl]; exact hr 8 (by omega) (by omega)
 ·rw [if_neg e8]
  by_cases e9:i = 9
  ·subst e9; rw [if_pos rfl]; exact hr 9 (by omega) (by omega)
  ·rw [if_neg e9]
   by_cases e4:i = 4
   ·subst e4; rw [if_pos rfl]; exact h4
   ·rw [if_neg e4]
    by_cases e5:i = 5
    ·subst e5; rw [if_pos rfl]; exact h5
    ·rw [if_neg e5]; exact hr i ⟨e4,e5⟩ h20
theorem GivI.lawRats {w w':World} {B:Nat} {j0 j1 v0' v1' u0' u1':Value} {is:List EntI} {es:List Ent} {qs:List Qn} {w0:World} (h:GivI w B j0 j1 is (fun _ => .slice none 0 0)) (hl:∀ e ∈ is,e.xs.length ≤ 17592186044000) (hL:LawQ (rtI j0 j1) w' B v0' v1' u0' u1' es qs w0) (hc:Chg (Own4 B (.slice none 0 0) (.slice none 0 0) (.slice none 0 0) (.slice none 0 0)) w w'):LawM w' B j0 j1 v0' v1' u0' u1' is es qs w0:=by
 have nb:∀ k,(Value.slice none 0 0).ownBlock ≠ some k:=fun k e => by simp [Value.ownBlock] at e
 have no:∀ k,k ≠ B → ¬ Own4 B (.slice none 0 0) (.slice none 0 0) (.slice none 0 0) (.slice none 0 0) k:=fun k hk e => by
  rcases e with (e | e | e) | e | e
  ·exact hk e
  ·exact nb k e
  ·exact nb k e
  ·exact nb k e
  ·exact nb k e
 refine ⟨hL,ownsRow_chg h.own0 hc (fun k hk => no k (by have:=(Go.Proofs.YtcajmdfcanopnaaDoor.own_ge h.own0 k hk).1; omega)),ownsRow_chg h.own1 hc (fun k hk => no k (by have:=(Go.Proofs.YtcajmdfcanopnaaDoor.own_ge h.own1 k hk).1; omega)),fun e he => ?_⟩
 have E:=h.ents e he
 exact ⟨E.sl.chg hc (fun x hx _ => by cases hx; exact no _ (fun z => E.s (.inl z))),E.sl0.chg hc (fun x hx _ => by cases hx; exact no _ (fun z => E.s0 (.inl z))),hl e he⟩
def NoLimb (w:World) (R:Nat):Prop:=∀ i v,w.cell? ⟨R,i,none⟩ = some v → (∀ m:Int,v ≠ .int .u32 m) ∧ ∀ b:Bool,v ≠ .bool b
theorem NoLimb.sl {w:World} {R:Nat} (h:NoLimb w R) {z:Addr} {n c:Nat} {x:List Nat} (hs:Sl w (some z) n c x) (hx:x ≠ []):z.block ≠ R:=by
 obtain ⟨b,off,e,hc⟩:=hs.cells.resolve_left hx
 cases e
 intro e
 have h0:=hc 0 (List.length_pos_iff.2 hx)
 have e':b = R:=e
 rw [e'] at h0
 exact (h _ _ h0).1 _ rfl
theorem NoLimb.fil {w:World} {R:Nat} (h:NoLimb w R) {A N:Nat} {ps:List Nq} (hf:FilQ w A N ps):A ≠ R ∧ FarQ (fun j => j = R) ps:=by
 refine ⟨fun e => ?_,fun p hp => ⟨fun z hz hx e => ?_,fun z hz hx e => ?_⟩⟩
 ·obtain ⟨b,hb⟩:=hf.first
  rw [e] at hb
  exact (h _ _ hb).2 b rfl
 ·have:=(hf.each p hp).1.1
  rw [hz] at this
  exact h.sl this hx e
 ·have:=(hf.each p hp).1.2
  rw [hz] at this
  exact h.sl this hx e
theorem LawQ.setR {rt:Nat → Value} {w w':World} {B:Nat} {v0 v1 u0 u1:Value} {es:List Ent} {qs:List Qn} {w0:World} (h:LawQ rt w B v0 v1 u0 u1 es qs w0) {R:Nat} (hN:NoLimb w R) (hc:Chg (fun j => j = R) w w') (hw:w0.heap.size ≤ R) (hO:¬ Own4 B v0 v1 u0 u1 R):LawQ rt w' B v0 v1 u0 u1 es qs w0:=by
 refine ⟨h.giv.chg hc (fun e => hO (.inl (by rw [← e]; exact .inl rfl))) (fun k hk e => hO (.inl (by rw [← e]; exact .inr (.inl hk)))) (fun k hk e => hO (.inl (by rw [← e]; exact .inr (.inr hk)))) (fun e he => ⟨hN.sl (h.giv.ents e he).sl (by simp [marks]),hN.sl (h.giv.ents e he).sl0 (by simp [marks])⟩),h.bel.trans (hc.below h.bel.size (fun k hk => by omega)),h.base,ownsRow_chg h.own8 hc (fun k hk e => hO (.inr (.inl (by rw [← e]; exact hk)))),ownsRow_chg h.own9 hc (fun k hk e => hO (.inr (.inr (by rw [← e]; exact hk)))),h.ap8,h.ap9,h.ents,?_⟩
 intro q hq'
 have Q:=h.qents q hq'
 exact ⟨Q.f.chg hc (hN.fil Q.f).1 (hN.fil Q.f).2,Q.f0.chg hc (hN.fil Q.f0).1 (hN.fil Q.f0).2,Q.le,Q.le0,Q.con,Q.s,Q.s0,Q.far,Q.far0⟩
theorem LawM.setR {w w':World} {B:Nat} {j0 j1 v0 v1 u0 u1:Value} {is:List EntI} {es:List Ent} {qs:List Qn} {w0:World} (h:LawM w B j0 j1 v0 v1 u0 u1 is es qs w0) {R:Nat} (hN:NoLimb w R) {a:Option Addr} {n c:Nat} (hR:w.cell? ⟨R,2,none⟩ = some (.slice a n c)) (hc:Chg (fun j => j = R) w w') (hw:w0.heap.size ≤ R) (hO:¬ Own4 B v0 v1 u0 u1 R) (h4:j0.ownBlock ≠ some R) (h5:j1.ownBlock ≠ some R):LawM w' B j0 j1 v0 v1 u0 u1 is es qs w0:=by
 have k:∀ {b c':Nat} {xs:List Int},SlI w (some ⟨b,0,none⟩) (xs.length + 3) c' (xs ++ marksI) → ¬ b = R:=by
  intro b c' xs hs hb
  obtain ⟨b2,o2,e2,hc2⟩:=hs.at (by omega)
  injection e2 with e3
  injection e3 with e4 e5 e6
  subst e4 e5 hb
  have:=hc2 2 (by omega)
  rw [Nat.zero_add,hR] at this
  cases this
 refine ⟨h.law.setR hN hc hw hO,ownsRow_chg h.own4 hc (fun i hi e => h4 (by rw [← e]; exact hi)),ownsRow_chg h.own5 hc (fun i hi e => h5 (by rw [← e]; exact hi)),fun e he => ?_⟩
 obtain ⟨s1,s2,s3⟩:=h.ints e he
 exact ⟨s1.chg hc (fun x hx _ => by cases hx; exact k s1),s2.chg hc (fun x hx _ => by cases hx; exact k s2),s3⟩
theorem LawM.below {w w':World} {B:Nat} {j0 j1 v0 v1 u0 u1:Value} {is:List EntI} {es:List Ent} {qs:List Qn} {w0:World} (h:LawM w B j0 j1 v0 v1 u0 u1 is es qs w0) (k:Below w.heap.size w w'):LawM w' B j0 j1 v0 v1 u0 u1 is es qs w0 :=
 ⟨h.law.below k,ownsRow_chg h.own4 (S:=fun _ => False) (.of_below k) (fun _ _ => id),ownsRow_chg h.own5 (S:=fun _ => False) (.of_below k) (fun _ _ => id),fun e he => ⟨(h.ints e he).1.below k,(h.ints e he).2.1.below k,(h.ints e he).2.2⟩⟩
theorem zero_nolimb {w:World} {R:Nat} (h:w.heap[R]? = some (.cells #[.int .i64 0,.int .i64 0,.slice none 0 0,.slice none 0 0,.slice none 0 0] 27)):NoLimb w R:=by
 intro i v hv
 rw [cell_of_block h] at hv
 have:v ∈ [Value.int .i64 0,.int .i64 0,.slice none 0 0,.slice none 0 0,.slice none 0 0]:=by
  have:=Array.mem_of_getElem? hv
  simpa using this
 refine ⟨fun m e => ?_,fun b e => ?_⟩ <;> subst e <;> simp at this
theorem own_ne {w:World} {base:Nat} {ty ty2:TypeId} {v:Value} {n:Nat} {xs:List Value} {R:Nat} {cs:Array Value} (h:w.ownsRow base ty 1 v n xs) (hR:w.heap[R]? = some (.cells cs ty2)) (ht:ty ≠ ty2):v.ownBlock ≠ some R:=by
 intro e
 rcases h.2 with ⟨e0,_⟩ | ⟨g,cap,cur,e0,hb,h5,_⟩
 ·rw [e0] at e
  simp [Value.ownBlock] at e
 ·rw [e0] at e
  simp [Value.ownBlock] at e
  rw [e,hR] at h5
  injection h5 with h6
  injection h6 with h7 h8
  exact ht h8.symm
structure GmPost (w':World) (B:Nat) (j0 j1 v0 v1 u0 u1:Value) (is:List EntI) (fs:List Ent) (E1 E2:EntI) (Q:Qn) (w0:World) (x y:List Int) (ps:List Nq) (n3:Nat):Prop where
 x1:E1.xs = x
 x2:E2.xs = y
 len:Q.ps.length = n3 + 3
 con:(Q.ps.take n3).map conQ = ps.map conQ
 law:LawM w' B j0 j1 v0 v1 u0 u1 (is ++ [E1] ++ [E2]) fs [Q] w0
theorem nil4 {B k:Nat} (hk:k ≠ B):¬ Own4 B (.slice none 0 0) (.slice none 0 0) (.slice none 0 0) (.slice none 0 0) k:=fun e => by
 have nb:∀ k,(Value.slice none 0 0).ownBlock ≠ some k:=fun k e => by simp [Value.ownBlock] at e
 rcases e with (e | e | e) | e | e
 ·exact hk e
 ·exact nb k e
 ·exact nb k e
 ·exact nb k e
 ·exact nb k e
set_option maxRecDepth 100000 in
set_option maxHeartbeats 16000000 in
theorem gmat_any (B:Nat) (j0 j1:Value) (is:List EntI) (rows width:Int) (a:Option Addr) (n c:Nat) (x:List Int) (b:Option Addr) (m d:Nat) (y:List Int) (a3:Option Addr) (n3 c3:Nat) (ps:List Nq) (w w0:World) (h:GivI w B j0 j1 is (fun _ => .slice none 0 0)) (hbl:∀ e ∈ is,e.xs.length ≤ 17592186044000) (hb0:Below w0.heap.size w0 w) (hB0:w0.heap.size ≤ B) (hx:SlI w a n c x) (hy:SlI w b m d y) (lo:∀ z,b = some z → y ≠ [] → z.block < B) (hq:SlQ w0 a3 n3 c3 ps) (hn:n ≤ 17592186044000) (hm:m ≤ 17592186044000) (he:is.length ≤ 5700000000000) (hn3:n3 ≤ 2513169434850) (hz:∀ p ∈ ps,p.n ≤ 35184372088000 ∧ p.m ≤ 35184372088000) :
  Calls Tryd.prog 8 #[.pointer (some ⟨B,0,none⟩),matV rows width a n c b m d a3 n3 c3] w fun e w' => ∃ v,e = .returned v ∧ ∃ z0 z1 v0' v1' u0' u1' fs E1 E2 Q,v = matV rows width (some ⟨EntI.b E1,0,none⟩) n E1.c (some ⟨EntI.b E2,0,none⟩) m E2.c (some ⟨Qn.b Q,0,none⟩) n3 Q.c ∧ GmPost w' B z0 z1 v0' v1' u0' u1' is fs E1 E2 Q w0 x y ps n3:=by
 obtain ⟨wa,hwa⟩:∃ x,w.alloc (.cells #[.int .i64 rows,.int .i64 width,.slice a n c,.slice b m d,.slice a3 n3 c3] 27) = x:=⟨_,rfl⟩
 obtain ⟨wo,hwo⟩:∃ x,wa.alloc (.cells #[.int .i64 0,.int .i64 0,.slice none 0 0,.slice none 0 0,.slice none 0 0] 27) = x:=⟨_,rfl⟩
 have hba:Below w.heap.size w wa:=by rw [← hwa]; exact bAl
 have hbo:Below wa.heap.size wa wo:=by rw [← hwo]; exact bAl
 have hPB:BoxP wo w.heap.size [.int .i64 rows,.int .i64 width,.slice a n c,.slice b m d,.slice a3 n3 c3]:=by have:=BoxP.made w #[.int .i64 rows,.int .i64 width,.slice a n c,.slice b m d,.slice a3 n3 c3] 27; rw [hwa] at this; exact this.below hbo
 have hT:BoxP wo wa.heap.size [.int .i64 0,.int .i64 0,.slice none 0 0,.slice none 0 0,.slice none 0 0]:=by have:=BoxP.made wa #[.int .i64 0,.int .i64 0,.slice none 0 0,.slice none 0 0,.slice none 0 0] 27; rw [hwo] at this; exact this
 have hH:wo.heap[wa.heap.size]? = some (.cells #[.int .i64 0,.int .i64 0,.slice none 0 0,.slice none 0 0,.slice none 0 0] 27):=by rw [← hwo]; exact alloc_block _ _
 have hB:=hba.trans (hbo.mono hba.size)
 have hO:=h.below hB
 have p0:=(hPB.all 0 _ rfl).1
 have p1:=(hPB.all 1 _ rfl).1
 have p2:=(hPB.all 2 _ rfl).1
 have p3:=(hPB.all 3 _ rfl).1
 have p4:=(hPB.all 4 _ rfl).1
 have hlt:w.heap.size < wa.heap.size:=by rw [← hwa]; simp
 have hlt2:wa.heap.size < wo.heap.size:=hT.lt
 have hBw:B < w.heap.size:=h.own_lt (.inl rfl)
 have hnb:¬ Own B j0 j1 w.heap.size:=fun ho => by have:=h.own_lt ho; omega
 have hnr:¬ Own B j0 j1 wa.heap.size:=fun ho => by have:=h.own_lt ho; omega
 have HK1:=Hj (fun (W:World) (hb:Below wo.heap.size wo W) => gpat_any B j0 j1 is (fun _ => .slice none 0 0) rows width a n c x b m d y W (hO.below hb) ((hx.below hB).below hb) ((hy.below hB).below hb) lo hn hm he)
 have hxl:=hx.len
 have hyl:=hy.len
 have HLM:=Hj (show ∀ (wk:World) (z0 z1:Value) (E1 E2:EntI),GpPost wo.drew wk B j0 j1 z0 z1 is (fun _ => .slice none 0 0) x y E1 E2 → Chg (Own B j0 j1) wo wk → LawM wk B z0 z1 (.slice none 0 0) (.slice none 0 0) (.slice none 0 0) (.slice none 0 0) (is ++ [E1] ++ [E2]) [] [] w0 from fun wk z0 z1 E1 E2 GP hcd => GP.giv.lawM ((hb0.trans (hB.mono hb0.size)).trans (hcd.below (Nat.le_trans hb0.size hB.size) (fun k hk ho => by have:=h.own_ge ho; omega))) hB0 (fun e he' => by
  rcases List.mem_append.1 he' with he' | he'
  ·rcases List.mem_append.1 he' with he' | he'
   ·exact hbl e he'
   ·rw [List.mem_singleton] at he'; rw [he',GP.x1]; omega
  ·rw [List.mem_singleton] at he'; rw [he',GP.x2]; omega))
 have HBL:=Hj (show ∀ (E1 E2:EntI),E1.xs = x → E2.xs = y → ∀ e ∈ is ++ [E1] ++ [E2],e.xs.length ≤ 17592186044000 from fun E1 E2 e1 e2 e he' => by
  rcases List.mem_append.1 he' with he' | he'
  ·rcases List.mem_append.1 he' with he' | he'
   ·exact hbl e he'
   ·rw [List.mem_singleton] at he'; rw [he',e1]; omega
  ·rw [List.mem_singleton] at he'; rw [he',e2]; omega)
 have HW:=Hj (And.intro hB.size (And.intro hnb (And.intro hnr (And.intro hlt hlt2))))
 have HNB:=Hj (show w.heap.size ≠ B ∧ wa.heap.size ≠ B from ⟨by omega,by omega⟩)
 have HSZ:=Hj (show w0.heap.size ≤ wa.heap.size from by have:=hb0.size; omega)
 have hne1:w.heap.size ≠ wa.heap.size:=by omega
 have hne3:wa.heap.size ≠ w.heap.size:=by omega
 have HT:=Hj hT
 have HH:=Hj hH
 have HPB:=Hj hPB
 have HQ:=Hj hq
 have HZ:=Hj hz
 clear hba hbo hB hnb hnr hT hO h hx hy lo he hPB hH hq hz hbl hb0 hB0 hxl hyl hBw
 unfold matV
 unfold patV at HK1
 go_enter Tryd.func8,Tryd.ntmps8
 go_wp2_with fail
 go_region_held3 (fun w' => w'.cell? ⟨w.heap.size,0,none⟩ = some (.int .i64 rows) ∧ w'.cell? ⟨w.heap.size,1,none⟩ = some (.int .i64 width) ∧ w'.cell? ⟨w.heap.size,2,none⟩ = some (.slice a n c) ∧ w'.cell? ⟨w.heap.size,3,none⟩ = some (.slice b m d) ∧ w'.cell? ⟨w.heap.size,4,none⟩ = some (.slice a3 n3 c3)) (first | go_keep | (exact ⟨k0,k1,k2,k3,k4⟩) | (exact ⟨j0_,j1_,j2_,j3_,j4_⟩))
  (first
   | (go_at_call 5; refine (Uh HK1 _ (Below.refl _ _).drew).mono ?_; rintro _ wk ⟨v,rfl,z0,z1,E1,E2,rfl,GP⟩; have hcd:Chg (Own B j0 j1) wo wk:=(Chg.of_drew wo).trans GP.chg; have hP1:=(Uh HPB).chg hcd (Uh HW).2.1; have k0:=(hP1.all 0 _ rfl).1; have k1:=(hP1.all 1 _ rfl).1; have k2:=(hP1.all 2 _ rfl).1; have k3:=(hP1.all 3 _ rfl).1; have k4:=(hP1.all 4 _ rfl).1; have hT1:=(Uh HT).chg hcd (Uh HW).2.2.1; have hH1:wk.heap[wa.heap.size]? = _:=(hcd.block wa.heap.size (Uh HW).2.2.2.2 (Uh HW).2.2.1).trans (Uh HH); have HS1:=Hj (And.intro GP (And.intro hT1 (And.intro hP1 (And.intro hH1 hcd)))); (try unfold patV); clear GP hT1 hP1 hH1 hcd)
   | (go_at_call 17; refine (gratsZ_any (Uh HLM wk z0 z1 E1 E2 (Uh HS1).1 (Uh HS1).2.2.2.2).law a3 n3 c3 ps (Uh HQ) hn3 (Uh HZ) (by simp) (by simp)).mono ?_; rintro _ wj ⟨Q,rs,v0',v1',u0',u1',fs,rfl,hQ1,hQ2,hQ3,hQ4,hL,hCh,hNew⟩; have hnP:=nil4 (B:=B) (k:=w.heap.size) (Uh HNB).1; have hnR:=nil4 (B:=B) (k:=wa.heap.size) (Uh HNB).2; have hP2:=(Uh HS1).2.2.1.chg hCh hnP; have j0_:=(hP2.all 0 _ rfl).1; have j1_:=(hP2.all 1 _ rfl).1; have j2_:=(hP2.all 2 _ rfl).1; have j3_:=(hP2.all 3 _ rfl).1; have j4_:=(hP2.all 4 _ rfl).1; have hT2:=(Uh HS1).2.1.chg hCh hnR; have HO3:=Hj hT2; have q0:=(hT2.all 0 _ rfl).1; have q1:=(hT2.all 1 _ rfl).1; have q2:=(hT2.all 2 _ rfl).1; have q3:=(hT2.all 3 _ rfl).1; have q4:=(hT2.all 4 _ rfl).1; have r0:=(hT2.all 0 _ rfl).2; have r1:=(hT2.all 1 _ rfl).2; have r2:=(hT2.all 2 _ rfl).2; have r3:=(hT2.all 3 _ rfl).2; have r4:=(hT2.all 4 _ rfl).2; have hH2:wj.heap[wa.heap.size]? = _:=(hCh.block wa.heap.size (Uh HS1).2.1.lt hnR).trans (Uh HS1).2.2.2.1; have HS2:=Hj (And.intro hQ1 (And.intro hQ2 (And.intro hQ3 (And.intro hL (And.intro hCh hH2))))); clear hQ1 hQ2 hQ3 hQ4 hL hCh hNew hnP hnR hP2 hT2 hH2))
 clear q0 q1 q2 q3 q4 r0 r1 r2 r3 r4 k0 k1 k2 k3 k4 j0_ j1_ j2_ j3_ j4_
 try go_wp2_with fail
 have hf:=(((((Uh HO3).put 0 (.int .i64 rows)).put 1 (.int .i64 width)).put 2 (.slice (some ⟨E1.b,0,none⟩) n E1.c)).put 3 (.slice (some ⟨E2.b,0,none⟩) m E2.c)).put 4 (.slice (some ⟨Q.b,0,none⟩) n3 Q.c)
 have t0:=(hf.all 0 _ rfl).1
 have t1:=(hf.all 1 _ rfl).1
 have t2:=(hf.all 2 _ rfl).1
 have t3:=(hf.all 3 _ rfl).1
 have t4:=(hf.all 4 _ rfl).1
 have c5:Chg (fun j => j = wa.heap.size) wj (((((wj.setCell ⟨wa.heap.size,0,none⟩ (.int .i64 rows)).setCell ⟨wa.heap.size,1,none⟩ (.int .i64 width)).setCell ⟨wa.heap.size,2,none⟩ (.slice (some ⟨E1.b,0,none⟩) n E1.c)).setCell ⟨wa.heap.size,3,none⟩ (.slice (some ⟨E2.b,0,none⟩) m E2.c)).setCell ⟨wa.heap.size,4,none⟩ (.slice (some ⟨Q.b,0,none⟩) n3 Q.c)):=((((Chg.of_set (S:=fun j => j = wa.heap.size) _ _ _ _ rfl).trans (Chg.of_set (S:=fun j => j = wa.heap.size) _ _ _ _ rfl)).trans (Chg.of_set (S:=fun j => j = wa.heap.size) _ _ _ _ rfl)).trans (Chg.of_set (S:=fun j => j = wa.heap.size) _ _ _ _ rfl)).trans (Chg.of_set (S:=fun j => j = wa.heap.size) _ _ _ _ rfl)
 generalize ((((wj.setCell ⟨wa.heap.size,0,none⟩ (.int .i64 rows)).setCell ⟨wa.heap.size,1,none⟩ (.int .i64 width)).setCell ⟨wa.heap.size,2,none⟩ (.slice (some ⟨E1.b,0,none⟩) n E1.c)).setCell ⟨wa.heap.size,3,none⟩ (.slice (some ⟨E2.b,0,none⟩) m E2.c)).setCell ⟨wa.heap.size,4,none⟩ (.slice (some ⟨Q.b,0,none⟩) n3 Q.c) = wf at *
 refine bodyPost_ret (by simp [results,Tryd.results8,go_sem,t0,t1,t2,t3,t4]; try rfl) rfl ?_
 obtain ⟨GP,_,_,_,_⟩:=Uh HS1
 obtain ⟨hQ1,hQ2,hQ3,hL,hCh,hH2⟩:=Uh HS2
 have LM:=GP.giv.lawRats (Uh HBL E1 E2 GP.x1 GP.x2) hL hCh
 refine ⟨_,rfl,z0,z1,v0',v1',u0',u1',fs,E1,E2,Q,rfl,⟨GP.x1,GP.x2,by rw [hQ1]; exact hQ2,by rw [hQ1]; exact hQ3,?_⟩⟩
 refine LM.setR (zero_nolimb hH2) ((Uh HO3).all 2 _ rfl).1 c5 (Uh HSZ) (fun ho => ?_) (own_ne LM.own4 hH2 (by decide)) (own_ne LM.own5 hH2 (by decide))
 rcases ho with (e | e | e) | e | e
 ·exact (Uh HNB).2 e
 ·exact own_ne hL.giv.own0 hH2 (by decide) e
 ·exact own_ne hL.giv.own1 hH2 (by decide) e
 ·exact own_ne hL.own8 hH2 (by decide) e
 ·exact own_ne hL.own9 hH2 (by decide) e
def givO:Obj:=.cells #[.slice none 0 0,.slice none 0 0,.slice none 0 0,.slice none 0 0,.slice none 0 0,.slice none 0 0,.slice none 0 0,.slice none 0 0,.slice none 0 0,.slice none 0 0,.slice none 0 0,.slice none 0 0,.slice none 0 0,.slice none 0 0,.slice none 0 0,.slice none 0 0,.slice none 0 0,.slice none 0 0,.slice none 0 0,.slice none 0 0] 40
theorem nil20 (i:Nat) (h:i < 20):(#[.slice none 0 0,.slice none 0 0,.slice none 0 0,.slice none 0 0,.slice none 0 0,.slice none 0 0,.slice none 0 0,.slice none 0 0,.slice none 0 0,.slice none 0 0,.slice none 0 0,.slice none 0 0,.slice none 0 0,.slice none 0 0,.slice none 0 0,.slice none 0 0,.slice none 0 0,.slice none 0 0,.slice none 0 0,.slice none 0 0]:Array Value)[i]? = some (.slice none 0 0):=by
 have:(#[.slice none 0 0,.slice none 0 0,.slice none 0 0,.slice none 0 0,.slice none 0 0,.slice none 0 0,.slice none 0 0,.slice none 0 0,.slice none 0 0,.slice none 0 0,.slice none 0 0,.slice none 0 0,.slice none 0 0,.slice none 0 0,.slice none 0 0,.slice none 0 0,.slice none 0 0,.slice none 0 0,.slice none 0 0,.slice none 0 0]:Array Value) = Array.replicate 20 (.slice none 0 0):=rfl
 rw [this,Array.getElem?_replicate,if_pos h]
theorem GivI.made (w:World):GivI (w.alloc givO) w.heap.size (.slice none 0 0) (.slice none 0 0) [] (fun _ => .slice none 0 0):=by
 refine ⟨⟨_,alloc_block w _,rfl,rfl,rfl,fun i _ h20 => nil20 i h20⟩,⟨rfl,.inl ⟨rfl,rfl⟩⟩,⟨rfl,.inl ⟨rfl,rfl⟩⟩,fun k e => by simp [Value.ownBlock] at e,fun e he => by cases he⟩
end Go.Proofs.YtcajmdfcanopnaaDoor
