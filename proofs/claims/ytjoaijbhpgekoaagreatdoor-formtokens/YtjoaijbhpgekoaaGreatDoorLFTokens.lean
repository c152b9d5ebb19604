/- LFTokens -/
import Derived.Test.YtjoaijbhpgekoaaGreatDoorFtx
import Derived.Test.YtjoaijbhpgekoaaGreatDoorCards
import Derived.Test.YtjoaijbhpgekoaaGreatDoorTie
import Derived.SevenTiedAt
import Derived.LaidMore
import Derived.Stop.Joined
import Derived.Lib.LaidTab
import Derived.Stop.LaidErr
import Derived.Lay
import Derived.OpenShut
import Derived.ChangeMaps5
namespace Go.Proofs.YtjoaijbhpgekoaaGreatDoor
open Go.ChangeShapes Go.WideShapes Go.ChangeAt Go.RowKit Go.Deep
set_option linter.unusedVariables false
theorem tab_rows {P:Program} {W:World} {name:String} {k:IntKind} {ds:List (DataW Unit)} {rest:List (String × DataW Unit)} {g:Nat} {t e u:TypeId} {n m:Nat}
  (hg:P.globalNamed name = some g) (hty:(P.globals[g]?).map (·.type) = some t) (ht:P.underlying t = some (.array n e)) (he:P.underlying e = some (.array m u)) (hu:P.underlying u = some (.int k)) (hcu:P.cellsOf u = 1) (hce:P.cellsOf e = m)
  (h:laidMet P ((name,.agg ds) :: rest) W) (a b:Nat) (ha:a < n) (hb:b < m) (z:Int) (es:List (DataW Unit)) (hd:ds[a]? = some (.agg es)) (hz:es[b]? = some (.lit (.int k z))) :
  W.cell? ⟨g,a * m + b,none⟩ = some (.int k z):=by
 obtain ⟨ps,⟨g',t',cs,fuel,p,q,hg',ht',hvar,hD,_,_⟩,_⟩:=h
 obtain rfl:=Option.some.inj (hg.symm.trans hg')
 obtain rfl:=Option.some.inj (hty.symm.trans ht')
 obtain ⟨xs,f1,_,ex,hl,hxl,hel⟩:=DataW.trod_array ht hD
 have e1:ds = xs.map (·.1):=DataW.agg.inj (Prod.mk.inj ex).1
 have hE:=hel a ha
 rw [hce] at hE
 rw [e1,List.getElem?_map] at hd
 cases hxa:xs[a]? with
 | none => rw [hxa] at hd; cases hd
 | some ya =>
  rw [hxa] at hd hE
  simp only [Option.map_some,Option.some.injEq] at hd
  obtain ⟨d1,q1⟩:=ya
  dsimp only at hd
  subst hd
  obtain ⟨ys,f2,_,ey,hl2,hyl,hel2⟩:=DataW.trod_array he hE
  have e2:es = ys.map (·.1):=DataW.agg.inj (Prod.mk.inj ey).1
  have hE2:=hel2 b hb
  rw [hcu,Nat.mul_one] at hE2
  rw [e2,List.getElem?_map] at hz
  cases hyb:ys[b]? with
  | none => rw [hyb] at hz; cases hz
  | some yb =>
   rw [hyb] at hz hE2
   simp only [Option.map_some,Option.some.injEq] at hz
   obtain ⟨d2,q2⟩:=yb
   dsimp only at hz
   subst hz
   obtain ⟨z',hc,hx,_⟩:=DataW.trod_int hu hE2
   have hzz:z = z':=by
    have:=(Prod.mk.inj hx).1
    simpa using this
   subst hzz
   rw [World.var?_cell hg hvar (a * m + b)]
   have h0:=congrArg (·[0]?) hc
   simp only [List.getElem?_take,List.getElem?_drop,Nat.add_zero,Nat.lt_one_iff,if_true,List.getElem?_cons_zero] at h0
   rw [if_pos hb] at h0
   simpa using h0

def bhD:List (DataW Unit):=(List.range 12).map fun a => .agg ((List.range 8).map fun j => .lit (.int .u8 (nxS a j:Nat)))
theorem behind_rows : ∀ a : Fin 12, ∀ b : Fin 8, ∃ es, (bhD)[a.1]? = some (.agg es) ∧ es[b.1]? = some (.lit (.int .u8 (nxS a.1 b.1 : Nat))) := fun a b =>
  ⟨(List.range 8).map fun j => .lit (.int .u8 (nxS a.1 j : Nat)), by
    unfold bhD
    rw [List.getElem?_map, List.getElem?_range a.2]
    rfl, by
    rw [List.getElem?_map, List.getElem?_range b.2]
    rfl⟩
theorem behind_tab {W : World} {rest : List (String × DataW Unit)} (h : laidMet Tryz.prog (("slope/rational.behind", Rows.laid_slope_rational_behind) :: rest) W) : TabBh W := fun a b ha hb => by
 have e:(Rows.laid_slope_rational_behind:DataW Unit) = .agg bhD:=by kernel_rfl
 rw [e] at h
 obtain ⟨es,h1,h2⟩:=behind_rows ⟨a,ha⟩ ⟨b,hb⟩
 exact tab_rows (show Tryz.prog.globalNamed "slope/rational.behind" = some 0 by kernel_rfl) (show (Tryz.prog.globals[0]?).map (·.type) = some 97 by kernel_rfl) Tryz.underlying97 Tryz.underlying96 Tryz.underlying5 (by kernel_rfl) (by kernel_rfl) h a b ha hb _ es h1 h2

set_option maxRecDepth 100000 in
theorem formTokens_door (os : Os) (args : Array Value) : laidMetH Tryz.prog [("math/bits.deBruijn64tab", Rows.laid_math_bits_deBruijn64tab), ("unicode/utf8.acceptRanges", Rows.laid_unicode_utf8_acceptRanges), ("slope/rational.behind", Rows.laid_slope_rational_behind), ("unicode/utf8.first", Rows.laid_unicode_utf8_first)] ((World.laidAll Tryz.prog os [("math/bits.deBruijn64tab", Rows.laid_math_bits_deBruijn64tab), ("unicode/utf8.acceptRanges", Rows.laid_unicode_utf8_acceptRanges), ("slope/rational.behind", Rows.laid_slope_rational_behind), ("unicode/utf8.first", Rows.laid_unicode_utf8_first)]).forCall (fun _ _ => 0) ⟨#[], args, []⟩).memory := by
 rw [MakeChecks.laidMetH_plain _ _ _ (by kernel_rfl)]
 exact laidMet_laidAll _ (by kernel_rfl) (by kernel_rfl)

set_option maxRecDepth 100000 in
theorem formTokens_lifted (os:Os) (started:os.Started) (H:Type) (enc:TypeId × Value → H) :
  ReturnsInHanded {} Tryz.checked os 3 .any (fun w args => (Rows.formTokensSpec.pre enc Tryz.prog Tryz.f3 [] false w args ∧ laidMetH Tryz.prog [("math/bits.deBruijn64tab", Rows.laid_math_bits_deBruijn64tab), ("unicode/utf8.acceptRanges", Rows.laid_unicode_utf8_acceptRanges), ("slope/rational.behind", Rows.laid_slope_rational_behind), ("unicode/utf8.first", Rows.laid_unicode_utf8_first)] w) ∧ sizedMet enc Tryz.prog Tryz.f3 (OpenSpec.ofChange Rows.formTokensSpec) false w args) (Rows.formTokensSpec.post enc Tryz.prog Tryz.f3 false true false false) := by
 refine returnsInHanded_of_change_and (C := Tryz.checked) (X := fun w _ => laidMetH Tryz.prog [("math/bits.deBruijn64tab", Rows.laid_math_bits_deBruijn64tab), ("unicode/utf8.acceptRanges", Rows.laid_unicode_utf8_acceptRanges), ("slope/rational.behind", Rows.laid_slope_rational_behind), ("unicode/utf8.first", Rows.laid_unicode_utf8_first)] w) (fun _ _ _ hh h => h.of_heap hh) law_own started (by kernel_rfl) Tryz.func3
  (ChangeSpec.witness_shaped (enc := enc) (C := Tryz.checked) (os := os) (X := fun w _ => laidMetH Tryz.prog [("math/bits.deBruijn64tab", Rows.laid_math_bits_deBruijn64tab), ("unicode/utf8.acceptRanges", Rows.laid_unicode_utf8_acceptRanges), ("slope/rational.behind", Rows.laid_slope_rational_behind), ("unicode/utf8.first", Rows.laid_unicode_utf8_first)] w) false (World.laidAll Tryz.prog os [("math/bits.deBruijn64tab", Rows.laid_math_bits_deBruijn64tab), ("unicode/utf8.acceptRanges", Rows.laid_unicode_utf8_acceptRanges), ("slope/rational.behind", Rows.laid_slope_rational_behind), ("unicode/utf8.first", Rows.laid_unicode_utf8_first)]) #[.string ByteArray.empty] 8 (World.laidAll_os _ _ _) (World.shaped_of_ZipB (by kernel_rfl) (by kernel_rfl)) (by kernel_rfl) (by kernel_rfl) (by kernel_rfl) (formTokens_door os _)) ?_
 intro W base args ds gs before hval0 hW hcnd hsz hL _
 have hval:∀ (j:Nat) t v,Tryz.f3.params[j]? = some t → args[j]? = some v → Value.okWide Tryz.prog W .any base t v:=hval0
 have hW':=hW
 obtain ⟨p,q,hA0,hV,rfl,hfz,hnd⟩:=hW
 have hA:DataW.TrodAll enc Tryz.prog W 0 (fun _ => true) true Tryz.f3.params.toList args.toList ds p:=hA0
 rw [Tryz.params3] at hA hval hsz
 obtain ⟨v0,vs0,d0,ds0,p0,q0,hargs,rfl,rfl,h0,r0⟩:=trodAll_cons hA
 obtain ⟨rfl,rfl,rfl⟩:=trodAll_nil r0
 obtain rfl:args = #[v0]:=by cases args; simp_all
 obtain ⟨rfl,rfl⟩:=trodVars_none hV
 obtain ⟨t0,rfl,rfl,rfl,wf0⟩:=ChangeMaps.open_string Tryz.underlying9 (hval 0 9 v0 rfl rfl) h0
 clear hA0 hval0
 have hTT:Tab64 W ∧ TabBh W:=by
  rw [MakeChecks.laidMetH_plain _ _ _ (by kernel_rfl)] at hL
  have hJ := Lib.tabIs_of_head (k := .u8) (zs := tab64) (show Tryz.prog.globalNamed "math/bits.deBruijn64tab" = some 4 by kernel_rfl) (show (Tryz.prog.globals[4]?).map (·.type) = some 163 by kernel_rfl) Tryz.underlying163 Tryz.underlying5 (by kernel_rfl) (by kernel_rfl) hL
  have hL4:=laidMet.tail (laidMet.tail hL)
  exact ⟨fun j hj => hJ.cell (by kernel_rfl) j hj,behind_tab hL4⟩
 obtain ⟨hT,hTB⟩:=hTT
 refine (formTokens_walk t0 W  hT hTB).mono fun e W' ⟨he,bel⟩ => ?_
 subst he
 exact ⟨_,rfl,_,_,_,[],_,[],hW',trodAll_mk1 (shut_bool Tryz.underlying4 _),(trodAll_cons_mk (ChangeMaps.shut_string Tryz.underlying9 wf0) trodAll_mk0),rfl,bel.frame _,fun h => by cases h⟩

theorem formTokens_row:Rows.FormTokensSaid :=
 OpenClaim.holds_of_wide 3 Tryz.f3 rfl rfl rfl rfl rfl rfl rfl ⟨rfl,rfl,rfl,rfl,rfl⟩ rfl rfl rfl rfl rfl (by kernel_rfl) Tryz.func3 (by kernel_rfl)
  (of_decide_eq_true (by kernel_rfl)) (by unfold Func.isWrapper; first | (rw [if_pos (by decide +kernel)]; kernel_rfl) | (rw [if_neg (by decide +kernel)]; exact ⟨rfl,rfl⟩))
  (fun os started H enc _ => formTokens_lifted os started H enc)

theorem formTokens_holds:Rows.FormTokensCardSaid :=
 Claim7.holds_tied_plain_at .later [] [.data,.data,.data,.pinned] true Rows.formTokensCard.stood.harness false
  formTokens_row (fun _ h => by cases h) (by kernel_rfl) (fun _ h => by cases h) formTokens_row_tie rfl ⟨rfl,rfl⟩ (by kernel_rfl) rfl
  (fun f fn hf hfn => by
   obtain rfl : f = 3 := Option.some.inj ((show Tryz.prog.funcNamed "slope/slopelaw4.FormTokens" = some 3 by kernel_rfl).symm.trans hf) |>.symm
   obtain rfl:fn = Tryz.f3:=(Option.some.inj (Tryz.func3.symm.trans hfn)).symm
   exact ⟨by kernel_rfl,fun j t ht => by
    rw [Tryz.params3] at ht
    have hm:t ∈ [9]:=by simpa using Array.mem_of_getElem? ht
    have hall:([9].all fun u => !Tryz.prog.wantsStandIn u) = true:=by kernel_rfl
    exact (show Tryz.prog.wantsStandIn t = false by simpa using List.all_eq_true.1 hall t hm)⟩)
  (by kernel_rfl)
#print axioms formTokens_holds
end Go.Proofs.YtjoaijbhpgekoaaGreatDoor
