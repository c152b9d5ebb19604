/- Ftj -/
import Derived.Shelf.Strconv.Clone
import Derived.Test.YtjoaijbhpgekoaaGreatDoorFti
namespace Go.Proofs.YtjoaijbhpgekoaaGreatDoor
open Go.Shelf Go.RowKit Go.Deep
set_option linter.unusedVariables false
def clRen:Go.Shelf.Ren:=⟨fun | 316 => 13 | n => n,fun | 9 => 9 | 3 => 3 | 4 => 4 | 37 => 58 | 0 => 0 | 127 => 59 | 5 => 5 | n => n,fun | n => n⟩
theorem clLays:Go.Proofs.LaysM.n316 Tryz.prog clRen:={
 mixed:=by kernel_rfl
 f316:=Tryz.func13.trans (congrArg some (by kernel_rfl))
 t0:=Tryz.underlying0
 a0:=Tryz.isAgg0
 z0:=Tryz.sizeOf0
 v0:=Tryz.zeroValue0
 t3:=Tryz.underlying3
 a3:=Tryz.isAgg3
 z3:=Tryz.sizeOf3
 v3:=Tryz.zeroValue3
 t4:=Tryz.underlying4
 a4:=Tryz.isAgg4
 z4:=Tryz.sizeOf4
 v4:=Tryz.zeroValue4
 t9:=Tryz.underlying9
 a9:=Tryz.isAgg9
 z9:=Tryz.sizeOf9
 v9:=Tryz.zeroValue9
 t37:=Tryz.underlying58
 a37:=Tryz.isAgg58
 z37:=Tryz.sizeOf58
 v37:=Tryz.zeroValue58
 t127:=Tryz.underlying59
 a127:=Tryz.isAgg59
 z127:=Tryz.sizeOf59
 v127:=Tryz.zeroValue59
 t5:=Tryz.underlying5
 a5:=Tryz.isAgg5
 z5:=Tryz.sizeOf5
 v5:=Tryz.zeroValue5
 i0:=by kernel_rfl
 i3:=by kernel_rfl
 i4:=by kernel_rfl
 i5:=by kernel_rfl
 i9:=by kernel_rfl
 i37:=by kernel_rfl
 i127:=by kernel_rfl }

theorem fclone_any (s:ByteArray) (w:World) (hs:s.size ≤ 65536):Calls Tryz.prog 9 #[.string s] w fun e w' => e = .returned (.string s) ∧ Below w.heap.size w w':=by
 have HK:=Hj (show Calls Tryz.prog 13 #[.string s] w fun e w' => e = .returned (.string s) ∧ Below w.heap.size w w' from Any.stringslite_Clone clLays s w (by omega))
 go_enter Tryz.func9,Tryz.ntmps9
 go_wp2_with fail
 refine (Uh HK).mono ?_
 rintro _ w2 ⟨rfl,b2⟩
 have HB:=Hj b2
 clear b2
 go_wp2_with fail
 go_ret
 exact ⟨rfl,Uh HB⟩
end Go.Proofs.YtjoaijbhpgekoaaGreatDoor
