/- Rp9 -/
import Derived.Shelf.Strings.SlTrimAscii
import Derived.Test.YtjoaijbhpgekoaaGreatDoorRp3
namespace Go.Proofs.YtjoaijbhpgekoaaGreatDoor
open Go.Shelf Go.RowKit Go.Deep
set_option linter.unusedVariables false
def trRen:Go.Shelf.Ren:=⟨fun | 160 => 28 | 232 => 41 | 231 => 40 | 227 => 42 | 234 => 44 | 233 => 43 | 236 => 46 | 235 => 45 | 228 => 66 | 271 => 69 | 151 => 68 | 197 => 67 | 120 => 92 | 152 => 91 | 260 => 90 | 137 => 104 | 119 => 105 | 224 => 106 | 225 => 107 | 217 => 120 | 266 => 133 | n => n,fun | 9 => 9 | 4 => 4 | 3 => 3 | 5 => 5 | 117 => 83 | 116 => 82 | 0 => 0 | 124 => 86 | 21 => 21 | 105 => 107 | 46 => 95 | 119 => 137 | 139 => 140 | 138 => 139 | n => n,fun | 3 => 1 | 4 => 2 | n => n⟩
theorem trLays:Go.Proofs.Lays.n160 Tryz.prog trRen:={
 mixed:=by kernel_rfl
 f119:=Tryz.func105.trans (congrArg some (by kernel_rfl))
 f120:=Tryz.func92.trans (congrArg some (by kernel_rfl))
 f137:=Tryz.func104.trans (congrArg some (by kernel_rfl))
 f151:=Tryz.func68.trans (congrArg some (by kernel_rfl))
 f152:=Tryz.func91.trans (congrArg some (by kernel_rfl))
 f160:=Tryz.func28.trans (congrArg some (by kernel_rfl))
 f197:=Tryz.func67.trans (congrArg some (by kernel_rfl))
 f217:=Tryz.func120.trans (congrArg some (by kernel_rfl))
 f224:=Tryz.func106.trans (congrArg some (by kernel_rfl))
 f225:=Tryz.func107.trans (congrArg some (by kernel_rfl))
 f227:=Tryz.func42.trans (congrArg some (by kernel_rfl))
 f228:=Tryz.func66.trans (congrArg some (by kernel_rfl))
 f231:=Tryz.func40.trans (congrArg some (by kernel_rfl))
 f232:=Tryz.func41.trans (congrArg some (by kernel_rfl))
 f233:=Tryz.func43.trans (congrArg some (by kernel_rfl))
 f234:=Tryz.func44.trans (congrArg some (by kernel_rfl))
 f235:=Tryz.func45.trans (congrArg some (by kernel_rfl))
 f236:=Tryz.func46.trans (congrArg some (by kernel_rfl))
 f260:=Tryz.func90.trans (congrArg some (by kernel_rfl))
 f266:=Tryz.func133.trans (congrArg some (by kernel_rfl))
 f271:=Tryz.func69.trans (congrArg some (by kernel_rfl))
 t0:=Tryz.underlying0
 a0:=Tryz.isAgg0
 z0:=Tryz.sizeOf0
 v0:=Tryz.zeroValue0
 t3:=Tryz.underlying3
 a3:=Tryz.isAgg3
 z3:=Tryz.sizeOf3
 v3:=Tryz.zeroValue3
 t4:=Tryz.underlying4
 a4:=Tryz.isAgg4
 z4:=Tryz.sizeOf4
 v4:=Tryz.zeroValue4
 t5:=Tryz.underlying5
 a5:=Tryz.isAgg5
 z5:=Tryz.sizeOf5
 v5:=Tryz.zeroValue5
 t9:=Tryz.underlying9
 a9:=Tryz.isAgg9
 z9:=Tryz.sizeOf9
 v9:=Tryz.zeroValue9
 t21:=Tryz.underlying21
 a21:=Tryz.isAgg21
 z21:=Tryz.sizeOf21
 v21:=Tryz.zeroValue21
 t46:=Tryz.underlying95
 a46:=Tryz.isAgg95
 z46:=Tryz.sizeOf95
 v46:=Tryz.zeroValue95
 t105:=Tryz.underlying107
 a105:=Tryz.isAgg107
 z105:=Tryz.sizeOf107
 v105:=Tryz.zeroValue107
 t116:=Tryz.underlying82
 a116:=Tryz.isAgg82
 z116:=Tryz.sizeOf82
 t117:=Tryz.underlying83
 a117:=Tryz.isAgg83
 z117:=Tryz.sizeOf83
 v117:=Tryz.zeroValue83
 t119:=Tryz.underlying137
 a119:=Tryz.isAgg137
 z119:=Tryz.sizeOf137
 t124:=Tryz.underlying86
 a124:=Tryz.isAgg86
 z124:=Tryz.sizeOf86
 v124:=Tryz.zeroValue86
 t138:=Tryz.underlying139
 a138:=Tryz.isAgg139
 z138:=Tryz.sizeOf139
 v138:=Tryz.zeroValue139
 t139:=Tryz.underlying140
 a139:=Tryz.isAgg140
 z139:=Tryz.sizeOf140
 v139:=Tryz.zeroValue140
 g3:=by kernel_rfl
 g4:=by kernel_rfl }
theorem trim_0 (s:ByteArray) (w:World) (hs:s.size ≤ 65536):Calls Tryz.prog 28 #[.string s,.string ⟨#[48]⟩] w fun e w' => e = .returned (.string ⟨(Lib.trimS s.data.toList [48]).toArray⟩) ∧ Below w.heap.size w w' :=
 Any.strings_Trim_laid trLays (by kernel_rfl) s ⟨#[48]⟩ w (by omega) (by decide) (ascii_of_all (by decide))
end Go.Proofs.YtjoaijbhpgekoaaGreatDoor
