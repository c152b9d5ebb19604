/- Rp9 -/
import Derived.Shelf.Strings.SlTrimAscii
import Derived.Test.YtmnlhnmlgncedaaGreatDoorRp3
namespace Go.Proofs.YtmnlhnmlgncedaaGreatDoor
open Go.Shelf Go.RowKit Go.Deep
set_option linter.unusedVariables false

end Go.Proofs.YtmnlhnmlgncedaaGreatDoor
