/- broad.Tree.Query, Many, High; gyrelaw.high: what chapter 3 says: whatever the tree. -/
import Derived.Test.YtdhbcgdlmkkdfaaGreatDoorAs3
import Derived.Test.YtdhbcgdlmkkdfaaGreatDoorSrt
namespace Go.Proofs.YtdhbcgdlmkkdfaaGreatDoor
open Go.ChangeShapes Go.WideShapes Go.ChangeAt Go.RowKit Go.Sort Go.Shelf Go.Lib
set_option linter.unusedVariables false
set_option linter.unusedSimpArgs false

end Go.Proofs.YtdhbcgdlmkkdfaaGreatDoor
