/- gyreref.Law.Right: whatever the law. -/
import Derived.Test.YtpegjobehdihbaaSv14
namespace Go.Proofs.Ytpegjobehdihbaa
open Go.ChangeShapes Go.WideShapes Go.ChangeAt Go.RowKit
set_option linter.unusedVariables false
set_option linter.unusedSimpArgs false

end Go.Proofs.Ytpegjobehdihbaa
