/- The closures of geom.Both and Near answer, part by part, what chapter 2 says: whatever the boxes. -/
import Derived.Test.YtdbjbjgnkkhgcaaGeo3
namespace Go.Proofs.Ytdbjbjgnkkhgcaa
open Go.ChangeShapes Go.WideShapes Go.ChangeAt Go.RowKit
set_option linter.unusedSimpArgs false

/-- The lesser, the greater of two numbers. -/
def lesser (a b : Int) : Int := if b < a then b else a
def greater (a b : Int) : Int := if a < b then b else a
end Go.Proofs.Ytdbjbjgnkkhgcaa
