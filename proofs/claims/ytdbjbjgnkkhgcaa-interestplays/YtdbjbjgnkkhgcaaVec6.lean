/- FxVectors' own walk: whatever the vectors and the number, it returns true. -/
import Derived.Test.YtdbjbjgnkkhgcaaVec5
namespace Go.Proofs.Ytdbjbjgnkkhgcaa
open Go.ChangeShapes Go.WideShapes Go.ChangeAt Go.RowKit

def unitPart (l d n : Int) : Int := if l = 0 then d else div n l
theorem clamp_calls (x y z k : Int) (w : World) (h' : k ≤ 9223372036854775807) :
    Calls Try.prog 28 #[.agg #[.int .i64 x, .int .i64 y, .int .i64 z], .int .i64 k] w fun e w' => e = .returned (.agg #[.int .i64 (cl (bound k) x), .int .i64 (cl (bound k) y), .int .i64 (cl (bound k) z)]) ∧ Kept w w' := by
  unfold bound
  by_cases h : k < 0
  · rw [if_pos h]; exact clamp_neg x y z k w h
  · rw [if_neg h]; exact clamp_pos x y z k w h h'
theorem refClamp_calls (x y z k : Int) (w : World) (h' : k ≤ 9223372036854775807) :
    Calls Try.prog 5 #[.agg #[.int .i64 x, .int .i64 y, .int .i64 z], .int .i64 k] w fun e w' => e = .returned (.agg #[.int .i64 (cl (bound k) x), .int .i64 (cl (bound k) y), .int .i64 (cl (bound k) z)]) ∧ Kept w w' := by
  unfold bound
  by_cases h : k < 0
  · rw [if_pos h]; exact refClamp_neg x y z k w h
  · rw [if_neg h]; exact refClamp_pos x y z k w h h'

end Go.Proofs.Ytdbjbjgnkkhgcaa
