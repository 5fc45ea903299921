/- FxVectors' own walk: whatever the vectors and the number, it returns true. -/
import Derived.Test.YtpegjobehdihbaaVec5
namespace Go.Proofs.Ytpegjobehdihbaa
open Go.ChangeShapes Go.WideShapes Go.ChangeAt Go.RowKit

def unitPart (l d n : Int) : Int := if l = 0 then d else div n l
theorem unit_calls (x y z : Int) (w : World) :
    Calls Try.prog 30 #[.agg #[.int .i64 x, .int .i64 y, .int .i64 z]] w fun e w' => e = .returned (.agg #[.int .i64 (unitPart (long x y z) 0 x), .int .i64 (unitPart (long x y z) 65536 y), .int .i64 (unitPart (long x y z) 0 z)]) ∧ Kept w w' := by
  unfold unitPart
  by_cases h : long x y z = 0
  · rw [if_pos h, if_pos h, if_pos h]; exact unit_none x y z w h
  · rw [if_neg h, if_neg h, if_neg h]; exact unit_some x y z w (by simpa using h)
theorem clamp_calls (x y z k : Int) (w : World) (h' : k ≤ 9223372036854775807) :
    Calls Try.prog 5 #[.agg #[.int .i64 x, .int .i64 y, .int .i64 z], .int .i64 k] w fun e w' => e = .returned (.agg #[.int .i64 (cl (bound k) x), .int .i64 (cl (bound k) y), .int .i64 (cl (bound k) z)]) ∧ Kept w w' := by
  unfold bound
  by_cases h : k < 0
  · rw [if_pos h]; exact clamp_neg x y z k w h
  · rw [if_neg h]; exact clamp_pos x y z k w h h'
end Go.Proofs.Ytpegjobehdihbaa
