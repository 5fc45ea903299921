/- FxVectors' own walk: whatever the vectors and the number, it returns true. -/
import Derived.Test.YtbfkloclmlnahaaVec5
namespace Go.Proofs.Ytbfkloclmlnahaa
open Go.ChangeShapes Go.WideShapes Go.ChangeAt Go.RowKit

def unitPart (l d n : Int) : Int := if l = 0 then d else div n l
theorem unit_calls (x y z : Int) (w : World) :
    Calls Try.prog 36 #[.agg #[.int .i64 x, .int .i64 y, .int .i64 z]] w fun e w' => e = .returned (.agg #[.int .i64 (unitPart (long x y z) 0 x), .int .i64 (unitPart (long x y z) 65536 y), .int .i64 (unitPart (long x y z) 0 z)]) ∧ Kept w w' := by
  unfold unitPart
  by_cases h : long x y z = 0
  · rw [if_pos h, if_pos h, if_pos h]; exact unit_none x y z w h
  · rw [if_neg h, if_neg h, if_neg h]; exact unit_some x y z w (by simpa using h)
theorem refUnit_calls (x y z : Int) (w : World) :
    Calls Try.prog 37 #[.agg #[.int .i64 x, .int .i64 y, .int .i64 z]] w fun e w' => e = .returned (.agg #[.int .i64 (unitPart (long x y z) 0 x), .int .i64 (unitPart (long x y z) 65536 y), .int .i64 (unitPart (long x y z) 0 z)]) ∧ Kept w w' := by
  unfold unitPart
  by_cases h : long x y z = 0
  · rw [if_pos h, if_pos h, if_pos h]; exact refUnit_none x y z w h
  · rw [if_neg h, if_neg h, if_neg h]; exact refUnit_some x y z w (by simpa using h)
theorem clamp_calls (x y z k : Int) (w : World) (h' : k ≤ 9223372036854775807) :
    Calls Try.prog 38 #[.agg #[.int .i64 x, .int .i64 y, .int .i64 z], .int .i64 k] w fun e w' => e = .returned (.agg #[.int .i64 (cl (bound k) x), .int .i64 (cl (bound k) y), .int .i64 (cl (bound k) z)]) ∧ Kept w w' := by
  unfold bound
  by_cases h : k < 0
  · rw [if_pos h]; exact clamp_neg x y z k w h
  · rw [if_neg h]; exact clamp_pos x y z k w h h'
theorem refClamp_calls (x y z k : Int) (w : World) (h' : k ≤ 9223372036854775807) :
    Calls Try.prog 39 #[.agg #[.int .i64 x, .int .i64 y, .int .i64 z], .int .i64 k] w fun e w' => e = .returned (.agg #[.int .i64 (cl (bound k) x), .int .i64 (cl (bound k) y), .int .i64 (cl (bound k) z)]) ∧ Kept w w' := by
  unfold bound
  by_cases h : k < 0
  · rw [if_pos h]; exact refClamp_neg x y z k w h
  · rw [if_neg h]; exact refClamp_pos x y z k w h h'

set_option maxHeartbeats 4000000 in
theorem fxVectors_calls (x y z x' y' z' k : Int) (w : World) (h' : k ≤ 9223372036854775807) :
    Calls Try.prog 4 #[.agg #[.int .i64 x, .int .i64 y, .int .i64 z], .agg #[.int .i64 x', .int .i64 y', .int .i64 z'], .int .i64 k] w fun e w' => e = .returned (.bool true) ∧ Kept w w' := by
  have e : ∀ n : Int, (n == n) = true := fun n => beq_self_eq_true n
  go_enter Try.func4, Try.ntmps4
  go_wp2
  go_region_held3 (fun w' => Kept w w' ∧ w'.cell? ⟨w.heap.size, 0, none⟩ = some (.int .i64 x) ∧ w'.cell? ⟨w.heap.size, 1, none⟩ = some (.int .i64 y) ∧ w'.cell? ⟨w.heap.size, 2, none⟩ = some (.int .i64 z) ∧ w'.cell? ⟨w.heap.size + 1, 0, none⟩ = some (.int .i64 x') ∧ w'.cell? ⟨w.heap.size + 1, 1, none⟩ = some (.int .i64 y') ∧ w'.cell? ⟨w.heap.size + 1, 2, none⟩ = some (.int .i64 z'))
    (first | (refine Room33.step kk ?_; assumption) | exact Room33.start ..)
    (first | (go_at_call 26; refine (plus_calls _ _ _ _ _ _ _).mono ?_; rintro e w' ⟨rfl, kk⟩) | (go_at_call 27; refine (refPlus_calls _ _ _ _ _ _ _).mono ?_; rintro e w' ⟨rfl, kk⟩) | (go_at_call 28; refine (minus_calls _ _ _ _ _ _ _).mono ?_; rintro e w' ⟨rfl, kk⟩) | (go_at_call 29; refine (refMinus_calls _ _ _ _ _ _ _).mono ?_; rintro e w' ⟨rfl, kk⟩) | (go_at_call 30; refine (times_calls _ _ _ _ _).mono ?_; rintro e w' ⟨rfl, kk⟩) | (go_at_call 31; refine (refTimes_calls _ _ _ _ _).mono ?_; rintro e w' ⟨rfl, kk⟩) | (go_at_call 32; refine (dot_calls _ _ _ _ _ _ _).mono ?_; rintro e w' ⟨rfl, kk⟩) | (go_at_call 33; refine (refDot_calls _ _ _ _ _ _ _).mono ?_; rintro e w' ⟨rfl, kk⟩) | (go_at_call 34; refine (long_calls _ _ _ _).mono ?_; rintro e w' ⟨rfl, kk⟩) | (go_at_call 35; refine (refLong_calls _ _ _ _).mono ?_; rintro e w' ⟨rfl, kk⟩) | (go_at_call 36; refine (unit_calls _ _ _ _).mono ?_; rintro e w' ⟨rfl, kk⟩) | (go_at_call 37; refine (refUnit_calls _ _ _ _).mono ?_; rintro e w' ⟨rfl, kk⟩) | (go_at_call 38; refine (clamp_calls _ _ _ _ _ h').mono ?_; rintro e w' ⟨rfl, kk⟩) | (go_at_call 39; refine (refClamp_calls _ _ _ _ _ h').mono ?_; rintro e w' ⟨rfl, kk⟩))
  rename_i hh
  have hk := hh.1
  clear hh
  go_wp2
  go_ret
  exact ⟨rfl, hk⟩
end Go.Proofs.Ytbfkloclmlnahaa
