/- fx.Add, fx.Sub, fx.size, fx.endless, bits.Mul64 and gyreref's Add, Sub, abs answer what Math.lean says. -/
import Derived.Test.YtdhbcgdlmkkdfaaGreatDoorCut
namespace Go.Proofs.YtdhbcgdlmkkdfaaGreatDoor
open Go.ChangeShapes Go.WideShapes Go.ChangeAt Go.RowKit

theorem kept_two {a b c : World} (h : Kept a b) (k : Kept b c) : Kept a c := h.trans k
theorem kept_three {a b c d : World} (h : Kept a b) (k : Kept b c) (l : Kept c d) : Kept a d := (h.trans k).trans l

theorem add_calls (a b : Int) (w : World) : Calls Tryz.prog 48 #[.int .i64 a, .int .i64 b] w fun e w' => e = .returned (.int .i64 (add a b)) ∧ Kept w w' := by
  have a1 := cut_le a; have a2 := cut_ge a; have b1 := cut_le b; have b2 := cut_ge b
  go_enter Tryz.func48, Tryz.ntmps48
  go_wp2_with fail
  refine (cut_calls _ _).mono ?_; rintro e w1 ⟨rfl, k1⟩
  go_wp2_with fail
  refine (cut_calls _ _).mono ?_; rintro e w2 ⟨rfl, k2⟩
  go_wp2_with fail
  refine (cut_calls _ _).mono ?_; rintro e w3 ⟨rfl, k3⟩
  go_wp2_with fail
  go_ret
  exact ⟨rfl, kept_three k1 k2 k3⟩
theorem sub_calls (a b : Int) (w : World) : Calls Tryz.prog 47 #[.int .i64 a, .int .i64 b] w fun e w' => e = .returned (.int .i64 (sub a b)) ∧ Kept w w' := by
  have a1 := cut_le a; have a2 := cut_ge a; have b1 := cut_le b; have b2 := cut_ge b
  go_enter Tryz.func47, Tryz.ntmps47
  go_wp2_with fail
  refine (cut_calls _ _).mono ?_; rintro e w1 ⟨rfl, k1⟩
  go_wp2_with fail
  refine (cut_calls _ _).mono ?_; rintro e w2 ⟨rfl, k2⟩
  go_wp2_with fail
  refine (cut_calls _ _).mono ?_; rintro e w3 ⟨rfl, k3⟩
  go_wp2_with fail
  go_ret
  exact ⟨rfl, kept_three k1 k2 k3⟩
end Go.Proofs.YtdhbcgdlmkkdfaaGreatDoor
