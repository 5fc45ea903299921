/- fx.Cut and gyreref.Cut both answer 'cut', whatever the number. -/
import Derived.Test.YtdhbcgdlmkkdfaaGreatDoorBase
import Derived.Test.YtdhbcgdlmkkdfaaGreatDoorMath
namespace Go.Proofs.YtdhbcgdlmkkdfaaGreatDoor
open Go.ChangeShapes Go.WideShapes Go.ChangeAt Go.RowKit

theorem cut_calls (n : Int) (w : World) : Calls Tryz.prog 75 #[.int .i64 n] w fun e w' => e = .returned (.int .i64 (cut n)) ∧ Kept w w' := by
  have hmf : ∀ (fn : Fn) (first cap : Array Value) (w : World), (Instr.makeFunc fn first cap).run Tryz.prog w = .ok (.func fn first cap) w := fun _ _ _ _ => rfl
  by_cases h1 : 70368744177664 < n
  · rw [cut_hi h1]
    go_enter Tryz.func75, Tryz.ntmps75
    go_wp2
    go_ret
    exact ⟨rfl, (Kept.refl _).alloc _ _⟩
  · by_cases h2 : n < -70368744177664
    · rw [cut_lo h2]
      go_enter Tryz.func75, Tryz.ntmps75
      go_wp2
      go_ret
      exact ⟨rfl, (Kept.refl _).alloc _ _⟩
    · rw [cut_in (by omega) (by omega)]
      go_enter Tryz.func75, Tryz.ntmps75
      go_wp2
      go_ret
      exact ⟨rfl, (Kept.refl _).alloc _ _⟩
end Go.Proofs.YtdhbcgdlmkkdfaaGreatDoor
