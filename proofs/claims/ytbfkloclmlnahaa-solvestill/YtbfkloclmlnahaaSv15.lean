/- gyreref.Law.Right: whatever the law. -/
import Derived.Test.YtbfkloclmlnahaaSv14
namespace Go.Proofs.Ytbfkloclmlnahaa
open Go.ChangeShapes Go.WideShapes Go.ChangeAt Go.RowKit
set_option linter.unusedVariables false
set_option linter.unusedSimpArgs false

theorem refRight_calls (b r k : Int) (w : World) : Calls Try.prog 67 #[.agg #[.int .i64 b, .int .i64 r, .int .i64 k]] w fun e w' => e = .returned (.bool (rightX b r k)) ∧ Kept w w' := by
  have e0 : rightX b r k = decide (0 ≤ b ∧ b ≤ 65536 ∧ 0 ≤ r ∧ r ≤ 65536 ∧ 0 < k ∧ k ≤ 20) := by
    unfold rightX shareX
    simp only [← Bool.decide_and]
    congr 1
    apply propext
    constructor
    · rintro ⟨⟨⟨h1, h2⟩, h3⟩, h4⟩; exact ⟨h1.1, h1.2, h2.1, h2.2, by omega, h4⟩
    · rintro ⟨h1, h2, h3, h4, h5, h6⟩; exact ⟨⟨⟨⟨h1, h2⟩, ⟨h3, h4⟩⟩, by omega⟩, h6⟩
  have HR : Hid (rightX b r k = decide (0 ≤ b ∧ b ≤ 65536 ∧ 0 ≤ r ∧ r ≤ 65536 ∧ 0 < k ∧ k ≤ 20)) := e0
  clear e0
  have fin : ∀ v, Hid (rightX b r k = v) → ∀ w', Kept w w' → (Ending.returned (.bool v) = Ending.returned (.bool (rightX b r k)) ∧ Kept w w') := fun v hv w' k => ⟨by rw [hv.out], k⟩
  have FIN : Hid (∀ v, Hid (rightX b r k = v) → ∀ w', Kept w w' → (Ending.returned (.bool v) = Ending.returned (.bool (rightX b r k)) ∧ Kept w w')) := fin
  clear fin
  by_cases h1 : 0 ≤ b
  · by_cases h2 : b ≤ 65536
    · by_cases h3 : 0 ≤ r
      · by_cases h4 : r ≤ 65536
        · by_cases h5 : 0 < k
          · by_cases h6 : k ≤ 20
            · have HV : Hid (rightX b r k = true) := by show _ = _; rw [HR.out]; simp [h1, h2, h3, h4, h5, h6]
              go_enter Try.func67, Try.ntmps67
              go_wp2_with fail
              go_ret
              exact FIN.out _ HV _ ((Kept.refl _).alloc _ _)
            · have HV : Hid (rightX b r k = false) := by show _ = _; rw [HR.out]; simp [h6]
              go_enter Try.func67, Try.ntmps67
              go_wp2_with fail
              go_ret
              exact FIN.out _ HV _ ((Kept.refl _).alloc _ _)
          · have HV : Hid (rightX b r k = false) := by show _ = _; rw [HR.out]; simp [h5]
            go_enter Try.func67, Try.ntmps67
            go_wp2_with fail
            go_ret
            exact FIN.out _ HV _ ((Kept.refl _).alloc _ _)
        · have HV : Hid (rightX b r k = false) := by show _ = _; rw [HR.out]; simp [h4]
          go_enter Try.func67, Try.ntmps67
          go_wp2_with fail
          go_ret
          exact FIN.out _ HV _ ((Kept.refl _).alloc _ _)
      · have HV : Hid (rightX b r k = false) := by show _ = _; rw [HR.out]; simp [h3]
        go_enter Try.func67, Try.ntmps67
        go_wp2_with fail
        go_ret
        exact FIN.out _ HV _ ((Kept.refl _).alloc _ _)
    · have HV : Hid (rightX b r k = false) := by show _ = _; rw [HR.out]; simp [h2]
      go_enter Try.func67, Try.ntmps67
      go_wp2_with fail
      go_ret
      exact FIN.out _ HV _ ((Kept.refl _).alloc _ _)
  · have HV : Hid (rightX b r k = false) := by show _ = _; rw [HR.out]; simp [h1]
    go_enter Try.func67, Try.ntmps67
    go_wp2_with fail
    go_ret
    exact FIN.out _ HV _ ((Kept.refl _).alloc _ _)
end Go.Proofs.Ytbfkloclmlnahaa
