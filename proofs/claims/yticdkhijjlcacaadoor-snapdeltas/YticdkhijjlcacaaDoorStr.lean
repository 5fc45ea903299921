/- bare of an error: whichever. -/
import Derived.Test.YticdkhijjlcacaaDoorStrl
import Derived.Test.YticdkhijjlcacaaDoorAt3
namespace Go.Proofs.YticdkhijjlcacaaDoor
open Go.ChangeShapes Go.WideShapes Go.ChangeAt Go.RowKit
set_option linter.unusedVariables false
set_option linter.unusedSimpArgs false

theorem EtIs.only {w w' : World} (h : EtIs w) (o : Only [] w w') : EtIs w' := o.cell h (by simp)
theorem bare_yes (c : Int) (w : World) (hg : EtIs w) : Calls Tryd.prog 9 #[errV c, .int .i64 c] w fun e w' => e = .returned (.bool true) ∧ Only [] w w' := by
  refine (bareErr_calls c c w hg).mono ?_
  rintro e w' ⟨rfl, k⟩
  exact ⟨by simp, Only.of_kept k⟩
theorem bare_none (w : World) : Calls Tryd.prog 9 #[.nilIface, .int .i64 0] w fun e w' => e = .returned (.bool true) ∧ Only [] w w' := by
  refine (bareNil_calls 0 w).mono ?_
  rintro e w' ⟨rfl, k⟩
  exact ⟨rfl, Only.of_kept k⟩
end Go.Proofs.YticdkhijjlcacaaDoor
