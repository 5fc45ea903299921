/- fx.Unit, Clamp and gyreref's Unit, Clamp answer the same: whatever the vectors. -/
import Derived.Test.YtdbjbjgnkkhgcaaVec3
namespace Go.Proofs.Ytdbjbjgnkkhgcaa
open Go.ChangeShapes Go.WideShapes Go.ChangeAt Go.RowKit

theorem within_calls (k : Int) (w : World) :
    Calls Try.prog 44 #[.int .i64 k] w fun e w' => ∃ p, e = .returned (.func (.func 64) #[] #[.pointer (some p)]) ∧ Kept w w' ∧ w'.cell? p = some (.int .i64 k) := by
  have hmf : ∀ (fn : Fn) (first cap : Array Value) (w : World), (Instr.makeFunc fn first cap).run Try.prog w = .ok (.func fn first cap) w := fun _ _ _ _ => rfl
  go_enter Try.func44, Try.ntmps44
  go_wp2
  go_ret
  exact ⟨_, rfl, (Kept.refl _).alloc _ _, by go_simp⟩
end Go.Proofs.Ytdbjbjgnkkhgcaa
