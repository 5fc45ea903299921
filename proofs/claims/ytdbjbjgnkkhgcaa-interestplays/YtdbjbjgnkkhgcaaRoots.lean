/- fx.Root and gyreref.Root answer 'root', whatever the number. -/
import Derived.Test.YtdbjbjgnkkhgcaaWide2
namespace Go.Proofs.Ytdbjbjgnkkhgcaa
open Go.ChangeShapes Go.WideShapes Go.ChangeAt Go.RowKit

/-- What holds of both ends at each round's head: the root of s lies between them. -/
def Ends (s l h : Int) : Prop := 0 ≤ l ∧ l ≤ h ∧ h ≤ 2147483648 ∧ l * l ≤ s ∧ s < (h + 1) * (h + 1)
theorem ends_up {s l h : Int} (e : Ends s l h) (k : l < h) (m : (l + h + 1) / 2 * ((l + h + 1) / 2) ≤ s) : Ends s ((l + h + 1) / 2) h := by
  obtain ⟨a, b, c, d, f⟩ := e
  exact ⟨by omega, by omega, c, m, f⟩
theorem ends_down {s l h : Int} (e : Ends s l h) (k : l < h) (m : ¬ (l + h + 1) / 2 * ((l + h + 1) / 2) ≤ s) : Ends s l ((l + h + 1) / 2 - 1) := by
  obtain ⟨a, b, c, d, f⟩ := e
  refine ⟨a, by omega, by omega, d, ?_⟩
  rw [show (l + h + 1) / 2 - 1 + 1 = (l + h + 1) / 2 by omega]; omega
theorem ends_meet {n l h : Int} (p : 0 ≤ cut n) (e : Ends (65536 * cut n) l h) (k : ¬ l < h) : l = root n := by
  obtain ⟨a, b, c, d, f⟩ := e
  have : h = l := by omega
  subst this
  exact (root_eq p a d f).symm
theorem ends_start {s : Int} (a : 0 ≤ s) (b : s ≤ 4611686018427387904) : Ends s 0 2147483648 := ⟨by omega, by omega, by omega, by omega, by omega⟩

end Go.Proofs.Ytdbjbjgnkkhgcaa
