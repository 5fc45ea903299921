/- What a Tape reads: its Get as a plain function. -/
import Derived.Test.YtedhdmahdioboaaSu5
import Derived.Test.YtedhdmahdioboaaRdm
namespace Go.Proofs.Ytedhdmahdioboaa
open Go.ChangeShapes Go.WideShapes Go.ChangeAt Go.RowKit
set_option linter.unusedVariables false
set_option linter.unusedSimpArgs false

theorem tget_getM (kt : Nat) (v : Value) (L : List Nat) (p : Nat) (wd : Int) (w : World) (h : TpAt w kt v (bitsOf L) p) :
    Calls Try.prog 81 #[.pointer (some ⟨kt, 0, none⟩), .int .i64 wd] w (TpPost kt v (bitsOf L) ((getM L p wd).1 : Nat) (getM L p wd).2.1 (getM L p wd).2.2 w) := by
  refine (tget_calls kt v (bitsOf L) p wd w h).mono ?_
  rintro e w' (⟨h1, h2⟩ | ⟨h1, h2, h3⟩ | ⟨h1, h2, h3⟩)
  · unfold getM; rw [if_pos h1]; exact h2
  · unfold getM; rw [bitsOf_len] at h2; rw [if_neg (by simpa using h1), if_pos h2]; exact h3
  · unfold getM; rw [bitsOf_len] at h2; rw [if_neg (by simpa using h1), if_neg (by omega)]; exact h3
end Go.Proofs.Ytedhdmahdioboaa
