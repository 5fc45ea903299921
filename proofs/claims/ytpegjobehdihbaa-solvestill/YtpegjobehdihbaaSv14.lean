/- gyreref.Speeds' closure give, gyreref.Law.Right: whatever they are. -/
import Derived.Test.YtpegjobehdihbaaSv13
import Derived.Test.YtpegjobehdihbaaLate
namespace Go.Proofs.Ytpegjobehdihbaa
open Go.ChangeShapes Go.WideShapes Go.ChangeAt Go.RowKit
set_option linter.unusedVariables false
set_option linter.unusedSimpArgs false

/-- The variables that give holds. -/
def VarsAt (w : World) (kl ki kx kk ky g n cp i k : Nat) (x y : Int) : Prop := w.cell? ⟨kl, 0, none⟩ = some (.slice (some ⟨g, 0, none⟩) n cp) ∧ w.cell? ⟨ki, 0, none⟩ = some (.int .i64 ((i : Int))) ∧ w.cell? ⟨kx, 0, none⟩ = some (.int .i64 x) ∧ w.cell? ⟨kk, 0, none⟩ = some (.int .i64 ((k : Int))) ∧ w.cell? ⟨ky, 0, none⟩ = some (.int .i64 y)
theorem VarsAt.only {D : List Nat} {w w' : World} {kl ki kx kk ky g n cp i k : Nat} {x y : Int} (h : VarsAt w kl ki kx kk ky g n cp i k x y) (o : Only D w w') (s : kl ∉ D ∧ ki ∉ D ∧ kx ∉ D ∧ kk ∉ D ∧ ky ∉ D) : VarsAt w' kl ki kx kk ky g n cp i k x y :=
  ⟨cell_only o h.1 s.1, cell_only o h.2.1 s.2.1, cell_only o h.2.2.1 s.2.2.1, cell_only o h.2.2.2.1 s.2.2.2.1, cell_only o h.2.2.2.2 s.2.2.2.2⟩
end Go.Proofs.Ytpegjobehdihbaa
