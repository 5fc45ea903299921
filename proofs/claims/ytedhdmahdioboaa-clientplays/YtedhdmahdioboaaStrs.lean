/- Bytes as a string: whatever they are. -/
import Derived.Test.YtedhdmahdioboaaSg3
import Derived.OwnWalk
import Derived.Maps.AppendAt
import Derived.LaidEql
import Derived.Stop.Asserts
import Derived.RowKitTokens
namespace Go.Proofs.Ytedhdmahdioboaa
open Go.ChangeShapes Go.WideShapes Go.ChangeAt Go.RowKit
set_option linter.unusedVariables false
set_option linter.unusedSimpArgs false

/-- Bytes at the head of a block, cell by cell. -/
def CellsBy (w : World) (g : Nat) (L : List Nat) : Prop := ∀ j, j < L.length → w.cell? ⟨g, 0 + j, none⟩ = some (.int .u8 ((L.map (fun c : Nat => (c : Int))).getD j 0))
theorem CellsBy.only {w w' : World} {g : Nat} {L : List Nat} (h : CellsBy w g L) (o : Only [] w w') : CellsBy w' g L := fun j hj => o.cell (h j hj) (by simp)
theorem getD_cast (L : List Nat) (j : Nat) (hj : j < L.length) : (L.map (fun c : Nat => (c : Int))).getD j 0 = ((L.getD j 0 : Nat) : Int) := by
  simp [List.getD_eq_getElem?_getD, List.getElem?_eq_getElem hj]
theorem ByAt.cells {w : World} {g : Nat} {L : List Nat} (h : ByAt w (some ⟨g, 0, none⟩) L) : CellsBy w g L := fun j hj => by
  obtain ⟨g', o', e, hc⟩ := h j hj
  injection e with e; injection e with e1 e2 _; subst e1 e2
  rw [hc, getD_cast _ _ hj]
/-- The string of bytes. -/
def strB (L : List Nat) : ByteArray := strOfNums (L.map (fun c : Nat => (c : Int)))
theorem str_some (g c : Nat) (L : List Nat) (w : World) (h : CellsBy w g L) : (convert 53 9 (.slice (some ⟨g, 0, none⟩) L.length c)).run Try.prog w = .ok (.string (strB L)) w :=
  run_convert_bytes_arg w 53 5 Try.underlying53 Try.underlying5 g 0 L.length c (L.map (fun c : Nat => (c : Int))) (by simp) h 9 Try.underlying9
theorem str_none (w : World) : (convert 53 9 (.slice none 0 0)).run Try.prog w = .ok (.string (strB [])) w :=
  run_convert_bytes_nil w 53 5 Try.underlying53 Try.underlying5 0 0 9 Try.underlying9
/-- What a slice's string is, from here on. -/
def ReadsAs (w : World) (v : Value) (L : List Nat) : Prop := ∀ u, Only [] w u → (convert 53 9 v).run Try.prog u = .ok (.string (strB L)) u
theorem ReadsAs.only {w w' : World} {v : Value} {L : List Nat} (h : ReadsAs w v L) (o : Only [] w w') : ReadsAs w' v L := fun u ou => h u (o.trans ou)
theorem ReadsAs.nil (w : World) : ReadsAs w (.slice none 0 0) [] := fun u _ => str_none u
theorem Fresh.reads {w w' : World} {v : Value} {L : List Nat} (h : Fresh w v L w') : ReadsAs w' v L := by
  obtain ⟨g, c, rfl, _, _, hb, _⟩ := h
  exact fun u o => str_some g c L u (hb.cells.only o)
end Go.Proofs.Ytedhdmahdioboaa
