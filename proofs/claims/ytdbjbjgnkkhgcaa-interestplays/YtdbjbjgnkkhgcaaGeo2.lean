/- geom.each answers, part by part, what it is handed: whatever that is. -/
import Derived.Test.YtdbjbjgnkkhgcaaGeo1
namespace Go.Proofs.Ytdbjbjgnkkhgcaa
open Go.ChangeShapes Go.WideShapes Go.ChangeAt Go.RowKit

def G3o (w : World) (b0 b1 : Nat) (v0 v1 v2 : Value) (w' : World) : Prop :=
  Kept w w' ∧
  w'.cell? ⟨b0, 0, none⟩ = some v0 ∧
  w'.cell? ⟨b0, 1, none⟩ = some v1 ∧
  w'.cell? ⟨b0, 2, none⟩ = some v2 ∧
  w'.cell? ⟨b1, 0, none⟩ = some (cellV w' ⟨b1, 0, none⟩) ∧
  w'.cell? ⟨b1, 1, none⟩ = some (cellV w' ⟨b1, 1, none⟩) ∧
  w'.cell? ⟨b1, 2, none⟩ = some (cellV w' ⟨b1, 2, none⟩) ∧
  w'.frozen? ⟨b1, 0, none⟩ = false ∧
  w'.frozen? ⟨b1, 1, none⟩ = false ∧
  w'.frozen? ⟨b1, 2, none⟩ = false
theorem G3o.step {w w1 w2 : World} {b0 b1 : Nat} {v0 v1 v2 : Value} (k : Kept w1 w2) (h : G3o w b0 b1 v0 v1 v2 w1) : G3o w b0 b1 v0 v1 v2 w2 := by
  obtain ⟨h0, h1, h2, h3, h4, h5, h6, h7, h8, h9⟩ := h
  exact ⟨h0.trans k, kept_cell k h1, kept_cell k h2, kept_cell k h3, kept_there k h4, kept_there k h5, kept_there k h6, kept_frozen k h7, kept_frozen k h8, kept_frozen k h9⟩
theorem G3o.drew {w w1 : World} {b0 b1 : Nat} {v0 v1 v2 : Value} (h : G3o w b0 b1 v0 v1 v2 w1) : G3o w b0 b1 v0 v1 v2 w1.drew := h.step (Kept.refl _).drew
theorem G3o.put {w w1 : World} {b0 b1 : Nat} {v0 v1 v2 : Value} (i : Nat) (v : Value) (ho : w.heap.size ≤ b1) (n0 : b0 ≠ b1) (h : G3o w b0 b1 v0 v1 v2 w1) : G3o w b0 b1 v0 v1 v2 (w1.setCell ⟨b1, i, none⟩ v) := by
  obtain ⟨h0, h1, h2, h3, h4, h5, h6, h7, h8, h9⟩ := h
  exact ⟨h0.setCell (p := ⟨b1, i, none⟩) ho v, (World.cell?_setCell_other _ _ _ _ (fun e => n0 (by injection e with e; exact e.symm))).trans h1, (World.cell?_setCell_other _ _ _ _ (fun e => n0 (by injection e with e; exact e.symm))).trans h2, (World.cell?_setCell_other _ _ _ _ (fun e => n0 (by injection e with e; exact e.symm))).trans h3, put_there h4, put_there h5, put_there h6, (World.frozen?_setCell _ _ _ _).trans h7, (World.frozen?_setCell _ _ _ _).trans h8, (World.frozen?_setCell _ _ _ _).trans h9⟩

end Go.Proofs.Ytdbjbjgnkkhgcaa
