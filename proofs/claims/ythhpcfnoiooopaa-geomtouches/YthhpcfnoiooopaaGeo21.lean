/- gyreref.Touches answers what chapter 2 says: whatever the shapes and the places. -/
import Derived.Test.YthhpcfnoiooopaaGeo20
import Derived.Test.YthhpcfnoiooopaaGeo18
import Derived.Test.YthhpcfnoiooopaaGeo9
namespace Go.Proofs.Ythhpcfnoiooopaa
open Go.ChangeShapes Go.WideShapes Go.ChangeAt Go.RowKit
set_option linter.unusedSimpArgs false

def RT (w : World) (b0 b1 b2 b3 b4 : Nat) (v0 v1 v2 v3 v4 v5 v6 v7 v8 v9 v10 : Value) (w' : World) : Prop :=
  Kept w w' ∧
  w'.cell? ⟨b0, 0, none⟩ = some v0 ∧
  w'.cell? ⟨b0, 1, none⟩ = some v1 ∧
  w'.cell? ⟨b0, 2, none⟩ = some v2 ∧
  w'.cell? ⟨b0, 3, none⟩ = some v3 ∧
  w'.cell? ⟨b1, 0, none⟩ = some v4 ∧
  w'.cell? ⟨b1, 1, none⟩ = some v5 ∧
  w'.cell? ⟨b1, 2, none⟩ = some v6 ∧
  w'.cell? ⟨b1, 3, none⟩ = some v7 ∧
  w'.cell? ⟨b2, 0, none⟩ = some v8 ∧
  w'.cell? ⟨b2, 1, none⟩ = some v9 ∧
  w'.cell? ⟨b2, 2, none⟩ = some v10 ∧
  w'.cell? ⟨b3, 0, none⟩ = some (cellV w' ⟨b3, 0, none⟩) ∧
  w'.cell? ⟨b3, 1, none⟩ = some (cellV w' ⟨b3, 1, none⟩) ∧
  w'.cell? ⟨b3, 2, none⟩ = some (cellV w' ⟨b3, 2, none⟩) ∧
  w'.frozen? ⟨b3, 0, none⟩ = false ∧
  w'.frozen? ⟨b3, 1, none⟩ = false ∧
  w'.frozen? ⟨b3, 2, none⟩ = false ∧
  w'.cell? ⟨b4, 0, none⟩ = some (cellV w' ⟨b4, 0, none⟩) ∧
  w'.cell? ⟨b4, 1, none⟩ = some (cellV w' ⟨b4, 1, none⟩) ∧
  w'.cell? ⟨b4, 2, none⟩ = some (cellV w' ⟨b4, 2, none⟩) ∧
  w'.frozen? ⟨b4, 0, none⟩ = false ∧
  w'.frozen? ⟨b4, 1, none⟩ = false ∧
  w'.frozen? ⟨b4, 2, none⟩ = false
theorem RT.step {w w1 w2 : World} {b0 b1 b2 b3 b4 : Nat} {v0 v1 v2 v3 v4 v5 v6 v7 v8 v9 v10 : Value} (k : Kept w1 w2) (h : RT w b0 b1 b2 b3 b4 v0 v1 v2 v3 v4 v5 v6 v7 v8 v9 v10 w1) : RT w b0 b1 b2 b3 b4 v0 v1 v2 v3 v4 v5 v6 v7 v8 v9 v10 w2 := by
  obtain ⟨h0, h1, h2, h3, h4, h5, h6, h7, h8, h9, h10, h11, h12, h13, h14, h15, h16, h17, h18, h19, h20, h21, h22, h23⟩ := h
  exact ⟨h0.trans k, kept_cell k h1, kept_cell k h2, kept_cell k h3, kept_cell k h4, kept_cell k h5, kept_cell k h6, kept_cell k h7, kept_cell k h8, kept_cell k h9, kept_cell k h10, kept_cell k h11, kept_there k h12, kept_there k h13, kept_there k h14, kept_frozen k h15, kept_frozen k h16, kept_frozen k h17, kept_there k h18, kept_there k h19, kept_there k h20, kept_frozen k h21, kept_frozen k h22, kept_frozen k h23⟩
theorem RT.drew {w w1 : World} {b0 b1 b2 b3 b4 : Nat} {v0 v1 v2 v3 v4 v5 v6 v7 v8 v9 v10 : Value} (h : RT w b0 b1 b2 b3 b4 v0 v1 v2 v3 v4 v5 v6 v7 v8 v9 v10 w1) : RT w b0 b1 b2 b3 b4 v0 v1 v2 v3 v4 v5 v6 v7 v8 v9 v10 w1.drew := h.step (Kept.refl _).drew
theorem RT.put0 {w w1 : World} {b0 b1 b2 b3 b4 : Nat} {v0 v1 v2 v3 v4 v5 v6 v7 v8 v9 v10 : Value} (i : Nat) (v : Value) (ho : w.heap.size ≤ b3) (n0 : b0 ≠ b3) (n1 : b1 ≠ b3) (n2 : b2 ≠ b3) (h : RT w b0 b1 b2 b3 b4 v0 v1 v2 v3 v4 v5 v6 v7 v8 v9 v10 w1) : RT w b0 b1 b2 b3 b4 v0 v1 v2 v3 v4 v5 v6 v7 v8 v9 v10 (w1.setCell ⟨b3, i, none⟩ v) := by
  obtain ⟨h0, h1, h2, h3, h4, h5, h6, h7, h8, h9, h10, h11, h12, h13, h14, h15, h16, h17, h18, h19, h20, h21, h22, h23⟩ := h
  exact ⟨h0.setCell (p := ⟨b3, i, none⟩) ho v, (World.cell?_setCell_other _ _ _ _ (fun e => n0 (by injection e with e; exact e.symm))).trans h1, (World.cell?_setCell_other _ _ _ _ (fun e => n0 (by injection e with e; exact e.symm))).trans h2, (World.cell?_setCell_other _ _ _ _ (fun e => n0 (by injection e with e; exact e.symm))).trans h3, (World.cell?_setCell_other _ _ _ _ (fun e => n0 (by injection e with e; exact e.symm))).trans h4, (World.cell?_setCell_other _ _ _ _ (fun e => n1 (by injection e with e; exact e.symm))).trans h5, (World.cell?_setCell_other _ _ _ _ (fun e => n1 (by injection e with e; exact e.symm))).trans h6, (World.cell?_setCell_other _ _ _ _ (fun e => n1 (by injection e with e; exact e.symm))).trans h7, (World.cell?_setCell_other _ _ _ _ (fun e => n1 (by injection e with e; exact e.symm))).trans h8, (World.cell?_setCell_other _ _ _ _ (fun e => n2 (by injection e with e; exact e.symm))).trans h9, (World.cell?_setCell_other _ _ _ _ (fun e => n2 (by injection e with e; exact e.symm))).trans h10, (World.cell?_setCell_other _ _ _ _ (fun e => n2 (by injection e with e; exact e.symm))).trans h11, put_there h12, put_there h13, put_there h14, (World.frozen?_setCell _ _ _ _).trans h15, (World.frozen?_setCell _ _ _ _).trans h16, (World.frozen?_setCell _ _ _ _).trans h17, put_there h18, put_there h19, put_there h20, (World.frozen?_setCell _ _ _ _).trans h21, (World.frozen?_setCell _ _ _ _).trans h22, (World.frozen?_setCell _ _ _ _).trans h23⟩
theorem RT.put1 {w w1 : World} {b0 b1 b2 b3 b4 : Nat} {v0 v1 v2 v3 v4 v5 v6 v7 v8 v9 v10 : Value} (i : Nat) (v : Value) (ho : w.heap.size ≤ b4) (n0 : b0 ≠ b4) (n1 : b1 ≠ b4) (n2 : b2 ≠ b4) (h : RT w b0 b1 b2 b3 b4 v0 v1 v2 v3 v4 v5 v6 v7 v8 v9 v10 w1) : RT w b0 b1 b2 b3 b4 v0 v1 v2 v3 v4 v5 v6 v7 v8 v9 v10 (w1.setCell ⟨b4, i, none⟩ v) := by
  obtain ⟨h0, h1, h2, h3, h4, h5, h6, h7, h8, h9, h10, h11, h12, h13, h14, h15, h16, h17, h18, h19, h20, h21, h22, h23⟩ := h
  exact ⟨h0.setCell (p := ⟨b4, i, none⟩) ho v, (World.cell?_setCell_other _ _ _ _ (fun e => n0 (by injection e with e; exact e.symm))).trans h1, (World.cell?_setCell_other _ _ _ _ (fun e => n0 (by injection e with e; exact e.symm))).trans h2, (World.cell?_setCell_other _ _ _ _ (fun e => n0 (by injection e with e; exact e.symm))).trans h3, (World.cell?_setCell_other _ _ _ _ (fun e => n0 (by injection e with e; exact e.symm))).trans h4, (World.cell?_setCell_other _ _ _ _ (fun e => n1 (by injection e with e; exact e.symm))).trans h5, (World.cell?_setCell_other _ _ _ _ (fun e => n1 (by injection e with e; exact e.symm))).trans h6, (World.cell?_setCell_other _ _ _ _ (fun e => n1 (by injection e with e; exact e.symm))).trans h7, (World.cell?_setCell_other _ _ _ _ (fun e => n1 (by injection e with e; exact e.symm))).trans h8, (World.cell?_setCell_other _ _ _ _ (fun e => n2 (by injection e with e; exact e.symm))).trans h9, (World.cell?_setCell_other _ _ _ _ (fun e => n2 (by injection e with e; exact e.symm))).trans h10, (World.cell?_setCell_other _ _ _ _ (fun e => n2 (by injection e with e; exact e.symm))).trans h11, put_there h12, put_there h13, put_there h14, (World.frozen?_setCell _ _ _ _).trans h15, (World.frozen?_setCell _ _ _ _).trans h16, (World.frozen?_setCell _ _ _ _).trans h17, put_there h18, put_there h19, put_there h20, (World.frozen?_setCell _ _ _ _).trans h21, (World.frozen?_setCell _ _ _ _).trans h22, (World.frozen?_setCell _ _ _ _).trans h23⟩

def RU (w : World) (b0 b1 b2 b3 : Nat) (v0 v1 v2 v3 v4 v5 v6 : Value) (w' : World) : Prop :=
  Kept w w' ∧
  w'.cell? ⟨b0, 0, none⟩ = some v0 ∧
  w'.cell? ⟨b0, 1, none⟩ = some v1 ∧
  w'.cell? ⟨b0, 2, none⟩ = some v2 ∧
  w'.cell? ⟨b0, 3, none⟩ = some v3 ∧
  w'.cell? ⟨b1, 0, none⟩ = some v4 ∧
  w'.cell? ⟨b1, 1, none⟩ = some v5 ∧
  w'.cell? ⟨b1, 2, none⟩ = some v6 ∧
  w'.cell? ⟨b2, 0, none⟩ = some (cellV w' ⟨b2, 0, none⟩) ∧
  w'.cell? ⟨b2, 1, none⟩ = some (cellV w' ⟨b2, 1, none⟩) ∧
  w'.cell? ⟨b2, 2, none⟩ = some (cellV w' ⟨b2, 2, none⟩) ∧
  w'.frozen? ⟨b2, 0, none⟩ = false ∧
  w'.frozen? ⟨b2, 1, none⟩ = false ∧
  w'.frozen? ⟨b2, 2, none⟩ = false ∧
  w'.cell? ⟨b3, 0, none⟩ = some (cellV w' ⟨b3, 0, none⟩) ∧
  w'.cell? ⟨b3, 1, none⟩ = some (cellV w' ⟨b3, 1, none⟩) ∧
  w'.cell? ⟨b3, 2, none⟩ = some (cellV w' ⟨b3, 2, none⟩) ∧
  w'.frozen? ⟨b3, 0, none⟩ = false ∧
  w'.frozen? ⟨b3, 1, none⟩ = false ∧
  w'.frozen? ⟨b3, 2, none⟩ = false
theorem RU.step {w w1 w2 : World} {b0 b1 b2 b3 : Nat} {v0 v1 v2 v3 v4 v5 v6 : Value} (k : Kept w1 w2) (h : RU w b0 b1 b2 b3 v0 v1 v2 v3 v4 v5 v6 w1) : RU w b0 b1 b2 b3 v0 v1 v2 v3 v4 v5 v6 w2 := by
  obtain ⟨h0, h1, h2, h3, h4, h5, h6, h7, h8, h9, h10, h11, h12, h13, h14, h15, h16, h17, h18, h19⟩ := h
  exact ⟨h0.trans k, kept_cell k h1, kept_cell k h2, kept_cell k h3, kept_cell k h4, kept_cell k h5, kept_cell k h6, kept_cell k h7, kept_there k h8, kept_there k h9, kept_there k h10, kept_frozen k h11, kept_frozen k h12, kept_frozen k h13, kept_there k h14, kept_there k h15, kept_there k h16, kept_frozen k h17, kept_frozen k h18, kept_frozen k h19⟩
theorem RU.drew {w w1 : World} {b0 b1 b2 b3 : Nat} {v0 v1 v2 v3 v4 v5 v6 : Value} (h : RU w b0 b1 b2 b3 v0 v1 v2 v3 v4 v5 v6 w1) : RU w b0 b1 b2 b3 v0 v1 v2 v3 v4 v5 v6 w1.drew := h.step (Kept.refl _).drew
theorem RU.put0 {w w1 : World} {b0 b1 b2 b3 : Nat} {v0 v1 v2 v3 v4 v5 v6 : Value} (i : Nat) (v : Value) (ho : w.heap.size ≤ b2) (n0 : b0 ≠ b2) (n1 : b1 ≠ b2) (h : RU w b0 b1 b2 b3 v0 v1 v2 v3 v4 v5 v6 w1) : RU w b0 b1 b2 b3 v0 v1 v2 v3 v4 v5 v6 (w1.setCell ⟨b2, i, none⟩ v) := by
  obtain ⟨h0, h1, h2, h3, h4, h5, h6, h7, h8, h9, h10, h11, h12, h13, h14, h15, h16, h17, h18, h19⟩ := h
  exact ⟨h0.setCell (p := ⟨b2, i, none⟩) ho v, (World.cell?_setCell_other _ _ _ _ (fun e => n0 (by injection e with e; exact e.symm))).trans h1, (World.cell?_setCell_other _ _ _ _ (fun e => n0 (by injection e with e; exact e.symm))).trans h2, (World.cell?_setCell_other _ _ _ _ (fun e => n0 (by injection e with e; exact e.symm))).trans h3, (World.cell?_setCell_other _ _ _ _ (fun e => n0 (by injection e with e; exact e.symm))).trans h4, (World.cell?_setCell_other _ _ _ _ (fun e => n1 (by injection e with e; exact e.symm))).trans h5, (World.cell?_setCell_other _ _ _ _ (fun e => n1 (by injection e with e; exact e.symm))).trans h6, (World.cell?_setCell_other _ _ _ _ (fun e => n1 (by injection e with e; exact e.symm))).trans h7, put_there h8, put_there h9, put_there h10, (World.frozen?_setCell _ _ _ _).trans h11, (World.frozen?_setCell _ _ _ _).trans h12, (World.frozen?_setCell _ _ _ _).trans h13, put_there h14, put_there h15, put_there h16, (World.frozen?_setCell _ _ _ _).trans h17, (World.frozen?_setCell _ _ _ _).trans h18, (World.frozen?_setCell _ _ _ _).trans h19⟩
theorem RU.put1 {w w1 : World} {b0 b1 b2 b3 : Nat} {v0 v1 v2 v3 v4 v5 v6 : Value} (i : Nat) (v : Value) (ho : w.heap.size ≤ b3) (n0 : b0 ≠ b3) (n1 : b1 ≠ b3) (h : RU w b0 b1 b2 b3 v0 v1 v2 v3 v4 v5 v6 w1) : RU w b0 b1 b2 b3 v0 v1 v2 v3 v4 v5 v6 (w1.setCell ⟨b3, i, none⟩ v) := by
  obtain ⟨h0, h1, h2, h3, h4, h5, h6, h7, h8, h9, h10, h11, h12, h13, h14, h15, h16, h17, h18, h19⟩ := h
  exact ⟨h0.setCell (p := ⟨b3, i, none⟩) ho v, (World.cell?_setCell_other _ _ _ _ (fun e => n0 (by injection e with e; exact e.symm))).trans h1, (World.cell?_setCell_other _ _ _ _ (fun e => n0 (by injection e with e; exact e.symm))).trans h2, (World.cell?_setCell_other _ _ _ _ (fun e => n0 (by injection e with e; exact e.symm))).trans h3, (World.cell?_setCell_other _ _ _ _ (fun e => n0 (by injection e with e; exact e.symm))).trans h4, (World.cell?_setCell_other _ _ _ _ (fun e => n1 (by injection e with e; exact e.symm))).trans h5, (World.cell?_setCell_other _ _ _ _ (fun e => n1 (by injection e with e; exact e.symm))).trans h6, (World.cell?_setCell_other _ _ _ _ (fun e => n1 (by injection e with e; exact e.symm))).trans h7, put_there h8, put_there h9, put_there h10, (World.frozen?_setCell _ _ _ _).trans h11, (World.frozen?_setCell _ _ _ _).trans h12, (World.frozen?_setCell _ _ _ _).trans h13, put_there h14, put_there h15, put_there h16, (World.frozen?_setCell _ _ _ _).trans h17, (World.frozen?_setCell _ _ _ _).trans h18, (World.frozen?_setCell _ _ _ _).trans h19⟩

def ShA6 (w : World) (b0 b1 b2 b3 b4 : Nat) (v0 v1 v2 v3 v4 v5 v6 v7 v8 v9 v10 v11 v12 v13 v14 v15 v16 v17 v18 v19 : Value) (w' : World) : Prop :=
  Kept w w' ∧
  w'.cell? ⟨b0, 0, none⟩ = some v0 ∧
  w'.cell? ⟨b0, 1, none⟩ = some v1 ∧
  w'.cell? ⟨b0, 2, none⟩ = some v2 ∧
  w'.cell? ⟨b0, 3, none⟩ = some v3 ∧
  w'.cell? ⟨b1, 0, none⟩ = some v4 ∧
  w'.cell? ⟨b1, 1, none⟩ = some v5 ∧
  w'.cell? ⟨b1, 2, none⟩ = some v6 ∧
  w'.cell? ⟨b2, 0, none⟩ = some v7 ∧
  w'.cell? ⟨b2, 1, none⟩ = some v8 ∧
  w'.cell? ⟨b2, 2, none⟩ = some v9 ∧
  w'.cell? ⟨b2, 3, none⟩ = some v10 ∧
  w'.cell? ⟨b3, 0, none⟩ = some v11 ∧
  w'.cell? ⟨b3, 1, none⟩ = some v12 ∧
  w'.cell? ⟨b3, 2, none⟩ = some v13 ∧
  w'.cell? ⟨b4, 0, none⟩ = some v14 ∧
  w'.cell? ⟨b4, 1, none⟩ = some v15 ∧
  w'.cell? ⟨b4, 2, none⟩ = some v16 ∧
  w'.cell? ⟨b4, 3, none⟩ = some v17 ∧
  w'.cell? ⟨b4, 4, none⟩ = some v18 ∧
  w'.cell? ⟨b4, 5, none⟩ = some v19
theorem ShA6.step {w w1 w2 : World} {b0 b1 b2 b3 b4 : Nat} {v0 v1 v2 v3 v4 v5 v6 v7 v8 v9 v10 v11 v12 v13 v14 v15 v16 v17 v18 v19 : Value} (k : Kept w1 w2) (h : ShA6 w b0 b1 b2 b3 b4 v0 v1 v2 v3 v4 v5 v6 v7 v8 v9 v10 v11 v12 v13 v14 v15 v16 v17 v18 v19 w1) : ShA6 w b0 b1 b2 b3 b4 v0 v1 v2 v3 v4 v5 v6 v7 v8 v9 v10 v11 v12 v13 v14 v15 v16 v17 v18 v19 w2 := by
  obtain ⟨h0, h1, h2, h3, h4, h5, h6, h7, h8, h9, h10, h11, h12, h13, h14, h15, h16, h17, h18, h19, h20⟩ := h
  exact ⟨h0.trans k, kept_cell k h1, kept_cell k h2, kept_cell k h3, kept_cell k h4, kept_cell k h5, kept_cell k h6, kept_cell k h7, kept_cell k h8, kept_cell k h9, kept_cell k h10, kept_cell k h11, kept_cell k h12, kept_cell k h13, kept_cell k h14, kept_cell k h15, kept_cell k h16, kept_cell k h17, kept_cell k h18, kept_cell k h19, kept_cell k h20⟩
theorem ShA6.drew {w w1 : World} {b0 b1 b2 b3 b4 : Nat} {v0 v1 v2 v3 v4 v5 v6 v7 v8 v9 v10 v11 v12 v13 v14 v15 v16 v17 v18 v19 : Value} (h : ShA6 w b0 b1 b2 b3 b4 v0 v1 v2 v3 v4 v5 v6 v7 v8 v9 v10 v11 v12 v13 v14 v15 v16 v17 v18 v19 w1) : ShA6 w b0 b1 b2 b3 b4 v0 v1 v2 v3 v4 v5 v6 v7 v8 v9 v10 v11 v12 v13 v14 v15 v16 v17 v18 v19 w1.drew := h.step (Kept.refl _).drew
def ShA6At (b0 b1 b2 b3 b4 : Nat) (v0 v1 v2 v3 v4 v5 v6 v7 v8 v9 v10 v11 v12 v13 v14 v15 v16 v17 v18 v19 : Value) (w' : World) : Prop :=
  w'.cell? ⟨b0, 0, none⟩ = some v0 ∧
  w'.cell? ⟨b0, 1, none⟩ = some v1 ∧
  w'.cell? ⟨b0, 2, none⟩ = some v2 ∧
  w'.cell? ⟨b0, 3, none⟩ = some v3 ∧
  w'.cell? ⟨b1, 0, none⟩ = some v4 ∧
  w'.cell? ⟨b1, 1, none⟩ = some v5 ∧
  w'.cell? ⟨b1, 2, none⟩ = some v6 ∧
  w'.cell? ⟨b2, 0, none⟩ = some v7 ∧
  w'.cell? ⟨b2, 1, none⟩ = some v8 ∧
  w'.cell? ⟨b2, 2, none⟩ = some v9 ∧
  w'.cell? ⟨b2, 3, none⟩ = some v10 ∧
  w'.cell? ⟨b3, 0, none⟩ = some v11 ∧
  w'.cell? ⟨b3, 1, none⟩ = some v12 ∧
  w'.cell? ⟨b3, 2, none⟩ = some v13 ∧
  w'.cell? ⟨b4, 0, none⟩ = some v14 ∧
  w'.cell? ⟨b4, 1, none⟩ = some v15 ∧
  w'.cell? ⟨b4, 2, none⟩ = some v16 ∧
  w'.cell? ⟨b4, 3, none⟩ = some v17 ∧
  w'.cell? ⟨b4, 4, none⟩ = some v18 ∧
  w'.cell? ⟨b4, 5, none⟩ = some v19
theorem ShA6At.step {w1 w2 : World} {b0 b1 b2 b3 b4 : Nat} {v0 v1 v2 v3 v4 v5 v6 v7 v8 v9 v10 v11 v12 v13 v14 v15 v16 v17 v18 v19 : Value} (k : Kept w1 w2) (h : ShA6At b0 b1 b2 b3 b4 v0 v1 v2 v3 v4 v5 v6 v7 v8 v9 v10 v11 v12 v13 v14 v15 v16 v17 v18 v19 w1) : ShA6At b0 b1 b2 b3 b4 v0 v1 v2 v3 v4 v5 v6 v7 v8 v9 v10 v11 v12 v13 v14 v15 v16 v17 v18 v19 w2 := by
  obtain ⟨h1, h2, h3, h4, h5, h6, h7, h8, h9, h10, h11, h12, h13, h14, h15, h16, h17, h18, h19, h20⟩ := h
  exact ⟨kept_cell k h1, kept_cell k h2, kept_cell k h3, kept_cell k h4, kept_cell k h5, kept_cell k h6, kept_cell k h7, kept_cell k h8, kept_cell k h9, kept_cell k h10, kept_cell k h11, kept_cell k h12, kept_cell k h13, kept_cell k h14, kept_cell k h15, kept_cell k h16, kept_cell k h17, kept_cell k h18, kept_cell k h19, kept_cell k h20⟩
theorem ShA6At.start {w1 : World} {b0 b1 b2 b3 b4 : Nat} {v0 v1 v2 v3 v4 v5 v6 v7 v8 v9 v10 v11 v12 v13 v14 v15 v16 v17 v18 v19 : Value} (h : ShA6At b0 b1 b2 b3 b4 v0 v1 v2 v3 v4 v5 v6 v7 v8 v9 v10 v11 v12 v13 v14 v15 v16 v17 v18 v19 w1) : ShA6 w1 b0 b1 b2 b3 b4 v0 v1 v2 v3 v4 v5 v6 v7 v8 v9 v10 v11 v12 v13 v14 v15 v16 v17 v18 v19 w1.drew := ⟨(Kept.refl _).drew, h.step (Kept.refl _).drew⟩

def doneT (x y z d : Int) : T := if d ≤ 0 then noT else ⟨x, y, z, d, true⟩
theorem doneT_no {x y z d : Int} (h : d ≤ 0) : doneT x y z d = noT := by unfold doneT; rw [if_pos h]
theorem doneT_yes {x y z d : Int} (h : ¬ d ≤ 0) : doneT x y z d = ⟨x, y, z, d, true⟩ := by unfold doneT; rw [if_neg h]
set_option maxRecDepth 100000 in
set_option maxHeartbeats 8000000 in
theorem refTouches_bb (ka xa ya za p0 p1 p2 kb xb yb zb q0 q1 q2 : Int) (w : World) (h : ka = 1) (h' : kb = 1) : Calls Try.prog 53 #[.agg #[.int .i64 ka, .int .i64 xa, .int .i64 ya, .int .i64 za], .agg #[.int .i64 p0, .int .i64 p1, .int .i64 p2], .agg #[.int .i64 kb, .int .i64 xb, .int .i64 yb, .int .i64 zb], .agg #[.int .i64 q0, .int .i64 q1, .int .i64 q2]] w fun e w' => e = .returned (.tuple #[.agg #[.int .i64 ((doneT (unitPart (long (sub q0 p0) (sub q1 p1) (sub q2 p2)) 0 (sub q0 p0)) (unitPart (long (sub q0 p0) (sub q1 p1) (sub q2 p2)) 65536 (sub q1 p1)) (unitPart (long (sub q0 p0) (sub q1 p1) (sub q2 p2)) 0 (sub q2 p2)) (sub (add xa xb) (long (sub q0 p0) (sub q1 p1) (sub q2 p2)))).x), .int .i64 ((doneT (unitPart (long (sub q0 p0) (sub q1 p1) (sub q2 p2)) 0 (sub q0 p0)) (unitPart (long (sub q0 p0) (sub q1 p1) (sub q2 p2)) 65536 (sub q1 p1)) (unitPart (long (sub q0 p0) (sub q1 p1) (sub q2 p2)) 0 (sub q2 p2)) (sub (add xa xb) (long (sub q0 p0) (sub q1 p1) (sub q2 p2)))).y), .int .i64 ((doneT (unitPart (long (sub q0 p0) (sub q1 p1) (sub q2 p2)) 0 (sub q0 p0)) (unitPart (long (sub q0 p0) (sub q1 p1) (sub q2 p2)) 65536 (sub q1 p1)) (unitPart (long (sub q0 p0) (sub q1 p1) (sub q2 p2)) 0 (sub q2 p2)) (sub (add xa xb) (long (sub q0 p0) (sub q1 p1) (sub q2 p2)))).z)], .int .i64 ((doneT (unitPart (long (sub q0 p0) (sub q1 p1) (sub q2 p2)) 0 (sub q0 p0)) (unitPart (long (sub q0 p0) (sub q1 p1) (sub q2 p2)) 65536 (sub q1 p1)) (unitPart (long (sub q0 p0) (sub q1 p1) (sub q2 p2)) 0 (sub q2 p2)) (sub (add xa xb) (long (sub q0 p0) (sub q1 p1) (sub q2 p2)))).d), .bool (doneT (unitPart (long (sub q0 p0) (sub q1 p1) (sub q2 p2)) 0 (sub q0 p0)) (unitPart (long (sub q0 p0) (sub q1 p1) (sub q2 p2)) 65536 (sub q1 p1)) (unitPart (long (sub q0 p0) (sub q1 p1) (sub q2 p2)) 0 (sub q2 p2)) (sub (add xa xb) (long (sub q0 p0) (sub q1 p1) (sub q2 p2)))).ok]) ∧ Kept w w' := by
  have hb : (ka == 1) = true := by simp [h]
  have hb' : (kb == 1) = true := by simp [h']
  clear h h'
  go_enter Try.func53, Try.ntmps53
  go_wp2_with fail
  refine (refMinus_calls _ _ _ _ _ _ _).mono ?_; rintro e w1 ⟨rfl, k1⟩
  have hlt : w.heap.size + 1 + 1 + 1 + 1 + 1 + 1 ≤ w1.heap.size := by have := k1.below.size; simp at this; omega
  go_wp2
  refine wp_region_held_drew (S := (fun w' => Kept w w' ∧ w'.cell? ⟨w.heap.size, 0, none⟩ = some (.int .i64 ka) ∧ w'.cell? ⟨w.heap.size, 1, none⟩ = some (.int .i64 xa) ∧ w'.cell? ⟨w.heap.size, 2, none⟩ = some (.int .i64 ya) ∧ w'.cell? ⟨w.heap.size, 3, none⟩ = some (.int .i64 za) ∧ w'.cell? ⟨w.heap.size + 1 + 1, 0, none⟩ = some (.int .i64 kb) ∧ w'.cell? ⟨w.heap.size + 1 + 1, 1, none⟩ = some (.int .i64 xb) ∧ w'.cell? ⟨w.heap.size + 1 + 1, 2, none⟩ = some (.int .i64 yb) ∧ w'.cell? ⟨w.heap.size + 1 + 1, 3, none⟩ = some (.int .i64 zb) ∧ w'.cell? ⟨w1.heap.size, 0, none⟩ = some (.int .i64 (sub q0 p0)) ∧ w'.cell? ⟨w1.heap.size, 1, none⟩ = some (.int .i64 (sub q1 p1)) ∧ w'.cell? ⟨w1.heap.size, 2, none⟩ = some (.int .i64 (sub q2 p2)) ∧ w'.cell? ⟨w.heap.size + 1 + 1 + 1 + 1 + 1, 0, none⟩ = some (cellV w' ⟨w.heap.size + 1 + 1 + 1 + 1 + 1, 0, none⟩) ∧ w'.cell? ⟨w.heap.size + 1 + 1 + 1 + 1 + 1, 1, none⟩ = some (cellV w' ⟨w.heap.size + 1 + 1 + 1 + 1 + 1, 1, none⟩) ∧ w'.cell? ⟨w.heap.size + 1 + 1 + 1 + 1 + 1, 2, none⟩ = some (cellV w' ⟨w.heap.size + 1 + 1 + 1 + 1 + 1, 2, none⟩) ∧ w'.frozen? ⟨w.heap.size + 1 + 1 + 1 + 1 + 1, 0, none⟩ = false ∧ w'.frozen? ⟨w.heap.size + 1 + 1 + 1 + 1 + 1, 1, none⟩ = false ∧ w'.frozen? ⟨w.heap.size + 1 + 1 + 1 + 1 + 1, 2, none⟩ = false ∧ w'.cell? ⟨w.heap.size + 1 + 1 + 1 + 1, 0, none⟩ = some (cellV w' ⟨w.heap.size + 1 + 1 + 1 + 1, 0, none⟩) ∧ w'.cell? ⟨w.heap.size + 1 + 1 + 1 + 1, 1, none⟩ = some (cellV w' ⟨w.heap.size + 1 + 1 + 1 + 1, 1, none⟩) ∧ w'.cell? ⟨w.heap.size + 1 + 1 + 1 + 1, 2, none⟩ = some (cellV w' ⟨w.heap.size + 1 + 1 + 1 + 1, 2, none⟩) ∧ w'.frozen? ⟨w.heap.size + 1 + 1 + 1 + 1, 0, none⟩ = false ∧ w'.frozen? ⟨w.heap.size + 1 + 1 + 1 + 1, 1, none⟩ = false ∧ w'.frozen? ⟨w.heap.size + 1 + 1 + 1 + 1, 2, none⟩ = false)) (by kernel_rfl) ?_ (fun hHeld1 => ?_)
  · (try dsimp only); exact RT.drew (by refine ⟨((((((((Kept.refl w).alloc _ _).alloc _ _).alloc _ _).alloc _ _).alloc _ _).alloc _ _).trans k1).alloc _ _, later (kept_cell k1 ?_) _, later (kept_cell k1 ?_) _, later (kept_cell k1 ?_) _, later (kept_cell k1 ?_) _, later (kept_cell k1 ?_) _, later (kept_cell k1 ?_) _, later (kept_cell k1 ?_) _, later (kept_cell k1 ?_) _, ?_, ?_, ?_, cellV_of (later (kept_cell k1 (v := .int .i64 0) ?_) _), cellV_of (later (kept_cell k1 (v := .int .i64 0) ?_) _), cellV_of (later (kept_cell k1 (v := .int .i64 0) ?_) _), laterF (kept_frozen k1 ?_) _ _, laterF (kept_frozen k1 ?_) _ _, laterF (kept_frozen k1 ?_) _ _, cellV_of (later (kept_cell k1 (v := .int .i64 0) ?_) _), cellV_of (later (kept_cell k1 (v := .int .i64 0) ?_) _), cellV_of (later (kept_cell k1 (v := .int .i64 0) ?_) _), laterF (kept_frozen k1 ?_) _ _, laterF (kept_frozen k1 ?_) _ _, laterF (kept_frozen k1 ?_) _ _⟩ <;> go_simp)
  refine wpAnyH_take (i := 0) (v := ?_) rfl (by kernel_rfl) (by kernel_rfl) (by kernel_rfl) (fun _ _ _ h => h) (Or.inl ⟨by rfl, ?_⟩) (by assumption) ?_
  rotate_left
  · intro w'' hSw; (try dsimp only at hSw); simp only [List.getElem_toArray, List.getElem_cons_succ, List.getElem_cons_zero]; (go_simp <;> with_reducible rfl)
  try simp only [Act.put, List.setIfInBounds_toArray, List.set_cons_zero, List.set_cons_succ, List.getElem_toArray, List.getElem_cons_succ, List.getElem_cons_zero]
  refine wpAnyH_take (i := 2) (v := ?_) rfl (by kernel_rfl) (by kernel_rfl) (by kernel_rfl) (fun _ _ _ h => h) (Or.inl ⟨by rfl, ?_⟩) (by assumption) ?_
  rotate_left
  · intro w'' hSw; (try dsimp only at hSw); simp only [List.getElem_toArray, List.getElem_cons_succ, List.getElem_cons_zero]; (go_simp <;> with_reducible rfl)
  try simp only [Act.put, List.setIfInBounds_toArray, List.set_cons_zero, List.set_cons_succ, List.getElem_toArray, List.getElem_cons_succ, List.getElem_cons_zero]
  refine wpAnyH_take (i := 3) (v := ?_) rfl (by kernel_rfl) (by kernel_rfl) (by kernel_rfl) (fun _ _ _ h => h) (Or.inl ⟨by rfl, ?_⟩) (by assumption) ?_
  rotate_left
  · intro w'' hSw; (try dsimp only at hSw); simp only [List.getElem_toArray, List.getElem_cons_succ, List.getElem_cons_zero]; (go_simp <;> with_reducible rfl)
  try simp only [Act.put, List.setIfInBounds_toArray, List.set_cons_zero, List.set_cons_succ, List.getElem_toArray, List.getElem_cons_succ, List.getElem_cons_zero]
  refine wpAnyH_take (i := 4) (v := ?_) rfl (by kernel_rfl) (by kernel_rfl) (by kernel_rfl) (fun _ _ _ h => h) (Or.inl ⟨by rfl, ?_⟩) (by assumption) ?_
  rotate_left
  · intro w'' hSw; (try dsimp only at hSw); simp only [List.getElem_toArray, List.getElem_cons_succ, List.getElem_cons_zero]; (go_simp <;> with_reducible rfl)
  try simp only [Act.put, List.setIfInBounds_toArray, List.set_cons_zero, List.set_cons_succ, List.getElem_toArray, List.getElem_cons_succ, List.getElem_cons_zero]
  refine wpAnyH_take (i := 5) (v := ?_) rfl (by kernel_rfl) (by kernel_rfl) (by kernel_rfl) (fun _ _ _ h => h) (Or.inl ⟨by rfl, ?_⟩) (by assumption) ?_
  rotate_left
  · intro w'' hSw; (try dsimp only at hSw); simp only [List.getElem_toArray, List.getElem_cons_succ, List.getElem_cons_zero]; (go_simp <;> with_reducible rfl)
  try simp only [Act.put, List.setIfInBounds_toArray, List.set_cons_zero, List.set_cons_succ, List.getElem_toArray, List.getElem_cons_succ, List.getElem_cons_zero]
  refine wpAnyH_take (i := 6) (v := ?_) rfl (by kernel_rfl) (by kernel_rfl) (by kernel_rfl) (fun _ _ _ h => h) (Or.inl ⟨by rfl, ?_⟩) (by assumption) ?_
  rotate_left
  · intro w'' hSw; (try dsimp only at hSw); simp only [List.getElem_toArray, List.getElem_cons_succ, List.getElem_cons_zero]; (go_simp <;> with_reducible rfl)
  try simp only [Act.put, List.setIfInBounds_toArray, List.set_cons_zero, List.set_cons_succ, List.getElem_toArray, List.getElem_cons_succ, List.getElem_cons_zero]
  refine wpAnyH_take (i := 7) (v := ?_) rfl (by kernel_rfl) (by kernel_rfl) (by kernel_rfl) (fun _ _ _ h => h) (Or.inl ⟨by rfl, ?_⟩) (by assumption) ?_
  rotate_left
  · intro w'' hSw; (try dsimp only at hSw); simp only [List.getElem_toArray, List.getElem_cons_succ, List.getElem_cons_zero]; (go_simp <;> with_reducible rfl)
  try simp only [Act.put, List.setIfInBounds_toArray, List.set_cons_zero, List.set_cons_succ, List.getElem_toArray, List.getElem_cons_succ, List.getElem_cons_zero]
  refine wpAnyH_take (i := 9) (v := ?_) rfl (by kernel_rfl) (by kernel_rfl) (by kernel_rfl) (fun _ _ _ h => h) (Or.inl ⟨by rfl, ?_⟩) (by assumption) ?_
  rotate_left
  · intro w'' hSw; (try dsimp only at hSw); simp only [List.getElem_toArray, List.getElem_cons_succ, List.getElem_cons_zero]; (go_simp <;> with_reducible rfl)
  try simp only [Act.put, List.setIfInBounds_toArray, List.set_cons_zero, List.set_cons_succ, List.getElem_toArray, List.getElem_cons_succ, List.getElem_cons_zero]
  refine wpAnyH_ready (rs := [1]) (by kernel_rfl) (by simp) ?_
  refine AllReadyH.cons rfl (fun K hK => ?_) AllReadyH.nil
  rw [if_pos (by rfl)]
  simp only [List.getElem_toArray, List.getElem_cons_succ, List.getElem_cons_zero]
  go_simp
  (go_at_call 33; refine (refUnit_calls _ _ _ _).mono ?_; rintro e w2 ⟨rfl, k2⟩)
  try go_wp2_with fail
  refine hK.out _ _ ?_ (fun hHeld2 => ?_)
  · (try dsimp only); exact RT.step k2 hHeld1
  clear hK K hHeld1
  try simp only [Act.put, List.setIfInBounds_toArray, List.set_cons_zero, List.set_cons_succ, List.getElem_toArray, List.getElem_cons_succ, List.getElem_cons_zero]
  refine wpAnyH_ready (rs := [8]) (by kernel_rfl) (by simp) ?_
  refine AllReadyH.cons rfl (fun K hK => ?_) AllReadyH.nil
  rw [if_pos (by rfl)]
  simp only [List.getElem_toArray, List.getElem_cons_succ, List.getElem_cons_zero]
  go_simp
  (go_at_call 13; refine (refAdd_calls _ _ _).mono ?_; rintro e w3 ⟨rfl, rfl⟩)
  try go_wp2_with fail
  refine hK.out _ _ ?_ (fun hHeld3 => ?_)
  · (try dsimp only); exact hHeld2
  clear hK K hHeld2
  try simp only [Act.put, List.setIfInBounds_toArray, List.set_cons_zero, List.set_cons_succ, List.getElem_toArray, List.getElem_cons_succ, List.getElem_cons_zero]
  refine wpAnyH_ready (rs := [10]) (by kernel_rfl) (by simp) ?_
  refine AllReadyH.cons rfl (fun K hK => ?_) AllReadyH.nil
  rw [if_pos (by rfl)]
  simp only [List.getElem_toArray, List.getElem_cons_succ, List.getElem_cons_zero]
  go_simp
  (go_at_call 31; refine (refLong_calls _ _ _ _).mono ?_; rintro e w4 ⟨rfl, k4⟩)
  try go_wp2_with fail
  refine hK.out _ _ ?_ (fun hHeld4 => ?_)
  · (try dsimp only); exact RT.step k4 hHeld3
  clear hK K hHeld3
  try simp only [Act.put, List.setIfInBounds_toArray, List.set_cons_zero, List.set_cons_succ, List.getElem_toArray, List.getElem_cons_succ, List.getElem_cons_zero]
  refine wpAnyH_ready (rs := [11]) (by kernel_rfl) (by simp) ?_
  refine AllReadyH.cons rfl (fun K hK => ?_) AllReadyH.nil
  rw [if_pos (by rfl)]
  simp only [List.getElem_toArray, List.getElem_cons_succ, List.getElem_cons_zero]
  go_simp
  (go_at_call 15; refine (refSub_calls _ _ _).mono ?_; rintro e w5 ⟨rfl, rfl⟩)
  try go_wp2_with fail
  refine hK.out _ _ ?_ (fun hHeld5 => ?_)
  · (try dsimp only); exact hHeld4
  clear hK K hHeld4
  try simp only [Act.put, List.setIfInBounds_toArray, List.set_cons_zero, List.set_cons_succ, List.getElem_toArray, List.getElem_cons_succ, List.getElem_cons_zero]
  refine wpAnyH_ready (rs := [12]) (by kernel_rfl) (by simp) ?_
  refine AllReadyH.cons rfl (fun K hK => ?_) AllReadyH.nil
  rw [if_pos (by rfl)]
  simp only [List.getElem_toArray, List.getElem_cons_succ, List.getElem_cons_zero]
  go_simp
  refine hK.out _ _ ?_ (fun hHeld6 => ?_)
  · (try dsimp only); exact (RT.put0 2 _ (by omega) (by omega) (by omega) (by omega) (RT.put0 1 _ (by omega) (by omega) (by omega) (by omega) (RT.put0 0 _ (by omega) (by omega) (by omega) (by omega) hHeld5)))
  clear hK K
  try simp only [Act.put, List.setIfInBounds_toArray, List.set_cons_zero, List.set_cons_succ, List.getElem_toArray, List.getElem_cons_succ, List.getElem_cons_zero]
  refine wpAnyH_take (i := 13) (v := ?_) rfl (by kernel_rfl) (by kernel_rfl) (by kernel_rfl) (fun _ _ _ h => h) (Or.inl ⟨by rfl, ?_⟩) (by assumption) ?_
  rotate_left
  · intro w'' hSw; (try dsimp only at hSw); simp only [List.getElem_toArray, List.getElem_cons_succ, List.getElem_cons_zero]; (go_simp <;> with_reducible rfl)
  try simp only [Act.put, List.setIfInBounds_toArray, List.set_cons_zero, List.set_cons_succ, List.getElem_toArray, List.getElem_cons_succ, List.getElem_cons_zero]
  refine wpAnyH_done (by kernel_rfl) ?_ _
  obtain ⟨_, _, _, _, _, _, _, _, _, _, _, _, c0, c1, c2, _⟩ := hHeld5
  obtain ⟨m0, m1, m2⟩ := set3_of (v0 := .int .i64 (unitPart (long (sub q0 p0) (sub q1 p1) (sub q2 p2)) 0 (sub q0 p0))) (v1 := .int .i64 (unitPart (long (sub q0 p0) (sub q1 p1) (sub q2 p2)) 65536 (sub q1 p1))) (v2 := .int .i64 (unitPart (long (sub q0 p0) (sub q1 p1) (sub q2 p2)) 0 (sub q2 p2))) c0 c1 c2
  clear c0 c1 c2
  obtain ⟨hkt, _, _, _, _, _, _, _, _, _, _, _, _, _, _, _, _, _, d0, d1, d2, f0, f1, f2⟩ := hHeld6
  have c0 := d0
  have c1 := d1
  have c2 := d2
  clear d0 d1 d2
  generalize (((w5.setCell ⟨w.heap.size + 1 + 1 + 1 + 1 + 1, 0, none⟩ (.int .i64 (unitPart (long (sub q0 p0) (sub q1 p1) (sub q2 p2)) 0 (sub q0 p0)))).setCell ⟨w.heap.size + 1 + 1 + 1 + 1 + 1, 1, none⟩ (.int .i64 (unitPart (long (sub q0 p0) (sub q1 p1) (sub q2 p2)) 65536 (sub q1 p1)))).setCell ⟨w.heap.size + 1 + 1 + 1 + 1 + 1, 2, none⟩ (.int .i64 (unitPart (long (sub q0 p0) (sub q1 p1) (sub q2 p2)) 0 (sub q2 p2)))) = wt at m0 m1 m2 c0 c1 c2 f0 f1 f2 hkt ⊢
  clear k1 k2 k4
  cases hd : decide (sub (add xa xb) (long (sub q0 p0) (sub q1 p1) (sub q2 p2)) ≤ 0) with
  | true =>
    go_wp2
    obtain ⟨e0, e1, e2⟩ := set3_of (v0 := .int .i64 0) (v1 := .int .i64 0) (v2 := .int .i64 0) c0 c1 c2
    exact bodyPost_ret (v := .tuple #[.agg #[.int .i64 0, .int .i64 0, .int .i64 0], .int .i64 0, .bool false]) (by simp [results, Try.results53, go_sem, e0, e1, e2]) rfl ⟨by rw [doneT_no (of_decide_eq_true hd)]; rfl, kept_set3 hkt (by omega) _ _ _⟩
  | false =>
    go_wp2
    obtain ⟨e0, e1, e2⟩ := set3_of (v0 := .int .i64 (unitPart (long (sub q0 p0) (sub q1 p1) (sub q2 p2)) 0 (sub q0 p0))) (v1 := .int .i64 (unitPart (long (sub q0 p0) (sub q1 p1) (sub q2 p2)) 65536 (sub q1 p1))) (v2 := .int .i64 (unitPart (long (sub q0 p0) (sub q1 p1) (sub q2 p2)) 0 (sub q2 p2))) c0 c1 c2
    exact bodyPost_ret (v := .tuple #[.agg #[.int .i64 (unitPart (long (sub q0 p0) (sub q1 p1) (sub q2 p2)) 0 (sub q0 p0)), .int .i64 (unitPart (long (sub q0 p0) (sub q1 p1) (sub q2 p2)) 65536 (sub q1 p1)), .int .i64 (unitPart (long (sub q0 p0) (sub q1 p1) (sub q2 p2)) 0 (sub q2 p2))], .int .i64 (sub (add xa xb) (long (sub q0 p0) (sub q1 p1) (sub q2 p2))), .bool true]) (by simp [results, Try.results53, go_sem, e0, e1, e2]) rfl ⟨by rw [doneT_yes (of_decide_eq_false hd)], kept_set3 hkt (by omega) _ _ _⟩
def refBallT (s p0 p1 p2 b0 b1 b2 b3 b4 b5 : Int) : T := ballV s (gap p0 b0 b3) (gap p1 b1 b4) (gap p2 b2 b5) (doneT (outE p0 p1 p2 p0 p1 p2 b0 b1 b2 b3 b4 b5).x (outE p0 p1 p2 p0 p1 p2 b0 b1 b2 b3 b4 b5).y (outE p0 p1 p2 p0 p1 p2 b0 b1 b2 b3 b4 b5).z (add (outE p0 p1 p2 p0 p1 p2 b0 b1 b2 b3 b4 b5).d s))
theorem reachT_done (s x y z : Int) : reachT s x y z = doneT (unitPart (long x y z) 0 x) (unitPart (long x y z) 65536 y) (unitPart (long x y z) 0 z) (sub s (long x y z)) := rfl
set_option maxRecDepth 100000 in
set_option maxHeartbeats 8000000 in
theorem refTouches_bk (ka xa ya za p0 p1 p2 kb xb yb zb q0 q1 q2 : Int) (w : World) (h : ka = 1) (h' : ¬ kb = 1) : Calls Try.prog 53 #[.agg #[.int .i64 ka, .int .i64 xa, .int .i64 ya, .int .i64 za], .agg #[.int .i64 p0, .int .i64 p1, .int .i64 p2], .agg #[.int .i64 kb, .int .i64 xb, .int .i64 yb, .int .i64 zb], .agg #[.int .i64 q0, .int .i64 q1, .int .i64 q2]] w fun e w' => e = .returned (.tuple #[.agg #[.int .i64 ((refBallT xa p0 p1 p2 (sub q0 xb) (sub q1 (hf kb xb yb)) (sub q2 (hf kb xb zb)) (add q0 xb) (add q1 (hf kb xb yb)) (add q2 (hf kb xb zb))).x), .int .i64 ((refBallT xa p0 p1 p2 (sub q0 xb) (sub q1 (hf kb xb yb)) (sub q2 (hf kb xb zb)) (add q0 xb) (add q1 (hf kb xb yb)) (add q2 (hf kb xb zb))).y), .int .i64 ((refBallT xa p0 p1 p2 (sub q0 xb) (sub q1 (hf kb xb yb)) (sub q2 (hf kb xb zb)) (add q0 xb) (add q1 (hf kb xb yb)) (add q2 (hf kb xb zb))).z)], .int .i64 ((refBallT xa p0 p1 p2 (sub q0 xb) (sub q1 (hf kb xb yb)) (sub q2 (hf kb xb zb)) (add q0 xb) (add q1 (hf kb xb yb)) (add q2 (hf kb xb zb))).d), .bool (refBallT xa p0 p1 p2 (sub q0 xb) (sub q1 (hf kb xb yb)) (sub q2 (hf kb xb zb)) (add q0 xb) (add q1 (hf kb xb yb)) (add q2 (hf kb xb zb))).ok]) ∧ Kept w w' := by
  have hb : (ka == 1) = true := by simp [h]
  have hb' : (kb == 1) = false := by simp [h']
  clear h h'
  go_enter Try.func53, Try.ntmps53
  go_wp2_with fail
  refine (refAround_calls _ _ _ _ _ _ _ _).mono ?_; rintro e w1 ⟨rfl, k1⟩
  have hlt : w.heap.size + 1 + 1 + 1 + 1 + 1 + 1 ≤ w1.heap.size := by have := k1.below.size; simp at this; omega
  go_wp2
  have HA : ShA6At (w.heap.size) (w.heap.size + 1) (w.heap.size + 1 + 1) (w.heap.size + 1 + 1 + 1) w1.heap.size (.int .i64 ka) (.int .i64 xa) (.int .i64 ya) (.int .i64 za) (.int .i64 p0) (.int .i64 p1) (.int .i64 p2) (.int .i64 kb) (.int .i64 xb) (.int .i64 yb) (.int .i64 zb) (.int .i64 q0) (.int .i64 q1) (.int .i64 q2) (.int .i64 (sub q0 xb)) (.int .i64 (sub q1 (hf kb xb yb))) (.int .i64 (sub q2 (hf kb xb zb))) (.int .i64 (add q0 xb)) (.int .i64 (add q1 (hf kb xb yb))) (.int .i64 (add q2 (hf kb xb zb))) (w1.alloc (.cells #[.int .i64 (sub q0 xb), .int .i64 (sub q1 (hf kb xb yb)), .int .i64 (sub q2 (hf kb xb zb)), .int .i64 (add q0 xb), .int .i64 (add q1 (hf kb xb yb)), .int .i64 (add q2 (hf kb xb zb))] 38)) := by
    refine ⟨later (kept_cell k1 ?_) _, later (kept_cell k1 ?_) _, later (kept_cell k1 ?_) _, later (kept_cell k1 ?_) _, later (kept_cell k1 ?_) _, later (kept_cell k1 ?_) _, later (kept_cell k1 ?_) _, later (kept_cell k1 ?_) _, later (kept_cell k1 ?_) _, later (kept_cell k1 ?_) _, later (kept_cell k1 ?_) _, later (kept_cell k1 ?_) _, later (kept_cell k1 ?_) _, later (kept_cell k1 ?_) _, ?_, ?_, ?_, ?_, ?_, ?_⟩ <;> go_simp
  have hkA : Kept w (w1.alloc (.cells #[.int .i64 (sub q0 xb), .int .i64 (sub q1 (hf kb xb yb)), .int .i64 (sub q2 (hf kb xb zb)), .int .i64 (add q0 xb), .int .i64 (add q1 (hf kb xb yb)), .int .i64 (add q2 (hf kb xb zb))] 38)) := ((((((((Kept.refl w).alloc _ _).alloc _ _).alloc _ _).alloc _ _).alloc _ _).alloc _ _).trans k1).alloc _ _
  have WC : Aside (∀ i, i < 3 → (w1.alloc (.cells #[.int .i64 (sub q0 xb), .int .i64 (sub q1 (hf kb xb yb)), .int .i64 (sub q2 (hf kb xb zb)), .int .i64 (add q0 xb), .int .i64 (add q1 (hf kb xb yb)), .int .i64 (add q2 (hf kb xb zb))] 38)).cell? ⟨w.heap.size + 1 + 1 + 1 + 1 + 1, i, none⟩ = some (.int .i64 0)) := by
    intro i hi
    obtain rfl | rfl | rfl : i = 0 ∨ i = 1 ∨ i = 2 := by omega
    all_goals exact later (kept_cell k1 (by go_simp)) _
  have WF : Aside (∀ i, (w1.alloc (.cells #[.int .i64 (sub q0 xb), .int .i64 (sub q1 (hf kb xb yb)), .int .i64 (sub q2 (hf kb xb zb)), .int .i64 (add q0 xb), .int .i64 (add q1 (hf kb xb yb)), .int .i64 (add q2 (hf kb xb zb))] 38)).frozen? ⟨w.heap.size + 1 + 1 + 1 + 1 + 1, i, none⟩ = false) := fun i => laterF (kept_frozen k1 (by go_simp)) _ _
  have RC : Aside (∀ i, i < 3 → (w1.alloc (.cells #[.int .i64 (sub q0 xb), .int .i64 (sub q1 (hf kb xb yb)), .int .i64 (sub q2 (hf kb xb zb)), .int .i64 (add q0 xb), .int .i64 (add q1 (hf kb xb yb)), .int .i64 (add q2 (hf kb xb zb))] 38)).cell? ⟨w.heap.size + 1 + 1 + 1 + 1, i, none⟩ = some (.int .i64 0)) := by
    intro i hi
    obtain rfl | rfl | rfl : i = 0 ∨ i = 1 ∨ i = 2 := by omega
    all_goals exact later (kept_cell k1 (by go_simp)) _
  have RF : Aside (∀ i, (w1.alloc (.cells #[.int .i64 (sub q0 xb), .int .i64 (sub q1 (hf kb xb yb)), .int .i64 (sub q2 (hf kb xb zb)), .int .i64 (add q0 xb), .int .i64 (add q1 (hf kb xb yb)), .int .i64 (add q2 (hf kb xb zb))] 38)).frozen? ⟨w.heap.size + 1 + 1 + 1 + 1, i, none⟩ = false) := fun i => laterF (kept_frozen k1 (by go_simp)) _ _
  have hw1 : w1.heap.size < (w1.alloc (.cells #[.int .i64 (sub q0 xb), .int .i64 (sub q1 (hf kb xb yb)), .int .i64 (sub q2 (hf kb xb zb)), .int .i64 (add q0 xb), .int .i64 (add q1 (hf kb xb yb)), .int .i64 (add q2 (hf kb xb zb))] 38)).heap.size := by simp
  generalize (w1.alloc (.cells #[.int .i64 (sub q0 xb), .int .i64 (sub q1 (hf kb xb yb)), .int .i64 (sub q2 (hf kb xb zb)), .int .i64 (add q0 xb), .int .i64 (add q1 (hf kb xb yb)), .int .i64 (add q2 (hf kb xb zb))] 38)) = wA at HA hkA WC WF RC RF hw1 ⊢
  clear k1
  go_cut [15] from 36 (fun s15 wc => ∃ p, s15 = .pointer (some ⟨p, 0, none⟩) ∧ wA.heap.size ≤ p ∧ Kept wA wc ∧ wc.cell? ⟨p, 0, none⟩ = some (.int .i64 (gap p0 (sub q0 xb) (add q0 xb))) ∧ wc.cell? ⟨p, 1, none⟩ = some (.int .i64 (gap p1 (sub q1 (hf kb xb yb)) (add q1 (hf kb xb yb)))) ∧ wc.cell? ⟨p, 2, none⟩ = some (.int .i64 (gap p2 (sub q2 (hf kb xb zb)) (add q2 (hf kb xb zb)))))
  case first =>
    refine wp_region_held_drew (S := (fun w' => Kept wA w' ∧ w'.cell? ⟨w.heap.size, 0, none⟩ = some (.int .i64 ka) ∧ w'.cell? ⟨w.heap.size, 1, none⟩ = some (.int .i64 xa) ∧ w'.cell? ⟨w.heap.size, 2, none⟩ = some (.int .i64 ya) ∧ w'.cell? ⟨w.heap.size, 3, none⟩ = some (.int .i64 za) ∧ w'.cell? ⟨w.heap.size + 1, 0, none⟩ = some (.int .i64 p0) ∧ w'.cell? ⟨w.heap.size + 1, 1, none⟩ = some (.int .i64 p1) ∧ w'.cell? ⟨w.heap.size + 1, 2, none⟩ = some (.int .i64 p2) ∧ w'.cell? ⟨w.heap.size + 1 + 1, 0, none⟩ = some (.int .i64 kb) ∧ w'.cell? ⟨w.heap.size + 1 + 1, 1, none⟩ = some (.int .i64 xb) ∧ w'.cell? ⟨w.heap.size + 1 + 1, 2, none⟩ = some (.int .i64 yb) ∧ w'.cell? ⟨w.heap.size + 1 + 1, 3, none⟩ = some (.int .i64 zb) ∧ w'.cell? ⟨w.heap.size + 1 + 1 + 1, 0, none⟩ = some (.int .i64 q0) ∧ w'.cell? ⟨w.heap.size + 1 + 1 + 1, 1, none⟩ = some (.int .i64 q1) ∧ w'.cell? ⟨w.heap.size + 1 + 1 + 1, 2, none⟩ = some (.int .i64 q2) ∧ w'.cell? ⟨w1.heap.size, 0, none⟩ = some (.int .i64 (sub q0 xb)) ∧ w'.cell? ⟨w1.heap.size, 1, none⟩ = some (.int .i64 (sub q1 (hf kb xb yb))) ∧ w'.cell? ⟨w1.heap.size, 2, none⟩ = some (.int .i64 (sub q2 (hf kb xb zb))) ∧ w'.cell? ⟨w1.heap.size, 3, none⟩ = some (.int .i64 (add q0 xb)) ∧ w'.cell? ⟨w1.heap.size, 4, none⟩ = some (.int .i64 (add q1 (hf kb xb yb))) ∧ w'.cell? ⟨w1.heap.size, 5, none⟩ = some (.int .i64 (add q2 (hf kb xb zb))))) (by kernel_rfl) ?_ (fun hH0 => ?_)
    · (try dsimp only); exact ⟨(Kept.refl _).drew, HA.step (Kept.refl _).drew⟩
    refine wpAnyH_take (i := 0) (v := ?_) rfl (by kernel_rfl) (by kernel_rfl) (by kernel_rfl) (fun _ _ _ h => h) (Or.inl ⟨by rfl, ?_⟩) (by assumption) ?_
    rotate_left
    · intro w'' hSw; (try dsimp only at hSw); simp only [List.getElem_toArray, List.getElem_cons_succ, List.getElem_cons_zero]; (go_simp <;> with_reducible rfl)
    try simp only [Act.put, List.setIfInBounds_toArray, List.set_cons_zero, List.set_cons_succ, List.getElem_toArray, List.getElem_cons_succ, List.getElem_cons_zero]
    refine wpAnyH_take (i := 1) (v := ?_) rfl (by kernel_rfl) (by kernel_rfl) (by kernel_rfl) (fun _ _ _ h => h) (Or.inl ⟨by rfl, ?_⟩) (by assumption) ?_
    rotate_left
    · intro w'' hSw; (try dsimp only at hSw); simp only [List.getElem_toArray, List.getElem_cons_succ, List.getElem_cons_zero]; (go_simp <;> with_reducible rfl)
    try simp only [Act.put, List.setIfInBounds_toArray, List.set_cons_zero, List.set_cons_succ, List.getElem_toArray, List.getElem_cons_succ, List.getElem_cons_zero]
    refine wpAnyH_take (i := 3) (v := ?_) rfl (by kernel_rfl) (by kernel_rfl) (by kernel_rfl) (fun _ _ _ h => h) (Or.inl ⟨by rfl, ?_⟩) (by assumption) ?_
    rotate_left
    · intro w'' hSw; (try dsimp only at hSw); simp only [List.getElem_toArray, List.getElem_cons_succ, List.getElem_cons_zero]; (go_simp <;> with_reducible rfl)
    try simp only [Act.put, List.setIfInBounds_toArray, List.set_cons_zero, List.set_cons_succ, List.getElem_toArray, List.getElem_cons_succ, List.getElem_cons_zero]
    refine wpAnyH_ready (rs := [2, 5]) (by kernel_rfl) (by simp) ?_
    refine AllReadyH.cons rfl (fun K hK => ?_) (AllReadyH.cons rfl (fun K hK => ?_) AllReadyH.nil)
    · rw [if_pos (by rfl)]
      simp only [List.getElem_toArray, List.getElem_cons_succ, List.getElem_cons_zero]
      go_simp
      (go_at_call 47; refine (refNear_calls _ _ _ _ _ _ _ _ _ _).mono ?_; rintro e wc1 ⟨rfl, kc1⟩)
      try go_wp2_with fail
      refine hK.out _ _ ?_ (fun hH1 => ?_)
      · exact ⟨hH0.1.trans kc1, HA.step (hH0.1.trans kc1)⟩
      clear hK K hH0
      try simp only [Act.put, List.setIfInBounds_toArray, List.set_cons_zero, List.set_cons_succ, List.getElem_toArray, List.getElem_cons_succ, List.getElem_cons_zero]
      refine wpAnyH_ready (rs := [4, 5]) (by kernel_rfl) (by simp) ?_
      refine AllReadyH.cons rfl (fun K hK => ?_) (AllReadyH.cons rfl (fun K hK => ?_) AllReadyH.nil)
      · rw [if_pos (by rfl)]
        simp only [List.getElem_toArray, List.getElem_cons_succ, List.getElem_cons_zero]
        go_simp
        (go_at_call 25; refine (refMinus_calls _ _ _ _ _ _ _).mono ?_; rintro e wc2 ⟨rfl, kc2⟩)
        try go_wp2_with fail
        refine hK.out _ _ ?_ (fun hH2 => ?_)
        · exact ⟨hH1.1.trans kc2, HA.step (hH1.1.trans kc2)⟩
        clear hK K hH1
        try simp only [Act.put, List.setIfInBounds_toArray, List.set_cons_zero, List.set_cons_succ, List.getElem_toArray, List.getElem_cons_succ, List.getElem_cons_zero]
        refine wpAnyH_ready (rs := [5]) (by kernel_rfl) (by simp) ?_
        refine AllReadyH.cons rfl (fun K hK => ?_) AllReadyH.nil
        rw [if_pos (by rfl)]
        simp only [List.getElem_toArray, List.getElem_cons_succ, List.getElem_cons_zero]
        go_simp
        refine hK.out _ _ ?_ (fun hH3 => ?_)
        · exact ⟨hH2.1.alloc _ _, HA.step (hH2.1.alloc _ _)⟩
        have hp : wA.heap.size ≤ wc2.heap.size := Nat.le_trans hH2.1.below.size (Nat.le_of_eq (by simp))
        have hP : Fr3 wA (wc2.heap.size) (wc2.alloc (.cells #[.int .i64 0, .int .i64 0, .int .i64 0] 26)) := by refine ⟨hH2.1.alloc _ _, cellV_of (v := .int .i64 0) ?_, cellV_of (v := .int .i64 0) ?_, cellV_of (v := .int .i64 0) ?_, ?_, ?_, ?_⟩ <;> go_simp
        clear hK K hH2
        try simp only [Act.put, List.setIfInBounds_toArray, List.set_cons_zero, List.set_cons_succ, List.getElem_toArray, List.getElem_cons_succ, List.getElem_cons_zero]
        generalize (wc2.alloc (.cells #[.int .i64 0, .int .i64 0, .int .i64 0] 26)) = wz4 at hH3 hP ⊢
        have hP0 := hP
        obtain ⟨_, cp0, cp1, cp2, fp0, fp1, fp2⟩ := hP0
        refine wpAnyH_ready (rs := [6]) (by kernel_rfl) (by simp) ?_
        refine AllReadyH.cons rfl (fun K hK => ?_) AllReadyH.nil
        rw [if_pos (by rfl)]
        simp only [List.getElem_toArray, List.getElem_cons_succ, List.getElem_cons_zero]
        go_simp
        refine hK.out _ _ ?_ (fun hS1 => ?_)
        · exact ⟨kept_set3 hH3.1 hp _ _ _, HA.step (kept_set3 hH3.1 hp _ _ _)⟩
        clear hK K
        try simp only [Act.put, List.setIfInBounds_toArray, List.set_cons_zero, List.set_cons_succ, List.getElem_toArray, List.getElem_cons_succ, List.getElem_cons_zero]
        refine wpAnyH_done (by kernel_rfl) ?_ _
        go_wp2_with fail
        go_meet
        case rel =>
          obtain ⟨z0, z1, z2⟩ := set3_of (v0 := .int .i64 (gap p0 (sub q0 xb) (add q0 xb))) (v1 := .int .i64 (gap p1 (sub q1 (hf kb xb yb)) (add q1 (hf kb xb yb)))) (v2 := .int .i64 (gap p2 (sub q2 (hf kb xb zb)) (add q2 (hf kb xb zb)))) cp0 cp1 cp2
          exact ⟨wc2.heap.size, rfl, hp, hS1.1, z0, z1, z2⟩
      · rw [if_pos (by rfl)]
        simp only [List.getElem_toArray, List.getElem_cons_succ, List.getElem_cons_zero]
        go_simp
        refine hK.out _ _ ?_ (fun hH5 => ?_)
        · exact ⟨hH1.1.alloc _ _, HA.step (hH1.1.alloc _ _)⟩
        have hp : wA.heap.size ≤ wc1.heap.size := Nat.le_trans hH1.1.below.size (Nat.le_of_eq (by simp))
        have hP : Fr3 wA (wc1.heap.size) (wc1.alloc (.cells #[.int .i64 0, .int .i64 0, .int .i64 0] 26)) := by refine ⟨hH1.1.alloc _ _, cellV_of (v := .int .i64 0) ?_, cellV_of (v := .int .i64 0) ?_, cellV_of (v := .int .i64 0) ?_, ?_, ?_, ?_⟩ <;> go_simp
        clear hK K hH1
        try simp only [Act.put, List.setIfInBounds_toArray, List.set_cons_zero, List.set_cons_succ, List.getElem_toArray, List.getElem_cons_succ, List.getElem_cons_zero]
        refine wpAnyH_ready (rs := [4]) (by kernel_rfl) (by simp) ?_
        refine AllReadyH.cons rfl (fun K hK => ?_) AllReadyH.nil
        rw [if_pos (by rfl)]
        simp only [List.getElem_toArray, List.getElem_cons_succ, List.getElem_cons_zero]
        go_simp
        (go_at_call 25; refine (refMinus_calls _ _ _ _ _ _ _).mono ?_; rintro e wc6 ⟨rfl, kc6⟩)
        try go_wp2_with fail
        refine hK.out _ _ ?_ (fun hH6 => ?_)
        · exact ⟨hH5.1.trans kc6, HA.step (hH5.1.trans kc6)⟩
        replace hP := hP.step kc6
        clear hK K hH5
        try simp only [Act.put, List.setIfInBounds_toArray, List.set_cons_zero, List.set_cons_succ, List.getElem_toArray, List.getElem_cons_succ, List.getElem_cons_zero]
        have hP0 := hP
        obtain ⟨_, cp0, cp1, cp2, fp0, fp1, fp2⟩ := hP0
        refine wpAnyH_ready (rs := [6]) (by kernel_rfl) (by simp) ?_
        refine AllReadyH.cons rfl (fun K hK => ?_) AllReadyH.nil
        rw [if_pos (by rfl)]
        simp only [List.getElem_toArray, List.getElem_cons_succ, List.getElem_cons_zero]
        go_simp
        refine hK.out _ _ ?_ (fun hS1 => ?_)
        · exact ⟨kept_set3 hH6.1 hp _ _ _, HA.step (kept_set3 hH6.1 hp _ _ _)⟩
        clear hK K
        try simp only [Act.put, List.setIfInBounds_toArray, List.set_cons_zero, List.set_cons_succ, List.getElem_toArray, List.getElem_cons_succ, List.getElem_cons_zero]
        refine wpAnyH_done (by kernel_rfl) ?_ _
        go_wp2_with fail
        go_meet
        case rel =>
          obtain ⟨z0, z1, z2⟩ := set3_of (v0 := .int .i64 (gap p0 (sub q0 xb) (add q0 xb))) (v1 := .int .i64 (gap p1 (sub q1 (hf kb xb yb)) (add q1 (hf kb xb yb)))) (v2 := .int .i64 (gap p2 (sub q2 (hf kb xb zb)) (add q2 (hf kb xb zb)))) cp0 cp1 cp2
          exact ⟨wc1.heap.size, rfl, hp, hS1.1, z0, z1, z2⟩
    · rw [if_pos (by rfl)]
      simp only [List.getElem_toArray, List.getElem_cons_succ, List.getElem_cons_zero]
      go_simp
      refine hK.out _ _ ?_ (fun hH7 => ?_)
      · exact ⟨hH0.1.alloc _ _, HA.step (hH0.1.alloc _ _)⟩
      have hp : wA.heap.size ≤ wA.heap.size := Nat.le_trans hH0.1.below.size (Nat.le_of_eq (by simp))
      have hP : Fr3 wA (wA.heap.size) (wA.drew.alloc (.cells #[.int .i64 0, .int .i64 0, .int .i64 0] 26)) := by refine ⟨hH0.1.alloc _ _, cellV_of (v := .int .i64 0) ?_, cellV_of (v := .int .i64 0) ?_, cellV_of (v := .int .i64 0) ?_, ?_, ?_, ?_⟩ <;> go_simp
      clear hK K hH0
      try simp only [Act.put, List.setIfInBounds_toArray, List.set_cons_zero, List.set_cons_succ, List.getElem_toArray, List.getElem_cons_succ, List.getElem_cons_zero]
      refine wpAnyH_ready (rs := [2]) (by kernel_rfl) (by simp) ?_
      refine AllReadyH.cons rfl (fun K hK => ?_) AllReadyH.nil
      rw [if_pos (by rfl)]
      simp only [List.getElem_toArray, List.getElem_cons_succ, List.getElem_cons_zero]
      go_simp
      (go_at_call 47; refine (refNear_calls _ _ _ _ _ _ _ _ _ _).mono ?_; rintro e wc8 ⟨rfl, kc8⟩)
      try go_wp2_with fail
      refine hK.out _ _ ?_ (fun hH8 => ?_)
      · exact ⟨hH7.1.trans kc8, HA.step (hH7.1.trans kc8)⟩
      replace hP := hP.step kc8
      clear hK K hH7
      try simp only [Act.put, List.setIfInBounds_toArray, List.set_cons_zero, List.set_cons_succ, List.getElem_toArray, List.getElem_cons_succ, List.getElem_cons_zero]
      refine wpAnyH_ready (rs := [4]) (by kernel_rfl) (by simp) ?_
      refine AllReadyH.cons rfl (fun K hK => ?_) AllReadyH.nil
      rw [if_pos (by rfl)]
      simp only [List.getElem_toArray, List.getElem_cons_succ, List.getElem_cons_zero]
      go_simp
      (go_at_call 25; refine (refMinus_calls _ _ _ _ _ _ _).mono ?_; rintro e wc9 ⟨rfl, kc9⟩)
      try go_wp2_with fail
      refine hK.out _ _ ?_ (fun hH9 => ?_)
      · exact ⟨hH8.1.trans kc9, HA.step (hH8.1.trans kc9)⟩
      replace hP := hP.step kc9
      clear hK K hH8
      try simp only [Act.put, List.setIfInBounds_toArray, List.set_cons_zero, List.set_cons_succ, List.getElem_toArray, List.getElem_cons_succ, List.getElem_cons_zero]
      have hP0 := hP
      obtain ⟨_, cp0, cp1, cp2, fp0, fp1, fp2⟩ := hP0
      refine wpAnyH_ready (rs := [6]) (by kernel_rfl) (by simp) ?_
      refine AllReadyH.cons rfl (fun K hK => ?_) AllReadyH.nil
      rw [if_pos (by rfl)]
      simp only [List.getElem_toArray, List.getElem_cons_succ, List.getElem_cons_zero]
      go_simp
      refine hK.out _ _ ?_ (fun hS1 => ?_)
      · exact ⟨kept_set3 hH9.1 hp _ _ _, HA.step (kept_set3 hH9.1 hp _ _ _)⟩
      clear hK K
      try simp only [Act.put, List.setIfInBounds_toArray, List.set_cons_zero, List.set_cons_succ, List.getElem_toArray, List.getElem_cons_succ, List.getElem_cons_zero]
      refine wpAnyH_done (by kernel_rfl) ?_ _
      go_wp2_with fail
      go_meet
      case rel =>
        obtain ⟨z0, z1, z2⟩ := set3_of (v0 := .int .i64 (gap p0 (sub q0 xb) (add q0 xb))) (v1 := .int .i64 (gap p1 (sub q1 (hf kb xb yb)) (add q1 (hf kb xb yb)))) (v2 := .int .i64 (gap p2 (sub q2 (hf kb xb zb)) (add q2 (hf kb xb zb)))) cp0 cp1 cp2
        exact ⟨wA.heap.size, rfl, hp, hS1.1, z0, z1, z2⟩
  case rest =>
    obtain ⟨pv, rfl, hpv, kc, x0, x1, x2⟩ := hcut
    obtain ⟨t0, t1, t2, t3, t4, t5, t6, t7, t8, t9, t10, t11, t12, t13, t14, t15, t16, t17, t18, t19⟩ := HA.step kc
    clear HA
    obtain ⟨tt, HT⟩ : ∃ tt, (refBallT xa p0 p1 p2 (sub q0 xb) (sub q1 (hf kb xb yb)) (sub q2 (hf kb xb zb)) (add q0 xb) (add q1 (hf kb xb yb)) (add q2 (hf kb xb zb))) = tt := ⟨_, rfl⟩
    have HTT : Aside ((refBallT xa p0 p1 p2 (sub q0 xb) (sub q1 (hf kb xb yb)) (sub q2 (hf kb xb zb)) (add q0 xb) (add q1 (hf kb xb yb)) (add q2 (hf kb xb zb))) = tt) := HT
    unfold refBallT at HT
    generalize gap p0 (sub q0 xb) (add q0 xb) = v0 at x0 HT
    generalize gap p1 (sub q1 (hf kb xb yb)) (add q1 (hf kb xb yb)) = v1 at x1 HT
    generalize gap p2 (sub q2 (hf kb xb zb)) (add q2 (hf kb xb zb)) = v2 at x2 HT
    cases c_0 : (v0 == 0) with
    | false =>
      rw [ballV_out (by simp only [beq_eq_false_iff_ne, ne_eq] at c_0; intro hh; exact c_0 hh.1), reachT_done] at HT
      have HT0 : Aside (doneT (unitPart (long v0 v1 v2) 0 v0) (unitPart (long v0 v1 v2) 65536 v1) (unitPart (long v0 v1 v2) 0 v2) (sub xa (long v0 v1 v2)) = tt) := HT
      clear HT
      go_wp2
      refine wp_region_held_drew (S := (fun w' => Kept w w' ∧ w'.cell? ⟨w.heap.size, 0, none⟩ = some (.int .i64 ka) ∧ w'.cell? ⟨w.heap.size, 1, none⟩ = some (.int .i64 xa) ∧ w'.cell? ⟨w.heap.size, 2, none⟩ = some (.int .i64 ya) ∧ w'.cell? ⟨w.heap.size, 3, none⟩ = some (.int .i64 za) ∧ w'.cell? ⟨pv, 0, none⟩ = some (.int .i64 v0) ∧ w'.cell? ⟨pv, 1, none⟩ = some (.int .i64 v1) ∧ w'.cell? ⟨pv, 2, none⟩ = some (.int .i64 v2) ∧ w'.cell? ⟨w.heap.size + 1 + 1 + 1 + 1 + 1, 0, none⟩ = some (cellV w' ⟨w.heap.size + 1 + 1 + 1 + 1 + 1, 0, none⟩) ∧ w'.cell? ⟨w.heap.size + 1 + 1 + 1 + 1 + 1, 1, none⟩ = some (cellV w' ⟨w.heap.size + 1 + 1 + 1 + 1 + 1, 1, none⟩) ∧ w'.cell? ⟨w.heap.size + 1 + 1 + 1 + 1 + 1, 2, none⟩ = some (cellV w' ⟨w.heap.size + 1 + 1 + 1 + 1 + 1, 2, none⟩) ∧ w'.frozen? ⟨w.heap.size + 1 + 1 + 1 + 1 + 1, 0, none⟩ = false ∧ w'.frozen? ⟨w.heap.size + 1 + 1 + 1 + 1 + 1, 1, none⟩ = false ∧ w'.frozen? ⟨w.heap.size + 1 + 1 + 1 + 1 + 1, 2, none⟩ = false ∧ w'.cell? ⟨w.heap.size + 1 + 1 + 1 + 1, 0, none⟩ = some (cellV w' ⟨w.heap.size + 1 + 1 + 1 + 1, 0, none⟩) ∧ w'.cell? ⟨w.heap.size + 1 + 1 + 1 + 1, 1, none⟩ = some (cellV w' ⟨w.heap.size + 1 + 1 + 1 + 1, 1, none⟩) ∧ w'.cell? ⟨w.heap.size + 1 + 1 + 1 + 1, 2, none⟩ = some (cellV w' ⟨w.heap.size + 1 + 1 + 1 + 1, 2, none⟩) ∧ w'.frozen? ⟨w.heap.size + 1 + 1 + 1 + 1, 0, none⟩ = false ∧ w'.frozen? ⟨w.heap.size + 1 + 1 + 1 + 1, 1, none⟩ = false ∧ w'.frozen? ⟨w.heap.size + 1 + 1 + 1 + 1, 2, none⟩ = false)) (by kernel_rfl) ?_ (fun hHeld1 => ?_)
      · (try dsimp only); exact RU.drew ⟨hkA.trans kc, t0, t1, t2, t3, x0, x1, x2, cellV_of (kept_cell kc (WC.out 0 (by omega))), cellV_of (kept_cell kc (WC.out 1 (by omega))), cellV_of (kept_cell kc (WC.out 2 (by omega))), kept_frozen kc (WF.out 0), kept_frozen kc (WF.out 1), kept_frozen kc (WF.out 2), cellV_of (kept_cell kc (RC.out 0 (by omega))), cellV_of (kept_cell kc (RC.out 1 (by omega))), cellV_of (kept_cell kc (RC.out 2 (by omega))), kept_frozen kc (RF.out 0), kept_frozen kc (RF.out 1), kept_frozen kc (RF.out 2)⟩
      refine wpAnyH_take (i := 0) (v := ?_) rfl (by kernel_rfl) (by kernel_rfl) (by kernel_rfl) (fun _ _ _ h => h) (Or.inl ⟨by rfl, ?_⟩) (by assumption) ?_
      rotate_left
      · intro w'' hSw; (try dsimp only at hSw); simp only [List.getElem_toArray, List.getElem_cons_succ, List.getElem_cons_zero]; (go_simp <;> with_reducible rfl)
      try simp only [Act.put, List.setIfInBounds_toArray, List.set_cons_zero, List.set_cons_succ, List.getElem_toArray, List.getElem_cons_succ, List.getElem_cons_zero]
      refine wpAnyH_take (i := 2) (v := ?_) rfl (by kernel_rfl) (by kernel_rfl) (by kernel_rfl) (fun _ _ _ h => h) (Or.inl ⟨by rfl, ?_⟩) (by assumption) ?_
      rotate_left
      · intro w'' hSw; (try dsimp only at hSw); simp only [List.getElem_toArray, List.getElem_cons_succ, List.getElem_cons_zero]; (go_simp <;> with_reducible rfl)
      try simp only [Act.put, List.setIfInBounds_toArray, List.set_cons_zero, List.set_cons_succ, List.getElem_toArray, List.getElem_cons_succ, List.getElem_cons_zero]
      refine wpAnyH_take (i := 3) (v := ?_) rfl (by kernel_rfl) (by kernel_rfl) (by kernel_rfl) (fun _ _ _ h => h) (Or.inl ⟨by rfl, ?_⟩) (by assumption) ?_
      rotate_left
      · intro w'' hSw; (try dsimp only at hSw); simp only [List.getElem_toArray, List.getElem_cons_succ, List.getElem_cons_zero]; (go_simp <;> with_reducible rfl)
      try simp only [Act.put, List.setIfInBounds_toArray, List.set_cons_zero, List.set_cons_succ, List.getElem_toArray, List.getElem_cons_succ, List.getElem_cons_zero]
      refine wpAnyH_take (i := 4) (v := ?_) rfl (by kernel_rfl) (by kernel_rfl) (by kernel_rfl) (fun _ _ _ h => h) (Or.inl ⟨by rfl, ?_⟩) (by assumption) ?_
      rotate_left
      · intro w'' hSw; (try dsimp only at hSw); simp only [List.getElem_toArray, List.getElem_cons_succ, List.getElem_cons_zero]; (go_simp <;> with_reducible rfl)
      try simp only [Act.put, List.setIfInBounds_toArray, List.set_cons_zero, List.set_cons_succ, List.getElem_toArray, List.getElem_cons_succ, List.getElem_cons_zero]
      refine wpAnyH_take (i := 5) (v := ?_) rfl (by kernel_rfl) (by kernel_rfl) (by kernel_rfl) (fun _ _ _ h => h) (Or.inl ⟨by rfl, ?_⟩) (by assumption) ?_
      rotate_left
      · intro w'' hSw; (try dsimp only at hSw); simp only [List.getElem_toArray, List.getElem_cons_succ, List.getElem_cons_zero]; (go_simp <;> with_reducible rfl)
      try simp only [Act.put, List.setIfInBounds_toArray, List.set_cons_zero, List.set_cons_succ, List.getElem_toArray, List.getElem_cons_succ, List.getElem_cons_zero]
      refine wpAnyH_ready (rs := [1]) (by kernel_rfl) (by simp) ?_
      refine AllReadyH.cons rfl (fun K hK => ?_) AllReadyH.nil
      rw [if_pos (by rfl)]
      simp only [List.getElem_toArray, List.getElem_cons_succ, List.getElem_cons_zero]
      go_simp
      (go_at_call 33; refine (refUnit_calls _ _ _ _).mono ?_; rintro e w2 ⟨rfl, k2⟩)
      try go_wp2_with fail
      refine hK.out _ _ ?_ (fun hHeld2 => ?_)
      · (try dsimp only); exact RU.step k2 hHeld1
      clear hK K hHeld1
      try simp only [Act.put, List.setIfInBounds_toArray, List.set_cons_zero, List.set_cons_succ, List.getElem_toArray, List.getElem_cons_succ, List.getElem_cons_zero]
      refine wpAnyH_ready (rs := [6]) (by kernel_rfl) (by simp) ?_
      refine AllReadyH.cons rfl (fun K hK => ?_) AllReadyH.nil
      rw [if_pos (by rfl)]
      simp only [List.getElem_toArray, List.getElem_cons_succ, List.getElem_cons_zero]
      go_simp
      (go_at_call 31; refine (refLong_calls _ _ _ _).mono ?_; rintro e w3 ⟨rfl, k3⟩)
      try go_wp2_with fail
      refine hK.out _ _ ?_ (fun hHeld3 => ?_)
      · (try dsimp only); exact RU.step k3 hHeld2
      clear hK K hHeld2
      try simp only [Act.put, List.setIfInBounds_toArray, List.set_cons_zero, List.set_cons_succ, List.getElem_toArray, List.getElem_cons_succ, List.getElem_cons_zero]
      refine wpAnyH_ready (rs := [7]) (by kernel_rfl) (by simp) ?_
      refine AllReadyH.cons rfl (fun K hK => ?_) AllReadyH.nil
      rw [if_pos (by rfl)]
      simp only [List.getElem_toArray, List.getElem_cons_succ, List.getElem_cons_zero]
      go_simp
      (go_at_call 15; refine (refSub_calls _ _ _).mono ?_; rintro e w4 ⟨rfl, rfl⟩)
      try go_wp2_with fail
      refine hK.out _ _ ?_ (fun hHeld4 => ?_)
      · (try dsimp only); exact hHeld3
      clear hK K hHeld3
      try simp only [Act.put, List.setIfInBounds_toArray, List.set_cons_zero, List.set_cons_succ, List.getElem_toArray, List.getElem_cons_succ, List.getElem_cons_zero]
      refine wpAnyH_ready (rs := [8]) (by kernel_rfl) (by simp) ?_
      refine AllReadyH.cons rfl (fun K hK => ?_) AllReadyH.nil
      rw [if_pos (by rfl)]
      simp only [List.getElem_toArray, List.getElem_cons_succ, List.getElem_cons_zero]
      go_simp
      refine hK.out _ _ ?_ (fun hHeld5 => ?_)
      · (try dsimp only); exact (RU.put0 2 _ (by omega) (by omega) (by omega) (RU.put0 1 _ (by omega) (by omega) (by omega) (RU.put0 0 _ (by omega) (by omega) (by omega) hHeld4)))
      clear hK K
      try simp only [Act.put, List.setIfInBounds_toArray, List.set_cons_zero, List.set_cons_succ, List.getElem_toArray, List.getElem_cons_succ, List.getElem_cons_zero]
      refine wpAnyH_take (i := 9) (v := ?_) rfl (by kernel_rfl) (by kernel_rfl) (by kernel_rfl) (fun _ _ _ h => h) (Or.inl ⟨by rfl, ?_⟩) (by assumption) ?_
      rotate_left
      · intro w'' hSw; (try dsimp only at hSw); simp only [List.getElem_toArray, List.getElem_cons_succ, List.getElem_cons_zero]; (go_simp <;> with_reducible rfl)
      try simp only [Act.put, List.setIfInBounds_toArray, List.set_cons_zero, List.set_cons_succ, List.getElem_toArray, List.getElem_cons_succ, List.getElem_cons_zero]
      refine wpAnyH_done (by kernel_rfl) ?_ _
      obtain ⟨_, _, _, _, _, _, _, _, c0, c1, c2, _⟩ := hHeld4
      obtain ⟨m0, m1, m2⟩ := set3_of (v0 := .int .i64 (unitPart (long v0 v1 v2) 0 v0)) (v1 := .int .i64 (unitPart (long v0 v1 v2) 65536 v1)) (v2 := .int .i64 (unitPart (long v0 v1 v2) 0 v2)) c0 c1 c2
      clear c0 c1 c2
      obtain ⟨hkt, _, _, _, _, _, _, _, _, _, _, _, _, _, d0, d1, d2, f0, f1, f2⟩ := hHeld5
      have c0 := d0
      have c1 := d1
      have c2 := d2
      clear d0 d1 d2
      generalize (((w4.setCell ⟨w.heap.size + 1 + 1 + 1 + 1 + 1, 0, none⟩ (.int .i64 (unitPart (long v0 v1 v2) 0 v0))).setCell ⟨w.heap.size + 1 + 1 + 1 + 1 + 1, 1, none⟩ (.int .i64 (unitPart (long v0 v1 v2) 65536 v1))).setCell ⟨w.heap.size + 1 + 1 + 1 + 1 + 1, 2, none⟩ (.int .i64 (unitPart (long v0 v1 v2) 0 v2))) = wt at m0 m1 m2 c0 c1 c2 f0 f1 f2 hkt ⊢
      clear k2 k3 x0 x1 x2 t0 t1 t2 t3 t4 t5 t6 t7 t8 t9 t10 t11 t12 t13 t14 t15 t16 t17 t18 t19
      cases hd : decide (sub xa (long v0 v1 v2) ≤ 0) with
      | true =>
        go_wp2
        obtain ⟨e0, e1, e2⟩ := set3_of (v0 := .int .i64 0) (v1 := .int .i64 0) (v2 := .int .i64 0) c0 c1 c2
        exact bodyPost_ret (v := .tuple #[.agg #[.int .i64 0, .int .i64 0, .int .i64 0], .int .i64 0, .bool false]) (by simp [results, Try.results53, go_sem, e0, e1, e2]) rfl ⟨by rw [HTT.out, ← HT0.out, doneT_no (of_decide_eq_true hd)]; rfl, kept_set3 hkt (by omega) _ _ _⟩
      | false =>
        go_wp2
        obtain ⟨e0, e1, e2⟩ := set3_of (v0 := .int .i64 (unitPart (long v0 v1 v2) 0 v0)) (v1 := .int .i64 (unitPart (long v0 v1 v2) 65536 v1)) (v2 := .int .i64 (unitPart (long v0 v1 v2) 0 v2)) c0 c1 c2
        exact bodyPost_ret (v := .tuple #[.agg #[.int .i64 (unitPart (long v0 v1 v2) 0 v0), .int .i64 (unitPart (long v0 v1 v2) 65536 v1), .int .i64 (unitPart (long v0 v1 v2) 0 v2)], .int .i64 (sub xa (long v0 v1 v2)), .bool true]) (by simp [results, Try.results53, go_sem, e0, e1, e2]) rfl ⟨by rw [HTT.out, ← HT0.out, doneT_yes (of_decide_eq_false hd)], kept_set3 hkt (by omega) _ _ _⟩
    | true =>
      cases c_1 : (v1 == 0) with
      | false =>
        rw [ballV_out (by simp only [beq_eq_false_iff_ne, ne_eq] at c_1; intro hh; exact c_1 hh.2.1), reachT_done] at HT
        have HT0 : Aside (doneT (unitPart (long v0 v1 v2) 0 v0) (unitPart (long v0 v1 v2) 65536 v1) (unitPart (long v0 v1 v2) 0 v2) (sub xa (long v0 v1 v2)) = tt) := HT
        clear HT
        go_wp2
        refine wp_region_held_drew (S := (fun w' => Kept w w' ∧ w'.cell? ⟨w.heap.size, 0, none⟩ = some (.int .i64 ka) ∧ w'.cell? ⟨w.heap.size, 1, none⟩ = some (.int .i64 xa) ∧ w'.cell? ⟨w.heap.size, 2, none⟩ = some (.int .i64 ya) ∧ w'.cell? ⟨w.heap.size, 3, none⟩ = some (.int .i64 za) ∧ w'.cell? ⟨pv, 0, none⟩ = some (.int .i64 v0) ∧ w'.cell? ⟨pv, 1, none⟩ = some (.int .i64 v1) ∧ w'.cell? ⟨pv, 2, none⟩ = some (.int .i64 v2) ∧ w'.cell? ⟨w.heap.size + 1 + 1 + 1 + 1 + 1, 0, none⟩ = some (cellV w' ⟨w.heap.size + 1 + 1 + 1 + 1 + 1, 0, none⟩) ∧ w'.cell? ⟨w.heap.size + 1 + 1 + 1 + 1 + 1, 1, none⟩ = some (cellV w' ⟨w.heap.size + 1 + 1 + 1 + 1 + 1, 1, none⟩) ∧ w'.cell? ⟨w.heap.size + 1 + 1 + 1 + 1 + 1, 2, none⟩ = some (cellV w' ⟨w.heap.size + 1 + 1 + 1 + 1 + 1, 2, none⟩) ∧ w'.frozen? ⟨w.heap.size + 1 + 1 + 1 + 1 + 1, 0, none⟩ = false ∧ w'.frozen? ⟨w.heap.size + 1 + 1 + 1 + 1 + 1, 1, none⟩ = false ∧ w'.frozen? ⟨w.heap.size + 1 + 1 + 1 + 1 + 1, 2, none⟩ = false ∧ w'.cell? ⟨w.heap.size + 1 + 1 + 1 + 1, 0, none⟩ = some (cellV w' ⟨w.heap.size + 1 + 1 + 1 + 1, 0, none⟩) ∧ w'.cell? ⟨w.heap.size + 1 + 1 + 1 + 1, 1, none⟩ = some (cellV w' ⟨w.heap.size + 1 + 1 + 1 + 1, 1, none⟩) ∧ w'.cell? ⟨w.heap.size + 1 + 1 + 1 + 1, 2, none⟩ = some (cellV w' ⟨w.heap.size + 1 + 1 + 1 + 1, 2, none⟩) ∧ w'.frozen? ⟨w.heap.size + 1 + 1 + 1 + 1, 0, none⟩ = false ∧ w'.frozen? ⟨w.heap.size + 1 + 1 + 1 + 1, 1, none⟩ = false ∧ w'.frozen? ⟨w.heap.size + 1 + 1 + 1 + 1, 2, none⟩ = false)) (by kernel_rfl) ?_ (fun hHeld1 => ?_)
        · (try dsimp only); exact RU.drew ⟨hkA.trans kc, t0, t1, t2, t3, x0, x1, x2, cellV_of (kept_cell kc (WC.out 0 (by omega))), cellV_of (kept_cell kc (WC.out 1 (by omega))), cellV_of (kept_cell kc (WC.out 2 (by omega))), kept_frozen kc (WF.out 0), kept_frozen kc (WF.out 1), kept_frozen kc (WF.out 2), cellV_of (kept_cell kc (RC.out 0 (by omega))), cellV_of (kept_cell kc (RC.out 1 (by omega))), cellV_of (kept_cell kc (RC.out 2 (by omega))), kept_frozen kc (RF.out 0), kept_frozen kc (RF.out 1), kept_frozen kc (RF.out 2)⟩
        refine wpAnyH_take (i := 0) (v := ?_) rfl (by kernel_rfl) (by kernel_rfl) (by kernel_rfl) (fun _ _ _ h => h) (Or.inl ⟨by rfl, ?_⟩) (by assumption) ?_
        rotate_left
        · intro w'' hSw; (try dsimp only at hSw); simp only [List.getElem_toArray, List.getElem_cons_succ, List.getElem_cons_zero]; (go_simp <;> with_reducible rfl)
        try simp only [Act.put, List.setIfInBounds_toArray, List.set_cons_zero, List.set_cons_succ, List.getElem_toArray, List.getElem_cons_succ, List.getElem_cons_zero]
        refine wpAnyH_take (i := 2) (v := ?_) rfl (by kernel_rfl) (by kernel_rfl) (by kernel_rfl) (fun _ _ _ h => h) (Or.inl ⟨by rfl, ?_⟩) (by assumption) ?_
        rotate_left
        · intro w'' hSw; (try dsimp only at hSw); simp only [List.getElem_toArray, List.getElem_cons_succ, List.getElem_cons_zero]; (go_simp <;> with_reducible rfl)
        try simp only [Act.put, List.setIfInBounds_toArray, List.set_cons_zero, List.set_cons_succ, List.getElem_toArray, List.getElem_cons_succ, List.getElem_cons_zero]
        refine wpAnyH_take (i := 3) (v := ?_) rfl (by kernel_rfl) (by kernel_rfl) (by kernel_rfl) (fun _ _ _ h => h) (Or.inl ⟨by rfl, ?_⟩) (by assumption) ?_
        rotate_left
        · intro w'' hSw; (try dsimp only at hSw); simp only [List.getElem_toArray, List.getElem_cons_succ, List.getElem_cons_zero]; (go_simp <;> with_reducible rfl)
        try simp only [Act.put, List.setIfInBounds_toArray, List.set_cons_zero, List.set_cons_succ, List.getElem_toArray, List.getElem_cons_succ, List.getElem_cons_zero]
        refine wpAnyH_take (i := 4) (v := ?_) rfl (by kernel_rfl) (by kernel_rfl) (by kernel_rfl) (fun _ _ _ h => h) (Or.inl ⟨by rfl, ?_⟩) (by assumption) ?_
        rotate_left
        · intro w'' hSw; (try dsimp only at hSw); simp only [List.getElem_toArray, List.getElem_cons_succ, List.getElem_cons_zero]; (go_simp <;> with_reducible rfl)
        try simp only [Act.put, List.setIfInBounds_toArray, List.set_cons_zero, List.set_cons_succ, List.getElem_toArray, List.getElem_cons_succ, List.getElem_cons_zero]
        refine wpAnyH_take (i := 5) (v := ?_) rfl (by kernel_rfl) (by kernel_rfl) (by kernel_rfl) (fun _ _ _ h => h) (Or.inl ⟨by rfl, ?_⟩) (by assumption) ?_
        rotate_left
        · intro w'' hSw; (try dsimp only at hSw); simp only [List.getElem_toArray, List.getElem_cons_succ, List.getElem_cons_zero]; (go_simp <;> with_reducible rfl)
        try simp only [Act.put, List.setIfInBounds_toArray, List.set_cons_zero, List.set_cons_succ, List.getElem_toArray, List.getElem_cons_succ, List.getElem_cons_zero]
        refine wpAnyH_ready (rs := [1]) (by kernel_rfl) (by simp) ?_
        refine AllReadyH.cons rfl (fun K hK => ?_) AllReadyH.nil
        rw [if_pos (by rfl)]
        simp only [List.getElem_toArray, List.getElem_cons_succ, List.getElem_cons_zero]
        go_simp
        (go_at_call 33; refine (refUnit_calls _ _ _ _).mono ?_; rintro e w2 ⟨rfl, k2⟩)
        try go_wp2_with fail
        refine hK.out _ _ ?_ (fun hHeld2 => ?_)
        · (try dsimp only); exact RU.step k2 hHeld1
        clear hK K hHeld1
        try simp only [Act.put, List.setIfInBounds_toArray, List.set_cons_zero, List.set_cons_succ, List.getElem_toArray, List.getElem_cons_succ, List.getElem_cons_zero]
        refine wpAnyH_ready (rs := [6]) (by kernel_rfl) (by simp) ?_
        refine AllReadyH.cons rfl (fun K hK => ?_) AllReadyH.nil
        rw [if_pos (by rfl)]
        simp only [List.getElem_toArray, List.getElem_cons_succ, List.getElem_cons_zero]
        go_simp
        (go_at_call 31; refine (refLong_calls _ _ _ _).mono ?_; rintro e w3 ⟨rfl, k3⟩)
        try go_wp2_with fail
        refine hK.out _ _ ?_ (fun hHeld3 => ?_)
        · (try dsimp only); exact RU.step k3 hHeld2
        clear hK K hHeld2
        try simp only [Act.put, List.setIfInBounds_toArray, List.set_cons_zero, List.set_cons_succ, List.getElem_toArray, List.getElem_cons_succ, List.getElem_cons_zero]
        refine wpAnyH_ready (rs := [7]) (by kernel_rfl) (by simp) ?_
        refine AllReadyH.cons rfl (fun K hK => ?_) AllReadyH.nil
        rw [if_pos (by rfl)]
        simp only [List.getElem_toArray, List.getElem_cons_succ, List.getElem_cons_zero]
        go_simp
        (go_at_call 15; refine (refSub_calls _ _ _).mono ?_; rintro e w4 ⟨rfl, rfl⟩)
        try go_wp2_with fail
        refine hK.out _ _ ?_ (fun hHeld4 => ?_)
        · (try dsimp only); exact hHeld3
        clear hK K hHeld3
        try simp only [Act.put, List.setIfInBounds_toArray, List.set_cons_zero, List.set_cons_succ, List.getElem_toArray, List.getElem_cons_succ, List.getElem_cons_zero]
        refine wpAnyH_ready (rs := [8]) (by kernel_rfl) (by simp) ?_
        refine AllReadyH.cons rfl (fun K hK => ?_) AllReadyH.nil
        rw [if_pos (by rfl)]
        simp only [List.getElem_toArray, List.getElem_cons_succ, List.getElem_cons_zero]
        go_simp
        refine hK.out _ _ ?_ (fun hHeld5 => ?_)
        · (try dsimp only); exact (RU.put0 2 _ (by omega) (by omega) (by omega) (RU.put0 1 _ (by omega) (by omega) (by omega) (RU.put0 0 _ (by omega) (by omega) (by omega) hHeld4)))
        clear hK K
        try simp only [Act.put, List.setIfInBounds_toArray, List.set_cons_zero, List.set_cons_succ, List.getElem_toArray, List.getElem_cons_succ, List.getElem_cons_zero]
        refine wpAnyH_take (i := 9) (v := ?_) rfl (by kernel_rfl) (by kernel_rfl) (by kernel_rfl) (fun _ _ _ h => h) (Or.inl ⟨by rfl, ?_⟩) (by assumption) ?_
        rotate_left
        · intro w'' hSw; (try dsimp only at hSw); simp only [List.getElem_toArray, List.getElem_cons_succ, List.getElem_cons_zero]; (go_simp <;> with_reducible rfl)
        try simp only [Act.put, List.setIfInBounds_toArray, List.set_cons_zero, List.set_cons_succ, List.getElem_toArray, List.getElem_cons_succ, List.getElem_cons_zero]
        refine wpAnyH_done (by kernel_rfl) ?_ _
        obtain ⟨_, _, _, _, _, _, _, _, c0, c1, c2, _⟩ := hHeld4
        obtain ⟨m0, m1, m2⟩ := set3_of (v0 := .int .i64 (unitPart (long v0 v1 v2) 0 v0)) (v1 := .int .i64 (unitPart (long v0 v1 v2) 65536 v1)) (v2 := .int .i64 (unitPart (long v0 v1 v2) 0 v2)) c0 c1 c2
        clear c0 c1 c2
        obtain ⟨hkt, _, _, _, _, _, _, _, _, _, _, _, _, _, d0, d1, d2, f0, f1, f2⟩ := hHeld5
        have c0 := d0
        have c1 := d1
        have c2 := d2
        clear d0 d1 d2
        generalize (((w4.setCell ⟨w.heap.size + 1 + 1 + 1 + 1 + 1, 0, none⟩ (.int .i64 (unitPart (long v0 v1 v2) 0 v0))).setCell ⟨w.heap.size + 1 + 1 + 1 + 1 + 1, 1, none⟩ (.int .i64 (unitPart (long v0 v1 v2) 65536 v1))).setCell ⟨w.heap.size + 1 + 1 + 1 + 1 + 1, 2, none⟩ (.int .i64 (unitPart (long v0 v1 v2) 0 v2))) = wt at m0 m1 m2 c0 c1 c2 f0 f1 f2 hkt ⊢
        clear k2 k3 x0 x1 x2 t0 t1 t2 t3 t4 t5 t6 t7 t8 t9 t10 t11 t12 t13 t14 t15 t16 t17 t18 t19
        cases hd : decide (sub xa (long v0 v1 v2) ≤ 0) with
        | true =>
          go_wp2
          obtain ⟨e0, e1, e2⟩ := set3_of (v0 := .int .i64 0) (v1 := .int .i64 0) (v2 := .int .i64 0) c0 c1 c2
          exact bodyPost_ret (v := .tuple #[.agg #[.int .i64 0, .int .i64 0, .int .i64 0], .int .i64 0, .bool false]) (by simp [results, Try.results53, go_sem, e0, e1, e2]) rfl ⟨by rw [HTT.out, ← HT0.out, doneT_no (of_decide_eq_true hd)]; rfl, kept_set3 hkt (by omega) _ _ _⟩
        | false =>
          go_wp2
          obtain ⟨e0, e1, e2⟩ := set3_of (v0 := .int .i64 (unitPart (long v0 v1 v2) 0 v0)) (v1 := .int .i64 (unitPart (long v0 v1 v2) 65536 v1)) (v2 := .int .i64 (unitPart (long v0 v1 v2) 0 v2)) c0 c1 c2
          exact bodyPost_ret (v := .tuple #[.agg #[.int .i64 (unitPart (long v0 v1 v2) 0 v0), .int .i64 (unitPart (long v0 v1 v2) 65536 v1), .int .i64 (unitPart (long v0 v1 v2) 0 v2)], .int .i64 (sub xa (long v0 v1 v2)), .bool true]) (by simp [results, Try.results53, go_sem, e0, e1, e2]) rfl ⟨by rw [HTT.out, ← HT0.out, doneT_yes (of_decide_eq_false hd)], kept_set3 hkt (by omega) _ _ _⟩
      | true =>
        cases c_2 : (v2 == 0) with
        | false =>
          rw [ballV_out (by simp only [beq_eq_false_iff_ne, ne_eq] at c_2; intro hh; exact c_2 hh.2.2), reachT_done] at HT
          have HT0 : Aside (doneT (unitPart (long v0 v1 v2) 0 v0) (unitPart (long v0 v1 v2) 65536 v1) (unitPart (long v0 v1 v2) 0 v2) (sub xa (long v0 v1 v2)) = tt) := HT
          clear HT
          go_wp2
          refine wp_region_held_drew (S := (fun w' => Kept w w' ∧ w'.cell? ⟨w.heap.size, 0, none⟩ = some (.int .i64 ka) ∧ w'.cell? ⟨w.heap.size, 1, none⟩ = some (.int .i64 xa) ∧ w'.cell? ⟨w.heap.size, 2, none⟩ = some (.int .i64 ya) ∧ w'.cell? ⟨w.heap.size, 3, none⟩ = some (.int .i64 za) ∧ w'.cell? ⟨pv, 0, none⟩ = some (.int .i64 v0) ∧ w'.cell? ⟨pv, 1, none⟩ = some (.int .i64 v1) ∧ w'.cell? ⟨pv, 2, none⟩ = some (.int .i64 v2) ∧ w'.cell? ⟨w.heap.size + 1 + 1 + 1 + 1 + 1, 0, none⟩ = some (cellV w' ⟨w.heap.size + 1 + 1 + 1 + 1 + 1, 0, none⟩) ∧ w'.cell? ⟨w.heap.size + 1 + 1 + 1 + 1 + 1, 1, none⟩ = some (cellV w' ⟨w.heap.size + 1 + 1 + 1 + 1 + 1, 1, none⟩) ∧ w'.cell? ⟨w.heap.size + 1 + 1 + 1 + 1 + 1, 2, none⟩ = some (cellV w' ⟨w.heap.size + 1 + 1 + 1 + 1 + 1, 2, none⟩) ∧ w'.frozen? ⟨w.heap.size + 1 + 1 + 1 + 1 + 1, 0, none⟩ = false ∧ w'.frozen? ⟨w.heap.size + 1 + 1 + 1 + 1 + 1, 1, none⟩ = false ∧ w'.frozen? ⟨w.heap.size + 1 + 1 + 1 + 1 + 1, 2, none⟩ = false ∧ w'.cell? ⟨w.heap.size + 1 + 1 + 1 + 1, 0, none⟩ = some (cellV w' ⟨w.heap.size + 1 + 1 + 1 + 1, 0, none⟩) ∧ w'.cell? ⟨w.heap.size + 1 + 1 + 1 + 1, 1, none⟩ = some (cellV w' ⟨w.heap.size + 1 + 1 + 1 + 1, 1, none⟩) ∧ w'.cell? ⟨w.heap.size + 1 + 1 + 1 + 1, 2, none⟩ = some (cellV w' ⟨w.heap.size + 1 + 1 + 1 + 1, 2, none⟩) ∧ w'.frozen? ⟨w.heap.size + 1 + 1 + 1 + 1, 0, none⟩ = false ∧ w'.frozen? ⟨w.heap.size + 1 + 1 + 1 + 1, 1, none⟩ = false ∧ w'.frozen? ⟨w.heap.size + 1 + 1 + 1 + 1, 2, none⟩ = false)) (by kernel_rfl) ?_ (fun hHeld1 => ?_)
          · (try dsimp only); exact RU.drew ⟨hkA.trans kc, t0, t1, t2, t3, x0, x1, x2, cellV_of (kept_cell kc (WC.out 0 (by omega))), cellV_of (kept_cell kc (WC.out 1 (by omega))), cellV_of (kept_cell kc (WC.out 2 (by omega))), kept_frozen kc (WF.out 0), kept_frozen kc (WF.out 1), kept_frozen kc (WF.out 2), cellV_of (kept_cell kc (RC.out 0 (by omega))), cellV_of (kept_cell kc (RC.out 1 (by omega))), cellV_of (kept_cell kc (RC.out 2 (by omega))), kept_frozen kc (RF.out 0), kept_frozen kc (RF.out 1), kept_frozen kc (RF.out 2)⟩
          refine wpAnyH_take (i := 0) (v := ?_) rfl (by kernel_rfl) (by kernel_rfl) (by kernel_rfl) (fun _ _ _ h => h) (Or.inl ⟨by rfl, ?_⟩) (by assumption) ?_
          rotate_left
          · intro w'' hSw; (try dsimp only at hSw); simp only [List.getElem_toArray, List.getElem_cons_succ, List.getElem_cons_zero]; (go_simp <;> with_reducible rfl)
          try simp only [Act.put, List.setIfInBounds_toArray, List.set_cons_zero, List.set_cons_succ, List.getElem_toArray, List.getElem_cons_succ, List.getElem_cons_zero]
          refine wpAnyH_take (i := 2) (v := ?_) rfl (by kernel_rfl) (by kernel_rfl) (by kernel_rfl) (fun _ _ _ h => h) (Or.inl ⟨by rfl, ?_⟩) (by assumption) ?_
          rotate_left
          · intro w'' hSw; (try dsimp only at hSw); simp only [List.getElem_toArray, List.getElem_cons_succ, List.getElem_cons_zero]; (go_simp <;> with_reducible rfl)
          try simp only [Act.put, List.setIfInBounds_toArray, List.set_cons_zero, List.set_cons_succ, List.getElem_toArray, List.getElem_cons_succ, List.getElem_cons_zero]
          refine wpAnyH_take (i := 3) (v := ?_) rfl (by kernel_rfl) (by kernel_rfl) (by kernel_rfl) (fun _ _ _ h => h) (Or.inl ⟨by rfl, ?_⟩) (by assumption) ?_
          rotate_left
          · intro w'' hSw; (try dsimp only at hSw); simp only [List.getElem_toArray, List.getElem_cons_succ, List.getElem_cons_zero]; (go_simp <;> with_reducible rfl)
          try simp only [Act.put, List.setIfInBounds_toArray, List.set_cons_zero, List.set_cons_succ, List.getElem_toArray, List.getElem_cons_succ, List.getElem_cons_zero]
          refine wpAnyH_take (i := 4) (v := ?_) rfl (by kernel_rfl) (by kernel_rfl) (by kernel_rfl) (fun _ _ _ h => h) (Or.inl ⟨by rfl, ?_⟩) (by assumption) ?_
          rotate_left
          · intro w'' hSw; (try dsimp only at hSw); simp only [List.getElem_toArray, List.getElem_cons_succ, List.getElem_cons_zero]; (go_simp <;> with_reducible rfl)
          try simp only [Act.put, List.setIfInBounds_toArray, List.set_cons_zero, List.set_cons_succ, List.getElem_toArray, List.getElem_cons_succ, List.getElem_cons_zero]
          refine wpAnyH_take (i := 5) (v := ?_) rfl (by kernel_rfl) (by kernel_rfl) (by kernel_rfl) (fun _ _ _ h => h) (Or.inl ⟨by rfl, ?_⟩) (by assumption) ?_
          rotate_left
          · intro w'' hSw; (try dsimp only at hSw); simp only [List.getElem_toArray, List.getElem_cons_succ, List.getElem_cons_zero]; (go_simp <;> with_reducible rfl)
          try simp only [Act.put, List.setIfInBounds_toArray, List.set_cons_zero, List.set_cons_succ, List.getElem_toArray, List.getElem_cons_succ, List.getElem_cons_zero]
          refine wpAnyH_ready (rs := [1]) (by kernel_rfl) (by simp) ?_
          refine AllReadyH.cons rfl (fun K hK => ?_) AllReadyH.nil
          rw [if_pos (by rfl)]
          simp only [List.getElem_toArray, List.getElem_cons_succ, List.getElem_cons_zero]
          go_simp
          (go_at_call 33; refine (refUnit_calls _ _ _ _).mono ?_; rintro e w2 ⟨rfl, k2⟩)
          try go_wp2_with fail
          refine hK.out _ _ ?_ (fun hHeld2 => ?_)
          · (try dsimp only); exact RU.step k2 hHeld1
          clear hK K hHeld1
          try simp only [Act.put, List.setIfInBounds_toArray, List.set_cons_zero, List.set_cons_succ, List.getElem_toArray, List.getElem_cons_succ, List.getElem_cons_zero]
          refine wpAnyH_ready (rs := [6]) (by kernel_rfl) (by simp) ?_
          refine AllReadyH.cons rfl (fun K hK => ?_) AllReadyH.nil
          rw [if_pos (by rfl)]
          simp only [List.getElem_toArray, List.getElem_cons_succ, List.getElem_cons_zero]
          go_simp
          (go_at_call 31; refine (refLong_calls _ _ _ _).mono ?_; rintro e w3 ⟨rfl, k3⟩)
          try go_wp2_with fail
          refine hK.out _ _ ?_ (fun hHeld3 => ?_)
          · (try dsimp only); exact RU.step k3 hHeld2
          clear hK K hHeld2
          try simp only [Act.put, List.setIfInBounds_toArray, List.set_cons_zero, List.set_cons_succ, List.getElem_toArray, List.getElem_cons_succ, List.getElem_cons_zero]
          refine wpAnyH_ready (rs := [7]) (by kernel_rfl) (by simp) ?_
          refine AllReadyH.cons rfl (fun K hK => ?_) AllReadyH.nil
          rw [if_pos (by rfl)]
          simp only [List.getElem_toArray, List.getElem_cons_succ, List.getElem_cons_zero]
          go_simp
          (go_at_call 15; refine (refSub_calls _ _ _).mono ?_; rintro e w4 ⟨rfl, rfl⟩)
          try go_wp2_with fail
          refine hK.out _ _ ?_ (fun hHeld4 => ?_)
          · (try dsimp only); exact hHeld3
          clear hK K hHeld3
          try simp only [Act.put, List.setIfInBounds_toArray, List.set_cons_zero, List.set_cons_succ, List.getElem_toArray, List.getElem_cons_succ, List.getElem_cons_zero]
          refine wpAnyH_ready (rs := [8]) (by kernel_rfl) (by simp) ?_
          refine AllReadyH.cons rfl (fun K hK => ?_) AllReadyH.nil
          rw [if_pos (by rfl)]
          simp only [List.getElem_toArray, List.getElem_cons_succ, List.getElem_cons_zero]
          go_simp
          refine hK.out _ _ ?_ (fun hHeld5 => ?_)
          · (try dsimp only); exact (RU.put0 2 _ (by omega) (by omega) (by omega) (RU.put0 1 _ (by omega) (by omega) (by omega) (RU.put0 0 _ (by omega) (by omega) (by omega) hHeld4)))
          clear hK K
          try simp only [Act.put, List.setIfInBounds_toArray, List.set_cons_zero, List.set_cons_succ, List.getElem_toArray, List.getElem_cons_succ, List.getElem_cons_zero]
          refine wpAnyH_take (i := 9) (v := ?_) rfl (by kernel_rfl) (by kernel_rfl) (by kernel_rfl) (fun _ _ _ h => h) (Or.inl ⟨by rfl, ?_⟩) (by assumption) ?_
          rotate_left
          · intro w'' hSw; (try dsimp only at hSw); simp only [List.getElem_toArray, List.getElem_cons_succ, List.getElem_cons_zero]; (go_simp <;> with_reducible rfl)
          try simp only [Act.put, List.setIfInBounds_toArray, List.set_cons_zero, List.set_cons_succ, List.getElem_toArray, List.getElem_cons_succ, List.getElem_cons_zero]
          refine wpAnyH_done (by kernel_rfl) ?_ _
          obtain ⟨_, _, _, _, _, _, _, _, c0, c1, c2, _⟩ := hHeld4
          obtain ⟨m0, m1, m2⟩ := set3_of (v0 := .int .i64 (unitPart (long v0 v1 v2) 0 v0)) (v1 := .int .i64 (unitPart (long v0 v1 v2) 65536 v1)) (v2 := .int .i64 (unitPart (long v0 v1 v2) 0 v2)) c0 c1 c2
          clear c0 c1 c2
          obtain ⟨hkt, _, _, _, _, _, _, _, _, _, _, _, _, _, d0, d1, d2, f0, f1, f2⟩ := hHeld5
          have c0 := d0
          have c1 := d1
          have c2 := d2
          clear d0 d1 d2
          generalize (((w4.setCell ⟨w.heap.size + 1 + 1 + 1 + 1 + 1, 0, none⟩ (.int .i64 (unitPart (long v0 v1 v2) 0 v0))).setCell ⟨w.heap.size + 1 + 1 + 1 + 1 + 1, 1, none⟩ (.int .i64 (unitPart (long v0 v1 v2) 65536 v1))).setCell ⟨w.heap.size + 1 + 1 + 1 + 1 + 1, 2, none⟩ (.int .i64 (unitPart (long v0 v1 v2) 0 v2))) = wt at m0 m1 m2 c0 c1 c2 f0 f1 f2 hkt ⊢
          clear k2 k3 x0 x1 x2 t0 t1 t2 t3 t4 t5 t6 t7 t8 t9 t10 t11 t12 t13 t14 t15 t16 t17 t18 t19
          cases hd : decide (sub xa (long v0 v1 v2) ≤ 0) with
          | true =>
            go_wp2
            obtain ⟨e0, e1, e2⟩ := set3_of (v0 := .int .i64 0) (v1 := .int .i64 0) (v2 := .int .i64 0) c0 c1 c2
            exact bodyPost_ret (v := .tuple #[.agg #[.int .i64 0, .int .i64 0, .int .i64 0], .int .i64 0, .bool false]) (by simp [results, Try.results53, go_sem, e0, e1, e2]) rfl ⟨by rw [HTT.out, ← HT0.out, doneT_no (of_decide_eq_true hd)]; rfl, kept_set3 hkt (by omega) _ _ _⟩
          | false =>
            go_wp2
            obtain ⟨e0, e1, e2⟩ := set3_of (v0 := .int .i64 (unitPart (long v0 v1 v2) 0 v0)) (v1 := .int .i64 (unitPart (long v0 v1 v2) 65536 v1)) (v2 := .int .i64 (unitPart (long v0 v1 v2) 0 v2)) c0 c1 c2
            exact bodyPost_ret (v := .tuple #[.agg #[.int .i64 (unitPart (long v0 v1 v2) 0 v0), .int .i64 (unitPart (long v0 v1 v2) 65536 v1), .int .i64 (unitPart (long v0 v1 v2) 0 v2)], .int .i64 (sub xa (long v0 v1 v2)), .bool true]) (by simp [results, Try.results53, go_sem, e0, e1, e2]) rfl ⟨by rw [HTT.out, ← HT0.out, doneT_yes (of_decide_eq_false hd)], kept_set3 hkt (by omega) _ _ _⟩
        | true =>
          rw [ballV_in ⟨by simpa using c_0, by simpa using c_1, by simpa using c_2⟩] at HT
          have HT0 : Aside (doneT (outE p0 p1 p2 p0 p1 p2 (sub q0 xb) (sub q1 (hf kb xb yb)) (sub q2 (hf kb xb zb)) (add q0 xb) (add q1 (hf kb xb yb)) (add q2 (hf kb xb zb))).x (outE p0 p1 p2 p0 p1 p2 (sub q0 xb) (sub q1 (hf kb xb yb)) (sub q2 (hf kb xb zb)) (add q0 xb) (add q1 (hf kb xb yb)) (add q2 (hf kb xb zb))).y (outE p0 p1 p2 p0 p1 p2 (sub q0 xb) (sub q1 (hf kb xb yb)) (sub q2 (hf kb xb zb)) (add q0 xb) (add q1 (hf kb xb yb)) (add q2 (hf kb xb zb))).z (add (outE p0 p1 p2 p0 p1 p2 (sub q0 xb) (sub q1 (hf kb xb yb)) (sub q2 (hf kb xb zb)) (add q0 xb) (add q1 (hf kb xb yb)) (add q2 (hf kb xb zb))).d xa) = tt) := HT
          clear HT
          go_wp2_with fail
          refine (refOut_calls _ _ _ _ _ _ _ _ _ _ _ _ _).mono ?_; rintro e w2 ⟨rfl, k2⟩
          generalize (outE p0 p1 p2 p0 p1 p2 (sub q0 xb) (sub q1 (hf kb xb yb)) (sub q2 (hf kb xb zb)) (add q0 xb) (add q1 (hf kb xb yb)) (add q2 (hf kb xb zb))) = E at HT0 ⊢
          have y0 := kept_cell k2 (kept_cell kc (WC.out 0 (by omega)))
          have y1 := kept_cell k2 (kept_cell kc (WC.out 1 (by omega)))
          have y2 := kept_cell k2 (kept_cell kc (WC.out 2 (by omega)))
          have g0 := kept_frozen k2 (kept_frozen kc (WF.out 0))
          have g1 := kept_frozen k2 (kept_frozen kc (WF.out 1))
          have g2 := kept_frozen k2 (kept_frozen kc (WF.out 2))
          have ta : ∀ u0 u1 u2 : Value, (((w2.setCell ⟨w.heap.size + 1 + 1 + 1 + 1 + 1, 0, none⟩ u0).setCell ⟨w.heap.size + 1 + 1 + 1 + 1 + 1, 1, none⟩ u1).setCell ⟨w.heap.size + 1 + 1 + 1 + 1 + 1, 2, none⟩ u2).cell? ⟨w.heap.size, 1, none⟩ = some (.int .i64 xa) := fun _ _ _ => (World.cell?_setCell_other _ _ _ _ (fun e => by injection e with e; omega)).trans ((World.cell?_setCell_other _ _ _ _ (fun e => by injection e with e; omega)).trans ((World.cell?_setCell_other _ _ _ _ (fun e => by injection e with e; omega)).trans (kept_cell k2 t1)))
          obtain ⟨m0, m1, m2⟩ := set3_of (v0 := .int .i64 (E.x)) (v1 := .int .i64 (E.y)) (v2 := .int .i64 (E.z)) y0 y1 y2
          have c0 : (((w2.setCell ⟨w.heap.size + 1 + 1 + 1 + 1 + 1, 0, none⟩ (.int .i64 (E.x))).setCell ⟨w.heap.size + 1 + 1 + 1 + 1 + 1, 1, none⟩ (.int .i64 (E.y))).setCell ⟨w.heap.size + 1 + 1 + 1 + 1 + 1, 2, none⟩ (.int .i64 (E.z))).cell? ⟨w.heap.size + 1 + 1 + 1 + 1, 0, none⟩ = some (.int .i64 0) := (World.cell?_setCell_other _ _ _ _ (fun e => by injection e with e; omega)).trans ((World.cell?_setCell_other _ _ _ _ (fun e => by injection e with e; omega)).trans ((World.cell?_setCell_other _ _ _ _ (fun e => by injection e with e; omega)).trans (kept_cell k2 (kept_cell kc (RC.out 0 (by omega))))))
          have c1 : (((w2.setCell ⟨w.heap.size + 1 + 1 + 1 + 1 + 1, 0, none⟩ (.int .i64 (E.x))).setCell ⟨w.heap.size + 1 + 1 + 1 + 1 + 1, 1, none⟩ (.int .i64 (E.y))).setCell ⟨w.heap.size + 1 + 1 + 1 + 1 + 1, 2, none⟩ (.int .i64 (E.z))).cell? ⟨w.heap.size + 1 + 1 + 1 + 1, 1, none⟩ = some (.int .i64 0) := (World.cell?_setCell_other _ _ _ _ (fun e => by injection e with e; omega)).trans ((World.cell?_setCell_other _ _ _ _ (fun e => by injection e with e; omega)).trans ((World.cell?_setCell_other _ _ _ _ (fun e => by injection e with e; omega)).trans (kept_cell k2 (kept_cell kc (RC.out 1 (by omega))))))
          have c2 : (((w2.setCell ⟨w.heap.size + 1 + 1 + 1 + 1 + 1, 0, none⟩ (.int .i64 (E.x))).setCell ⟨w.heap.size + 1 + 1 + 1 + 1 + 1, 1, none⟩ (.int .i64 (E.y))).setCell ⟨w.heap.size + 1 + 1 + 1 + 1 + 1, 2, none⟩ (.int .i64 (E.z))).cell? ⟨w.heap.size + 1 + 1 + 1 + 1, 2, none⟩ = some (.int .i64 0) := (World.cell?_setCell_other _ _ _ _ (fun e => by injection e with e; omega)).trans ((World.cell?_setCell_other _ _ _ _ (fun e => by injection e with e; omega)).trans ((World.cell?_setCell_other _ _ _ _ (fun e => by injection e with e; omega)).trans (kept_cell k2 (kept_cell kc (RC.out 2 (by omega))))))
          have f0 : (((w2.setCell ⟨w.heap.size + 1 + 1 + 1 + 1 + 1, 0, none⟩ (.int .i64 (E.x))).setCell ⟨w.heap.size + 1 + 1 + 1 + 1 + 1, 1, none⟩ (.int .i64 (E.y))).setCell ⟨w.heap.size + 1 + 1 + 1 + 1 + 1, 2, none⟩ (.int .i64 (E.z))).frozen? ⟨w.heap.size + 1 + 1 + 1 + 1, 0, none⟩ = false := (World.frozen?_setCell _ _ _ _).trans ((World.frozen?_setCell _ _ _ _).trans ((World.frozen?_setCell _ _ _ _).trans (kept_frozen k2 (kept_frozen kc (RF.out 0)))))
          have f1 : (((w2.setCell ⟨w.heap.size + 1 + 1 + 1 + 1 + 1, 0, none⟩ (.int .i64 (E.x))).setCell ⟨w.heap.size + 1 + 1 + 1 + 1 + 1, 1, none⟩ (.int .i64 (E.y))).setCell ⟨w.heap.size + 1 + 1 + 1 + 1 + 1, 2, none⟩ (.int .i64 (E.z))).frozen? ⟨w.heap.size + 1 + 1 + 1 + 1, 1, none⟩ = false := (World.frozen?_setCell _ _ _ _).trans ((World.frozen?_setCell _ _ _ _).trans ((World.frozen?_setCell _ _ _ _).trans (kept_frozen k2 (kept_frozen kc (RF.out 1)))))
          have f2 : (((w2.setCell ⟨w.heap.size + 1 + 1 + 1 + 1 + 1, 0, none⟩ (.int .i64 (E.x))).setCell ⟨w.heap.size + 1 + 1 + 1 + 1 + 1, 1, none⟩ (.int .i64 (E.y))).setCell ⟨w.heap.size + 1 + 1 + 1 + 1 + 1, 2, none⟩ (.int .i64 (E.z))).frozen? ⟨w.heap.size + 1 + 1 + 1 + 1, 2, none⟩ = false := (World.frozen?_setCell _ _ _ _).trans ((World.frozen?_setCell _ _ _ _).trans ((World.frozen?_setCell _ _ _ _).trans (kept_frozen k2 (kept_frozen kc (RF.out 2)))))
          have hkt : Kept w (((w2.setCell ⟨w.heap.size + 1 + 1 + 1 + 1 + 1, 0, none⟩ (.int .i64 (E.x))).setCell ⟨w.heap.size + 1 + 1 + 1 + 1 + 1, 1, none⟩ (.int .i64 (E.y))).setCell ⟨w.heap.size + 1 + 1 + 1 + 1 + 1, 2, none⟩ (.int .i64 (E.z))) := kept_set3 ((hkA.trans kc).trans k2) (by omega) _ _ _
          go_wp2_with fail
          refine (refAdd_calls _ _ _).mono ?_; rintro e w3 ⟨rfl, hw3⟩
          rw [hw3]
          clear hw3 w3
          clear ta y0 y1 y2 g0 g1 g2 k2 x0 x1 x2 t0 t1 t2 t3 t4 t5 t6 t7 t8 t9 t10 t11 t12 t13 t14 t15 t16 t17 t18 t19
          generalize (((w2.setCell ⟨w.heap.size + 1 + 1 + 1 + 1 + 1, 0, none⟩ (.int .i64 (E.x))).setCell ⟨w.heap.size + 1 + 1 + 1 + 1 + 1, 1, none⟩ (.int .i64 (E.y))).setCell ⟨w.heap.size + 1 + 1 + 1 + 1 + 1, 2, none⟩ (.int .i64 (E.z))) = wt at m0 m1 m2 c0 c1 c2 f0 f1 f2 hkt ⊢
          cases hd : decide (add E.d xa ≤ 0) with
          | true =>
            go_wp2
            obtain ⟨e0, e1, e2⟩ := set3_of (v0 := .int .i64 0) (v1 := .int .i64 0) (v2 := .int .i64 0) c0 c1 c2
            exact bodyPost_ret (v := .tuple #[.agg #[.int .i64 0, .int .i64 0, .int .i64 0], .int .i64 0, .bool false]) (by simp [results, Try.results53, go_sem, e0, e1, e2]) rfl ⟨by rw [HTT.out, ← HT0.out, doneT_no (of_decide_eq_true hd)]; rfl, kept_set3 hkt (by omega) _ _ _⟩
          | false =>
            go_wp2
            obtain ⟨e0, e1, e2⟩ := set3_of (v0 := .int .i64 (E.x)) (v1 := .int .i64 (E.y)) (v2 := .int .i64 (E.z)) c0 c1 c2
            exact bodyPost_ret (v := .tuple #[.agg #[.int .i64 (E.x), .int .i64 (E.y), .int .i64 (E.z)], .int .i64 (add E.d xa), .bool true]) (by simp [results, Try.results53, go_sem, e0, e1, e2]) rfl ⟨by rw [HTT.out, ← HT0.out, doneT_yes (of_decide_eq_false hd)], kept_set3 hkt (by omega) _ _ _⟩
def negT (t : T) : T := ⟨-t.x, -t.y, -t.z, t.d, t.ok⟩
theorem doneT_low {x y z d : Int} (h : (-70368744177664 ≤ x ∧ x ≤ 70368744177664) ∧ (-70368744177664 ≤ y ∧ y ≤ 70368744177664) ∧ -70368744177664 ≤ z ∧ z ≤ 70368744177664) : Low (doneT x y z d) := by
  unfold doneT; split
  · exact noT_low
  · exact h
theorem refBallT_low (s p0 p1 p2 b0 b1 b2 b3 b4 b5 : Int) : Low (refBallT s p0 p1 p2 b0 b1 b2 b3 b4 b5) := by
  unfold refBallT ballV; split
  · have h := outE_small p0 p1 p2 p0 p1 p2 b0 b1 b2 b3 b4 b5
    unfold Small at h
    exact doneT_low (by omega)
  · exact reachT_low _ _ _ _
set_option maxRecDepth 100000 in
set_option maxHeartbeats 8000000 in
theorem refTouches_kb (ka xa ya za p0 p1 p2 kb xb yb zb q0 q1 q2 : Int) (w : World) (h : ¬ ka = 1) (h' : kb = 1) : Calls Try.prog 53 #[.agg #[.int .i64 ka, .int .i64 xa, .int .i64 ya, .int .i64 za], .agg #[.int .i64 p0, .int .i64 p1, .int .i64 p2], .agg #[.int .i64 kb, .int .i64 xb, .int .i64 yb, .int .i64 zb], .agg #[.int .i64 q0, .int .i64 q1, .int .i64 q2]] w fun e w' => e = .returned (.tuple #[.agg #[.int .i64 ((negT (refBallT xb q0 q1 q2 (sub p0 xa) (sub p1 (hf ka xa ya)) (sub p2 (hf ka xa za)) (add p0 xa) (add p1 (hf ka xa ya)) (add p2 (hf ka xa za)))).x), .int .i64 ((negT (refBallT xb q0 q1 q2 (sub p0 xa) (sub p1 (hf ka xa ya)) (sub p2 (hf ka xa za)) (add p0 xa) (add p1 (hf ka xa ya)) (add p2 (hf ka xa za)))).y), .int .i64 ((negT (refBallT xb q0 q1 q2 (sub p0 xa) (sub p1 (hf ka xa ya)) (sub p2 (hf ka xa za)) (add p0 xa) (add p1 (hf ka xa ya)) (add p2 (hf ka xa za)))).z)], .int .i64 ((negT (refBallT xb q0 q1 q2 (sub p0 xa) (sub p1 (hf ka xa ya)) (sub p2 (hf ka xa za)) (add p0 xa) (add p1 (hf ka xa ya)) (add p2 (hf ka xa za)))).d), .bool (negT (refBallT xb q0 q1 q2 (sub p0 xa) (sub p1 (hf ka xa ya)) (sub p2 (hf ka xa za)) (add p0 xa) (add p1 (hf ka xa ya)) (add p2 (hf ka xa za)))).ok]) ∧ Kept w w' := by
  have hb : (ka == 1) = false := by simp [h]
  have hb' : (kb == 1) = true := by simp [h']
  clear h h'
  go_enter Try.func53, Try.ntmps53
  go_wp2_with fail
  refine (refTouches_bk kb xb yb zb q0 q1 q2 ka xa ya za p0 p1 p2 _ (by simpa using hb') (by simpa using hb)).mono ?_; rintro e w1 ⟨rfl, k1⟩
  have hl := refBallT_low xb q0 q1 q2 (sub p0 xa) (sub p1 (hf ka xa ya)) (sub p2 (hf ka xa za)) (add p0 xa) (add p1 (hf ka xa ya)) (add p2 (hf ka xa za))
  generalize hTT : (refBallT xb q0 q1 q2 (sub p0 xa) (sub p1 (hf ka xa ya)) (sub p2 (hf ka xa za)) (add p0 xa) (add p1 (hf ka xa ya)) (add p2 (hf ka xa za))) = tt at hl ⊢
  have HTT : Aside ((refBallT xb q0 q1 q2 (sub p0 xa) (sub p1 (hf ka xa ya)) (sub p2 (hf ka xa za)) (add p0 xa) (add p1 (hf ka xa ya)) (add p2 (hf ka xa za))) = tt) := hTT
  clear hTT
  obtain ⟨⟨l1, l2⟩, ⟨l3, l4⟩, l5, l6⟩ := hl
  have c0 := later (kept_cell k1 (a := ⟨w.heap.size + 1 + 1 + 1 + 1, 0, none⟩) (v := .int .i64 0) (by go_simp)) (.cells #[.int .i64 tt.x, .int .i64 tt.y, .int .i64 tt.z] 26)
  have c1 := later (kept_cell k1 (a := ⟨w.heap.size + 1 + 1 + 1 + 1, 1, none⟩) (v := .int .i64 0) (by go_simp)) (.cells #[.int .i64 tt.x, .int .i64 tt.y, .int .i64 tt.z] 26)
  have c2 := later (kept_cell k1 (a := ⟨w.heap.size + 1 + 1 + 1 + 1, 2, none⟩) (v := .int .i64 0) (by go_simp)) (.cells #[.int .i64 tt.x, .int .i64 tt.y, .int .i64 tt.z] 26)
  have f0 := laterF (kept_frozen k1 (a := ⟨w.heap.size + 1 + 1 + 1 + 1, 0, none⟩) (b := false) (by go_simp))
  have f1 := laterF (kept_frozen k1 (a := ⟨w.heap.size + 1 + 1 + 1 + 1, 1, none⟩) (b := false) (by go_simp))
  have f2 := laterF (kept_frozen k1 (a := ⟨w.heap.size + 1 + 1 + 1 + 1, 2, none⟩) (b := false) (by go_simp))
  have hkt : Kept w (w1.alloc (.cells #[.int .i64 tt.x, .int .i64 tt.y, .int .i64 tt.z] 26)) := ((((((((Kept.refl w).alloc _ _).alloc _ _).alloc _ _).alloc _ _).alloc _ _).alloc _ _).trans k1).alloc _ _
  clear k1
  go_wp2
  obtain ⟨e0, e1, e2⟩ := set3_of (v0 := .int .i64 (-tt.x)) (v1 := .int .i64 (-tt.y)) (v2 := .int .i64 (-tt.z)) c0 c1 c2
  exact bodyPost_ret (v := .tuple #[.agg #[.int .i64 (-tt.x), .int .i64 (-tt.y), .int .i64 (-tt.z)], .int .i64 (tt.d), .bool tt.ok]) (by simp [results, Try.results53, go_sem, e0, e1, e2]) rfl ⟨by rw [HTT.out]; rfl, kept_set3 hkt (by omega) _ _ _⟩
def refBoxesT (a0 a1 a2 a3 a4 a5 b0 b1 b2 b3 b4 b5 : Int) : T := if meetB a0 a1 a2 a3 a4 a5 b0 b1 b2 b3 b4 b5 = true then doneT (outE a0 a1 a2 a3 a4 a5 b0 b1 b2 b3 b4 b5).x (outE a0 a1 a2 a3 a4 a5 b0 b1 b2 b3 b4 b5).y (outE a0 a1 a2 a3 a4 a5 b0 b1 b2 b3 b4 b5).z (outE a0 a1 a2 a3 a4 a5 b0 b1 b2 b3 b4 b5).d else noT
set_option maxRecDepth 100000 in
set_option maxHeartbeats 8000000 in
theorem refTouches_kk (ka xa ya za p0 p1 p2 kb xb yb zb q0 q1 q2 : Int) (w : World) (h : ¬ ka = 1) (h' : ¬ kb = 1) : Calls Try.prog 53 #[.agg #[.int .i64 ka, .int .i64 xa, .int .i64 ya, .int .i64 za], .agg #[.int .i64 p0, .int .i64 p1, .int .i64 p2], .agg #[.int .i64 kb, .int .i64 xb, .int .i64 yb, .int .i64 zb], .agg #[.int .i64 q0, .int .i64 q1, .int .i64 q2]] w fun e w' => e = .returned (.tuple #[.agg #[.int .i64 ((refBoxesT (sub p0 xa) (sub p1 (hf ka xa ya)) (sub p2 (hf ka xa za)) (add p0 xa) (add p1 (hf ka xa ya)) (add p2 (hf ka xa za)) (sub q0 xb) (sub q1 (hf kb xb yb)) (sub q2 (hf kb xb zb)) (add q0 xb) (add q1 (hf kb xb yb)) (add q2 (hf kb xb zb))).x), .int .i64 ((refBoxesT (sub p0 xa) (sub p1 (hf ka xa ya)) (sub p2 (hf ka xa za)) (add p0 xa) (add p1 (hf ka xa ya)) (add p2 (hf ka xa za)) (sub q0 xb) (sub q1 (hf kb xb yb)) (sub q2 (hf kb xb zb)) (add q0 xb) (add q1 (hf kb xb yb)) (add q2 (hf kb xb zb))).y), .int .i64 ((refBoxesT (sub p0 xa) (sub p1 (hf ka xa ya)) (sub p2 (hf ka xa za)) (add p0 xa) (add p1 (hf ka xa ya)) (add p2 (hf ka xa za)) (sub q0 xb) (sub q1 (hf kb xb yb)) (sub q2 (hf kb xb zb)) (add q0 xb) (add q1 (hf kb xb yb)) (add q2 (hf kb xb zb))).z)], .int .i64 ((refBoxesT (sub p0 xa) (sub p1 (hf ka xa ya)) (sub p2 (hf ka xa za)) (add p0 xa) (add p1 (hf ka xa ya)) (add p2 (hf ka xa za)) (sub q0 xb) (sub q1 (hf kb xb yb)) (sub q2 (hf kb xb zb)) (add q0 xb) (add q1 (hf kb xb yb)) (add q2 (hf kb xb zb))).d), .bool (refBoxesT (sub p0 xa) (sub p1 (hf ka xa ya)) (sub p2 (hf ka xa za)) (add p0 xa) (add p1 (hf ka xa ya)) (add p2 (hf ka xa za)) (sub q0 xb) (sub q1 (hf kb xb yb)) (sub q2 (hf kb xb zb)) (add q0 xb) (add q1 (hf kb xb yb)) (add q2 (hf kb xb zb))).ok]) ∧ Kept w w' := by
  have hb : (ka == 1) = false := by simp [h]
  have hb' : (kb == 1) = false := by simp [h']
  clear h h'
  go_enter Try.func53, Try.ntmps53
  go_wp2
  have HA : ShAAt (w.heap.size) (w.heap.size + 1) (w.heap.size + 1 + 1) (w.heap.size + 1 + 1 + 1) (.int .i64 ka) (.int .i64 xa) (.int .i64 ya) (.int .i64 za) (.int .i64 p0) (.int .i64 p1) (.int .i64 p2) (.int .i64 kb) (.int .i64 xb) (.int .i64 yb) (.int .i64 zb) (.int .i64 q0) (.int .i64 q1) (.int .i64 q2) ((((((w.alloc (.cells #[.int .i64 ka, .int .i64 xa, .int .i64 ya, .int .i64 za] 50)).alloc (.cells #[.int .i64 p0, .int .i64 p1, .int .i64 p2] 26)).alloc (.cells #[.int .i64 kb, .int .i64 xb, .int .i64 yb, .int .i64 zb] 50)).alloc (.cells #[.int .i64 q0, .int .i64 q1, .int .i64 q2] 26)).alloc (.cells #[.int .i64 0, .int .i64 0, .int .i64 0] 26)).alloc (.cells #[.int .i64 0, .int .i64 0, .int .i64 0] 26)) := by
    refine ⟨?_, ?_, ?_, ?_, ?_, ?_, ?_, ?_, ?_, ?_, ?_, ?_, ?_, ?_⟩ <;> go_simp
  have hkA : Kept w ((((((w.alloc (.cells #[.int .i64 ka, .int .i64 xa, .int .i64 ya, .int .i64 za] 50)).alloc (.cells #[.int .i64 p0, .int .i64 p1, .int .i64 p2] 26)).alloc (.cells #[.int .i64 kb, .int .i64 xb, .int .i64 yb, .int .i64 zb] 50)).alloc (.cells #[.int .i64 q0, .int .i64 q1, .int .i64 q2] 26)).alloc (.cells #[.int .i64 0, .int .i64 0, .int .i64 0] 26)).alloc (.cells #[.int .i64 0, .int .i64 0, .int .i64 0] 26)) := (((((((Kept.refl w).alloc _ _).alloc _ _).alloc _ _).alloc _ _).alloc _ _).alloc _ _)
  have WC : Aside (∀ i, i < 3 → ((((((w.alloc (.cells #[.int .i64 ka, .int .i64 xa, .int .i64 ya, .int .i64 za] 50)).alloc (.cells #[.int .i64 p0, .int .i64 p1, .int .i64 p2] 26)).alloc (.cells #[.int .i64 kb, .int .i64 xb, .int .i64 yb, .int .i64 zb] 50)).alloc (.cells #[.int .i64 q0, .int .i64 q1, .int .i64 q2] 26)).alloc (.cells #[.int .i64 0, .int .i64 0, .int .i64 0] 26)).alloc (.cells #[.int .i64 0, .int .i64 0, .int .i64 0] 26)).cell? ⟨w.heap.size + 1 + 1 + 1 + 1 + 1, i, none⟩ = some (.int .i64 0)) := by
    intro i hi
    obtain rfl | rfl | rfl : i = 0 ∨ i = 1 ∨ i = 2 := by omega
    all_goals go_simp
  have WF : Aside (∀ i, ((((((w.alloc (.cells #[.int .i64 ka, .int .i64 xa, .int .i64 ya, .int .i64 za] 50)).alloc (.cells #[.int .i64 p0, .int .i64 p1, .int .i64 p2] 26)).alloc (.cells #[.int .i64 kb, .int .i64 xb, .int .i64 yb, .int .i64 zb] 50)).alloc (.cells #[.int .i64 q0, .int .i64 q1, .int .i64 q2] 26)).alloc (.cells #[.int .i64 0, .int .i64 0, .int .i64 0] 26)).alloc (.cells #[.int .i64 0, .int .i64 0, .int .i64 0] 26)).frozen? ⟨w.heap.size + 1 + 1 + 1 + 1 + 1, i, none⟩ = false) := fun i => by go_simp
  have RC : Aside (∀ i, i < 3 → ((((((w.alloc (.cells #[.int .i64 ka, .int .i64 xa, .int .i64 ya, .int .i64 za] 50)).alloc (.cells #[.int .i64 p0, .int .i64 p1, .int .i64 p2] 26)).alloc (.cells #[.int .i64 kb, .int .i64 xb, .int .i64 yb, .int .i64 zb] 50)).alloc (.cells #[.int .i64 q0, .int .i64 q1, .int .i64 q2] 26)).alloc (.cells #[.int .i64 0, .int .i64 0, .int .i64 0] 26)).alloc (.cells #[.int .i64 0, .int .i64 0, .int .i64 0] 26)).cell? ⟨w.heap.size + 1 + 1 + 1 + 1, i, none⟩ = some (.int .i64 0)) := by
    intro i hi
    obtain rfl | rfl | rfl : i = 0 ∨ i = 1 ∨ i = 2 := by omega
    all_goals go_simp
  have RF : Aside (∀ i, ((((((w.alloc (.cells #[.int .i64 ka, .int .i64 xa, .int .i64 ya, .int .i64 za] 50)).alloc (.cells #[.int .i64 p0, .int .i64 p1, .int .i64 p2] 26)).alloc (.cells #[.int .i64 kb, .int .i64 xb, .int .i64 yb, .int .i64 zb] 50)).alloc (.cells #[.int .i64 q0, .int .i64 q1, .int .i64 q2] 26)).alloc (.cells #[.int .i64 0, .int .i64 0, .int .i64 0] 26)).alloc (.cells #[.int .i64 0, .int .i64 0, .int .i64 0] 26)).frozen? ⟨w.heap.size + 1 + 1 + 1 + 1, i, none⟩ = false) := fun i => by go_simp
  generalize ((((((w.alloc (.cells #[.int .i64 ka, .int .i64 xa, .int .i64 ya, .int .i64 za] 50)).alloc (.cells #[.int .i64 p0, .int .i64 p1, .int .i64 p2] 26)).alloc (.cells #[.int .i64 kb, .int .i64 xb, .int .i64 yb, .int .i64 zb] 50)).alloc (.cells #[.int .i64 q0, .int .i64 q1, .int .i64 q2] 26)).alloc (.cells #[.int .i64 0, .int .i64 0, .int .i64 0] 26)).alloc (.cells #[.int .i64 0, .int .i64 0, .int .i64 0] 26)) = wA at HA hkA WC WF RC RF ⊢
  go_cut [19, 20] from 21 (fun s19 s20 wc => ∃ p q, s19 = .pointer (some ⟨p, 0, none⟩) ∧ s20 = .pointer (some ⟨q, 0, none⟩) ∧ Kept wA wc ∧ wc.cell? ⟨p, 0, none⟩ = some (.int .i64 (sub p0 xa)) ∧ wc.cell? ⟨p, 1, none⟩ = some (.int .i64 (sub p1 (hf ka xa ya))) ∧ wc.cell? ⟨p, 2, none⟩ = some (.int .i64 (sub p2 (hf ka xa za))) ∧ wc.cell? ⟨p, 3, none⟩ = some (.int .i64 (add p0 xa)) ∧ wc.cell? ⟨p, 4, none⟩ = some (.int .i64 (add p1 (hf ka xa ya))) ∧ wc.cell? ⟨p, 5, none⟩ = some (.int .i64 (add p2 (hf ka xa za))) ∧ wc.cell? ⟨q, 0, none⟩ = some (.int .i64 (sub q0 xb)) ∧ wc.cell? ⟨q, 1, none⟩ = some (.int .i64 (sub q1 (hf kb xb yb))) ∧ wc.cell? ⟨q, 2, none⟩ = some (.int .i64 (sub q2 (hf kb xb zb))) ∧ wc.cell? ⟨q, 3, none⟩ = some (.int .i64 (add q0 xb)) ∧ wc.cell? ⟨q, 4, none⟩ = some (.int .i64 (add q1 (hf kb xb yb))) ∧ wc.cell? ⟨q, 5, none⟩ = some (.int .i64 (add q2 (hf kb xb zb))))
  case first =>
    refine wp_region_held_drew (S := (fun w' => Kept wA w' ∧ w'.cell? ⟨w.heap.size, 0, none⟩ = some (.int .i64 ka) ∧ w'.cell? ⟨w.heap.size, 1, none⟩ = some (.int .i64 xa) ∧ w'.cell? ⟨w.heap.size, 2, none⟩ = some (.int .i64 ya) ∧ w'.cell? ⟨w.heap.size, 3, none⟩ = some (.int .i64 za) ∧ w'.cell? ⟨w.heap.size + 1, 0, none⟩ = some (.int .i64 p0) ∧ w'.cell? ⟨w.heap.size + 1, 1, none⟩ = some (.int .i64 p1) ∧ w'.cell? ⟨w.heap.size + 1, 2, none⟩ = some (.int .i64 p2) ∧ w'.cell? ⟨w.heap.size + 1 + 1, 0, none⟩ = some (.int .i64 kb) ∧ w'.cell? ⟨w.heap.size + 1 + 1, 1, none⟩ = some (.int .i64 xb) ∧ w'.cell? ⟨w.heap.size + 1 + 1, 2, none⟩ = some (.int .i64 yb) ∧ w'.cell? ⟨w.heap.size + 1 + 1, 3, none⟩ = some (.int .i64 zb) ∧ w'.cell? ⟨w.heap.size + 1 + 1 + 1, 0, none⟩ = some (.int .i64 q0) ∧ w'.cell? ⟨w.heap.size + 1 + 1 + 1, 1, none⟩ = some (.int .i64 q1) ∧ w'.cell? ⟨w.heap.size + 1 + 1 + 1, 2, none⟩ = some (.int .i64 q2))) (by kernel_rfl) ?_ (fun hH0 => ?_)
    · (try dsimp only); exact ⟨(Kept.refl _).drew, HA.step (Kept.refl _).drew⟩
    refine wpAnyH_take (i := 0) (v := ?_) rfl (by kernel_rfl) (by kernel_rfl) (by kernel_rfl) (fun _ _ _ h => h) (Or.inl ⟨by rfl, ?_⟩) (by assumption) ?_
    rotate_left
    · intro w'' hSw; (try dsimp only at hSw); simp only [List.getElem_toArray, List.getElem_cons_succ, List.getElem_cons_zero]; (go_simp <;> with_reducible rfl)
    try simp only [Act.put, List.setIfInBounds_toArray, List.set_cons_zero, List.set_cons_succ, List.getElem_toArray, List.getElem_cons_succ, List.getElem_cons_zero]
    refine wpAnyH_take (i := 1) (v := ?_) rfl (by kernel_rfl) (by kernel_rfl) (by kernel_rfl) (fun _ _ _ h => h) (Or.inl ⟨by rfl, ?_⟩) (by assumption) ?_
    rotate_left
    · intro w'' hSw; (try dsimp only at hSw); simp only [List.getElem_toArray, List.getElem_cons_succ, List.getElem_cons_zero]; (go_simp <;> with_reducible rfl)
    try simp only [Act.put, List.setIfInBounds_toArray, List.set_cons_zero, List.set_cons_succ, List.getElem_toArray, List.getElem_cons_succ, List.getElem_cons_zero]
    refine wpAnyH_take (i := 3) (v := ?_) rfl (by kernel_rfl) (by kernel_rfl) (by kernel_rfl) (fun _ _ _ h => h) (Or.inl ⟨by rfl, ?_⟩) (by assumption) ?_
    rotate_left
    · intro w'' hSw; (try dsimp only at hSw); simp only [List.getElem_toArray, List.getElem_cons_succ, List.getElem_cons_zero]; (go_simp <;> with_reducible rfl)
    try simp only [Act.put, List.setIfInBounds_toArray, List.set_cons_zero, List.set_cons_succ, List.getElem_toArray, List.getElem_cons_succ, List.getElem_cons_zero]
    refine wpAnyH_take (i := 4) (v := ?_) rfl (by kernel_rfl) (by kernel_rfl) (by kernel_rfl) (fun _ _ _ h => h) (Or.inl ⟨by rfl, ?_⟩) (by assumption) ?_
    rotate_left
    · intro w'' hSw; (try dsimp only at hSw); simp only [List.getElem_toArray, List.getElem_cons_succ, List.getElem_cons_zero]; (go_simp <;> with_reducible rfl)
    try simp only [Act.put, List.setIfInBounds_toArray, List.set_cons_zero, List.set_cons_succ, List.getElem_toArray, List.getElem_cons_succ, List.getElem_cons_zero]
    refine wpAnyH_ready (rs := [2, 6, 7]) (by kernel_rfl) (by simp) ?_
    refine AllReadyH.cons rfl (fun K hK => ?_) (AllReadyH.cons rfl (fun K hK => ?_) (AllReadyH.cons rfl (fun K hK => ?_) AllReadyH.nil))
    · rw [if_pos (by rfl)]
      simp only [List.getElem_toArray, List.getElem_cons_succ, List.getElem_cons_zero]
      go_simp
      (go_at_call 51; refine (refAround_calls _ _ _ _ _ _ _ _).mono ?_; rintro e wc1 ⟨rfl, kc1⟩)
      try go_wp2_with fail
      refine hK.out _ _ ?_ (fun hH1 => ?_)
      · exact ⟨hH0.1.trans kc1, HA.step (hH0.1.trans kc1)⟩
      clear hK K hH0
      try simp only [Act.put, List.setIfInBounds_toArray, List.set_cons_zero, List.set_cons_succ, List.getElem_toArray, List.getElem_cons_succ, List.getElem_cons_zero]
      refine wpAnyH_ready (rs := [5, 6, 7]) (by kernel_rfl) (by simp) ?_
      refine AllReadyH.cons rfl (fun K hK => ?_) (AllReadyH.cons rfl (fun K hK => ?_) (AllReadyH.cons rfl (fun K hK => ?_) AllReadyH.nil))
      · rw [if_pos (by rfl)]
        simp only [List.getElem_toArray, List.getElem_cons_succ, List.getElem_cons_zero]
        go_simp
        (go_at_call 51; refine (refAround_calls _ _ _ _ _ _ _ _).mono ?_; rintro e wc2 ⟨rfl, kc2⟩)
        try go_wp2_with fail
        refine hK.out _ _ ?_ (fun hH2 => ?_)
        · exact ⟨hH1.1.trans kc2, HA.step (hH1.1.trans kc2)⟩
        clear hK K hH1
        try simp only [Act.put, List.setIfInBounds_toArray, List.set_cons_zero, List.set_cons_succ, List.getElem_toArray, List.getElem_cons_succ, List.getElem_cons_zero]
        refine wpAnyH_ready (rs := [6, 7]) (by kernel_rfl) (by simp) ?_
        refine AllReadyH.cons rfl (fun K hK => ?_) (AllReadyH.cons rfl (fun K hK => ?_) AllReadyH.nil)
        · rw [if_pos (by rfl)]
          simp only [List.getElem_toArray, List.getElem_cons_succ, List.getElem_cons_zero]
          go_simp
          refine hK.out _ _ ?_ (fun hH3 => ?_)
          · exact ⟨hH2.1.alloc _ _, HA.step (hH2.1.alloc _ _)⟩
          have hp : wA.heap.size ≤ wc2.heap.size := Nat.le_trans hH2.1.below.size (Nat.le_of_eq (by simp))
          have hP : Fr6 wA (wc2.heap.size) (wc2.alloc (.cells #[.int .i64 0, .int .i64 0, .int .i64 0, .int .i64 0, .int .i64 0, .int .i64 0] 38)) := by refine ⟨hH2.1.alloc _ _, cellV_of (v := .int .i64 0) ?_, cellV_of (v := .int .i64 0) ?_, cellV_of (v := .int .i64 0) ?_, cellV_of (v := .int .i64 0) ?_, cellV_of (v := .int .i64 0) ?_, cellV_of (v := .int .i64 0) ?_, ?_, ?_, ?_, ?_, ?_, ?_⟩ <;> go_simp
          clear hK K hH2
          try simp only [Act.put, List.setIfInBounds_toArray, List.set_cons_zero, List.set_cons_succ, List.getElem_toArray, List.getElem_cons_succ, List.getElem_cons_zero]
          refine wpAnyH_ready (rs := [7]) (by kernel_rfl) (by simp) ?_
          refine AllReadyH.cons rfl (fun K hK => ?_) AllReadyH.nil
          rw [if_pos (by rfl)]
          simp only [List.getElem_toArray, List.getElem_cons_succ, List.getElem_cons_zero]
          go_simp
          refine hK.out _ _ ?_ (fun hH4 => ?_)
          · exact ⟨hH3.1.alloc _ _, HA.step (hH3.1.alloc _ _)⟩
          have hq : wA.heap.size ≤ wc2.heap.size + 1 := Nat.le_trans hH3.1.below.size (Nat.le_of_eq (by simp))
          have hlt := World.block_lt_of_cell? _ _ hP.2.1
          simp at hlt
          have hne : wc2.heap.size ≠ wc2.heap.size + 1 := by omega
          clear hlt
          replace hP := hP.step ((Kept.refl _).alloc #[.int .i64 0, .int .i64 0, .int .i64 0, .int .i64 0, .int .i64 0, .int .i64 0] 38)
          have hQ : Fr6 wA (wc2.heap.size + 1) ((wc2.alloc (.cells #[.int .i64 0, .int .i64 0, .int .i64 0, .int .i64 0, .int .i64 0, .int .i64 0] 38)).alloc (.cells #[.int .i64 0, .int .i64 0, .int .i64 0, .int .i64 0, .int .i64 0, .int .i64 0] 38)) := by refine ⟨hH3.1.alloc _ _, cellV_of (v := .int .i64 0) ?_, cellV_of (v := .int .i64 0) ?_, cellV_of (v := .int .i64 0) ?_, cellV_of (v := .int .i64 0) ?_, cellV_of (v := .int .i64 0) ?_, cellV_of (v := .int .i64 0) ?_, ?_, ?_, ?_, ?_, ?_, ?_⟩ <;> go_simp
          clear hK K hH3
          try simp only [Act.put, List.setIfInBounds_toArray, List.set_cons_zero, List.set_cons_succ, List.getElem_toArray, List.getElem_cons_succ, List.getElem_cons_zero]
          generalize ((wc2.alloc (.cells #[.int .i64 0, .int .i64 0, .int .i64 0, .int .i64 0, .int .i64 0, .int .i64 0] 38)).alloc (.cells #[.int .i64 0, .int .i64 0, .int .i64 0, .int .i64 0, .int .i64 0, .int .i64 0] 38)) = wz5 at hH4 hP hQ ⊢
          have hP0 := hP
          obtain ⟨_, cp0, cp1, cp2, cp3, cp4, cp5, fp0, fp1, fp2, fp3, fp4, fp5⟩ := hP0
          have hY := hQ.past hne
          skip
          refine wpAnyH_ready (rs := [8]) (by kernel_rfl) (by simp) ?_
          refine AllReadyH.cons rfl (fun K hK => ?_) AllReadyH.nil
          rw [if_pos (by rfl)]
          simp only [List.getElem_toArray, List.getElem_cons_succ, List.getElem_cons_zero]
          go_simp
          refine hK.out _ _ ?_ (fun hS1 => ?_)
          · exact ⟨kept_set6 hH4.1 hp _ _ _ _ _ _, HA.step (kept_set6 hH4.1 hp _ _ _ _ _ _)⟩
          clear hK K
          try simp only [Act.put, List.setIfInBounds_toArray, List.set_cons_zero, List.set_cons_succ, List.getElem_toArray, List.getElem_cons_succ, List.getElem_cons_zero]
          refine wpAnyH_ready (rs := [9]) (by kernel_rfl) (by simp) ?_
          refine AllReadyH.cons rfl (fun K hK => ?_) AllReadyH.nil
          rw [if_pos (by rfl)]
          simp only [List.getElem_toArray, List.getElem_cons_succ, List.getElem_cons_zero]
          go_simp
          refine hK.out _ _ ?_ (fun hS2 => ?_)
          · exact ⟨kept_set6 hS1.1 hq _ _ _ _ _ _, HA.step (kept_set6 hS1.1 hq _ _ _ _ _ _)⟩
          clear hK K
          try simp only [Act.put, List.setIfInBounds_toArray, List.set_cons_zero, List.set_cons_succ, List.getElem_toArray, List.getElem_cons_succ, List.getElem_cons_zero]
          refine wpAnyH_done (by kernel_rfl) ?_ _
          go_wp2_with fail
          go_meet
          case rel =>
            obtain ⟨z0, z1, z2, z3, z4, z5, z6, z7, z8, z9, z10, z11⟩ := Fr6.two hP hQ hne (.int .i64 (sub p0 xa)) (.int .i64 (sub p1 (hf ka xa ya))) (.int .i64 (sub p2 (hf ka xa za))) (.int .i64 (add p0 xa)) (.int .i64 (add p1 (hf ka xa ya))) (.int .i64 (add p2 (hf ka xa za))) (.int .i64 (sub q0 xb)) (.int .i64 (sub q1 (hf kb xb yb))) (.int .i64 (sub q2 (hf kb xb zb))) (.int .i64 (add q0 xb)) (.int .i64 (add q1 (hf kb xb yb))) (.int .i64 (add q2 (hf kb xb zb)))
            exact ⟨wc2.heap.size, wc2.heap.size + 1, rfl, rfl, hS2.1, z0, z1, z2, z3, z4, z5, z6, z7, z8, z9, z10, z11⟩
        · rw [if_pos (by rfl)]
          simp only [List.getElem_toArray, List.getElem_cons_succ, List.getElem_cons_zero]
          go_simp
          refine hK.out _ _ ?_ (fun hH6 => ?_)
          · exact ⟨hH2.1.alloc _ _, HA.step (hH2.1.alloc _ _)⟩
          have hq : wA.heap.size ≤ wc2.heap.size := Nat.le_trans hH2.1.below.size (Nat.le_of_eq (by simp))
          have hQ : Fr6 wA (wc2.heap.size) (wc2.alloc (.cells #[.int .i64 0, .int .i64 0, .int .i64 0, .int .i64 0, .int .i64 0, .int .i64 0] 38)) := by refine ⟨hH2.1.alloc _ _, cellV_of (v := .int .i64 0) ?_, cellV_of (v := .int .i64 0) ?_, cellV_of (v := .int .i64 0) ?_, cellV_of (v := .int .i64 0) ?_, cellV_of (v := .int .i64 0) ?_, cellV_of (v := .int .i64 0) ?_, ?_, ?_, ?_, ?_, ?_, ?_⟩ <;> go_simp
          clear hK K hH2
          try simp only [Act.put, List.setIfInBounds_toArray, List.set_cons_zero, List.set_cons_succ, List.getElem_toArray, List.getElem_cons_succ, List.getElem_cons_zero]
          refine wpAnyH_ready (rs := [6]) (by kernel_rfl) (by simp) ?_
          refine AllReadyH.cons rfl (fun K hK => ?_) AllReadyH.nil
          rw [if_pos (by rfl)]
          simp only [List.getElem_toArray, List.getElem_cons_succ, List.getElem_cons_zero]
          go_simp
          refine hK.out _ _ ?_ (fun hH7 => ?_)
          · exact ⟨hH6.1.alloc _ _, HA.step (hH6.1.alloc _ _)⟩
          have hp : wA.heap.size ≤ wc2.heap.size + 1 := Nat.le_trans hH6.1.below.size (Nat.le_of_eq (by simp))
          have hlt := World.block_lt_of_cell? _ _ hQ.2.1
          simp at hlt
          have hne : wc2.heap.size + 1 ≠ wc2.heap.size := by omega
          clear hlt
          replace hQ := hQ.step ((Kept.refl _).alloc #[.int .i64 0, .int .i64 0, .int .i64 0, .int .i64 0, .int .i64 0, .int .i64 0] 38)
          have hP : Fr6 wA (wc2.heap.size + 1) ((wc2.alloc (.cells #[.int .i64 0, .int .i64 0, .int .i64 0, .int .i64 0, .int .i64 0, .int .i64 0] 38)).alloc (.cells #[.int .i64 0, .int .i64 0, .int .i64 0, .int .i64 0, .int .i64 0, .int .i64 0] 38)) := by refine ⟨hH6.1.alloc _ _, cellV_of (v := .int .i64 0) ?_, cellV_of (v := .int .i64 0) ?_, cellV_of (v := .int .i64 0) ?_, cellV_of (v := .int .i64 0) ?_, cellV_of (v := .int .i64 0) ?_, cellV_of (v := .int .i64 0) ?_, ?_, ?_, ?_, ?_, ?_, ?_⟩ <;> go_simp
          clear hK K hH6
          try simp only [Act.put, List.setIfInBounds_toArray, List.set_cons_zero, List.set_cons_succ, List.getElem_toArray, List.getElem_cons_succ, List.getElem_cons_zero]
          generalize ((wc2.alloc (.cells #[.int .i64 0, .int .i64 0, .int .i64 0, .int .i64 0, .int .i64 0, .int .i64 0] 38)).alloc (.cells #[.int .i64 0, .int .i64 0, .int .i64 0, .int .i64 0, .int .i64 0, .int .i64 0] 38)) = wz8 at hH7 hP hQ ⊢
          have hP0 := hP
          obtain ⟨_, cp0, cp1, cp2, cp3, cp4, cp5, fp0, fp1, fp2, fp3, fp4, fp5⟩ := hP0
          have hY := hQ.past hne
          skip
          refine wpAnyH_ready (rs := [8]) (by kernel_rfl) (by simp) ?_
          refine AllReadyH.cons rfl (fun K hK => ?_) AllReadyH.nil
          rw [if_pos (by rfl)]
          simp only [List.getElem_toArray, List.getElem_cons_succ, List.getElem_cons_zero]
          go_simp
          refine hK.out _ _ ?_ (fun hS1 => ?_)
          · exact ⟨kept_set6 hH7.1 hp _ _ _ _ _ _, HA.step (kept_set6 hH7.1 hp _ _ _ _ _ _)⟩
          clear hK K
          try simp only [Act.put, List.setIfInBounds_toArray, List.set_cons_zero, List.set_cons_succ, List.getElem_toArray, List.getElem_cons_succ, List.getElem_cons_zero]
          refine wpAnyH_ready (rs := [9]) (by kernel_rfl) (by simp) ?_
          refine AllReadyH.cons rfl (fun K hK => ?_) AllReadyH.nil
          rw [if_pos (by rfl)]
          simp only [List.getElem_toArray, List.getElem_cons_succ, List.getElem_cons_zero]
          go_simp
          refine hK.out _ _ ?_ (fun hS2 => ?_)
          · exact ⟨kept_set6 hS1.1 hq _ _ _ _ _ _, HA.step (kept_set6 hS1.1 hq _ _ _ _ _ _)⟩
          clear hK K
          try simp only [Act.put, List.setIfInBounds_toArray, List.set_cons_zero, List.set_cons_succ, List.getElem_toArray, List.getElem_cons_succ, List.getElem_cons_zero]
          refine wpAnyH_done (by kernel_rfl) ?_ _
          go_wp2_with fail
          go_meet
          case rel =>
            obtain ⟨z0, z1, z2, z3, z4, z5, z6, z7, z8, z9, z10, z11⟩ := Fr6.two hP hQ hne (.int .i64 (sub p0 xa)) (.int .i64 (sub p1 (hf ka xa ya))) (.int .i64 (sub p2 (hf ka xa za))) (.int .i64 (add p0 xa)) (.int .i64 (add p1 (hf ka xa ya))) (.int .i64 (add p2 (hf ka xa za))) (.int .i64 (sub q0 xb)) (.int .i64 (sub q1 (hf kb xb yb))) (.int .i64 (sub q2 (hf kb xb zb))) (.int .i64 (add q0 xb)) (.int .i64 (add q1 (hf kb xb yb))) (.int .i64 (add q2 (hf kb xb zb)))
            exact ⟨wc2.heap.size + 1, wc2.heap.size, rfl, rfl, hS2.1, z0, z1, z2, z3, z4, z5, z6, z7, z8, z9, z10, z11⟩
      · rw [if_pos (by rfl)]
        simp only [List.getElem_toArray, List.getElem_cons_succ, List.getElem_cons_zero]
        go_simp
        refine hK.out _ _ ?_ (fun hH9 => ?_)
        · exact ⟨hH1.1.alloc _ _, HA.step (hH1.1.alloc _ _)⟩
        have hp : wA.heap.size ≤ wc1.heap.size := Nat.le_trans hH1.1.below.size (Nat.le_of_eq (by simp))
        have hP : Fr6 wA (wc1.heap.size) (wc1.alloc (.cells #[.int .i64 0, .int .i64 0, .int .i64 0, .int .i64 0, .int .i64 0, .int .i64 0] 38)) := by refine ⟨hH1.1.alloc _ _, cellV_of (v := .int .i64 0) ?_, cellV_of (v := .int .i64 0) ?_, cellV_of (v := .int .i64 0) ?_, cellV_of (v := .int .i64 0) ?_, cellV_of (v := .int .i64 0) ?_, cellV_of (v := .int .i64 0) ?_, ?_, ?_, ?_, ?_, ?_, ?_⟩ <;> go_simp
        clear hK K hH1
        try simp only [Act.put, List.setIfInBounds_toArray, List.set_cons_zero, List.set_cons_succ, List.getElem_toArray, List.getElem_cons_succ, List.getElem_cons_zero]
        refine wpAnyH_ready (rs := [5, 7]) (by kernel_rfl) (by simp) ?_
        refine AllReadyH.cons rfl (fun K hK => ?_) (AllReadyH.cons rfl (fun K hK => ?_) AllReadyH.nil)
        · rw [if_pos (by rfl)]
          simp only [List.getElem_toArray, List.getElem_cons_succ, List.getElem_cons_zero]
          go_simp
          (go_at_call 51; refine (refAround_calls _ _ _ _ _ _ _ _).mono ?_; rintro e wc10 ⟨rfl, kc10⟩)
          try go_wp2_with fail
          refine hK.out _ _ ?_ (fun hH10 => ?_)
          · exact ⟨hH9.1.trans kc10, HA.step (hH9.1.trans kc10)⟩
          replace hP := hP.step kc10
          clear hK K hH9
          try simp only [Act.put, List.setIfInBounds_toArray, List.set_cons_zero, List.set_cons_succ, List.getElem_toArray, List.getElem_cons_succ, List.getElem_cons_zero]
          refine wpAnyH_ready (rs := [7]) (by kernel_rfl) (by simp) ?_
          refine AllReadyH.cons rfl (fun K hK => ?_) AllReadyH.nil
          rw [if_pos (by rfl)]
          simp only [List.getElem_toArray, List.getElem_cons_succ, List.getElem_cons_zero]
          go_simp
          refine hK.out _ _ ?_ (fun hH11 => ?_)
          · exact ⟨hH10.1.alloc _ _, HA.step (hH10.1.alloc _ _)⟩
          have hq : wA.heap.size ≤ wc10.heap.size := Nat.le_trans hH10.1.below.size (Nat.le_of_eq (by simp))
          have hlt := World.block_lt_of_cell? _ _ hP.2.1
          simp at hlt
          have hne : wc1.heap.size ≠ wc10.heap.size := by omega
          clear hlt
          replace hP := hP.step ((Kept.refl _).alloc #[.int .i64 0, .int .i64 0, .int .i64 0, .int .i64 0, .int .i64 0, .int .i64 0] 38)
          have hQ : Fr6 wA (wc10.heap.size) (wc10.alloc (.cells #[.int .i64 0, .int .i64 0, .int .i64 0, .int .i64 0, .int .i64 0, .int .i64 0] 38)) := by refine ⟨hH10.1.alloc _ _, cellV_of (v := .int .i64 0) ?_, cellV_of (v := .int .i64 0) ?_, cellV_of (v := .int .i64 0) ?_, cellV_of (v := .int .i64 0) ?_, cellV_of (v := .int .i64 0) ?_, cellV_of (v := .int .i64 0) ?_, ?_, ?_, ?_, ?_, ?_, ?_⟩ <;> go_simp
          clear hK K hH10
          try simp only [Act.put, List.setIfInBounds_toArray, List.set_cons_zero, List.set_cons_succ, List.getElem_toArray, List.getElem_cons_succ, List.getElem_cons_zero]
          generalize (wc10.alloc (.cells #[.int .i64 0, .int .i64 0, .int .i64 0, .int .i64 0, .int .i64 0, .int .i64 0] 38)) = wz12 at hH11 hP hQ ⊢
          have hP0 := hP
          obtain ⟨_, cp0, cp1, cp2, cp3, cp4, cp5, fp0, fp1, fp2, fp3, fp4, fp5⟩ := hP0
          have hY := hQ.past hne
          skip
          refine wpAnyH_ready (rs := [8]) (by kernel_rfl) (by simp) ?_
          refine AllReadyH.cons rfl (fun K hK => ?_) AllReadyH.nil
          rw [if_pos (by rfl)]
          simp only [List.getElem_toArray, List.getElem_cons_succ, List.getElem_cons_zero]
          go_simp
          refine hK.out _ _ ?_ (fun hS1 => ?_)
          · exact ⟨kept_set6 hH11.1 hp _ _ _ _ _ _, HA.step (kept_set6 hH11.1 hp _ _ _ _ _ _)⟩
          clear hK K
          try simp only [Act.put, List.setIfInBounds_toArray, List.set_cons_zero, List.set_cons_succ, List.getElem_toArray, List.getElem_cons_succ, List.getElem_cons_zero]
          refine wpAnyH_ready (rs := [9]) (by kernel_rfl) (by simp) ?_
          refine AllReadyH.cons rfl (fun K hK => ?_) AllReadyH.nil
          rw [if_pos (by rfl)]
          simp only [List.getElem_toArray, List.getElem_cons_succ, List.getElem_cons_zero]
          go_simp
          refine hK.out _ _ ?_ (fun hS2 => ?_)
          · exact ⟨kept_set6 hS1.1 hq _ _ _ _ _ _, HA.step (kept_set6 hS1.1 hq _ _ _ _ _ _)⟩
          clear hK K
          try simp only [Act.put, List.setIfInBounds_toArray, List.set_cons_zero, List.set_cons_succ, List.getElem_toArray, List.getElem_cons_succ, List.getElem_cons_zero]
          refine wpAnyH_done (by kernel_rfl) ?_ _
          go_wp2_with fail
          go_meet
          case rel =>
            obtain ⟨z0, z1, z2, z3, z4, z5, z6, z7, z8, z9, z10, z11⟩ := Fr6.two hP hQ hne (.int .i64 (sub p0 xa)) (.int .i64 (sub p1 (hf ka xa ya))) (.int .i64 (sub p2 (hf ka xa za))) (.int .i64 (add p0 xa)) (.int .i64 (add p1 (hf ka xa ya))) (.int .i64 (add p2 (hf ka xa za))) (.int .i64 (sub q0 xb)) (.int .i64 (sub q1 (hf kb xb yb))) (.int .i64 (sub q2 (hf kb xb zb))) (.int .i64 (add q0 xb)) (.int .i64 (add q1 (hf kb xb yb))) (.int .i64 (add q2 (hf kb xb zb)))
            exact ⟨wc1.heap.size, wc10.heap.size, rfl, rfl, hS2.1, z0, z1, z2, z3, z4, z5, z6, z7, z8, z9, z10, z11⟩
        · rw [if_pos (by rfl)]
          simp only [List.getElem_toArray, List.getElem_cons_succ, List.getElem_cons_zero]
          go_simp
          refine hK.out _ _ ?_ (fun hH13 => ?_)
          · exact ⟨hH9.1.alloc _ _, HA.step (hH9.1.alloc _ _)⟩
          have hq : wA.heap.size ≤ wc1.heap.size + 1 := Nat.le_trans hH9.1.below.size (Nat.le_of_eq (by simp))
          have hlt := World.block_lt_of_cell? _ _ hP.2.1
          simp at hlt
          have hne : wc1.heap.size ≠ wc1.heap.size + 1 := by omega
          clear hlt
          replace hP := hP.step ((Kept.refl _).alloc #[.int .i64 0, .int .i64 0, .int .i64 0, .int .i64 0, .int .i64 0, .int .i64 0] 38)
          have hQ : Fr6 wA (wc1.heap.size + 1) ((wc1.alloc (.cells #[.int .i64 0, .int .i64 0, .int .i64 0, .int .i64 0, .int .i64 0, .int .i64 0] 38)).alloc (.cells #[.int .i64 0, .int .i64 0, .int .i64 0, .int .i64 0, .int .i64 0, .int .i64 0] 38)) := by refine ⟨hH9.1.alloc _ _, cellV_of (v := .int .i64 0) ?_, cellV_of (v := .int .i64 0) ?_, cellV_of (v := .int .i64 0) ?_, cellV_of (v := .int .i64 0) ?_, cellV_of (v := .int .i64 0) ?_, cellV_of (v := .int .i64 0) ?_, ?_, ?_, ?_, ?_, ?_, ?_⟩ <;> go_simp
          clear hK K hH9
          try simp only [Act.put, List.setIfInBounds_toArray, List.set_cons_zero, List.set_cons_succ, List.getElem_toArray, List.getElem_cons_succ, List.getElem_cons_zero]
          refine wpAnyH_ready (rs := [5]) (by kernel_rfl) (by simp) ?_
          refine AllReadyH.cons rfl (fun K hK => ?_) AllReadyH.nil
          rw [if_pos (by rfl)]
          simp only [List.getElem_toArray, List.getElem_cons_succ, List.getElem_cons_zero]
          go_simp
          (go_at_call 51; refine (refAround_calls _ _ _ _ _ _ _ _).mono ?_; rintro e wc14 ⟨rfl, kc14⟩)
          try go_wp2_with fail
          refine hK.out _ _ ?_ (fun hH14 => ?_)
          · exact ⟨hH13.1.trans kc14, HA.step (hH13.1.trans kc14)⟩
          replace hP := hP.step kc14
          replace hQ := hQ.step kc14
          clear hK K hH13
          try simp only [Act.put, List.setIfInBounds_toArray, List.set_cons_zero, List.set_cons_succ, List.getElem_toArray, List.getElem_cons_succ, List.getElem_cons_zero]
          have hP0 := hP
          obtain ⟨_, cp0, cp1, cp2, cp3, cp4, cp5, fp0, fp1, fp2, fp3, fp4, fp5⟩ := hP0
          have hY := hQ.past hne
          skip
          refine wpAnyH_ready (rs := [8]) (by kernel_rfl) (by simp) ?_
          refine AllReadyH.cons rfl (fun K hK => ?_) AllReadyH.nil
          rw [if_pos (by rfl)]
          simp only [List.getElem_toArray, List.getElem_cons_succ, List.getElem_cons_zero]
          go_simp
          refine hK.out _ _ ?_ (fun hS1 => ?_)
          · exact ⟨kept_set6 hH14.1 hp _ _ _ _ _ _, HA.step (kept_set6 hH14.1 hp _ _ _ _ _ _)⟩
          clear hK K
          try simp only [Act.put, List.setIfInBounds_toArray, List.set_cons_zero, List.set_cons_succ, List.getElem_toArray, List.getElem_cons_succ, List.getElem_cons_zero]
          refine wpAnyH_ready (rs := [9]) (by kernel_rfl) (by simp) ?_
          refine AllReadyH.cons rfl (fun K hK => ?_) AllReadyH.nil
          rw [if_pos (by rfl)]
          simp only [List.getElem_toArray, List.getElem_cons_succ, List.getElem_cons_zero]
          go_simp
          refine hK.out _ _ ?_ (fun hS2 => ?_)
          · exact ⟨kept_set6 hS1.1 hq _ _ _ _ _ _, HA.step (kept_set6 hS1.1 hq _ _ _ _ _ _)⟩
          clear hK K
          try simp only [Act.put, List.setIfInBounds_toArray, List.set_cons_zero, List.set_cons_succ, List.getElem_toArray, List.getElem_cons_succ, List.getElem_cons_zero]
          refine wpAnyH_done (by kernel_rfl) ?_ _
          go_wp2_with fail
          go_meet
          case rel =>
            obtain ⟨z0, z1, z2, z3, z4, z5, z6, z7, z8, z9, z10, z11⟩ := Fr6.two hP hQ hne (.int .i64 (sub p0 xa)) (.int .i64 (sub p1 (hf ka xa ya))) (.int .i64 (sub p2 (hf ka xa za))) (.int .i64 (add p0 xa)) (.int .i64 (add p1 (hf ka xa ya))) (.int .i64 (add p2 (hf ka xa za))) (.int .i64 (sub q0 xb)) (.int .i64 (sub q1 (hf kb xb yb))) (.int .i64 (sub q2 (hf kb xb zb))) (.int .i64 (add q0 xb)) (.int .i64 (add q1 (hf kb xb yb))) (.int .i64 (add q2 (hf kb xb zb)))
            exact ⟨wc1.heap.size, wc1.heap.size + 1, rfl, rfl, hS2.1, z0, z1, z2, z3, z4, z5, z6, z7, z8, z9, z10, z11⟩
      · rw [if_pos (by rfl)]
        simp only [List.getElem_toArray, List.getElem_cons_succ, List.getElem_cons_zero]
        go_simp
        refine hK.out _ _ ?_ (fun hH15 => ?_)
        · exact ⟨hH1.1.alloc _ _, HA.step (hH1.1.alloc _ _)⟩
        have hq : wA.heap.size ≤ wc1.heap.size := Nat.le_trans hH1.1.below.size (Nat.le_of_eq (by simp))
        have hQ : Fr6 wA (wc1.heap.size) (wc1.alloc (.cells #[.int .i64 0, .int .i64 0, .int .i64 0, .int .i64 0, .int .i64 0, .int .i64 0] 38)) := by refine ⟨hH1.1.alloc _ _, cellV_of (v := .int .i64 0) ?_, cellV_of (v := .int .i64 0) ?_, cellV_of (v := .int .i64 0) ?_, cellV_of (v := .int .i64 0) ?_, cellV_of (v := .int .i64 0) ?_, cellV_of (v := .int .i64 0) ?_, ?_, ?_, ?_, ?_, ?_, ?_⟩ <;> go_simp
        clear hK K hH1
        try simp only [Act.put, List.setIfInBounds_toArray, List.set_cons_zero, List.set_cons_succ, List.getElem_toArray, List.getElem_cons_succ, List.getElem_cons_zero]
        refine wpAnyH_ready (rs := [5, 6]) (by kernel_rfl) (by simp) ?_
        refine AllReadyH.cons rfl (fun K hK => ?_) (AllReadyH.cons rfl (fun K hK => ?_) AllReadyH.nil)
        · rw [if_pos (by rfl)]
          simp only [List.getElem_toArray, List.getElem_cons_succ, List.getElem_cons_zero]
          go_simp
          (go_at_call 51; refine (refAround_calls _ _ _ _ _ _ _ _).mono ?_; rintro e wc16 ⟨rfl, kc16⟩)
          try go_wp2_with fail
          refine hK.out _ _ ?_ (fun hH16 => ?_)
          · exact ⟨hH15.1.trans kc16, HA.step (hH15.1.trans kc16)⟩
          replace hQ := hQ.step kc16
          clear hK K hH15
          try simp only [Act.put, List.setIfInBounds_toArray, List.set_cons_zero, List.set_cons_succ, List.getElem_toArray, List.getElem_cons_succ, List.getElem_cons_zero]
          refine wpAnyH_ready (rs := [6]) (by kernel_rfl) (by simp) ?_
          refine AllReadyH.cons rfl (fun K hK => ?_) AllReadyH.nil
          rw [if_pos (by rfl)]
          simp only [List.getElem_toArray, List.getElem_cons_succ, List.getElem_cons_zero]
          go_simp
          refine hK.out _ _ ?_ (fun hH17 => ?_)
          · exact ⟨hH16.1.alloc _ _, HA.step (hH16.1.alloc _ _)⟩
          have hp : wA.heap.size ≤ wc16.heap.size := Nat.le_trans hH16.1.below.size (Nat.le_of_eq (by simp))
          have hlt := World.block_lt_of_cell? _ _ hQ.2.1
          simp at hlt
          have hne : wc16.heap.size ≠ wc1.heap.size := by omega
          clear hlt
          replace hQ := hQ.step ((Kept.refl _).alloc #[.int .i64 0, .int .i64 0, .int .i64 0, .int .i64 0, .int .i64 0, .int .i64 0] 38)
          have hP : Fr6 wA (wc16.heap.size) (wc16.alloc (.cells #[.int .i64 0, .int .i64 0, .int .i64 0, .int .i64 0, .int .i64 0, .int .i64 0] 38)) := by refine ⟨hH16.1.alloc _ _, cellV_of (v := .int .i64 0) ?_, cellV_of (v := .int .i64 0) ?_, cellV_of (v := .int .i64 0) ?_, cellV_of (v := .int .i64 0) ?_, cellV_of (v := .int .i64 0) ?_, cellV_of (v := .int .i64 0) ?_, ?_, ?_, ?_, ?_, ?_, ?_⟩ <;> go_simp
          clear hK K hH16
          try simp only [Act.put, List.setIfInBounds_toArray, List.set_cons_zero, List.set_cons_succ, List.getElem_toArray, List.getElem_cons_succ, List.getElem_cons_zero]
          generalize (wc16.alloc (.cells #[.int .i64 0, .int .i64 0, .int .i64 0, .int .i64 0, .int .i64 0, .int .i64 0] 38)) = wz18 at hH17 hP hQ ⊢
          have hP0 := hP
          obtain ⟨_, cp0, cp1, cp2, cp3, cp4, cp5, fp0, fp1, fp2, fp3, fp4, fp5⟩ := hP0
          have hY := hQ.past hne
          skip
          refine wpAnyH_ready (rs := [8]) (by kernel_rfl) (by simp) ?_
          refine AllReadyH.cons rfl (fun K hK => ?_) AllReadyH.nil
          rw [if_pos (by rfl)]
          simp only [List.getElem_toArray, List.getElem_cons_succ, List.getElem_cons_zero]
          go_simp
          refine hK.out _ _ ?_ (fun hS1 => ?_)
          · exact ⟨kept_set6 hH17.1 hp _ _ _ _ _ _, HA.step (kept_set6 hH17.1 hp _ _ _ _ _ _)⟩
          clear hK K
          try simp only [Act.put, List.setIfInBounds_toArray, List.set_cons_zero, List.set_cons_succ, List.getElem_toArray, List.getElem_cons_succ, List.getElem_cons_zero]
          refine wpAnyH_ready (rs := [9]) (by kernel_rfl) (by simp) ?_
          refine AllReadyH.cons rfl (fun K hK => ?_) AllReadyH.nil
          rw [if_pos (by rfl)]
          simp only [List.getElem_toArray, List.getElem_cons_succ, List.getElem_cons_zero]
          go_simp
          refine hK.out _ _ ?_ (fun hS2 => ?_)
          · exact ⟨kept_set6 hS1.1 hq _ _ _ _ _ _, HA.step (kept_set6 hS1.1 hq _ _ _ _ _ _)⟩
          clear hK K
          try simp only [Act.put, List.setIfInBounds_toArray, List.set_cons_zero, List.set_cons_succ, List.getElem_toArray, List.getElem_cons_succ, List.getElem_cons_zero]
          refine wpAnyH_done (by kernel_rfl) ?_ _
          go_wp2_with fail
          go_meet
          case rel =>
            obtain ⟨z0, z1, z2, z3, z4, z5, z6, z7, z8, z9, z10, z11⟩ := Fr6.two hP hQ hne (.int .i64 (sub p0 xa)) (.int .i64 (sub p1 (hf ka xa ya))) (.int .i64 (sub p2 (hf ka xa za))) (.int .i64 (add p0 xa)) (.int .i64 (add p1 (hf ka xa ya))) (.int .i64 (add p2 (hf ka xa za))) (.int .i64 (sub q0 xb)) (.int .i64 (sub q1 (hf kb xb yb))) (.int .i64 (sub q2 (hf kb xb zb))) (.int .i64 (add q0 xb)) (.int .i64 (add q1 (hf kb xb yb))) (.int .i64 (add q2 (hf kb xb zb)))
            exact ⟨wc16.heap.size, wc1.heap.size, rfl, rfl, hS2.1, z0, z1, z2, z3, z4, z5, z6, z7, z8, z9, z10, z11⟩
        · rw [if_pos (by rfl)]
          simp only [List.getElem_toArray, List.getElem_cons_succ, List.getElem_cons_zero]
          go_simp
          refine hK.out _ _ ?_ (fun hH19 => ?_)
          · exact ⟨hH15.1.alloc _ _, HA.step (hH15.1.alloc _ _)⟩
          have hp : wA.heap.size ≤ wc1.heap.size + 1 := Nat.le_trans hH15.1.below.size (Nat.le_of_eq (by simp))
          have hlt := World.block_lt_of_cell? _ _ hQ.2.1
          simp at hlt
          have hne : wc1.heap.size + 1 ≠ wc1.heap.size := by omega
          clear hlt
          replace hQ := hQ.step ((Kept.refl _).alloc #[.int .i64 0, .int .i64 0, .int .i64 0, .int .i64 0, .int .i64 0, .int .i64 0] 38)
          have hP : Fr6 wA (wc1.heap.size + 1) ((wc1.alloc (.cells #[.int .i64 0, .int .i64 0, .int .i64 0, .int .i64 0, .int .i64 0, .int .i64 0] 38)).alloc (.cells #[.int .i64 0, .int .i64 0, .int .i64 0, .int .i64 0, .int .i64 0, .int .i64 0] 38)) := by refine ⟨hH15.1.alloc _ _, cellV_of (v := .int .i64 0) ?_, cellV_of (v := .int .i64 0) ?_, cellV_of (v := .int .i64 0) ?_, cellV_of (v := .int .i64 0) ?_, cellV_of (v := .int .i64 0) ?_, cellV_of (v := .int .i64 0) ?_, ?_, ?_, ?_, ?_, ?_, ?_⟩ <;> go_simp
          clear hK K hH15
          try simp only [Act.put, List.setIfInBounds_toArray, List.set_cons_zero, List.set_cons_succ, List.getElem_toArray, List.getElem_cons_succ, List.getElem_cons_zero]
          refine wpAnyH_ready (rs := [5]) (by kernel_rfl) (by simp) ?_
          refine AllReadyH.cons rfl (fun K hK => ?_) AllReadyH.nil
          rw [if_pos (by rfl)]
          simp only [List.getElem_toArray, List.getElem_cons_succ, List.getElem_cons_zero]
          go_simp
          (go_at_call 51; refine (refAround_calls _ _ _ _ _ _ _ _).mono ?_; rintro e wc20 ⟨rfl, kc20⟩)
          try go_wp2_with fail
          refine hK.out _ _ ?_ (fun hH20 => ?_)
          · exact ⟨hH19.1.trans kc20, HA.step (hH19.1.trans kc20)⟩
          replace hP := hP.step kc20
          replace hQ := hQ.step kc20
          clear hK K hH19
          try simp only [Act.put, List.setIfInBounds_toArray, List.set_cons_zero, List.set_cons_succ, List.getElem_toArray, List.getElem_cons_succ, List.getElem_cons_zero]
          have hP0 := hP
          obtain ⟨_, cp0, cp1, cp2, cp3, cp4, cp5, fp0, fp1, fp2, fp3, fp4, fp5⟩ := hP0
          have hY := hQ.past hne
          skip
          refine wpAnyH_ready (rs := [8]) (by kernel_rfl) (by simp) ?_
          refine AllReadyH.cons rfl (fun K hK => ?_) AllReadyH.nil
          rw [if_pos (by rfl)]
          simp only [List.getElem_toArray, List.getElem_cons_succ, List.getElem_cons_zero]
          go_simp
          refine hK.out _ _ ?_ (fun hS1 => ?_)
          · exact ⟨kept_set6 hH20.1 hp _ _ _ _ _ _, HA.step (kept_set6 hH20.1 hp _ _ _ _ _ _)⟩
          clear hK K
          try simp only [Act.put, List.setIfInBounds_toArray, List.set_cons_zero, List.set_cons_succ, List.getElem_toArray, List.getElem_cons_succ, List.getElem_cons_zero]
          refine wpAnyH_ready (rs := [9]) (by kernel_rfl) (by simp) ?_
          refine AllReadyH.cons rfl (fun K hK => ?_) AllReadyH.nil
          rw [if_pos (by rfl)]
          simp only [List.getElem_toArray, List.getElem_cons_succ, List.getElem_cons_zero]
          go_simp
          refine hK.out _ _ ?_ (fun hS2 => ?_)
          · exact ⟨kept_set6 hS1.1 hq _ _ _ _ _ _, HA.step (kept_set6 hS1.1 hq _ _ _ _ _ _)⟩
          clear hK K
          try simp only [Act.put, List.setIfInBounds_toArray, List.set_cons_zero, List.set_cons_succ, List.getElem_toArray, List.getElem_cons_succ, List.getElem_cons_zero]
          refine wpAnyH_done (by kernel_rfl) ?_ _
          go_wp2_with fail
          go_meet
          case rel =>
            obtain ⟨z0, z1, z2, z3, z4, z5, z6, z7, z8, z9, z10, z11⟩ := Fr6.two hP hQ hne (.int .i64 (sub p0 xa)) (.int .i64 (sub p1 (hf ka xa ya))) (.int .i64 (sub p2 (hf ka xa za))) (.int .i64 (add p0 xa)) (.int .i64 (add p1 (hf ka xa ya))) (.int .i64 (add p2 (hf ka xa za))) (.int .i64 (sub q0 xb)) (.int .i64 (sub q1 (hf kb xb yb))) (.int .i64 (sub q2 (hf kb xb zb))) (.int .i64 (add q0 xb)) (.int .i64 (add q1 (hf kb xb yb))) (.int .i64 (add q2 (hf kb xb zb)))
            exact ⟨wc1.heap.size + 1, wc1.heap.size, rfl, rfl, hS2.1, z0, z1, z2, z3, z4, z5, z6, z7, z8, z9, z10, z11⟩
    · rw [if_pos (by rfl)]
      simp only [List.getElem_toArray, List.getElem_cons_succ, List.getElem_cons_zero]
      go_simp
      refine hK.out _ _ ?_ (fun hH21 => ?_)
      · exact ⟨hH0.1.alloc _ _, HA.step (hH0.1.alloc _ _)⟩
      have hp : wA.heap.size ≤ wA.heap.size := Nat.le_trans hH0.1.below.size (Nat.le_of_eq (by simp))
      have hP : Fr6 wA (wA.heap.size) (wA.drew.alloc (.cells #[.int .i64 0, .int .i64 0, .int .i64 0, .int .i64 0, .int .i64 0, .int .i64 0] 38)) := by refine ⟨hH0.1.alloc _ _, cellV_of (v := .int .i64 0) ?_, cellV_of (v := .int .i64 0) ?_, cellV_of (v := .int .i64 0) ?_, cellV_of (v := .int .i64 0) ?_, cellV_of (v := .int .i64 0) ?_, cellV_of (v := .int .i64 0) ?_, ?_, ?_, ?_, ?_, ?_, ?_⟩ <;> go_simp
      clear hK K hH0
      try simp only [Act.put, List.setIfInBounds_toArray, List.set_cons_zero, List.set_cons_succ, List.getElem_toArray, List.getElem_cons_succ, List.getElem_cons_zero]
      refine wpAnyH_ready (rs := [2, 7]) (by kernel_rfl) (by simp) ?_
      refine AllReadyH.cons rfl (fun K hK => ?_) (AllReadyH.cons rfl (fun K hK => ?_) AllReadyH.nil)
      · rw [if_pos (by rfl)]
        simp only [List.getElem_toArray, List.getElem_cons_succ, List.getElem_cons_zero]
        go_simp
        (go_at_call 51; refine (refAround_calls _ _ _ _ _ _ _ _).mono ?_; rintro e wc22 ⟨rfl, kc22⟩)
        try go_wp2_with fail
        refine hK.out _ _ ?_ (fun hH22 => ?_)
        · exact ⟨hH21.1.trans kc22, HA.step (hH21.1.trans kc22)⟩
        replace hP := hP.step kc22
        clear hK K hH21
        try simp only [Act.put, List.setIfInBounds_toArray, List.set_cons_zero, List.set_cons_succ, List.getElem_toArray, List.getElem_cons_succ, List.getElem_cons_zero]
        refine wpAnyH_ready (rs := [5, 7]) (by kernel_rfl) (by simp) ?_
        refine AllReadyH.cons rfl (fun K hK => ?_) (AllReadyH.cons rfl (fun K hK => ?_) AllReadyH.nil)
        · rw [if_pos (by rfl)]
          simp only [List.getElem_toArray, List.getElem_cons_succ, List.getElem_cons_zero]
          go_simp
          (go_at_call 51; refine (refAround_calls _ _ _ _ _ _ _ _).mono ?_; rintro e wc23 ⟨rfl, kc23⟩)
          try go_wp2_with fail
          refine hK.out _ _ ?_ (fun hH23 => ?_)
          · exact ⟨hH22.1.trans kc23, HA.step (hH22.1.trans kc23)⟩
          replace hP := hP.step kc23
          clear hK K hH22
          try simp only [Act.put, List.setIfInBounds_toArray, List.set_cons_zero, List.set_cons_succ, List.getElem_toArray, List.getElem_cons_succ, List.getElem_cons_zero]
          refine wpAnyH_ready (rs := [7]) (by kernel_rfl) (by simp) ?_
          refine AllReadyH.cons rfl (fun K hK => ?_) AllReadyH.nil
          rw [if_pos (by rfl)]
          simp only [List.getElem_toArray, List.getElem_cons_succ, List.getElem_cons_zero]
          go_simp
          refine hK.out _ _ ?_ (fun hH24 => ?_)
          · exact ⟨hH23.1.alloc _ _, HA.step (hH23.1.alloc _ _)⟩
          have hq : wA.heap.size ≤ wc23.heap.size := Nat.le_trans hH23.1.below.size (Nat.le_of_eq (by simp))
          have hlt := World.block_lt_of_cell? _ _ hP.2.1
          simp at hlt
          have hne : wA.heap.size ≠ wc23.heap.size := by omega
          clear hlt
          replace hP := hP.step ((Kept.refl _).alloc #[.int .i64 0, .int .i64 0, .int .i64 0, .int .i64 0, .int .i64 0, .int .i64 0] 38)
          have hQ : Fr6 wA (wc23.heap.size) (wc23.alloc (.cells #[.int .i64 0, .int .i64 0, .int .i64 0, .int .i64 0, .int .i64 0, .int .i64 0] 38)) := by refine ⟨hH23.1.alloc _ _, cellV_of (v := .int .i64 0) ?_, cellV_of (v := .int .i64 0) ?_, cellV_of (v := .int .i64 0) ?_, cellV_of (v := .int .i64 0) ?_, cellV_of (v := .int .i64 0) ?_, cellV_of (v := .int .i64 0) ?_, ?_, ?_, ?_, ?_, ?_, ?_⟩ <;> go_simp
          clear hK K hH23
          try simp only [Act.put, List.setIfInBounds_toArray, List.set_cons_zero, List.set_cons_succ, List.getElem_toArray, List.getElem_cons_succ, List.getElem_cons_zero]
          generalize (wc23.alloc (.cells #[.int .i64 0, .int .i64 0, .int .i64 0, .int .i64 0, .int .i64 0, .int .i64 0] 38)) = wz25 at hH24 hP hQ ⊢
          have hP0 := hP
          obtain ⟨_, cp0, cp1, cp2, cp3, cp4, cp5, fp0, fp1, fp2, fp3, fp4, fp5⟩ := hP0
          have hY := hQ.past hne
          skip
          refine wpAnyH_ready (rs := [8]) (by kernel_rfl) (by simp) ?_
          refine AllReadyH.cons rfl (fun K hK => ?_) AllReadyH.nil
          rw [if_pos (by rfl)]
          simp only [List.getElem_toArray, List.getElem_cons_succ, List.getElem_cons_zero]
          go_simp
          refine hK.out _ _ ?_ (fun hS1 => ?_)
          · exact ⟨kept_set6 hH24.1 hp _ _ _ _ _ _, HA.step (kept_set6 hH24.1 hp _ _ _ _ _ _)⟩
          clear hK K
          try simp only [Act.put, List.setIfInBounds_toArray, List.set_cons_zero, List.set_cons_succ, List.getElem_toArray, List.getElem_cons_succ, List.getElem_cons_zero]
          refine wpAnyH_ready (rs := [9]) (by kernel_rfl) (by simp) ?_
          refine AllReadyH.cons rfl (fun K hK => ?_) AllReadyH.nil
          rw [if_pos (by rfl)]
          simp only [List.getElem_toArray, List.getElem_cons_succ, List.getElem_cons_zero]
          go_simp
          refine hK.out _ _ ?_ (fun hS2 => ?_)
          · exact ⟨kept_set6 hS1.1 hq _ _ _ _ _ _, HA.step (kept_set6 hS1.1 hq _ _ _ _ _ _)⟩
          clear hK K
          try simp only [Act.put, List.setIfInBounds_toArray, List.set_cons_zero, List.set_cons_succ, List.getElem_toArray, List.getElem_cons_succ, List.getElem_cons_zero]
          refine wpAnyH_done (by kernel_rfl) ?_ _
          go_wp2_with fail
          go_meet
          case rel =>
            obtain ⟨z0, z1, z2, z3, z4, z5, z6, z7, z8, z9, z10, z11⟩ := Fr6.two hP hQ hne (.int .i64 (sub p0 xa)) (.int .i64 (sub p1 (hf ka xa ya))) (.int .i64 (sub p2 (hf ka xa za))) (.int .i64 (add p0 xa)) (.int .i64 (add p1 (hf ka xa ya))) (.int .i64 (add p2 (hf ka xa za))) (.int .i64 (sub q0 xb)) (.int .i64 (sub q1 (hf kb xb yb))) (.int .i64 (sub q2 (hf kb xb zb))) (.int .i64 (add q0 xb)) (.int .i64 (add q1 (hf kb xb yb))) (.int .i64 (add q2 (hf kb xb zb)))
            exact ⟨wA.heap.size, wc23.heap.size, rfl, rfl, hS2.1, z0, z1, z2, z3, z4, z5, z6, z7, z8, z9, z10, z11⟩
        · rw [if_pos (by rfl)]
          simp only [List.getElem_toArray, List.getElem_cons_succ, List.getElem_cons_zero]
          go_simp
          refine hK.out _ _ ?_ (fun hH26 => ?_)
          · exact ⟨hH22.1.alloc _ _, HA.step (hH22.1.alloc _ _)⟩
          have hq : wA.heap.size ≤ wc22.heap.size := Nat.le_trans hH22.1.below.size (Nat.le_of_eq (by simp))
          have hlt := World.block_lt_of_cell? _ _ hP.2.1
          simp at hlt
          have hne : wA.heap.size ≠ wc22.heap.size := by omega
          clear hlt
          replace hP := hP.step ((Kept.refl _).alloc #[.int .i64 0, .int .i64 0, .int .i64 0, .int .i64 0, .int .i64 0, .int .i64 0] 38)
          have hQ : Fr6 wA (wc22.heap.size) (wc22.alloc (.cells #[.int .i64 0, .int .i64 0, .int .i64 0, .int .i64 0, .int .i64 0, .int .i64 0] 38)) := by refine ⟨hH22.1.alloc _ _, cellV_of (v := .int .i64 0) ?_, cellV_of (v := .int .i64 0) ?_, cellV_of (v := .int .i64 0) ?_, cellV_of (v := .int .i64 0) ?_, cellV_of (v := .int .i64 0) ?_, cellV_of (v := .int .i64 0) ?_, ?_, ?_, ?_, ?_, ?_, ?_⟩ <;> go_simp
          clear hK K hH22
          try simp only [Act.put, List.setIfInBounds_toArray, List.set_cons_zero, List.set_cons_succ, List.getElem_toArray, List.getElem_cons_succ, List.getElem_cons_zero]
          refine wpAnyH_ready (rs := [5]) (by kernel_rfl) (by simp) ?_
          refine AllReadyH.cons rfl (fun K hK => ?_) AllReadyH.nil
          rw [if_pos (by rfl)]
          simp only [List.getElem_toArray, List.getElem_cons_succ, List.getElem_cons_zero]
          go_simp
          (go_at_call 51; refine (refAround_calls _ _ _ _ _ _ _ _).mono ?_; rintro e wc27 ⟨rfl, kc27⟩)
          try go_wp2_with fail
          refine hK.out _ _ ?_ (fun hH27 => ?_)
          · exact ⟨hH26.1.trans kc27, HA.step (hH26.1.trans kc27)⟩
          replace hP := hP.step kc27
          replace hQ := hQ.step kc27
          clear hK K hH26
          try simp only [Act.put, List.setIfInBounds_toArray, List.set_cons_zero, List.set_cons_succ, List.getElem_toArray, List.getElem_cons_succ, List.getElem_cons_zero]
          have hP0 := hP
          obtain ⟨_, cp0, cp1, cp2, cp3, cp4, cp5, fp0, fp1, fp2, fp3, fp4, fp5⟩ := hP0
          have hY := hQ.past hne
          skip
          refine wpAnyH_ready (rs := [8]) (by kernel_rfl) (by simp) ?_
          refine AllReadyH.cons rfl (fun K hK => ?_) AllReadyH.nil
          rw [if_pos (by rfl)]
          simp only [List.getElem_toArray, List.getElem_cons_succ, List.getElem_cons_zero]
          go_simp
          refine hK.out _ _ ?_ (fun hS1 => ?_)
          · exact ⟨kept_set6 hH27.1 hp _ _ _ _ _ _, HA.step (kept_set6 hH27.1 hp _ _ _ _ _ _)⟩
          clear hK K
          try simp only [Act.put, List.setIfInBounds_toArray, List.set_cons_zero, List.set_cons_succ, List.getElem_toArray, List.getElem_cons_succ, List.getElem_cons_zero]
          refine wpAnyH_ready (rs := [9]) (by kernel_rfl) (by simp) ?_
          refine AllReadyH.cons rfl (fun K hK => ?_) AllReadyH.nil
          rw [if_pos (by rfl)]
          simp only [List.getElem_toArray, List.getElem_cons_succ, List.getElem_cons_zero]
          go_simp
          refine hK.out _ _ ?_ (fun hS2 => ?_)
          · exact ⟨kept_set6 hS1.1 hq _ _ _ _ _ _, HA.step (kept_set6 hS1.1 hq _ _ _ _ _ _)⟩
          clear hK K
          try simp only [Act.put, List.setIfInBounds_toArray, List.set_cons_zero, List.set_cons_succ, List.getElem_toArray, List.getElem_cons_succ, List.getElem_cons_zero]
          refine wpAnyH_done (by kernel_rfl) ?_ _
          go_wp2_with fail
          go_meet
          case rel =>
            obtain ⟨z0, z1, z2, z3, z4, z5, z6, z7, z8, z9, z10, z11⟩ := Fr6.two hP hQ hne (.int .i64 (sub p0 xa)) (.int .i64 (sub p1 (hf ka xa ya))) (.int .i64 (sub p2 (hf ka xa za))) (.int .i64 (add p0 xa)) (.int .i64 (add p1 (hf ka xa ya))) (.int .i64 (add p2 (hf ka xa za))) (.int .i64 (sub q0 xb)) (.int .i64 (sub q1 (hf kb xb yb))) (.int .i64 (sub q2 (hf kb xb zb))) (.int .i64 (add q0 xb)) (.int .i64 (add q1 (hf kb xb yb))) (.int .i64 (add q2 (hf kb xb zb)))
            exact ⟨wA.heap.size, wc22.heap.size, rfl, rfl, hS2.1, z0, z1, z2, z3, z4, z5, z6, z7, z8, z9, z10, z11⟩
      · rw [if_pos (by rfl)]
        simp only [List.getElem_toArray, List.getElem_cons_succ, List.getElem_cons_zero]
        go_simp
        refine hK.out _ _ ?_ (fun hH28 => ?_)
        · exact ⟨hH21.1.alloc _ _, HA.step (hH21.1.alloc _ _)⟩
        have hq : wA.heap.size ≤ wA.heap.size + 1 := Nat.le_trans hH21.1.below.size (Nat.le_of_eq (by simp))
        have hlt := World.block_lt_of_cell? _ _ hP.2.1
        simp at hlt
        have hne : wA.heap.size ≠ wA.heap.size + 1 := by omega
        clear hlt
        replace hP := hP.step ((Kept.refl _).alloc #[.int .i64 0, .int .i64 0, .int .i64 0, .int .i64 0, .int .i64 0, .int .i64 0] 38)
        have hQ : Fr6 wA (wA.heap.size + 1) ((wA.drew.alloc (.cells #[.int .i64 0, .int .i64 0, .int .i64 0, .int .i64 0, .int .i64 0, .int .i64 0] 38)).alloc (.cells #[.int .i64 0, .int .i64 0, .int .i64 0, .int .i64 0, .int .i64 0, .int .i64 0] 38)) := by refine ⟨hH21.1.alloc _ _, cellV_of (v := .int .i64 0) ?_, cellV_of (v := .int .i64 0) ?_, cellV_of (v := .int .i64 0) ?_, cellV_of (v := .int .i64 0) ?_, cellV_of (v := .int .i64 0) ?_, cellV_of (v := .int .i64 0) ?_, ?_, ?_, ?_, ?_, ?_, ?_⟩ <;> go_simp
        clear hK K hH21
        try simp only [Act.put, List.setIfInBounds_toArray, List.set_cons_zero, List.set_cons_succ, List.getElem_toArray, List.getElem_cons_succ, List.getElem_cons_zero]
        refine wpAnyH_ready (rs := [2]) (by kernel_rfl) (by simp) ?_
        refine AllReadyH.cons rfl (fun K hK => ?_) AllReadyH.nil
        rw [if_pos (by rfl)]
        simp only [List.getElem_toArray, List.getElem_cons_succ, List.getElem_cons_zero]
        go_simp
        (go_at_call 51; refine (refAround_calls _ _ _ _ _ _ _ _).mono ?_; rintro e wc29 ⟨rfl, kc29⟩)
        try go_wp2_with fail
        refine hK.out _ _ ?_ (fun hH29 => ?_)
        · exact ⟨hH28.1.trans kc29, HA.step (hH28.1.trans kc29)⟩
        replace hP := hP.step kc29
        replace hQ := hQ.step kc29
        clear hK K hH28
        try simp only [Act.put, List.setIfInBounds_toArray, List.set_cons_zero, List.set_cons_succ, List.getElem_toArray, List.getElem_cons_succ, List.getElem_cons_zero]
        refine wpAnyH_ready (rs := [5]) (by kernel_rfl) (by simp) ?_
        refine AllReadyH.cons rfl (fun K hK => ?_) AllReadyH.nil
        rw [if_pos (by rfl)]
        simp only [List.getElem_toArray, List.getElem_cons_succ, List.getElem_cons_zero]
        go_simp
        (go_at_call 51; refine (refAround_calls _ _ _ _ _ _ _ _).mono ?_; rintro e wc30 ⟨rfl, kc30⟩)
        try go_wp2_with fail
        refine hK.out _ _ ?_ (fun hH30 => ?_)
        · exact ⟨hH29.1.trans kc30, HA.step (hH29.1.trans kc30)⟩
        replace hP := hP.step kc30
        replace hQ := hQ.step kc30
        clear hK K hH29
        try simp only [Act.put, List.setIfInBounds_toArray, List.set_cons_zero, List.set_cons_succ, List.getElem_toArray, List.getElem_cons_succ, List.getElem_cons_zero]
        have hP0 := hP
        obtain ⟨_, cp0, cp1, cp2, cp3, cp4, cp5, fp0, fp1, fp2, fp3, fp4, fp5⟩ := hP0
        have hY := hQ.past hne
        skip
        refine wpAnyH_ready (rs := [8]) (by kernel_rfl) (by simp) ?_
        refine AllReadyH.cons rfl (fun K hK => ?_) AllReadyH.nil
        rw [if_pos (by rfl)]
        simp only [List.getElem_toArray, List.getElem_cons_succ, List.getElem_cons_zero]
        go_simp
        refine hK.out _ _ ?_ (fun hS1 => ?_)
        · exact ⟨kept_set6 hH30.1 hp _ _ _ _ _ _, HA.step (kept_set6 hH30.1 hp _ _ _ _ _ _)⟩
        clear hK K
        try simp only [Act.put, List.setIfInBounds_toArray, List.set_cons_zero, List.set_cons_succ, List.getElem_toArray, List.getElem_cons_succ, List.getElem_cons_zero]
        refine wpAnyH_ready (rs := [9]) (by kernel_rfl) (by simp) ?_
        refine AllReadyH.cons rfl (fun K hK => ?_) AllReadyH.nil
        rw [if_pos (by rfl)]
        simp only [List.getElem_toArray, List.getElem_cons_succ, List.getElem_cons_zero]
        go_simp
        refine hK.out _ _ ?_ (fun hS2 => ?_)
        · exact ⟨kept_set6 hS1.1 hq _ _ _ _ _ _, HA.step (kept_set6 hS1.1 hq _ _ _ _ _ _)⟩
        clear hK K
        try simp only [Act.put, List.setIfInBounds_toArray, List.set_cons_zero, List.set_cons_succ, List.getElem_toArray, List.getElem_cons_succ, List.getElem_cons_zero]
        refine wpAnyH_done (by kernel_rfl) ?_ _
        go_wp2_with fail
        go_meet
        case rel =>
          obtain ⟨z0, z1, z2, z3, z4, z5, z6, z7, z8, z9, z10, z11⟩ := Fr6.two hP hQ hne (.int .i64 (sub p0 xa)) (.int .i64 (sub p1 (hf ka xa ya))) (.int .i64 (sub p2 (hf ka xa za))) (.int .i64 (add p0 xa)) (.int .i64 (add p1 (hf ka xa ya))) (.int .i64 (add p2 (hf ka xa za))) (.int .i64 (sub q0 xb)) (.int .i64 (sub q1 (hf kb xb yb))) (.int .i64 (sub q2 (hf kb xb zb))) (.int .i64 (add q0 xb)) (.int .i64 (add q1 (hf kb xb yb))) (.int .i64 (add q2 (hf kb xb zb)))
          exact ⟨wA.heap.size, wA.heap.size + 1, rfl, rfl, hS2.1, z0, z1, z2, z3, z4, z5, z6, z7, z8, z9, z10, z11⟩
    · rw [if_pos (by rfl)]
      simp only [List.getElem_toArray, List.getElem_cons_succ, List.getElem_cons_zero]
      go_simp
      refine hK.out _ _ ?_ (fun hH31 => ?_)
      · exact ⟨hH0.1.alloc _ _, HA.step (hH0.1.alloc _ _)⟩
      have hq : wA.heap.size ≤ wA.heap.size := Nat.le_trans hH0.1.below.size (Nat.le_of_eq (by simp))
      have hQ : Fr6 wA (wA.heap.size) (wA.drew.alloc (.cells #[.int .i64 0, .int .i64 0, .int .i64 0, .int .i64 0, .int .i64 0, .int .i64 0] 38)) := by refine ⟨hH0.1.alloc _ _, cellV_of (v := .int .i64 0) ?_, cellV_of (v := .int .i64 0) ?_, cellV_of (v := .int .i64 0) ?_, cellV_of (v := .int .i64 0) ?_, cellV_of (v := .int .i64 0) ?_, cellV_of (v := .int .i64 0) ?_, ?_, ?_, ?_, ?_, ?_, ?_⟩ <;> go_simp
      clear hK K hH0
      try simp only [Act.put, List.setIfInBounds_toArray, List.set_cons_zero, List.set_cons_succ, List.getElem_toArray, List.getElem_cons_succ, List.getElem_cons_zero]
      refine wpAnyH_ready (rs := [2, 6]) (by kernel_rfl) (by simp) ?_
      refine AllReadyH.cons rfl (fun K hK => ?_) (AllReadyH.cons rfl (fun K hK => ?_) AllReadyH.nil)
      · rw [if_pos (by rfl)]
        simp only [List.getElem_toArray, List.getElem_cons_succ, List.getElem_cons_zero]
        go_simp
        (go_at_call 51; refine (refAround_calls _ _ _ _ _ _ _ _).mono ?_; rintro e wc32 ⟨rfl, kc32⟩)
        try go_wp2_with fail
        refine hK.out _ _ ?_ (fun hH32 => ?_)
        · exact ⟨hH31.1.trans kc32, HA.step (hH31.1.trans kc32)⟩
        replace hQ := hQ.step kc32
        clear hK K hH31
        try simp only [Act.put, List.setIfInBounds_toArray, List.set_cons_zero, List.set_cons_succ, List.getElem_toArray, List.getElem_cons_succ, List.getElem_cons_zero]
        refine wpAnyH_ready (rs := [5, 6]) (by kernel_rfl) (by simp) ?_
        refine AllReadyH.cons rfl (fun K hK => ?_) (AllReadyH.cons rfl (fun K hK => ?_) AllReadyH.nil)
        · rw [if_pos (by rfl)]
          simp only [List.getElem_toArray, List.getElem_cons_succ, List.getElem_cons_zero]
          go_simp
          (go_at_call 51; refine (refAround_calls _ _ _ _ _ _ _ _).mono ?_; rintro e wc33 ⟨rfl, kc33⟩)
          try go_wp2_with fail
          refine hK.out _ _ ?_ (fun hH33 => ?_)
          · exact ⟨hH32.1.trans kc33, HA.step (hH32.1.trans kc33)⟩
          replace hQ := hQ.step kc33
          clear hK K hH32
          try simp only [Act.put, List.setIfInBounds_toArray, List.set_cons_zero, List.set_cons_succ, List.getElem_toArray, List.getElem_cons_succ, List.getElem_cons_zero]
          refine wpAnyH_ready (rs := [6]) (by kernel_rfl) (by simp) ?_
          refine AllReadyH.cons rfl (fun K hK => ?_) AllReadyH.nil
          rw [if_pos (by rfl)]
          simp only [List.getElem_toArray, List.getElem_cons_succ, List.getElem_cons_zero]
          go_simp
          refine hK.out _ _ ?_ (fun hH34 => ?_)
          · exact ⟨hH33.1.alloc _ _, HA.step (hH33.1.alloc _ _)⟩
          have hp : wA.heap.size ≤ wc33.heap.size := Nat.le_trans hH33.1.below.size (Nat.le_of_eq (by simp))
          have hlt := World.block_lt_of_cell? _ _ hQ.2.1
          simp at hlt
          have hne : wc33.heap.size ≠ wA.heap.size := by omega
          clear hlt
          replace hQ := hQ.step ((Kept.refl _).alloc #[.int .i64 0, .int .i64 0, .int .i64 0, .int .i64 0, .int .i64 0, .int .i64 0] 38)
          have hP : Fr6 wA (wc33.heap.size) (wc33.alloc (.cells #[.int .i64 0, .int .i64 0, .int .i64 0, .int .i64 0, .int .i64 0, .int .i64 0] 38)) := by refine ⟨hH33.1.alloc _ _, cellV_of (v := .int .i64 0) ?_, cellV_of (v := .int .i64 0) ?_, cellV_of (v := .int .i64 0) ?_, cellV_of (v := .int .i64 0) ?_, cellV_of (v := .int .i64 0) ?_, cellV_of (v := .int .i64 0) ?_, ?_, ?_, ?_, ?_, ?_, ?_⟩ <;> go_simp
          clear hK K hH33
          try simp only [Act.put, List.setIfInBounds_toArray, List.set_cons_zero, List.set_cons_succ, List.getElem_toArray, List.getElem_cons_succ, List.getElem_cons_zero]
          generalize (wc33.alloc (.cells #[.int .i64 0, .int .i64 0, .int .i64 0, .int .i64 0, .int .i64 0, .int .i64 0] 38)) = wz35 at hH34 hP hQ ⊢
          have hP0 := hP
          obtain ⟨_, cp0, cp1, cp2, cp3, cp4, cp5, fp0, fp1, fp2, fp3, fp4, fp5⟩ := hP0
          have hY := hQ.past hne
          skip
          refine wpAnyH_ready (rs := [8]) (by kernel_rfl) (by simp) ?_
          refine AllReadyH.cons rfl (fun K hK => ?_) AllReadyH.nil
          rw [if_pos (by rfl)]
          simp only [List.getElem_toArray, List.getElem_cons_succ, List.getElem_cons_zero]
          go_simp
          refine hK.out _ _ ?_ (fun hS1 => ?_)
          · exact ⟨kept_set6 hH34.1 hp _ _ _ _ _ _, HA.step (kept_set6 hH34.1 hp _ _ _ _ _ _)⟩
          clear hK K
          try simp only [Act.put, List.setIfInBounds_toArray, List.set_cons_zero, List.set_cons_succ, List.getElem_toArray, List.getElem_cons_succ, List.getElem_cons_zero]
          refine wpAnyH_ready (rs := [9]) (by kernel_rfl) (by simp) ?_
          refine AllReadyH.cons rfl (fun K hK => ?_) AllReadyH.nil
          rw [if_pos (by rfl)]
          simp only [List.getElem_toArray, List.getElem_cons_succ, List.getElem_cons_zero]
          go_simp
          refine hK.out _ _ ?_ (fun hS2 => ?_)
          · exact ⟨kept_set6 hS1.1 hq _ _ _ _ _ _, HA.step (kept_set6 hS1.1 hq _ _ _ _ _ _)⟩
          clear hK K
          try simp only [Act.put, List.setIfInBounds_toArray, List.set_cons_zero, List.set_cons_succ, List.getElem_toArray, List.getElem_cons_succ, List.getElem_cons_zero]
          refine wpAnyH_done (by kernel_rfl) ?_ _
          go_wp2_with fail
          go_meet
          case rel =>
            obtain ⟨z0, z1, z2, z3, z4, z5, z6, z7, z8, z9, z10, z11⟩ := Fr6.two hP hQ hne (.int .i64 (sub p0 xa)) (.int .i64 (sub p1 (hf ka xa ya))) (.int .i64 (sub p2 (hf ka xa za))) (.int .i64 (add p0 xa)) (.int .i64 (add p1 (hf ka xa ya))) (.int .i64 (add p2 (hf ka xa za))) (.int .i64 (sub q0 xb)) (.int .i64 (sub q1 (hf kb xb yb))) (.int .i64 (sub q2 (hf kb xb zb))) (.int .i64 (add q0 xb)) (.int .i64 (add q1 (hf kb xb yb))) (.int .i64 (add q2 (hf kb xb zb)))
            exact ⟨wc33.heap.size, wA.heap.size, rfl, rfl, hS2.1, z0, z1, z2, z3, z4, z5, z6, z7, z8, z9, z10, z11⟩
        · rw [if_pos (by rfl)]
          simp only [List.getElem_toArray, List.getElem_cons_succ, List.getElem_cons_zero]
          go_simp
          refine hK.out _ _ ?_ (fun hH36 => ?_)
          · exact ⟨hH32.1.alloc _ _, HA.step (hH32.1.alloc _ _)⟩
          have hp : wA.heap.size ≤ wc32.heap.size := Nat.le_trans hH32.1.below.size (Nat.le_of_eq (by simp))
          have hlt := World.block_lt_of_cell? _ _ hQ.2.1
          simp at hlt
          have hne : wc32.heap.size ≠ wA.heap.size := by omega
          clear hlt
          replace hQ := hQ.step ((Kept.refl _).alloc #[.int .i64 0, .int .i64 0, .int .i64 0, .int .i64 0, .int .i64 0, .int .i64 0] 38)
          have hP : Fr6 wA (wc32.heap.size) (wc32.alloc (.cells #[.int .i64 0, .int .i64 0, .int .i64 0, .int .i64 0, .int .i64 0, .int .i64 0] 38)) := by refine ⟨hH32.1.alloc _ _, cellV_of (v := .int .i64 0) ?_, cellV_of (v := .int .i64 0) ?_, cellV_of (v := .int .i64 0) ?_, cellV_of (v := .int .i64 0) ?_, cellV_of (v := .int .i64 0) ?_, cellV_of (v := .int .i64 0) ?_, ?_, ?_, ?_, ?_, ?_, ?_⟩ <;> go_simp
          clear hK K hH32
          try simp only [Act.put, List.setIfInBounds_toArray, List.set_cons_zero, List.set_cons_succ, List.getElem_toArray, List.getElem_cons_succ, List.getElem_cons_zero]
          refine wpAnyH_ready (rs := [5]) (by kernel_rfl) (by simp) ?_
          refine AllReadyH.cons rfl (fun K hK => ?_) AllReadyH.nil
          rw [if_pos (by rfl)]
          simp only [List.getElem_toArray, List.getElem_cons_succ, List.getElem_cons_zero]
          go_simp
          (go_at_call 51; refine (refAround_calls _ _ _ _ _ _ _ _).mono ?_; rintro e wc37 ⟨rfl, kc37⟩)
          try go_wp2_with fail
          refine hK.out _ _ ?_ (fun hH37 => ?_)
          · exact ⟨hH36.1.trans kc37, HA.step (hH36.1.trans kc37)⟩
          replace hP := hP.step kc37
          replace hQ := hQ.step kc37
          clear hK K hH36
          try simp only [Act.put, List.setIfInBounds_toArray, List.set_cons_zero, List.set_cons_succ, List.getElem_toArray, List.getElem_cons_succ, List.getElem_cons_zero]
          have hP0 := hP
          obtain ⟨_, cp0, cp1, cp2, cp3, cp4, cp5, fp0, fp1, fp2, fp3, fp4, fp5⟩ := hP0
          have hY := hQ.past hne
          skip
          refine wpAnyH_ready (rs := [8]) (by kernel_rfl) (by simp) ?_
          refine AllReadyH.cons rfl (fun K hK => ?_) AllReadyH.nil
          rw [if_pos (by rfl)]
          simp only [List.getElem_toArray, List.getElem_cons_succ, List.getElem_cons_zero]
          go_simp
          refine hK.out _ _ ?_ (fun hS1 => ?_)
          · exact ⟨kept_set6 hH37.1 hp _ _ _ _ _ _, HA.step (kept_set6 hH37.1 hp _ _ _ _ _ _)⟩
          clear hK K
          try simp only [Act.put, List.setIfInBounds_toArray, List.set_cons_zero, List.set_cons_succ, List.getElem_toArray, List.getElem_cons_succ, List.getElem_cons_zero]
          refine wpAnyH_ready (rs := [9]) (by kernel_rfl) (by simp) ?_
          refine AllReadyH.cons rfl (fun K hK => ?_) AllReadyH.nil
          rw [if_pos (by rfl)]
          simp only [List.getElem_toArray, List.getElem_cons_succ, List.getElem_cons_zero]
          go_simp
          refine hK.out _ _ ?_ (fun hS2 => ?_)
          · exact ⟨kept_set6 hS1.1 hq _ _ _ _ _ _, HA.step (kept_set6 hS1.1 hq _ _ _ _ _ _)⟩
          clear hK K
          try simp only [Act.put, List.setIfInBounds_toArray, List.set_cons_zero, List.set_cons_succ, List.getElem_toArray, List.getElem_cons_succ, List.getElem_cons_zero]
          refine wpAnyH_done (by kernel_rfl) ?_ _
          go_wp2_with fail
          go_meet
          case rel =>
            obtain ⟨z0, z1, z2, z3, z4, z5, z6, z7, z8, z9, z10, z11⟩ := Fr6.two hP hQ hne (.int .i64 (sub p0 xa)) (.int .i64 (sub p1 (hf ka xa ya))) (.int .i64 (sub p2 (hf ka xa za))) (.int .i64 (add p0 xa)) (.int .i64 (add p1 (hf ka xa ya))) (.int .i64 (add p2 (hf ka xa za))) (.int .i64 (sub q0 xb)) (.int .i64 (sub q1 (hf kb xb yb))) (.int .i64 (sub q2 (hf kb xb zb))) (.int .i64 (add q0 xb)) (.int .i64 (add q1 (hf kb xb yb))) (.int .i64 (add q2 (hf kb xb zb)))
            exact ⟨wc32.heap.size, wA.heap.size, rfl, rfl, hS2.1, z0, z1, z2, z3, z4, z5, z6, z7, z8, z9, z10, z11⟩
      · rw [if_pos (by rfl)]
        simp only [List.getElem_toArray, List.getElem_cons_succ, List.getElem_cons_zero]
        go_simp
        refine hK.out _ _ ?_ (fun hH38 => ?_)
        · exact ⟨hH31.1.alloc _ _, HA.step (hH31.1.alloc _ _)⟩
        have hp : wA.heap.size ≤ wA.heap.size + 1 := Nat.le_trans hH31.1.below.size (Nat.le_of_eq (by simp))
        have hlt := World.block_lt_of_cell? _ _ hQ.2.1
        simp at hlt
        have hne : wA.heap.size + 1 ≠ wA.heap.size := by omega
        clear hlt
        replace hQ := hQ.step ((Kept.refl _).alloc #[.int .i64 0, .int .i64 0, .int .i64 0, .int .i64 0, .int .i64 0, .int .i64 0] 38)
        have hP : Fr6 wA (wA.heap.size + 1) ((wA.drew.alloc (.cells #[.int .i64 0, .int .i64 0, .int .i64 0, .int .i64 0, .int .i64 0, .int .i64 0] 38)).alloc (.cells #[.int .i64 0, .int .i64 0, .int .i64 0, .int .i64 0, .int .i64 0, .int .i64 0] 38)) := by refine ⟨hH31.1.alloc _ _, cellV_of (v := .int .i64 0) ?_, cellV_of (v := .int .i64 0) ?_, cellV_of (v := .int .i64 0) ?_, cellV_of (v := .int .i64 0) ?_, cellV_of (v := .int .i64 0) ?_, cellV_of (v := .int .i64 0) ?_, ?_, ?_, ?_, ?_, ?_, ?_⟩ <;> go_simp
        clear hK K hH31
        try simp only [Act.put, List.setIfInBounds_toArray, List.set_cons_zero, List.set_cons_succ, List.getElem_toArray, List.getElem_cons_succ, List.getElem_cons_zero]
        refine wpAnyH_ready (rs := [2]) (by kernel_rfl) (by simp) ?_
        refine AllReadyH.cons rfl (fun K hK => ?_) AllReadyH.nil
        rw [if_pos (by rfl)]
        simp only [List.getElem_toArray, List.getElem_cons_succ, List.getElem_cons_zero]
        go_simp
        (go_at_call 51; refine (refAround_calls _ _ _ _ _ _ _ _).mono ?_; rintro e wc39 ⟨rfl, kc39⟩)
        try go_wp2_with fail
        refine hK.out _ _ ?_ (fun hH39 => ?_)
        · exact ⟨hH38.1.trans kc39, HA.step (hH38.1.trans kc39)⟩
        replace hP := hP.step kc39
        replace hQ := hQ.step kc39
        clear hK K hH38
        try simp only [Act.put, List.setIfInBounds_toArray, List.set_cons_zero, List.set_cons_succ, List.getElem_toArray, List.getElem_cons_succ, List.getElem_cons_zero]
        refine wpAnyH_ready (rs := [5]) (by kernel_rfl) (by simp) ?_
        refine AllReadyH.cons rfl (fun K hK => ?_) AllReadyH.nil
        rw [if_pos (by rfl)]
        simp only [List.getElem_toArray, List.getElem_cons_succ, List.getElem_cons_zero]
        go_simp
        (go_at_call 51; refine (refAround_calls _ _ _ _ _ _ _ _).mono ?_; rintro e wc40 ⟨rfl, kc40⟩)
        try go_wp2_with fail
        refine hK.out _ _ ?_ (fun hH40 => ?_)
        · exact ⟨hH39.1.trans kc40, HA.step (hH39.1.trans kc40)⟩
        replace hP := hP.step kc40
        replace hQ := hQ.step kc40
        clear hK K hH39
        try simp only [Act.put, List.setIfInBounds_toArray, List.set_cons_zero, List.set_cons_succ, List.getElem_toArray, List.getElem_cons_succ, List.getElem_cons_zero]
        have hP0 := hP
        obtain ⟨_, cp0, cp1, cp2, cp3, cp4, cp5, fp0, fp1, fp2, fp3, fp4, fp5⟩ := hP0
        have hY := hQ.past hne
        skip
        refine wpAnyH_ready (rs := [8]) (by kernel_rfl) (by simp) ?_
        refine AllReadyH.cons rfl (fun K hK => ?_) AllReadyH.nil
        rw [if_pos (by rfl)]
        simp only [List.getElem_toArray, List.getElem_cons_succ, List.getElem_cons_zero]
        go_simp
        refine hK.out _ _ ?_ (fun hS1 => ?_)
        · exact ⟨kept_set6 hH40.1 hp _ _ _ _ _ _, HA.step (kept_set6 hH40.1 hp _ _ _ _ _ _)⟩
        clear hK K
        try simp only [Act.put, List.setIfInBounds_toArray, List.set_cons_zero, List.set_cons_succ, List.getElem_toArray, List.getElem_cons_succ, List.getElem_cons_zero]
        refine wpAnyH_ready (rs := [9]) (by kernel_rfl) (by simp) ?_
        refine AllReadyH.cons rfl (fun K hK => ?_) AllReadyH.nil
        rw [if_pos (by rfl)]
        simp only [List.getElem_toArray, List.getElem_cons_succ, List.getElem_cons_zero]
        go_simp
        refine hK.out _ _ ?_ (fun hS2 => ?_)
        · exact ⟨kept_set6 hS1.1 hq _ _ _ _ _ _, HA.step (kept_set6 hS1.1 hq _ _ _ _ _ _)⟩
        clear hK K
        try simp only [Act.put, List.setIfInBounds_toArray, List.set_cons_zero, List.set_cons_succ, List.getElem_toArray, List.getElem_cons_succ, List.getElem_cons_zero]
        refine wpAnyH_done (by kernel_rfl) ?_ _
        go_wp2_with fail
        go_meet
        case rel =>
          obtain ⟨z0, z1, z2, z3, z4, z5, z6, z7, z8, z9, z10, z11⟩ := Fr6.two hP hQ hne (.int .i64 (sub p0 xa)) (.int .i64 (sub p1 (hf ka xa ya))) (.int .i64 (sub p2 (hf ka xa za))) (.int .i64 (add p0 xa)) (.int .i64 (add p1 (hf ka xa ya))) (.int .i64 (add p2 (hf ka xa za))) (.int .i64 (sub q0 xb)) (.int .i64 (sub q1 (hf kb xb yb))) (.int .i64 (sub q2 (hf kb xb zb))) (.int .i64 (add q0 xb)) (.int .i64 (add q1 (hf kb xb yb))) (.int .i64 (add q2 (hf kb xb zb)))
          exact ⟨wA.heap.size + 1, wA.heap.size, rfl, rfl, hS2.1, z0, z1, z2, z3, z4, z5, z6, z7, z8, z9, z10, z11⟩
  case rest =>
    obtain ⟨p, q, rfl, rfl, kc, x0, x1, x2, x3, x4, x5, y0, y1, y2, y3, y4, y5⟩ := hcut
    clear HA
    obtain ⟨tt, HT⟩ : ∃ tt, (refBoxesT (sub p0 xa) (sub p1 (hf ka xa ya)) (sub p2 (hf ka xa za)) (add p0 xa) (add p1 (hf ka xa ya)) (add p2 (hf ka xa za)) (sub q0 xb) (sub q1 (hf kb xb yb)) (sub q2 (hf kb xb zb)) (add q0 xb) (add q1 (hf kb xb yb)) (add q2 (hf kb xb zb))) = tt := ⟨_, rfl⟩
    have HTT : Aside ((refBoxesT (sub p0 xa) (sub p1 (hf ka xa ya)) (sub p2 (hf ka xa za)) (add p0 xa) (add p1 (hf ka xa ya)) (add p2 (hf ka xa za)) (sub q0 xb) (sub q1 (hf kb xb yb)) (sub q2 (hf kb xb zb)) (add q0 xb) (add q1 (hf kb xb yb)) (add q2 (hf kb xb zb))) = tt) := HT
    unfold refBoxesT at HT
    cases hm : meetB (sub p0 xa) (sub p1 (hf ka xa ya)) (sub p2 (hf ka xa za)) (add p0 xa) (add p1 (hf ka xa ya)) (add p2 (hf ka xa za)) (sub q0 xb) (sub q1 (hf kb xb yb)) (sub q2 (hf kb xb zb)) (add q0 xb) (add q1 (hf kb xb yb)) (add q2 (hf kb xb zb)) with
    | false =>
      rw [hm, if_neg (by simp)] at HT
      have HT0 : Aside (noT = tt) := HT
      clear HT
      go_wp2_with fail
      refine (refMeet_calls _ _ _ _ _ _ _ _ _ _ _ _ _).mono ?_; rintro e w1 ⟨rfl, k1⟩
      have c0 := kept_cell k1 (kept_cell kc (RC.out 0 (by omega)))
      have c1 := kept_cell k1 (kept_cell kc (RC.out 1 (by omega)))
      have c2 := kept_cell k1 (kept_cell kc (RC.out 2 (by omega)))
      have f0 := kept_frozen k1 (kept_frozen kc (RF.out 0))
      have f1 := kept_frozen k1 (kept_frozen kc (RF.out 1))
      have f2 := kept_frozen k1 (kept_frozen kc (RF.out 2))
      have hkt : Kept w w1 := (hkA.trans kc).trans k1
      clear k1 x0 x1 x2 x3 x4 x5 y0 y1 y2 y3 y4 y5
      go_wp2
      obtain ⟨e0, e1, e2⟩ := set3_of (v0 := .int .i64 0) (v1 := .int .i64 0) (v2 := .int .i64 0) c0 c1 c2
      exact bodyPost_ret (v := .tuple #[.agg #[.int .i64 0, .int .i64 0, .int .i64 0], .int .i64 0, .bool false]) (by simp [results, Try.results53, go_sem, e0, e1, e2]) rfl ⟨by rw [HTT.out, ← HT0.out]; rfl, kept_set3 hkt (by omega) _ _ _⟩
    | true =>
      rw [hm, if_pos rfl] at HT
      have HT0 : Aside (doneT (outE (sub p0 xa) (sub p1 (hf ka xa ya)) (sub p2 (hf ka xa za)) (add p0 xa) (add p1 (hf ka xa ya)) (add p2 (hf ka xa za)) (sub q0 xb) (sub q1 (hf kb xb yb)) (sub q2 (hf kb xb zb)) (add q0 xb) (add q1 (hf kb xb yb)) (add q2 (hf kb xb zb))).x (outE (sub p0 xa) (sub p1 (hf ka xa ya)) (sub p2 (hf ka xa za)) (add p0 xa) (add p1 (hf ka xa ya)) (add p2 (hf ka xa za)) (sub q0 xb) (sub q1 (hf kb xb yb)) (sub q2 (hf kb xb zb)) (add q0 xb) (add q1 (hf kb xb yb)) (add q2 (hf kb xb zb))).y (outE (sub p0 xa) (sub p1 (hf ka xa ya)) (sub p2 (hf ka xa za)) (add p0 xa) (add p1 (hf ka xa ya)) (add p2 (hf ka xa za)) (sub q0 xb) (sub q1 (hf kb xb yb)) (sub q2 (hf kb xb zb)) (add q0 xb) (add q1 (hf kb xb yb)) (add q2 (hf kb xb zb))).z (outE (sub p0 xa) (sub p1 (hf ka xa ya)) (sub p2 (hf ka xa za)) (add p0 xa) (add p1 (hf ka xa ya)) (add p2 (hf ka xa za)) (sub q0 xb) (sub q1 (hf kb xb yb)) (sub q2 (hf kb xb zb)) (add q0 xb) (add q1 (hf kb xb yb)) (add q2 (hf kb xb zb))).d = tt) := HT
      clear HT
      go_wp2_with fail
      refine (refMeet_calls _ _ _ _ _ _ _ _ _ _ _ _ _).mono ?_; rintro e w1 ⟨rfl, k1⟩
      have x0 := kept_cell k1 x0
      have x1 := kept_cell k1 x1
      have x2 := kept_cell k1 x2
      have x3 := kept_cell k1 x3
      have x4 := kept_cell k1 x4
      have x5 := kept_cell k1 x5
      have y0 := kept_cell k1 y0
      have y1 := kept_cell k1 y1
      have y2 := kept_cell k1 y2
      have y3 := kept_cell k1 y3
      have y4 := kept_cell k1 y4
      have y5 := kept_cell k1 y5
      go_wp2_with fail
      refine (refOut_calls _ _ _ _ _ _ _ _ _ _ _ _ _).mono ?_; rintro e w2 ⟨rfl, k2⟩
      generalize (outE (sub p0 xa) (sub p1 (hf ka xa ya)) (sub p2 (hf ka xa za)) (add p0 xa) (add p1 (hf ka xa ya)) (add p2 (hf ka xa za)) (sub q0 xb) (sub q1 (hf kb xb yb)) (sub q2 (hf kb xb zb)) (add q0 xb) (add q1 (hf kb xb yb)) (add q2 (hf kb xb zb))) = E at HT0 ⊢
      have v0 := kept_cell k2 (kept_cell k1 (kept_cell kc (WC.out 0 (by omega))))
      have v1 := kept_cell k2 (kept_cell k1 (kept_cell kc (WC.out 1 (by omega))))
      have v2 := kept_cell k2 (kept_cell k1 (kept_cell kc (WC.out 2 (by omega))))
      have g0 := kept_frozen k2 (kept_frozen k1 (kept_frozen kc (WF.out 0)))
      have g1 := kept_frozen k2 (kept_frozen k1 (kept_frozen kc (WF.out 1)))
      have g2 := kept_frozen k2 (kept_frozen k1 (kept_frozen kc (WF.out 2)))
      obtain ⟨m0, m1, m2⟩ := set3_of (v0 := .int .i64 (E.x)) (v1 := .int .i64 (E.y)) (v2 := .int .i64 (E.z)) v0 v1 v2
      have c0 : (((w2.setCell ⟨w.heap.size + 1 + 1 + 1 + 1 + 1, 0, none⟩ (.int .i64 (E.x))).setCell ⟨w.heap.size + 1 + 1 + 1 + 1 + 1, 1, none⟩ (.int .i64 (E.y))).setCell ⟨w.heap.size + 1 + 1 + 1 + 1 + 1, 2, none⟩ (.int .i64 (E.z))).cell? ⟨w.heap.size + 1 + 1 + 1 + 1, 0, none⟩ = some (.int .i64 0) := (World.cell?_setCell_other _ _ _ _ (fun e => by injection e with e; omega)).trans ((World.cell?_setCell_other _ _ _ _ (fun e => by injection e with e; omega)).trans ((World.cell?_setCell_other _ _ _ _ (fun e => by injection e with e; omega)).trans (kept_cell k2 (kept_cell k1 (kept_cell kc (RC.out 0 (by omega)))))))
      have c1 : (((w2.setCell ⟨w.heap.size + 1 + 1 + 1 + 1 + 1, 0, none⟩ (.int .i64 (E.x))).setCell ⟨w.heap.size + 1 + 1 + 1 + 1 + 1, 1, none⟩ (.int .i64 (E.y))).setCell ⟨w.heap.size + 1 + 1 + 1 + 1 + 1, 2, none⟩ (.int .i64 (E.z))).cell? ⟨w.heap.size + 1 + 1 + 1 + 1, 1, none⟩ = some (.int .i64 0) := (World.cell?_setCell_other _ _ _ _ (fun e => by injection e with e; omega)).trans ((World.cell?_setCell_other _ _ _ _ (fun e => by injection e with e; omega)).trans ((World.cell?_setCell_other _ _ _ _ (fun e => by injection e with e; omega)).trans (kept_cell k2 (kept_cell k1 (kept_cell kc (RC.out 1 (by omega)))))))
      have c2 : (((w2.setCell ⟨w.heap.size + 1 + 1 + 1 + 1 + 1, 0, none⟩ (.int .i64 (E.x))).setCell ⟨w.heap.size + 1 + 1 + 1 + 1 + 1, 1, none⟩ (.int .i64 (E.y))).setCell ⟨w.heap.size + 1 + 1 + 1 + 1 + 1, 2, none⟩ (.int .i64 (E.z))).cell? ⟨w.heap.size + 1 + 1 + 1 + 1, 2, none⟩ = some (.int .i64 0) := (World.cell?_setCell_other _ _ _ _ (fun e => by injection e with e; omega)).trans ((World.cell?_setCell_other _ _ _ _ (fun e => by injection e with e; omega)).trans ((World.cell?_setCell_other _ _ _ _ (fun e => by injection e with e; omega)).trans (kept_cell k2 (kept_cell k1 (kept_cell kc (RC.out 2 (by omega)))))))
      have f0 : (((w2.setCell ⟨w.heap.size + 1 + 1 + 1 + 1 + 1, 0, none⟩ (.int .i64 (E.x))).setCell ⟨w.heap.size + 1 + 1 + 1 + 1 + 1, 1, none⟩ (.int .i64 (E.y))).setCell ⟨w.heap.size + 1 + 1 + 1 + 1 + 1, 2, none⟩ (.int .i64 (E.z))).frozen? ⟨w.heap.size + 1 + 1 + 1 + 1, 0, none⟩ = false := (World.frozen?_setCell _ _ _ _).trans ((World.frozen?_setCell _ _ _ _).trans ((World.frozen?_setCell _ _ _ _).trans (kept_frozen k2 (kept_frozen k1 (kept_frozen kc (RF.out 0))))))
      have f1 : (((w2.setCell ⟨w.heap.size + 1 + 1 + 1 + 1 + 1, 0, none⟩ (.int .i64 (E.x))).setCell ⟨w.heap.size + 1 + 1 + 1 + 1 + 1, 1, none⟩ (.int .i64 (E.y))).setCell ⟨w.heap.size + 1 + 1 + 1 + 1 + 1, 2, none⟩ (.int .i64 (E.z))).frozen? ⟨w.heap.size + 1 + 1 + 1 + 1, 1, none⟩ = false := (World.frozen?_setCell _ _ _ _).trans ((World.frozen?_setCell _ _ _ _).trans ((World.frozen?_setCell _ _ _ _).trans (kept_frozen k2 (kept_frozen k1 (kept_frozen kc (RF.out 1))))))
      have f2 : (((w2.setCell ⟨w.heap.size + 1 + 1 + 1 + 1 + 1, 0, none⟩ (.int .i64 (E.x))).setCell ⟨w.heap.size + 1 + 1 + 1 + 1 + 1, 1, none⟩ (.int .i64 (E.y))).setCell ⟨w.heap.size + 1 + 1 + 1 + 1 + 1, 2, none⟩ (.int .i64 (E.z))).frozen? ⟨w.heap.size + 1 + 1 + 1 + 1, 2, none⟩ = false := (World.frozen?_setCell _ _ _ _).trans ((World.frozen?_setCell _ _ _ _).trans ((World.frozen?_setCell _ _ _ _).trans (kept_frozen k2 (kept_frozen k1 (kept_frozen kc (RF.out 2))))))
      have hkt : Kept w (((w2.setCell ⟨w.heap.size + 1 + 1 + 1 + 1 + 1, 0, none⟩ (.int .i64 (E.x))).setCell ⟨w.heap.size + 1 + 1 + 1 + 1 + 1, 1, none⟩ (.int .i64 (E.y))).setCell ⟨w.heap.size + 1 + 1 + 1 + 1 + 1, 2, none⟩ (.int .i64 (E.z))) := kept_set3 (((hkA.trans kc).trans k1).trans k2) (by omega) _ _ _
      clear x0 x1 x2 x3 x4 x5 y0 y1 y2 y3 y4 y5 k1 k2
      cases hd : decide (E.d ≤ 0) with
      | true =>
        go_wp2
        obtain ⟨e0, e1, e2⟩ := set3_of (v0 := .int .i64 0) (v1 := .int .i64 0) (v2 := .int .i64 0) c0 c1 c2
        exact bodyPost_ret (v := .tuple #[.agg #[.int .i64 0, .int .i64 0, .int .i64 0], .int .i64 0, .bool false]) (by simp [results, Try.results53, go_sem, e0, e1, e2]) rfl ⟨by rw [HTT.out, ← HT0.out, doneT_no (of_decide_eq_true hd)]; rfl, kept_set3 hkt (by omega) _ _ _⟩
      | false =>
        go_wp2
        obtain ⟨e0, e1, e2⟩ := set3_of (v0 := .int .i64 (E.x)) (v1 := .int .i64 (E.y)) (v2 := .int .i64 (E.z)) c0 c1 c2
        exact bodyPost_ret (v := .tuple #[.agg #[.int .i64 (E.x), .int .i64 (E.y), .int .i64 (E.z)], .int .i64 (E.d), .bool true]) (by simp [results, Try.results53, go_sem, e0, e1, e2]) rfl ⟨by rw [HTT.out, ← HT0.out, doneT_yes (of_decide_eq_false hd)], kept_set3 hkt (by omega) _ _ _⟩
end Go.Proofs.Ythhpcfnoiooopaa
