/- What a call may turn: plain laws on worlds. -/
import Derived.Test.YtdhbcgdlmkkdfaaGreatDoorHeld
import Derived.Deep.QuietTactic
import Derived.BigQuiet
import Derived.Deep.CutRange
import Derived.Deep.LoopGhost
import Derived.LoopN
namespace Go.Proofs.YtdhbcgdlmkkdfaaGreatDoor
open Go.ChangeShapes Go.WideShapes Go.ChangeAt Go.RowKit
set_option linter.unusedVariables false
set_option linter.unusedSimpArgs false

/-- A store into one cell of a block. -/
theorem heap_put {w : World} {b : Nat} {c : Array Value} {t : TypeId} (h : w.heap[b]? = some (.cells c t)) (i : Nat) (v : Value) : (w.setCell ⟨b, i, none⟩ v).heap[b]? = some (.cells (c.setIfInBounds i v) t) := by
  simp only [World.setCell, Array.getElem?_modify, if_true, h, Option.map_some]; rfl
/-- Of the blocks that were there those of D alone may have turned. -/
structure Only (D : List Nat) (w w' : World) : Prop where
  os : w'.os = w.os
  tape : w'.tape = w.tape
  output : w'.output = w.output
  size : w.heap.size ≤ w'.heap.size
  block : ∀ b, b < w.heap.size → b ∉ D → w'.heap[b]? = w.heap[b]?
theorem Only.refl (D : List Nat) (w : World) : Only D w w := ⟨rfl, rfl, rfl, Nat.le_refl _, fun _ _ _ => rfl⟩
theorem Only.mono {D E : List Nat} {w w' : World} (h : Only D w w') (s : ∀ b ∈ D, b ∈ E ∨ w.heap.size ≤ b) : Only E w w' :=
  ⟨h.os, h.tape, h.output, h.size, fun b hb hE => h.block b hb (fun hD => by rcases s b hD with k | k; exact hE k; omega)⟩
theorem Only.trans {D : List Nat} {a b c : World} (h : Only D a b) (k : Only D b c) : Only D a c :=
  ⟨k.os.trans h.os, k.tape.trans h.tape, k.output.trans h.output, Nat.le_trans h.size k.size, fun i hi hD => (k.block i (Nat.lt_of_lt_of_le hi h.size) hD).trans (h.block i hi hD)⟩
/-- .. the second step may turn blocks that the first one has made. -/
theorem Only.then {D E : List Nat} {a b c : World} (h : Only D a b) (k : Only E b c) (s : ∀ x ∈ E, x ∈ D ∨ a.heap.size ≤ x) : Only D a c :=
  ⟨k.os.trans h.os, k.tape.trans h.tape, k.output.trans h.output, Nat.le_trans h.size k.size, fun i hi hD => (k.block i (Nat.lt_of_lt_of_le hi h.size) (fun hE => by rcases s i hE with q | q; exact hD q; omega)).trans (h.block i hi hD)⟩
theorem Only.of_kept {D : List Nat} {w w' : World} (k : Kept w w') : Only D w w' :=
  ⟨k.below.os, k.below.tape, k.below.output, k.below.size, fun b hb _ => k.below.block b hb⟩
theorem Only.of_below {D : List Nat} {w w' : World} (k : Below w.heap.size w w') : Only D w w' :=
  ⟨k.os, k.tape, k.output, k.size, fun b hb _ => k.block b hb⟩
theorem Only.drew {D : List Nat} {a w : World} (h : Only D a w) : Only D a w.drew := ⟨h.os, h.tape, h.output, h.size, h.block⟩
theorem Only.setCell {D : List Nat} {a w : World} (h : Only D a w) {p : Addr} (hp : p.block ∈ D ∨ a.heap.size ≤ p.block) (v : Value) : Only D a (w.setCell p v) :=
  ⟨h.os, h.tape, h.output, by simpa [World.setCell] using h.size, fun b hb hD => by
    rw [Below.heap_setCell _ _ _ _ (fun e => by rcases hp with q | q; exact hD (e ▸ q); omega)]; exact h.block b hb hD⟩
theorem Only.alloc {D : List Nat} {a w : World} (h : Only D a w) (o : Obj) : Only D a (w.alloc o) :=
  ⟨h.os, h.tape, h.output, Nat.le_trans h.size (by simp), fun b hb hD => by rw [Below.heap_alloc _ _ _ (Nat.lt_of_lt_of_le hb h.size)]; exact h.block b hb hD⟩
theorem Only.grown {D : List Nat} {a w w' : World} {row : Option Nat} (h : Only D a w) (g : w.grownBy w' row) (s : ∀ k, row = some k → k ∈ D ∨ a.heap.size ≤ k) : Only D a w' :=
  ⟨g.os.trans h.os, g.tape.trans h.tape, g.output.trans h.output, Nat.le_trans h.size g.size, fun b hb hD => (g.block b (Nat.lt_of_lt_of_le hb h.size) (fun e => by rcases s b e.symm with q | q; exact hD q; omega)).trans (h.block b hb hD)⟩
theorem Only.below {D : List Nat} {w w' : World} (h : Only D w w') {B : Nat} (s : ∀ b ∈ D, B ≤ b) (hB : B ≤ w.heap.size) : Below B w w' :=
  ⟨h.os, h.tape, h.output, h.size, fun k hk => h.block k (by omega) (fun hD => by have := s k hD; omega)⟩
theorem Only.cell {D : List Nat} {w w' : World} (h : Only D w w') {a : Addr} {v : Value} (k : w.cell? a = some v) (s : a.block ∉ D) : w'.cell? a = some v := by
  have hb := h.block a.block (World.block_lt_of_cell? w a k) s
  rw [← k]; simp only [World.cell?, hb]
theorem Only.drewN {D : List Nat} (w : World) (k : Nat) : Only D w (w.drewN k) := ⟨rfl, rfl, rfl, Nat.le_refl _, fun _ _ _ => rfl⟩

end Go.Proofs.YtdhbcgdlmkkdfaaGreatDoor
