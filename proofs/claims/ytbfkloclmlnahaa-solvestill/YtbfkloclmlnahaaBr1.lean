/- Nodes of broad's tree as they lie in memory, and what a call may turn: plain laws, no condition but those typed. -/
import Derived.Test.YtbfkloclmlnahaaHeld
import Derived.Deep.QuietTactic
import Derived.BigQuiet
namespace Go.Proofs.Ytbfkloclmlnahaa
open Go.ChangeShapes Go.WideShapes Go.ChangeAt Go.RowKit
set_option linter.unusedVariables false
set_option linter.unusedSimpArgs false

/-- A box, a node of the tree: what their cells hold. -/
structure Bx where
  x0 : Int
  x1 : Int
  x2 : Int
  x3 : Int
  x4 : Int
  x5 : Int
structure Nd where
  id : Int
  box : Bx
  room : Bx
  high : Int
  up : Option Nat
  l : Option Nat
  r : Option Nat
def bx0 : Bx := ⟨0, 0, 0, 0, 0, 0⟩
def ptr : Option Nat → Value
  | none => .pointer none
  | some b => .pointer (some ⟨b, 0, none⟩)
@[simp] theorem ptr_none : ptr none = .pointer none := rfl
@[simp] theorem ptr_some (b : Nat) : ptr (some b) = .pointer (some ⟨b, 0, none⟩) := rfl
def Bx.val (b : Bx) : Value := .agg #[.int .i64 (b.x0), .int .i64 (b.x1), .int .i64 (b.x2), .int .i64 (b.x3), .int .i64 (b.x4), .int .i64 (b.x5)]
def Nd.cells (n : Nd) : Array Value := #[.int .i64 (n.id), .int .i64 (n.box.x0), .int .i64 (n.box.x1), .int .i64 (n.box.x2), .int .i64 (n.box.x3), .int .i64 (n.box.x4), .int .i64 (n.box.x5), .int .i64 (n.room.x0), .int .i64 (n.room.x1), .int .i64 (n.room.x2), .int .i64 (n.room.x3), .int .i64 (n.room.x4), .int .i64 (n.room.x5), .int .i64 (n.high), ptr n.up, ptr n.l, ptr n.r]
def NodeAt (w : World) (b : Nat) (n : Nd) : Prop := w.heap[b]? = some (.cells n.cells 121)
def TreeAt (w : World) (t : Nat) (fat : Int) (root lv : Option Nat) : Prop := w.heap[t]? = some (.cells #[.int .i64 fat, ptr root, .map lv] 115)

theorem NodeAt.lt {w : World} {b : Nat} {n : Nd} (h : NodeAt w b n) : b < w.heap.size := (Array.getElem?_eq_some_iff.1 h).1
theorem TreeAt.lt {w : World} {b : Nat} {f : Int} {r l : Option Nat} (h : TreeAt w b f r l) : b < w.heap.size := (Array.getElem?_eq_some_iff.1 h).1
theorem NodeAt.off {w : World} {b : Nat} {n : Nd} (h : NodeAt w b n) (i : Nat) : w.cell? ⟨b, i, none⟩ = n.cells[i]? := by
  unfold NodeAt at h; simp [World.cell?, h]
theorem NodeAt.free {w : World} {b : Nat} {n : Nd} (h : NodeAt w b n) (i : Nat) : w.frozen? ⟨b, i, none⟩ = false := by
  unfold NodeAt at h; simp [World.frozen?, h]
theorem NodeAt.c0 {w : World} {b : Nat} {n : Nd} (h : NodeAt w b n) : w.cell? ⟨b, 0, none⟩ = some (.int .i64 (n.id)) := h.off 0
theorem NodeAt.c1 {w : World} {b : Nat} {n : Nd} (h : NodeAt w b n) : w.cell? ⟨b, 1, none⟩ = some (.int .i64 (n.box.x0)) := h.off 1
theorem NodeAt.c2 {w : World} {b : Nat} {n : Nd} (h : NodeAt w b n) : w.cell? ⟨b, 2, none⟩ = some (.int .i64 (n.box.x1)) := h.off 2
theorem NodeAt.c3 {w : World} {b : Nat} {n : Nd} (h : NodeAt w b n) : w.cell? ⟨b, 3, none⟩ = some (.int .i64 (n.box.x2)) := h.off 3
theorem NodeAt.c4 {w : World} {b : Nat} {n : Nd} (h : NodeAt w b n) : w.cell? ⟨b, 4, none⟩ = some (.int .i64 (n.box.x3)) := h.off 4
theorem NodeAt.c5 {w : World} {b : Nat} {n : Nd} (h : NodeAt w b n) : w.cell? ⟨b, 5, none⟩ = some (.int .i64 (n.box.x4)) := h.off 5
theorem NodeAt.c6 {w : World} {b : Nat} {n : Nd} (h : NodeAt w b n) : w.cell? ⟨b, 6, none⟩ = some (.int .i64 (n.box.x5)) := h.off 6
theorem NodeAt.c7 {w : World} {b : Nat} {n : Nd} (h : NodeAt w b n) : w.cell? ⟨b, 7, none⟩ = some (.int .i64 (n.room.x0)) := h.off 7
theorem NodeAt.c8 {w : World} {b : Nat} {n : Nd} (h : NodeAt w b n) : w.cell? ⟨b, 8, none⟩ = some (.int .i64 (n.room.x1)) := h.off 8
theorem NodeAt.c9 {w : World} {b : Nat} {n : Nd} (h : NodeAt w b n) : w.cell? ⟨b, 9, none⟩ = some (.int .i64 (n.room.x2)) := h.off 9
theorem NodeAt.c10 {w : World} {b : Nat} {n : Nd} (h : NodeAt w b n) : w.cell? ⟨b, 10, none⟩ = some (.int .i64 (n.room.x3)) := h.off 10
theorem NodeAt.c11 {w : World} {b : Nat} {n : Nd} (h : NodeAt w b n) : w.cell? ⟨b, 11, none⟩ = some (.int .i64 (n.room.x4)) := h.off 11
theorem NodeAt.c12 {w : World} {b : Nat} {n : Nd} (h : NodeAt w b n) : w.cell? ⟨b, 12, none⟩ = some (.int .i64 (n.room.x5)) := h.off 12
theorem NodeAt.c13 {w : World} {b : Nat} {n : Nd} (h : NodeAt w b n) : w.cell? ⟨b, 13, none⟩ = some (.int .i64 (n.high)) := h.off 13
theorem NodeAt.c14 {w : World} {b : Nat} {n : Nd} (h : NodeAt w b n) : w.cell? ⟨b, 14, none⟩ = some (ptr n.up) := h.off 14
theorem NodeAt.c15 {w : World} {b : Nat} {n : Nd} (h : NodeAt w b n) : w.cell? ⟨b, 15, none⟩ = some (ptr n.l) := h.off 15
theorem NodeAt.c16 {w : World} {b : Nat} {n : Nd} (h : NodeAt w b n) : w.cell? ⟨b, 16, none⟩ = some (ptr n.r) := h.off 16
theorem TreeAt.c0 {w : World} {b : Nat} {f : Int} {r l : Option Nat} (h : TreeAt w b f r l) : w.cell? ⟨b, 0, none⟩ = some (.int .i64 f) := by unfold TreeAt at h; simp [World.cell?, h]
theorem TreeAt.c1 {w : World} {b : Nat} {f : Int} {r l : Option Nat} (h : TreeAt w b f r l) : w.cell? ⟨b, 1, none⟩ = some (ptr r) := by unfold TreeAt at h; simp [World.cell?, h]
theorem TreeAt.c2 {w : World} {b : Nat} {f : Int} {r l : Option Nat} (h : TreeAt w b f r l) : w.cell? ⟨b, 2, none⟩ = some (.map l) := by unfold TreeAt at h; simp [World.cell?, h]
theorem TreeAt.free {w : World} {b : Nat} {f : Int} {r l : Option Nat} (h : TreeAt w b f r l) (i : Nat) : w.frozen? ⟨b, i, none⟩ = false := by unfold TreeAt at h; simp [World.frozen?, h]

/-- A store into one cell of a block. -/
theorem heap_put {w : World} {b : Nat} {c : Array Value} {t : TypeId} (h : w.heap[b]? = some (.cells c t)) (i : Nat) (v : Value) : (w.setCell ⟨b, i, none⟩ v).heap[b]? = some (.cells (c.setIfInBounds i v) t) := by
  simp only [World.setCell, Array.getElem?_modify, if_true, h, Option.map_some]; rfl
theorem NodeAt.putHigh {w : World} {b : Nat} {n : Nd} (h : NodeAt w b n) (k : Int) : NodeAt (w.setCell ⟨b, 13, none⟩ (.int .i64 k)) b { n with high := k } := heap_put h _ _
theorem NodeAt.putUp {w : World} {b : Nat} {n : Nd} (h : NodeAt w b n) (k : Option Nat) : NodeAt (w.setCell ⟨b, 14, none⟩ (ptr k)) b { n with up := k } := heap_put h _ _
theorem NodeAt.putL {w : World} {b : Nat} {n : Nd} (h : NodeAt w b n) (k : Option Nat) : NodeAt (w.setCell ⟨b, 15, none⟩ (ptr k)) b { n with l := k } := heap_put h _ _
theorem NodeAt.putR {w : World} {b : Nat} {n : Nd} (h : NodeAt w b n) (k : Option Nat) : NodeAt (w.setCell ⟨b, 16, none⟩ (ptr k)) b { n with r := k } := heap_put h _ _
theorem NodeAt.putRoom {w : World} {b : Nat} {n : Nd} (h : NodeAt w b n) (k : Bx) : NodeAt ((((((w.setCell ⟨b, 7, none⟩ (.int .i64 (k.x0))).setCell ⟨b, 8, none⟩ (.int .i64 (k.x1))).setCell ⟨b, 9, none⟩ (.int .i64 (k.x2))).setCell ⟨b, 10, none⟩ (.int .i64 (k.x3))).setCell ⟨b, 11, none⟩ (.int .i64 (k.x4))).setCell ⟨b, 12, none⟩ (.int .i64 (k.x5))) b { n with room := k } :=
  heap_put (heap_put (heap_put (heap_put (heap_put (heap_put h _ _) _ _) _ _) _ _) _ _) _ _
theorem NodeAt.putBox {w : World} {b : Nat} {n : Nd} (h : NodeAt w b n) (k : Bx) : NodeAt ((((((w.setCell ⟨b, 1, none⟩ (.int .i64 (k.x0))).setCell ⟨b, 2, none⟩ (.int .i64 (k.x1))).setCell ⟨b, 3, none⟩ (.int .i64 (k.x2))).setCell ⟨b, 4, none⟩ (.int .i64 (k.x3))).setCell ⟨b, 5, none⟩ (.int .i64 (k.x4))).setCell ⟨b, 6, none⟩ (.int .i64 (k.x5))) b { n with box := k } :=
  heap_put (heap_put (heap_put (heap_put (heap_put (heap_put h _ _) _ _) _ _) _ _) _ _) _ _
theorem TreeAt.putRoot {w : World} {b : Nat} {f : Int} {r l : Option Nat} (h : TreeAt w b f r l) (k : Option Nat) : TreeAt (w.setCell ⟨b, 1, none⟩ (ptr k)) b f k l := heap_put h _ _
theorem TreeAt.putMap {w : World} {b : Nat} {f : Int} {r l : Option Nat} (h : TreeAt w b f r l) (k : Option Nat) : TreeAt (w.setCell ⟨b, 2, none⟩ (.map k)) b f r k := heap_put h _ _

/-- Of the blocks that were there those of D alone may have turned. -/
structure Only (D : List Nat) (w w' : World) : Prop where
  os : w'.os = w.os
  tape : w'.tape = w.tape
  output : w'.output = w.output
  size : w.heap.size ≤ w'.heap.size
  block : ∀ b, b < w.heap.size → b ∉ D → w'.heap[b]? = w.heap[b]?
theorem Only.refl (D : List Nat) (w : World) : Only D w w := ⟨rfl, rfl, rfl, Nat.le_refl _, fun _ _ _ => rfl⟩
theorem Only.mono {D E : List Nat} {w w' : World} (h : Only D w w') (s : ∀ b ∈ D, b ∈ E ∨ w.heap.size ≤ b) : Only E w w' :=
  ⟨h.os, h.tape, h.output, h.size, fun b hb hE => h.block b hb (fun hD => by rcases s b hD with k | k; exact hE k; omega)⟩
theorem Only.trans {D : List Nat} {a b c : World} (h : Only D a b) (k : Only D b c) : Only D a c :=
  ⟨k.os.trans h.os, k.tape.trans h.tape, k.output.trans h.output, Nat.le_trans h.size k.size, fun i hi hD => (k.block i (Nat.lt_of_lt_of_le hi h.size) hD).trans (h.block i hi hD)⟩
/-- .. the second step may turn blocks that the first one has made. -/
theorem Only.then {D E : List Nat} {a b c : World} (h : Only D a b) (k : Only E b c) (s : ∀ x ∈ E, x ∈ D ∨ a.heap.size ≤ x) : Only D a c :=
  ⟨k.os.trans h.os, k.tape.trans h.tape, k.output.trans h.output, Nat.le_trans h.size k.size, fun i hi hD => (k.block i (Nat.lt_of_lt_of_le hi h.size) (fun hE => by rcases s i hE with q | q; exact hD q; omega)).trans (h.block i hi hD)⟩
theorem Only.of_kept {D : List Nat} {w w' : World} (k : Kept w w') : Only D w w' :=
  ⟨k.below.os, k.below.tape, k.below.output, k.below.size, fun b hb _ => k.below.block b hb⟩
theorem Only.drew {D : List Nat} {a w : World} (h : Only D a w) : Only D a w.drew := ⟨h.os, h.tape, h.output, h.size, h.block⟩
theorem Only.setCell {D : List Nat} {a w : World} (h : Only D a w) {p : Addr} (hp : p.block ∈ D ∨ a.heap.size ≤ p.block) (v : Value) : Only D a (w.setCell p v) :=
  ⟨h.os, h.tape, h.output, by simpa [World.setCell] using h.size, fun b hb hD => by
    rw [Below.heap_setCell _ _ _ _ (fun e => by rcases hp with q | q; exact hD (e ▸ q); omega)]; exact h.block b hb hD⟩
theorem Only.alloc {D : List Nat} {a w : World} (h : Only D a w) (o : Obj) : Only D a (w.alloc o) :=
  ⟨h.os, h.tape, h.output, Nat.le_trans h.size (by simp), fun b hb hD => by rw [Below.heap_alloc _ _ _ (Nat.lt_of_lt_of_le hb h.size)]; exact h.block b hb hD⟩
theorem Only.grown {D : List Nat} {a w w' : World} {row : Option Nat} (h : Only D a w) (g : w.grownBy w' row) (s : ∀ k, row = some k → k ∈ D ∨ a.heap.size ≤ k) : Only D a w' :=
  ⟨g.os.trans h.os, g.tape.trans h.tape, g.output.trans h.output, Nat.le_trans h.size g.size, fun b hb hD => (g.block b (Nat.lt_of_lt_of_le hb h.size) (fun e => by rcases s b e.symm with q | q; exact hD q; omega)).trans (h.block b hb hD)⟩
theorem Only.below {D : List Nat} {w w' : World} (h : Only D w w') {B : Nat} (s : ∀ b ∈ D, B ≤ b) (hB : B ≤ w.heap.size) : Below B w w' :=
  ⟨h.os, h.tape, h.output, h.size, fun k hk => h.block k (by omega) (fun hD => by have := s k hD; omega)⟩
theorem Only.node {D : List Nat} {w w' : World} (h : Only D w w') {b : Nat} (s : b ∉ D) {n : Nd} (k : NodeAt w b n) : NodeAt w' b n := (h.block b k.lt s).trans k
theorem Only.tree {D : List Nat} {w w' : World} (h : Only D w w') {b : Nat} (s : b ∉ D) {f : Int} {r l : Option Nat} (k : TreeAt w b f r l) : TreeAt w' b f r l := (h.block b k.lt s).trans k
theorem NodeAt.drewN {w : World} {b : Nat} {n : Nd} (h : NodeAt w b n) (k : Nat) : NodeAt (w.drewN k) b n := h
theorem NodeAt.drew {w : World} {b : Nat} {n : Nd} (h : NodeAt w b n) : NodeAt w.drew b n := h
theorem NodeAt.kept {w w' : World} {b : Nat} {n : Nd} (h : NodeAt w b n) (k : Kept w w') : NodeAt w' b n := (k.below.block b h.lt).trans h
theorem NodeAt.far {w : World} {b : Nat} {n : Nd} (h : NodeAt w b n) {p : Addr} (hp : b ≠ p.block) (v : Value) : NodeAt (w.setCell p v) b n := (Below.heap_setCell _ _ _ _ hp).trans h
theorem TreeAt.far {w : World} {b : Nat} {f : Int} {r l : Option Nat} (h : TreeAt w b f r l) {p : Addr} (hp : b ≠ p.block) (v : Value) : TreeAt (w.setCell p v) b f r l := (Below.heap_setCell _ _ _ _ hp).trans h
theorem Only.drewN {D : List Nat} (w : World) (k : Nat) : Only D w (w.drewN k) := ⟨rfl, rfl, rfl, Nat.le_refl _, fun _ _ _ => rfl⟩
end Go.Proofs.Ytbfkloclmlnahaa
