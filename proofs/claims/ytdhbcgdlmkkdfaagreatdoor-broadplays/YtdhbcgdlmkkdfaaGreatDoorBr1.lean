/- Nodes of broad's tree as they lie in memory, and what a call may turn: plain laws, no condition but those typed. -/
import Derived.Test.YtdhbcgdlmkkdfaaGreatDoorOnl
import Derived.Deep.QuietTactic
import Derived.BigQuiet
namespace Go.Proofs.YtdhbcgdlmkkdfaaGreatDoor
open Go.ChangeShapes Go.WideShapes Go.ChangeAt Go.RowKit
set_option linter.unusedVariables false
set_option linter.unusedSimpArgs false

/-- A box, a node of the tree: what their cells hold. -/
structure Bx where
  x0 : Int
  x1 : Int
  x2 : Int
  x3 : Int
  x4 : Int
  x5 : Int
structure Nd where
  id : Int
  box : Bx
  room : Bx
  high : Int
  up : Option Nat
  l : Option Nat
  r : Option Nat
def bx0 : Bx := ⟨0, 0, 0, 0, 0, 0⟩
def ptr : Option Nat → Value
  | none => .pointer none
  | some b => .pointer (some ⟨b, 0, none⟩)
@[simp] theorem ptr_none : ptr none = .pointer none := rfl
@[simp] theorem ptr_some (b : Nat) : ptr (some b) = .pointer (some ⟨b, 0, none⟩) := rfl
def Bx.val (b : Bx) : Value := .agg #[.int .i64 (b.x0), .int .i64 (b.x1), .int .i64 (b.x2), .int .i64 (b.x3), .int .i64 (b.x4), .int .i64 (b.x5)]
def Nd.cells (n : Nd) : Array Value := #[.int .i64 (n.id), .int .i64 (n.box.x0), .int .i64 (n.box.x1), .int .i64 (n.box.x2), .int .i64 (n.box.x3), .int .i64 (n.box.x4), .int .i64 (n.box.x5), .int .i64 (n.room.x0), .int .i64 (n.room.x1), .int .i64 (n.room.x2), .int .i64 (n.room.x3), .int .i64 (n.room.x4), .int .i64 (n.room.x5), .int .i64 (n.high), ptr n.up, ptr n.l, ptr n.r]
def NodeAt (w : World) (b : Nat) (n : Nd) : Prop := w.heap[b]? = some (.cells n.cells 63)
def TreeAt (w : World) (t : Nat) (fat : Int) (root lv : Option Nat) : Prop := w.heap[t]? = some (.cells #[.int .i64 fat, ptr root, .map lv] 55)

theorem NodeAt.lt {w : World} {b : Nat} {n : Nd} (h : NodeAt w b n) : b < w.heap.size := (Array.getElem?_eq_some_iff.1 h).1
theorem TreeAt.lt {w : World} {b : Nat} {f : Int} {r l : Option Nat} (h : TreeAt w b f r l) : b < w.heap.size := (Array.getElem?_eq_some_iff.1 h).1
theorem NodeAt.off {w : World} {b : Nat} {n : Nd} (h : NodeAt w b n) (i : Nat) : w.cell? ⟨b, i, none⟩ = n.cells[i]? := by
  unfold NodeAt at h; simp [World.cell?, h]
theorem NodeAt.free {w : World} {b : Nat} {n : Nd} (h : NodeAt w b n) (i : Nat) : w.frozen? ⟨b, i, none⟩ = false := by
  unfold NodeAt at h; simp [World.frozen?, h]
theorem NodeAt.c0 {w : World} {b : Nat} {n : Nd} (h : NodeAt w b n) : w.cell? ⟨b, 0, none⟩ = some (.int .i64 (n.id)) := h.off 0
theorem NodeAt.c1 {w : World} {b : Nat} {n : Nd} (h : NodeAt w b n) : w.cell? ⟨b, 1, none⟩ = some (.int .i64 (n.box.x0)) := h.off 1
theorem NodeAt.c2 {w : World} {b : Nat} {n : Nd} (h : NodeAt w b n) : w.cell? ⟨b, 2, none⟩ = some (.int .i64 (n.box.x1)) := h.off 2
theorem NodeAt.c3 {w : World} {b : Nat} {n : Nd} (h : NodeAt w b n) : w.cell? ⟨b, 3, none⟩ = some (.int .i64 (n.box.x2)) := h.off 3
theorem NodeAt.c4 {w : World} {b : Nat} {n : Nd} (h : NodeAt w b n) : w.cell? ⟨b, 4, none⟩ = some (.int .i64 (n.box.x3)) := h.off 4
theorem NodeAt.c5 {w : World} {b : Nat} {n : Nd} (h : NodeAt w b n) : w.cell? ⟨b, 5, none⟩ = some (.int .i64 (n.box.x4)) := h.off 5
theorem NodeAt.c6 {w : World} {b : Nat} {n : Nd} (h : NodeAt w b n) : w.cell? ⟨b, 6, none⟩ = some (.int .i64 (n.box.x5)) := h.off 6
theorem NodeAt.c7 {w : World} {b : Nat} {n : Nd} (h : NodeAt w b n) : w.cell? ⟨b, 7, none⟩ = some (.int .i64 (n.room.x0)) := h.off 7
theorem NodeAt.c8 {w : World} {b : Nat} {n : Nd} (h : NodeAt w b n) : w.cell? ⟨b, 8, none⟩ = some (.int .i64 (n.room.x1)) := h.off 8
theorem NodeAt.c9 {w : World} {b : Nat} {n : Nd} (h : NodeAt w b n) : w.cell? ⟨b, 9, none⟩ = some (.int .i64 (n.room.x2)) := h.off 9
theorem NodeAt.c10 {w : World} {b : Nat} {n : Nd} (h : NodeAt w b n) : w.cell? ⟨b, 10, none⟩ = some (.int .i64 (n.room.x3)) := h.off 10
theorem NodeAt.c11 {w : World} {b : Nat} {n : Nd} (h : NodeAt w b n) : w.cell? ⟨b, 11, none⟩ = some (.int .i64 (n.room.x4)) := h.off 11
theorem NodeAt.c12 {w : World} {b : Nat} {n : Nd} (h : NodeAt w b n) : w.cell? ⟨b, 12, none⟩ = some (.int .i64 (n.room.x5)) := h.off 12
theorem NodeAt.c13 {w : World} {b : Nat} {n : Nd} (h : NodeAt w b n) : w.cell? ⟨b, 13, none⟩ = some (.int .i64 (n.high)) := h.off 13
theorem NodeAt.c14 {w : World} {b : Nat} {n : Nd} (h : NodeAt w b n) : w.cell? ⟨b, 14, none⟩ = some (ptr n.up) := h.off 14
theorem NodeAt.c15 {w : World} {b : Nat} {n : Nd} (h : NodeAt w b n) : w.cell? ⟨b, 15, none⟩ = some (ptr n.l) := h.off 15
theorem NodeAt.c16 {w : World} {b : Nat} {n : Nd} (h : NodeAt w b n) : w.cell? ⟨b, 16, none⟩ = some (ptr n.r) := h.off 16
theorem TreeAt.c0 {w : World} {b : Nat} {f : Int} {r l : Option Nat} (h : TreeAt w b f r l) : w.cell? ⟨b, 0, none⟩ = some (.int .i64 f) := by unfold TreeAt at h; simp [World.cell?, h]
theorem TreeAt.c1 {w : World} {b : Nat} {f : Int} {r l : Option Nat} (h : TreeAt w b f r l) : w.cell? ⟨b, 1, none⟩ = some (ptr r) := by unfold TreeAt at h; simp [World.cell?, h]
theorem TreeAt.c2 {w : World} {b : Nat} {f : Int} {r l : Option Nat} (h : TreeAt w b f r l) : w.cell? ⟨b, 2, none⟩ = some (.map l) := by unfold TreeAt at h; simp [World.cell?, h]
theorem TreeAt.free {w : World} {b : Nat} {f : Int} {r l : Option Nat} (h : TreeAt w b f r l) (i : Nat) : w.frozen? ⟨b, i, none⟩ = false := by unfold TreeAt at h; simp [World.frozen?, h]

theorem NodeAt.putHigh {w : World} {b : Nat} {n : Nd} (h : NodeAt w b n) (k : Int) : NodeAt (w.setCell ⟨b, 13, none⟩ (.int .i64 k)) b { n with high := k } := heap_put h _ _
theorem NodeAt.putUp {w : World} {b : Nat} {n : Nd} (h : NodeAt w b n) (k : Option Nat) : NodeAt (w.setCell ⟨b, 14, none⟩ (ptr k)) b { n with up := k } := heap_put h _ _
theorem NodeAt.putL {w : World} {b : Nat} {n : Nd} (h : NodeAt w b n) (k : Option Nat) : NodeAt (w.setCell ⟨b, 15, none⟩ (ptr k)) b { n with l := k } := heap_put h _ _
theorem NodeAt.putR {w : World} {b : Nat} {n : Nd} (h : NodeAt w b n) (k : Option Nat) : NodeAt (w.setCell ⟨b, 16, none⟩ (ptr k)) b { n with r := k } := heap_put h _ _
theorem NodeAt.putRoom {w : World} {b : Nat} {n : Nd} (h : NodeAt w b n) (k : Bx) : NodeAt ((((((w.setCell ⟨b, 7, none⟩ (.int .i64 (k.x0))).setCell ⟨b, 8, none⟩ (.int .i64 (k.x1))).setCell ⟨b, 9, none⟩ (.int .i64 (k.x2))).setCell ⟨b, 10, none⟩ (.int .i64 (k.x3))).setCell ⟨b, 11, none⟩ (.int .i64 (k.x4))).setCell ⟨b, 12, none⟩ (.int .i64 (k.x5))) b { n with room := k } :=
  heap_put (heap_put (heap_put (heap_put (heap_put (heap_put h _ _) _ _) _ _) _ _) _ _) _ _
theorem NodeAt.putBox {w : World} {b : Nat} {n : Nd} (h : NodeAt w b n) (k : Bx) : NodeAt ((((((w.setCell ⟨b, 1, none⟩ (.int .i64 (k.x0))).setCell ⟨b, 2, none⟩ (.int .i64 (k.x1))).setCell ⟨b, 3, none⟩ (.int .i64 (k.x2))).setCell ⟨b, 4, none⟩ (.int .i64 (k.x3))).setCell ⟨b, 5, none⟩ (.int .i64 (k.x4))).setCell ⟨b, 6, none⟩ (.int .i64 (k.x5))) b { n with box := k } :=
  heap_put (heap_put (heap_put (heap_put (heap_put (heap_put h _ _) _ _) _ _) _ _) _ _) _ _
theorem TreeAt.putRoot {w : World} {b : Nat} {f : Int} {r l : Option Nat} (h : TreeAt w b f r l) (k : Option Nat) : TreeAt (w.setCell ⟨b, 1, none⟩ (ptr k)) b f k l := heap_put h _ _
theorem TreeAt.putMap {w : World} {b : Nat} {f : Int} {r l : Option Nat} (h : TreeAt w b f r l) (k : Option Nat) : TreeAt (w.setCell ⟨b, 2, none⟩ (.map k)) b f r k := heap_put h _ _

theorem Only.node {D : List Nat} {w w' : World} (h : Only D w w') {b : Nat} (s : b ∉ D) {n : Nd} (k : NodeAt w b n) : NodeAt w' b n := (h.block b k.lt s).trans k
theorem Only.tree {D : List Nat} {w w' : World} (h : Only D w w') {b : Nat} (s : b ∉ D) {f : Int} {r l : Option Nat} (k : TreeAt w b f r l) : TreeAt w' b f r l := (h.block b k.lt s).trans k
theorem NodeAt.drewN {w : World} {b : Nat} {n : Nd} (h : NodeAt w b n) (k : Nat) : NodeAt (w.drewN k) b n := h
theorem NodeAt.drew {w : World} {b : Nat} {n : Nd} (h : NodeAt w b n) : NodeAt w.drew b n := h
theorem NodeAt.kept {w w' : World} {b : Nat} {n : Nd} (h : NodeAt w b n) (k : Kept w w') : NodeAt w' b n := (k.below.block b h.lt).trans h
theorem NodeAt.far {w : World} {b : Nat} {n : Nd} (h : NodeAt w b n) {p : Addr} (hp : b ≠ p.block) (v : Value) : NodeAt (w.setCell p v) b n := (Below.heap_setCell _ _ _ _ hp).trans h
theorem TreeAt.far {w : World} {b : Nat} {f : Int} {r l : Option Nat} (h : TreeAt w b f r l) {p : Addr} (hp : b ≠ p.block) (v : Value) : TreeAt (w.setCell p v) b f r l := (Below.heap_setCell _ _ _ _ hp).trans h
end Go.Proofs.YtdhbcgdlmkkdfaaGreatDoor
