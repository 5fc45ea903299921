/- Nodes of broad's tree as they lie in memory, and what a call may turn: plain laws, no condition but those typed. -/
import Derived.Test.YtpegjobehdihbaaOnl
import Derived.Deep.QuietTactic
import Derived.BigQuiet
namespace Go.Proofs.Ytpegjobehdihbaa
open Go.ChangeShapes Go.WideShapes Go.ChangeAt Go.RowKit
set_option linter.unusedVariables false
set_option linter.unusedSimpArgs false

/-- A box, a node of the tree: what their cells hold. -/
structure Bx where
  x0 : Int
  x1 : Int
  x2 : Int
  x3 : Int
  x4 : Int
  x5 : Int
structure Nd where
  id : Int
  box : Bx
  room : Bx
  high : Int
  up : Option Nat
  l : Option Nat
  r : Option Nat
def bx0 : Bx := ⟨0, 0, 0, 0, 0, 0⟩
def ptr : Option Nat → Value
  | none => .pointer none
  | some b => .pointer (some ⟨b, 0, none⟩)
@[simp] theorem ptr_none : ptr none = .pointer none := rfl
@[simp] theorem ptr_some (b : Nat) : ptr (some b) = .pointer (some ⟨b, 0, none⟩) := rfl
def Bx.val (b : Bx) : Value := .agg #[.int .i64 (b.x0), .int .i64 (b.x1), .int .i64 (b.x2), .int .i64 (b.x3), .int .i64 (b.x4), .int .i64 (b.x5)]
def Nd.cells (n : Nd) : Array Value := #[.int .i64 (n.id), .int .i64 (n.box.x0), .int .i64 (n.box.x1), .int .i64 (n.box.x2), .int .i64 (n.box.x3), .int .i64 (n.box.x4), .int .i64 (n.box.x5), .int .i64 (n.room.x0), .int .i64 (n.room.x1), .int .i64 (n.room.x2), .int .i64 (n.room.x3), .int .i64 (n.room.x4), .int .i64 (n.room.x5), .int .i64 (n.high), ptr n.up, ptr n.l, ptr n.r]
end Go.Proofs.Ytpegjobehdihbaa
