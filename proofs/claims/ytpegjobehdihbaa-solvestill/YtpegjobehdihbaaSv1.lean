/- Bodies as they lie in memory; gyrelaw.alone, gyrelaw.sameBodies: whatever the bodies. -/
import Derived.Test.YtpegjobehdihbaaBr1
import Derived.Test.YtpegjobehdihbaaVec6
import Derived.Deep.LoopGhost
namespace Go.Proofs.Ytpegjobehdihbaa
open Go.ChangeShapes Go.WideShapes Go.ChangeAt Go.RowKit
set_option linter.unusedVariables false
set_option linter.unusedSimpArgs false

structure Bd where
  (id ow kd sx sy sz ax ay az vx vy vz px py pz ms tm : Int)
def bd0 : Bd := ⟨0, 0, 0, 0, 0, 0, 0, 0, 0, 0, 0, 0, 0, 0, 0, 0, 0⟩
def bdV (b : Bd) : Value := .agg #[.int .i64 (b.id), .int .i64 (b.ow), .int .i64 (b.kd), .int .i64 (b.sx), .int .i64 (b.sy), .int .i64 (b.sz), .int .i64 (b.ax), .int .i64 (b.ay), .int .i64 (b.az), .int .i64 (b.vx), .int .i64 (b.vy), .int .i64 (b.vz), .int .i64 (b.px), .int .i64 (b.py), .int .i64 (b.pz), .int .i64 (b.ms), .int .i64 (b.tm)]
/-- A body's cells, one by one. -/
def bc (b : Bd) : Nat → Value
  | 0 => .int .i64 (b.id)
  | 1 => .int .i64 (b.ow)
  | 2 => .int .i64 (b.kd)
  | 3 => .int .i64 (b.sx)
  | 4 => .int .i64 (b.sy)
  | 5 => .int .i64 (b.sz)
  | 6 => .int .i64 (b.ax)
  | 7 => .int .i64 (b.ay)
  | 8 => .int .i64 (b.az)
  | 9 => .int .i64 (b.vx)
  | 10 => .int .i64 (b.vy)
  | 11 => .int .i64 (b.vz)
  | 12 => .int .i64 (b.px)
  | 13 => .int .i64 (b.py)
  | 14 => .int .i64 (b.pz)
  | 15 => .int .i64 (b.ms)
  | _ => .int .i64 (b.tm)
/-- The bodies of a slice. -/
def BodiesAt (w : World) (a : Option Addr) (n : Nat) (B : Nat → Bd) : Prop := ∀ j, j < n → ∃ g o, a = some ⟨g, o, none⟩ ∧ ∀ k, k < 17 → w.cell? ⟨g, o + j * 17 + k, none⟩ = some (bc (B j) k)
theorem cell_only {D : List Nat} {w w' : World} (o : Only D w w') {a : Addr} {v : Value} (h : w.cell? a = some v) (s : a.block ∉ D) : w'.cell? a = some v := by
  rw [World.cell?_of_block (w := w) (o.block a.block (World.block_lt_of_cell? w a h) s)]; exact h
theorem cell_old1 {w w' : World} (o : Only [] w w') {a : Addr} {v : Value} (h : w.cell? a = some v) : w'.cell? a = some v := cell_only o h (by simp)
theorem BodiesAt.only {w w' : World} {a : Option Addr} {n : Nat} {B : Nat → Bd} (h : BodiesAt w a n B) (o : Only [] w w') : BodiesAt w' a n B := by
  intro j hj
  obtain ⟨g, f, e, hc⟩ := h j hj
  exact ⟨g, f, e, fun k hk => cell_old1 o (hc k hk)⟩
/-- Two of a slice lie in one block. -/
theorem BodiesAt.two {w : World} {a : Option Addr} {n : Nat} {B : Nat → Bd} (h : BodiesAt w a n B) {i j : Nat} (hi : i < n) (hj : j < n) : ∃ g o, a = some ⟨g, o, none⟩ ∧ (∀ k, k < 17 → w.cell? ⟨g, o + i * 17 + k, none⟩ = some (bc (B i) k)) ∧ (∀ k, k < 17 → w.cell? ⟨g, o + j * 17 + k, none⟩ = some (bc (B j) k)) := by
  obtain ⟨g, o, e, c1⟩ := h i hi
  obtain ⟨g', o', e', c2⟩ := h j hj
  rw [e] at e'
  injection e' with e'; injection e' with e1 e2
  subst e1; subst e2
  exact ⟨g, o, e, c1, c2⟩
/-- No two have one number. -/
def Alone (n : Nat) (B : Nat → Bd) : Prop := ∀ i k, i < n → k < n → (B i).id = (B k).id → i = k
def AlonePost (n : Nat) (B : Nat → Bd) (w : World) (e : Ending) (w' : World) : Prop := ∃ v, e = .returned (.bool v) ∧ (v = true → Alone n B) ∧ Only [] w w'
end Go.Proofs.Ytpegjobehdihbaa
