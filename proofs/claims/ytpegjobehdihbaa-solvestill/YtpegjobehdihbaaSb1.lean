/- A body read whole out of memory, and held against itself: one law each. -/
import Derived.Test.YtpegjobehdihbaaSv3
namespace Go.Proofs.Ytpegjobehdihbaa
open Go.ChangeShapes Go.WideShapes Go.ChangeAt Go.RowKit
set_option linter.unusedVariables false
set_option linter.unusedSimpArgs false

def AllO (w : World) (g o : Nat) (q : Bd) : Prop := w.cell? ⟨g, o, none⟩ = some (.int .i64 (q.id)) ∧ w.cell? ⟨g, o + 1, none⟩ = some (.int .i64 (q.ow)) ∧ w.cell? ⟨g, o + 2, none⟩ = some (.int .i64 (q.kd)) ∧ w.cell? ⟨g, o + 3, none⟩ = some (.int .i64 (q.sx)) ∧ w.cell? ⟨g, o + 4, none⟩ = some (.int .i64 (q.sy)) ∧ w.cell? ⟨g, o + 5, none⟩ = some (.int .i64 (q.sz)) ∧ w.cell? ⟨g, o + 6, none⟩ = some (.int .i64 (q.ax)) ∧ w.cell? ⟨g, o + 7, none⟩ = some (.int .i64 (q.ay)) ∧ w.cell? ⟨g, o + 8, none⟩ = some (.int .i64 (q.az)) ∧ w.cell? ⟨g, o + 9, none⟩ = some (.int .i64 (q.vx)) ∧ w.cell? ⟨g, o + 10, none⟩ = some (.int .i64 (q.vy)) ∧ w.cell? ⟨g, o + 11, none⟩ = some (.int .i64 (q.vz)) ∧ w.cell? ⟨g, o + 12, none⟩ = some (.int .i64 (q.px)) ∧ w.cell? ⟨g, o + 13, none⟩ = some (.int .i64 (q.py)) ∧ w.cell? ⟨g, o + 14, none⟩ = some (.int .i64 (q.pz)) ∧ w.cell? ⟨g, o + 15, none⟩ = some (.int .i64 (q.ms)) ∧ w.cell? ⟨g, o + 16, none⟩ = some (.int .i64 (q.tm))
theorem AllO.only {w w' : World} {g o : Nat} {q : Bd} (h : AllO w g o q) (k : Only [] w w') : AllO w' g o q := by
  obtain ⟨d0, d1, d2, d3, d4, d5, d6, d7, d8, d9, d10, d11, d12, d13, d14, d15, d16⟩ := h
  exact ⟨cell_old1 k d0, cell_old1 k d1, cell_old1 k d2, cell_old1 k d3, cell_old1 k d4, cell_old1 k d5, cell_old1 k d6, cell_old1 k d7, cell_old1 k d8, cell_old1 k d9, cell_old1 k d10, cell_old1 k d11, cell_old1 k d12, cell_old1 k d13, cell_old1 k d14, cell_old1 k d15, cell_old1 k d16⟩
theorem BodiesAt.allO {w : World} {a : Option Addr} {n : Nat} {B : Nat → Bd} (h : BodiesAt w a n B) {i : Nat} (hi : i < n) : ∃ g o, a = some ⟨g, o, none⟩ ∧ AllO w g (o + i * 17) (B i) := by
  obtain ⟨g, o, e, c⟩ := h i hi
  exact ⟨g, o, e, c 0 (by omega), c 1 (by omega), c 2 (by omega), c 3 (by omega), c 4 (by omega), c 5 (by omega), c 6 (by omega), c 7 (by omega), c 8 (by omega), c 9 (by omega), c 10 (by omega), c 11 (by omega), c 12 (by omega), c 13 (by omega), c 14 (by omega), c 15 (by omega), c 16 (by omega)⟩
set_option maxRecDepth 100000 in
theorem load_bd {ρ : Operand → Value} {op : Oper} {w : World} {g o k : Nat} {q : Bd} (ho : op.op = .load 30 (.tmp k)) (hk : ρ (.tmp k) = .pointer (some ⟨g, o, none⟩)) (h : AllO w g o q) : (execOp ρ op).run Try.prog w = .ok (.value (bdV q)) w := by
  obtain ⟨d0, d1, d2, d3, d4, d5, d6, d7, d8, d9, d10, d11, d12, d13, d14, d15, d16⟩ := h
  simp only [execOp, ho, hk]
  go_simp <;> rfl
set_option maxRecDepth 100000 in
theorem neq_bd {ρ : Operand → Value} {op : Oper} {w : World} {j k : Nat} {q : Bd} (ho : op.op = .binOp .neq 30 (.tmp j) (.tmp k) 30) (hj : ρ (.tmp j) = bdV q) (hk : ρ (.tmp k) = bdV q) : (execOp ρ op).run Try.prog w = .ok (.value (.bool false)) w := by
  simp only [execOp, ho, hj, hk, bdV]
  go_simp <;> rfl
end Go.Proofs.Ytpegjobehdihbaa
