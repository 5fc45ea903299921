/- gyreref.Places: whatever the bodies and the touches. -/
import Derived.Test.YtpegjobehdihbaaSv8
import Derived.Test.YtpegjobehdihbaaLate
namespace Go.Proofs.Ytpegjobehdihbaa
open Go.ChangeShapes Go.WideShapes Go.ChangeAt Go.RowKit
set_option linter.unusedVariables false
set_option linter.unusedSimpArgs false

def AllAt (w : World) (g i : Nat) (q : Bd) : Prop := w.cell? ⟨g, i * 17, none⟩ = some (.int .i64 (q.id)) ∧ w.cell? ⟨g, i * 17 + 1, none⟩ = some (.int .i64 (q.ow)) ∧ w.cell? ⟨g, i * 17 + 2, none⟩ = some (.int .i64 (q.kd)) ∧ w.cell? ⟨g, i * 17 + 3, none⟩ = some (.int .i64 (q.sx)) ∧ w.cell? ⟨g, i * 17 + 4, none⟩ = some (.int .i64 (q.sy)) ∧ w.cell? ⟨g, i * 17 + 5, none⟩ = some (.int .i64 (q.sz)) ∧ w.cell? ⟨g, i * 17 + 6, none⟩ = some (.int .i64 (q.ax)) ∧ w.cell? ⟨g, i * 17 + 7, none⟩ = some (.int .i64 (q.ay)) ∧ w.cell? ⟨g, i * 17 + 8, none⟩ = some (.int .i64 (q.az)) ∧ w.cell? ⟨g, i * 17 + 9, none⟩ = some (.int .i64 (q.vx)) ∧ w.cell? ⟨g, i * 17 + 10, none⟩ = some (.int .i64 (q.vy)) ∧ w.cell? ⟨g, i * 17 + 11, none⟩ = some (.int .i64 (q.vz)) ∧ w.cell? ⟨g, i * 17 + 12, none⟩ = some (.int .i64 (q.px)) ∧ w.cell? ⟨g, i * 17 + 13, none⟩ = some (.int .i64 (q.py)) ∧ w.cell? ⟨g, i * 17 + 14, none⟩ = some (.int .i64 (q.pz)) ∧ w.cell? ⟨g, i * 17 + 15, none⟩ = some (.int .i64 (q.ms)) ∧ w.cell? ⟨g, i * 17 + 16, none⟩ = some (.int .i64 (q.tm))
theorem OwnB.all {w : World} {g n : Nat} {B : Nat → Bd} (h : OwnB w g n B) {i : Nat} (hi : i < n) {q : Bd} (hq : q = B i) : AllAt w g i q := by
  subst hq
  have c : ∀ k, k < 17 → w.cell? ⟨g, i * 17 + k, none⟩ = some (bc (B i) k) := fun k hk => h.cell hi hk
  exact ⟨c 0 (by omega), c 1 (by omega), c 2 (by omega), c 3 (by omega), c 4 (by omega), c 5 (by omega), c 6 (by omega), c 7 (by omega), c 8 (by omega), c 9 (by omega), c 10 (by omega), c 11 (by omega), c 12 (by omega), c 13 (by omega), c 14 (by omega), c 15 (by omega), c 16 (by omega)⟩
theorem AllAt.kept {w w' : World} {g i : Nat} {q : Bd} (h : AllAt w g i q) (k : Kept w w') : AllAt w' g i q := by
  obtain ⟨h0, h1, h2, h3, h4, h5, h6, h7, h8, h9, h10, h11, h12, h13, h14, h15, h16⟩ := h
  exact ⟨kept_cell k h0, kept_cell k h1, kept_cell k h2, kept_cell k h3, kept_cell k h4, kept_cell k h5, kept_cell k h6, kept_cell k h7, kept_cell k h8, kept_cell k h9, kept_cell k h10, kept_cell k h11, kept_cell k h12, kept_cell k h13, kept_cell k h14, kept_cell k h15, kept_cell k h16⟩
theorem Room.fit {w : World} {a : Option Addr} {n c : Nat} (h : Room w a n c) : SlArg a n c ∧ n ≤ c := by
  rcases h with ⟨rfl, rfl, rfl⟩ | ⟨g, rfl, h1, _, _⟩
  · exact ⟨fun _ => ⟨rfl, rfl⟩, Nat.le_refl _⟩
  · exact ⟨(fun e => by cases e), h1⟩
/-- Bodies in a block of one's own. -/
def OwnC (n : Nat) (C : Nat → Bd) (w : World) (e : Ending) (w' : World) : Prop := ∃ a g c, e = .returned (.slice a n c) ∧ OwnS w' a g n C ∧ Only [] w w' ∧ w.heap.size ≤ g ∧ SlArg a n c ∧ n ≤ c
theorem OwnC.places {n : Nat} {C : Nat → Bd} {w : World} {e : Ending} {w' : World} (h : OwnC n C w e w') : PlacesPost n C w e w' := by
  obtain ⟨a, g, c, he, ho, oo, _⟩ := h
  exact ⟨a, c, he, ho.bodies, oo⟩
theorem RefArg (w : World) : w.heap.size ≤ w.heap.size := Nat.le_refl _
structure RW (w : World) (a : Option Addr) (g n : Nat) (C : Nat → Bd) (wr : World) : Prop where
  own : OwnS wr a g n C
  only : Only [] w wr
  new : w.heap.size ≤ g
theorem RW.keep {w : World} {a : Option Addr} {g n : Nat} {C : Nat → Bd} {wr w' : World} (h : RW w a g n C wr) (o : Only [] wr w') : RW w a g n C w' := ⟨h.own.only o (by simp), h.only.trans o, h.new⟩
theorem RW.turn {w : World} {a : Option Addr} {g n : Nat} {C D : Nat → Bd} {wr w' : World} (h : RW w a g n C wr) (ha : a = some ⟨g, 0, none⟩) (hO : OwnB w' g n D) (o : Only [g] wr w') : RW w a g n D w' :=
  ⟨Or.inr ⟨ha, hO⟩, h.only.then o (fun b hb => by simp only [List.mem_singleton] at hb; subst hb; exact Or.inr h.new), h.new⟩
theorem RW.there {w : World} {a : Option Addr} {g n : Nat} {C : Nat → Bd} {wr : World} (h : RW w a g n C wr) {i : Nat} (hi : i < n) : a = some ⟨g, 0, none⟩ ∧ OwnB wr g n C := by
  rcases h.own with q | q
  · omega
  · exact q
end Go.Proofs.Ytpegjobehdihbaa
