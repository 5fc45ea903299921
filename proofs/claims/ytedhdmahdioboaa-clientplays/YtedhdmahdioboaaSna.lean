/- snap.lowest, snap.take: whatever the views. -/
import Derived.Test.YtedhdmahdioboaaSn9
namespace Go.Proofs.Ytedhdmahdioboaa
open Go.ChangeShapes Go.WideShapes Go.ChangeAt Go.RowKit
set_option linter.unusedVariables false
set_option linter.unusedSimpArgs false

/-- A view in memory. -/
def SvAt (w : World) (v : Value) (L : List Sn) : Prop := ∃ a c, v = .slice a L.length c ∧ L.length ≤ c ∧ SeenAt w a L.length (fun j => L.getD j zs)
theorem SvAt.only {w w' : World} {v : Value} {L : List Sn} (h : SvAt w v L) (o : Only [] w w') : SvAt w' v L := by
  obtain ⟨a, c, e, hc, h⟩ := h
  exact ⟨a, c, e, hc, h.only o⟩
theorem set11_of {w : World} {b : Nat} {v0 v1 v2 v3 v4 v5 v6 v7 v8 v9 v10 u0 u1 u2 u3 u4 u5 u6 u7 u8 u9 u10 : Value} (h0 : w.cell? ⟨b, 0, none⟩ = some u0) (h1 : w.cell? ⟨b, 1, none⟩ = some u1) (h2 : w.cell? ⟨b, 2, none⟩ = some u2) (h3 : w.cell? ⟨b, 3, none⟩ = some u3) (h4 : w.cell? ⟨b, 4, none⟩ = some u4) (h5 : w.cell? ⟨b, 5, none⟩ = some u5) (h6 : w.cell? ⟨b, 6, none⟩ = some u6) (h7 : w.cell? ⟨b, 7, none⟩ = some u7) (h8 : w.cell? ⟨b, 8, none⟩ = some u8) (h9 : w.cell? ⟨b, 9, none⟩ = some u9) (h10 : w.cell? ⟨b, 10, none⟩ = some u10) :
    (((((((((((w.setCell ⟨b, 0, none⟩ v0).setCell ⟨b, 1, none⟩ v1).setCell ⟨b, 2, none⟩ v2).setCell ⟨b, 3, none⟩ v3).setCell ⟨b, 4, none⟩ v4).setCell ⟨b, 5, none⟩ v5).setCell ⟨b, 6, none⟩ v6).setCell ⟨b, 7, none⟩ v7).setCell ⟨b, 8, none⟩ v8).setCell ⟨b, 9, none⟩ v9).setCell ⟨b, 10, none⟩ v10).cell? ⟨b, 0, none⟩ = some v0 ∧ (((((((((((w.setCell ⟨b, 0, none⟩ v0).setCell ⟨b, 1, none⟩ v1).setCell ⟨b, 2, none⟩ v2).setCell ⟨b, 3, none⟩ v3).setCell ⟨b, 4, none⟩ v4).setCell ⟨b, 5, none⟩ v5).setCell ⟨b, 6, none⟩ v6).setCell ⟨b, 7, none⟩ v7).setCell ⟨b, 8, none⟩ v8).setCell ⟨b, 9, none⟩ v9).setCell ⟨b, 10, none⟩ v10).cell? ⟨b, 1, none⟩ = some v1 ∧ (((((((((((w.setCell ⟨b, 0, none⟩ v0).setCell ⟨b, 1, none⟩ v1).setCell ⟨b, 2, none⟩ v2).setCell ⟨b, 3, none⟩ v3).setCell ⟨b, 4, none⟩ v4).setCell ⟨b, 5, none⟩ v5).setCell ⟨b, 6, none⟩ v6).setCell ⟨b, 7, none⟩ v7).setCell ⟨b, 8, none⟩ v8).setCell ⟨b, 9, none⟩ v9).setCell ⟨b, 10, none⟩ v10).cell? ⟨b, 2, none⟩ = some v2 ∧ (((((((((((w.setCell ⟨b, 0, none⟩ v0).setCell ⟨b, 1, none⟩ v1).setCell ⟨b, 2, none⟩ v2).setCell ⟨b, 3, none⟩ v3).setCell ⟨b, 4, none⟩ v4).setCell ⟨b, 5, none⟩ v5).setCell ⟨b, 6, none⟩ v6).setCell ⟨b, 7, none⟩ v7).setCell ⟨b, 8, none⟩ v8).setCell ⟨b, 9, none⟩ v9).setCell ⟨b, 10, none⟩ v10).cell? ⟨b, 3, none⟩ = some v3 ∧ (((((((((((w.setCell ⟨b, 0, none⟩ v0).setCell ⟨b, 1, none⟩ v1).setCell ⟨b, 2, none⟩ v2).setCell ⟨b, 3, none⟩ v3).setCell ⟨b, 4, none⟩ v4).setCell ⟨b, 5, none⟩ v5).setCell ⟨b, 6, none⟩ v6).setCell ⟨b, 7, none⟩ v7).setCell ⟨b, 8, none⟩ v8).setCell ⟨b, 9, none⟩ v9).setCell ⟨b, 10, none⟩ v10).cell? ⟨b, 4, none⟩ = some v4 ∧ (((((((((((w.setCell ⟨b, 0, none⟩ v0).setCell ⟨b, 1, none⟩ v1).setCell ⟨b, 2, none⟩ v2).setCell ⟨b, 3, none⟩ v3).setCell ⟨b, 4, none⟩ v4).setCell ⟨b, 5, none⟩ v5).setCell ⟨b, 6, none⟩ v6).setCell ⟨b, 7, none⟩ v7).setCell ⟨b, 8, none⟩ v8).setCell ⟨b, 9, none⟩ v9).setCell ⟨b, 10, none⟩ v10).cell? ⟨b, 5, none⟩ = some v5 ∧ (((((((((((w.setCell ⟨b, 0, none⟩ v0).setCell ⟨b, 1, none⟩ v1).setCell ⟨b, 2, none⟩ v2).setCell ⟨b, 3, none⟩ v3).setCell ⟨b, 4, none⟩ v4).setCell ⟨b, 5, none⟩ v5).setCell ⟨b, 6, none⟩ v6).setCell ⟨b, 7, none⟩ v7).setCell ⟨b, 8, none⟩ v8).setCell ⟨b, 9, none⟩ v9).setCell ⟨b, 10, none⟩ v10).cell? ⟨b, 6, none⟩ = some v6 ∧ (((((((((((w.setCell ⟨b, 0, none⟩ v0).setCell ⟨b, 1, none⟩ v1).setCell ⟨b, 2, none⟩ v2).setCell ⟨b, 3, none⟩ v3).setCell ⟨b, 4, none⟩ v4).setCell ⟨b, 5, none⟩ v5).setCell ⟨b, 6, none⟩ v6).setCell ⟨b, 7, none⟩ v7).setCell ⟨b, 8, none⟩ v8).setCell ⟨b, 9, none⟩ v9).setCell ⟨b, 10, none⟩ v10).cell? ⟨b, 7, none⟩ = some v7 ∧ (((((((((((w.setCell ⟨b, 0, none⟩ v0).setCell ⟨b, 1, none⟩ v1).setCell ⟨b, 2, none⟩ v2).setCell ⟨b, 3, none⟩ v3).setCell ⟨b, 4, none⟩ v4).setCell ⟨b, 5, none⟩ v5).setCell ⟨b, 6, none⟩ v6).setCell ⟨b, 7, none⟩ v7).setCell ⟨b, 8, none⟩ v8).setCell ⟨b, 9, none⟩ v9).setCell ⟨b, 10, none⟩ v10).cell? ⟨b, 8, none⟩ = some v8 ∧ (((((((((((w.setCell ⟨b, 0, none⟩ v0).setCell ⟨b, 1, none⟩ v1).setCell ⟨b, 2, none⟩ v2).setCell ⟨b, 3, none⟩ v3).setCell ⟨b, 4, none⟩ v4).setCell ⟨b, 5, none⟩ v5).setCell ⟨b, 6, none⟩ v6).setCell ⟨b, 7, none⟩ v7).setCell ⟨b, 8, none⟩ v8).setCell ⟨b, 9, none⟩ v9).setCell ⟨b, 10, none⟩ v10).cell? ⟨b, 9, none⟩ = some v9 ∧ (((((((((((w.setCell ⟨b, 0, none⟩ v0).setCell ⟨b, 1, none⟩ v1).setCell ⟨b, 2, none⟩ v2).setCell ⟨b, 3, none⟩ v3).setCell ⟨b, 4, none⟩ v4).setCell ⟨b, 5, none⟩ v5).setCell ⟨b, 6, none⟩ v6).setCell ⟨b, 7, none⟩ v7).setCell ⟨b, 8, none⟩ v8).setCell ⟨b, 9, none⟩ v9).setCell ⟨b, 10, none⟩ v10).cell? ⟨b, 10, none⟩ = some v10 := by
  have n1 : ∀ i j : Nat, i ≠ j → (⟨b, i, none⟩ : Addr) ≠ ⟨b, j, none⟩ := fun i j h e => h (by injection e)
  exact ⟨(World.cell?_setCell_other _ _ _ _ (n1 10 0 (by decide))).trans ((World.cell?_setCell_other _ _ _ _ (n1 9 0 (by decide))).trans ((World.cell?_setCell_other _ _ _ _ (n1 8 0 (by decide))).trans ((World.cell?_setCell_other _ _ _ _ (n1 7 0 (by decide))).trans ((World.cell?_setCell_other _ _ _ _ (n1 6 0 (by decide))).trans ((World.cell?_setCell_other _ _ _ _ (n1 5 0 (by decide))).trans ((World.cell?_setCell_other _ _ _ _ (n1 4 0 (by decide))).trans ((World.cell?_setCell_other _ _ _ _ (n1 3 0 (by decide))).trans ((World.cell?_setCell_other _ _ _ _ (n1 2 0 (by decide))).trans ((World.cell?_setCell_other _ _ _ _ (n1 1 0 (by decide))).trans (World.cell?_setCell_same _ _ _ (h0))))))))))), (World.cell?_setCell_other _ _ _ _ (n1 10 1 (by decide))).trans ((World.cell?_setCell_other _ _ _ _ (n1 9 1 (by decide))).trans ((World.cell?_setCell_other _ _ _ _ (n1 8 1 (by decide))).trans ((World.cell?_setCell_other _ _ _ _ (n1 7 1 (by decide))).trans ((World.cell?_setCell_other _ _ _ _ (n1 6 1 (by decide))).trans ((World.cell?_setCell_other _ _ _ _ (n1 5 1 (by decide))).trans ((World.cell?_setCell_other _ _ _ _ (n1 4 1 (by decide))).trans ((World.cell?_setCell_other _ _ _ _ (n1 3 1 (by decide))).trans ((World.cell?_setCell_other _ _ _ _ (n1 2 1 (by decide))).trans (World.cell?_setCell_same _ _ _ ((World.cell?_setCell_other _ _ _ _ (n1 0 1 (by decide))).trans (h1))))))))))), (World.cell?_setCell_other _ _ _ _ (n1 10 2 (by decide))).trans ((World.cell?_setCell_other _ _ _ _ (n1 9 2 (by decide))).trans ((World.cell?_setCell_other _ _ _ _ (n1 8 2 (by decide))).trans ((World.cell?_setCell_other _ _ _ _ (n1 7 2 (by decide))).trans ((World.cell?_setCell_other _ _ _ _ (n1 6 2 (by decide))).trans ((World.cell?_setCell_other _ _ _ _ (n1 5 2 (by decide))).trans ((World.cell?_setCell_other _ _ _ _ (n1 4 2 (by decide))).trans ((World.cell?_setCell_other _ _ _ _ (n1 3 2 (by decide))).trans (World.cell?_setCell_same _ _ _ ((World.cell?_setCell_other _ _ _ _ (n1 1 2 (by decide))).trans ((World.cell?_setCell_other _ _ _ _ (n1 0 2 (by decide))).trans (h2))))))))))), (World.cell?_setCell_other _ _ _ _ (n1 10 3 (by decide))).trans ((World.cell?_setCell_other _ _ _ _ (n1 9 3 (by decide))).trans ((World.cell?_setCell_other _ _ _ _ (n1 8 3 (by decide))).trans ((World.cell?_setCell_other _ _ _ _ (n1 7 3 (by decide))).trans ((World.cell?_setCell_other _ _ _ _ (n1 6 3 (by decide))).trans ((World.cell?_setCell_other _ _ _ _ (n1 5 3 (by decide))).trans ((World.cell?_setCell_other _ _ _ _ (n1 4 3 (by decide))).trans (World.cell?_setCell_same _ _ _ ((World.cell?_setCell_other _ _ _ _ (n1 2 3 (by decide))).trans ((World.cell?_setCell_other _ _ _ _ (n1 1 3 (by decide))).trans ((World.cell?_setCell_other _ _ _ _ (n1 0 3 (by decide))).trans (h3))))))))))), (World.cell?_setCell_other _ _ _ _ (n1 10 4 (by decide))).trans ((World.cell?_setCell_other _ _ _ _ (n1 9 4 (by decide))).trans ((World.cell?_setCell_other _ _ _ _ (n1 8 4 (by decide))).trans ((World.cell?_setCell_other _ _ _ _ (n1 7 4 (by decide))).trans ((World.cell?_setCell_other _ _ _ _ (n1 6 4 (by decide))).trans ((World.cell?_setCell_other _ _ _ _ (n1 5 4 (by decide))).trans (World.cell?_setCell_same _ _ _ ((World.cell?_setCell_other _ _ _ _ (n1 3 4 (by decide))).trans ((World.cell?_setCell_other _ _ _ _ (n1 2 4 (by decide))).trans ((World.cell?_setCell_other _ _ _ _ (n1 1 4 (by decide))).trans ((World.cell?_setCell_other _ _ _ _ (n1 0 4 (by decide))).trans (h4))))))))))), (World.cell?_setCell_other _ _ _ _ (n1 10 5 (by decide))).trans ((World.cell?_setCell_other _ _ _ _ (n1 9 5 (by decide))).trans ((World.cell?_setCell_other _ _ _ _ (n1 8 5 (by decide))).trans ((World.cell?_setCell_other _ _ _ _ (n1 7 5 (by decide))).trans ((World.cell?_setCell_other _ _ _ _ (n1 6 5 (by decide))).trans (World.cell?_setCell_same _ _ _ ((World.cell?_setCell_other _ _ _ _ (n1 4 5 (by decide))).trans ((World.cell?_setCell_other _ _ _ _ (n1 3 5 (by decide))).trans ((World.cell?_setCell_other _ _ _ _ (n1 2 5 (by decide))).trans ((World.cell?_setCell_other _ _ _ _ (n1 1 5 (by decide))).trans ((World.cell?_setCell_other _ _ _ _ (n1 0 5 (by decide))).trans (h5))))))))))), (World.cell?_setCell_other _ _ _ _ (n1 10 6 (by decide))).trans ((World.cell?_setCell_other _ _ _ _ (n1 9 6 (by decide))).trans ((World.cell?_setCell_other _ _ _ _ (n1 8 6 (by decide))).trans ((World.cell?_setCell_other _ _ _ _ (n1 7 6 (by decide))).trans (World.cell?_setCell_same _ _ _ ((World.cell?_setCell_other _ _ _ _ (n1 5 6 (by decide))).trans ((World.cell?_setCell_other _ _ _ _ (n1 4 6 (by decide))).trans ((World.cell?_setCell_other _ _ _ _ (n1 3 6 (by decide))).trans ((World.cell?_setCell_other _ _ _ _ (n1 2 6 (by decide))).trans ((World.cell?_setCell_other _ _ _ _ (n1 1 6 (by decide))).trans ((World.cell?_setCell_other _ _ _ _ (n1 0 6 (by decide))).trans (h6))))))))))), (World.cell?_setCell_other _ _ _ _ (n1 10 7 (by decide))).trans ((World.cell?_setCell_other _ _ _ _ (n1 9 7 (by decide))).trans ((World.cell?_setCell_other _ _ _ _ (n1 8 7 (by decide))).trans (World.cell?_setCell_same _ _ _ ((World.cell?_setCell_other _ _ _ _ (n1 6 7 (by decide))).trans ((World.cell?_setCell_other _ _ _ _ (n1 5 7 (by decide))).trans ((World.cell?_setCell_other _ _ _ _ (n1 4 7 (by decide))).trans ((World.cell?_setCell_other _ _ _ _ (n1 3 7 (by decide))).trans ((World.cell?_setCell_other _ _ _ _ (n1 2 7 (by decide))).trans ((World.cell?_setCell_other _ _ _ _ (n1 1 7 (by decide))).trans ((World.cell?_setCell_other _ _ _ _ (n1 0 7 (by decide))).trans (h7))))))))))), (World.cell?_setCell_other _ _ _ _ (n1 10 8 (by decide))).trans ((World.cell?_setCell_other _ _ _ _ (n1 9 8 (by decide))).trans (World.cell?_setCell_same _ _ _ ((World.cell?_setCell_other _ _ _ _ (n1 7 8 (by decide))).trans ((World.cell?_setCell_other _ _ _ _ (n1 6 8 (by decide))).trans ((World.cell?_setCell_other _ _ _ _ (n1 5 8 (by decide))).trans ((World.cell?_setCell_other _ _ _ _ (n1 4 8 (by decide))).trans ((World.cell?_setCell_other _ _ _ _ (n1 3 8 (by decide))).trans ((World.cell?_setCell_other _ _ _ _ (n1 2 8 (by decide))).trans ((World.cell?_setCell_other _ _ _ _ (n1 1 8 (by decide))).trans ((World.cell?_setCell_other _ _ _ _ (n1 0 8 (by decide))).trans (h8))))))))))), (World.cell?_setCell_other _ _ _ _ (n1 10 9 (by decide))).trans (World.cell?_setCell_same _ _ _ ((World.cell?_setCell_other _ _ _ _ (n1 8 9 (by decide))).trans ((World.cell?_setCell_other _ _ _ _ (n1 7 9 (by decide))).trans ((World.cell?_setCell_other _ _ _ _ (n1 6 9 (by decide))).trans ((World.cell?_setCell_other _ _ _ _ (n1 5 9 (by decide))).trans ((World.cell?_setCell_other _ _ _ _ (n1 4 9 (by decide))).trans ((World.cell?_setCell_other _ _ _ _ (n1 3 9 (by decide))).trans ((World.cell?_setCell_other _ _ _ _ (n1 2 9 (by decide))).trans ((World.cell?_setCell_other _ _ _ _ (n1 1 9 (by decide))).trans ((World.cell?_setCell_other _ _ _ _ (n1 0 9 (by decide))).trans (h9))))))))))), World.cell?_setCell_same _ _ _ ((World.cell?_setCell_other _ _ _ _ (n1 9 10 (by decide))).trans ((World.cell?_setCell_other _ _ _ _ (n1 8 10 (by decide))).trans ((World.cell?_setCell_other _ _ _ _ (n1 7 10 (by decide))).trans ((World.cell?_setCell_other _ _ _ _ (n1 6 10 (by decide))).trans ((World.cell?_setCell_other _ _ _ _ (n1 5 10 (by decide))).trans ((World.cell?_setCell_other _ _ _ _ (n1 4 10 (by decide))).trans ((World.cell?_setCell_other _ _ _ _ (n1 3 10 (by decide))).trans ((World.cell?_setCell_other _ _ _ _ (n1 2 10 (by decide))).trans ((World.cell?_setCell_other _ _ _ _ (n1 1 10 (by decide))).trans ((World.cell?_setCell_other _ _ _ _ (n1 0 10 (by decide))).trans (h10)))))))))))⟩
theorem kept_set11 {w w1 : World} {b : Nat} (k : Kept w w1) (h : w.heap.size ≤ b) (v0 v1 v2 v3 v4 v5 v6 v7 v8 v9 v10 : Value) : Kept w (((((((((((w1.setCell ⟨b, 0, none⟩ v0).setCell ⟨b, 1, none⟩ v1).setCell ⟨b, 2, none⟩ v2).setCell ⟨b, 3, none⟩ v3).setCell ⟨b, 4, none⟩ v4).setCell ⟨b, 5, none⟩ v5).setCell ⟨b, 6, none⟩ v6).setCell ⟨b, 7, none⟩ v7).setCell ⟨b, 8, none⟩ v8).setCell ⟨b, 9, none⟩ v9).setCell ⟨b, 10, none⟩ v10) :=
  (((((((((((k.setCell (p := ⟨b, 0, none⟩) h v0).setCell (p := ⟨b, 1, none⟩) h v1).setCell (p := ⟨b, 2, none⟩) h v2).setCell (p := ⟨b, 3, none⟩) h v3).setCell (p := ⟨b, 4, none⟩) h v4).setCell (p := ⟨b, 5, none⟩) h v5).setCell (p := ⟨b, 6, none⟩) h v6).setCell (p := ⟨b, 7, none⟩) h v7).setCell (p := ⟨b, 8, none⟩) h v8).setCell (p := ⟨b, 9, none⟩) h v9).setCell (p := ⟨b, 10, none⟩) h v10)

/-- A slice of nothing has no room. -/
def NilOk (v : Value) : Prop := ∀ n c, v = .slice none n c → c = 0
/-- Where a slice lies without its first. -/
def cutA (c g o : Nat) : Option Addr := if c = 1 then some ⟨g, o, none⟩ else some ⟨g, o + 11, none⟩
theorem SnAt.drew {T : TypeId} {w : World} {kb : Nat} {q : Sn} (h : SnAt T w kb q) : SnAt T w.drew kb q := h
set_option maxRecDepth 100000 in
theorem sn_put {T : TypeId} {w : World} {kr : Nat} {z : Sn} (hz : SnAt T w kr z) (s : Sn) : SnAt T (((((((((((w.setCell ⟨kr, 0, none⟩ (.int .i64 (s.id))).setCell ⟨kr, 1, none⟩ (.int .i64 (s.kd))).setCell ⟨kr, 2, none⟩ (.int .i64 (s.sx))).setCell ⟨kr, 3, none⟩ (.int .i64 (s.sy))).setCell ⟨kr, 4, none⟩ (.int .i64 (s.sz))).setCell ⟨kr, 5, none⟩ (.int .i64 (s.ax))).setCell ⟨kr, 6, none⟩ (.int .i64 (s.ay))).setCell ⟨kr, 7, none⟩ (.int .i64 (s.az))).setCell ⟨kr, 8, none⟩ (.int .i64 (s.vx))).setCell ⟨kr, 9, none⟩ (.int .i64 (s.vy))).setCell ⟨kr, 10, none⟩ (.int .i64 (s.vz))) kr s := by
  unfold SnAt at hz ⊢
  rw [heap_put (heap_put (heap_put (heap_put (heap_put (heap_put (heap_put (heap_put (heap_put (heap_put (heap_put hz _ _) _ _) _ _) _ _) _ _) _ _) _ _) _ _) _ _) _ _) _ _]
  simp
theorem zs_new (w : World) : SnAt 120 (w.alloc (.cells #[.int .i64 0, .int .i64 0, .int .i64 0, .int .i64 0, .int .i64 0, .int .i64 0, .int .i64 0, .int .i64 0, .int .i64 0, .int .i64 0, .int .i64 0] 120)) w.heap.size zs := SnAt.new _ w zs
theorem SvAt.tail {w : World} {g o c : Nat} {s : Sn} {L : List Sn} (h : SeenAt w (some ⟨g, o, none⟩) (s :: L).length (fun j => (s :: L).getD j zs)) : SeenAt w (some ⟨g, o + 11, none⟩) L.length (fun j => L.getD j zs) := by
  intro j hj
  obtain ⟨g', o', e, hc⟩ := h (j + 1) (by simp; omega)
  injection e with e; injection e with e1 e2; subst e1; subst e2
  refine ⟨_, _, rfl, fun k hk => ?_⟩
  have := hc k hk
  simp only [List.getD_cons_succ] at this
  rw [← this]
  congr 2
  omega
theorem SeenAt.first {w : World} {g o : Nat} {s : Sn} {L : List Sn} (h : SeenAt w (some ⟨g, o, none⟩) (s :: L).length (fun j => (s :: L).getD j zs)) : w.cell? ⟨g, o, none⟩ = some (.int .i64 (s.id)) := by
  obtain ⟨g', o', e, hc⟩ := h 0 (by simp)
  injection e with e; injection e with e1 e2; subst e1; subst e2
  have := hc 0 (by omega)
  simpa [sc] using this
set_option maxRecDepth 100000 in
set_option maxHeartbeats 4000000 in
theorem take_hit (L : List Sn) (s : Sn) (id : Int) (v : Value) (w : World) (h : SvAt w v (s :: L)) (hl : L.length ≤ 1000) (he : s.id = id) :
    Calls Try.prog 145 #[v, .int .i64 id] w fun e w' => ∃ v', e = .returned (.tuple #[.agg #[.int .i64 (s.id), .int .i64 (s.kd), .int .i64 (s.sx), .int .i64 (s.sy), .int .i64 (s.sz), .int .i64 (s.ax), .int .i64 (s.ay), .int .i64 (s.az), .int .i64 (s.vx), .int .i64 (s.vy), .int .i64 (s.vz)], v']) ∧ (∀ w0, SvAt w0 v (s :: L) → SvAt w0 v' L) ∧ NilOk v' ∧ Only [] w w' := by
  obtain ⟨a, c, rfl, hc, hv⟩ := h
  obtain ⟨g, o, rfl, h0⟩ := hv 0 (by simp)
  have hlen : (s :: L).length = L.length + 1 := rfl
  rw [hlen] at hc ⊢
  have HV : Hid (SeenAt w (some ⟨g, o, none⟩) (s :: L).length (fun j => (s :: L).getD j zs) ∧ L.length + 1 ≤ c) := ⟨hv, hc⟩
  have hq : (s.id == id) = true := by simp [he]
  clear h0 hv he
  go_enter Try.func145, Try.ntmps145
  go_upto_region 1 with fail
  have H1 : Hid (Only [] w (w.alloc (.cells #[.int .i64 0, .int .i64 0, .int .i64 0, .int .i64 0, .int .i64 0, .int .i64 0, .int .i64 0, .int .i64 0, .int .i64 0, .int .i64 0, .int .i64 0] 120)) ∧ SnAt 120 (w.alloc (.cells #[.int .i64 0, .int .i64 0, .int .i64 0, .int .i64 0, .int .i64 0, .int .i64 0, .int .i64 0, .int .i64 0, .int .i64 0, .int .i64 0, .int .i64 0] 120)) w.heap.size zs ∧ w.heap.size ≤ w.heap.size) := ⟨(Only.refl [] w).alloc _, zs_new w, Nat.le_refl _⟩
  revert H1
  generalize hk : w.heap.size = kr
  have HK : Hid (w.heap.size = kr) := hk
  clear hk
  generalize World.alloc w _ = w1
  intro H1
  have hv1 := HV.out.1.only H1.out.1
  obtain ⟨g', o', e, h0⟩ := hv1 0 (by simp)
  injection e with e; injection e with e1 e2; subst e1; subst e2
  simp only [List.getD_cons_zero, Nat.zero_mul, Nat.add_zero] at h0
  have e0 := h0 0 (by omega)
  have e1 := h0 1 (by omega)
  have e2 := h0 2 (by omega)
  have e3 := h0 3 (by omega)
  have e4 := h0 4 (by omega)
  have e5 := h0 5 (by omega)
  have e6 := h0 6 (by omega)
  have e7 := h0 7 (by omega)
  have e8 := h0 8 (by omega)
  have e9 := h0 9 (by omega)
  have e10 := h0 10 (by omega)
  simp only [sc, Nat.add_zero] at e0 e1 e2 e3 e4 e5 e6 e7 e8 e9 e10
  clear h0 hv1
  go_upto_region 2 with fail
  have z0 := H1.out.2.1.off 0; have y0 := H1.out.2.1.free 0
  have z1 := H1.out.2.1.off 1; have y1 := H1.out.2.1.free 1
  have z2 := H1.out.2.1.off 2; have y2 := H1.out.2.1.free 2
  have z3 := H1.out.2.1.off 3; have y3 := H1.out.2.1.free 3
  have z4 := H1.out.2.1.off 4; have y4 := H1.out.2.1.free 4
  have z5 := H1.out.2.1.off 5; have y5 := H1.out.2.1.free 5
  have z6 := H1.out.2.1.off 6; have y6 := H1.out.2.1.free 6
  have z7 := H1.out.2.1.off 7; have y7 := H1.out.2.1.free 7
  have z8 := H1.out.2.1.off 8; have y8 := H1.out.2.1.free 8
  have z9 := H1.out.2.1.off 9; have y9 := H1.out.2.1.free 9
  have z10 := H1.out.2.1.off 10; have y10 := H1.out.2.1.free 10
  simp only [List.getElem?_toArray, List.getElem?_cons_succ, List.getElem?_cons_zero] at z0 z1 z2 z3 z4 z5 z6 z7 z8 z9 z10
  have hle : (1 : Int) ≤ (L.length : Int) + 1 := by omega
  refine wp_region_held_drew (S := (fun w' => w'.cell? ⟨g, o, none⟩ = some (.int .i64 (s.id)) ∧ w'.cell? ⟨g, o + 1, none⟩ = some (.int .i64 (s.kd)) ∧ w'.cell? ⟨g, o + 2, none⟩ = some (.int .i64 (s.sx)) ∧ w'.cell? ⟨g, o + 3, none⟩ = some (.int .i64 (s.sy)) ∧ w'.cell? ⟨g, o + 4, none⟩ = some (.int .i64 (s.sz)) ∧ w'.cell? ⟨g, o + 5, none⟩ = some (.int .i64 (s.ax)) ∧ w'.cell? ⟨g, o + 6, none⟩ = some (.int .i64 (s.ay)) ∧ w'.cell? ⟨g, o + 7, none⟩ = some (.int .i64 (s.az)) ∧ w'.cell? ⟨g, o + 8, none⟩ = some (.int .i64 (s.vx)) ∧ w'.cell? ⟨g, o + 9, none⟩ = some (.int .i64 (s.vy)) ∧ w'.cell? ⟨g, o + 10, none⟩ = some (.int .i64 (s.vz)))) (by kernel_rfl) ?_ (fun hHeld1 => ?_)
  · (try dsimp only); exact ⟨e0, e1, e2, e3, e4, e5, e6, e7, e8, e9, e10⟩
  have HNE : Hid (g ∉ [kr]) := by
    have h1 := World.block_lt_of_cell? w ⟨g, o, none⟩ (HV.out.1.first)
    have h2 := HK.out
    simp only at h1
    show g ∉ [kr]
    simp only [List.mem_singleton]
    omega
  refine tkW 0 rfl ?_; refine tkW 1 rfl ?_; refine tkW 2 rfl ?_; refine tkW 3 rfl ?_
  try simp only [Act.put, List.setIfInBounds_toArray, List.set_cons_zero, List.set_cons_succ, List.getElem_toArray, List.getElem_cons_succ, List.getElem_cons_zero]
  refine tkW (v := .slice (cutA c g o) L.length (c - 1)) 4 rfl ?_ (by intro w'' hSw; (try dsimp only at hSw); simp only [List.getElem_toArray, List.getElem_cons_succ, List.getElem_cons_zero]; go_simp; rfl)
  try simp only [Act.put, List.setIfInBounds_toArray, List.set_cons_zero, List.set_cons_succ, List.getElem_toArray, List.getElem_cons_succ, List.getElem_cons_zero]
  refine wpAnyH_ready (rs := [5]) (by kernel_rfl) (by simp) ?_
  refine AllReadyH.cons rfl (fun K hK => ?_) AllReadyH.nil
  first | (with_reducible refine iteYes ?hcx ?htx; case hcx => kernel_rfl) | rw [if_pos (by rfl)]
  simp only [List.getElem_toArray, List.getElem_cons_succ, List.getElem_cons_zero]
  go_simp
  refine hK.out _ _ ?_ (fun hHeld2 => ?_)
  · (try dsimp only); refine (fun (O : Only [kr] w1 _) => ⟨O.cell (a := ⟨g, o, none⟩) e0 HNE.out, O.cell (a := ⟨g, o + 1, none⟩) e1 HNE.out, O.cell (a := ⟨g, o + 2, none⟩) e2 HNE.out, O.cell (a := ⟨g, o + 3, none⟩) e3 HNE.out, O.cell (a := ⟨g, o + 4, none⟩) e4 HNE.out, O.cell (a := ⟨g, o + 5, none⟩) e5 HNE.out, O.cell (a := ⟨g, o + 6, none⟩) e6 HNE.out, O.cell (a := ⟨g, o + 7, none⟩) e7 HNE.out, O.cell (a := ⟨g, o + 8, none⟩) e8 HNE.out, O.cell (a := ⟨g, o + 9, none⟩) e9 HNE.out, O.cell (a := ⟨g, o + 10, none⟩) e10 HNE.out⟩) ?_; exact ((((((((((((Only.refl [kr] w1).setCell (p := ⟨kr, 0, none⟩) (Or.inl (by simp)) _).setCell (p := ⟨kr, 1, none⟩) (Or.inl (by simp)) _).setCell (p := ⟨kr, 2, none⟩) (Or.inl (by simp)) _).setCell (p := ⟨kr, 3, none⟩) (Or.inl (by simp)) _).setCell (p := ⟨kr, 4, none⟩) (Or.inl (by simp)) _).setCell (p := ⟨kr, 5, none⟩) (Or.inl (by simp)) _).setCell (p := ⟨kr, 6, none⟩) (Or.inl (by simp)) _).setCell (p := ⟨kr, 7, none⟩) (Or.inl (by simp)) _).setCell (p := ⟨kr, 8, none⟩) (Or.inl (by simp)) _).setCell (p := ⟨kr, 9, none⟩) (Or.inl (by simp)) _).setCell (p := ⟨kr, 10, none⟩) (Or.inl (by simp)) _).drew
  clear hK K
  try simp only [Act.put, List.setIfInBounds_toArray, List.set_cons_zero, List.set_cons_succ, List.getElem_toArray, List.getElem_cons_succ, List.getElem_cons_zero]
  refine tkW 6 rfl ?_
  try simp only [Act.put, List.setIfInBounds_toArray, List.set_cons_zero, List.set_cons_succ, List.getElem_toArray, List.getElem_cons_succ, List.getElem_cons_zero]
  refine wpAnyH_done (by kernel_rfl) ?_ _
  have HF : Hid (Only [] w (((((((((((w1.setCell ⟨kr, 0, none⟩ (.int .i64 (s.id))).setCell ⟨kr, 1, none⟩ (.int .i64 (s.kd))).setCell ⟨kr, 2, none⟩ (.int .i64 (s.sx))).setCell ⟨kr, 3, none⟩ (.int .i64 (s.sy))).setCell ⟨kr, 4, none⟩ (.int .i64 (s.sz))).setCell ⟨kr, 5, none⟩ (.int .i64 (s.ax))).setCell ⟨kr, 6, none⟩ (.int .i64 (s.ay))).setCell ⟨kr, 7, none⟩ (.int .i64 (s.az))).setCell ⟨kr, 8, none⟩ (.int .i64 (s.vx))).setCell ⟨kr, 9, none⟩ (.int .i64 (s.vy))).setCell ⟨kr, 10, none⟩ (.int .i64 (s.vz))).drew ∧ SnAt 120 (((((((((((w1.setCell ⟨kr, 0, none⟩ (.int .i64 (s.id))).setCell ⟨kr, 1, none⟩ (.int .i64 (s.kd))).setCell ⟨kr, 2, none⟩ (.int .i64 (s.sx))).setCell ⟨kr, 3, none⟩ (.int .i64 (s.sy))).setCell ⟨kr, 4, none⟩ (.int .i64 (s.sz))).setCell ⟨kr, 5, none⟩ (.int .i64 (s.ax))).setCell ⟨kr, 6, none⟩ (.int .i64 (s.ay))).setCell ⟨kr, 7, none⟩ (.int .i64 (s.az))).setCell ⟨kr, 8, none⟩ (.int .i64 (s.vx))).setCell ⟨kr, 9, none⟩ (.int .i64 (s.vy))).setCell ⟨kr, 10, none⟩ (.int .i64 (s.vz))).drew kr s) := by
    refine ⟨H1.out.1.then (E := [kr]) ((((((((((((Only.refl [kr] w1).setCell (p := ⟨kr, 0, none⟩) (Or.inl (by simp)) _).setCell (p := ⟨kr, 1, none⟩) (Or.inl (by simp)) _).setCell (p := ⟨kr, 2, none⟩) (Or.inl (by simp)) _).setCell (p := ⟨kr, 3, none⟩) (Or.inl (by simp)) _).setCell (p := ⟨kr, 4, none⟩) (Or.inl (by simp)) _).setCell (p := ⟨kr, 5, none⟩) (Or.inl (by simp)) _).setCell (p := ⟨kr, 6, none⟩) (Or.inl (by simp)) _).setCell (p := ⟨kr, 7, none⟩) (Or.inl (by simp)) _).setCell (p := ⟨kr, 8, none⟩) (Or.inl (by simp)) _).setCell (p := ⟨kr, 9, none⟩) (Or.inl (by simp)) _).setCell (p := ⟨kr, 10, none⟩) (Or.inl (by simp)) _).drew (fun x hx => ?_), ?_⟩
    · simp only [List.mem_singleton] at hx; right; rw [hx, HK.out]; exact Nat.le_refl _
    · exact (sn_put H1.out.2.1 s).drew
  generalize World.drew (((((((((((w1.setCell ⟨kr, 0, none⟩ (.int .i64 (s.id))).setCell ⟨kr, 1, none⟩ (.int .i64 (s.kd))).setCell ⟨kr, 2, none⟩ (.int .i64 (s.sx))).setCell ⟨kr, 3, none⟩ (.int .i64 (s.sy))).setCell ⟨kr, 4, none⟩ (.int .i64 (s.sz))).setCell ⟨kr, 5, none⟩ (.int .i64 (s.ax))).setCell ⟨kr, 6, none⟩ (.int .i64 (s.ay))).setCell ⟨kr, 7, none⟩ (.int .i64 (s.az))).setCell ⟨kr, 8, none⟩ (.int .i64 (s.vx))).setCell ⟨kr, 9, none⟩ (.int .i64 (s.vy))).setCell ⟨kr, 10, none⟩ (.int .i64 (s.vz))) = w5 at HF ⊢
  clear e0 z0 y0 e1 z1 y1 e2 z2 y2 e3 z3 y3 e4 z4 y4 e5 z5 y5 e6 z6 y6 e7 z7 y7 e8 z8 y8 e9 z9 y9 e10 z10 y10
  have z0 := HF.out.2.off 0
  have z1 := HF.out.2.off 1
  have z2 := HF.out.2.off 2
  have z3 := HF.out.2.off 3
  have z4 := HF.out.2.off 4
  have z5 := HF.out.2.off 5
  have z6 := HF.out.2.off 6
  have z7 := HF.out.2.off 7
  have z8 := HF.out.2.off 8
  have z9 := HF.out.2.off 9
  have z10 := HF.out.2.off 10
  simp only [List.getElem?_toArray, List.getElem?_cons_succ, List.getElem?_cons_zero] at z0 z1 z2 z3 z4 z5 z6 z7 z8 z9 z10
  go_wp2_with fail
  exact bodyPost_ret (v := .tuple #[.agg #[.int .i64 (s.id), .int .i64 (s.kd), .int .i64 (s.sx), .int .i64 (s.sy), .int .i64 (s.sz), .int .i64 (s.ax), .int .i64 (s.ay), .int .i64 (s.az), .int .i64 (s.vx), .int .i64 (s.vy), .int .i64 (s.vz)], .slice (cutA c g o) L.length (c - 1)]) (by simp [results, Try.results145, go_sem, z0, z1, z2, z3, z4, z5, z6, z7, z8, z9, z10]) rfl ⟨_, rfl, fun w0 hw0 => by
    obtain ⟨a', c', e, hc', hv'⟩ := hw0
    injection e with e1 e2 e3
    subst e1; subst e3
    refine ⟨_, _, rfl, by have := HV.out.2; omega, ?_⟩
    unfold cutA
    by_cases h1 : c = 1
    · intro j hj; have := HV.out.2; omega
    · rw [if_neg h1]; exact SvAt.tail (c := c) hv', (fun n' c' e => by unfold cutA at e; split at e <;> cases e), HF.out.1⟩
end Go.Proofs.Ytedhdmahdioboaa
