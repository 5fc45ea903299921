/- geom.Both and Fat answer what chapter 2 says: whatever the boxes. -/
import Derived.Test.YtdhbcgdlmkkdfaaGreatDoorGeo5
namespace Go.Proofs.YtdhbcgdlmkkdfaaGreatDoor
open Go.ChangeShapes Go.WideShapes Go.ChangeAt Go.RowKit
set_option linter.unusedSimpArgs false

theorem set6_of {w : World} {b : Nat} {v0 v1 v2 v3 v4 v5 u0 u1 u2 u3 u4 u5 : Value} (h0 : w.cell? ⟨b, 0, none⟩ = some u0) (h1 : w.cell? ⟨b, 1, none⟩ = some u1) (h2 : w.cell? ⟨b, 2, none⟩ = some u2) (h3 : w.cell? ⟨b, 3, none⟩ = some u3) (h4 : w.cell? ⟨b, 4, none⟩ = some u4) (h5 : w.cell? ⟨b, 5, none⟩ = some u5) :
    ((((((w.setCell ⟨b, 0, none⟩ v0).setCell ⟨b, 1, none⟩ v1).setCell ⟨b, 2, none⟩ v2).setCell ⟨b, 3, none⟩ v3).setCell ⟨b, 4, none⟩ v4).setCell ⟨b, 5, none⟩ v5).cell? ⟨b, 0, none⟩ = some v0 ∧ ((((((w.setCell ⟨b, 0, none⟩ v0).setCell ⟨b, 1, none⟩ v1).setCell ⟨b, 2, none⟩ v2).setCell ⟨b, 3, none⟩ v3).setCell ⟨b, 4, none⟩ v4).setCell ⟨b, 5, none⟩ v5).cell? ⟨b, 1, none⟩ = some v1 ∧ ((((((w.setCell ⟨b, 0, none⟩ v0).setCell ⟨b, 1, none⟩ v1).setCell ⟨b, 2, none⟩ v2).setCell ⟨b, 3, none⟩ v3).setCell ⟨b, 4, none⟩ v4).setCell ⟨b, 5, none⟩ v5).cell? ⟨b, 2, none⟩ = some v2 ∧ ((((((w.setCell ⟨b, 0, none⟩ v0).setCell ⟨b, 1, none⟩ v1).setCell ⟨b, 2, none⟩ v2).setCell ⟨b, 3, none⟩ v3).setCell ⟨b, 4, none⟩ v4).setCell ⟨b, 5, none⟩ v5).cell? ⟨b, 3, none⟩ = some v3 ∧ ((((((w.setCell ⟨b, 0, none⟩ v0).setCell ⟨b, 1, none⟩ v1).setCell ⟨b, 2, none⟩ v2).setCell ⟨b, 3, none⟩ v3).setCell ⟨b, 4, none⟩ v4).setCell ⟨b, 5, none⟩ v5).cell? ⟨b, 4, none⟩ = some v4 ∧ ((((((w.setCell ⟨b, 0, none⟩ v0).setCell ⟨b, 1, none⟩ v1).setCell ⟨b, 2, none⟩ v2).setCell ⟨b, 3, none⟩ v3).setCell ⟨b, 4, none⟩ v4).setCell ⟨b, 5, none⟩ v5).cell? ⟨b, 5, none⟩ = some v5 := by
  have n1 : ∀ i j : Nat, i ≠ j → (⟨b, i, none⟩ : Addr) ≠ ⟨b, j, none⟩ := fun i j h e => h (by injection e)
  exact ⟨(World.cell?_setCell_other _ _ _ _ (n1 5 0 (by decide))).trans ((World.cell?_setCell_other _ _ _ _ (n1 4 0 (by decide))).trans ((World.cell?_setCell_other _ _ _ _ (n1 3 0 (by decide))).trans ((World.cell?_setCell_other _ _ _ _ (n1 2 0 (by decide))).trans ((World.cell?_setCell_other _ _ _ _ (n1 1 0 (by decide))).trans (World.cell?_setCell_same _ _ _ (h0)))))), (World.cell?_setCell_other _ _ _ _ (n1 5 1 (by decide))).trans ((World.cell?_setCell_other _ _ _ _ (n1 4 1 (by decide))).trans ((World.cell?_setCell_other _ _ _ _ (n1 3 1 (by decide))).trans ((World.cell?_setCell_other _ _ _ _ (n1 2 1 (by decide))).trans (World.cell?_setCell_same _ _ _ ((World.cell?_setCell_other _ _ _ _ (n1 0 1 (by decide))).trans (h1)))))), (World.cell?_setCell_other _ _ _ _ (n1 5 2 (by decide))).trans ((World.cell?_setCell_other _ _ _ _ (n1 4 2 (by decide))).trans ((World.cell?_setCell_other _ _ _ _ (n1 3 2 (by decide))).trans (World.cell?_setCell_same _ _ _ ((World.cell?_setCell_other _ _ _ _ (n1 1 2 (by decide))).trans ((World.cell?_setCell_other _ _ _ _ (n1 0 2 (by decide))).trans (h2)))))), (World.cell?_setCell_other _ _ _ _ (n1 5 3 (by decide))).trans ((World.cell?_setCell_other _ _ _ _ (n1 4 3 (by decide))).trans (World.cell?_setCell_same _ _ _ ((World.cell?_setCell_other _ _ _ _ (n1 2 3 (by decide))).trans ((World.cell?_setCell_other _ _ _ _ (n1 1 3 (by decide))).trans ((World.cell?_setCell_other _ _ _ _ (n1 0 3 (by decide))).trans (h3)))))), (World.cell?_setCell_other _ _ _ _ (n1 5 4 (by decide))).trans (World.cell?_setCell_same _ _ _ ((World.cell?_setCell_other _ _ _ _ (n1 3 4 (by decide))).trans ((World.cell?_setCell_other _ _ _ _ (n1 2 4 (by decide))).trans ((World.cell?_setCell_other _ _ _ _ (n1 1 4 (by decide))).trans ((World.cell?_setCell_other _ _ _ _ (n1 0 4 (by decide))).trans (h4)))))), World.cell?_setCell_same _ _ _ ((World.cell?_setCell_other _ _ _ _ (n1 4 5 (by decide))).trans ((World.cell?_setCell_other _ _ _ _ (n1 3 5 (by decide))).trans ((World.cell?_setCell_other _ _ _ _ (n1 2 5 (by decide))).trans ((World.cell?_setCell_other _ _ _ _ (n1 1 5 (by decide))).trans ((World.cell?_setCell_other _ _ _ _ (n1 0 5 (by decide))).trans (h5))))))⟩
theorem kept_set6 {w w1 : World} {b : Nat} (k : Kept w w1) (h : w.heap.size ≤ b) (v0 v1 v2 v3 v4 v5 : Value) : Kept w ((((((w1.setCell ⟨b, 0, none⟩ v0).setCell ⟨b, 1, none⟩ v1).setCell ⟨b, 2, none⟩ v2).setCell ⟨b, 3, none⟩ v3).setCell ⟨b, 4, none⟩ v4).setCell ⟨b, 5, none⟩ v5) :=
  ((((((k.setCell (p := ⟨b, 0, none⟩) h v0).setCell (p := ⟨b, 1, none⟩) h v1).setCell (p := ⟨b, 2, none⟩) h v2).setCell (p := ⟨b, 3, none⟩) h v3).setCell (p := ⟨b, 4, none⟩) h v4).setCell (p := ⟨b, 5, none⟩) h v5)

def G63o6 (w : World) (b0 b1 b2 : Nat) (v0 v1 v2 v3 v4 v5 v6 v7 v8 : Value) (w' : World) : Prop :=
  Kept w w' ∧
  w'.cell? ⟨b0, 0, none⟩ = some v0 ∧
  w'.cell? ⟨b0, 1, none⟩ = some v1 ∧
  w'.cell? ⟨b0, 2, none⟩ = some v2 ∧
  w'.cell? ⟨b0, 3, none⟩ = some v3 ∧
  w'.cell? ⟨b0, 4, none⟩ = some v4 ∧
  w'.cell? ⟨b0, 5, none⟩ = some v5 ∧
  w'.cell? ⟨b1, 0, none⟩ = some v6 ∧
  w'.cell? ⟨b1, 1, none⟩ = some v7 ∧
  w'.cell? ⟨b1, 2, none⟩ = some v8 ∧
  w'.cell? ⟨b2, 0, none⟩ = some (cellV w' ⟨b2, 0, none⟩) ∧
  w'.cell? ⟨b2, 1, none⟩ = some (cellV w' ⟨b2, 1, none⟩) ∧
  w'.cell? ⟨b2, 2, none⟩ = some (cellV w' ⟨b2, 2, none⟩) ∧
  w'.cell? ⟨b2, 3, none⟩ = some (cellV w' ⟨b2, 3, none⟩) ∧
  w'.cell? ⟨b2, 4, none⟩ = some (cellV w' ⟨b2, 4, none⟩) ∧
  w'.cell? ⟨b2, 5, none⟩ = some (cellV w' ⟨b2, 5, none⟩) ∧
  w'.frozen? ⟨b2, 0, none⟩ = false ∧
  w'.frozen? ⟨b2, 1, none⟩ = false ∧
  w'.frozen? ⟨b2, 2, none⟩ = false ∧
  w'.frozen? ⟨b2, 3, none⟩ = false ∧
  w'.frozen? ⟨b2, 4, none⟩ = false ∧
  w'.frozen? ⟨b2, 5, none⟩ = false
theorem G63o6.step {w w1 w2 : World} {b0 b1 b2 : Nat} {v0 v1 v2 v3 v4 v5 v6 v7 v8 : Value} (k : Kept w1 w2) (h : G63o6 w b0 b1 b2 v0 v1 v2 v3 v4 v5 v6 v7 v8 w1) : G63o6 w b0 b1 b2 v0 v1 v2 v3 v4 v5 v6 v7 v8 w2 := by
  obtain ⟨h0, h1, h2, h3, h4, h5, h6, h7, h8, h9, h10, h11, h12, h13, h14, h15, h16, h17, h18, h19, h20, h21⟩ := h
  exact ⟨h0.trans k, kept_cell k h1, kept_cell k h2, kept_cell k h3, kept_cell k h4, kept_cell k h5, kept_cell k h6, kept_cell k h7, kept_cell k h8, kept_cell k h9, kept_there k h10, kept_there k h11, kept_there k h12, kept_there k h13, kept_there k h14, kept_there k h15, kept_frozen k h16, kept_frozen k h17, kept_frozen k h18, kept_frozen k h19, kept_frozen k h20, kept_frozen k h21⟩
theorem G63o6.drew {w w1 : World} {b0 b1 b2 : Nat} {v0 v1 v2 v3 v4 v5 v6 v7 v8 : Value} (h : G63o6 w b0 b1 b2 v0 v1 v2 v3 v4 v5 v6 v7 v8 w1) : G63o6 w b0 b1 b2 v0 v1 v2 v3 v4 v5 v6 v7 v8 w1.drew := h.step (Kept.refl _).drew
theorem G63o6.put {w w1 : World} {b0 b1 b2 : Nat} {v0 v1 v2 v3 v4 v5 v6 v7 v8 : Value} (i : Nat) (v : Value) (ho : w.heap.size ≤ b2) (n0 : b0 ≠ b2) (n1 : b1 ≠ b2) (h : G63o6 w b0 b1 b2 v0 v1 v2 v3 v4 v5 v6 v7 v8 w1) : G63o6 w b0 b1 b2 v0 v1 v2 v3 v4 v5 v6 v7 v8 (w1.setCell ⟨b2, i, none⟩ v) := by
  obtain ⟨h0, h1, h2, h3, h4, h5, h6, h7, h8, h9, h10, h11, h12, h13, h14, h15, h16, h17, h18, h19, h20, h21⟩ := h
  exact ⟨h0.setCell (p := ⟨b2, i, none⟩) ho v, (World.cell?_setCell_other _ _ _ _ (fun e => n0 (by injection e with e; exact e.symm))).trans h1, (World.cell?_setCell_other _ _ _ _ (fun e => n0 (by injection e with e; exact e.symm))).trans h2, (World.cell?_setCell_other _ _ _ _ (fun e => n0 (by injection e with e; exact e.symm))).trans h3, (World.cell?_setCell_other _ _ _ _ (fun e => n0 (by injection e with e; exact e.symm))).trans h4, (World.cell?_setCell_other _ _ _ _ (fun e => n0 (by injection e with e; exact e.symm))).trans h5, (World.cell?_setCell_other _ _ _ _ (fun e => n0 (by injection e with e; exact e.symm))).trans h6, (World.cell?_setCell_other _ _ _ _ (fun e => n1 (by injection e with e; exact e.symm))).trans h7, (World.cell?_setCell_other _ _ _ _ (fun e => n1 (by injection e with e; exact e.symm))).trans h8, (World.cell?_setCell_other _ _ _ _ (fun e => n1 (by injection e with e; exact e.symm))).trans h9, put_there h10, put_there h11, put_there h12, put_there h13, put_there h14, put_there h15, (World.frozen?_setCell _ _ _ _).trans h16, (World.frozen?_setCell _ _ _ _).trans h17, (World.frozen?_setCell _ _ _ _).trans h18, (World.frozen?_setCell _ _ _ _).trans h19, (World.frozen?_setCell _ _ _ _).trans h20, (World.frozen?_setCell _ _ _ _).trans h21⟩

theorem gboth_calls (a0 a1 a2 a3 a4 a5 b0 b1 b2 b3 b4 b5 : Int) (w : World) :
    Calls Tryz.prog 74 #[.agg #[.int .i64 a0, .int .i64 a1, .int .i64 a2, .int .i64 a3, .int .i64 a4, .int .i64 a5], .agg #[.int .i64 b0, .int .i64 b1, .int .i64 b2, .int .i64 b3, .int .i64 b4, .int .i64 b5]] w fun e w' => e = .returned (.agg #[.int .i64 (lesser a0 b0), .int .i64 (lesser a1 b1), .int .i64 (lesser a2 b2), .int .i64 (greater a3 b3), .int .i64 (greater a4 b4), .int .i64 (greater a5 b5)]) ∧ Kept w w' := by
  have hmf : ∀ (fn : Fn) (first cap : Array Value) (w : World), (Instr.makeFunc fn first cap).run Tryz.prog w = .ok (.func fn first cap) w := fun _ _ _ _ => rfl
  go_enter Tryz.func74, Tryz.ntmps74
  go_wp2_with fail
  refine (geach_calls 92 _ (lesser a0 b0) (lesser a1 b1) (lesser a2 b2) (enters_of Tryz.func92 (by kernel_rfl) rfl) (G66At w.heap.size (w.heap.size + 1) (.int .i64 a0) (.int .i64 a1) (.int .i64 a2) (.int .i64 a3) (.int .i64 a4) (.int .i64 a5) (.int .i64 b0) (.int .i64 b1) (.int .i64 b2) (.int .i64 b3) (.int .i64 b4) (.int .i64 b5)) (fun _ _ k h => h.step k)
    (ans2 fun w' h => both1_calls _ _ en0 takes0 _ _ a0 a1 a2 a3 a4 a5 b0 b1 b2 b3 b4 b5 w' h) (ans2 fun w' h => both1_calls _ _ en1 takes1 _ _ a0 a1 a2 a3 a4 a5 b0 b1 b2 b3 b4 b5 w' h) (ans2 fun w' h => both1_calls _ _ en2 takes2 _ _ a0 a1 a2 a3 a4 a5 b0 b1 b2 b3 b4 b5 w' h) _ (by refine ⟨?_, ?_, ?_, ?_, ?_, ?_, ?_, ?_, ?_, ?_, ?_, ?_⟩ <;> go_simp)).mono ?_
  rintro e w1 ⟨rfl, k1⟩
  have hp : G66At w.heap.size (w.heap.size + 1) (.int .i64 a0) (.int .i64 a1) (.int .i64 a2) (.int .i64 a3) (.int .i64 a4) (.int .i64 a5) (.int .i64 b0) (.int .i64 b1) (.int .i64 b2) (.int .i64 b3) (.int .i64 b4) (.int .i64 b5) w1 := G66At.step k1 (by refine ⟨?_, ?_, ?_, ?_, ?_, ?_, ?_, ?_, ?_, ?_, ?_, ?_⟩ <;> go_simp)
  go_wp2_with fail
  refine (geach_calls 93 _ (greater a3 b3) (greater a4 b4) (greater a5 b5) (enters_of Tryz.func93 (by kernel_rfl) rfl) (G66At w.heap.size (w.heap.size + 1) (.int .i64 a0) (.int .i64 a1) (.int .i64 a2) (.int .i64 a3) (.int .i64 a4) (.int .i64 a5) (.int .i64 b0) (.int .i64 b1) (.int .i64 b2) (.int .i64 b3) (.int .i64 b4) (.int .i64 b5)) (fun _ _ k h => h.step k)
    (ans2 fun w' h => both2_calls _ _ en0 takes0 _ _ a0 a1 a2 a3 a4 a5 b0 b1 b2 b3 b4 b5 w' h) (ans2 fun w' h => both2_calls _ _ en1 takes1 _ _ a0 a1 a2 a3 a4 a5 b0 b1 b2 b3 b4 b5 w' h) (ans2 fun w' h => both2_calls _ _ en2 takes2 _ _ a0 a1 a2 a3 a4 a5 b0 b1 b2 b3 b4 b5 w' h) _ hp).mono ?_
  rintro e w2 ⟨rfl, k2⟩
  have c0 : w2.cell? ⟨w.heap.size + 1 + 1, 0, none⟩ = some (.int .i64 0) := kept_cell (k1.trans k2) (by go_simp)
  have c1 : w2.cell? ⟨w.heap.size + 1 + 1, 1, none⟩ = some (.int .i64 0) := kept_cell (k1.trans k2) (by go_simp)
  have c2 : w2.cell? ⟨w.heap.size + 1 + 1, 2, none⟩ = some (.int .i64 0) := kept_cell (k1.trans k2) (by go_simp)
  have c3 : w2.cell? ⟨w.heap.size + 1 + 1, 3, none⟩ = some (.int .i64 0) := kept_cell (k1.trans k2) (by go_simp)
  have c4 : w2.cell? ⟨w.heap.size + 1 + 1, 4, none⟩ = some (.int .i64 0) := kept_cell (k1.trans k2) (by go_simp)
  have c5 : w2.cell? ⟨w.heap.size + 1 + 1, 5, none⟩ = some (.int .i64 0) := kept_cell (k1.trans k2) (by go_simp)
  have f0 : w2.frozen? ⟨w.heap.size + 1 + 1, 0, none⟩ = false := kept_frozen (k1.trans k2) (by go_simp)
  have f1 : w2.frozen? ⟨w.heap.size + 1 + 1, 1, none⟩ = false := kept_frozen (k1.trans k2) (by go_simp)
  have f2 : w2.frozen? ⟨w.heap.size + 1 + 1, 2, none⟩ = false := kept_frozen (k1.trans k2) (by go_simp)
  have f3 : w2.frozen? ⟨w.heap.size + 1 + 1, 3, none⟩ = false := kept_frozen (k1.trans k2) (by go_simp)
  have f4 : w2.frozen? ⟨w.heap.size + 1 + 1, 4, none⟩ = false := kept_frozen (k1.trans k2) (by go_simp)
  have f5 : w2.frozen? ⟨w.heap.size + 1 + 1, 5, none⟩ = false := kept_frozen (k1.trans k2) (by go_simp)
  clear hp
  go_wp2
  obtain ⟨e0, e1, e2, e3, e4, e5⟩ := set6_of (v0 := .int .i64 (lesser a0 b0)) (v1 := .int .i64 (lesser a1 b1)) (v2 := .int .i64 (lesser a2 b2)) (v3 := .int .i64 (greater a3 b3)) (v4 := .int .i64 (greater a4 b4)) (v5 := .int .i64 (greater a5 b5)) c0 c1 c2 c3 c4 c5
  exact bodyPost_ret (v := .agg #[.int .i64 (lesser a0 b0), .int .i64 (lesser a1 b1), .int .i64 (lesser a2 b2), .int .i64 (greater a3 b3), .int .i64 (greater a4 b4), .int .i64 (greater a5 b5)]) (by simp [results, Tryz.results74, go_sem, e0, e1, e2, e3, e4, e5]) rfl
    ⟨rfl, kept_set6 (((((Kept.refl w).alloc _ _).alloc _ _).alloc _ _).trans (k1.trans k2)) (by omega) _ _ _ _ _ _⟩
theorem gfat_calls (a0 a1 a2 a3 a4 a5 n : Int) (w : World) :
    Calls Tryz.prog 20 #[.agg #[.int .i64 a0, .int .i64 a1, .int .i64 a2, .int .i64 a3, .int .i64 a4, .int .i64 a5], .int .i64 n] w fun e w' => e = .returned (.agg #[.int .i64 (sub a0 n), .int .i64 (sub a1 n), .int .i64 (sub a2 n), .int .i64 (add a3 n), .int .i64 (add a4 n), .int .i64 (add a5 n)]) ∧ Kept w w' := by
  go_enter Tryz.func20, Tryz.ntmps20
  go_wp2
  refine wp_region_held_drew (S := (fun w' => Kept w w' ∧ w'.cell? ⟨w.heap.size, 0, none⟩ = some (.int .i64 a0) ∧ w'.cell? ⟨w.heap.size, 1, none⟩ = some (.int .i64 a1) ∧ w'.cell? ⟨w.heap.size, 2, none⟩ = some (.int .i64 a2) ∧ w'.cell? ⟨w.heap.size, 3, none⟩ = some (.int .i64 a3) ∧ w'.cell? ⟨w.heap.size, 4, none⟩ = some (.int .i64 a4) ∧ w'.cell? ⟨w.heap.size, 5, none⟩ = some (.int .i64 a5) ∧ w'.cell? ⟨w.heap.size + 1 + 1, 0, none⟩ = some (.int .i64 n) ∧ w'.cell? ⟨w.heap.size + 1 + 1, 1, none⟩ = some (.int .i64 n) ∧ w'.cell? ⟨w.heap.size + 1 + 1, 2, none⟩ = some (.int .i64 n) ∧ w'.cell? ⟨w.heap.size + 1, 0, none⟩ = some (cellV w' ⟨w.heap.size + 1, 0, none⟩) ∧ w'.cell? ⟨w.heap.size + 1, 1, none⟩ = some (cellV w' ⟨w.heap.size + 1, 1, none⟩) ∧ w'.cell? ⟨w.heap.size + 1, 2, none⟩ = some (cellV w' ⟨w.heap.size + 1, 2, none⟩) ∧ w'.cell? ⟨w.heap.size + 1, 3, none⟩ = some (cellV w' ⟨w.heap.size + 1, 3, none⟩) ∧ w'.cell? ⟨w.heap.size + 1, 4, none⟩ = some (cellV w' ⟨w.heap.size + 1, 4, none⟩) ∧ w'.cell? ⟨w.heap.size + 1, 5, none⟩ = some (cellV w' ⟨w.heap.size + 1, 5, none⟩) ∧ w'.frozen? ⟨w.heap.size + 1, 0, none⟩ = false ∧ w'.frozen? ⟨w.heap.size + 1, 1, none⟩ = false ∧ w'.frozen? ⟨w.heap.size + 1, 2, none⟩ = false ∧ w'.frozen? ⟨w.heap.size + 1, 3, none⟩ = false ∧ w'.frozen? ⟨w.heap.size + 1, 4, none⟩ = false ∧ w'.frozen? ⟨w.heap.size + 1, 5, none⟩ = false)) (by kernel_rfl) ?_ (fun hHeld1 => ?_)
  · (try dsimp only); exact G63o6.drew (by refine ⟨(((Kept.refl w).alloc _ _).alloc _ _).alloc _ _, ?_, ?_, ?_, ?_, ?_, ?_, ?_, ?_, ?_, cellV_of (v := .int .i64 0) ?_, cellV_of (v := .int .i64 0) ?_, cellV_of (v := .int .i64 0) ?_, cellV_of (v := .int .i64 0) ?_, cellV_of (v := .int .i64 0) ?_, cellV_of (v := .int .i64 0) ?_, ?_, ?_, ?_, ?_, ?_, ?_⟩ <;> go_simp)
  refine tkW 0 rfl ?_; refine tkW 1 rfl ?_; refine tkW 2 rfl ?_; refine tkW 4 rfl ?_
  try simp only [Act.put, List.setIfInBounds_toArray, List.set_cons_zero, List.set_cons_succ, List.getElem_toArray, List.getElem_cons_succ, List.getElem_cons_zero]
  refine tkW 5 rfl ?_; refine tkW 6 rfl ?_
  try simp only [Act.put, List.setIfInBounds_toArray, List.set_cons_zero, List.set_cons_succ, List.getElem_toArray, List.getElem_cons_succ, List.getElem_cons_zero]
  refine wpAnyH_ready (rs := [3]) (by kernel_rfl) (by simp) ?_
  refine AllReadyH.cons rfl (fun K hK => ?_) AllReadyH.nil
  first | (with_reducible refine iteYes ?hcx ?htx; case hcx => kernel_rfl) | rw [if_pos (by rfl)]
  simp only [List.getElem_toArray, List.getElem_cons_succ, List.getElem_cons_zero]
  go_simp
  (go_at_call 33; refine (minus_calls _ _ _ _ _ _ _).mono ?_; rintro e w1 ⟨rfl, k1⟩)
  try go_wp2_with fail
  refine hK.out _ _ ?_ (fun hHeld2 => ?_)
  · (try dsimp only); exact G63o6.step k1 hHeld1
  clear hK K hHeld1
  try simp only [Act.put, List.setIfInBounds_toArray, List.set_cons_zero, List.set_cons_succ, List.getElem_toArray, List.getElem_cons_succ, List.getElem_cons_zero]
  refine wpAnyH_ready (rs := [7]) (by kernel_rfl) (by simp) ?_
  refine AllReadyH.cons rfl (fun K hK => ?_) AllReadyH.nil
  first | (with_reducible refine iteYes ?hcx ?htx; case hcx => kernel_rfl) | rw [if_pos (by rfl)]
  simp only [List.getElem_toArray, List.getElem_cons_succ, List.getElem_cons_zero]
  go_simp
  (go_at_call 34; refine (plus_calls _ _ _ _ _ _ _).mono ?_; rintro e w2 ⟨rfl, k2⟩)
  try go_wp2_with fail
  refine hK.out _ _ ?_ (fun hHeld3 => ?_)
  · (try dsimp only); exact G63o6.step k2 hHeld2
  clear hK K hHeld2
  try simp only [Act.put, List.setIfInBounds_toArray, List.set_cons_zero, List.set_cons_succ, List.getElem_toArray, List.getElem_cons_succ, List.getElem_cons_zero]
  refine tkW 8 rfl ?_
  try simp only [Act.put, List.setIfInBounds_toArray, List.set_cons_zero, List.set_cons_succ, List.getElem_toArray, List.getElem_cons_succ, List.getElem_cons_zero]
  refine wpAnyH_ready (rs := [9]) (by kernel_rfl) (by simp) ?_
  refine AllReadyH.cons rfl (fun K hK => ?_) AllReadyH.nil
  first | (with_reducible refine iteYes ?hcx ?htx; case hcx => kernel_rfl) | rw [if_pos (by rfl)]
  simp only [List.getElem_toArray, List.getElem_cons_succ, List.getElem_cons_zero]
  go_simp
  refine hK.out _ _ ?_ (fun hHeld4 => ?_)
  · (try dsimp only); exact (G63o6.put 5 _ (by omega) (by omega) (by omega) (G63o6.put 4 _ (by omega) (by omega) (by omega) (G63o6.put 3 _ (by omega) (by omega) (by omega) (G63o6.put 2 _ (by omega) (by omega) (by omega) (G63o6.put 1 _ (by omega) (by omega) (by omega) (G63o6.put 0 _ (by omega) (by omega) (by omega) hHeld3))))))
  clear hK K
  try simp only [Act.put, List.setIfInBounds_toArray, List.set_cons_zero, List.set_cons_succ, List.getElem_toArray, List.getElem_cons_succ, List.getElem_cons_zero]
  refine wpAnyH_done (by kernel_rfl) ?_ _
  go_wp2
  obtain ⟨hk, _, _, _, _, _, _, _, _, _, c0, c1, c2, c3, c4, c5, _⟩ := hHeld3
  obtain ⟨e0, e1, e2, e3, e4, e5⟩ := set6_of (v0 := .int .i64 (sub a0 n)) (v1 := .int .i64 (sub a1 n)) (v2 := .int .i64 (sub a2 n)) (v3 := .int .i64 (add a3 n)) (v4 := .int .i64 (add a4 n)) (v5 := .int .i64 (add a5 n)) c0 c1 c2 c3 c4 c5
  exact bodyPost_ret (v := .agg #[.int .i64 (sub a0 n), .int .i64 (sub a1 n), .int .i64 (sub a2 n), .int .i64 (add a3 n), .int .i64 (add a4 n), .int .i64 (add a5 n)]) (by simp [results, Tryz.results20, go_sem, e0, e1, e2, e3, e4, e5]) rfl ⟨rfl, kept_set6 hk (by omega) _ _ _ _ _ _⟩
end Go.Proofs.YtdhbcgdlmkkdfaaGreatDoor
