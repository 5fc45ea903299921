/- geom.Both and Fat answer what chapter 2 says: whatever the boxes. · gyreref.Parts, Meet, Within answer what chapter 2 says: whatever the boxes. · gyreref.Both, Fat, Near and gyrelaw.box answer what chapter 2 says: whatever the boxes. · geom.half, Around, Right and gyreref.Around answer what chapter 2 says: whatever the shape and the place. · broad.node.measure and join: a joint's room and height are those of what hangs below it: whatever the two nodes are. · Trees as they lie in memory, a hole in one with all around it, and broad.Tree.replace: whatever the tree. · broad.Tree.level: a joint whose two differ by at most 1 stays; one that differs by more is turned: whatever lies around it. -/
import Derived.Test.YtbfkloclmlnahabGreatA1
import Derived.Test.YtbfkloclmlnahabGreatA0
import Derived.BigRegion
import Derived.LaidEql
open List renaming getElem_toArray → zqa, getElem_cons_succ → zqb, getElem_cons_zero → zqc, setIfInBounds_toArray → zqd, set_cons_zero → zqe, set_cons_succ → zqf, getElem?_toArray → zqg, getElem?_cons_succ → zqh, getElem?_cons_zero → zqi
namespace Go.Proofs.YtbfkloclmlnahabGreat
open Go.ChangeShapes Go.WideShapes Go.ChangeAt Go.RowKit
set_option linter.unusedSimpArgs false

theorem set6_of {w : World} {b : Nat} {v0 v1 v2 v3 v4 v5 u0 u1 u2 u3 u4 u5 : Value} (h0 : w.cell? ⟨b, 0, none⟩ = some u0) (h1 : w.cell? ⟨b, 1, none⟩ = some u1) (h2 : w.cell? ⟨b, 2, none⟩ = some u2) (h3 : w.cell? ⟨b, 3, none⟩ = some u3) (h4 : w.cell? ⟨b, 4, none⟩ = some u4) (h5 : w.cell? ⟨b, 5, none⟩ = some u5) :
    ((((((w.setCell ⟨b, 0, none⟩ v0).setCell ⟨b, 1, none⟩ v1).setCell ⟨b, 2, none⟩ v2).setCell ⟨b, 3, none⟩ v3).setCell ⟨b, 4, none⟩ v4).setCell ⟨b, 5, none⟩ v5).cell? ⟨b, 0, none⟩ = some v0 ∧ ((((((w.setCell ⟨b, 0, none⟩ v0).setCell ⟨b, 1, none⟩ v1).setCell ⟨b, 2, none⟩ v2).setCell ⟨b, 3, none⟩ v3).setCell ⟨b, 4, none⟩ v4).setCell ⟨b, 5, none⟩ v5).cell? ⟨b, 1, none⟩ = some v1 ∧ ((((((w.setCell ⟨b, 0, none⟩ v0).setCell ⟨b, 1, none⟩ v1).setCell ⟨b, 2, none⟩ v2).setCell ⟨b, 3, none⟩ v3).setCell ⟨b, 4, none⟩ v4).setCell ⟨b, 5, none⟩ v5).cell? ⟨b, 2, none⟩ = some v2 ∧ ((((((w.setCell ⟨b, 0, none⟩ v0).setCell ⟨b, 1, none⟩ v1).setCell ⟨b, 2, none⟩ v2).setCell ⟨b, 3, none⟩ v3).setCell ⟨b, 4, none⟩ v4).setCell ⟨b, 5, none⟩ v5).cell? ⟨b, 3, none⟩ = some v3 ∧ ((((((w.setCell ⟨b, 0, none⟩ v0).setCell ⟨b, 1, none⟩ v1).setCell ⟨b, 2, none⟩ v2).setCell ⟨b, 3, none⟩ v3).setCell ⟨b, 4, none⟩ v4).setCell ⟨b, 5, none⟩ v5).cell? ⟨b, 4, none⟩ = some v4 ∧ ((((((w.setCell ⟨b, 0, none⟩ v0).setCell ⟨b, 1, none⟩ v1).setCell ⟨b, 2, none⟩ v2).setCell ⟨b, 3, none⟩ v3).setCell ⟨b, 4, none⟩ v4).setCell ⟨b, 5, none⟩ v5).cell? ⟨b, 5, none⟩ = some v5 := by
  have n1 : ∀ i j : Nat, i ≠ j → (⟨b, i, none⟩ : Addr) ≠ ⟨b, j, none⟩ := fun i j h e => h (by injection e)
  exact ⟨(World.cell?_setCell_other _ _ _ _ (n1 5 0 (by decide))).trans ((World.cell?_setCell_other _ _ _ _ (n1 4 0 (by decide))).trans ((World.cell?_setCell_other _ _ _ _ (n1 3 0 (by decide))).trans ((World.cell?_setCell_other _ _ _ _ (n1 2 0 (by decide))).trans ((World.cell?_setCell_other _ _ _ _ (n1 1 0 (by decide))).trans (World.cell?_setCell_same _ _ _ (h0)))))), (World.cell?_setCell_other _ _ _ _ (n1 5 1 (by decide))).trans ((World.cell?_setCell_other _ _ _ _ (n1 4 1 (by decide))).trans ((World.cell?_setCell_other _ _ _ _ (n1 3 1 (by decide))).trans ((World.cell?_setCell_other _ _ _ _ (n1 2 1 (by decide))).trans (World.cell?_setCell_same _ _ _ ((World.cell?_setCell_other _ _ _ _ (n1 0 1 (by decide))).trans (h1)))))), (World.cell?_setCell_other _ _ _ _ (n1 5 2 (by decide))).trans ((World.cell?_setCell_other _ _ _ _ (n1 4 2 (by decide))).trans ((World.cell?_setCell_other _ _ _ _ (n1 3 2 (by decide))).trans (World.cell?_setCell_same _ _ _ ((World.cell?_setCell_other _ _ _ _ (n1 1 2 (by decide))).trans ((World.cell?_setCell_other _ _ _ _ (n1 0 2 (by decide))).trans (h2)))))), (World.cell?_setCell_other _ _ _ _ (n1 5 3 (by decide))).trans ((World.cell?_setCell_other _ _ _ _ (n1 4 3 (by decide))).trans (World.cell?_setCell_same _ _ _ ((World.cell?_setCell_other _ _ _ _ (n1 2 3 (by decide))).trans ((World.cell?_setCell_other _ _ _ _ (n1 1 3 (by decide))).trans ((World.cell?_setCell_other _ _ _ _ (n1 0 3 (by decide))).trans (h3)))))), (World.cell?_setCell_other _ _ _ _ (n1 5 4 (by decide))).trans (World.cell?_setCell_same _ _ _ ((World.cell?_setCell_other _ _ _ _ (n1 3 4 (by decide))).trans ((World.cell?_setCell_other _ _ _ _ (n1 2 4 (by decide))).trans ((World.cell?_setCell_other _ _ _ _ (n1 1 4 (by decide))).trans ((World.cell?_setCell_other _ _ _ _ (n1 0 4 (by decide))).trans (h4)))))), World.cell?_setCell_same _ _ _ ((World.cell?_setCell_other _ _ _ _ (n1 4 5 (by decide))).trans ((World.cell?_setCell_other _ _ _ _ (n1 3 5 (by decide))).trans ((World.cell?_setCell_other _ _ _ _ (n1 2 5 (by decide))).trans ((World.cell?_setCell_other _ _ _ _ (n1 1 5 (by decide))).trans ((World.cell?_setCell_other _ _ _ _ (n1 0 5 (by decide))).trans (h5))))))⟩
theorem kept_set6 {w w1 : World} {b : Nat} (k : Kept w w1) (h : w.heap.size ≤ b) (v0 v1 v2 v3 v4 v5 : Value) : Kept w ((((((w1.setCell ⟨b, 0, none⟩ v0).setCell ⟨b, 1, none⟩ v1).setCell ⟨b, 2, none⟩ v2).setCell ⟨b, 3, none⟩ v3).setCell ⟨b, 4, none⟩ v4).setCell ⟨b, 5, none⟩ v5) :=
  ((((((k.setCell (p := ⟨b, 0, none⟩) h v0).setCell (p := ⟨b, 1, none⟩) h v1).setCell (p := ⟨b, 2, none⟩) h v2).setCell (p := ⟨b, 3, none⟩) h v3).setCell (p := ⟨b, 4, none⟩) h v4).setCell (p := ⟨b, 5, none⟩) h v5)

def G63o6 (w : World) (b0 b1 b2 : Nat) (v0 v1 v2 v3 v4 v5 v6 v7 v8 : Value) (w' : World) : Prop :=
  Kept w w' ∧
  w'.cell? ⟨b0, 0, none⟩ = some v0 ∧
  w'.cell? ⟨b0, 1, none⟩ = some v1 ∧
  w'.cell? ⟨b0, 2, none⟩ = some v2 ∧
  w'.cell? ⟨b0, 3, none⟩ = some v3 ∧
  w'.cell? ⟨b0, 4, none⟩ = some v4 ∧
  w'.cell? ⟨b0, 5, none⟩ = some v5 ∧
  w'.cell? ⟨b1, 0, none⟩ = some v6 ∧
  w'.cell? ⟨b1, 1, none⟩ = some v7 ∧
  w'.cell? ⟨b1, 2, none⟩ = some v8 ∧
  w'.cell? ⟨b2, 0, none⟩ = some (cellV w' ⟨b2, 0, none⟩) ∧
  w'.cell? ⟨b2, 1, none⟩ = some (cellV w' ⟨b2, 1, none⟩) ∧
  w'.cell? ⟨b2, 2, none⟩ = some (cellV w' ⟨b2, 2, none⟩) ∧
  w'.cell? ⟨b2, 3, none⟩ = some (cellV w' ⟨b2, 3, none⟩) ∧
  w'.cell? ⟨b2, 4, none⟩ = some (cellV w' ⟨b2, 4, none⟩) ∧
  w'.cell? ⟨b2, 5, none⟩ = some (cellV w' ⟨b2, 5, none⟩) ∧
  w'.frozen? ⟨b2, 0, none⟩ = false ∧
  w'.frozen? ⟨b2, 1, none⟩ = false ∧
  w'.frozen? ⟨b2, 2, none⟩ = false ∧
  w'.frozen? ⟨b2, 3, none⟩ = false ∧
  w'.frozen? ⟨b2, 4, none⟩ = false ∧
  w'.frozen? ⟨b2, 5, none⟩ = false
theorem G63o6.step {w w1 w2 : World} {b0 b1 b2 : Nat} {v0 v1 v2 v3 v4 v5 v6 v7 v8 : Value} (k : Kept w1 w2) (h : G63o6 w b0 b1 b2 v0 v1 v2 v3 v4 v5 v6 v7 v8 w1) : G63o6 w b0 b1 b2 v0 v1 v2 v3 v4 v5 v6 v7 v8 w2 := by
  obtain ⟨h0, h1, h2, h3, h4, h5, h6, h7, h8, h9, h10, h11, h12, h13, h14, h15, h16, h17, h18, h19, h20, h21⟩ := h
  exact ⟨h0.trans k, kept_cell k h1, kept_cell k h2, kept_cell k h3, kept_cell k h4, kept_cell k h5, kept_cell k h6, kept_cell k h7, kept_cell k h8, kept_cell k h9, kept_there k h10, kept_there k h11, kept_there k h12, kept_there k h13, kept_there k h14, kept_there k h15, kept_frozen k h16, kept_frozen k h17, kept_frozen k h18, kept_frozen k h19, kept_frozen k h20, kept_frozen k h21⟩
theorem G63o6.drew {w w1 : World} {b0 b1 b2 : Nat} {v0 v1 v2 v3 v4 v5 v6 v7 v8 : Value} (h : G63o6 w b0 b1 b2 v0 v1 v2 v3 v4 v5 v6 v7 v8 w1) : G63o6 w b0 b1 b2 v0 v1 v2 v3 v4 v5 v6 v7 v8 w1.drew := h.step (Kept.refl _).drew
theorem G63o6.put {w w1 : World} {b0 b1 b2 : Nat} {v0 v1 v2 v3 v4 v5 v6 v7 v8 : Value} (i : Nat) (v : Value) (ho : w.heap.size ≤ b2) (n0 : b0 ≠ b2) (n1 : b1 ≠ b2) (h : G63o6 w b0 b1 b2 v0 v1 v2 v3 v4 v5 v6 v7 v8 w1) : G63o6 w b0 b1 b2 v0 v1 v2 v3 v4 v5 v6 v7 v8 (w1.setCell ⟨b2, i, none⟩ v) := by
  obtain ⟨h0, h1, h2, h3, h4, h5, h6, h7, h8, h9, h10, h11, h12, h13, h14, h15, h16, h17, h18, h19, h20, h21⟩ := h
  exact ⟨h0.setCell (p := ⟨b2, i, none⟩) ho v, (World.cell?_setCell_other _ _ _ _ (fun e => n0 (by injection e with e; exact e.symm))).trans h1, (World.cell?_setCell_other _ _ _ _ (fun e => n0 (by injection e with e; exact e.symm))).trans h2, (World.cell?_setCell_other _ _ _ _ (fun e => n0 (by injection e with e; exact e.symm))).trans h3, (World.cell?_setCell_other _ _ _ _ (fun e => n0 (by injection e with e; exact e.symm))).trans h4, (World.cell?_setCell_other _ _ _ _ (fun e => n0 (by injection e with e; exact e.symm))).trans h5, (World.cell?_setCell_other _ _ _ _ (fun e => n0 (by injection e with e; exact e.symm))).trans h6, (World.cell?_setCell_other _ _ _ _ (fun e => n1 (by injection e with e; exact e.symm))).trans h7, (World.cell?_setCell_other _ _ _ _ (fun e => n1 (by injection e with e; exact e.symm))).trans h8, (World.cell?_setCell_other _ _ _ _ (fun e => n1 (by injection e with e; exact e.symm))).trans h9, put_there h10, put_there h11, put_there h12, put_there h13, put_there h14, put_there h15, (World.frozen?_setCell _ _ _ _).trans h16, (World.frozen?_setCell _ _ _ _).trans h17, (World.frozen?_setCell _ _ _ _).trans h18, (World.frozen?_setCell _ _ _ _).trans h19, (World.frozen?_setCell _ _ _ _).trans h20, (World.frozen?_setCell _ _ _ _).trans h21⟩

theorem gboth_calls (a0 a1 a2 a3 a4 a5 b0 b1 b2 b3 b4 b5 : Int) (w : World) :
    Calls Tryz.prog 126 #[.agg #[.int .i64 a0, .int .i64 a1, .int .i64 a2, .int .i64 a3, .int .i64 a4, .int .i64 a5], .agg #[.int .i64 b0, .int .i64 b1, .int .i64 b2, .int .i64 b3, .int .i64 b4, .int .i64 b5]] w fun e w' => e = .returned (.agg #[.int .i64 (lesser a0 b0), .int .i64 (lesser a1 b1), .int .i64 (lesser a2 b2), .int .i64 (greater a3 b3), .int .i64 (greater a4 b4), .int .i64 (greater a5 b5)]) ∧ Kept w w' := by
  have hmf : ∀ (fn : Fn) (first cap : Array Value) (w : World), (Instr.makeFunc fn first cap).run Tryz.prog w = .ok (.func fn first cap) w := fun _ _ _ _ => rfl
  go_enter Tryz.func126, Tryz.ntmps126
  go_wp2_with fail
  refine (geach_calls 129 _ (lesser a0 b0) (lesser a1 b1) (lesser a2 b2) (enters_of Tryz.func129 (by kernel_rfl) rfl) (G66At w.heap.size (w.heap.size + 1) (.int .i64 a0) (.int .i64 a1) (.int .i64 a2) (.int .i64 a3) (.int .i64 a4) (.int .i64 a5) (.int .i64 b0) (.int .i64 b1) (.int .i64 b2) (.int .i64 b3) (.int .i64 b4) (.int .i64 b5)) (fun _ _ k h => h.step k)
    (ans2 fun w' h => both1_calls _ _ en0 takes0 _ _ a0 a1 a2 a3 a4 a5 b0 b1 b2 b3 b4 b5 w' h) (ans2 fun w' h => both1_calls _ _ en1 takes1 _ _ a0 a1 a2 a3 a4 a5 b0 b1 b2 b3 b4 b5 w' h) (ans2 fun w' h => both1_calls _ _ en2 takes2 _ _ a0 a1 a2 a3 a4 a5 b0 b1 b2 b3 b4 b5 w' h) _ (by refine ⟨?_, ?_, ?_, ?_, ?_, ?_, ?_, ?_, ?_, ?_, ?_, ?_⟩ <;> go_simp)).mono ?_
  rintro e w1 ⟨rfl, k1⟩
  have hp : G66At w.heap.size (w.heap.size + 1) (.int .i64 a0) (.int .i64 a1) (.int .i64 a2) (.int .i64 a3) (.int .i64 a4) (.int .i64 a5) (.int .i64 b0) (.int .i64 b1) (.int .i64 b2) (.int .i64 b3) (.int .i64 b4) (.int .i64 b5) w1 := G66At.step k1 (by refine ⟨?_, ?_, ?_, ?_, ?_, ?_, ?_, ?_, ?_, ?_, ?_, ?_⟩ <;> go_simp)
  go_wp2_with fail
  refine (geach_calls 130 _ (greater a3 b3) (greater a4 b4) (greater a5 b5) (enters_of Tryz.func130 (by kernel_rfl) rfl) (G66At w.heap.size (w.heap.size + 1) (.int .i64 a0) (.int .i64 a1) (.int .i64 a2) (.int .i64 a3) (.int .i64 a4) (.int .i64 a5) (.int .i64 b0) (.int .i64 b1) (.int .i64 b2) (.int .i64 b3) (.int .i64 b4) (.int .i64 b5)) (fun _ _ k h => h.step k)
    (ans2 fun w' h => both2_calls _ _ en0 takes0 _ _ a0 a1 a2 a3 a4 a5 b0 b1 b2 b3 b4 b5 w' h) (ans2 fun w' h => both2_calls _ _ en1 takes1 _ _ a0 a1 a2 a3 a4 a5 b0 b1 b2 b3 b4 b5 w' h) (ans2 fun w' h => both2_calls _ _ en2 takes2 _ _ a0 a1 a2 a3 a4 a5 b0 b1 b2 b3 b4 b5 w' h) _ hp).mono ?_
  rintro e w2 ⟨rfl, k2⟩
  have c0 : w2.cell? ⟨w.heap.size + 1 + 1, 0, none⟩ = some (.int .i64 0) := kept_cell (k1.trans k2) (by go_simp)
  have c1 : w2.cell? ⟨w.heap.size + 1 + 1, 1, none⟩ = some (.int .i64 0) := kept_cell (k1.trans k2) (by go_simp)
  have c2 : w2.cell? ⟨w.heap.size + 1 + 1, 2, none⟩ = some (.int .i64 0) := kept_cell (k1.trans k2) (by go_simp)
  have c3 : w2.cell? ⟨w.heap.size + 1 + 1, 3, none⟩ = some (.int .i64 0) := kept_cell (k1.trans k2) (by go_simp)
  have c4 : w2.cell? ⟨w.heap.size + 1 + 1, 4, none⟩ = some (.int .i64 0) := kept_cell (k1.trans k2) (by go_simp)
  have c5 : w2.cell? ⟨w.heap.size + 1 + 1, 5, none⟩ = some (.int .i64 0) := kept_cell (k1.trans k2) (by go_simp)
  have f0 : w2.frozen? ⟨w.heap.size + 1 + 1, 0, none⟩ = false := kept_frozen (k1.trans k2) (by go_simp)
  have f1 : w2.frozen? ⟨w.heap.size + 1 + 1, 1, none⟩ = false := kept_frozen (k1.trans k2) (by go_simp)
  have f2 : w2.frozen? ⟨w.heap.size + 1 + 1, 2, none⟩ = false := kept_frozen (k1.trans k2) (by go_simp)
  have f3 : w2.frozen? ⟨w.heap.size + 1 + 1, 3, none⟩ = false := kept_frozen (k1.trans k2) (by go_simp)
  have f4 : w2.frozen? ⟨w.heap.size + 1 + 1, 4, none⟩ = false := kept_frozen (k1.trans k2) (by go_simp)
  have f5 : w2.frozen? ⟨w.heap.size + 1 + 1, 5, none⟩ = false := kept_frozen (k1.trans k2) (by go_simp)
  clear hp
  go_wp2
  obtain ⟨e0, e1, e2, e3, e4, e5⟩ := set6_of (v0 := .int .i64 (lesser a0 b0)) (v1 := .int .i64 (lesser a1 b1)) (v2 := .int .i64 (lesser a2 b2)) (v3 := .int .i64 (greater a3 b3)) (v4 := .int .i64 (greater a4 b4)) (v5 := .int .i64 (greater a5 b5)) c0 c1 c2 c3 c4 c5
  exact bodyPost_ret (v := .agg #[.int .i64 (lesser a0 b0), .int .i64 (lesser a1 b1), .int .i64 (lesser a2 b2), .int .i64 (greater a3 b3), .int .i64 (greater a4 b4), .int .i64 (greater a5 b5)]) (by simp [results, Tryz.results126, go_sem, e0, e1, e2, e3, e4, e5]) rfl
    ⟨rfl, kept_set6 (((((Kept.refl w).alloc _ _).alloc _ _).alloc _ _).trans (k1.trans k2)) (by omega) _ _ _ _ _ _⟩
theorem gfat_calls (a0 a1 a2 a3 a4 a5 n : Int) (w : World) :
    Calls Tryz.prog 74 #[.agg #[.int .i64 a0, .int .i64 a1, .int .i64 a2, .int .i64 a3, .int .i64 a4, .int .i64 a5], .int .i64 n] w fun e w' => e = .returned (.agg #[.int .i64 (sub a0 n), .int .i64 (sub a1 n), .int .i64 (sub a2 n), .int .i64 (add a3 n), .int .i64 (add a4 n), .int .i64 (add a5 n)]) ∧ Kept w w' := by
  go_enter Tryz.func74, Tryz.ntmps74
  go_wp2
  refine wp_region_held_drew (S := (fun w' => Kept w w' ∧ w'.cell? ⟨w.heap.size, 0, none⟩ = some (.int .i64 a0) ∧ w'.cell? ⟨w.heap.size, 1, none⟩ = some (.int .i64 a1) ∧ w'.cell? ⟨w.heap.size, 2, none⟩ = some (.int .i64 a2) ∧ w'.cell? ⟨w.heap.size, 3, none⟩ = some (.int .i64 a3) ∧ w'.cell? ⟨w.heap.size, 4, none⟩ = some (.int .i64 a4) ∧ w'.cell? ⟨w.heap.size, 5, none⟩ = some (.int .i64 a5) ∧ w'.cell? ⟨w.heap.size + 1 + 1, 0, none⟩ = some (.int .i64 n) ∧ w'.cell? ⟨w.heap.size + 1 + 1, 1, none⟩ = some (.int .i64 n) ∧ w'.cell? ⟨w.heap.size + 1 + 1, 2, none⟩ = some (.int .i64 n) ∧ w'.cell? ⟨w.heap.size + 1, 0, none⟩ = some (cellV w' ⟨w.heap.size + 1, 0, none⟩) ∧ w'.cell? ⟨w.heap.size + 1, 1, none⟩ = some (cellV w' ⟨w.heap.size + 1, 1, none⟩) ∧ w'.cell? ⟨w.heap.size + 1, 2, none⟩ = some (cellV w' ⟨w.heap.size + 1, 2, none⟩) ∧ w'.cell? ⟨w.heap.size + 1, 3, none⟩ = some (cellV w' ⟨w.heap.size + 1, 3, none⟩) ∧ w'.cell? ⟨w.heap.size + 1, 4, none⟩ = some (cellV w' ⟨w.heap.size + 1, 4, none⟩) ∧ w'.cell? ⟨w.heap.size + 1, 5, none⟩ = some (cellV w' ⟨w.heap.size + 1, 5, none⟩) ∧ w'.frozen? ⟨w.heap.size + 1, 0, none⟩ = false ∧ w'.frozen? ⟨w.heap.size + 1, 1, none⟩ = false ∧ w'.frozen? ⟨w.heap.size + 1, 2, none⟩ = false ∧ w'.frozen? ⟨w.heap.size + 1, 3, none⟩ = false ∧ w'.frozen? ⟨w.heap.size + 1, 4, none⟩ = false ∧ w'.frozen? ⟨w.heap.size + 1, 5, none⟩ = false)) (by kernel_rfl) ?_ (fun hHeld1 => ?_)
  · (try dsimp only); exact G63o6.drew (by refine ⟨(((Kept.refl w).alloc _ _).alloc _ _).alloc _ _, ?_, ?_, ?_, ?_, ?_, ?_, ?_, ?_, ?_, cellV_of (v := .int .i64 0) ?_, cellV_of (v := .int .i64 0) ?_, cellV_of (v := .int .i64 0) ?_, cellV_of (v := .int .i64 0) ?_, cellV_of (v := .int .i64 0) ?_, cellV_of (v := .int .i64 0) ?_, ?_, ?_, ?_, ?_, ?_, ?_⟩ <;> go_simp)
  refine wpAnyH_take (i := 0) (v := ?_) rfl (by kernel_rfl) (by kernel_rfl) (by kernel_rfl) (fun _ _ _ h => h) (Or.inl ⟨by kernel_rfl, ?_⟩) (by assumption) ?_
  rotate_left
  · intro w'' hSw; (try dsimp only at hSw); simp only [zqa, zqb, zqc]; (go_simp <;> with_reducible rfl)
  try simp only [Act.put, zqd, zqe, zqf, zqa, zqb, zqc]
  refine wpAnyH_take (i := 1) (v := ?_) rfl (by kernel_rfl) (by kernel_rfl) (by kernel_rfl) (fun _ _ _ h => h) (Or.inl ⟨by kernel_rfl, ?_⟩) (by assumption) ?_
  rotate_left
  · intro w'' hSw; (try dsimp only at hSw); simp only [zqa, zqb, zqc]; (go_simp <;> with_reducible rfl)
  try simp only [Act.put, zqd, zqe, zqf, zqa, zqb, zqc]
  refine wpAnyH_take (i := 2) (v := ?_) rfl (by kernel_rfl) (by kernel_rfl) (by kernel_rfl) (fun _ _ _ h => h) (Or.inl ⟨by kernel_rfl, ?_⟩) (by assumption) ?_
  rotate_left
  · intro w'' hSw; (try dsimp only at hSw); simp only [zqa, zqb, zqc]; (go_simp <;> with_reducible rfl)
  try simp only [Act.put, zqd, zqe, zqf, zqa, zqb, zqc]
  refine wpAnyH_take (i := 4) (v := ?_) rfl (by kernel_rfl) (by kernel_rfl) (by kernel_rfl) (fun _ _ _ h => h) (Or.inl ⟨by kernel_rfl, ?_⟩) (by assumption) ?_
  rotate_left
  · intro w'' hSw; (try dsimp only at hSw); simp only [zqa, zqb, zqc]; (go_simp <;> with_reducible rfl)
  try simp only [Act.put, zqd, zqe, zqf, zqa, zqb, zqc]
  refine wpAnyH_take (i := 5) (v := ?_) rfl (by kernel_rfl) (by kernel_rfl) (by kernel_rfl) (fun _ _ _ h => h) (Or.inl ⟨by kernel_rfl, ?_⟩) (by assumption) ?_
  rotate_left
  · intro w'' hSw; (try dsimp only at hSw); simp only [zqa, zqb, zqc]; (go_simp <;> with_reducible rfl)
  try simp only [Act.put, zqd, zqe, zqf, zqa, zqb, zqc]
  refine wpAnyH_take (i := 6) (v := ?_) rfl (by kernel_rfl) (by kernel_rfl) (by kernel_rfl) (fun _ _ _ h => h) (Or.inl ⟨by kernel_rfl, ?_⟩) (by assumption) ?_
  rotate_left
  · intro w'' hSw; (try dsimp only at hSw); simp only [zqa, zqb, zqc]; (go_simp <;> with_reducible rfl)
  try simp only [Act.put, zqd, zqe, zqf, zqa, zqb, zqc]
  refine wpAnyH_ready (rs := [3]) (by kernel_rfl) (by simp) ?_
  refine AllReadyH.cons rfl (fun K hK => ?_) AllReadyH.nil
  first | (with_reducible refine iteYes ?hcx ?htx; case hcx => kernel_rfl) | rw [if_pos (by rfl)]
  simp only [zqa, zqb, zqc]
  go_simp
  (go_at_call 52; refine (minus_calls _ _ _ _ _ _ _).mono ?_; rintro e w1 ⟨rfl, k1⟩)
  try go_wp2_with fail
  refine hK.out _ _ ?_ (fun hHeld2 => ?_)
  · (try dsimp only); exact G63o6.step k1 hHeld1
  clear hK K hHeld1
  try simp only [Act.put, zqd, zqe, zqf, zqa, zqb, zqc]
  refine wpAnyH_ready (rs := [7]) (by kernel_rfl) (by simp) ?_
  refine AllReadyH.cons rfl (fun K hK => ?_) AllReadyH.nil
  first | (with_reducible refine iteYes ?hcx ?htx; case hcx => kernel_rfl) | rw [if_pos (by rfl)]
  simp only [zqa, zqb, zqc]
  go_simp
  (go_at_call 13; refine (plus_calls _ _ _ _ _ _ _).mono ?_; rintro e w2 ⟨rfl, k2⟩)
  try go_wp2_with fail
  refine hK.out _ _ ?_ (fun hHeld3 => ?_)
  · (try dsimp only); exact G63o6.step k2 hHeld2
  clear hK K hHeld2
  try simp only [Act.put, zqd, zqe, zqf, zqa, zqb, zqc]
  refine wpAnyH_take (i := 8) (v := ?_) rfl (by kernel_rfl) (by kernel_rfl) (by kernel_rfl) (fun _ _ _ h => h) (Or.inl ⟨by kernel_rfl, ?_⟩) (by assumption) ?_
  rotate_left
  · intro w'' hSw; (try dsimp only at hSw); simp only [zqa, zqb, zqc]; (go_simp <;> with_reducible rfl)
  try simp only [Act.put, zqd, zqe, zqf, zqa, zqb, zqc]
  refine wpAnyH_ready (rs := [9]) (by kernel_rfl) (by simp) ?_
  refine AllReadyH.cons rfl (fun K hK => ?_) AllReadyH.nil
  first | (with_reducible refine iteYes ?hcx ?htx; case hcx => kernel_rfl) | rw [if_pos (by rfl)]
  simp only [zqa, zqb, zqc]
  go_simp
  refine hK.out _ _ ?_ (fun hHeld4 => ?_)
  · (try dsimp only); exact (G63o6.put 5 _ (by omega) (by omega) (by omega) (G63o6.put 4 _ (by omega) (by omega) (by omega) (G63o6.put 3 _ (by omega) (by omega) (by omega) (G63o6.put 2 _ (by omega) (by omega) (by omega) (G63o6.put 1 _ (by omega) (by omega) (by omega) (G63o6.put 0 _ (by omega) (by omega) (by omega) hHeld3))))))
  clear hK K
  try simp only [Act.put, zqd, zqe, zqf, zqa, zqb, zqc]
  refine wpAnyH_done (by kernel_rfl) ?_ _
  go_wp2
  obtain ⟨hk, _, _, _, _, _, _, _, _, _, c0, c1, c2, c3, c4, c5, _⟩ := hHeld3
  obtain ⟨e0, e1, e2, e3, e4, e5⟩ := set6_of (v0 := .int .i64 (sub a0 n)) (v1 := .int .i64 (sub a1 n)) (v2 := .int .i64 (sub a2 n)) (v3 := .int .i64 (add a3 n)) (v4 := .int .i64 (add a4 n)) (v5 := .int .i64 (add a5 n)) c0 c1 c2 c3 c4 c5
  exact bodyPost_ret (v := .agg #[.int .i64 (sub a0 n), .int .i64 (sub a1 n), .int .i64 (sub a2 n), .int .i64 (add a3 n), .int .i64 (add a4 n), .int .i64 (add a5 n)]) (by simp [results, Tryz.results74, go_sem, e0, e1, e2, e3, e4, e5]) rfl ⟨rfl, kept_set6 hk (by omega) _ _ _ _ _ _⟩
end Go.Proofs.YtbfkloclmlnahabGreat

namespace Go.Proofs.YtbfkloclmlnahabGreat
open Go.ChangeShapes Go.WideShapes Go.ChangeAt Go.RowKit
set_option linter.unusedSimpArgs false

end Go.Proofs.YtbfkloclmlnahabGreat

namespace Go.Proofs.YtbfkloclmlnahabGreat
open Go.ChangeShapes Go.WideShapes Go.ChangeAt Go.RowKit
set_option linter.unusedSimpArgs false

end Go.Proofs.YtbfkloclmlnahabGreat

namespace Go.Proofs.YtbfkloclmlnahabGreat
open Go.ChangeShapes Go.WideShapes Go.ChangeAt Go.RowKit
set_option linter.unusedSimpArgs false

def G33o6 (w : World) (b0 b1 b2 : Nat) (v0 v1 v2 v3 v4 v5 : Value) (w' : World) : Prop :=
  Kept w w' ∧
  w'.cell? ⟨b0, 0, none⟩ = some v0 ∧
  w'.cell? ⟨b0, 1, none⟩ = some v1 ∧
  w'.cell? ⟨b0, 2, none⟩ = some v2 ∧
  w'.cell? ⟨b1, 0, none⟩ = some v3 ∧
  w'.cell? ⟨b1, 1, none⟩ = some v4 ∧
  w'.cell? ⟨b1, 2, none⟩ = some v5 ∧
  w'.cell? ⟨b2, 0, none⟩ = some (cellV w' ⟨b2, 0, none⟩) ∧
  w'.cell? ⟨b2, 1, none⟩ = some (cellV w' ⟨b2, 1, none⟩) ∧
  w'.cell? ⟨b2, 2, none⟩ = some (cellV w' ⟨b2, 2, none⟩) ∧
  w'.cell? ⟨b2, 3, none⟩ = some (cellV w' ⟨b2, 3, none⟩) ∧
  w'.cell? ⟨b2, 4, none⟩ = some (cellV w' ⟨b2, 4, none⟩) ∧
  w'.cell? ⟨b2, 5, none⟩ = some (cellV w' ⟨b2, 5, none⟩) ∧
  w'.frozen? ⟨b2, 0, none⟩ = false ∧
  w'.frozen? ⟨b2, 1, none⟩ = false ∧
  w'.frozen? ⟨b2, 2, none⟩ = false ∧
  w'.frozen? ⟨b2, 3, none⟩ = false ∧
  w'.frozen? ⟨b2, 4, none⟩ = false ∧
  w'.frozen? ⟨b2, 5, none⟩ = false
theorem G33o6.step {w w1 w2 : World} {b0 b1 b2 : Nat} {v0 v1 v2 v3 v4 v5 : Value} (k : Kept w1 w2) (h : G33o6 w b0 b1 b2 v0 v1 v2 v3 v4 v5 w1) : G33o6 w b0 b1 b2 v0 v1 v2 v3 v4 v5 w2 := by
  obtain ⟨h0, h1, h2, h3, h4, h5, h6, h7, h8, h9, h10, h11, h12, h13, h14, h15, h16, h17, h18⟩ := h
  exact ⟨h0.trans k, kept_cell k h1, kept_cell k h2, kept_cell k h3, kept_cell k h4, kept_cell k h5, kept_cell k h6, kept_there k h7, kept_there k h8, kept_there k h9, kept_there k h10, kept_there k h11, kept_there k h12, kept_frozen k h13, kept_frozen k h14, kept_frozen k h15, kept_frozen k h16, kept_frozen k h17, kept_frozen k h18⟩
theorem G33o6.drew {w w1 : World} {b0 b1 b2 : Nat} {v0 v1 v2 v3 v4 v5 : Value} (h : G33o6 w b0 b1 b2 v0 v1 v2 v3 v4 v5 w1) : G33o6 w b0 b1 b2 v0 v1 v2 v3 v4 v5 w1.drew := h.step (Kept.refl _).drew
theorem G33o6.put {w w1 : World} {b0 b1 b2 : Nat} {v0 v1 v2 v3 v4 v5 : Value} (i : Nat) (v : Value) (ho : w.heap.size ≤ b2) (n0 : b0 ≠ b2) (n1 : b1 ≠ b2) (h : G33o6 w b0 b1 b2 v0 v1 v2 v3 v4 v5 w1) : G33o6 w b0 b1 b2 v0 v1 v2 v3 v4 v5 (w1.setCell ⟨b2, i, none⟩ v) := by
  obtain ⟨h0, h1, h2, h3, h4, h5, h6, h7, h8, h9, h10, h11, h12, h13, h14, h15, h16, h17, h18⟩ := h
  exact ⟨h0.setCell (p := ⟨b2, i, none⟩) ho v, (World.cell?_setCell_other _ _ _ _ (fun e => n0 (by injection e with e; exact e.symm))).trans h1, (World.cell?_setCell_other _ _ _ _ (fun e => n0 (by injection e with e; exact e.symm))).trans h2, (World.cell?_setCell_other _ _ _ _ (fun e => n0 (by injection e with e; exact e.symm))).trans h3, (World.cell?_setCell_other _ _ _ _ (fun e => n1 (by injection e with e; exact e.symm))).trans h4, (World.cell?_setCell_other _ _ _ _ (fun e => n1 (by injection e with e; exact e.symm))).trans h5, (World.cell?_setCell_other _ _ _ _ (fun e => n1 (by injection e with e; exact e.symm))).trans h6, put_there h7, put_there h8, put_there h9, put_there h10, put_there h11, put_there h12, (World.frozen?_setCell _ _ _ _).trans h13, (World.frozen?_setCell _ _ _ _).trans h14, (World.frozen?_setCell _ _ _ _).trans h15, (World.frozen?_setCell _ _ _ _).trans h16, (World.frozen?_setCell _ _ _ _).trans h17, (World.frozen?_setCell _ _ _ _).trans h18⟩

def G4 (w : World) (b0 : Nat) (v0 v1 v2 v3 : Value) (w' : World) : Prop :=
  Kept w w' ∧
  w'.cell? ⟨b0, 0, none⟩ = some v0 ∧
  w'.cell? ⟨b0, 1, none⟩ = some v1 ∧
  w'.cell? ⟨b0, 2, none⟩ = some v2 ∧
  w'.cell? ⟨b0, 3, none⟩ = some v3
def G4At (b0 : Nat) (v0 v1 v2 v3 : Value) (w' : World) : Prop :=
  w'.cell? ⟨b0, 0, none⟩ = some v0 ∧
  w'.cell? ⟨b0, 1, none⟩ = some v1 ∧
  w'.cell? ⟨b0, 2, none⟩ = some v2 ∧
  w'.cell? ⟨b0, 3, none⟩ = some v3
theorem G4At.step {w1 w2 : World} {b0 : Nat} {v0 v1 v2 v3 : Value} (k : Kept w1 w2) (h : G4At b0 v0 v1 v2 v3 w1) : G4At b0 v0 v1 v2 v3 w2 := by
  obtain ⟨h1, h2, h3, h4⟩ := h
  exact ⟨kept_cell k h1, kept_cell k h2, kept_cell k h3, kept_cell k h4⟩
/-- What a shape's half is in a part: a Ball's is its first size. -/
def hf (k x y : Int) : Int := if k = 1 then x else y
theorem hf_ball {k x y : Int} (h : k = 1) : hf k x y = x := by unfold hf; rw [if_pos h]
theorem hf_else {k x y : Int} (h : ¬ k = 1) : hf k x y = y := by unfold hf; rw [if_neg h]
theorem half_calls (k x y z : Int) (w : World) : Calls Tryz.prog 76 #[.agg #[.int .i64 k, .int .i64 x, .int .i64 y, .int .i64 z]] w fun e w' => e = .returned (.agg #[.int .i64 x, .int .i64 (hf k x y), .int .i64 (hf k x z)]) ∧ Kept w w' := by
  by_cases h : k = 1
  · have hb : (k == 1) = true := by simp [h]
    rw [hf_ball h, hf_ball h]
    go_enter Tryz.func76, Tryz.ntmps76
    go_wp2
    exact bodyPost_ret (v := .agg #[.int .i64 x, .int .i64 x, .int .i64 x]) (by simp [results, Tryz.results76, go_sem]) rfl ⟨rfl, ((Kept.refl _).alloc _ _).alloc _ _⟩
  · have hb : (k == 1) = false := by simp [h]
    rw [hf_else h, hf_else h]
    go_enter Tryz.func76, Tryz.ntmps76
    go_wp2
    exact bodyPost_ret (v := .agg #[.int .i64 x, .int .i64 y, .int .i64 z]) (by simp [results, Tryz.results76, go_sem]) rfl ⟨rfl, ((Kept.refl _).alloc _ _).alloc _ _⟩
theorem gAround_calls (k x y z p0 p1 p2 : Int) (w : World) : Calls Tryz.prog 43 #[.agg #[.int .i64 k, .int .i64 x, .int .i64 y, .int .i64 z], .agg #[.int .i64 p0, .int .i64 p1, .int .i64 p2]] w fun e w' => e = .returned (.agg #[.int .i64 (sub p0 x), .int .i64 (sub p1 (hf k x y)), .int .i64 (sub p2 (hf k x z)), .int .i64 (add p0 x), .int .i64 (add p1 (hf k x y)), .int .i64 (add p2 (hf k x z))]) ∧ Kept w w' := by
  go_enter Tryz.func43, Tryz.ntmps43
  go_wp2_with fail
  refine (half_calls _ _ _ _ _).mono ?_; rintro e w1 ⟨rfl, k1⟩
  have hlt : w.heap.size + 1 + 1 + 1 ≤ w1.heap.size := by have := k1.below.size; simp at this; omega
  go_wp2
  refine wp_region_held_drew (S := (fun w' => Kept w w' ∧ w'.cell? ⟨w.heap.size + 1, 0, none⟩ = some (.int .i64 p0) ∧ w'.cell? ⟨w.heap.size + 1, 1, none⟩ = some (.int .i64 p1) ∧ w'.cell? ⟨w.heap.size + 1, 2, none⟩ = some (.int .i64 p2) ∧ w'.cell? ⟨w1.heap.size, 0, none⟩ = some (.int .i64 x) ∧ w'.cell? ⟨w1.heap.size, 1, none⟩ = some (.int .i64 (hf k x y)) ∧ w'.cell? ⟨w1.heap.size, 2, none⟩ = some (.int .i64 (hf k x z)) ∧ w'.cell? ⟨w.heap.size + 1 + 1, 0, none⟩ = some (cellV w' ⟨w.heap.size + 1 + 1, 0, none⟩) ∧ w'.cell? ⟨w.heap.size + 1 + 1, 1, none⟩ = some (cellV w' ⟨w.heap.size + 1 + 1, 1, none⟩) ∧ w'.cell? ⟨w.heap.size + 1 + 1, 2, none⟩ = some (cellV w' ⟨w.heap.size + 1 + 1, 2, none⟩) ∧ w'.cell? ⟨w.heap.size + 1 + 1, 3, none⟩ = some (cellV w' ⟨w.heap.size + 1 + 1, 3, none⟩) ∧ w'.cell? ⟨w.heap.size + 1 + 1, 4, none⟩ = some (cellV w' ⟨w.heap.size + 1 + 1, 4, none⟩) ∧ w'.cell? ⟨w.heap.size + 1 + 1, 5, none⟩ = some (cellV w' ⟨w.heap.size + 1 + 1, 5, none⟩) ∧ w'.frozen? ⟨w.heap.size + 1 + 1, 0, none⟩ = false ∧ w'.frozen? ⟨w.heap.size + 1 + 1, 1, none⟩ = false ∧ w'.frozen? ⟨w.heap.size + 1 + 1, 2, none⟩ = false ∧ w'.frozen? ⟨w.heap.size + 1 + 1, 3, none⟩ = false ∧ w'.frozen? ⟨w.heap.size + 1 + 1, 4, none⟩ = false ∧ w'.frozen? ⟨w.heap.size + 1 + 1, 5, none⟩ = false)) (by kernel_rfl) ?_ (fun hHeld1 => ?_)
  · (try dsimp only); exact G33o6.drew (by refine ⟨(((((Kept.refl w).alloc _ _).alloc _ _).alloc _ _).trans k1).alloc _ _, later (kept_cell k1 ?_) _, later (kept_cell k1 ?_) _, later (kept_cell k1 ?_) _, ?_, ?_, ?_, cellV_of (later (kept_cell k1 (v := .int .i64 0) ?_) _), cellV_of (later (kept_cell k1 (v := .int .i64 0) ?_) _), cellV_of (later (kept_cell k1 (v := .int .i64 0) ?_) _), cellV_of (later (kept_cell k1 (v := .int .i64 0) ?_) _), cellV_of (later (kept_cell k1 (v := .int .i64 0) ?_) _), cellV_of (later (kept_cell k1 (v := .int .i64 0) ?_) _), laterF (kept_frozen k1 ?_) _ _, laterF (kept_frozen k1 ?_) _ _, laterF (kept_frozen k1 ?_) _ _, laterF (kept_frozen k1 ?_) _ _, laterF (kept_frozen k1 ?_) _ _, laterF (kept_frozen k1 ?_) _ _⟩ <;> go_simp)
  refine wpAnyH_take (i := 0) (v := ?_) rfl (by kernel_rfl) (by kernel_rfl) (by kernel_rfl) (fun _ _ _ h => h) (Or.inl ⟨by kernel_rfl, ?_⟩) (by assumption) ?_
  rotate_left
  · intro w'' hSw; (try dsimp only at hSw); simp only [zqa, zqb, zqc]; (go_simp <;> with_reducible rfl)
  try simp only [Act.put, zqd, zqe, zqf, zqa, zqb, zqc]
  refine wpAnyH_take (i := 1) (v := ?_) rfl (by kernel_rfl) (by kernel_rfl) (by kernel_rfl) (fun _ _ _ h => h) (Or.inl ⟨by kernel_rfl, ?_⟩) (by assumption) ?_
  rotate_left
  · intro w'' hSw; (try dsimp only at hSw); simp only [zqa, zqb, zqc]; (go_simp <;> with_reducible rfl)
  try simp only [Act.put, zqd, zqe, zqf, zqa, zqb, zqc]
  refine wpAnyH_take (i := 3) (v := ?_) rfl (by kernel_rfl) (by kernel_rfl) (by kernel_rfl) (fun _ _ _ h => h) (Or.inl ⟨by kernel_rfl, ?_⟩) (by assumption) ?_
  rotate_left
  · intro w'' hSw; (try dsimp only at hSw); simp only [zqa, zqb, zqc]; (go_simp <;> with_reducible rfl)
  try simp only [Act.put, zqd, zqe, zqf, zqa, zqb, zqc]
  refine wpAnyH_take (i := 4) (v := ?_) rfl (by kernel_rfl) (by kernel_rfl) (by kernel_rfl) (fun _ _ _ h => h) (Or.inl ⟨by kernel_rfl, ?_⟩) (by assumption) ?_
  rotate_left
  · intro w'' hSw; (try dsimp only at hSw); simp only [zqa, zqb, zqc]; (go_simp <;> with_reducible rfl)
  try simp only [Act.put, zqd, zqe, zqf, zqa, zqb, zqc]
  refine wpAnyH_ready (rs := [2]) (by kernel_rfl) (by simp) ?_
  refine AllReadyH.cons rfl (fun K hK => ?_) AllReadyH.nil
  first | (with_reducible refine iteYes ?hcx ?htx; case hcx => kernel_rfl) | rw [if_pos (by rfl)]
  simp only [zqa, zqb, zqc]
  go_simp
  (go_at_call 52; refine (minus_calls _ _ _ _ _ _ _).mono ?_; rintro e w2 ⟨rfl, k2⟩)
  try go_wp2_with fail
  refine hK.out _ _ ?_ (fun hHeld2 => ?_)
  · (try dsimp only); exact G33o6.step k2 hHeld1
  clear hK K hHeld1
  try simp only [Act.put, zqd, zqe, zqf, zqa, zqb, zqc]
  refine wpAnyH_ready (rs := [5]) (by kernel_rfl) (by simp) ?_
  refine AllReadyH.cons rfl (fun K hK => ?_) AllReadyH.nil
  first | (with_reducible refine iteYes ?hcx ?htx; case hcx => kernel_rfl) | rw [if_pos (by rfl)]
  simp only [zqa, zqb, zqc]
  go_simp
  (go_at_call 13; refine (plus_calls _ _ _ _ _ _ _).mono ?_; rintro e w3 ⟨rfl, k3⟩)
  try go_wp2_with fail
  refine hK.out _ _ ?_ (fun hHeld3 => ?_)
  · (try dsimp only); exact G33o6.step k3 hHeld2
  clear hK K hHeld2
  try simp only [Act.put, zqd, zqe, zqf, zqa, zqb, zqc]
  refine wpAnyH_take (i := 6) (v := ?_) rfl (by kernel_rfl) (by kernel_rfl) (by kernel_rfl) (fun _ _ _ h => h) (Or.inl ⟨by kernel_rfl, ?_⟩) (by assumption) ?_
  rotate_left
  · intro w'' hSw; (try dsimp only at hSw); simp only [zqa, zqb, zqc]; (go_simp <;> with_reducible rfl)
  try simp only [Act.put, zqd, zqe, zqf, zqa, zqb, zqc]
  refine wpAnyH_ready (rs := [7]) (by kernel_rfl) (by simp) ?_
  refine AllReadyH.cons rfl (fun K hK => ?_) AllReadyH.nil
  first | (with_reducible refine iteYes ?hcx ?htx; case hcx => kernel_rfl) | rw [if_pos (by rfl)]
  simp only [zqa, zqb, zqc]
  go_simp
  refine hK.out _ _ ?_ (fun hHeld4 => ?_)
  · (try dsimp only); exact (G33o6.put 5 _ (by omega) (by omega) (by omega) (G33o6.put 4 _ (by omega) (by omega) (by omega) (G33o6.put 3 _ (by omega) (by omega) (by omega) (G33o6.put 2 _ (by omega) (by omega) (by omega) (G33o6.put 1 _ (by omega) (by omega) (by omega) (G33o6.put 0 _ (by omega) (by omega) (by omega) hHeld3))))))
  clear hK K
  try simp only [Act.put, zqd, zqe, zqf, zqa, zqb, zqc]
  refine wpAnyH_done (by kernel_rfl) ?_ _
  go_wp2
  obtain ⟨hk, _, _, _, _, _, _, c0, c1, c2, c3, c4, c5, _⟩ := hHeld3
  obtain ⟨e0, e1, e2, e3, e4, e5⟩ := set6_of (v0 := .int .i64 (sub p0 x)) (v1 := .int .i64 (sub p1 (hf k x y))) (v2 := .int .i64 (sub p2 (hf k x z))) (v3 := .int .i64 (add p0 x)) (v4 := .int .i64 (add p1 (hf k x y))) (v5 := .int .i64 (add p2 (hf k x z))) c0 c1 c2 c3 c4 c5
  exact bodyPost_ret (v := .agg #[.int .i64 (sub p0 x), .int .i64 (sub p1 (hf k x y)), .int .i64 (sub p2 (hf k x z)), .int .i64 (add p0 x), .int .i64 (add p1 (hf k x y)), .int .i64 (add p2 (hf k x z))]) (by simp [results, Tryz.results43, go_sem, e0, e1, e2, e3, e4, e5]) rfl ⟨rfl, kept_set6 hk (by omega) _ _ _ _ _ _⟩
/-- A size that may be. -/
def sz (n : Int) : Bool := decide (1 ≤ n) && decide (n ≤ 3276800)
theorem sz_calls (n : Int) (w : World) : Calls Tryz.prog 83 #[.int .i64 n] w fun e w' => e = .returned (.bool (sz n)) ∧ Kept w w' := sized_calls n w
theorem right1_calls (pf : Nat) (g : Int → Int → Int → Int) (he : ∀ args w, (callFunc pf args).run Tryz.prog w = .ok (.enter pf args) w) (hg : Takes pf g)
    (p : Nat) (k x y z : Int) (w : World) (H : G4At p (.int .i64 k) (.int .i64 x) (.int .i64 y) (.int .i64 z) w) :
    Calls Tryz.prog 85 #[.func (.func pf) #[] #[], .pointer (some ⟨p, 0, none⟩)] w fun e w' => e = .returned (.bool (sz (g x y z))) ∧ Kept w w' := by
  obtain ⟨c0, c1, c2, c3⟩ := H
  go_enter Tryz.func85, Tryz.ntmps85
  go_wp2_with fail
  go_at_fn pf
  refine (hg _ _ _ _).mono ?_; rintro e w1 ⟨rfl, k1⟩
  go_wp2_with fail
  refine (sz_calls _ _).mono ?_; rintro e w2 ⟨rfl, k2⟩
  go_wp2
  go_ret
  exact ⟨rfl, k1.trans k2⟩
def rightB (k x y z : Int) : Bool := if k = 1 then sz x && (y == 0 && z == 0) else if k = 2 then sz x && sz y && sz z else false
theorem gRight_calls (k x y z : Int) (w : World) : Calls Tryz.prog 56 #[.agg #[.int .i64 k, .int .i64 x, .int .i64 y, .int .i64 z]] w fun e w' => e = .returned (.bool (rightB k x y z)) ∧ Kept w w' := by
  have hmf : ∀ (fn : Fn) (first cap : Array Value) (w : World), (Instr.makeFunc fn first cap).run Tryz.prog w = .ok (.func fn first cap) w := fun _ _ _ _ => rfl
  unfold rightB
  by_cases h : k = 1
  · have hb : (k == 1) = true := by simp [h]
    rw [if_pos h]
    have hx : (x == x) = true := by simp
    cases e1 : sz x with
    | false =>
      go_enter Tryz.func56, Tryz.ntmps56
      go_wp2_with fail
      refine (sz_calls _ _).mono ?_; rintro e w1 ⟨rfl, k1⟩
      go_wp2
      go_ret
      exact ⟨rfl, ((Kept.refl _).alloc _ _).trans k1⟩
    | true =>
      cases e2 : (y == 0) with
      | false =>
        go_enter Tryz.func56, Tryz.ntmps56
        go_wp2_with fail
        refine (sz_calls _ _).mono ?_; rintro e w1 ⟨rfl, k1⟩
        have c0 : w1.cell? ⟨w.heap.size, 0, none⟩ = some (.int .i64 k) := kept_cell k1 (by go_simp)
        have c1 : w1.cell? ⟨w.heap.size, 1, none⟩ = some (.int .i64 x) := kept_cell k1 (by go_simp)
        have c2 : w1.cell? ⟨w.heap.size, 2, none⟩ = some (.int .i64 y) := kept_cell k1 (by go_simp)
        have c3 : w1.cell? ⟨w.heap.size, 3, none⟩ = some (.int .i64 z) := kept_cell k1 (by go_simp)
        go_wp2
        go_ret
        exact ⟨rfl, ((Kept.refl _).alloc _ _).trans k1⟩
      | true =>
        cases e3 : (z == 0) with
        | false =>
          go_enter Tryz.func56, Tryz.ntmps56
          go_wp2_with fail
          refine (sz_calls _ _).mono ?_; rintro e w1 ⟨rfl, k1⟩
          have c0 : w1.cell? ⟨w.heap.size, 0, none⟩ = some (.int .i64 k) := kept_cell k1 (by go_simp)
          have c1 : w1.cell? ⟨w.heap.size, 1, none⟩ = some (.int .i64 x) := kept_cell k1 (by go_simp)
          have c2 : w1.cell? ⟨w.heap.size, 2, none⟩ = some (.int .i64 y) := kept_cell k1 (by go_simp)
          have c3 : w1.cell? ⟨w.heap.size, 3, none⟩ = some (.int .i64 z) := kept_cell k1 (by go_simp)
          go_wp2
          go_ret
          exact ⟨rfl, ((Kept.refl _).alloc _ _).trans k1⟩
        | true =>
          go_enter Tryz.func56, Tryz.ntmps56
          go_wp2_with fail
          refine (sz_calls _ _).mono ?_; rintro e w1 ⟨rfl, k1⟩
          have c0 : w1.cell? ⟨w.heap.size, 0, none⟩ = some (.int .i64 k) := kept_cell k1 (by go_simp)
          have c1 : w1.cell? ⟨w.heap.size, 1, none⟩ = some (.int .i64 x) := kept_cell k1 (by go_simp)
          have c2 : w1.cell? ⟨w.heap.size, 2, none⟩ = some (.int .i64 y) := kept_cell k1 (by go_simp)
          have c3 : w1.cell? ⟨w.heap.size, 3, none⟩ = some (.int .i64 z) := kept_cell k1 (by go_simp)
          go_wp2
          go_ret
          exact ⟨rfl, ((Kept.refl _).alloc _ _).trans k1⟩
  · have hb : (k == 1) = false := by simp [h]
    rw [if_neg h]
    by_cases h2 : k = 2
    · have hb2 : (k == 2) = true := by simp [h2]
      rw [if_pos h2]
      go_enter Tryz.func56, Tryz.ntmps56
      go_wp2_with fail
      refine (all_calls 85 _ (sz x) (sz y) (sz z) (enters_of Tryz.func85 (by kernel_rfl) rfl) (G4At w.heap.size (.int .i64 k) (.int .i64 x) (.int .i64 y) (.int .i64 z)) (fun _ _ k h => h.step k)
        (ans1 fun w' h => right1_calls _ _ en0 takes0 _ k x y z w' h) (ans1 fun w' h => right1_calls _ _ en1 takes1 _ k x y z w' h) (ans1 fun w' h => right1_calls _ _ en2 takes2 _ k x y z w' h) _ (by refine ⟨?_, ?_, ?_, ?_⟩ <;> go_simp)).mono ?_
      rintro e w1 ⟨rfl, k1⟩
      go_wp2
      go_ret
      exact ⟨rfl, ((Kept.refl _).alloc _ _).trans k1⟩
    · have hb2 : (k == 2) = false := by simp [h2]
      rw [if_neg h2]
      go_enter Tryz.func56, Tryz.ntmps56
      go_wp2
      go_ret
      exact ⟨rfl, (Kept.refl _).alloc _ _⟩
end Go.Proofs.YtbfkloclmlnahabGreat

namespace Go.Proofs.YtbfkloclmlnahabGreat
open Go.ChangeShapes Go.WideShapes Go.ChangeAt Go.RowKit
set_option linter.unusedVariables false
set_option linter.unusedSimpArgs false

theorem wrap_in {n : Int} (h : -9223372036854775808 ≤ n) (k : n ≤ 9223372036854775807) : IntKind.i64.wrap n = n := by rw [IntKind.wrap_i64]; omega
def bothX (a b : Bx) : Bx := ⟨lesser a.x0 b.x0, lesser a.x1 b.x1, lesser a.x2 b.x2, greater a.x3 b.x3, greater a.x4 b.x4, greater a.x5 b.x5⟩
def MS (n : Nat) (x : Nd) (a : Nat) (ya : Nd) (b : Nat) (yb : Nd) (w w' : World) : Prop :=
  Only [n] w w' ∧ (∃ k, NodeAt w' n { x with room := k }) ∧ w'.cell? ⟨a, 7, none⟩ = some (.int .i64 ya.room.x0) ∧ w'.cell? ⟨a, 8, none⟩ = some (.int .i64 ya.room.x1) ∧ w'.cell? ⟨a, 9, none⟩ = some (.int .i64 ya.room.x2) ∧ w'.cell? ⟨a, 10, none⟩ = some (.int .i64 ya.room.x3) ∧ w'.cell? ⟨a, 11, none⟩ = some (.int .i64 ya.room.x4) ∧ w'.cell? ⟨a, 12, none⟩ = some (.int .i64 ya.room.x5) ∧ w'.cell? ⟨b, 7, none⟩ = some (.int .i64 yb.room.x0) ∧ w'.cell? ⟨b, 8, none⟩ = some (.int .i64 yb.room.x1) ∧ w'.cell? ⟨b, 9, none⟩ = some (.int .i64 yb.room.x2) ∧ w'.cell? ⟨b, 10, none⟩ = some (.int .i64 yb.room.x3) ∧ w'.cell? ⟨b, 11, none⟩ = some (.int .i64 yb.room.x4) ∧ w'.cell? ⟨b, 12, none⟩ = some (.int .i64 yb.room.x5) ∧ w'.cell? ⟨n, 7, none⟩ = some (cellV w' ⟨n, 7, none⟩) ∧ w'.cell? ⟨n, 8, none⟩ = some (cellV w' ⟨n, 8, none⟩) ∧ w'.cell? ⟨n, 9, none⟩ = some (cellV w' ⟨n, 9, none⟩) ∧ w'.cell? ⟨n, 10, none⟩ = some (cellV w' ⟨n, 10, none⟩) ∧ w'.cell? ⟨n, 11, none⟩ = some (cellV w' ⟨n, 11, none⟩) ∧ w'.cell? ⟨n, 12, none⟩ = some (cellV w' ⟨n, 12, none⟩) ∧ (∀ i, w'.frozen? ⟨n, i, none⟩ = false)
theorem MS.of {n : Nat} {x : Nd} {a : Nat} {ya : Nd} {b : Nat} {yb : Nd} {w w' : World} (o : Only [n] w w') {k : Bx} (hn : NodeAt w' n { x with room := k }) (ha : NodeAt w' a ya) (hb : NodeAt w' b yb) : MS n x a ya b yb w w' :=
  ⟨o, ⟨k, hn⟩, ha.c7, ha.c8, ha.c9, ha.c10, ha.c11, ha.c12, hb.c7, hb.c8, hb.c9, hb.c10, hb.c11, hb.c12, cellV_of hn.c7, cellV_of hn.c8, cellV_of hn.c9, cellV_of hn.c10, cellV_of hn.c11, cellV_of hn.c12, hn.free⟩
theorem MS.step {n : Nat} {x : Nd} {a : Nat} {ya : Nd} {b : Nat} {yb : Nd} {w w1 w2 : World} (ha : NodeAt w a ya) (hb : NodeAt w b yb) (na : a ≠ n) (nb : b ≠ n) (k : Kept w1 w2) (h : MS n x a ya b yb w w1) : MS n x a ya b yb w w2 := by
  obtain ⟨o, ⟨r, hn⟩, _⟩ := h
  have o2 : Only [n] w w2 := o.trans (.of_kept k)
  exact .of o2 (hn.kept k) (o2.node (by simp [na]) ha) (o2.node (by simp [nb]) hb)
theorem MS.put {n : Nat} {x : Nd} {a : Nat} {ya : Nd} {b : Nat} {yb : Nd} {w w1 : World} (ha : NodeAt w a ya) (hb : NodeAt w b yb) (na : a ≠ n) (nb : b ≠ n) (k : Bx) (h : MS n x a ya b yb w w1) :
    MS n x a ya b yb w ((((((w1.setCell ⟨n, 7, none⟩ (.int .i64 (k.x0))).setCell ⟨n, 8, none⟩ (.int .i64 (k.x1))).setCell ⟨n, 9, none⟩ (.int .i64 (k.x2))).setCell ⟨n, 10, none⟩ (.int .i64 (k.x3))).setCell ⟨n, 11, none⟩ (.int .i64 (k.x4))).setCell ⟨n, 12, none⟩ (.int .i64 (k.x5))) := by
  obtain ⟨o, ⟨r, hn⟩, _⟩ := h
  have o2 := (((((o.setCell (p := ⟨n, 7, none⟩) (by simp) (.int .i64 (k.x0))).setCell (p := ⟨n, 8, none⟩) (by simp) (.int .i64 (k.x1))).setCell (p := ⟨n, 9, none⟩) (by simp) (.int .i64 (k.x2))).setCell (p := ⟨n, 10, none⟩) (by simp) (.int .i64 (k.x3))).setCell (p := ⟨n, 11, none⟩) (by simp) (.int .i64 (k.x4))).setCell (p := ⟨n, 12, none⟩) (by simp) (.int .i64 (k.x5))
  exact .of o2 (hn.putRoom k) (o2.node (by simp [na]) ha) (o2.node (by simp [nb]) hb)

set_option maxHeartbeats 4000000 in
theorem measure_calls (n a b : Nat) (x ya yb : Nd) (w : World) (el : x.l = some a) (er : x.r = some b) (na : a ≠ n) (nb : b ≠ n) (hn : NodeAt w n x) (ha : NodeAt w a ya) (hb : NodeAt w b yb)
    (b1 : 0 ≤ ya.high) (b2 : ya.high ≤ 1000000) (b3 : 0 ≤ yb.high) (b4 : yb.high ≤ 1000000) :
    Calls Tryz.prog 115 #[.pointer (some ⟨n, 0, none⟩)] w fun e w' => e = .returned (.tuple #[]) ∧ NodeAt w' n { x with room := bothX ya.room yb.room, high := 1 + greater ya.high yb.high } ∧ Only [n] w w' := by
  have q15 : w.cell? ⟨n, 15, none⟩ = some (.pointer (some ⟨a, 0, none⟩)) := by have := hn.c15; rw [el] at this; exact this
  have q16 : w.cell? ⟨n, 16, none⟩ = some (.pointer (some ⟨b, 0, none⟩)) := by have := hn.c16; rw [er] at this; exact this
  have HN : Hid (NodeAt w n x ∧ NodeAt w a ya ∧ NodeAt w b yb ∧ x.l = some a ∧ x.r = some b) := ⟨hn, ha, hb, el, er⟩
  clear hn ha hb el er
  go_enter Tryz.func115, Tryz.ntmps115
  go_wp2_with fail
  go_quiet (fail)
  have G0 : Hid (NodeAt (w.drewN nq) n x ∧ NodeAt (w.drewN nq) a ya ∧ NodeAt (w.drewN nq) b yb ∧ Only [n] w (w.drewN nq)) := ⟨HN.out.1, HN.out.2.1, HN.out.2.2.1, Only.drewN _ _⟩
  clear q15 q16
  generalize w.drewN nq = w0 at G0 ⊢
  go_wp2_with fail
  refine wp_region_held_drew (S := (fun w' => Only [n] w0 w' ∧ (∃ k, NodeAt w' n { x with room := k }) ∧ w'.cell? ⟨a, 7, none⟩ = some (.int .i64 ya.room.x0) ∧ w'.cell? ⟨a, 8, none⟩ = some (.int .i64 ya.room.x1) ∧ w'.cell? ⟨a, 9, none⟩ = some (.int .i64 ya.room.x2) ∧ w'.cell? ⟨a, 10, none⟩ = some (.int .i64 ya.room.x3) ∧ w'.cell? ⟨a, 11, none⟩ = some (.int .i64 ya.room.x4) ∧ w'.cell? ⟨a, 12, none⟩ = some (.int .i64 ya.room.x5) ∧ w'.cell? ⟨b, 7, none⟩ = some (.int .i64 yb.room.x0) ∧ w'.cell? ⟨b, 8, none⟩ = some (.int .i64 yb.room.x1) ∧ w'.cell? ⟨b, 9, none⟩ = some (.int .i64 yb.room.x2) ∧ w'.cell? ⟨b, 10, none⟩ = some (.int .i64 yb.room.x3) ∧ w'.cell? ⟨b, 11, none⟩ = some (.int .i64 yb.room.x4) ∧ w'.cell? ⟨b, 12, none⟩ = some (.int .i64 yb.room.x5) ∧ w'.cell? ⟨n, 7, none⟩ = some (cellV w' ⟨n, 7, none⟩) ∧ w'.cell? ⟨n, 8, none⟩ = some (cellV w' ⟨n, 8, none⟩) ∧ w'.cell? ⟨n, 9, none⟩ = some (cellV w' ⟨n, 9, none⟩) ∧ w'.cell? ⟨n, 10, none⟩ = some (cellV w' ⟨n, 10, none⟩) ∧ w'.cell? ⟨n, 11, none⟩ = some (cellV w' ⟨n, 11, none⟩) ∧ w'.cell? ⟨n, 12, none⟩ = some (cellV w' ⟨n, 12, none⟩) ∧ (∀ i, w'.frozen? ⟨n, i, none⟩ = false))) (by kernel_rfl) ?_ (fun hHeld1 => ?_)
  · (try dsimp only); exact MS.of ((Only.refl _ _).drew) G0.out.1 G0.out.2.1 G0.out.2.2.1
  refine wpAnyH_take (i := 0) (v := ?_) rfl (by kernel_rfl) (by kernel_rfl) (by kernel_rfl) (fun _ _ _ h => h) (Or.inl ⟨by kernel_rfl, ?_⟩) (by assumption) ?_
  rotate_left
  · intro w'' hSw; (try dsimp only at hSw); simp only [zqa, zqb, zqc]; (go_simp <;> with_reducible rfl)
  try simp only [Act.put, zqd, zqe, zqf, zqa, zqb, zqc]
  refine wpAnyH_take (i := 1) (v := ?_) rfl (by kernel_rfl) (by kernel_rfl) (by kernel_rfl) (fun _ _ _ h => h) (Or.inl ⟨by kernel_rfl, ?_⟩) (by assumption) ?_
  rotate_left
  · intro w'' hSw; (try dsimp only at hSw); simp only [zqa, zqb, zqc]; (go_simp <;> with_reducible rfl)
  try simp only [Act.put, zqd, zqe, zqf, zqa, zqb, zqc]
  refine wpAnyH_take (i := 2) (v := ?_) rfl (by kernel_rfl) (by kernel_rfl) (by kernel_rfl) (fun _ _ _ h => h) (Or.inl ⟨by kernel_rfl, ?_⟩) (by assumption) ?_
  rotate_left
  · intro w'' hSw; (try dsimp only at hSw); simp only [zqa, zqb, zqc]; (go_simp <;> with_reducible rfl)
  try simp only [Act.put, zqd, zqe, zqf, zqa, zqb, zqc]
  refine wpAnyH_take (i := 3) (v := ?_) rfl (by kernel_rfl) (by kernel_rfl) (by kernel_rfl) (fun _ _ _ h => h) (Or.inl ⟨by kernel_rfl, ?_⟩) (by assumption) ?_
  rotate_left
  · intro w'' hSw; (try dsimp only at hSw); simp only [zqa, zqb, zqc]; (go_simp <;> with_reducible rfl)
  try simp only [Act.put, zqd, zqe, zqf, zqa, zqb, zqc]
  refine wpAnyH_take (i := 4) (v := ?_) rfl (by kernel_rfl) (by kernel_rfl) (by kernel_rfl) (fun _ _ _ h => h) (Or.inl ⟨by kernel_rfl, ?_⟩) (by assumption) ?_
  rotate_left
  · intro w'' hSw; (try dsimp only at hSw); simp only [zqa, zqb, zqc]; (go_simp <;> with_reducible rfl)
  try simp only [Act.put, zqd, zqe, zqf, zqa, zqb, zqc]
  refine wpAnyH_take (i := 5) (v := ?_) rfl (by kernel_rfl) (by kernel_rfl) (by kernel_rfl) (fun _ _ _ h => h) (Or.inl ⟨by kernel_rfl, ?_⟩) (by assumption) ?_
  rotate_left
  · intro w'' hSw; (try dsimp only at hSw); simp only [zqa, zqb, zqc]; (go_simp <;> with_reducible rfl)
  try simp only [Act.put, zqd, zqe, zqf, zqa, zqb, zqc]
  refine wpAnyH_take (i := 6) (v := ?_) rfl (by kernel_rfl) (by kernel_rfl) (by kernel_rfl) (fun _ _ _ h => h) (Or.inl ⟨by kernel_rfl, ?_⟩) (by assumption) ?_
  rotate_left
  · intro w'' hSw; (try dsimp only at hSw); simp only [zqa, zqb, zqc]; (go_simp <;> with_reducible rfl)
  try simp only [Act.put, zqd, zqe, zqf, zqa, zqb, zqc]
  refine wpAnyH_take (i := 7) (v := ?_) rfl (by kernel_rfl) (by kernel_rfl) (by kernel_rfl) (fun _ _ _ h => h) (Or.inl ⟨by kernel_rfl, ?_⟩) (by assumption) ?_
  rotate_left
  · intro w'' hSw; (try dsimp only at hSw); simp only [zqa, zqb, zqc]; (go_simp <;> with_reducible rfl)
  try simp only [Act.put, zqd, zqe, zqf, zqa, zqb, zqc]
  refine wpAnyH_take (i := 8) (v := ?_) rfl (by kernel_rfl) (by kernel_rfl) (by kernel_rfl) (fun _ _ _ h => h) (Or.inl ⟨by kernel_rfl, ?_⟩) (by assumption) ?_
  rotate_left
  · intro w'' hSw; (try dsimp only at hSw); simp only [zqa, zqb, zqc]; (go_simp <;> with_reducible rfl)
  try simp only [Act.put, zqd, zqe, zqf, zqa, zqb, zqc]
  refine wpAnyH_ready (rs := [9]) (by kernel_rfl) (by simp) ?_
  refine AllReadyH.cons rfl (fun K hK => ?_) AllReadyH.nil
  first | (with_reducible refine iteYes ?hcx ?htx; case hcx => kernel_rfl) | rw [if_pos (by rfl)]
  simp only [zqa, zqb, zqc]
  go_simp
  (go_at_call 126; refine (gboth_calls _ _ _ _ _ _ _ _ _ _ _ _ _).mono ?_; rintro e w1 ⟨rfl, k1⟩)
  try go_wp2_with fail
  refine hK.out _ _ ?_ (fun hHeld2 => ?_)
  · (try dsimp only); exact MS.step G0.out.2.1 G0.out.2.2.1 na nb k1 hHeld1
  clear hK K hHeld1
  try simp only [Act.put, zqd, zqe, zqf, zqa, zqb, zqc]
  refine wpAnyH_take (i := 10) (v := ?_) rfl (by kernel_rfl) (by kernel_rfl) (by kernel_rfl) (fun _ _ _ h => h) (Or.inl ⟨by kernel_rfl, ?_⟩) (by assumption) ?_
  rotate_left
  · intro w'' hSw; (try dsimp only at hSw); simp only [zqa, zqb, zqc]; (go_simp <;> with_reducible rfl)
  try simp only [Act.put, zqd, zqe, zqf, zqa, zqb, zqc]
  refine wpAnyH_take (i := 11) (v := ?_) rfl (by kernel_rfl) (by kernel_rfl) (by kernel_rfl) (fun _ _ _ h => h) (Or.inl ⟨by kernel_rfl, ?_⟩) (by assumption) ?_
  rotate_left
  · intro w'' hSw; (try dsimp only at hSw); simp only [zqa, zqb, zqc]; (go_simp <;> with_reducible rfl)
  try simp only [Act.put, zqd, zqe, zqf, zqa, zqb, zqc]
  refine wpAnyH_ready (rs := [12]) (by kernel_rfl) (by simp) ?_
  refine AllReadyH.cons rfl (fun K hK => ?_) AllReadyH.nil
  first | (with_reducible refine iteYes ?hcx ?htx; case hcx => kernel_rfl) | rw [if_pos (by rfl)]
  simp only [zqa, zqb, zqc]
  go_simp
  refine hK.out _ _ ?_ (fun hHeld3 => ?_)
  · (try dsimp only); exact MS.put (k := bothX ya.room yb.room) G0.out.2.1 G0.out.2.2.1 na nb hHeld2
  clear hK K
  try simp only [Act.put, zqd, zqe, zqf, zqa, zqb, zqc]
  refine wpAnyH_done (by kernel_rfl) ?_ _
  obtain ⟨o2, ⟨r2, hn2⟩, _⟩ := hHeld2
  have o3 : Only [n] w _ := G0.out.2.2.2.trans hHeld3.1
  have n3 := hn2.putRoom (bothX ya.room yb.room)
  have a3 := hHeld3.1.node (by simp [na]) G0.out.2.1
  have b3' := hHeld3.1.node (by simp [nb]) G0.out.2.2.1
  clear hHeld3 hn2 o2
  have G3 : Hid (Only [n] w _ ∧ NodeAt _ n { x with room := bothX ya.room yb.room } ∧ NodeAt _ a ya ∧ NodeAt _ b yb) := ⟨o3, n3, a3, b3'⟩
  clear o3 n3 a3 b3'
  revert G3
  simp only [bothX]
  generalize World.setCell _ _ _ = w3
  intro G3
  have g1 : 0 ≤ greater ya.high yb.high := by unfold greater; split <;> omega
  have g2 : greater ya.high yb.high ≤ 1000000 := by unfold greater; split <;> omega
  go_wp2_with fail
  refine wp_region_held_drew (S := (fun w' => Only [n] w3 w' ∧ (∃ k, NodeAt w' n { x with room := bothX ya.room yb.room, high := k }) ∧ w'.cell? ⟨a, 13, none⟩ = some (.int .i64 ya.high) ∧ w'.cell? ⟨b, 13, none⟩ = some (.int .i64 yb.high) ∧ w'.cell? ⟨n, 13, none⟩ = some (cellV w' ⟨n, 13, none⟩) ∧ (∀ i, w'.frozen? ⟨n, i, none⟩ = false))) (by kernel_rfl) ?_ (fun hHeld1 => ?_)
  · (try dsimp only); exact ⟨(Only.refl _ _).drew, ⟨_, G3.out.2.1⟩, G3.out.2.2.1.c13, G3.out.2.2.2.c13, cellV_of G3.out.2.1.c13, G3.out.2.1.free⟩
  refine wpAnyH_take (i := 0) (v := ?_) rfl (by kernel_rfl) (by kernel_rfl) (by kernel_rfl) (fun _ _ _ h => h) (Or.inl ⟨by kernel_rfl, ?_⟩) (by assumption) ?_
  rotate_left
  · intro w'' hSw; (try dsimp only at hSw); simp only [zqa, zqb, zqc]; (go_simp <;> with_reducible rfl)
  try simp only [Act.put, zqd, zqe, zqf, zqa, zqb, zqc]
  refine wpAnyH_take (i := 1) (v := ?_) rfl (by kernel_rfl) (by kernel_rfl) (by kernel_rfl) (fun _ _ _ h => h) (Or.inl ⟨by kernel_rfl, ?_⟩) (by assumption) ?_
  rotate_left
  · intro w'' hSw; (try dsimp only at hSw); simp only [zqa, zqb, zqc]; (go_simp <;> with_reducible rfl)
  try simp only [Act.put, zqd, zqe, zqf, zqa, zqb, zqc]
  refine wpAnyH_take (i := 2) (v := ?_) rfl (by kernel_rfl) (by kernel_rfl) (by kernel_rfl) (fun _ _ _ h => h) (Or.inl ⟨by kernel_rfl, ?_⟩) (by assumption) ?_
  rotate_left
  · intro w'' hSw; (try dsimp only at hSw); simp only [zqa, zqb, zqc]; (go_simp <;> with_reducible rfl)
  try simp only [Act.put, zqd, zqe, zqf, zqa, zqb, zqc]
  refine wpAnyH_take (i := 3) (v := ?_) rfl (by kernel_rfl) (by kernel_rfl) (by kernel_rfl) (fun _ _ _ h => h) (Or.inl ⟨by kernel_rfl, ?_⟩) (by assumption) ?_
  rotate_left
  · intro w'' hSw; (try dsimp only at hSw); simp only [zqa, zqb, zqc]; (go_simp <;> with_reducible rfl)
  try simp only [Act.put, zqd, zqe, zqf, zqa, zqb, zqc]
  refine wpAnyH_take (i := 4) (v := ?_) rfl (by kernel_rfl) (by kernel_rfl) (by kernel_rfl) (fun _ _ _ h => h) (Or.inl ⟨by kernel_rfl, ?_⟩) (by assumption) ?_
  rotate_left
  · intro w'' hSw; (try dsimp only at hSw); simp only [zqa, zqb, zqc]; (go_simp <;> with_reducible rfl)
  try simp only [Act.put, zqd, zqe, zqf, zqa, zqb, zqc]
  refine wpAnyH_take (i := 5) (v := ?_) rfl (by kernel_rfl) (by kernel_rfl) (by kernel_rfl) (fun _ _ _ h => h) (Or.inl ⟨by kernel_rfl, ?_⟩) (by assumption) ?_
  rotate_left
  · intro w'' hSw; (try dsimp only at hSw); simp only [zqa, zqb, zqc]; (go_simp <;> with_reducible rfl)
  try simp only [Act.put, zqd, zqe, zqf, zqa, zqb, zqc]
  refine wpAnyH_take (i := 6) (v := ?_) rfl (by kernel_rfl) (by kernel_rfl) (by kernel_rfl) (fun _ _ _ h => h) (Or.inl ⟨by kernel_rfl, ?_⟩) (by assumption) ?_
  rotate_left
  · intro w'' hSw; (try dsimp only at hSw); simp only [zqa, zqb, zqc]; (go_simp <;> with_reducible rfl)
  try simp only [Act.put, zqd, zqe, zqf, zqa, zqb, zqc]
  refine wpAnyH_take (i := 7) (v := ?_) rfl (by kernel_rfl) (by kernel_rfl) (by kernel_rfl) (fun _ _ _ h => h) (Or.inl ⟨by kernel_rfl, ?_⟩) (by assumption) ?_
  rotate_left
  · intro w'' hSw; (try dsimp only at hSw); simp only [zqa, zqb, zqc]; (go_simp <;> with_reducible rfl)
  try simp only [Act.put, zqd, zqe, zqf, zqa, zqb, zqc]
  refine wpAnyH_take (i := 8) (v := ?_) rfl (by kernel_rfl) (by kernel_rfl) (by kernel_rfl) (fun _ _ _ h => h) (Or.inl ⟨by kernel_rfl, ?_⟩) (by assumption) ?_
  rotate_left
  · intro w'' hSw; (try dsimp only at hSw); simp only [zqa, zqb, zqc]; (go_simp <;> with_reducible rfl)
  try simp only [Act.put, zqd, zqe, zqf, zqa, zqb, zqc]
  refine wpAnyH_take (i := 9) (v := .int .i64 (greater ya.high yb.high)) rfl (by kernel_rfl) (by kernel_rfl) (by kernel_rfl) (fun _ _ _ h => h) (Or.inl ⟨by kernel_rfl, ?_⟩) (by assumption) ?_
  · intro w'' hSw; (try dsimp only at hSw); simp only [zqa, zqb, zqc]; (go_simp <;> rfl)
  try simp only [Act.put, zqd, zqe, zqf, zqa, zqb, zqc]
  refine wpAnyH_take (i := 10) (v := ?_) rfl (by kernel_rfl) (by kernel_rfl) (by kernel_rfl) (fun _ _ _ h => h) (Or.inl ⟨by kernel_rfl, ?_⟩) (by assumption) ?_
  rotate_left
  · intro w'' hSw; (try dsimp only at hSw); simp only [zqa, zqb, zqc]; (go_simp <;> with_reducible rfl)
  try simp only [Act.put, zqd, zqe, zqf, zqa, zqb, zqc]
  refine wpAnyH_take (i := 11) (v := ?_) rfl (by kernel_rfl) (by kernel_rfl) (by kernel_rfl) (fun _ _ _ h => h) (Or.inl ⟨by kernel_rfl, ?_⟩) (by assumption) ?_
  rotate_left
  · intro w'' hSw; (try dsimp only at hSw); simp only [zqa, zqb, zqc]; (go_simp <;> with_reducible rfl)
  try simp only [Act.put, zqd, zqe, zqf, zqa, zqb, zqc]
  refine wpAnyH_take (i := 12) (v := ?_) rfl (by kernel_rfl) (by kernel_rfl) (by kernel_rfl) (fun _ _ _ h => h) (Or.inl ⟨by kernel_rfl, ?_⟩) (by assumption) ?_
  rotate_left
  · intro w'' hSw; (try dsimp only at hSw); simp only [zqa, zqb, zqc]; (go_simp <;> with_reducible rfl)
  try simp only [Act.put, zqd, zqe, zqf, zqa, zqb, zqc]
  refine wpAnyH_ready (rs := [13]) (by kernel_rfl) (by simp) ?_
  refine AllReadyH.cons rfl (fun K hK => ?_) AllReadyH.nil
  first | (with_reducible refine iteYes ?hcx ?htx; case hcx => kernel_rfl) | rw [if_pos (by rfl)]
  simp only [zqa, zqb, zqc]
  go_simp
  refine hK.out _ _ ?_ (fun hHeld2 => ?_)
  · (try dsimp only); exact ⟨hHeld1.1.setCell (by simp) _, ⟨_, hHeld1.2.1.choose_spec.putHigh _⟩, (World.cell?_setCell_other _ _ _ _ (by simp [na, nb, Ne.symm na, Ne.symm nb])).trans hHeld1.2.2.1, (World.cell?_setCell_other _ _ _ _ (by simp [na, nb, Ne.symm na, Ne.symm nb])).trans hHeld1.2.2.2.1, put_there hHeld1.2.2.2.2.1, fun i => (World.frozen?_setCell _ _ _ _).trans (hHeld1.2.2.2.2.2 i)⟩
  clear hK K
  try simp only [Act.put, zqd, zqe, zqf, zqa, zqb, zqc]
  refine wpAnyH_done (by kernel_rfl) ?_ _
  go_wp2
  obtain ⟨_, ⟨k1, m1⟩, _⟩ := hHeld1
  go_end0
  rw [wrap_in (by omega) (by omega)] at hHeld2 ⊢
  exact ⟨rfl, m1.putHigh _, G3.out.1.trans hHeld2.1⟩

theorem join_calls (n a b : Nat) (x ya yb : Nd) (w : World) (na : a ≠ n) (nb : b ≠ n) (ab : a ≠ b) (hn : NodeAt w n x) (ha : NodeAt w a ya) (hb : NodeAt w b yb)
    (b1 : 0 ≤ ya.high) (b2 : ya.high ≤ 1000000) (b3 : 0 ≤ yb.high) (b4 : yb.high ≤ 1000000) :
    Calls Tryz.prog 97 #[.pointer (some ⟨n, 0, none⟩), .pointer (some ⟨a, 0, none⟩), .pointer (some ⟨b, 0, none⟩)] w fun e w' => e = .returned (.tuple #[]) ∧
      NodeAt w' n { x with l := some a, r := some b, room := bothX ya.room yb.room, high := 1 + greater ya.high yb.high } ∧ NodeAt w' a { ya with up := some n } ∧ NodeAt w' b { yb with up := some n } ∧ Only [n, a, b] w w' := by
  have c15 := hn.c15; have c16 := hn.c16; have f1 := hn.free; have c14 := ha.c14; have f2 := ha.free; have d14 := hb.c14; have f3 := hb.free
  have HN : Hid (NodeAt w n x ∧ NodeAt w a ya ∧ NodeAt w b yb) := ⟨hn, ha, hb⟩
  clear hn ha hb
  go_enter Tryz.func97, Tryz.ntmps97
  go_wp2_with fail
  clear c15 c16 f1 c14 f2 d14 f3
  obtain ⟨hn, ha, hb⟩ := HN.out
  have n1 := (((hn.putL (some a)).putR (some b)).far (p := ⟨a, 14, none⟩) (Ne.symm na) (ptr (some n))).far (p := ⟨b, 14, none⟩) (Ne.symm nb) (ptr (some n))
  have a1 := (((ha.far (p := ⟨n, 15, none⟩) na (ptr (some a))).far (p := ⟨n, 16, none⟩) na (ptr (some b))).putUp (some n)).far (p := ⟨b, 14, none⟩) ab (ptr (some n))
  have b1' := (((hb.far (p := ⟨n, 15, none⟩) nb (ptr (some a))).far (p := ⟨n, 16, none⟩) nb (ptr (some b))).far (p := ⟨a, 14, none⟩) (Ne.symm ab) (ptr (some n))).putUp (some n)
  have o1 : Only [n, a, b] w _ := ((((Only.refl [n, a, b] w).setCell (p := ⟨n, 15, none⟩) (by simp) (ptr (some a))).setCell (p := ⟨n, 16, none⟩) (by simp) (ptr (some b))).setCell (p := ⟨a, 14, none⟩) (by simp) (ptr (some n))).setCell (p := ⟨b, 14, none⟩) (by simp) (ptr (some n))
  clear hn ha hb
  have HO : Hid (Only [n, a, b] w _ ∧ _ ∧ _) := ⟨o1, a1, b1'⟩
  refine (measure_calls n a b _ _ _ _ rfl rfl na nb n1 a1 b1' b1 b2 b3 b4).mono ?_
  rintro e w2 ⟨rfl, m2, o2⟩
  clear o1 a1 b1' n1
  have HM : Hid (NodeAt w2 n _ ∧ Only [n] _ w2) := ⟨m2, o2⟩
  clear m2 o2
  go_wp2_with fail
  go_end0
  exact ⟨rfl, HM.out.1, HM.out.2.node (by simp [na]) HO.out.2.1, HM.out.2.node (by simp [nb]) HO.out.2.2, HO.out.1.trans (HM.out.2.mono (by simp))⟩
end Go.Proofs.YtbfkloclmlnahabGreat

namespace Go.Proofs.YtbfkloclmlnahabGreat
open Go.ChangeShapes Go.WideShapes Go.ChangeAt Go.RowKit
set_option linter.unusedVariables false
set_option linter.unusedSimpArgs false

structure Tr where
 b : Nat
 d : (Int × Bx × Bx) ⊕ (Tr × Tr)
abbrev Tr.leaf (b : Nat) (id : Int) (box room : Bx) : Tr := ⟨b,.inl (id,box,room)⟩
abbrev Tr.node (b : Nat) (l r : Tr) : Tr := ⟨b,.inr (l,r)⟩
theorem Tr.ind {P : Tr → Prop} (leaf : ∀ b id box room,P (.leaf b id box room)) (node : ∀ b l r,P l → P r → P (.node b l r)) : ∀ T,P T
 | ⟨b,.inl (id,box,room)⟩ => leaf b id box room
 | ⟨b,.inr (l,r)⟩ => node b l r (Tr.ind leaf node l) (Tr.ind leaf node r)
theorem Tr.cs {P : Tr → Prop} (leaf : ∀ b id box room,P (.leaf b id box room)) (node : ∀ b l r,P (.node b l r)) (T : Tr) : P T := Tr.ind leaf (fun b l r _ _ => node b l r) T
def Tr.root : Tr → Nat
  | ⟨b,.inl (_,_,_)⟩ => b
  | ⟨b,.inr (_,_)⟩ => b
def Tr.high : Tr → Int
  | ⟨_,.inl (_,_,_)⟩ => 0
  | ⟨_,.inr (l,r)⟩ => 1 + greater l.high r.high
def Tr.room : Tr → Bx
  | ⟨_,.inl (_,_,r)⟩ => r
  | ⟨_,.inr (l,r)⟩ => bothX l.room r.room
def Tr.blocks : Tr → List Nat
  | ⟨b,.inl (_,_,_)⟩ => [b]
  | ⟨b,.inr (l,r)⟩ => b :: (l.blocks ++ r.blocks)
/-- What the root's cells hold. -/
def Tr.nd (up : Option Nat) : Tr → Nd
  | ⟨_,.inl (id,box,room)⟩ => ⟨id, box, room, 0, up, none, none⟩
  | ⟨_,.inr (l,r)⟩ => ⟨0, bx0, bothX l.room r.room, 1 + greater l.high r.high, up, some l.root, some r.root⟩
def In (w : World) (up : Option Nat) : Tr → Prop
  | ⟨b,.inl (id,box,room)⟩ => NodeAt w b ((Tr.leaf b id box room).nd up)
  | ⟨b,.inr (l,r)⟩ => NodeAt w b ((Tr.node b l r).nd up) ∧ In w (some b) l ∧ In w (some b) r

theorem nd_room (up : Option Nat) (T : Tr) : (T.nd up).room = T.room := by cases T using Tr.cs <;> rfl
theorem nd_high (up : Option Nat) (T : Tr) : (T.nd up).high = T.high := by cases T using Tr.cs <;> rfl
theorem nd_up (up u : Option Nat) (T : Tr) : { T.nd up with up := u } = T.nd u := by cases T using Tr.cs <;> rfl
theorem nd_up' (up : Option Nat) (T : Tr) : (T.nd up).up = up := by cases T using Tr.cs <;> rfl
theorem root_mem (T : Tr) : T.root ∈ T.blocks := by cases T using Tr.cs <;> simp [Tr.root, Tr.blocks]
theorem high_nonneg : ∀ T : Tr, 0 ≤ T.high
  | ⟨_,.inl (_,_,_)⟩ => Int.le_refl _
  | ⟨_,.inr (l,r)⟩ => by have := high_nonneg l; have := high_nonneg r; unfold Tr.high greater; split <;> omega
theorem In.node {w : World} {up : Option Nat} {T : Tr} (h : In w up T) : NodeAt w T.root (T.nd up) := by
  cases T using Tr.cs with
  | leaf => exact h
  | node => exact h.1
theorem In.only {D : List Nat} {w w' : World} (o : Only D w w') : ∀ {T : Tr} {up : Option Nat}, (∀ b ∈ T.blocks, b ∉ D) → In w up T → In w' up T
  | ⟨b,.inl (_,_,_)⟩, _, s, h => o.node (s b (by simp [Tr.blocks])) h
  | ⟨b,.inr (l,r)⟩, _, s, h => ⟨o.node (s b (by simp [Tr.blocks])) h.1, In.only o (fun x hx => s x (by simp [Tr.blocks, hx])) h.2.1, In.only o (fun x hx => s x (by simp [Tr.blocks, hx])) h.2.2⟩
/-- The root's cells have been written anew; below it nothing has turned. -/
theorem In.reroot {D : List Nat} {w w' : World} (o : Only D w w') {T : Tr} {up u : Option Nat} (h : In w up T) (s : ∀ b ∈ T.blocks, b ≠ T.root → b ∉ D) (nd : T.blocks.Nodup) (k : NodeAt w' T.root (T.nd u)) : In w' u T := by
  cases T using Tr.cs with
  | leaf => exact k
  | node b l r =>
    simp only [Tr.blocks, List.nodup_cons, List.mem_append, not_or] at nd
    refine ⟨k, In.only o (fun x hx => s x (by simp [Tr.blocks, hx]) ?_) h.2.1, In.only o (fun x hx => s x (by simp [Tr.blocks, hx]) ?_) h.2.2⟩
    · exact fun e => nd.1.1 (by rw [show x = b from e] at hx; exact hx)
    · exact fun e => nd.1.2 (by rw [show x = b from e] at hx; exact hx)

/-- A joint with a hole below it: at the left, or at the right. -/
structure Fr where
  b : Nat
  room : Bx
  high : Int
  left : Bool
  sib : Tr
def upOf : List Fr → Option Nat
  | [] => none
  | f :: _ => some f.b
def Fr.nd (f : Fr) (up : Option Nat) (h : Nat) : Nd := ⟨0, bx0, f.room, f.high, up, some (if f.left then h else f.sib.root), some (if f.left then f.sib.root else h)⟩
def Arnd (w : World) (t : Nat) (fat : Int) (lv : Option Nat) : List Fr → Nat → Prop
  | [], h => TreeAt w t fat (some h) lv
  | f :: c, h => NodeAt w f.b (f.nd (upOf c) h) ∧ In w (some f.b) f.sib ∧ Arnd w t fat lv c f.b
def cblocks : List Fr → List Nat
  | [] => []
  | f :: c => f.b :: (f.sib.blocks ++ cblocks c)
theorem Arnd.only {D : List Nat} {w w' : World} (o : Only D w w') {t : Nat} {fat : Int} {lv : Option Nat} : ∀ {c : List Fr} {h : Nat}, (∀ b ∈ t :: cblocks c, b ∉ D) → Arnd w t fat lv c h → Arnd w' t fat lv c h
  | [], _, s, k => o.tree (s t (by simp)) k
  | f :: c, _, s, k => ⟨o.node (s f.b (by simp [cblocks])) k.1, k.2.1.only o (fun x hx => s x (by simp [cblocks, hx])), Arnd.only o (fun x hx => s x (by simp only [List.mem_cons, cblocks, List.mem_append] at hx ⊢; rcases hx with hx | hx <;> simp [hx])) k.2.2⟩
/-- The block that leads to the hole. -/
def headOf (t : Nat) : List Fr → Nat
  | [] => t
  | f :: _ => f.b
theorem headOf_mem (t : Nat) (c : List Fr) : headOf t c ∈ t :: cblocks c := by cases c <;> simp [headOf, cblocks]

section
variable {P : Program} (w : World)
theorem equalIn_same (d : Nat) {tp te : TypeId} {j : TypeInfo} (a : Addr) (hp : P.underlying tp = some (.pointer te)) (hte : P.info? te = some j) : (Op.equalIn (d + 1) tp (.pointer (some a)) (.pointer (some a))).run P w = .ok true w := by
  simp [Op.equalIn, run_underlying hp, sizeOf, typeInfo, run_sameAddr_same, hte]
theorem equalIn_other (d : Nat) {tp te : TypeId} {j : TypeInfo} {a b : Addr} {ca cb : Array Value} {ta tb : TypeId} (hp : P.underlying tp = some (.pointer te)) (hte : P.info? te = some j) (hsz : j.size ≠ 0)
    (hne : a ≠ b) (ha : w.heap[a.block]? = some (.cells ca ta (0, 0))) (hb : w.heap[b.block]? = some (.cells cb tb (0, 0))) : (Op.equalIn (d + 1) tp (.pointer (some a)) (.pointer (some b))).run P w = .ok false w := by
  simp [Op.equalIn, run_underlying hp, sizeOf, typeInfo, hte, hsz, run_sameAddr_other w hne ha hb]
theorem eql_ptr_same {tp te : TypeId} {j : TypeInfo} (a : Addr) (hp : P.underlying tp = some (.pointer te)) (hte : P.info? te = some j) : (binOp .eql tp (.pointer (some a)) (.pointer (some a))).run P w = .ok (.bool true) w := by
  simp only [binOp]
  simp [Op.equal, Op.maxDepth, equalIn_same w 9999 a hp hte]
theorem eql_ptr_other {tp te : TypeId} {j : TypeInfo} {a b : Addr} {ca cb : Array Value} {ta tb : TypeId} (hp : P.underlying tp = some (.pointer te)) (hte : P.info? te = some j) (hsz : j.size ≠ 0)
    (hne : a ≠ b) (ha : w.heap[a.block]? = some (.cells ca ta (0, 0))) (hb : w.heap[b.block]? = some (.cells cb tb (0, 0))) : (binOp .eql tp (.pointer (some a)) (.pointer (some b))).run P w = .ok (.bool false) w := by
  simp only [binOp]
  simp [Op.equal, Op.maxDepth, equalIn_other w 9999 hp hte hsz hne ha hb]
end
theorem nodeInfo : (Tryz.prog.info? 99).map (fun i => i.size) = some 17 := by kernel_rfl
theorem node_info : ∃ j, Tryz.prog.info? 99 = some j ∧ j.size ≠ 0 := by
  have h := nodeInfo
  cases e : Tryz.prog.info? 99 with
  | none => rw [e] at h; cases h
  | some j => rw [e] at h; simp only [Option.map_some, Option.some.injEq] at h; exact ⟨j, rfl, by omega⟩
theorem eql_same (w : World) (a : Nat) : (binOp .eql 91 (.pointer (some ⟨a, 0, none⟩)) (.pointer (some ⟨a, 0, none⟩))).run Tryz.prog w = .ok (.bool true) w := by
  obtain ⟨j, hj, _⟩ := node_info
  exact eql_ptr_same w _ Tryz.underlying91 hj
theorem eql_other {w : World} {a b : Nat} {x y : Nd} (h : a ≠ b) (ha : NodeAt w a x) (hb : NodeAt w b y) : (binOp .eql 91 (.pointer (some ⟨a, 0, none⟩)) (.pointer (some ⟨b, 0, none⟩))).run Tryz.prog w = .ok (.bool false) w := by
  obtain ⟨j, hj, hs⟩ := node_info
  exact eql_ptr_other w Tryz.underlying91 hj hs (fun e => h (by injection e)) ha hb

theorem replace_top (t old by_ : Nat) (x y : Nd) (fat : Int) (r lv : Option Nat) (w : World) (e1 : by_ ≠ old) (e2 : t ≠ by_) (e3 : t ≠ old) (hx : NodeAt w old x) (hu : x.up = none) (hy : NodeAt w by_ y) (ht : TreeAt w t fat r lv) :
    Calls Tryz.prog 94 #[.pointer (some ⟨t, 0, none⟩), .pointer (some ⟨old, 0, none⟩), .pointer (some ⟨by_, 0, none⟩)] w fun e w' => e = .returned (.tuple #[]) ∧ NodeAt w' by_ { y with up := none } ∧ TreeAt w' t fat (some by_) lv ∧ Only [by_, t] w w' := by
  have c1 := hx.c14; rw [hu] at c1; simp only [ptr_none] at c1
  have c2 := hy.c14; have f2 := hy.free; have c3 := ht.c1; have f3 := ht.free
  have HN : Hid (NodeAt w by_ y ∧ TreeAt w t fat r lv) := ⟨hy, ht⟩
  clear hx hy ht hu
  go_enter Tryz.func94, Tryz.ntmps94
  go_wp2_with fail
  go_end0
  obtain ⟨hy, ht⟩ := HN.out
  exact ⟨rfl, (hy.putUp none).far (p := ⟨t, 1, none⟩) (Ne.symm e2) _, (ht.far (p := ⟨by_, 14, none⟩) e2 _).putRoot (some by_), ((Only.refl [by_, t] w).setCell (p := ⟨by_, 14, none⟩) (by simp) _).setCell (p := ⟨t, 1, none⟩) (by simp) _⟩
set_option maxRecDepth 100000 in
theorem replace_left (t old by_ p : Nat) (x y z : Nd) (w : World) (e1 : by_ ≠ old) (e2 : p ≠ by_) (e3 : p ≠ old) (hx : NodeAt w old x) (hu : x.up = some p) (hy : NodeAt w by_ y) (hz : NodeAt w p z) (hl : z.l = some old) :
    Calls Tryz.prog 94 #[.pointer (some ⟨t, 0, none⟩), .pointer (some ⟨old, 0, none⟩), .pointer (some ⟨by_, 0, none⟩)] w fun e w' => e = .returned (.tuple #[]) ∧ NodeAt w' by_ { y with up := some p } ∧ NodeAt w' p { z with l := some by_ } ∧ Only [by_, p] w w' := by
  have c1 := hx.c14; rw [hu] at c1; simp only [ptr_some] at c1
  have c2 := hy.c14; have f2 := hy.free; have c3 := hz.c15; have f3 := hz.free; rw [hl] at c3; simp only [ptr_some] at c3
  have HN : Hid (NodeAt w by_ y ∧ NodeAt w p z) := ⟨hy, hz⟩
  have q1 := eql_same
  clear hx hy hz hu hl
  go_enter Tryz.func94, Tryz.ntmps94
  go_wp2_with fail
  go_end0
  obtain ⟨hy, hz⟩ := HN.out
  exact ⟨rfl, (hy.putUp (some p)).far (p := ⟨p, 15, none⟩) (Ne.symm e2) _, (hz.far (p := ⟨by_, 14, none⟩) e2 _).putL (some by_), ((Only.refl [by_, p] w).setCell (p := ⟨by_, 14, none⟩) (by simp) _).setCell (p := ⟨p, 15, none⟩) (by simp) _⟩
set_option maxRecDepth 100000 in
theorem replace_right (t old by_ p q : Nat) (x y z : Nd) (w : World) (e1 : by_ ≠ old) (e2 : p ≠ by_) (e3 : p ≠ old) (e4 : q ≠ old) (hx : NodeAt w old x) (hu : x.up = some p) (hy : NodeAt w by_ y) (hz : NodeAt w p z) {u : Nd} (hq : NodeAt w q u) (e5 : q ≠ by_) (hl : z.l = some q) :
    Calls Tryz.prog 94 #[.pointer (some ⟨t, 0, none⟩), .pointer (some ⟨old, 0, none⟩), .pointer (some ⟨by_, 0, none⟩)] w fun e w' => e = .returned (.tuple #[]) ∧ NodeAt w' by_ { y with up := some p } ∧ NodeAt w' p { z with r := some by_ } ∧ Only [by_, p] w w' := by
  have c1 := hx.c14; rw [hu] at c1; simp only [ptr_some] at c1
  have c2 := hy.c14; have f2 := hy.free; have c3 := hz.c15; have c4 := hz.c16; have f3 := hz.free; rw [hl] at c3; simp only [ptr_some] at c3
  have HN : Hid (NodeAt w by_ y ∧ NodeAt w p z) := ⟨hy, hz⟩
  have q1 : ∀ v, (binOp .eql 91 (.pointer (some ⟨q, 0, none⟩)) (.pointer (some ⟨old, 0, none⟩))).run Tryz.prog (w.setCell ⟨by_, 14, none⟩ v) = .ok (.bool false) (w.setCell ⟨by_, 14, none⟩ v) := fun v => eql_other e4 (hq.far e5 v) (hx.far (Ne.symm e1) v)
  clear hx hy hz hu hl hq
  go_enter Tryz.func94, Tryz.ntmps94
  go_wp2_with fail
  go_end0
  obtain ⟨hy, hz⟩ := HN.out
  exact ⟨rfl, (hy.putUp (some p)).far (p := ⟨p, 16, none⟩) (Ne.symm e2) _, (hz.far (p := ⟨by_, 14, none⟩) e2 _).putR (some by_), ((Only.refl [by_, p] w).setCell (p := ⟨by_, 14, none⟩) (by simp) _).setCell (p := ⟨p, 16, none⟩) (by simp) _⟩
/-- A node comes into the place of another one: whatever lies around. -/
theorem replace_calls (t old by_ : Nat) (x y : Nd) (fat : Int) (lv : Option Nat) (c : List Fr) (w : World) (e1 : by_ ≠ old) (e2 : by_ ∉ t :: cblocks c) (e3 : old ∉ t :: cblocks c) (e4 : (t :: cblocks c).Nodup)
    (hx : NodeAt w old x) (hu : x.up = upOf c) (hy : NodeAt w by_ y) (ha : Arnd w t fat lv c old) :
    Calls Tryz.prog 94 #[.pointer (some ⟨t, 0, none⟩), .pointer (some ⟨old, 0, none⟩), .pointer (some ⟨by_, 0, none⟩)] w fun e w' => e = .returned (.tuple #[]) ∧ NodeAt w' by_ { y with up := upOf c } ∧ Arnd w' t fat lv c by_ ∧ Only [by_, headOf t c] w w' := by
  cases c with
  | nil =>
    simp only [cblocks, List.mem_singleton] at e2 e3
    exact replace_top t old by_ x y fat _ lv w e1 (Ne.symm e2) (Ne.symm e3) hx hu hy ha
  | cons f c =>
    obtain ⟨hz, hs, hc⟩ := ha
    simp only [cblocks, List.mem_cons, List.mem_append, not_or] at e2 e3
    simp only [cblocks, List.nodup_cons, List.mem_cons, List.mem_append, not_or] at e4
    have far : ∀ w', Only [by_, f.b] w w' → In w' (some f.b) f.sib ∧ Arnd w' t fat lv c f.b := fun w' o =>
      ⟨hs.only o (fun b hb => by simp only [List.mem_cons, List.not_mem_nil, or_false, not_or]; exact ⟨fun e => e2.2.2.1 (e ▸ hb), fun e => e4.2.1.1 (e ▸ hb)⟩),
       hc.only o (fun b hb => by
        simp only [List.mem_cons] at hb
        simp only [List.mem_cons, List.not_mem_nil, or_false, not_or]
        rcases hb with rfl | hb
        · exact ⟨fun e => e2.1 e.symm, e4.1.1⟩
        · exact ⟨fun e => e2.2.2.2 (e ▸ hb), fun e => e4.2.1.2 (e ▸ hb)⟩)⟩
    cases hl : f.left with
    | true =>
      refine (replace_left t old by_ f.b x y _ w e1 (Ne.symm e2.2.1) (Ne.symm e3.2.1) hx hu hy hz (by simp [Fr.nd, hl])).mono ?_
      rintro e w' ⟨rfl, h1, h2, o⟩
      refine ⟨rfl, h1, ⟨?_, far w' o⟩, o⟩
      have : { f.nd (upOf c) old with l := some by_ } = f.nd (upOf c) by_ := by simp [Fr.nd, hl]
      rw [← this]; exact h2
    | false =>
      refine (replace_right t old by_ f.b f.sib.root x y _ w e1 (Ne.symm e2.2.1) (Ne.symm e3.2.1) (fun e => e3.2.2.1 (e ▸ root_mem _)) hx hu hy hz hs.node (fun e => e2.2.2.1 (e ▸ root_mem _)) (by simp [Fr.nd, hl])).mono ?_
      rintro e w' ⟨rfl, h1, h2, o⟩
      refine ⟨rfl, h1, ⟨?_, far w' o⟩, o⟩
      have : { f.nd (upOf c) old with r := some by_ } = f.nd (upOf c) by_ := by simp [Fr.nd, hl]
      rw [← this]; exact h2
end Go.Proofs.YtbfkloclmlnahabGreat

namespace Go.Proofs.YtbfkloclmlnahabGreat
open Go.ChangeShapes Go.WideShapes Go.ChangeAt Go.RowKit
set_option linter.unusedSimpArgs false
set_option linter.unusedVariables false

theorem level_stay_l (t n a b : Nat) (x ya yb : Nd) (w : World) (el : x.l = some a) (er : x.r = some b) (hn : NodeAt w n x) (ha : NodeAt w a ya) (hb : NodeAt w b yb)
    (b1 : 0 ≤ ya.high) (b2 : ya.high ≤ 1000000) (b3 : 0 ≤ yb.high) (b4 : yb.high ≤ 1000000) (h1 : ¬ ya.high < yb.high) (h2 : ya.high ≤ yb.high + 1) :
    Calls Tryz.prog 116 #[.pointer (some ⟨t, 0, none⟩), .pointer (some ⟨n, 0, none⟩)] w fun e w' => e = .returned (.pointer (some ⟨n, 0, none⟩)) ∧ Only [] w w' := by
  have c1 := hn.c15; have c2 := hn.c16; rw [el] at c1; rw [er] at c2; simp only [ptr_some] at c1 c2
  have c3 := ha.c13; have c4 := hb.c13
  have t1 : decide (ya.high < yb.high) = false := by simp; omega
  have v1 : IntKind.i64.wrap (yb.high + 1) = yb.high + 1 := wrap_in (by omega) (by omega)
  have t2 : decide (ya.high ≤ yb.high + 1) = true := by simp; omega
  clear hn ha hb el er
  go_enter Tryz.func116, Tryz.ntmps116
  go_wp2_with fail
  go_quiet (fail)
  generalize hw0 : w.drewN nq = w0
  have o0 : Hid (Only [] w w0) := hw0 ▸ Only.drewN w nq
  have c3 : w0.cell? ⟨a, 13, none⟩ = some (.int .i64 ya.high) := hw0 ▸ c3
  have c4 : w0.cell? ⟨b, 13, none⟩ = some (.int .i64 yb.high) := hw0 ▸ c4
  clear hw0 c1 c2
  go_wp2_with fail
  go_quiet (fail)
  generalize hw1 : w0.drewN _ = w1
  have o1 : Hid (Only [] w w1) := hw1 ▸ o0.out.trans (Only.drewN w0 _)
  have c3 : w1.cell? ⟨a, 13, none⟩ = some (.int .i64 ya.high) := hw1 ▸ c3
  have c4 : w1.cell? ⟨b, 13, none⟩ = some (.int .i64 yb.high) := hw1 ▸ c4
  clear hw1 o0
  go_wp2_with fail
  go_quiet (fail)
  generalize hw2 : w1.drewN _ = w2
  have o2 : Hid (Only [] w w2) := hw2 ▸ o1.out.trans (Only.drewN w1 _)
  clear hw2 o1
  go_wp2_with fail
  go_ret
  exact ⟨rfl, o2.out⟩

theorem level_stay_r (t n a b : Nat) (x ya yb : Nd) (w : World) (el : x.l = some a) (er : x.r = some b) (hn : NodeAt w n x) (ha : NodeAt w a ya) (hb : NodeAt w b yb)
    (b1 : 0 ≤ ya.high) (b2 : ya.high ≤ 1000000) (b3 : 0 ≤ yb.high) (b4 : yb.high ≤ 1000000) (h1 : ya.high < yb.high) (h2 : yb.high ≤ ya.high + 1) :
    Calls Tryz.prog 116 #[.pointer (some ⟨t, 0, none⟩), .pointer (some ⟨n, 0, none⟩)] w fun e w' => e = .returned (.pointer (some ⟨n, 0, none⟩)) ∧ Only [] w w' := by
  have c1 := hn.c15; have c2 := hn.c16; rw [el] at c1; rw [er] at c2; simp only [ptr_some] at c1 c2
  have c3 := ha.c13; have c4 := hb.c13
  have t1 : decide (ya.high < yb.high) = true := by simp; omega
  have v1 : IntKind.i64.wrap (ya.high + 1) = ya.high + 1 := wrap_in (by omega) (by omega)
  have t2 : decide (yb.high ≤ ya.high + 1) = true := by simp; omega
  clear hn ha hb el er
  go_enter Tryz.func116, Tryz.ntmps116
  go_wp2_with fail
  go_quiet (fail)
  generalize hw0 : w.drewN nq = w0
  have o0 : Hid (Only [] w w0) := hw0 ▸ Only.drewN w nq
  have c3 : w0.cell? ⟨a, 13, none⟩ = some (.int .i64 ya.high) := hw0 ▸ c3
  have c4 : w0.cell? ⟨b, 13, none⟩ = some (.int .i64 yb.high) := hw0 ▸ c4
  clear hw0 c1 c2
  go_wp2_with fail
  go_quiet (fail)
  generalize hw1 : w0.drewN _ = w1
  have o1 : Hid (Only [] w w1) := hw1 ▸ o0.out.trans (Only.drewN w0 _)
  have c3 : w1.cell? ⟨a, 13, none⟩ = some (.int .i64 ya.high) := hw1 ▸ c3
  have c4 : w1.cell? ⟨b, 13, none⟩ = some (.int .i64 yb.high) := hw1 ▸ c4
  clear hw1 o0
  go_wp2_with fail
  go_quiet (fail)
  generalize hw2 : w1.drewN _ = w2
  have o2 : Hid (Only [] w w2) := hw2 ▸ o1.out.trans (Only.drewN w1 _)
  clear hw2 o1
  go_wp2_with fail
  go_ret
  exact ⟨rfl, o2.out⟩

def rnX (ys yg : Nd) : Bx := bothX ys.room yg.room
def hnX (ys yg : Nd) : Int := 1 + greater ys.high yg.high
theorem hnX_bd {ys yg : Nd} (b1 : 0 ≤ ys.high) (b2 : ys.high ≤ 999) (b3 : 0 ≤ yg.high) (b4 : yg.high ≤ 999) : 0 ≤ hnX ys yg ∧ hnX ys yg ≤ 1000 := by unfold hnX greater; split <;> omega

set_option maxRecDepth 100000 in
set_option maxHeartbeats 4000000 in
theorem level_turn_ll (t n tb sb kb gb : Nat) (x yt ys yk yg : Nd) (fat : Int) (lv : Option Nat) (c : List Fr) (w : World) (el : x.l = some tb) (er : x.r = some sb) (kl : yt.l = some kb) (kr : yt.r = some gb)
    (hu : x.up = upOf c) (nd : (n :: tb :: sb :: kb :: gb :: t :: cblocks c).Nodup)
    (hn : NodeAt w n x) (ht : NodeAt w tb yt) (hs : NodeAt w sb ys) (hk : NodeAt w kb yk) (hg : NodeAt w gb yg) (ha : Arnd w t fat lv c n)
    (b1 : 0 ≤ ys.high) (b2 : ys.high ≤ 999) (b3 : 0 ≤ yk.high) (b4 : yk.high ≤ 999) (b5 : 0 ≤ yg.high) (b6 : yg.high ≤ 999) (h1 : ys.high + 1 < yt.high) (h2 : ¬ yk.high < yg.high) :
    Calls Tryz.prog 116 #[.pointer (some ⟨t, 0, none⟩), .pointer (some ⟨n, 0, none⟩)] w fun e w' => e = .returned (.pointer (some ⟨tb, 0, none⟩)) ∧
      NodeAt w' tb { yt with up := upOf c, l := some n, r := some kb, room := bothX (rnX ys yg) yk.room, high := 1 + greater (hnX ys yg) yk.high } ∧
      NodeAt w' n { x with up := some tb, l := some sb, r := some gb, room := rnX ys yg, high := hnX ys yg } ∧
      NodeAt w' sb { ys with up := some n } ∧ NodeAt w' gb { yg with up := some n } ∧ NodeAt w' kb { yk with up := some tb } ∧ Arnd w' t fat lv c tb ∧ Only [tb, headOf t c, n, sb, gb, kb] w w' := by
  have c1 := hn.c15; have c2 := hn.c16; rw [el] at c1; rw [er] at c2; simp only [ptr_some] at c1 c2
  have c3 := ht.c13; have c4 := hs.c13; have c5 := ht.c15; have c6 := ht.c16; rw [kl] at c5; rw [kr] at c6; simp only [ptr_some] at c5 c6
  have c7 := hk.c13; have c8 := hg.c13
  have t1 : decide (yt.high < ys.high) = false := by simp; omega
  have v1 : IntKind.i64.wrap (ys.high + 1) = ys.high + 1 := wrap_in (by omega) (by omega)
  have t2 : decide (yt.high ≤ ys.high + 1) = false := by simp; omega
  have t3 : decide (yk.high < yg.high) = false := by simp; omega
  have HN : Hid (NodeAt w n x ∧ NodeAt w tb yt ∧ NodeAt w sb ys ∧ NodeAt w kb yk ∧ NodeAt w gb yg ∧ Arnd w t fat lv c n) := ⟨hn, ht, hs, hk, hg, ha⟩
  have HU : Hid (x.up = upOf c ∧ (n :: tb :: sb :: kb :: gb :: t :: cblocks c).Nodup) := ⟨hu, nd⟩
  clear hn ht hs hk hg ha el er kl kr hu nd
  go_enter Tryz.func116, Tryz.ntmps116
  go_wp2_with fail
  go_quiet (fail)
  generalize hw0 : w.drewN nq = w0
  have o0 : Hid (Only [] w w0) := hw0 ▸ Only.drewN w nq
  have c3 : w0.cell? ⟨tb, 13, none⟩ = some (.int .i64 yt.high) := hw0 ▸ c3
  have c4 : w0.cell? ⟨sb, 13, none⟩ = some (.int .i64 ys.high) := hw0 ▸ c4
  have c5 : w0.cell? ⟨tb, 15, none⟩ = some (.pointer (some ⟨kb, 0, none⟩)) := hw0 ▸ c5
  have c6 : w0.cell? ⟨tb, 16, none⟩ = some (.pointer (some ⟨gb, 0, none⟩)) := hw0 ▸ c6
  have c7 : w0.cell? ⟨kb, 13, none⟩ = some (.int .i64 yk.high) := hw0 ▸ c7
  have c8 : w0.cell? ⟨gb, 13, none⟩ = some (.int .i64 yg.high) := hw0 ▸ c8
  clear hw0 c1 c2
  go_wp2_with fail
  go_quiet (fail)
  generalize hw1 : w0.drewN _ = w1
  have o1 : Hid (Only [] w w1) := hw1 ▸ o0.out.trans (Only.drewN w0 _)
  have c3 : w1.cell? ⟨tb, 13, none⟩ = some (.int .i64 yt.high) := hw1 ▸ c3
  have c4 : w1.cell? ⟨sb, 13, none⟩ = some (.int .i64 ys.high) := hw1 ▸ c4
  have c5 : w1.cell? ⟨tb, 15, none⟩ = some (.pointer (some ⟨kb, 0, none⟩)) := hw1 ▸ c5
  have c6 : w1.cell? ⟨tb, 16, none⟩ = some (.pointer (some ⟨gb, 0, none⟩)) := hw1 ▸ c6
  have c7 : w1.cell? ⟨kb, 13, none⟩ = some (.int .i64 yk.high) := hw1 ▸ c7
  have c8 : w1.cell? ⟨gb, 13, none⟩ = some (.int .i64 yg.high) := hw1 ▸ c8
  clear hw1 o0
  go_wp2_with fail
  go_quiet (fail)
  generalize hw2 : w1.drewN _ = w2
  have o2 : Hid (Only [] w w2) := hw2 ▸ o1.out.trans (Only.drewN w1 _)
  have c5 : w2.cell? ⟨tb, 15, none⟩ = some (.pointer (some ⟨kb, 0, none⟩)) := hw2 ▸ c5
  have c6 : w2.cell? ⟨tb, 16, none⟩ = some (.pointer (some ⟨gb, 0, none⟩)) := hw2 ▸ c6
  have c7 : w2.cell? ⟨kb, 13, none⟩ = some (.int .i64 yk.high) := hw2 ▸ c7
  have c8 : w2.cell? ⟨gb, 13, none⟩ = some (.int .i64 yg.high) := hw2 ▸ c8
  clear hw2 o1
  go_wp2_with fail
  go_quiet (fail)
  generalize hw3 : w2.drewN _ = w3
  have o3 : Hid (Only [] w w3) := hw3 ▸ o2.out.trans (Only.drewN w2 _)
  have c7 : w3.cell? ⟨kb, 13, none⟩ = some (.int .i64 yk.high) := hw3 ▸ c7
  have c8 : w3.cell? ⟨gb, 13, none⟩ = some (.int .i64 yg.high) := hw3 ▸ c8
  clear hw3 o2
  go_wp2_with fail
  go_quiet (fail)
  generalize hw4 : w3.drewN _ = w4
  have o4 : Hid (Only [] w w4) := hw4 ▸ o3.out.trans (Only.drewN w3 _)
  clear hw4 o3
  go_wp2_with fail
  obtain ⟨hn, ht, hs, hk, hg, ha⟩ := HN.out
  obtain ⟨hu, nd⟩ := HU.out
  simp only [List.nodup_cons, List.mem_cons, not_or] at nd
  obtain ⟨⟨n1, n2, n3, n4, n5, n6⟩, ⟨n7, n8, n9, n10, n11⟩, ⟨n12, n13, n14, n15⟩, ⟨n16, n17, n18⟩, ⟨n19, n20⟩, n21, n22⟩ := nd
  have hd := headOf_mem t c
  have dn : n ≠ headOf t c := fun e => by rw [← e] at hd; simp only [List.mem_cons] at hd; rcases hd with q | q; exact n5 q; exact n6 q
  have ds : sb ≠ headOf t c := fun e => by rw [← e] at hd; simp only [List.mem_cons] at hd; rcases hd with q | q; exact n14 q; exact n15 q
  have dk : kb ≠ headOf t c := fun e => by rw [← e] at hd; simp only [List.mem_cons] at hd; rcases hd with q | q; exact n17 q; exact n18 q
  have dg : gb ≠ headOf t c := fun e => by rw [← e] at hd; simp only [List.mem_cons] at hd; rcases hd with q | q; exact n19 q; exact n20 q
  have far4 : ∀ b ∈ t :: cblocks c, b ∉ ([n, sb, gb] : List Nat) ∧ b ∉ ([tb, n, kb] : List Nat) := by
    intro b hb
    simp only [List.mem_cons] at hb
    simp only [List.mem_cons, List.not_mem_nil, or_false, not_or]
    rcases hb with rfl | hb
    · exact ⟨⟨Ne.symm n5, Ne.symm n14, Ne.symm n19⟩, Ne.symm n10, Ne.symm n5, Ne.symm n17⟩
    · exact ⟨⟨fun e => n6 (e ▸ hb), fun e => n15 (e ▸ hb), fun e => n20 (e ▸ hb)⟩, fun e => n11 (e ▸ hb), fun e => n6 (e ▸ hb), fun e => n18 (e ▸ hb)⟩
  refine (replace_calls t n tb x yt fat lv c w4 (Ne.symm n1) (by simp [n10, n11]) (by simp [n5, n6]) (by simp [n21, n22]) (o4.out.node (by simp) hn) hu (o4.out.node (by simp) ht) (ha.only o4.out (by simp))).mono ?_
  rintro e w5 ⟨rfl, ht5, ha5, o5⟩
  have hn5 := o5.node (by simp [n1, dn]) (o4.out.node (by simp) hn)
  have hs5 := o5.node (by simp [Ne.symm n7, ds]) (o4.out.node (by simp) hs)
  have hk5 := o5.node (by simp [Ne.symm n8, dk]) (o4.out.node (by simp) hk)
  have hg5 := o5.node (by simp [Ne.symm n9, dg]) (o4.out.node (by simp) hg)
  have H5 : Hid (NodeAt w5 tb { yt with up := upOf c } ∧ Arnd w5 t fat lv c tb ∧ NodeAt w5 n x ∧ NodeAt w5 sb ys ∧ NodeAt w5 kb yk ∧ NodeAt w5 gb yg ∧ Only [tb, headOf t c] w w5) := ⟨ht5, ha5, hn5, hs5, hk5, hg5, (o4.out.mono (by simp)).trans o5⟩
  clear ht5 ha5 hn5 hs5 hk5 hg5 o5 o4 hn ht hs hk hg ha HN
  go_wp2_with fail
  obtain ⟨ht5, ha5, hn5, hs5, hk5, hg5, o5⟩ := H5.out
  refine (join_calls n sb gb x ys yg w5 (Ne.symm n2) (Ne.symm n4) n13 hn5 hs5 hg5 b1 (by omega) b5 (by omega)).mono ?_
  rintro e w6 ⟨rfl, hn6, hs6, hg6, o6⟩
  have ht6 := o6.node (by simp [Ne.symm n1, n7, n9]) ht5
  have hk6 := o6.node (by simp [Ne.symm n3, Ne.symm n12, n16]) hk5
  have ha6 := ha5.only o6 (fun b hb => (far4 b hb).1)
  have H6 : Hid (NodeAt w6 tb _ ∧ Arnd w6 t fat lv c tb ∧ NodeAt w6 n _ ∧ NodeAt w6 sb _ ∧ NodeAt w6 kb yk ∧ NodeAt w6 gb _ ∧ Only [tb, headOf t c, n, sb, gb] w w6) := ⟨ht6, ha6, hn6, hs6, hk6, hg6, (o5.mono (by simp)).trans (o6.mono (by simp))⟩
  clear ht5 ha5 hn5 hs5 hk5 hg5 o5 H5 ht6 ha6 hn6 hs6 hk6 hg6 o6
  go_wp2_with fail
  obtain ⟨ht6, ha6, hn6, hs6, hk6, hg6, o6⟩ := H6.out
  have hb := hnX_bd b1 b2 b5 b6
  refine (join_calls tb n kb _ _ yk w6 n1 (Ne.symm n8) n3 ht6 hn6 hk6 (show 0 ≤ hnX ys yg from hb.1) (show hnX ys yg ≤ 1000000 by omega) b3 (by omega)).mono ?_
  rintro e w7 ⟨rfl, ht7, hn7, hk7, o7⟩
  have hs7 := o7.node (by simp [Ne.symm n2, Ne.symm n7, n12]) hs6
  have hg7 := o7.node (by simp [Ne.symm n4, Ne.symm n9, Ne.symm n16]) hg6
  have ha7 := ha6.only o7 (fun b hb => (far4 b hb).2)
  have H7 : Hid (NodeAt w7 tb _ ∧ NodeAt w7 n _ ∧ NodeAt w7 sb _ ∧ NodeAt w7 gb _ ∧ NodeAt w7 kb _ ∧ Arnd w7 t fat lv c tb ∧ Only [tb, headOf t c, n, sb, gb, kb] w w7) := ⟨ht7, hn7, hs7, hg7, hk7, ha7, (o6.mono (by simp)).trans (o7.mono (by simp))⟩
  clear ht6 ha6 hn6 hs6 hk6 hg6 o6 H6 ht7 ha7 hn7 hs7 hk7 hg7 o7
  go_wp2_with fail
  go_ret
  exact ⟨rfl, H7.out⟩

set_option maxRecDepth 100000 in
set_option maxHeartbeats 4000000 in
theorem level_turn_lr (t n tb sb kb gb : Nat) (x yt ys yk yg : Nd) (fat : Int) (lv : Option Nat) (c : List Fr) (w : World) (el : x.l = some tb) (er : x.r = some sb) (kl : yt.l = some gb) (kr : yt.r = some kb)
    (hu : x.up = upOf c) (nd : (n :: tb :: sb :: kb :: gb :: t :: cblocks c).Nodup)
    (hn : NodeAt w n x) (ht : NodeAt w tb yt) (hs : NodeAt w sb ys) (hk : NodeAt w kb yk) (hg : NodeAt w gb yg) (ha : Arnd w t fat lv c n)
    (b1 : 0 ≤ ys.high) (b2 : ys.high ≤ 999) (b3 : 0 ≤ yk.high) (b4 : yk.high ≤ 999) (b5 : 0 ≤ yg.high) (b6 : yg.high ≤ 999) (h1 : ys.high + 1 < yt.high) (h2 : yg.high < yk.high) :
    Calls Tryz.prog 116 #[.pointer (some ⟨t, 0, none⟩), .pointer (some ⟨n, 0, none⟩)] w fun e w' => e = .returned (.pointer (some ⟨tb, 0, none⟩)) ∧
      NodeAt w' tb { yt with up := upOf c, l := some n, r := some kb, room := bothX (rnX ys yg) yk.room, high := 1 + greater (hnX ys yg) yk.high } ∧
      NodeAt w' n { x with up := some tb, l := some sb, r := some gb, room := rnX ys yg, high := hnX ys yg } ∧
      NodeAt w' sb { ys with up := some n } ∧ NodeAt w' gb { yg with up := some n } ∧ NodeAt w' kb { yk with up := some tb } ∧ Arnd w' t fat lv c tb ∧ Only [tb, headOf t c, n, sb, gb, kb] w w' := by
  have c1 := hn.c15; have c2 := hn.c16; rw [el] at c1; rw [er] at c2; simp only [ptr_some] at c1 c2
  have c3 := ht.c13; have c4 := hs.c13; have c5 := ht.c15; have c6 := ht.c16; rw [kl] at c5; rw [kr] at c6; simp only [ptr_some] at c5 c6
  have c7 := hk.c13; have c8 := hg.c13
  have t1 : decide (yt.high < ys.high) = false := by simp; omega
  have v1 : IntKind.i64.wrap (ys.high + 1) = ys.high + 1 := wrap_in (by omega) (by omega)
  have t2 : decide (yt.high ≤ ys.high + 1) = false := by simp; omega
  have t3 : decide (yg.high < yk.high) = true := by simp; omega
  have HN : Hid (NodeAt w n x ∧ NodeAt w tb yt ∧ NodeAt w sb ys ∧ NodeAt w kb yk ∧ NodeAt w gb yg ∧ Arnd w t fat lv c n) := ⟨hn, ht, hs, hk, hg, ha⟩
  have HU : Hid (x.up = upOf c ∧ (n :: tb :: sb :: kb :: gb :: t :: cblocks c).Nodup) := ⟨hu, nd⟩
  clear hn ht hs hk hg ha el er kl kr hu nd
  go_enter Tryz.func116, Tryz.ntmps116
  go_wp2_with fail
  go_quiet (fail)
  generalize hw0 : w.drewN nq = w0
  have o0 : Hid (Only [] w w0) := hw0 ▸ Only.drewN w nq
  have c3 : w0.cell? ⟨tb, 13, none⟩ = some (.int .i64 yt.high) := hw0 ▸ c3
  have c4 : w0.cell? ⟨sb, 13, none⟩ = some (.int .i64 ys.high) := hw0 ▸ c4
  have c5 : w0.cell? ⟨tb, 15, none⟩ = some (.pointer (some ⟨gb, 0, none⟩)) := hw0 ▸ c5
  have c6 : w0.cell? ⟨tb, 16, none⟩ = some (.pointer (some ⟨kb, 0, none⟩)) := hw0 ▸ c6
  have c7 : w0.cell? ⟨kb, 13, none⟩ = some (.int .i64 yk.high) := hw0 ▸ c7
  have c8 : w0.cell? ⟨gb, 13, none⟩ = some (.int .i64 yg.high) := hw0 ▸ c8
  clear hw0 c1 c2
  go_wp2_with fail
  go_quiet (fail)
  generalize hw1 : w0.drewN _ = w1
  have o1 : Hid (Only [] w w1) := hw1 ▸ o0.out.trans (Only.drewN w0 _)
  have c3 : w1.cell? ⟨tb, 13, none⟩ = some (.int .i64 yt.high) := hw1 ▸ c3
  have c4 : w1.cell? ⟨sb, 13, none⟩ = some (.int .i64 ys.high) := hw1 ▸ c4
  have c5 : w1.cell? ⟨tb, 15, none⟩ = some (.pointer (some ⟨gb, 0, none⟩)) := hw1 ▸ c5
  have c6 : w1.cell? ⟨tb, 16, none⟩ = some (.pointer (some ⟨kb, 0, none⟩)) := hw1 ▸ c6
  have c7 : w1.cell? ⟨kb, 13, none⟩ = some (.int .i64 yk.high) := hw1 ▸ c7
  have c8 : w1.cell? ⟨gb, 13, none⟩ = some (.int .i64 yg.high) := hw1 ▸ c8
  clear hw1 o0
  go_wp2_with fail
  go_quiet (fail)
  generalize hw2 : w1.drewN _ = w2
  have o2 : Hid (Only [] w w2) := hw2 ▸ o1.out.trans (Only.drewN w1 _)
  have c5 : w2.cell? ⟨tb, 15, none⟩ = some (.pointer (some ⟨gb, 0, none⟩)) := hw2 ▸ c5
  have c6 : w2.cell? ⟨tb, 16, none⟩ = some (.pointer (some ⟨kb, 0, none⟩)) := hw2 ▸ c6
  have c7 : w2.cell? ⟨kb, 13, none⟩ = some (.int .i64 yk.high) := hw2 ▸ c7
  have c8 : w2.cell? ⟨gb, 13, none⟩ = some (.int .i64 yg.high) := hw2 ▸ c8
  clear hw2 o1
  go_wp2_with fail
  go_quiet (fail)
  generalize hw3 : w2.drewN _ = w3
  have o3 : Hid (Only [] w w3) := hw3 ▸ o2.out.trans (Only.drewN w2 _)
  have c7 : w3.cell? ⟨kb, 13, none⟩ = some (.int .i64 yk.high) := hw3 ▸ c7
  have c8 : w3.cell? ⟨gb, 13, none⟩ = some (.int .i64 yg.high) := hw3 ▸ c8
  clear hw3 o2
  go_wp2_with fail
  go_quiet (fail)
  generalize hw4 : w3.drewN _ = w4
  have o4 : Hid (Only [] w w4) := hw4 ▸ o3.out.trans (Only.drewN w3 _)
  clear hw4 o3
  go_wp2_with fail
  obtain ⟨hn, ht, hs, hk, hg, ha⟩ := HN.out
  obtain ⟨hu, nd⟩ := HU.out
  simp only [List.nodup_cons, List.mem_cons, not_or] at nd
  obtain ⟨⟨n1, n2, n3, n4, n5, n6⟩, ⟨n7, n8, n9, n10, n11⟩, ⟨n12, n13, n14, n15⟩, ⟨n16, n17, n18⟩, ⟨n19, n20⟩, n21, n22⟩ := nd
  have hd := headOf_mem t c
  have dn : n ≠ headOf t c := fun e => by rw [← e] at hd; simp only [List.mem_cons] at hd; rcases hd with q | q; exact n5 q; exact n6 q
  have ds : sb ≠ headOf t c := fun e => by rw [← e] at hd; simp only [List.mem_cons] at hd; rcases hd with q | q; exact n14 q; exact n15 q
  have dk : kb ≠ headOf t c := fun e => by rw [← e] at hd; simp only [List.mem_cons] at hd; rcases hd with q | q; exact n17 q; exact n18 q
  have dg : gb ≠ headOf t c := fun e => by rw [← e] at hd; simp only [List.mem_cons] at hd; rcases hd with q | q; exact n19 q; exact n20 q
  have far4 : ∀ b ∈ t :: cblocks c, b ∉ ([n, sb, gb] : List Nat) ∧ b ∉ ([tb, n, kb] : List Nat) := by
    intro b hb
    simp only [List.mem_cons] at hb
    simp only [List.mem_cons, List.not_mem_nil, or_false, not_or]
    rcases hb with rfl | hb
    · exact ⟨⟨Ne.symm n5, Ne.symm n14, Ne.symm n19⟩, Ne.symm n10, Ne.symm n5, Ne.symm n17⟩
    · exact ⟨⟨fun e => n6 (e ▸ hb), fun e => n15 (e ▸ hb), fun e => n20 (e ▸ hb)⟩, fun e => n11 (e ▸ hb), fun e => n6 (e ▸ hb), fun e => n18 (e ▸ hb)⟩
  refine (replace_calls t n tb x yt fat lv c w4 (Ne.symm n1) (by simp [n10, n11]) (by simp [n5, n6]) (by simp [n21, n22]) (o4.out.node (by simp) hn) hu (o4.out.node (by simp) ht) (ha.only o4.out (by simp))).mono ?_
  rintro e w5 ⟨rfl, ht5, ha5, o5⟩
  have hn5 := o5.node (by simp [n1, dn]) (o4.out.node (by simp) hn)
  have hs5 := o5.node (by simp [Ne.symm n7, ds]) (o4.out.node (by simp) hs)
  have hk5 := o5.node (by simp [Ne.symm n8, dk]) (o4.out.node (by simp) hk)
  have hg5 := o5.node (by simp [Ne.symm n9, dg]) (o4.out.node (by simp) hg)
  have H5 : Hid (NodeAt w5 tb { yt with up := upOf c } ∧ Arnd w5 t fat lv c tb ∧ NodeAt w5 n x ∧ NodeAt w5 sb ys ∧ NodeAt w5 kb yk ∧ NodeAt w5 gb yg ∧ Only [tb, headOf t c] w w5) := ⟨ht5, ha5, hn5, hs5, hk5, hg5, (o4.out.mono (by simp)).trans o5⟩
  clear ht5 ha5 hn5 hs5 hk5 hg5 o5 o4 hn ht hs hk hg ha HN
  go_wp2_with fail
  obtain ⟨ht5, ha5, hn5, hs5, hk5, hg5, o5⟩ := H5.out
  refine (join_calls n sb gb x ys yg w5 (Ne.symm n2) (Ne.symm n4) n13 hn5 hs5 hg5 b1 (by omega) b5 (by omega)).mono ?_
  rintro e w6 ⟨rfl, hn6, hs6, hg6, o6⟩
  have ht6 := o6.node (by simp [Ne.symm n1, n7, n9]) ht5
  have hk6 := o6.node (by simp [Ne.symm n3, Ne.symm n12, n16]) hk5
  have ha6 := ha5.only o6 (fun b hb => (far4 b hb).1)
  have H6 : Hid (NodeAt w6 tb _ ∧ Arnd w6 t fat lv c tb ∧ NodeAt w6 n _ ∧ NodeAt w6 sb _ ∧ NodeAt w6 kb yk ∧ NodeAt w6 gb _ ∧ Only [tb, headOf t c, n, sb, gb] w w6) := ⟨ht6, ha6, hn6, hs6, hk6, hg6, (o5.mono (by simp)).trans (o6.mono (by simp))⟩
  clear ht5 ha5 hn5 hs5 hk5 hg5 o5 H5 ht6 ha6 hn6 hs6 hk6 hg6 o6
  go_wp2_with fail
  obtain ⟨ht6, ha6, hn6, hs6, hk6, hg6, o6⟩ := H6.out
  have hb := hnX_bd b1 b2 b5 b6
  refine (join_calls tb n kb _ _ yk w6 n1 (Ne.symm n8) n3 ht6 hn6 hk6 (show 0 ≤ hnX ys yg from hb.1) (show hnX ys yg ≤ 1000000 by omega) b3 (by omega)).mono ?_
  rintro e w7 ⟨rfl, ht7, hn7, hk7, o7⟩
  have hs7 := o7.node (by simp [Ne.symm n2, Ne.symm n7, n12]) hs6
  have hg7 := o7.node (by simp [Ne.symm n4, Ne.symm n9, Ne.symm n16]) hg6
  have ha7 := ha6.only o7 (fun b hb => (far4 b hb).2)
  have H7 : Hid (NodeAt w7 tb _ ∧ NodeAt w7 n _ ∧ NodeAt w7 sb _ ∧ NodeAt w7 gb _ ∧ NodeAt w7 kb _ ∧ Arnd w7 t fat lv c tb ∧ Only [tb, headOf t c, n, sb, gb, kb] w w7) := ⟨ht7, hn7, hs7, hg7, hk7, ha7, (o6.mono (by simp)).trans (o7.mono (by simp))⟩
  clear ht6 ha6 hn6 hs6 hk6 hg6 o6 H6 ht7 ha7 hn7 hs7 hk7 hg7 o7
  go_wp2_with fail
  go_ret
  exact ⟨rfl, H7.out⟩

set_option maxRecDepth 100000 in
set_option maxHeartbeats 4000000 in
theorem level_turn_rl (t n tb sb kb gb : Nat) (x yt ys yk yg : Nd) (fat : Int) (lv : Option Nat) (c : List Fr) (w : World) (el : x.l = some sb) (er : x.r = some tb) (kl : yt.l = some kb) (kr : yt.r = some gb)
    (hu : x.up = upOf c) (nd : (n :: tb :: sb :: kb :: gb :: t :: cblocks c).Nodup)
    (hn : NodeAt w n x) (ht : NodeAt w tb yt) (hs : NodeAt w sb ys) (hk : NodeAt w kb yk) (hg : NodeAt w gb yg) (ha : Arnd w t fat lv c n)
    (b1 : 0 ≤ ys.high) (b2 : ys.high ≤ 999) (b3 : 0 ≤ yk.high) (b4 : yk.high ≤ 999) (b5 : 0 ≤ yg.high) (b6 : yg.high ≤ 999) (h1 : ys.high + 1 < yt.high) (h2 : ¬ yk.high < yg.high) :
    Calls Tryz.prog 116 #[.pointer (some ⟨t, 0, none⟩), .pointer (some ⟨n, 0, none⟩)] w fun e w' => e = .returned (.pointer (some ⟨tb, 0, none⟩)) ∧
      NodeAt w' tb { yt with up := upOf c, l := some n, r := some kb, room := bothX (rnX ys yg) yk.room, high := 1 + greater (hnX ys yg) yk.high } ∧
      NodeAt w' n { x with up := some tb, l := some sb, r := some gb, room := rnX ys yg, high := hnX ys yg } ∧
      NodeAt w' sb { ys with up := some n } ∧ NodeAt w' gb { yg with up := some n } ∧ NodeAt w' kb { yk with up := some tb } ∧ Arnd w' t fat lv c tb ∧ Only [tb, headOf t c, n, sb, gb, kb] w w' := by
  have c1 := hn.c15; have c2 := hn.c16; rw [el] at c1; rw [er] at c2; simp only [ptr_some] at c1 c2
  have c3 := ht.c13; have c4 := hs.c13; have c5 := ht.c15; have c6 := ht.c16; rw [kl] at c5; rw [kr] at c6; simp only [ptr_some] at c5 c6
  have c7 := hk.c13; have c8 := hg.c13
  have t1 : decide (ys.high < yt.high) = true := by simp; omega
  have v1 : IntKind.i64.wrap (ys.high + 1) = ys.high + 1 := wrap_in (by omega) (by omega)
  have t2 : decide (yt.high ≤ ys.high + 1) = false := by simp; omega
  have t3 : decide (yk.high < yg.high) = false := by simp; omega
  have HN : Hid (NodeAt w n x ∧ NodeAt w tb yt ∧ NodeAt w sb ys ∧ NodeAt w kb yk ∧ NodeAt w gb yg ∧ Arnd w t fat lv c n) := ⟨hn, ht, hs, hk, hg, ha⟩
  have HU : Hid (x.up = upOf c ∧ (n :: tb :: sb :: kb :: gb :: t :: cblocks c).Nodup) := ⟨hu, nd⟩
  clear hn ht hs hk hg ha el er kl kr hu nd
  go_enter Tryz.func116, Tryz.ntmps116
  go_wp2_with fail
  go_quiet (fail)
  generalize hw0 : w.drewN nq = w0
  have o0 : Hid (Only [] w w0) := hw0 ▸ Only.drewN w nq
  have c3 : w0.cell? ⟨tb, 13, none⟩ = some (.int .i64 yt.high) := hw0 ▸ c3
  have c4 : w0.cell? ⟨sb, 13, none⟩ = some (.int .i64 ys.high) := hw0 ▸ c4
  have c5 : w0.cell? ⟨tb, 15, none⟩ = some (.pointer (some ⟨kb, 0, none⟩)) := hw0 ▸ c5
  have c6 : w0.cell? ⟨tb, 16, none⟩ = some (.pointer (some ⟨gb, 0, none⟩)) := hw0 ▸ c6
  have c7 : w0.cell? ⟨kb, 13, none⟩ = some (.int .i64 yk.high) := hw0 ▸ c7
  have c8 : w0.cell? ⟨gb, 13, none⟩ = some (.int .i64 yg.high) := hw0 ▸ c8
  clear hw0 c1 c2
  go_wp2_with fail
  go_quiet (fail)
  generalize hw1 : w0.drewN _ = w1
  have o1 : Hid (Only [] w w1) := hw1 ▸ o0.out.trans (Only.drewN w0 _)
  have c3 : w1.cell? ⟨tb, 13, none⟩ = some (.int .i64 yt.high) := hw1 ▸ c3
  have c4 : w1.cell? ⟨sb, 13, none⟩ = some (.int .i64 ys.high) := hw1 ▸ c4
  have c5 : w1.cell? ⟨tb, 15, none⟩ = some (.pointer (some ⟨kb, 0, none⟩)) := hw1 ▸ c5
  have c6 : w1.cell? ⟨tb, 16, none⟩ = some (.pointer (some ⟨gb, 0, none⟩)) := hw1 ▸ c6
  have c7 : w1.cell? ⟨kb, 13, none⟩ = some (.int .i64 yk.high) := hw1 ▸ c7
  have c8 : w1.cell? ⟨gb, 13, none⟩ = some (.int .i64 yg.high) := hw1 ▸ c8
  clear hw1 o0
  go_wp2_with fail
  go_quiet (fail)
  generalize hw2 : w1.drewN _ = w2
  have o2 : Hid (Only [] w w2) := hw2 ▸ o1.out.trans (Only.drewN w1 _)
  have c5 : w2.cell? ⟨tb, 15, none⟩ = some (.pointer (some ⟨kb, 0, none⟩)) := hw2 ▸ c5
  have c6 : w2.cell? ⟨tb, 16, none⟩ = some (.pointer (some ⟨gb, 0, none⟩)) := hw2 ▸ c6
  have c7 : w2.cell? ⟨kb, 13, none⟩ = some (.int .i64 yk.high) := hw2 ▸ c7
  have c8 : w2.cell? ⟨gb, 13, none⟩ = some (.int .i64 yg.high) := hw2 ▸ c8
  clear hw2 o1
  go_wp2_with fail
  go_quiet (fail)
  generalize hw3 : w2.drewN _ = w3
  have o3 : Hid (Only [] w w3) := hw3 ▸ o2.out.trans (Only.drewN w2 _)
  have c7 : w3.cell? ⟨kb, 13, none⟩ = some (.int .i64 yk.high) := hw3 ▸ c7
  have c8 : w3.cell? ⟨gb, 13, none⟩ = some (.int .i64 yg.high) := hw3 ▸ c8
  clear hw3 o2
  go_wp2_with fail
  go_quiet (fail)
  generalize hw4 : w3.drewN _ = w4
  have o4 : Hid (Only [] w w4) := hw4 ▸ o3.out.trans (Only.drewN w3 _)
  clear hw4 o3
  go_wp2_with fail
  obtain ⟨hn, ht, hs, hk, hg, ha⟩ := HN.out
  obtain ⟨hu, nd⟩ := HU.out
  simp only [List.nodup_cons, List.mem_cons, not_or] at nd
  obtain ⟨⟨n1, n2, n3, n4, n5, n6⟩, ⟨n7, n8, n9, n10, n11⟩, ⟨n12, n13, n14, n15⟩, ⟨n16, n17, n18⟩, ⟨n19, n20⟩, n21, n22⟩ := nd
  have hd := headOf_mem t c
  have dn : n ≠ headOf t c := fun e => by rw [← e] at hd; simp only [List.mem_cons] at hd; rcases hd with q | q; exact n5 q; exact n6 q
  have ds : sb ≠ headOf t c := fun e => by rw [← e] at hd; simp only [List.mem_cons] at hd; rcases hd with q | q; exact n14 q; exact n15 q
  have dk : kb ≠ headOf t c := fun e => by rw [← e] at hd; simp only [List.mem_cons] at hd; rcases hd with q | q; exact n17 q; exact n18 q
  have dg : gb ≠ headOf t c := fun e => by rw [← e] at hd; simp only [List.mem_cons] at hd; rcases hd with q | q; exact n19 q; exact n20 q
  have far4 : ∀ b ∈ t :: cblocks c, b ∉ ([n, sb, gb] : List Nat) ∧ b ∉ ([tb, n, kb] : List Nat) := by
    intro b hb
    simp only [List.mem_cons] at hb
    simp only [List.mem_cons, List.not_mem_nil, or_false, not_or]
    rcases hb with rfl | hb
    · exact ⟨⟨Ne.symm n5, Ne.symm n14, Ne.symm n19⟩, Ne.symm n10, Ne.symm n5, Ne.symm n17⟩
    · exact ⟨⟨fun e => n6 (e ▸ hb), fun e => n15 (e ▸ hb), fun e => n20 (e ▸ hb)⟩, fun e => n11 (e ▸ hb), fun e => n6 (e ▸ hb), fun e => n18 (e ▸ hb)⟩
  refine (replace_calls t n tb x yt fat lv c w4 (Ne.symm n1) (by simp [n10, n11]) (by simp [n5, n6]) (by simp [n21, n22]) (o4.out.node (by simp) hn) hu (o4.out.node (by simp) ht) (ha.only o4.out (by simp))).mono ?_
  rintro e w5 ⟨rfl, ht5, ha5, o5⟩
  have hn5 := o5.node (by simp [n1, dn]) (o4.out.node (by simp) hn)
  have hs5 := o5.node (by simp [Ne.symm n7, ds]) (o4.out.node (by simp) hs)
  have hk5 := o5.node (by simp [Ne.symm n8, dk]) (o4.out.node (by simp) hk)
  have hg5 := o5.node (by simp [Ne.symm n9, dg]) (o4.out.node (by simp) hg)
  have H5 : Hid (NodeAt w5 tb { yt with up := upOf c } ∧ Arnd w5 t fat lv c tb ∧ NodeAt w5 n x ∧ NodeAt w5 sb ys ∧ NodeAt w5 kb yk ∧ NodeAt w5 gb yg ∧ Only [tb, headOf t c] w w5) := ⟨ht5, ha5, hn5, hs5, hk5, hg5, (o4.out.mono (by simp)).trans o5⟩
  clear ht5 ha5 hn5 hs5 hk5 hg5 o5 o4 hn ht hs hk hg ha HN
  go_wp2_with fail
  obtain ⟨ht5, ha5, hn5, hs5, hk5, hg5, o5⟩ := H5.out
  refine (join_calls n sb gb x ys yg w5 (Ne.symm n2) (Ne.symm n4) n13 hn5 hs5 hg5 b1 (by omega) b5 (by omega)).mono ?_
  rintro e w6 ⟨rfl, hn6, hs6, hg6, o6⟩
  have ht6 := o6.node (by simp [Ne.symm n1, n7, n9]) ht5
  have hk6 := o6.node (by simp [Ne.symm n3, Ne.symm n12, n16]) hk5
  have ha6 := ha5.only o6 (fun b hb => (far4 b hb).1)
  have H6 : Hid (NodeAt w6 tb _ ∧ Arnd w6 t fat lv c tb ∧ NodeAt w6 n _ ∧ NodeAt w6 sb _ ∧ NodeAt w6 kb yk ∧ NodeAt w6 gb _ ∧ Only [tb, headOf t c, n, sb, gb] w w6) := ⟨ht6, ha6, hn6, hs6, hk6, hg6, (o5.mono (by simp)).trans (o6.mono (by simp))⟩
  clear ht5 ha5 hn5 hs5 hk5 hg5 o5 H5 ht6 ha6 hn6 hs6 hk6 hg6 o6
  go_wp2_with fail
  obtain ⟨ht6, ha6, hn6, hs6, hk6, hg6, o6⟩ := H6.out
  have hb := hnX_bd b1 b2 b5 b6
  refine (join_calls tb n kb _ _ yk w6 n1 (Ne.symm n8) n3 ht6 hn6 hk6 (show 0 ≤ hnX ys yg from hb.1) (show hnX ys yg ≤ 1000000 by omega) b3 (by omega)).mono ?_
  rintro e w7 ⟨rfl, ht7, hn7, hk7, o7⟩
  have hs7 := o7.node (by simp [Ne.symm n2, Ne.symm n7, n12]) hs6
  have hg7 := o7.node (by simp [Ne.symm n4, Ne.symm n9, Ne.symm n16]) hg6
  have ha7 := ha6.only o7 (fun b hb => (far4 b hb).2)
  have H7 : Hid (NodeAt w7 tb _ ∧ NodeAt w7 n _ ∧ NodeAt w7 sb _ ∧ NodeAt w7 gb _ ∧ NodeAt w7 kb _ ∧ Arnd w7 t fat lv c tb ∧ Only [tb, headOf t c, n, sb, gb, kb] w w7) := ⟨ht7, hn7, hs7, hg7, hk7, ha7, (o6.mono (by simp)).trans (o7.mono (by simp))⟩
  clear ht6 ha6 hn6 hs6 hk6 hg6 o6 H6 ht7 ha7 hn7 hs7 hk7 hg7 o7
  go_wp2_with fail
  go_ret
  exact ⟨rfl, H7.out⟩

set_option maxRecDepth 100000 in
set_option maxHeartbeats 4000000 in
theorem level_turn_rr (t n tb sb kb gb : Nat) (x yt ys yk yg : Nd) (fat : Int) (lv : Option Nat) (c : List Fr) (w : World) (el : x.l = some sb) (er : x.r = some tb) (kl : yt.l = some gb) (kr : yt.r = some kb)
    (hu : x.up = upOf c) (nd : (n :: tb :: sb :: kb :: gb :: t :: cblocks c).Nodup)
    (hn : NodeAt w n x) (ht : NodeAt w tb yt) (hs : NodeAt w sb ys) (hk : NodeAt w kb yk) (hg : NodeAt w gb yg) (ha : Arnd w t fat lv c n)
    (b1 : 0 ≤ ys.high) (b2 : ys.high ≤ 999) (b3 : 0 ≤ yk.high) (b4 : yk.high ≤ 999) (b5 : 0 ≤ yg.high) (b6 : yg.high ≤ 999) (h1 : ys.high + 1 < yt.high) (h2 : yg.high < yk.high) :
    Calls Tryz.prog 116 #[.pointer (some ⟨t, 0, none⟩), .pointer (some ⟨n, 0, none⟩)] w fun e w' => e = .returned (.pointer (some ⟨tb, 0, none⟩)) ∧
      NodeAt w' tb { yt with up := upOf c, l := some n, r := some kb, room := bothX (rnX ys yg) yk.room, high := 1 + greater (hnX ys yg) yk.high } ∧
      NodeAt w' n { x with up := some tb, l := some sb, r := some gb, room := rnX ys yg, high := hnX ys yg } ∧
      NodeAt w' sb { ys with up := some n } ∧ NodeAt w' gb { yg with up := some n } ∧ NodeAt w' kb { yk with up := some tb } ∧ Arnd w' t fat lv c tb ∧ Only [tb, headOf t c, n, sb, gb, kb] w w' := by
  have c1 := hn.c15; have c2 := hn.c16; rw [el] at c1; rw [er] at c2; simp only [ptr_some] at c1 c2
  have c3 := ht.c13; have c4 := hs.c13; have c5 := ht.c15; have c6 := ht.c16; rw [kl] at c5; rw [kr] at c6; simp only [ptr_some] at c5 c6
  have c7 := hk.c13; have c8 := hg.c13
  have t1 : decide (ys.high < yt.high) = true := by simp; omega
  have v1 : IntKind.i64.wrap (ys.high + 1) = ys.high + 1 := wrap_in (by omega) (by omega)
  have t2 : decide (yt.high ≤ ys.high + 1) = false := by simp; omega
  have t3 : decide (yg.high < yk.high) = true := by simp; omega
  have HN : Hid (NodeAt w n x ∧ NodeAt w tb yt ∧ NodeAt w sb ys ∧ NodeAt w kb yk ∧ NodeAt w gb yg ∧ Arnd w t fat lv c n) := ⟨hn, ht, hs, hk, hg, ha⟩
  have HU : Hid (x.up = upOf c ∧ (n :: tb :: sb :: kb :: gb :: t :: cblocks c).Nodup) := ⟨hu, nd⟩
  clear hn ht hs hk hg ha el er kl kr hu nd
  go_enter Tryz.func116, Tryz.ntmps116
  go_wp2_with fail
  go_quiet (fail)
  generalize hw0 : w.drewN nq = w0
  have o0 : Hid (Only [] w w0) := hw0 ▸ Only.drewN w nq
  have c3 : w0.cell? ⟨tb, 13, none⟩ = some (.int .i64 yt.high) := hw0 ▸ c3
  have c4 : w0.cell? ⟨sb, 13, none⟩ = some (.int .i64 ys.high) := hw0 ▸ c4
  have c5 : w0.cell? ⟨tb, 15, none⟩ = some (.pointer (some ⟨gb, 0, none⟩)) := hw0 ▸ c5
  have c6 : w0.cell? ⟨tb, 16, none⟩ = some (.pointer (some ⟨kb, 0, none⟩)) := hw0 ▸ c6
  have c7 : w0.cell? ⟨kb, 13, none⟩ = some (.int .i64 yk.high) := hw0 ▸ c7
  have c8 : w0.cell? ⟨gb, 13, none⟩ = some (.int .i64 yg.high) := hw0 ▸ c8
  clear hw0 c1 c2
  go_wp2_with fail
  go_quiet (fail)
  generalize hw1 : w0.drewN _ = w1
  have o1 : Hid (Only [] w w1) := hw1 ▸ o0.out.trans (Only.drewN w0 _)
  have c3 : w1.cell? ⟨tb, 13, none⟩ = some (.int .i64 yt.high) := hw1 ▸ c3
  have c4 : w1.cell? ⟨sb, 13, none⟩ = some (.int .i64 ys.high) := hw1 ▸ c4
  have c5 : w1.cell? ⟨tb, 15, none⟩ = some (.pointer (some ⟨gb, 0, none⟩)) := hw1 ▸ c5
  have c6 : w1.cell? ⟨tb, 16, none⟩ = some (.pointer (some ⟨kb, 0, none⟩)) := hw1 ▸ c6
  have c7 : w1.cell? ⟨kb, 13, none⟩ = some (.int .i64 yk.high) := hw1 ▸ c7
  have c8 : w1.cell? ⟨gb, 13, none⟩ = some (.int .i64 yg.high) := hw1 ▸ c8
  clear hw1 o0
  go_wp2_with fail
  go_quiet (fail)
  generalize hw2 : w1.drewN _ = w2
  have o2 : Hid (Only [] w w2) := hw2 ▸ o1.out.trans (Only.drewN w1 _)
  have c5 : w2.cell? ⟨tb, 15, none⟩ = some (.pointer (some ⟨gb, 0, none⟩)) := hw2 ▸ c5
  have c6 : w2.cell? ⟨tb, 16, none⟩ = some (.pointer (some ⟨kb, 0, none⟩)) := hw2 ▸ c6
  have c7 : w2.cell? ⟨kb, 13, none⟩ = some (.int .i64 yk.high) := hw2 ▸ c7
  have c8 : w2.cell? ⟨gb, 13, none⟩ = some (.int .i64 yg.high) := hw2 ▸ c8
  clear hw2 o1
  go_wp2_with fail
  go_quiet (fail)
  generalize hw3 : w2.drewN _ = w3
  have o3 : Hid (Only [] w w3) := hw3 ▸ o2.out.trans (Only.drewN w2 _)
  have c7 : w3.cell? ⟨kb, 13, none⟩ = some (.int .i64 yk.high) := hw3 ▸ c7
  have c8 : w3.cell? ⟨gb, 13, none⟩ = some (.int .i64 yg.high) := hw3 ▸ c8
  clear hw3 o2
  go_wp2_with fail
  go_quiet (fail)
  generalize hw4 : w3.drewN _ = w4
  have o4 : Hid (Only [] w w4) := hw4 ▸ o3.out.trans (Only.drewN w3 _)
  clear hw4 o3
  go_wp2_with fail
  obtain ⟨hn, ht, hs, hk, hg, ha⟩ := HN.out
  obtain ⟨hu, nd⟩ := HU.out
  simp only [List.nodup_cons, List.mem_cons, not_or] at nd
  obtain ⟨⟨n1, n2, n3, n4, n5, n6⟩, ⟨n7, n8, n9, n10, n11⟩, ⟨n12, n13, n14, n15⟩, ⟨n16, n17, n18⟩, ⟨n19, n20⟩, n21, n22⟩ := nd
  have hd := headOf_mem t c
  have dn : n ≠ headOf t c := fun e => by rw [← e] at hd; simp only [List.mem_cons] at hd; rcases hd with q | q; exact n5 q; exact n6 q
  have ds : sb ≠ headOf t c := fun e => by rw [← e] at hd; simp only [List.mem_cons] at hd; rcases hd with q | q; exact n14 q; exact n15 q
  have dk : kb ≠ headOf t c := fun e => by rw [← e] at hd; simp only [List.mem_cons] at hd; rcases hd with q | q; exact n17 q; exact n18 q
  have dg : gb ≠ headOf t c := fun e => by rw [← e] at hd; simp only [List.mem_cons] at hd; rcases hd with q | q; exact n19 q; exact n20 q
  have far4 : ∀ b ∈ t :: cblocks c, b ∉ ([n, sb, gb] : List Nat) ∧ b ∉ ([tb, n, kb] : List Nat) := by
    intro b hb
    simp only [List.mem_cons] at hb
    simp only [List.mem_cons, List.not_mem_nil, or_false, not_or]
    rcases hb with rfl | hb
    · exact ⟨⟨Ne.symm n5, Ne.symm n14, Ne.symm n19⟩, Ne.symm n10, Ne.symm n5, Ne.symm n17⟩
    · exact ⟨⟨fun e => n6 (e ▸ hb), fun e => n15 (e ▸ hb), fun e => n20 (e ▸ hb)⟩, fun e => n11 (e ▸ hb), fun e => n6 (e ▸ hb), fun e => n18 (e ▸ hb)⟩
  refine (replace_calls t n tb x yt fat lv c w4 (Ne.symm n1) (by simp [n10, n11]) (by simp [n5, n6]) (by simp [n21, n22]) (o4.out.node (by simp) hn) hu (o4.out.node (by simp) ht) (ha.only o4.out (by simp))).mono ?_
  rintro e w5 ⟨rfl, ht5, ha5, o5⟩
  have hn5 := o5.node (by simp [n1, dn]) (o4.out.node (by simp) hn)
  have hs5 := o5.node (by simp [Ne.symm n7, ds]) (o4.out.node (by simp) hs)
  have hk5 := o5.node (by simp [Ne.symm n8, dk]) (o4.out.node (by simp) hk)
  have hg5 := o5.node (by simp [Ne.symm n9, dg]) (o4.out.node (by simp) hg)
  have H5 : Hid (NodeAt w5 tb { yt with up := upOf c } ∧ Arnd w5 t fat lv c tb ∧ NodeAt w5 n x ∧ NodeAt w5 sb ys ∧ NodeAt w5 kb yk ∧ NodeAt w5 gb yg ∧ Only [tb, headOf t c] w w5) := ⟨ht5, ha5, hn5, hs5, hk5, hg5, (o4.out.mono (by simp)).trans o5⟩
  clear ht5 ha5 hn5 hs5 hk5 hg5 o5 o4 hn ht hs hk hg ha HN
  go_wp2_with fail
  obtain ⟨ht5, ha5, hn5, hs5, hk5, hg5, o5⟩ := H5.out
  refine (join_calls n sb gb x ys yg w5 (Ne.symm n2) (Ne.symm n4) n13 hn5 hs5 hg5 b1 (by omega) b5 (by omega)).mono ?_
  rintro e w6 ⟨rfl, hn6, hs6, hg6, o6⟩
  have ht6 := o6.node (by simp [Ne.symm n1, n7, n9]) ht5
  have hk6 := o6.node (by simp [Ne.symm n3, Ne.symm n12, n16]) hk5
  have ha6 := ha5.only o6 (fun b hb => (far4 b hb).1)
  have H6 : Hid (NodeAt w6 tb _ ∧ Arnd w6 t fat lv c tb ∧ NodeAt w6 n _ ∧ NodeAt w6 sb _ ∧ NodeAt w6 kb yk ∧ NodeAt w6 gb _ ∧ Only [tb, headOf t c, n, sb, gb] w w6) := ⟨ht6, ha6, hn6, hs6, hk6, hg6, (o5.mono (by simp)).trans (o6.mono (by simp))⟩
  clear ht5 ha5 hn5 hs5 hk5 hg5 o5 H5 ht6 ha6 hn6 hs6 hk6 hg6 o6
  go_wp2_with fail
  obtain ⟨ht6, ha6, hn6, hs6, hk6, hg6, o6⟩ := H6.out
  have hb := hnX_bd b1 b2 b5 b6
  refine (join_calls tb n kb _ _ yk w6 n1 (Ne.symm n8) n3 ht6 hn6 hk6 (show 0 ≤ hnX ys yg from hb.1) (show hnX ys yg ≤ 1000000 by omega) b3 (by omega)).mono ?_
  rintro e w7 ⟨rfl, ht7, hn7, hk7, o7⟩
  have hs7 := o7.node (by simp [Ne.symm n2, Ne.symm n7, n12]) hs6
  have hg7 := o7.node (by simp [Ne.symm n4, Ne.symm n9, Ne.symm n16]) hg6
  have ha7 := ha6.only o7 (fun b hb => (far4 b hb).2)
  have H7 : Hid (NodeAt w7 tb _ ∧ NodeAt w7 n _ ∧ NodeAt w7 sb _ ∧ NodeAt w7 gb _ ∧ NodeAt w7 kb _ ∧ Arnd w7 t fat lv c tb ∧ Only [tb, headOf t c, n, sb, gb, kb] w w7) := ⟨ht7, hn7, hs7, hg7, hk7, ha7, (o6.mono (by simp)).trans (o7.mono (by simp))⟩
  clear ht6 ha6 hn6 hs6 hk6 hg6 o6 H6 ht7 ha7 hn7 hs7 hk7 hg7 o7
  go_wp2_with fail
  go_ret
  exact ⟨rfl, H7.out⟩
end Go.Proofs.YtbfkloclmlnahabGreat
