/- geom.reaches, ballTouches, boxesTouch answer what chapter 2 says: whatever the boxes. -/
import Derived.Test.YthhpcfnoiooopaaGeo14
import Derived.Test.YthhpcfnoiooopaaGeo10
import Derived.Test.YthhpcfnoiooopaaVec6
namespace Go.Proofs.Ythhpcfnoiooopaa
open Go.ChangeShapes Go.WideShapes Go.ChangeAt Go.RowKit
set_option linter.unusedSimpArgs false

/-- A touch: the way, how deep, and whether there is one. -/
structure T where
  x : Int
  y : Int
  z : Int
  d : Int
  ok : Bool
def noT : T := ⟨0, 0, 0, 0, false⟩
def unitT (x y z d : Int) : T := ⟨unitPart (long x y z) 0 x, unitPart (long x y z) 65536 y, unitPart (long x y z) 0 z, d, true⟩
def reachT (s x y z : Int) : T := if sub s (long x y z) ≤ 0 then noT else unitT x y z (sub s (long x y z))
theorem reachT_no {s x y z : Int} (h : sub s (long x y z) ≤ 0) : reachT s x y z = noT := by unfold reachT; rw [if_pos h]
theorem reachT_yes {s x y z : Int} (h : ¬ sub s (long x y z) ≤ 0) : reachT s x y z = unitT x y z (sub s (long x y z)) := by unfold reachT; rw [if_neg h]
theorem reaches_calls (s x y z : Int) (w : World) : Calls Try.prog 82 #[.int .i64 s, .agg #[.int .i64 x, .int .i64 y, .int .i64 z]] w fun e w' => e = .returned (.tuple #[.agg #[.int .i64 ((reachT s x y z).x), .int .i64 ((reachT s x y z).y), .int .i64 ((reachT s x y z).z)], .int .i64 ((reachT s x y z).d), .bool (reachT s x y z).ok]) ∧ Kept w w' := by
  by_cases h : sub s (long x y z) ≤ 0
  · have hd : decide (sub s (long x y z) ≤ 0) = true := decide_eq_true h
    rw [reachT_no h]
    clear h
    go_enter Try.func82, Try.ntmps82
    go_wp2_with fail
    refine (long_calls _ _ _ _).mono ?_; rintro e w1 ⟨rfl, k1⟩
    go_wp2_with fail
    refine (sub_calls _ _ _).mono ?_; rintro e w2 ⟨rfl, k2⟩
    have c0 : w2.cell? ⟨w.heap.size + 1, 0, none⟩ = some (.int .i64 0) := kept_cell k2 (kept_cell k1 (by go_simp))
    have f0 : w2.frozen? ⟨w.heap.size + 1, 0, none⟩ = false := kept_frozen k2 (kept_frozen k1 (by go_simp))
    have c1 : w2.cell? ⟨w.heap.size + 1, 1, none⟩ = some (.int .i64 0) := kept_cell k2 (kept_cell k1 (by go_simp))
    have f1 : w2.frozen? ⟨w.heap.size + 1, 1, none⟩ = false := kept_frozen k2 (kept_frozen k1 (by go_simp))
    have c2 : w2.cell? ⟨w.heap.size + 1, 2, none⟩ = some (.int .i64 0) := kept_cell k2 (kept_cell k1 (by go_simp))
    have f2 : w2.frozen? ⟨w.heap.size + 1, 2, none⟩ = false := kept_frozen k2 (kept_frozen k1 (by go_simp))
    go_wp2
    obtain ⟨e0, e1, e2⟩ := set3_of (v0 := .int .i64 0) (v1 := .int .i64 0) (v2 := .int .i64 0) c0 c1 c2
    exact bodyPost_ret (v := .tuple #[.agg #[.int .i64 0, .int .i64 0, .int .i64 0], .int .i64 0, .bool false]) (by simp [results, Try.results82, go_sem, e0, e1, e2]) rfl ⟨rfl, kept_set3 (((((Kept.refl w).alloc _ _).alloc _ _).trans k1).trans k2) (by omega) _ _ _⟩
  · have hd : decide (sub s (long x y z) ≤ 0) = false := decide_eq_false h
    rw [reachT_yes h]
    clear h
    go_enter Try.func82, Try.ntmps82
    go_wp2_with fail
    refine (long_calls _ _ _ _).mono ?_; rintro e w1 ⟨rfl, k1⟩
    go_wp2_with fail
    refine (sub_calls _ _ _).mono ?_; rintro e w2 ⟨rfl, k2⟩
    have l0 : w2.cell? ⟨w.heap.size, 0, none⟩ = some (.int .i64 x) := kept_cell k2 (kept_cell k1 (by go_simp))
    have l1 : w2.cell? ⟨w.heap.size, 1, none⟩ = some (.int .i64 y) := kept_cell k2 (kept_cell k1 (by go_simp))
    have l2 : w2.cell? ⟨w.heap.size, 2, none⟩ = some (.int .i64 z) := kept_cell k2 (kept_cell k1 (by go_simp))
    go_wp2_with fail
    refine (unit_calls _ _ _ _).mono ?_; rintro e w3 ⟨rfl, k3⟩
    have c0 : w3.cell? ⟨w.heap.size + 1, 0, none⟩ = some (.int .i64 0) := kept_cell k3 (kept_cell k2 (kept_cell k1 (by go_simp)))
    have f0 : w3.frozen? ⟨w.heap.size + 1, 0, none⟩ = false := kept_frozen k3 (kept_frozen k2 (kept_frozen k1 (by go_simp)))
    have c1 : w3.cell? ⟨w.heap.size + 1, 1, none⟩ = some (.int .i64 0) := kept_cell k3 (kept_cell k2 (kept_cell k1 (by go_simp)))
    have f1 : w3.frozen? ⟨w.heap.size + 1, 1, none⟩ = false := kept_frozen k3 (kept_frozen k2 (kept_frozen k1 (by go_simp)))
    have c2 : w3.cell? ⟨w.heap.size + 1, 2, none⟩ = some (.int .i64 0) := kept_cell k3 (kept_cell k2 (kept_cell k1 (by go_simp)))
    have f2 : w3.frozen? ⟨w.heap.size + 1, 2, none⟩ = false := kept_frozen k3 (kept_frozen k2 (kept_frozen k1 (by go_simp)))
    clear l0 l1 l2
    go_wp2
    obtain ⟨e0, e1, e2⟩ := set3_of (v0 := .int .i64 (unitPart (long x y z) 0 x)) (v1 := .int .i64 (unitPart (long x y z) 65536 y)) (v2 := .int .i64 (unitPart (long x y z) 0 z)) c0 c1 c2
    exact bodyPost_ret (v := .tuple #[.agg #[.int .i64 (unitPart (long x y z) 0 x), .int .i64 (unitPart (long x y z) 65536 y), .int .i64 (unitPart (long x y z) 0 z)], .int .i64 (sub s (long x y z)), .bool true]) (by simp [results, Try.results82, go_sem, e0, e1, e2]) rfl ⟨rfl, kept_set3 ((((((Kept.refl w).alloc _ _).alloc _ _).trans k1).trans k2).trans k3) (by omega) _ _ _⟩
def boxesT (a0 a1 a2 a3 a4 a5 b0 b1 b2 b3 b4 b5 : Int) : T := if meetB a0 a1 a2 a3 a4 a5 b0 b1 b2 b3 b4 b5 = true ∧ 0 < (outE a0 a1 a2 a3 a4 a5 b0 b1 b2 b3 b4 b5).d then ⟨(outE a0 a1 a2 a3 a4 a5 b0 b1 b2 b3 b4 b5).x, (outE a0 a1 a2 a3 a4 a5 b0 b1 b2 b3 b4 b5).y, (outE a0 a1 a2 a3 a4 a5 b0 b1 b2 b3 b4 b5).z, (outE a0 a1 a2 a3 a4 a5 b0 b1 b2 b3 b4 b5).d, true⟩ else noT
theorem boxesT_no {a0 a1 a2 a3 a4 a5 b0 b1 b2 b3 b4 b5 : Int} (h : ¬ (meetB a0 a1 a2 a3 a4 a5 b0 b1 b2 b3 b4 b5 = true ∧ 0 < (outE a0 a1 a2 a3 a4 a5 b0 b1 b2 b3 b4 b5).d)) : boxesT a0 a1 a2 a3 a4 a5 b0 b1 b2 b3 b4 b5 = noT := by unfold boxesT; rw [if_neg h]
theorem boxesT_yes {a0 a1 a2 a3 a4 a5 b0 b1 b2 b3 b4 b5 : Int} (h : meetB a0 a1 a2 a3 a4 a5 b0 b1 b2 b3 b4 b5 = true ∧ 0 < (outE a0 a1 a2 a3 a4 a5 b0 b1 b2 b3 b4 b5).d) : boxesT a0 a1 a2 a3 a4 a5 b0 b1 b2 b3 b4 b5 = ⟨(outE a0 a1 a2 a3 a4 a5 b0 b1 b2 b3 b4 b5).x, (outE a0 a1 a2 a3 a4 a5 b0 b1 b2 b3 b4 b5).y, (outE a0 a1 a2 a3 a4 a5 b0 b1 b2 b3 b4 b5).z, (outE a0 a1 a2 a3 a4 a5 b0 b1 b2 b3 b4 b5).d, true⟩ := by unfold boxesT; rw [if_pos h]
def G4o3 (w : World) (b0 b1 : Nat) (v0 v1 v2 v3 : Value) (w' : World) : Prop :=
  Kept w w' ∧
  w'.cell? ⟨b0, 0, none⟩ = some v0 ∧
  w'.cell? ⟨b0, 1, none⟩ = some v1 ∧
  w'.cell? ⟨b0, 2, none⟩ = some v2 ∧
  w'.cell? ⟨b0, 3, none⟩ = some v3 ∧
  w'.cell? ⟨b1, 0, none⟩ = some (cellV w' ⟨b1, 0, none⟩) ∧
  w'.cell? ⟨b1, 1, none⟩ = some (cellV w' ⟨b1, 1, none⟩) ∧
  w'.cell? ⟨b1, 2, none⟩ = some (cellV w' ⟨b1, 2, none⟩) ∧
  w'.frozen? ⟨b1, 0, none⟩ = false ∧
  w'.frozen? ⟨b1, 1, none⟩ = false ∧
  w'.frozen? ⟨b1, 2, none⟩ = false
theorem G4o3.step {w w1 w2 : World} {b0 b1 : Nat} {v0 v1 v2 v3 : Value} (k : Kept w1 w2) (h : G4o3 w b0 b1 v0 v1 v2 v3 w1) : G4o3 w b0 b1 v0 v1 v2 v3 w2 := by
  obtain ⟨h0, h1, h2, h3, h4, h5, h6, h7, h8, h9, h10⟩ := h
  exact ⟨h0.trans k, kept_cell k h1, kept_cell k h2, kept_cell k h3, kept_cell k h4, kept_there k h5, kept_there k h6, kept_there k h7, kept_frozen k h8, kept_frozen k h9, kept_frozen k h10⟩
theorem G4o3.drew {w w1 : World} {b0 b1 : Nat} {v0 v1 v2 v3 : Value} (h : G4o3 w b0 b1 v0 v1 v2 v3 w1) : G4o3 w b0 b1 v0 v1 v2 v3 w1.drew := h.step (Kept.refl _).drew
theorem G4o3.put {w w1 : World} {b0 b1 : Nat} {v0 v1 v2 v3 : Value} (i : Nat) (v : Value) (ho : w.heap.size ≤ b1) (n0 : b0 ≠ b1) (h : G4o3 w b0 b1 v0 v1 v2 v3 w1) : G4o3 w b0 b1 v0 v1 v2 v3 (w1.setCell ⟨b1, i, none⟩ v) := by
  obtain ⟨h0, h1, h2, h3, h4, h5, h6, h7, h8, h9, h10⟩ := h
  exact ⟨h0.setCell (p := ⟨b1, i, none⟩) ho v, (World.cell?_setCell_other _ _ _ _ (fun e => n0 (by injection e with e; exact e.symm))).trans h1, (World.cell?_setCell_other _ _ _ _ (fun e => n0 (by injection e with e; exact e.symm))).trans h2, (World.cell?_setCell_other _ _ _ _ (fun e => n0 (by injection e with e; exact e.symm))).trans h3, (World.cell?_setCell_other _ _ _ _ (fun e => n0 (by injection e with e; exact e.symm))).trans h4, put_there h5, put_there h6, put_there h7, (World.frozen?_setCell _ _ _ _).trans h8, (World.frozen?_setCell _ _ _ _).trans h9, (World.frozen?_setCell _ _ _ _).trans h10⟩

set_option maxHeartbeats 4000000 in
theorem boxesTouch_calls (a0 a1 a2 a3 a4 a5 b0 b1 b2 b3 b4 b5 : Int) (w : World) : Calls Try.prog 84 #[.agg #[.int .i64 a0, .int .i64 a1, .int .i64 a2, .int .i64 a3, .int .i64 a4, .int .i64 a5], .agg #[.int .i64 b0, .int .i64 b1, .int .i64 b2, .int .i64 b3, .int .i64 b4, .int .i64 b5]] w fun e w' => e = .returned (.tuple #[.agg #[.int .i64 ((boxesT a0 a1 a2 a3 a4 a5 b0 b1 b2 b3 b4 b5).x), .int .i64 ((boxesT a0 a1 a2 a3 a4 a5 b0 b1 b2 b3 b4 b5).y), .int .i64 ((boxesT a0 a1 a2 a3 a4 a5 b0 b1 b2 b3 b4 b5).z)], .int .i64 ((boxesT a0 a1 a2 a3 a4 a5 b0 b1 b2 b3 b4 b5).d), .bool (boxesT a0 a1 a2 a3 a4 a5 b0 b1 b2 b3 b4 b5).ok]) ∧ Kept w w' := by
  cases hm : meetB a0 a1 a2 a3 a4 a5 b0 b1 b2 b3 b4 b5 with
  | false =>
    rw [boxesT_no (by rw [hm]; simp)]
    have hE : True := trivial
    go_enter Try.func84, Try.ntmps84
    go_wp2_with fail
    refine (out_calls _ _ _ _ _ _ _ _ _ _ _ _ _).mono ?_; rintro e w1 ⟨rfl, k1⟩
    have HA : G66At w.heap.size (w.heap.size + 1) (.int .i64 a0) (.int .i64 a1) (.int .i64 a2) (.int .i64 a3) (.int .i64 a4) (.int .i64 a5) (.int .i64 b0) (.int .i64 b1) (.int .i64 b2) (.int .i64 b3) (.int .i64 b4) (.int .i64 b5) w1 := G66At.step k1 (by refine ⟨?_, ?_, ?_, ?_, ?_, ?_, ?_, ?_, ?_, ?_, ?_, ?_⟩ <;> go_simp)
    have rc0 : w1.cell? ⟨w.heap.size + 1 + 1, 0, none⟩ = some (.int .i64 0) := kept_cell k1 (by go_simp)
    have rf0 : w1.frozen? ⟨w.heap.size + 1 + 1, 0, none⟩ = false := kept_frozen k1 (by go_simp)
    have rc1 : w1.cell? ⟨w.heap.size + 1 + 1, 1, none⟩ = some (.int .i64 0) := kept_cell k1 (by go_simp)
    have rf1 : w1.frozen? ⟨w.heap.size + 1 + 1, 1, none⟩ = false := kept_frozen k1 (by go_simp)
    have rc2 : w1.cell? ⟨w.heap.size + 1 + 1, 2, none⟩ = some (.int .i64 0) := kept_cell k1 (by go_simp)
    have rf2 : w1.frozen? ⟨w.heap.size + 1 + 1, 2, none⟩ = false := kept_frozen k1 (by go_simp)
    have hk1 : Kept w w1 := ((((Kept.refl w).alloc _ _).alloc _ _).alloc _ _).trans k1
    have hlt : w.heap.size + 1 + 1 + 1 ≤ w1.heap.size := by have := k1.below.size; simp at this; omega
    generalize hEE : outE a0 a1 a2 a3 a4 a5 b0 b1 b2 b3 b4 b5 = E at hE ⊢
    have HE : Aside (outE a0 a1 a2 a3 a4 a5 b0 b1 b2 b3 b4 b5 = E) := hEE
    clear k1 hEE
    obtain ⟨t0, t1, t2, t3, t4, t5, t6, t7, t8, t9, t10, t11⟩ := HA
    have l0 := later t0
    have l1 := later t1
    have l2 := later t2
    have l3 := later t3
    have l4 := later t4
    have l5 := later t5
    have l6 := later t6
    have l7 := later t7
    have l8 := later t8
    have l9 := later t9
    have l10 := later t10
    have l11 := later t11
    clear t0 t1 t2 t3 t4 t5 t6 t7 t8 t9 t10 t11
    go_wp2_with fail
    refine (gmeet_calls _ _ _ _ _ _ _ _ _ _ _ _ _).mono ?_; rintro e w2 ⟨rfl, k2⟩
    clear l0 l1 l2 l3 l4 l5 l6 l7 l8 l9 l10 l11
    have c0 := kept_cell k2 (later rc0 _)
    have f0 := kept_frozen k2 (laterF rf0 _ _)
    have c1 := kept_cell k2 (later rc1 _)
    have f1 := kept_frozen k2 (laterF rf1 _ _)
    have c2 := kept_cell k2 (later rc2 _)
    have f2 := kept_frozen k2 (laterF rf2 _ _)
    have m0 : w2.cell? ⟨w1.heap.size, 0, none⟩ = some (.int .i64 E.x) := kept_cell k2 (by go_simp)
    have m1 : w2.cell? ⟨w1.heap.size, 1, none⟩ = some (.int .i64 E.y) := kept_cell k2 (by go_simp)
    have m2 : w2.cell? ⟨w1.heap.size, 2, none⟩ = some (.int .i64 E.z) := kept_cell k2 (by go_simp)
    have m3 : w2.cell? ⟨w1.heap.size, 3, none⟩ = some (.int .i64 E.d) := kept_cell k2 (by go_simp)
    have hk2 : Kept w w2 := (hk1.alloc _ _).trans k2
    clear k2 rc0 rc1 rc2 rf0 rf1 rf2 hk1
    go_wp2
    obtain ⟨e0, e1, e2⟩ := set3_of (v0 := .int .i64 0) (v1 := .int .i64 0) (v2 := .int .i64 0) c0 c1 c2
    exact bodyPost_ret (v := .tuple #[.agg #[.int .i64 0, .int .i64 0, .int .i64 0], .int .i64 0, .bool false]) (by simp [results, Try.results84, go_sem, e0, e1, e2]) rfl ⟨rfl, kept_set3 hk2 (by omega) _ _ _⟩
  | true =>
    cases hd : decide ((outE a0 a1 a2 a3 a4 a5 b0 b1 b2 b3 b4 b5).d ≤ 0) with
    | true =>
      rw [boxesT_no (by have := of_decide_eq_true hd; omega)]
      have hE := hd
      clear hd
      go_enter Try.func84, Try.ntmps84
      go_wp2_with fail
      refine (out_calls _ _ _ _ _ _ _ _ _ _ _ _ _).mono ?_; rintro e w1 ⟨rfl, k1⟩
      have HA : G66At w.heap.size (w.heap.size + 1) (.int .i64 a0) (.int .i64 a1) (.int .i64 a2) (.int .i64 a3) (.int .i64 a4) (.int .i64 a5) (.int .i64 b0) (.int .i64 b1) (.int .i64 b2) (.int .i64 b3) (.int .i64 b4) (.int .i64 b5) w1 := G66At.step k1 (by refine ⟨?_, ?_, ?_, ?_, ?_, ?_, ?_, ?_, ?_, ?_, ?_, ?_⟩ <;> go_simp)
      have rc0 : w1.cell? ⟨w.heap.size + 1 + 1, 0, none⟩ = some (.int .i64 0) := kept_cell k1 (by go_simp)
      have rf0 : w1.frozen? ⟨w.heap.size + 1 + 1, 0, none⟩ = false := kept_frozen k1 (by go_simp)
      have rc1 : w1.cell? ⟨w.heap.size + 1 + 1, 1, none⟩ = some (.int .i64 0) := kept_cell k1 (by go_simp)
      have rf1 : w1.frozen? ⟨w.heap.size + 1 + 1, 1, none⟩ = false := kept_frozen k1 (by go_simp)
      have rc2 : w1.cell? ⟨w.heap.size + 1 + 1, 2, none⟩ = some (.int .i64 0) := kept_cell k1 (by go_simp)
      have rf2 : w1.frozen? ⟨w.heap.size + 1 + 1, 2, none⟩ = false := kept_frozen k1 (by go_simp)
      have hk1 : Kept w w1 := ((((Kept.refl w).alloc _ _).alloc _ _).alloc _ _).trans k1
      have hlt : w.heap.size + 1 + 1 + 1 ≤ w1.heap.size := by have := k1.below.size; simp at this; omega
      generalize hEE : outE a0 a1 a2 a3 a4 a5 b0 b1 b2 b3 b4 b5 = E at hE ⊢
      have HE : Aside (outE a0 a1 a2 a3 a4 a5 b0 b1 b2 b3 b4 b5 = E) := hEE
      clear k1 hEE
      obtain ⟨t0, t1, t2, t3, t4, t5, t6, t7, t8, t9, t10, t11⟩ := HA
      have l0 := later t0
      have l1 := later t1
      have l2 := later t2
      have l3 := later t3
      have l4 := later t4
      have l5 := later t5
      have l6 := later t6
      have l7 := later t7
      have l8 := later t8
      have l9 := later t9
      have l10 := later t10
      have l11 := later t11
      clear t0 t1 t2 t3 t4 t5 t6 t7 t8 t9 t10 t11
      go_wp2_with fail
      refine (gmeet_calls _ _ _ _ _ _ _ _ _ _ _ _ _).mono ?_; rintro e w2 ⟨rfl, k2⟩
      clear l0 l1 l2 l3 l4 l5 l6 l7 l8 l9 l10 l11
      have c0 := kept_cell k2 (later rc0 _)
      have f0 := kept_frozen k2 (laterF rf0 _ _)
      have c1 := kept_cell k2 (later rc1 _)
      have f1 := kept_frozen k2 (laterF rf1 _ _)
      have c2 := kept_cell k2 (later rc2 _)
      have f2 := kept_frozen k2 (laterF rf2 _ _)
      have m0 : w2.cell? ⟨w1.heap.size, 0, none⟩ = some (.int .i64 E.x) := kept_cell k2 (by go_simp)
      have m1 : w2.cell? ⟨w1.heap.size, 1, none⟩ = some (.int .i64 E.y) := kept_cell k2 (by go_simp)
      have m2 : w2.cell? ⟨w1.heap.size, 2, none⟩ = some (.int .i64 E.z) := kept_cell k2 (by go_simp)
      have m3 : w2.cell? ⟨w1.heap.size, 3, none⟩ = some (.int .i64 E.d) := kept_cell k2 (by go_simp)
      have hk2 : Kept w w2 := (hk1.alloc _ _).trans k2
      clear k2 rc0 rc1 rc2 rf0 rf1 rf2 hk1
      go_wp2
      obtain ⟨e0, e1, e2⟩ := set3_of (v0 := .int .i64 0) (v1 := .int .i64 0) (v2 := .int .i64 0) c0 c1 c2
      exact bodyPost_ret (v := .tuple #[.agg #[.int .i64 0, .int .i64 0, .int .i64 0], .int .i64 0, .bool false]) (by simp [results, Try.results84, go_sem, e0, e1, e2]) rfl ⟨rfl, kept_set3 hk2 (by omega) _ _ _⟩
    | false =>
      rw [boxesT_yes ⟨hm, by have := of_decide_eq_false hd; omega⟩]
      have hE := hd
      clear hd
      go_enter Try.func84, Try.ntmps84
      go_wp2_with fail
      refine (out_calls _ _ _ _ _ _ _ _ _ _ _ _ _).mono ?_; rintro e w1 ⟨rfl, k1⟩
      have HA : G66At w.heap.size (w.heap.size + 1) (.int .i64 a0) (.int .i64 a1) (.int .i64 a2) (.int .i64 a3) (.int .i64 a4) (.int .i64 a5) (.int .i64 b0) (.int .i64 b1) (.int .i64 b2) (.int .i64 b3) (.int .i64 b4) (.int .i64 b5) w1 := G66At.step k1 (by refine ⟨?_, ?_, ?_, ?_, ?_, ?_, ?_, ?_, ?_, ?_, ?_, ?_⟩ <;> go_simp)
      have rc0 : w1.cell? ⟨w.heap.size + 1 + 1, 0, none⟩ = some (.int .i64 0) := kept_cell k1 (by go_simp)
      have rf0 : w1.frozen? ⟨w.heap.size + 1 + 1, 0, none⟩ = false := kept_frozen k1 (by go_simp)
      have rc1 : w1.cell? ⟨w.heap.size + 1 + 1, 1, none⟩ = some (.int .i64 0) := kept_cell k1 (by go_simp)
      have rf1 : w1.frozen? ⟨w.heap.size + 1 + 1, 1, none⟩ = false := kept_frozen k1 (by go_simp)
      have rc2 : w1.cell? ⟨w.heap.size + 1 + 1, 2, none⟩ = some (.int .i64 0) := kept_cell k1 (by go_simp)
      have rf2 : w1.frozen? ⟨w.heap.size + 1 + 1, 2, none⟩ = false := kept_frozen k1 (by go_simp)
      have hk1 : Kept w w1 := ((((Kept.refl w).alloc _ _).alloc _ _).alloc _ _).trans k1
      have hlt : w.heap.size + 1 + 1 + 1 ≤ w1.heap.size := by have := k1.below.size; simp at this; omega
      generalize hEE : outE a0 a1 a2 a3 a4 a5 b0 b1 b2 b3 b4 b5 = E at hE ⊢
      have HE : Aside (outE a0 a1 a2 a3 a4 a5 b0 b1 b2 b3 b4 b5 = E) := hEE
      clear k1 hEE
      obtain ⟨t0, t1, t2, t3, t4, t5, t6, t7, t8, t9, t10, t11⟩ := HA
      have l0 := later t0
      have l1 := later t1
      have l2 := later t2
      have l3 := later t3
      have l4 := later t4
      have l5 := later t5
      have l6 := later t6
      have l7 := later t7
      have l8 := later t8
      have l9 := later t9
      have l10 := later t10
      have l11 := later t11
      clear t0 t1 t2 t3 t4 t5 t6 t7 t8 t9 t10 t11
      go_wp2_with fail
      refine (gmeet_calls _ _ _ _ _ _ _ _ _ _ _ _ _).mono ?_; rintro e w2 ⟨rfl, k2⟩
      clear l0 l1 l2 l3 l4 l5 l6 l7 l8 l9 l10 l11
      have c0 := kept_cell k2 (later rc0 _)
      have f0 := kept_frozen k2 (laterF rf0 _ _)
      have c1 := kept_cell k2 (later rc1 _)
      have f1 := kept_frozen k2 (laterF rf1 _ _)
      have c2 := kept_cell k2 (later rc2 _)
      have f2 := kept_frozen k2 (laterF rf2 _ _)
      have m0 : w2.cell? ⟨w1.heap.size, 0, none⟩ = some (.int .i64 E.x) := kept_cell k2 (by go_simp)
      have m1 : w2.cell? ⟨w1.heap.size, 1, none⟩ = some (.int .i64 E.y) := kept_cell k2 (by go_simp)
      have m2 : w2.cell? ⟨w1.heap.size, 2, none⟩ = some (.int .i64 E.z) := kept_cell k2 (by go_simp)
      have m3 : w2.cell? ⟨w1.heap.size, 3, none⟩ = some (.int .i64 E.d) := kept_cell k2 (by go_simp)
      have hk2 : Kept w w2 := (hk1.alloc _ _).trans k2
      clear k2 rc0 rc1 rc2 rf0 rf1 rf2 hk1
      go_wp2
      refine wp_region_held_drew (S := (fun w' => Kept w w' ∧ w'.cell? ⟨w1.heap.size, 0, none⟩ = some (.int .i64 E.x) ∧ w'.cell? ⟨w1.heap.size, 1, none⟩ = some (.int .i64 E.y) ∧ w'.cell? ⟨w1.heap.size, 2, none⟩ = some (.int .i64 E.z) ∧ w'.cell? ⟨w1.heap.size, 3, none⟩ = some (.int .i64 E.d) ∧ w'.cell? ⟨w.heap.size + 1 + 1, 0, none⟩ = some (cellV w' ⟨w.heap.size + 1 + 1, 0, none⟩) ∧ w'.cell? ⟨w.heap.size + 1 + 1, 1, none⟩ = some (cellV w' ⟨w.heap.size + 1 + 1, 1, none⟩) ∧ w'.cell? ⟨w.heap.size + 1 + 1, 2, none⟩ = some (cellV w' ⟨w.heap.size + 1 + 1, 2, none⟩) ∧ w'.frozen? ⟨w.heap.size + 1 + 1, 0, none⟩ = false ∧ w'.frozen? ⟨w.heap.size + 1 + 1, 1, none⟩ = false ∧ w'.frozen? ⟨w.heap.size + 1 + 1, 2, none⟩ = false)) (by kernel_rfl) ?_ (fun hHeld1 => ?_)
      · (try dsimp only); exact G4o3.drew ⟨hk2, m0, m1, m2, m3, cellV_of c0, cellV_of c1, cellV_of c2, f0, f1, f2⟩
      refine wpAnyH_take (i := 0) (v := ?_) rfl (by kernel_rfl) (by kernel_rfl) (by kernel_rfl) (fun _ _ _ h => h) (Or.inl ⟨by rfl, ?_⟩) (by assumption) ?_
      rotate_left
      · intro w'' hSw; (try dsimp only at hSw); simp only [List.getElem_toArray, List.getElem_cons_succ, List.getElem_cons_zero]; (go_simp <;> with_reducible rfl)
      try simp only [Act.put, List.setIfInBounds_toArray, List.set_cons_zero, List.set_cons_succ, List.getElem_toArray, List.getElem_cons_succ, List.getElem_cons_zero]
      refine wpAnyH_take (i := 1) (v := ?_) rfl (by kernel_rfl) (by kernel_rfl) (by kernel_rfl) (fun _ _ _ h => h) (Or.inl ⟨by rfl, ?_⟩) (by assumption) ?_
      rotate_left
      · intro w'' hSw; (try dsimp only at hSw); simp only [List.getElem_toArray, List.getElem_cons_succ, List.getElem_cons_zero]; (go_simp <;> with_reducible rfl)
      try simp only [Act.put, List.setIfInBounds_toArray, List.set_cons_zero, List.set_cons_succ, List.getElem_toArray, List.getElem_cons_succ, List.getElem_cons_zero]
      refine wpAnyH_take (i := 2) (v := ?_) rfl (by kernel_rfl) (by kernel_rfl) (by kernel_rfl) (fun _ _ _ h => h) (Or.inl ⟨by rfl, ?_⟩) (by assumption) ?_
      rotate_left
      · intro w'' hSw; (try dsimp only at hSw); simp only [List.getElem_toArray, List.getElem_cons_succ, List.getElem_cons_zero]; (go_simp <;> with_reducible rfl)
      try simp only [Act.put, List.setIfInBounds_toArray, List.set_cons_zero, List.set_cons_succ, List.getElem_toArray, List.getElem_cons_succ, List.getElem_cons_zero]
      refine wpAnyH_take (i := 3) (v := ?_) rfl (by kernel_rfl) (by kernel_rfl) (by kernel_rfl) (fun _ _ _ h => h) (Or.inl ⟨by rfl, ?_⟩) (by assumption) ?_
      rotate_left
      · intro w'' hSw; (try dsimp only at hSw); simp only [List.getElem_toArray, List.getElem_cons_succ, List.getElem_cons_zero]; (go_simp <;> with_reducible rfl)
      try simp only [Act.put, List.setIfInBounds_toArray, List.set_cons_zero, List.set_cons_succ, List.getElem_toArray, List.getElem_cons_succ, List.getElem_cons_zero]
      refine wpAnyH_ready (rs := [4]) (by kernel_rfl) (by simp) ?_
      refine AllReadyH.cons rfl (fun K hK => ?_) AllReadyH.nil
      rw [if_pos (by rfl)]
      simp only [List.getElem_toArray, List.getElem_cons_succ, List.getElem_cons_zero]
      go_simp
      refine hK.out _ _ ?_ (fun hHeld2 => ?_)
      · (try dsimp only); exact (G4o3.put 2 _ (by omega) (by omega) (G4o3.put 1 _ (by omega) (by omega) (G4o3.put 0 _ (by omega) (by omega) hHeld1)))
      clear hK K
      try simp only [Act.put, List.setIfInBounds_toArray, List.set_cons_zero, List.set_cons_succ, List.getElem_toArray, List.getElem_cons_succ, List.getElem_cons_zero]
      refine wpAnyH_take (i := 5) (v := ?_) rfl (by kernel_rfl) (by kernel_rfl) (by kernel_rfl) (fun _ _ _ h => h) (Or.inl ⟨by rfl, ?_⟩) (by assumption) ?_
      rotate_left
      · intro w'' hSw; (try dsimp only at hSw); simp only [List.getElem_toArray, List.getElem_cons_succ, List.getElem_cons_zero]; (go_simp <;> with_reducible rfl)
      try simp only [Act.put, List.setIfInBounds_toArray, List.set_cons_zero, List.set_cons_succ, List.getElem_toArray, List.getElem_cons_succ, List.getElem_cons_zero]
      refine wpAnyH_take (i := 6) (v := ?_) rfl (by kernel_rfl) (by kernel_rfl) (by kernel_rfl) (fun _ _ _ h => h) (Or.inl ⟨by rfl, ?_⟩) (by assumption) ?_
      rotate_left
      · intro w'' hSw; (try dsimp only at hSw); simp only [List.getElem_toArray, List.getElem_cons_succ, List.getElem_cons_zero]; (go_simp <;> with_reducible rfl)
      try simp only [Act.put, List.setIfInBounds_toArray, List.set_cons_zero, List.set_cons_succ, List.getElem_toArray, List.getElem_cons_succ, List.getElem_cons_zero]
      refine wpAnyH_done (by kernel_rfl) ?_ _
      go_wp2
      have hk := hHeld2.1
      obtain ⟨e0, e1, e2⟩ := set3_of (v0 := .int .i64 (E.x)) (v1 := .int .i64 (E.y)) (v2 := .int .i64 (E.z)) c0 c1 c2
      exact bodyPost_ret (v := .tuple #[.agg #[.int .i64 (E.x), .int .i64 (E.y), .int .i64 (E.z)], .int .i64 (E.d), .bool true]) (by simp [results, Try.results84, go_sem, e0, e1, e2]) rfl ⟨by rw [HE.out], hk⟩
end Go.Proofs.Ythhpcfnoiooopaa
