/- geom.half, Around, Right and gyreref.Around answer what chapter 2 says: whatever the shape and the place. -/
import Derived.Test.YtdbjbjgnkkhgcaaGeo8
namespace Go.Proofs.Ytdbjbjgnkkhgcaa
open Go.ChangeShapes Go.WideShapes Go.ChangeAt Go.RowKit
set_option linter.unusedSimpArgs false

def G33o6 (w : World) (b0 b1 b2 : Nat) (v0 v1 v2 v3 v4 v5 : Value) (w' : World) : Prop :=
  Kept w w' ∧
  w'.cell? ⟨b0, 0, none⟩ = some v0 ∧
  w'.cell? ⟨b0, 1, none⟩ = some v1 ∧
  w'.cell? ⟨b0, 2, none⟩ = some v2 ∧
  w'.cell? ⟨b1, 0, none⟩ = some v3 ∧
  w'.cell? ⟨b1, 1, none⟩ = some v4 ∧
  w'.cell? ⟨b1, 2, none⟩ = some v5 ∧
  w'.cell? ⟨b2, 0, none⟩ = some (cellV w' ⟨b2, 0, none⟩) ∧
  w'.cell? ⟨b2, 1, none⟩ = some (cellV w' ⟨b2, 1, none⟩) ∧
  w'.cell? ⟨b2, 2, none⟩ = some (cellV w' ⟨b2, 2, none⟩) ∧
  w'.cell? ⟨b2, 3, none⟩ = some (cellV w' ⟨b2, 3, none⟩) ∧
  w'.cell? ⟨b2, 4, none⟩ = some (cellV w' ⟨b2, 4, none⟩) ∧
  w'.cell? ⟨b2, 5, none⟩ = some (cellV w' ⟨b2, 5, none⟩) ∧
  w'.frozen? ⟨b2, 0, none⟩ = false ∧
  w'.frozen? ⟨b2, 1, none⟩ = false ∧
  w'.frozen? ⟨b2, 2, none⟩ = false ∧
  w'.frozen? ⟨b2, 3, none⟩ = false ∧
  w'.frozen? ⟨b2, 4, none⟩ = false ∧
  w'.frozen? ⟨b2, 5, none⟩ = false
theorem G33o6.step {w w1 w2 : World} {b0 b1 b2 : Nat} {v0 v1 v2 v3 v4 v5 : Value} (k : Kept w1 w2) (h : G33o6 w b0 b1 b2 v0 v1 v2 v3 v4 v5 w1) : G33o6 w b0 b1 b2 v0 v1 v2 v3 v4 v5 w2 := by
  obtain ⟨h0, h1, h2, h3, h4, h5, h6, h7, h8, h9, h10, h11, h12, h13, h14, h15, h16, h17, h18⟩ := h
  exact ⟨h0.trans k, kept_cell k h1, kept_cell k h2, kept_cell k h3, kept_cell k h4, kept_cell k h5, kept_cell k h6, kept_there k h7, kept_there k h8, kept_there k h9, kept_there k h10, kept_there k h11, kept_there k h12, kept_frozen k h13, kept_frozen k h14, kept_frozen k h15, kept_frozen k h16, kept_frozen k h17, kept_frozen k h18⟩
theorem G33o6.drew {w w1 : World} {b0 b1 b2 : Nat} {v0 v1 v2 v3 v4 v5 : Value} (h : G33o6 w b0 b1 b2 v0 v1 v2 v3 v4 v5 w1) : G33o6 w b0 b1 b2 v0 v1 v2 v3 v4 v5 w1.drew := h.step (Kept.refl _).drew
theorem G33o6.put {w w1 : World} {b0 b1 b2 : Nat} {v0 v1 v2 v3 v4 v5 : Value} (i : Nat) (v : Value) (ho : w.heap.size ≤ b2) (n0 : b0 ≠ b2) (n1 : b1 ≠ b2) (h : G33o6 w b0 b1 b2 v0 v1 v2 v3 v4 v5 w1) : G33o6 w b0 b1 b2 v0 v1 v2 v3 v4 v5 (w1.setCell ⟨b2, i, none⟩ v) := by
  obtain ⟨h0, h1, h2, h3, h4, h5, h6, h7, h8, h9, h10, h11, h12, h13, h14, h15, h16, h17, h18⟩ := h
  exact ⟨h0.setCell (p := ⟨b2, i, none⟩) ho v, (World.cell?_setCell_other _ _ _ _ (fun e => n0 (by injection e with e; exact e.symm))).trans h1, (World.cell?_setCell_other _ _ _ _ (fun e => n0 (by injection e with e; exact e.symm))).trans h2, (World.cell?_setCell_other _ _ _ _ (fun e => n0 (by injection e with e; exact e.symm))).trans h3, (World.cell?_setCell_other _ _ _ _ (fun e => n1 (by injection e with e; exact e.symm))).trans h4, (World.cell?_setCell_other _ _ _ _ (fun e => n1 (by injection e with e; exact e.symm))).trans h5, (World.cell?_setCell_other _ _ _ _ (fun e => n1 (by injection e with e; exact e.symm))).trans h6, put_there h7, put_there h8, put_there h9, put_there h10, put_there h11, put_there h12, (World.frozen?_setCell _ _ _ _).trans h13, (World.frozen?_setCell _ _ _ _).trans h14, (World.frozen?_setCell _ _ _ _).trans h15, (World.frozen?_setCell _ _ _ _).trans h16, (World.frozen?_setCell _ _ _ _).trans h17, (World.frozen?_setCell _ _ _ _).trans h18⟩

def G4 (w : World) (b0 : Nat) (v0 v1 v2 v3 : Value) (w' : World) : Prop :=
  Kept w w' ∧
  w'.cell? ⟨b0, 0, none⟩ = some v0 ∧
  w'.cell? ⟨b0, 1, none⟩ = some v1 ∧
  w'.cell? ⟨b0, 2, none⟩ = some v2 ∧
  w'.cell? ⟨b0, 3, none⟩ = some v3
theorem G4.step {w w1 w2 : World} {b0 : Nat} {v0 v1 v2 v3 : Value} (k : Kept w1 w2) (h : G4 w b0 v0 v1 v2 v3 w1) : G4 w b0 v0 v1 v2 v3 w2 := by
  obtain ⟨h0, h1, h2, h3, h4⟩ := h
  exact ⟨h0.trans k, kept_cell k h1, kept_cell k h2, kept_cell k h3, kept_cell k h4⟩
theorem G4.drew {w w1 : World} {b0 : Nat} {v0 v1 v2 v3 : Value} (h : G4 w b0 v0 v1 v2 v3 w1) : G4 w b0 v0 v1 v2 v3 w1.drew := h.step (Kept.refl _).drew
def G4At (b0 : Nat) (v0 v1 v2 v3 : Value) (w' : World) : Prop :=
  w'.cell? ⟨b0, 0, none⟩ = some v0 ∧
  w'.cell? ⟨b0, 1, none⟩ = some v1 ∧
  w'.cell? ⟨b0, 2, none⟩ = some v2 ∧
  w'.cell? ⟨b0, 3, none⟩ = some v3
theorem G4At.step {w1 w2 : World} {b0 : Nat} {v0 v1 v2 v3 : Value} (k : Kept w1 w2) (h : G4At b0 v0 v1 v2 v3 w1) : G4At b0 v0 v1 v2 v3 w2 := by
  obtain ⟨h1, h2, h3, h4⟩ := h
  exact ⟨kept_cell k h1, kept_cell k h2, kept_cell k h3, kept_cell k h4⟩
theorem G4At.start {w1 : World} {b0 : Nat} {v0 v1 v2 v3 : Value} (h : G4At b0 v0 v1 v2 v3 w1) : G4 w1 b0 v0 v1 v2 v3 w1.drew := ⟨(Kept.refl _).drew, h.step (Kept.refl _).drew⟩

/-- What a shape's half is in a part: a Ball's is its first size. -/
def hf (k x y : Int) : Int := if k = 1 then x else y
theorem hf_ball {k x y : Int} (h : k = 1) : hf k x y = x := by unfold hf; rw [if_pos h]
theorem hf_else {k x y : Int} (h : ¬ k = 1) : hf k x y = y := by unfold hf; rw [if_neg h]
theorem half_calls (k x y z : Int) (w : World) : Calls Try.prog 30 #[.agg #[.int .i64 k, .int .i64 x, .int .i64 y, .int .i64 z]] w fun e w' => e = .returned (.agg #[.int .i64 x, .int .i64 (hf k x y), .int .i64 (hf k x z)]) ∧ Kept w w' := by
  by_cases h : k = 1
  · have hb : (k == 1) = true := by simp [h]
    rw [hf_ball h, hf_ball h]
    go_enter Try.func30, Try.ntmps30
    go_wp2
    exact bodyPost_ret (v := .agg #[.int .i64 x, .int .i64 x, .int .i64 x]) (by simp [results, Try.results30, go_sem]) rfl ⟨rfl, ((Kept.refl _).alloc _ _).alloc _ _⟩
  · have hb : (k == 1) = false := by simp [h]
    rw [hf_else h, hf_else h]
    go_enter Try.func30, Try.ntmps30
    go_wp2
    exact bodyPost_ret (v := .agg #[.int .i64 x, .int .i64 y, .int .i64 z]) (by simp [results, Try.results30, go_sem]) rfl ⟨rfl, ((Kept.refl _).alloc _ _).alloc _ _⟩
theorem gAround_calls (k x y z p0 p1 p2 : Int) (w : World) : Calls Try.prog 17 #[.agg #[.int .i64 k, .int .i64 x, .int .i64 y, .int .i64 z], .agg #[.int .i64 p0, .int .i64 p1, .int .i64 p2]] w fun e w' => e = .returned (.agg #[.int .i64 (sub p0 x), .int .i64 (sub p1 (hf k x y)), .int .i64 (sub p2 (hf k x z)), .int .i64 (add p0 x), .int .i64 (add p1 (hf k x y)), .int .i64 (add p2 (hf k x z))]) ∧ Kept w w' := by
  go_enter Try.func17, Try.ntmps17
  go_wp2_with fail
  refine (half_calls _ _ _ _ _).mono ?_; rintro e w1 ⟨rfl, k1⟩
  have hlt : w.heap.size + 1 + 1 + 1 ≤ w1.heap.size := by have := k1.below.size; simp at this; omega
  go_wp2
  refine wp_region_held_drew (S := (fun w' => Kept w w' ∧ w'.cell? ⟨w.heap.size + 1, 0, none⟩ = some (.int .i64 p0) ∧ w'.cell? ⟨w.heap.size + 1, 1, none⟩ = some (.int .i64 p1) ∧ w'.cell? ⟨w.heap.size + 1, 2, none⟩ = some (.int .i64 p2) ∧ w'.cell? ⟨w1.heap.size, 0, none⟩ = some (.int .i64 x) ∧ w'.cell? ⟨w1.heap.size, 1, none⟩ = some (.int .i64 (hf k x y)) ∧ w'.cell? ⟨w1.heap.size, 2, none⟩ = some (.int .i64 (hf k x z)) ∧ w'.cell? ⟨w.heap.size + 1 + 1, 0, none⟩ = some (cellV w' ⟨w.heap.size + 1 + 1, 0, none⟩) ∧ w'.cell? ⟨w.heap.size + 1 + 1, 1, none⟩ = some (cellV w' ⟨w.heap.size + 1 + 1, 1, none⟩) ∧ w'.cell? ⟨w.heap.size + 1 + 1, 2, none⟩ = some (cellV w' ⟨w.heap.size + 1 + 1, 2, none⟩) ∧ w'.cell? ⟨w.heap.size + 1 + 1, 3, none⟩ = some (cellV w' ⟨w.heap.size + 1 + 1, 3, none⟩) ∧ w'.cell? ⟨w.heap.size + 1 + 1, 4, none⟩ = some (cellV w' ⟨w.heap.size + 1 + 1, 4, none⟩) ∧ w'.cell? ⟨w.heap.size + 1 + 1, 5, none⟩ = some (cellV w' ⟨w.heap.size + 1 + 1, 5, none⟩) ∧ w'.frozen? ⟨w.heap.size + 1 + 1, 0, none⟩ = false ∧ w'.frozen? ⟨w.heap.size + 1 + 1, 1, none⟩ = false ∧ w'.frozen? ⟨w.heap.size + 1 + 1, 2, none⟩ = false ∧ w'.frozen? ⟨w.heap.size + 1 + 1, 3, none⟩ = false ∧ w'.frozen? ⟨w.heap.size + 1 + 1, 4, none⟩ = false ∧ w'.frozen? ⟨w.heap.size + 1 + 1, 5, none⟩ = false)) (by kernel_rfl) ?_ (fun hHeld1 => ?_)
  · (try dsimp only); exact G33o6.drew (by refine ⟨(((((Kept.refl w).alloc _ _).alloc _ _).alloc _ _).trans k1).alloc _ _, later (kept_cell k1 ?_) _, later (kept_cell k1 ?_) _, later (kept_cell k1 ?_) _, ?_, ?_, ?_, cellV_of (later (kept_cell k1 (v := .int .i64 0) ?_) _), cellV_of (later (kept_cell k1 (v := .int .i64 0) ?_) _), cellV_of (later (kept_cell k1 (v := .int .i64 0) ?_) _), cellV_of (later (kept_cell k1 (v := .int .i64 0) ?_) _), cellV_of (later (kept_cell k1 (v := .int .i64 0) ?_) _), cellV_of (later (kept_cell k1 (v := .int .i64 0) ?_) _), laterF (kept_frozen k1 ?_) _ _, laterF (kept_frozen k1 ?_) _ _, laterF (kept_frozen k1 ?_) _ _, laterF (kept_frozen k1 ?_) _ _, laterF (kept_frozen k1 ?_) _ _, laterF (kept_frozen k1 ?_) _ _⟩ <;> go_simp)
  refine tkW 0 rfl ?_; refine tkW 1 rfl ?_; refine tkW 3 rfl ?_; refine tkW 4 rfl ?_
  try simp only [Act.put, List.setIfInBounds_toArray, List.set_cons_zero, List.set_cons_succ, List.getElem_toArray, List.getElem_cons_succ, List.getElem_cons_zero]
  refine wpAnyH_ready (rs := [2]) (by kernel_rfl) (by simp) ?_
  refine AllReadyH.cons rfl (fun K hK => ?_) AllReadyH.nil
  first | (with_reducible refine iteYes ?hcx ?htx; case hcx => kernel_rfl) | rw [if_pos (by rfl)]
  simp only [List.getElem_toArray, List.getElem_cons_succ, List.getElem_cons_zero]
  go_simp
  (go_at_call 31; refine (minus_calls _ _ _ _ _ _ _).mono ?_; rintro e w2 ⟨rfl, k2⟩)
  try go_wp2_with fail
  refine hK.out _ _ ?_ (fun hHeld2 => ?_)
  · (try dsimp only); exact G33o6.step k2 hHeld1
  clear hK K hHeld1
  try simp only [Act.put, List.setIfInBounds_toArray, List.set_cons_zero, List.set_cons_succ, List.getElem_toArray, List.getElem_cons_succ, List.getElem_cons_zero]
  refine wpAnyH_ready (rs := [5]) (by kernel_rfl) (by simp) ?_
  refine AllReadyH.cons rfl (fun K hK => ?_) AllReadyH.nil
  first | (with_reducible refine iteYes ?hcx ?htx; case hcx => kernel_rfl) | rw [if_pos (by rfl)]
  simp only [List.getElem_toArray, List.getElem_cons_succ, List.getElem_cons_zero]
  go_simp
  (go_at_call 32; refine (plus_calls _ _ _ _ _ _ _).mono ?_; rintro e w3 ⟨rfl, k3⟩)
  try go_wp2_with fail
  refine hK.out _ _ ?_ (fun hHeld3 => ?_)
  · (try dsimp only); exact G33o6.step k3 hHeld2
  clear hK K hHeld2
  try simp only [Act.put, List.setIfInBounds_toArray, List.set_cons_zero, List.set_cons_succ, List.getElem_toArray, List.getElem_cons_succ, List.getElem_cons_zero]
  refine tkW 6 rfl ?_
  try simp only [Act.put, List.setIfInBounds_toArray, List.set_cons_zero, List.set_cons_succ, List.getElem_toArray, List.getElem_cons_succ, List.getElem_cons_zero]
  refine wpAnyH_ready (rs := [7]) (by kernel_rfl) (by simp) ?_
  refine AllReadyH.cons rfl (fun K hK => ?_) AllReadyH.nil
  first | (with_reducible refine iteYes ?hcx ?htx; case hcx => kernel_rfl) | rw [if_pos (by rfl)]
  simp only [List.getElem_toArray, List.getElem_cons_succ, List.getElem_cons_zero]
  go_simp
  refine hK.out _ _ ?_ (fun hHeld4 => ?_)
  · (try dsimp only); exact (G33o6.put 5 _ (by omega) (by omega) (by omega) (G33o6.put 4 _ (by omega) (by omega) (by omega) (G33o6.put 3 _ (by omega) (by omega) (by omega) (G33o6.put 2 _ (by omega) (by omega) (by omega) (G33o6.put 1 _ (by omega) (by omega) (by omega) (G33o6.put 0 _ (by omega) (by omega) (by omega) hHeld3))))))
  clear hK K
  try simp only [Act.put, List.setIfInBounds_toArray, List.set_cons_zero, List.set_cons_succ, List.getElem_toArray, List.getElem_cons_succ, List.getElem_cons_zero]
  refine wpAnyH_done (by kernel_rfl) ?_ _
  go_wp2
  obtain ⟨hk, _, _, _, _, _, _, c0, c1, c2, c3, c4, c5, _⟩ := hHeld3
  obtain ⟨e0, e1, e2, e3, e4, e5⟩ := set6_of (v0 := .int .i64 (sub p0 x)) (v1 := .int .i64 (sub p1 (hf k x y))) (v2 := .int .i64 (sub p2 (hf k x z))) (v3 := .int .i64 (add p0 x)) (v4 := .int .i64 (add p1 (hf k x y))) (v5 := .int .i64 (add p2 (hf k x z))) c0 c1 c2 c3 c4 c5
  exact bodyPost_ret (v := .agg #[.int .i64 (sub p0 x), .int .i64 (sub p1 (hf k x y)), .int .i64 (sub p2 (hf k x z)), .int .i64 (add p0 x), .int .i64 (add p1 (hf k x y)), .int .i64 (add p2 (hf k x z))]) (by simp [results, Try.results17, go_sem, e0, e1, e2, e3, e4, e5]) rfl ⟨rfl, kept_set6 hk (by omega) _ _ _ _ _ _⟩
theorem refAround_calls (k x y z p0 p1 p2 : Int) (w : World) : Calls Try.prog 26 #[.agg #[.int .i64 k, .int .i64 x, .int .i64 y, .int .i64 z], .agg #[.int .i64 p0, .int .i64 p1, .int .i64 p2]] w fun e w' => e = .returned (.agg #[.int .i64 (sub p0 x), .int .i64 (sub p1 (hf k x y)), .int .i64 (sub p2 (hf k x z)), .int .i64 (add p0 x), .int .i64 (add p1 (hf k x y)), .int .i64 (add p2 (hf k x z))]) ∧ Kept w w' := by
  by_cases h : k = 1
  · have hb : (k == 1) = true := by simp [h]
    rw [hf_ball h, hf_ball h]
    go_enter Try.func26, Try.ntmps26
    go_wp2
    refine wp_region_held_drew (S := (fun w' => Kept w w' ∧ w'.cell? ⟨w.heap.size + 1, 0, none⟩ = some (.int .i64 p0) ∧ w'.cell? ⟨w.heap.size + 1, 1, none⟩ = some (.int .i64 p1) ∧ w'.cell? ⟨w.heap.size + 1, 2, none⟩ = some (.int .i64 p2) ∧ w'.cell? ⟨w.heap.size + 1 + 1 + 1, 0, none⟩ = some (.int .i64 x) ∧ w'.cell? ⟨w.heap.size + 1 + 1 + 1, 1, none⟩ = some (.int .i64 x) ∧ w'.cell? ⟨w.heap.size + 1 + 1 + 1, 2, none⟩ = some (.int .i64 x) ∧ w'.cell? ⟨w.heap.size + 1 + 1, 0, none⟩ = some (cellV w' ⟨w.heap.size + 1 + 1, 0, none⟩) ∧ w'.cell? ⟨w.heap.size + 1 + 1, 1, none⟩ = some (cellV w' ⟨w.heap.size + 1 + 1, 1, none⟩) ∧ w'.cell? ⟨w.heap.size + 1 + 1, 2, none⟩ = some (cellV w' ⟨w.heap.size + 1 + 1, 2, none⟩) ∧ w'.cell? ⟨w.heap.size + 1 + 1, 3, none⟩ = some (cellV w' ⟨w.heap.size + 1 + 1, 3, none⟩) ∧ w'.cell? ⟨w.heap.size + 1 + 1, 4, none⟩ = some (cellV w' ⟨w.heap.size + 1 + 1, 4, none⟩) ∧ w'.cell? ⟨w.heap.size + 1 + 1, 5, none⟩ = some (cellV w' ⟨w.heap.size + 1 + 1, 5, none⟩) ∧ w'.frozen? ⟨w.heap.size + 1 + 1, 0, none⟩ = false ∧ w'.frozen? ⟨w.heap.size + 1 + 1, 1, none⟩ = false ∧ w'.frozen? ⟨w.heap.size + 1 + 1, 2, none⟩ = false ∧ w'.frozen? ⟨w.heap.size + 1 + 1, 3, none⟩ = false ∧ w'.frozen? ⟨w.heap.size + 1 + 1, 4, none⟩ = false ∧ w'.frozen? ⟨w.heap.size + 1 + 1, 5, none⟩ = false)) (by kernel_rfl) ?_ (fun hHeld1 => ?_)
    · (try dsimp only); exact G33o6.drew (by refine ⟨((((Kept.refl w).alloc _ _).alloc _ _).alloc _ _).alloc _ _, ?_, ?_, ?_, ?_, ?_, ?_, cellV_of (v := .int .i64 0) ?_, cellV_of (v := .int .i64 0) ?_, cellV_of (v := .int .i64 0) ?_, cellV_of (v := .int .i64 0) ?_, cellV_of (v := .int .i64 0) ?_, cellV_of (v := .int .i64 0) ?_, ?_, ?_, ?_, ?_, ?_, ?_⟩ <;> go_simp)
    refine tkW 0 rfl ?_; refine tkW 1 rfl ?_; refine tkW 3 rfl ?_; refine tkW 4 rfl ?_
    try simp only [Act.put, List.setIfInBounds_toArray, List.set_cons_zero, List.set_cons_succ, List.getElem_toArray, List.getElem_cons_succ, List.getElem_cons_zero]
    refine wpAnyH_ready (rs := [2]) (by kernel_rfl) (by simp) ?_
    refine AllReadyH.cons rfl (fun K hK => ?_) AllReadyH.nil
    first | (with_reducible refine iteYes ?hcx ?htx; case hcx => kernel_rfl) | rw [if_pos (by rfl)]
    simp only [List.getElem_toArray, List.getElem_cons_succ, List.getElem_cons_zero]
    go_simp
    (go_at_call 41; refine (refMinus_calls _ _ _ _ _ _ _).mono ?_; rintro e w2 ⟨rfl, k2⟩)
    try go_wp2_with fail
    refine hK.out _ _ ?_ (fun hHeld2 => ?_)
    · (try dsimp only); exact G33o6.step k2 hHeld1
    clear hK K hHeld1
    try simp only [Act.put, List.setIfInBounds_toArray, List.set_cons_zero, List.set_cons_succ, List.getElem_toArray, List.getElem_cons_succ, List.getElem_cons_zero]
    refine wpAnyH_ready (rs := [5]) (by kernel_rfl) (by simp) ?_
    refine AllReadyH.cons rfl (fun K hK => ?_) AllReadyH.nil
    first | (with_reducible refine iteYes ?hcx ?htx; case hcx => kernel_rfl) | rw [if_pos (by rfl)]
    simp only [List.getElem_toArray, List.getElem_cons_succ, List.getElem_cons_zero]
    go_simp
    (go_at_call 42; refine (refPlus_calls _ _ _ _ _ _ _).mono ?_; rintro e w3 ⟨rfl, k3⟩)
    try go_wp2_with fail
    refine hK.out _ _ ?_ (fun hHeld3 => ?_)
    · (try dsimp only); exact G33o6.step k3 hHeld2
    clear hK K hHeld2
    try simp only [Act.put, List.setIfInBounds_toArray, List.set_cons_zero, List.set_cons_succ, List.getElem_toArray, List.getElem_cons_succ, List.getElem_cons_zero]
    refine tkW 6 rfl ?_
    try simp only [Act.put, List.setIfInBounds_toArray, List.set_cons_zero, List.set_cons_succ, List.getElem_toArray, List.getElem_cons_succ, List.getElem_cons_zero]
    refine wpAnyH_ready (rs := [7]) (by kernel_rfl) (by simp) ?_
    refine AllReadyH.cons rfl (fun K hK => ?_) AllReadyH.nil
    first | (with_reducible refine iteYes ?hcx ?htx; case hcx => kernel_rfl) | rw [if_pos (by rfl)]
    simp only [List.getElem_toArray, List.getElem_cons_succ, List.getElem_cons_zero]
    go_simp
    refine hK.out _ _ ?_ (fun hHeld4 => ?_)
    · (try dsimp only); exact (G33o6.put 5 _ (by omega) (by omega) (by omega) (G33o6.put 4 _ (by omega) (by omega) (by omega) (G33o6.put 3 _ (by omega) (by omega) (by omega) (G33o6.put 2 _ (by omega) (by omega) (by omega) (G33o6.put 1 _ (by omega) (by omega) (by omega) (G33o6.put 0 _ (by omega) (by omega) (by omega) hHeld3))))))
    clear hK K
    try simp only [Act.put, List.setIfInBounds_toArray, List.set_cons_zero, List.set_cons_succ, List.getElem_toArray, List.getElem_cons_succ, List.getElem_cons_zero]
    refine wpAnyH_done (by kernel_rfl) ?_ _
    go_wp2
    obtain ⟨hk, _, _, _, _, _, _, c0, c1, c2, c3, c4, c5, _⟩ := hHeld3
    obtain ⟨e0, e1, e2, e3, e4, e5⟩ := set6_of (v0 := .int .i64 (sub p0 x)) (v1 := .int .i64 (sub p1 x)) (v2 := .int .i64 (sub p2 x)) (v3 := .int .i64 (add p0 x)) (v4 := .int .i64 (add p1 x)) (v5 := .int .i64 (add p2 x)) c0 c1 c2 c3 c4 c5
    exact bodyPost_ret (v := .agg #[.int .i64 (sub p0 x), .int .i64 (sub p1 x), .int .i64 (sub p2 x), .int .i64 (add p0 x), .int .i64 (add p1 x), .int .i64 (add p2 x)]) (by simp [results, Try.results26, go_sem, e0, e1, e2, e3, e4, e5]) rfl ⟨rfl, kept_set6 hk (by omega) _ _ _ _ _ _⟩
  · have hb : (k == 1) = false := by simp [h]
    rw [hf_else h, hf_else h]
    go_enter Try.func26, Try.ntmps26
    go_wp2
    refine wp_region_held_drew (S := (fun w' => Kept w w' ∧ w'.cell? ⟨w.heap.size + 1, 0, none⟩ = some (.int .i64 p0) ∧ w'.cell? ⟨w.heap.size + 1, 1, none⟩ = some (.int .i64 p1) ∧ w'.cell? ⟨w.heap.size + 1, 2, none⟩ = some (.int .i64 p2) ∧ w'.cell? ⟨w.heap.size + 1 + 1 + 1, 0, none⟩ = some (.int .i64 x) ∧ w'.cell? ⟨w.heap.size + 1 + 1 + 1, 1, none⟩ = some (.int .i64 y) ∧ w'.cell? ⟨w.heap.size + 1 + 1 + 1, 2, none⟩ = some (.int .i64 z) ∧ w'.cell? ⟨w.heap.size + 1 + 1, 0, none⟩ = some (cellV w' ⟨w.heap.size + 1 + 1, 0, none⟩) ∧ w'.cell? ⟨w.heap.size + 1 + 1, 1, none⟩ = some (cellV w' ⟨w.heap.size + 1 + 1, 1, none⟩) ∧ w'.cell? ⟨w.heap.size + 1 + 1, 2, none⟩ = some (cellV w' ⟨w.heap.size + 1 + 1, 2, none⟩) ∧ w'.cell? ⟨w.heap.size + 1 + 1, 3, none⟩ = some (cellV w' ⟨w.heap.size + 1 + 1, 3, none⟩) ∧ w'.cell? ⟨w.heap.size + 1 + 1, 4, none⟩ = some (cellV w' ⟨w.heap.size + 1 + 1, 4, none⟩) ∧ w'.cell? ⟨w.heap.size + 1 + 1, 5, none⟩ = some (cellV w' ⟨w.heap.size + 1 + 1, 5, none⟩) ∧ w'.frozen? ⟨w.heap.size + 1 + 1, 0, none⟩ = false ∧ w'.frozen? ⟨w.heap.size + 1 + 1, 1, none⟩ = false ∧ w'.frozen? ⟨w.heap.size + 1 + 1, 2, none⟩ = false ∧ w'.frozen? ⟨w.heap.size + 1 + 1, 3, none⟩ = false ∧ w'.frozen? ⟨w.heap.size + 1 + 1, 4, none⟩ = false ∧ w'.frozen? ⟨w.heap.size + 1 + 1, 5, none⟩ = false)) (by kernel_rfl) ?_ (fun hHeld1 => ?_)
    · (try dsimp only); exact G33o6.drew (by refine ⟨((((Kept.refl w).alloc _ _).alloc _ _).alloc _ _).alloc _ _, ?_, ?_, ?_, ?_, ?_, ?_, cellV_of (v := .int .i64 0) ?_, cellV_of (v := .int .i64 0) ?_, cellV_of (v := .int .i64 0) ?_, cellV_of (v := .int .i64 0) ?_, cellV_of (v := .int .i64 0) ?_, cellV_of (v := .int .i64 0) ?_, ?_, ?_, ?_, ?_, ?_, ?_⟩ <;> go_simp)
    refine tkW 0 rfl ?_; refine tkW 1 rfl ?_; refine tkW 3 rfl ?_; refine tkW 4 rfl ?_
    try simp only [Act.put, List.setIfInBounds_toArray, List.set_cons_zero, List.set_cons_succ, List.getElem_toArray, List.getElem_cons_succ, List.getElem_cons_zero]
    refine wpAnyH_ready (rs := [2]) (by kernel_rfl) (by simp) ?_
    refine AllReadyH.cons rfl (fun K hK => ?_) AllReadyH.nil
    first | (with_reducible refine iteYes ?hcx ?htx; case hcx => kernel_rfl) | rw [if_pos (by rfl)]
    simp only [List.getElem_toArray, List.getElem_cons_succ, List.getElem_cons_zero]
    go_simp
    (go_at_call 41; refine (refMinus_calls _ _ _ _ _ _ _).mono ?_; rintro e w2 ⟨rfl, k2⟩)
    try go_wp2_with fail
    refine hK.out _ _ ?_ (fun hHeld2 => ?_)
    · (try dsimp only); exact G33o6.step k2 hHeld1
    clear hK K hHeld1
    try simp only [Act.put, List.setIfInBounds_toArray, List.set_cons_zero, List.set_cons_succ, List.getElem_toArray, List.getElem_cons_succ, List.getElem_cons_zero]
    refine wpAnyH_ready (rs := [5]) (by kernel_rfl) (by simp) ?_
    refine AllReadyH.cons rfl (fun K hK => ?_) AllReadyH.nil
    first | (with_reducible refine iteYes ?hcx ?htx; case hcx => kernel_rfl) | rw [if_pos (by rfl)]
    simp only [List.getElem_toArray, List.getElem_cons_succ, List.getElem_cons_zero]
    go_simp
    (go_at_call 42; refine (refPlus_calls _ _ _ _ _ _ _).mono ?_; rintro e w3 ⟨rfl, k3⟩)
    try go_wp2_with fail
    refine hK.out _ _ ?_ (fun hHeld3 => ?_)
    · (try dsimp only); exact G33o6.step k3 hHeld2
    clear hK K hHeld2
    try simp only [Act.put, List.setIfInBounds_toArray, List.set_cons_zero, List.set_cons_succ, List.getElem_toArray, List.getElem_cons_succ, List.getElem_cons_zero]
    refine tkW 6 rfl ?_
    try simp only [Act.put, List.setIfInBounds_toArray, List.set_cons_zero, List.set_cons_succ, List.getElem_toArray, List.getElem_cons_succ, List.getElem_cons_zero]
    refine wpAnyH_ready (rs := [7]) (by kernel_rfl) (by simp) ?_
    refine AllReadyH.cons rfl (fun K hK => ?_) AllReadyH.nil
    first | (with_reducible refine iteYes ?hcx ?htx; case hcx => kernel_rfl) | rw [if_pos (by rfl)]
    simp only [List.getElem_toArray, List.getElem_cons_succ, List.getElem_cons_zero]
    go_simp
    refine hK.out _ _ ?_ (fun hHeld4 => ?_)
    · (try dsimp only); exact (G33o6.put 5 _ (by omega) (by omega) (by omega) (G33o6.put 4 _ (by omega) (by omega) (by omega) (G33o6.put 3 _ (by omega) (by omega) (by omega) (G33o6.put 2 _ (by omega) (by omega) (by omega) (G33o6.put 1 _ (by omega) (by omega) (by omega) (G33o6.put 0 _ (by omega) (by omega) (by omega) hHeld3))))))
    clear hK K
    try simp only [Act.put, List.setIfInBounds_toArray, List.set_cons_zero, List.set_cons_succ, List.getElem_toArray, List.getElem_cons_succ, List.getElem_cons_zero]
    refine wpAnyH_done (by kernel_rfl) ?_ _
    go_wp2
    obtain ⟨hk, _, _, _, _, _, _, c0, c1, c2, c3, c4, c5, _⟩ := hHeld3
    obtain ⟨e0, e1, e2, e3, e4, e5⟩ := set6_of (v0 := .int .i64 (sub p0 x)) (v1 := .int .i64 (sub p1 y)) (v2 := .int .i64 (sub p2 z)) (v3 := .int .i64 (add p0 x)) (v4 := .int .i64 (add p1 y)) (v5 := .int .i64 (add p2 z)) c0 c1 c2 c3 c4 c5
    exact bodyPost_ret (v := .agg #[.int .i64 (sub p0 x), .int .i64 (sub p1 y), .int .i64 (sub p2 z), .int .i64 (add p0 x), .int .i64 (add p1 y), .int .i64 (add p2 z)]) (by simp [results, Try.results26, go_sem, e0, e1, e2, e3, e4, e5]) rfl ⟨rfl, kept_set6 hk (by omega) _ _ _ _ _ _⟩

/-- A size that may be. -/
def sz (n : Int) : Bool := decide (1 ≤ n) && decide (n ≤ 3276800)
def rightB (k x y z : Int) : Bool := if k = 1 then sz x && (y == 0 && z == 0) else if k = 2 then sz x && sz y && sz z else false
end Go.Proofs.Ytdbjbjgnkkhgcaa
