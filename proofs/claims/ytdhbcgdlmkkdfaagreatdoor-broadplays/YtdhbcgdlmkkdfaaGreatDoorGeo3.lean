/- The closures of geom.Meet, Within, Both, Near answer, part by part, what chapter 2 says: whatever the boxes. -/
import Derived.Test.YtdhbcgdlmkkdfaaGreatDoorGeo2
namespace Go.Proofs.YtdhbcgdlmkkdfaaGreatDoor
open Go.ChangeShapes Go.WideShapes Go.ChangeAt Go.RowKit
set_option linter.unusedSimpArgs false

def G66 (w : World) (b0 b1 : Nat) (v0 v1 v2 v3 v4 v5 v6 v7 v8 v9 v10 v11 : Value) (w' : World) : Prop :=
  Kept w w' ∧
  w'.cell? ⟨b0, 0, none⟩ = some v0 ∧
  w'.cell? ⟨b0, 1, none⟩ = some v1 ∧
  w'.cell? ⟨b0, 2, none⟩ = some v2 ∧
  w'.cell? ⟨b0, 3, none⟩ = some v3 ∧
  w'.cell? ⟨b0, 4, none⟩ = some v4 ∧
  w'.cell? ⟨b0, 5, none⟩ = some v5 ∧
  w'.cell? ⟨b1, 0, none⟩ = some v6 ∧
  w'.cell? ⟨b1, 1, none⟩ = some v7 ∧
  w'.cell? ⟨b1, 2, none⟩ = some v8 ∧
  w'.cell? ⟨b1, 3, none⟩ = some v9 ∧
  w'.cell? ⟨b1, 4, none⟩ = some v10 ∧
  w'.cell? ⟨b1, 5, none⟩ = some v11
theorem G66.step {w w1 w2 : World} {b0 b1 : Nat} {v0 v1 v2 v3 v4 v5 v6 v7 v8 v9 v10 v11 : Value} (k : Kept w1 w2) (h : G66 w b0 b1 v0 v1 v2 v3 v4 v5 v6 v7 v8 v9 v10 v11 w1) : G66 w b0 b1 v0 v1 v2 v3 v4 v5 v6 v7 v8 v9 v10 v11 w2 := by
  obtain ⟨h0, h1, h2, h3, h4, h5, h6, h7, h8, h9, h10, h11, h12⟩ := h
  exact ⟨h0.trans k, kept_cell k h1, kept_cell k h2, kept_cell k h3, kept_cell k h4, kept_cell k h5, kept_cell k h6, kept_cell k h7, kept_cell k h8, kept_cell k h9, kept_cell k h10, kept_cell k h11, kept_cell k h12⟩
theorem G66.drew {w w1 : World} {b0 b1 : Nat} {v0 v1 v2 v3 v4 v5 v6 v7 v8 v9 v10 v11 : Value} (h : G66 w b0 b1 v0 v1 v2 v3 v4 v5 v6 v7 v8 v9 v10 v11 w1) : G66 w b0 b1 v0 v1 v2 v3 v4 v5 v6 v7 v8 v9 v10 v11 w1.drew := h.step (Kept.refl _).drew
def G66At (b0 b1 : Nat) (v0 v1 v2 v3 v4 v5 v6 v7 v8 v9 v10 v11 : Value) (w' : World) : Prop :=
  w'.cell? ⟨b0, 0, none⟩ = some v0 ∧
  w'.cell? ⟨b0, 1, none⟩ = some v1 ∧
  w'.cell? ⟨b0, 2, none⟩ = some v2 ∧
  w'.cell? ⟨b0, 3, none⟩ = some v3 ∧
  w'.cell? ⟨b0, 4, none⟩ = some v4 ∧
  w'.cell? ⟨b0, 5, none⟩ = some v5 ∧
  w'.cell? ⟨b1, 0, none⟩ = some v6 ∧
  w'.cell? ⟨b1, 1, none⟩ = some v7 ∧
  w'.cell? ⟨b1, 2, none⟩ = some v8 ∧
  w'.cell? ⟨b1, 3, none⟩ = some v9 ∧
  w'.cell? ⟨b1, 4, none⟩ = some v10 ∧
  w'.cell? ⟨b1, 5, none⟩ = some v11
theorem G66At.step {w1 w2 : World} {b0 b1 : Nat} {v0 v1 v2 v3 v4 v5 v6 v7 v8 v9 v10 v11 : Value} (k : Kept w1 w2) (h : G66At b0 b1 v0 v1 v2 v3 v4 v5 v6 v7 v8 v9 v10 v11 w1) : G66At b0 b1 v0 v1 v2 v3 v4 v5 v6 v7 v8 v9 v10 v11 w2 := by
  obtain ⟨h1, h2, h3, h4, h5, h6, h7, h8, h9, h10, h11, h12⟩ := h
  exact ⟨kept_cell k h1, kept_cell k h2, kept_cell k h3, kept_cell k h4, kept_cell k h5, kept_cell k h6, kept_cell k h7, kept_cell k h8, kept_cell k h9, kept_cell k h10, kept_cell k h11, kept_cell k h12⟩
theorem G66At.start {w1 : World} {b0 b1 : Nat} {v0 v1 v2 v3 v4 v5 v6 v7 v8 v9 v10 v11 : Value} (h : G66At b0 b1 v0 v1 v2 v3 v4 v5 v6 v7 v8 v9 v10 v11 w1) : G66 w1 b0 b1 v0 v1 v2 v3 v4 v5 v6 v7 v8 v9 v10 v11 w1.drew := ⟨(Kept.refl _).drew, h.step (Kept.refl _).drew⟩

def G36 (w : World) (b0 b1 : Nat) (v0 v1 v2 v3 v4 v5 v6 v7 v8 : Value) (w' : World) : Prop :=
  Kept w w' ∧
  w'.cell? ⟨b0, 0, none⟩ = some v0 ∧
  w'.cell? ⟨b0, 1, none⟩ = some v1 ∧
  w'.cell? ⟨b0, 2, none⟩ = some v2 ∧
  w'.cell? ⟨b1, 0, none⟩ = some v3 ∧
  w'.cell? ⟨b1, 1, none⟩ = some v4 ∧
  w'.cell? ⟨b1, 2, none⟩ = some v5 ∧
  w'.cell? ⟨b1, 3, none⟩ = some v6 ∧
  w'.cell? ⟨b1, 4, none⟩ = some v7 ∧
  w'.cell? ⟨b1, 5, none⟩ = some v8
theorem G36.step {w w1 w2 : World} {b0 b1 : Nat} {v0 v1 v2 v3 v4 v5 v6 v7 v8 : Value} (k : Kept w1 w2) (h : G36 w b0 b1 v0 v1 v2 v3 v4 v5 v6 v7 v8 w1) : G36 w b0 b1 v0 v1 v2 v3 v4 v5 v6 v7 v8 w2 := by
  obtain ⟨h0, h1, h2, h3, h4, h5, h6, h7, h8, h9⟩ := h
  exact ⟨h0.trans k, kept_cell k h1, kept_cell k h2, kept_cell k h3, kept_cell k h4, kept_cell k h5, kept_cell k h6, kept_cell k h7, kept_cell k h8, kept_cell k h9⟩
theorem G36.drew {w w1 : World} {b0 b1 : Nat} {v0 v1 v2 v3 v4 v5 v6 v7 v8 : Value} (h : G36 w b0 b1 v0 v1 v2 v3 v4 v5 v6 v7 v8 w1) : G36 w b0 b1 v0 v1 v2 v3 v4 v5 v6 v7 v8 w1.drew := h.step (Kept.refl _).drew
def G36At (b0 b1 : Nat) (v0 v1 v2 v3 v4 v5 v6 v7 v8 : Value) (w' : World) : Prop :=
  w'.cell? ⟨b0, 0, none⟩ = some v0 ∧
  w'.cell? ⟨b0, 1, none⟩ = some v1 ∧
  w'.cell? ⟨b0, 2, none⟩ = some v2 ∧
  w'.cell? ⟨b1, 0, none⟩ = some v3 ∧
  w'.cell? ⟨b1, 1, none⟩ = some v4 ∧
  w'.cell? ⟨b1, 2, none⟩ = some v5 ∧
  w'.cell? ⟨b1, 3, none⟩ = some v6 ∧
  w'.cell? ⟨b1, 4, none⟩ = some v7 ∧
  w'.cell? ⟨b1, 5, none⟩ = some v8
theorem G36At.step {w1 w2 : World} {b0 b1 : Nat} {v0 v1 v2 v3 v4 v5 v6 v7 v8 : Value} (k : Kept w1 w2) (h : G36At b0 b1 v0 v1 v2 v3 v4 v5 v6 v7 v8 w1) : G36At b0 b1 v0 v1 v2 v3 v4 v5 v6 v7 v8 w2 := by
  obtain ⟨h1, h2, h3, h4, h5, h6, h7, h8, h9⟩ := h
  exact ⟨kept_cell k h1, kept_cell k h2, kept_cell k h3, kept_cell k h4, kept_cell k h5, kept_cell k h6, kept_cell k h7, kept_cell k h8, kept_cell k h9⟩
theorem G36At.start {w1 : World} {b0 b1 : Nat} {v0 v1 v2 v3 v4 v5 v6 v7 v8 : Value} (h : G36At b0 b1 v0 v1 v2 v3 v4 v5 v6 v7 v8 w1) : G36 w1 b0 b1 v0 v1 v2 v3 v4 v5 v6 v7 v8 w1.drew := ⟨(Kept.refl _).drew, h.step (Kept.refl _).drew⟩

/-- A function that takes one of a vector's three numbers. -/
def Takes (pf : Nat) (g : Int → Int → Int → Int) : Prop := ∀ x y z w, Calls Tryz.prog pf #[.agg #[.int .i64 x, .int .i64 y, .int .i64 z]] w fun e w' => e = .returned (.int .i64 (g x y z)) ∧ Kept w w'
theorem takes0 : Takes 88 (fun x _ _ => x) := fun x y z w => part0_calls x y z w
theorem takes1 : Takes 89 (fun _ y _ => y) := fun x y z w => part1_calls x y z w
theorem takes2 : Takes 90 (fun _ _ z => z) := fun x y z w => part2_calls x y z w
set_option maxHeartbeats 4000000 in
theorem meet1_calls (pf : Nat) (g : Int → Int → Int → Int) (he : ∀ args w, (callFunc pf args).run Tryz.prog w = .ok (.enter pf args) w) (hg : Takes pf g)
    (p q : Nat) (a0 a1 a2 a3 a4 a5 b0 b1 b2 b3 b4 b5 : Int) (w : World) (H : G66At p q (.int .i64 a0) (.int .i64 a1) (.int .i64 a2) (.int .i64 a3) (.int .i64 a4) (.int .i64 a5) (.int .i64 b0) (.int .i64 b1) (.int .i64 b2) (.int .i64 b3) (.int .i64 b4) (.int .i64 b5) w) :
    Calls Tryz.prog 43 #[.func (.func pf) #[] #[], .pointer (some ⟨p, 0, none⟩), .pointer (some ⟨q, 0, none⟩)] w fun e w' => e = .returned (.bool (decide (g a0 a1 a2 ≤ g b3 b4 b5) && decide (g b0 b1 b2 ≤ g a3 a4 a5))) ∧ Kept w w' := by
  cases e1 : decide (g a0 a1 a2 ≤ g b3 b4 b5) with
  | false =>
    go_enter Tryz.func43, Tryz.ntmps43
    go_wp2
    refine wp_region_held_drew (S := (fun w' => Kept w w' ∧ w'.cell? ⟨p, 0, none⟩ = some (.int .i64 a0) ∧ w'.cell? ⟨p, 1, none⟩ = some (.int .i64 a1) ∧ w'.cell? ⟨p, 2, none⟩ = some (.int .i64 a2) ∧ w'.cell? ⟨p, 3, none⟩ = some (.int .i64 a3) ∧ w'.cell? ⟨p, 4, none⟩ = some (.int .i64 a4) ∧ w'.cell? ⟨p, 5, none⟩ = some (.int .i64 a5) ∧ w'.cell? ⟨q, 0, none⟩ = some (.int .i64 b0) ∧ w'.cell? ⟨q, 1, none⟩ = some (.int .i64 b1) ∧ w'.cell? ⟨q, 2, none⟩ = some (.int .i64 b2) ∧ w'.cell? ⟨q, 3, none⟩ = some (.int .i64 b3) ∧ w'.cell? ⟨q, 4, none⟩ = some (.int .i64 b4) ∧ w'.cell? ⟨q, 5, none⟩ = some (.int .i64 b5))) (by kernel_rfl) ?_ (fun hHeld1 => ?_)
    · (try dsimp only); exact G66At.start H
    refine tkW 0 rfl ?_; refine tkW 1 rfl ?_; refine tkW 2 rfl ?_; refine tkW 4 rfl ?_
    try simp only [Act.put, List.setIfInBounds_toArray, List.set_cons_zero, List.set_cons_succ, List.getElem_toArray, List.getElem_cons_succ, List.getElem_cons_zero]
    refine tkW 5 rfl ?_; refine tkW 6 rfl ?_
    try simp only [Act.put, List.setIfInBounds_toArray, List.set_cons_zero, List.set_cons_succ, List.getElem_toArray, List.getElem_cons_succ, List.getElem_cons_zero]
    refine wpAnyH_ready (rs := [3]) (by kernel_rfl) (by simp) ?_
    refine AllReadyH.cons rfl (fun K hK => ?_) AllReadyH.nil
    first | (with_reducible refine iteYes ?hcx ?htx; case hcx => kernel_rfl) | rw [if_pos (by rfl)]
    simp only [List.getElem_toArray, List.getElem_cons_succ, List.getElem_cons_zero]
    go_simp
    (go_at_fn pf; refine (hg _ _ _ _).mono ?_; rintro e w1 ⟨rfl, k1⟩)
    try go_wp2_with fail
    refine hK.out _ _ ?_ (fun hHeld2 => ?_)
    · (try dsimp only); exact G66.step k1 ‹_›
    clear hK K hHeld1
    try simp only [Act.put, List.setIfInBounds_toArray, List.set_cons_zero, List.set_cons_succ, List.getElem_toArray, List.getElem_cons_succ, List.getElem_cons_zero]
    refine wpAnyH_ready (rs := [7]) (by kernel_rfl) (by simp) ?_
    refine AllReadyH.cons rfl (fun K hK => ?_) AllReadyH.nil
    first | (with_reducible refine iteYes ?hcx ?htx; case hcx => kernel_rfl) | rw [if_pos (by rfl)]
    simp only [List.getElem_toArray, List.getElem_cons_succ, List.getElem_cons_zero]
    go_simp
    (go_at_fn pf; refine (hg _ _ _ _).mono ?_; rintro e w2 ⟨rfl, k2⟩)
    try go_wp2_with fail
    refine hK.out _ _ ?_ (fun hHeld3 => ?_)
    · (try dsimp only); exact G66.step k2 ‹_›
    clear hK K hHeld2
    try simp only [Act.put, List.setIfInBounds_toArray, List.set_cons_zero, List.set_cons_succ, List.getElem_toArray, List.getElem_cons_succ, List.getElem_cons_zero]
    refine tkW 8 rfl ?_; refine tkW 9 rfl ?_
    try simp only [Act.put, List.setIfInBounds_toArray, List.set_cons_zero, List.set_cons_succ, List.getElem_toArray, List.getElem_cons_succ, List.getElem_cons_zero]
    refine skW 10 rfl ?_; refine skW 11 rfl ?_; refine skW 12 rfl ?_; refine skW 13 rfl ?_
    try simp only [Act.put, List.setIfInBounds_toArray, List.set_cons_zero, List.set_cons_succ, List.getElem_toArray, List.getElem_cons_succ, List.getElem_cons_zero]
    refine skW 14 rfl ?_; refine skW 15 rfl ?_; refine skW 16 rfl ?_; refine skW 17 rfl ?_
    try simp only [Act.put, List.setIfInBounds_toArray, List.set_cons_zero, List.set_cons_succ, List.getElem_toArray, List.getElem_cons_succ, List.getElem_cons_zero]
    refine skW 18 rfl ?_
    try simp only [Act.put, List.setIfInBounds_toArray, List.set_cons_zero, List.set_cons_succ, List.getElem_toArray, List.getElem_cons_succ, List.getElem_cons_zero]
    refine tkW 19 rfl ?_; refine tkW 20 rfl ?_
    try simp only [Act.put, List.setIfInBounds_toArray, List.set_cons_zero, List.set_cons_succ, List.getElem_toArray, List.getElem_cons_succ, List.getElem_cons_zero]
    refine wpAnyH_done (by kernel_rfl) ?_ _
    go_wp2
    go_ret
    exact ⟨rfl, And.left (by assumption)⟩
  | true =>
    cases e2 : decide (g b0 b1 b2 ≤ g a3 a4 a5) with
    | false =>
      go_enter Tryz.func43, Tryz.ntmps43
      go_wp2
      refine wp_region_held_drew (S := (fun w' => Kept w w' ∧ w'.cell? ⟨p, 0, none⟩ = some (.int .i64 a0) ∧ w'.cell? ⟨p, 1, none⟩ = some (.int .i64 a1) ∧ w'.cell? ⟨p, 2, none⟩ = some (.int .i64 a2) ∧ w'.cell? ⟨p, 3, none⟩ = some (.int .i64 a3) ∧ w'.cell? ⟨p, 4, none⟩ = some (.int .i64 a4) ∧ w'.cell? ⟨p, 5, none⟩ = some (.int .i64 a5) ∧ w'.cell? ⟨q, 0, none⟩ = some (.int .i64 b0) ∧ w'.cell? ⟨q, 1, none⟩ = some (.int .i64 b1) ∧ w'.cell? ⟨q, 2, none⟩ = some (.int .i64 b2) ∧ w'.cell? ⟨q, 3, none⟩ = some (.int .i64 b3) ∧ w'.cell? ⟨q, 4, none⟩ = some (.int .i64 b4) ∧ w'.cell? ⟨q, 5, none⟩ = some (.int .i64 b5))) (by kernel_rfl) ?_ (fun hHeld1 => ?_)
      · (try dsimp only); exact G66At.start H
      refine tkW 0 rfl ?_; refine tkW 1 rfl ?_; refine tkW 2 rfl ?_; refine tkW 4 rfl ?_
      try simp only [Act.put, List.setIfInBounds_toArray, List.set_cons_zero, List.set_cons_succ, List.getElem_toArray, List.getElem_cons_succ, List.getElem_cons_zero]
      refine tkW 5 rfl ?_; refine tkW 6 rfl ?_
      try simp only [Act.put, List.setIfInBounds_toArray, List.set_cons_zero, List.set_cons_succ, List.getElem_toArray, List.getElem_cons_succ, List.getElem_cons_zero]
      refine wpAnyH_ready (rs := [3]) (by kernel_rfl) (by simp) ?_
      refine AllReadyH.cons rfl (fun K hK => ?_) AllReadyH.nil
      first | (with_reducible refine iteYes ?hcx ?htx; case hcx => kernel_rfl) | rw [if_pos (by rfl)]
      simp only [List.getElem_toArray, List.getElem_cons_succ, List.getElem_cons_zero]
      go_simp
      (go_at_fn pf; refine (hg _ _ _ _).mono ?_; rintro e w1 ⟨rfl, k1⟩)
      try go_wp2_with fail
      refine hK.out _ _ ?_ (fun hHeld2 => ?_)
      · (try dsimp only); exact G66.step k1 ‹_›
      clear hK K hHeld1
      try simp only [Act.put, List.setIfInBounds_toArray, List.set_cons_zero, List.set_cons_succ, List.getElem_toArray, List.getElem_cons_succ, List.getElem_cons_zero]
      refine wpAnyH_ready (rs := [7]) (by kernel_rfl) (by simp) ?_
      refine AllReadyH.cons rfl (fun K hK => ?_) AllReadyH.nil
      first | (with_reducible refine iteYes ?hcx ?htx; case hcx => kernel_rfl) | rw [if_pos (by rfl)]
      simp only [List.getElem_toArray, List.getElem_cons_succ, List.getElem_cons_zero]
      go_simp
      (go_at_fn pf; refine (hg _ _ _ _).mono ?_; rintro e w2 ⟨rfl, k2⟩)
      try go_wp2_with fail
      refine hK.out _ _ ?_ (fun hHeld3 => ?_)
      · (try dsimp only); exact G66.step k2 ‹_›
      clear hK K hHeld2
      try simp only [Act.put, List.setIfInBounds_toArray, List.set_cons_zero, List.set_cons_succ, List.getElem_toArray, List.getElem_cons_succ, List.getElem_cons_zero]
      refine tkW 8 rfl ?_; refine tkW 9 rfl ?_; refine tkW 10 rfl ?_; refine tkW 11 rfl ?_
      try simp only [Act.put, List.setIfInBounds_toArray, List.set_cons_zero, List.set_cons_succ, List.getElem_toArray, List.getElem_cons_succ, List.getElem_cons_zero]
      refine tkW 12 rfl ?_; refine tkW 14 rfl ?_; refine tkW 15 rfl ?_; refine tkW 16 rfl ?_
      try simp only [Act.put, List.setIfInBounds_toArray, List.set_cons_zero, List.set_cons_succ, List.getElem_toArray, List.getElem_cons_succ, List.getElem_cons_zero]
      refine wpAnyH_ready (rs := [13]) (by kernel_rfl) (by simp) ?_
      refine AllReadyH.cons rfl (fun K hK => ?_) AllReadyH.nil
      first | (with_reducible refine iteYes ?hcx ?htx; case hcx => kernel_rfl) | rw [if_pos (by rfl)]
      simp only [List.getElem_toArray, List.getElem_cons_succ, List.getElem_cons_zero]
      go_simp
      (go_at_fn pf; refine (hg _ _ _ _).mono ?_; rintro e w3 ⟨rfl, k3⟩)
      try go_wp2_with fail
      refine hK.out _ _ ?_ (fun hHeld4 => ?_)
      · (try dsimp only); exact G66.step k3 ‹_›
      clear hK K hHeld3
      try simp only [Act.put, List.setIfInBounds_toArray, List.set_cons_zero, List.set_cons_succ, List.getElem_toArray, List.getElem_cons_succ, List.getElem_cons_zero]
      refine wpAnyH_ready (rs := [17]) (by kernel_rfl) (by simp) ?_
      refine AllReadyH.cons rfl (fun K hK => ?_) AllReadyH.nil
      first | (with_reducible refine iteYes ?hcx ?htx; case hcx => kernel_rfl) | rw [if_pos (by rfl)]
      simp only [List.getElem_toArray, List.getElem_cons_succ, List.getElem_cons_zero]
      go_simp
      (go_at_fn pf; refine (hg _ _ _ _).mono ?_; rintro e w4 ⟨rfl, k4⟩)
      try go_wp2_with fail
      refine hK.out _ _ ?_ (fun hHeld5 => ?_)
      · (try dsimp only); exact G66.step k4 ‹_›
      clear hK K hHeld4
      try simp only [Act.put, List.setIfInBounds_toArray, List.set_cons_zero, List.set_cons_succ, List.getElem_toArray, List.getElem_cons_succ, List.getElem_cons_zero]
      refine tkW 18 rfl ?_; refine tkW 19 rfl ?_; refine tkW 20 rfl ?_
      try simp only [Act.put, List.setIfInBounds_toArray, List.set_cons_zero, List.set_cons_succ, List.getElem_toArray, List.getElem_cons_succ, List.getElem_cons_zero]
      refine wpAnyH_done (by kernel_rfl) ?_ _
      go_wp2
      go_ret
      exact ⟨rfl, And.left (by assumption)⟩
    | true =>
      go_enter Tryz.func43, Tryz.ntmps43
      go_wp2
      refine wp_region_held_drew (S := (fun w' => Kept w w' ∧ w'.cell? ⟨p, 0, none⟩ = some (.int .i64 a0) ∧ w'.cell? ⟨p, 1, none⟩ = some (.int .i64 a1) ∧ w'.cell? ⟨p, 2, none⟩ = some (.int .i64 a2) ∧ w'.cell? ⟨p, 3, none⟩ = some (.int .i64 a3) ∧ w'.cell? ⟨p, 4, none⟩ = some (.int .i64 a4) ∧ w'.cell? ⟨p, 5, none⟩ = some (.int .i64 a5) ∧ w'.cell? ⟨q, 0, none⟩ = some (.int .i64 b0) ∧ w'.cell? ⟨q, 1, none⟩ = some (.int .i64 b1) ∧ w'.cell? ⟨q, 2, none⟩ = some (.int .i64 b2) ∧ w'.cell? ⟨q, 3, none⟩ = some (.int .i64 b3) ∧ w'.cell? ⟨q, 4, none⟩ = some (.int .i64 b4) ∧ w'.cell? ⟨q, 5, none⟩ = some (.int .i64 b5))) (by kernel_rfl) ?_ (fun hHeld1 => ?_)
      · (try dsimp only); exact G66At.start H
      refine tkW 0 rfl ?_; refine tkW 1 rfl ?_; refine tkW 2 rfl ?_; refine tkW 4 rfl ?_
      try simp only [Act.put, List.setIfInBounds_toArray, List.set_cons_zero, List.set_cons_succ, List.getElem_toArray, List.getElem_cons_succ, List.getElem_cons_zero]
      refine tkW 5 rfl ?_; refine tkW 6 rfl ?_
      try simp only [Act.put, List.setIfInBounds_toArray, List.set_cons_zero, List.set_cons_succ, List.getElem_toArray, List.getElem_cons_succ, List.getElem_cons_zero]
      refine wpAnyH_ready (rs := [3]) (by kernel_rfl) (by simp) ?_
      refine AllReadyH.cons rfl (fun K hK => ?_) AllReadyH.nil
      first | (with_reducible refine iteYes ?hcx ?htx; case hcx => kernel_rfl) | rw [if_pos (by rfl)]
      simp only [List.getElem_toArray, List.getElem_cons_succ, List.getElem_cons_zero]
      go_simp
      (go_at_fn pf; refine (hg _ _ _ _).mono ?_; rintro e w1 ⟨rfl, k1⟩)
      try go_wp2_with fail
      refine hK.out _ _ ?_ (fun hHeld2 => ?_)
      · (try dsimp only); exact G66.step k1 ‹_›
      clear hK K hHeld1
      try simp only [Act.put, List.setIfInBounds_toArray, List.set_cons_zero, List.set_cons_succ, List.getElem_toArray, List.getElem_cons_succ, List.getElem_cons_zero]
      refine wpAnyH_ready (rs := [7]) (by kernel_rfl) (by simp) ?_
      refine AllReadyH.cons rfl (fun K hK => ?_) AllReadyH.nil
      first | (with_reducible refine iteYes ?hcx ?htx; case hcx => kernel_rfl) | rw [if_pos (by rfl)]
      simp only [List.getElem_toArray, List.getElem_cons_succ, List.getElem_cons_zero]
      go_simp
      (go_at_fn pf; refine (hg _ _ _ _).mono ?_; rintro e w2 ⟨rfl, k2⟩)
      try go_wp2_with fail
      refine hK.out _ _ ?_ (fun hHeld3 => ?_)
      · (try dsimp only); exact G66.step k2 ‹_›
      clear hK K hHeld2
      try simp only [Act.put, List.setIfInBounds_toArray, List.set_cons_zero, List.set_cons_succ, List.getElem_toArray, List.getElem_cons_succ, List.getElem_cons_zero]
      refine tkW 8 rfl ?_; refine tkW 9 rfl ?_; refine tkW 10 rfl ?_; refine tkW 11 rfl ?_
      try simp only [Act.put, List.setIfInBounds_toArray, List.set_cons_zero, List.set_cons_succ, List.getElem_toArray, List.getElem_cons_succ, List.getElem_cons_zero]
      refine tkW 12 rfl ?_; refine tkW 14 rfl ?_; refine tkW 15 rfl ?_; refine tkW 16 rfl ?_
      try simp only [Act.put, List.setIfInBounds_toArray, List.set_cons_zero, List.set_cons_succ, List.getElem_toArray, List.getElem_cons_succ, List.getElem_cons_zero]
      refine wpAnyH_ready (rs := [13]) (by kernel_rfl) (by simp) ?_
      refine AllReadyH.cons rfl (fun K hK => ?_) AllReadyH.nil
      first | (with_reducible refine iteYes ?hcx ?htx; case hcx => kernel_rfl) | rw [if_pos (by rfl)]
      simp only [List.getElem_toArray, List.getElem_cons_succ, List.getElem_cons_zero]
      go_simp
      (go_at_fn pf; refine (hg _ _ _ _).mono ?_; rintro e w3 ⟨rfl, k3⟩)
      try go_wp2_with fail
      refine hK.out _ _ ?_ (fun hHeld4 => ?_)
      · (try dsimp only); exact G66.step k3 ‹_›
      clear hK K hHeld3
      try simp only [Act.put, List.setIfInBounds_toArray, List.set_cons_zero, List.set_cons_succ, List.getElem_toArray, List.getElem_cons_succ, List.getElem_cons_zero]
      refine wpAnyH_ready (rs := [17]) (by kernel_rfl) (by simp) ?_
      refine AllReadyH.cons rfl (fun K hK => ?_) AllReadyH.nil
      first | (with_reducible refine iteYes ?hcx ?htx; case hcx => kernel_rfl) | rw [if_pos (by rfl)]
      simp only [List.getElem_toArray, List.getElem_cons_succ, List.getElem_cons_zero]
      go_simp
      (go_at_fn pf; refine (hg _ _ _ _).mono ?_; rintro e w4 ⟨rfl, k4⟩)
      try go_wp2_with fail
      refine hK.out _ _ ?_ (fun hHeld5 => ?_)
      · (try dsimp only); exact G66.step k4 ‹_›
      clear hK K hHeld4
      try simp only [Act.put, List.setIfInBounds_toArray, List.set_cons_zero, List.set_cons_succ, List.getElem_toArray, List.getElem_cons_succ, List.getElem_cons_zero]
      refine tkW 18 rfl ?_; refine tkW 19 rfl ?_; refine tkW 20 rfl ?_
      try simp only [Act.put, List.setIfInBounds_toArray, List.set_cons_zero, List.set_cons_succ, List.getElem_toArray, List.getElem_cons_succ, List.getElem_cons_zero]
      refine wpAnyH_done (by kernel_rfl) ?_ _
      go_wp2
      go_ret
      exact ⟨rfl, And.left (by assumption)⟩
set_option maxHeartbeats 4000000 in
theorem within1g_calls (pf : Nat) (g : Int → Int → Int → Int) (he : ∀ args w, (callFunc pf args).run Tryz.prog w = .ok (.enter pf args) w) (hg : Takes pf g)
    (p q : Nat) (a0 a1 a2 a3 a4 a5 b0 b1 b2 b3 b4 b5 : Int) (w : World) (H : G66At p q (.int .i64 a0) (.int .i64 a1) (.int .i64 a2) (.int .i64 a3) (.int .i64 a4) (.int .i64 a5) (.int .i64 b0) (.int .i64 b1) (.int .i64 b2) (.int .i64 b3) (.int .i64 b4) (.int .i64 b5) w) :
    Calls Tryz.prog 44 #[.func (.func pf) #[] #[], .pointer (some ⟨p, 0, none⟩), .pointer (some ⟨q, 0, none⟩)] w fun e w' => e = .returned (.bool (decide (g b0 b1 b2 ≤ g a0 a1 a2) && decide (g a3 a4 a5 ≤ g b3 b4 b5))) ∧ Kept w w' := by
  cases e1 : decide (g b0 b1 b2 ≤ g a0 a1 a2) with
  | false =>
    go_enter Tryz.func44, Tryz.ntmps44
    go_wp2
    refine wp_region_held_drew (S := (fun w' => Kept w w' ∧ w'.cell? ⟨p, 0, none⟩ = some (.int .i64 a0) ∧ w'.cell? ⟨p, 1, none⟩ = some (.int .i64 a1) ∧ w'.cell? ⟨p, 2, none⟩ = some (.int .i64 a2) ∧ w'.cell? ⟨p, 3, none⟩ = some (.int .i64 a3) ∧ w'.cell? ⟨p, 4, none⟩ = some (.int .i64 a4) ∧ w'.cell? ⟨p, 5, none⟩ = some (.int .i64 a5) ∧ w'.cell? ⟨q, 0, none⟩ = some (.int .i64 b0) ∧ w'.cell? ⟨q, 1, none⟩ = some (.int .i64 b1) ∧ w'.cell? ⟨q, 2, none⟩ = some (.int .i64 b2) ∧ w'.cell? ⟨q, 3, none⟩ = some (.int .i64 b3) ∧ w'.cell? ⟨q, 4, none⟩ = some (.int .i64 b4) ∧ w'.cell? ⟨q, 5, none⟩ = some (.int .i64 b5))) (by kernel_rfl) ?_ (fun hHeld1 => ?_)
    · (try dsimp only); exact G66At.start H
    refine tkW 0 rfl ?_; refine tkW 1 rfl ?_; refine tkW 2 rfl ?_; refine tkW 4 rfl ?_
    try simp only [Act.put, List.setIfInBounds_toArray, List.set_cons_zero, List.set_cons_succ, List.getElem_toArray, List.getElem_cons_succ, List.getElem_cons_zero]
    refine tkW 5 rfl ?_; refine tkW 6 rfl ?_
    try simp only [Act.put, List.setIfInBounds_toArray, List.set_cons_zero, List.set_cons_succ, List.getElem_toArray, List.getElem_cons_succ, List.getElem_cons_zero]
    refine wpAnyH_ready (rs := [3]) (by kernel_rfl) (by simp) ?_
    refine AllReadyH.cons rfl (fun K hK => ?_) AllReadyH.nil
    first | (with_reducible refine iteYes ?hcx ?htx; case hcx => kernel_rfl) | rw [if_pos (by rfl)]
    simp only [List.getElem_toArray, List.getElem_cons_succ, List.getElem_cons_zero]
    go_simp
    (go_at_fn pf; refine (hg _ _ _ _).mono ?_; rintro e w1 ⟨rfl, k1⟩)
    try go_wp2_with fail
    refine hK.out _ _ ?_ (fun hHeld2 => ?_)
    · (try dsimp only); exact G66.step k1 ‹_›
    clear hK K hHeld1
    try simp only [Act.put, List.setIfInBounds_toArray, List.set_cons_zero, List.set_cons_succ, List.getElem_toArray, List.getElem_cons_succ, List.getElem_cons_zero]
    refine wpAnyH_ready (rs := [7]) (by kernel_rfl) (by simp) ?_
    refine AllReadyH.cons rfl (fun K hK => ?_) AllReadyH.nil
    first | (with_reducible refine iteYes ?hcx ?htx; case hcx => kernel_rfl) | rw [if_pos (by rfl)]
    simp only [List.getElem_toArray, List.getElem_cons_succ, List.getElem_cons_zero]
    go_simp
    (go_at_fn pf; refine (hg _ _ _ _).mono ?_; rintro e w2 ⟨rfl, k2⟩)
    try go_wp2_with fail
    refine hK.out _ _ ?_ (fun hHeld3 => ?_)
    · (try dsimp only); exact G66.step k2 ‹_›
    clear hK K hHeld2
    try simp only [Act.put, List.setIfInBounds_toArray, List.set_cons_zero, List.set_cons_succ, List.getElem_toArray, List.getElem_cons_succ, List.getElem_cons_zero]
    refine tkW 8 rfl ?_; refine tkW 9 rfl ?_
    try simp only [Act.put, List.setIfInBounds_toArray, List.set_cons_zero, List.set_cons_succ, List.getElem_toArray, List.getElem_cons_succ, List.getElem_cons_zero]
    refine skW 10 rfl ?_; refine skW 11 rfl ?_; refine skW 12 rfl ?_; refine skW 13 rfl ?_
    try simp only [Act.put, List.setIfInBounds_toArray, List.set_cons_zero, List.set_cons_succ, List.getElem_toArray, List.getElem_cons_succ, List.getElem_cons_zero]
    refine skW 14 rfl ?_; refine skW 15 rfl ?_; refine skW 16 rfl ?_; refine skW 17 rfl ?_
    try simp only [Act.put, List.setIfInBounds_toArray, List.set_cons_zero, List.set_cons_succ, List.getElem_toArray, List.getElem_cons_succ, List.getElem_cons_zero]
    refine skW 18 rfl ?_
    try simp only [Act.put, List.setIfInBounds_toArray, List.set_cons_zero, List.set_cons_succ, List.getElem_toArray, List.getElem_cons_succ, List.getElem_cons_zero]
    refine tkW 19 rfl ?_; refine tkW 20 rfl ?_
    try simp only [Act.put, List.setIfInBounds_toArray, List.set_cons_zero, List.set_cons_succ, List.getElem_toArray, List.getElem_cons_succ, List.getElem_cons_zero]
    refine wpAnyH_done (by kernel_rfl) ?_ _
    go_wp2
    go_ret
    exact ⟨rfl, And.left (by assumption)⟩
  | true =>
    cases e2 : decide (g a3 a4 a5 ≤ g b3 b4 b5) with
    | false =>
      go_enter Tryz.func44, Tryz.ntmps44
      go_wp2
      refine wp_region_held_drew (S := (fun w' => Kept w w' ∧ w'.cell? ⟨p, 0, none⟩ = some (.int .i64 a0) ∧ w'.cell? ⟨p, 1, none⟩ = some (.int .i64 a1) ∧ w'.cell? ⟨p, 2, none⟩ = some (.int .i64 a2) ∧ w'.cell? ⟨p, 3, none⟩ = some (.int .i64 a3) ∧ w'.cell? ⟨p, 4, none⟩ = some (.int .i64 a4) ∧ w'.cell? ⟨p, 5, none⟩ = some (.int .i64 a5) ∧ w'.cell? ⟨q, 0, none⟩ = some (.int .i64 b0) ∧ w'.cell? ⟨q, 1, none⟩ = some (.int .i64 b1) ∧ w'.cell? ⟨q, 2, none⟩ = some (.int .i64 b2) ∧ w'.cell? ⟨q, 3, none⟩ = some (.int .i64 b3) ∧ w'.cell? ⟨q, 4, none⟩ = some (.int .i64 b4) ∧ w'.cell? ⟨q, 5, none⟩ = some (.int .i64 b5))) (by kernel_rfl) ?_ (fun hHeld1 => ?_)
      · (try dsimp only); exact G66At.start H
      refine tkW 0 rfl ?_; refine tkW 1 rfl ?_; refine tkW 2 rfl ?_; refine tkW 4 rfl ?_
      try simp only [Act.put, List.setIfInBounds_toArray, List.set_cons_zero, List.set_cons_succ, List.getElem_toArray, List.getElem_cons_succ, List.getElem_cons_zero]
      refine tkW 5 rfl ?_; refine tkW 6 rfl ?_
      try simp only [Act.put, List.setIfInBounds_toArray, List.set_cons_zero, List.set_cons_succ, List.getElem_toArray, List.getElem_cons_succ, List.getElem_cons_zero]
      refine wpAnyH_ready (rs := [3]) (by kernel_rfl) (by simp) ?_
      refine AllReadyH.cons rfl (fun K hK => ?_) AllReadyH.nil
      first | (with_reducible refine iteYes ?hcx ?htx; case hcx => kernel_rfl) | rw [if_pos (by rfl)]
      simp only [List.getElem_toArray, List.getElem_cons_succ, List.getElem_cons_zero]
      go_simp
      (go_at_fn pf; refine (hg _ _ _ _).mono ?_; rintro e w1 ⟨rfl, k1⟩)
      try go_wp2_with fail
      refine hK.out _ _ ?_ (fun hHeld2 => ?_)
      · (try dsimp only); exact G66.step k1 ‹_›
      clear hK K hHeld1
      try simp only [Act.put, List.setIfInBounds_toArray, List.set_cons_zero, List.set_cons_succ, List.getElem_toArray, List.getElem_cons_succ, List.getElem_cons_zero]
      refine wpAnyH_ready (rs := [7]) (by kernel_rfl) (by simp) ?_
      refine AllReadyH.cons rfl (fun K hK => ?_) AllReadyH.nil
      first | (with_reducible refine iteYes ?hcx ?htx; case hcx => kernel_rfl) | rw [if_pos (by rfl)]
      simp only [List.getElem_toArray, List.getElem_cons_succ, List.getElem_cons_zero]
      go_simp
      (go_at_fn pf; refine (hg _ _ _ _).mono ?_; rintro e w2 ⟨rfl, k2⟩)
      try go_wp2_with fail
      refine hK.out _ _ ?_ (fun hHeld3 => ?_)
      · (try dsimp only); exact G66.step k2 ‹_›
      clear hK K hHeld2
      try simp only [Act.put, List.setIfInBounds_toArray, List.set_cons_zero, List.set_cons_succ, List.getElem_toArray, List.getElem_cons_succ, List.getElem_cons_zero]
      refine tkW 8 rfl ?_; refine tkW 9 rfl ?_; refine tkW 10 rfl ?_; refine tkW 11 rfl ?_
      try simp only [Act.put, List.setIfInBounds_toArray, List.set_cons_zero, List.set_cons_succ, List.getElem_toArray, List.getElem_cons_succ, List.getElem_cons_zero]
      refine tkW 12 rfl ?_; refine tkW 14 rfl ?_; refine tkW 15 rfl ?_; refine tkW 16 rfl ?_
      try simp only [Act.put, List.setIfInBounds_toArray, List.set_cons_zero, List.set_cons_succ, List.getElem_toArray, List.getElem_cons_succ, List.getElem_cons_zero]
      refine wpAnyH_ready (rs := [13]) (by kernel_rfl) (by simp) ?_
      refine AllReadyH.cons rfl (fun K hK => ?_) AllReadyH.nil
      first | (with_reducible refine iteYes ?hcx ?htx; case hcx => kernel_rfl) | rw [if_pos (by rfl)]
      simp only [List.getElem_toArray, List.getElem_cons_succ, List.getElem_cons_zero]
      go_simp
      (go_at_fn pf; refine (hg _ _ _ _).mono ?_; rintro e w3 ⟨rfl, k3⟩)
      try go_wp2_with fail
      refine hK.out _ _ ?_ (fun hHeld4 => ?_)
      · (try dsimp only); exact G66.step k3 ‹_›
      clear hK K hHeld3
      try simp only [Act.put, List.setIfInBounds_toArray, List.set_cons_zero, List.set_cons_succ, List.getElem_toArray, List.getElem_cons_succ, List.getElem_cons_zero]
      refine wpAnyH_ready (rs := [17]) (by kernel_rfl) (by simp) ?_
      refine AllReadyH.cons rfl (fun K hK => ?_) AllReadyH.nil
      first | (with_reducible refine iteYes ?hcx ?htx; case hcx => kernel_rfl) | rw [if_pos (by rfl)]
      simp only [List.getElem_toArray, List.getElem_cons_succ, List.getElem_cons_zero]
      go_simp
      (go_at_fn pf; refine (hg _ _ _ _).mono ?_; rintro e w4 ⟨rfl, k4⟩)
      try go_wp2_with fail
      refine hK.out _ _ ?_ (fun hHeld5 => ?_)
      · (try dsimp only); exact G66.step k4 ‹_›
      clear hK K hHeld4
      try simp only [Act.put, List.setIfInBounds_toArray, List.set_cons_zero, List.set_cons_succ, List.getElem_toArray, List.getElem_cons_succ, List.getElem_cons_zero]
      refine tkW 18 rfl ?_; refine tkW 19 rfl ?_; refine tkW 20 rfl ?_
      try simp only [Act.put, List.setIfInBounds_toArray, List.set_cons_zero, List.set_cons_succ, List.getElem_toArray, List.getElem_cons_succ, List.getElem_cons_zero]
      refine wpAnyH_done (by kernel_rfl) ?_ _
      go_wp2
      go_ret
      exact ⟨rfl, And.left (by assumption)⟩
    | true =>
      go_enter Tryz.func44, Tryz.ntmps44
      go_wp2
      refine wp_region_held_drew (S := (fun w' => Kept w w' ∧ w'.cell? ⟨p, 0, none⟩ = some (.int .i64 a0) ∧ w'.cell? ⟨p, 1, none⟩ = some (.int .i64 a1) ∧ w'.cell? ⟨p, 2, none⟩ = some (.int .i64 a2) ∧ w'.cell? ⟨p, 3, none⟩ = some (.int .i64 a3) ∧ w'.cell? ⟨p, 4, none⟩ = some (.int .i64 a4) ∧ w'.cell? ⟨p, 5, none⟩ = some (.int .i64 a5) ∧ w'.cell? ⟨q, 0, none⟩ = some (.int .i64 b0) ∧ w'.cell? ⟨q, 1, none⟩ = some (.int .i64 b1) ∧ w'.cell? ⟨q, 2, none⟩ = some (.int .i64 b2) ∧ w'.cell? ⟨q, 3, none⟩ = some (.int .i64 b3) ∧ w'.cell? ⟨q, 4, none⟩ = some (.int .i64 b4) ∧ w'.cell? ⟨q, 5, none⟩ = some (.int .i64 b5))) (by kernel_rfl) ?_ (fun hHeld1 => ?_)
      · (try dsimp only); exact G66At.start H
      refine tkW 0 rfl ?_; refine tkW 1 rfl ?_; refine tkW 2 rfl ?_; refine tkW 4 rfl ?_
      try simp only [Act.put, List.setIfInBounds_toArray, List.set_cons_zero, List.set_cons_succ, List.getElem_toArray, List.getElem_cons_succ, List.getElem_cons_zero]
      refine tkW 5 rfl ?_; refine tkW 6 rfl ?_
      try simp only [Act.put, List.setIfInBounds_toArray, List.set_cons_zero, List.set_cons_succ, List.getElem_toArray, List.getElem_cons_succ, List.getElem_cons_zero]
      refine wpAnyH_ready (rs := [3]) (by kernel_rfl) (by simp) ?_
      refine AllReadyH.cons rfl (fun K hK => ?_) AllReadyH.nil
      first | (with_reducible refine iteYes ?hcx ?htx; case hcx => kernel_rfl) | rw [if_pos (by rfl)]
      simp only [List.getElem_toArray, List.getElem_cons_succ, List.getElem_cons_zero]
      go_simp
      (go_at_fn pf; refine (hg _ _ _ _).mono ?_; rintro e w1 ⟨rfl, k1⟩)
      try go_wp2_with fail
      refine hK.out _ _ ?_ (fun hHeld2 => ?_)
      · (try dsimp only); exact G66.step k1 ‹_›
      clear hK K hHeld1
      try simp only [Act.put, List.setIfInBounds_toArray, List.set_cons_zero, List.set_cons_succ, List.getElem_toArray, List.getElem_cons_succ, List.getElem_cons_zero]
      refine wpAnyH_ready (rs := [7]) (by kernel_rfl) (by simp) ?_
      refine AllReadyH.cons rfl (fun K hK => ?_) AllReadyH.nil
      first | (with_reducible refine iteYes ?hcx ?htx; case hcx => kernel_rfl) | rw [if_pos (by rfl)]
      simp only [List.getElem_toArray, List.getElem_cons_succ, List.getElem_cons_zero]
      go_simp
      (go_at_fn pf; refine (hg _ _ _ _).mono ?_; rintro e w2 ⟨rfl, k2⟩)
      try go_wp2_with fail
      refine hK.out _ _ ?_ (fun hHeld3 => ?_)
      · (try dsimp only); exact G66.step k2 ‹_›
      clear hK K hHeld2
      try simp only [Act.put, List.setIfInBounds_toArray, List.set_cons_zero, List.set_cons_succ, List.getElem_toArray, List.getElem_cons_succ, List.getElem_cons_zero]
      refine tkW 8 rfl ?_; refine tkW 9 rfl ?_; refine tkW 10 rfl ?_; refine tkW 11 rfl ?_
      try simp only [Act.put, List.setIfInBounds_toArray, List.set_cons_zero, List.set_cons_succ, List.getElem_toArray, List.getElem_cons_succ, List.getElem_cons_zero]
      refine tkW 12 rfl ?_; refine tkW 14 rfl ?_; refine tkW 15 rfl ?_; refine tkW 16 rfl ?_
      try simp only [Act.put, List.setIfInBounds_toArray, List.set_cons_zero, List.set_cons_succ, List.getElem_toArray, List.getElem_cons_succ, List.getElem_cons_zero]
      refine wpAnyH_ready (rs := [13]) (by kernel_rfl) (by simp) ?_
      refine AllReadyH.cons rfl (fun K hK => ?_) AllReadyH.nil
      first | (with_reducible refine iteYes ?hcx ?htx; case hcx => kernel_rfl) | rw [if_pos (by rfl)]
      simp only [List.getElem_toArray, List.getElem_cons_succ, List.getElem_cons_zero]
      go_simp
      (go_at_fn pf; refine (hg _ _ _ _).mono ?_; rintro e w3 ⟨rfl, k3⟩)
      try go_wp2_with fail
      refine hK.out _ _ ?_ (fun hHeld4 => ?_)
      · (try dsimp only); exact G66.step k3 ‹_›
      clear hK K hHeld3
      try simp only [Act.put, List.setIfInBounds_toArray, List.set_cons_zero, List.set_cons_succ, List.getElem_toArray, List.getElem_cons_succ, List.getElem_cons_zero]
      refine wpAnyH_ready (rs := [17]) (by kernel_rfl) (by simp) ?_
      refine AllReadyH.cons rfl (fun K hK => ?_) AllReadyH.nil
      first | (with_reducible refine iteYes ?hcx ?htx; case hcx => kernel_rfl) | rw [if_pos (by rfl)]
      simp only [List.getElem_toArray, List.getElem_cons_succ, List.getElem_cons_zero]
      go_simp
      (go_at_fn pf; refine (hg _ _ _ _).mono ?_; rintro e w4 ⟨rfl, k4⟩)
      try go_wp2_with fail
      refine hK.out _ _ ?_ (fun hHeld5 => ?_)
      · (try dsimp only); exact G66.step k4 ‹_›
      clear hK K hHeld4
      try simp only [Act.put, List.setIfInBounds_toArray, List.set_cons_zero, List.set_cons_succ, List.getElem_toArray, List.getElem_cons_succ, List.getElem_cons_zero]
      refine tkW 18 rfl ?_; refine tkW 19 rfl ?_; refine tkW 20 rfl ?_
      try simp only [Act.put, List.setIfInBounds_toArray, List.set_cons_zero, List.set_cons_succ, List.getElem_toArray, List.getElem_cons_succ, List.getElem_cons_zero]
      refine wpAnyH_done (by kernel_rfl) ?_ _
      go_wp2
      go_ret
      exact ⟨rfl, And.left (by assumption)⟩
end Go.Proofs.YtdhbcgdlmkkdfaaGreatDoor
