/- geom.ballTouches answers what chapter 2 says: whatever the Ball's size, its place and the box. -/
import Derived.Test.YthhpcfnoiooopaaGeo15
namespace Go.Proofs.Ythhpcfnoiooopaa
open Go.ChangeShapes Go.WideShapes Go.ChangeAt Go.RowKit
set_option linter.unusedSimpArgs false

def G36x (w : World) (b0 b1 : Nat) (v0 v1 v2 v3 v4 v5 v6 v7 v8 : Value) (w' : World) : Prop :=
  Kept w w' ∧
  w'.cell? ⟨b0, 0, none⟩ = some v0 ∧
  w'.cell? ⟨b0, 1, none⟩ = some v1 ∧
  w'.cell? ⟨b0, 2, none⟩ = some v2 ∧
  w'.cell? ⟨b1, 0, none⟩ = some v3 ∧
  w'.cell? ⟨b1, 1, none⟩ = some v4 ∧
  w'.cell? ⟨b1, 2, none⟩ = some v5 ∧
  w'.cell? ⟨b1, 3, none⟩ = some v6 ∧
  w'.cell? ⟨b1, 4, none⟩ = some v7 ∧
  w'.cell? ⟨b1, 5, none⟩ = some v8
theorem G36x.step {w w1 w2 : World} {b0 b1 : Nat} {v0 v1 v2 v3 v4 v5 v6 v7 v8 : Value} (k : Kept w1 w2) (h : G36x w b0 b1 v0 v1 v2 v3 v4 v5 v6 v7 v8 w1) : G36x w b0 b1 v0 v1 v2 v3 v4 v5 v6 v7 v8 w2 := by
  obtain ⟨h0, h1, h2, h3, h4, h5, h6, h7, h8, h9⟩ := h
  exact ⟨h0.trans k, kept_cell k h1, kept_cell k h2, kept_cell k h3, kept_cell k h4, kept_cell k h5, kept_cell k h6, kept_cell k h7, kept_cell k h8, kept_cell k h9⟩
theorem G36x.drew {w w1 : World} {b0 b1 : Nat} {v0 v1 v2 v3 v4 v5 v6 v7 v8 : Value} (h : G36x w b0 b1 v0 v1 v2 v3 v4 v5 v6 v7 v8 w1) : G36x w b0 b1 v0 v1 v2 v3 v4 v5 v6 v7 v8 w1.drew := h.step (Kept.refl _).drew
def G36xAt (b0 b1 : Nat) (v0 v1 v2 v3 v4 v5 v6 v7 v8 : Value) (w' : World) : Prop :=
  w'.cell? ⟨b0, 0, none⟩ = some v0 ∧
  w'.cell? ⟨b0, 1, none⟩ = some v1 ∧
  w'.cell? ⟨b0, 2, none⟩ = some v2 ∧
  w'.cell? ⟨b1, 0, none⟩ = some v3 ∧
  w'.cell? ⟨b1, 1, none⟩ = some v4 ∧
  w'.cell? ⟨b1, 2, none⟩ = some v5 ∧
  w'.cell? ⟨b1, 3, none⟩ = some v6 ∧
  w'.cell? ⟨b1, 4, none⟩ = some v7 ∧
  w'.cell? ⟨b1, 5, none⟩ = some v8
theorem G36xAt.step {w1 w2 : World} {b0 b1 : Nat} {v0 v1 v2 v3 v4 v5 v6 v7 v8 : Value} (k : Kept w1 w2) (h : G36xAt b0 b1 v0 v1 v2 v3 v4 v5 v6 v7 v8 w1) : G36xAt b0 b1 v0 v1 v2 v3 v4 v5 v6 v7 v8 w2 := by
  obtain ⟨h1, h2, h3, h4, h5, h6, h7, h8, h9⟩ := h
  exact ⟨kept_cell k h1, kept_cell k h2, kept_cell k h3, kept_cell k h4, kept_cell k h5, kept_cell k h6, kept_cell k h7, kept_cell k h8, kept_cell k h9⟩
theorem G36xAt.start {w1 : World} {b0 b1 : Nat} {v0 v1 v2 v3 v4 v5 v6 v7 v8 : Value} (h : G36xAt b0 b1 v0 v1 v2 v3 v4 v5 v6 v7 v8 w1) : G36x w1 b0 b1 v0 v1 v2 v3 v4 v5 v6 v7 v8 w1.drew := ⟨(Kept.refl _).drew, h.step (Kept.refl _).drew⟩

def gap (p l h : Int) : Int := sub (near p l h) p
def inT (s : Int) (E : Ex) : T := ⟨E.x, E.y, E.z, add E.d s, true⟩
/-- A Ball at p and a box, by the vector from p to the box. -/
def ballV (s v0 v1 v2 : Int) (t : T) : T := if v0 = 0 ∧ v1 = 0 ∧ v2 = 0 then t else reachT s v0 v1 v2
theorem ballV_in {s v0 v1 v2 : Int} {t : T} (h : v0 = 0 ∧ v1 = 0 ∧ v2 = 0) : ballV s v0 v1 v2 t = t := by unfold ballV; rw [if_pos h]
theorem ballV_out {s v0 v1 v2 : Int} {t : T} (h : ¬ (v0 = 0 ∧ v1 = 0 ∧ v2 = 0)) : ballV s v0 v1 v2 t = reachT s v0 v1 v2 := by unfold ballV; rw [if_neg h]
def ballT (s p0 p1 p2 b0 b1 b2 b3 b4 b5 : Int) : T := ballV s (gap p0 b0 b3) (gap p1 b1 b4) (gap p2 b2 b5) (inT s (outE p0 p1 p2 p0 p1 p2 b0 b1 b2 b3 b4 b5))
set_option maxHeartbeats 8000000 in
theorem ballTouches_calls (s p0 p1 p2 b0 b1 b2 b3 b4 b5 : Int) (w : World) :
    Calls Try.prog 83 #[.int .i64 s, .agg #[.int .i64 p0, .int .i64 p1, .int .i64 p2], .agg #[.int .i64 b0, .int .i64 b1, .int .i64 b2, .int .i64 b3, .int .i64 b4, .int .i64 b5]] w fun e w' => e = .returned (.tuple #[.agg #[.int .i64 ((ballT s p0 p1 p2 b0 b1 b2 b3 b4 b5).x), .int .i64 ((ballT s p0 p1 p2 b0 b1 b2 b3 b4 b5).y), .int .i64 ((ballT s p0 p1 p2 b0 b1 b2 b3 b4 b5).z)], .int .i64 ((ballT s p0 p1 p2 b0 b1 b2 b3 b4 b5).d), .bool (ballT s p0 p1 p2 b0 b1 b2 b3 b4 b5).ok]) ∧ Kept w w' := by
  go_enter Try.func83, Try.ntmps83
  go_wp2
  have HA : G36xAt w.heap.size (w.heap.size + 1) (.int .i64 p0) (.int .i64 p1) (.int .i64 p2) (.int .i64 b0) (.int .i64 b1) (.int .i64 b2) (.int .i64 b3) (.int .i64 b4) (.int .i64 b5) (((w.alloc (.cells #[.int .i64 p0, .int .i64 p1, .int .i64 p2] 26)).alloc (.cells #[.int .i64 b0, .int .i64 b1, .int .i64 b2, .int .i64 b3, .int .i64 b4, .int .i64 b5] 37)).alloc (.cells #[.int .i64 0, .int .i64 0, .int .i64 0] 26)) := by
    refine ⟨?_, ?_, ?_, ?_, ?_, ?_, ?_, ?_, ?_⟩ <;> go_simp
  have hkA : Kept w (((w.alloc (.cells #[.int .i64 p0, .int .i64 p1, .int .i64 p2] 26)).alloc (.cells #[.int .i64 b0, .int .i64 b1, .int .i64 b2, .int .i64 b3, .int .i64 b4, .int .i64 b5] 37)).alloc (.cells #[.int .i64 0, .int .i64 0, .int .i64 0] 26)) := (((Kept.refl w).alloc _ _).alloc _ _).alloc _ _
  have RC : ∀ i, i < 3 → (((w.alloc (.cells #[.int .i64 p0, .int .i64 p1, .int .i64 p2] 26)).alloc (.cells #[.int .i64 b0, .int .i64 b1, .int .i64 b2, .int .i64 b3, .int .i64 b4, .int .i64 b5] 37)).alloc (.cells #[.int .i64 0, .int .i64 0, .int .i64 0] 26)).cell? ⟨w.heap.size + 1 + 1, i, none⟩ = some (.int .i64 0) := by
    intro i hi
    obtain rfl | rfl | rfl : i = 0 ∨ i = 1 ∨ i = 2 := by omega
    all_goals go_simp
  have RF : ∀ i, (((w.alloc (.cells #[.int .i64 p0, .int .i64 p1, .int .i64 p2] 26)).alloc (.cells #[.int .i64 b0, .int .i64 b1, .int .i64 b2, .int .i64 b3, .int .i64 b4, .int .i64 b5] 37)).alloc (.cells #[.int .i64 0, .int .i64 0, .int .i64 0] 26)).frozen? ⟨w.heap.size + 1 + 1, i, none⟩ = false := by intro i; go_simp
  generalize (((w.alloc (.cells #[.int .i64 p0, .int .i64 p1, .int .i64 p2] 26)).alloc (.cells #[.int .i64 b0, .int .i64 b1, .int .i64 b2, .int .i64 b3, .int .i64 b4, .int .i64 b5] 37)).alloc (.cells #[.int .i64 0, .int .i64 0, .int .i64 0] 26)) = wA at HA hkA RC RF ⊢
  have RC' : Aside _ := RC
  have RF' : Aside _ := RF
  clear RC RF
  go_cut [9] from 10 (fun s9 wc => ∃ p, s9 = .pointer (some ⟨p, 0, none⟩) ∧ Kept wA wc ∧ wc.cell? ⟨p, 0, none⟩ = some (.int .i64 (gap p0 b0 b3)) ∧ wc.cell? ⟨p, 1, none⟩ = some (.int .i64 (gap p1 b1 b4)) ∧ wc.cell? ⟨p, 2, none⟩ = some (.int .i64 (gap p2 b2 b5)))
  case first =>
    refine wp_region_held_drew (S := (fun w' => Kept wA w' ∧ w'.cell? ⟨w.heap.size, 0, none⟩ = some (.int .i64 p0) ∧ w'.cell? ⟨w.heap.size, 1, none⟩ = some (.int .i64 p1) ∧ w'.cell? ⟨w.heap.size, 2, none⟩ = some (.int .i64 p2) ∧ w'.cell? ⟨w.heap.size + 1, 0, none⟩ = some (.int .i64 b0) ∧ w'.cell? ⟨w.heap.size + 1, 1, none⟩ = some (.int .i64 b1) ∧ w'.cell? ⟨w.heap.size + 1, 2, none⟩ = some (.int .i64 b2) ∧ w'.cell? ⟨w.heap.size + 1, 3, none⟩ = some (.int .i64 b3) ∧ w'.cell? ⟨w.heap.size + 1, 4, none⟩ = some (.int .i64 b4) ∧ w'.cell? ⟨w.heap.size + 1, 5, none⟩ = some (.int .i64 b5))) (by kernel_rfl) ?_ (fun hH0 => ?_)
    · (try dsimp only); exact ⟨(Kept.refl _).drew, HA.step (Kept.refl _).drew⟩
    refine wpAnyH_take (i := 0) (v := ?_) rfl (by kernel_rfl) (by kernel_rfl) (by kernel_rfl) (fun _ _ _ h => h) (Or.inl ⟨by rfl, ?_⟩) (by assumption) ?_
    rotate_left
    · intro w'' hSw; (try dsimp only at hSw); simp only [List.getElem_toArray, List.getElem_cons_succ, List.getElem_cons_zero]; (go_simp <;> with_reducible rfl)
    try simp only [Act.put, List.setIfInBounds_toArray, List.set_cons_zero, List.set_cons_succ, List.getElem_toArray, List.getElem_cons_succ, List.getElem_cons_zero]
    refine wpAnyH_take (i := 1) (v := ?_) rfl (by kernel_rfl) (by kernel_rfl) (by kernel_rfl) (fun _ _ _ h => h) (Or.inl ⟨by rfl, ?_⟩) (by assumption) ?_
    rotate_left
    · intro w'' hSw; (try dsimp only at hSw); simp only [List.getElem_toArray, List.getElem_cons_succ, List.getElem_cons_zero]; (go_simp <;> with_reducible rfl)
    try simp only [Act.put, List.setIfInBounds_toArray, List.set_cons_zero, List.set_cons_succ, List.getElem_toArray, List.getElem_cons_succ, List.getElem_cons_zero]
    refine wpAnyH_take (i := 3) (v := ?_) rfl (by kernel_rfl) (by kernel_rfl) (by kernel_rfl) (fun _ _ _ h => h) (Or.inl ⟨by rfl, ?_⟩) (by assumption) ?_
    rotate_left
    · intro w'' hSw; (try dsimp only at hSw); simp only [List.getElem_toArray, List.getElem_cons_succ, List.getElem_cons_zero]; (go_simp <;> with_reducible rfl)
    try simp only [Act.put, List.setIfInBounds_toArray, List.set_cons_zero, List.set_cons_succ, List.getElem_toArray, List.getElem_cons_succ, List.getElem_cons_zero]
    refine wpAnyH_ready (rs := [2, 5]) (by kernel_rfl) (by simp) ?_
    refine AllReadyH.cons rfl (fun K hK => ?_) (AllReadyH.cons rfl (fun K hK => ?_) AllReadyH.nil)
    · rw [if_pos (by rfl)]
      simp only [List.getElem_toArray, List.getElem_cons_succ, List.getElem_cons_zero]
      go_simp
      (go_at_call 46; refine (gnear_calls _ _ _ _ _ _ _ _ _ _).mono ?_; rintro e wc1 ⟨rfl, kc1⟩)
      try go_wp2_with fail
      refine hK.out _ _ ?_ (fun hH1 => ?_)
      · exact ⟨hH0.1.trans kc1, HA.step (hH0.1.trans kc1)⟩
      clear hK K hH0
      try simp only [Act.put, List.setIfInBounds_toArray, List.set_cons_zero, List.set_cons_succ, List.getElem_toArray, List.getElem_cons_succ, List.getElem_cons_zero]
      refine wpAnyH_ready (rs := [4, 5]) (by kernel_rfl) (by simp) ?_
      refine AllReadyH.cons rfl (fun K hK => ?_) (AllReadyH.cons rfl (fun K hK => ?_) AllReadyH.nil)
      · rw [if_pos (by rfl)]
        simp only [List.getElem_toArray, List.getElem_cons_succ, List.getElem_cons_zero]
        go_simp
        (go_at_call 24; refine (minus_calls _ _ _ _ _ _ _).mono ?_; rintro e wc2 ⟨rfl, kc2⟩)
        try go_wp2_with fail
        refine hK.out _ _ ?_ (fun hH2 => ?_)
        · exact ⟨hH1.1.trans kc2, HA.step (hH1.1.trans kc2)⟩
        clear hK K hH1
        try simp only [Act.put, List.setIfInBounds_toArray, List.set_cons_zero, List.set_cons_succ, List.getElem_toArray, List.getElem_cons_succ, List.getElem_cons_zero]
        refine wpAnyH_ready (rs := [5]) (by kernel_rfl) (by simp) ?_
        refine AllReadyH.cons rfl (fun K hK => ?_) AllReadyH.nil
        rw [if_pos (by rfl)]
        simp only [List.getElem_toArray, List.getElem_cons_succ, List.getElem_cons_zero]
        go_simp
        refine hK.out _ _ ?_ (fun hH3 => ?_)
        · exact ⟨hH2.1.alloc _ _, HA.step (hH2.1.alloc _ _)⟩
        have hp : wA.heap.size ≤ wc2.heap.size := Nat.le_trans hH2.1.below.size (Nat.le_of_eq (by simp))
        have hP : Fr3 wA (wc2.heap.size) (wc2.alloc (.cells #[.int .i64 0, .int .i64 0, .int .i64 0] 26)) := by refine ⟨hH2.1.alloc _ _, cellV_of (v := .int .i64 0) ?_, cellV_of (v := .int .i64 0) ?_, cellV_of (v := .int .i64 0) ?_, ?_, ?_, ?_⟩ <;> go_simp
        clear hK K hH2
        try simp only [Act.put, List.setIfInBounds_toArray, List.set_cons_zero, List.set_cons_succ, List.getElem_toArray, List.getElem_cons_succ, List.getElem_cons_zero]
        generalize (wc2.alloc (.cells #[.int .i64 0, .int .i64 0, .int .i64 0] 26)) = wz4 at hH3 hP ⊢
        have hP0 := hP
        obtain ⟨_, cp0, cp1, cp2, fp0, fp1, fp2⟩ := hP0
        refine wpAnyH_ready (rs := [6]) (by kernel_rfl) (by simp) ?_
        refine AllReadyH.cons rfl (fun K hK => ?_) AllReadyH.nil
        rw [if_pos (by rfl)]
        simp only [List.getElem_toArray, List.getElem_cons_succ, List.getElem_cons_zero]
        go_simp
        refine hK.out _ _ ?_ (fun hS1 => ?_)
        · exact ⟨kept_set3 hH3.1 hp _ _ _, HA.step (kept_set3 hH3.1 hp _ _ _)⟩
        clear hK K
        try simp only [Act.put, List.setIfInBounds_toArray, List.set_cons_zero, List.set_cons_succ, List.getElem_toArray, List.getElem_cons_succ, List.getElem_cons_zero]
        refine wpAnyH_done (by kernel_rfl) ?_ _
        go_wp2_with fail
        go_meet
        case rel =>
          obtain ⟨z0, z1, z2⟩ := set3_of (v0 := .int .i64 (gap p0 b0 b3)) (v1 := .int .i64 (gap p1 b1 b4)) (v2 := .int .i64 (gap p2 b2 b5)) cp0 cp1 cp2
          exact ⟨wc2.heap.size, rfl, hS1.1, z0, z1, z2⟩
      · rw [if_pos (by rfl)]
        simp only [List.getElem_toArray, List.getElem_cons_succ, List.getElem_cons_zero]
        go_simp
        refine hK.out _ _ ?_ (fun hH5 => ?_)
        · exact ⟨hH1.1.alloc _ _, HA.step (hH1.1.alloc _ _)⟩
        have hp : wA.heap.size ≤ wc1.heap.size := Nat.le_trans hH1.1.below.size (Nat.le_of_eq (by simp))
        have hP : Fr3 wA (wc1.heap.size) (wc1.alloc (.cells #[.int .i64 0, .int .i64 0, .int .i64 0] 26)) := by refine ⟨hH1.1.alloc _ _, cellV_of (v := .int .i64 0) ?_, cellV_of (v := .int .i64 0) ?_, cellV_of (v := .int .i64 0) ?_, ?_, ?_, ?_⟩ <;> go_simp
        clear hK K hH1
        try simp only [Act.put, List.setIfInBounds_toArray, List.set_cons_zero, List.set_cons_succ, List.getElem_toArray, List.getElem_cons_succ, List.getElem_cons_zero]
        refine wpAnyH_ready (rs := [4]) (by kernel_rfl) (by simp) ?_
        refine AllReadyH.cons rfl (fun K hK => ?_) AllReadyH.nil
        rw [if_pos (by rfl)]
        simp only [List.getElem_toArray, List.getElem_cons_succ, List.getElem_cons_zero]
        go_simp
        (go_at_call 24; refine (minus_calls _ _ _ _ _ _ _).mono ?_; rintro e wc6 ⟨rfl, kc6⟩)
        try go_wp2_with fail
        refine hK.out _ _ ?_ (fun hH6 => ?_)
        · exact ⟨hH5.1.trans kc6, HA.step (hH5.1.trans kc6)⟩
        replace hP := hP.step kc6
        clear hK K hH5
        try simp only [Act.put, List.setIfInBounds_toArray, List.set_cons_zero, List.set_cons_succ, List.getElem_toArray, List.getElem_cons_succ, List.getElem_cons_zero]
        have hP0 := hP
        obtain ⟨_, cp0, cp1, cp2, fp0, fp1, fp2⟩ := hP0
        refine wpAnyH_ready (rs := [6]) (by kernel_rfl) (by simp) ?_
        refine AllReadyH.cons rfl (fun K hK => ?_) AllReadyH.nil
        rw [if_pos (by rfl)]
        simp only [List.getElem_toArray, List.getElem_cons_succ, List.getElem_cons_zero]
        go_simp
        refine hK.out _ _ ?_ (fun hS1 => ?_)
        · exact ⟨kept_set3 hH6.1 hp _ _ _, HA.step (kept_set3 hH6.1 hp _ _ _)⟩
        clear hK K
        try simp only [Act.put, List.setIfInBounds_toArray, List.set_cons_zero, List.set_cons_succ, List.getElem_toArray, List.getElem_cons_succ, List.getElem_cons_zero]
        refine wpAnyH_done (by kernel_rfl) ?_ _
        go_wp2_with fail
        go_meet
        case rel =>
          obtain ⟨z0, z1, z2⟩ := set3_of (v0 := .int .i64 (gap p0 b0 b3)) (v1 := .int .i64 (gap p1 b1 b4)) (v2 := .int .i64 (gap p2 b2 b5)) cp0 cp1 cp2
          exact ⟨wc1.heap.size, rfl, hS1.1, z0, z1, z2⟩
    · rw [if_pos (by rfl)]
      simp only [List.getElem_toArray, List.getElem_cons_succ, List.getElem_cons_zero]
      go_simp
      refine hK.out _ _ ?_ (fun hH7 => ?_)
      · exact ⟨hH0.1.alloc _ _, HA.step (hH0.1.alloc _ _)⟩
      have hp : wA.heap.size ≤ wA.heap.size := Nat.le_trans hH0.1.below.size (Nat.le_of_eq (by simp))
      have hP : Fr3 wA (wA.heap.size) (wA.drew.alloc (.cells #[.int .i64 0, .int .i64 0, .int .i64 0] 26)) := by refine ⟨hH0.1.alloc _ _, cellV_of (v := .int .i64 0) ?_, cellV_of (v := .int .i64 0) ?_, cellV_of (v := .int .i64 0) ?_, ?_, ?_, ?_⟩ <;> go_simp
      clear hK K hH0
      try simp only [Act.put, List.setIfInBounds_toArray, List.set_cons_zero, List.set_cons_succ, List.getElem_toArray, List.getElem_cons_succ, List.getElem_cons_zero]
      refine wpAnyH_ready (rs := [2]) (by kernel_rfl) (by simp) ?_
      refine AllReadyH.cons rfl (fun K hK => ?_) AllReadyH.nil
      rw [if_pos (by rfl)]
      simp only [List.getElem_toArray, List.getElem_cons_succ, List.getElem_cons_zero]
      go_simp
      (go_at_call 46; refine (gnear_calls _ _ _ _ _ _ _ _ _ _).mono ?_; rintro e wc8 ⟨rfl, kc8⟩)
      try go_wp2_with fail
      refine hK.out _ _ ?_ (fun hH8 => ?_)
      · exact ⟨hH7.1.trans kc8, HA.step (hH7.1.trans kc8)⟩
      replace hP := hP.step kc8
      clear hK K hH7
      try simp only [Act.put, List.setIfInBounds_toArray, List.set_cons_zero, List.set_cons_succ, List.getElem_toArray, List.getElem_cons_succ, List.getElem_cons_zero]
      refine wpAnyH_ready (rs := [4]) (by kernel_rfl) (by simp) ?_
      refine AllReadyH.cons rfl (fun K hK => ?_) AllReadyH.nil
      rw [if_pos (by rfl)]
      simp only [List.getElem_toArray, List.getElem_cons_succ, List.getElem_cons_zero]
      go_simp
      (go_at_call 24; refine (minus_calls _ _ _ _ _ _ _).mono ?_; rintro e wc9 ⟨rfl, kc9⟩)
      try go_wp2_with fail
      refine hK.out _ _ ?_ (fun hH9 => ?_)
      · exact ⟨hH8.1.trans kc9, HA.step (hH8.1.trans kc9)⟩
      replace hP := hP.step kc9
      clear hK K hH8
      try simp only [Act.put, List.setIfInBounds_toArray, List.set_cons_zero, List.set_cons_succ, List.getElem_toArray, List.getElem_cons_succ, List.getElem_cons_zero]
      have hP0 := hP
      obtain ⟨_, cp0, cp1, cp2, fp0, fp1, fp2⟩ := hP0
      refine wpAnyH_ready (rs := [6]) (by kernel_rfl) (by simp) ?_
      refine AllReadyH.cons rfl (fun K hK => ?_) AllReadyH.nil
      rw [if_pos (by rfl)]
      simp only [List.getElem_toArray, List.getElem_cons_succ, List.getElem_cons_zero]
      go_simp
      refine hK.out _ _ ?_ (fun hS1 => ?_)
      · exact ⟨kept_set3 hH9.1 hp _ _ _, HA.step (kept_set3 hH9.1 hp _ _ _)⟩
      clear hK K
      try simp only [Act.put, List.setIfInBounds_toArray, List.set_cons_zero, List.set_cons_succ, List.getElem_toArray, List.getElem_cons_succ, List.getElem_cons_zero]
      refine wpAnyH_done (by kernel_rfl) ?_ _
      go_wp2_with fail
      go_meet
      case rel =>
        obtain ⟨z0, z1, z2⟩ := set3_of (v0 := .int .i64 (gap p0 b0 b3)) (v1 := .int .i64 (gap p1 b1 b4)) (v2 := .int .i64 (gap p2 b2 b5)) cp0 cp1 cp2
        exact ⟨wA.heap.size, rfl, hS1.1, z0, z1, z2⟩
  case rest =>
    obtain ⟨p, rfl, kc, x0, x1, x2⟩ := hcut
    obtain ⟨t0, t1, t2, t3, t4, t5, t6, t7, t8⟩ := HA.step kc
    clear HA
    obtain ⟨tt, HT⟩ : ∃ tt, ballT s p0 p1 p2 b0 b1 b2 b3 b4 b5 = tt := ⟨_, rfl⟩
    have HTT : Aside (ballT s p0 p1 p2 b0 b1 b2 b3 b4 b5 = tt) := HT
    unfold ballT at HT
    generalize gap p0 b0 b3 = v0 at x0 HT
    generalize gap p1 b1 b4 = v1 at x1 HT
    generalize gap p2 b2 b5 = v2 at x2 HT
    cases q0 : (v0 == 0) with
    | false =>
      rw [ballV_out (by simp only [beq_eq_false_iff_ne, ne_eq] at q0; intro hh; exact q0 hh.1)] at HT
      have HT0 : Aside (reachT s v0 v1 v2 = tt) := HT
      clear HT
      go_wp2_with fail
      refine (reaches_calls _ _ _ _ _).mono ?_; rintro e w1 ⟨rfl, k1⟩
      have c0 := kept_cell k1 (kept_cell kc (RC'.out 0 (by omega)))
      have f0 := kept_frozen k1 (kept_frozen kc (RF'.out 0))
      have c1 := kept_cell k1 (kept_cell kc (RC'.out 1 (by omega)))
      have f1 := kept_frozen k1 (kept_frozen kc (RF'.out 1))
      have c2 := kept_cell k1 (kept_cell kc (RC'.out 2 (by omega)))
      have f2 := kept_frozen k1 (kept_frozen kc (RF'.out 2))
      have hk : Kept w w1 := (hkA.trans kc).trans k1
      rw [HT0.out]
      clear k1 x0 x1 x2
      go_wp2
      obtain ⟨e0, e1, e2⟩ := set3_of (v0 := .int .i64 tt.x) (v1 := .int .i64 tt.y) (v2 := .int .i64 tt.z) c0 c1 c2
      exact bodyPost_ret (v := .tuple #[.agg #[.int .i64 (tt.x), .int .i64 (tt.y), .int .i64 (tt.z)], .int .i64 (tt.d), .bool tt.ok]) (by simp [results, Try.results83, go_sem, e0, e1, e2]) rfl ⟨by rw [HTT.out], kept_set3 hk (by omega) _ _ _⟩
    | true =>
      cases q1 : (v1 == 0) with
      | false =>
        rw [ballV_out (by simp only [beq_eq_false_iff_ne, ne_eq] at q1; intro hh; exact q1 hh.2.1)] at HT
        have HT0 : Aside (reachT s v0 v1 v2 = tt) := HT
        clear HT
        go_wp2_with fail
        refine (reaches_calls _ _ _ _ _).mono ?_; rintro e w1 ⟨rfl, k1⟩
        have c0 := kept_cell k1 (kept_cell kc (RC'.out 0 (by omega)))
        have f0 := kept_frozen k1 (kept_frozen kc (RF'.out 0))
        have c1 := kept_cell k1 (kept_cell kc (RC'.out 1 (by omega)))
        have f1 := kept_frozen k1 (kept_frozen kc (RF'.out 1))
        have c2 := kept_cell k1 (kept_cell kc (RC'.out 2 (by omega)))
        have f2 := kept_frozen k1 (kept_frozen kc (RF'.out 2))
        have hk : Kept w w1 := (hkA.trans kc).trans k1
        rw [HT0.out]
        clear k1 x0 x1 x2
        go_wp2
        obtain ⟨e0, e1, e2⟩ := set3_of (v0 := .int .i64 tt.x) (v1 := .int .i64 tt.y) (v2 := .int .i64 tt.z) c0 c1 c2
        exact bodyPost_ret (v := .tuple #[.agg #[.int .i64 (tt.x), .int .i64 (tt.y), .int .i64 (tt.z)], .int .i64 (tt.d), .bool tt.ok]) (by simp [results, Try.results83, go_sem, e0, e1, e2]) rfl ⟨by rw [HTT.out], kept_set3 hk (by omega) _ _ _⟩
      | true =>
        cases q2 : (v2 == 0) with
        | false =>
          rw [ballV_out (by simp only [beq_eq_false_iff_ne, ne_eq] at q2; intro hh; exact q2 hh.2.2)] at HT
          have HT0 : Aside (reachT s v0 v1 v2 = tt) := HT
          clear HT
          go_wp2_with fail
          refine (reaches_calls _ _ _ _ _).mono ?_; rintro e w1 ⟨rfl, k1⟩
          have c0 := kept_cell k1 (kept_cell kc (RC'.out 0 (by omega)))
          have f0 := kept_frozen k1 (kept_frozen kc (RF'.out 0))
          have c1 := kept_cell k1 (kept_cell kc (RC'.out 1 (by omega)))
          have f1 := kept_frozen k1 (kept_frozen kc (RF'.out 1))
          have c2 := kept_cell k1 (kept_cell kc (RC'.out 2 (by omega)))
          have f2 := kept_frozen k1 (kept_frozen kc (RF'.out 2))
          have hk : Kept w w1 := (hkA.trans kc).trans k1
          rw [HT0.out]
          clear k1 x0 x1 x2
          go_wp2
          obtain ⟨e0, e1, e2⟩ := set3_of (v0 := .int .i64 tt.x) (v1 := .int .i64 tt.y) (v2 := .int .i64 tt.z) c0 c1 c2
          exact bodyPost_ret (v := .tuple #[.agg #[.int .i64 (tt.x), .int .i64 (tt.y), .int .i64 (tt.z)], .int .i64 (tt.d), .bool tt.ok]) (by simp [results, Try.results83, go_sem, e0, e1, e2]) rfl ⟨by rw [HTT.out], kept_set3 hk (by omega) _ _ _⟩
        | true =>
          rw [ballV_in ⟨by simpa using q0, by simpa using q1, by simpa using q2⟩] at HT
          have HT0 : Aside (inT s (outE p0 p1 p2 p0 p1 p2 b0 b1 b2 b3 b4 b5) = tt) := HT
          clear HT
          go_wp2_with fail
          refine (out_calls _ _ _ _ _ _ _ _ _ _ _ _ _).mono ?_; rintro e w1 ⟨rfl, k1⟩
          have c0 := later (kept_cell k1 (kept_cell kc (RC'.out 0 (by omega))))
          have f0 := laterF (kept_frozen k1 (kept_frozen kc (RF'.out 0)))
          have c1 := later (kept_cell k1 (kept_cell kc (RC'.out 1 (by omega))))
          have f1 := laterF (kept_frozen k1 (kept_frozen kc (RF'.out 1)))
          have c2 := later (kept_cell k1 (kept_cell kc (RC'.out 2 (by omega))))
          have f2 := laterF (kept_frozen k1 (kept_frozen kc (RF'.out 2)))
          have hk : Kept w w1 := (hkA.trans kc).trans k1
          have hlt : w.heap.size + 1 + 1 < w1.heap.size := World.block_lt_of_cell? _ _ (kept_cell k1 (kept_cell kc (RC'.out 0 (by omega))))
          clear k1 x0 x1 x2 t0 t1 t2 t3 t4 t5 t6 t7 t8 q0 q1 q2
          generalize (outE p0 p1 p2 p0 p1 p2 b0 b1 b2 b3 b4 b5) = E at HT0 ⊢
          go_wp2
          refine wp_region_held_drew (S := (fun w' => Kept w w' ∧ w'.cell? ⟨w1.heap.size, 0, none⟩ = some (.int .i64 E.x) ∧ w'.cell? ⟨w1.heap.size, 1, none⟩ = some (.int .i64 E.y) ∧ w'.cell? ⟨w1.heap.size, 2, none⟩ = some (.int .i64 E.z) ∧ w'.cell? ⟨w1.heap.size, 3, none⟩ = some (.int .i64 E.d) ∧ w'.cell? ⟨w.heap.size + 1 + 1, 0, none⟩ = some (cellV w' ⟨w.heap.size + 1 + 1, 0, none⟩) ∧ w'.cell? ⟨w.heap.size + 1 + 1, 1, none⟩ = some (cellV w' ⟨w.heap.size + 1 + 1, 1, none⟩) ∧ w'.cell? ⟨w.heap.size + 1 + 1, 2, none⟩ = some (cellV w' ⟨w.heap.size + 1 + 1, 2, none⟩) ∧ w'.frozen? ⟨w.heap.size + 1 + 1, 0, none⟩ = false ∧ w'.frozen? ⟨w.heap.size + 1 + 1, 1, none⟩ = false ∧ w'.frozen? ⟨w.heap.size + 1 + 1, 2, none⟩ = false)) (by kernel_rfl) ?_ (fun hHeld1 => ?_)
          · (try dsimp only); exact G4o3.drew ⟨hk.alloc _ _, by go_simp, by go_simp, by go_simp, by go_simp, cellV_of (c0 _), cellV_of (c1 _), cellV_of (c2 _), f0 _ _, f1 _ _, f2 _ _⟩
          refine wpAnyH_take (i := 0) (v := ?_) rfl (by kernel_rfl) (by kernel_rfl) (by kernel_rfl) (fun _ _ _ h => h) (Or.inl ⟨by rfl, ?_⟩) (by assumption) ?_
          rotate_left
          · intro w'' hSw; (try dsimp only at hSw); simp only [List.getElem_toArray, List.getElem_cons_succ, List.getElem_cons_zero]; (go_simp <;> with_reducible rfl)
          try simp only [Act.put, List.setIfInBounds_toArray, List.set_cons_zero, List.set_cons_succ, List.getElem_toArray, List.getElem_cons_succ, List.getElem_cons_zero]
          refine wpAnyH_take (i := 1) (v := ?_) rfl (by kernel_rfl) (by kernel_rfl) (by kernel_rfl) (fun _ _ _ h => h) (Or.inl ⟨by rfl, ?_⟩) (by assumption) ?_
          rotate_left
          · intro w'' hSw; (try dsimp only at hSw); simp only [List.getElem_toArray, List.getElem_cons_succ, List.getElem_cons_zero]; (go_simp <;> with_reducible rfl)
          try simp only [Act.put, List.setIfInBounds_toArray, List.set_cons_zero, List.set_cons_succ, List.getElem_toArray, List.getElem_cons_succ, List.getElem_cons_zero]
          refine wpAnyH_take (i := 2) (v := ?_) rfl (by kernel_rfl) (by kernel_rfl) (by kernel_rfl) (fun _ _ _ h => h) (Or.inl ⟨by rfl, ?_⟩) (by assumption) ?_
          rotate_left
          · intro w'' hSw; (try dsimp only at hSw); simp only [List.getElem_toArray, List.getElem_cons_succ, List.getElem_cons_zero]; (go_simp <;> with_reducible rfl)
          try simp only [Act.put, List.setIfInBounds_toArray, List.set_cons_zero, List.set_cons_succ, List.getElem_toArray, List.getElem_cons_succ, List.getElem_cons_zero]
          refine wpAnyH_take (i := 3) (v := ?_) rfl (by kernel_rfl) (by kernel_rfl) (by kernel_rfl) (fun _ _ _ h => h) (Or.inl ⟨by rfl, ?_⟩) (by assumption) ?_
          rotate_left
          · intro w'' hSw; (try dsimp only at hSw); simp only [List.getElem_toArray, List.getElem_cons_succ, List.getElem_cons_zero]; (go_simp <;> with_reducible rfl)
          try simp only [Act.put, List.setIfInBounds_toArray, List.set_cons_zero, List.set_cons_succ, List.getElem_toArray, List.getElem_cons_succ, List.getElem_cons_zero]
          refine wpAnyH_take (i := 4) (v := ?_) rfl (by kernel_rfl) (by kernel_rfl) (by kernel_rfl) (fun _ _ _ h => h) (Or.inl ⟨by rfl, ?_⟩) (by assumption) ?_
          rotate_left
          · intro w'' hSw; (try dsimp only at hSw); simp only [List.getElem_toArray, List.getElem_cons_succ, List.getElem_cons_zero]; (go_simp <;> with_reducible rfl)
          try simp only [Act.put, List.setIfInBounds_toArray, List.set_cons_zero, List.set_cons_succ, List.getElem_toArray, List.getElem_cons_succ, List.getElem_cons_zero]
          refine wpAnyH_ready (rs := [5]) (by kernel_rfl) (by simp) ?_
          refine AllReadyH.cons rfl (fun K hK => ?_) AllReadyH.nil
          rw [if_pos (by rfl)]
          simp only [List.getElem_toArray, List.getElem_cons_succ, List.getElem_cons_zero]
          go_simp
          (go_at_call 12; refine (add_calls _ _ _).mono ?_; rintro e w2 ⟨rfl, k2⟩)
          try go_wp2_with fail
          refine hK.out _ _ ?_ (fun hHeld2 => ?_)
          · (try dsimp only); exact G4o3.step k2 hHeld1
          clear hK K hHeld1
          try simp only [Act.put, List.setIfInBounds_toArray, List.set_cons_zero, List.set_cons_succ, List.getElem_toArray, List.getElem_cons_succ, List.getElem_cons_zero]
          refine wpAnyH_ready (rs := [6]) (by kernel_rfl) (by simp) ?_
          refine AllReadyH.cons rfl (fun K hK => ?_) AllReadyH.nil
          rw [if_pos (by rfl)]
          simp only [List.getElem_toArray, List.getElem_cons_succ, List.getElem_cons_zero]
          go_simp
          refine hK.out _ _ ?_ (fun hHeld3 => ?_)
          · (try dsimp only); exact (G4o3.put 2 _ (by omega) (by omega) (G4o3.put 1 _ (by omega) (by omega) (G4o3.put 0 _ (by omega) (by omega) hHeld2)))
          clear hK K
          try simp only [Act.put, List.setIfInBounds_toArray, List.set_cons_zero, List.set_cons_succ, List.getElem_toArray, List.getElem_cons_succ, List.getElem_cons_zero]
          refine wpAnyH_take (i := 7) (v := ?_) rfl (by kernel_rfl) (by kernel_rfl) (by kernel_rfl) (fun _ _ _ h => h) (Or.inl ⟨by rfl, ?_⟩) (by assumption) ?_
          rotate_left
          · intro w'' hSw; (try dsimp only at hSw); simp only [List.getElem_toArray, List.getElem_cons_succ, List.getElem_cons_zero]; (go_simp <;> with_reducible rfl)
          try simp only [Act.put, List.setIfInBounds_toArray, List.set_cons_zero, List.set_cons_succ, List.getElem_toArray, List.getElem_cons_succ, List.getElem_cons_zero]
          refine wpAnyH_take (i := 8) (v := ?_) rfl (by kernel_rfl) (by kernel_rfl) (by kernel_rfl) (fun _ _ _ h => h) (Or.inl ⟨by rfl, ?_⟩) (by assumption) ?_
          rotate_left
          · intro w'' hSw; (try dsimp only at hSw); simp only [List.getElem_toArray, List.getElem_cons_succ, List.getElem_cons_zero]; (go_simp <;> with_reducible rfl)
          try simp only [Act.put, List.setIfInBounds_toArray, List.set_cons_zero, List.set_cons_succ, List.getElem_toArray, List.getElem_cons_succ, List.getElem_cons_zero]
          refine wpAnyH_done (by kernel_rfl) ?_ _
          go_wp2
          obtain ⟨hk, _, _, _, _, c0, c1, c2, _⟩ := hHeld2
          obtain ⟨e0, e1, e2⟩ := set3_of (v0 := .int .i64 (E.x)) (v1 := .int .i64 (E.y)) (v2 := .int .i64 (E.z)) c0 c1 c2
          exact bodyPost_ret (v := .tuple #[.agg #[.int .i64 (E.x), .int .i64 (E.y), .int .i64 (E.z)], .int .i64 (add E.d s), .bool true]) (by simp [results, Try.results83, go_sem, e0, e1, e2]) rfl ⟨by rw [HTT.out, ← HT0.out]; rfl, kept_set3 hk (by omega) _ _ _⟩
end Go.Proofs.Ythhpcfnoiooopaa
