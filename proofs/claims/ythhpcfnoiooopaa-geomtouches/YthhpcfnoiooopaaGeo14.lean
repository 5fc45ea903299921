/- geom.out answers the shortest way out: whatever the boxes. -/
import Derived.Test.YthhpcfnoiooopaaGeo13
import Derived.Test.YthhpcfnoiooopaaVec
import Derived.Deep.CutRange
namespace Go.Proofs.Ythhpcfnoiooopaa
open Go.ChangeShapes Go.WideShapes Go.ChangeAt Go.RowKit
set_option linter.unusedSimpArgs false

def Fr3 (w : World) (b0 : Nat) (w' : World) : Prop :=
  Kept w w' ∧
  w'.cell? ⟨b0, 0, none⟩ = some (cellV w' ⟨b0, 0, none⟩) ∧
  w'.cell? ⟨b0, 1, none⟩ = some (cellV w' ⟨b0, 1, none⟩) ∧
  w'.cell? ⟨b0, 2, none⟩ = some (cellV w' ⟨b0, 2, none⟩) ∧
  w'.frozen? ⟨b0, 0, none⟩ = false ∧
  w'.frozen? ⟨b0, 1, none⟩ = false ∧
  w'.frozen? ⟨b0, 2, none⟩ = false
theorem Fr3.step {w w1 w2 : World} {b0 : Nat} (k : Kept w1 w2) (h : Fr3 w b0 w1) : Fr3 w b0 w2 := by
  obtain ⟨h0, h1, h2, h3, h4, h5, h6⟩ := h
  exact ⟨h0.trans k, kept_there k h1, kept_there k h2, kept_there k h3, kept_frozen k h4, kept_frozen k h5, kept_frozen k h6⟩
theorem Fr3.drew {w w1 : World} {b0 : Nat} (h : Fr3 w b0 w1) : Fr3 w b0 w1.drew := h.step (Kept.refl _).drew
theorem Fr3.put {w w1 : World} {b0 : Nat} (i : Nat) (v : Value) (ho : w.heap.size ≤ b0)  (h : Fr3 w b0 w1) : Fr3 w b0 (w1.setCell ⟨b0, i, none⟩ v) := by
  obtain ⟨h0, h1, h2, h3, h4, h5, h6⟩ := h
  exact ⟨h0.setCell (p := ⟨b0, i, none⟩) ho v, put_there h1, put_there h2, put_there h3, (World.frozen?_setCell _ _ _ _).trans h4, (World.frozen?_setCell _ _ _ _).trans h5, (World.frozen?_setCell _ _ _ _).trans h6⟩

theorem Fr3.past {w w1 : World} {p q : Nat} (h : Fr3 w q w1) (hne : p ≠ q) : ∀ v0 v1 v2 : Value, (((w1.setCell ⟨p, 0, none⟩ v0).setCell ⟨p, 1, none⟩ v1).setCell ⟨p, 2, none⟩ v2).cell? ⟨q, 0, none⟩ = some (cellV w1 ⟨q, 0, none⟩) ∧ (((w1.setCell ⟨p, 0, none⟩ v0).setCell ⟨p, 1, none⟩ v1).setCell ⟨p, 2, none⟩ v2).cell? ⟨q, 1, none⟩ = some (cellV w1 ⟨q, 1, none⟩) ∧ (((w1.setCell ⟨p, 0, none⟩ v0).setCell ⟨p, 1, none⟩ v1).setCell ⟨p, 2, none⟩ v2).cell? ⟨q, 2, none⟩ = some (cellV w1 ⟨q, 2, none⟩) ∧ (((w1.setCell ⟨p, 0, none⟩ v0).setCell ⟨p, 1, none⟩ v1).setCell ⟨p, 2, none⟩ v2).frozen? ⟨q, 0, none⟩ = false ∧ (((w1.setCell ⟨p, 0, none⟩ v0).setCell ⟨p, 1, none⟩ v1).setCell ⟨p, 2, none⟩ v2).frozen? ⟨q, 1, none⟩ = false ∧ (((w1.setCell ⟨p, 0, none⟩ v0).setCell ⟨p, 1, none⟩ v1).setCell ⟨p, 2, none⟩ v2).frozen? ⟨q, 2, none⟩ = false := by
  obtain ⟨_, c0, c1, c2, f0, f1, f2⟩ := h
  have n1 : ∀ i j : Nat, (⟨p, i, none⟩ : Addr) ≠ ⟨q, j, none⟩ := fun i j e => hne (by injection e)
  intro v0 v1 v2
  exact ⟨(World.cell?_setCell_other _ _ _ _ (n1 2 _)).trans ((World.cell?_setCell_other _ _ _ _ (n1 1 _)).trans ((World.cell?_setCell_other _ _ _ _ (n1 0 _)).trans (c0))), (World.cell?_setCell_other _ _ _ _ (n1 2 _)).trans ((World.cell?_setCell_other _ _ _ _ (n1 1 _)).trans ((World.cell?_setCell_other _ _ _ _ (n1 0 _)).trans (c1))), (World.cell?_setCell_other _ _ _ _ (n1 2 _)).trans ((World.cell?_setCell_other _ _ _ _ (n1 1 _)).trans ((World.cell?_setCell_other _ _ _ _ (n1 0 _)).trans (c2))), (World.frozen?_setCell _ _ _ _).trans ((World.frozen?_setCell _ _ _ _).trans ((World.frozen?_setCell _ _ _ _).trans (f0))), (World.frozen?_setCell _ _ _ _).trans ((World.frozen?_setCell _ _ _ _).trans ((World.frozen?_setCell _ _ _ _).trans (f1))), (World.frozen?_setCell _ _ _ _).trans ((World.frozen?_setCell _ _ _ _).trans ((World.frozen?_setCell _ _ _ _).trans (f2)))⟩
theorem Fr3.two {w w1 : World} {p q : Nat} (hp : Fr3 w p w1) (hq : Fr3 w q w1) (hne : p ≠ q) (v0 v1 v2 u0 u1 u2 : Value) : ((((((w1.setCell ⟨p, 0, none⟩ v0).setCell ⟨p, 1, none⟩ v1).setCell ⟨p, 2, none⟩ v2).setCell ⟨q, 0, none⟩ u0).setCell ⟨q, 1, none⟩ u1).setCell ⟨q, 2, none⟩ u2).cell? ⟨p, 0, none⟩ = some v0 ∧ ((((((w1.setCell ⟨p, 0, none⟩ v0).setCell ⟨p, 1, none⟩ v1).setCell ⟨p, 2, none⟩ v2).setCell ⟨q, 0, none⟩ u0).setCell ⟨q, 1, none⟩ u1).setCell ⟨q, 2, none⟩ u2).cell? ⟨p, 1, none⟩ = some v1 ∧ ((((((w1.setCell ⟨p, 0, none⟩ v0).setCell ⟨p, 1, none⟩ v1).setCell ⟨p, 2, none⟩ v2).setCell ⟨q, 0, none⟩ u0).setCell ⟨q, 1, none⟩ u1).setCell ⟨q, 2, none⟩ u2).cell? ⟨p, 2, none⟩ = some v2 ∧ ((((((w1.setCell ⟨p, 0, none⟩ v0).setCell ⟨p, 1, none⟩ v1).setCell ⟨p, 2, none⟩ v2).setCell ⟨q, 0, none⟩ u0).setCell ⟨q, 1, none⟩ u1).setCell ⟨q, 2, none⟩ u2).cell? ⟨q, 0, none⟩ = some u0 ∧ ((((((w1.setCell ⟨p, 0, none⟩ v0).setCell ⟨p, 1, none⟩ v1).setCell ⟨p, 2, none⟩ v2).setCell ⟨q, 0, none⟩ u0).setCell ⟨q, 1, none⟩ u1).setCell ⟨q, 2, none⟩ u2).cell? ⟨q, 1, none⟩ = some u1 ∧ ((((((w1.setCell ⟨p, 0, none⟩ v0).setCell ⟨p, 1, none⟩ v1).setCell ⟨p, 2, none⟩ v2).setCell ⟨q, 0, none⟩ u0).setCell ⟨q, 1, none⟩ u1).setCell ⟨q, 2, none⟩ u2).cell? ⟨q, 2, none⟩ = some u2 := by
  have n1 : ∀ i j : Nat, (⟨q, i, none⟩ : Addr) ≠ ⟨p, j, none⟩ := fun i j e => hne (by injection e with e; exact e.symm)
  obtain ⟨_, c0, c1, c2, _⟩ := hp
  obtain ⟨d0, d1, d2, _⟩ := hq.past hne v0 v1 v2
  obtain ⟨x0, x1, x2⟩ := set3_of (v0 := v0) (v1 := v1) (v2 := v2) c0 c1 c2
  obtain ⟨y0, y1, y2⟩ := set3_of (v0 := u0) (v1 := u1) (v2 := u2) d0 d1 d2
  exact ⟨(World.cell?_setCell_other _ _ _ _ (n1 2 _)).trans ((World.cell?_setCell_other _ _ _ _ (n1 1 _)).trans ((World.cell?_setCell_other _ _ _ _ (n1 0 _)).trans (x0))), (World.cell?_setCell_other _ _ _ _ (n1 2 _)).trans ((World.cell?_setCell_other _ _ _ _ (n1 1 _)).trans ((World.cell?_setCell_other _ _ _ _ (n1 0 _)).trans (x1))), (World.cell?_setCell_other _ _ _ _ (n1 2 _)).trans ((World.cell?_setCell_other _ _ _ _ (n1 1 _)).trans ((World.cell?_setCell_other _ _ _ _ (n1 0 _)).trans (x2))), y0, y1, y2⟩
def outE (a0 a1 a2 a3 a4 a5 b0 b1 b2 b3 b4 b5 : Int) : Ex := pickE ⟨65536, 0, 0, sub a3 b0⟩ ⟨-65536, 0, 0, sub b3 a0⟩ ⟨0, 65536, 0, sub a4 b1⟩ ⟨0, -65536, 0, sub b4 a1⟩ ⟨0, 0, 65536, sub a5 b2⟩ ⟨0, 0, -65536, sub b5 a2⟩ 5
set_option maxHeartbeats 8000000 in
theorem out_calls (a0 a1 a2 a3 a4 a5 b0 b1 b2 b3 b4 b5 : Int) (w : World) :
    Calls Try.prog 88 #[.agg #[.int .i64 a0, .int .i64 a1, .int .i64 a2, .int .i64 a3, .int .i64 a4, .int .i64 a5], .agg #[.int .i64 b0, .int .i64 b1, .int .i64 b2, .int .i64 b3, .int .i64 b4, .int .i64 b5]] w fun e w' => e = .returned (.agg #[.int .i64 ((outE a0 a1 a2 a3 a4 a5 b0 b1 b2 b3 b4 b5).x), .int .i64 ((outE a0 a1 a2 a3 a4 a5 b0 b1 b2 b3 b4 b5).y), .int .i64 ((outE a0 a1 a2 a3 a4 a5 b0 b1 b2 b3 b4 b5).z), .int .i64 ((outE a0 a1 a2 a3 a4 a5 b0 b1 b2 b3 b4 b5).d)]) ∧ Kept w w' := by
  go_enter Try.func88, Try.ntmps88
  go_wp2
  have HA : G66At w.heap.size (w.heap.size + 1) (.int .i64 a0) (.int .i64 a1) (.int .i64 a2) (.int .i64 a3) (.int .i64 a4) (.int .i64 a5) (.int .i64 b0) (.int .i64 b1) (.int .i64 b2) (.int .i64 b3) (.int .i64 b4) (.int .i64 b5) (((w.alloc (.cells #[.int .i64 a0, .int .i64 a1, .int .i64 a2, .int .i64 a3, .int .i64 a4, .int .i64 a5] 37)).alloc (.cells #[.int .i64 b0, .int .i64 b1, .int .i64 b2, .int .i64 b3, .int .i64 b4, .int .i64 b5] 37)).alloc (.cells #[.int .i64 0, .int .i64 0, .int .i64 0, .int .i64 0] 83)) := by
    refine ⟨?_, ?_, ?_, ?_, ?_, ?_, ?_, ?_, ?_, ?_, ?_, ?_⟩ <;> go_simp
  have hkA : Kept w (((w.alloc (.cells #[.int .i64 a0, .int .i64 a1, .int .i64 a2, .int .i64 a3, .int .i64 a4, .int .i64 a5] 37)).alloc (.cells #[.int .i64 b0, .int .i64 b1, .int .i64 b2, .int .i64 b3, .int .i64 b4, .int .i64 b5] 37)).alloc (.cells #[.int .i64 0, .int .i64 0, .int .i64 0, .int .i64 0] 83)) := (((Kept.refl w).alloc _ _).alloc _ _).alloc _ _
  have RC : ∀ i, i < 4 → (((w.alloc (.cells #[.int .i64 a0, .int .i64 a1, .int .i64 a2, .int .i64 a3, .int .i64 a4, .int .i64 a5] 37)).alloc (.cells #[.int .i64 b0, .int .i64 b1, .int .i64 b2, .int .i64 b3, .int .i64 b4, .int .i64 b5] 37)).alloc (.cells #[.int .i64 0, .int .i64 0, .int .i64 0, .int .i64 0] 83)).cell? ⟨w.heap.size + 1 + 1, i, none⟩ = some (.int .i64 0) := by
    intro i hi
    obtain rfl | rfl | rfl | rfl : i = 0 ∨ i = 1 ∨ i = 2 ∨ i = 3 := by omega
    all_goals go_simp
  have RF : ∀ i, (((w.alloc (.cells #[.int .i64 a0, .int .i64 a1, .int .i64 a2, .int .i64 a3, .int .i64 a4, .int .i64 a5] 37)).alloc (.cells #[.int .i64 b0, .int .i64 b1, .int .i64 b2, .int .i64 b3, .int .i64 b4, .int .i64 b5] 37)).alloc (.cells #[.int .i64 0, .int .i64 0, .int .i64 0, .int .i64 0] 83)).frozen? ⟨w.heap.size + 1 + 1, i, none⟩ = false := by intro i; go_simp
  generalize (((w.alloc (.cells #[.int .i64 a0, .int .i64 a1, .int .i64 a2, .int .i64 a3, .int .i64 a4, .int .i64 a5] 37)).alloc (.cells #[.int .i64 b0, .int .i64 b1, .int .i64 b2, .int .i64 b3, .int .i64 b4, .int .i64 b5] 37)).alloc (.cells #[.int .i64 0, .int .i64 0, .int .i64 0, .int .i64 0] 83)) = wA at HA hkA RC RF ⊢
  have RC' : Aside _ := RC
  have RF' : Aside _ := RF
  clear RC RF
  go_cut [5, 6] from 7 (fun s5 s6 wc => ∃ p q, s5 = .pointer (some ⟨p, 0, none⟩) ∧ s6 = .pointer (some ⟨q, 0, none⟩) ∧ Kept wA wc ∧ wc.cell? ⟨p, 0, none⟩ = some (.int .i64 (sub a3 b0)) ∧ wc.cell? ⟨p, 1, none⟩ = some (.int .i64 (sub a4 b1)) ∧ wc.cell? ⟨p, 2, none⟩ = some (.int .i64 (sub a5 b2)) ∧ wc.cell? ⟨q, 0, none⟩ = some (.int .i64 (sub b3 a0)) ∧ wc.cell? ⟨q, 1, none⟩ = some (.int .i64 (sub b4 a1)) ∧ wc.cell? ⟨q, 2, none⟩ = some (.int .i64 (sub b5 a2)))
  case first =>
    refine wp_region_held_drew (S := (fun w' => Kept wA w' ∧ w'.cell? ⟨w.heap.size, 0, none⟩ = some (.int .i64 a0) ∧ w'.cell? ⟨w.heap.size, 1, none⟩ = some (.int .i64 a1) ∧ w'.cell? ⟨w.heap.size, 2, none⟩ = some (.int .i64 a2) ∧ w'.cell? ⟨w.heap.size, 3, none⟩ = some (.int .i64 a3) ∧ w'.cell? ⟨w.heap.size, 4, none⟩ = some (.int .i64 a4) ∧ w'.cell? ⟨w.heap.size, 5, none⟩ = some (.int .i64 a5) ∧ w'.cell? ⟨w.heap.size + 1, 0, none⟩ = some (.int .i64 b0) ∧ w'.cell? ⟨w.heap.size + 1, 1, none⟩ = some (.int .i64 b1) ∧ w'.cell? ⟨w.heap.size + 1, 2, none⟩ = some (.int .i64 b2) ∧ w'.cell? ⟨w.heap.size + 1, 3, none⟩ = some (.int .i64 b3) ∧ w'.cell? ⟨w.heap.size + 1, 4, none⟩ = some (.int .i64 b4) ∧ w'.cell? ⟨w.heap.size + 1, 5, none⟩ = some (.int .i64 b5))) (by kernel_rfl) ?_ (fun hH0 => ?_)
    · (try dsimp only); exact ⟨(Kept.refl _).drew, HA.step (Kept.refl _).drew⟩
    refine wpAnyH_take (i := 0) (v := ?_) rfl (by kernel_rfl) (by kernel_rfl) (by kernel_rfl) (fun _ _ _ h => h) (Or.inl ⟨by rfl, ?_⟩) (by assumption) ?_
    rotate_left
    · intro w'' hSw; (try dsimp only at hSw); simp only [List.getElem_toArray, List.getElem_cons_succ, List.getElem_cons_zero]; (go_simp <;> with_reducible rfl)
    try simp only [Act.put, List.setIfInBounds_toArray, List.set_cons_zero, List.set_cons_succ, List.getElem_toArray, List.getElem_cons_succ, List.getElem_cons_zero]
    refine wpAnyH_take (i := 1) (v := ?_) rfl (by kernel_rfl) (by kernel_rfl) (by kernel_rfl) (fun _ _ _ h => h) (Or.inl ⟨by rfl, ?_⟩) (by assumption) ?_
    rotate_left
    · intro w'' hSw; (try dsimp only at hSw); simp only [List.getElem_toArray, List.getElem_cons_succ, List.getElem_cons_zero]; (go_simp <;> with_reducible rfl)
    try simp only [Act.put, List.setIfInBounds_toArray, List.set_cons_zero, List.set_cons_succ, List.getElem_toArray, List.getElem_cons_succ, List.getElem_cons_zero]
    refine wpAnyH_take (i := 2) (v := ?_) rfl (by kernel_rfl) (by kernel_rfl) (by kernel_rfl) (fun _ _ _ h => h) (Or.inl ⟨by rfl, ?_⟩) (by assumption) ?_
    rotate_left
    · intro w'' hSw; (try dsimp only at hSw); simp only [List.getElem_toArray, List.getElem_cons_succ, List.getElem_cons_zero]; (go_simp <;> with_reducible rfl)
    try simp only [Act.put, List.setIfInBounds_toArray, List.set_cons_zero, List.set_cons_succ, List.getElem_toArray, List.getElem_cons_succ, List.getElem_cons_zero]
    refine wpAnyH_take (i := 3) (v := ?_) rfl (by kernel_rfl) (by kernel_rfl) (by kernel_rfl) (fun _ _ _ h => h) (Or.inl ⟨by rfl, ?_⟩) (by assumption) ?_
    rotate_left
    · intro w'' hSw; (try dsimp only at hSw); simp only [List.getElem_toArray, List.getElem_cons_succ, List.getElem_cons_zero]; (go_simp <;> with_reducible rfl)
    try simp only [Act.put, List.setIfInBounds_toArray, List.set_cons_zero, List.set_cons_succ, List.getElem_toArray, List.getElem_cons_succ, List.getElem_cons_zero]
    refine wpAnyH_take (i := 5) (v := ?_) rfl (by kernel_rfl) (by kernel_rfl) (by kernel_rfl) (fun _ _ _ h => h) (Or.inl ⟨by rfl, ?_⟩) (by assumption) ?_
    rotate_left
    · intro w'' hSw; (try dsimp only at hSw); simp only [List.getElem_toArray, List.getElem_cons_succ, List.getElem_cons_zero]; (go_simp <;> with_reducible rfl)
    try simp only [Act.put, List.setIfInBounds_toArray, List.set_cons_zero, List.set_cons_succ, List.getElem_toArray, List.getElem_cons_succ, List.getElem_cons_zero]
    refine wpAnyH_take (i := 6) (v := ?_) rfl (by kernel_rfl) (by kernel_rfl) (by kernel_rfl) (fun _ _ _ h => h) (Or.inl ⟨by rfl, ?_⟩) (by assumption) ?_
    rotate_left
    · intro w'' hSw; (try dsimp only at hSw); simp only [List.getElem_toArray, List.getElem_cons_succ, List.getElem_cons_zero]; (go_simp <;> with_reducible rfl)
    try simp only [Act.put, List.setIfInBounds_toArray, List.set_cons_zero, List.set_cons_succ, List.getElem_toArray, List.getElem_cons_succ, List.getElem_cons_zero]
    refine wpAnyH_take (i := 7) (v := ?_) rfl (by kernel_rfl) (by kernel_rfl) (by kernel_rfl) (fun _ _ _ h => h) (Or.inl ⟨by rfl, ?_⟩) (by assumption) ?_
    rotate_left
    · intro w'' hSw; (try dsimp only at hSw); simp only [List.getElem_toArray, List.getElem_cons_succ, List.getElem_cons_zero]; (go_simp <;> with_reducible rfl)
    try simp only [Act.put, List.setIfInBounds_toArray, List.set_cons_zero, List.set_cons_succ, List.getElem_toArray, List.getElem_cons_succ, List.getElem_cons_zero]
    refine wpAnyH_take (i := 8) (v := ?_) rfl (by kernel_rfl) (by kernel_rfl) (by kernel_rfl) (fun _ _ _ h => h) (Or.inl ⟨by rfl, ?_⟩) (by assumption) ?_
    rotate_left
    · intro w'' hSw; (try dsimp only at hSw); simp only [List.getElem_toArray, List.getElem_cons_succ, List.getElem_cons_zero]; (go_simp <;> with_reducible rfl)
    try simp only [Act.put, List.setIfInBounds_toArray, List.set_cons_zero, List.set_cons_succ, List.getElem_toArray, List.getElem_cons_succ, List.getElem_cons_zero]
    refine wpAnyH_ready (rs := [4, 10, 11]) (by kernel_rfl) (by simp) ?_
    refine AllReadyH.cons rfl (fun K hK => ?_) (AllReadyH.cons rfl (fun K hK => ?_) (AllReadyH.cons rfl (fun K hK => ?_) AllReadyH.nil))
    · rw [if_pos (by rfl)]
      simp only [List.getElem_toArray, List.getElem_cons_succ, List.getElem_cons_zero]
      go_simp
      (go_at_call 24; refine (minus_calls _ _ _ _ _ _ _).mono ?_; rintro e wc1 ⟨rfl, kc1⟩)
      try go_wp2_with fail
      refine hK.out _ _ ?_ (fun hH1 => ?_)
      · exact ⟨hH0.1.trans kc1, HA.step (hH0.1.trans kc1)⟩
      clear hK K hH0
      try simp only [Act.put, List.setIfInBounds_toArray, List.set_cons_zero, List.set_cons_succ, List.getElem_toArray, List.getElem_cons_succ, List.getElem_cons_zero]
      refine wpAnyH_ready (rs := [9, 10, 11]) (by kernel_rfl) (by simp) ?_
      refine AllReadyH.cons rfl (fun K hK => ?_) (AllReadyH.cons rfl (fun K hK => ?_) (AllReadyH.cons rfl (fun K hK => ?_) AllReadyH.nil))
      · rw [if_pos (by rfl)]
        simp only [List.getElem_toArray, List.getElem_cons_succ, List.getElem_cons_zero]
        go_simp
        (go_at_call 24; refine (minus_calls _ _ _ _ _ _ _).mono ?_; rintro e wc2 ⟨rfl, kc2⟩)
        try go_wp2_with fail
        refine hK.out _ _ ?_ (fun hH2 => ?_)
        · exact ⟨hH1.1.trans kc2, HA.step (hH1.1.trans kc2)⟩
        clear hK K hH1
        try simp only [Act.put, List.setIfInBounds_toArray, List.set_cons_zero, List.set_cons_succ, List.getElem_toArray, List.getElem_cons_succ, List.getElem_cons_zero]
        refine wpAnyH_ready (rs := [10, 11]) (by kernel_rfl) (by simp) ?_
        refine AllReadyH.cons rfl (fun K hK => ?_) (AllReadyH.cons rfl (fun K hK => ?_) AllReadyH.nil)
        · rw [if_pos (by rfl)]
          simp only [List.getElem_toArray, List.getElem_cons_succ, List.getElem_cons_zero]
          go_simp
          refine hK.out _ _ ?_ (fun hH3 => ?_)
          · exact ⟨hH2.1.alloc _ _, HA.step (hH2.1.alloc _ _)⟩
          have hp : wA.heap.size ≤ wc2.heap.size := Nat.le_trans hH2.1.below.size (Nat.le_of_eq (by simp))
          have hP : Fr3 wA (wc2.heap.size) (wc2.alloc (.cells #[.int .i64 0, .int .i64 0, .int .i64 0] 26)) := by refine ⟨hH2.1.alloc _ _, cellV_of (v := .int .i64 0) ?_, cellV_of (v := .int .i64 0) ?_, cellV_of (v := .int .i64 0) ?_, ?_, ?_, ?_⟩ <;> go_simp
          clear hK K hH2
          try simp only [Act.put, List.setIfInBounds_toArray, List.set_cons_zero, List.set_cons_succ, List.getElem_toArray, List.getElem_cons_succ, List.getElem_cons_zero]
          refine wpAnyH_ready (rs := [11]) (by kernel_rfl) (by simp) ?_
          refine AllReadyH.cons rfl (fun K hK => ?_) AllReadyH.nil
          rw [if_pos (by rfl)]
          simp only [List.getElem_toArray, List.getElem_cons_succ, List.getElem_cons_zero]
          go_simp
          refine hK.out _ _ ?_ (fun hH4 => ?_)
          · exact ⟨hH3.1.alloc _ _, HA.step (hH3.1.alloc _ _)⟩
          have hq : wA.heap.size ≤ wc2.heap.size + 1 := Nat.le_trans hH3.1.below.size (Nat.le_of_eq (by simp))
          have hlt := World.block_lt_of_cell? _ _ hP.2.1
          simp at hlt
          have hne : wc2.heap.size ≠ wc2.heap.size + 1 := by omega
          clear hlt
          replace hP := hP.step ((Kept.refl _).alloc #[.int .i64 0, .int .i64 0, .int .i64 0] 26)
          have hQ : Fr3 wA (wc2.heap.size + 1) ((wc2.alloc (.cells #[.int .i64 0, .int .i64 0, .int .i64 0] 26)).alloc (.cells #[.int .i64 0, .int .i64 0, .int .i64 0] 26)) := by refine ⟨hH3.1.alloc _ _, cellV_of (v := .int .i64 0) ?_, cellV_of (v := .int .i64 0) ?_, cellV_of (v := .int .i64 0) ?_, ?_, ?_, ?_⟩ <;> go_simp
          clear hK K hH3
          try simp only [Act.put, List.setIfInBounds_toArray, List.set_cons_zero, List.set_cons_succ, List.getElem_toArray, List.getElem_cons_succ, List.getElem_cons_zero]
          generalize ((wc2.alloc (.cells #[.int .i64 0, .int .i64 0, .int .i64 0] 26)).alloc (.cells #[.int .i64 0, .int .i64 0, .int .i64 0] 26)) = wz5 at hH4 hP hQ ⊢
          have hP0 := hP
          obtain ⟨_, cp0, cp1, cp2, fp0, fp1, fp2⟩ := hP0
          have hY := hQ.past hne
          skip
          refine wpAnyH_ready (rs := [12]) (by kernel_rfl) (by simp) ?_
          refine AllReadyH.cons rfl (fun K hK => ?_) AllReadyH.nil
          rw [if_pos (by rfl)]
          simp only [List.getElem_toArray, List.getElem_cons_succ, List.getElem_cons_zero]
          go_simp
          refine hK.out _ _ ?_ (fun hS1 => ?_)
          · exact ⟨kept_set3 hH4.1 hp _ _ _, HA.step (kept_set3 hH4.1 hp _ _ _)⟩
          clear hK K
          try simp only [Act.put, List.setIfInBounds_toArray, List.set_cons_zero, List.set_cons_succ, List.getElem_toArray, List.getElem_cons_succ, List.getElem_cons_zero]
          refine wpAnyH_ready (rs := [13]) (by kernel_rfl) (by simp) ?_
          refine AllReadyH.cons rfl (fun K hK => ?_) AllReadyH.nil
          rw [if_pos (by rfl)]
          simp only [List.getElem_toArray, List.getElem_cons_succ, List.getElem_cons_zero]
          go_simp
          refine hK.out _ _ ?_ (fun hS2 => ?_)
          · exact ⟨kept_set3 hS1.1 hq _ _ _, HA.step (kept_set3 hS1.1 hq _ _ _)⟩
          clear hK K
          try simp only [Act.put, List.setIfInBounds_toArray, List.set_cons_zero, List.set_cons_succ, List.getElem_toArray, List.getElem_cons_succ, List.getElem_cons_zero]
          refine wpAnyH_done (by kernel_rfl) ?_ _
          go_wp2_with fail
          go_meet
          case rel =>
            obtain ⟨z0, z1, z2, z3, z4, z5⟩ := Fr3.two hP hQ hne (.int .i64 (sub a3 b0)) (.int .i64 (sub a4 b1)) (.int .i64 (sub a5 b2)) (.int .i64 (sub b3 a0)) (.int .i64 (sub b4 a1)) (.int .i64 (sub b5 a2))
            exact ⟨wc2.heap.size, wc2.heap.size + 1, rfl, rfl, hS2.1, z0, z1, z2, z3, z4, z5⟩
        · rw [if_pos (by rfl)]
          simp only [List.getElem_toArray, List.getElem_cons_succ, List.getElem_cons_zero]
          go_simp
          refine hK.out _ _ ?_ (fun hH6 => ?_)
          · exact ⟨hH2.1.alloc _ _, HA.step (hH2.1.alloc _ _)⟩
          have hq : wA.heap.size ≤ wc2.heap.size := Nat.le_trans hH2.1.below.size (Nat.le_of_eq (by simp))
          have hQ : Fr3 wA (wc2.heap.size) (wc2.alloc (.cells #[.int .i64 0, .int .i64 0, .int .i64 0] 26)) := by refine ⟨hH2.1.alloc _ _, cellV_of (v := .int .i64 0) ?_, cellV_of (v := .int .i64 0) ?_, cellV_of (v := .int .i64 0) ?_, ?_, ?_, ?_⟩ <;> go_simp
          clear hK K hH2
          try simp only [Act.put, List.setIfInBounds_toArray, List.set_cons_zero, List.set_cons_succ, List.getElem_toArray, List.getElem_cons_succ, List.getElem_cons_zero]
          refine wpAnyH_ready (rs := [10]) (by kernel_rfl) (by simp) ?_
          refine AllReadyH.cons rfl (fun K hK => ?_) AllReadyH.nil
          rw [if_pos (by rfl)]
          simp only [List.getElem_toArray, List.getElem_cons_succ, List.getElem_cons_zero]
          go_simp
          refine hK.out _ _ ?_ (fun hH7 => ?_)
          · exact ⟨hH6.1.alloc _ _, HA.step (hH6.1.alloc _ _)⟩
          have hp : wA.heap.size ≤ wc2.heap.size + 1 := Nat.le_trans hH6.1.below.size (Nat.le_of_eq (by simp))
          have hlt := World.block_lt_of_cell? _ _ hQ.2.1
          simp at hlt
          have hne : wc2.heap.size + 1 ≠ wc2.heap.size := by omega
          clear hlt
          replace hQ := hQ.step ((Kept.refl _).alloc #[.int .i64 0, .int .i64 0, .int .i64 0] 26)
          have hP : Fr3 wA (wc2.heap.size + 1) ((wc2.alloc (.cells #[.int .i64 0, .int .i64 0, .int .i64 0] 26)).alloc (.cells #[.int .i64 0, .int .i64 0, .int .i64 0] 26)) := by refine ⟨hH6.1.alloc _ _, cellV_of (v := .int .i64 0) ?_, cellV_of (v := .int .i64 0) ?_, cellV_of (v := .int .i64 0) ?_, ?_, ?_, ?_⟩ <;> go_simp
          clear hK K hH6
          try simp only [Act.put, List.setIfInBounds_toArray, List.set_cons_zero, List.set_cons_succ, List.getElem_toArray, List.getElem_cons_succ, List.getElem_cons_zero]
          generalize ((wc2.alloc (.cells #[.int .i64 0, .int .i64 0, .int .i64 0] 26)).alloc (.cells #[.int .i64 0, .int .i64 0, .int .i64 0] 26)) = wz8 at hH7 hP hQ ⊢
          have hP0 := hP
          obtain ⟨_, cp0, cp1, cp2, fp0, fp1, fp2⟩ := hP0
          have hY := hQ.past hne
          skip
          refine wpAnyH_ready (rs := [12]) (by kernel_rfl) (by simp) ?_
          refine AllReadyH.cons rfl (fun K hK => ?_) AllReadyH.nil
          rw [if_pos (by rfl)]
          simp only [List.getElem_toArray, List.getElem_cons_succ, List.getElem_cons_zero]
          go_simp
          refine hK.out _ _ ?_ (fun hS1 => ?_)
          · exact ⟨kept_set3 hH7.1 hp _ _ _, HA.step (kept_set3 hH7.1 hp _ _ _)⟩
          clear hK K
          try simp only [Act.put, List.setIfInBounds_toArray, List.set_cons_zero, List.set_cons_succ, List.getElem_toArray, List.getElem_cons_succ, List.getElem_cons_zero]
          refine wpAnyH_ready (rs := [13]) (by kernel_rfl) (by simp) ?_
          refine AllReadyH.cons rfl (fun K hK => ?_) AllReadyH.nil
          rw [if_pos (by rfl)]
          simp only [List.getElem_toArray, List.getElem_cons_succ, List.getElem_cons_zero]
          go_simp
          refine hK.out _ _ ?_ (fun hS2 => ?_)
          · exact ⟨kept_set3 hS1.1 hq _ _ _, HA.step (kept_set3 hS1.1 hq _ _ _)⟩
          clear hK K
          try simp only [Act.put, List.setIfInBounds_toArray, List.set_cons_zero, List.set_cons_succ, List.getElem_toArray, List.getElem_cons_succ, List.getElem_cons_zero]
          refine wpAnyH_done (by kernel_rfl) ?_ _
          go_wp2_with fail
          go_meet
          case rel =>
            obtain ⟨z0, z1, z2, z3, z4, z5⟩ := Fr3.two hP hQ hne (.int .i64 (sub a3 b0)) (.int .i64 (sub a4 b1)) (.int .i64 (sub a5 b2)) (.int .i64 (sub b3 a0)) (.int .i64 (sub b4 a1)) (.int .i64 (sub b5 a2))
            exact ⟨wc2.heap.size + 1, wc2.heap.size, rfl, rfl, hS2.1, z0, z1, z2, z3, z4, z5⟩
      · rw [if_pos (by rfl)]
        simp only [List.getElem_toArray, List.getElem_cons_succ, List.getElem_cons_zero]
        go_simp
        refine hK.out _ _ ?_ (fun hH9 => ?_)
        · exact ⟨hH1.1.alloc _ _, HA.step (hH1.1.alloc _ _)⟩
        have hp : wA.heap.size ≤ wc1.heap.size := Nat.le_trans hH1.1.below.size (Nat.le_of_eq (by simp))
        have hP : Fr3 wA (wc1.heap.size) (wc1.alloc (.cells #[.int .i64 0, .int .i64 0, .int .i64 0] 26)) := by refine ⟨hH1.1.alloc _ _, cellV_of (v := .int .i64 0) ?_, cellV_of (v := .int .i64 0) ?_, cellV_of (v := .int .i64 0) ?_, ?_, ?_, ?_⟩ <;> go_simp
        clear hK K hH1
        try simp only [Act.put, List.setIfInBounds_toArray, List.set_cons_zero, List.set_cons_succ, List.getElem_toArray, List.getElem_cons_succ, List.getElem_cons_zero]
        refine wpAnyH_ready (rs := [9, 11]) (by kernel_rfl) (by simp) ?_
        refine AllReadyH.cons rfl (fun K hK => ?_) (AllReadyH.cons rfl (fun K hK => ?_) AllReadyH.nil)
        · rw [if_pos (by rfl)]
          simp only [List.getElem_toArray, List.getElem_cons_succ, List.getElem_cons_zero]
          go_simp
          (go_at_call 24; refine (minus_calls _ _ _ _ _ _ _).mono ?_; rintro e wc10 ⟨rfl, kc10⟩)
          try go_wp2_with fail
          refine hK.out _ _ ?_ (fun hH10 => ?_)
          · exact ⟨hH9.1.trans kc10, HA.step (hH9.1.trans kc10)⟩
          replace hP := hP.step kc10
          clear hK K hH9
          try simp only [Act.put, List.setIfInBounds_toArray, List.set_cons_zero, List.set_cons_succ, List.getElem_toArray, List.getElem_cons_succ, List.getElem_cons_zero]
          refine wpAnyH_ready (rs := [11]) (by kernel_rfl) (by simp) ?_
          refine AllReadyH.cons rfl (fun K hK => ?_) AllReadyH.nil
          rw [if_pos (by rfl)]
          simp only [List.getElem_toArray, List.getElem_cons_succ, List.getElem_cons_zero]
          go_simp
          refine hK.out _ _ ?_ (fun hH11 => ?_)
          · exact ⟨hH10.1.alloc _ _, HA.step (hH10.1.alloc _ _)⟩
          have hq : wA.heap.size ≤ wc10.heap.size := Nat.le_trans hH10.1.below.size (Nat.le_of_eq (by simp))
          have hlt := World.block_lt_of_cell? _ _ hP.2.1
          simp at hlt
          have hne : wc1.heap.size ≠ wc10.heap.size := by omega
          clear hlt
          replace hP := hP.step ((Kept.refl _).alloc #[.int .i64 0, .int .i64 0, .int .i64 0] 26)
          have hQ : Fr3 wA (wc10.heap.size) (wc10.alloc (.cells #[.int .i64 0, .int .i64 0, .int .i64 0] 26)) := by refine ⟨hH10.1.alloc _ _, cellV_of (v := .int .i64 0) ?_, cellV_of (v := .int .i64 0) ?_, cellV_of (v := .int .i64 0) ?_, ?_, ?_, ?_⟩ <;> go_simp
          clear hK K hH10
          try simp only [Act.put, List.setIfInBounds_toArray, List.set_cons_zero, List.set_cons_succ, List.getElem_toArray, List.getElem_cons_succ, List.getElem_cons_zero]
          generalize (wc10.alloc (.cells #[.int .i64 0, .int .i64 0, .int .i64 0] 26)) = wz12 at hH11 hP hQ ⊢
          have hP0 := hP
          obtain ⟨_, cp0, cp1, cp2, fp0, fp1, fp2⟩ := hP0
          have hY := hQ.past hne
          skip
          refine wpAnyH_ready (rs := [12]) (by kernel_rfl) (by simp) ?_
          refine AllReadyH.cons rfl (fun K hK => ?_) AllReadyH.nil
          rw [if_pos (by rfl)]
          simp only [List.getElem_toArray, List.getElem_cons_succ, List.getElem_cons_zero]
          go_simp
          refine hK.out _ _ ?_ (fun hS1 => ?_)
          · exact ⟨kept_set3 hH11.1 hp _ _ _, HA.step (kept_set3 hH11.1 hp _ _ _)⟩
          clear hK K
          try simp only [Act.put, List.setIfInBounds_toArray, List.set_cons_zero, List.set_cons_succ, List.getElem_toArray, List.getElem_cons_succ, List.getElem_cons_zero]
          refine wpAnyH_ready (rs := [13]) (by kernel_rfl) (by simp) ?_
          refine AllReadyH.cons rfl (fun K hK => ?_) AllReadyH.nil
          rw [if_pos (by rfl)]
          simp only [List.getElem_toArray, List.getElem_cons_succ, List.getElem_cons_zero]
          go_simp
          refine hK.out _ _ ?_ (fun hS2 => ?_)
          · exact ⟨kept_set3 hS1.1 hq _ _ _, HA.step (kept_set3 hS1.1 hq _ _ _)⟩
          clear hK K
          try simp only [Act.put, List.setIfInBounds_toArray, List.set_cons_zero, List.set_cons_succ, List.getElem_toArray, List.getElem_cons_succ, List.getElem_cons_zero]
          refine wpAnyH_done (by kernel_rfl) ?_ _
          go_wp2_with fail
          go_meet
          case rel =>
            obtain ⟨z0, z1, z2, z3, z4, z5⟩ := Fr3.two hP hQ hne (.int .i64 (sub a3 b0)) (.int .i64 (sub a4 b1)) (.int .i64 (sub a5 b2)) (.int .i64 (sub b3 a0)) (.int .i64 (sub b4 a1)) (.int .i64 (sub b5 a2))
            exact ⟨wc1.heap.size, wc10.heap.size, rfl, rfl, hS2.1, z0, z1, z2, z3, z4, z5⟩
        · rw [if_pos (by rfl)]
          simp only [List.getElem_toArray, List.getElem_cons_succ, List.getElem_cons_zero]
          go_simp
          refine hK.out _ _ ?_ (fun hH13 => ?_)
          · exact ⟨hH9.1.alloc _ _, HA.step (hH9.1.alloc _ _)⟩
          have hq : wA.heap.size ≤ wc1.heap.size + 1 := Nat.le_trans hH9.1.below.size (Nat.le_of_eq (by simp))
          have hlt := World.block_lt_of_cell? _ _ hP.2.1
          simp at hlt
          have hne : wc1.heap.size ≠ wc1.heap.size + 1 := by omega
          clear hlt
          replace hP := hP.step ((Kept.refl _).alloc #[.int .i64 0, .int .i64 0, .int .i64 0] 26)
          have hQ : Fr3 wA (wc1.heap.size + 1) ((wc1.alloc (.cells #[.int .i64 0, .int .i64 0, .int .i64 0] 26)).alloc (.cells #[.int .i64 0, .int .i64 0, .int .i64 0] 26)) := by refine ⟨hH9.1.alloc _ _, cellV_of (v := .int .i64 0) ?_, cellV_of (v := .int .i64 0) ?_, cellV_of (v := .int .i64 0) ?_, ?_, ?_, ?_⟩ <;> go_simp
          clear hK K hH9
          try simp only [Act.put, List.setIfInBounds_toArray, List.set_cons_zero, List.set_cons_succ, List.getElem_toArray, List.getElem_cons_succ, List.getElem_cons_zero]
          refine wpAnyH_ready (rs := [9]) (by kernel_rfl) (by simp) ?_
          refine AllReadyH.cons rfl (fun K hK => ?_) AllReadyH.nil
          rw [if_pos (by rfl)]
          simp only [List.getElem_toArray, List.getElem_cons_succ, List.getElem_cons_zero]
          go_simp
          (go_at_call 24; refine (minus_calls _ _ _ _ _ _ _).mono ?_; rintro e wc14 ⟨rfl, kc14⟩)
          try go_wp2_with fail
          refine hK.out _ _ ?_ (fun hH14 => ?_)
          · exact ⟨hH13.1.trans kc14, HA.step (hH13.1.trans kc14)⟩
          replace hP := hP.step kc14
          replace hQ := hQ.step kc14
          clear hK K hH13
          try simp only [Act.put, List.setIfInBounds_toArray, List.set_cons_zero, List.set_cons_succ, List.getElem_toArray, List.getElem_cons_succ, List.getElem_cons_zero]
          have hP0 := hP
          obtain ⟨_, cp0, cp1, cp2, fp0, fp1, fp2⟩ := hP0
          have hY := hQ.past hne
          skip
          refine wpAnyH_ready (rs := [12]) (by kernel_rfl) (by simp) ?_
          refine AllReadyH.cons rfl (fun K hK => ?_) AllReadyH.nil
          rw [if_pos (by rfl)]
          simp only [List.getElem_toArray, List.getElem_cons_succ, List.getElem_cons_zero]
          go_simp
          refine hK.out _ _ ?_ (fun hS1 => ?_)
          · exact ⟨kept_set3 hH14.1 hp _ _ _, HA.step (kept_set3 hH14.1 hp _ _ _)⟩
          clear hK K
          try simp only [Act.put, List.setIfInBounds_toArray, List.set_cons_zero, List.set_cons_succ, List.getElem_toArray, List.getElem_cons_succ, List.getElem_cons_zero]
          refine wpAnyH_ready (rs := [13]) (by kernel_rfl) (by simp) ?_
          refine AllReadyH.cons rfl (fun K hK => ?_) AllReadyH.nil
          rw [if_pos (by rfl)]
          simp only [List.getElem_toArray, List.getElem_cons_succ, List.getElem_cons_zero]
          go_simp
          refine hK.out _ _ ?_ (fun hS2 => ?_)
          · exact ⟨kept_set3 hS1.1 hq _ _ _, HA.step (kept_set3 hS1.1 hq _ _ _)⟩
          clear hK K
          try simp only [Act.put, List.setIfInBounds_toArray, List.set_cons_zero, List.set_cons_succ, List.getElem_toArray, List.getElem_cons_succ, List.getElem_cons_zero]
          refine wpAnyH_done (by kernel_rfl) ?_ _
          go_wp2_with fail
          go_meet
          case rel =>
            obtain ⟨z0, z1, z2, z3, z4, z5⟩ := Fr3.two hP hQ hne (.int .i64 (sub a3 b0)) (.int .i64 (sub a4 b1)) (.int .i64 (sub a5 b2)) (.int .i64 (sub b3 a0)) (.int .i64 (sub b4 a1)) (.int .i64 (sub b5 a2))
            exact ⟨wc1.heap.size, wc1.heap.size + 1, rfl, rfl, hS2.1, z0, z1, z2, z3, z4, z5⟩
      · rw [if_pos (by rfl)]
        simp only [List.getElem_toArray, List.getElem_cons_succ, List.getElem_cons_zero]
        go_simp
        refine hK.out _ _ ?_ (fun hH15 => ?_)
        · exact ⟨hH1.1.alloc _ _, HA.step (hH1.1.alloc _ _)⟩
        have hq : wA.heap.size ≤ wc1.heap.size := Nat.le_trans hH1.1.below.size (Nat.le_of_eq (by simp))
        have hQ : Fr3 wA (wc1.heap.size) (wc1.alloc (.cells #[.int .i64 0, .int .i64 0, .int .i64 0] 26)) := by refine ⟨hH1.1.alloc _ _, cellV_of (v := .int .i64 0) ?_, cellV_of (v := .int .i64 0) ?_, cellV_of (v := .int .i64 0) ?_, ?_, ?_, ?_⟩ <;> go_simp
        clear hK K hH1
        try simp only [Act.put, List.setIfInBounds_toArray, List.set_cons_zero, List.set_cons_succ, List.getElem_toArray, List.getElem_cons_succ, List.getElem_cons_zero]
        refine wpAnyH_ready (rs := [9, 10]) (by kernel_rfl) (by simp) ?_
        refine AllReadyH.cons rfl (fun K hK => ?_) (AllReadyH.cons rfl (fun K hK => ?_) AllReadyH.nil)
        · rw [if_pos (by rfl)]
          simp only [List.getElem_toArray, List.getElem_cons_succ, List.getElem_cons_zero]
          go_simp
          (go_at_call 24; refine (minus_calls _ _ _ _ _ _ _).mono ?_; rintro e wc16 ⟨rfl, kc16⟩)
          try go_wp2_with fail
          refine hK.out _ _ ?_ (fun hH16 => ?_)
          · exact ⟨hH15.1.trans kc16, HA.step (hH15.1.trans kc16)⟩
          replace hQ := hQ.step kc16
          clear hK K hH15
          try simp only [Act.put, List.setIfInBounds_toArray, List.set_cons_zero, List.set_cons_succ, List.getElem_toArray, List.getElem_cons_succ, List.getElem_cons_zero]
          refine wpAnyH_ready (rs := [10]) (by kernel_rfl) (by simp) ?_
          refine AllReadyH.cons rfl (fun K hK => ?_) AllReadyH.nil
          rw [if_pos (by rfl)]
          simp only [List.getElem_toArray, List.getElem_cons_succ, List.getElem_cons_zero]
          go_simp
          refine hK.out _ _ ?_ (fun hH17 => ?_)
          · exact ⟨hH16.1.alloc _ _, HA.step (hH16.1.alloc _ _)⟩
          have hp : wA.heap.size ≤ wc16.heap.size := Nat.le_trans hH16.1.below.size (Nat.le_of_eq (by simp))
          have hlt := World.block_lt_of_cell? _ _ hQ.2.1
          simp at hlt
          have hne : wc16.heap.size ≠ wc1.heap.size := by omega
          clear hlt
          replace hQ := hQ.step ((Kept.refl _).alloc #[.int .i64 0, .int .i64 0, .int .i64 0] 26)
          have hP : Fr3 wA (wc16.heap.size) (wc16.alloc (.cells #[.int .i64 0, .int .i64 0, .int .i64 0] 26)) := by refine ⟨hH16.1.alloc _ _, cellV_of (v := .int .i64 0) ?_, cellV_of (v := .int .i64 0) ?_, cellV_of (v := .int .i64 0) ?_, ?_, ?_, ?_⟩ <;> go_simp
          clear hK K hH16
          try simp only [Act.put, List.setIfInBounds_toArray, List.set_cons_zero, List.set_cons_succ, List.getElem_toArray, List.getElem_cons_succ, List.getElem_cons_zero]
          generalize (wc16.alloc (.cells #[.int .i64 0, .int .i64 0, .int .i64 0] 26)) = wz18 at hH17 hP hQ ⊢
          have hP0 := hP
          obtain ⟨_, cp0, cp1, cp2, fp0, fp1, fp2⟩ := hP0
          have hY := hQ.past hne
          skip
          refine wpAnyH_ready (rs := [12]) (by kernel_rfl) (by simp) ?_
          refine AllReadyH.cons rfl (fun K hK => ?_) AllReadyH.nil
          rw [if_pos (by rfl)]
          simp only [List.getElem_toArray, List.getElem_cons_succ, List.getElem_cons_zero]
          go_simp
          refine hK.out _ _ ?_ (fun hS1 => ?_)
          · exact ⟨kept_set3 hH17.1 hp _ _ _, HA.step (kept_set3 hH17.1 hp _ _ _)⟩
          clear hK K
          try simp only [Act.put, List.setIfInBounds_toArray, List.set_cons_zero, List.set_cons_succ, List.getElem_toArray, List.getElem_cons_succ, List.getElem_cons_zero]
          refine wpAnyH_ready (rs := [13]) (by kernel_rfl) (by simp) ?_
          refine AllReadyH.cons rfl (fun K hK => ?_) AllReadyH.nil
          rw [if_pos (by rfl)]
          simp only [List.getElem_toArray, List.getElem_cons_succ, List.getElem_cons_zero]
          go_simp
          refine hK.out _ _ ?_ (fun hS2 => ?_)
          · exact ⟨kept_set3 hS1.1 hq _ _ _, HA.step (kept_set3 hS1.1 hq _ _ _)⟩
          clear hK K
          try simp only [Act.put, List.setIfInBounds_toArray, List.set_cons_zero, List.set_cons_succ, List.getElem_toArray, List.getElem_cons_succ, List.getElem_cons_zero]
          refine wpAnyH_done (by kernel_rfl) ?_ _
          go_wp2_with fail
          go_meet
          case rel =>
            obtain ⟨z0, z1, z2, z3, z4, z5⟩ := Fr3.two hP hQ hne (.int .i64 (sub a3 b0)) (.int .i64 (sub a4 b1)) (.int .i64 (sub a5 b2)) (.int .i64 (sub b3 a0)) (.int .i64 (sub b4 a1)) (.int .i64 (sub b5 a2))
            exact ⟨wc16.heap.size, wc1.heap.size, rfl, rfl, hS2.1, z0, z1, z2, z3, z4, z5⟩
        · rw [if_pos (by rfl)]
          simp only [List.getElem_toArray, List.getElem_cons_succ, List.getElem_cons_zero]
          go_simp
          refine hK.out _ _ ?_ (fun hH19 => ?_)
          · exact ⟨hH15.1.alloc _ _, HA.step (hH15.1.alloc _ _)⟩
          have hp : wA.heap.size ≤ wc1.heap.size + 1 := Nat.le_trans hH15.1.below.size (Nat.le_of_eq (by simp))
          have hlt := World.block_lt_of_cell? _ _ hQ.2.1
          simp at hlt
          have hne : wc1.heap.size + 1 ≠ wc1.heap.size := by omega
          clear hlt
          replace hQ := hQ.step ((Kept.refl _).alloc #[.int .i64 0, .int .i64 0, .int .i64 0] 26)
          have hP : Fr3 wA (wc1.heap.size + 1) ((wc1.alloc (.cells #[.int .i64 0, .int .i64 0, .int .i64 0] 26)).alloc (.cells #[.int .i64 0, .int .i64 0, .int .i64 0] 26)) := by refine ⟨hH15.1.alloc _ _, cellV_of (v := .int .i64 0) ?_, cellV_of (v := .int .i64 0) ?_, cellV_of (v := .int .i64 0) ?_, ?_, ?_, ?_⟩ <;> go_simp
          clear hK K hH15
          try simp only [Act.put, List.setIfInBounds_toArray, List.set_cons_zero, List.set_cons_succ, List.getElem_toArray, List.getElem_cons_succ, List.getElem_cons_zero]
          refine wpAnyH_ready (rs := [9]) (by kernel_rfl) (by simp) ?_
          refine AllReadyH.cons rfl (fun K hK => ?_) AllReadyH.nil
          rw [if_pos (by rfl)]
          simp only [List.getElem_toArray, List.getElem_cons_succ, List.getElem_cons_zero]
          go_simp
          (go_at_call 24; refine (minus_calls _ _ _ _ _ _ _).mono ?_; rintro e wc20 ⟨rfl, kc20⟩)
          try go_wp2_with fail
          refine hK.out _ _ ?_ (fun hH20 => ?_)
          · exact ⟨hH19.1.trans kc20, HA.step (hH19.1.trans kc20)⟩
          replace hP := hP.step kc20
          replace hQ := hQ.step kc20
          clear hK K hH19
          try simp only [Act.put, List.setIfInBounds_toArray, List.set_cons_zero, List.set_cons_succ, List.getElem_toArray, List.getElem_cons_succ, List.getElem_cons_zero]
          have hP0 := hP
          obtain ⟨_, cp0, cp1, cp2, fp0, fp1, fp2⟩ := hP0
          have hY := hQ.past hne
          skip
          refine wpAnyH_ready (rs := [12]) (by kernel_rfl) (by simp) ?_
          refine AllReadyH.cons rfl (fun K hK => ?_) AllReadyH.nil
          rw [if_pos (by rfl)]
          simp only [List.getElem_toArray, List.getElem_cons_succ, List.getElem_cons_zero]
          go_simp
          refine hK.out _ _ ?_ (fun hS1 => ?_)
          · exact ⟨kept_set3 hH20.1 hp _ _ _, HA.step (kept_set3 hH20.1 hp _ _ _)⟩
          clear hK K
          try simp only [Act.put, List.setIfInBounds_toArray, List.set_cons_zero, List.set_cons_succ, List.getElem_toArray, List.getElem_cons_succ, List.getElem_cons_zero]
          refine wpAnyH_ready (rs := [13]) (by kernel_rfl) (by simp) ?_
          refine AllReadyH.cons rfl (fun K hK => ?_) AllReadyH.nil
          rw [if_pos (by rfl)]
          simp only [List.getElem_toArray, List.getElem_cons_succ, List.getElem_cons_zero]
          go_simp
          refine hK.out _ _ ?_ (fun hS2 => ?_)
          · exact ⟨kept_set3 hS1.1 hq _ _ _, HA.step (kept_set3 hS1.1 hq _ _ _)⟩
          clear hK K
          try simp only [Act.put, List.setIfInBounds_toArray, List.set_cons_zero, List.set_cons_succ, List.getElem_toArray, List.getElem_cons_succ, List.getElem_cons_zero]
          refine wpAnyH_done (by kernel_rfl) ?_ _
          go_wp2_with fail
          go_meet
          case rel =>
            obtain ⟨z0, z1, z2, z3, z4, z5⟩ := Fr3.two hP hQ hne (.int .i64 (sub a3 b0)) (.int .i64 (sub a4 b1)) (.int .i64 (sub a5 b2)) (.int .i64 (sub b3 a0)) (.int .i64 (sub b4 a1)) (.int .i64 (sub b5 a2))
            exact ⟨wc1.heap.size + 1, wc1.heap.size, rfl, rfl, hS2.1, z0, z1, z2, z3, z4, z5⟩
    · rw [if_pos (by rfl)]
      simp only [List.getElem_toArray, List.getElem_cons_succ, List.getElem_cons_zero]
      go_simp
      refine hK.out _ _ ?_ (fun hH21 => ?_)
      · exact ⟨hH0.1.alloc _ _, HA.step (hH0.1.alloc _ _)⟩
      have hp : wA.heap.size ≤ wA.heap.size := Nat.le_trans hH0.1.below.size (Nat.le_of_eq (by simp))
      have hP : Fr3 wA (wA.heap.size) (wA.drew.alloc (.cells #[.int .i64 0, .int .i64 0, .int .i64 0] 26)) := by refine ⟨hH0.1.alloc _ _, cellV_of (v := .int .i64 0) ?_, cellV_of (v := .int .i64 0) ?_, cellV_of (v := .int .i64 0) ?_, ?_, ?_, ?_⟩ <;> go_simp
      clear hK K hH0
      try simp only [Act.put, List.setIfInBounds_toArray, List.set_cons_zero, List.set_cons_succ, List.getElem_toArray, List.getElem_cons_succ, List.getElem_cons_zero]
      refine wpAnyH_ready (rs := [4, 11]) (by kernel_rfl) (by simp) ?_
      refine AllReadyH.cons rfl (fun K hK => ?_) (AllReadyH.cons rfl (fun K hK => ?_) AllReadyH.nil)
      · rw [if_pos (by rfl)]
        simp only [List.getElem_toArray, List.getElem_cons_succ, List.getElem_cons_zero]
        go_simp
        (go_at_call 24; refine (minus_calls _ _ _ _ _ _ _).mono ?_; rintro e wc22 ⟨rfl, kc22⟩)
        try go_wp2_with fail
        refine hK.out _ _ ?_ (fun hH22 => ?_)
        · exact ⟨hH21.1.trans kc22, HA.step (hH21.1.trans kc22)⟩
        replace hP := hP.step kc22
        clear hK K hH21
        try simp only [Act.put, List.setIfInBounds_toArray, List.set_cons_zero, List.set_cons_succ, List.getElem_toArray, List.getElem_cons_succ, List.getElem_cons_zero]
        refine wpAnyH_ready (rs := [9, 11]) (by kernel_rfl) (by simp) ?_
        refine AllReadyH.cons rfl (fun K hK => ?_) (AllReadyH.cons rfl (fun K hK => ?_) AllReadyH.nil)
        · rw [if_pos (by rfl)]
          simp only [List.getElem_toArray, List.getElem_cons_succ, List.getElem_cons_zero]
          go_simp
          (go_at_call 24; refine (minus_calls _ _ _ _ _ _ _).mono ?_; rintro e wc23 ⟨rfl, kc23⟩)
          try go_wp2_with fail
          refine hK.out _ _ ?_ (fun hH23 => ?_)
          · exact ⟨hH22.1.trans kc23, HA.step (hH22.1.trans kc23)⟩
          replace hP := hP.step kc23
          clear hK K hH22
          try simp only [Act.put, List.setIfInBounds_toArray, List.set_cons_zero, List.set_cons_succ, List.getElem_toArray, List.getElem_cons_succ, List.getElem_cons_zero]
          refine wpAnyH_ready (rs := [11]) (by kernel_rfl) (by simp) ?_
          refine AllReadyH.cons rfl (fun K hK => ?_) AllReadyH.nil
          rw [if_pos (by rfl)]
          simp only [List.getElem_toArray, List.getElem_cons_succ, List.getElem_cons_zero]
          go_simp
          refine hK.out _ _ ?_ (fun hH24 => ?_)
          · exact ⟨hH23.1.alloc _ _, HA.step (hH23.1.alloc _ _)⟩
          have hq : wA.heap.size ≤ wc23.heap.size := Nat.le_trans hH23.1.below.size (Nat.le_of_eq (by simp))
          have hlt := World.block_lt_of_cell? _ _ hP.2.1
          simp at hlt
          have hne : wA.heap.size ≠ wc23.heap.size := by omega
          clear hlt
          replace hP := hP.step ((Kept.refl _).alloc #[.int .i64 0, .int .i64 0, .int .i64 0] 26)
          have hQ : Fr3 wA (wc23.heap.size) (wc23.alloc (.cells #[.int .i64 0, .int .i64 0, .int .i64 0] 26)) := by refine ⟨hH23.1.alloc _ _, cellV_of (v := .int .i64 0) ?_, cellV_of (v := .int .i64 0) ?_, cellV_of (v := .int .i64 0) ?_, ?_, ?_, ?_⟩ <;> go_simp
          clear hK K hH23
          try simp only [Act.put, List.setIfInBounds_toArray, List.set_cons_zero, List.set_cons_succ, List.getElem_toArray, List.getElem_cons_succ, List.getElem_cons_zero]
          generalize (wc23.alloc (.cells #[.int .i64 0, .int .i64 0, .int .i64 0] 26)) = wz25 at hH24 hP hQ ⊢
          have hP0 := hP
          obtain ⟨_, cp0, cp1, cp2, fp0, fp1, fp2⟩ := hP0
          have hY := hQ.past hne
          skip
          refine wpAnyH_ready (rs := [12]) (by kernel_rfl) (by simp) ?_
          refine AllReadyH.cons rfl (fun K hK => ?_) AllReadyH.nil
          rw [if_pos (by rfl)]
          simp only [List.getElem_toArray, List.getElem_cons_succ, List.getElem_cons_zero]
          go_simp
          refine hK.out _ _ ?_ (fun hS1 => ?_)
          · exact ⟨kept_set3 hH24.1 hp _ _ _, HA.step (kept_set3 hH24.1 hp _ _ _)⟩
          clear hK K
          try simp only [Act.put, List.setIfInBounds_toArray, List.set_cons_zero, List.set_cons_succ, List.getElem_toArray, List.getElem_cons_succ, List.getElem_cons_zero]
          refine wpAnyH_ready (rs := [13]) (by kernel_rfl) (by simp) ?_
          refine AllReadyH.cons rfl (fun K hK => ?_) AllReadyH.nil
          rw [if_pos (by rfl)]
          simp only [List.getElem_toArray, List.getElem_cons_succ, List.getElem_cons_zero]
          go_simp
          refine hK.out _ _ ?_ (fun hS2 => ?_)
          · exact ⟨kept_set3 hS1.1 hq _ _ _, HA.step (kept_set3 hS1.1 hq _ _ _)⟩
          clear hK K
          try simp only [Act.put, List.setIfInBounds_toArray, List.set_cons_zero, List.set_cons_succ, List.getElem_toArray, List.getElem_cons_succ, List.getElem_cons_zero]
          refine wpAnyH_done (by kernel_rfl) ?_ _
          go_wp2_with fail
          go_meet
          case rel =>
            obtain ⟨z0, z1, z2, z3, z4, z5⟩ := Fr3.two hP hQ hne (.int .i64 (sub a3 b0)) (.int .i64 (sub a4 b1)) (.int .i64 (sub a5 b2)) (.int .i64 (sub b3 a0)) (.int .i64 (sub b4 a1)) (.int .i64 (sub b5 a2))
            exact ⟨wA.heap.size, wc23.heap.size, rfl, rfl, hS2.1, z0, z1, z2, z3, z4, z5⟩
        · rw [if_pos (by rfl)]
          simp only [List.getElem_toArray, List.getElem_cons_succ, List.getElem_cons_zero]
          go_simp
          refine hK.out _ _ ?_ (fun hH26 => ?_)
          · exact ⟨hH22.1.alloc _ _, HA.step (hH22.1.alloc _ _)⟩
          have hq : wA.heap.size ≤ wc22.heap.size := Nat.le_trans hH22.1.below.size (Nat.le_of_eq (by simp))
          have hlt := World.block_lt_of_cell? _ _ hP.2.1
          simp at hlt
          have hne : wA.heap.size ≠ wc22.heap.size := by omega
          clear hlt
          replace hP := hP.step ((Kept.refl _).alloc #[.int .i64 0, .int .i64 0, .int .i64 0] 26)
          have hQ : Fr3 wA (wc22.heap.size) (wc22.alloc (.cells #[.int .i64 0, .int .i64 0, .int .i64 0] 26)) := by refine ⟨hH22.1.alloc _ _, cellV_of (v := .int .i64 0) ?_, cellV_of (v := .int .i64 0) ?_, cellV_of (v := .int .i64 0) ?_, ?_, ?_, ?_⟩ <;> go_simp
          clear hK K hH22
          try simp only [Act.put, List.setIfInBounds_toArray, List.set_cons_zero, List.set_cons_succ, List.getElem_toArray, List.getElem_cons_succ, List.getElem_cons_zero]
          refine wpAnyH_ready (rs := [9]) (by kernel_rfl) (by simp) ?_
          refine AllReadyH.cons rfl (fun K hK => ?_) AllReadyH.nil
          rw [if_pos (by rfl)]
          simp only [List.getElem_toArray, List.getElem_cons_succ, List.getElem_cons_zero]
          go_simp
          (go_at_call 24; refine (minus_calls _ _ _ _ _ _ _).mono ?_; rintro e wc27 ⟨rfl, kc27⟩)
          try go_wp2_with fail
          refine hK.out _ _ ?_ (fun hH27 => ?_)
          · exact ⟨hH26.1.trans kc27, HA.step (hH26.1.trans kc27)⟩
          replace hP := hP.step kc27
          replace hQ := hQ.step kc27
          clear hK K hH26
          try simp only [Act.put, List.setIfInBounds_toArray, List.set_cons_zero, List.set_cons_succ, List.getElem_toArray, List.getElem_cons_succ, List.getElem_cons_zero]
          have hP0 := hP
          obtain ⟨_, cp0, cp1, cp2, fp0, fp1, fp2⟩ := hP0
          have hY := hQ.past hne
          skip
          refine wpAnyH_ready (rs := [12]) (by kernel_rfl) (by simp) ?_
          refine AllReadyH.cons rfl (fun K hK => ?_) AllReadyH.nil
          rw [if_pos (by rfl)]
          simp only [List.getElem_toArray, List.getElem_cons_succ, List.getElem_cons_zero]
          go_simp
          refine hK.out _ _ ?_ (fun hS1 => ?_)
          · exact ⟨kept_set3 hH27.1 hp _ _ _, HA.step (kept_set3 hH27.1 hp _ _ _)⟩
          clear hK K
          try simp only [Act.put, List.setIfInBounds_toArray, List.set_cons_zero, List.set_cons_succ, List.getElem_toArray, List.getElem_cons_succ, List.getElem_cons_zero]
          refine wpAnyH_ready (rs := [13]) (by kernel_rfl) (by simp) ?_
          refine AllReadyH.cons rfl (fun K hK => ?_) AllReadyH.nil
          rw [if_pos (by rfl)]
          simp only [List.getElem_toArray, List.getElem_cons_succ, List.getElem_cons_zero]
          go_simp
          refine hK.out _ _ ?_ (fun hS2 => ?_)
          · exact ⟨kept_set3 hS1.1 hq _ _ _, HA.step (kept_set3 hS1.1 hq _ _ _)⟩
          clear hK K
          try simp only [Act.put, List.setIfInBounds_toArray, List.set_cons_zero, List.set_cons_succ, List.getElem_toArray, List.getElem_cons_succ, List.getElem_cons_zero]
          refine wpAnyH_done (by kernel_rfl) ?_ _
          go_wp2_with fail
          go_meet
          case rel =>
            obtain ⟨z0, z1, z2, z3, z4, z5⟩ := Fr3.two hP hQ hne (.int .i64 (sub a3 b0)) (.int .i64 (sub a4 b1)) (.int .i64 (sub a5 b2)) (.int .i64 (sub b3 a0)) (.int .i64 (sub b4 a1)) (.int .i64 (sub b5 a2))
            exact ⟨wA.heap.size, wc22.heap.size, rfl, rfl, hS2.1, z0, z1, z2, z3, z4, z5⟩
      · rw [if_pos (by rfl)]
        simp only [List.getElem_toArray, List.getElem_cons_succ, List.getElem_cons_zero]
        go_simp
        refine hK.out _ _ ?_ (fun hH28 => ?_)
        · exact ⟨hH21.1.alloc _ _, HA.step (hH21.1.alloc _ _)⟩
        have hq : wA.heap.size ≤ wA.heap.size + 1 := Nat.le_trans hH21.1.below.size (Nat.le_of_eq (by simp))
        have hlt := World.block_lt_of_cell? _ _ hP.2.1
        simp at hlt
        have hne : wA.heap.size ≠ wA.heap.size + 1 := by omega
        clear hlt
        replace hP := hP.step ((Kept.refl _).alloc #[.int .i64 0, .int .i64 0, .int .i64 0] 26)
        have hQ : Fr3 wA (wA.heap.size + 1) ((wA.drew.alloc (.cells #[.int .i64 0, .int .i64 0, .int .i64 0] 26)).alloc (.cells #[.int .i64 0, .int .i64 0, .int .i64 0] 26)) := by refine ⟨hH21.1.alloc _ _, cellV_of (v := .int .i64 0) ?_, cellV_of (v := .int .i64 0) ?_, cellV_of (v := .int .i64 0) ?_, ?_, ?_, ?_⟩ <;> go_simp
        clear hK K hH21
        try simp only [Act.put, List.setIfInBounds_toArray, List.set_cons_zero, List.set_cons_succ, List.getElem_toArray, List.getElem_cons_succ, List.getElem_cons_zero]
        refine wpAnyH_ready (rs := [4]) (by kernel_rfl) (by simp) ?_
        refine AllReadyH.cons rfl (fun K hK => ?_) AllReadyH.nil
        rw [if_pos (by rfl)]
        simp only [List.getElem_toArray, List.getElem_cons_succ, List.getElem_cons_zero]
        go_simp
        (go_at_call 24; refine (minus_calls _ _ _ _ _ _ _).mono ?_; rintro e wc29 ⟨rfl, kc29⟩)
        try go_wp2_with fail
        refine hK.out _ _ ?_ (fun hH29 => ?_)
        · exact ⟨hH28.1.trans kc29, HA.step (hH28.1.trans kc29)⟩
        replace hP := hP.step kc29
        replace hQ := hQ.step kc29
        clear hK K hH28
        try simp only [Act.put, List.setIfInBounds_toArray, List.set_cons_zero, List.set_cons_succ, List.getElem_toArray, List.getElem_cons_succ, List.getElem_cons_zero]
        refine wpAnyH_ready (rs := [9]) (by kernel_rfl) (by simp) ?_
        refine AllReadyH.cons rfl (fun K hK => ?_) AllReadyH.nil
        rw [if_pos (by rfl)]
        simp only [List.getElem_toArray, List.getElem_cons_succ, List.getElem_cons_zero]
        go_simp
        (go_at_call 24; refine (minus_calls _ _ _ _ _ _ _).mono ?_; rintro e wc30 ⟨rfl, kc30⟩)
        try go_wp2_with fail
        refine hK.out _ _ ?_ (fun hH30 => ?_)
        · exact ⟨hH29.1.trans kc30, HA.step (hH29.1.trans kc30)⟩
        replace hP := hP.step kc30
        replace hQ := hQ.step kc30
        clear hK K hH29
        try simp only [Act.put, List.setIfInBounds_toArray, List.set_cons_zero, List.set_cons_succ, List.getElem_toArray, List.getElem_cons_succ, List.getElem_cons_zero]
        have hP0 := hP
        obtain ⟨_, cp0, cp1, cp2, fp0, fp1, fp2⟩ := hP0
        have hY := hQ.past hne
        skip
        refine wpAnyH_ready (rs := [12]) (by kernel_rfl) (by simp) ?_
        refine AllReadyH.cons rfl (fun K hK => ?_) AllReadyH.nil
        rw [if_pos (by rfl)]
        simp only [List.getElem_toArray, List.getElem_cons_succ, List.getElem_cons_zero]
        go_simp
        refine hK.out _ _ ?_ (fun hS1 => ?_)
        · exact ⟨kept_set3 hH30.1 hp _ _ _, HA.step (kept_set3 hH30.1 hp _ _ _)⟩
        clear hK K
        try simp only [Act.put, List.setIfInBounds_toArray, List.set_cons_zero, List.set_cons_succ, List.getElem_toArray, List.getElem_cons_succ, List.getElem_cons_zero]
        refine wpAnyH_ready (rs := [13]) (by kernel_rfl) (by simp) ?_
        refine AllReadyH.cons rfl (fun K hK => ?_) AllReadyH.nil
        rw [if_pos (by rfl)]
        simp only [List.getElem_toArray, List.getElem_cons_succ, List.getElem_cons_zero]
        go_simp
        refine hK.out _ _ ?_ (fun hS2 => ?_)
        · exact ⟨kept_set3 hS1.1 hq _ _ _, HA.step (kept_set3 hS1.1 hq _ _ _)⟩
        clear hK K
        try simp only [Act.put, List.setIfInBounds_toArray, List.set_cons_zero, List.set_cons_succ, List.getElem_toArray, List.getElem_cons_succ, List.getElem_cons_zero]
        refine wpAnyH_done (by kernel_rfl) ?_ _
        go_wp2_with fail
        go_meet
        case rel =>
          obtain ⟨z0, z1, z2, z3, z4, z5⟩ := Fr3.two hP hQ hne (.int .i64 (sub a3 b0)) (.int .i64 (sub a4 b1)) (.int .i64 (sub a5 b2)) (.int .i64 (sub b3 a0)) (.int .i64 (sub b4 a1)) (.int .i64 (sub b5 a2))
          exact ⟨wA.heap.size, wA.heap.size + 1, rfl, rfl, hS2.1, z0, z1, z2, z3, z4, z5⟩
    · rw [if_pos (by rfl)]
      simp only [List.getElem_toArray, List.getElem_cons_succ, List.getElem_cons_zero]
      go_simp
      refine hK.out _ _ ?_ (fun hH31 => ?_)
      · exact ⟨hH0.1.alloc _ _, HA.step (hH0.1.alloc _ _)⟩
      have hq : wA.heap.size ≤ wA.heap.size := Nat.le_trans hH0.1.below.size (Nat.le_of_eq (by simp))
      have hQ : Fr3 wA (wA.heap.size) (wA.drew.alloc (.cells #[.int .i64 0, .int .i64 0, .int .i64 0] 26)) := by refine ⟨hH0.1.alloc _ _, cellV_of (v := .int .i64 0) ?_, cellV_of (v := .int .i64 0) ?_, cellV_of (v := .int .i64 0) ?_, ?_, ?_, ?_⟩ <;> go_simp
      clear hK K hH0
      try simp only [Act.put, List.setIfInBounds_toArray, List.set_cons_zero, List.set_cons_succ, List.getElem_toArray, List.getElem_cons_succ, List.getElem_cons_zero]
      refine wpAnyH_ready (rs := [4, 10]) (by kernel_rfl) (by simp) ?_
      refine AllReadyH.cons rfl (fun K hK => ?_) (AllReadyH.cons rfl (fun K hK => ?_) AllReadyH.nil)
      · rw [if_pos (by rfl)]
        simp only [List.getElem_toArray, List.getElem_cons_succ, List.getElem_cons_zero]
        go_simp
        (go_at_call 24; refine (minus_calls _ _ _ _ _ _ _).mono ?_; rintro e wc32 ⟨rfl, kc32⟩)
        try go_wp2_with fail
        refine hK.out _ _ ?_ (fun hH32 => ?_)
        · exact ⟨hH31.1.trans kc32, HA.step (hH31.1.trans kc32)⟩
        replace hQ := hQ.step kc32
        clear hK K hH31
        try simp only [Act.put, List.setIfInBounds_toArray, List.set_cons_zero, List.set_cons_succ, List.getElem_toArray, List.getElem_cons_succ, List.getElem_cons_zero]
        refine wpAnyH_ready (rs := [9, 10]) (by kernel_rfl) (by simp) ?_
        refine AllReadyH.cons rfl (fun K hK => ?_) (AllReadyH.cons rfl (fun K hK => ?_) AllReadyH.nil)
        · rw [if_pos (by rfl)]
          simp only [List.getElem_toArray, List.getElem_cons_succ, List.getElem_cons_zero]
          go_simp
          (go_at_call 24; refine (minus_calls _ _ _ _ _ _ _).mono ?_; rintro e wc33 ⟨rfl, kc33⟩)
          try go_wp2_with fail
          refine hK.out _ _ ?_ (fun hH33 => ?_)
          · exact ⟨hH32.1.trans kc33, HA.step (hH32.1.trans kc33)⟩
          replace hQ := hQ.step kc33
          clear hK K hH32
          try simp only [Act.put, List.setIfInBounds_toArray, List.set_cons_zero, List.set_cons_succ, List.getElem_toArray, List.getElem_cons_succ, List.getElem_cons_zero]
          refine wpAnyH_ready (rs := [10]) (by kernel_rfl) (by simp) ?_
          refine AllReadyH.cons rfl (fun K hK => ?_) AllReadyH.nil
          rw [if_pos (by rfl)]
          simp only [List.getElem_toArray, List.getElem_cons_succ, List.getElem_cons_zero]
          go_simp
          refine hK.out _ _ ?_ (fun hH34 => ?_)
          · exact ⟨hH33.1.alloc _ _, HA.step (hH33.1.alloc _ _)⟩
          have hp : wA.heap.size ≤ wc33.heap.size := Nat.le_trans hH33.1.below.size (Nat.le_of_eq (by simp))
          have hlt := World.block_lt_of_cell? _ _ hQ.2.1
          simp at hlt
          have hne : wc33.heap.size ≠ wA.heap.size := by omega
          clear hlt
          replace hQ := hQ.step ((Kept.refl _).alloc #[.int .i64 0, .int .i64 0, .int .i64 0] 26)
          have hP : Fr3 wA (wc33.heap.size) (wc33.alloc (.cells #[.int .i64 0, .int .i64 0, .int .i64 0] 26)) := by refine ⟨hH33.1.alloc _ _, cellV_of (v := .int .i64 0) ?_, cellV_of (v := .int .i64 0) ?_, cellV_of (v := .int .i64 0) ?_, ?_, ?_, ?_⟩ <;> go_simp
          clear hK K hH33
          try simp only [Act.put, List.setIfInBounds_toArray, List.set_cons_zero, List.set_cons_succ, List.getElem_toArray, List.getElem_cons_succ, List.getElem_cons_zero]
          generalize (wc33.alloc (.cells #[.int .i64 0, .int .i64 0, .int .i64 0] 26)) = wz35 at hH34 hP hQ ⊢
          have hP0 := hP
          obtain ⟨_, cp0, cp1, cp2, fp0, fp1, fp2⟩ := hP0
          have hY := hQ.past hne
          skip
          refine wpAnyH_ready (rs := [12]) (by kernel_rfl) (by simp) ?_
          refine AllReadyH.cons rfl (fun K hK => ?_) AllReadyH.nil
          rw [if_pos (by rfl)]
          simp only [List.getElem_toArray, List.getElem_cons_succ, List.getElem_cons_zero]
          go_simp
          refine hK.out _ _ ?_ (fun hS1 => ?_)
          · exact ⟨kept_set3 hH34.1 hp _ _ _, HA.step (kept_set3 hH34.1 hp _ _ _)⟩
          clear hK K
          try simp only [Act.put, List.setIfInBounds_toArray, List.set_cons_zero, List.set_cons_succ, List.getElem_toArray, List.getElem_cons_succ, List.getElem_cons_zero]
          refine wpAnyH_ready (rs := [13]) (by kernel_rfl) (by simp) ?_
          refine AllReadyH.cons rfl (fun K hK => ?_) AllReadyH.nil
          rw [if_pos (by rfl)]
          simp only [List.getElem_toArray, List.getElem_cons_succ, List.getElem_cons_zero]
          go_simp
          refine hK.out _ _ ?_ (fun hS2 => ?_)
          · exact ⟨kept_set3 hS1.1 hq _ _ _, HA.step (kept_set3 hS1.1 hq _ _ _)⟩
          clear hK K
          try simp only [Act.put, List.setIfInBounds_toArray, List.set_cons_zero, List.set_cons_succ, List.getElem_toArray, List.getElem_cons_succ, List.getElem_cons_zero]
          refine wpAnyH_done (by kernel_rfl) ?_ _
          go_wp2_with fail
          go_meet
          case rel =>
            obtain ⟨z0, z1, z2, z3, z4, z5⟩ := Fr3.two hP hQ hne (.int .i64 (sub a3 b0)) (.int .i64 (sub a4 b1)) (.int .i64 (sub a5 b2)) (.int .i64 (sub b3 a0)) (.int .i64 (sub b4 a1)) (.int .i64 (sub b5 a2))
            exact ⟨wc33.heap.size, wA.heap.size, rfl, rfl, hS2.1, z0, z1, z2, z3, z4, z5⟩
        · rw [if_pos (by rfl)]
          simp only [List.getElem_toArray, List.getElem_cons_succ, List.getElem_cons_zero]
          go_simp
          refine hK.out _ _ ?_ (fun hH36 => ?_)
          · exact ⟨hH32.1.alloc _ _, HA.step (hH32.1.alloc _ _)⟩
          have hp : wA.heap.size ≤ wc32.heap.size := Nat.le_trans hH32.1.below.size (Nat.le_of_eq (by simp))
          have hlt := World.block_lt_of_cell? _ _ hQ.2.1
          simp at hlt
          have hne : wc32.heap.size ≠ wA.heap.size := by omega
          clear hlt
          replace hQ := hQ.step ((Kept.refl _).alloc #[.int .i64 0, .int .i64 0, .int .i64 0] 26)
          have hP : Fr3 wA (wc32.heap.size) (wc32.alloc (.cells #[.int .i64 0, .int .i64 0, .int .i64 0] 26)) := by refine ⟨hH32.1.alloc _ _, cellV_of (v := .int .i64 0) ?_, cellV_of (v := .int .i64 0) ?_, cellV_of (v := .int .i64 0) ?_, ?_, ?_, ?_⟩ <;> go_simp
          clear hK K hH32
          try simp only [Act.put, List.setIfInBounds_toArray, List.set_cons_zero, List.set_cons_succ, List.getElem_toArray, List.getElem_cons_succ, List.getElem_cons_zero]
          refine wpAnyH_ready (rs := [9]) (by kernel_rfl) (by simp) ?_
          refine AllReadyH.cons rfl (fun K hK => ?_) AllReadyH.nil
          rw [if_pos (by rfl)]
          simp only [List.getElem_toArray, List.getElem_cons_succ, List.getElem_cons_zero]
          go_simp
          (go_at_call 24; refine (minus_calls _ _ _ _ _ _ _).mono ?_; rintro e wc37 ⟨rfl, kc37⟩)
          try go_wp2_with fail
          refine hK.out _ _ ?_ (fun hH37 => ?_)
          · exact ⟨hH36.1.trans kc37, HA.step (hH36.1.trans kc37)⟩
          replace hP := hP.step kc37
          replace hQ := hQ.step kc37
          clear hK K hH36
          try simp only [Act.put, List.setIfInBounds_toArray, List.set_cons_zero, List.set_cons_succ, List.getElem_toArray, List.getElem_cons_succ, List.getElem_cons_zero]
          have hP0 := hP
          obtain ⟨_, cp0, cp1, cp2, fp0, fp1, fp2⟩ := hP0
          have hY := hQ.past hne
          skip
          refine wpAnyH_ready (rs := [12]) (by kernel_rfl) (by simp) ?_
          refine AllReadyH.cons rfl (fun K hK => ?_) AllReadyH.nil
          rw [if_pos (by rfl)]
          simp only [List.getElem_toArray, List.getElem_cons_succ, List.getElem_cons_zero]
          go_simp
          refine hK.out _ _ ?_ (fun hS1 => ?_)
          · exact ⟨kept_set3 hH37.1 hp _ _ _, HA.step (kept_set3 hH37.1 hp _ _ _)⟩
          clear hK K
          try simp only [Act.put, List.setIfInBounds_toArray, List.set_cons_zero, List.set_cons_succ, List.getElem_toArray, List.getElem_cons_succ, List.getElem_cons_zero]
          refine wpAnyH_ready (rs := [13]) (by kernel_rfl) (by simp) ?_
          refine AllReadyH.cons rfl (fun K hK => ?_) AllReadyH.nil
          rw [if_pos (by rfl)]
          simp only [List.getElem_toArray, List.getElem_cons_succ, List.getElem_cons_zero]
          go_simp
          refine hK.out _ _ ?_ (fun hS2 => ?_)
          · exact ⟨kept_set3 hS1.1 hq _ _ _, HA.step (kept_set3 hS1.1 hq _ _ _)⟩
          clear hK K
          try simp only [Act.put, List.setIfInBounds_toArray, List.set_cons_zero, List.set_cons_succ, List.getElem_toArray, List.getElem_cons_succ, List.getElem_cons_zero]
          refine wpAnyH_done (by kernel_rfl) ?_ _
          go_wp2_with fail
          go_meet
          case rel =>
            obtain ⟨z0, z1, z2, z3, z4, z5⟩ := Fr3.two hP hQ hne (.int .i64 (sub a3 b0)) (.int .i64 (sub a4 b1)) (.int .i64 (sub a5 b2)) (.int .i64 (sub b3 a0)) (.int .i64 (sub b4 a1)) (.int .i64 (sub b5 a2))
            exact ⟨wc32.heap.size, wA.heap.size, rfl, rfl, hS2.1, z0, z1, z2, z3, z4, z5⟩
      · rw [if_pos (by rfl)]
        simp only [List.getElem_toArray, List.getElem_cons_succ, List.getElem_cons_zero]
        go_simp
        refine hK.out _ _ ?_ (fun hH38 => ?_)
        · exact ⟨hH31.1.alloc _ _, HA.step (hH31.1.alloc _ _)⟩
        have hp : wA.heap.size ≤ wA.heap.size + 1 := Nat.le_trans hH31.1.below.size (Nat.le_of_eq (by simp))
        have hlt := World.block_lt_of_cell? _ _ hQ.2.1
        simp at hlt
        have hne : wA.heap.size + 1 ≠ wA.heap.size := by omega
        clear hlt
        replace hQ := hQ.step ((Kept.refl _).alloc #[.int .i64 0, .int .i64 0, .int .i64 0] 26)
        have hP : Fr3 wA (wA.heap.size + 1) ((wA.drew.alloc (.cells #[.int .i64 0, .int .i64 0, .int .i64 0] 26)).alloc (.cells #[.int .i64 0, .int .i64 0, .int .i64 0] 26)) := by refine ⟨hH31.1.alloc _ _, cellV_of (v := .int .i64 0) ?_, cellV_of (v := .int .i64 0) ?_, cellV_of (v := .int .i64 0) ?_, ?_, ?_, ?_⟩ <;> go_simp
        clear hK K hH31
        try simp only [Act.put, List.setIfInBounds_toArray, List.set_cons_zero, List.set_cons_succ, List.getElem_toArray, List.getElem_cons_succ, List.getElem_cons_zero]
        refine wpAnyH_ready (rs := [4]) (by kernel_rfl) (by simp) ?_
        refine AllReadyH.cons rfl (fun K hK => ?_) AllReadyH.nil
        rw [if_pos (by rfl)]
        simp only [List.getElem_toArray, List.getElem_cons_succ, List.getElem_cons_zero]
        go_simp
        (go_at_call 24; refine (minus_calls _ _ _ _ _ _ _).mono ?_; rintro e wc39 ⟨rfl, kc39⟩)
        try go_wp2_with fail
        refine hK.out _ _ ?_ (fun hH39 => ?_)
        · exact ⟨hH38.1.trans kc39, HA.step (hH38.1.trans kc39)⟩
        replace hP := hP.step kc39
        replace hQ := hQ.step kc39
        clear hK K hH38
        try simp only [Act.put, List.setIfInBounds_toArray, List.set_cons_zero, List.set_cons_succ, List.getElem_toArray, List.getElem_cons_succ, List.getElem_cons_zero]
        refine wpAnyH_ready (rs := [9]) (by kernel_rfl) (by simp) ?_
        refine AllReadyH.cons rfl (fun K hK => ?_) AllReadyH.nil
        rw [if_pos (by rfl)]
        simp only [List.getElem_toArray, List.getElem_cons_succ, List.getElem_cons_zero]
        go_simp
        (go_at_call 24; refine (minus_calls _ _ _ _ _ _ _).mono ?_; rintro e wc40 ⟨rfl, kc40⟩)
        try go_wp2_with fail
        refine hK.out _ _ ?_ (fun hH40 => ?_)
        · exact ⟨hH39.1.trans kc40, HA.step (hH39.1.trans kc40)⟩
        replace hP := hP.step kc40
        replace hQ := hQ.step kc40
        clear hK K hH39
        try simp only [Act.put, List.setIfInBounds_toArray, List.set_cons_zero, List.set_cons_succ, List.getElem_toArray, List.getElem_cons_succ, List.getElem_cons_zero]
        have hP0 := hP
        obtain ⟨_, cp0, cp1, cp2, fp0, fp1, fp2⟩ := hP0
        have hY := hQ.past hne
        skip
        refine wpAnyH_ready (rs := [12]) (by kernel_rfl) (by simp) ?_
        refine AllReadyH.cons rfl (fun K hK => ?_) AllReadyH.nil
        rw [if_pos (by rfl)]
        simp only [List.getElem_toArray, List.getElem_cons_succ, List.getElem_cons_zero]
        go_simp
        refine hK.out _ _ ?_ (fun hS1 => ?_)
        · exact ⟨kept_set3 hH40.1 hp _ _ _, HA.step (kept_set3 hH40.1 hp _ _ _)⟩
        clear hK K
        try simp only [Act.put, List.setIfInBounds_toArray, List.set_cons_zero, List.set_cons_succ, List.getElem_toArray, List.getElem_cons_succ, List.getElem_cons_zero]
        refine wpAnyH_ready (rs := [13]) (by kernel_rfl) (by simp) ?_
        refine AllReadyH.cons rfl (fun K hK => ?_) AllReadyH.nil
        rw [if_pos (by rfl)]
        simp only [List.getElem_toArray, List.getElem_cons_succ, List.getElem_cons_zero]
        go_simp
        refine hK.out _ _ ?_ (fun hS2 => ?_)
        · exact ⟨kept_set3 hS1.1 hq _ _ _, HA.step (kept_set3 hS1.1 hq _ _ _)⟩
        clear hK K
        try simp only [Act.put, List.setIfInBounds_toArray, List.set_cons_zero, List.set_cons_succ, List.getElem_toArray, List.getElem_cons_succ, List.getElem_cons_zero]
        refine wpAnyH_done (by kernel_rfl) ?_ _
        go_wp2_with fail
        go_meet
        case rel =>
          obtain ⟨z0, z1, z2, z3, z4, z5⟩ := Fr3.two hP hQ hne (.int .i64 (sub a3 b0)) (.int .i64 (sub a4 b1)) (.int .i64 (sub a5 b2)) (.int .i64 (sub b3 a0)) (.int .i64 (sub b4 a1)) (.int .i64 (sub b5 a2))
          exact ⟨wA.heap.size + 1, wA.heap.size, rfl, rfl, hS2.1, z0, z1, z2, z3, z4, z5⟩
  case rest =>
    obtain ⟨p, q, rfl, rfl, kc, x0, x1, x2, y0, y1, y2⟩ := hcut
    clear HA
    go_wp2_with fail
    refine (minFunc_calls _ ⟨65536, 0, 0, sub a3 b0⟩ ⟨-65536, 0, 0, sub b3 a0⟩ ⟨0, 65536, 0, sub a4 b1⟩ ⟨0, -65536, 0, sub b4 a1⟩ ⟨0, 0, 65536, sub a5 b2⟩ ⟨0, 0, -65536, sub b5 a2⟩ _ (by refine ⟨?_, ?_, ?_, ?_, ?_, ?_, ?_, ?_, ?_, ?_, ?_, ?_, ?_, ?_, ?_, ?_, ?_, ?_, ?_, ?_, ?_, ?_, ?_, ?_⟩ <;> go_simp)).mono ?_
    rintro e w1 ⟨rfl, k1⟩
    have hk := (hkA.trans kc).alloc #[] 0
    clear hk
    have c0 := kept_cell k1 (later (kept_cell kc (RC'.out 0 (by omega))) _)
    have f0 := kept_frozen k1 (laterF (kept_frozen kc (RF'.out 0)) _ _)
    have c1 := kept_cell k1 (later (kept_cell kc (RC'.out 1 (by omega))) _)
    have f1 := kept_frozen k1 (laterF (kept_frozen kc (RF'.out 1)) _ _)
    have c2 := kept_cell k1 (later (kept_cell kc (RC'.out 2 (by omega))) _)
    have f2 := kept_frozen k1 (laterF (kept_frozen kc (RF'.out 2)) _ _)
    have c3 := kept_cell k1 (later (kept_cell kc (RC'.out 3 (by omega))) _)
    have f3 := kept_frozen k1 (laterF (kept_frozen kc (RF'.out 3)) _ _)
    have hk : Kept w w1 := ((hkA.trans kc).alloc _ _).trans k1
    clear k1 x0 x1 x2 y0 y1 y2
    generalize hE : pickE ⟨65536, 0, 0, sub a3 b0⟩ ⟨-65536, 0, 0, sub b3 a0⟩ ⟨0, 65536, 0, sub a4 b1⟩ ⟨0, -65536, 0, sub b4 a1⟩ ⟨0, 0, 65536, sub a5 b2⟩ ⟨0, 0, -65536, sub b5 a2⟩ 5 = E
    have HE : Aside _ := hE
    clear hE
    go_wp2
    obtain ⟨z0, z1, z2, z3⟩ := set4_of (v0 := .int .i64 E.x) (v1 := .int .i64 E.y) (v2 := .int .i64 E.z) (v3 := .int .i64 E.d) c0 c1 c2 c3
    exact bodyPost_ret (v := .agg #[.int .i64 (E.x), .int .i64 (E.y), .int .i64 (E.z), .int .i64 (E.d)]) (by simp [results, Try.results88, go_sem, z0, z1, z2, z3]) rfl ⟨by rw [← HE.out]; rfl, kept_set4 hk (by omega) _ _ _ _⟩
end Go.Proofs.Ythhpcfnoiooopaa
