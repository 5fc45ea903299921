/- geom.out answers the shortest way out: whatever the boxes. · geom.reaches, ballTouches, boxesTouch answer what chapter 2 says: whatever the boxes. -/
import Derived.Test.YtbfkloclmlnahabGreatA10
import Derived.Test.YtbfkloclmlnahabGreatA0
import Derived.Deep.CutRange
import Derived.Test.YtbfkloclmlnahabGreatA2
open List renaming getElem_toArray → zqa, getElem_cons_succ → zqb, getElem_cons_zero → zqc, setIfInBounds_toArray → zqd, set_cons_zero → zqe, set_cons_succ → zqf, getElem?_toArray → zqg, getElem?_cons_succ → zqh, getElem?_cons_zero → zqi
namespace Go.Proofs.YtbfkloclmlnahabGreat
open Go.ChangeShapes Go.WideShapes Go.ChangeAt Go.RowKit
set_option linter.unusedSimpArgs false

def Fr3 (w : World) (b0 : Nat) (w' : World) : Prop :=
  Kept w w' ∧
  w'.cell? ⟨b0, 0, none⟩ = some (cellV w' ⟨b0, 0, none⟩) ∧
  w'.cell? ⟨b0, 1, none⟩ = some (cellV w' ⟨b0, 1, none⟩) ∧
  w'.cell? ⟨b0, 2, none⟩ = some (cellV w' ⟨b0, 2, none⟩) ∧
  w'.frozen? ⟨b0, 0, none⟩ = false ∧
  w'.frozen? ⟨b0, 1, none⟩ = false ∧
  w'.frozen? ⟨b0, 2, none⟩ = false
theorem Fr3.step {w w1 w2 : World} {b0 : Nat} (k : Kept w1 w2) (h : Fr3 w b0 w1) : Fr3 w b0 w2 := by
  obtain ⟨h0, h1, h2, h3, h4, h5, h6⟩ := h
  exact ⟨h0.trans k, kept_there k h1, kept_there k h2, kept_there k h3, kept_frozen k h4, kept_frozen k h5, kept_frozen k h6⟩
theorem Fr3.past {w w1 : World} {p q : Nat} (h : Fr3 w q w1) (hne : p ≠ q) : ∀ v0 v1 v2 : Value, (((w1.setCell ⟨p, 0, none⟩ v0).setCell ⟨p, 1, none⟩ v1).setCell ⟨p, 2, none⟩ v2).cell? ⟨q, 0, none⟩ = some (cellV w1 ⟨q, 0, none⟩) ∧ (((w1.setCell ⟨p, 0, none⟩ v0).setCell ⟨p, 1, none⟩ v1).setCell ⟨p, 2, none⟩ v2).cell? ⟨q, 1, none⟩ = some (cellV w1 ⟨q, 1, none⟩) ∧ (((w1.setCell ⟨p, 0, none⟩ v0).setCell ⟨p, 1, none⟩ v1).setCell ⟨p, 2, none⟩ v2).cell? ⟨q, 2, none⟩ = some (cellV w1 ⟨q, 2, none⟩) ∧ (((w1.setCell ⟨p, 0, none⟩ v0).setCell ⟨p, 1, none⟩ v1).setCell ⟨p, 2, none⟩ v2).frozen? ⟨q, 0, none⟩ = false ∧ (((w1.setCell ⟨p, 0, none⟩ v0).setCell ⟨p, 1, none⟩ v1).setCell ⟨p, 2, none⟩ v2).frozen? ⟨q, 1, none⟩ = false ∧ (((w1.setCell ⟨p, 0, none⟩ v0).setCell ⟨p, 1, none⟩ v1).setCell ⟨p, 2, none⟩ v2).frozen? ⟨q, 2, none⟩ = false := by
  obtain ⟨_, c0, c1, c2, f0, f1, f2⟩ := h
  have n1 : ∀ i j : Nat, (⟨p, i, none⟩ : Addr) ≠ ⟨q, j, none⟩ := fun i j e => hne (by injection e)
  intro v0 v1 v2
  exact ⟨(World.cell?_setCell_other _ _ _ _ (n1 2 _)).trans ((World.cell?_setCell_other _ _ _ _ (n1 1 _)).trans ((World.cell?_setCell_other _ _ _ _ (n1 0 _)).trans (c0))), (World.cell?_setCell_other _ _ _ _ (n1 2 _)).trans ((World.cell?_setCell_other _ _ _ _ (n1 1 _)).trans ((World.cell?_setCell_other _ _ _ _ (n1 0 _)).trans (c1))), (World.cell?_setCell_other _ _ _ _ (n1 2 _)).trans ((World.cell?_setCell_other _ _ _ _ (n1 1 _)).trans ((World.cell?_setCell_other _ _ _ _ (n1 0 _)).trans (c2))), (World.frozen?_setCell _ _ _ _).trans ((World.frozen?_setCell _ _ _ _).trans ((World.frozen?_setCell _ _ _ _).trans (f0))), (World.frozen?_setCell _ _ _ _).trans ((World.frozen?_setCell _ _ _ _).trans ((World.frozen?_setCell _ _ _ _).trans (f1))), (World.frozen?_setCell _ _ _ _).trans ((World.frozen?_setCell _ _ _ _).trans ((World.frozen?_setCell _ _ _ _).trans (f2)))⟩
theorem Fr3.two {w w1 : World} {p q : Nat} (hp : Fr3 w p w1) (hq : Fr3 w q w1) (hne : p ≠ q) (v0 v1 v2 u0 u1 u2 : Value) : ((((((w1.setCell ⟨p, 0, none⟩ v0).setCell ⟨p, 1, none⟩ v1).setCell ⟨p, 2, none⟩ v2).setCell ⟨q, 0, none⟩ u0).setCell ⟨q, 1, none⟩ u1).setCell ⟨q, 2, none⟩ u2).cell? ⟨p, 0, none⟩ = some v0 ∧ ((((((w1.setCell ⟨p, 0, none⟩ v0).setCell ⟨p, 1, none⟩ v1).setCell ⟨p, 2, none⟩ v2).setCell ⟨q, 0, none⟩ u0).setCell ⟨q, 1, none⟩ u1).setCell ⟨q, 2, none⟩ u2).cell? ⟨p, 1, none⟩ = some v1 ∧ ((((((w1.setCell ⟨p, 0, none⟩ v0).setCell ⟨p, 1, none⟩ v1).setCell ⟨p, 2, none⟩ v2).setCell ⟨q, 0, none⟩ u0).setCell ⟨q, 1, none⟩ u1).setCell ⟨q, 2, none⟩ u2).cell? ⟨p, 2, none⟩ = some v2 ∧ ((((((w1.setCell ⟨p, 0, none⟩ v0).setCell ⟨p, 1, none⟩ v1).setCell ⟨p, 2, none⟩ v2).setCell ⟨q, 0, none⟩ u0).setCell ⟨q, 1, none⟩ u1).setCell ⟨q, 2, none⟩ u2).cell? ⟨q, 0, none⟩ = some u0 ∧ ((((((w1.setCell ⟨p, 0, none⟩ v0).setCell ⟨p, 1, none⟩ v1).setCell ⟨p, 2, none⟩ v2).setCell ⟨q, 0, none⟩ u0).setCell ⟨q, 1, none⟩ u1).setCell ⟨q, 2, none⟩ u2).cell? ⟨q, 1, none⟩ = some u1 ∧ ((((((w1.setCell ⟨p, 0, none⟩ v0).setCell ⟨p, 1, none⟩ v1).setCell ⟨p, 2, none⟩ v2).setCell ⟨q, 0, none⟩ u0).setCell ⟨q, 1, none⟩ u1).setCell ⟨q, 2, none⟩ u2).cell? ⟨q, 2, none⟩ = some u2 := by
  have n1 : ∀ i j : Nat, (⟨q, i, none⟩ : Addr) ≠ ⟨p, j, none⟩ := fun i j e => hne (by injection e with e; exact e.symm)
  obtain ⟨_, c0, c1, c2, _⟩ := hp
  obtain ⟨d0, d1, d2, _⟩ := hq.past hne v0 v1 v2
  obtain ⟨x0, x1, x2⟩ := set3_of (v0 := v0) (v1 := v1) (v2 := v2) c0 c1 c2
  obtain ⟨y0, y1, y2⟩ := set3_of (v0 := u0) (v1 := u1) (v2 := u2) d0 d1 d2
  exact ⟨(World.cell?_setCell_other _ _ _ _ (n1 2 _)).trans ((World.cell?_setCell_other _ _ _ _ (n1 1 _)).trans ((World.cell?_setCell_other _ _ _ _ (n1 0 _)).trans (x0))), (World.cell?_setCell_other _ _ _ _ (n1 2 _)).trans ((World.cell?_setCell_other _ _ _ _ (n1 1 _)).trans ((World.cell?_setCell_other _ _ _ _ (n1 0 _)).trans (x1))), (World.cell?_setCell_other _ _ _ _ (n1 2 _)).trans ((World.cell?_setCell_other _ _ _ _ (n1 1 _)).trans ((World.cell?_setCell_other _ _ _ _ (n1 0 _)).trans (x2))), y0, y1, y2⟩
def outE (a0 a1 a2 a3 a4 a5 b0 b1 b2 b3 b4 b5 : Int) : Ex := pickE ⟨65536, 0, 0, sub a3 b0⟩ ⟨-65536, 0, 0, sub b3 a0⟩ ⟨0, 65536, 0, sub a4 b1⟩ ⟨0, -65536, 0, sub b4 a1⟩ ⟨0, 0, 65536, sub a5 b2⟩ ⟨0, 0, -65536, sub b5 a2⟩ 5
set_option maxHeartbeats 8000000 in
theorem out_calls (a0 a1 a2 a3 a4 a5 b0 b1 b2 b3 b4 b5 : Int) (w : World) :
    Calls Tryz.prog 82 #[.agg #[.int .i64 a0, .int .i64 a1, .int .i64 a2, .int .i64 a3, .int .i64 a4, .int .i64 a5], .agg #[.int .i64 b0, .int .i64 b1, .int .i64 b2, .int .i64 b3, .int .i64 b4, .int .i64 b5]] w fun e w' => e = .returned (.agg #[.int .i64 ((outE a0 a1 a2 a3 a4 a5 b0 b1 b2 b3 b4 b5).x), .int .i64 ((outE a0 a1 a2 a3 a4 a5 b0 b1 b2 b3 b4 b5).y), .int .i64 ((outE a0 a1 a2 a3 a4 a5 b0 b1 b2 b3 b4 b5).z), .int .i64 ((outE a0 a1 a2 a3 a4 a5 b0 b1 b2 b3 b4 b5).d)]) ∧ Kept w w' := by
  go_enter Tryz.func82, Tryz.ntmps82
  go_wp2
  have HA : G66At w.heap.size (w.heap.size + 1) (.int .i64 a0) (.int .i64 a1) (.int .i64 a2) (.int .i64 a3) (.int .i64 a4) (.int .i64 a5) (.int .i64 b0) (.int .i64 b1) (.int .i64 b2) (.int .i64 b3) (.int .i64 b4) (.int .i64 b5) (((w.alloc (.cells #[.int .i64 a0, .int .i64 a1, .int .i64 a2, .int .i64 a3, .int .i64 a4, .int .i64 a5] 89)).alloc (.cells #[.int .i64 b0, .int .i64 b1, .int .i64 b2, .int .i64 b3, .int .i64 b4, .int .i64 b5] 89)).alloc (.cells #[.int .i64 0, .int .i64 0, .int .i64 0, .int .i64 0] 128)) := by
    refine ⟨?_, ?_, ?_, ?_, ?_, ?_, ?_, ?_, ?_, ?_, ?_, ?_⟩ <;> go_simp
  have hkA : Kept w (((w.alloc (.cells #[.int .i64 a0, .int .i64 a1, .int .i64 a2, .int .i64 a3, .int .i64 a4, .int .i64 a5] 89)).alloc (.cells #[.int .i64 b0, .int .i64 b1, .int .i64 b2, .int .i64 b3, .int .i64 b4, .int .i64 b5] 89)).alloc (.cells #[.int .i64 0, .int .i64 0, .int .i64 0, .int .i64 0] 128)) := (((Kept.refl w).alloc _ _).alloc _ _).alloc _ _
  have RC : ∀ i, i < 4 → (((w.alloc (.cells #[.int .i64 a0, .int .i64 a1, .int .i64 a2, .int .i64 a3, .int .i64 a4, .int .i64 a5] 89)).alloc (.cells #[.int .i64 b0, .int .i64 b1, .int .i64 b2, .int .i64 b3, .int .i64 b4, .int .i64 b5] 89)).alloc (.cells #[.int .i64 0, .int .i64 0, .int .i64 0, .int .i64 0] 128)).cell? ⟨w.heap.size + 1 + 1, i, none⟩ = some (.int .i64 0) := by
    intro i hi
    obtain rfl | rfl | rfl | rfl : i = 0 ∨ i = 1 ∨ i = 2 ∨ i = 3 := by omega
    all_goals go_simp
  have RF : ∀ i, (((w.alloc (.cells #[.int .i64 a0, .int .i64 a1, .int .i64 a2, .int .i64 a3, .int .i64 a4, .int .i64 a5] 89)).alloc (.cells #[.int .i64 b0, .int .i64 b1, .int .i64 b2, .int .i64 b3, .int .i64 b4, .int .i64 b5] 89)).alloc (.cells #[.int .i64 0, .int .i64 0, .int .i64 0, .int .i64 0] 128)).frozen? ⟨w.heap.size + 1 + 1, i, none⟩ = false := by intro i; go_simp
  generalize (((w.alloc (.cells #[.int .i64 a0, .int .i64 a1, .int .i64 a2, .int .i64 a3, .int .i64 a4, .int .i64 a5] 89)).alloc (.cells #[.int .i64 b0, .int .i64 b1, .int .i64 b2, .int .i64 b3, .int .i64 b4, .int .i64 b5] 89)).alloc (.cells #[.int .i64 0, .int .i64 0, .int .i64 0, .int .i64 0] 128)) = wA at HA hkA RC RF ⊢
  have RC' : Aside _ := RC
  have RF' : Aside _ := RF
  clear RC RF
  go_cut [5, 6] from 7 (fun s5 s6 wc => ∃ p q, s5 = .pointer (some ⟨p, 0, none⟩) ∧ s6 = .pointer (some ⟨q, 0, none⟩) ∧ Kept wA wc ∧ wc.cell? ⟨p, 0, none⟩ = some (.int .i64 (sub a3 b0)) ∧ wc.cell? ⟨p, 1, none⟩ = some (.int .i64 (sub a4 b1)) ∧ wc.cell? ⟨p, 2, none⟩ = some (.int .i64 (sub a5 b2)) ∧ wc.cell? ⟨q, 0, none⟩ = some (.int .i64 (sub b3 a0)) ∧ wc.cell? ⟨q, 1, none⟩ = some (.int .i64 (sub b4 a1)) ∧ wc.cell? ⟨q, 2, none⟩ = some (.int .i64 (sub b5 a2)))
  case first =>
    refine wp_region_held_drew (S := (fun w' => Kept wA w' ∧ w'.cell? ⟨w.heap.size, 0, none⟩ = some (.int .i64 a0) ∧ w'.cell? ⟨w.heap.size, 1, none⟩ = some (.int .i64 a1) ∧ w'.cell? ⟨w.heap.size, 2, none⟩ = some (.int .i64 a2) ∧ w'.cell? ⟨w.heap.size, 3, none⟩ = some (.int .i64 a3) ∧ w'.cell? ⟨w.heap.size, 4, none⟩ = some (.int .i64 a4) ∧ w'.cell? ⟨w.heap.size, 5, none⟩ = some (.int .i64 a5) ∧ w'.cell? ⟨w.heap.size + 1, 0, none⟩ = some (.int .i64 b0) ∧ w'.cell? ⟨w.heap.size + 1, 1, none⟩ = some (.int .i64 b1) ∧ w'.cell? ⟨w.heap.size + 1, 2, none⟩ = some (.int .i64 b2) ∧ w'.cell? ⟨w.heap.size + 1, 3, none⟩ = some (.int .i64 b3) ∧ w'.cell? ⟨w.heap.size + 1, 4, none⟩ = some (.int .i64 b4) ∧ w'.cell? ⟨w.heap.size + 1, 5, none⟩ = some (.int .i64 b5))) (by kernel_rfl) ?_ (fun hH0 => ?_)
    · (try dsimp only); exact ⟨(Kept.refl _).drew, HA.step (Kept.refl _).drew⟩
    refine wpAnyH_take (i := 0) (v := ?_) rfl (by kernel_rfl) (by kernel_rfl) (by kernel_rfl) (fun _ _ _ h => h) (Or.inl ⟨by kernel_rfl, ?_⟩) (by assumption) ?_
    rotate_left
    · intro w'' hSw; (try dsimp only at hSw); simp only [zqa, zqb, zqc]; (go_simp <;> with_reducible rfl)
    try simp only [Act.put, zqd, zqe, zqf, zqa, zqb, zqc]
    refine wpAnyH_take (i := 1) (v := ?_) rfl (by kernel_rfl) (by kernel_rfl) (by kernel_rfl) (fun _ _ _ h => h) (Or.inl ⟨by kernel_rfl, ?_⟩) (by assumption) ?_
    rotate_left
    · intro w'' hSw; (try dsimp only at hSw); simp only [zqa, zqb, zqc]; (go_simp <;> with_reducible rfl)
    try simp only [Act.put, zqd, zqe, zqf, zqa, zqb, zqc]
    refine wpAnyH_take (i := 2) (v := ?_) rfl (by kernel_rfl) (by kernel_rfl) (by kernel_rfl) (fun _ _ _ h => h) (Or.inl ⟨by kernel_rfl, ?_⟩) (by assumption) ?_
    rotate_left
    · intro w'' hSw; (try dsimp only at hSw); simp only [zqa, zqb, zqc]; (go_simp <;> with_reducible rfl)
    try simp only [Act.put, zqd, zqe, zqf, zqa, zqb, zqc]
    refine wpAnyH_take (i := 3) (v := ?_) rfl (by kernel_rfl) (by kernel_rfl) (by kernel_rfl) (fun _ _ _ h => h) (Or.inl ⟨by kernel_rfl, ?_⟩) (by assumption) ?_
    rotate_left
    · intro w'' hSw; (try dsimp only at hSw); simp only [zqa, zqb, zqc]; (go_simp <;> with_reducible rfl)
    try simp only [Act.put, zqd, zqe, zqf, zqa, zqb, zqc]
    refine wpAnyH_take (i := 5) (v := ?_) rfl (by kernel_rfl) (by kernel_rfl) (by kernel_rfl) (fun _ _ _ h => h) (Or.inl ⟨by kernel_rfl, ?_⟩) (by assumption) ?_
    rotate_left
    · intro w'' hSw; (try dsimp only at hSw); simp only [zqa, zqb, zqc]; (go_simp <;> with_reducible rfl)
    try simp only [Act.put, zqd, zqe, zqf, zqa, zqb, zqc]
    refine wpAnyH_take (i := 6) (v := ?_) rfl (by kernel_rfl) (by kernel_rfl) (by kernel_rfl) (fun _ _ _ h => h) (Or.inl ⟨by kernel_rfl, ?_⟩) (by assumption) ?_
    rotate_left
    · intro w'' hSw; (try dsimp only at hSw); simp only [zqa, zqb, zqc]; (go_simp <;> with_reducible rfl)
    try simp only [Act.put, zqd, zqe, zqf, zqa, zqb, zqc]
    refine wpAnyH_take (i := 7) (v := ?_) rfl (by kernel_rfl) (by kernel_rfl) (by kernel_rfl) (fun _ _ _ h => h) (Or.inl ⟨by kernel_rfl, ?_⟩) (by assumption) ?_
    rotate_left
    · intro w'' hSw; (try dsimp only at hSw); simp only [zqa, zqb, zqc]; (go_simp <;> with_reducible rfl)
    try simp only [Act.put, zqd, zqe, zqf, zqa, zqb, zqc]
    refine wpAnyH_take (i := 8) (v := ?_) rfl (by kernel_rfl) (by kernel_rfl) (by kernel_rfl) (fun _ _ _ h => h) (Or.inl ⟨by kernel_rfl, ?_⟩) (by assumption) ?_
    rotate_left
    · intro w'' hSw; (try dsimp only at hSw); simp only [zqa, zqb, zqc]; (go_simp <;> with_reducible rfl)
    try simp only [Act.put, zqd, zqe, zqf, zqa, zqb, zqc]
    refine wpAnyH_ready (rs := [4, 10, 11]) (by kernel_rfl) (by simp) ?_
    refine AllReadyH.cons rfl (fun K hK => ?_) (AllReadyH.cons rfl (fun K hK => ?_) (AllReadyH.cons rfl (fun K hK => ?_) AllReadyH.nil))
    · rw [if_pos (by rfl)]
      simp only [zqa, zqb, zqc]
      go_simp
      (go_at_call 52; refine (minus_calls _ _ _ _ _ _ _).mono ?_; rintro e wc1 ⟨rfl, kc1⟩)
      try go_wp2_with fail
      refine hK.out _ _ ?_ (fun hH1 => ?_)
      · exact ⟨hH0.1.trans kc1, HA.step (hH0.1.trans kc1)⟩
      clear hK K hH0
      try simp only [Act.put, zqd, zqe, zqf, zqa, zqb, zqc]
      refine wpAnyH_ready (rs := [9, 10, 11]) (by kernel_rfl) (by simp) ?_
      refine AllReadyH.cons rfl (fun K hK => ?_) (AllReadyH.cons rfl (fun K hK => ?_) (AllReadyH.cons rfl (fun K hK => ?_) AllReadyH.nil))
      · rw [if_pos (by rfl)]
        simp only [zqa, zqb, zqc]
        go_simp
        (go_at_call 52; refine (minus_calls _ _ _ _ _ _ _).mono ?_; rintro e wc2 ⟨rfl, kc2⟩)
        try go_wp2_with fail
        refine hK.out _ _ ?_ (fun hH2 => ?_)
        · exact ⟨hH1.1.trans kc2, HA.step (hH1.1.trans kc2)⟩
        clear hK K hH1
        try simp only [Act.put, zqd, zqe, zqf, zqa, zqb, zqc]
        refine wpAnyH_ready (rs := [10, 11]) (by kernel_rfl) (by simp) ?_
        refine AllReadyH.cons rfl (fun K hK => ?_) (AllReadyH.cons rfl (fun K hK => ?_) AllReadyH.nil)
        · rw [if_pos (by rfl)]
          simp only [zqa, zqb, zqc]
          go_simp
          refine hK.out _ _ ?_ (fun hH3 => ?_)
          · exact ⟨hH2.1.alloc _ _, HA.step (hH2.1.alloc _ _)⟩
          have hp : wA.heap.size ≤ wc2.heap.size := Nat.le_trans hH2.1.below.size (Nat.le_of_eq (by simp))
          have hP : Fr3 wA (wc2.heap.size) (wc2.alloc (.cells #[.int .i64 0, .int .i64 0, .int .i64 0] 24)) := by refine ⟨hH2.1.alloc _ _, cellV_of (v := .int .i64 0) ?_, cellV_of (v := .int .i64 0) ?_, cellV_of (v := .int .i64 0) ?_, ?_, ?_, ?_⟩ <;> go_simp
          clear hK K hH2
          try simp only [Act.put, zqd, zqe, zqf, zqa, zqb, zqc]
          refine wpAnyH_ready (rs := [11]) (by kernel_rfl) (by simp) ?_
          refine AllReadyH.cons rfl (fun K hK => ?_) AllReadyH.nil
          rw [if_pos (by rfl)]
          simp only [zqa, zqb, zqc]
          go_simp
          refine hK.out _ _ ?_ (fun hH4 => ?_)
          · exact ⟨hH3.1.alloc _ _, HA.step (hH3.1.alloc _ _)⟩
          have hq : wA.heap.size ≤ wc2.heap.size + 1 := Nat.le_trans hH3.1.below.size (Nat.le_of_eq (by simp))
          have hlt := World.block_lt_of_cell? _ _ hP.2.1
          simp at hlt
          have hne : wc2.heap.size ≠ wc2.heap.size + 1 := by omega
          clear hlt
          replace hP := hP.step ((Kept.refl _).alloc #[.int .i64 0, .int .i64 0, .int .i64 0] 24)
          have hQ : Fr3 wA (wc2.heap.size + 1) ((wc2.alloc (.cells #[.int .i64 0, .int .i64 0, .int .i64 0] 24)).alloc (.cells #[.int .i64 0, .int .i64 0, .int .i64 0] 24)) := by refine ⟨hH3.1.alloc _ _, cellV_of (v := .int .i64 0) ?_, cellV_of (v := .int .i64 0) ?_, cellV_of (v := .int .i64 0) ?_, ?_, ?_, ?_⟩ <;> go_simp
          clear hK K hH3
          try simp only [Act.put, zqd, zqe, zqf, zqa, zqb, zqc]
          generalize ((wc2.alloc (.cells #[.int .i64 0, .int .i64 0, .int .i64 0] 24)).alloc (.cells #[.int .i64 0, .int .i64 0, .int .i64 0] 24)) = wz5 at hH4 hP hQ ⊢
          have hP0 := hP
          obtain ⟨_, cp0, cp1, cp2, fp0, fp1, fp2⟩ := hP0
          have hY := hQ.past hne
          skip
          refine wpAnyH_ready (rs := [12]) (by kernel_rfl) (by simp) ?_
          refine AllReadyH.cons rfl (fun K hK => ?_) AllReadyH.nil
          rw [if_pos (by rfl)]
          simp only [zqa, zqb, zqc]
          go_simp
          refine hK.out _ _ ?_ (fun hS1 => ?_)
          · exact ⟨kept_set3 hH4.1 hp _ _ _, HA.step (kept_set3 hH4.1 hp _ _ _)⟩
          clear hK K
          try simp only [Act.put, zqd, zqe, zqf, zqa, zqb, zqc]
          refine wpAnyH_ready (rs := [13]) (by kernel_rfl) (by simp) ?_
          refine AllReadyH.cons rfl (fun K hK => ?_) AllReadyH.nil
          rw [if_pos (by rfl)]
          simp only [zqa, zqb, zqc]
          go_simp
          refine hK.out _ _ ?_ (fun hS2 => ?_)
          · exact ⟨kept_set3 hS1.1 hq _ _ _, HA.step (kept_set3 hS1.1 hq _ _ _)⟩
          clear hK K
          try simp only [Act.put, zqd, zqe, zqf, zqa, zqb, zqc]
          refine wpAnyH_done (by kernel_rfl) ?_ _
          go_wp2_with fail
          go_meet
          case rel =>
            obtain ⟨z0, z1, z2, z3, z4, z5⟩ := Fr3.two hP hQ hne (.int .i64 (sub a3 b0)) (.int .i64 (sub a4 b1)) (.int .i64 (sub a5 b2)) (.int .i64 (sub b3 a0)) (.int .i64 (sub b4 a1)) (.int .i64 (sub b5 a2))
            exact ⟨wc2.heap.size, wc2.heap.size + 1, rfl, rfl, hS2.1, z0, z1, z2, z3, z4, z5⟩
        · rw [if_pos (by rfl)]
          simp only [zqa, zqb, zqc]
          go_simp
          refine hK.out _ _ ?_ (fun hH6 => ?_)
          · exact ⟨hH2.1.alloc _ _, HA.step (hH2.1.alloc _ _)⟩
          have hq : wA.heap.size ≤ wc2.heap.size := Nat.le_trans hH2.1.below.size (Nat.le_of_eq (by simp))
          have hQ : Fr3 wA (wc2.heap.size) (wc2.alloc (.cells #[.int .i64 0, .int .i64 0, .int .i64 0] 24)) := by refine ⟨hH2.1.alloc _ _, cellV_of (v := .int .i64 0) ?_, cellV_of (v := .int .i64 0) ?_, cellV_of (v := .int .i64 0) ?_, ?_, ?_, ?_⟩ <;> go_simp
          clear hK K hH2
          try simp only [Act.put, zqd, zqe, zqf, zqa, zqb, zqc]
          refine wpAnyH_ready (rs := [10]) (by kernel_rfl) (by simp) ?_
          refine AllReadyH.cons rfl (fun K hK => ?_) AllReadyH.nil
          rw [if_pos (by rfl)]
          simp only [zqa, zqb, zqc]
          go_simp
          refine hK.out _ _ ?_ (fun hH7 => ?_)
          · exact ⟨hH6.1.alloc _ _, HA.step (hH6.1.alloc _ _)⟩
          have hp : wA.heap.size ≤ wc2.heap.size + 1 := Nat.le_trans hH6.1.below.size (Nat.le_of_eq (by simp))
          have hlt := World.block_lt_of_cell? _ _ hQ.2.1
          simp at hlt
          have hne : wc2.heap.size + 1 ≠ wc2.heap.size := by omega
          clear hlt
          replace hQ := hQ.step ((Kept.refl _).alloc #[.int .i64 0, .int .i64 0, .int .i64 0] 24)
          have hP : Fr3 wA (wc2.heap.size + 1) ((wc2.alloc (.cells #[.int .i64 0, .int .i64 0, .int .i64 0] 24)).alloc (.cells #[.int .i64 0, .int .i64 0, .int .i64 0] 24)) := by refine ⟨hH6.1.alloc _ _, cellV_of (v := .int .i64 0) ?_, cellV_of (v := .int .i64 0) ?_, cellV_of (v := .int .i64 0) ?_, ?_, ?_, ?_⟩ <;> go_simp
          clear hK K hH6
          try simp only [Act.put, zqd, zqe, zqf, zqa, zqb, zqc]
          generalize ((wc2.alloc (.cells #[.int .i64 0, .int .i64 0, .int .i64 0] 24)).alloc (.cells #[.int .i64 0, .int .i64 0, .int .i64 0] 24)) = wz8 at hH7 hP hQ ⊢
          have hP0 := hP
          obtain ⟨_, cp0, cp1, cp2, fp0, fp1, fp2⟩ := hP0
          have hY := hQ.past hne
          skip
          refine wpAnyH_ready (rs := [12]) (by kernel_rfl) (by simp) ?_
          refine AllReadyH.cons rfl (fun K hK => ?_) AllReadyH.nil
          rw [if_pos (by rfl)]
          simp only [zqa, zqb, zqc]
          go_simp
          refine hK.out _ _ ?_ (fun hS1 => ?_)
          · exact ⟨kept_set3 hH7.1 hp _ _ _, HA.step (kept_set3 hH7.1 hp _ _ _)⟩
          clear hK K
          try simp only [Act.put, zqd, zqe, zqf, zqa, zqb, zqc]
          refine wpAnyH_ready (rs := [13]) (by kernel_rfl) (by simp) ?_
          refine AllReadyH.cons rfl (fun K hK => ?_) AllReadyH.nil
          rw [if_pos (by rfl)]
          simp only [zqa, zqb, zqc]
          go_simp
          refine hK.out _ _ ?_ (fun hS2 => ?_)
          · exact ⟨kept_set3 hS1.1 hq _ _ _, HA.step (kept_set3 hS1.1 hq _ _ _)⟩
          clear hK K
          try simp only [Act.put, zqd, zqe, zqf, zqa, zqb, zqc]
          refine wpAnyH_done (by kernel_rfl) ?_ _
          go_wp2_with fail
          go_meet
          case rel =>
            obtain ⟨z0, z1, z2, z3, z4, z5⟩ := Fr3.two hP hQ hne (.int .i64 (sub a3 b0)) (.int .i64 (sub a4 b1)) (.int .i64 (sub a5 b2)) (.int .i64 (sub b3 a0)) (.int .i64 (sub b4 a1)) (.int .i64 (sub b5 a2))
            exact ⟨wc2.heap.size + 1, wc2.heap.size, rfl, rfl, hS2.1, z0, z1, z2, z3, z4, z5⟩
      · rw [if_pos (by rfl)]
        simp only [zqa, zqb, zqc]
        go_simp
        refine hK.out _ _ ?_ (fun hH9 => ?_)
        · exact ⟨hH1.1.alloc _ _, HA.step (hH1.1.alloc _ _)⟩
        have hp : wA.heap.size ≤ wc1.heap.size := Nat.le_trans hH1.1.below.size (Nat.le_of_eq (by simp))
        have hP : Fr3 wA (wc1.heap.size) (wc1.alloc (.cells #[.int .i64 0, .int .i64 0, .int .i64 0] 24)) := by refine ⟨hH1.1.alloc _ _, cellV_of (v := .int .i64 0) ?_, cellV_of (v := .int .i64 0) ?_, cellV_of (v := .int .i64 0) ?_, ?_, ?_, ?_⟩ <;> go_simp
        clear hK K hH1
        try simp only [Act.put, zqd, zqe, zqf, zqa, zqb, zqc]
        refine wpAnyH_ready (rs := [9, 11]) (by kernel_rfl) (by simp) ?_
        refine AllReadyH.cons rfl (fun K hK => ?_) (AllReadyH.cons rfl (fun K hK => ?_) AllReadyH.nil)
        · rw [if_pos (by rfl)]
          simp only [zqa, zqb, zqc]
          go_simp
          (go_at_call 52; refine (minus_calls _ _ _ _ _ _ _).mono ?_; rintro e wc10 ⟨rfl, kc10⟩)
          try go_wp2_with fail
          refine hK.out _ _ ?_ (fun hH10 => ?_)
          · exact ⟨hH9.1.trans kc10, HA.step (hH9.1.trans kc10)⟩
          replace hP := hP.step kc10
          clear hK K hH9
          try simp only [Act.put, zqd, zqe, zqf, zqa, zqb, zqc]
          refine wpAnyH_ready (rs := [11]) (by kernel_rfl) (by simp) ?_
          refine AllReadyH.cons rfl (fun K hK => ?_) AllReadyH.nil
          rw [if_pos (by rfl)]
          simp only [zqa, zqb, zqc]
          go_simp
          refine hK.out _ _ ?_ (fun hH11 => ?_)
          · exact ⟨hH10.1.alloc _ _, HA.step (hH10.1.alloc _ _)⟩
          have hq : wA.heap.size ≤ wc10.heap.size := Nat.le_trans hH10.1.below.size (Nat.le_of_eq (by simp))
          have hlt := World.block_lt_of_cell? _ _ hP.2.1
          simp at hlt
          have hne : wc1.heap.size ≠ wc10.heap.size := by omega
          clear hlt
          replace hP := hP.step ((Kept.refl _).alloc #[.int .i64 0, .int .i64 0, .int .i64 0] 24)
          have hQ : Fr3 wA (wc10.heap.size) (wc10.alloc (.cells #[.int .i64 0, .int .i64 0, .int .i64 0] 24)) := by refine ⟨hH10.1.alloc _ _, cellV_of (v := .int .i64 0) ?_, cellV_of (v := .int .i64 0) ?_, cellV_of (v := .int .i64 0) ?_, ?_, ?_, ?_⟩ <;> go_simp
          clear hK K hH10
          try simp only [Act.put, zqd, zqe, zqf, zqa, zqb, zqc]
          generalize (wc10.alloc (.cells #[.int .i64 0, .int .i64 0, .int .i64 0] 24)) = wz12 at hH11 hP hQ ⊢
          have hP0 := hP
          obtain ⟨_, cp0, cp1, cp2, fp0, fp1, fp2⟩ := hP0
          have hY := hQ.past hne
          skip
          refine wpAnyH_ready (rs := [12]) (by kernel_rfl) (by simp) ?_
          refine AllReadyH.cons rfl (fun K hK => ?_) AllReadyH.nil
          rw [if_pos (by rfl)]
          simp only [zqa, zqb, zqc]
          go_simp
          refine hK.out _ _ ?_ (fun hS1 => ?_)
          · exact ⟨kept_set3 hH11.1 hp _ _ _, HA.step (kept_set3 hH11.1 hp _ _ _)⟩
          clear hK K
          try simp only [Act.put, zqd, zqe, zqf, zqa, zqb, zqc]
          refine wpAnyH_ready (rs := [13]) (by kernel_rfl) (by simp) ?_
          refine AllReadyH.cons rfl (fun K hK => ?_) AllReadyH.nil
          rw [if_pos (by rfl)]
          simp only [zqa, zqb, zqc]
          go_simp
          refine hK.out _ _ ?_ (fun hS2 => ?_)
          · exact ⟨kept_set3 hS1.1 hq _ _ _, HA.step (kept_set3 hS1.1 hq _ _ _)⟩
          clear hK K
          try simp only [Act.put, zqd, zqe, zqf, zqa, zqb, zqc]
          refine wpAnyH_done (by kernel_rfl) ?_ _
          go_wp2_with fail
          go_meet
          case rel =>
            obtain ⟨z0, z1, z2, z3, z4, z5⟩ := Fr3.two hP hQ hne (.int .i64 (sub a3 b0)) (.int .i64 (sub a4 b1)) (.int .i64 (sub a5 b2)) (.int .i64 (sub b3 a0)) (.int .i64 (sub b4 a1)) (.int .i64 (sub b5 a2))
            exact ⟨wc1.heap.size, wc10.heap.size, rfl, rfl, hS2.1, z0, z1, z2, z3, z4, z5⟩
        · rw [if_pos (by rfl)]
          simp only [zqa, zqb, zqc]
          go_simp
          refine hK.out _ _ ?_ (fun hH13 => ?_)
          · exact ⟨hH9.1.alloc _ _, HA.step (hH9.1.alloc _ _)⟩
          have hq : wA.heap.size ≤ wc1.heap.size + 1 := Nat.le_trans hH9.1.below.size (Nat.le_of_eq (by simp))
          have hlt := World.block_lt_of_cell? _ _ hP.2.1
          simp at hlt
          have hne : wc1.heap.size ≠ wc1.heap.size + 1 := by omega
          clear hlt
          replace hP := hP.step ((Kept.refl _).alloc #[.int .i64 0, .int .i64 0, .int .i64 0] 24)
          have hQ : Fr3 wA (wc1.heap.size + 1) ((wc1.alloc (.cells #[.int .i64 0, .int .i64 0, .int .i64 0] 24)).alloc (.cells #[.int .i64 0, .int .i64 0, .int .i64 0] 24)) := by refine ⟨hH9.1.alloc _ _, cellV_of (v := .int .i64 0) ?_, cellV_of (v := .int .i64 0) ?_, cellV_of (v := .int .i64 0) ?_, ?_, ?_, ?_⟩ <;> go_simp
          clear hK K hH9
          try simp only [Act.put, zqd, zqe, zqf, zqa, zqb, zqc]
          refine wpAnyH_ready (rs := [9]) (by kernel_rfl) (by simp) ?_
          refine AllReadyH.cons rfl (fun K hK => ?_) AllReadyH.nil
          rw [if_pos (by rfl)]
          simp only [zqa, zqb, zqc]
          go_simp
          (go_at_call 52; refine (minus_calls _ _ _ _ _ _ _).mono ?_; rintro e wc14 ⟨rfl, kc14⟩)
          try go_wp2_with fail
          refine hK.out _ _ ?_ (fun hH14 => ?_)
          · exact ⟨hH13.1.trans kc14, HA.step (hH13.1.trans kc14)⟩
          replace hP := hP.step kc14
          replace hQ := hQ.step kc14
          clear hK K hH13
          try simp only [Act.put, zqd, zqe, zqf, zqa, zqb, zqc]
          have hP0 := hP
          obtain ⟨_, cp0, cp1, cp2, fp0, fp1, fp2⟩ := hP0
          have hY := hQ.past hne
          skip
          refine wpAnyH_ready (rs := [12]) (by kernel_rfl) (by simp) ?_
          refine AllReadyH.cons rfl (fun K hK => ?_) AllReadyH.nil
          rw [if_pos (by rfl)]
          simp only [zqa, zqb, zqc]
          go_simp
          refine hK.out _ _ ?_ (fun hS1 => ?_)
          · exact ⟨kept_set3 hH14.1 hp _ _ _, HA.step (kept_set3 hH14.1 hp _ _ _)⟩
          clear hK K
          try simp only [Act.put, zqd, zqe, zqf, zqa, zqb, zqc]
          refine wpAnyH_ready (rs := [13]) (by kernel_rfl) (by simp) ?_
          refine AllReadyH.cons rfl (fun K hK => ?_) AllReadyH.nil
          rw [if_pos (by rfl)]
          simp only [zqa, zqb, zqc]
          go_simp
          refine hK.out _ _ ?_ (fun hS2 => ?_)
          · exact ⟨kept_set3 hS1.1 hq _ _ _, HA.step (kept_set3 hS1.1 hq _ _ _)⟩
          clear hK K
          try simp only [Act.put, zqd, zqe, zqf, zqa, zqb, zqc]
          refine wpAnyH_done (by kernel_rfl) ?_ _
          go_wp2_with fail
          go_meet
          case rel =>
            obtain ⟨z0, z1, z2, z3, z4, z5⟩ := Fr3.two hP hQ hne (.int .i64 (sub a3 b0)) (.int .i64 (sub a4 b1)) (.int .i64 (sub a5 b2)) (.int .i64 (sub b3 a0)) (.int .i64 (sub b4 a1)) (.int .i64 (sub b5 a2))
            exact ⟨wc1.heap.size, wc1.heap.size + 1, rfl, rfl, hS2.1, z0, z1, z2, z3, z4, z5⟩
      · rw [if_pos (by rfl)]
        simp only [zqa, zqb, zqc]
        go_simp
        refine hK.out _ _ ?_ (fun hH15 => ?_)
        · exact ⟨hH1.1.alloc _ _, HA.step (hH1.1.alloc _ _)⟩
        have hq : wA.heap.size ≤ wc1.heap.size := Nat.le_trans hH1.1.below.size (Nat.le_of_eq (by simp))
        have hQ : Fr3 wA (wc1.heap.size) (wc1.alloc (.cells #[.int .i64 0, .int .i64 0, .int .i64 0] 24)) := by refine ⟨hH1.1.alloc _ _, cellV_of (v := .int .i64 0) ?_, cellV_of (v := .int .i64 0) ?_, cellV_of (v := .int .i64 0) ?_, ?_, ?_, ?_⟩ <;> go_simp
        clear hK K hH1
        try simp only [Act.put, zqd, zqe, zqf, zqa, zqb, zqc]
        refine wpAnyH_ready (rs := [9, 10]) (by kernel_rfl) (by simp) ?_
        refine AllReadyH.cons rfl (fun K hK => ?_) (AllReadyH.cons rfl (fun K hK => ?_) AllReadyH.nil)
        · rw [if_pos (by rfl)]
          simp only [zqa, zqb, zqc]
          go_simp
          (go_at_call 52; refine (minus_calls _ _ _ _ _ _ _).mono ?_; rintro e wc16 ⟨rfl, kc16⟩)
          try go_wp2_with fail
          refine hK.out _ _ ?_ (fun hH16 => ?_)
          · exact ⟨hH15.1.trans kc16, HA.step (hH15.1.trans kc16)⟩
          replace hQ := hQ.step kc16
          clear hK K hH15
          try simp only [Act.put, zqd, zqe, zqf, zqa, zqb, zqc]
          refine wpAnyH_ready (rs := [10]) (by kernel_rfl) (by simp) ?_
          refine AllReadyH.cons rfl (fun K hK => ?_) AllReadyH.nil
          rw [if_pos (by rfl)]
          simp only [zqa, zqb, zqc]
          go_simp
          refine hK.out _ _ ?_ (fun hH17 => ?_)
          · exact ⟨hH16.1.alloc _ _, HA.step (hH16.1.alloc _ _)⟩
          have hp : wA.heap.size ≤ wc16.heap.size := Nat.le_trans hH16.1.below.size (Nat.le_of_eq (by simp))
          have hlt := World.block_lt_of_cell? _ _ hQ.2.1
          simp at hlt
          have hne : wc16.heap.size ≠ wc1.heap.size := by omega
          clear hlt
          replace hQ := hQ.step ((Kept.refl _).alloc #[.int .i64 0, .int .i64 0, .int .i64 0] 24)
          have hP : Fr3 wA (wc16.heap.size) (wc16.alloc (.cells #[.int .i64 0, .int .i64 0, .int .i64 0] 24)) := by refine ⟨hH16.1.alloc _ _, cellV_of (v := .int .i64 0) ?_, cellV_of (v := .int .i64 0) ?_, cellV_of (v := .int .i64 0) ?_, ?_, ?_, ?_⟩ <;> go_simp
          clear hK K hH16
          try simp only [Act.put, zqd, zqe, zqf, zqa, zqb, zqc]
          generalize (wc16.alloc (.cells #[.int .i64 0, .int .i64 0, .int .i64 0] 24)) = wz18 at hH17 hP hQ ⊢
          have hP0 := hP
          obtain ⟨_, cp0, cp1, cp2, fp0, fp1, fp2⟩ := hP0
          have hY := hQ.past hne
          skip
          refine wpAnyH_ready (rs := [12]) (by kernel_rfl) (by simp) ?_
          refine AllReadyH.cons rfl (fun K hK => ?_) AllReadyH.nil
          rw [if_pos (by rfl)]
          simp only [zqa, zqb, zqc]
          go_simp
          refine hK.out _ _ ?_ (fun hS1 => ?_)
          · exact ⟨kept_set3 hH17.1 hp _ _ _, HA.step (kept_set3 hH17.1 hp _ _ _)⟩
          clear hK K
          try simp only [Act.put, zqd, zqe, zqf, zqa, zqb, zqc]
          refine wpAnyH_ready (rs := [13]) (by kernel_rfl) (by simp) ?_
          refine AllReadyH.cons rfl (fun K hK => ?_) AllReadyH.nil
          rw [if_pos (by rfl)]
          simp only [zqa, zqb, zqc]
          go_simp
          refine hK.out _ _ ?_ (fun hS2 => ?_)
          · exact ⟨kept_set3 hS1.1 hq _ _ _, HA.step (kept_set3 hS1.1 hq _ _ _)⟩
          clear hK K
          try simp only [Act.put, zqd, zqe, zqf, zqa, zqb, zqc]
          refine wpAnyH_done (by kernel_rfl) ?_ _
          go_wp2_with fail
          go_meet
          case rel =>
            obtain ⟨z0, z1, z2, z3, z4, z5⟩ := Fr3.two hP hQ hne (.int .i64 (sub a3 b0)) (.int .i64 (sub a4 b1)) (.int .i64 (sub a5 b2)) (.int .i64 (sub b3 a0)) (.int .i64 (sub b4 a1)) (.int .i64 (sub b5 a2))
            exact ⟨wc16.heap.size, wc1.heap.size, rfl, rfl, hS2.1, z0, z1, z2, z3, z4, z5⟩
        · rw [if_pos (by rfl)]
          simp only [zqa, zqb, zqc]
          go_simp
          refine hK.out _ _ ?_ (fun hH19 => ?_)
          · exact ⟨hH15.1.alloc _ _, HA.step (hH15.1.alloc _ _)⟩
          have hp : wA.heap.size ≤ wc1.heap.size + 1 := Nat.le_trans hH15.1.below.size (Nat.le_of_eq (by simp))
          have hlt := World.block_lt_of_cell? _ _ hQ.2.1
          simp at hlt
          have hne : wc1.heap.size + 1 ≠ wc1.heap.size := by omega
          clear hlt
          replace hQ := hQ.step ((Kept.refl _).alloc #[.int .i64 0, .int .i64 0, .int .i64 0] 24)
          have hP : Fr3 wA (wc1.heap.size + 1) ((wc1.alloc (.cells #[.int .i64 0, .int .i64 0, .int .i64 0] 24)).alloc (.cells #[.int .i64 0, .int .i64 0, .int .i64 0] 24)) := by refine ⟨hH15.1.alloc _ _, cellV_of (v := .int .i64 0) ?_, cellV_of (v := .int .i64 0) ?_, cellV_of (v := .int .i64 0) ?_, ?_, ?_, ?_⟩ <;> go_simp
          clear hK K hH15
          try simp only [Act.put, zqd, zqe, zqf, zqa, zqb, zqc]
          refine wpAnyH_ready (rs := [9]) (by kernel_rfl) (by simp) ?_
          refine AllReadyH.cons rfl (fun K hK => ?_) AllReadyH.nil
          rw [if_pos (by rfl)]
          simp only [zqa, zqb, zqc]
          go_simp
          (go_at_call 52; refine (minus_calls _ _ _ _ _ _ _).mono ?_; rintro e wc20 ⟨rfl, kc20⟩)
          try go_wp2_with fail
          refine hK.out _ _ ?_ (fun hH20 => ?_)
          · exact ⟨hH19.1.trans kc20, HA.step (hH19.1.trans kc20)⟩
          replace hP := hP.step kc20
          replace hQ := hQ.step kc20
          clear hK K hH19
          try simp only [Act.put, zqd, zqe, zqf, zqa, zqb, zqc]
          have hP0 := hP
          obtain ⟨_, cp0, cp1, cp2, fp0, fp1, fp2⟩ := hP0
          have hY := hQ.past hne
          skip
          refine wpAnyH_ready (rs := [12]) (by kernel_rfl) (by simp) ?_
          refine AllReadyH.cons rfl (fun K hK => ?_) AllReadyH.nil
          rw [if_pos (by rfl)]
          simp only [zqa, zqb, zqc]
          go_simp
          refine hK.out _ _ ?_ (fun hS1 => ?_)
          · exact ⟨kept_set3 hH20.1 hp _ _ _, HA.step (kept_set3 hH20.1 hp _ _ _)⟩
          clear hK K
          try simp only [Act.put, zqd, zqe, zqf, zqa, zqb, zqc]
          refine wpAnyH_ready (rs := [13]) (by kernel_rfl) (by simp) ?_
          refine AllReadyH.cons rfl (fun K hK => ?_) AllReadyH.nil
          rw [if_pos (by rfl)]
          simp only [zqa, zqb, zqc]
          go_simp
          refine hK.out _ _ ?_ (fun hS2 => ?_)
          · exact ⟨kept_set3 hS1.1 hq _ _ _, HA.step (kept_set3 hS1.1 hq _ _ _)⟩
          clear hK K
          try simp only [Act.put, zqd, zqe, zqf, zqa, zqb, zqc]
          refine wpAnyH_done (by kernel_rfl) ?_ _
          go_wp2_with fail
          go_meet
          case rel =>
            obtain ⟨z0, z1, z2, z3, z4, z5⟩ := Fr3.two hP hQ hne (.int .i64 (sub a3 b0)) (.int .i64 (sub a4 b1)) (.int .i64 (sub a5 b2)) (.int .i64 (sub b3 a0)) (.int .i64 (sub b4 a1)) (.int .i64 (sub b5 a2))
            exact ⟨wc1.heap.size + 1, wc1.heap.size, rfl, rfl, hS2.1, z0, z1, z2, z3, z4, z5⟩
    · rw [if_pos (by rfl)]
      simp only [zqa, zqb, zqc]
      go_simp
      refine hK.out _ _ ?_ (fun hH21 => ?_)
      · exact ⟨hH0.1.alloc _ _, HA.step (hH0.1.alloc _ _)⟩
      have hp : wA.heap.size ≤ wA.heap.size := Nat.le_trans hH0.1.below.size (Nat.le_of_eq (by simp))
      have hP : Fr3 wA (wA.heap.size) (wA.drew.alloc (.cells #[.int .i64 0, .int .i64 0, .int .i64 0] 24)) := by refine ⟨hH0.1.alloc _ _, cellV_of (v := .int .i64 0) ?_, cellV_of (v := .int .i64 0) ?_, cellV_of (v := .int .i64 0) ?_, ?_, ?_, ?_⟩ <;> go_simp
      clear hK K hH0
      try simp only [Act.put, zqd, zqe, zqf, zqa, zqb, zqc]
      refine wpAnyH_ready (rs := [4, 11]) (by kernel_rfl) (by simp) ?_
      refine AllReadyH.cons rfl (fun K hK => ?_) (AllReadyH.cons rfl (fun K hK => ?_) AllReadyH.nil)
      · rw [if_pos (by rfl)]
        simp only [zqa, zqb, zqc]
        go_simp
        (go_at_call 52; refine (minus_calls _ _ _ _ _ _ _).mono ?_; rintro e wc22 ⟨rfl, kc22⟩)
        try go_wp2_with fail
        refine hK.out _ _ ?_ (fun hH22 => ?_)
        · exact ⟨hH21.1.trans kc22, HA.step (hH21.1.trans kc22)⟩
        replace hP := hP.step kc22
        clear hK K hH21
        try simp only [Act.put, zqd, zqe, zqf, zqa, zqb, zqc]
        refine wpAnyH_ready (rs := [9, 11]) (by kernel_rfl) (by simp) ?_
        refine AllReadyH.cons rfl (fun K hK => ?_) (AllReadyH.cons rfl (fun K hK => ?_) AllReadyH.nil)
        · rw [if_pos (by rfl)]
          simp only [zqa, zqb, zqc]
          go_simp
          (go_at_call 52; refine (minus_calls _ _ _ _ _ _ _).mono ?_; rintro e wc23 ⟨rfl, kc23⟩)
          try go_wp2_with fail
          refine hK.out _ _ ?_ (fun hH23 => ?_)
          · exact ⟨hH22.1.trans kc23, HA.step (hH22.1.trans kc23)⟩
          replace hP := hP.step kc23
          clear hK K hH22
          try simp only [Act.put, zqd, zqe, zqf, zqa, zqb, zqc]
          refine wpAnyH_ready (rs := [11]) (by kernel_rfl) (by simp) ?_
          refine AllReadyH.cons rfl (fun K hK => ?_) AllReadyH.nil
          rw [if_pos (by rfl)]
          simp only [zqa, zqb, zqc]
          go_simp
          refine hK.out _ _ ?_ (fun hH24 => ?_)
          · exact ⟨hH23.1.alloc _ _, HA.step (hH23.1.alloc _ _)⟩
          have hq : wA.heap.size ≤ wc23.heap.size := Nat.le_trans hH23.1.below.size (Nat.le_of_eq (by simp))
          have hlt := World.block_lt_of_cell? _ _ hP.2.1
          simp at hlt
          have hne : wA.heap.size ≠ wc23.heap.size := by omega
          clear hlt
          replace hP := hP.step ((Kept.refl _).alloc #[.int .i64 0, .int .i64 0, .int .i64 0] 24)
          have hQ : Fr3 wA (wc23.heap.size) (wc23.alloc (.cells #[.int .i64 0, .int .i64 0, .int .i64 0] 24)) := by refine ⟨hH23.1.alloc _ _, cellV_of (v := .int .i64 0) ?_, cellV_of (v := .int .i64 0) ?_, cellV_of (v := .int .i64 0) ?_, ?_, ?_, ?_⟩ <;> go_simp
          clear hK K hH23
          try simp only [Act.put, zqd, zqe, zqf, zqa, zqb, zqc]
          generalize (wc23.alloc (.cells #[.int .i64 0, .int .i64 0, .int .i64 0] 24)) = wz25 at hH24 hP hQ ⊢
          have hP0 := hP
          obtain ⟨_, cp0, cp1, cp2, fp0, fp1, fp2⟩ := hP0
          have hY := hQ.past hne
          skip
          refine wpAnyH_ready (rs := [12]) (by kernel_rfl) (by simp) ?_
          refine AllReadyH.cons rfl (fun K hK => ?_) AllReadyH.nil
          rw [if_pos (by rfl)]
          simp only [zqa, zqb, zqc]
          go_simp
          refine hK.out _ _ ?_ (fun hS1 => ?_)
          · exact ⟨kept_set3 hH24.1 hp _ _ _, HA.step (kept_set3 hH24.1 hp _ _ _)⟩
          clear hK K
          try simp only [Act.put, zqd, zqe, zqf, zqa, zqb, zqc]
          refine wpAnyH_ready (rs := [13]) (by kernel_rfl) (by simp) ?_
          refine AllReadyH.cons rfl (fun K hK => ?_) AllReadyH.nil
          rw [if_pos (by rfl)]
          simp only [zqa, zqb, zqc]
          go_simp
          refine hK.out _ _ ?_ (fun hS2 => ?_)
          · exact ⟨kept_set3 hS1.1 hq _ _ _, HA.step (kept_set3 hS1.1 hq _ _ _)⟩
          clear hK K
          try simp only [Act.put, zqd, zqe, zqf, zqa, zqb, zqc]
          refine wpAnyH_done (by kernel_rfl) ?_ _
          go_wp2_with fail
          go_meet
          case rel =>
            obtain ⟨z0, z1, z2, z3, z4, z5⟩ := Fr3.two hP hQ hne (.int .i64 (sub a3 b0)) (.int .i64 (sub a4 b1)) (.int .i64 (sub a5 b2)) (.int .i64 (sub b3 a0)) (.int .i64 (sub b4 a1)) (.int .i64 (sub b5 a2))
            exact ⟨wA.heap.size, wc23.heap.size, rfl, rfl, hS2.1, z0, z1, z2, z3, z4, z5⟩
        · rw [if_pos (by rfl)]
          simp only [zqa, zqb, zqc]
          go_simp
          refine hK.out _ _ ?_ (fun hH26 => ?_)
          · exact ⟨hH22.1.alloc _ _, HA.step (hH22.1.alloc _ _)⟩
          have hq : wA.heap.size ≤ wc22.heap.size := Nat.le_trans hH22.1.below.size (Nat.le_of_eq (by simp))
          have hlt := World.block_lt_of_cell? _ _ hP.2.1
          simp at hlt
          have hne : wA.heap.size ≠ wc22.heap.size := by omega
          clear hlt
          replace hP := hP.step ((Kept.refl _).alloc #[.int .i64 0, .int .i64 0, .int .i64 0] 24)
          have hQ : Fr3 wA (wc22.heap.size) (wc22.alloc (.cells #[.int .i64 0, .int .i64 0, .int .i64 0] 24)) := by refine ⟨hH22.1.alloc _ _, cellV_of (v := .int .i64 0) ?_, cellV_of (v := .int .i64 0) ?_, cellV_of (v := .int .i64 0) ?_, ?_, ?_, ?_⟩ <;> go_simp
          clear hK K hH22
          try simp only [Act.put, zqd, zqe, zqf, zqa, zqb, zqc]
          refine wpAnyH_ready (rs := [9]) (by kernel_rfl) (by simp) ?_
          refine AllReadyH.cons rfl (fun K hK => ?_) AllReadyH.nil
          rw [if_pos (by rfl)]
          simp only [zqa, zqb, zqc]
          go_simp
          (go_at_call 52; refine (minus_calls _ _ _ _ _ _ _).mono ?_; rintro e wc27 ⟨rfl, kc27⟩)
          try go_wp2_with fail
          refine hK.out _ _ ?_ (fun hH27 => ?_)
          · exact ⟨hH26.1.trans kc27, HA.step (hH26.1.trans kc27)⟩
          replace hP := hP.step kc27
          replace hQ := hQ.step kc27
          clear hK K hH26
          try simp only [Act.put, zqd, zqe, zqf, zqa, zqb, zqc]
          have hP0 := hP
          obtain ⟨_, cp0, cp1, cp2, fp0, fp1, fp2⟩ := hP0
          have hY := hQ.past hne
          skip
          refine wpAnyH_ready (rs := [12]) (by kernel_rfl) (by simp) ?_
          refine AllReadyH.cons rfl (fun K hK => ?_) AllReadyH.nil
          rw [if_pos (by rfl)]
          simp only [zqa, zqb, zqc]
          go_simp
          refine hK.out _ _ ?_ (fun hS1 => ?_)
          · exact ⟨kept_set3 hH27.1 hp _ _ _, HA.step (kept_set3 hH27.1 hp _ _ _)⟩
          clear hK K
          try simp only [Act.put, zqd, zqe, zqf, zqa, zqb, zqc]
          refine wpAnyH_ready (rs := [13]) (by kernel_rfl) (by simp) ?_
          refine AllReadyH.cons rfl (fun K hK => ?_) AllReadyH.nil
          rw [if_pos (by rfl)]
          simp only [zqa, zqb, zqc]
          go_simp
          refine hK.out _ _ ?_ (fun hS2 => ?_)
          · exact ⟨kept_set3 hS1.1 hq _ _ _, HA.step (kept_set3 hS1.1 hq _ _ _)⟩
          clear hK K
          try simp only [Act.put, zqd, zqe, zqf, zqa, zqb, zqc]
          refine wpAnyH_done (by kernel_rfl) ?_ _
          go_wp2_with fail
          go_meet
          case rel =>
            obtain ⟨z0, z1, z2, z3, z4, z5⟩ := Fr3.two hP hQ hne (.int .i64 (sub a3 b0)) (.int .i64 (sub a4 b1)) (.int .i64 (sub a5 b2)) (.int .i64 (sub b3 a0)) (.int .i64 (sub b4 a1)) (.int .i64 (sub b5 a2))
            exact ⟨wA.heap.size, wc22.heap.size, rfl, rfl, hS2.1, z0, z1, z2, z3, z4, z5⟩
      · rw [if_pos (by rfl)]
        simp only [zqa, zqb, zqc]
        go_simp
        refine hK.out _ _ ?_ (fun hH28 => ?_)
        · exact ⟨hH21.1.alloc _ _, HA.step (hH21.1.alloc _ _)⟩
        have hq : wA.heap.size ≤ wA.heap.size + 1 := Nat.le_trans hH21.1.below.size (Nat.le_of_eq (by simp))
        have hlt := World.block_lt_of_cell? _ _ hP.2.1
        simp at hlt
        have hne : wA.heap.size ≠ wA.heap.size + 1 := by omega
        clear hlt
        replace hP := hP.step ((Kept.refl _).alloc #[.int .i64 0, .int .i64 0, .int .i64 0] 24)
        have hQ : Fr3 wA (wA.heap.size + 1) ((wA.drew.alloc (.cells #[.int .i64 0, .int .i64 0, .int .i64 0] 24)).alloc (.cells #[.int .i64 0, .int .i64 0, .int .i64 0] 24)) := by refine ⟨hH21.1.alloc _ _, cellV_of (v := .int .i64 0) ?_, cellV_of (v := .int .i64 0) ?_, cellV_of (v := .int .i64 0) ?_, ?_, ?_, ?_⟩ <;> go_simp
        clear hK K hH21
        try simp only [Act.put, zqd, zqe, zqf, zqa, zqb, zqc]
        refine wpAnyH_ready (rs := [4]) (by kernel_rfl) (by simp) ?_
        refine AllReadyH.cons rfl (fun K hK => ?_) AllReadyH.nil
        rw [if_pos (by rfl)]
        simp only [zqa, zqb, zqc]
        go_simp
        (go_at_call 52; refine (minus_calls _ _ _ _ _ _ _).mono ?_; rintro e wc29 ⟨rfl, kc29⟩)
        try go_wp2_with fail
        refine hK.out _ _ ?_ (fun hH29 => ?_)
        · exact ⟨hH28.1.trans kc29, HA.step (hH28.1.trans kc29)⟩
        replace hP := hP.step kc29
        replace hQ := hQ.step kc29
        clear hK K hH28
        try simp only [Act.put, zqd, zqe, zqf, zqa, zqb, zqc]
        refine wpAnyH_ready (rs := [9]) (by kernel_rfl) (by simp) ?_
        refine AllReadyH.cons rfl (fun K hK => ?_) AllReadyH.nil
        rw [if_pos (by rfl)]
        simp only [zqa, zqb, zqc]
        go_simp
        (go_at_call 52; refine (minus_calls _ _ _ _ _ _ _).mono ?_; rintro e wc30 ⟨rfl, kc30⟩)
        try go_wp2_with fail
        refine hK.out _ _ ?_ (fun hH30 => ?_)
        · exact ⟨hH29.1.trans kc30, HA.step (hH29.1.trans kc30)⟩
        replace hP := hP.step kc30
        replace hQ := hQ.step kc30
        clear hK K hH29
        try simp only [Act.put, zqd, zqe, zqf, zqa, zqb, zqc]
        have hP0 := hP
        obtain ⟨_, cp0, cp1, cp2, fp0, fp1, fp2⟩ := hP0
        have hY := hQ.past hne
        skip
        refine wpAnyH_ready (rs := [12]) (by kernel_rfl) (by simp) ?_
        refine AllReadyH.cons rfl (fun K hK => ?_) AllReadyH.nil
        rw [if_pos (by rfl)]
        simp only [zqa, zqb, zqc]
        go_simp
        refine hK.out _ _ ?_ (fun hS1 => ?_)
        · exact ⟨kept_set3 hH30.1 hp _ _ _, HA.step (kept_set3 hH30.1 hp _ _ _)⟩
        clear hK K
        try simp only [Act.put, zqd, zqe, zqf, zqa, zqb, zqc]
        refine wpAnyH_ready (rs := [13]) (by kernel_rfl) (by simp) ?_
        refine AllReadyH.cons rfl (fun K hK => ?_) AllReadyH.nil
        rw [if_pos (by rfl)]
        simp only [zqa, zqb, zqc]
        go_simp
        refine hK.out _ _ ?_ (fun hS2 => ?_)
        · exact ⟨kept_set3 hS1.1 hq _ _ _, HA.step (kept_set3 hS1.1 hq _ _ _)⟩
        clear hK K
        try simp only [Act.put, zqd, zqe, zqf, zqa, zqb, zqc]
        refine wpAnyH_done (by kernel_rfl) ?_ _
        go_wp2_with fail
        go_meet
        case rel =>
          obtain ⟨z0, z1, z2, z3, z4, z5⟩ := Fr3.two hP hQ hne (.int .i64 (sub a3 b0)) (.int .i64 (sub a4 b1)) (.int .i64 (sub a5 b2)) (.int .i64 (sub b3 a0)) (.int .i64 (sub b4 a1)) (.int .i64 (sub b5 a2))
          exact ⟨wA.heap.size, wA.heap.size + 1, rfl, rfl, hS2.1, z0, z1, z2, z3, z4, z5⟩
    · rw [if_pos (by rfl)]
      simp only [zqa, zqb, zqc]
      go_simp
      refine hK.out _ _ ?_ (fun hH31 => ?_)
      · exact ⟨hH0.1.alloc _ _, HA.step (hH0.1.alloc _ _)⟩
      have hq : wA.heap.size ≤ wA.heap.size := Nat.le_trans hH0.1.below.size (Nat.le_of_eq (by simp))
      have hQ : Fr3 wA (wA.heap.size) (wA.drew.alloc (.cells #[.int .i64 0, .int .i64 0, .int .i64 0] 24)) := by refine ⟨hH0.1.alloc _ _, cellV_of (v := .int .i64 0) ?_, cellV_of (v := .int .i64 0) ?_, cellV_of (v := .int .i64 0) ?_, ?_, ?_, ?_⟩ <;> go_simp
      clear hK K hH0
      try simp only [Act.put, zqd, zqe, zqf, zqa, zqb, zqc]
      refine wpAnyH_ready (rs := [4, 10]) (by kernel_rfl) (by simp) ?_
      refine AllReadyH.cons rfl (fun K hK => ?_) (AllReadyH.cons rfl (fun K hK => ?_) AllReadyH.nil)
      · rw [if_pos (by rfl)]
        simp only [zqa, zqb, zqc]
        go_simp
        (go_at_call 52; refine (minus_calls _ _ _ _ _ _ _).mono ?_; rintro e wc32 ⟨rfl, kc32⟩)
        try go_wp2_with fail
        refine hK.out _ _ ?_ (fun hH32 => ?_)
        · exact ⟨hH31.1.trans kc32, HA.step (hH31.1.trans kc32)⟩
        replace hQ := hQ.step kc32
        clear hK K hH31
        try simp only [Act.put, zqd, zqe, zqf, zqa, zqb, zqc]
        refine wpAnyH_ready (rs := [9, 10]) (by kernel_rfl) (by simp) ?_
        refine AllReadyH.cons rfl (fun K hK => ?_) (AllReadyH.cons rfl (fun K hK => ?_) AllReadyH.nil)
        · rw [if_pos (by rfl)]
          simp only [zqa, zqb, zqc]
          go_simp
          (go_at_call 52; refine (minus_calls _ _ _ _ _ _ _).mono ?_; rintro e wc33 ⟨rfl, kc33⟩)
          try go_wp2_with fail
          refine hK.out _ _ ?_ (fun hH33 => ?_)
          · exact ⟨hH32.1.trans kc33, HA.step (hH32.1.trans kc33)⟩
          replace hQ := hQ.step kc33
          clear hK K hH32
          try simp only [Act.put, zqd, zqe, zqf, zqa, zqb, zqc]
          refine wpAnyH_ready (rs := [10]) (by kernel_rfl) (by simp) ?_
          refine AllReadyH.cons rfl (fun K hK => ?_) AllReadyH.nil
          rw [if_pos (by rfl)]
          simp only [zqa, zqb, zqc]
          go_simp
          refine hK.out _ _ ?_ (fun hH34 => ?_)
          · exact ⟨hH33.1.alloc _ _, HA.step (hH33.1.alloc _ _)⟩
          have hp : wA.heap.size ≤ wc33.heap.size := Nat.le_trans hH33.1.below.size (Nat.le_of_eq (by simp))
          have hlt := World.block_lt_of_cell? _ _ hQ.2.1
          simp at hlt
          have hne : wc33.heap.size ≠ wA.heap.size := by omega
          clear hlt
          replace hQ := hQ.step ((Kept.refl _).alloc #[.int .i64 0, .int .i64 0, .int .i64 0] 24)
          have hP : Fr3 wA (wc33.heap.size) (wc33.alloc (.cells #[.int .i64 0, .int .i64 0, .int .i64 0] 24)) := by refine ⟨hH33.1.alloc _ _, cellV_of (v := .int .i64 0) ?_, cellV_of (v := .int .i64 0) ?_, cellV_of (v := .int .i64 0) ?_, ?_, ?_, ?_⟩ <;> go_simp
          clear hK K hH33
          try simp only [Act.put, zqd, zqe, zqf, zqa, zqb, zqc]
          generalize (wc33.alloc (.cells #[.int .i64 0, .int .i64 0, .int .i64 0] 24)) = wz35 at hH34 hP hQ ⊢
          have hP0 := hP
          obtain ⟨_, cp0, cp1, cp2, fp0, fp1, fp2⟩ := hP0
          have hY := hQ.past hne
          skip
          refine wpAnyH_ready (rs := [12]) (by kernel_rfl) (by simp) ?_
          refine AllReadyH.cons rfl (fun K hK => ?_) AllReadyH.nil
          rw [if_pos (by rfl)]
          simp only [zqa, zqb, zqc]
          go_simp
          refine hK.out _ _ ?_ (fun hS1 => ?_)
          · exact ⟨kept_set3 hH34.1 hp _ _ _, HA.step (kept_set3 hH34.1 hp _ _ _)⟩
          clear hK K
          try simp only [Act.put, zqd, zqe, zqf, zqa, zqb, zqc]
          refine wpAnyH_ready (rs := [13]) (by kernel_rfl) (by simp) ?_
          refine AllReadyH.cons rfl (fun K hK => ?_) AllReadyH.nil
          rw [if_pos (by rfl)]
          simp only [zqa, zqb, zqc]
          go_simp
          refine hK.out _ _ ?_ (fun hS2 => ?_)
          · exact ⟨kept_set3 hS1.1 hq _ _ _, HA.step (kept_set3 hS1.1 hq _ _ _)⟩
          clear hK K
          try simp only [Act.put, zqd, zqe, zqf, zqa, zqb, zqc]
          refine wpAnyH_done (by kernel_rfl) ?_ _
          go_wp2_with fail
          go_meet
          case rel =>
            obtain ⟨z0, z1, z2, z3, z4, z5⟩ := Fr3.two hP hQ hne (.int .i64 (sub a3 b0)) (.int .i64 (sub a4 b1)) (.int .i64 (sub a5 b2)) (.int .i64 (sub b3 a0)) (.int .i64 (sub b4 a1)) (.int .i64 (sub b5 a2))
            exact ⟨wc33.heap.size, wA.heap.size, rfl, rfl, hS2.1, z0, z1, z2, z3, z4, z5⟩
        · rw [if_pos (by rfl)]
          simp only [zqa, zqb, zqc]
          go_simp
          refine hK.out _ _ ?_ (fun hH36 => ?_)
          · exact ⟨hH32.1.alloc _ _, HA.step (hH32.1.alloc _ _)⟩
          have hp : wA.heap.size ≤ wc32.heap.size := Nat.le_trans hH32.1.below.size (Nat.le_of_eq (by simp))
          have hlt := World.block_lt_of_cell? _ _ hQ.2.1
          simp at hlt
          have hne : wc32.heap.size ≠ wA.heap.size := by omega
          clear hlt
          replace hQ := hQ.step ((Kept.refl _).alloc #[.int .i64 0, .int .i64 0, .int .i64 0] 24)
          have hP : Fr3 wA (wc32.heap.size) (wc32.alloc (.cells #[.int .i64 0, .int .i64 0, .int .i64 0] 24)) := by refine ⟨hH32.1.alloc _ _, cellV_of (v := .int .i64 0) ?_, cellV_of (v := .int .i64 0) ?_, cellV_of (v := .int .i64 0) ?_, ?_, ?_, ?_⟩ <;> go_simp
          clear hK K hH32
          try simp only [Act.put, zqd, zqe, zqf, zqa, zqb, zqc]
          refine wpAnyH_ready (rs := [9]) (by kernel_rfl) (by simp) ?_
          refine AllReadyH.cons rfl (fun K hK => ?_) AllReadyH.nil
          rw [if_pos (by rfl)]
          simp only [zqa, zqb, zqc]
          go_simp
          (go_at_call 52; refine (minus_calls _ _ _ _ _ _ _).mono ?_; rintro e wc37 ⟨rfl, kc37⟩)
          try go_wp2_with fail
          refine hK.out _ _ ?_ (fun hH37 => ?_)
          · exact ⟨hH36.1.trans kc37, HA.step (hH36.1.trans kc37)⟩
          replace hP := hP.step kc37
          replace hQ := hQ.step kc37
          clear hK K hH36
          try simp only [Act.put, zqd, zqe, zqf, zqa, zqb, zqc]
          have hP0 := hP
          obtain ⟨_, cp0, cp1, cp2, fp0, fp1, fp2⟩ := hP0
          have hY := hQ.past hne
          skip
          refine wpAnyH_ready (rs := [12]) (by kernel_rfl) (by simp) ?_
          refine AllReadyH.cons rfl (fun K hK => ?_) AllReadyH.nil
          rw [if_pos (by rfl)]
          simp only [zqa, zqb, zqc]
          go_simp
          refine hK.out _ _ ?_ (fun hS1 => ?_)
          · exact ⟨kept_set3 hH37.1 hp _ _ _, HA.step (kept_set3 hH37.1 hp _ _ _)⟩
          clear hK K
          try simp only [Act.put, zqd, zqe, zqf, zqa, zqb, zqc]
          refine wpAnyH_ready (rs := [13]) (by kernel_rfl) (by simp) ?_
          refine AllReadyH.cons rfl (fun K hK => ?_) AllReadyH.nil
          rw [if_pos (by rfl)]
          simp only [zqa, zqb, zqc]
          go_simp
          refine hK.out _ _ ?_ (fun hS2 => ?_)
          · exact ⟨kept_set3 hS1.1 hq _ _ _, HA.step (kept_set3 hS1.1 hq _ _ _)⟩
          clear hK K
          try simp only [Act.put, zqd, zqe, zqf, zqa, zqb, zqc]
          refine wpAnyH_done (by kernel_rfl) ?_ _
          go_wp2_with fail
          go_meet
          case rel =>
            obtain ⟨z0, z1, z2, z3, z4, z5⟩ := Fr3.two hP hQ hne (.int .i64 (sub a3 b0)) (.int .i64 (sub a4 b1)) (.int .i64 (sub a5 b2)) (.int .i64 (sub b3 a0)) (.int .i64 (sub b4 a1)) (.int .i64 (sub b5 a2))
            exact ⟨wc32.heap.size, wA.heap.size, rfl, rfl, hS2.1, z0, z1, z2, z3, z4, z5⟩
      · rw [if_pos (by rfl)]
        simp only [zqa, zqb, zqc]
        go_simp
        refine hK.out _ _ ?_ (fun hH38 => ?_)
        · exact ⟨hH31.1.alloc _ _, HA.step (hH31.1.alloc _ _)⟩
        have hp : wA.heap.size ≤ wA.heap.size + 1 := Nat.le_trans hH31.1.below.size (Nat.le_of_eq (by simp))
        have hlt := World.block_lt_of_cell? _ _ hQ.2.1
        simp at hlt
        have hne : wA.heap.size + 1 ≠ wA.heap.size := by omega
        clear hlt
        replace hQ := hQ.step ((Kept.refl _).alloc #[.int .i64 0, .int .i64 0, .int .i64 0] 24)
        have hP : Fr3 wA (wA.heap.size + 1) ((wA.drew.alloc (.cells #[.int .i64 0, .int .i64 0, .int .i64 0] 24)).alloc (.cells #[.int .i64 0, .int .i64 0, .int .i64 0] 24)) := by refine ⟨hH31.1.alloc _ _, cellV_of (v := .int .i64 0) ?_, cellV_of (v := .int .i64 0) ?_, cellV_of (v := .int .i64 0) ?_, ?_, ?_, ?_⟩ <;> go_simp
        clear hK K hH31
        try simp only [Act.put, zqd, zqe, zqf, zqa, zqb, zqc]
        refine wpAnyH_ready (rs := [4]) (by kernel_rfl) (by simp) ?_
        refine AllReadyH.cons rfl (fun K hK => ?_) AllReadyH.nil
        rw [if_pos (by rfl)]
        simp only [zqa, zqb, zqc]
        go_simp
        (go_at_call 52; refine (minus_calls _ _ _ _ _ _ _).mono ?_; rintro e wc39 ⟨rfl, kc39⟩)
        try go_wp2_with fail
        refine hK.out _ _ ?_ (fun hH39 => ?_)
        · exact ⟨hH38.1.trans kc39, HA.step (hH38.1.trans kc39)⟩
        replace hP := hP.step kc39
        replace hQ := hQ.step kc39
        clear hK K hH38
        try simp only [Act.put, zqd, zqe, zqf, zqa, zqb, zqc]
        refine wpAnyH_ready (rs := [9]) (by kernel_rfl) (by simp) ?_
        refine AllReadyH.cons rfl (fun K hK => ?_) AllReadyH.nil
        rw [if_pos (by rfl)]
        simp only [zqa, zqb, zqc]
        go_simp
        (go_at_call 52; refine (minus_calls _ _ _ _ _ _ _).mono ?_; rintro e wc40 ⟨rfl, kc40⟩)
        try go_wp2_with fail
        refine hK.out _ _ ?_ (fun hH40 => ?_)
        · exact ⟨hH39.1.trans kc40, HA.step (hH39.1.trans kc40)⟩
        replace hP := hP.step kc40
        replace hQ := hQ.step kc40
        clear hK K hH39
        try simp only [Act.put, zqd, zqe, zqf, zqa, zqb, zqc]
        have hP0 := hP
        obtain ⟨_, cp0, cp1, cp2, fp0, fp1, fp2⟩ := hP0
        have hY := hQ.past hne
        skip
        refine wpAnyH_ready (rs := [12]) (by kernel_rfl) (by simp) ?_
        refine AllReadyH.cons rfl (fun K hK => ?_) AllReadyH.nil
        rw [if_pos (by rfl)]
        simp only [zqa, zqb, zqc]
        go_simp
        refine hK.out _ _ ?_ (fun hS1 => ?_)
        · exact ⟨kept_set3 hH40.1 hp _ _ _, HA.step (kept_set3 hH40.1 hp _ _ _)⟩
        clear hK K
        try simp only [Act.put, zqd, zqe, zqf, zqa, zqb, zqc]
        refine wpAnyH_ready (rs := [13]) (by kernel_rfl) (by simp) ?_
        refine AllReadyH.cons rfl (fun K hK => ?_) AllReadyH.nil
        rw [if_pos (by rfl)]
        simp only [zqa, zqb, zqc]
        go_simp
        refine hK.out _ _ ?_ (fun hS2 => ?_)
        · exact ⟨kept_set3 hS1.1 hq _ _ _, HA.step (kept_set3 hS1.1 hq _ _ _)⟩
        clear hK K
        try simp only [Act.put, zqd, zqe, zqf, zqa, zqb, zqc]
        refine wpAnyH_done (by kernel_rfl) ?_ _
        go_wp2_with fail
        go_meet
        case rel =>
          obtain ⟨z0, z1, z2, z3, z4, z5⟩ := Fr3.two hP hQ hne (.int .i64 (sub a3 b0)) (.int .i64 (sub a4 b1)) (.int .i64 (sub a5 b2)) (.int .i64 (sub b3 a0)) (.int .i64 (sub b4 a1)) (.int .i64 (sub b5 a2))
          exact ⟨wA.heap.size + 1, wA.heap.size, rfl, rfl, hS2.1, z0, z1, z2, z3, z4, z5⟩
  case rest =>
    obtain ⟨p, q, rfl, rfl, kc, x0, x1, x2, y0, y1, y2⟩ := hcut
    clear HA
    go_wp2_with fail
    refine (minFunc_calls _ ⟨65536, 0, 0, sub a3 b0⟩ ⟨-65536, 0, 0, sub b3 a0⟩ ⟨0, 65536, 0, sub a4 b1⟩ ⟨0, -65536, 0, sub b4 a1⟩ ⟨0, 0, 65536, sub a5 b2⟩ ⟨0, 0, -65536, sub b5 a2⟩ _ (by refine ⟨?_, ?_, ?_, ?_, ?_, ?_, ?_, ?_, ?_, ?_, ?_, ?_, ?_, ?_, ?_, ?_, ?_, ?_, ?_, ?_, ?_, ?_, ?_, ?_⟩ <;> go_simp)).mono ?_
    rintro e w1 ⟨rfl, k1⟩
    have hk := (hkA.trans kc).alloc #[] 0
    clear hk
    have c0 := kept_cell k1 (later (kept_cell kc (RC'.out 0 (by omega))) _)
    have f0 := kept_frozen k1 (laterF (kept_frozen kc (RF'.out 0)) _ _)
    have c1 := kept_cell k1 (later (kept_cell kc (RC'.out 1 (by omega))) _)
    have f1 := kept_frozen k1 (laterF (kept_frozen kc (RF'.out 1)) _ _)
    have c2 := kept_cell k1 (later (kept_cell kc (RC'.out 2 (by omega))) _)
    have f2 := kept_frozen k1 (laterF (kept_frozen kc (RF'.out 2)) _ _)
    have c3 := kept_cell k1 (later (kept_cell kc (RC'.out 3 (by omega))) _)
    have f3 := kept_frozen k1 (laterF (kept_frozen kc (RF'.out 3)) _ _)
    have hk : Kept w w1 := ((hkA.trans kc).alloc _ _).trans k1
    clear k1 x0 x1 x2 y0 y1 y2
    generalize hE : pickE ⟨65536, 0, 0, sub a3 b0⟩ ⟨-65536, 0, 0, sub b3 a0⟩ ⟨0, 65536, 0, sub a4 b1⟩ ⟨0, -65536, 0, sub b4 a1⟩ ⟨0, 0, 65536, sub a5 b2⟩ ⟨0, 0, -65536, sub b5 a2⟩ 5 = E
    have HE : Aside _ := hE
    clear hE
    go_wp2
    obtain ⟨z0, z1, z2, z3⟩ := set4_of (v0 := .int .i64 E.x) (v1 := .int .i64 E.y) (v2 := .int .i64 E.z) (v3 := .int .i64 E.d) c0 c1 c2 c3
    exact bodyPost_ret (v := .agg #[.int .i64 (E.x), .int .i64 (E.y), .int .i64 (E.z), .int .i64 (E.d)]) (by simp [results, Tryz.results82, go_sem, z0, z1, z2, z3]) rfl ⟨by rw [← HE.out]; rfl, kept_set4 hk (by omega) _ _ _ _⟩
end Go.Proofs.YtbfkloclmlnahabGreat

namespace Go.Proofs.YtbfkloclmlnahabGreat
open Go.ChangeShapes Go.WideShapes Go.ChangeAt Go.RowKit
set_option linter.unusedSimpArgs false

/-- A touch: the way, how deep, and whether there is one. -/
structure T where
  x : Int
  y : Int
  z : Int
  d : Int
  ok : Bool
def noT : T := ⟨0, 0, 0, 0, false⟩
def unitT (x y z d : Int) : T := ⟨unitPart (long x y z) 0 x, unitPart (long x y z) 65536 y, unitPart (long x y z) 0 z, d, true⟩
def reachT (s x y z : Int) : T := if sub s (long x y z) ≤ 0 then noT else unitT x y z (sub s (long x y z))
theorem reachT_no {s x y z : Int} (h : sub s (long x y z) ≤ 0) : reachT s x y z = noT := by unfold reachT; rw [if_pos h]
theorem reachT_yes {s x y z : Int} (h : ¬ sub s (long x y z) ≤ 0) : reachT s x y z = unitT x y z (sub s (long x y z)) := by unfold reachT; rw [if_neg h]
theorem reaches_calls (s x y z : Int) (w : World) : Calls Tryz.prog 51 #[.int .i64 s, .agg #[.int .i64 x, .int .i64 y, .int .i64 z]] w fun e w' => e = .returned (.tuple #[.agg #[.int .i64 ((reachT s x y z).x), .int .i64 ((reachT s x y z).y), .int .i64 ((reachT s x y z).z)], .int .i64 ((reachT s x y z).d), .bool (reachT s x y z).ok]) ∧ Kept w w' := by
  by_cases h : sub s (long x y z) ≤ 0
  · have hd : decide (sub s (long x y z) ≤ 0) = true := decide_eq_true h
    rw [reachT_no h]
    clear h
    go_enter Tryz.func51, Tryz.ntmps51
    go_wp2_with fail
    refine (long_calls _ _ _ _).mono ?_; rintro e w1 ⟨rfl, k1⟩
    go_wp2_with fail
    refine (sub_calls _ _ _).mono ?_; rintro e w2 ⟨rfl, k2⟩
    have c0 : w2.cell? ⟨w.heap.size + 1, 0, none⟩ = some (.int .i64 0) := kept_cell k2 (kept_cell k1 (by go_simp))
    have f0 : w2.frozen? ⟨w.heap.size + 1, 0, none⟩ = false := kept_frozen k2 (kept_frozen k1 (by go_simp))
    have c1 : w2.cell? ⟨w.heap.size + 1, 1, none⟩ = some (.int .i64 0) := kept_cell k2 (kept_cell k1 (by go_simp))
    have f1 : w2.frozen? ⟨w.heap.size + 1, 1, none⟩ = false := kept_frozen k2 (kept_frozen k1 (by go_simp))
    have c2 : w2.cell? ⟨w.heap.size + 1, 2, none⟩ = some (.int .i64 0) := kept_cell k2 (kept_cell k1 (by go_simp))
    have f2 : w2.frozen? ⟨w.heap.size + 1, 2, none⟩ = false := kept_frozen k2 (kept_frozen k1 (by go_simp))
    go_wp2
    obtain ⟨e0, e1, e2⟩ := set3_of (v0 := .int .i64 0) (v1 := .int .i64 0) (v2 := .int .i64 0) c0 c1 c2
    exact bodyPost_ret (v := .tuple #[.agg #[.int .i64 0, .int .i64 0, .int .i64 0], .int .i64 0, .bool false]) (by simp [results, Tryz.results51, go_sem, e0, e1, e2]) rfl ⟨rfl, kept_set3 (((((Kept.refl w).alloc _ _).alloc _ _).trans k1).trans k2) (by omega) _ _ _⟩
  · have hd : decide (sub s (long x y z) ≤ 0) = false := decide_eq_false h
    rw [reachT_yes h]
    clear h
    go_enter Tryz.func51, Tryz.ntmps51
    go_wp2_with fail
    refine (long_calls _ _ _ _).mono ?_; rintro e w1 ⟨rfl, k1⟩
    go_wp2_with fail
    refine (sub_calls _ _ _).mono ?_; rintro e w2 ⟨rfl, k2⟩
    have l0 : w2.cell? ⟨w.heap.size, 0, none⟩ = some (.int .i64 x) := kept_cell k2 (kept_cell k1 (by go_simp))
    have l1 : w2.cell? ⟨w.heap.size, 1, none⟩ = some (.int .i64 y) := kept_cell k2 (kept_cell k1 (by go_simp))
    have l2 : w2.cell? ⟨w.heap.size, 2, none⟩ = some (.int .i64 z) := kept_cell k2 (kept_cell k1 (by go_simp))
    go_wp2_with fail
    refine (unit_calls _ _ _ _).mono ?_; rintro e w3 ⟨rfl, k3⟩
    have c0 : w3.cell? ⟨w.heap.size + 1, 0, none⟩ = some (.int .i64 0) := kept_cell k3 (kept_cell k2 (kept_cell k1 (by go_simp)))
    have f0 : w3.frozen? ⟨w.heap.size + 1, 0, none⟩ = false := kept_frozen k3 (kept_frozen k2 (kept_frozen k1 (by go_simp)))
    have c1 : w3.cell? ⟨w.heap.size + 1, 1, none⟩ = some (.int .i64 0) := kept_cell k3 (kept_cell k2 (kept_cell k1 (by go_simp)))
    have f1 : w3.frozen? ⟨w.heap.size + 1, 1, none⟩ = false := kept_frozen k3 (kept_frozen k2 (kept_frozen k1 (by go_simp)))
    have c2 : w3.cell? ⟨w.heap.size + 1, 2, none⟩ = some (.int .i64 0) := kept_cell k3 (kept_cell k2 (kept_cell k1 (by go_simp)))
    have f2 : w3.frozen? ⟨w.heap.size + 1, 2, none⟩ = false := kept_frozen k3 (kept_frozen k2 (kept_frozen k1 (by go_simp)))
    clear l0 l1 l2
    go_wp2
    obtain ⟨e0, e1, e2⟩ := set3_of (v0 := .int .i64 (unitPart (long x y z) 0 x)) (v1 := .int .i64 (unitPart (long x y z) 65536 y)) (v2 := .int .i64 (unitPart (long x y z) 0 z)) c0 c1 c2
    exact bodyPost_ret (v := .tuple #[.agg #[.int .i64 (unitPart (long x y z) 0 x), .int .i64 (unitPart (long x y z) 65536 y), .int .i64 (unitPart (long x y z) 0 z)], .int .i64 (sub s (long x y z)), .bool true]) (by simp [results, Tryz.results51, go_sem, e0, e1, e2]) rfl ⟨rfl, kept_set3 ((((((Kept.refl w).alloc _ _).alloc _ _).trans k1).trans k2).trans k3) (by omega) _ _ _⟩
def boxesT (a0 a1 a2 a3 a4 a5 b0 b1 b2 b3 b4 b5 : Int) : T := if meetB a0 a1 a2 a3 a4 a5 b0 b1 b2 b3 b4 b5 = true ∧ 0 < (outE a0 a1 a2 a3 a4 a5 b0 b1 b2 b3 b4 b5).d then ⟨(outE a0 a1 a2 a3 a4 a5 b0 b1 b2 b3 b4 b5).x, (outE a0 a1 a2 a3 a4 a5 b0 b1 b2 b3 b4 b5).y, (outE a0 a1 a2 a3 a4 a5 b0 b1 b2 b3 b4 b5).z, (outE a0 a1 a2 a3 a4 a5 b0 b1 b2 b3 b4 b5).d, true⟩ else noT
theorem boxesT_no {a0 a1 a2 a3 a4 a5 b0 b1 b2 b3 b4 b5 : Int} (h : ¬ (meetB a0 a1 a2 a3 a4 a5 b0 b1 b2 b3 b4 b5 = true ∧ 0 < (outE a0 a1 a2 a3 a4 a5 b0 b1 b2 b3 b4 b5).d)) : boxesT a0 a1 a2 a3 a4 a5 b0 b1 b2 b3 b4 b5 = noT := by unfold boxesT; rw [if_neg h]
theorem boxesT_yes {a0 a1 a2 a3 a4 a5 b0 b1 b2 b3 b4 b5 : Int} (h : meetB a0 a1 a2 a3 a4 a5 b0 b1 b2 b3 b4 b5 = true ∧ 0 < (outE a0 a1 a2 a3 a4 a5 b0 b1 b2 b3 b4 b5).d) : boxesT a0 a1 a2 a3 a4 a5 b0 b1 b2 b3 b4 b5 = ⟨(outE a0 a1 a2 a3 a4 a5 b0 b1 b2 b3 b4 b5).x, (outE a0 a1 a2 a3 a4 a5 b0 b1 b2 b3 b4 b5).y, (outE a0 a1 a2 a3 a4 a5 b0 b1 b2 b3 b4 b5).z, (outE a0 a1 a2 a3 a4 a5 b0 b1 b2 b3 b4 b5).d, true⟩ := by unfold boxesT; rw [if_pos h]
def G4o3 (w : World) (b0 b1 : Nat) (v0 v1 v2 v3 : Value) (w' : World) : Prop :=
  Kept w w' ∧
  w'.cell? ⟨b0, 0, none⟩ = some v0 ∧
  w'.cell? ⟨b0, 1, none⟩ = some v1 ∧
  w'.cell? ⟨b0, 2, none⟩ = some v2 ∧
  w'.cell? ⟨b0, 3, none⟩ = some v3 ∧
  w'.cell? ⟨b1, 0, none⟩ = some (cellV w' ⟨b1, 0, none⟩) ∧
  w'.cell? ⟨b1, 1, none⟩ = some (cellV w' ⟨b1, 1, none⟩) ∧
  w'.cell? ⟨b1, 2, none⟩ = some (cellV w' ⟨b1, 2, none⟩) ∧
  w'.frozen? ⟨b1, 0, none⟩ = false ∧
  w'.frozen? ⟨b1, 1, none⟩ = false ∧
  w'.frozen? ⟨b1, 2, none⟩ = false
theorem G4o3.step {w w1 w2 : World} {b0 b1 : Nat} {v0 v1 v2 v3 : Value} (k : Kept w1 w2) (h : G4o3 w b0 b1 v0 v1 v2 v3 w1) : G4o3 w b0 b1 v0 v1 v2 v3 w2 := by
  obtain ⟨h0, h1, h2, h3, h4, h5, h6, h7, h8, h9, h10⟩ := h
  exact ⟨h0.trans k, kept_cell k h1, kept_cell k h2, kept_cell k h3, kept_cell k h4, kept_there k h5, kept_there k h6, kept_there k h7, kept_frozen k h8, kept_frozen k h9, kept_frozen k h10⟩
theorem G4o3.drew {w w1 : World} {b0 b1 : Nat} {v0 v1 v2 v3 : Value} (h : G4o3 w b0 b1 v0 v1 v2 v3 w1) : G4o3 w b0 b1 v0 v1 v2 v3 w1.drew := h.step (Kept.refl _).drew
theorem G4o3.put {w w1 : World} {b0 b1 : Nat} {v0 v1 v2 v3 : Value} (i : Nat) (v : Value) (ho : w.heap.size ≤ b1) (n0 : b0 ≠ b1) (h : G4o3 w b0 b1 v0 v1 v2 v3 w1) : G4o3 w b0 b1 v0 v1 v2 v3 (w1.setCell ⟨b1, i, none⟩ v) := by
  obtain ⟨h0, h1, h2, h3, h4, h5, h6, h7, h8, h9, h10⟩ := h
  exact ⟨h0.setCell (p := ⟨b1, i, none⟩) ho v, (World.cell?_setCell_other _ _ _ _ (fun e => n0 (by injection e with e; exact e.symm))).trans h1, (World.cell?_setCell_other _ _ _ _ (fun e => n0 (by injection e with e; exact e.symm))).trans h2, (World.cell?_setCell_other _ _ _ _ (fun e => n0 (by injection e with e; exact e.symm))).trans h3, (World.cell?_setCell_other _ _ _ _ (fun e => n0 (by injection e with e; exact e.symm))).trans h4, put_there h5, put_there h6, put_there h7, (World.frozen?_setCell _ _ _ _).trans h8, (World.frozen?_setCell _ _ _ _).trans h9, (World.frozen?_setCell _ _ _ _).trans h10⟩

set_option maxHeartbeats 4000000 in
theorem boxesTouch_calls (a0 a1 a2 a3 a4 a5 b0 b1 b2 b3 b4 b5 : Int) (w : World) : Calls Tryz.prog 54 #[.agg #[.int .i64 a0, .int .i64 a1, .int .i64 a2, .int .i64 a3, .int .i64 a4, .int .i64 a5], .agg #[.int .i64 b0, .int .i64 b1, .int .i64 b2, .int .i64 b3, .int .i64 b4, .int .i64 b5]] w fun e w' => e = .returned (.tuple #[.agg #[.int .i64 ((boxesT a0 a1 a2 a3 a4 a5 b0 b1 b2 b3 b4 b5).x), .int .i64 ((boxesT a0 a1 a2 a3 a4 a5 b0 b1 b2 b3 b4 b5).y), .int .i64 ((boxesT a0 a1 a2 a3 a4 a5 b0 b1 b2 b3 b4 b5).z)], .int .i64 ((boxesT a0 a1 a2 a3 a4 a5 b0 b1 b2 b3 b4 b5).d), .bool (boxesT a0 a1 a2 a3 a4 a5 b0 b1 b2 b3 b4 b5).ok]) ∧ Kept w w' := by
  cases hm : meetB a0 a1 a2 a3 a4 a5 b0 b1 b2 b3 b4 b5 with
  | false =>
    rw [boxesT_no (by rw [hm]; simp)]
    have hE : True := trivial
    go_enter Tryz.func54, Tryz.ntmps54
    go_wp2_with fail
    refine (out_calls _ _ _ _ _ _ _ _ _ _ _ _ _).mono ?_; rintro e w1 ⟨rfl, k1⟩
    have HA : G66At w.heap.size (w.heap.size + 1) (.int .i64 a0) (.int .i64 a1) (.int .i64 a2) (.int .i64 a3) (.int .i64 a4) (.int .i64 a5) (.int .i64 b0) (.int .i64 b1) (.int .i64 b2) (.int .i64 b3) (.int .i64 b4) (.int .i64 b5) w1 := G66At.step k1 (by refine ⟨?_, ?_, ?_, ?_, ?_, ?_, ?_, ?_, ?_, ?_, ?_, ?_⟩ <;> go_simp)
    have rc0 : w1.cell? ⟨w.heap.size + 1 + 1, 0, none⟩ = some (.int .i64 0) := kept_cell k1 (by go_simp)
    have rf0 : w1.frozen? ⟨w.heap.size + 1 + 1, 0, none⟩ = false := kept_frozen k1 (by go_simp)
    have rc1 : w1.cell? ⟨w.heap.size + 1 + 1, 1, none⟩ = some (.int .i64 0) := kept_cell k1 (by go_simp)
    have rf1 : w1.frozen? ⟨w.heap.size + 1 + 1, 1, none⟩ = false := kept_frozen k1 (by go_simp)
    have rc2 : w1.cell? ⟨w.heap.size + 1 + 1, 2, none⟩ = some (.int .i64 0) := kept_cell k1 (by go_simp)
    have rf2 : w1.frozen? ⟨w.heap.size + 1 + 1, 2, none⟩ = false := kept_frozen k1 (by go_simp)
    have hk1 : Kept w w1 := ((((Kept.refl w).alloc _ _).alloc _ _).alloc _ _).trans k1
    have hlt : w.heap.size + 1 + 1 + 1 ≤ w1.heap.size := by have := k1.below.size; simp at this; omega
    generalize hEE : outE a0 a1 a2 a3 a4 a5 b0 b1 b2 b3 b4 b5 = E at hE ⊢
    have HE : Aside (outE a0 a1 a2 a3 a4 a5 b0 b1 b2 b3 b4 b5 = E) := hEE
    clear k1 hEE
    obtain ⟨t0, t1, t2, t3, t4, t5, t6, t7, t8, t9, t10, t11⟩ := HA
    have l0 := later t0
    have l1 := later t1
    have l2 := later t2
    have l3 := later t3
    have l4 := later t4
    have l5 := later t5
    have l6 := later t6
    have l7 := later t7
    have l8 := later t8
    have l9 := later t9
    have l10 := later t10
    have l11 := later t11
    clear t0 t1 t2 t3 t4 t5 t6 t7 t8 t9 t10 t11
    go_wp2_with fail
    refine (gmeet_calls _ _ _ _ _ _ _ _ _ _ _ _ _).mono ?_; rintro e w2 ⟨rfl, k2⟩
    clear l0 l1 l2 l3 l4 l5 l6 l7 l8 l9 l10 l11
    have c0 := kept_cell k2 (later rc0 _)
    have f0 := kept_frozen k2 (laterF rf0 _ _)
    have c1 := kept_cell k2 (later rc1 _)
    have f1 := kept_frozen k2 (laterF rf1 _ _)
    have c2 := kept_cell k2 (later rc2 _)
    have f2 := kept_frozen k2 (laterF rf2 _ _)
    have m0 : w2.cell? ⟨w1.heap.size, 0, none⟩ = some (.int .i64 E.x) := kept_cell k2 (by go_simp)
    have m1 : w2.cell? ⟨w1.heap.size, 1, none⟩ = some (.int .i64 E.y) := kept_cell k2 (by go_simp)
    have m2 : w2.cell? ⟨w1.heap.size, 2, none⟩ = some (.int .i64 E.z) := kept_cell k2 (by go_simp)
    have m3 : w2.cell? ⟨w1.heap.size, 3, none⟩ = some (.int .i64 E.d) := kept_cell k2 (by go_simp)
    have hk2 : Kept w w2 := (hk1.alloc _ _).trans k2
    clear k2 rc0 rc1 rc2 rf0 rf1 rf2 hk1
    go_wp2
    obtain ⟨e0, e1, e2⟩ := set3_of (v0 := .int .i64 0) (v1 := .int .i64 0) (v2 := .int .i64 0) c0 c1 c2
    exact bodyPost_ret (v := .tuple #[.agg #[.int .i64 0, .int .i64 0, .int .i64 0], .int .i64 0, .bool false]) (by simp [results, Tryz.results54, go_sem, e0, e1, e2]) rfl ⟨rfl, kept_set3 hk2 (by omega) _ _ _⟩
  | true =>
    cases hd : decide ((outE a0 a1 a2 a3 a4 a5 b0 b1 b2 b3 b4 b5).d ≤ 0) with
    | true =>
      rw [boxesT_no (by have := of_decide_eq_true hd; omega)]
      have hE := hd
      clear hd
      go_enter Tryz.func54, Tryz.ntmps54
      go_wp2_with fail
      refine (out_calls _ _ _ _ _ _ _ _ _ _ _ _ _).mono ?_; rintro e w1 ⟨rfl, k1⟩
      have HA : G66At w.heap.size (w.heap.size + 1) (.int .i64 a0) (.int .i64 a1) (.int .i64 a2) (.int .i64 a3) (.int .i64 a4) (.int .i64 a5) (.int .i64 b0) (.int .i64 b1) (.int .i64 b2) (.int .i64 b3) (.int .i64 b4) (.int .i64 b5) w1 := G66At.step k1 (by refine ⟨?_, ?_, ?_, ?_, ?_, ?_, ?_, ?_, ?_, ?_, ?_, ?_⟩ <;> go_simp)
      have rc0 : w1.cell? ⟨w.heap.size + 1 + 1, 0, none⟩ = some (.int .i64 0) := kept_cell k1 (by go_simp)
      have rf0 : w1.frozen? ⟨w.heap.size + 1 + 1, 0, none⟩ = false := kept_frozen k1 (by go_simp)
      have rc1 : w1.cell? ⟨w.heap.size + 1 + 1, 1, none⟩ = some (.int .i64 0) := kept_cell k1 (by go_simp)
      have rf1 : w1.frozen? ⟨w.heap.size + 1 + 1, 1, none⟩ = false := kept_frozen k1 (by go_simp)
      have rc2 : w1.cell? ⟨w.heap.size + 1 + 1, 2, none⟩ = some (.int .i64 0) := kept_cell k1 (by go_simp)
      have rf2 : w1.frozen? ⟨w.heap.size + 1 + 1, 2, none⟩ = false := kept_frozen k1 (by go_simp)
      have hk1 : Kept w w1 := ((((Kept.refl w).alloc _ _).alloc _ _).alloc _ _).trans k1
      have hlt : w.heap.size + 1 + 1 + 1 ≤ w1.heap.size := by have := k1.below.size; simp at this; omega
      generalize hEE : outE a0 a1 a2 a3 a4 a5 b0 b1 b2 b3 b4 b5 = E at hE ⊢
      have HE : Aside (outE a0 a1 a2 a3 a4 a5 b0 b1 b2 b3 b4 b5 = E) := hEE
      clear k1 hEE
      obtain ⟨t0, t1, t2, t3, t4, t5, t6, t7, t8, t9, t10, t11⟩ := HA
      have l0 := later t0
      have l1 := later t1
      have l2 := later t2
      have l3 := later t3
      have l4 := later t4
      have l5 := later t5
      have l6 := later t6
      have l7 := later t7
      have l8 := later t8
      have l9 := later t9
      have l10 := later t10
      have l11 := later t11
      clear t0 t1 t2 t3 t4 t5 t6 t7 t8 t9 t10 t11
      go_wp2_with fail
      refine (gmeet_calls _ _ _ _ _ _ _ _ _ _ _ _ _).mono ?_; rintro e w2 ⟨rfl, k2⟩
      clear l0 l1 l2 l3 l4 l5 l6 l7 l8 l9 l10 l11
      have c0 := kept_cell k2 (later rc0 _)
      have f0 := kept_frozen k2 (laterF rf0 _ _)
      have c1 := kept_cell k2 (later rc1 _)
      have f1 := kept_frozen k2 (laterF rf1 _ _)
      have c2 := kept_cell k2 (later rc2 _)
      have f2 := kept_frozen k2 (laterF rf2 _ _)
      have m0 : w2.cell? ⟨w1.heap.size, 0, none⟩ = some (.int .i64 E.x) := kept_cell k2 (by go_simp)
      have m1 : w2.cell? ⟨w1.heap.size, 1, none⟩ = some (.int .i64 E.y) := kept_cell k2 (by go_simp)
      have m2 : w2.cell? ⟨w1.heap.size, 2, none⟩ = some (.int .i64 E.z) := kept_cell k2 (by go_simp)
      have m3 : w2.cell? ⟨w1.heap.size, 3, none⟩ = some (.int .i64 E.d) := kept_cell k2 (by go_simp)
      have hk2 : Kept w w2 := (hk1.alloc _ _).trans k2
      clear k2 rc0 rc1 rc2 rf0 rf1 rf2 hk1
      go_wp2
      obtain ⟨e0, e1, e2⟩ := set3_of (v0 := .int .i64 0) (v1 := .int .i64 0) (v2 := .int .i64 0) c0 c1 c2
      exact bodyPost_ret (v := .tuple #[.agg #[.int .i64 0, .int .i64 0, .int .i64 0], .int .i64 0, .bool false]) (by simp [results, Tryz.results54, go_sem, e0, e1, e2]) rfl ⟨rfl, kept_set3 hk2 (by omega) _ _ _⟩
    | false =>
      rw [boxesT_yes ⟨hm, by have := of_decide_eq_false hd; omega⟩]
      have hE := hd
      clear hd
      go_enter Tryz.func54, Tryz.ntmps54
      go_wp2_with fail
      refine (out_calls _ _ _ _ _ _ _ _ _ _ _ _ _).mono ?_; rintro e w1 ⟨rfl, k1⟩
      have HA : G66At w.heap.size (w.heap.size + 1) (.int .i64 a0) (.int .i64 a1) (.int .i64 a2) (.int .i64 a3) (.int .i64 a4) (.int .i64 a5) (.int .i64 b0) (.int .i64 b1) (.int .i64 b2) (.int .i64 b3) (.int .i64 b4) (.int .i64 b5) w1 := G66At.step k1 (by refine ⟨?_, ?_, ?_, ?_, ?_, ?_, ?_, ?_, ?_, ?_, ?_, ?_⟩ <;> go_simp)
      have rc0 : w1.cell? ⟨w.heap.size + 1 + 1, 0, none⟩ = some (.int .i64 0) := kept_cell k1 (by go_simp)
      have rf0 : w1.frozen? ⟨w.heap.size + 1 + 1, 0, none⟩ = false := kept_frozen k1 (by go_simp)
      have rc1 : w1.cell? ⟨w.heap.size + 1 + 1, 1, none⟩ = some (.int .i64 0) := kept_cell k1 (by go_simp)
      have rf1 : w1.frozen? ⟨w.heap.size + 1 + 1, 1, none⟩ = false := kept_frozen k1 (by go_simp)
      have rc2 : w1.cell? ⟨w.heap.size + 1 + 1, 2, none⟩ = some (.int .i64 0) := kept_cell k1 (by go_simp)
      have rf2 : w1.frozen? ⟨w.heap.size + 1 + 1, 2, none⟩ = false := kept_frozen k1 (by go_simp)
      have hk1 : Kept w w1 := ((((Kept.refl w).alloc _ _).alloc _ _).alloc _ _).trans k1
      have hlt : w.heap.size + 1 + 1 + 1 ≤ w1.heap.size := by have := k1.below.size; simp at this; omega
      generalize hEE : outE a0 a1 a2 a3 a4 a5 b0 b1 b2 b3 b4 b5 = E at hE ⊢
      have HE : Aside (outE a0 a1 a2 a3 a4 a5 b0 b1 b2 b3 b4 b5 = E) := hEE
      clear k1 hEE
      obtain ⟨t0, t1, t2, t3, t4, t5, t6, t7, t8, t9, t10, t11⟩ := HA
      have l0 := later t0
      have l1 := later t1
      have l2 := later t2
      have l3 := later t3
      have l4 := later t4
      have l5 := later t5
      have l6 := later t6
      have l7 := later t7
      have l8 := later t8
      have l9 := later t9
      have l10 := later t10
      have l11 := later t11
      clear t0 t1 t2 t3 t4 t5 t6 t7 t8 t9 t10 t11
      go_wp2_with fail
      refine (gmeet_calls _ _ _ _ _ _ _ _ _ _ _ _ _).mono ?_; rintro e w2 ⟨rfl, k2⟩
      clear l0 l1 l2 l3 l4 l5 l6 l7 l8 l9 l10 l11
      have c0 := kept_cell k2 (later rc0 _)
      have f0 := kept_frozen k2 (laterF rf0 _ _)
      have c1 := kept_cell k2 (later rc1 _)
      have f1 := kept_frozen k2 (laterF rf1 _ _)
      have c2 := kept_cell k2 (later rc2 _)
      have f2 := kept_frozen k2 (laterF rf2 _ _)
      have m0 : w2.cell? ⟨w1.heap.size, 0, none⟩ = some (.int .i64 E.x) := kept_cell k2 (by go_simp)
      have m1 : w2.cell? ⟨w1.heap.size, 1, none⟩ = some (.int .i64 E.y) := kept_cell k2 (by go_simp)
      have m2 : w2.cell? ⟨w1.heap.size, 2, none⟩ = some (.int .i64 E.z) := kept_cell k2 (by go_simp)
      have m3 : w2.cell? ⟨w1.heap.size, 3, none⟩ = some (.int .i64 E.d) := kept_cell k2 (by go_simp)
      have hk2 : Kept w w2 := (hk1.alloc _ _).trans k2
      clear k2 rc0 rc1 rc2 rf0 rf1 rf2 hk1
      go_wp2
      refine wp_region_held_drew (S := (fun w' => Kept w w' ∧ w'.cell? ⟨w1.heap.size, 0, none⟩ = some (.int .i64 E.x) ∧ w'.cell? ⟨w1.heap.size, 1, none⟩ = some (.int .i64 E.y) ∧ w'.cell? ⟨w1.heap.size, 2, none⟩ = some (.int .i64 E.z) ∧ w'.cell? ⟨w1.heap.size, 3, none⟩ = some (.int .i64 E.d) ∧ w'.cell? ⟨w.heap.size + 1 + 1, 0, none⟩ = some (cellV w' ⟨w.heap.size + 1 + 1, 0, none⟩) ∧ w'.cell? ⟨w.heap.size + 1 + 1, 1, none⟩ = some (cellV w' ⟨w.heap.size + 1 + 1, 1, none⟩) ∧ w'.cell? ⟨w.heap.size + 1 + 1, 2, none⟩ = some (cellV w' ⟨w.heap.size + 1 + 1, 2, none⟩) ∧ w'.frozen? ⟨w.heap.size + 1 + 1, 0, none⟩ = false ∧ w'.frozen? ⟨w.heap.size + 1 + 1, 1, none⟩ = false ∧ w'.frozen? ⟨w.heap.size + 1 + 1, 2, none⟩ = false)) (by kernel_rfl) ?_ (fun hHeld1 => ?_)
      · (try dsimp only); exact G4o3.drew ⟨hk2, m0, m1, m2, m3, cellV_of c0, cellV_of c1, cellV_of c2, f0, f1, f2⟩
      refine wpAnyH_take (i := 0) (v := ?_) rfl (by kernel_rfl) (by kernel_rfl) (by kernel_rfl) (fun _ _ _ h => h) (Or.inl ⟨by kernel_rfl, ?_⟩) (by assumption) ?_
      rotate_left
      · intro w'' hSw; (try dsimp only at hSw); simp only [zqa, zqb, zqc]; (go_simp <;> with_reducible rfl)
      try simp only [Act.put, zqd, zqe, zqf, zqa, zqb, zqc]
      refine wpAnyH_take (i := 1) (v := ?_) rfl (by kernel_rfl) (by kernel_rfl) (by kernel_rfl) (fun _ _ _ h => h) (Or.inl ⟨by kernel_rfl, ?_⟩) (by assumption) ?_
      rotate_left
      · intro w'' hSw; (try dsimp only at hSw); simp only [zqa, zqb, zqc]; (go_simp <;> with_reducible rfl)
      try simp only [Act.put, zqd, zqe, zqf, zqa, zqb, zqc]
      refine wpAnyH_take (i := 2) (v := ?_) rfl (by kernel_rfl) (by kernel_rfl) (by kernel_rfl) (fun _ _ _ h => h) (Or.inl ⟨by kernel_rfl, ?_⟩) (by assumption) ?_
      rotate_left
      · intro w'' hSw; (try dsimp only at hSw); simp only [zqa, zqb, zqc]; (go_simp <;> with_reducible rfl)
      try simp only [Act.put, zqd, zqe, zqf, zqa, zqb, zqc]
      refine wpAnyH_take (i := 3) (v := ?_) rfl (by kernel_rfl) (by kernel_rfl) (by kernel_rfl) (fun _ _ _ h => h) (Or.inl ⟨by kernel_rfl, ?_⟩) (by assumption) ?_
      rotate_left
      · intro w'' hSw; (try dsimp only at hSw); simp only [zqa, zqb, zqc]; (go_simp <;> with_reducible rfl)
      try simp only [Act.put, zqd, zqe, zqf, zqa, zqb, zqc]
      refine wpAnyH_ready (rs := [4]) (by kernel_rfl) (by simp) ?_
      refine AllReadyH.cons rfl (fun K hK => ?_) AllReadyH.nil
      first | (with_reducible refine iteYes ?hcx ?htx; case hcx => kernel_rfl) | rw [if_pos (by rfl)]
      simp only [zqa, zqb, zqc]
      go_simp
      refine hK.out _ _ ?_ (fun hHeld2 => ?_)
      · (try dsimp only); exact (G4o3.put 2 _ (by omega) (by omega) (G4o3.put 1 _ (by omega) (by omega) (G4o3.put 0 _ (by omega) (by omega) hHeld1)))
      clear hK K
      try simp only [Act.put, zqd, zqe, zqf, zqa, zqb, zqc]
      refine wpAnyH_take (i := 5) (v := ?_) rfl (by kernel_rfl) (by kernel_rfl) (by kernel_rfl) (fun _ _ _ h => h) (Or.inl ⟨by kernel_rfl, ?_⟩) (by assumption) ?_
      rotate_left
      · intro w'' hSw; (try dsimp only at hSw); simp only [zqa, zqb, zqc]; (go_simp <;> with_reducible rfl)
      try simp only [Act.put, zqd, zqe, zqf, zqa, zqb, zqc]
      refine wpAnyH_take (i := 6) (v := ?_) rfl (by kernel_rfl) (by kernel_rfl) (by kernel_rfl) (fun _ _ _ h => h) (Or.inl ⟨by kernel_rfl, ?_⟩) (by assumption) ?_
      rotate_left
      · intro w'' hSw; (try dsimp only at hSw); simp only [zqa, zqb, zqc]; (go_simp <;> with_reducible rfl)
      try simp only [Act.put, zqd, zqe, zqf, zqa, zqb, zqc]
      refine wpAnyH_done (by kernel_rfl) ?_ _
      go_wp2
      have hk := hHeld2.1
      obtain ⟨e0, e1, e2⟩ := set3_of (v0 := .int .i64 (E.x)) (v1 := .int .i64 (E.y)) (v2 := .int .i64 (E.z)) c0 c1 c2
      exact bodyPost_ret (v := .tuple #[.agg #[.int .i64 (E.x), .int .i64 (E.y), .int .i64 (E.z)], .int .i64 (E.d), .bool true]) (by simp [results, Tryz.results54, go_sem, e0, e1, e2]) rfl ⟨by rw [HE.out], hk⟩
end Go.Proofs.YtbfkloclmlnahabGreat
