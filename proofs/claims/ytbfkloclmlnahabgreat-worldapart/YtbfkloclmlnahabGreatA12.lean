/- geom.ballTouches answers what chapter 2 says: whatever the Ball's size, its place and the box. · geom.Touches answers what chapter 2 says: whatever the shapes and the places. -/
import Derived.Test.YtbfkloclmlnahabGreatA11
open List renaming getElem_toArray → zqa, getElem_cons_succ → zqb, getElem_cons_zero → zqc, setIfInBounds_toArray → zqd, set_cons_zero → zqe, set_cons_succ → zqf, getElem?_toArray → zqg, getElem?_cons_succ → zqh, getElem?_cons_zero → zqi
namespace Go.Proofs.YtbfkloclmlnahabGreat
open Go.ChangeShapes Go.WideShapes Go.ChangeAt Go.RowKit
set_option linter.unusedSimpArgs false

def G36xAt (b0 b1 : Nat) (v0 v1 v2 v3 v4 v5 v6 v7 v8 : Value) (w' : World) : Prop :=
  w'.cell? ⟨b0, 0, none⟩ = some v0 ∧
  w'.cell? ⟨b0, 1, none⟩ = some v1 ∧
  w'.cell? ⟨b0, 2, none⟩ = some v2 ∧
  w'.cell? ⟨b1, 0, none⟩ = some v3 ∧
  w'.cell? ⟨b1, 1, none⟩ = some v4 ∧
  w'.cell? ⟨b1, 2, none⟩ = some v5 ∧
  w'.cell? ⟨b1, 3, none⟩ = some v6 ∧
  w'.cell? ⟨b1, 4, none⟩ = some v7 ∧
  w'.cell? ⟨b1, 5, none⟩ = some v8
theorem G36xAt.step {w1 w2 : World} {b0 b1 : Nat} {v0 v1 v2 v3 v4 v5 v6 v7 v8 : Value} (k : Kept w1 w2) (h : G36xAt b0 b1 v0 v1 v2 v3 v4 v5 v6 v7 v8 w1) : G36xAt b0 b1 v0 v1 v2 v3 v4 v5 v6 v7 v8 w2 := by
  obtain ⟨h1, h2, h3, h4, h5, h6, h7, h8, h9⟩ := h
  exact ⟨kept_cell k h1, kept_cell k h2, kept_cell k h3, kept_cell k h4, kept_cell k h5, kept_cell k h6, kept_cell k h7, kept_cell k h8, kept_cell k h9⟩
def gap (p l h : Int) : Int := sub (near p l h) p
def inT (s : Int) (E : Ex) : T := ⟨E.x, E.y, E.z, add E.d s, true⟩
/-- A Ball at p and a box, by the vector from p to the box. -/
def ballV (s v0 v1 v2 : Int) (t : T) : T := if v0 = 0 ∧ v1 = 0 ∧ v2 = 0 then t else reachT s v0 v1 v2
theorem ballV_in {s v0 v1 v2 : Int} {t : T} (h : v0 = 0 ∧ v1 = 0 ∧ v2 = 0) : ballV s v0 v1 v2 t = t := by unfold ballV; rw [if_pos h]
theorem ballV_out {s v0 v1 v2 : Int} {t : T} (h : ¬ (v0 = 0 ∧ v1 = 0 ∧ v2 = 0)) : ballV s v0 v1 v2 t = reachT s v0 v1 v2 := by unfold ballV; rw [if_neg h]
def ballT (s p0 p1 p2 b0 b1 b2 b3 b4 b5 : Int) : T := ballV s (gap p0 b0 b3) (gap p1 b1 b4) (gap p2 b2 b5) (inT s (outE p0 p1 p2 p0 p1 p2 b0 b1 b2 b3 b4 b5))
set_option maxHeartbeats 8000000 in
theorem ballTouches_calls (s p0 p1 p2 b0 b1 b2 b3 b4 b5 : Int) (w : World) :
    Calls Tryz.prog 53 #[.int .i64 s, .agg #[.int .i64 p0, .int .i64 p1, .int .i64 p2], .agg #[.int .i64 b0, .int .i64 b1, .int .i64 b2, .int .i64 b3, .int .i64 b4, .int .i64 b5]] w fun e w' => e = .returned (.tuple #[.agg #[.int .i64 ((ballT s p0 p1 p2 b0 b1 b2 b3 b4 b5).x), .int .i64 ((ballT s p0 p1 p2 b0 b1 b2 b3 b4 b5).y), .int .i64 ((ballT s p0 p1 p2 b0 b1 b2 b3 b4 b5).z)], .int .i64 ((ballT s p0 p1 p2 b0 b1 b2 b3 b4 b5).d), .bool (ballT s p0 p1 p2 b0 b1 b2 b3 b4 b5).ok]) ∧ Kept w w' := by
  go_enter Tryz.func53, Tryz.ntmps53
  go_wp2
  have HA : G36xAt w.heap.size (w.heap.size + 1) (.int .i64 p0) (.int .i64 p1) (.int .i64 p2) (.int .i64 b0) (.int .i64 b1) (.int .i64 b2) (.int .i64 b3) (.int .i64 b4) (.int .i64 b5) (((w.alloc (.cells #[.int .i64 p0, .int .i64 p1, .int .i64 p2] 24)).alloc (.cells #[.int .i64 b0, .int .i64 b1, .int .i64 b2, .int .i64 b3, .int .i64 b4, .int .i64 b5] 89)).alloc (.cells #[.int .i64 0, .int .i64 0, .int .i64 0] 24)) := by
    refine ⟨?_, ?_, ?_, ?_, ?_, ?_, ?_, ?_, ?_⟩ <;> go_simp
  have hkA : Kept w (((w.alloc (.cells #[.int .i64 p0, .int .i64 p1, .int .i64 p2] 24)).alloc (.cells #[.int .i64 b0, .int .i64 b1, .int .i64 b2, .int .i64 b3, .int .i64 b4, .int .i64 b5] 89)).alloc (.cells #[.int .i64 0, .int .i64 0, .int .i64 0] 24)) := (((Kept.refl w).alloc _ _).alloc _ _).alloc _ _
  have RC : ∀ i, i < 3 → (((w.alloc (.cells #[.int .i64 p0, .int .i64 p1, .int .i64 p2] 24)).alloc (.cells #[.int .i64 b0, .int .i64 b1, .int .i64 b2, .int .i64 b3, .int .i64 b4, .int .i64 b5] 89)).alloc (.cells #[.int .i64 0, .int .i64 0, .int .i64 0] 24)).cell? ⟨w.heap.size + 1 + 1, i, none⟩ = some (.int .i64 0) := by
    intro i hi
    obtain rfl | rfl | rfl : i = 0 ∨ i = 1 ∨ i = 2 := by omega
    all_goals go_simp
  have RF : ∀ i, (((w.alloc (.cells #[.int .i64 p0, .int .i64 p1, .int .i64 p2] 24)).alloc (.cells #[.int .i64 b0, .int .i64 b1, .int .i64 b2, .int .i64 b3, .int .i64 b4, .int .i64 b5] 89)).alloc (.cells #[.int .i64 0, .int .i64 0, .int .i64 0] 24)).frozen? ⟨w.heap.size + 1 + 1, i, none⟩ = false := by intro i; go_simp
  generalize (((w.alloc (.cells #[.int .i64 p0, .int .i64 p1, .int .i64 p2] 24)).alloc (.cells #[.int .i64 b0, .int .i64 b1, .int .i64 b2, .int .i64 b3, .int .i64 b4, .int .i64 b5] 89)).alloc (.cells #[.int .i64 0, .int .i64 0, .int .i64 0] 24)) = wA at HA hkA RC RF ⊢
  have RC' : Aside _ := RC
  have RF' : Aside _ := RF
  clear RC RF
  go_cut [9] from 10 (fun s9 wc => ∃ p, s9 = .pointer (some ⟨p, 0, none⟩) ∧ Kept wA wc ∧ wc.cell? ⟨p, 0, none⟩ = some (.int .i64 (gap p0 b0 b3)) ∧ wc.cell? ⟨p, 1, none⟩ = some (.int .i64 (gap p1 b1 b4)) ∧ wc.cell? ⟨p, 2, none⟩ = some (.int .i64 (gap p2 b2 b5)))
  case first =>
    refine wp_region_held_drew (S := (fun w' => Kept wA w' ∧ w'.cell? ⟨w.heap.size, 0, none⟩ = some (.int .i64 p0) ∧ w'.cell? ⟨w.heap.size, 1, none⟩ = some (.int .i64 p1) ∧ w'.cell? ⟨w.heap.size, 2, none⟩ = some (.int .i64 p2) ∧ w'.cell? ⟨w.heap.size + 1, 0, none⟩ = some (.int .i64 b0) ∧ w'.cell? ⟨w.heap.size + 1, 1, none⟩ = some (.int .i64 b1) ∧ w'.cell? ⟨w.heap.size + 1, 2, none⟩ = some (.int .i64 b2) ∧ w'.cell? ⟨w.heap.size + 1, 3, none⟩ = some (.int .i64 b3) ∧ w'.cell? ⟨w.heap.size + 1, 4, none⟩ = some (.int .i64 b4) ∧ w'.cell? ⟨w.heap.size + 1, 5, none⟩ = some (.int .i64 b5))) (by kernel_rfl) ?_ (fun hH0 => ?_)
    · (try dsimp only); exact ⟨(Kept.refl _).drew, HA.step (Kept.refl _).drew⟩
    refine wpAnyH_take (i := 0) (v := ?_) rfl (by kernel_rfl) (by kernel_rfl) (by kernel_rfl) (fun _ _ _ h => h) (Or.inl ⟨by kernel_rfl, ?_⟩) (by assumption) ?_
    rotate_left
    · intro w'' hSw; (try dsimp only at hSw); simp only [zqa, zqb, zqc]; (go_simp <;> with_reducible rfl)
    try simp only [Act.put, zqd, zqe, zqf, zqa, zqb, zqc]
    refine wpAnyH_take (i := 1) (v := ?_) rfl (by kernel_rfl) (by kernel_rfl) (by kernel_rfl) (fun _ _ _ h => h) (Or.inl ⟨by kernel_rfl, ?_⟩) (by assumption) ?_
    rotate_left
    · intro w'' hSw; (try dsimp only at hSw); simp only [zqa, zqb, zqc]; (go_simp <;> with_reducible rfl)
    try simp only [Act.put, zqd, zqe, zqf, zqa, zqb, zqc]
    refine wpAnyH_take (i := 3) (v := ?_) rfl (by kernel_rfl) (by kernel_rfl) (by kernel_rfl) (fun _ _ _ h => h) (Or.inl ⟨by kernel_rfl, ?_⟩) (by assumption) ?_
    rotate_left
    · intro w'' hSw; (try dsimp only at hSw); simp only [zqa, zqb, zqc]; (go_simp <;> with_reducible rfl)
    try simp only [Act.put, zqd, zqe, zqf, zqa, zqb, zqc]
    refine wpAnyH_ready (rs := [2, 5]) (by kernel_rfl) (by simp) ?_
    refine AllReadyH.cons rfl (fun K hK => ?_) (AllReadyH.cons rfl (fun K hK => ?_) AllReadyH.nil)
    · rw [if_pos (by rfl)]
      simp only [zqa, zqb, zqc]
      go_simp
      (go_at_call 81; refine (gnear_calls _ _ _ _ _ _ _ _ _ _).mono ?_; rintro e wc1 ⟨rfl, kc1⟩)
      try go_wp2_with fail
      refine hK.out _ _ ?_ (fun hH1 => ?_)
      · exact ⟨hH0.1.trans kc1, HA.step (hH0.1.trans kc1)⟩
      clear hK K hH0
      try simp only [Act.put, zqd, zqe, zqf, zqa, zqb, zqc]
      refine wpAnyH_ready (rs := [4, 5]) (by kernel_rfl) (by simp) ?_
      refine AllReadyH.cons rfl (fun K hK => ?_) (AllReadyH.cons rfl (fun K hK => ?_) AllReadyH.nil)
      · rw [if_pos (by rfl)]
        simp only [zqa, zqb, zqc]
        go_simp
        (go_at_call 52; refine (minus_calls _ _ _ _ _ _ _).mono ?_; rintro e wc2 ⟨rfl, kc2⟩)
        try go_wp2_with fail
        refine hK.out _ _ ?_ (fun hH2 => ?_)
        · exact ⟨hH1.1.trans kc2, HA.step (hH1.1.trans kc2)⟩
        clear hK K hH1
        try simp only [Act.put, zqd, zqe, zqf, zqa, zqb, zqc]
        refine wpAnyH_ready (rs := [5]) (by kernel_rfl) (by simp) ?_
        refine AllReadyH.cons rfl (fun K hK => ?_) AllReadyH.nil
        rw [if_pos (by rfl)]
        simp only [zqa, zqb, zqc]
        go_simp
        refine hK.out _ _ ?_ (fun hH3 => ?_)
        · exact ⟨hH2.1.alloc _ _, HA.step (hH2.1.alloc _ _)⟩
        have hp : wA.heap.size ≤ wc2.heap.size := Nat.le_trans hH2.1.below.size (Nat.le_of_eq (by simp))
        have hP : Fr3 wA (wc2.heap.size) (wc2.alloc (.cells #[.int .i64 0, .int .i64 0, .int .i64 0] 24)) := by refine ⟨hH2.1.alloc _ _, cellV_of (v := .int .i64 0) ?_, cellV_of (v := .int .i64 0) ?_, cellV_of (v := .int .i64 0) ?_, ?_, ?_, ?_⟩ <;> go_simp
        clear hK K hH2
        try simp only [Act.put, zqd, zqe, zqf, zqa, zqb, zqc]
        generalize (wc2.alloc (.cells #[.int .i64 0, .int .i64 0, .int .i64 0] 24)) = wz4 at hH3 hP ⊢
        have hP0 := hP
        obtain ⟨_, cp0, cp1, cp2, fp0, fp1, fp2⟩ := hP0
        refine wpAnyH_ready (rs := [6]) (by kernel_rfl) (by simp) ?_
        refine AllReadyH.cons rfl (fun K hK => ?_) AllReadyH.nil
        rw [if_pos (by rfl)]
        simp only [zqa, zqb, zqc]
        go_simp
        refine hK.out _ _ ?_ (fun hS1 => ?_)
        · exact ⟨kept_set3 hH3.1 hp _ _ _, HA.step (kept_set3 hH3.1 hp _ _ _)⟩
        clear hK K
        try simp only [Act.put, zqd, zqe, zqf, zqa, zqb, zqc]
        refine wpAnyH_done (by kernel_rfl) ?_ _
        go_wp2_with fail
        go_meet
        case rel =>
          obtain ⟨z0, z1, z2⟩ := set3_of (v0 := .int .i64 (gap p0 b0 b3)) (v1 := .int .i64 (gap p1 b1 b4)) (v2 := .int .i64 (gap p2 b2 b5)) cp0 cp1 cp2
          exact ⟨wc2.heap.size, rfl, hS1.1, z0, z1, z2⟩
      · rw [if_pos (by rfl)]
        simp only [zqa, zqb, zqc]
        go_simp
        refine hK.out _ _ ?_ (fun hH5 => ?_)
        · exact ⟨hH1.1.alloc _ _, HA.step (hH1.1.alloc _ _)⟩
        have hp : wA.heap.size ≤ wc1.heap.size := Nat.le_trans hH1.1.below.size (Nat.le_of_eq (by simp))
        have hP : Fr3 wA (wc1.heap.size) (wc1.alloc (.cells #[.int .i64 0, .int .i64 0, .int .i64 0] 24)) := by refine ⟨hH1.1.alloc _ _, cellV_of (v := .int .i64 0) ?_, cellV_of (v := .int .i64 0) ?_, cellV_of (v := .int .i64 0) ?_, ?_, ?_, ?_⟩ <;> go_simp
        clear hK K hH1
        try simp only [Act.put, zqd, zqe, zqf, zqa, zqb, zqc]
        refine wpAnyH_ready (rs := [4]) (by kernel_rfl) (by simp) ?_
        refine AllReadyH.cons rfl (fun K hK => ?_) AllReadyH.nil
        rw [if_pos (by rfl)]
        simp only [zqa, zqb, zqc]
        go_simp
        (go_at_call 52; refine (minus_calls _ _ _ _ _ _ _).mono ?_; rintro e wc6 ⟨rfl, kc6⟩)
        try go_wp2_with fail
        refine hK.out _ _ ?_ (fun hH6 => ?_)
        · exact ⟨hH5.1.trans kc6, HA.step (hH5.1.trans kc6)⟩
        replace hP := hP.step kc6
        clear hK K hH5
        try simp only [Act.put, zqd, zqe, zqf, zqa, zqb, zqc]
        have hP0 := hP
        obtain ⟨_, cp0, cp1, cp2, fp0, fp1, fp2⟩ := hP0
        refine wpAnyH_ready (rs := [6]) (by kernel_rfl) (by simp) ?_
        refine AllReadyH.cons rfl (fun K hK => ?_) AllReadyH.nil
        rw [if_pos (by rfl)]
        simp only [zqa, zqb, zqc]
        go_simp
        refine hK.out _ _ ?_ (fun hS1 => ?_)
        · exact ⟨kept_set3 hH6.1 hp _ _ _, HA.step (kept_set3 hH6.1 hp _ _ _)⟩
        clear hK K
        try simp only [Act.put, zqd, zqe, zqf, zqa, zqb, zqc]
        refine wpAnyH_done (by kernel_rfl) ?_ _
        go_wp2_with fail
        go_meet
        case rel =>
          obtain ⟨z0, z1, z2⟩ := set3_of (v0 := .int .i64 (gap p0 b0 b3)) (v1 := .int .i64 (gap p1 b1 b4)) (v2 := .int .i64 (gap p2 b2 b5)) cp0 cp1 cp2
          exact ⟨wc1.heap.size, rfl, hS1.1, z0, z1, z2⟩
    · rw [if_pos (by rfl)]
      simp only [zqa, zqb, zqc]
      go_simp
      refine hK.out _ _ ?_ (fun hH7 => ?_)
      · exact ⟨hH0.1.alloc _ _, HA.step (hH0.1.alloc _ _)⟩
      have hp : wA.heap.size ≤ wA.heap.size := Nat.le_trans hH0.1.below.size (Nat.le_of_eq (by simp))
      have hP : Fr3 wA (wA.heap.size) (wA.drew.alloc (.cells #[.int .i64 0, .int .i64 0, .int .i64 0] 24)) := by refine ⟨hH0.1.alloc _ _, cellV_of (v := .int .i64 0) ?_, cellV_of (v := .int .i64 0) ?_, cellV_of (v := .int .i64 0) ?_, ?_, ?_, ?_⟩ <;> go_simp
      clear hK K hH0
      try simp only [Act.put, zqd, zqe, zqf, zqa, zqb, zqc]
      refine wpAnyH_ready (rs := [2]) (by kernel_rfl) (by simp) ?_
      refine AllReadyH.cons rfl (fun K hK => ?_) AllReadyH.nil
      rw [if_pos (by rfl)]
      simp only [zqa, zqb, zqc]
      go_simp
      (go_at_call 81; refine (gnear_calls _ _ _ _ _ _ _ _ _ _).mono ?_; rintro e wc8 ⟨rfl, kc8⟩)
      try go_wp2_with fail
      refine hK.out _ _ ?_ (fun hH8 => ?_)
      · exact ⟨hH7.1.trans kc8, HA.step (hH7.1.trans kc8)⟩
      replace hP := hP.step kc8
      clear hK K hH7
      try simp only [Act.put, zqd, zqe, zqf, zqa, zqb, zqc]
      refine wpAnyH_ready (rs := [4]) (by kernel_rfl) (by simp) ?_
      refine AllReadyH.cons rfl (fun K hK => ?_) AllReadyH.nil
      rw [if_pos (by rfl)]
      simp only [zqa, zqb, zqc]
      go_simp
      (go_at_call 52; refine (minus_calls _ _ _ _ _ _ _).mono ?_; rintro e wc9 ⟨rfl, kc9⟩)
      try go_wp2_with fail
      refine hK.out _ _ ?_ (fun hH9 => ?_)
      · exact ⟨hH8.1.trans kc9, HA.step (hH8.1.trans kc9)⟩
      replace hP := hP.step kc9
      clear hK K hH8
      try simp only [Act.put, zqd, zqe, zqf, zqa, zqb, zqc]
      have hP0 := hP
      obtain ⟨_, cp0, cp1, cp2, fp0, fp1, fp2⟩ := hP0
      refine wpAnyH_ready (rs := [6]) (by kernel_rfl) (by simp) ?_
      refine AllReadyH.cons rfl (fun K hK => ?_) AllReadyH.nil
      rw [if_pos (by rfl)]
      simp only [zqa, zqb, zqc]
      go_simp
      refine hK.out _ _ ?_ (fun hS1 => ?_)
      · exact ⟨kept_set3 hH9.1 hp _ _ _, HA.step (kept_set3 hH9.1 hp _ _ _)⟩
      clear hK K
      try simp only [Act.put, zqd, zqe, zqf, zqa, zqb, zqc]
      refine wpAnyH_done (by kernel_rfl) ?_ _
      go_wp2_with fail
      go_meet
      case rel =>
        obtain ⟨z0, z1, z2⟩ := set3_of (v0 := .int .i64 (gap p0 b0 b3)) (v1 := .int .i64 (gap p1 b1 b4)) (v2 := .int .i64 (gap p2 b2 b5)) cp0 cp1 cp2
        exact ⟨wA.heap.size, rfl, hS1.1, z0, z1, z2⟩
  case rest =>
    obtain ⟨p, rfl, kc, x0, x1, x2⟩ := hcut
    obtain ⟨t0, t1, t2, t3, t4, t5, t6, t7, t8⟩ := HA.step kc
    clear HA
    obtain ⟨tt, HT⟩ : ∃ tt, ballT s p0 p1 p2 b0 b1 b2 b3 b4 b5 = tt := ⟨_, rfl⟩
    have HTT : Aside (ballT s p0 p1 p2 b0 b1 b2 b3 b4 b5 = tt) := HT
    unfold ballT at HT
    generalize gap p0 b0 b3 = v0 at x0 HT
    generalize gap p1 b1 b4 = v1 at x1 HT
    generalize gap p2 b2 b5 = v2 at x2 HT
    cases q0 : (v0 == 0) with
    | false =>
      rw [ballV_out (by simp only [beq_eq_false_iff_ne, ne_eq] at q0; intro hh; exact q0 hh.1)] at HT
      have HT0 : Aside (reachT s v0 v1 v2 = tt) := HT
      clear HT
      go_wp2_with fail
      refine (reaches_calls _ _ _ _ _).mono ?_; rintro e w1 ⟨rfl, k1⟩
      have c0 := kept_cell k1 (kept_cell kc (RC'.out 0 (by omega)))
      have f0 := kept_frozen k1 (kept_frozen kc (RF'.out 0))
      have c1 := kept_cell k1 (kept_cell kc (RC'.out 1 (by omega)))
      have f1 := kept_frozen k1 (kept_frozen kc (RF'.out 1))
      have c2 := kept_cell k1 (kept_cell kc (RC'.out 2 (by omega)))
      have f2 := kept_frozen k1 (kept_frozen kc (RF'.out 2))
      have hk : Kept w w1 := (hkA.trans kc).trans k1
      rw [HT0.out]
      clear k1 x0 x1 x2
      go_wp2
      obtain ⟨e0, e1, e2⟩ := set3_of (v0 := .int .i64 tt.x) (v1 := .int .i64 tt.y) (v2 := .int .i64 tt.z) c0 c1 c2
      exact bodyPost_ret (v := .tuple #[.agg #[.int .i64 (tt.x), .int .i64 (tt.y), .int .i64 (tt.z)], .int .i64 (tt.d), .bool tt.ok]) (by simp [results, Tryz.results53, go_sem, e0, e1, e2]) rfl ⟨by rw [HTT.out], kept_set3 hk (by omega) _ _ _⟩
    | true =>
      cases q1 : (v1 == 0) with
      | false =>
        rw [ballV_out (by simp only [beq_eq_false_iff_ne, ne_eq] at q1; intro hh; exact q1 hh.2.1)] at HT
        have HT0 : Aside (reachT s v0 v1 v2 = tt) := HT
        clear HT
        go_wp2_with fail
        refine (reaches_calls _ _ _ _ _).mono ?_; rintro e w1 ⟨rfl, k1⟩
        have c0 := kept_cell k1 (kept_cell kc (RC'.out 0 (by omega)))
        have f0 := kept_frozen k1 (kept_frozen kc (RF'.out 0))
        have c1 := kept_cell k1 (kept_cell kc (RC'.out 1 (by omega)))
        have f1 := kept_frozen k1 (kept_frozen kc (RF'.out 1))
        have c2 := kept_cell k1 (kept_cell kc (RC'.out 2 (by omega)))
        have f2 := kept_frozen k1 (kept_frozen kc (RF'.out 2))
        have hk : Kept w w1 := (hkA.trans kc).trans k1
        rw [HT0.out]
        clear k1 x0 x1 x2
        go_wp2
        obtain ⟨e0, e1, e2⟩ := set3_of (v0 := .int .i64 tt.x) (v1 := .int .i64 tt.y) (v2 := .int .i64 tt.z) c0 c1 c2
        exact bodyPost_ret (v := .tuple #[.agg #[.int .i64 (tt.x), .int .i64 (tt.y), .int .i64 (tt.z)], .int .i64 (tt.d), .bool tt.ok]) (by simp [results, Tryz.results53, go_sem, e0, e1, e2]) rfl ⟨by rw [HTT.out], kept_set3 hk (by omega) _ _ _⟩
      | true =>
        cases q2 : (v2 == 0) with
        | false =>
          rw [ballV_out (by simp only [beq_eq_false_iff_ne, ne_eq] at q2; intro hh; exact q2 hh.2.2)] at HT
          have HT0 : Aside (reachT s v0 v1 v2 = tt) := HT
          clear HT
          go_wp2_with fail
          refine (reaches_calls _ _ _ _ _).mono ?_; rintro e w1 ⟨rfl, k1⟩
          have c0 := kept_cell k1 (kept_cell kc (RC'.out 0 (by omega)))
          have f0 := kept_frozen k1 (kept_frozen kc (RF'.out 0))
          have c1 := kept_cell k1 (kept_cell kc (RC'.out 1 (by omega)))
          have f1 := kept_frozen k1 (kept_frozen kc (RF'.out 1))
          have c2 := kept_cell k1 (kept_cell kc (RC'.out 2 (by omega)))
          have f2 := kept_frozen k1 (kept_frozen kc (RF'.out 2))
          have hk : Kept w w1 := (hkA.trans kc).trans k1
          rw [HT0.out]
          clear k1 x0 x1 x2
          go_wp2
          obtain ⟨e0, e1, e2⟩ := set3_of (v0 := .int .i64 tt.x) (v1 := .int .i64 tt.y) (v2 := .int .i64 tt.z) c0 c1 c2
          exact bodyPost_ret (v := .tuple #[.agg #[.int .i64 (tt.x), .int .i64 (tt.y), .int .i64 (tt.z)], .int .i64 (tt.d), .bool tt.ok]) (by simp [results, Tryz.results53, go_sem, e0, e1, e2]) rfl ⟨by rw [HTT.out], kept_set3 hk (by omega) _ _ _⟩
        | true =>
          rw [ballV_in ⟨by simpa using q0, by simpa using q1, by simpa using q2⟩] at HT
          have HT0 : Aside (inT s (outE p0 p1 p2 p0 p1 p2 b0 b1 b2 b3 b4 b5) = tt) := HT
          clear HT
          go_wp2_with fail
          refine (out_calls _ _ _ _ _ _ _ _ _ _ _ _ _).mono ?_; rintro e w1 ⟨rfl, k1⟩
          have c0 := later (kept_cell k1 (kept_cell kc (RC'.out 0 (by omega))))
          have f0 := laterF (kept_frozen k1 (kept_frozen kc (RF'.out 0)))
          have c1 := later (kept_cell k1 (kept_cell kc (RC'.out 1 (by omega))))
          have f1 := laterF (kept_frozen k1 (kept_frozen kc (RF'.out 1)))
          have c2 := later (kept_cell k1 (kept_cell kc (RC'.out 2 (by omega))))
          have f2 := laterF (kept_frozen k1 (kept_frozen kc (RF'.out 2)))
          have hk : Kept w w1 := (hkA.trans kc).trans k1
          have hlt : w.heap.size + 1 + 1 < w1.heap.size := World.block_lt_of_cell? _ _ (kept_cell k1 (kept_cell kc (RC'.out 0 (by omega))))
          clear k1 x0 x1 x2 t0 t1 t2 t3 t4 t5 t6 t7 t8 q0 q1 q2
          generalize (outE p0 p1 p2 p0 p1 p2 b0 b1 b2 b3 b4 b5) = E at HT0 ⊢
          go_wp2
          refine wp_region_held_drew (S := (fun w' => Kept w w' ∧ w'.cell? ⟨w1.heap.size, 0, none⟩ = some (.int .i64 E.x) ∧ w'.cell? ⟨w1.heap.size, 1, none⟩ = some (.int .i64 E.y) ∧ w'.cell? ⟨w1.heap.size, 2, none⟩ = some (.int .i64 E.z) ∧ w'.cell? ⟨w1.heap.size, 3, none⟩ = some (.int .i64 E.d) ∧ w'.cell? ⟨w.heap.size + 1 + 1, 0, none⟩ = some (cellV w' ⟨w.heap.size + 1 + 1, 0, none⟩) ∧ w'.cell? ⟨w.heap.size + 1 + 1, 1, none⟩ = some (cellV w' ⟨w.heap.size + 1 + 1, 1, none⟩) ∧ w'.cell? ⟨w.heap.size + 1 + 1, 2, none⟩ = some (cellV w' ⟨w.heap.size + 1 + 1, 2, none⟩) ∧ w'.frozen? ⟨w.heap.size + 1 + 1, 0, none⟩ = false ∧ w'.frozen? ⟨w.heap.size + 1 + 1, 1, none⟩ = false ∧ w'.frozen? ⟨w.heap.size + 1 + 1, 2, none⟩ = false)) (by kernel_rfl) ?_ (fun hHeld1 => ?_)
          · (try dsimp only); exact G4o3.drew ⟨hk.alloc _ _, by go_simp, by go_simp, by go_simp, by go_simp, cellV_of (c0 _), cellV_of (c1 _), cellV_of (c2 _), f0 _ _, f1 _ _, f2 _ _⟩
          refine wpAnyH_take (i := 0) (v := ?_) rfl (by kernel_rfl) (by kernel_rfl) (by kernel_rfl) (fun _ _ _ h => h) (Or.inl ⟨by kernel_rfl, ?_⟩) (by assumption) ?_
          rotate_left
          · intro w'' hSw; (try dsimp only at hSw); simp only [zqa, zqb, zqc]; (go_simp <;> with_reducible rfl)
          try simp only [Act.put, zqd, zqe, zqf, zqa, zqb, zqc]
          refine wpAnyH_take (i := 1) (v := ?_) rfl (by kernel_rfl) (by kernel_rfl) (by kernel_rfl) (fun _ _ _ h => h) (Or.inl ⟨by kernel_rfl, ?_⟩) (by assumption) ?_
          rotate_left
          · intro w'' hSw; (try dsimp only at hSw); simp only [zqa, zqb, zqc]; (go_simp <;> with_reducible rfl)
          try simp only [Act.put, zqd, zqe, zqf, zqa, zqb, zqc]
          refine wpAnyH_take (i := 2) (v := ?_) rfl (by kernel_rfl) (by kernel_rfl) (by kernel_rfl) (fun _ _ _ h => h) (Or.inl ⟨by kernel_rfl, ?_⟩) (by assumption) ?_
          rotate_left
          · intro w'' hSw; (try dsimp only at hSw); simp only [zqa, zqb, zqc]; (go_simp <;> with_reducible rfl)
          try simp only [Act.put, zqd, zqe, zqf, zqa, zqb, zqc]
          refine wpAnyH_take (i := 3) (v := ?_) rfl (by kernel_rfl) (by kernel_rfl) (by kernel_rfl) (fun _ _ _ h => h) (Or.inl ⟨by kernel_rfl, ?_⟩) (by assumption) ?_
          rotate_left
          · intro w'' hSw; (try dsimp only at hSw); simp only [zqa, zqb, zqc]; (go_simp <;> with_reducible rfl)
          try simp only [Act.put, zqd, zqe, zqf, zqa, zqb, zqc]
          refine wpAnyH_take (i := 4) (v := ?_) rfl (by kernel_rfl) (by kernel_rfl) (by kernel_rfl) (fun _ _ _ h => h) (Or.inl ⟨by kernel_rfl, ?_⟩) (by assumption) ?_
          rotate_left
          · intro w'' hSw; (try dsimp only at hSw); simp only [zqa, zqb, zqc]; (go_simp <;> with_reducible rfl)
          try simp only [Act.put, zqd, zqe, zqf, zqa, zqb, zqc]
          refine wpAnyH_ready (rs := [5]) (by kernel_rfl) (by simp) ?_
          refine AllReadyH.cons rfl (fun K hK => ?_) AllReadyH.nil
          first | (with_reducible refine iteYes ?hcx ?htx; case hcx => kernel_rfl) | rw [if_pos (by rfl)]
          simp only [zqa, zqb, zqc]
          go_simp
          (go_at_call 28; refine (add_calls _ _ _).mono ?_; rintro e w2 ⟨rfl, k2⟩)
          try go_wp2_with fail
          refine hK.out _ _ ?_ (fun hHeld2 => ?_)
          · (try dsimp only); exact G4o3.step k2 hHeld1
          clear hK K hHeld1
          try simp only [Act.put, zqd, zqe, zqf, zqa, zqb, zqc]
          refine wpAnyH_ready (rs := [6]) (by kernel_rfl) (by simp) ?_
          refine AllReadyH.cons rfl (fun K hK => ?_) AllReadyH.nil
          first | (with_reducible refine iteYes ?hcx ?htx; case hcx => kernel_rfl) | rw [if_pos (by rfl)]
          simp only [zqa, zqb, zqc]
          go_simp
          refine hK.out _ _ ?_ (fun hHeld3 => ?_)
          · (try dsimp only); exact (G4o3.put 2 _ (by omega) (by omega) (G4o3.put 1 _ (by omega) (by omega) (G4o3.put 0 _ (by omega) (by omega) hHeld2)))
          clear hK K
          try simp only [Act.put, zqd, zqe, zqf, zqa, zqb, zqc]
          refine wpAnyH_take (i := 7) (v := ?_) rfl (by kernel_rfl) (by kernel_rfl) (by kernel_rfl) (fun _ _ _ h => h) (Or.inl ⟨by kernel_rfl, ?_⟩) (by assumption) ?_
          rotate_left
          · intro w'' hSw; (try dsimp only at hSw); simp only [zqa, zqb, zqc]; (go_simp <;> with_reducible rfl)
          try simp only [Act.put, zqd, zqe, zqf, zqa, zqb, zqc]
          refine wpAnyH_take (i := 8) (v := ?_) rfl (by kernel_rfl) (by kernel_rfl) (by kernel_rfl) (fun _ _ _ h => h) (Or.inl ⟨by kernel_rfl, ?_⟩) (by assumption) ?_
          rotate_left
          · intro w'' hSw; (try dsimp only at hSw); simp only [zqa, zqb, zqc]; (go_simp <;> with_reducible rfl)
          try simp only [Act.put, zqd, zqe, zqf, zqa, zqb, zqc]
          refine wpAnyH_done (by kernel_rfl) ?_ _
          go_wp2
          obtain ⟨hk, _, _, _, _, c0, c1, c2, _⟩ := hHeld2
          obtain ⟨e0, e1, e2⟩ := set3_of (v0 := .int .i64 (E.x)) (v1 := .int .i64 (E.y)) (v2 := .int .i64 (E.z)) c0 c1 c2
          exact bodyPost_ret (v := .tuple #[.agg #[.int .i64 (E.x), .int .i64 (E.y), .int .i64 (E.z)], .int .i64 (add E.d s), .bool true]) (by simp [results, Tryz.results53, go_sem, e0, e1, e2]) rfl ⟨by rw [HTT.out, ← HT0.out]; rfl, kept_set3 hk (by omega) _ _ _⟩
end Go.Proofs.YtbfkloclmlnahabGreat

namespace Go.Proofs.YtbfkloclmlnahabGreat
open Go.ChangeShapes Go.WideShapes Go.ChangeAt Go.RowKit
set_option linter.unusedSimpArgs false

def Sh (w : World) (b0 b1 b2 b3 b4 : Nat) (v0 v1 v2 v3 v4 v5 v6 v7 v8 v9 v10 v11 v12 v13 : Value) (w' : World) : Prop :=
  Kept w w' ∧
  w'.cell? ⟨b0, 0, none⟩ = some v0 ∧
  w'.cell? ⟨b0, 1, none⟩ = some v1 ∧
  w'.cell? ⟨b0, 2, none⟩ = some v2 ∧
  w'.cell? ⟨b0, 3, none⟩ = some v3 ∧
  w'.cell? ⟨b1, 0, none⟩ = some v4 ∧
  w'.cell? ⟨b1, 1, none⟩ = some v5 ∧
  w'.cell? ⟨b1, 2, none⟩ = some v6 ∧
  w'.cell? ⟨b2, 0, none⟩ = some v7 ∧
  w'.cell? ⟨b2, 1, none⟩ = some v8 ∧
  w'.cell? ⟨b2, 2, none⟩ = some v9 ∧
  w'.cell? ⟨b2, 3, none⟩ = some v10 ∧
  w'.cell? ⟨b3, 0, none⟩ = some v11 ∧
  w'.cell? ⟨b3, 1, none⟩ = some v12 ∧
  w'.cell? ⟨b3, 2, none⟩ = some v13 ∧
  w'.cell? ⟨b4, 0, none⟩ = some (cellV w' ⟨b4, 0, none⟩) ∧
  w'.cell? ⟨b4, 1, none⟩ = some (cellV w' ⟨b4, 1, none⟩) ∧
  w'.cell? ⟨b4, 2, none⟩ = some (cellV w' ⟨b4, 2, none⟩) ∧
  w'.frozen? ⟨b4, 0, none⟩ = false ∧
  w'.frozen? ⟨b4, 1, none⟩ = false ∧
  w'.frozen? ⟨b4, 2, none⟩ = false
theorem Sh.step {w w1 w2 : World} {b0 b1 b2 b3 b4 : Nat} {v0 v1 v2 v3 v4 v5 v6 v7 v8 v9 v10 v11 v12 v13 : Value} (k : Kept w1 w2) (h : Sh w b0 b1 b2 b3 b4 v0 v1 v2 v3 v4 v5 v6 v7 v8 v9 v10 v11 v12 v13 w1) : Sh w b0 b1 b2 b3 b4 v0 v1 v2 v3 v4 v5 v6 v7 v8 v9 v10 v11 v12 v13 w2 := by
  obtain ⟨h0, h1, h2, h3, h4, h5, h6, h7, h8, h9, h10, h11, h12, h13, h14, h15, h16, h17, h18, h19, h20⟩ := h
  exact ⟨h0.trans k, kept_cell k h1, kept_cell k h2, kept_cell k h3, kept_cell k h4, kept_cell k h5, kept_cell k h6, kept_cell k h7, kept_cell k h8, kept_cell k h9, kept_cell k h10, kept_cell k h11, kept_cell k h12, kept_cell k h13, kept_cell k h14, kept_there k h15, kept_there k h16, kept_there k h17, kept_frozen k h18, kept_frozen k h19, kept_frozen k h20⟩
theorem Sh.drew {w w1 : World} {b0 b1 b2 b3 b4 : Nat} {v0 v1 v2 v3 v4 v5 v6 v7 v8 v9 v10 v11 v12 v13 : Value} (h : Sh w b0 b1 b2 b3 b4 v0 v1 v2 v3 v4 v5 v6 v7 v8 v9 v10 v11 v12 v13 w1) : Sh w b0 b1 b2 b3 b4 v0 v1 v2 v3 v4 v5 v6 v7 v8 v9 v10 v11 v12 v13 w1.drew := h.step (Kept.refl _).drew
theorem Sh.put {w w1 : World} {b0 b1 b2 b3 b4 : Nat} {v0 v1 v2 v3 v4 v5 v6 v7 v8 v9 v10 v11 v12 v13 : Value} (i : Nat) (v : Value) (ho : w.heap.size ≤ b4) (n0 : b0 ≠ b4) (n1 : b1 ≠ b4) (n2 : b2 ≠ b4) (n3 : b3 ≠ b4) (h : Sh w b0 b1 b2 b3 b4 v0 v1 v2 v3 v4 v5 v6 v7 v8 v9 v10 v11 v12 v13 w1) : Sh w b0 b1 b2 b3 b4 v0 v1 v2 v3 v4 v5 v6 v7 v8 v9 v10 v11 v12 v13 (w1.setCell ⟨b4, i, none⟩ v) := by
  obtain ⟨h0, h1, h2, h3, h4, h5, h6, h7, h8, h9, h10, h11, h12, h13, h14, h15, h16, h17, h18, h19, h20⟩ := h
  exact ⟨h0.setCell (p := ⟨b4, i, none⟩) ho v, (World.cell?_setCell_other _ _ _ _ (fun e => n0 (by injection e with e; exact e.symm))).trans h1, (World.cell?_setCell_other _ _ _ _ (fun e => n0 (by injection e with e; exact e.symm))).trans h2, (World.cell?_setCell_other _ _ _ _ (fun e => n0 (by injection e with e; exact e.symm))).trans h3, (World.cell?_setCell_other _ _ _ _ (fun e => n0 (by injection e with e; exact e.symm))).trans h4, (World.cell?_setCell_other _ _ _ _ (fun e => n1 (by injection e with e; exact e.symm))).trans h5, (World.cell?_setCell_other _ _ _ _ (fun e => n1 (by injection e with e; exact e.symm))).trans h6, (World.cell?_setCell_other _ _ _ _ (fun e => n1 (by injection e with e; exact e.symm))).trans h7, (World.cell?_setCell_other _ _ _ _ (fun e => n2 (by injection e with e; exact e.symm))).trans h8, (World.cell?_setCell_other _ _ _ _ (fun e => n2 (by injection e with e; exact e.symm))).trans h9, (World.cell?_setCell_other _ _ _ _ (fun e => n2 (by injection e with e; exact e.symm))).trans h10, (World.cell?_setCell_other _ _ _ _ (fun e => n2 (by injection e with e; exact e.symm))).trans h11, (World.cell?_setCell_other _ _ _ _ (fun e => n3 (by injection e with e; exact e.symm))).trans h12, (World.cell?_setCell_other _ _ _ _ (fun e => n3 (by injection e with e; exact e.symm))).trans h13, (World.cell?_setCell_other _ _ _ _ (fun e => n3 (by injection e with e; exact e.symm))).trans h14, put_there h15, put_there h16, put_there h17, (World.frozen?_setCell _ _ _ _).trans h18, (World.frozen?_setCell _ _ _ _).trans h19, (World.frozen?_setCell _ _ _ _).trans h20⟩

def ShAAt (b0 b1 b2 b3 : Nat) (v0 v1 v2 v3 v4 v5 v6 v7 v8 v9 v10 v11 v12 v13 : Value) (w' : World) : Prop :=
  w'.cell? ⟨b0, 0, none⟩ = some v0 ∧
  w'.cell? ⟨b0, 1, none⟩ = some v1 ∧
  w'.cell? ⟨b0, 2, none⟩ = some v2 ∧
  w'.cell? ⟨b0, 3, none⟩ = some v3 ∧
  w'.cell? ⟨b1, 0, none⟩ = some v4 ∧
  w'.cell? ⟨b1, 1, none⟩ = some v5 ∧
  w'.cell? ⟨b1, 2, none⟩ = some v6 ∧
  w'.cell? ⟨b2, 0, none⟩ = some v7 ∧
  w'.cell? ⟨b2, 1, none⟩ = some v8 ∧
  w'.cell? ⟨b2, 2, none⟩ = some v9 ∧
  w'.cell? ⟨b2, 3, none⟩ = some v10 ∧
  w'.cell? ⟨b3, 0, none⟩ = some v11 ∧
  w'.cell? ⟨b3, 1, none⟩ = some v12 ∧
  w'.cell? ⟨b3, 2, none⟩ = some v13
theorem ShAAt.step {w1 w2 : World} {b0 b1 b2 b3 : Nat} {v0 v1 v2 v3 v4 v5 v6 v7 v8 v9 v10 v11 v12 v13 : Value} (k : Kept w1 w2) (h : ShAAt b0 b1 b2 b3 v0 v1 v2 v3 v4 v5 v6 v7 v8 v9 v10 v11 v12 v13 w1) : ShAAt b0 b1 b2 b3 v0 v1 v2 v3 v4 v5 v6 v7 v8 v9 v10 v11 v12 v13 w2 := by
  obtain ⟨h1, h2, h3, h4, h5, h6, h7, h8, h9, h10, h11, h12, h13, h14⟩ := h
  exact ⟨kept_cell k h1, kept_cell k h2, kept_cell k h3, kept_cell k h4, kept_cell k h5, kept_cell k h6, kept_cell k h7, kept_cell k h8, kept_cell k h9, kept_cell k h10, kept_cell k h11, kept_cell k h12, kept_cell k h13, kept_cell k h14⟩
def turnT (t : T) : T := ⟨sub 0 t.x, sub 0 t.y, sub 0 t.z, t.d, t.ok⟩
def touchT (ka xa ya za p0 p1 p2 kb xb yb zb q0 q1 q2 : Int) : T :=
  if ka = 1 then if kb = 1 then (reachT (add xa xb) (sub q0 p0) (sub q1 p1) (sub q2 p2)) else (ballT xa p0 p1 p2 (sub q0 xb) (sub q1 (hf kb xb yb)) (sub q2 (hf kb xb zb)) (add q0 xb) (add q1 (hf kb xb yb)) (add q2 (hf kb xb zb)))
  else if kb = 1 then turnT (ballT xb q0 q1 q2 (sub p0 xa) (sub p1 (hf ka xa ya)) (sub p2 (hf ka xa za)) (add p0 xa) (add p1 (hf ka xa ya)) (add p2 (hf ka xa za))) else (boxesT (sub p0 xa) (sub p1 (hf ka xa ya)) (sub p2 (hf ka xa za)) (add p0 xa) (add p1 (hf ka xa ya)) (add p2 (hf ka xa za)) (sub q0 xb) (sub q1 (hf kb xb yb)) (sub q2 (hf kb xb zb)) (add q0 xb) (add q1 (hf kb xb yb)) (add q2 (hf kb xb zb)))
theorem touchT_bb {ka xa ya za p0 p1 p2 kb xb yb zb q0 q1 q2 : Int} (h : ka = 1) (h' : kb = 1) : touchT ka xa ya za p0 p1 p2 kb xb yb zb q0 q1 q2 = (reachT (add xa xb) (sub q0 p0) (sub q1 p1) (sub q2 p2)) := by unfold touchT; rw [if_pos h, if_pos h']
theorem touchT_bk {ka xa ya za p0 p1 p2 kb xb yb zb q0 q1 q2 : Int} (h : ka = 1) (h' : ¬ kb = 1) : touchT ka xa ya za p0 p1 p2 kb xb yb zb q0 q1 q2 = (ballT xa p0 p1 p2 (sub q0 xb) (sub q1 (hf kb xb yb)) (sub q2 (hf kb xb zb)) (add q0 xb) (add q1 (hf kb xb yb)) (add q2 (hf kb xb zb))) := by unfold touchT; rw [if_pos h, if_neg h']
theorem touchT_kb {ka xa ya za p0 p1 p2 kb xb yb zb q0 q1 q2 : Int} (h : ¬ ka = 1) (h' : kb = 1) : touchT ka xa ya za p0 p1 p2 kb xb yb zb q0 q1 q2 = turnT (ballT xb q0 q1 q2 (sub p0 xa) (sub p1 (hf ka xa ya)) (sub p2 (hf ka xa za)) (add p0 xa) (add p1 (hf ka xa ya)) (add p2 (hf ka xa za))) := by unfold touchT; rw [if_neg h, if_pos h']
theorem touchT_kk {ka xa ya za p0 p1 p2 kb xb yb zb q0 q1 q2 : Int} (h : ¬ ka = 1) (h' : ¬ kb = 1) : touchT ka xa ya za p0 p1 p2 kb xb yb zb q0 q1 q2 = (boxesT (sub p0 xa) (sub p1 (hf ka xa ya)) (sub p2 (hf ka xa za)) (add p0 xa) (add p1 (hf ka xa ya)) (add p2 (hf ka xa za)) (sub q0 xb) (sub q1 (hf kb xb yb)) (sub q2 (hf kb xb zb)) (add q0 xb) (add q1 (hf kb xb yb)) (add q2 (hf kb xb zb))) := by unfold touchT; rw [if_neg h, if_neg h']
set_option maxHeartbeats 8000000 in
theorem touches_bb (ka xa ya za p0 p1 p2 kb xb yb zb q0 q1 q2 : Int) (w : World) (h : ka = 1) (h' : kb = 1) : Calls Tryz.prog 30 #[.agg #[.int .i64 ka, .int .i64 xa, .int .i64 ya, .int .i64 za], .agg #[.int .i64 p0, .int .i64 p1, .int .i64 p2], .agg #[.int .i64 kb, .int .i64 xb, .int .i64 yb, .int .i64 zb], .agg #[.int .i64 q0, .int .i64 q1, .int .i64 q2]] w fun e w' => e = .returned (.tuple #[.agg #[.int .i64 ((touchT ka xa ya za p0 p1 p2 kb xb yb zb q0 q1 q2).x), .int .i64 ((touchT ka xa ya za p0 p1 p2 kb xb yb zb q0 q1 q2).y), .int .i64 ((touchT ka xa ya za p0 p1 p2 kb xb yb zb q0 q1 q2).z)], .int .i64 ((touchT ka xa ya za p0 p1 p2 kb xb yb zb q0 q1 q2).d), .bool (touchT ka xa ya za p0 p1 p2 kb xb yb zb q0 q1 q2).ok]) ∧ Kept w w' := by
  have hb : (ka == 1) = true := by simp [h]
  have hb' : (kb == 1) = true := by simp [h']
  rw [touchT_bb h h']
  clear h h'
  go_enter Tryz.func30, Tryz.ntmps30
  go_wp2
  refine wp_region_held_drew (S := (fun w' => Kept w w' ∧ w'.cell? ⟨w.heap.size, 0, none⟩ = some (.int .i64 ka) ∧ w'.cell? ⟨w.heap.size, 1, none⟩ = some (.int .i64 xa) ∧ w'.cell? ⟨w.heap.size, 2, none⟩ = some (.int .i64 ya) ∧ w'.cell? ⟨w.heap.size, 3, none⟩ = some (.int .i64 za) ∧ w'.cell? ⟨w.heap.size + 1, 0, none⟩ = some (.int .i64 p0) ∧ w'.cell? ⟨w.heap.size + 1, 1, none⟩ = some (.int .i64 p1) ∧ w'.cell? ⟨w.heap.size + 1, 2, none⟩ = some (.int .i64 p2) ∧ w'.cell? ⟨w.heap.size + 1 + 1, 0, none⟩ = some (.int .i64 kb) ∧ w'.cell? ⟨w.heap.size + 1 + 1, 1, none⟩ = some (.int .i64 xb) ∧ w'.cell? ⟨w.heap.size + 1 + 1, 2, none⟩ = some (.int .i64 yb) ∧ w'.cell? ⟨w.heap.size + 1 + 1, 3, none⟩ = some (.int .i64 zb) ∧ w'.cell? ⟨w.heap.size + 1 + 1 + 1, 0, none⟩ = some (.int .i64 q0) ∧ w'.cell? ⟨w.heap.size + 1 + 1 + 1, 1, none⟩ = some (.int .i64 q1) ∧ w'.cell? ⟨w.heap.size + 1 + 1 + 1, 2, none⟩ = some (.int .i64 q2) ∧ w'.cell? ⟨w.heap.size + 1 + 1 + 1 + 1, 0, none⟩ = some (cellV w' ⟨w.heap.size + 1 + 1 + 1 + 1, 0, none⟩) ∧ w'.cell? ⟨w.heap.size + 1 + 1 + 1 + 1, 1, none⟩ = some (cellV w' ⟨w.heap.size + 1 + 1 + 1 + 1, 1, none⟩) ∧ w'.cell? ⟨w.heap.size + 1 + 1 + 1 + 1, 2, none⟩ = some (cellV w' ⟨w.heap.size + 1 + 1 + 1 + 1, 2, none⟩) ∧ w'.frozen? ⟨w.heap.size + 1 + 1 + 1 + 1, 0, none⟩ = false ∧ w'.frozen? ⟨w.heap.size + 1 + 1 + 1 + 1, 1, none⟩ = false ∧ w'.frozen? ⟨w.heap.size + 1 + 1 + 1 + 1, 2, none⟩ = false)) (by kernel_rfl) ?_ (fun hHeld1 => ?_)
  · (try dsimp only); exact Sh.drew (by refine ⟨(((((Kept.refl w).alloc _ _).alloc _ _).alloc _ _).alloc _ _).alloc _ _, ?_, ?_, ?_, ?_, ?_, ?_, ?_, ?_, ?_, ?_, ?_, ?_, ?_, ?_, cellV_of (v := .int .i64 0) ?_, cellV_of (v := .int .i64 0) ?_, cellV_of (v := .int .i64 0) ?_, ?_, ?_, ?_⟩ <;> go_simp)
  refine wpAnyH_take (i := 0) (v := ?_) rfl (by kernel_rfl) (by kernel_rfl) (by kernel_rfl) (fun _ _ _ h => h) (Or.inl ⟨by kernel_rfl, ?_⟩) (by assumption) ?_
  rotate_left
  · intro w'' hSw; (try dsimp only at hSw); simp only [zqa, zqb, zqc]; (go_simp <;> with_reducible rfl)
  try simp only [Act.put, zqd, zqe, zqf, zqa, zqb, zqc]
  refine wpAnyH_take (i := 1) (v := ?_) rfl (by kernel_rfl) (by kernel_rfl) (by kernel_rfl) (fun _ _ _ h => h) (Or.inl ⟨by kernel_rfl, ?_⟩) (by assumption) ?_
  rotate_left
  · intro w'' hSw; (try dsimp only at hSw); simp only [zqa, zqb, zqc]; (go_simp <;> with_reducible rfl)
  try simp only [Act.put, zqd, zqe, zqf, zqa, zqb, zqc]
  refine wpAnyH_take (i := 2) (v := ?_) rfl (by kernel_rfl) (by kernel_rfl) (by kernel_rfl) (fun _ _ _ h => h) (Or.inl ⟨by kernel_rfl, ?_⟩) (by assumption) ?_
  rotate_left
  · intro w'' hSw; (try dsimp only at hSw); simp only [zqa, zqb, zqc]; (go_simp <;> with_reducible rfl)
  try simp only [Act.put, zqd, zqe, zqf, zqa, zqb, zqc]
  refine wpAnyH_take (i := 3) (v := ?_) rfl (by kernel_rfl) (by kernel_rfl) (by kernel_rfl) (fun _ _ _ h => h) (Or.inl ⟨by kernel_rfl, ?_⟩) (by assumption) ?_
  rotate_left
  · intro w'' hSw; (try dsimp only at hSw); simp only [zqa, zqb, zqc]; (go_simp <;> with_reducible rfl)
  try simp only [Act.put, zqd, zqe, zqf, zqa, zqb, zqc]
  refine wpAnyH_take (i := 4) (v := ?_) rfl (by kernel_rfl) (by kernel_rfl) (by kernel_rfl) (fun _ _ _ h => h) (Or.inl ⟨by kernel_rfl, ?_⟩) (by assumption) ?_
  rotate_left
  · intro w'' hSw; (try dsimp only at hSw); simp only [zqa, zqb, zqc]; (go_simp <;> with_reducible rfl)
  try simp only [Act.put, zqd, zqe, zqf, zqa, zqb, zqc]
  refine wpAnyH_take (i := 5) (v := ?_) rfl (by kernel_rfl) (by kernel_rfl) (by kernel_rfl) (fun _ _ _ h => h) (Or.inl ⟨by kernel_rfl, ?_⟩) (by assumption) ?_
  rotate_left
  · intro w'' hSw; (try dsimp only at hSw); simp only [zqa, zqb, zqc]; (go_simp <;> with_reducible rfl)
  try simp only [Act.put, zqd, zqe, zqf, zqa, zqb, zqc]
  refine wpAnyH_take (i := 7) (v := ?_) rfl (by kernel_rfl) (by kernel_rfl) (by kernel_rfl) (fun _ _ _ h => h) (Or.inl ⟨by kernel_rfl, ?_⟩) (by assumption) ?_
  rotate_left
  · intro w'' hSw; (try dsimp only at hSw); simp only [zqa, zqb, zqc]; (go_simp <;> with_reducible rfl)
  try simp only [Act.put, zqd, zqe, zqf, zqa, zqb, zqc]
  refine wpAnyH_take (i := 8) (v := ?_) rfl (by kernel_rfl) (by kernel_rfl) (by kernel_rfl) (fun _ _ _ h => h) (Or.inl ⟨by kernel_rfl, ?_⟩) (by assumption) ?_
  rotate_left
  · intro w'' hSw; (try dsimp only at hSw); simp only [zqa, zqb, zqc]; (go_simp <;> with_reducible rfl)
  try simp only [Act.put, zqd, zqe, zqf, zqa, zqb, zqc]
  refine wpAnyH_ready (rs := [6]) (by kernel_rfl) (by simp) ?_
  refine AllReadyH.cons rfl (fun K hK => ?_) AllReadyH.nil
  first | (with_reducible refine iteYes ?hcx ?htx; case hcx => kernel_rfl) | rw [if_pos (by rfl)]
  simp only [zqa, zqb, zqc]
  go_simp
  (go_at_call 28; refine (add_calls _ _ _).mono ?_; rintro e w1 ⟨rfl, k1⟩)
  try go_wp2_with fail
  refine hK.out _ _ ?_ (fun hHeld2 => ?_)
  · (try dsimp only); exact Sh.step k1 hHeld1
  clear hK K hHeld1
  try simp only [Act.put, zqd, zqe, zqf, zqa, zqb, zqc]
  refine wpAnyH_ready (rs := [9]) (by kernel_rfl) (by simp) ?_
  refine AllReadyH.cons rfl (fun K hK => ?_) AllReadyH.nil
  first | (with_reducible refine iteYes ?hcx ?htx; case hcx => kernel_rfl) | rw [if_pos (by rfl)]
  simp only [zqa, zqb, zqc]
  go_simp
  (go_at_call 52; refine (minus_calls _ _ _ _ _ _ _).mono ?_; rintro e w2 ⟨rfl, k2⟩)
  try go_wp2_with fail
  refine hK.out _ _ ?_ (fun hHeld3 => ?_)
  · (try dsimp only); exact Sh.step k2 hHeld2
  clear hK K hHeld2
  try simp only [Act.put, zqd, zqe, zqf, zqa, zqb, zqc]
  refine wpAnyH_ready (rs := [10]) (by kernel_rfl) (by simp) ?_
  refine AllReadyH.cons rfl (fun K hK => ?_) AllReadyH.nil
  first | (with_reducible refine iteYes ?hcx ?htx; case hcx => kernel_rfl) | rw [if_pos (by rfl)]
  simp only [zqa, zqb, zqc]
  go_simp
  (go_at_call 51; refine (reaches_calls _ _ _ _ _).mono ?_; rintro e w3 ⟨rfl, k3⟩)
  try go_wp2_with fail
  refine hK.out _ _ ?_ (fun hHeld4 => ?_)
  · (try dsimp only); exact Sh.step k3 hHeld3
  clear hK K hHeld3
  try simp only [Act.put, zqd, zqe, zqf, zqa, zqb, zqc]
  refine wpAnyH_take (i := 11) (v := ?_) rfl (by kernel_rfl) (by kernel_rfl) (by kernel_rfl) (fun _ _ _ h => h) (Or.inl ⟨by kernel_rfl, ?_⟩) (by assumption) ?_
  rotate_left
  · intro w'' hSw; (try dsimp only at hSw); simp only [zqa, zqb, zqc]; (go_simp <;> with_reducible rfl)
  try simp only [Act.put, zqd, zqe, zqf, zqa, zqb, zqc]
  refine wpAnyH_take (i := 12) (v := ?_) rfl (by kernel_rfl) (by kernel_rfl) (by kernel_rfl) (fun _ _ _ h => h) (Or.inl ⟨by kernel_rfl, ?_⟩) (by assumption) ?_
  rotate_left
  · intro w'' hSw; (try dsimp only at hSw); simp only [zqa, zqb, zqc]; (go_simp <;> with_reducible rfl)
  try simp only [Act.put, zqd, zqe, zqf, zqa, zqb, zqc]
  refine wpAnyH_take (i := 13) (v := ?_) rfl (by kernel_rfl) (by kernel_rfl) (by kernel_rfl) (fun _ _ _ h => h) (Or.inl ⟨by kernel_rfl, ?_⟩) (by assumption) ?_
  rotate_left
  · intro w'' hSw; (try dsimp only at hSw); simp only [zqa, zqb, zqc]; (go_simp <;> with_reducible rfl)
  try simp only [Act.put, zqd, zqe, zqf, zqa, zqb, zqc]
  refine wpAnyH_ready (rs := [14]) (by kernel_rfl) (by simp) ?_
  refine AllReadyH.cons rfl (fun K hK => ?_) AllReadyH.nil
  first | (with_reducible refine iteYes ?hcx ?htx; case hcx => kernel_rfl) | rw [if_pos (by rfl)]
  simp only [zqa, zqb, zqc]
  go_simp
  refine hK.out _ _ ?_ (fun hHeld5 => ?_)
  · (try dsimp only); exact (Sh.put 2 _ (by omega) (by omega) (by omega) (by omega) (by omega) (Sh.put 1 _ (by omega) (by omega) (by omega) (by omega) (by omega) (Sh.put 0 _ (by omega) (by omega) (by omega) (by omega) (by omega) hHeld4)))
  clear hK K
  try simp only [Act.put, zqd, zqe, zqf, zqa, zqb, zqc]
  refine wpAnyH_take (i := 15) (v := ?_) rfl (by kernel_rfl) (by kernel_rfl) (by kernel_rfl) (fun _ _ _ h => h) (Or.inl ⟨by kernel_rfl, ?_⟩) (by assumption) ?_
  rotate_left
  · intro w'' hSw; (try dsimp only at hSw); simp only [zqa, zqb, zqc]; (go_simp <;> with_reducible rfl)
  try simp only [Act.put, zqd, zqe, zqf, zqa, zqb, zqc]
  refine wpAnyH_take (i := 16) (v := ?_) rfl (by kernel_rfl) (by kernel_rfl) (by kernel_rfl) (fun _ _ _ h => h) (Or.inl ⟨by kernel_rfl, ?_⟩) (by assumption) ?_
  rotate_left
  · intro w'' hSw; (try dsimp only at hSw); simp only [zqa, zqb, zqc]; (go_simp <;> with_reducible rfl)
  try simp only [Act.put, zqd, zqe, zqf, zqa, zqb, zqc]
  refine wpAnyH_done (by kernel_rfl) ?_ _
  go_wp2
  obtain ⟨hk, _, _, _, _, _, _, _, _, _, _, _, _, _, _, c0, c1, c2, _⟩ := hHeld4
  obtain ⟨e0, e1, e2⟩ := set3_of (v0 := .int .i64 ((reachT (add xa xb) (sub q0 p0) (sub q1 p1) (sub q2 p2)).x)) (v1 := .int .i64 ((reachT (add xa xb) (sub q0 p0) (sub q1 p1) (sub q2 p2)).y)) (v2 := .int .i64 ((reachT (add xa xb) (sub q0 p0) (sub q1 p1) (sub q2 p2)).z)) c0 c1 c2
  exact bodyPost_ret (v := .tuple #[.agg #[.int .i64 ((reachT (add xa xb) (sub q0 p0) (sub q1 p1) (sub q2 p2)).x), .int .i64 ((reachT (add xa xb) (sub q0 p0) (sub q1 p1) (sub q2 p2)).y), .int .i64 ((reachT (add xa xb) (sub q0 p0) (sub q1 p1) (sub q2 p2)).z)], .int .i64 ((reachT (add xa xb) (sub q0 p0) (sub q1 p1) (sub q2 p2)).d), .bool (reachT (add xa xb) (sub q0 p0) (sub q1 p1) (sub q2 p2)).ok]) (by simp [results, Tryz.results30, go_sem, e0, e1, e2]) rfl ⟨rfl, kept_set3 hk (by omega) _ _ _⟩
set_option maxHeartbeats 8000000 in
theorem touches_bk (ka xa ya za p0 p1 p2 kb xb yb zb q0 q1 q2 : Int) (w : World) (h : ka = 1) (h' : ¬ kb = 1) : Calls Tryz.prog 30 #[.agg #[.int .i64 ka, .int .i64 xa, .int .i64 ya, .int .i64 za], .agg #[.int .i64 p0, .int .i64 p1, .int .i64 p2], .agg #[.int .i64 kb, .int .i64 xb, .int .i64 yb, .int .i64 zb], .agg #[.int .i64 q0, .int .i64 q1, .int .i64 q2]] w fun e w' => e = .returned (.tuple #[.agg #[.int .i64 ((touchT ka xa ya za p0 p1 p2 kb xb yb zb q0 q1 q2).x), .int .i64 ((touchT ka xa ya za p0 p1 p2 kb xb yb zb q0 q1 q2).y), .int .i64 ((touchT ka xa ya za p0 p1 p2 kb xb yb zb q0 q1 q2).z)], .int .i64 ((touchT ka xa ya za p0 p1 p2 kb xb yb zb q0 q1 q2).d), .bool (touchT ka xa ya za p0 p1 p2 kb xb yb zb q0 q1 q2).ok]) ∧ Kept w w' := by
  have hb : (ka == 1) = true := by simp [h]
  have hb' : (kb == 1) = false := by simp [h']
  rw [touchT_bk h h']
  clear h h'
  go_enter Tryz.func30, Tryz.ntmps30
  go_wp2
  refine wp_region_held_drew (S := (fun w' => Kept w w' ∧ w'.cell? ⟨w.heap.size, 0, none⟩ = some (.int .i64 ka) ∧ w'.cell? ⟨w.heap.size, 1, none⟩ = some (.int .i64 xa) ∧ w'.cell? ⟨w.heap.size, 2, none⟩ = some (.int .i64 ya) ∧ w'.cell? ⟨w.heap.size, 3, none⟩ = some (.int .i64 za) ∧ w'.cell? ⟨w.heap.size + 1, 0, none⟩ = some (.int .i64 p0) ∧ w'.cell? ⟨w.heap.size + 1, 1, none⟩ = some (.int .i64 p1) ∧ w'.cell? ⟨w.heap.size + 1, 2, none⟩ = some (.int .i64 p2) ∧ w'.cell? ⟨w.heap.size + 1 + 1, 0, none⟩ = some (.int .i64 kb) ∧ w'.cell? ⟨w.heap.size + 1 + 1, 1, none⟩ = some (.int .i64 xb) ∧ w'.cell? ⟨w.heap.size + 1 + 1, 2, none⟩ = some (.int .i64 yb) ∧ w'.cell? ⟨w.heap.size + 1 + 1, 3, none⟩ = some (.int .i64 zb) ∧ w'.cell? ⟨w.heap.size + 1 + 1 + 1, 0, none⟩ = some (.int .i64 q0) ∧ w'.cell? ⟨w.heap.size + 1 + 1 + 1, 1, none⟩ = some (.int .i64 q1) ∧ w'.cell? ⟨w.heap.size + 1 + 1 + 1, 2, none⟩ = some (.int .i64 q2) ∧ w'.cell? ⟨w.heap.size + 1 + 1 + 1 + 1, 0, none⟩ = some (cellV w' ⟨w.heap.size + 1 + 1 + 1 + 1, 0, none⟩) ∧ w'.cell? ⟨w.heap.size + 1 + 1 + 1 + 1, 1, none⟩ = some (cellV w' ⟨w.heap.size + 1 + 1 + 1 + 1, 1, none⟩) ∧ w'.cell? ⟨w.heap.size + 1 + 1 + 1 + 1, 2, none⟩ = some (cellV w' ⟨w.heap.size + 1 + 1 + 1 + 1, 2, none⟩) ∧ w'.frozen? ⟨w.heap.size + 1 + 1 + 1 + 1, 0, none⟩ = false ∧ w'.frozen? ⟨w.heap.size + 1 + 1 + 1 + 1, 1, none⟩ = false ∧ w'.frozen? ⟨w.heap.size + 1 + 1 + 1 + 1, 2, none⟩ = false)) (by kernel_rfl) ?_ (fun hHeld1 => ?_)
  · (try dsimp only); exact Sh.drew (by refine ⟨(((((Kept.refl w).alloc _ _).alloc _ _).alloc _ _).alloc _ _).alloc _ _, ?_, ?_, ?_, ?_, ?_, ?_, ?_, ?_, ?_, ?_, ?_, ?_, ?_, ?_, cellV_of (v := .int .i64 0) ?_, cellV_of (v := .int .i64 0) ?_, cellV_of (v := .int .i64 0) ?_, ?_, ?_, ?_⟩ <;> go_simp)
  refine wpAnyH_take (i := 0) (v := ?_) rfl (by kernel_rfl) (by kernel_rfl) (by kernel_rfl) (fun _ _ _ h => h) (Or.inl ⟨by kernel_rfl, ?_⟩) (by assumption) ?_
  rotate_left
  · intro w'' hSw; (try dsimp only at hSw); simp only [zqa, zqb, zqc]; (go_simp <;> with_reducible rfl)
  try simp only [Act.put, zqd, zqe, zqf, zqa, zqb, zqc]
  refine wpAnyH_take (i := 1) (v := ?_) rfl (by kernel_rfl) (by kernel_rfl) (by kernel_rfl) (fun _ _ _ h => h) (Or.inl ⟨by kernel_rfl, ?_⟩) (by assumption) ?_
  rotate_left
  · intro w'' hSw; (try dsimp only at hSw); simp only [zqa, zqb, zqc]; (go_simp <;> with_reducible rfl)
  try simp only [Act.put, zqd, zqe, zqf, zqa, zqb, zqc]
  refine wpAnyH_take (i := 2) (v := ?_) rfl (by kernel_rfl) (by kernel_rfl) (by kernel_rfl) (fun _ _ _ h => h) (Or.inl ⟨by kernel_rfl, ?_⟩) (by assumption) ?_
  rotate_left
  · intro w'' hSw; (try dsimp only at hSw); simp only [zqa, zqb, zqc]; (go_simp <;> with_reducible rfl)
  try simp only [Act.put, zqd, zqe, zqf, zqa, zqb, zqc]
  refine wpAnyH_take (i := 3) (v := ?_) rfl (by kernel_rfl) (by kernel_rfl) (by kernel_rfl) (fun _ _ _ h => h) (Or.inl ⟨by kernel_rfl, ?_⟩) (by assumption) ?_
  rotate_left
  · intro w'' hSw; (try dsimp only at hSw); simp only [zqa, zqb, zqc]; (go_simp <;> with_reducible rfl)
  try simp only [Act.put, zqd, zqe, zqf, zqa, zqb, zqc]
  refine wpAnyH_take (i := 4) (v := ?_) rfl (by kernel_rfl) (by kernel_rfl) (by kernel_rfl) (fun _ _ _ h => h) (Or.inl ⟨by kernel_rfl, ?_⟩) (by assumption) ?_
  rotate_left
  · intro w'' hSw; (try dsimp only at hSw); simp only [zqa, zqb, zqc]; (go_simp <;> with_reducible rfl)
  try simp only [Act.put, zqd, zqe, zqf, zqa, zqb, zqc]
  refine wpAnyH_take (i := 5) (v := ?_) rfl (by kernel_rfl) (by kernel_rfl) (by kernel_rfl) (fun _ _ _ h => h) (Or.inl ⟨by kernel_rfl, ?_⟩) (by assumption) ?_
  rotate_left
  · intro w'' hSw; (try dsimp only at hSw); simp only [zqa, zqb, zqc]; (go_simp <;> with_reducible rfl)
  try simp only [Act.put, zqd, zqe, zqf, zqa, zqb, zqc]
  refine wpAnyH_ready (rs := [6]) (by kernel_rfl) (by simp) ?_
  refine AllReadyH.cons rfl (fun K hK => ?_) AllReadyH.nil
  first | (with_reducible refine iteYes ?hcx ?htx; case hcx => kernel_rfl) | rw [if_pos (by rfl)]
  simp only [zqa, zqb, zqc]
  go_simp
  (go_at_call 43; refine (gAround_calls _ _ _ _ _ _ _ _).mono ?_; rintro e w1 ⟨rfl, k1⟩)
  try go_wp2_with fail
  refine hK.out _ _ ?_ (fun hHeld2 => ?_)
  · (try dsimp only); exact Sh.step k1 hHeld1
  clear hK K hHeld1
  try simp only [Act.put, zqd, zqe, zqf, zqa, zqb, zqc]
  refine wpAnyH_ready (rs := [7]) (by kernel_rfl) (by simp) ?_
  refine AllReadyH.cons rfl (fun K hK => ?_) AllReadyH.nil
  first | (with_reducible refine iteYes ?hcx ?htx; case hcx => kernel_rfl) | rw [if_pos (by rfl)]
  simp only [zqa, zqb, zqc]
  go_simp
  (go_at_call 53; refine (ballTouches_calls _ _ _ _ _ _ _ _ _ _ _).mono ?_; rintro e w2 ⟨rfl, k2⟩)
  try go_wp2_with fail
  refine hK.out _ _ ?_ (fun hHeld3 => ?_)
  · (try dsimp only); exact Sh.step k2 hHeld2
  clear hK K hHeld2
  try simp only [Act.put, zqd, zqe, zqf, zqa, zqb, zqc]
  refine wpAnyH_take (i := 8) (v := ?_) rfl (by kernel_rfl) (by kernel_rfl) (by kernel_rfl) (fun _ _ _ h => h) (Or.inl ⟨by kernel_rfl, ?_⟩) (by assumption) ?_
  rotate_left
  · intro w'' hSw; (try dsimp only at hSw); simp only [zqa, zqb, zqc]; (go_simp <;> with_reducible rfl)
  try simp only [Act.put, zqd, zqe, zqf, zqa, zqb, zqc]
  refine wpAnyH_take (i := 9) (v := ?_) rfl (by kernel_rfl) (by kernel_rfl) (by kernel_rfl) (fun _ _ _ h => h) (Or.inl ⟨by kernel_rfl, ?_⟩) (by assumption) ?_
  rotate_left
  · intro w'' hSw; (try dsimp only at hSw); simp only [zqa, zqb, zqc]; (go_simp <;> with_reducible rfl)
  try simp only [Act.put, zqd, zqe, zqf, zqa, zqb, zqc]
  refine wpAnyH_take (i := 10) (v := ?_) rfl (by kernel_rfl) (by kernel_rfl) (by kernel_rfl) (fun _ _ _ h => h) (Or.inl ⟨by kernel_rfl, ?_⟩) (by assumption) ?_
  rotate_left
  · intro w'' hSw; (try dsimp only at hSw); simp only [zqa, zqb, zqc]; (go_simp <;> with_reducible rfl)
  try simp only [Act.put, zqd, zqe, zqf, zqa, zqb, zqc]
  refine wpAnyH_ready (rs := [11]) (by kernel_rfl) (by simp) ?_
  refine AllReadyH.cons rfl (fun K hK => ?_) AllReadyH.nil
  first | (with_reducible refine iteYes ?hcx ?htx; case hcx => kernel_rfl) | rw [if_pos (by rfl)]
  simp only [zqa, zqb, zqc]
  go_simp
  refine hK.out _ _ ?_ (fun hHeld4 => ?_)
  · (try dsimp only); exact (Sh.put 2 _ (by omega) (by omega) (by omega) (by omega) (by omega) (Sh.put 1 _ (by omega) (by omega) (by omega) (by omega) (by omega) (Sh.put 0 _ (by omega) (by omega) (by omega) (by omega) (by omega) hHeld3)))
  clear hK K
  try simp only [Act.put, zqd, zqe, zqf, zqa, zqb, zqc]
  refine wpAnyH_take (i := 12) (v := ?_) rfl (by kernel_rfl) (by kernel_rfl) (by kernel_rfl) (fun _ _ _ h => h) (Or.inl ⟨by kernel_rfl, ?_⟩) (by assumption) ?_
  rotate_left
  · intro w'' hSw; (try dsimp only at hSw); simp only [zqa, zqb, zqc]; (go_simp <;> with_reducible rfl)
  try simp only [Act.put, zqd, zqe, zqf, zqa, zqb, zqc]
  refine wpAnyH_take (i := 13) (v := ?_) rfl (by kernel_rfl) (by kernel_rfl) (by kernel_rfl) (fun _ _ _ h => h) (Or.inl ⟨by kernel_rfl, ?_⟩) (by assumption) ?_
  rotate_left
  · intro w'' hSw; (try dsimp only at hSw); simp only [zqa, zqb, zqc]; (go_simp <;> with_reducible rfl)
  try simp only [Act.put, zqd, zqe, zqf, zqa, zqb, zqc]
  refine wpAnyH_done (by kernel_rfl) ?_ _
  go_wp2
  obtain ⟨hk, _, _, _, _, _, _, _, _, _, _, _, _, _, _, c0, c1, c2, _⟩ := hHeld3
  obtain ⟨e0, e1, e2⟩ := set3_of (v0 := .int .i64 ((ballT xa p0 p1 p2 (sub q0 xb) (sub q1 (hf kb xb yb)) (sub q2 (hf kb xb zb)) (add q0 xb) (add q1 (hf kb xb yb)) (add q2 (hf kb xb zb))).x)) (v1 := .int .i64 ((ballT xa p0 p1 p2 (sub q0 xb) (sub q1 (hf kb xb yb)) (sub q2 (hf kb xb zb)) (add q0 xb) (add q1 (hf kb xb yb)) (add q2 (hf kb xb zb))).y)) (v2 := .int .i64 ((ballT xa p0 p1 p2 (sub q0 xb) (sub q1 (hf kb xb yb)) (sub q2 (hf kb xb zb)) (add q0 xb) (add q1 (hf kb xb yb)) (add q2 (hf kb xb zb))).z)) c0 c1 c2
  exact bodyPost_ret (v := .tuple #[.agg #[.int .i64 ((ballT xa p0 p1 p2 (sub q0 xb) (sub q1 (hf kb xb yb)) (sub q2 (hf kb xb zb)) (add q0 xb) (add q1 (hf kb xb yb)) (add q2 (hf kb xb zb))).x), .int .i64 ((ballT xa p0 p1 p2 (sub q0 xb) (sub q1 (hf kb xb yb)) (sub q2 (hf kb xb zb)) (add q0 xb) (add q1 (hf kb xb yb)) (add q2 (hf kb xb zb))).y), .int .i64 ((ballT xa p0 p1 p2 (sub q0 xb) (sub q1 (hf kb xb yb)) (sub q2 (hf kb xb zb)) (add q0 xb) (add q1 (hf kb xb yb)) (add q2 (hf kb xb zb))).z)], .int .i64 ((ballT xa p0 p1 p2 (sub q0 xb) (sub q1 (hf kb xb yb)) (sub q2 (hf kb xb zb)) (add q0 xb) (add q1 (hf kb xb yb)) (add q2 (hf kb xb zb))).d), .bool (ballT xa p0 p1 p2 (sub q0 xb) (sub q1 (hf kb xb yb)) (sub q2 (hf kb xb zb)) (add q0 xb) (add q1 (hf kb xb yb)) (add q2 (hf kb xb zb))).ok]) (by simp [results, Tryz.results30, go_sem, e0, e1, e2]) rfl ⟨rfl, kept_set3 hk (by omega) _ _ _⟩
set_option maxHeartbeats 8000000 in
theorem touches_kk (ka xa ya za p0 p1 p2 kb xb yb zb q0 q1 q2 : Int) (w : World) (h : ¬ ka = 1) (h' : ¬ kb = 1) : Calls Tryz.prog 30 #[.agg #[.int .i64 ka, .int .i64 xa, .int .i64 ya, .int .i64 za], .agg #[.int .i64 p0, .int .i64 p1, .int .i64 p2], .agg #[.int .i64 kb, .int .i64 xb, .int .i64 yb, .int .i64 zb], .agg #[.int .i64 q0, .int .i64 q1, .int .i64 q2]] w fun e w' => e = .returned (.tuple #[.agg #[.int .i64 ((touchT ka xa ya za p0 p1 p2 kb xb yb zb q0 q1 q2).x), .int .i64 ((touchT ka xa ya za p0 p1 p2 kb xb yb zb q0 q1 q2).y), .int .i64 ((touchT ka xa ya za p0 p1 p2 kb xb yb zb q0 q1 q2).z)], .int .i64 ((touchT ka xa ya za p0 p1 p2 kb xb yb zb q0 q1 q2).d), .bool (touchT ka xa ya za p0 p1 p2 kb xb yb zb q0 q1 q2).ok]) ∧ Kept w w' := by
  have hb : (ka == 1) = false := by simp [h]
  have hb' : (kb == 1) = false := by simp [h']
  rw [touchT_kk h h']
  clear h h'
  go_enter Tryz.func30, Tryz.ntmps30
  go_wp2
  refine wp_region_held_drew (S := (fun w' => Kept w w' ∧ w'.cell? ⟨w.heap.size, 0, none⟩ = some (.int .i64 ka) ∧ w'.cell? ⟨w.heap.size, 1, none⟩ = some (.int .i64 xa) ∧ w'.cell? ⟨w.heap.size, 2, none⟩ = some (.int .i64 ya) ∧ w'.cell? ⟨w.heap.size, 3, none⟩ = some (.int .i64 za) ∧ w'.cell? ⟨w.heap.size + 1, 0, none⟩ = some (.int .i64 p0) ∧ w'.cell? ⟨w.heap.size + 1, 1, none⟩ = some (.int .i64 p1) ∧ w'.cell? ⟨w.heap.size + 1, 2, none⟩ = some (.int .i64 p2) ∧ w'.cell? ⟨w.heap.size + 1 + 1, 0, none⟩ = some (.int .i64 kb) ∧ w'.cell? ⟨w.heap.size + 1 + 1, 1, none⟩ = some (.int .i64 xb) ∧ w'.cell? ⟨w.heap.size + 1 + 1, 2, none⟩ = some (.int .i64 yb) ∧ w'.cell? ⟨w.heap.size + 1 + 1, 3, none⟩ = some (.int .i64 zb) ∧ w'.cell? ⟨w.heap.size + 1 + 1 + 1, 0, none⟩ = some (.int .i64 q0) ∧ w'.cell? ⟨w.heap.size + 1 + 1 + 1, 1, none⟩ = some (.int .i64 q1) ∧ w'.cell? ⟨w.heap.size + 1 + 1 + 1, 2, none⟩ = some (.int .i64 q2) ∧ w'.cell? ⟨w.heap.size + 1 + 1 + 1 + 1, 0, none⟩ = some (cellV w' ⟨w.heap.size + 1 + 1 + 1 + 1, 0, none⟩) ∧ w'.cell? ⟨w.heap.size + 1 + 1 + 1 + 1, 1, none⟩ = some (cellV w' ⟨w.heap.size + 1 + 1 + 1 + 1, 1, none⟩) ∧ w'.cell? ⟨w.heap.size + 1 + 1 + 1 + 1, 2, none⟩ = some (cellV w' ⟨w.heap.size + 1 + 1 + 1 + 1, 2, none⟩) ∧ w'.frozen? ⟨w.heap.size + 1 + 1 + 1 + 1, 0, none⟩ = false ∧ w'.frozen? ⟨w.heap.size + 1 + 1 + 1 + 1, 1, none⟩ = false ∧ w'.frozen? ⟨w.heap.size + 1 + 1 + 1 + 1, 2, none⟩ = false)) (by kernel_rfl) ?_ (fun hHeld1 => ?_)
  · (try dsimp only); exact Sh.drew (by refine ⟨(((((Kept.refl w).alloc _ _).alloc _ _).alloc _ _).alloc _ _).alloc _ _, ?_, ?_, ?_, ?_, ?_, ?_, ?_, ?_, ?_, ?_, ?_, ?_, ?_, ?_, cellV_of (v := .int .i64 0) ?_, cellV_of (v := .int .i64 0) ?_, cellV_of (v := .int .i64 0) ?_, ?_, ?_, ?_⟩ <;> go_simp)
  refine wpAnyH_take (i := 0) (v := ?_) rfl (by kernel_rfl) (by kernel_rfl) (by kernel_rfl) (fun _ _ _ h => h) (Or.inl ⟨by kernel_rfl, ?_⟩) (by assumption) ?_
  rotate_left
  · intro w'' hSw; (try dsimp only at hSw); simp only [zqa, zqb, zqc]; (go_simp <;> with_reducible rfl)
  try simp only [Act.put, zqd, zqe, zqf, zqa, zqb, zqc]
  refine wpAnyH_take (i := 1) (v := ?_) rfl (by kernel_rfl) (by kernel_rfl) (by kernel_rfl) (fun _ _ _ h => h) (Or.inl ⟨by kernel_rfl, ?_⟩) (by assumption) ?_
  rotate_left
  · intro w'' hSw; (try dsimp only at hSw); simp only [zqa, zqb, zqc]; (go_simp <;> with_reducible rfl)
  try simp only [Act.put, zqd, zqe, zqf, zqa, zqb, zqc]
  refine wpAnyH_take (i := 3) (v := ?_) rfl (by kernel_rfl) (by kernel_rfl) (by kernel_rfl) (fun _ _ _ h => h) (Or.inl ⟨by kernel_rfl, ?_⟩) (by assumption) ?_
  rotate_left
  · intro w'' hSw; (try dsimp only at hSw); simp only [zqa, zqb, zqc]; (go_simp <;> with_reducible rfl)
  try simp only [Act.put, zqd, zqe, zqf, zqa, zqb, zqc]
  refine wpAnyH_take (i := 4) (v := ?_) rfl (by kernel_rfl) (by kernel_rfl) (by kernel_rfl) (fun _ _ _ h => h) (Or.inl ⟨by kernel_rfl, ?_⟩) (by assumption) ?_
  rotate_left
  · intro w'' hSw; (try dsimp only at hSw); simp only [zqa, zqb, zqc]; (go_simp <;> with_reducible rfl)
  try simp only [Act.put, zqd, zqe, zqf, zqa, zqb, zqc]
  refine wpAnyH_ready (rs := [2]) (by kernel_rfl) (by simp) ?_
  refine AllReadyH.cons rfl (fun K hK => ?_) AllReadyH.nil
  first | (with_reducible refine iteYes ?hcx ?htx; case hcx => kernel_rfl) | rw [if_pos (by rfl)]
  simp only [zqa, zqb, zqc]
  go_simp
  (go_at_call 43; refine (gAround_calls _ _ _ _ _ _ _ _).mono ?_; rintro e w1 ⟨rfl, k1⟩)
  try go_wp2_with fail
  refine hK.out _ _ ?_ (fun hHeld2 => ?_)
  · (try dsimp only); exact Sh.step k1 hHeld1
  clear hK K hHeld1
  try simp only [Act.put, zqd, zqe, zqf, zqa, zqb, zqc]
  refine wpAnyH_ready (rs := [5]) (by kernel_rfl) (by simp) ?_
  refine AllReadyH.cons rfl (fun K hK => ?_) AllReadyH.nil
  first | (with_reducible refine iteYes ?hcx ?htx; case hcx => kernel_rfl) | rw [if_pos (by rfl)]
  simp only [zqa, zqb, zqc]
  go_simp
  (go_at_call 43; refine (gAround_calls _ _ _ _ _ _ _ _).mono ?_; rintro e w2 ⟨rfl, k2⟩)
  try go_wp2_with fail
  refine hK.out _ _ ?_ (fun hHeld3 => ?_)
  · (try dsimp only); exact Sh.step k2 hHeld2
  clear hK K hHeld2
  try simp only [Act.put, zqd, zqe, zqf, zqa, zqb, zqc]
  refine wpAnyH_ready (rs := [6]) (by kernel_rfl) (by simp) ?_
  refine AllReadyH.cons rfl (fun K hK => ?_) AllReadyH.nil
  first | (with_reducible refine iteYes ?hcx ?htx; case hcx => kernel_rfl) | rw [if_pos (by rfl)]
  simp only [zqa, zqb, zqc]
  go_simp
  (go_at_call 54; refine (boxesTouch_calls _ _ _ _ _ _ _ _ _ _ _ _ _).mono ?_; rintro e w3 ⟨rfl, k3⟩)
  try go_wp2_with fail
  refine hK.out _ _ ?_ (fun hHeld4 => ?_)
  · (try dsimp only); exact Sh.step k3 hHeld3
  clear hK K hHeld3
  try simp only [Act.put, zqd, zqe, zqf, zqa, zqb, zqc]
  refine wpAnyH_take (i := 7) (v := ?_) rfl (by kernel_rfl) (by kernel_rfl) (by kernel_rfl) (fun _ _ _ h => h) (Or.inl ⟨by kernel_rfl, ?_⟩) (by assumption) ?_
  rotate_left
  · intro w'' hSw; (try dsimp only at hSw); simp only [zqa, zqb, zqc]; (go_simp <;> with_reducible rfl)
  try simp only [Act.put, zqd, zqe, zqf, zqa, zqb, zqc]
  refine wpAnyH_take (i := 8) (v := ?_) rfl (by kernel_rfl) (by kernel_rfl) (by kernel_rfl) (fun _ _ _ h => h) (Or.inl ⟨by kernel_rfl, ?_⟩) (by assumption) ?_
  rotate_left
  · intro w'' hSw; (try dsimp only at hSw); simp only [zqa, zqb, zqc]; (go_simp <;> with_reducible rfl)
  try simp only [Act.put, zqd, zqe, zqf, zqa, zqb, zqc]
  refine wpAnyH_take (i := 9) (v := ?_) rfl (by kernel_rfl) (by kernel_rfl) (by kernel_rfl) (fun _ _ _ h => h) (Or.inl ⟨by kernel_rfl, ?_⟩) (by assumption) ?_
  rotate_left
  · intro w'' hSw; (try dsimp only at hSw); simp only [zqa, zqb, zqc]; (go_simp <;> with_reducible rfl)
  try simp only [Act.put, zqd, zqe, zqf, zqa, zqb, zqc]
  refine wpAnyH_ready (rs := [10]) (by kernel_rfl) (by simp) ?_
  refine AllReadyH.cons rfl (fun K hK => ?_) AllReadyH.nil
  first | (with_reducible refine iteYes ?hcx ?htx; case hcx => kernel_rfl) | rw [if_pos (by rfl)]
  simp only [zqa, zqb, zqc]
  go_simp
  refine hK.out _ _ ?_ (fun hHeld5 => ?_)
  · (try dsimp only); exact (Sh.put 2 _ (by omega) (by omega) (by omega) (by omega) (by omega) (Sh.put 1 _ (by omega) (by omega) (by omega) (by omega) (by omega) (Sh.put 0 _ (by omega) (by omega) (by omega) (by omega) (by omega) hHeld4)))
  clear hK K
  try simp only [Act.put, zqd, zqe, zqf, zqa, zqb, zqc]
  refine wpAnyH_take (i := 11) (v := ?_) rfl (by kernel_rfl) (by kernel_rfl) (by kernel_rfl) (fun _ _ _ h => h) (Or.inl ⟨by kernel_rfl, ?_⟩) (by assumption) ?_
  rotate_left
  · intro w'' hSw; (try dsimp only at hSw); simp only [zqa, zqb, zqc]; (go_simp <;> with_reducible rfl)
  try simp only [Act.put, zqd, zqe, zqf, zqa, zqb, zqc]
  refine wpAnyH_take (i := 12) (v := ?_) rfl (by kernel_rfl) (by kernel_rfl) (by kernel_rfl) (fun _ _ _ h => h) (Or.inl ⟨by kernel_rfl, ?_⟩) (by assumption) ?_
  rotate_left
  · intro w'' hSw; (try dsimp only at hSw); simp only [zqa, zqb, zqc]; (go_simp <;> with_reducible rfl)
  try simp only [Act.put, zqd, zqe, zqf, zqa, zqb, zqc]
  refine wpAnyH_done (by kernel_rfl) ?_ _
  go_wp2
  obtain ⟨hk, _, _, _, _, _, _, _, _, _, _, _, _, _, _, c0, c1, c2, _⟩ := hHeld4
  obtain ⟨e0, e1, e2⟩ := set3_of (v0 := .int .i64 ((boxesT (sub p0 xa) (sub p1 (hf ka xa ya)) (sub p2 (hf ka xa za)) (add p0 xa) (add p1 (hf ka xa ya)) (add p2 (hf ka xa za)) (sub q0 xb) (sub q1 (hf kb xb yb)) (sub q2 (hf kb xb zb)) (add q0 xb) (add q1 (hf kb xb yb)) (add q2 (hf kb xb zb))).x)) (v1 := .int .i64 ((boxesT (sub p0 xa) (sub p1 (hf ka xa ya)) (sub p2 (hf ka xa za)) (add p0 xa) (add p1 (hf ka xa ya)) (add p2 (hf ka xa za)) (sub q0 xb) (sub q1 (hf kb xb yb)) (sub q2 (hf kb xb zb)) (add q0 xb) (add q1 (hf kb xb yb)) (add q2 (hf kb xb zb))).y)) (v2 := .int .i64 ((boxesT (sub p0 xa) (sub p1 (hf ka xa ya)) (sub p2 (hf ka xa za)) (add p0 xa) (add p1 (hf ka xa ya)) (add p2 (hf ka xa za)) (sub q0 xb) (sub q1 (hf kb xb yb)) (sub q2 (hf kb xb zb)) (add q0 xb) (add q1 (hf kb xb yb)) (add q2 (hf kb xb zb))).z)) c0 c1 c2
  exact bodyPost_ret (v := .tuple #[.agg #[.int .i64 ((boxesT (sub p0 xa) (sub p1 (hf ka xa ya)) (sub p2 (hf ka xa za)) (add p0 xa) (add p1 (hf ka xa ya)) (add p2 (hf ka xa za)) (sub q0 xb) (sub q1 (hf kb xb yb)) (sub q2 (hf kb xb zb)) (add q0 xb) (add q1 (hf kb xb yb)) (add q2 (hf kb xb zb))).x), .int .i64 ((boxesT (sub p0 xa) (sub p1 (hf ka xa ya)) (sub p2 (hf ka xa za)) (add p0 xa) (add p1 (hf ka xa ya)) (add p2 (hf ka xa za)) (sub q0 xb) (sub q1 (hf kb xb yb)) (sub q2 (hf kb xb zb)) (add q0 xb) (add q1 (hf kb xb yb)) (add q2 (hf kb xb zb))).y), .int .i64 ((boxesT (sub p0 xa) (sub p1 (hf ka xa ya)) (sub p2 (hf ka xa za)) (add p0 xa) (add p1 (hf ka xa ya)) (add p2 (hf ka xa za)) (sub q0 xb) (sub q1 (hf kb xb yb)) (sub q2 (hf kb xb zb)) (add q0 xb) (add q1 (hf kb xb yb)) (add q2 (hf kb xb zb))).z)], .int .i64 ((boxesT (sub p0 xa) (sub p1 (hf ka xa ya)) (sub p2 (hf ka xa za)) (add p0 xa) (add p1 (hf ka xa ya)) (add p2 (hf ka xa za)) (sub q0 xb) (sub q1 (hf kb xb yb)) (sub q2 (hf kb xb zb)) (add q0 xb) (add q1 (hf kb xb yb)) (add q2 (hf kb xb zb))).d), .bool (boxesT (sub p0 xa) (sub p1 (hf ka xa ya)) (sub p2 (hf ka xa za)) (add p0 xa) (add p1 (hf ka xa ya)) (add p2 (hf ka xa za)) (sub q0 xb) (sub q1 (hf kb xb yb)) (sub q2 (hf kb xb zb)) (add q0 xb) (add q1 (hf kb xb yb)) (add q2 (hf kb xb zb))).ok]) (by simp [results, Tryz.results30, go_sem, e0, e1, e2]) rfl ⟨rfl, kept_set3 hk (by omega) _ _ _⟩
set_option maxHeartbeats 8000000 in
theorem touches_kb (ka xa ya za p0 p1 p2 kb xb yb zb q0 q1 q2 : Int) (w : World) (h : ¬ ka = 1) (h' : kb = 1) : Calls Tryz.prog 30 #[.agg #[.int .i64 ka, .int .i64 xa, .int .i64 ya, .int .i64 za], .agg #[.int .i64 p0, .int .i64 p1, .int .i64 p2], .agg #[.int .i64 kb, .int .i64 xb, .int .i64 yb, .int .i64 zb], .agg #[.int .i64 q0, .int .i64 q1, .int .i64 q2]] w fun e w' => e = .returned (.tuple #[.agg #[.int .i64 ((touchT ka xa ya za p0 p1 p2 kb xb yb zb q0 q1 q2).x), .int .i64 ((touchT ka xa ya za p0 p1 p2 kb xb yb zb q0 q1 q2).y), .int .i64 ((touchT ka xa ya za p0 p1 p2 kb xb yb zb q0 q1 q2).z)], .int .i64 ((touchT ka xa ya za p0 p1 p2 kb xb yb zb q0 q1 q2).d), .bool (touchT ka xa ya za p0 p1 p2 kb xb yb zb q0 q1 q2).ok]) ∧ Kept w w' := by
  have hb : (ka == 1) = false := by simp [h]
  have hb' : (kb == 1) = true := by simp [h']
  rw [touchT_kb h h']
  clear h h'
  go_enter Tryz.func30, Tryz.ntmps30
  go_wp2
  have HA : ShAAt (w.heap.size) (w.heap.size + 1) (w.heap.size + 1 + 1) (w.heap.size + 1 + 1 + 1) (.int .i64 ka) (.int .i64 xa) (.int .i64 ya) (.int .i64 za) (.int .i64 p0) (.int .i64 p1) (.int .i64 p2) (.int .i64 kb) (.int .i64 xb) (.int .i64 yb) (.int .i64 zb) (.int .i64 q0) (.int .i64 q1) (.int .i64 q2) (((((w.alloc (.cells #[.int .i64 ka, .int .i64 xa, .int .i64 ya, .int .i64 za] 35)).alloc (.cells #[.int .i64 p0, .int .i64 p1, .int .i64 p2] 24)).alloc (.cells #[.int .i64 kb, .int .i64 xb, .int .i64 yb, .int .i64 zb] 35)).alloc (.cells #[.int .i64 q0, .int .i64 q1, .int .i64 q2] 24)).alloc (.cells #[.int .i64 0, .int .i64 0, .int .i64 0] 24)) := by
    refine ⟨?_, ?_, ?_, ?_, ?_, ?_, ?_, ?_, ?_, ?_, ?_, ?_, ?_, ?_⟩ <;> go_simp
  have hkA : Kept w (((((w.alloc (.cells #[.int .i64 ka, .int .i64 xa, .int .i64 ya, .int .i64 za] 35)).alloc (.cells #[.int .i64 p0, .int .i64 p1, .int .i64 p2] 24)).alloc (.cells #[.int .i64 kb, .int .i64 xb, .int .i64 yb, .int .i64 zb] 35)).alloc (.cells #[.int .i64 q0, .int .i64 q1, .int .i64 q2] 24)).alloc (.cells #[.int .i64 0, .int .i64 0, .int .i64 0] 24)) := (((((Kept.refl w).alloc _ _).alloc _ _).alloc _ _).alloc _ _).alloc _ _
  have RC : ∀ i, i < 3 → (((((w.alloc (.cells #[.int .i64 ka, .int .i64 xa, .int .i64 ya, .int .i64 za] 35)).alloc (.cells #[.int .i64 p0, .int .i64 p1, .int .i64 p2] 24)).alloc (.cells #[.int .i64 kb, .int .i64 xb, .int .i64 yb, .int .i64 zb] 35)).alloc (.cells #[.int .i64 q0, .int .i64 q1, .int .i64 q2] 24)).alloc (.cells #[.int .i64 0, .int .i64 0, .int .i64 0] 24)).cell? ⟨w.heap.size + 1 + 1 + 1 + 1, i, none⟩ = some (.int .i64 0) := by
    intro i hi
    obtain rfl | rfl | rfl : i = 0 ∨ i = 1 ∨ i = 2 := by omega
    all_goals go_simp
  have RF : ∀ i, (((((w.alloc (.cells #[.int .i64 ka, .int .i64 xa, .int .i64 ya, .int .i64 za] 35)).alloc (.cells #[.int .i64 p0, .int .i64 p1, .int .i64 p2] 24)).alloc (.cells #[.int .i64 kb, .int .i64 xb, .int .i64 yb, .int .i64 zb] 35)).alloc (.cells #[.int .i64 q0, .int .i64 q1, .int .i64 q2] 24)).alloc (.cells #[.int .i64 0, .int .i64 0, .int .i64 0] 24)).frozen? ⟨w.heap.size + 1 + 1 + 1 + 1, i, none⟩ = false := by intro i; go_simp
  generalize (((((w.alloc (.cells #[.int .i64 ka, .int .i64 xa, .int .i64 ya, .int .i64 za] 35)).alloc (.cells #[.int .i64 p0, .int .i64 p1, .int .i64 p2] 24)).alloc (.cells #[.int .i64 kb, .int .i64 xb, .int .i64 yb, .int .i64 zb] 35)).alloc (.cells #[.int .i64 q0, .int .i64 q1, .int .i64 q2] 24)).alloc (.cells #[.int .i64 0, .int .i64 0, .int .i64 0] 24)) = wA at HA hkA RC RF ⊢
  have RC' : Aside _ := RC
  have RF' : Aside _ := RF
  clear RC RF
  go_cut [11, 12, 13] from 14 (fun s11 s12 s13 wc => ∃ p, s11 = .pointer (some ⟨p, 0, none⟩) ∧ s12 = .int .i64 ((ballT xb q0 q1 q2 (sub p0 xa) (sub p1 (hf ka xa ya)) (sub p2 (hf ka xa za)) (add p0 xa) (add p1 (hf ka xa ya)) (add p2 (hf ka xa za))).d) ∧ s13 = .bool (ballT xb q0 q1 q2 (sub p0 xa) (sub p1 (hf ka xa ya)) (sub p2 (hf ka xa za)) (add p0 xa) (add p1 (hf ka xa ya)) (add p2 (hf ka xa za))).ok ∧ Kept wA wc ∧ wc.cell? ⟨p, 0, none⟩ = some (.int .i64 ((ballT xb q0 q1 q2 (sub p0 xa) (sub p1 (hf ka xa ya)) (sub p2 (hf ka xa za)) (add p0 xa) (add p1 (hf ka xa ya)) (add p2 (hf ka xa za))).x)) ∧ wc.cell? ⟨p, 1, none⟩ = some (.int .i64 ((ballT xb q0 q1 q2 (sub p0 xa) (sub p1 (hf ka xa ya)) (sub p2 (hf ka xa za)) (add p0 xa) (add p1 (hf ka xa ya)) (add p2 (hf ka xa za))).y)) ∧ wc.cell? ⟨p, 2, none⟩ = some (.int .i64 ((ballT xb q0 q1 q2 (sub p0 xa) (sub p1 (hf ka xa ya)) (sub p2 (hf ka xa za)) (add p0 xa) (add p1 (hf ka xa ya)) (add p2 (hf ka xa za))).z)))
  case first =>
    refine wp_region_held_drew (S := (fun w' => Kept wA w' ∧ w'.cell? ⟨w.heap.size, 0, none⟩ = some (.int .i64 ka) ∧ w'.cell? ⟨w.heap.size, 1, none⟩ = some (.int .i64 xa) ∧ w'.cell? ⟨w.heap.size, 2, none⟩ = some (.int .i64 ya) ∧ w'.cell? ⟨w.heap.size, 3, none⟩ = some (.int .i64 za) ∧ w'.cell? ⟨w.heap.size + 1, 0, none⟩ = some (.int .i64 p0) ∧ w'.cell? ⟨w.heap.size + 1, 1, none⟩ = some (.int .i64 p1) ∧ w'.cell? ⟨w.heap.size + 1, 2, none⟩ = some (.int .i64 p2) ∧ w'.cell? ⟨w.heap.size + 1 + 1, 0, none⟩ = some (.int .i64 kb) ∧ w'.cell? ⟨w.heap.size + 1 + 1, 1, none⟩ = some (.int .i64 xb) ∧ w'.cell? ⟨w.heap.size + 1 + 1, 2, none⟩ = some (.int .i64 yb) ∧ w'.cell? ⟨w.heap.size + 1 + 1, 3, none⟩ = some (.int .i64 zb) ∧ w'.cell? ⟨w.heap.size + 1 + 1 + 1, 0, none⟩ = some (.int .i64 q0) ∧ w'.cell? ⟨w.heap.size + 1 + 1 + 1, 1, none⟩ = some (.int .i64 q1) ∧ w'.cell? ⟨w.heap.size + 1 + 1 + 1, 2, none⟩ = some (.int .i64 q2))) (by kernel_rfl) ?_ (fun hH0 => ?_)
    · (try dsimp only); exact ⟨(Kept.refl _).drew, HA.step (Kept.refl _).drew⟩
    refine wpAnyH_take (i := 0) (v := ?_) rfl (by kernel_rfl) (by kernel_rfl) (by kernel_rfl) (fun _ _ _ h => h) (Or.inl ⟨by kernel_rfl, ?_⟩) (by assumption) ?_
    rotate_left
    · intro w'' hSw; (try dsimp only at hSw); simp only [zqa, zqb, zqc]; (go_simp <;> with_reducible rfl)
    try simp only [Act.put, zqd, zqe, zqf, zqa, zqb, zqc]
    refine wpAnyH_take (i := 1) (v := ?_) rfl (by kernel_rfl) (by kernel_rfl) (by kernel_rfl) (fun _ _ _ h => h) (Or.inl ⟨by kernel_rfl, ?_⟩) (by assumption) ?_
    rotate_left
    · intro w'' hSw; (try dsimp only at hSw); simp only [zqa, zqb, zqc]; (go_simp <;> with_reducible rfl)
    try simp only [Act.put, zqd, zqe, zqf, zqa, zqb, zqc]
    refine wpAnyH_take (i := 2) (v := ?_) rfl (by kernel_rfl) (by kernel_rfl) (by kernel_rfl) (fun _ _ _ h => h) (Or.inl ⟨by kernel_rfl, ?_⟩) (by assumption) ?_
    rotate_left
    · intro w'' hSw; (try dsimp only at hSw); simp only [zqa, zqb, zqc]; (go_simp <;> with_reducible rfl)
    try simp only [Act.put, zqd, zqe, zqf, zqa, zqb, zqc]
    refine wpAnyH_take (i := 3) (v := ?_) rfl (by kernel_rfl) (by kernel_rfl) (by kernel_rfl) (fun _ _ _ h => h) (Or.inl ⟨by kernel_rfl, ?_⟩) (by assumption) ?_
    rotate_left
    · intro w'' hSw; (try dsimp only at hSw); simp only [zqa, zqb, zqc]; (go_simp <;> with_reducible rfl)
    try simp only [Act.put, zqd, zqe, zqf, zqa, zqb, zqc]
    refine wpAnyH_take (i := 4) (v := ?_) rfl (by kernel_rfl) (by kernel_rfl) (by kernel_rfl) (fun _ _ _ h => h) (Or.inl ⟨by kernel_rfl, ?_⟩) (by assumption) ?_
    rotate_left
    · intro w'' hSw; (try dsimp only at hSw); simp only [zqa, zqb, zqc]; (go_simp <;> with_reducible rfl)
    try simp only [Act.put, zqd, zqe, zqf, zqa, zqb, zqc]
    refine wpAnyH_take (i := 5) (v := ?_) rfl (by kernel_rfl) (by kernel_rfl) (by kernel_rfl) (fun _ _ _ h => h) (Or.inl ⟨by kernel_rfl, ?_⟩) (by assumption) ?_
    rotate_left
    · intro w'' hSw; (try dsimp only at hSw); simp only [zqa, zqb, zqc]; (go_simp <;> with_reducible rfl)
    try simp only [Act.put, zqd, zqe, zqf, zqa, zqb, zqc]
    refine wpAnyH_ready (rs := [6, 12]) (by kernel_rfl) (by simp) ?_
    refine AllReadyH.cons rfl (fun K hK => ?_) (AllReadyH.cons rfl (fun K hK => ?_) AllReadyH.nil)
    · rw [if_pos (by rfl)]
      simp only [zqa, zqb, zqc]
      go_simp
      (go_at_call 43; refine (gAround_calls _ _ _ _ _ _ _ _).mono ?_; rintro e wc1 ⟨rfl, kc1⟩)
      try go_wp2_with fail
      refine hK.out _ _ ?_ (fun hH1 => ?_)
      · exact ⟨hH0.1.trans kc1, HA.step (hH0.1.trans kc1)⟩
      clear hK K hH0
      try simp only [Act.put, zqd, zqe, zqf, zqa, zqb, zqc]
      refine wpAnyH_ready (rs := [7, 12]) (by kernel_rfl) (by simp) ?_
      refine AllReadyH.cons rfl (fun K hK => ?_) (AllReadyH.cons rfl (fun K hK => ?_) AllReadyH.nil)
      · rw [if_pos (by rfl)]
        simp only [zqa, zqb, zqc]
        go_simp
        (go_at_call 53; refine (ballTouches_calls _ _ _ _ _ _ _ _ _ _ _).mono ?_; rintro e wc2 ⟨rfl, kc2⟩)
        try go_wp2_with fail
        refine hK.out _ _ ?_ (fun hH2 => ?_)
        · exact ⟨hH1.1.trans kc2, HA.step (hH1.1.trans kc2)⟩
        clear hK K hH1
        try simp only [Act.put, zqd, zqe, zqf, zqa, zqb, zqc]
        refine wpAnyH_take (i := 8) (v := ?_) rfl (by kernel_rfl) (by kernel_rfl) (by kernel_rfl) (fun _ _ _ h => h) (Or.inl ⟨by kernel_rfl, ?_⟩) (by assumption) ?_
        rotate_left
        · intro w'' hSw; (try dsimp only at hSw); simp only [zqa, zqb, zqc]; (go_simp <;> with_reducible rfl)
        try simp only [Act.put, zqd, zqe, zqf, zqa, zqb, zqc]
        refine wpAnyH_take (i := 9) (v := ?_) rfl (by kernel_rfl) (by kernel_rfl) (by kernel_rfl) (fun _ _ _ h => h) (Or.inl ⟨by kernel_rfl, ?_⟩) (by assumption) ?_
        rotate_left
        · intro w'' hSw; (try dsimp only at hSw); simp only [zqa, zqb, zqc]; (go_simp <;> with_reducible rfl)
        try simp only [Act.put, zqd, zqe, zqf, zqa, zqb, zqc]
        refine wpAnyH_take (i := 10) (v := ?_) rfl (by kernel_rfl) (by kernel_rfl) (by kernel_rfl) (fun _ _ _ h => h) (Or.inl ⟨by kernel_rfl, ?_⟩) (by assumption) ?_
        rotate_left
        · intro w'' hSw; (try dsimp only at hSw); simp only [zqa, zqb, zqc]; (go_simp <;> with_reducible rfl)
        try simp only [Act.put, zqd, zqe, zqf, zqa, zqb, zqc]
        refine wpAnyH_take (i := 11) (v := ?_) rfl (by kernel_rfl) (by kernel_rfl) (by kernel_rfl) (fun _ _ _ h => h) (Or.inl ⟨by kernel_rfl, ?_⟩) (by assumption) ?_
        rotate_left
        · intro w'' hSw; (try dsimp only at hSw); simp only [zqa, zqb, zqc]; (go_simp <;> with_reducible rfl)
        try simp only [Act.put, zqd, zqe, zqf, zqa, zqb, zqc]
        refine wpAnyH_ready (rs := [12]) (by kernel_rfl) (by simp) ?_
        refine AllReadyH.cons rfl (fun K hK => ?_) AllReadyH.nil
        rw [if_pos (by rfl)]
        simp only [zqa, zqb, zqc]
        go_simp
        refine hK.out _ _ ?_ (fun hH3 => ?_)
        · exact ⟨hH2.1.alloc _ _, HA.step (hH2.1.alloc _ _)⟩
        have hp : wA.heap.size ≤ wc2.heap.size := Nat.le_trans hH2.1.below.size (Nat.le_of_eq (by simp))
        have hP : Fr3 wA (wc2.heap.size) (wc2.alloc (.cells #[.int .i64 0, .int .i64 0, .int .i64 0] 24)) := by refine ⟨hH2.1.alloc _ _, cellV_of (v := .int .i64 0) ?_, cellV_of (v := .int .i64 0) ?_, cellV_of (v := .int .i64 0) ?_, ?_, ?_, ?_⟩ <;> go_simp
        clear hK K hH2
        try simp only [Act.put, zqd, zqe, zqf, zqa, zqb, zqc]
        generalize (wc2.alloc (.cells #[.int .i64 0, .int .i64 0, .int .i64 0] 24)) = wz4 at hH3 hP ⊢
        have hP0 := hP
        obtain ⟨_, cp0, cp1, cp2, fp0, fp1, fp2⟩ := hP0
        refine wpAnyH_ready (rs := [13]) (by kernel_rfl) (by simp) ?_
        refine AllReadyH.cons rfl (fun K hK => ?_) AllReadyH.nil
        rw [if_pos (by rfl)]
        simp only [zqa, zqb, zqc]
        go_simp
        refine hK.out _ _ ?_ (fun hS1 => ?_)
        · exact ⟨kept_set3 hH3.1 hp _ _ _, HA.step (kept_set3 hH3.1 hp _ _ _)⟩
        clear hK K
        try simp only [Act.put, zqd, zqe, zqf, zqa, zqb, zqc]
        refine wpAnyH_take (i := 14) (v := ?_) rfl (by kernel_rfl) (by kernel_rfl) (by kernel_rfl) (fun _ _ _ h => h) (Or.inl ⟨by kernel_rfl, ?_⟩) (by assumption) ?_
        rotate_left
        · intro w'' hSw; (try dsimp only at hSw); simp only [zqa, zqb, zqc]; (go_simp <;> with_reducible rfl)
        try simp only [Act.put, zqd, zqe, zqf, zqa, zqb, zqc]
        refine wpAnyH_take (i := 15) (v := ?_) rfl (by kernel_rfl) (by kernel_rfl) (by kernel_rfl) (fun _ _ _ h => h) (Or.inl ⟨by kernel_rfl, ?_⟩) (by assumption) ?_
        rotate_left
        · intro w'' hSw; (try dsimp only at hSw); simp only [zqa, zqb, zqc]; (go_simp <;> with_reducible rfl)
        try simp only [Act.put, zqd, zqe, zqf, zqa, zqb, zqc]
        refine wpAnyH_done (by kernel_rfl) ?_ _
        go_wp2_with fail
        go_meet
        case rel =>
          obtain ⟨z0, z1, z2⟩ := set3_of (v0 := .int .i64 (ballT xb q0 q1 q2 (sub p0 xa) (sub p1 (hf ka xa ya)) (sub p2 (hf ka xa za)) (add p0 xa) (add p1 (hf ka xa ya)) (add p2 (hf ka xa za))).x) (v1 := .int .i64 (ballT xb q0 q1 q2 (sub p0 xa) (sub p1 (hf ka xa ya)) (sub p2 (hf ka xa za)) (add p0 xa) (add p1 (hf ka xa ya)) (add p2 (hf ka xa za))).y) (v2 := .int .i64 (ballT xb q0 q1 q2 (sub p0 xa) (sub p1 (hf ka xa ya)) (sub p2 (hf ka xa za)) (add p0 xa) (add p1 (hf ka xa ya)) (add p2 (hf ka xa za))).z) cp0 cp1 cp2
          exact ⟨wc2.heap.size, rfl, rfl, rfl, hS1.1, z0, z1, z2⟩
      · rw [if_pos (by rfl)]
        simp only [zqa, zqb, zqc]
        go_simp
        refine hK.out _ _ ?_ (fun hH5 => ?_)
        · exact ⟨hH1.1.alloc _ _, HA.step (hH1.1.alloc _ _)⟩
        have hp : wA.heap.size ≤ wc1.heap.size := Nat.le_trans hH1.1.below.size (Nat.le_of_eq (by simp))
        have hP : Fr3 wA (wc1.heap.size) (wc1.alloc (.cells #[.int .i64 0, .int .i64 0, .int .i64 0] 24)) := by refine ⟨hH1.1.alloc _ _, cellV_of (v := .int .i64 0) ?_, cellV_of (v := .int .i64 0) ?_, cellV_of (v := .int .i64 0) ?_, ?_, ?_, ?_⟩ <;> go_simp
        clear hK K hH1
        try simp only [Act.put, zqd, zqe, zqf, zqa, zqb, zqc]
        refine wpAnyH_ready (rs := [7]) (by kernel_rfl) (by simp) ?_
        refine AllReadyH.cons rfl (fun K hK => ?_) AllReadyH.nil
        rw [if_pos (by rfl)]
        simp only [zqa, zqb, zqc]
        go_simp
        (go_at_call 53; refine (ballTouches_calls _ _ _ _ _ _ _ _ _ _ _).mono ?_; rintro e wc6 ⟨rfl, kc6⟩)
        try go_wp2_with fail
        refine hK.out _ _ ?_ (fun hH6 => ?_)
        · exact ⟨hH5.1.trans kc6, HA.step (hH5.1.trans kc6)⟩
        replace hP := hP.step kc6
        clear hK K hH5
        try simp only [Act.put, zqd, zqe, zqf, zqa, zqb, zqc]
        refine wpAnyH_take (i := 8) (v := ?_) rfl (by kernel_rfl) (by kernel_rfl) (by kernel_rfl) (fun _ _ _ h => h) (Or.inl ⟨by kernel_rfl, ?_⟩) (by assumption) ?_
        rotate_left
        · intro w'' hSw; (try dsimp only at hSw); simp only [zqa, zqb, zqc]; (go_simp <;> with_reducible rfl)
        try simp only [Act.put, zqd, zqe, zqf, zqa, zqb, zqc]
        refine wpAnyH_take (i := 9) (v := ?_) rfl (by kernel_rfl) (by kernel_rfl) (by kernel_rfl) (fun _ _ _ h => h) (Or.inl ⟨by kernel_rfl, ?_⟩) (by assumption) ?_
        rotate_left
        · intro w'' hSw; (try dsimp only at hSw); simp only [zqa, zqb, zqc]; (go_simp <;> with_reducible rfl)
        try simp only [Act.put, zqd, zqe, zqf, zqa, zqb, zqc]
        refine wpAnyH_take (i := 10) (v := ?_) rfl (by kernel_rfl) (by kernel_rfl) (by kernel_rfl) (fun _ _ _ h => h) (Or.inl ⟨by kernel_rfl, ?_⟩) (by assumption) ?_
        rotate_left
        · intro w'' hSw; (try dsimp only at hSw); simp only [zqa, zqb, zqc]; (go_simp <;> with_reducible rfl)
        try simp only [Act.put, zqd, zqe, zqf, zqa, zqb, zqc]
        refine wpAnyH_take (i := 11) (v := ?_) rfl (by kernel_rfl) (by kernel_rfl) (by kernel_rfl) (fun _ _ _ h => h) (Or.inl ⟨by kernel_rfl, ?_⟩) (by assumption) ?_
        rotate_left
        · intro w'' hSw; (try dsimp only at hSw); simp only [zqa, zqb, zqc]; (go_simp <;> with_reducible rfl)
        try simp only [Act.put, zqd, zqe, zqf, zqa, zqb, zqc]
        have hP0 := hP
        obtain ⟨_, cp0, cp1, cp2, fp0, fp1, fp2⟩ := hP0
        refine wpAnyH_ready (rs := [13]) (by kernel_rfl) (by simp) ?_
        refine AllReadyH.cons rfl (fun K hK => ?_) AllReadyH.nil
        rw [if_pos (by rfl)]
        simp only [zqa, zqb, zqc]
        go_simp
        refine hK.out _ _ ?_ (fun hS1 => ?_)
        · exact ⟨kept_set3 hH6.1 hp _ _ _, HA.step (kept_set3 hH6.1 hp _ _ _)⟩
        clear hK K
        try simp only [Act.put, zqd, zqe, zqf, zqa, zqb, zqc]
        refine wpAnyH_take (i := 14) (v := ?_) rfl (by kernel_rfl) (by kernel_rfl) (by kernel_rfl) (fun _ _ _ h => h) (Or.inl ⟨by kernel_rfl, ?_⟩) (by assumption) ?_
        rotate_left
        · intro w'' hSw; (try dsimp only at hSw); simp only [zqa, zqb, zqc]; (go_simp <;> with_reducible rfl)
        try simp only [Act.put, zqd, zqe, zqf, zqa, zqb, zqc]
        refine wpAnyH_take (i := 15) (v := ?_) rfl (by kernel_rfl) (by kernel_rfl) (by kernel_rfl) (fun _ _ _ h => h) (Or.inl ⟨by kernel_rfl, ?_⟩) (by assumption) ?_
        rotate_left
        · intro w'' hSw; (try dsimp only at hSw); simp only [zqa, zqb, zqc]; (go_simp <;> with_reducible rfl)
        try simp only [Act.put, zqd, zqe, zqf, zqa, zqb, zqc]
        refine wpAnyH_done (by kernel_rfl) ?_ _
        go_wp2_with fail
        go_meet
        case rel =>
          obtain ⟨z0, z1, z2⟩ := set3_of (v0 := .int .i64 (ballT xb q0 q1 q2 (sub p0 xa) (sub p1 (hf ka xa ya)) (sub p2 (hf ka xa za)) (add p0 xa) (add p1 (hf ka xa ya)) (add p2 (hf ka xa za))).x) (v1 := .int .i64 (ballT xb q0 q1 q2 (sub p0 xa) (sub p1 (hf ka xa ya)) (sub p2 (hf ka xa za)) (add p0 xa) (add p1 (hf ka xa ya)) (add p2 (hf ka xa za))).y) (v2 := .int .i64 (ballT xb q0 q1 q2 (sub p0 xa) (sub p1 (hf ka xa ya)) (sub p2 (hf ka xa za)) (add p0 xa) (add p1 (hf ka xa ya)) (add p2 (hf ka xa za))).z) cp0 cp1 cp2
          exact ⟨wc1.heap.size, rfl, rfl, rfl, hS1.1, z0, z1, z2⟩
    · rw [if_pos (by rfl)]
      simp only [zqa, zqb, zqc]
      go_simp
      refine hK.out _ _ ?_ (fun hH7 => ?_)
      · exact ⟨hH0.1.alloc _ _, HA.step (hH0.1.alloc _ _)⟩
      have hp : wA.heap.size ≤ wA.heap.size := Nat.le_trans hH0.1.below.size (Nat.le_of_eq (by simp))
      have hP : Fr3 wA (wA.heap.size) (wA.drew.alloc (.cells #[.int .i64 0, .int .i64 0, .int .i64 0] 24)) := by refine ⟨hH0.1.alloc _ _, cellV_of (v := .int .i64 0) ?_, cellV_of (v := .int .i64 0) ?_, cellV_of (v := .int .i64 0) ?_, ?_, ?_, ?_⟩ <;> go_simp
      clear hK K hH0
      try simp only [Act.put, zqd, zqe, zqf, zqa, zqb, zqc]
      refine wpAnyH_ready (rs := [6]) (by kernel_rfl) (by simp) ?_
      refine AllReadyH.cons rfl (fun K hK => ?_) AllReadyH.nil
      rw [if_pos (by rfl)]
      simp only [zqa, zqb, zqc]
      go_simp
      (go_at_call 43; refine (gAround_calls _ _ _ _ _ _ _ _).mono ?_; rintro e wc8 ⟨rfl, kc8⟩)
      try go_wp2_with fail
      refine hK.out _ _ ?_ (fun hH8 => ?_)
      · exact ⟨hH7.1.trans kc8, HA.step (hH7.1.trans kc8)⟩
      replace hP := hP.step kc8
      clear hK K hH7
      try simp only [Act.put, zqd, zqe, zqf, zqa, zqb, zqc]
      refine wpAnyH_ready (rs := [7]) (by kernel_rfl) (by simp) ?_
      refine AllReadyH.cons rfl (fun K hK => ?_) AllReadyH.nil
      rw [if_pos (by rfl)]
      simp only [zqa, zqb, zqc]
      go_simp
      (go_at_call 53; refine (ballTouches_calls _ _ _ _ _ _ _ _ _ _ _).mono ?_; rintro e wc9 ⟨rfl, kc9⟩)
      try go_wp2_with fail
      refine hK.out _ _ ?_ (fun hH9 => ?_)
      · exact ⟨hH8.1.trans kc9, HA.step (hH8.1.trans kc9)⟩
      replace hP := hP.step kc9
      clear hK K hH8
      try simp only [Act.put, zqd, zqe, zqf, zqa, zqb, zqc]
      refine wpAnyH_take (i := 8) (v := ?_) rfl (by kernel_rfl) (by kernel_rfl) (by kernel_rfl) (fun _ _ _ h => h) (Or.inl ⟨by kernel_rfl, ?_⟩) (by assumption) ?_
      rotate_left
      · intro w'' hSw; (try dsimp only at hSw); simp only [zqa, zqb, zqc]; (go_simp <;> with_reducible rfl)
      try simp only [Act.put, zqd, zqe, zqf, zqa, zqb, zqc]
      refine wpAnyH_take (i := 9) (v := ?_) rfl (by kernel_rfl) (by kernel_rfl) (by kernel_rfl) (fun _ _ _ h => h) (Or.inl ⟨by kernel_rfl, ?_⟩) (by assumption) ?_
      rotate_left
      · intro w'' hSw; (try dsimp only at hSw); simp only [zqa, zqb, zqc]; (go_simp <;> with_reducible rfl)
      try simp only [Act.put, zqd, zqe, zqf, zqa, zqb, zqc]
      refine wpAnyH_take (i := 10) (v := ?_) rfl (by kernel_rfl) (by kernel_rfl) (by kernel_rfl) (fun _ _ _ h => h) (Or.inl ⟨by kernel_rfl, ?_⟩) (by assumption) ?_
      rotate_left
      · intro w'' hSw; (try dsimp only at hSw); simp only [zqa, zqb, zqc]; (go_simp <;> with_reducible rfl)
      try simp only [Act.put, zqd, zqe, zqf, zqa, zqb, zqc]
      refine wpAnyH_take (i := 11) (v := ?_) rfl (by kernel_rfl) (by kernel_rfl) (by kernel_rfl) (fun _ _ _ h => h) (Or.inl ⟨by kernel_rfl, ?_⟩) (by assumption) ?_
      rotate_left
      · intro w'' hSw; (try dsimp only at hSw); simp only [zqa, zqb, zqc]; (go_simp <;> with_reducible rfl)
      try simp only [Act.put, zqd, zqe, zqf, zqa, zqb, zqc]
      have hP0 := hP
      obtain ⟨_, cp0, cp1, cp2, fp0, fp1, fp2⟩ := hP0
      refine wpAnyH_ready (rs := [13]) (by kernel_rfl) (by simp) ?_
      refine AllReadyH.cons rfl (fun K hK => ?_) AllReadyH.nil
      rw [if_pos (by rfl)]
      simp only [zqa, zqb, zqc]
      go_simp
      refine hK.out _ _ ?_ (fun hS1 => ?_)
      · exact ⟨kept_set3 hH9.1 hp _ _ _, HA.step (kept_set3 hH9.1 hp _ _ _)⟩
      clear hK K
      try simp only [Act.put, zqd, zqe, zqf, zqa, zqb, zqc]
      refine wpAnyH_take (i := 14) (v := ?_) rfl (by kernel_rfl) (by kernel_rfl) (by kernel_rfl) (fun _ _ _ h => h) (Or.inl ⟨by kernel_rfl, ?_⟩) (by assumption) ?_
      rotate_left
      · intro w'' hSw; (try dsimp only at hSw); simp only [zqa, zqb, zqc]; (go_simp <;> with_reducible rfl)
      try simp only [Act.put, zqd, zqe, zqf, zqa, zqb, zqc]
      refine wpAnyH_take (i := 15) (v := ?_) rfl (by kernel_rfl) (by kernel_rfl) (by kernel_rfl) (fun _ _ _ h => h) (Or.inl ⟨by kernel_rfl, ?_⟩) (by assumption) ?_
      rotate_left
      · intro w'' hSw; (try dsimp only at hSw); simp only [zqa, zqb, zqc]; (go_simp <;> with_reducible rfl)
      try simp only [Act.put, zqd, zqe, zqf, zqa, zqb, zqc]
      refine wpAnyH_done (by kernel_rfl) ?_ _
      go_wp2_with fail
      go_meet
      case rel =>
        obtain ⟨z0, z1, z2⟩ := set3_of (v0 := .int .i64 (ballT xb q0 q1 q2 (sub p0 xa) (sub p1 (hf ka xa ya)) (sub p2 (hf ka xa za)) (add p0 xa) (add p1 (hf ka xa ya)) (add p2 (hf ka xa za))).x) (v1 := .int .i64 (ballT xb q0 q1 q2 (sub p0 xa) (sub p1 (hf ka xa ya)) (sub p2 (hf ka xa za)) (add p0 xa) (add p1 (hf ka xa ya)) (add p2 (hf ka xa za))).y) (v2 := .int .i64 (ballT xb q0 q1 q2 (sub p0 xa) (sub p1 (hf ka xa ya)) (sub p2 (hf ka xa za)) (add p0 xa) (add p1 (hf ka xa ya)) (add p2 (hf ka xa za))).z) cp0 cp1 cp2
        exact ⟨wA.heap.size, rfl, rfl, rfl, hS1.1, z0, z1, z2⟩
  case rest =>
    obtain ⟨p, rfl, rfl, rfl, kc, x0, x1, x2⟩ := hcut
    clear HA
    generalize hTT : (ballT xb q0 q1 q2 (sub p0 xa) (sub p1 (hf ka xa ya)) (sub p2 (hf ka xa za)) (add p0 xa) (add p1 (hf ka xa ya)) (add p2 (hf ka xa za))) = tt at x0 x1 x2 ⊢
    have HTT : Aside ((ballT xb q0 q1 q2 (sub p0 xa) (sub p1 (hf ka xa ya)) (sub p2 (hf ka xa za)) (add p0 xa) (add p1 (hf ka xa ya)) (add p2 (hf ka xa za))) = tt) := hTT
    clear hTT
    go_wp2_with fail
    refine (minus_calls _ _ _ _ _ _ _).mono ?_; rintro e w1 ⟨rfl, k1⟩
    have c0 := kept_cell k1 (kept_cell kc (RC'.out 0 (by omega)))
    have f0 := kept_frozen k1 (kept_frozen kc (RF'.out 0))
    have c1 := kept_cell k1 (kept_cell kc (RC'.out 1 (by omega)))
    have f1 := kept_frozen k1 (kept_frozen kc (RF'.out 1))
    have c2 := kept_cell k1 (kept_cell kc (RC'.out 2 (by omega)))
    have f2 := kept_frozen k1 (kept_frozen kc (RF'.out 2))
    have hk : Kept w w1 := (hkA.trans kc).trans k1
    clear k1 x0 x1 x2
    go_wp2
    obtain ⟨e0, e1, e2⟩ := set3_of (v0 := .int .i64 (sub 0 tt.x)) (v1 := .int .i64 (sub 0 tt.y)) (v2 := .int .i64 (sub 0 tt.z)) c0 c1 c2
    exact bodyPost_ret (v := .tuple #[.agg #[.int .i64 (sub 0 tt.x), .int .i64 (sub 0 tt.y), .int .i64 (sub 0 tt.z)], .int .i64 (tt.d), .bool tt.ok]) (by simp [results, Tryz.results30, go_sem, e0, e1, e2]) rfl ⟨by rw [HTT.out]; rfl, kept_set3 hk (by omega) _ _ _⟩
theorem gTouches_calls (ka xa ya za p0 p1 p2 kb xb yb zb q0 q1 q2 : Int) (w : World) : Calls Tryz.prog 30 #[.agg #[.int .i64 ka, .int .i64 xa, .int .i64 ya, .int .i64 za], .agg #[.int .i64 p0, .int .i64 p1, .int .i64 p2], .agg #[.int .i64 kb, .int .i64 xb, .int .i64 yb, .int .i64 zb], .agg #[.int .i64 q0, .int .i64 q1, .int .i64 q2]] w fun e w' => e = .returned (.tuple #[.agg #[.int .i64 ((touchT ka xa ya za p0 p1 p2 kb xb yb zb q0 q1 q2).x), .int .i64 ((touchT ka xa ya za p0 p1 p2 kb xb yb zb q0 q1 q2).y), .int .i64 ((touchT ka xa ya za p0 p1 p2 kb xb yb zb q0 q1 q2).z)], .int .i64 ((touchT ka xa ya za p0 p1 p2 kb xb yb zb q0 q1 q2).d), .bool (touchT ka xa ya za p0 p1 p2 kb xb yb zb q0 q1 q2).ok]) ∧ Kept w w' := by
  by_cases h : ka = 1
  · by_cases h' : kb = 1
    · exact touches_bb ka xa ya za p0 p1 p2 kb xb yb zb q0 q1 q2 w h h'
    · exact touches_bk ka xa ya za p0 p1 p2 kb xb yb zb q0 q1 q2 w h h'
  · by_cases h' : kb = 1
    · exact touches_kb ka xa ya za p0 p1 p2 kb xb yb zb q0 q1 q2 w h h'
    · exact touches_kk ka xa ya za p0 p1 p2 kb xb yb zb q0 q1 q2 w h h'
end Go.Proofs.YtbfkloclmlnahabGreat
