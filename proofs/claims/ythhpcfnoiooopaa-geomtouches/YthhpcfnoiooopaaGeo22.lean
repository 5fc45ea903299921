/- Of shapes that are Right, the document's own Touches and the program's are the same numbers; and GeomTouches' own walk. -/
import Derived.Test.YthhpcfnoiooopaaGeo21
namespace Go.Proofs.Ythhpcfnoiooopaa
open Go.ChangeShapes Go.WideShapes Go.ChangeAt Go.RowKit
set_option linter.unusedSimpArgs false

theorem cut_cases (n : Int) : (70368744177664 < n ∧ cut n = 70368744177664) ∨ (n < -70368744177664 ∧ cut n = -70368744177664) ∨ (-70368744177664 ≤ n ∧ n ≤ 70368744177664 ∧ cut n = n) := by
  unfold cut; split
  · omega
  · split <;> omega
theorem sub_nn {a b : Int} (h : cut b ≤ cut a) : 0 ≤ sub a b := by
  unfold sub
  rcases cut_cases (cut a - cut b) with ⟨_, e⟩ | ⟨_, e⟩ | ⟨_, _, e⟩ <;> omega
theorem gap_zero {p L H : Int} (hL : -70368744177664 ≤ L ∧ L ≤ 70368744177664) (hH : -70368744177664 ≤ H ∧ H ≤ 70368744177664) (hLH : L ≤ H) (h : gap p L H = 0) : L ≤ cut p ∧ cut p ≤ H := by
  unfold gap sub at h
  have e1 : cut (near p L H) = cut p := by
    rcases cut_cases (cut (near p L H) - cut p) with ⟨_, e⟩ | ⟨_, e⟩ | ⟨_, _, e⟩ <;> omega
  clear h
  have e2 := cut_in hL.1 hL.2
  have e3 := cut_in hH.1 hH.2
  unfold near greater lesser at e1
  rcases cut_cases p with ⟨_, e⟩ | ⟨_, e⟩ | ⟨_, _, e⟩
  all_goals
    by_cases g1 : H < p
    · rw [if_pos g1] at e1
      by_cases g2 : H < L
      · omega
      · rw [if_neg g2] at e1; omega
    · rw [if_neg g1] at e1
      by_cases g2 : p < L
      · rw [if_pos g2] at e1; omega
      · rw [if_neg g2] at e1; omega
/-- A box around a shape: its two sides. -/
theorem sides {q x : Int} (h : 1 ≤ x ∧ x ≤ 3276800) : sub q x ≤ add q x := by
  have e := cut_in (n := x) (by omega) (by omega)
  unfold sub add; rw [e]
  have a := cut_le q; have b := cut_ge q
  rcases cut_cases (cut q - x) with ⟨_, e1⟩ | ⟨_, e1⟩ | ⟨_, _, e1⟩ <;> rcases cut_cases (cut q + x) with ⟨_, e2⟩ | ⟨_, e2⟩ | ⟨_, _, e2⟩ <;> omega
theorem in_deep {s p0 p1 p2 b0 b1 b2 b3 b4 b5 : Int} (hs : 1 ≤ s ∧ s ≤ 3276800)
    (l0 : -70368744177664 ≤ b0 ∧ b0 ≤ 70368744177664) (l1 : -70368744177664 ≤ b1 ∧ b1 ≤ 70368744177664) (l2 : -70368744177664 ≤ b2 ∧ b2 ≤ 70368744177664)
    (l3 : -70368744177664 ≤ b3 ∧ b3 ≤ 70368744177664) (l4 : -70368744177664 ≤ b4 ∧ b4 ≤ 70368744177664) (l5 : -70368744177664 ≤ b5 ∧ b5 ≤ 70368744177664)
    (h0 : b0 ≤ b3) (h1 : b1 ≤ b4) (h2 : b2 ≤ b5) (g0 : gap p0 b0 b3 = 0) (g1 : gap p1 b1 b4 = 0) (g2 : gap p2 b2 b5 = 0) :
    ¬ add (outE p0 p1 p2 p0 p1 p2 b0 b1 b2 b3 b4 b5).d s ≤ 0 := by
  obtain ⟨x0, y0⟩ := gap_zero l0 l3 h0 g0
  obtain ⟨x1, y1⟩ := gap_zero l1 l4 h1 g1
  obtain ⟨x2, y2⟩ := gap_zero l2 l5 h2 g2
  have c0 := cut_in l0.1 l0.2; have c1 := cut_in l1.1 l1.2; have c2 := cut_in l2.1 l2.2
  have c3 := cut_in l3.1 l3.2; have c4 := cut_in l4.1 l4.2; have c5 := cut_in l5.1 l5.2
  have d0 : 0 ≤ sub p0 b0 := sub_nn (by omega)
  have d1 : 0 ≤ sub b3 p0 := sub_nn (by omega)
  have d2 : 0 ≤ sub p1 b1 := sub_nn (by omega)
  have d3 : 0 ≤ sub b4 p1 := sub_nn (by omega)
  have d4 : 0 ≤ sub p2 b2 := sub_nn (by omega)
  have d5 : 0 ≤ sub b5 p2 := sub_nn (by omega)
  have hd : 0 ≤ (outE p0 p1 p2 p0 p1 p2 b0 b1 b2 b3 b4 b5).d := by
    unfold outE pickE
    simp only [or_d]
    omega
  generalize (outE p0 p1 p2 p0 p1 p2 b0 b1 b2 b3 b4 b5).d = D at hd ⊢
  have e := cut_in (n := s) (by omega) (by omega)
  unfold add; rw [e]
  rcases cut_cases D with ⟨_, e1⟩ | ⟨_, e1⟩ | ⟨_, _, e1⟩ <;> rcases cut_cases (cut D + s) with ⟨_, e2⟩ | ⟨_, e2⟩ | ⟨_, _, e2⟩ <;> omega
theorem refBallT_eq {s p0 p1 p2 b0 b1 b2 b3 b4 b5 : Int} (hs : 1 ≤ s ∧ s ≤ 3276800)
    (l0 : -70368744177664 ≤ b0 ∧ b0 ≤ 70368744177664) (l1 : -70368744177664 ≤ b1 ∧ b1 ≤ 70368744177664) (l2 : -70368744177664 ≤ b2 ∧ b2 ≤ 70368744177664)
    (l3 : -70368744177664 ≤ b3 ∧ b3 ≤ 70368744177664) (l4 : -70368744177664 ≤ b4 ∧ b4 ≤ 70368744177664) (l5 : -70368744177664 ≤ b5 ∧ b5 ≤ 70368744177664)
    (h0 : b0 ≤ b3) (h1 : b1 ≤ b4) (h2 : b2 ≤ b5) : refBallT s p0 p1 p2 b0 b1 b2 b3 b4 b5 = ballT s p0 p1 p2 b0 b1 b2 b3 b4 b5 := by
  unfold refBallT ballT ballV
  split
  · rename_i h
    rw [doneT_yes (in_deep hs l0 l1 l2 l3 l4 l5 h0 h1 h2 h.1 h.2.1 h.2.2)]; rfl
  · rfl
theorem negT_eq {t : T} (h : Low t) : negT t = turnT t := by
  obtain ⟨h1, h2, h3⟩ := h
  unfold negT turnT; rw [sub_zero' h1, sub_zero' h2, sub_zero' h3]
theorem refBoxesT_eq (a0 a1 a2 a3 a4 a5 b0 b1 b2 b3 b4 b5 : Int) : refBoxesT a0 a1 a2 a3 a4 a5 b0 b1 b2 b3 b4 b5 = boxesT a0 a1 a2 a3 a4 a5 b0 b1 b2 b3 b4 b5 := by
  unfold refBoxesT boxesT doneT
  by_cases h : meetB a0 a1 a2 a3 a4 a5 b0 b1 b2 b3 b4 b5 = true
  · rw [if_pos h]
    by_cases k : (outE a0 a1 a2 a3 a4 a5 b0 b1 b2 b3 b4 b5).d ≤ 0
    · rw [if_pos k, if_neg (by omega)]
    · rw [if_neg k, if_pos ⟨h, by omega⟩]
  · rw [if_neg h, if_neg (fun e => h e.1)]
theorem refTouches_calls (ka xa ya za p0 p1 p2 kb xb yb zb q0 q1 q2 : Int) (w : World) (ha : rightB ka xa ya za = true) (hb : rightB kb xb yb zb = true) :
    Calls Try.prog 53 #[.agg #[.int .i64 ka, .int .i64 xa, .int .i64 ya, .int .i64 za], .agg #[.int .i64 p0, .int .i64 p1, .int .i64 p2], .agg #[.int .i64 kb, .int .i64 xb, .int .i64 yb, .int .i64 zb], .agg #[.int .i64 q0, .int .i64 q1, .int .i64 q2]] w fun e w' => e = .returned (.tuple #[.agg #[.int .i64 ((touchT ka xa ya za p0 p1 p2 kb xb yb zb q0 q1 q2).x), .int .i64 ((touchT ka xa ya za p0 p1 p2 kb xb yb zb q0 q1 q2).y), .int .i64 ((touchT ka xa ya za p0 p1 p2 kb xb yb zb q0 q1 q2).z)], .int .i64 ((touchT ka xa ya za p0 p1 p2 kb xb yb zb q0 q1 q2).d), .bool (touchT ka xa ya za p0 p1 p2 kb xb yb zb q0 q1 q2).ok]) ∧ Kept w w' := by
  rw [rightB_iff] at ha hb
  by_cases h : ka = 1
  · by_cases h' : kb = 1
    · rw [touchT_bb h h', reachT_done]
      exact refTouches_bb ka xa ya za p0 p1 p2 kb xb yb zb q0 q1 q2 w h h'
    · rw [touchT_bk h h', ← refBallT_eq (by omega) (sub_bounds _ _) (sub_bounds _ _) (sub_bounds _ _) (add_bounds _ _) (add_bounds _ _) (add_bounds _ _) (sides (by omega)) (by rw [hf_else h']; exact sides (by omega)) (by rw [hf_else h']; exact sides (by omega))]
      exact refTouches_bk ka xa ya za p0 p1 p2 kb xb yb zb q0 q1 q2 w h h'
  · by_cases h' : kb = 1
    · rw [touchT_kb h h', ← negT_eq (ballT_low _ _ _ _ _ _ _ _ _ _), ← refBallT_eq (by omega) (sub_bounds _ _) (sub_bounds _ _) (sub_bounds _ _) (add_bounds _ _) (add_bounds _ _) (add_bounds _ _) (sides (by omega)) (by rw [hf_else h]; exact sides (by omega)) (by rw [hf_else h]; exact sides (by omega))]
      exact refTouches_kb ka xa ya za p0 p1 p2 kb xb yb zb q0 q1 q2 w h h'
    · rw [touchT_kk h h', ← refBoxesT_eq]
      exact refTouches_kk ka xa ya za p0 p1 p2 kb xb yb zb q0 q1 q2 w h h'
set_option maxRecDepth 100000 in
set_option maxHeartbeats 8000000 in
theorem geomTouches_calls (ka xa ya za p0 p1 p2 kb xb yb zb q0 q1 q2 : Int) (w : World) : Calls Try.prog 8 #[.agg #[.int .i64 ka, .int .i64 xa, .int .i64 ya, .int .i64 za], .agg #[.int .i64 p0, .int .i64 p1, .int .i64 p2], .agg #[.int .i64 kb, .int .i64 xb, .int .i64 yb, .int .i64 zb], .agg #[.int .i64 q0, .int .i64 q1, .int .i64 q2]] w fun e w' => e = .returned (.bool true) ∧ Kept w w' := by
  cases ra : rightB ka xa ya za with
  | false =>
    go_enter Try.func8, Try.ntmps8
    have HB0 : Aside (ShAAt (w.heap.size) (w.heap.size + 1) (w.heap.size + 1 + 1) (w.heap.size + 1 + 1 + 1) (.int .i64 ka) (.int .i64 xa) (.int .i64 ya) (.int .i64 za) (.int .i64 p0) (.int .i64 p1) (.int .i64 p2) (.int .i64 kb) (.int .i64 xb) (.int .i64 yb) (.int .i64 zb) (.int .i64 q0) (.int .i64 q1) (.int .i64 q2) ((((w.alloc (.cells #[.int .i64 ka, .int .i64 xa, .int .i64 ya, .int .i64 za] 50)).alloc (.cells #[.int .i64 p0, .int .i64 p1, .int .i64 p2] 26)).alloc (.cells #[.int .i64 kb, .int .i64 xb, .int .i64 yb, .int .i64 zb] 50)).alloc (.cells #[.int .i64 q0, .int .i64 q1, .int .i64 q2] 26))) := by
      show ShAAt _ _ _ _ _ _ _ _ _ _ _ _ _ _ _ _ _ _ _
      refine ⟨?_, ?_, ?_, ?_, ?_, ?_, ?_, ?_, ?_, ?_, ?_, ?_, ?_, ?_⟩ <;> go_simp
    go_wp2_with fail
    refine (refRight_calls _ _ _ _ _).mono ?_; rintro e w1 ⟨rfl, k1⟩
    clear HB0
    go_wp2
    go_ret
    exact ⟨rfl, (((((Kept.refl w).alloc _ _).alloc _ _).alloc _ _).alloc _ _).trans k1⟩
  | true =>
    cases rb : rightB kb xb yb zb with
    | false =>
      go_enter Try.func8, Try.ntmps8
      have HB0 : Aside (ShAAt (w.heap.size) (w.heap.size + 1) (w.heap.size + 1 + 1) (w.heap.size + 1 + 1 + 1) (.int .i64 ka) (.int .i64 xa) (.int .i64 ya) (.int .i64 za) (.int .i64 p0) (.int .i64 p1) (.int .i64 p2) (.int .i64 kb) (.int .i64 xb) (.int .i64 yb) (.int .i64 zb) (.int .i64 q0) (.int .i64 q1) (.int .i64 q2) ((((w.alloc (.cells #[.int .i64 ka, .int .i64 xa, .int .i64 ya, .int .i64 za] 50)).alloc (.cells #[.int .i64 p0, .int .i64 p1, .int .i64 p2] 26)).alloc (.cells #[.int .i64 kb, .int .i64 xb, .int .i64 yb, .int .i64 zb] 50)).alloc (.cells #[.int .i64 q0, .int .i64 q1, .int .i64 q2] 26))) := by
        show ShAAt _ _ _ _ _ _ _ _ _ _ _ _ _ _ _ _ _ _ _
        refine ⟨?_, ?_, ?_, ?_, ?_, ?_, ?_, ?_, ?_, ?_, ?_, ?_, ?_, ?_⟩ <;> go_simp
      go_wp2_with fail
      refine (refRight_calls _ _ _ _ _).mono ?_; rintro e w1 ⟨rfl, k1⟩
      obtain ⟨t0, t1, t2, t3, t4, t5, t6, t7, t8, t9, t10, t11, t12, t13⟩ := HB0.out.step (k1)
      go_wp2_with fail
      refine (refRight_calls _ _ _ _ _).mono ?_; rintro e w2 ⟨rfl, k2⟩
      clear HB0 t0 t1 t2 t3 t4 t5 t6 t7 t8 t9 t10 t11 t12 t13
      go_wp2
      go_ret
      exact ⟨rfl, ((((((Kept.refl w).alloc _ _).alloc _ _).alloc _ _).alloc _ _).trans k1).trans k2⟩
    | true =>
      go_enter Try.func8, Try.ntmps8
      have HB0 : Aside (ShAAt (w.heap.size) (w.heap.size + 1) (w.heap.size + 1 + 1) (w.heap.size + 1 + 1 + 1) (.int .i64 ka) (.int .i64 xa) (.int .i64 ya) (.int .i64 za) (.int .i64 p0) (.int .i64 p1) (.int .i64 p2) (.int .i64 kb) (.int .i64 xb) (.int .i64 yb) (.int .i64 zb) (.int .i64 q0) (.int .i64 q1) (.int .i64 q2) ((((w.alloc (.cells #[.int .i64 ka, .int .i64 xa, .int .i64 ya, .int .i64 za] 50)).alloc (.cells #[.int .i64 p0, .int .i64 p1, .int .i64 p2] 26)).alloc (.cells #[.int .i64 kb, .int .i64 xb, .int .i64 yb, .int .i64 zb] 50)).alloc (.cells #[.int .i64 q0, .int .i64 q1, .int .i64 q2] 26))) := by
        show ShAAt _ _ _ _ _ _ _ _ _ _ _ _ _ _ _ _ _ _ _
        refine ⟨?_, ?_, ?_, ?_, ?_, ?_, ?_, ?_, ?_, ?_, ?_, ?_, ?_, ?_⟩ <;> go_simp
      go_wp2_with fail
      refine (refRight_calls _ _ _ _ _).mono ?_; rintro e w1 ⟨rfl, k1⟩
      obtain ⟨t0, t1, t2, t3, t4, t5, t6, t7, t8, t9, t10, t11, t12, t13⟩ := HB0.out.step (k1)
      go_wp2_with fail
      refine (refRight_calls _ _ _ _ _).mono ?_; rintro e w2 ⟨rfl, k2⟩
      obtain ⟨t0, t1, t2, t3, t4, t5, t6, t7, t8, t9, t10, t11, t12, t13⟩ := HB0.out.step (k1.trans k2)
      go_wp2_with fail
      refine (gTouches_calls _ _ _ _ _ _ _ _ _ _ _ _ _ _ _).mono ?_; rintro e w3 ⟨rfl, k3⟩
      clear t0 t1 t2 t3 t4 t5 t6 t7 t8 t9 t10 t11 t12 t13
      obtain ⟨t0, t1, t2, t3, t4, t5, t6, t7, t8, t9, t10, t11, t12, t13⟩ := HB0.out.step ((k1.trans k2).trans k3)
      have l0 := later t0
      have l1 := later t1
      have l2 := later t2
      have l3 := later t3
      have l4 := later t4
      have l5 := later t5
      have l6 := later t6
      have l7 := later t7
      have l8 := later t8
      have l9 := later t9
      have l10 := later t10
      have l11 := later t11
      have l12 := later t12
      have l13 := later t13
      clear t0 t1 t2 t3 t4 t5 t6 t7 t8 t9 t10 t11 t12 t13
      have hk3 : Kept w w3 := (((((((Kept.refl w).alloc _ _).alloc _ _).alloc _ _).alloc _ _).trans k1).trans k2).trans k3
      obtain ⟨t, ht⟩ : ∃ t, touchT ka xa ya za p0 p1 p2 kb xb yb zb q0 q1 q2 = t := ⟨_, rfl⟩
      have HT : Aside (touchT ka xa ya za p0 p1 p2 kb xb yb zb q0 q1 q2 = t) := ht
      rw [ht]
      clear ht
      go_wp2_with fail
      refine (refTouches_calls ka xa ya za p0 p1 p2 kb xb yb zb q0 q1 q2 _ ra rb).mono ?_; rintro e w4 ⟨rfl, k4⟩
      rw [HT.out]
      clear HB0 k1 k2 k3 l0 l1 l2 l3 l4 l5 l6 l7 l8 l9 l10 l11 l12 l13
      have d0 := later (kept_cell k4 (a := ⟨w3.heap.size, 0, none⟩) (v := .int .i64 (t.x)) (by go_simp))
      have d1 := later (kept_cell k4 (a := ⟨w3.heap.size, 1, none⟩) (v := .int .i64 (t.y)) (by go_simp))
      have d2 := later (kept_cell k4 (a := ⟨w3.heap.size, 2, none⟩) (v := .int .i64 (t.z)) (by go_simp))
      have hk4 : Kept w w4 := (hk3.alloc _ _).trans k4
      clear k4 hk3
      have e0 : (t.ok == t.ok) = true := by simp
      have e1 : (t.d == t.d) = true := by simp
      go_wp2
      go_ret
      exact ⟨rfl, hk4.alloc _ _⟩
end Go.Proofs.Ythhpcfnoiooopaa
