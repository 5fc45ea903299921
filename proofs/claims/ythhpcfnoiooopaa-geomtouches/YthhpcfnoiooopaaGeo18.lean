/- What holds of touches as numbers: who touches is touched. No Go text. -/
import Derived.Test.YthhpcfnoiooopaaGeo17
import Derived.Test.YthhpcfnoiooopaaGeo11
namespace Go.Proofs.Ythhpcfnoiooopaa

theorem add_swap (a b : Int) : add a b = add b a := by unfold add; congr 1; omega
theorem mul_nn (x : Int) : mul (-x) (-x) = mul x x := by
  unfold mul; rw [cut_neg, Int.neg_mul_neg]
theorem long_turn (x y z : Int) : long (-x) (-y) (-z) = long x y z := by
  unfold long dot; rw [mul_nn x, mul_nn y, mul_nn z]
theorem long_swap (a b c a' b' c' : Int) : long (sub a a') (sub b b') (sub c c') = long (sub a' a) (sub b' b) (sub c' c) := by
  rw [sub_swap a a', sub_swap b b', sub_swap c c']
  exact long_turn _ _ _
theorem reachT_d {s x y z s' x' y' z' : Int} (hs : s = s') (hl : long x y z = long x' y' z') : (reachT s x y z).d = (reachT s' x' y' z').d ∧ (reachT s x y z).ok = (reachT s' x' y' z').ok := by
  subst hs
  unfold reachT
  rw [hl]
  split
  · exact ⟨rfl, rfl⟩
  · exact ⟨rfl, rfl⟩
theorem or_d (m c : Ex) : (m.or c).d = min c.d m.d := by
  unfold Ex.or; split <;> omega
theorem outE_d (a0 a1 a2 a3 a4 a5 b0 b1 b2 b3 b4 b5 : Int) : (outE a0 a1 a2 a3 a4 a5 b0 b1 b2 b3 b4 b5).d = (outE b0 b1 b2 b3 b4 b5 a0 a1 a2 a3 a4 a5).d := by
  unfold outE pickE
  simp only [or_d]
  omega
theorem meetB_swap (a0 a1 a2 a3 a4 a5 b0 b1 b2 b3 b4 b5 : Int) : meetB a0 a1 a2 a3 a4 a5 b0 b1 b2 b3 b4 b5 = meetB b0 b1 b2 b3 b4 b5 a0 a1 a2 a3 a4 a5 := by
  rw [Bool.eq_iff_iff, meetB_iff, meetB_iff]; omega
theorem boxesT_d (a0 a1 a2 a3 a4 a5 b0 b1 b2 b3 b4 b5 : Int) : (boxesT a0 a1 a2 a3 a4 a5 b0 b1 b2 b3 b4 b5).d = (boxesT b0 b1 b2 b3 b4 b5 a0 a1 a2 a3 a4 a5).d ∧ (boxesT a0 a1 a2 a3 a4 a5 b0 b1 b2 b3 b4 b5).ok = (boxesT b0 b1 b2 b3 b4 b5 a0 a1 a2 a3 a4 a5).ok := by
  unfold boxesT
  rw [meetB_swap a0 a1 a2 a3 a4 a5 b0 b1 b2 b3 b4 b5, outE_d a0 a1 a2 a3 a4 a5 b0 b1 b2 b3 b4 b5]
  split
  · exact ⟨rfl, rfl⟩
  · exact ⟨rfl, rfl⟩
/-- A way's parts stay within bounds. -/
def Low (t : T) : Prop := (-70368744177664 ≤ t.x ∧ t.x ≤ 70368744177664) ∧ (-70368744177664 ≤ t.y ∧ t.y ≤ 70368744177664) ∧ -70368744177664 ≤ t.z ∧ t.z ≤ 70368744177664
theorem noT_low : Low noT := by unfold Low noT; simp
theorem endless_low (a : Int) : -70368744177664 ≤ endless a ∧ endless a ≤ 70368744177664 := by
  unfold endless; split
  · omega
  · split <;> omega
theorem div_low (a b : Int) : -70368744177664 ≤ div a b ∧ div a b ≤ 70368744177664 := by
  unfold div; split
  · exact endless_low _
  · exact ⟨cut_ge _, cut_le _⟩
theorem unitPart_low (l d n : Int) (h : 0 ≤ d ∧ d ≤ 65536) : -70368744177664 ≤ unitPart l d n ∧ unitPart l d n ≤ 70368744177664 := by
  unfold unitPart; split
  · omega
  · exact div_low _ _
theorem reachT_low (s x y z : Int) : Low (reachT s x y z) := by
  unfold reachT; split
  · exact noT_low
  · exact ⟨unitPart_low _ _ _ (by omega), unitPart_low _ _ _ (by omega), unitPart_low _ _ _ (by omega)⟩
def Small (e : Ex) : Prop := (-65536 ≤ e.x ∧ e.x ≤ 65536) ∧ (-65536 ≤ e.y ∧ e.y ≤ 65536) ∧ -65536 ≤ e.z ∧ e.z ≤ 65536
theorem or_small {m c : Ex} (h : Small m) (k : Small c) : Small (m.or c) := by unfold Ex.or; split <;> assumption
theorem outE_small (a0 a1 a2 a3 a4 a5 b0 b1 b2 b3 b4 b5 : Int) : Small (outE a0 a1 a2 a3 a4 a5 b0 b1 b2 b3 b4 b5) := by
  unfold outE pickE
  refine or_small (or_small (or_small (or_small (or_small ?_ ?_) ?_) ?_) ?_) ?_ <;> (unfold Small; simp)
theorem ballT_low (s p0 p1 p2 b0 b1 b2 b3 b4 b5 : Int) : Low (ballT s p0 p1 p2 b0 b1 b2 b3 b4 b5) := by
  unfold ballT ballV; split
  · have h := outE_small p0 p1 p2 p0 p1 p2 b0 b1 b2 b3 b4 b5
    unfold Small at h
    unfold Low inT
    dsimp only
    omega
  · exact reachT_low _ _ _ _
theorem boxesT_low (a0 a1 a2 a3 a4 a5 b0 b1 b2 b3 b4 b5 : Int) : Low (boxesT a0 a1 a2 a3 a4 a5 b0 b1 b2 b3 b4 b5) := by
  unfold boxesT; split
  · have h := outE_small a0 a1 a2 a3 a4 a5 b0 b1 b2 b3 b4 b5
    unfold Small at h
    unfold Low
    dsimp only
    omega
  · exact noT_low
theorem sub_zero' {x : Int} (h : -70368744177664 ≤ x ∧ x ≤ 70368744177664) : sub 0 x = -x := by
  unfold sub; rw [cut_in h.1 h.2, cut_in (n := 0) (by omega) (by omega), cut_in (by omega) (by omega)]; omega
theorem turnT_low {t : T} (h : Low t) : Low (turnT t) := by
  obtain ⟨h1, h2, h3⟩ := h
  unfold turnT Low; rw [sub_zero' h1, sub_zero' h2, sub_zero' h3]; dsimp only; omega
theorem touchT_low (ka xa ya za p0 p1 p2 kb xb yb zb q0 q1 q2 : Int) : Low (touchT ka xa ya za p0 p1 p2 kb xb yb zb q0 q1 q2) := by
  unfold touchT; split
  · split
    · exact reachT_low _ _ _ _
    · exact ballT_low _ _ _ _ _ _ _ _ _ _
  · split
    · exact turnT_low (ballT_low _ _ _ _ _ _ _ _ _ _)
    · exact boxesT_low _ _ _ _ _ _ _ _ _ _ _ _
/-- Who touches is touched, and as deep. -/
theorem touch_same (ka xa ya za p0 p1 p2 kb xb yb zb q0 q1 q2 : Int) : (touchT ka xa ya za p0 p1 p2 kb xb yb zb q0 q1 q2).d = (touchT kb xb yb zb q0 q1 q2 ka xa ya za p0 p1 p2).d ∧ (touchT ka xa ya za p0 p1 p2 kb xb yb zb q0 q1 q2).ok = (touchT kb xb yb zb q0 q1 q2 ka xa ya za p0 p1 p2).ok := by
  by_cases h : ka = 1
  · by_cases h' : kb = 1
    · rw [touchT_bb h h', touchT_bb h' h]
      exact reachT_d (add_swap _ _) (long_swap _ _ _ _ _ _)
    · rw [touchT_bk h h', touchT_kb h' h]; exact ⟨rfl, rfl⟩
  · by_cases h' : kb = 1
    · rw [touchT_kb h h', touchT_bk h' h]; exact ⟨rfl, rfl⟩
    · rw [touchT_kk h h', touchT_kk h' h]; exact boxesT_d _ _ _ _ _ _ _ _ _ _ _ _
/-- Of a Ball and a Block the way is turned round. -/
theorem touch_turned (ka xa ya za p0 p1 p2 kb xb yb zb q0 q1 q2 : Int) (ha : rightB ka xa ya za = true) (hb : rightB kb xb yb zb = true) (hm : ka ≠ kb) :
    (touchT ka xa ya za p0 p1 p2 kb xb yb zb q0 q1 q2).x = -(touchT kb xb yb zb q0 q1 q2 ka xa ya za p0 p1 p2).x ∧ (touchT ka xa ya za p0 p1 p2 kb xb yb zb q0 q1 q2).y = -(touchT kb xb yb zb q0 q1 q2 ka xa ya za p0 p1 p2).y ∧ (touchT ka xa ya za p0 p1 p2 kb xb yb zb q0 q1 q2).z = -(touchT kb xb yb zb q0 q1 q2 ka xa ya za p0 p1 p2).z := by
  rw [rightB_iff] at ha hb
  by_cases h : ka = 1
  · have h' : ¬ kb = 1 := by omega
    rw [touchT_bk h h', touchT_kb h' h]
    obtain ⟨l1, l2, l3⟩ := ballT_low xa p0 p1 p2 (sub q0 xb) (sub q1 (hf kb xb yb)) (sub q2 (hf kb xb zb)) (add q0 xb) (add q1 (hf kb xb yb)) (add q2 (hf kb xb zb))
    unfold turnT
    rw [sub_zero' l1, sub_zero' l2, sub_zero' l3]; dsimp only; omega
  · have h' : kb = 1 := by omega
    rw [touchT_kb h h', touchT_bk h' h]
    obtain ⟨l1, l2, l3⟩ := ballT_low xb q0 q1 q2 (sub p0 xa) (sub p1 (hf ka xa ya)) (sub p2 (hf ka xa za)) (add p0 xa) (add p1 (hf ka xa ya)) (add p2 (hf ka xa za))
    unfold turnT
    rw [sub_zero' l1, sub_zero' l2, sub_zero' l3]; exact ⟨rfl, rfl, rfl⟩
end Go.Proofs.Ythhpcfnoiooopaa
