/- . -/
import Derived.Test.YtbenlgandjjopaaGreatDoorN24
import Derived.Test.YtbenlgandjjopaaGreatDoorN28
namespace Go.Proofs.YtbenlgandjjopaaGreatDoor
theorem or_d (m c : Ex) : (m.or c).d = min c.d m.d := by
 unfold Ex.or; split <;> omega
def Low (t : T) : Prop := (-70368744177664 ≤ t.x ∧ t.x ≤ 70368744177664) ∧ (-70368744177664 ≤ t.y ∧ t.y ≤ 70368744177664) ∧ -70368744177664 ≤ t.z ∧ t.z ≤ 70368744177664
theorem yen : Low noT := by unfold Low noT; simp
theorem yfu (a : Int) : -70368744177664 ≤ endless a ∧ endless a ≤ 70368744177664 := by
 unfold endless; split
 ·omega
 ·split <;> omega
theorem div_low (a b : Int) : -70368744177664 ≤ div a b ∧ div a b ≤ 70368744177664 := by
 unfold div; split
 ·exact yfu _
 ·exact ⟨y1a _,y19 _⟩
theorem y4k (l d n : Int) (h : 0 ≤ d ∧ d ≤ 65536) : -70368744177664 ≤ unitPart l d n ∧ unitPart l d n ≤ 70368744177664 := by
 unfold unitPart; split
 ·omega
 ·exact div_low _ _
theorem y6n (s x y z : Int) : Low (reachT s x y z) := by
 unfold reachT; split
 ·exact yen
 ·exact ⟨y4k _ _ _ (by omega),y4k _ _ _ (by omega),y4k _ _ _ (by omega)⟩
def Small (e : Ex) : Prop := (-65536 ≤ e.x ∧ e.x ≤ 65536) ∧ (-65536 ≤ e.y ∧ e.y ≤ 65536) ∧ -65536 ≤ e.z ∧ e.z ≤ 65536
theorem y5q {m c : Ex} (h : Small m) (k : Small c) : Small (m.or c) := by unfold Ex.or; split <;> assumption
theorem y6i (a0 a1 a2 a3 a4 a5 b0 b1 b2 b3 b4 b5 : Int) : Small (outE a0 a1 a2 a3 a4 a5 b0 b1 b2 b3 b4 b5) := by
 unfold outE pickE;refine y5q (y5q (y5q (y5q (y5q ?_ ?_) ?_) ?_) ?_) ?_ <;> (unfold Small; simp)
theorem y45 (s p0 p1 p2 b0 b1 b2 b3 b4 b5 : Int) : Low (ballT s p0 p1 p2 b0 b1 b2 b3 b4 b5) := by
 unfold ballT ballV; split
 ·have h := y6i p0 p1 p2 p0 p1 p2 b0 b1 b2 b3 b4 b5
  unfold Small at h;unfold Low inT;dsimp only;omega
 ·exact y6n _ _ _ _
theorem y1g {x : Int} (h : -70368744177664 ≤ x ∧ x ≤ 70368744177664) : sub 0 x = -x := by
 unfold sub; rw [y0l h.1 h.2,y0l (n := 0) (by omega) (by omega),y0l (by omega) (by omega)]; omega
end Go.Proofs.YtbenlgandjjopaaGreatDoor
