/- Cells of package interest: three numbers from 0 to 20; spots; which cell a place lies in: plain functions and facts. -/
import Derived.Test.YtdbjbjgnkkhgcaaBr1
import Derived.Test.YtdbjbjgnkkhgcaaMath
namespace Go.Proofs.Ytdbjbjgnkkhgcaa
open Go.ChangeShapes Go.WideShapes Go.ChangeAt Go.RowKit
set_option linter.unusedVariables false
set_option linter.unusedSimpArgs false

structure Cel where
  x : Fin 21
  y : Fin 21
  z : Fin 21
set_option linter.unusedSectionVars false
variable [DecidableEq Cel]
structure Spt where
  id : Int
  tm : Int
  bx : Bx
def celV (c : Cel) : Value := .agg #[.int .i64 ((c.x.val : Int)), .int .i64 ((c.y.val : Int)), .int .i64 ((c.z.val : Int))]
theorem celV_inj {c d : Cel} (h : celV c = celV d) : c = d := by
  obtain ⟨⟨a, _⟩, ⟨b, _⟩, ⟨e, _⟩⟩ := c
  obtain ⟨⟨a', _⟩, ⟨b', _⟩, ⟨e', _⟩⟩ := d
  simp only [celV, Value.agg.injEq, Array.mk.injEq, List.cons.injEq, Value.int.injEq, true_and, and_true, Int.natCast_inj] at h
  simp only [Cel.mk.injEq, Fin.mk.injEq]
  exact h
/-- The cell's number, in one direction, of a place. -/
def celN (n : Int) : Nat := ((cl 65536000 n + 65536000) / 6553600).toNat
theorem cl_both' (n : Int) : -65536000 ≤ cl 65536000 n ∧ cl 65536000 n ≤ 65536000 := by unfold cl; split <;> (try split) <;> omega
theorem celN_lt (n : Int) : celN n < 21 := by
  have := cl_both' n
  unfold celN; omega
theorem celN_eq (n : Int) : ((celN n : Nat) : Int) = (cl 65536000 n + 65536000) / 6553600 := by
  have := cl_both' n
  unfold celN; omega
theorem cl_mono {k m n : Int} (h0 : 0 ≤ k) (h : m ≤ n) : cl k m ≤ cl k n := by unfold cl; repeat' split <;> omega
theorem celN_mono {m n : Int} (h : m ≤ n) : celN m ≤ celN n := by
  have h1 := cl_mono (k := 65536000) (by omega) h
  have h2 := celN_eq m
  have h3 := celN_eq n
  omega
def celOf (a b c : Int) : Cel := ⟨⟨celN a, celN_lt a⟩, ⟨celN b, celN_lt b⟩, ⟨celN c, celN_lt c⟩⟩
def btw (l c h : Cel) : Bool := decide (l.x.val ≤ c.x.val ∧ c.x.val ≤ h.x.val ∧ l.y.val ≤ c.y.val ∧ c.y.val ≤ h.y.val ∧ l.z.val ≤ c.z.val ∧ c.z.val ≤ h.z.val)
/-- A spot's box is one around its place, which lies in this cell. -/
def Home (c : Cel) (s : Spt) : Prop := ∃ px py pz hx hy hz : Int, (-65536000 ≤ px ∧ px ≤ 65536000) ∧ (-65536000 ≤ py ∧ py ≤ 65536000) ∧ (-65536000 ≤ pz ∧ pz ≤ 65536000) ∧ (0 ≤ hx ∧ hx ≤ 3276800) ∧ (0 ≤ hy ∧ hy ≤ 3276800) ∧ (0 ≤ hz ∧ hz ≤ 3276800) ∧
  c = celOf px py pz ∧ s.bx = ⟨px - hx, py - hy, pz - hz, px + hx, py + hy, pz + hz⟩
theorem reach_low {s p h e : Int} (hp : -65536000 ≤ p ∧ p ≤ 65536000) (hh : 0 ≤ h ∧ h ≤ 3276800) (m : s ≤ p + h) : sub s 3276800 ≤ p := by
  unfold sub cut; repeat' split <;> omega
theorem reach_high {s p h e : Int} (hp : -65536000 ≤ p ∧ p ≤ 65536000) (hh : 0 ≤ h ∧ h ≤ 3276800) (m : p - h ≤ s) : p ≤ add s 3276800 := by
  unfold add cut; repeat' split <;> omega
/-- Who meets the sight lies in a cell that is looked into. -/
theorem Home.lies {c : Cel} {s : Spt} (h : Home c s) {q : Bx} (m : (s.bx.x0 ≤ q.x3 ∧ q.x0 ≤ s.bx.x3) ∧ (s.bx.x1 ≤ q.x4 ∧ q.x1 ≤ s.bx.x4) ∧ (s.bx.x2 ≤ q.x5 ∧ q.x2 ≤ s.bx.x5)) :
    btw (celOf (sub q.x0 3276800) (sub q.x1 3276800) (sub q.x2 3276800)) c (celOf (add q.x3 3276800) (add q.x4 3276800) (add q.x5 3276800)) = true := by
  obtain ⟨px, py, pz, hx, hy, hz, h1, h2, h3, k1, k2, k3, rfl, e⟩ := h
  rw [e] at m
  simp only at m
  exact decide_eq_true ⟨celN_mono (reach_low (e := 0) h1 k1 m.1.2), celN_mono (reach_high (e := 0) h1 k1 m.1.1), celN_mono (reach_low (e := 0) h2 k2 m.2.1.2), celN_mono (reach_high (e := 0) h2 k2 m.2.1.1), celN_mono (reach_low (e := 0) h3 k3 m.2.2.2), celN_mono (reach_high (e := 0) h3 k3 m.2.2.1)⟩
end Go.Proofs.Ytdbjbjgnkkhgcaa
