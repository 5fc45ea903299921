/- How vectors, boxes and shapes lie in a world, opened and shut: whatever the world; no condition but those typed. -/
import Derived.Test.YthhpcfnoiooopaaBase
import Derived.Lib.SmallJoins
import Derived.Carry
namespace Go.Proofs.Ythhpcfnoiooopaa
open Go.ChangeShapes Go.WideShapes Go.ChangeAt Go.RowKit Go.Joins Go.Deep
variable {H : Type} {enc : TypeId × Value → H} {w : World} {base : Nat} {sp : Nat → Bool} {held : Bool}

theorem cellsInt : Try.prog.cellsOf 3 = 1 := by kernel_rfl
theorem cellsVec : Try.prog.cellsOf 26 = 3 := by kernel_rfl
theorem cellsBox : Try.prog.cellsOf 37 = 6 := by kernel_rfl
theorem cellsShape : Try.prog.cellsOf 50 = 4 := by kernel_rfl

def intD (x : Int) : DataW H := .lit (.int .i64 x)
def vecD (x y z : Int) : DataW H := .agg [intD x, intD y, intD z]
def In (x : Int) : Prop := (Lit.int .i64 x).wf = true
theorem In.le {x : Int} (h : In x) : x ≤ 9223372036854775807 := (bounds_i64 h).2
theorem In.ge {x : Int} (h : In x) : -9223372036854775808 ≤ x := (bounds_i64 h).1

theorem int_open {fuel : Nat} {cs : List Value} {x : DataW H × List MemPlace} (h : DataW.trod enc Try.prog w base sp held fuel 3 cs = some x) : ∃ a, cs = [.int .i64 a] ∧ x = (intD a, []) ∧ In a :=
  DataW.trod_int Try.underlying3 h
theorem int_shut {a : Int} (m : Nat) (h : In a) : DataW.trod enc Try.prog w base sp held (m + 1) 3 [.int .i64 a] = some (intD a, []) := trod_int_mk m Try.underlying3 h
theorem vec_open {fuel : Nat} {cs : List Value} {x : DataW H × List MemPlace} (h : DataW.trod enc Try.prog w base sp held fuel 26 cs = some x) : ∃ a b c, cs = [.int .i64 a, .int .i64 b, .int .i64 c] ∧ x = (vecD a b c, []) ∧ In a ∧ In b ∧ In c := by
  obtain ⟨y0, y1, y2, n, rfl, hl, h0, h1, h2⟩ := trod_struct3 Try.underlying26 h
  rw [cellsVec] at hl
  match cs, hl with
  | [c0, c1, c2], _ =>
    simp only [cellsInt] at h0 h1 h2
    obtain ⟨a, e0, rfl, i0⟩ := int_open h0
    obtain ⟨b, e1, rfl, i1⟩ := int_open h1
    obtain ⟨c, e2, rfl, i2⟩ := int_open h2
    simp at e0 e1 e2
    subst e0 e1 e2
    exact ⟨a, b, c, rfl, rfl, i0, i1, i2⟩
theorem vec_shut {a b c : Int} (m : Nat) (h0 : In a) (h1 : In b) (h2 : In c) : DataW.trod enc Try.prog w base sp held (m + 2) 26 [.int .i64 a, .int .i64 b, .int .i64 c] = some (vecD a b c, []) :=
  trod_struct3_mk (n := m + 1) (y0 := (intD a, [])) (y1 := (intD b, [])) (y2 := (intD c, [])) Try.underlying26 (by rw [cellsVec]; rfl) (by simpa [cellsInt] using int_shut m h0) (by simpa [cellsInt] using int_shut m h1) (by simpa [cellsInt] using int_shut m h2)
theorem box_open {fuel : Nat} {cs : List Value} {x : DataW H × List MemPlace} (h : DataW.trod enc Try.prog w base sp held fuel 37 cs = some x) :
    ∃ a b c a' b' c', cs = [.int .i64 a, .int .i64 b, .int .i64 c, .int .i64 a', .int .i64 b', .int .i64 c'] ∧ x = (.agg [vecD a b c, vecD a' b' c'], []) ∧ (In a ∧ In b ∧ In c) ∧ In a' ∧ In b' ∧ In c' := by
  obtain ⟨y0, y1, n, rfl, hl, h0, h1⟩ := trod_struct2 Try.underlying37 h
  rw [cellsBox] at hl
  match cs, hl with
  | [c0, c1, c2, c3, c4, c5], _ =>
    simp only [cellsVec] at h0 h1
    obtain ⟨a, b, c, e0, rfl, i0⟩ := vec_open h0
    obtain ⟨a', b', c', e1, rfl, i1⟩ := vec_open h1
    simp at e0 e1
    obtain ⟨rfl, rfl, rfl⟩ := e0
    obtain ⟨rfl, rfl, rfl⟩ := e1
    exact ⟨a, b, c, a', b', c', rfl, rfl, i0, i1⟩
theorem box_shut {a b c a' b' c' : Int} (m : Nat) (h : In a ∧ In b ∧ In c) (h' : In a' ∧ In b' ∧ In c') :
    DataW.trod enc Try.prog w base sp held (m + 3) 37 [.int .i64 a, .int .i64 b, .int .i64 c, .int .i64 a', .int .i64 b', .int .i64 c'] = some (.agg [vecD a b c, vecD a' b' c'], []) :=
  trod_struct2_mk (n := m + 2) (y0 := (vecD a b c, [])) (y1 := (vecD a' b' c', [])) Try.underlying37 (by rw [cellsBox]; rfl) (by simpa [cellsVec] using vec_shut m h.1 h.2.1 h.2.2) (by simpa [cellsVec] using vec_shut m h'.1 h'.2.1 h'.2.2)
theorem shape_open {fuel : Nat} {cs : List Value} {x : DataW H × List MemPlace} (h : DataW.trod enc Try.prog w base sp held fuel 50 cs = some x) :
    ∃ k a b c, cs = [.int .i64 k, .int .i64 a, .int .i64 b, .int .i64 c] ∧ x = (.agg [intD k, vecD a b c], []) ∧ In k ∧ In a ∧ In b ∧ In c := by
  obtain ⟨y0, y1, n, rfl, hl, h0, h1⟩ := trod_struct2 Try.underlying50 h
  rw [cellsShape] at hl
  match cs, hl with
  | [c0, c1, c2, c3], _ =>
    simp only [cellsVec, cellsInt] at h0 h1
    obtain ⟨k, e0, rfl, i0⟩ := int_open h0
    obtain ⟨a, b, c, e1, rfl, i1⟩ := vec_open h1
    simp at e0 e1
    subst e0
    obtain ⟨rfl, rfl, rfl⟩ := e1
    exact ⟨k, a, b, c, rfl, rfl, i0, i1⟩
theorem shape_shut {k a b c : Int} (m : Nat) (h : In k ∧ In a ∧ In b ∧ In c) :
    DataW.trod enc Try.prog w base sp held (m + 3) 50 [.int .i64 k, .int .i64 a, .int .i64 b, .int .i64 c] = some (.agg [intD k, vecD a b c], []) :=
  trod_struct2_mk (n := m + 2) (y0 := (intD k, [])) (y1 := (vecD a b c, [])) Try.underlying50 (by rw [cellsShape]; rfl) (by simpa [cellsInt] using int_shut (m + 1) h.1) (by simpa [cellsVec] using vec_shut m h.2.1 h.2.2.1 h.2.2.2)

/-! Whole arguments -/
theorem arg_vec {r : Reach} {b0 : Nat} {v : Value} {d : DataW H} {p : List MemPlace} (hv : Value.okWide Try.prog w r b0 26 v) (h : DataW.Trod enc Try.prog w base sp held 26 v d p) :
    ∃ a b c, v = .agg #[.int .i64 a, .int .i64 b, .int .i64 c] ∧ d = vecD a b c ∧ p = [] ∧ In a ∧ In b ∧ In c := by
  obtain ⟨cs, rfl, _⟩ := okWide_struct Try.underlying26 hv
  obtain ⟨fuel, hf⟩ := h
  obtain ⟨a, b, c, e, hx, i⟩ := vec_open hf
  cases hx
  exact ⟨a, b, c, congrArg Value.agg (Array.ext' e), rfl, rfl, i⟩
theorem arg_box {r : Reach} {b0 : Nat} {v : Value} {d : DataW H} {p : List MemPlace} (hv : Value.okWide Try.prog w r b0 37 v) (h : DataW.Trod enc Try.prog w base sp held 37 v d p) :
    ∃ a b c a' b' c', v = .agg #[.int .i64 a, .int .i64 b, .int .i64 c, .int .i64 a', .int .i64 b', .int .i64 c'] ∧ d = .agg [vecD a b c, vecD a' b' c'] ∧ p = [] ∧ (In a ∧ In b ∧ In c) ∧ In a' ∧ In b' ∧ In c' := by
  obtain ⟨cs, rfl, _⟩ := okWide_struct Try.underlying37 hv
  obtain ⟨fuel, hf⟩ := h
  obtain ⟨a, b, c, a', b', c', e, hx, i⟩ := box_open hf
  cases hx
  exact ⟨a, b, c, a', b', c', congrArg Value.agg (Array.ext' e), rfl, rfl, i⟩
theorem arg_shape {r : Reach} {b0 : Nat} {v : Value} {d : DataW H} {p : List MemPlace} (hv : Value.okWide Try.prog w r b0 50 v) (h : DataW.Trod enc Try.prog w base sp held 50 v d p) :
    ∃ k a b c, v = .agg #[.int .i64 k, .int .i64 a, .int .i64 b, .int .i64 c] ∧ d = .agg [intD k, vecD a b c] ∧ p = [] ∧ In k ∧ In a ∧ In b ∧ In c := by
  obtain ⟨cs, rfl, _⟩ := okWide_struct Try.underlying50 hv
  obtain ⟨fuel, hf⟩ := h
  obtain ⟨k, a, b, c, e, hx, i⟩ := shape_open hf
  cases hx
  exact ⟨k, a, b, c, congrArg Value.agg (Array.ext' e), rfl, rfl, i⟩
theorem put_vec {a b c : Int} (i : In a ∧ In b ∧ In c) : DataW.Trod enc Try.prog w base sp held 26 (.agg #[.int .i64 a, .int .i64 b, .int .i64 c]) (vecD a b c) [] := ⟨2, vec_shut 0 i.1 i.2.1 i.2.2⟩
theorem put_box {a b c a' b' c' : Int} (i : (In a ∧ In b ∧ In c) ∧ In a' ∧ In b' ∧ In c') : DataW.Trod enc Try.prog w base sp held 37 (.agg #[.int .i64 a, .int .i64 b, .int .i64 c, .int .i64 a', .int .i64 b', .int .i64 c']) (.agg [vecD a b c, vecD a' b' c']) [] := ⟨3, box_shut 0 i.1 i.2⟩
theorem put_shape {k a b c : Int} (i : In k ∧ In a ∧ In b ∧ In c) : DataW.Trod enc Try.prog w base sp held 50 (.agg #[.int .i64 k, .int .i64 a, .int .i64 b, .int .i64 c]) (.agg [intD k, vecD a b c]) [] := ⟨3, shape_shut 0 i⟩
end Go.Proofs.Ythhpcfnoiooopaa
