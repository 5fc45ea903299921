/- gyrelaw.SessionPlays: whichever numbers, whichever tries: true. -/
import Derived.Test.YtepgcpcanbekaaaDoorSe4
import Derived.Test.YtepgcpcanbekaaaDoorAt3
namespace Go.Proofs.YtepgcpcanbekaaaDoor
open Go.ChangeShapes Go.WideShapes Go.ChangeAt Go.RowKit
set_option linter.unusedVariables false
set_option linter.unusedSimpArgs false

structure Tr where
  wt : Int
  tok : Int
  n : Int
def tr0 : Tr := ⟨0, 0, 0⟩
def TriesAt (w : World) (a : Option Addr) (len : Nat) (M : Nat → Tr) : Prop :=
  ∀ j, j < len → ∃ b o, a = some ⟨b, o, none⟩ ∧ w.cell? ⟨b, o + j * 3, none⟩ = some (.int .i64 ((M j).wt)) ∧ w.cell? ⟨b, o + j * 3 + 1, none⟩ = some (.int .i64 ((M j).tok)) ∧ w.cell? ⟨b, o + j * 3 + 2, none⟩ = some (.int .i64 ((M j).n))
theorem TriesAt.only {w w' : World} {a : Option Addr} {len : Nat} {M : Nat → Tr} (h : TriesAt w a len M) (o : Only [] w w') : TriesAt w' a len M := fun j hj => by
  obtain ⟨b, q, e, h0, h1, h2⟩ := h j hj
  exact ⟨b, q, e, o.cell h0 (by simp), o.cell h1 (by simp), o.cell h2 (by simp)⟩
theorem EtIs.only {w w' : World} (h : EtIs w) (o : Only [] w w') : EtIs w' := o.cell h (by simp)
theorem bareE_calls (c : Int) (w : World) (hg : EtIs w) : Calls Tryd.prog 11 #[eV c, .int .i64 c] w fun e w' => e = .returned (.bool true) ∧ Kept w w' := by
  by_cases hc : c = 0
  · subst hc
    refine (bareNil_calls 0 w).mono ?_
    rintro e w' ⟨rfl, k⟩
    exact ⟨rfl, k⟩
  · rw [show eV c = .iface 40 (.int .i64 c) from if_neg hc]
    refine (bareErr_calls c c w hg).mono ?_
    rintro e w' ⟨rfl, k⟩
    exact ⟨by simp, k⟩
/-- A session and a wicket side by side. -/
structure Both (w : World) (x y : Nat) (tok most each : Int) (s : Se) (S : List Int) (wr : World) : Prop where
  se : SeAt wr x s
  ok : SeOk s
  came : Came s S
  wk : WkS [x, y] w.heap.size y ⟨tok, most, each, s.left⟩ S wr
  hx : w.heap.size ≤ x
  hxy : x ≠ y
  hy : w.heap.size ≤ y
  tk : s.tok = tok
  mo : s.most = most
  ea : s.each = each
  only : Only [] w wr
theorem Both.lt {w : World} {x y : Nat} {tok most each : Int} {s : Se} {S : List Int} {wr : World} (h : Both w x y tok most each s S wr) : (∀ b ∈ [x, y], b < wr.heap.size) ∧ w.heap.size ≤ wr.heap.size := by
  obtain ⟨v, h1, _⟩ := h.wk
  have := h.se.lt; have := h1.lt; have := h.only.size
  refine ⟨fun b hb => ?_, by omega⟩
  simp at hb
  rcases hb with rfl | rfl <;> assumption
theorem Both.keep {w : World} {x y : Nat} {tok most each : Int} {s : Se} {S : List Int} {wr w' : World} (h : Both w x y tok most each s S wr) (o : Only [] wr w') : Both w x y tok most each s S w' := by
  obtain ⟨v, h1, h2, h3, h4⟩ := h.wk
  exact ⟨h.se.only o (by simp), h.ok, h.came, ⟨v, h1.only o (by simp), h2.kept o (by simp), h3, h4⟩, h.hx, h.hxy, h.hy, h.tk, h.mo, h.ea, h.only.trans o⟩
theorem Came.small {s : Se} {S : List Int} (h : Came s S) (ok : SeOk s) : -1 ≤ mx S ∧ mx S ≤ 70368744177664 := by rw [← h.new]; exact ⟨ok.n0, ok.n1⟩
theorem wk_other {X : List Nat} {B x y : Nat} {k : Wk} {S : List Int} {w w' : World} (h : WkS X B y k S w) (o : Only [x] w w') (hx : x ∈ X) (hxy : x ≠ y) : WkS X B y k S w' := by
  obtain ⟨v, h1, h2, h3, h4⟩ := h
  exact ⟨v, h1.only o (by simp; exact fun e => hxy e.symm), h2.kept o (fun b hb q => (h4 b hb).1 (by rw [List.mem_singleton.1 q]; exact hx)), h3, h4⟩
theorem wk_left {X : List Nat} {B y : Nat} {k : Wk} {S : List Int} {w : World} (h : WkS X B y k S w) (n : Int) : WkS X B y { k with left := n } S (w.setCell ⟨y, 3, none⟩ (.int .i64 n)) := by
  obtain ⟨v, h1, h2, h3, h4⟩ := h
  exact ⟨v, h1.putLeft n, h2.kept ((Only.refl [y] w).setCell (p := ⟨y, 3, none⟩) (Or.inl (by simp)) _) (fun b hb q => (h4 b hb).1 (by rw [List.mem_singleton.1 q]; exact h3)), h3, h4⟩
theorem sessionPlays_long (tok most each : Int) (a : Option Addr) (len cap : Nat) (w : World) (h : 150 < len) :
    Calls Tryd.prog 4 #[.int .i64 tok, .int .i64 most, .int .i64 each, .slice a len cap] w fun e w' => e = .returned (.bool true) ∧ Only [] w w' := by
  have hl : (len : Int) > 150 := by omega
  go_enter Tryd.func4, Tryd.ntmps4
  go_wp2_with fail
  go_ret
  exact ⟨rfl, Only.refl _ _⟩
theorem ways6 (tok most each : Int) (h : ¬ newOk tok most each) : decide (tok < 0) = true ∨ (decide (tok < 0) = false ∧ decide (tok > 70368744177664) = true) ∨ (decide (tok < 0) = false ∧ decide (tok > 70368744177664) = false ∧ decide (most < 0) = true) ∨ (decide (tok < 0) = false ∧ decide (tok > 70368744177664) = false ∧ decide (most < 0) = false ∧ decide (most > 1000) = true) ∨
    (decide (tok < 0) = false ∧ decide (tok > 70368744177664) = false ∧ decide (most < 0) = false ∧ decide (most > 1000) = false ∧ decide (each < 0) = true) ∨ (decide (tok < 0) = false ∧ decide (tok > 70368744177664) = false ∧ decide (most < 0) = false ∧ decide (most > 1000) = false ∧ decide (each < 0) = false ∧ decide (each > 1000) = true) := by
  unfold newOk at h
  simp only [decide_eq_true_eq, decide_eq_false_iff_not]
  omega
set_option maxRecDepth 100000 in
theorem sessionPlays_wrong (tok most each : Int) (a : Option Addr) (len cap : Nat) (w : World) (hg : EtIs w) (h : len ≤ 150) (hn : ¬ newOk tok most each) :
    Calls Tryd.prog 4 #[.int .i64 tok, .int .i64 most, .int .i64 each, .slice a len cap] w fun e w' => e = .returned (.bool true) ∧ Only [] w w' := by
  have hl : ¬ (len : Int) > 150 := by omega
  have HG : Hid (EtIs w) := hg
  have HN : Hid (¬ newOk tok most each) := hn
  have hways := ways6 tok most each hn
  clear hg hn
  rcases hways with q1 | ⟨q1, q2⟩ | ⟨q1, q2, q3⟩ | ⟨q1, q2, q3, q4⟩ | ⟨q1, q2, q3, q4, q5⟩ | ⟨q1, q2, q3, q4, q5, q6⟩
  all_goals
    go_enter Tryd.func4, Tryd.ntmps4
    go_wp2_with fail
    refine (newS_wrong tok most each w HN.out).mono ?_
    rintro e w1 ⟨rfl, o1⟩
    have H1 : Hid (Only [] w w1) := o1
    clear o1
    go_wp2_with fail
    refine (bareE_calls 2 w1 (HG.out.only H1.out)).mono ?_
    rintro e w2 ⟨rfl, k2⟩
    have H2 : Hid (Only [] w w2) := H1.out.trans (Only.of_kept k2)
    clear k2 H1
    go_wp2_with fail
    go_ret
    exact ⟨rfl, H2.out⟩
end Go.Proofs.YtepgcpcanbekaaaDoor
