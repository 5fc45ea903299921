/- What changes from a view to another one, in bits: plain facts on lists, no Go. -/
import Derived.Test.YtedhdmahdioboaaSn7
namespace Go.Proofs.Ytedhdmahdioboaa
open Go.ChangeShapes Go.WideShapes Go.ChangeAt Go.RowKit
set_option linter.unusedVariables false
set_option linter.unusedSimpArgs false

def zs : Sn := ⟨0, 0, 0, 0, 0, 0, 0, 0, 0, 0, 0⟩
def viewL (V : Nat → Sn) (n : Nat) : List Sn := (List.range n).map V
theorem viewL_len (V : Nat → Sn) (n : Nat) : (viewL V n).length = n := by simp [viewL]
theorem viewL_at (V : Nat → Sn) (n j : Nat) (h : j < (viewL V n).length) : (viewL V n)[j] = V j := by simp [viewL]
theorem viewL_succ (V : Nat → Sn) (n : Nat) : viewL V (n + 1) = viewL V n ++ [V n] := by simp [viewL, List.range_succ]
/-- Rising, from above a number on; all of it may be. -/
def Ris (p : Int) : List Sn → Prop
  | [] => True
  | s :: L => p < s.id ∧ s.id ≤ 1099511627776 ∧ Good s ∧ Ris s.id L
theorem Ris.mono {p q : Int} {L : List Sn} (h : Ris p L) (hq : q ≤ p) : Ris q L := by
  cases L with
  | nil => exact trivial
  | cons s L => exact ⟨by have := h.1; omega, h.2⟩
def lastL (p : Int) : List Sn → Int
  | [] => p
  | s :: L => lastL s.id L
theorem lastL_snoc (L : List Sn) (s : Sn) : ∀ p, lastL p (L ++ [s]) = s.id := by
  induction L with
  | nil => intro p; rfl
  | cons t L ih => intro p; exact ih _
theorem Ris.snoc {L : List Sn} : ∀ {p : Int} {s : Sn}, Ris p L → lastL p L < s.id → s.id ≤ 1099511627776 → Good s → Ris p (L ++ [s]) := by
  induction L with
  | nil => intro p s _ h1 h2 h3; exact ⟨h1, h2, h3, trivial⟩
  | cons t L ih => intro p s h h1 h2 h3; exact ⟨h.1, h.2.1, h.2.2.1, ih h.2.2.2 h1 h2 h3⟩
theorem good_of {last : Int} {s : Sn} (h : okB last s = true) : last < s.id ∧ s.id ≤ 1099511627776 ∧ Good s := by
  unfold okB headB at h
  simp only [Bool.and_eq_true, Bool.not_eq_true', Bool.or_eq_false_iff, decide_eq_false_iff_not] at h
  obtain ⟨⟨⟨⟨h1, h2⟩, h3⟩, h4⟩, h5⟩ := h
  refine ⟨by omega, by omega, ⟨by omega, by omega⟩, fun m hm => ?_⟩
  cases hf : farB (fld s m) with
  | true => rfl
  | false =>
    have : farsM s (m + 1) = false := by show (farsM s m && farB (fld s m)) = false; rw [hf, Bool.and_false]
    rw [farsM_false this (by omega)] at h5
    cases h5
theorem viewL_last (V : Nat → Sn) (n : Nat) : lastL 0 (viewL V n) = lastM V n := by
  cases n with
  | zero => rfl
  | succ n => rw [viewL_succ, lastL_snoc]; rfl
theorem okN_ris {V : Nat → Sn} {n : Nat} (h : okN V n = true) : Ris 0 (viewL V n) ∧ 0 ≤ lastM V n ∧ lastM V n ≤ 1099511627776 := by
  induction n with
  | zero => exact ⟨trivial, by simp [lastM], by simp [lastM]⟩
  | succ n ih =>
    have h' : (okN V n && okB (lastM V n) (V n)) = true := h
    rw [Bool.and_eq_true] at h'
    obtain ⟨h1, h2, h3⟩ := ih h'.1
    obtain ⟨g1, g2, g3⟩ := good_of h'.2
    refine ⟨?_, ?_, g2⟩
    · rw [viewL_succ]
      exact h1.snoc (by rw [viewL_last]; exact g1) g2 g3
    · show 0 ≤ (V n).id
      omega
theorem rtStep_no (last : Int) (s : Sn) : rtStep false last s = false := by simp [rtStep, rt4, rt3, rt2, rt1, lkB]
theorem rtStep_ok (last : Int) (s : Sn) (h0 : 0 ≤ last) (h1 : last ≤ 1099511627776) : rtStep true last s = okB last s := by
  have hw : wrap64 (last + 1) = last + 1 := by unfold wrap64; omega
  unfold rtStep rt4 rt3 rt2 rt1
  rw [hw, Bool.eq_iff_iff]
  simp only [lkB, okB, headB, farsM, farB, fld, Bool.and_eq_true, Bool.not_eq_true', Bool.or_eq_false_iff, decide_eq_false_iff_not, decide_eq_true_eq, true_and]
  omega
theorem rtP_eq (b : Bool) (V : Nat → Sn) (i : Nat) : rtP b V i = (b && okN V i) := by
  induction i with
  | zero => simp [rtP, okN]
  | succ i ih =>
    show rtStep (rtP b V i) (lastM V i) (V i) = (b && (okN V i && okB (lastM V i) (V i)))
    rw [ih]
    cases b with
    | false => simp [rtStep_no]
    | true =>
      cases hk : okN V i with
      | false => simp [rtStep_no]
      | true =>
        obtain ⟨_, h0, h1⟩ := okN_ris hk
        simp [rtStep_ok _ _ h0 h1]
theorem right_same (V : Nat → Sn) (n : Nat) : rightP V n = rightR V n := by
  unfold rightP rightR
  rw [rtP_eq, Bool.and_comm]
theorem right_ris {V : Nat → Sn} {n : Nat} (h : rightR V n = true) : Ris 0 (viewL V n) ∧ n ≤ 60 := by
  unfold rightR at h
  rw [Bool.and_eq_true] at h
  exact ⟨(okN_ris h.1).1, by simpa using h.2⟩
/-- The lowest number of two views; the first of one, if it has that number. -/
def lowId : List Sn → List Sn → Int
  | [], [] => 0
  | [], t :: _ => t.id
  | s :: _, [] => s.id
  | s :: _, t :: _ => if s.id ≤ t.id then s.id else t.id
def takeS (id : Int) : List Sn → Sn
  | [] => zs
  | s :: _ => if s.id = id then s else zs
def takeL (id : Int) : List Sn → List Sn
  | [] => []
  | s :: L => if s.id = id then L else s :: L
/-- What is told of one. -/
def chgB (last : Int) (u v : Sn) : List Nat :=
  if eqS u v then [] else if v.id = 0 then wordB 0 last u.id else if u.id = 0 then wordB 1 last v.id ++ partsB true true true u v
  else wordB 2 last v.id ++ putB (pN (d4 u v) (d2 u v) (d1 u v)).toNat 3 ++ partsB (d4 u v) (d2 u v) (d1 u v) u v
def chgL (last : Int) (u v : Sn) : Int := if eqS u v then last else if v.id = 0 then u.id else v.id
def deltaM : Nat → List Sn → List Sn → Int → List Nat
  | 0, _, _, _ => []
  | f + 1, F, T, last =>
    if F = [] ∧ T = [] then [] else
      chgB last (takeS (lowId F T) F) (takeS (lowId F T) T) ++ deltaM f (takeL (lowId F T) F) (takeL (lowId F T) T) (chgL last (takeS (lowId F T) F) (takeS (lowId F T) T))
end Go.Proofs.Ytedhdmahdioboaa
