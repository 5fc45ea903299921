/- How long what is told may be; that it is bits: plain facts. -/
import Derived.Test.YtedhdmahdioboaaSnd
namespace Go.Proofs.Ytedhdmahdioboaa
open Go.ChangeShapes Go.WideShapes Go.ChangeAt Go.RowKit
set_option linter.unusedVariables false
set_option linter.unusedSimpArgs false

theorem far_len {a b : Int} (h : farB a = true) (k : farB b = true) : (varB (codeM (a - b))).length ≤ 54 := by
  simp only [farB, Bool.not_eq_true', Bool.or_eq_false_iff, decide_eq_false_iff_not] at h k
  rw [varB_len]
  have : codeM (a - b) < 2 ^ (5 * (8 + 1)) := by unfold codeM; simp only [Nat.reduceAdd, Nat.reduceMul]; split <;> omega
  have := piecesM_le 8 _ this
  omega
theorem word_len {k : Nat} {la id : Int} (h0 : 0 ≤ la) (h : la < id) (h1 : id ≤ 1099511627776) : (wordB k la id).length ≤ 56 := by
  unfold wordB
  rw [List.length_append, putB_len, varB_len]
  have : (id - la - 1).toNat < 2 ^ (5 * (8 + 1)) := by simp only [Nat.reduceAdd, Nat.reduceMul]; omega
  have := piecesM_le 8 _ this
  omega
theorem vec_len {a b c p q r : Int} (h : farB a = true ∧ farB b = true ∧ farB c = true) (k : farB p = true ∧ farB q = true ∧ farB r = true) : (vecB (a - p) (b - q) (c - r)).length ≤ 162 := by
  have h1 := far_len h.1 k.1
  have h2 := far_len h.2.1 k.2.1
  have h3 := far_len h.2.2 k.2.2
  unfold vecB
  simp only [List.length_append]
  omega
theorem parts_len (x y z : Bool) {u v : Sn} (hu : Good u) (hv : Good v) : (partsB x y z u v).length ≤ 489 := by
  have h1 := vec_len hv.s3 hu.s3
  have h2 := vec_len hv.a3 hu.a3
  have h3 := vec_len hv.v3 hu.v3
  unfold partsB p4B p2B p1B
  cases x <;> cases y <;> cases z <;> simp [putB_len] <;> omega
theorem takeL_len {id : Int} {L : List Sn} (h : (takeS id L).id ≠ 0) : (takeL id L).length + 1 = L.length := by
  cases L with
  | nil => exact absurd rfl h
  | cons s L =>
    by_cases e : s.id = id
    · simp [takeL, e]
    · have : takeS id (s :: L) = zs := by simp [takeS, e]
      rw [this] at h
      exact absurd rfl h
/-- How long what is told of one may be. -/
theorem chg_len {la id : Int} {F1 T1 : List Sn} (h0 : 0 ≤ la) (hu : Ok1 la (takeS id F1)) (hv : Ok1 la (takeS id T1)) (sf : (takeL id F1).length ≤ F1.length) (st : (takeL id T1).length ≤ T1.length) :
    (chgB la (takeS id F1) (takeS id T1)).length + 56 * (takeL id F1).length + 600 * (takeL id T1).length ≤ 56 * F1.length + 600 * T1.length := by
  unfold chgB
  split
  · simp only [List.length_nil]; omega
  · rename_i hq
    split
    · rename_i e
      have hn : (takeS id F1).id ≠ 0 := fun e1 => by
        have q1 := hu.none_ e1
        have q2 := hv.none_ e
        rw [q1, q2] at hq
        exact hq ((eqS_iff zs zs).2 rfl)
      have l1 := takeL_len hn
      have l2 := word_len (k := 0) h0 (hu.some_ hn).1 (hu.some_ hn).2
      omega
    · rename_i hv0
      have l1 := takeL_len hv0
      have l3 := word_len (k := 1) h0 (hv.some_ hv0).1 (hv.some_ hv0).2
      have l4 := word_len (k := 2) h0 (hv.some_ hv0).1 (hv.some_ hv0).2
      split
      · have l5 := parts_len true true true hu.good hv.good
        simp only [List.length_append]
        omega
      · have l5 := parts_len (d4 (takeS id F1) (takeS id T1)) (d2 (takeS id F1) (takeS id T1)) (d1 (takeS id F1) (takeS id T1)) hu.good hv.good
        simp only [List.length_append, putB_len]
        omega
theorem low_some {F T : List Sn} (hn : ¬ (F = [] ∧ T = [])) : (takeS (lowId F T) F).id = lowId F T ∨ (takeS (lowId F T) T).id = lowId F T := by
  cases F with
  | nil =>
    cases T with
    | nil => exact absurd ⟨rfl, rfl⟩ hn
    | cons t T => right; simp [lowId, takeS]
  | cons s F =>
    cases T with
    | nil => left; simp [lowId, takeS]
    | cons t T =>
      by_cases h : s.id ≤ t.id
      · left; simp [lowId, takeS, h]
      · right; simp [lowId, takeS, h]
theorem yes3 (a b c : Bool) : [if a then 1 else 0] ++ [if b then 1 else 0] ++ [if c then 1 else 0] = putB (pN a b c).toNat 3 := by cases a <;> cases b <;> cases c <;> rfl
theorem vecB_bits (x y z : Int) : Bits (vecB x y z) := ((varB_bits _).app (varB_bits _)).app (varB_bits _)
theorem wordB_bits (k : Nat) (la id : Int) : Bits (wordB k la id) := (putB_bits _ _).app (varB_bits _)
theorem partsB_bits (a b c : Bool) (u v : Sn) : Bits (partsB a b c u v) := by
  unfold partsB p4B p2B p1B
  refine Bits.app (Bits.app ?_ ?_) ?_
  · split
    · exact (putB_bits _ _).app (vecB_bits _ _ _)
    · exact Bits.nil
  · split
    · exact vecB_bits _ _ _
    · exact Bits.nil
  · split
    · exact vecB_bits _ _ _
    · exact Bits.nil
theorem chgB_bits (la : Int) (u v : Sn) : Bits (chgB la u v) := by
  unfold chgB
  split
  · exact Bits.nil
  · split
    · exact wordB_bits _ _ _
    · split
      · exact (wordB_bits _ _ _).app (partsB_bits _ _ _ _ _)
      · exact ((wordB_bits _ _ _).app (putB_bits _ _)).app (partsB_bits _ _ _ _ _)
theorem deltaM_bits : ∀ (f : Nat) (F T : List Sn) (la : Int), Bits (deltaM f F T la) := by
  intro f
  induction f with
  | zero => intro F T la; exact Bits.nil
  | succ f ih =>
    intro F T la
    by_cases hn : F = [] ∧ T = []
    · rw [hn.1, hn.2, deltaM_nil]; exact Bits.nil
    · rw [deltaM_step la hn]; exact (chgB_bits _ _ _).app (ih _ _ _)
theorem delta_bits (F T : List Sn) : Bits (deltaT F T) := (deltaM_bits _ _ _ _).app (putB_bits _ _)
end Go.Proofs.Ytedhdmahdioboaa
