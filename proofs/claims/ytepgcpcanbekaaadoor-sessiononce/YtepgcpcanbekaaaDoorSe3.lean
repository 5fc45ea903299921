/- What a session's word of bits tells, against all the numbers that came: plain facts, no condition but those typed. -/
import Derived.Test.YtepgcpcanbekaaaDoorSe2
namespace Go.Proofs.YtepgcpcanbekaaaDoor
open Go.ChangeShapes Go.WideShapes Go.ChangeAt Go.RowKit
set_option linter.unusedVariables false
set_option linter.unusedSimpArgs false

/-- The greatest of some numbers (-1: none). -/
def mx (S : List Int) : Int := S.foldl max (-1)
theorem mx_snoc (S : List Int) (n : Int) : mx (S ++ [n]) = max (mx S) n := by simp [mx]
/-- The session has kept just these numbers. -/
structure Came (s : Se) (S : List Int) : Prop where
  new : s.newest = mx S
  all : ∀ n ∈ S, 0 ≤ n ∧ n ≤ s.newest
  bit : ∀ i, i < 64 → s.came.testBit i = decide (s.newest - (i : Int) ∈ S)
theorem Came.start (tok most each left : Int) : Came ⟨tok, most, each, left, -1, 0⟩ [] := ⟨rfl, by simp, by simp⟩
theorem Came.left {s : Se} {S : List Int} (h : Came s S) (k : Int) : Came { s with left := k } S := ⟨h.new, h.all, h.bit⟩
theorem Came.has {s : Se} {S : List Int} (h : Came s S) {n : Int} (hn : s.newest - 64 < n) : hasM s n = decide (n ∈ S) := by
  unfold hasM
  by_cases hl : n ≤ s.newest
  · rw [decide_eq_true hl, Bool.true_and, h.bit _ (by omega), show s.newest - ((s.newest - n).toNat : Int) = n by omega]
  · rw [decide_eq_false hl, Bool.false_and]
    exact (decide_eq_false (fun k => hl (h.all n k).2)).symm
theorem shlM_bit (c k i : Nat) (hi : i < 64) : (shlM c k).testBit i = (decide (min k 64 ≤ i) && c.testBit (i - min k 64)) := by
  unfold shlM
  rw [show (18446744073709551616 : Nat) = 2 ^ 64 from rfl, Nat.testBit_mod_two_pow, ← Nat.shiftLeft_eq, Nat.testBit_shiftLeft]
  simp [hi]
theorem Came.keep {s : Se} {S : List Int} (h : Came s S) {n : Int} (hn : s.newest - 64 < n) (h0 : 0 ≤ n) : Came (keepM s n) (S ++ [n]) := by
  unfold keepM
  by_cases hl : s.newest < n
  · rw [if_pos hl]
    refine ⟨?_, ?_, ?_⟩
    · show n = _
      rw [mx_snoc, ← h.new]; omega
    · intro m hm
      show 0 ≤ m ∧ m ≤ n
      rcases List.mem_append.1 hm with q | q
      · have := h.all m q; omega
      · rw [List.mem_singleton.1 q]; omega
    · intro i hi
      show (shlM s.came (n - s.newest).toNat ||| 1).testBit i = decide (n - (i : Int) ∈ S ++ [n])
      rw [Nat.testBit_or, shlM_bit _ _ _ hi]
      by_cases hz : i = 0
      · subst hz; simp
      · have e1 : Nat.testBit 1 i = false := by
          cases hq : Nat.testBit 1 i with
          | false => rfl
          | true => exact absurd (Nat.testBit_one_eq_true_iff_self_eq_zero.1 hq) hz
        rw [e1, Bool.or_false]
        by_cases hd : (n - s.newest).toNat ≤ i
        · rw [decide_eq_true (show min (n - s.newest).toNat 64 ≤ i by omega), Bool.true_and, h.bit _ (by omega)]
          rw [show s.newest - ((i - min (n - s.newest).toNat 64 : Nat) : Int) = n - (i : Int) by omega]
          congr 1
          simp only [List.mem_append, List.mem_singleton]
          exact propext ⟨Or.inl, fun q => q.resolve_right (by omega)⟩
        · rw [decide_eq_false (show ¬ min (n - s.newest).toNat 64 ≤ i by omega), Bool.false_and]
          refine (decide_eq_false (fun q => ?_)).symm
          rcases List.mem_append.1 q with q | q
          · have := h.all _ q; omega
          · have := List.mem_singleton.1 q; omega
  · rw [if_neg hl]
    refine ⟨?_, ?_, ?_⟩
    · show s.newest = _
      rw [mx_snoc, ← h.new]; omega
    · intro m hm
      show 0 ≤ m ∧ m ≤ s.newest
      rcases List.mem_append.1 hm with q | q
      · exact h.all m q
      · rw [List.mem_singleton.1 q]; omega
    · intro i hi
      show (s.came ||| shlM 1 (s.newest - n).toNat).testBit i = decide (s.newest - (i : Int) ∈ S ++ [n])
      rw [Nat.testBit_or, shlM_bit _ _ _ hi, h.bit _ hi]
      by_cases hd : (s.newest - n).toNat = i
      · have e : s.newest - (i : Int) = n := by omega
        rw [decide_eq_true (show min (s.newest - n).toNat 64 ≤ i by omega), show i - min (s.newest - n).toNat 64 = 0 by omega, e]
        simp
      · have e : (decide (min (s.newest - n).toNat 64 ≤ i) && Nat.testBit 1 (i - min (s.newest - n).toNat 64)) = false := by
          by_cases hq : min (s.newest - n).toNat 64 ≤ i
          · rw [decide_eq_true hq, Bool.true_and]
            cases hp : Nat.testBit 1 (i - min (s.newest - n).toNat 64) with
            | false => rfl
            | true => have := Nat.testBit_one_eq_true_iff_self_eq_zero.1 hp; omega
          · rw [decide_eq_false hq, Bool.false_and]
        rw [e, Bool.or_false]
        congr 1
        simp only [List.mem_append, List.mem_singleton]
        exact propext ⟨Or.inl, fun q => q.resolve_right (by omega)⟩
/-- What the document asks of Take. -/
def takeR (tk left : Int) (S : List Int) (tok n : Int) : Int :=
  if tok ≠ tk then 5 else if ¬ (0 ≤ n ∧ n ≤ 70368744177664) then 2 else if n ≤ mx S - 64 then 10 else if n ∈ S then 9 else if left = 0 then 4 else 0
theorem Came.take {s : Se} {S : List Int} (h : Came s S) (tok n : Int) : takeC s tok n = takeR s.tok s.left S tok n := by
  unfold takeC takeR
  by_cases h1 : tok ≠ s.tok
  · rw [if_pos h1, if_pos h1]
  rw [if_neg h1, if_neg h1]
  by_cases h2 : ¬ (0 ≤ n ∧ n ≤ 70368744177664)
  · rw [if_pos h2, if_pos h2]
  rw [if_neg h2, if_neg h2, h.new]
  by_cases h3 : n ≤ mx S - 64
  · rw [if_pos h3, if_pos h3]
  rw [if_neg h3, if_neg h3, h.has (by rw [h.new]; omega)]
  simp
theorem keep_ok {s : Se} (h : SeOk s) {n : Int} (h0 : 0 ≤ n) (h1 : n ≤ 70368744177664) : SeOk (keepM s n) := by
  unfold keepM
  split
  · exact ⟨h.m0, h.m1, h.e0, h.e1, h.l0, h.l1, by show -1 ≤ n; omega, h1, Nat.or_lt_two_pow (shlM_lt _ _) (by decide)⟩
  · exact ⟨h.m0, h.m1, h.e0, h.e1, h.l0, h.l1, h.n0, h.n1, Nat.or_lt_two_pow h.c1 (shlM_lt _ _)⟩
theorem takeR_zero {tk left : Int} {S : List Int} {tok n : Int} (h : takeR tk left S tok n = 0) : tok = tk ∧ (0 ≤ n ∧ n ≤ 70368744177664) ∧ mx S - 64 < n ∧ n ∉ S ∧ left ≠ 0 := by
  unfold takeR at h
  split at h
  · omega
  split at h
  · omega
  split at h
  · omega
  split at h
  · omega
  split at h
  · omega
  rename_i h1 h2 h3 h4 h5
  exact ⟨by simpa using h1, by simpa using h2, by omega, h4, h5⟩
/-- Behind a Take. -/
theorem take_all {s : Se} {S : List Int} (ok : SeOk s) (h : Came s S) (tok n : Int) :
    SeOk (takeM s tok n) ∧ Came (takeM s tok n) (if takeR s.tok s.left S tok n = 0 then S ++ [n] else S) ∧ (takeM s tok n).tok = s.tok ∧ (takeM s tok n).most = s.most ∧ (takeM s tok n).each = s.each ∧
    (takeM s tok n).left = (if takeR s.tok s.left S tok n = 0 then s.left - 1 else s.left) := by
  unfold takeM
  rw [h.take]
  by_cases hz : takeR s.tok s.left S tok n = 0
  · rw [if_pos hz, if_pos hz, if_pos hz]
    obtain ⟨_, h2, h3, _, h5⟩ := takeR_zero hz
    have ok' : SeOk { s with left := s.left - 1 } := ⟨ok.m0, ok.m1, ok.e0, ok.e1, by show 0 ≤ s.left - 1; have := ok.l0; omega, by show s.left - 1 ≤ s.most; have := ok.l1; omega, ok.n0, ok.n1, ok.c1⟩
    refine ⟨keep_ok ok' h2.1 h2.2, (h.left (s.left - 1)).keep (by show s.newest - 64 < n; rw [h.new]; exact h3) h2.1, ?_⟩
    unfold keepM
    split <;> exact ⟨rfl, rfl, rfl, rfl⟩
  · rw [if_neg hz, if_neg hz, if_neg hz]
    exact ⟨ok, h, rfl, rfl, rfl, rfl⟩
theorem tick_ok {s : Se} (h : SeOk s) : SeOk { s with left := tickL s } :=
  ⟨h.m0, h.m1, h.e0, h.e1, by show 0 ≤ tickL s; have := h.l0; have := h.e0; have := h.m0; unfold tickL; split <;> omega, by show tickL s ≤ s.most; unfold tickL; split <;> omega, h.n0, h.n1, h.c1⟩
end Go.Proofs.YtepgcpcanbekaaaDoor
