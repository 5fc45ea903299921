/- What the two trees of BroadOrder hold as it goes on: plain facts on lists of boxes. -/
import Derived.Test.YtdhbcgdlmkkdfaaBr24
namespace Go.Proofs.Ytdhbcgdlmkkdfaa
open Go.ChangeShapes Go.WideShapes Go.ChangeAt Go.RowKit
set_option linter.unusedVariables false
set_option linter.unusedSimpArgs false

theorem putC_small {M : List (Int × Bx)} {i : Int} {q : Bx} (h : M.length < 60) : putC M i q = rightC q := by
  unfold putC; split
  · rw [if_neg (fun k => by omega)]; exact Eq.symm ‹_›
  · rfl
theorem putM_ok {M : List (Int × Bx)} {i : Int} {q : Bx} (h : M.length < 60) (hr : rightC q = 0) : putM M i q = put M i q := by unfold putM; rw [if_pos (by rw [putC_small h]; exact hr)]
theorem putM_bad {M : List (Int × Bx)} {i : Int} {q : Bx} (h : M.length < 60) (hr : rightC q ≠ 0) : putM M i q = M := by unfold putM; rw [if_neg (by rw [putC_small h]; exact hr)]
variable {Bf : Nat → Bx}
/-- Each box that may be, under its number; or under one that is greater by 100 where it has not been moved. -/
def At (Bf : Nat → Bx) (mv : Nat → Bool) (k : Nat) (M : List (Int × Bx)) : Prop := ∀ p : Int × Bx, p ∈ M ↔ ∃ j : Nat, j < k ∧ rightC (Bf j) = 0 ∧ p = ((j : Int) + (if mv j then 0 else 100), Bf j)
theorem At.len {mv : Nat → Bool} {k : Nat} {M : List (Int × Bx)} (h : At Bf mv k M) (nd : M.Nodup) : M.length ≤ k := by
  have := nodup_len M ((List.range k).map (fun j : Nat => ((j : Int) + (if mv j then 0 else 100), Bf j))) nd (fun p hp => by
    obtain ⟨j, hj, _, rfl⟩ := (h p).1 hp
    exact List.mem_map.2 ⟨j, List.mem_range.2 hj, rfl⟩)
  simpa using this
theorem At.first {mv : Nat → Bool} {k : Nat} {M : List (Int × Bx)} (h : At Bf mv k M) (nd : M.Nodup) (hk : k < 50) : At Bf mv (k + 1) (putM M ((k : Int) + (if mv k then 0 else 100)) (Bf k)) := by
  have hl := h.len nd
  by_cases hr : rightC (Bf k) = 0
  · rw [putM_ok (by omega) hr]
    intro p
    rw [mem_put, h p]
    constructor
    · rintro (rfl | ⟨⟨j, hj, hok, rfl⟩, _⟩)
      · exact ⟨k, by omega, hr, rfl⟩
      · exact ⟨j, by omega, hok, rfl⟩
    · rintro ⟨j, hj, hok, rfl⟩
      by_cases e : j = k
      · subst e; exact Or.inl rfl
      · refine Or.inr ⟨⟨j, by omega, hok, rfl⟩, ?_⟩
        simp only
        split <;> split <;> omega
  · rw [putM_bad (by omega) hr]
    intro p
    rw [h p]
    constructor
    · rintro ⟨j, hj, hok, rfl⟩; exact ⟨j, by omega, hok, rfl⟩
    · rintro ⟨j, hj, hok, rfl⟩
      refine ⟨j, ?_, hok, rfl⟩
      rcases Nat.lt_succ_iff_lt_or_eq.1 hj with q | q
      · exact q
      · exact absurd (q ▸ hok) hr
theorem At.again {k : Nat} {M : List (Int × Bx)} (h : At Bf (fun _ => true) k M) (nd : M.Nodup) (hk : k ≤ 50) {j : Nat} (hj : j < k) : At Bf (fun _ => true) k (putM M (j : Int) (Bf j)) := by
  have hl := h.len nd
  by_cases hr : rightC (Bf j) = 0
  · rw [putM_ok (by omega) hr]
    intro p
    rw [mem_put, h p]
    constructor
    · rintro (rfl | ⟨⟨i, hi, hok, rfl⟩, _⟩)
      · exact ⟨j, hj, hr, by simp⟩
      · exact ⟨i, hi, hok, rfl⟩
    · rintro ⟨i, hi, hok, rfl⟩
      by_cases e : i = j
      · subst e; exact Or.inl (by simp)
      · exact Or.inr ⟨⟨i, hi, hok, rfl⟩, by simp; omega⟩
  · rw [putM_bad (by omega) hr]; exact h
def moved (mv : Nat → Bool) (j : Nat) : Nat → Bool := fun i => if i = j then true else mv i
theorem At.gone {mv : Nat → Bool} {k : Nat} {M : List (Int × Bx)} (h : At Bf mv k M) (hk : k ≤ 50) {j : Nat} (hj : j < k) (p : Int × Bx) : p ∈ del M ((j : Int) + 100) ↔ ∃ i : Nat, i < k ∧ rightC (Bf i) = 0 ∧ (i ≠ j ∨ mv i = true) ∧ p = ((i : Int) + (if mv i then 0 else 100), Bf i) := by
  rw [mem_del, h p]
  constructor
  · rintro ⟨⟨i, hi, hok, rfl⟩, hne⟩
    refine ⟨i, hi, hok, ?_, rfl⟩
    by_cases e : i = j
    · subst e
      right
      cases hm : mv i
      · rw [hm] at hne; simp at hne
      · rfl
    · exact Or.inl e
  · rintro ⟨i, hi, hok, hor, rfl⟩
    refine ⟨⟨i, hi, hok, rfl⟩, ?_⟩
    simp only
    rcases hor with q | q
    · split <;> omega
    · rw [q]; simp; omega
theorem At.move {mv : Nat → Bool} {k : Nat} {M : List (Int × Bx)} (h : At Bf mv k M) (nd : M.Nodup) (hk : k ≤ 50) {j : Nat} (hj : j < k) : At Bf (moved mv j) k (putM (del M ((j : Int) + 100)) (j : Int) (Bf j)) := by
  have hl := h.len nd
  have hl2 : (del M ((j : Int) + 100)).length < 60 := by have := List.length_filter_le (fun p : Int × Bx => p.1 != (j : Int) + 100) M; unfold del; omega
  have hd := fun p => h.gone hk hj p
  by_cases hr : rightC (Bf j) = 0
  · rw [putM_ok hl2 hr]
    intro p
    rw [mem_put, hd p]
    constructor
    · rintro (rfl | ⟨⟨i, hi, hok, hor, rfl⟩, hne⟩)
      · exact ⟨j, hj, hr, by simp [moved]⟩
      · refine ⟨i, hi, hok, ?_⟩
        by_cases e : i = j
        · subst e
          rcases hor with q | q
          · exact absurd rfl q
          · simp [moved, q]
        · simp [moved, e]
    · rintro ⟨i, hi, hok, rfl⟩
      by_cases e : i = j
      · subst e; exact Or.inl (by simp [moved])
      · refine Or.inr ⟨⟨i, hi, hok, Or.inl e, by simp [moved, e]⟩, ?_⟩
        simp only [moved, e, if_false]
        split <;> omega
  · rw [putM_bad hl2 hr]
    intro p
    rw [hd p]
    constructor
    · rintro ⟨i, hi, hok, hor, rfl⟩
      have e : i ≠ j := fun e => hr (e ▸ hok)
      exact ⟨i, hi, hok, by simp [moved, e]⟩
    · rintro ⟨i, hi, hok, rfl⟩
      have e : i ≠ j := fun e => hr (e ▸ hok)
      exact ⟨i, hi, hok, Or.inl e, by simp [moved, e]⟩
theorem At.perm {mv : Nat → Bool} {k : Nat} {M N : List (Int × Bx)} (h : At Bf (fun _ => true) k M) (g : At Bf mv k N) (hm : ∀ j, j < k → mv j = true) (nd : M.Nodup) (ne : N.Nodup) : M.Perm N := by
  rw [List.perm_ext_iff_of_nodup nd ne]
  intro p
  rw [h p, g p]
  constructor
  · rintro ⟨j, hj, hok, rfl⟩; exact ⟨j, hj, hok, by simp [hm j hj]⟩
  · rintro ⟨j, hj, hok, rfl⟩; exact ⟨j, hj, hok, by simp [hm j hj]⟩
theorem in64_of {i : Int} (h : 0 ≤ i) (k : i ≤ 1000000) : In64 i := by
  unfold In64
  exact WalkArith.wf_i64 (by omega)
theorem errV_nil {c : Int} (h : c = 0) : errV c = .nilIface := by rw [h]; rfl
theorem errV_not {c : Int} (h : c ≠ 0) : errV c = .iface 40 (.int .i64 c) := by unfold errV; rw [if_neg h]
end Go.Proofs.Ytdhbcgdlmkkdfaa
