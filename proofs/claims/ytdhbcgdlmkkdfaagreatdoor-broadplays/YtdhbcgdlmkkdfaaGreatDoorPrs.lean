/- Which pairs of boxes meet, rising: plain functions. -/
import Derived.Test.YtdhbcgdlmkkdfaaGreatDoorBr23
namespace Go.Proofs.YtdhbcgdlmkkdfaaGreatDoor
open Go.ChangeShapes Go.WideShapes Go.ChangeAt Go.RowKit Go.Sort Go.Shelf
set_option linter.unusedVariables false
set_option linter.unusedSimpArgs false

theorem pairsM_mem {M : List (Int × Bx)} {c : Int × Int} (h : c ∈ pairsM M) : ∃ a b, (c.1, a) ∈ M ∧ (c.2, b) ∈ M ∧ c.1 < c.2 ∧ meetX a b = true := by
  have h1 : c ∈ M.flatMap (pairM M) := (List.mergeSort_perm _ _).mem_iff.1 h
  obtain ⟨p, hp, hc⟩ := List.mem_flatMap.1 h1
  unfold pairM above at hc
  obtain ⟨y, hy, rfl⟩ := List.mem_map.1 hc
  obtain ⟨hy1, hy2⟩ := List.mem_filter.1 hy
  obtain ⟨r, hr, rfl⟩ := List.mem_map.1 hy1
  obtain ⟨hr1, hr2⟩ := List.mem_filter.1 hr
  exact ⟨p.2, r.2, hp, hr1, by simpa using hy2, by rw [meetX_comm]; exact hr2⟩
theorem pairM_fst {M : List (Int × Bx)} {p : Int × Bx} {c : Int × Int} (h : c ∈ pairM M p) : c.1 = p.1 := by
  unfold pairM above at h
  obtain ⟨y, _, rfl⟩ := List.mem_map.1 h
  rfl
theorem pairM_nodup {M : List (Int × Bx)} (h : (M.map Prod.fst).Nodup) (p : Int × Bx) : (pairM M p).Nodup := by
  unfold pairM above
  refine List.Pairwise.map (R := fun a b => a ≠ b) (S := fun a b => a ≠ b) _ (fun a b hab e => hab (by injection e)) ?_
  exact List.Nodup.sublist List.filter_sublist (List.Nodup.sublist ((List.filter_sublist).map _) h)
theorem flat_nodup (M : List (Int × Bx)) (h : (M.map Prod.fst).Nodup) : ∀ D : List (Int × Bx), (D.map Prod.fst).Nodup → (D.flatMap (pairM M)).Nodup
  | [], _ => by simp
  | p :: D, hd => by
    simp only [List.map_cons, List.nodup_cons] at hd
    rw [List.flatMap_cons, List.nodup_append]
    refine ⟨pairM_nodup h p, flat_nodup M h D hd.2, ?_⟩
    intro a ha b hb e
    subst e
    obtain ⟨r, hr, hc⟩ := List.mem_flatMap.1 hb
    exact hd.1 (by rw [← pairM_fst ha, pairM_fst hc]; exact List.mem_map_of_mem hr)
theorem pairsM_rise {M : List (Int × Bx)} (h : (M.map Prod.fst).Nodup) : (pairsM M).Pairwise (fun x y => x.1 < y.1 ∨ (x.1 = y.1 ∧ x.2 < y.2)) := by
  have tr : ∀ a b c : Int × Int, (!decide (cmp2 b a < 0)) = true → (!decide (cmp2 c b < 0)) = true → (!decide (cmp2 c a < 0)) = true := by
    intro a b c h1 h2
    rw [sort2_le, lt2] at *
    simp at *; omega
  have tot : ∀ a b : Int × Int, ((!decide (cmp2 b a < 0)) || (!decide (cmp2 a b < 0))) = true := by
    intro a b
    rw [sort2_le, sort2_le, lt2, lt2]
    simp; omega
  have s1 : (pairsM M).Pairwise _ := List.pairwise_mergeSort (le := fun x y : Int × Int => !decide (cmp2 y x < 0)) tr tot (M.flatMap (pairM M))
  have s2 : (pairsM M).Nodup := (List.mergeSort_perm _ _).symm.nodup (flat_nodup M h M h)
  refine (List.Pairwise.and s1 s2).imp ?_
  intro a b hab
  obtain ⟨h1, h2⟩ := hab
  rw [sort2_le, lt2] at h1
  simp at h1
  have : a ≠ b := h2
  have h3 : ¬ (a.1 = b.1 ∧ a.2 = b.2) := fun e => this (Prod.ext e.1 e.2)
  omega
theorem rise_lt {xs : List (Int × Int)} (h : xs.Pairwise (fun x y => x.1 < y.1 ∨ (x.1 = y.1 ∧ x.2 < y.2))) {y : Nat} (hy : y + 1 < xs.length) : (xs[y]'(by omega)).1 < xs[y + 1].1 ∨ ((xs[y]'(by omega)).1 = xs[y + 1].1 ∧ (xs[y]'(by omega)).2 < xs[y + 1].2) := by
  rw [List.pairwise_iff_getElem] at h
  exact h y (y + 1) (by omega) hy (by omega)
theorem pairsM_in {M : List (Int × Bx)} {c : Int × Int} {a b : Bx} (h1 : (c.1, a) ∈ M) (h2 : (c.2, b) ∈ M) (hl : c.1 < c.2) (hm : meetX a b = true) : c ∈ pairsM M := by
  refine (List.mergeSort_perm _ _).mem_iff.2 ?_
  refine List.mem_flatMap.2 ⟨(c.1, a), h1, ?_⟩
  unfold pairM above
  refine List.mem_map.2 ⟨c.2, List.mem_filter.2 ⟨List.mem_map.2 ⟨(c.2, b), List.mem_filter.2 ⟨h2, by rw [meetX_comm]; exact hm⟩, rfl⟩, by simpa using hl⟩, rfl⟩
theorem pairsM_iff {M : List (Int × Bx)} {c : Int × Int} : c ∈ pairsM M ↔ ∃ a b, (c.1, a) ∈ M ∧ (c.2, b) ∈ M ∧ c.1 < c.2 ∧ meetX a b = true :=
  ⟨pairsM_mem, fun ⟨_, _, h1, h2, h3, h4⟩ => pairsM_in h1 h2 h3 h4⟩
/-- Rising lists with the same members are the same. -/
theorem rise_same {P Q : List (Int × Int)} (hP : P.Pairwise (fun x y => x.1 < y.1 ∨ (x.1 = y.1 ∧ x.2 < y.2))) (hQ : Q.Pairwise (fun x y => x.1 < y.1 ∨ (x.1 = y.1 ∧ x.2 < y.2))) (h : ∀ c, c ∈ P ↔ c ∈ Q) : P = Q := by
  have nd : ∀ {R : List (Int × Int)}, R.Pairwise (fun x y => x.1 < y.1 ∨ (x.1 = y.1 ∧ x.2 < y.2)) → R.Nodup := fun hR => hR.imp (fun hab e => by subst e; omega)
  have p : P.Perm Q := (List.perm_ext_iff_of_nodup (nd hP) (nd hQ)).2 h
  exact p.eq_of_pairwise (fun a b _ _ h1 h2 => by omega) hP hQ
end Go.Proofs.YtdhbcgdlmkkdfaaGreatDoor
