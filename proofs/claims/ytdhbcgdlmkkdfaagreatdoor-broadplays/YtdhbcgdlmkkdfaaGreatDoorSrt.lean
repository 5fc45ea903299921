/- slices.Sort: of whichever numbers. -/
import Derived.Test.YtdhbcgdlmkkdfaaGreatDoorSli
import Derived.Test.YtdhbcgdlmkkdfaaGreatDoorLayI
namespace Go.Proofs.YtdhbcgdlmkkdfaaGreatDoor
open Go.ChangeShapes Go.WideShapes Go.ChangeAt Go.RowKit Go.Sort Go.Shelf Go.Lib
set_option linter.unusedVariables false
set_option linter.unusedSimpArgs false

def sortZ (xs : List Int) : List Int := xs.mergeSort fun x y => decide (x ≤ y)
theorem sortZ_perm (xs : List Int) : (sortZ xs).Perm xs := List.mergeSort_perm _ _
theorem sortZ_le (xs : List Int) : (sortZ xs).Pairwise (fun x y => x ≤ y) := by
  have := List.pairwise_mergeSort (le := fun x y : Int => decide (x ≤ y)) (by intro a b c h1 h2; simp at *; omega) (by intro a b; simp; omega) xs
  exact this.imp (by intro a b h; simpa using h)
theorem sortZ_lt (xs : List Int) (h : xs.Nodup) : (sortZ xs).Pairwise (fun x y => x < y) := by
  have h1 := sortZ_le xs
  have h2 : (sortZ xs).Pairwise (fun x y => x ≠ y) := (sortZ_perm xs).symm.nodup h
  exact (h1.and h2).imp (by intro a b h; omega)
theorem sortsI (v : Value) (xs : List Int) (w : World) (h : SlInts w v xs) (hl : xs.length ≤ 1000) :
    Calls Tryz.prog 23 #[v] w fun e w' => e = .returned (.tuple #[]) ∧ SlInts w' v (sortZ xs) ∧ Only (ownL v) w w' := by
  by_cases h0 : xs = []
  · subst h0
    obtain ⟨a, c, rfl, _⟩ := h.shape
    refine (Any.slices_Sort_int_none sortI a c w).mono ?_
    rintro e w' ⟨rfl, rfl⟩
    exact ⟨rfl, by simpa [sortZ] using h, Only.refl _ _⟩
  · obtain ⟨h1, ⟨rfl, h2⟩ | ⟨g, cap, cur, rfl, hb, hg, hn, hc, hs, ht⟩⟩ := h
    · exact absurd (List.eq_nil_of_length_eq_zero h2) h0
    · have hglt : g < w.heap.size := (Array.getElem?_eq_some_iff.1 hg).1
      have hH : Holds (Value.int .i64) w g 0 xs.toArray := by
        intro j hj
        simp only [List.size_toArray] at hj
        have e : cur[j]? = some (.int .i64 (xs[j]'hj)) := by
          have e1 : (cur.toList.take (xs.length * 1))[j]? = some (.int .i64 (xs[j]'hj)) := by rw [ht]; simp [hj]
          rw [List.getElem?_take, if_pos (by omega)] at e1
          rw [← e1, Array.getElem?_toList]
        have e2 : xs.toArray[j]! = xs[j]'hj := by rw [getElem!_pos _ _ (by simpa using hj)]; simp
        refine ⟨?_, by simp [World.frozen?, hg]⟩
        rw [e2]
        simp [World.cell?, hg, e]
      refine Calls.mono (show Calls Tryz.prog 23 #[.slice (some ⟨g, 0, none⟩) xs.length cap] w _ from Any.slices_Sort_int sortI g 0 cap xs w hH hglt (by omega)) ?_
      rintro e w' ⟨rfl, n, os, rfl⟩
      have hpl := (sortZ_perm xs).length_eq
      have hblk : (grow (putRow (Value.int .i64) (Sort.ahead w n) g 0 (sortZ xs).toArray) os).heap[g]? = some (.cells (putCells (Value.int .i64) 0 (sortZ xs).toArray cur) 3 (0, 0)) := by
        unfold putRow mapBlock
        rw [heap_grow_old _ _ (by simpa using hglt)]
        show (w.heap.modify g (onCells (putCells (Value.int .i64) 0 (sortZ xs).toArray)))[g]? = _
        rw [Array.getElem?_modify, if_pos rfl, hg]; rfl
      refine ⟨rfl, ⟨by simp, Or.inr ⟨g, cap, _, by rw [hpl], hb, hblk, by rw [hpl]; exact hn, hc, by rw [← hs]; simp [putCells], ?_⟩⟩, ?_⟩
      · apply List.ext_getElem?
        intro i
        rw [List.getElem?_take, Nat.mul_one]
        by_cases hi : i < (sortZ xs).length
        · rw [if_pos hi, Array.getElem?_toList]
          simp only [putCells, Array.getElem?_mapIdx]
          rw [Array.getElem?_eq_getElem (show i < cur.size by omega)]
          simp [hi]
        · rw [if_neg hi, List.getElem?_eq_none (by simpa using hi)]
      · refine ⟨rfl, rfl, rfl, ?_, fun b hb' hD => ?_⟩
        · simp [grow, putRow, mapBlock, Sort.ahead]
        · have hne : g ≠ b := fun e => hD (by simp [ownL, Value.ownBlock, e])
          unfold putRow mapBlock
          rw [heap_grow_old _ _ (by simpa using hb')]
          show (w.heap.modify g _)[b]? = _
          rw [Array.getElem?_modify, if_neg hne]
end Go.Proofs.YtdhbcgdlmkkdfaaGreatDoor
