/- broad.Tree.Query, Many, High; gyrelaw.high: what chapter 3 says: whatever the tree. -/
import Derived.Test.YtbfkloclmlnahaaGreatDoorAs3
import Derived.Test.YtbfkloclmlnahaaGreatDoorLayI
namespace Go.Proofs.YtbfkloclmlnahaaGreatDoor
open Go.ChangeShapes Go.WideShapes Go.ChangeAt Go.RowKit Go.Sort Go.Shelf Go.Lib
set_option linter.unusedVariables false
set_option linter.unusedSimpArgs false

def sortZ (xs : List Int) : List Int := xs.mergeSort fun x y => decide (x ≤ y)
theorem sortZ_perm (xs : List Int) : (sortZ xs).Perm xs := List.mergeSort_perm _ _
theorem sortZ_le (xs : List Int) : (sortZ xs).Pairwise (fun x y => x ≤ y) := by
  have := List.pairwise_mergeSort (le := fun x y : Int => decide (x ≤ y)) (by intro a b c h1 h2; simp at *; omega) (by intro a b; simp; omega) xs
  exact this.imp (by intro a b h; simpa using h)
theorem sortZ_lt (xs : List Int) (h : xs.Nodup) : (sortZ xs).Pairwise (fun x y => x < y) := by
  have h1 := sortZ_le xs
  have h2 : (sortZ xs).Pairwise (fun x y => x ≠ y) := (sortZ_perm xs).symm.nodup h
  exact (h1.and h2).imp (by intro a b h; omega)

theorem sortsI (v : Value) (xs : List Int) (w : World) (h : SlInts w v xs) (hl : xs.length ≤ 1000) :
    Calls Tryz.prog 23 #[v] w fun e w' => e = .returned (.tuple #[]) ∧ SlInts w' v (sortZ xs) ∧ Only (ownL v) w w' := by
  by_cases h0 : xs = []
  · subst h0
    obtain ⟨a, c, rfl, _⟩ := h.shape
    refine (Any.slices_Sort_int_none sortI a c w).mono ?_
    rintro e w' ⟨rfl, rfl⟩
    exact ⟨rfl, by simpa [sortZ] using h, Only.refl _ _⟩
  · obtain ⟨h1, ⟨rfl, h2⟩ | ⟨g, cap, cur, rfl, hb, hg, hn, hc, hs, ht⟩⟩ := h
    · exact absurd (List.eq_nil_of_length_eq_zero h2) h0
    · have hglt : g < w.heap.size := (Array.getElem?_eq_some_iff.1 hg).1
      have hH : Holds (Value.int .i64) w g 0 xs.toArray := by
        intro j hj
        simp only [List.size_toArray] at hj
        have e : cur[j]? = some (.int .i64 (xs[j]'hj)) := by
          have e1 : (cur.toList.take (xs.length * 1))[j]? = some (.int .i64 (xs[j]'hj)) := by rw [ht]; simp [hj]
          rw [List.getElem?_take, if_pos (by omega)] at e1
          rw [← e1, Array.getElem?_toList]
        have e2 : xs.toArray[j]! = xs[j]'hj := by rw [getElem!_pos _ _ (by simpa using hj)]; simp
        refine ⟨?_, by simp [World.frozen?, hg]⟩
        rw [e2]
        simp [World.cell?, hg, e]
      refine Calls.mono (show Calls Tryz.prog 23 #[.slice (some ⟨g, 0, none⟩) xs.length cap] w _ from Any.slices_Sort_int sortI g 0 cap xs w hH hglt (by omega)) ?_
      rintro e w' ⟨rfl, n, os, rfl⟩
      have hpl := (sortZ_perm xs).length_eq
      have hblk : (grow (putRow (Value.int .i64) (Sort.ahead w n) g 0 (sortZ xs).toArray) os).heap[g]? = some (.cells (putCells (Value.int .i64) 0 (sortZ xs).toArray cur) 3 (0, 0)) := by
        unfold putRow mapBlock
        rw [heap_grow_old _ _ (by simpa using hglt)]
        show (w.heap.modify g (onCells (putCells (Value.int .i64) 0 (sortZ xs).toArray)))[g]? = _
        rw [Array.getElem?_modify, if_pos rfl, hg]; rfl
      refine ⟨rfl, ⟨by simp, Or.inr ⟨g, cap, _, by rw [hpl], hb, hblk, by rw [hpl]; exact hn, hc, by rw [← hs]; simp [putCells], ?_⟩⟩, ?_⟩
      · apply List.ext_getElem?
        intro i
        rw [List.getElem?_take, Nat.mul_one]
        by_cases hi : i < (sortZ xs).length
        · rw [if_pos hi, Array.getElem?_toList]
          simp only [putCells, Array.getElem?_mapIdx]
          rw [Array.getElem?_eq_getElem (show i < cur.size by omega)]
          simp [hi]
        · rw [if_neg hi, List.getElem?_eq_none (by simpa using hi)]
      · refine ⟨rfl, rfl, rfl, ?_, fun b hb' hD => ?_⟩
        · simp [grow, putRow, mapBlock, Sort.ahead]
        · have hne : g ≠ b := fun e => hD (by simp [ownL, Value.ownBlock, e])
          unfold putRow mapBlock
          rw [heap_grow_old _ _ (by simpa using hb')]
          show (w.heap.modify g _)[b]? = _
          rw [Array.getElem?_modify, if_neg hne]

theorem many_calls (t : Nat) (fat : Int) (D : List Nat) (M : List (Int × Bx)) (w : World) (h : TreeIs w t fat D M) :
    Calls Tryz.prog 12 #[.pointer (some ⟨t, 0, none⟩)] w fun e w' => e = .returned (.int .i64 M.length) ∧ w' = w := by
  obtain ⟨T, lv, hw, hD, hM⟩ := h.ex
  have c2 := hw.tree.c2
  have hl := hw.book.len
  have he : Hid (M.length = (leavesO T).length) := by show M.length = _; rw [hM.length_eq]; simp [boxesOf]
  clear hw hD hM h
  go_enter Tryz.func12, Tryz.ntmps12
  go_wp2_with fail
  go_ret
  exact ⟨ret_int (by rw [he.out]), rfl⟩
def HighOk (n : Int) (m : Nat) : Prop := (m < 2 → n = 0) ∧ (2 ≤ m → 1 ≤ n ∧ n < m ∧ n ≤ 40)
theorem high_calls (t : Nat) (fat : Int) (D : List Nat) (M : List (Int × Bx)) (w : World) (h : TreeIs w t fat D M) :
    Calls Tryz.prog 14 #[.pointer (some ⟨t, 0, none⟩)] w fun e w' => (∃ n, e = .returned (.int .i64 n) ∧ HighOk n M.length) ∧ w' = w := by
  have hs := h.small
  obtain ⟨T, lv, hw, hD, hM⟩ := h.ex
  have he : M.length = (leavesO T).length := by rw [hM.length_eq]; simp [boxesOf]
  have c1 := hw.tree.c1
  cases T with
  | none =>
    have HE : Hid (M.length = 0) := by show M.length = 0; simpa [leavesO] using he
    simp only [rootO, Option.map_none] at c1
    clear hw hD hM h he hs
    go_enter Tryz.func14, Tryz.ntmps14
    go_wp2_with fail
    go_ret
    exact ⟨⟨0, rfl, fun _ => rfl, fun q => by have := HE.out; omega⟩, rfl⟩
  | some T =>
    simp only [rootO, Option.map_some] at c1
    simp only [leavesO] at he
    have ch := hw.inn.1.node.c13
    have HE : Hid (HighOk T.high M.length) := by
      have b1 := bal_high T hw.inn.2 (by omega)
      have b2 := high_lt_leaves T
      refine ⟨fun q => high_one T (by omega), fun q => ⟨high_pos T (by omega), by omega, by omega⟩⟩
    generalize T.root = rt at c1 ch
    rw [nd_high] at ch
    generalize T.high = hh at ch HE
    clear hw hD hM h he hs
    go_enter Tryz.func14, Tryz.ntmps14
    go_wp2_with fail
    go_ret
    exact ⟨⟨hh, rfl, HE.out⟩, rfl⟩
theorem lawHigh_calls (n : Int) (m : Nat) (w : World) (h : HighOk n m) : Calls Tryz.prog 13 #[.int .i64 n, .int .i64 m] w fun e w' => e = .returned (.bool true) ∧ w' = w := by
  by_cases hm : m < 2
  · have e0 := h.1 hm
    subst e0
    have t0 : decide ((m : Int) < 2) = true := by simp; omega
    clear h hm
    go_enter Tryz.func13, Tryz.ntmps13
    go_wp2_with fail
    go_ret
    exact ⟨rfl, rfl⟩
  · obtain ⟨a1, a2, a3⟩ := h.2 (by omega)
    have t0 : decide ((m : Int) < 2) = false := by simp; omega
    have t1 : decide (n < 1) = false := by simp; omega
    have t1' : decide (1 ≤ n) = true := by simp; omega
    have t2 : decide (n < (m : Int)) = true := by simp; omega
    have t3 : decide (n ≤ 40) = true := by simp; omega
    clear h hm a1 a2 a3
    go_enter Tryz.func13, Tryz.ntmps13
    go_wp2_with fail
    go_ret
    exact ⟨rfl, rfl⟩
end Go.Proofs.YtbfkloclmlnahaaGreatDoor
