/- slices.SortFunc sorts a list of pairs by the first, then the second: whatever they are. -/
import Derived.Test.YtdhbcgdlmkkdfaaGreatDoorBr21
import Derived.Test.YtdhbcgdlmkkdfaaGreatDoorLay
namespace Go.Proofs.YtdhbcgdlmkkdfaaGreatDoor
open Go.ChangeShapes Go.WideShapes Go.ChangeAt Go.RowKit Go.Sort Go.Shelf Go.Lib
set_option linter.unusedVariables false
set_option linter.unusedSimpArgs false

theorem flat_get : ∀ (Q : List (Int × Int)) (j : Nat) (hj : j < Q.length), (Q.flatMap enc2)[j * 2]? = some (.int .i64 (Q[j].1)) ∧ (Q.flatMap enc2)[j * 2 + 1]? = some (.int .i64 (Q[j].2)) := by
  intro Q
  induction Q with
  | nil => intro j hj; simp at hj
  | cons p Q ih =>
    intro j hj
    cases j with
    | zero => simp [enc2]
    | succ j =>
      have := ih j (by simpa using hj)
      simp only [List.flatMap_cons, enc2, List.cons_append, List.nil_append]
      rw [show (j + 1) * 2 = j * 2 + 1 + 1 by omega]
      simpa using this
theorem flat_len (Q : List (Int × Int)) : (Q.flatMap enc2).length = Q.length * 2 := by
  induction Q with
  | nil => rfl
  | cons p Q ih => simp only [List.flatMap_cons, List.length_append, ih, enc2, List.length_cons, List.length_nil]; omega
theorem flat_eq (P : List (Int × Int)) : flatK enc2 2 P.toArray = (P.flatMap enc2).toArray := by
  refine ext_get! (by rw [size_flatK, List.size_toArray, List.size_toArray, flat_len]) (fun t ht => ?_)
  simp only [size_flatK, List.size_toArray] at ht
  rw [get_flatK _ _ _ _ (by simpa using ht)]
  have hj : t / 2 < P.length := by omega
  obtain ⟨h1, h2⟩ := flat_get P (t / 2) hj
  have e1 : P.toArray[t / 2]! = P[t / 2] := by rw [getElem!_pos _ _ (by simpa using hj)]; simp
  have hlen := flat_len P
  have e2 : (P.flatMap enc2).toArray[t]! = (P.flatMap enc2)[t]'(by omega) := by rw [getElem!_pos _ _ (by rw [List.size_toArray]; omega)]; rfl
  rw [e1, e2]
  rcases Nat.mod_two_eq_zero_or_one t with h | h
  · rw [show t / 2 * 2 = t by omega, List.getElem?_eq_getElem (by omega)] at h1
    injection h1 with h1
    rw [h1, h]; rfl
  · rw [show t / 2 * 2 + 1 = t by omega, List.getElem?_eq_getElem (by omega)] at h2
    injection h2 with h2
    rw [h2, h]; rfl

theorem putCells_size (F cur : Array Value) : (putCells id 0 F cur).size = cur.size := by simp [putCells]
theorem putCells_take (F cur : Array Value) (h : F.size ≤ cur.size) : (putCells id 0 F cur).toList.take F.size = F.toList := by
  apply List.ext_getElem?
  intro i
  rw [List.getElem?_take]
  by_cases hi : i < F.size
  · rw [if_pos hi, Array.getElem?_toList, Array.getElem?_toList]
    simp only [putCells, Array.getElem?_mapIdx]
    rw [Array.getElem?_eq_getElem (show i < cur.size by omega), Array.getElem?_eq_getElem hi]
    simp [hi]
  · rw [if_neg hi, Array.getElem?_toList, Array.getElem?_eq_none (by omega)]

theorem lt2 (x y : Int × Int) : ltOf cmp2 x y = decide (x.1 < y.1 ∨ x.1 = y.1 ∧ x.2 < y.2) := by
  unfold ltOf cmp2 orI cmpI
  by_cases h1 : x.1 < y.1
  · simp [h1]
  · by_cases h2 : y.1 < x.1
    · simp [h1, h2]; omega
    · have e : x.1 = y.1 := by omega
      simp only [h1, h2, if_false, if_true]
      by_cases h3 : x.2 < y.2
      · simp [h3, e]
      · by_cases h4 : y.2 < x.2 <;> simp [h3, h4]
theorem swo2 : SWO (ltOf cmp2) where
  irrefl x := by rw [lt2]; simp
  trans x y z h1 h2 := by rw [lt2] at *; simp at *; omega
  ntrans x y z h1 h2 := by rw [lt2] at *; simp at *; omega
theorem tot2 (x y : Int × Int) (h1 : ltOf cmp2 x y = false) (h2 : ltOf cmp2 y x = false) : x = y := by
  rw [lt2] at h1 h2
  simp at h1 h2
  obtain ⟨a, b⟩ := x; obtain ⟨c, d⟩ := y
  simp only at h1 h2
  have e1 : a = c := by omega
  subst e1
  have e2 : b = d := by have := h1.2; have := h2.2; simp at *; omega
  rw [e2]

theorem sorts : Sorts := by
  intro w v P h hl
  by_cases h0 : P = []
  · subst h0
    obtain ⟨a, c, rfl, _⟩ := h.shape
    refine (AnyF.slices_SortFunc_none sortP a c _ w).mono ?_
    rintro e w' ⟨rfl, rfl⟩
    exact ⟨rfl, by simpa [sort2] using h, Only.refl _ _⟩
  · obtain ⟨h1, ⟨rfl, h2⟩ | ⟨g, cap, cur, rfl, hb, hg, hn, hc, hs, ht⟩⟩ := h
    · exact absurd (List.eq_nil_of_length_eq_zero h2) h0
    · have hglt : g < w.heap.size := (Array.getElem?_eq_some_iff.1 hg).1
      have hfl := flat_len P
      have eg : ∀ args w, (callFunc 25 args).run Tryz.prog w = .ok (.enter 25 args) w := enters_of Tryz.func25 (by kernel_rfl) rfl
      have hcmp : CmpLays Tryz.prog 25 #[] enc2 2 cmp2 g 0 P.toArray.size w := fun _ _ _ _ x y => closure_calls x y _
      have hH : HoldsK enc2 2 w g 0 P.toArray := by
        unfold HoldsK
        rw [flat_eq]
        intro j hj
        simp only [List.size_toArray] at hj
        have e : cur[j]? = some ((P.flatMap enc2)[j]'hj) := by
          have e1 : (cur.toList.take (P.length * 2))[j]? = some ((P.flatMap enc2)[j]'hj) := by rw [ht]; simp [hj]
          rw [List.getElem?_take, if_pos (by omega)] at e1
          rw [← e1, Array.getElem?_toList]
        have e2 : (P.flatMap enc2).toArray[j]! = (P.flatMap enc2)[j]'hj := by rw [getElem!_pos _ _ (by simpa using hj)]; simp
        refine ⟨?_, by simp [World.frozen?, hg]⟩
        rw [e2]
        simp [World.cell?, hg, e]
      have hcon := AnyQ.slices_SortFunc_total sortP 2 (fun _ => by kernel_rfl) (fun _ => by kernel_rfl) enc2 (fun _ => rfl) (fun x v hv => by simp [enc2] at hv; rcases hv with rfl | rfl <;> rfl) cmp2 swo2 25 #[] g 0 cap P.toArray w eg hcmp hH hglt (by simp; omega) tot2
      refine Calls.mono (show Calls Tryz.prog 24 #[.slice (some ⟨g, 0, none⟩) P.length cap, .func (.func 25) #[] #[]] w _ from hcon) ?_
      rintro e w' ⟨rfl, n, os, rfl⟩
      have hsp : (sort2 P).Perm P := List.mergeSort_perm _ _
      have hF : flatK enc2 2 (P.mergeSort fun x y => !ltOf cmp2 y x).toArray = ((sort2 P).flatMap enc2).toArray := flat_eq _
      have hlen2 := flat_len (sort2 P)
      have hpl := hsp.length_eq
      have hFs : ((sort2 P).flatMap enc2).toArray.size ≤ cur.size := by rw [List.size_toArray, hlen2, hpl, hs]; omega
      have hblk : (sortWorldK enc2 2 w g 0 n (P.mergeSort fun x y => !ltOf cmp2 y x).toArray os).heap[g]? = some (.cells (putCells id 0 ((sort2 P).flatMap enc2).toArray cur) 50 (0, 0)) := by
        unfold sortWorldK putRowK
        rw [hF, heap_grow_old _ _ (by simpa using hglt)]
        show (w.heap.modify g (onCells (putCells id 0 ((sort2 P).flatMap enc2).toArray)))[g]? = _
        rw [Array.getElem?_modify, if_pos rfl, hg]; rfl
      refine ⟨rfl, ⟨by rw [hlen2], Or.inr ⟨g, cap, _, by rw [hpl], hb, hblk, by rw [hpl]; exact hn, hc, by rw [putCells_size]; exact hs, ?_⟩⟩, ?_⟩
      · have := putCells_take ((sort2 P).flatMap enc2).toArray cur hFs
        rw [List.size_toArray, hlen2] at this
        rw [this]
      · refine ⟨rfl, rfl, rfl, ?_, fun b hb' hD => ?_⟩
        · simp [sortWorldK, putRowK]
        · have hne : g ≠ b := fun e => hD (by simp [ownL, Value.ownBlock, e])
          unfold sortWorldK putRowK
          rw [heap_grow_old _ _ (by simpa using hb')]
          show (w.heap.modify g _)[b]? = _
          rw [Array.getElem?_modify, if_neg hne]
end Go.Proofs.YtdhbcgdlmkkdfaaGreatDoor
