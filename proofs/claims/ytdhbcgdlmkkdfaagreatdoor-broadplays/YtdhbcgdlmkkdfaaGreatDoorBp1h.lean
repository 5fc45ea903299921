/- broad.Tree.Many and High; gyrelaw's bound on High. -/
import Derived.Test.YtdhbcgdlmkkdfaaGreatDoorBp1
namespace Go.Proofs.YtdhbcgdlmkkdfaaGreatDoor
open Go.ChangeShapes Go.WideShapes Go.ChangeAt Go.RowKit Go.Sort Go.Shelf Go.Lib
set_option linter.unusedVariables false
set_option linter.unusedSimpArgs false

theorem many_calls (t : Nat) (fat : Int) (D : List Nat) (M : List (Int × Bx)) (w : World) (h : TreeIs w t fat D M) :
    Calls Tryz.prog 12 #[.pointer (some ⟨t, 0, none⟩)] w fun e w' => e = .returned (.int .i64 M.length) ∧ w' = w := by
  obtain ⟨T, lv, hw, hD, hM⟩ := h.ex
  have c2 := hw.tree.c2
  have hl := hw.book.len
  have he : Hid (M.length = (leavesO T).length) := by show M.length = _; rw [hM.length_eq]; simp [boxesOf]
  clear hw hD hM h
  go_enter Tryz.func12, Tryz.ntmps12
  go_wp2_with fail
  go_ret
  exact ⟨ret_int (by rw [he.out]), rfl⟩
def HighOk (n : Int) (m : Nat) : Prop := (m < 2 → n = 0) ∧ (2 ≤ m → 1 ≤ n ∧ n < m ∧ n ≤ 40)
theorem high_calls (t : Nat) (fat : Int) (D : List Nat) (M : List (Int × Bx)) (w : World) (h : TreeIs w t fat D M) :
    Calls Tryz.prog 14 #[.pointer (some ⟨t, 0, none⟩)] w fun e w' => (∃ n, e = .returned (.int .i64 n) ∧ HighOk n M.length) ∧ w' = w := by
  have hs := h.small
  obtain ⟨T, lv, hw, hD, hM⟩ := h.ex
  have he : M.length = (leavesO T).length := by rw [hM.length_eq]; simp [boxesOf]
  have c1 := hw.tree.c1
  cases T with
  | none =>
    have HE : Hid (M.length = 0) := by show M.length = 0; simpa [leavesO] using he
    simp only [rootO, Option.map_none] at c1
    clear hw hD hM h he hs
    go_enter Tryz.func14, Tryz.ntmps14
    go_wp2_with fail
    go_ret
    exact ⟨⟨0, rfl, fun _ => rfl, fun q => by have := HE.out; omega⟩, rfl⟩
  | some T =>
    simp only [rootO, Option.map_some] at c1
    simp only [leavesO] at he
    have ch := hw.inn.1.node.c13
    have HE : Hid (HighOk T.high M.length) := by
      have b1 := bal_high T hw.inn.2 (by omega)
      have b2 := high_lt_leaves T
      refine ⟨fun q => high_one T (by omega), fun q => ⟨high_pos T (by omega), by omega, by omega⟩⟩
    generalize T.root = rt at c1 ch
    rw [nd_high] at ch
    generalize T.high = hh at ch HE
    clear hw hD hM h he hs
    go_enter Tryz.func14, Tryz.ntmps14
    go_wp2_with fail
    go_ret
    exact ⟨⟨hh, rfl, HE.out⟩, rfl⟩
theorem lawHigh_calls (n : Int) (m : Nat) (w : World) (h : HighOk n m) : Calls Tryz.prog 13 #[.int .i64 n, .int .i64 m] w fun e w' => e = .returned (.bool true) ∧ w' = w := by
  by_cases hm : m < 2
  · have e0 := h.1 hm
    subst e0
    have t0 : decide ((m : Int) < 2) = true := by simp; omega
    clear h hm
    go_enter Tryz.func13, Tryz.ntmps13
    go_wp2_with fail
    go_ret
    exact ⟨rfl, rfl⟩
  · obtain ⟨a1, a2, a3⟩ := h.2 (by omega)
    have t0 : decide ((m : Int) < 2) = false := by simp; omega
    have t1 : decide (n < 1) = false := by simp; omega
    have t1' : decide (1 ≤ n) = true := by simp; omega
    have t2 : decide (n < (m : Int)) = true := by simp; omega
    have t3 : decide (n ≤ 40) = true := by simp; omega
    clear h hm a1 a2 a3
    go_enter Tryz.func13, Tryz.ntmps13
    go_wp2_with fail
    go_ret
    exact ⟨rfl, rfl⟩
end Go.Proofs.YtdhbcgdlmkkdfaaGreatDoor
