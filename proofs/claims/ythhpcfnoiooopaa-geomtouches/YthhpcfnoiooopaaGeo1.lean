/- geom.parts, its three takers, geom.sized and geom.all answer what one expects: whatever they are given. -/
import Derived.Test.YthhpcfnoiooopaaHeld
import Derived.LoopN
import Derived.Shelf.Abstract
import Derived.Laws.EntriesVeiled
namespace Go.Proofs.Ythhpcfnoiooopaa
open Go.ChangeShapes Go.WideShapes Go.ChangeAt Go.RowKit

theorem part0_calls (x y z : Int) (w : World) : Calls Try.prog 90 #[.agg #[.int .i64 x, .int .i64 y, .int .i64 z]] w fun e w' => e = .returned (.int .i64 x) ∧ Kept w w' := by
  go_enter Try.func90, Try.ntmps90
  go_wp2
  go_ret
  exact ⟨rfl, (Kept.refl _).alloc _ _⟩
theorem part1_calls (x y z : Int) (w : World) : Calls Try.prog 91 #[.agg #[.int .i64 x, .int .i64 y, .int .i64 z]] w fun e w' => e = .returned (.int .i64 y) ∧ Kept w w' := by
  go_enter Try.func91, Try.ntmps91
  go_wp2
  go_ret
  exact ⟨rfl, (Kept.refl _).alloc _ _⟩
theorem part2_calls (x y z : Int) (w : World) : Calls Try.prog 92 #[.agg #[.int .i64 x, .int .i64 y, .int .i64 z]] w fun e w' => e = .returned (.int .i64 z) ∧ Kept w w' := by
  go_enter Try.func92, Try.ntmps92
  go_wp2
  go_ret
  exact ⟨rfl, (Kept.refl _).alloc _ _⟩
theorem parts_calls (w : World) : Calls Try.prog 87 #[] w fun e w' => e = .returned (.agg #[.func (.func 90) #[] #[], .func (.func 91) #[] #[], .func (.func 92) #[] #[]]) ∧ Kept w w' := by
  go_enter Try.func87, Try.ntmps87
  go_wp2
  exact bodyPost_ret (v := .agg #[.func (.func 90) #[] #[], .func (.func 91) #[] #[], .func (.func 92) #[] #[]]) (by simp [results, Try.results87, go_sem]) rfl ⟨rfl, (Kept.refl _).alloc _ _⟩
theorem sized_calls (n : Int) (w : World) : Calls Try.prog 79 #[.int .i64 n] w fun e w' => e = .returned (.bool (decide (1 ≤ n) && decide (n ≤ 3276800))) ∧ Kept w w' := by
  by_cases h1 : 1 ≤ n
  · by_cases h2 : n ≤ 3276800
    · rw [decide_eq_true h1, decide_eq_true h2]
      go_enter Try.func79, Try.ntmps79
      go_wp2
      go_ret
      exact ⟨rfl, Kept.refl _⟩
    · rw [decide_eq_true h1, decide_eq_false h2]
      go_enter Try.func79, Try.ntmps79
      go_wp2
      go_ret
      exact ⟨rfl, Kept.refl _⟩
  · rw [decide_eq_false h1]
    go_enter Try.func79, Try.ntmps79
    go_wp2
    go_ret
    exact ⟨rfl, Kept.refl _⟩

/-- What a closure answers where 'Pre' holds, and that it keeps. -/
def Ans (fn : Nat) (args : Array Value) (Pre : World → Prop) (v : Value) : Prop := ∀ w, Pre w → Calls Try.prog fn args w fun e w' => e = .returned v ∧ Kept w w'
set_option maxHeartbeats 4000000 in
theorem all_calls (fn : Nat) (cap : Array Value) (b0 b1 b2 : Bool) (he : ∀ args w, (callFunc fn args).run Try.prog w = .ok (.enter fn args) w)
    (Pre : World → Prop) (hs : Hid (∀ w w', Kept w w' → Pre w → Pre w'))
    (h0 : Ans fn (#[.func (.func 90) #[] #[]] ++ cap) Pre (.bool b0)) (h1 : Ans fn (#[.func (.func 91) #[] #[]] ++ cap) Pre (.bool b1)) (h2 : Ans fn (#[.func (.func 92) #[] #[]] ++ cap) Pre (.bool b2))
    (w : World) (hp : Pre w) : Calls Try.prog 67 #[.func (.func fn) #[] cap] w fun e w' => e = .returned (.bool (b0 && b1 && b2)) ∧ Kept w w' := by
  have i0 : ∀ w : World, (Instr.index 80 (.agg #[.func (.func 90) #[] #[], .func (.func 91) #[] #[], .func (.func 92) #[] #[]]) (.int .i64 0)).run Try.prog w = .ok (.func (.func 90) #[] #[]) w := fun _ => rfl
  have i1 : ∀ w : World, (Instr.index 80 (.agg #[.func (.func 90) #[] #[], .func (.func 91) #[] #[], .func (.func 92) #[] #[]]) (.int .i64 1)).run Try.prog w = .ok (.func (.func 91) #[] #[]) w := fun _ => rfl
  have i2 : ∀ w : World, (Instr.index 80 (.agg #[.func (.func 90) #[] #[], .func (.func 91) #[] #[], .func (.func 92) #[] #[]]) (.int .i64 2)).run Try.prog w = .ok (.func (.func 92) #[] #[]) w := fun _ => rfl
  cases b0 with
  | false =>
    go_enter Try.func67, Try.ntmps67
    go_wp2_with fail
    refine (parts_calls _).mono ?_; rintro e w1 ⟨rfl, k1⟩
    have q0 : Pre w1 := hs.out _ _ k1 hp
    clear hp
    go_wp2_with fail
    refine wp_loop_rounds 4 ?_
    rw [rounds_succ]
    go_wp2_with fail
    go_at_fn fn
    refine (h0 _ q0).mono ?_; rintro e w2 ⟨rfl, k2⟩
    have q1 : Pre w2 := hs.out _ _ k2 q0
    clear q0
    go_wp2
    go_ret
    exact ⟨rfl, (k1).trans k2⟩
  | true =>
    cases b1 with
    | false =>
      go_enter Try.func67, Try.ntmps67
      go_wp2_with fail
      refine (parts_calls _).mono ?_; rintro e w1 ⟨rfl, k1⟩
      have q0 : Pre w1 := hs.out _ _ k1 hp
      clear hp
      go_wp2_with fail
      refine wp_loop_rounds 4 ?_
      rw [rounds_succ]
      go_wp2_with fail
      go_at_fn fn
      refine (h0 _ q0).mono ?_; rintro e w2 ⟨rfl, k2⟩
      have q1 : Pre w2 := hs.out _ _ k2 q0
      clear q0
      go_wp2_with fail
      rw [rounds_succ]
      go_wp2_with fail
      go_at_fn fn
      refine (h1 _ q1).mono ?_; rintro e w3 ⟨rfl, k3⟩
      have q2 : Pre w3 := hs.out _ _ k3 q1
      clear q1
      go_wp2
      go_ret
      exact ⟨rfl, ((k1).trans k2).trans k3⟩
    | true =>
      cases b2 with
      | false =>
        go_enter Try.func67, Try.ntmps67
        go_wp2_with fail
        refine (parts_calls _).mono ?_; rintro e w1 ⟨rfl, k1⟩
        have q0 : Pre w1 := hs.out _ _ k1 hp
        clear hp
        go_wp2_with fail
        refine wp_loop_rounds 4 ?_
        rw [rounds_succ]
        go_wp2_with fail
        go_at_fn fn
        refine (h0 _ q0).mono ?_; rintro e w2 ⟨rfl, k2⟩
        have q1 : Pre w2 := hs.out _ _ k2 q0
        clear q0
        go_wp2_with fail
        rw [rounds_succ]
        go_wp2_with fail
        go_at_fn fn
        refine (h1 _ q1).mono ?_; rintro e w3 ⟨rfl, k3⟩
        have q2 : Pre w3 := hs.out _ _ k3 q1
        clear q1
        go_wp2_with fail
        rw [rounds_succ]
        go_wp2_with fail
        go_at_fn fn
        refine (h2 _ q2).mono ?_; rintro e w4 ⟨rfl, k4⟩
        have q3 : Pre w4 := hs.out _ _ k4 q2
        clear q2
        go_wp2
        go_ret
        exact ⟨rfl, (((k1).trans k2).trans k3).trans k4⟩
      | true =>
        go_enter Try.func67, Try.ntmps67
        go_wp2_with fail
        refine (parts_calls _).mono ?_; rintro e w1 ⟨rfl, k1⟩
        have q0 : Pre w1 := hs.out _ _ k1 hp
        clear hp
        go_wp2_with fail
        refine wp_loop_rounds 4 ?_
        rw [rounds_succ]
        go_wp2_with fail
        go_at_fn fn
        refine (h0 _ q0).mono ?_; rintro e w2 ⟨rfl, k2⟩
        have q1 : Pre w2 := hs.out _ _ k2 q0
        clear q0
        go_wp2_with fail
        rw [rounds_succ]
        go_wp2_with fail
        go_at_fn fn
        refine (h1 _ q1).mono ?_; rintro e w3 ⟨rfl, k3⟩
        have q2 : Pre w3 := hs.out _ _ k3 q1
        clear q1
        go_wp2_with fail
        rw [rounds_succ]
        go_wp2_with fail
        go_at_fn fn
        refine (h2 _ q2).mono ?_; rintro e w4 ⟨rfl, k4⟩
        have q3 : Pre w4 := hs.out _ _ k4 q2
        clear q2
        go_wp2_with fail
        rw [rounds_succ]
        go_wp2
        go_ret
        exact ⟨rfl, (((k1).trans k2).trans k3).trans k4⟩
end Go.Proofs.Ythhpcfnoiooopaa
