/- geom.parts, its three takers, geom.sized and geom.all answer what one expects: whatever they are given. -/
import Derived.Test.YtdhbcgdlmkkdfaaGreatDoorHeld
import Derived.LoopN
import Derived.Shelf.Abstract
import Derived.Laws.EntriesVeiled
namespace Go.Proofs.YtdhbcgdlmkkdfaaGreatDoor
open Go.ChangeShapes Go.WideShapes Go.ChangeAt Go.RowKit

theorem part0_calls (x y z : Int) (w : World) : Calls Tryz.prog 88 #[.agg #[.int .i64 x, .int .i64 y, .int .i64 z]] w fun e w' => e = .returned (.int .i64 x) ∧ Kept w w' := by
  go_enter Tryz.func88, Tryz.ntmps88
  go_wp2
  go_ret
  exact ⟨rfl, (Kept.refl _).alloc _ _⟩
theorem part1_calls (x y z : Int) (w : World) : Calls Tryz.prog 89 #[.agg #[.int .i64 x, .int .i64 y, .int .i64 z]] w fun e w' => e = .returned (.int .i64 y) ∧ Kept w w' := by
  go_enter Tryz.func89, Tryz.ntmps89
  go_wp2
  go_ret
  exact ⟨rfl, (Kept.refl _).alloc _ _⟩
theorem part2_calls (x y z : Int) (w : World) : Calls Tryz.prog 90 #[.agg #[.int .i64 x, .int .i64 y, .int .i64 z]] w fun e w' => e = .returned (.int .i64 z) ∧ Kept w w' := by
  go_enter Tryz.func90, Tryz.ntmps90
  go_wp2
  go_ret
  exact ⟨rfl, (Kept.refl _).alloc _ _⟩
theorem parts_calls (w : World) : Calls Tryz.prog 73 #[] w fun e w' => e = .returned (.agg #[.func (.func 88) #[] #[], .func (.func 89) #[] #[], .func (.func 90) #[] #[]]) ∧ Kept w w' := by
  go_enter Tryz.func73, Tryz.ntmps73
  go_wp2
  exact bodyPost_ret (v := .agg #[.func (.func 88) #[] #[], .func (.func 89) #[] #[], .func (.func 90) #[] #[]]) (by simp [results, Tryz.results73, go_sem]) rfl ⟨rfl, (Kept.refl _).alloc _ _⟩
/-- What a closure answers where 'Pre' holds, and that it keeps. -/
def Ans (fn : Nat) (args : Array Value) (Pre : World → Prop) (v : Value) : Prop := ∀ w, Pre w → Calls Tryz.prog fn args w fun e w' => e = .returned v ∧ Kept w w'
set_option maxRecDepth 100000 in
set_option maxHeartbeats 4000000 in
theorem all_calls (fn : Nat) (cap : Array Value) (b0 b1 b2 : Bool) (he : ∀ args w, (callFunc fn args).run Tryz.prog w = .ok (.enter fn args) w)
    (Pre : World → Prop) (hs : Hid (∀ w w', Kept w w' → Pre w → Pre w'))
    (h0 : Ans fn (#[.func (.func 88) #[] #[]] ++ cap) Pre (.bool b0)) (h1 : Ans fn (#[.func (.func 89) #[] #[]] ++ cap) Pre (.bool b1)) (h2 : Ans fn (#[.func (.func 90) #[] #[]] ++ cap) Pre (.bool b2))
    (w : World) (hp : Pre w) : Calls Tryz.prog 42 #[.func (.func fn) #[] cap] w fun e w' => e = .returned (.bool (b0 && b1 && b2)) ∧ Kept w w' := by
  have i0 : ∀ w : World, (Instr.index 124 (.agg #[.func (.func 88) #[] #[], .func (.func 89) #[] #[], .func (.func 90) #[] #[]]) (.int .i64 0)).run Tryz.prog w = .ok (.func (.func 88) #[] #[]) w := fun _ => rfl
  have i1 : ∀ w : World, (Instr.index 124 (.agg #[.func (.func 88) #[] #[], .func (.func 89) #[] #[], .func (.func 90) #[] #[]]) (.int .i64 1)).run Tryz.prog w = .ok (.func (.func 89) #[] #[]) w := fun _ => rfl
  have i2 : ∀ w : World, (Instr.index 124 (.agg #[.func (.func 88) #[] #[], .func (.func 89) #[] #[], .func (.func 90) #[] #[]]) (.int .i64 2)).run Tryz.prog w = .ok (.func (.func 90) #[] #[]) w := fun _ => rfl
  cases b0 with
  | false =>
    go_enter Tryz.func42, Tryz.ntmps42
    go_wp2_with fail
    refine (parts_calls _).mono ?_; rintro e w1 ⟨rfl, k1⟩
    have q0 : Pre w1 := hs.out _ _ k1 hp
    clear hp
    go_wp2_with fail
    refine wp_loop_rounds 4 ?_
    rw [rounds_succ]
    go_wp2_with fail
    go_at_fn fn
    refine (h0 _ q0).mono ?_; rintro e w2 ⟨rfl, k2⟩
    have q1 : Pre w2 := hs.out _ _ k2 q0
    clear q0
    go_wp2
    go_ret
    exact ⟨rfl, (k1).trans k2⟩
  | true =>
    cases b1 with
    | false =>
      go_enter Tryz.func42, Tryz.ntmps42
      go_wp2_with fail
      refine (parts_calls _).mono ?_; rintro e w1 ⟨rfl, k1⟩
      have q0 : Pre w1 := hs.out _ _ k1 hp
      clear hp
      go_wp2_with fail
      refine wp_loop_rounds 4 ?_
      rw [rounds_succ]
      go_wp2_with fail
      go_at_fn fn
      refine (h0 _ q0).mono ?_; rintro e w2 ⟨rfl, k2⟩
      have q1 : Pre w2 := hs.out _ _ k2 q0
      clear q0
      go_wp2_with fail
      rw [rounds_succ]
      go_wp2_with fail
      go_at_fn fn
      refine (h1 _ q1).mono ?_; rintro e w3 ⟨rfl, k3⟩
      have q2 : Pre w3 := hs.out _ _ k3 q1
      clear q1
      go_wp2
      go_ret
      exact ⟨rfl, ((k1).trans k2).trans k3⟩
    | true =>
      cases b2 with
      | false =>
        go_enter Tryz.func42, Tryz.ntmps42
        go_wp2_with fail
        refine (parts_calls _).mono ?_; rintro e w1 ⟨rfl, k1⟩
        have q0 : Pre w1 := hs.out _ _ k1 hp
        clear hp
        go_wp2_with fail
        refine wp_loop_rounds 4 ?_
        rw [rounds_succ]
        go_wp2_with fail
        go_at_fn fn
        refine (h0 _ q0).mono ?_; rintro e w2 ⟨rfl, k2⟩
        have q1 : Pre w2 := hs.out _ _ k2 q0
        clear q0
        go_wp2_with fail
        rw [rounds_succ]
        go_wp2_with fail
        go_at_fn fn
        refine (h1 _ q1).mono ?_; rintro e w3 ⟨rfl, k3⟩
        have q2 : Pre w3 := hs.out _ _ k3 q1
        clear q1
        go_wp2_with fail
        rw [rounds_succ]
        go_wp2_with fail
        go_at_fn fn
        refine (h2 _ q2).mono ?_; rintro e w4 ⟨rfl, k4⟩
        have q3 : Pre w4 := hs.out _ _ k4 q2
        clear q2
        go_wp2
        go_ret
        exact ⟨rfl, (((k1).trans k2).trans k3).trans k4⟩
      | true =>
        go_enter Tryz.func42, Tryz.ntmps42
        go_wp2_with fail
        refine (parts_calls _).mono ?_; rintro e w1 ⟨rfl, k1⟩
        have q0 : Pre w1 := hs.out _ _ k1 hp
        clear hp
        go_wp2_with fail
        refine wp_loop_rounds 4 ?_
        rw [rounds_succ]
        go_wp2_with fail
        go_at_fn fn
        refine (h0 _ q0).mono ?_; rintro e w2 ⟨rfl, k2⟩
        have q1 : Pre w2 := hs.out _ _ k2 q0
        clear q0
        go_wp2_with fail
        rw [rounds_succ]
        go_wp2_with fail
        go_at_fn fn
        refine (h1 _ q1).mono ?_; rintro e w3 ⟨rfl, k3⟩
        have q2 : Pre w3 := hs.out _ _ k3 q1
        clear q1
        go_wp2_with fail
        rw [rounds_succ]
        go_wp2_with fail
        go_at_fn fn
        refine (h2 _ q2).mono ?_; rintro e w4 ⟨rfl, k4⟩
        have q3 : Pre w4 := hs.out _ _ k4 q2
        clear q2
        go_wp2_with fail
        rw [rounds_succ]
        go_wp2
        go_ret
        exact ⟨rfl, (((k1).trans k2).trans k3).trans k4⟩
end Go.Proofs.YtdhbcgdlmkkdfaaGreatDoor
