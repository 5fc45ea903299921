/- geom.Meet, Within, Both, Near, Fat answer what chapter 2 says: whatever the boxes. -/
import Derived.Test.YtdhbcgdlmkkdfaaGreatDoorGeo4
import Derived.Test.YtdhbcgdlmkkdfaaGreatDoorPM
namespace Go.Proofs.YtdhbcgdlmkkdfaaGreatDoor
open Go.ChangeShapes Go.WideShapes Go.ChangeAt Go.RowKit
set_option linter.unusedSimpArgs false

theorem en0 : ∀ args w, (callFunc 88 args).run Tryz.prog w = .ok (.enter 88 args) w := enters_of Tryz.func88 (by kernel_rfl) rfl
theorem en1 : ∀ args w, (callFunc 89 args).run Tryz.prog w = .ok (.enter 89 args) w := enters_of Tryz.func89 (by kernel_rfl) rfl
theorem en2 : ∀ args w, (callFunc 90 args).run Tryz.prog w = .ok (.enter 90 args) w := enters_of Tryz.func90 (by kernel_rfl) rfl
theorem ans2 {fn : Nat} {a p q : Value} {Pre : World → Prop} {v : Value} (h : ∀ w, Pre w → Calls Tryz.prog fn #[a, p, q] w fun e w' => e = .returned v ∧ Kept w w') : Ans fn (#[a] ++ #[p, q]) Pre v := by
  rw [show (#[a] ++ #[p, q] : Array Value) = #[a, p, q] by simp]; exact h
theorem ans1 {fn : Nat} {a p : Value} {Pre : World → Prop} {v : Value} (h : ∀ w, Pre w → Calls Tryz.prog fn #[a, p] w fun e w' => e = .returned v ∧ Kept w w') : Ans fn (#[a] ++ #[p]) Pre v := by
  rw [show (#[a] ++ #[p] : Array Value) = #[a, p] by simp]; exact h
def meetB (a0 a1 a2 a3 a4 a5 b0 b1 b2 b3 b4 b5 : Int) : Bool := (decide (a0 ≤ b3) && decide (b0 ≤ a3)) && (decide (a1 ≤ b4) && decide (b1 ≤ a4)) && (decide (a2 ≤ b5) && decide (b2 ≤ a5))
def withinB (a0 a1 a2 a3 a4 a5 b0 b1 b2 b3 b4 b5 : Int) : Bool := (decide (b0 ≤ a0) && decide (a3 ≤ b3)) && (decide (b1 ≤ a1) && decide (a4 ≤ b4)) && (decide (b2 ≤ a2) && decide (a5 ≤ b5))
theorem gmeet_calls (a0 a1 a2 a3 a4 a5 b0 b1 b2 b3 b4 b5 : Int) (w : World) :
    Calls Tryz.prog 29 #[.agg #[.int .i64 a0, .int .i64 a1, .int .i64 a2, .int .i64 a3, .int .i64 a4, .int .i64 a5], .agg #[.int .i64 b0, .int .i64 b1, .int .i64 b2, .int .i64 b3, .int .i64 b4, .int .i64 b5]] w fun e w' => e = .returned (.bool (meetB a0 a1 a2 a3 a4 a5 b0 b1 b2 b3 b4 b5)) ∧ Kept w w' := by
  have hmf : ∀ (fn : Fn) (first cap : Array Value) (w : World), (Instr.makeFunc fn first cap).run Tryz.prog w = .ok (.func fn first cap) w := fun _ _ _ _ => rfl
  go_enter Tryz.func29, Tryz.ntmps29
  go_wp2_with fail
  refine (all_calls 43 _ (decide (a0 ≤ b3) && decide (b0 ≤ a3)) (decide (a1 ≤ b4) && decide (b1 ≤ a4)) (decide (a2 ≤ b5) && decide (b2 ≤ a5)) (enters_of Tryz.func43 (by kernel_rfl) rfl) (G66At w.heap.size (w.heap.size + 1) (.int .i64 a0) (.int .i64 a1) (.int .i64 a2) (.int .i64 a3) (.int .i64 a4) (.int .i64 a5) (.int .i64 b0) (.int .i64 b1) (.int .i64 b2) (.int .i64 b3) (.int .i64 b4) (.int .i64 b5)) (fun _ _ k h => h.step k)
    (ans2 fun w' h => meet1_calls _ _ en0 takes0 _ _ a0 a1 a2 a3 a4 a5 b0 b1 b2 b3 b4 b5 w' h) (ans2 fun w' h => meet1_calls _ _ en1 takes1 _ _ a0 a1 a2 a3 a4 a5 b0 b1 b2 b3 b4 b5 w' h) (ans2 fun w' h => meet1_calls _ _ en2 takes2 _ _ a0 a1 a2 a3 a4 a5 b0 b1 b2 b3 b4 b5 w' h) _ (by refine ⟨?_, ?_, ?_, ?_, ?_, ?_, ?_, ?_, ?_, ?_, ?_, ?_⟩ <;> go_simp)).mono ?_
  rintro e w1 ⟨rfl, k1⟩
  go_wp2
  go_ret
  exact ⟨rfl, (((Kept.refl _).alloc _ _).alloc _ _).trans k1⟩
theorem gwithin_calls (a0 a1 a2 a3 a4 a5 b0 b1 b2 b3 b4 b5 : Int) (w : World) :
    Calls Tryz.prog 30 #[.agg #[.int .i64 a0, .int .i64 a1, .int .i64 a2, .int .i64 a3, .int .i64 a4, .int .i64 a5], .agg #[.int .i64 b0, .int .i64 b1, .int .i64 b2, .int .i64 b3, .int .i64 b4, .int .i64 b5]] w fun e w' => e = .returned (.bool (withinB a0 a1 a2 a3 a4 a5 b0 b1 b2 b3 b4 b5)) ∧ Kept w w' := by
  have hmf : ∀ (fn : Fn) (first cap : Array Value) (w : World), (Instr.makeFunc fn first cap).run Tryz.prog w = .ok (.func fn first cap) w := fun _ _ _ _ => rfl
  go_enter Tryz.func30, Tryz.ntmps30
  go_wp2_with fail
  refine (all_calls 44 _ (decide (b0 ≤ a0) && decide (a3 ≤ b3)) (decide (b1 ≤ a1) && decide (a4 ≤ b4)) (decide (b2 ≤ a2) && decide (a5 ≤ b5)) (enters_of Tryz.func44 (by kernel_rfl) rfl) (G66At w.heap.size (w.heap.size + 1) (.int .i64 a0) (.int .i64 a1) (.int .i64 a2) (.int .i64 a3) (.int .i64 a4) (.int .i64 a5) (.int .i64 b0) (.int .i64 b1) (.int .i64 b2) (.int .i64 b3) (.int .i64 b4) (.int .i64 b5)) (fun _ _ k h => h.step k)
    (ans2 fun w' h => within1g_calls _ _ en0 takes0 _ _ a0 a1 a2 a3 a4 a5 b0 b1 b2 b3 b4 b5 w' h) (ans2 fun w' h => within1g_calls _ _ en1 takes1 _ _ a0 a1 a2 a3 a4 a5 b0 b1 b2 b3 b4 b5 w' h) (ans2 fun w' h => within1g_calls _ _ en2 takes2 _ _ a0 a1 a2 a3 a4 a5 b0 b1 b2 b3 b4 b5 w' h) _ (by refine ⟨?_, ?_, ?_, ?_, ?_, ?_, ?_, ?_, ?_, ?_, ?_, ?_⟩ <;> go_simp)).mono ?_
  rintro e w1 ⟨rfl, k1⟩
  go_wp2
  go_ret
  exact ⟨rfl, (((Kept.refl _).alloc _ _).alloc _ _).trans k1⟩
def near (p l h : Int) : Int := greater (lesser p h) l
end Go.Proofs.YtdhbcgdlmkkdfaaGreatDoor
