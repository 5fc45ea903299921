/- geom.Meet, Within, Both, Near, Fat answer what chapter 2 says: whatever the boxes. -/
import Derived.Test.YtjfjbjooollmlaaGeo4
import Derived.Test.YtjfjbjooollmlaaPM
namespace Go.Proofs.Ytjfjbjooollmlaa
open Go.ChangeShapes Go.WideShapes Go.ChangeAt Go.RowKit
set_option linter.unusedSimpArgs false

theorem en0 : ∀ args w, (callFunc 113 args).run Try.prog w = .ok (.enter 113 args) w := enters_of Try.func113 (by kernel_rfl) rfl
theorem en1 : ∀ args w, (callFunc 114 args).run Try.prog w = .ok (.enter 114 args) w := enters_of Try.func114 (by kernel_rfl) rfl
theorem en2 : ∀ args w, (callFunc 115 args).run Try.prog w = .ok (.enter 115 args) w := enters_of Try.func115 (by kernel_rfl) rfl
theorem ans2 {fn : Nat} {a p q : Value} {Pre : World → Prop} {v : Value} (h : ∀ w, Pre w → Calls Try.prog fn #[a, p, q] w fun e w' => e = .returned v ∧ Kept w w') : Ans fn (#[a] ++ #[p, q]) Pre v := by
  rw [show (#[a] ++ #[p, q] : Array Value) = #[a, p, q] by simp]; exact h
theorem ans1 {fn : Nat} {a p : Value} {Pre : World → Prop} {v : Value} (h : ∀ w, Pre w → Calls Try.prog fn #[a, p] w fun e w' => e = .returned v ∧ Kept w w') : Ans fn (#[a] ++ #[p]) Pre v := by
  rw [show (#[a] ++ #[p] : Array Value) = #[a, p] by simp]; exact h
def meetB (a0 a1 a2 a3 a4 a5 b0 b1 b2 b3 b4 b5 : Int) : Bool := (decide (a0 ≤ b3) && decide (b0 ≤ a3)) && (decide (a1 ≤ b4) && decide (b1 ≤ a4)) && (decide (a2 ≤ b5) && decide (b2 ≤ a5))
def withinB (a0 a1 a2 a3 a4 a5 b0 b1 b2 b3 b4 b5 : Int) : Bool := (decide (b0 ≤ a0) && decide (a3 ≤ b3)) && (decide (b1 ≤ a1) && decide (a4 ≤ b4)) && (decide (b2 ≤ a2) && decide (a5 ≤ b5))
theorem gmeet_calls (a0 a1 a2 a3 a4 a5 b0 b1 b2 b3 b4 b5 : Int) (w : World) :
    Calls Try.prog 39 #[.agg #[.int .i64 a0, .int .i64 a1, .int .i64 a2, .int .i64 a3, .int .i64 a4, .int .i64 a5], .agg #[.int .i64 b0, .int .i64 b1, .int .i64 b2, .int .i64 b3, .int .i64 b4, .int .i64 b5]] w fun e w' => e = .returned (.bool (meetB a0 a1 a2 a3 a4 a5 b0 b1 b2 b3 b4 b5)) ∧ Kept w w' := by
  have hmf : ∀ (fn : Fn) (first cap : Array Value) (w : World), (Instr.makeFunc fn first cap).run Try.prog w = .ok (.func fn first cap) w := fun _ _ _ _ => rfl
  go_enter Try.func39, Try.ntmps39
  go_wp2_with fail
  refine (all_calls 75 _ (decide (a0 ≤ b3) && decide (b0 ≤ a3)) (decide (a1 ≤ b4) && decide (b1 ≤ a4)) (decide (a2 ≤ b5) && decide (b2 ≤ a5)) (enters_of Try.func75 (by kernel_rfl) rfl) (G66At w.heap.size (w.heap.size + 1) (.int .i64 a0) (.int .i64 a1) (.int .i64 a2) (.int .i64 a3) (.int .i64 a4) (.int .i64 a5) (.int .i64 b0) (.int .i64 b1) (.int .i64 b2) (.int .i64 b3) (.int .i64 b4) (.int .i64 b5)) (fun _ _ k h => h.step k)
    (ans2 fun w' h => meet1_calls _ _ en0 takes0 _ _ a0 a1 a2 a3 a4 a5 b0 b1 b2 b3 b4 b5 w' h) (ans2 fun w' h => meet1_calls _ _ en1 takes1 _ _ a0 a1 a2 a3 a4 a5 b0 b1 b2 b3 b4 b5 w' h) (ans2 fun w' h => meet1_calls _ _ en2 takes2 _ _ a0 a1 a2 a3 a4 a5 b0 b1 b2 b3 b4 b5 w' h) _ (by refine ⟨?_, ?_, ?_, ?_, ?_, ?_, ?_, ?_, ?_, ?_, ?_, ?_⟩ <;> go_simp)).mono ?_
  rintro e w1 ⟨rfl, k1⟩
  go_wp2
  go_ret
  exact ⟨rfl, (((Kept.refl _).alloc _ _).alloc _ _).trans k1⟩
theorem gwithin_calls (a0 a1 a2 a3 a4 a5 b0 b1 b2 b3 b4 b5 : Int) (w : World) :
    Calls Try.prog 41 #[.agg #[.int .i64 a0, .int .i64 a1, .int .i64 a2, .int .i64 a3, .int .i64 a4, .int .i64 a5], .agg #[.int .i64 b0, .int .i64 b1, .int .i64 b2, .int .i64 b3, .int .i64 b4, .int .i64 b5]] w fun e w' => e = .returned (.bool (withinB a0 a1 a2 a3 a4 a5 b0 b1 b2 b3 b4 b5)) ∧ Kept w w' := by
  have hmf : ∀ (fn : Fn) (first cap : Array Value) (w : World), (Instr.makeFunc fn first cap).run Try.prog w = .ok (.func fn first cap) w := fun _ _ _ _ => rfl
  go_enter Try.func41, Try.ntmps41
  go_wp2_with fail
  refine (all_calls 77 _ (decide (b0 ≤ a0) && decide (a3 ≤ b3)) (decide (b1 ≤ a1) && decide (a4 ≤ b4)) (decide (b2 ≤ a2) && decide (a5 ≤ b5)) (enters_of Try.func77 (by kernel_rfl) rfl) (G66At w.heap.size (w.heap.size + 1) (.int .i64 a0) (.int .i64 a1) (.int .i64 a2) (.int .i64 a3) (.int .i64 a4) (.int .i64 a5) (.int .i64 b0) (.int .i64 b1) (.int .i64 b2) (.int .i64 b3) (.int .i64 b4) (.int .i64 b5)) (fun _ _ k h => h.step k)
    (ans2 fun w' h => within1g_calls _ _ en0 takes0 _ _ a0 a1 a2 a3 a4 a5 b0 b1 b2 b3 b4 b5 w' h) (ans2 fun w' h => within1g_calls _ _ en1 takes1 _ _ a0 a1 a2 a3 a4 a5 b0 b1 b2 b3 b4 b5 w' h) (ans2 fun w' h => within1g_calls _ _ en2 takes2 _ _ a0 a1 a2 a3 a4 a5 b0 b1 b2 b3 b4 b5 w' h) _ (by refine ⟨?_, ?_, ?_, ?_, ?_, ?_, ?_, ?_, ?_, ?_, ?_, ?_⟩ <;> go_simp)).mono ?_
  rintro e w1 ⟨rfl, k1⟩
  go_wp2
  go_ret
  exact ⟨rfl, (((Kept.refl _).alloc _ _).alloc _ _).trans k1⟩
def near (p l h : Int) : Int := greater (lesser p h) l
theorem gnear_calls (b0 b1 b2 b3 b4 b5 p0 p1 p2 : Int) (w : World) :
    Calls Try.prog 47 #[.agg #[.int .i64 b0, .int .i64 b1, .int .i64 b2, .int .i64 b3, .int .i64 b4, .int .i64 b5], .agg #[.int .i64 p0, .int .i64 p1, .int .i64 p2]] w fun e w' => e = .returned (.agg #[.int .i64 (near p0 b0 b3), .int .i64 (near p1 b1 b4), .int .i64 (near p2 b2 b5)]) ∧ Kept w w' := by
  have hmf : ∀ (fn : Fn) (first cap : Array Value) (w : World), (Instr.makeFunc fn first cap).run Try.prog w = .ok (.func fn first cap) w := fun _ _ _ _ => rfl
  go_enter Try.func47, Try.ntmps47
  go_wp2_with fail
  refine (geach_calls 83 _ (near p0 b0 b3) (near p1 b1 b4) (near p2 b2 b5) (enters_of Try.func83 (by kernel_rfl) rfl) (G36At (w.heap.size + 1) w.heap.size (.int .i64 p0) (.int .i64 p1) (.int .i64 p2) (.int .i64 b0) (.int .i64 b1) (.int .i64 b2) (.int .i64 b3) (.int .i64 b4) (.int .i64 b5)) (fun _ _ k h => h.step k)
    (ans2 fun w' h => near1_calls _ _ en0 takes0 _ _ p0 p1 p2 b0 b1 b2 b3 b4 b5 w' h) (ans2 fun w' h => near1_calls _ _ en1 takes1 _ _ p0 p1 p2 b0 b1 b2 b3 b4 b5 w' h) (ans2 fun w' h => near1_calls _ _ en2 takes2 _ _ p0 p1 p2 b0 b1 b2 b3 b4 b5 w' h) _ (by refine ⟨?_, ?_, ?_, ?_, ?_, ?_, ?_, ?_, ?_⟩ <;> go_simp)).mono ?_
  rintro e w1 ⟨rfl, k1⟩
  have c0 : w1.cell? ⟨w.heap.size + 1 + 1, 0, none⟩ = some (.int .i64 0) := kept_cell k1 (by go_simp)
  have c1 : w1.cell? ⟨w.heap.size + 1 + 1, 1, none⟩ = some (.int .i64 0) := kept_cell k1 (by go_simp)
  have c2 : w1.cell? ⟨w.heap.size + 1 + 1, 2, none⟩ = some (.int .i64 0) := kept_cell k1 (by go_simp)
  have f0 : w1.frozen? ⟨w.heap.size + 1 + 1, 0, none⟩ = false := kept_frozen k1 (by go_simp)
  have f1 : w1.frozen? ⟨w.heap.size + 1 + 1, 1, none⟩ = false := kept_frozen k1 (by go_simp)
  have f2 : w1.frozen? ⟨w.heap.size + 1 + 1, 2, none⟩ = false := kept_frozen k1 (by go_simp)
  go_wp2
  obtain ⟨e0, e1, e2⟩ := set3_of (v0 := .int .i64 (near p0 b0 b3)) (v1 := .int .i64 (near p1 b1 b4)) (v2 := .int .i64 (near p2 b2 b5)) c0 c1 c2
  exact bodyPost_ret (v := .agg #[.int .i64 (near p0 b0 b3), .int .i64 (near p1 b1 b4), .int .i64 (near p2 b2 b5)]) (by simp [results, Try.results47, go_sem, e0, e1, e2]) rfl
    ⟨rfl, kept_set3 (((((Kept.refl w).alloc _ _).alloc _ _).alloc _ _).trans k1) (by omega) _ _ _⟩
end Go.Proofs.Ytjfjbjooollmlaa
