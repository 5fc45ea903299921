/- api.Tell, plain.Bare, gyrelaw.bare at what the tree hands back: nil, or a bare Errno. -/
import Derived.Test.YtdhbcgdlmkkdfaaGreatDoorAs2
import Derived.Test.YtdhbcgdlmkkdfaaGreatDoorBr23
import Derived.Test.YtdhbcgdlmkkdfaaGreatDoorGeo7
namespace Go.Proofs.YtdhbcgdlmkkdfaaGreatDoor
open Go.ChangeShapes Go.WideShapes Go.ChangeAt Go.RowKit Go.Extern.Stop Go.Stop Go.Extern
set_option linter.unusedVariables false
set_option linter.unusedSimpArgs false

theorem beqI (a b : Int) : (a == b) = decide (a = b) := by by_cases h : a = b <;> simp [h]
theorem asW_kept (n : Int) (w0 w : World) (t : Addr) (k : Kept w0 w) (h : w0.heap.size ≤ t.block) : Kept w0 (asW n t w) :=
  ((((k.alloc _ _).alloc _ _).alloc _ _).alloc _ _).setCell h _
theorem asW_cell (n : Int) (w : World) (t : Addr) (old : Value) (ht0 : w.cell? t = some old) : (asW n t w).cell? t = some (.int .i64 n) := by
  have htl : t.block < w.heap.size := by
    rcases Nat.lt_or_ge t.block w.heap.size with h | h
    · exact h
    · simp [World.cell?, Array.getElem?_eq_none h] at ht0
  exact World.cell?_setCell_same _ _ _ (by rw [World.cell?_alloc_lt _ _ t (by simp; omega), World.cell?_alloc_lt _ _ t (by simp; omega), World.cell?_alloc_lt _ _ t (by simp; omega), World.cell?_alloc_lt _ _ t htl]; exact ht0)
theorem noAt (v : Value) (w : World) : (Instr.typeAssert (.iface 29 v) 25 73 true).run Tryz.prog w = .ok (.tuple #[.pointer none, .bool false]) w := by kernel_rfl
theorem noUnwrap (v : Value) (w : World) : (Instr.typeAssert (.iface 29 v) 25 75 true).run Tryz.prog w = .ok (.tuple #[.nilIface, .bool false]) w := run_typeAssert_lacksB Tryz.underlying75 (by kernel_rfl) (by kernel_rfl) v _ w
theorem tell_nil (w : World) : Calls Tryz.prog 28 #[.nilIface] w fun e w' => e = .returned (.int .i64 0) ∧ Kept w w' := by
  go_enter Tryz.func28, Tryz.ntmps28
  go_wp2
  go_ret
  exact ⟨rfl, Kept.refl w⟩
theorem tell_errno (n : Int) (w : World) (hg : EtIs w) : Calls Tryz.prog 28 #[.iface 29 (.int .i64 n)] w fun e w' => e = .returned (.int .i64 n) ∧ Kept w w' := by
  have HG : Hid (EtIs w) := hg
  clear hg
  go_enter Tryz.func28, Tryz.ntmps28
  go_wp2_with fail
  have k0 : Hid (Kept w _) := (Kept.refl w).alloc #[.int .i64 0] 29
  have c0 : Hid ((w.alloc (.cells #[.int .i64 0] 29)).cell? ⟨w.heap.size, 0, none⟩ = some (.int .i64 0) ∧ (w.alloc (.cells #[.int .i64 0] 29)).frozen? ⟨w.heap.size, 0, none⟩ = false) := ⟨by simp, by simp⟩
  revert k0 c0
  generalize World.alloc w _ = w0
  intro k0 c0
  refine (as_hit n ⟨w.heap.size, 0, none⟩ _ w0 (HG.out.kept k0.out) c0.out.1 c0.out.2).mono ?_
  rintro e w1 ⟨rfl, rfl⟩
  have k1 : Hid (Kept w _) := asW_kept n w w0 ⟨w.heap.size, 0, none⟩ k0.out (Nat.le_refl _)
  have c1 := asW_cell n w0 ⟨w.heap.size, 0, none⟩ _ c0.out.1
  revert k1 c1
  generalize asW n _ w0 = w1
  intro k1 c1
  go_wp2_with fail
  go_ret
  exact ⟨rfl, k1.out⟩
theorem plainBare_nil (w : World) : Calls Tryz.prog 16 #[.nilIface] w fun e w' => e = .returned (.tuple #[.int .i64 0, .bool true]) ∧ Kept w w' := by
  go_enter Tryz.func16, Tryz.ntmps16
  go_wp2_with fail
  refine (tell_nil w).mono ?_
  rintro e w1 ⟨rfl, k1⟩
  have K : Hid (Kept w w1) := k1
  clear k1
  go_wp2_with fail
  refine wp_loop_rounds 1 ?_
  rw [rounds_succ]
  go_wp2_with fail
  go_ret2
  exact ⟨rfl, K.out⟩
theorem plainBare_errno (n : Int) (w : World) (hg : EtIs w) : Calls Tryz.prog 16 #[.iface 29 (.int .i64 n)] w fun e w' => e = .returned (.tuple #[.int .i64 n, .bool true]) ∧ Kept w w' := by
  have HG : Hid (EtIs w) := hg
  clear hg
  have a1 := noAt
  have a2 := noUnwrap
  go_enter Tryz.func16, Tryz.ntmps16
  go_wp2_with fail
  refine (tell_errno n w HG.out).mono ?_
  rintro e w1 ⟨rfl, k1⟩
  have K : Hid (Kept w w1) := k1
  clear k1
  go_wp2_with fail
  refine wp_loop_rounds 1 ?_
  rw [rounds_succ]
  go_wp2_with fail
  go_ret2
  exact ⟨rfl, K.out⟩
/-- gyrelaw.bare: whether what came back is just that Errno. -/
theorem bare_calls (c d : Int) (w : World) (hg : EtIs w) : Calls Tryz.prog 5 #[errV c, .int .i64 d] w fun e w' => e = .returned (.bool (decide (c = d))) ∧ Kept w w' := by
  have HG : Hid (EtIs w) := hg
  clear hg
  by_cases hc : c = 0
  · subst hc
    rw [show errV 0 = .nilIface from rfl]
    go_enter Tryz.func5, Tryz.ntmps5
    go_wp2_with fail
    refine (plainBare_nil w).mono ?_
    rintro e w1 ⟨rfl, k1⟩
    have K : Hid (Kept w w1) := k1
    clear k1
    go_wp2_with fail
    go_ret
    exact ⟨ret_bool (beqI _ _), K.out⟩
  · rw [show errV c = .iface 29 (.int .i64 c) from if_neg hc]
    clear hc
    go_enter Tryz.func5, Tryz.ntmps5
    go_wp2_with fail
    refine (plainBare_errno c w HG.out).mono ?_
    rintro e w1 ⟨rfl, k1⟩
    have K : Hid (Kept w w1) := k1
    clear k1
    go_wp2_with fail
    go_ret
    exact ⟨ret_bool (beqI _ _), K.out⟩
end Go.Proofs.YtdhbcgdlmkkdfaaGreatDoor
