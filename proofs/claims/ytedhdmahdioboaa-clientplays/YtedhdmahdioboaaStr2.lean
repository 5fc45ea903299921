/- Bytes that came in as a string; bytes.Equal: whatever they are. -/
import Derived.Test.YtedhdmahdioboaaStrs
namespace Go.Proofs.Ytedhdmahdioboaa
open Go.ChangeShapes Go.WideShapes Go.ChangeAt Go.RowKit
set_option linter.unusedVariables false
set_option linter.unusedSimpArgs false

theorem str_at (g o c : Nat) (L : List Nat) (w : World) (h : ∀ j, j < L.length → w.cell? ⟨g, o + j, none⟩ = some (.int .u8 ((L.getD j 0 : Nat) : Int))) : (convert 53 9 (.slice (some ⟨g, o, none⟩) L.length c)).run Try.prog w = .ok (.string (strB L)) w :=
  run_convert_bytes_arg w 53 5 Try.underlying53 Try.underlying5 g o L.length c (L.map (fun c : Nat => (c : Int))) (by simp) (fun j hj => by rw [h j hj, getD_cast _ _ hj]) 9 Try.underlying9
theorem str_empty (ad : Addr) (c : Nat) (w : World) : (convert 53 9 (.slice (some ad) 0 c)).run Try.prog w = .ok (.string (strB [])) w := by
  have hl : (loadCells ad 0).run Try.prog w = .ok #[] w := run_loadCells_list (P := Try.prog) w ad [] (fun j v hj => by simp at hj)
  rw [run_convert_bytes_string w 53 9 5 _ 0 c Try.underlying53 Try.underlying5 Try.underlying9]
  simp [Conv.bytesToString, hl, Result.andThen]
  rfl
set_option maxRecDepth 100000 in
theorem arg_reads {w : World} {a : Option Addr} {c : Nat} {L : List Nat} (h : ByAt w a L) (hn : a = none → L = [] ∧ c = 0) : ReadsAs w (.slice a L.length c) L := by
  intro u o
  have h' := h.only o (by simp)
  cases a with
  | none =>
    obtain ⟨rfl, rfl⟩ := hn rfl
    exact str_none u
  | some ad =>
    cases L with
    | nil => exact str_empty ad c u
    | cons b t =>
      obtain ⟨g, p, e, _⟩ := h' 0 (by simp)
      injection e with e
      subst e
      refine str_at g p c (b :: t) u (fun j hj => ?_)
      obtain ⟨g', p', e, hc⟩ := h' j hj
      injection e with e; injection e with e1 e2 _; subst e1 e2
      exact hc
/-- Whether two strings of bytes are the same. -/
def sameB (L1 L2 : List Nat) : Bool := (strB L1).toList == (strB L2).toList
theorem sameB_refl (L : List Nat) : sameB L L = true := by simp [sameB]
theorem equalB_calls (v1 v2 : Value) (L1 L2 : List Nat) (w : World) (h1 : ReadsAs w v1 L1) (h2 : ReadsAs w v2 L2) : Calls Try.prog 74 #[v1, v2] w fun e w' => e = .returned (.bool (sameB L1 L2)) ∧ w' = w := by
  have c1 := h1 w (Only.refl _ _)
  have c2 := h2 w (Only.refl _ _)
  go_enter Try.func74, Try.ntmps74
  go_wp2_with fail
  go_ret
  exact ⟨rfl, rfl⟩
end Go.Proofs.Ytedhdmahdioboaa
