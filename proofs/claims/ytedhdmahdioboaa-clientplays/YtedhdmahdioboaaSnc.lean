/- snap.lowest: whatever the views. -/
import Derived.Test.YtedhdmahdioboaaSnb
namespace Go.Proofs.Ytedhdmahdioboaa
open Go.ChangeShapes Go.WideShapes Go.ChangeAt Go.RowKit
set_option linter.unusedVariables false
set_option linter.unusedSimpArgs false

theorem Only.drewN {D : List Nat} (w : World) (k : Nat) : Only D w (w.drewN k) := ⟨rfl, rfl, rfl, Nat.le_refl _, fun _ _ _ => rfl⟩
set_option maxRecDepth 100000 in
theorem lowest_calls (F T : List Sn) (u v : Value) (w : World) (hu : SvAt w u F) (hv : SvAt w v T) (hf : F.length ≤ 1000) (ht : T.length ≤ 1000) (hn : ¬ (F = [] ∧ T = [])) :
    Calls Try.prog 147 #[u, v] w fun e w' => e = .returned (.int .i64 (lowId F T)) ∧ Only [] w w' := by
  obtain ⟨a, c, rfl, _, hu⟩ := hu
  obtain ⟨b, d, rfl, _, hv⟩ := hv
  cases F with
  | nil =>
    cases T with
    | nil => exact absurd ⟨rfl, rfl⟩ hn
    | cons t T =>
      obtain ⟨g, o, rfl, e0⟩ := SvAt.heads (n := 0) (c := 0) hv
      clear hu hv hn
      rw [show ([] : List Sn).length = 0 from rfl, show (t :: T).length = T.length + 1 from rfl]
      go_enter Try.func147, Try.ntmps147
      go_wp2_with fail
      go_ret
      exact ⟨rfl, Only.refl _ _⟩
  | cons s F =>
    obtain ⟨g, o, rfl, e0⟩ := SvAt.heads (n := 0) (c := 0) hu
    cases T with
    | nil =>
      clear hu hv hn
      rw [show ([] : List Sn).length = 0 from rfl, show (s :: F).length = F.length + 1 from rfl]
      have hz : ((F.length : Int) + 1 == 0) = false := by simp; omega
      go_enter Try.func147, Try.ntmps147
      go_wp2_with fail
      go_ret
      exact ⟨rfl, Only.refl _ _⟩
    | cons t T =>
      obtain ⟨g', o', rfl, e1⟩ := SvAt.heads (n := 0) (c := 0) hv
      clear hu hv hn
      rw [show (t :: T).length = T.length + 1 from rfl, show (s :: F).length = F.length + 1 from rfl]
      have hz : ((F.length : Int) + 1 == 0) = false := by simp; omega
      have hz' : ((T.length : Int) + 1 == 0) = false := by simp; omega
      have HL : Hid (lowId (s :: F) (t :: T) = if s.id ≤ t.id then s.id else t.id) := rfl
      go_enter Try.func147, Try.ntmps147
      go_wp2_with fail
      go_quiet (fail)
      all_goals go_wp2_with fail
      all_goals go_ret
      all_goals exact ⟨congrArg (fun k => Ending.returned (.int .i64 k)) (by rw [HL.out]; split <;> omega), Only.drewN _ _⟩
end Go.Proofs.Ytedhdmahdioboaa
