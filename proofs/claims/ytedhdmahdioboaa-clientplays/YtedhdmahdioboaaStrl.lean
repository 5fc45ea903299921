/- Bytes that a call owns, as a string. -/
import Derived.Test.YtedhdmahdioboaaStrs
import Derived.Test.YtedhdmahdioboaaSu1
namespace Go.Proofs.Ytedhdmahdioboaa
open Go.ChangeShapes Go.WideShapes Go.ChangeAt Go.RowKit
set_option linter.unusedVariables false
set_option linter.unusedSimpArgs false

theorem SlB.two {w : World} {v : Value} {L : List Nat} (h : SlB w v L) : (v = .slice none 0 0 ∧ L = []) ∨ ∃ g c, v = .slice (some ⟨g, 0, none⟩) L.length c ∧ CellsBy w g L := by
  have hs := h.shape
  obtain ⟨h1, ⟨rfl, h2⟩ | ⟨g, cap, cur, rfl, hb, hg, hn, hc, hs', ht⟩⟩ := h
  · exact Or.inl ⟨rfl, List.length_eq_zero_iff.1 h2⟩
  · refine Or.inr ⟨g, cap, rfl, fun j hj => ?_⟩
    obtain ⟨a, c, e, _, hcell⟩ := hs
    injection e with e1 _ _
    obtain ⟨g', e', hc'⟩ := hcell j hj
    rw [← e1] at e'; injection e' with e'; injection e' with e2 _ _; subst e2
    rw [Nat.zero_add, hc', getD_cast _ _ hj]
theorem SlB.reads {w : World} {v : Value} {L : List Nat} (h : SlB w v L) : ReadsAs w v L := by
  rcases h.two with ⟨rfl, rfl⟩ | ⟨g, c, rfl, hc⟩
  · exact ReadsAs.nil w
  · exact fun u o => str_some g c L u (hc.only o)
end Go.Proofs.Ytedhdmahdioboaa
