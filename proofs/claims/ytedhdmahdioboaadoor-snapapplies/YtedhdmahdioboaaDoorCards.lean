/-
  DERIVED. GIVEN WITH THE SEED: THE CARDS: each row of YtedhdmahdioboaaDoorRows.lean that lists a variable, with what it lists TIED to the program's text (the seventh form; the later family's looks); each row that meets fmt, with fmt's text TOLD by the authors' own Lean function (tested against real Go, not proved from fmt's source: count such statements apart). THE CARD IS WHAT COUNTS. Prove the row's statement (the work); the ties are given (YtedhdmahdioboaaDoorTie.lean); close each card by the builder's one call (the guide's Derived/Test/ToyasCard.lean, 'card_holds'). Laid BY PROGRAM, IN A SANDBOX (cutbox-door.mjs). By AI agents, Wed Nov 11 2026. No macro, syntax, notation, axiom, sorry.
-/
import Derived.Test.YtedhdmahdioboaaDoorRows
import GoSem.ClaimSeven
namespace Go.Proofs.YtedhdmahdioboaaDoor
namespace Rows

/-- THE TIED CARD OF 'gyrelaw.SnapApplies'. -/
def snapAppliesCard : Claim7 := { stood := { row := snapAppliesRow, standIns := [], harness := (true, "d461fd37c961443c11b58686f93dbd79607dd01924f9de272e7e5c978e67e452"), looks := true }, kinds := [], alts := [], laidByText := true, laidKinds := [.handle], laidTests := true, laidLooks := .later }
def SnapAppliesCardSaid : Prop := Claim7.holds Tryd.pinned (.plain (OpenSpec.ofChange snapAppliesSpec)) snapAppliesCard

/-- THE SECOND FORM's CARD OF 'gyrelaw.SnapApplies'. -/
def snapAppliesUptoCard : Claim7 := { stood := { row := snapAppliesUptoRow, standIns := [], harness := (true, "d461fd37c961443c11b58686f93dbd79607dd01924f9de272e7e5c978e67e452"), looks := true }, kinds := [], alts := [], laidByText := true, laidKinds := [.handle], laidTests := true, laidLooks := .later }
def SnapAppliesUptoCardSaid : Prop := Claim7.holds Tryd.pinned (.plain (OpenSpec.upto snapAppliesSpec)) snapAppliesUptoCard
end Rows
end Go.Proofs.YtedhdmahdioboaaDoor
