/-
  DERIVED. GIVEN WITH THE SEED: THE CARDS: each row of YticdkhijjlcacaaDoorRows.lean that lists a variable, with what it lists TIED to the program's text (the seventh form; the later family's looks); each row that meets fmt, with fmt's text TOLD by the authors' own Lean function (tested against real Go, not proved from fmt's source: count such statements apart). THE CARD IS WHAT COUNTS. Prove the row's statement (the work); the ties are given (YticdkhijjlcacaaDoorTie.lean); close each card by the builder's one call (the guide's Derived/Test/ToyasCard.lean, 'card_holds'). Laid BY PROGRAM, IN A SANDBOX (cutbox-door.mjs). By AI agents, Wed Nov 11 2026. No macro, syntax, notation, axiom, sorry.
-/
import Derived.Test.YticdkhijjlcacaaDoorRows
import GoSem.ClaimSeven
namespace Go.Proofs.YticdkhijjlcacaaDoor
namespace Rows

/-- THE TIED CARD OF 'gyrelaw.SnapDeltas'. -/
def snapDeltasCard : Claim7 := { stood := { row := snapDeltasRow, standIns := [], harness := (true, "8d2513d72ecdc4c606d9ad0765f4901f92fc18928db6f6146b9b52da25e6242e"), looks := true }, kinds := [], alts := [], laidByText := true, laidKinds := [.handle], laidTests := true, laidLooks := .later }
def SnapDeltasCardSaid : Prop := Claim7.holds Tryd.pinned (.plain (OpenSpec.ofChange snapDeltasSpec)) snapDeltasCard

/-- THE TIED CARD OF 'gyrelaw.SnapApplies'. -/
def snapAppliesCard : Claim7 := { stood := { row := snapAppliesRow, standIns := [], harness := (true, "8d2513d72ecdc4c606d9ad0765f4901f92fc18928db6f6146b9b52da25e6242e"), looks := true }, kinds := [], alts := [], laidByText := true, laidKinds := [.handle], laidTests := true, laidLooks := .later }
def SnapAppliesCardSaid : Prop := Claim7.holds Tryd.pinned (.plain (OpenSpec.ofChange snapAppliesSpec)) snapAppliesCard

/-- THE TIED CARD OF 'gyrekeep.SnapBack'. -/
def snapBackCard : Claim7 := { stood := { row := snapBackRow, standIns := [], harness := (true, "8d2513d72ecdc4c606d9ad0765f4901f92fc18928db6f6146b9b52da25e6242e"), looks := true }, kinds := [], alts := [], laidByText := true, laidKinds := [.handle], laidTests := true, laidLooks := .later }
def SnapBackCardSaid : Prop := Claim7.holds Tryd.pinned (.plain (OpenSpec.ofChange snapBackSpec)) snapBackCard

/-- THE SECOND FORM's CARD OF 'gyrelaw.SnapDeltas'. -/
def snapDeltasUptoCard : Claim7 := { stood := { row := snapDeltasUptoRow, standIns := [], harness := (true, "8d2513d72ecdc4c606d9ad0765f4901f92fc18928db6f6146b9b52da25e6242e"), looks := true }, kinds := [], alts := [], laidByText := true, laidKinds := [.handle], laidTests := true, laidLooks := .later }
def SnapDeltasUptoCardSaid : Prop := Claim7.holds Tryd.pinned (.plain (OpenSpec.upto snapDeltasSpec)) snapDeltasUptoCard

/-- THE SECOND FORM's CARD OF 'gyrelaw.SnapApplies'. -/
def snapAppliesUptoCard : Claim7 := { stood := { row := snapAppliesUptoRow, standIns := [], harness := (true, "8d2513d72ecdc4c606d9ad0765f4901f92fc18928db6f6146b9b52da25e6242e"), looks := true }, kinds := [], alts := [], laidByText := true, laidKinds := [.handle], laidTests := true, laidLooks := .later }
def SnapAppliesUptoCardSaid : Prop := Claim7.holds Tryd.pinned (.plain (OpenSpec.upto snapAppliesSpec)) snapAppliesUptoCard

/-- THE SECOND FORM's CARD OF 'gyrekeep.SnapBack'. -/
def snapBackUptoCard : Claim7 := { stood := { row := snapBackUptoRow, standIns := [], harness := (true, "8d2513d72ecdc4c606d9ad0765f4901f92fc18928db6f6146b9b52da25e6242e"), looks := true }, kinds := [], alts := [], laidByText := true, laidKinds := [.handle], laidTests := true, laidLooks := .later }
def SnapBackUptoCardSaid : Prop := Claim7.holds Tryd.pinned (.plain (OpenSpec.upto snapBackSpec)) snapBackUptoCard
end Rows
end Go.Proofs.YticdkhijjlcacaaDoor
