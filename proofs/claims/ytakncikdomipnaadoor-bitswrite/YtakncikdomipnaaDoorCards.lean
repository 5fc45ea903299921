/-
  DERIVED. GIVEN WITH THE SEED: THE CARDS: each row of YtakncikdomipnaaDoorRows.lean that lists a variable, with what it lists TIED to the program's text (the seventh form; the later family's looks); each row that meets fmt, with fmt's text TOLD by the authors' own Lean function (tested against real Go, not proved from fmt's source: count such statements apart). THE CARD IS WHAT COUNTS. Prove the row's statement (the work); the ties are given (YtakncikdomipnaaDoorTie.lean); close each card by the builder's one call (the guide's Derived/Test/ToyasCard.lean, 'card_holds'). Laid BY PROGRAM, IN A SANDBOX (cutbox-door.mjs). By AI agents, Wed Nov 11 2026. No macro, syntax, notation, axiom, sorry.
-/
import Derived.Test.YtakncikdomipnaaDoorRows
import GoSem.ClaimSeven
namespace Go.Proofs.YtakncikdomipnaaDoor
namespace Rows

/-- THE TIED CARD OF 'gyrelaw.BitsWrite'. -/
def bitsWriteCard : Claim7 := { stood := { row := bitsWriteRow, standIns := [], harness := (true, "ce17911009dbf3a4008ca33afa6ab0376439c17eff5d200699be67ae6fa5fef8"), looks := true }, kinds := [], alts := [], laidByText := true, laidKinds := [.handle], laidTests := true, laidLooks := .later }
def BitsWriteCardSaid : Prop := Claim7.holds Tryd.pinned (.plain (OpenSpec.ofChange bitsWriteSpec)) bitsWriteCard

/-- THE TIED CARD OF 'gyrelaw.BitsRead'. -/
def bitsReadCard : Claim7 := { stood := { row := bitsReadRow, standIns := [], harness := (true, "ce17911009dbf3a4008ca33afa6ab0376439c17eff5d200699be67ae6fa5fef8"), looks := true }, kinds := [], alts := [], laidByText := true, laidKinds := [.handle], laidTests := true, laidLooks := .later }
def BitsReadCardSaid : Prop := Claim7.holds Tryd.pinned (.plain (OpenSpec.ofChange bitsReadSpec)) bitsReadCard

/-- THE SECOND FORM's CARD OF 'gyrelaw.BitsWrite'. -/
def bitsWriteUptoCard : Claim7 := { stood := { row := bitsWriteUptoRow, standIns := [], harness := (true, "ce17911009dbf3a4008ca33afa6ab0376439c17eff5d200699be67ae6fa5fef8"), looks := true }, kinds := [], alts := [], laidByText := true, laidKinds := [.handle], laidTests := true, laidLooks := .later }
def BitsWriteUptoCardSaid : Prop := Claim7.holds Tryd.pinned (.plain (OpenSpec.upto bitsWriteSpec)) bitsWriteUptoCard

/-- THE SECOND FORM's CARD OF 'gyrelaw.BitsRead'. -/
def bitsReadUptoCard : Claim7 := { stood := { row := bitsReadUptoRow, standIns := [], harness := (true, "ce17911009dbf3a4008ca33afa6ab0376439c17eff5d200699be67ae6fa5fef8"), looks := true }, kinds := [], alts := [], laidByText := true, laidKinds := [.handle], laidTests := true, laidLooks := .later }
def BitsReadUptoCardSaid : Prop := Claim7.holds Tryd.pinned (.plain (OpenSpec.upto bitsReadSpec)) bitsReadUptoCard
end Rows
end Go.Proofs.YtakncikdomipnaaDoor
