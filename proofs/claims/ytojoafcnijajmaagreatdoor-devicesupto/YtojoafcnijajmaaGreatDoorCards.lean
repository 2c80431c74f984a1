/-
  DERIVED. GIVEN WITH THE SEED: THE CARDS: each row of YtojoafcnijajmaaGreatDoorRows.lean that lists a variable, with what it lists TIED to the program's text (the seventh form; the later family's looks); each row that meets fmt, with fmt's text TOLD by the authors' own Lean function (tested against real Go, not proved from fmt's source: count such statements apart). THE CARD IS WHAT COUNTS. Prove the row's statement (the work); the ties are given (YtojoafcnijajmaaGreatDoorTie.lean); close each card by the builder's one call (the guide's Derived/Test/ToyasCard.lean, 'card_holds'). Laid BY PROGRAM, IN A SANDBOX (cutbox-door.mjs). By AI agents, Wed Nov 11 2026. No macro, syntax, notation, axiom, sorry.
-/
import Derived.Test.YtojoafcnijajmaaGreatDoorRows
import GoSem.ClaimSeven
namespace Go.Proofs.YtojoafcnijajmaaGreatDoor
namespace Rows

/-- THE TIED CARD OF 'berthlaw.Devices'. -/
def devicesCard : Claim7 := { stood := { row := devicesRow, standIns := [], harness := (true, "dc98952acfe3087e1e2dc62f5d6a265b0c795db00ee1b1cb907ac6022a19ca8e"), looks := true }, kinds := [], alts := [], goes := true, laidByText := true, laidKinds := [.data, .data, .data, .data, .sentinel, .sentinel, .sentinel, .pinned, .pinned, .pinned, .pinned, .pinned, .pinned], laidTests := true, laidLooks := .later }
def DevicesCardSaid : Prop := Claim7.holds Tryz.pinned (.plain (OpenSpec.ofChange devicesSpec)) devicesCard

/-- THE TIED CARD OF 'berthkeep.Widths'. -/
def widthsCard : Claim7 := { stood := { row := widthsRow, standIns := [], harness := (true, "dc98952acfe3087e1e2dc62f5d6a265b0c795db00ee1b1cb907ac6022a19ca8e"), looks := true }, kinds := [], alts := [], goes := true, laidByText := true, laidKinds := [.data, .data, .data, .data, .sentinel, .pinned, .pinned, .pinned, .pinned, .pinned, .pinned], laidTests := true, laidLooks := .later }
def WidthsCardSaid : Prop := Claim7.holds Tryz.pinned (.plain (OpenSpec.ofChange widthsSpec)) widthsCard

/-- THE SECOND FORM's CARD OF 'berthlaw.Devices'. -/
def devicesUptoCard : Claim7 := { stood := { row := devicesUptoRow, standIns := [], harness := (true, "dc98952acfe3087e1e2dc62f5d6a265b0c795db00ee1b1cb907ac6022a19ca8e"), looks := true }, kinds := [], alts := [], goes := true, laidByText := true, laidKinds := [.data, .data, .data, .data, .sentinel, .sentinel, .sentinel, .pinned, .pinned, .pinned, .pinned, .pinned, .pinned], laidTests := true, laidLooks := .later }
def DevicesUptoCardSaid : Prop := Claim7.holds Tryz.pinned (.plain (OpenSpec.upto devicesSpec)) devicesUptoCard

/-- THE SECOND FORM's CARD OF 'berthkeep.Widths'. -/
def widthsUptoCard : Claim7 := { stood := { row := widthsUptoRow, standIns := [], harness := (true, "dc98952acfe3087e1e2dc62f5d6a265b0c795db00ee1b1cb907ac6022a19ca8e"), looks := true }, kinds := [], alts := [], goes := true, laidByText := true, laidKinds := [.data, .data, .data, .data, .sentinel, .pinned, .pinned, .pinned, .pinned, .pinned, .pinned], laidTests := true, laidLooks := .later }
def WidthsUptoCardSaid : Prop := Claim7.holds Tryz.pinned (.plain (OpenSpec.upto widthsSpec)) widthsUptoCard
end Rows
end Go.Proofs.YtojoafcnijajmaaGreatDoor
