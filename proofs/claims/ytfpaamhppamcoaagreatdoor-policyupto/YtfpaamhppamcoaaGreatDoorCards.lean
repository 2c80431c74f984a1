/-
  DERIVED. GIVEN WITH THE SEED: THE CARDS: each row of YtfpaamhppamcoaaGreatDoorRows.lean that lists a variable, with what it lists TIED to the program's text (the seventh form; the later family's looks); each row that meets fmt, with fmt's text TOLD by the authors' own Lean function (tested against real Go, not proved from fmt's source: count such statements apart). THE CARD IS WHAT COUNTS. Prove the row's statement (the work); the ties are given (YtfpaamhppamcoaaGreatDoorTie.lean); close each card by the builder's one call (the guide's Derived/Test/ToyasCard.lean, 'card_holds'). Laid BY PROGRAM, IN A SANDBOX (cutbox-door.mjs). By AI agents, Wed Nov 11 2026. No macro, syntax, notation, axiom, sorry.
-/
import Derived.Test.YtfpaamhppamcoaaGreatDoorRows
import GoSem.ClaimSeven
namespace Go.Proofs.YtfpaamhppamcoaaGreatDoor
namespace Rows

/-- THE TIED CARD OF 'berthkeep.Widths'. -/
def widthsCard : Claim7 := { stood := { row := widthsRow, standIns := [], harness := (true, "7c8e16c0a9df6253f226cc1ad714faf89ce73139df5594e7aa88515848e1325d"), looks := true }, kinds := [], alts := [], goes := true, laidByText := true, laidKinds := [.data, .data, .data, .data, .sentinel, .pinned, .pinned, .pinned, .pinned, .pinned, .pinned], laidTests := true, laidLooks := .later }
def WidthsCardSaid : Prop := Claim7.holds Tryz.pinned (.plain (OpenSpec.ofChange widthsSpec)) widthsCard

/-- THE TIED CARD OF 'berthkeep.Whole'. -/
def wholeCard : Claim7 := { stood := { row := wholeRow, standIns := [], harness := (true, "7c8e16c0a9df6253f226cc1ad714faf89ce73139df5594e7aa88515848e1325d"), looks := true }, kinds := [], alts := [], goes := true, laidByText := true, laidKinds := [.data, .data, .data, .data, .sentinel, .pinned, .pinned, .pinned, .pinned, .pinned, .pinned], laidTests := true, laidLooks := .later }
def WholeCardSaid : Prop := Claim7.holds Tryz.pinned (.plain (OpenSpec.ofChange wholeSpec)) wholeCard

/-- THE TIED CARD OF 'berthkeep.Policy'. -/
def policyCard : Claim7 := { stood := { row := policyRow, standIns := [], harness := (true, "7c8e16c0a9df6253f226cc1ad714faf89ce73139df5594e7aa88515848e1325d"), looks := true }, kinds := [], alts := [], goes := true, laidByText := true, laidKinds := [.data, .data, .data, .data, .sentinel, .pinned, .pinned, .pinned, .pinned, .pinned, .pinned], laidTests := true, laidLooks := .later }
def PolicyCardSaid : Prop := Claim7.holds Tryz.pinned (.plain (OpenSpec.ofChange policySpec)) policyCard

/-- THE TIED CARD OF 'berthkeep.Spent'. -/
def spentCard : Claim7 := { stood := { row := spentRow, standIns := [], harness := (true, "7c8e16c0a9df6253f226cc1ad714faf89ce73139df5594e7aa88515848e1325d"), looks := true }, kinds := [], alts := [], goes := true, laidByText := true, laidKinds := [.data, .data, .data, .data, .sentinel, .pinned, .pinned, .pinned, .pinned, .pinned, .pinned], laidTests := true, laidLooks := .later }
def SpentCardSaid : Prop := Claim7.holds Tryz.pinned (.plain (OpenSpec.ofChange spentSpec)) spentCard

/-- THE TIED CARD OF 'berthkeep.Refused'. -/
def refusedCard : Claim7 := { stood := { row := refusedRow, standIns := [], harness := (true, "7c8e16c0a9df6253f226cc1ad714faf89ce73139df5594e7aa88515848e1325d"), looks := true }, kinds := [], alts := [], goes := true, laidByText := true, laidKinds := [.data, .data, .data, .data, .sentinel, .sentinel, .sentinel, .pinned, .pinned, .pinned, .pinned, .pinned, .pinned], laidTests := true, laidLooks := .later }
def RefusedCardSaid : Prop := Claim7.holds Tryz.pinned (.plain (OpenSpec.ofChange refusedSpec)) refusedCard

/-- THE SECOND FORM's CARD OF 'berthkeep.Widths'. -/
def widthsUptoCard : Claim7 := { stood := { row := widthsUptoRow, standIns := [], harness := (true, "7c8e16c0a9df6253f226cc1ad714faf89ce73139df5594e7aa88515848e1325d"), looks := true }, kinds := [], alts := [], goes := true, laidByText := true, laidKinds := [.data, .data, .data, .data, .sentinel, .pinned, .pinned, .pinned, .pinned, .pinned, .pinned], laidTests := true, laidLooks := .later }
def WidthsUptoCardSaid : Prop := Claim7.holds Tryz.pinned (.plain (OpenSpec.upto widthsSpec)) widthsUptoCard

/-- THE SECOND FORM's CARD OF 'berthkeep.Whole'. -/
def wholeUptoCard : Claim7 := { stood := { row := wholeUptoRow, standIns := [], harness := (true, "7c8e16c0a9df6253f226cc1ad714faf89ce73139df5594e7aa88515848e1325d"), looks := true }, kinds := [], alts := [], goes := true, laidByText := true, laidKinds := [.data, .data, .data, .data, .sentinel, .pinned, .pinned, .pinned, .pinned, .pinned, .pinned], laidTests := true, laidLooks := .later }
def WholeUptoCardSaid : Prop := Claim7.holds Tryz.pinned (.plain (OpenSpec.upto wholeSpec)) wholeUptoCard

/-- THE SECOND FORM's CARD OF 'berthkeep.Policy'. -/
def policyUptoCard : Claim7 := { stood := { row := policyUptoRow, standIns := [], harness := (true, "7c8e16c0a9df6253f226cc1ad714faf89ce73139df5594e7aa88515848e1325d"), looks := true }, kinds := [], alts := [], goes := true, laidByText := true, laidKinds := [.data, .data, .data, .data, .sentinel, .pinned, .pinned, .pinned, .pinned, .pinned, .pinned], laidTests := true, laidLooks := .later }
def PolicyUptoCardSaid : Prop := Claim7.holds Tryz.pinned (.plain (OpenSpec.upto policySpec)) policyUptoCard

/-- THE SECOND FORM's CARD OF 'berthkeep.Spent'. -/
def spentUptoCard : Claim7 := { stood := { row := spentUptoRow, standIns := [], harness := (true, "7c8e16c0a9df6253f226cc1ad714faf89ce73139df5594e7aa88515848e1325d"), looks := true }, kinds := [], alts := [], goes := true, laidByText := true, laidKinds := [.data, .data, .data, .data, .sentinel, .pinned, .pinned, .pinned, .pinned, .pinned, .pinned], laidTests := true, laidLooks := .later }
def SpentUptoCardSaid : Prop := Claim7.holds Tryz.pinned (.plain (OpenSpec.upto spentSpec)) spentUptoCard

/-- THE SECOND FORM's CARD OF 'berthkeep.Refused'. -/
def refusedUptoCard : Claim7 := { stood := { row := refusedUptoRow, standIns := [], harness := (true, "7c8e16c0a9df6253f226cc1ad714faf89ce73139df5594e7aa88515848e1325d"), looks := true }, kinds := [], alts := [], goes := true, laidByText := true, laidKinds := [.data, .data, .data, .data, .sentinel, .sentinel, .sentinel, .pinned, .pinned, .pinned, .pinned, .pinned, .pinned], laidTests := true, laidLooks := .later }
def RefusedUptoCardSaid : Prop := Claim7.holds Tryz.pinned (.plain (OpenSpec.upto refusedSpec)) refusedUptoCard
end Rows
end Go.Proofs.YtfpaamhppamcoaaGreatDoor
