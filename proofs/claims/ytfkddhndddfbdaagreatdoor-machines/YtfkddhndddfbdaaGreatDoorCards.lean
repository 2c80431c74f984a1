/-
  DERIVED. GIVEN WITH THE SEED: THE CARDS: each row of YtfkddhndddfbdaaGreatDoorRows.lean that lists a variable, with what it lists TIED to the program's text (the seventh form; the later family's looks); each row that meets fmt, with fmt's text TOLD by the authors' own Lean function (tested against real Go, not proved from fmt's source: count such statements apart). THE CARD IS WHAT COUNTS. Prove the row's statement (the work); the ties are given (YtfkddhndddfbdaaGreatDoorTie.lean); close each card by the builder's one call (the guide's Derived/Test/ToyasCard.lean, 'card_holds'). Laid BY PROGRAM, IN A SANDBOX (cutbox-door.mjs). By AI agents, Wed Nov 11 2026. No macro, syntax, notation, axiom, sorry.
-/
import Derived.Test.YtfkddhndddfbdaaGreatDoorRows
import GoSem.ClaimSeven
namespace Go.Proofs.YtfkddhndddfbdaaGreatDoor
namespace Rows

/-- THE TIED CARD OF 'berthlaw.Machines'. -/
def machinesCard : Claim7 := { stood := { row := machinesRow, standIns := [], harness := (true, "3296c1bbb9b14d9ec6d934d6ea9299828f6bc34580785d2ff3aa88dc29df5c4f"), looks := true }, kinds := [], alts := [], goes := true, laidByText := true, laidKinds := [.data, .data, .data, .data, .sentinel, .sentinel, .sentinel, .pinned, .pinned, .pinned, .pinned, .pinned, .pinned], laidTests := true, laidLooks := .later }
def MachinesCardSaid : Prop := Claim7.holds Tryz.pinned (.plain (OpenSpec.ofChange machinesSpec)) machinesCard

/-- THE TIED CARD OF 'berthlaw.Devices'. -/
def devicesCard : Claim7 := { stood := { row := devicesRow, standIns := [], harness := (true, "3296c1bbb9b14d9ec6d934d6ea9299828f6bc34580785d2ff3aa88dc29df5c4f"), looks := true }, kinds := [], alts := [], goes := true, laidByText := true, laidKinds := [.data, .data, .data, .data, .sentinel, .sentinel, .sentinel, .pinned, .pinned, .pinned, .pinned, .pinned, .pinned], laidTests := true, laidLooks := .later }
def DevicesCardSaid : Prop := Claim7.holds Tryz.pinned (.plain (OpenSpec.ofChange devicesSpec)) devicesCard

/-- THE TIED CARD OF 'berthlaw.Admits'. -/
def admitsCard : Claim7 := { stood := { row := admitsRow, standIns := [], harness := (true, "3296c1bbb9b14d9ec6d934d6ea9299828f6bc34580785d2ff3aa88dc29df5c4f"), looks := true }, kinds := [], alts := [], goes := true, laidByText := true, laidKinds := [.data, .data, .data, .data, .sentinel, .sentinel, .sentinel, .pinned, .pinned, .pinned, .pinned, .pinned, .pinned], laidTests := true, laidLooks := .later }
def AdmitsCardSaid : Prop := Claim7.holds Tryz.pinned (.plain (OpenSpec.ofChange admitsSpec)) admitsCard

/-- THE TIED CARD OF 'berthlaw.Fails'. -/
def failsCard : Claim7 := { stood := { row := failsRow, standIns := [], harness := (true, "3296c1bbb9b14d9ec6d934d6ea9299828f6bc34580785d2ff3aa88dc29df5c4f"), looks := true }, kinds := [], alts := [], goes := true, laidByText := true, laidKinds := [.data, .data, .data, .data, .sentinel, .sentinel, .sentinel, .pinned, .pinned, .pinned, .pinned, .pinned, .pinned], laidTests := true, laidLooks := .later }
def FailsCardSaid : Prop := Claim7.holds Tryz.pinned (.plain (OpenSpec.ofChange failsSpec)) failsCard

/-- THE TIED CARD OF 'berthlaw.Starts'. -/
def startsCard : Claim7 := { stood := { row := startsRow, standIns := [], harness := (true, "3296c1bbb9b14d9ec6d934d6ea9299828f6bc34580785d2ff3aa88dc29df5c4f"), looks := true }, kinds := [], alts := [], goes := true, laidByText := true, laidKinds := [.data, .data, .data, .data, .sentinel, .sentinel, .sentinel, .pinned, .pinned, .pinned, .pinned, .pinned, .pinned], laidTests := true, laidLooks := .later }
def StartsCardSaid : Prop := Claim7.holds Tryz.pinned (.plain (OpenSpec.ofChange startsSpec)) startsCard

/-- THE TIED CARD OF 'berthlaw.Crashes'. -/
def crashesCard : Claim7 := { stood := { row := crashesRow, standIns := [], harness := (true, "3296c1bbb9b14d9ec6d934d6ea9299828f6bc34580785d2ff3aa88dc29df5c4f"), looks := true }, kinds := [], alts := [], goes := true, laidByText := true, laidKinds := [.data, .data, .data, .data, .sentinel, .sentinel, .sentinel, .pinned, .pinned, .pinned, .pinned, .pinned, .pinned], laidTests := true, laidLooks := .later }
def CrashesCardSaid : Prop := Claim7.holds Tryz.pinned (.plain (OpenSpec.ofChange crashesSpec)) crashesCard

/-- THE TIED CARD OF 'berthlaw.All'. -/
def allCard : Claim7 := { stood := { row := allRow, standIns := [], harness := (true, "3296c1bbb9b14d9ec6d934d6ea9299828f6bc34580785d2ff3aa88dc29df5c4f"), looks := true }, kinds := [], alts := [], goes := true, laidByText := true, laidKinds := [.data, .data, .data, .data, .sentinel, .sentinel, .sentinel, .pinned, .pinned, .pinned, .pinned, .pinned, .pinned], laidTests := true, laidLooks := .later }
def AllCardSaid : Prop := Claim7.holds Tryz.pinned (.plain (OpenSpec.ofChange allSpec)) allCard

/-- THE TIED CARD OF 'berthkeep.Whole'. -/
def wholeCard : Claim7 := { stood := { row := wholeRow, standIns := [], harness := (true, "3296c1bbb9b14d9ec6d934d6ea9299828f6bc34580785d2ff3aa88dc29df5c4f"), looks := true }, kinds := [], alts := [], goes := true, laidByText := true, laidKinds := [.data, .data, .data, .data, .sentinel, .pinned, .pinned, .pinned, .pinned, .pinned, .pinned], laidTests := true, laidLooks := .later }
def WholeCardSaid : Prop := Claim7.holds Tryz.pinned (.plain (OpenSpec.ofChange wholeSpec)) wholeCard

/-- THE TIED CARD OF 'berthkeep.Policy'. -/
def policyCard : Claim7 := { stood := { row := policyRow, standIns := [], harness := (true, "3296c1bbb9b14d9ec6d934d6ea9299828f6bc34580785d2ff3aa88dc29df5c4f"), looks := true }, kinds := [], alts := [], goes := true, laidByText := true, laidKinds := [.data, .data, .data, .data, .sentinel, .pinned, .pinned, .pinned, .pinned, .pinned, .pinned], laidTests := true, laidLooks := .later }
def PolicyCardSaid : Prop := Claim7.holds Tryz.pinned (.plain (OpenSpec.ofChange policySpec)) policyCard

/-- THE TIED CARD OF 'berthkeep.Spent'. -/
def spentCard : Claim7 := { stood := { row := spentRow, standIns := [], harness := (true, "3296c1bbb9b14d9ec6d934d6ea9299828f6bc34580785d2ff3aa88dc29df5c4f"), looks := true }, kinds := [], alts := [], goes := true, laidByText := true, laidKinds := [.data, .data, .data, .data, .sentinel, .pinned, .pinned, .pinned, .pinned, .pinned, .pinned], laidTests := true, laidLooks := .later }
def SpentCardSaid : Prop := Claim7.holds Tryz.pinned (.plain (OpenSpec.ofChange spentSpec)) spentCard

/-- THE TIED CARD OF 'berthkeep.Widths'. -/
def widthsCard : Claim7 := { stood := { row := widthsRow, standIns := [], harness := (true, "3296c1bbb9b14d9ec6d934d6ea9299828f6bc34580785d2ff3aa88dc29df5c4f"), looks := true }, kinds := [], alts := [], goes := true, laidByText := true, laidKinds := [.data, .data, .data, .data, .sentinel, .pinned, .pinned, .pinned, .pinned, .pinned, .pinned], laidTests := true, laidLooks := .later }
def WidthsCardSaid : Prop := Claim7.holds Tryz.pinned (.plain (OpenSpec.ofChange widthsSpec)) widthsCard

/-- THE TIED CARD OF 'berthkeep.Again'. -/
def againCard : Claim7 := { stood := { row := againRow, standIns := [], harness := (true, "3296c1bbb9b14d9ec6d934d6ea9299828f6bc34580785d2ff3aa88dc29df5c4f"), looks := true }, kinds := [], alts := [], goes := true, laidByText := true, laidKinds := [.data, .data, .data, .data, .sentinel, .sentinel, .sentinel, .pinned, .pinned, .pinned, .pinned, .pinned, .pinned], laidTests := true, laidLooks := .later }
def AgainCardSaid : Prop := Claim7.holds Tryz.pinned (.plain (OpenSpec.ofChange againSpec)) againCard

/-- THE SECOND FORM's CARD OF 'berthlaw.Machines'. -/
def machinesUptoCard : Claim7 := { stood := { row := machinesUptoRow, standIns := [], harness := (true, "3296c1bbb9b14d9ec6d934d6ea9299828f6bc34580785d2ff3aa88dc29df5c4f"), looks := true }, kinds := [], alts := [], goes := true, laidByText := true, laidKinds := [.data, .data, .data, .data, .sentinel, .sentinel, .sentinel, .pinned, .pinned, .pinned, .pinned, .pinned, .pinned], laidTests := true, laidLooks := .later }
def MachinesUptoCardSaid : Prop := Claim7.holds Tryz.pinned (.plain (OpenSpec.upto machinesSpec)) machinesUptoCard

/-- THE SECOND FORM's CARD OF 'berthlaw.Devices'. -/
def devicesUptoCard : Claim7 := { stood := { row := devicesUptoRow, standIns := [], harness := (true, "3296c1bbb9b14d9ec6d934d6ea9299828f6bc34580785d2ff3aa88dc29df5c4f"), looks := true }, kinds := [], alts := [], goes := true, laidByText := true, laidKinds := [.data, .data, .data, .data, .sentinel, .sentinel, .sentinel, .pinned, .pinned, .pinned, .pinned, .pinned, .pinned], laidTests := true, laidLooks := .later }
def DevicesUptoCardSaid : Prop := Claim7.holds Tryz.pinned (.plain (OpenSpec.upto devicesSpec)) devicesUptoCard

/-- THE SECOND FORM's CARD OF 'berthlaw.Admits'. -/
def admitsUptoCard : Claim7 := { stood := { row := admitsUptoRow, standIns := [], harness := (true, "3296c1bbb9b14d9ec6d934d6ea9299828f6bc34580785d2ff3aa88dc29df5c4f"), looks := true }, kinds := [], alts := [], goes := true, laidByText := true, laidKinds := [.data, .data, .data, .data, .sentinel, .sentinel, .sentinel, .pinned, .pinned, .pinned, .pinned, .pinned, .pinned], laidTests := true, laidLooks := .later }
def AdmitsUptoCardSaid : Prop := Claim7.holds Tryz.pinned (.plain (OpenSpec.upto admitsSpec)) admitsUptoCard

/-- THE SECOND FORM's CARD OF 'berthlaw.Fails'. -/
def failsUptoCard : Claim7 := { stood := { row := failsUptoRow, standIns := [], harness := (true, "3296c1bbb9b14d9ec6d934d6ea9299828f6bc34580785d2ff3aa88dc29df5c4f"), looks := true }, kinds := [], alts := [], goes := true, laidByText := true, laidKinds := [.data, .data, .data, .data, .sentinel, .sentinel, .sentinel, .pinned, .pinned, .pinned, .pinned, .pinned, .pinned], laidTests := true, laidLooks := .later }
def FailsUptoCardSaid : Prop := Claim7.holds Tryz.pinned (.plain (OpenSpec.upto failsSpec)) failsUptoCard

/-- THE SECOND FORM's CARD OF 'berthlaw.Starts'. -/
def startsUptoCard : Claim7 := { stood := { row := startsUptoRow, standIns := [], harness := (true, "3296c1bbb9b14d9ec6d934d6ea9299828f6bc34580785d2ff3aa88dc29df5c4f"), looks := true }, kinds := [], alts := [], goes := true, laidByText := true, laidKinds := [.data, .data, .data, .data, .sentinel, .sentinel, .sentinel, .pinned, .pinned, .pinned, .pinned, .pinned, .pinned], laidTests := true, laidLooks := .later }
def StartsUptoCardSaid : Prop := Claim7.holds Tryz.pinned (.plain (OpenSpec.upto startsSpec)) startsUptoCard

/-- THE SECOND FORM's CARD OF 'berthlaw.Crashes'. -/
def crashesUptoCard : Claim7 := { stood := { row := crashesUptoRow, standIns := [], harness := (true, "3296c1bbb9b14d9ec6d934d6ea9299828f6bc34580785d2ff3aa88dc29df5c4f"), looks := true }, kinds := [], alts := [], goes := true, laidByText := true, laidKinds := [.data, .data, .data, .data, .sentinel, .sentinel, .sentinel, .pinned, .pinned, .pinned, .pinned, .pinned, .pinned], laidTests := true, laidLooks := .later }
def CrashesUptoCardSaid : Prop := Claim7.holds Tryz.pinned (.plain (OpenSpec.upto crashesSpec)) crashesUptoCard

/-- THE SECOND FORM's CARD OF 'berthlaw.All'. -/
def allUptoCard : Claim7 := { stood := { row := allUptoRow, standIns := [], harness := (true, "3296c1bbb9b14d9ec6d934d6ea9299828f6bc34580785d2ff3aa88dc29df5c4f"), looks := true }, kinds := [], alts := [], goes := true, laidByText := true, laidKinds := [.data, .data, .data, .data, .sentinel, .sentinel, .sentinel, .pinned, .pinned, .pinned, .pinned, .pinned, .pinned], laidTests := true, laidLooks := .later }
def AllUptoCardSaid : Prop := Claim7.holds Tryz.pinned (.plain (OpenSpec.upto allSpec)) allUptoCard

/-- THE SECOND FORM's CARD OF 'berthkeep.Whole'. -/
def wholeUptoCard : Claim7 := { stood := { row := wholeUptoRow, standIns := [], harness := (true, "3296c1bbb9b14d9ec6d934d6ea9299828f6bc34580785d2ff3aa88dc29df5c4f"), looks := true }, kinds := [], alts := [], goes := true, laidByText := true, laidKinds := [.data, .data, .data, .data, .sentinel, .pinned, .pinned, .pinned, .pinned, .pinned, .pinned], laidTests := true, laidLooks := .later }
def WholeUptoCardSaid : Prop := Claim7.holds Tryz.pinned (.plain (OpenSpec.upto wholeSpec)) wholeUptoCard

/-- THE SECOND FORM's CARD OF 'berthkeep.Policy'. -/
def policyUptoCard : Claim7 := { stood := { row := policyUptoRow, standIns := [], harness := (true, "3296c1bbb9b14d9ec6d934d6ea9299828f6bc34580785d2ff3aa88dc29df5c4f"), looks := true }, kinds := [], alts := [], goes := true, laidByText := true, laidKinds := [.data, .data, .data, .data, .sentinel, .pinned, .pinned, .pinned, .pinned, .pinned, .pinned], laidTests := true, laidLooks := .later }
def PolicyUptoCardSaid : Prop := Claim7.holds Tryz.pinned (.plain (OpenSpec.upto policySpec)) policyUptoCard

/-- THE SECOND FORM's CARD OF 'berthkeep.Spent'. -/
def spentUptoCard : Claim7 := { stood := { row := spentUptoRow, standIns := [], harness := (true, "3296c1bbb9b14d9ec6d934d6ea9299828f6bc34580785d2ff3aa88dc29df5c4f"), looks := true }, kinds := [], alts := [], goes := true, laidByText := true, laidKinds := [.data, .data, .data, .data, .sentinel, .pinned, .pinned, .pinned, .pinned, .pinned, .pinned], laidTests := true, laidLooks := .later }
def SpentUptoCardSaid : Prop := Claim7.holds Tryz.pinned (.plain (OpenSpec.upto spentSpec)) spentUptoCard

/-- THE SECOND FORM's CARD OF 'berthkeep.Widths'. -/
def widthsUptoCard : Claim7 := { stood := { row := widthsUptoRow, standIns := [], harness := (true, "3296c1bbb9b14d9ec6d934d6ea9299828f6bc34580785d2ff3aa88dc29df5c4f"), looks := true }, kinds := [], alts := [], goes := true, laidByText := true, laidKinds := [.data, .data, .data, .data, .sentinel, .pinned, .pinned, .pinned, .pinned, .pinned, .pinned], laidTests := true, laidLooks := .later }
def WidthsUptoCardSaid : Prop := Claim7.holds Tryz.pinned (.plain (OpenSpec.upto widthsSpec)) widthsUptoCard

/-- THE SECOND FORM's CARD OF 'berthkeep.Again'. -/
def againUptoCard : Claim7 := { stood := { row := againUptoRow, standIns := [], harness := (true, "3296c1bbb9b14d9ec6d934d6ea9299828f6bc34580785d2ff3aa88dc29df5c4f"), looks := true }, kinds := [], alts := [], goes := true, laidByText := true, laidKinds := [.data, .data, .data, .data, .sentinel, .sentinel, .sentinel, .pinned, .pinned, .pinned, .pinned, .pinned, .pinned], laidTests := true, laidLooks := .later }
def AgainUptoCardSaid : Prop := Claim7.holds Tryz.pinned (.plain (OpenSpec.upto againSpec)) againUptoCard
end Rows
end Go.Proofs.YtfkddhndddfbdaaGreatDoor
