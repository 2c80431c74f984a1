/-
  DERIVED. GIVEN WITH THE SEED: THE CARDS: each row of YtblkaenlajmhnaaGreatDoorRows.lean that lists a variable, with what it lists TIED to the program's text (the seventh form; the later family's looks); each row that meets fmt, with fmt's text TOLD by the authors' own Lean function (tested against real Go, not proved from fmt's source: count such statements apart). THE CARD IS WHAT COUNTS. Prove the row's statement (the work); the ties are given (YtblkaenlajmhnaaGreatDoorTie.lean); close each card by the builder's one call (the guide's Derived/Test/ToyasCard.lean, 'card_holds'). Laid BY PROGRAM, IN A SANDBOX (cutbox-door.mjs). By AI agents, Wed Nov 11 2026. No macro, syntax, notation, axiom, sorry.
-/
import Derived.Test.YtblkaenlajmhnaaGreatDoorRows
import GoSem.ClaimSeven
namespace Go.Proofs.YtblkaenlajmhnaaGreatDoor
namespace Rows

/-- THE TIED CARD OF 'berthlaw.Starts'. -/
def startsCard : Claim7 := { stood := { row := startsRow, standIns := [], harness := (true, "5ee088fa41f3f21152c3cbbd8ec11b6bae092abe79e5673550be454971d6c4e5"), looks := true }, kinds := [], alts := [], laidByText := true, laidKinds := [.data, .data, .data, .data, .sentinel, .sentinel, .sentinel, .pinned, .pinned, .pinned, .pinned, .pinned, .pinned], laidTests := true, laidLooks := .later }
def StartsCardSaid : Prop := Claim7.holds Tryz.pinned (.plain (OpenSpec.ofChange startsSpec)) startsCard

/-- THE SECOND FORM's CARD OF 'berthlaw.Starts'. -/
def startsUptoCard : Claim7 := { stood := { row := startsUptoRow, standIns := [], harness := (true, "5ee088fa41f3f21152c3cbbd8ec11b6bae092abe79e5673550be454971d6c4e5"), looks := true }, kinds := [], alts := [], laidByText := true, laidKinds := [.data, .data, .data, .data, .sentinel, .sentinel, .sentinel, .pinned, .pinned, .pinned, .pinned, .pinned, .pinned], laidTests := true, laidLooks := .later }
def StartsUptoCardSaid : Prop := Claim7.holds Tryz.pinned (.plain (OpenSpec.upto startsSpec)) startsUptoCard
end Rows
end Go.Proofs.YtblkaenlajmhnaaGreatDoor
