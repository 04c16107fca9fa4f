/-
  DERIVED. GIVEN WITH THE SEED: THE CARDS: each row of YtjdjceohlcimaaaGreatDoorRows.lean that lists a variable, with what it lists TIED to the program's text (the seventh form; the later family's looks); each row that meets fmt, with fmt's text TOLD by the authors' own Lean function (tested against real Go, not proved from fmt's source: count such statements apart). THE CARD IS WHAT COUNTS. Prove the row's statement (the work); the ties are given (YtjdjceohlcimaaaGreatDoorTie.lean); close each card by the builder's one call (the guide's Derived/Test/ToyasCard.lean, 'card_holds'). Laid BY PROGRAM, IN A SANDBOX (cutbox-door.mjs). By AI agents, Wed Nov 11 2026. No macro, syntax, notation, axiom, sorry.
-/
import Derived.Test.YtjdjceohlcimaaaGreatDoorRows
import GoSem.ClaimSeven
namespace Go.Proofs.YtjdjceohlcimaaaGreatDoor
namespace Rows

/-- THE TIED CARD OF 'laws.FnDiskOperations'. -/
def fnDiskOperationsCard : Claim7 := { stood := { row := fnDiskOperationsRow, standIns := [], harness := (true, "ecedf8fc77d790e933afb3b8fae67f93d2dd8b1548b5e7095d365e1b2d8f22b9"), looks := false }, kinds := [], alts := [], laidByText := true, laidKinds := [.data, .data, .data], laidTests := true, laidLooks := .later }
def FnDiskOperationsCardSaid : Prop := Claim7.holds Tryz.pinned (.plain (OpenSpec.ofChange fnDiskOperationsSpec)) fnDiskOperationsCard

/-- THE SECOND FORM's CARD OF 'laws.FnDiskOperations'. -/
def fnDiskOperationsUptoCard : Claim7 := { stood := { row := fnDiskOperationsUptoRow, standIns := [], harness := (true, "ecedf8fc77d790e933afb3b8fae67f93d2dd8b1548b5e7095d365e1b2d8f22b9"), looks := false }, kinds := [], alts := [], laidByText := true, laidKinds := [.data, .data, .data], laidTests := true, laidLooks := .later }
def FnDiskOperationsUptoCardSaid : Prop := Claim7.holds Tryz.pinned (.plain (OpenSpec.upto fnDiskOperationsSpec)) fnDiskOperationsUptoCard
end Rows
end Go.Proofs.YtjdjceohlcimaaaGreatDoor
