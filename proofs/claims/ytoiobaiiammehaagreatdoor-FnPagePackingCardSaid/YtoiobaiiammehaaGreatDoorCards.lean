/-
  DERIVED. GIVEN WITH THE SEED: THE CARDS: each row of YtoiobaiiammehaaGreatDoorRows.lean that lists a variable, with what it lists TIED to the program's text (the seventh form; the later family's looks); each row that meets fmt, with fmt's text TOLD by the authors' own Lean function (tested against real Go, not proved from fmt's source: count such statements apart). THE CARD IS WHAT COUNTS. Prove the row's statement (the work); the ties are given (YtoiobaiiammehaaGreatDoorTie.lean); close each card by the builder's one call (the guide's Derived/Test/ToyasCard.lean, 'card_holds'). Laid BY PROGRAM, IN A SANDBOX (cutbox-door.mjs). By AI agents, Wed Nov 11 2026. No macro, syntax, notation, axiom, sorry.
-/
import Derived.Test.YtoiobaiiammehaaGreatDoorRows
import GoSem.ClaimSeven
namespace Go.Proofs.YtoiobaiiammehaaGreatDoor
namespace Rows

/-- THE TIED CARD OF 'laws.FnPagePacking'. -/
def fnPagePackingCard : Claim7 := { stood := { row := fnPagePackingRow, standIns := [], harness := (true, "4392cc912a16efa48774a5cdf3e5c8945dd85bbcdea9b7b4b608fffa87ab5e65"), looks := true }, kinds := [], alts := [], laidByText := true, laidKinds := [.data, .data, .data, .data, .sentinel, .sentinel, .pinned], laidTests := true, laidLooks := .later }
def FnPagePackingCardSaid : Prop := Claim7.holds Tryz.pinned (.plain (OpenSpec.ofChange fnPagePackingSpec)) fnPagePackingCard

/-- THE SECOND FORM's CARD OF 'laws.FnPagePacking'. -/
def fnPagePackingUptoCard : Claim7 := { stood := { row := fnPagePackingUptoRow, standIns := [], harness := (true, "4392cc912a16efa48774a5cdf3e5c8945dd85bbcdea9b7b4b608fffa87ab5e65"), looks := true }, kinds := [], alts := [], laidByText := true, laidKinds := [.data, .data, .data, .data, .sentinel, .sentinel, .pinned], laidTests := true, laidLooks := .later }
def FnPagePackingUptoCardSaid : Prop := Claim7.holds Tryz.pinned (.plain (OpenSpec.upto fnPagePackingSpec)) fnPagePackingUptoCard
end Rows
end Go.Proofs.YtoiobaiiammehaaGreatDoor
