/-
  DERIVED. GIVEN WITH THE SEED: THE CARDS: each row of YtjdjceohlcimaaaDoorRows.lean that lists a variable, with what it lists TIED to the program's text (the seventh form; the later family's looks); each row that meets fmt, with fmt's text TOLD by the authors' own Lean function (tested against real Go, not proved from fmt's source: count such statements apart). THE CARD IS WHAT COUNTS. Prove the row's statement (the work); the ties are given (YtjdjceohlcimaaaDoorTie.lean); close each card by the builder's one call (the guide's Derived/Test/ToyasCard.lean, 'card_holds'). Laid BY PROGRAM, IN A SANDBOX (cutbox-door.mjs). By AI agents, Wed Nov 11 2026. No macro, syntax, notation, axiom, sorry.
-/
import Derived.Test.YtjdjceohlcimaaaDoorRows
import GoSem.ClaimSeven
namespace Go.Proofs.YtjdjceohlcimaaaDoor
namespace Rows

/-- THE TIED CARD OF 'laws.FnSealedFiles'. -/
def fnSealedFilesCard : Claim7 := { stood := { row := fnSealedFilesRow, standIns := [], harness := (true, "2514d555db4fd88a3b0edbb5f7e3343f603d93dca8748b869ca711135cf5965d"), looks := false }, kinds := [], alts := [], laidByText := true, laidKinds := [.data, .data, .data], laidTests := true, laidLooks := .later }
def FnSealedFilesCardSaid : Prop := Claim7.holds Tryd.pinned (.plain (OpenSpec.ofChange fnSealedFilesSpec)) fnSealedFilesCard

/-- THE SECOND FORM's CARD OF 'laws.FnSealedFiles'. -/
def fnSealedFilesUptoCard : Claim7 := { stood := { row := fnSealedFilesUptoRow, standIns := [], harness := (true, "2514d555db4fd88a3b0edbb5f7e3343f603d93dca8748b869ca711135cf5965d"), looks := false }, kinds := [], alts := [], laidByText := true, laidKinds := [.data, .data, .data], laidTests := true, laidLooks := .later }
def FnSealedFilesUptoCardSaid : Prop := Claim7.holds Tryd.pinned (.plain (OpenSpec.upto fnSealedFilesSpec)) fnSealedFilesUptoCard
end Rows
end Go.Proofs.YtjdjceohlcimaaaDoor
