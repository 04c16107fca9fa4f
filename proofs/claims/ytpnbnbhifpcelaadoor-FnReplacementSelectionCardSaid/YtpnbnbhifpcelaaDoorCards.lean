/-
  DERIVED. GIVEN WITH THE SEED: THE CARDS: each row of YtpnbnbhifpcelaaDoorRows.lean that lists a variable, with what it lists TIED to the program's text (the seventh form; the later family's looks); each row that meets fmt, with fmt's text TOLD by the authors' own Lean function (tested against real Go, not proved from fmt's source: count such statements apart). THE CARD IS WHAT COUNTS. Prove the row's statement (the work); the ties are given (YtpnbnbhifpcelaaDoorTie.lean); close each card by the builder's one call (the guide's Derived/Test/ToyasCard.lean, 'card_holds'). Laid BY PROGRAM, IN A SANDBOX (cutbox-door.mjs). By AI agents, Wed Nov 11 2026. No macro, syntax, notation, axiom, sorry.
-/
import Derived.Test.YtpnbnbhifpcelaaDoorRows
import GoSem.ClaimSeven
namespace Go.Proofs.YtpnbnbhifpcelaaDoor
namespace Rows

/-- THE TIED CARD OF 'laws.FnReplacementSelection'. -/
def fnReplacementSelectionCard : Claim7 := { stood := { row := fnReplacementSelectionRow, standIns := [], harness := (true, "0a40c8081e1319e1aafcd3062ae38a5b4df864ce8caab316b51d1723c21a0ade"), looks := false }, kinds := [], alts := [], laidByText := true, laidKinds := [.data, .data, .data], laidTests := true, laidLooks := .later }
def FnReplacementSelectionCardSaid : Prop := Claim7.holds Tryd.pinned (.plain (OpenSpec.ofChange fnReplacementSelectionSpec)) fnReplacementSelectionCard

/-- THE SECOND FORM's CARD OF 'laws.FnReplacementSelection'. -/
def fnReplacementSelectionUptoCard : Claim7 := { stood := { row := fnReplacementSelectionUptoRow, standIns := [], harness := (true, "0a40c8081e1319e1aafcd3062ae38a5b4df864ce8caab316b51d1723c21a0ade"), looks := false }, kinds := [], alts := [], laidByText := true, laidKinds := [.data, .data, .data], laidTests := true, laidLooks := .later }
def FnReplacementSelectionUptoCardSaid : Prop := Claim7.holds Tryd.pinned (.plain (OpenSpec.upto fnReplacementSelectionSpec)) fnReplacementSelectionUptoCard
end Rows
end Go.Proofs.YtpnbnbhifpcelaaDoor
