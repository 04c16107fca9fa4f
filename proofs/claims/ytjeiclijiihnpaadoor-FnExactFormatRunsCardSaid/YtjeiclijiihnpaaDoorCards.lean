/-
  DERIVED. GIVEN WITH THE SEED: THE CARDS: each row of YtjeiclijiihnpaaDoorRows.lean that lists a variable, with what it lists TIED to the program's text (the seventh form; the later family's looks); each row that meets fmt, with fmt's text TOLD by the authors' own Lean function (tested against real Go, not proved from fmt's source: count such statements apart). THE CARD IS WHAT COUNTS. Prove the row's statement (the work); the ties are given (YtjeiclijiihnpaaDoorTie.lean); close each card by the builder's one call (the guide's Derived/Test/ToyasCard.lean, 'card_holds'). Laid BY PROGRAM, IN A SANDBOX (cutbox-door.mjs). By AI agents, Wed Nov 11 2026. No macro, syntax, notation, axiom, sorry.
-/
import Derived.Test.YtjeiclijiihnpaaDoorRows
import GoSem.ClaimSeven
namespace Go.Proofs.YtjeiclijiihnpaaDoor
namespace Rows

/-- THE TIED CARD OF 'laws.FnReplacementSelection'. -/
def fnReplacementSelectionCard : Claim7 := { stood := { row := fnReplacementSelectionRow, standIns := [], harness := (true, "30dddb7f82d0a24aa99789f87cffd3af50877831c65c0ae84612e1a8597f8012"), looks := false }, kinds := [], alts := [], laidByText := true, laidKinds := [.data, .data, .data], laidTests := true, laidLooks := .later }
def FnReplacementSelectionCardSaid : Prop := Claim7.holds Tryd.pinned (.plain (OpenSpec.ofChange fnReplacementSelectionSpec)) fnReplacementSelectionCard

/-- THE TIED CARD OF 'laws.FnExactFormatRuns'. -/
def fnExactFormatRunsCard : Claim7 := { stood := { row := fnExactFormatRunsRow, standIns := [], harness := (true, "30dddb7f82d0a24aa99789f87cffd3af50877831c65c0ae84612e1a8597f8012"), looks := false }, kinds := [], alts := [], laidByText := true, laidKinds := [.data, .data, .data], laidTests := true, laidLooks := .later }
def FnExactFormatRunsCardSaid : Prop := Claim7.holds Tryd.pinned (.plain (OpenSpec.ofChange fnExactFormatRunsSpec)) fnExactFormatRunsCard

/-- THE SECOND FORM's CARD OF 'laws.FnReplacementSelection'. -/
def fnReplacementSelectionUptoCard : Claim7 := { stood := { row := fnReplacementSelectionUptoRow, standIns := [], harness := (true, "30dddb7f82d0a24aa99789f87cffd3af50877831c65c0ae84612e1a8597f8012"), looks := false }, kinds := [], alts := [], laidByText := true, laidKinds := [.data, .data, .data], laidTests := true, laidLooks := .later }
def FnReplacementSelectionUptoCardSaid : Prop := Claim7.holds Tryd.pinned (.plain (OpenSpec.upto fnReplacementSelectionSpec)) fnReplacementSelectionUptoCard

/-- THE SECOND FORM's CARD OF 'laws.FnExactFormatRuns'. -/
def fnExactFormatRunsUptoCard : Claim7 := { stood := { row := fnExactFormatRunsUptoRow, standIns := [], harness := (true, "30dddb7f82d0a24aa99789f87cffd3af50877831c65c0ae84612e1a8597f8012"), looks := false }, kinds := [], alts := [], laidByText := true, laidKinds := [.data, .data, .data], laidTests := true, laidLooks := .later }
def FnExactFormatRunsUptoCardSaid : Prop := Claim7.holds Tryd.pinned (.plain (OpenSpec.upto fnExactFormatRunsSpec)) fnExactFormatRunsUptoCard
end Rows
end Go.Proofs.YtjeiclijiihnpaaDoor
