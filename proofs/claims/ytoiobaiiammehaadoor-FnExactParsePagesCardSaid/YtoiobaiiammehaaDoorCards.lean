/-
  DERIVED. GIVEN WITH THE SEED: THE CARDS: each row of YtoiobaiiammehaaDoorRows.lean that lists a variable, with what it lists TIED to the program's text (the seventh form; the later family's looks); each row that meets fmt, with fmt's text TOLD by the authors' own Lean function (tested against real Go, not proved from fmt's source: count such statements apart). THE CARD IS WHAT COUNTS. Prove the row's statement (the work); the ties are given (YtoiobaiiammehaaDoorTie.lean); close each card by the builder's one call (the guide's Derived/Test/ToyasCard.lean, 'card_holds'). Laid BY PROGRAM, IN A SANDBOX (cutbox-door.mjs). By AI agents, Wed Nov 11 2026. No macro, syntax, notation, axiom, sorry.
-/
import Derived.Test.YtoiobaiiammehaaDoorRows
import GoSem.ClaimSeven
namespace Go.Proofs.YtoiobaiiammehaaDoor
namespace Rows

/-- THE TIED CARD OF 'laws.FnExactFormatPages'. -/
def fnExactFormatPagesCard : Claim7 := { stood := { row := fnExactFormatPagesRow, standIns := [], harness := (true, "728fc279c27251d4abf0e08147a901e5c13f943060034e2abe1bdc62eeee235a"), looks := true }, kinds := [], alts := [], laidByText := true, laidKinds := [.data, .data, .data], laidTests := true, laidLooks := .later }
def FnExactFormatPagesCardSaid : Prop := Claim7.holds Tryd.pinned (.plain (OpenSpec.ofChange fnExactFormatPagesSpec)) fnExactFormatPagesCard

/-- THE TIED CARD OF 'laws.FnExactParsePages'. -/
def fnExactParsePagesCard : Claim7 := { stood := { row := fnExactParsePagesRow, standIns := [], harness := (true, "728fc279c27251d4abf0e08147a901e5c13f943060034e2abe1bdc62eeee235a"), looks := true }, kinds := [], alts := [], laidByText := true, laidKinds := [.data, .data, .data, .data, .sentinel, .sentinel, .pinned], laidTests := true, laidLooks := .later }
def FnExactParsePagesCardSaid : Prop := Claim7.holds Tryd.pinned (.plain (OpenSpec.ofChange fnExactParsePagesSpec)) fnExactParsePagesCard

/-- THE SECOND FORM's CARD OF 'laws.FnExactFormatPages'. -/
def fnExactFormatPagesUptoCard : Claim7 := { stood := { row := fnExactFormatPagesUptoRow, standIns := [], harness := (true, "728fc279c27251d4abf0e08147a901e5c13f943060034e2abe1bdc62eeee235a"), looks := true }, kinds := [], alts := [], laidByText := true, laidKinds := [.data, .data, .data], laidTests := true, laidLooks := .later }
def FnExactFormatPagesUptoCardSaid : Prop := Claim7.holds Tryd.pinned (.plain (OpenSpec.upto fnExactFormatPagesSpec)) fnExactFormatPagesUptoCard

/-- THE SECOND FORM's CARD OF 'laws.FnExactParsePages'. -/
def fnExactParsePagesUptoCard : Claim7 := { stood := { row := fnExactParsePagesUptoRow, standIns := [], harness := (true, "728fc279c27251d4abf0e08147a901e5c13f943060034e2abe1bdc62eeee235a"), looks := true }, kinds := [], alts := [], laidByText := true, laidKinds := [.data, .data, .data, .data, .sentinel, .sentinel, .pinned], laidTests := true, laidLooks := .later }
def FnExactParsePagesUptoCardSaid : Prop := Claim7.holds Tryd.pinned (.plain (OpenSpec.upto fnExactParsePagesSpec)) fnExactParsePagesUptoCard
end Rows
end Go.Proofs.YtoiobaiiammehaaDoor
