/-
  DERIVED. GIVEN WITH THE SEED: THE CARDS: each row of YtpgckggmcehmpaaDoorRows.lean that lists a variable, with what it lists TIED to the program's text (the seventh form; the later family's looks); each row that meets fmt, with fmt's text TOLD by the authors' own Lean function (tested against real Go, not proved from fmt's source: count such statements apart). THE CARD IS WHAT COUNTS. Prove the row's statement (the work); the ties are given (YtpgckggmcehmpaaDoorTie.lean); close each card by the builder's one call (the guide's Derived/Test/ToyasCard.lean, 'card_holds'). Laid BY PROGRAM, IN A SANDBOX (cutbox-door.mjs). By AI agents, Wed Nov 11 2026. No macro, syntax, notation, axiom, sorry.
-/
import Derived.Test.YtpgckggmcehmpaaDoorRows
import GoSem.ClaimSeven
namespace Go.Proofs.YtpgckggmcehmpaaDoor
namespace Rows

/-- THE TIED CARD OF 'laws.FnRowFormat'. -/
def fnRowFormatCard : Claim7 := { stood := { row := fnRowFormatRow, standIns := [], harness := (true, "68ef6991fe5b3c4755b226230a262560b5e1dd382045f4fa33f9c9a96740265f"), looks := true }, kinds := [], alts := [], laidByText := true, laidKinds := [.data, .data, .data, .data, .sentinel, .sentinel, .pinned], laidTests := true, laidLooks := .later }
def FnRowFormatCardSaid : Prop := Claim7.holds Tryd.pinned (.plain (OpenSpec.ofChange fnRowFormatSpec)) fnRowFormatCard

/-- THE TIED CARD OF 'laws.FnExactFormatRow'. -/
def fnExactFormatRowCard : Claim7 := { stood := { row := fnExactFormatRowRow, standIns := [], harness := (true, "68ef6991fe5b3c4755b226230a262560b5e1dd382045f4fa33f9c9a96740265f"), looks := true }, kinds := [], alts := [], laidByText := true, laidKinds := [.data, .data, .data], laidTests := true, laidLooks := .later }
def FnExactFormatRowCardSaid : Prop := Claim7.holds Tryd.pinned (.plain (OpenSpec.ofChange fnExactFormatRowSpec)) fnExactFormatRowCard

/-- THE TIED CARD OF 'laws.FnExactParseRow'. -/
def fnExactParseRowCard : Claim7 := { stood := { row := fnExactParseRowRow, standIns := [], harness := (true, "68ef6991fe5b3c4755b226230a262560b5e1dd382045f4fa33f9c9a96740265f"), looks := true }, kinds := [], alts := [], laidByText := true, laidKinds := [.data, .data, .data, .data, .sentinel, .sentinel, .pinned], laidTests := true, laidLooks := .later }
def FnExactParseRowCardSaid : Prop := Claim7.holds Tryd.pinned (.plain (OpenSpec.ofChange fnExactParseRowSpec)) fnExactParseRowCard

/-- THE TIED CARD OF 'laws.FnExactFormatRows'. -/
def fnExactFormatRowsCard : Claim7 := { stood := { row := fnExactFormatRowsRow, standIns := [], harness := (true, "68ef6991fe5b3c4755b226230a262560b5e1dd382045f4fa33f9c9a96740265f"), looks := true }, kinds := [], alts := [], laidByText := true, laidKinds := [.data, .data, .data], laidTests := true, laidLooks := .later }
def FnExactFormatRowsCardSaid : Prop := Claim7.holds Tryd.pinned (.plain (OpenSpec.ofChange fnExactFormatRowsSpec)) fnExactFormatRowsCard

/-- THE TIED CARD OF 'laws.FnExactParseRows'. -/
def fnExactParseRowsCard : Claim7 := { stood := { row := fnExactParseRowsRow, standIns := [], harness := (true, "68ef6991fe5b3c4755b226230a262560b5e1dd382045f4fa33f9c9a96740265f"), looks := true }, kinds := [], alts := [], laidByText := true, laidKinds := [.data, .data, .data, .data, .sentinel, .sentinel, .pinned], laidTests := true, laidLooks := .later }
def FnExactParseRowsCardSaid : Prop := Claim7.holds Tryd.pinned (.plain (OpenSpec.ofChange fnExactParseRowsSpec)) fnExactParseRowsCard

/-- THE SECOND FORM's CARD OF 'laws.FnRowFormat'. -/
def fnRowFormatUptoCard : Claim7 := { stood := { row := fnRowFormatUptoRow, standIns := [], harness := (true, "68ef6991fe5b3c4755b226230a262560b5e1dd382045f4fa33f9c9a96740265f"), looks := true }, kinds := [], alts := [], laidByText := true, laidKinds := [.data, .data, .data, .data, .sentinel, .sentinel, .pinned], laidTests := true, laidLooks := .later }
def FnRowFormatUptoCardSaid : Prop := Claim7.holds Tryd.pinned (.plain (OpenSpec.upto fnRowFormatSpec)) fnRowFormatUptoCard

/-- THE SECOND FORM's CARD OF 'laws.FnExactFormatRow'. -/
def fnExactFormatRowUptoCard : Claim7 := { stood := { row := fnExactFormatRowUptoRow, standIns := [], harness := (true, "68ef6991fe5b3c4755b226230a262560b5e1dd382045f4fa33f9c9a96740265f"), looks := true }, kinds := [], alts := [], laidByText := true, laidKinds := [.data, .data, .data], laidTests := true, laidLooks := .later }
def FnExactFormatRowUptoCardSaid : Prop := Claim7.holds Tryd.pinned (.plain (OpenSpec.upto fnExactFormatRowSpec)) fnExactFormatRowUptoCard

/-- THE SECOND FORM's CARD OF 'laws.FnExactParseRow'. -/
def fnExactParseRowUptoCard : Claim7 := { stood := { row := fnExactParseRowUptoRow, standIns := [], harness := (true, "68ef6991fe5b3c4755b226230a262560b5e1dd382045f4fa33f9c9a96740265f"), looks := true }, kinds := [], alts := [], laidByText := true, laidKinds := [.data, .data, .data, .data, .sentinel, .sentinel, .pinned], laidTests := true, laidLooks := .later }
def FnExactParseRowUptoCardSaid : Prop := Claim7.holds Tryd.pinned (.plain (OpenSpec.upto fnExactParseRowSpec)) fnExactParseRowUptoCard

/-- THE SECOND FORM's CARD OF 'laws.FnExactFormatRows'. -/
def fnExactFormatRowsUptoCard : Claim7 := { stood := { row := fnExactFormatRowsUptoRow, standIns := [], harness := (true, "68ef6991fe5b3c4755b226230a262560b5e1dd382045f4fa33f9c9a96740265f"), looks := true }, kinds := [], alts := [], laidByText := true, laidKinds := [.data, .data, .data], laidTests := true, laidLooks := .later }
def FnExactFormatRowsUptoCardSaid : Prop := Claim7.holds Tryd.pinned (.plain (OpenSpec.upto fnExactFormatRowsSpec)) fnExactFormatRowsUptoCard

/-- THE SECOND FORM's CARD OF 'laws.FnExactParseRows'. -/
def fnExactParseRowsUptoCard : Claim7 := { stood := { row := fnExactParseRowsUptoRow, standIns := [], harness := (true, "68ef6991fe5b3c4755b226230a262560b5e1dd382045f4fa33f9c9a96740265f"), looks := true }, kinds := [], alts := [], laidByText := true, laidKinds := [.data, .data, .data, .data, .sentinel, .sentinel, .pinned], laidTests := true, laidLooks := .later }
def FnExactParseRowsUptoCardSaid : Prop := Claim7.holds Tryd.pinned (.plain (OpenSpec.upto fnExactParseRowsSpec)) fnExactParseRowsUptoCard
end Rows
end Go.Proofs.YtpgckggmcehmpaaDoor
