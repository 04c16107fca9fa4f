/-
  DERIVED. GIVEN WITH THE SEED: THE CARDS: each row of YtlnjgoommpeioaaDoorRows.lean that lists a variable, with what it lists TIED to the program's text (the seventh form; the later family's looks); each row that meets fmt, with fmt's text TOLD by the authors' own Lean function (tested against real Go, not proved from fmt's source: count such statements apart). THE CARD IS WHAT COUNTS. Prove the row's statement (the work); the ties are given (YtlnjgoommpeioaaDoorTie.lean); close each card by the builder's one call (the guide's Derived/Test/ToyasCard.lean, 'card_holds'). Laid BY PROGRAM, IN A SANDBOX (cutbox-door.mjs). By AI agents, Wed Nov 11 2026. No macro, syntax, notation, axiom, sorry.
-/
import Derived.Test.YtlnjgoommpeioaaDoorRows
import GoSem.ClaimSeven
namespace Go.Proofs.YtlnjgoommpeioaaDoor
namespace Rows

/-- THE TIED CARD OF 'laws.FnSealedFiles'. -/
def fnSealedFilesCard : Claim7 := { stood := { row := fnSealedFilesRow, standIns := [], harness := (true, "345cd951347f02c690bd2310a57ae177443933ce970d54850d3aae2712deac94"), looks := false }, kinds := [], alts := [], laidByText := true, laidKinds := [.data, .data, .data], laidTests := true, laidLooks := .later }
def FnSealedFilesCardSaid : Prop := Claim7.holds Tryd.pinned (.plain (OpenSpec.ofChange fnSealedFilesSpec)) fnSealedFilesCard

/-- THE TIED CARD OF 'laws.FnReferenceJoins'. -/
def fnReferenceJoinsCard : Claim7 := { stood := { row := fnReferenceJoinsRow, standIns := [], harness := (true, "345cd951347f02c690bd2310a57ae177443933ce970d54850d3aae2712deac94"), looks := false }, kinds := [], alts := [], laidByText := true, laidKinds := [.data, .data, .data], laidTests := true, laidLooks := .later }
def FnReferenceJoinsCardSaid : Prop := Claim7.holds Tryd.pinned (.plain (OpenSpec.ofChange fnReferenceJoinsSpec)) fnReferenceJoinsCard

/-- THE TIED CARD OF 'laws.FnExactSealFile'. -/
def fnExactSealFileCard : Claim7 := { stood := { row := fnExactSealFileRow, standIns := [], harness := (true, "345cd951347f02c690bd2310a57ae177443933ce970d54850d3aae2712deac94"), looks := false }, kinds := [], alts := [], laidByText := true, laidKinds := [.data, .data, .data], laidTests := true, laidLooks := .later }
def FnExactSealFileCardSaid : Prop := Claim7.holds Tryd.pinned (.plain (OpenSpec.ofChange fnExactSealFileSpec)) fnExactSealFileCard

/-- THE TIED CARD OF 'laws.FnExactReadFile'. -/
def fnExactReadFileCard : Claim7 := { stood := { row := fnExactReadFileRow, standIns := [], harness := (true, "345cd951347f02c690bd2310a57ae177443933ce970d54850d3aae2712deac94"), looks := false }, kinds := [], alts := [], laidByText := true, laidKinds := [.data, .data, .data], laidTests := true, laidLooks := .later }
def FnExactReadFileCardSaid : Prop := Claim7.holds Tryd.pinned (.plain (OpenSpec.ofChange fnExactReadFileSpec)) fnExactReadFileCard

/-- THE TIED CARD OF 'laws.FnExactDeleteUnreadableFiles'. -/
def fnExactDeleteUnreadableFilesCard : Claim7 := { stood := { row := fnExactDeleteUnreadableFilesRow, standIns := [], harness := (true, "345cd951347f02c690bd2310a57ae177443933ce970d54850d3aae2712deac94"), looks := false }, kinds := [], alts := [], laidByText := true, laidKinds := [.data, .data, .data], laidTests := true, laidLooks := .later }
def FnExactDeleteUnreadableFilesCardSaid : Prop := Claim7.holds Tryd.pinned (.plain (OpenSpec.ofChange fnExactDeleteUnreadableFilesSpec)) fnExactDeleteUnreadableFilesCard

/-- THE TIED CARD OF 'laws.FnExactFormatPairs'. -/
def fnExactFormatPairsCard : Claim7 := { stood := { row := fnExactFormatPairsRow, standIns := [], harness := (true, "345cd951347f02c690bd2310a57ae177443933ce970d54850d3aae2712deac94"), looks := false }, kinds := [], alts := [], laidByText := true, laidKinds := [.data, .data, .data], laidTests := true, laidLooks := .later }
def FnExactFormatPairsCardSaid : Prop := Claim7.holds Tryd.pinned (.plain (OpenSpec.ofChange fnExactFormatPairsSpec)) fnExactFormatPairsCard

/-- THE SECOND FORM's CARD OF 'laws.FnSealedFiles'. -/
def fnSealedFilesUptoCard : Claim7 := { stood := { row := fnSealedFilesUptoRow, standIns := [], harness := (true, "345cd951347f02c690bd2310a57ae177443933ce970d54850d3aae2712deac94"), looks := false }, kinds := [], alts := [], laidByText := true, laidKinds := [.data, .data, .data], laidTests := true, laidLooks := .later }
def FnSealedFilesUptoCardSaid : Prop := Claim7.holds Tryd.pinned (.plain (OpenSpec.upto fnSealedFilesSpec)) fnSealedFilesUptoCard

/-- THE SECOND FORM's CARD OF 'laws.FnReferenceJoins'. -/
def fnReferenceJoinsUptoCard : Claim7 := { stood := { row := fnReferenceJoinsUptoRow, standIns := [], harness := (true, "345cd951347f02c690bd2310a57ae177443933ce970d54850d3aae2712deac94"), looks := false }, kinds := [], alts := [], laidByText := true, laidKinds := [.data, .data, .data], laidTests := true, laidLooks := .later }
def FnReferenceJoinsUptoCardSaid : Prop := Claim7.holds Tryd.pinned (.plain (OpenSpec.upto fnReferenceJoinsSpec)) fnReferenceJoinsUptoCard

/-- THE SECOND FORM's CARD OF 'laws.FnExactSealFile'. -/
def fnExactSealFileUptoCard : Claim7 := { stood := { row := fnExactSealFileUptoRow, standIns := [], harness := (true, "345cd951347f02c690bd2310a57ae177443933ce970d54850d3aae2712deac94"), looks := false }, kinds := [], alts := [], laidByText := true, laidKinds := [.data, .data, .data], laidTests := true, laidLooks := .later }
def FnExactSealFileUptoCardSaid : Prop := Claim7.holds Tryd.pinned (.plain (OpenSpec.upto fnExactSealFileSpec)) fnExactSealFileUptoCard

/-- THE SECOND FORM's CARD OF 'laws.FnExactReadFile'. -/
def fnExactReadFileUptoCard : Claim7 := { stood := { row := fnExactReadFileUptoRow, standIns := [], harness := (true, "345cd951347f02c690bd2310a57ae177443933ce970d54850d3aae2712deac94"), looks := false }, kinds := [], alts := [], laidByText := true, laidKinds := [.data, .data, .data], laidTests := true, laidLooks := .later }
def FnExactReadFileUptoCardSaid : Prop := Claim7.holds Tryd.pinned (.plain (OpenSpec.upto fnExactReadFileSpec)) fnExactReadFileUptoCard

/-- THE SECOND FORM's CARD OF 'laws.FnExactDeleteUnreadableFiles'. -/
def fnExactDeleteUnreadableFilesUptoCard : Claim7 := { stood := { row := fnExactDeleteUnreadableFilesUptoRow, standIns := [], harness := (true, "345cd951347f02c690bd2310a57ae177443933ce970d54850d3aae2712deac94"), looks := false }, kinds := [], alts := [], laidByText := true, laidKinds := [.data, .data, .data], laidTests := true, laidLooks := .later }
def FnExactDeleteUnreadableFilesUptoCardSaid : Prop := Claim7.holds Tryd.pinned (.plain (OpenSpec.upto fnExactDeleteUnreadableFilesSpec)) fnExactDeleteUnreadableFilesUptoCard

/-- THE SECOND FORM's CARD OF 'laws.FnExactFormatPairs'. -/
def fnExactFormatPairsUptoCard : Claim7 := { stood := { row := fnExactFormatPairsUptoRow, standIns := [], harness := (true, "345cd951347f02c690bd2310a57ae177443933ce970d54850d3aae2712deac94"), looks := false }, kinds := [], alts := [], laidByText := true, laidKinds := [.data, .data, .data], laidTests := true, laidLooks := .later }
def FnExactFormatPairsUptoCardSaid : Prop := Claim7.holds Tryd.pinned (.plain (OpenSpec.upto fnExactFormatPairsSpec)) fnExactFormatPairsUptoCard
end Rows
end Go.Proofs.YtlnjgoommpeioaaDoor
