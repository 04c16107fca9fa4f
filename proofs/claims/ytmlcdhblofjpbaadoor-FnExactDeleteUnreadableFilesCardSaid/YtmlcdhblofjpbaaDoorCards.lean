/-
  DERIVED. GIVEN WITH THE SEED: THE CARDS: each row of YtmlcdhblofjpbaaDoorRows.lean that lists a variable, with what it lists TIED to the program's text (the seventh form; the later family's looks); each row that meets fmt, with fmt's text TOLD by the authors' own Lean function (tested against real Go, not proved from fmt's source: count such statements apart). THE CARD IS WHAT COUNTS. Prove the row's statement (the work); the ties are given (YtmlcdhblofjpbaaDoorTie.lean); close each card by the builder's one call (the guide's Derived/Test/ToyasCard.lean, 'card_holds'). Laid BY PROGRAM, IN A SANDBOX (cutbox-door.mjs). By AI agents, Wed Nov 11 2026. No macro, syntax, notation, axiom, sorry.
-/
import Derived.Test.YtmlcdhblofjpbaaDoorRows
import GoSem.ClaimSeven
namespace Go.Proofs.YtmlcdhblofjpbaaDoor
namespace Rows

/-- THE TIED CARD OF 'laws.FnGroupAlgebra'. -/
def fnGroupAlgebraCard : Claim7 := { stood := { row := fnGroupAlgebraRow, standIns := [], harness := (true, "ca2ee9df4a8f99dadf11cf0387a1705576af348c7d9c4a6437a0693e9a779af7"), looks := false }, kinds := [], alts := [], laidByText := true, laidKinds := [.data, .data, .data], laidTests := true, laidLooks := .later }
def FnGroupAlgebraCardSaid : Prop := Claim7.holds Tryd.pinned (.plain (OpenSpec.ofChange fnGroupAlgebraSpec)) fnGroupAlgebraCard

/-- THE TIED CARD OF 'laws.FnExactFormatGroups'. -/
def fnExactFormatGroupsCard : Claim7 := { stood := { row := fnExactFormatGroupsRow, standIns := [], harness := (true, "ca2ee9df4a8f99dadf11cf0387a1705576af348c7d9c4a6437a0693e9a779af7"), looks := false }, kinds := [], alts := [], laidByText := true, laidKinds := [.data, .data, .data], laidTests := true, laidLooks := .later }
def FnExactFormatGroupsCardSaid : Prop := Claim7.holds Tryd.pinned (.plain (OpenSpec.ofChange fnExactFormatGroupsSpec)) fnExactFormatGroupsCard

/-- THE TIED CARD OF 'laws.FnExactDeleteUnreadableFiles'. -/
def fnExactDeleteUnreadableFilesCard : Claim7 := { stood := { row := fnExactDeleteUnreadableFilesRow, standIns := [], harness := (true, "ca2ee9df4a8f99dadf11cf0387a1705576af348c7d9c4a6437a0693e9a779af7"), looks := false }, kinds := [], alts := [], laidByText := true, laidKinds := [.data, .data, .data], laidTests := true, laidLooks := .later }
def FnExactDeleteUnreadableFilesCardSaid : Prop := Claim7.holds Tryd.pinned (.plain (OpenSpec.ofChange fnExactDeleteUnreadableFilesSpec)) fnExactDeleteUnreadableFilesCard

/-- THE TIED CARD OF 'laws.FnSealedFiles'. -/
def fnSealedFilesCard : Claim7 := { stood := { row := fnSealedFilesRow, standIns := [], harness := (true, "ca2ee9df4a8f99dadf11cf0387a1705576af348c7d9c4a6437a0693e9a779af7"), looks := false }, kinds := [], alts := [], laidByText := true, laidKinds := [.data, .data, .data], laidTests := true, laidLooks := .later }
def FnSealedFilesCardSaid : Prop := Claim7.holds Tryd.pinned (.plain (OpenSpec.ofChange fnSealedFilesSpec)) fnSealedFilesCard

/-- THE SECOND FORM's CARD OF 'laws.FnGroupAlgebra'. -/
def fnGroupAlgebraUptoCard : Claim7 := { stood := { row := fnGroupAlgebraUptoRow, standIns := [], harness := (true, "ca2ee9df4a8f99dadf11cf0387a1705576af348c7d9c4a6437a0693e9a779af7"), looks := false }, kinds := [], alts := [], laidByText := true, laidKinds := [.data, .data, .data], laidTests := true, laidLooks := .later }
def FnGroupAlgebraUptoCardSaid : Prop := Claim7.holds Tryd.pinned (.plain (OpenSpec.upto fnGroupAlgebraSpec)) fnGroupAlgebraUptoCard

/-- THE SECOND FORM's CARD OF 'laws.FnExactFormatGroups'. -/
def fnExactFormatGroupsUptoCard : Claim7 := { stood := { row := fnExactFormatGroupsUptoRow, standIns := [], harness := (true, "ca2ee9df4a8f99dadf11cf0387a1705576af348c7d9c4a6437a0693e9a779af7"), looks := false }, kinds := [], alts := [], laidByText := true, laidKinds := [.data, .data, .data], laidTests := true, laidLooks := .later }
def FnExactFormatGroupsUptoCardSaid : Prop := Claim7.holds Tryd.pinned (.plain (OpenSpec.upto fnExactFormatGroupsSpec)) fnExactFormatGroupsUptoCard

/-- THE SECOND FORM's CARD OF 'laws.FnExactDeleteUnreadableFiles'. -/
def fnExactDeleteUnreadableFilesUptoCard : Claim7 := { stood := { row := fnExactDeleteUnreadableFilesUptoRow, standIns := [], harness := (true, "ca2ee9df4a8f99dadf11cf0387a1705576af348c7d9c4a6437a0693e9a779af7"), looks := false }, kinds := [], alts := [], laidByText := true, laidKinds := [.data, .data, .data], laidTests := true, laidLooks := .later }
def FnExactDeleteUnreadableFilesUptoCardSaid : Prop := Claim7.holds Tryd.pinned (.plain (OpenSpec.upto fnExactDeleteUnreadableFilesSpec)) fnExactDeleteUnreadableFilesUptoCard

/-- THE SECOND FORM's CARD OF 'laws.FnSealedFiles'. -/
def fnSealedFilesUptoCard : Claim7 := { stood := { row := fnSealedFilesUptoRow, standIns := [], harness := (true, "ca2ee9df4a8f99dadf11cf0387a1705576af348c7d9c4a6437a0693e9a779af7"), looks := false }, kinds := [], alts := [], laidByText := true, laidKinds := [.data, .data, .data], laidTests := true, laidLooks := .later }
def FnSealedFilesUptoCardSaid : Prop := Claim7.holds Tryd.pinned (.plain (OpenSpec.upto fnSealedFilesSpec)) fnSealedFilesUptoCard
end Rows
end Go.Proofs.YtmlcdhblofjpbaaDoor
