/-
  No cell of these rows narrows 'for every input' (looked for: loops, veiled, ifaces, maps, wideKeys, modest, calm, conditions, laid).
  DERIVED. THE GIVEN ROWS OF THIS SEAT. 7 by the template 'for every input the law returns true; each argument reads behind the call as it read before'; 0 by the template 'total and deterministic' (their statements: YthbifibnnhikjaaTotals.lean).
  GIVEN WITH THE SEED: the statements are not yours to turn. If you find one false, say at which input.
  Laid BY PROGRAM, IN A SANDBOX (cutbox-rows.mjs): the forced cells as the released guide's own fill.sh prints them over the translation 4b46aa51707e57c6… (all of the seat's roots in one cut). By AI agents, Wed Nov 11 2026. No macro, syntax, notation, axiom, sorry.
-/
import Derived.Test.YthbifibnnhikjaaChecked
import GoSem.Claim
import GoSem.ClaimJoined
import GoSem.ClaimMapViews
import Derived.JoinedTies
import Derived.KernelRfl
namespace Go.Proofs.Ythbifibnnhikjaa
/- THE CELL 'sum', in the pinned program and in every row, IS THE sha256 OF THE DUMP (.gsa) THAT YthbifibnnhikjaaProg.lean LOADS. Nothing in Lean hashes anything: it is a label: what it is worth is what the hold of that sum in a sandbox is worth. -/
noncomputable def Try.pinned : Pinned := { name := "ythbifibnnhikjaa", sum := "4b46aa51707e57c68866f5418caabef01b3729bc91b792f6c3453a3d4dd0a528", checked := Try.checked }
namespace Rows
def none {H : Type} : Left H := { results := [], args := [] }

/-- 'laws.FnExactChecksumOf': WHATEVER THE INPUT: true; the input reads as it did. -/
def fnExactChecksumOfSpec : ChangeSpec := { name := "fnExactChecksumOf", fn := fun _ => fun
  | [d] => { results := [.lit (.bool true)], args := [d] }
  | _ => none }
def fnExactChecksumOfRow : OpenClaim := { program := "ythbifibnnhikjaa", sum := "4b46aa51707e57c68866f5418caabef01b3729bc91b792f6c3453a3d4dd0a528", func := "loop.example/g01920/laws.FnExactChecksumOf", spec := "fnExactChecksumOf", apart := false }
def FnExactChecksumOfSaid : Prop := fnExactChecksumOfRow.holds Try.pinned (OpenSpec.ofChange fnExactChecksumOfSpec)

/-- ITS FALSE NEIGHBOUR: 'it returns false'. Refute it at one input. -/
def fnExactChecksumOfWrong : ChangeSpec := { name := "fnExactChecksumOf", fn := fun _ => fun
  | [d] => { results := [.lit (.bool false)], args := [d] }
  | _ => none }
def FnExactChecksumOfWrongFalsely : Prop := fnExactChecksumOfRow.holds Try.pinned (OpenSpec.ofChange fnExactChecksumOfWrong)

/-- 'laws.FnExactIsValidDisk': WHATEVER THE INPUT: true; the input reads as it did. -/
def fnExactIsValidDiskSpec : ChangeSpec := { name := "fnExactIsValidDisk", fn := fun _ => fun
  | [d] => { results := [.lit (.bool true)], args := [d] }
  | _ => none }
def fnExactIsValidDiskRow : OpenClaim := { program := "ythbifibnnhikjaa", sum := "4b46aa51707e57c68866f5418caabef01b3729bc91b792f6c3453a3d4dd0a528", func := "loop.example/g01920/laws.FnExactIsValidDisk", spec := "fnExactIsValidDisk", apart := false }
def FnExactIsValidDiskSaid : Prop := fnExactIsValidDiskRow.holds Try.pinned (OpenSpec.ofChange fnExactIsValidDiskSpec)

/-- ITS FALSE NEIGHBOUR: 'it returns false'. Refute it at one input. -/
def fnExactIsValidDiskWrong : ChangeSpec := { name := "fnExactIsValidDisk", fn := fun _ => fun
  | [d] => { results := [.lit (.bool false)], args := [d] }
  | _ => none }
def FnExactIsValidDiskWrongFalsely : Prop := fnExactIsValidDiskRow.holds Try.pinned (OpenSpec.ofChange fnExactIsValidDiskWrong)

/-- 'laws.FnExactCreateFile': WHATEVER THE INPUT: true; the input reads as it did. -/
def fnExactCreateFileSpec : ChangeSpec := { name := "fnExactCreateFile", fn := fun _ => fun
  | [d] => { results := [.lit (.bool true)], args := [d] }
  | _ => none }
def fnExactCreateFileRow : OpenClaim := { program := "ythbifibnnhikjaa", sum := "4b46aa51707e57c68866f5418caabef01b3729bc91b792f6c3453a3d4dd0a528", func := "loop.example/g01920/laws.FnExactCreateFile", spec := "fnExactCreateFile", apart := false }
def FnExactCreateFileSaid : Prop := fnExactCreateFileRow.holds Try.pinned (OpenSpec.ofChange fnExactCreateFileSpec)

/-- ITS FALSE NEIGHBOUR: 'it returns false'. Refute it at one input. -/
def fnExactCreateFileWrong : ChangeSpec := { name := "fnExactCreateFile", fn := fun _ => fun
  | [d] => { results := [.lit (.bool false)], args := [d] }
  | _ => none }
def FnExactCreateFileWrongFalsely : Prop := fnExactCreateFileRow.holds Try.pinned (OpenSpec.ofChange fnExactCreateFileWrong)

/-- 'laws.FnExactAppendPage': WHATEVER THE INPUT: true; the input reads as it did. -/
def fnExactAppendPageSpec : ChangeSpec := { name := "fnExactAppendPage", fn := fun _ => fun
  | [d1, d2, d3] => { results := [.lit (.bool true)], args := [d1, d2, d3] }
  | _ => none }
def fnExactAppendPageRow : OpenClaim := { program := "ythbifibnnhikjaa", sum := "4b46aa51707e57c68866f5418caabef01b3729bc91b792f6c3453a3d4dd0a528", func := "loop.example/g01920/laws.FnExactAppendPage", spec := "fnExactAppendPage", apart := false }
def FnExactAppendPageSaid : Prop := fnExactAppendPageRow.holds Try.pinned (OpenSpec.ofChange fnExactAppendPageSpec)

/-- ITS FALSE NEIGHBOUR: 'it returns false'. Refute it at one input. -/
def fnExactAppendPageWrong : ChangeSpec := { name := "fnExactAppendPage", fn := fun _ => fun
  | [d1, d2, d3] => { results := [.lit (.bool false)], args := [d1, d2, d3] }
  | _ => none }
def FnExactAppendPageWrongFalsely : Prop := fnExactAppendPageRow.holds Try.pinned (OpenSpec.ofChange fnExactAppendPageWrong)

/-- 'laws.FnExactDeleteFile': WHATEVER THE INPUT: true; the input reads as it did. -/
def fnExactDeleteFileSpec : ChangeSpec := { name := "fnExactDeleteFile", fn := fun _ => fun
  | [d1, d2] => { results := [.lit (.bool true)], args := [d1, d2] }
  | _ => none }
def fnExactDeleteFileRow : OpenClaim := { program := "ythbifibnnhikjaa", sum := "4b46aa51707e57c68866f5418caabef01b3729bc91b792f6c3453a3d4dd0a528", func := "loop.example/g01920/laws.FnExactDeleteFile", spec := "fnExactDeleteFile", unfollowed := true, recurses := true, apart := false }
def FnExactDeleteFileSaid : Prop := fnExactDeleteFileRow.holds Try.pinned (OpenSpec.ofChange fnExactDeleteFileSpec)

/-- ITS FALSE NEIGHBOUR: 'it returns false'. Refute it at one input. -/
def fnExactDeleteFileWrong : ChangeSpec := { name := "fnExactDeleteFile", fn := fun _ => fun
  | [d1, d2] => { results := [.lit (.bool false)], args := [d1, d2] }
  | _ => none }
def FnExactDeleteFileWrongFalsely : Prop := fnExactDeleteFileRow.holds Try.pinned (OpenSpec.ofChange fnExactDeleteFileWrong)

/-- 'laws.FnExactCountPages': WHATEVER THE INPUT: true; the input reads as it did. -/
def fnExactCountPagesSpec : ChangeSpec := { name := "fnExactCountPages", fn := fun _ => fun
  | [d] => { results := [.lit (.bool true)], args := [d] }
  | _ => none }
def fnExactCountPagesRow : OpenClaim := { program := "ythbifibnnhikjaa", sum := "4b46aa51707e57c68866f5418caabef01b3729bc91b792f6c3453a3d4dd0a528", func := "loop.example/g01920/laws.FnExactCountPages", spec := "fnExactCountPages", apart := false }
def FnExactCountPagesSaid : Prop := fnExactCountPagesRow.holds Try.pinned (OpenSpec.ofChange fnExactCountPagesSpec)

/-- ITS FALSE NEIGHBOUR: 'it returns false'. Refute it at one input. -/
def fnExactCountPagesWrong : ChangeSpec := { name := "fnExactCountPages", fn := fun _ => fun
  | [d] => { results := [.lit (.bool false)], args := [d] }
  | _ => none }
def FnExactCountPagesWrongFalsely : Prop := fnExactCountPagesRow.holds Try.pinned (OpenSpec.ofChange fnExactCountPagesWrong)

/-- 'laws.FnExactEqualDisks': WHATEVER THE INPUT: true; the input reads as it did. -/
def fnExactEqualDisksSpec : ChangeSpec := { name := "fnExactEqualDisks", fn := fun _ => fun
  | [d1, d2] => { results := [.lit (.bool true)], args := [d1, d2] }
  | _ => none }
def fnExactEqualDisksRow : OpenClaim := { program := "ythbifibnnhikjaa", sum := "4b46aa51707e57c68866f5418caabef01b3729bc91b792f6c3453a3d4dd0a528", func := "loop.example/g01920/laws.FnExactEqualDisks", spec := "fnExactEqualDisks", unfollowed := true, recurses := true, apart := false }
def FnExactEqualDisksSaid : Prop := fnExactEqualDisksRow.holds Try.pinned (OpenSpec.ofChange fnExactEqualDisksSpec)

/-- ITS FALSE NEIGHBOUR: 'it returns false'. Refute it at one input. -/
def fnExactEqualDisksWrong : ChangeSpec := { name := "fnExactEqualDisks", fn := fun _ => fun
  | [d1, d2] => { results := [.lit (.bool false)], args := [d1, d2] }
  | _ => none }
def FnExactEqualDisksWrongFalsely : Prop := fnExactEqualDisksRow.holds Try.pinned (OpenSpec.ofChange fnExactEqualDisksWrong)

/- THE SECOND FORM. 'bulk': how many values and letters a reading holds, each counted each time it is reached (what is shared counts as often as it is met; a slice's spare places count too). A statement '..UptoSaid' is the law's where the arguments, and the package variables that the reading takes, are together of bulk at most 1048576: NARROWER than '..Said'. Prove '..Said' where nothing that the law and all that it calls make is longer than what came in: it says more and counts as full. Else prove '..UptoSaid'. A law counts once. -/
mutual
def uptoBulk {H : Type} : DataW H → Nat
  | .lit (.string bytes) => bytes.length + 1
  | .lit _ => 1
  | .nil => 1
  | .ptr d => uptoBulk d + 1
  | .slice elems spare => uptoBulkAll elems + uptoBulkAll spare + 1
  | .agg parts => uptoBulkAll parts + 1
  | .iface _ d => uptoBulk d + 1
  | .map entries => uptoBulkEntries entries + 1
  | .held _ => 1
def uptoBulkAll {H : Type} : List (DataW H) → Nat
  | [] => 0
  | d :: r => uptoBulk d + uptoBulkAll r
def uptoBulkEntries {H : Type} : List (Lit × DataW H) → Nat
  | [] => 0
  | x :: r => uptoBulkEntry x + uptoBulkEntries r
def uptoBulkEntry {H : Type} : Lit × DataW H → Nat
  | (.string bytes, d) => bytes.length + uptoBulk d + 1
  | (_, d) => uptoBulk d + 1
 end
def uptoSmall : (H : Type) → List (DataW H) → Bool := fun _ ds => decide (uptoBulkAll ds ≤ 1048576)
def OpenSpec.upto (s : _root_.Go.ChangeSpec) : _root_.Go.OpenSpec := { _root_.Go.OpenSpec.ofChange s with cond := some uptoSmall }

/-- 'laws.FnExactChecksumOf', WHERE WHAT IT READS IS OF BULK AT MOST 1048576: true; the input reads as it did. -/
def fnExactChecksumOfUptoRow : OpenClaim := { program := "ythbifibnnhikjaa", sum := "4b46aa51707e57c68866f5418caabef01b3729bc91b792f6c3453a3d4dd0a528", func := "loop.example/g01920/laws.FnExactChecksumOf", spec := "fnExactChecksumOf", apart := false, narrowed := true }
def FnExactChecksumOfUptoSaid : Prop := fnExactChecksumOfUptoRow.holds Try.pinned (OpenSpec.upto fnExactChecksumOfSpec)

/-- 'laws.FnExactIsValidDisk', WHERE WHAT IT READS IS OF BULK AT MOST 1048576: true; the input reads as it did. -/
def fnExactIsValidDiskUptoRow : OpenClaim := { program := "ythbifibnnhikjaa", sum := "4b46aa51707e57c68866f5418caabef01b3729bc91b792f6c3453a3d4dd0a528", func := "loop.example/g01920/laws.FnExactIsValidDisk", spec := "fnExactIsValidDisk", apart := false, narrowed := true }
def FnExactIsValidDiskUptoSaid : Prop := fnExactIsValidDiskUptoRow.holds Try.pinned (OpenSpec.upto fnExactIsValidDiskSpec)

/-- 'laws.FnExactCreateFile', WHERE WHAT IT READS IS OF BULK AT MOST 1048576: true; the input reads as it did. -/
def fnExactCreateFileUptoRow : OpenClaim := { program := "ythbifibnnhikjaa", sum := "4b46aa51707e57c68866f5418caabef01b3729bc91b792f6c3453a3d4dd0a528", func := "loop.example/g01920/laws.FnExactCreateFile", spec := "fnExactCreateFile", apart := false, narrowed := true }
def FnExactCreateFileUptoSaid : Prop := fnExactCreateFileUptoRow.holds Try.pinned (OpenSpec.upto fnExactCreateFileSpec)

/-- 'laws.FnExactAppendPage', WHERE WHAT IT READS IS OF BULK AT MOST 1048576: true; the input reads as it did. -/
def fnExactAppendPageUptoRow : OpenClaim := { program := "ythbifibnnhikjaa", sum := "4b46aa51707e57c68866f5418caabef01b3729bc91b792f6c3453a3d4dd0a528", func := "loop.example/g01920/laws.FnExactAppendPage", spec := "fnExactAppendPage", apart := false, narrowed := true }
def FnExactAppendPageUptoSaid : Prop := fnExactAppendPageUptoRow.holds Try.pinned (OpenSpec.upto fnExactAppendPageSpec)

/-- 'laws.FnExactDeleteFile', WHERE WHAT IT READS IS OF BULK AT MOST 1048576: true; the input reads as it did. -/
def fnExactDeleteFileUptoRow : OpenClaim := { program := "ythbifibnnhikjaa", sum := "4b46aa51707e57c68866f5418caabef01b3729bc91b792f6c3453a3d4dd0a528", func := "loop.example/g01920/laws.FnExactDeleteFile", spec := "fnExactDeleteFile", unfollowed := true, recurses := true, apart := false, narrowed := true }
def FnExactDeleteFileUptoSaid : Prop := fnExactDeleteFileUptoRow.holds Try.pinned (OpenSpec.upto fnExactDeleteFileSpec)

/-- 'laws.FnExactCountPages', WHERE WHAT IT READS IS OF BULK AT MOST 1048576: true; the input reads as it did. -/
def fnExactCountPagesUptoRow : OpenClaim := { program := "ythbifibnnhikjaa", sum := "4b46aa51707e57c68866f5418caabef01b3729bc91b792f6c3453a3d4dd0a528", func := "loop.example/g01920/laws.FnExactCountPages", spec := "fnExactCountPages", apart := false, narrowed := true }
def FnExactCountPagesUptoSaid : Prop := fnExactCountPagesUptoRow.holds Try.pinned (OpenSpec.upto fnExactCountPagesSpec)

/-- 'laws.FnExactEqualDisks', WHERE WHAT IT READS IS OF BULK AT MOST 1048576: true; the input reads as it did. -/
def fnExactEqualDisksUptoRow : OpenClaim := { program := "ythbifibnnhikjaa", sum := "4b46aa51707e57c68866f5418caabef01b3729bc91b792f6c3453a3d4dd0a528", func := "loop.example/g01920/laws.FnExactEqualDisks", spec := "fnExactEqualDisks", unfollowed := true, recurses := true, apart := false, narrowed := true }
def FnExactEqualDisksUptoSaid : Prop := fnExactEqualDisksUptoRow.holds Try.pinned (OpenSpec.upto fnExactEqualDisksSpec)

end Rows
end Go.Proofs.Ythbifibnnhikjaa
