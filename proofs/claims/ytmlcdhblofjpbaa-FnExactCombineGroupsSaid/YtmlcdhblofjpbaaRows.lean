/-
  No cell of these rows narrows 'for every input' (looked for: loops, veiled, ifaces, maps, wideKeys, modest, calm, conditions, laid).
  DERIVED. THE GIVEN ROWS OF THIS SEAT. 5 by the template 'for every input the law returns true; each argument reads behind the call as it read before'; 0 by the template 'total and deterministic' (their statements: YtmlcdhblofjpbaaTotals.lean).
  GIVEN WITH THE SEED: the statements are not yours to turn. If you find one false, say at which input.
  Laid BY PROGRAM, IN A SANDBOX (cutbox-rows.mjs): the forced cells as the released guide's own fill.sh prints them over the translation 4995f41181c65adf… (all of the seat's roots in one cut). By AI agents, Wed Nov 11 2026. No macro, syntax, notation, axiom, sorry.
-/
import Derived.Test.YtmlcdhblofjpbaaChecked
import GoSem.Claim
import GoSem.ClaimJoined
import GoSem.ClaimMapViews
import Derived.JoinedTies
import Derived.KernelRfl
namespace Go.Proofs.Ytmlcdhblofjpbaa
/- THE CELL 'sum', in the pinned program and in every row, IS THE sha256 OF THE DUMP (.gsa) THAT YtmlcdhblofjpbaaProg.lean LOADS. Nothing in Lean hashes anything: it is a label: what it is worth is what the hold of that sum in a sandbox is worth. -/
noncomputable def Try.pinned : Pinned := { name := "ytmlcdhblofjpbaa", sum := "4995f41181c65adf8adc8345b93b5b0d3832bb9c2239df0584208f38a6397c87", checked := Try.checked }
namespace Rows
def none {H : Type} : Left H := { results := [], args := [] }

/-- 'laws.FnExactReferenceGroups': WHATEVER THE INPUT: true; the input reads as it did. -/
def fnExactReferenceGroupsSpec : ChangeSpec := { name := "fnExactReferenceGroups", fn := fun _ => fun
  | [d] => { results := [.lit (.bool true)], args := [d] }
  | _ => none }
def fnExactReferenceGroupsRow : OpenClaim := { program := "ytmlcdhblofjpbaa", sum := "4995f41181c65adf8adc8345b93b5b0d3832bb9c2239df0584208f38a6397c87", func := "loop.example/g01920/laws.FnExactReferenceGroups", spec := "fnExactReferenceGroups", unfollowed := true, recurses := true, apart := false }
def FnExactReferenceGroupsSaid : Prop := fnExactReferenceGroupsRow.holds Try.pinned (OpenSpec.ofChange fnExactReferenceGroupsSpec)

/-- ITS FALSE NEIGHBOUR: 'it returns false'. Refute it at one input. -/
def fnExactReferenceGroupsWrong : ChangeSpec := { name := "fnExactReferenceGroups", fn := fun _ => fun
  | [d] => { results := [.lit (.bool false)], args := [d] }
  | _ => none }
def FnExactReferenceGroupsWrongFalsely : Prop := fnExactReferenceGroupsRow.holds Try.pinned (OpenSpec.ofChange fnExactReferenceGroupsWrong)

/-- 'laws.FnExactGroupFromRow': WHATEVER THE INPUT: true; the input reads as it did. -/
def fnExactGroupFromRowSpec : ChangeSpec := { name := "fnExactGroupFromRow", fn := fun _ => fun
  | [d] => { results := [.lit (.bool true)], args := [d] }
  | _ => none }
def fnExactGroupFromRowRow : OpenClaim := { program := "ytmlcdhblofjpbaa", sum := "4995f41181c65adf8adc8345b93b5b0d3832bb9c2239df0584208f38a6397c87", func := "loop.example/g01920/laws.FnExactGroupFromRow", spec := "fnExactGroupFromRow", apart := false }
def FnExactGroupFromRowSaid : Prop := fnExactGroupFromRowRow.holds Try.pinned (OpenSpec.ofChange fnExactGroupFromRowSpec)

/-- ITS FALSE NEIGHBOUR: 'it returns false'. Refute it at one input. -/
def fnExactGroupFromRowWrong : ChangeSpec := { name := "fnExactGroupFromRow", fn := fun _ => fun
  | [d] => { results := [.lit (.bool false)], args := [d] }
  | _ => none }
def FnExactGroupFromRowWrongFalsely : Prop := fnExactGroupFromRowRow.holds Try.pinned (OpenSpec.ofChange fnExactGroupFromRowWrong)

/-- 'laws.FnExactCombineGroups': WHATEVER THE INPUT: true; the input reads as it did. -/
def fnExactCombineGroupsSpec : ChangeSpec := { name := "fnExactCombineGroups", fn := fun _ => fun
  | [d1, d2] => { results := [.lit (.bool true)], args := [d1, d2] }
  | _ => none }
def fnExactCombineGroupsRow : OpenClaim := { program := "ytmlcdhblofjpbaa", sum := "4995f41181c65adf8adc8345b93b5b0d3832bb9c2239df0584208f38a6397c87", func := "loop.example/g01920/laws.FnExactCombineGroups", spec := "fnExactCombineGroups", apart := false }
def FnExactCombineGroupsSaid : Prop := fnExactCombineGroupsRow.holds Try.pinned (OpenSpec.ofChange fnExactCombineGroupsSpec)

/-- ITS FALSE NEIGHBOUR: 'it returns false'. Refute it at one input. -/
def fnExactCombineGroupsWrong : ChangeSpec := { name := "fnExactCombineGroups", fn := fun _ => fun
  | [d1, d2] => { results := [.lit (.bool false)], args := [d1, d2] }
  | _ => none }
def FnExactCombineGroupsWrongFalsely : Prop := fnExactCombineGroupsRow.holds Try.pinned (OpenSpec.ofChange fnExactCombineGroupsWrong)

/-- 'laws.FnExactMergeGroups': WHATEVER THE INPUT: true; the input reads as it did. -/
def fnExactMergeGroupsSpec : ChangeSpec := { name := "fnExactMergeGroups", fn := fun _ => fun
  | [d] => { results := [.lit (.bool true)], args := [d] }
  | _ => none }
def fnExactMergeGroupsRow : OpenClaim := { program := "ytmlcdhblofjpbaa", sum := "4995f41181c65adf8adc8345b93b5b0d3832bb9c2239df0584208f38a6397c87", func := "loop.example/g01920/laws.FnExactMergeGroups", spec := "fnExactMergeGroups", unfollowed := true, recurses := true, apart := false }
def FnExactMergeGroupsSaid : Prop := fnExactMergeGroupsRow.holds Try.pinned (OpenSpec.ofChange fnExactMergeGroupsSpec)

/-- ITS FALSE NEIGHBOUR: 'it returns false'. Refute it at one input. -/
def fnExactMergeGroupsWrong : ChangeSpec := { name := "fnExactMergeGroups", fn := fun _ => fun
  | [d] => { results := [.lit (.bool false)], args := [d] }
  | _ => none }
def FnExactMergeGroupsWrongFalsely : Prop := fnExactMergeGroupsRow.holds Try.pinned (OpenSpec.ofChange fnExactMergeGroupsWrong)

/-- 'laws.FnExactIsValidGroup': WHATEVER THE INPUT: true; the input reads as it did. -/
def fnExactIsValidGroupSpec : ChangeSpec := { name := "fnExactIsValidGroup", fn := fun _ => fun
  | [d] => { results := [.lit (.bool true)], args := [d] }
  | _ => none }
def fnExactIsValidGroupRow : OpenClaim := { program := "ytmlcdhblofjpbaa", sum := "4995f41181c65adf8adc8345b93b5b0d3832bb9c2239df0584208f38a6397c87", func := "loop.example/g01920/laws.FnExactIsValidGroup", spec := "fnExactIsValidGroup", apart := false }
def FnExactIsValidGroupSaid : Prop := fnExactIsValidGroupRow.holds Try.pinned (OpenSpec.ofChange fnExactIsValidGroupSpec)

/-- ITS FALSE NEIGHBOUR: 'it returns false'. Refute it at one input. -/
def fnExactIsValidGroupWrong : ChangeSpec := { name := "fnExactIsValidGroup", fn := fun _ => fun
  | [d] => { results := [.lit (.bool false)], args := [d] }
  | _ => none }
def FnExactIsValidGroupWrongFalsely : Prop := fnExactIsValidGroupRow.holds Try.pinned (OpenSpec.ofChange fnExactIsValidGroupWrong)

/- THE SECOND FORM. 'bulk': how many values and letters a reading holds, each counted each time it is reached (what is shared counts as often as it is met; a slice's spare places count too). A statement '..UptoSaid' is the law's where the arguments, and the package variables that the reading takes, are together of bulk at most 1048576: NARROWER than '..Said'. Prove '..Said' where nothing that the law and all that it calls make is longer than what came in: it says more and counts as full. Else prove '..UptoSaid'. A law counts once. -/
mutual
def uptoBulk {H : Type} : DataW H → Nat
  | .lit (.string bytes) => bytes.length + 1
  | .lit _ => 1
  | .nil => 1
  | .ptr d => uptoBulk d + 1
  | .slice elems spare => uptoBulkAll elems + uptoBulkAll spare + 1
  | .agg parts => uptoBulkAll parts + 1
  | .iface _ d => uptoBulk d + 1
  | .map entries => uptoBulkEntries entries + 1
  | .held _ => 1
def uptoBulkAll {H : Type} : List (DataW H) → Nat
  | [] => 0
  | d :: r => uptoBulk d + uptoBulkAll r
def uptoBulkEntries {H : Type} : List (Lit × DataW H) → Nat
  | [] => 0
  | x :: r => uptoBulkEntry x + uptoBulkEntries r
def uptoBulkEntry {H : Type} : Lit × DataW H → Nat
  | (.string bytes, d) => bytes.length + uptoBulk d + 1
  | (_, d) => uptoBulk d + 1
 end
def uptoSmall : (H : Type) → List (DataW H) → Bool := fun _ ds => decide (uptoBulkAll ds ≤ 1048576)
def OpenSpec.upto (s : _root_.Go.ChangeSpec) : _root_.Go.OpenSpec := { _root_.Go.OpenSpec.ofChange s with cond := some uptoSmall }

/-- 'laws.FnExactReferenceGroups', WHERE WHAT IT READS IS OF BULK AT MOST 1048576: true; the input reads as it did. -/
def fnExactReferenceGroupsUptoRow : OpenClaim := { program := "ytmlcdhblofjpbaa", sum := "4995f41181c65adf8adc8345b93b5b0d3832bb9c2239df0584208f38a6397c87", func := "loop.example/g01920/laws.FnExactReferenceGroups", spec := "fnExactReferenceGroups", unfollowed := true, recurses := true, apart := false, narrowed := true }
def FnExactReferenceGroupsUptoSaid : Prop := fnExactReferenceGroupsUptoRow.holds Try.pinned (OpenSpec.upto fnExactReferenceGroupsSpec)

/-- 'laws.FnExactGroupFromRow', WHERE WHAT IT READS IS OF BULK AT MOST 1048576: true; the input reads as it did. -/
def fnExactGroupFromRowUptoRow : OpenClaim := { program := "ytmlcdhblofjpbaa", sum := "4995f41181c65adf8adc8345b93b5b0d3832bb9c2239df0584208f38a6397c87", func := "loop.example/g01920/laws.FnExactGroupFromRow", spec := "fnExactGroupFromRow", apart := false, narrowed := true }
def FnExactGroupFromRowUptoSaid : Prop := fnExactGroupFromRowUptoRow.holds Try.pinned (OpenSpec.upto fnExactGroupFromRowSpec)

/-- 'laws.FnExactCombineGroups', WHERE WHAT IT READS IS OF BULK AT MOST 1048576: true; the input reads as it did. -/
def fnExactCombineGroupsUptoRow : OpenClaim := { program := "ytmlcdhblofjpbaa", sum := "4995f41181c65adf8adc8345b93b5b0d3832bb9c2239df0584208f38a6397c87", func := "loop.example/g01920/laws.FnExactCombineGroups", spec := "fnExactCombineGroups", apart := false, narrowed := true }
def FnExactCombineGroupsUptoSaid : Prop := fnExactCombineGroupsUptoRow.holds Try.pinned (OpenSpec.upto fnExactCombineGroupsSpec)

/-- 'laws.FnExactMergeGroups', WHERE WHAT IT READS IS OF BULK AT MOST 1048576: true; the input reads as it did. -/
def fnExactMergeGroupsUptoRow : OpenClaim := { program := "ytmlcdhblofjpbaa", sum := "4995f41181c65adf8adc8345b93b5b0d3832bb9c2239df0584208f38a6397c87", func := "loop.example/g01920/laws.FnExactMergeGroups", spec := "fnExactMergeGroups", unfollowed := true, recurses := true, apart := false, narrowed := true }
def FnExactMergeGroupsUptoSaid : Prop := fnExactMergeGroupsUptoRow.holds Try.pinned (OpenSpec.upto fnExactMergeGroupsSpec)

/-- 'laws.FnExactIsValidGroup', WHERE WHAT IT READS IS OF BULK AT MOST 1048576: true; the input reads as it did. -/
def fnExactIsValidGroupUptoRow : OpenClaim := { program := "ytmlcdhblofjpbaa", sum := "4995f41181c65adf8adc8345b93b5b0d3832bb9c2239df0584208f38a6397c87", func := "loop.example/g01920/laws.FnExactIsValidGroup", spec := "fnExactIsValidGroup", apart := false, narrowed := true }
def FnExactIsValidGroupUptoSaid : Prop := fnExactIsValidGroupUptoRow.holds Try.pinned (OpenSpec.upto fnExactIsValidGroupSpec)

end Rows
end Go.Proofs.Ytmlcdhblofjpbaa
