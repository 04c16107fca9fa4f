/-
  No cell of these rows narrows 'for every input' (looked for: loops, veiled, ifaces, maps, wideKeys, modest, calm, conditions, laid).
  DERIVED. THE GIVEN ROWS OF THIS SEAT. 6 by the template 'for every input the law returns true; each argument reads behind the call as it read before'; 0 by the template 'total and deterministic' (their statements: YtfionajnoaednaaTotals.lean).
  GIVEN WITH THE SEED: the statements are not yours to turn. If you find one false, say at which input.
  Laid BY PROGRAM, IN A SANDBOX (cutbox-rows.mjs): the forced cells as the released guide's own fill.sh prints them over the translation 54a2f39206df29c3… (all of the seat's roots in one cut). By AI agents, Wed Nov 11 2026. No macro, syntax, notation, axiom, sorry.
-/
import Derived.Test.YtfionajnoaednaaChecked
import GoSem.Claim
import GoSem.ClaimJoined
import GoSem.ClaimMapViews
import Derived.JoinedTies
import Derived.KernelRfl
namespace Go.Proofs.Ytfionajnoaednaa
/- THE CELL 'sum', in the pinned program and in every row, IS THE sha256 OF THE DUMP (.gsa) THAT YtfionajnoaednaaProg.lean LOADS. Nothing in Lean hashes anything: it is a label: what it is worth is what the hold of that sum in a sandbox is worth. -/
noncomputable def Try.pinned : Pinned := { name := "ytfionajnoaednaa", sum := "54a2f39206df29c3301cc71650696eb6c4a26af8d483e47bc41f9b4a6479b08d", checked := Try.checked }
namespace Rows
def none {H : Type} : Left H := { results := [], args := [] }

/-- 'laws.FnMergeRuns': WHATEVER THE INPUT: true; the input reads as it did. -/
def fnMergeRunsSpec : ChangeSpec := { name := "fnMergeRuns", fn := fun _ => fun
  | [d] => { results := [.lit (.bool true)], args := [d] }
  | _ => none }
def fnMergeRunsRow : OpenClaim := { program := "ytfionajnoaednaa", sum := "54a2f39206df29c3301cc71650696eb6c4a26af8d483e47bc41f9b4a6479b08d", func := "loop.example/g01920/laws.FnMergeRuns", spec := "fnMergeRuns", unfollowed := true, recurses := true, apart := false }
def FnMergeRunsSaid : Prop := fnMergeRunsRow.holds Try.pinned (OpenSpec.ofChange fnMergeRunsSpec)

/-- ITS FALSE NEIGHBOUR: 'it returns false'. Refute it at one input. -/
def fnMergeRunsWrong : ChangeSpec := { name := "fnMergeRuns", fn := fun _ => fun
  | [d] => { results := [.lit (.bool false)], args := [d] }
  | _ => none }
def FnMergeRunsWrongFalsely : Prop := fnMergeRunsRow.holds Try.pinned (OpenSpec.ofChange fnMergeRunsWrong)

/-- 'laws.FnExactMergeSorted': WHATEVER THE INPUT: true; the input reads as it did. -/
def fnExactMergeSortedSpec : ChangeSpec := { name := "fnExactMergeSorted", fn := fun _ => fun
  | [d1, d2] => { results := [.lit (.bool true)], args := [d1, d2] }
  | _ => none }
def fnExactMergeSortedRow : OpenClaim := { program := "ytfionajnoaednaa", sum := "54a2f39206df29c3301cc71650696eb6c4a26af8d483e47bc41f9b4a6479b08d", func := "loop.example/g01920/laws.FnExactMergeSorted", spec := "fnExactMergeSorted", apart := false }
def FnExactMergeSortedSaid : Prop := fnExactMergeSortedRow.holds Try.pinned (OpenSpec.ofChange fnExactMergeSortedSpec)

/-- ITS FALSE NEIGHBOUR: 'it returns false'. Refute it at one input. -/
def fnExactMergeSortedWrong : ChangeSpec := { name := "fnExactMergeSorted", fn := fun _ => fun
  | [d1, d2] => { results := [.lit (.bool false)], args := [d1, d2] }
  | _ => none }
def FnExactMergeSortedWrongFalsely : Prop := fnExactMergeSortedRow.holds Try.pinned (OpenSpec.ofChange fnExactMergeSortedWrong)

/-- 'laws.FnExactMergePass': WHATEVER THE INPUT: true; the input reads as it did. -/
def fnExactMergePassSpec : ChangeSpec := { name := "fnExactMergePass", fn := fun _ => fun
  | [d] => { results := [.lit (.bool true)], args := [d] }
  | _ => none }
def fnExactMergePassRow : OpenClaim := { program := "ytfionajnoaednaa", sum := "54a2f39206df29c3301cc71650696eb6c4a26af8d483e47bc41f9b4a6479b08d", func := "loop.example/g01920/laws.FnExactMergePass", spec := "fnExactMergePass", apart := false }
def FnExactMergePassSaid : Prop := fnExactMergePassRow.holds Try.pinned (OpenSpec.ofChange fnExactMergePassSpec)

/-- ITS FALSE NEIGHBOUR: 'it returns false'. Refute it at one input. -/
def fnExactMergePassWrong : ChangeSpec := { name := "fnExactMergePass", fn := fun _ => fun
  | [d] => { results := [.lit (.bool false)], args := [d] }
  | _ => none }
def FnExactMergePassWrongFalsely : Prop := fnExactMergePassRow.holds Try.pinned (OpenSpec.ofChange fnExactMergePassWrong)

/-- 'laws.FnExactMergeRuns': WHATEVER THE INPUT: true; the input reads as it did. -/
def fnExactMergeRunsSpec : ChangeSpec := { name := "fnExactMergeRuns", fn := fun _ => fun
  | [d] => { results := [.lit (.bool true)], args := [d] }
  | _ => none }
def fnExactMergeRunsRow : OpenClaim := { program := "ytfionajnoaednaa", sum := "54a2f39206df29c3301cc71650696eb6c4a26af8d483e47bc41f9b4a6479b08d", func := "loop.example/g01920/laws.FnExactMergeRuns", spec := "fnExactMergeRuns", unfollowed := true, recurses := true, apart := false }
def FnExactMergeRunsSaid : Prop := fnExactMergeRunsRow.holds Try.pinned (OpenSpec.ofChange fnExactMergeRunsSpec)

/-- ITS FALSE NEIGHBOUR: 'it returns false'. Refute it at one input. -/
def fnExactMergeRunsWrong : ChangeSpec := { name := "fnExactMergeRuns", fn := fun _ => fun
  | [d] => { results := [.lit (.bool false)], args := [d] }
  | _ => none }
def FnExactMergeRunsWrongFalsely : Prop := fnExactMergeRunsRow.holds Try.pinned (OpenSpec.ofChange fnExactMergeRunsWrong)

/-- 'laws.FnExactMergePasses': WHATEVER THE INPUT: true; the input reads as it did. -/
def fnExactMergePassesSpec : ChangeSpec := { name := "fnExactMergePasses", fn := fun _ => fun
  | [d] => { results := [.lit (.bool true)], args := [d] }
  | _ => none }
def fnExactMergePassesRow : OpenClaim := { program := "ytfionajnoaednaa", sum := "54a2f39206df29c3301cc71650696eb6c4a26af8d483e47bc41f9b4a6479b08d", func := "loop.example/g01920/laws.FnExactMergePasses", spec := "fnExactMergePasses", apart := false }
def FnExactMergePassesSaid : Prop := fnExactMergePassesRow.holds Try.pinned (OpenSpec.ofChange fnExactMergePassesSpec)

/-- ITS FALSE NEIGHBOUR: 'it returns false'. Refute it at one input. -/
def fnExactMergePassesWrong : ChangeSpec := { name := "fnExactMergePasses", fn := fun _ => fun
  | [d] => { results := [.lit (.bool false)], args := [d] }
  | _ => none }
def FnExactMergePassesWrongFalsely : Prop := fnExactMergePassesRow.holds Try.pinned (OpenSpec.ofChange fnExactMergePassesWrong)

/-- 'laws.FnExactExternalSort': WHATEVER THE INPUT: true; the input reads as it did. -/
def fnExactExternalSortSpec : ChangeSpec := { name := "fnExactExternalSort", fn := fun _ => fun
  | [d1, d2] => { results := [.lit (.bool true)], args := [d1, d2] }
  | _ => none }
def fnExactExternalSortRow : OpenClaim := { program := "ytfionajnoaednaa", sum := "54a2f39206df29c3301cc71650696eb6c4a26af8d483e47bc41f9b4a6479b08d", func := "loop.example/g01920/laws.FnExactExternalSort", spec := "fnExactExternalSort", unfollowed := true, recurses := true, apart := false }
def FnExactExternalSortSaid : Prop := fnExactExternalSortRow.holds Try.pinned (OpenSpec.ofChange fnExactExternalSortSpec)

/-- ITS FALSE NEIGHBOUR: 'it returns false'. Refute it at one input. -/
def fnExactExternalSortWrong : ChangeSpec := { name := "fnExactExternalSort", fn := fun _ => fun
  | [d1, d2] => { results := [.lit (.bool false)], args := [d1, d2] }
  | _ => none }
def FnExactExternalSortWrongFalsely : Prop := fnExactExternalSortRow.holds Try.pinned (OpenSpec.ofChange fnExactExternalSortWrong)

/- THE SECOND FORM. 'bulk': how many values and letters a reading holds, each counted each time it is reached (what is shared counts as often as it is met; a slice's spare places count too). A statement '..UptoSaid' is the law's where the arguments, and the package variables that the reading takes, are together of bulk at most 1048576: NARROWER than '..Said'. Prove '..Said' where nothing that the law and all that it calls make is longer than what came in: it says more and counts as full. Else prove '..UptoSaid'. A law counts once. -/
mutual
def uptoBulk {H : Type} : DataW H → Nat
  | .lit (.string bytes) => bytes.length + 1
  | .lit _ => 1
  | .nil => 1
  | .ptr d => uptoBulk d + 1
  | .slice elems spare => uptoBulkAll elems + uptoBulkAll spare + 1
  | .agg parts => uptoBulkAll parts + 1
  | .iface _ d => uptoBulk d + 1
  | .map entries => uptoBulkEntries entries + 1
  | .held _ => 1
def uptoBulkAll {H : Type} : List (DataW H) → Nat
  | [] => 0
  | d :: r => uptoBulk d + uptoBulkAll r
def uptoBulkEntries {H : Type} : List (Lit × DataW H) → Nat
  | [] => 0
  | x :: r => uptoBulkEntry x + uptoBulkEntries r
def uptoBulkEntry {H : Type} : Lit × DataW H → Nat
  | (.string bytes, d) => bytes.length + uptoBulk d + 1
  | (_, d) => uptoBulk d + 1
 end
def uptoSmall : (H : Type) → List (DataW H) → Bool := fun _ ds => decide (uptoBulkAll ds ≤ 1048576)
def OpenSpec.upto (s : _root_.Go.ChangeSpec) : _root_.Go.OpenSpec := { _root_.Go.OpenSpec.ofChange s with cond := some uptoSmall }

/-- 'laws.FnMergeRuns', WHERE WHAT IT READS IS OF BULK AT MOST 1048576: true; the input reads as it did. -/
def fnMergeRunsUptoRow : OpenClaim := { program := "ytfionajnoaednaa", sum := "54a2f39206df29c3301cc71650696eb6c4a26af8d483e47bc41f9b4a6479b08d", func := "loop.example/g01920/laws.FnMergeRuns", spec := "fnMergeRuns", unfollowed := true, recurses := true, apart := false, narrowed := true }
def FnMergeRunsUptoSaid : Prop := fnMergeRunsUptoRow.holds Try.pinned (OpenSpec.upto fnMergeRunsSpec)

/-- 'laws.FnExactMergeSorted', WHERE WHAT IT READS IS OF BULK AT MOST 1048576: true; the input reads as it did. -/
def fnExactMergeSortedUptoRow : OpenClaim := { program := "ytfionajnoaednaa", sum := "54a2f39206df29c3301cc71650696eb6c4a26af8d483e47bc41f9b4a6479b08d", func := "loop.example/g01920/laws.FnExactMergeSorted", spec := "fnExactMergeSorted", apart := false, narrowed := true }
def FnExactMergeSortedUptoSaid : Prop := fnExactMergeSortedUptoRow.holds Try.pinned (OpenSpec.upto fnExactMergeSortedSpec)

/-- 'laws.FnExactMergePass', WHERE WHAT IT READS IS OF BULK AT MOST 1048576: true; the input reads as it did. -/
def fnExactMergePassUptoRow : OpenClaim := { program := "ytfionajnoaednaa", sum := "54a2f39206df29c3301cc71650696eb6c4a26af8d483e47bc41f9b4a6479b08d", func := "loop.example/g01920/laws.FnExactMergePass", spec := "fnExactMergePass", apart := false, narrowed := true }
def FnExactMergePassUptoSaid : Prop := fnExactMergePassUptoRow.holds Try.pinned (OpenSpec.upto fnExactMergePassSpec)

/-- 'laws.FnExactMergeRuns', WHERE WHAT IT READS IS OF BULK AT MOST 1048576: true; the input reads as it did. -/
def fnExactMergeRunsUptoRow : OpenClaim := { program := "ytfionajnoaednaa", sum := "54a2f39206df29c3301cc71650696eb6c4a26af8d483e47bc41f9b4a6479b08d", func := "loop.example/g01920/laws.FnExactMergeRuns", spec := "fnExactMergeRuns", unfollowed := true, recurses := true, apart := false, narrowed := true }
def FnExactMergeRunsUptoSaid : Prop := fnExactMergeRunsUptoRow.holds Try.pinned (OpenSpec.upto fnExactMergeRunsSpec)

/-- 'laws.FnExactMergePasses', WHERE WHAT IT READS IS OF BULK AT MOST 1048576: true; the input reads as it did. -/
def fnExactMergePassesUptoRow : OpenClaim := { program := "ytfionajnoaednaa", sum := "54a2f39206df29c3301cc71650696eb6c4a26af8d483e47bc41f9b4a6479b08d", func := "loop.example/g01920/laws.FnExactMergePasses", spec := "fnExactMergePasses", apart := false, narrowed := true }
def FnExactMergePassesUptoSaid : Prop := fnExactMergePassesUptoRow.holds Try.pinned (OpenSpec.upto fnExactMergePassesSpec)

/-- 'laws.FnExactExternalSort', WHERE WHAT IT READS IS OF BULK AT MOST 1048576: true; the input reads as it did. -/
def fnExactExternalSortUptoRow : OpenClaim := { program := "ytfionajnoaednaa", sum := "54a2f39206df29c3301cc71650696eb6c4a26af8d483e47bc41f9b4a6479b08d", func := "loop.example/g01920/laws.FnExactExternalSort", spec := "fnExactExternalSort", unfollowed := true, recurses := true, apart := false, narrowed := true }
def FnExactExternalSortUptoSaid : Prop := fnExactExternalSortUptoRow.holds Try.pinned (OpenSpec.upto fnExactExternalSortSpec)

end Rows
end Go.Proofs.Ytfionajnoaednaa
