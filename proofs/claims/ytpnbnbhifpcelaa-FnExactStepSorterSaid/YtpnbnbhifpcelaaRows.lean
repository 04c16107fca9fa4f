/-
  No cell of these rows narrows 'for every input' (looked for: loops, veiled, ifaces, maps, wideKeys, modest, calm, conditions, laid).
  DERIVED. THE GIVEN ROWS OF THIS SEAT. 11 by the template 'for every input the law returns true; each argument reads behind the call as it read before'; 0 by the template 'total and deterministic' (their statements: YtpnbnbhifpcelaaTotals.lean).
  GIVEN WITH THE SEED: the statements are not yours to turn. If you find one false, say at which input.
  Laid BY PROGRAM, IN A SANDBOX (cutbox-rows.mjs): the forced cells as the released guide's own fill.sh prints them over the translation 53b01f318a7293d7… (all of the seat's roots in one cut). By AI agents, Wed Nov 11 2026. No macro, syntax, notation, axiom, sorry.
-/
import Derived.Test.YtpnbnbhifpcelaaChecked
import GoSem.Claim
import GoSem.ClaimJoined
import GoSem.ClaimMapViews
import Derived.JoinedTies
import Derived.KernelRfl
namespace Go.Proofs.Ytpnbnbhifpcelaa
/- THE CELL 'sum', in the pinned program and in every row, IS THE sha256 OF THE DUMP (.gsa) THAT YtpnbnbhifpcelaaProg.lean LOADS. Nothing in Lean hashes anything: it is a label: what it is worth is what the hold of that sum in a sandbox is worth. -/
noncomputable def Try.pinned : Pinned := { name := "ytpnbnbhifpcelaa", sum := "53b01f318a7293d7011a5c249dcf12c743e19ec03d4193cfb8d9aeaf901f0071", checked := Try.checked }
namespace Rows
def none {H : Type} : Left H := { results := [], args := [] }

/-- 'laws.FnExactNewSorter': WHATEVER THE INPUT: true; the input reads as it did. -/
def fnExactNewSorterSpec : ChangeSpec := { name := "fnExactNewSorter", fn := fun _ => fun
  | [d] => { results := [.lit (.bool true)], args := [d] }
  | _ => none }
def fnExactNewSorterRow : OpenClaim := { program := "ytpnbnbhifpcelaa", sum := "53b01f318a7293d7011a5c249dcf12c743e19ec03d4193cfb8d9aeaf901f0071", func := "loop.example/g01920/laws.FnExactNewSorter", spec := "fnExactNewSorter", plainKeys := false, apart := false }
def FnExactNewSorterSaid : Prop := fnExactNewSorterRow.holds Try.pinned (OpenSpec.ofChange fnExactNewSorterSpec)

/-- ITS FALSE NEIGHBOUR: 'it returns false'. Refute it at one input. -/
def fnExactNewSorterWrong : ChangeSpec := { name := "fnExactNewSorter", fn := fun _ => fun
  | [d] => { results := [.lit (.bool false)], args := [d] }
  | _ => none }
def FnExactNewSorterWrongFalsely : Prop := fnExactNewSorterRow.holds Try.pinned (OpenSpec.ofChange fnExactNewSorterWrong)

/-- 'laws.FnExactSorterMemory': WHATEVER THE INPUT: true; the input reads as it did. -/
def fnExactSorterMemorySpec : ChangeSpec := { name := "fnExactSorterMemory", fn := fun _ => fun
  | [d] => { results := [.lit (.bool true)], args := [d] }
  | _ => none }
def fnExactSorterMemoryRow : OpenClaim := { program := "ytpnbnbhifpcelaa", sum := "53b01f318a7293d7011a5c249dcf12c743e19ec03d4193cfb8d9aeaf901f0071", func := "loop.example/g01920/laws.FnExactSorterMemory", spec := "fnExactSorterMemory", plainKeys := false, apart := false }
def FnExactSorterMemorySaid : Prop := fnExactSorterMemoryRow.holds Try.pinned (OpenSpec.ofChange fnExactSorterMemorySpec)

/-- ITS FALSE NEIGHBOUR: 'it returns false'. Refute it at one input. -/
def fnExactSorterMemoryWrong : ChangeSpec := { name := "fnExactSorterMemory", fn := fun _ => fun
  | [d] => { results := [.lit (.bool false)], args := [d] }
  | _ => none }
def FnExactSorterMemoryWrongFalsely : Prop := fnExactSorterMemoryRow.holds Try.pinned (OpenSpec.ofChange fnExactSorterMemoryWrong)

/-- 'laws.FnExactIsValidSorter': WHATEVER THE INPUT: true; the input reads as it did. -/
def fnExactIsValidSorterSpec : ChangeSpec := { name := "fnExactIsValidSorter", fn := fun _ => fun
  | [d] => { results := [.lit (.bool true)], args := [d] }
  | _ => none }
def fnExactIsValidSorterRow : OpenClaim := { program := "ytpnbnbhifpcelaa", sum := "53b01f318a7293d7011a5c249dcf12c743e19ec03d4193cfb8d9aeaf901f0071", func := "loop.example/g01920/laws.FnExactIsValidSorter", spec := "fnExactIsValidSorter", unfollowed := true, recurses := true, plainKeys := false, apart := false }
def FnExactIsValidSorterSaid : Prop := fnExactIsValidSorterRow.holds Try.pinned (OpenSpec.ofChange fnExactIsValidSorterSpec)

/-- ITS FALSE NEIGHBOUR: 'it returns false'. Refute it at one input. -/
def fnExactIsValidSorterWrong : ChangeSpec := { name := "fnExactIsValidSorter", fn := fun _ => fun
  | [d] => { results := [.lit (.bool false)], args := [d] }
  | _ => none }
def FnExactIsValidSorterWrongFalsely : Prop := fnExactIsValidSorterRow.holds Try.pinned (OpenSpec.ofChange fnExactIsValidSorterWrong)

/-- 'laws.FnExactStepSorter': WHATEVER THE INPUT: true; the input reads as it did. -/
def fnExactStepSorterSpec : ChangeSpec := { name := "fnExactStepSorter", fn := fun _ => fun
  | [d1, d2] => { results := [.lit (.bool true)], args := [d1, d2] }
  | _ => none }
def fnExactStepSorterRow : OpenClaim := { program := "ytpnbnbhifpcelaa", sum := "53b01f318a7293d7011a5c249dcf12c743e19ec03d4193cfb8d9aeaf901f0071", func := "loop.example/g01920/laws.FnExactStepSorter", spec := "fnExactStepSorter", unfollowed := true, recurses := true, plainKeys := false, apart := false }
def FnExactStepSorterSaid : Prop := fnExactStepSorterRow.holds Try.pinned (OpenSpec.ofChange fnExactStepSorterSpec)

/-- ITS FALSE NEIGHBOUR: 'it returns false'. Refute it at one input. -/
def fnExactStepSorterWrong : ChangeSpec := { name := "fnExactStepSorter", fn := fun _ => fun
  | [d1, d2] => { results := [.lit (.bool false)], args := [d1, d2] }
  | _ => none }
def FnExactStepSorterWrongFalsely : Prop := fnExactStepSorterRow.holds Try.pinned (OpenSpec.ofChange fnExactStepSorterWrong)

/-- 'laws.FnExactEqualSorters': WHATEVER THE INPUT: true; the input reads as it did. -/
def fnExactEqualSortersSpec : ChangeSpec := { name := "fnExactEqualSorters", fn := fun _ => fun
  | [d1, d2] => { results := [.lit (.bool true)], args := [d1, d2] }
  | _ => none }
def fnExactEqualSortersRow : OpenClaim := { program := "ytpnbnbhifpcelaa", sum := "53b01f318a7293d7011a5c249dcf12c743e19ec03d4193cfb8d9aeaf901f0071", func := "loop.example/g01920/laws.FnExactEqualSorters", spec := "fnExactEqualSorters", unfollowed := true, recurses := true, plainKeys := false, apart := false }
def FnExactEqualSortersSaid : Prop := fnExactEqualSortersRow.holds Try.pinned (OpenSpec.ofChange fnExactEqualSortersSpec)

/-- ITS FALSE NEIGHBOUR: 'it returns false'. Refute it at one input. -/
def fnExactEqualSortersWrong : ChangeSpec := { name := "fnExactEqualSorters", fn := fun _ => fun
  | [d1, d2] => { results := [.lit (.bool false)], args := [d1, d2] }
  | _ => none }
def FnExactEqualSortersWrongFalsely : Prop := fnExactEqualSortersRow.holds Try.pinned (OpenSpec.ofChange fnExactEqualSortersWrong)

/-- 'laws.FnExactBuildRuns': WHATEVER THE INPUT: true; the input reads as it did. -/
def fnExactBuildRunsSpec : ChangeSpec := { name := "fnExactBuildRuns", fn := fun _ => fun
  | [d1, d2] => { results := [.lit (.bool true)], args := [d1, d2] }
  | _ => none }
def fnExactBuildRunsRow : OpenClaim := { program := "ytpnbnbhifpcelaa", sum := "53b01f318a7293d7011a5c249dcf12c743e19ec03d4193cfb8d9aeaf901f0071", func := "loop.example/g01920/laws.FnExactBuildRuns", spec := "fnExactBuildRuns", plainKeys := false, apart := false }
def FnExactBuildRunsSaid : Prop := fnExactBuildRunsRow.holds Try.pinned (OpenSpec.ofChange fnExactBuildRunsSpec)

/-- ITS FALSE NEIGHBOUR: 'it returns false'. Refute it at one input. -/
def fnExactBuildRunsWrong : ChangeSpec := { name := "fnExactBuildRuns", fn := fun _ => fun
  | [d1, d2] => { results := [.lit (.bool false)], args := [d1, d2] }
  | _ => none }
def FnExactBuildRunsWrongFalsely : Prop := fnExactBuildRunsRow.holds Try.pinned (OpenSpec.ofChange fnExactBuildRunsWrong)

/-- 'laws.FnExactMergeSorted': WHATEVER THE INPUT: true; the input reads as it did. -/
def fnExactMergeSortedSpec : ChangeSpec := { name := "fnExactMergeSorted", fn := fun _ => fun
  | [d1, d2] => { results := [.lit (.bool true)], args := [d1, d2] }
  | _ => none }
def fnExactMergeSortedRow : OpenClaim := { program := "ytpnbnbhifpcelaa", sum := "53b01f318a7293d7011a5c249dcf12c743e19ec03d4193cfb8d9aeaf901f0071", func := "loop.example/g01920/laws.FnExactMergeSorted", spec := "fnExactMergeSorted", plainKeys := false, apart := false }
def FnExactMergeSortedSaid : Prop := fnExactMergeSortedRow.holds Try.pinned (OpenSpec.ofChange fnExactMergeSortedSpec)

/-- ITS FALSE NEIGHBOUR: 'it returns false'. Refute it at one input. -/
def fnExactMergeSortedWrong : ChangeSpec := { name := "fnExactMergeSorted", fn := fun _ => fun
  | [d1, d2] => { results := [.lit (.bool false)], args := [d1, d2] }
  | _ => none }
def FnExactMergeSortedWrongFalsely : Prop := fnExactMergeSortedRow.holds Try.pinned (OpenSpec.ofChange fnExactMergeSortedWrong)

/-- 'laws.FnExactMergePass': WHATEVER THE INPUT: true; the input reads as it did. -/
def fnExactMergePassSpec : ChangeSpec := { name := "fnExactMergePass", fn := fun _ => fun
  | [d] => { results := [.lit (.bool true)], args := [d] }
  | _ => none }
def fnExactMergePassRow : OpenClaim := { program := "ytpnbnbhifpcelaa", sum := "53b01f318a7293d7011a5c249dcf12c743e19ec03d4193cfb8d9aeaf901f0071", func := "loop.example/g01920/laws.FnExactMergePass", spec := "fnExactMergePass", plainKeys := false, apart := false }
def FnExactMergePassSaid : Prop := fnExactMergePassRow.holds Try.pinned (OpenSpec.ofChange fnExactMergePassSpec)

/-- ITS FALSE NEIGHBOUR: 'it returns false'. Refute it at one input. -/
def fnExactMergePassWrong : ChangeSpec := { name := "fnExactMergePass", fn := fun _ => fun
  | [d] => { results := [.lit (.bool false)], args := [d] }
  | _ => none }
def FnExactMergePassWrongFalsely : Prop := fnExactMergePassRow.holds Try.pinned (OpenSpec.ofChange fnExactMergePassWrong)

/-- 'laws.FnExactMergeRuns': WHATEVER THE INPUT: true; the input reads as it did. -/
def fnExactMergeRunsSpec : ChangeSpec := { name := "fnExactMergeRuns", fn := fun _ => fun
  | [d] => { results := [.lit (.bool true)], args := [d] }
  | _ => none }
def fnExactMergeRunsRow : OpenClaim := { program := "ytpnbnbhifpcelaa", sum := "53b01f318a7293d7011a5c249dcf12c743e19ec03d4193cfb8d9aeaf901f0071", func := "loop.example/g01920/laws.FnExactMergeRuns", spec := "fnExactMergeRuns", unfollowed := true, recurses := true, plainKeys := false, apart := false }
def FnExactMergeRunsSaid : Prop := fnExactMergeRunsRow.holds Try.pinned (OpenSpec.ofChange fnExactMergeRunsSpec)

/-- ITS FALSE NEIGHBOUR: 'it returns false'. Refute it at one input. -/
def fnExactMergeRunsWrong : ChangeSpec := { name := "fnExactMergeRuns", fn := fun _ => fun
  | [d] => { results := [.lit (.bool false)], args := [d] }
  | _ => none }
def FnExactMergeRunsWrongFalsely : Prop := fnExactMergeRunsRow.holds Try.pinned (OpenSpec.ofChange fnExactMergeRunsWrong)

/-- 'laws.FnMergeRuns': WHATEVER THE INPUT: true; the input reads as it did. -/
def fnMergeRunsSpec : ChangeSpec := { name := "fnMergeRuns", fn := fun _ => fun
  | [d] => { results := [.lit (.bool true)], args := [d] }
  | _ => none }
def fnMergeRunsRow : OpenClaim := { program := "ytpnbnbhifpcelaa", sum := "53b01f318a7293d7011a5c249dcf12c743e19ec03d4193cfb8d9aeaf901f0071", func := "loop.example/g01920/laws.FnMergeRuns", spec := "fnMergeRuns", unfollowed := true, recurses := true, plainKeys := false, apart := false }
def FnMergeRunsSaid : Prop := fnMergeRunsRow.holds Try.pinned (OpenSpec.ofChange fnMergeRunsSpec)

/-- ITS FALSE NEIGHBOUR: 'it returns false'. Refute it at one input. -/
def fnMergeRunsWrong : ChangeSpec := { name := "fnMergeRuns", fn := fun _ => fun
  | [d] => { results := [.lit (.bool false)], args := [d] }
  | _ => none }
def FnMergeRunsWrongFalsely : Prop := fnMergeRunsRow.holds Try.pinned (OpenSpec.ofChange fnMergeRunsWrong)

/-- 'laws.FnExactExternalSort': WHATEVER THE INPUT: true; the input reads as it did. -/
def fnExactExternalSortSpec : ChangeSpec := { name := "fnExactExternalSort", fn := fun _ => fun
  | [d1, d2] => { results := [.lit (.bool true)], args := [d1, d2] }
  | _ => none }
def fnExactExternalSortRow : OpenClaim := { program := "ytpnbnbhifpcelaa", sum := "53b01f318a7293d7011a5c249dcf12c743e19ec03d4193cfb8d9aeaf901f0071", func := "loop.example/g01920/laws.FnExactExternalSort", spec := "fnExactExternalSort", unfollowed := true, recurses := true, plainKeys := false, apart := false }
def FnExactExternalSortSaid : Prop := fnExactExternalSortRow.holds Try.pinned (OpenSpec.ofChange fnExactExternalSortSpec)

/-- ITS FALSE NEIGHBOUR: 'it returns false'. Refute it at one input. -/
def fnExactExternalSortWrong : ChangeSpec := { name := "fnExactExternalSort", fn := fun _ => fun
  | [d1, d2] => { results := [.lit (.bool false)], args := [d1, d2] }
  | _ => none }
def FnExactExternalSortWrongFalsely : Prop := fnExactExternalSortRow.holds Try.pinned (OpenSpec.ofChange fnExactExternalSortWrong)

/- THE SECOND FORM. 'bulk': how many values and letters a reading holds, each counted each time it is reached (what is shared counts as often as it is met; a slice's spare places count too). A statement '..UptoSaid' is the law's where the arguments, and the package variables that the reading takes, are together of bulk at most 1048576: NARROWER than '..Said'. Prove '..Said' where nothing that the law and all that it calls make is longer than what came in: it says more and counts as full. Else prove '..UptoSaid'. A law counts once. -/
mutual
def uptoBulk {H : Type} : DataW H → Nat
  | .lit (.string bytes) => bytes.length + 1
  | .lit _ => 1
  | .nil => 1
  | .ptr d => uptoBulk d + 1
  | .slice elems spare => uptoBulkAll elems + uptoBulkAll spare + 1
  | .agg parts => uptoBulkAll parts + 1
  | .iface _ d => uptoBulk d + 1
  | .map entries => uptoBulkEntries entries + 1
  | .held _ => 1
def uptoBulkAll {H : Type} : List (DataW H) → Nat
  | [] => 0
  | d :: r => uptoBulk d + uptoBulkAll r
def uptoBulkEntries {H : Type} : List (Lit × DataW H) → Nat
  | [] => 0
  | x :: r => uptoBulkEntry x + uptoBulkEntries r
def uptoBulkEntry {H : Type} : Lit × DataW H → Nat
  | (.string bytes, d) => bytes.length + uptoBulk d + 1
  | (_, d) => uptoBulk d + 1
 end
def uptoSmall : (H : Type) → List (DataW H) → Bool := fun _ ds => decide (uptoBulkAll ds ≤ 1048576)
def OpenSpec.upto (s : _root_.Go.ChangeSpec) : _root_.Go.OpenSpec := { _root_.Go.OpenSpec.ofChange s with cond := some uptoSmall }

/-- 'laws.FnExactNewSorter', WHERE WHAT IT READS IS OF BULK AT MOST 1048576: true; the input reads as it did. -/
def fnExactNewSorterUptoRow : OpenClaim := { program := "ytpnbnbhifpcelaa", sum := "53b01f318a7293d7011a5c249dcf12c743e19ec03d4193cfb8d9aeaf901f0071", func := "loop.example/g01920/laws.FnExactNewSorter", spec := "fnExactNewSorter", plainKeys := false, apart := false, narrowed := true }
def FnExactNewSorterUptoSaid : Prop := fnExactNewSorterUptoRow.holds Try.pinned (OpenSpec.upto fnExactNewSorterSpec)

/-- 'laws.FnExactSorterMemory', WHERE WHAT IT READS IS OF BULK AT MOST 1048576: true; the input reads as it did. -/
def fnExactSorterMemoryUptoRow : OpenClaim := { program := "ytpnbnbhifpcelaa", sum := "53b01f318a7293d7011a5c249dcf12c743e19ec03d4193cfb8d9aeaf901f0071", func := "loop.example/g01920/laws.FnExactSorterMemory", spec := "fnExactSorterMemory", plainKeys := false, apart := false, narrowed := true }
def FnExactSorterMemoryUptoSaid : Prop := fnExactSorterMemoryUptoRow.holds Try.pinned (OpenSpec.upto fnExactSorterMemorySpec)

/-- 'laws.FnExactIsValidSorter', WHERE WHAT IT READS IS OF BULK AT MOST 1048576: true; the input reads as it did. -/
def fnExactIsValidSorterUptoRow : OpenClaim := { program := "ytpnbnbhifpcelaa", sum := "53b01f318a7293d7011a5c249dcf12c743e19ec03d4193cfb8d9aeaf901f0071", func := "loop.example/g01920/laws.FnExactIsValidSorter", spec := "fnExactIsValidSorter", unfollowed := true, recurses := true, plainKeys := false, apart := false, narrowed := true }
def FnExactIsValidSorterUptoSaid : Prop := fnExactIsValidSorterUptoRow.holds Try.pinned (OpenSpec.upto fnExactIsValidSorterSpec)

/-- 'laws.FnExactStepSorter', WHERE WHAT IT READS IS OF BULK AT MOST 1048576: true; the input reads as it did. -/
def fnExactStepSorterUptoRow : OpenClaim := { program := "ytpnbnbhifpcelaa", sum := "53b01f318a7293d7011a5c249dcf12c743e19ec03d4193cfb8d9aeaf901f0071", func := "loop.example/g01920/laws.FnExactStepSorter", spec := "fnExactStepSorter", unfollowed := true, recurses := true, plainKeys := false, apart := false, narrowed := true }
def FnExactStepSorterUptoSaid : Prop := fnExactStepSorterUptoRow.holds Try.pinned (OpenSpec.upto fnExactStepSorterSpec)

/-- 'laws.FnExactEqualSorters', WHERE WHAT IT READS IS OF BULK AT MOST 1048576: true; the input reads as it did. -/
def fnExactEqualSortersUptoRow : OpenClaim := { program := "ytpnbnbhifpcelaa", sum := "53b01f318a7293d7011a5c249dcf12c743e19ec03d4193cfb8d9aeaf901f0071", func := "loop.example/g01920/laws.FnExactEqualSorters", spec := "fnExactEqualSorters", unfollowed := true, recurses := true, plainKeys := false, apart := false, narrowed := true }
def FnExactEqualSortersUptoSaid : Prop := fnExactEqualSortersUptoRow.holds Try.pinned (OpenSpec.upto fnExactEqualSortersSpec)

/-- 'laws.FnExactBuildRuns', WHERE WHAT IT READS IS OF BULK AT MOST 1048576: true; the input reads as it did. -/
def fnExactBuildRunsUptoRow : OpenClaim := { program := "ytpnbnbhifpcelaa", sum := "53b01f318a7293d7011a5c249dcf12c743e19ec03d4193cfb8d9aeaf901f0071", func := "loop.example/g01920/laws.FnExactBuildRuns", spec := "fnExactBuildRuns", plainKeys := false, apart := false, narrowed := true }
def FnExactBuildRunsUptoSaid : Prop := fnExactBuildRunsUptoRow.holds Try.pinned (OpenSpec.upto fnExactBuildRunsSpec)

/-- 'laws.FnExactMergeSorted', WHERE WHAT IT READS IS OF BULK AT MOST 1048576: true; the input reads as it did. -/
def fnExactMergeSortedUptoRow : OpenClaim := { program := "ytpnbnbhifpcelaa", sum := "53b01f318a7293d7011a5c249dcf12c743e19ec03d4193cfb8d9aeaf901f0071", func := "loop.example/g01920/laws.FnExactMergeSorted", spec := "fnExactMergeSorted", plainKeys := false, apart := false, narrowed := true }
def FnExactMergeSortedUptoSaid : Prop := fnExactMergeSortedUptoRow.holds Try.pinned (OpenSpec.upto fnExactMergeSortedSpec)

/-- 'laws.FnExactMergePass', WHERE WHAT IT READS IS OF BULK AT MOST 1048576: true; the input reads as it did. -/
def fnExactMergePassUptoRow : OpenClaim := { program := "ytpnbnbhifpcelaa", sum := "53b01f318a7293d7011a5c249dcf12c743e19ec03d4193cfb8d9aeaf901f0071", func := "loop.example/g01920/laws.FnExactMergePass", spec := "fnExactMergePass", plainKeys := false, apart := false, narrowed := true }
def FnExactMergePassUptoSaid : Prop := fnExactMergePassUptoRow.holds Try.pinned (OpenSpec.upto fnExactMergePassSpec)

/-- 'laws.FnExactMergeRuns', WHERE WHAT IT READS IS OF BULK AT MOST 1048576: true; the input reads as it did. -/
def fnExactMergeRunsUptoRow : OpenClaim := { program := "ytpnbnbhifpcelaa", sum := "53b01f318a7293d7011a5c249dcf12c743e19ec03d4193cfb8d9aeaf901f0071", func := "loop.example/g01920/laws.FnExactMergeRuns", spec := "fnExactMergeRuns", unfollowed := true, recurses := true, plainKeys := false, apart := false, narrowed := true }
def FnExactMergeRunsUptoSaid : Prop := fnExactMergeRunsUptoRow.holds Try.pinned (OpenSpec.upto fnExactMergeRunsSpec)

/-- 'laws.FnMergeRuns', WHERE WHAT IT READS IS OF BULK AT MOST 1048576: true; the input reads as it did. -/
def fnMergeRunsUptoRow : OpenClaim := { program := "ytpnbnbhifpcelaa", sum := "53b01f318a7293d7011a5c249dcf12c743e19ec03d4193cfb8d9aeaf901f0071", func := "loop.example/g01920/laws.FnMergeRuns", spec := "fnMergeRuns", unfollowed := true, recurses := true, plainKeys := false, apart := false, narrowed := true }
def FnMergeRunsUptoSaid : Prop := fnMergeRunsUptoRow.holds Try.pinned (OpenSpec.upto fnMergeRunsSpec)

/-- 'laws.FnExactExternalSort', WHERE WHAT IT READS IS OF BULK AT MOST 1048576: true; the input reads as it did. -/
def fnExactExternalSortUptoRow : OpenClaim := { program := "ytpnbnbhifpcelaa", sum := "53b01f318a7293d7011a5c249dcf12c743e19ec03d4193cfb8d9aeaf901f0071", func := "loop.example/g01920/laws.FnExactExternalSort", spec := "fnExactExternalSort", unfollowed := true, recurses := true, plainKeys := false, apart := false, narrowed := true }
def FnExactExternalSortUptoSaid : Prop := fnExactExternalSortUptoRow.holds Try.pinned (OpenSpec.upto fnExactExternalSortSpec)

end Rows
end Go.Proofs.Ytpnbnbhifpcelaa
