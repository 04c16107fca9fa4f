/-
  No cell of these rows narrows 'for every input' (looked for: loops, veiled, ifaces, maps, wideKeys, modest, calm, conditions, laid).
  DERIVED. THE GIVEN ROWS OF THIS SEAT. 4 by the template 'for every input the law returns true; each argument reads behind the call as it read before'; 0 by the template 'total and deterministic' (their statements: YtjeiclijiihnpaaTotals.lean).
  GIVEN WITH THE SEED: the statements are not yours to turn. If you find one false, say at which input.
  Laid BY PROGRAM, IN A SANDBOX (cutbox-rows.mjs): the forced cells as the released guide's own fill.sh prints them over the translation a990bca8b239813e… (all of the seat's roots in one cut). By AI agents, Wed Nov 11 2026. No macro, syntax, notation, axiom, sorry.
-/
import Derived.Test.YtjeiclijiihnpaaChecked
import GoSem.Claim
import GoSem.ClaimJoined
import GoSem.ClaimMapViews
import Derived.JoinedTies
import Derived.KernelRfl
namespace Go.Proofs.Ytjeiclijiihnpaa
/- THE CELL 'sum', in the pinned program and in every row, IS THE sha256 OF THE DUMP (.gsa) THAT YtjeiclijiihnpaaProg.lean LOADS. Nothing in Lean hashes anything: it is a label: what it is worth is what the hold of that sum in a sandbox is worth. -/
noncomputable def Try.pinned : Pinned := { name := "ytjeiclijiihnpaa", sum := "a990bca8b239813e97838c3df8d2647b5e148193812824adf08d12a40002d6e6", checked := Try.checked }
namespace Rows
def none {H : Type} : Left H := { results := [], args := [] }

/-- 'laws.FnExactBuildRuns': WHATEVER THE INPUT: true; the input reads as it did. -/
def fnExactBuildRunsSpec : ChangeSpec := { name := "fnExactBuildRuns", fn := fun _ => fun
  | [d1, d2] => { results := [.lit (.bool true)], args := [d1, d2] }
  | _ => none }
def fnExactBuildRunsRow : OpenClaim := { program := "ytjeiclijiihnpaa", sum := "a990bca8b239813e97838c3df8d2647b5e148193812824adf08d12a40002d6e6", func := "loop.example/g01920/laws.FnExactBuildRuns", spec := "fnExactBuildRuns", apart := false }
def FnExactBuildRunsSaid : Prop := fnExactBuildRunsRow.holds Try.pinned (OpenSpec.ofChange fnExactBuildRunsSpec)

/-- ITS FALSE NEIGHBOUR: 'it returns false'. Refute it at one input. -/
def fnExactBuildRunsWrong : ChangeSpec := { name := "fnExactBuildRuns", fn := fun _ => fun
  | [d1, d2] => { results := [.lit (.bool false)], args := [d1, d2] }
  | _ => none }
def FnExactBuildRunsWrongFalsely : Prop := fnExactBuildRunsRow.holds Try.pinned (OpenSpec.ofChange fnExactBuildRunsWrong)

/-- 'laws.FnExactAreValidRuns': WHATEVER THE INPUT: true; the input reads as it did. -/
def fnExactAreValidRunsSpec : ChangeSpec := { name := "fnExactAreValidRuns", fn := fun _ => fun
  | [d] => { results := [.lit (.bool true)], args := [d] }
  | _ => none }
def fnExactAreValidRunsRow : OpenClaim := { program := "ytjeiclijiihnpaa", sum := "a990bca8b239813e97838c3df8d2647b5e148193812824adf08d12a40002d6e6", func := "loop.example/g01920/laws.FnExactAreValidRuns", spec := "fnExactAreValidRuns", unfollowed := true, recurses := true, apart := false }
def FnExactAreValidRunsSaid : Prop := fnExactAreValidRunsRow.holds Try.pinned (OpenSpec.ofChange fnExactAreValidRunsSpec)

/-- ITS FALSE NEIGHBOUR: 'it returns false'. Refute it at one input. -/
def fnExactAreValidRunsWrong : ChangeSpec := { name := "fnExactAreValidRuns", fn := fun _ => fun
  | [d] => { results := [.lit (.bool false)], args := [d] }
  | _ => none }
def FnExactAreValidRunsWrongFalsely : Prop := fnExactAreValidRunsRow.holds Try.pinned (OpenSpec.ofChange fnExactAreValidRunsWrong)

/-- 'laws.FnExactFlattenRuns': WHATEVER THE INPUT: true; the input reads as it did. -/
def fnExactFlattenRunsSpec : ChangeSpec := { name := "fnExactFlattenRuns", fn := fun _ => fun
  | [d] => { results := [.lit (.bool true)], args := [d] }
  | _ => none }
def fnExactFlattenRunsRow : OpenClaim := { program := "ytjeiclijiihnpaa", sum := "a990bca8b239813e97838c3df8d2647b5e148193812824adf08d12a40002d6e6", func := "loop.example/g01920/laws.FnExactFlattenRuns", spec := "fnExactFlattenRuns", apart := false }
def FnExactFlattenRunsSaid : Prop := fnExactFlattenRunsRow.holds Try.pinned (OpenSpec.ofChange fnExactFlattenRunsSpec)

/-- ITS FALSE NEIGHBOUR: 'it returns false'. Refute it at one input. -/
def fnExactFlattenRunsWrong : ChangeSpec := { name := "fnExactFlattenRuns", fn := fun _ => fun
  | [d] => { results := [.lit (.bool false)], args := [d] }
  | _ => none }
def FnExactFlattenRunsWrongFalsely : Prop := fnExactFlattenRunsRow.holds Try.pinned (OpenSpec.ofChange fnExactFlattenRunsWrong)

/-- 'laws.FnExactIndexOfMin': WHATEVER THE INPUT: true; the input reads as it did. -/
def fnExactIndexOfMinSpec : ChangeSpec := { name := "fnExactIndexOfMin", fn := fun _ => fun
  | [d] => { results := [.lit (.bool true)], args := [d] }
  | _ => none }
def fnExactIndexOfMinRow : OpenClaim := { program := "ytjeiclijiihnpaa", sum := "a990bca8b239813e97838c3df8d2647b5e148193812824adf08d12a40002d6e6", func := "loop.example/g01920/laws.FnExactIndexOfMin", spec := "fnExactIndexOfMin", apart := false }
def FnExactIndexOfMinSaid : Prop := fnExactIndexOfMinRow.holds Try.pinned (OpenSpec.ofChange fnExactIndexOfMinSpec)

/-- ITS FALSE NEIGHBOUR: 'it returns false'. Refute it at one input. -/
def fnExactIndexOfMinWrong : ChangeSpec := { name := "fnExactIndexOfMin", fn := fun _ => fun
  | [d] => { results := [.lit (.bool false)], args := [d] }
  | _ => none }
def FnExactIndexOfMinWrongFalsely : Prop := fnExactIndexOfMinRow.holds Try.pinned (OpenSpec.ofChange fnExactIndexOfMinWrong)

/- THE SECOND FORM. 'bulk': how many values and letters a reading holds, each counted each time it is reached (what is shared counts as often as it is met; a slice's spare places count too). A statement '..UptoSaid' is the law's where the arguments, and the package variables that the reading takes, are together of bulk at most 1048576: NARROWER than '..Said'. Prove '..Said' where nothing that the law and all that it calls make is longer than what came in: it says more and counts as full. Else prove '..UptoSaid'. A law counts once. -/
mutual
def uptoBulk {H : Type} : DataW H → Nat
  | .lit (.string bytes) => bytes.length + 1
  | .lit _ => 1
  | .nil => 1
  | .ptr d => uptoBulk d + 1
  | .slice elems spare => uptoBulkAll elems + uptoBulkAll spare + 1
  | .agg parts => uptoBulkAll parts + 1
  | .iface _ d => uptoBulk d + 1
  | .map entries => uptoBulkEntries entries + 1
  | .held _ => 1
def uptoBulkAll {H : Type} : List (DataW H) → Nat
  | [] => 0
  | d :: r => uptoBulk d + uptoBulkAll r
def uptoBulkEntries {H : Type} : List (Lit × DataW H) → Nat
  | [] => 0
  | x :: r => uptoBulkEntry x + uptoBulkEntries r
def uptoBulkEntry {H : Type} : Lit × DataW H → Nat
  | (.string bytes, d) => bytes.length + uptoBulk d + 1
  | (_, d) => uptoBulk d + 1
 end
def uptoSmall : (H : Type) → List (DataW H) → Bool := fun _ ds => decide (uptoBulkAll ds ≤ 1048576)
def OpenSpec.upto (s : _root_.Go.ChangeSpec) : _root_.Go.OpenSpec := { _root_.Go.OpenSpec.ofChange s with cond := some uptoSmall }

/-- 'laws.FnExactBuildRuns', WHERE WHAT IT READS IS OF BULK AT MOST 1048576: true; the input reads as it did. -/
def fnExactBuildRunsUptoRow : OpenClaim := { program := "ytjeiclijiihnpaa", sum := "a990bca8b239813e97838c3df8d2647b5e148193812824adf08d12a40002d6e6", func := "loop.example/g01920/laws.FnExactBuildRuns", spec := "fnExactBuildRuns", apart := false, narrowed := true }
def FnExactBuildRunsUptoSaid : Prop := fnExactBuildRunsUptoRow.holds Try.pinned (OpenSpec.upto fnExactBuildRunsSpec)

/-- 'laws.FnExactAreValidRuns', WHERE WHAT IT READS IS OF BULK AT MOST 1048576: true; the input reads as it did. -/
def fnExactAreValidRunsUptoRow : OpenClaim := { program := "ytjeiclijiihnpaa", sum := "a990bca8b239813e97838c3df8d2647b5e148193812824adf08d12a40002d6e6", func := "loop.example/g01920/laws.FnExactAreValidRuns", spec := "fnExactAreValidRuns", unfollowed := true, recurses := true, apart := false, narrowed := true }
def FnExactAreValidRunsUptoSaid : Prop := fnExactAreValidRunsUptoRow.holds Try.pinned (OpenSpec.upto fnExactAreValidRunsSpec)

/-- 'laws.FnExactFlattenRuns', WHERE WHAT IT READS IS OF BULK AT MOST 1048576: true; the input reads as it did. -/
def fnExactFlattenRunsUptoRow : OpenClaim := { program := "ytjeiclijiihnpaa", sum := "a990bca8b239813e97838c3df8d2647b5e148193812824adf08d12a40002d6e6", func := "loop.example/g01920/laws.FnExactFlattenRuns", spec := "fnExactFlattenRuns", apart := false, narrowed := true }
def FnExactFlattenRunsUptoSaid : Prop := fnExactFlattenRunsUptoRow.holds Try.pinned (OpenSpec.upto fnExactFlattenRunsSpec)

/-- 'laws.FnExactIndexOfMin', WHERE WHAT IT READS IS OF BULK AT MOST 1048576: true; the input reads as it did. -/
def fnExactIndexOfMinUptoRow : OpenClaim := { program := "ytjeiclijiihnpaa", sum := "a990bca8b239813e97838c3df8d2647b5e148193812824adf08d12a40002d6e6", func := "loop.example/g01920/laws.FnExactIndexOfMin", spec := "fnExactIndexOfMin", apart := false, narrowed := true }
def FnExactIndexOfMinUptoSaid : Prop := fnExactIndexOfMinUptoRow.holds Try.pinned (OpenSpec.upto fnExactIndexOfMinSpec)

end Rows
end Go.Proofs.Ytjeiclijiihnpaa
