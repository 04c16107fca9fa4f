/-
  No cell of these rows narrows 'for every input' (looked for: loops, veiled, ifaces, maps, wideKeys, modest, calm, conditions, laid).
  DERIVED. THE GIVEN ROWS OF THIS SEAT. 5 by the template 'for every input the law returns true; each argument reads behind the call as it read before'; 0 by the template 'total and deterministic' (their statements: YtlnjgoommpeioaaTotals.lean).
  GIVEN WITH THE SEED: the statements are not yours to turn. If you find one false, say at which input.
  Laid BY PROGRAM, IN A SANDBOX (cutbox-rows.mjs): the forced cells as the released guide's own fill.sh prints them over the translation cc87d395a9f96950… (all of the seat's roots in one cut). By AI agents, Wed Nov 11 2026. No macro, syntax, notation, axiom, sorry.
-/
import Derived.Test.YtlnjgoommpeioaaChecked
import GoSem.Claim
import GoSem.ClaimJoined
import GoSem.ClaimMapViews
import Derived.JoinedTies
import Derived.KernelRfl
namespace Go.Proofs.Ytlnjgoommpeioaa
/- THE CELL 'sum', in the pinned program and in every row, IS THE sha256 OF THE DUMP (.gsa) THAT YtlnjgoommpeioaaProg.lean LOADS. Nothing in Lean hashes anything: it is a label: what it is worth is what the hold of that sum in a sandbox is worth. -/
noncomputable def Try.pinned : Pinned := { name := "ytlnjgoommpeioaa", sum := "cc87d395a9f96950b24adc1ac60e7e160e71781219f0941397cbd3f2e1e60dbd", checked := Try.checked }
namespace Rows
def none {H : Type} : Left H := { results := [], args := [] }

/-- 'laws.FnJoinSymmetry': WHATEVER THE INPUT: true; the input reads as it did. -/
def fnJoinSymmetrySpec : ChangeSpec := { name := "fnJoinSymmetry", fn := fun _ => fun
  | [d] => { results := [.lit (.bool true)], args := [d] }
  | _ => none }
def fnJoinSymmetryRow : OpenClaim := { program := "ytlnjgoommpeioaa", sum := "cc87d395a9f96950b24adc1ac60e7e160e71781219f0941397cbd3f2e1e60dbd", func := "loop.example/g01920/laws.FnJoinSymmetry", spec := "fnJoinSymmetry", unfollowed := true, recurses := true, apart := false }
def FnJoinSymmetrySaid : Prop := fnJoinSymmetryRow.holds Try.pinned (OpenSpec.ofChange fnJoinSymmetrySpec)

/-- ITS FALSE NEIGHBOUR: 'it returns false'. Refute it at one input. -/
def fnJoinSymmetryWrong : ChangeSpec := { name := "fnJoinSymmetry", fn := fun _ => fun
  | [d] => { results := [.lit (.bool false)], args := [d] }
  | _ => none }
def FnJoinSymmetryWrongFalsely : Prop := fnJoinSymmetryRow.holds Try.pinned (OpenSpec.ofChange fnJoinSymmetryWrong)

/-- 'laws.FnExactIsValidJoinKind': WHATEVER THE INPUT: true; the input reads as it did. -/
def fnExactIsValidJoinKindSpec : ChangeSpec := { name := "fnExactIsValidJoinKind", fn := fun _ => fun
  | [d] => { results := [.lit (.bool true)], args := [d] }
  | _ => none }
def fnExactIsValidJoinKindRow : OpenClaim := { program := "ytlnjgoommpeioaa", sum := "cc87d395a9f96950b24adc1ac60e7e160e71781219f0941397cbd3f2e1e60dbd", func := "loop.example/g01920/laws.FnExactIsValidJoinKind", spec := "fnExactIsValidJoinKind", apart := false }
def FnExactIsValidJoinKindSaid : Prop := fnExactIsValidJoinKindRow.holds Try.pinned (OpenSpec.ofChange fnExactIsValidJoinKindSpec)

/-- ITS FALSE NEIGHBOUR: 'it returns false'. Refute it at one input. -/
def fnExactIsValidJoinKindWrong : ChangeSpec := { name := "fnExactIsValidJoinKind", fn := fun _ => fun
  | [d] => { results := [.lit (.bool false)], args := [d] }
  | _ => none }
def FnExactIsValidJoinKindWrongFalsely : Prop := fnExactIsValidJoinKindRow.holds Try.pinned (OpenSpec.ofChange fnExactIsValidJoinKindWrong)

/-- 'laws.FnExactReferenceJoin': WHATEVER THE INPUT: true; the input reads as it did. -/
def fnExactReferenceJoinSpec : ChangeSpec := { name := "fnExactReferenceJoin", fn := fun _ => fun
  | [d1, d2, d3] => { results := [.lit (.bool true)], args := [d1, d2, d3] }
  | _ => none }
def fnExactReferenceJoinRow : OpenClaim := { program := "ytlnjgoommpeioaa", sum := "cc87d395a9f96950b24adc1ac60e7e160e71781219f0941397cbd3f2e1e60dbd", func := "loop.example/g01920/laws.FnExactReferenceJoin", spec := "fnExactReferenceJoin", apart := false }
def FnExactReferenceJoinSaid : Prop := fnExactReferenceJoinRow.holds Try.pinned (OpenSpec.ofChange fnExactReferenceJoinSpec)

/-- ITS FALSE NEIGHBOUR: 'it returns false'. Refute it at one input. -/
def fnExactReferenceJoinWrong : ChangeSpec := { name := "fnExactReferenceJoin", fn := fun _ => fun
  | [d1, d2, d3] => { results := [.lit (.bool false)], args := [d1, d2, d3] }
  | _ => none }
def FnExactReferenceJoinWrongFalsely : Prop := fnExactReferenceJoinRow.holds Try.pinned (OpenSpec.ofChange fnExactReferenceJoinWrong)

/-- 'laws.FnExactComparePairs': WHATEVER THE INPUT: true; the input reads as it did. -/
def fnExactComparePairsSpec : ChangeSpec := { name := "fnExactComparePairs", fn := fun _ => fun
  | [d1, d2] => { results := [.lit (.bool true)], args := [d1, d2] }
  | _ => none }
def fnExactComparePairsRow : OpenClaim := { program := "ytlnjgoommpeioaa", sum := "cc87d395a9f96950b24adc1ac60e7e160e71781219f0941397cbd3f2e1e60dbd", func := "loop.example/g01920/laws.FnExactComparePairs", spec := "fnExactComparePairs", apart := false }
def FnExactComparePairsSaid : Prop := fnExactComparePairsRow.holds Try.pinned (OpenSpec.ofChange fnExactComparePairsSpec)

/-- ITS FALSE NEIGHBOUR: 'it returns false'. Refute it at one input. -/
def fnExactComparePairsWrong : ChangeSpec := { name := "fnExactComparePairs", fn := fun _ => fun
  | [d1, d2] => { results := [.lit (.bool false)], args := [d1, d2] }
  | _ => none }
def FnExactComparePairsWrongFalsely : Prop := fnExactComparePairsRow.holds Try.pinned (OpenSpec.ofChange fnExactComparePairsWrong)

/-- 'laws.FnExactEqualPairBags': WHATEVER THE INPUT: true; the input reads as it did. -/
def fnExactEqualPairBagsSpec : ChangeSpec := { name := "fnExactEqualPairBags", fn := fun _ => fun
  | [d1, d2] => { results := [.lit (.bool true)], args := [d1, d2] }
  | _ => none }
def fnExactEqualPairBagsRow : OpenClaim := { program := "ytlnjgoommpeioaa", sum := "cc87d395a9f96950b24adc1ac60e7e160e71781219f0941397cbd3f2e1e60dbd", func := "loop.example/g01920/laws.FnExactEqualPairBags", spec := "fnExactEqualPairBags", unfollowed := true, recurses := true, apart := false }
def FnExactEqualPairBagsSaid : Prop := fnExactEqualPairBagsRow.holds Try.pinned (OpenSpec.ofChange fnExactEqualPairBagsSpec)

/-- ITS FALSE NEIGHBOUR: 'it returns false'. Refute it at one input. -/
def fnExactEqualPairBagsWrong : ChangeSpec := { name := "fnExactEqualPairBags", fn := fun _ => fun
  | [d1, d2] => { results := [.lit (.bool false)], args := [d1, d2] }
  | _ => none }
def FnExactEqualPairBagsWrongFalsely : Prop := fnExactEqualPairBagsRow.holds Try.pinned (OpenSpec.ofChange fnExactEqualPairBagsWrong)

/- THE SECOND FORM. 'bulk': how many values and letters a reading holds, each counted each time it is reached (what is shared counts as often as it is met; a slice's spare places count too). A statement '..UptoSaid' is the law's where the arguments, and the package variables that the reading takes, are together of bulk at most 1048576: NARROWER than '..Said'. Prove '..Said' where nothing that the law and all that it calls make is longer than what came in: it says more and counts as full. Else prove '..UptoSaid'. A law counts once. -/
mutual
def uptoBulk {H : Type} : DataW H → Nat
  | .lit (.string bytes) => bytes.length + 1
  | .lit _ => 1
  | .nil => 1
  | .ptr d => uptoBulk d + 1
  | .slice elems spare => uptoBulkAll elems + uptoBulkAll spare + 1
  | .agg parts => uptoBulkAll parts + 1
  | .iface _ d => uptoBulk d + 1
  | .map entries => uptoBulkEntries entries + 1
  | .held _ => 1
def uptoBulkAll {H : Type} : List (DataW H) → Nat
  | [] => 0
  | d :: r => uptoBulk d + uptoBulkAll r
def uptoBulkEntries {H : Type} : List (Lit × DataW H) → Nat
  | [] => 0
  | x :: r => uptoBulkEntry x + uptoBulkEntries r
def uptoBulkEntry {H : Type} : Lit × DataW H → Nat
  | (.string bytes, d) => bytes.length + uptoBulk d + 1
  | (_, d) => uptoBulk d + 1
 end
def uptoSmall : (H : Type) → List (DataW H) → Bool := fun _ ds => decide (uptoBulkAll ds ≤ 1048576)
def OpenSpec.upto (s : _root_.Go.ChangeSpec) : _root_.Go.OpenSpec := { _root_.Go.OpenSpec.ofChange s with cond := some uptoSmall }

/-- 'laws.FnJoinSymmetry', WHERE WHAT IT READS IS OF BULK AT MOST 1048576: true; the input reads as it did. -/
def fnJoinSymmetryUptoRow : OpenClaim := { program := "ytlnjgoommpeioaa", sum := "cc87d395a9f96950b24adc1ac60e7e160e71781219f0941397cbd3f2e1e60dbd", func := "loop.example/g01920/laws.FnJoinSymmetry", spec := "fnJoinSymmetry", unfollowed := true, recurses := true, apart := false, narrowed := true }
def FnJoinSymmetryUptoSaid : Prop := fnJoinSymmetryUptoRow.holds Try.pinned (OpenSpec.upto fnJoinSymmetrySpec)

/-- 'laws.FnExactIsValidJoinKind', WHERE WHAT IT READS IS OF BULK AT MOST 1048576: true; the input reads as it did. -/
def fnExactIsValidJoinKindUptoRow : OpenClaim := { program := "ytlnjgoommpeioaa", sum := "cc87d395a9f96950b24adc1ac60e7e160e71781219f0941397cbd3f2e1e60dbd", func := "loop.example/g01920/laws.FnExactIsValidJoinKind", spec := "fnExactIsValidJoinKind", apart := false, narrowed := true }
def FnExactIsValidJoinKindUptoSaid : Prop := fnExactIsValidJoinKindUptoRow.holds Try.pinned (OpenSpec.upto fnExactIsValidJoinKindSpec)

/-- 'laws.FnExactReferenceJoin', WHERE WHAT IT READS IS OF BULK AT MOST 1048576: true; the input reads as it did. -/
def fnExactReferenceJoinUptoRow : OpenClaim := { program := "ytlnjgoommpeioaa", sum := "cc87d395a9f96950b24adc1ac60e7e160e71781219f0941397cbd3f2e1e60dbd", func := "loop.example/g01920/laws.FnExactReferenceJoin", spec := "fnExactReferenceJoin", apart := false, narrowed := true }
def FnExactReferenceJoinUptoSaid : Prop := fnExactReferenceJoinUptoRow.holds Try.pinned (OpenSpec.upto fnExactReferenceJoinSpec)

/-- 'laws.FnExactComparePairs', WHERE WHAT IT READS IS OF BULK AT MOST 1048576: true; the input reads as it did. -/
def fnExactComparePairsUptoRow : OpenClaim := { program := "ytlnjgoommpeioaa", sum := "cc87d395a9f96950b24adc1ac60e7e160e71781219f0941397cbd3f2e1e60dbd", func := "loop.example/g01920/laws.FnExactComparePairs", spec := "fnExactComparePairs", apart := false, narrowed := true }
def FnExactComparePairsUptoSaid : Prop := fnExactComparePairsUptoRow.holds Try.pinned (OpenSpec.upto fnExactComparePairsSpec)

/-- 'laws.FnExactEqualPairBags', WHERE WHAT IT READS IS OF BULK AT MOST 1048576: true; the input reads as it did. -/
def fnExactEqualPairBagsUptoRow : OpenClaim := { program := "ytlnjgoommpeioaa", sum := "cc87d395a9f96950b24adc1ac60e7e160e71781219f0941397cbd3f2e1e60dbd", func := "loop.example/g01920/laws.FnExactEqualPairBags", spec := "fnExactEqualPairBags", unfollowed := true, recurses := true, apart := false, narrowed := true }
def FnExactEqualPairBagsUptoSaid : Prop := fnExactEqualPairBagsUptoRow.holds Try.pinned (OpenSpec.upto fnExactEqualPairBagsSpec)

end Rows
end Go.Proofs.Ytlnjgoommpeioaa
