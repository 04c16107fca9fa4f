/-
  No cell of these rows narrows 'for every input' (looked for: loops, veiled, ifaces, maps, wideKeys, modest, calm, conditions, laid).
  DERIVED. THE GIVEN ROWS OF THIS SEAT. 11 by the template 'for every input the law returns true; each argument reads behind the call as it read before'; 0 by the template 'total and deterministic' (their statements: YtfghhjcfmmhacaaTotals.lean).
  GIVEN WITH THE SEED: the statements are not yours to turn. If you find one false, say at which input.
  Laid BY PROGRAM, IN A SANDBOX (cutbox-rows.mjs): the forced cells as the released guide's own fill.sh prints them over the translation d37b7e1742439f17… (all of the seat's roots in one cut). By AI agents, Wed Nov 11 2026. No macro, syntax, notation, axiom, sorry.
-/
import Derived.Test.YtfghhjcfmmhacaaChecked
import GoSem.Claim
import GoSem.ClaimJoined
import GoSem.ClaimMapViews
import Derived.JoinedTies
import Derived.KernelRfl
namespace Go.Proofs.Ytfghhjcfmmhacaa
/- THE CELL 'sum', in the pinned program and in every row, IS THE sha256 OF THE DUMP (.gsa) THAT YtfghhjcfmmhacaaProg.lean LOADS. Nothing in Lean hashes anything: it is a label: what it is worth is what the hold of that sum in a sandbox is worth. -/
noncomputable def Try.pinned : Pinned := { name := "ytfghhjcfmmhacaa", sum := "d37b7e1742439f1780a134ad6b0b6459b665e5b428aa74d783517b6bc0e34ec5", checked := Try.checked }
namespace Rows
def none {H : Type} : Left H := { results := [], args := [] }

/-- 'laws.FnGrantAllocation': WHATEVER THE INPUT: true; the input reads as it did. -/
def fnGrantAllocationSpec : ChangeSpec := { name := "fnGrantAllocation", fn := fun _ => fun
  | [d] => { results := [.lit (.bool true)], args := [d] }
  | _ => none }
def fnGrantAllocationRow : OpenClaim := { program := "ytfghhjcfmmhacaa", sum := "d37b7e1742439f1780a134ad6b0b6459b665e5b428aa74d783517b6bc0e34ec5", func := "loop.example/g01920/laws.FnGrantAllocation", spec := "fnGrantAllocation", unfollowed := true, recurses := true, apart := false }
def FnGrantAllocationSaid : Prop := fnGrantAllocationRow.holds Try.pinned (OpenSpec.ofChange fnGrantAllocationSpec)

/-- ITS FALSE NEIGHBOUR: 'it returns false'. Refute it at one input. -/
def fnGrantAllocationWrong : ChangeSpec := { name := "fnGrantAllocation", fn := fun _ => fun
  | [d] => { results := [.lit (.bool false)], args := [d] }
  | _ => none }
def FnGrantAllocationWrongFalsely : Prop := fnGrantAllocationRow.holds Try.pinned (OpenSpec.ofChange fnGrantAllocationWrong)

/-- 'laws.FnClientAdmission': WHATEVER THE INPUT: true; the input reads as it did. -/
def fnClientAdmissionSpec : ChangeSpec := { name := "fnClientAdmission", fn := fun _ => fun
  | [d] => { results := [.lit (.bool true)], args := [d] }
  | _ => none }
def fnClientAdmissionRow : OpenClaim := { program := "ytfghhjcfmmhacaa", sum := "d37b7e1742439f1780a134ad6b0b6459b665e5b428aa74d783517b6bc0e34ec5", func := "loop.example/g01920/laws.FnClientAdmission", spec := "fnClientAdmission", inPlace := ["slices.overlaps[loop.example/g01920/impl.Client]"], unfollowed := true, recurses := true, apart := false }
def FnClientAdmissionSaid : Prop := fnClientAdmissionRow.holds Try.pinned (OpenSpec.ofChange fnClientAdmissionSpec)

/-- ITS FALSE NEIGHBOUR: 'it returns false'. Refute it at one input. -/
def fnClientAdmissionWrong : ChangeSpec := { name := "fnClientAdmission", fn := fun _ => fun
  | [d] => { results := [.lit (.bool false)], args := [d] }
  | _ => none }
def FnClientAdmissionWrongFalsely : Prop := fnClientAdmissionRow.holds Try.pinned (OpenSpec.ofChange fnClientAdmissionWrong)

/-- 'laws.FnBrokerLiveness': WHATEVER THE INPUT: true; the input reads as it did. -/
def fnBrokerLivenessSpec : ChangeSpec := { name := "fnBrokerLiveness", fn := fun _ => fun
  | [d] => { results := [.lit (.bool true)], args := [d] }
  | _ => none }
def fnBrokerLivenessRow : OpenClaim := { program := "ytfghhjcfmmhacaa", sum := "d37b7e1742439f1780a134ad6b0b6459b665e5b428aa74d783517b6bc0e34ec5", func := "loop.example/g01920/laws.FnBrokerLiveness", spec := "fnBrokerLiveness", inPlace := ["slices.overlaps[loop.example/g01920/impl.Client]"], unfollowed := true, recurses := true, apart := false }
def FnBrokerLivenessSaid : Prop := fnBrokerLivenessRow.holds Try.pinned (OpenSpec.ofChange fnBrokerLivenessSpec)

/-- ITS FALSE NEIGHBOUR: 'it returns false'. Refute it at one input. -/
def fnBrokerLivenessWrong : ChangeSpec := { name := "fnBrokerLiveness", fn := fun _ => fun
  | [d] => { results := [.lit (.bool false)], args := [d] }
  | _ => none }
def FnBrokerLivenessWrongFalsely : Prop := fnBrokerLivenessRow.holds Try.pinned (OpenSpec.ofChange fnBrokerLivenessWrong)

/-- 'laws.FnExactNewBroker': WHATEVER THE INPUT: true; the input reads as it did. -/
def fnExactNewBrokerSpec : ChangeSpec := { name := "fnExactNewBroker", fn := fun _ => fun
  | [d] => { results := [.lit (.bool true)], args := [d] }
  | _ => none }
def fnExactNewBrokerRow : OpenClaim := { program := "ytfghhjcfmmhacaa", sum := "d37b7e1742439f1780a134ad6b0b6459b665e5b428aa74d783517b6bc0e34ec5", func := "loop.example/g01920/laws.FnExactNewBroker", spec := "fnExactNewBroker", apart := false }
def FnExactNewBrokerSaid : Prop := fnExactNewBrokerRow.holds Try.pinned (OpenSpec.ofChange fnExactNewBrokerSpec)

/-- ITS FALSE NEIGHBOUR: 'it returns false'. Refute it at one input. -/
def fnExactNewBrokerWrong : ChangeSpec := { name := "fnExactNewBroker", fn := fun _ => fun
  | [d] => { results := [.lit (.bool false)], args := [d] }
  | _ => none }
def FnExactNewBrokerWrongFalsely : Prop := fnExactNewBrokerRow.holds Try.pinned (OpenSpec.ofChange fnExactNewBrokerWrong)

/-- 'laws.FnExactIsValidBroker': WHATEVER THE INPUT: true; the input reads as it did. -/
def fnExactIsValidBrokerSpec : ChangeSpec := { name := "fnExactIsValidBroker", fn := fun _ => fun
  | [d] => { results := [.lit (.bool true)], args := [d] }
  | _ => none }
def fnExactIsValidBrokerRow : OpenClaim := { program := "ytfghhjcfmmhacaa", sum := "d37b7e1742439f1780a134ad6b0b6459b665e5b428aa74d783517b6bc0e34ec5", func := "loop.example/g01920/laws.FnExactIsValidBroker", spec := "fnExactIsValidBroker", unfollowed := true, recurses := true, apart := false }
def FnExactIsValidBrokerSaid : Prop := fnExactIsValidBrokerRow.holds Try.pinned (OpenSpec.ofChange fnExactIsValidBrokerSpec)

/-- ITS FALSE NEIGHBOUR: 'it returns false'. Refute it at one input. -/
def fnExactIsValidBrokerWrong : ChangeSpec := { name := "fnExactIsValidBroker", fn := fun _ => fun
  | [d] => { results := [.lit (.bool false)], args := [d] }
  | _ => none }
def FnExactIsValidBrokerWrongFalsely : Prop := fnExactIsValidBrokerRow.holds Try.pinned (OpenSpec.ofChange fnExactIsValidBrokerWrong)

/-- 'laws.FnExactAddClient': WHATEVER THE INPUT: true; the input reads as it did. -/
def fnExactAddClientSpec : ChangeSpec := { name := "fnExactAddClient", fn := fun _ => fun
  | [d1, d2, d3] => { results := [.lit (.bool true)], args := [d1, d2, d3] }
  | _ => none }
def fnExactAddClientRow : OpenClaim := { program := "ytfghhjcfmmhacaa", sum := "d37b7e1742439f1780a134ad6b0b6459b665e5b428aa74d783517b6bc0e34ec5", func := "loop.example/g01920/laws.FnExactAddClient", spec := "fnExactAddClient", unfollowed := true, recurses := true, apart := false }
def FnExactAddClientSaid : Prop := fnExactAddClientRow.holds Try.pinned (OpenSpec.ofChange fnExactAddClientSpec)

/-- ITS FALSE NEIGHBOUR: 'it returns false'. Refute it at one input. -/
def fnExactAddClientWrong : ChangeSpec := { name := "fnExactAddClient", fn := fun _ => fun
  | [d1, d2, d3] => { results := [.lit (.bool false)], args := [d1, d2, d3] }
  | _ => none }
def FnExactAddClientWrongFalsely : Prop := fnExactAddClientRow.holds Try.pinned (OpenSpec.ofChange fnExactAddClientWrong)

/-- 'laws.FnExactRemoveClient': WHATEVER THE INPUT: true; the input reads as it did. -/
def fnExactRemoveClientSpec : ChangeSpec := { name := "fnExactRemoveClient", fn := fun _ => fun
  | [d1, d2] => { results := [.lit (.bool true)], args := [d1, d2] }
  | _ => none }
def fnExactRemoveClientRow : OpenClaim := { program := "ytfghhjcfmmhacaa", sum := "d37b7e1742439f1780a134ad6b0b6459b665e5b428aa74d783517b6bc0e34ec5", func := "loop.example/g01920/laws.FnExactRemoveClient", spec := "fnExactRemoveClient", inPlace := ["slices.overlaps[loop.example/g01920/impl.Client]"], unfollowed := true, recurses := true, apart := false }
def FnExactRemoveClientSaid : Prop := fnExactRemoveClientRow.holds Try.pinned (OpenSpec.ofChange fnExactRemoveClientSpec)

/-- ITS FALSE NEIGHBOUR: 'it returns false'. Refute it at one input. -/
def fnExactRemoveClientWrong : ChangeSpec := { name := "fnExactRemoveClient", fn := fun _ => fun
  | [d1, d2] => { results := [.lit (.bool false)], args := [d1, d2] }
  | _ => none }
def FnExactRemoveClientWrongFalsely : Prop := fnExactRemoveClientRow.holds Try.pinned (OpenSpec.ofChange fnExactRemoveClientWrong)

/-- 'laws.FnExactSetRequest': WHATEVER THE INPUT: true; the input reads as it did. -/
def fnExactSetRequestSpec : ChangeSpec := { name := "fnExactSetRequest", fn := fun _ => fun
  | [d1, d2, d3] => { results := [.lit (.bool true)], args := [d1, d2, d3] }
  | _ => none }
def fnExactSetRequestRow : OpenClaim := { program := "ytfghhjcfmmhacaa", sum := "d37b7e1742439f1780a134ad6b0b6459b665e5b428aa74d783517b6bc0e34ec5", func := "loop.example/g01920/laws.FnExactSetRequest", spec := "fnExactSetRequest", unfollowed := true, recurses := true, apart := false }
def FnExactSetRequestSaid : Prop := fnExactSetRequestRow.holds Try.pinned (OpenSpec.ofChange fnExactSetRequestSpec)

/-- ITS FALSE NEIGHBOUR: 'it returns false'. Refute it at one input. -/
def fnExactSetRequestWrong : ChangeSpec := { name := "fnExactSetRequest", fn := fun _ => fun
  | [d1, d2, d3] => { results := [.lit (.bool false)], args := [d1, d2, d3] }
  | _ => none }
def FnExactSetRequestWrongFalsely : Prop := fnExactSetRequestRow.holds Try.pinned (OpenSpec.ofChange fnExactSetRequestWrong)

/-- 'laws.FnExactComputeGrants': WHATEVER THE INPUT: true; the input reads as it did. -/
def fnExactComputeGrantsSpec : ChangeSpec := { name := "fnExactComputeGrants", fn := fun _ => fun
  | [d] => { results := [.lit (.bool true)], args := [d] }
  | _ => none }
def fnExactComputeGrantsRow : OpenClaim := { program := "ytfghhjcfmmhacaa", sum := "d37b7e1742439f1780a134ad6b0b6459b665e5b428aa74d783517b6bc0e34ec5", func := "loop.example/g01920/laws.FnExactComputeGrants", spec := "fnExactComputeGrants", unfollowed := true, recurses := true, apart := false }
def FnExactComputeGrantsSaid : Prop := fnExactComputeGrantsRow.holds Try.pinned (OpenSpec.ofChange fnExactComputeGrantsSpec)

/-- ITS FALSE NEIGHBOUR: 'it returns false'. Refute it at one input. -/
def fnExactComputeGrantsWrong : ChangeSpec := { name := "fnExactComputeGrants", fn := fun _ => fun
  | [d] => { results := [.lit (.bool false)], args := [d] }
  | _ => none }
def FnExactComputeGrantsWrongFalsely : Prop := fnExactComputeGrantsRow.holds Try.pinned (OpenSpec.ofChange fnExactComputeGrantsWrong)

/-- 'laws.FnExactGrantFor': WHATEVER THE INPUT: true; the input reads as it did. -/
def fnExactGrantForSpec : ChangeSpec := { name := "fnExactGrantFor", fn := fun _ => fun
  | [d1, d2] => { results := [.lit (.bool true)], args := [d1, d2] }
  | _ => none }
def fnExactGrantForRow : OpenClaim := { program := "ytfghhjcfmmhacaa", sum := "d37b7e1742439f1780a134ad6b0b6459b665e5b428aa74d783517b6bc0e34ec5", func := "loop.example/g01920/laws.FnExactGrantFor", spec := "fnExactGrantFor", unfollowed := true, recurses := true, apart := false }
def FnExactGrantForSaid : Prop := fnExactGrantForRow.holds Try.pinned (OpenSpec.ofChange fnExactGrantForSpec)

/-- ITS FALSE NEIGHBOUR: 'it returns false'. Refute it at one input. -/
def fnExactGrantForWrong : ChangeSpec := { name := "fnExactGrantFor", fn := fun _ => fun
  | [d1, d2] => { results := [.lit (.bool false)], args := [d1, d2] }
  | _ => none }
def FnExactGrantForWrongFalsely : Prop := fnExactGrantForRow.holds Try.pinned (OpenSpec.ofChange fnExactGrantForWrong)

/-- 'laws.FnExactEqualBrokers': WHATEVER THE INPUT: true; the input reads as it did. -/
def fnExactEqualBrokersSpec : ChangeSpec := { name := "fnExactEqualBrokers", fn := fun _ => fun
  | [d1, d2] => { results := [.lit (.bool true)], args := [d1, d2] }
  | _ => none }
def fnExactEqualBrokersRow : OpenClaim := { program := "ytfghhjcfmmhacaa", sum := "d37b7e1742439f1780a134ad6b0b6459b665e5b428aa74d783517b6bc0e34ec5", func := "loop.example/g01920/laws.FnExactEqualBrokers", spec := "fnExactEqualBrokers", apart := false }
def FnExactEqualBrokersSaid : Prop := fnExactEqualBrokersRow.holds Try.pinned (OpenSpec.ofChange fnExactEqualBrokersSpec)

/-- ITS FALSE NEIGHBOUR: 'it returns false'. Refute it at one input. -/
def fnExactEqualBrokersWrong : ChangeSpec := { name := "fnExactEqualBrokers", fn := fun _ => fun
  | [d1, d2] => { results := [.lit (.bool false)], args := [d1, d2] }
  | _ => none }
def FnExactEqualBrokersWrongFalsely : Prop := fnExactEqualBrokersRow.holds Try.pinned (OpenSpec.ofChange fnExactEqualBrokersWrong)

/- THE SECOND FORM. 'bulk': how many values and letters a reading holds, each counted each time it is reached (what is shared counts as often as it is met; a slice's spare places count too). A statement '..UptoSaid' is the law's where the arguments, and the package variables that the reading takes, are together of bulk at most 1048576: NARROWER than '..Said'. Prove '..Said' where nothing that the law and all that it calls make is longer than what came in: it says more and counts as full. Else prove '..UptoSaid'. A law counts once. -/
mutual
def uptoBulk {H : Type} : DataW H → Nat
  | .lit (.string bytes) => bytes.length + 1
  | .lit _ => 1
  | .nil => 1
  | .ptr d => uptoBulk d + 1
  | .slice elems spare => uptoBulkAll elems + uptoBulkAll spare + 1
  | .agg parts => uptoBulkAll parts + 1
  | .iface _ d => uptoBulk d + 1
  | .map entries => uptoBulkEntries entries + 1
  | .held _ => 1
def uptoBulkAll {H : Type} : List (DataW H) → Nat
  | [] => 0
  | d :: r => uptoBulk d + uptoBulkAll r
def uptoBulkEntries {H : Type} : List (Lit × DataW H) → Nat
  | [] => 0
  | x :: r => uptoBulkEntry x + uptoBulkEntries r
def uptoBulkEntry {H : Type} : Lit × DataW H → Nat
  | (.string bytes, d) => bytes.length + uptoBulk d + 1
  | (_, d) => uptoBulk d + 1
 end
def uptoSmall : (H : Type) → List (DataW H) → Bool := fun _ ds => decide (uptoBulkAll ds ≤ 1048576)
def OpenSpec.upto (s : _root_.Go.ChangeSpec) : _root_.Go.OpenSpec := { _root_.Go.OpenSpec.ofChange s with cond := some uptoSmall }

/-- 'laws.FnGrantAllocation', WHERE WHAT IT READS IS OF BULK AT MOST 1048576: true; the input reads as it did. -/
def fnGrantAllocationUptoRow : OpenClaim := { program := "ytfghhjcfmmhacaa", sum := "d37b7e1742439f1780a134ad6b0b6459b665e5b428aa74d783517b6bc0e34ec5", func := "loop.example/g01920/laws.FnGrantAllocation", spec := "fnGrantAllocation", unfollowed := true, recurses := true, apart := false, narrowed := true }
def FnGrantAllocationUptoSaid : Prop := fnGrantAllocationUptoRow.holds Try.pinned (OpenSpec.upto fnGrantAllocationSpec)

/-- 'laws.FnClientAdmission', WHERE WHAT IT READS IS OF BULK AT MOST 1048576: true; the input reads as it did. -/
def fnClientAdmissionUptoRow : OpenClaim := { program := "ytfghhjcfmmhacaa", sum := "d37b7e1742439f1780a134ad6b0b6459b665e5b428aa74d783517b6bc0e34ec5", func := "loop.example/g01920/laws.FnClientAdmission", spec := "fnClientAdmission", inPlace := ["slices.overlaps[loop.example/g01920/impl.Client]"], unfollowed := true, recurses := true, apart := false, narrowed := true }
def FnClientAdmissionUptoSaid : Prop := fnClientAdmissionUptoRow.holds Try.pinned (OpenSpec.upto fnClientAdmissionSpec)

/-- 'laws.FnBrokerLiveness', WHERE WHAT IT READS IS OF BULK AT MOST 1048576: true; the input reads as it did. -/
def fnBrokerLivenessUptoRow : OpenClaim := { program := "ytfghhjcfmmhacaa", sum := "d37b7e1742439f1780a134ad6b0b6459b665e5b428aa74d783517b6bc0e34ec5", func := "loop.example/g01920/laws.FnBrokerLiveness", spec := "fnBrokerLiveness", inPlace := ["slices.overlaps[loop.example/g01920/impl.Client]"], unfollowed := true, recurses := true, apart := false, narrowed := true }
def FnBrokerLivenessUptoSaid : Prop := fnBrokerLivenessUptoRow.holds Try.pinned (OpenSpec.upto fnBrokerLivenessSpec)

/-- 'laws.FnExactNewBroker', WHERE WHAT IT READS IS OF BULK AT MOST 1048576: true; the input reads as it did. -/
def fnExactNewBrokerUptoRow : OpenClaim := { program := "ytfghhjcfmmhacaa", sum := "d37b7e1742439f1780a134ad6b0b6459b665e5b428aa74d783517b6bc0e34ec5", func := "loop.example/g01920/laws.FnExactNewBroker", spec := "fnExactNewBroker", apart := false, narrowed := true }
def FnExactNewBrokerUptoSaid : Prop := fnExactNewBrokerUptoRow.holds Try.pinned (OpenSpec.upto fnExactNewBrokerSpec)

/-- 'laws.FnExactIsValidBroker', WHERE WHAT IT READS IS OF BULK AT MOST 1048576: true; the input reads as it did. -/
def fnExactIsValidBrokerUptoRow : OpenClaim := { program := "ytfghhjcfmmhacaa", sum := "d37b7e1742439f1780a134ad6b0b6459b665e5b428aa74d783517b6bc0e34ec5", func := "loop.example/g01920/laws.FnExactIsValidBroker", spec := "fnExactIsValidBroker", unfollowed := true, recurses := true, apart := false, narrowed := true }
def FnExactIsValidBrokerUptoSaid : Prop := fnExactIsValidBrokerUptoRow.holds Try.pinned (OpenSpec.upto fnExactIsValidBrokerSpec)

/-- 'laws.FnExactAddClient', WHERE WHAT IT READS IS OF BULK AT MOST 1048576: true; the input reads as it did. -/
def fnExactAddClientUptoRow : OpenClaim := { program := "ytfghhjcfmmhacaa", sum := "d37b7e1742439f1780a134ad6b0b6459b665e5b428aa74d783517b6bc0e34ec5", func := "loop.example/g01920/laws.FnExactAddClient", spec := "fnExactAddClient", unfollowed := true, recurses := true, apart := false, narrowed := true }
def FnExactAddClientUptoSaid : Prop := fnExactAddClientUptoRow.holds Try.pinned (OpenSpec.upto fnExactAddClientSpec)

/-- 'laws.FnExactRemoveClient', WHERE WHAT IT READS IS OF BULK AT MOST 1048576: true; the input reads as it did. -/
def fnExactRemoveClientUptoRow : OpenClaim := { program := "ytfghhjcfmmhacaa", sum := "d37b7e1742439f1780a134ad6b0b6459b665e5b428aa74d783517b6bc0e34ec5", func := "loop.example/g01920/laws.FnExactRemoveClient", spec := "fnExactRemoveClient", inPlace := ["slices.overlaps[loop.example/g01920/impl.Client]"], unfollowed := true, recurses := true, apart := false, narrowed := true }
def FnExactRemoveClientUptoSaid : Prop := fnExactRemoveClientUptoRow.holds Try.pinned (OpenSpec.upto fnExactRemoveClientSpec)

/-- 'laws.FnExactSetRequest', WHERE WHAT IT READS IS OF BULK AT MOST 1048576: true; the input reads as it did. -/
def fnExactSetRequestUptoRow : OpenClaim := { program := "ytfghhjcfmmhacaa", sum := "d37b7e1742439f1780a134ad6b0b6459b665e5b428aa74d783517b6bc0e34ec5", func := "loop.example/g01920/laws.FnExactSetRequest", spec := "fnExactSetRequest", unfollowed := true, recurses := true, apart := false, narrowed := true }
def FnExactSetRequestUptoSaid : Prop := fnExactSetRequestUptoRow.holds Try.pinned (OpenSpec.upto fnExactSetRequestSpec)

/-- 'laws.FnExactComputeGrants', WHERE WHAT IT READS IS OF BULK AT MOST 1048576: true; the input reads as it did. -/
def fnExactComputeGrantsUptoRow : OpenClaim := { program := "ytfghhjcfmmhacaa", sum := "d37b7e1742439f1780a134ad6b0b6459b665e5b428aa74d783517b6bc0e34ec5", func := "loop.example/g01920/laws.FnExactComputeGrants", spec := "fnExactComputeGrants", unfollowed := true, recurses := true, apart := false, narrowed := true }
def FnExactComputeGrantsUptoSaid : Prop := fnExactComputeGrantsUptoRow.holds Try.pinned (OpenSpec.upto fnExactComputeGrantsSpec)

/-- 'laws.FnExactGrantFor', WHERE WHAT IT READS IS OF BULK AT MOST 1048576: true; the input reads as it did. -/
def fnExactGrantForUptoRow : OpenClaim := { program := "ytfghhjcfmmhacaa", sum := "d37b7e1742439f1780a134ad6b0b6459b665e5b428aa74d783517b6bc0e34ec5", func := "loop.example/g01920/laws.FnExactGrantFor", spec := "fnExactGrantFor", unfollowed := true, recurses := true, apart := false, narrowed := true }
def FnExactGrantForUptoSaid : Prop := fnExactGrantForUptoRow.holds Try.pinned (OpenSpec.upto fnExactGrantForSpec)

/-- 'laws.FnExactEqualBrokers', WHERE WHAT IT READS IS OF BULK AT MOST 1048576: true; the input reads as it did. -/
def fnExactEqualBrokersUptoRow : OpenClaim := { program := "ytfghhjcfmmhacaa", sum := "d37b7e1742439f1780a134ad6b0b6459b665e5b428aa74d783517b6bc0e34ec5", func := "loop.example/g01920/laws.FnExactEqualBrokers", spec := "fnExactEqualBrokers", apart := false, narrowed := true }
def FnExactEqualBrokersUptoSaid : Prop := fnExactEqualBrokersUptoRow.holds Try.pinned (OpenSpec.upto fnExactEqualBrokersSpec)

end Rows
end Go.Proofs.Ytfghhjcfmmhacaa
