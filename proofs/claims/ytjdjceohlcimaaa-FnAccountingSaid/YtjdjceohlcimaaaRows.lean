/-
  No cell of these rows narrows 'for every input' (looked for: loops, veiled, ifaces, maps, wideKeys, modest, calm, conditions, laid).
  DERIVED. THE GIVEN ROWS OF THIS SEAT. 7 by the template 'for every input the law returns true; each argument reads behind the call as it read before'; 0 by the template 'total and deterministic' (their statements: YtjdjceohlcimaaaTotals.lean).
  GIVEN WITH THE SEED: the statements are not yours to turn. If you find one false, say at which input.
  Laid BY PROGRAM, IN A SANDBOX (cutbox-rows.mjs): the forced cells as the released guide's own fill.sh prints them over the translation 26cbb36c40a94430… (all of the seat's roots in one cut). By AI agents, Wed Nov 11 2026. No macro, syntax, notation, axiom, sorry.
-/
import Derived.Test.YtjdjceohlcimaaaChecked
import GoSem.Claim
import GoSem.ClaimJoined
import GoSem.ClaimMapViews
import Derived.JoinedTies
import Derived.KernelRfl
namespace Go.Proofs.Ytjdjceohlcimaaa
/- THE CELL 'sum', in the pinned program and in every row, IS THE sha256 OF THE DUMP (.gsa) THAT YtjdjceohlcimaaaProg.lean LOADS. Nothing in Lean hashes anything: it is a label: what it is worth is what the hold of that sum in a sandbox is worth. -/
noncomputable def Try.pinned : Pinned := { name := "ytjdjceohlcimaaa", sum := "26cbb36c40a94430fae446751b45eabf8c5051f05c1ae1c5fb7fc23f8aed6091", checked := Try.checked }
namespace Rows
def none {H : Type} : Left H := { results := [], args := [] }

/-- 'laws.FnAccounting': WHATEVER THE INPUT: true; the input reads as it did. -/
def fnAccountingSpec : ChangeSpec := { name := "fnAccounting", fn := fun _ => fun
  | [d] => { results := [.lit (.bool true)], args := [d] }
  | _ => none }
def fnAccountingRow : OpenClaim := { program := "ytjdjceohlcimaaa", sum := "26cbb36c40a94430fae446751b45eabf8c5051f05c1ae1c5fb7fc23f8aed6091", func := "loop.example/g01920/laws.FnAccounting", spec := "fnAccounting", apart := false }
def FnAccountingSaid : Prop := fnAccountingRow.holds Try.pinned (OpenSpec.ofChange fnAccountingSpec)

/-- ITS FALSE NEIGHBOUR: 'it returns false'. Refute it at one input. -/
def fnAccountingWrong : ChangeSpec := { name := "fnAccounting", fn := fun _ => fun
  | [d] => { results := [.lit (.bool false)], args := [d] }
  | _ => none }
def FnAccountingWrongFalsely : Prop := fnAccountingRow.holds Try.pinned (OpenSpec.ofChange fnAccountingWrong)

/-- 'laws.FnExactNewAccount': WHATEVER THE INPUT: true; the input reads as it did. -/
def fnExactNewAccountSpec : ChangeSpec := { name := "fnExactNewAccount", fn := fun _ => fun
  | [d] => { results := [.lit (.bool true)], args := [d] }
  | _ => none }
def fnExactNewAccountRow : OpenClaim := { program := "ytjdjceohlcimaaa", sum := "26cbb36c40a94430fae446751b45eabf8c5051f05c1ae1c5fb7fc23f8aed6091", func := "loop.example/g01920/laws.FnExactNewAccount", spec := "fnExactNewAccount", apart := false }
def FnExactNewAccountSaid : Prop := fnExactNewAccountRow.holds Try.pinned (OpenSpec.ofChange fnExactNewAccountSpec)

/-- ITS FALSE NEIGHBOUR: 'it returns false'. Refute it at one input. -/
def fnExactNewAccountWrong : ChangeSpec := { name := "fnExactNewAccount", fn := fun _ => fun
  | [d] => { results := [.lit (.bool false)], args := [d] }
  | _ => none }
def FnExactNewAccountWrongFalsely : Prop := fnExactNewAccountRow.holds Try.pinned (OpenSpec.ofChange fnExactNewAccountWrong)

/-- 'laws.FnExactIsValidAccount': WHATEVER THE INPUT: true; the input reads as it did. -/
def fnExactIsValidAccountSpec : ChangeSpec := { name := "fnExactIsValidAccount", fn := fun _ => fun
  | [d] => { results := [.lit (.bool true)], args := [d] }
  | _ => none }
def fnExactIsValidAccountRow : OpenClaim := { program := "ytjdjceohlcimaaa", sum := "26cbb36c40a94430fae446751b45eabf8c5051f05c1ae1c5fb7fc23f8aed6091", func := "loop.example/g01920/laws.FnExactIsValidAccount", spec := "fnExactIsValidAccount", apart := false }
def FnExactIsValidAccountSaid : Prop := fnExactIsValidAccountRow.holds Try.pinned (OpenSpec.ofChange fnExactIsValidAccountSpec)

/-- ITS FALSE NEIGHBOUR: 'it returns false'. Refute it at one input. -/
def fnExactIsValidAccountWrong : ChangeSpec := { name := "fnExactIsValidAccount", fn := fun _ => fun
  | [d] => { results := [.lit (.bool false)], args := [d] }
  | _ => none }
def FnExactIsValidAccountWrongFalsely : Prop := fnExactIsValidAccountRow.holds Try.pinned (OpenSpec.ofChange fnExactIsValidAccountWrong)

/-- 'laws.FnExactCharge': WHATEVER THE INPUT: true; the input reads as it did. -/
def fnExactChargeSpec : ChangeSpec := { name := "fnExactCharge", fn := fun _ => fun
  | [d1, d2] => { results := [.lit (.bool true)], args := [d1, d2] }
  | _ => none }
def fnExactChargeRow : OpenClaim := { program := "ytjdjceohlcimaaa", sum := "26cbb36c40a94430fae446751b45eabf8c5051f05c1ae1c5fb7fc23f8aed6091", func := "loop.example/g01920/laws.FnExactCharge", spec := "fnExactCharge", apart := false }
def FnExactChargeSaid : Prop := fnExactChargeRow.holds Try.pinned (OpenSpec.ofChange fnExactChargeSpec)

/-- ITS FALSE NEIGHBOUR: 'it returns false'. Refute it at one input. -/
def fnExactChargeWrong : ChangeSpec := { name := "fnExactCharge", fn := fun _ => fun
  | [d1, d2] => { results := [.lit (.bool false)], args := [d1, d2] }
  | _ => none }
def FnExactChargeWrongFalsely : Prop := fnExactChargeRow.holds Try.pinned (OpenSpec.ofChange fnExactChargeWrong)

/-- 'laws.FnExactRelease': WHATEVER THE INPUT: true; the input reads as it did. -/
def fnExactReleaseSpec : ChangeSpec := { name := "fnExactRelease", fn := fun _ => fun
  | [d1, d2] => { results := [.lit (.bool true)], args := [d1, d2] }
  | _ => none }
def fnExactReleaseRow : OpenClaim := { program := "ytjdjceohlcimaaa", sum := "26cbb36c40a94430fae446751b45eabf8c5051f05c1ae1c5fb7fc23f8aed6091", func := "loop.example/g01920/laws.FnExactRelease", spec := "fnExactRelease", apart := false }
def FnExactReleaseSaid : Prop := fnExactReleaseRow.holds Try.pinned (OpenSpec.ofChange fnExactReleaseSpec)

/-- ITS FALSE NEIGHBOUR: 'it returns false'. Refute it at one input. -/
def fnExactReleaseWrong : ChangeSpec := { name := "fnExactRelease", fn := fun _ => fun
  | [d1, d2] => { results := [.lit (.bool false)], args := [d1, d2] }
  | _ => none }
def FnExactReleaseWrongFalsely : Prop := fnExactReleaseRow.holds Try.pinned (OpenSpec.ofChange fnExactReleaseWrong)

/-- 'laws.FnExactSetGrant': WHATEVER THE INPUT: true; the input reads as it did. -/
def fnExactSetGrantSpec : ChangeSpec := { name := "fnExactSetGrant", fn := fun _ => fun
  | [d1, d2] => { results := [.lit (.bool true)], args := [d1, d2] }
  | _ => none }
def fnExactSetGrantRow : OpenClaim := { program := "ytjdjceohlcimaaa", sum := "26cbb36c40a94430fae446751b45eabf8c5051f05c1ae1c5fb7fc23f8aed6091", func := "loop.example/g01920/laws.FnExactSetGrant", spec := "fnExactSetGrant", apart := false }
def FnExactSetGrantSaid : Prop := fnExactSetGrantRow.holds Try.pinned (OpenSpec.ofChange fnExactSetGrantSpec)

/-- ITS FALSE NEIGHBOUR: 'it returns false'. Refute it at one input. -/
def fnExactSetGrantWrong : ChangeSpec := { name := "fnExactSetGrant", fn := fun _ => fun
  | [d1, d2] => { results := [.lit (.bool false)], args := [d1, d2] }
  | _ => none }
def FnExactSetGrantWrongFalsely : Prop := fnExactSetGrantRow.holds Try.pinned (OpenSpec.ofChange fnExactSetGrantWrong)

/-- 'laws.FnExactExcess': WHATEVER THE INPUT: true; the input reads as it did. -/
def fnExactExcessSpec : ChangeSpec := { name := "fnExactExcess", fn := fun _ => fun
  | [d] => { results := [.lit (.bool true)], args := [d] }
  | _ => none }
def fnExactExcessRow : OpenClaim := { program := "ytjdjceohlcimaaa", sum := "26cbb36c40a94430fae446751b45eabf8c5051f05c1ae1c5fb7fc23f8aed6091", func := "loop.example/g01920/laws.FnExactExcess", spec := "fnExactExcess", apart := false }
def FnExactExcessSaid : Prop := fnExactExcessRow.holds Try.pinned (OpenSpec.ofChange fnExactExcessSpec)

/-- ITS FALSE NEIGHBOUR: 'it returns false'. Refute it at one input. -/
def fnExactExcessWrong : ChangeSpec := { name := "fnExactExcess", fn := fun _ => fun
  | [d] => { results := [.lit (.bool false)], args := [d] }
  | _ => none }
def FnExactExcessWrongFalsely : Prop := fnExactExcessRow.holds Try.pinned (OpenSpec.ofChange fnExactExcessWrong)

/- THE SECOND FORM. 'bulk': how many values and letters a reading holds, each counted each time it is reached (what is shared counts as often as it is met; a slice's spare places count too). A statement '..UptoSaid' is the law's where the arguments, and the package variables that the reading takes, are together of bulk at most 1048576: NARROWER than '..Said'. Prove '..Said' where nothing that the law and all that it calls make is longer than what came in: it says more and counts as full. Else prove '..UptoSaid'. A law counts once. -/
mutual
def uptoBulk {H : Type} : DataW H → Nat
  | .lit (.string bytes) => bytes.length + 1
  | .lit _ => 1
  | .nil => 1
  | .ptr d => uptoBulk d + 1
  | .slice elems spare => uptoBulkAll elems + uptoBulkAll spare + 1
  | .agg parts => uptoBulkAll parts + 1
  | .iface _ d => uptoBulk d + 1
  | .map entries => uptoBulkEntries entries + 1
  | .held _ => 1
def uptoBulkAll {H : Type} : List (DataW H) → Nat
  | [] => 0
  | d :: r => uptoBulk d + uptoBulkAll r
def uptoBulkEntries {H : Type} : List (Lit × DataW H) → Nat
  | [] => 0
  | x :: r => uptoBulkEntry x + uptoBulkEntries r
def uptoBulkEntry {H : Type} : Lit × DataW H → Nat
  | (.string bytes, d) => bytes.length + uptoBulk d + 1
  | (_, d) => uptoBulk d + 1
 end
def uptoSmall : (H : Type) → List (DataW H) → Bool := fun _ ds => decide (uptoBulkAll ds ≤ 1048576)
def OpenSpec.upto (s : _root_.Go.ChangeSpec) : _root_.Go.OpenSpec := { _root_.Go.OpenSpec.ofChange s with cond := some uptoSmall }

/-- 'laws.FnAccounting', WHERE WHAT IT READS IS OF BULK AT MOST 1048576: true; the input reads as it did. -/
def fnAccountingUptoRow : OpenClaim := { program := "ytjdjceohlcimaaa", sum := "26cbb36c40a94430fae446751b45eabf8c5051f05c1ae1c5fb7fc23f8aed6091", func := "loop.example/g01920/laws.FnAccounting", spec := "fnAccounting", apart := false, narrowed := true }
def FnAccountingUptoSaid : Prop := fnAccountingUptoRow.holds Try.pinned (OpenSpec.upto fnAccountingSpec)

/-- 'laws.FnExactNewAccount', WHERE WHAT IT READS IS OF BULK AT MOST 1048576: true; the input reads as it did. -/
def fnExactNewAccountUptoRow : OpenClaim := { program := "ytjdjceohlcimaaa", sum := "26cbb36c40a94430fae446751b45eabf8c5051f05c1ae1c5fb7fc23f8aed6091", func := "loop.example/g01920/laws.FnExactNewAccount", spec := "fnExactNewAccount", apart := false, narrowed := true }
def FnExactNewAccountUptoSaid : Prop := fnExactNewAccountUptoRow.holds Try.pinned (OpenSpec.upto fnExactNewAccountSpec)

/-- 'laws.FnExactIsValidAccount', WHERE WHAT IT READS IS OF BULK AT MOST 1048576: true; the input reads as it did. -/
def fnExactIsValidAccountUptoRow : OpenClaim := { program := "ytjdjceohlcimaaa", sum := "26cbb36c40a94430fae446751b45eabf8c5051f05c1ae1c5fb7fc23f8aed6091", func := "loop.example/g01920/laws.FnExactIsValidAccount", spec := "fnExactIsValidAccount", apart := false, narrowed := true }
def FnExactIsValidAccountUptoSaid : Prop := fnExactIsValidAccountUptoRow.holds Try.pinned (OpenSpec.upto fnExactIsValidAccountSpec)

/-- 'laws.FnExactCharge', WHERE WHAT IT READS IS OF BULK AT MOST 1048576: true; the input reads as it did. -/
def fnExactChargeUptoRow : OpenClaim := { program := "ytjdjceohlcimaaa", sum := "26cbb36c40a94430fae446751b45eabf8c5051f05c1ae1c5fb7fc23f8aed6091", func := "loop.example/g01920/laws.FnExactCharge", spec := "fnExactCharge", apart := false, narrowed := true }
def FnExactChargeUptoSaid : Prop := fnExactChargeUptoRow.holds Try.pinned (OpenSpec.upto fnExactChargeSpec)

/-- 'laws.FnExactRelease', WHERE WHAT IT READS IS OF BULK AT MOST 1048576: true; the input reads as it did. -/
def fnExactReleaseUptoRow : OpenClaim := { program := "ytjdjceohlcimaaa", sum := "26cbb36c40a94430fae446751b45eabf8c5051f05c1ae1c5fb7fc23f8aed6091", func := "loop.example/g01920/laws.FnExactRelease", spec := "fnExactRelease", apart := false, narrowed := true }
def FnExactReleaseUptoSaid : Prop := fnExactReleaseUptoRow.holds Try.pinned (OpenSpec.upto fnExactReleaseSpec)

/-- 'laws.FnExactSetGrant', WHERE WHAT IT READS IS OF BULK AT MOST 1048576: true; the input reads as it did. -/
def fnExactSetGrantUptoRow : OpenClaim := { program := "ytjdjceohlcimaaa", sum := "26cbb36c40a94430fae446751b45eabf8c5051f05c1ae1c5fb7fc23f8aed6091", func := "loop.example/g01920/laws.FnExactSetGrant", spec := "fnExactSetGrant", apart := false, narrowed := true }
def FnExactSetGrantUptoSaid : Prop := fnExactSetGrantUptoRow.holds Try.pinned (OpenSpec.upto fnExactSetGrantSpec)

/-- 'laws.FnExactExcess', WHERE WHAT IT READS IS OF BULK AT MOST 1048576: true; the input reads as it did. -/
def fnExactExcessUptoRow : OpenClaim := { program := "ytjdjceohlcimaaa", sum := "26cbb36c40a94430fae446751b45eabf8c5051f05c1ae1c5fb7fc23f8aed6091", func := "loop.example/g01920/laws.FnExactExcess", spec := "fnExactExcess", apart := false, narrowed := true }
def FnExactExcessUptoSaid : Prop := fnExactExcessUptoRow.holds Try.pinned (OpenSpec.upto fnExactExcessSpec)

end Rows
end Go.Proofs.Ytjdjceohlcimaaa
