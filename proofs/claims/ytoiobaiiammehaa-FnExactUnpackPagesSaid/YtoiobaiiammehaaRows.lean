/-
  No cell of these rows narrows 'for every input' (looked for: loops, veiled, ifaces, maps, wideKeys, modest, calm, conditions, laid).
  DERIVED. THE GIVEN ROWS OF THIS SEAT. 4 by the template 'for every input the law returns true; each argument reads behind the call as it read before'; 0 by the template 'total and deterministic' (their statements: YtoiobaiiammehaaTotals.lean).
  GIVEN WITH THE SEED: the statements are not yours to turn. If you find one false, say at which input.
  Laid BY PROGRAM, IN A SANDBOX (cutbox-rows.mjs): the forced cells as the released guide's own fill.sh prints them over the translation ba6f03a2532197b0… (all of the seat's roots in one cut). By AI agents, Wed Nov 11 2026. No macro, syntax, notation, axiom, sorry.
-/
import Derived.Test.YtoiobaiiammehaaChecked
import GoSem.Claim
import GoSem.ClaimJoined
import GoSem.ClaimMapViews
import Derived.JoinedTies
import Derived.KernelRfl
namespace Go.Proofs.Ytoiobaiiammehaa
/- THE CELL 'sum', in the pinned program and in every row, IS THE sha256 OF THE DUMP (.gsa) THAT YtoiobaiiammehaaProg.lean LOADS. Nothing in Lean hashes anything: it is a label: what it is worth is what the hold of that sum in a sandbox is worth. -/
noncomputable def Try.pinned : Pinned := { name := "ytoiobaiiammehaa", sum := "ba6f03a2532197b05dc12ce645c07b5f3d3914bb81af82a46045958ea9a15e0d", checked := Try.checked }
namespace Rows
def none {H : Type} : Left H := { results := [], args := [] }

/-- 'laws.FnExactIsValidPage': WHATEVER THE INPUT: true; the input reads as it did. -/
def fnExactIsValidPageSpec : ChangeSpec := { name := "fnExactIsValidPage", fn := fun _ => fun
  | [d] => { results := [.lit (.bool true)], args := [d] }
  | _ => none }
def fnExactIsValidPageRow : OpenClaim := { program := "ytoiobaiiammehaa", sum := "ba6f03a2532197b05dc12ce645c07b5f3d3914bb81af82a46045958ea9a15e0d", func := "loop.example/g01920/laws.FnExactIsValidPage", spec := "fnExactIsValidPage", apart := false }
def FnExactIsValidPageSaid : Prop := fnExactIsValidPageRow.holds Try.pinned (OpenSpec.ofChange fnExactIsValidPageSpec)

/-- ITS FALSE NEIGHBOUR: 'it returns false'. Refute it at one input. -/
def fnExactIsValidPageWrong : ChangeSpec := { name := "fnExactIsValidPage", fn := fun _ => fun
  | [d] => { results := [.lit (.bool false)], args := [d] }
  | _ => none }
def FnExactIsValidPageWrongFalsely : Prop := fnExactIsValidPageRow.holds Try.pinned (OpenSpec.ofChange fnExactIsValidPageWrong)

/-- 'laws.FnExactPackPages': WHATEVER THE INPUT: true; the input reads as it did. -/
def fnExactPackPagesSpec : ChangeSpec := { name := "fnExactPackPages", fn := fun _ => fun
  | [d] => { results := [.lit (.bool true)], args := [d] }
  | _ => none }
def fnExactPackPagesRow : OpenClaim := { program := "ytoiobaiiammehaa", sum := "ba6f03a2532197b05dc12ce645c07b5f3d3914bb81af82a46045958ea9a15e0d", func := "loop.example/g01920/laws.FnExactPackPages", spec := "fnExactPackPages", apart := false }
def FnExactPackPagesSaid : Prop := fnExactPackPagesRow.holds Try.pinned (OpenSpec.ofChange fnExactPackPagesSpec)

/-- ITS FALSE NEIGHBOUR: 'it returns false'. Refute it at one input. -/
def fnExactPackPagesWrong : ChangeSpec := { name := "fnExactPackPages", fn := fun _ => fun
  | [d] => { results := [.lit (.bool false)], args := [d] }
  | _ => none }
def FnExactPackPagesWrongFalsely : Prop := fnExactPackPagesRow.holds Try.pinned (OpenSpec.ofChange fnExactPackPagesWrong)

/-- 'laws.FnExactUnpackPages': WHATEVER THE INPUT: true; the input reads as it did. -/
def fnExactUnpackPagesSpec : ChangeSpec := { name := "fnExactUnpackPages", fn := fun _ => fun
  | [d] => { results := [.lit (.bool true)], args := [d] }
  | _ => none }
def fnExactUnpackPagesRow : OpenClaim := { program := "ytoiobaiiammehaa", sum := "ba6f03a2532197b05dc12ce645c07b5f3d3914bb81af82a46045958ea9a15e0d", func := "loop.example/g01920/laws.FnExactUnpackPages", spec := "fnExactUnpackPages", apart := false }
def FnExactUnpackPagesSaid : Prop := fnExactUnpackPagesRow.holds Try.pinned (OpenSpec.ofChange fnExactUnpackPagesSpec)

/-- ITS FALSE NEIGHBOUR: 'it returns false'. Refute it at one input. -/
def fnExactUnpackPagesWrong : ChangeSpec := { name := "fnExactUnpackPages", fn := fun _ => fun
  | [d] => { results := [.lit (.bool false)], args := [d] }
  | _ => none }
def FnExactUnpackPagesWrongFalsely : Prop := fnExactUnpackPagesRow.holds Try.pinned (OpenSpec.ofChange fnExactUnpackPagesWrong)

/-- 'laws.FnExactWouldOverflow': WHATEVER THE INPUT: true; the input reads as it did. -/
def fnExactWouldOverflowSpec : ChangeSpec := { name := "fnExactWouldOverflow", fn := fun _ => fun
  | [d1, d2] => { results := [.lit (.bool true)], args := [d1, d2] }
  | _ => none }
def fnExactWouldOverflowRow : OpenClaim := { program := "ytoiobaiiammehaa", sum := "ba6f03a2532197b05dc12ce645c07b5f3d3914bb81af82a46045958ea9a15e0d", func := "loop.example/g01920/laws.FnExactWouldOverflow", spec := "fnExactWouldOverflow", apart := false }
def FnExactWouldOverflowSaid : Prop := fnExactWouldOverflowRow.holds Try.pinned (OpenSpec.ofChange fnExactWouldOverflowSpec)

/-- ITS FALSE NEIGHBOUR: 'it returns false'. Refute it at one input. -/
def fnExactWouldOverflowWrong : ChangeSpec := { name := "fnExactWouldOverflow", fn := fun _ => fun
  | [d1, d2] => { results := [.lit (.bool false)], args := [d1, d2] }
  | _ => none }
def FnExactWouldOverflowWrongFalsely : Prop := fnExactWouldOverflowRow.holds Try.pinned (OpenSpec.ofChange fnExactWouldOverflowWrong)

/- THE SECOND FORM. 'bulk': how many values and letters a reading holds, each counted each time it is reached (what is shared counts as often as it is met; a slice's spare places count too). A statement '..UptoSaid' is the law's where the arguments, and the package variables that the reading takes, are together of bulk at most 1048576: NARROWER than '..Said'. Prove '..Said' where nothing that the law and all that it calls make is longer than what came in: it says more and counts as full. Else prove '..UptoSaid'. A law counts once. -/
mutual
def uptoBulk {H : Type} : DataW H → Nat
  | .lit (.string bytes) => bytes.length + 1
  | .lit _ => 1
  | .nil => 1
  | .ptr d => uptoBulk d + 1
  | .slice elems spare => uptoBulkAll elems + uptoBulkAll spare + 1
  | .agg parts => uptoBulkAll parts + 1
  | .iface _ d => uptoBulk d + 1
  | .map entries => uptoBulkEntries entries + 1
  | .held _ => 1
def uptoBulkAll {H : Type} : List (DataW H) → Nat
  | [] => 0
  | d :: r => uptoBulk d + uptoBulkAll r
def uptoBulkEntries {H : Type} : List (Lit × DataW H) → Nat
  | [] => 0
  | x :: r => uptoBulkEntry x + uptoBulkEntries r
def uptoBulkEntry {H : Type} : Lit × DataW H → Nat
  | (.string bytes, d) => bytes.length + uptoBulk d + 1
  | (_, d) => uptoBulk d + 1
 end
def uptoSmall : (H : Type) → List (DataW H) → Bool := fun _ ds => decide (uptoBulkAll ds ≤ 1048576)
def OpenSpec.upto (s : _root_.Go.ChangeSpec) : _root_.Go.OpenSpec := { _root_.Go.OpenSpec.ofChange s with cond := some uptoSmall }

/-- 'laws.FnExactIsValidPage', WHERE WHAT IT READS IS OF BULK AT MOST 1048576: true; the input reads as it did. -/
def fnExactIsValidPageUptoRow : OpenClaim := { program := "ytoiobaiiammehaa", sum := "ba6f03a2532197b05dc12ce645c07b5f3d3914bb81af82a46045958ea9a15e0d", func := "loop.example/g01920/laws.FnExactIsValidPage", spec := "fnExactIsValidPage", apart := false, narrowed := true }
def FnExactIsValidPageUptoSaid : Prop := fnExactIsValidPageUptoRow.holds Try.pinned (OpenSpec.upto fnExactIsValidPageSpec)

/-- 'laws.FnExactPackPages', WHERE WHAT IT READS IS OF BULK AT MOST 1048576: true; the input reads as it did. -/
def fnExactPackPagesUptoRow : OpenClaim := { program := "ytoiobaiiammehaa", sum := "ba6f03a2532197b05dc12ce645c07b5f3d3914bb81af82a46045958ea9a15e0d", func := "loop.example/g01920/laws.FnExactPackPages", spec := "fnExactPackPages", apart := false, narrowed := true }
def FnExactPackPagesUptoSaid : Prop := fnExactPackPagesUptoRow.holds Try.pinned (OpenSpec.upto fnExactPackPagesSpec)

/-- 'laws.FnExactUnpackPages', WHERE WHAT IT READS IS OF BULK AT MOST 1048576: true; the input reads as it did. -/
def fnExactUnpackPagesUptoRow : OpenClaim := { program := "ytoiobaiiammehaa", sum := "ba6f03a2532197b05dc12ce645c07b5f3d3914bb81af82a46045958ea9a15e0d", func := "loop.example/g01920/laws.FnExactUnpackPages", spec := "fnExactUnpackPages", apart := false, narrowed := true }
def FnExactUnpackPagesUptoSaid : Prop := fnExactUnpackPagesUptoRow.holds Try.pinned (OpenSpec.upto fnExactUnpackPagesSpec)

/-- 'laws.FnExactWouldOverflow', WHERE WHAT IT READS IS OF BULK AT MOST 1048576: true; the input reads as it did. -/
def fnExactWouldOverflowUptoRow : OpenClaim := { program := "ytoiobaiiammehaa", sum := "ba6f03a2532197b05dc12ce645c07b5f3d3914bb81af82a46045958ea9a15e0d", func := "loop.example/g01920/laws.FnExactWouldOverflow", spec := "fnExactWouldOverflow", apart := false, narrowed := true }
def FnExactWouldOverflowUptoSaid : Prop := fnExactWouldOverflowUptoRow.holds Try.pinned (OpenSpec.upto fnExactWouldOverflowSpec)

end Rows
end Go.Proofs.Ytoiobaiiammehaa
